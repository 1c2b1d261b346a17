/- Nets and rules as arguments: opened to their cells. -/
import Derived.Test.YtecamnhnjmldcaaGreatDoorB23
import Derived.Test.YtecamnhnjmldcaaGreatDoorB01
set_option linter.unusedSimpArgs false
set_option linter.unusedVariables false
namespace Go.Proofs.YtecamnhnjmldcaaGreatDoor
open Go.RowKit
open Go.ChangeShapes Go.WideShapes Go.Deep Go.Joins
def pcellsL (p : Pt) (A : Option Addr) (c : Nat) : List Value := [.int .i64 p.frm, .int .i64 p.dst, .int .i64 p.grade, .int .i64 p.tl, .int .i64 p.th, .int .i64 p.sl, .int .i64 p.sh, .slice A p.opens.length c]
theorem cellsPath : Tryz.prog.cellsOf 64 = 8 := by kernel_rfl
theorem cellsOpens : Tryz.prog.cellsOf 35 = 1 := by kernel_rfl
section
variable {H : Type} {enc : TypeId × Value → H} {w : World} {base : Nat} {spare : Nat → Bool} {held : Bool}
set_option maxRecDepth 100000 in
theorem open_spans {fuel : Nat} {cs : List Value} {x : DataW H × List MemPlace} (h : DataW.trod enc Tryz.prog w base spare held fuel 35 cs = some x) :
    ∃ A os c, cs = [.slice A os.length c] ∧ os.length ≤ c ∧ OpensAt w A os := by
  rcases open_slice Tryz.underlying35 h with ⟨rfl, _⟩ | ⟨a, len, cap, m, n, D, Pl, rfl, hb, hl, hm, hmm, hx, hi⟩
  · exact ⟨none, [], 0, rfl, Nat.le_refl _, fun h => absurd rfl h⟩
  · have hlm : len ≤ m := by rw [hmm]; split <;> omega
    have hel : ∀ i, i < len → ∃ o : Int × Int, (w.cell? ⟨a.block, a.off + i * 2, none⟩ = some (.int .i64 o.1) ∧ w.cell? ⟨a.block, a.off + i * 2 + 1, none⟩ = some (.int .i64 o.2)) ∧ a.block < w.heap.size := fun i hil => by
      obtain ⟨cs', hc, ht⟩ := hi i (by omega)
      rw [cellsSpan] at hc
      obtain ⟨_, hl2, hat⟩ := World.cells?_some hc
      obtain ⟨y0, y1, n', _, _, h0, h1⟩ := trod_struct2 Tryz.underlying27 ht
      obtain ⟨u, e0, _, _⟩ := DataW.trod_int Tryz.underlying3 h0
      obtain ⟨v, e1, _, _⟩ := DataW.trod_int Tryz.underlying3 h1
      rw [cellsInt] at e0 e1
      match cs', hl2 with
      | [p, q], _ =>
        simp at e0 e1
        subst e0 e1
        have a0 := hat 0 (by omega)
        have a1 := hat 1 (by omega)
        rw [Go.Deep.add_add] at a0 a1
        have b0 := add_cell a0
        have b1 := add_cell a1
        exact ⟨(u, v), ⟨b0.1, by rw [Nat.add_assoc]; exact b1.1⟩, b0.2⟩
    obtain ⟨os, ho, hos⟩ := exists_list ((0, 0) : Int × Int) _ len hel
    subst ho
    exact ⟨some a, os, cap, rfl, hl, fun hne => by
      have h0 : 0 < os.length := List.length_pos_iff.2 hne
      have hb0 := (hos 0 h0).2
      have hsp : a = ⟨a.block, a.off, none⟩ := by
        obtain ⟨cs', hc, ht⟩ := hi 0 (by omega)
        obtain ⟨_, hl2, hat⟩ := World.cells?_some hc
        rw [cellsSpan] at hat hl2
        have a0 := hat 0 (by omega)
        obtain ⟨b, o, sp⟩ := a
        cases sp with
        | none => rfl
        | some sp =>
          exfalso
          have hn : cs'[0]? ≠ none := by rw [List.getElem?_eq_getElem (by omega)]; simp
          apply hn
          rw [← a0]
          simp only [Nat.zero_mul, Addr.add, if_true]
          unfold World.cell?
          split <;> simp
      exact ⟨a.block, a.off, by rw [← hsp], hb0, fun k hk => (hos k hk).1⟩⟩
set_option maxRecDepth 100000 in
theorem open_path {fuel : Nat} {cs : List Value} {x : DataW H × List MemPlace} (h : DataW.trod enc Tryz.prog w base spare held fuel 64 cs = some x) :
    ∃ p A c, cs = (pcellsL p A c) ∧ p.opens.length ≤ c ∧ OpensAt w A p.opens := by
  obtain ⟨ys, n', hn', hy, hlen, hyl, hf⟩ := DataW.trod_struct Tryz.underlying64 h
  have h0 : DataW.trod enc Tryz.prog w base spare held n' 3 ((cs.drop 0).take (Tryz.prog.cellsOf 3)) = ys[0]? := hf 0 _ rfl
  obtain ⟨y0, e0⟩ := some_of_len hyl (k := 0) (by simp)
  rw [e0, cellsInt] at h0
  have h1 : DataW.trod enc Tryz.prog w base spare held n' 3 ((cs.drop 1).take (Tryz.prog.cellsOf 3)) = ys[1]? := hf 1 _ rfl
  obtain ⟨y1, e1⟩ := some_of_len hyl (k := 1) (by simp)
  rw [e1, cellsInt] at h1
  have h2 : DataW.trod enc Tryz.prog w base spare held n' 3 ((cs.drop 2).take (Tryz.prog.cellsOf 3)) = ys[2]? := hf 2 _ rfl
  obtain ⟨y2, e2⟩ := some_of_len hyl (k := 2) (by simp)
  rw [e2, cellsInt] at h2
  have h3 : DataW.trod enc Tryz.prog w base spare held n' 27 ((cs.drop 3).take (Tryz.prog.cellsOf 27)) = ys[3]? := hf 3 _ rfl
  obtain ⟨y3, e3⟩ := some_of_len hyl (k := 3) (by simp)
  rw [e3, cellsSpan] at h3
  have h4 : DataW.trod enc Tryz.prog w base spare held n' 27 ((cs.drop 5).take (Tryz.prog.cellsOf 27)) = ys[4]? := hf 4 _ rfl
  obtain ⟨y4, e4⟩ := some_of_len hyl (k := 4) (by simp)
  rw [e4, cellsSpan] at h4
  have h5 : DataW.trod enc Tryz.prog w base spare held n' 35 ((cs.drop 7).take (Tryz.prog.cellsOf 35)) = ys[5]? := hf 5 _ rfl
  obtain ⟨y5, e5⟩ := some_of_len hyl (k := 5) (by simp)
  rw [e5, cellsOpens] at h5
  rw [cellsPath] at hlen
  match cs, hlen with
  | [c0, c1, c2, c3, c4, c5, c6, c7], _ =>
    simp only [List.drop_zero, List.drop_succ_cons, List.take_succ_cons, List.take_zero] at h0 h1 h2 h3 h4 h5
    obtain ⟨f, g0, _, _⟩ := DataW.trod_int Tryz.underlying3 h0
    obtain ⟨d, g1, _, _⟩ := DataW.trod_int Tryz.underlying3 h1
    obtain ⟨g, g2, _, _⟩ := DataW.trod_int Tryz.underlying3 h2
    obtain ⟨a3, b3, _, _, _, i3, j3⟩ := trod_struct2 Tryz.underlying27 h3
    obtain ⟨a4, b4, _, _, _, i4, j4⟩ := trod_struct2 Tryz.underlying27 h4
    rw [cellsInt] at i3 j3 i4 j4
    simp only [List.drop_zero, List.drop_succ_cons, List.take_succ_cons, List.take_zero] at i3 j3 i4 j4
    obtain ⟨tl, g3, _, _⟩ := DataW.trod_int Tryz.underlying3 i3
    obtain ⟨th, g4, _, _⟩ := DataW.trod_int Tryz.underlying3 j3
    obtain ⟨sl, g5, _, _⟩ := DataW.trod_int Tryz.underlying3 i4
    obtain ⟨sh, g6, _, _⟩ := DataW.trod_int Tryz.underlying3 j4
    obtain ⟨A, os, c, g7, hle, hos⟩ := open_spans h5
    simp only [List.cons.injEq, and_true] at g0 g1 g2 g3 g4 g5 g6 g7
    subst g0 g1 g2 g3 g4 g5 g6 g7
    exact ⟨⟨f, d, g, tl, th, sl, sh, os⟩, A, c, rfl, hle, hos⟩
set_option maxRecDepth 100000 in
theorem open_paths {fuel : Nat} {cs : List Value} {x : DataW H × List MemPlace} (h : DataW.trod enc Tryz.prog w base spare held fuel 45 cs = some x) :
    ∃ A ps c, cs = [.slice A ps.length c] ∧ ps.length ≤ c ∧ PathsAt w A ps := by
  rcases open_slice Tryz.underlying45 h with ⟨rfl, _⟩ | ⟨a, len, cap, m, n, D, Pl, rfl, hb, hl, hm, hmm, hx, hi⟩
  · exact ⟨none, [], 0, rfl, Nat.le_refl _, fun h => absurd rfl h⟩
  · have hlm : len ≤ m := by rw [hmm]; split <;> omega
    have hel : ∀ i, i < len → ∃ p : Pt, (∃ A' c', PtAt w a.block (a.off + i * 8) p A' c') ∧ a.block < w.heap.size ∧ (i = 0 → a = ⟨a.block, a.off, none⟩) := fun i hil => by
      obtain ⟨cs', hc, ht⟩ := hi i (by omega)
      rw [cellsPath] at hc
      obtain ⟨_, hl2, hat⟩ := World.cells?_some hc
      obtain ⟨p, A', c', rfl, hle, hos⟩ := open_path ht
      have hk : ∀ k v, (pcellsL p A' c')[k]? = some v → k < 8 → w.cell? ⟨a.block, a.off + i * 8 + k, none⟩ = some v ∧ a.block < w.heap.size := fun k v hv hk8 => by
        have h0 := (hat k hk8).trans hv
        rw [Go.Deep.add_add] at h0
        have h1 := add_cell h0
        exact ⟨by rw [Nat.add_assoc]; exact h1.1, h1.2⟩
      refine ⟨p, ⟨A', c', (hk 0 _ rfl (by omega)).1, (hk 1 _ rfl (by omega)).1, (hk 2 _ rfl (by omega)).1, (hk 3 _ rfl (by omega)).1, (hk 4 _ rfl (by omega)).1, (hk 5 _ rfl (by omega)).1, (hk 6 _ rfl (by omega)).1, (hk 7 _ rfl (by omega)).1, hle, hos⟩, (hk 0 _ rfl (by omega)).2, fun hi0 => ?_⟩
      subst hi0
      have a0 : w.cell? ((a.add (0 * 8)).add 0) = some (.int .i64 p.frm) := hat 0 (by omega)
      obtain ⟨b, o, sp⟩ := a
      cases sp with
      | none => rfl
      | some sp =>
        exfalso
        simp only [Nat.zero_mul, Addr.add, if_true] at a0
        unfold World.cell? at a0
        split at a0 <;> simp at a0
    obtain ⟨ps, ho, hps⟩ := exists_list zeroPt _ len hel
    subst ho
    exact ⟨some a, ps, cap, rfl, hl, fun hne => by
      have h0 : 0 < ps.length := List.length_pos_iff.2 hne
      exact ⟨a.block, a.off, by rw [← (hps 0 h0).2.2 rfl], (hps 0 h0).2.1, fun k hk => (hps k hk).1⟩⟩
theorem cellsRule : Tryz.prog.cellsOf 79 = 6 := by kernel_rfl
theorem cellsNet : Tryz.prog.cellsOf 47 = 2 := by kernel_rfl
theorem cellsRuled : Tryz.prog.cellsOf 50 = 4 := by kernel_rfl
theorem cellsSlP : Tryz.prog.cellsOf 45 = 1 := by kernel_rfl
theorem cellsSlR : Tryz.prog.cellsOf 48 = 1 := by kernel_rfl
set_option maxRecDepth 100000 in
theorem open_rule {fuel : Nat} {cs : List Value} {x : DataW H × List MemPlace} (h : DataW.trod enc Tryz.prog w base spare held fuel 79 cs = some x) : ∃ o : Rl, cs = [.int .i64 o.path, .int .i64 o.after, .int .i64 o.lim.wind, .int .i64 o.lim.rain, .int .i64 o.lim.tl, .int .i64 o.lim.th] := by
  obtain ⟨ys, n', hn', hy, hlen, hyl, hf⟩ := DataW.trod_struct Tryz.underlying79 h
  obtain ⟨y0, h0, _⟩ := field_of hyl hf 0 rfl (t := 3) (o := 0) rfl rfl cellsInt
  obtain ⟨y1, h1, _⟩ := field_of hyl hf 1 rfl (t := 3) (o := 1) rfl rfl cellsInt
  obtain ⟨y2, h2, _⟩ := field_of hyl hf 2 rfl (t := 29) (o := 2) rfl rfl cellsLim
  rw [cellsRule] at hlen
  match cs, hlen with
  | [c0, c1, c2, c3, c4, c5], _ =>
    simp only [List.drop_zero, List.drop_succ_cons, List.take_succ_cons, List.take_zero] at h0 h1 h2
    obtain ⟨a0, g0, _, _⟩ := DataW.trod_int Tryz.underlying3 h0
    obtain ⟨a1, g1, _, _⟩ := DataW.trod_int Tryz.underlying3 h1
    obtain ⟨o, g2, _⟩ := open_limits h2
    simp only [List.cons.injEq, and_true] at g0 g1 g2
    obtain ⟨g2, g3, g4, g5⟩ := g2
    subst g0 g1 g2 g3 g4 g5
    exact ⟨⟨a0, a1, o⟩, rfl⟩
set_option maxRecDepth 100000 in
theorem open_rules {fuel : Nat} {cs : List Value} {x : DataW H × List MemPlace} (h : DataW.trod enc Tryz.prog w base spare held fuel 48 cs = some x) :
    ∃ A os c, cs = [.slice A os.length c] ∧ os.length ≤ c ∧ RlsAt w A os ∧ ∀ o : Rl, o ∈ os → True := by
  rcases open_slice Tryz.underlying48 h with ⟨rfl, _⟩ | ⟨a, len, cap, m, n, D, Pl, rfl, hb, hl, hm, hmm, hx, hi⟩
  · exact ⟨none, [], 0, rfl, Nat.le_refl _, fun h => absurd rfl h, fun o ho => by cases ho⟩
  · have hlm : len ≤ m := by rw [hmm]; split <;> omega
    have hel : ∀ i, i < len → ∃ o : Rl, RlAt w a.block (a.off + i * 6) o ∧ a.block < w.heap.size ∧ True := fun i hil => by
      obtain ⟨cs', hc, ht⟩ := hi i (by omega)
      rw [cellsRule] at hc
      obtain ⟨_, hl2, hat⟩ := World.cells?_some hc
      obtain ⟨o, rfl⟩ := open_rule ht
      have hk : ∀ k v, ([.int .i64 o.path, .int .i64 o.after, .int .i64 o.lim.wind, .int .i64 o.lim.rain, .int .i64 o.lim.tl, .int .i64 o.lim.th] : List Value)[k]? = some v → k < 6 → w.cell? ⟨a.block, a.off + i * 6 + k, none⟩ = some v ∧ a.block < w.heap.size := fun k v hv hk8 => by
        have h0 := (hat k hk8).trans hv
        rw [Go.Deep.add_add] at h0
        have h1 := add_cell h0
        exact ⟨by rw [Nat.add_assoc]; exact h1.1, h1.2⟩
      exact ⟨o, ⟨(hk 0 _ rfl (by omega)).1, (hk 1 _ rfl (by omega)).1, (hk 2 _ rfl (by omega)).1, (hk 3 _ rfl (by omega)).1, (hk 4 _ rfl (by omega)).1, (hk 5 _ rfl (by omega)).1⟩, (hk 0 _ rfl (by omega)).2, trivial⟩
    obtain ⟨os, ho, hos⟩ := exists_list zeroRl _ len hel
    subst ho
    refine ⟨some a, os, cap, rfl, hl, fun hne => ?_, fun o ho => ?_⟩
    · have h0 : 0 < os.length := List.length_pos_iff.2 hne
      have hb0 := (hos 0 h0).2.1
      have hsp : a = ⟨a.block, a.off, none⟩ := by
        obtain ⟨cs', hc, ht⟩ := hi 0 (by omega)
        obtain ⟨_, hl2, hat⟩ := World.cells?_some hc
        rw [cellsRule] at hat hl2
        exact addr_plain hl2 (by omega) hat
      exact ⟨a.block, a.off, by rw [← hsp], hb0, fun k hk => (hos k hk).1⟩
    · obtain ⟨i, hi', rfl⟩ := List.getElem_of_mem ho
      have h9 := (hos i hi').2.2
      have e9 : os.getD i zeroRl = os[i] := by simp [List.getD, List.getElem?_eq_getElem hi']
      first | trivial | (rw [e9] at h9; exact h9)
set_option maxRecDepth 100000 in
theorem open_netc {fuel : Nat} {cs : List Value} {x : DataW H × List MemPlace} (h : DataW.trod enc Tryz.prog w base spare held fuel 47 cs = some x) : ∃ m A ps c, cs = [.int .i64 m, .slice A (List.length ps) c] ∧ PathsAt w A ps := by
  obtain ⟨ys, n', hn', hy, hlen, hyl, hf⟩ := DataW.trod_struct Tryz.underlying47 h
  obtain ⟨y0, h0, _⟩ := field_of hyl hf 0 rfl (t := 3) (o := 0) rfl rfl cellsInt
  obtain ⟨y1, h1, _⟩ := field_of hyl hf 1 rfl (t := 45) (o := 1) rfl rfl cellsSlP
  rw [cellsNet] at hlen
  match cs, hlen with
  | [c0, c1], _ =>
    simp only [List.drop_zero, List.drop_succ_cons, List.take_succ_cons, List.take_zero] at h0 h1
    obtain ⟨a0, g0, _, _⟩ := DataW.trod_int Tryz.underlying3 h0
    obtain ⟨A, ps, c, g1, -, hp⟩ := open_paths h1
    simp only [List.cons.injEq, and_true] at g0 g1
    subst g0 g1
    exact ⟨a0, A, ps, c, rfl, hp⟩
theorem array4 {α : Type} {cs : Array α} (h : cs.size = 4) : ∃ c0 c1 c2 c3, cs = #[c0, c1, c2, c3] := by
  obtain ⟨l⟩ := cs
  match l, h with
  | [c0, c1, c2, c3], _ => exact ⟨c0, c1, c2, c3, rfl⟩
set_option maxRecDepth 100000 in
theorem open_ruled {r : Reach} {b0 : Nat} {v : Value} {d : DataW H} {p : List MemPlace} (hv : Value.okWide Tryz.prog w r b0 50 v) (h : DataW.Trod enc Tryz.prog w base spare held 50 v d p) :
    ∃ m NA ps nc RA rs rc path, v = .agg #[.int .i64 m, .slice NA (List.length ps) nc, .slice RA (List.length rs) rc, .int .i64 path] ∧ PathsAt w NA ps ∧ RlsAt w RA rs := by
  obtain ⟨cs, rfl, hsz⟩ := okWide_struct Tryz.underlying50 hv
  obtain ⟨c0, c1, c2, c3, rfl⟩ := array4 (hsz.trans cellsRuled)
  obtain ⟨fuel, hf0⟩ := h
  obtain ⟨ys, n', hn', hy, hlen, hyl, hf⟩ := DataW.trod_struct Tryz.underlying50 hf0
  obtain ⟨y0, h0, _⟩ := field_of hyl hf 0 rfl (t := 47) (o := 0) rfl rfl cellsNet
  obtain ⟨y1, h1, _⟩ := field_of hyl hf 1 rfl (t := 48) (o := 2) rfl rfl cellsSlR
  obtain ⟨y2, h2, _⟩ := field_of hyl hf 2 rfl (t := 3) (o := 3) rfl rfl cellsInt
  have h0' : DataW.trod enc Tryz.prog w base spare held n' 47 [c0, c1] = some y0 := h0
  have h1' : DataW.trod enc Tryz.prog w base spare held n' 48 [c2] = some y1 := h1
  have h2' : DataW.trod enc Tryz.prog w base spare held n' 3 [c3] = some y2 := h2
  obtain ⟨m, NA, ps, nc, g0, hp⟩ := open_netc h0'
  obtain ⟨RA, rs, rc, g1, -, hr, -⟩ := open_rules h1'
  obtain ⟨path, g2, -, -⟩ := DataW.trod_int Tryz.underlying3 h2'
  simp only [List.cons.injEq, and_true] at g0 g1 g2
  obtain ⟨g0, g3⟩ := g0
  subst g0 g1 g2 g3
  exact ⟨m, NA, ps, nc, RA, rs, rc, path, rfl, hp, hr⟩
end
end Go.Proofs.YtecamnhnjmldcaaGreatDoor
