/- Rows of paths of a call's own. -/
import Derived.Test.YtecamnhnjmldcaaGreatDoorB16
set_option linter.unusedSimpArgs false
set_option linter.unusedVariables false
namespace Go.Proofs.YtecamnhnjmldcaaGreatDoor
open Go.RowKit
/-- A path, and where its spans lie. -/
abbrev PtX := Pt × Option Addr × Nat
def zeroPx : PtX := (zeroPt, none, 0)
def gPt (x : PtX) : List Value := [.int .i64 x.1.frm, .int .i64 x.1.dst, .int .i64 x.1.grade, .int .i64 x.1.tl, .int .i64 x.1.th, .int .i64 x.1.sl, .int .i64 x.1.sh, .slice x.2.1 x.1.opens.length x.2.2]
theorem onePt : ∀ y : PtX, ∀ u ∈ gPt y, u.oneCell' = true := by
  intro y u hu
  simp only [gPt, List.mem_cons, List.not_mem_nil, or_false] at hu
  rcases hu with rfl | rfl | rfl | rfl | rfl | rfl | rfl | rfl <;> rfl
theorem infoPt : (Tryz.prog.info? 64).map (fun i => (i.zero, i.size, i.bytes)) = some (some (.agg #[.int .i64 0, .int .i64 0, .int .i64 0, .int .i64 0, .int .i64 0, .int .i64 0, .int .i64 0, .slice none 0 0]), 8, 80) := by kernel_rfl
set_option maxRecDepth 100000 in
set_option maxHeartbeats 1000000 in
theorem clonePt_any (A : Option Addr) (n c : Nat) (xs : List PtX) (hn : xs.length = n) (hm : n ≤ 10000) (w : World) (hx : FlatAt 8 gPt zeroPx w A xs) :
    Calls Tryz.prog 66 #[.slice A n c] w fun e w' => ∃ v, e = .returned v ∧ Ownl 64 8 gPt w' w.heap.size v xs ∧ Ext w w' := by
  subst hn
  have HX := hid hx
  have hnil : ∀ (W : World) (a : Option Addr) (n c n' c' : Nat), (binOp .eql 45 (.slice a n c) (.slice none n' c')).run Tryz.prog W = .ok (.bool a.isNone) W := fun W a n c n' c' => Lib.run_eql_slice_nil W _ _ a n c n' c' Tryz.underlying45
  obtain ⟨i0, hi, hz0, hz1, hz2⟩ := info_parts infoPt
  cases A with
  | none =>
    have h0 : xs = [] := by
      rcases xs with _ | ⟨x, xs⟩
      · rfl
      · obtain ⟨b, o, e, _⟩ := hx (by simp)
        cases e
    subst h0
    clear hx
    go_enter Tryz.func66, Tryz.ntmps66
    go_wp2
    go_ret
    exact ⟨_, rfl, Ownl.nil _ _, by (repeat' (first | with_reducible assumption | with_reducible exact Ext.refl _ | with_reducible refine Ext.alloc ?_ _ | with_reducible refine Ext.set ?_ ?_ _ | with_reducible refine Ext.drew ?_ | with_reducible refine Ext.drewN ?_ _ | with_reducible refine Ext.trans ?_ (by assumption) | (dsimp only; omega)))⟩
  | some a =>
    clear hx
    go_enter Tryz.func66, Tryz.ntmps66
    go_wp2_with (at_builtin; refine Halt.mk ?_)
    unfold Halt
    refine wpList_plain rfl fun _ hK => wp_appendAllG zeroPx _ _ _ 45 64 rfl Tryz.underlying45 hi hz0 hz1 hz2 rfl (by decide) (by decide) (fun _ => rfl) (onePt) w.heap.size w.heap.size (some a) c xs rfl (blk_last _ _) (Nat.le_refl _) rfl ?_ hm ?_
    · intro hne
      obtain ⟨b, off, hA, hb, hc⟩ := HX.out hne
      exact ⟨b, off, hA, Nat.lt_of_lt_of_le hb (ext_alloc1 _ _).size, fun k hk r hr => ((ext_alloc1 w _).cell hb).trans (hc k hk r hr)⟩
    · intro v' w' ho hg
      refine hK _ _ ?_
      have HO := hid ho
      have HE := hid (show Ext w w' from Below.grown (ext_alloc1 w _) hg (ext_alloc1 w _).size (fun j ej => by injection ej with ej; omega))
      clear ho hg
      go_wp2
      go_ret
      exact ⟨_, rfl, HO.out, HE.out⟩
/-- The spans of paths lie in memory, in blocks that are ok. -/
def OpsIn (w : World) (ok : Nat → Prop) (xs : List PtX) : Prop := ∀ k, k < xs.length → (xs.getD k zeroPx).1.opens.length ≤ (xs.getD k zeroPx).2.2 ∧ OpensAt w (xs.getD k zeroPx).2.1 (xs.getD k zeroPx).1.opens ∧ ((xs.getD k zeroPx).1.opens ≠ [] → ∀ b o sp, (xs.getD k zeroPx).2.1 = some ⟨b, o, sp⟩ → ok b)
theorem OpsIn.ext {w w' : World} {q : Nat → Prop} {xs : List PtX} (h : OpsIn w q xs) (e : Ext w w') : OpsIn w' q xs := fun k hk => ⟨(h k hk).1, (h k hk).2.1.ext e, (h k hk).2.2⟩
theorem OpensAt.other {w : World} {A : Option Addr} {os : List (Int × Int)} (h : OpensAt w A os) {p : Addr} (hne : os ≠ [] → ∀ b o sp, A = some ⟨b, o, sp⟩ → b ≠ p.block) (u : Value) : OpensAt (w.setCell p u) A os := fun hx => by
  obtain ⟨b, off, hA, hb, hc⟩ := h hx
  have hb2 := hne hx b off none hA
  refine ⟨b, off, hA, by simpa using hb, fun k hk => ?_⟩
  rw [World.cell?_setCell_other _ _ _ _ (fun e => hb2 (by rw [e])), World.cell?_setCell_other _ _ _ _ (fun e => hb2 (by rw [e]))]
  exact hc k hk
theorem OpsIn.mono {w : World} {p q : Nat → Prop} {xs : List PtX} (h : OpsIn w p xs) (hpq : ∀ b, p b → q b) : OpsIn w q xs := fun k hk => ⟨(h k hk).1, (h k hk).2.1, fun hne b o sp hA => hpq b ((h k hk).2.2 hne b o sp hA)⟩
theorem OpsIn.set {w : World} {ok : Nat → Prop} {xs : List PtX} (h : OpsIn w ok xs) {p : Addr} (hp : ∀ b, ok b → b ≠ p.block) (u : Value) : OpsIn (w.setCell p u) ok xs := fun k hk => ⟨(h k hk).1, (h k hk).2.1.other (fun hne b o sp hA => hp b ((h k hk).2.2 hne b o sp hA)) u, (h k hk).2.2⟩
theorem OpsIn.put {w : World} {ok : Nat → Prop} {xs : List PtX} (h : OpsIn w ok xs) (k : Nat) (p : Pt) (A : Option Addr) (c : Nat) (hc : p.opens.length ≤ c) (ho : OpensAt w A p.opens) (hb : p.opens ≠ [] → ∀ b o sp, A = some ⟨b, o, sp⟩ → ok b) : OpsIn w ok (xs.set k (p, A, c)) := fun j hj => by
  rw [List.length_set] at hj
  by_cases hjk : k = j
  · subst hjk
    have e : (xs.set k (p, A, c)).getD k zeroPx = (p, A, c) := by simp [List.getD, List.getElem?_set_self hj]
    rw [e]
    exact ⟨hc, ho, hb⟩
  · have e : (xs.set k (p, A, c)).getD j zeroPx = xs.getD j zeroPx := by simp [List.getD, List.getElem?_set_ne hjk]
    rw [e]
    exact h j hj
theorem px_list {w : World} {A : Option Addr} {ps : List Pt} {n : Nat} (hn : ps.length = n) (h : PathsAt w A ps) : ∃ xs : List PtX, xs.map (·.1) = ps ∧ FlatAt 8 gPt zeroPx w A xs ∧ OpsIn w (fun b => b < w.heap.size) xs := by
  by_cases h0 : ps = []
  · subst h0
    exact ⟨[], rfl, fun hne => absurd rfl hne, fun k hk => by simp at hk⟩
  · obtain ⟨b, off, hA, hb, hc⟩ := h h0
    have hex : ∀ k, k < ps.length → ∃ x : PtX, x.1 = ps.getD k zeroPt ∧ PtAt w b (off + k * 8) x.1 x.2.1 x.2.2 := fun k hk => by
      obtain ⟨A', c', hp⟩ := hc k hk
      exact ⟨(ps.getD k zeroPt, A', c'), rfl, hp⟩
    have hlist : ∀ m, m ≤ ps.length → ∃ xs : List PtX, xs.length = m ∧ ∀ k, k < m → (xs.getD k zeroPx).1 = ps.getD k zeroPt ∧ PtAt w b (off + k * 8) (xs.getD k zeroPx).1 (xs.getD k zeroPx).2.1 (xs.getD k zeroPx).2.2 := by
      intro m
      induction m with
      | zero => intro _; exact ⟨[], rfl, fun k hk => by omega⟩
      | succ m ih =>
        intro hm
        obtain ⟨xs, hl, hx⟩ := ih (by omega)
        obtain ⟨x, hx1, hx2⟩ := hex m (by omega)
        refine ⟨xs ++ [x], by simp [hl], fun k hk => ?_⟩
        by_cases hkm : k < m
        · have e : (xs ++ [x]).getD k zeroPx = xs.getD k zeroPx := by simp only [List.getD_eq_getElem?_getD]; rw [List.getElem?_append_left (by omega)]
          rw [e]
          exact hx k hkm
        · obtain rfl : k = m := by omega
          have e : (xs ++ [x]).getD k zeroPx = x := by simp only [List.getD_eq_getElem?_getD]; rw [List.getElem?_append_right (by omega), hl]; simp
          rw [e]
          exact ⟨hx1, hx2⟩
    obtain ⟨xs, hl, hx⟩ := hlist ps.length (Nat.le_refl _)
    refine ⟨xs, ?_, ?_, ?_⟩
    · apply List.ext_getElem?
      intro j
      by_cases hj : j < ps.length
      · have h1 := (hx j hj).1
        simp only [List.getD_eq_getElem?_getD] at h1
        rw [List.getElem?_eq_getElem hj, List.getElem?_eq_getElem (show j < xs.length by omega)] at h1
        rw [List.getElem?_map, List.getElem?_eq_getElem (show j < xs.length by omega), List.getElem?_eq_getElem hj]
        simpa using h1
      · rw [List.getElem?_eq_none (by simp; omega), List.getElem?_eq_none (by omega)]
    · intro hne
      refine ⟨b, off, hA, hb, fun k hk r hr => ?_⟩
      have hp := (hx k (by omega)).2
      rw [show off + (k * 8 + r) = off + k * 8 + r by omega]
      match r, hr with
      | 0, _ => exact hp.c0
      | 1, _ => exact hp.c1
      | 2, _ => exact hp.c2
      | 3, _ => exact hp.c3
      | 4, _ => exact hp.c4
      | 5, _ => exact hp.c5
      | 6, _ => exact hp.c6
      | 7, _ => exact hp.c7
    · intro k hk
      have hp := (hx k (by omega)).2
      refine ⟨hp.cap, hp.opens, fun hne b' o sp hA' => ?_⟩
      obtain ⟨b2, o2, hA2, hb2, _⟩ := hp.opens hne
      rw [hA'] at hA2
      injection hA2 with hA2
      injection hA2 with hA2
      show b' < w.heap.size
      omega
theorem OpsIn.paths {w : World} {q : Nat → Prop} {xs : List PtX} {A : Option Addr} (h : OpsIn w q xs) (hf : FlatAt 8 gPt zeroPx w A xs) : PathsAt w A (xs.map (·.1)) := fun hne => by
  have hx : xs ≠ [] := by rintro rfl; exact hne rfl
  obtain ⟨b, off, hA, hb, hc⟩ := hf hx
  refine ⟨b, off, hA, hb, fun k hk => ?_⟩
  rw [List.length_map] at hk
  have e : (xs.map (·.1)).getD k zeroPt = (xs.getD k zeroPx).1 := by
    simp only [List.getD_eq_getElem?_getD, List.getElem?_map, List.getElem?_eq_getElem hk]
    rfl
  rw [e]
  have h8 := hc k hk
  have e8 : ∀ r, off + (k * 8 + r) = off + k * 8 + r := fun r => by omega
  refine ⟨(xs.getD k zeroPx).2.1, (xs.getD k zeroPx).2.2, ?_, ?_, ?_, ?_, ?_, ?_, ?_, ?_, (h k hk).1, (h k hk).2.1⟩
  · exact h8 0 (by omega)
  · exact e8 1 ▸ h8 1 (by omega)
  · exact e8 2 ▸ h8 2 (by omega)
  · exact e8 3 ▸ h8 3 (by omega)
  · exact e8 4 ▸ h8 4 (by omega)
  · exact e8 5 ▸ h8 5 (by omega)
  · exact e8 6 ▸ h8 6 (by omega)
  · exact e8 7 ▸ h8 7 (by omega)
/-- One cell of one element turned. -/
theorem flat_set {α : Type} {s : Nat} {g : α → List Value} (d : α) (hg : ∀ x, (g x).length = s) (xs : List α) (k r : Nat) (hk : k < xs.length) (hr : r < s) (y : α) (u : Value) (h1 : ∀ r', r' < s → r' ≠ r → (g y)[r']? = (g (xs.getD k d))[r']?) (h2 : (g y)[r]? = some u) :
    (xs.flatMap g).set (k * s + r) u = (xs.set k y).flatMap g := by
  have hl : ∀ zs : List α, (zs.flatMap g).length = zs.length * s := fm_len g s hg
  apply List.ext_getElem?
  intro j
  by_cases hj : j < xs.length * s
  · have hs : 0 < s := by omega
    have hq : j / s < xs.length := by rw [Nat.div_lt_iff_lt_mul hs]; exact hj
    have hm : j % s < s := Nat.mod_lt _ hs
    have e : j / s * s + j % s = j := by rw [Nat.mul_comm]; exact Nat.div_add_mod j s
    have f1 := fm_at g s hg d xs (j / s) (j % s) hq hm
    have f2 := fm_at g s hg d (xs.set k y) (j / s) (j % s) (by rw [List.length_set]; exact hq) hm
    rw [e] at f1 f2
    rw [f2]
    by_cases hjk : j / s = k
    · have e2 : (xs.set k y).getD (j / s) d = y := by rw [hjk]; simp [List.getD, List.getElem?_set_self hk]
      rw [e2]
      by_cases hjr : j % s = r
      · have ej : k * s + r = j := by rw [← hjk, ← hjr, e]
        rw [ej, List.getElem?_set_self (by rw [hl]; exact hj), hjr, h2]
      · have ej : ¬ k * s + r = j := fun h => hjr (by rw [← h, Nat.mul_comm, Nat.mul_add_mod, Nat.mod_eq_of_lt hr])
        rw [List.getElem?_set_ne ej, f1, h1 _ hm hjr, hjk]
    · have e2 : (xs.set k y).getD (j / s) d = xs.getD (j / s) d := by
        have hne : k ≠ j / s := fun h => hjk h.symm
        simp [List.getD, List.getElem?_set_ne hne]
      have ej : ¬ k * s + r = j := fun h => hjk (by rw [← h, Nat.mul_comm, Nat.mul_add_div hs, Nat.div_eq_of_lt hr, Nat.add_zero])
      rw [e2, List.getElem?_set_ne ej, f1]
  · rw [List.getElem?_eq_none (by rw [List.length_set, hl]; omega), List.getElem?_eq_none (by rw [hl, List.length_set]; omega)]
def withO (p : Pt) (os : List (Int × Int)) : Pt := ⟨p.frm, p.dst, p.grade, p.tl, p.th, p.sl, p.sh, os⟩
/-- To give a path of a row other spans. -/
theorem Ownl.opens {w : World} {B q cap k : Nat} {xs : List PtX} (h : Ownl 64 8 gPt w B (.slice (some ⟨q, 0, none⟩) xs.length cap) xs) (hk : k < xs.length) (os : List (Int × Int)) (A : Option Addr) (c : Nat) :
    Ownl 64 8 gPt (w.setCell ⟨q, k * 8 + 7, none⟩ (.slice A os.length c)) B (.slice (some ⟨q, 0, none⟩) xs.length cap) (xs.set k (withO (xs.getD k zeroPx).1 os, A, c)) ∧ w.grownBy (w.setCell ⟨q, k * 8 + 7, none⟩ (.slice A os.length c)) (some q) := by
  obtain ⟨h1, h2⟩ := World.ownsRow.stored h (k * 8 + 7) (.slice A os.length c)
  refine ⟨?_, h2⟩
  unfold Ownl
  rw [List.length_set, ← flat_set (g := gPt) (s := 8) zeroPx (fun _ => rfl) xs k 7 hk (by decide) (withO (xs.getD k zeroPx).1 os, A, c) (.slice A os.length c) ?_ rfl]
  · exact h1
  · intro r' hr' hne
    have : r' = 0 ∨ r' = 1 ∨ r' = 2 ∨ r' = 3 ∨ r' = 4 ∨ r' = 5 ∨ r' = 6 := by omega
    rcases this with rfl | rfl | rfl | rfl | rfl | rfl | rfl <;> rfl
end Go.Proofs.YtecamnhnjmldcaaGreatDoor
