/- Copy: the spans of different paths lie in different blocks. -/
import Derived.Test.YtndoghcglbpllaaE06
import Derived.Test.YtndoghcglbpllaaE11
import Derived.Test.YtndoghcglbpllaaE12
set_option linter.unusedSimpArgs false
set_option linter.unusedVariables false
namespace Go.Proofs.Ytndoghcglbpllaa
open Go.RowKit
def Spot (A : Option Addr) : Option Nat := A.map Addr.block
theorem spot_own (A : Option Addr) (n c : Nat) : (Value.slice A n c).ownBlock = Spot A := by cases A <;> rfl
theorem SpansOwn.lt {w : World} {B : Nat} {A : Option Addr} {c : Nat} {os : List (Int × Int)} (h : SpansOwn w B A c os) : ∀ q, Spot A = some q → B ≤ q ∧ q < w.heap.size := fun q hq => World.ownsRow.lt h q (by rw [spot_own]; exact hq)
theorem SpansOwn.low {w : World} {B B' : Nat} {A : Option Addr} {c : Nat} {os : List (Int × Int)} (h : SpansOwn w B A c os) (hB : B' ≤ B) : SpansOwn w B' A c os := by
  obtain ⟨h1, h2⟩ := h
  refine ⟨h1, ?_⟩
  rcases h2 with h2 | ⟨g, cap, cur, a1, a2, a4⟩
  · exact .inl h2
  · exact .inr ⟨g, cap, cur, a1, Nat.le_trans hB a2, a4⟩
/-- A slice of paths that was made, each with spans that were made, in blocks of their own below S. -/
def CopyR (w : World) (B S : Nat) (v : Value) (ps : List Pt) (k : Nat) : Prop :=
  ∃ (xs : List Value) (fs : Nat → Option Addr × Nat), w.ownsRow B 56 8 v k xs ∧
    (∀ j, j < k → (∀ i, i < 8 → xs[j * 8 + i]? = (pcellsL (ps.getD j zeroPt) (fs j).1 (fs j).2)[i]?) ∧ SpansOwn w B (fs j).1 (fs j).2 (ps.getD j zeroPt).opens ∧ ∀ q, Spot (fs j).1 = some q → q < S) ∧
    ∀ i j q, i < j → j < k → Spot (fs i).1 = some q → Spot (fs j).1 ≠ some q
theorem CopyR.row {w : World} {B S : Nat} {v : Value} {ps : List Pt} {k : Nat} (h : CopyR w B S v ps k) : CopyRow w B v ps k := by
  obtain ⟨xs, fs, h1, h2, h3⟩ := h
  exact ⟨xs, h1, fun j hj => ⟨_, _, (h2 j hj).1, (h2 j hj).2.1⟩⟩
theorem CopyR.nil (w : World) (B S : Nat) (ps : List Pt) : CopyR w B S (.slice none 0 0) ps 0 := ⟨[], fun _ => (none, 0), ⟨rfl, .inl ⟨rfl, rfl⟩⟩, fun j hj => by omega, fun i j q _ hj => by omega⟩
theorem CopyR.keepB {w w' : World} {B S : Nat} {v : Value} {ps : List Pt} {k : Nat} (h : CopyR w B S v ps k) (hk : ∀ (q : Nat) (o : Obj), B ≤ q → w.heap[q]? = some o → w'.heap[q]? = some o) : CopyR w' B S v ps k := by
  obtain ⟨xs, fs, ⟨h1, h2⟩, h3, h4⟩ := h
  refine ⟨xs, fs, ⟨h1, ?_⟩, fun j hj => ⟨(h3 j hj).1, ?_, (h3 j hj).2.2⟩, h4⟩
  · rcases h2 with h2 | ⟨g, cap, cur, a1, a2, a3, a4⟩
    · exact .inl h2
    · exact .inr ⟨g, cap, cur, a1, a2, hk _ _ a2 a3, a4⟩
  · obtain ⟨h5, h6⟩ := (h3 j hj).2.1
    refine ⟨h5, ?_⟩
    rcases h6 with h6 | ⟨g, cap, cur, a1, a2, a3, a4⟩
    · exact .inl h6
    · exact .inr ⟨g, cap, cur, a1, a2, hk _ _ a2 a3, a4⟩
theorem CopyR.ext {w w' : World} {B S : Nat} {v : Value} {ps : List Pt} {k : Nat} (h : CopyR w B S v ps k) (e : Ext w w') : CopyR w' B S v ps k := h.keepB fun q o _ ho => blk_ext ho e
theorem CopyR.upto {w : World} {B S S' : Nat} {v : Value} {ps : List Pt} {k : Nat} (h : CopyR w B S v ps k) (hS : S ≤ S') : CopyR w B S' v ps k := by
  obtain ⟨xs, fs, h1, h3, h4⟩ := h
  exact ⟨xs, fs, h1, fun j hj => ⟨(h3 j hj).1, (h3 j hj).2.1, fun q hq => Nat.lt_of_lt_of_le ((h3 j hj).2.2 q hq) hS⟩, h4⟩
theorem CopyR.snoc {w w' : World} {B S : Nat} {v v' : Value} {ps : List Pt} {k : Nat} {xs : List Value} {fs : Nat → Option Addr × Nat} (hrow : CopyRow w B v ps k)
    (h3 : ∀ j, j < k → (∀ i, i < 8 → xs[j * 8 + i]? = (pcellsL (ps.getD j zeroPt) (fs j).1 (fs j).2)[i]?) ∧ SpansOwn w B (fs j).1 (fs j).2 (ps.getD j zeroPt).opens ∧ ∀ q, Spot (fs j).1 = some q → q < S)
    (h4 : ∀ i j q, i < j → j < k → Spot (fs i).1 = some q → Spot (fs j).1 ≠ some q) (hxl : xs.length = k * 8)
    (hg : w.grownBy w' v.ownBlock) {A : Option Addr} {c : Nat} (ho : w'.ownsRow B 56 8 v' (k + 1) (xs ++ pcellsL (ps.getD k zeroPt) A c)) (hs : SpansOwn w B A c (ps.getD k zeroPt).opens) (hS : ∀ q, Spot A = some q → S ≤ q) : CopyR w' B w'.heap.size v' ps (k + 1) := by
  have hkeep : ∀ (q : Nat) (cs : Array Value), w.heap[q]? = some (.cells cs 26 (0, 0)) → w'.heap[q]? = some (.cells cs 26 (0, 0)) := fun q cs hq => (hg.block q (Array.getElem?_eq_some_iff.1 hq).1 (fun e => by
    obtain ⟨_, cs', h'⟩ := hrow.block q e.symm
    rw [hq] at h'
    injection h' with h'
    injection h' with _ h' _
    exact absurd h' (by decide))).trans hq
  refine ⟨_, fun j => if j < k then fs j else (A, c), ho, fun j hj => ?_, fun i j q hij hjk hq => ?_⟩
  · by_cases hjk : j < k
    · obtain ⟨h5, h6, h7⟩ := h3 j hjk
      simp only [if_pos hjk]
      refine ⟨fun i hi => ?_, h6.keep hkeep, fun q hq => Nat.lt_of_lt_of_le (h6.lt q hq).2 hg.size⟩
      rw [List.getElem?_append_left (by omega)]
      exact h5 i hi
    · obtain rfl : j = k := by omega
      simp only [if_neg hjk]
      refine ⟨fun i hi => ?_, hs.keep hkeep, fun q hq => Nat.lt_of_lt_of_le (hs.lt q hq).2 hg.size⟩
      rw [List.getElem?_append_right (by omega)]
      congr 1
      omega
  · have hik : i < k := by omega
    simp only [if_pos hik] at hq
    by_cases hj : j < k
    · simp only [if_pos hj]
      exact h4 i j q hij hj hq
    · simp only [if_neg hj]
      intro h
      have h8 := (h3 i hik).2.2 q hq
      have h9 := hS q h
      omega
theorem wpList_append_path2 {P : Program} {ops : Array Oper} {rest : List Oper} {o : Oper} {a : Act} {Q : Exit → Act → World → Prop} (w : World) (hP : P = Try.prog) (hgd : o.guard = none) (s x : Operand)
    (ho : o.op = .call { callee := .builtin .append, args := #[s, x], argTypes := #[22, 22] }) (B S : Nat) (v : Value) (ps : List Pt) (k : Nat) (hs : a.eval s = v) (hv : CopyR w B S v ps k) (hB : B ≤ w.heap.size) (hk : k ≤ 1000)
    (g : Nat) (A : Option Addr) (c : Nat) (hx : a.eval x = .slice (some ⟨g, 0, none⟩) 1 1) (hg : w.heap[g]? = some (.cells (pcellsL (ps.getD k zeroPt) A c).toArray 56 (0, 0))) (hso : SpansOwn w S A c (ps.getD k zeroPt).opens) (hBS : B ≤ S)
    (h : ∀ v' w', CopyR w' B w'.heap.size v' ps (k + 1) → w.grownBy w' v.ownBlock → wpList P ops Q rest (a.put o.dst v') w') : wpList P ops Q (o :: rest) a w := by
  subst hP
  obtain ⟨i0, hi, hz0, hz1, hz2⟩ := info_parts infoPath
  have hrow := hv.row
  obtain ⟨xs, fs, hown, h3, h4⟩ := hv
  refine wpList_append_own w hgd s x 22 ho B 56 i0 zpath 8 80 Try.underlying22 hi hz0 hz1 hz2 rfl (by decide) v k xs hs hown ⟨g, 0, none⟩ 1 1 (pcellsL (ps.getD k zeroPt) A c) hx rfl (blk_add hg) (pcells_one _ _ _) (by unfold maxLen; omega) (by omega) hB (fun v' w' h1 h2 _ => h v' w' (CopyR.snoc hrow h3 h4 hown.1 h2 h1 (hso.low hBS) (fun q hq => (hso.lt q hq).1)) h2)
set_option maxRecDepth 100000 in
set_option maxHeartbeats 2000000 in
theorem copy2_any (m : Int) (A : Option Addr) (n c : Nat) (ps : List Pt) (hn : ps.length = n) (hm : n ≤ 1000) (ho : ∀ k, k < n → (ps.getD k zeroPt).opens.length ≤ 1000) (w : World) (hp : PathsAt w A ps) :
    Calls Try.prog 14 #[.agg #[.int .i64 m, .slice A n c]] w fun e w' => ∃ v S, e = .returned (.agg #[.int .i64 m, v]) ∧ CopyR w' (w.heap.size + 3) S v ps n ∧ Ext w w' := by
  have HP := hid hp
  have HN := hid hn
  have HO := hid ho
  have t0 := three_blocks w (.cells #[.int .i64 m, .slice A n c] 24) (.cells #[.int .i64 0, .slice none 0 0] 24) (.cells #[.int .i64 m, .slice none 0 0] 24)
  have B0 := hid t0.1
  have B1 := hid t0.2.1
  have B2 := hid t0.2.2
  clear hp hn ho t0
  go_enter Try.func14, Try.ntmps14
  go_wp2
  go_loopw [4] (fun i wr => Ext w wr ∧ Hid (wr.heap[w.heap.size]? = some (.cells #[.int .i64 m, .slice A n c] 24 (0, 0))) ∧ Hid (wr.heap[w.heap.size + 1]? = some (.cells #[.int .i64 0, .slice none 0 0] 24 (0, 0))) ∧
    ∃ (k : Nat) (v : Value), k ≤ n ∧ i = .int .i64 k ∧ Hid (wr.heap[w.heap.size + 1 + 1]? = some (.cells #[.int .i64 m, v] 24 (0, 0))) ∧ Hid (CopyR wr (w.heap.size + 3) wr.heap.size v ps k)) (fun i _ => n - (intOf i).toNat)
  case atStart => exact ⟨by (repeat' (first | with_reducible assumption | with_reducible exact Ext.refl _ | with_reducible refine Ext.alloc ?_ _ | with_reducible refine Ext.set ?_ ?_ _ | with_reducible refine Ext.drew ?_ | with_reducible refine Ext.drewN ?_ _ | with_reducible refine Ext.trans ?_ (by assumption) | (dsimp only; omega))), B0, B1, 0, _, Nat.zero_le _, rfl, B2, hid (CopyR.nil _ _ _ _)⟩
  case round =>
    clear B0 B1 B2
    obtain ⟨hE, HB0, HB1, k, v, hk, rfl, HB2, HC⟩ := hrel
    have a0 := blk_cell HB0.out 0
    have a1 := blk_cell HB0.out 1
    have b0 := blk_cell HB2.out 0
    have b1 := blk_cell HB2.out 1
    have r0 := blk_cell HB1.out 0
    have r1 := blk_cell HB1.out 1
    have f0 := blk_fro HB2.out 0
    have f1 := blk_fro HB2.out 1
    have g0 := blk_fro HB1.out 0
    have g1 := blk_fro HB1.out 1
    simp only [List.getElem?_toArray, List.getElem?_cons_zero, List.getElem?_cons_succ] at a0 a1 b0 b1 r0 r1
    have z0 := (Array.getElem?_eq_some_iff.1 HB0.out).1
    have z1 := (Array.getElem?_eq_some_iff.1 HB1.out).1
    have z2 := (Array.getElem?_eq_some_iff.1 HB2.out).1
    by_cases hlt : k < n
    · obtain ⟨b, off, A', c', rfl, hb, hpt⟩ := (HP.out.ext hE).at_ HN.out hlt
      have hos := HO.out k hlt
      have hk0 : (0 : Int) ≤ (k : Int) := by omega
      have hk1 : (k : Int) < (n : Int) := by omega
      obtain ⟨p, hpq⟩ : ∃ p, ps.getD k zeroPt = p := ⟨_, rfl⟩
      rw [hpq] at hpt hos
      have HPQ := hid hpq
      clear hpq
      have HOP := hid hpt.opens
      obtain ⟨d0, d1, d2, d3, d4, d5, d6, d7, hcap, hop⟩ := hpt
      obtain ⟨f, d, gg, tl, th, sl, sh, os⟩ := p
      dsimp only at d0 d1 d2 d3 d4 d5 d6 d7 HOP hos
      clear hop hcap
      have t1 := two_blocks wr (.cells #[.int .i64 f, .int .i64 d, .int .i64 gg, .int .i64 tl, .int .i64 th, .int .i64 sl, .int .i64 sh, .slice A' os.length c'] 56) (.cells #[] 26)
      have HX := hid t1.1
      have HZ := hid t1.2.1
      have e1 : Ext wr ((wr.alloc (.cells #[.int .i64 f, .int .i64 d, .int .i64 gg, .int .i64 tl, .int .i64 th, .int .i64 sl, .int .i64 sh, .slice A' os.length c'] 56)).alloc (.cells #[] 26)) := ((Ext.refl wr).alloc _).alloc _
      have s1 : ((wr.alloc (.cells #[.int .i64 f, .int .i64 d, .int .i64 gg, .int .i64 tl, .int .i64 th, .int .i64 sl, .int .i64 sh, .slice A' os.length c'] 56)).alloc (.cells #[] 26)).heap.size = wr.heap.size + 2 := t1.2.2
      have n0 : ¬ w.heap.size = wr.heap.size := by omega
      have n1 : ¬ w.heap.size + 1 = wr.heap.size := by omega
      have n2 : ¬ w.heap.size + 1 + 1 = wr.heap.size := by omega
      clear t1
      have hgr : ∀ r, v.ownBlock = some r → w.heap.size + 3 ≤ r := fun r hr => (HC.out.row.block r hr).1
      go_wp2_with (first
        | (at_builtin; refine wpList_append_spans _ rfl rfl _ _ rfl wr.heap.size (wr.heap.size + 1) A' c' os (by rfl) HZ.out (by omega) (by rfl) (HOP.out.ext e1) hos ?_; intro A2 c2 w5 hso hg; have HSO := hid hso; have e5 : Ext wr w5 := ext_of_grown e1 hg (fun q hq => by injection hq with hq; omega); have x5 := hid ((hg.block wr.heap.size (by omega) (fun e => by injection e with e; omega)).trans HX.out); have y2 := hid (blk_ext HB2.out e5); clear hso hg a0 a1 b0 b1 r0 r1 f0 f1 g0 g1 d0 d1 d2 d3 d4 d5 d6 d7; have u0 := blk_cell x5.out 0; have u1 := blk_cell x5.out 1; have u2 := blk_cell x5.out 2; have u3 := blk_cell x5.out 3; have u4 := blk_cell x5.out 4; have u5 := blk_cell x5.out 5; have u6 := blk_cell x5.out 6; have u7 := blk_cell x5.out 7; have fu := blk_fro x5.out 7; have b0 := blk_cell y2.out 0; have b1 := blk_cell y2.out 1; simp only [List.getElem?_toArray, List.getElem?_cons_zero, List.getElem?_cons_succ] at u0 u1 u2 u3 u4 u5 u6 u7 b0 b1; have hz5 : wr.heap.size < w5.heap.size := (Array.getElem?_eq_some_iff.1 x5.out).1)
        | (at_builtin; refine wpList_append_path2 _ rfl rfl _ _ rfl (w.heap.size + 3) wr.heap.size v ps k (by rfl) (HC.out.ext ((e5.set (by dsimp only; omega) _).alloc _)) (by simp; omega) (by omega) w5.heap.size A2 c2 (by rfl) (by rw [HPQ.out]; have h := heap_alloc_new (w5.setCell ⟨wr.heap.size, 7, none⟩ (.slice A2 os.length c2)) (.cells #[.int .i64 f, .int .i64 d, .int .i64 gg, .int .i64 tl, .int .i64 th, .int .i64 sl, .int .i64 sh, .slice A2 os.length c2] 56); rw [show (w5.setCell ⟨wr.heap.size, 7, none⟩ (.slice A2 os.length c2)).heap.size = w5.heap.size by simp] at h; exact h) (by rw [HPQ.out]; exact (HSO.out.set x5.out 7 _).keep fun q cs hq => blk_ext hq (ext_alloc1 _ _)) (by omega) ?_; intro v' w8 hC8 hg8; obtain ⟨VA, vc, rfl⟩ := hC8.row.form; have HC8 := hid hC8; have e7 : Ext wr ((w5.setCell ⟨wr.heap.size, 7, none⟩ (.slice A2 os.length c2)).alloc (.cells #[.int .i64 f, .int .i64 d, .int .i64 gg, .int .i64 tl, .int .i64 th, .int .i64 sl, .int .i64 sh, .slice A2 os.length c2] 56)) := (e5.set (by dsimp only; omega) _).alloc _; have K0 := hid (grown_blk (B := w.heap.size + 3) (by omega) (blk_ext HB0.out e7) hg8 hgr); have K1 := hid (grown_blk (B := w.heap.size + 3) (by omega) (blk_ext HB1.out e7) hg8 hgr); have K2 := hid (grown_blk (B := w.heap.size + 3) (by omega) (blk_ext HB2.out e7) hg8 hgr); have E8 : Ext w w8 := ext_of_grown (hE.trans e7) hg8 (fun q hq => by have := hgr q hq; omega); clear hC8 hg8 e7 b0 b1 u0 u1 u2 u3 u4 u5 u6 u7 fu; have b1 := blk_cell K2.out 1; have fb := blk_fro K2.out 1; simp only [List.getElem?_toArray, List.getElem?_cons_zero, List.getElem?_cons_succ] at b1; have hz8 := (Array.getElem?_eq_some_iff.1 K2.out).1))
      have K9 := hid (heap_setCell_same w8 (w.heap.size + 1 + 1) 1 _ _ (.slice VA (k + 1) vc) K2.out)
      have HC9 := hid (CopyR.keepB (w' := w8.setCell ⟨w.heap.size + 1 + 1, 1, none⟩ (.slice VA (k + 1) vc)) HC8.out fun q o hq h => (Below.heap_setCell w8 _ _ q (by dsimp only; omega)).trans h)
      have G0 := hid ((Below.heap_setCell w8 ⟨w.heap.size + 1 + 1, 1, none⟩ (.slice VA (k + 1) vc) w.heap.size (by dsimp only; omega)).trans K0.out)
      have G1 := hid ((Below.heap_setCell w8 ⟨w.heap.size + 1 + 1, 1, none⟩ (.slice VA (k + 1) vc) (w.heap.size + 1) (by dsimp only; omega)).trans K1.out)
      go_roundw
      case rel => exact ⟨E8.set (by dsimp only; omega) _, G0, G1, k + 1, .slice VA (k + 1) vc, by omega, by go_num, K9, hid (HC9.out.upto (by simp))⟩
      case measure => (simp [intOf] <;> omega)
    · obtain rfl : k = n := by omega
      obtain ⟨VA, vc, rfl⟩ := HC.out.row.form
      have HC9 := hid (CopyR.keepB (w' := (wr.setCell ⟨w.heap.size + 1, 0, none⟩ (.int .i64 m)).setCell ⟨w.heap.size + 1, 1, none⟩ (.slice VA k vc)) HC.out fun q o hq h => (Below.heap_setCell _ _ _ q (by dsimp only; omega)).trans ((Below.heap_setCell wr _ _ q (by dsimp only; omega)).trans h))
      go_wp2
      exact bodyPost_ret (v := .agg #[.int .i64 m, .slice VA k vc]) (by simp [results, Try.results14, go_sem, r0, r1]) rfl ⟨_, _, rfl, HC9.out, by (repeat' (first | with_reducible assumption | with_reducible exact Ext.refl _ | with_reducible refine Ext.alloc ?_ _ | with_reducible refine Ext.set ?_ ?_ _ | with_reducible refine Ext.drew ?_ | with_reducible refine Ext.drewN ?_ _ | with_reducible refine Ext.trans ?_ (by assumption) | (dsimp only; omega)))⟩
end Go.Proofs.Ytndoghcglbpllaa
/- The route of the program is one, and arrives when the table says. -/
set_option linter.unusedSimpArgs false
set_option linter.unusedVariables false
namespace Go.Proofs.Ytndoghcglbpllaa
open Go.RowKit
section
variable {g l pl ph : Int} {ps : List Pt} {m : Nat}
theorem arrive_never {sel : Int → Int → Int} (hs : SelGe sel) (ha : PaOk l pl ph) {p : Pt} (hp : PtOk p) {t : Int} (ht : 2881 ≤ t) : arrive sel l pl ph p t = 2881 := by
  have h1 := arrive_geS hs ha hp (Int.le_refl 2881)
  have h2 := arrive_mono sel l pl ph p ht
  have h3 : arrive sel l pl ph p t ≤ 2881 := by unfold arrive; omega
  omega
theorem rows_first {sel : Int → Int → Int} (hN : NOk m ps) {i : Nat} (hi : i < ps.length) (hg : (ps.getD i zeroPt).grade ≤ g) (hb : ∀ (s : Int) (k v : Nat), 0 ≤ s → s ≤ 2881 → v < m → (rows sel g l pl ph ps m (ps.getD i zeroPt).frm.toNat s k).getD v 0 ≤ 2881) (t : Int) (h0 : 0 ≤ t) (h1 : t ≤ 2881) : ∀ (k v : Nat), v < m →
    (rows sel g l pl ph ps m (ps.getD i zeroPt).frm.toNat t (k + 1)).getD v 0 ≤ (rows sel g l pl ph ps m (ps.getD i zeroPt).dst.toNat (arrive sel l pl ph (ps.getD i zeroPt) t) k).getD v 0
  | 0, v, hv => by
    have hf := hN.frm i hi
    rw [rows_zero (ps.getD i zeroPt).dst.toNat _ v hv]
    split
    · rename_i hd
      have h := rows_hit (sel := sel) (l := l) (pl := pl) (ph := ph) hN (ps.getD i zeroPt).frm.toNat t 0 hi hg
      rw [rows_zero _ _ _ (by omega), if_pos rfl, hd] at h
      exact h
    · exact hb t 1 v h0 h1 hv
  | k + 1, v, hv => by
    have ih := rows_first hN hi hg hb t h0 h1 k
    have hl : LeRow (rows sel g l pl ph ps m (ps.getD i zeroPt).frm.toNat t (k + 1)) (rows sel g l pl ph ps m (ps.getD i zeroPt).dst.toNat (arrive sel l pl ph (ps.getD i zeroPt) t) k) := ⟨by rw [rows_len, rows_len], fun v => by
      by_cases hv : v < m
      · exact ih v hv
      · have e : ∀ xs : List Int, xs.length = m → xs.getD v 0 = 0 := fun xs hx => by simp [List.getD, hx, hv]
        rw [e _ (rows_len _ _ _), e _ (rows_len _ _ _)]
        exact Int.le_refl _⟩
    exact (pmFold_mono sel l pl ph ps hl (walkIdx ps g ps.length)).2 v
theorem rows_by {sel : Int → Int → Int} (hs : SelGe sel) (ha : PaOk l pl ph) (hN : NOk m ps) (p : Nat) (hp : p < m) (t : Int) (h0 : 0 ≤ t) (h1 : t ≤ 2881) : ∀ (k v : Nat), v < m →
    (rows sel g l pl ph ps m p t (k + 1)).getD v 0 < (rows sel g l pl ph ps m p t 0).getD v 0 →
    ∃ i, i < ps.length ∧ (ps.getD i zeroPt).grade ≤ g ∧ (ps.getD i zeroPt).frm = (p : Int) ∧ (rows sel g l pl ph ps m (ps.getD i zeroPt).dst.toNat (arrive sel l pl ph (ps.getD i zeroPt) t) k).getD v 0 ≤ (rows sel g l pl ph ps m p t (k + 1)).getD v 0 := by
  have hb := rows_bd (g := g) hs ha hN (from_ := p) h0 h1
  have key : ∀ (k q : Nat) (v : Nat), v < m → q < ps.length → (ps.getD q zeroPt).grade ≤ g → (ps.getD q zeroPt).dst.toNat = v → (ps.getD q zeroPt).frm = (p : Int) →
      (rows sel g l pl ph ps m (ps.getD q zeroPt).dst.toNat (arrive sel l pl ph (ps.getD q zeroPt) t) k).getD v 0 ≤ arrive sel l pl ph (ps.getD q zeroPt) t := fun k q v hv hq hg hd hf => by
    have h2 := rows_anti (sel := sel) (g := g) (l := l) (pl := pl) (ph := ph) (ps := ps) (m := m) (ps.getD q zeroPt).dst.toNat (arrive sel l pl ph (ps.getD q zeroPt) t) v (Nat.zero_le k)
    rw [rows_zero _ _ v hv, if_pos hd] at h2
    exact h2
  intro k
  induction k with
  | zero =>
    intro v hv hlt
    rcases rows_got (sel := sel) (g := g) (l := l) (pl := pl) (ph := ph) (ps := ps) (m := m) p t 0 v with h | ⟨i, hi, hg, hd, h⟩
    · omega
    · have hf := hN.frm i hi
      by_cases hpf : (ps.getD i zeroPt).frm.toNat = p
      · rw [rows_zero p t _ (by omega), if_pos hpf.symm] at h
        have hfp : (ps.getD i zeroPt).frm = (p : Int) := by omega
        exact ⟨i, hi, hg, hfp, by rw [h]; exact key 0 i v hv hi hg hd hfp⟩
      · rw [rows_zero p t _ (by omega), if_neg (fun e => hpf e.symm), arrive_never hs ha (hN.ok i hi) (Int.le_refl _)] at h
        have := ((hb 0).2 v hv).2
        omega
  | succ k ih =>
    intro v hv hlt
    rcases rows_got (sel := sel) (g := g) (l := l) (pl := pl) (ph := ph) (ps := ps) (m := m) p t (k + 1) v with h | ⟨q, hq, hg, hd, h⟩
    · obtain ⟨i, hi, hg, hf, h2⟩ := ih v hv (by omega)
      exact ⟨i, hi, hg, hf, by rw [h]; exact Int.le_trans (rows_le _ _ k v) h2⟩
    · have hf := hN.frm q hq
      by_cases hu : (rows sel g l pl ph ps m p t (k + 1)).getD (ps.getD q zeroPt).frm.toNat 0 < (rows sel g l pl ph ps m p t 0).getD (ps.getD q zeroPt).frm.toNat 0
      · obtain ⟨i, hi, hgi, hfi, h2⟩ := ih _ (by omega) hu
        refine ⟨i, hi, hgi, hfi, ?_⟩
        have h3 := rows_hit (sel := sel) (l := l) (pl := pl) (ph := ph) hN (ps.getD i zeroPt).dst.toNat (arrive sel l pl ph (ps.getD i zeroPt) t) k hq hg
        rw [hd] at h3
        have := arrive_mono sel l pl ph (ps.getD q zeroPt) h2
        omega
      · have hanti := rows_anti (sel := sel) (g := g) (l := l) (pl := pl) (ph := ph) (ps := ps) (m := m) p t (ps.getD q zeroPt).frm.toNat (Nat.zero_le (k + 1))
        have he : (rows sel g l pl ph ps m p t (k + 1)).getD (ps.getD q zeroPt).frm.toNat 0 = (rows sel g l pl ph ps m p t 0).getD (ps.getD q zeroPt).frm.toNat 0 := by omega
        rw [he, rows_zero p t _ (by omega)] at h
        by_cases hpf : p = (ps.getD q zeroPt).frm.toNat
        · rw [if_pos hpf] at h
          have hfp : (ps.getD q zeroPt).frm = (p : Int) := by omega
          exact ⟨q, hq, hg, hfp, by rw [h]; exact key (k + 1) q v hv hq hg hd hfp⟩
        · rw [if_neg hpf, arrive_never hs ha (hN.ok q hq) (Int.le_refl _)] at h
          have := ((hb 0).2 v hv).2
          omega

theorem leftGo_spec (p : Nat → Bool) : ∀ r k, (∀ j, j < k → p j = true) → (∀ j, j < leftGo p r k → p j = true) ∧ (leftGo p r k < k + r → p (leftGo p r k) = false)
  | 0, k, h => ⟨h, fun hh => by unfold leftGo at hh; omega⟩
  | r + 1, k, h => by
    unfold leftGo
    by_cases hk : p k = true
    · rw [if_pos hk]
      have := leftGo_spec p r (k + 1) (fun j hj => by
        by_cases hjk : j = k
        · subst hjk; exact hk
        · exact h j (by omega))
      exact ⟨this.1, fun hh => this.2 (by omega)⟩
    · rw [if_neg hk]
      exact ⟨h, fun _ => by simpa using hk⟩
theorem leftGo_hit (p : Nat → Bool) (r : Nat) (h : p r = false) : p (leftGo p r 0) = false := by
  have hl := leftGo_le p r 0
  by_cases he : leftGo p r 0 = r
  · rw [he]; exact h
  · exact (leftGo_spec p r 0 (fun j hj => by omega)).2 (by omega)

theorem stopAt_cons (ps : List Pt) (from_ : Int) (i : Int) (r : List Int) (k : Nat) : stopAt ps from_ (i :: r) (k + 1) = stopAt ps (ps.getD i.toNat zeroPt).dst r k := by
  cases k with
  | zero => rfl
  | succ k => simp [stopAt, List.getD]
theorem minAt_cons (sel : Int → Int → Int) (l pl ph : Int) (ps : List Pt) (s : Int) (i : Int) (r : List Int) : ∀ k, minAt sel l pl ph ps s (i :: r) (k + 1) = minAt sel l pl ph ps (arrive sel l pl ph (ps.getD i.toNat zeroPt) s) r k
  | 0 => rfl
  | k + 1 => by
    show arrive sel l pl ph (ps.getD ((i :: r).getD (k + 1) 0).toNat zeroPt) (minAt sel l pl ph ps s (i :: r) (k + 1)) = arrive sel l pl ph (ps.getD (r.getD k 0).toNat zeroPt) (minAt sel l pl ph ps (arrive sel l pl ph (ps.getD i.toNat zeroPt) s) r k)
    rw [minAt_cons sel l pl ph ps s i r k]
    simp [List.getD]

/-- What is so of a route that is found step by step. -/
def WayOk (g l pl ph : Int) (ps : List Pt) (from_ to_ : Int) (s D : Int) (k : Nat) (r : List Int) : Prop :=
  r.length = k ∧ (∀ j, j < k → 0 ≤ r.getD j 0 ∧ r.getD j 0 < ps.length ∧ (ps.getD (r.getD j 0).toNat zeroPt).grade ≤ g ∧ (ps.getD (r.getD j 0).toNat zeroPt).frm = stopAt ps from_ r j) ∧
  stopAt ps from_ r k = to_ ∧ minAt selHi l pl ph ps s r k ≤ D
theorem routeGo_ok (ha : PaOk l pl ph) (hN : NOk m ps) (to_ : Nat) (hto : to_ < m) (D : Int) (hD : D ≤ 2880) : ∀ (k p : Nat) (t : Int), p < m → 0 ≤ t → t ≤ 2881 →
    tooLate g l pl ph ps m to_ D p t k = false → (∀ j, j < k → tooLate g l pl ph ps m to_ D p t j = true) →
    WayOk g l pl ph ps (p : Int) (to_ : Int) t D k ((routeGo g l pl ph ps m to_ D k p t).map Int.ofNat)
  | 0, p, t, hp, h0, h1, hk, _ => by
    unfold tooLate at hk
    have hk := of_decide_eq_false hk
    rw [rows_zero p t to_ hto] at hk
    have hpt : p = to_ := by
      apply Classical.byContradiction
      intro hn
      rw [if_neg hn] at hk
      omega
    rw [if_pos hpt] at hk
    refine ⟨rfl, fun j hj => by omega, by rw [hpt]; rfl, ?_⟩
    show t ≤ D
    omega
  | k + 1, p, t, hp, h0, h1, hk, hj => by
    have hk' := of_decide_eq_false hk
    have h00 := of_decide_eq_true (hj 0 (by omega))
    obtain ⟨i, hi, hg, hf, h2⟩ := rows_by (sel := selHi) (g := g) selHi_pos ha hN p hp t h0 h1 k to_ hto (by omega)
    have hfit : fits_ g l pl ph ps m to_ D p t k i = true := by
      unfold fits_ tooLate
      rw [Bool.and_eq_true, Bool.not_eq_true', decide_eq_false_iff_not]
      exact ⟨by simpa using hf, by omega⟩
    have hmem : i ∈ walkIdx ps g ps.length := mem_walkIdx.2 ⟨hi, hg⟩
    cases hfi : (walkIdx ps g ps.length).find? (fits_ g l pl ph ps m to_ D p t k) with
    | none =>
      have := List.find?_eq_none.1 hfi i hmem
      exact absurd hfit this
    | some q =>
      have hq := List.find?_some hfi
      have hqm := mem_walkIdx.1 (List.mem_of_find?_eq_some hfi)
      unfold fits_ at hq
      rw [Bool.and_eq_true, Bool.not_eq_true'] at hq
      have hqf : (ps.getD q zeroPt).frm = (p : Int) := by simpa using hq.1
      have hd := hN.dst q hqm.1
      have hbd := arrive_bd selHi_pos ha (hN.ok q hqm.1) h0
      have hj2 : ∀ j, j < k → tooLate g l pl ph ps m to_ D (ps.getD q zeroPt).dst.toNat (arrive selHi l pl ph (ps.getD q zeroPt) t) j = true := fun j hjk => by
        have h5 := of_decide_eq_true (hj (j + 1) (by omega))
        have hpq : (ps.getD q zeroPt).frm.toNat = p := by omega
        have h6 := rows_first (sel := selHi) (g := g) (l := l) (pl := pl) (ph := ph) hN hqm.1 hqm.2 (fun s k v hs0 hs1 hv => ((rows_bd selHi_pos (g := g) ha hN (from_ := (ps.getD q zeroPt).frm.toNat) hs0 hs1 k).2 v hv).2) t h0 h1 j to_ hto
        rw [hpq] at h6
        unfold tooLate
        rw [decide_eq_true_eq]
        omega
      obtain ⟨w1, w2, w3, w4⟩ := routeGo_ok ha hN to_ hto D hD k (ps.getD q zeroPt).dst.toNat (arrive selHi l pl ph (ps.getD q zeroPt) t) (by omega) hbd.1 hbd.2 hq.2 hj2
      have hro : routeGo g l pl ph ps m to_ D (k + 1) p t = q :: routeGo g l pl ph ps m to_ D k (ps.getD q zeroPt).dst.toNat (arrive selHi l pl ph (ps.getD q zeroPt) t) := by
        rw [routeGo, hfi]
      rw [hro]
      revert w1 w2 w3 w4
      generalize routeGo g l pl ph ps m to_ D k (ps.getD q zeroPt).dst.toNat (arrive selHi l pl ph (ps.getD q zeroPt) t) = rest
      intro w1 w2 w3 w4
      have hdd : (((ps.getD q zeroPt).dst.toNat : Nat) : Int) = (ps.getD q zeroPt).dst := by omega
      rw [hdd] at w2 w3
      rw [List.map_cons]
      have hqq : (Int.ofNat q).toNat = q := rfl
      refine ⟨by simpa using w1, fun j hj => ?_, ?_, ?_⟩
      · cases j with
        | zero => exact ⟨Int.natCast_nonneg q, Int.ofNat_lt.2 hqm.1, hqm.2, hqf⟩
        | succ j =>
          have := w2 j (by omega)
          rw [stopAt_cons, hqq]
          simpa [List.getD] using this
      · rw [stopAt_cons, hqq]
        exact w3
      · rw [minAt_cons, hqq]
        exact w4
/-- The route of the program. -/
theorem routeOf_ok (ha : PaOk l pl ph) (hm : 1 ≤ m) (hm2 : m ≤ 12) (hN : NOk m ps) (from_ to_ : Nat) (hfr : from_ < m) (hto : to_ < m) {s : Int} (h0 : 0 ≤ s) (h1 : s ≤ 2881) {X : Int} (hX : (rows selHi g l pl ph ps m from_ s (m - 1)).getD to_ 0 = X) (hX1 : X ≠ 2881) :
    RouteOk g ps (from_ : Int) ((routeOf g l pl ph ps m from_ to_ s X).map Int.ofNat) ∧ ((routeOf g l pl ph ps m from_ to_ s X).map Int.ofNat).length ≤ 11 ∧
      stopAt ps (from_ : Int) ((routeOf g l pl ph ps m from_ to_ s X).map Int.ofNat) ((routeOf g l pl ph ps m from_ to_ s X).map Int.ofNat).length = (to_ : Int) ∧
      minAt selHi l pl ph ps s ((routeOf g l pl ph ps m from_ to_ s X).map Int.ofNat) ((routeOf g l pl ph ps m from_ to_ s X).map Int.ofNat).length = X := by
  have hb := (rows_bd selHi_pos (g := g) ha hN (from_ := from_) h0 h1 (m - 1)).2 to_ hto
  have hXb : X ≤ 2880 := by omega
  have hlate : tooLate g l pl ph ps m to_ X from_ s (m - 1) = false := by unfold tooLate; rw [decide_eq_false_iff_not]; omega
  have hsp := leftGo_spec (tooLate g l pl ph ps m to_ X from_ s) (m - 1) 0 (fun j hj => by omega)
  have hl := leftGo_le (tooLate g l pl ph ps m to_ X from_ s) (m - 1) 0
  obtain ⟨w1, w2, w3, w4⟩ := routeGo_ok ha hN to_ hto X hXb _ from_ s hfr h0 h1 (leftGo_hit _ _ hlate) hsp.1
  have hro : routeOf g l pl ph ps m from_ to_ s X = routeGo g l pl ph ps m to_ X (leftGo (tooLate g l pl ph ps m to_ X from_ s) (m - 1) 0) from_ s := rfl
  rw [← hro] at w1 w2 w3 w4
  revert w1 w2 w3 w4
  generalize (routeOf g l pl ph ps m from_ to_ s X).map Int.ofNat = r
  intro w1 w2 w3 w4
  rw [← w1] at w2 w3 w4 hl
  have hR : RouteOk g ps (from_ : Int) r := ⟨by omega, fun k hk => (w2 k hk).1, fun k hk => (w2 k hk).2.1, fun k hk => (w2 k hk).2.2.1, fun k hk => (w2 k hk).2.2.2⟩
  refine ⟨hR, by omega, w3, ?_⟩
  have hlow := rows_low (g := g) selHi_pos ha hm hN from_ hfr h0 h1 hR (minAt selHi l pl ph ps s r) r.length (Nat.le_refl _) (Int.le_refl _) (fun k _ => Int.le_refl _)
  rw [w3, Int.toNat_natCast, hX] at hlow
  omega
end
end Go.Proofs.Ytndoghcglbpllaa
