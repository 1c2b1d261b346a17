/- The sure and the best arrivals; -1 for none. -/
import Derived.Test.YtndoghcglbpllaaArr
import Derived.Deep.RegionHeld3
set_option linter.unusedSimpArgs false
set_option linter.unusedVariables false
namespace Go.Proofs.Ytndoghcglbpllaa
open Go.RowKit

set_option maxRecDepth 100000 in
set_option maxHeartbeats 2000000 in
theorem sure_any (g l pl ph : Int) (n c : Nat) (b off : Nat) (ps : List Pt) (hn : ps.length = n) (A : Option Addr) (m : Nat) (hm1 : 1 ≤ m) (hm2 : m ≤ 12) (hN : NOk m ps) (ha : PaOk l pl ph) (fr : Nat) (hfr : fr < m) (start : Int) (h0 : 0 ≤ start) (h1 : start ≤ 2881)
    (w : World) (hA : 0 < n → A = some ⟨b, off, none⟩ ∧ b < w.heap.size) (hp : ∀ k, k < ps.length → ∃ A' c', PtAt w b (off + k * 8) (ps.getD k zeroPt) A' c') :
    Calls Try.prog 52 #[.agg (wbox (m : Int) g l pl ph A n c), .int .i64 (fr : Int), .int .i64 start] w (NewRow (rows selHi g l pl ph ps m fr start (m - 1)) w) := by
  have HA := hid (fun (W : World) (hE : Ext w W) => arrivals_sure g l pl ph n c b off ps hn A m hm1 hm2 hN ha fr hfr start h0 h1 (m - 1) (by omega) W (fun h0 => ⟨(hA h0).1, Nat.lt_of_lt_of_le (hA h0).2 hE.size⟩)
      (fun k hk => by obtain ⟨A', c', h⟩ := hp k hk; exact ⟨A', c', h.ext (hA (by omega)).2 hE⟩))
  have HML := hid (show (m : Int) - 1 = ((m - 1 : Nat) : Int) by omega)
  clear hp hn hN hA
  simp only [wbox] at HA ⊢
  go_enter Try.func52, Try.ntmps52
  go_wp2
  refine wp_abs (fun W => (W.cell? ⟨w.heap.size, 0, none⟩ = some (.int .i64 (m : Int)) ∧ W.cell? ⟨w.heap.size, 1, none⟩ = some (.slice A n c) ∧ W.cell? ⟨w.heap.size, 2, none⟩ = some (.int .i64 g) ∧ W.cell? ⟨w.heap.size, 3, none⟩ = some (.int .i64 l) ∧ W.cell? ⟨w.heap.size, 4, none⟩ = some (.int .i64 pl) ∧ W.cell? ⟨w.heap.size, 5, none⟩ = some (.int .i64 ph)) ∧ w.heap.size + 1 ≤ W.heap.size ∧ Ext w W) ⟨by go_simp, by simp, by (repeat' (first | with_reducible assumption | with_reducible exact Ext.refl _ | with_reducible refine Ext.alloc ?_ _ | with_reducible refine Ext.set ?_ ?_ _ | with_reducible refine Ext.drew ?_ | with_reducible refine Ext.drewN ?_ _ | with_reducible refine Ext.trans ?_ (by assumption) | (dsimp only; omega)))⟩ ?_
  rintro W ⟨⟨c0, c1, c2, c3, c4, c5⟩, hz, hE⟩
  go_region_held3 (fun w' => (∀ b o, b < w.heap.size + 1 → w'.cell? ⟨b, o, none⟩ = W.cell? ⟨b, o, none⟩) ∧ w.heap.size + 1 ≤ w'.heap.size ∧ Ext w w')
    (((try dsimp only); go_split_ands; (repeat' apply And.intro) <;> first | assumption | exact kcell (by assumption) (by omega) (by assumption) | exact kcell_refl _ _ | exact kcell_set (kcell_set (by assumption) (by dsimp only; omega) _) (by dsimp only; omega) _ | exact kcell_set (by assumption) (by dsimp only; omega) _ | exact held_ext (by assumption) (by dsimp only; omega) (by assumption) | exact hfrozen_ext (by assumption) (by dsimp only; omega) (by assumption) | exact Ext.sizeLe (by assumption) (by assumption) | exact Ext.trans (by assumption) (by assumption) | exact Ext.drew (by assumption) | exact held_set _ _ _ _ (held_set _ _ _ _ (by assumption)) | exact held_set _ _ _ _ (by assumption) | exact hfrozen_set _ _ (hfrozen_set _ _ (by assumption)) | exact hfrozen_set _ _ (by assumption) | exact hsize_set _ _ (hsize_set _ _ (by assumption)) | exact hsize_set _ _ (by assumption) | exact Ext.set (Ext.set (by assumption) (by dsimp only; omega) _) (by dsimp only; omega) _ | exact Ext.set (by assumption) (by dsimp only; omega) _))
    (first
      | (go_at_call 86; refine (longest_any _ _ _ _ _ _ (by omega) (by omega) _).mono ?_; rintro e w2 ⟨rfl, hE2⟩)
      | (go_at_call 85; rw [HML.out]; refine (HA.out _ ‹_ ∧ _ ∧ Ext _ _›.2.2).mono ?_; rintro e w2 ⟨gr, cap, rfl, hrow, hgr, hE2⟩; have hgw := Nat.le_trans (‹_ ∧ _ ∧ Ext _ _›.2.2).size hgr))
  rename_i hH
  try dsimp only at hH
  obtain ⟨-, -, hx⟩ := hH
  have HX := hid hx
  have HR := hid hrow
  clear hrow hx c0 c1 c2 c3 c4 c5
  go_wp2
  go_ret
  exact NewRow.mk rfl HR.out hgw HX.out
set_option maxRecDepth 100000 in
set_option maxHeartbeats 2000000 in
theorem best_any (g l pl ph : Int) (n c : Nat) (b off : Nat) (ps : List Pt) (hn : ps.length = n) (A : Option Addr) (m : Nat) (hm1 : 1 ≤ m) (hm2 : m ≤ 12) (hN : NOk m ps) (ha : PaOk l pl ph) (fr : Nat) (hfr : fr < m) (start : Int) (h0 : 0 ≤ start) (h1 : start ≤ 2881)
    (w : World) (hA : 0 < n → A = some ⟨b, off, none⟩ ∧ b < w.heap.size) (hp : ∀ k, k < ps.length → ∃ A' c', PtAt w b (off + k * 8) (ps.getD k zeroPt) A' c') :
    Calls Try.prog 53 #[.agg (wbox (m : Int) g l pl ph A n c), .int .i64 (fr : Int), .int .i64 start] w (NewRow (rows selLo g l pl ph ps m fr start (m - 1)) w) := by
  have HA := hid (fun (W : World) (hE : Ext w W) => arrivals_best g l pl ph n c b off ps hn A m hm1 hm2 hN ha fr hfr start h0 h1 (m - 1) (by omega) W (fun h0 => ⟨(hA h0).1, Nat.lt_of_lt_of_le (hA h0).2 hE.size⟩)
      (fun k hk => by obtain ⟨A', c', h⟩ := hp k hk; exact ⟨A', c', h.ext (hA (by omega)).2 hE⟩))
  have HML := hid (show (m : Int) - 1 = ((m - 1 : Nat) : Int) by omega)
  clear hp hn hN hA
  simp only [wbox] at HA ⊢
  go_enter Try.func53, Try.ntmps53
  go_wp2
  refine wp_abs (fun W => (W.cell? ⟨w.heap.size, 0, none⟩ = some (.int .i64 (m : Int)) ∧ W.cell? ⟨w.heap.size, 1, none⟩ = some (.slice A n c) ∧ W.cell? ⟨w.heap.size, 2, none⟩ = some (.int .i64 g) ∧ W.cell? ⟨w.heap.size, 3, none⟩ = some (.int .i64 l) ∧ W.cell? ⟨w.heap.size, 4, none⟩ = some (.int .i64 pl) ∧ W.cell? ⟨w.heap.size, 5, none⟩ = some (.int .i64 ph)) ∧ w.heap.size + 1 ≤ W.heap.size ∧ Ext w W) ⟨by go_simp, by simp, by (repeat' (first | with_reducible assumption | with_reducible exact Ext.refl _ | with_reducible refine Ext.alloc ?_ _ | with_reducible refine Ext.set ?_ ?_ _ | with_reducible refine Ext.drew ?_ | with_reducible refine Ext.drewN ?_ _ | with_reducible refine Ext.trans ?_ (by assumption) | (dsimp only; omega)))⟩ ?_
  rintro W ⟨⟨c0, c1, c2, c3, c4, c5⟩, hz, hE⟩
  go_region_held3 (fun w' => (∀ b o, b < w.heap.size + 1 → w'.cell? ⟨b, o, none⟩ = W.cell? ⟨b, o, none⟩) ∧ w.heap.size + 1 ≤ w'.heap.size ∧ Ext w w')
    (((try dsimp only); go_split_ands; (repeat' apply And.intro) <;> first | assumption | exact kcell (by assumption) (by omega) (by assumption) | exact kcell_refl _ _ | exact kcell_set (kcell_set (by assumption) (by dsimp only; omega) _) (by dsimp only; omega) _ | exact kcell_set (by assumption) (by dsimp only; omega) _ | exact held_ext (by assumption) (by dsimp only; omega) (by assumption) | exact hfrozen_ext (by assumption) (by dsimp only; omega) (by assumption) | exact Ext.sizeLe (by assumption) (by assumption) | exact Ext.trans (by assumption) (by assumption) | exact Ext.drew (by assumption) | exact held_set _ _ _ _ (held_set _ _ _ _ (by assumption)) | exact held_set _ _ _ _ (by assumption) | exact hfrozen_set _ _ (hfrozen_set _ _ (by assumption)) | exact hfrozen_set _ _ (by assumption) | exact hsize_set _ _ (hsize_set _ _ (by assumption)) | exact hsize_set _ _ (by assumption) | exact Ext.set (Ext.set (by assumption) (by dsimp only; omega) _) (by dsimp only; omega) _ | exact Ext.set (by assumption) (by dsimp only; omega) _))
    (first
      | (go_at_call 86; refine (longest_any _ _ _ _ _ _ (by omega) (by omega) _).mono ?_; rintro e w2 ⟨rfl, hE2⟩)
      | (go_at_call 85; rw [HML.out]; refine (HA.out _ ‹_ ∧ _ ∧ Ext _ _›.2.2).mono ?_; rintro e w2 ⟨gr, cap, rfl, hrow, hgr, hE2⟩; have hgw := Nat.le_trans (‹_ ∧ _ ∧ Ext _ _›.2.2).size hgr))
  rename_i hH
  try dsimp only at hH
  obtain ⟨-, -, hx⟩ := hH
  have HX := hid hx
  have HR := hid hrow
  clear hrow hx c0 c1 c2 c3 c4 c5
  go_wp2
  go_ret
  exact NewRow.mk rfl HR.out hgw HX.out

def orN (x : Int) : Int := if x = 2881 then -1 else x
theorem orN_step (xs : List Int) (k : Nat) (h : k < xs.length) : ((xs.take k).map orN ++ xs.drop k).set k (orN (xs.getD k 0)) = (xs.take (k + 1)).map orN ++ xs.drop (k + 1) := by
  have hl : ((xs.take k).map orN).length = k := by simp; omega
  rw [List.set_append_right _ _ (by omega), hl, Nat.sub_self, List.drop_eq_getElem_cons h, List.set_cons_zero, List.take_succ_eq_append_getElem h, List.map_append, List.append_assoc]
  simp [List.getD, List.getElem?_eq_getElem h]
theorem orN_get (xs : List Int) (k : Nat) (h : k < xs.length) : ((xs.take k).map orN ++ xs.drop k).getD k 0 = xs.getD k 0 := by
  have hl : ((xs.take k).map orN).length = k := by simp; omega
  simp only [List.getD, List.getElem?_append_right (Nat.le_of_eq hl), hl, Nat.sub_self, List.getElem?_drop, Nat.add_zero]
theorem orN_len (xs : List Int) (k : Nat) (h : k ≤ xs.length) : ((xs.take k).map orN ++ xs.drop k).length = xs.length := by simp; omega
theorem orN_same (xs : List Int) (k : Nat) (h : k < xs.length) (hne : ¬ xs.getD k 0 = 2881) : (xs.take (k + 1)).map orN ++ xs.drop (k + 1) = (xs.take k).map orN ++ xs.drop k := by
  have e : orN (xs.getD k 0) = xs.getD k 0 := by unfold orN; rw [if_neg hne]
  rw [← orN_step xs k h, e]
  have hk : k < ((xs.take k).map orN ++ xs.drop k).length := by rw [orN_len xs k (by omega)]; exact h
  have hg := orN_get xs k h
  apply List.ext_getElem?
  intro i
  by_cases hi : k = i
  · subst hi
    rw [List.getElem?_set_self hk]
    rw [List.getD, List.getElem?_eq_getElem hk] at hg
    rw [List.getElem?_eq_getElem hk]
    simpa using hg.symm
  · rw [List.getElem?_set_ne hi]

/-- Only block g, and what is new, may have turned. -/
def OnlyB (g : Nat) (w w' : World) : Prop := w.grownBy w' (some g)
theorem OnlyB.refl (g : Nat) (w : World) : OnlyB g w w := World.grownBy.refl w _
theorem OnlyB.set {g : Nat} {w w' : World} (h : OnlyB g w w') (i : Nat) (u : Value) : OnlyB g w (w'.setCell ⟨g, i, none⟩ u) :=
  ⟨h.os, h.tape, h.output, by simpa using h.size, fun k hk hne => (Below.heap_setCell w' ⟨g, i, none⟩ u k (fun e => hne (by rw [e]))).trans (h.block k hk hne)⟩
theorem OnlyB.ext {g : Nat} {a w w' : World} (h : Ext a w) (k : OnlyB g w w') (hg : a.heap.size ≤ g) : Ext a w' := ext_of_grown h k (fun j e => by injection e with e; omega)
theorem OnlyB.blk {g b : Nat} {w w' : World} {o : Obj} (k : OnlyB g w w') (h : w.heap[b]? = some o) (hne : b ≠ g) : w'.heap[b]? = some o := (k.block b (Array.getElem?_eq_some_iff.1 h).1 (fun e => by injection e with e; exact hne e)).trans h
theorem OnlyB.row {g b cap : Nat} {xs : List Int} {w w' : World} (k : OnlyB g w w') (h : RowAt w b cap xs) (hne : b ≠ g) : RowAt w' b cap xs := h.ofHeap k.size (k.block b h.lt (fun e => by injection e with e; exact hne e))

set_option maxHeartbeats 1000000 in
theorem orNone_any (g cap : Nat) (xs : List Int) (n : Nat) (hn : xs.length = n) (hm : n ≤ 1000) (w : World) (h : RowAt w g cap xs) :
    Calls Try.prog 51 #[.slice (some ⟨g, 0, none⟩) n cap] w fun e w' => e = .returned (.slice (some ⟨g, 0, none⟩) n cap) ∧ RowAt w' g cap (xs.map orN) ∧ OnlyB g w w' := by
  have H := hid h
  clear h
  go_enter Try.func51, Try.ntmps51
  go_wp2
  go_loopw [7] (fun i wr => ∃ k : Nat, k ≤ n ∧ i = .int .i64 k ∧ Hid (RowAt wr g cap ((xs.take k).map orN ++ xs.drop k)) ∧ OnlyB g w wr) (fun i _ => n - (intOf i).toNat)
  case atStart => exact ⟨0, Nat.zero_le _, rfl, by simpa using H, OnlyB.refl g w⟩
  case round =>
    obtain ⟨k, hk, rfl, R, hO⟩ := hrel
    by_cases hlt : k < n
    · have hl := orN_len xs k (by omega)
      have c0 := R.out.cell (k := k) (by omega)
      have f0 := R.out.fro k
      rw [orN_get xs k (by omega)] at c0
      have HS := hid (orN_step xs k (by omega))
      have HQ := hid (orN_same xs k (by omega))
      have HL := hid hl
      clear hl
      revert HS HQ c0
      generalize xs.getD k 0 = x
      intro c0 HS HQ
      by_cases hx : x = 2881
      · subst hx
        have RS := hid (show RowAt (wr.setCell ⟨g, k, none⟩ (.int .i64 (-1))) g cap ((xs.take (k + 1)).map orN ++ xs.drop (k + 1)) by rw [← HS.out]; exact R.out.set k (-1))
        go_wp2
        go_roundw
        case rel => exact ⟨k + 1, by omega, by go_num, RS, hO.set k _⟩
        case measure => simp [intOf]; omega
      · have hxb : (x == 2881) = false := by simpa using hx
        have RS := hid (show RowAt wr g cap ((xs.take (k + 1)).map orN ++ xs.drop (k + 1)) by rw [HQ.out hx]; exact R.out)
        clear HQ HS
        go_wp2
        go_roundw
        case rel => exact ⟨k + 1, by omega, by go_num, RS, hO⟩
        case measure => simp [intOf]; omega
    · obtain rfl : k = n := by omega
      have RS := hid (show RowAt wr g cap (xs.map orN) by have := R.out; rwa [List.take_of_length_le (by omega), List.drop_eq_nil_of_le (by omega), List.append_nil] at this)
      go_wp2
      go_ret
      exact ⟨rfl, RS.out, hO⟩
end Go.Proofs.Ytndoghcglbpllaa
