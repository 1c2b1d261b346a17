/- The sure and the best arrivals; -1 for none. -/
import Derived.Test.YtndoghcglbpllaaV08
import Derived.Deep.RegionHeld3
import Derived.Test.YtndoghcglbpllaaV04
import Derived.Test.YtndoghcglbpllaaV01
set_option linter.unusedSimpArgs false
set_option linter.unusedVariables false
namespace Go.Proofs.Ytndoghcglbpllaa
open Go.RowKit

set_option maxRecDepth 100000 in
set_option maxHeartbeats 2000000 in
theorem sure_any (g l pl ph : Int) (n c : Nat) (b off : Nat) (ps : List Pt) (hn : ps.length = n) (A : Option Addr) (m : Nat) (hm1 : 1 ≤ m) (hm2 : m ≤ 12) (hN : NOk m ps) (ha : PaOk l pl ph) (fr : Nat) (hfr : fr < m) (start : Int) (h0 : 0 ≤ start) (h1 : start ≤ 2881)
    (w : World) (hA : 0 < n → A = some ⟨b, off, none⟩ ∧ b < w.heap.size) (hp : ∀ k, k < ps.length → ∃ A' c', PtAt w b (off + k * 8) (ps.getD k zeroPt) A' c') :
    Calls Try.prog 52 #[.agg (wbox (m : Int) g l pl ph A n c), .int .i64 (fr : Int), .int .i64 start] w (NewRow (rows selHi g l pl ph ps m fr start (m - 1)) w) := by
  have HA := hid (fun (W : World) (hE : Ext w W) => arrivals_sure g l pl ph n c b off ps hn A m hm1 hm2 hN ha fr hfr start h0 h1 (m - 1) (by omega) W (fun h0 => ⟨(hA h0).1, Nat.lt_of_lt_of_le (hA h0).2 hE.size⟩)
      (fun k hk => by obtain ⟨A', c', h⟩ := hp k hk; exact ⟨A', c', h.ext (hA (by omega)).2 hE⟩))
  have HML := hid (show (m : Int) - 1 = ((m - 1 : Nat) : Int) by omega)
  clear hp hn hN hA
  simp only [wbox] at HA ⊢
  go_enter Try.func52, Try.ntmps52
  go_wp2
  refine wp_abs (fun W => (W.cell? ⟨w.heap.size, 0, none⟩ = some (.int .i64 (m : Int)) ∧ W.cell? ⟨w.heap.size, 1, none⟩ = some (.slice A n c) ∧ W.cell? ⟨w.heap.size, 2, none⟩ = some (.int .i64 g) ∧ W.cell? ⟨w.heap.size, 3, none⟩ = some (.int .i64 l) ∧ W.cell? ⟨w.heap.size, 4, none⟩ = some (.int .i64 pl) ∧ W.cell? ⟨w.heap.size, 5, none⟩ = some (.int .i64 ph)) ∧ w.heap.size + 1 ≤ W.heap.size ∧ Ext w W) ⟨by go_simp, by simp, by (repeat' (first | with_reducible assumption | with_reducible exact Ext.refl _ | with_reducible refine Ext.alloc ?_ _ | with_reducible refine Ext.set ?_ ?_ _ | with_reducible refine Ext.drew ?_ | with_reducible refine Ext.drewN ?_ _ | with_reducible refine Ext.trans ?_ (by assumption) | (dsimp only; omega)))⟩ ?_
  rintro W ⟨⟨c0, c1, c2, c3, c4, c5⟩, hz, hE⟩
  go_region_held3 (fun w' => (∀ b o, b < w.heap.size + 1 → w'.cell? ⟨b, o, none⟩ = W.cell? ⟨b, o, none⟩) ∧ w.heap.size + 1 ≤ w'.heap.size ∧ Ext w w')
    (((try dsimp only); go_split_ands; (repeat' apply And.intro) <;> first | assumption | exact kcell (by assumption) (by omega) (by assumption) | exact kcell_refl _ _ | exact kcell_set (kcell_set (by assumption) (by dsimp only; omega) _) (by dsimp only; omega) _ | exact kcell_set (by assumption) (by dsimp only; omega) _ | exact held_ext (by assumption) (by dsimp only; omega) (by assumption) | exact hfrozen_ext (by assumption) (by dsimp only; omega) (by assumption) | exact Ext.sizeLe (by assumption) (by assumption) | exact Ext.trans (by assumption) (by assumption) | exact Ext.drew (by assumption) | exact held_set _ _ _ _ (held_set _ _ _ _ (by assumption)) | exact held_set _ _ _ _ (by assumption) | exact hfrozen_set _ _ (hfrozen_set _ _ (by assumption)) | exact hfrozen_set _ _ (by assumption) | exact hsize_set _ _ (hsize_set _ _ (by assumption)) | exact hsize_set _ _ (by assumption) | exact Ext.set (Ext.set (by assumption) (by dsimp only; omega) _) (by dsimp only; omega) _ | exact Ext.set (by assumption) (by dsimp only; omega) _))
    (first
      | (go_at_call 86; refine (longest_any _ _ _ _ _ _ (by omega) (by omega) _).mono ?_; rintro e w2 ⟨rfl, hE2⟩)
      | (go_at_call 85; rw [HML.out]; refine (HA.out _ ‹_ ∧ _ ∧ Ext _ _›.2.2).mono ?_; rintro e w2 ⟨gr, cap, rfl, hrow, hgr, hE2⟩; have hgw := Nat.le_trans (‹_ ∧ _ ∧ Ext _ _›.2.2).size hgr))
  rename_i hH
  try dsimp only at hH
  obtain ⟨-, -, hx⟩ := hH
  have HX := hid hx
  have HR := hid hrow
  clear hrow hx c0 c1 c2 c3 c4 c5
  go_wp2
  go_ret
  exact NewRow.mk rfl HR.out hgw HX.out
set_option maxRecDepth 100000 in
set_option maxHeartbeats 2000000 in
theorem best_any (g l pl ph : Int) (n c : Nat) (b off : Nat) (ps : List Pt) (hn : ps.length = n) (A : Option Addr) (m : Nat) (hm1 : 1 ≤ m) (hm2 : m ≤ 12) (hN : NOk m ps) (ha : PaOk l pl ph) (fr : Nat) (hfr : fr < m) (start : Int) (h0 : 0 ≤ start) (h1 : start ≤ 2881)
    (w : World) (hA : 0 < n → A = some ⟨b, off, none⟩ ∧ b < w.heap.size) (hp : ∀ k, k < ps.length → ∃ A' c', PtAt w b (off + k * 8) (ps.getD k zeroPt) A' c') :
    Calls Try.prog 53 #[.agg (wbox (m : Int) g l pl ph A n c), .int .i64 (fr : Int), .int .i64 start] w (NewRow (rows selLo g l pl ph ps m fr start (m - 1)) w) := by
  have HA := hid (fun (W : World) (hE : Ext w W) => arrivals_best g l pl ph n c b off ps hn A m hm1 hm2 hN ha fr hfr start h0 h1 (m - 1) (by omega) W (fun h0 => ⟨(hA h0).1, Nat.lt_of_lt_of_le (hA h0).2 hE.size⟩)
      (fun k hk => by obtain ⟨A', c', h⟩ := hp k hk; exact ⟨A', c', h.ext (hA (by omega)).2 hE⟩))
  have HML := hid (show (m : Int) - 1 = ((m - 1 : Nat) : Int) by omega)
  clear hp hn hN hA
  simp only [wbox] at HA ⊢
  go_enter Try.func53, Try.ntmps53
  go_wp2
  refine wp_abs (fun W => (W.cell? ⟨w.heap.size, 0, none⟩ = some (.int .i64 (m : Int)) ∧ W.cell? ⟨w.heap.size, 1, none⟩ = some (.slice A n c) ∧ W.cell? ⟨w.heap.size, 2, none⟩ = some (.int .i64 g) ∧ W.cell? ⟨w.heap.size, 3, none⟩ = some (.int .i64 l) ∧ W.cell? ⟨w.heap.size, 4, none⟩ = some (.int .i64 pl) ∧ W.cell? ⟨w.heap.size, 5, none⟩ = some (.int .i64 ph)) ∧ w.heap.size + 1 ≤ W.heap.size ∧ Ext w W) ⟨by go_simp, by simp, by (repeat' (first | with_reducible assumption | with_reducible exact Ext.refl _ | with_reducible refine Ext.alloc ?_ _ | with_reducible refine Ext.set ?_ ?_ _ | with_reducible refine Ext.drew ?_ | with_reducible refine Ext.drewN ?_ _ | with_reducible refine Ext.trans ?_ (by assumption) | (dsimp only; omega)))⟩ ?_
  rintro W ⟨⟨c0, c1, c2, c3, c4, c5⟩, hz, hE⟩
  go_region_held3 (fun w' => (∀ b o, b < w.heap.size + 1 → w'.cell? ⟨b, o, none⟩ = W.cell? ⟨b, o, none⟩) ∧ w.heap.size + 1 ≤ w'.heap.size ∧ Ext w w')
    (((try dsimp only); go_split_ands; (repeat' apply And.intro) <;> first | assumption | exact kcell (by assumption) (by omega) (by assumption) | exact kcell_refl _ _ | exact kcell_set (kcell_set (by assumption) (by dsimp only; omega) _) (by dsimp only; omega) _ | exact kcell_set (by assumption) (by dsimp only; omega) _ | exact held_ext (by assumption) (by dsimp only; omega) (by assumption) | exact hfrozen_ext (by assumption) (by dsimp only; omega) (by assumption) | exact Ext.sizeLe (by assumption) (by assumption) | exact Ext.trans (by assumption) (by assumption) | exact Ext.drew (by assumption) | exact held_set _ _ _ _ (held_set _ _ _ _ (by assumption)) | exact held_set _ _ _ _ (by assumption) | exact hfrozen_set _ _ (hfrozen_set _ _ (by assumption)) | exact hfrozen_set _ _ (by assumption) | exact hsize_set _ _ (hsize_set _ _ (by assumption)) | exact hsize_set _ _ (by assumption) | exact Ext.set (Ext.set (by assumption) (by dsimp only; omega) _) (by dsimp only; omega) _ | exact Ext.set (by assumption) (by dsimp only; omega) _))
    (first
      | (go_at_call 86; refine (longest_any _ _ _ _ _ _ (by omega) (by omega) _).mono ?_; rintro e w2 ⟨rfl, hE2⟩)
      | (go_at_call 85; rw [HML.out]; refine (HA.out _ ‹_ ∧ _ ∧ Ext _ _›.2.2).mono ?_; rintro e w2 ⟨gr, cap, rfl, hrow, hgr, hE2⟩; have hgw := Nat.le_trans (‹_ ∧ _ ∧ Ext _ _›.2.2).size hgr))
  rename_i hH
  try dsimp only at hH
  obtain ⟨-, -, hx⟩ := hH
  have HX := hid hx
  have HR := hid hrow
  clear hrow hx c0 c1 c2 c3 c4 c5
  go_wp2
  go_ret
  exact NewRow.mk rfl HR.out hgw HX.out

def orN (x : Int) : Int := if x = 2881 then -1 else x
theorem orN_step (xs : List Int) (k : Nat) (h : k < xs.length) : ((xs.take k).map orN ++ xs.drop k).set k (orN (xs.getD k 0)) = (xs.take (k + 1)).map orN ++ xs.drop (k + 1) := by
  have hl : ((xs.take k).map orN).length = k := by simp; omega
  rw [List.set_append_right _ _ (by omega), hl, Nat.sub_self, List.drop_eq_getElem_cons h, List.set_cons_zero, List.take_succ_eq_append_getElem h, List.map_append, List.append_assoc]
  simp [List.getD, List.getElem?_eq_getElem h]
theorem orN_get (xs : List Int) (k : Nat) (h : k < xs.length) : ((xs.take k).map orN ++ xs.drop k).getD k 0 = xs.getD k 0 := by
  have hl : ((xs.take k).map orN).length = k := by simp; omega
  simp only [List.getD, List.getElem?_append_right (Nat.le_of_eq hl), hl, Nat.sub_self, List.getElem?_drop, Nat.add_zero]
theorem orN_len (xs : List Int) (k : Nat) (h : k ≤ xs.length) : ((xs.take k).map orN ++ xs.drop k).length = xs.length := by simp; omega
theorem orN_same (xs : List Int) (k : Nat) (h : k < xs.length) (hne : ¬ xs.getD k 0 = 2881) : (xs.take (k + 1)).map orN ++ xs.drop (k + 1) = (xs.take k).map orN ++ xs.drop k := by
  have e : orN (xs.getD k 0) = xs.getD k 0 := by unfold orN; rw [if_neg hne]
  rw [← orN_step xs k h, e]
  have hk : k < ((xs.take k).map orN ++ xs.drop k).length := by rw [orN_len xs k (by omega)]; exact h
  have hg := orN_get xs k h
  apply List.ext_getElem?
  intro i
  by_cases hi : k = i
  · subst hi
    rw [List.getElem?_set_self hk]
    rw [List.getD, List.getElem?_eq_getElem hk] at hg
    rw [List.getElem?_eq_getElem hk]
    simpa using hg.symm
  · rw [List.getElem?_set_ne hi]

/-- Only block g, and what is new, may have turned. -/
def OnlyB (g : Nat) (w w' : World) : Prop := w.grownBy w' (some g)
theorem OnlyB.refl (g : Nat) (w : World) : OnlyB g w w := World.grownBy.refl w _
theorem OnlyB.set {g : Nat} {w w' : World} (h : OnlyB g w w') (i : Nat) (u : Value) : OnlyB g w (w'.setCell ⟨g, i, none⟩ u) :=
  ⟨h.os, h.tape, h.output, by simpa using h.size, fun k hk hne => (Below.heap_setCell w' ⟨g, i, none⟩ u k (fun e => hne (by rw [e]))).trans (h.block k hk hne)⟩
theorem OnlyB.ext {g : Nat} {a w w' : World} (h : Ext a w) (k : OnlyB g w w') (hg : a.heap.size ≤ g) : Ext a w' := ext_of_grown h k (fun j e => by injection e with e; omega)
theorem OnlyB.blk {g b : Nat} {w w' : World} {o : Obj} (k : OnlyB g w w') (h : w.heap[b]? = some o) (hne : b ≠ g) : w'.heap[b]? = some o := (k.block b (Array.getElem?_eq_some_iff.1 h).1 (fun e => by injection e with e; exact hne e)).trans h
theorem OnlyB.row {g b cap : Nat} {xs : List Int} {w w' : World} (k : OnlyB g w w') (h : RowAt w b cap xs) (hne : b ≠ g) : RowAt w' b cap xs := h.ofHeap k.size (k.block b h.lt (fun e => by injection e with e; exact hne e))

set_option maxHeartbeats 1000000 in
theorem orNone_any (g cap : Nat) (xs : List Int) (n : Nat) (hn : xs.length = n) (hm : n ≤ 1000) (w : World) (h : RowAt w g cap xs) :
    Calls Try.prog 51 #[.slice (some ⟨g, 0, none⟩) n cap] w fun e w' => e = .returned (.slice (some ⟨g, 0, none⟩) n cap) ∧ RowAt w' g cap (xs.map orN) ∧ OnlyB g w w' := by
  have H := hid h
  clear h
  go_enter Try.func51, Try.ntmps51
  go_wp2
  go_loopw [7] (fun i wr => ∃ k : Nat, k ≤ n ∧ i = .int .i64 k ∧ Hid (RowAt wr g cap ((xs.take k).map orN ++ xs.drop k)) ∧ OnlyB g w wr) (fun i _ => n - (intOf i).toNat)
  case atStart => exact ⟨0, Nat.zero_le _, rfl, by simpa using H, OnlyB.refl g w⟩
  case round =>
    obtain ⟨k, hk, rfl, R, hO⟩ := hrel
    by_cases hlt : k < n
    · have hl := orN_len xs k (by omega)
      have c0 := R.out.cell (k := k) (by omega)
      have f0 := R.out.fro k
      rw [orN_get xs k (by omega)] at c0
      have HS := hid (orN_step xs k (by omega))
      have HQ := hid (orN_same xs k (by omega))
      have HL := hid hl
      clear hl
      revert HS HQ c0
      generalize xs.getD k 0 = x
      intro c0 HS HQ
      by_cases hx : x = 2881
      · subst hx
        have RS := hid (show RowAt (wr.setCell ⟨g, k, none⟩ (.int .i64 (-1))) g cap ((xs.take (k + 1)).map orN ++ xs.drop (k + 1)) by rw [← HS.out]; exact R.out.set k (-1))
        go_wp2
        go_roundw
        case rel => exact ⟨k + 1, by omega, by go_num, RS, hO.set k _⟩
        case measure => simp [intOf]; omega
      · have hxb : (x == 2881) = false := by simpa using hx
        have RS := hid (show RowAt wr g cap ((xs.take (k + 1)).map orN ++ xs.drop (k + 1)) by rw [HQ.out hx]; exact R.out)
        clear HQ HS
        go_wp2
        go_roundw
        case rel => exact ⟨k + 1, by omega, by go_num, RS, hO⟩
        case measure => simp [intOf]; omega
    · obtain rfl : k = n := by omega
      have RS := hid (show RowAt wr g cap (xs.map orN) by have := R.out; rwa [List.take_of_length_le (by omega), List.drop_eq_nil_of_le (by omega), List.append_nil] at this)
      go_wp2
      go_ret
      exact ⟨rfl, RS.out, hO⟩
end Go.Proofs.Ytndoghcglbpllaa
/- Arrive. -/
set_option linter.unusedSimpArgs false
set_option linter.unusedVariables false
namespace Go.Proofs.Ytndoghcglbpllaa
open Go.RowKit

theorem PathsAt.open_ {w : World} {A : Option Addr} {ps : List Pt} {n : Nat} (h : PathsAt w A ps) (hn : ps.length = n) : ∃ b off, (0 < n → A = some ⟨b, off, none⟩ ∧ b < w.heap.size) ∧ ∀ k, k < ps.length → ∃ A' c', PtAt w b (off + k * 8) (ps.getD k zeroPt) A' c' := by
  by_cases h0 : ps = []
  · subst h0
    exact ⟨0, 0, fun hh => by simp at hn; omega, fun k hk => by simp at hk⟩
  · obtain ⟨b, off, hA, hb, hc⟩ := h h0
    exact ⟨b, off, fun _ => ⟨hA, hb⟩, hc⟩

theorem spanB_ok {l h b c : Int} (k : spanB l h b c = true) : b ≤ l ∧ l ≤ h ∧ h ≤ c := by
  unfold spanB at k
  simp at k
  omega
theorem placeB_ok {m x : Int} (h : placeB m x = true) : 0 ≤ x ∧ x < m := by
  unfold placeB at h
  simpa using h
theorem vNet_ok {m : Int} {ps : List Pt} (h : vNet m ps = true) : 1 ≤ m ∧ m ≤ 12 ∧ NOk m.toNat ps := by
  unfold vNet at h
  simp only [Bool.and_eq_true, decide_eq_true_eq] at h
  obtain ⟨h1, h2, h3, h4⟩ := h
  have hp : ∀ i, i < ps.length → vPath m (ps.getD i zeroPt) = true := by
    intro i hi
    rw [List.all_eq_true] at h4
    simp only [List.getD, List.getElem?_eq_getElem hi, Option.getD_some]
    exact h4 _ (List.getElem_mem _)
  have hq : ∀ i, i < ps.length → placeB m (ps.getD i zeroPt).frm = true ∧ placeB m (ps.getD i zeroPt).dst = true ∧ (ps.getD i zeroPt).opens.length ≤ 6 ∧ spanB (ps.getD i zeroPt).tl (ps.getD i zeroPt).th 1 600 = true ∧ spanB (ps.getD i zeroPt).sl (ps.getD i zeroPt).sh 0 30 = true := by
    intro i hi
    have := hp i hi
    unfold vPath at this
    simp only [Bool.and_eq_true, decide_eq_true_eq] at this
    exact ⟨this.1, this.2.1, this.2.2.2.2.1, this.2.2.2.2.2.1, this.2.2.2.2.2.2.1⟩
  refine ⟨h1, h2, h3, fun i hi => ?_, fun i hi => ?_, fun i hi => ?_⟩
  · obtain ⟨_, _, q3, q4, q5⟩ := hq i hi
    have := spanB_ok q4
    have := spanB_ok q5
    exact ⟨by omega, by omega, by omega, by omega, by omega, by omega, q3⟩
  · have := placeB_ok (hq i hi).1
    omega
  · have := placeB_ok (hq i hi).2.1
    omega
theorem vParty_ok {g l pl ph : Int} (h : vParty g l pl ph = true) : PaOk l pl ph := by
  unfold vParty at h
  simp only [Bool.and_eq_true, decide_eq_true_eq] at h
  have := spanB_ok h.2.1
  exact ⟨by omega, by omega, by omega, h.2.2.1, h.2.2.2⟩

theorem begin_zero {m g l pl ph : Int} {ps : List Pt} {xs ts : List Int} (h : beginE m g l pl ph ps xs ts = 0) :
    vNet m ps = true ∧ vParty g l pl ph = true ∧ (∀ x, x ∈ xs → 0 ≤ x ∧ x < m) ∧ (∀ t, t ∈ ts → 0 ≤ t ∧ t ≤ 2880) := by
  unfold beginE at h
  split at h
  · split at h
    · split at h
      · exact absurd h (by decide)
      · split at h
        · exact absurd h (by decide)
        · rename_i h1 h2 h3 h4
          refine ⟨h1, h2, fun x hx => ?_, fun t ht => ?_⟩
          · simp only [List.any_eq_true, not_exists, not_and] at h3
            have := h3 x hx
            unfold placeB at this
            simp at this
            omega
          · simp only [List.any_eq_true, not_exists, not_and] at h4
            have := h4 t ht
            unfold minuteB at this
            simp at this
            omega
    · exact absurd h (by decide)
  · exact absurd h (by decide)

/-- What Arrive returns if all is valid. -/
def arrList (sel : Int → Int → Int) (g l pl ph : Int) (ps : List Pt) (m : Int) (from_ start : Int) : List Int := (rows sel g l pl ph ps m.toNat from_.toNat start (m.toNat - 1)).map orN
def TwoRows (xs ys : List Int) (w : World) (e : Ending) (w' : World) : Prop :=
  ∃ g1 c1 g2 c2, e = .returned (.tuple #[.slice (some ⟨g1, 0, none⟩) xs.length c1, .slice (some ⟨g2, 0, none⟩) ys.length c2, .int .i64 0]) ∧ RowAt w' g1 c1 xs ∧ RowAt w' g2 c2 ys ∧ w.heap.size ≤ g1 ∧ w.heap.size ≤ g2 ∧ Ext w w'

theorem ints_one_at {w : World} {b : Nat} {x : Int} {t : TypeId} (h : w.heap[b]? = some (.cells #[.int .i64 x] t (0, 0))) : IntsAt w (some ⟨b, 0, none⟩) [x] := fun _ => ⟨b, 0, rfl, (Array.getElem?_eq_some_iff.1 h).1, fun k hk => by
  have : k = 0 := by simpa using hk
  subst this
  have := blk_cell h 0
  simpa using this⟩

set_option maxRecDepth 100000 in
set_option maxHeartbeats 2000000 in
theorem arrive_bad (m g l pl ph from_ start : Int) (A : Option Addr) (n c : Nat) (ps : List Pt) (hn : ps.length = n) (w : World) (hp : PathsAt w A ps) (E : Int) (hE : beginE m g l pl ph ps [from_] [start] = E) (hne : E ≠ 0) :
    Calls Try.prog 19 #[.agg #[.int .i64 m, .slice A n c], .agg #[.int .i64 g, .int .i64 l, .int .i64 pl, .int .i64 ph], .int .i64 from_, .int .i64 start] w fun e w' =>
      e = .returned (.tuple #[.slice none 0 0, .slice none 0 0, .int .i64 E]) ∧ Ext w w' := by
  have HB := hid (fun (b1 b2 : Nat) (W : World) (hW : Ext w W) (h1 : IntsAt W (some ⟨b1, 0, none⟩) [from_]) (h2 : IntsAt W (some ⟨b2, 0, none⟩) [start]) => begin_bad m g l pl ph A (some ⟨b1, 0, none⟩) (some ⟨b2, 0, none⟩) n c 1 1 1 1 ps [from_] [start] hn rfl rfl (by omega) (by omega) W (hp.ext hW) h1 h2 E hE hne)
  have hneb : (E != 0) = true := by simpa using hne
  have HNB := hid hneb
  clear hp hn hE hne hneb
  go_enter Try.func19, Try.ntmps19
  go_wp2_with fail
  have t1 := two_blocks ((w.alloc (.cells #[.int .i64 m, .slice A n c] 24)).alloc (.cells #[.int .i64 g, .int .i64 l, .int .i64 pl, .int .i64 ph] 28)) (.cells #[.int .i64 from_] 3) (.cells #[.int .i64 start] 3)
  simp only [World.size_alloc] at t1
  refine (HB.out _ _ _ (by (repeat' (first | with_reducible assumption | with_reducible exact Ext.refl _ | with_reducible refine Ext.alloc ?_ _ | with_reducible refine Ext.set ?_ ?_ _ | with_reducible refine Ext.drew ?_ | with_reducible refine Ext.drewN ?_ _ | with_reducible refine Ext.trans ?_ (by assumption) | (dsimp only; omega)))) (ints_one_at t1.1) (ints_one_at t1.2.1)).mono ?_
  clear t1
  rintro e w1 ⟨rfl, hE⟩
  have EW : Ext w w1 := by (repeat' (first | with_reducible assumption | with_reducible exact Ext.refl _ | with_reducible refine Ext.alloc ?_ _ | with_reducible refine Ext.set ?_ ?_ _ | with_reducible refine Ext.drew ?_ | with_reducible refine Ext.drewN ?_ _ | with_reducible refine Ext.trans ?_ (by assumption) | (dsimp only; omega)))
  have hneb := HNB.out
  clear hE
  go_wp2_with fail
  go_ret3
  exact ⟨rfl, by (repeat' (first | with_reducible assumption | with_reducible exact Ext.refl _ | with_reducible refine Ext.alloc ?_ _ | with_reducible refine Ext.set ?_ ?_ _ | with_reducible refine Ext.drew ?_ | with_reducible refine Ext.drewN ?_ _ | with_reducible refine Ext.trans ?_ (by assumption) | (dsimp only; omega)))⟩
theorem konly {w1 w2 W : World} {n g : Nat} (e : OnlyB g w1 w2) (hg : n ≤ g) (h : ∀ b o, b < n → w1.cell? ⟨b, o, none⟩ = W.cell? ⟨b, o, none⟩) (hn : n ≤ w1.heap.size) : ∀ b o, b < n → w2.cell? ⟨b, o, none⟩ = W.cell? ⟨b, o, none⟩ :=
  fun b o hb => (World.cell?_of_block (a := ⟨b, o, none⟩) (e.block b (by omega) (fun hh => by injection hh with hh; omega))).trans (h b o hb)

theorem OnlyB.ext' {g : Nat} {a w w' : World} (k : OnlyB g w w') (h : Ext a w) (hg : a.heap.size ≤ g) : Ext a w' := OnlyB.ext h k hg

set_option maxRecDepth 100000 in
set_option maxHeartbeats 2000000 in
theorem arrive_ok (m g l pl ph from_ start : Int) (A : Option Addr) (n c : Nat) (ps : List Pt) (hn : ps.length = n) (w : World) (hp : PathsAt w A ps) (hb : beginE m g l pl ph ps [from_] [start] = 0) :
    Calls Try.prog 19 #[.agg #[.int .i64 m, .slice A n c], .agg #[.int .i64 g, .int .i64 l, .int .i64 pl, .int .i64 ph], .int .i64 from_, .int .i64 start] w
      (TwoRows (arrList selHi g l pl ph ps m from_ start) (arrList selLo g l pl ph ps m from_ start) w) := by
  obtain ⟨k1, k2, k3, k4⟩ := begin_zero hb
  obtain ⟨hm1, hm2, hN⟩ := vNet_ok k1
  have ha := vParty_ok k2
  have hfr := k3 from_ (by simp)
  have hst := k4 start (by simp)
  obtain ⟨b, off, hA, hpp⟩ := hp.open_ hn
  obtain ⟨mm, rfl⟩ : ∃ k : Nat, m = k := ⟨m.toNat, by omega⟩
  obtain ⟨fr, rfl⟩ : ∃ k : Nat, from_ = k := ⟨from_.toNat, by omega⟩
  rw [Int.toNat_natCast] at hN
  unfold arrList
  rw [Int.toNat_natCast, Int.toNat_natCast]
  have HB := hid (fun (b1 b2 : Nat) (W : World) (hW : Ext w W) (h1 : IntsAt W (some ⟨b1, 0, none⟩) [(fr : Int)]) (h2 : IntsAt W (some ⟨b2, 0, none⟩) [start]) => begin_ok mm g l pl ph A (some ⟨b1, 0, none⟩) (some ⟨b2, 0, none⟩) n c 1 1 1 1 ps [(fr : Int)] [start] hn rfl rfl (by omega) (by omega) W (hp.ext hW) h1 h2 hb)
  have HS := hid (fun (W : World) (hE : Ext w W) => sure_any g l pl ph n c b off ps hn A mm (by omega) (by omega) hN ha fr (by omega) start hst.1 (by omega) W (fun h0 => ⟨(hA h0).1, Nat.lt_of_lt_of_le (hA h0).2 hE.size⟩)
      (fun k hk => by obtain ⟨A', c', h⟩ := hpp k hk; exact ⟨A', c', h.ext (hA (by omega)).2 hE⟩))
  have HT := hid (fun (W : World) (hE : Ext w W) => best_any g l pl ph n c b off ps hn A mm (by omega) (by omega) hN ha fr (by omega) start hst.1 (by omega) W (fun h0 => ⟨(hA h0).1, Nat.lt_of_lt_of_le (hA h0).2 hE.size⟩)
      (fun k hk => by obtain ⟨A', c', h⟩ := hpp k hk; exact ⟨A', c', h.ext (hA (by omega)).2 hE⟩))
  have hl1 := (rows_bd selHi_pos (g := g) ha hN (from_ := fr) hst.1 (by omega : start ≤ 2881) (mm - 1)).1
  have hl2 := (rows_bd selLo_pos (g := g) ha hN (from_ := fr) hst.1 (by omega : start ≤ 2881) (mm - 1)).1
  revert HS HT hl1 hl2
  generalize rows selHi g l pl ph ps mm fr start (mm - 1) = xs
  generalize rows selLo g l pl ph ps mm fr start (mm - 1) = ys
  intro HS HT hl1 hl2
  have HL1 := hid hl1
  have HL2 := hid hl2
  simp only [wbox] at HS HT
  clear hp hn hb k1 k2 k3 k4 hN ha hfr hst hA hpp hl1 hl2
  go_enter Try.func19, Try.ntmps19
  go_wp2_with fail
  have t1 := two_blocks ((w.alloc (.cells #[.int .i64 (mm : Int), .slice A n c] 24)).alloc (.cells #[.int .i64 g, .int .i64 l, .int .i64 pl, .int .i64 ph] 28)) (.cells #[.int .i64 (fr : Int)] 3) (.cells #[.int .i64 start] 3)
  simp only [World.size_alloc] at t1
  refine (HB.out _ _ _ (by (repeat' (first | with_reducible assumption | with_reducible exact Ext.refl _ | with_reducible refine Ext.alloc ?_ _ | with_reducible refine Ext.set ?_ ?_ _ | with_reducible refine Ext.drew ?_ | with_reducible refine Ext.drewN ?_ _ | with_reducible refine Ext.trans ?_ (by assumption) | (dsimp only; omega)))) (ints_one_at t1.1) (ints_one_at t1.2.1)).mono ?_
  clear t1
  rintro e w1 ⟨rfl, hE⟩
  have EW : Ext w w1 := by (repeat' (first | with_reducible assumption | with_reducible exact Ext.refl _ | with_reducible refine Ext.alloc ?_ _ | with_reducible refine Ext.set ?_ ?_ _ | with_reducible refine Ext.drew ?_ | with_reducible refine Ext.drewN ?_ _ | with_reducible refine Ext.trans ?_ (by assumption) | (dsimp only; omega)))
  have hz0 : w.heap.size ≤ w1.heap.size := EW.size
  clear hE HB
  go_wp2_with fail
  refine wp_abs (fun W => (W.cell? ⟨w1.heap.size, 0, none⟩ = some (.int .i64 (mm : Int)) ∧ W.cell? ⟨w1.heap.size, 1, none⟩ = some (.slice A n c) ∧ W.cell? ⟨w1.heap.size, 2, none⟩ = some (.int .i64 g) ∧ W.cell? ⟨w1.heap.size, 3, none⟩ = some (.int .i64 l) ∧ W.cell? ⟨w1.heap.size, 4, none⟩ = some (.int .i64 pl) ∧ W.cell? ⟨w1.heap.size, 5, none⟩ = some (.int .i64 ph)) ∧ w1.heap.size + 1 ≤ W.heap.size ∧ Ext w W) ⟨by go_simp, by simp, by (repeat' (first | with_reducible assumption | with_reducible exact Ext.refl _ | with_reducible refine Ext.alloc ?_ _ | with_reducible refine Ext.set ?_ ?_ _ | with_reducible refine Ext.drew ?_ | with_reducible refine Ext.drewN ?_ _ | with_reducible refine Ext.trans ?_ (by assumption) | (dsimp only; omega)))⟩ ?_
  rintro W ⟨⟨c0, c1, c2, c3, c4, c5⟩, hz, hE⟩
  go_region_held3 (fun w' => (∀ b o, b < w1.heap.size + 1 → w'.cell? ⟨b, o, none⟩ = W.cell? ⟨b, o, none⟩) ∧ w1.heap.size + 1 ≤ w'.heap.size ∧ Ext w w')
    ((first | (((try dsimp only); go_split_ands; (repeat' apply And.intro) <;> first | assumption | exact kcell (by assumption) (by omega) (by assumption) | exact kcell_refl _ _ | exact kcell_set (kcell_set (by assumption) (by dsimp only; omega) _) (by dsimp only; omega) _ | exact kcell_set (by assumption) (by dsimp only; omega) _ | exact held_ext (by assumption) (by dsimp only; omega) (by assumption) | exact hfrozen_ext (by assumption) (by dsimp only; omega) (by assumption) | exact Ext.sizeLe (by assumption) (by assumption) | exact Ext.trans (by assumption) (by assumption) | exact Ext.drew (by assumption) | exact held_set _ _ _ _ (held_set _ _ _ _ (by assumption)) | exact held_set _ _ _ _ (by assumption) | exact hfrozen_set _ _ (hfrozen_set _ _ (by assumption)) | exact hfrozen_set _ _ (by assumption) | exact hsize_set _ _ (hsize_set _ _ (by assumption)) | exact hsize_set _ _ (by assumption) | exact Ext.set (Ext.set (by assumption) (by dsimp only; omega) _) (by dsimp only; omega) _ | exact Ext.set (by assumption) (by dsimp only; omega) _); done) | ((try dsimp only); go_split_ands; exact ⟨konly (by assumption) (by assumption) (by assumption) (by assumption), Nat.le_trans (by assumption) (World.grownBy.size (by assumption)), OnlyB.ext' (by assumption) (by assumption) (by omega)⟩)))
    (first
      | (go_at_call 52; refine (HS.out _ ‹_ ∧ _ ∧ Ext _ _›.2.2).mono ?_; rintro e w2 ⟨g1, cap1, rfl, r1, s1, hE2⟩; have hg1 := Nat.le_trans (‹_ ∧ _ ∧ Ext _ _›.2.1) s1)
      | (go_at_call 53; refine (HT.out _ ‹_ ∧ _ ∧ Ext _ _›.2.2).mono ?_; rintro e w4 ⟨g2, cap2, rfl, r2, s2, hE4⟩; have hg2 := Nat.le_trans (‹_ ∧ _ ∧ Ext _ _›.2.1) s2)
      | (go_at_call 51; refine (orNone_any _ _ _ _ rfl (by first | (rw [HL1.out]; omega) | (rw [HL2.out]; omega)) _ (by assumption)).mono ?_; rintro e w3 ⟨rfl, hR3, hO3⟩))
  rename_i hH
  try dsimp only at hH
  obtain ⟨-, -, hx⟩ := hH
  have hne : g1 ≠ g2 := by
    have := (‹RowAt _ g1 cap1 (List.map orN xs)›).lt
    omega
  have F1 : RowAt _ g1 cap1 (List.map orN xs) := OnlyB.row hO3 (RowAt.ext ‹RowAt _ g1 cap1 (List.map orN xs)› hE4) hne
  have FF := hid (And.intro F1 (And.intro hR3 hx))
  have hg1' : w.heap.size ≤ g1 := by omega
  have hg2' : w.heap.size ≤ g2 := by omega
  clear F1 hR3 hx c0 c1 c2 c3 c4 c5
  go_wp2
  go_ret3
  exact ⟨g1, cap1, g2, cap2, by rw [List.length_map, List.length_map]; rfl, FF.out.1, FF.out.2.1, hg1', hg2', FF.out.2.2⟩
end Go.Proofs.Ytndoghcglbpllaa
/- Whether a start is too late. -/
set_option linter.unusedSimpArgs false
set_option linter.unusedVariables false
namespace Go.Proofs.Ytndoghcglbpllaa
open Go.RowKit
set_option maxRecDepth 100000 in
set_option maxHeartbeats 2000000 in
theorem late_any (g l pl ph : Int) (n c : Nat) (b off : Nat) (ps : List Pt) (hn : ps.length = n) (A : Option Addr) (m : Nat) (hm1 : 1 ≤ m) (hm2 : m ≤ 12) (hN : NOk m ps) (ha : PaOk l pl ph) (fr to_ : Nat) (hfr : fr < m) (hto : to_ < m) (D start : Int) (h0 : 0 ≤ start) (h1 : start ≤ 2881)
    (w : World) (hA : 0 < n → A = some ⟨b, off, none⟩ ∧ b < w.heap.size) (hp : ∀ k, k < ps.length → ∃ A' c', PtAt w b (off + k * 8) (ps.getD k zeroPt) A' c')
    (q0 q1 q2 q3 : Nat) (b0 : w.heap[q0]? = some (.cells (wbox (m : Int) g l pl ph A n c) 70 (0, 0))) (b1 : w.heap[q1]? = some (.cells #[.int .i64 (fr : Int)] 3 (0, 0))) (b2 : w.heap[q2]? = some (.cells #[.int .i64 (to_ : Int)] 3 (0, 0))) (b3 : w.heap[q3]? = some (.cells #[.int .i64 D] 3 (0, 0))) :
    Calls Try.prog 59 #[.int .i64 start, .pointer (some ⟨q0, 0, none⟩), .pointer (some ⟨q1, 0, none⟩), .pointer (some ⟨q2, 0, none⟩), .pointer (some ⟨q3, 0, none⟩)] w fun e w' =>
      e = .returned (.bool (decide (D < (rows selHi g l pl ph ps m fr start (m - 1)).getD to_ 0))) ∧ Ext w w' := by
  have HS := hid (fun (W : World) (hE : Ext w W) => sure_any g l pl ph n c b off ps hn A m hm1 hm2 hN ha fr hfr start h0 h1 W (fun h0 => ⟨(hA h0).1, Nat.lt_of_lt_of_le (hA h0).2 hE.size⟩)
      (fun k hk => by obtain ⟨A', c', h⟩ := hp k hk; exact ⟨A', c', h.ext (hA (by omega)).2 hE⟩))
  have hl1 := (rows_bd selHi_pos (g := g) ha hN (from_ := fr) h0 h1 (m - 1)).1
  revert HS hl1
  generalize rows selHi g l pl ph ps m fr start (m - 1) = xs
  intro HS hl1
  have c0 := blk_cell b0 0
  have c1 := blk_cell b0 1
  have c2 := blk_cell b0 2
  have c3 := blk_cell b0 3
  have c4 := blk_cell b0 4
  have c5 := blk_cell b0 5
  have c6 := blk_cell b1 0
  have c7 := blk_cell b2 0
  have c8 := blk_cell b3 0
  simp only [wbox, List.getElem?_toArray, List.getElem?_cons_zero, List.getElem?_cons_succ] at c0 c1 c2 c3 c4 c5 c6 c7 c8 HS
  have s0 : q0 < w.heap.size := (Array.getElem?_eq_some_iff.1 b0).1
  have s1 : q1 < w.heap.size := (Array.getElem?_eq_some_iff.1 b1).1
  have s2 : q2 < w.heap.size := (Array.getElem?_eq_some_iff.1 b2).1
  have s3 : q3 < w.heap.size := (Array.getElem?_eq_some_iff.1 b3).1
  have ht0 : (0 : Int) ≤ (to_ : Int) := by omega
  have ht1 : (to_ : Int) < (xs.length : Int) := by omega
  have HL := hid hl1
  clear hp hn hN ha hA hl1 b0 b1 b2 b3
  go_enter Try.func59, Try.ntmps59
  go_wp2
  refine wp_region_held_drew (S := fun w' => (∀ b o, b < w.heap.size → w'.cell? ⟨b, o, none⟩ = w.cell? ⟨b, o, none⟩) ∧ w.heap.size ≤ w'.heap.size ∧ Ext w w') (by kernel_rfl) ?hS0 (fun hHeld => ?_)
  case hS0 => exact ⟨fun _ _ _ => rfl, Nat.le_refl _, Ext.drew (Ext.refl _)⟩
  refine wpAnyH_take (i := 0) (oi := _) (v := ?v0h) rfl (by kernel_rfl) (by kernel_rfl) (by kernel_rfl) (fun _ _ _ h => h) (Or.inl ⟨by rfl, ?y0h⟩) (by assumption) ?r0h
  case y0h => (intro w' hSw; (try dsimp only at hSw); go_simp; (try with_reducible rfl))
  try simp only [Act.put, List.getElem_toArray, List.getElem_cons_zero, List.getElem_cons_succ, List.setIfInBounds_toArray, List.set_cons_zero, List.set_cons_succ]
  refine wpAnyH_take (i := 1) (oi := _) (v := ?v1h) rfl (by kernel_rfl) (by kernel_rfl) (by kernel_rfl) (fun _ _ _ h => h) (Or.inl ⟨by rfl, ?y1h⟩) (by assumption) ?r1h
  case y1h => (intro w' hSw; (try dsimp only at hSw); go_simp; (try with_reducible rfl))
  try simp only [Act.put, List.getElem_toArray, List.getElem_cons_zero, List.getElem_cons_succ, List.setIfInBounds_toArray, List.set_cons_zero, List.set_cons_succ]
  refine wpAnyH_take (i := 2) (oi := _) (v := ?v2h) rfl (by kernel_rfl) (by kernel_rfl) (by kernel_rfl) (fun _ _ _ h => h) (Or.inl ⟨by rfl, ?y2h⟩) (by assumption) ?r2h
  case y2h => (intro w' hSw; (try dsimp only at hSw); go_simp; (try with_reducible rfl))
  try simp only [Act.put, List.getElem_toArray, List.getElem_cons_zero, List.getElem_cons_succ, List.setIfInBounds_toArray, List.set_cons_zero, List.set_cons_succ]
  refine wpAnyH_take (i := 4) (oi := _) (v := ?v4h) rfl (by kernel_rfl) (by kernel_rfl) (by kernel_rfl) (fun _ _ _ h => h) (Or.inl ⟨by rfl, ?y4h⟩) (by assumption) ?r4h
  case y4h => (intro w' hSw; (try dsimp only at hSw); go_simp; (try with_reducible rfl))
  try simp only [Act.put, List.getElem_toArray, List.getElem_cons_zero, List.getElem_cons_succ, List.setIfInBounds_toArray, List.set_cons_zero, List.set_cons_succ]
  refine wpAnyH_take (i := 7) (oi := _) (v := ?v7h) rfl (by kernel_rfl) (by kernel_rfl) (by kernel_rfl) (fun _ _ _ h => h) (Or.inl ⟨by rfl, ?y7h⟩) (by assumption) ?r7h
  case y7h => (intro w' hSw; (try dsimp only at hSw); go_simp; (try with_reducible rfl))
  try simp only [Act.put, List.getElem_toArray, List.getElem_cons_zero, List.getElem_cons_succ, List.setIfInBounds_toArray, List.set_cons_zero, List.set_cons_succ]
  refine wpAnyH_ready (rs := [3]) (by kernel_rfl) (by simp) ?_
  refine AllReadyH.cons (o := _) rfl (fun K hK => ?_) AllReadyH.nil
  go_simp
  refine (HS.out _ (Ext.drew (Ext.refl w))).mono ?_
  rintro e w2 ⟨g1, cap1, rfl, r1, z1, hE2⟩
  have hcr := r1.cell (k := to_) (by omega)
  have hx : Ext w w2 := (Ext.drew (Ext.refl w)).trans hE2
  clear hHeld
  dsimp only
  refine hK.out _ _ ⟨kcell (w1 := w.drew) (W := w) (fun _ _ _ => rfl) (Nat.le_refl _) hE2, hx.size, hx⟩ (fun hHeld => ?_)
  clear hK K
  try simp only [Act.put, List.getElem_toArray, List.getElem_cons_zero, List.getElem_cons_succ, List.setIfInBounds_toArray, List.set_cons_zero, List.set_cons_succ]
  refine wpAnyH_take (i := 5) (oi := _) (v := ?v5h) rfl (by kernel_rfl) (by kernel_rfl) (by kernel_rfl) (fun _ _ _ h => h) (Or.inl ⟨by rfl, ?y5h⟩) (by assumption) ?r5h
  case y5h => (intro w' hSw; (try dsimp only at hSw); go_simp; (try with_reducible rfl))
  try simp only [Act.put, List.getElem_toArray, List.getElem_cons_zero, List.getElem_cons_succ, List.setIfInBounds_toArray, List.set_cons_zero, List.set_cons_succ]
  have HH := hid hHeld
  clear hHeld
  refine wpAnyH_ready (rs := [6]) (by kernel_rfl) (by simp) ?_
  refine AllReadyH.cons (o := _) rfl (fun K hK => ?_) AllReadyH.nil
  go_simp
  refine hK.out _ _ HH.out (fun hHeld => ?_)
  clear hK K
  try simp only [Act.put, List.getElem_toArray, List.getElem_cons_zero, List.getElem_cons_succ, List.setIfInBounds_toArray, List.set_cons_zero, List.set_cons_succ]
  refine wpAnyH_take (i := 8) (oi := _) (v := ?v8h) rfl (by kernel_rfl) (by kernel_rfl) (by kernel_rfl) (fun _ _ _ h => h) (Or.inl ⟨by rfl, ?y8h⟩) (by assumption) ?r8h
  case y8h => (intro w' hSw; (try dsimp only at hSw); go_simp; (try with_reducible rfl))
  try simp only [Act.put, List.getElem_toArray, List.getElem_cons_zero, List.getElem_cons_succ, List.setIfInBounds_toArray, List.set_cons_zero, List.set_cons_succ]
  refine wpAnyH_take (i := 9) (oi := _) (v := ?v9h) rfl (by kernel_rfl) (by kernel_rfl) (by kernel_rfl) (fun _ _ _ h => h) (Or.inl ⟨by rfl, ?y9h⟩) (by assumption) ?r9h
  case y9h => (intro w' hSw; (try dsimp only at hSw); go_simp; (try with_reducible rfl))
  try simp only [Act.put, List.getElem_toArray, List.getElem_cons_zero, List.getElem_cons_succ, List.setIfInBounds_toArray, List.set_cons_zero, List.set_cons_succ]
  refine wpAnyH_done (by kernel_rfl) ?_ _
  go_wp2
  go_ret
  exact ⟨rfl, hx⟩
end Go.Proofs.Ytndoghcglbpllaa
/- sort.Search with the closure of Latest. -/
set_option linter.unusedSimpArgs false
set_option linter.unusedVariables false
namespace Go.Proofs.Ytndoghcglbpllaa
open Go.RowKit
def Least (n : Nat) (p : Nat → Bool) (r : Nat) : Prop := r ≤ n ∧ (∀ x, x < r → p x = false) ∧ (∀ x, r ≤ x → x < n → p x = true)
def Searched (n : Nat) (p : Nat → Bool) (w : World) (e : Ending) (w' : World) : Prop := (∃ r : Nat, e = .returned (.int .i64 (r : Int)) ∧ Least n p r) ∧ Ext w w'
theorem Searched.mk {n : Nat} {p : Nat → Bool} {w w' : World} {e : Ending} (r : Nat) (h : e = .returned (.int .i64 (r : Int))) (hl : Least n p r) (he : Ext w w') : Searched n p w e w' := ⟨⟨r, h, hl⟩, he⟩
theorem mono_lo {p : Nat → Bool} (hm : ∀ x y, x ≤ y → p x = true → p y = true) {h : Nat} (hf : p h = false) : ∀ x, x < h + 1 → p x = false := fun x hx => by
  cases hp : p x with
  | false => rfl
  | true => rw [hm x h (by omega) hp] at hf; cases hf

set_option maxHeartbeats 1000000 in
theorem search_any (q0 q1 q2 q3 : Nat) (n : Nat) (hn : n ≤ 3000) (p : Nat → Bool) (hm : ∀ x y, x ≤ y → p x = true → p y = true) (w : World)
    (hf : ∀ (x : Nat) (W : World), x < n → Ext w W → Calls Try.prog 59 #[.int .i64 (x : Int), .pointer (some ⟨q0, 0, none⟩), .pointer (some ⟨q1, 0, none⟩), .pointer (some ⟨q2, 0, none⟩), .pointer (some ⟨q3, 0, none⟩)] W fun e W' => e = .returned (.bool (p x)) ∧ Ext W W') :
    Calls Try.prog 60 #[.int .i64 (n : Int), .func (.func 59) #[] #[.pointer (some ⟨q0, 0, none⟩), .pointer (some ⟨q1, 0, none⟩), .pointer (some ⟨q2, 0, none⟩), .pointer (some ⟨q3, 0, none⟩)]] w (Searched n p w) := by
  have HF := hid hf
  have HM := hid hm
  clear hf hm
  go_enter Try.func60, Try.ntmps60
  go_wp2
  go_loopw [5, 6] (fun i j wr => Ext w wr ∧ ∃ a b : Nat, a ≤ b ∧ b ≤ n ∧ i = .int .i64 a ∧ j = .int .i64 b ∧ Hid (∀ x, x < a → p x = false) ∧ Hid (∀ x, b ≤ x → x < n → p x = true)) (fun i j _ => (intOf j).toNat - (intOf i).toNat)
  case atStart => exact ⟨by (repeat' (first | with_reducible assumption | with_reducible exact Ext.refl _ | with_reducible refine Ext.alloc ?_ _ | with_reducible refine Ext.set ?_ ?_ _ | with_reducible refine Ext.drew ?_ | with_reducible refine Ext.drewN ?_ _ | with_reducible refine Ext.trans ?_ (by assumption) | (dsimp only; omega))), 0, n, by omega, by omega, rfl, rfl, hid (fun x hx => by omega), hid (fun x h1 h2 => by omega)⟩
  case round =>
    obtain ⟨hE, a, b, hab, hbn, rfl, rfl, H1, H2⟩ := hrel
    by_cases hlt : a < b
    · go_wp2_with fail
      obtain ⟨h, hh⟩ : ∃ h : Nat, h = (a + b) / 2 := ⟨_, rfl⟩
      have hmid : ((a : Int) + (b : Int)) / 2 = (h : Int) := by omega
      have hb1 : a ≤ h := by omega
      have hb2 : h < b := by omega
      clear hh
      rw [hmid]
      clear hmid
      refine (HF.out h wr (by omega) hE).mono ?_
      rintro e w2 ⟨rfl, hE2⟩
      have hE3 := hE.trans hE2
      rcases Bool.eq_false_or_eq_true (p h) with hp | hp
      · rw [hp]
        have H3 := hid (fun (x : Nat) (h1 : h ≤ x) (_ : x < n) => HM.out h x h1 hp)
        clear hp hE hE2
        go_wp2
        go_roundw
        case rel => exact ⟨hE3, a, h, by omega, by omega, rfl, rfl, H1, H3⟩
        case measure => simp [intOf]; omega
      · rw [hp]
        have H3 := hid (mono_lo HM.out hp)
        clear hp hE hE2
        go_wp2
        go_roundw
        case rel => exact ⟨hE3, h + 1, b, by omega, by omega, by go_num, rfl, H3, H2⟩
        case measure => simp [intOf]; omega
    · obtain rfl : a = b := by omega
      have HL := hid (show Least n p a from ⟨hbn, H1.out, H2.out⟩)
      go_wp2
      go_ret
      exact Searched.mk a rfl HL.out hE
end Go.Proofs.Ytndoghcglbpllaa
