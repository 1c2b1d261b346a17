/- fits. -/
import Derived.Test.YtndoghcglbpllaaE16
import Derived.Test.YtndoghcglbpllaaE09
set_option linter.unusedSimpArgs false
set_option linter.unusedVariables false
namespace Go.Proofs.Ytndoghcglbpllaa
open Go.RowKit
def partyE (m g l pl ph : Int) (ps : List Pt) : Int := if vNet m ps = true then (if vParty g l pl ph = true then 0 else 11) else 10

def wB (a b c : Int) : Bool := decide (b ≤ a) && decide (a ≤ c)
theorem within_w (a b c : Int) (w : World) : Calls Try.prog 42 #[.int .i64 a, .int .i64 b, .int .i64 c] w fun e w' => e = .returned (.bool (wB a b c)) ∧ w' = w := within_any a b c w
theorem vParty_eq (g l pl ph : Int) : vParty g l pl ph = (wB g 1 6 && (spanB pl ph 50 300 && wB l 0 40)) := rfl

set_option maxRecDepth 100000 in
set_option maxHeartbeats 1000000 in
theorem rCheckParty_any (m g l pl ph : Int) (A : Option Addr) (n c : Nat) (ps : List Pt) (hn : ps.length = n) (w : World) (hp : PathsAt w A ps) :
    Calls Try.prog 49 #[.agg #[.int .i64 m, .slice A n c], .agg #[.int .i64 g, .int .i64 l, .int .i64 pl, .int .i64 ph]] w fun e w' => e = .returned (.int .i64 (partyE m g l pl ph ps)) ∧ Ext w w' := by
  have HC := hid (fun (W : World) (hW : Ext w W) => rCheck_any m A n c ps hn W (hp.ext hW))
  clear hp hn
  unfold partyE
  unfold checkE at HC
  revert HC
  cases hv : vNet m ps
  · intro HC
    clear hv
    rw [if_neg (by decide)] at HC ⊢
    go_enter Try.func49, Try.ntmps49
    go_wp2_with fail
    refine (HC.out _ (by (repeat' (first | with_reducible assumption | with_reducible exact Ext.refl _ | with_reducible refine Ext.alloc ?_ _ | with_reducible refine Ext.set ?_ ?_ _ | with_reducible refine Ext.drew ?_ | with_reducible refine Ext.drewN ?_ _ | with_reducible refine Ext.trans ?_ (by assumption) | (dsimp only; omega))))).mono ?_
    rintro e w2 ⟨rfl, hE⟩
    go_wp2
    go_ret
    exact ⟨rfl, by (repeat' (first | with_reducible assumption | with_reducible exact Ext.refl _ | with_reducible refine Ext.alloc ?_ _ | with_reducible refine Ext.set ?_ ?_ _ | with_reducible refine Ext.drew ?_ | with_reducible refine Ext.drewN ?_ _ | with_reducible refine Ext.trans ?_ (by assumption) | (dsimp only; omega)))⟩
  · intro HC
    clear hv
    rw [if_pos rfl] at HC ⊢
    rw [vParty_eq]
    cases h1 : wB g 1 6
    · go_enter Try.func49, Try.ntmps49
      go_wp2_with fail
      refine (HC.out _ (by (repeat' (first | with_reducible assumption | with_reducible exact Ext.refl _ | with_reducible refine Ext.alloc ?_ _ | with_reducible refine Ext.set ?_ ?_ _ | with_reducible refine Ext.drew ?_ | with_reducible refine Ext.drewN ?_ _ | with_reducible refine Ext.trans ?_ (by assumption) | (dsimp only; omega))))).mono ?_
      rintro e w2 ⟨rfl, hE⟩
      (first | (have hK := KC.step (n := w.heap.size + 2) (by with_reducible assumption) hE) | (have hK := KC.step (KC.step (n := w.heap.size + 2) (by with_reducible assumption) (ext_alloc1 _ _)) hE) | (have hK := KC.step (KC.refl (n := w.heap.size + 2) (by simp)) hE)); have hC := hK.cell; have hF := hK.fro; have hX := hK.ext
      go_wp2_with (first
        | (go_at_call 42; refine (within_w _ _ _ _).mono ?_; rintro e w2 ⟨rfl, rfl⟩)
        | (go_at_call 44; refine (isSpan_b _ _ _ _ _).mono ?_; rintro e w2 ⟨rfl, hE⟩; (first | (have hK := KC.step (n := w.heap.size + 2) (by with_reducible assumption) hE) | (have hK := KC.step (KC.step (n := w.heap.size + 2) (by with_reducible assumption) (ext_alloc1 _ _)) hE) | (have hK := KC.step (KC.refl (n := w.heap.size + 2) (by simp)) hE)); have hC := hK.cell; have hF := hK.fro; have hX := hK.ext))
      go_ret
      exact ⟨ret_int (by simp), by (repeat' (first | with_reducible assumption | with_reducible exact Ext.refl _ | with_reducible refine Ext.alloc ?_ _ | with_reducible refine Ext.set ?_ ?_ _ | with_reducible refine Ext.drew ?_ | with_reducible refine Ext.drewN ?_ _ | with_reducible refine Ext.trans ?_ (by assumption) | (dsimp only; omega)))⟩
    cases h2 : spanB pl ph 50 300
    · go_enter Try.func49, Try.ntmps49
      go_wp2_with fail
      refine (HC.out _ (by (repeat' (first | with_reducible assumption | with_reducible exact Ext.refl _ | with_reducible refine Ext.alloc ?_ _ | with_reducible refine Ext.set ?_ ?_ _ | with_reducible refine Ext.drew ?_ | with_reducible refine Ext.drewN ?_ _ | with_reducible refine Ext.trans ?_ (by assumption) | (dsimp only; omega))))).mono ?_
      rintro e w2 ⟨rfl, hE⟩
      (first | (have hK := KC.step (n := w.heap.size + 2) (by with_reducible assumption) hE) | (have hK := KC.step (KC.step (n := w.heap.size + 2) (by with_reducible assumption) (ext_alloc1 _ _)) hE) | (have hK := KC.step (KC.refl (n := w.heap.size + 2) (by simp)) hE)); have hC := hK.cell; have hF := hK.fro; have hX := hK.ext
      go_wp2_with (first
        | (go_at_call 42; refine (within_w _ _ _ _).mono ?_; rintro e w2 ⟨rfl, rfl⟩)
        | (go_at_call 44; refine (isSpan_b _ _ _ _ _).mono ?_; rintro e w2 ⟨rfl, hE⟩; (first | (have hK := KC.step (n := w.heap.size + 2) (by with_reducible assumption) hE) | (have hK := KC.step (KC.step (n := w.heap.size + 2) (by with_reducible assumption) (ext_alloc1 _ _)) hE) | (have hK := KC.step (KC.refl (n := w.heap.size + 2) (by simp)) hE)); have hC := hK.cell; have hF := hK.fro; have hX := hK.ext))
      go_ret
      exact ⟨ret_int (by simp), by (repeat' (first | with_reducible assumption | with_reducible exact Ext.refl _ | with_reducible refine Ext.alloc ?_ _ | with_reducible refine Ext.set ?_ ?_ _ | with_reducible refine Ext.drew ?_ | with_reducible refine Ext.drewN ?_ _ | with_reducible refine Ext.trans ?_ (by assumption) | (dsimp only; omega)))⟩
    cases h3 : wB l 0 40
    · go_enter Try.func49, Try.ntmps49
      go_wp2_with fail
      refine (HC.out _ (by (repeat' (first | with_reducible assumption | with_reducible exact Ext.refl _ | with_reducible refine Ext.alloc ?_ _ | with_reducible refine Ext.set ?_ ?_ _ | with_reducible refine Ext.drew ?_ | with_reducible refine Ext.drewN ?_ _ | with_reducible refine Ext.trans ?_ (by assumption) | (dsimp only; omega))))).mono ?_
      rintro e w2 ⟨rfl, hE⟩
      (first | (have hK := KC.step (n := w.heap.size + 2) (by with_reducible assumption) hE) | (have hK := KC.step (KC.step (n := w.heap.size + 2) (by with_reducible assumption) (ext_alloc1 _ _)) hE) | (have hK := KC.step (KC.refl (n := w.heap.size + 2) (by simp)) hE)); have hC := hK.cell; have hF := hK.fro; have hX := hK.ext
      go_wp2_with (first
        | (go_at_call 42; refine (within_w _ _ _ _).mono ?_; rintro e w2 ⟨rfl, rfl⟩)
        | (go_at_call 44; refine (isSpan_b _ _ _ _ _).mono ?_; rintro e w2 ⟨rfl, hE⟩; (first | (have hK := KC.step (n := w.heap.size + 2) (by with_reducible assumption) hE) | (have hK := KC.step (KC.step (n := w.heap.size + 2) (by with_reducible assumption) (ext_alloc1 _ _)) hE) | (have hK := KC.step (KC.refl (n := w.heap.size + 2) (by simp)) hE)); have hC := hK.cell; have hF := hK.fro; have hX := hK.ext))
      go_ret
      exact ⟨ret_int (by simp), by (repeat' (first | with_reducible assumption | with_reducible exact Ext.refl _ | with_reducible refine Ext.alloc ?_ _ | with_reducible refine Ext.set ?_ ?_ _ | with_reducible refine Ext.drew ?_ | with_reducible refine Ext.drewN ?_ _ | with_reducible refine Ext.trans ?_ (by assumption) | (dsimp only; omega)))⟩
    go_enter Try.func49, Try.ntmps49
    go_wp2_with fail
    refine (HC.out _ (by (repeat' (first | with_reducible assumption | with_reducible exact Ext.refl _ | with_reducible refine Ext.alloc ?_ _ | with_reducible refine Ext.set ?_ ?_ _ | with_reducible refine Ext.drew ?_ | with_reducible refine Ext.drewN ?_ _ | with_reducible refine Ext.trans ?_ (by assumption) | (dsimp only; omega))))).mono ?_
    rintro e w2 ⟨rfl, hE⟩
    (first | (have hK := KC.step (n := w.heap.size + 2) (by with_reducible assumption) hE) | (have hK := KC.step (KC.step (n := w.heap.size + 2) (by with_reducible assumption) (ext_alloc1 _ _)) hE) | (have hK := KC.step (KC.refl (n := w.heap.size + 2) (by simp)) hE)); have hC := hK.cell; have hF := hK.fro; have hX := hK.ext
    go_wp2_with (first
      | (go_at_call 42; refine (within_w _ _ _ _).mono ?_; rintro e w2 ⟨rfl, rfl⟩)
      | (go_at_call 44; refine (isSpan_b _ _ _ _ _).mono ?_; rintro e w2 ⟨rfl, hE⟩; (first | (have hK := KC.step (n := w.heap.size + 2) (by with_reducible assumption) hE) | (have hK := KC.step (KC.step (n := w.heap.size + 2) (by with_reducible assumption) (ext_alloc1 _ _)) hE) | (have hK := KC.step (KC.refl (n := w.heap.size + 2) (by simp)) hE)); have hC := hK.cell; have hF := hK.fro; have hX := hK.ext))
    go_ret
    exact ⟨ret_int (by simp), by (repeat' (first | with_reducible assumption | with_reducible exact Ext.refl _ | with_reducible refine Ext.alloc ?_ _ | with_reducible refine Ext.set ?_ ?_ _ | with_reducible refine Ext.drew ?_ | with_reducible refine Ext.drewN ?_ _ | with_reducible refine Ext.trans ?_ (by assumption) | (dsimp only; omega)))⟩

set_option maxRecDepth 100000 in
set_option maxHeartbeats 1000000 in
theorem far_any (m : Int) (A : Option Addr) (n c : Nat) (ps : List Pt) (hn : ps.length = n) (w : World) (hp : PathsAt w A ps) :
    Calls Try.prog 12 #[.agg #[.int .i64 m, .slice A n c]] w fun e w' => (∃ B, e = .returned (.bool B)) ∧ Ext w w' := by
  have HC := hid (fun (W : World) (hW : Ext w W) => rCheck_any m A n c ps hn W (hp.ext hW))
  have HP := hid hp
  have HN := hid hn
  clear hp hn
  by_cases h1 : n ≤ 26
  case neg =>
    go_enter Try.func12, Try.ntmps12
    go_wp2
    go_ret
    exact ⟨⟨_, rfl⟩, by (repeat' (first | with_reducible assumption | with_reducible exact Ext.refl _ | with_reducible refine Ext.alloc ?_ _ | with_reducible refine Ext.set ?_ ?_ _ | with_reducible refine Ext.drew ?_ | with_reducible refine Ext.drewN ?_ _ | with_reducible refine Ext.trans ?_ (by assumption) | (dsimp only; omega)))⟩
  have B0 := hid (heap_alloc_new w (.cells #[.int .i64 m, .slice A n c] 24))
  revert HC
  generalize checkE m ps = ce
  intro HC
  go_enter Try.func12, Try.ntmps12
  go_wp2
  go_loopw [3] (fun i wr => Ext w wr ∧ Hid (wr.heap[w.heap.size]? = some (.cells #[.int .i64 m, .slice A n c] 24 (0, 0))) ∧ ∃ k : Nat, k ≤ n ∧ i = .int .i64 k) (fun i _ => n - (intOf i).toNat)
  case atStart => exact ⟨by (repeat' (first | with_reducible assumption | with_reducible exact Ext.refl _ | with_reducible refine Ext.alloc ?_ _ | with_reducible refine Ext.set ?_ ?_ _ | with_reducible refine Ext.drew ?_ | with_reducible refine Ext.drewN ?_ _ | with_reducible refine Ext.trans ?_ (by assumption) | (dsimp only; omega))), B0, 0, Nat.zero_le _, rfl⟩
  case round =>
    clear B0
    obtain ⟨hE, HB, k, hk, rfl⟩ := hrel
    have c0 := blk_cell HB.out 0
    have c1 := blk_cell HB.out 1
    have hs := (Array.getElem?_eq_some_iff.1 HB.out).1
    simp only [List.getElem?_toArray, List.getElem?_cons_zero, List.getElem?_cons_succ] at c0 c1
    by_cases hlt : k < n
    · obtain ⟨b, off, rfl, hb, hc⟩ := (HP.out.ext hE) (by intro e; have := HN.out; rw [e] at this; simp at this; omega)
      obtain ⟨A', c', hpt⟩ := hc k (by have := HN.out; omega)
      have hk0 : (0 : Int) ≤ (k : Int) := by omega
      have hk1 : (k : Int) < (n : Int) := by omega
      clear hc
      generalize ps.getD k zeroPt = p at hpt
      obtain ⟨d0, d1, d2, d3, d4, d5, d6, d7, hcap, hop⟩ := hpt
      obtain ⟨f, d, g, tl, th, sl, sh, os⟩ := p
      dsimp only at d0 d1 d2 d3 d4 d5 d6 d7 hcap hop
      clear hop hcap
      by_cases h8 : os.length ≤ 8
      · go_wp2
        go_roundw
        case rel => exact ⟨hE, HB, k + 1, by omega, by go_num⟩
        case measure => simp [intOf]; omega
      · go_wp2
        go_ret
        exact ⟨⟨_, rfl⟩, hE⟩
    · by_cases hce : ce = 0
      · subst hce
        by_cases h6 : 6 < m
        · go_wp2_with fail
          refine (HC.out _ hE).mono ?_
          rintro e w2 ⟨rfl, hE2⟩
          have HB2 := hid (blk_ext HB.out hE2)
          have hE3 := hE.trans hE2
          clear c0 c1 hE2 HB hs
          have c0 := blk_cell HB2.out 0
          have c1 := blk_cell HB2.out 1
          have hs := (Array.getElem?_eq_some_iff.1 HB2.out).1
          simp only [List.getElem?_toArray, List.getElem?_cons_zero, List.getElem?_cons_succ] at c0 c1
          go_wp2
          go_ret
          exact ⟨⟨_, rfl⟩, hE3⟩
        · by_cases h10 : 10 < n
          · go_wp2_with fail
            refine (HC.out _ hE).mono ?_
            rintro e w2 ⟨rfl, hE2⟩
            have HB2 := hid (blk_ext HB.out hE2)
            have hE3 := hE.trans hE2
            clear c0 c1 hE2 HB hs
            have c0 := blk_cell HB2.out 0
            have c1 := blk_cell HB2.out 1
            have hs := (Array.getElem?_eq_some_iff.1 HB2.out).1
            simp only [List.getElem?_toArray, List.getElem?_cons_zero, List.getElem?_cons_succ] at c0 c1
            go_wp2
            go_ret
            exact ⟨⟨_, rfl⟩, hE3⟩
          · go_wp2_with fail
            refine (HC.out _ hE).mono ?_
            rintro e w2 ⟨rfl, hE2⟩
            have HB2 := hid (blk_ext HB.out hE2)
            have hE3 := hE.trans hE2
            clear c0 c1 hE2 HB hs
            have c0 := blk_cell HB2.out 0
            have c1 := blk_cell HB2.out 1
            have hs := (Array.getElem?_eq_some_iff.1 HB2.out).1
            simp only [List.getElem?_toArray, List.getElem?_cons_zero, List.getElem?_cons_succ] at c0 c1
            go_wp2
            go_ret
            exact ⟨⟨_, rfl⟩, hE3⟩
      · go_wp2_with fail
        refine (HC.out _ hE).mono ?_
        rintro e w2 ⟨rfl, hE2⟩
        have HB2 := hid (blk_ext HB.out hE2)
        have hE3 := hE.trans hE2
        clear c0 c1 hE2 HB hs
        have c0 := blk_cell HB2.out 0
        have c1 := blk_cell HB2.out 1
        have hs := (Array.getElem?_eq_some_iff.1 HB2.out).1
        simp only [List.getElem?_toArray, List.getElem?_cons_zero, List.getElem?_cons_succ] at c0 c1
        go_wp2
        go_ret
        exact ⟨⟨_, rfl⟩, hE3⟩

theorem isMinute_b (a : Int) (w : World) : Calls Try.prog 72 #[.int .i64 a] w fun e w' => e = .returned (.bool (minuteB a)) ∧ w' = w := isMinute_any a w
theorem partyE_zero {m g l pl ph : Int} {ps : List Pt} (h : partyE m g l pl ph ps = 0) : vNet m ps = true ∧ vParty g l pl ph = true := by
  unfold partyE at h
  split at h
  · split at h
    · exact ⟨by assumption, by assumption⟩
    · exact absurd h (by decide)
  · exact absurd h (by decide)
/-- What fits says yes to. -/
def Fit (m g l pl ph from_ to_ start D : Int) (ps : List Pt) : Prop := vNet m ps = true ∧ vParty g l pl ph = true ∧ placeB m from_ = true ∧ placeB m to_ = true ∧ minuteB start = true ∧ minuteB D = true
def FitIs (P : Prop) (w : World) (e : Ending) (w' : World) : Prop := (∃ B, e = .returned (.bool B) ∧ (B = true → P)) ∧ Ext w w'
theorem FitIs.no {P : Prop} {w w' : World} {e : Ending} (h : e = .returned (.bool false)) (he : Ext w w') : FitIs P w e w' := ⟨⟨false, h, fun h => by cases h⟩, he⟩
theorem FitIs.yes {P : Prop} {w w' : World} {e : Ending} (h : e = .returned (.bool true)) (he : Ext w w') (hp : P) : FitIs P w e w' := ⟨⟨true, h, fun _ => hp⟩, he⟩

set_option maxRecDepth 100000 in
set_option maxHeartbeats 2000000 in
theorem fits_any (m g l pl ph from_ to_ start D v5 : Int) (v4 : Value) (h4 : v4.cells = #[v4]) (A : Option Addr) (n c : Nat) (ps : List Pt) (hn : ps.length = n) (w : World) (hp : PathsAt w A ps) :
    Calls Try.prog 32 #[.agg #[.int .i64 m, .slice A n c], .agg #[.int .i64 g, .int .i64 l, .int .i64 pl, .int .i64 ph], .agg #[.int .i64 from_, .int .i64 to_, .int .i64 start, .int .i64 D, v4, .int .i64 v5]] w
      (FitIs (Fit m g l pl ph from_ to_ start D ps) w) := by
  have HF := hid (fun (W : World) (hW : Ext w W) => far_any m A n c ps hn W (hp.ext hW))
  have HC := hid (fun (W : World) (hW : Ext w W) => rCheckParty_any m g l pl ph A n c ps hn W (hp.ext hW))
  clear hp hn
  by_cases hz : partyE m g l pl ph ps = 0
  case neg =>
    revert HC hz
    generalize partyE m g l pl ph ps = ce
    intro HC hz
    go_enter Try.func32, Try.ntmps32
    go_wp2_with fail
    refine (HF.out _ (by (repeat' (first | with_reducible assumption | with_reducible exact Ext.refl _ | with_reducible refine Ext.alloc ?_ _ | with_reducible refine Ext.set ?_ ?_ _ | with_reducible refine Ext.drew ?_ | with_reducible refine Ext.drewN ?_ _ | with_reducible refine Ext.trans ?_ (by assumption) | (dsimp only; omega))))).mono ?_
    rintro e w2 ⟨⟨B, rfl⟩, hE⟩
    (first | (have hK := KC.step (n := w.heap.size + 3) (by with_reducible assumption) hE) | (have hK := KC.step (KC.step (n := w.heap.size + 3) (by with_reducible assumption) (ext_alloc1 _ _)) hE) | (have hK := KC.step (KC.refl (n := w.heap.size + 3) (by simp)) hE)); have hC := hK.cell; have hF := hK.fro; have hX := hK.ext
    cases B
    case true =>
      go_wp2
      go_ret
      exact .no rfl (by (repeat' (first | with_reducible assumption | with_reducible exact Ext.refl _ | with_reducible refine Ext.alloc ?_ _ | with_reducible refine Ext.set ?_ ?_ _ | with_reducible refine Ext.drew ?_ | with_reducible refine Ext.drewN ?_ _ | with_reducible refine Ext.trans ?_ (by assumption) | (dsimp only; omega))))
    go_wp2_with (first
      | (go_at_call 49; refine (HC.out _ (by (repeat' (first | with_reducible assumption | with_reducible exact Ext.refl _ | with_reducible refine Ext.alloc ?_ _ | with_reducible refine Ext.set ?_ ?_ _ | with_reducible refine Ext.drew ?_ | with_reducible refine Ext.drewN ?_ _ | with_reducible refine Ext.trans ?_ (by assumption) | (dsimp only; omega))))).mono ?_; rintro e w2 ⟨rfl, hE⟩; (first | (have hK := KC.step (n := w.heap.size + 3) (by with_reducible assumption) hE) | (have hK := KC.step (KC.step (n := w.heap.size + 3) (by with_reducible assumption) (ext_alloc1 _ _)) hE) | (have hK := KC.step (KC.refl (n := w.heap.size + 3) (by simp)) hE)); have hC := hK.cell; have hF := hK.fro; have hX := hK.ext)
      | (go_at_call 43; refine (rIsPlace_b _ _ _ (by omega) (by omega) _).mono ?_; rintro e w2 ⟨rfl, hE⟩; (first | (have hK := KC.step (n := w.heap.size + 3) (by with_reducible assumption) hE) | (have hK := KC.step (KC.step (n := w.heap.size + 3) (by with_reducible assumption) (ext_alloc1 _ _)) hE) | (have hK := KC.step (KC.refl (n := w.heap.size + 3) (by simp)) hE)); have hC := hK.cell; have hF := hK.fro; have hX := hK.ext)
      | (go_at_call 72; refine (isMinute_b _ _).mono ?_; rintro e w2 ⟨rfl, rfl⟩))
    go_ret
    exact .no rfl (by (repeat' (first | with_reducible assumption | with_reducible exact Ext.refl _ | with_reducible refine Ext.alloc ?_ _ | with_reducible refine Ext.set ?_ ?_ _ | with_reducible refine Ext.drew ?_ | with_reducible refine Ext.drewN ?_ _ | with_reducible refine Ext.trans ?_ (by assumption) | (dsimp only; omega))))
  obtain ⟨hv, hpa⟩ := partyE_zero hz
  rw [hz] at HC
  have hmm : 1 ≤ m ∧ m ≤ 12 := by
    have h := hv
    unfold vNet at h
    simp only [Bool.and_eq_true, decide_eq_true_eq] at h
    exact ⟨h.1, h.2.1⟩
  obtain ⟨hm1, hm2⟩ := hmm
  have HFIT := hid (fun (a1 : placeB m from_ = true) (a2 : placeB m to_ = true) (a3 : minuteB start = true) (a4 : minuteB D = true) => (⟨hv, hpa, a1, a2, a3, a4⟩ : Fit m g l pl ph from_ to_ start D ps))
  clear hv hpa hz
  cases a1 : placeB m from_
  · go_enter Try.func32, Try.ntmps32
    go_wp2_with fail
    refine (HF.out _ (by (repeat' (first | with_reducible assumption | with_reducible exact Ext.refl _ | with_reducible refine Ext.alloc ?_ _ | with_reducible refine Ext.set ?_ ?_ _ | with_reducible refine Ext.drew ?_ | with_reducible refine Ext.drewN ?_ _ | with_reducible refine Ext.trans ?_ (by assumption) | (dsimp only; omega))))).mono ?_
    rintro e w2 ⟨⟨B, rfl⟩, hE⟩
    (first | (have hK := KC.step (n := w.heap.size + 3) (by with_reducible assumption) hE) | (have hK := KC.step (KC.step (n := w.heap.size + 3) (by with_reducible assumption) (ext_alloc1 _ _)) hE) | (have hK := KC.step (KC.refl (n := w.heap.size + 3) (by simp)) hE)); have hC := hK.cell; have hF := hK.fro; have hX := hK.ext
    cases B
    case true =>
      go_wp2
      go_ret
      exact .no rfl (by (repeat' (first | with_reducible assumption | with_reducible exact Ext.refl _ | with_reducible refine Ext.alloc ?_ _ | with_reducible refine Ext.set ?_ ?_ _ | with_reducible refine Ext.drew ?_ | with_reducible refine Ext.drewN ?_ _ | with_reducible refine Ext.trans ?_ (by assumption) | (dsimp only; omega))))
    go_wp2_with (first
      | (go_at_call 49; refine (HC.out _ (by (repeat' (first | with_reducible assumption | with_reducible exact Ext.refl _ | with_reducible refine Ext.alloc ?_ _ | with_reducible refine Ext.set ?_ ?_ _ | with_reducible refine Ext.drew ?_ | with_reducible refine Ext.drewN ?_ _ | with_reducible refine Ext.trans ?_ (by assumption) | (dsimp only; omega))))).mono ?_; rintro e w2 ⟨rfl, hE⟩; (first | (have hK := KC.step (n := w.heap.size + 3) (by with_reducible assumption) hE) | (have hK := KC.step (KC.step (n := w.heap.size + 3) (by with_reducible assumption) (ext_alloc1 _ _)) hE) | (have hK := KC.step (KC.refl (n := w.heap.size + 3) (by simp)) hE)); have hC := hK.cell; have hF := hK.fro; have hX := hK.ext)
      | (go_at_call 43; refine (rIsPlace_b _ _ _ (by omega) (by omega) _).mono ?_; rintro e w2 ⟨rfl, hE⟩; (first | (have hK := KC.step (n := w.heap.size + 3) (by with_reducible assumption) hE) | (have hK := KC.step (KC.step (n := w.heap.size + 3) (by with_reducible assumption) (ext_alloc1 _ _)) hE) | (have hK := KC.step (KC.refl (n := w.heap.size + 3) (by simp)) hE)); have hC := hK.cell; have hF := hK.fro; have hX := hK.ext)
      | (go_at_call 72; refine (isMinute_b _ _).mono ?_; rintro e w2 ⟨rfl, rfl⟩))
    go_ret
    exact .no rfl (by (repeat' (first | with_reducible assumption | with_reducible exact Ext.refl _ | with_reducible refine Ext.alloc ?_ _ | with_reducible refine Ext.set ?_ ?_ _ | with_reducible refine Ext.drew ?_ | with_reducible refine Ext.drewN ?_ _ | with_reducible refine Ext.trans ?_ (by assumption) | (dsimp only; omega))))
  cases a2 : placeB m to_
  · go_enter Try.func32, Try.ntmps32
    go_wp2_with fail
    refine (HF.out _ (by (repeat' (first | with_reducible assumption | with_reducible exact Ext.refl _ | with_reducible refine Ext.alloc ?_ _ | with_reducible refine Ext.set ?_ ?_ _ | with_reducible refine Ext.drew ?_ | with_reducible refine Ext.drewN ?_ _ | with_reducible refine Ext.trans ?_ (by assumption) | (dsimp only; omega))))).mono ?_
    rintro e w2 ⟨⟨B, rfl⟩, hE⟩
    (first | (have hK := KC.step (n := w.heap.size + 3) (by with_reducible assumption) hE) | (have hK := KC.step (KC.step (n := w.heap.size + 3) (by with_reducible assumption) (ext_alloc1 _ _)) hE) | (have hK := KC.step (KC.refl (n := w.heap.size + 3) (by simp)) hE)); have hC := hK.cell; have hF := hK.fro; have hX := hK.ext
    cases B
    case true =>
      go_wp2
      go_ret
      exact .no rfl (by (repeat' (first | with_reducible assumption | with_reducible exact Ext.refl _ | with_reducible refine Ext.alloc ?_ _ | with_reducible refine Ext.set ?_ ?_ _ | with_reducible refine Ext.drew ?_ | with_reducible refine Ext.drewN ?_ _ | with_reducible refine Ext.trans ?_ (by assumption) | (dsimp only; omega))))
    go_wp2_with (first
      | (go_at_call 49; refine (HC.out _ (by (repeat' (first | with_reducible assumption | with_reducible exact Ext.refl _ | with_reducible refine Ext.alloc ?_ _ | with_reducible refine Ext.set ?_ ?_ _ | with_reducible refine Ext.drew ?_ | with_reducible refine Ext.drewN ?_ _ | with_reducible refine Ext.trans ?_ (by assumption) | (dsimp only; omega))))).mono ?_; rintro e w2 ⟨rfl, hE⟩; (first | (have hK := KC.step (n := w.heap.size + 3) (by with_reducible assumption) hE) | (have hK := KC.step (KC.step (n := w.heap.size + 3) (by with_reducible assumption) (ext_alloc1 _ _)) hE) | (have hK := KC.step (KC.refl (n := w.heap.size + 3) (by simp)) hE)); have hC := hK.cell; have hF := hK.fro; have hX := hK.ext)
      | (go_at_call 43; refine (rIsPlace_b _ _ _ (by omega) (by omega) _).mono ?_; rintro e w2 ⟨rfl, hE⟩; (first | (have hK := KC.step (n := w.heap.size + 3) (by with_reducible assumption) hE) | (have hK := KC.step (KC.step (n := w.heap.size + 3) (by with_reducible assumption) (ext_alloc1 _ _)) hE) | (have hK := KC.step (KC.refl (n := w.heap.size + 3) (by simp)) hE)); have hC := hK.cell; have hF := hK.fro; have hX := hK.ext)
      | (go_at_call 72; refine (isMinute_b _ _).mono ?_; rintro e w2 ⟨rfl, rfl⟩))
    go_ret
    exact .no rfl (by (repeat' (first | with_reducible assumption | with_reducible exact Ext.refl _ | with_reducible refine Ext.alloc ?_ _ | with_reducible refine Ext.set ?_ ?_ _ | with_reducible refine Ext.drew ?_ | with_reducible refine Ext.drewN ?_ _ | with_reducible refine Ext.trans ?_ (by assumption) | (dsimp only; omega))))
  cases a3 : minuteB start
  · go_enter Try.func32, Try.ntmps32
    go_wp2_with fail
    refine (HF.out _ (by (repeat' (first | with_reducible assumption | with_reducible exact Ext.refl _ | with_reducible refine Ext.alloc ?_ _ | with_reducible refine Ext.set ?_ ?_ _ | with_reducible refine Ext.drew ?_ | with_reducible refine Ext.drewN ?_ _ | with_reducible refine Ext.trans ?_ (by assumption) | (dsimp only; omega))))).mono ?_
    rintro e w2 ⟨⟨B, rfl⟩, hE⟩
    (first | (have hK := KC.step (n := w.heap.size + 3) (by with_reducible assumption) hE) | (have hK := KC.step (KC.step (n := w.heap.size + 3) (by with_reducible assumption) (ext_alloc1 _ _)) hE) | (have hK := KC.step (KC.refl (n := w.heap.size + 3) (by simp)) hE)); have hC := hK.cell; have hF := hK.fro; have hX := hK.ext
    cases B
    case true =>
      go_wp2
      go_ret
      exact .no rfl (by (repeat' (first | with_reducible assumption | with_reducible exact Ext.refl _ | with_reducible refine Ext.alloc ?_ _ | with_reducible refine Ext.set ?_ ?_ _ | with_reducible refine Ext.drew ?_ | with_reducible refine Ext.drewN ?_ _ | with_reducible refine Ext.trans ?_ (by assumption) | (dsimp only; omega))))
    go_wp2_with (first
      | (go_at_call 49; refine (HC.out _ (by (repeat' (first | with_reducible assumption | with_reducible exact Ext.refl _ | with_reducible refine Ext.alloc ?_ _ | with_reducible refine Ext.set ?_ ?_ _ | with_reducible refine Ext.drew ?_ | with_reducible refine Ext.drewN ?_ _ | with_reducible refine Ext.trans ?_ (by assumption) | (dsimp only; omega))))).mono ?_; rintro e w2 ⟨rfl, hE⟩; (first | (have hK := KC.step (n := w.heap.size + 3) (by with_reducible assumption) hE) | (have hK := KC.step (KC.step (n := w.heap.size + 3) (by with_reducible assumption) (ext_alloc1 _ _)) hE) | (have hK := KC.step (KC.refl (n := w.heap.size + 3) (by simp)) hE)); have hC := hK.cell; have hF := hK.fro; have hX := hK.ext)
      | (go_at_call 43; refine (rIsPlace_b _ _ _ (by omega) (by omega) _).mono ?_; rintro e w2 ⟨rfl, hE⟩; (first | (have hK := KC.step (n := w.heap.size + 3) (by with_reducible assumption) hE) | (have hK := KC.step (KC.step (n := w.heap.size + 3) (by with_reducible assumption) (ext_alloc1 _ _)) hE) | (have hK := KC.step (KC.refl (n := w.heap.size + 3) (by simp)) hE)); have hC := hK.cell; have hF := hK.fro; have hX := hK.ext)
      | (go_at_call 72; refine (isMinute_b _ _).mono ?_; rintro e w2 ⟨rfl, rfl⟩))
    go_ret
    exact .no rfl (by (repeat' (first | with_reducible assumption | with_reducible exact Ext.refl _ | with_reducible refine Ext.alloc ?_ _ | with_reducible refine Ext.set ?_ ?_ _ | with_reducible refine Ext.drew ?_ | with_reducible refine Ext.drewN ?_ _ | with_reducible refine Ext.trans ?_ (by assumption) | (dsimp only; omega))))
  cases a4 : minuteB D
  · go_enter Try.func32, Try.ntmps32
    go_wp2_with fail
    refine (HF.out _ (by (repeat' (first | with_reducible assumption | with_reducible exact Ext.refl _ | with_reducible refine Ext.alloc ?_ _ | with_reducible refine Ext.set ?_ ?_ _ | with_reducible refine Ext.drew ?_ | with_reducible refine Ext.drewN ?_ _ | with_reducible refine Ext.trans ?_ (by assumption) | (dsimp only; omega))))).mono ?_
    rintro e w2 ⟨⟨B, rfl⟩, hE⟩
    (first | (have hK := KC.step (n := w.heap.size + 3) (by with_reducible assumption) hE) | (have hK := KC.step (KC.step (n := w.heap.size + 3) (by with_reducible assumption) (ext_alloc1 _ _)) hE) | (have hK := KC.step (KC.refl (n := w.heap.size + 3) (by simp)) hE)); have hC := hK.cell; have hF := hK.fro; have hX := hK.ext
    cases B
    case true =>
      go_wp2
      go_ret
      exact .no rfl (by (repeat' (first | with_reducible assumption | with_reducible exact Ext.refl _ | with_reducible refine Ext.alloc ?_ _ | with_reducible refine Ext.set ?_ ?_ _ | with_reducible refine Ext.drew ?_ | with_reducible refine Ext.drewN ?_ _ | with_reducible refine Ext.trans ?_ (by assumption) | (dsimp only; omega))))
    go_wp2_with (first
      | (go_at_call 49; refine (HC.out _ (by (repeat' (first | with_reducible assumption | with_reducible exact Ext.refl _ | with_reducible refine Ext.alloc ?_ _ | with_reducible refine Ext.set ?_ ?_ _ | with_reducible refine Ext.drew ?_ | with_reducible refine Ext.drewN ?_ _ | with_reducible refine Ext.trans ?_ (by assumption) | (dsimp only; omega))))).mono ?_; rintro e w2 ⟨rfl, hE⟩; (first | (have hK := KC.step (n := w.heap.size + 3) (by with_reducible assumption) hE) | (have hK := KC.step (KC.step (n := w.heap.size + 3) (by with_reducible assumption) (ext_alloc1 _ _)) hE) | (have hK := KC.step (KC.refl (n := w.heap.size + 3) (by simp)) hE)); have hC := hK.cell; have hF := hK.fro; have hX := hK.ext)
      | (go_at_call 43; refine (rIsPlace_b _ _ _ (by omega) (by omega) _).mono ?_; rintro e w2 ⟨rfl, hE⟩; (first | (have hK := KC.step (n := w.heap.size + 3) (by with_reducible assumption) hE) | (have hK := KC.step (KC.step (n := w.heap.size + 3) (by with_reducible assumption) (ext_alloc1 _ _)) hE) | (have hK := KC.step (KC.refl (n := w.heap.size + 3) (by simp)) hE)); have hC := hK.cell; have hF := hK.fro; have hX := hK.ext)
      | (go_at_call 72; refine (isMinute_b _ _).mono ?_; rintro e w2 ⟨rfl, rfl⟩))
    go_ret
    exact .no rfl (by (repeat' (first | with_reducible assumption | with_reducible exact Ext.refl _ | with_reducible refine Ext.alloc ?_ _ | with_reducible refine Ext.set ?_ ?_ _ | with_reducible refine Ext.drew ?_ | with_reducible refine Ext.drewN ?_ _ | with_reducible refine Ext.trans ?_ (by assumption) | (dsimp only; omega))))
  have HY := hid (HFIT.out a1 a2 a3 a4)
  go_enter Try.func32, Try.ntmps32
  go_wp2_with fail
  refine (HF.out _ (by (repeat' (first | with_reducible assumption | with_reducible exact Ext.refl _ | with_reducible refine Ext.alloc ?_ _ | with_reducible refine Ext.set ?_ ?_ _ | with_reducible refine Ext.drew ?_ | with_reducible refine Ext.drewN ?_ _ | with_reducible refine Ext.trans ?_ (by assumption) | (dsimp only; omega))))).mono ?_
  rintro e w2 ⟨⟨B, rfl⟩, hE⟩
  (first | (have hK := KC.step (n := w.heap.size + 3) (by with_reducible assumption) hE) | (have hK := KC.step (KC.step (n := w.heap.size + 3) (by with_reducible assumption) (ext_alloc1 _ _)) hE) | (have hK := KC.step (KC.refl (n := w.heap.size + 3) (by simp)) hE)); have hC := hK.cell; have hF := hK.fro; have hX := hK.ext
  cases B
  case true =>
    go_wp2
    go_ret
    exact .no rfl (by (repeat' (first | with_reducible assumption | with_reducible exact Ext.refl _ | with_reducible refine Ext.alloc ?_ _ | with_reducible refine Ext.set ?_ ?_ _ | with_reducible refine Ext.drew ?_ | with_reducible refine Ext.drewN ?_ _ | with_reducible refine Ext.trans ?_ (by assumption) | (dsimp only; omega))))
  go_wp2_with (first
    | (go_at_call 49; refine (HC.out _ (by (repeat' (first | with_reducible assumption | with_reducible exact Ext.refl _ | with_reducible refine Ext.alloc ?_ _ | with_reducible refine Ext.set ?_ ?_ _ | with_reducible refine Ext.drew ?_ | with_reducible refine Ext.drewN ?_ _ | with_reducible refine Ext.trans ?_ (by assumption) | (dsimp only; omega))))).mono ?_; rintro e w2 ⟨rfl, hE⟩; (first | (have hK := KC.step (n := w.heap.size + 3) (by with_reducible assumption) hE) | (have hK := KC.step (KC.step (n := w.heap.size + 3) (by with_reducible assumption) (ext_alloc1 _ _)) hE) | (have hK := KC.step (KC.refl (n := w.heap.size + 3) (by simp)) hE)); have hC := hK.cell; have hF := hK.fro; have hX := hK.ext)
    | (go_at_call 43; refine (rIsPlace_b _ _ _ (by omega) (by omega) _).mono ?_; rintro e w2 ⟨rfl, hE⟩; (first | (have hK := KC.step (n := w.heap.size + 3) (by with_reducible assumption) hE) | (have hK := KC.step (KC.step (n := w.heap.size + 3) (by with_reducible assumption) (ext_alloc1 _ _)) hE) | (have hK := KC.step (KC.refl (n := w.heap.size + 3) (by simp)) hE)); have hC := hK.cell; have hF := hK.fro; have hX := hK.ext)
    | (go_at_call 72; refine (isMinute_b _ _).mono ?_; rintro e w2 ⟨rfl, rfl⟩))
  go_ret
  exact .yes rfl (by (repeat' (first | with_reducible assumption | with_reducible exact Ext.refl _ | with_reducible refine Ext.alloc ?_ _ | with_reducible refine Ext.set ?_ ?_ _ | with_reducible refine Ext.drew ?_ | with_reducible refine Ext.drewN ?_ _ | with_reducible refine Ext.trans ?_ (by assumption) | (dsimp only; omega)))) HY.out
end Go.Proofs.Ytndoghcglbpllaa
