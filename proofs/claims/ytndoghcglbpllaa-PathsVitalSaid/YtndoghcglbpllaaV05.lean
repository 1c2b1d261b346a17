/- fits. -/
import Derived.Test.YtndoghcglbpllaaV04
import Derived.Test.YtndoghcglbpllaaV01
import Derived.Test.YtndoghcglbpllaaV02
set_option linter.unusedSimpArgs false
set_option linter.unusedVariables false
namespace Go.Proofs.Ytndoghcglbpllaa
open Go.RowKit
def partyE (m g l pl ph : Int) (ps : List Pt) : Int := if vNet m ps = true then (if vParty g l pl ph = true then 0 else 11) else 10

def wB (a b c : Int) : Bool := decide (b ≤ a) && decide (a ≤ c)
theorem within_w (a b c : Int) (w : World) : Calls Try.prog 42 #[.int .i64 a, .int .i64 b, .int .i64 c] w fun e w' => e = .returned (.bool (wB a b c)) ∧ w' = w := within_any a b c w
theorem vParty_eq (g l pl ph : Int) : vParty g l pl ph = (wB g 1 6 && (spanB pl ph 50 300 && wB l 0 40)) := rfl

set_option maxRecDepth 100000 in
set_option maxHeartbeats 1000000 in
theorem rCheckParty_any (m g l pl ph : Int) (A : Option Addr) (n c : Nat) (ps : List Pt) (hn : ps.length = n) (w : World) (hp : PathsAt w A ps) :
    Calls Try.prog 49 #[.agg #[.int .i64 m, .slice A n c], .agg #[.int .i64 g, .int .i64 l, .int .i64 pl, .int .i64 ph]] w fun e w' => e = .returned (.int .i64 (partyE m g l pl ph ps)) ∧ Ext w w' := by
  have HC := hid (fun (W : World) (hW : Ext w W) => rCheck_any m A n c ps hn W (hp.ext hW))
  clear hp hn
  unfold partyE
  unfold checkE at HC
  revert HC
  cases hv : vNet m ps
  · intro HC
    clear hv
    rw [if_neg (by decide)] at HC ⊢
    go_enter Try.func49, Try.ntmps49
    go_wp2_with fail
    refine (HC.out _ (by (repeat' (first | with_reducible assumption | with_reducible exact Ext.refl _ | with_reducible refine Ext.alloc ?_ _ | with_reducible refine Ext.set ?_ ?_ _ | with_reducible refine Ext.drew ?_ | with_reducible refine Ext.drewN ?_ _ | with_reducible refine Ext.trans ?_ (by assumption) | (dsimp only; omega))))).mono ?_
    rintro e w2 ⟨rfl, hE⟩
    go_wp2
    go_ret
    exact ⟨rfl, by (repeat' (first | with_reducible assumption | with_reducible exact Ext.refl _ | with_reducible refine Ext.alloc ?_ _ | with_reducible refine Ext.set ?_ ?_ _ | with_reducible refine Ext.drew ?_ | with_reducible refine Ext.drewN ?_ _ | with_reducible refine Ext.trans ?_ (by assumption) | (dsimp only; omega)))⟩
  · intro HC
    clear hv
    rw [if_pos rfl] at HC ⊢
    rw [vParty_eq]
    cases h1 : wB g 1 6
    · go_enter Try.func49, Try.ntmps49
      go_wp2_with fail
      refine (HC.out _ (by (repeat' (first | with_reducible assumption | with_reducible exact Ext.refl _ | with_reducible refine Ext.alloc ?_ _ | with_reducible refine Ext.set ?_ ?_ _ | with_reducible refine Ext.drew ?_ | with_reducible refine Ext.drewN ?_ _ | with_reducible refine Ext.trans ?_ (by assumption) | (dsimp only; omega))))).mono ?_
      rintro e w2 ⟨rfl, hE⟩
      (first | (have hK := KC.step (n := w.heap.size + 2) (by with_reducible assumption) hE) | (have hK := KC.step (KC.step (n := w.heap.size + 2) (by with_reducible assumption) (ext_alloc1 _ _)) hE) | (have hK := KC.step (KC.refl (n := w.heap.size + 2) (by simp)) hE)); have hC := hK.cell; have hF := hK.fro; have hX := hK.ext
      go_wp2_with (first
        | (go_at_call 42; refine (within_w _ _ _ _).mono ?_; rintro e w2 ⟨rfl, rfl⟩)
        | (go_at_call 44; refine (isSpan_b _ _ _ _ _).mono ?_; rintro e w2 ⟨rfl, hE⟩; (first | (have hK := KC.step (n := w.heap.size + 2) (by with_reducible assumption) hE) | (have hK := KC.step (KC.step (n := w.heap.size + 2) (by with_reducible assumption) (ext_alloc1 _ _)) hE) | (have hK := KC.step (KC.refl (n := w.heap.size + 2) (by simp)) hE)); have hC := hK.cell; have hF := hK.fro; have hX := hK.ext))
      go_ret
      exact ⟨ret_int (by simp), by (repeat' (first | with_reducible assumption | with_reducible exact Ext.refl _ | with_reducible refine Ext.alloc ?_ _ | with_reducible refine Ext.set ?_ ?_ _ | with_reducible refine Ext.drew ?_ | with_reducible refine Ext.drewN ?_ _ | with_reducible refine Ext.trans ?_ (by assumption) | (dsimp only; omega)))⟩
    cases h2 : spanB pl ph 50 300
    · go_enter Try.func49, Try.ntmps49
      go_wp2_with fail
      refine (HC.out _ (by (repeat' (first | with_reducible assumption | with_reducible exact Ext.refl _ | with_reducible refine Ext.alloc ?_ _ | with_reducible refine Ext.set ?_ ?_ _ | with_reducible refine Ext.drew ?_ | with_reducible refine Ext.drewN ?_ _ | with_reducible refine Ext.trans ?_ (by assumption) | (dsimp only; omega))))).mono ?_
      rintro e w2 ⟨rfl, hE⟩
      (first | (have hK := KC.step (n := w.heap.size + 2) (by with_reducible assumption) hE) | (have hK := KC.step (KC.step (n := w.heap.size + 2) (by with_reducible assumption) (ext_alloc1 _ _)) hE) | (have hK := KC.step (KC.refl (n := w.heap.size + 2) (by simp)) hE)); have hC := hK.cell; have hF := hK.fro; have hX := hK.ext
      go_wp2_with (first
        | (go_at_call 42; refine (within_w _ _ _ _).mono ?_; rintro e w2 ⟨rfl, rfl⟩)
        | (go_at_call 44; refine (isSpan_b _ _ _ _ _).mono ?_; rintro e w2 ⟨rfl, hE⟩; (first | (have hK := KC.step (n := w.heap.size + 2) (by with_reducible assumption) hE) | (have hK := KC.step (KC.step (n := w.heap.size + 2) (by with_reducible assumption) (ext_alloc1 _ _)) hE) | (have hK := KC.step (KC.refl (n := w.heap.size + 2) (by simp)) hE)); have hC := hK.cell; have hF := hK.fro; have hX := hK.ext))
      go_ret
      exact ⟨ret_int (by simp), by (repeat' (first | with_reducible assumption | with_reducible exact Ext.refl _ | with_reducible refine Ext.alloc ?_ _ | with_reducible refine Ext.set ?_ ?_ _ | with_reducible refine Ext.drew ?_ | with_reducible refine Ext.drewN ?_ _ | with_reducible refine Ext.trans ?_ (by assumption) | (dsimp only; omega)))⟩
    cases h3 : wB l 0 40
    · go_enter Try.func49, Try.ntmps49
      go_wp2_with fail
      refine (HC.out _ (by (repeat' (first | with_reducible assumption | with_reducible exact Ext.refl _ | with_reducible refine Ext.alloc ?_ _ | with_reducible refine Ext.set ?_ ?_ _ | with_reducible refine Ext.drew ?_ | with_reducible refine Ext.drewN ?_ _ | with_reducible refine Ext.trans ?_ (by assumption) | (dsimp only; omega))))).mono ?_
      rintro e w2 ⟨rfl, hE⟩
      (first | (have hK := KC.step (n := w.heap.size + 2) (by with_reducible assumption) hE) | (have hK := KC.step (KC.step (n := w.heap.size + 2) (by with_reducible assumption) (ext_alloc1 _ _)) hE) | (have hK := KC.step (KC.refl (n := w.heap.size + 2) (by simp)) hE)); have hC := hK.cell; have hF := hK.fro; have hX := hK.ext
      go_wp2_with (first
        | (go_at_call 42; refine (within_w _ _ _ _).mono ?_; rintro e w2 ⟨rfl, rfl⟩)
        | (go_at_call 44; refine (isSpan_b _ _ _ _ _).mono ?_; rintro e w2 ⟨rfl, hE⟩; (first | (have hK := KC.step (n := w.heap.size + 2) (by with_reducible assumption) hE) | (have hK := KC.step (KC.step (n := w.heap.size + 2) (by with_reducible assumption) (ext_alloc1 _ _)) hE) | (have hK := KC.step (KC.refl (n := w.heap.size + 2) (by simp)) hE)); have hC := hK.cell; have hF := hK.fro; have hX := hK.ext))
      go_ret
      exact ⟨ret_int (by simp), by (repeat' (first | with_reducible assumption | with_reducible exact Ext.refl _ | with_reducible refine Ext.alloc ?_ _ | with_reducible refine Ext.set ?_ ?_ _ | with_reducible refine Ext.drew ?_ | with_reducible refine Ext.drewN ?_ _ | with_reducible refine Ext.trans ?_ (by assumption) | (dsimp only; omega)))⟩
    go_enter Try.func49, Try.ntmps49
    go_wp2_with fail
    refine (HC.out _ (by (repeat' (first | with_reducible assumption | with_reducible exact Ext.refl _ | with_reducible refine Ext.alloc ?_ _ | with_reducible refine Ext.set ?_ ?_ _ | with_reducible refine Ext.drew ?_ | with_reducible refine Ext.drewN ?_ _ | with_reducible refine Ext.trans ?_ (by assumption) | (dsimp only; omega))))).mono ?_
    rintro e w2 ⟨rfl, hE⟩
    (first | (have hK := KC.step (n := w.heap.size + 2) (by with_reducible assumption) hE) | (have hK := KC.step (KC.step (n := w.heap.size + 2) (by with_reducible assumption) (ext_alloc1 _ _)) hE) | (have hK := KC.step (KC.refl (n := w.heap.size + 2) (by simp)) hE)); have hC := hK.cell; have hF := hK.fro; have hX := hK.ext
    go_wp2_with (first
      | (go_at_call 42; refine (within_w _ _ _ _).mono ?_; rintro e w2 ⟨rfl, rfl⟩)
      | (go_at_call 44; refine (isSpan_b _ _ _ _ _).mono ?_; rintro e w2 ⟨rfl, hE⟩; (first | (have hK := KC.step (n := w.heap.size + 2) (by with_reducible assumption) hE) | (have hK := KC.step (KC.step (n := w.heap.size + 2) (by with_reducible assumption) (ext_alloc1 _ _)) hE) | (have hK := KC.step (KC.refl (n := w.heap.size + 2) (by simp)) hE)); have hC := hK.cell; have hF := hK.fro; have hX := hK.ext))
    go_ret
    exact ⟨ret_int (by simp), by (repeat' (first | with_reducible assumption | with_reducible exact Ext.refl _ | with_reducible refine Ext.alloc ?_ _ | with_reducible refine Ext.set ?_ ?_ _ | with_reducible refine Ext.drew ?_ | with_reducible refine Ext.drewN ?_ _ | with_reducible refine Ext.trans ?_ (by assumption) | (dsimp only; omega)))⟩

set_option maxRecDepth 100000 in
set_option maxHeartbeats 1000000 in
theorem far_any (m : Int) (A : Option Addr) (n c : Nat) (ps : List Pt) (hn : ps.length = n) (w : World) (hp : PathsAt w A ps) :
    Calls Try.prog 12 #[.agg #[.int .i64 m, .slice A n c]] w fun e w' => (∃ B, e = .returned (.bool B)) ∧ Ext w w' := by
  have HC := hid (fun (W : World) (hW : Ext w W) => rCheck_any m A n c ps hn W (hp.ext hW))
  have HP := hid hp
  have HN := hid hn
  clear hp hn
  by_cases h1 : n ≤ 26
  case neg =>
    go_enter Try.func12, Try.ntmps12
    go_wp2
    go_ret
    exact ⟨⟨_, rfl⟩, by (repeat' (first | with_reducible assumption | with_reducible exact Ext.refl _ | with_reducible refine Ext.alloc ?_ _ | with_reducible refine Ext.set ?_ ?_ _ | with_reducible refine Ext.drew ?_ | with_reducible refine Ext.drewN ?_ _ | with_reducible refine Ext.trans ?_ (by assumption) | (dsimp only; omega)))⟩
  have B0 := hid (heap_alloc_new w (.cells #[.int .i64 m, .slice A n c] 24))
  revert HC
  generalize checkE m ps = ce
  intro HC
  go_enter Try.func12, Try.ntmps12
  go_wp2
  go_loopw [3] (fun i wr => Ext w wr ∧ Hid (wr.heap[w.heap.size]? = some (.cells #[.int .i64 m, .slice A n c] 24 (0, 0))) ∧ ∃ k : Nat, k ≤ n ∧ i = .int .i64 k) (fun i _ => n - (intOf i).toNat)
  case atStart => exact ⟨by (repeat' (first | with_reducible assumption | with_reducible exact Ext.refl _ | with_reducible refine Ext.alloc ?_ _ | with_reducible refine Ext.set ?_ ?_ _ | with_reducible refine Ext.drew ?_ | with_reducible refine Ext.drewN ?_ _ | with_reducible refine Ext.trans ?_ (by assumption) | (dsimp only; omega))), B0, 0, Nat.zero_le _, rfl⟩
  case round =>
    clear B0
    obtain ⟨hE, HB, k, hk, rfl⟩ := hrel
    have c0 := blk_cell HB.out 0
    have c1 := blk_cell HB.out 1
    have hs := (Array.getElem?_eq_some_iff.1 HB.out).1
    simp only [List.getElem?_toArray, List.getElem?_cons_zero, List.getElem?_cons_succ] at c0 c1
    by_cases hlt : k < n
    · obtain ⟨b, off, rfl, hb, hc⟩ := (HP.out.ext hE) (by intro e; have := HN.out; rw [e] at this; simp at this; omega)
      obtain ⟨A', c', hpt⟩ := hc k (by have := HN.out; omega)
      have hk0 : (0 : Int) ≤ (k : Int) := by omega
      have hk1 : (k : Int) < (n : Int) := by omega
      clear hc
      generalize ps.getD k zeroPt = p at hpt
      obtain ⟨d0, d1, d2, d3, d4, d5, d6, d7, hcap, hop⟩ := hpt
      obtain ⟨f, d, g, tl, th, sl, sh, os⟩ := p
      dsimp only at d0 d1 d2 d3 d4 d5 d6 d7 hcap hop
      clear hop hcap
      by_cases h8 : os.length ≤ 8
      · go_wp2
        go_roundw
        case rel => exact ⟨hE, HB, k + 1, by omega, by go_num⟩
        case measure => simp [intOf]; omega
      · go_wp2
        go_ret
        exact ⟨⟨_, rfl⟩, hE⟩
    · by_cases hce : ce = 0
      · subst hce
        by_cases h6 : 6 < m
        · go_wp2_with fail
          refine (HC.out _ hE).mono ?_
          rintro e w2 ⟨rfl, hE2⟩
          have HB2 := hid (blk_ext HB.out hE2)
          have hE3 := hE.trans hE2
          clear c0 c1 hE2 HB hs
          have c0 := blk_cell HB2.out 0
          have c1 := blk_cell HB2.out 1
          have hs := (Array.getElem?_eq_some_iff.1 HB2.out).1
          simp only [List.getElem?_toArray, List.getElem?_cons_zero, List.getElem?_cons_succ] at c0 c1
          go_wp2
          go_ret
          exact ⟨⟨_, rfl⟩, hE3⟩
        · by_cases h10 : 10 < n
          · go_wp2_with fail
            refine (HC.out _ hE).mono ?_
            rintro e w2 ⟨rfl, hE2⟩
            have HB2 := hid (blk_ext HB.out hE2)
            have hE3 := hE.trans hE2
            clear c0 c1 hE2 HB hs
            have c0 := blk_cell HB2.out 0
            have c1 := blk_cell HB2.out 1
            have hs := (Array.getElem?_eq_some_iff.1 HB2.out).1
            simp only [List.getElem?_toArray, List.getElem?_cons_zero, List.getElem?_cons_succ] at c0 c1
            go_wp2
            go_ret
            exact ⟨⟨_, rfl⟩, hE3⟩
          · go_wp2_with fail
            refine (HC.out _ hE).mono ?_
            rintro e w2 ⟨rfl, hE2⟩
            have HB2 := hid (blk_ext HB.out hE2)
            have hE3 := hE.trans hE2
            clear c0 c1 hE2 HB hs
            have c0 := blk_cell HB2.out 0
            have c1 := blk_cell HB2.out 1
            have hs := (Array.getElem?_eq_some_iff.1 HB2.out).1
            simp only [List.getElem?_toArray, List.getElem?_cons_zero, List.getElem?_cons_succ] at c0 c1
            go_wp2
            go_ret
            exact ⟨⟨_, rfl⟩, hE3⟩
      · go_wp2_with fail
        refine (HC.out _ hE).mono ?_
        rintro e w2 ⟨rfl, hE2⟩
        have HB2 := hid (blk_ext HB.out hE2)
        have hE3 := hE.trans hE2
        clear c0 c1 hE2 HB hs
        have c0 := blk_cell HB2.out 0
        have c1 := blk_cell HB2.out 1
        have hs := (Array.getElem?_eq_some_iff.1 HB2.out).1
        simp only [List.getElem?_toArray, List.getElem?_cons_zero, List.getElem?_cons_succ] at c0 c1
        go_wp2
        go_ret
        exact ⟨⟨_, rfl⟩, hE3⟩

theorem isMinute_b (a : Int) (w : World) : Calls Try.prog 72 #[.int .i64 a] w fun e w' => e = .returned (.bool (minuteB a)) ∧ w' = w := isMinute_any a w
theorem partyE_zero {m g l pl ph : Int} {ps : List Pt} (h : partyE m g l pl ph ps = 0) : vNet m ps = true ∧ vParty g l pl ph = true := by
  unfold partyE at h
  split at h
  · split at h
    · exact ⟨by assumption, by assumption⟩
    · exact absurd h (by decide)
  · exact absurd h (by decide)
/-- What fits says yes to. -/
def Fit (m g l pl ph from_ to_ start D : Int) (ps : List Pt) : Prop := vNet m ps = true ∧ vParty g l pl ph = true ∧ placeB m from_ = true ∧ placeB m to_ = true ∧ minuteB start = true ∧ minuteB D = true
def FitIs (P : Prop) (w : World) (e : Ending) (w' : World) : Prop := (∃ B, e = .returned (.bool B) ∧ (B = true → P)) ∧ Ext w w'
theorem FitIs.no {P : Prop} {w w' : World} {e : Ending} (h : e = .returned (.bool false)) (he : Ext w w') : FitIs P w e w' := ⟨⟨false, h, fun h => by cases h⟩, he⟩
theorem FitIs.yes {P : Prop} {w w' : World} {e : Ending} (h : e = .returned (.bool true)) (he : Ext w w') (hp : P) : FitIs P w e w' := ⟨⟨true, h, fun _ => hp⟩, he⟩

set_option maxRecDepth 100000 in
set_option maxHeartbeats 2000000 in
theorem fits_any (m g l pl ph from_ to_ start D v5 : Int) (v4 : Value) (h4 : v4.cells = #[v4]) (A : Option Addr) (n c : Nat) (ps : List Pt) (hn : ps.length = n) (w : World) (hp : PathsAt w A ps) :
    Calls Try.prog 32 #[.agg #[.int .i64 m, .slice A n c], .agg #[.int .i64 g, .int .i64 l, .int .i64 pl, .int .i64 ph], .agg #[.int .i64 from_, .int .i64 to_, .int .i64 start, .int .i64 D, v4, .int .i64 v5]] w
      (FitIs (Fit m g l pl ph from_ to_ start D ps) w) := by
  have HF := hid (fun (W : World) (hW : Ext w W) => far_any m A n c ps hn W (hp.ext hW))
  have HC := hid (fun (W : World) (hW : Ext w W) => rCheckParty_any m g l pl ph A n c ps hn W (hp.ext hW))
  clear hp hn
  by_cases hz : partyE m g l pl ph ps = 0
  case neg =>
    revert HC hz
    generalize partyE m g l pl ph ps = ce
    intro HC hz
    go_enter Try.func32, Try.ntmps32
    go_wp2_with fail
    refine (HF.out _ (by (repeat' (first | with_reducible assumption | with_reducible exact Ext.refl _ | with_reducible refine Ext.alloc ?_ _ | with_reducible refine Ext.set ?_ ?_ _ | with_reducible refine Ext.drew ?_ | with_reducible refine Ext.drewN ?_ _ | with_reducible refine Ext.trans ?_ (by assumption) | (dsimp only; omega))))).mono ?_
    rintro e w2 ⟨⟨B, rfl⟩, hE⟩
    (first | (have hK := KC.step (n := w.heap.size + 3) (by with_reducible assumption) hE) | (have hK := KC.step (KC.step (n := w.heap.size + 3) (by with_reducible assumption) (ext_alloc1 _ _)) hE) | (have hK := KC.step (KC.refl (n := w.heap.size + 3) (by simp)) hE)); have hC := hK.cell; have hF := hK.fro; have hX := hK.ext
    cases B
    case true =>
      go_wp2
      go_ret
      exact .no rfl (by (repeat' (first | with_reducible assumption | with_reducible exact Ext.refl _ | with_reducible refine Ext.alloc ?_ _ | with_reducible refine Ext.set ?_ ?_ _ | with_reducible refine Ext.drew ?_ | with_reducible refine Ext.drewN ?_ _ | with_reducible refine Ext.trans ?_ (by assumption) | (dsimp only; omega))))
    go_wp2_with (first
      | (go_at_call 49; refine (HC.out _ (by (repeat' (first | with_reducible assumption | with_reducible exact Ext.refl _ | with_reducible refine Ext.alloc ?_ _ | with_reducible refine Ext.set ?_ ?_ _ | with_reducible refine Ext.drew ?_ | with_reducible refine Ext.drewN ?_ _ | with_reducible refine Ext.trans ?_ (by assumption) | (dsimp only; omega))))).mono ?_; rintro e w2 ⟨rfl, hE⟩; (first | (have hK := KC.step (n := w.heap.size + 3) (by with_reducible assumption) hE) | (have hK := KC.step (KC.step (n := w.heap.size + 3) (by with_reducible assumption) (ext_alloc1 _ _)) hE) | (have hK := KC.step (KC.refl (n := w.heap.size + 3) (by simp)) hE)); have hC := hK.cell; have hF := hK.fro; have hX := hK.ext)
      | (go_at_call 43; refine (rIsPlace_b _ _ _ (by omega) (by omega) _).mono ?_; rintro e w2 ⟨rfl, hE⟩; (first | (have hK := KC.step (n := w.heap.size + 3) (by with_reducible assumption) hE) | (have hK := KC.step (KC.step (n := w.heap.size + 3) (by with_reducible assumption) (ext_alloc1 _ _)) hE) | (have hK := KC.step (KC.refl (n := w.heap.size + 3) (by simp)) hE)); have hC := hK.cell; have hF := hK.fro; have hX := hK.ext)
      | (go_at_call 72; refine (isMinute_b _ _).mono ?_; rintro e w2 ⟨rfl, rfl⟩))
    go_ret
    exact .no rfl (by (repeat' (first | with_reducible assumption | with_reducible exact Ext.refl _ | with_reducible refine Ext.alloc ?_ _ | with_reducible refine Ext.set ?_ ?_ _ | with_reducible refine Ext.drew ?_ | with_reducible refine Ext.drewN ?_ _ | with_reducible refine Ext.trans ?_ (by assumption) | (dsimp only; omega))))
  obtain ⟨hv, hpa⟩ := partyE_zero hz
  rw [hz] at HC
  have hmm : 1 ≤ m ∧ m ≤ 12 := by
    have h := hv
    unfold vNet at h
    simp only [Bool.and_eq_true, decide_eq_true_eq] at h
    exact ⟨h.1, h.2.1⟩
  obtain ⟨hm1, hm2⟩ := hmm
  have HFIT := hid (fun (a1 : placeB m from_ = true) (a2 : placeB m to_ = true) (a3 : minuteB start = true) (a4 : minuteB D = true) => (⟨hv, hpa, a1, a2, a3, a4⟩ : Fit m g l pl ph from_ to_ start D ps))
  clear hv hpa hz
  cases a1 : placeB m from_
  · go_enter Try.func32, Try.ntmps32
    go_wp2_with fail
    refine (HF.out _ (by (repeat' (first | with_reducible assumption | with_reducible exact Ext.refl _ | with_reducible refine Ext.alloc ?_ _ | with_reducible refine Ext.set ?_ ?_ _ | with_reducible refine Ext.drew ?_ | with_reducible refine Ext.drewN ?_ _ | with_reducible refine Ext.trans ?_ (by assumption) | (dsimp only; omega))))).mono ?_
    rintro e w2 ⟨⟨B, rfl⟩, hE⟩
    (first | (have hK := KC.step (n := w.heap.size + 3) (by with_reducible assumption) hE) | (have hK := KC.step (KC.step (n := w.heap.size + 3) (by with_reducible assumption) (ext_alloc1 _ _)) hE) | (have hK := KC.step (KC.refl (n := w.heap.size + 3) (by simp)) hE)); have hC := hK.cell; have hF := hK.fro; have hX := hK.ext
    cases B
    case true =>
      go_wp2
      go_ret
      exact .no rfl (by (repeat' (first | with_reducible assumption | with_reducible exact Ext.refl _ | with_reducible refine Ext.alloc ?_ _ | with_reducible refine Ext.set ?_ ?_ _ | with_reducible refine Ext.drew ?_ | with_reducible refine Ext.drewN ?_ _ | with_reducible refine Ext.trans ?_ (by assumption) | (dsimp only; omega))))
    go_wp2_with (first
      | (go_at_call 49; refine (HC.out _ (by (repeat' (first | with_reducible assumption | with_reducible exact Ext.refl _ | with_reducible refine Ext.alloc ?_ _ | with_reducible refine Ext.set ?_ ?_ _ | with_reducible refine Ext.drew ?_ | with_reducible refine Ext.drewN ?_ _ | with_reducible refine Ext.trans ?_ (by assumption) | (dsimp only; omega))))).mono ?_; rintro e w2 ⟨rfl, hE⟩; (first | (have hK := KC.step (n := w.heap.size + 3) (by with_reducible assumption) hE) | (have hK := KC.step (KC.step (n := w.heap.size + 3) (by with_reducible assumption) (ext_alloc1 _ _)) hE) | (have hK := KC.step (KC.refl (n := w.heap.size + 3) (by simp)) hE)); have hC := hK.cell; have hF := hK.fro; have hX := hK.ext)
      | (go_at_call 43; refine (rIsPlace_b _ _ _ (by omega) (by omega) _).mono ?_; rintro e w2 ⟨rfl, hE⟩; (first | (have hK := KC.step (n := w.heap.size + 3) (by with_reducible assumption) hE) | (have hK := KC.step (KC.step (n := w.heap.size + 3) (by with_reducible assumption) (ext_alloc1 _ _)) hE) | (have hK := KC.step (KC.refl (n := w.heap.size + 3) (by simp)) hE)); have hC := hK.cell; have hF := hK.fro; have hX := hK.ext)
      | (go_at_call 72; refine (isMinute_b _ _).mono ?_; rintro e w2 ⟨rfl, rfl⟩))
    go_ret
    exact .no rfl (by (repeat' (first | with_reducible assumption | with_reducible exact Ext.refl _ | with_reducible refine Ext.alloc ?_ _ | with_reducible refine Ext.set ?_ ?_ _ | with_reducible refine Ext.drew ?_ | with_reducible refine Ext.drewN ?_ _ | with_reducible refine Ext.trans ?_ (by assumption) | (dsimp only; omega))))
  cases a2 : placeB m to_
  · go_enter Try.func32, Try.ntmps32
    go_wp2_with fail
    refine (HF.out _ (by (repeat' (first | with_reducible assumption | with_reducible exact Ext.refl _ | with_reducible refine Ext.alloc ?_ _ | with_reducible refine Ext.set ?_ ?_ _ | with_reducible refine Ext.drew ?_ | with_reducible refine Ext.drewN ?_ _ | with_reducible refine Ext.trans ?_ (by assumption) | (dsimp only; omega))))).mono ?_
    rintro e w2 ⟨⟨B, rfl⟩, hE⟩
    (first | (have hK := KC.step (n := w.heap.size + 3) (by with_reducible assumption) hE) | (have hK := KC.step (KC.step (n := w.heap.size + 3) (by with_reducible assumption) (ext_alloc1 _ _)) hE) | (have hK := KC.step (KC.refl (n := w.heap.size + 3) (by simp)) hE)); have hC := hK.cell; have hF := hK.fro; have hX := hK.ext
    cases B
    case true =>
      go_wp2
      go_ret
      exact .no rfl (by (repeat' (first | with_reducible assumption | with_reducible exact Ext.refl _ | with_reducible refine Ext.alloc ?_ _ | with_reducible refine Ext.set ?_ ?_ _ | with_reducible refine Ext.drew ?_ | with_reducible refine Ext.drewN ?_ _ | with_reducible refine Ext.trans ?_ (by assumption) | (dsimp only; omega))))
    go_wp2_with (first
      | (go_at_call 49; refine (HC.out _ (by (repeat' (first | with_reducible assumption | with_reducible exact Ext.refl _ | with_reducible refine Ext.alloc ?_ _ | with_reducible refine Ext.set ?_ ?_ _ | with_reducible refine Ext.drew ?_ | with_reducible refine Ext.drewN ?_ _ | with_reducible refine Ext.trans ?_ (by assumption) | (dsimp only; omega))))).mono ?_; rintro e w2 ⟨rfl, hE⟩; (first | (have hK := KC.step (n := w.heap.size + 3) (by with_reducible assumption) hE) | (have hK := KC.step (KC.step (n := w.heap.size + 3) (by with_reducible assumption) (ext_alloc1 _ _)) hE) | (have hK := KC.step (KC.refl (n := w.heap.size + 3) (by simp)) hE)); have hC := hK.cell; have hF := hK.fro; have hX := hK.ext)
      | (go_at_call 43; refine (rIsPlace_b _ _ _ (by omega) (by omega) _).mono ?_; rintro e w2 ⟨rfl, hE⟩; (first | (have hK := KC.step (n := w.heap.size + 3) (by with_reducible assumption) hE) | (have hK := KC.step (KC.step (n := w.heap.size + 3) (by with_reducible assumption) (ext_alloc1 _ _)) hE) | (have hK := KC.step (KC.refl (n := w.heap.size + 3) (by simp)) hE)); have hC := hK.cell; have hF := hK.fro; have hX := hK.ext)
      | (go_at_call 72; refine (isMinute_b _ _).mono ?_; rintro e w2 ⟨rfl, rfl⟩))
    go_ret
    exact .no rfl (by (repeat' (first | with_reducible assumption | with_reducible exact Ext.refl _ | with_reducible refine Ext.alloc ?_ _ | with_reducible refine Ext.set ?_ ?_ _ | with_reducible refine Ext.drew ?_ | with_reducible refine Ext.drewN ?_ _ | with_reducible refine Ext.trans ?_ (by assumption) | (dsimp only; omega))))
  cases a3 : minuteB start
  · go_enter Try.func32, Try.ntmps32
    go_wp2_with fail
    refine (HF.out _ (by (repeat' (first | with_reducible assumption | with_reducible exact Ext.refl _ | with_reducible refine Ext.alloc ?_ _ | with_reducible refine Ext.set ?_ ?_ _ | with_reducible refine Ext.drew ?_ | with_reducible refine Ext.drewN ?_ _ | with_reducible refine Ext.trans ?_ (by assumption) | (dsimp only; omega))))).mono ?_
    rintro e w2 ⟨⟨B, rfl⟩, hE⟩
    (first | (have hK := KC.step (n := w.heap.size + 3) (by with_reducible assumption) hE) | (have hK := KC.step (KC.step (n := w.heap.size + 3) (by with_reducible assumption) (ext_alloc1 _ _)) hE) | (have hK := KC.step (KC.refl (n := w.heap.size + 3) (by simp)) hE)); have hC := hK.cell; have hF := hK.fro; have hX := hK.ext
    cases B
    case true =>
      go_wp2
      go_ret
      exact .no rfl (by (repeat' (first | with_reducible assumption | with_reducible exact Ext.refl _ | with_reducible refine Ext.alloc ?_ _ | with_reducible refine Ext.set ?_ ?_ _ | with_reducible refine Ext.drew ?_ | with_reducible refine Ext.drewN ?_ _ | with_reducible refine Ext.trans ?_ (by assumption) | (dsimp only; omega))))
    go_wp2_with (first
      | (go_at_call 49; refine (HC.out _ (by (repeat' (first | with_reducible assumption | with_reducible exact Ext.refl _ | with_reducible refine Ext.alloc ?_ _ | with_reducible refine Ext.set ?_ ?_ _ | with_reducible refine Ext.drew ?_ | with_reducible refine Ext.drewN ?_ _ | with_reducible refine Ext.trans ?_ (by assumption) | (dsimp only; omega))))).mono ?_; rintro e w2 ⟨rfl, hE⟩; (first | (have hK := KC.step (n := w.heap.size + 3) (by with_reducible assumption) hE) | (have hK := KC.step (KC.step (n := w.heap.size + 3) (by with_reducible assumption) (ext_alloc1 _ _)) hE) | (have hK := KC.step (KC.refl (n := w.heap.size + 3) (by simp)) hE)); have hC := hK.cell; have hF := hK.fro; have hX := hK.ext)
      | (go_at_call 43; refine (rIsPlace_b _ _ _ (by omega) (by omega) _).mono ?_; rintro e w2 ⟨rfl, hE⟩; (first | (have hK := KC.step (n := w.heap.size + 3) (by with_reducible assumption) hE) | (have hK := KC.step (KC.step (n := w.heap.size + 3) (by with_reducible assumption) (ext_alloc1 _ _)) hE) | (have hK := KC.step (KC.refl (n := w.heap.size + 3) (by simp)) hE)); have hC := hK.cell; have hF := hK.fro; have hX := hK.ext)
      | (go_at_call 72; refine (isMinute_b _ _).mono ?_; rintro e w2 ⟨rfl, rfl⟩))
    go_ret
    exact .no rfl (by (repeat' (first | with_reducible assumption | with_reducible exact Ext.refl _ | with_reducible refine Ext.alloc ?_ _ | with_reducible refine Ext.set ?_ ?_ _ | with_reducible refine Ext.drew ?_ | with_reducible refine Ext.drewN ?_ _ | with_reducible refine Ext.trans ?_ (by assumption) | (dsimp only; omega))))
  cases a4 : minuteB D
  · go_enter Try.func32, Try.ntmps32
    go_wp2_with fail
    refine (HF.out _ (by (repeat' (first | with_reducible assumption | with_reducible exact Ext.refl _ | with_reducible refine Ext.alloc ?_ _ | with_reducible refine Ext.set ?_ ?_ _ | with_reducible refine Ext.drew ?_ | with_reducible refine Ext.drewN ?_ _ | with_reducible refine Ext.trans ?_ (by assumption) | (dsimp only; omega))))).mono ?_
    rintro e w2 ⟨⟨B, rfl⟩, hE⟩
    (first | (have hK := KC.step (n := w.heap.size + 3) (by with_reducible assumption) hE) | (have hK := KC.step (KC.step (n := w.heap.size + 3) (by with_reducible assumption) (ext_alloc1 _ _)) hE) | (have hK := KC.step (KC.refl (n := w.heap.size + 3) (by simp)) hE)); have hC := hK.cell; have hF := hK.fro; have hX := hK.ext
    cases B
    case true =>
      go_wp2
      go_ret
      exact .no rfl (by (repeat' (first | with_reducible assumption | with_reducible exact Ext.refl _ | with_reducible refine Ext.alloc ?_ _ | with_reducible refine Ext.set ?_ ?_ _ | with_reducible refine Ext.drew ?_ | with_reducible refine Ext.drewN ?_ _ | with_reducible refine Ext.trans ?_ (by assumption) | (dsimp only; omega))))
    go_wp2_with (first
      | (go_at_call 49; refine (HC.out _ (by (repeat' (first | with_reducible assumption | with_reducible exact Ext.refl _ | with_reducible refine Ext.alloc ?_ _ | with_reducible refine Ext.set ?_ ?_ _ | with_reducible refine Ext.drew ?_ | with_reducible refine Ext.drewN ?_ _ | with_reducible refine Ext.trans ?_ (by assumption) | (dsimp only; omega))))).mono ?_; rintro e w2 ⟨rfl, hE⟩; (first | (have hK := KC.step (n := w.heap.size + 3) (by with_reducible assumption) hE) | (have hK := KC.step (KC.step (n := w.heap.size + 3) (by with_reducible assumption) (ext_alloc1 _ _)) hE) | (have hK := KC.step (KC.refl (n := w.heap.size + 3) (by simp)) hE)); have hC := hK.cell; have hF := hK.fro; have hX := hK.ext)
      | (go_at_call 43; refine (rIsPlace_b _ _ _ (by omega) (by omega) _).mono ?_; rintro e w2 ⟨rfl, hE⟩; (first | (have hK := KC.step (n := w.heap.size + 3) (by with_reducible assumption) hE) | (have hK := KC.step (KC.step (n := w.heap.size + 3) (by with_reducible assumption) (ext_alloc1 _ _)) hE) | (have hK := KC.step (KC.refl (n := w.heap.size + 3) (by simp)) hE)); have hC := hK.cell; have hF := hK.fro; have hX := hK.ext)
      | (go_at_call 72; refine (isMinute_b _ _).mono ?_; rintro e w2 ⟨rfl, rfl⟩))
    go_ret
    exact .no rfl (by (repeat' (first | with_reducible assumption | with_reducible exact Ext.refl _ | with_reducible refine Ext.alloc ?_ _ | with_reducible refine Ext.set ?_ ?_ _ | with_reducible refine Ext.drew ?_ | with_reducible refine Ext.drewN ?_ _ | with_reducible refine Ext.trans ?_ (by assumption) | (dsimp only; omega))))
  have HY := hid (HFIT.out a1 a2 a3 a4)
  go_enter Try.func32, Try.ntmps32
  go_wp2_with fail
  refine (HF.out _ (by (repeat' (first | with_reducible assumption | with_reducible exact Ext.refl _ | with_reducible refine Ext.alloc ?_ _ | with_reducible refine Ext.set ?_ ?_ _ | with_reducible refine Ext.drew ?_ | with_reducible refine Ext.drewN ?_ _ | with_reducible refine Ext.trans ?_ (by assumption) | (dsimp only; omega))))).mono ?_
  rintro e w2 ⟨⟨B, rfl⟩, hE⟩
  (first | (have hK := KC.step (n := w.heap.size + 3) (by with_reducible assumption) hE) | (have hK := KC.step (KC.step (n := w.heap.size + 3) (by with_reducible assumption) (ext_alloc1 _ _)) hE) | (have hK := KC.step (KC.refl (n := w.heap.size + 3) (by simp)) hE)); have hC := hK.cell; have hF := hK.fro; have hX := hK.ext
  cases B
  case true =>
    go_wp2
    go_ret
    exact .no rfl (by (repeat' (first | with_reducible assumption | with_reducible exact Ext.refl _ | with_reducible refine Ext.alloc ?_ _ | with_reducible refine Ext.set ?_ ?_ _ | with_reducible refine Ext.drew ?_ | with_reducible refine Ext.drewN ?_ _ | with_reducible refine Ext.trans ?_ (by assumption) | (dsimp only; omega))))
  go_wp2_with (first
    | (go_at_call 49; refine (HC.out _ (by (repeat' (first | with_reducible assumption | with_reducible exact Ext.refl _ | with_reducible refine Ext.alloc ?_ _ | with_reducible refine Ext.set ?_ ?_ _ | with_reducible refine Ext.drew ?_ | with_reducible refine Ext.drewN ?_ _ | with_reducible refine Ext.trans ?_ (by assumption) | (dsimp only; omega))))).mono ?_; rintro e w2 ⟨rfl, hE⟩; (first | (have hK := KC.step (n := w.heap.size + 3) (by with_reducible assumption) hE) | (have hK := KC.step (KC.step (n := w.heap.size + 3) (by with_reducible assumption) (ext_alloc1 _ _)) hE) | (have hK := KC.step (KC.refl (n := w.heap.size + 3) (by simp)) hE)); have hC := hK.cell; have hF := hK.fro; have hX := hK.ext)
    | (go_at_call 43; refine (rIsPlace_b _ _ _ (by omega) (by omega) _).mono ?_; rintro e w2 ⟨rfl, hE⟩; (first | (have hK := KC.step (n := w.heap.size + 3) (by with_reducible assumption) hE) | (have hK := KC.step (KC.step (n := w.heap.size + 3) (by with_reducible assumption) (ext_alloc1 _ _)) hE) | (have hK := KC.step (KC.refl (n := w.heap.size + 3) (by simp)) hE)); have hC := hK.cell; have hF := hK.fro; have hX := hK.ext)
    | (go_at_call 72; refine (isMinute_b _ _).mono ?_; rintro e w2 ⟨rfl, rfl⟩))
  go_ret
  exact .yes rfl (by (repeat' (first | with_reducible assumption | with_reducible exact Ext.refl _ | with_reducible refine Ext.alloc ?_ _ | with_reducible refine Ext.set ?_ ?_ _ | with_reducible refine Ext.drew ?_ | with_reducible refine Ext.drewN ?_ _ | with_reducible refine Ext.trans ?_ (by assumption) | (dsimp only; omega)))) HY.out
end Go.Proofs.Ytndoghcglbpllaa
/- Rows of numbers of the call's own; slices.Clone over numbers. -/
set_option linter.unusedSimpArgs false
set_option linter.unusedVariables false
namespace Go.Proofs.Ytndoghcglbpllaa
open Go.RowKit

theorem info3 : (Try.prog.info? 3).map (fun i => (i.zero, i.size, i.bytes)) = some (some (.int .i64 0), 1, 8) := by kernel_rfl

def ints (xs : List Int) : List Value := xs.map (Value.int .i64)
theorem ints_getD (xs : List Int) (k : Nat) (h : k < xs.length) : (ints xs)[k]? = some (.int .i64 (xs.getD k 0)) := by
  simp [ints, List.getD, List.getElem?_eq_getElem h]

theorem ints_one (xs : List Int) : ∀ u ∈ ints xs, u.oneCell' = true := by
  intro u hu
  obtain ⟨x, _, rfl⟩ := List.mem_map.1 hu
  rfl
theorem addBlock (a : Addr) (n : Nat) : (a.add n).block = a.block := by unfold Addr.add; split <;> rfl

/-- Block g is a row of numbers of the call's own. -/
def RowAt (w : World) (g cap : Nat) (xs : List Int) : Prop := g < w.heap.size ∧ w.ownsRow 0 3 1 (.slice (some ⟨g, 0, none⟩) xs.length cap) xs.length (ints xs)
theorem RowAt.lt {w : World} {g cap : Nat} {xs : List Int} (h : RowAt w g cap xs) : g < w.heap.size := h.1
theorem RowAt.cell {w : World} {g cap : Nat} {xs : List Int} (h : RowAt w g cap xs) {k : Nat} (hk : k < xs.length) : w.cell? ⟨g, k, none⟩ = some (.int .i64 (xs.getD k 0)) := by
  rw [h.2.cellAt k (by omega), ints_getD xs k hk]
theorem RowAt.fro {w : World} {g cap : Nat} {xs : List Int} (h : RowAt w g cap xs) (k : Nat) : w.frozen? ⟨g, k, none⟩ = false := h.2.frozenAt k
theorem RowAt.set {w : World} {g cap : Nat} {xs : List Int} (h : RowAt w g cap xs) (k : Nat) (x : Int) : RowAt (w.setCell ⟨g, k, none⟩ (.int .i64 x)) g cap (xs.set k x) := by
  refine ⟨by simpa using h.1, ?_⟩
  have := (h.2.stored k (.int .i64 x)).1
  simpa [ints, List.map_set] using this
theorem RowAt.ints {w : World} {g cap : Nat} {xs : List Int} (h : RowAt w g cap xs) : IntsAt w (some ⟨g, 0, none⟩) xs := fun _ => ⟨g, 0, rfl, h.1, fun k hk => by rw [Nat.zero_add]; exact h.cell hk⟩
theorem RowAt.ext {w w' : World} {g cap : Nat} {xs : List Int} (h : RowAt w g cap xs) (e : Ext w w') : RowAt w' g cap xs := by
  refine ⟨Nat.lt_of_lt_of_le h.1 e.size, ?_⟩
  obtain ⟨hl, hd⟩ := h.2
  refine ⟨hl, ?_⟩
  rcases hd with h0 | ⟨g', cap', cur, hv, hb, hh, h3, h4, h5, h6⟩
  · exact .inl h0
  · refine .inr ⟨g', cap', cur, hv, hb, ?_, h3, h4, h5, h6⟩
    have hg : g' = g := by
      injection hv with hv
      injection hv with hv
      injection hv with hv
      exact hv.symm
    subst hg
    exact (Below.block e g' h.1).trans hh
theorem RowAt.setFar {w : World} {g cap : Nat} {xs : List Int} (h : RowAt w g cap xs) {p : Addr} (hp : p.block ≠ g) (u : Value) : RowAt (w.setCell p u) g cap xs := by
  refine ⟨by simpa using h.1, ?_⟩
  obtain ⟨hl, hd⟩ := h.2
  refine ⟨hl, ?_⟩
  rcases hd with h0 | ⟨g', cap', cur, hv, hb, hh, h3, h4, h5, h6⟩
  · exact .inl h0
  · refine .inr ⟨g', cap', cur, hv, hb, ?_, h3, h4, h5, h6⟩
    have hg : g' = g := by
      injection hv with hv
      injection hv with hv
      injection hv with hv
      exact hv.symm
    subst hg
    exact (Below.heap_setCell w p u g' (fun e => hp e.symm)).trans hh
/-- The call returns a new row. -/
def NewRow (xs : List Int) (w : World) (e : Ending) (w' : World) : Prop :=
  ∃ g cap, e = .returned (.slice (some ⟨g, 0, none⟩) xs.length cap) ∧ RowAt w' g cap xs ∧ w.heap.size ≤ g ∧ Ext w w'
theorem NewRow.mk {xs : List Int} {w w' : World} {e : Ending} {g cap : Nat} (h : e = .returned (.slice (some ⟨g, 0, none⟩) xs.length cap)) (hr : RowAt w' g cap xs) (hg : w.heap.size ≤ g) (he : Ext w w') : NewRow xs w e w' := ⟨g, cap, h, hr, hg, he⟩
theorem row_of_own {w : World} {base : Nat} {v : Value} {n : Nat} {xs : List Int} (h : w.ownsRow base 3 1 v n (ints xs)) (hn : 0 < n) : ∃ g cap, v = .slice (some ⟨g, 0, none⟩) xs.length cap ∧ base ≤ g ∧ RowAt w g cap xs := by
  obtain ⟨hl, hd⟩ := h
  have hx : n = xs.length := by simpa [ints] using hl.symm
  subst hx
  rcases hd with ⟨_, h0⟩ | ⟨g, cap, cur, hv, hb, hh, h3, h4, h5, h6⟩
  · omega
  · exact ⟨g, cap, hv, hb, (Array.getElem?_eq_some_iff.1 hh).1, hl, .inr ⟨g, cap, cur, rfl, Nat.zero_le _, hh, h3, h4, h5, h6⟩⟩

theorem ext_of_grown {w w1 w' : World} {row : Option Nat} (h : Ext w w1) (hg : w1.grownBy w' row) (hr : ∀ k, row = some k → w.heap.size ≤ k) : Ext w w' := Below.grown h hg h.size hr

set_option maxHeartbeats 1000000 in
theorem cloneInts_any (b off c : Nat) (xs : List Int) (hm : xs.length ≤ 1000) (hp : 0 < xs.length) (w : World) (hx : IntsAt w (some ⟨b, off, none⟩) xs) :
    Calls Try.prog 104 #[.slice (some ⟨b, off, none⟩) xs.length c] w (NewRow xs w) := by
  have hcell : ∀ j u, (ints xs)[j]? = some u → w.cell? (Addr.add ⟨b, off, none⟩ j) = some u := by
    obtain ⟨b', off', hA, hb, hc⟩ := hx (by rintro rfl; simp at hp)
    injection hA with hA
    injection hA with h1 h2
    subst h1 h2
    intro j u hj
    have hjl : j < xs.length := by
      have := (List.getElem?_eq_some_iff.1 hj).1
      simpa [ints] using this
    rw [ints_getD xs j hjl] at hj
    injection hj with hj
    subst hj
    rw [show Addr.add ⟨b, off, none⟩ j = ⟨b, off + j, none⟩ from by unfold Addr.add; split <;> simp_all]
    exact hc j hjl
  have hb : b < w.heap.size := by
    obtain ⟨b', off', hA, hb, hc⟩ := hx (by rintro rfl; simp at hp)
    injection hA with hA
    injection hA with h1 h2
    subst h1
    exact hb
  have H := hid hcell
  clear hcell hx
  obtain ⟨i0, hi, hz0, hz1, hz2⟩ := info_parts info3
  have HI := hid hi
  have HZ0 := hid hz0
  have HZ1 := hid hz1
  have HZ2 := hid hz2
  clear hi hz0 hz1 hz2
  have hnil : ∀ (W : World) (a : Option Addr) (n c n' c' : Nat), (binOp .eql 29 (.slice a n c) (.slice none n' c')).run Try.prog W = .ok (.bool a.isNone) W := fun W a n c n' c' => Lib.run_eql_slice_nil W _ _ a n c n' c' Try.underlying29
  go_enter Try.func104, Try.ntmps104
  have h0 := World.ownsRow_lit (base := w.heap.size) (e := 3) (size := 1) w #[] 0 (Nat.le_refl _) (by unfold maxLen; omega) rfl
  have H0 := hid h0
  clear h0
  go_wp2_with (at_builtin; refine wpList_append_own _ rfl _ _ 29 rfl w.heap.size 3 i0 (.int .i64 0) 1 8 Try.underlying29 HI.out HZ0.out HZ1.out HZ2.out rfl (by decide) _ _ _ rfl H0.out ⟨b, off, none⟩ xs.length _ (ints xs) rfl (by simp [ints]) (fun j u hj => (World.cell?_alloc_lt w _ _ (by rw [addBlock]; exact hb)).trans (H.out j u hj)) (ints_one xs) (by unfold maxLen; omega) (by omega) (by simp) ?_; intro v' w2 hown hgrow _)
  simp only [List.nil_append, Nat.zero_add] at hown
  obtain ⟨g, cap, rfl, hg, hrow⟩ := row_of_own hown hp
  have hE : Ext w w2 := ext_of_grown (ext_alloc1 _ _) hgrow (fun k hk => by have hk' : some w.heap.size = some k := hk; injection hk' with hk'; omega)
  have hG := hid hg
  have hR := hid hrow
  clear hown hgrow hg hrow H H0
  go_wp2
  go_ret
  exact NewRow.mk rfl hR.out hG.out hE
end Go.Proofs.Ytndoghcglbpllaa
/- Times, entries and arrivals. -/
set_option linter.unusedSimpArgs false
set_option linter.unusedVariables false
namespace Go.Proofs.Ytndoghcglbpllaa
open Go.RowKit

/-- The time of a path, in minutes. -/
def timeOf (t p s l : Int) : Int := (t * p * (100 + 5 * s + l) + 9999) / 10000

theorem prod_bd (a b A B : Int) (h0 : 0 ≤ a) (h1 : a ≤ A) (h2 : 0 ≤ b) (h3 : b ≤ B) : 0 ≤ a * b ∧ a * b ≤ A * B :=
  ⟨Int.mul_nonneg h0 h2, Int.mul_le_mul h1 h3 h2 (by omega)⟩

set_option maxHeartbeats 400000 in
theorem rTime_any (t p s l : Int) (ht : 1 ≤ t) (ht' : t ≤ 600) (hp : 50 ≤ p) (hp' : p ≤ 300) (hs : 0 ≤ s) (hs' : s ≤ 30) (hl : 0 ≤ l) (hl' : l ≤ 40) (w : World) :
    Calls Try.prog 74 #[.int .i64 t, .int .i64 p, .int .i64 s, .int .i64 l] w fun e w' => e = .returned (.int .i64 (timeOf t p s l)) ∧ w' = w := by
  have ⟨h1, h2⟩ := prod_bd t p 600 300 (by omega) ht' (by omega) hp'
  have ⟨h3, h4⟩ := prod_bd (t * p) (100 + 5 * s + l) (600 * 300) 290 h1 h2 (by omega) (by omega)
  go_enter Try.func74, Try.ntmps74
  go_wp2
  all_goals (go_ret; exact ⟨rfl, rfl⟩)

set_option maxHeartbeats 400000 in
theorem minutes_any (t p s l : Int) (v1 v2 v3 v4 v5 : Value) (ht : 1 ≤ t) (ht' : t ≤ 600) (hp : 50 ≤ p) (hp' : p ≤ 300) (hs : 0 ≤ s) (hs' : s ≤ 30) (hl : 0 ≤ l) (hl' : l ≤ 40) (w : World) :
    Calls Try.prog 84 #[.agg #[v1, v2, v3, .int .i64 l, v4, v5], .int .i64 t, .int .i64 p, .int .i64 s] w fun e w' => e = .returned (.int .i64 (timeOf t p s l)) ∧ Ext w w' := by
  have ⟨h1, h2⟩ := prod_bd t p 600 300 (by omega) ht' (by omega) hp'
  have ⟨h3, h4⟩ := prod_bd (t * p) (100 + 5 * s + l) (600 * 300) 290 h1 h2 (by omega) (by omega)
  go_enter Try.func84, Try.ntmps84
  go_wp2
  all_goals (go_ret; exact ⟨ret_int (by unfold timeOf; congr 1; omega), by (repeat' (first | with_reducible assumption | with_reducible exact Ext.refl _ | with_reducible refine Ext.alloc ?_ _ | with_reducible refine Ext.set ?_ ?_ _ | with_reducible refine Ext.drew ?_ | with_reducible refine Ext.drewN ?_ _ | with_reducible refine Ext.trans ?_ (by assumption) | (dsimp only; omega)))⟩)
end Go.Proofs.Ytndoghcglbpllaa
