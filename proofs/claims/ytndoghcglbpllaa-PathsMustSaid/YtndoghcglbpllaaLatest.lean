/- Latest. -/
import Derived.Test.YtndoghcglbpllaaArrive
import Derived.Test.YtndoghcglbpllaaLate
import Derived.Test.YtndoghcglbpllaaSearch
import Derived.Test.YtndoghcglbpllaaMono
set_option linter.unusedSimpArgs false
set_option linter.unusedVariables false
namespace Go.Proofs.Ytndoghcglbpllaa
open Go.RowKit

theorem ints_two_at {w : World} {b : Nat} {x y : Int} {t : TypeId} (h : w.heap[b]? = some (.cells #[.int .i64 x, .int .i64 y] t (0, 0))) : IntsAt w (some ⟨b, 0, none⟩) [x, y] := fun _ => ⟨b, 0, rfl, (Array.getElem?_eq_some_iff.1 h).1, fun k hk => by
  have hk2 : k = 0 ∨ k = 1 := by simp at hk; omega
  rcases hk2 with rfl | rfl
  · have := blk_cell h 0
    simpa using this
  · have := blk_cell h 1
    simpa using this⟩
def isLate (g l pl ph : Int) (ps : List Pt) (m fr to_ : Nat) (D : Int) (x : Nat) : Bool := decide (D < (rows selHi g l pl ph ps m fr (x : Int) (m - 1)).getD to_ 0)
theorem isLate_mono (g l pl ph : Int) (ps : List Pt) (m fr to_ : Nat) (D : Int) : ∀ x y, x ≤ y → isLate g l pl ph ps m fr to_ D x = true → isLate g l pl ph ps m fr to_ D y = true := by
  intro x y hxy
  unfold isLate
  simp only [decide_eq_true_eq]
  have := (rows_mono selHi g l pl ph ps m fr (show (x : Int) ≤ (y : Int) by omega) (m - 1)).2 to_
  omega
/-- The greatest start that is not late, or none. -/
def LatestIs (n : Nat) (p : Nat → Bool) (w : World) (e : Ending) (w' : World) : Prop :=
  (∃ r, Least n p r ∧ e = .returned (.tuple (if r = 0 then #[.int .i64 0, .int .i64 3] else #[.int .i64 ((r : Int) - 1), .int .i64 0]))) ∧ Ext w w'

set_option maxRecDepth 100000 in
set_option maxHeartbeats 2000000 in
theorem latest_ok (m g l pl ph from_ to_ D : Int) (A : Option Addr) (n c : Nat) (ps : List Pt) (hn : ps.length = n) (w : World) (hp : PathsAt w A ps) (hb : beginE m g l pl ph ps [from_, to_] [D] = 0) :
    Calls Try.prog 24 #[.agg #[.int .i64 m, .slice A n c], .agg #[.int .i64 g, .int .i64 l, .int .i64 pl, .int .i64 ph], .int .i64 from_, .int .i64 to_, .int .i64 D] w
      (LatestIs (D.toNat + 1) (isLate g l pl ph ps m.toNat from_.toNat to_.toNat D) w) := by
  obtain ⟨k1, k2, k3, k4⟩ := begin_zero hb
  obtain ⟨hm1, hm2, hN⟩ := vNet_ok k1
  have ha := vParty_ok k2
  have hfr := k3 from_ (by simp)
  have hto := k3 to_ (by simp)
  have hst := k4 D (by simp)
  obtain ⟨b, off, hA, hpp⟩ := hp.open_ hn
  obtain ⟨mm, rfl⟩ : ∃ k : Nat, m = k := ⟨m.toNat, by omega⟩
  obtain ⟨fr, rfl⟩ : ∃ k : Nat, from_ = k := ⟨from_.toNat, by omega⟩
  obtain ⟨tt, rfl⟩ : ∃ k : Nat, to_ = k := ⟨to_.toNat, by omega⟩
  obtain ⟨d, rfl⟩ : ∃ k : Nat, D = k := ⟨D.toNat, by omega⟩
  rw [Int.toNat_natCast] at hN
  simp only [Int.toNat_natCast]
  have HB := hid (fun (b1 b2 : Nat) (W : World) (hW : Ext w W) (h1 : IntsAt W (some ⟨b1, 0, none⟩) [(fr : Int), (tt : Int)]) (h2 : IntsAt W (some ⟨b2, 0, none⟩) [(d : Int)]) => begin_ok mm g l pl ph A (some ⟨b1, 0, none⟩) (some ⟨b2, 0, none⟩) n c 2 2 1 1 ps [(fr : Int), (tt : Int)] [(d : Int)] hn rfl rfl (by omega) (by omega) W (hp.ext hW) h1 h2 hb)
  have HS := hid (fun (q0 q1 q2 q3 : Nat) (W : World) (hE : Ext w W) (b0 : W.heap[q0]? = some (.cells (wbox (mm : Int) g l pl ph A n c) 70 (0, 0))) (b1 : W.heap[q1]? = some (.cells #[.int .i64 (fr : Int)] 3 (0, 0))) (b2 : W.heap[q2]? = some (.cells #[.int .i64 (tt : Int)] 3 (0, 0))) (b3 : W.heap[q3]? = some (.cells #[.int .i64 (d : Int)] 3 (0, 0))) =>
    search_any q0 q1 q2 q3 (d + 1) (by omega) (isLate g l pl ph ps mm fr tt d) (isLate_mono g l pl ph ps mm fr tt d) W (fun x W' hx hE' =>
      late_any g l pl ph n c b off ps hn A mm (by omega) (by omega) hN ha fr tt (by omega) (by omega) d x (by omega) (by omega) W' (fun h0 => ⟨(hA h0).1, Nat.lt_of_lt_of_le (hA h0).2 (hE.trans hE').size⟩)
        (fun k hk => by obtain ⟨A', c', h⟩ := hpp k hk; exact ⟨A', c', h.ext (hA (by omega)).2 (hE.trans hE')⟩) q0 q1 q2 q3 (blk_ext b0 hE') (blk_ext b1 hE') (blk_ext b2 hE') (blk_ext b3 hE')))
  revert HS
  generalize isLate g l pl ph ps mm fr tt d = pp
  intro HS
  have hd0 : (0 : Int) ≤ (d : Int) := hst.1
  have hd1 : (d : Int) ≤ 2880 := hst.2
  clear hp hn hb k1 k2 k3 k4 hN ha hfr hto hst hA hpp
  have HD := hid (show (d : Int) + 1 = ((d + 1 : Nat) : Int) by omega)
  go_enter Try.func24, Try.ntmps24
  go_wp2_with fail
  have t0 := three_blocks ((w.alloc (.cells #[.int .i64 (mm : Int), .slice A n c] 24)).alloc (.cells #[.int .i64 g, .int .i64 l, .int .i64 pl, .int .i64 ph] 28)) (.cells #[.int .i64 (fr : Int)] 3) (.cells #[.int .i64 (tt : Int)] 3) (.cells #[.int .i64 (d : Int)] 3)
  have t1 := two_blocks (((((w.alloc (.cells #[.int .i64 (mm : Int), .slice A n c] 24)).alloc (.cells #[.int .i64 g, .int .i64 l, .int .i64 pl, .int .i64 ph] 28)).alloc (.cells #[.int .i64 (fr : Int)] 3)).alloc (.cells #[.int .i64 (tt : Int)] 3)).alloc (.cells #[.int .i64 (d : Int)] 3)) (.cells #[.int .i64 (fr : Int), .int .i64 (tt : Int)] 3) (.cells #[.int .i64 (d : Int)] 3)
  simp only [World.size_alloc] at t0 t1
  refine (HB.out _ _ _ (by (repeat' (first | with_reducible assumption | with_reducible exact Ext.refl _ | with_reducible refine Ext.alloc ?_ _ | with_reducible refine Ext.set ?_ ?_ _ | with_reducible refine Ext.drew ?_ | with_reducible refine Ext.drewN ?_ _ | with_reducible refine Ext.trans ?_ (by assumption) | (dsimp only; omega)))) (ints_two_at t1.1) (ints_one_at t1.2.1)).mono ?_
  clear t1
  rintro e w1 ⟨rfl, hE⟩
  have EW : Ext w w1 := by (repeat' (first | with_reducible assumption | with_reducible exact Ext.refl _ | with_reducible refine Ext.alloc ?_ _ | with_reducible refine Ext.set ?_ ?_ _ | with_reducible refine Ext.drew ?_ | with_reducible refine Ext.drewN ?_ _ | with_reducible refine Ext.trans ?_ (by assumption) | (dsimp only; omega)))
  have B1 := hid (blk_ext t0.1 (Ext.trans (by (repeat' (first | with_reducible assumption | with_reducible exact Ext.refl _ | with_reducible refine Ext.alloc ?_ _ | with_reducible refine Ext.set ?_ ?_ _ | with_reducible refine Ext.drew ?_ | with_reducible refine Ext.drewN ?_ _ | with_reducible refine Ext.trans ?_ (by assumption) | (dsimp only; omega)))) hE))
  have B2 := hid (blk_ext t0.2.1 (Ext.trans (by (repeat' (first | with_reducible assumption | with_reducible exact Ext.refl _ | with_reducible refine Ext.alloc ?_ _ | with_reducible refine Ext.set ?_ ?_ _ | with_reducible refine Ext.drew ?_ | with_reducible refine Ext.drewN ?_ _ | with_reducible refine Ext.trans ?_ (by assumption) | (dsimp only; omega)))) hE))
  have B3 := hid (blk_ext t0.2.2 (Ext.trans (by (repeat' (first | with_reducible assumption | with_reducible exact Ext.refl _ | with_reducible refine Ext.alloc ?_ _ | with_reducible refine Ext.set ?_ ?_ _ | with_reducible refine Ext.drew ?_ | with_reducible refine Ext.drewN ?_ _ | with_reducible refine Ext.trans ?_ (by assumption) | (dsimp only; omega)))) hE))
  have q3 := blk_cell B3.out 0
  have z3 : w.heap.size + 1 + 1 + 1 + 1 < w1.heap.size := (Array.getElem?_eq_some_iff.1 B3.out).1
  simp only [List.getElem?_toArray, List.getElem?_cons_zero] at q3
  clear hE HB t0
  go_wp2_with fail
  rw [HD.out]
  refine (HS.out _ _ _ _ _ ?e1 ?e2 ?e3 ?e4 ?e5).mono ?_
  case e1 => (repeat' (first | with_reducible assumption | with_reducible exact Ext.refl _ | with_reducible refine Ext.alloc ?_ _ | with_reducible refine Ext.set ?_ ?_ _ | with_reducible refine Ext.drew ?_ | with_reducible refine Ext.drewN ?_ _ | with_reducible refine Ext.trans ?_ (by assumption) | (dsimp only; omega)))
  case e2 => exact heap_alloc_new w1 _
  case e3 => exact blk_ext B1.out (ext_alloc1 _ _)
  case e4 => exact blk_ext B2.out (ext_alloc1 _ _)
  case e5 => exact blk_ext B3.out (ext_alloc1 _ _)
  rintro e w2 ⟨⟨r, rfl, hL⟩, hE2⟩
  have HL := hid hL
  have hr1 : r ≤ d + 1 := hL.1
  have hE3 : Ext w w2 := by (repeat' (first | with_reducible assumption | with_reducible exact Ext.refl _ | with_reducible refine Ext.alloc ?_ _ | with_reducible refine Ext.set ?_ ?_ _ | with_reducible refine Ext.drew ?_ | with_reducible refine Ext.drewN ?_ _ | with_reducible refine Ext.trans ?_ (by assumption) | (dsimp only; omega)))
  clear hL q3 z3 B1 B2 B3 hE2
  by_cases hr : r = 0
  · have HR := hid hr
    subst hr
    go_wp2
    go_ret2
    exact ⟨⟨0, HL.out, rfl⟩, hE3⟩
  · have hr0 : (1 : Int) ≤ (r : Int) := by omega
    have HR := hid hr
    clear hr
    go_wp2
    go_ret2
    exact ⟨⟨r, HL.out, by rw [if_neg HR.out]; rfl⟩, hE3⟩
end Go.Proofs.Ytndoghcglbpllaa
