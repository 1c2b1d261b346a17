/- Route. -/
import Derived.Test.YtndoghcglbpllaaV12
import Derived.Test.YtndoghcglbpllaaV10
import Derived.Test.YtndoghcglbpllaaV17
set_option linter.unusedSimpArgs false
set_option linter.unusedVariables false
namespace Go.Proofs.Ytndoghcglbpllaa
open Go.RowKit

/-- What Route returns, if its input is valid. -/
def RouteIs (X : Int) (xs : List Int) (w : World) (e : Ending) (w' : World) : Prop :=
  (X = 2881 ∧ e = .returned (.tuple #[.slice none 0 0, .int .i64 0, .int .i64 3]) ∧ Ext w w') ∨
  (X ≠ 2881 ∧ ∃ g cap, e = .returned (.tuple #[.slice (some ⟨g, 0, none⟩) xs.length cap, .int .i64 X, .int .i64 0]) ∧ RowAt w' g cap xs ∧ w.heap.size ≤ g ∧ Ext w w')

set_option maxRecDepth 100000 in
set_option maxHeartbeats 2000000 in
theorem routeF_ok (m g l pl ph from_ start to_ : Int) (A : Option Addr) (n c : Nat) (ps : List Pt) (hn : ps.length = n) (w : World) (hp : PathsAt w A ps) (hb : beginE m g l pl ph ps [from_, to_] [start] = 0) :
    Calls Try.prog 22 #[.agg #[.int .i64 m, .slice A n c], .agg #[.int .i64 g, .int .i64 l, .int .i64 pl, .int .i64 ph], .int .i64 from_, .int .i64 start, .int .i64 to_] w
      (RouteIs ((rows selHi g l pl ph ps m.toNat from_.toNat start (m.toNat - 1)).getD to_.toNat 0) ((routeOf g l pl ph ps m.toNat from_.toNat to_.toNat start ((rows selHi g l pl ph ps m.toNat from_.toNat start (m.toNat - 1)).getD to_.toNat 0)).map Int.ofNat) w) := by
  obtain ⟨k1, k2, k3, k4⟩ := begin_zero hb
  obtain ⟨hm1, hm2, hN⟩ := vNet_ok k1
  have ha := vParty_ok k2
  have hfr := k3 from_ (by simp)
  have hto := k3 to_ (by simp)
  have hst := k4 start (by simp)
  obtain ⟨b, off, hA, hpp⟩ := hp.open_ hn
  obtain ⟨mm, rfl⟩ : ∃ k : Nat, m = k := ⟨m.toNat, by omega⟩
  obtain ⟨fr, rfl⟩ : ∃ k : Nat, from_ = k := ⟨from_.toNat, by omega⟩
  obtain ⟨tt, rfl⟩ : ∃ k : Nat, to_ = k := ⟨to_.toNat, by omega⟩
  rw [Int.toNat_natCast] at hN
  simp only [Int.toNat_natCast]
  have HB := hid (fun (b1 b2 : Nat) (W : World) (hW : Ext w W) (h1 : IntsAt W (some ⟨b1, 0, none⟩) [(fr : Int), (tt : Int)]) (h2 : IntsAt W (some ⟨b2, 0, none⟩) [start]) => begin_ok mm g l pl ph A (some ⟨b1, 0, none⟩) (some ⟨b2, 0, none⟩) n c 2 2 1 1 ps [(fr : Int), (tt : Int)] [start] hn rfl rfl (by omega) (by omega) W (hp.ext hW) h1 h2 hb)
  have HS := hid (fun (W : World) (hE : Ext w W) => sure_any g l pl ph n c b off ps hn A mm (by omega) (by omega) hN ha fr (by omega) start hst.1 (by omega) W (fun h0 => ⟨(hA h0).1, Nat.lt_of_lt_of_le (hA h0).2 hE.size⟩)
      (fun k hk => by obtain ⟨A', c', h⟩ := hpp k hk; exact ⟨A', c', h.ext (hA (by omega)).2 hE⟩))
  have hbd := (rows_bd selHi_pos (g := g) ha hN (from_ := fr) hst.1 (by omega : start ≤ 2881) (mm - 1))
  have hlen := hbd.1
  have hX := hbd.2 tt (by omega)
  clear hbd
  obtain ⟨X, hXX⟩ : ∃ X, (rows selHi g l pl ph ps mm fr start (mm - 1)).getD tt 0 = X := ⟨_, rfl⟩
  rw [hXX] at hX ⊢
  have HR := hid (fun (W : World) (hE : Ext w W) => route_any g l pl ph n c b off ps hn A mm (by omega) (by omega) hN ha fr tt (by omega) (by omega) X start hst.1 (by omega) W (fun h0 => ⟨(hA h0).1, Nat.lt_of_lt_of_le (hA h0).2 hE.size⟩)
      (fun k hk => by obtain ⟨A', c', h⟩ := hpp k hk; exact ⟨A', c', h.ext (hA (by omega)).2 hE⟩))
  revert HS HR hXX hlen
  generalize (routeOf g l pl ph ps mm fr tt start X).map Int.ofNat = ro
  generalize rows selHi g l pl ph ps mm fr start (mm - 1) = row
  intro HS hlen hXX HR
  simp only [wbox] at HS HR
  have htt : tt < row.length := by omega
  have HXX := hid hXX
  clear hp hn hb k1 k2 k3 k4 hN ha hfr hst hA hpp hXX
  have hti0 : (0 : Int) ≤ (tt : Int) := by omega
  have hti1 : (tt : Int) < (row.length : Int) := by omega
  go_enter Try.func22, Try.ntmps22
  go_wp2_with fail
  have t1 := two_blocks ((w.alloc (.cells #[.int .i64 (mm : Int), .slice A n c] 24)).alloc (.cells #[.int .i64 g, .int .i64 l, .int .i64 pl, .int .i64 ph] 28)) (.cells #[.int .i64 (fr : Int), .int .i64 (tt : Int)] 3) (.cells #[.int .i64 start] 3)
  simp only [World.size_alloc] at t1
  refine (HB.out _ _ _ (by (repeat' (first | with_reducible assumption | with_reducible exact Ext.refl _ | with_reducible refine Ext.alloc ?_ _ | with_reducible refine Ext.set ?_ ?_ _ | with_reducible refine Ext.drew ?_ | with_reducible refine Ext.drewN ?_ _ | with_reducible refine Ext.trans ?_ (by assumption) | (dsimp only; omega)))) (ints_two_at t1.1) (ints_one_at t1.2.1)).mono ?_
  clear t1
  rintro e w1 ⟨rfl, hE⟩
  have EW : Ext w w1 := by (repeat' (first | with_reducible assumption | with_reducible exact Ext.refl _ | with_reducible refine Ext.alloc ?_ _ | with_reducible refine Ext.set ?_ ?_ _ | with_reducible refine Ext.drew ?_ | with_reducible refine Ext.drewN ?_ _ | with_reducible refine Ext.trans ?_ (by assumption) | (dsimp only; omega)))
  clear hE HB
  go_wp2_with fail
  refine (HS.out _ (by (repeat' (first | with_reducible assumption | with_reducible exact Ext.refl _ | with_reducible refine Ext.alloc ?_ _ | with_reducible refine Ext.set ?_ ?_ _ | with_reducible refine Ext.drew ?_ | with_reducible refine Ext.drewN ?_ _ | with_reducible refine Ext.trans ?_ (by assumption) | (dsimp only; omega))))).mono ?_
  rintro e w2 ⟨gr, cap, rfl, hrow, hgr, hE⟩
  (first | (have hK := KC.step (n := w1.heap.size + 1) (by with_reducible assumption) hE) | (have hK := KC.step (KC.step (n := w1.heap.size + 1) (by with_reducible assumption) (ext_alloc1 _ _)) hE) | (have hK := KC.step (KC.refl (n := w1.heap.size + 1) (by simp)) hE)); have hC := hK.cell; have hF := hK.fro; have hX := hK.ext
  have EW2 : Ext w w2 := by (repeat' (first | with_reducible assumption | with_reducible exact Ext.refl _ | with_reducible refine Ext.alloc ?_ _ | with_reducible refine Ext.set ?_ ?_ _ | with_reducible refine Ext.drew ?_ | with_reducible refine Ext.drewN ?_ _ | with_reducible refine Ext.trans ?_ (by assumption) | (dsimp only; omega)))
  have hx := hrow.cell htt
  rw [HXX.out] at hx
  clear hE hrow hX
  by_cases h9 : X = 2881
  · have H9 := hid h9
    subst h9
    go_wp2
    go_ret3
    exact .inl ⟨rfl, rfl, EW2⟩
  · have H9 := hid h9
    go_wp2_with fail
    refine (HR.out _ EW2).mono ?_
    rintro e w3 ⟨g3, cap3, rfl, hrow3, hg3, hE3⟩
    have HR3 := hid hrow3
    have EW3 : Ext w w3 := EW2.trans hE3
    have HG := hid (Nat.le_trans EW2.size hg3)
    clear hrow3 hg3 hE3
    go_wp2
    go_ret3
    exact .inr ⟨H9.out, g3, cap3, rfl, HR3.out, HG.out, EW3⟩
end Go.Proofs.Ytndoghcglbpllaa
/- The examples of the chapter. -/
set_option linter.unusedSimpArgs false
set_option linter.unusedVariables false
namespace Go.Proofs.Ytndoghcglbpllaa
open Go.RowKit

def exPs : List Pt := [⟨0, 1, 2, 100, 120, 0, 0, [(0, 2880)]⟩, ⟨1, 2, 3, 60, 90, 4, 10, [(0, 2880)]⟩, ⟨2, 3, 2, 60, 60, 0, 0, [(400, 700)]⟩, ⟨0, 3, 2, 300, 400, 0, 0, [(0, 2880)]⟩, ⟨3, 0, 2, 200, 240, 0, 0, [(0, 2880)]⟩]

set_option maxRecDepth 100000 in
set_option maxHeartbeats 2000000 in
theorem example_any (w : World) :
    Calls Try.prog 40 #[] w fun e w' => ∃ A c, e = .returned (.tuple #[.agg #[.int .i64 4, .slice A 5 c], .agg #[.int .i64 3, .int .i64 0, .int .i64 100, .int .i64 100]]) ∧ PathsAt w' A exPs ∧ Ext w w' := by
  go_enter Try.func40, Try.ntmps40
  go_wp2_with fail
  refine (span_any _ _ _).mono ?_
  rintro e w1 ⟨rfl, E1⟩
  go_wp2_with fail
  refine (span_any _ _ _).mono ?_
  rintro e w2 ⟨rfl, E2⟩
  go_wp2_with fail
  refine (span_any _ _ _).mono ?_
  rintro e w3 ⟨rfl, E3⟩
  go_wp2_with fail
  refine (span_any _ _ _).mono ?_
  rintro e w4 ⟨rfl, E4⟩
  go_wp2_with fail
  refine (span_any _ _ _).mono ?_
  rintro e w5 ⟨rfl, E5⟩
  go_wp2_with fail
  refine (span_any _ _ _).mono ?_
  rintro e w6 ⟨rfl, E6⟩
  go_wp2_with fail
  refine (span_any _ _ _).mono ?_
  rintro e w7 ⟨rfl, E7⟩
  go_wp2_with fail
  refine (span_any _ _ _).mono ?_
  rintro e w8 ⟨rfl, E8⟩
  go_wp2_with fail
  refine (span_any _ _ _).mono ?_
  rintro e w9 ⟨rfl, E9⟩
  have x := two_blocks w (.cells #[.int .i64 0, .slice none 0 0] 24) (.cells #[.int .i64 0, .int .i64 0, .int .i64 0, .int .i64 0] 28)
  have e19 : Ext (w1.alloc (.cells #[.int .i64 0, .int .i64 2880] 26)) w9 := E2.trans (E3.trans (E4.trans (E5.trans (E6.trans ((ext_alloc1 _ _).trans (E7.trans (E8.trans ((ext_alloc1 _ _).trans E9))))))))
  have e69 := E7.trans (E8.trans ((ext_alloc1 _ _).trans E9))
  have s1 := E1.size
  have s2 := (ext_alloc1 w1 (.cells #[.int .i64 0, .int .i64 2880] 26)).size
  have s2' := E2.size
  have s3 := (E3.trans (E4.trans (E5.trans E6))).size
  have s6 := (E7.trans E8).size
  have s9 := E9.size
  simp only [World.size_alloc] at s1 s2 s2' s6 s9
  have X0 := hid (blk_ext x.1 (E1.trans ((ext_alloc1 _ _).trans e19)))
  have X1 := hid (blk_ext x.2.1 (E1.trans ((ext_alloc1 _ _).trans e19)))
  have Y1 := hid (blk_ext (heap_alloc_new w1 _) e19)
  have Y2 := hid (blk_ext (heap_alloc_new w6 _) e69)
  have YP := hid (blk_ext (heap_alloc_new w8 _) E9)
  have EW : Ext w w9 := ((ext_alloc1 _ _).trans ((ext_alloc1 _ _).trans (E1.trans ((ext_alloc1 _ _).trans e19))))
  clear E1 E2 E3 E4 E5 E6 E7 E8 E9 e19 e69 x
  have q00 := blk_cell X0.out 0
  have q01 := blk_cell X0.out 1
  have q10 := blk_cell X1.out 0
  have q11 := blk_cell X1.out 1
  have q12 := blk_cell X1.out 2
  have q13 := blk_cell X1.out 3
  have f00 := blk_fro X0.out 0
  have f01 := blk_fro X0.out 1
  have f10 := blk_fro X1.out 0
  have f11 := blk_fro X1.out 1
  have f12 := blk_fro X1.out 2
  have f13 := blk_fro X1.out 3
  simp only [List.getElem?_toArray, List.getElem?_cons_zero, List.getElem?_cons_succ] at q00 q01 q10 q11 q12 q13
  have z0 : w.heap.size < w9.heap.size := by omega
  have z1 : w.heap.size + 1 < w9.heap.size := by omega
  go_wp2
  obtain ⟨wf, hwf⟩ : ∃ wf, ((((((w9.setCell ⟨w.heap.size, 0, none⟩ (.int .i64 4)).setCell ⟨w.heap.size, 1, none⟩ (.slice (some ⟨w8.heap.size, 0, none⟩) 5 5)).setCell ⟨w.heap.size + 1, 0, none⟩ (.int .i64 3)).setCell ⟨w.heap.size + 1, 1, none⟩ (.int .i64 0)).setCell ⟨w.heap.size + 1, 2, none⟩ (.int .i64 100)).setCell ⟨w.heap.size + 1, 3, none⟩ (.int .i64 100)) = wf := ⟨_, rfl⟩
  have hf : ∀ q, q ≠ w.heap.size → q ≠ w.heap.size + 1 → wf.heap[q]? = w9.heap[q]? := fun q h0 h1 => by
    rw [← hwf]
    exact (Below.heap_setCell _ _ _ q h1).trans ((Below.heap_setCell _ _ _ q h1).trans ((Below.heap_setCell _ _ _ q h1).trans ((Below.heap_setCell _ _ _ q h1).trans ((Below.heap_setCell _ _ _ q h0).trans (Below.heap_setCell _ _ _ q h0)))))
  have EF : Ext w wf := by
    rw [← hwf]
    exact (((((EW.set (by dsimp only; omega) _).set (by dsimp only; omega) _).set (by dsimp only; omega) _).set (by dsimp only; omega) _).set (by dsimp only; omega) _).set (by dsimp only; omega) _
  have sf : wf.heap.size = w9.heap.size := by rw [← hwf]; simp
  have P1 := (hf _ (by omega) (by omega)).trans Y1.out
  have P2 := (hf _ (by omega) (by omega)).trans Y2.out
  have PP := (hf _ (by omega) (by omega)).trans YP.out
  have O1 : OpensAt wf (some ⟨w1.heap.size, 0, none⟩) [(0, 2880)] := fun _ => ⟨_, _, rfl, by omega, fun k hk => by
    obtain rfl : k = 0 := by simpa using hk
    exact ⟨blk_cell P1 0, blk_cell P1 1⟩⟩
  have O2 : OpensAt wf (some ⟨w6.heap.size, 0, none⟩) [(400, 700)] := fun _ => ⟨_, _, rfl, by omega, fun k hk => by
    obtain rfl : k = 0 := by simpa using hk
    exact ⟨blk_cell P2 0, blk_cell P2 1⟩⟩
  have hall : PathsAt wf (some ⟨w8.heap.size, 0, none⟩) exPs := fun _ => ⟨_, _, rfl, by omega, fun k hk => by
    have hk5 : k = 0 ∨ k = 1 ∨ k = 2 ∨ k = 3 ∨ k = 4 := by simp [exPs] at hk; omega
    rcases hk5 with rfl | rfl | rfl | rfl | rfl
    · exact ⟨some ⟨w1.heap.size, 0, none⟩, 1, blk_cell PP 0, blk_cell PP 1, blk_cell PP 2, blk_cell PP 3, blk_cell PP 4, blk_cell PP 5, blk_cell PP 6, blk_cell PP 7, Nat.le_refl _, O1⟩
    · exact ⟨some ⟨w1.heap.size, 0, none⟩, 1, blk_cell PP 8, blk_cell PP 9, blk_cell PP 10, blk_cell PP 11, blk_cell PP 12, blk_cell PP 13, blk_cell PP 14, blk_cell PP 15, Nat.le_refl _, O1⟩
    · exact ⟨some ⟨w6.heap.size, 0, none⟩, 1, blk_cell PP 16, blk_cell PP 17, blk_cell PP 18, blk_cell PP 19, blk_cell PP 20, blk_cell PP 21, blk_cell PP 22, blk_cell PP 23, Nat.le_refl _, O2⟩
    · exact ⟨some ⟨w1.heap.size, 0, none⟩, 1, blk_cell PP 24, blk_cell PP 25, blk_cell PP 26, blk_cell PP 27, blk_cell PP 28, blk_cell PP 29, blk_cell PP 30, blk_cell PP 31, Nat.le_refl _, O1⟩
    · exact ⟨some ⟨w1.heap.size, 0, none⟩, 1, blk_cell PP 32, blk_cell PP 33, blk_cell PP 34, blk_cell PP 35, blk_cell PP 36, blk_cell PP 37, blk_cell PP 38, blk_cell PP 39, Nat.le_refl _, O1⟩⟩
  have HALL := hid hall
  have HEF := hid EF
  clear hall O1 O2 PP P1 P2 hf EF sf
  exact bodyPost_ret (v := .tuple #[.agg #[.int .i64 4, .slice (some ⟨w8.heap.size, 0, none⟩) 5 5], .agg #[.int .i64 3, .int .i64 0, .int .i64 100, .int .i64 100]]) (by simp [results, Try.results40, go_sem, q00, q01, q10, q11, q12, q13]) rfl ⟨_, _, rfl, hwf ▸ HALL.out, hwf ▸ HEF.out⟩
end Go.Proofs.Ytndoghcglbpllaa
/- works. -/
set_option linter.unusedSimpArgs false
set_option linter.unusedVariables false
namespace Go.Proofs.Ytndoghcglbpllaa
open Go.RowKit
theorem ex_begin1 : beginE 4 3 0 100 100 exPs [0, 3] [400] = 0 := by kernel_rfl
theorem ex_begin2 : beginE 4 3 0 100 100 exPs [0, 3] [900] = 0 := by kernel_rfl
theorem ex_sure : (rows selHi 3 0 100 100 exPs 4 0 400 3).getD 3 0 = 715 := by kernel_rfl
theorem ex_route : (routeOf 3 0 100 100 exPs 4 0 3 400 715).map Int.ofNat = [0, 1, 2] := by kernel_rfl
theorem ex_late0 : isLate 3 0 100 100 exPs 4 0 3 900 500 = false := by kernel_rfl
theorem ex_late1 : isLate 3 0 100 100 exPs 4 0 3 900 501 = true := by kernel_rfl

theorem ex_routeF (A : Option Addr) (c : Nat) (w : World) (hp : PathsAt w A exPs) : Calls Try.prog 22 #[.agg #[.int .i64 4, .slice A 5 c], .agg #[.int .i64 3, .int .i64 0, .int .i64 100, .int .i64 100], .int .i64 0, .int .i64 400, .int .i64 3] w fun e w' =>
    ∃ g cap, e = .returned (.tuple #[.slice (some ⟨g, 0, none⟩) 3 cap, .int .i64 715, .int .i64 0]) ∧ IntsAt w' (some ⟨g, 0, none⟩) [0, 1, 2] ∧ Ext w w' := by
  refine (routeF_ok 4 3 0 100 100 0 400 3 A 5 c exPs rfl w hp ex_begin1).mono ?_
  have h1 : (rows selHi 3 0 100 100 exPs (Int.toNat 4) (Int.toNat 0) 400 (Int.toNat 4 - 1)).getD (Int.toNat 3) 0 = 715 := ex_sure
  rw [h1]
  have h2 : (routeOf 3 0 100 100 exPs (Int.toNat 4) (Int.toNat 0) (Int.toNat 3) 400 715).map Int.ofNat = [0, 1, 2] := ex_route
  rw [h2]
  rintro e w' (⟨h, _⟩ | ⟨_, g, cap, rfl, hr, _, hE⟩)
  · exact absurd h (by decide)
  · exact ⟨g, cap, rfl, hr.ints, hE⟩
theorem ex_latest (A : Option Addr) (c : Nat) (w : World) (hp : PathsAt w A exPs) : Calls Try.prog 24 #[.agg #[.int .i64 4, .slice A 5 c], .agg #[.int .i64 3, .int .i64 0, .int .i64 100, .int .i64 100], .int .i64 0, .int .i64 3, .int .i64 900] w fun e w' =>
    e = .returned (.tuple #[.int .i64 500, .int .i64 0]) ∧ Ext w w' := by
  refine (latest_ok 4 3 0 100 100 0 3 900 A 5 c exPs rfl w hp ex_begin2).mono ?_
  rintro e w' ⟨⟨r, hL, rfl⟩, hE⟩
  obtain ⟨h1, h2, h3⟩ : Least 901 (isLate 3 0 100 100 exPs 4 0 3 900) r := hL
  have a1 : ¬ r < 501 := fun h => by
    have := h3 500 (by omega) (by omega)
    rw [ex_late0] at this
    cases this
  have a2 : ¬ 501 < r := fun h => by
    have := h2 501 h
    rw [ex_late1] at this
    cases this
  obtain rfl : r = 501 := by omega
  exact ⟨rfl, hE⟩

set_option maxHeartbeats 2000000 in
theorem works_any (w : World) : Calls Try.prog 13 #[] w fun e w' => e = .returned (.bool true) ∧ Ext w w' := by
  go_enter Try.func13, Try.ntmps13
  go_wp2_with fail
  refine (example_any _).mono ?_
  rintro e w1 ⟨A, c, rfl, hp, E1⟩
  have HP := hid (fun W (hE : Ext w1 W) => hp.ext hE)
  clear hp
  go_wp2_with fail
  refine (ex_routeF _ _ _ (HP.out _ (by (repeat' (first | with_reducible assumption | with_reducible exact Ext.refl _ | with_reducible refine Ext.alloc ?_ _ | with_reducible refine Ext.set ?_ ?_ _ | with_reducible refine Ext.drew ?_ | with_reducible refine Ext.drewN ?_ _ | with_reducible refine Ext.trans ?_ (by assumption) | (dsimp only; omega)))))).mono ?_
  rintro e w2 ⟨g, cap, rfl, hr, hE⟩
  (first | (have hK := KC.step (n := w1.heap.size + 2) (by with_reducible assumption) hE) | (have hK := KC.step (KC.step (n := w1.heap.size + 2) (by with_reducible assumption) (ext_alloc1 _ _)) hE) | (have hK := KC.step (KC.refl (n := w1.heap.size + 2) (by simp)) hE)); have hC := hK.cell; have hF := hK.fro; have hX := hK.ext
  have E2 : Ext w1 w2 := by (repeat' (first | with_reducible assumption | with_reducible exact Ext.refl _ | with_reducible refine Ext.alloc ?_ _ | with_reducible refine Ext.set ?_ ?_ _ | with_reducible refine Ext.drew ?_ | with_reducible refine Ext.drewN ?_ _ | with_reducible refine Ext.trans ?_ (by assumption) | (dsimp only; omega)))
  have HR := hid hr
  have z2 := hK.size
  clear hE hr
  go_wp2_with fail
  refine (ex_latest _ _ _ (HP.out _ (by (repeat' (first | with_reducible assumption | with_reducible exact Ext.refl _ | with_reducible refine Ext.alloc ?_ _ | with_reducible refine Ext.set ?_ ?_ _ | with_reducible refine Ext.drew ?_ | with_reducible refine Ext.drewN ?_ _ | with_reducible refine Ext.trans ?_ (by assumption) | (dsimp only; omega)))))).mono ?_
  rintro e w3 ⟨rfl, hE⟩
  have E3 : Ext w2 w3 := by (repeat' (first | with_reducible assumption | with_reducible exact Ext.refl _ | with_reducible refine Ext.alloc ?_ _ | with_reducible refine Ext.set ?_ ?_ _ | with_reducible refine Ext.drew ?_ | with_reducible refine Ext.drewN ?_ _ | with_reducible refine Ext.trans ?_ (by assumption) | (dsimp only; omega)))
  have HR3 := hid (HR.out.ext E3)
  have E03 : Ext w w3 := E1.trans (E2.trans E3)
  have hnew : IntsAt (w3.alloc (.cells #[.int .i64 0, .int .i64 1, .int .i64 2] 3)) (some ⟨w3.heap.size, 0, none⟩) [0, 1, 2] := fun _ => ⟨w3.heap.size, 0, rfl, by simp, fun k hk => by
    have hk3 : k = 0 ∨ k = 1 ∨ k = 2 := by simp at hk; omega
    have h := heap_alloc_new w3 (.cells #[.int .i64 0, .int .i64 1, .int .i64 2] 3)
    rcases hk3 with rfl | rfl | rfl
    · exact blk_cell h 0
    · exact blk_cell h 1
    · exact blk_cell h 2⟩
  have HNEW := hid hnew
  clear hE HR hnew HP hK hC hF hX z2 E1 E2 E3
  go_wp2_with fail
  refine (sameInts_any _ _ 3 3 cap 3 [0, 1, 2] [0, 1, 2] rfl rfl (by omega) (by omega) _ (HR3.out.ext (ext_alloc1 _ _)) HNEW.out).mono ?_
  rintro e w4 ⟨rfl, hE⟩
  have E4 : Ext w w4 := E03.trans ((ext_alloc1 _ _).trans hE)
  rw [decide_eq_true rfl]
  clear hE
  go_wp2
  go_ret
  exact ⟨rfl, E4⟩
end Go.Proofs.Ytndoghcglbpllaa
/- Appending numbers to an empty slice. -/
set_option linter.unusedSimpArgs false
set_option linter.unusedVariables false
namespace Go.Proofs.Ytndoghcglbpllaa
open Go.RowKit
theorem run_append_noint (z : Nat) (A : Option Addr) (c : Nat) (ty : TypeId) (w : World) : (Builtin.append_ #[29, 29] ty #[.slice (some ⟨z, 0, none⟩) 0 0, .slice A 0 c]).run Try.prog w = .ok (.slice (some ⟨z, 0, none⟩) 0 0) w := by
  obtain ⟨i0, hi, hz0, hz1, hz2⟩ := info_parts info3
  cases A with
  | none => simp [Builtin.append_, run_underlying Try.underlying29, sizeOf, typeInfo, hi, Builtin.lenOf, Builtin.firstCells, loadCells, loadCellsFrom, storeCells]
  | some ad => simp [Builtin.append_, run_underlying Try.underlying29, sizeOf, typeInfo, hi, Builtin.lenOf, Builtin.firstCells, loadCells, loadCellsFrom, storeCells]
set_option maxRecDepth 100000 in
theorem wp_append_all {P : Program} {o : Oper} {a : Act} {K : Act → World → Prop} {Q : Exit → Act → World → Prop} (w : World) (hP : P = Try.prog) (s x : Operand)
    (ho : o.op = .call { callee := .builtin .append, args := #[s, x], argTypes := #[29, 29] }) (z : Nat) (A : Option Addr) (c : Nat) (xs : List Int) (hs : a.eval s = .slice (some ⟨z, 0, none⟩) 0 0) (hz : w.heap[z]? = some (.cells #[] 3 (0, 0)))
    (hx : a.eval x = .slice A xs.length c) (hO : IntsAt w A xs) (hl : xs.length ≤ 1000)
    (h : ∀ A' c' w', IntsAt w' A' xs → w.grownBy w' (some z) → K (a.put o.dst (.slice A' xs.length c')) w') : o.wp P a w K Q := by
  subst hP
  have hlt := (Array.getElem?_eq_some_iff.1 hz).1
  by_cases h0 : xs = []
  · subst h0
    have hr := run_append_noint z A c o.type w
    unfold Oper.wp execOp
    simp only [ho, resolve, invoke, builtin, Sem.run_bind, Sem.run_pure, Result.andThen_ok, List.map_toArray, List.map_cons, List.map_nil, hs, hx, List.length_nil, hr]
    exact h (some ⟨z, 0, none⟩) 0 w (fun hne => absurd rfl hne) ⟨rfl, rfl, rfl, Nat.le_refl _, fun _ _ _ => rfl⟩
  · obtain ⟨b, off, rfl, hb, hc⟩ := hO h0
    obtain ⟨i0, hi, hz0, hz1, hz2⟩ := info_parts info3
    have hcell : ∀ j u, (ints xs)[j]? = some u → w.cell? (Addr.add ⟨b, off, none⟩ j) = some u := by
      intro j u hj
      have hjl : j < xs.length := by
        have := (List.getElem?_eq_some_iff.1 hj).1
        simpa [ints] using this
      rw [ints_getD xs j hjl] at hj
      injection hj with hj
      subst hj
      rw [show Addr.add ⟨b, off, none⟩ j = ⟨b, off + j, none⟩ from by unfold Addr.add; split <;> simp_all]
      exact hc j hjl
    refine wp_append_own w s x 29 ho z 3 i0 (.int .i64 0) 1 8 Try.underlying29 hi hz0 hz1 hz2 rfl (by decide) (.slice (some ⟨z, 0, none⟩) 0 0) 0 [] hs ⟨rfl, .inr ⟨z, 0, #[], rfl, Nat.le_refl _, hz, Nat.le_refl _, Nat.zero_le _, rfl, rfl⟩⟩ ⟨b, off, none⟩ xs.length c (ints xs) hx (by simp [ints]) hcell (ints_one xs) (by unfold maxLen; omega) (by omega) (by omega) (fun v' w' h1 h2 h3 => ?_)
    rw [Nat.zero_add, List.nil_append] at h1
    have hpos : 0 < xs.length := List.length_pos_iff.2 h0
    obtain ⟨g, cap, rfl, hg, hrow⟩ := row_of_own h1 hpos
    exact h (some ⟨g, 0, none⟩) cap w' hrow.ints h2
set_option maxRecDepth 100000 in
theorem wp_append_allO {P : Program} {o : Oper} {a : Act} {K : Act → World → Prop} {Q : Exit → Act → World → Prop} (w : World) (hP : P = Try.prog) (s x : Operand)
    (ho : o.op = .call { callee := .builtin .append, args := #[s, x], argTypes := #[29, 29] }) (z : Nat) (A : Option Addr) (c : Nat) (xs : List Int) (hs : a.eval s = .slice (some ⟨z, 0, none⟩) 0 0) (hz : w.heap[z]? = some (.cells #[] 3 (0, 0)))
    (hx : a.eval x = .slice A xs.length c) (hO : IntsAt w A xs) (hl : xs.length ≤ 1000)
    (h : ∀ v' w', OwnAt w' z v' xs → w.grownBy w' (some z) → K (a.put o.dst v') w') : o.wp P a w K Q := by
  subst hP
  have hlt := (Array.getElem?_eq_some_iff.1 hz).1
  by_cases h0 : xs = []
  · subst h0
    have hr := run_append_noint z A c o.type w
    unfold Oper.wp execOp
    simp only [ho, resolve, invoke, builtin, Sem.run_bind, Sem.run_pure, Result.andThen_ok, List.map_toArray, List.map_cons, List.map_nil, hs, hx, List.length_nil, hr]
    exact h (.slice (some ⟨z, 0, none⟩) 0 0) w ⟨rfl, .inr ⟨z, 0, #[], rfl, Nat.le_refl _, hz, Nat.le_refl _, Nat.zero_le _, rfl, rfl⟩⟩ ⟨rfl, rfl, rfl, Nat.le_refl _, fun _ _ _ => rfl⟩
  · obtain ⟨b, off, rfl, hb, hc⟩ := hO h0
    obtain ⟨i0, hi, hz0, hz1, hz2⟩ := info_parts info3
    have hcell : ∀ j u, (ints xs)[j]? = some u → w.cell? (Addr.add ⟨b, off, none⟩ j) = some u := by
      intro j u hj
      have hjl : j < xs.length := by
        have := (List.getElem?_eq_some_iff.1 hj).1
        simpa [ints] using this
      rw [ints_getD xs j hjl] at hj
      injection hj with hj
      subst hj
      rw [show Addr.add ⟨b, off, none⟩ j = ⟨b, off + j, none⟩ from by unfold Addr.add; split <;> simp_all]
      exact hc j hjl
    refine wp_append_own w s x 29 ho z 3 i0 (.int .i64 0) 1 8 Try.underlying29 hi hz0 hz1 hz2 rfl (by decide) (.slice (some ⟨z, 0, none⟩) 0 0) 0 [] hs ⟨rfl, .inr ⟨z, 0, #[], rfl, Nat.le_refl _, hz, Nat.le_refl _, Nat.zero_le _, rfl, rfl⟩⟩ ⟨b, off, none⟩ xs.length c (ints xs) hx (by simp [ints]) hcell (ints_one xs) (by unfold maxLen; omega) (by omega) (by omega) (fun v' w' h1 h2 h3 => ?_)
    rw [Nat.zero_add, List.nil_append] at h1
    exact h v' w' h1 h2
end Go.Proofs.Ytndoghcglbpllaa
