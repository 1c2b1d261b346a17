/- Route. -/
import Derived.Test.YtndoghcglbpllaaRoute
import Derived.Test.YtndoghcglbpllaaLatest
set_option linter.unusedSimpArgs false
set_option linter.unusedVariables false
namespace Go.Proofs.Ytndoghcglbpllaa
open Go.RowKit

/-- What Route returns, if its input is valid. -/
def RouteIs (X : Int) (xs : List Int) (w : World) (e : Ending) (w' : World) : Prop :=
  (X = 2881 ∧ e = .returned (.tuple #[.slice none 0 0, .int .i64 0, .int .i64 3]) ∧ Ext w w') ∨
  (X ≠ 2881 ∧ ∃ g cap, e = .returned (.tuple #[.slice (some ⟨g, 0, none⟩) xs.length cap, .int .i64 X, .int .i64 0]) ∧ RowAt w' g cap xs ∧ w.heap.size ≤ g ∧ Ext w w')

set_option maxRecDepth 100000 in
set_option maxHeartbeats 2000000 in
theorem routeF_ok (m g l pl ph from_ start to_ : Int) (A : Option Addr) (n c : Nat) (ps : List Pt) (hn : ps.length = n) (w : World) (hp : PathsAt w A ps) (hb : beginE m g l pl ph ps [from_, to_] [start] = 0) :
    Calls Try.prog 22 #[.agg #[.int .i64 m, .slice A n c], .agg #[.int .i64 g, .int .i64 l, .int .i64 pl, .int .i64 ph], .int .i64 from_, .int .i64 start, .int .i64 to_] w
      (RouteIs ((rows selHi g l pl ph ps m.toNat from_.toNat start (m.toNat - 1)).getD to_.toNat 0) ((routeOf g l pl ph ps m.toNat from_.toNat to_.toNat start ((rows selHi g l pl ph ps m.toNat from_.toNat start (m.toNat - 1)).getD to_.toNat 0)).map Int.ofNat) w) := by
  obtain ⟨k1, k2, k3, k4⟩ := begin_zero hb
  obtain ⟨hm1, hm2, hN⟩ := vNet_ok k1
  have ha := vParty_ok k2
  have hfr := k3 from_ (by simp)
  have hto := k3 to_ (by simp)
  have hst := k4 start (by simp)
  obtain ⟨b, off, hA, hpp⟩ := hp.open_ hn
  obtain ⟨mm, rfl⟩ : ∃ k : Nat, m = k := ⟨m.toNat, by omega⟩
  obtain ⟨fr, rfl⟩ : ∃ k : Nat, from_ = k := ⟨from_.toNat, by omega⟩
  obtain ⟨tt, rfl⟩ : ∃ k : Nat, to_ = k := ⟨to_.toNat, by omega⟩
  rw [Int.toNat_natCast] at hN
  simp only [Int.toNat_natCast]
  have HB := hid (fun (b1 b2 : Nat) (W : World) (hW : Ext w W) (h1 : IntsAt W (some ⟨b1, 0, none⟩) [(fr : Int), (tt : Int)]) (h2 : IntsAt W (some ⟨b2, 0, none⟩) [start]) => begin_ok mm g l pl ph A (some ⟨b1, 0, none⟩) (some ⟨b2, 0, none⟩) n c 2 2 1 1 ps [(fr : Int), (tt : Int)] [start] hn rfl rfl (by omega) (by omega) W (hp.ext hW) h1 h2 hb)
  have HS := hid (fun (W : World) (hE : Ext w W) => sure_any g l pl ph n c b off ps hn A mm (by omega) (by omega) hN ha fr (by omega) start hst.1 (by omega) W (fun h0 => ⟨(hA h0).1, Nat.lt_of_lt_of_le (hA h0).2 hE.size⟩)
      (fun k hk => by obtain ⟨A', c', h⟩ := hpp k hk; exact ⟨A', c', h.ext (hA (by omega)).2 hE⟩))
  have hbd := (rows_bd selHi_pos (g := g) ha hN (from_ := fr) hst.1 (by omega : start ≤ 2881) (mm - 1))
  have hlen := hbd.1
  have hX := hbd.2 tt (by omega)
  clear hbd
  obtain ⟨X, hXX⟩ : ∃ X, (rows selHi g l pl ph ps mm fr start (mm - 1)).getD tt 0 = X := ⟨_, rfl⟩
  rw [hXX] at hX ⊢
  have HR := hid (fun (W : World) (hE : Ext w W) => route_any g l pl ph n c b off ps hn A mm (by omega) (by omega) hN ha fr tt (by omega) (by omega) X start hst.1 (by omega) W (fun h0 => ⟨(hA h0).1, Nat.lt_of_lt_of_le (hA h0).2 hE.size⟩)
      (fun k hk => by obtain ⟨A', c', h⟩ := hpp k hk; exact ⟨A', c', h.ext (hA (by omega)).2 hE⟩))
  revert HS HR hXX hlen
  generalize (routeOf g l pl ph ps mm fr tt start X).map Int.ofNat = ro
  generalize rows selHi g l pl ph ps mm fr start (mm - 1) = row
  intro HS hlen hXX HR
  simp only [wbox] at HS HR
  have htt : tt < row.length := by omega
  have HXX := hid hXX
  clear hp hn hb k1 k2 k3 k4 hN ha hfr hst hA hpp hXX
  have hti0 : (0 : Int) ≤ (tt : Int) := by omega
  have hti1 : (tt : Int) < (row.length : Int) := by omega
  go_enter Try.func22, Try.ntmps22
  go_wp2_with fail
  have t1 := two_blocks ((w.alloc (.cells #[.int .i64 (mm : Int), .slice A n c] 24)).alloc (.cells #[.int .i64 g, .int .i64 l, .int .i64 pl, .int .i64 ph] 28)) (.cells #[.int .i64 (fr : Int), .int .i64 (tt : Int)] 3) (.cells #[.int .i64 start] 3)
  simp only [World.size_alloc] at t1
  refine (HB.out _ _ _ (by (repeat' (first | with_reducible assumption | with_reducible exact Ext.refl _ | with_reducible refine Ext.alloc ?_ _ | with_reducible refine Ext.set ?_ ?_ _ | with_reducible refine Ext.drew ?_ | with_reducible refine Ext.drewN ?_ _ | with_reducible refine Ext.trans ?_ (by assumption) | (dsimp only; omega)))) (ints_two_at t1.1) (ints_one_at t1.2.1)).mono ?_
  clear t1
  rintro e w1 ⟨rfl, hE⟩
  have EW : Ext w w1 := by (repeat' (first | with_reducible assumption | with_reducible exact Ext.refl _ | with_reducible refine Ext.alloc ?_ _ | with_reducible refine Ext.set ?_ ?_ _ | with_reducible refine Ext.drew ?_ | with_reducible refine Ext.drewN ?_ _ | with_reducible refine Ext.trans ?_ (by assumption) | (dsimp only; omega)))
  clear hE HB
  go_wp2_with fail
  refine (HS.out _ (by (repeat' (first | with_reducible assumption | with_reducible exact Ext.refl _ | with_reducible refine Ext.alloc ?_ _ | with_reducible refine Ext.set ?_ ?_ _ | with_reducible refine Ext.drew ?_ | with_reducible refine Ext.drewN ?_ _ | with_reducible refine Ext.trans ?_ (by assumption) | (dsimp only; omega))))).mono ?_
  rintro e w2 ⟨gr, cap, rfl, hrow, hgr, hE⟩
  (first | (have hK := KC.step (n := w1.heap.size + 1) (by with_reducible assumption) hE) | (have hK := KC.step (KC.step (n := w1.heap.size + 1) (by with_reducible assumption) (ext_alloc1 _ _)) hE) | (have hK := KC.step (KC.refl (n := w1.heap.size + 1) (by simp)) hE)); have hC := hK.cell; have hF := hK.fro; have hX := hK.ext
  have EW2 : Ext w w2 := by (repeat' (first | with_reducible assumption | with_reducible exact Ext.refl _ | with_reducible refine Ext.alloc ?_ _ | with_reducible refine Ext.set ?_ ?_ _ | with_reducible refine Ext.drew ?_ | with_reducible refine Ext.drewN ?_ _ | with_reducible refine Ext.trans ?_ (by assumption) | (dsimp only; omega)))
  have hx := hrow.cell htt
  rw [HXX.out] at hx
  clear hE hrow hX
  by_cases h9 : X = 2881
  · have H9 := hid h9
    subst h9
    go_wp2
    go_ret3
    exact .inl ⟨rfl, rfl, EW2⟩
  · have H9 := hid h9
    go_wp2_with fail
    refine (HR.out _ EW2).mono ?_
    rintro e w3 ⟨g3, cap3, rfl, hrow3, hg3, hE3⟩
    have HR3 := hid hrow3
    have EW3 : Ext w w3 := EW2.trans hE3
    have HG := hid (Nat.le_trans EW2.size hg3)
    clear hrow3 hg3 hE3
    go_wp2
    go_ret3
    exact .inr ⟨H9.out, g3, cap3, rfl, HR3.out, HG.out, EW3⟩
end Go.Proofs.Ytndoghcglbpllaa
