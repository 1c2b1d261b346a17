/- Turn, if its input is valid. -/
import Derived.Test.YtndoghcglbpllaaV19
import Derived.Test.YtndoghcglbpllaaV10
import Derived.Test.YtndoghcglbpllaaV24
import Derived.Test.YtndoghcglbpllaaV17
set_option linter.unusedSimpArgs false
set_option linter.unusedVariables false
namespace Go.Proofs.Ytndoghcglbpllaa
open Go.RowKit
/-- The first number that is so, or none. -/
def First (n : Nat) (p : Nat → Bool) (r : Nat) : Prop := r ≤ n ∧ (∀ x, x < r → p x = false) ∧ (r < n → p r = true)
/-- Whether one is late after the first paths of a route. -/
def lateAt (g l pl ph : Int) (ps : List Pt) (m : Nat) (from_ : Int) (r : List Int) (s : Int) (home : Nat) (D : Int) (k : Nat) : Bool :=
  decide (D < (rows selHi g l pl ph ps m (stopAt ps from_ r k).toNat (minAt selHi l pl ph ps s r k) (m - 1)).getD home 0)
def TurnIs (n : Nat) (p : Nat → Bool) (w : World) (e : Ending) (w' : World) : Prop :=
  (∃ r : Nat, First n p r ∧ e = .returned (.tuple #[.int .i64 ((r : Int) - 1), .int .i64 0])) ∧ Ext w w'

set_option maxRecDepth 100000 in
set_option maxHeartbeats 4000000 in
theorem turn_ok (m g l pl ph from_ s home D : Int) (A : Option Addr) (n c : Nat) (ps : List Pt) (hn : ps.length = n) (RA : Option Addr) (rn rc : Nat) (r : List Int) (hrn : r.length = rn) (hr : RouteOk g ps from_ r) (w : World) (hp : PathsAt w A ps) (hR : IntsAt w RA r) (hb : beginE m g l pl ph ps [from_, home] [s, D] = 0) :
    Calls Try.prog 30 #[.agg #[.int .i64 m, .slice A n c], .agg #[.int .i64 g, .int .i64 l, .int .i64 pl, .int .i64 ph], .slice RA rn rc, .int .i64 from_, .int .i64 s, .int .i64 home, .int .i64 D] w
      (TurnIs (rn + 1) (lateAt g l pl ph ps m.toNat from_ r s home.toNat D) w) := by
  obtain ⟨k1, k2, k3, k4⟩ := begin_zero hb
  obtain ⟨hm1, hm2, hN⟩ := vNet_ok k1
  have ha := vParty_ok k2
  have hfr := k3 from_ (by simp)
  have hto := k3 home (by simp)
  have hst := k4 s (by simp)
  have hDt := k4 D (by simp)
  have hn24 := hN.len
  have hr30 := hr.len
  obtain ⟨b, off, hA, hpp⟩ := hp.open_ hn
  obtain ⟨mm, rfl⟩ : ∃ k : Nat, m = k := ⟨m.toNat, by omega⟩
  obtain ⟨tt, rfl⟩ : ∃ k : Nat, home = k := ⟨home.toNat, by omega⟩
  rw [Int.toNat_natCast] at hN
  simp only [Int.toNat_natCast]
  have hstop := fun k (hk : k ≤ rn) => hr.stop hN hfr.1 hfr.2 k (by omega)
  have hmin := fun k (hk : k ≤ rn) => minAt_ge selHi_pos ha hN hst.1 (by omega : s ≤ 2881) (r := r) (fun j hj => ⟨hr.lo j hj, hr.hi j hj⟩) k (by omega)
  have hrn30 : rn ≤ 30 := by omega
  have HB := hid (fun (b1 b2 : Nat) (W : World) (hW : Ext w W) (h1 : IntsAt W (some ⟨b1, 0, none⟩) [from_, (tt : Int)]) (h2 : IntsAt W (some ⟨b2, 0, none⟩) [s, D]) => begin_ok mm g l pl ph A (some ⟨b1, 0, none⟩) (some ⟨b2, 0, none⟩) n c 2 2 2 2 ps [from_, (tt : Int)] [s, D] hn rfl rfl (by omega) (by omega) W (hp.ext hW) h1 h2 hb)
  have HCW := hid (fun (W : World) (hW : Ext w W) => canWalk_yes mm g l pl ph from_ A n c ps hn (by omega) RA rn rc r hrn hr W (hp.ext hW) (hR.ext hW))
  have HL := hid (fun (k : Nat) (hk : k ≤ rn) (q0 q2 q3 : Nat) (W : World) (hW : Ext w W) b0 b2 b3 => (show Calls Try.prog 68 #[.int .i64 (stopAt ps from_ r k), .int .i64 (minAt selHi l pl ph ps s r k), .pointer (some ⟨q0, 0, none⟩), .pointer (some ⟨q2, 0, none⟩), .pointer (some ⟨q3, 0, none⟩)] W fun e w' => e = .returned (.bool (lateAt g l pl ph ps mm from_ r s tt D k)) ∧ Ext W w' from by
    have h := turn1_any g l pl ph n c b off ps hn A mm (by omega) (by omega) hN ha (stopAt ps from_ r k).toNat tt (by have := hstop k hk; omega) (by omega) D (minAt selHi l pl ph ps s r k) (hmin k hk).1 (hmin k hk).2 W (fun h0 => ⟨(hA h0).1, Nat.lt_of_lt_of_le (hA h0).2 hW.size⟩)
      (fun k hk => by obtain ⟨A', c', h⟩ := hpp k hk; exact ⟨A', c', h.ext (hA (by omega)).2 hW⟩) q0 q2 q3 b0 b2 b3
    rw [Int.toNat_of_nonneg (hstop k hk).1] at h
    exact h))
  have HAR := hid (fun (k : Nat) (hk : k < rn) (v1 v2 : Value) (A' : Option Addr) (c' : Nat) (W : World) (ho : OpensAt W A' (ps.getD (r.getD k 0).toNat zeroPt).opens) =>
    arrival_sure (ps.getD (r.getD k 0).toNat zeroPt) g l pl ph v1 v2 A' c' (hN.ok _ (by have := hr.hi k (by omega); have := hr.lo k (by omega); omega)) ha (minAt selHi l pl ph ps s r k) (hmin k (by omega)).1 (hmin k (by omega)).2 W ho)
  have HMS := hid (fun k => (show minAt selHi l pl ph ps s r (k + 1) = arrive selHi l pl ph (ps.getD (r.getD k 0).toNat zeroPt) (minAt selHi l pl ph ps s r k) from rfl))
  have HSS := hid (fun k => (show stopAt ps from_ r (k + 1) = (ps.getD (r.getD k 0).toNat zeroPt).dst from rfl))
  have HM0 := hid (show minAt selHi l pl ph ps s r 0 = s from rfl)
  have HS0 := hid (show stopAt ps from_ r 0 = from_ from rfl)
  have HLO := hid hr.lo
  have HHI := hid hr.hi
  have HP := hid hp
  have HR := hid hR
  have HN := hid hn
  have HRN := hid hrn
  revert HL HAR HMS HSS HM0 HS0
  generalize lateAt g l pl ph ps mm from_ r s tt D = late
  generalize minAt selHi l pl ph ps s r = mi
  generalize stopAt ps from_ r = st
  intro HL HAR HMS HSS HM0 HS0
  clear hp hn hb k1 k2 k3 k4 hN ha hfr hto hst hDt hA hpp hR hrn hr hstop hmin
  simp only [wbox] at HCW
  go_enter Try.func30, Try.ntmps30
  go_wp2_with fail
  have t0 := two_blocks ((w.alloc (.cells #[.int .i64 (mm : Int), .slice A n c] 24)).alloc (.cells #[.int .i64 g, .int .i64 l, .int .i64 pl, .int .i64 ph] 28)) (.cells #[.int .i64 (tt : Int)] 3) (.cells #[.int .i64 D] 3)
  have t1 := two_blocks ((((w.alloc (.cells #[.int .i64 (mm : Int), .slice A n c] 24)).alloc (.cells #[.int .i64 g, .int .i64 l, .int .i64 pl, .int .i64 ph] 28)).alloc (.cells #[.int .i64 (tt : Int)] 3)).alloc (.cells #[.int .i64 D] 3)) (.cells #[.int .i64 from_, .int .i64 (tt : Int)] 3) (.cells #[.int .i64 s, .int .i64 D] 3)
  simp only [World.size_alloc] at t0 t1
  refine (HB.out _ _ _ (by (repeat' (first | with_reducible assumption | with_reducible exact Ext.refl _ | with_reducible refine Ext.alloc ?_ _ | with_reducible refine Ext.set ?_ ?_ _ | with_reducible refine Ext.drew ?_ | with_reducible refine Ext.drewN ?_ _ | with_reducible refine Ext.trans ?_ (by assumption) | (dsimp only; omega)))) (ints_two_at t1.1) (ints_two_at t1.2.1)).mono ?_
  clear t1
  rintro e w1 ⟨rfl, hE⟩
  have EW : Ext w w1 := by (repeat' (first | with_reducible assumption | with_reducible exact Ext.refl _ | with_reducible refine Ext.alloc ?_ _ | with_reducible refine Ext.set ?_ ?_ _ | with_reducible refine Ext.drew ?_ | with_reducible refine Ext.drewN ?_ _ | with_reducible refine Ext.trans ?_ (by assumption) | (dsimp only; omega)))
  have B2 := hid (blk_ext t0.1 (Ext.trans (by (repeat' (first | with_reducible assumption | with_reducible exact Ext.refl _ | with_reducible refine Ext.alloc ?_ _ | with_reducible refine Ext.set ?_ ?_ _ | with_reducible refine Ext.drew ?_ | with_reducible refine Ext.drewN ?_ _ | with_reducible refine Ext.trans ?_ (by assumption) | (dsimp only; omega)))) hE))
  have B3 := hid (blk_ext t0.2.1 (Ext.trans (by (repeat' (first | with_reducible assumption | with_reducible exact Ext.refl _ | with_reducible refine Ext.alloc ?_ _ | with_reducible refine Ext.set ?_ ?_ _ | with_reducible refine Ext.drew ?_ | with_reducible refine Ext.drewN ?_ _ | with_reducible refine Ext.trans ?_ (by assumption) | (dsimp only; omega)))) hE))
  clear hE HB t0
  go_wp2_with fail
  refine (HCW.out _ (by (repeat' (first | with_reducible assumption | with_reducible exact Ext.refl _ | with_reducible refine Ext.alloc ?_ _ | with_reducible refine Ext.set ?_ ?_ _ | with_reducible refine Ext.drew ?_ | with_reducible refine Ext.drewN ?_ _ | with_reducible refine Ext.trans ?_ (by assumption) | (dsimp only; omega))))).mono ?_
  rintro e w2 ⟨rfl, hE⟩
  have EW2 : Ext w w2 := by (repeat' (first | with_reducible assumption | with_reducible exact Ext.refl _ | with_reducible refine Ext.alloc ?_ _ | with_reducible refine Ext.set ?_ ?_ _ | with_reducible refine Ext.drew ?_ | with_reducible refine Ext.drewN ?_ _ | with_reducible refine Ext.trans ?_ (by assumption) | (dsimp only; omega)))
  have B0 := hid (blk_ext (heap_alloc_new w1 (.cells (wbox (mm : Int) g l pl ph A n c) 70)) hE)
  have B2' := hid (blk_ext B2.out ((ext_alloc1 _ _).trans hE))
  have B3' := hid (blk_ext B3.out ((ext_alloc1 _ _).trans hE))
  clear hE HCW B2 B3
  have HL0 := hid (HL.out 0 (Nat.zero_le _))
  rw [HS0.out, HM0.out] at HL0
  go_wp2_with fail
  refine (HL0.out _ _ _ _ EW2 B0.out B2'.out B3'.out).mono ?_
  rintro e w3 ⟨rfl, hE⟩
  have EW3 : Ext w w3 := EW2.trans hE
  have C0 := hid (blk_ext B0.out hE)
  have C2 := hid (blk_ext B2'.out hE)
  have C3 := hid (blk_ext B3'.out hE)
  have hq0 : w.heap.size ≤ w1.heap.size := EW.size
  clear hE B0 B2' B3' EW2
  cases hl0 : late 0
  case true =>
    have HL1 := hid hl0
    clear hl0
    go_wp2
    go_ret2
    exact ⟨⟨0, ⟨Nat.zero_le _, fun x hx => by omega, fun _ => HL1.out⟩, rfl⟩, EW3⟩
  have HF0 := hid (show ∀ x, x < 0 + 1 → late x = false from fun x hx => by obtain rfl : x = 0 := by omega
                                                                            exact hl0)
  clear hl0
  go_wp2
  go_loopw [19, 50] (fun mv i wr => Ext w wr ∧ Hid (wr.heap[w1.heap.size]? = some (.cells (wbox (mm : Int) g l pl ph A n c) 70 (0, 0))) ∧ Hid (wr.heap[w.heap.size + 1 + 1]? = some (.cells #[.int .i64 (tt : Int)] 3 (0, 0))) ∧ Hid (wr.heap[w.heap.size + 1 + 1 + 1]? = some (.cells #[.int .i64 D] 3 (0, 0))) ∧
    ∃ k : Nat, k ≤ rn ∧ i = .int .i64 k ∧ mv = .int .i64 (mi k) ∧ Hid (∀ x, x < k + 1 → late x = false)) (fun _ i _ => rn - (intOf i).toNat)
  case atStart => exact ⟨EW3, C0, C2, C3, 0, Nat.zero_le _, rfl, by rw [HM0.out], HF0⟩
  case round =>
    clear C0 C2 C3 EW3 HF0
    obtain ⟨hE, HB, HB2, HB3, k, hk, rfl, rfl, HF⟩ := hrel
    by_cases hlt : k < rn
    · obtain ⟨rb, roff, rfl, hrb, q1⟩ := (HR.out.ext hE).at_ HRN.out hlt
      have hlo := HLO.out k (by have := HRN.out; omega)
      have hhi := HHI.out k (by have := HRN.out; omega)
      have HAK := hid (HAR.out k hlt)
      have HMK := hid (HMS.out k)
      have HSK := hid (HSS.out k)
      have HLK := hid (HL.out (k + 1) (by omega))
      obtain ⟨i, hi⟩ : ∃ i : Nat, r.getD k 0 = i := ⟨(r.getD k 0).toNat, by omega⟩
      rw [hi] at q1 hlo hhi HAK HMK HSK
      rw [Int.toNat_natCast] at HAK HMK HSK
      obtain ⟨b, off, A', c', rfl, hb, hpt⟩ := (HP.out.ext hE).at_ HN.out (by have := HN.out; omega : i < n)
      have hi1 : (i : Int) < (n : Int) := by have := HN.out; omega
      have hi0 : (0 : Int) ≤ (i : Int) := by omega
      clear hi hhi hlo
      have hk0 : (0 : Int) ≤ (k : Int) := by omega
      have hk1 : (k : Int) < (rn : Int) := by omega
      obtain ⟨p, hpq⟩ : ∃ p, ps.getD i zeroPt = p := ⟨_, rfl⟩
      rw [hpq] at HAK HMK HSK hpt
      clear hpq
      obtain ⟨d0, d1, d2, d3, d4, d5, d6, d7, hcap, hop⟩ := hpt
      obtain ⟨f, d, gg, tl, th, sl, sh, os⟩ := p
      dsimp only at d0 d1 d2 d3 d4 d5 d6 d7 hop HAK HMK HSK
      have HOP := hid hop
      clear hop hcap
      have c0 := blk_cell HB.out 0
      have c1 := blk_cell HB.out 1
      have c2 := blk_cell HB.out 2
      have c3 := blk_cell HB.out 3
      have c4 := blk_cell HB.out 4
      have c5 := blk_cell HB.out 5
      simp only [wbox, List.getElem?_toArray, List.getElem?_cons_zero, List.getElem?_cons_succ] at c0 c1 c2 c3 c4 c5
      have hs := (Array.getElem?_eq_some_iff.1 HB.out).1
      go_wp2_with fail
      refine wp_region_held_drew (S := fun w' => (∀ b o, b < wr.heap.size → w'.cell? ⟨b, o, none⟩ = wr.cell? ⟨b, o, none⟩) ∧ wr.heap.size ≤ w'.heap.size ∧ Ext wr w') (by kernel_rfl) ?hS0 (fun hHeld => ?_)
      case hS0 => exact ⟨fun _ _ _ => rfl, Nat.le_refl _, Ext.drew (Ext.refl _)⟩
      refine wpAnyH_take (i := 0) (oi := _) (v := ?v0h) rfl (by kernel_rfl) (by kernel_rfl) (by kernel_rfl) (fun _ _ _ h => h) (Or.inl ⟨by rfl, ?y0h⟩) (by assumption) ?r0h
      case y0h => (intro w' hSw; (try dsimp only at hSw); go_simp; (try with_reducible rfl))
      try simp only [Act.put, List.getElem_toArray, List.getElem_cons_zero, List.getElem_cons_succ, List.setIfInBounds_toArray, List.set_cons_zero, List.set_cons_succ]
      refine wpAnyH_take (i := 1) (oi := _) (v := ?v1h) rfl (by kernel_rfl) (by kernel_rfl) (by kernel_rfl) (fun _ _ _ h => h) (Or.inl ⟨by rfl, ?y1h⟩) (by assumption) ?r1h
      case y1h => (intro w' hSw; (try dsimp only at hSw); go_simp; (try with_reducible rfl))
      try simp only [Act.put, List.getElem_toArray, List.getElem_cons_zero, List.getElem_cons_succ, List.setIfInBounds_toArray, List.set_cons_zero, List.set_cons_succ]
      refine wpAnyH_take (i := 2) (oi := _) (v := ?v2h) rfl (by kernel_rfl) (by kernel_rfl) (by kernel_rfl) (fun _ _ _ h => h) (Or.inl ⟨by rfl, ?y2h⟩) (by assumption) ?r2h
      case y2h => (intro w' hSw; (try dsimp only at hSw); go_simp; (try with_reducible rfl))
      try simp only [Act.put, List.getElem_toArray, List.getElem_cons_zero, List.getElem_cons_succ, List.setIfInBounds_toArray, List.set_cons_zero, List.set_cons_succ]
      refine wpAnyH_take (i := 3) (oi := _) (v := ?v3h) rfl (by kernel_rfl) (by kernel_rfl) (by kernel_rfl) (fun _ _ _ h => h) (Or.inl ⟨by rfl, ?y3h⟩) (by assumption) ?r3h
      case y3h => (intro w' hSw; (try dsimp only at hSw); go_simp; (try with_reducible rfl))
      try simp only [Act.put, List.getElem_toArray, List.getElem_cons_zero, List.getElem_cons_succ, List.setIfInBounds_toArray, List.set_cons_zero, List.set_cons_succ]
      refine wpAnyH_take (i := 4) (oi := _) (v := ?v4h) rfl (by kernel_rfl) (by kernel_rfl) (by kernel_rfl) (fun _ _ _ h => h) (Or.inl ⟨by rfl, ?y4h⟩) (by assumption) ?r4h
      case y4h => (intro w' hSw; (try dsimp only at hSw); go_simp; (try with_reducible rfl))
      try simp only [Act.put, List.getElem_toArray, List.getElem_cons_zero, List.getElem_cons_succ, List.setIfInBounds_toArray, List.set_cons_zero, List.set_cons_succ]
      refine wpAnyH_take (i := 5) (oi := _) (v := ?v5h) rfl (by kernel_rfl) (by kernel_rfl) (by kernel_rfl) (fun _ _ _ h => h) (Or.inl ⟨by rfl, ?y5h⟩) (by assumption) ?r5h
      case y5h => (intro w' hSw; (try dsimp only at hSw); go_simp; (try with_reducible rfl))
      try simp only [Act.put, List.getElem_toArray, List.getElem_cons_zero, List.getElem_cons_succ, List.setIfInBounds_toArray, List.set_cons_zero, List.set_cons_succ]
      refine wpAnyH_take (i := 6) (oi := _) (v := ?v6h) rfl (by kernel_rfl) (by kernel_rfl) (by kernel_rfl) (fun _ _ _ h => h) (Or.inl ⟨by rfl, ?y6h⟩) (by assumption) ?r6h
      case y6h => (intro w' hSw; (try dsimp only at hSw); go_simp; (try with_reducible rfl))
      try simp only [Act.put, List.getElem_toArray, List.getElem_cons_zero, List.getElem_cons_succ, List.setIfInBounds_toArray, List.set_cons_zero, List.set_cons_succ]
      refine wpAnyH_take (i := 7) (oi := _) (v := ?v7h) rfl (by kernel_rfl) (by kernel_rfl) (by kernel_rfl) (fun _ _ _ h => h) (Or.inl ⟨by rfl, ?y7h⟩) (by assumption) ?r7h
      case y7h => (intro w' hSw; (try dsimp only at hSw); go_simp; (try with_reducible rfl))
      try simp only [Act.put, List.getElem_toArray, List.getElem_cons_zero, List.getElem_cons_succ, List.setIfInBounds_toArray, List.set_cons_zero, List.set_cons_succ]
      refine wpAnyH_ready (rs := [8]) (by kernel_rfl) (by simp) ?_
      refine AllReadyH.cons (o := _) rfl (fun K hK => ?_) AllReadyH.nil
      go_simp
      refine (HAK.out _ _ _ _ _ (HOP.out.ext (Ext.drew (Ext.refl wr)))).mono ?_
      rintro e w2 ⟨rfl, hE2⟩
      have hx : Ext wr w2 := (Ext.drew (Ext.refl wr)).trans hE2
      have hC := kcell (w1 := wr.drew) (W := wr) (n := wr.heap.size) (fun _ _ _ => rfl) (Nat.le_refl _) hE2
      clear hHeld
      dsimp only
      rw [← HMK.out]
      refine hK.out _ _ ⟨hC, hx.size, hx⟩ (fun hHeld => ?_)
      clear hK K
      try simp only [Act.put, List.getElem_toArray, List.getElem_cons_zero, List.getElem_cons_succ, List.setIfInBounds_toArray, List.set_cons_zero, List.set_cons_succ]
      refine wpAnyH_take (i := 9) (oi := _) (v := ?v9h) rfl (by kernel_rfl) (by kernel_rfl) (by kernel_rfl) (fun _ _ _ h => h) (Or.inl ⟨by rfl, ?y9h⟩) (by assumption) ?r9h
      case y9h => (intro w' hSw; (try dsimp only at hSw); go_simp; (try with_reducible rfl))
      try simp only [Act.put, List.getElem_toArray, List.getElem_cons_zero, List.getElem_cons_succ, List.setIfInBounds_toArray, List.set_cons_zero, List.set_cons_succ]
      refine wpAnyH_done (by kernel_rfl) ?_ _
      clear hHeld
      have hE4 := hE.trans hx
      have D0 := hid (blk_ext HB.out hx)
      have D2 := hid (blk_ext HB2.out hx)
      have D3 := hid (blk_ext HB3.out hx)
      rw [HSK.out] at HLK
      go_wp2_with fail
      refine (HLK.out _ _ _ _ hE4 D0.out D2.out D3.out).mono ?_
      rintro e w4 ⟨rfl, hE5⟩
      have hE6 := hE4.trans hE5
      have F0 := hid (blk_ext D0.out hE5)
      have F2 := hid (blk_ext D2.out hE5)
      have F3 := hid (blk_ext D3.out hE5)
      clear hE5 D0 D2 D3
      cases hl1 : late (k + 1)
      case true =>
        have HL1 := hid hl1
        clear hl1
        go_wp2
        go_ret2
        exact ⟨⟨k + 1, ⟨by omega, HF.out, fun _ => HL1.out⟩, by rw [show (((k + 1 : Nat) : Int) - 1) = (k : Int) by omega]; rfl⟩, hE6⟩
      have HF2 := hid (show ∀ x, x < k + 1 + 1 → late x = false from fun x hx => by
        by_cases hxk : x < k + 1
        · exact HF.out x hxk
        · obtain rfl : x = k + 1 := by omega
          exact hl1)
      clear hl1
      go_wp2
      go_roundw
      case rel => exact ⟨hE6, F0, F2, F3, k + 1, by omega, by go_num, rfl, HF2⟩
      case measure => simp [intOf]; omega
    · obtain rfl : k = rn := by omega
      go_wp2
      go_ret2
      exact ⟨⟨k + 1, ⟨Nat.le_refl _, HF.out, fun h => absurd h (by omega)⟩, by rw [show (((k + 1 : Nat) : Int) - 1) = (k : Int) by omega]; rfl⟩, hE⟩
end Go.Proofs.Ytndoghcglbpllaa
/- Turn of the program, and CheckTurn of the specification, whatever the input. -/
set_option linter.unusedSimpArgs false
set_option linter.unusedVariables false
namespace Go.Proofs.Ytndoghcglbpllaa
open Go.RowKit
/-- The error of Turn. -/
def ctE (E : Int) (B : Bool) : Int := if E = 0 then (if B = true then 0 else 12) else E
theorem ctE_bad {E : Int} (h : E ≠ 0) (B : Bool) : ctE E B = E := if_neg h
set_option maxRecDepth 100000 in
set_option maxHeartbeats 2000000 in
theorem turn_bad (m g l pl ph from_ s home D : Int) (A : Option Addr) (n c : Nat) (ps : List Pt) (hn : ps.length = n) (RA : Option Addr) (rn rc : Nat) (w : World) (hp : PathsAt w A ps) (E : Int) (hE : beginE m g l pl ph ps [from_, home] [s, D] = E) (hne : E ≠ 0) :
    Calls Try.prog 30 #[.agg #[.int .i64 m, .slice A n c], .agg #[.int .i64 g, .int .i64 l, .int .i64 pl, .int .i64 ph], .slice RA rn rc, .int .i64 from_, .int .i64 s, .int .i64 home, .int .i64 D] w fun e w' =>
      e = .returned (.tuple #[.int .i64 0, .int .i64 E]) ∧ Ext w w' := by
  have HB := hid (fun (b1 b2 : Nat) (W : World) (hW : Ext w W) (h1 : IntsAt W (some ⟨b1, 0, none⟩) [from_, home]) (h2 : IntsAt W (some ⟨b2, 0, none⟩) [s, D]) => begin_bad m g l pl ph A (some ⟨b1, 0, none⟩) (some ⟨b2, 0, none⟩) n c 2 2 2 2 ps [from_, home] [s, D] hn rfl rfl (by omega) (by omega) W (hp.ext hW) h1 h2 E hE hne)
  have hneb : (E != 0) = true := by simpa using hne
  have HNB := hid hneb
  clear hp hn hE hne hneb
  go_enter Try.func30, Try.ntmps30
  go_wp2_with fail
  have t1 := two_blocks ((((w.alloc (.cells #[.int .i64 m, .slice A n c] 24)).alloc (.cells #[.int .i64 g, .int .i64 l, .int .i64 pl, .int .i64 ph] 28)).alloc (.cells #[.int .i64 home] 3)).alloc (.cells #[.int .i64 D] 3)) (.cells #[.int .i64 from_, .int .i64 home] 3) (.cells #[.int .i64 s, .int .i64 D] 3)
  simp only [World.size_alloc] at t1
  refine (HB.out _ _ _ (by (repeat' (first | with_reducible assumption | with_reducible exact Ext.refl _ | with_reducible refine Ext.alloc ?_ _ | with_reducible refine Ext.set ?_ ?_ _ | with_reducible refine Ext.drew ?_ | with_reducible refine Ext.drewN ?_ _ | with_reducible refine Ext.trans ?_ (by assumption) | (dsimp only; omega)))) (ints_two_at t1.1) (ints_two_at t1.2.1)).mono ?_
  clear t1
  rintro e w1 ⟨rfl, hE⟩
  have EW : Ext w w1 := by (repeat' (first | with_reducible assumption | with_reducible exact Ext.refl _ | with_reducible refine Ext.alloc ?_ _ | with_reducible refine Ext.set ?_ ?_ _ | with_reducible refine Ext.drew ?_ | with_reducible refine Ext.drewN ?_ _ | with_reducible refine Ext.trans ?_ (by assumption) | (dsimp only; omega)))
  have hneb := HNB.out
  clear hE
  go_wp2_with fail
  go_ret2
  exact ⟨rfl, by (repeat' (first | with_reducible assumption | with_reducible exact Ext.refl _ | with_reducible refine Ext.alloc ?_ _ | with_reducible refine Ext.set ?_ ?_ _ | with_reducible refine Ext.drew ?_ | with_reducible refine Ext.drewN ?_ _ | with_reducible refine Ext.trans ?_ (by assumption) | (dsimp only; omega)))⟩
set_option maxRecDepth 100000 in
set_option maxHeartbeats 4000000 in
theorem turn_no (m g l pl ph from_ s home D : Int) (A : Option Addr) (n c : Nat) (ps : List Pt) (hn : ps.length = n) (RA : Option Addr) (rn rc : Nat) (w : World) (hp : PathsAt w A ps) (hb : beginE m g l pl ph ps [from_, home] [s, D] = 0)
    (hC : ∀ W, Ext w W → Calls Try.prog 67 #[.agg (wbox m g l pl ph A n c), .slice RA rn rc, .int .i64 from_] W fun e w' => e = .returned (.bool false) ∧ Ext W w') :
    Calls Try.prog 30 #[.agg #[.int .i64 m, .slice A n c], .agg #[.int .i64 g, .int .i64 l, .int .i64 pl, .int .i64 ph], .slice RA rn rc, .int .i64 from_, .int .i64 s, .int .i64 home, .int .i64 D] w fun e w' =>
      e = .returned (.tuple #[.int .i64 0, .int .i64 12]) ∧ Ext w w' := by
  have HB := hid (fun (b1 b2 : Nat) (W : World) (hW : Ext w W) (h1 : IntsAt W (some ⟨b1, 0, none⟩) [from_, home]) (h2 : IntsAt W (some ⟨b2, 0, none⟩) [s, D]) => begin_ok m g l pl ph A (some ⟨b1, 0, none⟩) (some ⟨b2, 0, none⟩) n c 2 2 2 2 ps [from_, home] [s, D] hn rfl rfl (by omega) (by omega) W (hp.ext hW) h1 h2 hb)
  have HCW := hid hC
  clear hp hn hb hC
  simp only [wbox] at HCW
  go_enter Try.func30, Try.ntmps30
  go_wp2_with fail
  have t1 := two_blocks ((((w.alloc (.cells #[.int .i64 m, .slice A n c] 24)).alloc (.cells #[.int .i64 g, .int .i64 l, .int .i64 pl, .int .i64 ph] 28)).alloc (.cells #[.int .i64 home] 3)).alloc (.cells #[.int .i64 D] 3)) (.cells #[.int .i64 from_, .int .i64 home] 3) (.cells #[.int .i64 s, .int .i64 D] 3)
  simp only [World.size_alloc] at t1
  refine (HB.out _ _ _ (by (repeat' (first | with_reducible assumption | with_reducible exact Ext.refl _ | with_reducible refine Ext.alloc ?_ _ | with_reducible refine Ext.set ?_ ?_ _ | with_reducible refine Ext.drew ?_ | with_reducible refine Ext.drewN ?_ _ | with_reducible refine Ext.trans ?_ (by assumption) | (dsimp only; omega)))) (ints_two_at t1.1) (ints_two_at t1.2.1)).mono ?_
  clear t1
  rintro e w1 ⟨rfl, hE⟩
  have EW : Ext w w1 := by (repeat' (first | with_reducible assumption | with_reducible exact Ext.refl _ | with_reducible refine Ext.alloc ?_ _ | with_reducible refine Ext.set ?_ ?_ _ | with_reducible refine Ext.drew ?_ | with_reducible refine Ext.drewN ?_ _ | with_reducible refine Ext.trans ?_ (by assumption) | (dsimp only; omega)))
  clear hE HB
  go_wp2_with fail
  refine (HCW.out _ (by (repeat' (first | with_reducible assumption | with_reducible exact Ext.refl _ | with_reducible refine Ext.alloc ?_ _ | with_reducible refine Ext.set ?_ ?_ _ | with_reducible refine Ext.drew ?_ | with_reducible refine Ext.drewN ?_ _ | with_reducible refine Ext.trans ?_ (by assumption) | (dsimp only; omega))))).mono ?_
  rintro e w2 ⟨rfl, hE⟩
  have EW2 : Ext w w2 := by (repeat' (first | with_reducible assumption | with_reducible exact Ext.refl _ | with_reducible refine Ext.alloc ?_ _ | with_reducible refine Ext.set ?_ ?_ _ | with_reducible refine Ext.drew ?_ | with_reducible refine Ext.drewN ?_ _ | with_reducible refine Ext.trans ?_ (by assumption) | (dsimp only; omega)))
  clear hE HCW
  go_wp2_with fail
  go_ret2
  exact ⟨rfl, EW2⟩
set_option maxRecDepth 100000 in
set_option maxHeartbeats 2000000 in
theorem rct_any (m g l pl ph from_ s home D : Int) (A : Option Addr) (n c : Nat) (ps : List Pt) (hn : ps.length = n) (RA : Option Addr) (rn rc : Nat) (w : World) (hp : PathsAt w A ps) (E : Int) (hE : beginE m g l pl ph ps [from_, home] [s, D] = E) (B : Bool)
    (hI : E = 0 → ∀ W, Ext w W → Calls Try.prog 33 #[.agg #[.int .i64 m, .slice A n c], .agg #[.int .i64 g, .int .i64 l, .int .i64 pl, .int .i64 ph], .slice RA rn rc, .int .i64 from_] W fun e w' => e = .returned (.bool B) ∧ Ext W w') :
    Calls Try.prog 71 #[.agg #[.int .i64 m, .slice A n c], .agg #[.int .i64 g, .int .i64 l, .int .i64 pl, .int .i64 ph], .slice RA rn rc, .int .i64 from_, .int .i64 s, .int .i64 home, .int .i64 D] w fun e w' =>
      e = .returned (.int .i64 (ctE E B)) ∧ Ext w w' := by
  have HC := hid (fun (b1 b2 : Nat) (W : World) (hW : Ext w W) (h1 : IntsAt W (some ⟨b1, 0, none⟩) [from_, home]) (h2 : IntsAt W (some ⟨b2, 0, none⟩) [s, D]) => rcheck_any m g l pl ph A n c ps hn (some ⟨b1, 0, none⟩) (some ⟨b2, 0, none⟩) 2 2 2 2 [from_, home] [s, D] rfl rfl (by omega) (by omega) W (hp.ext hW) h1 h2)
  rw [hE] at HC
  have HI := hid hI
  clear hp hn hE hI
  go_enter Try.func71, Try.ntmps71
  go_wp2_with fail
  have t0 := two_blocks w (.cells #[.int .i64 m, .slice A n c] 24) (.cells #[.int .i64 g, .int .i64 l, .int .i64 pl, .int .i64 ph] 28)
  have t1 := two_blocks ((w.alloc (.cells #[.int .i64 m, .slice A n c] 24)).alloc (.cells #[.int .i64 g, .int .i64 l, .int .i64 pl, .int .i64 ph] 28)) (.cells #[.int .i64 from_, .int .i64 home] 3) (.cells #[.int .i64 s, .int .i64 D] 3)
  simp only [World.size_alloc] at t1
  refine (HC.out _ _ _ (by (repeat' (first | with_reducible assumption | with_reducible exact Ext.refl _ | with_reducible refine Ext.alloc ?_ _ | with_reducible refine Ext.set ?_ ?_ _ | with_reducible refine Ext.drew ?_ | with_reducible refine Ext.drewN ?_ _ | with_reducible refine Ext.trans ?_ (by assumption) | (dsimp only; omega)))) (ints_two_at t1.1) (ints_two_at t1.2.1)).mono ?_
  rintro e w1 ⟨rfl, hE⟩
  have EW : Ext w w1 := by (repeat' (first | with_reducible assumption | with_reducible exact Ext.refl _ | with_reducible refine Ext.alloc ?_ _ | with_reducible refine Ext.set ?_ ?_ _ | with_reducible refine Ext.drew ?_ | with_reducible refine Ext.drewN ?_ _ | with_reducible refine Ext.trans ?_ (by assumption) | (dsimp only; omega)))
  have C0 := hid (blk_ext t0.1 (Ext.trans (by (repeat' (first | with_reducible assumption | with_reducible exact Ext.refl _ | with_reducible refine Ext.alloc ?_ _ | with_reducible refine Ext.set ?_ ?_ _ | with_reducible refine Ext.drew ?_ | with_reducible refine Ext.drewN ?_ _ | with_reducible refine Ext.trans ?_ (by assumption) | (dsimp only; omega)))) hE))
  have C1 := hid (blk_ext t0.2.1 (Ext.trans (by (repeat' (first | with_reducible assumption | with_reducible exact Ext.refl _ | with_reducible refine Ext.alloc ?_ _ | with_reducible refine Ext.set ?_ ?_ _ | with_reducible refine Ext.drew ?_ | with_reducible refine Ext.drewN ?_ _ | with_reducible refine Ext.trans ?_ (by assumption) | (dsimp only; omega)))) hE))
  clear t0 t1 hE HC
  by_cases hne : E = 0
  · have HI2 := hid (HI.out hne)
    subst hne
    have c0 := blk_cell C0.out 0
    have c1 := blk_cell C0.out 1
    have c2 := blk_cell C1.out 0
    have c3 := blk_cell C1.out 1
    have c4 := blk_cell C1.out 2
    have c5 := blk_cell C1.out 3
    simp only [List.getElem?_toArray, List.getElem?_cons_zero, List.getElem?_cons_succ] at c0 c1 c2 c3 c4 c5
    have z0 := (Array.getElem?_eq_some_iff.1 C0.out).1
    have z1 := (Array.getElem?_eq_some_iff.1 C1.out).1
    clear HI
    go_wp2_with fail
    refine (HI2.out _ EW).mono ?_
    rintro e w2 ⟨rfl, hE⟩
    have EW2 : Ext w w2 := EW.trans hE
    clear hE HI2
    cases B
    · go_wp2
      go_ret
      exact ⟨rfl, EW2⟩
    · go_wp2
      go_ret
      exact ⟨rfl, EW2⟩
  · have hneb : (E != 0) = true := by simpa using hne
    have HV := hid (ctE_bad hne B)
    go_wp2
    go_ret
    exact ⟨ret_int HV.out.symm, EW⟩
set_option maxRecDepth 100000 in
set_option maxHeartbeats 2000000 in
theorem rturn_bad (m g l pl ph from_ s home D : Int) (A : Option Addr) (n c : Nat) (RA : Option Addr) (rn rc : Nat) (w : World) (E : Int) (hne : E ≠ 0)
    (hI : ∀ W, Ext w W → Calls Try.prog 71 #[.agg #[.int .i64 m, .slice A n c], .agg #[.int .i64 g, .int .i64 l, .int .i64 pl, .int .i64 ph], .slice RA rn rc, .int .i64 from_, .int .i64 s, .int .i64 home, .int .i64 D] W fun e w' => e = .returned (.int .i64 E) ∧ Ext W w') :
    Calls Try.prog 31 #[.agg #[.int .i64 m, .slice A n c], .agg #[.int .i64 g, .int .i64 l, .int .i64 pl, .int .i64 ph], .slice RA rn rc, .int .i64 from_, .int .i64 s, .int .i64 home, .int .i64 D] w fun e w' =>
      e = .returned (.tuple #[.int .i64 0, .int .i64 E]) ∧ Ext w w' := by
  have HI := hid hI
  have hneb : (E != 0) = true := by simpa using hne
  clear hI
  go_enter Try.func31, Try.ntmps31
  go_wp2_with fail
  refine (HI.out _ (by (repeat' (first | with_reducible assumption | with_reducible exact Ext.refl _ | with_reducible refine Ext.alloc ?_ _ | with_reducible refine Ext.set ?_ ?_ _ | with_reducible refine Ext.drew ?_ | with_reducible refine Ext.drewN ?_ _ | with_reducible refine Ext.trans ?_ (by assumption) | (dsimp only; omega))))).mono ?_
  rintro e w2 ⟨rfl, hE⟩
  have EW2 : Ext w w2 := by (repeat' (first | with_reducible assumption | with_reducible exact Ext.refl _ | with_reducible refine Ext.alloc ?_ _ | with_reducible refine Ext.set ?_ ?_ _ | with_reducible refine Ext.drew ?_ | with_reducible refine Ext.drewN ?_ _ | with_reducible refine Ext.trans ?_ (by assumption) | (dsimp only; omega)))
  clear hE HI
  go_wp2_with fail
  go_ret2
  exact ⟨rfl, EW2⟩
end Go.Proofs.Ytndoghcglbpllaa
