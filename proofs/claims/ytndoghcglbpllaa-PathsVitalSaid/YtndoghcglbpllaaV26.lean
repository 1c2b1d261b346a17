/- Turn of the specification, if its input is valid. -/
import Derived.Test.YtndoghcglbpllaaV25
import Derived.Test.YtndoghcglbpllaaV15
import Derived.Test.YtndoghcglbpllaaV18
import Derived.Test.YtndoghcglbpllaaV20
import Derived.Test.YtndoghcglbpllaaV10
import Derived.Test.YtndoghcglbpllaaV12
import Derived.Test.YtndoghcglbpllaaV22
set_option linter.unusedSimpArgs false
set_option linter.unusedVariables false
namespace Go.Proofs.Ytndoghcglbpllaa
open Go.RowKit
theorem First.uniq {n : Nat} {p : Nat → Bool} {r r' : Nat} (h : First n p r) (h' : First n p r') : r = r' := by
  obtain ⟨a1, a2, a3⟩ := h
  obtain ⟨b1, b2, b3⟩ := h'
  rcases Nat.lt_trichotomy r r' with h | h | h
  · have := b2 r h
    rw [a3 (by omega)] at this
    cases this
  · exact h
  · have := a2 r' h
    rw [b3 (by omega)] at this
    cases this
theorem late_phi {D x : Int} (hD : D ≤ 2880) (hx : x ≤ 2881) : decide (phi x ≤ D) = !decide (D < x) := by
  have h := phi_le hD hx
  by_cases hd : D < x
  · rw [decide_eq_true hd, decide_eq_false (by rw [← h] at hd; omega)]; rfl
  · rw [decide_eq_false hd, decide_eq_true (by rw [← h] at hd; omega)]; rfl
set_option maxRecDepth 100000 in
set_option maxHeartbeats 4000000 in
theorem rturn_ok (m g l pl ph from_ s home D : Int) (A : Option Addr) (n c : Nat) (ps : List Pt) (hn : ps.length = n) (RA : Option Addr) (rn rc : Nat) (r : List Int) (hrn : r.length = rn) (hr : RouteOk g ps from_ r) (w : World) (hp : PathsAt w A ps) (hR : IntsAt w RA r) (hb : beginE m g l pl ph ps [from_, home] [s, D] = 0)
    (hI : ∀ W, Ext w W → Calls Try.prog 71 #[.agg #[.int .i64 m, .slice A n c], .agg #[.int .i64 g, .int .i64 l, .int .i64 pl, .int .i64 ph], .slice RA rn rc, .int .i64 from_, .int .i64 s, .int .i64 home, .int .i64 D] W fun e w' => e = .returned (.int .i64 0) ∧ Ext W w') :
    Calls Try.prog 31 #[.agg #[.int .i64 m, .slice A n c], .agg #[.int .i64 g, .int .i64 l, .int .i64 pl, .int .i64 ph], .slice RA rn rc, .int .i64 from_, .int .i64 s, .int .i64 home, .int .i64 D] w
      (TurnIs (rn + 1) (lateAt g l pl ph ps m.toNat from_ r s home.toNat D) w) := by
  obtain ⟨k1, k2, k3, k4⟩ := begin_zero hb
  obtain ⟨hm1, hm2, hN⟩ := vNet_ok k1
  have ha := vParty_ok k2
  have hO := vNet_opens k1
  have hfr := k3 from_ (by simp)
  have hto := k3 home (by simp)
  have hst := k4 s (by simp)
  have hDt := k4 D (by simp)
  have hn24 := hN.len
  have hr30 := hr.len
  obtain ⟨mm, rfl⟩ : ∃ k : Nat, m = k := ⟨m.toNat, by omega⟩
  obtain ⟨tt, rfl⟩ : ∃ k : Nat, home = k := ⟨home.toNat, by omega⟩
  rw [Int.toNat_natCast] at hN
  simp only [Int.toNat_natCast]
  have hstop := fun k (hk : k ≤ rn) => hr.stop hN hfr.1 hfr.2 k (by omega)
  have hmin := fun k (hk : k ≤ rn) => minAt_ge selHi_pos ha hN hst.1 (by omega : s ≤ 2881) (r := r) (fun j hj => ⟨hr.lo j hj, hr.hi j hj⟩) k (by omega)
  have hrn30 : rn ≤ 30 := by omega
  have hbd := fun k (hk : k ≤ rn) => (rows_bd selHi_pos (g := g) ha hN (from_ := (stopAt ps from_ r k).toNat) (hmin k hk).1 (hmin k hk).2 (mm - 1)).2 tt (by omega)
  have hge := fun k (hk : k ≤ rn) => (rows_ge (g := g) ha hN (from_ := (stopAt ps from_ r k).toNat) (hmin k hk).1 (hmin k hk).2 (mm - 1)).2 tt (by omega)
  have HBD := hid hmin
  have HIC := hid hI
  have HSU := hid (fun (k : Nat) (hk : k ≤ rn) (h9 : minAt selHi l pl ph ps s r k ≤ 2880) (W : World) (hW : Ext w W) => (show Calls Try.prog 61 #[.agg #[.int .i64 (mm : Int), .slice A n c], .agg #[.int .i64 g, .int .i64 l, .int .i64 pl, .int .i64 ph], .int .i64 (stopAt ps from_ r k), .int .i64 (minAt selHi l pl ph ps s r k), .int .i64 (tt : Int), .int .i64 (-1)] W fun e w' =>
      e = .returned (.int .i64 (phi ((rows selHi g l pl ph ps mm (stopAt ps from_ r k).toNat (minAt selHi l pl ph ps s r k) (mm - 1)).getD tt 0))) ∧ Ext W w' from by
    have h := rsure_any mm (by omega) (by omega) g l pl ph ha A n c ps hn hN hO (stopAt ps from_ r k).toNat (by have := hstop k hk; omega) (minAt selHi l pl ph ps s r k) (hmin k hk).1 h9 tt (by omega) (-1) W (hp.ext hW)
    rw [Int.toNat_of_nonneg (hstop k hk).1, ipRows_eq (sel := selHi) (g := g) (but := -1) selHi_pos ha (by omega : 1 ≤ mm) hN (fun i _ => by omega) _ (hmin k hk).1 (hmin k hk).2] at h
    exact h))
  have HST := hid (fun (k : Nat) (hk : k < rn) (W : World) (hW : Ext w W) => (show Calls Try.prog 39 #[.agg #[.int .i64 (mm : Int), .slice A n c], .agg #[.int .i64 g, .int .i64 l, .int .i64 pl, .int .i64 ph], .int .i64 (r.getD k 0), .int .i64 (minAt selHi l pl ph ps s r k), .bool true] W fun e w' =>
      e = .returned (.int .i64 (phi (minAt selHi l pl ph ps s r (k + 1)))) ∧ Ext W w' from by
    have hlo := hr.lo k (by omega)
    have hhi := hr.hi k (by omega)
    have h := rStep_any true mm g l pl ph ha A n c ps hn (r.getD k 0).toNat (by omega) (hN.ok _ (by omega)) (hO _ (by omega)) (minAt selHi l pl ph ps s r k) (hmin k (by omega)).1 W (hp.ext hW)
    rw [Int.toNat_of_nonneg hlo] at h
    exact h))
  have HSS := hid (fun k => (show stopAt ps from_ r (k + 1) = (ps.getD (r.getD k 0).toNat zeroPt).dst from rfl))
  have HM0 := hid (show minAt selHi l pl ph ps s r 0 = s from rfl)
  have HS0 := hid (show stopAt ps from_ r 0 = from_ from rfl)
  have HLP := hid (fun k (hk : k ≤ rn) => (show decide (phi ((rows selHi g l pl ph ps mm (stopAt ps from_ r k).toNat (minAt selHi l pl ph ps s r k) (mm - 1)).getD tt 0) ≤ D) = !lateAt g l pl ph ps mm from_ r s tt D k from late_phi hDt.2 (hbd k hk).2))
  have HL9 := hid (fun k (hk : k ≤ rn) (h9 : minAt selHi l pl ph ps s r k = 2881) => (show lateAt g l pl ph ps mm from_ r s tt D k = true from decide_eq_true (by have := hge k hk; omega)))
  have HLO := hid hr.lo
  have HHI := hid hr.hi
  have HP := hid hp
  have HR := hid hR
  have HN := hid hn
  have HRN := hid hrn
  have hp0 : phi s = s := by unfold phi; rw [if_neg (by omega)]
  have HP0 := hid hp0
  revert HLP HSU
  generalize hX : (fun k => phi ((rows selHi g l pl ph ps mm (stopAt ps from_ r k).toNat (minAt selHi l pl ph ps s r k) (mm - 1)).getD tt 0)) = XF
  have hXF : ∀ k, phi ((rows selHi g l pl ph ps mm (stopAt ps from_ r k).toNat (minAt selHi l pl ph ps s r k) (mm - 1)).getD tt 0) = XF k := fun k => congrFun hX k
  simp only [hXF]
  clear hX hXF
  revert HST HSS HM0 HS0 HL9 HBD
  clear hbd hge
  generalize lateAt g l pl ph ps mm from_ r s tt D = late
  clear hmin hstop
  generalize minAt selHi l pl ph ps s r = mi
  generalize stopAt ps from_ r = st
  intro HBD HST HSS HM0 HS0 HL9 HSU HLP
  clear hp hn hb k1 k2 k3 k4 hN ha hO hfr hto hst hDt hR hrn hr hI hp0
  go_enter Try.func31, Try.ntmps31
  go_wp2_with fail
  have t0 := two_blocks w (.cells #[.int .i64 (mm : Int), .slice A n c] 24) (.cells #[.int .i64 g, .int .i64 l, .int .i64 pl, .int .i64 ph] 28)
  refine (HIC.out _ (by (repeat' (first | with_reducible assumption | with_reducible exact Ext.refl _ | with_reducible refine Ext.alloc ?_ _ | with_reducible refine Ext.set ?_ ?_ _ | with_reducible refine Ext.drew ?_ | with_reducible refine Ext.drewN ?_ _ | with_reducible refine Ext.trans ?_ (by assumption) | (dsimp only; omega))))).mono ?_
  rintro e w1 ⟨rfl, hE⟩
  have EW : Ext w w1 := by (repeat' (first | with_reducible assumption | with_reducible exact Ext.refl _ | with_reducible refine Ext.alloc ?_ _ | with_reducible refine Ext.set ?_ ?_ _ | with_reducible refine Ext.drew ?_ | with_reducible refine Ext.drewN ?_ _ | with_reducible refine Ext.trans ?_ (by assumption) | (dsimp only; omega)))
  have C0 := hid (blk_ext t0.1 hE)
  have C1 := hid (blk_ext t0.2.1 hE)
  clear t0 hE HIC
  go_wp2
  go_loopw [3, 17, 18] (fun fv av kv wr => Ext w wr ∧ Hid (wr.heap[w.heap.size]? = some (.cells #[.int .i64 (mm : Int), .slice A n c] 24 (0, 0))) ∧ Hid (wr.heap[w.heap.size + 1]? = some (.cells #[.int .i64 g, .int .i64 l, .int .i64 pl, .int .i64 ph] 28 (0, 0))) ∧
    ∃ j J : Nat, j ≤ rn + 1 ∧ (j ≤ rn → J = j) ∧ fv = .int .i64 (st J) ∧ av = .int .i64 (phi (mi J)) ∧ kv = .int .i64 ((j : Int) - 1) ∧ Hid (∀ x, x < j → late x = false)) (fun _ _ kv _ => rn + 1 - (intOf kv + 1).toNat)
  case atStart => exact ⟨EW, C0, C1, 0, 0, by omega, fun _ => rfl, by rw [HS0.out], by rw [HM0.out, HP0.out], by simp, hid (fun x hx => by omega)⟩
  case round =>
    clear C0 C1 EW
    obtain ⟨hE, B0, B1, j, J, hj, hJ, rfl, rfl, rfl, HF⟩ := hrel
    have c0 := blk_cell B0.out 0
    have c1 := blk_cell B0.out 1
    have c2 := blk_cell B1.out 0
    have c3 := blk_cell B1.out 1
    have c4 := blk_cell B1.out 2
    have c5 := blk_cell B1.out 3
    simp only [List.getElem?_toArray, List.getElem?_cons_zero, List.getElem?_cons_succ] at c0 c1 c2 c3 c4 c5
    have z0 := (Array.getElem?_eq_some_iff.1 B0.out).1
    have z1 := (Array.getElem?_eq_some_iff.1 B1.out).1
    by_cases hlt : j ≤ rn
    · obtain rfl := hJ hlt
      have hk1 : (J : Int) - 1 < (rn : Int) := by omega
      by_cases h9 : mi J = 2881
      · have hph : phi (mi J) = 1073741824 := by unfold phi; rw [if_pos h9]
        rw [hph]
        have HL := hid (HL9.out J hlt h9)
        clear hph h9
        go_wp2
        go_ret2
        exact ⟨⟨J, ⟨by omega, HF.out, fun _ => HL.out⟩, rfl⟩, hE⟩
      · have hbd := HBD.out J hlt
        have hph : phi (mi J) = mi J := by unfold phi; rw [if_neg h9]
        have hS := hid (HSU.out J hlt (by omega))
        have HLJ := hid (HLP.out J hlt)
        have hsm : mi J < 1073741824 := by omega
        rw [hph]
        have HPH := hid hph
        clear hph h9
        go_wp2_with fail
        refine (hS.out _ hE).mono ?_
        rintro e w2 ⟨rfl, hE2⟩
        have E2 := hE.trans hE2
        have D0 := hid (blk_ext B0.out hE2)
        have D1 := hid (blk_ext B1.out hE2)
        clear hS c0 c1 c2 c3 c4 c5 z0 z1 hE2 B0 B1
        cases hl : late J
        case true =>
          have hd : decide (XF J ≤ D) = false := by rw [HLJ.out, hl]; rfl
          have HL := hid hl
          clear hl HLJ
          go_wp2
          go_ret2
          exact ⟨⟨J, ⟨by omega, HF.out, fun _ => HL.out⟩, rfl⟩, E2⟩
        have hd : decide (XF J ≤ D) = true := by rw [HLJ.out, hl]; rfl
        have HF2 := hid (show ∀ x, x < J + 1 → late x = false from fun x hx => by
          by_cases hxk : x < J
          · exact HF.out x hxk
          · obtain rfl : x = J := by omega
            exact hl)
        clear hl HLJ
        have c0 := blk_cell D0.out 0
        have c1 := blk_cell D0.out 1
        have c2 := blk_cell D1.out 0
        have c3 := blk_cell D1.out 1
        have c4 := blk_cell D1.out 2
        have c5 := blk_cell D1.out 3
        simp only [List.getElem?_toArray, List.getElem?_cons_zero, List.getElem?_cons_succ] at c0 c1 c2 c3 c4 c5
        have z0 := (Array.getElem?_eq_some_iff.1 D0.out).1
        have z1 := (Array.getElem?_eq_some_iff.1 D1.out).1
        have hwi : IntKind.i64.wrap (J : Int) = (J : Int) := IntWalk.i64_in _ (by omega)
        by_cases hjl : J < rn
        · have hj0 : (0 : Int) ≤ (J : Int) := by omega
          have hj1 : (J : Int) < (rn : Int) := by omega
          obtain ⟨rb, roff, rfl, hrb, q1⟩ := (HR.out.ext E2).at_ HRN.out hjl
          have hlo := HLO.out J (by have := HRN.out; omega)
          have hhi := HHI.out J (by have := HRN.out; omega)
          have HSK := hid (HSS.out J)
          have HTK := hid (HST.out J hjl)
          obtain ⟨i, hi⟩ : ∃ i : Nat, r.getD J 0 = i := ⟨(r.getD J 0).toNat, by omega⟩
          rw [hi] at q1 hlo hhi HSK HTK
          rw [Int.toNat_natCast] at HSK
          obtain ⟨b, off, A', c', rfl, hb, hpt⟩ := (HP.out.ext E2).at_ HN.out (by have := HN.out; omega : i < n)
          have hi1 : (i : Int) < (n : Int) := by have := HN.out; omega
          have hi0 : (0 : Int) ≤ (i : Int) := by omega
          clear hi hhi hlo
          obtain ⟨p, hpq⟩ : ∃ p, ps.getD i zeroPt = p := ⟨_, rfl⟩
          rw [hpq] at HSK hpt
          clear hpq
          obtain ⟨d0, d1, d2, d3, d4, d5, d6, d7, hcap, hop⟩ := hpt
          obtain ⟨f, d, gg, tl, th, sl, sh, os⟩ := p
          dsimp only at d0 d1 d2 d3 d4 d5 d6 d7 hop HSK
          clear hop hcap
          go_wp2_with fail
          refine wp_region_held_drew (S := fun w' => (∀ b o, b < w2.heap.size → w'.cell? ⟨b, o, none⟩ = w2.cell? ⟨b, o, none⟩) ∧ w2.heap.size ≤ w'.heap.size ∧ Ext w2 w') (by kernel_rfl) ?hS0 (fun hHeld => ?_)
          case hS0 => exact ⟨fun _ _ _ => rfl, Nat.le_refl _, Ext.drew (Ext.refl _)⟩
          refine wpAnyH_take (i := 0) (oi := _) (v := ?v0h) rfl (by kernel_rfl) (by kernel_rfl) (by kernel_rfl) (fun _ _ _ h => h) (Or.inl ⟨by rfl, ?y0h⟩) (by assumption) ?r0h
          case y0h => (intro w' hSw; (try dsimp only at hSw); go_simp; (try with_reducible rfl))
          try simp only [Act.put, List.getElem_toArray, List.getElem_cons_zero, List.getElem_cons_succ, List.setIfInBounds_toArray, List.set_cons_zero, List.set_cons_succ]
          refine wpAnyH_take (i := 1) (oi := _) (v := ?v1h) rfl (by kernel_rfl) (by kernel_rfl) (by kernel_rfl) (fun _ _ _ h => h) (Or.inl ⟨by rfl, ?y1h⟩) (by assumption) ?r1h
          case y1h => (intro w' hSw; (try dsimp only at hSw); go_simp; (try with_reducible rfl))
          try simp only [Act.put, List.getElem_toArray, List.getElem_cons_zero, List.getElem_cons_succ, List.setIfInBounds_toArray, List.set_cons_zero, List.set_cons_succ]
          refine wpAnyH_take (i := 2) (oi := _) (v := ?v2h) rfl (by kernel_rfl) (by kernel_rfl) (by kernel_rfl) (fun _ _ _ h => h) (Or.inl ⟨by rfl, ?y2h⟩) (by assumption) ?r2h
          case y2h => (intro w' hSw; (try dsimp only at hSw); go_simp; (try with_reducible rfl))
          try simp only [Act.put, List.getElem_toArray, List.getElem_cons_zero, List.getElem_cons_succ, List.setIfInBounds_toArray, List.set_cons_zero, List.set_cons_succ]
          refine wpAnyH_take (i := 3) (oi := _) (v := ?v3h) rfl (by kernel_rfl) (by kernel_rfl) (by kernel_rfl) (fun _ _ _ h => h) (Or.inl ⟨by rfl, ?y3h⟩) (by assumption) ?r3h
          case y3h => (intro w' hSw; (try dsimp only at hSw); go_simp; (try with_reducible rfl))
          try simp only [Act.put, List.getElem_toArray, List.getElem_cons_zero, List.getElem_cons_succ, List.setIfInBounds_toArray, List.set_cons_zero, List.set_cons_succ]
          refine wpAnyH_take (i := 4) (oi := _) (v := ?v4h) rfl (by kernel_rfl) (by kernel_rfl) (by kernel_rfl) (fun _ _ _ h => h) (Or.inl ⟨by rfl, ?y4h⟩) (by assumption) ?r4h
          case y4h => (intro w' hSw; (try dsimp only at hSw); go_simp; (try with_reducible rfl))
          try simp only [Act.put, List.getElem_toArray, List.getElem_cons_zero, List.getElem_cons_succ, List.setIfInBounds_toArray, List.set_cons_zero, List.set_cons_succ]
          refine wpAnyH_take (i := 5) (oi := _) (v := ?v5h) rfl (by kernel_rfl) (by kernel_rfl) (by kernel_rfl) (fun _ _ _ h => h) (Or.inl ⟨by rfl, ?y5h⟩) (by assumption) ?r5h
          case y5h => (intro w' hSw; (try dsimp only at hSw); go_simp; (try with_reducible rfl))
          try simp only [Act.put, List.getElem_toArray, List.getElem_cons_zero, List.getElem_cons_succ, List.setIfInBounds_toArray, List.set_cons_zero, List.set_cons_succ]
          refine wpAnyH_take (i := 6) (oi := _) (v := ?v6h) rfl (by kernel_rfl) (by kernel_rfl) (by kernel_rfl) (fun _ _ _ h => h) (Or.inl ⟨by rfl, ?y6h⟩) (by assumption) ?r6h
          case y6h => (intro w' hSw; (try dsimp only at hSw); go_simp; (try with_reducible rfl))
          try simp only [Act.put, List.getElem_toArray, List.getElem_cons_zero, List.getElem_cons_succ, List.setIfInBounds_toArray, List.set_cons_zero, List.set_cons_succ]
          refine wpAnyH_ready (rs := [7]) (by kernel_rfl) (by simp) ?_
          refine AllReadyH.cons (o := _) rfl (fun K hK => ?_) AllReadyH.nil
          go_simp
          refine (HTK.out _ (E2.trans (Ext.drew (Ext.refl w2)))).mono ?_
          rintro e w3 ⟨rfl, hE3⟩
          have hx : Ext w2 w3 := (Ext.drew (Ext.refl w2)).trans hE3
          have hC := kcell (w1 := w2.drew) (W := w2) (n := w2.heap.size) (fun _ _ _ => rfl) (Nat.le_refl _) hE3
          clear hHeld
          dsimp only
          refine hK.out _ _ ⟨hC, hx.size, hx⟩ (fun hHeld => ?_)
          clear hK K
          try simp only [Act.put, List.getElem_toArray, List.getElem_cons_zero, List.getElem_cons_succ, List.setIfInBounds_toArray, List.set_cons_zero, List.set_cons_succ]
          refine wpAnyH_take (i := 8) (oi := _) (v := ?v8h) rfl (by kernel_rfl) (by kernel_rfl) (by kernel_rfl) (fun _ _ _ h => h) (Or.inl ⟨by rfl, ?y8h⟩) (by assumption) ?r8h
          case y8h => (intro w' hSw; (try dsimp only at hSw); go_simp; (try with_reducible rfl))
          try simp only [Act.put, List.getElem_toArray, List.getElem_cons_zero, List.getElem_cons_succ, List.setIfInBounds_toArray, List.set_cons_zero, List.set_cons_succ]
          refine wpAnyH_done (by kernel_rfl) ?_ _
          have E3 := E2.trans hx
          have F0 := hid (blk_ext D0.out hx)
          have F1 := hid (blk_ext D1.out hx)
          have hz3 := hx.size
          clear hHeld hE3 hx
          go_wp2_with fail
          go_quiet (fail)
          go_wp2
          go_roundw
          case rel => exact ⟨E3.drewN _, F0, F1, J + 1, J + 1, by omega, fun _ => rfl, by rw [HSK.out], rfl, by go_num, HF2⟩
          case measure => (simp [intOf] <;> omega)
        · obtain rfl : rn = J := by omega
          go_wp2
          go_roundw
          case rel => exact ⟨E2, D0, D1, rn + 1, rn, by omega, fun h => by omega, rfl, by rw [HPH.out], by go_num, HF2⟩
          case measure => (simp [intOf] <;> omega)
    · obtain rfl : j = rn + 1 := by omega
      go_wp2
      go_ret2
      exact ⟨⟨rn + 1, ⟨Nat.le_refl _, HF.out, fun h => absurd h (by omega)⟩, by first | rfl | (congr 3; omega)⟩, hE⟩
end Go.Proofs.Ytndoghcglbpllaa
/- Appending spans to an empty slice. -/
set_option linter.unusedSimpArgs false
set_option linter.unusedVariables false
namespace Go.Proofs.Ytndoghcglbpllaa
open Go.RowKit
theorem run_append_nothing (z : Nat) (A : Option Addr) (c : Nat) (ty : TypeId) (w : World) : (Builtin.append_ #[54, 54] ty #[.slice (some ⟨z, 0, none⟩) 0 0, .slice A 0 c]).run Try.prog w = .ok (.slice (some ⟨z, 0, none⟩) 0 0) w := by
  obtain ⟨i0, hi, hz0, hz1, hz2⟩ := info_parts infoSpan
  cases A with
  | none => simp [Builtin.append_, run_underlying Try.underlying54, sizeOf, typeInfo, hi, Builtin.lenOf, Builtin.firstCells, loadCells, loadCellsFrom, storeCells]
  | some ad => simp [Builtin.append_, run_underlying Try.underlying54, sizeOf, typeInfo, hi, Builtin.lenOf, Builtin.firstCells, loadCells, loadCellsFrom, storeCells]
theorem wp_append_spans {P : Program} {o : Oper} {a : Act} {K : Act → World → Prop} {Q : Exit → Act → World → Prop} (w : World) (hP : P = Try.prog) (s x : Operand)
    (ho : o.op = .call { callee := .builtin .append, args := #[s, x], argTypes := #[54, 54] }) (B z : Nat) (A : Option Addr) (c : Nat) (os : List (Int × Int)) (hs : a.eval s = .slice (some ⟨z, 0, none⟩) 0 0) (hz : w.heap[z]? = some (.cells #[] 26 (0, 0))) (hBz : B ≤ z)
    (hx : a.eval x = .slice A os.length c) (hO : OpensAt w A os) (hl : os.length ≤ 1000)
    (h : ∀ A' c' w', SpansOwn w' B A' c' os → w.grownBy w' (some z) → K (a.put o.dst (.slice A' os.length c')) w') : o.wp P a w K Q := by
  subst hP
  have hlt := (Array.getElem?_eq_some_iff.1 hz).1
  by_cases h0 : os = []
  · subst h0
    have hr := run_append_nothing z A c o.type w
    unfold Oper.wp execOp
    simp only [ho, resolve, invoke, builtin, Sem.run_bind, Sem.run_pure, Result.andThen_ok, List.map_toArray, List.map_cons, List.map_nil, hs, hx, List.length_nil, hr]
    exact h (some ⟨z, 0, none⟩) 0 w ⟨rfl, .inr ⟨z, 0, #[], rfl, hBz, hz, Nat.le_refl _, Nat.zero_le _, rfl, rfl⟩⟩ ⟨rfl, rfl, rfl, Nat.le_refl _, fun _ _ _ => rfl⟩
  · obtain ⟨b, off, rfl, hb, hc⟩ := hO h0
    obtain ⟨i0, hi, hz0, hz1, hz2⟩ := info_parts infoSpan
    refine wp_append_own w s x 54 ho B 26 i0 zspan 2 16 Try.underlying54 hi hz0 hz1 hz2 rfl (by decide) (.slice (some ⟨z, 0, none⟩) 0 0) 0 [] hs ⟨rfl, .inr ⟨z, 0, #[], rfl, hBz, hz, Nat.le_refl _, Nat.zero_le _, rfl, rfl⟩⟩ ⟨b, off, none⟩ os.length c (spanCells os) hx (spanCells_len os) (OpensAt.cells hc) (spanCells_one os) (by unfold maxLen; omega) (by omega) (by omega) (fun v' w' h1 h2 h3 => ?_)
    rw [Nat.zero_add, List.nil_append] at h1
    have hpos : 0 < os.length := List.length_pos_iff.2 h0
    rcases h1.2 with ⟨_, h4⟩ | ⟨g, cap, cur, rfl, _⟩
    · omega
    · exact h (some ⟨g, 0, none⟩) cap w' h1 h2
theorem wpList_append_spans {P : Program} {ops : Array Oper} {rest : List Oper} {o : Oper} {a : Act} {Q : Exit → Act → World → Prop} (w : World) (hP : P = Try.prog) (hgd : o.guard = none) (s x : Operand)
    (ho : o.op = .call { callee := .builtin .append, args := #[s, x], argTypes := #[54, 54] }) (B z : Nat) (A : Option Addr) (c : Nat) (os : List (Int × Int)) (hs : a.eval s = .slice (some ⟨z, 0, none⟩) 0 0) (hz : w.heap[z]? = some (.cells #[] 26 (0, 0))) (hBz : B ≤ z)
    (hx : a.eval x = .slice A os.length c) (hO : OpensAt w A os) (hl : os.length ≤ 1000)
    (h : ∀ A' c' w', SpansOwn w' B A' c' os → w.grownBy w' (some z) → wpList P ops Q rest (a.put o.dst (.slice A' os.length c')) w') : wpList P ops Q (o :: rest) a w :=
  wpList_plain hgd fun _ hK => wp_append_spans w hP s x ho B z A c os hs hz hBz hx hO hl fun A' c' w' h1 h2 => hK _ _ (h A' c' w' h1 h2)
theorem wpList_append_path {P : Program} {ops : Array Oper} {rest : List Oper} {o : Oper} {a : Act} {Q : Exit → Act → World → Prop} (w : World) (hP : P = Try.prog) (hgd : o.guard = none) (s x : Operand)
    (ho : o.op = .call { callee := .builtin .append, args := #[s, x], argTypes := #[22, 22] }) (B : Nat) (v : Value) (ps : List Pt) (k : Nat) (hs : a.eval s = v) (hv : CopyRow w B v ps k) (hB : B ≤ w.heap.size) (hk : k ≤ 1000)
    (g : Nat) (A : Option Addr) (c : Nat) (hx : a.eval x = .slice (some ⟨g, 0, none⟩) 1 1) (hg : w.heap[g]? = some (.cells (pcellsL (ps.getD k zeroPt) A c).toArray 56 (0, 0))) (hso : SpansOwn w B A c (ps.getD k zeroPt).opens)
    (h : ∀ v' w', CopyRow w' B v' ps (k + 1) → w.grownBy w' v.ownBlock → wpList P ops Q rest (a.put o.dst v') w') : wpList P ops Q (o :: rest) a w := by
  subst hP
  obtain ⟨i0, hi, hz0, hz1, hz2⟩ := info_parts infoPath
  obtain ⟨xs, hown, hxs⟩ := id hv
  refine wpList_append_own w hgd s x 22 ho B 56 i0 zpath 8 80 Try.underlying22 hi hz0 hz1 hz2 rfl (by decide) v k xs hs hown ⟨g, 0, none⟩ 1 1 (pcellsL (ps.getD k zeroPt) A c) hx rfl (blk_add hg) (pcells_one _ _ _) (by unfold maxLen; omega) (by omega) hB (fun v' w' h1 h2 _ => h v' w' (hv.snoc hxs hown.1 h2 h1 hso) h2)
theorem SpansOwn.set {w : World} {B : Nat} {A : Option Addr} {c : Nat} {os : List (Int × Int)} (h : SpansOwn w B A c os) {X : Nat} {cs : Array Value} (hX : w.heap[X]? = some (.cells cs 56 (0, 0))) (i : Nat) (u : Value) : SpansOwn (w.setCell ⟨X, i, none⟩ u) B A c os :=
  h.keep fun q cs' hq => (Below.heap_setCell w ⟨X, i, none⟩ u q (fun e => by
    have e' : q = X := e
    subst e'
    rw [hq] at hX
    injection hX with hX
    injection hX with _ hX _
    exact absurd hX (by decide))).trans hq
theorem CopyRow.keepB {w w' : World} {B : Nat} {v : Value} {ps : List Pt} {k : Nat} (h : CopyRow w B v ps k) (hk : ∀ (q : Nat) (o : Obj), B ≤ q → w.heap[q]? = some o → w'.heap[q]? = some o) : CopyRow w' B v ps k := by
  obtain ⟨xs, ⟨h1, h2⟩, h3⟩ := h
  refine ⟨xs, ⟨h1, ?_⟩, fun j hj => ?_⟩
  · rcases h2 with h2 | ⟨g, cap, cur, a1, a2, a3, a4⟩
    · exact .inl h2
    · exact .inr ⟨g, cap, cur, a1, a2, hk _ _ a2 a3, a4⟩
  · obtain ⟨A, c, h4, ⟨h5, h6⟩⟩ := h3 j hj
    refine ⟨A, c, h4, h5, ?_⟩
    rcases h6 with h6 | ⟨g, cap, cur, a1, a2, a3, a4⟩
    · exact .inl h6
    · exact .inr ⟨g, cap, cur, a1, a2, hk _ _ a2 a3, a4⟩
theorem CopyRow.form {w : World} {B : Nat} {v : Value} {ps : List Pt} {k : Nat} (h : CopyRow w B v ps k) : ∃ A c, v = .slice A k c := by
  obtain ⟨xs, ⟨h1, h2⟩, h3⟩ := h
  rcases h2 with ⟨h2, h4⟩ | ⟨g, cap, cur, a1, _⟩
  · subst h4; exact ⟨_, _, h2⟩
  · exact ⟨_, _, a1⟩
end Go.Proofs.Ytndoghcglbpllaa
/- Copy. -/
set_option linter.unusedSimpArgs false
set_option linter.unusedVariables false
namespace Go.Proofs.Ytndoghcglbpllaa
open Go.RowKit
set_option maxRecDepth 100000 in
set_option maxHeartbeats 2000000 in
theorem copy_any (m : Int) (A : Option Addr) (n c : Nat) (ps : List Pt) (hn : ps.length = n) (hm : n ≤ 1000) (ho : ∀ k, k < n → (ps.getD k zeroPt).opens.length ≤ 1000) (w : World) (hp : PathsAt w A ps) :
    Calls Try.prog 14 #[.agg #[.int .i64 m, .slice A n c]] w fun e w' => ∃ v, e = .returned (.agg #[.int .i64 m, v]) ∧ CopyRow w' (w.heap.size + 3) v ps n ∧ Ext w w' := by
  have HP := hid hp
  have HN := hid hn
  have HO := hid ho
  have t0 := three_blocks w (.cells #[.int .i64 m, .slice A n c] 24) (.cells #[.int .i64 0, .slice none 0 0] 24) (.cells #[.int .i64 m, .slice none 0 0] 24)
  have B0 := hid t0.1
  have B1 := hid t0.2.1
  have B2 := hid t0.2.2
  clear hp hn ho t0
  go_enter Try.func14, Try.ntmps14
  go_wp2
  go_loopw [4] (fun i wr => Ext w wr ∧ Hid (wr.heap[w.heap.size]? = some (.cells #[.int .i64 m, .slice A n c] 24 (0, 0))) ∧ Hid (wr.heap[w.heap.size + 1]? = some (.cells #[.int .i64 0, .slice none 0 0] 24 (0, 0))) ∧
    ∃ (k : Nat) (v : Value), k ≤ n ∧ i = .int .i64 k ∧ Hid (wr.heap[w.heap.size + 1 + 1]? = some (.cells #[.int .i64 m, v] 24 (0, 0))) ∧ Hid (CopyRow wr (w.heap.size + 3) v ps k)) (fun i _ => n - (intOf i).toNat)
  case atStart => exact ⟨by (repeat' (first | with_reducible assumption | with_reducible exact Ext.refl _ | with_reducible refine Ext.alloc ?_ _ | with_reducible refine Ext.set ?_ ?_ _ | with_reducible refine Ext.drew ?_ | with_reducible refine Ext.drewN ?_ _ | with_reducible refine Ext.trans ?_ (by assumption) | (dsimp only; omega))), B0, B1, 0, _, Nat.zero_le _, rfl, B2, hid (CopyRow.nil _ _ _)⟩
  case round =>
    clear B0 B1 B2
    obtain ⟨hE, HB0, HB1, k, v, hk, rfl, HB2, HC⟩ := hrel
    have a0 := blk_cell HB0.out 0
    have a1 := blk_cell HB0.out 1
    have b0 := blk_cell HB2.out 0
    have b1 := blk_cell HB2.out 1
    have r0 := blk_cell HB1.out 0
    have r1 := blk_cell HB1.out 1
    have f0 := blk_fro HB2.out 0
    have f1 := blk_fro HB2.out 1
    have g0 := blk_fro HB1.out 0
    have g1 := blk_fro HB1.out 1
    simp only [List.getElem?_toArray, List.getElem?_cons_zero, List.getElem?_cons_succ] at a0 a1 b0 b1 r0 r1
    have z0 := (Array.getElem?_eq_some_iff.1 HB0.out).1
    have z1 := (Array.getElem?_eq_some_iff.1 HB1.out).1
    have z2 := (Array.getElem?_eq_some_iff.1 HB2.out).1
    by_cases hlt : k < n
    · obtain ⟨b, off, A', c', rfl, hb, hpt⟩ := (HP.out.ext hE).at_ HN.out hlt
      have hos := HO.out k hlt
      have hk0 : (0 : Int) ≤ (k : Int) := by omega
      have hk1 : (k : Int) < (n : Int) := by omega
      obtain ⟨p, hpq⟩ : ∃ p, ps.getD k zeroPt = p := ⟨_, rfl⟩
      rw [hpq] at hpt hos
      have HPQ := hid hpq
      clear hpq
      have HOP := hid hpt.opens
      obtain ⟨d0, d1, d2, d3, d4, d5, d6, d7, hcap, hop⟩ := hpt
      obtain ⟨f, d, gg, tl, th, sl, sh, os⟩ := p
      dsimp only at d0 d1 d2 d3 d4 d5 d6 d7 HOP hos
      clear hop hcap
      have t1 := two_blocks wr (.cells #[.int .i64 f, .int .i64 d, .int .i64 gg, .int .i64 tl, .int .i64 th, .int .i64 sl, .int .i64 sh, .slice A' os.length c'] 56) (.cells #[] 26)
      have HX := hid t1.1
      have HZ := hid t1.2.1
      have e1 : Ext wr ((wr.alloc (.cells #[.int .i64 f, .int .i64 d, .int .i64 gg, .int .i64 tl, .int .i64 th, .int .i64 sl, .int .i64 sh, .slice A' os.length c'] 56)).alloc (.cells #[] 26)) := ((Ext.refl wr).alloc _).alloc _
      have s1 : ((wr.alloc (.cells #[.int .i64 f, .int .i64 d, .int .i64 gg, .int .i64 tl, .int .i64 th, .int .i64 sl, .int .i64 sh, .slice A' os.length c'] 56)).alloc (.cells #[] 26)).heap.size = wr.heap.size + 2 := t1.2.2
      have n0 : ¬ w.heap.size = wr.heap.size := by omega
      have n1 : ¬ w.heap.size + 1 = wr.heap.size := by omega
      have n2 : ¬ w.heap.size + 1 + 1 = wr.heap.size := by omega
      clear t1
      have hgr : ∀ r, v.ownBlock = some r → w.heap.size + 3 ≤ r := fun r hr => (HC.out.block r hr).1
      go_wp2_with (first
        | (at_builtin; refine wpList_append_spans _ rfl rfl _ _ rfl (w.heap.size + 3) (wr.heap.size + 1) A' c' os (by rfl) HZ.out (by omega) (by rfl) (HOP.out.ext e1) hos ?_; intro A2 c2 w5 hso hg; have HSO := hid hso; have e5 : Ext wr w5 := ext_of_grown e1 hg (fun q hq => by injection hq with hq; omega); have x5 := hid ((hg.block wr.heap.size (by omega) (fun e => by injection e with e; omega)).trans HX.out); have y2 := hid (blk_ext HB2.out e5); clear hso hg a0 a1 b0 b1 r0 r1 f0 f1 g0 g1 d0 d1 d2 d3 d4 d5 d6 d7; have u0 := blk_cell x5.out 0; have u1 := blk_cell x5.out 1; have u2 := blk_cell x5.out 2; have u3 := blk_cell x5.out 3; have u4 := blk_cell x5.out 4; have u5 := blk_cell x5.out 5; have u6 := blk_cell x5.out 6; have u7 := blk_cell x5.out 7; have fu := blk_fro x5.out 7; have b0 := blk_cell y2.out 0; have b1 := blk_cell y2.out 1; simp only [List.getElem?_toArray, List.getElem?_cons_zero, List.getElem?_cons_succ] at u0 u1 u2 u3 u4 u5 u6 u7 b0 b1; have hz5 : wr.heap.size < w5.heap.size := (Array.getElem?_eq_some_iff.1 x5.out).1)
        | (at_builtin; refine wpList_append_path _ rfl rfl _ _ rfl (w.heap.size + 3) v ps k (by rfl) (HC.out.ext ((e5.set (by dsimp only; omega) _).alloc _)) (by simp; omega) (by omega) w5.heap.size A2 c2 (by rfl) (by rw [HPQ.out]; have h := heap_alloc_new (w5.setCell ⟨wr.heap.size, 7, none⟩ (.slice A2 os.length c2)) (.cells #[.int .i64 f, .int .i64 d, .int .i64 gg, .int .i64 tl, .int .i64 th, .int .i64 sl, .int .i64 sh, .slice A2 os.length c2] 56); rw [show (w5.setCell ⟨wr.heap.size, 7, none⟩ (.slice A2 os.length c2)).heap.size = w5.heap.size by simp] at h; exact h) (by rw [HPQ.out]; exact (HSO.out.set x5.out 7 _).keep fun q cs hq => blk_ext hq (ext_alloc1 _ _)) ?_; intro v' w8 hC8 hg8; obtain ⟨VA, vc, rfl⟩ := hC8.form; have HC8 := hid hC8; have e7 : Ext wr ((w5.setCell ⟨wr.heap.size, 7, none⟩ (.slice A2 os.length c2)).alloc (.cells #[.int .i64 f, .int .i64 d, .int .i64 gg, .int .i64 tl, .int .i64 th, .int .i64 sl, .int .i64 sh, .slice A2 os.length c2] 56)) := (e5.set (by dsimp only; omega) _).alloc _; have K0 := hid (grown_blk (B := w.heap.size + 3) (by omega) (blk_ext HB0.out e7) hg8 hgr); have K1 := hid (grown_blk (B := w.heap.size + 3) (by omega) (blk_ext HB1.out e7) hg8 hgr); have K2 := hid (grown_blk (B := w.heap.size + 3) (by omega) (blk_ext HB2.out e7) hg8 hgr); have E8 : Ext w w8 := ext_of_grown (hE.trans e7) hg8 (fun q hq => by have := hgr q hq; omega); clear hC8 hg8 e7 b0 b1 u0 u1 u2 u3 u4 u5 u6 u7 fu; have b1 := blk_cell K2.out 1; have fb := blk_fro K2.out 1; simp only [List.getElem?_toArray, List.getElem?_cons_zero, List.getElem?_cons_succ] at b1; have hz8 := (Array.getElem?_eq_some_iff.1 K2.out).1))
      have K9 := hid (heap_setCell_same w8 (w.heap.size + 1 + 1) 1 _ _ (.slice VA (k + 1) vc) K2.out)
      have HC9 := hid (CopyRow.keepB (w' := w8.setCell ⟨w.heap.size + 1 + 1, 1, none⟩ (.slice VA (k + 1) vc)) HC8.out fun q o hq h => (Below.heap_setCell w8 _ _ q (by dsimp only; omega)).trans h)
      have G0 := hid ((Below.heap_setCell w8 ⟨w.heap.size + 1 + 1, 1, none⟩ (.slice VA (k + 1) vc) w.heap.size (by dsimp only; omega)).trans K0.out)
      have G1 := hid ((Below.heap_setCell w8 ⟨w.heap.size + 1 + 1, 1, none⟩ (.slice VA (k + 1) vc) (w.heap.size + 1) (by dsimp only; omega)).trans K1.out)
      go_roundw
      case rel => exact ⟨E8.set (by dsimp only; omega) _, G0, G1, k + 1, .slice VA (k + 1) vc, by omega, by go_num, K9, HC9⟩
      case measure => (simp [intOf] <;> omega)
    · obtain rfl : k = n := by omega
      obtain ⟨VA, vc, rfl⟩ := HC.out.form
      have HC9 := hid (CopyRow.keepB (w' := (wr.setCell ⟨w.heap.size + 1, 0, none⟩ (.int .i64 m)).setCell ⟨w.heap.size + 1, 1, none⟩ (.slice VA k vc)) HC.out fun q o hq h => (Below.heap_setCell _ _ _ q (by dsimp only; omega)).trans ((Below.heap_setCell wr _ _ q (by dsimp only; omega)).trans h))
      go_wp2
      exact bodyPost_ret (v := .agg #[.int .i64 m, .slice VA k vc]) (by simp [results, Try.results14, go_sem, r0, r1]) rfl ⟨_, rfl, HC9.out, by (repeat' (first | with_reducible assumption | with_reducible exact Ext.refl _ | with_reducible refine Ext.alloc ?_ _ | with_reducible refine Ext.set ?_ ?_ _ | with_reducible refine Ext.drew ?_ | with_reducible refine Ext.drewN ?_ _ | with_reducible refine Ext.trans ?_ (by assumption) | (dsimp only; omega)))⟩
end Go.Proofs.Ytndoghcglbpllaa
/- Vital, Within and Turn: the program and the specification return the same. -/
set_option linter.unusedSimpArgs false
set_option linter.unusedVariables false
namespace Go.Proofs.Ytndoghcglbpllaa
open Go.RowKit
/-- A slice of numbers, and an error. -/
def PairIs (xs : List Int) (E : Int) (w : World) (e : Ending) (w' : World) : Prop := ∃ v, e = .returned (.tuple #[v, .int .i64 E]) ∧ OwnAt w' w.heap.size v xs ∧ Ext w w'
/-- Two slices of numbers, and an error. -/
def TripleIs (xs ys : List Int) (E : Int) (w : World) (e : Ending) (w' : World) : Prop := ∃ u v, e = .returned (.tuple #[u, v, .int .i64 E]) ∧ OwnAt w' w.heap.size u xs ∧ OwnAt w' w.heap.size v ys ∧ Ext w w'
theorem VitalIs.late {X D : Int} {ys : List Int} {w w' : World} {e : Ending} (h : VitalIs X D ys w e w') (hl : D < X) : PairIs [] 3 w e w' := by
  rcases h with ⟨_, h1, h2⟩ | ⟨h1, _⟩
  · exact ⟨_, h1, OwnAt.nil _ _, h2⟩
  · omega
theorem VitalIs.intime {X D : Int} {ys : List Int} {w w' : World} {e : Ending} (h : VitalIs X D ys w e w') (hl : ¬ D < X) : PairIs ys 0 w e w' := by
  rcases h with ⟨h1, _⟩ | ⟨_, h1⟩
  · omega
  · exact h1
theorem vital_both (m g l pl ph from_ start to_ D : Int) (A A2 : Option Addr) (n c c2 : Nat) (ps : List Pt) (hn : ps.length = n) : ∃ (xs : List Int) (E : Int), xs.length ≤ 1000 ∧
    (∀ w, PathsAt w A2 ps → Calls Try.prog 26 #[.agg #[.int .i64 m, .slice A2 n c2], .agg #[.int .i64 g, .int .i64 l, .int .i64 pl, .int .i64 ph], .int .i64 from_, .int .i64 start, .int .i64 to_, .int .i64 D] w (PairIs xs E w)) ∧
    (∀ w, PathsAt w A ps → Calls Try.prog 27 #[.agg #[.int .i64 m, .slice A n c], .agg #[.int .i64 g, .int .i64 l, .int .i64 pl, .int .i64 ph], .int .i64 from_, .int .i64 start, .int .i64 to_, .int .i64 D] w (PairIs xs E w)) := by
  by_cases hb : beginE m g l pl ph ps [from_, to_] [start, D] = 0
  · by_cases hl : D < (rows selHi g l pl ph ps m.toNat from_.toNat start (m.toNat - 1)).getD to_.toNat 0
    · exact ⟨[], 3, by simp, fun w hp => (vital_ok m g l pl ph from_ start to_ D A2 n c2 ps hn w hp hb).mono fun e w' h => h.late hl, fun w hp => (rvital_ok m g l pl ph from_ start to_ D A n c ps hn w hp hb).mono fun e w' h => h.late hl⟩
    · refine ⟨_, 0, ?_, fun w hp => (vital_ok m g l pl ph from_ start to_ D A2 n c2 ps hn w hp hb).mono fun e w' h => h.intime hl, fun w hp => (rvital_ok m g l pl ph from_ start to_ D A n c ps hn w hp hb).mono fun e w' h => h.intime hl⟩
      obtain ⟨_, hm2, hN⟩ := vNet_ok (begin_zero hb).1
      have h0 := hN.len
      unfold vitOf
      rw [List.length_map]
      have h1 := List.length_filter_le (vitB g l pl ph ps m.toNat from_.toNat to_.toNat start D) (walkIdx ps g n)
      have h2 := walkIdx_len ps g n
      omega
  · exact ⟨[], _, by simp, fun w hp => (vital_bad m g l pl ph from_ start to_ D A2 n c2 ps hn w hp _ rfl hb).mono fun e w' h => ⟨_, h.1, OwnAt.nil _ _, h.2⟩, fun w hp => (rvital_bad m g l pl ph from_ start to_ D A n c ps hn w hp _ rfl hb).mono fun e w' h => ⟨_, h.1, OwnAt.nil _ _, h.2⟩⟩
theorem within_both (m g l pl ph from_ start D : Int) (A A2 : Option Addr) (n c c2 : Nat) (ps : List Pt) (hn : ps.length = n) : ∃ (xs ys : List Int) (E : Int), xs.length ≤ 1000 ∧ ys.length ≤ 1000 ∧
    (∀ w, PathsAt w A2 ps → Calls Try.prog 28 #[.agg #[.int .i64 m, .slice A2 n c2], .agg #[.int .i64 g, .int .i64 l, .int .i64 pl, .int .i64 ph], .int .i64 from_, .int .i64 start, .int .i64 D] w (TripleIs xs ys E w)) ∧
    (∀ w, PathsAt w A ps → Calls Try.prog 29 #[.agg #[.int .i64 m, .slice A n c], .agg #[.int .i64 g, .int .i64 l, .int .i64 pl, .int .i64 ph], .int .i64 from_, .int .i64 start, .int .i64 D] w (TripleIs xs ys E w)) := by
  by_cases hb : beginE m g l pl ph ps [from_] [start, D] = 0
  · obtain ⟨_, hm2, _⟩ := vNet_ok (begin_zero hb).1
    refine ⟨_, _, 0, ?_, ?_, fun w hp => within_ok m g l pl ph from_ start D A2 n c2 ps hn w hp hb, fun w hp => rwithin_ok m g l pl ph from_ start D A n c ps hn w hp hb⟩
    · unfold withinL
      have := reachL_len (rows selHi g l pl ph ps m.toNat from_.toNat start (m.toNat - 1)) D m.toNat
      omega
    · unfold withinL
      have := reachL_len (rows selLo g l pl ph ps m.toNat from_.toNat start (m.toNat - 1)) D m.toNat
      omega
  · exact ⟨[], [], _, by simp, by simp, fun w hp => (within_bad m g l pl ph from_ start D A2 n c2 ps hn w hp _ rfl hb).mono fun e w' h => ⟨_, _, h.1, OwnAt.nil _ _, OwnAt.nil _ _, h.2⟩, fun w hp => (rwithin_bad m g l pl ph from_ start D A n c ps hn w hp _ rfl hb).mono fun e w' h => ⟨_, _, h.1, OwnAt.nil _ _, OwnAt.nil _ _, h.2⟩⟩
theorem First.some (p : Nat → Bool) : ∀ n, ∃ r, First n p r
  | 0 => ⟨0, Nat.le_refl _, fun x hx => by omega, fun h => by omega⟩
  | n + 1 => by
    obtain ⟨r, h1, h2, h3⟩ := First.some p n
    by_cases hr : r < n
    · exact ⟨r, by omega, h2, fun _ => h3 hr⟩
    · obtain rfl : r = n := by omega
      cases hp : p r
      · refine ⟨r + 1, Nat.le_refl _, fun x hx => ?_, fun h => by omega⟩
        by_cases hxr : x < r
        · exact h2 x hxr
        · obtain rfl : x = r := by omega
          exact hp
      · exact ⟨r, by omega, h2, fun _ => hp⟩
theorem turn_both (m g l pl ph from_ s home D : Int) (A A2 : Option Addr) (n c c2 : Nat) (ps : List Pt) (hn : ps.length = n) (rn : Nat) (r : List Int) (hrn : r.length = rn) (hmx : rn ≤ 1000) : ∃ (q : Int) (E : Int),
    (∀ (w : World) (RA : Option Addr) (rc : Nat), PathsAt w A2 ps → IntsAt w RA r → Calls Try.prog 30 #[.agg #[.int .i64 m, .slice A2 n c2], .agg #[.int .i64 g, .int .i64 l, .int .i64 pl, .int .i64 ph], .slice RA rn rc, .int .i64 from_, .int .i64 s, .int .i64 home, .int .i64 D] w fun e w' => e = .returned (.tuple #[.int .i64 q, .int .i64 E]) ∧ Ext w w') ∧
    (∀ (w : World) (RA : Option Addr) (rc : Nat), PathsAt w A ps → IntsAt w RA r → Calls Try.prog 31 #[.agg #[.int .i64 m, .slice A n c], .agg #[.int .i64 g, .int .i64 l, .int .i64 pl, .int .i64 ph], .slice RA rn rc, .int .i64 from_, .int .i64 s, .int .i64 home, .int .i64 D] w fun e w' => e = .returned (.tuple #[.int .i64 q, .int .i64 E]) ∧ Ext w w') := by
  by_cases hb : beginE m g l pl ph ps [from_, home] [s, D] = 0
  · obtain ⟨_, hm2, hN⟩ := vNet_ok (begin_zero hb).1
    have h24 := hN.len
    by_cases hr : RouteOk g ps from_ r
    · obtain ⟨k, hk⟩ := First.some (lateAt g l pl ph ps m.toNat from_ r s home.toNat D) (rn + 1)
      exact ⟨(k : Int) - 1, 0, fun w RA rc hp hR => (turn_ok m g l pl ph from_ s home D A2 n c2 ps hn RA rn rc r hrn hr w hp hR hb).mono fun e w' ⟨⟨k', hk', he⟩, hE⟩ => ⟨by rw [he, hk'.uniq hk], hE⟩, fun w RA rc hp hR => (rturn_ok m g l pl ph from_ s home D A n c ps hn RA rn rc r hrn hr w hp hR hb (fun W hW => rct_any m g l pl ph from_ s home D A n c ps hn RA rn rc W (hp.ext hW) 0 hb true (fun _ W2 hW2 => isRoute_yes m g l pl ph from_ A n c ps hn (by omega) RA rn rc r hrn hr W2 (hp.ext (hW.trans hW2)) (hR.ext (hW.trans hW2))))).mono fun e w' ⟨⟨k', hk', he⟩, hE⟩ => ⟨by rw [he, hk'.uniq hk], hE⟩⟩
    · exact ⟨0, 12, fun w RA rc hp hR => turn_no m g l pl ph from_ s home D A2 n c2 ps hn RA rn rc w hp hb (fun W hW => canWalk_no m g l pl ph from_ A2 n c2 ps hn (by omega) RA rn rc r hrn hr W (hp.ext hW) (hR.ext hW)), fun w RA rc hp hR => rturn_bad m g l pl ph from_ s home D A n c RA rn rc w 12 (by decide) (fun W hW => rct_any m g l pl ph from_ s home D A n c ps hn RA rn rc W (hp.ext hW) 0 hb false (fun _ W2 hW2 => isRoute_no m g l pl ph from_ A n c ps hn (by omega) RA rn rc r hrn (by omega) hr W2 (hp.ext (hW.trans hW2)) (hR.ext (hW.trans hW2))))⟩
  · obtain ⟨E, hE⟩ : ∃ E, beginE m g l pl ph ps [from_, home] [s, D] = E := ⟨_, rfl⟩
    have hne : E ≠ 0 := by rwa [hE] at hb
    exact ⟨0, E, fun w RA rc hp hR => turn_bad m g l pl ph from_ s home D A2 n c2 ps hn RA rn rc w hp E hE hne, fun w RA rc hp hR => rturn_bad m g l pl ph from_ s home D A n c RA rn rc w E hne (fun W hW => by
      have h := rct_any m g l pl ph from_ s home D A n c ps hn RA rn rc W (hp.ext hW) E hE true (fun h0 => absurd h0 hne)
      rwa [ctE_bad hne] at h)⟩
end Go.Proofs.Ytndoghcglbpllaa
