/- Far and weathers. -/
import Derived.Test.YtecamnhnjmldcaaGreatDoorBTopOpens31
set_option linter.unusedSimpArgs false
set_option linter.unusedVariables false
namespace Go.Proofs.YtecamnhnjmldcaaGreatDoor
open Go.RowKit
def longB (f : List (List Hr)) : Bool := f.any fun x => decide (50 < x.length)
def farB (f : List (List Hr)) (m : Nat) : Bool := decide (8 < f.length) || (decide (22 < m) || (longB f || (decide (fcE f = 0) && (decide (4 < f.length) || decide (12 < hoursN f)))))
structure NotFar (f : List (List Hr)) (m : Nat) : Prop where
  n8 : f.length ≤ 8
  m22 : m ≤ 22
  len : ∀ x ∈ f, x.length ≤ 50
  sc : fcE f = 0 → f.length ≤ 4
  hrs : fcE f = 0 → hoursN f ≤ 12
theorem farB_not {f : List (List Hr)} {m : Nat} (h : farB f m = false) : NotFar f m := by
  unfold farB longB at h
  simp only [Bool.or_eq_false_iff, decide_eq_false_iff_not, List.any_eq_false] at h
  obtain ⟨h1, h2, h3, h4⟩ := h
  refine ⟨by omega, by omega, fun x hx => by have := h3 x hx; simp at this; omega, fun hz => ?_, fun hz => ?_⟩
  · rw [decide_eq_true hz, Bool.true_and, Bool.or_eq_false_iff] at h4
    have := h4.1
    simp at this; omega
  · rw [decide_eq_true hz, Bool.true_and, Bool.or_eq_false_iff] at h4
    have := h4.2
    simp at this; omega
set_option maxHeartbeats 4000000 in
set_option maxRecDepth 100000 in
theorem far_any (f : List (List Hr)) (A : Option Addr) (n c : Nat) (hn : f.length = n) (SA : Option Addr) (m sc : Nat) (w : World) (hf : ScsAt w A f) :
    Calls Tryz.prog 7 #[.agg #[.slice A n c], .slice SA m sc] w fun e w' => e = .returned (.bool (farB f m)) ∧ Ext w w' := by
  have HX := hid hf
  have HN := hid hn
  by_cases h8 : 8 < n
  case pos =>
    have HR := hid (show farB f m = true by unfold farB; rw [hn, decide_eq_true h8]; rfl)
    rw [HR.out]
    clear hf hn HX HN HR
    go_enter Tryz.func7, Tryz.ntmps7
    go_wp2
    go_ret
    exact ⟨rfl, by (repeat' (first | with_reducible assumption | with_reducible exact Ext.refl _ | with_reducible refine Ext.alloc ?_ _ | with_reducible refine Ext.set ?_ ?_ _ | with_reducible refine Ext.drew ?_ | with_reducible refine Ext.drewN ?_ _ | with_reducible refine Ext.trans ?_ (by assumption) | (dsimp only; omega)))⟩
  by_cases h22 : 22 < m
  case pos =>
    have HR := hid (show farB f m = true by unfold farB; rw [decide_eq_true h22]; simp)
    rw [HR.out]
    clear hf hn HX HN HR
    go_enter Tryz.func7, Tryz.ntmps7
    go_wp2
    go_ret
    exact ⟨rfl, by (repeat' (first | with_reducible assumption | with_reducible exact Ext.refl _ | with_reducible refine Ext.alloc ?_ _ | with_reducible refine Ext.set ?_ ?_ _ | with_reducible refine Ext.drew ?_ | with_reducible refine Ext.drewN ?_ _ | with_reducible refine Ext.trans ?_ (by assumption) | (dsimp only; omega)))⟩
  have hR : farB f m = (longB f || (decide (fcE f = 0) && (decide (4 < n) || decide (12 < hoursN f)))) := by
    unfold farB; rw [hn, decide_eq_false h8, decide_eq_false h22]; rfl
  have HL1 := hid (fun k hk => any_take_snoc' f (fun x => decide (50 < x.length)) [] k hk)
  have HL2 := hid (fun k hk hp => any_of_at' f (fun x => decide (50 < x.length)) [] k hk hp)
  have HC := hid (fun (h : longB f = false) (W : World) (hW : Ext w W) => rCheck_any f A n c hn (by omega) (fun x hx => by unfold longB at h; have := List.any_eq_false.1 h x hx; simp at this; omega) W (hf.ext hW))
  have HH := hid (fun (h0 : 0 < n) (W : World) (hW : Ext w W) => rHours_any A n c f hn h0 W (hf.ext hW))
  have HE0 := hid (fun (h : fcE f = 0) => (show 0 < n by have := (fc_ok (fcE_ok h)).2.1; omega))
  have HE5 := hid (show fcE f = 0 ∨ fcE f = 50 by unfold fcE unlessM; cases fcB f <;> simp)
  obtain ⟨R, hR'⟩ : ∃ R, farB f m = R := ⟨_, rfl⟩
  rw [hR'] at hR ⊢
  have HR := hid hR
  have HLO := hid (show longB f = f.any (fun x => decide (50 < x.length)) from rfl)
  have B0 := hid (show Blk _ _ _ _ from blk_last w (.cells #[.slice A n c] 24))
  clear hf hn hR hR'
  generalize longB f = LB at *
  generalize fcE f = FE at *
  generalize hoursN f = N at *
  have h8' : n ≤ 8 := by omega
  have h22' : m ≤ 22 := by omega
  clear h8 h22
  go_enter Tryz.func7, Tryz.ntmps7
  go_wp2
  go_loopw [5] (fun i wr => Ext w wr ∧ Hid (Blk wr w.heap.size 24 #[.slice A n c]) ∧ ∃ k : Nat, k ≤ n ∧ i = .int .i64 k ∧ Hid ((f.take k).any (fun x => decide (50 < x.length)) = false)) (fun i _ => n - (intOf i).toNat)
  case atStart => exact ⟨by (repeat' (first | with_reducible assumption | with_reducible exact Ext.refl _ | with_reducible refine Ext.alloc ?_ _ | with_reducible refine Ext.set ?_ ?_ _ | with_reducible refine Ext.drew ?_ | with_reducible refine Ext.drewN ?_ _ | with_reducible refine Ext.trans ?_ (by assumption) | (dsimp only; omega))), B0, 0, Nat.zero_le _, rfl, hid rfl⟩
  case round =>
    obtain ⟨hE, K0, k, hk, rfl, HA⟩ := hrel
    clear B0
    have a0 := K0.out.cell 0
    have z0 := K0.out.lt
    simp only [List.getElem?_toArray, List.getElem?_cons_zero] at a0
    by_cases hlt : k < n
    · obtain ⟨b, off, rfl, hb0, A', c', hc0, hcap, hhr⟩ := HX.out.at_ HN.out hlt
      have HST := hid (HL1.out k (by rw [HN.out]; exact hlt))
      have HMI := hid (HL2.out k (by rw [HN.out]; exact hlt))
      replace hc0 := (hE.cell (p := ⟨b, _, none⟩) hb0).trans hc0
      have q1 := Nat.lt_of_lt_of_le hb0 hE.size
      generalize f.getD k [] = y at *
      clear hcap hhr
      generalize y.length = yl at *
      by_cases h50 : 50 < yl
      · have HRR := hid (show R = true by rw [HR.out, HLO.out, HMI.out (decide_eq_true h50)]; rfl)
        clear HST HMI HA HR HC HH HE0 HE5 HL1 HL2
        go_wp2
        go_ret
        exact ⟨ret_bool HRR.out.symm, hE⟩
      · have HN2 := hid (HST.out.trans (by rw [HA.out, decide_eq_false h50] <;> rfl))
        clear HST HMI HA HR HC HH HE0 HE5 HL1 HL2
        go_wp2
        go_roundw
        case rel => exact ⟨hE, K0, k + 1, by omega, by go_num, HN2⟩
        case measure => simp [intOf]; omega
    · obtain rfl : k = n := by omega
      have hLB : LB = false := by
        have := HA.out
        rw [List.take_of_length_le (by rw [HN.out]; exact Nat.le_refl _)] at this
        rw [HLO.out, this]
      have HRR := hid (show R = (decide (FE = 0) && (decide (4 < k) || decide (12 < N))) by rw [HR.out, hLB]; rfl)
      have HC2 := hid (HC.out hLB)
      clear HA HR HC HL1 HL2 HLO hLB
      go_wp2_with fail
      refine (HC2.out _ hE).mono ?_
      rintro e w2 ⟨rfl, hE2⟩
      have E2 := hid (hE.trans hE2)
      have J0 := hid (show Blk _ _ _ _ from K0.out.ext hE2)
      clear hE2 K0 a0 z0 hE HC2
      have a0 := J0.out.cell 0
      have z0 := J0.out.lt
      simp only [List.getElem?_toArray, List.getElem?_cons_zero] at a0
      obtain rfl | rfl := HE5.out
      · have h0 := HE0.out rfl
        have HH2 := hid (HH.out h0)
        clear HE0 HE5 HH
        by_cases h4 : 4 < k
        · have HR2 := hid (show R = true by rw [HRR.out, decide_eq_true h4]; rfl)
          clear HRR HH2
          go_wp2
          go_ret
          exact ⟨ret_bool HR2.out.symm, E2.out⟩
        · have HR2 := hid (show R = decide (12 < N) by rw [HRR.out, decide_eq_false h4]; rfl)
          clear HRR
          go_wp2_with fail
          refine (HH2.out _ E2.out).mono ?_
          rintro e w3 ⟨rfl, hE3⟩
          have E3 := hid (E2.out.trans hE3)
          clear HH2 hE3
          go_wp2
          go_ret
          exact ⟨ret_bool (by rw [HR2.out, Bool.eq_iff_iff]; simp <;> omega), E3.out⟩
      · have HR2 := hid (show R = false by rw [HRR.out]; rfl)
        clear HRR HE0 HE5 HH
        go_wp2
        go_ret
        exact ⟨ret_bool HR2.out.symm, E2.out⟩
/-- A possible weather, of a forecast that is looked at. -/
def wthB (f : List (List Hr)) (seen : List Sg) (skies : List Sk) : Bool := !farB f seen.length && (decide (seenE f seen = 0) && weaB f seen skies)
end Go.Proofs.YtecamnhnjmldcaaGreatDoor
/- A forecast and observations as arguments of a law. -/
set_option linter.unusedSimpArgs false
set_option linter.unusedVariables false
namespace Go.Proofs.YtecamnhnjmldcaaGreatDoor
open Go.RowKit
/-- A forecast and observations as arguments. -/
structure AIn (w : World) (f : List (List Hr)) (A : Option Addr) (n : Nat) (seen : List Sg) (SA : Option Addr) (m : Nat) : Prop where
  hn : f.length = n
  hl : seen.length = m
  hwf : ∀ s ∈ seen, (Lit.int .i64 s.hour).wf = true
  sc : ScsAt w A f
  sg : SgsAt w SA seen
  wid : WidW w
theorem AIn.ext {w w' : World} {f : List (List Hr)} {A : Option Addr} {n : Nat} {seen : List Sg} {SA : Option Addr} {m : Nat} (h : AIn w f A n seen SA m) (e : Ext w w') : AIn w' f A n seen SA m :=
  ⟨h.hn, h.hl, h.hwf, h.sc.ext e, h.sg.ext e, h.wid.ext e⟩
theorem AIn.fin {w : World} {f : List (List Hr)} {A : Option Addr} {n : Nat} {seen : List Sg} {SA : Option Addr} {m : Nat} (h : AIn w f A n seen SA m) (hf : farB f m = false) : FIn w f A n seen SA m := by
  have nf := farB_not hf
  exact ⟨h.hn, by rw [← h.hn]; have := nf.n8; omega, fun x hx => by have := nf.len x hx; omega, h.hl, by have := nf.m22; omega, h.hwf, h.sc, h.sg, h.wid⟩
theorem seenE_ok {f : List (List Hr)} {seen : List Sg} (h : seenE f seen = 0) : fcE f = 0 ∧ sgE f seen = 0 := by
  unfold seenE at h
  by_cases hz : fcE f = 0
  · rw [if_pos hz] at h; exact ⟨hz, h⟩
  · rw [if_neg hz] at h; cases h
end Go.Proofs.YtecamnhnjmldcaaGreatDoor
