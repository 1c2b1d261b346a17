/- Far and weathers. -/
import Derived.Test.YtecamnhnjmldcaaGreatDoorB18
import Derived.Test.YtecamnhnjmldcaaGreatDoorB15
import Derived.Test.YtecamnhnjmldcaaGreatDoorB03
import Derived.Test.YtecamnhnjmldcaaGreatDoorB17
import Derived.Test.YtecamnhnjmldcaaGreatDoorB08
set_option linter.unusedSimpArgs false
set_option linter.unusedVariables false
namespace Go.Proofs.YtecamnhnjmldcaaGreatDoor
open Go.RowKit
def longB (f : List (List Hr)) : Bool := f.any fun x => decide (50 < x.length)
def farB (f : List (List Hr)) (m : Nat) : Bool := decide (8 < f.length) || (decide (22 < m) || (longB f || (decide (fcE f = 0) && (decide (4 < f.length) || decide (12 < hoursN f)))))
structure NotFar (f : List (List Hr)) (m : Nat) : Prop where
  n8 : f.length ≤ 8
  m22 : m ≤ 22
  len : ∀ x ∈ f, x.length ≤ 50
  sc : fcE f = 0 → f.length ≤ 4
  hrs : fcE f = 0 → hoursN f ≤ 12
theorem farB_not {f : List (List Hr)} {m : Nat} (h : farB f m = false) : NotFar f m := by
  unfold farB longB at h
  simp only [Bool.or_eq_false_iff, decide_eq_false_iff_not, List.any_eq_false] at h
  obtain ⟨h1, h2, h3, h4⟩ := h
  refine ⟨by omega, by omega, fun x hx => by have := h3 x hx; simp at this; omega, fun hz => ?_, fun hz => ?_⟩
  · rw [decide_eq_true hz, Bool.true_and, Bool.or_eq_false_iff] at h4
    have := h4.1
    simp at this; omega
  · rw [decide_eq_true hz, Bool.true_and, Bool.or_eq_false_iff] at h4
    have := h4.2
    simp at this; omega
set_option maxHeartbeats 4000000 in
set_option maxRecDepth 100000 in
theorem far_any (f : List (List Hr)) (A : Option Addr) (n c : Nat) (hn : f.length = n) (SA : Option Addr) (m sc : Nat) (w : World) (hf : ScsAt w A f) :
    Calls Tryz.prog 7 #[.agg #[.slice A n c], .slice SA m sc] w fun e w' => e = .returned (.bool (farB f m)) ∧ Ext w w' := by
  have HX := hid hf
  have HN := hid hn
  by_cases h8 : 8 < n
  case pos =>
    have HR := hid (show farB f m = true by unfold farB; rw [hn, decide_eq_true h8]; rfl)
    rw [HR.out]
    clear hf hn HX HN HR
    go_enter Tryz.func7, Tryz.ntmps7
    go_wp2
    go_ret
    exact ⟨rfl, by (repeat' (first | with_reducible assumption | with_reducible exact Ext.refl _ | with_reducible refine Ext.alloc ?_ _ | with_reducible refine Ext.set ?_ ?_ _ | with_reducible refine Ext.drew ?_ | with_reducible refine Ext.drewN ?_ _ | with_reducible refine Ext.trans ?_ (by assumption) | (dsimp only; omega)))⟩
  by_cases h22 : 22 < m
  case pos =>
    have HR := hid (show farB f m = true by unfold farB; rw [decide_eq_true h22]; simp)
    rw [HR.out]
    clear hf hn HX HN HR
    go_enter Tryz.func7, Tryz.ntmps7
    go_wp2
    go_ret
    exact ⟨rfl, by (repeat' (first | with_reducible assumption | with_reducible exact Ext.refl _ | with_reducible refine Ext.alloc ?_ _ | with_reducible refine Ext.set ?_ ?_ _ | with_reducible refine Ext.drew ?_ | with_reducible refine Ext.drewN ?_ _ | with_reducible refine Ext.trans ?_ (by assumption) | (dsimp only; omega)))⟩
  have hR : farB f m = (longB f || (decide (fcE f = 0) && (decide (4 < n) || decide (12 < hoursN f)))) := by
    unfold farB; rw [hn, decide_eq_false h8, decide_eq_false h22]; rfl
  have HL1 := hid (fun k hk => any_take_snoc' f (fun x => decide (50 < x.length)) [] k hk)
  have HL2 := hid (fun k hk hp => any_of_at' f (fun x => decide (50 < x.length)) [] k hk hp)
  have HC := hid (fun (h : longB f = false) (W : World) (hW : Ext w W) => rCheck_any f A n c hn (by omega) (fun x hx => by unfold longB at h; have := List.any_eq_false.1 h x hx; simp at this; omega) W (hf.ext hW))
  have HH := hid (fun (h0 : 0 < n) (W : World) (hW : Ext w W) => rHours_any A n c f hn h0 W (hf.ext hW))
  have HE0 := hid (fun (h : fcE f = 0) => (show 0 < n by have := (fc_ok (fcE_ok h)).2.1; omega))
  have HE5 := hid (show fcE f = 0 ∨ fcE f = 50 by unfold fcE unlessM; cases fcB f <;> simp)
  obtain ⟨R, hR'⟩ : ∃ R, farB f m = R := ⟨_, rfl⟩
  rw [hR'] at hR ⊢
  have HR := hid hR
  have HLO := hid (show longB f = f.any (fun x => decide (50 < x.length)) from rfl)
  have B0 := hid (show Blk _ _ _ _ from blk_last w (.cells #[.slice A n c] 24))
  clear hf hn hR hR'
  generalize longB f = LB at *
  generalize fcE f = FE at *
  generalize hoursN f = N at *
  have h8' : n ≤ 8 := by omega
  have h22' : m ≤ 22 := by omega
  clear h8 h22
  go_enter Tryz.func7, Tryz.ntmps7
  go_wp2
  go_loopw [5] (fun i wr => Ext w wr ∧ Hid (Blk wr w.heap.size 24 #[.slice A n c]) ∧ ∃ k : Nat, k ≤ n ∧ i = .int .i64 k ∧ Hid ((f.take k).any (fun x => decide (50 < x.length)) = false)) (fun i _ => n - (intOf i).toNat)
  case atStart => exact ⟨by (repeat' (first | with_reducible assumption | with_reducible exact Ext.refl _ | with_reducible refine Ext.alloc ?_ _ | with_reducible refine Ext.set ?_ ?_ _ | with_reducible refine Ext.drew ?_ | with_reducible refine Ext.drewN ?_ _ | with_reducible refine Ext.trans ?_ (by assumption) | (dsimp only; omega))), B0, 0, Nat.zero_le _, rfl, hid rfl⟩
  case round =>
    obtain ⟨hE, K0, k, hk, rfl, HA⟩ := hrel
    clear B0
    have a0 := K0.out.cell 0
    have z0 := K0.out.lt
    simp only [List.getElem?_toArray, List.getElem?_cons_zero] at a0
    by_cases hlt : k < n
    · obtain ⟨b, off, rfl, hb0, A', c', hc0, hcap, hhr⟩ := HX.out.at_ HN.out hlt
      have HST := hid (HL1.out k (by rw [HN.out]; exact hlt))
      have HMI := hid (HL2.out k (by rw [HN.out]; exact hlt))
      replace hc0 := (hE.cell (p := ⟨b, _, none⟩) hb0).trans hc0
      have q1 := Nat.lt_of_lt_of_le hb0 hE.size
      generalize f.getD k [] = y at *
      clear hcap hhr
      generalize y.length = yl at *
      by_cases h50 : 50 < yl
      · have HRR := hid (show R = true by rw [HR.out, HLO.out, HMI.out (decide_eq_true h50)]; rfl)
        clear HST HMI HA HR HC HH HE0 HE5 HL1 HL2
        go_wp2
        go_ret
        exact ⟨ret_bool HRR.out.symm, hE⟩
      · have HN2 := hid (HST.out.trans (by rw [HA.out, decide_eq_false h50] <;> rfl))
        clear HST HMI HA HR HC HH HE0 HE5 HL1 HL2
        go_wp2
        go_roundw
        case rel => exact ⟨hE, K0, k + 1, by omega, by go_num, HN2⟩
        case measure => simp [intOf]; omega
    · obtain rfl : k = n := by omega
      have hLB : LB = false := by
        have := HA.out
        rw [List.take_of_length_le (by rw [HN.out]; exact Nat.le_refl _)] at this
        rw [HLO.out, this]
      have HRR := hid (show R = (decide (FE = 0) && (decide (4 < k) || decide (12 < N))) by rw [HR.out, hLB]; rfl)
      have HC2 := hid (HC.out hLB)
      clear HA HR HC HL1 HL2 HLO hLB
      go_wp2_with fail
      refine (HC2.out _ hE).mono ?_
      rintro e w2 ⟨rfl, hE2⟩
      have E2 := hid (hE.trans hE2)
      have J0 := hid (show Blk _ _ _ _ from K0.out.ext hE2)
      clear hE2 K0 a0 z0 hE HC2
      have a0 := J0.out.cell 0
      have z0 := J0.out.lt
      simp only [List.getElem?_toArray, List.getElem?_cons_zero] at a0
      obtain rfl | rfl := HE5.out
      · have h0 := HE0.out rfl
        have HH2 := hid (HH.out h0)
        clear HE0 HE5 HH
        by_cases h4 : 4 < k
        · have HR2 := hid (show R = true by rw [HRR.out, decide_eq_true h4]; rfl)
          clear HRR HH2
          go_wp2
          go_ret
          exact ⟨ret_bool HR2.out.symm, E2.out⟩
        · have HR2 := hid (show R = decide (12 < N) by rw [HRR.out, decide_eq_false h4]; rfl)
          clear HRR
          go_wp2_with fail
          refine (HH2.out _ E2.out).mono ?_
          rintro e w3 ⟨rfl, hE3⟩
          have E3 := hid (E2.out.trans hE3)
          clear HH2 hE3
          go_wp2
          go_ret
          exact ⟨ret_bool (by rw [HR2.out, Bool.eq_iff_iff]; simp <;> omega), E3.out⟩
      · have HR2 := hid (show R = false by rw [HRR.out]; rfl)
        clear HRR HE0 HE5 HH
        go_wp2
        go_ret
        exact ⟨ret_bool HR2.out.symm, E2.out⟩
/-- A possible weather, of a forecast that is looked at. -/
def wthB (f : List (List Hr)) (seen : List Sg) (skies : List Sk) : Bool := !farB f seen.length && (decide (seenE f seen = 0) && weaB f seen skies)
end Go.Proofs.YtecamnhnjmldcaaGreatDoor
/- weathers. -/
set_option linter.unusedSimpArgs false
set_option linter.unusedVariables false
namespace Go.Proofs.YtecamnhnjmldcaaGreatDoor
open Go.RowKit
/-- A forecast and observations as arguments. -/
structure AIn (w : World) (f : List (List Hr)) (A : Option Addr) (n : Nat) (seen : List Sg) (SA : Option Addr) (m : Nat) : Prop where
  hn : f.length = n
  hl : seen.length = m
  hwf : ∀ s ∈ seen, (Lit.int .i64 s.hour).wf = true
  sc : ScsAt w A f
  sg : SgsAt w SA seen
  wid : WidW w
theorem AIn.ext {w w' : World} {f : List (List Hr)} {A : Option Addr} {n : Nat} {seen : List Sg} {SA : Option Addr} {m : Nat} (h : AIn w f A n seen SA m) (e : Ext w w') : AIn w' f A n seen SA m :=
  ⟨h.hn, h.hl, h.hwf, h.sc.ext e, h.sg.ext e, h.wid.ext e⟩
theorem AIn.fin {w : World} {f : List (List Hr)} {A : Option Addr} {n : Nat} {seen : List Sg} {SA : Option Addr} {m : Nat} (h : AIn w f A n seen SA m) (hf : farB f m = false) : FIn w f A n seen SA m := by
  have nf := farB_not hf
  exact ⟨h.hn, by rw [← h.hn]; have := nf.n8; omega, fun x hx => by have := nf.len x hx; omega, h.hl, by have := nf.m22; omega, h.hwf, h.sc, h.sg, h.wid⟩
theorem seenE_ok {f : List (List Hr)} {seen : List Sg} (h : seenE f seen = 0) : fcE f = 0 ∧ sgE f seen = 0 := by
  unfold seenE at h
  by_cases hz : fcE f = 0
  · rw [if_pos hz] at h; exact ⟨hz, h⟩
  · rw [if_neg hz] at h; cases h
set_option maxHeartbeats 4000000 in
set_option maxRecDepth 100000 in
theorem weathers_any (f : List (List Hr)) (A : Option Addr) (n c : Nat) (seen : List Sg) (SA : Option Addr) (m sc : Nat) (skies : List Sk) (KA : Option Addr) (kn kc : Nat) (hkn : skies.length = kn) (hkn2 : kn ≤ 1000) (w : World) (h : AIn w f A n seen SA m) (hks : SksAt w KA skies) :
    Calls Tryz.prog 24 #[.agg #[.slice A n c], .slice SA m sc, .slice KA kn kc] w fun e w' => e = .returned (.bool (wthB f seen skies)) ∧ Ext w w' := by
  have HF := hid (fun (W : World) (hW : Ext w W) => far_any f A n c h.hn SA m sc W (h.sc.ext hW))
  have B0 := hid (show Blk _ _ _ _ from blk_last w (.cells #[.slice A n c] 24))
  unfold wthB
  rw [h.hl]
  cases hb : farB f m
  case true =>
    rw [hb] at HF
    clear h hks hkn hb
    go_enter Tryz.func24, Tryz.ntmps24
    go_wp2_with fail
    refine (HF.out _ (by (repeat' (first | with_reducible assumption | with_reducible exact Ext.refl _ | with_reducible refine Ext.alloc ?_ _ | with_reducible refine Ext.set ?_ ?_ _ | with_reducible refine Ext.drew ?_ | with_reducible refine Ext.drewN ?_ _ | with_reducible refine Ext.trans ?_ (by assumption) | (dsimp only; omega))))).mono ?_
    rintro e w2 ⟨rfl, hE⟩
    have E2 : Ext w w2 := by (repeat' (first | with_reducible assumption | with_reducible exact Ext.refl _ | with_reducible refine Ext.alloc ?_ _ | with_reducible refine Ext.set ?_ ?_ _ | with_reducible refine Ext.drew ?_ | with_reducible refine Ext.drewN ?_ _ | with_reducible refine Ext.trans ?_ (by assumption) | (dsimp only; omega)))
    go_wp2
    go_ret
    exact ⟨rfl, E2⟩
  rw [hb] at HF
  have HC := hid (fun (W : World) (hW : Ext w W) => rSeen_any f A n c seen SA m sc W ((h.fin hb).ext hW))
  by_cases hz : seenE f seen = 0
  case neg =>
    rw [decide_eq_false hz]
    clear h hks hkn hb
    generalize seenE f seen = SE at *
    have hd : (SE == 0) = false := by simp [hz]
    clear hz
    go_enter Tryz.func24, Tryz.ntmps24
    go_wp2_with fail
    refine (HF.out _ (by (repeat' (first | with_reducible assumption | with_reducible exact Ext.refl _ | with_reducible refine Ext.alloc ?_ _ | with_reducible refine Ext.set ?_ ?_ _ | with_reducible refine Ext.drew ?_ | with_reducible refine Ext.drewN ?_ _ | with_reducible refine Ext.trans ?_ (by assumption) | (dsimp only; omega))))).mono ?_
    rintro e w2 ⟨rfl, hE⟩
    have E2 : Ext w w2 := by (repeat' (first | with_reducible assumption | with_reducible exact Ext.refl _ | with_reducible refine Ext.alloc ?_ _ | with_reducible refine Ext.set ?_ ?_ _ | with_reducible refine Ext.drew ?_ | with_reducible refine Ext.drewN ?_ _ | with_reducible refine Ext.trans ?_ (by assumption) | (dsimp only; omega)))
    have K2 := hid (show Blk _ _ _ _ from B0.out.ext hE)
    have a0 := K2.out.cell 0
    have z0 := K2.out.lt
    simp only [List.getElem?_toArray, List.getElem?_cons_zero] at a0
    clear hE B0
    go_wp2_with fail
    refine (HC.out _ E2).mono ?_
    rintro e w3 ⟨rfl, hE⟩
    have E3 := E2.trans hE
    clear hE K2 a0 z0
    go_wp2
    go_ret
    exact ⟨rfl, E3⟩
  have ok := seenE_ok hz
  have HW := hid (fun (W : World) (hW : Ext w W) => rWeather_any f A n c seen SA m sc skies KA kn kc hkn hkn2 W ((h.fin hb).ext hW) (fcE_ok ok.1) (sgE_ok ok.2) (hks.ext hW))
  rw [decide_eq_true hz]
  rw [hz] at HC
  clear h hks hkn hb hz ok
  generalize weaB f seen skies = B at *
  go_enter Tryz.func24, Tryz.ntmps24
  go_wp2_with fail
  refine (HF.out _ (by (repeat' (first | with_reducible assumption | with_reducible exact Ext.refl _ | with_reducible refine Ext.alloc ?_ _ | with_reducible refine Ext.set ?_ ?_ _ | with_reducible refine Ext.drew ?_ | with_reducible refine Ext.drewN ?_ _ | with_reducible refine Ext.trans ?_ (by assumption) | (dsimp only; omega))))).mono ?_
  rintro e w2 ⟨rfl, hE⟩
  have E2 : Ext w w2 := by (repeat' (first | with_reducible assumption | with_reducible exact Ext.refl _ | with_reducible refine Ext.alloc ?_ _ | with_reducible refine Ext.set ?_ ?_ _ | with_reducible refine Ext.drew ?_ | with_reducible refine Ext.drewN ?_ _ | with_reducible refine Ext.trans ?_ (by assumption) | (dsimp only; omega)))
  have K2 := hid (show Blk _ _ _ _ from B0.out.ext hE)
  have a0 := K2.out.cell 0
  have z0 := K2.out.lt
  simp only [List.getElem?_toArray, List.getElem?_cons_zero] at a0
  clear hE B0
  go_wp2_with fail
  refine (HC.out _ E2).mono ?_
  rintro e w3 ⟨rfl, hE⟩
  have E3 := E2.trans hE
  have K3 := hid (show Blk _ _ _ _ from K2.out.ext hE)
  clear hE K2 a0 z0
  have a0 := K3.out.cell 0
  have z0 := K3.out.lt
  simp only [List.getElem?_toArray, List.getElem?_cons_zero] at a0
  go_wp2_with fail
  refine (HW.out _ E3).mono ?_
  rintro e w4 ⟨rfl, hE⟩
  have E4 := E3.trans hE
  clear hE K3 a0 z0
  go_wp2
  go_ret
  exact ⟨ret_bool (by first | rfl | simp), E4⟩
end Go.Proofs.YtecamnhnjmldcaaGreatDoor
/- Begin and Lacks of the specification. -/
set_option linter.unusedSimpArgs false
set_option linter.unusedVariables false
namespace Go.Proofs.YtecamnhnjmldcaaGreatDoor
open Go.RowKit
theorem begF_out {l : List Bool} {len k h : Nat} (hlt : l.length < h + len) : begF l len k h = -1 := by
  cases k with
  | zero => rfl
  | succ k => unfold begF; rw [if_pos hlt]
theorem begF_hit {l : List Bool} {len k h : Nat} (hlt : ¬ l.length < h + len) (ha : ((l.drop h).take len).all id = true) : begF l len (k + 1) h = h := by
  unfold begF; rw [if_neg hlt, if_pos ha]
theorem begF_miss {l : List Bool} {len k h : Nat} (hlt : ¬ l.length < h + len) (ha : ((l.drop h).take len).all id = false) : begF l len (k + 1) h = begF l len k (h + 1) := by
  rw [begF, if_neg hlt, ha]; rfl
theorem part_step (l : List Bool) (h j : Nat) (hlt : h + j < l.length) : ((l.drop h).take (j + 1)).all id = (((l.drop h).take j).all id && l.getD (h + j) false) := by
  have := all_take_snoc (l.drop h) id false j (by rw [List.length_drop]; omega)
  rw [this]
  congr 1
  simp [List.getD, List.getElem?_drop]
set_option maxHeartbeats 4000000 in
set_option maxRecDepth 100000 in
theorem begin_anyB (l : List Bool) (A : Option Addr) (n c : Nat) (hn : l.length = n) (hn2 : n ≤ 1000) (len : Nat) (hl : 1 ≤ len) (hl2 : len ≤ 1000) (w : World) (hx : BosAt w A l) :
    Calls Tryz.prog 54 #[.slice A n c, .int .i64 len] w fun e w' => e = .returned (.int .i64 (begV l len)) ∧ w' = w := by
  have HX := hid hx
  have HN := hid hn
  obtain ⟨R, hR⟩ : ∃ R, begV l len = R := ⟨_, rfl⟩
  have HR := hid (show R = begF l len (n + 1) 0 by rw [← hR]; unfold begV; rw [hn])
  rw [hR]
  clear hx hn hR
  go_enter Tryz.func54, Tryz.ntmps54
  go_wp2
  go_loop [5] (fun i => ∃ h : Nat, h ≤ n ∧ i = .int .i64 h ∧ Hid (R = begF l len (n + 1 - h) h)) (fun i => n + 1 - (intOf i).toNat)
  case atStart => exact ⟨0, Nat.zero_le _, rfl, HR⟩
  case round =>
    obtain ⟨h, hh, rfl, HQ⟩ := hrel
    clear HR
    by_cases hlt : h + len ≤ n
    · have HM1 := hid (fun ha => begF_hit (l := l) (len := len) (k := n - h) (h := h) (by rw [HN.out]; omega) ha)
      have HM2 := hid (fun ha => begF_miss (l := l) (len := len) (k := n - h) (h := h) (by rw [HN.out]; omega) ha)
      have eN : n + 1 - h = n - h + 1 := by omega
      have eN2 : n + 1 - (h + 1) = n - h := by omega
      rw [eN] at HQ
      go_wp2
      go_loop [6, 7] (fun b i => ∃ k : Nat, h ≤ k ∧ k ≤ h + len ∧ i = .int .i64 k ∧ b = .bool (((l.drop h).take (k - h)).all id)) (fun _ i => h + len - (intOf i).toNat)
      case atStart => exact ⟨h, Nat.le_refl _, by omega, rfl, by rw [Nat.sub_self]; rfl⟩
      case round =>
        obtain ⟨k, hk1, hk2, rfl, rfl⟩ := hrel
        by_cases hlt2 : k < h + len
        · obtain ⟨b, off, rfl, hb, q⟩ := HX.out.at_ HN.out (show k < n by omega)
          have q' : w.cell? ⟨b, off + k, none⟩ = some (.bool (l.getD k false)) := q
          have HS := hid (part_step l h (k - h) (by rw [HN.out]; omega))
          have ek : h + (k - h) = k := by omega
          have ek2 : k + 1 - h = k - h + 1 := by omega
          rw [ek] at HS
          generalize l.getD k false = v at *
          clear q HM1 HM2 HQ
          obtain ⟨u, hu⟩ : ∃ u, ((l.drop h).take (k - h)).all id = u := ⟨_, rfl⟩
          rw [hu] at HS ⊢
          clear hu
          cases u
          · go_wp2
            go_round
            case rel => exact ⟨k + 1, by omega, by omega, by go_num, by rw [ek2, HS.out]; rfl⟩
            case measure => simp [intOf]; omega
          · go_wp2
            go_round
            case rel => exact ⟨k + 1, by omega, by omega, by go_num, by rw [ek2, HS.out]; rfl⟩
            case measure => simp [intOf]; omega
        · obtain rfl : k = h + len := by omega
          have ek : h + len - h = len := by omega
          rw [ek]
          obtain ⟨u, hu⟩ : ∃ u, ((l.drop h).take len).all id = u := ⟨_, rfl⟩
          rw [hu] at HM1 HM2 ⊢
          clear hu ek
          cases u
          · have HM := hid (HQ.out.trans (HM2.out rfl))
            clear HM1 HM2 HQ
            go_wp2
            go_round
            case rel => exact ⟨h + 1, by omega, by go_num, hid (by rw [eN2]; exact HM.out)⟩
            case measure => simp [intOf]; omega
          · have HM := hid (HQ.out.trans (HM1.out rfl))
            clear HM1 HM2 HQ
            go_wp2
            go_ret
            exact ⟨ret_int HM.out.symm, rfl⟩
    · have HM := hid (HQ.out.trans (begF_out (by rw [HN.out]; omega)))
      go_wp2
      go_ret
      exact ⟨ret_int HM.out.symm, rfl⟩
theorem BosAt.part {w : World} {b off : Nat} {l : List Bool} (h : BosAt w (some ⟨b, off, none⟩) l) (i j : Nat) (hij : i + j ≤ l.length) : BosAt w (some ⟨b, off + i, none⟩) ((l.drop i).take j) := fun hne => by
  have hj : 0 < j := by
    rcases Nat.eq_zero_or_pos j with h0 | h0
    · subst h0; simp at hne
    · exact h0
  obtain ⟨b', off', hA, hb, hc⟩ := h (by rintro rfl; simp at hij; omega)
  cases hA
  refine ⟨b, off + i, rfl, hb, fun k hk => ?_⟩
  have hkj : k < j := by
    rw [List.length_take, List.length_drop] at hk
    omega
  have hck := hc (i + k) (by omega)
  have e1 : off + (i + k) = off + i + k := by omega
  have e2 : ((l.drop i).take j).getD k false = l.getD (i + k) false := by
    simp only [List.getD_eq_getElem?_getD]
    rw [List.getElem?_take_of_lt hkj, List.getElem?_drop]
  rw [e1] at hck
  rw [e2]
  exact hck
theorem lack1_step (l : List Bool) (len a k m : Nat) : lack1 l len a (k + 1) m = if begV ((l.drop a).take (k + 1)) len < 0 then max (lack1 l len a k m) (k + 1) else lack1 l len a k m := by
  unfold lack1
  rw [List.range_succ, List.foldl_append]
  rfl
theorem lackK_step (l : List Bool) (len k : Nat) : lackK l len (k + 1) = lack1 l len k (l.length - k) (lackK l len k) := by
  unfold lackK
  rw [List.range_succ, List.foldl_append]
  rfl
theorem lack1_le (l : List Bool) (len a B : Nat) : ∀ k m, k ≤ B → m ≤ B → lack1 l len a k m ≤ B
  | 0, m, _, hm => hm
  | k + 1, m, hk, hm => by
    rw [lack1_step]
    have := lack1_le l len a B k m (by omega) hm
    split <;> omega
theorem lackK_le (l : List Bool) (len : Nat) : ∀ k, lackK l len k ≤ l.length
  | 0 => Nat.zero_le _
  | k + 1 => by
    rw [lackK_step]
    exact lack1_le l len k _ _ _ (by omega) (lackK_le l len k)
set_option maxHeartbeats 4000000 in
set_option maxRecDepth 100000 in
theorem lacks_any (l : List Bool) (A : Option Addr) (n c : Nat) (hn : l.length = n) (hc : n ≤ c) (hn2 : n ≤ 1000) (len : Nat) (hl : 1 ≤ len) (hl2 : len ≤ 1000) (w : World) (hx : BosAt w A l) :
    Calls Tryz.prog 56 #[.slice A n c, .int .i64 len] w fun e w' => e = .returned (.int .i64 (lackV l len : Nat)) ∧ w' = w := by
  have HN := hid hn
  have HX := hid hx
  have HB := hid (fun (b off : Nat) (hA : A = some ⟨b, off, none⟩) (a k cc : Nat) (h : a + k ≤ n) =>
    begin_anyB ((l.drop a).take k) (some ⟨b, off + a, none⟩) k cc (by rw [List.length_take, List.length_drop, HN.out]; omega) (by omega) len hl hl2 w ((hA ▸ HX.out : BosAt w (some ⟨b, off, none⟩) l).part a k (by rw [HN.out]; exact h)))
  have HS1 := hid (fun a k m => lack1_step l len a k m)
  have HSK := hid (fun k => (lackK_step l len k).trans (by rw [HN.out]))
  have HL1 := hid (fun a k m h1 h2 => lack1_le l len a n k m h1 h2)
  have HLK := hid (fun k => (show lackK l len k ≤ n by rw [← HN.out]; exact lackK_le l len k))
  have HV := hid (show lackV l len = lackK l len n by unfold lackV; rw [HN.out])
  have H0 := hid (show lackK l len 0 = 0 from rfl)
  have H10 := hid (fun a m => show lack1 l len a 0 m = m from rfl)
  generalize lackV l len = R at *
  generalize lackK l len = LK at *
  generalize lack1 l len = L1 at *
  clear hn hx
  go_enter Tryz.func56, Tryz.ntmps56
  go_wp2
  go_loop [5, 6] (fun m i => ∃ a : Nat, a ≤ n ∧ i = .int .i64 a ∧ m = .int .i64 (LK a : Nat)) (fun _ i => n - (intOf i).toNat)
  case atStart => exact ⟨0, Nat.zero_le _, rfl, by rw [H0.out]; rfl⟩
  case round =>
    obtain ⟨a, ha, rfl, rfl⟩ := hrel
    by_cases hlt : a < n
    · obtain ⟨b0, off, rfl, hb, -⟩ := HX.out.at_ HN.out hlt
      have HB2 := hid (HB.out b0 off rfl a)
      have HSA := hid (HSK.out a)
      have hla := HLK.out a
      generalize LK a = m0 at *
      clear HB HSK HLK HX
      go_wp2
      go_loop [5, 7] (fun m i => ∃ k : Nat, a ≤ k ∧ k ≤ n ∧ i = .int .i64 k ∧ m = .int .i64 (L1 a (k - a) m0 : Nat)) (fun _ i => n - (intOf i).toNat)
      case atStart => exact ⟨a, Nat.le_refl _, by omega, rfl, by rw [Nat.sub_self, H10.out]⟩
      case round =>
        obtain ⟨k, hk1, hk2, rfl, rfl⟩ := hrel
        by_cases hlt2 : k < n
        · have HB3 := hid (fun cc => HB2.out (k - a + 1) cc (by omega))
          have HS2 := hid (HS1.out a (k - a) m0)
          have hl3 := HL1.out a (k - a) m0 (by omega) (by omega)
          generalize begV ((l.drop a).take (k - a + 1)) len = bv at *
          generalize L1 a (k - a) m0 = m1 at *
          have ek : k + 1 - a = k - a + 1 := by omega
          clear HB2 HS1 HL1 H10 H0 HV
          go_wp2_with fail
          refine (HB3.out _).mono ?_
          rintro e w2 ⟨rfl, rfl⟩
          by_cases hbv : bv < 0
          · rw [if_pos hbv] at HS2
            by_cases hm : m1 < k - a + 1
            · have hm1 : (m1 : Int) < (k : Int) + 1 - (a : Int) := by omega
              have HM := hid (show max m1 (k - a + 1) = k - a + 1 by omega)
              go_wp2
              go_round
              case rel => exact ⟨k + 1, by omega, by omega, by go_num, by rw [ek, HS2.out, HM.out]; congr 1; omega⟩
              case measure => simp [intOf]; omega
            · have hm1 : ¬ (m1 : Int) < (k : Int) + 1 - (a : Int) := by omega
              have HM := hid (show max m1 (k - a + 1) = m1 by omega)
              go_wp2
              go_round
              case rel => exact ⟨k + 1, by omega, by omega, by go_num, by rw [ek, HS2.out, HM.out]⟩
              case measure => simp [intOf]; omega
          · rw [if_neg hbv] at HS2
            go_wp2
            go_round
            case rel => exact ⟨k + 1, by omega, by omega, by go_num, by rw [ek, HS2.out]⟩
            case measure => simp [intOf]; omega
        · obtain rfl : k = n := by omega
          have HSB := hid HSA.out.symm
          go_wp2
          go_round
          case rel => exact ⟨a + 1, by omega, by go_num, by rw [HSA.out]⟩
          case measure => simp [intOf]; omega
    · obtain rfl : a = n := by omega
      go_wp2
      go_ret
      exact ⟨ret_int (by rw [HV.out]), rfl⟩
end Go.Proofs.YtecamnhnjmldcaaGreatDoor
/- One more truth value in a slice of the call's own; what lies below a number of blocks. -/
set_option linter.unusedSimpArgs false
set_option linter.unusedVariables false
namespace Go.Proofs.YtecamnhnjmldcaaGreatDoor
open Go.RowKit
def gBo (x : Bool) : List Value := [.bool x]
theorem oneBo : ∀ y : Bool, ∀ u ∈ gBo y, u.oneCell' = true := by
  intro y u hu
  simp only [gBo, List.mem_cons, List.not_mem_nil, or_false] at hu
  subst hu
  rfl
theorem flat_bos {w : World} {A : Option Addr} {xs : List Bool} : FlatAt 1 gBo false w A xs ↔ BosAt w A xs := by
  constructor
  · intro h hne
    obtain ⟨b, off, hA, hb, hc⟩ := h hne
    exact ⟨b, off, hA, hb, fun k hk => by have := hc k hk 0 (by omega); rw [Nat.mul_one, Nat.add_zero] at this; exact this⟩
  · intro h hne
    obtain ⟨b, off, hA, hb, hc⟩ := h hne
    refine ⟨b, off, hA, hb, fun k hk r hr => ?_⟩
    obtain rfl : r = 0 := by omega
    have := hc k hk
    rw [Nat.mul_one, Nat.add_zero]
    exact this
theorem infoBo : (Tryz.prog.info? 4).map (fun i => (i.zero, i.size, i.bytes)) = some (some (.bool false), 1, 1) := by kernel_rfl
/-- append of one truth value to a slice of the call's own, as one operation of a region. -/
theorem wp_app1Bo {o : Oper} {a : Act} {K : Act → World → Prop} {Q : Exit → Act → World → Prop} (w : World) (s x : Operand)
    (hop : o.op = Op.call { callee := Callee.builtin Builtin.append, args := #[s, x], argTypes := #[109, 109] }) (B : Nat) (v : Value) (xs : List Bool) (hs : a.eval s = v) (hown : Ownl 4 1 gBo w B v xs)
    (z : Nat) (y : Bool) (hx : a.eval x = .slice (some ⟨z, 0, none⟩) 1 1) (hy : w.cell? ⟨z, 0, none⟩ = some (.bool y)) (hl : xs.length ≤ 10000) (hB : B ≤ w.heap.size)
    (hK : ∀ v' w', Ownl 4 1 gBo w' B v' (xs ++ [y]) → w.grownBy w' v.ownBlock → K (a.put o.dst v') w') : o.wp Tryz.prog a w K Q := by
  obtain ⟨i0, hi, hz0, hz1, hz2⟩ := info_parts infoBo
  refine wp_append_own w s x 109 hop B 4 i0 _ 1 1 Tryz.underlying109 hi hz0 hz1 hz2 rfl (by decide) v xs.length (xs.flatMap gBo) hs hown ⟨z, 0, none⟩ 1 1 (gBo y) hx rfl ?_ (oneBo y) (by unfold maxLen; omega) (by omega) hB (fun v' w' h1 h2 _ => hK v' w' (Ownl.snoc h1) h2)
  intro j u hj
  cases j with
  | zero =>
    simp [gBo] at hj
    subst hj
    rw [addr_add]
    exact hy
  | succ j => simp [gBo] at hj
theorem sB {W X : World} {n : Nat} (h : Below n W X) (hn : n ≤ W.heap.size) : (∀ b o, b < n → X.cell? ⟨b, o, none⟩ = W.cell? ⟨b, o, none⟩) ∧ n ≤ X.heap.size := ⟨fun _ _ hb => Below.cell h hb, Nat.le_trans hn h.size⟩
end Go.Proofs.YtecamnhnjmldcaaGreatDoor
/- What holds of a scenario and of each observation holds of the observed. -/
set_option linter.unusedSimpArgs false
set_option linter.unusedVariables false
namespace Go.Proofs.YtecamnhnjmldcaaGreatDoor
open Go.RowKit
theorem obsM_all (P : Nat → Hr → Prop) : ∀ (seen : List Sg) (hs : List Hr), (∀ h, h < hs.length → P h (hs.getD h zeroHr)) → (∀ s ∈ seen, s.hour.toNat < hs.length → P s.hour.toNat (justM s)) → ∀ h, h < hs.length → P h ((obsM seen hs).getD h zeroHr)
  | [], hs, h1, _, h, hh => h1 h hh
  | s :: ss, hs, h1, h2, h, hh => by
    have e : obsM (s :: ss) hs = obsM ss (hs.set s.hour.toNat (justM s)) := rfl
    rw [e]
    refine obsM_all P ss _ (fun i hi => ?_) (fun t ht hl => h2 t (by simp [ht]) (by rw [List.length_set] at hl; exact hl)) h (by rw [List.length_set]; exact hh)
    rw [List.length_set] at hi
    by_cases hie : i = s.hour.toNat
    · subst hie
      have e2 : (hs.set s.hour.toNat (justM s)).getD s.hour.toNat zeroHr = justM s := by
        simp [List.getD, List.getElem?_set_self hi]
      rw [e2]
      exact h2 s (by simp) hi
    · have e2 : (hs.set s.hour.toNat (justM s)).getD i zeroHr = hs.getD i zeroHr := by
        have hne : s.hour.toNat ≠ i := fun h => hie h.symm
        simp [List.getD, List.getElem?_set_ne hne]
      rw [e2]
      exact h1 i hi
end Go.Proofs.YtecamnhnjmldcaaGreatDoor
/- What a region leaves alone that stores into one block. -/
set_option linter.unusedSimpArgs false
set_option linter.unusedVariables false
namespace Go.Proofs.YtecamnhnjmldcaaGreatDoor
open Go.RowKit
theorem sG {U X : World} (e : Ext U X) (G : Nat) : (∀ b o, b < U.heap.size → ¬ b = G → X.cell? ⟨b, o, none⟩ = U.cell? ⟨b, o, none⟩) ∧ U.heap.size ≤ X.heap.size := ⟨fun _ _ hb _ => e.cell hb, e.size⟩
theorem cell_setCells_other {G : Nat} : ∀ (vs : List Value) (o : Nat) (X : World) (b p : Nat), ¬ b = G → (X.setCells G o vs).cell? ⟨b, p, none⟩ = X.cell? ⟨b, p, none⟩
  | [], _, _, _, _, _ => rfl
  | v :: r, o, X, b, p, h => by
    show ((X.setCell ⟨G, o, none⟩ v).setCells G (o + 1) r).cell? _ = _
    rw [cell_setCells_other r (o + 1) _ b p h]
    exact World.cell?_setCell_other X ⟨G, o, none⟩ ⟨b, p, none⟩ v (fun e => by injection e with e; first | exact h e | exact h e.symm)
theorem size_setCells {G : Nat} : ∀ (vs : List Value) (o : Nat) (X : World), (X.setCells G o vs).heap.size = X.heap.size
  | [], _, _ => rfl
  | v :: r, o, X => by
    show ((X.setCell ⟨G, o, none⟩ v).setCells G (o + 1) r).heap.size = _
    rw [size_setCells r (o + 1)]
    simp
theorem sGs {U X : World} (e : Ext U X) (G o : Nat) (vs : List Value) : (∀ b p, b < U.heap.size → ¬ b = G → (X.setCells G o vs).cell? ⟨b, p, none⟩ = U.cell? ⟨b, p, none⟩) ∧ U.heap.size ≤ (X.setCells G o vs).heap.size :=
  ⟨fun b p hb hn => (cell_setCells_other vs o X b p hn).trans (e.cell hb), by rw [size_setCells]; exact e.size⟩
end Go.Proofs.YtecamnhnjmldcaaGreatDoor
/- An hour as cells. -/
set_option linter.unusedSimpArgs false
set_option linter.unusedVariables false
namespace Go.Proofs.YtecamnhnjmldcaaGreatDoor
open Go.RowKit
def hrCells (h : Hr) : Array Value := #[.int .i64 h.wl, .int .i64 h.wh, .int .i64 h.rl, .int .i64 h.rh, .int .i64 h.tl, .int .i64 h.th]
theorem infoHr1 : (Tryz.prog.info? 143).map (·.size) = some 6 := by kernel_rfl
theorem hr_one (h : Hr) : (hrCells h).all (·.oneCell') = true :=
  one_of (vs := [.int .i64 h.wl, .int .i64 h.wh, .int .i64 h.rl, .int .i64 h.rh, .int .i64 h.tl, .int .i64 h.th]) (by intro v hv; simp only [List.mem_cons, List.not_mem_nil, or_false] at hv; rcases hv with rfl | rfl | rfl | rfl | rfl | rfl <;> rfl)
end Go.Proofs.YtecamnhnjmldcaaGreatDoor
