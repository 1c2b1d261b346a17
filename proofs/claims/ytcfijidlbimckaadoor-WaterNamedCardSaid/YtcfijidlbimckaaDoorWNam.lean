/- The law of the samples that contradict each other. -/
import Derived.Test.YtcfijidlbimckaaDoorVal
import Derived.Test.YtcfijidlbimckaaDoorConM
import Derived.Test.YtcfijidlbimckaaDoorCpyO2
import Derived.BigQuiet
set_option linter.unusedSimpArgs false
set_option linter.unusedVariables false
namespace Go.Proofs.YtcfijidlbimckaaDoor
open Go.RowKit
/-- append of one sample to a row of one's own, as one operation of a region. -/
theorem wp_app1S {o : Oper} {a : Act} {K : Act → World → Prop} {Q : Exit → Act → World → Prop} (w : World) (s x : Operand)
    (hop : o.op = Op.call { callee := Callee.builtin Builtin.append, args := #[s, x], argTypes := #[23, 23] }) (B : Nat) (v : Value) (xs : List Smp) (hs : a.eval s = v) (hown : OwnS w B v xs)
    (ad : Addr) (y : Smp) (hx : a.eval x = .slice (some ad) 1 1) (hy : ∀ j u, (gSmp y)[j]? = some u → w.cell? (ad.add j) = some u) (hl : xs.length ≤ 1000) (hB : B ≤ w.heap.size)
    (hK : ∀ v' w', OwnS w' B v' (xs ++ [y]) → w.grownBy w' v.ownBlock → K (a.put o.dst v') w') : o.wp Tryd.prog a w K Q := by
  obtain ⟨i0, hi, hz0, hz1, hz2⟩ := info_parts infoSmp
  refine wp_append_own w s x 23 hop B 43 i0 zvSmp 2 16 Tryd.underlying23 hi hz0 hz1 hz2 rfl (by decide) v xs.length (cellsSmp xs) hs hown ad 1 1 (gSmp y) hx rfl hy (by intro u hu; simp only [gSmp, List.mem_cons, List.not_mem_nil, or_false] at hu; rcases hu with rfl | rfl <;> rfl) (by unfold maxLen; omega) (by omega) hB (fun v' w' h1 h2 _ => hK v' w' ?_ h2)
  unfold OwnS
  rw [cellsSmp_snoc, List.length_append]
  exact h1
set_option maxHeartbeats 8000000 in
set_option maxRecDepth 100000 in
theorem waterNamed_any (d : Wat) (A : WA) (w : World) (hW : WIn w d A) (hT : TabW w) :
    Calls Tryd.prog 5 #[wval d A] w fun e w' => e = .returned (.bool true) ∧ Ext w w' := by
  have HV := hid (fun W (hE : Ext w W) => valid_any d A W (hW.ext hE))
  have HWK := hid (fun W (hE : Ext w W) => works_any W (hT.ext hE))
  have BN := hid (Blk.new w 25 (wcells d A))
  cases hv : validB d
  case false =>
    rw [hv] at HV
    clear hv
    clear hW hT
    unfold wval wcells at *
    obtain ⟨spr, most, miss, al, smp⟩ := d
    obtain ⟨SA, sc, MA, mc⟩ := A
    dsimp only at *
    generalize hsn : spr.length = n at *
    generalize hsm : smp.length = m at *
    go_enter Tryd.func5, Tryd.ntmps5
    go_wp2_with fail
    refine (HV.out _ (by (repeat' (first | with_reducible assumption | with_reducible exact Ext.refl _ | with_reducible refine Ext.alloc ?_ _ | with_reducible refine Ext.set ?_ ?_ _ | with_reducible refine Ext.drew ?_ | with_reducible refine Ext.drewN ?_ _ | with_reducible refine Ext.trans ?_ (by assumption) | (dsimp only; omega))))).mono ?_
    rintro e w2 ⟨rfl, hE⟩
    have E : Ext w w2 := by (repeat' (first | with_reducible assumption | with_reducible exact Ext.refl _ | with_reducible refine Ext.alloc ?_ _ | with_reducible refine Ext.set ?_ ?_ _ | with_reducible refine Ext.drew ?_ | with_reducible refine Ext.drewN ?_ _ | with_reducible refine Ext.trans ?_ (by assumption) | (dsimp only; omega)))
    have HB := hid (BN.out.ext hE)
    clear hE BN
    have d0 := HB.out.cell 0
    have d1 := HB.out.cell 1
    have d2 := HB.out.cell 2
    have d3 := HB.out.cell 3
    have d4 := HB.out.cell 4
    simp only [List.getElem?_toArray, List.getElem?_cons_zero, List.getElem?_cons_succ] at d0 d1 d2 d3 d4
    have dz := HB.out.lt
    go_wp2_with fail
    refine (HWK.out _ E).mono ?_
    rintro e w9 ⟨rfl, hE⟩
    replace E := E.trans hE
    clear hE
    go_wp2
    go_ret
    exact ⟨rfl, E⟩
  have hwb : watB d = true := by unfold validB at hv; simp at hv; exact hv.2
  have hok := watB_ok hwb
  have hn8 := hok.n8
  have hm20 := hok.m20
  rw [hv] at HV
  have HTP := hid (fun W (hE : Ext w W) => truths_any d A (by omega) (by omega) W (hW.ext hE) (hT.ext hE))
  have HCF := hid (fun W (hE : Ext w W) => pconf_any d A (by omega) (by omega) W (hW.ext hE) (hT.ext hE))
  unfold ConfIs at HCF
  rcases watE_cases hwb with ⟨he, hnil⟩ | ⟨he, hnil⟩
  case inl =>
    have hc0 : conE d = 3 := by unfold conE conN; rw [if_pos hwb, if_neg hnil, if_pos rfl]
    have hcl : conI d = [] := by unfold conI; rw [hc0, if_neg (by decide)]
    rw [he] at HTP
    rw [hc0, hcl] at HCF
    have hll : ([] : List Int).length = 0 := rfl
    clear hok hwb hv he hnil hc0 hcl
    clear hW hT
    unfold wval wcells at *
    obtain ⟨spr, most, miss, al, smp⟩ := d
    obtain ⟨SA, sc, MA, mc⟩ := A
    dsimp only at *
    generalize hsn : spr.length = n at *
    generalize hsm : smp.length = m at *
    go_enter Tryd.func5, Tryd.ntmps5
    go_wp2_with fail
    refine (HV.out _ (by (repeat' (first | with_reducible assumption | with_reducible exact Ext.refl _ | with_reducible refine Ext.alloc ?_ _ | with_reducible refine Ext.set ?_ ?_ _ | with_reducible refine Ext.drew ?_ | with_reducible refine Ext.drewN ?_ _ | with_reducible refine Ext.trans ?_ (by assumption) | (dsimp only; omega))))).mono ?_
    rintro e w2 ⟨rfl, hE⟩
    have E : Ext w w2 := by (repeat' (first | with_reducible assumption | with_reducible exact Ext.refl _ | with_reducible refine Ext.alloc ?_ _ | with_reducible refine Ext.set ?_ ?_ _ | with_reducible refine Ext.drew ?_ | with_reducible refine Ext.drewN ?_ _ | with_reducible refine Ext.trans ?_ (by assumption) | (dsimp only; omega)))
    have HB := hid (BN.out.ext hE)
    clear hE BN
    have d0 := HB.out.cell 0
    have d1 := HB.out.cell 1
    have d2 := HB.out.cell 2
    have d3 := HB.out.cell 3
    have d4 := HB.out.cell 4
    simp only [List.getElem?_toArray, List.getElem?_cons_zero, List.getElem?_cons_succ] at d0 d1 d2 d3 d4
    have dz := HB.out.lt
    go_wp2_with fail
    refine (HCF.out _ E).mono ?_
    rintro e w3 ⟨v, rfl, hown, hE⟩
    obtain ⟨LA, lc, rfl, hS⟩ := hown.form
    have HI := hid hS
    clear hown hS
    rw [hll] at ⊢
    replace HB := hid (HB.out.ext hE)
    replace E := E.trans hE
    clear hE d0 d1 d2 d3 d4 dz
    have d0 := HB.out.cell 0
    have d1 := HB.out.cell 1
    have d2 := HB.out.cell 2
    have d3 := HB.out.cell 3
    have d4 := HB.out.cell 4
    simp only [List.getElem?_toArray, List.getElem?_cons_zero, List.getElem?_cons_succ] at d0 d1 d2 d3 d4
    have dz := HB.out.lt
    go_wp2_with fail
    refine (HTP.out _ E).mono ?_
    rintro e w4 ⟨v, rfl, hown, hE⟩
    obtain ⟨TA, tc, rfl, -⟩ := hown.form
    replace HI := hid (HI.out.ext hE)
    clear hown
    generalize (tlI _).length = tk at *
    replace HB := hid (HB.out.ext hE)
    replace E := E.trans hE
    clear hE d0 d1 d2 d3 d4 dz
    have d0 := HB.out.cell 0
    have d1 := HB.out.cell 1
    have d2 := HB.out.cell 2
    have d3 := HB.out.cell 3
    have d4 := HB.out.cell 4
    simp only [List.getElem?_toArray, List.getElem?_cons_zero, List.getElem?_cons_succ] at d0 d1 d2 d3 d4
    have dz := HB.out.lt
    go_wp2_with fail
    go_loopw [7] (fun i wr => Ext w wr ∧ i = .int .i64 0) (fun _ _ => 0)
    case atStart => exact ⟨E, rfl⟩
    case round =>
      obtain ⟨hE, rfl⟩ := hrel
      go_wp2_with fail
      go_loopw [8] (fun i wr => Ext w wr ∧ i = .int .i64 (-1)) (fun _ _ => 0)
      case atStart => exact ⟨hE, rfl⟩
      case round =>
        rename_i hE0
        obtain ⟨E, rfl⟩ := hrel
        go_wp2_with fail
        refine (HWK.out _ E).mono ?_
        rintro e w9 ⟨rfl, hE⟩
        replace E := E.trans hE
        clear hE
        go_wp2
        go_ret
        exact ⟨rfl, E⟩
  have hc0 : conE d = 0 := by unfold conE; rw [if_pos hwb, if_neg (conN_ne hok hnil)]
  have hcl : conI d = (bitsL (conN d)).map Int.ofNat := by unfold conI; rw [if_pos hc0]
  have hlt := conN_lt hok
  have hpos : 0 < 2 ^ d.smp.length := Nat.two_pow_pos _
  have hc20 : conN d < 2 ^ 20 := by omega
  have hin : ∀ i ∈ bitsL (conN d), i < d.smp.length := fun i hi => bitsL_lt hlt.1 hi
  have hsort := bits_sorted (conN d)
  have hlm := bits_len hlt.1 (by omega)
  have hlen : (bitsL (conN d)).length ≤ 20 := by omega
  have HLM := hid (fun k (hk : k < (bitsL (conN d)).length) => (show (bitsL (conN d)).getD k 0 < d.smp.length from hin _ (by rw [getD_at _ 0 hk]; exact List.getElem_mem hk)))
  have HSO := hid (fun k (hk : k + 1 < (bitsL (conN d)).length) => sorted_at hsort hk)
  have HGA := hid (fun k (hk : k < (bitsL (conN d)).length) => natL_at hk)
  have HNA := hid (fun (b : Int) (hb : b < 0) => named_all hwb hnil hb)
  have HNB := hid (fun (b : Nat) (hb : b < (bitsL (conN d)).length) => named_but hwb hnil hb)
  have HBS := hid (fun b k => butL_succ (bitsL (conN d)) b k)
  have hll : ((bitsL (conN d)).map Int.ofNat).length = (bitsL (conN d)).length := List.length_map _
  have HCP := hid (fun W (hE : Ext w W) => rcopy_any d A (by omega) (by omega) W (hW.ext hE))
  have HSM := hid hW.smp
  have HSE0 := hid (show selL d [] = [] from rfl)
  have HSE1 := hid (fun is y => (show selL d (is ++ [y]) = selL d is ++ [d.smp.getD y zeroSmp] by unfold selL; rw [List.map_append]; rfl))
  have HSEL := hid (fun is => (show (selL d is).length = is.length from List.length_map _))
  have HBL := hid (fun b k => (show (butL (bitsL (conN d)) b k).length ≤ k from by unfold butL; rw [List.length_map]; exact Nat.le_trans (List.length_filter_le _ _) (by simp)))
  have HB0 := hid (fun b => (show butL (bitsL (conN d)) b 0 = [] from rfl))
  have HTS := hid (fun (is : List Nat) (hl : (selL d is).length ≤ 1000) A' W (hE : Ext w W) (h0 : WIn W (subD d is) A') => truths_any (subD d is) A' (show d.spr.length ≤ 1000 by omega) hl W h0 (hT.ext hE))
  rw [he] at HTP
  rw [hc0, hcl] at HCF
  clear hok hwb hv he hnil hc0 hcl hlt hpos hc20 hin hsort
  unfold subD at *
  generalize butL (bitsL (conN d)) = bl at *
  generalize bitsL (conN d) = L at *
  generalize selL d = sel at *
  generalize hle : L.length = len at *
  generalize hLI : L.map Int.ofNat = LI at *
  generalize watE = we at *
  clear hW hT
  unfold wval wcells at *
  obtain ⟨spr, most, miss, al, smp⟩ := d
  obtain ⟨SA, sc, MA, mc⟩ := A
  dsimp only at *
  generalize hsn : spr.length = n at *
  generalize hsm : smp.length = m at *
  go_enter Tryd.func5, Tryd.ntmps5
  go_wp2_with fail
  refine (HV.out _ (by (repeat' (first | with_reducible assumption | with_reducible exact Ext.refl _ | with_reducible refine Ext.alloc ?_ _ | with_reducible refine Ext.set ?_ ?_ _ | with_reducible refine Ext.drew ?_ | with_reducible refine Ext.drewN ?_ _ | with_reducible refine Ext.trans ?_ (by assumption) | (dsimp only; omega))))).mono ?_
  rintro e w2 ⟨rfl, hE⟩
  have E : Ext w w2 := by (repeat' (first | with_reducible assumption | with_reducible exact Ext.refl _ | with_reducible refine Ext.alloc ?_ _ | with_reducible refine Ext.set ?_ ?_ _ | with_reducible refine Ext.drew ?_ | with_reducible refine Ext.drewN ?_ _ | with_reducible refine Ext.trans ?_ (by assumption) | (dsimp only; omega)))
  have HB := hid (BN.out.ext hE)
  clear hE BN
  have d0 := HB.out.cell 0
  have d1 := HB.out.cell 1
  have d2 := HB.out.cell 2
  have d3 := HB.out.cell 3
  have d4 := HB.out.cell 4
  simp only [List.getElem?_toArray, List.getElem?_cons_zero, List.getElem?_cons_succ] at d0 d1 d2 d3 d4
  have dz := HB.out.lt
  go_wp2_with fail
  refine (HCF.out _ E).mono ?_
  rintro e w3 ⟨v, rfl, hown, hE⟩
  obtain ⟨LA, lc, rfl, hS⟩ := hown.form
  have HI := hid hS
  clear hown hS
  rw [hll] at ⊢
  replace HB := hid (HB.out.ext hE)
  replace E := E.trans hE
  clear hE d0 d1 d2 d3 d4 dz
  have d0 := HB.out.cell 0
  have d1 := HB.out.cell 1
  have d2 := HB.out.cell 2
  have d3 := HB.out.cell 3
  have d4 := HB.out.cell 4
  simp only [List.getElem?_toArray, List.getElem?_cons_zero, List.getElem?_cons_succ] at d0 d1 d2 d3 d4
  have dz := HB.out.lt
  go_wp2_with fail
  refine (HTP.out _ E).mono ?_
  rintro e w4 ⟨v, rfl, hown, hE⟩
  obtain ⟨TA, tc, rfl, -⟩ := hown.form
  replace HI := hid (HI.out.ext hE)
  clear hown
  generalize (tlI _).length = tk at *
  replace HB := hid (HB.out.ext hE)
  replace E := E.trans hE
  clear hE d0 d1 d2 d3 d4 dz
  have d0 := HB.out.cell 0
  have d1 := HB.out.cell 1
  have d2 := HB.out.cell 2
  have d3 := HB.out.cell 3
  have d4 := HB.out.cell 4
  simp only [List.getElem?_toArray, List.getElem?_cons_zero, List.getElem?_cons_succ] at d0 d1 d2 d3 d4
  have dz := HB.out.lt
  go_wp2_with fail
  go_loopw [7] (fun i wr => Ext w4 wr ∧ ∃ k : Nat, k ≤ len ∧ i = .int .i64 k) (fun i _ => len - (intOf i).toNat)
  case atStart => exact ⟨Ext.refl _, 0, Nat.zero_le _, rfl⟩
  case round =>
    obtain ⟨hE, k, hk, rfl⟩ := hrel
    have hE4 := hE
    replace HI := hid (HI.out.ext hE)
    replace HB := hid (HB.out.ext hE)
    replace E := E.trans hE
    clear hE d0 d1 d2 d3 d4 dz
    have d0 := HB.out.cell 0
    have d1 := HB.out.cell 1
    have d2 := HB.out.cell 2
    have d3 := HB.out.cell 3
    have d4 := HB.out.cell 4
    simp only [List.getElem?_toArray, List.getElem?_cons_zero, List.getElem?_cons_succ] at d0 d1 d2 d3 d4
    have dz := HB.out.lt
    by_cases hlt : k < len
    · have hym := HLM.out k hlt
      have hyg := HGA.out k hlt
      obtain ⟨b, off, rfl, hb, c0⟩ := HI.out.at_ hll hlt
      rw [hyg] at c0
      by_cases hk0 : k = 0
      · have hd3 : decide ((0 : Int) < (k : Int)) = false := decide_eq_false (by omega)
        have hd5 : decide (0 < k) = false := decide_eq_false (by omega)
        generalize L.getD k 0 = y at *
        clear HLM HSO HGA HBS hyg HNA HNB hk0
        have hd6 : decide (m ≤ y) = false := decide_eq_false (by omega)
        have hd1 : decide ((y : Int) < 0) = false := decide_eq_false (by omega)
        have hd2 : decide ((m : Int) ≤ (y : Int)) = false := decide_eq_false (by omega)
        have hki : (k : Int) < (len : Int) := by omega
        go_wp2_with fail
        go_big_quiet (fail)
        go_wp2_with fail
        go_roundw
        case rel => exact ⟨by (repeat' (first | with_reducible assumption | with_reducible exact Ext.refl _ | with_reducible refine Ext.alloc ?_ _ | with_reducible refine Ext.set ?_ ?_ _ | with_reducible refine Ext.drew ?_ | with_reducible refine Ext.drewN ?_ _ | with_reducible refine Ext.trans ?_ (by assumption) | (dsimp only; omega))), k + 1, by omega, by go_num⟩
        case measure => simp [intOf]; omega
      · obtain ⟨k', hkk⟩ : ∃ k', k = k' + 1 := ⟨k - 1, by omega⟩
        have hys := HSO.out k' (by omega)
        rw [← hkk] at hys
        have hyg1 := HGA.out k' (by omega)
        obtain ⟨b', off', hA', hb', c1⟩ := HI.out.at_ hll (show k' < len by omega)
        cases hA'
        rw [hyg1] at c1
        have hki1 : (k : Int) - 1 = (k' : Int) := by omega
        have hki3 : (k' : Int) < (len : Int) := by omega
        have hd3 : (0 : Int) < (k : Int) := by omega
        have hd5 : 0 < k := by omega
        clear hkk hk0
        generalize L.getD k 0 = y at *
        generalize L.getD k' 0 = y1 at *
        clear HLM HSO HGA HBS hyg hyg1 HNA HNB
        have hd6 : decide (m ≤ y) = false := decide_eq_false (by omega)
        have hd1 : decide ((y : Int) < 0) = false := decide_eq_false (by omega)
        have hd2 : decide ((m : Int) ≤ (y : Int)) = false := decide_eq_false (by omega)
        have hki : (k : Int) < (len : Int) := by omega
        have hd4 : decide ((y : Int) ≤ (y1 : Int)) = false := decide_eq_false (by omega)
        have hd7 : decide (y ≤ y1) = false := decide_eq_false (by omega)
        go_wp2_with fail
        go_big_quiet (fail)
        go_wp2_with fail
        go_roundw
        case rel => exact ⟨by (repeat' (first | with_reducible assumption | with_reducible exact Ext.refl _ | with_reducible refine Ext.alloc ?_ _ | with_reducible refine Ext.set ?_ ?_ _ | with_reducible refine Ext.drew ?_ | with_reducible refine Ext.drewN ?_ _ | with_reducible refine Ext.trans ?_ (by assumption) | (dsimp only; omega))), k + 1, by omega, by go_num⟩
        case measure => simp [intOf]; omega
    · obtain rfl : k = len := by omega
      obtain ⟨wo, rfl⟩ : ∃ wo, wo = wr := ⟨_, rfl⟩
      clear hE4
      go_wp2_with fail
      go_loopw [8] (fun i wr => Ext wo wr ∧ ∃ nb : Nat, nb ≤ k + 1 ∧ i = .int .i64 ((nb : Int) - 1)) (fun i _ => k + 1 - (intOf i + 1).toNat)
      case atStart => exact ⟨Ext.refl _, 0, by omega, rfl⟩
      case round =>
        obtain ⟨hE, nb, hnb, rfl⟩ := hrel
        have hE5 := hE
        replace HI := hid (HI.out.ext hE)
        replace HB := hid (HB.out.ext hE)
        replace E := E.trans hE
        clear hE d0 d1 d2 d3 d4 dz
        have d0 := HB.out.cell 0
        have d1 := HB.out.cell 1
        have d2 := HB.out.cell 2
        have d3 := HB.out.cell 3
        have d4 := HB.out.cell 4
        simp only [List.getElem?_toArray, List.getElem?_cons_zero, List.getElem?_cons_succ] at d0 d1 d2 d3 d4
        have dz := HB.out.lt
        obtain ⟨bi, hbi⟩ : ∃ bi : Int, (nb : Int) - 1 = bi := ⟨_, rfl⟩
        rw [hbi]
        by_cases hlt2 : bi < (k : Int)
        · go_wp2_with fail
          refine (HCP.out _ E).mono ?_
          rintro e wc ⟨⟨SC, sc2, MC, mc2⟩, rfl, hWI, hE⟩
          have HWI := hid hWI.spr
          replace HI := hid (HI.out.ext hE)
          have hEc := hE5.trans hE
          clear hWI
          replace HB := hid (HB.out.ext hE)
          replace E := E.trans hE
          clear hE d0 d1 d2 d3 d4 dz
          have d0 := HB.out.cell 0
          have d1 := HB.out.cell 1
          have d2 := HB.out.cell 2
          have d3 := HB.out.cell 3
          have d4 := HB.out.cell 4
          simp only [List.getElem?_toArray, List.getElem?_cons_zero, List.getElem?_cons_succ] at d0 d1 d2 d3 d4
          have dz := HB.out.lt
          dsimp only
          go_wp2_with fail
          obtain ⟨W0, hW0⟩ : ∃ W0, wc.alloc (.cells #[.slice SC n sc2, .int .i64 most, .int .i64 miss, .int .i64 al, .slice none 0 0] 25) = W0 := ⟨_, rfl⟩
          have X0 : Ext wc W0 := by rw [← hW0]; exact ext_alloc1 _ _
          have BQ0 := hid (show Blk W0 wc.heap.size 25 #[.slice SC n sc2, .int .i64 most, .int .i64 miss, .int .i64 al, .slice none 0 0] by rw [← hW0]; exact Blk.new _ _ _)
          rw [hW0]
          clear hW0
          obtain ⟨q, hq⟩ : ∃ q, wc.heap.size = q := ⟨_, rfl⟩
          rw [hq] at BQ0 ⊢
          have hqw : w.heap.size < q := by omega
          go_loopw [10] (fun i wr => Ext wc wr ∧ ∃ (j : Nat) (v : Value), j ≤ k ∧ i = .int .i64 j ∧ Hid (Blk wr q 25 #[.slice SC n sc2, .int .i64 most, .int .i64 miss, .int .i64 al, v]) ∧ Hid (OwnS wr (q + 1) v (sel (bl bi j)))) (fun i _ => k - (intOf i).toNat)
          case atStart => exact ⟨X0, 0, _, Nat.zero_le _, rfl, BQ0, hid (by rw [HB0.out, HSE0.out]; exact ⟨rfl, .inl ⟨rfl, rfl⟩⟩)⟩
          case round =>
            obtain ⟨hE, j, v, hj, rfl, BQ, OW⟩ := hrel
            have hsz := hE.size
            by_cases hlt3 : j < k
            · have hym := HLM.out j hlt3
              have hyg := HGA.out j hlt3
              have hbs := HBS.out bi j
              obtain ⟨b, off, rfl, hb, c0⟩ := HI.out.at_ hll hlt3
              rw [hyg] at c0
              have hbq : b < q := by omega
              generalize L.getD j 0 = y at *
              have hse := HSE1.out (bl bi j) y
              have hlen2 : (sel (bl bi j)).length ≤ 20 := by rw [HSEL.out]; have := HBL.out bi j; omega
              obtain ⟨bs, offs, rfl, hbs2, s0, s1⟩ := (HSM.out.ext (E)).at_ hsm hym
              have hbsq : bs < q := by omega
              generalize smp.getD y zeroSmp = sm at *
              obtain ⟨sx, sf⟩ := sm
              dsimp only at *
              by_cases hjb : (j : Int) = bi
              · have HO2 := hid (show sel (bl bi (j + 1)) = sel (bl bi j) by rw [hbs, if_pos hjb, List.append_nil])
                go_wp2_with fail
                go_roundw
                case rel => exact ⟨hE, j + 1, _, by omega, by go_num, BQ, hid (by rw [HO2.out]; exact OW.out)⟩
                case measure => simp [intOf]; omega
              · have HO2 := hid (show sel (bl bi (j + 1)) = sel (bl bi j) ++ [⟨sx, sf⟩] by rw [hbs, if_neg hjb, hse])
                generalize sel (bl bi j) = ys at *
                obtain ⟨VA, vc, rfl, -⟩ := OW.out.form
                generalize hyl : ys.length = yl at *
                go_wp2_with fail
                refine wp_region_held_drew (S := fun w' => (∀ b o, b < wc.heap.size → w'.cell? ⟨b, o, none⟩ = wc.cell? ⟨b, o, none⟩) ∧ wc.heap.size ≤ w'.heap.size ∧ Ext wc w') (by kernel_rfl) ?hS0 (fun hHeld => ?_)
                case hS0 => exact sK hE.drew
                have XD : Ext wr wr.drew := Ext.drew (Ext.refl _)
                have hEV := hE.trans XD
                replace BQ := hid (BQ.out.ext XD)
                replace OW := hid (OW.out.ext XD)
                generalize wr.drew = V at *
                refine wpAnyH_take (i := 0) (oi := _) (v := ?v0na) rfl (by kernel_rfl) (by kernel_rfl) (by kernel_rfl) (fun _ _ _ h => h) (Or.inl ⟨by rfl, ?y0na⟩) (by assumption) ?r0na
                case y0na => (intro w' hSw; (try dsimp only at hSw); go_simp; (try with_reducible rfl))
                try simp only [Act.put, List.getElem_toArray, List.getElem_cons_zero, List.getElem_cons_succ, List.setIfInBounds_toArray, List.set_cons_zero, List.set_cons_succ]
                refine wpAnyH_take (i := 2) (oi := _) (v := ?v2na) rfl (by kernel_rfl) (by kernel_rfl) (by kernel_rfl) (fun _ _ _ h => h) (Or.inl ⟨by rfl, ?y2na⟩) (by assumption) ?r2na
                case y2na => (intro w' hSw; (try dsimp only at hSw); go_simp; (try with_reducible rfl))
                try simp only [Act.put, List.getElem_toArray, List.getElem_cons_zero, List.getElem_cons_succ, List.setIfInBounds_toArray, List.set_cons_zero, List.set_cons_succ]
                refine wpAnyH_take (i := 4) (oi := _) (v := ?v4na) rfl (by kernel_rfl) (by kernel_rfl) (by kernel_rfl) (fun _ _ _ h => h) (Or.inl ⟨by rfl, ?y4na⟩) (by assumption) ?r4na
                case y4na => (intro w' hSw; (try dsimp only at hSw); go_simp; (try with_reducible rfl))
                try simp only [Act.put, List.getElem_toArray, List.getElem_cons_zero, List.getElem_cons_succ, List.setIfInBounds_toArray, List.set_cons_zero, List.set_cons_succ]
                refine wpAnyH_take (i := 5) (oi := _) (v := ?v5na) rfl (by kernel_rfl) (by kernel_rfl) (by kernel_rfl) (fun _ _ _ h => h) (Or.inl ⟨by rfl, ?y5na⟩) (by assumption) ?r5na
                case y5na => (intro w' hSw; (try dsimp only at hSw); go_simp; (try with_reducible rfl))
                try simp only [Act.put, List.getElem_toArray, List.getElem_cons_zero, List.getElem_cons_succ, List.setIfInBounds_toArray, List.set_cons_zero, List.set_cons_succ]
                refine wpAnyH_take (i := 3) (oi := _) (v := ?v3na) rfl (by kernel_rfl) (by kernel_rfl) (by kernel_rfl) (fun _ _ _ h => h) (Or.inl ⟨by rfl, ?y3na⟩) (by assumption) ?r3na
                case y3na => (intro w' hSw; (try dsimp only at hSw); go_simp; (try with_reducible rfl))
                try simp only [Act.put, List.getElem_toArray, List.getElem_cons_zero, List.getElem_cons_succ, List.setIfInBounds_toArray, List.set_cons_zero, List.set_cons_succ]
                refine wpAnyH_take (i := 6) (oi := _) (v := ?v6na) rfl (by kernel_rfl) (by kernel_rfl) (by kernel_rfl) (fun _ _ _ h => h) (Or.inl ⟨by rfl, ?y6na⟩) (by assumption) ?r6na
                case y6na => (intro w' hSw; (try dsimp only at hSw); go_simp; (try with_reducible rfl))
                try simp only [Act.put, List.getElem_toArray, List.getElem_cons_zero, List.getElem_cons_succ, List.setIfInBounds_toArray, List.set_cons_zero, List.set_cons_succ]
                refine wpAnyH_take (i := 7) (oi := _) (v := ?v7na) rfl (by kernel_rfl) (by kernel_rfl) (by kernel_rfl) (fun _ _ _ h => h) (Or.inl ⟨by rfl, ?y7na⟩) (by assumption) ?r7na
                case y7na => (intro w' hSw; (try dsimp only at hSw); go_simp; (try with_reducible rfl))
                try simp only [Act.put, List.getElem_toArray, List.getElem_cons_zero, List.getElem_cons_succ, List.setIfInBounds_toArray, List.set_cons_zero, List.set_cons_succ]
                refine wpAnyH_take (i := 8) (oi := _) (v := ?v8na) rfl (by kernel_rfl) (by kernel_rfl) (by kernel_rfl) (fun _ _ _ h => h) (Or.inl ⟨by rfl, ?y8na⟩) (by assumption) ?r8na
                case y8na => (intro w' hSw; (try dsimp only at hSw); go_simp; (try with_reducible rfl))
                try simp only [Act.put, List.getElem_toArray, List.getElem_cons_zero, List.getElem_cons_succ, List.setIfInBounds_toArray, List.set_cons_zero, List.set_cons_succ]
                refine wpAnyH_take (i := 9) (oi := _) (v := ?v9na) rfl (by kernel_rfl) (by kernel_rfl) (by kernel_rfl) (fun _ _ _ h => h) (Or.inl ⟨by rfl, ?y9na⟩) (by assumption) ?r9na
                case y9na => (intro w' hSw; (try dsimp only at hSw); go_simp; (try with_reducible rfl))
                try simp only [Act.put, List.getElem_toArray, List.getElem_cons_zero, List.getElem_cons_succ, List.setIfInBounds_toArray, List.set_cons_zero, List.set_cons_succ]
                clear hHeld
                have y4 := BQ.out.cell 4
                have z4 := BQ.out.lt
                simp only [List.getElem?_toArray, List.getElem?_cons_zero, List.getElem?_cons_succ] at y4
                refine wpAnyH_ready (rs := [1, 10]) (by kernel_rfl) (by simp) ?_
                refine AllReadyH.cons (o := _) rfl (fun K hK => ?n1) (AllReadyH.cons (o := _) rfl (fun K hK => ?n10) AllReadyH.nil)
                case n1 =>
                  go_simp
                  refine hK.out _ _ (sK hEV) (fun hHeld => ?_)
                  clear hK K
                  try simp only [Act.put, List.getElem_toArray, List.getElem_cons_zero, List.getElem_cons_succ, List.setIfInBounds_toArray, List.set_cons_zero, List.set_cons_succ]
                  clear hHeld
                  refine wpAnyH_ready (rs := [10]) (by kernel_rfl) (by simp) ?_
                  refine AllReadyH.cons (o := _) rfl (fun K hK => ?_) AllReadyH.nil
                  go_simp
                  refine hK.out _ _ (sK (hEV.alloc _)) (fun hHeld => ?_)
                  clear hK K
                  try simp only [Act.put, List.getElem_toArray, List.getElem_cons_zero, List.getElem_cons_succ, List.setIfInBounds_toArray, List.set_cons_zero, List.set_cons_succ]
                  clear hHeld
                  refine wpAnyH_ready (rs := [11]) (by kernel_rfl) (by simp) ?_
                  refine AllReadyH.cons (o := _) rfl (fun K hK => ?_) AllReadyH.nil
                  refine wp_app1S _ _ _ rfl (q + 1) _ ys rfl (OW.out.ext (ext_alloc1 _ _)) ⟨V.heap.size, 0, none⟩ ⟨sx, sf⟩ rfl (smp_new V ⟨sx, sf⟩) (by omega) (by have := hEV.size; have := BQ.out.lt; simp; omega) ?_
                  intro v' w5 hown5 hg5
                  have HE5 := hid (OW.out.extApp hEV (by omega) hg5)
                  have BQ5 := hid ((BQ.out.alloc (.cells #[.int .i64 sx, .bool sf] 43)).grown hg5 (fun e => by have := OW.out.block _ e.symm; omega))
                  have OW5 := hid hown5
                  obtain ⟨A9, q9, rfl, -⟩ := hown5.form
                  have e9 : (ys ++ [(⟨sx, sf⟩ : Smp)]).length = yl + 1 := by rw [List.length_append, hyl]; rfl
                  rw [e9] at OW5
                  simp only [e9]
                  refine hK.out _ _ (sK HE5.out) (fun hHeld => ?_)
                  clear hK K
                  try simp only [Act.put, List.getElem_toArray, List.getElem_cons_zero, List.getElem_cons_succ, List.setIfInBounds_toArray, List.set_cons_zero, List.set_cons_succ]
                  refine wpAnyH_take (i := 12) (oi := _) (v := ?v12nb) rfl (by kernel_rfl) (by kernel_rfl) (by kernel_rfl) (fun _ _ _ h => h) (Or.inl ⟨by rfl, ?y12nb⟩) (by assumption) ?r12nb
                  case y12nb => (intro w' hSw; (try dsimp only at hSw); go_simp; (try with_reducible rfl))
                  try simp only [Act.put, List.getElem_toArray, List.getElem_cons_zero, List.getElem_cons_succ, List.setIfInBounds_toArray, List.set_cons_zero, List.set_cons_succ]
                  clear hHeld hown5 hg5
                  have y5 := BQ5.out.cell 4
                  have f5 := BQ5.out.fro 4
                  have z5 := BQ5.out.lt
                  simp only [List.getElem?_toArray, List.getElem?_cons_zero, List.getElem?_cons_succ] at y5
                  refine wpAnyH_ready (rs := [13]) (by kernel_rfl) (by simp) ?_
                  refine AllReadyH.cons (o := _) rfl (fun K hK => ?_) AllReadyH.nil
                  go_simp
                  refine hK.out _ _ (sK (HE5.out.set (by dsimp only; omega) _)) (fun hHeld => ?_)
                  clear hK K
                  try simp only [Act.put, List.getElem_toArray, List.getElem_cons_zero, List.getElem_cons_succ, List.setIfInBounds_toArray, List.set_cons_zero, List.set_cons_succ]
                  clear hHeld
                  refine wpAnyH_done (by kernel_rfl) ?_ _
                  have BQ6 := hid (BQ5.out.setAt 4 (.slice A9 (yl + 1) q9))
                  have OW6 := hid (OW5.out.other (p := ⟨q, 4, none⟩) (by dsimp only; omega) (.slice A9 (yl + 1) q9))
                  have HE6 := hid (HE5.out.set (p := ⟨q, 4, none⟩) (by dsimp only; omega) (.slice A9 (yl + 1) q9))
                  simp only [List.setIfInBounds_toArray, List.set_cons_zero, List.set_cons_succ] at BQ6
                  go_wp2_with fail
                  go_roundw
                  case rel => exact ⟨HE6.out, j + 1, _, by omega, by go_num, BQ6, hid (by rw [HO2.out]; exact OW6.out)⟩
                  case measure => simp [intOf]; omega
                case n10 =>
                  go_simp
                  refine hK.out _ _ (sK (hEV.alloc _)) (fun hHeld => ?_)
                  clear hK K
                  try simp only [Act.put, List.getElem_toArray, List.getElem_cons_zero, List.getElem_cons_succ, List.setIfInBounds_toArray, List.set_cons_zero, List.set_cons_succ]
                  clear hHeld
                  refine wpAnyH_ready (rs := [1]) (by kernel_rfl) (by simp) ?_
                  refine AllReadyH.cons (o := _) rfl (fun K hK => ?_) AllReadyH.nil
                  go_simp
                  refine hK.out _ _ (sK (hEV.alloc _)) (fun hHeld => ?_)
                  clear hK K
                  try simp only [Act.put, List.getElem_toArray, List.getElem_cons_zero, List.getElem_cons_succ, List.setIfInBounds_toArray, List.set_cons_zero, List.set_cons_succ]
                  clear hHeld
                  refine wpAnyH_ready (rs := [11]) (by kernel_rfl) (by simp) ?_
                  refine AllReadyH.cons (o := _) rfl (fun K hK => ?_) AllReadyH.nil
                  refine wp_app1S _ _ _ rfl (q + 1) _ ys rfl (OW.out.ext (ext_alloc1 _ _)) ⟨V.heap.size, 0, none⟩ ⟨sx, sf⟩ rfl (smp_new V ⟨sx, sf⟩) (by omega) (by have := hEV.size; have := BQ.out.lt; simp; omega) ?_
                  intro v' w5 hown5 hg5
                  have HE5 := hid (OW.out.extApp hEV (by omega) hg5)
                  have BQ5 := hid ((BQ.out.alloc (.cells #[.int .i64 sx, .bool sf] 43)).grown hg5 (fun e => by have := OW.out.block _ e.symm; omega))
                  have OW5 := hid hown5
                  obtain ⟨A9, q9, rfl, -⟩ := hown5.form
                  have e9 : (ys ++ [(⟨sx, sf⟩ : Smp)]).length = yl + 1 := by rw [List.length_append, hyl]; rfl
                  rw [e9] at OW5
                  simp only [e9]
                  refine hK.out _ _ (sK HE5.out) (fun hHeld => ?_)
                  clear hK K
                  try simp only [Act.put, List.getElem_toArray, List.getElem_cons_zero, List.getElem_cons_succ, List.setIfInBounds_toArray, List.set_cons_zero, List.set_cons_succ]
                  refine wpAnyH_take (i := 12) (oi := _) (v := ?v12nc) rfl (by kernel_rfl) (by kernel_rfl) (by kernel_rfl) (fun _ _ _ h => h) (Or.inl ⟨by rfl, ?y12nc⟩) (by assumption) ?r12nc
                  case y12nc => (intro w' hSw; (try dsimp only at hSw); go_simp; (try with_reducible rfl))
                  try simp only [Act.put, List.getElem_toArray, List.getElem_cons_zero, List.getElem_cons_succ, List.setIfInBounds_toArray, List.set_cons_zero, List.set_cons_succ]
                  clear hHeld hown5 hg5
                  have y5 := BQ5.out.cell 4
                  have f5 := BQ5.out.fro 4
                  have z5 := BQ5.out.lt
                  simp only [List.getElem?_toArray, List.getElem?_cons_zero, List.getElem?_cons_succ] at y5
                  refine wpAnyH_ready (rs := [13]) (by kernel_rfl) (by simp) ?_
                  refine AllReadyH.cons (o := _) rfl (fun K hK => ?_) AllReadyH.nil
                  go_simp
                  refine hK.out _ _ (sK (HE5.out.set (by dsimp only; omega) _)) (fun hHeld => ?_)
                  clear hK K
                  try simp only [Act.put, List.getElem_toArray, List.getElem_cons_zero, List.getElem_cons_succ, List.setIfInBounds_toArray, List.set_cons_zero, List.set_cons_succ]
                  clear hHeld
                  refine wpAnyH_done (by kernel_rfl) ?_ _
                  have BQ6 := hid (BQ5.out.setAt 4 (.slice A9 (yl + 1) q9))
                  have OW6 := hid (OW5.out.other (p := ⟨q, 4, none⟩) (by dsimp only; omega) (.slice A9 (yl + 1) q9))
                  have HE6 := hid (HE5.out.set (p := ⟨q, 4, none⟩) (by dsimp only; omega) (.slice A9 (yl + 1) q9))
                  simp only [List.setIfInBounds_toArray, List.set_cons_zero, List.set_cons_succ] at BQ6
                  go_wp2_with fail
                  go_roundw
                  case rel => exact ⟨HE6.out, j + 1, _, by omega, by go_num, BQ6, hid (by rw [HO2.out]; exact OW6.out)⟩
                  case measure => simp [intOf]; omega
            · obtain rfl : j = k := by omega
              obtain ⟨VA, vc, rfl, -⟩ := OW.out.form
              have hlen2 : (sel (bl bi j)).length ≤ 1000 := by rw [HSEL.out]; have := HBL.out bi j; omega
              have HT9 := HTS.out (bl bi j) hlen2 ⟨SC, sc2, VA, vc⟩ wr (E.trans hE) ⟨HWI.out.ext hE, OW.out.smp⟩
              dsimp only at HT9
              generalize hyl : (sel (bl bi j)).length = yl at *
              have y0 := BQ.out.cell 0
              have y1 := BQ.out.cell 1
              have y2 := BQ.out.cell 2
              have y3 := BQ.out.cell 3
              have y4 := BQ.out.cell 4
              have yz := BQ.out.lt
              simp only [List.getElem?_toArray, List.getElem?_cons_zero, List.getElem?_cons_succ] at y0 y1 y2 y3 y4
              by_cases hneg : bi < 0
              · rw [HNA.out bi hneg] at HT9
                have hi4 : (bi + 1) = ((nb + 1 : Nat) : Int) - 1 := by omega
                go_wp2_with fail
                refine HT9.mono ?_
                rintro e w9 ⟨v, rfl, hown, hE9⟩
                obtain ⟨TB, tb, rfl, -⟩ := hown.form
                clear hown
                generalize (tlI _).length = tk2 at *
                have hEE := hEc.trans (hE.trans hE9)
                go_wp2_with fail
                go_roundw
                case rel => exact ⟨nb + 1, by omega, by first | (congr 1; omega) | omega⟩
                case measure => simp [intOf]; omega
              · obtain ⟨bn, rfl⟩ := Int.eq_ofNat_of_zero_le (show 0 ≤ bi by omega)
                rw [HNB.out bn (by omega)] at HT9
                go_wp2_with fail
                refine HT9.mono ?_
                rintro e w9 ⟨v, rfl, hown, hE9⟩
                obtain ⟨TB, tb, rfl, -⟩ := hown.form
                clear hown
                generalize (tlI _).length = tk2 at *
                have hEE := hEc.trans (hE.trans hE9)
                go_wp2_with fail
                go_roundw
                case rel => exact ⟨nb + 1, by omega, by first | (congr 1; omega) | omega⟩
                case measure => simp [intOf]; omega
        · go_wp2_with fail
          refine (HWK.out _ E).mono ?_
          rintro e w9 ⟨rfl, hE⟩
          replace E := E.trans hE
          clear hE
          go_wp2
          go_ret
          exact ⟨rfl, E⟩
end Go.Proofs.YtcfijidlbimckaaDoor
