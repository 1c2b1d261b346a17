/- Serve, of the specification. -/
import Derived.Test.YtcfijidlbimckaaDoorRSum
import Derived.Test.YtcfijidlbimckaaDoorMoreM
set_option linter.unusedSimpArgs false
set_option linter.unusedVariables false
namespace Go.Proofs.YtcfijidlbimckaaDoor
open Go.RowKit
theorem range_lt : ((List.range 9).all fun n => decide ((List.range 256).filter (fun x => decide (x < 2 ^ n)) = List.range (2 ^ n))) = true := by decide +kernel
theorem sub_free {n S : Nat} (hn : n ≤ 8) (hS : S < 2 ^ n) : subsL (dif (2 ^ n - 1) S) = (List.range (2 ^ n)).filter fun x => x &&& S == 0 := by
  have h1 : (List.range 256).filter (fun x => decide (x < 2 ^ n)) = List.range (2 ^ n) := of_decide_eq_true (List.all_eq_true.1 range_lt n (List.mem_range.2 (by omega)))
  rw [← h1]
  unfold subsL
  rw [List.filter_filter]
  refine List.filter_congr fun x hx => ?_
  have hx := List.mem_range.1 hx
  have h256 := two8 hn
  have hp : 0 < 2 ^ n := Nat.two_pow_pos _
  have hd : ∀ i, (dif (2 ^ n - 1) S).testBit i = ((2 ^ n - 1).testBit i && !S.testBit i) := fun i => dif_tb (by omega) (by omega) i
  rw [Bool.eq_iff_iff]
  simp only [beq_iff_eq, Bool.and_eq_true, decide_eq_true_eq]
  constructor
  · intro h
    have hle : x ≤ dif (2 ^ n - 1) S := by rw [← h]; exact Nat.and_le_right
    have hle2 := dif_le (2 ^ n - 1) S
    refine ⟨and_zero fun i => ?_, by omega⟩
    have hi : (x &&& dif (2 ^ n - 1) S).testBit i = x.testBit i := by rw [h]
    rw [Nat.testBit_and, hd] at hi
    cases hx1 : x.testBit i <;> cases hx2 : S.testBit i <;> simp_all
  · rintro ⟨h0, hlt⟩
    refine Nat.eq_of_testBit_eq fun i => ?_
    have hz := and_zero_tb h0 i
    rw [Nat.testBit_and, hd, Nat.testBit_two_pow_sub_one]
    by_cases hi : i < n
    · simp only [hi, decide_true, Bool.true_and]
      revert hz
      cases x.testBit i <;> cases S.testBit i <;> simp
    · have : x.testBit i = false := Nat.testBit_lt_two_pow (Nat.lt_of_lt_of_le hlt (Nat.pow_le_pow_right (by decide) (by omega)))
      rw [this]; rfl
def rsO (d : Wat) (need : Int) (k : Nat) : Option Nat := ((List.range k).filter fun x => x &&& surN d == 0).foldl (pickS d (enB d need)) none
theorem rsO_succ (d : Wat) (need : Int) (k : Nat) : rsO d need (k + 1) = if k &&& surN d = 0 then pickS d (enB d need) (rsO d need k) k else rsO d need k := by
  unfold rsO
  rw [List.range_succ, List.filter_append, List.foldl_append, List.filter_cons, List.filter_nil]
  by_cases h : k &&& surN d = 0
  · rw [if_pos h, if_pos (by simp [h])]; rfl
  · rw [if_neg h, if_neg (by simp [h])]; rfl
theorem rsO_end {d : Wat} (hok : WOk d) (need : Int) : rsO d need (2 ^ d.spr.length) = servO d need := by
  unfold rsO servO bestS
  rw [sub_free hok.n8 (surN_lt hok)]
theorem rsO_lt (d : Wat) (need : Int) (k p : Nat) (h : rsO d need k = some p) : p < k := by
  rcases bestS_in d (enB d need) _ none p h with h1 | h1
  · cases h1
  · exact List.mem_range.1 (List.mem_filter.1 h1).1
theorem cheapB_eq (f s f' s' : Int) : cheapB f s f' s' = (decide (f < f') || (decide (f = f') && decide (s < s'))) := by
  unfold cheapB orI cmpI
  rw [Bool.eq_iff_iff]
  simp only [decide_eq_true_eq, Bool.or_eq_true, Bool.and_eq_true]
  split <;> split <;> (try split) <;> omega
def bI (o : Option Nat) : Int := match o with | none => -1 | some p => (p : Int)
def lI (d : Wat) (o : Option Nat) : Int := match o with | none => 0 | some p => fuelN d.spr (bitsL p)
set_option maxHeartbeats 4000000 in
set_option maxRecDepth 100000 in
theorem rserve_any (d : Wat) (A : WA) (need : Int) (hn : d.spr.length ≤ 30) (hm : d.smp.length ≤ 1000) (w : World) (hW : WIn w d A) :
    Calls Tryd.prog 36 #[wval d A, .int .i64 need] w (ServeIs d need w) := by
  have HC := hid (fun W (hE : Ext w W) => rCheck_any d A hn hm W (hW.ext hE))
  have HWB := hid (fun W => rwithin_any need 0 10000 W)
  have HCL := hid (fun W (hE : Ext w W) => rClean_any d A hn hm W (hW.ext hE))
  have BN := hid (Blk.new w 25 (wcells d A))
  unfold ServeIs
  cases hc : watB d
  case false =>
    have hse : servE d need = 40 := by unfold servE; rw [hc]; rfl
    have hp : servP d need = 0 := by unfold servP; rw [hse]; rfl
    have hq : servQ d need = 0 := by unfold servQ; rw [hse]; rfl
    have hf : servF d need = 0 := by unfold servF; rw [hse]; rfl
    rw [hse, hp, hq, hf]
    rw [hc, if_neg (by decide)] at HC
    clear hse hp hq hf hc
    clear hW
    unfold wval wcells at *
    obtain ⟨spr, most, miss, al, smp⟩ := d
    obtain ⟨SA, sc, MA, mc⟩ := A
    dsimp only at *
    generalize hsn : spr.length = n at *
    generalize smp.length = m at *
    go_enter Tryd.func36, Tryd.ntmps36
    go_wp2_with fail
    refine (HC.out _ (by (repeat' (first | with_reducible assumption | with_reducible exact Ext.refl _ | with_reducible refine Ext.alloc ?_ _ | with_reducible refine Ext.set ?_ ?_ _ | with_reducible refine Ext.drew ?_ | with_reducible refine Ext.drewN ?_ _ | with_reducible refine Ext.trans ?_ (by assumption) | (dsimp only; omega))))).mono ?_
    rintro e w2 ⟨rfl, hE⟩
    have E : Ext w w2 := by (repeat' (first | with_reducible assumption | with_reducible exact Ext.refl _ | with_reducible refine Ext.alloc ?_ _ | with_reducible refine Ext.set ?_ ?_ _ | with_reducible refine Ext.drew ?_ | with_reducible refine Ext.drewN ?_ _ | with_reducible refine Ext.trans ?_ (by assumption) | (dsimp only; omega)))
    have HB := hid (BN.out.ext hE)
    clear hE BN
    have d0 := HB.out.cell 0
    have d1 := HB.out.cell 1
    have d2 := HB.out.cell 2
    have d3 := HB.out.cell 3
    have d4 := HB.out.cell 4
    simp only [List.getElem?_toArray, List.getElem?_cons_zero, List.getElem?_cons_succ] at d0 d1 d2 d3 d4
    have dz := HB.out.lt
    go_wp2_with fail
    refine bodyPost_ret (v := .tuple #[.int .i64 0, .int .i64 0, .int .i64 0, .int .i64 40]) (by simp [results, Tryd.results36, go_sem]) rfl ⟨rfl, E⟩
  rw [hc, if_pos rfl] at HC
  cases hb : wB need 0 10000
  case false =>
    have hse : servE d need = 1 := by unfold servE; rw [hc, hb]; rfl
    have hp : servP d need = 0 := by unfold servP; rw [hse]; rfl
    have hq : servQ d need = 0 := by unfold servQ; rw [hse]; rfl
    have hf : servF d need = 0 := by unfold servF; rw [hse]; rfl
    rw [hse, hp, hq, hf]
    rw [hb] at HWB
    clear hse hp hq hf hc hb
    clear hW
    unfold wval wcells at *
    obtain ⟨spr, most, miss, al, smp⟩ := d
    obtain ⟨SA, sc, MA, mc⟩ := A
    dsimp only at *
    generalize hsn : spr.length = n at *
    generalize smp.length = m at *
    go_enter Tryd.func36, Tryd.ntmps36
    go_wp2_with fail
    refine (HC.out _ (by (repeat' (first | with_reducible assumption | with_reducible exact Ext.refl _ | with_reducible refine Ext.alloc ?_ _ | with_reducible refine Ext.set ?_ ?_ _ | with_reducible refine Ext.drew ?_ | with_reducible refine Ext.drewN ?_ _ | with_reducible refine Ext.trans ?_ (by assumption) | (dsimp only; omega))))).mono ?_
    rintro e w2 ⟨rfl, hE⟩
    have E : Ext w w2 := by (repeat' (first | with_reducible assumption | with_reducible exact Ext.refl _ | with_reducible refine Ext.alloc ?_ _ | with_reducible refine Ext.set ?_ ?_ _ | with_reducible refine Ext.drew ?_ | with_reducible refine Ext.drewN ?_ _ | with_reducible refine Ext.trans ?_ (by assumption) | (dsimp only; omega)))
    have HB := hid (BN.out.ext hE)
    clear hE BN
    have d0 := HB.out.cell 0
    have d1 := HB.out.cell 1
    have d2 := HB.out.cell 2
    have d3 := HB.out.cell 3
    have d4 := HB.out.cell 4
    simp only [List.getElem?_toArray, List.getElem?_cons_zero, List.getElem?_cons_succ] at d0 d1 d2 d3 d4
    have dz := HB.out.lt
    go_wp2_with fail
    refine (HWB.out _).mono ?_
    rintro e w3 ⟨rfl, rfl⟩
    go_wp2_with fail
    refine bodyPost_ret (v := .tuple #[.int .i64 0, .int .i64 0, .int .i64 0, .int .i64 1]) (by simp [results, Tryd.results36, go_sem]) rfl ⟨rfl, E⟩
  rw [hb] at HWB
  have hok := watB_ok hc
  rcases watE_cases hc with ⟨he, hnil⟩ | ⟨he, hnil⟩
  case inr =>
    have hse : servE d need = 3 := by unfold servE; rw [if_pos hc, if_pos hb, if_pos hnil]
    have hp : servP d need = 0 := by unfold servP; rw [hse]; rfl
    have hq : servQ d need = 0 := by unfold servQ; rw [hse]; rfl
    have hf : servF d need = 0 := by unfold servF; rw [hse]; rfl
    rw [hse, hp, hq, hf]
    rw [he] at HCL
    clear hse hp hq hf hc hb hok hnil he
    generalize surV d = sv at *
    generalize mayV d = mv at *
    clear hW
    unfold wval wcells at *
    obtain ⟨spr, most, miss, al, smp⟩ := d
    obtain ⟨SA, sc, MA, mc⟩ := A
    dsimp only at *
    generalize hsn : spr.length = n at *
    generalize smp.length = m at *
    go_enter Tryd.func36, Tryd.ntmps36
    go_wp2_with fail
    refine (HC.out _ (by (repeat' (first | with_reducible assumption | with_reducible exact Ext.refl _ | with_reducible refine Ext.alloc ?_ _ | with_reducible refine Ext.set ?_ ?_ _ | with_reducible refine Ext.drew ?_ | with_reducible refine Ext.drewN ?_ _ | with_reducible refine Ext.trans ?_ (by assumption) | (dsimp only; omega))))).mono ?_
    rintro e w2 ⟨rfl, hE⟩
    have E : Ext w w2 := by (repeat' (first | with_reducible assumption | with_reducible exact Ext.refl _ | with_reducible refine Ext.alloc ?_ _ | with_reducible refine Ext.set ?_ ?_ _ | with_reducible refine Ext.drew ?_ | with_reducible refine Ext.drewN ?_ _ | with_reducible refine Ext.trans ?_ (by assumption) | (dsimp only; omega)))
    have HB := hid (BN.out.ext hE)
    clear hE BN
    have d0 := HB.out.cell 0
    have d1 := HB.out.cell 1
    have d2 := HB.out.cell 2
    have d3 := HB.out.cell 3
    have d4 := HB.out.cell 4
    simp only [List.getElem?_toArray, List.getElem?_cons_zero, List.getElem?_cons_succ] at d0 d1 d2 d3 d4
    have dz := HB.out.lt
    go_wp2_with fail
    refine (HWB.out _).mono ?_
    rintro e w3 ⟨rfl, rfl⟩
    go_wp2_with fail
    refine (HCL.out _ E).mono ?_
    rintro e w3 ⟨rfl, hE⟩
    replace E := E.trans hE
    clear hE
    go_wp2_with fail
    refine bodyPost_ret (v := .tuple #[.int .i64 0, .int .i64 0, .int .i64 0, .int .i64 3]) (by simp [results, Tryd.results36, go_sem]) rfl ⟨rfl, E⟩
  have hsv : surV d = surN d := by unfold surV; rw [if_pos he]; rfl
  have HSU := hid (fun (s : Nat) (hs : s < 2 ^ d.spr.length) W (hE : Ext w W) => rSum_any d A hok s hs W (hW.ext hE))
  have HAL := hid (fun W => rAll_any d A hn W)
  have HSZ := hid (fun t ht W => rSize_any t ht W)
  have hs := surN_lt hok
  have hn8 := hok.n8
  have h256 := two8 hn8
  have hpos : 0 < 2 ^ d.spr.length := Nat.two_pow_pos _
  have HLO := hid (fun (x : Nat) (h : x &&& surN d = 0) => (show litN d.spr (bitsL (surN d ||| x)) = litN d.spr (bitsL (surN d)) + litN d.spr (bitsL x) from litN_or d.spr fun i => by
    have hz := and_zero_tb h i
    rw [Nat.testBit_or]
    refine ⟨rfl, ?_⟩
    rw [Bool.and_comm]
    exact hz))
  have HEN := hid (fun x => (show enB d need x = decide (need ≤ litN d.spr (bitsL (surN d)) + litN d.spr (bitsL x)) from rfl))
  have HRS := hid (rsO_succ d need)
  have HRE := hid (rsO_end hok need)
  have HRL := hid (rsO_lt d need)
  have HR0 := hid (show rsO d need 0 = none from rfl)
  have HPN := hid (fun en k => (show pickS d en none k = if en k = true then some k else none from rfl))
  have HPS := hid (fun en k p => (show pickS d en (some p) k = if en k = true ∧ (decide (fuelN d.spr (bitsL k) < fuelN d.spr (bitsL p)) || (decide (fuelN d.spr (bitsL k) = fuelN d.spr (bitsL p)) && decide ((pc k : Int) < (pc p : Int)))) = true then some k else some p by
    rw [← cheapB_eq]; rfl))
  have hse : servE d need = if (servO d need).isSome = true then 0 else 3 := by unfold servE; rw [if_pos hc, if_pos hb, if_neg hnil]
  have hbi : ∀ o : Option Nat, lI d o = match o with | none => 0 | some p => fuelN d.spr (bitsL p) := fun _ => rfl
  have HLI := hid hbi
  have hfin : ∀ w', Ext w w' → servO d need = none → (Ending.returned (.tuple #[.int .i64 (servP d need : Nat), .int .i64 (servQ d need : Nat), .int .i64 (servF d need), .int .i64 (servE d need)])) = .returned (.tuple #[.int .i64 0, .int .i64 0, .int .i64 0, .int .i64 3]) := fun w' _ h => by
    have h3 : servE d need = 3 := by rw [hse, h]; rfl
    have hp : servP d need = 0 := by unfold servP; rw [h3]; rfl
    have hq : servQ d need = 0 := by unfold servQ; rw [h3]; rfl
    have hf : servF d need = 0 := by unfold servF; rw [h3]; rfl
    rw [h3, hp, hq, hf]; rfl
  have hfin2 : ∀ p, servO d need = some p → (Ending.returned (.tuple #[.int .i64 (servP d need : Nat), .int .i64 (servQ d need : Nat), .int .i64 (servF d need), .int .i64 (servE d need)])) = .returned (.tuple #[.int .i64 (surN d : Nat), .int .i64 (p : Nat), .int .i64 (fuelN d.spr (bitsL p)), .int .i64 0]) := fun p h => by
    have h3 : servE d need = 0 := by rw [hse, h]; rfl
    have hp : servP d need = surN d := by unfold servP; rw [if_pos h3]
    have hq : servQ d need = p := by unfold servQ servT; rw [if_pos h3, h]
    have hf : servF d need = fuelN d.spr (bitsL p) := by unfold servF servT; rw [if_pos h3, h]
    rw [h3, hp, hq, hf]
  have HF1 := hid hfin
  have HF2 := hid hfin2
  rw [he, hsv] at HCL
  clear hfin hfin2 hbi hse hc hb hok hnil he hsv
  generalize servP d need = sp at *
  generalize servQ d need = sq at *
  generalize servF d need = sf at *
  generalize servE d need = se at *
  generalize servO d need = so at *
  generalize rsO d need = ro at *
  generalize enB d need = en at *
  generalize mayV d = mv at *
  generalize surN d = sv at *
  generalize pickS d = pk at *
  generalize lI d = li at *
  obtain ⟨z, hz⟩ : ∃ z, 2 ^ d.spr.length - 1 = z := ⟨_, rfl⟩
  have hz2 : 2 ^ d.spr.length = z + 1 := by omega
  have HZ := hid hz2
  rw [hz] at HAL h256
  rw [hz2] at HSU hs HRE
  clear hz hz2 hpos
  clear hW
  unfold wval wcells at *
  obtain ⟨spr, most, miss, al, smp⟩ := d
  obtain ⟨SA, sc, MA, mc⟩ := A
  dsimp only at *
  generalize hsn : spr.length = n at *
  generalize smp.length = m at *
  go_enter Tryd.func36, Tryd.ntmps36
  go_wp2_with fail
  refine (HC.out _ (by (repeat' (first | with_reducible assumption | with_reducible exact Ext.refl _ | with_reducible refine Ext.alloc ?_ _ | with_reducible refine Ext.set ?_ ?_ _ | with_reducible refine Ext.drew ?_ | with_reducible refine Ext.drewN ?_ _ | with_reducible refine Ext.trans ?_ (by assumption) | (dsimp only; omega))))).mono ?_
  rintro e w2 ⟨rfl, hE⟩
  have E : Ext w w2 := by (repeat' (first | with_reducible assumption | with_reducible exact Ext.refl _ | with_reducible refine Ext.alloc ?_ _ | with_reducible refine Ext.set ?_ ?_ _ | with_reducible refine Ext.drew ?_ | with_reducible refine Ext.drewN ?_ _ | with_reducible refine Ext.trans ?_ (by assumption) | (dsimp only; omega)))
  have HB := hid (BN.out.ext hE)
  clear hE BN
  have d0 := HB.out.cell 0
  have d1 := HB.out.cell 1
  have d2 := HB.out.cell 2
  have d3 := HB.out.cell 3
  have d4 := HB.out.cell 4
  simp only [List.getElem?_toArray, List.getElem?_cons_zero, List.getElem?_cons_succ] at d0 d1 d2 d3 d4
  have dz := HB.out.lt
  go_wp2_with fail
  refine (HWB.out _).mono ?_
  rintro e w3 ⟨rfl, rfl⟩
  go_wp2_with fail
  refine (HCL.out _ E).mono ?_
  rintro e w3 ⟨rfl, hE⟩
  replace HB := hid (HB.out.ext hE)
  replace E := E.trans hE
  clear hE d0 d1 d2 d3 d4 dz
  have d0 := HB.out.cell 0
  have d1 := HB.out.cell 1
  have d2 := HB.out.cell 2
  have d3 := HB.out.cell 3
  have d4 := HB.out.cell 4
  simp only [List.getElem?_toArray, List.getElem?_cons_zero, List.getElem?_cons_succ] at d0 d1 d2 d3 d4
  have dz := HB.out.lt
  go_wp2_with fail
  go_loopw [10, 11, 12] (fun x y i wr => Ext w wr ∧ Blk wr w.heap.size 25 #[.slice SA n sc, .int .i64 most, .int .i64 miss, .int .i64 al, .slice MA m mc] ∧ ∃ k : Nat, k ≤ z + 1 ∧ i = .int .i64 k ∧ x = .int .i64 (bI (ro k)) ∧ y = .int .i64 (li (ro k))) (fun _ _ i _ => z + 1 - (intOf i).toNat)
  case atStart => exact ⟨E, HB.out, 0, Nat.zero_le _, rfl, by rw [HR0.out]; rfl, by rw [HR0.out, HLI.out]⟩
  case round =>
    clear HB E d0 d1 d2 d3 d4 dz
    obtain ⟨E, hB, k, hk, rfl, rfl, rfl⟩ := hrel
    have HB := hid hB
    clear hB
    have d0 := HB.out.cell 0
    have d1 := HB.out.cell 1
    have d2 := HB.out.cell 2
    have d3 := HB.out.cell 3
    have d4 := HB.out.cell 4
    simp only [List.getElem?_toArray, List.getElem?_cons_zero, List.getElem?_cons_succ] at d0 d1 d2 d3 d4
    have dz := HB.out.lt
    by_cases hlt : k < z + 1
    · have hrs := HRS.out k
      have hx1 : bits BinOp.or IntKind.i64 (sv : Int) (k : Int) = ((sv ||| k : Nat) : Int) := or_i64 (by omega) (by omega)
      have hx2 : bits BinOp.and IntKind.i64 (k : Int) (sv : Int) = ((k &&& sv : Nat) : Int) := and_i64 (by omega) (by omega)
      have hok1 : sv ||| k < z + 1 := by
        rw [← HZ.out] at hs hlt ⊢
        exact Nat.or_lt_two_pow hs hlt
      have hlo := HLO.out k
      have hen := HEN.out k
      have hkz : (k : Int) ≤ (z : Int) := by omega
      by_cases ha : k &&& sv = 0
      · have hlo := hlo ha
        rw [if_pos ha] at hrs
        rw [← hlo] at hen
        replace hx2 : bits BinOp.and IntKind.i64 (k : Int) (sv : Int) = 0 := by rw [hx2, ha]; rfl
        by_cases hl : need ≤ litN spr (bitsL (sv ||| k))
        · rw [decide_eq_true hl] at hen
          have hl' : ¬ litN spr (bitsL (sv ||| k)) < need := by omega
          cases ho : ro k with
          | none =>
            rw [ho, HPN.out, if_pos hen] at hrs
            have HO := hid hrs
            clear hrs HRS HLO HEN HPN HPS HRL hl hlo
            rw [HLI.out]
            unfold bI
            go_wp2_with fail
            refine (HAL.out _).mono ?_
            rintro e w5 ⟨rfl, hE⟩
            replace HB := hid (HB.out.ext hE)
            replace E := E.trans hE
            clear hE d0 d1 d2 d3 d4 dz
            have d0 := HB.out.cell 0
            have d1 := HB.out.cell 1
            have d2 := HB.out.cell 2
            have d3 := HB.out.cell 3
            have d4 := HB.out.cell 4
            simp only [List.getElem?_toArray, List.getElem?_cons_zero, List.getElem?_cons_succ] at d0 d1 d2 d3 d4
            have dz := HB.out.lt
            go_wp2_with (simp only [hx1])
            refine (HSU.out (sv ||| k) (by assumption) _ E).mono ?_
            rintro e w5 ⟨rfl, hE⟩
            replace HB := hid (HB.out.ext hE)
            replace E := E.trans hE
            clear hE d0 d1 d2 d3 d4 dz
            have d0 := HB.out.cell 0
            have d1 := HB.out.cell 1
            have d2 := HB.out.cell 2
            have d3 := HB.out.cell 3
            have d4 := HB.out.cell 4
            simp only [List.getElem?_toArray, List.getElem?_cons_zero, List.getElem?_cons_succ] at d0 d1 d2 d3 d4
            have dz := HB.out.lt
            go_wp2_with (simp only [hx1, hx2])
            refine (HSU.out k (by assumption) _ E).mono ?_
            rintro e w5 ⟨rfl, hE⟩
            replace HB := hid (HB.out.ext hE)
            replace E := E.trans hE
            clear hE d0 d1 d2 d3 d4 dz
            have d0 := HB.out.cell 0
            have d1 := HB.out.cell 1
            have d2 := HB.out.cell 2
            have d3 := HB.out.cell 3
            have d4 := HB.out.cell 4
            simp only [List.getElem?_toArray, List.getElem?_cons_zero, List.getElem?_cons_succ] at d0 d1 d2 d3 d4
            have dz := HB.out.lt
            go_wp2_with (simp only [hx1, hx2])
            go_roundw
            case rel => exact ⟨E, HB.out, k + 1, by omega, by go_num, by rw [HO.out], by rw [HO.out, HLI.out]; try simp only [*]⟩
            case measure => simp [intOf]; omega
          | some p =>
            have hpk := HRL.out k p ho
            rw [ho, HPS.out] at hrs
            rw [HLI.out]
            unfold bI
            dsimp only
            clear HRS HLO HEN HPN HPS HRL hl hlo
            generalize hfk : fuelN spr (bitsL k) = fk at *
            generalize hfp : fuelN spr (bitsL p) = fp at *
            rcases Int.lt_trichotomy fk fp with h1 | h1 | h1
            · have HO := hid (show ro (k + 1) = some k by rw [hrs, if_pos ⟨hen, by simp [h1]⟩])
              clear hrs
              go_wp2_with fail
              refine (HAL.out _).mono ?_
              rintro e w5 ⟨rfl, hE⟩
              replace HB := hid (HB.out.ext hE)
              replace E := E.trans hE
              clear hE d0 d1 d2 d3 d4 dz
              have d0 := HB.out.cell 0
              have d1 := HB.out.cell 1
              have d2 := HB.out.cell 2
              have d3 := HB.out.cell 3
              have d4 := HB.out.cell 4
              simp only [List.getElem?_toArray, List.getElem?_cons_zero, List.getElem?_cons_succ] at d0 d1 d2 d3 d4
              have dz := HB.out.lt
              go_wp2_with (simp only [hx1])
              refine (HSU.out (sv ||| k) (by assumption) _ E).mono ?_
              rintro e w5 ⟨rfl, hE⟩
              replace HB := hid (HB.out.ext hE)
              replace E := E.trans hE
              clear hE d0 d1 d2 d3 d4 dz
              have d0 := HB.out.cell 0
              have d1 := HB.out.cell 1
              have d2 := HB.out.cell 2
              have d3 := HB.out.cell 3
              have d4 := HB.out.cell 4
              simp only [List.getElem?_toArray, List.getElem?_cons_zero, List.getElem?_cons_succ] at d0 d1 d2 d3 d4
              have dz := HB.out.lt
              go_wp2_with (simp only [hx1, hx2])
              refine (HSU.out k (by assumption) _ E).mono ?_
              rintro e w5 ⟨rfl, hE⟩
              replace HB := hid (HB.out.ext hE)
              replace E := E.trans hE
              clear hE d0 d1 d2 d3 d4 dz
              have d0 := HB.out.cell 0
              have d1 := HB.out.cell 1
              have d2 := HB.out.cell 2
              have d3 := HB.out.cell 3
              have d4 := HB.out.cell 4
              simp only [List.getElem?_toArray, List.getElem?_cons_zero, List.getElem?_cons_succ] at d0 d1 d2 d3 d4
              have dz := HB.out.lt
              go_wp2_with (simp only [hx1, hx2])
              go_roundw
              case rel => exact ⟨E, HB.out, k + 1, by omega, by go_num, by rw [HO.out], by rw [HO.out, HLI.out]; try simp only [*]⟩
              case measure => simp [intOf]; omega
            · subst h1
              by_cases h2 : pc k < pc p
              · have HO := hid (show ro (k + 1) = some k by rw [hrs, if_pos ⟨hen, by simp [h2]⟩])
                clear hrs
                go_wp2_with fail
                refine (HAL.out _).mono ?_
                rintro e w5 ⟨rfl, hE⟩
                replace HB := hid (HB.out.ext hE)
                replace E := E.trans hE
                clear hE d0 d1 d2 d3 d4 dz
                have d0 := HB.out.cell 0
                have d1 := HB.out.cell 1
                have d2 := HB.out.cell 2
                have d3 := HB.out.cell 3
                have d4 := HB.out.cell 4
                simp only [List.getElem?_toArray, List.getElem?_cons_zero, List.getElem?_cons_succ] at d0 d1 d2 d3 d4
                have dz := HB.out.lt
                go_wp2_with (simp only [hx1])
                refine (HSU.out (sv ||| k) (by assumption) _ E).mono ?_
                rintro e w5 ⟨rfl, hE⟩
                replace HB := hid (HB.out.ext hE)
                replace E := E.trans hE
                clear hE d0 d1 d2 d3 d4 dz
                have d0 := HB.out.cell 0
                have d1 := HB.out.cell 1
                have d2 := HB.out.cell 2
                have d3 := HB.out.cell 3
                have d4 := HB.out.cell 4
                simp only [List.getElem?_toArray, List.getElem?_cons_zero, List.getElem?_cons_succ] at d0 d1 d2 d3 d4
                have dz := HB.out.lt
                go_wp2_with (simp only [hx1, hx2])
                refine (HSU.out k (by assumption) _ E).mono ?_
                rintro e w5 ⟨rfl, hE⟩
                replace HB := hid (HB.out.ext hE)
                replace E := E.trans hE
                clear hE d0 d1 d2 d3 d4 dz
                have d0 := HB.out.cell 0
                have d1 := HB.out.cell 1
                have d2 := HB.out.cell 2
                have d3 := HB.out.cell 3
                have d4 := HB.out.cell 4
                simp only [List.getElem?_toArray, List.getElem?_cons_zero, List.getElem?_cons_succ] at d0 d1 d2 d3 d4
                have dz := HB.out.lt
                go_wp2_with (simp only [hx1, hx2])
                refine (HSZ.out k (by omega) _).mono ?_
                rintro e w7 ⟨rfl, rfl⟩
                go_wp2_with fail
                refine (HSZ.out p (by omega) _).mono ?_
                rintro e w7 ⟨rfl, rfl⟩
                go_wp2_with fail
                go_roundw
                case rel => exact ⟨E, HB.out, k + 1, by omega, by go_num, by rw [HO.out], by rw [HO.out, HLI.out]; try simp only [*]⟩
                case measure => simp [intOf]; omega
              · have HO := hid (show ro (k + 1) = some p by rw [hrs, if_neg (fun h => by have := h.2; simp [h2] at this)])
                clear hrs
                go_wp2_with fail
                refine (HAL.out _).mono ?_
                rintro e w5 ⟨rfl, hE⟩
                replace HB := hid (HB.out.ext hE)
                replace E := E.trans hE
                clear hE d0 d1 d2 d3 d4 dz
                have d0 := HB.out.cell 0
                have d1 := HB.out.cell 1
                have d2 := HB.out.cell 2
                have d3 := HB.out.cell 3
                have d4 := HB.out.cell 4
                simp only [List.getElem?_toArray, List.getElem?_cons_zero, List.getElem?_cons_succ] at d0 d1 d2 d3 d4
                have dz := HB.out.lt
                go_wp2_with (simp only [hx1])
                refine (HSU.out (sv ||| k) (by assumption) _ E).mono ?_
                rintro e w5 ⟨rfl, hE⟩
                replace HB := hid (HB.out.ext hE)
                replace E := E.trans hE
                clear hE d0 d1 d2 d3 d4 dz
                have d0 := HB.out.cell 0
                have d1 := HB.out.cell 1
                have d2 := HB.out.cell 2
                have d3 := HB.out.cell 3
                have d4 := HB.out.cell 4
                simp only [List.getElem?_toArray, List.getElem?_cons_zero, List.getElem?_cons_succ] at d0 d1 d2 d3 d4
                have dz := HB.out.lt
                go_wp2_with (simp only [hx1, hx2])
                refine (HSU.out k (by assumption) _ E).mono ?_
                rintro e w5 ⟨rfl, hE⟩
                replace HB := hid (HB.out.ext hE)
                replace E := E.trans hE
                clear hE d0 d1 d2 d3 d4 dz
                have d0 := HB.out.cell 0
                have d1 := HB.out.cell 1
                have d2 := HB.out.cell 2
                have d3 := HB.out.cell 3
                have d4 := HB.out.cell 4
                simp only [List.getElem?_toArray, List.getElem?_cons_zero, List.getElem?_cons_succ] at d0 d1 d2 d3 d4
                have dz := HB.out.lt
                go_wp2_with (simp only [hx1, hx2])
                refine (HSZ.out k (by omega) _).mono ?_
                rintro e w7 ⟨rfl, rfl⟩
                go_wp2_with fail
                refine (HSZ.out p (by omega) _).mono ?_
                rintro e w7 ⟨rfl, rfl⟩
                go_wp2_with fail
                go_roundw
                case rel => exact ⟨E, HB.out, k + 1, by omega, by go_num, by rw [HO.out], by rw [HO.out, HLI.out]; try simp only [*]⟩
                case measure => simp [intOf]; omega
            · have HO := hid (show ro (k + 1) = some p by
                rw [hrs, if_neg (fun h => by
                  have := h.2
                  simp only [Bool.or_eq_true, Bool.and_eq_true, decide_eq_true_eq] at this
                  omega)])
              clear hrs
              have h3 : ¬ fk < fp := by omega
              have h4 : ¬ fk = fp := by omega
              go_wp2_with fail
              refine (HAL.out _).mono ?_
              rintro e w5 ⟨rfl, hE⟩
              replace HB := hid (HB.out.ext hE)
              replace E := E.trans hE
              clear hE d0 d1 d2 d3 d4 dz
              have d0 := HB.out.cell 0
              have d1 := HB.out.cell 1
              have d2 := HB.out.cell 2
              have d3 := HB.out.cell 3
              have d4 := HB.out.cell 4
              simp only [List.getElem?_toArray, List.getElem?_cons_zero, List.getElem?_cons_succ] at d0 d1 d2 d3 d4
              have dz := HB.out.lt
              go_wp2_with (simp only [hx1])
              refine (HSU.out (sv ||| k) (by assumption) _ E).mono ?_
              rintro e w5 ⟨rfl, hE⟩
              replace HB := hid (HB.out.ext hE)
              replace E := E.trans hE
              clear hE d0 d1 d2 d3 d4 dz
              have d0 := HB.out.cell 0
              have d1 := HB.out.cell 1
              have d2 := HB.out.cell 2
              have d3 := HB.out.cell 3
              have d4 := HB.out.cell 4
              simp only [List.getElem?_toArray, List.getElem?_cons_zero, List.getElem?_cons_succ] at d0 d1 d2 d3 d4
              have dz := HB.out.lt
              go_wp2_with (simp only [hx1, hx2])
              refine (HSU.out k (by assumption) _ E).mono ?_
              rintro e w5 ⟨rfl, hE⟩
              replace HB := hid (HB.out.ext hE)
              replace E := E.trans hE
              clear hE d0 d1 d2 d3 d4 dz
              have d0 := HB.out.cell 0
              have d1 := HB.out.cell 1
              have d2 := HB.out.cell 2
              have d3 := HB.out.cell 3
              have d4 := HB.out.cell 4
              simp only [List.getElem?_toArray, List.getElem?_cons_zero, List.getElem?_cons_succ] at d0 d1 d2 d3 d4
              have dz := HB.out.lt
              go_wp2_with (simp only [hx1, hx2])
              go_roundw
              case rel => exact ⟨E, HB.out, k + 1, by omega, by go_num, by rw [HO.out], by rw [HO.out, HLI.out]; try simp only [*]⟩
              case measure => simp [intOf]; omega
        · rw [decide_eq_false hl] at hen
          have hl' : litN spr (bitsL (sv ||| k)) < need := by omega
          have HO := hid (show ro (k + 1) = ro k by
            rw [hrs]
            cases ho : ro k with
            | none => rw [HPN.out, if_neg (by rw [hen]; decide)]
            | some p => rw [HPS.out, if_neg (fun h => by rw [hen] at h; cases h.1)])
          clear hrs HRS HLO HEN HPN HPS HRL hl hlo
          generalize hbo : bI (ro k) = bo at *
          generalize hlo : li (ro k) = lo at *
          go_wp2_with fail
          refine (HAL.out _).mono ?_
          rintro e w5 ⟨rfl, hE⟩
          replace HB := hid (HB.out.ext hE)
          replace E := E.trans hE
          clear hE d0 d1 d2 d3 d4 dz
          have d0 := HB.out.cell 0
          have d1 := HB.out.cell 1
          have d2 := HB.out.cell 2
          have d3 := HB.out.cell 3
          have d4 := HB.out.cell 4
          simp only [List.getElem?_toArray, List.getElem?_cons_zero, List.getElem?_cons_succ] at d0 d1 d2 d3 d4
          have dz := HB.out.lt
          go_wp2_with (simp only [hx1])
          refine (HSU.out (sv ||| k) (by assumption) _ E).mono ?_
          rintro e w5 ⟨rfl, hE⟩
          replace HB := hid (HB.out.ext hE)
          replace E := E.trans hE
          clear hE d0 d1 d2 d3 d4 dz
          have d0 := HB.out.cell 0
          have d1 := HB.out.cell 1
          have d2 := HB.out.cell 2
          have d3 := HB.out.cell 3
          have d4 := HB.out.cell 4
          simp only [List.getElem?_toArray, List.getElem?_cons_zero, List.getElem?_cons_succ] at d0 d1 d2 d3 d4
          have dz := HB.out.lt
          go_wp2_with (simp only [hx1, hx2])
          refine (HSU.out k (by assumption) _ E).mono ?_
          rintro e w5 ⟨rfl, hE⟩
          replace HB := hid (HB.out.ext hE)
          replace E := E.trans hE
          clear hE d0 d1 d2 d3 d4 dz
          have d0 := HB.out.cell 0
          have d1 := HB.out.cell 1
          have d2 := HB.out.cell 2
          have d3 := HB.out.cell 3
          have d4 := HB.out.cell 4
          simp only [List.getElem?_toArray, List.getElem?_cons_zero, List.getElem?_cons_succ] at d0 d1 d2 d3 d4
          have dz := HB.out.lt
          go_wp2_with (simp only [hx1, hx2])
          go_roundw
          case rel => exact ⟨E, HB.out, k + 1, by omega, by go_num, by rw [HO.out, hbo], by rw [HO.out, hlo]⟩
          case measure => simp [intOf]; omega
      · have HO := hid (show ro (k + 1) = ro k by rw [hrs, if_neg ha])
        have hx3 : ¬ ((k &&& sv : Nat) : Int) = 0 := by omega
        clear hrs HRS HLO HEN HPN HPS HRL hlo
        generalize k &&& sv = kv at *
        generalize hbo : bI (ro k) = bo at *
        generalize hlo : li (ro k) = lo at *
        go_wp2_with fail
        refine (HAL.out _).mono ?_
        rintro e w5 ⟨rfl, hE⟩
        replace HB := hid (HB.out.ext hE)
        replace E := E.trans hE
        clear hE d0 d1 d2 d3 d4 dz
        have d0 := HB.out.cell 0
        have d1 := HB.out.cell 1
        have d2 := HB.out.cell 2
        have d3 := HB.out.cell 3
        have d4 := HB.out.cell 4
        simp only [List.getElem?_toArray, List.getElem?_cons_zero, List.getElem?_cons_succ] at d0 d1 d2 d3 d4
        have dz := HB.out.lt
        go_wp2_with (simp only [hx1])
        refine (HSU.out (sv ||| k) (by assumption) _ E).mono ?_
        rintro e w5 ⟨rfl, hE⟩
        replace HB := hid (HB.out.ext hE)
        replace E := E.trans hE
        clear hE d0 d1 d2 d3 d4 dz
        have d0 := HB.out.cell 0
        have d1 := HB.out.cell 1
        have d2 := HB.out.cell 2
        have d3 := HB.out.cell 3
        have d4 := HB.out.cell 4
        simp only [List.getElem?_toArray, List.getElem?_cons_zero, List.getElem?_cons_succ] at d0 d1 d2 d3 d4
        have dz := HB.out.lt
        go_wp2_with (simp only [hx1, hx2])
        refine (HSU.out k (by assumption) _ E).mono ?_
        rintro e w5 ⟨rfl, hE⟩
        replace HB := hid (HB.out.ext hE)
        replace E := E.trans hE
        clear hE d0 d1 d2 d3 d4 dz
        have d0 := HB.out.cell 0
        have d1 := HB.out.cell 1
        have d2 := HB.out.cell 2
        have d3 := HB.out.cell 3
        have d4 := HB.out.cell 4
        simp only [List.getElem?_toArray, List.getElem?_cons_zero, List.getElem?_cons_succ] at d0 d1 d2 d3 d4
        have dz := HB.out.lt
        go_wp2_with (simp only [hx1, hx2])
        go_roundw
        case rel => exact ⟨E, HB.out, k + 1, by omega, by go_num, by rw [HO.out, hbo], by rw [HO.out, hlo]⟩
        case measure => simp [intOf]; omega
    · obtain rfl : k = z + 1 := by omega
      have hkz : ¬ ((z + 1 : Nat) : Int) ≤ (z : Int) := by omega
      rw [HRE.out]
      cases ho : so with
      | none =>
        have HG := hid (fun w' h => HF1.out w' h ho)
        rw [HLI.out]
        unfold bI
        dsimp only
        go_wp2_with fail
        refine (HAL.out _).mono ?_
        rintro e w5 ⟨rfl, hE⟩
        replace E := E.trans hE
        clear hE
        go_wp2_with fail
        refine bodyPost_ret (v := .tuple #[.int .i64 0, .int .i64 0, .int .i64 0, .int .i64 3]) (by simp [results, Tryd.results36, go_sem]) rfl ⟨(HG.out _ E).symm, E⟩
      | some p =>
        have HG := hid (HF2.out p ho)
        rw [HLI.out]
        unfold bI
        dsimp only
        generalize fuelN spr (bitsL p) = fp at *
        go_wp2_with fail
        refine (HAL.out _).mono ?_
        rintro e w5 ⟨rfl, hE⟩
        replace E := E.trans hE
        clear hE
        go_wp2_with fail
        refine bodyPost_ret (v := .tuple #[.int .i64 sv, .int .i64 p, .int .i64 fp, .int .i64 0]) (by simp [results, Tryd.results36, go_sem]) rfl ⟨HG.out.symm, E⟩
end Go.Proofs.YtcfijidlbimckaaDoor
