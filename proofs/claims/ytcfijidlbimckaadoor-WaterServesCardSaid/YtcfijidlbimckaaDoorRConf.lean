/- Conflict, of the specification. -/
import Derived.Test.YtcfijidlbimckaaDoorRConM
import Derived.Test.YtcfijidlbimckaaDoorRSome
import Derived.Test.YtcfijidlbimckaaDoorAppAll
set_option linter.unusedSimpArgs false
set_option linter.unusedVariables false
namespace Go.Proofs.YtcfijidlbimckaaDoor
open Go.RowKit
theorem takeI_at {L : List Nat} {c j : Nat} (hj : j < c) (hc : c ≤ L.length) : ((L.take c).map Int.ofNat).getD j 0 = ((L.getD j 0 : Nat) : Int) := by
  rw [natL_at (show j < (L.take c).length by rw [List.length_take]; omega), getD_at _ _ (show j < (L.take c).length by rw [List.length_take]; omega), getD_at _ _ (show j < L.length by omega)]
  simp
theorem dropI_at {L : List Nat} {c j : Nat} (hj : j < L.length - c) : ((L.drop c).map Int.ofNat).getD j 0 = ((L.getD (c + j) 0 : Nat) : Int) := by
  rw [natL_at (show j < (L.drop c).length by rw [List.length_drop]; omega), getD_at _ _ (show j < (L.drop c).length by rw [List.length_drop]; omega), getD_at _ _ (show c + j < L.length by omega)]
  simp
def lenOf (v : Value) : Nat := match v with | .slice _ n _ => n | _ => 0
set_option maxHeartbeats 4000000 in
set_option maxRecDepth 100000 in
theorem rconf_any (d : Wat) (A : WA) (hn : d.spr.length ≤ 30) (hm : d.smp.length ≤ 1000) (w : World) (hW : WIn w d A) :
    Calls Tryd.prog 37 #[wval d A] w (ConfIs d w) := by
  have HC := hid (fun W (hE : Ext w W) => rCheck_any d A hn hm W (hW.ext hE))
  have BN := hid (Blk.new w 25 (wcells d A))
  unfold ConfIs conI
  cases hc : watB d
  case false =>
    have he : conE d = 40 := by unfold conE; rw [hc]; rfl
    rw [hc, if_neg (by decide)] at HC
    simp only [he]
    clear hc he
    clear hW
    unfold wval wcells at *
    obtain ⟨spr, most, miss, al, smp⟩ := d
    obtain ⟨SA, sc, MA, mc⟩ := A
    dsimp only at *
    generalize spr.length = n at *
    generalize hsm : smp.length = m at *
    go_enter Tryd.func37, Tryd.ntmps37
    go_wp2_with fail
    refine (HC.out _ (by (repeat' (first | with_reducible assumption | with_reducible exact Ext.refl _ | with_reducible refine Ext.alloc ?_ _ | with_reducible refine Ext.set ?_ ?_ _ | with_reducible refine Ext.drew ?_ | with_reducible refine Ext.drewN ?_ _ | with_reducible refine Ext.trans ?_ (by assumption) | (dsimp only; omega))))).mono ?_
    rintro e w2 ⟨rfl, hE⟩
    have E : Ext w w2 := by (repeat' (first | with_reducible assumption | with_reducible exact Ext.refl _ | with_reducible refine Ext.alloc ?_ _ | with_reducible refine Ext.set ?_ ?_ _ | with_reducible refine Ext.drew ?_ | with_reducible refine Ext.drewN ?_ _ | with_reducible refine Ext.trans ?_ (by assumption) | (dsimp only; omega)))
    have HB := hid (BN.out.ext hE)
    clear hE BN
    have d0 := HB.out.cell 0
    have d1 := HB.out.cell 1
    have d2 := HB.out.cell 2
    have d3 := HB.out.cell 3
    have d4 := HB.out.cell 4
    simp only [List.getElem?_toArray, List.getElem?_cons_zero, List.getElem?_cons_succ] at d0 d1 d2 d3 d4
    have dz := HB.out.lt
    go_wp2
    go_ret2
    exact ⟨_, rfl, OwnI.nil _ _, E⟩
  rw [hc, if_pos rfl] at HC
  have hok := watB_ok hc
  have hm20 := hok.m20
  have hn8 := hok.n8
  have HSO := hid (fun (is : List Nat) (LA : Option Addr) (lc : Nat) (hl : is.length ≤ 1000) (hi : ∀ k, k < is.length → is.getD k 0 < d.smp.length) W (hE : Ext w W) (hI : IntsAt W LA (is.map Int.ofNat)) => rSome_any d A is LA lc hm hl hi W (hW.ext hE) hI)
  have HTR := hid (fun (S : Nat) (hS : ∀ i ∈ bitsL S, i < d.smp.length) (QA : Option Addr) (qc : Nat) (hl : (selL d (bitsL S)).length ≤ 1000) W (hSm : SmpAt W QA (selL d (bitsL S))) => rtruths_any d A (selL d (bitsL S)) QA qc hn8 hl (fun i hi => by
    have h1 : (selL d (bitsL S)).getD i zeroSmp ∈ selL d (bitsL S) := by rw [getD_at _ _ hi]; exact List.getElem_mem hi
    obtain ⟨j, hj, hj2⟩ := List.mem_map.1 (show (selL d (bitsL S)).getD i zeroSmp ∈ (bitsL S).map _ from h1)
    rw [← hj2]
    exact hok.mix255 j (hS j hj)) W hSm)
  have HPR := hid (fun S => (show ((possR d (selL d (bitsL S))).map Int.ofNat).length = (possL d S).length by rw [possR_sel, List.length_map]))
  have hpos : 0 < 2 ^ d.smp.length := Nat.two_pow_pos _
  have h20 : 2 ^ d.smp.length ≤ 2 ^ 20 := Nat.pow_le_pow_right (by decide) hm20
  have hlt := keepN_lt hok
  have HIN := hid (fun t => (show ∀ i ∈ bitsL (keepN d t), i < d.smp.length from fun i hi => bitsL_lt (hlt t).1 hi))
  have HLN := hid (fun t => (show (bitsL (keepN d t)).length ≤ d.smp.length from bits_len (hlt t).1 (by omega)))
  have HSL := hid (fun is => (show (selL d is).length = is.length from List.length_map _))
  have HFU := hid (bitsL_full (k := d.smp.length) (by omega))
  have hk0 : keepN d 0 = 2 ^ d.smp.length - 1 := rfl
  have htr : truthsL d = possL d (keepN d 0) := rfl
  have he : conE d = if conN d = 0 then 3 else 0 := by unfold conE; rw [hc]; rfl
  have hcn : conN d = if possL d (keepN d 0) = [] then keepN d d.smp.length else 0 := rfl
  have HNE := hid (fun (h : possL d (keepN d 0) = []) => (show keepN d d.smp.length ≠ 0 by
    have h1 := conN_ne hok (show truthsL d = [] from h)
    rwa [hcn, if_pos h] at h1))
  have HKS := hid (keepN_succ d)
  have HKT := hid (fun t (ht : t < d.smp.length) => keep_take hok ht)
  have HKD := hid (fun t (ht : t < d.smp.length) => keep_drop hok ht)
  have HDS := hid (fun t (ht : t < d.smp.length) => dif_split hok ht)
  have HCL := hid (fun t (ht : t < d.smp.length) => cnt_lt hok ht)
  have HCK := hid (fun t (ht : t < d.smp.length) => cnt_keep hok ht)
  have HCD := hid (fun t (ht : t < d.smp.length) => cnt_drop hok ht)
  have HCE := hid (cnt_end hok)
  have HC0 := hid (show cntN d 0 = 0 by
    unfold cntN
    rw [List.filter_eq_nil_iff.2 (fun x _ => by simp)]; rfl)
  have HDL := hid (fun t i (hi : i ∈ bitsL (dif (keepN d t) (2 ^ t))) => (show i < d.smp.length from bitsL_lt (Nat.lt_of_le_of_lt (dif_le _ _) (hlt t).1) hi))
  have HDN := hid (fun t => (show (bitsL (dif (keepN d t) (2 ^ t))).length ≤ d.smp.length from bits_len (Nat.lt_of_le_of_lt (dif_le _ _) (hlt t).1) (by omega)))
  unfold conS at HKS
  rw [← hk0] at HFU
  obtain ⟨ce, hce⟩ : ∃ x, conE d = x := ⟨_, rfl⟩
  rw [hce] at he ⊢
  obtain ⟨ci, hci⟩ : ∃ x, (if ce = 0 then (bitsL (conN d)).map Int.ofNat else []) = x := ⟨_, rfl⟩
  rw [hci]
  rw [he] at hci
  have HCE2 := hid he
  have HCI := hid hci
  have HCN := hid hcn
  clear hci he hcn hce hk0 htr hlt hok hc
  generalize conN d = cn at *
  generalize keepN d = kn at *
  generalize cntN d = ct at *
  generalize possL d = po at *
  generalize possR d = pr at *
  generalize selL d = sel at *
  clear hW
  unfold wval wcells at *
  obtain ⟨spr, most, miss, al, smp⟩ := d
  obtain ⟨SA, sc, MA, mc⟩ := A
  dsimp only at *
  generalize spr.length = n at *
  generalize hsm : smp.length = m at *
  go_enter Tryd.func37, Tryd.ntmps37
  go_wp2_with fail
  refine (HC.out _ (by (repeat' (first | with_reducible assumption | with_reducible exact Ext.refl _ | with_reducible refine Ext.alloc ?_ _ | with_reducible refine Ext.set ?_ ?_ _ | with_reducible refine Ext.drew ?_ | with_reducible refine Ext.drewN ?_ _ | with_reducible refine Ext.trans ?_ (by assumption) | (dsimp only; omega))))).mono ?_
  rintro e w2 ⟨rfl, hE⟩
  have E : Ext w w2 := by (repeat' (first | with_reducible assumption | with_reducible exact Ext.refl _ | with_reducible refine Ext.alloc ?_ _ | with_reducible refine Ext.set ?_ ?_ _ | with_reducible refine Ext.drew ?_ | with_reducible refine Ext.drewN ?_ _ | with_reducible refine Ext.trans ?_ (by assumption) | (dsimp only; omega)))
  have HB := hid (BN.out.ext hE)
  clear hE BN
  have d0 := HB.out.cell 0
  have d1 := HB.out.cell 1
  have d2 := HB.out.cell 2
  have d3 := HB.out.cell 3
  have d4 := HB.out.cell 4
  simp only [List.getElem?_toArray, List.getElem?_cons_zero, List.getElem?_cons_succ] at d0 d1 d2 d3 d4
  have dz := HB.out.lt
  go_wp2
  go_loopw [4, 5] (fun v i wr => Ext w wr ∧ Blk wr w.heap.size 25 #[.slice SA n sc, .int .i64 most, .int .i64 miss, .int .i64 al, .slice MA m mc] ∧ ∃ k : Nat, k ≤ m ∧ i = .int .i64 k ∧ Hid (OwnI wr (w.heap.size + 1) v ((List.range k).map Int.ofNat))) (fun _ i _ => m - (intOf i).toNat)
  case atStart => exact ⟨E, HB.out, 0, Nat.zero_le _, rfl, hid (OwnI.nil _ _)⟩
  case round =>
    clear HB E d0 d1 d2 d3 d4 dz
    obtain ⟨E, hB, k, hk, rfl, HO⟩ := hrel
    have HB := hid hB
    clear hB
    have d0 := HB.out.cell 0
    have d1 := HB.out.cell 1
    have d2 := HB.out.cell 2
    have d3 := HB.out.cell 3
    have d4 := HB.out.cell 4
    simp only [List.getElem?_toArray, List.getElem?_cons_zero, List.getElem?_cons_succ] at d0 d1 d2 d3 d4
    have dz := HB.out.lt
    have hes := E.size
    by_cases hlt : k < m
    · have HYS := hid (show (List.range (k + 1)).map Int.ofNat = (List.range k).map Int.ofNat ++ [(k : Int)] by rw [List.range_succ, List.map_append]; rfl)
      have hyl : ((List.range k).map Int.ofNat).length ≤ 1000 := by rw [List.length_map, List.length_range]; omega
      generalize (List.range k).map Int.ofNat = ys at *
      go_wp2_with (at_builtin; refine Halt.mk ?_)
      unfold Halt
      refine appI _ rfl _ _ rfl (w.heap.size + 1) _ ys rfl (HO.out.ext (ext_alloc1 _ _)) ⟨wr.heap.size, 0, none⟩ (k : Int) rfl (blk_cell (blk_last wr _) 0) (by omega) (by simp; omega) ?_
      intro v' w5 hown5 hg5
      have HE5 := hid (HO.out.extApp E (by omega) hg5)
      have HQ5 := hid (HO.out.blkApp HB.out (by omega) hg5)
      have HO5 := hid hown5
      clear hown5 hg5
      go_wp2
      go_roundw
      case rel => exact ⟨HE5.out, HQ5.out, k + 1, by omega, by go_num, hid (by rw [HYS.out]; exact HO5.out)⟩
      case measure => simp [intOf]; omega
    · obtain rfl : k = m := by omega
      rw [← HFU.out] at HO
      have hl0 := HLN.out 0
      obtain ⟨LA, lc, rfl, hI⟩ := HO.out.form
      have HI := hid hI
      clear hI
      have e0 : ((bitsL (kn 0)).map Int.ofNat).length = (bitsL (kn 0)).length := List.length_map _
      rw [e0] at HO ⊢
      have HS1 := hid (HSO.out (bitsL (kn 0)) LA lc (by omega) (fun j hj => HIN.out 0 _ (by rw [getD_at _ _ hj]; exact List.getElem_mem hj)))
      have HT1 := hid (fun QA qc W hS => HTR.out (kn 0) (HIN.out 0) QA qc (by rw [HSL.out]; omega) W hS)
      have HPL := hid (HPR.out (kn 0))
      clear e0
      go_wp2_with fail
      refine wp_region_held_drew (S := fun w' => (∀ b o, b < wr.heap.size → w'.cell? ⟨b, o, none⟩ = wr.cell? ⟨b, o, none⟩) ∧ wr.heap.size ≤ w'.heap.size ∧ Ext wr w') (by kernel_rfl) ?hS0 (fun hHeld => ?_)
      case hS0 => exact sK (Ext.drew (Ext.refl _))
      refine wpAnyH_take (i := 0) (oi := _) (v := ?v0xa) rfl (by kernel_rfl) (by kernel_rfl) (by kernel_rfl) (fun _ _ _ h => h) (Or.inl ⟨by rfl, ?y0xa⟩) (by assumption) ?r0xa
      case y0xa => (intro w' hSw; (try dsimp only at hSw); go_simp; (try with_reducible rfl))
      try simp only [Act.put, List.getElem_toArray, List.getElem_cons_zero, List.getElem_cons_succ, List.setIfInBounds_toArray, List.set_cons_zero, List.set_cons_succ]
      refine wpAnyH_take (i := 1) (oi := _) (v := ?v1xa) rfl (by kernel_rfl) (by kernel_rfl) (by kernel_rfl) (fun _ _ _ h => h) (Or.inl ⟨by rfl, ?y1xa⟩) (by assumption) ?r1xa
      case y1xa => (intro w' hSw; (try dsimp only at hSw); go_simp; (try with_reducible rfl))
      try simp only [Act.put, List.getElem_toArray, List.getElem_cons_zero, List.getElem_cons_succ, List.setIfInBounds_toArray, List.set_cons_zero, List.set_cons_succ]
      refine wpAnyH_take (i := 2) (oi := _) (v := ?v2xa) rfl (by kernel_rfl) (by kernel_rfl) (by kernel_rfl) (fun _ _ _ h => h) (Or.inl ⟨by rfl, ?y2xa⟩) (by assumption) ?r2xa
      case y2xa => (intro w' hSw; (try dsimp only at hSw); go_simp; (try with_reducible rfl))
      try simp only [Act.put, List.getElem_toArray, List.getElem_cons_zero, List.getElem_cons_succ, List.setIfInBounds_toArray, List.set_cons_zero, List.set_cons_succ]
      clear hHeld
      refine wpAnyH_ready (rs := [3]) (by kernel_rfl) (by simp) ?_
      refine AllReadyH.cons (o := _) rfl (fun K hK => ?_) AllReadyH.nil
      go_simp
      refine (HS1.out _ (E.drew) (HI.out.ext (Ext.drew (Ext.refl _)))).mono ?_
      rintro e w7 ⟨v7, rfl, hown7, hE7⟩
      obtain ⟨QA, qc, rfl, hsmp7⟩ := hown7.form
      have X7 : Ext wr w7 := (Ext.drew (Ext.refl wr)).trans hE7
      have HSM7 := hid hsmp7
      clear hown7 hsmp7 hE7
      dsimp only
      refine hK.out _ _ (sK X7) (fun hHeld => ?_)
      clear hK K
      try simp only [Act.put, List.getElem_toArray, List.getElem_cons_zero, List.getElem_cons_succ, List.setIfInBounds_toArray, List.set_cons_zero, List.set_cons_succ]
      clear hHeld
      refine wpAnyH_ready (rs := [4]) (by kernel_rfl) (by simp) ?_
      refine AllReadyH.cons (o := _) rfl (fun K hK => ?_) AllReadyH.nil
      go_simp
      refine (HT1.out QA qc _ HSM7.out).mono ?_
      rintro e w8 ⟨v8, rfl, hown8, hE8⟩
      obtain ⟨PA, pc8, rfl, -⟩ := hown8.form
      have X8 : Ext wr w8 := X7.trans hE8
      clear hown8 hE8 X7 HSM7
      dsimp only
      rw [HPL.out]
      refine hK.out _ _ (sK X8) (fun hHeld => ?_)
      clear hK K
      try simp only [Act.put, List.getElem_toArray, List.getElem_cons_zero, List.getElem_cons_succ, List.setIfInBounds_toArray, List.set_cons_zero, List.set_cons_succ]
      refine wpAnyH_take (i := 5) (oi := _) (v := ?v5xb) rfl (by kernel_rfl) (by kernel_rfl) (by kernel_rfl) (fun _ _ _ h => h) (Or.inl ⟨by rfl, ?y5xb⟩) (by assumption) ?r5xb
      case y5xb => (intro w' hSw; (try dsimp only at hSw); go_simp; (try with_reducible rfl))
      try simp only [Act.put, List.getElem_toArray, List.getElem_cons_zero, List.getElem_cons_succ, List.setIfInBounds_toArray, List.set_cons_zero, List.set_cons_succ]
      refine wpAnyH_take (i := 6) (oi := _) (v := ?v6xb) rfl (by kernel_rfl) (by kernel_rfl) (by kernel_rfl) (fun _ _ _ h => h) (Or.inl ⟨by rfl, ?y6xb⟩) (by assumption) ?r6xb
      case y6xb => (intro w' hSw; (try dsimp only at hSw); go_simp; (try with_reducible rfl))
      try simp only [Act.put, List.getElem_toArray, List.getElem_cons_zero, List.getElem_cons_succ, List.setIfInBounds_toArray, List.set_cons_zero, List.set_cons_succ]
      clear hHeld
      refine wpAnyH_done (by kernel_rfl) ?_ _
      have E8 := E.trans X8
      have HB8 := hid (HB.out.ext X8)
      have HO8 := hid (HO.out.ext X8)
      clear E HB HO X8 HS1 HT1 HPL HI d0 d1 d2 d3 d4 dz hes
      by_cases hp : po (kn 0) = []
      case neg =>
        have hl : 0 < (po (kn 0)).length := List.length_pos_iff.2 hp
        have hcn0 : cn = 0 := by rw [HCN.out, if_neg hp]
        have HRC := hid (show ce = 3 by rw [HCE2.out, if_pos hcn0])
        have HRI := hid (show ci = [] by rw [← HCI.out, if_pos hcn0, if_neg (by decide)])
        clear hp hcn0
        generalize (po (kn 0)).length = pl at *
        go_wp2
        go_ret2
        exact ⟨.slice none 0 0, by rw [HRC.out]; rfl, by rw [HRI.out]; exact OwnI.nil _ _, E8⟩
      have hl : (po (kn 0)).length = 0 := by rw [hp]; rfl
      have hcn0 : cn = kn k := by rw [HCN.out, if_pos hp]
      have hne := HNE.out hp
      have HRC := hid (show ce = 0 by rw [HCE2.out, if_neg (by rw [hcn0]; exact hne)])
      have HRI := hid (show ci = (bitsL (kn k)).map Int.ofNat by rw [← HCI.out, if_neg (show ¬ cn = 0 by rw [hcn0]; exact hne), if_pos rfl, hcn0])
      clear hp hcn0 hne HCI HCE2 HCN HNE
      generalize (po (kn 0)).length = pl0 at *
      have hd0 : decide (0 < pl0) = false := decide_eq_false (by omega)
      simp only [hd0]
      clear hl hd0
      go_wp2
      go_loopw [4, 6] (fun v i wr => Ext w wr ∧ Blk wr w.heap.size 25 #[.slice SA n sc, .int .i64 most, .int .i64 miss, .int .i64 al, .slice MA k mc] ∧ ∃ t : Nat, t ≤ k ∧ i = .int .i64 (ct t : Nat) ∧ Hid (OwnI wr (w.heap.size + 1) v ((bitsL (kn t)).map Int.ofNat))) (fun v i _ => lenOf v - (intOf i).toNat)
      case atStart => exact ⟨E8, HB8.out, 0, Nat.zero_le _, by rw [HC0.out]; rfl, HO8⟩
      case round =>
        rename_i E8' 
        clear HB8 HO8
        obtain ⟨E, hB, t, ht, rfl, HO⟩ := hrel
        have HB := hid hB
        clear hB
        have d0 := HB.out.cell 0
        have d1 := HB.out.cell 1
        have d2 := HB.out.cell 2
        have d3 := HB.out.cell 3
        have d4 := HB.out.cell 4
        simp only [List.getElem?_toArray, List.getElem?_cons_zero, List.getElem?_cons_succ] at d0 d1 d2 d3 d4
        have dz := HB.out.lt
        have hes := E.size
        have e0 : ((bitsL (kn t)).map Int.ofNat).length = (bitsL (kn t)).length := List.length_map _
        by_cases hlt2 : t < k
        · have hcl := HCL.out t hlt2
          have hln := HLN.out t
          obtain ⟨g, cap, rfl, hgc, hg, hcm, HI⟩ : ∃ g cap, u4 = .slice (some ⟨g, 0, none⟩) (bitsL (kn t)).length cap ∧ (bitsL (kn t)).length ≤ cap ∧ g < wr.heap.size ∧ cap ≤ maxLen ∧ Hid (∀ j, j < (bitsL (kn t)).length → wr.cell? ⟨g, j, none⟩ = some (.int .i64 ((bitsL (kn t)).getD j 0 : Nat))) := by
            have h := HO.out
            have hcells : ∀ g cap, u4 = .slice (some ⟨g, 0, none⟩) (bitsL (kn t)).length cap → ∀ j, j < (bitsL (kn t)).length → wr.cell? ⟨g, j, none⟩ = some (.int .i64 ((bitsL (kn t)).getD j 0 : Nat)) := by
              intro g cap hv j hj
              obtain ⟨A1, c1, hv2, hI⟩ := h.form
              rw [hv] at hv2
              injection hv2 with h1 h2
              subst h1
              obtain ⟨b, off, hA, hb, hc⟩ := hI.at_ rfl (show j < ((bitsL (kn t)).map Int.ofNat).length by rw [e0]; exact hj)
              injection hA with hA
              injection hA with hA1 hA2
              subst hA1 hA2
              rw [natL_at hj, Nat.zero_add] at hc
              exact hc
            rcases h.2 with ⟨_, h0⟩ | ⟨g, cap, cur, a1, a2, a3, a4, a5, _⟩
            · rw [e0] at h0; omega
            · rw [e0] at a1 a4
              exact ⟨g, cap, a1, a4, (Array.getElem?_eq_some_iff.1 a3).1, a5, hid (hcells g cap a1)⟩
          obtain ⟨c1, hc1⟩ : ∃ c1, ct t + 1 = c1 := ⟨_, rfl⟩
          have hx1l : (((bitsL (kn t)).take (ct t)).map Int.ofNat).length = ct t := by rw [List.length_map, List.length_take]; omega
          have hx2l : (((bitsL (kn t)).drop c1).map Int.ofNat).length = (bitsL (kn t)).length - c1 := by rw [List.length_map, List.length_drop]
          have HX1 := hid (fun j (hj : j < ct t) => takeI_at (L := bitsL (kn t)) hj (by omega))
          have HX2 := hid (fun j (hj : j < (bitsL (kn t)).length - c1) => dropI_at (L := bitsL (kn t)) (c := c1) hj)
          have hx12 : ((bitsL (kn t)).take (ct t)).map Int.ofNat ++ ((bitsL (kn t)).drop c1).map Int.ofNat = (bitsL (dif (kn t) (2 ^ t))).map Int.ofNat := by
            rw [← List.map_append, HDS.out t hlt2, HKT.out t hlt2, ← hc1, HKD.out t hlt2]
          have HKN := hid (HKS.out t)
          have HCk := hid (HCK.out t hlt2)
          have HCd := hid (HCD.out t hlt2)
          have HS1 := hid (fun LA lc => HSO.out (bitsL (dif (kn t) (2 ^ t))) LA lc (by have := HDN.out t; omega) (fun j hj => HDL.out t _ (by rw [getD_at _ _ hj]; exact List.getElem_mem hj)))
          have HT1 := hid (fun QA qc W hS => HTR.out (dif (kn t) (2 ^ t)) (HDL.out t) QA qc (by rw [HSL.out]; have := HDN.out t; omega) W hS)
          have HPL := hid (HPR.out (dif (kn t) (2 ^ t)))
          have hdl : (bitsL (dif (kn t) (2 ^ t))).length = ct t + ((bitsL (kn t)).length - c1) := by
            have h := congrArg List.length hx12
            rw [List.length_append, hx1l, hx2l, List.length_map] at h
            exact h.symm
          have HDI := hid (show ((bitsL (dif (kn t) (2 ^ t))).map Int.ofNat).length = (bitsL (dif (kn t) (2 ^ t))).length from List.length_map _)
          clear HSO HTR HPR HDL HDN HDS HKT HKD HCK HCD HKS HCL HCE HIN
          generalize hL : bitsL (kn t) = L at *
          generalize hL2 : bitsL (dif (kn t) (2 ^ t)) = L2 at *
          generalize (L.take (ct t)).map Int.ofNat = xs1 at *
          generalize (L.drop c1).map Int.ofNat = xs2 at *
          generalize hctt : ct t = ctt at *
          have hca : (ctt : Int) < (L.length : Int) := by omega
          unfold maxLen at hcm
          have hw1 : IntKind.i64.wrap ((ctt : Int) + 1) = (c1 : Int) := by
            rw [← hc1]
            exact IntWalk.i64_in _ (by omega)
          have hcc : ctt ≤ cap := by omega
          have hcx : ctt ≤ c1 := by omega
          have hcd : c1 ≤ L.length := by omega
          have hce : c1 ≤ cap := by omega
          have HC1 := hid hc1
          clear hc1
          generalize hln2 : L.length = ln at *
          by_cases hcap : cap = c1
          · go_wp2_with fail
            refine wp_region_held_drew (S := fun w' => (∀ b o, b < wr.heap.size → w'.cell? ⟨b, o, none⟩ = wr.cell? ⟨b, o, none⟩) ∧ wr.heap.size ≤ w'.heap.size ∧ Ext wr w') (by kernel_rfl) ?hS0 (fun hHeld => ?_)
            case hS0 => exact sK (Ext.drew (Ext.refl _))
            refine wpAnyH_take (i := 1) (oi := _) (v := ?v1ya) rfl (by kernel_rfl) (by kernel_rfl) (by kernel_rfl) (fun _ _ _ h => h) (Or.inl ⟨by rfl, ?y1ya⟩) (by assumption) ?r1ya
            case y1ya => (intro w' hSw; (try dsimp only at hSw); go_simp; (try with_reducible rfl))
            try simp only [Act.put, List.getElem_toArray, List.getElem_cons_zero, List.getElem_cons_succ, List.setIfInBounds_toArray, List.set_cons_zero, List.set_cons_succ]
            refine wpAnyH_take (i := 2) (oi := _) (v := ?v2ya) rfl (by kernel_rfl) (by kernel_rfl) (by kernel_rfl) (fun _ _ _ h => h) (Or.inl ⟨by rfl, ?y2ya⟩) (by assumption) ?r2ya
            case y2ya => (intro w' hSw; (try dsimp only at hSw); go_simp; (try with_reducible rfl))
            try simp only [Act.put, List.getElem_toArray, List.getElem_cons_zero, List.getElem_cons_succ, List.setIfInBounds_toArray, List.set_cons_zero, List.set_cons_succ]
            refine wpAnyH_take (i := 3) (oi := _) (v := ?v3ya) rfl (by kernel_rfl) (by kernel_rfl) (by kernel_rfl) (fun _ _ _ h => h) (Or.inl ⟨by rfl, ?y3ya⟩) (by assumption) ?r3ya
            case y3ya => (intro w' hSw; (try dsimp only at hSw); go_simp; (try with_reducible rfl))
            try simp only [Act.put, List.getElem_toArray, List.getElem_cons_zero, List.getElem_cons_succ, List.setIfInBounds_toArray, List.set_cons_zero, List.set_cons_succ]
            refine wpAnyH_take (i := 5) (oi := _) (v := ?v5ya) rfl (by kernel_rfl) (by kernel_rfl) (by kernel_rfl) (fun _ _ _ h => h) (Or.inl ⟨by rfl, ?y5ya⟩) (by assumption) ?r5ya
            case y5ya => (intro w' hSw; (try dsimp only at hSw); go_simp; (try with_reducible rfl))
            try simp only [Act.put, List.getElem_toArray, List.getElem_cons_zero, List.getElem_cons_succ, List.setIfInBounds_toArray, List.set_cons_zero, List.set_cons_succ]
            refine wpAnyH_take (i := 6) (oi := _) (v := ?v6ya) rfl (by kernel_rfl) (by kernel_rfl) (by kernel_rfl) (fun _ _ _ h => h) (Or.inl ⟨by rfl, ?y6ya⟩) (by assumption) ?r6ya
            case y6ya => (intro w' hSw; (try dsimp only at hSw); go_simp; (try with_reducible rfl))
            try simp only [Act.put, List.getElem_toArray, List.getElem_cons_zero, List.getElem_cons_succ, List.setIfInBounds_toArray, List.set_cons_zero, List.set_cons_succ]
            refine wpAnyH_take (i := 7) (oi := _) (v := ?v7ya) rfl (by kernel_rfl) (by kernel_rfl) (by kernel_rfl) (fun _ _ _ h => h) (Or.inl ⟨by rfl, ?y7ya⟩) (by assumption) ?r7ya
            case y7ya => (intro w' hSw; (try dsimp only at hSw); go_simp; (try with_reducible rfl))
            try simp only [Act.put, List.getElem_toArray, List.getElem_cons_zero, List.getElem_cons_succ, List.setIfInBounds_toArray, List.set_cons_zero, List.set_cons_succ]
            refine wpAnyH_take (i := 8) (oi := _) (v := ?v8ya) rfl (by kernel_rfl) (by kernel_rfl) (by kernel_rfl) (fun _ _ _ h => h) (Or.inl ⟨by rfl, ?y8ya⟩) (by assumption) ?r8ya
            case y8ya => (intro w' hSw; (try dsimp only at hSw); go_simp; (try with_reducible rfl))
            try simp only [Act.put, List.getElem_toArray, List.getElem_cons_zero, List.getElem_cons_succ, List.setIfInBounds_toArray, List.set_cons_zero, List.set_cons_succ]
            clear hHeld
            have XD : Ext wr wr.drew := Ext.drew (Ext.refl _)
            generalize wr.drew = V at *
            refine wpAnyH_ready (rs := [0]) (by kernel_rfl) (by simp) ?_
            refine AllReadyH.cons (o := _) rfl (fun K hK => ?_) AllReadyH.nil
            go_simp
            refine hK.out _ _ (sK (XD.alloc _)) (fun hHeld => ?_)
            clear hK K
            try simp only [Act.put, List.getElem_toArray, List.getElem_cons_zero, List.getElem_cons_succ, List.setIfInBounds_toArray, List.set_cons_zero, List.set_cons_succ]
            clear hHeld
            refine wpAnyH_ready (rs := [4]) (by kernel_rfl) (by simp) ?_
            refine AllReadyH.cons (o := _) rfl (fun K hK => ?_) AllReadyH.nil
            have h0r : OwnI (V.alloc (.cells #[] 3)) V.heap.size (.slice (some ⟨V.heap.size, 0, none⟩) 0 0) [] := ⟨rfl, .inr ⟨V.heap.size, 0, #[], rfl, Nat.le_refl _, blk_last V _, Nat.le_refl _, Nat.zero_le _, rfl, rfl⟩⟩
            refine wp_appAllI _ _ _ rfl V.heap.size _ [] xs1 rfl h0r g 0 _ (by rw [hx1l]; rfl) (fun j hj => ?g1a) (by simp) (by omega) (by simp) ?_
            case g1a => (rw [HX1.out j (by omega), Nat.zero_add]; exact ((sK (XD.alloc _)).1 g j hg).trans (HI.out j (by omega)))
            intro v4 w4 hown4 hg4
            rw [List.nil_append] at hown4
            have E4 : Ext wr w4 := Below.grown (XD.alloc _) hg4 (XD.alloc _).size (fun k e => by
              have e' : some V.heap.size = some k := e
              injection e' with e'
              have := XD.size
              omega)
            have hs4 : V.heap.size ≤ w4.heap.size := by have := hg4.size; simp at this; omega
            have HO4 := hid hown4
            clear hown4 hg4 h0r
            refine hK.out _ _ (sK E4) (fun hHeld => ?_)
            clear hK K
            try simp only [Act.put, List.getElem_toArray, List.getElem_cons_zero, List.getElem_cons_succ, List.setIfInBounds_toArray, List.set_cons_zero, List.set_cons_succ]
            clear hHeld
            refine wpAnyH_ready (rs := [9]) (by kernel_rfl) (by simp) ?_
            refine AllReadyH.cons (o := _) rfl (fun K hK => ?_) AllReadyH.nil
            refine wp_appAllI _ _ _ rfl V.heap.size v4 xs1 xs2 rfl HO4.out g 0 _ (by rw [hx2l]; rfl) (fun j hj => ?g2a) (by omega) (by omega) hs4 ?_
            case g2a => (rw [HX2.out j (by omega)]; first | (exfalso; omega) | exact ((sK E4).1 g (c1 + j) hg).trans (HI.out (c1 + j) (by omega)))
            intro v9 w9 hown9 hg9
            rw [hx12] at hown9
            have E9 : Ext wr w9 := Below.grown E4 hg9 E4.size (fun k e => by have := HO4.out.block k e; have := XD.size; omega)
            refine hK.out _ _ (sK E9) (fun hHeld => ?_)
            clear hK K
            try simp only [Act.put, List.getElem_toArray, List.getElem_cons_zero, List.getElem_cons_succ, List.setIfInBounds_toArray, List.set_cons_zero, List.set_cons_succ]
            refine wpAnyH_take (i := 10) (oi := _) (v := ?v10za) rfl (by kernel_rfl) (by kernel_rfl) (by kernel_rfl) (fun _ _ _ h => h) (Or.inl ⟨by rfl, ?y10za⟩) (by assumption) ?r10za
            case y10za => (intro w' hSw; (try dsimp only at hSw); go_simp; (try with_reducible rfl))
            try simp only [Act.put, List.getElem_toArray, List.getElem_cons_zero, List.getElem_cons_succ, List.setIfInBounds_toArray, List.set_cons_zero, List.set_cons_succ]
            clear hHeld
            refine wpAnyH_done (by kernel_rfl) ?_ _
            obtain ⟨NA, nc, rfl, hI9⟩ := hown9.form
            have HI9 := hid hI9
            have HO9 := hid (hown9.low (show w.heap.size + 1 ≤ V.heap.size by have := XD.size; have := HB.out.lt; omega))
            rw [HDI.out] at HO9
            rw [HDI.out]
            replace HO := hid (HO.out.ext E9)
            replace HB := hid (HB.out.ext E9)
            replace E := E.trans E9
            replace HS1 := hid (HS1.out NA nc)
            have HDLn := hid hdl
            clear hdl hx1l hx2l hx12
            clear hown9 hI9 HI HX1 HX2 E4 HO4 XD hg9 d0 d1 d2 d3 d4 dz
            have HI := hid HI9.out
            clear HI9
            have d0 := HB.out.cell 0
            have d1 := HB.out.cell 1
            have d2 := HB.out.cell 2
            have d3 := HB.out.cell 3
            have d4 := HB.out.cell 4
            simp only [List.getElem?_toArray, List.getElem?_cons_zero, List.getElem?_cons_succ] at d0 d1 d2 d3 d4
            have dz := HB.out.lt
            go_wp2_with fail
            refine wp_region_held_drew (S := fun w' => (∀ b o, b < w9.heap.size → w'.cell? ⟨b, o, none⟩ = w9.cell? ⟨b, o, none⟩) ∧ w9.heap.size ≤ w'.heap.size ∧ Ext w9 w') (by kernel_rfl) ?hS0 (fun hHeld => ?_)
            case hS0 => exact sK (Ext.drew (Ext.refl _))
            refine wpAnyH_take (i := 0) (oi := _) (v := ?v0pa) rfl (by kernel_rfl) (by kernel_rfl) (by kernel_rfl) (fun _ _ _ h => h) (Or.inl ⟨by rfl, ?y0pa⟩) (by assumption) ?r0pa
            case y0pa => (intro w' hSw; (try dsimp only at hSw); go_simp; (try with_reducible rfl))
            try simp only [Act.put, List.getElem_toArray, List.getElem_cons_zero, List.getElem_cons_succ, List.setIfInBounds_toArray, List.set_cons_zero, List.set_cons_succ]
            refine wpAnyH_take (i := 1) (oi := _) (v := ?v1pa) rfl (by kernel_rfl) (by kernel_rfl) (by kernel_rfl) (fun _ _ _ h => h) (Or.inl ⟨by rfl, ?y1pa⟩) (by assumption) ?r1pa
            case y1pa => (intro w' hSw; (try dsimp only at hSw); go_simp; (try with_reducible rfl))
            try simp only [Act.put, List.getElem_toArray, List.getElem_cons_zero, List.getElem_cons_succ, List.setIfInBounds_toArray, List.set_cons_zero, List.set_cons_succ]
            refine wpAnyH_take (i := 2) (oi := _) (v := ?v2pa) rfl (by kernel_rfl) (by kernel_rfl) (by kernel_rfl) (fun _ _ _ h => h) (Or.inl ⟨by rfl, ?y2pa⟩) (by assumption) ?r2pa
            case y2pa => (intro w' hSw; (try dsimp only at hSw); go_simp; (try with_reducible rfl))
            try simp only [Act.put, List.getElem_toArray, List.getElem_cons_zero, List.getElem_cons_succ, List.setIfInBounds_toArray, List.set_cons_zero, List.set_cons_succ]
            clear hHeld
            refine wpAnyH_ready (rs := [3]) (by kernel_rfl) (by simp) ?_
            refine AllReadyH.cons (o := _) rfl (fun K hK => ?_) AllReadyH.nil
            go_simp
            refine (HS1.out _ (E.drew) (HI.out.ext (Ext.drew (Ext.refl _)))).mono ?_
            rintro e w7 ⟨v7, rfl, hown7, hE7⟩
            obtain ⟨QA, qc, rfl, hsmp7⟩ := hown7.form
            have X7 : Ext w9 w7 := (Ext.drew (Ext.refl w9)).trans hE7
            have HSM7 := hid hsmp7
            clear hown7 hsmp7 hE7
            dsimp only
            refine hK.out _ _ (sK X7) (fun hHeld => ?_)
            clear hK K
            try simp only [Act.put, List.getElem_toArray, List.getElem_cons_zero, List.getElem_cons_succ, List.setIfInBounds_toArray, List.set_cons_zero, List.set_cons_succ]
            clear hHeld
            refine wpAnyH_ready (rs := [4]) (by kernel_rfl) (by simp) ?_
            refine AllReadyH.cons (o := _) rfl (fun K hK => ?_) AllReadyH.nil
            go_simp
            refine (HT1.out QA qc _ HSM7.out).mono ?_
            rintro e w8 ⟨v8, rfl, hown8, hE8⟩
            obtain ⟨PA, pc8, rfl, -⟩ := hown8.form
            have X8 : Ext w9 w8 := X7.trans hE8
            clear hown8 hE8 X7 HSM7
            dsimp only
            rw [HPL.out]
            refine hK.out _ _ (sK X8) (fun hHeld => ?_)
            clear hK K
            try simp only [Act.put, List.getElem_toArray, List.getElem_cons_zero, List.getElem_cons_succ, List.setIfInBounds_toArray, List.set_cons_zero, List.set_cons_succ]
            refine wpAnyH_take (i := 5) (oi := _) (v := ?v5pb) rfl (by kernel_rfl) (by kernel_rfl) (by kernel_rfl) (fun _ _ _ h => h) (Or.inl ⟨by rfl, ?y5pb⟩) (by assumption) ?r5pb
            case y5pb => (intro w' hSw; (try dsimp only at hSw); go_simp; (try with_reducible rfl))
            try simp only [Act.put, List.getElem_toArray, List.getElem_cons_zero, List.getElem_cons_succ, List.setIfInBounds_toArray, List.set_cons_zero, List.set_cons_succ]
            refine wpAnyH_take (i := 6) (oi := _) (v := ?v6pb) rfl (by kernel_rfl) (by kernel_rfl) (by kernel_rfl) (fun _ _ _ h => h) (Or.inl ⟨by rfl, ?y6pb⟩) (by assumption) ?r6pb
            case y6pb => (intro w' hSw; (try dsimp only at hSw); go_simp; (try with_reducible rfl))
            try simp only [Act.put, List.getElem_toArray, List.getElem_cons_zero, List.getElem_cons_succ, List.setIfInBounds_toArray, List.set_cons_zero, List.set_cons_succ]
            clear hHeld
            refine wpAnyH_done (by kernel_rfl) ?_ _
            have E8 := E.trans X8
            have HB8 := hid (HB.out.ext X8)
            have HO8 := hid (HO.out.ext X8)
            have HN8 := hid (HO9.out.ext X8)
            clear E HB HO HO9 X8 HS1 HT1 HPL HI d0 d1 d2 d3 d4 dz
            by_cases hp : po (dif (kn t) (2 ^ t)) = []
            · have hl : (po (dif (kn t) (2 ^ t))).length = 0 := by rw [hp]; rfl
              have hkn : kn (t + 1) = dif (kn t) (2 ^ t) := by rw [HKN.out, if_pos hp]
              have hct : ct (t + 1) = ctt := HCd.out hkn
              have HW := hid (show (bitsL (kn (t + 1))).map Int.ofNat = L2.map Int.ofNat by rw [hkn, hL2])
              have HC9 := hid hct
              rw [hl]
              clear hp hl hkn hct HKN
              go_wp2_with fail
              go_roundw
              case rel => exact ⟨E8, HB8.out, t + 1, by omega, by rw [HC9.out], hid (by rw [HW.out]; exact HN8.out)⟩
              case measure => simp only [lenOf, intOf]; have := HC1.out; have := HDLn.out; omega
            · have hl : 0 < (po (dif (kn t) (2 ^ t))).length := List.length_pos_iff.2 hp
              have hkn : kn (t + 1) = kn t := by rw [HKN.out, if_neg hp]
              have hct : ct (t + 1) = ctt + 1 := HCk.out hkn
              have HW := hid (show (bitsL (kn (t + 1))).map Int.ofNat = L.map Int.ofNat by rw [hkn, hL])
              have HC9 := hid hct
              clear hp hkn hct HKN
              generalize (po (dif (kn t) (2 ^ t))).length = pl at *
              go_wp2_with fail
              go_roundw
              case rel => exact ⟨E8, HB8.out, t + 1, by omega, by rw [HC9.out, HC1.out], hid (by rw [HW.out]; first | exact HO8.out | (rw [← hcap]; exact HO8.out))⟩
              case measure => simp only [lenOf, intOf]; have := HC1.out; have := HDLn.out; omega
          · go_wp2_with fail
            refine wp_region_held_drew (S := fun w' => (∀ b o, b < wr.heap.size → w'.cell? ⟨b, o, none⟩ = wr.cell? ⟨b, o, none⟩) ∧ wr.heap.size ≤ w'.heap.size ∧ Ext wr w') (by kernel_rfl) ?hS0 (fun hHeld => ?_)
            case hS0 => exact sK (Ext.drew (Ext.refl _))
            refine wpAnyH_take (i := 1) (oi := _) (v := ?v1yb) rfl (by kernel_rfl) (by kernel_rfl) (by kernel_rfl) (fun _ _ _ h => h) (Or.inl ⟨by rfl, ?y1yb⟩) (by assumption) ?r1yb
            case y1yb => (intro w' hSw; (try dsimp only at hSw); go_simp; (try with_reducible rfl))
            try simp only [Act.put, List.getElem_toArray, List.getElem_cons_zero, List.getElem_cons_succ, List.setIfInBounds_toArray, List.set_cons_zero, List.set_cons_succ]
            refine wpAnyH_take (i := 2) (oi := _) (v := ?v2yb) rfl (by kernel_rfl) (by kernel_rfl) (by kernel_rfl) (fun _ _ _ h => h) (Or.inl ⟨by rfl, ?y2yb⟩) (by assumption) ?r2yb
            case y2yb => (intro w' hSw; (try dsimp only at hSw); go_simp; (try with_reducible rfl))
            try simp only [Act.put, List.getElem_toArray, List.getElem_cons_zero, List.getElem_cons_succ, List.setIfInBounds_toArray, List.set_cons_zero, List.set_cons_succ]
            refine wpAnyH_take (i := 3) (oi := _) (v := ?v3yb) rfl (by kernel_rfl) (by kernel_rfl) (by kernel_rfl) (fun _ _ _ h => h) (Or.inl ⟨by rfl, ?y3yb⟩) (by assumption) ?r3yb
            case y3yb => (intro w' hSw; (try dsimp only at hSw); go_simp; (try with_reducible rfl))
            try simp only [Act.put, List.getElem_toArray, List.getElem_cons_zero, List.getElem_cons_succ, List.setIfInBounds_toArray, List.set_cons_zero, List.set_cons_succ]
            refine wpAnyH_take (i := 5) (oi := _) (v := ?v5yb) rfl (by kernel_rfl) (by kernel_rfl) (by kernel_rfl) (fun _ _ _ h => h) (Or.inl ⟨by rfl, ?y5yb⟩) (by assumption) ?r5yb
            case y5yb => (intro w' hSw; (try dsimp only at hSw); go_simp; (try with_reducible rfl))
            try simp only [Act.put, List.getElem_toArray, List.getElem_cons_zero, List.getElem_cons_succ, List.setIfInBounds_toArray, List.set_cons_zero, List.set_cons_succ]
            refine wpAnyH_take (i := 6) (oi := _) (v := ?v6yb) rfl (by kernel_rfl) (by kernel_rfl) (by kernel_rfl) (fun _ _ _ h => h) (Or.inl ⟨by rfl, ?y6yb⟩) (by assumption) ?r6yb
            case y6yb => (intro w' hSw; (try dsimp only at hSw); go_simp; (try with_reducible rfl))
            try simp only [Act.put, List.getElem_toArray, List.getElem_cons_zero, List.getElem_cons_succ, List.setIfInBounds_toArray, List.set_cons_zero, List.set_cons_succ]
            refine wpAnyH_take (i := 7) (oi := _) (v := ?v7yb) rfl (by kernel_rfl) (by kernel_rfl) (by kernel_rfl) (fun _ _ _ h => h) (Or.inl ⟨by rfl, ?y7yb⟩) (by assumption) ?r7yb
            case y7yb => (intro w' hSw; (try dsimp only at hSw); go_simp; (try with_reducible rfl))
            try simp only [Act.put, List.getElem_toArray, List.getElem_cons_zero, List.getElem_cons_succ, List.setIfInBounds_toArray, List.set_cons_zero, List.set_cons_succ]
            refine wpAnyH_take (i := 8) (oi := _) (v := ?v8yb) rfl (by kernel_rfl) (by kernel_rfl) (by kernel_rfl) (fun _ _ _ h => h) (Or.inl ⟨by rfl, ?y8yb⟩) (by assumption) ?r8yb
            case y8yb => (intro w' hSw; (try dsimp only at hSw); go_simp; (try with_reducible rfl))
            try simp only [Act.put, List.getElem_toArray, List.getElem_cons_zero, List.getElem_cons_succ, List.setIfInBounds_toArray, List.set_cons_zero, List.set_cons_succ]
            clear hHeld
            have XD : Ext wr wr.drew := Ext.drew (Ext.refl _)
            generalize wr.drew = V at *
            refine wpAnyH_ready (rs := [0]) (by kernel_rfl) (by simp) ?_
            refine AllReadyH.cons (o := _) rfl (fun K hK => ?_) AllReadyH.nil
            go_simp
            refine hK.out _ _ (sK (XD.alloc _)) (fun hHeld => ?_)
            clear hK K
            try simp only [Act.put, List.getElem_toArray, List.getElem_cons_zero, List.getElem_cons_succ, List.setIfInBounds_toArray, List.set_cons_zero, List.set_cons_succ]
            clear hHeld
            refine wpAnyH_ready (rs := [4]) (by kernel_rfl) (by simp) ?_
            refine AllReadyH.cons (o := _) rfl (fun K hK => ?_) AllReadyH.nil
            have h0r : OwnI (V.alloc (.cells #[] 3)) V.heap.size (.slice (some ⟨V.heap.size, 0, none⟩) 0 0) [] := ⟨rfl, .inr ⟨V.heap.size, 0, #[], rfl, Nat.le_refl _, blk_last V _, Nat.le_refl _, Nat.zero_le _, rfl, rfl⟩⟩
            refine wp_appAllI _ _ _ rfl V.heap.size _ [] xs1 rfl h0r g 0 _ (by rw [hx1l]; rfl) (fun j hj => ?g1b) (by simp) (by omega) (by simp) ?_
            case g1b => (rw [HX1.out j (by omega), Nat.zero_add]; exact ((sK (XD.alloc _)).1 g j hg).trans (HI.out j (by omega)))
            intro v4 w4 hown4 hg4
            rw [List.nil_append] at hown4
            have E4 : Ext wr w4 := Below.grown (XD.alloc _) hg4 (XD.alloc _).size (fun k e => by
              have e' : some V.heap.size = some k := e
              injection e' with e'
              have := XD.size
              omega)
            have hs4 : V.heap.size ≤ w4.heap.size := by have := hg4.size; simp at this; omega
            have HO4 := hid hown4
            clear hown4 hg4 h0r
            refine hK.out _ _ (sK E4) (fun hHeld => ?_)
            clear hK K
            try simp only [Act.put, List.getElem_toArray, List.getElem_cons_zero, List.getElem_cons_succ, List.setIfInBounds_toArray, List.set_cons_zero, List.set_cons_succ]
            clear hHeld
            refine wpAnyH_ready (rs := [9]) (by kernel_rfl) (by simp) ?_
            refine AllReadyH.cons (o := _) rfl (fun K hK => ?_) AllReadyH.nil
            refine wp_appAllI _ _ _ rfl V.heap.size v4 xs1 xs2 rfl HO4.out g c1 _ (by rw [hx2l]; rfl) (fun j hj => ?g2b) (by omega) (by omega) hs4 ?_
            case g2b => (rw [HX2.out j (by omega)]; first | (exfalso; omega) | exact ((sK E4).1 g (c1 + j) hg).trans (HI.out (c1 + j) (by omega)))
            intro v9 w9 hown9 hg9
            rw [hx12] at hown9
            have E9 : Ext wr w9 := Below.grown E4 hg9 E4.size (fun k e => by have := HO4.out.block k e; have := XD.size; omega)
            refine hK.out _ _ (sK E9) (fun hHeld => ?_)
            clear hK K
            try simp only [Act.put, List.getElem_toArray, List.getElem_cons_zero, List.getElem_cons_succ, List.setIfInBounds_toArray, List.set_cons_zero, List.set_cons_succ]
            refine wpAnyH_take (i := 10) (oi := _) (v := ?v10zb) rfl (by kernel_rfl) (by kernel_rfl) (by kernel_rfl) (fun _ _ _ h => h) (Or.inl ⟨by rfl, ?y10zb⟩) (by assumption) ?r10zb
            case y10zb => (intro w' hSw; (try dsimp only at hSw); go_simp; (try with_reducible rfl))
            try simp only [Act.put, List.getElem_toArray, List.getElem_cons_zero, List.getElem_cons_succ, List.setIfInBounds_toArray, List.set_cons_zero, List.set_cons_succ]
            clear hHeld
            refine wpAnyH_done (by kernel_rfl) ?_ _
            obtain ⟨NA, nc, rfl, hI9⟩ := hown9.form
            have HI9 := hid hI9
            have HO9 := hid (hown9.low (show w.heap.size + 1 ≤ V.heap.size by have := XD.size; have := HB.out.lt; omega))
            rw [HDI.out] at HO9
            rw [HDI.out]
            replace HO := hid (HO.out.ext E9)
            replace HB := hid (HB.out.ext E9)
            replace E := E.trans E9
            replace HS1 := hid (HS1.out NA nc)
            have HDLn := hid hdl
            clear hdl hx1l hx2l hx12
            clear hown9 hI9 HI HX1 HX2 E4 HO4 XD hg9 d0 d1 d2 d3 d4 dz
            have HI := hid HI9.out
            clear HI9
            have d0 := HB.out.cell 0
            have d1 := HB.out.cell 1
            have d2 := HB.out.cell 2
            have d3 := HB.out.cell 3
            have d4 := HB.out.cell 4
            simp only [List.getElem?_toArray, List.getElem?_cons_zero, List.getElem?_cons_succ] at d0 d1 d2 d3 d4
            have dz := HB.out.lt
            go_wp2_with fail
            refine wp_region_held_drew (S := fun w' => (∀ b o, b < w9.heap.size → w'.cell? ⟨b, o, none⟩ = w9.cell? ⟨b, o, none⟩) ∧ w9.heap.size ≤ w'.heap.size ∧ Ext w9 w') (by kernel_rfl) ?hS0 (fun hHeld => ?_)
            case hS0 => exact sK (Ext.drew (Ext.refl _))
            refine wpAnyH_take (i := 0) (oi := _) (v := ?v0qa) rfl (by kernel_rfl) (by kernel_rfl) (by kernel_rfl) (fun _ _ _ h => h) (Or.inl ⟨by rfl, ?y0qa⟩) (by assumption) ?r0qa
            case y0qa => (intro w' hSw; (try dsimp only at hSw); go_simp; (try with_reducible rfl))
            try simp only [Act.put, List.getElem_toArray, List.getElem_cons_zero, List.getElem_cons_succ, List.setIfInBounds_toArray, List.set_cons_zero, List.set_cons_succ]
            refine wpAnyH_take (i := 1) (oi := _) (v := ?v1qa) rfl (by kernel_rfl) (by kernel_rfl) (by kernel_rfl) (fun _ _ _ h => h) (Or.inl ⟨by rfl, ?y1qa⟩) (by assumption) ?r1qa
            case y1qa => (intro w' hSw; (try dsimp only at hSw); go_simp; (try with_reducible rfl))
            try simp only [Act.put, List.getElem_toArray, List.getElem_cons_zero, List.getElem_cons_succ, List.setIfInBounds_toArray, List.set_cons_zero, List.set_cons_succ]
            refine wpAnyH_take (i := 2) (oi := _) (v := ?v2qa) rfl (by kernel_rfl) (by kernel_rfl) (by kernel_rfl) (fun _ _ _ h => h) (Or.inl ⟨by rfl, ?y2qa⟩) (by assumption) ?r2qa
            case y2qa => (intro w' hSw; (try dsimp only at hSw); go_simp; (try with_reducible rfl))
            try simp only [Act.put, List.getElem_toArray, List.getElem_cons_zero, List.getElem_cons_succ, List.setIfInBounds_toArray, List.set_cons_zero, List.set_cons_succ]
            clear hHeld
            refine wpAnyH_ready (rs := [3]) (by kernel_rfl) (by simp) ?_
            refine AllReadyH.cons (o := _) rfl (fun K hK => ?_) AllReadyH.nil
            go_simp
            refine (HS1.out _ (E.drew) (HI.out.ext (Ext.drew (Ext.refl _)))).mono ?_
            rintro e w7 ⟨v7, rfl, hown7, hE7⟩
            obtain ⟨QA, qc, rfl, hsmp7⟩ := hown7.form
            have X7 : Ext w9 w7 := (Ext.drew (Ext.refl w9)).trans hE7
            have HSM7 := hid hsmp7
            clear hown7 hsmp7 hE7
            dsimp only
            refine hK.out _ _ (sK X7) (fun hHeld => ?_)
            clear hK K
            try simp only [Act.put, List.getElem_toArray, List.getElem_cons_zero, List.getElem_cons_succ, List.setIfInBounds_toArray, List.set_cons_zero, List.set_cons_succ]
            clear hHeld
            refine wpAnyH_ready (rs := [4]) (by kernel_rfl) (by simp) ?_
            refine AllReadyH.cons (o := _) rfl (fun K hK => ?_) AllReadyH.nil
            go_simp
            refine (HT1.out QA qc _ HSM7.out).mono ?_
            rintro e w8 ⟨v8, rfl, hown8, hE8⟩
            obtain ⟨PA, pc8, rfl, -⟩ := hown8.form
            have X8 : Ext w9 w8 := X7.trans hE8
            clear hown8 hE8 X7 HSM7
            dsimp only
            rw [HPL.out]
            refine hK.out _ _ (sK X8) (fun hHeld => ?_)
            clear hK K
            try simp only [Act.put, List.getElem_toArray, List.getElem_cons_zero, List.getElem_cons_succ, List.setIfInBounds_toArray, List.set_cons_zero, List.set_cons_succ]
            refine wpAnyH_take (i := 5) (oi := _) (v := ?v5qb) rfl (by kernel_rfl) (by kernel_rfl) (by kernel_rfl) (fun _ _ _ h => h) (Or.inl ⟨by rfl, ?y5qb⟩) (by assumption) ?r5qb
            case y5qb => (intro w' hSw; (try dsimp only at hSw); go_simp; (try with_reducible rfl))
            try simp only [Act.put, List.getElem_toArray, List.getElem_cons_zero, List.getElem_cons_succ, List.setIfInBounds_toArray, List.set_cons_zero, List.set_cons_succ]
            refine wpAnyH_take (i := 6) (oi := _) (v := ?v6qb) rfl (by kernel_rfl) (by kernel_rfl) (by kernel_rfl) (fun _ _ _ h => h) (Or.inl ⟨by rfl, ?y6qb⟩) (by assumption) ?r6qb
            case y6qb => (intro w' hSw; (try dsimp only at hSw); go_simp; (try with_reducible rfl))
            try simp only [Act.put, List.getElem_toArray, List.getElem_cons_zero, List.getElem_cons_succ, List.setIfInBounds_toArray, List.set_cons_zero, List.set_cons_succ]
            clear hHeld
            refine wpAnyH_done (by kernel_rfl) ?_ _
            have E8 := E.trans X8
            have HB8 := hid (HB.out.ext X8)
            have HO8 := hid (HO.out.ext X8)
            have HN8 := hid (HO9.out.ext X8)
            clear E HB HO HO9 X8 HS1 HT1 HPL HI d0 d1 d2 d3 d4 dz
            by_cases hp : po (dif (kn t) (2 ^ t)) = []
            · have hl : (po (dif (kn t) (2 ^ t))).length = 0 := by rw [hp]; rfl
              have hkn : kn (t + 1) = dif (kn t) (2 ^ t) := by rw [HKN.out, if_pos hp]
              have hct : ct (t + 1) = ctt := HCd.out hkn
              have HW := hid (show (bitsL (kn (t + 1))).map Int.ofNat = L2.map Int.ofNat by rw [hkn, hL2])
              have HC9 := hid hct
              rw [hl]
              clear hp hl hkn hct HKN
              go_wp2_with fail
              go_roundw
              case rel => exact ⟨E8, HB8.out, t + 1, by omega, by rw [HC9.out], hid (by rw [HW.out]; exact HN8.out)⟩
              case measure => simp only [lenOf, intOf]; have := HC1.out; have := HDLn.out; omega
            · have hl : 0 < (po (dif (kn t) (2 ^ t))).length := List.length_pos_iff.2 hp
              have hkn : kn (t + 1) = kn t := by rw [HKN.out, if_neg hp]
              have hct : ct (t + 1) = ctt + 1 := HCk.out hkn
              have HW := hid (show (bitsL (kn (t + 1))).map Int.ofNat = L.map Int.ofNat by rw [hkn, hL])
              have HC9 := hid hct
              clear hp hkn hct HKN
              generalize (po (dif (kn t) (2 ^ t))).length = pl at *
              go_wp2_with fail
              go_roundw
              case rel => exact ⟨E8, HB8.out, t + 1, by omega, by rw [HC9.out, HC1.out], hid (by rw [HW.out]; first | exact HO8.out | (rw [← hcap]; exact HO8.out))⟩
              case measure => simp only [lenOf, intOf]; have := HC1.out; have := HDLn.out; omega
        · obtain rfl : t = k := by omega
          obtain ⟨FA, fc, rfl, -⟩ := HO.out.form
          have hce := HCE.out
          rw [e0] at HO ⊢
          rw [hce]
          go_wp2
          go_ret2
          exact ⟨.slice FA (bitsL (kn t)).length fc, by rw [HRC.out]; rfl, by rw [HRI.out]; exact HO.out.low (by omega), E⟩
end Go.Proofs.YtcfijidlbimckaaDoor
