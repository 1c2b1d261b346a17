/- Small facts about the numbers of what is possible. -/
import Derived.Test.YtecamnhnjmldcaaGreatDoorBTopOpens30
import Derived.Test.YtecamnhnjmldcaaGreatDoorBTopOpens24
import Derived.Test.YtecamnhnjmldcaaGreatDoorBTopOpens28
import Derived.Test.YtecamnhnjmldcaaGreatDoorB14
set_option linter.unusedSimpArgs false
set_option linter.unusedVariables false
namespace Go.Proofs.YtecamnhnjmldcaaGreatDoor
open Go.RowKit
def numsN (seen : List Sg) (f : List (List Hr)) : List Nat := (List.range f.length).filter fun i => allowB seen (f.getD i [])
theorem numsM_N (seen : List Sg) (f : List (List Hr)) : numsM seen f = (numsN seen f).map Int.ofNat := rfl
theorem numsN_lt {seen : List Sg} {f : List (List Hr)} {i : Nat} (h : i ∈ numsN seen f) : i < f.length := List.mem_range.1 (List.mem_filter.1 h).1
theorem any_take_snoc' {α : Type} (xs : List α) (p : α → Bool) (d : α) (k : Nat) (h : k < xs.length) : (xs.take (k + 1)).any p = ((xs.take k).any p || p (xs.getD k d)) := by
  rw [List.take_succ_eq_append_getElem h, List.any_append]
  simp [List.getD, List.getElem?_eq_getElem h]
theorem any_of_at' {α : Type} (xs : List α) (p : α → Bool) (d : α) (k : Nat) (h : k < xs.length) (hp : p (xs.getD k d) = true) : xs.any p = true :=
  List.any_eq_true.2 ⟨_, mem_at xs d k h, hp⟩
theorem IntsAt.at1 {w : World} {A : Option Addr} {xs : List Int} (h : IntsAt w A xs) {n k : Nat} (hn : xs.length = n) (hk : k < n) : ∃ b off, A = some ⟨b, off, none⟩ ∧ b < w.heap.size ∧ w.cell? ⟨b, off + k, none⟩ = some (.int .i64 (xs.getD k 0)) := by
  obtain ⟨b, off, hA, hb, hc⟩ := h (by rintro rfl; simp at hn; omega)
  exact ⟨b, off, hA, hb, hc k (by omega)⟩
end Go.Proofs.YtecamnhnjmldcaaGreatDoor
/- hours of the specification: for each hour whether a path surely is open, and whether it may be. -/
set_option linter.unusedSimpArgs false
set_option linter.unusedVariables false
namespace Go.Proofs.YtecamnhnjmldcaaGreatDoor
open Go.RowKit
def hsA (rs : List Rl) (path : Int) (rn : Nat) (seen : List Sg) (f : List (List Hr)) (h : Nat) (i : Int) : Bool := (List.range (h + 1)).all (osA rs path (h : Int) rn (obsM seen (f.getD i.toNat [])))
def hsE (rs : List Rl) (path : Int) (rn : Nat) (seen : List Sg) (f : List (List Hr)) (h : Nat) (i : Int) : Bool := (List.range (h + 1)).all (osE rs path (h : Int) rn (obsM seen (f.getD i.toNat [])))
def hrA (rs : List Rl) (path : Int) (rn : Nat) (seen : List Sg) (f : List (List Hr)) (h : Nat) : Bool := (numsM seen f).all (hsA rs path rn seen f h)
def hrE (rs : List Rl) (path : Int) (rn : Nat) (seen : List Sg) (f : List (List Hr)) (h : Nat) : Bool := (numsM seen f).any (hsE rs path rn seen f h)
theorem nums_inH (seen : List Sg) (f : List (List Hr)) (i : Int) (h : i ∈ numsM seen f) : ∃ j : Nat, i = (j : Int) ∧ j < f.length := by
  unfold numsM at h
  simp only [List.mem_map, List.mem_filter, List.mem_range] at h
  obtain ⟨j, hj, rfl⟩ := h
  exact ⟨j, rfl, hj.1⟩
set_option maxHeartbeats 8000000 in
set_option maxRecDepth 100000 in
theorem rhours_any (f : List (List Hr)) (A : Option Addr) (n c : Nat) (seen : List Sg) (SA : Option Addr) (sm sc : Nat) (rs : List Rl) (RA : Option Addr) (rn rc : Nat) (hrn : rs.length = rn) (hrm : rn ≤ 1000) (haft : ∀ r ∈ rs, 0 ≤ r.after ∧ r.after ≤ 1000) (path : Int)
    (w : World) (h : FIn w f A n seen SA sm) (hr : RlsAt w RA rs) (hfc : fcB f = true) (hsg : sgsB (hoursN f) seen = true) :
    Calls Tryz.prog 65 #[.slice RA rn rc, .agg #[.slice A n c], .slice SA sm sc, .int .i64 path] w fun e w' => ∃ v u, e = .returned (.tuple #[v, u]) ∧ Ownl 4 1 gBo w' w.heap.size v (tabL (hoursN f) (hrA rs path rn seen f)) ∧ Ownl 4 1 gBo w' w.heap.size u (tabL (hoursN f) (hrE rs path rn seen f)) ∧ Ext w w' := by
  have hNN := h.hours
  have HHO := hid (fun (W : World) (hW : Ext w W) => rHours_any A n c f h.hn (by have := (fc_ok hfc).2.1; have := h.hn; omega) W (h.sc.ext hW))
  have HP := hid (fun (W : World) (hW : Ext w W) => rpossible_any f A n c seen SA sm sc W (h.ext hW) hfc hsg)
  have HOS := hid (fun (sn : Nat) (hsn : sn < n) (op : Nat) (hop : op < hoursN f) (W : World) (hW : Ext w W) => show Calls Tryz.prog 110 _ W fun e w' => e = .returned (.tuple #[.bool (hsA rs path rn seen f op (sn : Int)), .bool (hsE rs path rn seen f op (sn : Int))]) ∧ Ext W w' from
    ropens_any f A n c seen SA sm sc rs RA rn rc hrn hrm haft sn path op hsn hop W (h.ext hW) (hr.ext hW) hfc hsg)
  have HNI := hid (fun k (hk : k < (numsM seen f).length) => show ∃ j : Nat, (numsM seen f).getD k 0 = (j : Int) ∧ j < n from by
    obtain ⟨j, h1, h2⟩ := nums_inH seen f _ (mem_at (numsM seen f) 0 k hk)
    exact ⟨j, h1, by rw [← h.hn]; exact h2⟩)
  have hnl : (numsM seen f).length ≤ 1000 := by rw [numsM_scs]; have := scsM_le seen f; have := h.hn; have := h.hm; omega
  have HDA := hid (fun k => show hrA rs path rn seen f k = (numsM seen f).all (hsA rs path rn seen f k) from rfl)
  have HDE := hid (fun k => show hrE rs path rn seen f k = (numsM seen f).any (hsE rs path rn seen f k) from rfl)
  have B0 := hid (show Blk _ _ _ _ from blk_last w (.cells #[.slice A n c] 24))
  clear h hr hrn haft hfc hsg
  generalize hrA rs path rn seen f = HA at *
  generalize hrE rs path rn seen f = HE at *
  generalize hsA rs path rn seen f = SA1 at *
  generalize hsE rs path rn seen f = SE1 at *
  generalize numsM seen f = NM at *
  generalize hoursN f = N at *
  have HNL := hid (show NM.length = NM.length from rfl)
  obtain ⟨nl, hnl2⟩ : ∃ nl, NM.length = nl := ⟨_, rfl⟩
  rw [hnl2] at HP hnl HNI
  have HNM := hid hnl2
  clear hnl2 HNL
  have hE := ext_alloc1 w (.cells #[.slice A n c] 24)
  have E := Ext.refl w
  go_enter Tryz.func65, Tryz.ntmps65
  go_wp2_with fail
  refine (HP.out _ (by (repeat' (first | with_reducible assumption | with_reducible exact Ext.refl _ | with_reducible refine Ext.alloc ?_ _ | with_reducible refine Ext.set ?_ ?_ _ | with_reducible refine Ext.drew ?_ | with_reducible refine Ext.drewN ?_ _ | with_reducible refine Ext.trans ?_ (by assumption) | (dsimp only; omega))))).mono ?_
  rintro e w4 ⟨A1, c1, rfl, ho, hE4⟩
  have E : Ext w w4 := by (repeat' (first | with_reducible assumption | with_reducible exact Ext.refl _ | with_reducible refine Ext.alloc ?_ _ | with_reducible refine Ext.set ?_ ?_ _ | with_reducible refine Ext.drew ?_ | with_reducible refine Ext.drewN ?_ _ | with_reducible refine Ext.trans ?_ (by assumption) | (dsimp only; omega)))
  have K0 := hid (B0.out.ext hE4)
  obtain ⟨A3, c3, e3, -, hfi, -⟩ := (ho.form (by decide) (fun _ => rfl) 0)
  injection e3 with e3
  subst e3
  have HI := hid (flat_ints.1 hfi)
  clear HP ho hfi hE4 hE B0
  go_wp2
  go_loopw [8, 9, 11] (fun v u i wr => Ext w4 wr ∧ ∃ k : Nat, k ≤ N ∧ i = .int .i64 k ∧ Hid (Ownl 4 1 gBo wr w4.heap.size v (tabL k HA)) ∧ Hid (Ownl 4 1 gBo wr w4.heap.size u (tabL k HE)) ∧ Hid (∀ q, v.ownBlock = some q → u.ownBlock ≠ some q)) (fun _ _ i _ => N - (intOf i).toNat)
  case atStart => exact ⟨Ext.refl _, 0, Nat.zero_le _, rfl, hid (Ownl.nil _ _), hid (Ownl.nil _ _), hid (fun q h => by cases h)⟩
  case round =>
    obtain ⟨E4, k, hk, rfl, HV, HU, HD⟩ := hrel
    have M0 := hid (K0.out.ext E4)
    have a0 := M0.out.cell 0
    have z0 := M0.out.lt
    simp only [List.getElem?_toArray, List.getElem?_cons_zero] at a0
    by_cases hlt : k < N
    · go_wp2_with fail
      refine (HHO.out _ (E.trans E4)).mono ?_
      rintro e w5 ⟨rfl, hE5⟩
      have E5 := E4.trans hE5
      replace HV := hid (HV.out.ext hE5)
      replace HU := hid (HU.out.ext hE5)
      have HOS1 := hid (fun sn hsn => HOS.out sn hsn k hlt)
      have HDA1 := hid (HDA.out k)
      have HDE1 := hid (HDE.out k)
      have HTA := hid (tabL_step k HA)
      have HTE := hid (tabL_step k HE)
      have HSN := hid (fun y hy => all_take_snoc NM (SA1 k) 0 y hy)
      have HSE := hid (fun y hy => any_take_snoc NM (SE1 k) 0 y hy)
      have HF := hid (show NM.take nl = NM by rw [List.take_of_length_le (by rw [HNM.out]; exact Nat.le_refl _)])
      clear HOS HDA HDE a0 z0 M0 hE5
      generalize SA1 k = pA at *
      generalize SE1 k = pE at *
      generalize HA k = hA at *
      generalize HE k = hE0 at *
      go_wp2
      go_loopw [12, 13, 14] (fun va ve i wr => Ext w5 wr ∧ ∃ y : Nat, y ≤ nl ∧ i = .int .i64 y ∧ va = .bool ((NM.take y).all pA) ∧ ve = .bool ((NM.take y).any pE)) (fun _ _ i _ => nl - (intOf i).toNat)
      case atStart => exact ⟨Ext.refl _, 0, Nat.zero_le _, rfl, rfl, rfl⟩
      case round =>
        obtain ⟨E6, y, hy, rfl, rfl, rfl⟩ := hrel
        have EE := E5.trans E6
        have M0 := hid (K0.out.ext EE)
        have a0 := M0.out.cell 0
        have z0 := M0.out.lt
        simp only [List.getElem?_toArray, List.getElem?_cons_zero] at a0
        by_cases hly : y < nl
        · obtain ⟨b, off, rfl, hb0, e0⟩ := IntsAt.at1 HI.out HNM.out hly
          obtain ⟨sn, hj, hjn⟩ := HNI.out y hly
          rw [hj] at e0
          have HS1 := hid (HSN.out y (by rw [HNM.out]; exact hly))
          have HS2 := hid (HSE.out y (by rw [HNM.out]; exact hly))
          rw [hj] at HS1 HS2
          have HO1 := hid (HOS1.out sn hjn)
          replace e0 := (EE.cell (p := ⟨b, _, none⟩) hb0).trans e0
          have q1 := Nat.lt_of_lt_of_le hb0 EE.size
          clear hj HOS1 HNI HSN HSE
          generalize pA (sn : Int) = x1 at *
          generalize pE (sn : Int) = x2 at *
          generalize (NM.take y).all pA = va at *
          generalize (NM.take y).any pE = ve at *
          go_wp2_with fail
          refine wp_region_held_drew (S := fun w' => (∀ b o, b < wr.heap.size → w'.cell? ⟨b, o, none⟩ = wr.cell? ⟨b, o, none⟩) ∧ wr.heap.size ≤ w'.heap.size ∧ Ext wr w') (by kernel_rfl) ?hS0 (fun hHeld => ?_)
          case hS0 => exact sK (Ext.drew (Ext.refl _))
          have X0 : Ext wr wr.drew := Ext.drew (Ext.refl wr)
          have EX := X0
          obtain ⟨X, hX⟩ : ∃ X, wr.drew = X := ⟨_, rfl⟩
          rw [hX] at EX hHeld ⊢
          clear hX X0
          refine tk1 (i := 0) (v := ?v0a) rfl ?y0a ?r0a
          case y0a => (intro w' hSw; (try dsimp only at hSw); go_simp; (try with_reducible rfl))
          try simp only [Act.put, sq1, sq2, sq3, sq4, sq5, sq6]
          refine tk1 (i := 1) (v := ?v1a) rfl ?y1a ?r1a
          case y1a => (intro w' hSw; (try dsimp only at hSw); go_simp; (try with_reducible rfl))
          try simp only [Act.put, sq1, sq2, sq3, sq4, sq5, sq6]
          refine tk1 (i := 2) (v := ?v2a) rfl ?y2a ?r2a
          case y2a => (intro w' hSw; (try dsimp only at hSw); go_simp; (try with_reducible rfl))
          try simp only [Act.put, sq1, sq2, sq3, sq4, sq5, sq6]
          refine tk1 (i := 3) (v := ?v3a) rfl ?y3a ?r3a
          case y3a => (intro w' hSw; (try dsimp only at hSw); go_simp; (try with_reducible rfl))
          try simp only [Act.put, sq1, sq2, sq3, sq4, sq5, sq6]
          refine tk1 (i := 4) (v := ?v4a) rfl ?y4a ?r4a
          case y4a => (intro w' hSw; (try dsimp only at hSw); go_simp; (try with_reducible rfl))
          try simp only [Act.put, sq1, sq2, sq3, sq4, sq5, sq6]
          refine tk1 (i := 5) (v := ?v5a) rfl ?y5a ?r5a
          case y5a => (intro w' hSw; (try dsimp only at hSw); go_simp; (try with_reducible rfl))
          try simp only [Act.put, sq1, sq2, sq3, sq4, sq5, sq6]
          refine tk1 (i := 6) (v := ?v6a) rfl ?y6a ?r6a
          case y6a => (intro w' hSw; (try dsimp only at hSw); go_simp; (try with_reducible rfl))
          try simp only [Act.put, sq1, sq2, sq3, sq4, sq5, sq6]
          refine tk1 (i := 7) (v := ?v7a) rfl ?y7a ?r7a
          case y7a => (intro w' hSw; (try dsimp only at hSw); go_simp; (try with_reducible rfl))
          try simp only [Act.put, sq1, sq2, sq3, sq4, sq5, sq6]
          refine tk1 (i := 8) (v := ?v8a) rfl ?y8a ?r8a
          case y8a => (intro w' hSw; (try dsimp only at hSw); go_simp; (try with_reducible rfl))
          try simp only [Act.put, sq1, sq2, sq3, sq4, sq5, sq6]
          refine wpAnyH_ready (rs := [9]) (by kernel_rfl) (by simp) ?_
          refine AllReadyH.cons (o := _) rfl (fun K hK => ?_) AllReadyH.nil
          go_simp
          refine Calls.mono (HO1.out _ ((E.trans EE).trans EX)) ?_
          rintro e X ⟨rfl, hEX⟩
          dsimp only
          replace EX := EX.trans hEX
          (try replace OB := hid (OB.out.ext hEX))
          (try replace IS := hid (IS.out.ext hEX))
          clear hHeld hEX
          refine hK.out _ _ (sK EX) (fun hHeld => ?_)
          clear hK K
          try simp only [Act.put, sq1, sq2, sq3, sq4, sq5, sq6]
          refine tk1 (i := 10) (v := ?v10b) rfl ?y10b ?r10b
          case y10b => (intro w' hSw; (try dsimp only at hSw); go_simp; (try with_reducible rfl))
          try simp only [Act.put, sq1, sq2, sq3, sq4, sq5, sq6]
          refine tk1 (i := 11) (v := ?v11b) rfl ?y11b ?r11b
          case y11b => (intro w' hSw; (try dsimp only at hSw); go_simp; (try with_reducible rfl))
          try simp only [Act.put, sq1, sq2, sq3, sq4, sq5, sq6]
          refine tk1 (i := 12) (v := ?v12b) rfl ?y12b ?r12b
          case y12b => (intro w' hSw; (try dsimp only at hSw); go_simp; (try with_reducible rfl))
          try simp only [Act.put, sq1, sq2, sq3, sq4, sq5, sq6]
          refine tk1 (i := 13) (v := ?v13b) rfl ?y13b ?r13b
          case y13b => (intro w' hSw; (try dsimp only at hSw); go_simp; (try with_reducible rfl))
          try simp only [Act.put, sq1, sq2, sq3, sq4, sq5, sq6]
          refine tk1 (i := 14) (v := ?v14b) rfl ?y14b ?r14b
          case y14b => (intro w' hSw; (try dsimp only at hSw); go_simp; (try with_reducible rfl))
          try simp only [Act.put, sq1, sq2, sq3, sq4, sq5, sq6]
          refine wpAnyH_done (by kernel_rfl) ?_ _
          have E7 := hid (E6.trans EX)
          clear hHeld EX e0 q1 HO1 a0 z0 M0
          cases va <;> cases ve
          · have HRA := hid HS1.out
            have HRE := hid HS2.out
            clear HS1 HS2
            go_wp2
            go_roundw
            case rel => exact ⟨E7.out, y + 1, by omega, by go_num, by rw [HRA.out] <;> rfl, by rw [HRE.out] <;> rfl⟩
            case measure => simp [intOf]; omega
          · have HRA := hid HS1.out
            have HRE := hid HS2.out
            clear HS1 HS2
            go_wp2
            go_roundw
            case rel => exact ⟨E7.out, y + 1, by omega, by go_num, by rw [HRA.out] <;> rfl, by rw [HRE.out] <;> rfl⟩
            case measure => simp [intOf]; omega
          · have HRA := hid HS1.out
            have HRE := hid HS2.out
            clear HS1 HS2
            go_wp2
            go_roundw
            case rel => exact ⟨E7.out, y + 1, by omega, by go_num, by rw [HRA.out] <;> rfl, by rw [HRE.out] <;> rfl⟩
            case measure => simp [intOf]; omega
          · have HRA := hid HS1.out
            have HRE := hid HS2.out
            clear HS1 HS2
            go_wp2
            go_roundw
            case rel => exact ⟨E7.out, y + 1, by omega, by go_num, by rw [HRA.out] <;> rfl, by rw [HRE.out] <;> rfl⟩
            case measure => simp [intOf]; omega
        · obtain rfl : y = nl := by omega
          rw [HF.out]
          replace HV := hid (HV.out.ext E6)
          replace HU := hid (HU.out.ext E6)
          have hkk : k ≤ 1000 := by omega
          have ES := EE.size
          have la := tabL_len k HA
          have le := tabL_len k HE
          have HNA := hid (HTA.out.trans (by rw [HDA1.out]))
          have HNE := hid (HTE.out.trans (by rw [HDE1.out]))
          generalize NM.all pA = bA at *
          generalize NM.any pE = bE at *
          clear HSN HSE HOS1 HNI a0 z0 M0
          go_wp2_with (at_builtin; refine Halt.mk ?_)
          unfold Halt
          refine appB2 _ rfl _ _ rfl w4.heap.size u8 (tabL k HA) rfl (HV.out.ext (ext_alloc1 _ _)) ⟨wr.heap.size, 0, none⟩ bA rfl (blk_cell (blk_last wr _) 0) (by rw [la]; omega) (by simp; omega) ?_
          intro v5 w7 hO5 hg5 hw5
          have EA := hid (HV.out.extApp EE (Nat.le_refl _) hg5)
          have HD5 := hid (apart_of hw5 HD.out (fun q h => by have := (HU.out.block q h).2; simp; omega))
          replace HU := hid ((HU.out.ext (ext_alloc1 wr (.cells #[.bool bA] 4))).grown hg5 (ne_or HD.out))
          rw [← HNA.out] at hO5
          replace HV := hid hO5
          have ESA := EA.out.size
          clear hg5 hw5 hO5 HD HNA HTA HDA1 la
          go_wp2_with (at_builtin; refine Halt.mk ?_)
          unfold Halt
          refine appB2 _ rfl _ _ rfl w4.heap.size u9 (tabL k HE) rfl (HU.out.ext (ext_alloc1 _ _)) ⟨w7.heap.size, 0, none⟩ bE rfl (blk_cell (blk_last w7 _) 0) (by rw [le]; omega) (by simp; omega) ?_
          intro v7 w8 hO7 hg7 hw7
          have EB := hid (HU.out.extApp EA.out (Nat.le_refl _) hg7)
          have HD7 := hid (fun q h h2 => apart_of hw7 (fun q h2 h => HD5.out q h h2) (fun q h => by have := (HV.out.block q h).2; simp; omega) q h2 h)
          replace HV := hid ((HV.out.ext (ext_alloc1 w7 (.cells #[.bool bE] 4))).grown hg7 (ne_or (fun q h2 h => HD5.out q h h2)))
          rw [← HNE.out] at hO7
          replace HU := hid hO7
          clear hg7 hw7 hO7 HD5 HNE HTE HDE1 le
          go_wp2
          go_roundw
          case rel => exact ⟨EB.out, k + 1, by omega, by go_num, HV, HU, HD7⟩
          case measure => simp [intOf]; omega
    · obtain rfl : k = N := by omega
      go_wp2_with fail
      refine (HHO.out _ (E.trans E4)).mono ?_
      rintro e w5 ⟨rfl, hE5⟩
      have HV1 := hid ((HV.out.ext hE5).low E.size)
      have HU1 := hid ((HU.out.ext hE5).low E.size)
      have E5 := hid ((E.trans E4).trans hE5)
      clear HOS HDA HDE HNI a0 z0 M0
      go_wp2
      go_ret2
      exact ⟨_, _, rfl, HV1.out, HU1.out, E5.out⟩
end Go.Proofs.YtecamnhnjmldcaaGreatDoor
/- maybeOpen. -/
set_option linter.unusedSimpArgs false
set_option linter.unusedVariables false
namespace Go.Proofs.YtecamnhnjmldcaaGreatDoor
open Go.RowKit
set_option maxRecDepth 100000 in
set_option maxHeartbeats 1000000 in
theorem indexSc_any (fn : Nat) (caps : Array Value) (eg : ∀ args w, (callFunc fn args).run Tryz.prog w = .ok (.enter fn args) w) (xs : List (List Hr)) (p : List Hr → Bool) (A : Option Addr) (n c : Nat) (hn : xs.length = n) (hm : n ≤ 10000) (w : World) (hx : ScsAt w A xs)
    (hf : ∀ (x : List Hr) (A' : Option Addr) (c' : Nat) (W : World), Ext w W → x ∈ xs → x.length ≤ c' → HrsAt W A' x → Calls Tryz.prog fn (#[.agg #[.slice A' x.length c']] ++ caps) W fun e W' => e = .returned (.bool (p x)) ∧ Ext W W') :
    Calls Tryz.prog 137 #[.slice A n c, .func (.func fn) #[] caps] w (Found (xs.any p) w) := by
  have HFF := hid hf
  have HX := hid hx
  have HN := hid hn
  have HEG := hid eg
  clear hf hx hn eg
  go_enter Tryz.func137, Tryz.ntmps137
  go_wp2
  go_loopw [8] (fun i wr => Ext w wr ∧ ∃ k : Nat, k ≤ n ∧ i = .int .i64 k ∧ (xs.take k).any p = false) (fun i _ => n - (intOf i).toNat)
  case atStart => exact ⟨by (repeat' (first | with_reducible assumption | with_reducible exact Ext.refl _ | with_reducible refine Ext.alloc ?_ _ | with_reducible refine Ext.set ?_ ?_ _ | with_reducible refine Ext.drew ?_ | with_reducible refine Ext.drewN ?_ _ | with_reducible refine Ext.trans ?_ (by assumption) | (dsimp only; omega))), 0, Nat.zero_le _, rfl, rfl⟩
  case round =>
    obtain ⟨hE, k, hk, rfl, ha⟩ := hrel
    have HA := hid ha
    clear ha
    by_cases hlt : k < n
    · obtain ⟨b, off, rfl, hb, hck⟩ := (HX.out.ext hE).at_ HN.out hlt
      have HS := hid (any_take_snoc xs p [] k (by rw [HN.out]; omega))
      have HY := hid (any_of_at xs p [] k (by rw [HN.out]; omega))
      have HM := hid (mem_at xs [] k (by rw [HN.out]; omega))
      clear HX
      generalize xs.getD k [] = x at *
      obtain ⟨A', c', hck, hcap, hhr⟩ := hck
      have HH := hid hhr
      have HC := hid hcap
      clear hcap hhr
      go_wp2_with fail
      rw [HEG.out]
      refine Calls.mono (HFF.out x A' c' _ ?ext HM.out HC.out (HH.out.ext ?hx)) ?_
      case hx => (repeat' (first | with_reducible assumption | with_reducible exact Ext.refl _ | with_reducible refine Ext.alloc ?_ _ | with_reducible refine Ext.set ?_ ?_ _ | with_reducible refine Ext.drew ?_ | with_reducible refine Ext.drewN ?_ _ | with_reducible refine Ext.trans ?_ (by assumption) | (dsimp only; omega)))
      case ext => (repeat' (first | with_reducible assumption | with_reducible exact Ext.refl _ | with_reducible refine Ext.alloc ?_ _ | with_reducible refine Ext.set ?_ ?_ _ | with_reducible refine Ext.drew ?_ | with_reducible refine Ext.drewN ?_ _ | with_reducible refine Ext.trans ?_ (by assumption) | (dsimp only; omega)))
      rintro e w2 ⟨rfl, hE2⟩
      rcases Bool.eq_false_or_eq_true (p x) with hp | hp
      · rw [hp]
        have HP := hid (HY.out hp)
        clear hp
        go_wp2
        go_ret
        exact Found.mk _ (by rw [HP.out]; simp) (by (repeat' (first | with_reducible assumption | with_reducible exact Ext.refl _ | with_reducible refine Ext.alloc ?_ _ | with_reducible refine Ext.set ?_ ?_ _ | with_reducible refine Ext.drew ?_ | with_reducible refine Ext.drewN ?_ _ | with_reducible refine Ext.trans ?_ (by assumption) | (dsimp only; omega))))
      · rw [hp]
        have HP := hid (HS.out.trans (by rw [HA.out, hp]))
        clear hp
        go_wp2
        go_roundw
        case rel => exact ⟨by (repeat' (first | with_reducible assumption | with_reducible exact Ext.refl _ | with_reducible refine Ext.alloc ?_ _ | with_reducible refine Ext.set ?_ ?_ _ | with_reducible refine Ext.drew ?_ | with_reducible refine Ext.drewN ?_ _ | with_reducible refine Ext.trans ?_ (by assumption) | (dsimp only; omega))), k + 1, by omega, by go_num, HP.out⟩
        case measure => simp [intOf]; omega
    · have HP := hid (any_false_end HA.out (by rw [HN.out]; omega))
      go_wp2
      go_ret
      exact Found.mk _ (by rw [HP.out]; rfl) (by (repeat' (first | with_reducible assumption | with_reducible exact Ext.refl _ | with_reducible refine Ext.alloc ?_ _ | with_reducible refine Ext.set ?_ ?_ _ | with_reducible refine Ext.drew ?_ | with_reducible refine Ext.drewN ?_ _ | with_reducible refine Ext.trans ?_ (by assumption) | (dsimp only; omega))))
set_option maxHeartbeats 1000000 in
theorem containsSc_any (fn : Nat) (caps : Array Value) (eg : ∀ args w, (callFunc fn args).run Tryz.prog w = .ok (.enter fn args) w) (xs : List (List Hr)) (p : List Hr → Bool) (A : Option Addr) (n c : Nat) (hn : xs.length = n) (hm : n ≤ 10000) (w : World) (hx : ScsAt w A xs)
    (hf : ∀ (x : List Hr) (A' : Option Addr) (c' : Nat) (W : World), Ext w W → x ∈ xs → x.length ≤ c' → HrsAt W A' x → Calls Tryz.prog fn (#[.agg #[.slice A' x.length c']] ++ caps) W fun e W' => e = .returned (.bool (p x)) ∧ Ext W W') :
    Calls Tryz.prog 96 #[.slice A n c, .func (.func fn) #[] caps] w fun e w' => e = .returned (.bool (xs.any p)) ∧ Ext w w' := by
  have HC := hid (indexSc_any fn caps eg xs p A n c hn hm w hx hf)
  clear hf hn hx eg
  go_enter Tryz.func96, Tryz.ntmps96
  go_wp2_with fail
  refine HC.out.mono ?_
  rintro e w2 ⟨⟨r, rfl, hr⟩, hE2⟩
  have HR := hid hr
  clear hr HC
  go_wp2
  go_ret
  exact ⟨ret_bool HR.out, hE2⟩
section
variable (N : Nat) (A1 : Option Addr) (n1 c1 : Nat) (A2 : Option Addr) (n2 c2 : Nat) (ss : List (List Hr)) (rs : List Rl) (RA : Option Addr) (rn rc : Nat)
set_option maxHeartbeats 2000000 in
theorem may11_any (x : List Hr) (A : Option Addr) (c : Nat) (hxl : x.length = N) (hc : N ≤ c) (op : Nat) (hop : op < N) (q1 q2 : Nat) (w : World) (h : RIn w N A2 n2 ss rs RA rn) (hx : HrsAt w A x)
    (b1 : Blk w q1 106 (regCells N (.slice A1 n1 c1) (.slice A2 n2 c2) (.slice RA rn rc))) (b2 : Blk w q2 3 #[.int .i64 (op : Int)]) :
    Calls Tryz.prog 97 #[.agg #[.slice A N c], .pointer (some ⟨q1, 0, none⟩), .pointer (some ⟨q2, 0, none⟩)] w fun e w' => e = .returned (.bool (isOpenM mayB rs x op)) ∧ Ext w w' := by
  have HO := hid (fun (W : World) (hW : Ext w W) => isOpen_any 98 mayB maybeF N h.hN _ _ A1 n1 c1 rfl A2 n2 c2 rfl rs RA rn rc h.hrn h.hrm h.haft x A c hxl hc op hop W (h.wid.ext hW) (h.ru.ext hW) (hx.ext hW))
  unfold regCells at *
  obtain ⟨a0, a1, a2, a3⟩ : _ ∧ _ ∧ _ ∧ _ := ⟨b1.cell 0, b1.cell 1, b1.cell 2, b1.cell 3⟩
  have e0 := b2.cell 0
  have z1 := b1.lt
  have z2 := b2.lt
  simp only [List.getElem?_toArray, List.getElem?_cons_zero, List.getElem?_cons_succ] at a0 a1 a2 a3 e0
  clear h hx b1 b2
  go_enter Tryz.func97, Tryz.ntmps97
  go_wp2_with (go_at_call 93; refine (HO.out _ (by (repeat' (first | with_reducible assumption | with_reducible exact Ext.refl _ | with_reducible refine Ext.alloc ?_ _ | with_reducible refine Ext.set ?_ ?_ _ | with_reducible refine Ext.drew ?_ | with_reducible refine Ext.drewN ?_ _ | with_reducible refine Ext.trans ?_ (by assumption) | (dsimp only; omega))))).mono ?_; rintro e w2 ⟨rfl, hE⟩)
  go_ret
  exact ⟨rfl, by (repeat' (first | with_reducible assumption | with_reducible exact Ext.refl _ | with_reducible refine Ext.alloc ?_ _ | with_reducible refine Ext.set ?_ ?_ _ | with_reducible refine Ext.drew ?_ | with_reducible refine Ext.drewN ?_ _ | with_reducible refine Ext.trans ?_ (by assumption) | (dsimp only; omega)))⟩
set_option maxHeartbeats 2000000 in
theorem may1_any (op : Nat) (hop : op < N) (q1 : Nat) (w : World) (h : RIn w N A2 n2 ss rs RA rn)
    (b1 : Blk w q1 106 (regCells N (.slice A1 n1 c1) (.slice A2 n2 c2) (.slice RA rn rc))) :
    Calls Tryz.prog 95 #[.int .i64 (op : Int), .pointer (some ⟨q1, 0, none⟩)] w fun e w' => e = .returned (.bool (ss.any fun x => isOpenM mayB rs x op)) ∧ Ext w w' := by
  have HA := hid (fun (W : World) (hW : Ext w W) (b2 : Blk W w.heap.size 3 #[.int .i64 (op : Int)]) => containsSc_any 97 #[.pointer (some ⟨q1, 0, none⟩), .pointer (some ⟨w.heap.size, 0, none⟩)] (fun _ _ => by kernel_rfl) ss (fun x => isOpenM mayB rs x op) A2 n2 c2 h.hn (by have := h.hn2; omega) W (h.sc.ext hW)
    (fun x A' c' W' h1 h2 h3 h4 => by
      have hxl := h.hall x h2
      rw [hxl] at h3 ⊢
      exact may11_any N A1 n1 c1 A2 n2 c2 ss rs RA rn rc x A' c' hxl h3 op hop q1 w.heap.size W' ((h.ext hW).ext h1) h4 ((b1.ext hW).ext h1) (b2.ext h1)))
  unfold regCells at *
  have a2 := b1.cell 2
  have z1 := b1.lt
  have B2 := hid (show Blk _ _ _ _ from blk_last w (.cells #[.int .i64 (op : Int)] 3))
  simp only [List.getElem?_toArray, List.getElem?_cons_zero, List.getElem?_cons_succ] at a2
  clear h b1
  generalize (ss.any fun x => isOpenM mayB rs x op) = B at *
  go_enter Tryz.func95, Tryz.ntmps95
  go_wp2_with (go_at_call 96; refine (HA.out _ (by (repeat' (first | with_reducible assumption | with_reducible exact Ext.refl _ | with_reducible refine Ext.alloc ?_ _ | with_reducible refine Ext.set ?_ ?_ _ | with_reducible refine Ext.drew ?_ | with_reducible refine Ext.drewN ?_ _ | with_reducible refine Ext.trans ?_ (by assumption) | (dsimp only; omega)))) B2.out).mono ?_; rintro e w2 ⟨rfl, hE⟩)
  go_ret
  exact ⟨rfl, by (repeat' (first | with_reducible assumption | with_reducible exact Ext.refl _ | with_reducible refine Ext.alloc ?_ _ | with_reducible refine Ext.set ?_ ?_ _ | with_reducible refine Ext.drew ?_ | with_reducible refine Ext.drewN ?_ _ | with_reducible refine Ext.trans ?_ (by assumption) | (dsimp only; omega)))⟩
set_option maxHeartbeats 2000000 in
theorem maybe2_any (w : World) (h : RIn w N A2 n2 ss rs RA rn) :
    Calls Tryz.prog 44 #[.agg (regCells N (.slice A1 n1 c1) (.slice A2 n2 c2) (.slice RA rn rc))] w fun e w' => ∃ A c, e = .returned (.slice A (mayM rs ss N).length c) ∧ Ownl 27 2 gSp w' w.heap.size (.slice A (mayM rs ss N).length c) (mayM rs ss N) ∧ Ext w w' := by
  have HS := hid (fun (W : World) (hW : Ext w W) (b1 : Blk W w.heap.size 106 (regCells N (.slice A1 n1 c1) (.slice A2 n2 c2) (.slice RA rn rc))) => spans_any 95 #[.pointer (some ⟨w.heap.size, 0, none⟩)] (fun _ _ => by kernel_rfl) N (by have := h.hN; omega) (fun op => ss.any fun x => isOpenM mayB rs x op) W
    (fun i W' h1 hi => may1_any N A1 n1 c1 A2 n2 c2 ss rs RA rn rc i hi w.heap.size W' ((h.ext hW).ext h1) (b1.ext h1)))
  change Hid (∀ (W : World), Ext w W → Blk W w.heap.size 106 (regCells N (.slice A1 n1 c1) (.slice A2 n2 c2) (.slice RA rn rc)) → Calls _ _ _ W fun e w' => ∃ A c, e = .returned (.slice A (mayM rs ss N).length c) ∧ Ownl 27 2 gSp w' W.heap.size (.slice A (mayM rs ss N).length c) (mayM rs ss N) ∧ Ext W w') at HS
  generalize mayM rs ss N = sp at *
  have B1 := hid (show Blk _ _ _ _ from blk_last w (.cells (regCells N (.slice A1 n1 c1) (.slice A2 n2 c2) (.slice RA rn rc)) 106))
  unfold regCells at *
  clear h
  go_enter Tryz.func44, Tryz.ntmps44
  go_wp2_with fail
  refine Calls.mono (HS.out _ (by (repeat' (first | with_reducible assumption | with_reducible exact Ext.refl _ | with_reducible refine Ext.alloc ?_ _ | with_reducible refine Ext.set ?_ ?_ _ | with_reducible refine Ext.drew ?_ | with_reducible refine Ext.drewN ?_ _ | with_reducible refine Ext.trans ?_ (by assumption) | (dsimp only; omega)))) B1.out) ?_
  rintro e w2 ⟨A, c, rfl, ho, hE⟩
  have HO := hid (ho.low (show w.heap.size ≤ _ by simp))
  have HE := hid (show Ext w w2 by (repeat' (first | with_reducible assumption | with_reducible exact Ext.refl _ | with_reducible refine Ext.alloc ?_ _ | with_reducible refine Ext.set ?_ ?_ _ | with_reducible refine Ext.drew ?_ | with_reducible refine Ext.drewN ?_ _ | with_reducible refine Ext.trans ?_ (by assumption) | (dsimp only; omega))))
  clear ho hE
  dsimp only
  go_wp2
  go_ret
  exact ⟨A, c, rfl, HO.out, HE.out⟩
end
end Go.Proofs.YtecamnhnjmldcaaGreatDoor
