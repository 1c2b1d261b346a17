/- Window of the specification. -/
import Derived.Test.YtecamnhnjmldcaaGreatDoorBTopWindows25
import Derived.OwnWalk
import Derived.Test.YtecamnhnjmldcaaGreatDoorBTopWindows26
set_option linter.unusedSimpArgs false
set_option linter.unusedVariables false
namespace Go.Proofs.YtecamnhnjmldcaaGreatDoor
open Go.RowKit
set_option maxHeartbeats 8000000 in
set_option maxRecDepth 100000 in
theorem rWindow_any (f : List (List Hr)) (A : Option Addr) (n c : Nat) (seen : List Sg) (SA : Option Addr) (m sc : Nat) (l : Lm) (len : Int) (w : World) (h : FIn w f A n seen SA m) :
    Calls Tryz.prog 14 #[.agg #[.slice A n c], .slice SA m sc, l.val, .int .i64 len] w fun e w' => e = .returned (.tuple #[.int .i64 (rwFirst f seen l len), .int .i64 (rwLast f seen l len), .int .i64 (rlimE f seen l (inI len 1 48))]) ∧ Ext w w' := by
  have HW := hid (fun (W : World) => (rWithin_any len 1 48 W).mono fun e w' hw => show e = .returned (.bool (inI len 1 48)) ∧ Ext W w' from ⟨hw.1, by rw [hw.2]; exact Ext.refl _⟩)
  have HC := hid (fun (W : World) (hW : Ext w W) => rchkLim_any f A n c seen SA m sc l (inI len 1 48) W (h.ext hW))
  have hF : rwFirst f seen l len = if rlimE f seen l (inI len 1 48) = 0 then rwF f seen l len.toNat (numsM seen f).length else 0 := rfl
  have hL : rwLast f seen l len = if rlimE f seen l (inI len 1 48) = 0 then (if rwN f seen l len.toNat (numsM seen f).length = true then -1 else rwL f seen l len.toNat (numsM seen f).length) else 0 := rfl
  by_cases hz : rlimE f seen l (inI len 1 48) = 0
  case neg =>
    rw [if_neg hz] at hF hL
    rw [hF, hL]
    clear h hF hL
    generalize rlimE f seen l (inI len 1 48) = se at *
    have hsb : (se != 0) = true := by simp [hz]
    generalize inI len 1 48 = il at *
    unfold Lm.val at *
    obtain ⟨wi, ra, tl, th⟩ := l
    dsimp only at HC ⊢
    have B0 := hid (show Blk _ _ _ _ from blk_old (blk_last w (.cells #[.slice A n c] 24)) (.cells #[.int .i64 wi, .int .i64 ra, .int .i64 tl, .int .i64 th] 29))
    have B1 := hid (show Blk _ _ _ _ from blk_last (w.alloc (.cells #[.slice A n c] 24)) (.cells #[.int .i64 wi, .int .i64 ra, .int .i64 tl, .int .i64 th] 29))
    rw [World.size_alloc] at B1
    have E : Ext w ((w.alloc (.cells #[.slice A n c] 24)).alloc (.cells #[.int .i64 wi, .int .i64 ra, .int .i64 tl, .int .i64 th] 29)) := by (repeat' (first | with_reducible assumption | with_reducible exact Ext.refl _ | with_reducible refine Ext.alloc ?_ _ | with_reducible refine Ext.set ?_ ?_ _ | with_reducible refine Ext.drew ?_ | with_reducible refine Ext.drewN ?_ _ | with_reducible refine Ext.trans ?_ (by assumption) | (dsimp only; omega)))
    go_enter Tryz.func14, Tryz.ntmps14
    go_wp2_with fail
    refine wp_abs (fun X => Blk X w.heap.size 24 #[.slice A n c] ∧ Blk X (w.heap.size + 1) 29 #[.int .i64 wi, .int .i64 ra, .int .i64 tl, .int .i64 th] ∧ Ext w X) ⟨B0.out, B1.out, E⟩ ?_
    clear B0 B1 E
    rintro U ⟨b0, b1, hE⟩
    have B0 := hid b0
    have B1 := hid b1
    have E := hE
    clear b0 b1 hE
    have hE := Ext.refl U
    replace E := E.trans hE
    replace B0 := hid (B0.out.ext hE)
    replace B1 := hid (B1.out.ext hE)
    clear hE
    (try clear a0 l0 l1 l2 l3 z0 z1)
    have a0 := B0.out.cell 0
    obtain ⟨l0, l1, l2, l3⟩ : _ ∧ _ ∧ _ ∧ _ := ⟨B1.out.cell 0, B1.out.cell 1, B1.out.cell 2, B1.out.cell 3⟩
    have z0 := B0.out.lt
    have z1 := B1.out.lt
    simp only [List.getElem?_toArray, List.getElem?_cons_zero, List.getElem?_cons_succ] at a0 l0 l1 l2 l3
    refine wp_region_held_drew (S := fun w' => (∀ b o, b < U.heap.size → w'.cell? ⟨b, o, none⟩ = U.cell? ⟨b, o, none⟩) ∧ U.heap.size ≤ w'.heap.size ∧ Ext U w') (by kernel_rfl) ?hS0 (fun hHeld => ?_)
    case hS0 => exact sK (Ext.drew (Ext.refl _))
    have X0 : Ext U U.drew := Ext.drew (Ext.refl U)
    have EX := X0
    obtain ⟨X, hX⟩ : ∃ X, U.drew = X := ⟨_, rfl⟩
    rw [hX] at EX hHeld ⊢
    clear hX X0
    refine wpAnyH_take (i := 0) (oi := _) (v := ?v0ax) rfl (by kernel_rfl) (by kernel_rfl) (by kernel_rfl) (fun _ _ _ h => h) (Or.inl ⟨by rfl, ?y0ax⟩) (by assumption) ?r0ax
    case y0ax => (intro w' hSw; (try dsimp only at hSw); go_simp; (try with_reducible rfl))
    try simp only [Act.put, List.getElem_toArray, List.getElem_cons_zero, List.getElem_cons_succ, List.setIfInBounds_toArray, List.set_cons_zero, List.set_cons_succ]
    refine wpAnyH_take (i := 1) (oi := _) (v := ?v1ax) rfl (by kernel_rfl) (by kernel_rfl) (by kernel_rfl) (fun _ _ _ h => h) (Or.inl ⟨by rfl, ?y1ax⟩) (by assumption) ?r1ax
    case y1ax => (intro w' hSw; (try dsimp only at hSw); go_simp; (try with_reducible rfl))
    try simp only [Act.put, List.getElem_toArray, List.getElem_cons_zero, List.getElem_cons_succ, List.setIfInBounds_toArray, List.set_cons_zero, List.set_cons_succ]
    refine wpAnyH_take (i := 2) (oi := _) (v := ?v2ax) rfl (by kernel_rfl) (by kernel_rfl) (by kernel_rfl) (fun _ _ _ h => h) (Or.inl ⟨by rfl, ?y2ax⟩) (by assumption) ?r2ax
    case y2ax => (intro w' hSw; (try dsimp only at hSw); go_simp; (try with_reducible rfl))
    try simp only [Act.put, List.getElem_toArray, List.getElem_cons_zero, List.getElem_cons_succ, List.setIfInBounds_toArray, List.set_cons_zero, List.set_cons_succ]
    refine wpAnyH_take (i := 3) (oi := _) (v := ?v3ax) rfl (by kernel_rfl) (by kernel_rfl) (by kernel_rfl) (fun _ _ _ h => h) (Or.inl ⟨by rfl, ?y3ax⟩) (by assumption) ?r3ax
    case y3ax => (intro w' hSw; (try dsimp only at hSw); go_simp; (try with_reducible rfl))
    try simp only [Act.put, List.getElem_toArray, List.getElem_cons_zero, List.getElem_cons_succ, List.setIfInBounds_toArray, List.set_cons_zero, List.set_cons_succ]
    refine wpAnyH_ready (rs := [4]) (by kernel_rfl) (by simp) ?_
    refine AllReadyH.cons (o := _) rfl (fun K hK => ?_) AllReadyH.nil
    go_simp
    refine Calls.mono (HW.out _) ?_
    rintro e X ⟨rfl, hEX⟩
    dsimp only
    replace EX := EX.trans hEX
    (try replace OB := hid (OB.out.ext hEX))
    (try replace IS := hid (IS.out.ext hEX))
    clear hHeld hEX
    refine hK.out _ _ (sK EX) (fun hHeld => ?_)
    clear hK K
    try simp only [Act.put, List.getElem_toArray, List.getElem_cons_zero, List.getElem_cons_succ, List.setIfInBounds_toArray, List.set_cons_zero, List.set_cons_succ]
    refine wpAnyH_ready (rs := [5]) (by kernel_rfl) (by simp) ?_
    refine AllReadyH.cons (o := _) rfl (fun K hK => ?_) AllReadyH.nil
    go_simp
    refine Calls.mono (HC.out _ (E.trans EX)) ?_
    rintro e X ⟨rfl, hEX⟩
    dsimp only
    replace EX := EX.trans hEX
    (try replace OB := hid (OB.out.ext hEX))
    (try replace IS := hid (IS.out.ext hEX))
    clear hHeld hEX
    refine hK.out _ _ (sK EX) (fun hHeld => ?_)
    clear hK K
    try simp only [Act.put, List.getElem_toArray, List.getElem_cons_zero, List.getElem_cons_succ, List.setIfInBounds_toArray, List.set_cons_zero, List.set_cons_succ]
    refine wpAnyH_take (i := 6) (oi := _) (v := ?v6bx) rfl (by kernel_rfl) (by kernel_rfl) (by kernel_rfl) (fun _ _ _ h => h) (Or.inl ⟨by rfl, ?y6bx⟩) (by assumption) ?r6bx
    case y6bx => (intro w' hSw; (try dsimp only at hSw); go_simp; (try with_reducible rfl))
    try simp only [Act.put, List.getElem_toArray, List.getElem_cons_zero, List.getElem_cons_succ, List.setIfInBounds_toArray, List.set_cons_zero, List.set_cons_succ]
    refine wpAnyH_done (by kernel_rfl) ?_ _
    have hE := EX
    clear hHeld EX HW HC
    replace E := E.trans hE
    replace B0 := hid (B0.out.ext hE)
    replace B1 := hid (B1.out.ext hE)
    clear hE
    (try clear a0 l0 l1 l2 l3 z0 z1)
    have a0 := B0.out.cell 0
    obtain ⟨l0, l1, l2, l3⟩ : _ ∧ _ ∧ _ ∧ _ := ⟨B1.out.cell 0, B1.out.cell 1, B1.out.cell 2, B1.out.cell 3⟩
    have z0 := B0.out.lt
    have z1 := B1.out.lt
    simp only [List.getElem?_toArray, List.getElem?_cons_zero, List.getElem?_cons_succ] at a0 l0 l1 l2 l3
    go_wp2
    exact bodyPost_ret (v := .tuple #[.int .i64 0, .int .i64 0, .int .i64 se]) (by simp [results, Tryz.results14, go_sem]) rfl ⟨rfl, E⟩
  rw [if_pos hz] at hF hL
  rw [hF, hL, hz]
  rw [hz] at HC
  obtain ⟨hse, hlm, hin⟩ := rlimE_ok hz
  have ok := seenE_ok hse
  have hfc := fcE_ok ok.1
  have hsg := sgE_ok ok.2
  obtain ⟨ln, rfl⟩ : ∃ ln : Nat, len = ln := ⟨len.toNat, by unfold inI at hin; simp only [Bool.and_eq_true, decide_eq_true_eq] at hin; omega⟩
  have g1 : 1 ≤ ln := by unfold inI at hin; simp only [Bool.and_eq_true, decide_eq_true_eq] at hin; omega
  have g2 : ln ≤ 1000 := by unfold inI at hin; simp only [Bool.and_eq_true, decide_eq_true_eq] at hin; omega
  have HP := hid (fun (W : World) (hW : Ext w W) => rpossible_any f A n c seen SA m sc W (h.ext hW) hfc hsg)
  have HRW := hid (fun (sn : Nat) (hsn : sn < n) (W : World) (hW : Ext w W) => rrow_any f A n c seen SA m sc sn l W (h.ext hW) hfc hsg hsn)
  have hNN := h.hours
  have HBM := hid (fun (sn : Nat) (W : World) (A2 : Option Addr) (c2 : Nat) (hx : BosAt W A2 (rowL (mayS l) (obsM seen (f.getD sn [])) (hoursN f))) => begin_anyB (rowL (mayS l) (obsM seen (f.getD sn [])) (hoursN f)) A2 (hoursN f) c2 (rowL_len _ _ _) hNN ln g1 g2 W hx)
  have HBS := hid (fun (sn : Nat) (W : World) (A2 : Option Addr) (c2 : Nat) (hx : BosAt W A2 (rowL (sureS l) (obsM seen (f.getD sn [])) (hoursN f))) => begin_anyB (rowL (sureS l) (obsM seen (f.getD sn [])) (hoursN f)) A2 (hoursN f) c2 (rowL_len _ _ _) hNN ln g1 g2 W hx)
  have HSF := hid (fun k hk b hb => rwF_step f seen l ln k hk b hb)
  have HSL := hid (fun k hk => rwL_step f seen l ln k hk)
  have HSN := hid (fun k hk => rwN_step f seen l ln k hk)
  have HNI := hid (fun k (hk : k < (numsM seen f).length) => show ∃ j : Nat, (numsM seen f).getD k 0 = (j : Int) ∧ j < n from by
    obtain ⟨j, h1, h2⟩ := nums_in seen f _ (mem_at (numsM seen f) 0 k hk)
    exact ⟨j, h1, by rw [← h.hn]; exact h2⟩)
  have HRS := hid (fun sn => rowL_len (sureS l) (obsM seen (f.getD sn [])) (hoursN f))
  have HRM := hid (fun sn => rowL_len (mayS l) (obsM seen (f.getD sn [])) (hoursN f))
  have HF0 := hid (show rwF f seen l ln 0 = -1 from rfl)
  have HL0 := hid (show rwL f seen l ln 0 = 0 from rfl)
  have HN0 := hid (show rwN f seen l ln 0 = false from rfl)
  have hnl : (numsM seen f).length ≤ 1000 := by rw [numsM_scs]; have := scsM_le seen f; have := h.hn; have := h.hm; omega
  rw [Int.toNat_natCast]
  generalize inI (ln : Int) 1 48 = il at *
  clear h hF hL hz hse hlm hin ok hfc hsg
  generalize rwF f seen l ln = FK at *
  generalize rwL f seen l ln = LK at *
  generalize rwN f seen l ln = NK at *
  generalize numsM seen f = NM at *
  generalize hRS : (fun sn => rowL (sureS l) (obsM seen (f.getD sn [])) (hoursN f)) = RS
  have hRe : ∀ sn, rowL (sureS l) (obsM seen (f.getD sn [])) (hoursN f) = RS sn := fun sn => by rw [← hRS]
  generalize hRM : (fun sn => rowL (mayS l) (obsM seen (f.getD sn [])) (hoursN f)) = RM
  have hRf : ∀ sn, rowL (mayS l) (obsM seen (f.getD sn [])) (hoursN f) = RM sn := fun sn => by rw [← hRM]
  simp only [hRe, hRf] at HRW HBM HBS HSF HSL HSN HRS HRM
  clear hRS hRe hRM hRf
  generalize hoursN f = N at *
  have HNL := hid (show NM.length = NM.length from rfl)
  obtain ⟨nl, hnl2⟩ : ∃ nl, NM.length = nl := ⟨_, rfl⟩
  rw [hnl2] at HP hnl HNI HSF HSL HSN ⊢
  have HNM := hid hnl2
  clear hnl2 HNL
  obtain ⟨LE, hLE⟩ : ∃ LE, (if NK nl = true then -1 else LK nl) = LE := ⟨_, rfl⟩
  rw [hLE]
  have HLE := hid hLE
  clear hLE
  unfold Lm.val at *
  obtain ⟨wi, ra, tl, th⟩ := l
  dsimp only at HC HRW ⊢
  have B0 := hid (show Blk _ _ _ _ from blk_old (blk_last w (.cells #[.slice A n c] 24)) (.cells #[.int .i64 wi, .int .i64 ra, .int .i64 tl, .int .i64 th] 29))
  have B1 := hid (show Blk _ _ _ _ from blk_last (w.alloc (.cells #[.slice A n c] 24)) (.cells #[.int .i64 wi, .int .i64 ra, .int .i64 tl, .int .i64 th] 29))
  rw [World.size_alloc] at B1
  have E : Ext w ((w.alloc (.cells #[.slice A n c] 24)).alloc (.cells #[.int .i64 wi, .int .i64 ra, .int .i64 tl, .int .i64 th] 29)) := by (repeat' (first | with_reducible assumption | with_reducible exact Ext.refl _ | with_reducible refine Ext.alloc ?_ _ | with_reducible refine Ext.set ?_ ?_ _ | with_reducible refine Ext.drew ?_ | with_reducible refine Ext.drewN ?_ _ | with_reducible refine Ext.trans ?_ (by assumption) | (dsimp only; omega)))
  go_enter Tryz.func14, Tryz.ntmps14
  go_wp2_with fail
  refine wp_abs (fun X => Blk X w.heap.size 24 #[.slice A n c] ∧ Blk X (w.heap.size + 1) 29 #[.int .i64 wi, .int .i64 ra, .int .i64 tl, .int .i64 th] ∧ Ext w X) ⟨B0.out, B1.out, E⟩ ?_
  clear B0 B1 E
  rintro U ⟨b0, b1, hE⟩
  have B0 := hid b0
  have B1 := hid b1
  have E := hE
  clear b0 b1 hE
  have hE := Ext.refl U
  replace E := E.trans hE
  replace B0 := hid (B0.out.ext hE)
  replace B1 := hid (B1.out.ext hE)
  clear hE
  (try clear a0 l0 l1 l2 l3 z0 z1)
  have a0 := B0.out.cell 0
  obtain ⟨l0, l1, l2, l3⟩ : _ ∧ _ ∧ _ ∧ _ := ⟨B1.out.cell 0, B1.out.cell 1, B1.out.cell 2, B1.out.cell 3⟩
  have z0 := B0.out.lt
  have z1 := B1.out.lt
  simp only [List.getElem?_toArray, List.getElem?_cons_zero, List.getElem?_cons_succ] at a0 l0 l1 l2 l3
  refine wp_region_held_drew (S := fun w' => (∀ b o, b < U.heap.size → w'.cell? ⟨b, o, none⟩ = U.cell? ⟨b, o, none⟩) ∧ U.heap.size ≤ w'.heap.size ∧ Ext U w') (by kernel_rfl) ?hS0 (fun hHeld => ?_)
  case hS0 => exact sK (Ext.drew (Ext.refl _))
  have X0 : Ext U U.drew := Ext.drew (Ext.refl U)
  have EX := X0
  obtain ⟨X, hX⟩ : ∃ X, U.drew = X := ⟨_, rfl⟩
  rw [hX] at EX hHeld ⊢
  clear hX X0
  refine wpAnyH_take (i := 0) (oi := _) (v := ?v0ay) rfl (by kernel_rfl) (by kernel_rfl) (by kernel_rfl) (fun _ _ _ h => h) (Or.inl ⟨by rfl, ?y0ay⟩) (by assumption) ?r0ay
  case y0ay => (intro w' hSw; (try dsimp only at hSw); go_simp; (try with_reducible rfl))
  try simp only [Act.put, List.getElem_toArray, List.getElem_cons_zero, List.getElem_cons_succ, List.setIfInBounds_toArray, List.set_cons_zero, List.set_cons_succ]
  refine wpAnyH_take (i := 1) (oi := _) (v := ?v1ay) rfl (by kernel_rfl) (by kernel_rfl) (by kernel_rfl) (fun _ _ _ h => h) (Or.inl ⟨by rfl, ?y1ay⟩) (by assumption) ?r1ay
  case y1ay => (intro w' hSw; (try dsimp only at hSw); go_simp; (try with_reducible rfl))
  try simp only [Act.put, List.getElem_toArray, List.getElem_cons_zero, List.getElem_cons_succ, List.setIfInBounds_toArray, List.set_cons_zero, List.set_cons_succ]
  refine wpAnyH_take (i := 2) (oi := _) (v := ?v2ay) rfl (by kernel_rfl) (by kernel_rfl) (by kernel_rfl) (fun _ _ _ h => h) (Or.inl ⟨by rfl, ?y2ay⟩) (by assumption) ?r2ay
  case y2ay => (intro w' hSw; (try dsimp only at hSw); go_simp; (try with_reducible rfl))
  try simp only [Act.put, List.getElem_toArray, List.getElem_cons_zero, List.getElem_cons_succ, List.setIfInBounds_toArray, List.set_cons_zero, List.set_cons_succ]
  refine wpAnyH_take (i := 3) (oi := _) (v := ?v3ay) rfl (by kernel_rfl) (by kernel_rfl) (by kernel_rfl) (fun _ _ _ h => h) (Or.inl ⟨by rfl, ?y3ay⟩) (by assumption) ?r3ay
  case y3ay => (intro w' hSw; (try dsimp only at hSw); go_simp; (try with_reducible rfl))
  try simp only [Act.put, List.getElem_toArray, List.getElem_cons_zero, List.getElem_cons_succ, List.setIfInBounds_toArray, List.set_cons_zero, List.set_cons_succ]
  refine wpAnyH_ready (rs := [4]) (by kernel_rfl) (by simp) ?_
  refine AllReadyH.cons (o := _) rfl (fun K hK => ?_) AllReadyH.nil
  go_simp
  refine Calls.mono (HW.out _) ?_
  rintro e X ⟨rfl, hEX⟩
  dsimp only
  replace EX := EX.trans hEX
  (try replace OB := hid (OB.out.ext hEX))
  (try replace IS := hid (IS.out.ext hEX))
  clear hHeld hEX
  refine hK.out _ _ (sK EX) (fun hHeld => ?_)
  clear hK K
  try simp only [Act.put, List.getElem_toArray, List.getElem_cons_zero, List.getElem_cons_succ, List.setIfInBounds_toArray, List.set_cons_zero, List.set_cons_succ]
  refine wpAnyH_ready (rs := [5]) (by kernel_rfl) (by simp) ?_
  refine AllReadyH.cons (o := _) rfl (fun K hK => ?_) AllReadyH.nil
  go_simp
  refine Calls.mono (HC.out _ (E.trans EX)) ?_
  rintro e X ⟨rfl, hEX⟩
  dsimp only
  replace EX := EX.trans hEX
  (try replace OB := hid (OB.out.ext hEX))
  (try replace IS := hid (IS.out.ext hEX))
  clear hHeld hEX
  refine hK.out _ _ (sK EX) (fun hHeld => ?_)
  clear hK K
  try simp only [Act.put, List.getElem_toArray, List.getElem_cons_zero, List.getElem_cons_succ, List.setIfInBounds_toArray, List.set_cons_zero, List.set_cons_succ]
  refine wpAnyH_take (i := 6) (oi := _) (v := ?v6by) rfl (by kernel_rfl) (by kernel_rfl) (by kernel_rfl) (fun _ _ _ h => h) (Or.inl ⟨by rfl, ?y6by⟩) (by assumption) ?r6by
  case y6by => (intro w' hSw; (try dsimp only at hSw); go_simp; (try with_reducible rfl))
  try simp only [Act.put, List.getElem_toArray, List.getElem_cons_zero, List.getElem_cons_succ, List.setIfInBounds_toArray, List.set_cons_zero, List.set_cons_succ]
  refine wpAnyH_done (by kernel_rfl) ?_ _
  have hE := EX
  clear hHeld EX HW HC
  replace E := E.trans hE
  replace B0 := hid (B0.out.ext hE)
  replace B1 := hid (B1.out.ext hE)
  clear hE
  (try clear a0 l0 l1 l2 l3 z0 z1)
  have a0 := B0.out.cell 0
  obtain ⟨l0, l1, l2, l3⟩ : _ ∧ _ ∧ _ ∧ _ := ⟨B1.out.cell 0, B1.out.cell 1, B1.out.cell 2, B1.out.cell 3⟩
  have z0 := B0.out.lt
  have z1 := B1.out.lt
  simp only [List.getElem?_toArray, List.getElem?_cons_zero, List.getElem?_cons_succ] at a0 l0 l1 l2 l3
  go_wp2_with fail
  refine (HP.out _ E).mono ?_
  rintro e w4 ⟨A1, c1, rfl, ho, hE⟩
  replace E := E.trans hE
  replace B0 := hid (B0.out.ext hE)
  replace B1 := hid (B1.out.ext hE)
  clear hE
  (try clear a0 l0 l1 l2 l3 z0 z1)
  have a0 := B0.out.cell 0
  obtain ⟨l0, l1, l2, l3⟩ : _ ∧ _ ∧ _ ∧ _ := ⟨B1.out.cell 0, B1.out.cell 1, B1.out.cell 2, B1.out.cell 3⟩
  have z0 := B0.out.lt
  have z1 := B1.out.lt
  simp only [List.getElem?_toArray, List.getElem?_cons_zero, List.getElem?_cons_succ] at a0 l0 l1 l2 l3
  obtain ⟨A3, c3, e3, -, hfi, -⟩ := (ho.form (by decide) (fun _ => rfl) 0)
  injection e3 with e3
  subst e3
  have HI := hid (flat_ints.1 hfi)
  clear HP ho hfi
  have E4 : Ext w4 w4 := Ext.refl _
  go_wp2
  go_loopw [8, 9, 12, 14] (fun fi la ne i wr => Ext w wr ∧ Ext w4 wr ∧ Hid (Blk wr w.heap.size 24 #[.slice A n c]) ∧ Hid (Blk wr (w.heap.size + 1) 29 #[.int .i64 wi, .int .i64 ra, .int .i64 tl, .int .i64 th]) ∧ ∃ k : Nat, k ≤ nl ∧ i = .int .i64 k ∧ fi = .int .i64 (FK k) ∧ la = .int .i64 (LK k) ∧ ne = .bool (NK k)) (fun _ _ _ i _ => nl - (intOf i).toNat)
  case atStart => exact ⟨E, E4, B0, B1, 0, Nat.zero_le _, rfl, by rw [HF0.out], by rw [HL0.out], by rw [HN0.out]⟩
  case round =>
    clear E E4 B0 B1 a0 l0 l1 l2 l3 z0 z1
    obtain ⟨E, E4, B0, B1, k, hk, rfl, rfl, rfl, rfl⟩ := hrel
    have hE := Ext.refl wr
    replace E := E.trans hE
    replace B0 := hid (B0.out.ext hE)
    replace B1 := hid (B1.out.ext hE)
    clear hE
    (try clear a0 l0 l1 l2 l3 z0 z1)
    have a0 := B0.out.cell 0
    obtain ⟨l0, l1, l2, l3⟩ : _ ∧ _ ∧ _ ∧ _ := ⟨B1.out.cell 0, B1.out.cell 1, B1.out.cell 2, B1.out.cell 3⟩
    have z0 := B0.out.lt
    have z1 := B1.out.lt
    simp only [List.getElem?_toArray, List.getElem?_cons_zero, List.getElem?_cons_succ] at a0 l0 l1 l2 l3
    by_cases hlt : k < nl
    · obtain ⟨b, off, rfl, hb0, e0⟩ := IntsAt.at1 HI.out HNM.out hlt
      obtain ⟨j, hj, hjn⟩ := HNI.out k hlt
      rw [hj] at e0
      have HF1 := hid (HSF.out k hlt)
      have HL1 := hid (HSL.out k hlt)
      have HN1 := hid (HSN.out k hlt)
      rw [hj, Int.toNat_natCast] at HF1 HL1 HN1
      have HRW1 := hid (HRW.out j hjn)
      have HBM1 := hid (HBM.out j)
      have HBS1 := hid (HBS.out j)
      have HR1 := hid (HRS.out j)
      have HR2 := hid (HRM.out j)
      replace e0 := (E4.cell (p := ⟨b, _, none⟩) hb0).trans e0
      have q1 := Nat.lt_of_lt_of_le hb0 E4.size
      clear hj HRW HBM HBS HRS HRM HSF HSL HSN HNI
      generalize RS j = rs at *
      generalize RM j = rm at *
      go_wp2_with fail
      refine wp_region_held_drew (S := fun w' => (∀ b o, b < wr.heap.size → w'.cell? ⟨b, o, none⟩ = wr.cell? ⟨b, o, none⟩) ∧ wr.heap.size ≤ w'.heap.size ∧ Ext wr w') (by kernel_rfl) ?hS0 (fun hHeld => ?_)
      case hS0 => exact sK (Ext.drew (Ext.refl _))
      have X0 : Ext wr wr.drew := Ext.drew (Ext.refl wr)
      have EX := X0
      obtain ⟨X, hX⟩ : ∃ X, wr.drew = X := ⟨_, rfl⟩
      rw [hX] at EX hHeld ⊢
      clear hX X0
      refine wpAnyH_take (i := 0) (oi := _) (v := ?v0c) rfl (by kernel_rfl) (by kernel_rfl) (by kernel_rfl) (fun _ _ _ h => h) (Or.inl ⟨by rfl, ?y0c⟩) (by assumption) ?r0c
      case y0c => (intro w' hSw; (try dsimp only at hSw); go_simp; (try with_reducible rfl))
      try simp only [Act.put, List.getElem_toArray, List.getElem_cons_zero, List.getElem_cons_succ, List.setIfInBounds_toArray, List.set_cons_zero, List.set_cons_succ]
      refine wpAnyH_take (i := 1) (oi := _) (v := ?v1c) rfl (by kernel_rfl) (by kernel_rfl) (by kernel_rfl) (fun _ _ _ h => h) (Or.inl ⟨by rfl, ?y1c⟩) (by assumption) ?r1c
      case y1c => (intro w' hSw; (try dsimp only at hSw); go_simp; (try with_reducible rfl))
      try simp only [Act.put, List.getElem_toArray, List.getElem_cons_zero, List.getElem_cons_succ, List.setIfInBounds_toArray, List.set_cons_zero, List.set_cons_succ]
      refine wpAnyH_take (i := 2) (oi := _) (v := ?v2c) rfl (by kernel_rfl) (by kernel_rfl) (by kernel_rfl) (fun _ _ _ h => h) (Or.inl ⟨by rfl, ?y2c⟩) (by assumption) ?r2c
      case y2c => (intro w' hSw; (try dsimp only at hSw); go_simp; (try with_reducible rfl))
      try simp only [Act.put, List.getElem_toArray, List.getElem_cons_zero, List.getElem_cons_succ, List.setIfInBounds_toArray, List.set_cons_zero, List.set_cons_succ]
      refine wpAnyH_take (i := 3) (oi := _) (v := ?v3c) rfl (by kernel_rfl) (by kernel_rfl) (by kernel_rfl) (fun _ _ _ h => h) (Or.inl ⟨by rfl, ?y3c⟩) (by assumption) ?r3c
      case y3c => (intro w' hSw; (try dsimp only at hSw); go_simp; (try with_reducible rfl))
      try simp only [Act.put, List.getElem_toArray, List.getElem_cons_zero, List.getElem_cons_succ, List.setIfInBounds_toArray, List.set_cons_zero, List.set_cons_succ]
      refine wpAnyH_take (i := 4) (oi := _) (v := ?v4c) rfl (by kernel_rfl) (by kernel_rfl) (by kernel_rfl) (fun _ _ _ h => h) (Or.inl ⟨by rfl, ?y4c⟩) (by assumption) ?r4c
      case y4c => (intro w' hSw; (try dsimp only at hSw); go_simp; (try with_reducible rfl))
      try simp only [Act.put, List.getElem_toArray, List.getElem_cons_zero, List.getElem_cons_succ, List.setIfInBounds_toArray, List.set_cons_zero, List.set_cons_succ]
      refine wpAnyH_take (i := 5) (oi := _) (v := ?v5c) rfl (by kernel_rfl) (by kernel_rfl) (by kernel_rfl) (fun _ _ _ h => h) (Or.inl ⟨by rfl, ?y5c⟩) (by assumption) ?r5c
      case y5c => (intro w' hSw; (try dsimp only at hSw); go_simp; (try with_reducible rfl))
      try simp only [Act.put, List.getElem_toArray, List.getElem_cons_zero, List.getElem_cons_succ, List.setIfInBounds_toArray, List.set_cons_zero, List.set_cons_succ]
      refine wpAnyH_take (i := 6) (oi := _) (v := ?v6c) rfl (by kernel_rfl) (by kernel_rfl) (by kernel_rfl) (fun _ _ _ h => h) (Or.inl ⟨by rfl, ?y6c⟩) (by assumption) ?r6c
      case y6c => (intro w' hSw; (try dsimp only at hSw); go_simp; (try with_reducible rfl))
      try simp only [Act.put, List.getElem_toArray, List.getElem_cons_zero, List.getElem_cons_succ, List.setIfInBounds_toArray, List.set_cons_zero, List.set_cons_succ]
      refine wpAnyH_ready (rs := [7]) (by kernel_rfl) (by simp) ?_
      refine AllReadyH.cons (o := _) rfl (fun K hK => ?_) AllReadyH.nil
      go_simp
      refine Calls.mono (HRW1.out X (E.trans EX)) ?_
      rintro e X ⟨v, u, rfl, ho1, ho2, hEX⟩
      dsimp only
      obtain ⟨A7, c7, rfl, hc7, hf7, -⟩ := (ho1.form (by decide) (fun _ => rfl) false)
      obtain ⟨A8, c8, rfl, hc8, hf8, -⟩ := (ho2.form (by decide) (fun _ => rfl) false)
      rw [HR1.out, HR2.out]
      have HB7 := hid (flat_bos.1 hf7)
      have HB8 := hid (flat_bos.1 hf8)
      replace EX := EX.trans hEX
      clear hHeld hEX ho1 ho2 hf7 hf8 hc7 hc8
      refine hK.out _ _ (sK EX) (fun hHeld => ?_)
      clear hK K
      try simp only [Act.put, List.getElem_toArray, List.getElem_cons_zero, List.getElem_cons_succ, List.setIfInBounds_toArray, List.set_cons_zero, List.set_cons_succ]
      refine wpAnyH_take (i := 8) (oi := _) (v := ?v8d) rfl (by kernel_rfl) (by kernel_rfl) (by kernel_rfl) (fun _ _ _ h => h) (Or.inl ⟨by rfl, ?y8d⟩) (by assumption) ?r8d
      case y8d => (intro w' hSw; (try dsimp only at hSw); go_simp; (try with_reducible rfl))
      try simp only [Act.put, List.getElem_toArray, List.getElem_cons_zero, List.getElem_cons_succ, List.setIfInBounds_toArray, List.set_cons_zero, List.set_cons_succ]
      refine wpAnyH_take (i := 9) (oi := _) (v := ?v9d) rfl (by kernel_rfl) (by kernel_rfl) (by kernel_rfl) (fun _ _ _ h => h) (Or.inl ⟨by rfl, ?y9d⟩) (by assumption) ?r9d
      case y9d => (intro w' hSw; (try dsimp only at hSw); go_simp; (try with_reducible rfl))
      try simp only [Act.put, List.getElem_toArray, List.getElem_cons_zero, List.getElem_cons_succ, List.setIfInBounds_toArray, List.set_cons_zero, List.set_cons_succ]
      refine wpAnyH_take (i := 10) (oi := _) (v := ?v10d) rfl (by kernel_rfl) (by kernel_rfl) (by kernel_rfl) (fun _ _ _ h => h) (Or.inl ⟨by rfl, ?y10d⟩) (by assumption) ?r10d
      case y10d => (intro w' hSw; (try dsimp only at hSw); go_simp; (try with_reducible rfl))
      try simp only [Act.put, List.getElem_toArray, List.getElem_cons_zero, List.getElem_cons_succ, List.setIfInBounds_toArray, List.set_cons_zero, List.set_cons_succ]
      refine wpAnyH_take (i := 11) (oi := _) (v := ?v11d) rfl (by kernel_rfl) (by kernel_rfl) (by kernel_rfl) (fun _ _ _ h => h) (Or.inl ⟨by rfl, ?y11d⟩) (by assumption) ?r11d
      case y11d => (intro w' hSw; (try dsimp only at hSw); go_simp; (try with_reducible rfl))
      try simp only [Act.put, List.getElem_toArray, List.getElem_cons_zero, List.getElem_cons_succ, List.setIfInBounds_toArray, List.set_cons_zero, List.set_cons_succ]
      refine wpAnyH_take (i := 12) (oi := _) (v := ?v12d) rfl (by kernel_rfl) (by kernel_rfl) (by kernel_rfl) (fun _ _ _ h => h) (Or.inl ⟨by rfl, ?y12d⟩) (by assumption) ?r12d
      case y12d => (intro w' hSw; (try dsimp only at hSw); go_simp; (try with_reducible rfl))
      try simp only [Act.put, List.getElem_toArray, List.getElem_cons_zero, List.getElem_cons_succ, List.setIfInBounds_toArray, List.set_cons_zero, List.set_cons_succ]
      refine wpAnyH_done (by kernel_rfl) ?_ _
      have hE := EX
      replace E4 := E4.trans hE
      clear hHeld EX e0 q1
      replace E := E.trans hE
      replace B0 := hid (B0.out.ext hE)
      replace B1 := hid (B1.out.ext hE)
      clear hE
      (try clear a0 l0 l1 l2 l3 z0 z1)
      have a0 := B0.out.cell 0
      obtain ⟨l0, l1, l2, l3⟩ : _ ∧ _ ∧ _ ∧ _ := ⟨B1.out.cell 0, B1.out.cell 1, B1.out.cell 2, B1.out.cell 3⟩
      have z0 := B0.out.lt
      have z1 := B1.out.lt
      simp only [List.getElem?_toArray, List.getElem?_cons_zero, List.getElem?_cons_succ] at a0 l0 l1 l2 l3
      have HM1 := hid (HBM1.out X A8 c8 HB8.out)
      have HS1 := hid (HBS1.out X A7 c7 HB7.out)
      have HF2 := hid (HF1.out _ rfl)
      clear HBM1 HBS1 HRW1 HB7 HB8 HF1
      generalize begV rm ln = bm at *
      generalize begV rs ln = bs at *
      have HE := hid E
      have HE4 := hid E4
      generalize FK k = fk at *
      generalize LK k = lk at *
      generalize NK k = nk at *
      go_wp2_with fail
      refine (HM1.out).mono ?_
      rintro e w8 ⟨rfl, rfl⟩
      by_cases c1 : 0 ≤ bm
      · by_cases c2 : fk < 0
        · go_wp2_with fail
          refine (HS1.out).mono ?_
          rintro e w9 ⟨rfl, rfl⟩
          have HFE := hid (show FK (k + 1) = _ from by rw [HF2.out, if_pos ⟨c1, .inl c2⟩])
          clear HF2 HM1 HS1
          cases nk
          · by_cases c4 : bs < 0
            · have HNE := hid (show NK (k + 1) = true by rw [HN1.out, decide_eq_true c4]; rfl)
              clear HN1
              go_wp2
              all_goals go_roundw
              case rel => exact ⟨HE.out, HE4.out, B0, B1, k + 1, by omega, by go_num, by rw [HFE.out], by rw [HL1.out]; congr 1; omega, by (rw [HNE.out]; try (congr 1; first | (exact decide_eq_false (by omega)) | (exact decide_eq_true (by omega))))⟩
              case measure => simp [intOf]; omega
            · have HNE := hid (show NK (k + 1) = false by rw [HN1.out, decide_eq_false c4]; rfl)
              clear HN1
              go_wp2
              all_goals go_roundw
              case rel => exact ⟨HE.out, HE4.out, B0, B1, k + 1, by omega, by go_num, by rw [HFE.out], by rw [HL1.out]; congr 1; omega, by (rw [HNE.out]; try (congr 1; first | (exact decide_eq_false (by omega)) | (exact decide_eq_true (by omega))))⟩
              case measure => simp [intOf]; omega
          · have HNE := hid (show NK (k + 1) = true by rw [HN1.out]; rfl)
            clear HN1
            go_wp2
            all_goals go_roundw
            case rel => exact ⟨HE.out, HE4.out, B0, B1, k + 1, by omega, by go_num, by rw [HFE.out], by rw [HL1.out]; congr 1; omega, by (rw [HNE.out]; try (congr 1; first | (exact decide_eq_false (by omega)) | (exact decide_eq_true (by omega))))⟩
            case measure => simp [intOf]; omega
        · by_cases c3 : bm < fk
          · go_wp2_with fail
            refine (HS1.out).mono ?_
            rintro e w9 ⟨rfl, rfl⟩
            have HFE := hid (show FK (k + 1) = _ from by rw [HF2.out, if_pos ⟨c1, .inr c3⟩])
            clear HF2 HM1 HS1
            cases nk
            · by_cases c4 : bs < 0
              · have HNE := hid (show NK (k + 1) = true by rw [HN1.out, decide_eq_true c4]; rfl)
                clear HN1
                go_wp2
                all_goals go_roundw
                case rel => exact ⟨HE.out, HE4.out, B0, B1, k + 1, by omega, by go_num, by rw [HFE.out], by rw [HL1.out]; congr 1; omega, by (rw [HNE.out]; try (congr 1; first | (exact decide_eq_false (by omega)) | (exact decide_eq_true (by omega))))⟩
                case measure => simp [intOf]; omega
              · have HNE := hid (show NK (k + 1) = false by rw [HN1.out, decide_eq_false c4]; rfl)
                clear HN1
                go_wp2
                all_goals go_roundw
                case rel => exact ⟨HE.out, HE4.out, B0, B1, k + 1, by omega, by go_num, by rw [HFE.out], by rw [HL1.out]; congr 1; omega, by (rw [HNE.out]; try (congr 1; first | (exact decide_eq_false (by omega)) | (exact decide_eq_true (by omega))))⟩
                case measure => simp [intOf]; omega
            · have HNE := hid (show NK (k + 1) = true by rw [HN1.out]; rfl)
              clear HN1
              go_wp2
              all_goals go_roundw
              case rel => exact ⟨HE.out, HE4.out, B0, B1, k + 1, by omega, by go_num, by rw [HFE.out], by rw [HL1.out]; congr 1; omega, by (rw [HNE.out]; try (congr 1; first | (exact decide_eq_false (by omega)) | (exact decide_eq_true (by omega))))⟩
              case measure => simp [intOf]; omega
          · go_wp2_with fail
            refine (HS1.out).mono ?_
            rintro e w9 ⟨rfl, rfl⟩
            have HFE := hid (show FK (k + 1) = _ from by rw [HF2.out, if_neg (by omega)])
            clear HF2 HM1 HS1
            cases nk
            · by_cases c4 : bs < 0
              · have HNE := hid (show NK (k + 1) = true by rw [HN1.out, decide_eq_true c4]; rfl)
                clear HN1
                go_wp2
                all_goals go_roundw
                case rel => exact ⟨HE.out, HE4.out, B0, B1, k + 1, by omega, by go_num, by rw [HFE.out], by rw [HL1.out]; congr 1; omega, by (rw [HNE.out]; try (congr 1; first | (exact decide_eq_false (by omega)) | (exact decide_eq_true (by omega))))⟩
                case measure => simp [intOf]; omega
              · have HNE := hid (show NK (k + 1) = false by rw [HN1.out, decide_eq_false c4]; rfl)
                clear HN1
                go_wp2
                all_goals go_roundw
                case rel => exact ⟨HE.out, HE4.out, B0, B1, k + 1, by omega, by go_num, by rw [HFE.out], by rw [HL1.out]; congr 1; omega, by (rw [HNE.out]; try (congr 1; first | (exact decide_eq_false (by omega)) | (exact decide_eq_true (by omega))))⟩
                case measure => simp [intOf]; omega
            · have HNE := hid (show NK (k + 1) = true by rw [HN1.out]; rfl)
              clear HN1
              go_wp2
              all_goals go_roundw
              case rel => exact ⟨HE.out, HE4.out, B0, B1, k + 1, by omega, by go_num, by rw [HFE.out], by rw [HL1.out]; congr 1; omega, by (rw [HNE.out]; try (congr 1; first | (exact decide_eq_false (by omega)) | (exact decide_eq_true (by omega))))⟩
              case measure => simp [intOf]; omega
      · go_wp2_with fail
        refine (HS1.out).mono ?_
        rintro e w9 ⟨rfl, rfl⟩
        have HFE := hid (show FK (k + 1) = _ from by rw [HF2.out, if_neg (by omega)])
        clear HF2 HM1 HS1
        cases nk
        · by_cases c4 : bs < 0
          · have HNE := hid (show NK (k + 1) = true by rw [HN1.out, decide_eq_true c4]; rfl)
            clear HN1
            go_wp2
            all_goals go_roundw
            case rel => exact ⟨HE.out, HE4.out, B0, B1, k + 1, by omega, by go_num, by rw [HFE.out], by rw [HL1.out]; congr 1; omega, by (rw [HNE.out]; try (congr 1; first | (exact decide_eq_false (by omega)) | (exact decide_eq_true (by omega))))⟩
            case measure => simp [intOf]; omega
          · have HNE := hid (show NK (k + 1) = false by rw [HN1.out, decide_eq_false c4]; rfl)
            clear HN1
            go_wp2
            all_goals go_roundw
            case rel => exact ⟨HE.out, HE4.out, B0, B1, k + 1, by omega, by go_num, by rw [HFE.out], by rw [HL1.out]; congr 1; omega, by (rw [HNE.out]; try (congr 1; first | (exact decide_eq_false (by omega)) | (exact decide_eq_true (by omega))))⟩
            case measure => simp [intOf]; omega
        · have HNE := hid (show NK (k + 1) = true by rw [HN1.out]; rfl)
          clear HN1
          go_wp2
          all_goals go_roundw
          case rel => exact ⟨HE.out, HE4.out, B0, B1, k + 1, by omega, by go_num, by rw [HFE.out], by rw [HL1.out]; congr 1; omega, by (rw [HNE.out]; try (congr 1; first | (exact decide_eq_false (by omega)) | (exact decide_eq_true (by omega))))⟩
          case measure => simp [intOf]; omega
    · obtain rfl : k = nl := by omega
      clear HSF HSL HSN HNI HRW HBM HBS HRS HRM
      cases hnk : NK k
      · have hle : LE = LK k := by rw [← HLE.out, hnk]; rfl
        subst hle
        clear HLE HL0 HN0
        go_wp2
        exact bodyPost_ret (v := .tuple #[(.int .i64 (FK k)), (.int .i64 (LK k)), .int .i64 0]) (by simp [results, Tryz.results14, go_sem]) rfl ⟨rfl, E⟩
      · have hle : LE = -1 := by rw [← HLE.out, hnk]; rfl
        subst hle
        clear HLE HL0 HN0
        go_wp2
        exact bodyPost_ret (v := .tuple #[(.int .i64 (FK k)), .int .i64 (-1), .int .i64 0]) (by simp [results, Tryz.results14, go_sem]) rfl ⟨rfl, E⟩
end Go.Proofs.YtecamnhnjmldcaaGreatDoor
/- Keeps: what the specification and the program compute is the same (no walk). -/
set_option linter.unusedSimpArgs false
set_option linter.unusedVariables false
namespace Go.Proofs.YtecamnhnjmldcaaGreatDoor
open Go.RowKit
theorem spansM_congr {p q : Nat → Bool} : ∀ n, (∀ i, i < n → p i = q i) → spansM p n = spansM q n
  | 0, _ => rfl
  | n + 1, h => by
    rw [spansM_step, spansM_step, spansM_congr n (fun i hi => h i (by omega)), h n (by omega)]
theorem isOpen_one (kept : Lm → Hr → Bool) (l : Lm) (hs : List Hr) (n i : Nat) (hi : i < n) (hw : ∀ j, j < n → kept wideL (hs.getD j zeroHr) = true) : isOpenM kept [⟨0, 0, l⟩] hs i = kept (andL wideL l) (hs.getD i zeroHr) := by
  unfold isOpenM
  rw [List.range_succ, List.all_append]
  have h1 : (List.range i).all (fun h => kept (askM [⟨0, 0, l⟩] h i) (hs.getD h zeroHr)) = true := by
    refine List.all_eq_true.2 fun j hj => ?_
    have hj := List.mem_range.1 hj
    rw [ask_one, if_neg (by omega)]
    exact hw j (by omega)
  rw [h1, Bool.true_and]
  simp only [List.all_cons, List.all_nil, Bool.and_true]
  rw [ask_one, if_pos (Nat.le_refl _)]
theorem sur_wide {h : Hr} (hv : hrB h = true) : surB wideL h = true := by
  unfold hrB spB at hv
  unfold surB spB wideL
  simp only [Bool.and_eq_true, decide_eq_true_eq] at *
  omega
theorem sur_andE {l : Lm} {h : Hr} (hv : hrB h = true) : surB (andL wideL l) h = surB l h := by
  unfold hrB spB at hv
  unfold surB spB andL wideL
  rw [Bool.eq_iff_iff]
  simp only [Bool.and_eq_true, decide_eq_true_eq] at *
  omega
theorem may_andE {l : Lm} {h : Hr} (hv : hrB h = true) (hl : lmB l = true) : mayB (andL wideL l) h = mayB l h := by
  unfold hrB spB at hv
  unfold lmB inI spB at hl
  unfold mayB andL wideL
  rw [Bool.eq_iff_iff]
  simp only [Bool.and_eq_true, decide_eq_true_eq] at *
  omega
section
variable {f : List (List Hr)} {seen : List Sg} {l : Lm}
theorem all_mem {α : Type} {xs : List α} {p q : α → Bool} (h : ∀ x ∈ xs, p x = q x) : xs.all p = xs.all q := by
  rw [Bool.eq_iff_iff, List.all_eq_true, List.all_eq_true]
  exact ⟨fun k x hx => h x hx ▸ k x hx, fun k x hx => (h x hx).symm ▸ k x hx⟩
theorem any_mem {α : Type} {xs : List α} {p q : α → Bool} (h : ∀ x ∈ xs, p x = q x) : xs.any p = xs.any q := by
  rw [Bool.eq_iff_iff, List.any_eq_true, List.any_eq_true]
  exact ⟨fun ⟨x, hx, k⟩ => ⟨x, hx, h x hx ▸ k⟩, fun ⟨x, hx, k⟩ => ⟨x, hx, (h x hx).symm ▸ k⟩⟩
theorem rkS_eq : rkS f seen l = sureV f seen l := by
  unfold rkS sureV
  rw [rlimE_keeps]
  by_cases hz : keepsE f seen l = 0
  · rw [if_pos hz, if_pos hz]
    obtain ⟨hfc, hsg, hlm, _⟩ := keepsE_ok hz
    unfold sureM
    refine spansM_congr _ fun i hi => ?_
    rw [tabL_at _ _ _ hi, scs_numsM, List.all_map]
    unfold rkA
    rw [List.take_of_length_le (Nat.le_refl _)]
    refine all_mem fun x hx => ?_
    have hr := row_hr hfc hsg hx
    show _ = isOpenM surB [⟨0, 0, l⟩] (obsM seen (f.getD x.toNat [])) i
    rw [isOpen_one surB l _ (hoursN f) i hi (fun j hj => sur_wide (hr j hj)), sur_andE (hr i hi)]
    exact row_sure hfc hsg hx i hi
  · rw [if_neg hz, if_neg hz]
theorem rkM_eq : rkM f seen l = mayV f seen l := by
  unfold rkM mayV
  rw [rlimE_keeps]
  by_cases hz : keepsE f seen l = 0
  · rw [if_pos hz, if_pos hz]
    obtain ⟨hfc, hsg, hlm, _⟩ := keepsE_ok hz
    unfold mayM
    refine spansM_congr _ fun i hi => ?_
    rw [tabL_at _ _ _ hi, scs_numsM, List.any_map]
    unfold rkO
    rw [List.take_of_length_le (Nat.le_refl _)]
    refine any_mem fun x hx => ?_
    have hr := row_hr hfc hsg hx
    show _ = isOpenM mayB [⟨0, 0, l⟩] (obsM seen (f.getD x.toNat [])) i
    rw [isOpen_one mayB l _ (hoursN f) i hi (fun j hj => may_wide (hr j hj)), may_andE (hr i hi) hlm]
    exact row_may hfc hsg hlm hx i hi
  · rw [if_neg hz, if_neg hz]
end
end Go.Proofs.YtecamnhnjmldcaaGreatDoor
