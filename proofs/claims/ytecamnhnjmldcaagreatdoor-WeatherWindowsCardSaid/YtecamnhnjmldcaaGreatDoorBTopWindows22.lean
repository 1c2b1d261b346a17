/- What the statements' proofs share. -/
import Derived.Test.YtecamnhnjmldcaaGreatDoorB21
import Derived.Test.YtecamnhnjmldcaaGreatDoorTie
import Derived.Test.YtecamnhnjmldcaaGreatDoorCards
import Derived.ProofKit
import Derived.LaidMore
import Derived.OpenShut
import Derived.ChangeOld
import Derived.Below
import Derived.Stop.Joined
import Derived.Stop.LaidErr
import Derived.SevenTiedAt
import Derived.Test.YtecamnhnjmldcaaGreatDoorB17
import Derived.Test.YtecamnhnjmldcaaGreatDoorB19
import Derived.Test.YtecamnhnjmldcaaGreatDoorB20
set_option linter.unusedSimpArgs false
set_option linter.unusedVariables false
namespace Go.Proofs.YtecamnhnjmldcaaGreatDoor
open Go.RowKit
open Go.ChangeShapes Go.WideShapes Go.ChangeAt Go.Joins
theorem own : ownKnob Tryz.prog.godebug = none := by kernel_rfl
theorem laidOut : laidOutB Tryz.prog = true := by kernel_rfl
/-- The door's own heap meets the condition. -/
theorem door_met (os : Os) (args : Array Value) : laidMetH Tryz.prog laid1 ((World.doorLaid Tryz.prog 400 os).forCall (fun _ _ => 0) ⟨#[], args, []⟩).memory := by
  refine laidMetH_of_parts3 (fuel := 8) (laidMet_of_run' 8 (by kernel_rfl) (by kernel_rfl)) (by kernel_rfl) (by kernel_rfl)
end Go.Proofs.YtecamnhnjmldcaaGreatDoor
/- checkLimits of the specification. -/
set_option linter.unusedSimpArgs false
set_option linter.unusedVariables false
namespace Go.Proofs.YtecamnhnjmldcaaGreatDoor
open Go.RowKit
/-- What checkLimits of the specification says. -/
def rlimE (f : List (List Hr)) (seen : List Sg) (l : Lm) (told : Bool) : Int :=
  if seenE f seen = 0 then (if lmB l = true then (if told = true then (if numsM seen f = [] then 3 else 0) else 1) else 52) else seenE f seen
set_option maxHeartbeats 2000000 in
set_option maxRecDepth 100000 in
theorem rchkLim_any (f : List (List Hr)) (A : Option Addr) (n c : Nat) (seen : List Sg) (SA : Option Addr) (m sc : Nat) (l : Lm) (told : Bool) (w : World) (h : FIn w f A n seen SA m) :
    Calls Tryz.prog 45 #[.agg #[.slice A n c], .slice SA m sc, l.val, .bool told] w fun e w' => e = .returned (.int .i64 (rlimE f seen l told)) ∧ Ext w w' := by
  have HC := hid (fun (W : World) (hW : Ext w W) => rSeen_any f A n c seen SA m sc W (h.ext hW))
  have HL := hid (fun (W : World) => rLimits_any l W)
  have hR : rlimE f seen l told = if seenE f seen = 0 then (if lmB l = true then (if told = true then (if numsM seen f = [] then 3 else 0) else 1) else 52) else seenE f seen := rfl
  generalize lmB l = lb at *
  unfold Lm.val at *
  obtain ⟨wi, ra, tl, th⟩ := l
  dsimp only at HL ⊢
  have B0 := hid (show Blk _ _ _ _ from blk_old (blk_last w (.cells #[.slice A n c] 24)) (.cells #[.int .i64 wi, .int .i64 ra, .int .i64 tl, .int .i64 th] 29))
  have B1 := hid (show Blk _ _ _ _ from blk_last (w.alloc (.cells #[.slice A n c] 24)) (.cells #[.int .i64 wi, .int .i64 ra, .int .i64 tl, .int .i64 th] 29))
  rw [World.size_alloc] at B1
  have E : Ext w ((w.alloc (.cells #[.slice A n c] 24)).alloc (.cells #[.int .i64 wi, .int .i64 ra, .int .i64 tl, .int .i64 th] 29)) := by (repeat' (first | with_reducible assumption | with_reducible exact Ext.refl _ | with_reducible refine Ext.alloc ?_ _ | with_reducible refine Ext.set ?_ ?_ _ | with_reducible refine Ext.drew ?_ | with_reducible refine Ext.drewN ?_ _ | with_reducible refine Ext.trans ?_ (by assumption) | (dsimp only; omega)))
  by_cases hz : seenE f seen = 0
  case neg =>
    rw [if_neg hz] at hR
    rw [hR]
    clear h hR
    generalize seenE f seen = se at *
    have hsb : (se != 0) = true := by simp [hz]
    go_enter Tryz.func45, Tryz.ntmps45
    go_wp2_with fail
    refine (HC.out _ E).mono ?_
    rintro e w2 ⟨rfl, hE⟩
    replace E := E.trans hE
    replace B0 := hid (B0.out.ext hE)
    replace B1 := hid (B1.out.ext hE)
    clear hE
    (try clear a0 l0 l1 l2 l3 z0 z1)
    have a0 := B0.out.cell 0
    obtain ⟨l0, l1, l2, l3⟩ : _ ∧ _ ∧ _ ∧ _ := ⟨B1.out.cell 0, B1.out.cell 1, B1.out.cell 2, B1.out.cell 3⟩
    have z0 := B0.out.lt
    have z1 := B1.out.lt
    simp only [List.getElem?_toArray, List.getElem?_cons_zero, List.getElem?_cons_succ] at a0 l0 l1 l2 l3
    go_wp2
    go_ret
    exact ⟨rfl, E⟩
  have ok := seenE_ok hz
  have HP := hid (fun (W : World) (hW : Ext w W) => rpossible_any f A n c seen SA m sc W (h.ext hW) (fcE_ok ok.1) (sgE_ok ok.2))
  rw [hz] at HC
  rw [if_pos hz] at hR
  clear h ok hz
  cases lb
  case false =>
    rw [if_neg (by decide)] at hR
    rw [hR]
    go_enter Tryz.func45, Tryz.ntmps45
    go_wp2_with fail
    refine (HC.out _ E).mono ?_
    rintro e w2 ⟨rfl, hE⟩
    replace E := E.trans hE
    replace B0 := hid (B0.out.ext hE)
    replace B1 := hid (B1.out.ext hE)
    clear hE
    (try clear a0 l0 l1 l2 l3 z0 z1)
    have a0 := B0.out.cell 0
    obtain ⟨l0, l1, l2, l3⟩ : _ ∧ _ ∧ _ ∧ _ := ⟨B1.out.cell 0, B1.out.cell 1, B1.out.cell 2, B1.out.cell 3⟩
    have z0 := B0.out.lt
    have z1 := B1.out.lt
    simp only [List.getElem?_toArray, List.getElem?_cons_zero, List.getElem?_cons_succ] at a0 l0 l1 l2 l3
    go_wp2_with fail
    refine (HL.out _).mono ?_
    rintro e w3 ⟨rfl, hE⟩
    replace E := E.trans hE
    replace B0 := hid (B0.out.ext hE)
    replace B1 := hid (B1.out.ext hE)
    clear hE
    (try clear a0 l0 l1 l2 l3 z0 z1)
    have a0 := B0.out.cell 0
    obtain ⟨l0, l1, l2, l3⟩ : _ ∧ _ ∧ _ ∧ _ := ⟨B1.out.cell 0, B1.out.cell 1, B1.out.cell 2, B1.out.cell 3⟩
    have z0 := B0.out.lt
    have z1 := B1.out.lt
    simp only [List.getElem?_toArray, List.getElem?_cons_zero, List.getElem?_cons_succ] at a0 l0 l1 l2 l3
    go_wp2
    go_ret
    exact ⟨rfl, E⟩
  rw [if_pos rfl] at hR
  cases told
  case false =>
    rw [if_neg (by decide)] at hR
    rw [hR]
    go_enter Tryz.func45, Tryz.ntmps45
    go_wp2_with fail
    refine (HC.out _ E).mono ?_
    rintro e w2 ⟨rfl, hE⟩
    replace E := E.trans hE
    replace B0 := hid (B0.out.ext hE)
    replace B1 := hid (B1.out.ext hE)
    clear hE
    (try clear a0 l0 l1 l2 l3 z0 z1)
    have a0 := B0.out.cell 0
    obtain ⟨l0, l1, l2, l3⟩ : _ ∧ _ ∧ _ ∧ _ := ⟨B1.out.cell 0, B1.out.cell 1, B1.out.cell 2, B1.out.cell 3⟩
    have z0 := B0.out.lt
    have z1 := B1.out.lt
    simp only [List.getElem?_toArray, List.getElem?_cons_zero, List.getElem?_cons_succ] at a0 l0 l1 l2 l3
    go_wp2_with fail
    refine (HL.out _).mono ?_
    rintro e w3 ⟨rfl, hE⟩
    replace E := E.trans hE
    replace B0 := hid (B0.out.ext hE)
    replace B1 := hid (B1.out.ext hE)
    clear hE
    (try clear a0 l0 l1 l2 l3 z0 z1)
    have a0 := B0.out.cell 0
    obtain ⟨l0, l1, l2, l3⟩ : _ ∧ _ ∧ _ ∧ _ := ⟨B1.out.cell 0, B1.out.cell 1, B1.out.cell 2, B1.out.cell 3⟩
    have z0 := B0.out.lt
    have z1 := B1.out.lt
    simp only [List.getElem?_toArray, List.getElem?_cons_zero, List.getElem?_cons_succ] at a0 l0 l1 l2 l3
    go_wp2
    go_ret
    exact ⟨rfl, E⟩
  rw [if_pos rfl] at hR
  by_cases hne : numsM seen f = []
  · rw [if_pos hne] at hR
    rw [hR]
    rw [hne] at HP
    clear hR hne
    go_enter Tryz.func45, Tryz.ntmps45
    go_wp2_with fail
    refine (HC.out _ E).mono ?_
    rintro e w2 ⟨rfl, hE⟩
    replace E := E.trans hE
    replace B0 := hid (B0.out.ext hE)
    replace B1 := hid (B1.out.ext hE)
    clear hE
    (try clear a0 l0 l1 l2 l3 z0 z1)
    have a0 := B0.out.cell 0
    obtain ⟨l0, l1, l2, l3⟩ : _ ∧ _ ∧ _ ∧ _ := ⟨B1.out.cell 0, B1.out.cell 1, B1.out.cell 2, B1.out.cell 3⟩
    have z0 := B0.out.lt
    have z1 := B1.out.lt
    simp only [List.getElem?_toArray, List.getElem?_cons_zero, List.getElem?_cons_succ] at a0 l0 l1 l2 l3
    go_wp2_with fail
    refine (HL.out _).mono ?_
    rintro e w3 ⟨rfl, hE⟩
    replace E := E.trans hE
    replace B0 := hid (B0.out.ext hE)
    replace B1 := hid (B1.out.ext hE)
    clear hE
    (try clear a0 l0 l1 l2 l3 z0 z1)
    have a0 := B0.out.cell 0
    obtain ⟨l0, l1, l2, l3⟩ : _ ∧ _ ∧ _ ∧ _ := ⟨B1.out.cell 0, B1.out.cell 1, B1.out.cell 2, B1.out.cell 3⟩
    have z0 := B0.out.lt
    have z1 := B1.out.lt
    simp only [List.getElem?_toArray, List.getElem?_cons_zero, List.getElem?_cons_succ] at a0 l0 l1 l2 l3
    go_wp2_with fail
    refine (HP.out _ E).mono ?_
    rintro e w4 ⟨A1, c1, rfl, -, hE⟩
    simp only [List.length_nil]
    replace E := E.trans hE
    replace B0 := hid (B0.out.ext hE)
    replace B1 := hid (B1.out.ext hE)
    clear hE
    (try clear a0 l0 l1 l2 l3 z0 z1)
    have a0 := B0.out.cell 0
    obtain ⟨l0, l1, l2, l3⟩ : _ ∧ _ ∧ _ ∧ _ := ⟨B1.out.cell 0, B1.out.cell 1, B1.out.cell 2, B1.out.cell 3⟩
    have z0 := B0.out.lt
    have z1 := B1.out.lt
    simp only [List.getElem?_toArray, List.getElem?_cons_zero, List.getElem?_cons_succ] at a0 l0 l1 l2 l3
    go_wp2
    go_ret
    exact ⟨rfl, E⟩
  · rw [if_neg hne] at hR
    rw [hR]
    have hln : ¬ (numsM seen f).length = 0 := fun e => hne (List.length_eq_zero_iff.1 e)
    clear hR hne
    generalize numsM seen f = NM at *
    generalize NM.length = nl at *
    have hlb : (((nl : Nat) : Int) == 0) = false := beq_eq_false_iff_ne.2 (fun h => hln (by omega))
    go_enter Tryz.func45, Tryz.ntmps45
    go_wp2_with fail
    refine (HC.out _ E).mono ?_
    rintro e w2 ⟨rfl, hE⟩
    replace E := E.trans hE
    replace B0 := hid (B0.out.ext hE)
    replace B1 := hid (B1.out.ext hE)
    clear hE
    (try clear a0 l0 l1 l2 l3 z0 z1)
    have a0 := B0.out.cell 0
    obtain ⟨l0, l1, l2, l3⟩ : _ ∧ _ ∧ _ ∧ _ := ⟨B1.out.cell 0, B1.out.cell 1, B1.out.cell 2, B1.out.cell 3⟩
    have z0 := B0.out.lt
    have z1 := B1.out.lt
    simp only [List.getElem?_toArray, List.getElem?_cons_zero, List.getElem?_cons_succ] at a0 l0 l1 l2 l3
    go_wp2_with fail
    refine (HL.out _).mono ?_
    rintro e w3 ⟨rfl, hE⟩
    replace E := E.trans hE
    replace B0 := hid (B0.out.ext hE)
    replace B1 := hid (B1.out.ext hE)
    clear hE
    (try clear a0 l0 l1 l2 l3 z0 z1)
    have a0 := B0.out.cell 0
    obtain ⟨l0, l1, l2, l3⟩ : _ ∧ _ ∧ _ ∧ _ := ⟨B1.out.cell 0, B1.out.cell 1, B1.out.cell 2, B1.out.cell 3⟩
    have z0 := B0.out.lt
    have z1 := B1.out.lt
    simp only [List.getElem?_toArray, List.getElem?_cons_zero, List.getElem?_cons_succ] at a0 l0 l1 l2 l3
    go_wp2_with fail
    refine (HP.out _ E).mono ?_
    rintro e w4 ⟨A1, c1, rfl, -, hE⟩
    replace E := E.trans hE
    replace B0 := hid (B0.out.ext hE)
    replace B1 := hid (B1.out.ext hE)
    clear hE
    (try clear a0 l0 l1 l2 l3 z0 z1)
    have a0 := B0.out.cell 0
    obtain ⟨l0, l1, l2, l3⟩ : _ ∧ _ ∧ _ ∧ _ := ⟨B1.out.cell 0, B1.out.cell 1, B1.out.cell 2, B1.out.cell 3⟩
    have z0 := B0.out.lt
    have z1 := B1.out.lt
    simp only [List.getElem?_toArray, List.getElem?_cons_zero, List.getElem?_cons_succ] at a0 l0 l1 l2 l3
    go_wp2
    go_ret
    exact ⟨rfl, E⟩
end Go.Proofs.YtecamnhnjmldcaaGreatDoor
/- Gap of the specification. -/
set_option linter.unusedSimpArgs false
set_option linter.unusedVariables false
namespace Go.Proofs.YtecamnhnjmldcaaGreatDoor
open Go.RowKit
def rgK (f : List (List Hr)) (seen : List Sg) (l : Lm) (len : Nat) (k : Nat) : Nat := ((numsM seen f).take k).foldl (fun b i => max b (lackV (rowL (sureS l) (obsM seen (f.getD i.toNat [])) (hoursN f)) len)) 0
def rgS (f : List (List Hr)) (seen : List Sg) (l : Lm) (len : Int) : Int := if rlimE f seen l (inI len 1 48) = 0 then ((rgK f seen l len.toNat (numsM seen f).length : Nat) : Int) else (0 : Int)
theorem rgK_step (f : List (List Hr)) (seen : List Sg) (l : Lm) (len k : Nat) (h : k < (numsM seen f).length) : rgK f seen l len (k + 1) = max (rgK f seen l len k) (lackV (rowL (sureS l) (obsM seen (f.getD ((numsM seen f).getD k 0).toNat [])) (hoursN f)) len) := by
  unfold rgK
  rw [List.take_succ_eq_append_getElem h, List.foldl_append]
  simp [List.getD, List.getElem?_eq_getElem h]
theorem nums_in (seen : List Sg) (f : List (List Hr)) (i : Int) (h : i ∈ numsM seen f) : ∃ j : Nat, i = (j : Int) ∧ j < f.length := by
  unfold numsM at h
  simp only [List.mem_map, List.mem_filter, List.mem_range] at h
  obtain ⟨j, hj, rfl⟩ := h
  exact ⟨j, rfl, hj.1⟩
theorem rlimE_ok {f : List (List Hr)} {seen : List Sg} {l : Lm} {t : Bool} (h : rlimE f seen l t = 0) : seenE f seen = 0 ∧ lmB l = true ∧ t = true := by
  unfold rlimE at h
  by_cases a : seenE f seen = 0
  · rw [if_pos a] at h
    cases hb : lmB l
    · rw [hb] at h; simp at h
    · cases t
      · rw [hb] at h; simp at h
      · exact ⟨a, rfl, rfl⟩
  · rw [if_neg a] at h; exact absurd h a
set_option maxHeartbeats 4000000 in
set_option maxRecDepth 100000 in
theorem rGap_any (f : List (List Hr)) (A : Option Addr) (n c : Nat) (seen : List Sg) (SA : Option Addr) (m sc : Nat) (l : Lm) (len : Int) (w : World) (h : FIn w f A n seen SA m) :
    Calls Tryz.prog 16 #[.agg #[.slice A n c], .slice SA m sc, l.val, .int .i64 len] w fun e w' => e = .returned (.tuple #[.int .i64 (rgS f seen l len), .int .i64 (rlimE f seen l (inI len 1 48))]) ∧ Ext w w' := by
  have HW := hid (fun (W : World) => (rWithin_any len 1 48 W).mono fun e w' hw => show e = .returned (.bool (inI len 1 48)) ∧ Ext W w' from ⟨hw.1, by rw [hw.2]; exact Ext.refl _⟩)
  have HC := hid (fun (W : World) (hW : Ext w W) => rchkLim_any f A n c seen SA m sc l (inI len 1 48) W (h.ext hW))
  have hG : rgS f seen l len = if rlimE f seen l (inI len 1 48) = 0 then ((rgK f seen l len.toNat (numsM seen f).length : Nat) : Int) else (0 : Int) := rfl
  by_cases hz : rlimE f seen l (inI len 1 48) = 0
  case neg =>
    rw [if_neg hz] at hG
    rw [hG]
    clear h hG
    generalize rlimE f seen l (inI len 1 48) = se at *
    have hsb : (se != 0) = true := by simp [hz]
    generalize inI len 1 48 = il at *
    unfold Lm.val at *
    obtain ⟨wi, ra, tl, th⟩ := l
    dsimp only at HC ⊢
    have B0 := hid (show Blk _ _ _ _ from blk_old (blk_last w (.cells #[.slice A n c] 24)) (.cells #[.int .i64 wi, .int .i64 ra, .int .i64 tl, .int .i64 th] 29))
    have B1 := hid (show Blk _ _ _ _ from blk_last (w.alloc (.cells #[.slice A n c] 24)) (.cells #[.int .i64 wi, .int .i64 ra, .int .i64 tl, .int .i64 th] 29))
    rw [World.size_alloc] at B1
    have E : Ext w ((w.alloc (.cells #[.slice A n c] 24)).alloc (.cells #[.int .i64 wi, .int .i64 ra, .int .i64 tl, .int .i64 th] 29)) := by (repeat' (first | with_reducible assumption | with_reducible exact Ext.refl _ | with_reducible refine Ext.alloc ?_ _ | with_reducible refine Ext.set ?_ ?_ _ | with_reducible refine Ext.drew ?_ | with_reducible refine Ext.drewN ?_ _ | with_reducible refine Ext.trans ?_ (by assumption) | (dsimp only; omega)))
    go_enter Tryz.func16, Tryz.ntmps16
    go_wp2_with fail
    refine wp_abs (fun X => Blk X w.heap.size 24 #[.slice A n c] ∧ Blk X (w.heap.size + 1) 29 #[.int .i64 wi, .int .i64 ra, .int .i64 tl, .int .i64 th] ∧ Ext w X) ⟨B0.out, B1.out, E⟩ ?_
    clear B0 B1 E
    rintro U ⟨b0, b1, hE⟩
    have B0 := hid b0
    have B1 := hid b1
    have E := hE
    clear b0 b1 hE
    have hE := Ext.refl U
    replace E := E.trans hE
    replace B0 := hid (B0.out.ext hE)
    replace B1 := hid (B1.out.ext hE)
    clear hE
    (try clear a0 l0 l1 l2 l3 z0 z1)
    have a0 := B0.out.cell 0
    obtain ⟨l0, l1, l2, l3⟩ : _ ∧ _ ∧ _ ∧ _ := ⟨B1.out.cell 0, B1.out.cell 1, B1.out.cell 2, B1.out.cell 3⟩
    have z0 := B0.out.lt
    have z1 := B1.out.lt
    simp only [List.getElem?_toArray, List.getElem?_cons_zero, List.getElem?_cons_succ] at a0 l0 l1 l2 l3
    refine wp_region_held_drew (S := fun w' => (∀ b o, b < U.heap.size → w'.cell? ⟨b, o, none⟩ = U.cell? ⟨b, o, none⟩) ∧ U.heap.size ≤ w'.heap.size ∧ Ext U w') (by kernel_rfl) ?hS0 (fun hHeld => ?_)
    case hS0 => exact sK (Ext.drew (Ext.refl _))
    have X0 : Ext U U.drew := Ext.drew (Ext.refl U)
    have EX := X0
    obtain ⟨X, hX⟩ : ∃ X, U.drew = X := ⟨_, rfl⟩
    rw [hX] at EX hHeld ⊢
    clear hX X0
    refine wpAnyH_take (i := 0) (oi := _) (v := ?v0ax) rfl (by kernel_rfl) (by kernel_rfl) (by kernel_rfl) (fun _ _ _ h => h) (Or.inl ⟨by rfl, ?y0ax⟩) (by assumption) ?r0ax
    case y0ax => (intro w' hSw; (try dsimp only at hSw); go_simp; (try with_reducible rfl))
    try simp only [Act.put, List.getElem_toArray, List.getElem_cons_zero, List.getElem_cons_succ, List.setIfInBounds_toArray, List.set_cons_zero, List.set_cons_succ]
    refine wpAnyH_take (i := 1) (oi := _) (v := ?v1ax) rfl (by kernel_rfl) (by kernel_rfl) (by kernel_rfl) (fun _ _ _ h => h) (Or.inl ⟨by rfl, ?y1ax⟩) (by assumption) ?r1ax
    case y1ax => (intro w' hSw; (try dsimp only at hSw); go_simp; (try with_reducible rfl))
    try simp only [Act.put, List.getElem_toArray, List.getElem_cons_zero, List.getElem_cons_succ, List.setIfInBounds_toArray, List.set_cons_zero, List.set_cons_succ]
    refine wpAnyH_take (i := 2) (oi := _) (v := ?v2ax) rfl (by kernel_rfl) (by kernel_rfl) (by kernel_rfl) (fun _ _ _ h => h) (Or.inl ⟨by rfl, ?y2ax⟩) (by assumption) ?r2ax
    case y2ax => (intro w' hSw; (try dsimp only at hSw); go_simp; (try with_reducible rfl))
    try simp only [Act.put, List.getElem_toArray, List.getElem_cons_zero, List.getElem_cons_succ, List.setIfInBounds_toArray, List.set_cons_zero, List.set_cons_succ]
    refine wpAnyH_take (i := 3) (oi := _) (v := ?v3ax) rfl (by kernel_rfl) (by kernel_rfl) (by kernel_rfl) (fun _ _ _ h => h) (Or.inl ⟨by rfl, ?y3ax⟩) (by assumption) ?r3ax
    case y3ax => (intro w' hSw; (try dsimp only at hSw); go_simp; (try with_reducible rfl))
    try simp only [Act.put, List.getElem_toArray, List.getElem_cons_zero, List.getElem_cons_succ, List.setIfInBounds_toArray, List.set_cons_zero, List.set_cons_succ]
    refine wpAnyH_ready (rs := [4]) (by kernel_rfl) (by simp) ?_
    refine AllReadyH.cons (o := _) rfl (fun K hK => ?_) AllReadyH.nil
    go_simp
    refine Calls.mono (HW.out _) ?_
    rintro e X ⟨rfl, hEX⟩
    dsimp only
    replace EX := EX.trans hEX
    (try replace OB := hid (OB.out.ext hEX))
    (try replace IS := hid (IS.out.ext hEX))
    clear hHeld hEX
    refine hK.out _ _ (sK EX) (fun hHeld => ?_)
    clear hK K
    try simp only [Act.put, List.getElem_toArray, List.getElem_cons_zero, List.getElem_cons_succ, List.setIfInBounds_toArray, List.set_cons_zero, List.set_cons_succ]
    refine wpAnyH_ready (rs := [5]) (by kernel_rfl) (by simp) ?_
    refine AllReadyH.cons (o := _) rfl (fun K hK => ?_) AllReadyH.nil
    go_simp
    refine Calls.mono (HC.out _ (E.trans EX)) ?_
    rintro e X ⟨rfl, hEX⟩
    dsimp only
    replace EX := EX.trans hEX
    (try replace OB := hid (OB.out.ext hEX))
    (try replace IS := hid (IS.out.ext hEX))
    clear hHeld hEX
    refine hK.out _ _ (sK EX) (fun hHeld => ?_)
    clear hK K
    try simp only [Act.put, List.getElem_toArray, List.getElem_cons_zero, List.getElem_cons_succ, List.setIfInBounds_toArray, List.set_cons_zero, List.set_cons_succ]
    refine wpAnyH_take (i := 6) (oi := _) (v := ?v6bx) rfl (by kernel_rfl) (by kernel_rfl) (by kernel_rfl) (fun _ _ _ h => h) (Or.inl ⟨by rfl, ?y6bx⟩) (by assumption) ?r6bx
    case y6bx => (intro w' hSw; (try dsimp only at hSw); go_simp; (try with_reducible rfl))
    try simp only [Act.put, List.getElem_toArray, List.getElem_cons_zero, List.getElem_cons_succ, List.setIfInBounds_toArray, List.set_cons_zero, List.set_cons_succ]
    refine wpAnyH_done (by kernel_rfl) ?_ _
    have hE := EX
    clear hHeld EX HW HC
    replace E := E.trans hE
    replace B0 := hid (B0.out.ext hE)
    replace B1 := hid (B1.out.ext hE)
    clear hE
    (try clear a0 l0 l1 l2 l3 z0 z1)
    have a0 := B0.out.cell 0
    obtain ⟨l0, l1, l2, l3⟩ : _ ∧ _ ∧ _ ∧ _ := ⟨B1.out.cell 0, B1.out.cell 1, B1.out.cell 2, B1.out.cell 3⟩
    have z0 := B0.out.lt
    have z1 := B1.out.lt
    simp only [List.getElem?_toArray, List.getElem?_cons_zero, List.getElem?_cons_succ] at a0 l0 l1 l2 l3
    go_wp2
    go_ret2
    exact ⟨rfl, E⟩
  rw [if_pos hz] at hG
  rw [hG, hz]
  rw [hz] at HC
  obtain ⟨hse, hlm, hin⟩ := rlimE_ok hz
  have ok := seenE_ok hse
  have hfc := fcE_ok ok.1
  have hsg := sgE_ok ok.2
  obtain ⟨ln, rfl⟩ : ∃ ln : Nat, len = ln := ⟨len.toNat, by unfold inI at hin; simp only [Bool.and_eq_true, decide_eq_true_eq] at hin; omega⟩
  have g1 : 1 ≤ ln := by unfold inI at hin; simp only [Bool.and_eq_true, decide_eq_true_eq] at hin; omega
  have g2 : ln ≤ 1000 := by unfold inI at hin; simp only [Bool.and_eq_true, decide_eq_true_eq] at hin; omega
  have HP := hid (fun (W : World) (hW : Ext w W) => rpossible_any f A n c seen SA m sc W (h.ext hW) hfc hsg)
  have HRW := hid (fun (sn : Nat) (hsn : sn < n) (W : World) (hW : Ext w W) => rrow_any f A n c seen SA m sc sn l W (h.ext hW) hfc hsg hsn)
  have hNN := h.hours
  have HLK := hid (fun (sn : Nat) (W : World) (A2 : Option Addr) (c2 : Nat) (hc : hoursN f ≤ c2) (hx : BosAt W A2 (rowL (sureS l) (obsM seen (f.getD sn [])) (hoursN f))) => lacks_any (rowL (sureS l) (obsM seen (f.getD sn [])) (hoursN f)) A2 (hoursN f) c2 (rowL_len _ _ _) hc hNN ln g1 g2 W hx)
  have HST := hid (fun k hk => rgK_step f seen l ln k hk)
  have HNI := hid (fun k (hk : k < (numsM seen f).length) => show ∃ j : Nat, (numsM seen f).getD k 0 = (j : Int) ∧ j < n from by
    obtain ⟨j, h1, h2⟩ := nums_in seen f _ (mem_at (numsM seen f) 0 k hk)
    exact ⟨j, h1, by rw [← h.hn]; exact h2⟩)
  have HRL := hid (fun sn => rowL_len (sureS l) (obsM seen (f.getD sn [])) (hoursN f))
  have HG0 := hid (show rgK f seen l ln 0 = 0 from rfl)
  have hnl : (numsM seen f).length ≤ 1000 := by rw [numsM_scs]; have := scsM_le seen f; have := h.hn; have := h.hm; omega
  rw [Int.toNat_natCast]
  generalize inI (ln : Int) 1 48 = il at *
  clear h hG hz hse hlm hin ok hfc hsg
  generalize rgK f seen l ln = GK at *
  generalize numsM seen f = NM at *
  generalize hRS : (fun sn => rowL (sureS l) (obsM seen (f.getD sn [])) (hoursN f)) = RS
  have hRe : ∀ sn, rowL (sureS l) (obsM seen (f.getD sn [])) (hoursN f) = RS sn := fun sn => by rw [← hRS]
  simp only [hRe] at HRW HLK HST HRL
  clear hRS hRe
  generalize hoursN f = N at *
  have HNL := hid (show NM.length = NM.length from rfl)
  obtain ⟨nl, hnl2⟩ : ∃ nl, NM.length = nl := ⟨_, rfl⟩
  rw [hnl2] at HP hnl HNI HST ⊢
  have HNM := hid hnl2
  clear hnl2 HNL
  unfold Lm.val at *
  obtain ⟨wi, ra, tl, th⟩ := l
  dsimp only at HC HRW ⊢
  have B0 := hid (show Blk _ _ _ _ from blk_old (blk_last w (.cells #[.slice A n c] 24)) (.cells #[.int .i64 wi, .int .i64 ra, .int .i64 tl, .int .i64 th] 29))
  have B1 := hid (show Blk _ _ _ _ from blk_last (w.alloc (.cells #[.slice A n c] 24)) (.cells #[.int .i64 wi, .int .i64 ra, .int .i64 tl, .int .i64 th] 29))
  rw [World.size_alloc] at B1
  have E : Ext w ((w.alloc (.cells #[.slice A n c] 24)).alloc (.cells #[.int .i64 wi, .int .i64 ra, .int .i64 tl, .int .i64 th] 29)) := by (repeat' (first | with_reducible assumption | with_reducible exact Ext.refl _ | with_reducible refine Ext.alloc ?_ _ | with_reducible refine Ext.set ?_ ?_ _ | with_reducible refine Ext.drew ?_ | with_reducible refine Ext.drewN ?_ _ | with_reducible refine Ext.trans ?_ (by assumption) | (dsimp only; omega)))
  go_enter Tryz.func16, Tryz.ntmps16
  go_wp2_with fail
  refine wp_abs (fun X => Blk X w.heap.size 24 #[.slice A n c] ∧ Blk X (w.heap.size + 1) 29 #[.int .i64 wi, .int .i64 ra, .int .i64 tl, .int .i64 th] ∧ Ext w X) ⟨B0.out, B1.out, E⟩ ?_
  clear B0 B1 E
  rintro U ⟨b0, b1, hE⟩
  have B0 := hid b0
  have B1 := hid b1
  have E := hE
  clear b0 b1 hE
  have hE := Ext.refl U
  replace E := E.trans hE
  replace B0 := hid (B0.out.ext hE)
  replace B1 := hid (B1.out.ext hE)
  clear hE
  (try clear a0 l0 l1 l2 l3 z0 z1)
  have a0 := B0.out.cell 0
  obtain ⟨l0, l1, l2, l3⟩ : _ ∧ _ ∧ _ ∧ _ := ⟨B1.out.cell 0, B1.out.cell 1, B1.out.cell 2, B1.out.cell 3⟩
  have z0 := B0.out.lt
  have z1 := B1.out.lt
  simp only [List.getElem?_toArray, List.getElem?_cons_zero, List.getElem?_cons_succ] at a0 l0 l1 l2 l3
  refine wp_region_held_drew (S := fun w' => (∀ b o, b < U.heap.size → w'.cell? ⟨b, o, none⟩ = U.cell? ⟨b, o, none⟩) ∧ U.heap.size ≤ w'.heap.size ∧ Ext U w') (by kernel_rfl) ?hS0 (fun hHeld => ?_)
  case hS0 => exact sK (Ext.drew (Ext.refl _))
  have X0 : Ext U U.drew := Ext.drew (Ext.refl U)
  have EX := X0
  obtain ⟨X, hX⟩ : ∃ X, U.drew = X := ⟨_, rfl⟩
  rw [hX] at EX hHeld ⊢
  clear hX X0
  refine wpAnyH_take (i := 0) (oi := _) (v := ?v0ay) rfl (by kernel_rfl) (by kernel_rfl) (by kernel_rfl) (fun _ _ _ h => h) (Or.inl ⟨by rfl, ?y0ay⟩) (by assumption) ?r0ay
  case y0ay => (intro w' hSw; (try dsimp only at hSw); go_simp; (try with_reducible rfl))
  try simp only [Act.put, List.getElem_toArray, List.getElem_cons_zero, List.getElem_cons_succ, List.setIfInBounds_toArray, List.set_cons_zero, List.set_cons_succ]
  refine wpAnyH_take (i := 1) (oi := _) (v := ?v1ay) rfl (by kernel_rfl) (by kernel_rfl) (by kernel_rfl) (fun _ _ _ h => h) (Or.inl ⟨by rfl, ?y1ay⟩) (by assumption) ?r1ay
  case y1ay => (intro w' hSw; (try dsimp only at hSw); go_simp; (try with_reducible rfl))
  try simp only [Act.put, List.getElem_toArray, List.getElem_cons_zero, List.getElem_cons_succ, List.setIfInBounds_toArray, List.set_cons_zero, List.set_cons_succ]
  refine wpAnyH_take (i := 2) (oi := _) (v := ?v2ay) rfl (by kernel_rfl) (by kernel_rfl) (by kernel_rfl) (fun _ _ _ h => h) (Or.inl ⟨by rfl, ?y2ay⟩) (by assumption) ?r2ay
  case y2ay => (intro w' hSw; (try dsimp only at hSw); go_simp; (try with_reducible rfl))
  try simp only [Act.put, List.getElem_toArray, List.getElem_cons_zero, List.getElem_cons_succ, List.setIfInBounds_toArray, List.set_cons_zero, List.set_cons_succ]
  refine wpAnyH_take (i := 3) (oi := _) (v := ?v3ay) rfl (by kernel_rfl) (by kernel_rfl) (by kernel_rfl) (fun _ _ _ h => h) (Or.inl ⟨by rfl, ?y3ay⟩) (by assumption) ?r3ay
  case y3ay => (intro w' hSw; (try dsimp only at hSw); go_simp; (try with_reducible rfl))
  try simp only [Act.put, List.getElem_toArray, List.getElem_cons_zero, List.getElem_cons_succ, List.setIfInBounds_toArray, List.set_cons_zero, List.set_cons_succ]
  refine wpAnyH_ready (rs := [4]) (by kernel_rfl) (by simp) ?_
  refine AllReadyH.cons (o := _) rfl (fun K hK => ?_) AllReadyH.nil
  go_simp
  refine Calls.mono (HW.out _) ?_
  rintro e X ⟨rfl, hEX⟩
  dsimp only
  replace EX := EX.trans hEX
  (try replace OB := hid (OB.out.ext hEX))
  (try replace IS := hid (IS.out.ext hEX))
  clear hHeld hEX
  refine hK.out _ _ (sK EX) (fun hHeld => ?_)
  clear hK K
  try simp only [Act.put, List.getElem_toArray, List.getElem_cons_zero, List.getElem_cons_succ, List.setIfInBounds_toArray, List.set_cons_zero, List.set_cons_succ]
  refine wpAnyH_ready (rs := [5]) (by kernel_rfl) (by simp) ?_
  refine AllReadyH.cons (o := _) rfl (fun K hK => ?_) AllReadyH.nil
  go_simp
  refine Calls.mono (HC.out _ (E.trans EX)) ?_
  rintro e X ⟨rfl, hEX⟩
  dsimp only
  replace EX := EX.trans hEX
  (try replace OB := hid (OB.out.ext hEX))
  (try replace IS := hid (IS.out.ext hEX))
  clear hHeld hEX
  refine hK.out _ _ (sK EX) (fun hHeld => ?_)
  clear hK K
  try simp only [Act.put, List.getElem_toArray, List.getElem_cons_zero, List.getElem_cons_succ, List.setIfInBounds_toArray, List.set_cons_zero, List.set_cons_succ]
  refine wpAnyH_take (i := 6) (oi := _) (v := ?v6by) rfl (by kernel_rfl) (by kernel_rfl) (by kernel_rfl) (fun _ _ _ h => h) (Or.inl ⟨by rfl, ?y6by⟩) (by assumption) ?r6by
  case y6by => (intro w' hSw; (try dsimp only at hSw); go_simp; (try with_reducible rfl))
  try simp only [Act.put, List.getElem_toArray, List.getElem_cons_zero, List.getElem_cons_succ, List.setIfInBounds_toArray, List.set_cons_zero, List.set_cons_succ]
  refine wpAnyH_done (by kernel_rfl) ?_ _
  have hE := EX
  clear hHeld EX HW HC
  replace E := E.trans hE
  replace B0 := hid (B0.out.ext hE)
  replace B1 := hid (B1.out.ext hE)
  clear hE
  (try clear a0 l0 l1 l2 l3 z0 z1)
  have a0 := B0.out.cell 0
  obtain ⟨l0, l1, l2, l3⟩ : _ ∧ _ ∧ _ ∧ _ := ⟨B1.out.cell 0, B1.out.cell 1, B1.out.cell 2, B1.out.cell 3⟩
  have z0 := B0.out.lt
  have z1 := B1.out.lt
  simp only [List.getElem?_toArray, List.getElem?_cons_zero, List.getElem?_cons_succ] at a0 l0 l1 l2 l3
  go_wp2_with fail
  refine (HP.out _ E).mono ?_
  rintro e w4 ⟨A1, c1, rfl, ho, hE⟩
  replace E := E.trans hE
  replace B0 := hid (B0.out.ext hE)
  replace B1 := hid (B1.out.ext hE)
  clear hE
  (try clear a0 l0 l1 l2 l3 z0 z1)
  have a0 := B0.out.cell 0
  obtain ⟨l0, l1, l2, l3⟩ : _ ∧ _ ∧ _ ∧ _ := ⟨B1.out.cell 0, B1.out.cell 1, B1.out.cell 2, B1.out.cell 3⟩
  have z0 := B0.out.lt
  have z1 := B1.out.lt
  simp only [List.getElem?_toArray, List.getElem?_cons_zero, List.getElem?_cons_succ] at a0 l0 l1 l2 l3
  obtain ⟨A3, c3, e3, -, hfi, -⟩ := (ho.form (by decide) (fun _ => rfl) 0)
  injection e3 with e3
  subst e3
  have HI := hid (flat_ints.1 hfi)
  clear HP ho hfi
  have E4 : Ext w4 w4 := Ext.refl _
  go_wp2
  go_loopw [11, 13] (fun g i wr => Ext w wr ∧ Ext w4 wr ∧ Hid (Blk wr w.heap.size 24 #[.slice A n c]) ∧ Hid (Blk wr (w.heap.size + 1) 29 #[.int .i64 wi, .int .i64 ra, .int .i64 tl, .int .i64 th]) ∧ ∃ k : Nat, k ≤ nl ∧ i = .int .i64 k ∧ g = .int .i64 (GK k : Nat)) (fun _ i _ => nl - (intOf i).toNat)
  case atStart => exact ⟨E, E4, B0, B1, 0, Nat.zero_le _, rfl, by rw [HG0.out]; rfl⟩
  case round =>
    clear E E4 B0 B1 a0 l0 l1 l2 l3 z0 z1
    obtain ⟨E, E4, B0, B1, k, hk, rfl, rfl⟩ := hrel
    have hE := Ext.refl wr
    replace E := E.trans hE
    replace B0 := hid (B0.out.ext hE)
    replace B1 := hid (B1.out.ext hE)
    clear hE
    (try clear a0 l0 l1 l2 l3 z0 z1)
    have a0 := B0.out.cell 0
    obtain ⟨l0, l1, l2, l3⟩ : _ ∧ _ ∧ _ ∧ _ := ⟨B1.out.cell 0, B1.out.cell 1, B1.out.cell 2, B1.out.cell 3⟩
    have z0 := B0.out.lt
    have z1 := B1.out.lt
    simp only [List.getElem?_toArray, List.getElem?_cons_zero, List.getElem?_cons_succ] at a0 l0 l1 l2 l3
    by_cases hlt : k < nl
    · obtain ⟨b, off, rfl, hb0, e0⟩ := IntsAt.at1 HI.out HNM.out hlt
      obtain ⟨j, hj, hjn⟩ := HNI.out k hlt
      rw [hj] at e0
      have HS1 := hid (HST.out k hlt)
      rw [hj, Int.toNat_natCast] at HS1
      have HRW1 := hid (HRW.out j hjn)
      have HLK1 := hid (HLK.out j)
      have HRL1 := hid (HRL.out j)
      replace e0 := (E4.cell (p := ⟨b, _, none⟩) hb0).trans e0
      have q1 := Nat.lt_of_lt_of_le hb0 E4.size
      clear hj HRW HLK HRL HST HNI
      generalize RS j = rs at *
      go_wp2_with fail
      refine wp_region_held_drew (S := fun w' => (∀ b o, b < wr.heap.size → w'.cell? ⟨b, o, none⟩ = wr.cell? ⟨b, o, none⟩) ∧ wr.heap.size ≤ w'.heap.size ∧ Ext wr w') (by kernel_rfl) ?hS0 (fun hHeld => ?_)
      case hS0 => exact sK (Ext.drew (Ext.refl _))
      have X0 : Ext wr wr.drew := Ext.drew (Ext.refl wr)
      have EX := X0
      obtain ⟨X, hX⟩ : ∃ X, wr.drew = X := ⟨_, rfl⟩
      rw [hX] at EX hHeld ⊢
      clear hX X0
      refine wpAnyH_take (i := 0) (oi := _) (v := ?v0c) rfl (by kernel_rfl) (by kernel_rfl) (by kernel_rfl) (fun _ _ _ h => h) (Or.inl ⟨by rfl, ?y0c⟩) (by assumption) ?r0c
      case y0c => (intro w' hSw; (try dsimp only at hSw); go_simp; (try with_reducible rfl))
      try simp only [Act.put, List.getElem_toArray, List.getElem_cons_zero, List.getElem_cons_succ, List.setIfInBounds_toArray, List.set_cons_zero, List.set_cons_succ]
      refine wpAnyH_take (i := 1) (oi := _) (v := ?v1c) rfl (by kernel_rfl) (by kernel_rfl) (by kernel_rfl) (fun _ _ _ h => h) (Or.inl ⟨by rfl, ?y1c⟩) (by assumption) ?r1c
      case y1c => (intro w' hSw; (try dsimp only at hSw); go_simp; (try with_reducible rfl))
      try simp only [Act.put, List.getElem_toArray, List.getElem_cons_zero, List.getElem_cons_succ, List.setIfInBounds_toArray, List.set_cons_zero, List.set_cons_succ]
      refine wpAnyH_take (i := 2) (oi := _) (v := ?v2c) rfl (by kernel_rfl) (by kernel_rfl) (by kernel_rfl) (fun _ _ _ h => h) (Or.inl ⟨by rfl, ?y2c⟩) (by assumption) ?r2c
      case y2c => (intro w' hSw; (try dsimp only at hSw); go_simp; (try with_reducible rfl))
      try simp only [Act.put, List.getElem_toArray, List.getElem_cons_zero, List.getElem_cons_succ, List.setIfInBounds_toArray, List.set_cons_zero, List.set_cons_succ]
      refine wpAnyH_take (i := 3) (oi := _) (v := ?v3c) rfl (by kernel_rfl) (by kernel_rfl) (by kernel_rfl) (fun _ _ _ h => h) (Or.inl ⟨by rfl, ?y3c⟩) (by assumption) ?r3c
      case y3c => (intro w' hSw; (try dsimp only at hSw); go_simp; (try with_reducible rfl))
      try simp only [Act.put, List.getElem_toArray, List.getElem_cons_zero, List.getElem_cons_succ, List.setIfInBounds_toArray, List.set_cons_zero, List.set_cons_succ]
      refine wpAnyH_take (i := 4) (oi := _) (v := ?v4c) rfl (by kernel_rfl) (by kernel_rfl) (by kernel_rfl) (fun _ _ _ h => h) (Or.inl ⟨by rfl, ?y4c⟩) (by assumption) ?r4c
      case y4c => (intro w' hSw; (try dsimp only at hSw); go_simp; (try with_reducible rfl))
      try simp only [Act.put, List.getElem_toArray, List.getElem_cons_zero, List.getElem_cons_succ, List.setIfInBounds_toArray, List.set_cons_zero, List.set_cons_succ]
      refine wpAnyH_take (i := 5) (oi := _) (v := ?v5c) rfl (by kernel_rfl) (by kernel_rfl) (by kernel_rfl) (fun _ _ _ h => h) (Or.inl ⟨by rfl, ?y5c⟩) (by assumption) ?r5c
      case y5c => (intro w' hSw; (try dsimp only at hSw); go_simp; (try with_reducible rfl))
      try simp only [Act.put, List.getElem_toArray, List.getElem_cons_zero, List.getElem_cons_succ, List.setIfInBounds_toArray, List.set_cons_zero, List.set_cons_succ]
      refine wpAnyH_take (i := 6) (oi := _) (v := ?v6c) rfl (by kernel_rfl) (by kernel_rfl) (by kernel_rfl) (fun _ _ _ h => h) (Or.inl ⟨by rfl, ?y6c⟩) (by assumption) ?r6c
      case y6c => (intro w' hSw; (try dsimp only at hSw); go_simp; (try with_reducible rfl))
      try simp only [Act.put, List.getElem_toArray, List.getElem_cons_zero, List.getElem_cons_succ, List.setIfInBounds_toArray, List.set_cons_zero, List.set_cons_succ]
      refine wpAnyH_ready (rs := [7]) (by kernel_rfl) (by simp) ?_
      refine AllReadyH.cons (o := _) rfl (fun K hK => ?_) AllReadyH.nil
      go_simp
      refine Calls.mono (HRW1.out X (E.trans EX)) ?_
      rintro e X ⟨v, u, rfl, ho1, -, hEX⟩
      dsimp only
      obtain ⟨A7, c7, rfl, hc7, hf7, -⟩ := (ho1.form (by decide) (fun _ => rfl) false)
      rw [HRL1.out] at hc7 ⊢
      have HB7 := hid (flat_bos.1 hf7)
      have HC7 := hid hc7
      replace EX := EX.trans hEX
      clear hHeld hEX ho1 hf7 hc7
      refine hK.out _ _ (sK EX) (fun hHeld => ?_)
      clear hK K
      try simp only [Act.put, List.getElem_toArray, List.getElem_cons_zero, List.getElem_cons_succ, List.setIfInBounds_toArray, List.set_cons_zero, List.set_cons_succ]
      refine wpAnyH_take (i := 8) (oi := _) (v := ?v8d) rfl (by kernel_rfl) (by kernel_rfl) (by kernel_rfl) (fun _ _ _ h => h) (Or.inl ⟨by rfl, ?y8d⟩) (by assumption) ?r8d
      case y8d => (intro w' hSw; (try dsimp only at hSw); go_simp; (try with_reducible rfl))
      try simp only [Act.put, List.getElem_toArray, List.getElem_cons_zero, List.getElem_cons_succ, List.setIfInBounds_toArray, List.set_cons_zero, List.set_cons_succ]
      refine wpAnyH_take (i := 9) (oi := _) (v := ?v9d) rfl (by kernel_rfl) (by kernel_rfl) (by kernel_rfl) (fun _ _ _ h => h) (Or.inl ⟨by rfl, ?y9d⟩) (by assumption) ?r9d
      case y9d => (intro w' hSw; (try dsimp only at hSw); go_simp; (try with_reducible rfl))
      try simp only [Act.put, List.getElem_toArray, List.getElem_cons_zero, List.getElem_cons_succ, List.setIfInBounds_toArray, List.set_cons_zero, List.set_cons_succ]
      refine wpAnyH_take (i := 10) (oi := _) (v := ?v10d) rfl (by kernel_rfl) (by kernel_rfl) (by kernel_rfl) (fun _ _ _ h => h) (Or.inl ⟨by rfl, ?y10d⟩) (by assumption) ?r10d
      case y10d => (intro w' hSw; (try dsimp only at hSw); go_simp; (try with_reducible rfl))
      try simp only [Act.put, List.getElem_toArray, List.getElem_cons_zero, List.getElem_cons_succ, List.setIfInBounds_toArray, List.set_cons_zero, List.set_cons_succ]
      refine wpAnyH_take (i := 11) (oi := _) (v := ?v11d) rfl (by kernel_rfl) (by kernel_rfl) (by kernel_rfl) (fun _ _ _ h => h) (Or.inl ⟨by rfl, ?y11d⟩) (by assumption) ?r11d
      case y11d => (intro w' hSw; (try dsimp only at hSw); go_simp; (try with_reducible rfl))
      try simp only [Act.put, List.getElem_toArray, List.getElem_cons_zero, List.getElem_cons_succ, List.setIfInBounds_toArray, List.set_cons_zero, List.set_cons_succ]
      refine wpAnyH_take (i := 12) (oi := _) (v := ?v12d) rfl (by kernel_rfl) (by kernel_rfl) (by kernel_rfl) (fun _ _ _ h => h) (Or.inl ⟨by rfl, ?y12d⟩) (by assumption) ?r12d
      case y12d => (intro w' hSw; (try dsimp only at hSw); go_simp; (try with_reducible rfl))
      try simp only [Act.put, List.getElem_toArray, List.getElem_cons_zero, List.getElem_cons_succ, List.setIfInBounds_toArray, List.set_cons_zero, List.set_cons_succ]
      refine wpAnyH_done (by kernel_rfl) ?_ _
      have hE := EX
      replace E4 := E4.trans hE
      clear hHeld EX e0 q1
      replace E := E.trans hE
      replace B0 := hid (B0.out.ext hE)
      replace B1 := hid (B1.out.ext hE)
      clear hE
      (try clear a0 l0 l1 l2 l3 z0 z1)
      have a0 := B0.out.cell 0
      obtain ⟨l0, l1, l2, l3⟩ : _ ∧ _ ∧ _ ∧ _ := ⟨B1.out.cell 0, B1.out.cell 1, B1.out.cell 2, B1.out.cell 3⟩
      have z0 := B0.out.lt
      have z1 := B1.out.lt
      simp only [List.getElem?_toArray, List.getElem?_cons_zero, List.getElem?_cons_succ] at a0 l0 l1 l2 l3
      have HL1 := hid (HLK1.out X A7 c7 HC7.out HB7.out)
      clear HLK1 HRW1 HB7 HC7
      generalize lackV rs ln = lk at *
      have HE := hid E
      have HE4 := hid E4
      have HGK := hid (show (GK (k + 1) : Int) = max (GK k : Int) (lk : Int) by rw [HS1.out]; omega)
      go_wp2_with fail
      refine (HL1.out).mono ?_
      rintro e w8 ⟨rfl, rfl⟩
      go_wp2
      all_goals go_roundw
      case rel => exact ⟨HE.out, HE4.out, B0, B1, k + 1, by omega, by go_num, by rw [HGK.out]; congr 1; split <;> omega⟩
      case measure => simp [intOf]; omega
    · obtain rfl : k = nl := by omega
      go_wp2
      go_ret2
      exact ⟨rfl, E⟩
end Go.Proofs.YtecamnhnjmldcaaGreatDoor
