/- Keeps of the specification. -/
import Derived.Test.YtecamnhnjmldcaaGreatDoorBTopWindows25
set_option linter.unusedSimpArgs false
set_option linter.unusedVariables false
namespace Go.Proofs.YtecamnhnjmldcaaGreatDoor
open Go.RowKit
/-- Whether the hour h keeps limits in all of the first k possible scenarios. -/
def rkA (p : Hr → Bool) (seen : List Sg) (f : List (List Hr)) (k h : Nat) : Bool := ((numsM seen f).take k).all (fun i => p ((obsM seen (f.getD i.toNat [])).getD h zeroHr))
def rkO (p : Hr → Bool) (seen : List Sg) (f : List (List Hr)) (k h : Nat) : Bool := ((numsM seen f).take k).any (fun i => p ((obsM seen (f.getD i.toNat [])).getD h zeroHr))
theorem rkA_step (p : Hr → Bool) (seen : List Sg) (f : List (List Hr)) (k h : Nat) (hk : k < (numsM seen f).length) : rkA p seen f (k + 1) h = (rkA p seen f k h && p ((obsM seen (f.getD ((numsM seen f).getD k 0).toNat [])).getD h zeroHr)) := by
  unfold rkA
  rw [List.take_succ_eq_append_getElem hk, List.all_append]
  simp [List.getD, List.getElem?_eq_getElem hk]
theorem rkO_step (p : Hr → Bool) (seen : List Sg) (f : List (List Hr)) (k h : Nat) (hk : k < (numsM seen f).length) : rkO p seen f (k + 1) h = (rkO p seen f k h || p ((obsM seen (f.getD ((numsM seen f).getD k 0).toNat [])).getD h zeroHr)) := by
  unfold rkO
  rw [List.take_succ_eq_append_getElem hk, List.any_append]
  simp [List.getD, List.getElem?_eq_getElem hk]
def rkS (f : List (List Hr)) (seen : List Sg) (l : Lm) : List (Int × Int) := if rlimE f seen l true = 0 then spansM (fun i => (tabL (hoursN f) (rkA (sureS l) seen f (numsM seen f).length)).getD i false) (hoursN f) else []
def rkM (f : List (List Hr)) (seen : List Sg) (l : Lm) : List (Int × Int) := if rlimE f seen l true = 0 then spansM (fun i => (tabL (hoursN f) (rkO (mayS l) seen f (numsM seen f).length)).getD i false) (hoursN f) else []
def RKeepsIs (f : List (List Hr)) (seen : List Sg) (l : Lm) (w : World) (e : Ending) (w' : World) : Prop :=
  ∃ A1 c1 A2 c2, e = .returned (.tuple #[.slice A1 (rkS f seen l).length c1, .slice A2 (rkM f seen l).length c2, .int .i64 (rlimE f seen l true)]) ∧ OpensAt w' A1 (rkS f seen l) ∧ OpensAt w' A2 (rkM f seen l) ∧ Ext w w'
/-- An element of a table that is owned, and storing one. -/
theorem own_at {w : World} {B q n cap : Nat} {p : Nat → Bool} (h : Ownl 4 1 gBo w B (.slice (some ⟨q, 0, none⟩) n cap) (tabL n p)) {i : Nat} (hi : i < n) : w.cell? ⟨q, i, none⟩ = some (.bool (p i)) ∧ q < w.heap.size ∧ B ≤ q := by
  obtain ⟨A, c, e, _, hf, hb⟩ := h.form (by decide) (fun _ => rfl) false
  injection e with e1 _ _
  subst e1
  have hx := flat_bos.1 hf
  obtain ⟨b, off, e2, hlt, hc⟩ := hx (by intro e0; have := congrArg List.length e0; rw [tabL_len] at this; simp at this; omega)
  injection e2 with e2
  injection e2 with e2 e3
  subst e2 e3
  have := hc i (by rw [tabL_len]; exact hi)
  unfold BoAt at this
  rw [tabL_at n p i hi, Nat.zero_add] at this
  exact ⟨this, hlt, hb _ _ _ rfl⟩
theorem own_fro {w : World} {B q n cap : Nat} {p : Nat → Bool} (h : Ownl 4 1 gBo w B (.slice (some ⟨q, 0, none⟩) n cap) (tabL n p)) (i : Nat) : w.frozen? ⟨q, i, none⟩ = false := by
  have h' : w.ownsRow B 4 1 (.slice (some ⟨q, 0, none⟩) n cap) n ((tabL n p).flatMap gBo) := by
    have h2 := h
    unfold Ownl at h2
    rw [tabL_len] at h2
    exact h2
  exact h'.frozenAt i
theorem own_put {w : World} {B q n cap : Nat} {p : Nat → Bool} (h : Ownl 4 1 gBo w B (.slice (some ⟨q, 0, none⟩) n cap) (tabL n p)) {i : Nat} (hi : i < n) (v : Bool) : Ownl 4 1 gBo (w.setCell ⟨q, i, none⟩ (.bool v)) B (.slice (some ⟨q, 0, none⟩) n cap) ((tabL n p).set i v) := by
  have hl := tabL_len n p
  have h2 : Ownl 4 1 gBo w B (.slice (some ⟨q, 0, none⟩) (tabL n p).length cap) (tabL n p) := by rw [hl]; exact h
  have := (Ownl.put (s := 1) (g := gBo) (by decide) (fun _ => rfl) false h2 (k := i) (by rw [hl]; exact hi) v).1
  rw [Nat.mul_one, hl] at this
  exact this
/-- Whether an hour keeps limits in one scenario. -/
def rwS (l : Lm) (seen : List Sg) (f : List (List Hr)) (sn h : Nat) : Bool := sureS l ((obsM seen (f.getD sn [])).getD h zeroHr)
def rwM (l : Lm) (seen : List Sg) (f : List (List Hr)) (sn h : Nat) : Bool := mayS l ((obsM seen (f.getD sn [])).getD h zeroHr)
theorem row_tabS (l : Lm) (seen : List Sg) (f : List (List Hr)) (sn n : Nat) : rowL (sureS l) (obsM seen (f.getD sn [])) n = tabL n (rwS l seen f sn) := rfl
theorem row_tabM (l : Lm) (seen : List Sg) (f : List (List Hr)) (sn n : Nat) : rowL (mayS l) (obsM seen (f.getD sn [])) n = tabL n (rwM l seen f sn) := rfl
end Go.Proofs.YtecamnhnjmldcaaGreatDoor
/- Keeps of the specification: the walk. -/
set_option linter.unusedSimpArgs false
set_option linter.unusedVariables false
namespace Go.Proofs.YtecamnhnjmldcaaGreatDoor
open Go.RowKit
theorem own_nums {w : World} {B n c : Nat} {A : Option Addr} {xs : List Int} (h : Ownl 3 1 gInt w B (.slice A n c) xs) : IntsAt w A xs := by
  obtain ⟨A2, c2, e, _, hf, _⟩ := h.form (by decide) (fun _ => rfl) 0
  injection e with e1
  subst e1
  exact flat_ints.1 hf
theorem own_flat {w : World} {B n c : Nat} {A : Option Addr} {xs : List Bool} (h : Ownl 4 1 gBo w B (.slice A n c) xs) : FlatAt 1 gBo false w A xs := by
  obtain ⟨A2, c2, e, _, hf, _⟩ := h.form (by decide) (fun _ => rfl) false
  injection e with e1
  subst e1
  exact hf
theorem own_flatS {w : World} {B n c : Nat} {A : Option Addr} {xs : List (Int × Int)} (h : Ownl 27 2 gSp w B (.slice A n c) xs) : FlatAt 2 gSp (0, 0) w A xs := by
  obtain ⟨A2, c2, e, _, hf, _⟩ := h.form (by decide) (fun _ => rfl) (0, 0)
  injection e with e1
  subst e1
  exact hf
set_option maxHeartbeats 8000000 in
set_option maxRecDepth 100000 in
theorem rKeeps_any (f : List (List Hr)) (A : Option Addr) (n c : Nat) (seen : List Sg) (SA : Option Addr) (m sc : Nat) (l : Lm) (w : World) (h : FIn w f A n seen SA m) :
    Calls Tryz.prog 11 #[.agg #[.slice A n c], .slice SA m sc, l.val] w (RKeepsIs f seen l w) := by
  have HC := hid (fun (W : World) (hW : Ext w W) => rchkLim_any f A n c seen SA m sc l true W (h.ext hW))
  have hS : rkS f seen l = if rlimE f seen l true = 0 then spansM (fun i => (tabL (hoursN f) (rkA (sureS l) seen f (numsM seen f).length)).getD i false) (hoursN f) else [] := rfl
  have hM : rkM f seen l = if rlimE f seen l true = 0 then spansM (fun i => (tabL (hoursN f) (rkO (mayS l) seen f (numsM seen f).length)).getD i false) (hoursN f) else [] := rfl
  have B0 := hid (show Blk _ _ _ _ from blk_old (blk_last w (.cells #[.slice A n c] 24)) (.cells #[.int .i64 l.wind, .int .i64 l.rain, .int .i64 l.tl, .int .i64 l.th] 29))
  have B1 := hid (show Blk _ _ _ _ from blk_last (w.alloc (.cells #[.slice A n c] 24)) (.cells #[.int .i64 l.wind, .int .i64 l.rain, .int .i64 l.tl, .int .i64 l.th] 29))
  rw [World.size_alloc] at B1
  have E : Ext w ((w.alloc (.cells #[.slice A n c] 24)).alloc (.cells #[.int .i64 l.wind, .int .i64 l.rain, .int .i64 l.tl, .int .i64 l.th] 29)) := by (repeat' (first | with_reducible assumption | with_reducible exact Ext.refl _ | with_reducible refine Ext.alloc ?_ _ | with_reducible refine Ext.set ?_ ?_ _ | with_reducible refine Ext.drew ?_ | with_reducible refine Ext.drewN ?_ _ | with_reducible refine Ext.trans ?_ (by assumption) | (dsimp only; omega)))
  unfold RKeepsIs
  by_cases hz : rlimE f seen l true = 0
  case neg =>
    rw [if_neg hz] at hS hM
    rw [hS, hM]
    clear h hS hM
    generalize rlimE f seen l true = se at *
    have hsb : (se != 0) = true := by simp [hz]
    unfold Lm.val at *
    obtain ⟨wi, ra, tl, th⟩ := l
    dsimp only at *
    go_enter Tryz.func11, Tryz.ntmps11
    go_wp2_with fail
    refine (HC.out _ E).mono ?_
    rintro e w2 ⟨rfl, hE⟩
    replace E := E.trans hE
    replace B0 := hid (B0.out.ext hE)
    replace B1 := hid (B1.out.ext hE)
    clear hE
    (try clear a0 l0 l1 l2 l3 z0 z1)
    have a0 := B0.out.cell 0
    obtain ⟨l0, l1, l2, l3⟩ : _ ∧ _ ∧ _ ∧ _ := ⟨B1.out.cell 0, B1.out.cell 1, B1.out.cell 2, B1.out.cell 3⟩
    have z0 := B0.out.lt
    have z1 := B1.out.lt
    simp only [List.getElem?_toArray, List.getElem?_cons_zero, List.getElem?_cons_succ] at a0 l0 l1 l2 l3
    go_wp2
    exact bodyPost_ret (v := .tuple #[.slice none 0 0, .slice none 0 0, .int .i64 se]) (by simp [results, Tryz.results11, go_sem]) rfl ⟨none, 0, none, 0, rfl, fun h => absurd rfl h, fun h => absurd rfl h, E⟩
  rw [if_pos hz] at hS hM
  rw [hS, hM, hz]
  rw [hz] at HC
  obtain ⟨hse, hlm, -⟩ := rlimE_ok hz
  have ok := seenE_ok hse
  have hfc := fcE_ok ok.1
  have hsg := sgE_ok ok.2
  have HHO := hid (fun (W : World) (hW : Ext w W) => rHours_any A n c f h.hn (by have := (fc_ok hfc).2.1; have := h.hn; omega) W (h.sc.ext hW))
  have HP := hid (fun (W : World) (hW : Ext w W) => rpossible_any f A n c seen SA m sc W (h.ext hW) hfc hsg)
  have HRW := hid (fun (sn : Nat) (hsn : sn < n) (W : World) (hW : Ext w W) => by
    have := rrow_any f A n c seen SA m sc sn l W (h.ext hW) hfc hsg hsn
    rw [row_tabS, row_tabM] at this
    exact this)
  have hNN := h.hours
  have HAS := hid (fun k j hk => rkA_step (sureS l) seen f k j hk)
  have HOS := hid (fun k j hk => rkO_step (mayS l) seen f k j hk)
  have HA0 := hid (show ∀ j, rkA (sureS l) seen f 0 j = true from fun _ => rfl)
  have HO0 := hid (show ∀ j, rkO (mayS l) seen f 0 j = false from fun _ => rfl)
  have HDS := hid (show ∀ sn j, sureS l ((obsM seen (f.getD sn [])).getD j zeroHr) = rwS l seen f sn j from fun _ _ => rfl)
  have HDM := hid (show ∀ sn j, mayS l ((obsM seen (f.getD sn [])).getD j zeroHr) = rwM l seen f sn j from fun _ _ => rfl)
  have HNI := hid (fun k (hk : k < (numsM seen f).length) => show ∃ j : Nat, (numsM seen f).getD k 0 = (j : Int) ∧ j < n from by
    obtain ⟨j, h1, h2⟩ := nums_in seen f _ (mem_at (numsM seen f) 0 k hk)
    exact ⟨j, h1, by rw [← h.hn]; exact h2⟩)
  have hnl : (numsM seen f).length ≤ 1000 := by rw [numsM_scs]; have := scsM_le seen f; have := h.hn; have := h.hm; omega
  have HSP := hid (fun (p : Nat → Bool) (W : World) (A2 : Option Addr) (c2 : Nat) (hx : BosAt W A2 (tabL (hoursN f) p)) => rspans_any (tabL (hoursN f) p) A2 (hoursN f) c2 (tabL_len _ p) (by omega) W hx)
  clear h hS hM hz hse hlm ok hfc hsg
  generalize rkA (sureS l) seen f = KA at *
  generalize rkO (mayS l) seen f = KO at *
  generalize rwS l seen f = RS at *
  generalize rwM l seen f = RM at *
  generalize sureS l = SS at *
  generalize mayS l = MS at *
  generalize numsM seen f = NM at *
  generalize hoursN f = N at *
  unfold Lm.val at *
  obtain ⟨wi, ra, tl, th⟩ := l
  dsimp only at *
  go_enter Tryz.func11, Tryz.ntmps11
  go_wp2_with fail
  refine (HC.out _ E).mono ?_
  rintro e w2 ⟨rfl, hE⟩
  replace E := E.trans hE
  replace B0 := hid (B0.out.ext hE)
  replace B1 := hid (B1.out.ext hE)
  clear hE
  (try clear a0 l0 l1 l2 l3 z0 z1)
  have a0 := B0.out.cell 0
  obtain ⟨l0, l1, l2, l3⟩ : _ ∧ _ ∧ _ ∧ _ := ⟨B1.out.cell 0, B1.out.cell 1, B1.out.cell 2, B1.out.cell 3⟩
  have z0 := B0.out.lt
  have z1 := B1.out.lt
  simp only [List.getElem?_toArray, List.getElem?_cons_zero, List.getElem?_cons_succ] at a0 l0 l1 l2 l3
  clear HC
  have hE2 := E
  go_wp2_with fail
  refine region_rest (fun QQ => ∀ (q1 q2 : Nat) (Y : World), Ext w2 Y → q1 ≠ q2 → Hid (Ownl 4 1 gBo Y (w.heap.size + 2) (.slice (some ⟨q1, 0, none⟩) N N) (tabL N fun _ => false)) → Hid (Ownl 4 1 gBo Y (w.heap.size + 2) (.slice (some ⟨q2, 0, none⟩) N N) (tabL N fun _ => false)) →
      QQ .normal { tmps := #[.agg #[.slice A n c], .slice SA m sc, .agg #[.int .i64 wi, .int .i64 ra, .int .i64 tl, .int .i64 th], .pointer (some ⟨w.heap.size, 0, none⟩), undef, .pointer (some ⟨w.heap.size + 1, 0, none⟩), .slice none 0 0, .slice none 0 0, .int .i64 0, .int .i64 0, .slice (some ⟨q1, 0, none⟩) N N, .slice (some ⟨q2, 0, none⟩) N N, undef, undef, undef, undef, undef, undef, .agg #[.slice A n c], .slice SA m sc, .agg #[.int .i64 wi, .int .i64 ra, .int .i64 tl, .int .i64 th], .int .i64 0, .int .i64 0, .bool false, undef, .agg #[.slice A n c], .int .i64 (N : Int), .slice (some ⟨q1, 0, none⟩) N N, .agg #[.slice A n c], .int .i64 (N : Int), .slice (some ⟨q2, 0, none⟩) N N, undef, undef, undef, undef, undef, undef, undef, undef, undef, undef, undef, undef, undef, undef, undef, undef, undef, undef, undef, undef, undef, undef, undef, undef, undef, undef, undef, undef, undef, undef, undef, undef, undef, undef, undef, undef, undef, undef, undef, undef, undef, undef, undef, undef, undef, undef, undef, undef, undef, undef, undef, undef, undef, undef, undef, undef, undef, undef, undef, undef, undef, undef, undef, undef, undef], defers := [] } Y) ?rest (fun REST => ?_)
  case rest =>
    intro q1 q2 Y hE hne O1 O2
    have HNE := hid hne
    clear hne hE2 HHO
    replace E := E.trans hE
    replace B0 := hid (B0.out.ext hE)
    replace B1 := hid (B1.out.ext hE)
    clear hE
    (try clear a0 l0 l1 l2 l3 z0 z1)
    have a0 := B0.out.cell 0
    obtain ⟨l0, l1, l2, l3⟩ : _ ∧ _ ∧ _ ∧ _ := ⟨B1.out.cell 0, B1.out.cell 1, B1.out.cell 2, B1.out.cell 3⟩
    have z0 := B0.out.lt
    have z1 := B1.out.lt
    simp only [List.getElem?_toArray, List.getElem?_cons_zero, List.getElem?_cons_succ] at a0 l0 l1 l2 l3
    go_wp2
    go_loopw [12] (fun i wr => Ext w wr ∧ Hid (Blk wr w.heap.size 24 #[.slice A n c]) ∧ Hid (Blk wr (w.heap.size + 1) 29 #[.int .i64 wi, .int .i64 ra, .int .i64 tl, .int .i64 th]) ∧ ∃ k : Nat, k ≤ N ∧ i = .int .i64 k ∧ Hid (Ownl 4 1 gBo wr (w.heap.size + 2) (.slice (some ⟨q1, 0, none⟩) N N) (tabL N fun x => if x < k then true else false)) ∧ Hid (Ownl 4 1 gBo wr (w.heap.size + 2) (.slice (some ⟨q2, 0, none⟩) N N) (tabL N fun _ => false))) (fun i _ => N - (intOf i).toNat)
    case atStart => exact ⟨E, B0, B1, 0, Nat.zero_le _, rfl, hid (by have := O1.out; rw [← tab_zero N (fun _ => true) (fun _ => false)] at this; exact this), O2⟩
    case round =>
      clear E B0 B1 O1 O2 a0 l0 l1 l2 l3 z0 z1
      obtain ⟨E, B0, B1, k, hk, rfl, O1, O2⟩ := hrel
      by_cases hlt : k < N
      · obtain ⟨c1, hq1, hb1⟩ := own_at O1.out hlt
        have fr1 := own_fro O1.out k
        have hk0 : (0 : Int) ≤ (k : Int) := by omega
        have hk1 : (k : Int) < (N : Int) := by omega
        have E5 := hid (E.set (p := ⟨q1, k, none⟩) (by dsimp only; omega) (.bool true))
        have C0 := hid (B0.out.other (p := ⟨q1, k, none⟩) (by dsimp only; omega) (.bool true))
        have C1 := hid (B1.out.other (p := ⟨q1, k, none⟩) (by dsimp only; omega) (.bool true))
        have P1 := own_put O1.out hlt true
        rw [tab_next N k (fun _ => true) (fun _ => false) true rfl] at P1
        have Q1 := hid P1
        have Q2 := hid (O2.out.otherNe (p := ⟨q1, k, none⟩) (by intro e; injection e with e; exact HNE.out e.symm) (.bool true))
        clear P1 HP HRW HAS HOS HNI HSP
        go_wp2
        go_roundw
        case rel => exact ⟨E5.out, C0, C1, k + 1, by omega, by go_num, Q1, Q2⟩
        case measure => simp [intOf]; omega
      · obtain rfl : k = N := by omega
        have hE := Ext.refl wr
        replace E := E.trans hE
        replace B0 := hid (B0.out.ext hE)
        replace B1 := hid (B1.out.ext hE)
        clear hE
        (try clear a0 l0 l1 l2 l3 z0 z1)
        have a0 := B0.out.cell 0
        obtain ⟨l0, l1, l2, l3⟩ : _ ∧ _ ∧ _ ∧ _ := ⟨B1.out.cell 0, B1.out.cell 1, B1.out.cell 2, B1.out.cell 3⟩
        have z0 := B0.out.lt
        have z1 := B1.out.lt
        simp only [List.getElem?_toArray, List.getElem?_cons_zero, List.getElem?_cons_succ] at a0 l0 l1 l2 l3
        have P1 := O1.out
        rw [tab_end k (fun _ => true) (fun _ => false)] at P1
        replace O1 := hid P1
        clear P1
        go_wp2_with fail
        refine (HP.out _ E).mono ?_
        rintro e w4 ⟨A1, c1, rfl, ho, hE⟩
        have HLB := hid (show q1 < wr.heap.size ∧ q2 < wr.heap.size from ⟨(O1.out.block _ rfl).2, (O2.out.block _ rfl).2⟩)
        replace O1 := hid (O1.out.ext hE)
        replace O2 := hid (O2.out.ext hE)
        have HI := hid ho
        clear ho HP
        generalize wr.heap.size = BL at *
        replace E := E.trans hE
        replace B0 := hid (B0.out.ext hE)
        replace B1 := hid (B1.out.ext hE)
        clear hE
        (try clear a0 l0 l1 l2 l3 z0 z1)
        have a0 := B0.out.cell 0
        obtain ⟨l0, l1, l2, l3⟩ : _ ∧ _ ∧ _ ∧ _ := ⟨B1.out.cell 0, B1.out.cell 1, B1.out.cell 2, B1.out.cell 3⟩
        have z0 := B0.out.lt
        have z1 := B1.out.lt
        simp only [List.getElem?_toArray, List.getElem?_cons_zero, List.getElem?_cons_succ] at a0 l0 l1 l2 l3
        obtain ⟨nl, hnl2⟩ : ∃ nl, NM.length = nl := ⟨_, rfl⟩
        rw [hnl2] at HNI HAS HOS HI hnl ⊢
        have HNM := hid hnl2
        clear hnl2
        go_wp2
        go_loopw [14] (fun i wr => Ext w wr ∧ Hid (Blk wr w.heap.size 24 #[.slice A n c]) ∧ Hid (Blk wr (w.heap.size + 1) 29 #[.int .i64 wi, .int .i64 ra, .int .i64 tl, .int .i64 th]) ∧ Hid (Ownl 3 1 gInt wr BL (.slice A1 nl c1) NM) ∧ ∃ y : Nat, y ≤ nl ∧ i = .int .i64 y ∧ Hid (Ownl 4 1 gBo wr (w.heap.size + 2) (.slice (some ⟨q1, 0, none⟩) k k) (tabL k (KA y))) ∧ Hid (Ownl 4 1 gBo wr (w.heap.size + 2) (.slice (some ⟨q2, 0, none⟩) k k) (tabL k (KO y)))) (fun i _ => nl - (intOf i).toNat)
        case atStart =>
          refine ⟨E, B0, B1, HI, 0, Nat.zero_le _, rfl, hid ?_, hid ?_⟩
          · rw [tabL_congr (q := fun _ => true) fun i _ => HA0.out i]; exact O1.out
          · rw [tabL_congr (q := fun _ => false) fun i _ => HO0.out i]; exact O2.out
        case round =>
          clear E B0 B1 O1 O2 HI a0 l0 l1 l2 l3 z0 z1
          obtain ⟨wo, rfl⟩ : ∃ wo, wo = wr := ⟨_, rfl⟩
          obtain ⟨E, B0, B1, HI, y, hy, rfl, O1, O2⟩ := hrel
          have hE := Ext.refl wo
          replace E := E.trans hE
          replace B0 := hid (B0.out.ext hE)
          replace B1 := hid (B1.out.ext hE)
          clear hE
          (try clear a0 l0 l1 l2 l3 z0 z1)
          have a0 := B0.out.cell 0
          obtain ⟨l0, l1, l2, l3⟩ : _ ∧ _ ∧ _ ∧ _ := ⟨B1.out.cell 0, B1.out.cell 1, B1.out.cell 2, B1.out.cell 3⟩
          have z0 := B0.out.lt
          have z1 := B1.out.lt
          simp only [List.getElem?_toArray, List.getElem?_cons_zero, List.getElem?_cons_succ] at a0 l0 l1 l2 l3
          by_cases hlt : y < nl
          · obtain ⟨b, off, rfl, hb0, e0⟩ := IntsAt.at1 (own_nums HI.out) HNM.out hlt
            obtain ⟨sn, hj, hjn⟩ := HNI.out y hlt
            rw [hj] at e0
            have HA1 := hid (fun j => HAS.out y j hlt)
            have HO1 := hid (fun j => HOS.out y j hlt)
            rw [hj, Int.toNat_natCast] at HA1 HO1
            have hHA := HA1.out
            have hHO := HO1.out
            simp only [HDS.out] at hHA
            simp only [HDM.out] at hHO
            clear HA1 HO1
            have HA1 := hid hHA
            have HO1 := hid hHO
            have HRW1 := hid (HRW.out sn hjn)
            clear hj hHA hHO HAS HOS HDS HDM HRW HNI
            generalize RS sn = rs at *
            generalize RM sn = rm at *
            go_wp2_with fail
            refine wp_region_held_drew (S := fun w' => (∀ b o, b < wo.heap.size → w'.cell? ⟨b, o, none⟩ = wo.cell? ⟨b, o, none⟩) ∧ wo.heap.size ≤ w'.heap.size ∧ Ext wo w') (by kernel_rfl) ?hS0 (fun hHeld => ?_)
            case hS0 => exact sK (Ext.drew (Ext.refl _))
            have X0 : Ext wo wo.drew := Ext.drew (Ext.refl wo)
            have EX := X0
            obtain ⟨X, hX⟩ : ∃ X, wo.drew = X := ⟨_, rfl⟩
            rw [hX] at EX hHeld ⊢
            clear hX X0
            refine wpAnyH_take (i := 0) (oi := _) (v := ?v0kc) rfl (by kernel_rfl) (by kernel_rfl) (by kernel_rfl) (fun _ _ _ h => h) (Or.inl ⟨by rfl, ?y0kc⟩) (by assumption) ?r0kc
            case y0kc => (intro w' hSw; (try dsimp only at hSw); go_simp; (try with_reducible rfl))
            try simp only [Act.put, List.getElem_toArray, List.getElem_cons_zero, List.getElem_cons_succ, List.setIfInBounds_toArray, List.set_cons_zero, List.set_cons_succ]
            refine wpAnyH_take (i := 1) (oi := _) (v := ?v1kc) rfl (by kernel_rfl) (by kernel_rfl) (by kernel_rfl) (fun _ _ _ h => h) (Or.inl ⟨by rfl, ?y1kc⟩) (by assumption) ?r1kc
            case y1kc => (intro w' hSw; (try dsimp only at hSw); go_simp; (try with_reducible rfl))
            try simp only [Act.put, List.getElem_toArray, List.getElem_cons_zero, List.getElem_cons_succ, List.setIfInBounds_toArray, List.set_cons_zero, List.set_cons_succ]
            refine wpAnyH_take (i := 2) (oi := _) (v := ?v2kc) rfl (by kernel_rfl) (by kernel_rfl) (by kernel_rfl) (fun _ _ _ h => h) (Or.inl ⟨by rfl, ?y2kc⟩) (by assumption) ?r2kc
            case y2kc => (intro w' hSw; (try dsimp only at hSw); go_simp; (try with_reducible rfl))
            try simp only [Act.put, List.getElem_toArray, List.getElem_cons_zero, List.getElem_cons_succ, List.setIfInBounds_toArray, List.set_cons_zero, List.set_cons_succ]
            refine wpAnyH_take (i := 3) (oi := _) (v := ?v3kc) rfl (by kernel_rfl) (by kernel_rfl) (by kernel_rfl) (fun _ _ _ h => h) (Or.inl ⟨by rfl, ?y3kc⟩) (by assumption) ?r3kc
            case y3kc => (intro w' hSw; (try dsimp only at hSw); go_simp; (try with_reducible rfl))
            try simp only [Act.put, List.getElem_toArray, List.getElem_cons_zero, List.getElem_cons_succ, List.setIfInBounds_toArray, List.set_cons_zero, List.set_cons_succ]
            refine wpAnyH_take (i := 4) (oi := _) (v := ?v4kc) rfl (by kernel_rfl) (by kernel_rfl) (by kernel_rfl) (fun _ _ _ h => h) (Or.inl ⟨by rfl, ?y4kc⟩) (by assumption) ?r4kc
            case y4kc => (intro w' hSw; (try dsimp only at hSw); go_simp; (try with_reducible rfl))
            try simp only [Act.put, List.getElem_toArray, List.getElem_cons_zero, List.getElem_cons_succ, List.setIfInBounds_toArray, List.set_cons_zero, List.set_cons_succ]
            refine wpAnyH_take (i := 5) (oi := _) (v := ?v5kc) rfl (by kernel_rfl) (by kernel_rfl) (by kernel_rfl) (fun _ _ _ h => h) (Or.inl ⟨by rfl, ?y5kc⟩) (by assumption) ?r5kc
            case y5kc => (intro w' hSw; (try dsimp only at hSw); go_simp; (try with_reducible rfl))
            try simp only [Act.put, List.getElem_toArray, List.getElem_cons_zero, List.getElem_cons_succ, List.setIfInBounds_toArray, List.set_cons_zero, List.set_cons_succ]
            refine wpAnyH_take (i := 6) (oi := _) (v := ?v6kc) rfl (by kernel_rfl) (by kernel_rfl) (by kernel_rfl) (fun _ _ _ h => h) (Or.inl ⟨by rfl, ?y6kc⟩) (by assumption) ?r6kc
            case y6kc => (intro w' hSw; (try dsimp only at hSw); go_simp; (try with_reducible rfl))
            try simp only [Act.put, List.getElem_toArray, List.getElem_cons_zero, List.getElem_cons_succ, List.setIfInBounds_toArray, List.set_cons_zero, List.set_cons_succ]
            refine wpAnyH_ready (rs := [7]) (by kernel_rfl) (by simp) ?_
            refine AllReadyH.cons (o := _) rfl (fun K hK => ?_) AllReadyH.nil
            go_simp
            refine Calls.mono (HRW1.out X (E.trans EX)) ?_
            rintro e X9 ⟨v, u, rfl, ho1, ho2, hEX⟩
            dsimp only
            obtain ⟨A7, c7, rfl, -, -, -⟩ := (ho1.form (by decide) (fun _ => rfl) false)
            obtain ⟨A8, c8, rfl, -, -, -⟩ := (ho2.form (by decide) (fun _ => rfl) false)
            rw [tabL_len] at ho1 ho2
            rw [tabL_len, tabL_len]
            have HLC := hid (show q1 < X.heap.size ∧ q2 < X.heap.size from ⟨Nat.lt_of_lt_of_le (O1.out.block _ rfl).2 EX.size, Nat.lt_of_lt_of_le (O2.out.block _ rfl).2 EX.size⟩)
            have HV := hid ho1
            have HU := hid ho2
            replace EX := EX.trans hEX
            clear hHeld hEX ho1 ho2 HRW1
            generalize X.heap.size = BR at *
            refine hK.out _ _ (sK EX) (fun hHeld => ?_)
            clear hK K
            try simp only [Act.put, List.getElem_toArray, List.getElem_cons_zero, List.getElem_cons_succ, List.setIfInBounds_toArray, List.set_cons_zero, List.set_cons_succ]
            refine wpAnyH_take (i := 8) (oi := _) (v := ?v8kd) rfl (by kernel_rfl) (by kernel_rfl) (by kernel_rfl) (fun _ _ _ h => h) (Or.inl ⟨by rfl, ?y8kd⟩) (by assumption) ?r8kd
            case y8kd => (intro w' hSw; (try dsimp only at hSw); go_simp; (try with_reducible rfl))
            try simp only [Act.put, List.getElem_toArray, List.getElem_cons_zero, List.getElem_cons_succ, List.setIfInBounds_toArray, List.set_cons_zero, List.set_cons_succ]
            refine wpAnyH_take (i := 9) (oi := _) (v := ?v9kd) rfl (by kernel_rfl) (by kernel_rfl) (by kernel_rfl) (fun _ _ _ h => h) (Or.inl ⟨by rfl, ?y9kd⟩) (by assumption) ?r9kd
            case y9kd => (intro w' hSw; (try dsimp only at hSw); go_simp; (try with_reducible rfl))
            try simp only [Act.put, List.getElem_toArray, List.getElem_cons_zero, List.getElem_cons_succ, List.setIfInBounds_toArray, List.set_cons_zero, List.set_cons_succ]
            refine wpAnyH_take (i := 10) (oi := _) (v := ?v10kd) rfl (by kernel_rfl) (by kernel_rfl) (by kernel_rfl) (fun _ _ _ h => h) (Or.inl ⟨by rfl, ?y10kd⟩) (by assumption) ?r10kd
            case y10kd => (intro w' hSw; (try dsimp only at hSw); go_simp; (try with_reducible rfl))
            try simp only [Act.put, List.getElem_toArray, List.getElem_cons_zero, List.getElem_cons_succ, List.setIfInBounds_toArray, List.set_cons_zero, List.set_cons_succ]
            refine wpAnyH_take (i := 11) (oi := _) (v := ?v11kd) rfl (by kernel_rfl) (by kernel_rfl) (by kernel_rfl) (fun _ _ _ h => h) (Or.inl ⟨by rfl, ?y11kd⟩) (by assumption) ?r11kd
            case y11kd => (intro w' hSw; (try dsimp only at hSw); go_simp; (try with_reducible rfl))
            try simp only [Act.put, List.getElem_toArray, List.getElem_cons_zero, List.getElem_cons_succ, List.setIfInBounds_toArray, List.set_cons_zero, List.set_cons_succ]
            refine wpAnyH_take (i := 12) (oi := _) (v := ?v12kd) rfl (by kernel_rfl) (by kernel_rfl) (by kernel_rfl) (fun _ _ _ h => h) (Or.inl ⟨by rfl, ?y12kd⟩) (by assumption) ?r12kd
            case y12kd => (intro w' hSw; (try dsimp only at hSw); go_simp; (try with_reducible rfl))
            try simp only [Act.put, List.getElem_toArray, List.getElem_cons_zero, List.getElem_cons_succ, List.setIfInBounds_toArray, List.set_cons_zero, List.set_cons_succ]
            refine wpAnyH_done (by kernel_rfl) ?_ _
            have hE := EX
            replace O1 := hid (O1.out.ext EX)
            replace O2 := hid (O2.out.ext EX)
            replace HI := hid (HI.out.ext EX)
            clear hHeld EX e0 hb0
            replace E := E.trans hE
            replace B0 := hid (B0.out.ext hE)
            replace B1 := hid (B1.out.ext hE)
            clear hE
            (try clear a0 l0 l1 l2 l3 z0 z1)
            have a0 := B0.out.cell 0
            obtain ⟨l0, l1, l2, l3⟩ : _ ∧ _ ∧ _ ∧ _ := ⟨B1.out.cell 0, B1.out.cell 1, B1.out.cell 2, B1.out.cell 3⟩
            have z0 := B0.out.lt
            have z1 := B1.out.lt
            simp only [List.getElem?_toArray, List.getElem?_cons_zero, List.getElem?_cons_succ] at a0 l0 l1 l2 l3
            go_wp2
            go_loopw [17] (fun i wr => Ext w wr ∧ Hid (Blk wr w.heap.size 24 #[.slice A n c]) ∧ Hid (Blk wr (w.heap.size + 1) 29 #[.int .i64 wi, .int .i64 ra, .int .i64 tl, .int .i64 th]) ∧ Hid (Ownl 3 1 gInt wr BL (.slice (some ⟨b, off, none⟩) nl c1) NM) ∧ Hid (Ownl 4 1 gBo wr BR (.slice A7 k c7) (tabL k rs)) ∧ Hid (Ownl 4 1 gBo wr BR (.slice A8 k c8) (tabL k rm)) ∧ ∃ j : Nat, j ≤ k ∧ i = .int .i64 j ∧ Hid (Ownl 4 1 gBo wr (w.heap.size + 2) (.slice (some ⟨q1, 0, none⟩) k k) (tabL k fun x => if x < j then KA (y + 1) x else KA y x)) ∧ Hid (Ownl 4 1 gBo wr (w.heap.size + 2) (.slice (some ⟨q2, 0, none⟩) k k) (tabL k fun x => if x < j then KO (y + 1) x else KO y x))) (fun i _ => k - (intOf i).toNat)
            case atStart => exact ⟨E, B0, B1, HI, HV, HU, 0, Nat.zero_le _, rfl, hid (by rw [tab_zero]; exact O1.out), hid (by rw [tab_zero]; exact O2.out)⟩
            case round =>
              clear E B0 B1 O1 O2 HI HV HU a0 l0 l1 l2 l3 z0 z1
              obtain ⟨E, B0, B1, HI, HV, HU, j, hj, rfl, O1, O2⟩ := hrel
              by_cases hjk : j < k
              · obtain ⟨c1, hq1, hb1⟩ := own_at O1.out hjk
                obtain ⟨c2, hq2, hb2⟩ := own_at O2.out hjk
                rw [if_neg (Nat.lt_irrefl _)] at c1 c2
                have fr1 := own_fro O1.out j
                have fr2 := own_fro O2.out j
                obtain ⟨q7, r7, e7, hb7, hl7⟩ := HV.out.some_ (by rw [tabL_len]; omega)
                obtain ⟨q8, r8, e8, hb8, hl8⟩ := HU.out.some_ (by rw [tabL_len]; omega)
                injection e7 with e7 e7l e7c
                injection e8 with e8 e8l e8c
                subst e7 e8
                obtain ⟨c3, -, -⟩ := own_at HV.out hjk
                obtain ⟨c4, -, -⟩ := own_at HU.out hjk
                have hn12 : ¬ q1 = q2 := HNE.out
                have hn21 : ¬ q2 = q1 := fun e => HNE.out e.symm
                have hn17 : ¬ q7 = q1 := fun e => by have := HLC.out.1; omega
                have hn18 : ¬ q8 = q1 := fun e => by have := HLC.out.1; omega
                have hk0 : (0 : Int) ≤ (j : Int) := by omega
                have hk1 : (j : Int) < (k : Int) := by omega
                have HA2 := hid (HA1.out j)
                have HO2 := hid (HO1.out j)
                clear HA1 HO1 e7l e7c e8l e8c
                cases ha : KA y j <;> cases ho : KO y j
                · have hv1 : (false) = KA (y + 1) j := by rw [HA2.out, ha]; rfl
                  have hv2 : (rm j) = KO (y + 1) j := by rw [HO2.out, ho]; rfl
                  rw [ha] at c1
                  rw [ho] at c2
                  clear ha ho HA2 HO2
                  have E5 := hid ((E.set (p := ⟨q1, j, none⟩) (by dsimp only; omega) (.bool (false))).set (p := ⟨q2, j, none⟩) (by dsimp only; omega) (.bool (rm j)))
                  have C0 := hid ((B0.out.other (p := ⟨q1, j, none⟩) (by dsimp only; omega) (.bool (false))).other (p := ⟨q2, j, none⟩) (by dsimp only; omega) (.bool (rm j)))
                  have C1 := hid ((B1.out.other (p := ⟨q1, j, none⟩) (by dsimp only; omega) (.bool (false))).other (p := ⟨q2, j, none⟩) (by dsimp only; omega) (.bool (rm j)))
                  have CI := hid ((HI.out.other (p := ⟨q1, j, none⟩) HLB.out.1 (.bool (false))).other (p := ⟨q2, j, none⟩) HLB.out.2 (.bool (rm j)))
                  have CV := hid ((HV.out.other (p := ⟨q1, j, none⟩) HLC.out.1 (.bool (false))).other (p := ⟨q2, j, none⟩) HLC.out.2 (.bool (rm j)))
                  have CU := hid ((HU.out.other (p := ⟨q1, j, none⟩) HLC.out.1 (.bool (false))).other (p := ⟨q2, j, none⟩) HLC.out.2 (.bool (rm j)))
                  have P1 := own_put O1.out hjk (false)
                  rw [tab_next k j (KA (y + 1)) (KA y) (false) hv1] at P1
                  have Q1 := hid (P1.otherNe (p := ⟨q2, j, none⟩) (by intro e; injection e with e; exact HNE.out e) (.bool (rm j)))
                  have P2 := own_put (O2.out.otherNe (p := ⟨q1, j, none⟩) (by intro e; injection e with e; exact HNE.out e.symm) (.bool (false))) hjk (rm j)
                  rw [tab_next k j (KO (y + 1)) (KO y) (rm j) hv2] at P2
                  have Q2 := hid P2
                  clear P1 P2 O1 O2 HI HV HU hv1 hv2
                  go_wp2
                  go_roundw
                  case rel => exact ⟨E5.out, C0, C1, CI, CV, CU, j + 1, by omega, by go_num, Q1, Q2⟩
                  case measure => simp [intOf]; omega
                · have hv1 : (false) = KA (y + 1) j := by rw [HA2.out, ha]; rfl
                  have hv2 : (true) = KO (y + 1) j := by rw [HO2.out, ho]; rfl
                  rw [ha] at c1
                  rw [ho] at c2
                  clear ha ho HA2 HO2
                  have E5 := hid ((E.set (p := ⟨q1, j, none⟩) (by dsimp only; omega) (.bool (false))).set (p := ⟨q2, j, none⟩) (by dsimp only; omega) (.bool (true)))
                  have C0 := hid ((B0.out.other (p := ⟨q1, j, none⟩) (by dsimp only; omega) (.bool (false))).other (p := ⟨q2, j, none⟩) (by dsimp only; omega) (.bool (true)))
                  have C1 := hid ((B1.out.other (p := ⟨q1, j, none⟩) (by dsimp only; omega) (.bool (false))).other (p := ⟨q2, j, none⟩) (by dsimp only; omega) (.bool (true)))
                  have CI := hid ((HI.out.other (p := ⟨q1, j, none⟩) HLB.out.1 (.bool (false))).other (p := ⟨q2, j, none⟩) HLB.out.2 (.bool (true)))
                  have CV := hid ((HV.out.other (p := ⟨q1, j, none⟩) HLC.out.1 (.bool (false))).other (p := ⟨q2, j, none⟩) HLC.out.2 (.bool (true)))
                  have CU := hid ((HU.out.other (p := ⟨q1, j, none⟩) HLC.out.1 (.bool (false))).other (p := ⟨q2, j, none⟩) HLC.out.2 (.bool (true)))
                  have P1 := own_put O1.out hjk (false)
                  rw [tab_next k j (KA (y + 1)) (KA y) (false) hv1] at P1
                  have Q1 := hid (P1.otherNe (p := ⟨q2, j, none⟩) (by intro e; injection e with e; exact HNE.out e) (.bool (true)))
                  have P2 := own_put (O2.out.otherNe (p := ⟨q1, j, none⟩) (by intro e; injection e with e; exact HNE.out e.symm) (.bool (false))) hjk (true)
                  rw [tab_next k j (KO (y + 1)) (KO y) (true) hv2] at P2
                  have Q2 := hid P2
                  clear P1 P2 O1 O2 HI HV HU hv1 hv2
                  go_wp2
                  go_roundw
                  case rel => exact ⟨E5.out, C0, C1, CI, CV, CU, j + 1, by omega, by go_num, Q1, Q2⟩
                  case measure => simp [intOf]; omega
                · have hv1 : (rs j) = KA (y + 1) j := by rw [HA2.out, ha]; rfl
                  have hv2 : (rm j) = KO (y + 1) j := by rw [HO2.out, ho]; rfl
                  rw [ha] at c1
                  rw [ho] at c2
                  clear ha ho HA2 HO2
                  have E5 := hid ((E.set (p := ⟨q1, j, none⟩) (by dsimp only; omega) (.bool (rs j))).set (p := ⟨q2, j, none⟩) (by dsimp only; omega) (.bool (rm j)))
                  have C0 := hid ((B0.out.other (p := ⟨q1, j, none⟩) (by dsimp only; omega) (.bool (rs j))).other (p := ⟨q2, j, none⟩) (by dsimp only; omega) (.bool (rm j)))
                  have C1 := hid ((B1.out.other (p := ⟨q1, j, none⟩) (by dsimp only; omega) (.bool (rs j))).other (p := ⟨q2, j, none⟩) (by dsimp only; omega) (.bool (rm j)))
                  have CI := hid ((HI.out.other (p := ⟨q1, j, none⟩) HLB.out.1 (.bool (rs j))).other (p := ⟨q2, j, none⟩) HLB.out.2 (.bool (rm j)))
                  have CV := hid ((HV.out.other (p := ⟨q1, j, none⟩) HLC.out.1 (.bool (rs j))).other (p := ⟨q2, j, none⟩) HLC.out.2 (.bool (rm j)))
                  have CU := hid ((HU.out.other (p := ⟨q1, j, none⟩) HLC.out.1 (.bool (rs j))).other (p := ⟨q2, j, none⟩) HLC.out.2 (.bool (rm j)))
                  have P1 := own_put O1.out hjk (rs j)
                  rw [tab_next k j (KA (y + 1)) (KA y) (rs j) hv1] at P1
                  have Q1 := hid (P1.otherNe (p := ⟨q2, j, none⟩) (by intro e; injection e with e; exact HNE.out e) (.bool (rm j)))
                  have P2 := own_put (O2.out.otherNe (p := ⟨q1, j, none⟩) (by intro e; injection e with e; exact HNE.out e.symm) (.bool (rs j))) hjk (rm j)
                  rw [tab_next k j (KO (y + 1)) (KO y) (rm j) hv2] at P2
                  have Q2 := hid P2
                  clear P1 P2 O1 O2 HI HV HU hv1 hv2
                  go_wp2
                  go_roundw
                  case rel => exact ⟨E5.out, C0, C1, CI, CV, CU, j + 1, by omega, by go_num, Q1, Q2⟩
                  case measure => simp [intOf]; omega
                · have hv1 : (rs j) = KA (y + 1) j := by rw [HA2.out, ha]; rfl
                  have hv2 : (true) = KO (y + 1) j := by rw [HO2.out, ho]; rfl
                  rw [ha] at c1
                  rw [ho] at c2
                  clear ha ho HA2 HO2
                  have E5 := hid ((E.set (p := ⟨q1, j, none⟩) (by dsimp only; omega) (.bool (rs j))).set (p := ⟨q2, j, none⟩) (by dsimp only; omega) (.bool (true)))
                  have C0 := hid ((B0.out.other (p := ⟨q1, j, none⟩) (by dsimp only; omega) (.bool (rs j))).other (p := ⟨q2, j, none⟩) (by dsimp only; omega) (.bool (true)))
                  have C1 := hid ((B1.out.other (p := ⟨q1, j, none⟩) (by dsimp only; omega) (.bool (rs j))).other (p := ⟨q2, j, none⟩) (by dsimp only; omega) (.bool (true)))
                  have CI := hid ((HI.out.other (p := ⟨q1, j, none⟩) HLB.out.1 (.bool (rs j))).other (p := ⟨q2, j, none⟩) HLB.out.2 (.bool (true)))
                  have CV := hid ((HV.out.other (p := ⟨q1, j, none⟩) HLC.out.1 (.bool (rs j))).other (p := ⟨q2, j, none⟩) HLC.out.2 (.bool (true)))
                  have CU := hid ((HU.out.other (p := ⟨q1, j, none⟩) HLC.out.1 (.bool (rs j))).other (p := ⟨q2, j, none⟩) HLC.out.2 (.bool (true)))
                  have P1 := own_put O1.out hjk (rs j)
                  rw [tab_next k j (KA (y + 1)) (KA y) (rs j) hv1] at P1
                  have Q1 := hid (P1.otherNe (p := ⟨q2, j, none⟩) (by intro e; injection e with e; exact HNE.out e) (.bool (true)))
                  have P2 := own_put (O2.out.otherNe (p := ⟨q1, j, none⟩) (by intro e; injection e with e; exact HNE.out e.symm) (.bool (rs j))) hjk (true)
                  rw [tab_next k j (KO (y + 1)) (KO y) (true) hv2] at P2
                  have Q2 := hid P2
                  clear P1 P2 O1 O2 HI HV HU hv1 hv2
                  go_wp2
                  go_roundw
                  case rel => exact ⟨E5.out, C0, C1, CI, CV, CU, j + 1, by omega, by go_num, Q1, Q2⟩
                  case measure => simp [intOf]; omega
              · obtain rfl : j = k := by omega
                rw [tab_end] at O1 O2
                have hE := Ext.refl wr
                replace E := E.trans hE
                replace B0 := hid (B0.out.ext hE)
                replace B1 := hid (B1.out.ext hE)
                clear hE
                (try clear a0 l0 l1 l2 l3 z0 z1)
                have a0 := B0.out.cell 0
                obtain ⟨l0, l1, l2, l3⟩ : _ ∧ _ ∧ _ ∧ _ := ⟨B1.out.cell 0, B1.out.cell 1, B1.out.cell 2, B1.out.cell 3⟩
                have z0 := B0.out.lt
                have z1 := B1.out.lt
                simp only [List.getElem?_toArray, List.getElem?_cons_zero, List.getElem?_cons_succ] at a0 l0 l1 l2 l3
                go_wp2
                go_roundw
                case rel => exact ⟨E, B0, B1, HI, y + 1, by omega, by go_num, O1, O2⟩
                case measure => simp [intOf]; omega
          · obtain rfl : y = nl := by omega
            clear HAS HOS HDS HDM HRW HNI
            have HX1 := hid (fun (W : World) (hW : Ext wo W) => HSP.out (KA y) W (some ⟨q1, 0, none⟩) k (flat_bos.1 (own_flat (O1.out.ext hW))))
            have HX2 := hid (fun (W : World) (hW : Ext wo W) => HSP.out (KO y) W (some ⟨q2, 0, none⟩) k (flat_bos.1 (own_flat (O2.out.ext hW))))
            clear HSP
            go_wp2_with fail
            refine (HX1.out _ (Ext.refl _)).mono ?_
            rintro e w5 ⟨A5, c5, rfl, o5, hE5⟩
            go_wp2_with fail
            refine (HX2.out _ hE5).mono ?_
            rintro e w6 ⟨A6, c6, rfl, o6, hE6⟩
            have E6 := hid ((E.trans hE5).trans hE6)
            have G5 := hid ((flat_spans.1 (own_flatS o5)).ext hE6)
            have G6 := hid (flat_spans.1 (own_flatS o6))
            clear o5 o6 hE5 hE6
            go_wp2
            exact bodyPost_ret (v := .tuple #[.slice A5 (spansM (fun i => (tabL k (KA y)).getD i false) k).length c5, .slice A6 (spansM (fun i => (tabL k (KO y)).getD i false) k).length c6, .int .i64 0]) (by simp [results, Tryz.results11, go_sem]) rfl ⟨A5, c5, A6, c6, by rw [HNM.out], by rw [HNM.out]; exact G5.out, by rw [HNM.out]; exact G6.out, E6.out⟩
  have hmk := hid (fun (X : World) (hX : Ext w2 X) => mk_bools X N (w.heap.size + 2) (by omega) (by have := hX.size; omega))
  refine wp_region_held_drew (S := fun w' => (∀ b o, b < w2.heap.size → w'.cell? ⟨b, o, none⟩ = w2.cell? ⟨b, o, none⟩) ∧ w2.heap.size ≤ w'.heap.size ∧ Ext w2 w') (by kernel_rfl) ?hS0 (fun hHeld => ?_)
  case hS0 => exact sK (Ext.drew (Ext.refl _))
  have X0 : Ext w2 w2.drew := Ext.drew (Ext.refl w2)
  have EX := X0
  obtain ⟨X, hX⟩ : ∃ X, w2.drew = X := ⟨_, rfl⟩
  rw [hX] at EX hHeld ⊢
  clear hX X0
  refine wpAnyH_take (i := 0) (oi := _) (v := ?v0ka) rfl (by kernel_rfl) (by kernel_rfl) (by kernel_rfl) (fun _ _ _ h => h) (Or.inl ⟨by rfl, ?y0ka⟩) (by assumption) ?r0ka
  case y0ka => (intro w' hSw; (try dsimp only at hSw); go_simp; (try with_reducible rfl))
  try simp only [Act.put, List.getElem_toArray, List.getElem_cons_zero, List.getElem_cons_succ, List.setIfInBounds_toArray, List.set_cons_zero, List.set_cons_succ]
  refine wpAnyH_take (i := 3) (oi := _) (v := ?v3ka) rfl (by kernel_rfl) (by kernel_rfl) (by kernel_rfl) (fun _ _ _ h => h) (Or.inl ⟨by rfl, ?y3ka⟩) (by assumption) ?r3ka
  case y3ka => (intro w' hSw; (try dsimp only at hSw); go_simp; (try with_reducible rfl))
  try simp only [Act.put, List.getElem_toArray, List.getElem_cons_zero, List.getElem_cons_succ, List.setIfInBounds_toArray, List.set_cons_zero, List.set_cons_succ]
  refine wpAnyH_ready (rs := [1]) (by kernel_rfl) (by simp) ?_
  refine AllReadyH.cons (o := _) rfl (fun K hK => ?_) AllReadyH.nil
  go_simp
  refine Calls.mono (HHO.out _ (E.trans EX)) ?_
  rintro e X ⟨rfl, hEX⟩
  dsimp only
  replace EX := EX.trans hEX
  (try replace O1 := hid (O1.out.ext hEX))
  (try replace O2 := hid (O2.out.ext hEX))
  clear hHeld hEX
  refine hK.out _ _ (sK EX) (fun hHeld => ?_)
  clear hK K
  try simp only [Act.put, List.getElem_toArray, List.getElem_cons_zero, List.getElem_cons_succ, List.setIfInBounds_toArray, List.set_cons_zero, List.set_cons_succ]
  refine wpAnyH_ready (rs := [2, 4]) (by kernel_rfl) (by simp) ?_
  refine AllReadyH.cons (o := _) rfl (fun K hK => ?_) (AllReadyH.cons (o := _) rfl (fun K hK => ?_) AllReadyH.nil)
  · go_simp
    obtain ⟨Y, hrun, ho, hE9⟩ := hmk.out _ EX
    rw [hrun]
    clear hrun
    go_simp
    (try have HNE := hid (Nat.ne_of_gt (O2.out.block _ rfl).2))
    have O1 := hid ho
    (try replace O2 := hid (O2.out.ext hE9))
    replace EX := EX.trans hE9
    clear ho hE9 hHeld
    refine hK.out _ _ (sK EX) (fun hHeld => ?_)
    clear hK K
    try simp only [Act.put, List.getElem_toArray, List.getElem_cons_zero, List.getElem_cons_succ, List.setIfInBounds_toArray, List.set_cons_zero, List.set_cons_succ]
    refine wpAnyH_ready (rs := [4]) (by kernel_rfl) (by simp) ?_
    refine AllReadyH.cons (o := _) rfl (fun K hK => ?_) AllReadyH.nil
    go_simp
    refine Calls.mono (HHO.out _ (E.trans EX)) ?_
    rintro e X ⟨rfl, hEX⟩
    dsimp only
    replace EX := EX.trans hEX
    (try replace O1 := hid (O1.out.ext hEX))
    (try replace O2 := hid (O2.out.ext hEX))
    clear hHeld hEX
    refine hK.out _ _ (sK EX) (fun hHeld => ?_)
    clear hK K
    try simp only [Act.put, List.getElem_toArray, List.getElem_cons_zero, List.getElem_cons_succ, List.setIfInBounds_toArray, List.set_cons_zero, List.set_cons_succ]
    refine wpAnyH_take (i := 6) (oi := _) (v := ?v6p1) rfl (by kernel_rfl) (by kernel_rfl) (by kernel_rfl) (fun _ _ _ h => h) (Or.inl ⟨by rfl, ?y6p1⟩) (by assumption) ?r6p1
    case y6p1 => (intro w' hSw; (try dsimp only at hSw); go_simp; (try with_reducible rfl))
    try simp only [Act.put, List.getElem_toArray, List.getElem_cons_zero, List.getElem_cons_succ, List.setIfInBounds_toArray, List.set_cons_zero, List.set_cons_succ]
    refine wpAnyH_ready (rs := [5]) (by kernel_rfl) (by simp) ?_
    refine AllReadyH.cons (o := _) rfl (fun K hK => ?_) AllReadyH.nil
    go_simp
    obtain ⟨Y, hrun, ho, hE9⟩ := hmk.out _ EX
    rw [hrun]
    clear hrun
    go_simp
    (try have HNE := hid (Nat.ne_of_lt (O1.out.block _ rfl).2))
    have O2 := hid ho
    (try replace O1 := hid (O1.out.ext hE9))
    replace EX := EX.trans hE9
    clear ho hE9 hHeld
    refine hK.out _ _ (sK EX) (fun hHeld => ?_)
    clear hK K
    try simp only [Act.put, List.getElem_toArray, List.getElem_cons_zero, List.getElem_cons_succ, List.setIfInBounds_toArray, List.set_cons_zero, List.set_cons_succ]
    refine wpAnyH_take (i := 7) (oi := _) (v := ?v7p1) rfl (by kernel_rfl) (by kernel_rfl) (by kernel_rfl) (fun _ _ _ h => h) (Or.inl ⟨by rfl, ?y7p1⟩) (by assumption) ?r7p1
    case y7p1 => (intro w' hSw; (try dsimp only at hSw); go_simp; (try with_reducible rfl))
    try simp only [Act.put, List.getElem_toArray, List.getElem_cons_zero, List.getElem_cons_succ, List.setIfInBounds_toArray, List.set_cons_zero, List.set_cons_succ]
    refine wpAnyH_done (by kernel_rfl) ?_ _
    exact REST _ _ _ EX HNE.out O1 O2
  · go_simp
    refine Calls.mono (HHO.out _ (E.trans EX)) ?_
    rintro e X ⟨rfl, hEX⟩
    dsimp only
    replace EX := EX.trans hEX
    (try replace O1 := hid (O1.out.ext hEX))
    (try replace O2 := hid (O2.out.ext hEX))
    clear hHeld hEX
    refine hK.out _ _ (sK EX) (fun hHeld => ?_)
    clear hK K
    try simp only [Act.put, List.getElem_toArray, List.getElem_cons_zero, List.getElem_cons_succ, List.setIfInBounds_toArray, List.set_cons_zero, List.set_cons_succ]
    refine wpAnyH_ready (rs := [2, 5]) (by kernel_rfl) (by simp) ?_
    refine AllReadyH.cons (o := _) rfl (fun K hK => ?_) (AllReadyH.cons (o := _) rfl (fun K hK => ?_) AllReadyH.nil)
    · go_simp
      obtain ⟨Y, hrun, ho, hE9⟩ := hmk.out _ EX
      rw [hrun]
      clear hrun
      go_simp
      (try have HNE := hid (Nat.ne_of_gt (O2.out.block _ rfl).2))
      have O1 := hid ho
      (try replace O2 := hid (O2.out.ext hE9))
      replace EX := EX.trans hE9
      clear ho hE9 hHeld
      refine hK.out _ _ (sK EX) (fun hHeld => ?_)
      clear hK K
      try simp only [Act.put, List.getElem_toArray, List.getElem_cons_zero, List.getElem_cons_succ, List.setIfInBounds_toArray, List.set_cons_zero, List.set_cons_succ]
      refine wpAnyH_take (i := 6) (oi := _) (v := ?v6p2) rfl (by kernel_rfl) (by kernel_rfl) (by kernel_rfl) (fun _ _ _ h => h) (Or.inl ⟨by rfl, ?y6p2⟩) (by assumption) ?r6p2
      case y6p2 => (intro w' hSw; (try dsimp only at hSw); go_simp; (try with_reducible rfl))
      try simp only [Act.put, List.getElem_toArray, List.getElem_cons_zero, List.getElem_cons_succ, List.setIfInBounds_toArray, List.set_cons_zero, List.set_cons_succ]
      refine wpAnyH_ready (rs := [5]) (by kernel_rfl) (by simp) ?_
      refine AllReadyH.cons (o := _) rfl (fun K hK => ?_) AllReadyH.nil
      go_simp
      obtain ⟨Y, hrun, ho, hE9⟩ := hmk.out _ EX
      rw [hrun]
      clear hrun
      go_simp
      (try have HNE := hid (Nat.ne_of_lt (O1.out.block _ rfl).2))
      have O2 := hid ho
      (try replace O1 := hid (O1.out.ext hE9))
      replace EX := EX.trans hE9
      clear ho hE9 hHeld
      refine hK.out _ _ (sK EX) (fun hHeld => ?_)
      clear hK K
      try simp only [Act.put, List.getElem_toArray, List.getElem_cons_zero, List.getElem_cons_succ, List.setIfInBounds_toArray, List.set_cons_zero, List.set_cons_succ]
      refine wpAnyH_take (i := 7) (oi := _) (v := ?v7p2) rfl (by kernel_rfl) (by kernel_rfl) (by kernel_rfl) (fun _ _ _ h => h) (Or.inl ⟨by rfl, ?y7p2⟩) (by assumption) ?r7p2
      case y7p2 => (intro w' hSw; (try dsimp only at hSw); go_simp; (try with_reducible rfl))
      try simp only [Act.put, List.getElem_toArray, List.getElem_cons_zero, List.getElem_cons_succ, List.setIfInBounds_toArray, List.set_cons_zero, List.set_cons_succ]
      refine wpAnyH_done (by kernel_rfl) ?_ _
      exact REST _ _ _ EX HNE.out O1 O2
    · go_simp
      obtain ⟨Y, hrun, ho, hE9⟩ := hmk.out _ EX
      rw [hrun]
      clear hrun
      go_simp
      (try have HNE := hid (Nat.ne_of_lt (O1.out.block _ rfl).2))
      have O2 := hid ho
      (try replace O1 := hid (O1.out.ext hE9))
      replace EX := EX.trans hE9
      clear ho hE9 hHeld
      refine hK.out _ _ (sK EX) (fun hHeld => ?_)
      clear hK K
      try simp only [Act.put, List.getElem_toArray, List.getElem_cons_zero, List.getElem_cons_succ, List.setIfInBounds_toArray, List.set_cons_zero, List.set_cons_succ]
      refine wpAnyH_ready (rs := [2]) (by kernel_rfl) (by simp) ?_
      refine AllReadyH.cons (o := _) rfl (fun K hK => ?_) AllReadyH.nil
      go_simp
      obtain ⟨Y, hrun, ho, hE9⟩ := hmk.out _ EX
      rw [hrun]
      clear hrun
      go_simp
      (try have HNE := hid (Nat.ne_of_gt (O2.out.block _ rfl).2))
      have O1 := hid ho
      (try replace O2 := hid (O2.out.ext hE9))
      replace EX := EX.trans hE9
      clear ho hE9 hHeld
      refine hK.out _ _ (sK EX) (fun hHeld => ?_)
      clear hK K
      try simp only [Act.put, List.getElem_toArray, List.getElem_cons_zero, List.getElem_cons_succ, List.setIfInBounds_toArray, List.set_cons_zero, List.set_cons_succ]
      refine wpAnyH_take (i := 6) (oi := _) (v := ?v6p3) rfl (by kernel_rfl) (by kernel_rfl) (by kernel_rfl) (fun _ _ _ h => h) (Or.inl ⟨by rfl, ?y6p3⟩) (by assumption) ?r6p3
      case y6p3 => (intro w' hSw; (try dsimp only at hSw); go_simp; (try with_reducible rfl))
      try simp only [Act.put, List.getElem_toArray, List.getElem_cons_zero, List.getElem_cons_succ, List.setIfInBounds_toArray, List.set_cons_zero, List.set_cons_succ]
      refine wpAnyH_take (i := 7) (oi := _) (v := ?v7p3) rfl (by kernel_rfl) (by kernel_rfl) (by kernel_rfl) (fun _ _ _ h => h) (Or.inl ⟨by rfl, ?y7p3⟩) (by assumption) ?r7p3
      case y7p3 => (intro w' hSw; (try dsimp only at hSw); go_simp; (try with_reducible rfl))
      try simp only [Act.put, List.getElem_toArray, List.getElem_cons_zero, List.getElem_cons_succ, List.setIfInBounds_toArray, List.set_cons_zero, List.set_cons_succ]
      refine wpAnyH_done (by kernel_rfl) ?_ _
      exact REST _ _ _ EX HNE.out O1 O2
end Go.Proofs.YtecamnhnjmldcaaGreatDoor
