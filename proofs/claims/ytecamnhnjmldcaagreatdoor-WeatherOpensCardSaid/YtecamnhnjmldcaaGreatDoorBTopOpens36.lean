/- CheckRules of the specification. -/
import Derived.Test.YtecamnhnjmldcaaGreatDoorBTopOpens34
import Derived.Test.YtecamnhnjmldcaaGreatDoorBTopOpens30
import Derived.Test.YtecamnhnjmldcaaGreatDoorBTopOpens24
import Derived.Test.YtecamnhnjmldcaaGreatDoorBTopOpens35
import Derived.Test.YtecamnhnjmldcaaGreatDoorB18
set_option linter.unusedSimpArgs false
set_option linter.unusedVariables false
namespace Go.Proofs.YtecamnhnjmldcaaGreatDoor
open Go.RowKit
/-- What CheckRules of the specification says: the errors in the order in which the program looks for them. -/
def rcrE (f : List (List Hr)) (seen : List Sg) (m : Int) (ps : List Pt) (rs : List Rl) (told : Bool) : Int := begM [fcE f, netE m ps, sgE f seen, ruE ps.length rs, unlessM told 1] seen f
theorem rcrE_net {f : List (List Hr)} {seen : List Sg} {m : Int} {ps : List Pt} {rs : List Rl} {told : Bool} : rcrE f seen m ps rs told =
    if fcE f = 0 then (if netE m ps = 0 then (if sgE f seen = 0 then (if rlsB ps.length rs = true then (if told = true then (if numsM seen f = [] then 3 else 0) else 1) else 53) else sgE f seen) else netE m ps) else 50 := by
  unfold rcrE begM ruE fcE
  cases fcB f <;> cases rlsB ps.length rs <;> cases told <;> by_cases h1 : netE m ps = 0 <;> by_cases h2 : sgE f seen = 0 <;> simp [orM, unlessM, h1, h2]
theorem rcrE_safe (f : List (List Hr)) (seen : List Sg) (m : Int) (ps : List Pt) (rs : List Rl) : rcrE f seen m ps rs true = safE f seen m ps rs := by
  unfold rcrE safE begM
  have e : orM [fcE f, netE m ps, sgE f seen, ruE ps.length rs, unlessM true 1] = orM [fcE f, netE m ps, sgE f seen, ruE ps.length rs] := by
    simp [orM, unlessM]
  rw [e]
set_option maxHeartbeats 4000000 in
set_option maxRecDepth 100000 in
theorem rchkRules_any (f : List (List Hr)) (A : Option Addr) (n c : Nat) (seen : List Sg) (SA : Option Addr) (sm sc : Nat) (m : Int) (ps : List Pt) (NA : Option Addr) (nn nc : Nat) (hpn : ps.length = nn) (hpm : nn ≤ 1000) (rs : List Rl) (RA : Option Addr) (rn rc : Nat) (hrn : rs.length = rn) (hrm : rn ≤ 1000)
    (told : Bool) (w : World) (h : FIn w f A n seen SA sm) (hp : PathsAt w NA ps) (hr : RlsAt w RA rs) :
    Calls Tryz.prog 25 #[.agg #[.int .i64 m, .slice NA nn nc], .slice RA rn rc, .agg #[.slice A n c], .slice SA sm sc, .bool told] w fun e w' => e = .returned (.int .i64 (rcrE f seen m ps rs told)) ∧ Ext w w' := by
  have HC := hid (fun (W : World) (hW : Ext w W) => rCheck_any f A n c h.hn h.hm h.hx W (h.sc.ext hW))
  have HN := hid (fun (W : World) (hW : Ext w W) => rNetChk_any m NA nn nc ps hpn W (hp.ext hW))
  have HS := hid (fun (W : World) (hW : Ext w W) => rSeen_any f A n c seen SA sm sc W (h.ext hW))
  have HR := hid (fun (W : World) (hW : Ext w W) => rAreRules_any m NA nn nc hpm rs RA rn rc hrn hrm W (hr.ext hW))
  change Hid (∀ W, Ext w W → Calls _ _ _ _ fun e w' => e = .returned (.int .i64 (netE m ps)) ∧ Ext W w') at HN
  have hE := rcrE_net (f := f) (seen := seen) (m := m) (ps := ps) (rs := rs) (told := told)
  have B0 := hid (show Blk _ _ _ _ from blk_old (blk_last w (.cells #[.int .i64 m, .slice NA nn nc] 47)) (.cells #[.slice A n c] 24))
  have B1 := hid (show Blk _ _ _ _ from blk_last (w.alloc (.cells #[.int .i64 m, .slice NA nn nc] 47)) (.cells #[.slice A n c] 24))
  rw [World.size_alloc] at B1
  have E : Ext w ((w.alloc (.cells #[.int .i64 m, .slice NA nn nc] 47)).alloc (.cells #[.slice A n c] 24)) := by (repeat' (first | with_reducible assumption | with_reducible exact Ext.refl _ | with_reducible refine Ext.alloc ?_ _ | with_reducible refine Ext.set ?_ ?_ _ | with_reducible refine Ext.drew ?_ | with_reducible refine Ext.drewN ?_ _ | with_reducible refine Ext.trans ?_ (by assumption) | (dsimp only; omega)))
  generalize rcrE f seen m ps rs told = R at *
  rw [hpn] at hE
  by_cases h1 : fcE f = 0
  case neg =>
    rw [if_neg h1] at hE
    have hb : (fcE f != 0) = true := by simp [h1]
    subst hE
    clear h hp hr
    generalize fcE f = e1 at *
    go_enter Tryz.func25, Tryz.ntmps25
    go_wp2_with fail
    refine (HC.out _ E).mono ?_
    rintro e w2 ⟨rfl, hE⟩
    replace E := E.trans hE
    replace B0 := hid (B0.out.ext hE)
    replace B1 := hid (B1.out.ext hE)
    clear hE
    (try clear a0 a1 l0 z0 z1)
    obtain ⟨a0, a1⟩ : _ ∧ _ := ⟨B0.out.cell 0, B0.out.cell 1⟩
    have l0 := B1.out.cell 0
    have z0 := B0.out.lt
    have z1 := B1.out.lt
    simp only [List.getElem?_toArray, List.getElem?_cons_zero, List.getElem?_cons_succ] at a0 a1 l0
    go_wp2
    go_ret
    exact ⟨rfl, E⟩
  rw [if_pos h1] at hE
  by_cases h2 : netE m ps = 0
  case neg =>
    rw [if_neg h2] at hE
    have hb : (netE m ps != 0) = true := by simp [h2]
    rw [h1] at HC
    subst hE
    clear h hp hr
    generalize netE m ps = e2 at *
    go_enter Tryz.func25, Tryz.ntmps25
    go_wp2_with fail
    refine (HC.out _ E).mono ?_
    rintro e w2 ⟨rfl, hE⟩
    replace E := E.trans hE
    replace B0 := hid (B0.out.ext hE)
    replace B1 := hid (B1.out.ext hE)
    clear hE
    (try clear a0 a1 l0 z0 z1)
    obtain ⟨a0, a1⟩ : _ ∧ _ := ⟨B0.out.cell 0, B0.out.cell 1⟩
    have l0 := B1.out.cell 0
    have z0 := B0.out.lt
    have z1 := B1.out.lt
    simp only [List.getElem?_toArray, List.getElem?_cons_zero, List.getElem?_cons_succ] at a0 a1 l0
    go_wp2_with fail
    refine (HN.out _ E).mono ?_
    rintro e w2 ⟨rfl, hE⟩
    replace E := E.trans hE
    replace B0 := hid (B0.out.ext hE)
    replace B1 := hid (B1.out.ext hE)
    clear hE
    (try clear a0 a1 l0 z0 z1)
    obtain ⟨a0, a1⟩ : _ ∧ _ := ⟨B0.out.cell 0, B0.out.cell 1⟩
    have l0 := B1.out.cell 0
    have z0 := B0.out.lt
    have z1 := B1.out.lt
    simp only [List.getElem?_toArray, List.getElem?_cons_zero, List.getElem?_cons_succ] at a0 a1 l0
    go_wp2
    go_ret
    exact ⟨rfl, E⟩
  rw [if_pos h2] at hE
  have hse : seenE f seen = sgE f seen := if_pos h1
  by_cases h3 : sgE f seen = 0
  case neg =>
    rw [if_neg h3] at hE
    have hb : (sgE f seen != 0) = true := by simp [h3]
    rw [h1] at HC
    rw [h2] at HN
    rw [hse] at HS
    subst hE
    clear h hp hr hse
    generalize sgE f seen = e3 at *
    go_enter Tryz.func25, Tryz.ntmps25
    go_wp2_with fail
    refine (HC.out _ E).mono ?_
    rintro e w2 ⟨rfl, hE⟩
    replace E := E.trans hE
    replace B0 := hid (B0.out.ext hE)
    replace B1 := hid (B1.out.ext hE)
    clear hE
    (try clear a0 a1 l0 z0 z1)
    obtain ⟨a0, a1⟩ : _ ∧ _ := ⟨B0.out.cell 0, B0.out.cell 1⟩
    have l0 := B1.out.cell 0
    have z0 := B0.out.lt
    have z1 := B1.out.lt
    simp only [List.getElem?_toArray, List.getElem?_cons_zero, List.getElem?_cons_succ] at a0 a1 l0
    go_wp2_with fail
    refine (HN.out _ E).mono ?_
    rintro e w2 ⟨rfl, hE⟩
    replace E := E.trans hE
    replace B0 := hid (B0.out.ext hE)
    replace B1 := hid (B1.out.ext hE)
    clear hE
    (try clear a0 a1 l0 z0 z1)
    obtain ⟨a0, a1⟩ : _ ∧ _ := ⟨B0.out.cell 0, B0.out.cell 1⟩
    have l0 := B1.out.cell 0
    have z0 := B0.out.lt
    have z1 := B1.out.lt
    simp only [List.getElem?_toArray, List.getElem?_cons_zero, List.getElem?_cons_succ] at a0 a1 l0
    go_wp2_with fail
    refine (HS.out _ E).mono ?_
    rintro e w2 ⟨rfl, hE⟩
    replace E := E.trans hE
    replace B0 := hid (B0.out.ext hE)
    replace B1 := hid (B1.out.ext hE)
    clear hE
    (try clear a0 a1 l0 z0 z1)
    obtain ⟨a0, a1⟩ : _ ∧ _ := ⟨B0.out.cell 0, B0.out.cell 1⟩
    have l0 := B1.out.cell 0
    have z0 := B0.out.lt
    have z1 := B1.out.lt
    simp only [List.getElem?_toArray, List.getElem?_cons_zero, List.getElem?_cons_succ] at a0 a1 l0
    go_wp2
    go_ret
    exact ⟨rfl, E⟩
  rw [if_pos h3] at hE
  rw [h1] at HC
  rw [h2] at HN
  rw [hse, h3] at HS
  have HP := hid (fun (W : World) (hW : Ext w W) => rpossible_any f A n c seen SA sm sc W (h.ext hW) (fcE_ok h1) (sgE_ok h3))
  clear h hp hr hse h1 h2 h3
  cases hrb : rlsB nn rs
  case false =>
    rw [hrb] at HR hE
    rw [if_neg (by decide)] at hE
    subst hE
    go_enter Tryz.func25, Tryz.ntmps25
    go_wp2_with fail
    refine (HC.out _ E).mono ?_
    rintro e w2 ⟨rfl, hE⟩
    replace E := E.trans hE
    replace B0 := hid (B0.out.ext hE)
    replace B1 := hid (B1.out.ext hE)
    clear hE
    (try clear a0 a1 l0 z0 z1)
    obtain ⟨a0, a1⟩ : _ ∧ _ := ⟨B0.out.cell 0, B0.out.cell 1⟩
    have l0 := B1.out.cell 0
    have z0 := B0.out.lt
    have z1 := B1.out.lt
    simp only [List.getElem?_toArray, List.getElem?_cons_zero, List.getElem?_cons_succ] at a0 a1 l0
    go_wp2_with fail
    refine (HN.out _ E).mono ?_
    rintro e w2 ⟨rfl, hE⟩
    replace E := E.trans hE
    replace B0 := hid (B0.out.ext hE)
    replace B1 := hid (B1.out.ext hE)
    clear hE
    (try clear a0 a1 l0 z0 z1)
    obtain ⟨a0, a1⟩ : _ ∧ _ := ⟨B0.out.cell 0, B0.out.cell 1⟩
    have l0 := B1.out.cell 0
    have z0 := B0.out.lt
    have z1 := B1.out.lt
    simp only [List.getElem?_toArray, List.getElem?_cons_zero, List.getElem?_cons_succ] at a0 a1 l0
    go_wp2_with fail
    refine (HS.out _ E).mono ?_
    rintro e w2 ⟨rfl, hE⟩
    replace E := E.trans hE
    replace B0 := hid (B0.out.ext hE)
    replace B1 := hid (B1.out.ext hE)
    clear hE
    (try clear a0 a1 l0 z0 z1)
    obtain ⟨a0, a1⟩ : _ ∧ _ := ⟨B0.out.cell 0, B0.out.cell 1⟩
    have l0 := B1.out.cell 0
    have z0 := B0.out.lt
    have z1 := B1.out.lt
    simp only [List.getElem?_toArray, List.getElem?_cons_zero, List.getElem?_cons_succ] at a0 a1 l0
    go_wp2_with fail
    refine (HR.out _ E).mono ?_
    rintro e w2 ⟨rfl, hE⟩
    replace E := E.trans hE
    replace B0 := hid (B0.out.ext hE)
    replace B1 := hid (B1.out.ext hE)
    clear hE
    (try clear a0 a1 l0 z0 z1)
    obtain ⟨a0, a1⟩ : _ ∧ _ := ⟨B0.out.cell 0, B0.out.cell 1⟩
    have l0 := B1.out.cell 0
    have z0 := B0.out.lt
    have z1 := B1.out.lt
    simp only [List.getElem?_toArray, List.getElem?_cons_zero, List.getElem?_cons_succ] at a0 a1 l0
    go_wp2
    go_ret
    exact ⟨rfl, E⟩
  rw [hrb] at HR hE
  rw [if_pos rfl] at hE
  cases told
  case false =>
    rw [if_neg (by decide)] at hE
    subst hE
    go_enter Tryz.func25, Tryz.ntmps25
    go_wp2_with fail
    refine (HC.out _ E).mono ?_
    rintro e w2 ⟨rfl, hE⟩
    replace E := E.trans hE
    replace B0 := hid (B0.out.ext hE)
    replace B1 := hid (B1.out.ext hE)
    clear hE
    (try clear a0 a1 l0 z0 z1)
    obtain ⟨a0, a1⟩ : _ ∧ _ := ⟨B0.out.cell 0, B0.out.cell 1⟩
    have l0 := B1.out.cell 0
    have z0 := B0.out.lt
    have z1 := B1.out.lt
    simp only [List.getElem?_toArray, List.getElem?_cons_zero, List.getElem?_cons_succ] at a0 a1 l0
    go_wp2_with fail
    refine (HN.out _ E).mono ?_
    rintro e w2 ⟨rfl, hE⟩
    replace E := E.trans hE
    replace B0 := hid (B0.out.ext hE)
    replace B1 := hid (B1.out.ext hE)
    clear hE
    (try clear a0 a1 l0 z0 z1)
    obtain ⟨a0, a1⟩ : _ ∧ _ := ⟨B0.out.cell 0, B0.out.cell 1⟩
    have l0 := B1.out.cell 0
    have z0 := B0.out.lt
    have z1 := B1.out.lt
    simp only [List.getElem?_toArray, List.getElem?_cons_zero, List.getElem?_cons_succ] at a0 a1 l0
    go_wp2_with fail
    refine (HS.out _ E).mono ?_
    rintro e w2 ⟨rfl, hE⟩
    replace E := E.trans hE
    replace B0 := hid (B0.out.ext hE)
    replace B1 := hid (B1.out.ext hE)
    clear hE
    (try clear a0 a1 l0 z0 z1)
    obtain ⟨a0, a1⟩ : _ ∧ _ := ⟨B0.out.cell 0, B0.out.cell 1⟩
    have l0 := B1.out.cell 0
    have z0 := B0.out.lt
    have z1 := B1.out.lt
    simp only [List.getElem?_toArray, List.getElem?_cons_zero, List.getElem?_cons_succ] at a0 a1 l0
    go_wp2_with fail
    refine (HR.out _ E).mono ?_
    rintro e w2 ⟨rfl, hE⟩
    replace E := E.trans hE
    replace B0 := hid (B0.out.ext hE)
    replace B1 := hid (B1.out.ext hE)
    clear hE
    (try clear a0 a1 l0 z0 z1)
    obtain ⟨a0, a1⟩ : _ ∧ _ := ⟨B0.out.cell 0, B0.out.cell 1⟩
    have l0 := B1.out.cell 0
    have z0 := B0.out.lt
    have z1 := B1.out.lt
    simp only [List.getElem?_toArray, List.getElem?_cons_zero, List.getElem?_cons_succ] at a0 a1 l0
    go_wp2
    go_ret
    exact ⟨rfl, E⟩
  rw [if_pos rfl] at hE
  by_cases hne : numsM seen f = []
  · rw [if_pos hne] at hE
    rw [hne] at HP
    subst hE
    go_enter Tryz.func25, Tryz.ntmps25
    go_wp2_with fail
    refine (HC.out _ E).mono ?_
    rintro e w2 ⟨rfl, hE⟩
    replace E := E.trans hE
    replace B0 := hid (B0.out.ext hE)
    replace B1 := hid (B1.out.ext hE)
    clear hE
    (try clear a0 a1 l0 z0 z1)
    obtain ⟨a0, a1⟩ : _ ∧ _ := ⟨B0.out.cell 0, B0.out.cell 1⟩
    have l0 := B1.out.cell 0
    have z0 := B0.out.lt
    have z1 := B1.out.lt
    simp only [List.getElem?_toArray, List.getElem?_cons_zero, List.getElem?_cons_succ] at a0 a1 l0
    go_wp2_with fail
    refine (HN.out _ E).mono ?_
    rintro e w2 ⟨rfl, hE⟩
    replace E := E.trans hE
    replace B0 := hid (B0.out.ext hE)
    replace B1 := hid (B1.out.ext hE)
    clear hE
    (try clear a0 a1 l0 z0 z1)
    obtain ⟨a0, a1⟩ : _ ∧ _ := ⟨B0.out.cell 0, B0.out.cell 1⟩
    have l0 := B1.out.cell 0
    have z0 := B0.out.lt
    have z1 := B1.out.lt
    simp only [List.getElem?_toArray, List.getElem?_cons_zero, List.getElem?_cons_succ] at a0 a1 l0
    go_wp2_with fail
    refine (HS.out _ E).mono ?_
    rintro e w2 ⟨rfl, hE⟩
    replace E := E.trans hE
    replace B0 := hid (B0.out.ext hE)
    replace B1 := hid (B1.out.ext hE)
    clear hE
    (try clear a0 a1 l0 z0 z1)
    obtain ⟨a0, a1⟩ : _ ∧ _ := ⟨B0.out.cell 0, B0.out.cell 1⟩
    have l0 := B1.out.cell 0
    have z0 := B0.out.lt
    have z1 := B1.out.lt
    simp only [List.getElem?_toArray, List.getElem?_cons_zero, List.getElem?_cons_succ] at a0 a1 l0
    go_wp2_with fail
    refine (HR.out _ E).mono ?_
    rintro e w2 ⟨rfl, hE⟩
    replace E := E.trans hE
    replace B0 := hid (B0.out.ext hE)
    replace B1 := hid (B1.out.ext hE)
    clear hE
    (try clear a0 a1 l0 z0 z1)
    obtain ⟨a0, a1⟩ : _ ∧ _ := ⟨B0.out.cell 0, B0.out.cell 1⟩
    have l0 := B1.out.cell 0
    have z0 := B0.out.lt
    have z1 := B1.out.lt
    simp only [List.getElem?_toArray, List.getElem?_cons_zero, List.getElem?_cons_succ] at a0 a1 l0
    go_wp2_with fail
    refine (HP.out _ E).mono ?_
    rintro e w4 ⟨A1, c1, rfl, -, hE⟩
    simp only [List.length_nil]
    replace E := E.trans hE
    replace B0 := hid (B0.out.ext hE)
    replace B1 := hid (B1.out.ext hE)
    clear hE
    (try clear a0 a1 l0 z0 z1)
    obtain ⟨a0, a1⟩ : _ ∧ _ := ⟨B0.out.cell 0, B0.out.cell 1⟩
    have l0 := B1.out.cell 0
    have z0 := B0.out.lt
    have z1 := B1.out.lt
    simp only [List.getElem?_toArray, List.getElem?_cons_zero, List.getElem?_cons_succ] at a0 a1 l0
    go_wp2
    go_ret
    exact ⟨rfl, E⟩
  · rw [if_neg hne] at hE
    have hln : ¬ (numsM seen f).length = 0 := fun e => hne (List.length_eq_zero_iff.1 e)
    subst hE
    clear hne
    generalize numsM seen f = NM at *
    generalize NM.length = nl at *
    have hlb : (((nl : Nat) : Int) == 0) = false := beq_eq_false_iff_ne.2 (fun h => hln (by omega))
    go_enter Tryz.func25, Tryz.ntmps25
    go_wp2_with fail
    refine (HC.out _ E).mono ?_
    rintro e w2 ⟨rfl, hE⟩
    replace E := E.trans hE
    replace B0 := hid (B0.out.ext hE)
    replace B1 := hid (B1.out.ext hE)
    clear hE
    (try clear a0 a1 l0 z0 z1)
    obtain ⟨a0, a1⟩ : _ ∧ _ := ⟨B0.out.cell 0, B0.out.cell 1⟩
    have l0 := B1.out.cell 0
    have z0 := B0.out.lt
    have z1 := B1.out.lt
    simp only [List.getElem?_toArray, List.getElem?_cons_zero, List.getElem?_cons_succ] at a0 a1 l0
    go_wp2_with fail
    refine (HN.out _ E).mono ?_
    rintro e w2 ⟨rfl, hE⟩
    replace E := E.trans hE
    replace B0 := hid (B0.out.ext hE)
    replace B1 := hid (B1.out.ext hE)
    clear hE
    (try clear a0 a1 l0 z0 z1)
    obtain ⟨a0, a1⟩ : _ ∧ _ := ⟨B0.out.cell 0, B0.out.cell 1⟩
    have l0 := B1.out.cell 0
    have z0 := B0.out.lt
    have z1 := B1.out.lt
    simp only [List.getElem?_toArray, List.getElem?_cons_zero, List.getElem?_cons_succ] at a0 a1 l0
    go_wp2_with fail
    refine (HS.out _ E).mono ?_
    rintro e w2 ⟨rfl, hE⟩
    replace E := E.trans hE
    replace B0 := hid (B0.out.ext hE)
    replace B1 := hid (B1.out.ext hE)
    clear hE
    (try clear a0 a1 l0 z0 z1)
    obtain ⟨a0, a1⟩ : _ ∧ _ := ⟨B0.out.cell 0, B0.out.cell 1⟩
    have l0 := B1.out.cell 0
    have z0 := B0.out.lt
    have z1 := B1.out.lt
    simp only [List.getElem?_toArray, List.getElem?_cons_zero, List.getElem?_cons_succ] at a0 a1 l0
    go_wp2_with fail
    refine (HR.out _ E).mono ?_
    rintro e w2 ⟨rfl, hE⟩
    replace E := E.trans hE
    replace B0 := hid (B0.out.ext hE)
    replace B1 := hid (B1.out.ext hE)
    clear hE
    (try clear a0 a1 l0 z0 z1)
    obtain ⟨a0, a1⟩ : _ ∧ _ := ⟨B0.out.cell 0, B0.out.cell 1⟩
    have l0 := B1.out.cell 0
    have z0 := B0.out.lt
    have z1 := B1.out.lt
    simp only [List.getElem?_toArray, List.getElem?_cons_zero, List.getElem?_cons_succ] at a0 a1 l0
    go_wp2_with fail
    refine (HP.out _ E).mono ?_
    rintro e w4 ⟨A1, c1, rfl, -, hE⟩
    replace E := E.trans hE
    replace B0 := hid (B0.out.ext hE)
    replace B1 := hid (B1.out.ext hE)
    clear hE
    (try clear a0 a1 l0 z0 z1)
    obtain ⟨a0, a1⟩ : _ ∧ _ := ⟨B0.out.cell 0, B0.out.cell 1⟩
    have l0 := B1.out.cell 0
    have z0 := B0.out.lt
    have z1 := B1.out.lt
    simp only [List.getElem?_toArray, List.getElem?_cons_zero, List.getElem?_cons_succ] at a0 a1 l0
    go_wp2
    go_ret
    exact ⟨rfl, E⟩
end Go.Proofs.YtecamnhnjmldcaaGreatDoor
