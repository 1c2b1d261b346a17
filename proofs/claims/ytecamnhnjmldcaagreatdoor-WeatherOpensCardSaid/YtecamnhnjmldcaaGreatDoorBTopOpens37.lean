/- ruled and inside of the specification. -/
import Derived.Test.YtecamnhnjmldcaaGreatDoorB22
import Derived.Test.YtecamnhnjmldcaaGreatDoorBTopOpens26
import Derived.Test.YtecamnhnjmldcaaGreatDoorB08
import Derived.Test.YtecamnhnjmldcaaGreatDoorB13
import Derived.Test.YtecamnhnjmldcaaGreatDoorBTopOpens31
import Derived.Test.YtecamnhnjmldcaaGreatDoorBTopOpens32
import Derived.Test.YtecamnhnjmldcaaGreatDoorBTopOpens36
set_option linter.unusedSimpArgs false
set_option linter.unusedVariables false
namespace Go.Proofs.YtecamnhnjmldcaaGreatDoor
open Go.RowKit
def ruM (rs : List Rl) (path : Int) : Bool := rs.any fun r => decide (r.path = path)
theorem anyS_take {α : Type} (xs : List α) (p : α → Bool) (d : α) (k : Nat) (h : k < xs.length) : (xs.take (k + 1)).any p = ((xs.take k).any p || p (xs.getD k d)) := by
  rw [List.take_succ_eq_append_getElem h, List.any_append]
  have e : xs.getD k d = xs[k] := by simp [List.getD, List.getElem?_eq_getElem h]
  rw [e]
  simp only [List.any_cons, List.any_nil, Bool.or_false]
theorem anyS_hit {α : Type} (xs : List α) (p : α → Bool) (d : α) (k : Nat) (h : k < xs.length) (hp : p (xs.getD k d) = true) : xs.any p = true := by
  have e : xs.getD k d = xs[k] := by simp [List.getD, List.getElem?_eq_getElem h]
  rw [e] at hp
  exact List.any_eq_true.2 ⟨_, List.getElem_mem h, hp⟩
set_option maxHeartbeats 1000000 in
set_option maxRecDepth 100000 in
theorem rruled_any (rs : List Rl) (RA : Option Addr) (rn rc : Nat) (hrn : rs.length = rn) (hrm : rn ≤ 1000) (path : Int) (w : World) (hr : RlsAt w RA rs) :
    Calls Tryz.prog 68 #[.slice RA rn rc, .int .i64 path] w fun e w' => e = .returned (.bool (ruM rs path)) ∧ w' = w := by
  have HX := hid hr
  have HN := hid hrn
  have HST := hid (anyS_take rs (fun r => decide (r.path = path)) zeroRl)
  have HHT := hid (fun k (hk : k < rs.length) (h : decide ((rs.getD k zeroRl).path = path) = true) => show ruM rs path = true from anyS_hit rs (fun r => decide (r.path = path)) zeroRl k hk h)
  have HEN := hid (show rs.any (fun r => decide (r.path = path)) = ruM rs path from rfl)
  have HF := hid (show rs.take rn = rs by rw [List.take_of_length_le (by rw [hrn]; exact Nat.le_refl _)])
  clear hr hrn
  generalize ruM rs path = R at *
  go_enter Tryz.func68, Tryz.ntmps68
  go_wp2
  go_loop [5] (fun i => ∃ k : Nat, k ≤ rn ∧ i = .int .i64 k ∧ Hid ((rs.take k).any (fun r => decide (r.path = path)) = false)) (fun i => rn - (intOf i).toNat)
  case atStart => exact ⟨0, Nat.zero_le _, rfl, hid rfl⟩
  case round =>
    obtain ⟨k, hk, rfl, HA⟩ := hrel
    by_cases hlt : k < rn
    · have hkl : k < rs.length := by rw [HN.out]; exact hlt
      obtain ⟨b, off, rfl, hb0, d0, -, -, -, -, -⟩ := HX.out.at_ HN.out hlt
      have HST1 := hid (HST.out k hkl)
      have HHT1 := hid (HHT.out k hkl)
      generalize rs.getD k zeroRl = r at *
      obtain ⟨pa, af, lm⟩ := r
      dsimp only at d0 HST1 HHT1
      have hk0 : (0 : Int) ≤ (k : Int) := by omega
      have hk1 : (k : Int) < (rn : Int) := by omega
      by_cases hpa : pa = path
      · have HD := hid (HHT1.out (decide_eq_true hpa))
        clear HST1 HHT1 HST HHT HEN HA
        go_wp2
        go_ret
        exact ⟨ret_bool HD.out.symm, rfl⟩
      · have HRR := hid (HST1.out.trans (by rw [HA.out, decide_eq_false hpa] <;> rfl))
        clear HST1 HHT1 HST HHT HEN HA
        go_wp2
        go_round
        case rel => exact ⟨k + 1, by omega, by go_num, HRR⟩
        case measure => simp [intOf]; omega
    · obtain rfl : k = rn := by omega
      have HD := hid (show R = false by rw [← HEN.out, ← HA.out, HF.out])
      clear HST HHT HEN HA HF
      go_wp2
      go_ret
      exact ⟨ret_bool HD.out.symm, rfl⟩
set_option maxHeartbeats 1000000 in
set_option maxRecDepth 100000 in
theorem rinside_any (l : List (Int × Int)) (A : Option Addr) (n c : Nat) (hn : l.length = n) (hm : n ≤ 10000) (x : Int) (w : World) (hx : OpensAt w A l) :
    Calls Tryz.prog 69 #[.slice A n c, .int .i64 x] w fun e w' => e = .returned (.bool (isInM x l)) ∧ Ext w w' := by
  have HX := hid hx
  have HN := hid hn
  have HIN := hid (fun a b W => rIn_any x a b W)
  have HS := hid (fun k hk => anyS_take l (fun s => inI x s.1 s.2) (0, 0) k hk)
  have HY := hid (fun k hk hp => anyS_hit l (fun s => inI x s.1 s.2) (0, 0) k hk hp)
  have HE := hid (show l.any (fun s => inI x s.1 s.2) = isInM x l from rfl)
  have HF := hid (show l.take n = l by rw [List.take_of_length_le (by rw [hn]; exact Nat.le_refl _)])
  rw [HE.out] at HY
  clear hx hn
  generalize isInM x l = R at *
  go_enter Tryz.func69, Tryz.ntmps69
  go_wp2
  go_loopw [5] (fun i wr => Ext w wr ∧ ∃ k : Nat, k ≤ n ∧ i = .int .i64 k ∧ Hid ((l.take k).any (fun s => inI x s.1 s.2) = false)) (fun i _ => n - (intOf i).toNat)
  case atStart => exact ⟨by (repeat' (first | with_reducible assumption | with_reducible exact Ext.refl _ | with_reducible refine Ext.alloc ?_ _ | with_reducible refine Ext.set ?_ ?_ _ | with_reducible refine Ext.drew ?_ | with_reducible refine Ext.drewN ?_ _ | with_reducible refine Ext.trans ?_ (by assumption) | (dsimp only; omega))), 0, Nat.zero_le _, rfl, hid rfl⟩
  case round =>
    obtain ⟨E, k, hk, rfl, HA⟩ := hrel
    by_cases hlt : k < n
    · obtain ⟨b, off, rfl, hb, hc⟩ := (HX.out.ext E) (by intro e; have := HN.out; rw [e] at this; simp at this; omega)
      obtain ⟨c0, c1⟩ := hc k (by have := HN.out; omega)
      have HS1 := hid (HS.out k (by rw [HN.out]; exact hlt))
      have HY1 := hid (HY.out k (by rw [HN.out]; exact hlt))
      have hk0 : (0 : Int) ≤ (k : Int) := by omega
      have hk1 : (k : Int) < (n : Int) := by omega
      generalize l.getD k (0, 0) = s at *
      obtain ⟨lo, hi⟩ := s
      dsimp only at c0 c1 HS1 HY1
      have HI1 := hid (HIN.out lo hi)
      generalize inI x lo hi = b1 at *
      clear HS HY HE HX HIN hc
      cases b1
      · have HN2 := hid (HS1.out.trans (by rw [HA.out] <;> rfl))
        clear HS1 HY1 HA
        go_wp2_with fail
        refine (HI1.out _).mono ?_
        rintro e w2 ⟨rfl, hE⟩
        have E2 := hid (E.trans hE)
        go_wp2
        go_roundw
        case rel => exact ⟨E2.out, k + 1, by omega, by go_num, HN2⟩
        case measure => simp [intOf]; omega
      · have HRR := hid (HY1.out (by first | rfl | trivial))
        clear HS1 HY1 HA
        go_wp2_with fail
        refine (HI1.out _).mono ?_
        rintro e w2 ⟨rfl, hE⟩
        have E2 := hid (E.trans hE)
        go_wp2
        go_ret
        exact ⟨ret_bool HRR.out.symm, E2.out⟩
    · obtain rfl : k = n := by omega
      have HRR := hid (show R = false by rw [← HE.out, ← HA.out, HF.out])
      clear HS HY HE HA HX HIN HF
      go_wp2
      go_ret
      exact ⟨ret_bool HRR.out.symm, E⟩
end Go.Proofs.YtecamnhnjmldcaaGreatDoor
/- Hours of scenarios are valid; which numbers are in spans (no program). -/
set_option linter.unusedSimpArgs false
set_option linter.unusedVariables false
namespace Go.Proofs.YtecamnhnjmldcaaGreatDoor
open Go.RowKit
/-- All hours of the scenarios of an outlook are valid. -/
theorem scs_hr {f : List (List Hr)} {seen : List Sg} (hfc : fcB f = true) (hsg : sgsB (hoursN f) seen = true) {hs : List Hr} (hm : hs ∈ scsM seen f) : ∀ i, i < hoursN f → hrB (hs.getD i zeroHr) = true := by
  unfold scsM at hm
  obtain ⟨y, hy, rfl⟩ := List.mem_map.1 hm
  have hy1 := (List.mem_filter.1 hy).1
  obtain ⟨hl, ha⟩ := (fc_ok hfc).2.2.2.2 y hy1
  intro i hi
  refine obsM_all (fun _ h => hrB h = true) seen y (fun h hh => ?_) (fun s hs _ => ?_) i (by rw [hl]; exact hi)
  · exact List.all_eq_true.1 ha _ (mem_at y zeroHr h hh)
  · unfold sgsB at hsg
    rw [Bool.and_eq_true, List.all_eq_true] at hsg
    have := hsg.2 s hs
    unfold sgB at this
    simp only [Bool.and_eq_true] at this
    exact this.2.2
/-- The spans of what is so: which numbers are in them. -/
theorem spans_in (p : Nat → Bool) : ∀ k, (∀ s ∈ spansM p k, 0 ≤ s.1 ∧ s.1 ≤ s.2 ∧ s.2 < (k : Int)) ∧ ∀ i : Nat, isInM i (spansM p k) = (decide (i < k) && p i)
  | 0 => by
    refine ⟨fun s hs => by simp [spansM] at hs, fun i => ?_⟩
    simp [spansM, isInM]
  | k + 1 => by
    obtain ⟨h1, h2⟩ := spans_in p k
    rw [spansM_step]
    by_cases hp : p k = true
    · rw [if_pos hp]
      have hall : ∀ i : Nat, (decide (i < k + 1) && p i) = (isInM i (spansM p k) || decide (i = k)) := fun i => by
        rw [h2 i]
        by_cases hik : i = k
        · subst hik; simp [hp]
        · rw [decide_eq_false hik, Bool.or_false, show decide (i < k + 1) = decide (i < k) from decide_eq_decide.2 (by omega)]
      generalize spansM p k = acc at *
      unfold spStep
      cases hl : acc.getLast? with
      | none =>
        have hnil : acc = [] := List.getLast?_eq_none_iff.1 hl
        subst hnil
        refine ⟨fun s hs => ?_, fun i => ?_⟩
        · simp at hs; subst hs; dsimp only; omega
        · rw [hall i]
          unfold isInM inI
          rw [Bool.eq_iff_iff]
          simp
          omega
      | some s =>
        obtain ⟨lo, hi⟩ := s
        dsimp only
        obtain ⟨pre, hpre⟩ := List.getLast?_eq_some_iff.1 hl
        subst hpre
        have hlast := h1 (lo, hi) (by simp)
        dsimp only at hlast
        by_cases hj : hi = (k : Int) - 1
        · rw [if_pos hj, List.dropLast_concat]
          refine ⟨fun s hs => ?_, fun i => ?_⟩
          · rcases List.mem_append.1 hs with h | h
            · have := h1 s (List.mem_append_left _ h); omega
            · simp at h; subst h; dsimp only; omega
          · rw [hall i]
            unfold isInM inI
            rw [List.any_append, List.any_append, Bool.eq_iff_iff]
            generalize (pre.any fun s => decide (s.1 ≤ (i : Int)) && decide ((i : Int) ≤ s.2)) = B
            simp only [List.any_cons, List.any_nil, Bool.or_false, Bool.or_eq_true, Bool.and_eq_true, decide_eq_true_eq]
            cases B
            · simp only [Bool.false_eq_true, false_or]; omega
            · simp
        · rw [if_neg hj]
          refine ⟨fun s hs => ?_, fun i => ?_⟩
          · rcases List.mem_append.1 hs with h | h
            · have := h1 s h; omega
            · simp at h; subst h; dsimp only; omega
          · rw [hall i]
            unfold isInM inI
            rw [List.any_append, Bool.eq_iff_iff]
            generalize ((pre ++ [(lo, hi)]).any fun s => decide (s.1 ≤ (i : Int)) && decide ((i : Int) ≤ s.2)) = B
            simp only [List.any_cons, List.any_nil, Bool.or_false, Bool.or_eq_true, Bool.and_eq_true, decide_eq_true_eq]
            cases B
            · simp only [Bool.false_eq_true, false_or]; omega
            · simp
    · rw [if_neg hp]
      refine ⟨fun s hs => by have := h1 s hs; omega, fun i => ?_⟩
      rw [h2 i]
      have hpf : p k = false := by simpa using hp
      by_cases hik : i = k
      · subst hik; simp [hpf]
      · rw [show decide (i < k + 1) = decide (i < k) from decide_eq_decide.2 (by omega)]
theorem spans_at (p : Nat → Bool) (n i : Nat) (hi : i < n) : isInM i (spansM p n) = p i := by
  rw [(spans_in p n).2 i, decide_eq_true hi, Bool.true_and]
end Go.Proofs.YtecamnhnjmldcaaGreatDoor
/- Open and Safe: what the specification and the program compute is the same (no walk). -/
set_option linter.unusedSimpArgs false
set_option linter.unusedVariables false
namespace Go.Proofs.YtecamnhnjmldcaaGreatDoor
open Go.RowKit
theorem nd_fold (path op hour : Int) : ∀ (rs : List Rl) (l : Lm), rs.foldl (ndS path op hour) (l, decide (l.tl ≤ l.th)) = ((forP rs path).foldl (fun l r => if op - r.after ≤ hour then andL l r.lim else l) l, decide (((forP rs path).foldl (fun l r => if op - r.after ≤ hour then andL l r.lim else l) l).tl ≤ ((forP rs path).foldl (fun l r => if op - r.after ≤ hour then andL l r.lim else l) l).th))
  | [], l => rfl
  | r :: rs, l => by
    have hf : forP (r :: rs) path = if r.path = path then r :: forP rs path else forP rs path := by
      unfold forP
      rw [List.filter_cons]
      by_cases h : r.path = path <;> simp [h]
    rw [hf, List.foldl_cons]
    unfold ndS
    by_cases hp : r.path = path
    · rw [if_pos hp, List.foldl_cons]
      by_cases ho : op - r.after ≤ hour
      · rw [if_pos ⟨hp, ho⟩, if_pos ho]
        dsimp only
        have e : (decide (l.tl ≤ l.th) && decide ((andL l r.lim).tl ≤ (andL l r.lim).th)) = decide ((andL l r.lim).tl ≤ (andL l r.lim).th) := by
          rw [Bool.eq_iff_iff]
          simp only [Bool.and_eq_true, decide_eq_true_eq]
          unfold andL
          dsimp only
          omega
        rw [e]
        exact nd_fold path op hour rs (andL l r.lim)
      · rw [if_neg (fun h => ho h.2), if_neg ho]
        exact nd_fold path op hour rs l
    · rw [if_neg hp, if_neg (fun h => hp h.1)]
      exact nd_fold path op hour rs l
theorem nd_ask (rs : List Rl) (path op hour : Int) (rn : Nat) (hrn : rs.length = rn) : ndK rs path op hour rn = (askM (forP rs path) hour op, decide ((askM (forP rs path) hour op).tl ≤ (askM (forP rs path) hour op).th)) := by
  unfold ndK askM
  rw [List.take_of_length_le (by rw [hrn]; exact Nat.le_refl _)]
  have e : (wideL, true) = (wideL, decide (wideL.tl ≤ wideL.th)) := rfl
  rw [e]
  exact nd_fold path op hour rs wideL
theorem os_sur {l : Lm} {h : Hr} (hv : hrB h = true) : (decide (l.tl ≤ l.th) && sureS l h) = surB l h := by
  unfold hrB spB at hv
  unfold sureS surB spB
  rw [Bool.eq_iff_iff]
  simp only [Bool.and_eq_true, decide_eq_true_eq] at *
  omega
theorem os_may {l : Lm} {h : Hr} (hv : hrB h = true) : (decide (l.tl ≤ l.th) && mayS l h) = mayB l h := by
  unfold hrB spB at hv
  unfold mayS mayB
  rw [Bool.eq_iff_iff]
  simp only [Bool.and_eq_true, decide_eq_true_eq] at *
  omega
theorem spansO_congr {p q : Nat → Bool} : ∀ n, (∀ i, i < n → p i = q i) → spansM p n = spansM q n
  | 0, _ => rfl
  | n + 1, h => by
    rw [spansM_step, spansM_step, spansO_congr n (fun i hi => h i (by omega)), h n (by omega)]
theorem all_memO {α : Type} {xs : List α} {p q : α → Bool} (h : ∀ x ∈ xs, p x = q x) : xs.all p = xs.all q := by
  rw [Bool.eq_iff_iff, List.all_eq_true, List.all_eq_true]
  exact ⟨fun k x hx => h x hx ▸ k x hx, fun k x hx => (h x hx).symm ▸ k x hx⟩
theorem any_memO {α : Type} {xs : List α} {p q : α → Bool} (h : ∀ x ∈ xs, p x = q x) : xs.any p = xs.any q := by
  rw [Bool.eq_iff_iff, List.any_eq_true, List.any_eq_true]
  exact ⟨fun ⟨x, hx, k⟩ => ⟨x, hx, h x hx ▸ k⟩, fun ⟨x, hx, k⟩ => ⟨x, hx, (h x hx).symm ▸ k⟩⟩
theorem scs_numsO (seen : List Sg) (f : List (List Hr)) : scsM seen f = (numsM seen f).map (fun i => obsM seen (f.getD i.toNat [])) := by
  have h : ∀ k, k ≤ f.length → ((f.take k).filter (allowB seen)).map (obsM seen) = ((List.range k).filter fun i => allowB seen (f.getD i [])).map (fun i => obsM seen (f.getD i [])) := by
    intro k
    induction k with
    | zero => intro _; rfl
    | succ k ih =>
      intro hk
      have e1 : f.getD k [] = f[k] := by simp [List.getD, List.getElem?_eq_getElem (show k < f.length by omega)]
      rw [List.take_succ_eq_append_getElem (by omega), List.filter_append, List.map_append, ih (by omega), List.range_succ, List.filter_append, List.map_append]
      simp only [List.filter_cons, List.filter_nil, e1]
      cases hb : allowB seen f[k]
      · simp only [Bool.false_eq_true, if_false, List.map_nil]
      · simp only [if_true, List.map_cons, List.map_nil, e1]
  have h2 := h f.length (Nat.le_refl _)
  rw [List.take_of_length_le (Nat.le_refl _)] at h2
  unfold scsM numsM
  rw [h2, List.map_map]
  rfl
section
variable {f : List (List Hr)} {seen : List Sg} {rs : List Rl}
theorem hrA_eq (hfc : fcB f = true) (hsg : sgsB (hoursN f) seen = true) (path : Int) (rn : Nat) (hrn : rs.length = rn) (i : Nat) (hi : i < hoursN f) : hrA rs path rn seen f i = (scsM seen f).all (fun hs => isOpenM surB (forP rs path) hs i) := by
  rw [scs_numsO, List.all_map]
  unfold hrA
  refine all_memO fun x hx => ?_
  have hr := scs_hr hfc hsg (show obsM seen (f.getD x.toNat []) ∈ scsM seen f by rw [scs_numsO]; exact List.mem_map.2 ⟨x, hx, rfl⟩)
  show hsA rs path rn seen f i x = isOpenM surB (forP rs path) (obsM seen (f.getD x.toNat [])) i
  unfold hsA isOpenM
  refine all_memO fun j hj => ?_
  have hj := List.mem_range.1 hj
  unfold osA
  rw [nd_ask rs path (i : Int) (j : Int) rn hrn]
  exact os_sur (hr j (by omega))
theorem hrE_eq (hfc : fcB f = true) (hsg : sgsB (hoursN f) seen = true) (path : Int) (rn : Nat) (hrn : rs.length = rn) (i : Nat) (hi : i < hoursN f) : hrE rs path rn seen f i = (scsM seen f).any (fun hs => isOpenM mayB (forP rs path) hs i) := by
  rw [scs_numsO, List.any_map]
  unfold hrE
  refine any_memO fun x hx => ?_
  have hr := scs_hr hfc hsg (show obsM seen (f.getD x.toNat []) ∈ scsM seen f by rw [scs_numsO]; exact List.mem_map.2 ⟨x, hx, rfl⟩)
  show hsE rs path rn seen f i x = isOpenM mayB (forP rs path) (obsM seen (f.getD x.toNat [])) i
  unfold hsE isOpenM
  refine all_memO fun j hj => ?_
  have hj := List.mem_range.1 hj
  unfold osE
  rw [nd_ask rs path (i : Int) (j : Int) rn hrn]
  exact os_may (hr j (by omega))
theorem hoS_eq (hfc : fcB f = true) (hsg : sgsB (hoursN f) seen = true) (path : Int) (rn : Nat) (hrn : rs.length = rn) : spansM (fun i => (tabL (hoursN f) (hrA rs path rn seen f)).getD i false) (hoursN f) = sureM (forP rs path) (scsM seen f) (hoursN f) := by
  unfold sureM
  refine spansO_congr _ fun i hi => ?_
  rw [tabL_at _ _ _ hi]
  exact hrA_eq hfc hsg path rn hrn i hi
theorem hoM_eq (hfc : fcB f = true) (hsg : sgsB (hoursN f) seen = true) (path : Int) (rn : Nat) (hrn : rs.length = rn) : spansM (fun i => (tabL (hoursN f) (hrE rs path rn seen f)).getD i false) (hoursN f) = mayM (forP rs path) (scsM seen f) (hoursN f) := by
  unfold mayM
  refine spansO_congr _ fun i hi => ?_
  rw [tabL_at _ _ _ hi]
  exact hrE_eq hfc hsg path rn hrn i hi
end
theorem rcrE_open (f : List (List Hr)) (seen : List Sg) (m : Int) (ps : List Pt) (rs : List Rl) (path : Int) : rcrE f seen m ps rs (decide (netE m ps = 0) && inI path 0 ((ps.length : Int) - 1)) = opnE f seen m ps rs path := by
  unfold rcrE opnE begM paE
  by_cases h : netE m ps = 0
  · rw [decide_eq_true h, Bool.true_and]
  · have e : ∀ x : Int, orM [fcE f, netE m ps, sgE f seen, ruE ps.length rs, x] = if fcE f = 0 then netE m ps else fcE f := fun x => by
      simp [orM, h]
    rw [e, e]
end Go.Proofs.YtecamnhnjmldcaaGreatDoor
