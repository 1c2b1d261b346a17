/- Prop of the specification: the walk. -/
import Derived.Test.YtggggnjibedgaaaGreatBTopLevel20
import Derived.Test.YtggggnjibedgaaaGreatBTopLevel19
import Derived.Test.YtggggnjibedgaaaGreatB02
import Derived.Test.YtggggnjibedgaaaGreatB01
import Derived.Test.YtggggnjibedgaaaGreatB14
set_option linter.unusedSimpArgs false
set_option linter.unusedVariables false
namespace Go.Proofs.YtggggnjibedgaaaGreat
open Go.RowKit
theorem oth_none : ((List.range 9).all fun n => othersL n (2 ^ n - 1) == []) = true := by decide +kernel
def levP (ps : List Po) (lim yrs : Int) (s : Nat) : Bool := levB (othL zeroPo ps s) lim yrs
theorem levP_all {ps : List Po} (h : ps.length ≤ 8) (lim yrs : Int) : levP ps lim yrs (2 ^ ps.length - 1) = true := by
  unfold levP othL
  rw [eq_of_beq (List.all_eq_true.1 oth_none ps.length (List.mem_range.2 (by omega)))]
  rfl
theorem oth_mem {n s e : Nat} (h : e ∈ othersL n s) : e < n := by
  unfold othersL at h
  exact List.mem_range.1 (List.mem_filter.1 h).1
set_option maxRecDepth 100000 in
set_option maxHeartbeats 8000000 in
theorem rProp_any (ps : List Po) (lim yrs : Int) (A : Option Addr) (n c : Nat) (hn : ps.length = n) (hm : n ≤ 1000) (w : World) (hx : PosAt w A ps) :
    Calls Tryz.prog 41 #[.slice A n c, .int .i64 lim, .int .i64 yrs] w fun e w' => ∃ A' c', e = .returned (.tuple #[.slice A' (propR ps lim yrs).length c', .int .i64 (posE ps lim yrs)]) ∧ IntsAt w' A' (propR ps lim yrs) ∧ Ext w w' := by
  have HCK := hid (fun (W : World) (hE : Ext w W) => rCheckPosts_any ps lim (inI yrs 0 100) A n c hn hm W (hx.ext hE))
  have HW := hid (fun a b c W => rwithin_any a b c W)
  have he : (if posB ps then (if inI lim 0 1000 && inI yrs 0 100 then (0 : Int) else 1) else 94) = posE ps lim yrs := rfl
  rw [he] at HCK
  clear he
  obtain ⟨tb, htb⟩ : ∃ b, inI yrs 0 100 = b := ⟨_, rfl⟩
  rw [htb] at HCK
  by_cases h0 : posE ps lim yrs = 0
  · obtain ⟨hb, hl, hy⟩ := posE_ok h0
    have h8 := (posB_ok hb).1
    rw [hn] at h8
    have hap : ∀ p ∈ ps, poB p = true := by
      have ha : ps.all poB = true := by
        unfold posB at hb
        simp only [Bool.and_eq_true] at hb
        exact hb.1.2
      exact List.all_eq_true.1 ha
    have h2p := two_pow h8
    have HL := hid (fun (s : Nat) (hs : s < 2 ^ n) (W : World) (hE : Ext w W) => by
      have := rlevel_any ps ((2 ^ n - 1) - s) (by omega) (fun e h => by rw [elems_oth h8 hs] at h; rw [hn]; exact oth_mem h) A n c hn hap lim yrs hl (by omega) W (hx.ext hE)
      rw [elems_oth h8 hs, lvS_levB, ← hn] at this
      rw [hn] at this
      have e : levB ((othersL n s).map fun e => ps.getD e zeroPo) lim yrs = levP ps lim yrs s := by unfold levP othL; rw [hn]
      rw [e] at this
      exact this)
    have HR0 := hid (fun (b : Nat) (h : b = refN (levP ps lim yrs) (2 ^ n - 1) (2 ^ n)) => show propR ps lim yrs = memL b by
      unfold propR
      rw [if_pos h0]
      unfold propL propN memL
      have hf := (ref_few h8 (levP ps lim yrs) (by have := levP_all (ps := ps) (by rw [hn]; exact h8) lim yrs; rw [hn] at this; exact this) (2 ^ n) (Nat.le_refl _)).2 rfl
      have e : (fun s => levB (othL zeroPo ps s) lim yrs) = levP ps lim yrs := rfl
      rw [e, hn, hf, h]
      rfl)
    have HLT := hid (fun k (hk : k ≤ 2 ^ n) => refN_lt h8 (levP ps lim yrs) k hk)
    have HSU := hid (fun k => refN_succ (levP ps lim yrs) (2 ^ n - 1) k)
    have HZ := hid (show 2 ^ n - 1 = refN (levP ps lim yrs) (2 ^ n - 1) 0 from rfl)
    rw [h0] at HCK ⊢
    clear hx hn hb hl hy h0 hap
    generalize propR ps lim yrs = PR at *
    generalize levP ps lim yrs = P at *
    have HMM := hid (fun x (hx : x < 256) W => rmembers_any x hx W)
    have HSO := hid (fun (A B : Option Addr) (c1 c2 s t : Nat) (hs : s < 256) (ht : t < 256) (W : World) (h1 : IntsAt W A (memL s)) (h2 : IntsAt W B (memL t)) => by
      have := rsooner_any A B (memL s).length (memL t).length c1 c2 (memL s) (memL t) rfl rfl (by have := memL_len s; have := elems_len s; omega) W h1 h2
      rw [soon_bef hs ht] at this
      exact this)
    have hu : IntKind.u64.wrap (n : Int) = (n : Int) := by rw [IntKind.wrap_u64]; omega
    have hpw := pow_wrap h8
    have HNB := hid (fun s (hs : s < 2 ^ n) => notb (n := n) h8 hs)
    generalize hal : 2 ^ n - 1 = al at *
    have hal2 : al + 1 = 2 ^ n := by omega
    generalize hpn : 2 ^ n = pn at *
    go_enter Tryz.func41, Tryz.ntmps41
    go_wp2_with (first
      | (go_at_call 52; refine (HCK.out _ (by (repeat' (first | with_reducible assumption | with_reducible exact Ext.refl _ | with_reducible refine Ext.alloc ?_ _ | with_reducible refine Ext.set ?_ ?_ _ | with_reducible refine Ext.drew ?_ | with_reducible refine Ext.drewN ?_ _ | with_reducible refine Ext.trans ?_ (by assumption) | (dsimp only; omega))))).mono ?_; rintro e w2 ⟨rfl, hE⟩; (first | (have hK := KC.step (n := w.heap.size) (by with_reducible assumption) hE) | (have hK := KC.step (KC.step (n := w.heap.size) (by with_reducible assumption) (ext_alloc1 _ _)) hE) | (have hK := KC.step (KC.refl (n := w.heap.size) (by simp)) hE)); have hC := hK.cell; have hF := hK.fro; have hX := hK.ext)
      | (go_at_call 76; refine (HW.out _ _ _ _).mono ?_; rintro e w2 ⟨rfl, hsm⟩; obtain rfl := hsm.symm; simp only [htb])
      | simp only [hu])
    have HX2 := hid (show Ext w w2 by (repeat' (first | with_reducible assumption | with_reducible exact Ext.refl _ | with_reducible refine Ext.alloc ?_ _ | with_reducible refine Ext.set ?_ ?_ _ | with_reducible refine Ext.drew ?_ | with_reducible refine Ext.drewN ?_ _ | with_reducible refine Ext.trans ?_ (by assumption) | (dsimp only; omega))))
    refine Calls.mono (HMM.out al (by omega) _) ?_
    rintro e w3 ⟨A3, c3, rfl, hI, hE3⟩
    have HI3 := hid hI
    have HX3 := hid (HX2.out.trans hE3)
    clear hI hE3 HX2 hC hF hX hK HCK HW hE
    go_wp2
    go_loopw [10, 11] (fun v i wr => Ext w wr ∧ ∃ (k b : Nat) (A' : Option Addr) (c' : Nat), k ≤ pn ∧ i = .int .i64 k ∧ v = .slice A' (memL b).length c' ∧ Hid (IntsAt wr A' (memL b)) ∧ Hid (b = refN P al k)) (fun _ i _ => pn - (intOf i).toNat)
    case atStart => exact ⟨HX3.out, 0, al, A3, c3, Nat.zero_le _, rfl, rfl, HI3, HZ⟩
    case round =>
      obtain ⟨hE, k, b, A', c', hk, rfl, rfl, HI, HB⟩ := hrel
      clear HI3 HX3 HZ
      by_cases hlt : k < pn
      · have hki : (k : Int) ≤ (al : Int) := by omega
        have hb2 : b < 256 := by have := HLT.out k hk; have := HB.out; omega
        have HS := hid (show refN P al (k + 1) = if (befB k b && P k) = true then k else b by rw [HSU.out, ← HB.out]; rfl)
        have HLk := hid (fun W e => HL.out k hlt W e)
        have HNk := HNB.out k hlt
        have hw1 : IntKind.i64.wrap ((k : Int) + 1) = (k : Int) + 1 := IntWalk.i64_in _ (by omega)
        clear HLT HSU HL HNB HR0
        go_wp2_with fail
        refine Calls.mono (HMM.out k (by omega) _) ?_
        rintro e w4 ⟨A4, c4, rfl, hI4, hE4⟩
        have HI4 := hid hI4
        have HIb := hid (HI.out.ext hE4)
        have HE4 := hid (hE.trans hE4)
        clear hI4 HI hE4
        go_wp2_with fail
        refine Calls.mono (HSO.out A4 A' _ _ k b (by omega) hb2 w4 HI4.out HIb.out) ?_
        rintro e w5 ⟨rfl, hE5⟩
        have HI5 := hid (HI4.out.ext hE5)
        have HIb5 := hid (HIb.out.ext hE5)
        have HE5 := hid (HE4.out.trans hE5)
        clear HI4 HIb HE4 hE5 HMM HSO
        obtain ⟨bf, hbf⟩ : ∃ bf, befB k b = bf := ⟨_, rfl⟩
        rw [hbf] at HS ⊢
        clear hbf
        cases bf
        · have HS2 := hid (show b = refN P al (k + 1) by rw [HS.out]; simp)
          clear HS
          go_wp2
          go_roundw
          case rel => exact ⟨HE5.out, k + 1, b, A', c', by omega, by go_num, rfl, HIb5, HS2⟩
          case measure => simp [intOf]; omega
        · go_wp2_with fail
          refine Calls.mono (HLk.out _ HE5.out) ?_
          rintro e w6 ⟨rfl, hE6⟩
          obtain ⟨pk, hpk⟩ : ∃ pk, P k = pk := ⟨_, rfl⟩
          rw [hpk] at HS ⊢
          clear hpk
          cases pk
          · have HS2 := hid (show b = refN P al (k + 1) by rw [HS.out]; simp)
            have HI6 := hid (HIb5.out.ext hE6)
            have HE6 := hid (HE5.out.trans hE6)
            clear HS
            go_wp2
            go_roundw
            case rel => exact ⟨HE6.out, k + 1, b, A', c', by omega, by go_num, rfl, HI6, HS2⟩
            case measure => simp [intOf]; omega
          · have HS2 := hid (show k = refN P al (k + 1) by rw [HS.out]; simp)
            have HI6 := hid (HI5.out.ext hE6)
            have HE6 := hid (HE5.out.trans hE6)
            clear HS
            go_wp2
            go_roundw
            case rel => exact ⟨HE6.out, k + 1, k, A4, c4, by omega, by go_num, rfl, HI6, HS2⟩
            case measure => simp [intOf]; omega
      · obtain rfl : k = pn := by omega
        have HR := hid (HR0.out b HB.out)
        have hki : ¬ (k : Int) ≤ (al : Int) := by omega
        clear HLT HSU HL HNB HR0 HMM HSO
        go_wp2
        go_ret2
        have HI2 : IntsAt wr A' PR := by rw [HR.out]; exact HI.out
        have hlen : (memL b).length = PR.length := by rw [HR.out]
        rw [hlen]
        first | exact ⟨A', ⟨c', rfl⟩, HI2, hE⟩ | exact ⟨A', c', rfl, HI2, hE⟩
  · have hv : propR ps lim yrs = [] := by unfold propR; rw [if_neg h0]
    rw [hv]
    clear hv hx hn
    have hne : (posE ps lim yrs != 0) = true := by simp [h0]
    generalize posE ps lim yrs = E at *
    go_enter Tryz.func41, Tryz.ntmps41
    go_wp2_with (first
      | (go_at_call 52; refine (HCK.out _ (by (repeat' (first | with_reducible assumption | with_reducible exact Ext.refl _ | with_reducible refine Ext.alloc ?_ _ | with_reducible refine Ext.set ?_ ?_ _ | with_reducible refine Ext.drew ?_ | with_reducible refine Ext.drewN ?_ _ | with_reducible refine Ext.trans ?_ (by assumption) | (dsimp only; omega))))).mono ?_; rintro e w2 ⟨rfl, hE⟩; (first | (have hK := KC.step (n := w.heap.size) (by with_reducible assumption) hE) | (have hK := KC.step (KC.step (n := w.heap.size) (by with_reducible assumption) (ext_alloc1 _ _)) hE) | (have hK := KC.step (KC.refl (n := w.heap.size) (by simp)) hE)); have hC := hK.cell; have hF := hK.fro; have hX := hK.ext)
      | (go_at_call 76; refine (HW.out _ _ _ _).mono ?_; rintro e w2 ⟨rfl, hsm⟩; obtain rfl := hsm.symm; simp only [htb]))
    go_ret2
    first | exact ⟨none, ⟨0, rfl⟩, fun h => absurd rfl h, by (repeat' (first | with_reducible assumption | with_reducible exact Ext.refl _ | with_reducible refine Ext.alloc ?_ _ | with_reducible refine Ext.set ?_ ?_ _ | with_reducible refine Ext.drew ?_ | with_reducible refine Ext.drewN ?_ _ | with_reducible refine Ext.trans ?_ (by assumption) | (dsimp only; omega)))⟩ | exact ⟨none, 0, rfl, fun h => absurd rfl h, by (repeat' (first | with_reducible assumption | with_reducible exact Ext.refl _ | with_reducible refine Ext.alloc ?_ _ | with_reducible refine Ext.set ?_ ?_ _ | with_reducible refine Ext.drew ?_ | with_reducible refine Ext.drewN ?_ _ | with_reducible refine Ext.trans ?_ (by assumption) | (dsimp only; omega)))⟩
end Go.Proofs.YtggggnjibedgaaaGreat
/- How long posts stay level, and which must be propped: no program. -/
set_option linter.unusedSimpArgs false
set_option linter.unusedVariables false
namespace Go.Proofs.YtggggnjibedgaaaGreat
open Go.RowKit
theorem tilt_zero {ps : List Po} {lim : Int} (hl : 0 ≤ lim) {a b : Po} (h : a.pos < b.pos) : tiltB lim 0 a b = false := by
  unfold tiltB
  refine decide_eq_false ?_
  have := Int.mul_nonneg hl (show 0 ≤ b.pos - a.pos by omega)
  omega
theorem apart_nonneg {a b : Po} (ha : poB a = true) (hb : poB b = true) : 0 ≤ apartN a b := by
  have h1 := poB_parts ha
  have h2 := poB_parts hb
  unfold apartN
  omega
theorem tilt_mono {a b : Po} (ha : poB a = true) (hb : poB b = true) {lim y y' : Int} (hy : y ≤ y') (h : tiltB lim y' a b = false) : tiltB lim y a b = false := by
  unfold tiltB at *
  have h0 := apart_nonneg ha hb
  rw [decide_eq_false_iff_not] at *
  have : 1000 * y * apartN a b ≤ 1000 * y' * apartN a b := Int.mul_le_mul_of_nonneg_right (by omega) h0
  omega
theorem lev_iff {ps : List Po} {lim y : Int} : levB ps lim y = true ↔ ∀ i k, i < k → k < ps.length → tiltB lim y (ps.getD i zeroPo) (ps.getD k zeroPo) = false := by
  unfold levB
  simp only [List.all_eq_true, List.mem_range, Bool.not_eq_true']
  exact ⟨fun h i k hik hk => h k hk i hik, fun h k hk i hik => h i k hik hk⟩
theorem lev_mono {ps : List Po} (hp : ∀ p ∈ ps, poB p = true) {lim y y' : Int} (hy : y ≤ y') (h : levB ps lim y' = true) : levB ps lim y = true := by
  rw [lev_iff] at *
  intro i k hik hk
  exact tilt_mono (hp _ (mem_at ps zeroPo i (by omega))) (hp _ (mem_at ps zeroPo k hk)) hy (h i k hik hk)
theorem lvlN_le (ps : List Po) (lim : Int) : lvlN ps lim ≤ 100 := by
  unfold lvlN
  cases h : (List.range 100).find? (fun (y : Nat) => !levB ps lim ((y : Int) + 1)) with
  | none => exact Nat.le_refl _
  | some y =>
    have := List.mem_range.1 (List.mem_of_find?_eq_some h)
    simp only [Option.getD_some]; omega
theorem lvl_before {ps : List Po} {lim : Int} {y : Nat} (h : y < lvlN ps lim) : levB ps lim ((y : Int) + 1) = true := by
  have h1 := lvlN_le ps lim
  unfold lvlN at h
  cases hf : (List.range 100).find? (fun (y : Nat) => !levB ps lim ((y : Int) + 1)) with
  | none =>
    rw [hf] at h
    simp only [Option.getD_none] at h
    have h2 := (List.find?_range_eq_none.1 hf) y h
    simpa using h2
  | some z =>
    rw [hf] at h
    simp only [Option.getD_some] at h
    have h2 := (List.find?_range_eq_some.1 hf).2.2 y h
    simpa using h2
theorem lvl_not {ps : List Po} {lim : Int} (h : lvlN ps lim < 100) : levB ps lim ((lvlN ps lim : Nat) + 1 : Int) = false := by
  unfold lvlN at h ⊢
  cases hf : (List.range 100).find? (fun (y : Nat) => !levB ps lim ((y : Int) + 1)) with
  | none =>
    rw [hf] at h
    simp at h
  | some z =>
    have h2 := (List.find?_range_eq_some.1 hf).1
    simp only [Option.getD_some]
    simpa using h2
theorem ord_pos {ps : List Po} (h : ordB poO zeroPo ps = true) : ∀ i k, i < k → k < ps.length → (ps.getD i zeroPo).pos < (ps.getD k zeroPo).pos := by
  unfold ordB at h
  simp only [List.all_eq_true, List.mem_range] at h
  intro i k hik
  induction k with
  | zero => omega
  | succ k ih =>
    intro hk
    have h1 : (ps.getD k zeroPo).pos < (ps.getD (k + 1) zeroPo).pos := of_decide_eq_true (h k (by omega))
    rcases Nat.lt_succ_iff_lt_or_eq.1 hik with h2 | rfl
    · exact Int.lt_trans (ih h2 (by omega)) h1
    · exact h1
theorem lvl_upto {ps : List Po} {lim : Int} (hb : posB ps = true) (hl : 0 ≤ lim) {y : Int} (h0 : 0 ≤ y) (h : y ≤ lvlN ps lim) : levB ps lim y = true := by
  unfold posB at hb
  simp only [Bool.and_eq_true, decide_eq_true_eq, List.all_eq_true] at hb
  obtain ⟨⟨h8, hp⟩, ho⟩ := hb
  by_cases hz : y = 0
  · subst hz
    rw [lev_iff]
    intro i k hik hk
    exact tilt_zero (ps := ps) hl (ord_pos ho i k hik hk)
  · have h1 := lvl_before (ps := ps) (lim := lim) (y := (y - 1).toNat) (by omega)
    have e : (((y - 1).toNat : Nat) : Int) + 1 = y := by omega
    rwa [e] at h1
theorem lvl_after {ps : List Po} {lim : Int} (hb : posB ps = true) {y : Int} (h : (lvlN ps lim : Int) < y) (h100 : y ≤ 100) : levB ps lim y = false := by
  unfold posB at hb
  simp only [Bool.and_eq_true, decide_eq_true_eq, List.all_eq_true] at hb
  obtain ⟨⟨h8, hp⟩, ho⟩ := hb
  cases hq : levB ps lim y with
  | false => rfl
  | true =>
    have h1 := lev_mono hp (y := ((lvlN ps lim : Nat) : Int) + 1) (by omega) hq
    rw [lvl_not (by omega)] at h1
    cases h1
/-- The search: what it finds is enough, and no set that is enough has fewer elements. -/
theorem few_least (P : Nat → Bool) : ∀ k, (∀ b, fewN P k = some b → P b = true ∧ ∀ s, s < k → P s = true → pcN b ≤ pcN s) ∧ (fewN P k = none → ∀ s, s < k → P s = false) := by
  intro k
  induction k with
  | zero => exact ⟨fun b h => (by cases h), fun _ s hs => (by omega)⟩
  | succ k ih =>
    obtain ⟨ih1, ih2⟩ := ih
    rw [fewN_succ]
    cases hf : fewN P k with
    | none =>
      rw [fewS_non2]
      cases hq : P k with
      | false =>
        refine ⟨fun b h => (by simp at h), fun _ s hs => ?_⟩
        rcases Nat.lt_succ_iff_lt_or_eq.1 hs with h | rfl
        · exact ih2 hf s h
        · exact hq
      | true =>
        refine ⟨fun b h => ?_, fun h => by simp at h⟩
        simp only [if_true, Option.some.injEq] at h
        subst h
        refine ⟨hq, fun s hs hPs => ?_⟩
        rcases Nat.lt_succ_iff_lt_or_eq.1 hs with h | rfl
        · rw [ih2 hf s h] at hPs; cases hPs
        · exact Nat.le_refl _
    | some c =>
      obtain ⟨hc1, hc2⟩ := ih1 c hf
      rw [fewS_som2]
      by_cases hq : (befB k c && P k) = true
      · rw [if_pos hq]
        simp only [Bool.and_eq_true] at hq
        refine ⟨fun b h => ?_, fun h => by cases h⟩
        injection h with h
        subst h
        refine ⟨hq.2, fun s hs hPs => ?_⟩
        have hle : pcN k ≤ pcN c := by
          have := hq.1
          unfold befB at this
          split at this
          · omega
          · have := of_decide_eq_true this; omega
        rcases Nat.lt_succ_iff_lt_or_eq.1 hs with h | rfl
        · exact Nat.le_trans hle (hc2 s h hPs)
        · exact Nat.le_refl _
      · rw [if_neg hq]
        refine ⟨fun b h => ?_, fun h => by cases h⟩
        injection h with h
        subst h
        refine ⟨hc1, fun s hs hPs => ?_⟩
        rcases Nat.lt_succ_iff_lt_or_eq.1 hs with h | rfl
        · exact hc2 s h hPs
        · rw [hPs, Bool.and_true] at hq
          have hq := Bool.eq_false_iff.2 hq
          unfold befB at hq
          split at hq
          · omega
          · have := of_decide_eq_false hq; omega
theorem pc_zero : ((List.range 256).all fun b => (pcN b == 0) == (b == 0)) = true := by decide +kernel
theorem pc_elems : ((List.range 256).all fun b => (elemsL 8 b).length == pcN b) = true := by decide +kernel
theorem elems_sum : ((List.range 256).all fun b => (elemsL 8 b).foldl (fun a i => a + 2 ^ i) 0 == b) = true := by decide +kernel
theorem elems_lt_all : ((List.range 9).all fun n => (List.range (2 ^ n)).all fun b => (elemsL 8 b).all fun e => decide (e < n)) = true := by decide +kernel
theorem elems_asc : ((List.range 256).all fun b => (List.range ((elemsL 8 b).length - 1)).all fun i => decide ((elemsL 8 b).getD i 0 < (elemsL 8 b).getD (i + 1) 0)) = true := by decide +kernel
theorem lev_oth {ps : List Po} {lim y : Int} {s : Nat} : levB (othL zeroPo ps s) lim y = true ↔ ∀ i k, i < k → k < ps.length → hasB s i = false → hasB s k = false → tiltB lim y (ps.getD i zeroPo) (ps.getD k zeroPo) = false := by
  have e : levB (othL zeroPo ps s) lim y = true ↔ (othersL ps.length s).Pairwise fun i k => tiltB lim y (ps.getD i zeroPo) (ps.getD k zeroPo) = false := by
    rw [lev_iff, List.pairwise_iff_getElem]
    unfold othL
    rw [List.length_map]
    constructor
    · intro h i j hi hj hij
      have := h i j hij hj
      simpa [List.getD, List.getElem?_map, List.getElem?_eq_getElem hi, List.getElem?_eq_getElem hj] using this
    · intro h i j hij hj
      have := h i j (by omega) hj hij
      simpa [List.getD, List.getElem?_map, List.getElem?_eq_getElem (show i < (othersL ps.length s).length by omega), List.getElem?_eq_getElem hj] using this
  rw [e]
  unfold othersL
  rw [List.pairwise_filter, List.pairwise_iff_getElem]
  simp only [List.length_range, List.getElem_range, Bool.not_eq_true']
  exact ⟨fun h i k hik hk a b => h i k (by omega) hk hik a b, fun h i k hi hk hik a b => h i k hik hk a b⟩
theorem exc_tilt {a b : Po} {x z lim y : Int} (hy : 0 ≤ y) (hx : a.sl ≤ x ∧ x ≤ a.sh) (hz : b.sl ≤ z ∧ z ≤ b.sh) (h : tiltB lim y a b = false) : excB a b x z lim y = false := by
  unfold tiltB at h
  unfold excB
  rw [decide_eq_false_iff_not] at *
  have h1 : max (x - z) (z - x) ≤ apartN a b := by unfold apartN; omega
  have h2 : max (x - z) (z - x) * (y * 1000) ≤ apartN a b * (y * 1000) := Int.mul_le_mul_of_nonneg_right h1 (by omega)
  have h3 : max (x - z) (z - x) * y * 1000 = max (x - z) (z - x) * (y * 1000) := Int.mul_assoc _ _ _
  have h4 : apartN a b * (y * 1000) = 1000 * y * apartN a b := by rw [Int.mul_comm, Int.mul_comm y 1000]
  omega
/-- The number of the first n elements that are in a set. -/
def sizN (n S : Nat) : Nat := (List.range n).foldl (fun a i => a + (S >>> i) % 2) 0
theorem siz_succ (n S : Nat) : sizN (n + 1) S = sizN n S + (S >>> n) % 2 := by
  unfold sizN; rw [List.range_succ, List.foldl_append]; rfl
theorem has_test (S i : Nat) : hasB S i = S.testBit i := by
  unfold hasB
  rw [Nat.testBit_eq_decide_div_mod_eq, Nat.shiftRight_eq_div_pow]
  by_cases h : S / 2 ^ i % 2 = 1
  · rw [h]; rfl
  · rw [decide_eq_false h]
    have : S / 2 ^ i % 2 = 0 := by omega
    rw [this]; rfl
theorem has_mod (n S i : Nat) : hasB (S % 2 ^ n) i = (decide (i < n) && hasB S i) := by
  rw [has_test, has_test, Nat.testBit_mod_two_pow]
theorem bit_has (S i : Nat) : (S >>> i) % 2 = if hasB S i then 1 else 0 := by
  unfold hasB
  have : (S >>> i) % 2 < 2 := Nat.mod_lt _ (by decide)
  by_cases h : (S >>> i) % 2 = 1
  · rw [h]; rfl
  · have : (S >>> i) % 2 = 0 := by omega
    rw [this]; rfl
theorem siz_mod (S n : Nat) : ∀ m, sizN (n + m) (S % 2 ^ n) = sizN n S := by
  have h1 : ∀ j, j ≤ n → sizN j (S % 2 ^ n) = sizN j S := by
    intro j
    induction j with
    | zero => intro _; rfl
    | succ j ih =>
      intro hj
      rw [siz_succ, siz_succ, ih (by omega), bit_has, bit_has, has_mod, decide_eq_true (show j < n by omega), Bool.true_and]
  intro m
  induction m with
  | zero => exact h1 n (Nat.le_refl _)
  | succ m ih =>
    rw [← Nat.add_assoc, siz_succ, ih, bit_has, has_mod, decide_eq_false (show ¬ n + m < n by omega)]
    simp
theorem siz_pc {n : Nat} (S : Nat) (h : n ≤ 8) : pcN (S % 2 ^ n) = sizN n S := by
  have := siz_mod S n (8 - n)
  rw [show n + (8 - n) = 8 by omega] at this
  exact this
/-- The posts to be propped. -/
def prpN (ps : List Po) (lim y : Int) : Nat := (propN ps lim y).getD 0
theorem prp_parts {ps : List Po} (h8 : ps.length ≤ 8) (lim y : Int) :
    prpN ps lim y < 2 ^ ps.length ∧ levB (othL zeroPo ps (prpN ps lim y)) lim y = true ∧ ∀ s, s < 2 ^ ps.length → levB (othL zeroPo ps s) lim y = true → pcN (prpN ps lim y) ≤ pcN s := by
  have hall := levP_all h8 lim y
  have h2 := two_pow h8
  unfold prpN propN
  have hL := few_least (fun s => levB (othL zeroPo ps s) lim y) (2 ^ ps.length)
  cases hf : fewN (fun s => levB (othL zeroPo ps s) lim y) (2 ^ ps.length) with
  | none =>
    have := hL.2 hf (2 ^ ps.length - 1) (by omega)
    unfold levP at hall
    rw [hall] at this
    cases this
  | some b =>
    obtain ⟨a1, a2⟩ := hL.1 b hf
    exact ⟨fewN_lt _ _ _ hf, a1, a2⟩
theorem lt256 {n b : Nat} (h8 : n ≤ 8) (h : b < 2 ^ n) : b < 256 := Nat.lt_of_lt_of_le h (two_pow h8).2
theorem oth_zero (ps : List Po) : othL zeroPo ps 0 = ps := by
  unfold othL othersL
  have : (List.range ps.length).filter (fun i => !hasB 0 i) = List.range ps.length := by
    rw [List.filter_eq_self]
    intro i _
    unfold hasB
    simp
  rw [this]
  exact map_range ps
/-- Nothing is to be propped exactly up to the years for which all stay level. -/
theorem prp_zero {ps : List Po} {lim : Int} (hb : posB ps = true) (hl : 0 ≤ lim) {y : Int} (h0 : 0 ≤ y) (h1 : y ≤ 100) : pcN (prpN ps lim y) = 0 ↔ y ≤ lvlN ps lim := by
  have h8 : ps.length ≤ 8 := (posB_ok hb).1
  obtain ⟨q1, q2, q3⟩ := prp_parts h8 lim y
  have hlt := lt256 h8 q1
  have hz : pcN (prpN ps lim y) = 0 ↔ prpN ps lim y = 0 := by
    have := eq_of_beq (List.all_eq_true.1 pc_zero (prpN ps lim y) (List.mem_range.2 hlt))
    rw [Bool.eq_iff_iff] at this
    simpa using this
  constructor
  · intro h
    by_cases hy : y ≤ lvlN ps lim
    · exact hy
    · rw [hz.1 h, oth_zero, lvl_after hb (by omega) h1] at q2
      cases q2
  · intro h
    have := q3 0 (Nat.two_pow_pos _) (by rw [oth_zero]; exact lvl_upto hb hl h0 h)
    have h9 : pcN 0 = 0 := rfl
    omega
theorem prp_len {ps : List Po} {lim y : Int} (h8 : ps.length ≤ 8) : (propL ps lim y).length = pcN (prpN ps lim y) := by
  unfold propL
  rw [List.length_map]
  exact eq_of_beq (List.all_eq_true.1 pc_elems _ (List.mem_range.2 (lt256 h8 (prp_parts h8 lim y).1)))
/-- The sum of the first k elements' bits. -/
def sumN (es : List Nat) (k : Nat) : Nat := (es.take k).foldl (fun a i => a + 2 ^ i) 0
theorem sum_succ (es : List Nat) {k : Nat} (h : k < es.length) : sumN es (k + 1) = sumN es k + 2 ^ es.getD k 0 := foldl_take_snoc es _ 0 0 k h
theorem prp_es {n b : Nat} (h8 : n ≤ 8) (hb : b < 2 ^ n) :
    (∀ k, k < (elemsL 8 b).length → (elemsL 8 b).getD k 0 < n) ∧ (∀ j k, j + 1 = k → k < (elemsL 8 b).length → (elemsL 8 b).getD j 0 < (elemsL 8 b).getD k 0) ∧ sumN (elemsL 8 b) (elemsL 8 b).length = b := by
  have h256 := lt256 h8 hb
  refine ⟨fun k hk => ?_, fun j k hj hk => ?_, ?_⟩
  · have h1 := List.all_eq_true.1 (List.all_eq_true.1 elems_lt_all n (List.mem_range.2 (by omega))) b (List.mem_range.2 hb)
    exact of_decide_eq_true (List.all_eq_true.1 h1 _ (mem_at _ 0 k hk))
  · subst hj
    have h1 := List.all_eq_true.1 elems_asc b (List.mem_range.2 h256)
    exact of_decide_eq_true (List.all_eq_true.1 h1 j (List.mem_range.2 (by omega)))
  · unfold sumN
    rw [List.take_length]
    exact eq_of_beq (List.all_eq_true.1 elems_sum b (List.mem_range.2 h256))
theorem sum_le {es : List Nat} (h : ∀ k, k < es.length → es.getD k 0 < 8) : ∀ k, k ≤ es.length → sumN es k ≤ 128 * k := by
  intro k
  induction k with
  | zero => intro _; exact Nat.le_refl _
  | succ k ih =>
    intro hk
    rw [sum_succ es (by omega)]
    have h1 := h k (by omega)
    have h2 : 2 ^ es.getD k 0 ≤ 2 ^ 7 := Nat.pow_le_pow_right (by decide) (by omega)
    have := ih (by omega)
    omega
end Go.Proofs.YtggggnjibedgaaaGreat
/- The law's size of a set, and bits of a set of any size. -/
set_option linter.unusedSimpArgs false
set_option linter.unusedVariables false
namespace Go.Proofs.YtggggnjibedgaaaGreat
open Go.RowKit
theorem and_one {y : Nat} (h : y < 9223372036854775808) : bits BinOp.and IntKind.i64 (y : Int) 1 = ((y % 2 : Nat) : Int) := by
  have e0 : bits BinOp.and IntKind.i64 (y : Int) 1 = IntKind.i64.wrap ((BitVec.ofInt 64 (y : Int) &&& BitVec.ofInt 64 1).toNat : Int) := rfl
  have e : (BitVec.ofInt 64 (y : Int) &&& BitVec.ofInt 64 1).toNat = y % 2 := by
    rw [BitVec.toNat_and, ofInt_nat (by omega)]
    have h1 : (BitVec.ofInt 64 1).toNat = 1 := by decide
    rw [h1, Nat.and_one_is_mod]
  rw [e0, e]
  exact IntWalk.i64_in _ (by omega)
theorem or_nat {a b : Nat} (ha : a < 9223372036854775808) (hb : b < 9223372036854775808) : bits BinOp.or IntKind.i64 (a : Int) (b : Int) = ((a ||| b : Nat) : Int) := by
  have e0 : bits BinOp.or IntKind.i64 (a : Int) (b : Int) = IntKind.i64.wrap ((BitVec.ofInt 64 (a : Int) ||| BitVec.ofInt 64 (b : Int)).toNat : Int) := rfl
  have hlt : a ||| b < 2 ^ 63 := Nat.or_lt_two_pow (by omega) (by omega)
  rw [e0, BitVec.toNat_or, ofInt_nat (by omega), ofInt_nat (by omega)]
  exact IntWalk.i64_in _ (by omega)
theorem shr_le (S i : Nat) : S >>> i ≤ S := by
  rw [Nat.shiftRight_eq_div_pow]; exact Nat.div_le_self _ _
theorem shr_int (S i : Nat) : (S : Int) / 2 ^ i = ((S >>> i : Nat) : Int) := by
  rw [Nat.shiftRight_eq_div_pow]
  simp
theorem both_out {S : Nat} (h : S < 9223372036854775808) (i k : Nat) : (bits BinOp.and IntKind.i64 (bits BinOp.or IntKind.i64 ((S >>> i : Nat) : Int) ((S >>> k : Nat) : Int)) 1 == 0) = (!hasB S i && !hasB S k) := by
  have hi := shr_le S i
  have hk := shr_le S k
  rw [or_nat (by omega) (by omega), and_one (Nat.or_lt_two_pow (n := 63) (by omega) (by omega))]
  unfold hasB
  generalize S >>> i = a
  generalize S >>> k = b
  have e := Nat.or_mod_two_eq_one (a := a) (b := b)
  have l : (a ||| b) % 2 < 2 := Nat.mod_lt _ (by decide)
  have la : a % 2 < 2 := Nat.mod_lt _ (by decide)
  have lb : b % 2 < 2 := Nat.mod_lt _ (by decide)
  by_cases h1 : a % 2 = 1
  · have : (a ||| b) % 2 = 1 := e.2 (.inl h1)
    rw [this, h1]; rfl
  · by_cases h2 : b % 2 = 1
    · have : (a ||| b) % 2 = 1 := e.2 (.inr h2)
      rw [this, h2]
      have h3 : a % 2 = 0 := by omega
      rw [h3]; rfl
    · have h3 : a % 2 = 0 := by omega
      have h4 : b % 2 = 0 := by omega
      have h5 : (a ||| b) % 2 = 0 := by
        rcases Nat.lt_or_ge ((a ||| b) % 2) 1 with h6 | h6
        · omega
        · have := e.1 (by omega); omega
      rw [h3, h4, h5]; rfl
theorem siz_le (n S : Nat) : sizN n S ≤ n := by
  induction n with
  | zero => exact Nat.le_refl _
  | succ n ih =>
    rw [siz_succ]
    have : (S >>> n) % 2 < 2 := Nat.mod_lt _ (by decide)
    omega
set_option maxHeartbeats 1000000 in
theorem lsize_any (S m : Nat) (hS : S < 9223372036854775808) (hm : m ≤ 60) (w : World) :
    Calls Tryz.prog 49 #[.int .i64 S, .int .i64 m] w fun e w' => e = .returned (.int .i64 (sizN m S)) ∧ w' = w := by
  have HL := hid (fun k => siz_le k S)
  have HS := hid (fun k => siz_succ k S)
  have H0 := hid (show sizN 0 S = 0 from rfl)
  have H1 := hid (fun k => shr_int S k)
  have HA := hid (fun k => and_one (show S >>> k < 9223372036854775808 from Nat.lt_of_le_of_lt (shr_le S k) hS))
  have HB := hid (fun k => Nat.mod_lt (S >>> k) (show 0 < 2 by decide))
  go_enter Tryz.func49, Tryz.ntmps49
  go_wp2
  go_loopw [5, 6] (fun s i wr => wr = w ∧ ∃ k : Nat, k ≤ m ∧ i = .int .i64 k ∧ s = .int .i64 (sizN k S)) (fun _ i _ => m - (intOf i).toNat)
  case atStart => exact ⟨rfl, 0, Nat.zero_le _, rfl, by rw [H0.out]; rfl⟩
  case round =>
    obtain ⟨rfl, k, hk, rfl, rfl⟩ := hrel
    by_cases hlt : k < m
    · have hs := HL.out k
      have he := HS.out k
      have h1 := H1.out k
      have hA := HA.out k
      have hB := HB.out k
      have hki : (k : Int) < (m : Int) := by omega
      have h64 : min k 64 = k := by omega
      generalize hs2 : sizN (k + 1) S = s2 at *
      generalize sizN k S = s1 at *
      generalize S >>> k = y at *
      have hsum : ((s2 : Nat) : Int) = (s1 : Int) + ((y % 2 : Nat) : Int) := by omega
      go_wp2_with (simp only [h64, h1, hA])
      go_roundw
      case rel =>
        refine ⟨by first | trivial | rfl, k + 1, by omega, by go_num, ?_⟩
        rw [hs2, hsum]
        first | rfl | (simp; done) | (rw [h64, h1, hA]; go_num)
      case measure => simp [intOf]; omega
    · obtain rfl : k = m := by omega
      go_wp2
      go_ret
      exact ⟨rfl, rfl⟩
end Go.Proofs.YtggggnjibedgaaaGreat
/- What the law of the level needs of a pair of posts, in one piece; cells of a block in one piece. -/
set_option linter.unusedSimpArgs false
set_option linter.unusedVariables false
namespace Go.Proofs.YtggggnjibedgaaaGreat
open Go.RowKit
theorem wrap_in {x : Int} (h : 0 ≤ x ∧ x ≤ 1000000) : wrap64 x = x := by
  unfold wrap64; omega
theorem blk3 {W : World} {b : Nat} {t : TypeId} {x0 x1 x2 : Value} (h : Blk W b t #[x0, x1, x2]) : W.cell? ⟨b, 0, none⟩ = some x0 ∧ W.cell? ⟨b, 1, none⟩ = some x1 ∧ W.cell? ⟨b, 2, none⟩ = some x2 ∧ b < W.heap.size := by
  have a0 := h.cell 0
  have a1 := h.cell 1
  have a2 := h.cell 2
  simp only [List.getElem?_toArray, List.getElem?_cons_zero, List.getElem?_cons_succ] at a0 a1 a2
  exact ⟨a0, a1, a2, h.lt⟩
theorem blk4 {W : World} {b : Nat} {t : TypeId} {x0 x1 x2 x3 : Value} (h : Blk W b t #[x0, x1, x2, x3]) : W.cell? ⟨b, 0, none⟩ = some x0 ∧ W.cell? ⟨b, 1, none⟩ = some x1 ∧ W.cell? ⟨b, 2, none⟩ = some x2 ∧ W.cell? ⟨b, 3, none⟩ = some x3 ∧ b < W.heap.size := by
  have a0 := h.cell 0
  have a1 := h.cell 1
  have a2 := h.cell 2
  have a3 := h.cell 3
  simp only [List.getElem?_toArray, List.getElem?_cons_zero, List.getElem?_cons_succ] at a0 a1 a2 a3
  exact ⟨a0, a1, a2, a3, h.lt⟩
theorem lv_pair {ps : List Po} {xs : List Int} {A SA : Option Addr} {k N b S : Nat} {lim yrs : Int} (hN : ps.length = k) (hSN : xs.length = k) (h8 : k ≤ 8) (hl : 0 ≤ lim ∧ lim ≤ 1000) (hyr : 0 ≤ yrs ∧ yrs ≤ 100) (hN100 : N ≤ 100)
    (hb : b < 9223372036854775808) (hS : S < 9223372036854775808) (HPB : ∀ j, j < ps.length → poB (ps.getD j zeroPo) = true)
    (HIN : ∀ j, j < k → (ps.getD j zeroPo).sl ≤ xs.getD j 0 ∧ xs.getD j 0 ≤ (ps.getD j zeroPo).sh)
    (HT1 : ∀ i j, i < j → j < ps.length → tiltB lim (N : Int) (ps.getD i zeroPo) (ps.getD j zeroPo) = false)
    (HT2 : ∀ i j, i < j → j < ps.length → hasB b i = false → hasB b j = false → tiltB lim yrs (ps.getD i zeroPo) (ps.getD j zeroPo) = false)
    (W : World) (hx : PosAt W A ps) (hs : IntsAt W SA xs) (i0 j0 : Nat) (hij : i0 < j0) (hj : j0 < k) :
    ∃ (bb off sb so : Nat) (xp xl xh yp yl yh v v' : Int) (BO CO V1 V2 : Bool) (y1 y2 y3 y4 : Nat),
      A = some ⟨bb, off, none⟩ ∧ SA = some ⟨sb, so, none⟩ ∧
      (bb < W.heap.size ∧ W.cell? ⟨bb, off + i0 * 3, none⟩ = some (.int .i64 xp) ∧ W.cell? ⟨bb, off + i0 * 3 + 1, none⟩ = some (.int .i64 xl) ∧ W.cell? ⟨bb, off + i0 * 3 + 2, none⟩ = some (.int .i64 xh) ∧
        W.cell? ⟨bb, off + j0 * 3, none⟩ = some (.int .i64 yp) ∧ W.cell? ⟨bb, off + j0 * 3 + 1, none⟩ = some (.int .i64 yl) ∧ W.cell? ⟨bb, off + j0 * 3 + 2, none⟩ = some (.int .i64 yh)) ∧
      (sb < W.heap.size ∧ W.cell? ⟨sb, so + i0, none⟩ = some (.int .i64 v) ∧ W.cell? ⟨sb, so + j0, none⟩ = some (.int .i64 v')) ∧
      ((0 : Int) ≤ (i0 : Int) ∧ (i0 : Int) < (k : Int) ∧ (0 : Int) ≤ (j0 : Int) ∧ (j0 : Int) < (k : Int) ∧ min i0 64 = i0 ∧ min j0 64 = j0) ∧
      ((b : Int) / 2 ^ i0 = (y1 : Int) ∧ (b : Int) / 2 ^ j0 = (y2 : Int) ∧ (bits BinOp.and IntKind.i64 (bits BinOp.or IntKind.i64 (y1 : Int) (y2 : Int)) 1 == 0) = BO) ∧
      ((S : Int) / 2 ^ i0 = (y3 : Int) ∧ (S : Int) / 2 ^ j0 = (y4 : Int) ∧ (bits BinOp.and IntKind.i64 (bits BinOp.or IntKind.i64 (y3 : Int) (y4 : Int)) 1 == 0) = CO) ∧
      Hid (∀ W : World, Calls Tryz.prog 53 #[.agg #[.int .i64 xp, .int .i64 xl, .int .i64 xh], .agg #[.int .i64 yp, .int .i64 yl, .int .i64 yh], .int .i64 v, .int .i64 v', .int .i64 lim, .int .i64 (N : Int)] W fun e w' => e = .returned (.bool false) ∧ Ext W w') ∧
      Hid (BO = true → ∀ W : World, Calls Tryz.prog 53 #[.agg #[.int .i64 xp, .int .i64 xl, .int .i64 xh], .agg #[.int .i64 yp, .int .i64 yl, .int .i64 yh], .int .i64 v, .int .i64 v', .int .i64 lim, .int .i64 yrs] W fun e w' => e = .returned (.bool false) ∧ Ext W w') ∧
      Hid (∀ W : World, Calls Tryz.prog 53 #[.agg #[.int .i64 xp, .int .i64 xl, .int .i64 xh], .agg #[.int .i64 yp, .int .i64 yl, .int .i64 yh], .int .i64 xh, .int .i64 yl, .int .i64 lim, .int .i64 yrs] W fun e w' => e = .returned (.bool V1) ∧ Ext W w') ∧
      Hid (∀ W : World, Calls Tryz.prog 53 #[.agg #[.int .i64 xp, .int .i64 xl, .int .i64 xh], .agg #[.int .i64 yp, .int .i64 yl, .int .i64 yh], .int .i64 xl, .int .i64 yh, .int .i64 lim, .int .i64 yrs] W fun e w' => e = .returned (.bool V2) ∧ Ext W w') ∧
      Hid ((V1 = false → V2 = false → tiltB lim yrs (ps.getD i0 zeroPo) (ps.getD j0 zeroPo) = false) ∧ (hasB S i0 = false → hasB S j0 = false → CO = true)) := by
  have hlt : i0 < k := by omega
  obtain ⟨bb, off, rfl, hbb, c0, c1, c2⟩ := hx.at_ hN hlt
  obtain ⟨bb', off', hAe, hbb', d0, d1, d2⟩ := hx.at_ hN hj
  cases hAe
  obtain ⟨sb, so, rfl, hsb, s0⟩ := hs.at_ hSN hlt
  obtain ⟨sb', so', hAe, hsb', s1⟩ := hs.at_ hSN hj
  cases hAe
  have hx1 := HIN i0 hlt
  have hx2 := HIN j0 hj
  have hp1 := HPB i0 (by omega)
  have hp2 := HPB j0 (by omega)
  have ht1 := HT1 i0 j0 hij (by omega)
  have ht2 := HT2 i0 j0 hij (by omega)
  have hcan := canB_eq hp1 hp2 (lim := lim) hyr.1
  have hf1 := exc_tilt (y := (N : Int)) (by omega) hx1 hx2 ht1
  have hf2 := fun a c => exc_tilt hyr.1 hx1 hx2 (ht2 a c)
  have g1 := poB_parts hp1
  have g2 := poB_parts hp2
  unfold canB at hcan
  have HE1 := fun W => exceeds_any (ps.getD i0 zeroPo) (ps.getD j0 zeroPo) (xs.getD i0 0) (xs.getD j0 0) lim N g1.1 g2.1 (by omega) (by omega) hl (by omega) W
  have HE2 := fun W => exceeds_any (ps.getD i0 zeroPo) (ps.getD j0 zeroPo) (xs.getD i0 0) (xs.getD j0 0) lim yrs g1.1 g2.1 (by omega) (by omega) hl (by omega) W
  have HV1 := fun W => exceeds_any (ps.getD i0 zeroPo) (ps.getD j0 zeroPo) (ps.getD i0 zeroPo).sh (ps.getD j0 zeroPo).sl lim yrs g1.1 g2.1 (by omega) (by omega) hl (by omega) W
  have HV2 := fun W => exceeds_any (ps.getD i0 zeroPo) (ps.getD j0 zeroPo) (ps.getD i0 zeroPo).sl (ps.getD j0 zeroPo).sh lim yrs g1.1 g2.1 (by omega) (by omega) hl (by omega) W
  rw [hf1] at HE1
  unfold Po.val at HE1 HE2 HV1 HV2
  refine ⟨bb, off, sb, so, _, _, _, _, _, _, _, _, (!hasB b i0 && !hasB b j0), (!hasB S i0 && !hasB S j0), _, _, b >>> i0, b >>> j0, S >>> i0, S >>> j0, rfl, rfl, ⟨hbb, c0, c1, c2, d0, d1, d2⟩, ⟨hsb, s0, s1⟩, ⟨by omega, by omega, by omega, by omega, by omega, by omega⟩,
    ⟨shr_int b i0, shr_int b j0, both_out hb i0 j0⟩, ⟨shr_int S i0, shr_int S j0, both_out hS i0 j0⟩, hid HE1, hid (fun h W => ?_), hid HV1, hid HV2, hid ⟨fun h1 h2 => ?_, fun h1 h2 => ?_⟩⟩
  · simp only [Bool.and_eq_true, Bool.not_eq_true'] at h
    have h9 := HE2 W
    rw [hf2 h.1 h.2] at h9
    exact h9
  · rw [← hcan, h1, h2]; rfl
  · rw [h1, h2]; rfl
end Go.Proofs.YtggggnjibedgaaaGreat
