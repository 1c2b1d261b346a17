/- What holds in each hour of a possible weather (no program). -/
import Derived.Test.YtcpkdnegmblonaaDoorBTopTrue22
import Derived.Test.YtcpkdnegmblonaaDoorBTopTrue27
import Derived.Test.YtcpkdnegmblonaaDoorB16
import Derived.Test.YtcpkdnegmblonaaDoorB06
set_option linter.unusedSimpArgs false
set_option linter.unusedVariables false
namespace Go.Proofs.YtcpkdnegmblonaaDoor
open Go.RowKit
theorem obsM_all (P : Nat → Hr → Prop) : ∀ (seen : List Sg) (hs : List Hr), (∀ h, h < hs.length → P h (hs.getD h zeroHr)) → (∀ s ∈ seen, s.hour.toNat < hs.length → P s.hour.toNat (justM s)) → ∀ h, h < hs.length → P h ((obsM seen hs).getD h zeroHr)
  | [], hs, h1, _, h, hh => h1 h hh
  | s :: ss, hs, h1, h2, h, hh => by
    have e : obsM (s :: ss) hs = obsM ss (hs.set s.hour.toNat (justM s)) := rfl
    rw [e]
    refine obsM_all P ss _ (fun i hi => ?_) (fun t ht hl => h2 t (by simp [ht]) (by rw [List.length_set] at hl; exact hl)) h (by rw [List.length_set]; exact hh)
    rw [List.length_set] at hi
    by_cases hie : i = s.hour.toNat
    · subst hie
      have e2 : (hs.set s.hour.toNat (justM s)).getD s.hour.toNat zeroHr = justM s := by
        simp [List.getD, List.getElem?_set_self hi]
      rw [e2]
      exact h2 s (by simp) hi
    · have e2 : (hs.set s.hour.toNat (justM s)).getD i zeroHr = hs.getD i zeroHr := by
        have hne : s.hour.toNat ≠ i := fun h => hie h.symm
        simp [List.getD, List.getElem?_set_ne hne]
      rw [e2]
      exact h1 i hi
/-- All hours of the scenarios of an outlook are valid. -/
theorem scs_hr {f : List (List Hr)} {seen : List Sg} (hfc : fcB f = true) (hsg : sgsB (hoursN f) seen = true) {hs : List Hr} (hm : hs ∈ scsM seen f) : ∀ i, i < hoursN f → hrB (hs.getD i zeroHr) = true := by
  unfold scsM at hm
  obtain ⟨y, hy, rfl⟩ := List.mem_map.1 hm
  have hy1 := (List.mem_filter.1 hy).1
  obtain ⟨hl, ha⟩ := (fc_ok hfc).2.2.2.2 y hy1
  intro i hi
  refine obsM_all (fun _ h => hrB h = true) seen y (fun h hh => ?_) (fun s hs _ => ?_) i (by rw [hl]; exact hi)
  · exact List.all_eq_true.1 ha _ (mem_at y zeroHr h hh)
  · unfold sgsB at hsg
    rw [Bool.and_eq_true, List.all_eq_true] at hsg
    have := hsg.2 s hs
    unfold sgB at this
    simp only [Bool.and_eq_true] at this
    exact this.2.2
/-- The spans of what is so: which numbers are in them. -/
theorem spans_in (p : Nat → Bool) : ∀ k, (∀ s ∈ spansM p k, 0 ≤ s.1 ∧ s.1 ≤ s.2 ∧ s.2 < (k : Int)) ∧ ∀ i : Nat, isInM i (spansM p k) = (decide (i < k) && p i)
  | 0 => by
    refine ⟨fun s hs => by simp [spansM] at hs, fun i => ?_⟩
    simp [spansM, isInM]
  | k + 1 => by
    obtain ⟨h1, h2⟩ := spans_in p k
    rw [spansM_step]
    by_cases hp : p k = true
    · rw [if_pos hp]
      have hall : ∀ i : Nat, (decide (i < k + 1) && p i) = (isInM i (spansM p k) || decide (i = k)) := fun i => by
        rw [h2 i]
        by_cases hik : i = k
        · subst hik; simp [hp]
        · rw [decide_eq_false hik, Bool.or_false, show decide (i < k + 1) = decide (i < k) from decide_eq_decide.2 (by omega)]
      generalize spansM p k = acc at *
      unfold spStep
      cases hl : acc.getLast? with
      | none =>
        have hnil : acc = [] := List.getLast?_eq_none_iff.1 hl
        subst hnil
        refine ⟨fun s hs => ?_, fun i => ?_⟩
        · simp at hs; subst hs; dsimp only; omega
        · rw [hall i]
          unfold isInM inI
          rw [Bool.eq_iff_iff]
          simp
          omega
      | some s =>
        obtain ⟨lo, hi⟩ := s
        dsimp only
        obtain ⟨pre, hpre⟩ := List.getLast?_eq_some_iff.1 hl
        subst hpre
        have hlast := h1 (lo, hi) (by simp)
        dsimp only at hlast
        by_cases hj : hi = (k : Int) - 1
        · rw [if_pos hj, List.dropLast_concat]
          refine ⟨fun s hs => ?_, fun i => ?_⟩
          · rcases List.mem_append.1 hs with h | h
            · have := h1 s (List.mem_append_left _ h); omega
            · simp at h; subst h; dsimp only; omega
          · rw [hall i]
            unfold isInM inI
            rw [List.any_append, List.any_append, Bool.eq_iff_iff]
            generalize (pre.any fun s => decide (s.1 ≤ (i : Int)) && decide ((i : Int) ≤ s.2)) = B
            simp only [List.any_cons, List.any_nil, Bool.or_false, Bool.or_eq_true, Bool.and_eq_true, decide_eq_true_eq]
            cases B
            · simp only [Bool.false_eq_true, false_or]; omega
            · simp
        · rw [if_neg hj]
          refine ⟨fun s hs => ?_, fun i => ?_⟩
          · rcases List.mem_append.1 hs with h | h
            · have := h1 s h; omega
            · simp at h; subst h; dsimp only; omega
          · rw [hall i]
            unfold isInM inI
            rw [List.any_append, Bool.eq_iff_iff]
            generalize ((pre ++ [(lo, hi)]).any fun s => decide (s.1 ≤ (i : Int)) && decide ((i : Int) ≤ s.2)) = B
            simp only [List.any_cons, List.any_nil, Bool.or_false, Bool.or_eq_true, Bool.and_eq_true, decide_eq_true_eq]
            cases B
            · simp only [Bool.false_eq_true, false_or]; omega
            · simp
    · rw [if_neg hp]
      refine ⟨fun s hs => by have := h1 s hs; omega, fun i => ?_⟩
      rw [h2 i]
      have hpf : p k = false := by simpa using hp
      by_cases hik : i = k
      · subst hik; simp [hpf]
      · rw [show decide (i < k + 1) = decide (i < k) from decide_eq_decide.2 (by omega)]
theorem spans_at (p : Nat → Bool) (n i : Nat) (hi : i < n) : isInM i (spansM p n) = p i := by
  rw [(spans_in p n).2 i, decide_eq_true hi, Bool.true_and]
theorem ask_one (l : Lm) (hour op : Nat) : askM [⟨0, 0, l⟩] hour op = if op ≤ hour then andL wideL l else wideL := by
  show (if (op : Int) - 0 ≤ (hour : Int) then andL wideL l else wideL) = _
  by_cases h : op ≤ hour
  · rw [if_pos h, if_pos (by omega)]
  · rw [if_neg h, if_neg (by omega)]
theorem sur_and {l : Lm} {h : Hr} (hs : surB (andL wideL l) h = true) : surB l h = true := by
  unfold surB spB andL wideL at hs
  unfold surB spB
  simp only [Bool.and_eq_true, decide_eq_true_eq] at *
  omega
theorem may_wide {h : Hr} (hv : hrB h = true) : mayB wideL h = true := by
  unfold hrB spB at hv
  unfold mayB wideL
  simp only [Bool.and_eq_true, decide_eq_true_eq] at *
  omega
theorem may_and {l : Lm} {h : Hr} (hv : hrB h = true) (hl : lmB l = true) (hm : mayB l h = true) : mayB (andL wideL l) h = true := by
  unfold hrB spB at hv
  unfold lmB inI spB at hl
  unfold mayB at hm
  unfold mayB andL wideL
  simp only [Bool.and_eq_true, decide_eq_true_eq] at *
  omega
theorem sure_one {l : Lm} {ss : List (List Hr)} {n i : Nat} (hi : i < n) (h : isInM i (sureM [⟨0, 0, l⟩] ss n) = true) {hs : List Hr} (hm : hs ∈ ss) : surB l (hs.getD i zeroHr) = true := by
  unfold sureM at h
  rw [spans_at _ _ _ hi] at h
  have h1 := List.all_eq_true.1 h hs hm
  unfold isOpenM at h1
  have h2 := List.all_eq_true.1 h1 i (List.mem_range.2 (by omega))
  rw [ask_one, if_pos (Nat.le_refl _)] at h2
  exact sur_and h2
theorem may_one {l : Lm} {ss : List (List Hr)} {n i : Nat} (hi : i < n) (hl : lmB l = true) {hs : List Hr} (hm : hs ∈ ss) (hv : ∀ j, j < n → hrB (hs.getD j zeroHr) = true) (hk : mayB l (hs.getD i zeroHr) = true) : isInM i (mayM [⟨0, 0, l⟩] ss n) = true := by
  unfold mayM
  rw [spans_at _ _ _ hi]
  refine List.any_eq_true.2 ⟨hs, hm, ?_⟩
  unfold isOpenM
  refine List.all_eq_true.2 fun j hj => ?_
  have hj := List.mem_range.1 hj
  rw [ask_one]
  by_cases h : i ≤ j
  · obtain rfl : j = i := by omega
    rw [if_pos (Nat.le_refl _)]
    exact may_and (hv _ hi) hl hk
  · rw [if_neg h]
    exact may_wide (hv _ (by omega))
/-- All that is in an hour is in another one. -/
def SubH (a b : Hr) : Prop := b.wl ≤ a.wl ∧ a.wh ≤ b.wh ∧ b.rl ≤ a.rl ∧ a.rh ≤ b.rh ∧ b.tl ≤ a.tl ∧ a.th ≤ b.th
theorem hull_sub (g : List Hr → Hr) : ∀ (ss : List (List Hr)) (a : Hr), SubH a (ss.foldl (fun a hs => hullM a (g hs)) a) ∧ ∀ hs ∈ ss, SubH (g hs) (ss.foldl (fun a hs => hullM a (g hs)) a)
  | [], a => ⟨⟨Int.le_refl _, Int.le_refl _, Int.le_refl _, Int.le_refl _, Int.le_refl _, Int.le_refl _⟩, fun x h => by simp at h⟩
  | y :: ys, a => by
    obtain ⟨h1, h2⟩ := hull_sub g ys (hullM a (g y))
    rw [List.foldl_cons]
    generalize ys.foldl (fun a hs => hullM a (g hs)) (hullM a (g y)) = z at *
    unfold SubH hullM at *
    dsimp only at *
    refine ⟨by omega, fun x hx => ?_⟩
    rcases List.mem_cons.1 hx with rfl | hx
    · omega
    · exact h2 x hx
theorem ins_sub {s : Sk} {a b : Hr} (h : insB s a = true) (hs : SubH a b) : insB s b = true := by
  unfold insB inI SubH at *
  simp only [Bool.and_eq_true, decide_eq_true_eq] at *
  omega
/-- What the law asks for. -/
structure TrueOk (f : List (List Hr)) (seen : List Sg) (skies : List Sk) (l : Lm) : Prop where
  keeps : keepsE f seen l = 0
  rng : ∀ h : Nat, h < skies.length → rngE f seen h = 0
  ins : ∀ h : Nat, h < skies.length → insB (skies.getD h zeroSk) (rngV f seen h) = true
  sure : ∀ h : Nat, h < skies.length → isInM h (sureV f seen l) = true → keptB (skies.getD h zeroSk) l = true
  may : ∀ h : Nat, h < skies.length → keptB (skies.getD h zeroSk) l = true → isInM h (mayV f seen l) = true
theorem true_ok {f : List (List Hr)} {seen : List Sg} {skies : List Sk} {l : Lm} (hs0 : seenE f seen = 0) (hw : weaB f seen skies = true) (hl : lmB l = true) : TrueOk f seen skies l := by
  obtain ⟨hfc0, hsg0⟩ := seenE_ok hs0
  have hfc := fcE_ok hfc0
  have hsg := sgE_ok hsg0
  obtain ⟨hkl, hs, hmem, hsl, hins⟩ := wea_scen hfc hw
  have hss : scsM seen f ≠ [] := List.ne_nil_of_mem hmem
  have hnn : numsM seen f ≠ [] := by
    intro h
    have h1 := numsM_scs seen f
    rw [h] at h1
    exact hss (List.length_eq_zero_iff.1 h1.symm)
  have hk : keepsE f seen l = 0 := by
    unfold keepsE begM
    have h1 : orM [fcE f, sgE f seen, lmE l] = 0 := by
      rw [hfc0, hsg0]
      have e1 : lmE l = 0 := by unfold lmE; rw [hl]; rfl
      rw [e1]
      rfl
    rw [if_pos h1, if_neg hnn]
  have hr : ∀ h : Nat, h < skies.length → rngE f seen h = 0 := fun h hh => by
    unfold rngE begM
    have h1 : orM [fcE f, sgE f seen, hrE f h] = 0 := by
      rw [hfc0, hsg0]
      have e1 : hrE f h = 0 := by
        unfold hrE unlessM inI
        rw [decide_eq_true (show (0 : Int) ≤ h by omega), decide_eq_true (show (h : Int) ≤ (hoursN f : Int) - 1 by omega)]
        rfl
      rw [e1]
      rfl
    rw [if_pos h1, if_neg hnn]
  have hsV : sureV f seen l = sureM [⟨0, 0, l⟩] (scsM seen f) (hoursN f) := if_pos hk
  have hmV : mayV f seen l = mayM [⟨0, 0, l⟩] (scsM seen f) (hoursN f) := if_pos hk
  refine ⟨hk, hr, fun h hh => ?_, fun h hh hi => ?_, fun h hh hi => ?_⟩
  · have e : rngV f seen h = wholeM (scsM seen f) h := by
      unfold rngV
      rw [if_pos (hr h hh), Int.toNat_natCast]
    rw [e]
    exact ins_sub (hins h (by omega)) ((hull_sub (fun x => x.getD h zeroHr) (scsM seen f) _).2 hs hmem)
  · rw [hsV] at hi
    exact sur_kept (hins h (by omega)) (sure_one (by omega) hi hmem)
  · rw [hmV]
    exact may_one (by omega) hl hmem (scs_hr hfc hsg hmem) (kept_may (hins h (by omega)) hi)
end Go.Proofs.YtcpkdnegmblonaaDoor
/- inside: an hour in some spans. -/
set_option linter.unusedSimpArgs false
set_option linter.unusedVariables false
namespace Go.Proofs.YtcpkdnegmblonaaDoor
open Go.RowKit
set_option maxHeartbeats 2000000 in
set_option maxRecDepth 100000 in
theorem linside_any (l : List (Int × Int)) (A : Option Addr) (n c : Nat) (hn : l.length = n) (hm : n ≤ 10000) (x : Int) (w : World) (hx : OpensAt w A l) :
    Calls Tryd.prog 22 #[.slice A n c, .int .i64 x] w fun e w' => e = .returned (.bool (isInM x l)) ∧ w' = w := by
  have HX := hid hx
  have HN := hid hn
  have HS := hid (fun k hk => any_take_snoc l (fun s => inI x s.1 s.2) (0, 0) k hk)
  have HY := hid (fun k hk hp => any_of_at l (fun s => inI x s.1 s.2) (0, 0) k hk hp)
  have HE := hid (fun k (h : (l.take k).any (fun s => inI x s.1 s.2) = false) hk => any_false_end h hk)
  have HR := hid (show isInM x l = l.any (fun s => inI x s.1 s.2) from rfl)
  obtain ⟨R, hR⟩ : ∃ R, isInM x l = R := ⟨_, rfl⟩
  rw [hR] at HR ⊢
  clear hx hn hR
  go_enter Tryd.func22, Tryd.ntmps22
  go_wp2
  go_loop [5] (fun i => ∃ k : Nat, k ≤ n ∧ i = .int .i64 k ∧ Hid ((l.take k).any (fun s => inI x s.1 s.2) = false)) (fun i => n - (intOf i).toNat)
  case atStart => exact ⟨0, Nat.zero_le _, rfl, hid rfl⟩
  case round =>
    obtain ⟨k, hk, rfl, HA⟩ := hrel
    by_cases hlt : k < n
    · obtain ⟨b, off, rfl, hb, c0, c1⟩ := HX.out.at_ HN.out hlt
      have HS1 := hid (HS.out k (by rw [HN.out]; exact hlt))
      have HY1 := hid (HY.out k (by rw [HN.out]; exact hlt))
      generalize l.getD k (0, 0) = s at *
      obtain ⟨lo, hi⟩ := s
      dsimp only at *
      unfold inI at HS1 HY1
      clear HS HY HE HX
      by_cases h1 : lo ≤ x
      · by_cases h2 : x ≤ hi
        · have HRR := hid (HR.out.trans (HY1.out (by simp [h1, h2])))
          clear HS1 HY1 HR HA
          go_wp2
          go_ret
          exact ⟨ret_bool HRR.out.symm, rfl⟩
        · have HN2 := hid (show (l.take (k + 1)).any (fun s => inI x s.1 s.2) = false from HS1.out.trans (by rw [show ((l.take k).any fun s => decide (s.1 ≤ x) && decide (x ≤ s.2)) = false from HA.out]; simp [h2]))
          clear HS1 HY1 HR HA
          go_wp2
          go_round
          case rel => exact ⟨k + 1, by omega, by go_num, HN2⟩
          case measure => simp [intOf]; omega
      · have HN2 := hid (show (l.take (k + 1)).any (fun s => inI x s.1 s.2) = false from HS1.out.trans (by rw [show ((l.take k).any fun s => decide (s.1 ≤ x) && decide (x ≤ s.2)) = false from HA.out]; simp [h1]))
        clear HS1 HY1 HR HA
        go_wp2
        go_round
        case rel => exact ⟨k + 1, by omega, by go_num, HN2⟩
        case measure => simp [intOf]; omega
    · obtain rfl : k = n := by omega
      have HRR := hid (HR.out.trans (HE.out k HA.out (by rw [HN.out]; exact Nat.le_refl _)))
      clear HS HY HE HR HA HX
      go_wp2
      go_ret
      exact ⟨ret_bool HRR.out.symm, rfl⟩
end Go.Proofs.YtcpkdnegmblonaaDoor
