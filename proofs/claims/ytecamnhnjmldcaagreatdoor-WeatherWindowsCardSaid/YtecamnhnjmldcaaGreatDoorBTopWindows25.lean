/- What holds in each hour of a possible weather (no program). -/
import Derived.Test.YtecamnhnjmldcaaGreatDoorBTopWindows23
import Derived.Test.YtecamnhnjmldcaaGreatDoorBTopWindows24
import Derived.Test.YtecamnhnjmldcaaGreatDoorB19
import Derived.Test.YtecamnhnjmldcaaGreatDoorBTopWindows22
import Derived.OwnWalk
import Derived.Test.YtecamnhnjmldcaaGreatDoorB20
import Derived.Test.YtecamnhnjmldcaaGreatDoorB08
set_option linter.unusedSimpArgs false
set_option linter.unusedVariables false
namespace Go.Proofs.YtecamnhnjmldcaaGreatDoor
open Go.RowKit
/-- All hours of the scenarios of an outlook are valid. -/
theorem scs_hr {f : List (List Hr)} {seen : List Sg} (hfc : fcB f = true) (hsg : sgsB (hoursN f) seen = true) {hs : List Hr} (hm : hs ∈ scsM seen f) : ∀ i, i < hoursN f → hrB (hs.getD i zeroHr) = true := by
  unfold scsM at hm
  obtain ⟨y, hy, rfl⟩ := List.mem_map.1 hm
  have hy1 := (List.mem_filter.1 hy).1
  obtain ⟨hl, ha⟩ := (fc_ok hfc).2.2.2.2 y hy1
  intro i hi
  refine obsM_all (fun _ h => hrB h = true) seen y (fun h hh => ?_) (fun s hs _ => ?_) i (by rw [hl]; exact hi)
  · exact List.all_eq_true.1 ha _ (mem_at y zeroHr h hh)
  · unfold sgsB at hsg
    rw [Bool.and_eq_true, List.all_eq_true] at hsg
    have := hsg.2 s hs
    unfold sgB at this
    simp only [Bool.and_eq_true] at this
    exact this.2.2
/-- The spans of what is so: which numbers are in them. -/
theorem spans_in (p : Nat → Bool) : ∀ k, (∀ s ∈ spansM p k, 0 ≤ s.1 ∧ s.1 ≤ s.2 ∧ s.2 < (k : Int)) ∧ ∀ i : Nat, isInM i (spansM p k) = (decide (i < k) && p i)
  | 0 => by
    refine ⟨fun s hs => by simp [spansM] at hs, fun i => ?_⟩
    simp [spansM, isInM]
  | k + 1 => by
    obtain ⟨h1, h2⟩ := spans_in p k
    rw [spansM_step]
    by_cases hp : p k = true
    · rw [if_pos hp]
      have hall : ∀ i : Nat, (decide (i < k + 1) && p i) = (isInM i (spansM p k) || decide (i = k)) := fun i => by
        rw [h2 i]
        by_cases hik : i = k
        · subst hik; simp [hp]
        · rw [decide_eq_false hik, Bool.or_false, show decide (i < k + 1) = decide (i < k) from decide_eq_decide.2 (by omega)]
      generalize spansM p k = acc at *
      unfold spStep
      cases hl : acc.getLast? with
      | none =>
        have hnil : acc = [] := List.getLast?_eq_none_iff.1 hl
        subst hnil
        refine ⟨fun s hs => ?_, fun i => ?_⟩
        · simp at hs; subst hs; dsimp only; omega
        · rw [hall i]
          unfold isInM inI
          rw [Bool.eq_iff_iff]
          simp
          omega
      | some s =>
        obtain ⟨lo, hi⟩ := s
        dsimp only
        obtain ⟨pre, hpre⟩ := List.getLast?_eq_some_iff.1 hl
        subst hpre
        have hlast := h1 (lo, hi) (by simp)
        dsimp only at hlast
        by_cases hj : hi = (k : Int) - 1
        · rw [if_pos hj, List.dropLast_concat]
          refine ⟨fun s hs => ?_, fun i => ?_⟩
          · rcases List.mem_append.1 hs with h | h
            · have := h1 s (List.mem_append_left _ h); omega
            · simp at h; subst h; dsimp only; omega
          · rw [hall i]
            unfold isInM inI
            rw [List.any_append, List.any_append, Bool.eq_iff_iff]
            generalize (pre.any fun s => decide (s.1 ≤ (i : Int)) && decide ((i : Int) ≤ s.2)) = B
            simp only [List.any_cons, List.any_nil, Bool.or_false, Bool.or_eq_true, Bool.and_eq_true, decide_eq_true_eq]
            cases B
            · simp only [Bool.false_eq_true, false_or]; omega
            · simp
        · rw [if_neg hj]
          refine ⟨fun s hs => ?_, fun i => ?_⟩
          · rcases List.mem_append.1 hs with h | h
            · have := h1 s h; omega
            · simp at h; subst h; dsimp only; omega
          · rw [hall i]
            unfold isInM inI
            rw [List.any_append, Bool.eq_iff_iff]
            generalize ((pre ++ [(lo, hi)]).any fun s => decide (s.1 ≤ (i : Int)) && decide ((i : Int) ≤ s.2)) = B
            simp only [List.any_cons, List.any_nil, Bool.or_false, Bool.or_eq_true, Bool.and_eq_true, decide_eq_true_eq]
            cases B
            · simp only [Bool.false_eq_true, false_or]; omega
            · simp
    · rw [if_neg hp]
      refine ⟨fun s hs => by have := h1 s hs; omega, fun i => ?_⟩
      rw [h2 i]
      have hpf : p k = false := by simpa using hp
      by_cases hik : i = k
      · subst hik; simp [hpf]
      · rw [show decide (i < k + 1) = decide (i < k) from decide_eq_decide.2 (by omega)]
theorem spans_at (p : Nat → Bool) (n i : Nat) (hi : i < n) : isInM i (spansM p n) = p i := by
  rw [(spans_in p n).2 i, decide_eq_true hi, Bool.true_and]
theorem ask_one (l : Lm) (hour op : Nat) : askM [⟨0, 0, l⟩] hour op = if op ≤ hour then andL wideL l else wideL := by
  show (if (op : Int) - 0 ≤ (hour : Int) then andL wideL l else wideL) = _
  by_cases h : op ≤ hour
  · rw [if_pos h, if_pos (by omega)]
  · rw [if_neg h, if_neg (by omega)]
theorem sur_and {l : Lm} {h : Hr} (hs : surB (andL wideL l) h = true) : surB l h = true := by
  unfold surB spB andL wideL at hs
  unfold surB spB
  simp only [Bool.and_eq_true, decide_eq_true_eq] at *
  omega
theorem may_wide {h : Hr} (hv : hrB h = true) : mayB wideL h = true := by
  unfold hrB spB at hv
  unfold mayB wideL
  simp only [Bool.and_eq_true, decide_eq_true_eq] at *
  omega
theorem may_and {l : Lm} {h : Hr} (hv : hrB h = true) (hl : lmB l = true) (hm : mayB l h = true) : mayB (andL wideL l) h = true := by
  unfold hrB spB at hv
  unfold lmB inI spB at hl
  unfold mayB at hm
  unfold mayB andL wideL
  simp only [Bool.and_eq_true, decide_eq_true_eq] at *
  omega
theorem sure_one {l : Lm} {ss : List (List Hr)} {n i : Nat} (hi : i < n) (h : isInM i (sureM [⟨0, 0, l⟩] ss n) = true) {hs : List Hr} (hm : hs ∈ ss) : surB l (hs.getD i zeroHr) = true := by
  unfold sureM at h
  rw [spans_at _ _ _ hi] at h
  have h1 := List.all_eq_true.1 h hs hm
  unfold isOpenM at h1
  have h2 := List.all_eq_true.1 h1 i (List.mem_range.2 (by omega))
  rw [ask_one, if_pos (Nat.le_refl _)] at h2
  exact sur_and h2
theorem may_one {l : Lm} {ss : List (List Hr)} {n i : Nat} (hi : i < n) (hl : lmB l = true) {hs : List Hr} (hm : hs ∈ ss) (hv : ∀ j, j < n → hrB (hs.getD j zeroHr) = true) (hk : mayB l (hs.getD i zeroHr) = true) : isInM i (mayM [⟨0, 0, l⟩] ss n) = true := by
  unfold mayM
  rw [spans_at _ _ _ hi]
  refine List.any_eq_true.2 ⟨hs, hm, ?_⟩
  unfold isOpenM
  refine List.all_eq_true.2 fun j hj => ?_
  have hj := List.mem_range.1 hj
  rw [ask_one]
  by_cases h : i ≤ j
  · obtain rfl : j = i := by omega
    rw [if_pos (Nat.le_refl _)]
    exact may_and (hv _ hi) hl hk
  · rw [if_neg h]
    exact may_wide (hv _ (by omega))
/-- All that is in an hour is in another one. -/
def SubH (a b : Hr) : Prop := b.wl ≤ a.wl ∧ a.wh ≤ b.wh ∧ b.rl ≤ a.rl ∧ a.rh ≤ b.rh ∧ b.tl ≤ a.tl ∧ a.th ≤ b.th
end Go.Proofs.YtecamnhnjmldcaaGreatDoor
/- Keeps, Window and Gap: what the specification and the program compute is the same (no program). -/
set_option linter.unusedSimpArgs false
set_option linter.unusedVariables false
namespace Go.Proofs.YtecamnhnjmldcaaGreatDoor
open Go.RowKit
theorem rlimE_keeps (f : List (List Hr)) (seen : List Sg) (l : Lm) : rlimE f seen l true = keepsE f seen l := by
  unfold rlimE keepsE begM seenE fcE sgE lmE
  cases fcB f <;> cases sgsB (hoursN f) seen <;> cases lmB l <;> simp [orM, unlessM]
theorem rlimE_win (f : List (List Hr)) (seen : List Sg) (l : Lm) (len : Int) : rlimE f seen l (inI len 1 48) = winE f seen l len := by
  unfold rlimE winE begM seenE fcE sgE lmE lgE
  cases fcB f <;> cases sgsB (hoursN f) seen <;> cases lmB l <;> cases inI len 1 48 <;> simp [orM, unlessM]
theorem scs_numsM (seen : List Sg) (f : List (List Hr)) : scsM seen f = (numsM seen f).map (fun i => obsM seen (f.getD i.toNat [])) := by
  have h : ∀ k, k ≤ f.length → ((f.take k).filter (allowB seen)).map (obsM seen) = ((List.range k).filter fun i => allowB seen (f.getD i [])).map (fun i => obsM seen (f.getD i [])) := by
    intro k
    induction k with
    | zero => intro _; rfl
    | succ k ih =>
      intro hk
      have e1 : f.getD k [] = f[k] := by simp [List.getD, List.getElem?_eq_getElem (show k < f.length by omega)]
      rw [List.take_succ_eq_append_getElem (by omega), List.filter_append, List.map_append, ih (by omega), List.range_succ, List.filter_append, List.map_append]
      simp only [List.filter_cons, List.filter_nil, e1]
      cases hb : allowB seen f[k]
      · simp only [Bool.false_eq_true, if_false, List.map_nil]
      · simp only [if_true, List.map_cons, List.map_nil, e1]
  have h2 := h f.length (Nat.le_refl _)
  rw [List.take_of_length_le (Nat.le_refl _)] at h2
  unfold scsM numsM
  rw [h2, List.map_map]
  rfl
theorem rowL_at (p : Hr → Bool) (ob : List Hr) (n i : Nat) (hi : i < n) : (rowL p ob n).getD i false = p (ob.getD i zeroHr) := by
  unfold rowL
  simp [List.getD, List.getElem?_eq_getElem (show i < (List.range n).length by simp; exact hi)]
theorem win_row {p q : Hr → Bool} {ob : List Hr} {n : Nat} (hpq : ∀ i, i < n → p (ob.getD i zeroHr) = q (ob.getD i zeroHr)) (len x : Nat) (hx : x + len ≤ n) :
    WinAt (fun i => (rowL p ob n).getD i false) len x ↔ WinAt (fun i => q (ob.getD i zeroHr)) len x := by
  unfold WinAt
  constructor
  · intro h j hj
    have := h j hj
    dsimp only at this ⊢
    rw [rowL_at p ob n _ (by omega), hpq _ (by omega)] at this
    exact this
  · intro h j hj
    have := h j hj
    dsimp only at this ⊢
    rw [rowL_at p ob n _ (by omega), hpq _ (by omega)]
    exact this
theorem part_at (l : List Bool) (a d i : Nat) (hi : i < d) : ((l.drop a).take d).getD i false = l.getD (a + i) false := by
  simp only [List.getD, List.getElem?_take, List.getElem?_drop, if_pos hi]
theorem win_part (l : List Bool) (len a d x : Nat) (hx : x + len ≤ d) : WinAt (fun i => ((l.drop a).take d).getD i false) len x ↔ WinAt (fun i => l.getD i false) len (a + x) := by
  unfold WinAt
  constructor
  · intro h j hj
    have := h j hj
    dsimp only at this ⊢
    rw [part_at l a d _ (by omega)] at this
    rw [Nat.add_assoc]; exact this
  · intro h j hj
    have := h j hj
    dsimp only at this ⊢
    rw [part_at l a d _ (by omega), ← Nat.add_assoc]
    exact this
/-- The first window of a row, and that of the hours. -/
theorem begV_row {p q : Hr → Bool} {ob : List Hr} {n : Nat} (hn : ob.length = n) (hpq : ∀ i, i < n → p (ob.getD i zeroHr) = q (ob.getD i zeroHr)) {len : Nat} (hlen : 1 ≤ len) :
    begV (rowL p ob n) len = noneE (nxtM q len n ob 0) n := by
  have hW := fun x hx => win_row hpq len x hx
  have hl := rowL_len p ob n
  unfold noneE
  rcases begV_spec (rowL p ob n) len hlen with ⟨h1, h2⟩ | ⟨b, h1, h2, h3, h4⟩ <;> rcases nxtM_spec q len n ob hlen hn 0 with ⟨g1, g2⟩ | ⟨g1, g2, g3, g4⟩
  · rw [h1, g1, if_pos rfl]
  · exact absurd ((hW _ g2).2 g3) (h2 _ (by omega))
  · exact absurd ((hW b (by omega)).1 h3) (g2 b (Nat.zero_le _) (by omega))
  · rw [h1, if_neg (by omega)]
    have a1 : ¬ b < nxtM q len n ob 0 := fun h => g4 b (Nat.zero_le _) h ((hW b (by omega)).1 h3)
    have a2 : ¬ nxtM q len n ob 0 < b := fun h => h4 _ h ((hW _ g2).2 g3)
    omega
theorem lack1_ge {l : List Bool} {len a : Nat} : ∀ k m, m ≤ lack1 l len a k m ∧ ∀ d, d < k → begV ((l.drop a).take (d + 1)) len < 0 → d + 1 ≤ lack1 l len a k m
  | 0, m => ⟨Nat.le_refl _, fun d hd => by omega⟩
  | k + 1, m => by
    obtain ⟨h1, h2⟩ := lack1_ge (l := l) (len := len) (a := a) k m
    rw [lack1_step]
    by_cases hb : begV ((l.drop a).take (k + 1)) len < 0
    · rw [if_pos hb]
      refine ⟨by omega, fun d hd hd2 => ?_⟩
      by_cases e : d = k
      · omega
      · have := h2 d (by omega) hd2; omega
    · rw [if_neg hb]
      refine ⟨h1, fun d hd hd2 => ?_⟩
      by_cases e : d = k
      · exact absurd (e ▸ hd2) hb
      · exact h2 d (by omega) hd2
theorem lackK_ge {l : List Bool} {len : Nat} : ∀ k, k ≤ l.length → ∀ a, a < k → ∀ d, a + d < l.length → begV ((l.drop a).take (d + 1)) len < 0 → d + 1 ≤ lackK l len k
  | 0, _ => fun a ha => by omega
  | k + 1, hk => fun a ha d hd hb => by
    rw [lackK_step]
    obtain ⟨h1, h2⟩ := lack1_ge (l := l) (len := len) (a := k) (l.length - k) (lackK l len k)
    by_cases e : a = k
    · subst e; exact h2 d (by omega) hb
    · have := lackK_ge (l := l) (len := len) k (by omega) a (by omega) d hd hb
      omega
theorem gap1_bd {kept : Hr → Bool} {len n : Nat} {hs : List Hr} {B m : Nat} (hm : m ≤ B) (h : ∀ a, a < n → min (nxtM kept len n hs a + len - 1) n - a ≤ B) : gap1M kept len n hs m ≤ B := by
  unfold gap1M
  have : ∀ k, k ≤ n → (List.range k).foldl (fun m h => max m (min (nxtM kept len n hs h + len - 1) n - h)) m ≤ B := by
    intro k
    induction k with
    | zero => intro _; simpa using hm
    | succ k ih =>
      intro hk
      rw [List.range_succ, List.foldl_append]
      have := ih (by omega)
      have := h k (by omega)
      simp only [List.foldl_cons, List.foldl_nil]
      omega
  exact this n (Nat.le_refl _)
theorem gap1_max (kept : Hr → Bool) (len n : Nat) (hs : List Hr) (m : Nat) : gap1M kept len n hs m = max m (gap1M kept len n hs 0) := by
  have h1 := gap1M_ge kept len n hs m
  have h2 := gap1M_ge kept len n hs 0
  apply Nat.le_antisymm
  · exact gap1_bd (by omega) (fun a ha => by have := h2.2 a ha; omega)
  · have : gap1M kept len n hs 0 ≤ gap1M kept len n hs m := gap1_bd (Nat.zero_le _) (fun a ha => h1.2 a ha)
    omega
/-- The longest stretch of hours without a window. -/
theorem lackV_row {p q : Hr → Bool} {ob : List Hr} {n : Nat} (hn : ob.length = n) (hpq : ∀ i, i < n → p (ob.getD i zeroHr) = q (ob.getD i zeroHr)) {len : Nat} (hlen : 1 ≤ len) :
    lackV (rowL p ob n) len = gap1M q len n ob 0 := by
  have hW := fun x hx => win_row hpq len x hx
  have hl := rowL_len p ob n
  unfold lackV
  generalize rowL p ob n = l at *
  apply Nat.le_antisymm
  · refine lackK_bd _ (Nat.le_refl _) fun a ha d hd hb => ?_
    have hg := (gap1M_ge q len n ob 0).2 a (by omega)
    have hpl : ((l.drop a).take (d + 1)).length = d + 1 := by simp; omega
    rcases begV_spec ((l.drop a).take (d + 1)) len hlen with ⟨_, h2⟩ | ⟨b, h1, _⟩
    · rw [hpl] at h2
      rcases nxtM_spec q len n ob hlen hn a with ⟨g1, g2⟩ | ⟨g1, g2, g3, g4⟩
      · rw [g1] at hg; omega
      · by_cases hx : nxtM q len n ob a + len ≤ a + (d + 1)
        · refine absurd ?_ (h2 (nxtM q len n ob a - a) (by omega))
          refine (win_part l len a (d + 1) _ (by omega)).2 ?_
          rw [show a + (nxtM q len n ob a - a) = nxtM q len n ob a by omega]
          exact (hW _ g2).2 g3
        · omega
    · omega
  · refine gap1_bd (Nat.zero_le _) fun a ha => ?_
    by_cases he : min (nxtM q len n ob a + len - 1) n ≤ a
    · omega
    · obtain ⟨d, hd⟩ : ∃ d, min (nxtM q len n ob a + len - 1) n = a + d + 1 := ⟨min (nxtM q len n ob a + len - 1) n - a - 1, by omega⟩
      have hpl : ((l.drop a).take (d + 1)).length = d + 1 := by simp; omega
      have hb : begV ((l.drop a).take (d + 1)) len < 0 := by
        rcases begV_spec ((l.drop a).take (d + 1)) len hlen with ⟨h1, _⟩ | ⟨b, h1, h2, h3, _⟩
        · omega
        · rw [hpl] at h2
          have hwin := (win_part l len a (d + 1) b (by omega)).1 h3
          have hwin2 := (hW (a + b) (by omega)).1 hwin
          rcases nxtM_spec q len n ob hlen hn a with ⟨_, g2⟩ | ⟨_, _, _, g4⟩
          · exact absurd hwin2 (g2 (a + b) (by omega) (by omega))
          · exact absurd hwin2 (g4 (a + b) (by omega) (by omega))
      have := lackK_ge (l := l) (len := len) l.length (Nat.le_refl _) a (by omega) d (by omega) hb
      omega
section
variable {f : List (List Hr)} {seen : List Sg} {l : Lm}
theorem row_len {i : Int} (hfc : fcB f = true) (hi : i ∈ numsM seen f) : (obsM seen (f.getD i.toNat [])).length = hoursN f := by
  refine scsM_all (seen := seen) hfc _ ?_
  rw [scs_numsM]
  exact List.mem_map.2 ⟨i, hi, rfl⟩
theorem row_hr {i : Int} (hfc : fcB f = true) (hsg : sgsB (hoursN f) seen = true) (hi : i ∈ numsM seen f) : ∀ k, k < hoursN f → hrB ((obsM seen (f.getD i.toNat [])).getD k zeroHr) = true := by
  refine scs_hr hfc hsg ?_
  rw [scs_numsM]
  exact List.mem_map.2 ⟨i, hi, rfl⟩
theorem hr_tt {h : Hr} (hv : hrB h = true) : h.tl ≤ h.th := by
  unfold hrB spB at hv
  simp only [Bool.and_eq_true, decide_eq_true_eq] at hv
  omega
theorem lm_tt (hv : lmB l = true) : l.tl ≤ l.th := by
  unfold lmB inI spB at hv
  simp only [Bool.and_eq_true, decide_eq_true_eq] at hv
  omega
theorem row_sure (hfc : fcB f = true) (hsg : sgsB (hoursN f) seen = true) {i : Int} (hi : i ∈ numsM seen f) : ∀ k, k < hoursN f → sureS l ((obsM seen (f.getD i.toNat [])).getD k zeroHr) = surB l ((obsM seen (f.getD i.toNat [])).getD k zeroHr) :=
  fun k hk => sureS_eq (hr_tt (row_hr hfc hsg hi k hk))
theorem row_may (hfc : fcB f = true) (hsg : sgsB (hoursN f) seen = true) (hl : lmB l = true) {i : Int} (hi : i ∈ numsM seen f) : ∀ k, k < hoursN f → mayS l ((obsM seen (f.getD i.toNat [])).getD k zeroHr) = mayB l ((obsM seen (f.getD i.toNat [])).getD k zeroHr) :=
  fun k hk => mayS_eq (hr_tt (row_hr hfc hsg hi k hk)) (lm_tt hl)
theorem fold_nums_mem {α β : Type} (g h : β → α → β) : ∀ (xs : List α) (b : β), (∀ x ∈ xs, ∀ b, g b x = h b x) → xs.foldl g b = xs.foldl h b
  | [], _, _ => rfl
  | x :: xs, b, hh => by
    simp only [List.foldl_cons]
    rw [hh x (by simp) b]
    exact fold_nums_mem g h xs _ (fun y hy b => hh y (by simp [hy]) b)
/-- Gap. -/
theorem rgS_eq (len : Int) : rgS f seen l len = gapV f seen l len := by
  unfold rgS gapV
  rw [rlimE_win]
  by_cases hz : winE f seen l len = 0
  · rw [if_pos hz, if_pos hz]
    have hz2 : rlimE f seen l (inI len 1 48) = 0 := by rw [rlimE_win]; exact hz
    obtain ⟨hse, hlm, hin⟩ := rlimE_ok hz2
    have ok := seenE_ok hse
    have hfc := fcE_ok ok.1
    have hsg := sgE_ok ok.2
    unfold inI at hin
    simp only [Bool.and_eq_true, decide_eq_true_eq] at hin
    unfold rgK gapM
    rw [List.take_of_length_le (Nat.le_refl _), scs_numsM, List.foldl_map]
    congr 1
    refine fold_nums_mem _ _ _ _ fun i hi b => ?_
    rw [gap1_max, lackV_row (row_len hfc hi) (row_sure hfc hsg hi) (by omega)]
  · rw [if_neg hz, if_neg hz]
/-- The fold of the first hours. -/
def rwF (f : List (List Hr)) (seen : List Sg) (l : Lm) (len : Nat) (k : Nat) : Int := ((numsM seen f).take k).foldl (fun a i => if 0 ≤ begV (rowL (mayS l) (obsM seen (f.getD i.toNat [])) (hoursN f)) len ∧ (a < 0 ∨ begV (rowL (mayS l) (obsM seen (f.getD i.toNat [])) (hoursN f)) len < a) then begV (rowL (mayS l) (obsM seen (f.getD i.toNat [])) (hoursN f)) len else a) (-1)
def rwL (f : List (List Hr)) (seen : List Sg) (l : Lm) (len : Nat) (k : Nat) : Int := ((numsM seen f).take k).foldl (fun a i => max a (begV (rowL (sureS l) (obsM seen (f.getD i.toNat [])) (hoursN f)) len)) 0
def rwN (f : List (List Hr)) (seen : List Sg) (l : Lm) (len : Nat) (k : Nat) : Bool := ((numsM seen f).take k).any (fun i => decide (begV (rowL (sureS l) (obsM seen (f.getD i.toNat [])) (hoursN f)) len < 0))
theorem fold_take {α β : Type} (g : β → α → β) (b : β) (xs : List α) (d : α) (k : Nat) (h : k < xs.length) : (xs.take (k + 1)).foldl g b = g ((xs.take k).foldl g b) (xs.getD k d) := by
  rw [List.take_succ_eq_append_getElem h, List.foldl_append]
  simp [List.getD, List.getElem?_eq_getElem h]
theorem rwF_step (f : List (List Hr)) (seen : List Sg) (l : Lm) (len k : Nat) (h : k < (numsM seen f).length) (b : Int) (hb : begV (rowL (mayS l) (obsM seen (f.getD ((numsM seen f).getD k 0).toNat [])) (hoursN f)) len = b) : rwF f seen l len (k + 1) = if 0 ≤ b ∧ (rwF f seen l len k < 0 ∨ b < rwF f seen l len k) then b else rwF f seen l len k := by
  subst hb
  exact fold_take _ _ _ 0 k h
theorem rwL_step (f : List (List Hr)) (seen : List Sg) (l : Lm) (len k : Nat) (h : k < (numsM seen f).length) : rwL f seen l len (k + 1) = max (rwL f seen l len k) (begV (rowL (sureS l) (obsM seen (f.getD ((numsM seen f).getD k 0).toNat [])) (hoursN f)) len) := by
  unfold rwL
  rw [List.take_succ_eq_append_getElem h, List.foldl_append]
  simp [List.getD, List.getElem?_eq_getElem h]
theorem rwN_step (f : List (List Hr)) (seen : List Sg) (l : Lm) (len k : Nat) (h : k < (numsM seen f).length) : rwN f seen l len (k + 1) = (rwN f seen l len k || decide (begV (rowL (sureS l) (obsM seen (f.getD ((numsM seen f).getD k 0).toNat [])) (hoursN f)) len < 0)) := by
  have e : (numsM seen f).getD k 0 = (numsM seen f)[k] := by simp [List.getD, List.getElem?_eq_getElem h]
  unfold rwN
  rw [List.take_succ_eq_append_getElem h, List.any_append, e]
  simp only [List.any_cons, List.any_nil, Bool.or_false]
def rwFirst (f : List (List Hr)) (seen : List Sg) (l : Lm) (len : Int) : Int := if rlimE f seen l (inI len 1 48) = 0 then rwF f seen l len.toNat (numsM seen f).length else 0
def rwLast (f : List (List Hr)) (seen : List Sg) (l : Lm) (len : Int) : Int := if rlimE f seen l (inI len 1 48) = 0 then (if rwN f seen l len.toNat (numsM seen f).length = true then -1 else rwL f seen l len.toNat (numsM seen f).length) else 0
theorem fold_first {α : Type} (g : α → Int) (t : α → Nat) (n : Nat) : ∀ (xs : List α) (a : Int) (m : Nat), (∀ x ∈ xs, g x = noneE (t x) n ∧ t x ≤ n) → m ≤ n → a = noneE m n →
    xs.foldl (fun a i => if 0 ≤ g i ∧ (a < 0 ∨ g i < a) then g i else a) a = noneE (xs.foldl (fun m i => min m (t i)) m) n
  | [], a, m, _, _, ha => ha
  | x :: xs, a, m, h, hm, ha => by
    simp only [List.foldl_cons]
    obtain ⟨h1, h2⟩ := h x (by simp)
    refine fold_first g t n xs _ _ (fun y hy => h y (by simp [hy])) (by omega) ?_
    rw [h1, ha]
    unfold noneE
    by_cases e1 : t x = n <;> by_cases e2 : m = n
    · rw [if_pos e1, if_pos e2, if_neg (by omega), if_pos (by omega)]
    · rw [if_pos e1, if_neg e2, if_neg (by omega), if_neg (by omega)]; omega
    · rw [if_neg e1, if_pos e2, if_pos (by omega), if_neg (by omega)]; omega
    · rw [if_neg e1, if_neg e2, if_neg (show ¬ min m (t x) = n by omega)]
      by_cases e3 : t x < m
      · rw [if_pos (by omega)]; omega
      · rw [if_neg (by omega)]; omega
theorem fold_last {α : Type} (g : α → Int) (t : α → Nat) (n : Nat) : ∀ (xs : List α) (m : Nat), (∀ x ∈ xs, g x = noneE (t x) n ∧ t x ≤ n) → m ≤ n →
    (xs.any (fun i => decide (g i < 0)) = true → xs.foldl (fun m i => max m (t i)) m = n) ∧ (xs.any (fun i => decide (g i < 0)) = false → m < n → xs.foldl (fun m i => max m (t i)) m < n ∧ xs.foldl (fun a i => max a (g i)) (m : Int) = (xs.foldl (fun m i => max m (t i)) m : Nat))
  | [], m, _, _ => ⟨fun h => by simp at h, fun _ hm => ⟨hm, rfl⟩⟩
  | x :: xs, m, h, hm => by
    obtain ⟨h1, h2⟩ := h x (by simp)
    have hge := foldl_max_ge t xs (max m (t x))
    have hle : ∀ (ys : List α) (m : Nat), (∀ y ∈ ys, t y ≤ n) → m ≤ n → ys.foldl (fun m i => max m (t i)) m ≤ n := by
      intro ys
      induction ys with
      | nil => intro m _ hm; exact hm
      | cons y ys ih => intro m hy hm; exact ih _ (fun z hz => hy z (by simp [hz])) (by have := hy y (by simp); show max m (t y) ≤ n; omega)
    have hb := hle xs (max m (t x)) (fun y hy => (h y (by simp [hy])).2) (by omega)
    obtain ⟨r1, r2⟩ := fold_last g t n xs (max m (t x)) (fun y hy => h y (by simp [hy])) (by omega)
    simp only [List.foldl_cons, List.any_cons]
    unfold noneE at h1
    by_cases e : t x = n
    · rw [if_pos e] at h1
      refine ⟨fun _ => by omega, fun hf => ?_⟩
      rw [h1] at hf
      simp at hf
    · rw [if_neg e] at h1
      have hd : decide (g x < 0) = false := decide_eq_false (by omega)
      rw [hd, Bool.false_or]
      refine ⟨r1, fun hf hm2 => ?_⟩
      obtain ⟨q1, q2⟩ := r2 hf (by omega)
      refine ⟨q1, ?_⟩
      rw [← q2, h1]
      congr 1
      omega
theorem last_eq {α : Type} (g : α → Int) (t : α → Nat) (n : Nat) (hn : 0 < n) (xs : List α) (h : ∀ x ∈ xs, g x = noneE (t x) n ∧ t x ≤ n) :
    (if xs.any (fun i => decide (g i < 0)) = true then -1 else xs.foldl (fun a i => max a (g i)) 0) = noneE (xs.foldl (fun m i => max m (t i)) 0) n := by
  obtain ⟨h1, h2⟩ := fold_last g t n xs 0 h (Nat.zero_le _)
  unfold noneE
  cases hany : xs.any fun i => decide (g i < 0)
  · obtain ⟨q1, q2⟩ := h2 hany hn
    rw [if_neg (by decide), if_neg (by omega)]
    exact q2
  · rw [if_pos rfl, if_pos (h1 hany)]
theorem rwFirst_eq (len : Int) : rwFirst f seen l len = firstV f seen l len := by
  unfold rwFirst firstV
  rw [rlimE_win]
  by_cases hz : winE f seen l len = 0
  · rw [if_pos hz, if_pos hz]
    have hz2 : rlimE f seen l (inI len 1 48) = 0 := by rw [rlimE_win]; exact hz
    obtain ⟨hse, hlm, hin⟩ := rlimE_ok hz2
    have ok := seenE_ok hse
    have hfc := fcE_ok ok.1
    have hsg := sgE_ok ok.2
    unfold inI at hin
    simp only [Bool.and_eq_true, decide_eq_true_eq] at hin
    unfold rwF soonM
    rw [List.take_of_length_le (Nat.le_refl _), scs_numsM, List.foldl_map]
    exact fold_first (fun i => begV (rowL (mayS l) (obsM seen (f.getD i.toNat [])) (hoursN f)) len.toNat) (fun i => nxtM (mayB l) len.toNat (hoursN f) (obsM seen (f.getD i.toNat [])) 0) (hoursN f) (numsM seen f) (-1) (hoursN f)
      (fun i hi => ⟨begV_row (row_len hfc hi) (row_may hfc hsg hlm hi) (by omega), (nxtM_bd _ _ _ _ _ (Nat.zero_le _)).2⟩) (Nat.le_refl _) (if_pos rfl).symm
  · rw [if_neg hz, if_neg hz]
theorem rwLast_eq (len : Int) : rwLast f seen l len = lastV f seen l len := by
  unfold rwLast lastV
  rw [rlimE_win]
  by_cases hz : winE f seen l len = 0
  · rw [if_pos hz, if_pos hz]
    have hz2 : rlimE f seen l (inI len 1 48) = 0 := by rw [rlimE_win]; exact hz
    obtain ⟨hse, hlm, hin⟩ := rlimE_ok hz2
    have ok := seenE_ok hse
    have hfc := fcE_ok ok.1
    have hsg := sgE_ok ok.2
    have hN := (fc_ok hfc).2.2.2.1
    have hln : 1 ≤ len.toNat := by
      unfold inI at hin
      simp only [Bool.and_eq_true, decide_eq_true_eq] at hin
      have h1 := hin.1
      clear hse hlm ok hfc hsg hz hz2 hN hin
      omega
    unfold rwN rwL lateM
    rw [List.take_of_length_le (Nat.le_refl _), scs_numsM, List.foldl_map]
    have hb : ∀ i ∈ numsM seen f, begV (rowL (sureS l) (obsM seen (f.getD i.toNat [])) (hoursN f)) len.toNat = noneE (nxtM (surB l) len.toNat (hoursN f) (obsM seen (f.getD i.toNat [])) 0) (hoursN f) := fun i hi => begV_row (row_len hfc hi) (row_sure hfc hsg hi) hln
    have ht : ∀ i ∈ numsM seen f, nxtM (surB l) len.toNat (hoursN f) (obsM seen (f.getD i.toNat [])) 0 ≤ hoursN f := fun i _ => (nxtM_bd _ _ _ _ _ (Nat.zero_le _)).2
    generalize hG : (fun i : Int => begV (rowL (sureS l) (obsM seen (f.getD i.toNat [])) (hoursN f)) len.toNat) = G
    have hGe : ∀ i : Int, begV (rowL (sureS l) (obsM seen (f.getD i.toNat [])) (hoursN f)) len.toNat = G i := fun i => by rw [← hG]
    generalize hT : (fun i : Int => nxtM (surB l) len.toNat (hoursN f) (obsM seen (f.getD i.toNat [])) 0) = T
    have hTe : ∀ i : Int, nxtM (surB l) len.toNat (hoursN f) (obsM seen (f.getD i.toNat [])) 0 = T i := fun i => by rw [← hT]
    simp only [hGe, hTe] at hb ht ⊢
    exact last_eq G T (hoursN f) hN (numsM seen f) (fun i hi => ⟨hb i hi, ht i hi⟩)
  · rw [if_neg hz, if_neg hz]
end
end Go.Proofs.YtecamnhnjmldcaaGreatDoor
/- Lists of truth values as tables; make of them; which hours keep limits in all possible scenarios, and in some (no walk). -/
set_option linter.unusedSimpArgs false
set_option linter.unusedVariables false
namespace Go.Proofs.YtecamnhnjmldcaaGreatDoor
open Go.RowKit
def tabL (n : Nat) (p : Nat → Bool) : List Bool := (List.range n).map p
theorem tabL_len (n : Nat) (p : Nat → Bool) : (tabL n p).length = n := by unfold tabL; rw [List.length_map, List.length_range]
theorem tabL_at (n : Nat) (p : Nat → Bool) (i : Nat) (hi : i < n) : (tabL n p).getD i false = p i := by
  unfold tabL
  simp [List.getD, List.getElem?_eq_getElem (show i < (List.range n).length by simp; exact hi)]
theorem tabL_congr {n : Nat} {p q : Nat → Bool} (h : ∀ i, i < n → p i = q i) : tabL n p = tabL n q := by
  unfold tabL
  exact List.map_congr_left fun i hi => h i (List.mem_range.1 hi)
theorem tabL_set (n : Nat) (p : Nat → Bool) (k : Nat) (v : Bool) : (tabL n p).set k v = tabL n (fun x => if x = k then v else p x) := by
  unfold tabL
  apply List.ext_getElem?
  intro j
  rw [List.getElem?_set]
  simp only [List.length_map, List.length_range, List.getElem?_map]
  by_cases hj : k = j
  · subst hj
    by_cases hk : k < n
    · simp [hk]
    · simp [hk]
  · have : ¬ j = k := fun e => hj e.symm
    rw [if_neg hj]
    cases hr : (List.range n)[j]? with
    | none => rfl
    | some x =>
      have hx : x = j := by
        have h2 := List.getElem?_eq_some_iff.1 hr
        obtain ⟨h3, h4⟩ := h2
        rw [← h4, List.getElem_range]
      subst hx
      simp [this]
/-- One more place of a table that is turned from Q to P. -/
theorem tab_next (n j : Nat) (P Q : Nat → Bool) (v : Bool) (hv : v = P j) : (tabL n fun x => if x < j then P x else Q x).set j v = tabL n fun x => if x < j + 1 then P x else Q x := by
  rw [tabL_set]
  refine tabL_congr fun i _ => ?_
  by_cases h : i = j
  · subst h; rw [if_pos rfl, if_pos (by omega), hv]
  · rw [if_neg h]
    by_cases h2 : i < j
    · rw [if_pos h2, if_pos (by omega)]
    · rw [if_neg h2, if_neg (by omega)]
theorem tab_zero (n : Nat) (P Q : Nat → Bool) : (tabL n fun x => if x < 0 then P x else Q x) = tabL n Q := tabL_congr fun _ _ => if_neg (by omega)
theorem tab_end (n : Nat) (P Q : Nat → Bool) : (tabL n fun x => if x < n then P x else Q x) = tabL n P := tabL_congr fun _ hi => if_pos hi
theorem tab_rep (n : Nat) : List.replicate n false = tabL n fun _ => false := by
  apply List.ext_getElem?
  intro j
  unfold tabL
  simp only [List.getElem?_map, List.getElem?_replicate]
  by_cases h : j < n
  · rw [if_pos h, List.getElem?_eq_getElem (by simp; exact h)]; rfl
  · rw [if_neg h, List.getElem?_eq_none (by simp; omega)]; rfl
theorem rep_fm : ∀ n, (List.replicate n false).flatMap gBo = List.replicate n (Value.bool false)
  | 0 => rfl
  | n + 1 => by
    rw [List.replicate_succ, List.replicate_succ, List.flatMap_cons, rep_fm n]
    rfl
/-- make of truth values. -/
theorem mk_bools (X : World) (N B : Nat) (hN : N ≤ 10000) (hB : B ≤ X.heap.size) : ∃ Y, (Instr.makeSlice 109 (.int .i64 (N : Int)) (.int .i64 (N : Int))).run Tryz.prog X = .ok (.slice (some ⟨X.heap.size, 0, none⟩) N N) Y ∧ Ownl 4 1 gBo Y B (.slice (some ⟨X.heap.size, 0, none⟩) N N) (tabL N fun _ => false) ∧ Ext X Y := by
  obtain ⟨i0, hi, hz0, hz1, hz2⟩ := info_parts infoBo
  obtain ⟨Y, hrun, r1, r2⟩ := run_make_full (P := Tryz.prog) X B 109 4 i0 (.bool false) 1 Tryz.underlying109 hi hz0 hz1 .i64 .i64 N (by rw [hz2]; omega) (by unfold maxLen; omega) hB
  refine ⟨Y, hrun, ?_, Below.grown (Below.refl _ _) r2 (Nat.le_refl _) (fun j ej => by cases ej)⟩
  unfold Ownl
  rw [tabL_len, ← tab_rep]
  have e : (List.replicate N false).flatMap gBo = (madeCells (Value.cells (.bool false)) (N * 1)).toList := by
    rw [Nat.mul_one, rep_fm]
    unfold madeCells
    rw [show (Value.bool false).cells = #[Value.bool false] from rfl]
    simp [Nat.mod_one]
    rw [List.map_const', List.length_range]
  rw [e]
  exact r1
end Go.Proofs.YtecamnhnjmldcaaGreatDoor
/- spans of the specification. -/
set_option linter.unusedSimpArgs false
set_option linter.unusedVariables false
namespace Go.Proofs.YtecamnhnjmldcaaGreatDoor
open Go.RowKit
set_option maxRecDepth 100000 in
set_option maxHeartbeats 4000000 in
theorem rspans_any (l : List Bool) (A : Option Addr) (n c : Nat) (hln : l.length = n) (hn : n ≤ 9000) (w : World) (hx : BosAt w A l) :
    Calls Tryz.prog 48 #[.slice A n c] w fun e w' => ∃ A' c', e = .returned (.slice A' (spansM (fun i => l.getD i false) n).length c') ∧ Ownl 27 2 gSp w' w.heap.size (.slice A' (spansM (fun i => l.getD i false) n).length c') (spansM (fun i => l.getD i false) n) ∧ Ext w w' := by
  have HX := hid hx
  have HLN := hid hln
  have HONE := hid (fun (k : Nat) W => rOne_any (k : Int) W)
  generalize hp : (fun i => l.getD i false) = p
  have HP := hid (fun i => show l.getD i false = p i by rw [← hp])
  clear hx hln hp
  go_enter Tryz.func48, Tryz.ntmps48
  go_wp2
  go_loopw [3, 4] (fun v i wr => Ext w wr ∧ ∃ (k : Nat) (A : Option Addr) (c : Nat), k ≤ n ∧ i = .int .i64 k ∧ v = .slice A (spansM p k).length c ∧ Hid (Ownl 27 2 gSp wr w.heap.size (.slice A (spansM p k).length c) (spansM p k))) (fun _ i _ => n - (intOf i).toNat)
  case atStart => exact ⟨by (repeat' (first | with_reducible assumption | with_reducible exact Ext.refl _ | with_reducible refine Ext.alloc ?_ _ | with_reducible refine Ext.set ?_ ?_ _ | with_reducible refine Ext.drew ?_ | with_reducible refine Ext.drewN ?_ _ | with_reducible refine Ext.trans ?_ (by assumption) | (dsimp only; omega))), 0, none, 0, Nat.zero_le _, rfl, rfl, hid (Ownl.nil _ _)⟩
  case round =>
    obtain ⟨hE, k, A9, c, hk, rfl, rfl, HV⟩ := hrel
    by_cases hlt : k < n
    · have HST := hid (spansM_step p k)
      have HLE := hid (spansM_len p k)
      obtain ⟨b, off, rfl, hb0, e0⟩ := (HX.out.ext hE).at_ HLN.out hlt
      unfold BoAt at e0
      rw [HP.out] at e0
      have hk0 : (0 : Int) ≤ (k : Int) := by omega
      have hk1 : (k : Int) < (n : Int) := by omega
      generalize spansM p k = acc at *
      have HONE1 := hid (HONE.out k)
      clear HONE HX HLN
      cases hp : p k
      · rw [hp, if_neg (by decide)] at HST
        rw [hp] at e0
        clear hp
        go_wp2
        go_roundw
        case rel => exact ⟨hE, k + 1, A9, c, by omega, by go_num, by rw [HST.out], hid (by rw [HST.out]; exact HV.out)⟩
        case measure => simp [intOf]; omega
      · rw [hp, if_pos rfl] at HST
        rw [hp] at e0
        clear hp
        rcases Nat.eq_zero_or_pos acc.length with h0 | h0
        · have hnil : acc = [] := List.length_eq_zero_iff.1 h0
          subst hnil
          rw [spStep_nil] at HST
          simp only [List.length_nil] at HV ⊢
          clear h0 HLE
          go_wp2_with fail
          refine (HONE1.out _).mono ?_
          rintro e w3 ⟨rfl, hE3⟩
          have V3 := hid (HV.out.ext hE3)
          have E3 := hid (hE.trans hE3)
          have s3 := hE.trans hE3
          have s4 := s3.size
          clear HV hE3 s3 HONE1 e0
          go_wp2_with (at_builtin; refine Halt.mk ?_)
          unfold Halt
          have BN := hid (show Blk (w3.alloc (.cells #[.int .i64 (k : Int), .int .i64 (k : Int)] 27)) w3.heap.size 27 #[.int .i64 (k : Int), .int .i64 (k : Int)] from blk_last _ _)
          refine wpList_app1Sp _ rfl _ _ rfl w.heap.size (.slice A9 0 c) [] rfl (V3.out.ext (ext_alloc1 _ _)) w3.heap.size ((k : Int), (k : Int)) rfl BN.out (by simp) (by simp; omega) ?_
          intro v4 w4 hO hg
          have E4 := hid (V3.out.extApp E3.out (Nat.le_refl _) hg)
          obtain ⟨A4, c4, rfl, -, -, -⟩ := (hO.form (by decide) (fun _ => rfl) (0, 0))
          have V4 := hid hO
          clear hO hg V3 E3 BN
          go_wp2
          go_roundw
          case rel => exact ⟨E4.out, k + 1, A4, c4, by omega, by go_num, by rw [HST.out]; simp, hid (by rw [HST.out]; exact V4.out)⟩
          case measure => simp [intOf]; omega
        · obtain ⟨L, hL⟩ : ∃ L, acc.length = L + 1 := ⟨acc.length - 1, by omega⟩
          have HLA := hid hL
          obtain ⟨q, qc, hq, hq1, hq2⟩ := HV.out.some_ h0
          injection hq with hA _ hc
          subst hA hc
          have h' : wr.ownsRow w.heap.size 27 2 (.slice (some ⟨q, 0, none⟩) acc.length c) acc.length (acc.flatMap gSp) := HV.out
          have ca := h'.cellAt (L * 2 + 1) (by omega)
          have cf := h'.frozenAt (L * 2 + 1)
          rw [fm_at gSp 2 (fun _ => rfl) (0, 0) acc L 1 (by omega) (by decide)] at ca
          have ca2 : wr.cell? ⟨q, L * 2 + 1, none⟩ = some (.int .i64 (acc.getD L (0, 0)).2) := ca
          have HJ := hid (fun hj => spStep_join acc L k hL hj)
          have HNW := hid (fun hj => spStep_new acc L k hL hj)
          have HHI := hid (fun y => Ownl.high HV.out (k := L) (by omega) y)
          clear ca h' h0
          obtain ⟨hh, hhe⟩ : ∃ hh, (acc.getD L (0, 0)).2 = hh := ⟨_, rfl⟩
          rw [hhe] at ca2 HJ HNW
          clear hhe
          have HLE2 := hid (show acc.length ≤ k from HLE.out)
          have hLa : acc.length ≤ 9000 := by have := HLE2.out; omega
          have hL9 : L ≤ 9000 := by have := HLE2.out; omega
          have hL10 : (L : Int) ≤ 9000 := by omega
          rw [hL] at HV HHI ⊢
          clear hL HLE
          by_cases hj : hh = (k : Int) - 1
          · have hd : (hh == (k : Int) - 1) = true := by simp [hj]
            have HS2 := hid (HST.out.trans (HJ.out hj))
            have V5 := hid (HHI.out (k : Int)).1
            have G5 := hid (HHI.out (k : Int)).2
            have XE := hid (hE.set (p := ⟨q, L * 2 + 1, none⟩) hq1 (.int .i64 (k : Int)))
            clear HJ HNW HHI HST hj
            go_wp2
            go_roundw
            case rel => exact ⟨XE.out, k + 1, some ⟨q, 0, none⟩, c, by omega, by go_num, by rw [HS2.out, List.length_set, HLA.out], hid (by rw [HS2.out, List.length_set, HLA.out]; have hv := V5.out; exact hv)⟩
            case measure => simp [intOf]; omega
          · have hd : (hh == (k : Int) - 1) = false := beq_eq_false_iff_ne.2 hj
            have HS2 := HNW.out hj
            rw [HS2] at HST
            clear HJ HNW HHI HS2 hj
            go_wp2_with fail
            refine (HONE1.out _).mono ?_
            rintro e w3 ⟨rfl, hE3⟩
            clear ca2 cf
            have V3 := hid (HV.out.ext hE3)
            have E3 := hid (hE.trans hE3)
            have s3 := hE.trans hE3
            have s4 := s3.size
            clear HV hE3 s3 HONE1 e0
            go_wp2_with (at_builtin; refine Halt.mk ?_)
            unfold Halt
            have BN := hid (show Blk (w3.alloc (.cells #[.int .i64 (k : Int), .int .i64 (k : Int)] 27)) w3.heap.size 27 #[.int .i64 (k : Int), .int .i64 (k : Int)] from blk_last _ _)
            refine wpList_app1Sp _ rfl _ _ rfl w.heap.size (.slice (some ⟨q, 0, none⟩) (L + 1) c) acc rfl (V3.out.ext (ext_alloc1 _ _)) w3.heap.size ((k : Int), (k : Int)) rfl BN.out (by omega) (by simp; omega) ?_
            intro v4 w4 hO hg
            have E4 := hid (V3.out.extApp E3.out (Nat.le_refl _) hg)
            obtain ⟨A4, c4, rfl, -, -, -⟩ := (hO.form (by decide) (fun _ => rfl) (0, 0))
            have V4 := hid hO
            clear hO hg V3 E3 BN
            go_wp2
            go_roundw
            case rel => exact ⟨E4.out, k + 1, A4, c4, by omega, by go_num, by rw [HST.out]; simp, hid (by rw [HST.out]; exact V4.out)⟩
            case measure => simp [intOf]; omega
    · obtain rfl : k = n := by omega
      go_wp2
      go_ret
      exact ⟨A9, c, rfl, HV.out, hE⟩
end Go.Proofs.YtecamnhnjmldcaaGreatDoor
