/- One more observation, wider limits: what is not lost (no program). -/
import Derived.Test.YtcpkdnegmblonaaDoorBTopMore24
set_option linter.unusedSimpArgs false
set_option linter.unusedVariables false
namespace Go.Proofs.YtcpkdnegmblonaaDoor
open Go.RowKit
theorem wide_ok {l : Lm} {y : Es} (hl : lmB l = true) (h1 : 0 ≤ y.wind) (h2 : 0 ≤ y.rain) (h3 : 0 ≤ y.temp) : lmB (wideM l y) = true := by
  unfold lmB inI spB at *
  unfold wideM
  simp only [Bool.and_eq_true, decide_eq_true_eq] at *
  omega
theorem wide_sur {l : Lm} {y : Es} (hl : lmB l = true) (h1 : 0 ≤ y.wind) (h2 : 0 ≤ y.rain) (h3 : 0 ≤ y.temp) {h : Hr} (hs : surB l h = true) : surB (wideM l y) h = true := by
  unfold lmB inI spB at hl
  unfold surB spB at *
  unfold wideM
  simp only [Bool.and_eq_true, decide_eq_true_eq] at *
  omega
theorem wide_ask {l : Lm} {y : Es} (hl : lmB l = true) (h1 : 0 ≤ y.wind) (h2 : 0 ≤ y.rain) (h3 : 0 ≤ y.temp) {h : Hr} (hs : surB (andL wideL l) h = true) : surB (andL wideL (wideM l y)) h = true := by
  unfold lmB inI spB at hl
  unfold surB spB andL wideL at *
  unfold wideM
  simp only [Bool.and_eq_true, decide_eq_true_eq] at *
  omega
/-- A window that comes for more hours does not come later. -/
theorem nxt_mono {k1 k2 : Hr → Bool} {len n : Nat} {hs1 hs2 : List Hr} (hlen : 1 ≤ len) (hn1 : hs1.length = n) (hn2 : hs2.length = n) (h : ∀ i, i < n → k1 (hs1.getD i zeroHr) = true → k2 (hs2.getD i zeroHr) = true) (a : Nat) : nxtM k2 len n hs2 a ≤ nxtM k1 len n hs1 a := by
  rcases nxtM_spec k1 len n hs1 hlen hn1 a with ⟨h1, h2⟩ | ⟨h1, h2, h3, h4⟩
  · rw [h1]
    rcases nxtM_spec k2 len n hs2 hlen hn2 a with ⟨g1, _⟩ | ⟨_, g2, _, _⟩ <;> omega
  · have hw : WinAt (fun i => k2 (hs2.getD i zeroHr)) len (nxtM k1 len n hs1 a) := fun j hj => h _ (by omega) (h3 j hj)
    rcases nxtM_spec k2 len n hs2 hlen hn2 a with ⟨g1, g2⟩ | ⟨g1, g2, g3, g4⟩
    · exact absurd hw (g2 _ h1 h2)
    · by_cases hlt : nxtM k1 len n hs1 a < nxtM k2 len n hs2 a
      · exact absurd hw (g4 _ h1 hlt)
      · omega
theorem foldl_max_bd {α : Type} (g : α → Nat) (B : Nat) : ∀ (xs : List α) (m : Nat), m ≤ B → (∀ x ∈ xs, g x ≤ B) → xs.foldl (fun a x => max a (g x)) m ≤ B
  | [], m, hm, _ => hm
  | y :: ys, m, hm, h => by
    rw [List.foldl_cons]
    exact foldl_max_bd g B ys _ (by have := h y (by simp); omega) (fun x hx => h x (by simp [hx]))
theorem gapM_bd {kept : Hr → Bool} {len n B : Nat} : ∀ (ss : List (List Hr)) (m : Nat), m ≤ B → (∀ hs ∈ ss, ∀ h, h < n → min (nxtM kept len n hs h + len - 1) n - h ≤ B) → ss.foldl (fun m hs => gap1M kept len n hs m) m ≤ B
  | [], m, hm, _ => hm
  | y :: ys, m, hm, h => by
    rw [List.foldl_cons]
    refine gapM_bd ys _ ?_ (fun x hx => h x (by simp [hx]))
    unfold gap1M
    exact foldl_max_bd _ B _ _ hm (fun i hi => h y (by simp) i (List.mem_range.1 hi))
/-- The gap is not greater if each scenario of the second kind is one of the first kind with more hours that keep the limits. -/
theorem gapM_mono {k1 k2 : Hr → Bool} {len n : Nat} {s1 s2 : List (List Hr)} (hlen : 1 ≤ len) (hl1 : ∀ x ∈ s1, x.length = n) (hl2 : ∀ x ∈ s2, x.length = n) (h : ∀ x2 ∈ s2, ∃ x1 ∈ s1, ∀ i, i < n → k1 (x1.getD i zeroHr) = true → k2 (x2.getD i zeroHr) = true) : gapM k2 len n s2 ≤ gapM k1 len n s1 := by
  unfold gapM
  refine gapM_bd s2 0 (Nat.zero_le _) fun x2 hx2 a ha => ?_
  obtain ⟨x1, hx1, hk⟩ := h x2 hx2
  have h1 := (gapM_ge k1 len n s1 0).2 x1 hx1 a ha
  have h2 := nxt_mono (len := len) hlen (hl1 x1 hx1) (hl2 x2 hx2) hk a
  omega
/-- The same of the hours that surely keep the limits. -/
theorem sure_mono {l1 l2 : Lm} {n : Nat} {s1 s2 : List (List Hr)} (h : ∀ x2 ∈ s2, ∃ x1 ∈ s1, ∀ i, i < n → ∀ hr : Nat, surB (askM [⟨0, 0, l1⟩] i hr) (x1.getD i zeroHr) = true → surB (askM [⟨0, 0, l2⟩] i hr) (x2.getD i zeroHr) = true) (i : Nat) (hi : i < n) (hs : isInM i (sureM [⟨0, 0, l1⟩] s1 n) = true) : isInM i (sureM [⟨0, 0, l2⟩] s2 n) = true := by
  unfold sureM at *
  rw [spans_at _ _ _ hi] at hs ⊢
  refine List.all_eq_true.2 fun x2 hx2 => ?_
  obtain ⟨x1, hx1, hk⟩ := h x2 hx2
  have h1 := List.all_eq_true.1 hs x1 hx1
  unfold isOpenM at *
  refine List.all_eq_true.2 fun j hj => ?_
  have hj' := List.mem_range.1 hj
  exact hk j (by omega) i (List.all_eq_true.1 h1 j hj)
theorem withB_of {a b : List (Int × Int)} {n : Nat} (h : ∀ i : Nat, i < n → isInM i a = true → isInM i b = true) : withB a b n = true := by
  unfold withB
  refine List.all_eq_true.2 fun i hi => ?_
  have := h i (List.mem_range.1 hi)
  cases hx : isInM i a
  · rfl
  · rw [this hx]; rfl
theorem lmE_zero {l : Lm} (h : lmB l = true) : lmE l = 0 := by unfold lmE; rw [h]; rfl
theorem lgE_zero {len : Nat} (h1 : 1 ≤ len) (h2 : len ≤ 48) : lgE len = 0 := by
  unfold lgE unlessM inI
  rw [decide_eq_true (show (1 : Int) ≤ len by omega), decide_eq_true (show (len : Int) ≤ 48 by omega)]
  rfl
/-- The error where all is valid: that no scenario is possible. -/
def noneE' (f : List (List Hr)) (seen : List Sg) : Int := if numsM seen f = [] then 3 else 0
section
variable {f : List (List Hr)} {seen : List Sg} {l : Lm} {len : Nat}
theorem posE_eq (hs : seenE f seen = 0) : posE f seen = noneE' f seen := by
  obtain ⟨h1, h2⟩ := seenE_ok hs
  unfold posE begM noneE'
  rw [h1, h2, if_pos (show orM [0, 0] = 0 from rfl)]
theorem keepsE_eq (hs : seenE f seen = 0) (hl : lmB l = true) : keepsE f seen l = noneE' f seen := by
  obtain ⟨h1, h2⟩ := seenE_ok hs
  unfold keepsE begM noneE'
  rw [h1, h2, lmE_zero hl, if_pos (show orM [0, 0, 0] = 0 from rfl)]
theorem winE_eq (hs : seenE f seen = 0) (hl : lmB l = true) (g1 : 1 ≤ len) (g2 : len ≤ 48) : winE f seen l len = noneE' f seen := by
  obtain ⟨h1, h2⟩ := seenE_ok hs
  unfold winE begM noneE'
  rw [h1, h2, lmE_zero hl, lgE_zero g1 g2, if_pos (show orM [0, 0, 0, 0] = 0 from rfl)]
end
/-- Wider limits. -/
theorem more_wide {f : List (List Hr)} {seen : List Sg} {l : Lm} {len : Nat} {y : Es} (hs : seenE f seen = 0) (hl : lmB l = true) (g1 : 1 ≤ len) (g2 : len ≤ 48) (h1 : 0 ≤ y.wind) (h2 : 0 ≤ y.rain) (h3 : 0 ≤ y.temp) :
    withB (sureV f seen l) (sureV f seen (wideM l y)) (hoursN f) = true ∧ gapV f seen (wideM l y) len ≤ gapV f seen l len := by
  have hl2 := wide_ok hl h1 h2 h3
  have k1 := keepsE_eq hs hl
  have k2 := keepsE_eq hs hl2
  have w1 := winE_eq hs hl g1 g2
  have w2 := winE_eq hs hl2 g1 g2
  have hfc := fcE_ok (seenE_ok hs).1
  unfold sureV gapV
  rw [k1, k2, w1, w2]
  by_cases h0 : noneE' f seen = 0
  · rw [if_pos h0, if_pos h0, if_pos h0, if_pos h0, Int.toNat_natCast]
    refine ⟨withB_of fun i hi => sure_mono (fun x hx => ⟨x, hx, fun j _ hr hj => ?_⟩) i hi, ?_⟩
    · rw [ask_one] at *
      by_cases h : hr ≤ j
      · rw [if_pos h] at *; exact wide_ask hl h1 h2 h3 hj
      · rw [if_neg h] at *; exact hj
    · have := gapM_mono (len := len) (k1 := surB l) (k2 := surB (wideM l y)) g1 (scsM_all (seen := seen) hfc) (scsM_all (seen := seen) hfc) (fun x hx => ⟨x, hx, fun i _ hi => wide_sur hl h1 h2 h3 hi⟩)
      omega
  · rw [if_neg h0, if_neg h0, if_neg h0, if_neg h0]
    exact ⟨withB_of fun i _ hi => by simp [isInM] at hi, Int.le_refl _⟩
theorem allow_snoc (seen : List Sg) (s : Sg) (hs : List Hr) : allowB (seen ++ [s]) hs = (allowB seen hs && inB s (hs.getD s.hour.toNat zeroHr)) := by
  unfold allowB
  rw [List.all_append]
  simp
theorem obsM_app1 (seen : List Sg) (s : Sg) (hs : List Hr) : obsM (seen ++ [s]) hs = (obsM seen hs).set s.hour.toNat (justM s) := by
  unfold obsM
  rw [List.foldl_append]
  rfl
/-- Each scenario with one more observation is one without it, with less in its hours. -/
theorem scs_more {f : List (List Hr)} {seen : List Sg} {s : Sg} (hfc : fcB f = true) (hsg : sgsB (hoursN f) (seen ++ [s]) = true) {x2 : List Hr} (hx : x2 ∈ scsM (seen ++ [s]) f) :
    ∃ x1 ∈ scsM seen f, ∀ i, i < hoursN f → SubH (x2.getD i zeroHr) (x1.getD i zeroHr) := by
  unfold scsM at hx
  obtain ⟨z, hz, rfl⟩ := List.mem_map.1 hx
  obtain ⟨hz1, hz2⟩ := List.mem_filter.1 hz
  rw [allow_snoc, Bool.and_eq_true] at hz2
  have hl := ((fc_ok hfc).2.2.2.2 z hz1).1
  refine ⟨obsM seen z, ?_, fun i hi => ?_⟩
  · unfold scsM
    exact List.mem_map.2 ⟨z, List.mem_filter.2 ⟨hz1, hz2.1⟩, rfl⟩
  · rw [obsM_app1]
    have hl2 : (obsM seen z).length = hoursN f := by rw [obsM_len]; exact hl
    by_cases hie : i = s.hour.toNat
    · subst hie
      have e2 : ((obsM seen z).set s.hour.toNat (justM s)).getD s.hour.toNat zeroHr = justM s := by
        simp [List.getD, List.getElem?_set_self (show s.hour.toNat < (obsM seen z).length by omega)]
      rw [e2]
      have hp := pair_cnt (seen ++ [s]) (fun t ht => by
        unfold sgsB at hsg
        rw [Bool.and_eq_true, List.all_eq_true] at hsg
        have := hsg.2 t ht
        unfold sgB at this
        simp only [Bool.and_eq_true, decide_eq_true_eq] at this
        exact this.1)
      have hne : ∀ t ∈ seen, t.hour.toNat ≠ s.hour.toNat := fun t ht e => by
        have h1 := (List.pairwise_append.1 hp).2.2 t ht s (by simp)
        obtain ⟨a, ha, _⟩ := sg_hour hsg (s := t) (by simp [ht])
        obtain ⟨b, hb, _⟩ := sg_hour hsg (s := s) (by simp)
        omega
      have e3 : (obsM seen z).getD s.hour.toNat zeroHr = z.getD s.hour.toNat zeroHr := by
        refine obsM_all (fun h x => h = s.hour.toNat → x = z.getD h zeroHr) seen z (fun _ _ _ => rfl) (fun t ht _ e => absurd e (hne t ht)) _ (by rw [hl]; exact hi) rfl
      rw [e3]
      have hin := hz2.2
      unfold inB spB at hin
      unfold SubH justM
      simp only [Bool.and_eq_true, decide_eq_true_eq] at hin
      dsimp only
      omega
    · have e2 : ((obsM seen z).set s.hour.toNat (justM s)).getD i zeroHr = (obsM seen z).getD i zeroHr := by
        have hne : s.hour.toNat ≠ i := fun h => hie h.symm
        simp [List.getD, List.getElem?_set_ne hne]
      rw [e2]
      unfold SubH
      omega
theorem sub_sur {l : Lm} {a b : Hr} (hs : SubH a b) (ha : a.tl ≤ a.th) (h : surB l b = true) : surB l a = true := by
  unfold SubH at hs
  unfold surB spB at *
  simp only [Bool.and_eq_true, decide_eq_true_eq] at *
  omega
/-- One more observation. -/
theorem more_seen {f : List (List Hr)} {seen : List Sg} {s : Sg} {l : Lm} {len : Nat} (hs : seenE f seen = 0) (hs2 : seenE f (seen ++ [s]) = 0) (hl : lmB l = true) (g1 : 1 ≤ len) (g2 : len ≤ 48) (hn : noneE' f (seen ++ [s]) = 0) :
    noneE' f seen = 0 ∧ withB (sureV f seen l) (sureV f (seen ++ [s]) l) (hoursN f) = true ∧ gapV f (seen ++ [s]) l len ≤ gapV f seen l len ∧ ∀ x ∈ numsM (seen ++ [s]) f, x ∈ numsM seen f := by
  have hfc := fcE_ok (seenE_ok hs).1
  have hsg := sgE_ok (seenE_ok hs2).2
  have hsub : ∀ x ∈ numsM (seen ++ [s]) f, x ∈ numsM seen f := fun x hx => by
    unfold numsM at *
    obtain ⟨i, hi, rfl⟩ := List.mem_map.1 hx
    obtain ⟨h1, h2⟩ := List.mem_filter.1 hi
    rw [allow_snoc, Bool.and_eq_true] at h2
    exact List.mem_map.2 ⟨i, List.mem_filter.2 ⟨h1, h2.1⟩, rfl⟩
  have hne2 : numsM (seen ++ [s]) f ≠ [] := by
    intro h
    unfold noneE' at hn
    rw [if_pos h] at hn
    cases hn
  have hne : numsM seen f ≠ [] := by
    intro h
    obtain ⟨x, hx⟩ := List.exists_mem_of_ne_nil _ hne2
    have := hsub x hx
    rw [h] at this
    cases this
  have h0 : noneE' f seen = 0 := if_neg hne
  have k1 := keepsE_eq hs hl
  have k2 := keepsE_eq hs2 hl
  have w1 := winE_eq hs hl g1 g2
  have w2 := winE_eq hs2 hl g1 g2
  have hv : ∀ x2 ∈ scsM (seen ++ [s]) f, ∀ i, i < hoursN f → (x2.getD i zeroHr).tl ≤ (x2.getD i zeroHr).th := fun x2 hx2 i hi => by
    have := scs_hr hfc hsg hx2 i hi
    unfold hrB spB at this
    simp only [Bool.and_eq_true, decide_eq_true_eq] at this
    omega
  refine ⟨h0, ?_, ?_, hsub⟩
  · unfold sureV
    rw [k1, k2, if_pos h0, if_pos hn]
    refine withB_of fun i hi => sure_mono (fun x2 hx2 => ?_) i hi
    obtain ⟨x1, hx1, hk⟩ := scs_more hfc hsg hx2
    exact ⟨x1, hx1, fun j hj hr h => sub_sur (hk j hj) (hv x2 hx2 j hj) h⟩
  · unfold gapV
    rw [w1, w2, if_pos h0, if_pos hn, Int.toNat_natCast]
    have := gapM_mono (len := len) (k1 := surB l) (k2 := surB l) g1 (scsM_all (seen := seen) hfc) (scsM_all (seen := seen ++ [s]) hfc) (fun x2 hx2 => by
      obtain ⟨x1, hx1, hk⟩ := scs_more hfc hsg hx2
      exact ⟨x1, hx1, fun j hj h => sub_sur (hk j hj) (hv x2 hx2 j hj) h⟩)
    omega
end Go.Proofs.YtcpkdnegmblonaaDoor
/- One more observation in a slice of the call's own. -/
set_option linter.unusedSimpArgs false
set_option linter.unusedVariables false
namespace Go.Proofs.YtcpkdnegmblonaaDoor
open Go.RowKit
theorem oneSg : ∀ y : Sg, ∀ u ∈ gSg y, u.oneCell' = true := by
  intro y u hu
  simp only [gSg, List.mem_cons, List.not_mem_nil, or_false] at hu
  rcases hu with rfl | rfl | rfl | rfl <;> rfl
theorem infoSg : (Tryd.prog.info? 66).map (fun i => (i.zero, i.size, i.bytes)) = some (some (.agg #[.int .i64 0, .int .i64 0, .int .i64 0, .int .i64 0]), 4, 32) := by kernel_rfl
theorem wp_app1Sg {o : Oper} {a : Act} {K : Act → World → Prop} {Q : Exit → Act → World → Prop} (w : World) (s x : Operand)
    (hop : o.op = Op.call { callee := Callee.builtin Builtin.append, args := #[s, x], argTypes := #[25, 25] }) (B : Nat) (v : Value) (xs : List Sg) (hs : a.eval s = v) (hown : Ownl 66 4 gSg w B v xs)
    (z : Nat) (y : Sg) (hx : a.eval x = .slice (some ⟨z, 0, none⟩) 1 1) (hy : Blk w z 66 #[.int .i64 y.hour, .int .i64 y.wind, .int .i64 y.rain, .int .i64 y.temp]) (hl : xs.length ≤ 10000) (hB : B ≤ w.heap.size)
    (hK : ∀ v' w', Ownl 66 4 gSg w' B v' (xs ++ [y]) → w.grownBy w' v.ownBlock → K (a.put o.dst v') w') : o.wp Tryd.prog a w K Q := by
  obtain ⟨i0, hi, hz0, hz1, hz2⟩ := info_parts infoSg
  refine wp_append_own w s x 25 hop B 66 i0 _ 4 32 Tryd.underlying25 hi hz0 hz1 hz2 rfl (by decide) v xs.length (xs.flatMap gSg) hs hown ⟨z, 0, none⟩ 1 1 (gSg y) hx rfl ?_ (oneSg y) (by unfold maxLen; omega) (by omega) hB (fun v' w' h1 h2 _ => hK v' w' (Ownl.snoc h1) h2)
  intro j u hj
  rw [addr_add, Nat.zero_add, hy.cell]
  match j, hj with
  | 0, hj => exact hj
  | 1, hj => exact hj
  | 2, hj => exact hj
  | 3, hj => exact hj
  | j + 4, hj => simp [gSg] at hj
theorem wp_appAllSg {o : Oper} {a : Act} {K : Act → World → Prop} {Q : Exit → Act → World → Prop} (w : World) (l x : Operand)
    (ho : o.op = .call { callee := .builtin .append, args := #[l, x], argTypes := #[25, 25] }) (B z : Nat) (A : Option Addr) (c : Nat) (os : List Sg) (hs : a.eval l = .slice (some ⟨z, 0, none⟩) 0 0) (hz : Blk w z 66 #[]) (hBz : B ≤ z)
    (n : Nat) (hn : os.length = n) (hx : a.eval x = .slice A n c) (hO : SgsAt w A os) (hl : n ≤ 10000)
    (h : ∀ v' w', Ownl 66 4 gSg w' B v' os → w.grownBy w' (some z) → K (a.put o.dst v') w') : o.wp Tryd.prog a w K Q := by
  subst hn
  obtain ⟨i0, hi, hz0, hz1, hz2⟩ := info_parts infoSg
  exact wp_appendAllG zeroSg w l x 25 66 ho Tryd.underlying25 hi hz0 hz1 hz2 rfl (by decide) (by decide) (fun _ => rfl) oneSg B z A c os hs hz hBz hx (flat_sgs.2 hO) hl h
theorem region_restA {P : Program} {c : Code} {Q : Exit → Act → World → Prop} {a : Act} {w : World} (R : (Exit → Act → World → Prop) → Act → Prop) (h1 : R Q a) (h2 : R Q a → Code.wp P c Q a w) : Code.wp P c Q a w := h2 h1
end Go.Proofs.YtcpkdnegmblonaaDoor
