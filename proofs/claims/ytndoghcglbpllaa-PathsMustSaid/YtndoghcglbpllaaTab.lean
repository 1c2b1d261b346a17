/- The table of the specification: the lowest arrivals, path by path in place. -/
import Derived.Test.YtndoghcglbpllaaStab
set_option linter.unusedSimpArgs false
set_option linter.unusedVariables false
namespace Go.Proofs.Ytndoghcglbpllaa
open Go.RowKit
section
variable (sel : Int → Int → Int) (g l pl ph : Int) (ps : List Pt) (but : Int)
def ipStep (acc : List Int) (i : Nat) : List Int :=
  if (i : Int) ≠ but ∧ (ps.getD i zeroPt).grade ≤ g then acc.set (ps.getD i zeroPt).dst.toNat (min (acc.getD (ps.getD i zeroPt).dst.toNat 0) (arrive sel l pl ph (ps.getD i zeroPt) (acc.getD (ps.getD i zeroPt).frm.toNat 0))) else acc
def ipTo (acc : List Int) (k : Nat) : List Int := (List.range k).foldl (ipStep sel g l pl ph ps but) acc
def ipRows (m from_ : Nat) (start : Int) : Nat → List Int
  | 0 => (List.replicate m 2881).set from_ start
  | k + 1 => ipTo sel g l pl ph ps but (ipRows m from_ start k) ps.length
theorem ipTo_succ (acc : List Int) (k : Nat) : ipTo sel g l pl ph ps but acc (k + 1) = ipStep sel g l pl ph ps but (ipTo sel g l pl ph ps but acc k) k := by
  unfold ipTo
  rw [List.range_succ, List.foldl_append]
  rfl
end
section
variable {sel : Int → Int → Int} {g l pl ph : Int} {ps : List Pt} {but : Int} {m : Nat}
theorem ipStep_len (acc : List Int) (i : Nat) : (ipStep sel g l pl ph ps but acc i).length = acc.length := by
  unfold ipStep
  split
  · simp
  · rfl
theorem ipStep_le (acc : List Int) (i : Nat) : LeRow (ipStep sel g l pl ph ps but acc i) acc := by
  refine ⟨ipStep_len acc i, fun k => ?_⟩
  unfold ipStep
  split
  · rw [getD_set]
    split
    · rename_i h; rw [h.1]; omega
    · exact Int.le_refl _
  · exact Int.le_refl _
theorem ipTo_len (acc : List Int) : ∀ k, (ipTo sel g l pl ph ps but acc k).length = acc.length
  | 0 => rfl
  | k + 1 => by rw [ipTo_succ, ipStep_len]; exact ipTo_len acc k
theorem ipTo_le (acc : List Int) : ∀ k, LeRow (ipTo sel g l pl ph ps but acc k) acc
  | 0 => LeRow.refl _
  | k + 1 => by
    rw [ipTo_succ]
    have h1 := ipStep_le (sel := sel) (g := g) (l := l) (pl := pl) (ph := ph) (ps := ps) (but := but) (ipTo sel g l pl ph ps but acc k) k
    have h2 := ipTo_le acc k
    exact ⟨h1.1.trans h2.1, fun j => Int.le_trans (h1.2 j) (h2.2 j)⟩
theorem ipRows_len (from_ : Nat) (start : Int) : ∀ k, (ipRows sel g l pl ph ps but m from_ start k).length = m
  | 0 => by simp [ipRows]
  | k + 1 => by rw [ipRows, ipTo_len]; exact ipRows_len from_ start k
theorem ipStep_bd (hs : SelGe sel) (ha : PaOk l pl ph) (hN : NOk m ps) {acc : List Int} (h : BdRow m acc) {i : Nat} (hi : i < ps.length) : BdRow m (ipStep sel g l pl ph ps but acc i) := by
  unfold ipStep
  split
  · have hd := hN.dst i hi
    have hf := hN.frm i hi
    have h1 := h.2 (ps.getD i zeroPt).dst.toNat (by omega)
    have h2 := h.2 (ps.getD i zeroPt).frm.toNat (by omega)
    have h3 := arrive_bd hs ha (hN.ok i hi) h2.1
    exact bd_set h _ (by omega) (by omega)
  · exact h
theorem ipTo_bd (hs : SelGe sel) (ha : PaOk l pl ph) (hN : NOk m ps) {acc : List Int} (h : BdRow m acc) : ∀ k, k ≤ ps.length → BdRow m (ipTo sel g l pl ph ps but acc k)
  | 0, _ => h
  | k + 1, hk => by
    rw [ipTo_succ]
    exact ipStep_bd hs ha hN (ipTo_bd hs ha hN h k (by omega)) hk
theorem ipRows_bd (hs : SelGe sel) (ha : PaOk l pl ph) (hN : NOk m ps) {from_ : Nat} {start : Int} (h0 : 0 ≤ start) (h1 : start ≤ 2881) : ∀ k, BdRow m (ipRows sel g l pl ph ps but m from_ start k)
  | 0 => bd_set ⟨by simp, fun k hk => by simp [List.getD, hk]⟩ _ h0 h1
  | k + 1 => ipTo_bd hs ha hN (ipRows_bd hs ha hN h0 h1 k) _ (Nat.le_refl _)
/-- In place is not later than round by round. -/
theorem ipTo_pm (hbut : ∀ i : Nat, i < ps.length → (i : Int) ≠ but) {acc low : List Int} (h : LeRow acc low) : ∀ k, k ≤ ps.length → LeRow (ipTo sel g l pl ph ps but acc k) (pmFold sel l pl ph ps low (walkIdx ps g k))
  | 0, _ => h
  | k + 1, hk => by
    have ih := ipTo_pm hbut h k (by omega)
    have hle := ipTo_le (sel := sel) (g := g) (l := l) (pl := pl) (ph := ph) (ps := ps) (but := but) acc k
    rw [ipTo_succ]
    unfold ipStep
    by_cases hg : (ps.getD k zeroPt).grade ≤ g
    · rw [if_pos ⟨hbut k hk, hg⟩, walkIdx_yes hg, pmFold_snoc]
      unfold pmStep
      refine ih.set _ ?_
      have h1 := ih.2 (ps.getD k zeroPt).dst.toNat
      have h2 := arrive_mono sel l pl ph (ps.getD k zeroPt) (Int.le_trans (hle.2 (ps.getD k zeroPt).frm.toNat) (h.2 (ps.getD k zeroPt).frm.toNat))
      omega
    · rw [if_neg (fun h => hg h.2), walkIdx_no hg]
      exact ih
theorem ipRows_le (hbut : ∀ i : Nat, i < ps.length → (i : Int) ≠ but) (from_ : Nat) (start : Int) : ∀ k, LeRow (ipRows sel g l pl ph ps but m from_ start k) (rows sel g l pl ph ps m from_ start k)
  | 0 => LeRow.refl _
  | k + 1 => ipTo_pm hbut (ipRows_le hbut from_ start k) ps.length (Nat.le_refl _)
/-- In place is not sooner than the lowest arrivals. -/
theorem ipStep_low (hs : SelGe sel) (ha : PaOk l pl ph) (hm : 1 ≤ m) (hN : NOk m ps) (from_ : Nat) {s : Int} (h0 : 0 ≤ s) (h1 : s ≤ 2881) {acc : List Int} (h : LeRow (rows sel g l pl ph ps m from_ s (m - 1)) acc) {i : Nat} (hi : i < ps.length) :
    LeRow (rows sel g l pl ph ps m from_ s (m - 1)) (ipStep sel g l pl ph ps but acc i) := by
  refine ⟨h.1.trans (ipStep_len acc i).symm, fun k => ?_⟩
  unfold ipStep
  split
  · rename_i hc
    rw [getD_set]
    split
    · rename_i hk
      have hfx := rows_fix (g := g) hs ha hm hN from_ h0 h1 hi hc.2
      have h2 := arrive_mono sel l pl ph (ps.getD i zeroPt) (h.2 (ps.getD i zeroPt).frm.toNat)
      have h3 := h.2 k
      rw [hk.1] at hfx ⊢
      omega
    · exact h.2 k
  · exact h.2 k
theorem ipTo_low (hs : SelGe sel) (ha : PaOk l pl ph) (hm : 1 ≤ m) (hN : NOk m ps) (from_ : Nat) {s : Int} (h0 : 0 ≤ s) (h1 : s ≤ 2881) {acc : List Int} (h : LeRow (rows sel g l pl ph ps m from_ s (m - 1)) acc) :
    ∀ k, k ≤ ps.length → LeRow (rows sel g l pl ph ps m from_ s (m - 1)) (ipTo sel g l pl ph ps but acc k)
  | 0, _ => h
  | k + 1, hk => by
    rw [ipTo_succ]
    exact ipStep_low hs ha hm hN from_ h0 h1 (ipTo_low hs ha hm hN from_ h0 h1 h k (by omega)) hk
theorem ipRows_low (hs : SelGe sel) (ha : PaOk l pl ph) (hm : 1 ≤ m) (hN : NOk m ps) (from_ : Nat) {s : Int} (h0 : 0 ≤ s) (h1 : s ≤ 2881) : ∀ k, LeRow (rows sel g l pl ph ps m from_ s (m - 1)) (ipRows sel g l pl ph ps but m from_ s k)
  | 0 => ⟨(rows_len from_ s (m - 1)).trans (rows_len (sel := sel) (g := g) (l := l) (pl := pl) (ph := ph) (ps := ps) from_ s 0).symm, fun v => rows_anti from_ s v (Nat.zero_le _)⟩
  | k + 1 => ipTo_low hs ha hm hN from_ h0 h1 (ipRows_low hs ha hm hN from_ h0 h1 k) _ (Nat.le_refl _)
/-- The table is the lowest arrivals. -/
theorem ipRows_eq (hs : SelGe sel) (ha : PaOk l pl ph) (hm : 1 ≤ m) (hN : NOk m ps) (hbut : ∀ i : Nat, i < ps.length → (i : Int) ≠ but) (from_ : Nat) {s : Int} (h0 : 0 ≤ s) (h1 : s ≤ 2881) : ipRows sel g l pl ph ps but m from_ s m = rows sel g l pl ph ps m from_ s (m - 1) := by
  refine same_of ((ipRows_len from_ s m).trans (rows_len from_ s (m - 1)).symm) fun j _ => ?_
  have h2 := (ipRows_low (g := g) (but := but) hs ha hm hN from_ h0 h1 m).2 j
  have h3 := (ipRows_le (sel := sel) (g := g) (l := l) (pl := pl) (ph := ph) (m := m) hbut from_ s m).2 j
  have h4 := rows_anti (sel := sel) (g := g) (l := l) (pl := pl) (ph := ph) (ps := ps) (m := m) from_ s j (show m - 1 ≤ m by omega)
  omega
/-- The other way to say never. -/
def phi (x : Int) : Int := if x = 2881 then 1073741824 else x
theorem phi_min {a b : Int} (ha : a ≤ 2881) (hb : b ≤ 2881) : phi (min a b) = min (phi a) (phi b) := by
  unfold phi
  split <;> split <;> split <;> omega
end

theorem map_getD (acc : List Int) (k : Nat) (h : k < acc.length) : (acc.map phi).getD k 0 = phi (acc.getD k 0) := by
  rw [List.getD_eq_getElem?_getD, List.getD_eq_getElem?_getD, List.getElem?_map, List.getElem?_eq_getElem h]
  rfl
theorem set_self (acc : List Int) (k : Nat) : acc.set k (acc.getD k 0) = acc := by
  refine List.ext_getElem? fun i => ?_
  rw [List.getElem?_set]
  split
  · rename_i h
    subst h
    split
    · rename_i hl
      simp [List.getD, List.getElem?_eq_getElem hl]
    · rename_i hl
      rw [List.getElem?_eq_none (by omega)]
  · rfl
theorem map_set (acc : List Int) (k : Nat) (v : Int) : (acc.map phi).set k (phi v) = (acc.set k v).map phi := by rw [List.map_set]
theorem ip_skip {sel : Int → Int → Int} {g l pl ph : Int} {ps : List Pt} {but : Int} {acc : List Int} {i : Nat} (h : (i : Int) = but ∨ ¬ (ps.getD i zeroPt).grade ≤ g) : ipStep sel g l pl ph ps but acc i = acc := by
  unfold ipStep
  rw [if_neg]
  rintro ⟨h1, h2⟩
  rcases h with h | h
  · exact h1 h
  · exact h h2
theorem ip_never {sel : Int → Int → Int} (hs : SelGe sel) {g l pl ph : Int} (ha : PaOk l pl ph) {ps : List Pt} {but : Int} {acc : List Int} {i : Nat} (hok : PtOk (ps.getD i zeroPt)) (hD : acc.getD (ps.getD i zeroPt).dst.toNat 0 ≤ 2881) (h : acc.getD (ps.getD i zeroPt).frm.toNat 0 = 2881) : ipStep sel g l pl ph ps but acc i = acc := by
  unfold ipStep
  split
  · have h1 := arrive_geS hs ha hok (Int.le_refl 2881)
    have h2 : arrive sel l pl ph (ps.getD i zeroPt) 2881 ≤ 2881 := by unfold arrive; omega
    rw [h, show min (acc.getD (ps.getD i zeroPt).dst.toNat 0) (arrive sel l pl ph (ps.getD i zeroPt) 2881) = acc.getD (ps.getD i zeroPt).dst.toNat 0 by omega]
    exact set_self _ _
  · rfl
theorem ip_yes {sel : Int → Int → Int} {g l pl ph : Int} {ps : List Pt} {but : Int} {acc : List Int} {i : Nat} (h1 : (i : Int) ≠ but) (h2 : (ps.getD i zeroPt).grade ≤ g) : ipStep sel g l pl ph ps but acc i = acc.set (ps.getD i zeroPt).dst.toNat (min (acc.getD (ps.getD i zeroPt).dst.toNat 0) (arrive sel l pl ph (ps.getD i zeroPt) (acc.getD (ps.getD i zeroPt).frm.toNat 0))) := by
  unfold ipStep
  rw [if_pos ⟨h1, h2⟩]
theorem fill_set (k m : Nat) (v : Int) (h : k < m) : (fillTo k m v).set k (.int .i64 v) = fillTo (k + 1) m v := by
  unfold fillTo
  obtain ⟨s, hs⟩ : ∃ s, m - k = s + 1 := ⟨m - k - 1, by omega⟩
  rw [hs, show m - (k + 1) = s by omega, List.set_append_right _ _ (by simp), List.length_replicate, Nat.sub_self, List.replicate_succ, List.set_cons_zero, List.replicate_succ', List.append_assoc]
  rfl
theorem fill_get0 (k m : Nat) (v : Int) (h : k < m) : (fillTo k m v)[k]? = some (.int .i64 0) := by
  unfold fillTo
  rw [List.getElem?_append_right (by simp), List.length_replicate, Nat.sub_self, List.getElem?_replicate]
  rw [if_pos (by omega)]
end Go.Proofs.Ytndoghcglbpllaa
