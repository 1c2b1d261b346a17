/- Far: what it says of a net if it says no. -/
import Derived.Test.YtndoghcglbpllaaV05
import Derived.Test.YtndoghcglbpllaaV10
import Derived.Test.YtndoghcglbpllaaV09
import Derived.Deep.RegionHeld3
set_option linter.unusedSimpArgs false
set_option linter.unusedVariables false
namespace Go.Proofs.Ytndoghcglbpllaa
open Go.RowKit
/-- A net that is not far. -/
def NearOk (m : Int) (ps : List Pt) : Prop := ps.length ≤ 26 ∧ ∀ k, k < ps.length → (ps.getD k zeroPt).opens.length ≤ 8
set_option maxRecDepth 100000 in
set_option maxHeartbeats 1000000 in
theorem far2_any (m : Int) (A : Option Addr) (n c : Nat) (ps : List Pt) (hn : ps.length = n) (w : World) (hp : PathsAt w A ps) :
    Calls Try.prog 12 #[.agg #[.int .i64 m, .slice A n c]] w fun e w' => (∃ B, e = .returned (.bool B) ∧ (B = false → NearOk m ps)) ∧ Ext w w' := by
  have HC := hid (fun (W : World) (hW : Ext w W) => rCheck_any m A n c ps hn W (hp.ext hW))
  have HP := hid hp
  have HN := hid hn
  clear hp hn
  by_cases h1 : n ≤ 26
  case neg =>
    go_enter Try.func12, Try.ntmps12
    go_wp2
    go_ret
    exact ⟨⟨_, rfl, fun h => by cases h⟩, by (repeat' (first | with_reducible assumption | with_reducible exact Ext.refl _ | with_reducible refine Ext.alloc ?_ _ | with_reducible refine Ext.set ?_ ?_ _ | with_reducible refine Ext.drew ?_ | with_reducible refine Ext.drewN ?_ _ | with_reducible refine Ext.trans ?_ (by assumption) | (dsimp only; omega)))⟩
  have B0 := hid (heap_alloc_new w (.cells #[.int .i64 m, .slice A n c] 24))
  revert HC
  generalize checkE m ps = ce
  intro HC
  go_enter Try.func12, Try.ntmps12
  go_wp2
  go_loopw [3] (fun i wr => Ext w wr ∧ Hid (wr.heap[w.heap.size]? = some (.cells #[.int .i64 m, .slice A n c] 24 (0, 0))) ∧ ∃ k : Nat, k ≤ n ∧ i = .int .i64 k ∧ Hid (∀ j, j < k → (ps.getD j zeroPt).opens.length ≤ 8)) (fun i _ => n - (intOf i).toNat)
  case atStart => exact ⟨by (repeat' (first | with_reducible assumption | with_reducible exact Ext.refl _ | with_reducible refine Ext.alloc ?_ _ | with_reducible refine Ext.set ?_ ?_ _ | with_reducible refine Ext.drew ?_ | with_reducible refine Ext.drewN ?_ _ | with_reducible refine Ext.trans ?_ (by assumption) | (dsimp only; omega))), B0, 0, Nat.zero_le _, rfl, hid (fun j hj => by omega)⟩
  case round =>
    clear B0
    obtain ⟨hE, HB, k, hk, rfl, HJ⟩ := hrel
    have c0 := blk_cell HB.out 0
    have c1 := blk_cell HB.out 1
    have hs := (Array.getElem?_eq_some_iff.1 HB.out).1
    simp only [List.getElem?_toArray, List.getElem?_cons_zero, List.getElem?_cons_succ] at c0 c1
    by_cases hlt : k < n
    · obtain ⟨b, off, A', c', rfl, hb, hpt⟩ := (HP.out.ext hE).at_ HN.out hlt
      have hk0 : (0 : Int) ≤ (k : Int) := by omega
      have hk1 : (k : Int) < (n : Int) := by omega
      have HJ2 := hid (fun (h : (ps.getD k zeroPt).opens.length ≤ 8) => (show ∀ j, j < k + 1 → (ps.getD j zeroPt).opens.length ≤ 8 from fun j hj => by
        by_cases hjk : j < k
        · exact HJ.out j hjk
        · obtain rfl : j = k := by omega
          exact h))
      obtain ⟨p, hpq⟩ : ∃ p, ps.getD k zeroPt = p := ⟨_, rfl⟩
      rw [hpq] at hpt HJ2
      clear hpq
      obtain ⟨d0, d1, d2, d3, d4, d5, d6, d7, hcap, hop⟩ := hpt
      obtain ⟨f, d, g, tl, th, sl, sh, os⟩ := p
      dsimp only at d0 d1 d2 d3 d4 d5 d6 d7 hcap hop HJ2
      clear hop hcap
      by_cases h8 : os.length ≤ 8
      · have HJ3 := hid (HJ2.out h8)
        go_wp2
        go_roundw
        case rel => exact ⟨hE, HB, k + 1, by omega, by go_num, HJ3⟩
        case measure => simp [intOf]; omega
      · go_wp2
        go_ret
        exact ⟨⟨_, rfl, fun h => by first | (cases h; done) | (simp at h; omega)⟩, hE⟩
    · have HNR := hid (show NearOk m ps from ⟨by have := HN.out; omega, fun j hj => HJ.out j (by have := HN.out; omega)⟩)
      by_cases hce : ce = 0
      · subst hce
        by_cases h6 : 6 < m
        · go_wp2_with fail
          refine (HC.out _ hE).mono ?_
          rintro e w2 ⟨rfl, hE2⟩
          have HB2 := hid (blk_ext HB.out hE2)
          have hE3 := hE.trans hE2
          clear c0 c1 hE2 HB hs
          have c0 := blk_cell HB2.out 0
          have c1 := blk_cell HB2.out 1
          have hs := (Array.getElem?_eq_some_iff.1 HB2.out).1
          simp only [List.getElem?_toArray, List.getElem?_cons_zero, List.getElem?_cons_succ] at c0 c1
          go_wp2
          go_ret
          exact ⟨⟨_, rfl, fun _ => HNR.out⟩, hE3⟩
        · by_cases h10 : 10 < n
          · go_wp2_with fail
            refine (HC.out _ hE).mono ?_
            rintro e w2 ⟨rfl, hE2⟩
            have HB2 := hid (blk_ext HB.out hE2)
            have hE3 := hE.trans hE2
            clear c0 c1 hE2 HB hs
            have c0 := blk_cell HB2.out 0
            have c1 := blk_cell HB2.out 1
            have hs := (Array.getElem?_eq_some_iff.1 HB2.out).1
            simp only [List.getElem?_toArray, List.getElem?_cons_zero, List.getElem?_cons_succ] at c0 c1
            go_wp2
            go_ret
            exact ⟨⟨_, rfl, fun _ => HNR.out⟩, hE3⟩
          · go_wp2_with fail
            refine (HC.out _ hE).mono ?_
            rintro e w2 ⟨rfl, hE2⟩
            have HB2 := hid (blk_ext HB.out hE2)
            have hE3 := hE.trans hE2
            clear c0 c1 hE2 HB hs
            have c0 := blk_cell HB2.out 0
            have c1 := blk_cell HB2.out 1
            have hs := (Array.getElem?_eq_some_iff.1 HB2.out).1
            simp only [List.getElem?_toArray, List.getElem?_cons_zero, List.getElem?_cons_succ] at c0 c1
            go_wp2
            go_ret
            exact ⟨⟨_, rfl, fun _ => HNR.out⟩, hE3⟩
      · go_wp2_with fail
        refine (HC.out _ hE).mono ?_
        rintro e w2 ⟨rfl, hE2⟩
        have HB2 := hid (blk_ext HB.out hE2)
        have hE3 := hE.trans hE2
        clear c0 c1 hE2 HB hs
        have c0 := blk_cell HB2.out 0
        have c1 := blk_cell HB2.out 1
        have hs := (Array.getElem?_eq_some_iff.1 HB2.out).1
        simp only [List.getElem?_toArray, List.getElem?_cons_zero, List.getElem?_cons_succ] at c0 c1
        go_wp2
        go_ret
        exact ⟨⟨_, rfl, fun _ => HNR.out⟩, hE3⟩
end Go.Proofs.Ytndoghcglbpllaa
/- The table of the specification: the lowest arrivals, path by path in place. -/
set_option linter.unusedSimpArgs false
set_option linter.unusedVariables false
namespace Go.Proofs.Ytndoghcglbpllaa
open Go.RowKit
section
variable (sel : Int → Int → Int) (g l pl ph : Int) (ps : List Pt) (but : Int)
def ipStep (acc : List Int) (i : Nat) : List Int :=
  if (i : Int) ≠ but ∧ (ps.getD i zeroPt).grade ≤ g then acc.set (ps.getD i zeroPt).dst.toNat (min (acc.getD (ps.getD i zeroPt).dst.toNat 0) (arrive sel l pl ph (ps.getD i zeroPt) (acc.getD (ps.getD i zeroPt).frm.toNat 0))) else acc
def ipTo (acc : List Int) (k : Nat) : List Int := (List.range k).foldl (ipStep sel g l pl ph ps but) acc
def ipRows (m from_ : Nat) (start : Int) : Nat → List Int
  | 0 => (List.replicate m 2881).set from_ start
  | k + 1 => ipTo sel g l pl ph ps but (ipRows m from_ start k) ps.length
theorem ipTo_succ (acc : List Int) (k : Nat) : ipTo sel g l pl ph ps but acc (k + 1) = ipStep sel g l pl ph ps but (ipTo sel g l pl ph ps but acc k) k := by
  unfold ipTo
  rw [List.range_succ, List.foldl_append]
  rfl
end
section
variable {sel : Int → Int → Int} {g l pl ph : Int} {ps : List Pt} {but : Int} {m : Nat}
theorem ipStep_len (acc : List Int) (i : Nat) : (ipStep sel g l pl ph ps but acc i).length = acc.length := by
  unfold ipStep
  split
  · simp
  · rfl
theorem ipStep_le (acc : List Int) (i : Nat) : LeRow (ipStep sel g l pl ph ps but acc i) acc := by
  refine ⟨ipStep_len acc i, fun k => ?_⟩
  unfold ipStep
  split
  · rw [getD_set]
    split
    · rename_i h; rw [h.1]; omega
    · exact Int.le_refl _
  · exact Int.le_refl _
theorem ipTo_len (acc : List Int) : ∀ k, (ipTo sel g l pl ph ps but acc k).length = acc.length
  | 0 => rfl
  | k + 1 => by rw [ipTo_succ, ipStep_len]; exact ipTo_len acc k
theorem ipTo_le (acc : List Int) : ∀ k, LeRow (ipTo sel g l pl ph ps but acc k) acc
  | 0 => LeRow.refl _
  | k + 1 => by
    rw [ipTo_succ]
    have h1 := ipStep_le (sel := sel) (g := g) (l := l) (pl := pl) (ph := ph) (ps := ps) (but := but) (ipTo sel g l pl ph ps but acc k) k
    have h2 := ipTo_le acc k
    exact ⟨h1.1.trans h2.1, fun j => Int.le_trans (h1.2 j) (h2.2 j)⟩
theorem ipRows_len (from_ : Nat) (start : Int) : ∀ k, (ipRows sel g l pl ph ps but m from_ start k).length = m
  | 0 => by simp [ipRows]
  | k + 1 => by rw [ipRows, ipTo_len]; exact ipRows_len from_ start k
theorem ipStep_bd (hs : SelGe sel) (ha : PaOk l pl ph) (hN : NOk m ps) {acc : List Int} (h : BdRow m acc) {i : Nat} (hi : i < ps.length) : BdRow m (ipStep sel g l pl ph ps but acc i) := by
  unfold ipStep
  split
  · have hd := hN.dst i hi
    have hf := hN.frm i hi
    have h1 := h.2 (ps.getD i zeroPt).dst.toNat (by omega)
    have h2 := h.2 (ps.getD i zeroPt).frm.toNat (by omega)
    have h3 := arrive_bd hs ha (hN.ok i hi) h2.1
    exact bd_set h _ (by omega) (by omega)
  · exact h
theorem ipTo_bd (hs : SelGe sel) (ha : PaOk l pl ph) (hN : NOk m ps) {acc : List Int} (h : BdRow m acc) : ∀ k, k ≤ ps.length → BdRow m (ipTo sel g l pl ph ps but acc k)
  | 0, _ => h
  | k + 1, hk => by
    rw [ipTo_succ]
    exact ipStep_bd hs ha hN (ipTo_bd hs ha hN h k (by omega)) hk
theorem ipRows_bd (hs : SelGe sel) (ha : PaOk l pl ph) (hN : NOk m ps) {from_ : Nat} {start : Int} (h0 : 0 ≤ start) (h1 : start ≤ 2881) : ∀ k, BdRow m (ipRows sel g l pl ph ps but m from_ start k)
  | 0 => bd_set ⟨by simp, fun k hk => by simp [List.getD, hk]⟩ _ h0 h1
  | k + 1 => ipTo_bd hs ha hN (ipRows_bd hs ha hN h0 h1 k) _ (Nat.le_refl _)
/-- In place is not later than round by round. -/
theorem ipTo_pm (hbut : ∀ i : Nat, i < ps.length → (i : Int) ≠ but) {acc low : List Int} (h : LeRow acc low) : ∀ k, k ≤ ps.length → LeRow (ipTo sel g l pl ph ps but acc k) (pmFold sel l pl ph ps low (walkIdx ps g k))
  | 0, _ => h
  | k + 1, hk => by
    have ih := ipTo_pm hbut h k (by omega)
    have hle := ipTo_le (sel := sel) (g := g) (l := l) (pl := pl) (ph := ph) (ps := ps) (but := but) acc k
    rw [ipTo_succ]
    unfold ipStep
    by_cases hg : (ps.getD k zeroPt).grade ≤ g
    · rw [if_pos ⟨hbut k hk, hg⟩, walkIdx_yes hg, pmFold_snoc]
      unfold pmStep
      refine ih.set _ ?_
      have h1 := ih.2 (ps.getD k zeroPt).dst.toNat
      have h2 := arrive_mono sel l pl ph (ps.getD k zeroPt) (Int.le_trans (hle.2 (ps.getD k zeroPt).frm.toNat) (h.2 (ps.getD k zeroPt).frm.toNat))
      omega
    · rw [if_neg (fun h => hg h.2), walkIdx_no hg]
      exact ih
theorem ipRows_le (hbut : ∀ i : Nat, i < ps.length → (i : Int) ≠ but) (from_ : Nat) (start : Int) : ∀ k, LeRow (ipRows sel g l pl ph ps but m from_ start k) (rows sel g l pl ph ps m from_ start k)
  | 0 => LeRow.refl _
  | k + 1 => ipTo_pm hbut (ipRows_le hbut from_ start k) ps.length (Nat.le_refl _)
/-- In place is not sooner than the lowest arrivals. -/
theorem ipStep_low (hs : SelGe sel) (ha : PaOk l pl ph) (hm : 1 ≤ m) (hN : NOk m ps) (from_ : Nat) {s : Int} (h0 : 0 ≤ s) (h1 : s ≤ 2881) {acc : List Int} (h : LeRow (rows sel g l pl ph ps m from_ s (m - 1)) acc) {i : Nat} (hi : i < ps.length) :
    LeRow (rows sel g l pl ph ps m from_ s (m - 1)) (ipStep sel g l pl ph ps but acc i) := by
  refine ⟨h.1.trans (ipStep_len acc i).symm, fun k => ?_⟩
  unfold ipStep
  split
  · rename_i hc
    rw [getD_set]
    split
    · rename_i hk
      have hfx := rows_fix (g := g) hs ha hm hN from_ h0 h1 hi hc.2
      have h2 := arrive_mono sel l pl ph (ps.getD i zeroPt) (h.2 (ps.getD i zeroPt).frm.toNat)
      have h3 := h.2 k
      rw [hk.1] at hfx ⊢
      omega
    · exact h.2 k
  · exact h.2 k
theorem ipTo_low (hs : SelGe sel) (ha : PaOk l pl ph) (hm : 1 ≤ m) (hN : NOk m ps) (from_ : Nat) {s : Int} (h0 : 0 ≤ s) (h1 : s ≤ 2881) {acc : List Int} (h : LeRow (rows sel g l pl ph ps m from_ s (m - 1)) acc) :
    ∀ k, k ≤ ps.length → LeRow (rows sel g l pl ph ps m from_ s (m - 1)) (ipTo sel g l pl ph ps but acc k)
  | 0, _ => h
  | k + 1, hk => by
    rw [ipTo_succ]
    exact ipStep_low hs ha hm hN from_ h0 h1 (ipTo_low hs ha hm hN from_ h0 h1 h k (by omega)) hk
theorem ipRows_low (hs : SelGe sel) (ha : PaOk l pl ph) (hm : 1 ≤ m) (hN : NOk m ps) (from_ : Nat) {s : Int} (h0 : 0 ≤ s) (h1 : s ≤ 2881) : ∀ k, LeRow (rows sel g l pl ph ps m from_ s (m - 1)) (ipRows sel g l pl ph ps but m from_ s k)
  | 0 => ⟨(rows_len from_ s (m - 1)).trans (rows_len (sel := sel) (g := g) (l := l) (pl := pl) (ph := ph) (ps := ps) from_ s 0).symm, fun v => rows_anti from_ s v (Nat.zero_le _)⟩
  | k + 1 => ipTo_low hs ha hm hN from_ h0 h1 (ipRows_low hs ha hm hN from_ h0 h1 k) _ (Nat.le_refl _)
/-- The table is the lowest arrivals. -/
theorem ipRows_eq (hs : SelGe sel) (ha : PaOk l pl ph) (hm : 1 ≤ m) (hN : NOk m ps) (hbut : ∀ i : Nat, i < ps.length → (i : Int) ≠ but) (from_ : Nat) {s : Int} (h0 : 0 ≤ s) (h1 : s ≤ 2881) : ipRows sel g l pl ph ps but m from_ s m = rows sel g l pl ph ps m from_ s (m - 1) := by
  refine same_of ((ipRows_len from_ s m).trans (rows_len from_ s (m - 1)).symm) fun j _ => ?_
  have h2 := (ipRows_low (g := g) (but := but) hs ha hm hN from_ h0 h1 m).2 j
  have h3 := (ipRows_le (sel := sel) (g := g) (l := l) (pl := pl) (ph := ph) (m := m) hbut from_ s m).2 j
  have h4 := rows_anti (sel := sel) (g := g) (l := l) (pl := pl) (ph := ph) (ps := ps) (m := m) from_ s j (show m - 1 ≤ m by omega)
  omega
/-- The other way to say never. -/
def phi (x : Int) : Int := if x = 2881 then 1073741824 else x
theorem phi_min {a b : Int} (ha : a ≤ 2881) (hb : b ≤ 2881) : phi (min a b) = min (phi a) (phi b) := by
  unfold phi
  split <;> split <;> split <;> omega
end

theorem map_getD (acc : List Int) (k : Nat) (h : k < acc.length) : (acc.map phi).getD k 0 = phi (acc.getD k 0) := by
  rw [List.getD_eq_getElem?_getD, List.getD_eq_getElem?_getD, List.getElem?_map, List.getElem?_eq_getElem h]
  rfl
theorem set_self (acc : List Int) (k : Nat) : acc.set k (acc.getD k 0) = acc := by
  refine List.ext_getElem? fun i => ?_
  rw [List.getElem?_set]
  split
  · rename_i h
    subst h
    split
    · rename_i hl
      simp [List.getD, List.getElem?_eq_getElem hl]
    · rename_i hl
      rw [List.getElem?_eq_none (by omega)]
  · rfl
theorem map_set (acc : List Int) (k : Nat) (v : Int) : (acc.map phi).set k (phi v) = (acc.set k v).map phi := by rw [List.map_set]
theorem ip_skip {sel : Int → Int → Int} {g l pl ph : Int} {ps : List Pt} {but : Int} {acc : List Int} {i : Nat} (h : (i : Int) = but ∨ ¬ (ps.getD i zeroPt).grade ≤ g) : ipStep sel g l pl ph ps but acc i = acc := by
  unfold ipStep
  rw [if_neg]
  rintro ⟨h1, h2⟩
  rcases h with h | h
  · exact h1 h
  · exact h h2
theorem ip_never {sel : Int → Int → Int} (hs : SelGe sel) {g l pl ph : Int} (ha : PaOk l pl ph) {ps : List Pt} {but : Int} {acc : List Int} {i : Nat} (hok : PtOk (ps.getD i zeroPt)) (hD : acc.getD (ps.getD i zeroPt).dst.toNat 0 ≤ 2881) (h : acc.getD (ps.getD i zeroPt).frm.toNat 0 = 2881) : ipStep sel g l pl ph ps but acc i = acc := by
  unfold ipStep
  split
  · have h1 := arrive_geS hs ha hok (Int.le_refl 2881)
    have h2 : arrive sel l pl ph (ps.getD i zeroPt) 2881 ≤ 2881 := by unfold arrive; omega
    rw [h, show min (acc.getD (ps.getD i zeroPt).dst.toNat 0) (arrive sel l pl ph (ps.getD i zeroPt) 2881) = acc.getD (ps.getD i zeroPt).dst.toNat 0 by omega]
    exact set_self _ _
  · rfl
theorem ip_yes {sel : Int → Int → Int} {g l pl ph : Int} {ps : List Pt} {but : Int} {acc : List Int} {i : Nat} (h1 : (i : Int) ≠ but) (h2 : (ps.getD i zeroPt).grade ≤ g) : ipStep sel g l pl ph ps but acc i = acc.set (ps.getD i zeroPt).dst.toNat (min (acc.getD (ps.getD i zeroPt).dst.toNat 0) (arrive sel l pl ph (ps.getD i zeroPt) (acc.getD (ps.getD i zeroPt).frm.toNat 0))) := by
  unfold ipStep
  rw [if_pos ⟨h1, h2⟩]
theorem fill_set (k m : Nat) (v : Int) (h : k < m) : (fillTo k m v).set k (.int .i64 v) = fillTo (k + 1) m v := by
  unfold fillTo
  obtain ⟨s, hs⟩ : ∃ s, m - k = s + 1 := ⟨m - k - 1, by omega⟩
  rw [hs, show m - (k + 1) = s by omega, List.set_append_right _ _ (by simp), List.length_replicate, Nat.sub_self, List.replicate_succ, List.set_cons_zero, List.replicate_succ', List.append_assoc]
  rfl
theorem fill_get0 (k m : Nat) (v : Int) (h : k < m) : (fillTo k m v)[k]? = some (.int .i64 0) := by
  unfold fillTo
  rw [List.getElem?_append_right (by simp), List.length_replicate, Nat.sub_self, List.getElem?_replicate]
  rw [if_pos (by omega)]
end Go.Proofs.Ytndoghcglbpllaa
/- Whether a place is reached too late, from another one at a minute, by so many paths. -/
set_option linter.unusedSimpArgs false
set_option linter.unusedVariables false
namespace Go.Proofs.Ytndoghcglbpllaa
open Go.RowKit
set_option maxRecDepth 100000 in
set_option maxHeartbeats 2000000 in
theorem rlate_any (g l pl ph : Int) (n c : Nat) (b off : Nat) (ps : List Pt) (hn : ps.length = n) (A : Option Addr) (m : Nat) (hm1 : 1 ≤ m) (hm2 : m ≤ 12) (hN : NOk m ps) (ha : PaOk l pl ph) (fr to_ : Nat) (hfr : fr < m) (hto : to_ < m) (D start : Int) (h0 : 0 ≤ start) (h1 : start ≤ 2881) (most : Nat) (hmost : most ≤ 1000)
    (w : World) (hA : 0 < n → A = some ⟨b, off, none⟩ ∧ b < w.heap.size) (hp : ∀ k, k < ps.length → ∃ A' c', PtAt w b (off + k * 8) (ps.getD k zeroPt) A' c')
    (q0 q2 q3 : Nat) (b0 : w.heap[q0]? = some (.cells (wbox (m : Int) g l pl ph A n c) 70 (0, 0))) (b2 : w.heap[q2]? = some (.cells #[.int .i64 (to_ : Int)] 3 (0, 0))) (b3 : w.heap[q3]? = some (.cells #[.int .i64 D] 3 (0, 0))) :
    Calls Try.prog 88 #[.int .i64 (fr : Int), .int .i64 start, .int .i64 (most : Int), .pointer (some ⟨q0, 0, none⟩), .pointer (some ⟨q2, 0, none⟩), .pointer (some ⟨q3, 0, none⟩)] w fun e w' =>
      e = .returned (.bool (decide (D < (rows selHi g l pl ph ps m fr start most).getD to_ 0))) ∧ Ext w w' := by
  have HS := hid (fun (W : World) (hE : Ext w W) => arrivals_sure g l pl ph n c b off ps hn A m hm1 hm2 hN ha fr hfr start h0 h1 most hmost W (fun h0 => ⟨(hA h0).1, Nat.lt_of_lt_of_le (hA h0).2 hE.size⟩)
      (fun k hk => by obtain ⟨A', c', h⟩ := hp k hk; exact ⟨A', c', h.ext (hA (by omega)).2 hE⟩))
  have hl1 := (rows_bd selHi_pos (g := g) ha hN (from_ := fr) h0 h1 most).1
  revert HS hl1
  generalize rows selHi g l pl ph ps m fr start most = xs
  intro HS hl1
  have c0 := blk_cell b0 0
  have c1 := blk_cell b0 1
  have c2 := blk_cell b0 2
  have c3 := blk_cell b0 3
  have c4 := blk_cell b0 4
  have c5 := blk_cell b0 5
  have c7 := blk_cell b2 0
  have c8 := blk_cell b3 0
  simp only [wbox, List.getElem?_toArray, List.getElem?_cons_zero, List.getElem?_cons_succ] at c0 c1 c2 c3 c4 c5 c7 c8 HS
  have s0 : q0 < w.heap.size := (Array.getElem?_eq_some_iff.1 b0).1
  have s2 : q2 < w.heap.size := (Array.getElem?_eq_some_iff.1 b2).1
  have s3 : q3 < w.heap.size := (Array.getElem?_eq_some_iff.1 b3).1
  have ht0 : (0 : Int) ≤ (to_ : Int) := by omega
  have ht1 : (to_ : Int) < (xs.length : Int) := by omega
  have HL := hid hl1
  clear hp hn hN ha hA hl1 b0 b2 b3
  go_enter Try.func88, Try.ntmps88
  go_wp2
  refine wp_region_held_drew (S := fun w' => (∀ b o, b < w.heap.size → w'.cell? ⟨b, o, none⟩ = w.cell? ⟨b, o, none⟩) ∧ w.heap.size ≤ w'.heap.size ∧ Ext w w') (by kernel_rfl) ?hS0 (fun hHeld => ?_)
  case hS0 => exact ⟨fun _ _ _ => rfl, Nat.le_refl _, Ext.drew (Ext.refl _)⟩
  refine wpAnyH_take (i := 0) (oi := _) (v := ?v0h) rfl (by kernel_rfl) (by kernel_rfl) (by kernel_rfl) (fun _ _ _ h => h) (Or.inl ⟨by rfl, ?y0h⟩) (by assumption) ?r0h
  case y0h => (intro w' hSw; (try dsimp only at hSw); go_simp; (try with_reducible rfl))
  try simp only [Act.put, List.getElem_toArray, List.getElem_cons_zero, List.getElem_cons_succ, List.setIfInBounds_toArray, List.set_cons_zero, List.set_cons_succ]
  refine wpAnyH_take (i := 1) (oi := _) (v := ?v1h) rfl (by kernel_rfl) (by kernel_rfl) (by kernel_rfl) (fun _ _ _ h => h) (Or.inl ⟨by rfl, ?y1h⟩) (by assumption) ?r1h
  case y1h => (intro w' hSw; (try dsimp only at hSw); go_simp; (try with_reducible rfl))
  try simp only [Act.put, List.getElem_toArray, List.getElem_cons_zero, List.getElem_cons_succ, List.setIfInBounds_toArray, List.set_cons_zero, List.set_cons_succ]
  refine wpAnyH_take (i := 2) (oi := _) (v := ?v2h) rfl (by kernel_rfl) (by kernel_rfl) (by kernel_rfl) (fun _ _ _ h => h) (Or.inl ⟨by rfl, ?y2h⟩) (by assumption) ?r2h
  case y2h => (intro w' hSw; (try dsimp only at hSw); go_simp; (try with_reducible rfl))
  try simp only [Act.put, List.getElem_toArray, List.getElem_cons_zero, List.getElem_cons_succ, List.setIfInBounds_toArray, List.set_cons_zero, List.set_cons_succ]
  refine wpAnyH_take (i := 3) (oi := _) (v := ?v3h) rfl (by kernel_rfl) (by kernel_rfl) (by kernel_rfl) (fun _ _ _ h => h) (Or.inl ⟨by rfl, ?y3h⟩) (by assumption) ?r3h
  case y3h => (intro w' hSw; (try dsimp only at hSw); go_simp; (try with_reducible rfl))
  try simp only [Act.put, List.getElem_toArray, List.getElem_cons_zero, List.getElem_cons_succ, List.setIfInBounds_toArray, List.set_cons_zero, List.set_cons_succ]
  refine wpAnyH_take (i := 5) (oi := _) (v := ?v5h) rfl (by kernel_rfl) (by kernel_rfl) (by kernel_rfl) (fun _ _ _ h => h) (Or.inl ⟨by rfl, ?y5h⟩) (by assumption) ?r5h
  case y5h => (intro w' hSw; (try dsimp only at hSw); go_simp; (try with_reducible rfl))
  try simp only [Act.put, List.getElem_toArray, List.getElem_cons_zero, List.getElem_cons_succ, List.setIfInBounds_toArray, List.set_cons_zero, List.set_cons_succ]
  refine wpAnyH_take (i := 8) (oi := _) (v := ?v8h) rfl (by kernel_rfl) (by kernel_rfl) (by kernel_rfl) (fun _ _ _ h => h) (Or.inl ⟨by rfl, ?y8h⟩) (by assumption) ?r8h
  case y8h => (intro w' hSw; (try dsimp only at hSw); go_simp; (try with_reducible rfl))
  try simp only [Act.put, List.getElem_toArray, List.getElem_cons_zero, List.getElem_cons_succ, List.setIfInBounds_toArray, List.set_cons_zero, List.set_cons_succ]
  refine wpAnyH_ready (rs := [4]) (by kernel_rfl) (by simp) ?_
  refine AllReadyH.cons (o := _) rfl (fun K hK => ?_) AllReadyH.nil
  go_simp
  refine (HS.out _ (Ext.drew (Ext.refl w))).mono ?_
  rintro e w2 ⟨g1, cap1, rfl, r1, z1, hE2⟩
  have hcr := r1.cell (k := to_) (by omega)
  have hx : Ext w w2 := (Ext.drew (Ext.refl w)).trans hE2
  clear hHeld
  dsimp only
  refine hK.out _ _ ⟨kcell (w1 := w.drew) (W := w) (fun _ _ _ => rfl) (Nat.le_refl _) hE2, hx.size, hx⟩ (fun hHeld => ?_)
  clear hK K
  try simp only [Act.put, List.getElem_toArray, List.getElem_cons_zero, List.getElem_cons_succ, List.setIfInBounds_toArray, List.set_cons_zero, List.set_cons_succ]
  refine wpAnyH_take (i := 6) (oi := _) (v := ?v6h) rfl (by kernel_rfl) (by kernel_rfl) (by kernel_rfl) (fun _ _ _ h => h) (Or.inl ⟨by rfl, ?y6h⟩) (by assumption) ?r6h
  case y6h => (intro w' hSw; (try dsimp only at hSw); go_simp; (try with_reducible rfl))
  try simp only [Act.put, List.getElem_toArray, List.getElem_cons_zero, List.getElem_cons_succ, List.setIfInBounds_toArray, List.set_cons_zero, List.set_cons_succ]
  have HH := hid hHeld
  clear hHeld
  refine wpAnyH_ready (rs := [7]) (by kernel_rfl) (by simp) ?_
  refine AllReadyH.cons (o := _) rfl (fun K hK => ?_) AllReadyH.nil
  go_simp
  refine hK.out _ _ HH.out (fun hHeld => ?_)
  clear hK K
  try simp only [Act.put, List.getElem_toArray, List.getElem_cons_zero, List.getElem_cons_succ, List.setIfInBounds_toArray, List.set_cons_zero, List.set_cons_succ]
  refine wpAnyH_take (i := 9) (oi := _) (v := ?v9h) rfl (by kernel_rfl) (by kernel_rfl) (by kernel_rfl) (fun _ _ _ h => h) (Or.inl ⟨by rfl, ?y9h⟩) (by assumption) ?r9h
  case y9h => (intro w' hSw; (try dsimp only at hSw); go_simp; (try with_reducible rfl))
  try simp only [Act.put, List.getElem_toArray, List.getElem_cons_zero, List.getElem_cons_succ, List.setIfInBounds_toArray, List.set_cons_zero, List.set_cons_succ]
  refine wpAnyH_take (i := 10) (oi := _) (v := ?v10h) rfl (by kernel_rfl) (by kernel_rfl) (by kernel_rfl) (fun _ _ _ h => h) (Or.inl ⟨by rfl, ?y10h⟩) (by assumption) ?r10h
  case y10h => (intro w' hSw; (try dsimp only at hSw); go_simp; (try with_reducible rfl))
  try simp only [Act.put, List.getElem_toArray, List.getElem_cons_zero, List.getElem_cons_succ, List.setIfInBounds_toArray, List.set_cons_zero, List.set_cons_succ]
  refine wpAnyH_done (by kernel_rfl) ?_ _
  go_wp2
  go_ret
  exact ⟨rfl, hx⟩
end Go.Proofs.Ytndoghcglbpllaa
