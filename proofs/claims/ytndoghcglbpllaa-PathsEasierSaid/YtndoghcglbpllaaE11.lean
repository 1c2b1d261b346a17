/- The lowest arrivals do not change after as many rounds as there are places, less one; no route is quicker. -/
import Derived.Test.YtndoghcglbpllaaE10
import Derived.Test.YtndoghcglbpllaaE07
import Derived.Deep.RegionHeld3
set_option linter.unusedSimpArgs false
set_option linter.unusedVariables false
namespace Go.Proofs.Ytndoghcglbpllaa
open Go.RowKit
theorem PathsAt.at_ {w : World} {A : Option Addr} {ps : List Pt} {n k : Nat} (hp : PathsAt w A ps) (hn : ps.length = n) (hk : k < n) : ∃ b off A' c', A = some ⟨b, off, none⟩ ∧ b < w.heap.size ∧ PtAt w b (off + k * 8) (ps.getD k zeroPt) A' c' := by
  obtain ⟨b, off, h1, h2, h3⟩ := hp (by rintro rfl; simp at hn; omega)
  obtain ⟨A', c', h⟩ := h3 k (by omega)
  exact ⟨b, off, A', c', h1, h2, h⟩
theorem IntsAt.at_ {w : World} {A : Option Addr} {xs : List Int} {n k : Nat} (h : IntsAt w A xs) (hn : xs.length = n) (hk : k < n) : ∃ b off, A = some ⟨b, off, none⟩ ∧ b < w.heap.size ∧ w.cell? ⟨b, off + k, none⟩ = some (.int .i64 (xs.getD k 0)) := by
  obtain ⟨b, off, h1, h2, h3⟩ := h (by rintro rfl; simp at hn; omega)
  exact ⟨b, off, h1, h2, h3 k (by omega)⟩
/-- Nobody arrives before the start of a path. -/
def SelGe (sel : Int → Int → Int) : Prop := ∀ a b, 1 ≤ a → 1 ≤ b → 0 ≤ sel a b
theorem arrive_geS {sel : Int → Int → Int} (hs : SelGe sel) {l pl ph : Int} (ha : PaOk l pl ph) {p : Pt} (hp : PtOk p) {t : Int} (ht : t ≤ 2881) : t ≤ arrive sel l pl ph p t := by
  obtain ⟨t1, t2, t3, s1, s2, s3, hos⟩ := hp
  obtain ⟨p1, p2, p3, l1, l2⟩ := ha
  have ⟨b3, b4⟩ := timeOf_bd t1 (by omega) p1 (by omega) s1 (by omega) l1 l2
  have ⟨b5, b6⟩ := timeOf_bd (t := p.th) (p := ph) (s := p.sh) (by omega) t3 (by omega) p3 (by omega) s3 l1 l2
  have h := hs _ _ b3 b5
  have := enter_ge p.opens (f := 2881) ht
  unfold arrive
  omega
section
variable {sel : Int → Int → Int} {g l pl ph : Int} {ps : List Pt} {m : Nat}
theorem pmStep_getD (low acc : List Int) (i v : Nat) : (pmStep sel l pl ph ps low acc i).getD v 0 = if (ps.getD i zeroPt).dst.toNat = v ∧ v < acc.length then min (acc.getD v 0) (arrive sel l pl ph (ps.getD i zeroPt) (low.getD (ps.getD i zeroPt).frm.toNat 0)) else acc.getD v 0 := by
  unfold pmStep
  rw [getD_set]
  split
  · rename_i h
    rw [h.1]
  · rfl
theorem pmStep_le (low acc : List Int) (i v : Nat) : (pmStep sel l pl ph ps low acc i).getD v 0 ≤ acc.getD v 0 := by
  rw [pmStep_getD]
  split <;> omega
theorem foldl_le (low : List Int) (is : List Nat) : ∀ (acc : List Int) (v : Nat), (is.foldl (pmStep sel l pl ph ps low) acc).getD v 0 ≤ acc.getD v 0 := by
  induction is with
  | nil => intro acc v; exact Int.le_refl _
  | cons i is ih =>
    intro acc v
    rw [List.foldl_cons]
    exact Int.le_trans (ih _ v) (pmStep_le low acc i v)
theorem foldl_len (low : List Int) (is : List Nat) : ∀ (acc : List Int), (is.foldl (pmStep sel l pl ph ps low) acc).length = acc.length := by
  induction is with
  | nil => intro acc; rfl
  | cons i is ih => intro acc; rw [List.foldl_cons, ih]; simp [pmStep]
theorem foldl_hit (low : List Int) (is : List Nat) : ∀ (acc : List Int) (i : Nat), i ∈ is → (ps.getD i zeroPt).dst.toNat < acc.length → (is.foldl (pmStep sel l pl ph ps low) acc).getD (ps.getD i zeroPt).dst.toNat 0 ≤ arrive sel l pl ph (ps.getD i zeroPt) (low.getD (ps.getD i zeroPt).frm.toNat 0) := by
  induction is with
  | nil => intro acc i h; cases h
  | cons j is ih =>
    intro acc i hi hl
    rw [List.foldl_cons]
    rcases List.mem_cons.1 hi with rfl | hi
    · refine Int.le_trans (foldl_le low is _ _) ?_
      rw [pmStep_getD, if_pos ⟨rfl, hl⟩]
      omega
    · exact ih _ i hi (by simpa [pmStep] using hl)
theorem foldl_got (low : List Int) (is : List Nat) : ∀ (acc : List Int) (v : Nat), (is.foldl (pmStep sel l pl ph ps low) acc).getD v 0 = acc.getD v 0 ∨
    ∃ i, i ∈ is ∧ (ps.getD i zeroPt).dst.toNat = v ∧ (is.foldl (pmStep sel l pl ph ps low) acc).getD v 0 = arrive sel l pl ph (ps.getD i zeroPt) (low.getD (ps.getD i zeroPt).frm.toNat 0) := by
  induction is with
  | nil => intro acc v; exact .inl rfl
  | cons j is ih =>
    intro acc v
    rw [List.foldl_cons]
    rcases ih (pmStep sel l pl ph ps low acc j) v with h | ⟨i, hi, hd, h⟩
    · rw [h, pmStep_getD]
      split
      · rename_i hc
        by_cases hm : acc.getD v 0 ≤ arrive sel l pl ph (ps.getD j zeroPt) (low.getD (ps.getD j zeroPt).frm.toNat 0)
        · left; omega
        · right
          exact ⟨j, List.mem_cons_self, hc.1, by omega⟩
      · exact .inl rfl
    · exact .inr ⟨i, List.mem_cons_of_mem _ hi, hd, h⟩
theorem mem_walkIdx {i n : Nat} : i ∈ walkIdx ps g n ↔ i < n ∧ (ps.getD i zeroPt).grade ≤ g := by
  unfold walkIdx okB
  simp [List.mem_filter]
/-- One round more. -/
theorem rows_le (from_ : Nat) (s : Int) (k v : Nat) : (rows sel g l pl ph ps m from_ s (k + 1)).getD v 0 ≤ (rows sel g l pl ph ps m from_ s k).getD v 0 := foldl_le _ _ _ v
theorem rows_anti (from_ : Nat) (s : Int) (v : Nat) {k k' : Nat} (h : k ≤ k') : (rows sel g l pl ph ps m from_ s k').getD v 0 ≤ (rows sel g l pl ph ps m from_ s k).getD v 0 := by
  induction k' with
  | zero => obtain rfl : k = 0 := by omega
            exact Int.le_refl _
  | succ k' ih =>
    by_cases hk : k ≤ k'
    · exact Int.le_trans (rows_le from_ s k' v) (ih hk)
    · obtain rfl : k = k' + 1 := by omega
      exact Int.le_refl _
theorem rows_len (from_ : Nat) (s : Int) : ∀ k, (rows sel g l pl ph ps m from_ s k).length = m
  | 0 => by simp [rows]
  | k + 1 => by
    rw [rows]
    unfold pmFold
    rw [foldl_len]
    exact rows_len from_ s k
theorem rows_hit (hN : NOk m ps) (from_ : Nat) (s : Int) (k : Nat) {i : Nat} (hi : i < ps.length) (hg : (ps.getD i zeroPt).grade ≤ g) :
    (rows sel g l pl ph ps m from_ s (k + 1)).getD (ps.getD i zeroPt).dst.toNat 0 ≤ arrive sel l pl ph (ps.getD i zeroPt) ((rows sel g l pl ph ps m from_ s k).getD (ps.getD i zeroPt).frm.toNat 0) := by
  refine foldl_hit _ _ _ i (mem_walkIdx.2 ⟨hi, hg⟩) ?_
  rw [rows_len]
  have := hN.dst i hi
  omega
theorem rows_got (from_ : Nat) (s : Int) (k v : Nat) : (rows sel g l pl ph ps m from_ s (k + 1)).getD v 0 = (rows sel g l pl ph ps m from_ s k).getD v 0 ∨
    ∃ i, i < ps.length ∧ (ps.getD i zeroPt).grade ≤ g ∧ (ps.getD i zeroPt).dst.toNat = v ∧ (rows sel g l pl ph ps m from_ s (k + 1)).getD v 0 = arrive sel l pl ph (ps.getD i zeroPt) ((rows sel g l pl ph ps m from_ s k).getD (ps.getD i zeroPt).frm.toNat 0) := by
  rcases foldl_got (sel := sel) (l := l) (pl := pl) (ph := ph) (ps := ps) (rows sel g l pl ph ps m from_ s k) (walkIdx ps g ps.length) (rows sel g l pl ph ps m from_ s k) v with h | ⟨i, hi, hd, h⟩
  · exact .inl h
  · exact .inr ⟨i, (mem_walkIdx.1 hi).1, (mem_walkIdx.1 hi).2, hd, h⟩
theorem rows_zero (from_ : Nat) (s : Int) (v : Nat) (hv : v < m) : (rows sel g l pl ph ps m from_ s 0).getD v 0 = if from_ = v then s else 2881 := by
  rw [rows, getD_set]
  simp only [List.length_replicate]
  by_cases h : from_ = v
  · simp [h, hv]
  · rw [if_neg (by simp [h]), if_neg h]
    simp [List.getD, hv]

theorem pigeon : ∀ (m : Nat) (xs : List Nat), xs.Nodup → (∀ x, x ∈ xs → x < m) → xs.length ≤ m
  | 0, xs, _, h => by
    match xs with
    | [] => simp
    | x :: _ => exact absurd (h x List.mem_cons_self) (by omega)
  | m + 1, xs, hn, h => by
    have h1 := pigeon m (xs.erase m) (hn.erase m) (fun x hx => by
      have hx2 := (hn.mem_erase_iff).1 hx
      have := h x hx2.2
      have := hx2.1
      omega)
    rw [List.length_erase] at h1
    split at h1 <;> omega

theorem fresh (hs : SelGe sel) (ha : PaOk l pl ph) (hN : NOk m ps) (from_ : Nat) {s : Int} (h0 : 0 ≤ s) (h1 : s ≤ 2881) : ∀ (k v : Nat), v < m →
    (rows sel g l pl ph ps m from_ s (k + 1)).getD v 0 < (rows sel g l pl ph ps m from_ s k).getD v 0 →
    ∃ xs : List Nat, xs.length = k + 2 ∧ xs.Nodup ∧ (∀ x, x ∈ xs → x < m) ∧ ∀ x, x ∈ xs → (rows sel g l pl ph ps m from_ s (k + 1)).getD x 0 ≤ (rows sel g l pl ph ps m from_ s (k + 1)).getD v 0 := by
  have hb := rows_bd (g := g) hs ha hN (from_ := from_) h0 h1
  intro k
  induction k with
  | zero =>
    intro v hv hlt
    rcases rows_got (sel := sel) (g := g) (l := l) (pl := pl) (ph := ph) (ps := ps) (m := m) from_ s 0 v with h | ⟨i, hi, hg, hd, h⟩
    · omega
    · have hf := hN.frm i hi
      have hge := arrive_geS hs ha (hN.ok i hi) ((hb 0).2 (ps.getD i zeroPt).frm.toNat (by omega)).2
      rw [← h] at hge
      have hl := rows_le (sel := sel) (g := g) (l := l) (pl := pl) (ph := ph) (ps := ps) (m := m) from_ s 0 (ps.getD i zeroPt).frm.toNat
      refine ⟨[v, (ps.getD i zeroPt).frm.toNat], rfl, ?_, ?_, ?_⟩
      · simp only [List.nodup_cons, List.mem_cons, List.not_mem_nil, or_false, not_false_eq_true, List.nodup_nil, and_true]
        intro e
        rw [← e] at hge
        omega
      · intro x hx
        rcases List.mem_cons.1 hx with rfl | hx
        · exact hv
        · rw [List.mem_singleton.1 hx]
          omega
      · intro x hx
        rcases List.mem_cons.1 hx with rfl | hx
        · exact Int.le_refl _
        · rw [List.mem_singleton.1 hx]
          omega
  | succ k ih =>
    intro v hv hlt
    rcases rows_got (sel := sel) (g := g) (l := l) (pl := pl) (ph := ph) (ps := ps) (m := m) from_ s (k + 1) v with h | ⟨i, hi, hg, hd, h⟩
    · omega
    · have hf := hN.frm i hi
      have hge := arrive_geS hs ha (hN.ok i hi) ((hb (k + 1)).2 (ps.getD i zeroPt).frm.toNat (by omega)).2
      rw [← h] at hge
      have hit := rows_hit (sel := sel) (l := l) (pl := pl) (ph := ph) hN from_ s k hi hg
      rw [hd] at hit
      have hu : (rows sel g l pl ph ps m from_ s (k + 1)).getD (ps.getD i zeroPt).frm.toNat 0 < (rows sel g l pl ph ps m from_ s k).getD (ps.getD i zeroPt).frm.toNat 0 := by
        apply Classical.byContradiction
        intro hn
        have := arrive_mono sel l pl ph (ps.getD i zeroPt) (Int.not_lt.1 hn)
        omega
      obtain ⟨ys, hyl, hyn, hym, hyv⟩ := ih (ps.getD i zeroPt).frm.toNat (by omega) hu
      refine ⟨v :: ys, by simp [hyl], ?_, ?_, ?_⟩
      · refine List.nodup_cons.2 ⟨fun hmem => ?_, hyn⟩
        have := hyv v hmem
        omega
      · intro x hx
        rcases List.mem_cons.1 hx with rfl | hx
        · exact hv
        · exact hym x hx
      · intro x hx
        rcases List.mem_cons.1 hx with rfl | hx
        · exact Int.le_refl _
        · have := hyv x hx
          have := rows_le (sel := sel) (g := g) (l := l) (pl := pl) (ph := ph) (ps := ps) (m := m) from_ s (k + 1) x
          omega
/-- One round more than enough changes nothing. -/
theorem rows_stable (hs : SelGe sel) (ha : PaOk l pl ph) (hm : 1 ≤ m) (hN : NOk m ps) (from_ : Nat) {s : Int} (h0 : 0 ≤ s) (h1 : s ≤ 2881) (v : Nat) (hv : v < m) :
    (rows sel g l pl ph ps m from_ s (m - 1)).getD v 0 ≤ (rows sel g l pl ph ps m from_ s m).getD v 0 := by
  apply Classical.byContradiction
  intro hn
  have he : m - 1 + 1 = m := by omega
  have := fresh (g := g) hs ha hN from_ h0 h1 (m - 1) v hv (by rw [he]; omega)
  obtain ⟨xs, hl, hnd, hx, _⟩ := this
  have := pigeon m xs hnd hx
  omega
/-- The lowest arrivals are not changed by any path. -/
theorem rows_fix (hs : SelGe sel) (ha : PaOk l pl ph) (hm : 1 ≤ m) (hN : NOk m ps) (from_ : Nat) {s : Int} (h0 : 0 ≤ s) (h1 : s ≤ 2881) {i : Nat} (hi : i < ps.length) (hg : (ps.getD i zeroPt).grade ≤ g) :
    (rows sel g l pl ph ps m from_ s (m - 1)).getD (ps.getD i zeroPt).dst.toNat 0 ≤ arrive sel l pl ph (ps.getD i zeroPt) ((rows sel g l pl ph ps m from_ s (m - 1)).getD (ps.getD i zeroPt).frm.toNat 0) := by
  have hd := hN.dst i hi
  have h2 := rows_stable (g := g) hs ha hm hN from_ h0 h1 (ps.getD i zeroPt).dst.toNat (by omega)
  have h3 := rows_hit (sel := sel) (l := l) (pl := pl) (ph := ph) hN from_ s (m - 1) hi hg
  rw [show m - 1 + 1 = m by omega] at h3
  omega
end

/-- Where one is after the first paths of a route. -/
def stopAt (ps : List Pt) (from_ : Int) (r : List Int) : Nat → Int
  | 0 => from_
  | k + 1 => (ps.getD (r.getD k 0).toNat zeroPt).dst
/-- When one is there. -/
def minAt (sel : Int → Int → Int) (l pl ph : Int) (ps : List Pt) (start : Int) (r : List Int) : Nat → Int
  | 0 => start
  | k + 1 => arrive sel l pl ph (ps.getD (r.getD k 0).toNat zeroPt) (minAt sel l pl ph ps start r k)
/-- A route that the party can walk. -/
structure RouteOk (g : Int) (ps : List Pt) (from_ : Int) (r : List Int) : Prop where
  len : r.length ≤ 30
  lo : ∀ k, k < r.length → 0 ≤ r.getD k 0
  hi : ∀ k, k < r.length → r.getD k 0 < ps.length
  can : ∀ k, k < r.length → (ps.getD (r.getD k 0).toNat zeroPt).grade ≤ g
  frm : ∀ k, k < r.length → (ps.getD (r.getD k 0).toNat zeroPt).frm = stopAt ps from_ r k
theorem RouteOk.stop {g : Int} {ps : List Pt} {from_ : Int} {r : List Int} {m : Nat} (h : RouteOk g ps from_ r) (hN : NOk m ps) (h0 : 0 ≤ from_) (h1 : from_ < m) (k : Nat) (hk : k ≤ r.length) : 0 ≤ stopAt ps from_ r k ∧ stopAt ps from_ r k < m := by
  cases k with
  | zero => exact ⟨h0, h1⟩
  | succ k => 
    have := h.lo k hk
    have := h.hi k hk
    exact hN.dst _ (by omega)
theorem minAt_ge {l pl ph : Int} {ps : List Pt} {m : Nat} {sel : Int → Int → Int} (hs : SelGe sel) (ha : PaOk l pl ph) (hN : NOk m ps) {s : Int} (h0 : 0 ≤ s) (h1 : s ≤ 2881) {r : List Int} (hr : ∀ j, j < r.length → 0 ≤ r.getD j 0 ∧ r.getD j 0 < ps.length) : ∀ k, k ≤ r.length → 0 ≤ minAt sel l pl ph ps s r k ∧ minAt sel l pl ph ps s r k ≤ 2881
  | 0, _ => ⟨h0, h1⟩
  | k + 1, hk => by
    have ih := minAt_ge hs ha hN h0 h1 hr k (by omega)
    have := hr k (by omega)
    exact arrive_bd hs ha (hN.ok _ (by omega)) ih.1
/-- No walk along a route is quicker. -/
theorem rows_low {sel : Int → Int → Int} {g l pl ph : Int} {ps : List Pt} {m : Nat} (hs : SelGe sel) (ha : PaOk l pl ph) (hm : 1 ≤ m) (hN : NOk m ps) (from_ : Nat) (hfr : from_ < m) {s : Int} (h0 : 0 ≤ s) (h1 : s ≤ 2881) {r : List Int} (hr : RouteOk g ps from_ r) (a : Nat → Int) (K : Nat) (hK : K ≤ r.length)
    (ha0 : s ≤ a 0) (hstep : ∀ k, k < K → arrive sel l pl ph (ps.getD (r.getD k 0).toNat zeroPt) (a k) ≤ a (k + 1)) :
    (rows sel g l pl ph ps m from_ s (m - 1)).getD (stopAt ps from_ r K).toNat 0 ≤ a K := by
  induction K with
  | zero =>
    have h2 := rows_anti (sel := sel) (g := g) (l := l) (pl := pl) (ph := ph) (ps := ps) (m := m) from_ s from_ (Nat.zero_le (m - 1))
    rw [rows_zero from_ s from_ hfr, if_pos rfl] at h2
    show (rows sel g l pl ph ps m from_ s (m - 1)).getD (from_ : Int).toNat 0 ≤ a 0
    rw [Int.toNat_natCast]
    omega
  | succ K ih =>
    have ih' := ih (by omega) (fun k hk => hstep k (by omega))
    have hlo := hr.lo K hK
    have hhi := hr.hi K hK
    have hfx := rows_fix (g := g) hs ha hm hN from_ h0 h1 (i := (r.getD K 0).toNat) (by omega) (hr.can K hK)
    rw [hr.frm K hK] at hfx
    have hmo := arrive_mono sel l pl ph (ps.getD (r.getD K 0).toNat zeroPt) ih'
    have := hstep K (by omega)
    show (rows sel g l pl ph ps m from_ s (m - 1)).getD (ps.getD (r.getD K 0).toNat zeroPt).dst.toNat 0 ≤ a (K + 1)
    omega
end Go.Proofs.Ytndoghcglbpllaa
/- Whether a place is reached too late, from another one at a minute, by so many paths. -/
set_option linter.unusedSimpArgs false
set_option linter.unusedVariables false
namespace Go.Proofs.Ytndoghcglbpllaa
open Go.RowKit
set_option maxRecDepth 100000 in
set_option maxHeartbeats 2000000 in
theorem rlate_any (g l pl ph : Int) (n c : Nat) (b off : Nat) (ps : List Pt) (hn : ps.length = n) (A : Option Addr) (m : Nat) (hm1 : 1 ≤ m) (hm2 : m ≤ 12) (hN : NOk m ps) (ha : PaOk l pl ph) (fr to_ : Nat) (hfr : fr < m) (hto : to_ < m) (D start : Int) (h0 : 0 ≤ start) (h1 : start ≤ 2881) (most : Nat) (hmost : most ≤ 1000)
    (w : World) (hA : 0 < n → A = some ⟨b, off, none⟩ ∧ b < w.heap.size) (hp : ∀ k, k < ps.length → ∃ A' c', PtAt w b (off + k * 8) (ps.getD k zeroPt) A' c')
    (q0 q2 q3 : Nat) (b0 : w.heap[q0]? = some (.cells (wbox (m : Int) g l pl ph A n c) 70 (0, 0))) (b2 : w.heap[q2]? = some (.cells #[.int .i64 (to_ : Int)] 3 (0, 0))) (b3 : w.heap[q3]? = some (.cells #[.int .i64 D] 3 (0, 0))) :
    Calls Try.prog 88 #[.int .i64 (fr : Int), .int .i64 start, .int .i64 (most : Int), .pointer (some ⟨q0, 0, none⟩), .pointer (some ⟨q2, 0, none⟩), .pointer (some ⟨q3, 0, none⟩)] w fun e w' =>
      e = .returned (.bool (decide (D < (rows selHi g l pl ph ps m fr start most).getD to_ 0))) ∧ Ext w w' := by
  have HS := hid (fun (W : World) (hE : Ext w W) => arrivals_sure g l pl ph n c b off ps hn A m hm1 hm2 hN ha fr hfr start h0 h1 most hmost W (fun h0 => ⟨(hA h0).1, Nat.lt_of_lt_of_le (hA h0).2 hE.size⟩)
      (fun k hk => by obtain ⟨A', c', h⟩ := hp k hk; exact ⟨A', c', h.ext (hA (by omega)).2 hE⟩))
  have hl1 := (rows_bd selHi_pos (g := g) ha hN (from_ := fr) h0 h1 most).1
  revert HS hl1
  generalize rows selHi g l pl ph ps m fr start most = xs
  intro HS hl1
  have c0 := blk_cell b0 0
  have c1 := blk_cell b0 1
  have c2 := blk_cell b0 2
  have c3 := blk_cell b0 3
  have c4 := blk_cell b0 4
  have c5 := blk_cell b0 5
  have c7 := blk_cell b2 0
  have c8 := blk_cell b3 0
  simp only [wbox, List.getElem?_toArray, List.getElem?_cons_zero, List.getElem?_cons_succ] at c0 c1 c2 c3 c4 c5 c7 c8 HS
  have s0 : q0 < w.heap.size := (Array.getElem?_eq_some_iff.1 b0).1
  have s2 : q2 < w.heap.size := (Array.getElem?_eq_some_iff.1 b2).1
  have s3 : q3 < w.heap.size := (Array.getElem?_eq_some_iff.1 b3).1
  have ht0 : (0 : Int) ≤ (to_ : Int) := by omega
  have ht1 : (to_ : Int) < (xs.length : Int) := by omega
  have HL := hid hl1
  clear hp hn hN ha hA hl1 b0 b2 b3
  go_enter Try.func88, Try.ntmps88
  go_wp2
  refine wp_region_held_drew (S := fun w' => (∀ b o, b < w.heap.size → w'.cell? ⟨b, o, none⟩ = w.cell? ⟨b, o, none⟩) ∧ w.heap.size ≤ w'.heap.size ∧ Ext w w') (by kernel_rfl) ?hS0 (fun hHeld => ?_)
  case hS0 => exact ⟨fun _ _ _ => rfl, Nat.le_refl _, Ext.drew (Ext.refl _)⟩
  refine wpAnyH_take (i := 0) (oi := _) (v := ?v0h) rfl (by kernel_rfl) (by kernel_rfl) (by kernel_rfl) (fun _ _ _ h => h) (Or.inl ⟨by rfl, ?y0h⟩) (by assumption) ?r0h
  case y0h => (intro w' hSw; (try dsimp only at hSw); go_simp; (try with_reducible rfl))
  try simp only [Act.put, List.getElem_toArray, List.getElem_cons_zero, List.getElem_cons_succ, List.setIfInBounds_toArray, List.set_cons_zero, List.set_cons_succ]
  refine wpAnyH_take (i := 1) (oi := _) (v := ?v1h) rfl (by kernel_rfl) (by kernel_rfl) (by kernel_rfl) (fun _ _ _ h => h) (Or.inl ⟨by rfl, ?y1h⟩) (by assumption) ?r1h
  case y1h => (intro w' hSw; (try dsimp only at hSw); go_simp; (try with_reducible rfl))
  try simp only [Act.put, List.getElem_toArray, List.getElem_cons_zero, List.getElem_cons_succ, List.setIfInBounds_toArray, List.set_cons_zero, List.set_cons_succ]
  refine wpAnyH_take (i := 2) (oi := _) (v := ?v2h) rfl (by kernel_rfl) (by kernel_rfl) (by kernel_rfl) (fun _ _ _ h => h) (Or.inl ⟨by rfl, ?y2h⟩) (by assumption) ?r2h
  case y2h => (intro w' hSw; (try dsimp only at hSw); go_simp; (try with_reducible rfl))
  try simp only [Act.put, List.getElem_toArray, List.getElem_cons_zero, List.getElem_cons_succ, List.setIfInBounds_toArray, List.set_cons_zero, List.set_cons_succ]
  refine wpAnyH_take (i := 3) (oi := _) (v := ?v3h) rfl (by kernel_rfl) (by kernel_rfl) (by kernel_rfl) (fun _ _ _ h => h) (Or.inl ⟨by rfl, ?y3h⟩) (by assumption) ?r3h
  case y3h => (intro w' hSw; (try dsimp only at hSw); go_simp; (try with_reducible rfl))
  try simp only [Act.put, List.getElem_toArray, List.getElem_cons_zero, List.getElem_cons_succ, List.setIfInBounds_toArray, List.set_cons_zero, List.set_cons_succ]
  refine wpAnyH_take (i := 5) (oi := _) (v := ?v5h) rfl (by kernel_rfl) (by kernel_rfl) (by kernel_rfl) (fun _ _ _ h => h) (Or.inl ⟨by rfl, ?y5h⟩) (by assumption) ?r5h
  case y5h => (intro w' hSw; (try dsimp only at hSw); go_simp; (try with_reducible rfl))
  try simp only [Act.put, List.getElem_toArray, List.getElem_cons_zero, List.getElem_cons_succ, List.setIfInBounds_toArray, List.set_cons_zero, List.set_cons_succ]
  refine wpAnyH_take (i := 8) (oi := _) (v := ?v8h) rfl (by kernel_rfl) (by kernel_rfl) (by kernel_rfl) (fun _ _ _ h => h) (Or.inl ⟨by rfl, ?y8h⟩) (by assumption) ?r8h
  case y8h => (intro w' hSw; (try dsimp only at hSw); go_simp; (try with_reducible rfl))
  try simp only [Act.put, List.getElem_toArray, List.getElem_cons_zero, List.getElem_cons_succ, List.setIfInBounds_toArray, List.set_cons_zero, List.set_cons_succ]
  refine wpAnyH_ready (rs := [4]) (by kernel_rfl) (by simp) ?_
  refine AllReadyH.cons (o := _) rfl (fun K hK => ?_) AllReadyH.nil
  go_simp
  refine (HS.out _ (Ext.drew (Ext.refl w))).mono ?_
  rintro e w2 ⟨g1, cap1, rfl, r1, z1, hE2⟩
  have hcr := r1.cell (k := to_) (by omega)
  have hx : Ext w w2 := (Ext.drew (Ext.refl w)).trans hE2
  clear hHeld
  dsimp only
  refine hK.out _ _ ⟨kcell (w1 := w.drew) (W := w) (fun _ _ _ => rfl) (Nat.le_refl _) hE2, hx.size, hx⟩ (fun hHeld => ?_)
  clear hK K
  try simp only [Act.put, List.getElem_toArray, List.getElem_cons_zero, List.getElem_cons_succ, List.setIfInBounds_toArray, List.set_cons_zero, List.set_cons_succ]
  refine wpAnyH_take (i := 6) (oi := _) (v := ?v6h) rfl (by kernel_rfl) (by kernel_rfl) (by kernel_rfl) (fun _ _ _ h => h) (Or.inl ⟨by rfl, ?y6h⟩) (by assumption) ?r6h
  case y6h => (intro w' hSw; (try dsimp only at hSw); go_simp; (try with_reducible rfl))
  try simp only [Act.put, List.getElem_toArray, List.getElem_cons_zero, List.getElem_cons_succ, List.setIfInBounds_toArray, List.set_cons_zero, List.set_cons_succ]
  have HH := hid hHeld
  clear hHeld
  refine wpAnyH_ready (rs := [7]) (by kernel_rfl) (by simp) ?_
  refine AllReadyH.cons (o := _) rfl (fun K hK => ?_) AllReadyH.nil
  go_simp
  refine hK.out _ _ HH.out (fun hHeld => ?_)
  clear hK K
  try simp only [Act.put, List.getElem_toArray, List.getElem_cons_zero, List.getElem_cons_succ, List.setIfInBounds_toArray, List.set_cons_zero, List.set_cons_succ]
  refine wpAnyH_take (i := 9) (oi := _) (v := ?v9h) rfl (by kernel_rfl) (by kernel_rfl) (by kernel_rfl) (fun _ _ _ h => h) (Or.inl ⟨by rfl, ?y9h⟩) (by assumption) ?r9h
  case y9h => (intro w' hSw; (try dsimp only at hSw); go_simp; (try with_reducible rfl))
  try simp only [Act.put, List.getElem_toArray, List.getElem_cons_zero, List.getElem_cons_succ, List.setIfInBounds_toArray, List.set_cons_zero, List.set_cons_succ]
  refine wpAnyH_take (i := 10) (oi := _) (v := ?v10h) rfl (by kernel_rfl) (by kernel_rfl) (by kernel_rfl) (fun _ _ _ h => h) (Or.inl ⟨by rfl, ?y10h⟩) (by assumption) ?r10h
  case y10h => (intro w' hSw; (try dsimp only at hSw); go_simp; (try with_reducible rfl))
  try simp only [Act.put, List.getElem_toArray, List.getElem_cons_zero, List.getElem_cons_succ, List.setIfInBounds_toArray, List.set_cons_zero, List.set_cons_succ]
  refine wpAnyH_done (by kernel_rfl) ?_ _
  go_wp2
  go_ret
  exact ⟨rfl, hx⟩
end Go.Proofs.Ytndoghcglbpllaa
