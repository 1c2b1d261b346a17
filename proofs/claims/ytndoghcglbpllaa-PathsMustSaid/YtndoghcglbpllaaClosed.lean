/- A net in which one path never opens. -/
import Derived.Test.YtndoghcglbpllaaTab
import Derived.Test.YtndoghcglbpllaaRouteOk
set_option linter.unusedSimpArgs false
set_option linter.unusedVariables false
namespace Go.Proofs.Ytndoghcglbpllaa
open Go.RowKit
def shut (p : Pt) : Pt := ⟨p.frm, p.dst, p.grade, p.tl, p.th, p.sl, p.sh, []⟩
def closeAt (ps : List Pt) (b : Nat) : List Pt := ps.set b (shut (ps.getD b zeroPt))
section
variable {ps : List Pt} {b : Nat}
theorem closeAt_len : (closeAt ps b).length = ps.length := by simp [closeAt]
theorem closeAt_same (h : b < ps.length) : (closeAt ps b).getD b zeroPt = shut (ps.getD b zeroPt) := by
  unfold closeAt
  simp [List.getD, h]
theorem closeAt_other {i : Nat} (h : b ≠ i) : (closeAt ps b).getD i zeroPt = ps.getD i zeroPt := by
  unfold closeAt
  simp only [List.getD, List.getElem?_set_ne h]
theorem closeAt_shape (i : Nat) : ((closeAt ps b).getD i zeroPt).frm = (ps.getD i zeroPt).frm ∧ ((closeAt ps b).getD i zeroPt).dst = (ps.getD i zeroPt).dst ∧ ((closeAt ps b).getD i zeroPt).grade = (ps.getD i zeroPt).grade ∧ ((closeAt ps b).getD i zeroPt).tl = (ps.getD i zeroPt).tl ∧ ((closeAt ps b).getD i zeroPt).th = (ps.getD i zeroPt).th ∧ ((closeAt ps b).getD i zeroPt).sl = (ps.getD i zeroPt).sl ∧ ((closeAt ps b).getD i zeroPt).sh = (ps.getD i zeroPt).sh := by
  by_cases h : b = i
  · subst h
    by_cases hb : b < ps.length
    · rw [closeAt_same hb]
      exact ⟨rfl, rfl, rfl, rfl, rfl, rfl, rfl⟩
    · have h1 : closeAt ps b = ps := by unfold closeAt; rw [List.set_eq_of_length_le (by omega)]
      rw [h1]
      exact ⟨rfl, rfl, rfl, rfl, rfl, rfl, rfl⟩
  · rw [closeAt_other h]
    exact ⟨rfl, rfl, rfl, rfl, rfl, rfl, rfl⟩
theorem closeAt_opens (i : Nat) : ∀ o, o ∈ ((closeAt ps b).getD i zeroPt).opens → o ∈ (ps.getD i zeroPt).opens := by
  intro o ho
  by_cases h : b = i
  · subst h
    by_cases hb : b < ps.length
    · rw [closeAt_same hb] at ho
      cases ho
    · have h1 : closeAt ps b = ps := by unfold closeAt; rw [List.set_eq_of_length_le (by omega)]
      rwa [h1] at ho
  · rwa [closeAt_other h] at ho
theorem closeAt_ok {m : Nat} (hN : NOk m ps) : NOk m (closeAt ps b) := by
  refine ⟨by rw [closeAt_len]; exact hN.len, fun i hi => ?_, fun i hi => ?_, fun i hi => ?_⟩
  · rw [closeAt_len] at hi
    obtain ⟨h1, h2, h3, h4, h5, h6, h7⟩ := closeAt_shape (ps := ps) (b := b) i
    obtain ⟨t1, t2, t3, s1, s2, s3, hos⟩ := hN.ok i hi
    refine ⟨by rw [h4]; exact t1, by rw [h4, h5]; exact t2, by rw [h5]; exact t3, by rw [h6]; exact s1, by rw [h6, h7]; exact s2, by rw [h7]; exact s3, ?_⟩
    by_cases h : b = i
    · subst h
      rw [closeAt_same hi]
      exact Nat.zero_le _
    · rw [closeAt_other h]
      exact hos
  · rw [closeAt_len] at hi
    rw [(closeAt_shape i).1]
    exact hN.frm i hi
  · rw [closeAt_len] at hi
    rw [(closeAt_shape i).2.1]
    exact hN.dst i hi
theorem closed_walkIdx (g : Int) (k : Nat) : walkIdx (closeAt ps b) g k = walkIdx ps g k := by
  unfold walkIdx
  refine List.filter_congr fun i _ => ?_
  unfold okB
  rw [(closeAt_shape i).2.2.1]
theorem arrive_shut {sel : Int → Int → Int} (hs : SelGe sel) {l pl ph : Int} (ha : PaOk l pl ph) {p : Pt} (hp : PtOk p) (t : Int) : arrive sel l pl ph (shut p) t = 2881 := by
  obtain ⟨t1, t2, t3, s1, s2, s3, hos⟩ := hp
  obtain ⟨p1, p2, p3, l1, l2⟩ := ha
  have ⟨b3, b4⟩ := timeOf_bd t1 (by omega) p1 (by omega) s1 (by omega) l1 l2
  have ⟨b5, b6⟩ := timeOf_bd (t := p.th) (p := ph) (s := p.sh) (by omega) t3 (by omega) p3 (by omega) s3 l1 l2
  have h := hs _ _ b3 b5
  unfold arrive shut
  dsimp only
  have : enter 2881 [] t = 2881 := rfl
  rw [this]
  omega
variable {sel : Int → Int → Int} {g l pl ph : Int} {m : Nat}
/-- Who cannot walk a path does not miss it. -/
theorem rows_closed_no (h : ¬ (ps.getD b zeroPt).grade ≤ g) (from_ : Nat) (s : Int) : ∀ k, rows sel g l pl ph (closeAt ps b) m from_ s k = rows sel g l pl ph ps m from_ s k
  | 0 => rfl
  | k + 1 => by
    rw [rows, rows, rows_closed_no h from_ s k, closeAt_len, closed_walkIdx]
    have key : ∀ (is : List Nat) (acc low : List Int), (∀ i, i ∈ is → (ps.getD i zeroPt).grade ≤ g) → is.foldl (pmStep sel l pl ph (closeAt ps b) low) acc = is.foldl (pmStep sel l pl ph ps low) acc := by
      intro is
      induction is with
      | nil => intro acc low _; rfl
      | cons i is ih =>
        intro acc low hi
        rw [List.foldl_cons, List.foldl_cons]
        have hne : b ≠ i := fun e => h (e ▸ hi i List.mem_cons_self)
        have e1 : pmStep sel l pl ph (closeAt ps b) low acc i = pmStep sel l pl ph ps low acc i := by
          unfold pmStep
          rw [closeAt_other hne]
        rw [e1]
        exact ih _ _ (fun j hj => hi j (List.mem_cons_of_mem _ hj))
    exact key _ _ _ (fun i hi => (mem_walkIdx.1 hi).2)
/-- A route that does not use a path is one without it. -/
theorem route_closed {from_ : Int} {r : List Int} (hr : RouteOk g ps from_ r) (hno : ∀ k, k < r.length → (r.getD k 0).toNat ≠ b) (s : Int) :
    RouteOk g (closeAt ps b) from_ r ∧ (∀ k, k ≤ r.length → stopAt (closeAt ps b) from_ r k = stopAt ps from_ r k) ∧ ∀ k, k ≤ r.length → minAt sel l pl ph (closeAt ps b) s r k = minAt sel l pl ph ps s r k := by
  have hst : ∀ k, k ≤ r.length → stopAt (closeAt ps b) from_ r k = stopAt ps from_ r k := fun k hk => by
    cases k with
    | zero => rfl
    | succ k =>
      show ((closeAt ps b).getD (r.getD k 0).toNat zeroPt).dst = (ps.getD (r.getD k 0).toNat zeroPt).dst
      exact (closeAt_shape _).2.1
  refine ⟨⟨hr.len, hr.lo, fun k hk => by rw [closeAt_len]; exact hr.hi k hk, fun k hk => by rw [(closeAt_shape _).2.2.1]; exact hr.can k hk, fun k hk => by rw [(closeAt_shape _).1, hst k (by omega)]; exact hr.frm k hk⟩, hst, fun k => ?_⟩
  induction k with
  | zero => intro _; rfl
  | succ k ih =>
    intro hk
    show arrive sel l pl ph ((closeAt ps b).getD (r.getD k 0).toNat zeroPt) (minAt sel l pl ph (closeAt ps b) s r k) = arrive sel l pl ph (ps.getD (r.getD k 0).toNat zeroPt) (minAt sel l pl ph ps s r k)
    rw [ih (by omega), closeAt_other (fun e => hno k hk e.symm)]
/-- A path without which a place is not reached in time is in each route that reaches it in time. -/
theorem must_be_in (ha : PaOk l pl ph) (hm : 1 ≤ m) (hN : NOk m ps) (from_ : Nat) (hfr : from_ < m) {s : Int} (h0 : 0 ≤ s) (h1 : s ≤ 2881) {r : List Int} (hr : RouteOk g ps (from_ : Int) r) {D : Int} (hD : minAt selHi l pl ph ps s r r.length ≤ D)
    (hmust : D < (rows selHi g l pl ph (closeAt ps b) m from_ s (m - 1)).getD (stopAt ps (from_ : Int) r r.length).toNat 0) : ∃ k, k < r.length ∧ (r.getD k 0).toNat = b := by
  apply Classical.byContradiction
  intro hn
  obtain ⟨q1, q2, q3⟩ := route_closed (sel := selHi) (l := l) (pl := pl) (ph := ph) (b := b) hr (fun k hk e => hn ⟨k, hk, e⟩) s
  have h := rows_low (g := g) selHi_pos ha hm (closeAt_ok hN) from_ hfr h0 h1 q1 (minAt selHi l pl ph (closeAt ps b) s r) r.length (Nat.le_refl _) (Int.le_refl _) (fun k _ => Int.le_refl _)
  rw [q2 _ (Nat.le_refl _), q3 _ (Nat.le_refl _)] at h
  omega
/-- To leave a path out is to close it. -/
theorem ipStep_close (hs : SelGe sel) (ha : PaOk l pl ph) (hN : NOk m ps) (hb : b < ps.length) {acc : List Int} (hbd : BdRow m acc) (i : Nat) (hi : i < ps.length) : ipStep sel g l pl ph ps (b : Int) acc i = ipStep sel g l pl ph (closeAt ps b) (-1) acc i := by
  by_cases h : b = i
  · subst h
    rw [ip_skip (.inl rfl)]
    unfold ipStep
    split
    · rw [closeAt_same hb]
      have hd := hN.dst b hb
      have h3 := hbd.2 (ps.getD b zeroPt).dst.toNat (by omega)
      rw [arrive_shut hs ha (hN.ok b hb)]
      have e : (shut (ps.getD b zeroPt)).dst = (ps.getD b zeroPt).dst := rfl
      rw [e, show min (acc.getD (ps.getD b zeroPt).dst.toNat 0) 2881 = acc.getD (ps.getD b zeroPt).dst.toNat 0 by omega]
      exact (set_self _ _).symm
    · rfl
  · unfold ipStep
    rw [closeAt_other h]
    by_cases hg : (ps.getD i zeroPt).grade ≤ g
    · rw [if_pos ⟨by omega, hg⟩, if_pos ⟨by omega, hg⟩]
    · rw [if_neg (fun h => hg h.2), if_neg (fun h => hg h.2)]
theorem ipRows_close (hs : SelGe sel) (ha : PaOk l pl ph) (hN : NOk m ps) (hb : b < ps.length) (from_ : Nat) {s : Int} (h0 : 0 ≤ s) (h1 : s ≤ 2881) : ∀ k, ipRows sel g l pl ph ps (b : Int) m from_ s k = ipRows sel g l pl ph (closeAt ps b) (-1) m from_ s k
  | 0 => rfl
  | k + 1 => by
    rw [ipRows, ipRows, ← ipRows_close hs ha hN hb from_ h0 h1 k, closeAt_len]
    have hbd := ipRows_bd (g := g) (but := (b : Int)) hs ha hN (from_ := from_) h0 h1 k
    have key : ∀ j, j ≤ ps.length → ipTo sel g l pl ph ps (b : Int) (ipRows sel g l pl ph ps (b : Int) m from_ s k) j = ipTo sel g l pl ph (closeAt ps b) (-1) (ipRows sel g l pl ph ps (b : Int) m from_ s k) j := by
      intro j
      induction j with
      | zero => intro _; rfl
      | succ j ih =>
        intro hj
        rw [ipTo_succ, ipTo_succ, ← ih (by omega)]
        exact ipStep_close hs ha hN hb (ipTo_bd hs ha hN hbd j (by omega)) j (by omega)
    exact key _ (Nat.le_refl _)
/-- The table without a path. -/
theorem ipRows_but (hs : SelGe sel) (ha : PaOk l pl ph) (hm : 1 ≤ m) (hN : NOk m ps) (hb : b < ps.length) (from_ : Nat) {s : Int} (h0 : 0 ≤ s) (h1 : s ≤ 2881) : ipRows sel g l pl ph ps (b : Int) m from_ s m = rows sel g l pl ph (closeAt ps b) m from_ s (m - 1) := by
  rw [ipRows_close hs ha hN hb from_ h0 h1 m]
  exact ipRows_eq hs ha hm (closeAt_ok hN) (fun i _ => by omega) from_ h0 h1
end
end Go.Proofs.Ytndoghcglbpllaa
