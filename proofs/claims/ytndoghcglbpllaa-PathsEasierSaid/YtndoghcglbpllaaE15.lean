/- A net in which one path never opens. -/
import Derived.Test.YtndoghcglbpllaaE14
import Derived.Test.YtndoghcglbpllaaE13
import Derived.Test.YtndoghcglbpllaaE06
set_option linter.unusedSimpArgs false
set_option linter.unusedVariables false
namespace Go.Proofs.Ytndoghcglbpllaa
open Go.RowKit
def shut (p : Pt) : Pt := ⟨p.frm, p.dst, p.grade, p.tl, p.th, p.sl, p.sh, []⟩
def closeAt (ps : List Pt) (b : Nat) : List Pt := ps.set b (shut (ps.getD b zeroPt))
section
variable {ps : List Pt} {b : Nat}
theorem closeAt_len : (closeAt ps b).length = ps.length := by simp [closeAt]
theorem closeAt_same (h : b < ps.length) : (closeAt ps b).getD b zeroPt = shut (ps.getD b zeroPt) := by
  unfold closeAt
  simp [List.getD, h]
theorem closeAt_other {i : Nat} (h : b ≠ i) : (closeAt ps b).getD i zeroPt = ps.getD i zeroPt := by
  unfold closeAt
  simp only [List.getD, List.getElem?_set_ne h]
theorem closeAt_shape (i : Nat) : ((closeAt ps b).getD i zeroPt).frm = (ps.getD i zeroPt).frm ∧ ((closeAt ps b).getD i zeroPt).dst = (ps.getD i zeroPt).dst ∧ ((closeAt ps b).getD i zeroPt).grade = (ps.getD i zeroPt).grade ∧ ((closeAt ps b).getD i zeroPt).tl = (ps.getD i zeroPt).tl ∧ ((closeAt ps b).getD i zeroPt).th = (ps.getD i zeroPt).th ∧ ((closeAt ps b).getD i zeroPt).sl = (ps.getD i zeroPt).sl ∧ ((closeAt ps b).getD i zeroPt).sh = (ps.getD i zeroPt).sh := by
  by_cases h : b = i
  · subst h
    by_cases hb : b < ps.length
    · rw [closeAt_same hb]
      exact ⟨rfl, rfl, rfl, rfl, rfl, rfl, rfl⟩
    · have h1 : closeAt ps b = ps := by unfold closeAt; rw [List.set_eq_of_length_le (by omega)]
      rw [h1]
      exact ⟨rfl, rfl, rfl, rfl, rfl, rfl, rfl⟩
  · rw [closeAt_other h]
    exact ⟨rfl, rfl, rfl, rfl, rfl, rfl, rfl⟩
theorem closeAt_opens (i : Nat) : ∀ o, o ∈ ((closeAt ps b).getD i zeroPt).opens → o ∈ (ps.getD i zeroPt).opens := by
  intro o ho
  by_cases h : b = i
  · subst h
    by_cases hb : b < ps.length
    · rw [closeAt_same hb] at ho
      cases ho
    · have h1 : closeAt ps b = ps := by unfold closeAt; rw [List.set_eq_of_length_le (by omega)]
      rwa [h1] at ho
  · rwa [closeAt_other h] at ho
theorem closeAt_ok {m : Nat} (hN : NOk m ps) : NOk m (closeAt ps b) := by
  refine ⟨by rw [closeAt_len]; exact hN.len, fun i hi => ?_, fun i hi => ?_, fun i hi => ?_⟩
  · rw [closeAt_len] at hi
    obtain ⟨h1, h2, h3, h4, h5, h6, h7⟩ := closeAt_shape (ps := ps) (b := b) i
    obtain ⟨t1, t2, t3, s1, s2, s3, hos⟩ := hN.ok i hi
    refine ⟨by rw [h4]; exact t1, by rw [h4, h5]; exact t2, by rw [h5]; exact t3, by rw [h6]; exact s1, by rw [h6, h7]; exact s2, by rw [h7]; exact s3, ?_⟩
    by_cases h : b = i
    · subst h
      rw [closeAt_same hi]
      exact Nat.zero_le _
    · rw [closeAt_other h]
      exact hos
  · rw [closeAt_len] at hi
    rw [(closeAt_shape i).1]
    exact hN.frm i hi
  · rw [closeAt_len] at hi
    rw [(closeAt_shape i).2.1]
    exact hN.dst i hi
theorem closed_walkIdx (g : Int) (k : Nat) : walkIdx (closeAt ps b) g k = walkIdx ps g k := by
  unfold walkIdx
  refine List.filter_congr fun i _ => ?_
  unfold okB
  rw [(closeAt_shape i).2.2.1]
theorem arrive_shut {sel : Int → Int → Int} (hs : SelGe sel) {l pl ph : Int} (ha : PaOk l pl ph) {p : Pt} (hp : PtOk p) (t : Int) : arrive sel l pl ph (shut p) t = 2881 := by
  obtain ⟨t1, t2, t3, s1, s2, s3, hos⟩ := hp
  obtain ⟨p1, p2, p3, l1, l2⟩ := ha
  have ⟨b3, b4⟩ := timeOf_bd t1 (by omega) p1 (by omega) s1 (by omega) l1 l2
  have ⟨b5, b6⟩ := timeOf_bd (t := p.th) (p := ph) (s := p.sh) (by omega) t3 (by omega) p3 (by omega) s3 l1 l2
  have h := hs _ _ b3 b5
  unfold arrive shut
  dsimp only
  have : enter 2881 [] t = 2881 := rfl
  rw [this]
  omega
variable {sel : Int → Int → Int} {g l pl ph : Int} {m : Nat}
/-- Who cannot walk a path does not miss it. -/
theorem rows_closed_no (h : ¬ (ps.getD b zeroPt).grade ≤ g) (from_ : Nat) (s : Int) : ∀ k, rows sel g l pl ph (closeAt ps b) m from_ s k = rows sel g l pl ph ps m from_ s k
  | 0 => rfl
  | k + 1 => by
    rw [rows, rows, rows_closed_no h from_ s k, closeAt_len, closed_walkIdx]
    have key : ∀ (is : List Nat) (acc low : List Int), (∀ i, i ∈ is → (ps.getD i zeroPt).grade ≤ g) → is.foldl (pmStep sel l pl ph (closeAt ps b) low) acc = is.foldl (pmStep sel l pl ph ps low) acc := by
      intro is
      induction is with
      | nil => intro acc low _; rfl
      | cons i is ih =>
        intro acc low hi
        rw [List.foldl_cons, List.foldl_cons]
        have hne : b ≠ i := fun e => h (e ▸ hi i List.mem_cons_self)
        have e1 : pmStep sel l pl ph (closeAt ps b) low acc i = pmStep sel l pl ph ps low acc i := by
          unfold pmStep
          rw [closeAt_other hne]
        rw [e1]
        exact ih _ _ (fun j hj => hi j (List.mem_cons_of_mem _ hj))
    exact key _ _ _ (fun i hi => (mem_walkIdx.1 hi).2)
/-- A route that does not use a path is one without it. -/
theorem route_closed {from_ : Int} {r : List Int} (hr : RouteOk g ps from_ r) (hno : ∀ k, k < r.length → (r.getD k 0).toNat ≠ b) (s : Int) :
    RouteOk g (closeAt ps b) from_ r ∧ (∀ k, k ≤ r.length → stopAt (closeAt ps b) from_ r k = stopAt ps from_ r k) ∧ ∀ k, k ≤ r.length → minAt sel l pl ph (closeAt ps b) s r k = minAt sel l pl ph ps s r k := by
  have hst : ∀ k, k ≤ r.length → stopAt (closeAt ps b) from_ r k = stopAt ps from_ r k := fun k hk => by
    cases k with
    | zero => rfl
    | succ k =>
      show ((closeAt ps b).getD (r.getD k 0).toNat zeroPt).dst = (ps.getD (r.getD k 0).toNat zeroPt).dst
      exact (closeAt_shape _).2.1
  refine ⟨⟨hr.len, hr.lo, fun k hk => by rw [closeAt_len]; exact hr.hi k hk, fun k hk => by rw [(closeAt_shape _).2.2.1]; exact hr.can k hk, fun k hk => by rw [(closeAt_shape _).1, hst k (by omega)]; exact hr.frm k hk⟩, hst, fun k => ?_⟩
  induction k with
  | zero => intro _; rfl
  | succ k ih =>
    intro hk
    show arrive sel l pl ph ((closeAt ps b).getD (r.getD k 0).toNat zeroPt) (minAt sel l pl ph (closeAt ps b) s r k) = arrive sel l pl ph (ps.getD (r.getD k 0).toNat zeroPt) (minAt sel l pl ph ps s r k)
    rw [ih (by omega), closeAt_other (fun e => hno k hk e.symm)]
/-- A path without which a place is not reached in time is in each route that reaches it in time. -/
theorem must_be_in (ha : PaOk l pl ph) (hm : 1 ≤ m) (hN : NOk m ps) (from_ : Nat) (hfr : from_ < m) {s : Int} (h0 : 0 ≤ s) (h1 : s ≤ 2881) {r : List Int} (hr : RouteOk g ps (from_ : Int) r) {D : Int} (hD : minAt selHi l pl ph ps s r r.length ≤ D)
    (hmust : D < (rows selHi g l pl ph (closeAt ps b) m from_ s (m - 1)).getD (stopAt ps (from_ : Int) r r.length).toNat 0) : ∃ k, k < r.length ∧ (r.getD k 0).toNat = b := by
  apply Classical.byContradiction
  intro hn
  obtain ⟨q1, q2, q3⟩ := route_closed (sel := selHi) (l := l) (pl := pl) (ph := ph) (b := b) hr (fun k hk e => hn ⟨k, hk, e⟩) s
  have h := rows_low (g := g) selHi_pos ha hm (closeAt_ok hN) from_ hfr h0 h1 q1 (minAt selHi l pl ph (closeAt ps b) s r) r.length (Nat.le_refl _) (Int.le_refl _) (fun k _ => Int.le_refl _)
  rw [q2 _ (Nat.le_refl _), q3 _ (Nat.le_refl _)] at h
  omega
/-- To leave a path out is to close it. -/
theorem ipStep_close (hs : SelGe sel) (ha : PaOk l pl ph) (hN : NOk m ps) (hb : b < ps.length) {acc : List Int} (hbd : BdRow m acc) (i : Nat) (hi : i < ps.length) : ipStep sel g l pl ph ps (b : Int) acc i = ipStep sel g l pl ph (closeAt ps b) (-1) acc i := by
  by_cases h : b = i
  · subst h
    rw [ip_skip (.inl rfl)]
    unfold ipStep
    split
    · rw [closeAt_same hb]
      have hd := hN.dst b hb
      have h3 := hbd.2 (ps.getD b zeroPt).dst.toNat (by omega)
      rw [arrive_shut hs ha (hN.ok b hb)]
      have e : (shut (ps.getD b zeroPt)).dst = (ps.getD b zeroPt).dst := rfl
      rw [e, show min (acc.getD (ps.getD b zeroPt).dst.toNat 0) 2881 = acc.getD (ps.getD b zeroPt).dst.toNat 0 by omega]
      exact (set_self _ _).symm
    · rfl
  · unfold ipStep
    rw [closeAt_other h]
    by_cases hg : (ps.getD i zeroPt).grade ≤ g
    · rw [if_pos ⟨by omega, hg⟩, if_pos ⟨by omega, hg⟩]
    · rw [if_neg (fun h => hg h.2), if_neg (fun h => hg h.2)]
theorem ipRows_close (hs : SelGe sel) (ha : PaOk l pl ph) (hN : NOk m ps) (hb : b < ps.length) (from_ : Nat) {s : Int} (h0 : 0 ≤ s) (h1 : s ≤ 2881) : ∀ k, ipRows sel g l pl ph ps (b : Int) m from_ s k = ipRows sel g l pl ph (closeAt ps b) (-1) m from_ s k
  | 0 => rfl
  | k + 1 => by
    rw [ipRows, ipRows, ← ipRows_close hs ha hN hb from_ h0 h1 k, closeAt_len]
    have hbd := ipRows_bd (g := g) (but := (b : Int)) hs ha hN (from_ := from_) h0 h1 k
    have key : ∀ j, j ≤ ps.length → ipTo sel g l pl ph ps (b : Int) (ipRows sel g l pl ph ps (b : Int) m from_ s k) j = ipTo sel g l pl ph (closeAt ps b) (-1) (ipRows sel g l pl ph ps (b : Int) m from_ s k) j := by
      intro j
      induction j with
      | zero => intro _; rfl
      | succ j ih =>
        intro hj
        rw [ipTo_succ, ipTo_succ, ← ih (by omega)]
        exact ipStep_close hs ha hN hb (ipTo_bd hs ha hN hbd j (by omega)) j (by omega)
    exact key _ (Nat.le_refl _)
/-- The table without a path. -/
theorem ipRows_but (hs : SelGe sel) (ha : PaOk l pl ph) (hm : 1 ≤ m) (hN : NOk m ps) (hb : b < ps.length) (from_ : Nat) {s : Int} (h0 : 0 ≤ s) (h1 : s ≤ 2881) : ipRows sel g l pl ph ps (b : Int) m from_ s m = rows sel g l pl ph (closeAt ps b) m from_ s (m - 1) := by
  rw [ipRows_close hs ha hN hb from_ h0 h1 m]
  exact ipRows_eq hs ha hm (closeAt_ok hN) (fun i _ => by omega) from_ h0 h1
end
end Go.Proofs.Ytndoghcglbpllaa
/- slices.Clone of paths. -/
set_option linter.unusedSimpArgs false
set_option linter.unusedVariables false
namespace Go.Proofs.Ytndoghcglbpllaa
open Go.RowKit
theorem flat8 (F : Nat → List Value) (hF : ∀ k, (F k).length = 8) : ∀ n, ((List.range n).flatMap F).length = n * 8 ∧ ∀ k i, k < n → i < 8 → ((List.range n).flatMap F)[k * 8 + i]? = (F k)[i]?
  | 0 => ⟨rfl, fun k i hk => by omega⟩
  | n + 1 => by
    obtain ⟨h1, h2⟩ := flat8 F hF n
    have e : (List.range (n + 1)).flatMap F = (List.range n).flatMap F ++ F n := by rw [List.range_succ, List.flatMap_append]; simp
    rw [e]
    refine ⟨by rw [List.length_append, h1, hF]; omega, fun k i hk hi => ?_⟩
    by_cases hkn : k < n
    · rw [List.getElem?_append_left (by omega)]
      exact h2 k i hkn hi
    · obtain rfl : k = n := by omega
      rw [List.getElem?_append_right (by omega)]
      congr 1
      omega
/-- A row of paths that was made; their spans lie wherever they lay. -/
def RowP (w0 w : World) (g : Nat) (ps : List Pt) : Prop :=
  ∃ cur, w.heap[g]? = some (.cells cur 56 (0, 0)) ∧ ∀ k, k < ps.length → ∃ A c, (∀ i, i < 8 → cur[k * 8 + i]? = (pcellsL (ps.getD k zeroPt) A c)[i]?) ∧ (ps.getD k zeroPt).opens.length ≤ c ∧ OpensAt w0 A (ps.getD k zeroPt).opens
theorem RowP.paths {w0 w : World} {g : Nat} {ps : List Pt} (h : RowP w0 w g ps) (e : Ext w0 w) : PathsAt w (some ⟨g, 0, none⟩) ps := fun hne => by
  obtain ⟨cur, h1, h2⟩ := h
  refine ⟨g, 0, rfl, (Array.getElem?_eq_some_iff.1 h1).1, fun k hk => ?_⟩
  obtain ⟨A, c, h4, h5, h6⟩ := h2 k hk
  have hcell : ∀ i u, i < 8 → (pcellsL (ps.getD k zeroPt) A c)[i]? = some u → w.cell? ⟨g, 0 + k * 8 + i, none⟩ = some u := fun i u hi hu => by
    rw [Nat.zero_add, blk_cell h1, h4 i hi]
    exact hu
  exact ⟨A, c, hcell 0 _ (by omega) rfl, hcell 1 _ (by omega) rfl, hcell 2 _ (by omega) rfl, hcell 3 _ (by omega) rfl, hcell 4 _ (by omega) rfl, hcell 5 _ (by omega) rfl, hcell 6 _ (by omega) rfl, hcell 7 _ (by omega) rfl, h5, h6.ext e⟩
/-- To take a path's spans away. -/
theorem RowP.shut {w0 w : World} {g : Nat} {ps : List Pt} (h : RowP w0 w g ps) {b : Nat} (hb : b < ps.length) : RowP w0 (w.setCell ⟨g, b * 8 + 7, none⟩ (.slice none 0 0)) g (closeAt ps b) := by
  obtain ⟨cur, h1, h2⟩ := h
  refine ⟨_, heap_setCell_same w g (b * 8 + 7) _ _ (.slice none 0 0) h1, fun k hkl => ?_⟩
  rw [closeAt_len] at hkl
  obtain ⟨A, c, h4, h5, h6⟩ := h2 k hkl
  by_cases hkb : b = k
  · subst hkb
    rw [closeAt_same hb]
    refine ⟨none, 0, fun i hi => ?_, Nat.le_refl _, fun hne => absurd rfl hne⟩
    rw [Array.getElem?_setIfInBounds]
    have hsz : b * 8 + 7 < cur.size := by
      have := h4 7 (by omega)
      exact (Array.getElem?_eq_some_iff.1 (this.trans rfl)).1
    by_cases hi7 : i = 7
    · subst hi7
      rw [if_pos rfl]
      simp [hsz, pcellsL]
      rfl
    · rw [if_neg (by omega), h4 i hi]
      have hi' : i = 0 ∨ i = 1 ∨ i = 2 ∨ i = 3 ∨ i = 4 ∨ i = 5 ∨ i = 6 := by omega
      rcases hi' with rfl | rfl | rfl | rfl | rfl | rfl | rfl <;> rfl
  · rw [closeAt_other hkb]
    refine ⟨A, c, fun i hi => ?_, h5, h6⟩
    rw [Array.getElem?_setIfInBounds, if_neg (by omega)]
    exact h4 i hi
/-- The call returns a new row of paths. -/
def NewPaths (w0 : World) (ps : List Pt) (n : Nat) (w : World) (e : Ending) (w' : World) : Prop := ∃ g cap, e = .returned (.slice (some ⟨g, 0, none⟩) n cap) ∧ RowP w0 w' g ps ∧ w.heap.size ≤ g ∧ Ext w w'
theorem NewPaths.mk {w0 : World} {ps : List Pt} {n : Nat} {w : World} {e : Ending} {w' : World} {g cap : Nat} (h : e = .returned (.slice (some ⟨g, 0, none⟩) n cap)) (hr : RowP w0 w' g ps) (hg : w.heap.size ≤ g) (he : Ext w w')   : NewPaths w0 ps n w e w' := ⟨g, cap, h, hr, hg, he⟩
set_option maxRecDepth 100000 in
set_option maxHeartbeats 2000000 in
theorem clonePaths_any (b off c n : Nat) (ps : List Pt) (hn : ps.length = n) (hm : n ≤ 1000) (hp : 0 < n) (w0 w : World) (e0 : Ext w0 w) (hx : PathsAt w0 (some ⟨b, off, none⟩) ps) :
    Calls Try.prog 92 #[.slice (some ⟨b, off, none⟩) n c] w (NewPaths w0 ps n w) := by
  obtain ⟨b', off', hA, hb, hc⟩ := hx (by rintro rfl; simp at hn; omega)
  injection hA with hA
  injection hA with e1 e2
  subst e1 e2
  obtain ⟨fs, hfl, hfs⟩ := exists_list ((none, 0) : Option Addr × Nat) (fun k (x : Option Addr × Nat) => PtAt w0 b (off + k * 8) (ps.getD k zeroPt) x.1 x.2) n (fun k hk => by
    obtain ⟨A', c', h⟩ := hc k (by omega)
    exact ⟨(A', c'), h⟩)
  obtain ⟨F, hFd⟩ : ∃ F : Nat → List Value, F = fun k => pcellsL (ps.getD k zeroPt) (fs.getD k (none, 0)).1 (fs.getD k (none, 0)).2 := ⟨_, rfl⟩
  have hF8 : ∀ k, (F k).length = 8 := fun k => by rw [hFd]; rfl
  obtain ⟨hlen, hat⟩ := flat8 F hF8 n
  have hcell : ∀ j u, ((List.range n).flatMap F)[j]? = some u → w.cell? (Addr.add ⟨b, off, none⟩ j) = some u := by
    intro j u hj
    have hlt := (List.getElem?_eq_some_iff.1 hj).1
    rw [hlen] at hlt
    have hjd : j = j / 8 * 8 + j % 8 := by omega
    have hpt := (hfs (j / 8) (by omega)).ext hb e0
    have hadd : (⟨b, off, none⟩ : Addr).add j = ⟨b, off + j, none⟩ := by
      unfold Addr.add
      split
      · rename_i h0; subst h0; rfl
      · rfl
    rw [hadd, hjd]
    rw [hjd, hat (j / 8) (j % 8) (by omega) (by omega), hFd] at hj
    have hm8 : j % 8 = 0 ∨ j % 8 = 1 ∨ j % 8 = 2 ∨ j % 8 = 3 ∨ j % 8 = 4 ∨ j % 8 = 5 ∨ j % 8 = 6 ∨ j % 8 = 7 := by omega
    rw [← Nat.add_assoc]
    rcases hm8 with h | h | h | h | h | h | h | h <;> rw [h] at hj ⊢ <;> rw [← Option.some.inj hj]
    · exact hpt.c0
    · exact hpt.c1
    · exact hpt.c2
    · exact hpt.c3
    · exact hpt.c4
    · exact hpt.c5
    · exact hpt.c6
    · exact hpt.c7
  have hone : ∀ u ∈ (List.range n).flatMap F, u.oneCell' = true := by
    intro u hu
    obtain ⟨k, _, hk⟩ := List.mem_flatMap.1 hu
    rw [hFd] at hk
    exact pcells_one _ _ _ u hk
  have hbw : b < w.heap.size := Nat.lt_of_lt_of_le hb e0.size
  have HFS := hid hfs
  have HFD := hid hFd
  have H := hid hcell
  have HL := hid hlen
  have HAT := hid hat
  have HONE := hid hone
  obtain ⟨news, hnews⟩ : ∃ news, (List.range n).flatMap F = news := ⟨_, rfl⟩
  rw [hnews] at H HL HAT HONE
  clear hcell hx hc hone hlen hat hnews hF8 hFd hfs
  obtain ⟨i0, hi, hz0, hz1, hz2⟩ := info_parts infoPath
  have HI := hid hi
  have HZ0 := hid hz0
  have HZ1 := hid hz1
  have HZ2 := hid hz2
  clear hi hz0 hz1 hz2
  have hnil : ∀ (W : World) (a : Option Addr) (n c n' c' : Nat), (binOp .eql 22 (.slice a n c) (.slice none n' c')).run Try.prog W = .ok (.bool a.isNone) W := fun W a n c n' c' => Lib.run_eql_slice_nil W _ _ a n c n' c' Try.underlying22
  go_enter Try.func92, Try.ntmps92
  have h0 := World.ownsRow_lit (base := w.heap.size) (e := 56) (size := 8) w #[] 0 (Nat.le_refl _) (by unfold maxLen; omega) rfl
  have H0 := hid h0
  clear h0
  go_wp2_with (at_builtin; refine wpList_append_own _ rfl _ _ 22 rfl w.heap.size 56 i0 zpath 8 80 Try.underlying22 HI.out HZ0.out HZ1.out HZ2.out rfl (by decide) _ _ _ rfl H0.out ⟨b, off, none⟩ n _ news rfl HL.out (fun j u hj => (World.cell?_alloc_lt w _ _ (by rw [addBlock]; exact hbw)).trans (H.out j u hj)) HONE.out (by unfold maxLen; omega) (by omega) (by simp) ?_; intro v' w2 hown hgrow _)
  simp only [List.nil_append, Nat.zero_add] at hown
  obtain ⟨h1, h2⟩ := hown
  rcases h2 with ⟨_, h2⟩ | ⟨g, cap, cur, rfl, hbg, hheap, hcp, hcm, hcs, htk⟩
  · omega
  have hE : Ext w w2 := ext_of_grown (ext_alloc1 _ _) hgrow (fun k hk => by have hk' : some w.heap.size = some k := hk; injection hk' with hk'; omega)
  have hR := hid (show RowP w0 w2 g ps from ⟨cur, hheap, fun k hk => by
    have hpt := HFS.out k (by omega)
    refine ⟨(fs.getD k (none, 0)).1, (fs.getD k (none, 0)).2, fun i hi => ?_, hpt.cap, hpt.opens⟩
    have h3 := HAT.out k i (by omega) hi
    rw [← htk, List.getElem?_take_of_lt (by omega), HFD.out] at h3
    rw [← h3]
    simp⟩)
  have hG := hid hbg
  clear h1 hbg hheap hcs htk hgrow H H0 HONE HAT HFS
  go_wp2
  go_ret
  exact NewPaths.mk rfl hR.out hG.out hE
theorem RowP.keep {w0 w w' : World} {g : Nat} {ps : List Pt} (h : RowP w0 w g ps) (hh : w'.heap[g]? = w.heap[g]?) : RowP w0 w' g ps := by
  obtain ⟨cur, h1, h2⟩ := h
  exact ⟨cur, hh.trans h1, h2⟩
theorem RowP.seven {w0 w : World} {g : Nat} {ps : List Pt} (h : RowP w0 w g ps) {i : Nat} (hi : i < ps.length) : (∃ v, w.cell? ⟨g, i * 8 + 7, none⟩ = some v ∧ v.oneCell' = true) ∧ w.frozen? ⟨g, i * 8 + 7, none⟩ = false ∧ g < w.heap.size := by
  obtain ⟨cur, h1, h2⟩ := h
  obtain ⟨A, c, h4, _⟩ := h2 i hi
  refine ⟨⟨.slice A (ps.getD i zeroPt).opens.length c, ?_, rfl⟩, blk_fro h1 _, (Array.getElem?_eq_some_iff.1 h1).1⟩
  rw [blk_cell h1, h4 7 (by omega)]
  rfl
/-- The walk with a path closed. -/
def WithoutIs (m g l pl ph : Int) (n : Nat) (ps : List Pt) (w : World) (e : Ending) (w' : World) : Prop := ∃ G cap, e = .returned (.agg (wbox m g l pl ph (some ⟨G, 0, none⟩) n cap)) ∧ PathsAt w' (some ⟨G, 0, none⟩) ps ∧ Ext w w'
theorem WithoutIs.mk {m g l pl ph : Int} {n : Nat} {ps : List Pt} {w : World} {e : Ending} {w' : World} {G cap : Nat} (h : e = .returned (.agg (wbox m g l pl ph (some ⟨G, 0, none⟩) n cap))) (hp : PathsAt w' (some ⟨G, 0, none⟩) ps) (he : Ext w w') : WithoutIs m g l pl ph n ps w e w' := ⟨G, cap, h, hp, he⟩
set_option maxRecDepth 100000 in
set_option maxHeartbeats 2000000 in
theorem without_any (m g l pl ph : Int) (A : Option Addr) (n c : Nat) (ps : List Pt) (hn : ps.length = n) (hm : n ≤ 1000) (i : Nat) (hi : i < n) (w : World) (hp : PathsAt w A ps) :
    Calls Try.prog 64 #[.agg (wbox m g l pl ph A n c), .int .i64 (i : Int)] w (WithoutIs m g l pl ph n (closeAt ps i) w) := by
  obtain ⟨b, off, rfl, hb, hc⟩ := id hp (by rintro rfl; simp at hn; omega)
  have HC := hid (fun (W : World) (hE : Ext w W) => clonePaths_any b off c n ps hn hm (by omega) w W hE hp)
  have t0 := two_blocks w (.cells (wbox m g l pl ph (some ⟨b, off, none⟩) n c) 70) (.cells #[.int .i64 0, .slice none 0 0, .int .i64 0, .int .i64 0, .int .i64 0, .int .i64 0] 70)
  have B0 := hid t0.1
  have B1 := hid t0.2.1
  have hi0 : (0 : Int) ≤ (i : Int) := by omega
  have hi1 : (i : Int) < (n : Int) := by omega
  have HN := hid hn
  clear hp hc hn t0
  simp only [wbox] at B0 ⊢
  go_enter Try.func64, Try.ntmps64
  go_wp2_with fail
  refine (HC.out _ (by (repeat' (first | with_reducible assumption | with_reducible exact Ext.refl _ | with_reducible refine Ext.alloc ?_ _ | with_reducible refine Ext.set ?_ ?_ _ | with_reducible refine Ext.drew ?_ | with_reducible refine Ext.drewN ?_ _ | with_reducible refine Ext.trans ?_ (by assumption) | (dsimp only; omega))))).mono ?_
  rintro e w2 ⟨G, cap, rfl, hr, hg, hE⟩
  have E2 : Ext w w2 := by (repeat' (first | with_reducible assumption | with_reducible exact Ext.refl _ | with_reducible refine Ext.alloc ?_ _ | with_reducible refine Ext.set ?_ ?_ _ | with_reducible refine Ext.drew ?_ | with_reducible refine Ext.drewN ?_ _ | with_reducible refine Ext.trans ?_ (by assumption) | (dsimp only; omega)))
  have C0 := hid (blk_ext B0.out hE)
  have C1 := hid (blk_ext B1.out hE)
  have hGw : w.heap.size + 2 ≤ G := by simpa using hg
  have n1 : ¬ G = w.heap.size := by omega
  have n2 : ¬ G = w.heap.size + 1 := by omega
  have n3 : ¬ w.heap.size = G := by omega
  have n4 : ¬ w.heap.size + 1 = G := by omega
  obtain ⟨⟨sv, hsv, hsv1⟩, hsf, hGl⟩ := hr.seven (i := i) (by have := HN.out; omega)
  have c0 := blk_cell C0.out 0
  have c1 := blk_cell C0.out 1
  have c2 := blk_cell C0.out 2
  have c3 := blk_cell C0.out 3
  have c4 := blk_cell C0.out 4
  have c5 := blk_cell C0.out 5
  have fc := blk_fro C0.out 1
  have r0 := blk_cell C1.out 0
  have r1 := blk_cell C1.out 1
  have r2 := blk_cell C1.out 2
  have r3 := blk_cell C1.out 3
  have r4 := blk_cell C1.out 4
  have r5 := blk_cell C1.out 5
  have g0 := blk_fro C1.out 0
  have g1 := blk_fro C1.out 1
  have g2 := blk_fro C1.out 2
  have g3 := blk_fro C1.out 3
  have g4 := blk_fro C1.out 4
  have g5 := blk_fro C1.out 5
  simp only [List.getElem?_toArray, List.getElem?_cons_zero, List.getElem?_cons_succ] at c0 c1 c2 c3 c4 c5 r0 r1 r2 r3 r4 r5
  have z0 := (Array.getElem?_eq_some_iff.1 C0.out).1
  have z1 := (Array.getElem?_eq_some_iff.1 C1.out).1
  have HR3 := hid ((hr.keep (Below.heap_setCell w2 ⟨w.heap.size, 1, none⟩ (.slice (some ⟨G, 0, none⟩) n cap) G (by dsimp only; omega))).shut (b := i) (by have := HN.out; omega))
  have E3 : Ext w ((w2.setCell ⟨w.heap.size, 1, none⟩ (.slice (some ⟨G, 0, none⟩) n cap)).setCell ⟨G, i * 8 + 7, none⟩ (.slice none 0 0)) := (E2.set (by dsimp only; omega) _).set (by dsimp only; omega) _
  clear hE hr hg C0 C1 B0 B1 HC
  go_wp2
  obtain ⟨W3, hW3⟩ : ∃ W3, (w2.setCell ⟨w.heap.size, 1, none⟩ (.slice (some ⟨G, 0, none⟩) n cap)).setCell ⟨G, i * 8 + 7, none⟩ (.slice none 0 0) = W3 := ⟨_, rfl⟩
  have q0 : W3.cell? ⟨w.heap.size + 1, 0, none⟩ = some (.int .i64 0) := by rw [← hW3]; exact (World.cell?_setCell_other _ _ _ _ (by simp <;> omega)).trans ((World.cell?_setCell_other _ _ _ _ (by simp)).trans r0)
  have q1 : W3.cell? ⟨w.heap.size + 1, 1, none⟩ = some (.slice none 0 0) := by rw [← hW3]; exact (World.cell?_setCell_other _ _ _ _ (by simp <;> omega)).trans ((World.cell?_setCell_other _ _ _ _ (by simp)).trans r1)
  have q2 : W3.cell? ⟨w.heap.size + 1, 2, none⟩ = some (.int .i64 0) := by rw [← hW3]; exact (World.cell?_setCell_other _ _ _ _ (by simp <;> omega)).trans ((World.cell?_setCell_other _ _ _ _ (by simp)).trans r2)
  have q3 : W3.cell? ⟨w.heap.size + 1, 3, none⟩ = some (.int .i64 0) := by rw [← hW3]; exact (World.cell?_setCell_other _ _ _ _ (by simp <;> omega)).trans ((World.cell?_setCell_other _ _ _ _ (by simp)).trans r3)
  have q4 : W3.cell? ⟨w.heap.size + 1, 4, none⟩ = some (.int .i64 0) := by rw [← hW3]; exact (World.cell?_setCell_other _ _ _ _ (by simp <;> omega)).trans ((World.cell?_setCell_other _ _ _ _ (by simp)).trans r4)
  have q5 : W3.cell? ⟨w.heap.size + 1, 5, none⟩ = some (.int .i64 0) := by rw [← hW3]; exact (World.cell?_setCell_other _ _ _ _ (by simp <;> omega)).trans ((World.cell?_setCell_other _ _ _ _ (by simp)).trans r5)
  rw [hW3] at HR3 E3 ⊢
  clear hW3
  have EF : Ext w ((((((W3.setCell ⟨w.heap.size + 1, 0, none⟩ (.int .i64 m)).setCell ⟨w.heap.size + 1, 1, none⟩ (.slice (some ⟨G, 0, none⟩) n cap)).setCell ⟨w.heap.size + 1, 2, none⟩ (.int .i64 g)).setCell ⟨w.heap.size + 1, 3, none⟩ (.int .i64 l)).setCell ⟨w.heap.size + 1, 4, none⟩ (.int .i64 pl)).setCell ⟨w.heap.size + 1, 5, none⟩ (.int .i64 ph)) := (Ext.set (Ext.set (Ext.set (Ext.set (Ext.set (Ext.set E3 (by dsimp only; omega) _) (by dsimp only; omega) _) (by dsimp only; omega) _) (by dsimp only; omega) _) (by dsimp only; omega) _) (by dsimp only; omega) _)
  have HF := hid (RowP.paths (RowP.keep (w' := ((((((W3.setCell ⟨w.heap.size + 1, 0, none⟩ (.int .i64 m)).setCell ⟨w.heap.size + 1, 1, none⟩ (.slice (some ⟨G, 0, none⟩) n cap)).setCell ⟨w.heap.size + 1, 2, none⟩ (.int .i64 g)).setCell ⟨w.heap.size + 1, 3, none⟩ (.int .i64 l)).setCell ⟨w.heap.size + 1, 4, none⟩ (.int .i64 pl)).setCell ⟨w.heap.size + 1, 5, none⟩ (.int .i64 ph))) HR3.out ((Below.heap_setCell _ _ _ _ (by dsimp only; omega)).trans ((Below.heap_setCell _ _ _ _ (by dsimp only; omega)).trans ((Below.heap_setCell _ _ _ _ (by dsimp only; omega)).trans ((Below.heap_setCell _ _ _ _ (by dsimp only; omega)).trans ((Below.heap_setCell _ _ _ _ (by dsimp only; omega)).trans (Below.heap_setCell _ _ _ _ (by dsimp only; omega)))))))) EF)
  exact bodyPost_ret (v := .agg #[.int .i64 m, .slice (some ⟨G, 0, none⟩) n cap, .int .i64 g, .int .i64 l, .int .i64 pl, .int .i64 ph]) (by simp [results, Try.results64, go_sem, q0, q1, q2, q3, q4, q5]) rfl (WithoutIs.mk rfl HF.out EF)
end Go.Proofs.Ytndoghcglbpllaa
