/- The places that are reached by a deadline. -/
import Derived.Test.YtndoghcglbpllaaV17
import Derived.Test.YtndoghcglbpllaaV10
import Derived.Test.YtndoghcglbpllaaV11
import Derived.Test.YtndoghcglbpllaaV13
import Derived.Test.YtndoghcglbpllaaV16
set_option linter.unusedSimpArgs false
set_option linter.unusedVariables false
namespace Go.Proofs.Ytndoghcglbpllaa
open Go.RowKit
def reachL (xs : List Int) (D : Int) (k : Nat) : List Int := ((List.range k).filter fun i => decide (xs.getD i 0 ≤ D)).map Int.ofNat
theorem reachL_yes (xs : List Int) (D : Int) (k : Nat) (h : xs.getD k 0 ≤ D) : reachL xs D (k + 1) = reachL xs D k ++ [(k : Int)] := by
  unfold reachL
  rw [List.range_succ, List.filter_append, List.map_append]
  simp only [List.filter_cons, List.filter_nil, decide_eq_true h, if_true]
  rfl
theorem reachL_no (xs : List Int) (D : Int) (k : Nat) (h : D < xs.getD k 0) : reachL xs D (k + 1) = reachL xs D k := by
  unfold reachL
  rw [List.range_succ, List.filter_append, List.map_append]
  have hd : decide (xs.getD k 0 ≤ D) = false := decide_eq_false (by omega)
  simp only [List.filter_cons, List.filter_nil, hd, if_neg (by decide : ¬ (false = true)), List.map_nil, List.append_nil]
theorem reachL_len (xs : List Int) (D : Int) (k : Nat) : (reachL xs D k).length ≤ k := by
  unfold reachL
  rw [List.length_map]
  exact Nat.le_trans (List.length_filter_le _ _) (by simp)
def OwnIs (ys : List Int) (w : World) (e : Ending) (w' : World) : Prop := ∃ v, e = .returned v ∧ OwnAt w' w.heap.size v ys ∧ Ext w w'
theorem OwnIs.mk {ys : List Int} {w : World} {e : Ending} {w' : World} {v : Value} (h : e = .returned v) (ho : OwnAt w' w.heap.size v ys) (he : Ext w w') : OwnIs ys w e w' := ⟨v, h, ho, he⟩
theorem wpList_append_intsB {P : Program} {ops : Array Oper} {rest : List Oper} {o : Oper} {a : Act} {Q : Exit → Act → World → Prop} (w : World) (hP : P = Try.prog) (hgd : o.guard = none) (s x : Operand)
    (ho : o.op = .call { callee := .builtin .append, args := #[s, x], argTypes := #[29, 29] }) (B : Nat) (v : Value) (xs : List Int) (hs : a.eval s = v) (hown : OwnAt w B v xs)
    (ad : Addr) (y : Int) (hx : a.eval x = .slice (some ad) 1 1) (hy : w.cell? ad = some (.int .i64 y)) (hl : xs.length ≤ 1000) (hB : B ≤ w.heap.size)
    (h : ∀ v' w', OwnAt w' B v' (xs ++ [y]) → w.grownBy w' v.ownBlock → wpList P ops Q rest (a.put o.dst v') w') : wpList P ops Q (o :: rest) a w :=
  wpList_plain hgd fun _ hK => wp_append_ints w hP s x ho B v xs hs hown ad y hx hy hl hB fun v' w' h2 h3 => hK _ _ (h v' w' h2 h3)
set_option maxHeartbeats 1000000 in
theorem reached_any (A : Option Addr) (n c : Nat) (xs : List Int) (hn : xs.length = n) (hm : n ≤ 1000) (D : Int) (w : World) (hx : IntsAt w A xs) :
    Calls Try.prog 65 #[.slice A n c, .int .i64 D] w (OwnIs (reachL xs D n) w) := by
  have HX := hid hx
  have HN := hid hn
  clear hx hn
  go_enter Try.func65, Try.ntmps65
  go_wp2
  go_loopw [5, 10] (fun v i wr => Ext w wr ∧ ∃ k : Nat, k ≤ n ∧ i = .int .i64 k ∧ Hid (OwnAt wr w.heap.size v (reachL xs D k))) (fun _ i _ => n - (intOf i).toNat)
  case atStart => exact ⟨Ext.refl _, 0, Nat.zero_le _, rfl, hid (OwnAt.nil _ _)⟩
  case round =>
    obtain ⟨hE, k, hk, rfl, HO⟩ := hrel
    by_cases hlt : k < n
    · obtain ⟨b, off, rfl, hb, q1⟩ := (HX.out.ext hE).at_ HN.out hlt
      have HY := hid (reachL_yes xs D k)
      have HNO := hid (reachL_no xs D k)
      obtain ⟨y, hy⟩ : ∃ y, xs.getD k 0 = y := ⟨_, rfl⟩
      rw [hy] at q1 HY HNO
      clear hy
      have hk0 : (0 : Int) ≤ (k : Int) := by omega
      have hk1 : (k : Int) < (n : Int) := by omega
      have hrl := reachL_len xs D k
      obtain ⟨v, rfl⟩ : ∃ v, v = u5 := ⟨_, rfl⟩
      have HTV := hid (HO.out.block)
      have hz := hE.size
      by_cases hyd : y ≤ D
      · have HA := hid (HY.out hyd)
        go_wp2_with (at_builtin; refine wpList_append_intsB _ rfl rfl _ _ rfl w.heap.size v (reachL xs D k) (by rfl) (HO.out.ext (ext_alloc1 _ _)) ⟨wr.heap.size, 0, none⟩ (k : Int) (by rfl) (blk_cell (heap_alloc_new wr _) 0) (by omega) (by simp; omega) ?_; intro v' w9 hown9 hg9; have HY9 := hid hown9; have HG := hid hg9; clear hown9 hg9)
        have hE9 : Ext w w9 := ext_of_grown (hE.alloc _) HG.out (fun q hq => HTV.out q hq)
        go_roundw
        case rel => exact ⟨hE9, k + 1, by omega, by go_num, by rw [HA.out]; exact HY9⟩
        case measure => (simp [intOf] <;> omega)
      · have hd : decide (y ≤ D) = false := decide_eq_false hyd
        have HA := hid (HNO.out (by omega))
        go_wp2
        go_roundw
        case rel => exact ⟨hE, k + 1, by omega, by go_num, by rw [HA.out]; exact HO⟩
        case measure => (simp [intOf] <;> omega)
    · obtain rfl : k = n := by omega
      go_wp2
      go_ret
      exact OwnIs.mk rfl HO.out hE
set_option maxHeartbeats 1000000 in
theorem until_any (A : Option Addr) (n c : Nat) (xs : List Int) (hn : xs.length = n) (hm : n ≤ 1000) (D : Int) (w : World) (hx : IntsAt w A xs) :
    Calls Try.prog 66 #[.slice A n c, .int .i64 D] w (OwnIs (reachL xs D n) w) := by
  have HX := hid hx
  have HN := hid hn
  clear hx hn
  go_enter Try.func66, Try.ntmps66
  go_wp2
  go_loopw [5, 6] (fun v i wr => Ext w wr ∧ ∃ k : Nat, k ≤ n ∧ i = .int .i64 k ∧ Hid (OwnAt wr w.heap.size v (reachL xs D k))) (fun _ i _ => n - (intOf i).toNat)
  case atStart => exact ⟨Ext.refl _, 0, Nat.zero_le _, rfl, hid (OwnAt.nil _ _)⟩
  case round =>
    obtain ⟨hE, k, hk, rfl, HO⟩ := hrel
    by_cases hlt : k < n
    · obtain ⟨b, off, rfl, hb, q1⟩ := (HX.out.ext hE).at_ HN.out hlt
      have HY := hid (reachL_yes xs D k)
      have HNO := hid (reachL_no xs D k)
      obtain ⟨y, hy⟩ : ∃ y, xs.getD k 0 = y := ⟨_, rfl⟩
      rw [hy] at q1 HY HNO
      clear hy
      have hk0 : (0 : Int) ≤ (k : Int) := by omega
      have hk1 : (k : Int) < (n : Int) := by omega
      have hrl := reachL_len xs D k
      obtain ⟨v, rfl⟩ : ∃ v, v = u5 := ⟨_, rfl⟩
      have HTV := hid (HO.out.block)
      have hz := hE.size
      by_cases hyd : y ≤ D
      · have HA := hid (HY.out hyd)
        go_wp2_with (at_builtin; refine wpList_append_intsB _ rfl rfl _ _ rfl w.heap.size v (reachL xs D k) (by rfl) (HO.out.ext (ext_alloc1 _ _)) ⟨wr.heap.size, 0, none⟩ (k : Int) (by rfl) (blk_cell (heap_alloc_new wr _) 0) (by omega) (by simp; omega) ?_; intro v' w9 hown9 hg9; have HY9 := hid hown9; have HG := hid hg9; clear hown9 hg9)
        have hE9 : Ext w w9 := ext_of_grown (hE.alloc _) HG.out (fun q hq => HTV.out q hq)
        go_roundw
        case rel => exact ⟨hE9, k + 1, by omega, by go_num, by rw [HA.out]; exact HY9⟩
        case measure => (simp [intOf] <;> omega)
      · have hd : decide (y ≤ D) = false := decide_eq_false hyd
        have HA := hid (HNO.out (by omega))
        go_wp2
        go_roundw
        case rel => exact ⟨hE, k + 1, by omega, by go_num, by rw [HA.out]; exact HO⟩
        case measure => (simp [intOf] <;> omega)
    · obtain rfl : k = n := by omega
      go_wp2
      go_ret
      exact OwnIs.mk rfl HO.out hE
end Go.Proofs.Ytndoghcglbpllaa
/- A net in which one path never opens. -/
set_option linter.unusedSimpArgs false
set_option linter.unusedVariables false
namespace Go.Proofs.Ytndoghcglbpllaa
open Go.RowKit
def shut (p : Pt) : Pt := ⟨p.frm, p.dst, p.grade, p.tl, p.th, p.sl, p.sh, []⟩
def closeAt (ps : List Pt) (b : Nat) : List Pt := ps.set b (shut (ps.getD b zeroPt))
section
variable {ps : List Pt} {b : Nat}
theorem closeAt_len : (closeAt ps b).length = ps.length := by simp [closeAt]
theorem closeAt_same (h : b < ps.length) : (closeAt ps b).getD b zeroPt = shut (ps.getD b zeroPt) := by
  unfold closeAt
  simp [List.getD, h]
theorem closeAt_other {i : Nat} (h : b ≠ i) : (closeAt ps b).getD i zeroPt = ps.getD i zeroPt := by
  unfold closeAt
  simp only [List.getD, List.getElem?_set_ne h]
theorem closeAt_shape (i : Nat) : ((closeAt ps b).getD i zeroPt).frm = (ps.getD i zeroPt).frm ∧ ((closeAt ps b).getD i zeroPt).dst = (ps.getD i zeroPt).dst ∧ ((closeAt ps b).getD i zeroPt).grade = (ps.getD i zeroPt).grade ∧ ((closeAt ps b).getD i zeroPt).tl = (ps.getD i zeroPt).tl ∧ ((closeAt ps b).getD i zeroPt).th = (ps.getD i zeroPt).th ∧ ((closeAt ps b).getD i zeroPt).sl = (ps.getD i zeroPt).sl ∧ ((closeAt ps b).getD i zeroPt).sh = (ps.getD i zeroPt).sh := by
  by_cases h : b = i
  · subst h
    by_cases hb : b < ps.length
    · rw [closeAt_same hb]
      exact ⟨rfl, rfl, rfl, rfl, rfl, rfl, rfl⟩
    · have h1 : closeAt ps b = ps := by unfold closeAt; rw [List.set_eq_of_length_le (by omega)]
      rw [h1]
      exact ⟨rfl, rfl, rfl, rfl, rfl, rfl, rfl⟩
  · rw [closeAt_other h]
    exact ⟨rfl, rfl, rfl, rfl, rfl, rfl, rfl⟩
theorem closeAt_opens (i : Nat) : ∀ o, o ∈ ((closeAt ps b).getD i zeroPt).opens → o ∈ (ps.getD i zeroPt).opens := by
  intro o ho
  by_cases h : b = i
  · subst h
    by_cases hb : b < ps.length
    · rw [closeAt_same hb] at ho
      cases ho
    · have h1 : closeAt ps b = ps := by unfold closeAt; rw [List.set_eq_of_length_le (by omega)]
      rwa [h1] at ho
  · rwa [closeAt_other h] at ho
theorem closeAt_ok {m : Nat} (hN : NOk m ps) : NOk m (closeAt ps b) := by
  refine ⟨by rw [closeAt_len]; exact hN.len, fun i hi => ?_, fun i hi => ?_, fun i hi => ?_⟩
  · rw [closeAt_len] at hi
    obtain ⟨h1, h2, h3, h4, h5, h6, h7⟩ := closeAt_shape (ps := ps) (b := b) i
    obtain ⟨t1, t2, t3, s1, s2, s3, hos⟩ := hN.ok i hi
    refine ⟨by rw [h4]; exact t1, by rw [h4, h5]; exact t2, by rw [h5]; exact t3, by rw [h6]; exact s1, by rw [h6, h7]; exact s2, by rw [h7]; exact s3, ?_⟩
    by_cases h : b = i
    · subst h
      rw [closeAt_same hi]
      exact Nat.zero_le _
    · rw [closeAt_other h]
      exact hos
  · rw [closeAt_len] at hi
    rw [(closeAt_shape i).1]
    exact hN.frm i hi
  · rw [closeAt_len] at hi
    rw [(closeAt_shape i).2.1]
    exact hN.dst i hi
theorem closed_walkIdx (g : Int) (k : Nat) : walkIdx (closeAt ps b) g k = walkIdx ps g k := by
  unfold walkIdx
  refine List.filter_congr fun i _ => ?_
  unfold okB
  rw [(closeAt_shape i).2.2.1]
theorem arrive_shut {sel : Int → Int → Int} (hs : SelGe sel) {l pl ph : Int} (ha : PaOk l pl ph) {p : Pt} (hp : PtOk p) (t : Int) : arrive sel l pl ph (shut p) t = 2881 := by
  obtain ⟨t1, t2, t3, s1, s2, s3, hos⟩ := hp
  obtain ⟨p1, p2, p3, l1, l2⟩ := ha
  have ⟨b3, b4⟩ := timeOf_bd t1 (by omega) p1 (by omega) s1 (by omega) l1 l2
  have ⟨b5, b6⟩ := timeOf_bd (t := p.th) (p := ph) (s := p.sh) (by omega) t3 (by omega) p3 (by omega) s3 l1 l2
  have h := hs _ _ b3 b5
  unfold arrive shut
  dsimp only
  have : enter 2881 [] t = 2881 := rfl
  rw [this]
  omega
variable {sel : Int → Int → Int} {g l pl ph : Int} {m : Nat}
/-- Who cannot walk a path does not miss it. -/
theorem rows_closed_no (h : ¬ (ps.getD b zeroPt).grade ≤ g) (from_ : Nat) (s : Int) : ∀ k, rows sel g l pl ph (closeAt ps b) m from_ s k = rows sel g l pl ph ps m from_ s k
  | 0 => rfl
  | k + 1 => by
    rw [rows, rows, rows_closed_no h from_ s k, closeAt_len, closed_walkIdx]
    have key : ∀ (is : List Nat) (acc low : List Int), (∀ i, i ∈ is → (ps.getD i zeroPt).grade ≤ g) → is.foldl (pmStep sel l pl ph (closeAt ps b) low) acc = is.foldl (pmStep sel l pl ph ps low) acc := by
      intro is
      induction is with
      | nil => intro acc low _; rfl
      | cons i is ih =>
        intro acc low hi
        rw [List.foldl_cons, List.foldl_cons]
        have hne : b ≠ i := fun e => h (e ▸ hi i List.mem_cons_self)
        have e1 : pmStep sel l pl ph (closeAt ps b) low acc i = pmStep sel l pl ph ps low acc i := by
          unfold pmStep
          rw [closeAt_other hne]
        rw [e1]
        exact ih _ _ (fun j hj => hi j (List.mem_cons_of_mem _ hj))
    exact key _ _ _ (fun i hi => (mem_walkIdx.1 hi).2)
/-- A route that does not use a path is one without it. -/
theorem route_closed {from_ : Int} {r : List Int} (hr : RouteOk g ps from_ r) (hno : ∀ k, k < r.length → (r.getD k 0).toNat ≠ b) (s : Int) :
    RouteOk g (closeAt ps b) from_ r ∧ (∀ k, k ≤ r.length → stopAt (closeAt ps b) from_ r k = stopAt ps from_ r k) ∧ ∀ k, k ≤ r.length → minAt sel l pl ph (closeAt ps b) s r k = minAt sel l pl ph ps s r k := by
  have hst : ∀ k, k ≤ r.length → stopAt (closeAt ps b) from_ r k = stopAt ps from_ r k := fun k hk => by
    cases k with
    | zero => rfl
    | succ k =>
      show ((closeAt ps b).getD (r.getD k 0).toNat zeroPt).dst = (ps.getD (r.getD k 0).toNat zeroPt).dst
      exact (closeAt_shape _).2.1
  refine ⟨⟨hr.len, hr.lo, fun k hk => by rw [closeAt_len]; exact hr.hi k hk, fun k hk => by rw [(closeAt_shape _).2.2.1]; exact hr.can k hk, fun k hk => by rw [(closeAt_shape _).1, hst k (by omega)]; exact hr.frm k hk⟩, hst, fun k => ?_⟩
  induction k with
  | zero => intro _; rfl
  | succ k ih =>
    intro hk
    show arrive sel l pl ph ((closeAt ps b).getD (r.getD k 0).toNat zeroPt) (minAt sel l pl ph (closeAt ps b) s r k) = arrive sel l pl ph (ps.getD (r.getD k 0).toNat zeroPt) (minAt sel l pl ph ps s r k)
    rw [ih (by omega), closeAt_other (fun e => hno k hk e.symm)]
/-- A path without which a place is not reached in time is in each route that reaches it in time. -/
theorem must_be_in (ha : PaOk l pl ph) (hm : 1 ≤ m) (hN : NOk m ps) (from_ : Nat) (hfr : from_ < m) {s : Int} (h0 : 0 ≤ s) (h1 : s ≤ 2881) {r : List Int} (hr : RouteOk g ps (from_ : Int) r) {D : Int} (hD : minAt selHi l pl ph ps s r r.length ≤ D)
    (hmust : D < (rows selHi g l pl ph (closeAt ps b) m from_ s (m - 1)).getD (stopAt ps (from_ : Int) r r.length).toNat 0) : ∃ k, k < r.length ∧ (r.getD k 0).toNat = b := by
  apply Classical.byContradiction
  intro hn
  obtain ⟨q1, q2, q3⟩ := route_closed (sel := selHi) (l := l) (pl := pl) (ph := ph) (b := b) hr (fun k hk e => hn ⟨k, hk, e⟩) s
  have h := rows_low (g := g) selHi_pos ha hm (closeAt_ok hN) from_ hfr h0 h1 q1 (minAt selHi l pl ph (closeAt ps b) s r) r.length (Nat.le_refl _) (Int.le_refl _) (fun k _ => Int.le_refl _)
  rw [q2 _ (Nat.le_refl _), q3 _ (Nat.le_refl _)] at h
  omega
/-- To leave a path out is to close it. -/
theorem ipStep_close (hs : SelGe sel) (ha : PaOk l pl ph) (hN : NOk m ps) (hb : b < ps.length) {acc : List Int} (hbd : BdRow m acc) (i : Nat) (hi : i < ps.length) : ipStep sel g l pl ph ps (b : Int) acc i = ipStep sel g l pl ph (closeAt ps b) (-1) acc i := by
  by_cases h : b = i
  · subst h
    rw [ip_skip (.inl rfl)]
    unfold ipStep
    split
    · rw [closeAt_same hb]
      have hd := hN.dst b hb
      have h3 := hbd.2 (ps.getD b zeroPt).dst.toNat (by omega)
      rw [arrive_shut hs ha (hN.ok b hb)]
      have e : (shut (ps.getD b zeroPt)).dst = (ps.getD b zeroPt).dst := rfl
      rw [e, show min (acc.getD (ps.getD b zeroPt).dst.toNat 0) 2881 = acc.getD (ps.getD b zeroPt).dst.toNat 0 by omega]
      exact (set_self _ _).symm
    · rfl
  · unfold ipStep
    rw [closeAt_other h]
    by_cases hg : (ps.getD i zeroPt).grade ≤ g
    · rw [if_pos ⟨by omega, hg⟩, if_pos ⟨by omega, hg⟩]
    · rw [if_neg (fun h => hg h.2), if_neg (fun h => hg h.2)]
theorem ipRows_close (hs : SelGe sel) (ha : PaOk l pl ph) (hN : NOk m ps) (hb : b < ps.length) (from_ : Nat) {s : Int} (h0 : 0 ≤ s) (h1 : s ≤ 2881) : ∀ k, ipRows sel g l pl ph ps (b : Int) m from_ s k = ipRows sel g l pl ph (closeAt ps b) (-1) m from_ s k
  | 0 => rfl
  | k + 1 => by
    rw [ipRows, ipRows, ← ipRows_close hs ha hN hb from_ h0 h1 k, closeAt_len]
    have hbd := ipRows_bd (g := g) (but := (b : Int)) hs ha hN (from_ := from_) h0 h1 k
    have key : ∀ j, j ≤ ps.length → ipTo sel g l pl ph ps (b : Int) (ipRows sel g l pl ph ps (b : Int) m from_ s k) j = ipTo sel g l pl ph (closeAt ps b) (-1) (ipRows sel g l pl ph ps (b : Int) m from_ s k) j := by
      intro j
      induction j with
      | zero => intro _; rfl
      | succ j ih =>
        intro hj
        rw [ipTo_succ, ipTo_succ, ← ih (by omega)]
        exact ipStep_close hs ha hN hb (ipTo_bd hs ha hN hbd j (by omega)) j (by omega)
    exact key _ (Nat.le_refl _)
/-- The table without a path. -/
theorem ipRows_but (hs : SelGe sel) (ha : PaOk l pl ph) (hm : 1 ≤ m) (hN : NOk m ps) (hb : b < ps.length) (from_ : Nat) {s : Int} (h0 : 0 ≤ s) (h1 : s ≤ 2881) : ipRows sel g l pl ph ps (b : Int) m from_ s m = rows sel g l pl ph (closeAt ps b) m from_ s (m - 1) := by
  rw [ipRows_close hs ha hN hb from_ h0 h1 m]
  exact ipRows_eq hs ha hm (closeAt_ok hN) (fun i _ => by omega) from_ h0 h1
end
end Go.Proofs.Ytndoghcglbpllaa
/- The specification's Sure. -/
set_option linter.unusedSimpArgs false
set_option linter.unusedVariables false
namespace Go.Proofs.Ytndoghcglbpllaa
open Go.RowKit
theorem phi_le {D x : Int} (hD : D ≤ 2880) (hx : x ≤ 2881) : (D < phi x) = (D < x) := by
  unfold phi
  split
  · subst_vars
    apply propext
    constructor <;> intro _ <;> omega
  · rfl
set_option maxRecDepth 100000 in
set_option maxHeartbeats 2000000 in
theorem rsure_any (mm : Nat) (hm1 : 1 ≤ mm) (hm2 : mm ≤ 12) (g l pl ph : Int) (ha : PaOk l pl ph) (A : Option Addr) (n c : Nat) (ps : List Pt) (hn : ps.length = n) (hN : NOk mm ps) (hO : ∀ i, i < ps.length → ∀ o, o ∈ (ps.getD i zeroPt).opens → 0 ≤ o.1 ∧ o.1 ≤ o.2 ∧ o.2 ≤ 2880)
    (fr : Nat) (hfr : fr < mm) (start : Int) (h0 : 0 ≤ start) (h1 : start ≤ 2880) (to_ : Nat) (hto : to_ < mm) (but : Int) (w : World) (hp : PathsAt w A ps) :
    Calls Try.prog 61 #[.agg #[.int .i64 (mm : Int), .slice A n c], .agg #[.int .i64 g, .int .i64 l, .int .i64 pl, .int .i64 ph], .int .i64 (fr : Int), .int .i64 start, .int .i64 (to_ : Int), .int .i64 but] w fun e w' =>
      e = .returned (.int .i64 (phi ((ipRows selHi g l pl ph ps but mm fr start mm).getD to_ 0))) ∧ Ext w w' := by
  have HT := hid (fun (W : World) (hE : Ext w W) => table_any true mm hm1 hm2 g l pl ph ha A n c ps hn hN hO fr hfr start h0 h1 but W (hp.ext hE))
  have hl := (ipRows_bd (g := g) (but := but) selHi_pos ha hN (from_ := fr) h0 (by omega : start ≤ 2881) mm).1
  rw [show selB true = selHi from rfl] at HT
  have hg : (((ipRows selHi g l pl ph ps but mm fr start mm).map phi).getD to_ 0) = phi ((ipRows selHi g l pl ph ps but mm fr start mm).getD to_ 0) := by
    simp only [List.getD, List.getElem?_map, List.getElem?_eq_getElem (show to_ < (ipRows selHi g l pl ph ps but mm fr start mm).length by omega), Option.map_some, Option.getD_some]
  have hl2 : ((ipRows selHi g l pl ph ps but mm fr start mm).map phi).length = mm := by rw [List.length_map]; exact hl
  revert hg hl2
  revert HT
  generalize (ipRows selHi g l pl ph ps but mm fr start mm).map phi = xs
  generalize phi ((ipRows selHi g l pl ph ps but mm fr start mm).getD to_ 0) = X
  intro HT hg hl2
  have HG := hid hg
  have HL := hid hl2
  have ht0 : (0 : Int) ≤ (to_ : Int) := by omega
  have ht1 : (to_ : Int) < (mm : Int) := by omega
  clear hp hn hN hO ha hl hg hl2
  go_enter Try.func61, Try.ntmps61
  go_wp2_with fail
  refine (HT.out _ (by (repeat' (first | with_reducible assumption | with_reducible exact Ext.refl _ | with_reducible refine Ext.alloc ?_ _ | with_reducible refine Ext.set ?_ ?_ _ | with_reducible refine Ext.drew ?_ | with_reducible refine Ext.drewN ?_ _ | with_reducible refine Ext.trans ?_ (by assumption) | (dsimp only; omega))))).mono ?_
  rintro e w2 ⟨gr, cap, rfl, row, hg, hE⟩
  have hx := row.cell (k := to_) (by have := HL.out; omega)
  have hz := row.lt
  rw [HG.out] at hx
  rw [HL.out]
  have E2 : Ext w w2 := by (repeat' (first | with_reducible assumption | with_reducible exact Ext.refl _ | with_reducible refine Ext.alloc ?_ _ | with_reducible refine Ext.set ?_ ?_ _ | with_reducible refine Ext.drew ?_ | with_reducible refine Ext.drewN ?_ _ | with_reducible refine Ext.trans ?_ (by assumption) | (dsimp only; omega)))
  clear row hg hE
  go_wp2
  go_ret
  exact ⟨rfl, E2⟩
end Go.Proofs.Ytndoghcglbpllaa
