/- Latest. -/
import Derived.Test.YtndoghcglbpllaaV09
import Derived.Test.YtndoghcglbpllaaV08
import Derived.Test.YtndoghcglbpllaaV05
import Derived.Deep.QuietTactic
import Derived.BigQuiet
set_option linter.unusedSimpArgs false
set_option linter.unusedVariables false
namespace Go.Proofs.Ytndoghcglbpllaa
open Go.RowKit

theorem ints_two_at {w : World} {b : Nat} {x y : Int} {t : TypeId} (h : w.heap[b]? = some (.cells #[.int .i64 x, .int .i64 y] t (0, 0))) : IntsAt w (some ⟨b, 0, none⟩) [x, y] := fun _ => ⟨b, 0, rfl, (Array.getElem?_eq_some_iff.1 h).1, fun k hk => by
  have hk2 : k = 0 ∨ k = 1 := by simp at hk; omega
  rcases hk2 with rfl | rfl
  · have := blk_cell h 0
    simpa using this
  · have := blk_cell h 1
    simpa using this⟩
def isLate (g l pl ph : Int) (ps : List Pt) (m fr to_ : Nat) (D : Int) (x : Nat) : Bool := decide (D < (rows selHi g l pl ph ps m fr (x : Int) (m - 1)).getD to_ 0)
theorem isLate_mono (g l pl ph : Int) (ps : List Pt) (m fr to_ : Nat) (D : Int) : ∀ x y, x ≤ y → isLate g l pl ph ps m fr to_ D x = true → isLate g l pl ph ps m fr to_ D y = true := by
  intro x y hxy
  unfold isLate
  simp only [decide_eq_true_eq]
  have := (rows_mono selHi g l pl ph ps m fr (show (x : Int) ≤ (y : Int) by omega) (m - 1)).2 to_
  omega
/-- The greatest start that is not late, or none. -/
def LatestIs (n : Nat) (p : Nat → Bool) (w : World) (e : Ending) (w' : World) : Prop :=
  (∃ r, Least n p r ∧ e = .returned (.tuple (if r = 0 then #[.int .i64 0, .int .i64 3] else #[.int .i64 ((r : Int) - 1), .int .i64 0]))) ∧ Ext w w'

set_option maxRecDepth 100000 in
set_option maxHeartbeats 2000000 in
theorem latest_ok (m g l pl ph from_ to_ D : Int) (A : Option Addr) (n c : Nat) (ps : List Pt) (hn : ps.length = n) (w : World) (hp : PathsAt w A ps) (hb : beginE m g l pl ph ps [from_, to_] [D] = 0) :
    Calls Try.prog 24 #[.agg #[.int .i64 m, .slice A n c], .agg #[.int .i64 g, .int .i64 l, .int .i64 pl, .int .i64 ph], .int .i64 from_, .int .i64 to_, .int .i64 D] w
      (LatestIs (D.toNat + 1) (isLate g l pl ph ps m.toNat from_.toNat to_.toNat D) w) := by
  obtain ⟨k1, k2, k3, k4⟩ := begin_zero hb
  obtain ⟨hm1, hm2, hN⟩ := vNet_ok k1
  have ha := vParty_ok k2
  have hfr := k3 from_ (by simp)
  have hto := k3 to_ (by simp)
  have hst := k4 D (by simp)
  obtain ⟨b, off, hA, hpp⟩ := hp.open_ hn
  obtain ⟨mm, rfl⟩ : ∃ k : Nat, m = k := ⟨m.toNat, by omega⟩
  obtain ⟨fr, rfl⟩ : ∃ k : Nat, from_ = k := ⟨from_.toNat, by omega⟩
  obtain ⟨tt, rfl⟩ : ∃ k : Nat, to_ = k := ⟨to_.toNat, by omega⟩
  obtain ⟨d, rfl⟩ : ∃ k : Nat, D = k := ⟨D.toNat, by omega⟩
  rw [Int.toNat_natCast] at hN
  simp only [Int.toNat_natCast]
  have HB := hid (fun (b1 b2 : Nat) (W : World) (hW : Ext w W) (h1 : IntsAt W (some ⟨b1, 0, none⟩) [(fr : Int), (tt : Int)]) (h2 : IntsAt W (some ⟨b2, 0, none⟩) [(d : Int)]) => begin_ok mm g l pl ph A (some ⟨b1, 0, none⟩) (some ⟨b2, 0, none⟩) n c 2 2 1 1 ps [(fr : Int), (tt : Int)] [(d : Int)] hn rfl rfl (by omega) (by omega) W (hp.ext hW) h1 h2 hb)
  have HS := hid (fun (q0 q1 q2 q3 : Nat) (W : World) (hE : Ext w W) (b0 : W.heap[q0]? = some (.cells (wbox (mm : Int) g l pl ph A n c) 70 (0, 0))) (b1 : W.heap[q1]? = some (.cells #[.int .i64 (fr : Int)] 3 (0, 0))) (b2 : W.heap[q2]? = some (.cells #[.int .i64 (tt : Int)] 3 (0, 0))) (b3 : W.heap[q3]? = some (.cells #[.int .i64 (d : Int)] 3 (0, 0))) =>
    search_any q0 q1 q2 q3 (d + 1) (by omega) (isLate g l pl ph ps mm fr tt d) (isLate_mono g l pl ph ps mm fr tt d) W (fun x W' hx hE' =>
      late_any g l pl ph n c b off ps hn A mm (by omega) (by omega) hN ha fr tt (by omega) (by omega) d x (by omega) (by omega) W' (fun h0 => ⟨(hA h0).1, Nat.lt_of_lt_of_le (hA h0).2 (hE.trans hE').size⟩)
        (fun k hk => by obtain ⟨A', c', h⟩ := hpp k hk; exact ⟨A', c', h.ext (hA (by omega)).2 (hE.trans hE')⟩) q0 q1 q2 q3 (blk_ext b0 hE') (blk_ext b1 hE') (blk_ext b2 hE') (blk_ext b3 hE')))
  revert HS
  generalize isLate g l pl ph ps mm fr tt d = pp
  intro HS
  have hd0 : (0 : Int) ≤ (d : Int) := hst.1
  have hd1 : (d : Int) ≤ 2880 := hst.2
  clear hp hn hb k1 k2 k3 k4 hN ha hfr hto hst hA hpp
  have HD := hid (show (d : Int) + 1 = ((d + 1 : Nat) : Int) by omega)
  go_enter Try.func24, Try.ntmps24
  go_wp2_with fail
  have t0 := three_blocks ((w.alloc (.cells #[.int .i64 (mm : Int), .slice A n c] 24)).alloc (.cells #[.int .i64 g, .int .i64 l, .int .i64 pl, .int .i64 ph] 28)) (.cells #[.int .i64 (fr : Int)] 3) (.cells #[.int .i64 (tt : Int)] 3) (.cells #[.int .i64 (d : Int)] 3)
  have t1 := two_blocks (((((w.alloc (.cells #[.int .i64 (mm : Int), .slice A n c] 24)).alloc (.cells #[.int .i64 g, .int .i64 l, .int .i64 pl, .int .i64 ph] 28)).alloc (.cells #[.int .i64 (fr : Int)] 3)).alloc (.cells #[.int .i64 (tt : Int)] 3)).alloc (.cells #[.int .i64 (d : Int)] 3)) (.cells #[.int .i64 (fr : Int), .int .i64 (tt : Int)] 3) (.cells #[.int .i64 (d : Int)] 3)
  simp only [World.size_alloc] at t0 t1
  refine (HB.out _ _ _ (by (repeat' (first | with_reducible assumption | with_reducible exact Ext.refl _ | with_reducible refine Ext.alloc ?_ _ | with_reducible refine Ext.set ?_ ?_ _ | with_reducible refine Ext.drew ?_ | with_reducible refine Ext.drewN ?_ _ | with_reducible refine Ext.trans ?_ (by assumption) | (dsimp only; omega)))) (ints_two_at t1.1) (ints_one_at t1.2.1)).mono ?_
  clear t1
  rintro e w1 ⟨rfl, hE⟩
  have EW : Ext w w1 := by (repeat' (first | with_reducible assumption | with_reducible exact Ext.refl _ | with_reducible refine Ext.alloc ?_ _ | with_reducible refine Ext.set ?_ ?_ _ | with_reducible refine Ext.drew ?_ | with_reducible refine Ext.drewN ?_ _ | with_reducible refine Ext.trans ?_ (by assumption) | (dsimp only; omega)))
  have B1 := hid (blk_ext t0.1 (Ext.trans (by (repeat' (first | with_reducible assumption | with_reducible exact Ext.refl _ | with_reducible refine Ext.alloc ?_ _ | with_reducible refine Ext.set ?_ ?_ _ | with_reducible refine Ext.drew ?_ | with_reducible refine Ext.drewN ?_ _ | with_reducible refine Ext.trans ?_ (by assumption) | (dsimp only; omega)))) hE))
  have B2 := hid (blk_ext t0.2.1 (Ext.trans (by (repeat' (first | with_reducible assumption | with_reducible exact Ext.refl _ | with_reducible refine Ext.alloc ?_ _ | with_reducible refine Ext.set ?_ ?_ _ | with_reducible refine Ext.drew ?_ | with_reducible refine Ext.drewN ?_ _ | with_reducible refine Ext.trans ?_ (by assumption) | (dsimp only; omega)))) hE))
  have B3 := hid (blk_ext t0.2.2 (Ext.trans (by (repeat' (first | with_reducible assumption | with_reducible exact Ext.refl _ | with_reducible refine Ext.alloc ?_ _ | with_reducible refine Ext.set ?_ ?_ _ | with_reducible refine Ext.drew ?_ | with_reducible refine Ext.drewN ?_ _ | with_reducible refine Ext.trans ?_ (by assumption) | (dsimp only; omega)))) hE))
  have q3 := blk_cell B3.out 0
  have z3 : w.heap.size + 1 + 1 + 1 + 1 < w1.heap.size := (Array.getElem?_eq_some_iff.1 B3.out).1
  simp only [List.getElem?_toArray, List.getElem?_cons_zero] at q3
  clear hE HB t0
  go_wp2_with fail
  rw [HD.out]
  refine (HS.out _ _ _ _ _ ?e1 ?e2 ?e3 ?e4 ?e5).mono ?_
  case e1 => (repeat' (first | with_reducible assumption | with_reducible exact Ext.refl _ | with_reducible refine Ext.alloc ?_ _ | with_reducible refine Ext.set ?_ ?_ _ | with_reducible refine Ext.drew ?_ | with_reducible refine Ext.drewN ?_ _ | with_reducible refine Ext.trans ?_ (by assumption) | (dsimp only; omega)))
  case e2 => exact heap_alloc_new w1 _
  case e3 => exact blk_ext B1.out (ext_alloc1 _ _)
  case e4 => exact blk_ext B2.out (ext_alloc1 _ _)
  case e5 => exact blk_ext B3.out (ext_alloc1 _ _)
  rintro e w2 ⟨⟨r, rfl, hL⟩, hE2⟩
  have HL := hid hL
  have hr1 : r ≤ d + 1 := hL.1
  have hE3 : Ext w w2 := by (repeat' (first | with_reducible assumption | with_reducible exact Ext.refl _ | with_reducible refine Ext.alloc ?_ _ | with_reducible refine Ext.set ?_ ?_ _ | with_reducible refine Ext.drew ?_ | with_reducible refine Ext.drewN ?_ _ | with_reducible refine Ext.trans ?_ (by assumption) | (dsimp only; omega)))
  clear hL q3 z3 B1 B2 B3 hE2
  by_cases hr : r = 0
  · have HR := hid hr
    subst hr
    go_wp2
    go_ret2
    exact ⟨⟨0, HL.out, rfl⟩, hE3⟩
  · have hr0 : (1 : Int) ≤ (r : Int) := by omega
    have HR := hid hr
    clear hr
    go_wp2
    go_ret2
    exact ⟨⟨r, HL.out, by rw [if_neg HR.out]; rfl⟩, hE3⟩
end Go.Proofs.Ytndoghcglbpllaa
/- No arrival is before the start. -/
set_option linter.unusedSimpArgs false
set_option linter.unusedVariables false
namespace Go.Proofs.Ytndoghcglbpllaa
open Go.RowKit
theorem enter_ge {t : Int} (os : List (Int × Int)) : ∀ {f : Int}, t ≤ f → t ≤ enter f os t := by
  unfold enter
  induction os with
  | nil => intro f h; exact h
  | cons o os ih =>
    intro f h
    rw [List.foldl_cons]
    refine ih ?_
    unfold enterStep
    split <;> omega
theorem arrive_ge {l pl ph : Int} (ha : PaOk l pl ph) {p : Pt} (hp : PtOk p) {t : Int} (ht : t ≤ 2881) : t ≤ arrive selHi l pl ph p t := by
  obtain ⟨t1, t2, t3, s1, s2, s3, hos⟩ := hp
  obtain ⟨p1, p2, p3, l1, l2⟩ := ha
  have h1 := enter_ge p.opens ht
  have ⟨b3, b4⟩ := timeOf_bd (t := p.th) (p := ph) (s := p.sh) (by omega) t3 (by omega) p3 (by omega) s3 l1 l2
  unfold arrive selHi
  omega
def GeRow (m : Nat) (s : Int) (xs : List Int) : Prop := xs.length = m ∧ ∀ k, k < m → s ≤ xs.getD k 0
theorem ge_set {m : Nat} {s : Int} {xs : List Int} (h : GeRow m s xs) (i : Nat) {u : Int} (hu : s ≤ u) : GeRow m s (xs.set i u) :=
  ⟨by rw [List.length_set]; exact h.1, fun k hk => by
    rw [getD_set]
    split
    · exact hu
    · exact h.2 k hk⟩
theorem rows_ge {g l pl ph : Int} (ha : PaOk l pl ph) {m : Nat} {ps : List Pt} (hN : NOk m ps) {from_ : Nat} {start : Int} (h0 : 0 ≤ start) (h1 : start ≤ 2881) : ∀ k, GeRow m start (rows selHi g l pl ph ps m from_ start k)
  | 0 => ge_set ⟨by simp, fun k hk => by simp [List.getD, hk]; omega⟩ _ (Int.le_refl _)
  | k + 1 => by
    have ih := rows_ge (g := g) ha hN (from_ := from_) h0 h1 k
    have hbd := rows_bd selHi_pos (g := g) ha hN (from_ := from_) h0 h1 k
    unfold rows pmFold
    revert ih hbd
    generalize rows selHi g l pl ph ps m from_ start k = low
    intro ih hbd
    suffices h : ∀ (is : List Nat), (∀ i ∈ is, i < ps.length) → ∀ acc : List Int, GeRow m start acc → GeRow m start (is.foldl (pmStep selHi l pl ph ps low) acc) from h _ (fun _ h => walkIdx_mem h) low ih
    intro is
    induction is with
    | nil => intro _ acc h; exact h
    | cons i is ih2 =>
      intro hi acc h
      rw [List.foldl_cons]
      refine ih2 (fun j hj => hi j (List.mem_cons_of_mem _ hj)) _ ?_
      have hil := hi i List.mem_cons_self
      have hd := hN.dst i hil
      have hf := hN.frm i hil
      have h1 := h.2 (ps.getD i zeroPt).dst.toNat (by omega)
      have h2 := ih.2 (ps.getD i zeroPt).frm.toNat (by omega)
      have h2' := hbd.2 (ps.getD i zeroPt).frm.toNat (by omega)
      have h3 := arrive_ge ha (hN.ok i hil) h2'.2
      exact ge_set h _ (by omega)
end Go.Proofs.Ytndoghcglbpllaa
/- sameInts. -/
set_option linter.unusedSimpArgs false
set_option linter.unusedVariables false
namespace Go.Proofs.Ytndoghcglbpllaa
open Go.RowKit
theorem same_of {xs ys : List Int} (hl : xs.length = ys.length) (h : ∀ j, j < xs.length → xs.getD j 0 = ys.getD j 0) : xs = ys := by
  refine List.ext_getElem hl fun i h1 h2 => ?_
  have := h i h1
  simpa [List.getD, List.getElem?_eq_getElem h1, List.getElem?_eq_getElem h2] using this

set_option maxHeartbeats 1000000 in
theorem sameInts_any (A B : Option Addr) (n1 n2 c1 c2 : Nat) (xs ys : List Int) (hn1 : xs.length = n1) (hn2 : ys.length = n2) (hm : n1 ≤ 1000) (hm2 : n2 ≤ 1000) (w : World) (hx : IntsAt w A xs) (hy : IntsAt w B ys) :
    Calls Try.prog 21 #[.slice A n1 c1, .slice B n2 c2] w fun e w' => e = .returned (.bool (decide (xs = ys))) ∧ Ext w w' := by
  have HX := hid hx
  have HY := hid hy
  have HN1 := hid hn1
  have HN2 := hid hn2
  clear hx hy hn1 hn2
  by_cases hl : n1 = n2
  · subst hl
    go_enter Try.func21, Try.ntmps21
    go_wp2
    go_loopw [5] (fun i wr => Ext w wr ∧ ∃ k : Nat, k ≤ n1 ∧ i = .int .i64 k ∧ Hid (∀ j, j < k → xs.getD j 0 = ys.getD j 0)) (fun i _ => n1 - (intOf i).toNat)
    case atStart => exact ⟨by (repeat' (first | with_reducible assumption | with_reducible exact Ext.refl _ | with_reducible refine Ext.alloc ?_ _ | with_reducible refine Ext.set ?_ ?_ _ | with_reducible refine Ext.drew ?_ | with_reducible refine Ext.drewN ?_ _ | with_reducible refine Ext.trans ?_ (by assumption) | (dsimp only; omega))), 0, Nat.zero_le _, rfl, hid (fun j hj => by omega)⟩
    case round =>
      obtain ⟨hE, k, hk, rfl, HA⟩ := hrel
      by_cases hlt : k < n1
      · obtain ⟨b, off, rfl, hb, hc⟩ := (HX.out.ext hE) (by intro e; have := HN1.out; rw [e] at this; simp at this; omega)
        obtain ⟨b', off', rfl, hb', hc'⟩ := (HY.out.ext hE) (by intro e; have := HN2.out; rw [e] at this; simp at this; omega)
        have q1 := hc k (by have := HN1.out; omega)
        have q2 := hc' k (by have := HN2.out; omega)
        have hk0 : (0 : Int) ≤ (k : Int) := by omega
        have hk1 : (k : Int) < (n1 : Int) := by omega
        clear hc hc'
        obtain ⟨u, hu⟩ : ∃ u, xs.getD k 0 = u := ⟨_, rfl⟩
        obtain ⟨v, hv⟩ : ∃ v, ys.getD k 0 = v := ⟨_, rfl⟩
        rw [hu] at q1
        rw [hv] at q2
        have HU := hid hu
        have HV := hid hv
        clear hu hv
        by_cases huv : u = v
        · subst huv
          have HA2 := hid (show ∀ j, j < k + 1 → xs.getD j 0 = ys.getD j 0 from fun j hj => by
            rcases Nat.lt_succ_iff_lt_or_eq.1 hj with h | rfl
            · exact HA.out j h
            · exact HU.out.trans HV.out.symm)
          go_wp2_with fail
          go_quiet (fail)
          go_wp2
          go_roundw
          case rel => exact ⟨hE.drewN _, k + 1, by omega, by go_num, HA2⟩
          case measure => simp [intOf]; omega
        · have hd : decide (u = v) = false := decide_eq_false huv
          have HD := hid (show xs ≠ ys by rintro rfl; exact huv (HU.out.symm.trans HV.out))
          go_wp2_with fail
          go_quiet (fail)
          go_wp2
          go_ret
          exact ⟨ret_bool (by rw [decide_eq_false HD.out]), hE.drewN _⟩
      · have HD := hid (same_of (HN1.out.trans HN2.out.symm) (fun j hj => HA.out j (by have := HN1.out; omega)))
        go_wp2
        go_ret
        exact ⟨ret_bool (by rw [decide_eq_true HD.out]), by (repeat' (first | with_reducible assumption | with_reducible exact Ext.refl _ | with_reducible refine Ext.alloc ?_ _ | with_reducible refine Ext.set ?_ ?_ _ | with_reducible refine Ext.drew ?_ | with_reducible refine Ext.drewN ?_ _ | with_reducible refine Ext.trans ?_ (by assumption) | (dsimp only; omega)))⟩
  · have HD := hid (show xs ≠ ys by rintro rfl; exact hl (HN1.out.symm.trans HN2.out))
    have hli : ¬ ((n1 : Int) = (n2 : Int)) := by omega
    go_enter Try.func21, Try.ntmps21
    go_wp2
    go_ret
    exact ⟨ret_bool (by rw [decide_eq_false HD.out]), by (repeat' (first | with_reducible assumption | with_reducible exact Ext.refl _ | with_reducible refine Ext.alloc ?_ _ | with_reducible refine Ext.set ?_ ?_ _ | with_reducible refine Ext.drew ?_ | with_reducible refine Ext.drewN ?_ _ | with_reducible refine Ext.trans ?_ (by assumption) | (dsimp only; omega)))⟩
end Go.Proofs.Ytndoghcglbpllaa
/- The lowest arrivals do not change after as many rounds as there are places, less one; no route is quicker. -/
set_option linter.unusedSimpArgs false
set_option linter.unusedVariables false
namespace Go.Proofs.Ytndoghcglbpllaa
open Go.RowKit
theorem PathsAt.at_ {w : World} {A : Option Addr} {ps : List Pt} {n k : Nat} (hp : PathsAt w A ps) (hn : ps.length = n) (hk : k < n) : ∃ b off A' c', A = some ⟨b, off, none⟩ ∧ b < w.heap.size ∧ PtAt w b (off + k * 8) (ps.getD k zeroPt) A' c' := by
  obtain ⟨b, off, h1, h2, h3⟩ := hp (by rintro rfl; simp at hn; omega)
  obtain ⟨A', c', h⟩ := h3 k (by omega)
  exact ⟨b, off, A', c', h1, h2, h⟩
theorem IntsAt.at_ {w : World} {A : Option Addr} {xs : List Int} {n k : Nat} (h : IntsAt w A xs) (hn : xs.length = n) (hk : k < n) : ∃ b off, A = some ⟨b, off, none⟩ ∧ b < w.heap.size ∧ w.cell? ⟨b, off + k, none⟩ = some (.int .i64 (xs.getD k 0)) := by
  obtain ⟨b, off, h1, h2, h3⟩ := h (by rintro rfl; simp at hn; omega)
  exact ⟨b, off, h1, h2, h3 k (by omega)⟩
/-- Nobody arrives before the start of a path. -/
def SelGe (sel : Int → Int → Int) : Prop := ∀ a b, 1 ≤ a → 1 ≤ b → 0 ≤ sel a b
theorem arrive_geS {sel : Int → Int → Int} (hs : SelGe sel) {l pl ph : Int} (ha : PaOk l pl ph) {p : Pt} (hp : PtOk p) {t : Int} (ht : t ≤ 2881) : t ≤ arrive sel l pl ph p t := by
  obtain ⟨t1, t2, t3, s1, s2, s3, hos⟩ := hp
  obtain ⟨p1, p2, p3, l1, l2⟩ := ha
  have ⟨b3, b4⟩ := timeOf_bd t1 (by omega) p1 (by omega) s1 (by omega) l1 l2
  have ⟨b5, b6⟩ := timeOf_bd (t := p.th) (p := ph) (s := p.sh) (by omega) t3 (by omega) p3 (by omega) s3 l1 l2
  have h := hs _ _ b3 b5
  have := enter_ge p.opens (f := 2881) ht
  unfold arrive
  omega
section
variable {sel : Int → Int → Int} {g l pl ph : Int} {ps : List Pt} {m : Nat}
theorem pmStep_getD (low acc : List Int) (i v : Nat) : (pmStep sel l pl ph ps low acc i).getD v 0 = if (ps.getD i zeroPt).dst.toNat = v ∧ v < acc.length then min (acc.getD v 0) (arrive sel l pl ph (ps.getD i zeroPt) (low.getD (ps.getD i zeroPt).frm.toNat 0)) else acc.getD v 0 := by
  unfold pmStep
  rw [getD_set]
  split
  · rename_i h
    rw [h.1]
  · rfl
theorem pmStep_le (low acc : List Int) (i v : Nat) : (pmStep sel l pl ph ps low acc i).getD v 0 ≤ acc.getD v 0 := by
  rw [pmStep_getD]
  split <;> omega
theorem foldl_le (low : List Int) (is : List Nat) : ∀ (acc : List Int) (v : Nat), (is.foldl (pmStep sel l pl ph ps low) acc).getD v 0 ≤ acc.getD v 0 := by
  induction is with
  | nil => intro acc v; exact Int.le_refl _
  | cons i is ih =>
    intro acc v
    rw [List.foldl_cons]
    exact Int.le_trans (ih _ v) (pmStep_le low acc i v)
theorem foldl_len (low : List Int) (is : List Nat) : ∀ (acc : List Int), (is.foldl (pmStep sel l pl ph ps low) acc).length = acc.length := by
  induction is with
  | nil => intro acc; rfl
  | cons i is ih => intro acc; rw [List.foldl_cons, ih]; simp [pmStep]
theorem foldl_hit (low : List Int) (is : List Nat) : ∀ (acc : List Int) (i : Nat), i ∈ is → (ps.getD i zeroPt).dst.toNat < acc.length → (is.foldl (pmStep sel l pl ph ps low) acc).getD (ps.getD i zeroPt).dst.toNat 0 ≤ arrive sel l pl ph (ps.getD i zeroPt) (low.getD (ps.getD i zeroPt).frm.toNat 0) := by
  induction is with
  | nil => intro acc i h; cases h
  | cons j is ih =>
    intro acc i hi hl
    rw [List.foldl_cons]
    rcases List.mem_cons.1 hi with rfl | hi
    · refine Int.le_trans (foldl_le low is _ _) ?_
      rw [pmStep_getD, if_pos ⟨rfl, hl⟩]
      omega
    · exact ih _ i hi (by simpa [pmStep] using hl)
theorem foldl_got (low : List Int) (is : List Nat) : ∀ (acc : List Int) (v : Nat), (is.foldl (pmStep sel l pl ph ps low) acc).getD v 0 = acc.getD v 0 ∨
    ∃ i, i ∈ is ∧ (ps.getD i zeroPt).dst.toNat = v ∧ (is.foldl (pmStep sel l pl ph ps low) acc).getD v 0 = arrive sel l pl ph (ps.getD i zeroPt) (low.getD (ps.getD i zeroPt).frm.toNat 0) := by
  induction is with
  | nil => intro acc v; exact .inl rfl
  | cons j is ih =>
    intro acc v
    rw [List.foldl_cons]
    rcases ih (pmStep sel l pl ph ps low acc j) v with h | ⟨i, hi, hd, h⟩
    · rw [h, pmStep_getD]
      split
      · rename_i hc
        by_cases hm : acc.getD v 0 ≤ arrive sel l pl ph (ps.getD j zeroPt) (low.getD (ps.getD j zeroPt).frm.toNat 0)
        · left; omega
        · right
          exact ⟨j, List.mem_cons_self, hc.1, by omega⟩
      · exact .inl rfl
    · exact .inr ⟨i, List.mem_cons_of_mem _ hi, hd, h⟩
theorem mem_walkIdx {i n : Nat} : i ∈ walkIdx ps g n ↔ i < n ∧ (ps.getD i zeroPt).grade ≤ g := by
  unfold walkIdx okB
  simp [List.mem_filter]
/-- One round more. -/
theorem rows_le (from_ : Nat) (s : Int) (k v : Nat) : (rows sel g l pl ph ps m from_ s (k + 1)).getD v 0 ≤ (rows sel g l pl ph ps m from_ s k).getD v 0 := foldl_le _ _ _ v
theorem rows_anti (from_ : Nat) (s : Int) (v : Nat) {k k' : Nat} (h : k ≤ k') : (rows sel g l pl ph ps m from_ s k').getD v 0 ≤ (rows sel g l pl ph ps m from_ s k).getD v 0 := by
  induction k' with
  | zero => obtain rfl : k = 0 := by omega
            exact Int.le_refl _
  | succ k' ih =>
    by_cases hk : k ≤ k'
    · exact Int.le_trans (rows_le from_ s k' v) (ih hk)
    · obtain rfl : k = k' + 1 := by omega
      exact Int.le_refl _
theorem rows_len (from_ : Nat) (s : Int) : ∀ k, (rows sel g l pl ph ps m from_ s k).length = m
  | 0 => by simp [rows]
  | k + 1 => by
    rw [rows]
    unfold pmFold
    rw [foldl_len]
    exact rows_len from_ s k
theorem rows_hit (hN : NOk m ps) (from_ : Nat) (s : Int) (k : Nat) {i : Nat} (hi : i < ps.length) (hg : (ps.getD i zeroPt).grade ≤ g) :
    (rows sel g l pl ph ps m from_ s (k + 1)).getD (ps.getD i zeroPt).dst.toNat 0 ≤ arrive sel l pl ph (ps.getD i zeroPt) ((rows sel g l pl ph ps m from_ s k).getD (ps.getD i zeroPt).frm.toNat 0) := by
  refine foldl_hit _ _ _ i (mem_walkIdx.2 ⟨hi, hg⟩) ?_
  rw [rows_len]
  have := hN.dst i hi
  omega
theorem rows_got (from_ : Nat) (s : Int) (k v : Nat) : (rows sel g l pl ph ps m from_ s (k + 1)).getD v 0 = (rows sel g l pl ph ps m from_ s k).getD v 0 ∨
    ∃ i, i < ps.length ∧ (ps.getD i zeroPt).grade ≤ g ∧ (ps.getD i zeroPt).dst.toNat = v ∧ (rows sel g l pl ph ps m from_ s (k + 1)).getD v 0 = arrive sel l pl ph (ps.getD i zeroPt) ((rows sel g l pl ph ps m from_ s k).getD (ps.getD i zeroPt).frm.toNat 0) := by
  rcases foldl_got (sel := sel) (l := l) (pl := pl) (ph := ph) (ps := ps) (rows sel g l pl ph ps m from_ s k) (walkIdx ps g ps.length) (rows sel g l pl ph ps m from_ s k) v with h | ⟨i, hi, hd, h⟩
  · exact .inl h
  · exact .inr ⟨i, (mem_walkIdx.1 hi).1, (mem_walkIdx.1 hi).2, hd, h⟩
theorem rows_zero (from_ : Nat) (s : Int) (v : Nat) (hv : v < m) : (rows sel g l pl ph ps m from_ s 0).getD v 0 = if from_ = v then s else 2881 := by
  rw [rows, getD_set]
  simp only [List.length_replicate]
  by_cases h : from_ = v
  · simp [h, hv]
  · rw [if_neg (by simp [h]), if_neg h]
    simp [List.getD, hv]

theorem pigeon : ∀ (m : Nat) (xs : List Nat), xs.Nodup → (∀ x, x ∈ xs → x < m) → xs.length ≤ m
  | 0, xs, _, h => by
    match xs with
    | [] => simp
    | x :: _ => exact absurd (h x List.mem_cons_self) (by omega)
  | m + 1, xs, hn, h => by
    have h1 := pigeon m (xs.erase m) (hn.erase m) (fun x hx => by
      have hx2 := (hn.mem_erase_iff).1 hx
      have := h x hx2.2
      have := hx2.1
      omega)
    rw [List.length_erase] at h1
    split at h1 <;> omega

theorem fresh (hs : SelGe sel) (ha : PaOk l pl ph) (hN : NOk m ps) (from_ : Nat) {s : Int} (h0 : 0 ≤ s) (h1 : s ≤ 2881) : ∀ (k v : Nat), v < m →
    (rows sel g l pl ph ps m from_ s (k + 1)).getD v 0 < (rows sel g l pl ph ps m from_ s k).getD v 0 →
    ∃ xs : List Nat, xs.length = k + 2 ∧ xs.Nodup ∧ (∀ x, x ∈ xs → x < m) ∧ ∀ x, x ∈ xs → (rows sel g l pl ph ps m from_ s (k + 1)).getD x 0 ≤ (rows sel g l pl ph ps m from_ s (k + 1)).getD v 0 := by
  have hb := rows_bd (g := g) hs ha hN (from_ := from_) h0 h1
  intro k
  induction k with
  | zero =>
    intro v hv hlt
    rcases rows_got (sel := sel) (g := g) (l := l) (pl := pl) (ph := ph) (ps := ps) (m := m) from_ s 0 v with h | ⟨i, hi, hg, hd, h⟩
    · omega
    · have hf := hN.frm i hi
      have hge := arrive_geS hs ha (hN.ok i hi) ((hb 0).2 (ps.getD i zeroPt).frm.toNat (by omega)).2
      rw [← h] at hge
      have hl := rows_le (sel := sel) (g := g) (l := l) (pl := pl) (ph := ph) (ps := ps) (m := m) from_ s 0 (ps.getD i zeroPt).frm.toNat
      refine ⟨[v, (ps.getD i zeroPt).frm.toNat], rfl, ?_, ?_, ?_⟩
      · simp only [List.nodup_cons, List.mem_cons, List.not_mem_nil, or_false, not_false_eq_true, List.nodup_nil, and_true]
        intro e
        rw [← e] at hge
        omega
      · intro x hx
        rcases List.mem_cons.1 hx with rfl | hx
        · exact hv
        · rw [List.mem_singleton.1 hx]
          omega
      · intro x hx
        rcases List.mem_cons.1 hx with rfl | hx
        · exact Int.le_refl _
        · rw [List.mem_singleton.1 hx]
          omega
  | succ k ih =>
    intro v hv hlt
    rcases rows_got (sel := sel) (g := g) (l := l) (pl := pl) (ph := ph) (ps := ps) (m := m) from_ s (k + 1) v with h | ⟨i, hi, hg, hd, h⟩
    · omega
    · have hf := hN.frm i hi
      have hge := arrive_geS hs ha (hN.ok i hi) ((hb (k + 1)).2 (ps.getD i zeroPt).frm.toNat (by omega)).2
      rw [← h] at hge
      have hit := rows_hit (sel := sel) (l := l) (pl := pl) (ph := ph) hN from_ s k hi hg
      rw [hd] at hit
      have hu : (rows sel g l pl ph ps m from_ s (k + 1)).getD (ps.getD i zeroPt).frm.toNat 0 < (rows sel g l pl ph ps m from_ s k).getD (ps.getD i zeroPt).frm.toNat 0 := by
        apply Classical.byContradiction
        intro hn
        have := arrive_mono sel l pl ph (ps.getD i zeroPt) (Int.not_lt.1 hn)
        omega
      obtain ⟨ys, hyl, hyn, hym, hyv⟩ := ih (ps.getD i zeroPt).frm.toNat (by omega) hu
      refine ⟨v :: ys, by simp [hyl], ?_, ?_, ?_⟩
      · refine List.nodup_cons.2 ⟨fun hmem => ?_, hyn⟩
        have := hyv v hmem
        omega
      · intro x hx
        rcases List.mem_cons.1 hx with rfl | hx
        · exact hv
        · exact hym x hx
      · intro x hx
        rcases List.mem_cons.1 hx with rfl | hx
        · exact Int.le_refl _
        · have := hyv x hx
          have := rows_le (sel := sel) (g := g) (l := l) (pl := pl) (ph := ph) (ps := ps) (m := m) from_ s (k + 1) x
          omega
/-- One round more than enough changes nothing. -/
theorem rows_stable (hs : SelGe sel) (ha : PaOk l pl ph) (hm : 1 ≤ m) (hN : NOk m ps) (from_ : Nat) {s : Int} (h0 : 0 ≤ s) (h1 : s ≤ 2881) (v : Nat) (hv : v < m) :
    (rows sel g l pl ph ps m from_ s (m - 1)).getD v 0 ≤ (rows sel g l pl ph ps m from_ s m).getD v 0 := by
  apply Classical.byContradiction
  intro hn
  have he : m - 1 + 1 = m := by omega
  have := fresh (g := g) hs ha hN from_ h0 h1 (m - 1) v hv (by rw [he]; omega)
  obtain ⟨xs, hl, hnd, hx, _⟩ := this
  have := pigeon m xs hnd hx
  omega
/-- The lowest arrivals are not changed by any path. -/
theorem rows_fix (hs : SelGe sel) (ha : PaOk l pl ph) (hm : 1 ≤ m) (hN : NOk m ps) (from_ : Nat) {s : Int} (h0 : 0 ≤ s) (h1 : s ≤ 2881) {i : Nat} (hi : i < ps.length) (hg : (ps.getD i zeroPt).grade ≤ g) :
    (rows sel g l pl ph ps m from_ s (m - 1)).getD (ps.getD i zeroPt).dst.toNat 0 ≤ arrive sel l pl ph (ps.getD i zeroPt) ((rows sel g l pl ph ps m from_ s (m - 1)).getD (ps.getD i zeroPt).frm.toNat 0) := by
  have hd := hN.dst i hi
  have h2 := rows_stable (g := g) hs ha hm hN from_ h0 h1 (ps.getD i zeroPt).dst.toNat (by omega)
  have h3 := rows_hit (sel := sel) (l := l) (pl := pl) (ph := ph) hN from_ s (m - 1) hi hg
  rw [show m - 1 + 1 = m by omega] at h3
  omega
end

/-- Where one is after the first paths of a route. -/
def stopAt (ps : List Pt) (from_ : Int) (r : List Int) : Nat → Int
  | 0 => from_
  | k + 1 => (ps.getD (r.getD k 0).toNat zeroPt).dst
/-- When one is there. -/
def minAt (sel : Int → Int → Int) (l pl ph : Int) (ps : List Pt) (start : Int) (r : List Int) : Nat → Int
  | 0 => start
  | k + 1 => arrive sel l pl ph (ps.getD (r.getD k 0).toNat zeroPt) (minAt sel l pl ph ps start r k)
/-- A route that the party can walk. -/
structure RouteOk (g : Int) (ps : List Pt) (from_ : Int) (r : List Int) : Prop where
  len : r.length ≤ 30
  lo : ∀ k, k < r.length → 0 ≤ r.getD k 0
  hi : ∀ k, k < r.length → r.getD k 0 < ps.length
  can : ∀ k, k < r.length → (ps.getD (r.getD k 0).toNat zeroPt).grade ≤ g
  frm : ∀ k, k < r.length → (ps.getD (r.getD k 0).toNat zeroPt).frm = stopAt ps from_ r k
theorem RouteOk.stop {g : Int} {ps : List Pt} {from_ : Int} {r : List Int} {m : Nat} (h : RouteOk g ps from_ r) (hN : NOk m ps) (h0 : 0 ≤ from_) (h1 : from_ < m) (k : Nat) (hk : k ≤ r.length) : 0 ≤ stopAt ps from_ r k ∧ stopAt ps from_ r k < m := by
  cases k with
  | zero => exact ⟨h0, h1⟩
  | succ k => 
    have := h.lo k hk
    have := h.hi k hk
    exact hN.dst _ (by omega)
theorem minAt_ge {l pl ph : Int} {ps : List Pt} {m : Nat} {sel : Int → Int → Int} (hs : SelGe sel) (ha : PaOk l pl ph) (hN : NOk m ps) {s : Int} (h0 : 0 ≤ s) (h1 : s ≤ 2881) {r : List Int} (hr : ∀ j, j < r.length → 0 ≤ r.getD j 0 ∧ r.getD j 0 < ps.length) : ∀ k, k ≤ r.length → 0 ≤ minAt sel l pl ph ps s r k ∧ minAt sel l pl ph ps s r k ≤ 2881
  | 0, _ => ⟨h0, h1⟩
  | k + 1, hk => by
    have ih := minAt_ge hs ha hN h0 h1 hr k (by omega)
    have := hr k (by omega)
    exact arrive_bd hs ha (hN.ok _ (by omega)) ih.1
/-- No walk along a route is quicker. -/
theorem rows_low {sel : Int → Int → Int} {g l pl ph : Int} {ps : List Pt} {m : Nat} (hs : SelGe sel) (ha : PaOk l pl ph) (hm : 1 ≤ m) (hN : NOk m ps) (from_ : Nat) (hfr : from_ < m) {s : Int} (h0 : 0 ≤ s) (h1 : s ≤ 2881) {r : List Int} (hr : RouteOk g ps from_ r) (a : Nat → Int) (K : Nat) (hK : K ≤ r.length)
    (ha0 : s ≤ a 0) (hstep : ∀ k, k < K → arrive sel l pl ph (ps.getD (r.getD k 0).toNat zeroPt) (a k) ≤ a (k + 1)) :
    (rows sel g l pl ph ps m from_ s (m - 1)).getD (stopAt ps from_ r K).toNat 0 ≤ a K := by
  induction K with
  | zero =>
    have h2 := rows_anti (sel := sel) (g := g) (l := l) (pl := pl) (ph := ph) (ps := ps) (m := m) from_ s from_ (Nat.zero_le (m - 1))
    rw [rows_zero from_ s from_ hfr, if_pos rfl] at h2
    show (rows sel g l pl ph ps m from_ s (m - 1)).getD (from_ : Int).toNat 0 ≤ a 0
    rw [Int.toNat_natCast]
    omega
  | succ K ih =>
    have ih' := ih (by omega) (fun k hk => hstep k (by omega))
    have hlo := hr.lo K hK
    have hhi := hr.hi K hK
    have hfx := rows_fix (g := g) hs ha hm hN from_ h0 h1 (i := (r.getD K 0).toNat) (by omega) (hr.can K hK)
    rw [hr.frm K hK] at hfx
    have hmo := arrive_mono sel l pl ph (ps.getD (r.getD K 0).toNat zeroPt) ih'
    have := hstep K (by omega)
    show (rows sel g l pl ph ps m from_ s (m - 1)).getD (ps.getD (r.getD K 0).toNat zeroPt).dst.toNat 0 ≤ a (K + 1)
    omega
end Go.Proofs.Ytndoghcglbpllaa
