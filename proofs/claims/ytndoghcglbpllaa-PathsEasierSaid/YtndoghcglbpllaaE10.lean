/- Whether a start is too late. -/
import Derived.Test.YtndoghcglbpllaaE07
import Derived.Deep.RegionHeld3
import Derived.Test.YtndoghcglbpllaaE01
import Derived.Test.YtndoghcglbpllaaE09
import Derived.Test.YtndoghcglbpllaaE02
import Derived.Deep.QuietTactic
import Derived.BigQuiet
set_option linter.unusedSimpArgs false
set_option linter.unusedVariables false
namespace Go.Proofs.Ytndoghcglbpllaa
open Go.RowKit
set_option maxRecDepth 100000 in
set_option maxHeartbeats 2000000 in
theorem late_any (g l pl ph : Int) (n c : Nat) (b off : Nat) (ps : List Pt) (hn : ps.length = n) (A : Option Addr) (m : Nat) (hm1 : 1 ≤ m) (hm2 : m ≤ 12) (hN : NOk m ps) (ha : PaOk l pl ph) (fr to_ : Nat) (hfr : fr < m) (hto : to_ < m) (D start : Int) (h0 : 0 ≤ start) (h1 : start ≤ 2881)
    (w : World) (hA : 0 < n → A = some ⟨b, off, none⟩ ∧ b < w.heap.size) (hp : ∀ k, k < ps.length → ∃ A' c', PtAt w b (off + k * 8) (ps.getD k zeroPt) A' c')
    (q0 q1 q2 q3 : Nat) (b0 : w.heap[q0]? = some (.cells (wbox (m : Int) g l pl ph A n c) 70 (0, 0))) (b1 : w.heap[q1]? = some (.cells #[.int .i64 (fr : Int)] 3 (0, 0))) (b2 : w.heap[q2]? = some (.cells #[.int .i64 (to_ : Int)] 3 (0, 0))) (b3 : w.heap[q3]? = some (.cells #[.int .i64 D] 3 (0, 0))) :
    Calls Try.prog 59 #[.int .i64 start, .pointer (some ⟨q0, 0, none⟩), .pointer (some ⟨q1, 0, none⟩), .pointer (some ⟨q2, 0, none⟩), .pointer (some ⟨q3, 0, none⟩)] w fun e w' =>
      e = .returned (.bool (decide (D < (rows selHi g l pl ph ps m fr start (m - 1)).getD to_ 0))) ∧ Ext w w' := by
  have HS := hid (fun (W : World) (hE : Ext w W) => sure_any g l pl ph n c b off ps hn A m hm1 hm2 hN ha fr hfr start h0 h1 W (fun h0 => ⟨(hA h0).1, Nat.lt_of_lt_of_le (hA h0).2 hE.size⟩)
      (fun k hk => by obtain ⟨A', c', h⟩ := hp k hk; exact ⟨A', c', h.ext (hA (by omega)).2 hE⟩))
  have hl1 := (rows_bd selHi_pos (g := g) ha hN (from_ := fr) h0 h1 (m - 1)).1
  revert HS hl1
  generalize rows selHi g l pl ph ps m fr start (m - 1) = xs
  intro HS hl1
  have c0 := blk_cell b0 0
  have c1 := blk_cell b0 1
  have c2 := blk_cell b0 2
  have c3 := blk_cell b0 3
  have c4 := blk_cell b0 4
  have c5 := blk_cell b0 5
  have c6 := blk_cell b1 0
  have c7 := blk_cell b2 0
  have c8 := blk_cell b3 0
  simp only [wbox, List.getElem?_toArray, List.getElem?_cons_zero, List.getElem?_cons_succ] at c0 c1 c2 c3 c4 c5 c6 c7 c8 HS
  have s0 : q0 < w.heap.size := (Array.getElem?_eq_some_iff.1 b0).1
  have s1 : q1 < w.heap.size := (Array.getElem?_eq_some_iff.1 b1).1
  have s2 : q2 < w.heap.size := (Array.getElem?_eq_some_iff.1 b2).1
  have s3 : q3 < w.heap.size := (Array.getElem?_eq_some_iff.1 b3).1
  have ht0 : (0 : Int) ≤ (to_ : Int) := by omega
  have ht1 : (to_ : Int) < (xs.length : Int) := by omega
  have HL := hid hl1
  clear hp hn hN ha hA hl1 b0 b1 b2 b3
  go_enter Try.func59, Try.ntmps59
  go_wp2
  refine wp_region_held_drew (S := fun w' => (∀ b o, b < w.heap.size → w'.cell? ⟨b, o, none⟩ = w.cell? ⟨b, o, none⟩) ∧ w.heap.size ≤ w'.heap.size ∧ Ext w w') (by kernel_rfl) ?hS0 (fun hHeld => ?_)
  case hS0 => exact ⟨fun _ _ _ => rfl, Nat.le_refl _, Ext.drew (Ext.refl _)⟩
  refine wpAnyH_take (i := 0) (oi := _) (v := ?v0h) rfl (by kernel_rfl) (by kernel_rfl) (by kernel_rfl) (fun _ _ _ h => h) (Or.inl ⟨by rfl, ?y0h⟩) (by assumption) ?r0h
  case y0h => (intro w' hSw; (try dsimp only at hSw); go_simp; (try with_reducible rfl))
  try simp only [Act.put, List.getElem_toArray, List.getElem_cons_zero, List.getElem_cons_succ, List.setIfInBounds_toArray, List.set_cons_zero, List.set_cons_succ]
  refine wpAnyH_take (i := 1) (oi := _) (v := ?v1h) rfl (by kernel_rfl) (by kernel_rfl) (by kernel_rfl) (fun _ _ _ h => h) (Or.inl ⟨by rfl, ?y1h⟩) (by assumption) ?r1h
  case y1h => (intro w' hSw; (try dsimp only at hSw); go_simp; (try with_reducible rfl))
  try simp only [Act.put, List.getElem_toArray, List.getElem_cons_zero, List.getElem_cons_succ, List.setIfInBounds_toArray, List.set_cons_zero, List.set_cons_succ]
  refine wpAnyH_take (i := 2) (oi := _) (v := ?v2h) rfl (by kernel_rfl) (by kernel_rfl) (by kernel_rfl) (fun _ _ _ h => h) (Or.inl ⟨by rfl, ?y2h⟩) (by assumption) ?r2h
  case y2h => (intro w' hSw; (try dsimp only at hSw); go_simp; (try with_reducible rfl))
  try simp only [Act.put, List.getElem_toArray, List.getElem_cons_zero, List.getElem_cons_succ, List.setIfInBounds_toArray, List.set_cons_zero, List.set_cons_succ]
  refine wpAnyH_take (i := 4) (oi := _) (v := ?v4h) rfl (by kernel_rfl) (by kernel_rfl) (by kernel_rfl) (fun _ _ _ h => h) (Or.inl ⟨by rfl, ?y4h⟩) (by assumption) ?r4h
  case y4h => (intro w' hSw; (try dsimp only at hSw); go_simp; (try with_reducible rfl))
  try simp only [Act.put, List.getElem_toArray, List.getElem_cons_zero, List.getElem_cons_succ, List.setIfInBounds_toArray, List.set_cons_zero, List.set_cons_succ]
  refine wpAnyH_take (i := 7) (oi := _) (v := ?v7h) rfl (by kernel_rfl) (by kernel_rfl) (by kernel_rfl) (fun _ _ _ h => h) (Or.inl ⟨by rfl, ?y7h⟩) (by assumption) ?r7h
  case y7h => (intro w' hSw; (try dsimp only at hSw); go_simp; (try with_reducible rfl))
  try simp only [Act.put, List.getElem_toArray, List.getElem_cons_zero, List.getElem_cons_succ, List.setIfInBounds_toArray, List.set_cons_zero, List.set_cons_succ]
  refine wpAnyH_ready (rs := [3]) (by kernel_rfl) (by simp) ?_
  refine AllReadyH.cons (o := _) rfl (fun K hK => ?_) AllReadyH.nil
  go_simp
  refine (HS.out _ (Ext.drew (Ext.refl w))).mono ?_
  rintro e w2 ⟨g1, cap1, rfl, r1, z1, hE2⟩
  have hcr := r1.cell (k := to_) (by omega)
  have hx : Ext w w2 := (Ext.drew (Ext.refl w)).trans hE2
  clear hHeld
  dsimp only
  refine hK.out _ _ ⟨kcell (w1 := w.drew) (W := w) (fun _ _ _ => rfl) (Nat.le_refl _) hE2, hx.size, hx⟩ (fun hHeld => ?_)
  clear hK K
  try simp only [Act.put, List.getElem_toArray, List.getElem_cons_zero, List.getElem_cons_succ, List.setIfInBounds_toArray, List.set_cons_zero, List.set_cons_succ]
  refine wpAnyH_take (i := 5) (oi := _) (v := ?v5h) rfl (by kernel_rfl) (by kernel_rfl) (by kernel_rfl) (fun _ _ _ h => h) (Or.inl ⟨by rfl, ?y5h⟩) (by assumption) ?r5h
  case y5h => (intro w' hSw; (try dsimp only at hSw); go_simp; (try with_reducible rfl))
  try simp only [Act.put, List.getElem_toArray, List.getElem_cons_zero, List.getElem_cons_succ, List.setIfInBounds_toArray, List.set_cons_zero, List.set_cons_succ]
  have HH := hid hHeld
  clear hHeld
  refine wpAnyH_ready (rs := [6]) (by kernel_rfl) (by simp) ?_
  refine AllReadyH.cons (o := _) rfl (fun K hK => ?_) AllReadyH.nil
  go_simp
  refine hK.out _ _ HH.out (fun hHeld => ?_)
  clear hK K
  try simp only [Act.put, List.getElem_toArray, List.getElem_cons_zero, List.getElem_cons_succ, List.setIfInBounds_toArray, List.set_cons_zero, List.set_cons_succ]
  refine wpAnyH_take (i := 8) (oi := _) (v := ?v8h) rfl (by kernel_rfl) (by kernel_rfl) (by kernel_rfl) (fun _ _ _ h => h) (Or.inl ⟨by rfl, ?y8h⟩) (by assumption) ?r8h
  case y8h => (intro w' hSw; (try dsimp only at hSw); go_simp; (try with_reducible rfl))
  try simp only [Act.put, List.getElem_toArray, List.getElem_cons_zero, List.getElem_cons_succ, List.setIfInBounds_toArray, List.set_cons_zero, List.set_cons_succ]
  refine wpAnyH_take (i := 9) (oi := _) (v := ?v9h) rfl (by kernel_rfl) (by kernel_rfl) (by kernel_rfl) (fun _ _ _ h => h) (Or.inl ⟨by rfl, ?y9h⟩) (by assumption) ?r9h
  case y9h => (intro w' hSw; (try dsimp only at hSw); go_simp; (try with_reducible rfl))
  try simp only [Act.put, List.getElem_toArray, List.getElem_cons_zero, List.getElem_cons_succ, List.setIfInBounds_toArray, List.set_cons_zero, List.set_cons_succ]
  refine wpAnyH_done (by kernel_rfl) ?_ _
  go_wp2
  go_ret
  exact ⟨rfl, hx⟩
end Go.Proofs.Ytndoghcglbpllaa
/- sort.Search with the closure of Latest. -/
set_option linter.unusedSimpArgs false
set_option linter.unusedVariables false
namespace Go.Proofs.Ytndoghcglbpllaa
open Go.RowKit
def Least (n : Nat) (p : Nat → Bool) (r : Nat) : Prop := r ≤ n ∧ (∀ x, x < r → p x = false) ∧ (∀ x, r ≤ x → x < n → p x = true)
def Searched (n : Nat) (p : Nat → Bool) (w : World) (e : Ending) (w' : World) : Prop := (∃ r : Nat, e = .returned (.int .i64 (r : Int)) ∧ Least n p r) ∧ Ext w w'
theorem Searched.mk {n : Nat} {p : Nat → Bool} {w w' : World} {e : Ending} (r : Nat) (h : e = .returned (.int .i64 (r : Int))) (hl : Least n p r) (he : Ext w w') : Searched n p w e w' := ⟨⟨r, h, hl⟩, he⟩
theorem mono_lo {p : Nat → Bool} (hm : ∀ x y, x ≤ y → p x = true → p y = true) {h : Nat} (hf : p h = false) : ∀ x, x < h + 1 → p x = false := fun x hx => by
  cases hp : p x with
  | false => rfl
  | true => rw [hm x h (by omega) hp] at hf; cases hf

set_option maxHeartbeats 1000000 in
theorem search_any (q0 q1 q2 q3 : Nat) (n : Nat) (hn : n ≤ 3000) (p : Nat → Bool) (hm : ∀ x y, x ≤ y → p x = true → p y = true) (w : World)
    (hf : ∀ (x : Nat) (W : World), x < n → Ext w W → Calls Try.prog 59 #[.int .i64 (x : Int), .pointer (some ⟨q0, 0, none⟩), .pointer (some ⟨q1, 0, none⟩), .pointer (some ⟨q2, 0, none⟩), .pointer (some ⟨q3, 0, none⟩)] W fun e W' => e = .returned (.bool (p x)) ∧ Ext W W') :
    Calls Try.prog 60 #[.int .i64 (n : Int), .func (.func 59) #[] #[.pointer (some ⟨q0, 0, none⟩), .pointer (some ⟨q1, 0, none⟩), .pointer (some ⟨q2, 0, none⟩), .pointer (some ⟨q3, 0, none⟩)]] w (Searched n p w) := by
  have HF := hid hf
  have HM := hid hm
  clear hf hm
  go_enter Try.func60, Try.ntmps60
  go_wp2
  go_loopw [5, 6] (fun i j wr => Ext w wr ∧ ∃ a b : Nat, a ≤ b ∧ b ≤ n ∧ i = .int .i64 a ∧ j = .int .i64 b ∧ Hid (∀ x, x < a → p x = false) ∧ Hid (∀ x, b ≤ x → x < n → p x = true)) (fun i j _ => (intOf j).toNat - (intOf i).toNat)
  case atStart => exact ⟨by (repeat' (first | with_reducible assumption | with_reducible exact Ext.refl _ | with_reducible refine Ext.alloc ?_ _ | with_reducible refine Ext.set ?_ ?_ _ | with_reducible refine Ext.drew ?_ | with_reducible refine Ext.drewN ?_ _ | with_reducible refine Ext.trans ?_ (by assumption) | (dsimp only; omega))), 0, n, by omega, by omega, rfl, rfl, hid (fun x hx => by omega), hid (fun x h1 h2 => by omega)⟩
  case round =>
    obtain ⟨hE, a, b, hab, hbn, rfl, rfl, H1, H2⟩ := hrel
    by_cases hlt : a < b
    · go_wp2_with fail
      obtain ⟨h, hh⟩ : ∃ h : Nat, h = (a + b) / 2 := ⟨_, rfl⟩
      have hmid : ((a : Int) + (b : Int)) / 2 = (h : Int) := by omega
      have hb1 : a ≤ h := by omega
      have hb2 : h < b := by omega
      clear hh
      rw [hmid]
      clear hmid
      refine (HF.out h wr (by omega) hE).mono ?_
      rintro e w2 ⟨rfl, hE2⟩
      have hE3 := hE.trans hE2
      rcases Bool.eq_false_or_eq_true (p h) with hp | hp
      · rw [hp]
        have H3 := hid (fun (x : Nat) (h1 : h ≤ x) (_ : x < n) => HM.out h x h1 hp)
        clear hp hE hE2
        go_wp2
        go_roundw
        case rel => exact ⟨hE3, a, h, by omega, by omega, rfl, rfl, H1, H3⟩
        case measure => simp [intOf]; omega
      · rw [hp]
        have H3 := hid (mono_lo HM.out hp)
        clear hp hE hE2
        go_wp2
        go_roundw
        case rel => exact ⟨hE3, h + 1, b, by omega, by omega, by go_num, rfl, H3, H2⟩
        case measure => simp [intOf]; omega
    · obtain rfl : a = b := by omega
      have HL := hid (show Least n p a from ⟨hbn, H1.out, H2.out⟩)
      go_wp2
      go_ret
      exact Searched.mk a rfl HL.out hE
end Go.Proofs.Ytndoghcglbpllaa
/- Latest. -/
set_option linter.unusedSimpArgs false
set_option linter.unusedVariables false
namespace Go.Proofs.Ytndoghcglbpllaa
open Go.RowKit

theorem ints_two_at {w : World} {b : Nat} {x y : Int} {t : TypeId} (h : w.heap[b]? = some (.cells #[.int .i64 x, .int .i64 y] t (0, 0))) : IntsAt w (some ⟨b, 0, none⟩) [x, y] := fun _ => ⟨b, 0, rfl, (Array.getElem?_eq_some_iff.1 h).1, fun k hk => by
  have hk2 : k = 0 ∨ k = 1 := by simp at hk; omega
  rcases hk2 with rfl | rfl
  · have := blk_cell h 0
    simpa using this
  · have := blk_cell h 1
    simpa using this⟩
def isLate (g l pl ph : Int) (ps : List Pt) (m fr to_ : Nat) (D : Int) (x : Nat) : Bool := decide (D < (rows selHi g l pl ph ps m fr (x : Int) (m - 1)).getD to_ 0)
theorem isLate_mono (g l pl ph : Int) (ps : List Pt) (m fr to_ : Nat) (D : Int) : ∀ x y, x ≤ y → isLate g l pl ph ps m fr to_ D x = true → isLate g l pl ph ps m fr to_ D y = true := by
  intro x y hxy
  unfold isLate
  simp only [decide_eq_true_eq]
  have := (rows_mono selHi g l pl ph ps m fr (show (x : Int) ≤ (y : Int) by omega) (m - 1)).2 to_
  omega
/-- The greatest start that is not late, or none. -/
def LatestIs (n : Nat) (p : Nat → Bool) (w : World) (e : Ending) (w' : World) : Prop :=
  (∃ r, Least n p r ∧ e = .returned (.tuple (if r = 0 then #[.int .i64 0, .int .i64 3] else #[.int .i64 ((r : Int) - 1), .int .i64 0]))) ∧ Ext w w'

set_option maxRecDepth 100000 in
set_option maxHeartbeats 2000000 in
theorem latest_ok (m g l pl ph from_ to_ D : Int) (A : Option Addr) (n c : Nat) (ps : List Pt) (hn : ps.length = n) (w : World) (hp : PathsAt w A ps) (hb : beginE m g l pl ph ps [from_, to_] [D] = 0) :
    Calls Try.prog 24 #[.agg #[.int .i64 m, .slice A n c], .agg #[.int .i64 g, .int .i64 l, .int .i64 pl, .int .i64 ph], .int .i64 from_, .int .i64 to_, .int .i64 D] w
      (LatestIs (D.toNat + 1) (isLate g l pl ph ps m.toNat from_.toNat to_.toNat D) w) := by
  obtain ⟨k1, k2, k3, k4⟩ := begin_zero hb
  obtain ⟨hm1, hm2, hN⟩ := vNet_ok k1
  have ha := vParty_ok k2
  have hfr := k3 from_ (by simp)
  have hto := k3 to_ (by simp)
  have hst := k4 D (by simp)
  obtain ⟨b, off, hA, hpp⟩ := hp.open_ hn
  obtain ⟨mm, rfl⟩ : ∃ k : Nat, m = k := ⟨m.toNat, by omega⟩
  obtain ⟨fr, rfl⟩ : ∃ k : Nat, from_ = k := ⟨from_.toNat, by omega⟩
  obtain ⟨tt, rfl⟩ : ∃ k : Nat, to_ = k := ⟨to_.toNat, by omega⟩
  obtain ⟨d, rfl⟩ : ∃ k : Nat, D = k := ⟨D.toNat, by omega⟩
  rw [Int.toNat_natCast] at hN
  simp only [Int.toNat_natCast]
  have HB := hid (fun (b1 b2 : Nat) (W : World) (hW : Ext w W) (h1 : IntsAt W (some ⟨b1, 0, none⟩) [(fr : Int), (tt : Int)]) (h2 : IntsAt W (some ⟨b2, 0, none⟩) [(d : Int)]) => begin_ok mm g l pl ph A (some ⟨b1, 0, none⟩) (some ⟨b2, 0, none⟩) n c 2 2 1 1 ps [(fr : Int), (tt : Int)] [(d : Int)] hn rfl rfl (by omega) (by omega) W (hp.ext hW) h1 h2 hb)
  have HS := hid (fun (q0 q1 q2 q3 : Nat) (W : World) (hE : Ext w W) (b0 : W.heap[q0]? = some (.cells (wbox (mm : Int) g l pl ph A n c) 70 (0, 0))) (b1 : W.heap[q1]? = some (.cells #[.int .i64 (fr : Int)] 3 (0, 0))) (b2 : W.heap[q2]? = some (.cells #[.int .i64 (tt : Int)] 3 (0, 0))) (b3 : W.heap[q3]? = some (.cells #[.int .i64 (d : Int)] 3 (0, 0))) =>
    search_any q0 q1 q2 q3 (d + 1) (by omega) (isLate g l pl ph ps mm fr tt d) (isLate_mono g l pl ph ps mm fr tt d) W (fun x W' hx hE' =>
      late_any g l pl ph n c b off ps hn A mm (by omega) (by omega) hN ha fr tt (by omega) (by omega) d x (by omega) (by omega) W' (fun h0 => ⟨(hA h0).1, Nat.lt_of_lt_of_le (hA h0).2 (hE.trans hE').size⟩)
        (fun k hk => by obtain ⟨A', c', h⟩ := hpp k hk; exact ⟨A', c', h.ext (hA (by omega)).2 (hE.trans hE')⟩) q0 q1 q2 q3 (blk_ext b0 hE') (blk_ext b1 hE') (blk_ext b2 hE') (blk_ext b3 hE')))
  revert HS
  generalize isLate g l pl ph ps mm fr tt d = pp
  intro HS
  have hd0 : (0 : Int) ≤ (d : Int) := hst.1
  have hd1 : (d : Int) ≤ 2880 := hst.2
  clear hp hn hb k1 k2 k3 k4 hN ha hfr hto hst hA hpp
  have HD := hid (show (d : Int) + 1 = ((d + 1 : Nat) : Int) by omega)
  go_enter Try.func24, Try.ntmps24
  go_wp2_with fail
  have t0 := three_blocks ((w.alloc (.cells #[.int .i64 (mm : Int), .slice A n c] 24)).alloc (.cells #[.int .i64 g, .int .i64 l, .int .i64 pl, .int .i64 ph] 28)) (.cells #[.int .i64 (fr : Int)] 3) (.cells #[.int .i64 (tt : Int)] 3) (.cells #[.int .i64 (d : Int)] 3)
  have t1 := two_blocks (((((w.alloc (.cells #[.int .i64 (mm : Int), .slice A n c] 24)).alloc (.cells #[.int .i64 g, .int .i64 l, .int .i64 pl, .int .i64 ph] 28)).alloc (.cells #[.int .i64 (fr : Int)] 3)).alloc (.cells #[.int .i64 (tt : Int)] 3)).alloc (.cells #[.int .i64 (d : Int)] 3)) (.cells #[.int .i64 (fr : Int), .int .i64 (tt : Int)] 3) (.cells #[.int .i64 (d : Int)] 3)
  simp only [World.size_alloc] at t0 t1
  refine (HB.out _ _ _ (by (repeat' (first | with_reducible assumption | with_reducible exact Ext.refl _ | with_reducible refine Ext.alloc ?_ _ | with_reducible refine Ext.set ?_ ?_ _ | with_reducible refine Ext.drew ?_ | with_reducible refine Ext.drewN ?_ _ | with_reducible refine Ext.trans ?_ (by assumption) | (dsimp only; omega)))) (ints_two_at t1.1) (ints_one_at t1.2.1)).mono ?_
  clear t1
  rintro e w1 ⟨rfl, hE⟩
  have EW : Ext w w1 := by (repeat' (first | with_reducible assumption | with_reducible exact Ext.refl _ | with_reducible refine Ext.alloc ?_ _ | with_reducible refine Ext.set ?_ ?_ _ | with_reducible refine Ext.drew ?_ | with_reducible refine Ext.drewN ?_ _ | with_reducible refine Ext.trans ?_ (by assumption) | (dsimp only; omega)))
  have B1 := hid (blk_ext t0.1 (Ext.trans (by (repeat' (first | with_reducible assumption | with_reducible exact Ext.refl _ | with_reducible refine Ext.alloc ?_ _ | with_reducible refine Ext.set ?_ ?_ _ | with_reducible refine Ext.drew ?_ | with_reducible refine Ext.drewN ?_ _ | with_reducible refine Ext.trans ?_ (by assumption) | (dsimp only; omega)))) hE))
  have B2 := hid (blk_ext t0.2.1 (Ext.trans (by (repeat' (first | with_reducible assumption | with_reducible exact Ext.refl _ | with_reducible refine Ext.alloc ?_ _ | with_reducible refine Ext.set ?_ ?_ _ | with_reducible refine Ext.drew ?_ | with_reducible refine Ext.drewN ?_ _ | with_reducible refine Ext.trans ?_ (by assumption) | (dsimp only; omega)))) hE))
  have B3 := hid (blk_ext t0.2.2 (Ext.trans (by (repeat' (first | with_reducible assumption | with_reducible exact Ext.refl _ | with_reducible refine Ext.alloc ?_ _ | with_reducible refine Ext.set ?_ ?_ _ | with_reducible refine Ext.drew ?_ | with_reducible refine Ext.drewN ?_ _ | with_reducible refine Ext.trans ?_ (by assumption) | (dsimp only; omega)))) hE))
  have q3 := blk_cell B3.out 0
  have z3 : w.heap.size + 1 + 1 + 1 + 1 < w1.heap.size := (Array.getElem?_eq_some_iff.1 B3.out).1
  simp only [List.getElem?_toArray, List.getElem?_cons_zero] at q3
  clear hE HB t0
  go_wp2_with fail
  rw [HD.out]
  refine (HS.out _ _ _ _ _ ?e1 ?e2 ?e3 ?e4 ?e5).mono ?_
  case e1 => (repeat' (first | with_reducible assumption | with_reducible exact Ext.refl _ | with_reducible refine Ext.alloc ?_ _ | with_reducible refine Ext.set ?_ ?_ _ | with_reducible refine Ext.drew ?_ | with_reducible refine Ext.drewN ?_ _ | with_reducible refine Ext.trans ?_ (by assumption) | (dsimp only; omega)))
  case e2 => exact heap_alloc_new w1 _
  case e3 => exact blk_ext B1.out (ext_alloc1 _ _)
  case e4 => exact blk_ext B2.out (ext_alloc1 _ _)
  case e5 => exact blk_ext B3.out (ext_alloc1 _ _)
  rintro e w2 ⟨⟨r, rfl, hL⟩, hE2⟩
  have HL := hid hL
  have hr1 : r ≤ d + 1 := hL.1
  have hE3 : Ext w w2 := by (repeat' (first | with_reducible assumption | with_reducible exact Ext.refl _ | with_reducible refine Ext.alloc ?_ _ | with_reducible refine Ext.set ?_ ?_ _ | with_reducible refine Ext.drew ?_ | with_reducible refine Ext.drewN ?_ _ | with_reducible refine Ext.trans ?_ (by assumption) | (dsimp only; omega)))
  clear hL q3 z3 B1 B2 B3 hE2
  by_cases hr : r = 0
  · have HR := hid hr
    subst hr
    go_wp2
    go_ret2
    exact ⟨⟨0, HL.out, rfl⟩, hE3⟩
  · have hr0 : (1 : Int) ≤ (r : Int) := by omega
    have HR := hid hr
    clear hr
    go_wp2
    go_ret2
    exact ⟨⟨r, HL.out, by rw [if_neg HR.out]; rfl⟩, hE3⟩
end Go.Proofs.Ytndoghcglbpllaa
/- No arrival is before the start. -/
set_option linter.unusedSimpArgs false
set_option linter.unusedVariables false
namespace Go.Proofs.Ytndoghcglbpllaa
open Go.RowKit
theorem enter_ge {t : Int} (os : List (Int × Int)) : ∀ {f : Int}, t ≤ f → t ≤ enter f os t := by
  unfold enter
  induction os with
  | nil => intro f h; exact h
  | cons o os ih =>
    intro f h
    rw [List.foldl_cons]
    refine ih ?_
    unfold enterStep
    split <;> omega
theorem arrive_ge {l pl ph : Int} (ha : PaOk l pl ph) {p : Pt} (hp : PtOk p) {t : Int} (ht : t ≤ 2881) : t ≤ arrive selHi l pl ph p t := by
  obtain ⟨t1, t2, t3, s1, s2, s3, hos⟩ := hp
  obtain ⟨p1, p2, p3, l1, l2⟩ := ha
  have h1 := enter_ge p.opens ht
  have ⟨b3, b4⟩ := timeOf_bd (t := p.th) (p := ph) (s := p.sh) (by omega) t3 (by omega) p3 (by omega) s3 l1 l2
  unfold arrive selHi
  omega
def GeRow (m : Nat) (s : Int) (xs : List Int) : Prop := xs.length = m ∧ ∀ k, k < m → s ≤ xs.getD k 0
theorem ge_set {m : Nat} {s : Int} {xs : List Int} (h : GeRow m s xs) (i : Nat) {u : Int} (hu : s ≤ u) : GeRow m s (xs.set i u) :=
  ⟨by rw [List.length_set]; exact h.1, fun k hk => by
    rw [getD_set]
    split
    · exact hu
    · exact h.2 k hk⟩
theorem rows_ge {g l pl ph : Int} (ha : PaOk l pl ph) {m : Nat} {ps : List Pt} (hN : NOk m ps) {from_ : Nat} {start : Int} (h0 : 0 ≤ start) (h1 : start ≤ 2881) : ∀ k, GeRow m start (rows selHi g l pl ph ps m from_ start k)
  | 0 => ge_set ⟨by simp, fun k hk => by simp [List.getD, hk]; omega⟩ _ (Int.le_refl _)
  | k + 1 => by
    have ih := rows_ge (g := g) ha hN (from_ := from_) h0 h1 k
    have hbd := rows_bd selHi_pos (g := g) ha hN (from_ := from_) h0 h1 k
    unfold rows pmFold
    revert ih hbd
    generalize rows selHi g l pl ph ps m from_ start k = low
    intro ih hbd
    suffices h : ∀ (is : List Nat), (∀ i ∈ is, i < ps.length) → ∀ acc : List Int, GeRow m start acc → GeRow m start (is.foldl (pmStep selHi l pl ph ps low) acc) from h _ (fun _ h => walkIdx_mem h) low ih
    intro is
    induction is with
    | nil => intro _ acc h; exact h
    | cons i is ih2 =>
      intro hi acc h
      rw [List.foldl_cons]
      refine ih2 (fun j hj => hi j (List.mem_cons_of_mem _ hj)) _ ?_
      have hil := hi i List.mem_cons_self
      have hd := hN.dst i hil
      have hf := hN.frm i hil
      have h1 := h.2 (ps.getD i zeroPt).dst.toNat (by omega)
      have h2 := ih.2 (ps.getD i zeroPt).frm.toNat (by omega)
      have h2' := hbd.2 (ps.getD i zeroPt).frm.toNat (by omega)
      have h3 := arrive_ge ha (hN.ok i hil) h2'.2
      exact ge_set h _ (by omega)
end Go.Proofs.Ytndoghcglbpllaa
/- sameInts. -/
set_option linter.unusedSimpArgs false
set_option linter.unusedVariables false
namespace Go.Proofs.Ytndoghcglbpllaa
open Go.RowKit
theorem same_of {xs ys : List Int} (hl : xs.length = ys.length) (h : ∀ j, j < xs.length → xs.getD j 0 = ys.getD j 0) : xs = ys := by
  refine List.ext_getElem hl fun i h1 h2 => ?_
  have := h i h1
  simpa [List.getD, List.getElem?_eq_getElem h1, List.getElem?_eq_getElem h2] using this

set_option maxHeartbeats 1000000 in
theorem sameInts_any (A B : Option Addr) (n1 n2 c1 c2 : Nat) (xs ys : List Int) (hn1 : xs.length = n1) (hn2 : ys.length = n2) (hm : n1 ≤ 1000) (hm2 : n2 ≤ 1000) (w : World) (hx : IntsAt w A xs) (hy : IntsAt w B ys) :
    Calls Try.prog 21 #[.slice A n1 c1, .slice B n2 c2] w fun e w' => e = .returned (.bool (decide (xs = ys))) ∧ Ext w w' := by
  have HX := hid hx
  have HY := hid hy
  have HN1 := hid hn1
  have HN2 := hid hn2
  clear hx hy hn1 hn2
  by_cases hl : n1 = n2
  · subst hl
    go_enter Try.func21, Try.ntmps21
    go_wp2
    go_loopw [5] (fun i wr => Ext w wr ∧ ∃ k : Nat, k ≤ n1 ∧ i = .int .i64 k ∧ Hid (∀ j, j < k → xs.getD j 0 = ys.getD j 0)) (fun i _ => n1 - (intOf i).toNat)
    case atStart => exact ⟨by (repeat' (first | with_reducible assumption | with_reducible exact Ext.refl _ | with_reducible refine Ext.alloc ?_ _ | with_reducible refine Ext.set ?_ ?_ _ | with_reducible refine Ext.drew ?_ | with_reducible refine Ext.drewN ?_ _ | with_reducible refine Ext.trans ?_ (by assumption) | (dsimp only; omega))), 0, Nat.zero_le _, rfl, hid (fun j hj => by omega)⟩
    case round =>
      obtain ⟨hE, k, hk, rfl, HA⟩ := hrel
      by_cases hlt : k < n1
      · obtain ⟨b, off, rfl, hb, hc⟩ := (HX.out.ext hE) (by intro e; have := HN1.out; rw [e] at this; simp at this; omega)
        obtain ⟨b', off', rfl, hb', hc'⟩ := (HY.out.ext hE) (by intro e; have := HN2.out; rw [e] at this; simp at this; omega)
        have q1 := hc k (by have := HN1.out; omega)
        have q2 := hc' k (by have := HN2.out; omega)
        have hk0 : (0 : Int) ≤ (k : Int) := by omega
        have hk1 : (k : Int) < (n1 : Int) := by omega
        clear hc hc'
        obtain ⟨u, hu⟩ : ∃ u, xs.getD k 0 = u := ⟨_, rfl⟩
        obtain ⟨v, hv⟩ : ∃ v, ys.getD k 0 = v := ⟨_, rfl⟩
        rw [hu] at q1
        rw [hv] at q2
        have HU := hid hu
        have HV := hid hv
        clear hu hv
        by_cases huv : u = v
        · subst huv
          have HA2 := hid (show ∀ j, j < k + 1 → xs.getD j 0 = ys.getD j 0 from fun j hj => by
            rcases Nat.lt_succ_iff_lt_or_eq.1 hj with h | rfl
            · exact HA.out j h
            · exact HU.out.trans HV.out.symm)
          go_wp2_with fail
          go_quiet (fail)
          go_wp2
          go_roundw
          case rel => exact ⟨hE.drewN _, k + 1, by omega, by go_num, HA2⟩
          case measure => simp [intOf]; omega
        · have hd : decide (u = v) = false := decide_eq_false huv
          have HD := hid (show xs ≠ ys by rintro rfl; exact huv (HU.out.symm.trans HV.out))
          go_wp2_with fail
          go_quiet (fail)
          go_wp2
          go_ret
          exact ⟨ret_bool (by rw [decide_eq_false HD.out]), hE.drewN _⟩
      · have HD := hid (same_of (HN1.out.trans HN2.out.symm) (fun j hj => HA.out j (by have := HN1.out; omega)))
        go_wp2
        go_ret
        exact ⟨ret_bool (by rw [decide_eq_true HD.out]), by (repeat' (first | with_reducible assumption | with_reducible exact Ext.refl _ | with_reducible refine Ext.alloc ?_ _ | with_reducible refine Ext.set ?_ ?_ _ | with_reducible refine Ext.drew ?_ | with_reducible refine Ext.drewN ?_ _ | with_reducible refine Ext.trans ?_ (by assumption) | (dsimp only; omega)))⟩
  · have HD := hid (show xs ≠ ys by rintro rfl; exact hl (HN1.out.symm.trans HN2.out))
    have hli : ¬ ((n1 : Int) = (n2 : Int)) := by omega
    go_enter Try.func21, Try.ntmps21
    go_wp2
    go_ret
    exact ⟨ret_bool (by rw [decide_eq_false HD.out]), by (repeat' (first | with_reducible assumption | with_reducible exact Ext.refl _ | with_reducible refine Ext.alloc ?_ _ | with_reducible refine Ext.set ?_ ?_ _ | with_reducible refine Ext.drew ?_ | with_reducible refine Ext.drewN ?_ _ | with_reducible refine Ext.trans ?_ (by assumption) | (dsimp only; omega)))⟩
end Go.Proofs.Ytndoghcglbpllaa
