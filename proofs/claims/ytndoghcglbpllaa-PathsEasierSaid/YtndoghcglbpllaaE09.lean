/- Which nets and parties are valid: the code, whole nets. -/
import Derived.Test.YtndoghcglbpllaaE08
import Derived.Test.YtndoghcglbpllaaE07
set_option linter.unusedSimpArgs false
set_option linter.unusedVariables false
namespace Go.Proofs.Ytndoghcglbpllaa
open Go.RowKit

set_option maxHeartbeats 400000 in
theorem validNet1_any (m : Int) (v : Value) (p : Pt) (A : Option Addr) (c q : Nat) (w : World) (ho : OpensAt w A p.opens) (hq : q < w.heap.size) (c0 : w.cell? ⟨q, 0, none⟩ = some (.int .i64 m)) (c1 : w.cell? ⟨q, 1, none⟩ = some v) :
    Calls Try.prog 76 #[p.val A c, .pointer (some ⟨q, 0, none⟩)] w fun e w' => e = .returned (.bool (!vPath m p)) ∧ Ext w w' := by
  have HV := hid (fun (W : World) (hW : Ext w W) => validPath_any m v p A c W (OpensAt.ext ho hW))
  clear ho
  revert HV
  generalize vPath m p = b
  obtain ⟨f, d, g, tl, th, sl, sh, os⟩ := p
  unfold Pt.val
  dsimp only
  intro HV
  go_enter Try.func76, Try.ntmps76
  go_wp2_with (first
    | (go_at_call 77; refine (HV.out _ (by (repeat' (first | with_reducible assumption | with_reducible exact Ext.refl _ | with_reducible refine Ext.alloc ?_ _ | with_reducible refine Ext.set ?_ ?_ _ | with_reducible refine Ext.drew ?_ | with_reducible refine Ext.drewN ?_ _ | with_reducible refine Ext.trans ?_ (by assumption) | (dsimp only; omega))))).mono ?_; rintro e w2 ⟨rfl, hE⟩))
  go_ret
  exact ⟨rfl, by (repeat' (first | with_reducible assumption | with_reducible exact Ext.refl _ | with_reducible refine Ext.alloc ?_ _ | with_reducible refine Ext.set ?_ ?_ _ | with_reducible refine Ext.drew ?_ | with_reducible refine Ext.drewN ?_ _ | with_reducible refine Ext.trans ?_ (by assumption) | (dsimp only; omega)))⟩

set_option maxHeartbeats 400000 in
theorem validNet_any (m : Int) (A : Option Addr) (n c : Nat) (ps : List Pt) (hn : ps.length = n) (w : World) (hp : PathsAt w A ps) :
    Calls Try.prog 41 #[.agg #[.int .i64 m, .slice A n c]] w fun e w' => e = .returned (.bool (vNet m ps)) ∧ Ext w w' := by
  have HC := hid (fun (hm : n ≤ 1000) (W : World) (hW : Ext w W) (hq : w.heap.size < W.heap.size) (c0 : W.cell? ⟨w.heap.size, 0, none⟩ = some (.int .i64 m)) (c1 : W.cell? ⟨w.heap.size, 1, none⟩ = some (.slice A n c)) =>
    containsPath_any w.heap.size ps (fun p => !vPath m p) A n c hn hm W (PathsAt.ext hp hW) (fun x A' c' W' h1 h2 => validNet1_any m (.slice A n c) x A' c' w.heap.size W' h2 (Nat.lt_of_lt_of_le hq h1.size) ((h1.cell hq).trans c0) ((h1.cell hq).trans c1)))
  unfold vNet
  rw [all_any]
  rw [hn]
  clear hp hn
  revert HC
  generalize (ps.any fun p => !vPath m p) = b
  intro HC
  by_cases h1 : 1 ≤ m
  case neg => go_enter Try.func41, Try.ntmps41
              go_wp2_with (first
                | (go_at_call 78; refine (HC.out (by omega) _ (by (repeat' (first | with_reducible assumption | with_reducible exact Ext.refl _ | with_reducible refine Ext.alloc ?_ _ | with_reducible refine Ext.set ?_ ?_ _ | with_reducible refine Ext.drew ?_ | with_reducible refine Ext.drewN ?_ _ | with_reducible refine Ext.trans ?_ (by assumption) | (dsimp only; omega)))) (by simp) (by go_simp) (by go_simp)).mono ?_; rintro e w2 ⟨rfl, hE⟩))
              go_ret
              exact ⟨ret_bool (by first | (simp; intros; omega) | (simp [‹1 ≤ m›, ‹m ≤ 12›, ‹n ≤ 24›]; done)), by (repeat' (first | with_reducible assumption | with_reducible exact Ext.refl _ | with_reducible refine Ext.alloc ?_ _ | with_reducible refine Ext.set ?_ ?_ _ | with_reducible refine Ext.drew ?_ | with_reducible refine Ext.drewN ?_ _ | with_reducible refine Ext.trans ?_ (by assumption) | (dsimp only; omega)))⟩
  by_cases h2 : m ≤ 12
  case neg => go_enter Try.func41, Try.ntmps41
              go_wp2_with (first
                | (go_at_call 78; refine (HC.out (by omega) _ (by (repeat' (first | with_reducible assumption | with_reducible exact Ext.refl _ | with_reducible refine Ext.alloc ?_ _ | with_reducible refine Ext.set ?_ ?_ _ | with_reducible refine Ext.drew ?_ | with_reducible refine Ext.drewN ?_ _ | with_reducible refine Ext.trans ?_ (by assumption) | (dsimp only; omega)))) (by simp) (by go_simp) (by go_simp)).mono ?_; rintro e w2 ⟨rfl, hE⟩))
              go_ret
              exact ⟨ret_bool (by first | (simp; intros; omega) | (simp [‹1 ≤ m›, ‹m ≤ 12›, ‹n ≤ 24›]; done)), by (repeat' (first | with_reducible assumption | with_reducible exact Ext.refl _ | with_reducible refine Ext.alloc ?_ _ | with_reducible refine Ext.set ?_ ?_ _ | with_reducible refine Ext.drew ?_ | with_reducible refine Ext.drewN ?_ _ | with_reducible refine Ext.trans ?_ (by assumption) | (dsimp only; omega)))⟩
  by_cases h3 : n ≤ 24
  case neg => go_enter Try.func41, Try.ntmps41
              go_wp2_with (first
                | (go_at_call 78; refine (HC.out (by omega) _ (by (repeat' (first | with_reducible assumption | with_reducible exact Ext.refl _ | with_reducible refine Ext.alloc ?_ _ | with_reducible refine Ext.set ?_ ?_ _ | with_reducible refine Ext.drew ?_ | with_reducible refine Ext.drewN ?_ _ | with_reducible refine Ext.trans ?_ (by assumption) | (dsimp only; omega)))) (by simp) (by go_simp) (by go_simp)).mono ?_; rintro e w2 ⟨rfl, hE⟩))
              go_ret
              exact ⟨ret_bool (by first | (simp; intros; omega) | (simp [‹1 ≤ m›, ‹m ≤ 12›, ‹n ≤ 24›]; done)), by (repeat' (first | with_reducible assumption | with_reducible exact Ext.refl _ | with_reducible refine Ext.alloc ?_ _ | with_reducible refine Ext.set ?_ ?_ _ | with_reducible refine Ext.drew ?_ | with_reducible refine Ext.drewN ?_ _ | with_reducible refine Ext.trans ?_ (by assumption) | (dsimp only; omega)))⟩
  go_enter Try.func41, Try.ntmps41
  go_wp2_with (first
    | (go_at_call 78; refine (HC.out (by omega) _ (by (repeat' (first | with_reducible assumption | with_reducible exact Ext.refl _ | with_reducible refine Ext.alloc ?_ _ | with_reducible refine Ext.set ?_ ?_ _ | with_reducible refine Ext.drew ?_ | with_reducible refine Ext.drewN ?_ _ | with_reducible refine Ext.trans ?_ (by assumption) | (dsimp only; omega)))) (by simp) (by go_simp) (by go_simp)).mono ?_; rintro e w2 ⟨rfl, hE⟩))
  go_ret
  exact ⟨ret_bool (by first | (simp; intros; omega) | (simp [‹1 ≤ m›, ‹m ≤ 12›, ‹n ≤ 24›]; done)), by (repeat' (first | with_reducible assumption | with_reducible exact Ext.refl _ | with_reducible refine Ext.alloc ?_ _ | with_reducible refine Ext.set ?_ ?_ _ | with_reducible refine Ext.drew ?_ | with_reducible refine Ext.drewN ?_ _ | with_reducible refine Ext.trans ?_ (by assumption) | (dsimp only; omega)))⟩

theorem validGrade_e (a : Int) (w : World) : Calls Try.prog 94 #[.int .i64 a] w fun e w' => e = .returned (.bool (gradeB a)) ∧ Ext w w' := by
  have H := hid (validGrade_b a w)
  exact H.out.mono fun _ _ ⟨h, h'⟩ => ⟨h, by rw [h']; exact Ext.refl _⟩

set_option maxHeartbeats 400000 in
theorem validParty_any (g l pl ph : Int) (w : World) :
    Calls Try.prog 79 #[.agg #[.int .i64 g, .int .i64 l, .int .i64 pl, .int .i64 ph]] w fun e w' => e = .returned (.bool (vParty g l pl ph)) ∧ Ext w w' := by
  unfold vParty
  cases h1 : gradeB g
  · go_enter Try.func79, Try.ntmps79
    go_wp2_with (first
      | (go_at_call 94; refine (validGrade_e _ _).mono ?_; rintro e w2 ⟨rfl, hE⟩; (first | (have hK := KC.step (n := w.heap.size + 1) (by with_reducible assumption) hE) | (have hK := KC.step (KC.step (n := w.heap.size + 1) (by with_reducible assumption) (ext_alloc1 _ _)) hE) | (have hK := KC.step (KC.refl (n := w.heap.size + 1) (by simp)) hE)); have hC := hK.cell; have hF := hK.fro; have hX := hK.ext)
      | (go_at_call 96; refine (isWithin_b _ _ _ _ _).mono ?_; rintro e w2 ⟨rfl, hE⟩; (first | (have hK := KC.step (n := w.heap.size + 1) (by with_reducible assumption) hE) | (have hK := KC.step (KC.step (n := w.heap.size + 1) (by with_reducible assumption) (ext_alloc1 _ _)) hE) | (have hK := KC.step (KC.refl (n := w.heap.size + 1) (by simp)) hE)); have hC := hK.cell; have hF := hK.fro; have hX := hK.ext))
    all_goals (go_ret; exact ⟨ret_bool (by first | rfl | (simp; done) | (simp; omega)), by (repeat' (first | with_reducible assumption | with_reducible exact Ext.refl _ | with_reducible refine Ext.alloc ?_ _ | with_reducible refine Ext.set ?_ ?_ _ | with_reducible refine Ext.drew ?_ | with_reducible refine Ext.drewN ?_ _ | with_reducible refine Ext.trans ?_ (by assumption) | (dsimp only; omega)))⟩)
  cases h2 : spanB pl ph 50 300
  · go_enter Try.func79, Try.ntmps79
    go_wp2_with (first
      | (go_at_call 94; refine (validGrade_e _ _).mono ?_; rintro e w2 ⟨rfl, hE⟩; (first | (have hK := KC.step (n := w.heap.size + 1) (by with_reducible assumption) hE) | (have hK := KC.step (KC.step (n := w.heap.size + 1) (by with_reducible assumption) (ext_alloc1 _ _)) hE) | (have hK := KC.step (KC.refl (n := w.heap.size + 1) (by simp)) hE)); have hC := hK.cell; have hF := hK.fro; have hX := hK.ext)
      | (go_at_call 96; refine (isWithin_b _ _ _ _ _).mono ?_; rintro e w2 ⟨rfl, hE⟩; (first | (have hK := KC.step (n := w.heap.size + 1) (by with_reducible assumption) hE) | (have hK := KC.step (KC.step (n := w.heap.size + 1) (by with_reducible assumption) (ext_alloc1 _ _)) hE) | (have hK := KC.step (KC.refl (n := w.heap.size + 1) (by simp)) hE)); have hC := hK.cell; have hF := hK.fro; have hX := hK.ext))
    all_goals (go_ret; exact ⟨ret_bool (by first | rfl | (simp; done) | (simp; omega)), by (repeat' (first | with_reducible assumption | with_reducible exact Ext.refl _ | with_reducible refine Ext.alloc ?_ _ | with_reducible refine Ext.set ?_ ?_ _ | with_reducible refine Ext.drew ?_ | with_reducible refine Ext.drewN ?_ _ | with_reducible refine Ext.trans ?_ (by assumption) | (dsimp only; omega)))⟩)
  by_cases h3 : 0 ≤ l
  case neg => go_enter Try.func79, Try.ntmps79
              go_wp2_with (first
                | (go_at_call 94; refine (validGrade_e _ _).mono ?_; rintro e w2 ⟨rfl, hE⟩; (first | (have hK := KC.step (n := w.heap.size + 1) (by with_reducible assumption) hE) | (have hK := KC.step (KC.step (n := w.heap.size + 1) (by with_reducible assumption) (ext_alloc1 _ _)) hE) | (have hK := KC.step (KC.refl (n := w.heap.size + 1) (by simp)) hE)); have hC := hK.cell; have hF := hK.fro; have hX := hK.ext)
                | (go_at_call 96; refine (isWithin_b _ _ _ _ _).mono ?_; rintro e w2 ⟨rfl, hE⟩; (first | (have hK := KC.step (n := w.heap.size + 1) (by with_reducible assumption) hE) | (have hK := KC.step (KC.step (n := w.heap.size + 1) (by with_reducible assumption) (ext_alloc1 _ _)) hE) | (have hK := KC.step (KC.refl (n := w.heap.size + 1) (by simp)) hE)); have hC := hK.cell; have hF := hK.fro; have hX := hK.ext))
              all_goals (go_ret; exact ⟨ret_bool (by first | rfl | (simp; done) | (simp; omega)), by (repeat' (first | with_reducible assumption | with_reducible exact Ext.refl _ | with_reducible refine Ext.alloc ?_ _ | with_reducible refine Ext.set ?_ ?_ _ | with_reducible refine Ext.drew ?_ | with_reducible refine Ext.drewN ?_ _ | with_reducible refine Ext.trans ?_ (by assumption) | (dsimp only; omega)))⟩)
  go_enter Try.func79, Try.ntmps79
  go_wp2_with (first
    | (go_at_call 94; refine (validGrade_e _ _).mono ?_; rintro e w2 ⟨rfl, hE⟩; (first | (have hK := KC.step (n := w.heap.size + 1) (by with_reducible assumption) hE) | (have hK := KC.step (KC.step (n := w.heap.size + 1) (by with_reducible assumption) (ext_alloc1 _ _)) hE) | (have hK := KC.step (KC.refl (n := w.heap.size + 1) (by simp)) hE)); have hC := hK.cell; have hF := hK.fro; have hX := hK.ext)
    | (go_at_call 96; refine (isWithin_b _ _ _ _ _).mono ?_; rintro e w2 ⟨rfl, hE⟩; (first | (have hK := KC.step (n := w.heap.size + 1) (by with_reducible assumption) hE) | (have hK := KC.step (KC.step (n := w.heap.size + 1) (by with_reducible assumption) (ext_alloc1 _ _)) hE) | (have hK := KC.step (KC.refl (n := w.heap.size + 1) (by simp)) hE)); have hC := hK.cell; have hF := hK.fro; have hX := hK.ext))
  all_goals (go_ret; exact ⟨ret_bool (by first | rfl | (simp; done) | (simp; omega)), by (repeat' (first | with_reducible assumption | with_reducible exact Ext.refl _ | with_reducible refine Ext.alloc ?_ _ | with_reducible refine Ext.set ?_ ?_ _ | with_reducible refine Ext.drew ?_ | with_reducible refine Ext.drewN ?_ _ | with_reducible refine Ext.trans ?_ (by assumption) | (dsimp only; omega)))⟩)

set_option maxHeartbeats 400000 in
theorem begin1_any (m a : Int) (q : Nat) (v : Value) (w : World) (c0 : w.cell? ⟨q, 0, none⟩ = some (.int .i64 m)) (c1 : w.cell? ⟨q, 1, none⟩ = some v) :
    Calls Try.prog 80 #[.int .i64 a, .pointer (some ⟨q, 0, none⟩)] w fun e w' => e = .returned (.bool (!placeB m a)) ∧ Ext w w' := by
  go_enter Try.func80, Try.ntmps80
  go_wp2_with (first
    | (go_at_call 81; refine (isPlace_b _ _ _ _).mono ?_; rintro e w2 ⟨rfl, hE⟩))
  go_ret
  exact ⟨rfl, by (repeat' (first | with_reducible assumption | with_reducible exact Ext.refl _ | with_reducible refine Ext.alloc ?_ _ | with_reducible refine Ext.set ?_ ?_ _ | with_reducible refine Ext.drew ?_ | with_reducible refine Ext.drewN ?_ _ | with_reducible refine Ext.trans ?_ (by assumption) | (dsimp only; omega)))⟩

def minuteB (t : Int) : Bool := decide (0 ≤ t) && decide (t ≤ 2880)
set_option maxHeartbeats 400000 in
theorem begin2_any (a : Int) (w : World) :
    Calls Try.prog 82 #[.int .i64 a] w fun e w' => e = .returned (.bool (!minuteB a)) ∧ Ext w w' := by
  unfold minuteB
  go_enter Try.func82, Try.ntmps82
  go_wp2
  all_goals (go_ret; exact ⟨ret_bool (by first | (simp; done) | (rw [Bool.eq_iff_iff]; simp; done) | (rw [Bool.eq_iff_iff]; simp; omega)), by (repeat' (first | with_reducible assumption | with_reducible exact Ext.refl _ | with_reducible refine Ext.alloc ?_ _ | with_reducible refine Ext.set ?_ ?_ _ | with_reducible refine Ext.drew ?_ | with_reducible refine Ext.drewN ?_ _ | with_reducible refine Ext.trans ?_ (by assumption) | (dsimp only; omega)))⟩)
end Go.Proofs.Ytndoghcglbpllaa
/- The checks at the beginning of a function. -/
set_option linter.unusedSimpArgs false
set_option linter.unusedVariables false
namespace Go.Proofs.Ytndoghcglbpllaa
open Go.RowKit

def beginE (m g l pl ph : Int) (ps : List Pt) (xs ts : List Int) : Int :=
  if vNet m ps = true then if vParty g l pl ph = true then if (xs.any fun x => !placeB m x) = true then 1 else if (ts.any fun x => !minuteB x) = true then 1 else 0 else 11 else 10

set_option maxHeartbeats 1000000 in
theorem begin_ok     (m g l pl ph : Int) (A A1 A2 : Option Addr) (n c n1 c1 n2 c2 : Nat) (ps : List Pt) (xs ts : List Int) (hn : ps.length = n) (h1 : xs.length = n1) (h2 : ts.length = n2) (hm1 : n1 ≤ 1000) (hm2 : n2 ≤ 1000)
                     (w : World) (hp : PathsAt w A ps) (hx : IntsAt w A1 xs) (ht : IntsAt w A2 ts) (hb : beginE m g l pl ph ps xs ts = 0) :
    Calls Try.prog 45 #[.agg #[.int .i64 m, .slice A n c], .agg #[.int .i64 g, .int .i64 l, .int .i64 pl, .int .i64 ph], .slice A1 n1 c1, .slice A2 n2 c2] w fun e w' => e = .returned (.tuple #[.agg #[.int .i64 m, .slice A n c, .int .i64 g, .int .i64 l, .int .i64 pl, .int .i64 ph], .int .i64 0]) ∧ Ext w w' := by
  unfold beginE at hb
  have HN := hid (fun (W : World) (hW : Ext w W) => validNet_any m A n c ps hn W (PathsAt.ext hp hW))
  have HV := hid (fun (W : World) => validParty_any g l pl ph W)
  have HP := hid (fun (W : World) (hW : Ext w W) (hq : w.heap.size < W.heap.size) (c0 : W.cell? ⟨w.heap.size, 0, none⟩ = some (.int .i64 m)) (c1' : W.cell? ⟨w.heap.size, 1, none⟩ = some (.slice A n c)) =>
    containsPlace_any w.heap.size xs (fun x => !placeB m x) A1 n1 c1 h1 hm1 W (IntsAt.ext hx hW) (fun x W' h1 => begin1_any m x w.heap.size (.slice A n c) W' ((h1.cell hq).trans c0) ((h1.cell hq).trans c1')))
  have HM := hid (fun (W : World) (hW : Ext w W) => containsMinute_any 0 ts (fun x => !minuteB x) A2 n2 c2 h2 hm2 W (IntsAt.ext ht hW) (fun x W' _ => begin2_any x W'))
  clear hp hx ht hn h1 h2 hm1 hm2
  revert HN HV HP HM hb
  generalize vNet m ps = k1
  generalize vParty g l pl ph = k2
  generalize (xs.any fun x => !placeB m x) = k3
  generalize (ts.any fun x => !minuteB x) = k4
  cases k1 <;> cases k2 <;> cases k3 <;> cases k4 <;> intro hb HN HV HP HM <;> try (exact absurd hb (by decide))
  clear hb
  go_enter Try.func45, Try.ntmps45
  go_wp2_with fail
  (go_at_call 41; refine (HN.out _ (by (repeat' (first | with_reducible assumption | with_reducible exact Ext.refl _ | with_reducible refine Ext.alloc ?_ _ | with_reducible refine Ext.set ?_ ?_ _ | with_reducible refine Ext.drew ?_ | with_reducible refine Ext.drewN ?_ _ | with_reducible refine Ext.trans ?_ (by assumption) | (dsimp only; omega))))).mono ?_; rintro e w2 ⟨rfl, hE⟩; (first | (have hK := KC.step (n := w.heap.size + 3) (by with_reducible assumption) hE) | (have hK := KC.step (KC.step (n := w.heap.size + 3) (by with_reducible assumption) (ext_alloc1 _ _)) hE) | (have hK := KC.step (KC.refl (n := w.heap.size + 3) (by simp)) hE)); have hC := hK.cell; have hF := hK.fro; have hX := hK.ext)
  go_wp2_with fail
  (go_at_call 79; refine (HV.out _).mono ?_; rintro e w2 ⟨rfl, hE⟩; (first | (have hK := KC.step (n := w.heap.size + 3) (by with_reducible assumption) hE) | (have hK := KC.step (KC.step (n := w.heap.size + 3) (by with_reducible assumption) (ext_alloc1 _ _)) hE) | (have hK := KC.step (KC.refl (n := w.heap.size + 3) (by simp)) hE)); have hC := hK.cell; have hF := hK.fro; have hX := hK.ext)
  go_wp2_with fail
  (go_at_call 83; refine (HP.out _ (by (repeat' (first | with_reducible assumption | with_reducible exact Ext.refl _ | with_reducible refine Ext.alloc ?_ _ | with_reducible refine Ext.set ?_ ?_ _ | with_reducible refine Ext.drew ?_ | with_reducible refine Ext.drewN ?_ _ | with_reducible refine Ext.trans ?_ (by assumption) | (dsimp only; omega)))) (by have := hK.size; omega) (by go_simp) (by go_simp)).mono ?_; rintro e w2 ⟨rfl, hE⟩; (first | (have hK := KC.step (n := w.heap.size + 3) (by with_reducible assumption) hE) | (have hK := KC.step (KC.step (n := w.heap.size + 3) (by with_reducible assumption) (ext_alloc1 _ _)) hE) | (have hK := KC.step (KC.refl (n := w.heap.size + 3) (by simp)) hE)); have hC := hK.cell; have hF := hK.fro; have hX := hK.ext)
  go_wp2_with fail
  (go_at_call 83; refine (HM.out _ (by (repeat' (first | with_reducible assumption | with_reducible exact Ext.refl _ | with_reducible refine Ext.alloc ?_ _ | with_reducible refine Ext.set ?_ ?_ _ | with_reducible refine Ext.drew ?_ | with_reducible refine Ext.drewN ?_ _ | with_reducible refine Ext.trans ?_ (by assumption) | (dsimp only; omega))))).mono ?_; rintro e w2 ⟨rfl, hE⟩; (first | (have hK := KC.step (n := w.heap.size + 3) (by with_reducible assumption) hE) | (have hK := KC.step (KC.step (n := w.heap.size + 3) (by with_reducible assumption) (ext_alloc1 _ _)) hE) | (have hK := KC.step (KC.refl (n := w.heap.size + 3) (by simp)) hE)); have hC := hK.cell; have hF := hK.fro; have hX := hK.ext)
  go_wp2_with fail
  exact bodyPost_ret (v := .tuple #[.agg #[.int .i64 m, .slice A n c, .int .i64 g, .int .i64 l, .int .i64 pl, .int .i64 ph], .int .i64 0]) (by simp [results, Try.results45, go_sem, hC]) rfl ⟨rfl, by (repeat' (first | with_reducible assumption | with_reducible exact Ext.refl _ | with_reducible refine Ext.alloc ?_ _ | with_reducible refine Ext.set ?_ ?_ _ | with_reducible refine Ext.drew ?_ | with_reducible refine Ext.drewN ?_ _ | with_reducible refine Ext.trans ?_ (by assumption) | (dsimp only; omega)))⟩

set_option maxHeartbeats 2000000 in
theorem begin_bad     (m g l pl ph : Int) (A A1 A2 : Option Addr) (n c n1 c1 n2 c2 : Nat) (ps : List Pt) (xs ts : List Int) (hn : ps.length = n) (h1 : xs.length = n1) (h2 : ts.length = n2) (hm1 : n1 ≤ 1000) (hm2 : n2 ≤ 1000)
                      (w : World) (hp : PathsAt w A ps) (hx : IntsAt w A1 xs) (ht : IntsAt w A2 ts) (E : Int) (hE : beginE m g l pl ph ps xs ts = E) (hne : E ≠ 0) :
    Calls Try.prog 45 #[.agg #[.int .i64 m, .slice A n c], .agg #[.int .i64 g, .int .i64 l, .int .i64 pl, .int .i64 ph], .slice A1 n1 c1, .slice A2 n2 c2] w fun e w' => e = .returned (.tuple #[.agg #[.int .i64 0, .slice none 0 0, .int .i64 0, .int .i64 0, .int .i64 0, .int .i64 0], .int .i64 E]) ∧ Ext w w' := by
  unfold beginE at hE
  have HN := hid (fun (W : World) (hW : Ext w W) => validNet_any m A n c ps hn W (PathsAt.ext hp hW))
  have HV := hid (fun (W : World) => validParty_any g l pl ph W)
  have HP := hid (fun (W : World) (hW : Ext w W) (hq : w.heap.size < W.heap.size) (c0 : W.cell? ⟨w.heap.size, 0, none⟩ = some (.int .i64 m)) (c1' : W.cell? ⟨w.heap.size, 1, none⟩ = some (.slice A n c)) =>
    containsPlace_any w.heap.size xs (fun x => !placeB m x) A1 n1 c1 h1 hm1 W (IntsAt.ext hx hW) (fun x W' h1 => begin1_any m x w.heap.size (.slice A n c) W' ((h1.cell hq).trans c0) ((h1.cell hq).trans c1')))
  have HM := hid (fun (W : World) (hW : Ext w W) => containsMinute_any 0 ts (fun x => !minuteB x) A2 n2 c2 h2 hm2 W (IntsAt.ext ht hW) (fun x W' _ => begin2_any x W'))
  clear hp hx ht hn h1 h2 hm1 hm2
  revert HN HV HP HM hE
  generalize vNet m ps = k1
  generalize vParty g l pl ph = k2
  generalize (xs.any fun x => !placeB m x) = k3
  generalize (ts.any fun x => !minuteB x) = k4
  cases k1
  · intro hb HN HV HP HM
    obtain rfl : E = 10 := by simpa using hb.symm
    clear hb hne HV HP HM
    go_enter Try.func45, Try.ntmps45
    go_wp2_with fail
    (go_at_call 41; refine (HN.out _ (by (repeat' (first | with_reducible assumption | with_reducible exact Ext.refl _ | with_reducible refine Ext.alloc ?_ _ | with_reducible refine Ext.set ?_ ?_ _ | with_reducible refine Ext.drew ?_ | with_reducible refine Ext.drewN ?_ _ | with_reducible refine Ext.trans ?_ (by assumption) | (dsimp only; omega))))).mono ?_; rintro e w2 ⟨rfl, hE⟩; (first | (have hK := KC.step (n := w.heap.size + 3) (by with_reducible assumption) hE) | (have hK := KC.step (KC.step (n := w.heap.size + 3) (by with_reducible assumption) (ext_alloc1 _ _)) hE) | (have hK := KC.step (KC.refl (n := w.heap.size + 3) (by simp)) hE)); have hC := hK.cell; have hF := hK.fro; have hX := hK.ext)
    go_wp2_with fail
    exact bodyPost_ret (v := .tuple #[.agg #[.int .i64 0, .slice none 0 0, .int .i64 0, .int .i64 0, .int .i64 0, .int .i64 0], .int .i64 10]) (by simp [results, Try.results45, go_sem, hC]) rfl ⟨rfl, by (repeat' (first | with_reducible assumption | with_reducible exact Ext.refl _ | with_reducible refine Ext.alloc ?_ _ | with_reducible refine Ext.set ?_ ?_ _ | with_reducible refine Ext.drew ?_ | with_reducible refine Ext.drewN ?_ _ | with_reducible refine Ext.trans ?_ (by assumption) | (dsimp only; omega)))⟩
  cases k2
  · intro hb HN HV HP HM
    obtain rfl : E = 11 := by simpa using hb.symm
    clear hb hne HP HM
    go_enter Try.func45, Try.ntmps45
    go_wp2_with fail
    (go_at_call 41; refine (HN.out _ (by (repeat' (first | with_reducible assumption | with_reducible exact Ext.refl _ | with_reducible refine Ext.alloc ?_ _ | with_reducible refine Ext.set ?_ ?_ _ | with_reducible refine Ext.drew ?_ | with_reducible refine Ext.drewN ?_ _ | with_reducible refine Ext.trans ?_ (by assumption) | (dsimp only; omega))))).mono ?_; rintro e w2 ⟨rfl, hE⟩; (first | (have hK := KC.step (n := w.heap.size + 3) (by with_reducible assumption) hE) | (have hK := KC.step (KC.step (n := w.heap.size + 3) (by with_reducible assumption) (ext_alloc1 _ _)) hE) | (have hK := KC.step (KC.refl (n := w.heap.size + 3) (by simp)) hE)); have hC := hK.cell; have hF := hK.fro; have hX := hK.ext)
    go_wp2_with fail
    (go_at_call 79; refine (HV.out _).mono ?_; rintro e w2 ⟨rfl, hE⟩; (first | (have hK := KC.step (n := w.heap.size + 3) (by with_reducible assumption) hE) | (have hK := KC.step (KC.step (n := w.heap.size + 3) (by with_reducible assumption) (ext_alloc1 _ _)) hE) | (have hK := KC.step (KC.refl (n := w.heap.size + 3) (by simp)) hE)); have hC := hK.cell; have hF := hK.fro; have hX := hK.ext)
    go_wp2_with fail
    exact bodyPost_ret (v := .tuple #[.agg #[.int .i64 0, .slice none 0 0, .int .i64 0, .int .i64 0, .int .i64 0, .int .i64 0], .int .i64 11]) (by simp [results, Try.results45, go_sem, hC]) rfl ⟨rfl, by (repeat' (first | with_reducible assumption | with_reducible exact Ext.refl _ | with_reducible refine Ext.alloc ?_ _ | with_reducible refine Ext.set ?_ ?_ _ | with_reducible refine Ext.drew ?_ | with_reducible refine Ext.drewN ?_ _ | with_reducible refine Ext.trans ?_ (by assumption) | (dsimp only; omega)))⟩
  cases k3
  case true =>
    intro hb HN HV HP HM
    obtain rfl : E = 1 := by simpa using hb.symm
    clear hb hne HM
    go_enter Try.func45, Try.ntmps45
    go_wp2_with fail
    (go_at_call 41; refine (HN.out _ (by (repeat' (first | with_reducible assumption | with_reducible exact Ext.refl _ | with_reducible refine Ext.alloc ?_ _ | with_reducible refine Ext.set ?_ ?_ _ | with_reducible refine Ext.drew ?_ | with_reducible refine Ext.drewN ?_ _ | with_reducible refine Ext.trans ?_ (by assumption) | (dsimp only; omega))))).mono ?_; rintro e w2 ⟨rfl, hE⟩; (first | (have hK := KC.step (n := w.heap.size + 3) (by with_reducible assumption) hE) | (have hK := KC.step (KC.step (n := w.heap.size + 3) (by with_reducible assumption) (ext_alloc1 _ _)) hE) | (have hK := KC.step (KC.refl (n := w.heap.size + 3) (by simp)) hE)); have hC := hK.cell; have hF := hK.fro; have hX := hK.ext)
    go_wp2_with fail
    (go_at_call 79; refine (HV.out _).mono ?_; rintro e w2 ⟨rfl, hE⟩; (first | (have hK := KC.step (n := w.heap.size + 3) (by with_reducible assumption) hE) | (have hK := KC.step (KC.step (n := w.heap.size + 3) (by with_reducible assumption) (ext_alloc1 _ _)) hE) | (have hK := KC.step (KC.refl (n := w.heap.size + 3) (by simp)) hE)); have hC := hK.cell; have hF := hK.fro; have hX := hK.ext)
    go_wp2_with fail
    (go_at_call 83; refine (HP.out _ (by (repeat' (first | with_reducible assumption | with_reducible exact Ext.refl _ | with_reducible refine Ext.alloc ?_ _ | with_reducible refine Ext.set ?_ ?_ _ | with_reducible refine Ext.drew ?_ | with_reducible refine Ext.drewN ?_ _ | with_reducible refine Ext.trans ?_ (by assumption) | (dsimp only; omega)))) (by have := hK.size; omega) (by go_simp) (by go_simp)).mono ?_; rintro e w2 ⟨rfl, hE⟩; (first | (have hK := KC.step (n := w.heap.size + 3) (by with_reducible assumption) hE) | (have hK := KC.step (KC.step (n := w.heap.size + 3) (by with_reducible assumption) (ext_alloc1 _ _)) hE) | (have hK := KC.step (KC.refl (n := w.heap.size + 3) (by simp)) hE)); have hC := hK.cell; have hF := hK.fro; have hX := hK.ext)
    go_wp2_with fail
    exact bodyPost_ret (v := .tuple #[.agg #[.int .i64 0, .slice none 0 0, .int .i64 0, .int .i64 0, .int .i64 0, .int .i64 0], .int .i64 1]) (by simp [results, Try.results45, go_sem, hC]) rfl ⟨rfl, by (repeat' (first | with_reducible assumption | with_reducible exact Ext.refl _ | with_reducible refine Ext.alloc ?_ _ | with_reducible refine Ext.set ?_ ?_ _ | with_reducible refine Ext.drew ?_ | with_reducible refine Ext.drewN ?_ _ | with_reducible refine Ext.trans ?_ (by assumption) | (dsimp only; omega)))⟩
  cases k4
  case true =>
    intro hb HN HV HP HM
    obtain rfl : E = 1 := by simpa using hb.symm
    clear hb hne
    go_enter Try.func45, Try.ntmps45
    go_wp2_with fail
    (go_at_call 41; refine (HN.out _ (by (repeat' (first | with_reducible assumption | with_reducible exact Ext.refl _ | with_reducible refine Ext.alloc ?_ _ | with_reducible refine Ext.set ?_ ?_ _ | with_reducible refine Ext.drew ?_ | with_reducible refine Ext.drewN ?_ _ | with_reducible refine Ext.trans ?_ (by assumption) | (dsimp only; omega))))).mono ?_; rintro e w2 ⟨rfl, hE⟩; (first | (have hK := KC.step (n := w.heap.size + 3) (by with_reducible assumption) hE) | (have hK := KC.step (KC.step (n := w.heap.size + 3) (by with_reducible assumption) (ext_alloc1 _ _)) hE) | (have hK := KC.step (KC.refl (n := w.heap.size + 3) (by simp)) hE)); have hC := hK.cell; have hF := hK.fro; have hX := hK.ext)
    go_wp2_with fail
    (go_at_call 79; refine (HV.out _).mono ?_; rintro e w2 ⟨rfl, hE⟩; (first | (have hK := KC.step (n := w.heap.size + 3) (by with_reducible assumption) hE) | (have hK := KC.step (KC.step (n := w.heap.size + 3) (by with_reducible assumption) (ext_alloc1 _ _)) hE) | (have hK := KC.step (KC.refl (n := w.heap.size + 3) (by simp)) hE)); have hC := hK.cell; have hF := hK.fro; have hX := hK.ext)
    go_wp2_with fail
    (go_at_call 83; refine (HP.out _ (by (repeat' (first | with_reducible assumption | with_reducible exact Ext.refl _ | with_reducible refine Ext.alloc ?_ _ | with_reducible refine Ext.set ?_ ?_ _ | with_reducible refine Ext.drew ?_ | with_reducible refine Ext.drewN ?_ _ | with_reducible refine Ext.trans ?_ (by assumption) | (dsimp only; omega)))) (by have := hK.size; omega) (by go_simp) (by go_simp)).mono ?_; rintro e w2 ⟨rfl, hE⟩; (first | (have hK := KC.step (n := w.heap.size + 3) (by with_reducible assumption) hE) | (have hK := KC.step (KC.step (n := w.heap.size + 3) (by with_reducible assumption) (ext_alloc1 _ _)) hE) | (have hK := KC.step (KC.refl (n := w.heap.size + 3) (by simp)) hE)); have hC := hK.cell; have hF := hK.fro; have hX := hK.ext)
    go_wp2_with fail
    (go_at_call 83; refine (HM.out _ (by (repeat' (first | with_reducible assumption | with_reducible exact Ext.refl _ | with_reducible refine Ext.alloc ?_ _ | with_reducible refine Ext.set ?_ ?_ _ | with_reducible refine Ext.drew ?_ | with_reducible refine Ext.drewN ?_ _ | with_reducible refine Ext.trans ?_ (by assumption) | (dsimp only; omega))))).mono ?_; rintro e w2 ⟨rfl, hE⟩; (first | (have hK := KC.step (n := w.heap.size + 3) (by with_reducible assumption) hE) | (have hK := KC.step (KC.step (n := w.heap.size + 3) (by with_reducible assumption) (ext_alloc1 _ _)) hE) | (have hK := KC.step (KC.refl (n := w.heap.size + 3) (by simp)) hE)); have hC := hK.cell; have hF := hK.fro; have hX := hK.ext)
    go_wp2_with fail
    exact bodyPost_ret (v := .tuple #[.agg #[.int .i64 0, .slice none 0 0, .int .i64 0, .int .i64 0, .int .i64 0, .int .i64 0], .int .i64 1]) (by simp [results, Try.results45, go_sem, hC]) rfl ⟨rfl, by (repeat' (first | with_reducible assumption | with_reducible exact Ext.refl _ | with_reducible refine Ext.alloc ?_ _ | with_reducible refine Ext.set ?_ ?_ _ | with_reducible refine Ext.drew ?_ | with_reducible refine Ext.drewN ?_ _ | with_reducible refine Ext.trans ?_ (by assumption) | (dsimp only; omega)))⟩
  intro hb _ _ _ _
  exact absurd (by simpa using hb.symm) hne
end Go.Proofs.Ytndoghcglbpllaa
/- Arrive. -/
set_option linter.unusedSimpArgs false
set_option linter.unusedVariables false
namespace Go.Proofs.Ytndoghcglbpllaa
open Go.RowKit

theorem PathsAt.open_ {w : World} {A : Option Addr} {ps : List Pt} {n : Nat} (h : PathsAt w A ps) (hn : ps.length = n) : ∃ b off, (0 < n → A = some ⟨b, off, none⟩ ∧ b < w.heap.size) ∧ ∀ k, k < ps.length → ∃ A' c', PtAt w b (off + k * 8) (ps.getD k zeroPt) A' c' := by
  by_cases h0 : ps = []
  · subst h0
    exact ⟨0, 0, fun hh => by simp at hn; omega, fun k hk => by simp at hk⟩
  · obtain ⟨b, off, hA, hb, hc⟩ := h h0
    exact ⟨b, off, fun _ => ⟨hA, hb⟩, hc⟩

theorem spanB_ok {l h b c : Int} (k : spanB l h b c = true) : b ≤ l ∧ l ≤ h ∧ h ≤ c := by
  unfold spanB at k
  simp at k
  omega
theorem placeB_ok {m x : Int} (h : placeB m x = true) : 0 ≤ x ∧ x < m := by
  unfold placeB at h
  simpa using h
theorem vNet_ok {m : Int} {ps : List Pt} (h : vNet m ps = true) : 1 ≤ m ∧ m ≤ 12 ∧ NOk m.toNat ps := by
  unfold vNet at h
  simp only [Bool.and_eq_true, decide_eq_true_eq] at h
  obtain ⟨h1, h2, h3, h4⟩ := h
  have hp : ∀ i, i < ps.length → vPath m (ps.getD i zeroPt) = true := by
    intro i hi
    rw [List.all_eq_true] at h4
    simp only [List.getD, List.getElem?_eq_getElem hi, Option.getD_some]
    exact h4 _ (List.getElem_mem _)
  have hq : ∀ i, i < ps.length → placeB m (ps.getD i zeroPt).frm = true ∧ placeB m (ps.getD i zeroPt).dst = true ∧ (ps.getD i zeroPt).opens.length ≤ 6 ∧ spanB (ps.getD i zeroPt).tl (ps.getD i zeroPt).th 1 600 = true ∧ spanB (ps.getD i zeroPt).sl (ps.getD i zeroPt).sh 0 30 = true := by
    intro i hi
    have := hp i hi
    unfold vPath at this
    simp only [Bool.and_eq_true, decide_eq_true_eq] at this
    exact ⟨this.1, this.2.1, this.2.2.2.2.1, this.2.2.2.2.2.1, this.2.2.2.2.2.2.1⟩
  refine ⟨h1, h2, h3, fun i hi => ?_, fun i hi => ?_, fun i hi => ?_⟩
  · obtain ⟨_, _, q3, q4, q5⟩ := hq i hi
    have := spanB_ok q4
    have := spanB_ok q5
    exact ⟨by omega, by omega, by omega, by omega, by omega, by omega, q3⟩
  · have := placeB_ok (hq i hi).1
    omega
  · have := placeB_ok (hq i hi).2.1
    omega
theorem vParty_ok {g l pl ph : Int} (h : vParty g l pl ph = true) : PaOk l pl ph := by
  unfold vParty at h
  simp only [Bool.and_eq_true, decide_eq_true_eq] at h
  have := spanB_ok h.2.1
  exact ⟨by omega, by omega, by omega, h.2.2.1, h.2.2.2⟩

theorem begin_zero {m g l pl ph : Int} {ps : List Pt} {xs ts : List Int} (h : beginE m g l pl ph ps xs ts = 0) :
    vNet m ps = true ∧ vParty g l pl ph = true ∧ (∀ x, x ∈ xs → 0 ≤ x ∧ x < m) ∧ (∀ t, t ∈ ts → 0 ≤ t ∧ t ≤ 2880) := by
  unfold beginE at h
  split at h
  · split at h
    · split at h
      · exact absurd h (by decide)
      · split at h
        · exact absurd h (by decide)
        · rename_i h1 h2 h3 h4
          refine ⟨h1, h2, fun x hx => ?_, fun t ht => ?_⟩
          · simp only [List.any_eq_true, not_exists, not_and] at h3
            have := h3 x hx
            unfold placeB at this
            simp at this
            omega
          · simp only [List.any_eq_true, not_exists, not_and] at h4
            have := h4 t ht
            unfold minuteB at this
            simp at this
            omega
    · exact absurd h (by decide)
  · exact absurd h (by decide)

/-- What Arrive returns if all is valid. -/
def arrList (sel : Int → Int → Int) (g l pl ph : Int) (ps : List Pt) (m : Int) (from_ start : Int) : List Int := (rows sel g l pl ph ps m.toNat from_.toNat start (m.toNat - 1)).map orN
def TwoRows (xs ys : List Int) (w : World) (e : Ending) (w' : World) : Prop :=
  ∃ g1 c1 g2 c2, e = .returned (.tuple #[.slice (some ⟨g1, 0, none⟩) xs.length c1, .slice (some ⟨g2, 0, none⟩) ys.length c2, .int .i64 0]) ∧ RowAt w' g1 c1 xs ∧ RowAt w' g2 c2 ys ∧ w.heap.size ≤ g1 ∧ w.heap.size ≤ g2 ∧ Ext w w'

theorem ints_one_at {w : World} {b : Nat} {x : Int} {t : TypeId} (h : w.heap[b]? = some (.cells #[.int .i64 x] t (0, 0))) : IntsAt w (some ⟨b, 0, none⟩) [x] := fun _ => ⟨b, 0, rfl, (Array.getElem?_eq_some_iff.1 h).1, fun k hk => by
  have : k = 0 := by simpa using hk
  subst this
  have := blk_cell h 0
  simpa using this⟩

set_option maxRecDepth 100000 in
set_option maxHeartbeats 2000000 in
theorem arrive_bad (m g l pl ph from_ start : Int) (A : Option Addr) (n c : Nat) (ps : List Pt) (hn : ps.length = n) (w : World) (hp : PathsAt w A ps) (E : Int) (hE : beginE m g l pl ph ps [from_] [start] = E) (hne : E ≠ 0) :
    Calls Try.prog 19 #[.agg #[.int .i64 m, .slice A n c], .agg #[.int .i64 g, .int .i64 l, .int .i64 pl, .int .i64 ph], .int .i64 from_, .int .i64 start] w fun e w' =>
      e = .returned (.tuple #[.slice none 0 0, .slice none 0 0, .int .i64 E]) ∧ Ext w w' := by
  have HB := hid (fun (b1 b2 : Nat) (W : World) (hW : Ext w W) (h1 : IntsAt W (some ⟨b1, 0, none⟩) [from_]) (h2 : IntsAt W (some ⟨b2, 0, none⟩) [start]) => begin_bad m g l pl ph A (some ⟨b1, 0, none⟩) (some ⟨b2, 0, none⟩) n c 1 1 1 1 ps [from_] [start] hn rfl rfl (by omega) (by omega) W (hp.ext hW) h1 h2 E hE hne)
  have hneb : (E != 0) = true := by simpa using hne
  have HNB := hid hneb
  clear hp hn hE hne hneb
  go_enter Try.func19, Try.ntmps19
  go_wp2_with fail
  have t1 := two_blocks ((w.alloc (.cells #[.int .i64 m, .slice A n c] 24)).alloc (.cells #[.int .i64 g, .int .i64 l, .int .i64 pl, .int .i64 ph] 28)) (.cells #[.int .i64 from_] 3) (.cells #[.int .i64 start] 3)
  simp only [World.size_alloc] at t1
  refine (HB.out _ _ _ (by (repeat' (first | with_reducible assumption | with_reducible exact Ext.refl _ | with_reducible refine Ext.alloc ?_ _ | with_reducible refine Ext.set ?_ ?_ _ | with_reducible refine Ext.drew ?_ | with_reducible refine Ext.drewN ?_ _ | with_reducible refine Ext.trans ?_ (by assumption) | (dsimp only; omega)))) (ints_one_at t1.1) (ints_one_at t1.2.1)).mono ?_
  clear t1
  rintro e w1 ⟨rfl, hE⟩
  have EW : Ext w w1 := by (repeat' (first | with_reducible assumption | with_reducible exact Ext.refl _ | with_reducible refine Ext.alloc ?_ _ | with_reducible refine Ext.set ?_ ?_ _ | with_reducible refine Ext.drew ?_ | with_reducible refine Ext.drewN ?_ _ | with_reducible refine Ext.trans ?_ (by assumption) | (dsimp only; omega)))
  have hneb := HNB.out
  clear hE
  go_wp2_with fail
  go_ret3
  exact ⟨rfl, by (repeat' (first | with_reducible assumption | with_reducible exact Ext.refl _ | with_reducible refine Ext.alloc ?_ _ | with_reducible refine Ext.set ?_ ?_ _ | with_reducible refine Ext.drew ?_ | with_reducible refine Ext.drewN ?_ _ | with_reducible refine Ext.trans ?_ (by assumption) | (dsimp only; omega)))⟩
theorem konly {w1 w2 W : World} {n g : Nat} (e : OnlyB g w1 w2) (hg : n ≤ g) (h : ∀ b o, b < n → w1.cell? ⟨b, o, none⟩ = W.cell? ⟨b, o, none⟩) (hn : n ≤ w1.heap.size) : ∀ b o, b < n → w2.cell? ⟨b, o, none⟩ = W.cell? ⟨b, o, none⟩ :=
  fun b o hb => (World.cell?_of_block (a := ⟨b, o, none⟩) (e.block b (by omega) (fun hh => by injection hh with hh; omega))).trans (h b o hb)

theorem OnlyB.ext' {g : Nat} {a w w' : World} (k : OnlyB g w w') (h : Ext a w) (hg : a.heap.size ≤ g) : Ext a w' := OnlyB.ext h k hg

set_option maxRecDepth 100000 in
set_option maxHeartbeats 2000000 in
theorem arrive_ok (m g l pl ph from_ start : Int) (A : Option Addr) (n c : Nat) (ps : List Pt) (hn : ps.length = n) (w : World) (hp : PathsAt w A ps) (hb : beginE m g l pl ph ps [from_] [start] = 0) :
    Calls Try.prog 19 #[.agg #[.int .i64 m, .slice A n c], .agg #[.int .i64 g, .int .i64 l, .int .i64 pl, .int .i64 ph], .int .i64 from_, .int .i64 start] w
      (TwoRows (arrList selHi g l pl ph ps m from_ start) (arrList selLo g l pl ph ps m from_ start) w) := by
  obtain ⟨k1, k2, k3, k4⟩ := begin_zero hb
  obtain ⟨hm1, hm2, hN⟩ := vNet_ok k1
  have ha := vParty_ok k2
  have hfr := k3 from_ (by simp)
  have hst := k4 start (by simp)
  obtain ⟨b, off, hA, hpp⟩ := hp.open_ hn
  obtain ⟨mm, rfl⟩ : ∃ k : Nat, m = k := ⟨m.toNat, by omega⟩
  obtain ⟨fr, rfl⟩ : ∃ k : Nat, from_ = k := ⟨from_.toNat, by omega⟩
  rw [Int.toNat_natCast] at hN
  unfold arrList
  rw [Int.toNat_natCast, Int.toNat_natCast]
  have HB := hid (fun (b1 b2 : Nat) (W : World) (hW : Ext w W) (h1 : IntsAt W (some ⟨b1, 0, none⟩) [(fr : Int)]) (h2 : IntsAt W (some ⟨b2, 0, none⟩) [start]) => begin_ok mm g l pl ph A (some ⟨b1, 0, none⟩) (some ⟨b2, 0, none⟩) n c 1 1 1 1 ps [(fr : Int)] [start] hn rfl rfl (by omega) (by omega) W (hp.ext hW) h1 h2 hb)
  have HS := hid (fun (W : World) (hE : Ext w W) => sure_any g l pl ph n c b off ps hn A mm (by omega) (by omega) hN ha fr (by omega) start hst.1 (by omega) W (fun h0 => ⟨(hA h0).1, Nat.lt_of_lt_of_le (hA h0).2 hE.size⟩)
      (fun k hk => by obtain ⟨A', c', h⟩ := hpp k hk; exact ⟨A', c', h.ext (hA (by omega)).2 hE⟩))
  have HT := hid (fun (W : World) (hE : Ext w W) => best_any g l pl ph n c b off ps hn A mm (by omega) (by omega) hN ha fr (by omega) start hst.1 (by omega) W (fun h0 => ⟨(hA h0).1, Nat.lt_of_lt_of_le (hA h0).2 hE.size⟩)
      (fun k hk => by obtain ⟨A', c', h⟩ := hpp k hk; exact ⟨A', c', h.ext (hA (by omega)).2 hE⟩))
  have hl1 := (rows_bd selHi_pos (g := g) ha hN (from_ := fr) hst.1 (by omega : start ≤ 2881) (mm - 1)).1
  have hl2 := (rows_bd selLo_pos (g := g) ha hN (from_ := fr) hst.1 (by omega : start ≤ 2881) (mm - 1)).1
  revert HS HT hl1 hl2
  generalize rows selHi g l pl ph ps mm fr start (mm - 1) = xs
  generalize rows selLo g l pl ph ps mm fr start (mm - 1) = ys
  intro HS HT hl1 hl2
  have HL1 := hid hl1
  have HL2 := hid hl2
  simp only [wbox] at HS HT
  clear hp hn hb k1 k2 k3 k4 hN ha hfr hst hA hpp hl1 hl2
  go_enter Try.func19, Try.ntmps19
  go_wp2_with fail
  have t1 := two_blocks ((w.alloc (.cells #[.int .i64 (mm : Int), .slice A n c] 24)).alloc (.cells #[.int .i64 g, .int .i64 l, .int .i64 pl, .int .i64 ph] 28)) (.cells #[.int .i64 (fr : Int)] 3) (.cells #[.int .i64 start] 3)
  simp only [World.size_alloc] at t1
  refine (HB.out _ _ _ (by (repeat' (first | with_reducible assumption | with_reducible exact Ext.refl _ | with_reducible refine Ext.alloc ?_ _ | with_reducible refine Ext.set ?_ ?_ _ | with_reducible refine Ext.drew ?_ | with_reducible refine Ext.drewN ?_ _ | with_reducible refine Ext.trans ?_ (by assumption) | (dsimp only; omega)))) (ints_one_at t1.1) (ints_one_at t1.2.1)).mono ?_
  clear t1
  rintro e w1 ⟨rfl, hE⟩
  have EW : Ext w w1 := by (repeat' (first | with_reducible assumption | with_reducible exact Ext.refl _ | with_reducible refine Ext.alloc ?_ _ | with_reducible refine Ext.set ?_ ?_ _ | with_reducible refine Ext.drew ?_ | with_reducible refine Ext.drewN ?_ _ | with_reducible refine Ext.trans ?_ (by assumption) | (dsimp only; omega)))
  have hz0 : w.heap.size ≤ w1.heap.size := EW.size
  clear hE HB
  go_wp2_with fail
  refine wp_abs (fun W => (W.cell? ⟨w1.heap.size, 0, none⟩ = some (.int .i64 (mm : Int)) ∧ W.cell? ⟨w1.heap.size, 1, none⟩ = some (.slice A n c) ∧ W.cell? ⟨w1.heap.size, 2, none⟩ = some (.int .i64 g) ∧ W.cell? ⟨w1.heap.size, 3, none⟩ = some (.int .i64 l) ∧ W.cell? ⟨w1.heap.size, 4, none⟩ = some (.int .i64 pl) ∧ W.cell? ⟨w1.heap.size, 5, none⟩ = some (.int .i64 ph)) ∧ w1.heap.size + 1 ≤ W.heap.size ∧ Ext w W) ⟨by go_simp, by simp, by (repeat' (first | with_reducible assumption | with_reducible exact Ext.refl _ | with_reducible refine Ext.alloc ?_ _ | with_reducible refine Ext.set ?_ ?_ _ | with_reducible refine Ext.drew ?_ | with_reducible refine Ext.drewN ?_ _ | with_reducible refine Ext.trans ?_ (by assumption) | (dsimp only; omega)))⟩ ?_
  rintro W ⟨⟨c0, c1, c2, c3, c4, c5⟩, hz, hE⟩
  go_region_held3 (fun w' => (∀ b o, b < w1.heap.size + 1 → w'.cell? ⟨b, o, none⟩ = W.cell? ⟨b, o, none⟩) ∧ w1.heap.size + 1 ≤ w'.heap.size ∧ Ext w w')
    ((first | (((try dsimp only); go_split_ands; (repeat' apply And.intro) <;> first | assumption | exact kcell (by assumption) (by omega) (by assumption) | exact kcell_refl _ _ | exact kcell_set (kcell_set (by assumption) (by dsimp only; omega) _) (by dsimp only; omega) _ | exact kcell_set (by assumption) (by dsimp only; omega) _ | exact held_ext (by assumption) (by dsimp only; omega) (by assumption) | exact hfrozen_ext (by assumption) (by dsimp only; omega) (by assumption) | exact Ext.sizeLe (by assumption) (by assumption) | exact Ext.trans (by assumption) (by assumption) | exact Ext.drew (by assumption) | exact held_set _ _ _ _ (held_set _ _ _ _ (by assumption)) | exact held_set _ _ _ _ (by assumption) | exact hfrozen_set _ _ (hfrozen_set _ _ (by assumption)) | exact hfrozen_set _ _ (by assumption) | exact hsize_set _ _ (hsize_set _ _ (by assumption)) | exact hsize_set _ _ (by assumption) | exact Ext.set (Ext.set (by assumption) (by dsimp only; omega) _) (by dsimp only; omega) _ | exact Ext.set (by assumption) (by dsimp only; omega) _); done) | ((try dsimp only); go_split_ands; exact ⟨konly (by assumption) (by assumption) (by assumption) (by assumption), Nat.le_trans (by assumption) (World.grownBy.size (by assumption)), OnlyB.ext' (by assumption) (by assumption) (by omega)⟩)))
    (first
      | (go_at_call 52; refine (HS.out _ ‹_ ∧ _ ∧ Ext _ _›.2.2).mono ?_; rintro e w2 ⟨g1, cap1, rfl, r1, s1, hE2⟩; have hg1 := Nat.le_trans (‹_ ∧ _ ∧ Ext _ _›.2.1) s1)
      | (go_at_call 53; refine (HT.out _ ‹_ ∧ _ ∧ Ext _ _›.2.2).mono ?_; rintro e w4 ⟨g2, cap2, rfl, r2, s2, hE4⟩; have hg2 := Nat.le_trans (‹_ ∧ _ ∧ Ext _ _›.2.1) s2)
      | (go_at_call 51; refine (orNone_any _ _ _ _ rfl (by first | (rw [HL1.out]; omega) | (rw [HL2.out]; omega)) _ (by assumption)).mono ?_; rintro e w3 ⟨rfl, hR3, hO3⟩))
  rename_i hH
  try dsimp only at hH
  obtain ⟨-, -, hx⟩ := hH
  have hne : g1 ≠ g2 := by
    have := (‹RowAt _ g1 cap1 (List.map orN xs)›).lt
    omega
  have F1 : RowAt _ g1 cap1 (List.map orN xs) := OnlyB.row hO3 (RowAt.ext ‹RowAt _ g1 cap1 (List.map orN xs)› hE4) hne
  have FF := hid (And.intro F1 (And.intro hR3 hx))
  have hg1' : w.heap.size ≤ g1 := by omega
  have hg2' : w.heap.size ≤ g2 := by omega
  clear F1 hR3 hx c0 c1 c2 c3 c4 c5
  go_wp2
  go_ret3
  exact ⟨g1, cap1, g2, cap2, by rw [List.length_map, List.length_map]; rfl, FF.out.1, FF.out.2.1, hg1', hg2', FF.out.2.2⟩
end Go.Proofs.Ytndoghcglbpllaa
