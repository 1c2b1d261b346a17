/- Which nets and rules are valid: the code. -/
import Derived.Test.YtecamnhnjmldcaaGreatDoorB15
set_option linter.unusedSimpArgs false
set_option linter.unusedVariables false
namespace Go.Proofs.YtecamnhnjmldcaaGreatDoor
open Go.RowKit
def placeB (m x : Int) : Bool := decide (0 ≤ x) && decide (x < m)
def gradeB (g : Int) : Bool := decide (1 ≤ g) && decide (g ≤ 6)
def spanB (l h b c : Int) : Bool := decide (b ≤ l) && decide (l ≤ h) && decide (h ≤ c)
def openB (o : Int × Int) : Bool := spanB o.1 o.2 0 2880
def vPath (m : Int) (p : Pt) : Bool :=
  placeB m p.frm && (placeB m p.dst && (!(p.frm == p.dst) && (gradeB p.grade && (decide (p.opens.length ≤ 6) && (spanB p.tl p.th 1 600 && (spanB p.sl p.sh 0 30 && p.opens.all openB))))))
def vNet (m : Int) (ps : List Pt) : Bool := decide (1 ≤ m) && (decide (m ≤ 12) && (decide (ps.length ≤ 24) && ps.all (vPath m)))
theorem all_any {α : Type} (p : α → Bool) (xs : List α) : xs.all p = !(xs.any fun x => !p x) := by induction xs with
  | nil => rfl
  | cons x xs ih => simp [ih]
set_option maxHeartbeats 400000 in
theorem isPlace_b (m a : Int) (v : Value) (w : World) : Calls Tryz.prog 118 #[.agg #[.int .i64 m, v], .int .i64 a] w fun e w' => e = .returned (.bool (placeB m a)) ∧ Ext w w' := by
  unfold placeB
  go_enter Tryz.func118, Tryz.ntmps118
  go_wp2
  all_goals (go_ret; exact ⟨ret_bool (by first | (simp [*]; done) | (simp [*]; omega)), by (repeat' (first | with_reducible assumption | with_reducible exact Ext.refl _ | with_reducible refine Ext.alloc ?_ _ | with_reducible refine Ext.set ?_ ?_ _ | with_reducible refine Ext.drew ?_ | with_reducible refine Ext.drewN ?_ _ | with_reducible refine Ext.trans ?_ (by assumption) | (dsimp only; omega)))⟩)
set_option maxHeartbeats 400000 in
theorem validGrade_b (a : Int) (w : World) : Calls Tryz.prog 145 #[.int .i64 a] w fun e w' => e = .returned (.bool (gradeB a)) ∧ w' = w := by
  unfold gradeB
  go_enter Tryz.func145, Tryz.ntmps145
  go_wp2
  all_goals (go_ret; exact ⟨ret_bool (by first | (simp [*]; done) | (simp [*]; omega)), rfl⟩)
set_option maxHeartbeats 400000 in
theorem isWithin_b (l h b c : Int) (w : World) : Calls Tryz.prog 146 #[.agg #[.int .i64 l, .int .i64 h], .int .i64 b, .int .i64 c] w fun e w' => e = .returned (.bool (spanB l h b c)) ∧ Ext w w' := by
  unfold spanB
  go_enter Tryz.func146, Tryz.ntmps146
  go_wp2
  all_goals (go_ret; exact ⟨ret_bool (by first | (simp [*]; done) | (simp [*]; omega)), by (repeat' (first | with_reducible assumption | with_reducible exact Ext.refl _ | with_reducible refine Ext.alloc ?_ _ | with_reducible refine Ext.set ?_ ?_ _ | with_reducible refine Ext.drew ?_ | with_reducible refine Ext.drewN ?_ _ | with_reducible refine Ext.trans ?_ (by assumption) | (dsimp only; omega)))⟩)
set_option maxHeartbeats 400000 in
theorem validPath1_any (l h : Int) (w : World) :
    Calls Tryz.prog 152 #[.agg #[.int .i64 l, .int .i64 h]] w fun e w' => e = .returned (.bool (!spanB l h 0 2880)) ∧ Ext w w' := by
  go_enter Tryz.func152, Tryz.ntmps152
  go_wp2_with (go_at_call 146; refine (isWithin_b _ _ _ _ _).mono ?_; rintro e w2 ⟨rfl, hE⟩)
  go_ret
  exact ⟨rfl, by (repeat' (first | with_reducible assumption | with_reducible exact Ext.refl _ | with_reducible refine Ext.alloc ?_ _ | with_reducible refine Ext.set ?_ ?_ _ | with_reducible refine Ext.drew ?_ | with_reducible refine Ext.drewN ?_ _ | with_reducible refine Ext.trans ?_ (by assumption) | (dsimp only; omega)))⟩
set_option maxHeartbeats 2000000 in
theorem validPath_any (m : Int) (v : Value) (p : Pt) (A : Option Addr) (c : Nat) (w : World) (ho : OpensAt w A p.opens) :
    Calls Tryz.prog 140 #[.agg #[.int .i64 m, v], p.val A c] w fun e w' => e = .returned (.bool (vPath m p)) ∧ Ext w w' := by
  obtain ⟨f, d, g, tl, th, sl, sh, os⟩ := p
  dsimp only at ho
  unfold Pt.val vPath
  dsimp only
  rw [all_any]
  have HCF := hid (fun (hm : os.length ≤ 1000) (W : World) (hW : Ext w W) => containsSp_any 152 #[] (fun _ _ => by kernel_rfl) os (fun o => !openB o) A os.length c rfl (by omega) W (OpensAt.ext ho hW) (fun x W _ _ => validPath1_any x.1 x.2 W))
  clear ho
  cases h1 : placeB m f
  · go_enter Tryz.func140, Tryz.ntmps140
    go_wp2_with (first
      | (go_at_call 118; refine (isPlace_b _ _ _ _).mono ?_; rintro e w2 ⟨rfl, hE⟩; (first | (have hK := KC.step (n := w.heap.size + 2) (by with_reducible assumption) hE) | (have hK := KC.step (KC.step (n := w.heap.size + 2) (by with_reducible assumption) (ext_alloc1 _ _)) hE) | (have hK := KC.step (KC.refl (n := w.heap.size + 2) (by simp)) hE)); have hC := hK.cell; have hF := hK.fro; have hX := hK.ext)
      | (go_at_call 145; refine (validGrade_b _ _).mono ?_; rintro e w2 ⟨rfl, rfl⟩)
      | (go_at_call 146; refine (isWithin_b _ _ _ _ _).mono ?_; rintro e w2 ⟨rfl, hE⟩; (first | (have hK := KC.step (n := w.heap.size + 2) (by with_reducible assumption) hE) | (have hK := KC.step (KC.step (n := w.heap.size + 2) (by with_reducible assumption) (ext_alloc1 _ _)) hE) | (have hK := KC.step (KC.refl (n := w.heap.size + 2) (by simp)) hE)); have hC := hK.cell; have hF := hK.fro; have hX := hK.ext)
      | (go_at_call 143; refine (HCF.out (by omega) _ (by (repeat' (first | with_reducible assumption | with_reducible exact Ext.refl _ | with_reducible refine Ext.alloc ?_ _ | with_reducible refine Ext.set ?_ ?_ _ | with_reducible refine Ext.drew ?_ | with_reducible refine Ext.drewN ?_ _ | with_reducible refine Ext.trans ?_ (by assumption) | (dsimp only; omega))))).mono ?_; rintro e w2 ⟨rfl, hE⟩; (first | (have hK := KC.step (n := w.heap.size + 2) (by with_reducible assumption) hE) | (have hK := KC.step (KC.step (n := w.heap.size + 2) (by with_reducible assumption) (ext_alloc1 _ _)) hE) | (have hK := KC.step (KC.refl (n := w.heap.size + 2) (by simp)) hE)); have hC := hK.cell; have hF := hK.fro; have hX := hK.ext))
    go_ret
    exact ⟨ret_bool (by first | rfl | (simp; done) | (simp [h5]; done)), by (repeat' (first | with_reducible assumption | with_reducible exact Ext.refl _ | with_reducible refine Ext.alloc ?_ _ | with_reducible refine Ext.set ?_ ?_ _ | with_reducible refine Ext.drew ?_ | with_reducible refine Ext.drewN ?_ _ | with_reducible refine Ext.trans ?_ (by assumption) | (dsimp only; omega)))⟩
  cases h2 : placeB m d
  · go_enter Tryz.func140, Tryz.ntmps140
    go_wp2_with (first
      | (go_at_call 118; refine (isPlace_b _ _ _ _).mono ?_; rintro e w2 ⟨rfl, hE⟩; (first | (have hK := KC.step (n := w.heap.size + 2) (by with_reducible assumption) hE) | (have hK := KC.step (KC.step (n := w.heap.size + 2) (by with_reducible assumption) (ext_alloc1 _ _)) hE) | (have hK := KC.step (KC.refl (n := w.heap.size + 2) (by simp)) hE)); have hC := hK.cell; have hF := hK.fro; have hX := hK.ext)
      | (go_at_call 145; refine (validGrade_b _ _).mono ?_; rintro e w2 ⟨rfl, rfl⟩)
      | (go_at_call 146; refine (isWithin_b _ _ _ _ _).mono ?_; rintro e w2 ⟨rfl, hE⟩; (first | (have hK := KC.step (n := w.heap.size + 2) (by with_reducible assumption) hE) | (have hK := KC.step (KC.step (n := w.heap.size + 2) (by with_reducible assumption) (ext_alloc1 _ _)) hE) | (have hK := KC.step (KC.refl (n := w.heap.size + 2) (by simp)) hE)); have hC := hK.cell; have hF := hK.fro; have hX := hK.ext)
      | (go_at_call 143; refine (HCF.out (by omega) _ (by (repeat' (first | with_reducible assumption | with_reducible exact Ext.refl _ | with_reducible refine Ext.alloc ?_ _ | with_reducible refine Ext.set ?_ ?_ _ | with_reducible refine Ext.drew ?_ | with_reducible refine Ext.drewN ?_ _ | with_reducible refine Ext.trans ?_ (by assumption) | (dsimp only; omega))))).mono ?_; rintro e w2 ⟨rfl, hE⟩; (first | (have hK := KC.step (n := w.heap.size + 2) (by with_reducible assumption) hE) | (have hK := KC.step (KC.step (n := w.heap.size + 2) (by with_reducible assumption) (ext_alloc1 _ _)) hE) | (have hK := KC.step (KC.refl (n := w.heap.size + 2) (by simp)) hE)); have hC := hK.cell; have hF := hK.fro; have hX := hK.ext))
    go_ret
    exact ⟨ret_bool (by first | rfl | (simp; done) | (simp [h5]; done)), by (repeat' (first | with_reducible assumption | with_reducible exact Ext.refl _ | with_reducible refine Ext.alloc ?_ _ | with_reducible refine Ext.set ?_ ?_ _ | with_reducible refine Ext.drew ?_ | with_reducible refine Ext.drewN ?_ _ | with_reducible refine Ext.trans ?_ (by assumption) | (dsimp only; omega)))⟩
  cases h3 : (f == d)
  case true =>
    go_enter Tryz.func140, Tryz.ntmps140
    go_wp2_with (first
      | (go_at_call 118; refine (isPlace_b _ _ _ _).mono ?_; rintro e w2 ⟨rfl, hE⟩; (first | (have hK := KC.step (n := w.heap.size + 2) (by with_reducible assumption) hE) | (have hK := KC.step (KC.step (n := w.heap.size + 2) (by with_reducible assumption) (ext_alloc1 _ _)) hE) | (have hK := KC.step (KC.refl (n := w.heap.size + 2) (by simp)) hE)); have hC := hK.cell; have hF := hK.fro; have hX := hK.ext)
      | (go_at_call 145; refine (validGrade_b _ _).mono ?_; rintro e w2 ⟨rfl, rfl⟩)
      | (go_at_call 146; refine (isWithin_b _ _ _ _ _).mono ?_; rintro e w2 ⟨rfl, hE⟩; (first | (have hK := KC.step (n := w.heap.size + 2) (by with_reducible assumption) hE) | (have hK := KC.step (KC.step (n := w.heap.size + 2) (by with_reducible assumption) (ext_alloc1 _ _)) hE) | (have hK := KC.step (KC.refl (n := w.heap.size + 2) (by simp)) hE)); have hC := hK.cell; have hF := hK.fro; have hX := hK.ext)
      | (go_at_call 143; refine (HCF.out (by omega) _ (by (repeat' (first | with_reducible assumption | with_reducible exact Ext.refl _ | with_reducible refine Ext.alloc ?_ _ | with_reducible refine Ext.set ?_ ?_ _ | with_reducible refine Ext.drew ?_ | with_reducible refine Ext.drewN ?_ _ | with_reducible refine Ext.trans ?_ (by assumption) | (dsimp only; omega))))).mono ?_; rintro e w2 ⟨rfl, hE⟩; (first | (have hK := KC.step (n := w.heap.size + 2) (by with_reducible assumption) hE) | (have hK := KC.step (KC.step (n := w.heap.size + 2) (by with_reducible assumption) (ext_alloc1 _ _)) hE) | (have hK := KC.step (KC.refl (n := w.heap.size + 2) (by simp)) hE)); have hC := hK.cell; have hF := hK.fro; have hX := hK.ext))
    go_ret
    exact ⟨ret_bool (by first | rfl | (simp; done) | (simp [h5]; done)), by (repeat' (first | with_reducible assumption | with_reducible exact Ext.refl _ | with_reducible refine Ext.alloc ?_ _ | with_reducible refine Ext.set ?_ ?_ _ | with_reducible refine Ext.drew ?_ | with_reducible refine Ext.drewN ?_ _ | with_reducible refine Ext.trans ?_ (by assumption) | (dsimp only; omega)))⟩
  cases h4 : gradeB g
  · go_enter Tryz.func140, Tryz.ntmps140
    go_wp2_with (first
      | (go_at_call 118; refine (isPlace_b _ _ _ _).mono ?_; rintro e w2 ⟨rfl, hE⟩; (first | (have hK := KC.step (n := w.heap.size + 2) (by with_reducible assumption) hE) | (have hK := KC.step (KC.step (n := w.heap.size + 2) (by with_reducible assumption) (ext_alloc1 _ _)) hE) | (have hK := KC.step (KC.refl (n := w.heap.size + 2) (by simp)) hE)); have hC := hK.cell; have hF := hK.fro; have hX := hK.ext)
      | (go_at_call 145; refine (validGrade_b _ _).mono ?_; rintro e w2 ⟨rfl, rfl⟩)
      | (go_at_call 146; refine (isWithin_b _ _ _ _ _).mono ?_; rintro e w2 ⟨rfl, hE⟩; (first | (have hK := KC.step (n := w.heap.size + 2) (by with_reducible assumption) hE) | (have hK := KC.step (KC.step (n := w.heap.size + 2) (by with_reducible assumption) (ext_alloc1 _ _)) hE) | (have hK := KC.step (KC.refl (n := w.heap.size + 2) (by simp)) hE)); have hC := hK.cell; have hF := hK.fro; have hX := hK.ext)
      | (go_at_call 143; refine (HCF.out (by omega) _ (by (repeat' (first | with_reducible assumption | with_reducible exact Ext.refl _ | with_reducible refine Ext.alloc ?_ _ | with_reducible refine Ext.set ?_ ?_ _ | with_reducible refine Ext.drew ?_ | with_reducible refine Ext.drewN ?_ _ | with_reducible refine Ext.trans ?_ (by assumption) | (dsimp only; omega))))).mono ?_; rintro e w2 ⟨rfl, hE⟩; (first | (have hK := KC.step (n := w.heap.size + 2) (by with_reducible assumption) hE) | (have hK := KC.step (KC.step (n := w.heap.size + 2) (by with_reducible assumption) (ext_alloc1 _ _)) hE) | (have hK := KC.step (KC.refl (n := w.heap.size + 2) (by simp)) hE)); have hC := hK.cell; have hF := hK.fro; have hX := hK.ext))
    go_ret
    exact ⟨ret_bool (by first | rfl | (simp; done) | (simp [h5]; done)), by (repeat' (first | with_reducible assumption | with_reducible exact Ext.refl _ | with_reducible refine Ext.alloc ?_ _ | with_reducible refine Ext.set ?_ ?_ _ | with_reducible refine Ext.drew ?_ | with_reducible refine Ext.drewN ?_ _ | with_reducible refine Ext.trans ?_ (by assumption) | (dsimp only; omega)))⟩
  by_cases h5 : os.length ≤ 6
  case neg =>
    go_enter Tryz.func140, Tryz.ntmps140
    go_wp2_with (first
      | (go_at_call 118; refine (isPlace_b _ _ _ _).mono ?_; rintro e w2 ⟨rfl, hE⟩; (first | (have hK := KC.step (n := w.heap.size + 2) (by with_reducible assumption) hE) | (have hK := KC.step (KC.step (n := w.heap.size + 2) (by with_reducible assumption) (ext_alloc1 _ _)) hE) | (have hK := KC.step (KC.refl (n := w.heap.size + 2) (by simp)) hE)); have hC := hK.cell; have hF := hK.fro; have hX := hK.ext)
      | (go_at_call 145; refine (validGrade_b _ _).mono ?_; rintro e w2 ⟨rfl, rfl⟩)
      | (go_at_call 146; refine (isWithin_b _ _ _ _ _).mono ?_; rintro e w2 ⟨rfl, hE⟩; (first | (have hK := KC.step (n := w.heap.size + 2) (by with_reducible assumption) hE) | (have hK := KC.step (KC.step (n := w.heap.size + 2) (by with_reducible assumption) (ext_alloc1 _ _)) hE) | (have hK := KC.step (KC.refl (n := w.heap.size + 2) (by simp)) hE)); have hC := hK.cell; have hF := hK.fro; have hX := hK.ext)
      | (go_at_call 143; refine (HCF.out (by omega) _ (by (repeat' (first | with_reducible assumption | with_reducible exact Ext.refl _ | with_reducible refine Ext.alloc ?_ _ | with_reducible refine Ext.set ?_ ?_ _ | with_reducible refine Ext.drew ?_ | with_reducible refine Ext.drewN ?_ _ | with_reducible refine Ext.trans ?_ (by assumption) | (dsimp only; omega))))).mono ?_; rintro e w2 ⟨rfl, hE⟩; (first | (have hK := KC.step (n := w.heap.size + 2) (by with_reducible assumption) hE) | (have hK := KC.step (KC.step (n := w.heap.size + 2) (by with_reducible assumption) (ext_alloc1 _ _)) hE) | (have hK := KC.step (KC.refl (n := w.heap.size + 2) (by simp)) hE)); have hC := hK.cell; have hF := hK.fro; have hX := hK.ext))
    go_ret
    exact ⟨ret_bool (by first | rfl | (simp; done) | (simp [h5]; done)), by (repeat' (first | with_reducible assumption | with_reducible exact Ext.refl _ | with_reducible refine Ext.alloc ?_ _ | with_reducible refine Ext.set ?_ ?_ _ | with_reducible refine Ext.drew ?_ | with_reducible refine Ext.drewN ?_ _ | with_reducible refine Ext.trans ?_ (by assumption) | (dsimp only; omega)))⟩
  cases h6 : spanB tl th 1 600
  · go_enter Tryz.func140, Tryz.ntmps140
    go_wp2_with (first
      | (go_at_call 118; refine (isPlace_b _ _ _ _).mono ?_; rintro e w2 ⟨rfl, hE⟩; (first | (have hK := KC.step (n := w.heap.size + 2) (by with_reducible assumption) hE) | (have hK := KC.step (KC.step (n := w.heap.size + 2) (by with_reducible assumption) (ext_alloc1 _ _)) hE) | (have hK := KC.step (KC.refl (n := w.heap.size + 2) (by simp)) hE)); have hC := hK.cell; have hF := hK.fro; have hX := hK.ext)
      | (go_at_call 145; refine (validGrade_b _ _).mono ?_; rintro e w2 ⟨rfl, rfl⟩)
      | (go_at_call 146; refine (isWithin_b _ _ _ _ _).mono ?_; rintro e w2 ⟨rfl, hE⟩; (first | (have hK := KC.step (n := w.heap.size + 2) (by with_reducible assumption) hE) | (have hK := KC.step (KC.step (n := w.heap.size + 2) (by with_reducible assumption) (ext_alloc1 _ _)) hE) | (have hK := KC.step (KC.refl (n := w.heap.size + 2) (by simp)) hE)); have hC := hK.cell; have hF := hK.fro; have hX := hK.ext)
      | (go_at_call 143; refine (HCF.out (by omega) _ (by (repeat' (first | with_reducible assumption | with_reducible exact Ext.refl _ | with_reducible refine Ext.alloc ?_ _ | with_reducible refine Ext.set ?_ ?_ _ | with_reducible refine Ext.drew ?_ | with_reducible refine Ext.drewN ?_ _ | with_reducible refine Ext.trans ?_ (by assumption) | (dsimp only; omega))))).mono ?_; rintro e w2 ⟨rfl, hE⟩; (first | (have hK := KC.step (n := w.heap.size + 2) (by with_reducible assumption) hE) | (have hK := KC.step (KC.step (n := w.heap.size + 2) (by with_reducible assumption) (ext_alloc1 _ _)) hE) | (have hK := KC.step (KC.refl (n := w.heap.size + 2) (by simp)) hE)); have hC := hK.cell; have hF := hK.fro; have hX := hK.ext))
    go_ret
    exact ⟨ret_bool (by first | rfl | (simp; done) | (simp [h5]; done)), by (repeat' (first | with_reducible assumption | with_reducible exact Ext.refl _ | with_reducible refine Ext.alloc ?_ _ | with_reducible refine Ext.set ?_ ?_ _ | with_reducible refine Ext.drew ?_ | with_reducible refine Ext.drewN ?_ _ | with_reducible refine Ext.trans ?_ (by assumption) | (dsimp only; omega)))⟩
  cases h7 : spanB sl sh 0 30
  · go_enter Tryz.func140, Tryz.ntmps140
    go_wp2_with (first
      | (go_at_call 118; refine (isPlace_b _ _ _ _).mono ?_; rintro e w2 ⟨rfl, hE⟩; (first | (have hK := KC.step (n := w.heap.size + 2) (by with_reducible assumption) hE) | (have hK := KC.step (KC.step (n := w.heap.size + 2) (by with_reducible assumption) (ext_alloc1 _ _)) hE) | (have hK := KC.step (KC.refl (n := w.heap.size + 2) (by simp)) hE)); have hC := hK.cell; have hF := hK.fro; have hX := hK.ext)
      | (go_at_call 145; refine (validGrade_b _ _).mono ?_; rintro e w2 ⟨rfl, rfl⟩)
      | (go_at_call 146; refine (isWithin_b _ _ _ _ _).mono ?_; rintro e w2 ⟨rfl, hE⟩; (first | (have hK := KC.step (n := w.heap.size + 2) (by with_reducible assumption) hE) | (have hK := KC.step (KC.step (n := w.heap.size + 2) (by with_reducible assumption) (ext_alloc1 _ _)) hE) | (have hK := KC.step (KC.refl (n := w.heap.size + 2) (by simp)) hE)); have hC := hK.cell; have hF := hK.fro; have hX := hK.ext)
      | (go_at_call 143; refine (HCF.out (by omega) _ (by (repeat' (first | with_reducible assumption | with_reducible exact Ext.refl _ | with_reducible refine Ext.alloc ?_ _ | with_reducible refine Ext.set ?_ ?_ _ | with_reducible refine Ext.drew ?_ | with_reducible refine Ext.drewN ?_ _ | with_reducible refine Ext.trans ?_ (by assumption) | (dsimp only; omega))))).mono ?_; rintro e w2 ⟨rfl, hE⟩; (first | (have hK := KC.step (n := w.heap.size + 2) (by with_reducible assumption) hE) | (have hK := KC.step (KC.step (n := w.heap.size + 2) (by with_reducible assumption) (ext_alloc1 _ _)) hE) | (have hK := KC.step (KC.refl (n := w.heap.size + 2) (by simp)) hE)); have hC := hK.cell; have hF := hK.fro; have hX := hK.ext))
    go_ret
    exact ⟨ret_bool (by first | rfl | (simp; done) | (simp [h5]; done)), by (repeat' (first | with_reducible assumption | with_reducible exact Ext.refl _ | with_reducible refine Ext.alloc ?_ _ | with_reducible refine Ext.set ?_ ?_ _ | with_reducible refine Ext.drew ?_ | with_reducible refine Ext.drewN ?_ _ | with_reducible refine Ext.trans ?_ (by assumption) | (dsimp only; omega)))⟩
  go_enter Tryz.func140, Tryz.ntmps140
  go_wp2_with (first
    | (go_at_call 118; refine (isPlace_b _ _ _ _).mono ?_; rintro e w2 ⟨rfl, hE⟩; (first | (have hK := KC.step (n := w.heap.size + 2) (by with_reducible assumption) hE) | (have hK := KC.step (KC.step (n := w.heap.size + 2) (by with_reducible assumption) (ext_alloc1 _ _)) hE) | (have hK := KC.step (KC.refl (n := w.heap.size + 2) (by simp)) hE)); have hC := hK.cell; have hF := hK.fro; have hX := hK.ext)
    | (go_at_call 145; refine (validGrade_b _ _).mono ?_; rintro e w2 ⟨rfl, rfl⟩)
    | (go_at_call 146; refine (isWithin_b _ _ _ _ _).mono ?_; rintro e w2 ⟨rfl, hE⟩; (first | (have hK := KC.step (n := w.heap.size + 2) (by with_reducible assumption) hE) | (have hK := KC.step (KC.step (n := w.heap.size + 2) (by with_reducible assumption) (ext_alloc1 _ _)) hE) | (have hK := KC.step (KC.refl (n := w.heap.size + 2) (by simp)) hE)); have hC := hK.cell; have hF := hK.fro; have hX := hK.ext)
    | (go_at_call 143; refine (HCF.out (by omega) _ (by (repeat' (first | with_reducible assumption | with_reducible exact Ext.refl _ | with_reducible refine Ext.alloc ?_ _ | with_reducible refine Ext.set ?_ ?_ _ | with_reducible refine Ext.drew ?_ | with_reducible refine Ext.drewN ?_ _ | with_reducible refine Ext.trans ?_ (by assumption) | (dsimp only; omega))))).mono ?_; rintro e w2 ⟨rfl, hE⟩; (first | (have hK := KC.step (n := w.heap.size + 2) (by with_reducible assumption) hE) | (have hK := KC.step (KC.step (n := w.heap.size + 2) (by with_reducible assumption) (ext_alloc1 _ _)) hE) | (have hK := KC.step (KC.refl (n := w.heap.size + 2) (by simp)) hE)); have hC := hK.cell; have hF := hK.fro; have hX := hK.ext))
  go_ret
  exact ⟨ret_bool (by first | rfl | (simp; done) | (simp [h5]; done)), by (repeat' (first | with_reducible assumption | with_reducible exact Ext.refl _ | with_reducible refine Ext.alloc ?_ _ | with_reducible refine Ext.set ?_ ?_ _ | with_reducible refine Ext.drew ?_ | with_reducible refine Ext.drewN ?_ _ | with_reducible refine Ext.trans ?_ (by assumption) | (dsimp only; omega)))⟩
end Go.Proofs.YtecamnhnjmldcaaGreatDoor
/- Which nets and rules are valid: the code, whole nets. -/
set_option linter.unusedSimpArgs false
set_option linter.unusedVariables false
namespace Go.Proofs.YtecamnhnjmldcaaGreatDoor
open Go.RowKit
set_option maxHeartbeats 1000000 in
theorem indexPath_any (q : Nat) (xs : List Pt) (p : Pt → Bool) (A : Option Addr) (n c : Nat) (hn : xs.length = n) (hm : n ≤ 1000) (w : World) (hx : PathsAt w A xs)
    (hf : ∀ (x : Pt) (A' : Option Addr) (c' : Nat) (W : World), Ext w W → OpensAt W A' x.opens → Calls Tryz.prog 139 (#[x.val A' c'] ++ #[.pointer (some ⟨q, 0, none⟩)]) W fun e W' => e = .returned (.bool (p x)) ∧ Ext W W') :
    Calls Tryz.prog 153 #[.slice A n c, .func (.func 139) #[] #[.pointer (some ⟨q, 0, none⟩)]] w (Found (xs.any p) w) := by
  have HFF := hid hf
  clear hf
  go_enter Tryz.func153, Tryz.ntmps153
  go_wp2
  go_loopw [8] (fun i wr => Ext w wr ∧ ∃ k : Nat, k ≤ n ∧ i = .int .i64 k ∧ (xs.take k).any p = false) (fun i _ => n - (intOf i).toNat)
  case atStart => exact ⟨by (repeat' (first | with_reducible assumption | with_reducible exact Ext.refl _ | with_reducible refine Ext.alloc ?_ _ | with_reducible refine Ext.set ?_ ?_ _ | with_reducible refine Ext.drew ?_ | with_reducible refine Ext.drewN ?_ _ | with_reducible refine Ext.trans ?_ (by assumption) | (dsimp only; omega))), 0, Nat.zero_le _, rfl, rfl⟩
  case round =>
    obtain ⟨hE, k, hk, rfl, ha⟩ := hrel
    have HA := hid ha
    clear ha
    by_cases hlt : k < n
    · obtain ⟨b, off, rfl, hb, hc⟩ := (hx.ext hE) (by rintro rfl; simp at hn; omega)
      obtain ⟨A', c', hck⟩ := hc k (by omega)
      have HS := hid (any_take_snoc xs p zeroPt k (by omega))
      have HY := hid (any_of_at xs p zeroPt k (by omega))
      clear hc hx
      generalize xs.getD k zeroPt = x at *
      have HO := hid hck.opens
      obtain ⟨c0, c1, c2, c3, c4, c5, c6, c7, -, -⟩ := hck
      go_wp2_with fail
      refine (HFF.out x A' c' wr hE HO.out).mono ?_
      rintro e w2 ⟨rfl, hE2⟩
      clear c0 c1 c2 c3 c4 c5 c6 c7
      rcases Bool.eq_false_or_eq_true (p x) with hp | hp
      · rw [hp]
        have HP := hid (HY.out hp)
        clear hp
        go_wp2
        go_ret
        exact Found.mk _ (by rw [HP.out]; simp) (by (repeat' (first | with_reducible assumption | with_reducible exact Ext.refl _ | with_reducible refine Ext.alloc ?_ _ | with_reducible refine Ext.set ?_ ?_ _ | with_reducible refine Ext.drew ?_ | with_reducible refine Ext.drewN ?_ _ | with_reducible refine Ext.trans ?_ (by assumption) | (dsimp only; omega))))
      · rw [hp]
        have HP := hid (HS.out.trans (by rw [HA.out, hp]))
        clear hp
        go_wp2
        go_roundw
        case rel => exact ⟨by (repeat' (first | with_reducible assumption | with_reducible exact Ext.refl _ | with_reducible refine Ext.alloc ?_ _ | with_reducible refine Ext.set ?_ ?_ _ | with_reducible refine Ext.drew ?_ | with_reducible refine Ext.drewN ?_ _ | with_reducible refine Ext.trans ?_ (by assumption) | (dsimp only; omega))), k + 1, by omega, by go_num, HP.out⟩
        case measure => simp [intOf]; omega
    · have HP := hid (any_false_end HA.out (by omega))
      go_wp2
      go_ret
      exact Found.mk _ (by rw [HP.out]; rfl) (by (repeat' (first | with_reducible assumption | with_reducible exact Ext.refl _ | with_reducible refine Ext.alloc ?_ _ | with_reducible refine Ext.set ?_ ?_ _ | with_reducible refine Ext.drew ?_ | with_reducible refine Ext.drewN ?_ _ | with_reducible refine Ext.trans ?_ (by assumption) | (dsimp only; omega))))
set_option maxHeartbeats 1000000 in
theorem containsPath_any (q : Nat) (xs : List Pt) (p : Pt → Bool) (A : Option Addr) (n c : Nat) (hn : xs.length = n) (hm : n ≤ 1000) (w : World) (hx : PathsAt w A xs)
    (hf : ∀ (x : Pt) (A' : Option Addr) (c' : Nat) (W : World), Ext w W → OpensAt W A' x.opens → Calls Tryz.prog 139 (#[x.val A' c'] ++ #[.pointer (some ⟨q, 0, none⟩)]) W fun e W' => e = .returned (.bool (p x)) ∧ Ext W W') :
    Calls Tryz.prog 141 #[.slice A n c, .func (.func 139) #[] #[.pointer (some ⟨q, 0, none⟩)]] w fun e w' => e = .returned (.bool (xs.any p)) ∧ Ext w w' := by
  have HC := hid (indexPath_any q xs p A n c hn hm w hx hf)
  clear hf hn hx
  go_enter Tryz.func141, Tryz.ntmps141
  go_wp2_with fail
  refine HC.out.mono ?_
  rintro e w2 ⟨⟨r, rfl, hr⟩, hE2⟩
  have HR := hid hr
  clear hr HC
  go_wp2
  go_ret
  exact ⟨ret_bool HR.out, hE2⟩
set_option maxHeartbeats 400000 in
theorem validNet1_any (m : Int) (v : Value) (p : Pt) (A : Option Addr) (c q : Nat) (w : World) (ho : OpensAt w A p.opens) (hq : q < w.heap.size) (c0 : w.cell? ⟨q, 0, none⟩ = some (.int .i64 m)) (c1 : w.cell? ⟨q, 1, none⟩ = some v) :
    Calls Tryz.prog 139 #[p.val A c, .pointer (some ⟨q, 0, none⟩)] w fun e w' => e = .returned (.bool (!vPath m p)) ∧ Ext w w' := by
  have HV := hid (fun (W : World) (hW : Ext w W) => validPath_any m v p A c W (OpensAt.ext ho hW))
  clear ho
  revert HV
  generalize vPath m p = b
  obtain ⟨f, d, g, tl, th, sl, sh, os⟩ := p
  unfold Pt.val
  dsimp only
  intro HV
  go_enter Tryz.func139, Tryz.ntmps139
  go_wp2_with (first
    | (go_at_call 140; refine (HV.out _ (by (repeat' (first | with_reducible assumption | with_reducible exact Ext.refl _ | with_reducible refine Ext.alloc ?_ _ | with_reducible refine Ext.set ?_ ?_ _ | with_reducible refine Ext.drew ?_ | with_reducible refine Ext.drewN ?_ _ | with_reducible refine Ext.trans ?_ (by assumption) | (dsimp only; omega))))).mono ?_; rintro e w2 ⟨rfl, hE⟩))
  go_ret
  exact ⟨rfl, by (repeat' (first | with_reducible assumption | with_reducible exact Ext.refl _ | with_reducible refine Ext.alloc ?_ _ | with_reducible refine Ext.set ?_ ?_ _ | with_reducible refine Ext.drew ?_ | with_reducible refine Ext.drewN ?_ _ | with_reducible refine Ext.trans ?_ (by assumption) | (dsimp only; omega)))⟩

set_option maxHeartbeats 400000 in
theorem validNet_any (m : Int) (A : Option Addr) (n c : Nat) (ps : List Pt) (hn : ps.length = n) (w : World) (hp : PathsAt w A ps) :
    Calls Tryz.prog 107 #[.agg #[.int .i64 m, .slice A n c]] w fun e w' => e = .returned (.bool (vNet m ps)) ∧ Ext w w' := by
  have HC := hid (fun (hm : n ≤ 1000) (W : World) (hW : Ext w W) (hq : w.heap.size < W.heap.size) (c0 : W.cell? ⟨w.heap.size, 0, none⟩ = some (.int .i64 m)) (c1 : W.cell? ⟨w.heap.size, 1, none⟩ = some (.slice A n c)) =>
    containsPath_any w.heap.size ps (fun p => !vPath m p) A n c hn hm W (PathsAt.ext hp hW) (fun x A' c' W' h1 h2 => validNet1_any m (.slice A n c) x A' c' w.heap.size W' h2 (Nat.lt_of_lt_of_le hq h1.size) ((h1.cell hq).trans c0) ((h1.cell hq).trans c1)))
  unfold vNet
  rw [all_any]
  rw [hn]
  clear hp hn
  revert HC
  generalize (ps.any fun p => !vPath m p) = b
  intro HC
  by_cases h1 : 1 ≤ m
  case neg => go_enter Tryz.func107, Tryz.ntmps107
              go_wp2_with (first
                | (go_at_call 141; refine (HC.out (by omega) _ (by (repeat' (first | with_reducible assumption | with_reducible exact Ext.refl _ | with_reducible refine Ext.alloc ?_ _ | with_reducible refine Ext.set ?_ ?_ _ | with_reducible refine Ext.drew ?_ | with_reducible refine Ext.drewN ?_ _ | with_reducible refine Ext.trans ?_ (by assumption) | (dsimp only; omega)))) (by simp) (by go_simp) (by go_simp)).mono ?_; rintro e w2 ⟨rfl, hE⟩))
              go_ret
              exact ⟨ret_bool (by first | (simp; intros; omega) | (simp [‹1 ≤ m›, ‹m ≤ 12›, ‹n ≤ 24›]; done)), by (repeat' (first | with_reducible assumption | with_reducible exact Ext.refl _ | with_reducible refine Ext.alloc ?_ _ | with_reducible refine Ext.set ?_ ?_ _ | with_reducible refine Ext.drew ?_ | with_reducible refine Ext.drewN ?_ _ | with_reducible refine Ext.trans ?_ (by assumption) | (dsimp only; omega)))⟩
  by_cases h2 : m ≤ 12
  case neg => go_enter Tryz.func107, Tryz.ntmps107
              go_wp2_with (first
                | (go_at_call 141; refine (HC.out (by omega) _ (by (repeat' (first | with_reducible assumption | with_reducible exact Ext.refl _ | with_reducible refine Ext.alloc ?_ _ | with_reducible refine Ext.set ?_ ?_ _ | with_reducible refine Ext.drew ?_ | with_reducible refine Ext.drewN ?_ _ | with_reducible refine Ext.trans ?_ (by assumption) | (dsimp only; omega)))) (by simp) (by go_simp) (by go_simp)).mono ?_; rintro e w2 ⟨rfl, hE⟩))
              go_ret
              exact ⟨ret_bool (by first | (simp; intros; omega) | (simp [‹1 ≤ m›, ‹m ≤ 12›, ‹n ≤ 24›]; done)), by (repeat' (first | with_reducible assumption | with_reducible exact Ext.refl _ | with_reducible refine Ext.alloc ?_ _ | with_reducible refine Ext.set ?_ ?_ _ | with_reducible refine Ext.drew ?_ | with_reducible refine Ext.drewN ?_ _ | with_reducible refine Ext.trans ?_ (by assumption) | (dsimp only; omega)))⟩
  by_cases h3 : n ≤ 24
  case neg => go_enter Tryz.func107, Tryz.ntmps107
              go_wp2_with (first
                | (go_at_call 141; refine (HC.out (by omega) _ (by (repeat' (first | with_reducible assumption | with_reducible exact Ext.refl _ | with_reducible refine Ext.alloc ?_ _ | with_reducible refine Ext.set ?_ ?_ _ | with_reducible refine Ext.drew ?_ | with_reducible refine Ext.drewN ?_ _ | with_reducible refine Ext.trans ?_ (by assumption) | (dsimp only; omega)))) (by simp) (by go_simp) (by go_simp)).mono ?_; rintro e w2 ⟨rfl, hE⟩))
              go_ret
              exact ⟨ret_bool (by first | (simp; intros; omega) | (simp [‹1 ≤ m›, ‹m ≤ 12›, ‹n ≤ 24›]; done)), by (repeat' (first | with_reducible assumption | with_reducible exact Ext.refl _ | with_reducible refine Ext.alloc ?_ _ | with_reducible refine Ext.set ?_ ?_ _ | with_reducible refine Ext.drew ?_ | with_reducible refine Ext.drewN ?_ _ | with_reducible refine Ext.trans ?_ (by assumption) | (dsimp only; omega)))⟩
  go_enter Tryz.func107, Tryz.ntmps107
  go_wp2_with (first
    | (go_at_call 141; refine (HC.out (by omega) _ (by (repeat' (first | with_reducible assumption | with_reducible exact Ext.refl _ | with_reducible refine Ext.alloc ?_ _ | with_reducible refine Ext.set ?_ ?_ _ | with_reducible refine Ext.drew ?_ | with_reducible refine Ext.drewN ?_ _ | with_reducible refine Ext.trans ?_ (by assumption) | (dsimp only; omega)))) (by simp) (by go_simp) (by go_simp)).mono ?_; rintro e w2 ⟨rfl, hE⟩))
  go_ret
  exact ⟨ret_bool (by first | (simp; intros; omega) | (simp [‹1 ≤ m›, ‹m ≤ 12›, ‹n ≤ 24›]; done)), by (repeat' (first | with_reducible assumption | with_reducible exact Ext.refl _ | with_reducible refine Ext.alloc ?_ _ | with_reducible refine Ext.set ?_ ?_ _ | with_reducible refine Ext.drew ?_ | with_reducible refine Ext.drewN ?_ _ | with_reducible refine Ext.trans ?_ (by assumption) | (dsimp only; omega)))⟩


def netE (m : Int) (ps : List Pt) : Int := if vNet m ps then 0 else 10
set_option maxHeartbeats 400000 in
theorem pCheck_any (m : Int) (A : Option Addr) (n c : Nat) (ps : List Pt) (hn : ps.length = n) (w : World) (hp : PathsAt w A ps) :
    Calls Tryz.prog 58 #[.agg #[.int .i64 m, .slice A n c]] w fun e w' => e = .returned (.int .i64 (netE m ps)) ∧ Ext w w' := by
  have HN := hid (fun (W : World) (hW : Ext w W) => validNet_any m A n c ps hn W (hp.ext hW))
  clear hp hn
  unfold netE
  generalize vNet m ps = B at *
  cases B
  · go_enter Tryz.func58, Tryz.ntmps58
    go_wp2_with (go_at_call 107; refine (HN.out _ (by (repeat' (first | with_reducible assumption | with_reducible exact Ext.refl _ | with_reducible refine Ext.alloc ?_ _ | with_reducible refine Ext.set ?_ ?_ _ | with_reducible refine Ext.drew ?_ | with_reducible refine Ext.drewN ?_ _ | with_reducible refine Ext.trans ?_ (by assumption) | (dsimp only; omega))))).mono ?_; rintro e w2 ⟨rfl, hE⟩; (first | (have hK := KC.step (n := w.heap.size + 1) (by with_reducible assumption) hE) | (have hK := KC.step (KC.step (n := w.heap.size + 1) (by with_reducible assumption) (ext_alloc1 _ _)) hE) | (have hK := KC.step (KC.refl (n := w.heap.size + 1) (by simp)) hE)); have hC := hK.cell; have hF := hK.fro; have hX := hK.ext)
    go_ret
    exact ⟨rfl, by (repeat' (first | with_reducible assumption | with_reducible exact Ext.refl _ | with_reducible refine Ext.alloc ?_ _ | with_reducible refine Ext.set ?_ ?_ _ | with_reducible refine Ext.drew ?_ | with_reducible refine Ext.drewN ?_ _ | with_reducible refine Ext.trans ?_ (by assumption) | (dsimp only; omega)))⟩
  · go_enter Tryz.func58, Tryz.ntmps58
    go_wp2_with (go_at_call 107; refine (HN.out _ (by (repeat' (first | with_reducible assumption | with_reducible exact Ext.refl _ | with_reducible refine Ext.alloc ?_ _ | with_reducible refine Ext.set ?_ ?_ _ | with_reducible refine Ext.drew ?_ | with_reducible refine Ext.drewN ?_ _ | with_reducible refine Ext.trans ?_ (by assumption) | (dsimp only; omega))))).mono ?_; rintro e w2 ⟨rfl, hE⟩; (first | (have hK := KC.step (n := w.heap.size + 1) (by with_reducible assumption) hE) | (have hK := KC.step (KC.step (n := w.heap.size + 1) (by with_reducible assumption) (ext_alloc1 _ _)) hE) | (have hK := KC.step (KC.refl (n := w.heap.size + 1) (by simp)) hE)); have hC := hK.cell; have hF := hK.fro; have hX := hK.ext)
    go_ret
    exact ⟨rfl, by (repeat' (first | with_reducible assumption | with_reducible exact Ext.refl _ | with_reducible refine Ext.alloc ?_ _ | with_reducible refine Ext.set ?_ ?_ _ | with_reducible refine Ext.drew ?_ | with_reducible refine Ext.drewN ?_ _ | with_reducible refine Ext.trans ?_ (by assumption) | (dsimp only; omega)))⟩
set_option maxHeartbeats 400000 in
theorem vIsPath_any (a m : Int) (A : Option Addr) (n c : Nat) (hn : n ≤ 1000) (w : World) :
    Calls Tryz.prog 61 #[.agg #[.int .i64 m, .slice A n c], .int .i64 a] w fun e w' => e = .returned (.bool (inI a 0 ((n : Int) - 1))) ∧ Ext w w' := by
  have hwr : IntKind.i64.wrap ((n : Int) - 1) = (n : Int) - 1 := IntWalk.i64_in _ (by omega)
  have HI := hid (fun W => vWithin_any a 0 ((n : Int) - 1) W)
  generalize inI a 0 ((n : Int) - 1) = B at *
  go_enter Tryz.func61, Tryz.ntmps61
  go_wp2_with (go_at_call 105; refine (HI.out _).mono ?_; rintro e w' ⟨rfl, rfl⟩)
  go_ret
  exact ⟨rfl, by (repeat' (first | with_reducible assumption | with_reducible exact Ext.refl _ | with_reducible refine Ext.alloc ?_ _ | with_reducible refine Ext.set ?_ ?_ _ | with_reducible refine Ext.drew ?_ | with_reducible refine Ext.drewN ?_ _ | with_reducible refine Ext.trans ?_ (by assumption) | (dsimp only; omega)))⟩
set_option maxHeartbeats 1000000 in
theorem rule1_any (m : Int) (A : Option Addr) (n c : Nat) (hn : n ≤ 1000) (r : Rl) (q : Nat) (w : World) (hw : WidW w) (b1 : Blk w q 47 #[.int .i64 m, .slice A n c]) :
    Calls Tryz.prog 108 #[r.val, .pointer (some ⟨q, 0, none⟩)] w fun e w' => e = .returned (.bool (rlB n r)) ∧ Ext w w' := by
  have HP := hid (fun W => vIsPath_any r.path m A n c hn W)
  have HL := hid (fun (W : World) (hW : Ext w W) => vLimits_any r.lim W (hw.ext hW))
  have HI := hid (fun W => vWithin_any r.after 0 48 W)
  have a0 := b1.cell 0
  have a1 := b1.cell 1
  have z1 := b1.lt
  simp only [List.getElem?_toArray, List.getElem?_cons_zero, List.getElem?_cons_succ] at a0 a1
  clear b1 hw
  unfold rlB
  obtain ⟨pa, af, lm⟩ := r
  unfold Rl.val Lm.val at *
  dsimp only at *
  generalize inI pa 0 ((n : Int) - 1) = b1 at *
  generalize lmB lm = b2 at *
  generalize inI af 0 48 = b3 at *
  cases b1
  · go_enter Tryz.func108, Tryz.ntmps108
    go_wp2_with (first
      | (go_at_call 61; refine (HP.out _).mono ?_; rintro e w2 ⟨rfl, hE⟩; (first | (have hK := KC.step (n := w.heap.size + 1) (by with_reducible assumption) hE) | (have hK := KC.step (KC.step (n := w.heap.size + 1) (by with_reducible assumption) (ext_alloc1 _ _)) hE) | (have hK := KC.step (KC.refl (n := w.heap.size + 1) (by simp)) hE)); have hC := hK.cell; have hF := hK.fro; have hX := hK.ext)
      | (go_at_call 88; refine (HL.out _ (by (repeat' (first | with_reducible assumption | with_reducible exact Ext.refl _ | with_reducible refine Ext.alloc ?_ _ | with_reducible refine Ext.set ?_ ?_ _ | with_reducible refine Ext.drew ?_ | with_reducible refine Ext.drewN ?_ _ | with_reducible refine Ext.trans ?_ (by assumption) | (dsimp only; omega))))).mono ?_; rintro e w2 ⟨rfl, hE⟩; (first | (have hK := KC.step (n := w.heap.size + 1) (by with_reducible assumption) hE) | (have hK := KC.step (KC.step (n := w.heap.size + 1) (by with_reducible assumption) (ext_alloc1 _ _)) hE) | (have hK := KC.step (KC.refl (n := w.heap.size + 1) (by simp)) hE)); have hC := hK.cell; have hF := hK.fro; have hX := hK.ext)
      | (go_at_call 105; refine (HI.out _).mono ?_; rintro e w2 ⟨rfl, rfl⟩))
    go_ret
    exact ⟨ret_bool (by first | rfl | (simp; done)), by (repeat' (first | with_reducible assumption | with_reducible exact Ext.refl _ | with_reducible refine Ext.alloc ?_ _ | with_reducible refine Ext.set ?_ ?_ _ | with_reducible refine Ext.drew ?_ | with_reducible refine Ext.drewN ?_ _ | with_reducible refine Ext.trans ?_ (by assumption) | (dsimp only; omega)))⟩
  cases b2
  · go_enter Tryz.func108, Tryz.ntmps108
    go_wp2_with (first
      | (go_at_call 61; refine (HP.out _).mono ?_; rintro e w2 ⟨rfl, hE⟩; (first | (have hK := KC.step (n := w.heap.size + 1) (by with_reducible assumption) hE) | (have hK := KC.step (KC.step (n := w.heap.size + 1) (by with_reducible assumption) (ext_alloc1 _ _)) hE) | (have hK := KC.step (KC.refl (n := w.heap.size + 1) (by simp)) hE)); have hC := hK.cell; have hF := hK.fro; have hX := hK.ext)
      | (go_at_call 88; refine (HL.out _ (by (repeat' (first | with_reducible assumption | with_reducible exact Ext.refl _ | with_reducible refine Ext.alloc ?_ _ | with_reducible refine Ext.set ?_ ?_ _ | with_reducible refine Ext.drew ?_ | with_reducible refine Ext.drewN ?_ _ | with_reducible refine Ext.trans ?_ (by assumption) | (dsimp only; omega))))).mono ?_; rintro e w2 ⟨rfl, hE⟩; (first | (have hK := KC.step (n := w.heap.size + 1) (by with_reducible assumption) hE) | (have hK := KC.step (KC.step (n := w.heap.size + 1) (by with_reducible assumption) (ext_alloc1 _ _)) hE) | (have hK := KC.step (KC.refl (n := w.heap.size + 1) (by simp)) hE)); have hC := hK.cell; have hF := hK.fro; have hX := hK.ext)
      | (go_at_call 105; refine (HI.out _).mono ?_; rintro e w2 ⟨rfl, rfl⟩))
    go_ret
    exact ⟨ret_bool (by first | rfl | (simp; done)), by (repeat' (first | with_reducible assumption | with_reducible exact Ext.refl _ | with_reducible refine Ext.alloc ?_ _ | with_reducible refine Ext.set ?_ ?_ _ | with_reducible refine Ext.drew ?_ | with_reducible refine Ext.drewN ?_ _ | with_reducible refine Ext.trans ?_ (by assumption) | (dsimp only; omega)))⟩
  go_enter Tryz.func108, Tryz.ntmps108
  go_wp2_with (first
    | (go_at_call 61; refine (HP.out _).mono ?_; rintro e w2 ⟨rfl, hE⟩; (first | (have hK := KC.step (n := w.heap.size + 1) (by with_reducible assumption) hE) | (have hK := KC.step (KC.step (n := w.heap.size + 1) (by with_reducible assumption) (ext_alloc1 _ _)) hE) | (have hK := KC.step (KC.refl (n := w.heap.size + 1) (by simp)) hE)); have hC := hK.cell; have hF := hK.fro; have hX := hK.ext)
    | (go_at_call 88; refine (HL.out _ (by (repeat' (first | with_reducible assumption | with_reducible exact Ext.refl _ | with_reducible refine Ext.alloc ?_ _ | with_reducible refine Ext.set ?_ ?_ _ | with_reducible refine Ext.drew ?_ | with_reducible refine Ext.drewN ?_ _ | with_reducible refine Ext.trans ?_ (by assumption) | (dsimp only; omega))))).mono ?_; rintro e w2 ⟨rfl, hE⟩; (first | (have hK := KC.step (n := w.heap.size + 1) (by with_reducible assumption) hE) | (have hK := KC.step (KC.step (n := w.heap.size + 1) (by with_reducible assumption) (ext_alloc1 _ _)) hE) | (have hK := KC.step (KC.refl (n := w.heap.size + 1) (by simp)) hE)); have hC := hK.cell; have hF := hK.fro; have hX := hK.ext)
    | (go_at_call 105; refine (HI.out _).mono ?_; rintro e w2 ⟨rfl, rfl⟩))
  go_ret
  exact ⟨ret_bool (by first | rfl | (simp; done)), by (repeat' (first | with_reducible assumption | with_reducible exact Ext.refl _ | with_reducible refine Ext.alloc ?_ _ | with_reducible refine Ext.set ?_ ?_ _ | with_reducible refine Ext.drew ?_ | with_reducible refine Ext.drewN ?_ _ | with_reducible refine Ext.trans ?_ (by assumption) | (dsimp only; omega)))⟩
set_option maxHeartbeats 1000000 in
theorem checkRules_any (m : Int) (A : Option Addr) (n c : Nat) (hn : n ≤ 1000) (rs : List Rl) (RA : Option Addr) (rn rc : Nat) (hrn : rs.length = rn) (hrm : rn ≤ 1000) (w : World) (hw : WidW w) (hr : RlsAt w RA rs) :
    Calls Tryz.prog 59 #[.agg #[.int .i64 m, .slice A n c], .slice RA rn rc] w fun e w' => e = .returned (.int .i64 (unlessM (rlsB n rs) 53)) ∧ Ext w w' := by
  have HA := hid (fun (W : World) (hW : Ext w W) (b1 : Blk W w.heap.size 47 #[.int .i64 m, .slice A n c]) => allRl_any 108 #[.pointer (some ⟨w.heap.size, 0, none⟩)] (fun _ _ => by kernel_rfl) rs (rlB n) RA rn rc hrn (by omega) W (hr.ext hW)
    (fun r W' h1 _ => rule1_any m A n c hn r w.heap.size W' ((hw.ext hW).ext h1) (b1.ext h1)))
  have HU := hid (fun b (W : World) => vUnless_any b 53 W)
  have B1 := hid (show Blk _ _ _ _ from blk_last w (.cells #[.int .i64 m, .slice A n c] 47))
  unfold rlsB
  rw [hrn]
  clear hr hw hrn
  generalize rs.all (rlB n) = B at *
  by_cases h12 : rn ≤ 12
  · have hd : decide (rn ≤ 12) = true := by simp [h12]
    have hi : (rn : Int) ≤ 12 := by omega
    go_enter Tryz.func59, Tryz.ntmps59
    go_wp2_with (first
      | (go_at_call 109; refine (HA.out _ (by (repeat' (first | with_reducible assumption | with_reducible exact Ext.refl _ | with_reducible refine Ext.alloc ?_ _ | with_reducible refine Ext.set ?_ ?_ _ | with_reducible refine Ext.drew ?_ | with_reducible refine Ext.drewN ?_ _ | with_reducible refine Ext.trans ?_ (by assumption) | (dsimp only; omega)))) B1.out).mono ?_; rintro e w2 ⟨rfl, hE⟩; (first | (have hK := KC.step (n := w.heap.size + 1) (by with_reducible assumption) hE) | (have hK := KC.step (KC.step (n := w.heap.size + 1) (by with_reducible assumption) (ext_alloc1 _ _)) hE) | (have hK := KC.step (KC.refl (n := w.heap.size + 1) (by simp)) hE)); have hC := hK.cell; have hF := hK.fro; have hX := hK.ext)
      | (go_at_call 85; refine (HU.out _ _).mono ?_; rintro e w2 ⟨rfl, rfl⟩))
    go_ret
    exact ⟨by simp [hd], by (repeat' (first | with_reducible assumption | with_reducible exact Ext.refl _ | with_reducible refine Ext.alloc ?_ _ | with_reducible refine Ext.set ?_ ?_ _ | with_reducible refine Ext.drew ?_ | with_reducible refine Ext.drewN ?_ _ | with_reducible refine Ext.trans ?_ (by assumption) | (dsimp only; omega)))⟩
  · have hd : decide (rn ≤ 12) = false := by simp [h12]
    have hi : ¬ (rn : Int) ≤ 12 := by omega
    go_enter Tryz.func59, Tryz.ntmps59
    go_wp2_with (go_at_call 85; refine (HU.out _ _).mono ?_; rintro e w2 ⟨rfl, rfl⟩)
    go_ret
    exact ⟨by simp [hd], by (repeat' (first | with_reducible assumption | with_reducible exact Ext.refl _ | with_reducible refine Ext.alloc ?_ _ | with_reducible refine Ext.set ?_ ?_ _ | with_reducible refine Ext.drew ?_ | with_reducible refine Ext.drewN ?_ _ | with_reducible refine Ext.trans ?_ (by assumption) | (dsimp only; omega)))⟩
end Go.Proofs.YtecamnhnjmldcaaGreatDoor
