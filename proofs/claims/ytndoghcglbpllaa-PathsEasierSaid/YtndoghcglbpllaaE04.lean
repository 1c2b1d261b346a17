/- When a party is at the end of a path. -/
import Derived.Test.YtndoghcglbpllaaE03
import Derived.Deep.RegionHeld3
import Derived.IntWalk
set_option linter.unusedSimpArgs false
set_option linter.unusedVariables false
namespace Go.Proofs.Ytndoghcglbpllaa
open Go.RowKit

theorem timeOf_bd {t p s l : Int} (ht : 1 ≤ t) (ht' : t ≤ 600) (hp : 50 ≤ p) (hp' : p ≤ 300) (hs : 0 ≤ s) (hs' : s ≤ 30) (hl : 0 ≤ l) (hl' : l ≤ 40) : 1 ≤ timeOf t p s l ∧ timeOf t p s l ≤ 10000 := by
  have ⟨h1, h2⟩ := prod_bd t p 600 300 (by omega) ht' (by omega) hp'
  have ⟨h3, h4⟩ := prod_bd (t * p) (100 + 5 * s + l) (600 * 300) 290 h1 h2 (by omega) (by omega)
  have h5 : 50 ≤ t * p := by have := Int.mul_le_mul (a := 1) (b := 50) (c := t) (d := p) ht hp (by omega) (by omega); omega
  have h6 : 50 * 100 ≤ t * p * (100 + 5 * s + l) := Int.mul_le_mul h5 (by omega) (by omega) h1
  unfold timeOf
  omega
theorem enter_bd {never t : Int} (os : List (Int × Int)) (h0 : 0 ≤ t) : 0 ≤ never → 0 ≤ enter never os t ∧ enter never os t ≤ never := by
  unfold enter
  induction os generalizing never with
  | nil => intro h1; simp; omega
  | cons o os ih =>
    intro h1
    have hs : 0 ≤ enterStep t never o ∧ enterStep t never o ≤ never := by unfold enterStep; split <;> omega
    have := ih (never := enterStep t never o) hs.1
    simp only [List.foldl_cons]
    omega
/-- When a party is at the end of a path that is at its beginning at a minute; 2881: never. -/
def arrive (sel : Int → Int → Int) (l pl ph : Int) (p : Pt) (t : Int) : Int := min (enter 2881 p.opens t + sel (timeOf p.tl pl p.sl l) (timeOf p.th ph p.sh l)) 2881
def selHi (_ h : Int) : Int := h
def selLo (l _ : Int) : Int := l
structure PtOk (p : Pt) : Prop where
  t1 : 1 ≤ p.tl
  t2 : p.tl ≤ p.th
  t3 : p.th ≤ 600
  s1 : 0 ≤ p.sl
  s2 : p.sl ≤ p.sh
  s3 : p.sh ≤ 30
  os : p.opens.length ≤ 6
structure PaOk (l pl ph : Int) : Prop where
  p1 : 50 ≤ pl
  p2 : pl ≤ ph
  p3 : ph ≤ 300
  l1 : 0 ≤ l
  l2 : l ≤ 40

set_option maxHeartbeats 2000000 in
theorem arrival_sure (p : Pt) (gr l pl ph : Int) (v1 v2 : Value) (A : Option Addr) (c : Nat) (hp : PtOk p) (ha : PaOk l pl ph) (t : Int) (ht : 0 ≤ t) (_ht' : t ≤ 2881) (w : World) (ho : OpensAt w A p.opens) :
    Calls Try.prog 69 #[.agg #[v1, v2, .int .i64 gr, .int .i64 l, .int .i64 pl, .int .i64 ph], p.val A c, .int .i64 t, .func (.func 70) #[] #[]] w fun e w' =>
      e = .returned (.int .i64 (arrive selHi l pl ph p t)) ∧ Ext w w' := by
  obtain ⟨t1, t2, t3, s1, s2, s3, hos⟩ := hp
  obtain ⟨p1, p2, p3, l1, l2⟩ := ha
  obtain ⟨f, d, g, tl, th, sl, sh, os⟩ := p
  dsimp only at t1 t2 t3 s1 s2 s3 hos ho
  have ⟨b1, b2⟩ := enter_bd (never := 2881) os ht (by omega)
  have ⟨b3, b4⟩ := timeOf_bd t1 (by omega) p1 (by omega) s1 (by omega) l1 l2
  have ⟨b5, b6⟩ := timeOf_bd (t := th) (p := ph) (s := sh) (by omega) t3 (by omega) p3 (by omega) s3 l1 l2
  unfold Pt.val arrive selHi
  dsimp only
  have hw : IntKind.i64.wrap (enter 2881 os t + timeOf th ph sh l) = enter 2881 os t + timeOf th ph sh l := IntWalk.i64_in _ (by omega)
  go_enter Try.func69, Try.ntmps69
  go_wp2
  refine wp_abs (fun W => (W.cell? ⟨w.heap.size, 0, none⟩ = some v1 ∧ W.cell? ⟨w.heap.size, 1, none⟩ = some v2 ∧ W.cell? ⟨w.heap.size, 2, none⟩ = some (.int .i64 gr) ∧ W.cell? ⟨w.heap.size, 3, none⟩ = some (.int .i64 l) ∧ W.cell? ⟨w.heap.size, 4, none⟩ = some (.int .i64 pl) ∧ W.cell? ⟨w.heap.size, 5, none⟩ = some (.int .i64 ph) ∧
     W.cell? ⟨w.heap.size + 1, 0, none⟩ = some (.int .i64 f) ∧ W.cell? ⟨w.heap.size + 1, 1, none⟩ = some (.int .i64 d) ∧ W.cell? ⟨w.heap.size + 1, 2, none⟩ = some (.int .i64 g) ∧
     W.cell? ⟨w.heap.size + 1, 3, none⟩ = some (.int .i64 tl) ∧ W.cell? ⟨w.heap.size + 1, 4, none⟩ = some (.int .i64 th) ∧ W.cell? ⟨w.heap.size + 1, 5, none⟩ = some (.int .i64 sl) ∧ W.cell? ⟨w.heap.size + 1, 6, none⟩ = some (.int .i64 sh) ∧ W.cell? ⟨w.heap.size + 1, 7, none⟩ = some (.slice A os.length c)) ∧ w.heap.size + 2 ≤ W.heap.size ∧ Ext w W) ⟨by go_simp, by simp, by (repeat' (first | with_reducible assumption | with_reducible exact Ext.refl _ | with_reducible refine Ext.alloc ?_ _ | with_reducible refine Ext.set ?_ ?_ _ | with_reducible refine Ext.drew ?_ | with_reducible refine Ext.drewN ?_ _ | with_reducible refine Ext.trans ?_ (by assumption) | (dsimp only; omega)))⟩ ?_
  rintro W ⟨⟨c0, c1, c2, c3, c4, c5, d0, d1, d2, d3, d4, d5, d6, d7⟩, hz, hE⟩
  go_region_held3 (fun w' => (∀ b o, b < w.heap.size + 2 → w'.cell? ⟨b, o, none⟩ = W.cell? ⟨b, o, none⟩) ∧ w.heap.size + 2 ≤ w'.heap.size ∧ Ext w w')
    (((try dsimp only); go_split_ands; (repeat' apply And.intro) <;> first | assumption | exact kcell (by assumption) (by omega) (by assumption) | exact kcell_refl _ _ | exact kcell_set (kcell_set (by assumption) (by dsimp only; omega) _) (by dsimp only; omega) _ | exact kcell_set (by assumption) (by dsimp only; omega) _ | exact held_ext (by assumption) (by dsimp only; omega) (by assumption) | exact hfrozen_ext (by assumption) (by dsimp only; omega) (by assumption) | exact Ext.sizeLe (by assumption) (by assumption) | exact Ext.trans (by assumption) (by assumption) | exact Ext.drew (by assumption) | exact held_set _ _ _ _ (held_set _ _ _ _ (by assumption)) | exact held_set _ _ _ _ (by assumption) | exact hfrozen_set _ _ (hfrozen_set _ _ (by assumption)) | exact hfrozen_set _ _ (by assumption) | exact hsize_set _ _ (hsize_set _ _ (by assumption)) | exact hsize_set _ _ (by assumption) | exact Ext.set (Ext.set (by assumption) (by dsimp only; omega) _) (by dsimp only; omega) _ | exact Ext.set (by assumption) (by dsimp only; omega) _))
    (first
      | (go_at_call 93; refine (entry_any _ _ _ _ _ _ _ _ _ _ os rfl (by omega) _ _ (OpensAt.ext ho ‹_ ∧ _ ∧ Ext _ _›.2.2)).mono ?_; rintro e w2 ⟨rfl, hE2⟩)
      | (go_at_call 48; refine (wtime_any _ _ _ _ _ _ _ _ _ _ _ _ _ _ (by omega) (by omega) (by omega) (by omega) (by omega) (by omega) (by omega) (by omega) (by omega) (by omega) (by omega) _).mono ?_; rintro e w2 ⟨rfl, hE2⟩)
      | (go_at_call 70; refine (sureEnd_any _ _ _).mono ?_; rintro e w2 ⟨rfl, hE2⟩))
  rename_i hH
  try dsimp only at hH
  obtain ⟨-, -, hx⟩ := hH
  clear hw
  go_wp2
  all_goals (go_ret; exact ⟨ret_int (by first | omega | (simp; omega) | (split <;> omega)), hx⟩)
set_option maxHeartbeats 2000000 in
theorem arrival_best (p : Pt) (gr l pl ph : Int) (v1 v2 : Value) (A : Option Addr) (c : Nat) (hp : PtOk p) (ha : PaOk l pl ph) (t : Int) (ht : 0 ≤ t) (_ht' : t ≤ 2881) (w : World) (ho : OpensAt w A p.opens) :
    Calls Try.prog 69 #[.agg #[v1, v2, .int .i64 gr, .int .i64 l, .int .i64 pl, .int .i64 ph], p.val A c, .int .i64 t, .func (.func 87) #[] #[]] w fun e w' =>
      e = .returned (.int .i64 (arrive selLo l pl ph p t)) ∧ Ext w w' := by
  obtain ⟨t1, t2, t3, s1, s2, s3, hos⟩ := hp
  obtain ⟨p1, p2, p3, l1, l2⟩ := ha
  obtain ⟨f, d, g, tl, th, sl, sh, os⟩ := p
  dsimp only at t1 t2 t3 s1 s2 s3 hos ho
  have ⟨b1, b2⟩ := enter_bd (never := 2881) os ht (by omega)
  have ⟨b3, b4⟩ := timeOf_bd t1 (by omega) p1 (by omega) s1 (by omega) l1 l2
  have ⟨b5, b6⟩ := timeOf_bd (t := th) (p := ph) (s := sh) (by omega) t3 (by omega) p3 (by omega) s3 l1 l2
  unfold Pt.val arrive selLo
  dsimp only
  have hw : IntKind.i64.wrap (enter 2881 os t + timeOf tl pl sl l) = enter 2881 os t + timeOf tl pl sl l := IntWalk.i64_in _ (by omega)
  go_enter Try.func69, Try.ntmps69
  go_wp2
  refine wp_abs (fun W => (W.cell? ⟨w.heap.size, 0, none⟩ = some v1 ∧ W.cell? ⟨w.heap.size, 1, none⟩ = some v2 ∧ W.cell? ⟨w.heap.size, 2, none⟩ = some (.int .i64 gr) ∧ W.cell? ⟨w.heap.size, 3, none⟩ = some (.int .i64 l) ∧ W.cell? ⟨w.heap.size, 4, none⟩ = some (.int .i64 pl) ∧ W.cell? ⟨w.heap.size, 5, none⟩ = some (.int .i64 ph) ∧
     W.cell? ⟨w.heap.size + 1, 0, none⟩ = some (.int .i64 f) ∧ W.cell? ⟨w.heap.size + 1, 1, none⟩ = some (.int .i64 d) ∧ W.cell? ⟨w.heap.size + 1, 2, none⟩ = some (.int .i64 g) ∧
     W.cell? ⟨w.heap.size + 1, 3, none⟩ = some (.int .i64 tl) ∧ W.cell? ⟨w.heap.size + 1, 4, none⟩ = some (.int .i64 th) ∧ W.cell? ⟨w.heap.size + 1, 5, none⟩ = some (.int .i64 sl) ∧ W.cell? ⟨w.heap.size + 1, 6, none⟩ = some (.int .i64 sh) ∧ W.cell? ⟨w.heap.size + 1, 7, none⟩ = some (.slice A os.length c)) ∧ w.heap.size + 2 ≤ W.heap.size ∧ Ext w W) ⟨by go_simp, by simp, by (repeat' (first | with_reducible assumption | with_reducible exact Ext.refl _ | with_reducible refine Ext.alloc ?_ _ | with_reducible refine Ext.set ?_ ?_ _ | with_reducible refine Ext.drew ?_ | with_reducible refine Ext.drewN ?_ _ | with_reducible refine Ext.trans ?_ (by assumption) | (dsimp only; omega)))⟩ ?_
  rintro W ⟨⟨c0, c1, c2, c3, c4, c5, d0, d1, d2, d3, d4, d5, d6, d7⟩, hz, hE⟩
  go_region_held3 (fun w' => (∀ b o, b < w.heap.size + 2 → w'.cell? ⟨b, o, none⟩ = W.cell? ⟨b, o, none⟩) ∧ w.heap.size + 2 ≤ w'.heap.size ∧ Ext w w')
    (((try dsimp only); go_split_ands; (repeat' apply And.intro) <;> first | assumption | exact kcell (by assumption) (by omega) (by assumption) | exact kcell_refl _ _ | exact kcell_set (kcell_set (by assumption) (by dsimp only; omega) _) (by dsimp only; omega) _ | exact kcell_set (by assumption) (by dsimp only; omega) _ | exact held_ext (by assumption) (by dsimp only; omega) (by assumption) | exact hfrozen_ext (by assumption) (by dsimp only; omega) (by assumption) | exact Ext.sizeLe (by assumption) (by assumption) | exact Ext.trans (by assumption) (by assumption) | exact Ext.drew (by assumption) | exact held_set _ _ _ _ (held_set _ _ _ _ (by assumption)) | exact held_set _ _ _ _ (by assumption) | exact hfrozen_set _ _ (hfrozen_set _ _ (by assumption)) | exact hfrozen_set _ _ (by assumption) | exact hsize_set _ _ (hsize_set _ _ (by assumption)) | exact hsize_set _ _ (by assumption) | exact Ext.set (Ext.set (by assumption) (by dsimp only; omega) _) (by dsimp only; omega) _ | exact Ext.set (by assumption) (by dsimp only; omega) _))
    (first
      | (go_at_call 93; refine (entry_any _ _ _ _ _ _ _ _ _ _ os rfl (by omega) _ _ (OpensAt.ext ho ‹_ ∧ _ ∧ Ext _ _›.2.2)).mono ?_; rintro e w2 ⟨rfl, hE2⟩)
      | (go_at_call 48; refine (wtime_any _ _ _ _ _ _ _ _ _ _ _ _ _ _ (by omega) (by omega) (by omega) (by omega) (by omega) (by omega) (by omega) (by omega) (by omega) (by omega) (by omega) _).mono ?_; rintro e w2 ⟨rfl, hE2⟩)
      | (go_at_call 87; refine (bestEnd_any _ _ _).mono ?_; rintro e w2 ⟨rfl, hE2⟩))
  rename_i hH
  try dsimp only at hH
  obtain ⟨-, -, hx⟩ := hH
  clear hw
  go_wp2
  all_goals (go_ret; exact ⟨ret_int (by first | omega | (simp; omega) | (split <;> omega)), hx⟩)
end Go.Proofs.Ytndoghcglbpllaa
