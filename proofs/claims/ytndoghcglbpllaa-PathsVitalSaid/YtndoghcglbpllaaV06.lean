/- The first minute at which a path opens. -/
import Derived.Test.YtndoghcglbpllaaV05
import Derived.Deep.RegionHeld3
import Derived.IntWalk
set_option linter.unusedSimpArgs false
set_option linter.unusedVariables false
namespace Go.Proofs.Ytndoghcglbpllaa
open Go.RowKit

def enterStep (t : Int) (first : Int) (o : Int × Int) : Int := if t ≤ o.2 then min first (max t o.1) else first
/-- The first minute, not before t, at which one of the spans opens. -/
def enter (never : Int) (os : List (Int × Int)) (t : Int) : Int := os.foldl (enterStep t) never
theorem enter_snoc (never : Int) (os : List (Int × Int)) (t : Int) (k : Nat) (h : k < os.length) : enter never (os.take (k + 1)) t = enterStep t (enter never (os.take k) t) (os.getD k (0, 0)) := by
  unfold enter
  rw [List.take_succ_eq_append_getElem h, List.foldl_append]
  simp [List.getD, List.getElem?_eq_getElem h]
theorem step_yes {t f : Int} {o : Int × Int} (h : t ≤ o.2) : enterStep t f o = if (if t < o.1 then o.1 else t) < f then (if t < o.1 then o.1 else t) else f := by
  unfold enterStep; rw [if_pos h]; omega
theorem step_no {t f : Int} {o : Int × Int} (h : o.2 < t) : enterStep t f o = f := by
  unfold enterStep; rw [if_neg (by omega)]

set_option maxHeartbeats 400000 in
theorem rEnter_any (v0 v1 v2 v3 v4 v5 v6 : Value) (A : Option Addr) (n c : Nat) (os : List (Int × Int)) (hn : os.length = n) (hm : n ≤ 1000) (t : Int) (w : World) (h : OpensAt w A os) :
    Calls Try.prog 73 #[.agg #[v0, v1, v2, v3, v4, v5, v6, .slice A n c], .int .i64 t] w fun e w' => e = .returned (.int .i64 (enter 1073741824 os t)) ∧ Ext w w' := by
  go_enter Try.func73, Try.ntmps73
  go_wp2
  go_loop [5, 6] (fun f i => ∃ k : Nat, k ≤ n ∧ i = .int .i64 k ∧ f = .int .i64 (enter 1073741824 (os.take k) t)) (fun _ i => n - (intOf i).toNat)
  case atStart => exact ⟨0, Nat.zero_le _, rfl, rfl⟩
  case round =>
    obtain ⟨k, hk, rfl, rfl⟩ := hrel
    by_cases hlt : k < n
    · obtain ⟨b, off, rfl, hb, hc⟩ := h (by rintro rfl; simp at hn; omega)
      have hs := enter_snoc 1073741824 os t k (by omega)
      have HS : Hid (enter 1073741824 (os.take (k + 1)) t = enterStep t (enter 1073741824 (os.take k) t) (os.getD k (0, 0))) := hs
      clear hs
      have hck := hc k (by omega)
      obtain ⟨hc1, hc2⟩ := hck
      clear hc
      generalize os.getD k (0, 0) = o at *
      generalize enter 1073741824 (os.take k) t = f at *
      by_cases ht : t ≤ o.2
      · have HT := hid (step_yes (f := f) ht)
        go_wp2
        go_round
        case rel => exact ⟨k + 1, by omega, by go_num, by rw [HS.out, HT.out]⟩
        case measure => simp [intOf]; omega
      · have HT := hid (step_no (f := f) (o := o) (t := t) (by omega))
        go_wp2
        go_round
        case rel => exact ⟨k + 1, by omega, by go_num, by rw [HS.out, HT.out]⟩
        case measure => simp [intOf]; omega
    · have HT := hid (List.take_of_length_le (l := os) (i := k) (by omega))
      go_wp2
      go_ret
      exact ⟨ret_int (by rw [HT.out]), by (repeat' (first | with_reducible assumption | with_reducible exact Ext.refl _ | with_reducible refine Ext.alloc ?_ _ | with_reducible refine Ext.set ?_ ?_ _ | with_reducible refine Ext.drew ?_ | with_reducible refine Ext.drewN ?_ _ | with_reducible refine Ext.trans ?_ (by assumption) | (dsimp only; omega)))⟩

set_option maxHeartbeats 400000 in
theorem entry_any (v0 v1 v2 v3 v4 v5 v6 : Value) (A : Option Addr) (n c : Nat) (os : List (Int × Int)) (hn : os.length = n) (hm : n ≤ 1000) (t : Int) (w : World) (h : OpensAt w A os) :
    Calls Try.prog 93 #[.agg #[v0, v1, v2, v3, v4, v5, v6, .slice A n c], .int .i64 t] w fun e w' => e = .returned (.int .i64 (enter 2881 os t)) ∧ Ext w w' := by
  go_enter Try.func93, Try.ntmps93
  go_wp2

  go_loopw [5, 11] (fun f i wr => Ext w wr ∧ ∃ k : Nat, k ≤ n ∧ i = .int .i64 k ∧ f = .int .i64 (enter 2881 (os.take k) t)) (fun _ i _ => n - (intOf i).toNat)
  case atStart => exact ⟨by (repeat' (first | with_reducible assumption | with_reducible exact Ext.refl _ | with_reducible refine Ext.alloc ?_ _ | with_reducible refine Ext.set ?_ ?_ _ | with_reducible refine Ext.drew ?_ | with_reducible refine Ext.drewN ?_ _ | with_reducible refine Ext.trans ?_ (by assumption) | (dsimp only; omega))), 0, Nat.zero_le _, rfl, rfl⟩
  case round =>
    obtain ⟨hE, k, hk, rfl, rfl⟩ := hrel
    by_cases hlt : k < n
    · obtain ⟨b, off, rfl, hb, hc⟩ := (h.ext hE) (by rintro rfl; simp at hn; omega)
      have hs := enter_snoc 2881 os t k (by omega)
      have HS : Hid (enter 2881 (os.take (k + 1)) t = enterStep t (enter 2881 (os.take k) t) (os.getD k (0, 0))) := hs
      clear hs
      have hck := hc k (by omega)
      obtain ⟨hc1, hc2⟩ := hck
      clear hc h
      generalize os.getD k (0, 0) = o at *
      generalize enter 2881 (os.take k) t = f at *
      by_cases ht : t ≤ o.2
      · have HT := hid (step_yes (f := f) ht)
        go_wp2
        go_roundw
        case rel => exact ⟨by (repeat' (first | with_reducible assumption | with_reducible exact Ext.refl _ | with_reducible refine Ext.alloc ?_ _ | with_reducible refine Ext.set ?_ ?_ _ | with_reducible refine Ext.drew ?_ | with_reducible refine Ext.drewN ?_ _ | with_reducible refine Ext.trans ?_ (by assumption) | (dsimp only; omega))), k + 1, by omega, by go_num, by rw [HS.out, HT.out]⟩
        case measure => simp [intOf]; omega
      · have HT := hid (step_no (f := f) (o := o) (t := t) (by omega))
        go_wp2
        go_roundw
        case rel => exact ⟨by (repeat' (first | with_reducible assumption | with_reducible exact Ext.refl _ | with_reducible refine Ext.alloc ?_ _ | with_reducible refine Ext.set ?_ ?_ _ | with_reducible refine Ext.drew ?_ | with_reducible refine Ext.drewN ?_ _ | with_reducible refine Ext.trans ?_ (by assumption) | (dsimp only; omega))), k + 1, by omega, by go_num, by rw [HS.out, HT.out]⟩
        case measure => simp [intOf]; omega
    · have HT := hid (List.take_of_length_le (l := os) (i := k) (by omega))
      go_wp2
      go_ret
      exact ⟨ret_int (by rw [HT.out]), by (repeat' (first | with_reducible assumption | with_reducible exact Ext.refl _ | with_reducible refine Ext.alloc ?_ _ | with_reducible refine Ext.set ?_ ?_ _ | with_reducible refine Ext.drew ?_ | with_reducible refine Ext.drewN ?_ _ | with_reducible refine Ext.trans ?_ (by assumption) | (dsimp only; omega)))⟩
end Go.Proofs.Ytndoghcglbpllaa
set_option linter.unusedSimpArgs false
set_option linter.unusedVariables false
namespace Go.Proofs.Ytndoghcglbpllaa
open Go.RowKit
set_option maxHeartbeats 1000000 in
theorem wtime_any (f d g tl th sl sh gr l pl ph : Int) (v1 v2 v7 : Value) 
    (h1 : 1 ≤ tl) (h2 : tl ≤ th) (h3 : th ≤ 600) (h4 : 50 ≤ pl) (h5 : pl ≤ ph) (h6 : ph ≤ 300) (h7 : 0 ≤ sl) (h8 : sl ≤ sh) (h9 : sh ≤ 30) (hl : 0 ≤ l) (hl' : l ≤ 40) (w : World) :
    Calls Try.prog 48 #[.agg #[v1, v2, .int .i64 gr, .int .i64 l, .int .i64 pl, .int .i64 ph], .agg #[.int .i64 f, .int .i64 d, .int .i64 g, .int .i64 tl, .int .i64 th, .int .i64 sl, .int .i64 sh, v7]] w fun e w' =>
      e = .returned (.agg #[.int .i64 (timeOf tl pl sl l), .int .i64 (timeOf th ph sh l)]) ∧ Ext w w' := by
  go_enter Try.func48, Try.ntmps48
  go_wp2
  refine wp_abs (fun W => (W.cell? ⟨w.heap.size, 0, none⟩ = some v1 ∧ W.cell? ⟨w.heap.size, 1, none⟩ = some v2 ∧ W.cell? ⟨w.heap.size, 2, none⟩ = some (.int .i64 gr) ∧ W.cell? ⟨w.heap.size, 3, none⟩ = some (.int .i64 l) ∧ W.cell? ⟨w.heap.size, 4, none⟩ = some (.int .i64 pl) ∧ W.cell? ⟨w.heap.size, 5, none⟩ = some (.int .i64 ph) ∧
     W.cell? ⟨w.heap.size + 1, 3, none⟩ = some (.int .i64 tl) ∧ W.cell? ⟨w.heap.size + 1, 4, none⟩ = some (.int .i64 th) ∧ W.cell? ⟨w.heap.size + 1, 5, none⟩ = some (.int .i64 sl) ∧ W.cell? ⟨w.heap.size + 1, 6, none⟩ = some (.int .i64 sh)) ∧ (W.cell? ⟨w.heap.size + 1 + 1, 0, none⟩ = some (heldAt W ⟨w.heap.size + 1 + 1, 0, none⟩) ∧ W.cell? ⟨w.heap.size + 1 + 1, 1, none⟩ = some (heldAt W ⟨w.heap.size + 1 + 1, 1, none⟩) ∧
     W.frozen? ⟨w.heap.size + 1 + 1, 0, none⟩ = false ∧ W.frozen? ⟨w.heap.size + 1 + 1, 1, none⟩ = false) ∧ w.heap.size + 3 ≤ W.heap.size ∧ Ext w W) ⟨by go_simp, ⟨held_some (by go_simp), held_some (by go_simp), by go_simp, by go_simp⟩, by simp, by (repeat' (first | with_reducible assumption | with_reducible exact Ext.refl _ | with_reducible refine Ext.alloc ?_ _ | with_reducible refine Ext.set ?_ ?_ _ | with_reducible refine Ext.drew ?_ | with_reducible refine Ext.drewN ?_ _ | with_reducible refine Ext.trans ?_ (by assumption) | (dsimp only; omega)))⟩ ?_
  rintro W ⟨⟨c0, c1, c2, c3, c4, c5, d3, d4, d5, d6⟩, ⟨e0, e1, g0, g1⟩, hz, hE⟩
  go_region_held3 (fun w' => (∀ b o, b < w.heap.size + 2 → w'.cell? ⟨b, o, none⟩ = W.cell? ⟨b, o, none⟩) ∧ w'.cell? ⟨w.heap.size + 1 + 1, 0, none⟩ = some (heldAt w' ⟨w.heap.size + 1 + 1, 0, none⟩) ∧ w'.cell? ⟨w.heap.size + 1 + 1, 1, none⟩ = some (heldAt w' ⟨w.heap.size + 1 + 1, 1, none⟩) ∧
     w'.frozen? ⟨w.heap.size + 1 + 1, 0, none⟩ = false ∧ w'.frozen? ⟨w.heap.size + 1 + 1, 1, none⟩ = false ∧ w.heap.size + 3 ≤ w'.heap.size ∧ Ext w w')
    (((try dsimp only); go_split_ands; (repeat' apply And.intro) <;> first | assumption | exact kcell (by assumption) (by omega) (by assumption) | exact kcell_refl _ _ | exact kcell_set (kcell_set (by assumption) (by dsimp only; omega) _) (by dsimp only; omega) _ | exact kcell_set (by assumption) (by dsimp only; omega) _ | exact held_ext (by assumption) (by dsimp only; omega) (by assumption) | exact hfrozen_ext (by assumption) (by dsimp only; omega) (by assumption) | exact Ext.sizeLe (by assumption) (by assumption) | exact Ext.trans (by assumption) (by assumption) | exact Ext.drew (by assumption) | exact held_set _ _ _ _ (held_set _ _ _ _ (by assumption)) | exact held_set _ _ _ _ (by assumption) | exact hfrozen_set _ _ (hfrozen_set _ _ (by assumption)) | exact hfrozen_set _ _ (by assumption) | exact hsize_set _ _ (hsize_set _ _ (by assumption)) | exact hsize_set _ _ (by assumption) | exact Ext.set (Ext.set (by assumption) (by dsimp only; omega) _) (by dsimp only; omega) _ | exact Ext.set (by assumption) (by dsimp only; omega) _))
    (first | (go_at_call 84; refine (minutes_any _ _ _ _ _ _ _ _ _ (by omega) (by omega) (by omega) (by omega) (by omega) (by omega) (by omega) (by omega) _).mono ?_; rintro e w2 ⟨rfl, hE⟩))
  rename_i hH
  try dsimp only at hH
  obtain ⟨-, k0, k1, -, -, -, hx⟩ := hH
  have r1 := cell_set_val k1
  have r0 := cell_set_val2 (by simp) k0
  clear k0 k1
  go_wp2
  exact bodyPost_ret (v := .agg #[.int .i64 (timeOf tl pl sl l), .int .i64 (timeOf th ph sh l)]) (by simp [results, Try.results48, go_sem, r0, r1]) rfl ⟨rfl, hx⟩
end Go.Proofs.Ytndoghcglbpllaa
/- When a party is at the end of a path. -/
set_option linter.unusedSimpArgs false
set_option linter.unusedVariables false
namespace Go.Proofs.Ytndoghcglbpllaa
open Go.RowKit

theorem timeOf_bd {t p s l : Int} (ht : 1 ≤ t) (ht' : t ≤ 600) (hp : 50 ≤ p) (hp' : p ≤ 300) (hs : 0 ≤ s) (hs' : s ≤ 30) (hl : 0 ≤ l) (hl' : l ≤ 40) : 1 ≤ timeOf t p s l ∧ timeOf t p s l ≤ 10000 := by
  have ⟨h1, h2⟩ := prod_bd t p 600 300 (by omega) ht' (by omega) hp'
  have ⟨h3, h4⟩ := prod_bd (t * p) (100 + 5 * s + l) (600 * 300) 290 h1 h2 (by omega) (by omega)
  have h5 : 50 ≤ t * p := by have := Int.mul_le_mul (a := 1) (b := 50) (c := t) (d := p) ht hp (by omega) (by omega); omega
  have h6 : 50 * 100 ≤ t * p * (100 + 5 * s + l) := Int.mul_le_mul h5 (by omega) (by omega) h1
  unfold timeOf
  omega
theorem enter_bd {never t : Int} (os : List (Int × Int)) (h0 : 0 ≤ t) : 0 ≤ never → 0 ≤ enter never os t ∧ enter never os t ≤ never := by
  unfold enter
  induction os generalizing never with
  | nil => intro h1; simp; omega
  | cons o os ih =>
    intro h1
    have hs : 0 ≤ enterStep t never o ∧ enterStep t never o ≤ never := by unfold enterStep; split <;> omega
    have := ih (never := enterStep t never o) hs.1
    simp only [List.foldl_cons]
    omega
/-- When a party is at the end of a path that is at its beginning at a minute; 2881: never. -/
def arrive (sel : Int → Int → Int) (l pl ph : Int) (p : Pt) (t : Int) : Int := min (enter 2881 p.opens t + sel (timeOf p.tl pl p.sl l) (timeOf p.th ph p.sh l)) 2881
def selHi (_ h : Int) : Int := h
def selLo (l _ : Int) : Int := l
structure PtOk (p : Pt) : Prop where
  t1 : 1 ≤ p.tl
  t2 : p.tl ≤ p.th
  t3 : p.th ≤ 600
  s1 : 0 ≤ p.sl
  s2 : p.sl ≤ p.sh
  s3 : p.sh ≤ 30
  os : p.opens.length ≤ 6
structure PaOk (l pl ph : Int) : Prop where
  p1 : 50 ≤ pl
  p2 : pl ≤ ph
  p3 : ph ≤ 300
  l1 : 0 ≤ l
  l2 : l ≤ 40

set_option maxHeartbeats 2000000 in
theorem arrival_sure (p : Pt) (gr l pl ph : Int) (v1 v2 : Value) (A : Option Addr) (c : Nat) (hp : PtOk p) (ha : PaOk l pl ph) (t : Int) (ht : 0 ≤ t) (_ht' : t ≤ 2881) (w : World) (ho : OpensAt w A p.opens) :
    Calls Try.prog 69 #[.agg #[v1, v2, .int .i64 gr, .int .i64 l, .int .i64 pl, .int .i64 ph], p.val A c, .int .i64 t, .func (.func 70) #[] #[]] w fun e w' =>
      e = .returned (.int .i64 (arrive selHi l pl ph p t)) ∧ Ext w w' := by
  obtain ⟨t1, t2, t3, s1, s2, s3, hos⟩ := hp
  obtain ⟨p1, p2, p3, l1, l2⟩ := ha
  obtain ⟨f, d, g, tl, th, sl, sh, os⟩ := p
  dsimp only at t1 t2 t3 s1 s2 s3 hos ho
  have ⟨b1, b2⟩ := enter_bd (never := 2881) os ht (by omega)
  have ⟨b3, b4⟩ := timeOf_bd t1 (by omega) p1 (by omega) s1 (by omega) l1 l2
  have ⟨b5, b6⟩ := timeOf_bd (t := th) (p := ph) (s := sh) (by omega) t3 (by omega) p3 (by omega) s3 l1 l2
  unfold Pt.val arrive selHi
  dsimp only
  have hw : IntKind.i64.wrap (enter 2881 os t + timeOf th ph sh l) = enter 2881 os t + timeOf th ph sh l := IntWalk.i64_in _ (by omega)
  go_enter Try.func69, Try.ntmps69
  go_wp2
  refine wp_abs (fun W => (W.cell? ⟨w.heap.size, 0, none⟩ = some v1 ∧ W.cell? ⟨w.heap.size, 1, none⟩ = some v2 ∧ W.cell? ⟨w.heap.size, 2, none⟩ = some (.int .i64 gr) ∧ W.cell? ⟨w.heap.size, 3, none⟩ = some (.int .i64 l) ∧ W.cell? ⟨w.heap.size, 4, none⟩ = some (.int .i64 pl) ∧ W.cell? ⟨w.heap.size, 5, none⟩ = some (.int .i64 ph) ∧
     W.cell? ⟨w.heap.size + 1, 0, none⟩ = some (.int .i64 f) ∧ W.cell? ⟨w.heap.size + 1, 1, none⟩ = some (.int .i64 d) ∧ W.cell? ⟨w.heap.size + 1, 2, none⟩ = some (.int .i64 g) ∧
     W.cell? ⟨w.heap.size + 1, 3, none⟩ = some (.int .i64 tl) ∧ W.cell? ⟨w.heap.size + 1, 4, none⟩ = some (.int .i64 th) ∧ W.cell? ⟨w.heap.size + 1, 5, none⟩ = some (.int .i64 sl) ∧ W.cell? ⟨w.heap.size + 1, 6, none⟩ = some (.int .i64 sh) ∧ W.cell? ⟨w.heap.size + 1, 7, none⟩ = some (.slice A os.length c)) ∧ w.heap.size + 2 ≤ W.heap.size ∧ Ext w W) ⟨by go_simp, by simp, by (repeat' (first | with_reducible assumption | with_reducible exact Ext.refl _ | with_reducible refine Ext.alloc ?_ _ | with_reducible refine Ext.set ?_ ?_ _ | with_reducible refine Ext.drew ?_ | with_reducible refine Ext.drewN ?_ _ | with_reducible refine Ext.trans ?_ (by assumption) | (dsimp only; omega)))⟩ ?_
  rintro W ⟨⟨c0, c1, c2, c3, c4, c5, d0, d1, d2, d3, d4, d5, d6, d7⟩, hz, hE⟩
  go_region_held3 (fun w' => (∀ b o, b < w.heap.size + 2 → w'.cell? ⟨b, o, none⟩ = W.cell? ⟨b, o, none⟩) ∧ w.heap.size + 2 ≤ w'.heap.size ∧ Ext w w')
    (((try dsimp only); go_split_ands; (repeat' apply And.intro) <;> first | assumption | exact kcell (by assumption) (by omega) (by assumption) | exact kcell_refl _ _ | exact kcell_set (kcell_set (by assumption) (by dsimp only; omega) _) (by dsimp only; omega) _ | exact kcell_set (by assumption) (by dsimp only; omega) _ | exact held_ext (by assumption) (by dsimp only; omega) (by assumption) | exact hfrozen_ext (by assumption) (by dsimp only; omega) (by assumption) | exact Ext.sizeLe (by assumption) (by assumption) | exact Ext.trans (by assumption) (by assumption) | exact Ext.drew (by assumption) | exact held_set _ _ _ _ (held_set _ _ _ _ (by assumption)) | exact held_set _ _ _ _ (by assumption) | exact hfrozen_set _ _ (hfrozen_set _ _ (by assumption)) | exact hfrozen_set _ _ (by assumption) | exact hsize_set _ _ (hsize_set _ _ (by assumption)) | exact hsize_set _ _ (by assumption) | exact Ext.set (Ext.set (by assumption) (by dsimp only; omega) _) (by dsimp only; omega) _ | exact Ext.set (by assumption) (by dsimp only; omega) _))
    (first
      | (go_at_call 93; refine (entry_any _ _ _ _ _ _ _ _ _ _ os rfl (by omega) _ _ (OpensAt.ext ho ‹_ ∧ _ ∧ Ext _ _›.2.2)).mono ?_; rintro e w2 ⟨rfl, hE2⟩)
      | (go_at_call 48; refine (wtime_any _ _ _ _ _ _ _ _ _ _ _ _ _ _ (by omega) (by omega) (by omega) (by omega) (by omega) (by omega) (by omega) (by omega) (by omega) (by omega) (by omega) _).mono ?_; rintro e w2 ⟨rfl, hE2⟩)
      | (go_at_call 70; refine (sureEnd_any _ _ _).mono ?_; rintro e w2 ⟨rfl, hE2⟩))
  rename_i hH
  try dsimp only at hH
  obtain ⟨-, -, hx⟩ := hH
  clear hw
  go_wp2
  all_goals (go_ret; exact ⟨ret_int (by first | omega | (simp; omega) | (split <;> omega)), hx⟩)
set_option maxHeartbeats 2000000 in
theorem arrival_best (p : Pt) (gr l pl ph : Int) (v1 v2 : Value) (A : Option Addr) (c : Nat) (hp : PtOk p) (ha : PaOk l pl ph) (t : Int) (ht : 0 ≤ t) (_ht' : t ≤ 2881) (w : World) (ho : OpensAt w A p.opens) :
    Calls Try.prog 69 #[.agg #[v1, v2, .int .i64 gr, .int .i64 l, .int .i64 pl, .int .i64 ph], p.val A c, .int .i64 t, .func (.func 87) #[] #[]] w fun e w' =>
      e = .returned (.int .i64 (arrive selLo l pl ph p t)) ∧ Ext w w' := by
  obtain ⟨t1, t2, t3, s1, s2, s3, hos⟩ := hp
  obtain ⟨p1, p2, p3, l1, l2⟩ := ha
  obtain ⟨f, d, g, tl, th, sl, sh, os⟩ := p
  dsimp only at t1 t2 t3 s1 s2 s3 hos ho
  have ⟨b1, b2⟩ := enter_bd (never := 2881) os ht (by omega)
  have ⟨b3, b4⟩ := timeOf_bd t1 (by omega) p1 (by omega) s1 (by omega) l1 l2
  have ⟨b5, b6⟩ := timeOf_bd (t := th) (p := ph) (s := sh) (by omega) t3 (by omega) p3 (by omega) s3 l1 l2
  unfold Pt.val arrive selLo
  dsimp only
  have hw : IntKind.i64.wrap (enter 2881 os t + timeOf tl pl sl l) = enter 2881 os t + timeOf tl pl sl l := IntWalk.i64_in _ (by omega)
  go_enter Try.func69, Try.ntmps69
  go_wp2
  refine wp_abs (fun W => (W.cell? ⟨w.heap.size, 0, none⟩ = some v1 ∧ W.cell? ⟨w.heap.size, 1, none⟩ = some v2 ∧ W.cell? ⟨w.heap.size, 2, none⟩ = some (.int .i64 gr) ∧ W.cell? ⟨w.heap.size, 3, none⟩ = some (.int .i64 l) ∧ W.cell? ⟨w.heap.size, 4, none⟩ = some (.int .i64 pl) ∧ W.cell? ⟨w.heap.size, 5, none⟩ = some (.int .i64 ph) ∧
     W.cell? ⟨w.heap.size + 1, 0, none⟩ = some (.int .i64 f) ∧ W.cell? ⟨w.heap.size + 1, 1, none⟩ = some (.int .i64 d) ∧ W.cell? ⟨w.heap.size + 1, 2, none⟩ = some (.int .i64 g) ∧
     W.cell? ⟨w.heap.size + 1, 3, none⟩ = some (.int .i64 tl) ∧ W.cell? ⟨w.heap.size + 1, 4, none⟩ = some (.int .i64 th) ∧ W.cell? ⟨w.heap.size + 1, 5, none⟩ = some (.int .i64 sl) ∧ W.cell? ⟨w.heap.size + 1, 6, none⟩ = some (.int .i64 sh) ∧ W.cell? ⟨w.heap.size + 1, 7, none⟩ = some (.slice A os.length c)) ∧ w.heap.size + 2 ≤ W.heap.size ∧ Ext w W) ⟨by go_simp, by simp, by (repeat' (first | with_reducible assumption | with_reducible exact Ext.refl _ | with_reducible refine Ext.alloc ?_ _ | with_reducible refine Ext.set ?_ ?_ _ | with_reducible refine Ext.drew ?_ | with_reducible refine Ext.drewN ?_ _ | with_reducible refine Ext.trans ?_ (by assumption) | (dsimp only; omega)))⟩ ?_
  rintro W ⟨⟨c0, c1, c2, c3, c4, c5, d0, d1, d2, d3, d4, d5, d6, d7⟩, hz, hE⟩
  go_region_held3 (fun w' => (∀ b o, b < w.heap.size + 2 → w'.cell? ⟨b, o, none⟩ = W.cell? ⟨b, o, none⟩) ∧ w.heap.size + 2 ≤ w'.heap.size ∧ Ext w w')
    (((try dsimp only); go_split_ands; (repeat' apply And.intro) <;> first | assumption | exact kcell (by assumption) (by omega) (by assumption) | exact kcell_refl _ _ | exact kcell_set (kcell_set (by assumption) (by dsimp only; omega) _) (by dsimp only; omega) _ | exact kcell_set (by assumption) (by dsimp only; omega) _ | exact held_ext (by assumption) (by dsimp only; omega) (by assumption) | exact hfrozen_ext (by assumption) (by dsimp only; omega) (by assumption) | exact Ext.sizeLe (by assumption) (by assumption) | exact Ext.trans (by assumption) (by assumption) | exact Ext.drew (by assumption) | exact held_set _ _ _ _ (held_set _ _ _ _ (by assumption)) | exact held_set _ _ _ _ (by assumption) | exact hfrozen_set _ _ (hfrozen_set _ _ (by assumption)) | exact hfrozen_set _ _ (by assumption) | exact hsize_set _ _ (hsize_set _ _ (by assumption)) | exact hsize_set _ _ (by assumption) | exact Ext.set (Ext.set (by assumption) (by dsimp only; omega) _) (by dsimp only; omega) _ | exact Ext.set (by assumption) (by dsimp only; omega) _))
    (first
      | (go_at_call 93; refine (entry_any _ _ _ _ _ _ _ _ _ _ os rfl (by omega) _ _ (OpensAt.ext ho ‹_ ∧ _ ∧ Ext _ _›.2.2)).mono ?_; rintro e w2 ⟨rfl, hE2⟩)
      | (go_at_call 48; refine (wtime_any _ _ _ _ _ _ _ _ _ _ _ _ _ _ (by omega) (by omega) (by omega) (by omega) (by omega) (by omega) (by omega) (by omega) (by omega) (by omega) (by omega) _).mono ?_; rintro e w2 ⟨rfl, hE2⟩)
      | (go_at_call 87; refine (bestEnd_any _ _ _).mono ?_; rintro e w2 ⟨rfl, hE2⟩))
  rename_i hH
  try dsimp only at hH
  obtain ⟨-, -, hx⟩ := hH
  clear hw
  go_wp2
  all_goals (go_ret; exact ⟨ret_int (by first | omega | (simp; omega) | (split <;> omega)), hx⟩)
end Go.Proofs.Ytndoghcglbpllaa
