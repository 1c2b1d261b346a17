/- The checks at the beginning of a function. -/
import Derived.Test.YtndoghcglbpllaaValid2
set_option linter.unusedSimpArgs false
set_option linter.unusedVariables false
namespace Go.Proofs.Ytndoghcglbpllaa
open Go.RowKit

def beginE (m g l pl ph : Int) (ps : List Pt) (xs ts : List Int) : Int :=
  if vNet m ps = true then if vParty g l pl ph = true then if (xs.any fun x => !placeB m x) = true then 1 else if (ts.any fun x => !minuteB x) = true then 1 else 0 else 11 else 10

set_option maxHeartbeats 1000000 in
theorem begin_ok     (m g l pl ph : Int) (A A1 A2 : Option Addr) (n c n1 c1 n2 c2 : Nat) (ps : List Pt) (xs ts : List Int) (hn : ps.length = n) (h1 : xs.length = n1) (h2 : ts.length = n2) (hm1 : n1 ≤ 1000) (hm2 : n2 ≤ 1000)
                     (w : World) (hp : PathsAt w A ps) (hx : IntsAt w A1 xs) (ht : IntsAt w A2 ts) (hb : beginE m g l pl ph ps xs ts = 0) :
    Calls Try.prog 45 #[.agg #[.int .i64 m, .slice A n c], .agg #[.int .i64 g, .int .i64 l, .int .i64 pl, .int .i64 ph], .slice A1 n1 c1, .slice A2 n2 c2] w fun e w' => e = .returned (.tuple #[.agg #[.int .i64 m, .slice A n c, .int .i64 g, .int .i64 l, .int .i64 pl, .int .i64 ph], .int .i64 0]) ∧ Ext w w' := by
  unfold beginE at hb
  have HN := hid (fun (W : World) (hW : Ext w W) => validNet_any m A n c ps hn W (PathsAt.ext hp hW))
  have HV := hid (fun (W : World) => validParty_any g l pl ph W)
  have HP := hid (fun (W : World) (hW : Ext w W) (hq : w.heap.size < W.heap.size) (c0 : W.cell? ⟨w.heap.size, 0, none⟩ = some (.int .i64 m)) (c1' : W.cell? ⟨w.heap.size, 1, none⟩ = some (.slice A n c)) =>
    containsPlace_any w.heap.size xs (fun x => !placeB m x) A1 n1 c1 h1 hm1 W (IntsAt.ext hx hW) (fun x W' h1 => begin1_any m x w.heap.size (.slice A n c) W' ((h1.cell hq).trans c0) ((h1.cell hq).trans c1')))
  have HM := hid (fun (W : World) (hW : Ext w W) => containsMinute_any 0 ts (fun x => !minuteB x) A2 n2 c2 h2 hm2 W (IntsAt.ext ht hW) (fun x W' _ => begin2_any x W'))
  clear hp hx ht hn h1 h2 hm1 hm2
  revert HN HV HP HM hb
  generalize vNet m ps = k1
  generalize vParty g l pl ph = k2
  generalize (xs.any fun x => !placeB m x) = k3
  generalize (ts.any fun x => !minuteB x) = k4
  cases k1 <;> cases k2 <;> cases k3 <;> cases k4 <;> intro hb HN HV HP HM <;> try (exact absurd hb (by decide))
  clear hb
  go_enter Try.func45, Try.ntmps45
  go_wp2_with fail
  (go_at_call 41; refine (HN.out _ (by (repeat' (first | with_reducible assumption | with_reducible exact Ext.refl _ | with_reducible refine Ext.alloc ?_ _ | with_reducible refine Ext.set ?_ ?_ _ | with_reducible refine Ext.drew ?_ | with_reducible refine Ext.drewN ?_ _ | with_reducible refine Ext.trans ?_ (by assumption) | (dsimp only; omega))))).mono ?_; rintro e w2 ⟨rfl, hE⟩; (first | (have hK := KC.step (n := w.heap.size + 3) (by with_reducible assumption) hE) | (have hK := KC.step (KC.step (n := w.heap.size + 3) (by with_reducible assumption) (ext_alloc1 _ _)) hE) | (have hK := KC.step (KC.refl (n := w.heap.size + 3) (by simp)) hE)); have hC := hK.cell; have hF := hK.fro; have hX := hK.ext)
  go_wp2_with fail
  (go_at_call 79; refine (HV.out _).mono ?_; rintro e w2 ⟨rfl, hE⟩; (first | (have hK := KC.step (n := w.heap.size + 3) (by with_reducible assumption) hE) | (have hK := KC.step (KC.step (n := w.heap.size + 3) (by with_reducible assumption) (ext_alloc1 _ _)) hE) | (have hK := KC.step (KC.refl (n := w.heap.size + 3) (by simp)) hE)); have hC := hK.cell; have hF := hK.fro; have hX := hK.ext)
  go_wp2_with fail
  (go_at_call 83; refine (HP.out _ (by (repeat' (first | with_reducible assumption | with_reducible exact Ext.refl _ | with_reducible refine Ext.alloc ?_ _ | with_reducible refine Ext.set ?_ ?_ _ | with_reducible refine Ext.drew ?_ | with_reducible refine Ext.drewN ?_ _ | with_reducible refine Ext.trans ?_ (by assumption) | (dsimp only; omega)))) (by have := hK.size; omega) (by go_simp) (by go_simp)).mono ?_; rintro e w2 ⟨rfl, hE⟩; (first | (have hK := KC.step (n := w.heap.size + 3) (by with_reducible assumption) hE) | (have hK := KC.step (KC.step (n := w.heap.size + 3) (by with_reducible assumption) (ext_alloc1 _ _)) hE) | (have hK := KC.step (KC.refl (n := w.heap.size + 3) (by simp)) hE)); have hC := hK.cell; have hF := hK.fro; have hX := hK.ext)
  go_wp2_with fail
  (go_at_call 83; refine (HM.out _ (by (repeat' (first | with_reducible assumption | with_reducible exact Ext.refl _ | with_reducible refine Ext.alloc ?_ _ | with_reducible refine Ext.set ?_ ?_ _ | with_reducible refine Ext.drew ?_ | with_reducible refine Ext.drewN ?_ _ | with_reducible refine Ext.trans ?_ (by assumption) | (dsimp only; omega))))).mono ?_; rintro e w2 ⟨rfl, hE⟩; (first | (have hK := KC.step (n := w.heap.size + 3) (by with_reducible assumption) hE) | (have hK := KC.step (KC.step (n := w.heap.size + 3) (by with_reducible assumption) (ext_alloc1 _ _)) hE) | (have hK := KC.step (KC.refl (n := w.heap.size + 3) (by simp)) hE)); have hC := hK.cell; have hF := hK.fro; have hX := hK.ext)
  go_wp2_with fail
  exact bodyPost_ret (v := .tuple #[.agg #[.int .i64 m, .slice A n c, .int .i64 g, .int .i64 l, .int .i64 pl, .int .i64 ph], .int .i64 0]) (by simp [results, Try.results45, go_sem, hC]) rfl ⟨rfl, by (repeat' (first | with_reducible assumption | with_reducible exact Ext.refl _ | with_reducible refine Ext.alloc ?_ _ | with_reducible refine Ext.set ?_ ?_ _ | with_reducible refine Ext.drew ?_ | with_reducible refine Ext.drewN ?_ _ | with_reducible refine Ext.trans ?_ (by assumption) | (dsimp only; omega)))⟩

set_option maxHeartbeats 2000000 in
theorem begin_bad     (m g l pl ph : Int) (A A1 A2 : Option Addr) (n c n1 c1 n2 c2 : Nat) (ps : List Pt) (xs ts : List Int) (hn : ps.length = n) (h1 : xs.length = n1) (h2 : ts.length = n2) (hm1 : n1 ≤ 1000) (hm2 : n2 ≤ 1000)
                      (w : World) (hp : PathsAt w A ps) (hx : IntsAt w A1 xs) (ht : IntsAt w A2 ts) (E : Int) (hE : beginE m g l pl ph ps xs ts = E) (hne : E ≠ 0) :
    Calls Try.prog 45 #[.agg #[.int .i64 m, .slice A n c], .agg #[.int .i64 g, .int .i64 l, .int .i64 pl, .int .i64 ph], .slice A1 n1 c1, .slice A2 n2 c2] w fun e w' => e = .returned (.tuple #[.agg #[.int .i64 0, .slice none 0 0, .int .i64 0, .int .i64 0, .int .i64 0, .int .i64 0], .int .i64 E]) ∧ Ext w w' := by
  unfold beginE at hE
  have HN := hid (fun (W : World) (hW : Ext w W) => validNet_any m A n c ps hn W (PathsAt.ext hp hW))
  have HV := hid (fun (W : World) => validParty_any g l pl ph W)
  have HP := hid (fun (W : World) (hW : Ext w W) (hq : w.heap.size < W.heap.size) (c0 : W.cell? ⟨w.heap.size, 0, none⟩ = some (.int .i64 m)) (c1' : W.cell? ⟨w.heap.size, 1, none⟩ = some (.slice A n c)) =>
    containsPlace_any w.heap.size xs (fun x => !placeB m x) A1 n1 c1 h1 hm1 W (IntsAt.ext hx hW) (fun x W' h1 => begin1_any m x w.heap.size (.slice A n c) W' ((h1.cell hq).trans c0) ((h1.cell hq).trans c1')))
  have HM := hid (fun (W : World) (hW : Ext w W) => containsMinute_any 0 ts (fun x => !minuteB x) A2 n2 c2 h2 hm2 W (IntsAt.ext ht hW) (fun x W' _ => begin2_any x W'))
  clear hp hx ht hn h1 h2 hm1 hm2
  revert HN HV HP HM hE
  generalize vNet m ps = k1
  generalize vParty g l pl ph = k2
  generalize (xs.any fun x => !placeB m x) = k3
  generalize (ts.any fun x => !minuteB x) = k4
  cases k1
  · intro hb HN HV HP HM
    obtain rfl : E = 10 := by simpa using hb.symm
    clear hb hne HV HP HM
    go_enter Try.func45, Try.ntmps45
    go_wp2_with fail
    (go_at_call 41; refine (HN.out _ (by (repeat' (first | with_reducible assumption | with_reducible exact Ext.refl _ | with_reducible refine Ext.alloc ?_ _ | with_reducible refine Ext.set ?_ ?_ _ | with_reducible refine Ext.drew ?_ | with_reducible refine Ext.drewN ?_ _ | with_reducible refine Ext.trans ?_ (by assumption) | (dsimp only; omega))))).mono ?_; rintro e w2 ⟨rfl, hE⟩; (first | (have hK := KC.step (n := w.heap.size + 3) (by with_reducible assumption) hE) | (have hK := KC.step (KC.step (n := w.heap.size + 3) (by with_reducible assumption) (ext_alloc1 _ _)) hE) | (have hK := KC.step (KC.refl (n := w.heap.size + 3) (by simp)) hE)); have hC := hK.cell; have hF := hK.fro; have hX := hK.ext)
    go_wp2_with fail
    exact bodyPost_ret (v := .tuple #[.agg #[.int .i64 0, .slice none 0 0, .int .i64 0, .int .i64 0, .int .i64 0, .int .i64 0], .int .i64 10]) (by simp [results, Try.results45, go_sem, hC]) rfl ⟨rfl, by (repeat' (first | with_reducible assumption | with_reducible exact Ext.refl _ | with_reducible refine Ext.alloc ?_ _ | with_reducible refine Ext.set ?_ ?_ _ | with_reducible refine Ext.drew ?_ | with_reducible refine Ext.drewN ?_ _ | with_reducible refine Ext.trans ?_ (by assumption) | (dsimp only; omega)))⟩
  cases k2
  · intro hb HN HV HP HM
    obtain rfl : E = 11 := by simpa using hb.symm
    clear hb hne HP HM
    go_enter Try.func45, Try.ntmps45
    go_wp2_with fail
    (go_at_call 41; refine (HN.out _ (by (repeat' (first | with_reducible assumption | with_reducible exact Ext.refl _ | with_reducible refine Ext.alloc ?_ _ | with_reducible refine Ext.set ?_ ?_ _ | with_reducible refine Ext.drew ?_ | with_reducible refine Ext.drewN ?_ _ | with_reducible refine Ext.trans ?_ (by assumption) | (dsimp only; omega))))).mono ?_; rintro e w2 ⟨rfl, hE⟩; (first | (have hK := KC.step (n := w.heap.size + 3) (by with_reducible assumption) hE) | (have hK := KC.step (KC.step (n := w.heap.size + 3) (by with_reducible assumption) (ext_alloc1 _ _)) hE) | (have hK := KC.step (KC.refl (n := w.heap.size + 3) (by simp)) hE)); have hC := hK.cell; have hF := hK.fro; have hX := hK.ext)
    go_wp2_with fail
    (go_at_call 79; refine (HV.out _).mono ?_; rintro e w2 ⟨rfl, hE⟩; (first | (have hK := KC.step (n := w.heap.size + 3) (by with_reducible assumption) hE) | (have hK := KC.step (KC.step (n := w.heap.size + 3) (by with_reducible assumption) (ext_alloc1 _ _)) hE) | (have hK := KC.step (KC.refl (n := w.heap.size + 3) (by simp)) hE)); have hC := hK.cell; have hF := hK.fro; have hX := hK.ext)
    go_wp2_with fail
    exact bodyPost_ret (v := .tuple #[.agg #[.int .i64 0, .slice none 0 0, .int .i64 0, .int .i64 0, .int .i64 0, .int .i64 0], .int .i64 11]) (by simp [results, Try.results45, go_sem, hC]) rfl ⟨rfl, by (repeat' (first | with_reducible assumption | with_reducible exact Ext.refl _ | with_reducible refine Ext.alloc ?_ _ | with_reducible refine Ext.set ?_ ?_ _ | with_reducible refine Ext.drew ?_ | with_reducible refine Ext.drewN ?_ _ | with_reducible refine Ext.trans ?_ (by assumption) | (dsimp only; omega)))⟩
  cases k3
  case true =>
    intro hb HN HV HP HM
    obtain rfl : E = 1 := by simpa using hb.symm
    clear hb hne HM
    go_enter Try.func45, Try.ntmps45
    go_wp2_with fail
    (go_at_call 41; refine (HN.out _ (by (repeat' (first | with_reducible assumption | with_reducible exact Ext.refl _ | with_reducible refine Ext.alloc ?_ _ | with_reducible refine Ext.set ?_ ?_ _ | with_reducible refine Ext.drew ?_ | with_reducible refine Ext.drewN ?_ _ | with_reducible refine Ext.trans ?_ (by assumption) | (dsimp only; omega))))).mono ?_; rintro e w2 ⟨rfl, hE⟩; (first | (have hK := KC.step (n := w.heap.size + 3) (by with_reducible assumption) hE) | (have hK := KC.step (KC.step (n := w.heap.size + 3) (by with_reducible assumption) (ext_alloc1 _ _)) hE) | (have hK := KC.step (KC.refl (n := w.heap.size + 3) (by simp)) hE)); have hC := hK.cell; have hF := hK.fro; have hX := hK.ext)
    go_wp2_with fail
    (go_at_call 79; refine (HV.out _).mono ?_; rintro e w2 ⟨rfl, hE⟩; (first | (have hK := KC.step (n := w.heap.size + 3) (by with_reducible assumption) hE) | (have hK := KC.step (KC.step (n := w.heap.size + 3) (by with_reducible assumption) (ext_alloc1 _ _)) hE) | (have hK := KC.step (KC.refl (n := w.heap.size + 3) (by simp)) hE)); have hC := hK.cell; have hF := hK.fro; have hX := hK.ext)
    go_wp2_with fail
    (go_at_call 83; refine (HP.out _ (by (repeat' (first | with_reducible assumption | with_reducible exact Ext.refl _ | with_reducible refine Ext.alloc ?_ _ | with_reducible refine Ext.set ?_ ?_ _ | with_reducible refine Ext.drew ?_ | with_reducible refine Ext.drewN ?_ _ | with_reducible refine Ext.trans ?_ (by assumption) | (dsimp only; omega)))) (by have := hK.size; omega) (by go_simp) (by go_simp)).mono ?_; rintro e w2 ⟨rfl, hE⟩; (first | (have hK := KC.step (n := w.heap.size + 3) (by with_reducible assumption) hE) | (have hK := KC.step (KC.step (n := w.heap.size + 3) (by with_reducible assumption) (ext_alloc1 _ _)) hE) | (have hK := KC.step (KC.refl (n := w.heap.size + 3) (by simp)) hE)); have hC := hK.cell; have hF := hK.fro; have hX := hK.ext)
    go_wp2_with fail
    exact bodyPost_ret (v := .tuple #[.agg #[.int .i64 0, .slice none 0 0, .int .i64 0, .int .i64 0, .int .i64 0, .int .i64 0], .int .i64 1]) (by simp [results, Try.results45, go_sem, hC]) rfl ⟨rfl, by (repeat' (first | with_reducible assumption | with_reducible exact Ext.refl _ | with_reducible refine Ext.alloc ?_ _ | with_reducible refine Ext.set ?_ ?_ _ | with_reducible refine Ext.drew ?_ | with_reducible refine Ext.drewN ?_ _ | with_reducible refine Ext.trans ?_ (by assumption) | (dsimp only; omega)))⟩
  cases k4
  case true =>
    intro hb HN HV HP HM
    obtain rfl : E = 1 := by simpa using hb.symm
    clear hb hne
    go_enter Try.func45, Try.ntmps45
    go_wp2_with fail
    (go_at_call 41; refine (HN.out _ (by (repeat' (first | with_reducible assumption | with_reducible exact Ext.refl _ | with_reducible refine Ext.alloc ?_ _ | with_reducible refine Ext.set ?_ ?_ _ | with_reducible refine Ext.drew ?_ | with_reducible refine Ext.drewN ?_ _ | with_reducible refine Ext.trans ?_ (by assumption) | (dsimp only; omega))))).mono ?_; rintro e w2 ⟨rfl, hE⟩; (first | (have hK := KC.step (n := w.heap.size + 3) (by with_reducible assumption) hE) | (have hK := KC.step (KC.step (n := w.heap.size + 3) (by with_reducible assumption) (ext_alloc1 _ _)) hE) | (have hK := KC.step (KC.refl (n := w.heap.size + 3) (by simp)) hE)); have hC := hK.cell; have hF := hK.fro; have hX := hK.ext)
    go_wp2_with fail
    (go_at_call 79; refine (HV.out _).mono ?_; rintro e w2 ⟨rfl, hE⟩; (first | (have hK := KC.step (n := w.heap.size + 3) (by with_reducible assumption) hE) | (have hK := KC.step (KC.step (n := w.heap.size + 3) (by with_reducible assumption) (ext_alloc1 _ _)) hE) | (have hK := KC.step (KC.refl (n := w.heap.size + 3) (by simp)) hE)); have hC := hK.cell; have hF := hK.fro; have hX := hK.ext)
    go_wp2_with fail
    (go_at_call 83; refine (HP.out _ (by (repeat' (first | with_reducible assumption | with_reducible exact Ext.refl _ | with_reducible refine Ext.alloc ?_ _ | with_reducible refine Ext.set ?_ ?_ _ | with_reducible refine Ext.drew ?_ | with_reducible refine Ext.drewN ?_ _ | with_reducible refine Ext.trans ?_ (by assumption) | (dsimp only; omega)))) (by have := hK.size; omega) (by go_simp) (by go_simp)).mono ?_; rintro e w2 ⟨rfl, hE⟩; (first | (have hK := KC.step (n := w.heap.size + 3) (by with_reducible assumption) hE) | (have hK := KC.step (KC.step (n := w.heap.size + 3) (by with_reducible assumption) (ext_alloc1 _ _)) hE) | (have hK := KC.step (KC.refl (n := w.heap.size + 3) (by simp)) hE)); have hC := hK.cell; have hF := hK.fro; have hX := hK.ext)
    go_wp2_with fail
    (go_at_call 83; refine (HM.out _ (by (repeat' (first | with_reducible assumption | with_reducible exact Ext.refl _ | with_reducible refine Ext.alloc ?_ _ | with_reducible refine Ext.set ?_ ?_ _ | with_reducible refine Ext.drew ?_ | with_reducible refine Ext.drewN ?_ _ | with_reducible refine Ext.trans ?_ (by assumption) | (dsimp only; omega))))).mono ?_; rintro e w2 ⟨rfl, hE⟩; (first | (have hK := KC.step (n := w.heap.size + 3) (by with_reducible assumption) hE) | (have hK := KC.step (KC.step (n := w.heap.size + 3) (by with_reducible assumption) (ext_alloc1 _ _)) hE) | (have hK := KC.step (KC.refl (n := w.heap.size + 3) (by simp)) hE)); have hC := hK.cell; have hF := hK.fro; have hX := hK.ext)
    go_wp2_with fail
    exact bodyPost_ret (v := .tuple #[.agg #[.int .i64 0, .slice none 0 0, .int .i64 0, .int .i64 0, .int .i64 0, .int .i64 0], .int .i64 1]) (by simp [results, Try.results45, go_sem, hC]) rfl ⟨rfl, by (repeat' (first | with_reducible assumption | with_reducible exact Ext.refl _ | with_reducible refine Ext.alloc ?_ _ | with_reducible refine Ext.set ?_ ?_ _ | with_reducible refine Ext.drew ?_ | with_reducible refine Ext.drewN ?_ _ | with_reducible refine Ext.trans ?_ (by assumption) | (dsimp only; omega)))⟩
  intro hb _ _ _ _
  exact absurd (by simpa using hb.symm) hne
end Go.Proofs.Ytndoghcglbpllaa
