/- Prop: the fewest posts to be propped. -/
import Derived.Test.YtggggnjibedgaaaGreatB13
import Derived.Test.YtggggnjibedgaaaGreatB05
import Derived.Test.YtggggnjibedgaaaGreatB06
import Derived.Test.YtggggnjibedgaaaGreatB12
import Derived.Deep.QuietTactic
import Derived.BigQuiet
import Derived.Test.YtggggnjibedgaaaGreatB01
set_option linter.unusedSimpArgs false
set_option linter.unusedVariables false
namespace Go.Proofs.YtggggnjibedgaaaGreat
open Go.RowKit
set_option maxHeartbeats 1000000 in
theorem isPost_any (x : Po) (w : World) : Calls Tryz.prog 123 #[x.val] w fun e w' => e = .returned (.bool (poB x)) ∧ Ext w w' := by
  unfold poB Po.val
  have HW := hid (fun a b c W => within_any a b c W)
  have HS := hid (fun s b c W => spanW_any s b c W)
  obtain ⟨p, l, h⟩ := x
  dsimp only
  unfold Sp.val at HS
  obtain ⟨b2, h2⟩ : ∃ b, inI p 0 100000 = b := ⟨_, rfl⟩
  obtain ⟨b3, h3⟩ : ∃ b, spB l h 0 100 = b := ⟨_, rfl⟩
  rw [h2, h3]
  cases b2
  case false => go_enter Tryz.func123, Tryz.ntmps123
                go_wp2_with (first
                  | (go_at_call 72; refine (HW.out _ _ _ _).mono ?_; rintro e w2 ⟨rfl, rfl⟩; simp only [h2])
                  | (go_at_call 104; refine (HS.out ⟨_, _⟩ _ _ _).mono ?_; rintro e w2 ⟨rfl, hE⟩; dsimp only; simp only [h3]; (first | (have hK := KC.step (n := w.heap.size + 1) (by with_reducible assumption) hE) | (have hK := KC.step (KC.step (n := w.heap.size + 1) (by with_reducible assumption) (ext_alloc1 _ _)) hE) | (have hK := KC.step (KC.refl (n := w.heap.size + 1) (by simp)) hE)); have hC := hK.cell; have hF := hK.fro; have hX := hK.ext))
                go_ret
                exact ⟨ret_bool (by simp [*]), by (repeat' (first | with_reducible assumption | with_reducible exact Ext.refl _ | with_reducible refine Ext.alloc ?_ _ | with_reducible refine Ext.set ?_ ?_ _ | with_reducible refine Ext.drew ?_ | with_reducible refine Ext.drewN ?_ _ | with_reducible refine Ext.trans ?_ (by assumption) | (dsimp only; omega)))⟩
  go_enter Tryz.func123, Tryz.ntmps123
  go_wp2_with (first
    | (go_at_call 72; refine (HW.out _ _ _ _).mono ?_; rintro e w2 ⟨rfl, rfl⟩; simp only [h2])
    | (go_at_call 104; refine (HS.out ⟨_, _⟩ _ _ _).mono ?_; rintro e w2 ⟨rfl, hE⟩; dsimp only; simp only [h3]; (first | (have hK := KC.step (n := w.heap.size + 1) (by with_reducible assumption) hE) | (have hK := KC.step (KC.step (n := w.heap.size + 1) (by with_reducible assumption) (ext_alloc1 _ _)) hE) | (have hK := KC.step (KC.refl (n := w.heap.size + 1) (by simp)) hE)); have hC := hK.cell; have hF := hK.fro; have hX := hK.ext))
  go_ret
  exact ⟨ret_bool (by simp [*]), by (repeat' (first | with_reducible assumption | with_reducible exact Ext.refl _ | with_reducible refine Ext.alloc ?_ _ | with_reducible refine Ext.set ?_ ?_ _ | with_reducible refine Ext.drew ?_ | with_reducible refine Ext.drewN ?_ _ | with_reducible refine Ext.trans ?_ (by assumption) | (dsimp only; omega)))⟩
set_option maxHeartbeats 1000000 in
theorem stand_any (x y : Po) (w : World) : Calls Tryz.prog 124 #[x.val, y.val] w fun e w' => e = .returned (.bool (poO x y)) ∧ Ext w w' := by
  unfold poO Po.val
  obtain ⟨p, l, h⟩ := x
  obtain ⟨p', l', h'⟩ := y
  dsimp only
  go_enter Tryz.func124, Tryz.ntmps124
  go_wp2
  all_goals (go_ret; exact ⟨ret_bool (by first | (simp [*]; done) | (simp [*]; omega)), by (repeat' (first | with_reducible assumption | with_reducible exact Ext.refl _ | with_reducible refine Ext.alloc ?_ _ | with_reducible refine Ext.set ?_ ?_ _ | with_reducible refine Ext.drew ?_ | with_reducible refine Ext.drewN ?_ _ | with_reducible refine Ext.trans ?_ (by assumption) | (dsimp only; omega)))⟩)
set_option maxHeartbeats 4000000 in
theorem checkPosts_any (ps : List Po) (lim yrs : Int) (A : Option Addr) (n c : Nat) (hn : ps.length = n) (hm : n ≤ 1000) (w : World) (hx : PosAt w A ps) :
    Calls Tryz.prog 90 #[.slice A n c, .int .i64 lim, .int .i64 yrs] w fun e w' => e = .returned (.int .i64 (posE ps lim yrs)) ∧ Ext w w' := by
  have HA := hid (fun (W : World) (hE : Ext w W) => allPo_any 123 #[] (fun _ _ => by kernel_rfl) ps poB A n c hn (by omega) W (hx.ext hE) (fun x W' _ _ => isPost_any x W'))
  have HO := hid (fun (W : World) (hE : Ext w W) => ordPo_any 124 #[] (fun _ _ => by kernel_rfl) ps poO A n c hn (by omega) W (hx.ext hE) (fun x y W' _ => stand_any x y W'))
  have HW := hid (fun a b c W => within_any a b c W)
  unfold posE posB
  rw [hn]
  clear hx hn
  generalize ps.all poB = b1 at *
  generalize ordB poO zeroPo ps = b2 at *
  obtain ⟨b3, h3⟩ : ∃ b, inI lim 0 1000 = b := ⟨_, rfl⟩
  obtain ⟨b4, h4⟩ : ∃ b, inI yrs 0 100 = b := ⟨_, rfl⟩
  rw [h3, h4]
  by_cases h5 : n ≤ 8
  case neg =>
    rw [decide_eq_false h5]
    simp only [Bool.false_and, Bool.and_false, Bool.and_true, Bool.true_and, Bool.false_eq_true, if_false, if_true]
    go_enter Tryz.func90, Tryz.ntmps90
    go_wp2_with (first
      | (go_at_call 72; refine (HW.out _ _ _ _).mono ?_; rintro e w2 ⟨rfl, rfl⟩; simp only [h3, h4])
      | (go_at_call 125; refine (HA.out _ (by (repeat' (first | with_reducible assumption | with_reducible exact Ext.refl _ | with_reducible refine Ext.alloc ?_ _ | with_reducible refine Ext.set ?_ ?_ _ | with_reducible refine Ext.drew ?_ | with_reducible refine Ext.drewN ?_ _ | with_reducible refine Ext.trans ?_ (by assumption) | (dsimp only; omega))))).mono ?_; rintro e w2 ⟨rfl, hE⟩; (first | (have hK := KC.step (n := w.heap.size) (by with_reducible assumption) hE) | (have hK := KC.step (KC.step (n := w.heap.size) (by with_reducible assumption) (ext_alloc1 _ _)) hE) | (have hK := KC.step (KC.refl (n := w.heap.size) (by simp)) hE)); have hC := hK.cell; have hF := hK.fro; have hX := hK.ext)
      | (go_at_call 126; refine (HO.out _ (by (repeat' (first | with_reducible assumption | with_reducible exact Ext.refl _ | with_reducible refine Ext.alloc ?_ _ | with_reducible refine Ext.set ?_ ?_ _ | with_reducible refine Ext.drew ?_ | with_reducible refine Ext.drewN ?_ _ | with_reducible refine Ext.trans ?_ (by assumption) | (dsimp only; omega))))).mono ?_; rintro e w2 ⟨rfl, hE⟩; (first | (have hK := KC.step (n := w.heap.size) (by with_reducible assumption) hE) | (have hK := KC.step (KC.step (n := w.heap.size) (by with_reducible assumption) (ext_alloc1 _ _)) hE) | (have hK := KC.step (KC.refl (n := w.heap.size) (by simp)) hE)); have hC := hK.cell; have hF := hK.fro; have hX := hK.ext))
    go_ret
    exact ⟨rfl, by (repeat' (first | with_reducible assumption | with_reducible exact Ext.refl _ | with_reducible refine Ext.alloc ?_ _ | with_reducible refine Ext.set ?_ ?_ _ | with_reducible refine Ext.drew ?_ | with_reducible refine Ext.drewN ?_ _ | with_reducible refine Ext.trans ?_ (by assumption) | (dsimp only; omega)))⟩
  rw [decide_eq_true h5]
  cases b1
  case false => simp only [Bool.false_and, Bool.and_false, Bool.and_true, Bool.true_and, Bool.false_eq_true, if_false, if_true]
                go_enter Tryz.func90, Tryz.ntmps90
                go_wp2_with (first
                  | (go_at_call 72; refine (HW.out _ _ _ _).mono ?_; rintro e w2 ⟨rfl, rfl⟩; simp only [h3, h4])
                  | (go_at_call 125; refine (HA.out _ (by (repeat' (first | with_reducible assumption | with_reducible exact Ext.refl _ | with_reducible refine Ext.alloc ?_ _ | with_reducible refine Ext.set ?_ ?_ _ | with_reducible refine Ext.drew ?_ | with_reducible refine Ext.drewN ?_ _ | with_reducible refine Ext.trans ?_ (by assumption) | (dsimp only; omega))))).mono ?_; rintro e w2 ⟨rfl, hE⟩; (first | (have hK := KC.step (n := w.heap.size) (by with_reducible assumption) hE) | (have hK := KC.step (KC.step (n := w.heap.size) (by with_reducible assumption) (ext_alloc1 _ _)) hE) | (have hK := KC.step (KC.refl (n := w.heap.size) (by simp)) hE)); have hC := hK.cell; have hF := hK.fro; have hX := hK.ext)
                  | (go_at_call 126; refine (HO.out _ (by (repeat' (first | with_reducible assumption | with_reducible exact Ext.refl _ | with_reducible refine Ext.alloc ?_ _ | with_reducible refine Ext.set ?_ ?_ _ | with_reducible refine Ext.drew ?_ | with_reducible refine Ext.drewN ?_ _ | with_reducible refine Ext.trans ?_ (by assumption) | (dsimp only; omega))))).mono ?_; rintro e w2 ⟨rfl, hE⟩; (first | (have hK := KC.step (n := w.heap.size) (by with_reducible assumption) hE) | (have hK := KC.step (KC.step (n := w.heap.size) (by with_reducible assumption) (ext_alloc1 _ _)) hE) | (have hK := KC.step (KC.refl (n := w.heap.size) (by simp)) hE)); have hC := hK.cell; have hF := hK.fro; have hX := hK.ext))
                go_ret
                exact ⟨rfl, by (repeat' (first | with_reducible assumption | with_reducible exact Ext.refl _ | with_reducible refine Ext.alloc ?_ _ | with_reducible refine Ext.set ?_ ?_ _ | with_reducible refine Ext.drew ?_ | with_reducible refine Ext.drewN ?_ _ | with_reducible refine Ext.trans ?_ (by assumption) | (dsimp only; omega)))⟩
  cases b2
  case false => simp only [Bool.false_and, Bool.and_false, Bool.and_true, Bool.true_and, Bool.false_eq_true, if_false, if_true]
                go_enter Tryz.func90, Tryz.ntmps90
                go_wp2_with (first
                  | (go_at_call 72; refine (HW.out _ _ _ _).mono ?_; rintro e w2 ⟨rfl, rfl⟩; simp only [h3, h4])
                  | (go_at_call 125; refine (HA.out _ (by (repeat' (first | with_reducible assumption | with_reducible exact Ext.refl _ | with_reducible refine Ext.alloc ?_ _ | with_reducible refine Ext.set ?_ ?_ _ | with_reducible refine Ext.drew ?_ | with_reducible refine Ext.drewN ?_ _ | with_reducible refine Ext.trans ?_ (by assumption) | (dsimp only; omega))))).mono ?_; rintro e w2 ⟨rfl, hE⟩; (first | (have hK := KC.step (n := w.heap.size) (by with_reducible assumption) hE) | (have hK := KC.step (KC.step (n := w.heap.size) (by with_reducible assumption) (ext_alloc1 _ _)) hE) | (have hK := KC.step (KC.refl (n := w.heap.size) (by simp)) hE)); have hC := hK.cell; have hF := hK.fro; have hX := hK.ext)
                  | (go_at_call 126; refine (HO.out _ (by (repeat' (first | with_reducible assumption | with_reducible exact Ext.refl _ | with_reducible refine Ext.alloc ?_ _ | with_reducible refine Ext.set ?_ ?_ _ | with_reducible refine Ext.drew ?_ | with_reducible refine Ext.drewN ?_ _ | with_reducible refine Ext.trans ?_ (by assumption) | (dsimp only; omega))))).mono ?_; rintro e w2 ⟨rfl, hE⟩; (first | (have hK := KC.step (n := w.heap.size) (by with_reducible assumption) hE) | (have hK := KC.step (KC.step (n := w.heap.size) (by with_reducible assumption) (ext_alloc1 _ _)) hE) | (have hK := KC.step (KC.refl (n := w.heap.size) (by simp)) hE)); have hC := hK.cell; have hF := hK.fro; have hX := hK.ext))
                go_ret
                exact ⟨rfl, by (repeat' (first | with_reducible assumption | with_reducible exact Ext.refl _ | with_reducible refine Ext.alloc ?_ _ | with_reducible refine Ext.set ?_ ?_ _ | with_reducible refine Ext.drew ?_ | with_reducible refine Ext.drewN ?_ _ | with_reducible refine Ext.trans ?_ (by assumption) | (dsimp only; omega)))⟩
  cases b3
  case false => simp only [Bool.false_and, Bool.and_false, Bool.and_true, Bool.true_and, Bool.false_eq_true, if_false, if_true]
                go_enter Tryz.func90, Tryz.ntmps90
                go_wp2_with (first
                  | (go_at_call 72; refine (HW.out _ _ _ _).mono ?_; rintro e w2 ⟨rfl, rfl⟩; simp only [h3, h4])
                  | (go_at_call 125; refine (HA.out _ (by (repeat' (first | with_reducible assumption | with_reducible exact Ext.refl _ | with_reducible refine Ext.alloc ?_ _ | with_reducible refine Ext.set ?_ ?_ _ | with_reducible refine Ext.drew ?_ | with_reducible refine Ext.drewN ?_ _ | with_reducible refine Ext.trans ?_ (by assumption) | (dsimp only; omega))))).mono ?_; rintro e w2 ⟨rfl, hE⟩; (first | (have hK := KC.step (n := w.heap.size) (by with_reducible assumption) hE) | (have hK := KC.step (KC.step (n := w.heap.size) (by with_reducible assumption) (ext_alloc1 _ _)) hE) | (have hK := KC.step (KC.refl (n := w.heap.size) (by simp)) hE)); have hC := hK.cell; have hF := hK.fro; have hX := hK.ext)
                  | (go_at_call 126; refine (HO.out _ (by (repeat' (first | with_reducible assumption | with_reducible exact Ext.refl _ | with_reducible refine Ext.alloc ?_ _ | with_reducible refine Ext.set ?_ ?_ _ | with_reducible refine Ext.drew ?_ | with_reducible refine Ext.drewN ?_ _ | with_reducible refine Ext.trans ?_ (by assumption) | (dsimp only; omega))))).mono ?_; rintro e w2 ⟨rfl, hE⟩; (first | (have hK := KC.step (n := w.heap.size) (by with_reducible assumption) hE) | (have hK := KC.step (KC.step (n := w.heap.size) (by with_reducible assumption) (ext_alloc1 _ _)) hE) | (have hK := KC.step (KC.refl (n := w.heap.size) (by simp)) hE)); have hC := hK.cell; have hF := hK.fro; have hX := hK.ext))
                go_ret
                exact ⟨rfl, by (repeat' (first | with_reducible assumption | with_reducible exact Ext.refl _ | with_reducible refine Ext.alloc ?_ _ | with_reducible refine Ext.set ?_ ?_ _ | with_reducible refine Ext.drew ?_ | with_reducible refine Ext.drewN ?_ _ | with_reducible refine Ext.trans ?_ (by assumption) | (dsimp only; omega)))⟩
  cases b4
  case false => simp only [Bool.false_and, Bool.and_false, Bool.and_true, Bool.true_and, Bool.false_eq_true, if_false, if_true]
                go_enter Tryz.func90, Tryz.ntmps90
                go_wp2_with (first
                  | (go_at_call 72; refine (HW.out _ _ _ _).mono ?_; rintro e w2 ⟨rfl, rfl⟩; simp only [h3, h4])
                  | (go_at_call 125; refine (HA.out _ (by (repeat' (first | with_reducible assumption | with_reducible exact Ext.refl _ | with_reducible refine Ext.alloc ?_ _ | with_reducible refine Ext.set ?_ ?_ _ | with_reducible refine Ext.drew ?_ | with_reducible refine Ext.drewN ?_ _ | with_reducible refine Ext.trans ?_ (by assumption) | (dsimp only; omega))))).mono ?_; rintro e w2 ⟨rfl, hE⟩; (first | (have hK := KC.step (n := w.heap.size) (by with_reducible assumption) hE) | (have hK := KC.step (KC.step (n := w.heap.size) (by with_reducible assumption) (ext_alloc1 _ _)) hE) | (have hK := KC.step (KC.refl (n := w.heap.size) (by simp)) hE)); have hC := hK.cell; have hF := hK.fro; have hX := hK.ext)
                  | (go_at_call 126; refine (HO.out _ (by (repeat' (first | with_reducible assumption | with_reducible exact Ext.refl _ | with_reducible refine Ext.alloc ?_ _ | with_reducible refine Ext.set ?_ ?_ _ | with_reducible refine Ext.drew ?_ | with_reducible refine Ext.drewN ?_ _ | with_reducible refine Ext.trans ?_ (by assumption) | (dsimp only; omega))))).mono ?_; rintro e w2 ⟨rfl, hE⟩; (first | (have hK := KC.step (n := w.heap.size) (by with_reducible assumption) hE) | (have hK := KC.step (KC.step (n := w.heap.size) (by with_reducible assumption) (ext_alloc1 _ _)) hE) | (have hK := KC.step (KC.refl (n := w.heap.size) (by simp)) hE)); have hC := hK.cell; have hF := hK.fro; have hX := hK.ext))
                go_ret
                exact ⟨rfl, by (repeat' (first | with_reducible assumption | with_reducible exact Ext.refl _ | with_reducible refine Ext.alloc ?_ _ | with_reducible refine Ext.set ?_ ?_ _ | with_reducible refine Ext.drew ?_ | with_reducible refine Ext.drewN ?_ _ | with_reducible refine Ext.trans ?_ (by assumption) | (dsimp only; omega)))⟩
  simp only [Bool.false_and, Bool.and_false, Bool.and_true, Bool.true_and, Bool.false_eq_true, if_false, if_true]
  go_enter Tryz.func90, Tryz.ntmps90
  go_wp2_with (first
    | (go_at_call 72; refine (HW.out _ _ _ _).mono ?_; rintro e w2 ⟨rfl, rfl⟩; simp only [h3, h4])
    | (go_at_call 125; refine (HA.out _ (by (repeat' (first | with_reducible assumption | with_reducible exact Ext.refl _ | with_reducible refine Ext.alloc ?_ _ | with_reducible refine Ext.set ?_ ?_ _ | with_reducible refine Ext.drew ?_ | with_reducible refine Ext.drewN ?_ _ | with_reducible refine Ext.trans ?_ (by assumption) | (dsimp only; omega))))).mono ?_; rintro e w2 ⟨rfl, hE⟩; (first | (have hK := KC.step (n := w.heap.size) (by with_reducible assumption) hE) | (have hK := KC.step (KC.step (n := w.heap.size) (by with_reducible assumption) (ext_alloc1 _ _)) hE) | (have hK := KC.step (KC.refl (n := w.heap.size) (by simp)) hE)); have hC := hK.cell; have hF := hK.fro; have hX := hK.ext)
    | (go_at_call 126; refine (HO.out _ (by (repeat' (first | with_reducible assumption | with_reducible exact Ext.refl _ | with_reducible refine Ext.alloc ?_ _ | with_reducible refine Ext.set ?_ ?_ _ | with_reducible refine Ext.drew ?_ | with_reducible refine Ext.drewN ?_ _ | with_reducible refine Ext.trans ?_ (by assumption) | (dsimp only; omega))))).mono ?_; rintro e w2 ⟨rfl, hE⟩; (first | (have hK := KC.step (n := w.heap.size) (by with_reducible assumption) hE) | (have hK := KC.step (KC.step (n := w.heap.size) (by with_reducible assumption) (ext_alloc1 _ _)) hE) | (have hK := KC.step (KC.refl (n := w.heap.size) (by simp)) hE)); have hC := hK.cell; have hF := hK.fro; have hX := hK.ext))
  go_ret
  exact ⟨rfl, by (repeat' (first | with_reducible assumption | with_reducible exact Ext.refl _ | with_reducible refine Ext.alloc ?_ _ | with_reducible refine Ext.set ?_ ?_ _ | with_reducible refine Ext.drew ?_ | with_reducible refine Ext.drewN ?_ _ | with_reducible refine Ext.trans ?_ (by assumption) | (dsimp only; omega)))⟩
theorem poB_ok {p : Po} (h : poB p = true) : PoOk p := by
  unfold poB inI spB at h
  simp only [Bool.and_eq_true, decide_eq_true_eq] at h
  unfold PoOk
  omega
theorem othL_mem {ps : List Po} {s : Nat} {p : Po} (h : p ∈ othL zeroPo ps s) : p ∈ ps := by
  unfold othL othersL at h
  obtain ⟨i, hi, rfl⟩ := List.mem_map.1 h
  exact mem_at ps zeroPo i (List.mem_range.1 (List.mem_filter.1 hi).1)
theorem othL_len (ps : List Po) (s : Nat) : (othL zeroPo ps s).length ≤ ps.length := by
  unfold othL othersL
  rw [List.length_map]
  exact Nat.le_trans (List.length_filter_le _ _) (by simp)
set_option maxHeartbeats 1000000 in
theorem prop1_any (xs : List Po) (lim yrs : Int) (V : Value) (A : Option Addr) (c : Nat) (hm : xs.length ≤ 1000) (hc : xs.length ≤ c) (hp : ∀ p ∈ xs, PoOk p) (hl : 0 ≤ lim ∧ lim ≤ 10000) (hy : 0 ≤ yrs ∧ yrs ≤ 10000) (q1 q2 : Nat) (w : World) (hx : PosAt w A xs)
    (z1 : q1 < w.heap.size) (z2 : q2 < w.heap.size) (c1 : w.cell? ⟨q1, 0, none⟩ = some (.int .i64 lim)) (c2 : w.cell? ⟨q2, 0, none⟩ = some (.int .i64 yrs)) :
    Calls Tryz.prog 94 #[V, .slice A xs.length c, .pointer (some ⟨q1, 0, none⟩), .pointer (some ⟨q2, 0, none⟩)] w fun e w' => e = .returned (.bool (levB xs lim yrs)) ∧ Ext w w' := by
  have HL := hid (fun W hE => isLevel_any xs lim yrs A xs.length c rfl hm hc hp hl hy W (hx.ext (show Ext w W from hE)))
  clear hx hp
  generalize levB xs lim yrs = b at *
  generalize xs.length = n at *
  go_enter Tryz.func94, Tryz.ntmps94
  go_wp2_with (go_at_call 91; refine (HL.out _ (by (repeat' (first | with_reducible assumption | with_reducible exact Ext.refl _ | with_reducible refine Ext.alloc ?_ _ | with_reducible refine Ext.set ?_ ?_ _ | with_reducible refine Ext.drew ?_ | with_reducible refine Ext.drewN ?_ _ | with_reducible refine Ext.trans ?_ (by assumption) | (dsimp only; omega))))).mono ?_; rintro e w2 ⟨rfl, hE⟩; (first | (have hK := KC.step (n := w.heap.size) (by with_reducible assumption) hE) | (have hK := KC.step (KC.step (n := w.heap.size) (by with_reducible assumption) (ext_alloc1 _ _)) hE) | (have hK := KC.step (KC.refl (n := w.heap.size) (by simp)) hE)); have hC := hK.cell; have hF := hK.fro; have hX := hK.ext)
  go_ret
  exact ⟨rfl, by (repeat' (first | with_reducible assumption | with_reducible exact Ext.refl _ | with_reducible refine Ext.alloc ?_ _ | with_reducible refine Ext.set ?_ ?_ _ | with_reducible refine Ext.drew ?_ | with_reducible refine Ext.drewN ?_ _ | with_reducible refine Ext.trans ?_ (by assumption) | (dsimp only; omega)))⟩
def propR (ps : List Po) (lim yrs : Int) : List Int := if posE ps lim yrs = 0 then propL ps lim yrs else []
theorem posE_ok {ps : List Po} {lim yrs : Int} (h : posE ps lim yrs = 0) : posB ps = true ∧ (0 ≤ lim ∧ lim ≤ 1000) ∧ (0 ≤ yrs ∧ yrs ≤ 100) := by
  unfold posE at h
  by_cases h1 : posB ps = true
  · rw [if_pos h1] at h
    by_cases h2 : (inI lim 0 1000 && inI yrs 0 100) = true
    · unfold inI at h2
      simp only [Bool.and_eq_true, decide_eq_true_eq] at h2
      exact ⟨h1, h2.1, h2.2⟩
    · rw [if_neg h2] at h; cases h
  · rw [if_neg h1] at h; cases h
theorem posB_ok {ps : List Po} (h : posB ps = true) : ps.length ≤ 8 ∧ ∀ p ∈ ps, PoOk p := by
  unfold posB at h
  simp only [Bool.and_eq_true, decide_eq_true_eq, List.all_eq_true] at h
  exact ⟨h.1.1, fun p hp => poB_ok (h.1.2 p hp)⟩
theorem propN_lt (ps : List Po) (lim yrs : Int) (h : ps.length ≤ 8) : (propN ps lim yrs).getD 0 < 256 := by
  unfold propN
  cases hh : fewN (fun s => levB (othL zeroPo ps s) lim yrs) (2 ^ ps.length) with
  | none => simp
  | some b =>
    have h1 := fewN_lt _ _ _ hh
    have h2 : 2 ^ ps.length ≤ 2 ^ 8 := Nat.pow_le_pow_right (by decide) h
    simp; omega
def PropIs (L : List Int) (E : Int) (w : World) (e : Ending) (w' : World) : Prop :=
  ∃ A c, e = .returned (.tuple #[.slice A L.length c, .int .i64 E]) ∧ IntsAt w' A L ∧ L.length ≤ c ∧ Ext w w'
set_option maxHeartbeats 4000000 in
theorem prop_any (ps : List Po) (lim yrs : Int) (A : Option Addr) (n c : Nat) (hn : ps.length = n) (hm : n ≤ 1000) (w : World) (hx : PosAt w A ps) :
    Calls Tryz.prog 40 #[.slice A n c, .int .i64 lim, .int .i64 yrs] w (PropIs (propR ps lim yrs) (posE ps lim yrs) w) := by
  have HCK := hid (fun (W : World) (hE : Ext w W) => checkPosts_any ps lim yrs A n c hn hm W (hx.ext hE))
  unfold PropIs propR
  by_cases h0 : posE ps lim yrs = 0
  · obtain ⟨hb, hl, hy⟩ := posE_ok h0
    obtain ⟨h8, hp⟩ := posB_ok hb
    have hN := propN_lt ps lim yrs h8
    rw [if_pos h0]
    have HF := hid (fun (W : World) (hE : Ext w W) (z1 : w.heap.size < W.heap.size) (z2 : w.heap.size + 1 < W.heap.size) (c1 : W.cell? ⟨w.heap.size, 0, none⟩ = some (.int .i64 lim)) (c2 : W.cell? ⟨w.heap.size + 1, 0, none⟩ = some (.int .i64 yrs)) =>
      fewestPo_any 94 #[.pointer (some ⟨w.heap.size, 0, none⟩), .pointer (some ⟨w.heap.size + 1, 0, none⟩)] (fun _ _ => by kernel_rfl) ps (fun s => levB (othL zeroPo ps s) lim yrs) A n c hn (by omega) W (hx.ext hE)
        (fun s A1 c1' A2 c2' W' _ hE' _ h2 _ l2 => prop1_any (othL zeroPo ps s) lim yrs _ A2 c2' (by have := othL_len ps s; omega) l2 (fun p hpm => hp p (othL_mem hpm)) (by omega) (by omega) w.heap.size (w.heap.size + 1) W' h2
          (Nat.lt_of_lt_of_le z1 hE'.size) (Nat.lt_of_lt_of_le z2 hE'.size) ((hE'.cell (p := ⟨w.heap.size, 0, none⟩) z1).trans c1) ((hE'.cell (p := ⟨w.heap.size + 1, 0, none⟩) z2).trans c2)))
    have HP := hid (show fewN (fun s => levB (othL zeroPo ps s) lim yrs) (2 ^ n) = propN ps lim yrs by unfold propN; rw [hn])
    rw [HP.out] at HF
    have HQ := hid (fun W => numbers_any ((propN ps lim yrs).getD 0) hN W)
    unfold propL
    rw [h0] at HCK ⊢
    clear hx hn hb hl hy h8 hp h0 HP hN
    generalize (propN ps lim yrs).getD 0 = b at *
    generalize (propN ps lim yrs).isSome = t at *
    generalize (elemsL 8 b).map (fun (i : Nat) => (i : Int)) = L at *
    go_enter Tryz.func40, Tryz.ntmps40
    go_wp2_with (first
      | (go_at_call 90; refine (HCK.out _ (by (repeat' (first | with_reducible assumption | with_reducible exact Ext.refl _ | with_reducible refine Ext.alloc ?_ _ | with_reducible refine Ext.set ?_ ?_ _ | with_reducible refine Ext.drew ?_ | with_reducible refine Ext.drewN ?_ _ | with_reducible refine Ext.trans ?_ (by assumption) | (dsimp only; omega))))).mono ?_; rintro e w2 ⟨rfl, hE⟩; (first | (have hK := KC.step (n := w.heap.size + 2) (by with_reducible assumption) hE) | (have hK := KC.step (KC.step (n := w.heap.size + 2) (by with_reducible assumption) (ext_alloc1 _ _)) hE) | (have hK := KC.step (KC.refl (n := w.heap.size + 2) (by simp)) hE)); have hC := hK.cell; have hF := hK.fro; have hX := hK.ext)
      | (go_at_call 93; refine (HF.out _ (by (repeat' (first | with_reducible assumption | with_reducible exact Ext.refl _ | with_reducible refine Ext.alloc ?_ _ | with_reducible refine Ext.set ?_ ?_ _ | with_reducible refine Ext.drew ?_ | with_reducible refine Ext.drewN ?_ _ | with_reducible refine Ext.trans ?_ (by assumption) | (dsimp only; omega)))) (by have := hK.size; omega) (by have := hK.size; omega) (by rw [hC _ _ (by omega)]; go_simp) (by rw [hC _ _ (by omega)]; go_simp)).mono ?_; rintro e w2 ⟨rfl, hE⟩; (first | (have hK := KC.step (n := w.heap.size + 2) (by with_reducible assumption) hE) | (have hK := KC.step (KC.step (n := w.heap.size + 2) (by with_reducible assumption) (ext_alloc1 _ _)) hE) | (have hK := KC.step (KC.refl (n := w.heap.size + 2) (by simp)) hE)); have hC := hK.cell; have hF := hK.fro; have hX := hK.ext)
      | (go_at_call 75; refine (HQ.out _).mono ?_; rintro e w9 ⟨A9, c9, rfl, hO, hE9⟩; have HO := hid hO; clear hO))
    go_ret2
    obtain ⟨A3, c3, e3, l3, h3⟩ := ownIn HO.out
    cases e3
    exact ⟨A9, c9, rfl, h3, l3, by (repeat' (first | with_reducible assumption | with_reducible exact Ext.refl _ | with_reducible refine Ext.alloc ?_ _ | with_reducible refine Ext.set ?_ ?_ _ | with_reducible refine Ext.drew ?_ | with_reducible refine Ext.drewN ?_ _ | with_reducible refine Ext.trans ?_ (by assumption) | (dsimp only; omega)))⟩
  · rw [if_neg h0]
    clear hx hn
    have hne : (posE ps lim yrs != 0) = true := by simp [h0]
    generalize posE ps lim yrs = E at *
    go_enter Tryz.func40, Tryz.ntmps40
    go_wp2_with (go_at_call 90; refine (HCK.out _ (by (repeat' (first | with_reducible assumption | with_reducible exact Ext.refl _ | with_reducible refine Ext.alloc ?_ _ | with_reducible refine Ext.set ?_ ?_ _ | with_reducible refine Ext.drew ?_ | with_reducible refine Ext.drewN ?_ _ | with_reducible refine Ext.trans ?_ (by assumption) | (dsimp only; omega))))).mono ?_; rintro e w2 ⟨rfl, hE⟩; (first | (have hK := KC.step (n := w.heap.size + 2) (by with_reducible assumption) hE) | (have hK := KC.step (KC.step (n := w.heap.size + 2) (by with_reducible assumption) (ext_alloc1 _ _)) hE) | (have hK := KC.step (KC.refl (n := w.heap.size + 2) (by simp)) hE)); have hC := hK.cell; have hF := hK.fro; have hX := hK.ext)
    go_ret2
    exact ⟨none, 0, rfl, fun h => absurd rfl h, by simp, by (repeat' (first | with_reducible assumption | with_reducible exact Ext.refl _ | with_reducible refine Ext.alloc ?_ _ | with_reducible refine Ext.set ?_ ?_ _ | with_reducible refine Ext.drew ?_ | with_reducible refine Ext.drewN ?_ _ | with_reducible refine Ext.trans ?_ (by assumption) | (dsimp only; omega)))⟩
end Go.Proofs.YtggggnjibedgaaaGreat
/- The three answers that the statements' check of the examples asks for. -/
set_option linter.unusedSimpArgs false
set_option linter.unusedVariables false
namespace Go.Proofs.YtggggnjibedgaaaGreat
open Go.RowKit
theorem ex_dmgV : dmgV exM exR 300 = (1, 5) := by
  unfold dmgV
  rw [if_pos ex_dayE]
  exact ex_dmg
theorem exDamage (A B : Option Addr) (c d : Nat) (W : World) (hx : WrsAt W A exM.wears) (hy : FlsAt W B exR.falls) :
    Calls Tryz.prog 17 #[.agg #[.int .i64 3650, .int .i64 1825, .int .i64 10, .slice A 3 c], .agg #[.int .i64 0, .int .i64 100, .int .i64 50, .slice B 2 d], .int .i64 300] W
      fun e w' => e = .returned (.tuple #[.agg #[.int .i64 1, .int .i64 5], .int .i64 0]) ∧ Ext W w' := by
  have h := pdamage_any exM exR A c B d 300 (by decide) (by decide) W hx hy
  rw [ex_dmgV, ex_dayE] at h
  exact h
theorem ex_propR : propR exP 10 20 = [0, 1] := by
  unfold propR
  rw [if_pos ex_posE]
  exact ex_prop
theorem exProp (A : Option Addr) (c : Nat) (W : World) (hx : PosAt W A exP) :
    Calls Tryz.prog 40 #[.slice A 3 c, .int .i64 10, .int .i64 20] W fun e w' => ∃ A' c', e = .returned (.tuple #[.slice A' 2 c', .int .i64 0]) ∧ IntsAt w' A' [0, 1] ∧ Ext W w' := by
  have h := prop_any exP 10 20 A 3 c rfl (by decide) W hx
  unfold PropIs at h
  rw [ex_propR, ex_posE] at h
  refine Calls.mono h ?_
  rintro e w' ⟨A', c', rfl, h1, -, h3⟩
  exact ⟨A', c', rfl, h1, h3⟩
theorem exGuides (A : OA) (W : World) (hx : OuAt W exO A) :
    Calls Tryz.prog 34 #[exO.val A] W fun e w' => e = .returned (.tuple #[.int .i64 2, .int .i64 0]) ∧ Ext W w' := by
  have h := guides_any exO A (by decide) (by decide) (by decide) (by decide) (by decide) (by decide) (by decide) (by decide) (by decide) W hx
  rw [if_pos ex_gdsE, ex_gds, ex_gdsE] at h
  exact h
end Go.Proofs.YtggggnjibedgaaaGreat
/- sameInts. -/
set_option linter.unusedSimpArgs false
set_option linter.unusedVariables false
namespace Go.Proofs.YtggggnjibedgaaaGreat
open Go.RowKit
theorem same_of {xs ys : List Int} (hl : xs.length = ys.length) (h : ∀ j, j < xs.length → xs.getD j 0 = ys.getD j 0) : xs = ys := by
  refine List.ext_getElem hl fun i h1 h2 => ?_
  have := h i h1
  simpa [List.getD, List.getElem?_eq_getElem h1, List.getElem?_eq_getElem h2] using this

set_option maxHeartbeats 1000000 in
theorem sameInts_any (A B : Option Addr) (n1 n2 c1 c2 : Nat) (xs ys : List Int) (hn1 : xs.length = n1) (hn2 : ys.length = n2) (hm : n1 ≤ 1000) (hm2 : n2 ≤ 1000) (w : World) (hx : IntsAt w A xs) (hy : IntsAt w B ys) :
    Calls Tryz.prog 29 #[.slice A n1 c1, .slice B n2 c2] w fun e w' => e = .returned (.bool (decide (xs = ys))) ∧ Ext w w' := by
  have HX := hid hx
  have HY := hid hy
  have HN1 := hid hn1
  have HN2 := hid hn2
  clear hx hy hn1 hn2
  by_cases hl : n1 = n2
  · subst hl
    go_enter Tryz.func29, Tryz.ntmps29
    go_wp2
    go_loopw [5] (fun i wr => Ext w wr ∧ ∃ k : Nat, k ≤ n1 ∧ i = .int .i64 k ∧ Hid (∀ j, j < k → xs.getD j 0 = ys.getD j 0)) (fun i _ => n1 - (intOf i).toNat)
    case atStart => exact ⟨by (repeat' (first | with_reducible assumption | with_reducible exact Ext.refl _ | with_reducible refine Ext.alloc ?_ _ | with_reducible refine Ext.set ?_ ?_ _ | with_reducible refine Ext.drew ?_ | with_reducible refine Ext.drewN ?_ _ | with_reducible refine Ext.trans ?_ (by assumption) | (dsimp only; omega))), 0, Nat.zero_le _, rfl, hid (fun j hj => by omega)⟩
    case round =>
      obtain ⟨hE, k, hk, rfl, HA⟩ := hrel
      by_cases hlt : k < n1
      · obtain ⟨b, off, rfl, hb, hc⟩ := (HX.out.ext hE) (by intro e; have := HN1.out; rw [e] at this; simp at this; omega)
        obtain ⟨b', off', rfl, hb', hc'⟩ := (HY.out.ext hE) (by intro e; have := HN2.out; rw [e] at this; simp at this; omega)
        have q1 := hc k (by have := HN1.out; omega)
        have q2 := hc' k (by have := HN2.out; omega)
        have hk0 : (0 : Int) ≤ (k : Int) := by omega
        have hk1 : (k : Int) < (n1 : Int) := by omega
        clear hc hc'
        obtain ⟨u, hu⟩ : ∃ u, xs.getD k 0 = u := ⟨_, rfl⟩
        obtain ⟨v, hv⟩ : ∃ v, ys.getD k 0 = v := ⟨_, rfl⟩
        rw [hu] at q1
        rw [hv] at q2
        have HU := hid hu
        have HV := hid hv
        clear hu hv
        by_cases huv : u = v
        · subst huv
          have HA2 := hid (show ∀ j, j < k + 1 → xs.getD j 0 = ys.getD j 0 from fun j hj => by
            rcases Nat.lt_succ_iff_lt_or_eq.1 hj with h | rfl
            · exact HA.out j h
            · exact HU.out.trans HV.out.symm)
          go_wp2_with fail
          go_quiet (fail)
          go_wp2
          go_roundw
          case rel => exact ⟨hE.drewN _, k + 1, by omega, by go_num, HA2⟩
          case measure => simp [intOf]; omega
        · have hd : decide (u = v) = false := decide_eq_false huv
          have HD := hid (show xs ≠ ys by rintro rfl; exact huv (HU.out.symm.trans HV.out))
          go_wp2_with fail
          go_quiet (fail)
          go_wp2
          go_ret
          exact ⟨ret_bool (by rw [decide_eq_false HD.out]), hE.drewN _⟩
      · have HD := hid (same_of (HN1.out.trans HN2.out.symm) (fun j hj => HA.out j (by have := HN1.out; omega)))
        go_wp2
        go_ret
        exact ⟨ret_bool (by rw [decide_eq_true HD.out]), by (repeat' (first | with_reducible assumption | with_reducible exact Ext.refl _ | with_reducible refine Ext.alloc ?_ _ | with_reducible refine Ext.set ?_ ?_ _ | with_reducible refine Ext.drew ?_ | with_reducible refine Ext.drewN ?_ _ | with_reducible refine Ext.trans ?_ (by assumption) | (dsimp only; omega)))⟩
  · have HD := hid (show xs ≠ ys by rintro rfl; exact hl (HN1.out.symm.trans HN2.out))
    have hli : ¬ ((n1 : Int) = (n2 : Int)) := by omega
    go_enter Tryz.func29, Tryz.ntmps29
    go_wp2
    go_ret
    exact ⟨ret_bool (by rw [decide_eq_false HD.out]), by (repeat' (first | with_reducible assumption | with_reducible exact Ext.refl _ | with_reducible refine Ext.alloc ?_ _ | with_reducible refine Ext.set ?_ ?_ _ | with_reducible refine Ext.drew ?_ | with_reducible refine Ext.drewN ?_ _ | with_reducible refine Ext.trans ?_ (by assumption) | (dsimp only; omega)))⟩
set_option maxHeartbeats 400000 in
theorem span_any (l h : Int) (w : World) :
    Calls Tryz.prog 55 #[.int .i64 l, .int .i64 h] w fun e w' => e = .returned (.agg #[.int .i64 l, .int .i64 h]) ∧ Ext w w' := by
  go_enter Tryz.func55, Tryz.ntmps55
  go_wp2
  exact bodyPost_ret (v := .agg #[.int .i64 l, .int .i64 h]) (by simp [results, Tryz.results55, go_sem]) rfl ⟨rfl, by (repeat' (first | with_reducible assumption | with_reducible exact Ext.refl _ | with_reducible refine Ext.alloc ?_ _ | with_reducible refine Ext.set ?_ ?_ _ | with_reducible refine Ext.drew ?_ | with_reducible refine Ext.drewN ?_ _ | with_reducible refine Ext.trans ?_ (by assumption) | (dsimp only; omega)))⟩
end Go.Proofs.YtggggnjibedgaaaGreat
/- What lies in memory while the example of the chapter is laid. -/
set_option linter.unusedSimpArgs false
set_option linter.unusedVariables false
namespace Go.Proofs.YtggggnjibedgaaaGreat
open Go.RowKit
theorem wp_name {P : Program} {md : Region.Mode} {ops : Array Oper} {Q : Exit → Act → World → Prop} {S : World → Prop} {fuel : Nat} {listed : Array Bool} {a : Act} {w : World}
    (h : ∀ WP : Nat → Array Bool → Act → World → Prop, Hid (∀ f l a w, WP f l a w ↔ wpAnyH P md ops Q S f l a w) → WP fuel listed a w) : wpAnyH P md ops Q S fuel listed a w := h _ (hid (fun _ _ _ _ => Iff.rfl))
theorem Blk.others {W : World} {B b : Nat} {t : TypeId} {cs : Array Value} (h : Blk W B t cs) (hne : B ≠ b) : ∀ (vs : List Value) (o : Nat), Blk (W.setCells b o vs) B t cs := by
  intro vs
  induction vs generalizing W with
  | nil => intro o; exact h
  | cons v r ih => intro o; exact ih (h.other (p := ⟨b, o, none⟩) hne v) (o + 1)
theorem size_setCells (W : World) (b : Nat) : ∀ (vs : List Value) (o : Nat), (W.setCells b o vs).heap.size = W.heap.size := by
  intro vs
  induction vs generalizing W with
  | nil => intro o; rfl
  | cons v r ih => intro o; exact (ih (W.setCell ⟨b, o, none⟩ v) (o + 1)).trans (by simp)
def exZc : Array Value := #[.int .i64 0, .int .i64 0, .int .i64 0, .slice none 0 0, .slice none 0 0, .int .i64 0, .int .i64 0, .int .i64 0, .slice none 0 0, .slice none 0 0]
def exOc (n g q r : Nat) : Array Value := #[.int .i64 400, .int .i64 3, .int .i64 10, .slice (some ⟨g, 0, none⟩) 3 3, .slice (some ⟨q, 0, none⟩) 3 3, .int .i64 3650, .int .i64 1825, .int .i64 10, .slice (some ⟨n + 1, 0, none⟩) 3 3, .slice (some ⟨r, 0, none⟩) 2 2]
def exGc : Array Value := #[.int .i64 4, .int .i64 500, .int .i64 6, .int .i64 3, .int .i64 399, .int .i64 9, .int .i64 3, .int .i64 400, .int .i64 4]
def exCc : Array Value := #[.int .i64 3, .int .i64 2, .int .i64 4]
def exWc : Array Value := #[.int .i64 30, .int .i64 1, .int .i64 100, .int .i64 4, .int .i64 170, .int .i64 10]
def exFc : Array Value := #[.int .i64 200, .int .i64 20, .int .i64 30, .int .i64 100, .int .i64 100, .int .i64 300, .int .i64 40, .int .i64 60, .int .i64 40, .int .i64 50]
def exRc (b4 : Nat) : Array Value := #[.int .i64 0, .int .i64 100, .int .i64 50, .slice (some ⟨b4, 0, none⟩) 2 2, .int .i64 300, .int .i64 (-1), .int .i64 20, .slice none 0 0]
def exPc : Array Value := #[.int .i64 0, .int .i64 0, .int .i64 2, .int .i64 4000, .int .i64 1, .int .i64 3, .int .i64 6000, .int .i64 5, .int .i64 9]
def exMc (n : Nat) : Array Value := #[.int .i64 3650, .int .i64 1825, .int .i64 10, .slice (some ⟨n + 1, 0, none⟩) 3 3]
def exR1 (b4 : Nat) : Array Value := #[.int .i64 0, .int .i64 100, .int .i64 50, .slice (some ⟨b4, 0, none⟩) 2 2]
/-- What is laid so far: guides, clients, ropes, posts; whether the outing is stored. -/
structure ExF (w : World) (b4 : Nat) (dg dq dr dz st : Bool) (g q r z : Nat) (X : World) : Prop where
  e : Ext w X
  lt : w.heap.size + 1 + 1 < b4
  sz : b4 + 1 < X.heap.size
  b0 : Blk X w.heap.size 53 (if st then exOc w.heap.size g q r else exZc)
  b1 : Blk X (w.heap.size + 1) 148 exWc
  b2 : Blk X (w.heap.size + 1 + 1) 24 (exMc w.heap.size)
  b3 : Blk X b4 75 exFc
  b5 : Blk X (b4 + 1) 27 (exR1 b4)
  kg : dg = true → w.heap.size < g ∧ Blk X g 132 exGc
  kq : dq = true → w.heap.size < q ∧ Blk X q 3 exCc
  kr : dr = true → w.heap.size < r ∧ Blk X r 27 (exRc b4)
  kz : dz = true → w.heap.size < z ∧ Blk X z 95 exPc
def ExS (n b4 : Nat) (w' : World) : Prop := Blk w' (n + 1 + 1) 24 (exMc n) ∧ Blk w' (b4 + 1) 27 (exR1 b4)
theorem ExF.s {w : World} {b4 : Nat} {dg dq dr dz st : Bool} {g q r z : Nat} {X : World} (h : ExF w b4 dg dq dr dz st g q r z X) : ExS w.heap.size b4 X := ⟨h.b2, h.b5⟩
theorem ExF.ext {w : World} {b4 : Nat} {dg dq dr dz st : Bool} {g q r z : Nat} {X Y : World} (h : ExF w b4 dg dq dr dz st g q r z X) (e : Ext X Y) : ExF w b4 dg dq dr dz st g q r z Y :=
  ⟨h.e.trans e, h.lt, Nat.lt_of_lt_of_le h.sz e.size, h.b0.ext e, h.b1.ext e, h.b2.ext e, h.b3.ext e, h.b5.ext e, fun k => ⟨(h.kg k).1, (h.kg k).2.ext e⟩, fun k => ⟨(h.kq k).1, (h.kq k).2.ext e⟩, fun k => ⟨(h.kr k).1, (h.kr k).2.ext e⟩, fun k => ⟨(h.kz k).1, (h.kz k).2.ext e⟩⟩
theorem ExF.g {w : World} {b4 : Nat} {dq dr dz : Bool} {g q r z : Nat} {X : World} (h : ExF w b4 false dq dr dz false g q r z X) : ExF w b4 true dq dr dz false X.heap.size q r z (X.alloc (.cells exGc 132)) := by
  have h2 := h.ext (ext_alloc1 X (.cells exGc 132))
  exact ⟨h2.e, h2.lt, h2.sz, h2.b0, h2.b1, h2.b2, h2.b3, h2.b5, fun _ => ⟨by have := h.sz; have := h.lt; omega, blk_last X _⟩, h2.kq, h2.kr, h2.kz⟩
theorem ExF.q {w : World} {b4 : Nat} {dg dr dz : Bool} {g q r z : Nat} {X : World} (h : ExF w b4 dg false dr dz false g q r z X) : ExF w b4 dg true dr dz false g X.heap.size r z (X.alloc (.cells exCc 3)) := by
  have h2 := h.ext (ext_alloc1 X (.cells exCc 3))
  exact ⟨h2.e, h2.lt, h2.sz, h2.b0, h2.b1, h2.b2, h2.b3, h2.b5, h2.kg, fun _ => ⟨by have := h.sz; have := h.lt; omega, blk_last X _⟩, h2.kr, h2.kz⟩
theorem ExF.r {w : World} {b4 : Nat} {dg dq dz : Bool} {g q r z : Nat} {X : World} (h : ExF w b4 dg dq false dz false g q r z X) : ExF w b4 dg dq true dz false g q X.heap.size z (X.alloc (.cells (exRc b4) 27)) := by
  have h2 := h.ext (ext_alloc1 X (.cells (exRc b4) 27))
  exact ⟨h2.e, h2.lt, h2.sz, h2.b0, h2.b1, h2.b2, h2.b3, h2.b5, h2.kg, h2.kq, fun _ => ⟨by have := h.sz; have := h.lt; omega, blk_last X _⟩, h2.kz⟩
theorem ExF.z {w : World} {b4 : Nat} {dg dq dr st : Bool} {g q r z : Nat} {X : World} (h : ExF w b4 dg dq dr false st g q r z X) : ExF w b4 dg dq dr true st g q r X.heap.size (X.alloc (.cells exPc 95)) := by
  have h2 := h.ext (ext_alloc1 X (.cells exPc 95))
  exact ⟨h2.e, h2.lt, h2.sz, h2.b0, h2.b1, h2.b2, h2.b3, h2.b5, h2.kg, h2.kq, h2.kr, fun _ => ⟨by have := h.sz; have := h.lt; omega, blk_last X _⟩⟩
theorem ExF.store {w : World} {b4 : Nat} {dz : Bool} {g q r z : Nat} {X : World} (h : ExF w b4 true true true dz false g q r z X) : ExF w b4 true true true dz true g q r z (X.setCells w.heap.size 0 (exOc w.heap.size g q r).toList) := by
  have hl := h.lt
  have hf : fillA exZc 0 (exOc w.heap.size g q r).toList = exOc w.heap.size g q r := by
    simp only [fillA, exZc, exOc, List.setIfInBounds_toArray, List.set_cons_zero, List.set_cons_succ]
  have hb := h.b0.fill (exOc w.heap.size g q r).toList 0
  simp only [Bool.false_eq_true, if_false] at hb
  rw [hf] at hb
  clear hf
  generalize hV : (exOc w.heap.size g q r).toList = vs at *
  have e1 : Ext w (X.setCells w.heap.size 0 vs) := ext_setCells h.e (Nat.le_refl _) _ _
  refine ⟨e1, h.lt, by rw [size_setCells]; exact h.sz, ?_, h.b1.others (by omega) _ _, h.b2.others (by omega) _ _, h.b3.others (by omega) _ _, h.b5.others (by omega) _ _,
    fun k => ⟨(h.kg k).1, (h.kg k).2.others (by have := (h.kg k).1; omega) _ _⟩, fun k => ⟨(h.kq k).1, (h.kq k).2.others (by have := (h.kq k).1; omega) _ _⟩, fun k => ⟨(h.kr k).1, (h.kr k).2.others (by have := (h.kr k).1; omega) _ _⟩, fun k => ⟨(h.kz k).1, (h.kz k).2.others (by have := (h.kz k).1; omega) _ _⟩⟩
  rw [if_pos rfl]; exact hb
/-- Then the example lies in memory. -/
theorem ExF.ou {w : World} {b4 g q r z : Nat} {X : World} (h : ExF w b4 true true true true true g q r z X) :
    OuAt X exO ⟨some ⟨g, 0, none⟩, 3, some ⟨q, 0, none⟩, 3, some ⟨w.heap.size + 1, 0, none⟩, 3, some ⟨r, 0, none⟩, 2⟩ ∧ PosAt X (some ⟨z, 0, none⟩) exP := by
  have G := (h.kg rfl).2
  have C := (h.kq rfl).2
  have R := (h.kr rfl).2
  have Z := (h.kz rfl).2
  have B1 := h.b1
  have B3 := h.b3
  have HF : FlsAt X (some ⟨b4, 0, none⟩) exR.falls := fun _ => ⟨b4, 0, rfl, B3.lt, fun k hk => by
    have hk3 : k = 0 ∨ k = 1 := by simp [exR] at hk; omega
    rcases hk3 with rfl | rfl <;> exact ⟨B3.cell _, B3.cell _, B3.cell _, B3.cell _, B3.cell _⟩⟩
  have H1 : GdsAt X (some ⟨g, 0, none⟩) [⟨4, 500, 6⟩, ⟨3, 399, 9⟩, ⟨3, 400, 4⟩] := fun _ => ⟨g, 0, rfl, G.lt, fun k hk => by
    have hk3 : k = 0 ∨ k = 1 ∨ k = 2 := by simp at hk; omega
    rcases hk3 with rfl | rfl | rfl <;> exact ⟨G.cell _, G.cell _, G.cell _⟩⟩
  have H2 : IntsAt X (some ⟨q, 0, none⟩) [3, 2, 4] := fun _ => ⟨q, 0, rfl, C.lt, fun k hk => by
    have hk3 : k = 0 ∨ k = 1 ∨ k = 2 := by simp at hk; omega
    rcases hk3 with rfl | rfl | rfl <;> exact C.cell _⟩
  have H3 : WrsAt X (some ⟨w.heap.size + 1, 0, none⟩) [⟨30, 1⟩, ⟨100, 4⟩, ⟨170, 10⟩] := fun _ => ⟨w.heap.size + 1, 0, rfl, B1.lt, fun k hk => by
    have hk3 : k = 0 ∨ k = 1 ∨ k = 2 := by simp at hk; omega
    rcases hk3 with rfl | rfl | rfl <;> exact ⟨B1.cell _, B1.cell _⟩⟩
  have H4 : RosAt X (some ⟨r, 0, none⟩) [exR, ⟨300, -1, 20, []⟩] := fun _ => ⟨r, 0, rfl, R.lt, fun k hk => by
    have hk3 : k = 0 ∨ k = 1 := by simp at hk; omega
    rcases hk3 with rfl | rfl
    · exact ⟨some ⟨b4, 0, none⟩, 2, R.cell 0, R.cell 1, R.cell 2, R.cell 3, by simp [exR], HF⟩
    · exact ⟨none, 0, R.cell 4, R.cell 5, R.cell 6, R.cell 7, by simp, fun h => absurd rfl h⟩⟩
  have H5 : PosAt X (some ⟨z, 0, none⟩) exP := fun _ => ⟨z, 0, rfl, Z.lt, fun k hk => by
    have hk3 : k = 0 ∨ k = 1 ∨ k = 2 := by simp [exP] at hk; omega
    rcases hk3 with rfl | rfl | rfl <;> exact ⟨Z.cell _, Z.cell _, Z.cell _⟩⟩
  exact ⟨⟨H1, H2, H3, H4⟩, H5⟩
theorem infoOu : (Tryz.prog.info? 53).map (·.size) = some 10 := by kernel_rfl
end Go.Proofs.YtggggnjibedgaaaGreat
