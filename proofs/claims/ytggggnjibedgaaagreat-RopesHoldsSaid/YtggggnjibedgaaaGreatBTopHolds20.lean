/- The program's Spare and Choose, as they are called. -/
import Derived.Test.YtggggnjibedgaaaGreatBTopHolds19
import Derived.Test.YtggggnjibedgaaaGreatB07
import Derived.Test.YtggggnjibedgaaaGreatB01
set_option linter.unusedSimpArgs false
set_option linter.unusedVariables false
namespace Go.Proofs.YtggggnjibedgaaaGreat
open Go.RowKit
def spaV (xs : List Sp) (load : Int) : Int := if anE xs load true = 0 then sprI load xs else 0
set_option maxRecDepth 100000 in
set_option maxHeartbeats 2000000 in
theorem pspare_any (xs : List Sp) (load : Int) (A : Option Addr) (n c : Nat) (hn : xs.length = n) (hm : n ≤ 10000) (w : World) (hx : SpsAt w A xs) :
    Calls Tryz.prog 25 #[.slice A n c, .int .i64 load] w fun e w' => e = .returned (.tuple #[.int .i64 (spaV xs load), .int .i64 (anE xs load true)]) ∧ Ext w w' := by
  have HC := hid (fun (W : World) (hE : Ext w W) => checkAnchor_any xs load A n c hn hm W (hx.ext hE))
  by_cases h0 : anE xs load true = 0
  · obtain ⟨h8, hp, -, -⟩ := anE_ok h0
    have hv : spaV xs load = sprI load xs := by unfold spaV; rw [if_pos h0]
    have HL := hid (fun (W : World) (hE : Ext w W) => spareOf_any xs hp load A n c hn (by omega) W (hx.ext hE))
    rw [hv, h0]
    rw [h0] at HC
    clear hx hn hv h0 h8 hp
    generalize sprI load xs = v at *
    go_enter Tryz.func25, Tryz.ntmps25
    go_wp2_with fail
    refine Calls.mono (HC.out _ (Ext.refl _)) ?_
    rintro e w2 ⟨rfl, hE⟩
    go_wp2_with fail
    refine Calls.mono (HL.out _ hE) ?_
    rintro e w3 ⟨rfl, hE3⟩
    go_wp2
    go_ret2
    exact ⟨rfl, hE.trans hE3⟩
  · have hv : spaV xs load = 0 := by unfold spaV; rw [if_neg h0]
    rw [hv]
    clear hx hn hv
    have hne : (anE xs load true != 0) = true := by simp [h0]
    generalize anE xs load true = E at *
    go_enter Tryz.func25, Tryz.ntmps25
    go_wp2_with fail
    refine Calls.mono (HC.out _ (Ext.refl _)) ?_
    rintro e w2 ⟨rfl, hE⟩
    go_wp2
    go_ret2
    exact ⟨rfl, hE⟩
def choF (load least : Int) (xs : List Sp) (s : Nat) : Bool := decide (least ≤ sprI load (choL zeroSp xs s))
def choN (load least : Int) (xs : List Sp) : Option Nat := fewN (choF load least xs) (2 ^ xs.length)
def choE (xs : List Sp) (load least : Int) : Int := if anE xs load (inI least 0 8) = 0 then (if (choN load least xs).isSome then 0 else 3) else anE xs load (inI least 0 8)
def choR (xs : List Sp) (load least : Int) : List Int := if anE xs load (inI least 0 8) = 0 then (if (choN load least xs).isSome then memL ((choN load least xs).getD 0) else []) else []
set_option maxRecDepth 100000 in
set_option maxHeartbeats 2000000 in
theorem choose1_any (xs : List Sp) (hp : ∀ x ∈ xs, ptB x = true) (load least : Int) (V : Value) (A : Option Addr) (c : Nat) (hm : xs.length ≤ 8) (q1 q2 : Nat) (w : World) (hx : SpsAt w A xs)
    (z1 : q1 < w.heap.size) (z2 : q2 < w.heap.size) (c1 : w.cell? ⟨q1, 0, none⟩ = some (.int .i64 load)) (c2 : w.cell? ⟨q2, 0, none⟩ = some (.int .i64 least)) :
    Calls Tryz.prog 74 #[.slice A xs.length c, V, .pointer (some ⟨q1, 0, none⟩), .pointer (some ⟨q2, 0, none⟩)] w fun e w' => e = .returned (.bool (decide (least ≤ sprI load xs))) ∧ Ext w w' := by
  have HL := hid (fun (W : World) (hE : Ext w W) => spareOf_any xs hp load A xs.length c rfl hm W (hx.ext hE))
  clear hx hp
  generalize sprI load xs = v at *
  generalize xs.length = n at *
  go_enter Tryz.func74, Tryz.ntmps74
  go_wp2_with fail
  refine wp_region_held_drew (S := fun w' => (∀ b o, b < w.heap.size → w'.cell? ⟨b, o, none⟩ = w.cell? ⟨b, o, none⟩) ∧ w.heap.size ≤ w'.heap.size ∧ Ext w w') (by kernel_rfl) ?hS0 (fun hHeld => ?_)
  case hS0 => exact sK (Ext.drew (Ext.refl _))
  have X0 : Ext w w.drew := Ext.drew (Ext.refl w)
  have EX := X0
  obtain ⟨X, hX⟩ : ∃ X, w.drew = X := ⟨_, rfl⟩
  rw [hX] at EX hHeld ⊢
  clear hX X0
  refine tk1 (i := 0) (v := ?v0a) rfl ?y0a ?r0a
  case y0a => (intro w' hSw; (try dsimp only at hSw); go_simp; (try with_reducible rfl))
  try simp only [Act.put, sq1, sq2, sq3, sq4, sq5, sq6]
  refine tk1 (i := 1) (v := ?v1a) rfl ?y1a ?r1a
  case y1a => (intro w' hSw; (try dsimp only at hSw); go_simp; (try with_reducible rfl))
  try simp only [Act.put, sq1, sq2, sq3, sq4, sq5, sq6]
  refine tk1 (i := 3) (v := ?v3a) rfl ?y3a ?r3a
  case y3a => (intro w' hSw; (try dsimp only at hSw); go_simp; (try with_reducible rfl))
  try simp only [Act.put, sq1, sq2, sq3, sq4, sq5, sq6]
  refine wpAnyH_ready (rs := [2]) (by kernel_rfl) (by simp) ?_
  refine AllReadyH.cons (o := _) rfl (fun K hK => ?_) AllReadyH.nil
  go_simp
  refine Calls.mono (HL.out _ EX) ?_
  rintro e X2 ⟨rfl, hE2⟩
  dsimp only
  replace EX := EX.trans hE2
  clear hHeld hE2
  refine hK.out _ _ (sK EX) (fun hHeld => ?_)
  clear hK K
  try simp only [Act.put, sq1, sq2, sq3, sq4, sq5, sq6]
  refine tk1 (i := 4) (v := ?v4b) rfl ?y4b ?r4b
  case y4b => (intro w' hSw; (try dsimp only at hSw); go_simp; (try with_reducible rfl))
  try simp only [Act.put, sq1, sq2, sq3, sq4, sq5, sq6]
  refine tk1 (i := 5) (v := ?v5b) rfl ?y5b ?r5b
  case y5b => (intro w' hSw; (try dsimp only at hSw); go_simp; (try with_reducible rfl))
  try simp only [Act.put, sq1, sq2, sq3, sq4, sq5, sq6]
  refine wpAnyH_done (by kernel_rfl) ?_ _
  have HEE := hid EX
  clear hHeld EX
  go_wp2
  go_ret
  exact ⟨ret_bool (by first | rfl | (simp; done)), HEE.out⟩
set_option maxRecDepth 100000 in
set_option maxHeartbeats 4000000 in
theorem pchoose_any (xs : List Sp) (load least : Int) (A : Option Addr) (n c : Nat) (hn : xs.length = n) (hm : n ≤ 10000) (w : World) (hx : SpsAt w A xs) :
    Calls Tryz.prog 27 #[.slice A n c, .int .i64 load, .int .i64 least] w (PropIs (choR xs load least) (choE xs load least) w) := by
  have HC := hid (fun (W : World) (hE : Ext w W) => checkAnchor_any xs load A n c hn hm W (hx.ext hE))
  have HW := hid (fun a b c W => within_any a b c W)
  unfold PropIs choR choE
  by_cases h0 : anE xs load true = 0
  · obtain ⟨h8, hp, hl, -⟩ := anE_ok h0
    obtain ⟨t, ht⟩ : ∃ t, inI least 0 8 = t := ⟨_, rfl⟩
    have hA : anE xs load t = if t then 0 else 1 := by
      have hb : ptsB xs = true := by
        cases hq : ptsB xs with
        | true => rfl
        | false => unfold anE at h0; rw [hq] at h0; cases h0
      unfold anE
      rw [if_pos hb]
      have : inI load 1 5000 = true := by unfold inI; simp [hl.1, hl.2]
      rw [this]
      cases t <;> rfl
    rw [ht, hA]
    cases t
    case false =>
      rw [if_neg (show ¬ (if false = true then (0 : Int) else 1) = 0 by decide), if_neg (show ¬ (if false = true then (0 : Int) else 1) = 0 by decide)]
      rw [h0] at HC
      clear hx hn h8 hp h0 hA
      go_enter Tryz.func27, Tryz.ntmps27
      go_wp2_with (first
        | (go_at_call 65; refine (HC.out _ (by (repeat' (first | with_reducible assumption | with_reducible exact Ext.refl _ | with_reducible refine Ext.alloc ?_ _ | with_reducible refine Ext.set ?_ ?_ _ | with_reducible refine Ext.drew ?_ | with_reducible refine Ext.drewN ?_ _ | with_reducible refine Ext.trans ?_ (by assumption) | (dsimp only; omega))))).mono ?_; rintro e w2 ⟨rfl, hE⟩; (first | (have hK := KC.step (n := w.heap.size + 2) (by with_reducible assumption) hE) | (have hK := KC.step (KC.step (n := w.heap.size + 2) (by with_reducible assumption) (ext_alloc1 _ _)) hE) | (have hK := KC.step (KC.refl (n := w.heap.size + 2) (by simp)) hE)); have hC := hK.cell; have hF := hK.fro; have hX := hK.ext)
        | (go_at_call 72; refine (HW.out _ _ _ _).mono ?_; rintro e w9 ⟨rfl, rfl⟩; simp only [ht]))
      go_ret2
      first | exact ⟨none, 0, rfl, fun h => absurd rfl h, by simp, by (repeat' (first | with_reducible assumption | with_reducible exact Ext.refl _ | with_reducible refine Ext.alloc ?_ _ | with_reducible refine Ext.set ?_ ?_ _ | with_reducible refine Ext.drew ?_ | with_reducible refine Ext.drewN ?_ _ | with_reducible refine Ext.trans ?_ (by assumption) | (dsimp only; omega)))⟩ | exact ⟨none, ⟨0, rfl⟩, fun h => absurd rfl h, by (repeat' (first | with_reducible assumption | with_reducible exact Ext.refl _ | with_reducible refine Ext.alloc ?_ _ | with_reducible refine Ext.set ?_ ?_ _ | with_reducible refine Ext.drew ?_ | with_reducible refine Ext.drewN ?_ _ | with_reducible refine Ext.trans ?_ (by assumption) | (dsimp only; omega)))⟩
    case true =>
      rw [if_pos (show (if true = true then (0 : Int) else 1) = 0 by rfl), if_pos (show (if true = true then (0 : Int) else 1) = 0 by rfl)]
      have HF := hid (fun (W : World) (hE : Ext w W) (z1 : w.heap.size < W.heap.size) (z2 : w.heap.size + 1 < W.heap.size) (c1 : W.cell? ⟨w.heap.size, 0, none⟩ = some (.int .i64 load)) (c2 : W.cell? ⟨w.heap.size + 1, 0, none⟩ = some (.int .i64 least)) =>
        fewestSp_any 74 #[.pointer (some ⟨w.heap.size, 0, none⟩), .pointer (some ⟨w.heap.size + 1, 0, none⟩)] (fun _ _ => by kernel_rfl) xs (choF load least xs) A n c hn (by omega) W (hx.ext hE)
          (fun s A1 c1' A2 c2' W' _ hE' h1 _ l1 _ => choose1_any (choL zeroSp xs s) (fun x h => hp x (choSp_mem h)) load least _ A1 c1' (by have := choSp_len xs s; omega) w.heap.size (w.heap.size + 1) W' h1
            (Nat.lt_of_lt_of_le z1 hE'.size) (Nat.lt_of_lt_of_le z2 hE'.size) ((hE'.cell (p := ⟨w.heap.size, 0, none⟩) z1).trans c1) ((hE'.cell (p := ⟨w.heap.size + 1, 0, none⟩) z2).trans c2)))
      have HP := hid (show fewN (choF load least xs) (2 ^ n) = choN load least xs by unfold choN; rw [hn])
      have hN : (choN load least xs).getD 0 < 256 := by rw [← HP.out]; exact few_lt256 _ (by omega)
      rw [HP.out] at HF
      have HQ := hid (fun W => numbers_any ((choN load least xs).getD 0) hN W)
      unfold memL
      rw [h0] at HC
      clear hx hn hl h8 hp h0 HP hN hA
      generalize (choN load least xs).getD 0 = b at *
      generalize (choN load least xs).isSome = f at *
      generalize (elemsL 8 b).map (fun (i : Nat) => (i : Int)) = L at *
      cases f
      case false =>
        rw [if_neg (by decide), if_neg (by decide)]
        go_enter Tryz.func27, Tryz.ntmps27
        go_wp2_with (first
          | (go_at_call 65; refine (HC.out _ (by (repeat' (first | with_reducible assumption | with_reducible exact Ext.refl _ | with_reducible refine Ext.alloc ?_ _ | with_reducible refine Ext.set ?_ ?_ _ | with_reducible refine Ext.drew ?_ | with_reducible refine Ext.drewN ?_ _ | with_reducible refine Ext.trans ?_ (by assumption) | (dsimp only; omega))))).mono ?_; rintro e w2 ⟨rfl, hE⟩; (first | (have hK := KC.step (n := w.heap.size + 2) (by with_reducible assumption) hE) | (have hK := KC.step (KC.step (n := w.heap.size + 2) (by with_reducible assumption) (ext_alloc1 _ _)) hE) | (have hK := KC.step (KC.refl (n := w.heap.size + 2) (by simp)) hE)); have hC := hK.cell; have hF := hK.fro; have hX := hK.ext)
          | (go_at_call 72; refine (HW.out _ _ _ _).mono ?_; rintro e w9 ⟨rfl, rfl⟩; simp only [ht])
          | (go_at_call 73; refine (HF.out _ (by (repeat' (first | with_reducible assumption | with_reducible exact Ext.refl _ | with_reducible refine Ext.alloc ?_ _ | with_reducible refine Ext.set ?_ ?_ _ | with_reducible refine Ext.drew ?_ | with_reducible refine Ext.drewN ?_ _ | with_reducible refine Ext.trans ?_ (by assumption) | (dsimp only; omega)))) (by have := hK.size; omega) (by have := hK.size; omega) (by rw [hC _ _ (by omega)]; go_simp) (by rw [hC _ _ (by omega)]; go_simp)).mono ?_; rintro e w2 ⟨rfl, hE⟩; (first | (have hK := KC.step (n := w.heap.size + 2) (by with_reducible assumption) hE) | (have hK := KC.step (KC.step (n := w.heap.size + 2) (by with_reducible assumption) (ext_alloc1 _ _)) hE) | (have hK := KC.step (KC.refl (n := w.heap.size + 2) (by simp)) hE)); have hC := hK.cell; have hF := hK.fro; have hX := hK.ext))
        go_ret2
        first | exact ⟨none, 0, rfl, fun h => absurd rfl h, by simp, by (repeat' (first | with_reducible assumption | with_reducible exact Ext.refl _ | with_reducible refine Ext.alloc ?_ _ | with_reducible refine Ext.set ?_ ?_ _ | with_reducible refine Ext.drew ?_ | with_reducible refine Ext.drewN ?_ _ | with_reducible refine Ext.trans ?_ (by assumption) | (dsimp only; omega)))⟩ | exact ⟨none, ⟨0, rfl⟩, fun h => absurd rfl h, by (repeat' (first | with_reducible assumption | with_reducible exact Ext.refl _ | with_reducible refine Ext.alloc ?_ _ | with_reducible refine Ext.set ?_ ?_ _ | with_reducible refine Ext.drew ?_ | with_reducible refine Ext.drewN ?_ _ | with_reducible refine Ext.trans ?_ (by assumption) | (dsimp only; omega)))⟩
      case true =>
        rw [if_pos rfl, if_pos rfl]
        go_enter Tryz.func27, Tryz.ntmps27
        go_wp2_with (first
          | (go_at_call 65; refine (HC.out _ (by (repeat' (first | with_reducible assumption | with_reducible exact Ext.refl _ | with_reducible refine Ext.alloc ?_ _ | with_reducible refine Ext.set ?_ ?_ _ | with_reducible refine Ext.drew ?_ | with_reducible refine Ext.drewN ?_ _ | with_reducible refine Ext.trans ?_ (by assumption) | (dsimp only; omega))))).mono ?_; rintro e w2 ⟨rfl, hE⟩; (first | (have hK := KC.step (n := w.heap.size + 2) (by with_reducible assumption) hE) | (have hK := KC.step (KC.step (n := w.heap.size + 2) (by with_reducible assumption) (ext_alloc1 _ _)) hE) | (have hK := KC.step (KC.refl (n := w.heap.size + 2) (by simp)) hE)); have hC := hK.cell; have hF := hK.fro; have hX := hK.ext)
          | (go_at_call 72; refine (HW.out _ _ _ _).mono ?_; rintro e w9 ⟨rfl, rfl⟩; simp only [ht])
          | (go_at_call 73; refine (HF.out _ (by (repeat' (first | with_reducible assumption | with_reducible exact Ext.refl _ | with_reducible refine Ext.alloc ?_ _ | with_reducible refine Ext.set ?_ ?_ _ | with_reducible refine Ext.drew ?_ | with_reducible refine Ext.drewN ?_ _ | with_reducible refine Ext.trans ?_ (by assumption) | (dsimp only; omega)))) (by have := hK.size; omega) (by have := hK.size; omega) (by rw [hC _ _ (by omega)]; go_simp) (by rw [hC _ _ (by omega)]; go_simp)).mono ?_; rintro e w2 ⟨rfl, hE⟩; (first | (have hK := KC.step (n := w.heap.size + 2) (by with_reducible assumption) hE) | (have hK := KC.step (KC.step (n := w.heap.size + 2) (by with_reducible assumption) (ext_alloc1 _ _)) hE) | (have hK := KC.step (KC.refl (n := w.heap.size + 2) (by simp)) hE)); have hC := hK.cell; have hF := hK.fro; have hX := hK.ext)
          | (go_at_call 75; refine (HQ.out _).mono ?_; rintro e w8 ⟨A9, c9, rfl, hO, hE9⟩; have HO := hid hO; clear hO))
        go_ret2
        obtain ⟨A3, c3, e3, l3, h3⟩ := ownIn HO.out
        cases e3
        exact ⟨A9, c9, rfl, h3, l3, by (repeat' (first | with_reducible assumption | with_reducible exact Ext.refl _ | with_reducible refine Ext.alloc ?_ _ | with_reducible refine Ext.set ?_ ?_ _ | with_reducible refine Ext.drew ?_ | with_reducible refine Ext.drewN ?_ _ | with_reducible refine Ext.trans ?_ (by assumption) | (dsimp only; omega)))⟩
  · have hE : ∀ t, anE xs load t = 0 → False := fun t h => by
      obtain ⟨a1, a2, a3, a4⟩ := anE_ok h
      subst a4
      exact h0 h
    have he : anE xs load (inI least 0 8) = anE xs load true := by
      unfold anE at h0 ⊢
      cases hb : ptsB xs with
      | false => rfl
      | true =>
        rw [hb, if_pos rfl] at h0
        rw [if_pos rfl, if_pos rfl]
        cases hq : inI load 1 5000 with
        | false => rfl
        | true => rw [hq] at h0; exact absurd rfl h0
    rw [he, if_neg h0, if_neg h0]
    clear hx hn hE he
    have hne : (anE xs load true != 0) = true := by simp [h0]
    generalize anE xs load true = E at *
    go_enter Tryz.func27, Tryz.ntmps27
    go_wp2_with (go_at_call 65; refine (HC.out _ (by (repeat' (first | with_reducible assumption | with_reducible exact Ext.refl _ | with_reducible refine Ext.alloc ?_ _ | with_reducible refine Ext.set ?_ ?_ _ | with_reducible refine Ext.drew ?_ | with_reducible refine Ext.drewN ?_ _ | with_reducible refine Ext.trans ?_ (by assumption) | (dsimp only; omega))))).mono ?_; rintro e w2 ⟨rfl, hE⟩; (first | (have hK := KC.step (n := w.heap.size + 2) (by with_reducible assumption) hE) | (have hK := KC.step (KC.step (n := w.heap.size + 2) (by with_reducible assumption) (ext_alloc1 _ _)) hE) | (have hK := KC.step (KC.refl (n := w.heap.size + 2) (by simp)) hE)); have hC := hK.cell; have hF := hK.fro; have hX := hK.ext)
    go_ret2
    first | exact ⟨none, 0, rfl, fun h => absurd rfl h, by simp, by (repeat' (first | with_reducible assumption | with_reducible exact Ext.refl _ | with_reducible refine Ext.alloc ?_ _ | with_reducible refine Ext.set ?_ ?_ _ | with_reducible refine Ext.drew ?_ | with_reducible refine Ext.drewN ?_ _ | with_reducible refine Ext.trans ?_ (by assumption) | (dsimp only; omega)))⟩ | exact ⟨none, ⟨0, rfl⟩, fun h => absurd rfl h, by (repeat' (first | with_reducible assumption | with_reducible exact Ext.refl _ | with_reducible refine Ext.alloc ?_ _ | with_reducible refine Ext.set ?_ ?_ _ | with_reducible refine Ext.drew ?_ | with_reducible refine Ext.drewN ?_ _ | with_reducible refine Ext.trans ?_ (by assumption) | (dsimp only; omega)))⟩
end Go.Proofs.YtggggnjibedgaaaGreat
/- Elements that are valid and in order, taken one after the other: no program. -/
set_option linter.unusedSimpArgs false
set_option linter.unusedVariables false
namespace Go.Proofs.YtggggnjibedgaaaGreat
open Go.RowKit
def prK {α : Type} (p : α → Bool) (r : α → α → Bool) (d : α) (xs : List α) (k : Nat) : Bool := (xs.take k).all p && ordK r d xs (k - 1)
theorem prK_zero {α : Type} (p : α → Bool) (r : α → α → Bool) (d : α) (xs : List α) : prK p r d xs 0 = true := rfl
theorem prK_one {α : Type} (p : α → Bool) (r : α → α → Bool) (d : α) (xs : List α) (h : 0 < xs.length) (hp : p (xs.getD 0 d) = true) : prK p r d xs 1 = true := by
  unfold prK
  rw [all_take_snoc xs p d 0 h, hp]
  rfl
theorem prK_succ {α : Type} (p : α → Bool) (r : α → α → Bool) (d : α) (xs : List α) (j k : Nat) (hj : j + 1 = k) (h : k < xs.length) (ha : prK p r d xs k = true) (hp : p (xs.getD k d) = true) (hr : r (xs.getD j d) (xs.getD k d) = true) : prK p r d xs (k + 1) = true := by
  subst hj
  unfold prK at *
  rw [Bool.and_eq_true] at ha
  have h2 := ha.2
  rw [show j + 1 - 1 = j by omega] at h2
  rw [all_take_snoc xs p d (j + 1) h, ha.1, hp, show j + 1 + 1 - 1 = j + 1 by omega, ordK_succ, h2, hr]
  rfl
theorem prK_bad1 {α : Type} {p : α → Bool} {r : α → α → Bool} {d : α} {xs : List α} {k : Nat} (h : k < xs.length) (hp : p (xs.getD k d) = false) : (xs.all p && ordB r d xs) = false := by
  rw [all_of_at xs p d k h hp]; rfl
theorem prK_bad2 {α : Type} {p : α → Bool} {r : α → α → Bool} {d : α} {xs : List α} {j k : Nat} (hj : j + 1 = k) (h : k < xs.length) (hr : r (xs.getD j d) (xs.getD k d) = false) : (xs.all p && ordB r d xs) = false := by
  subst hj
  rw [ordK_bad r d xs j h hr, Bool.and_false]
theorem prK_end {α : Type} {p : α → Bool} {r : α → α → Bool} {d : α} {xs : List α} {k : Nat} (h : xs.length = k) (ha : prK p r d xs k = true) : (xs.all p && ordB r d xs) = true := by
  unfold prK at ha
  rw [Bool.and_eq_true] at ha
  rw [all_true_end ha.1 (by omega), ordK_end r d xs (k - 1) (by omega) ha.2]
  rfl
theorem mdB_eq (m : Md) : mdB m = (inI m.shelf 1 10000 && inI m.use 1 10000 && inI m.bears 0 100 && decide (m.wears.length ≤ 6) && (m.wears.all wrB && ordB wrO zeroWr m.wears)) := by
  unfold mdB
  rw [Bool.and_assoc (_ && _) (m.wears.all wrB)]
/-- The falls as the specification looks at them. -/
def fl2 (first : Int) (f : Fl) : Bool := inI f.day first 99999 && (spB f.hl f.hh 1 1000 && spB f.ol f.oh 1 1000)
theorem roB_eq (r : Ro) : roB r = (inI r.made 0 99999 && (r.first == -1 || inI r.first r.made 99999) && inI r.len 1 100 && decide (r.falls.length ≤ 10) && !(r.first == -1 && decide (0 < r.falls.length)) && (r.falls.all (fl2 r.first) && ordB flO zeroFl r.falls)) := by
  unfold roB
  rw [Bool.and_assoc (_ && _) (r.falls.all _)]
  by_cases hf : r.first = -1
  · cases h : r.falls with
    | nil => simp [hf]
    | cons a t => simp [hf, flB]
  · have e : flB r.first = fl2 r.first := by
      funext f
      unfold flB fl2
      have : (r.first == -1) = false := by simp [hf]
      rw [this]
      simp [Bool.and_assoc]
    have h2 : (r.first == -1) = false := by simp [hf]
    rw [e, h2]
    simp
end Go.Proofs.YtggggnjibedgaaaGreat
