/- cmp.Or, and what observations leave of a scenario. -/
import Derived.Test.YtecamnhnjmldcaaGreatDoorB03
import Derived.Test.YtecamnhnjmldcaaGreatDoorB01
import Derived.Laws.AppendOwn
import Derived.Laws.OwnMore
import Derived.Maps.AppendAt
import Derived.Deep.Onto
set_option linter.unusedSimpArgs false
set_option linter.unusedVariables false
namespace Go.Proofs.YtecamnhnjmldcaaGreatDoor
open Go.RowKit
theorem orM_skip (xs : List Int) : ∀ k, k ≤ xs.length → (∀ j, j < k → xs.getD j 0 = 0) → orM xs = orM (xs.drop k)
  | 0, _, _ => rfl
  | k + 1, hk, h => by
    rw [orM_skip xs k (by omega) (fun j hj => h j (by omega)), List.drop_eq_getElem_cons (by omega : k < xs.length)]
    have h0 := h k (by omega)
    rw [List.getD_eq_getElem?_getD, List.getElem?_eq_getElem (by omega)] at h0
    simp only [Option.getD_some] at h0
    rw [h0]
    rfl
theorem orM_hit (xs : List Int) (k : Nat) (hk : k < xs.length) (h : ∀ j, j < k → xs.getD j 0 = 0) (hn : xs.getD k 0 ≠ 0) : orM xs = xs.getD k 0 := by
  rw [orM_skip xs k (by omega) h, List.drop_eq_getElem_cons hk]
  have h0 : xs.getD k 0 = xs[k] := by simp [List.getD, List.getElem?_eq_getElem hk]
  rw [h0] at hn ⊢
  unfold orM
  rw [if_neg hn]
theorem orM_none (xs : List Int) (h : ∀ j, j < xs.length → xs.getD j 0 = 0) : orM xs = 0 := by
  rw [orM_skip xs xs.length (Nat.le_refl _) h, List.drop_length]
  rfl
set_option maxHeartbeats 1000000 in
theorem or_any (xs : List Int) (A : Option Addr) (n c : Nat) (hn : xs.length = n) (hm : n ≤ 1000) (w : World) (hx : IntsAt w A xs) :
    Calls Tryz.prog 83 #[.slice A n c] w fun e w' => e = .returned (.int .i64 (orM xs)) ∧ w' = w := by
  have HX := hid hx
  have HN := hid hn
  clear hx hn
  go_enter Tryz.func83, Tryz.ntmps83
  go_wp2
  go_loopw [8] (fun i wr => wr = w ∧ ∃ k : Nat, k ≤ n ∧ i = .int .i64 k ∧ Hid (∀ j, j < k → xs.getD j 0 = 0)) (fun i _ => n - (intOf i).toNat)
  case atStart => exact ⟨rfl, 0, Nat.zero_le _, rfl, hid (fun j hj => absurd hj (by omega))⟩
  case round =>
    obtain ⟨rfl, k, hk, rfl, HZ⟩ := hrel
    by_cases hlt : k < n
    · obtain ⟨b, off, rfl, hb, hc⟩ := HX.out (by have := HN.out; rintro rfl; simp at this; omega)
      have hck := hc k (by rw [HN.out]; exact hlt)
      have HH := hid (fun h => orM_hit xs k (by rw [HN.out]; exact hlt) HZ.out h)
      have HS := hid (fun (h : xs.getD k 0 = 0) => (show ∀ j, j < k + 1 → xs.getD j 0 = 0 from fun j hj => if e : j = k then e ▸ h else HZ.out j (by omega)))
      clear hc
      generalize xs.getD k 0 = x at *
      by_cases h0 : x = 0
      · subst h0
        have HS2 := hid (HS.out rfl)
        go_wp2
        go_roundw
        case rel => exact ⟨trivial, k + 1, by omega, by go_num, HS2⟩
        case measure => simp [intOf]; omega
      · have HH2 := hid (HH.out h0)
        go_wp2
        go_ret
        exact ⟨ret_int HH2.out.symm, rfl⟩
    · obtain rfl : k = n := by omega
      have HH2 := hid (orM_none xs (by rw [HN.out]; exact HZ.out))
      go_wp2
      go_ret
      exact ⟨ret_int HH2.out.symm, rfl⟩
set_option maxHeartbeats 1000000 in
theorem isAllowed_any (s : Sg) (h : Hr) (w : World) : Calls Tryz.prog 127 #[.agg #[.int .i64 s.wind, .int .i64 s.rain, .int .i64 s.temp], h.val] w fun e w' => e = .returned (.bool (inB s h)) ∧ Ext w w' := by
  unfold inB Hr.val
  obtain ⟨hr, wi, ra, te⟩ := s
  obtain ⟨wl, wh, rl, rh, tl, th⟩ := h
  dsimp only
  cases h1 : spB wi wi wl wh
  · go_enter Tryz.func127, Tryz.ntmps127
    go_wp2_with (first
      | (((go_at_call 134; refine (vJust_any _ _ _ _).mono ?_; rintro e w2 ⟨rfl, hE⟩; (first | (have hK := KC.step (n := w.heap.size + 2) (by with_reducible assumption) hE) | (have hK := KC.step (KC.step (n := w.heap.size + 2) (by with_reducible assumption) (ext_alloc1 _ _)) hE) | (have hK := KC.step (KC.refl (n := w.heap.size + 2) (by simp)) hE)); have hC := hK.cell; have hF := hK.fro; have hX := hK.ext)); have hz1 : w.heap.size + 1 < w2.heap.size := (by have := hK.size; omega); have hz0 : w.heap.size < w2.heap.size := (by omega))
      | (go_at_call 135; refine (vPart_any _ _ _ _ _).mono ?_; rintro e w3 ⟨rfl, hE⟩; (first | (have hK := KC.step (n := w2.heap.size + 1) (by with_reducible assumption) hE) | (have hK := KC.step (KC.step (n := w2.heap.size + 1) (by with_reducible assumption) (ext_alloc1 _ _)) hE) | (have hK := KC.step (KC.refl (n := w2.heap.size + 1) (by simp)) hE)); have hC := hK.cell; have hF := hK.fro; have hX := hK.ext))
    go_ret
    exact ⟨ret_bool (by first | rfl | (simp; done)), by (repeat' (first | with_reducible assumption | with_reducible exact Ext.refl _ | with_reducible refine Ext.alloc ?_ _ | with_reducible refine Ext.set ?_ ?_ _ | with_reducible refine Ext.drew ?_ | with_reducible refine Ext.drewN ?_ _ | with_reducible refine Ext.trans ?_ (by assumption) | (dsimp only; omega)))⟩
  cases h2 : spB ra ra rl rh
  · go_enter Tryz.func127, Tryz.ntmps127
    go_wp2_with (first
      | (((go_at_call 134; refine (vJust_any _ _ _ _).mono ?_; rintro e w2 ⟨rfl, hE⟩; (first | (have hK := KC.step (n := w.heap.size + 2) (by with_reducible assumption) hE) | (have hK := KC.step (KC.step (n := w.heap.size + 2) (by with_reducible assumption) (ext_alloc1 _ _)) hE) | (have hK := KC.step (KC.refl (n := w.heap.size + 2) (by simp)) hE)); have hC := hK.cell; have hF := hK.fro; have hX := hK.ext)); have hz1 : w.heap.size + 1 < w2.heap.size := (by have := hK.size; omega); have hz0 : w.heap.size < w2.heap.size := (by omega))
      | (go_at_call 135; refine (vPart_any _ _ _ _ _).mono ?_; rintro e w3 ⟨rfl, hE⟩; (first | (have hK := KC.step (n := w2.heap.size + 1) (by with_reducible assumption) hE) | (have hK := KC.step (KC.step (n := w2.heap.size + 1) (by with_reducible assumption) (ext_alloc1 _ _)) hE) | (have hK := KC.step (KC.refl (n := w2.heap.size + 1) (by simp)) hE)); have hC := hK.cell; have hF := hK.fro; have hX := hK.ext))
    go_ret
    exact ⟨ret_bool (by first | rfl | (simp; done)), by (repeat' (first | with_reducible assumption | with_reducible exact Ext.refl _ | with_reducible refine Ext.alloc ?_ _ | with_reducible refine Ext.set ?_ ?_ _ | with_reducible refine Ext.drew ?_ | with_reducible refine Ext.drewN ?_ _ | with_reducible refine Ext.trans ?_ (by assumption) | (dsimp only; omega)))⟩
  go_enter Tryz.func127, Tryz.ntmps127
  go_wp2_with (first
    | (((go_at_call 134; refine (vJust_any _ _ _ _).mono ?_; rintro e w2 ⟨rfl, hE⟩; (first | (have hK := KC.step (n := w.heap.size + 2) (by with_reducible assumption) hE) | (have hK := KC.step (KC.step (n := w.heap.size + 2) (by with_reducible assumption) (ext_alloc1 _ _)) hE) | (have hK := KC.step (KC.refl (n := w.heap.size + 2) (by simp)) hE)); have hC := hK.cell; have hF := hK.fro; have hX := hK.ext)); have hz1 : w.heap.size + 1 < w2.heap.size := (by have := hK.size; omega); have hz0 : w.heap.size < w2.heap.size := (by omega))
    | (go_at_call 135; refine (vPart_any _ _ _ _ _).mono ?_; rintro e w3 ⟨rfl, hE⟩; (first | (have hK := KC.step (n := w2.heap.size + 1) (by with_reducible assumption) hE) | (have hK := KC.step (KC.step (n := w2.heap.size + 1) (by with_reducible assumption) (ext_alloc1 _ _)) hE) | (have hK := KC.step (KC.refl (n := w2.heap.size + 1) (by simp)) hE)); have hC := hK.cell; have hF := hK.fro; have hX := hK.ext))
  go_ret
  exact ⟨ret_bool (by first | rfl | (simp; done)), by (repeat' (first | with_reducible assumption | with_reducible exact Ext.refl _ | with_reducible refine Ext.alloc ?_ _ | with_reducible refine Ext.set ?_ ?_ _ | with_reducible refine Ext.drew ?_ | with_reducible refine Ext.drewN ?_ _ | with_reducible refine Ext.trans ?_ (by assumption) | (dsimp only; omega)))⟩
set_option maxHeartbeats 1000000 in
theorem newO1_any (q : Nat) (hs : List Hr) (A : Option Addr) (c : Nat) (hm : hs.length ≤ 10000) (s : Sg) (hr0 : 0 ≤ s.hour) (hr1 : s.hour < hs.length) (w : World) (hx : HrsAt w A hs) (hq : q < w.heap.size) (c0 : w.cell? ⟨q, 0, none⟩ = some (.slice A hs.length c)) :
    Calls Tryz.prog 126 #[s.val, .pointer (some ⟨q, 0, none⟩)] w fun e w' => e = .returned (.bool (inB s (hs.getD s.hour.toNat zeroHr))) ∧ Ext w w' := by
  obtain ⟨k, hk⟩ : ∃ k : Nat, s.hour = k := ⟨s.hour.toNat, by omega⟩
  rw [hk] at hr0 hr1
  have hkl : k < hs.length := by omega
  have htn : s.hour.toNat = k := by omega
  rw [htn]
  obtain ⟨b, off, rfl, hb, d0, d1, d2, d3, d4, d5⟩ := hx.at_ rfl hkl
  have HA := hid (fun W => isAllowed_any s (hs.getD k zeroHr) W)
  clear hx htn
  generalize hs.getD k zeroHr = h at *
  obtain ⟨hr, wi, ra, te⟩ := s
  unfold Hr.val at HA
  obtain ⟨wl, wh, rl, rh, tl, th⟩ := h
  unfold Sg.val
  dsimp only at *
  subst hk
  obtain ⟨n, hn⟩ : ∃ n, hs.length = n := ⟨_, rfl⟩
  rw [hn] at hm hr1 hkl c0
  clear hn
  go_enter Tryz.func126, Tryz.ntmps126
  go_wp2_with fail
  refine wp_abs (fun W => W.cell? ⟨w.heap.size, 0, none⟩ = some (.int .i64 (k : Int)) ∧ W.cell? ⟨w.heap.size, 1, none⟩ = some (.int .i64 wi) ∧ W.cell? ⟨w.heap.size, 2, none⟩ = some (.int .i64 ra) ∧ W.cell? ⟨w.heap.size, 3, none⟩ = some (.int .i64 te) ∧ W.cell? ⟨q, 0, none⟩ = some (.slice (some ⟨b, off, none⟩) n c) ∧
    W.cell? ⟨b, off + k * 6, none⟩ = some (.int .i64 wl) ∧ W.cell? ⟨b, off + k * 6 + 1, none⟩ = some (.int .i64 wh) ∧ W.cell? ⟨b, off + k * 6 + 2, none⟩ = some (.int .i64 rl) ∧ W.cell? ⟨b, off + k * 6 + 3, none⟩ = some (.int .i64 rh) ∧ W.cell? ⟨b, off + k * 6 + 4, none⟩ = some (.int .i64 tl) ∧ W.cell? ⟨b, off + k * 6 + 5, none⟩ = some (.int .i64 th) ∧ w.heap.size + 1 ≤ W.heap.size ∧ Ext w W) ⟨by go_simp, by go_simp, by go_simp, by go_simp, by go_simp, by go_simp, by go_simp, by go_simp, by go_simp, by go_simp, by go_simp, by simp, by (repeat' (first | with_reducible assumption | with_reducible exact Ext.refl _ | with_reducible refine Ext.alloc ?_ _ | with_reducible refine Ext.set ?_ ?_ _ | with_reducible refine Ext.drew ?_ | with_reducible refine Ext.drewN ?_ _ | with_reducible refine Ext.trans ?_ (by assumption) | (dsimp only; omega)))⟩ ?_
  rintro W ⟨a0, a1, a2, a3, k0, e0, e1, e2, e3, e4, e5, hz, hE⟩
  clear c0 d0 d1 d2 d3 d4 d5
  have hq' : q < W.heap.size := by omega
  have hb' : b < W.heap.size := by omega
  have hw' : w.heap.size < W.heap.size := by omega
  refine wp_region_held_drew (S := fun w' => (∀ b o, b < W.heap.size → w'.cell? ⟨b, o, none⟩ = W.cell? ⟨b, o, none⟩) ∧ W.heap.size ≤ w'.heap.size ∧ Ext W w') (by kernel_rfl) ?hS0 (fun hHeld => ?_)
  case hS0 => exact sK (Ext.drew (Ext.refl _))
  have X0 : Ext W W.drew := Ext.drew (Ext.refl W)
  refine tk1 (i := 0) (v := ?v0a) rfl ?y0a ?r0a
  case y0a => (intro w' hSw; (try dsimp only at hSw); go_simp; (try with_reducible rfl))
  try simp only [Act.put, sq1, sq2, sq3, sq4, sq5, sq6]
  refine tk1 (i := 1) (v := ?v1a) rfl ?y1a ?r1a
  case y1a => (intro w' hSw; (try dsimp only at hSw); go_simp; (try with_reducible rfl))
  try simp only [Act.put, sq1, sq2, sq3, sq4, sq5, sq6]
  refine tk1 (i := 2) (v := ?v2a) rfl ?y2a ?r2a
  case y2a => (intro w' hSw; (try dsimp only at hSw); go_simp; (try with_reducible rfl))
  try simp only [Act.put, sq1, sq2, sq3, sq4, sq5, sq6]
  refine tk1 (i := 3) (v := ?v3a) rfl ?y3a ?r3a
  case y3a => (intro w' hSw; (try dsimp only at hSw); go_simp; (try with_reducible rfl))
  try simp only [Act.put, sq1, sq2, sq3, sq4, sq5, sq6]
  refine tk1 (i := 4) (v := ?v4a) rfl ?y4a ?r4a
  case y4a => (intro w' hSw; (try dsimp only at hSw); go_simp; (try with_reducible rfl))
  try simp only [Act.put, sq1, sq2, sq3, sq4, sq5, sq6]
  refine tk1 (i := 5) (v := ?v5a) rfl ?y5a ?r5a
  case y5a => (intro w' hSw; (try dsimp only at hSw); go_simp; (try with_reducible rfl))
  try simp only [Act.put, sq1, sq2, sq3, sq4, sq5, sq6]
  refine tk1 (i := 6) (v := ?v6a) rfl ?y6a ?r6a
  case y6a => (intro w' hSw; (try dsimp only at hSw); go_simp; (try with_reducible rfl))
  try simp only [Act.put, sq1, sq2, sq3, sq4, sq5, sq6]
  refine tk1 (i := 7) (v := ?v7a) rfl ?y7a ?r7a
  case y7a => (intro w' hSw; (try dsimp only at hSw); go_simp; (try with_reducible rfl))
  try simp only [Act.put, sq1, sq2, sq3, sq4, sq5, sq6]
  refine wpAnyH_ready (rs := [8]) (by kernel_rfl) (by simp) ?_
  refine AllReadyH.cons (o := _) rfl (fun K hK => ?_) AllReadyH.nil
  go_simp
  refine Calls.mono (HA.out _) ?_
  rintro e w1 ⟨rfl, hE1⟩
  dsimp only
  have X1 := X0.trans hE1
  clear hHeld
  refine hK.out _ _ (sK X1) (fun hHeld => ?_)
  clear hK K
  try simp only [Act.put, sq1, sq2, sq3, sq4, sq5, sq6]
  refine tk1 (i := 9) (v := ?v9b) rfl ?y9b ?r9b
  case y9b => (intro w' hSw; (try dsimp only at hSw); go_simp; (try with_reducible rfl))
  try simp only [Act.put, sq1, sq2, sq3, sq4, sq5, sq6]
  refine wpAnyH_done (by kernel_rfl) ?_ _
  have HX := hid (hE.trans X1)
  go_wp2
  go_ret
  exact ⟨rfl, HX.out⟩
end Go.Proofs.YtecamnhnjmldcaaGreatDoor
/- Slices of elements of several cells that a call builds, and copies of such slices. -/
set_option linter.unusedSimpArgs false
set_option linter.unusedVariables false
namespace Go.Proofs.YtecamnhnjmldcaaGreatDoor
open Go.RowKit
theorem fm_len {α : Type} (g : α → List Value) (s : Nat) (hg : ∀ x, (g x).length = s) : ∀ xs : List α, (xs.flatMap g).length = xs.length * s
  | [] => by simp
  | x :: xs => by
    have ih := fm_len g s hg xs
    rw [List.flatMap_cons, List.length_append, ih, hg, List.length_cons, Nat.succ_mul]
    omega
theorem fm_at {α : Type} (g : α → List Value) (s : Nat) (hg : ∀ x, (g x).length = s) (d : α) : ∀ (xs : List α) (k r : Nat), k < xs.length → r < s → (xs.flatMap g)[k * s + r]? = (g (xs.getD k d))[r]?
  | [], k, r, h, _ => by simp at h
  | x :: xs, 0, r, _, hr => by
    rw [List.flatMap_cons, Nat.zero_mul, Nat.zero_add, List.getElem?_append_left (by rw [hg]; exact hr)]
    rfl
  | x :: xs, k + 1, r, h, hr => by
    have ih := fm_at g s hg d xs k r (by simpa using h) hr
    have e : (x :: xs).getD (k + 1) d = xs.getD k d := by simp [List.getD]
    rw [List.flatMap_cons, e, List.getElem?_append_right (by rw [hg, Nat.succ_mul]; omega), ← ih, hg, Nat.succ_mul, show k * s + s + r - s = k * s + r by omega]
theorem addr_add (b off j : Nat) : (⟨b, off, none⟩ : Addr).add j = ⟨b, off + j, none⟩ := by
  unfold Addr.add
  split
  · rename_i h0; subst h0; rfl
  · rfl
/-- A list of elements of s cells in memory. -/
def FlatAt {α : Type} (s : Nat) (g : α → List Value) (d : α) (w : World) (A : Option Addr) (xs : List α) : Prop :=
  xs ≠ [] → ∃ b off, A = some ⟨b, off, none⟩ ∧ b < w.heap.size ∧ ∀ k, k < xs.length → ∀ r, r < s → w.cell? ⟨b, off + (k * s + r), none⟩ = (g (xs.getD k d))[r]?
theorem flat_from {α : Type} {s : Nat} {g : α → List Value} {d : α} {w : World} {b off : Nat} {xs : List α} (hs : 0 < s) (hg : ∀ x, (g x).length = s)
    (h : ∀ k, k < xs.length → ∀ r, r < s → w.cell? ⟨b, off + (k * s + r), none⟩ = (g (xs.getD k d))[r]?) :
    ∀ j u, (xs.flatMap g)[j]? = some u → w.cell? ((⟨b, off, none⟩ : Addr).add j) = some u := by
  intro j u hj
  have hlt := (List.getElem?_eq_some_iff.1 hj).1
  rw [fm_len g s hg] at hlt
  rw [addr_add]
  have hk : j / s < xs.length := by rw [Nat.div_lt_iff_lt_mul hs]; exact hlt
  have hr : j % s < s := Nat.mod_lt _ hs
  have e : j / s * s + j % s = j := by rw [Nat.mul_comm]; exact Nat.div_add_mod j s
  have h1 := h (j / s) hk (j % s) hr
  have h2 := fm_at g s hg d xs (j / s) (j % s) hk hr
  rw [e] at h1 h2
  rw [h1, ← h2, hj]
theorem ext_grown {w w' : World} (e : Ext w w') : w.grownBy w' none :=
  have h : Below w.heap.size w w' := e
  ⟨h.os, h.tape, h.output, h.size, fun k hk _ => h.block k hk⟩
section
variable {α : Type} {e : TypeId} {s : Nat} {g : α → List Value} {w w' : World} {B : Nat} {v : Value} {xs : List α}
/-- v is a slice of the call's own, from block B on, that holds xs. -/
def Ownl {α : Type} (e : TypeId) (s : Nat) (g : α → List Value) (w : World) (B : Nat) (v : Value) (xs : List α) : Prop := w.ownsRow B e s v xs.length (xs.flatMap g)
theorem Ownl.nil (w : World) (B : Nat) : Ownl e s g w B (.slice none 0 0) [] := World.ownsRow_nil w B e s
theorem Ownl.grown {row : Option Nat} (h : Ownl e s g w B v xs) (hg : w.grownBy w' row) (hne : v.ownBlock = none ∨ v.ownBlock ≠ row) : Ownl e s g w' B v xs := World.ownsRow.kept h hg hne
theorem Ownl.ext (h : Ownl e s g w B v xs) (x : Ext w w') : Ownl e s g w' B v xs := h.grown (ext_grown x) (by cases v.ownBlock <;> simp)
theorem Ownl.block (h : Ownl e s g w B v xs) : ∀ q, v.ownBlock = some q → B ≤ q ∧ q < w.heap.size := World.ownsRow.lt h
theorem Ownl.other (h : Ownl e s g w B v xs) {p : Addr} (hp : p.block < B) (u : Value) : Ownl e s g (w.setCell p u) B v xs := ownsRow_setCell_below h hp u
theorem Ownl.otherNe (h : Ownl e s g w B v xs) {p : Addr} (hp : v.ownBlock ≠ some p.block) (u : Value) : Ownl e s g (w.setCell p u) B v xs := ownsRow_setCell_other h hp u
theorem Ownl.low {B' : Nat} (h : Ownl e s g w B v xs) (hB : B' ≤ B) : Ownl e s g w B' v xs := World.ownsRow.mono h hB
theorem Ownl.form (h : Ownl e s g w B v xs) (hs : 0 < s) (hg : ∀ x, (g x).length = s) (d : α) : ∃ A c, v = .slice A xs.length c ∧ xs.length ≤ c ∧ FlatAt s g d w A xs ∧ (∀ b o sp, A = some ⟨b, o, sp⟩ → B ≤ b) := by
  rcases h.2 with ⟨h2, h0⟩ | ⟨q, cap, cur, a1, a2, a3, a4, a5, a6, a7⟩
  · have hx : xs = [] := List.length_eq_zero_iff.1 h0
    subst hx
    exact ⟨_, _, h2, Nat.le_refl _, fun hne => absurd rfl hne, fun b o sp e => by cases e⟩
  · refine ⟨_, _, a1, a4, fun hne => ⟨q, 0, rfl, (Array.getElem?_eq_some_iff.1 a3).1, fun k hk r hr => ?_⟩, fun b o sp e => by cases e; exact a2⟩
    have h' := h
    unfold Ownl at h'
    rw [a1] at h'
    have hj : k * s + r < xs.length * s := by
      have : k * s + s ≤ xs.length * s := by rw [← Nat.succ_mul]; exact Nat.mul_le_mul_right s hk
      omega
    rw [Nat.zero_add, h'.cellAt _ hj, fm_at g s hg d xs k r hk hr]
theorem Ownl.extApp {w5 : World} {W : World} {o : Obj} (h : Ownl e s g W B v xs) (x : Ext w W) (hB : w.heap.size ≤ B) (hg : (W.alloc o).grownBy w5 v.ownBlock) : Ext w w5 :=
  Below.grown (x.alloc o) hg (x.alloc o).size (fun k ek => Nat.le_trans hB (h.block k ek).1)
theorem Ownl.blkApp {w5 : World} {W : World} {o : Obj} {b : Nat} {t : TypeId} {cs : Array Value} (h : Ownl e s g W B v xs) (hb : Blk W b t cs) (hB : b < B) (hg : (W.alloc o).grownBy w5 v.ownBlock) : Blk w5 b t cs :=
  (hb.alloc o).grown hg (fun x => by have := (h.block b x.symm).1; omega)
theorem Ownl.snoc {y : α} (h : w.ownsRow B e s v (xs.length + 1) (xs.flatMap g ++ g y)) : Ownl e s g w B v (xs ++ [y]) := by
  unfold Ownl
  have e1 : (xs ++ [y]).length = xs.length + 1 := by simp
  have e2 : (xs ++ [y]).flatMap g = xs.flatMap g ++ g y := by simp
  rw [e1, e2]
  exact h
end
/-- All elements of a slice appended to an empty one: a copy. -/
theorem wp_appendAllG {α : Type} {s bytes : Nat} {g : α → List Value} (d : α) {o : Oper} {a : Act} {K : Act → World → Prop} {Q : Exit → Act → World → Prop} (w : World) (l x : Operand) (t e : TypeId) {i0 : TypeInfo} {zv : Value}
    (ho : o.op = .call { callee := .builtin .append, args := #[l, x], argTypes := #[t, t] }) (ht : Tryz.prog.underlying t = some (.slice e)) (hi : Tryz.prog.info? e = some i0) (hz0 : i0.zero = some zv) (hz1 : i0.size = s) (hz2 : i0.bytes = bytes) (hzs : zv.cells.size = s) (hs0 : 0 < s) (hby : bytes ≤ 1000)
    (hg : ∀ x, (g x).length = s) (h1 : ∀ y, ∀ u ∈ g y, u.oneCell' = true) (B z : Nat) (A : Option Addr) (c : Nat) (os : List α) (hs : a.eval l = .slice (some ⟨z, 0, none⟩) 0 0) (hz : w.heap[z]? = some (.cells #[] e (0, 0))) (hBz : B ≤ z)
    (hx : a.eval x = .slice A os.length c) (hO : FlatAt s g d w A os) (hl : os.length ≤ 10000)
    (h : ∀ v' w', Ownl e s g w' B v' os → w.grownBy w' (some z) → K (a.put o.dst v') w') : o.wp Tryz.prog a w K Q := by
  have hlt := (Array.getElem?_eq_some_iff.1 hz).1
  by_cases h0 : os = []
  · subst h0
    have hr : (Builtin.append_ #[t, t] o.type #[.slice (some ⟨z, 0, none⟩) 0 0, .slice A 0 c]).run Tryz.prog w = .ok (.slice (some ⟨z, 0, none⟩) 0 0) w := by
      cases A with
      | none => simp [Builtin.append_, run_underlying ht, sizeOf, typeInfo, hi, Builtin.lenOf, Builtin.firstCells, loadCells, loadCellsFrom, storeCells]
      | some ad => simp [Builtin.append_, run_underlying ht, sizeOf, typeInfo, hi, Builtin.lenOf, Builtin.firstCells, loadCells, loadCellsFrom, storeCells]
    unfold Oper.wp execOp
    simp only [ho, resolve, invoke, builtin, Sem.run_bind, Sem.run_pure, Result.andThen_ok, List.map_toArray, List.map_cons, List.map_nil, hs, hx, List.length_nil, hr]
    exact h _ w ⟨by simp, .inr ⟨z, 0, #[], rfl, hBz, hz, Nat.le_refl _, Nat.zero_le _, by simp, by simp⟩⟩ ⟨rfl, rfl, rfl, Nat.le_refl _, fun _ _ _ => rfl⟩
  · obtain ⟨b, off, rfl, hb, hc⟩ := hO h0
    have hle : os.length * bytes ≤ 10000 * 1000 := Nat.mul_le_mul hl hby
    refine wp_append_own w l x t ho B e i0 zv s bytes ht hi hz0 hz1 hz2 hzs hs0 (.slice (some ⟨z, 0, none⟩) 0 0) 0 [] hs ⟨by simp, .inr ⟨z, 0, #[], rfl, hBz, hz, Nat.le_refl _, Nat.zero_le _, by simp, by simp⟩⟩ ⟨b, off, none⟩ os.length c (os.flatMap g) hx (fm_len g s hg os) (flat_from hs0 hg hc)
      (fun u hu => by obtain ⟨y, _, hy⟩ := List.mem_flatMap.1 hu; exact h1 y u hy) (by unfold maxLen; omega) (by rw [Nat.zero_add]; omega) (by omega) (fun v' w' h1 h2 h3 => ?_)
    rw [Nat.zero_add, List.nil_append] at h1
    exact h v' w' h1 h2
def gInt (x : Int) : List Value := [.int .i64 x]
def gSp (x : Int × Int) : List Value := [.int .i64 x.1, .int .i64 x.2]
def gHr (h : Hr) : List Value := [.int .i64 h.wl, .int .i64 h.wh, .int .i64 h.rl, .int .i64 h.rh, .int .i64 h.tl, .int .i64 h.th]
def gSg (s : Sg) : List Value := [.int .i64 s.hour, .int .i64 s.wind, .int .i64 s.rain, .int .i64 s.temp]
def gRl (r : Rl) : List Value := [.int .i64 r.path, .int .i64 r.after, .int .i64 r.lim.wind, .int .i64 r.lim.rain, .int .i64 r.lim.tl, .int .i64 r.lim.th]
theorem flat_ints {w : World} {A : Option Addr} {xs : List Int} : FlatAt 1 gInt 0 w A xs ↔ IntsAt w A xs := by
  constructor
  · intro h hne
    obtain ⟨b, off, hA, hb, hc⟩ := h hne
    exact ⟨b, off, hA, hb, fun k hk => by have := hc k hk 0 (by omega); simpa [gInt] using this⟩
  · intro h hne
    obtain ⟨b, off, hA, hb, hc⟩ := h hne
    refine ⟨b, off, hA, hb, fun k hk r hr => ?_⟩
    obtain rfl : r = 0 := by omega
    have := hc k hk
    simpa [gInt] using this
theorem flat_spans {w : World} {A : Option Addr} {xs : List (Int × Int)} : FlatAt 2 gSp (0, 0) w A xs ↔ OpensAt w A xs := by
  constructor
  · intro h hne
    obtain ⟨b, off, hA, hb, hc⟩ := h hne
    exact ⟨b, off, hA, hb, fun k hk => ⟨hc k hk 0 (by omega), hc k hk 1 (by omega)⟩⟩
  · intro h hne
    obtain ⟨b, off, hA, hb, hc⟩ := h hne
    refine ⟨b, off, hA, hb, fun k hk r hr => ?_⟩
    match r, hr with
    | 0, _ => exact (hc k hk).1
    | 1, _ => exact (hc k hk).2
theorem flat_hrs {w : World} {A : Option Addr} {xs : List Hr} : FlatAt 6 gHr zeroHr w A xs ↔ HrsAt w A xs := by
  constructor
  · intro h hne
    obtain ⟨b, off, hA, hb, hc⟩ := h hne
    exact ⟨b, off, hA, hb, fun k hk => ⟨hc k hk 0 (by omega), hc k hk 1 (by omega), hc k hk 2 (by omega), hc k hk 3 (by omega), hc k hk 4 (by omega), hc k hk 5 (by omega)⟩⟩
  · intro h hne
    obtain ⟨b, off, hA, hb, hc⟩ := h hne
    refine ⟨b, off, hA, hb, fun k hk r hr => ?_⟩
    match r, hr with
    | 0, _ => exact (hc k hk).c0
    | 1, _ => exact (hc k hk).c1
    | 2, _ => exact (hc k hk).c2
    | 3, _ => exact (hc k hk).c3
    | 4, _ => exact (hc k hk).c4
    | 5, _ => exact (hc k hk).c5
theorem flat_sgs {w : World} {A : Option Addr} {xs : List Sg} : FlatAt 4 gSg zeroSg w A xs ↔ SgsAt w A xs := by
  constructor
  · intro h hne
    obtain ⟨b, off, hA, hb, hc⟩ := h hne
    exact ⟨b, off, hA, hb, fun k hk => ⟨hc k hk 0 (by omega), hc k hk 1 (by omega), hc k hk 2 (by omega), hc k hk 3 (by omega)⟩⟩
  · intro h hne
    obtain ⟨b, off, hA, hb, hc⟩ := h hne
    refine ⟨b, off, hA, hb, fun k hk r hr => ?_⟩
    match r, hr with
    | 0, _ => exact (hc k hk).c0
    | 1, _ => exact (hc k hk).c1
    | 2, _ => exact (hc k hk).c2
    | 3, _ => exact (hc k hk).c3
theorem flat_rls {w : World} {A : Option Addr} {xs : List Rl} : FlatAt 6 gRl zeroRl w A xs ↔ RlsAt w A xs := by
  constructor
  · intro h hne
    obtain ⟨b, off, hA, hb, hc⟩ := h hne
    exact ⟨b, off, hA, hb, fun k hk => ⟨hc k hk 0 (by omega), hc k hk 1 (by omega), hc k hk 2 (by omega), hc k hk 3 (by omega), hc k hk 4 (by omega), hc k hk 5 (by omega)⟩⟩
  · intro h hne
    obtain ⟨b, off, hA, hb, hc⟩ := h hne
    refine ⟨b, off, hA, hb, fun k hk r hr => ?_⟩
    match r, hr with
    | 0, _ => exact (hc k hk).c0
    | 1, _ => exact (hc k hk).c1
    | 2, _ => exact (hc k hk).c2
    | 3, _ => exact (hc k hk).c3
    | 4, _ => exact (hc k hk).c4
    | 5, _ => exact (hc k hk).c5
end Go.Proofs.YtecamnhnjmldcaaGreatDoor
