/- The program's Holds. -/
import Derived.Test.YtggggnjibedgaaaGreatBTopHolds18
import Derived.Test.YtggggnjibedgaaaGreatB05
import Derived.Test.YtggggnjibedgaaaGreatB02
import Derived.Deep.QuietTactic
import Derived.BigQuiet
import Derived.Test.YtggggnjibedgaaaGreatB14
set_option linter.unusedSimpArgs false
set_option linter.unusedVariables false
namespace Go.Proofs.YtggggnjibedgaaaGreat
open Go.RowKit
set_option maxHeartbeats 400000 in
theorem low_any (x : Sp) (w : World) : Calls Tryz.prog 67 #[x.val] w fun e w' => e = .returned (.int .i64 x.lo) ∧ Ext w w' := by
  unfold Sp.val
  obtain ⟨lo, hi⟩ := x
  dsimp only
  go_enter Tryz.func67, Tryz.ntmps67
  go_wp2
  go_ret
  exact ⟨rfl, by (repeat' (first | with_reducible assumption | with_reducible exact Ext.refl _ | with_reducible refine Ext.alloc ?_ _ | with_reducible refine Ext.set ?_ ?_ _ | with_reducible refine Ext.drew ?_ | with_reducible refine Ext.drewN ?_ _ | with_reducible refine Ext.trans ?_ (by assumption) | (dsimp only; omega)))⟩
set_option maxHeartbeats 400000 in
theorem high_any (x : Sp) (w : World) : Calls Tryz.prog 68 #[x.val] w fun e w' => e = .returned (.int .i64 x.hi) ∧ Ext w w' := by
  unfold Sp.val
  obtain ⟨lo, hi⟩ := x
  dsimp only
  go_enter Tryz.func68, Tryz.ntmps68
  go_wp2
  go_ret
  exact ⟨rfl, by (repeat' (first | with_reducible assumption | with_reducible exact Ext.refl _ | with_reducible refine Ext.alloc ?_ _ | with_reducible refine Ext.set ?_ ?_ _ | with_reducible refine Ext.drew ?_ | with_reducible refine Ext.drewN ?_ _ | with_reducible refine Ext.trans ?_ (by assumption) | (dsimp only; omega)))⟩
set_option maxRecDepth 100000 in
set_option maxHeartbeats 4000000 in
theorem holds1_any (fs : Nat) (f : Sp → Int) (egs : ∀ args w, (callFunc fs args).run Tryz.prog w = .ok (.enter fs args) w) (hfs : ∀ x W, Calls Tryz.prog fs #[Sp.val x] W fun e W' => e = .returned (.int .i64 (f x)) ∧ Ext W W')
    (x : Sp) (hx : 0 ≤ f x ∧ f x ≤ 5000) (load : Int) (A : Option Addr) (n c : Nat) (hn : n ≤ 1000) (b1 b2 b3 : Nat) (w : World) (z1 : b1 < w.heap.size) (z2 : b2 < w.heap.size) (z3 : b3 < w.heap.size)
    (h1 : w.cell? ⟨b1, 0, none⟩ = some (.slice A n c)) (h2 : w.cell? ⟨b2, 0, none⟩ = some (.func (.func fs) #[] #[])) (h3 : w.cell? ⟨b3, 0, none⟩ = some (.int .i64 load)) :
    Calls Tryz.prog 107 #[x.val, .pointer (some ⟨b1, 0, none⟩), .pointer (some ⟨b2, 0, none⟩), .pointer (some ⟨b3, 0, none⟩)] w fun e w' => e = .returned (.bool (decide (load ≤ (n : Int) * f x))) ∧ Ext w w' := by
  have HF := hid (fun W => hfs x W)
  have HEG := hid egs
  have BX := hid (Blk.new w 33 #[.int .i64 x.lo, .int .i64 x.hi])
  have hmul : 0 ≤ (n : Int) * f x ∧ (n : Int) * f x ≤ 5000000 := ⟨Int.mul_nonneg (by omega) hx.1, by
    have := Int.mul_le_mul (show (n : Int) ≤ 1000 by omega) hx.2 hx.1 (by omega : (0:Int) ≤ 1000); omega⟩
  unfold Sp.val at *
  generalize f x = v at *
  obtain ⟨lo, hi⟩ := x
  dsimp only at *
  have hw1 : IntKind.i64.wrap ((n : Int) * v) = (n : Int) * v := IntWalk.i64_in _ (by omega)
  clear hfs egs
  go_enter Tryz.func107, Tryz.ntmps107
  go_wp2_with fail
  have EW := ext_alloc1 w (.cells #[.int .i64 lo, .int .i64 hi] 33)
  have y0 := BX.out.cell 0
  have y1 := BX.out.cell 1
  have yz := BX.out.lt
  simp only [List.getElem?_toArray, List.getElem?_cons_zero, List.getElem?_cons_succ] at y0 y1
  replace h1 := (EW.cell (p := ⟨b1, 0, none⟩) z1).trans h1
  replace h2 := (EW.cell (p := ⟨b2, 0, none⟩) z2).trans h2
  replace h3 := (EW.cell (p := ⟨b3, 0, none⟩) z3).trans h3
  have z1' := Nat.lt_of_lt_of_le z1 EW.size
  have z2' := Nat.lt_of_lt_of_le z2 EW.size
  have z3' := Nat.lt_of_lt_of_le z3 EW.size
  obtain ⟨V, hV⟩ : ∃ V, w.alloc (.cells #[.int .i64 lo, .int .i64 hi] 33) = V := ⟨_, rfl⟩
  rw [hV] at EW y0 y1 yz h1 h2 h3 z1' z2' z3' ⊢
  have HEW := hid EW
  clear hV EW BX z1 z2 z3
  refine wp_region_held_drew (S := fun w' => (∀ b o, b < V.heap.size → w'.cell? ⟨b, o, none⟩ = V.cell? ⟨b, o, none⟩) ∧ V.heap.size ≤ w'.heap.size ∧ Ext V w') (by kernel_rfl) ?hS0 (fun hHeld => ?_)
  case hS0 => exact sK (Ext.drew (Ext.refl _))
  have X0 : Ext V V.drew := Ext.drew (Ext.refl V)
  have EX := X0
  obtain ⟨X, hX⟩ : ∃ X, V.drew = X := ⟨_, rfl⟩
  rw [hX] at EX hHeld ⊢
  clear hX X0
  refine tk1 (i := 0) (v := ?v0a) rfl ?y0a ?r0a
  case y0a => (intro w' hSw; (try dsimp only at hSw); go_simp; (try with_reducible rfl))
  try simp only [Act.put, sq1, sq2, sq3, sq4, sq5, sq6]
  refine tk1 (i := 1) (v := ?v1a) rfl ?y1a ?r1a
  case y1a => (intro w' hSw; (try dsimp only at hSw); go_simp; (try with_reducible rfl))
  try simp only [Act.put, sq1, sq2, sq3, sq4, sq5, sq6]
  refine tk1 (i := 2) (v := ?v2a) rfl ?y2a ?r2a
  case y2a => (intro w' hSw; (try dsimp only at hSw); go_simp; (try with_reducible rfl))
  try simp only [Act.put, sq1, sq2, sq3, sq4, sq5, sq6]
  refine tk1 (i := 3) (v := ?v3a) rfl ?y3a ?r3a
  case y3a => (intro w' hSw; (try dsimp only at hSw); go_simp; (try with_reducible rfl))
  try simp only [Act.put, sq1, sq2, sq3, sq4, sq5, sq6]
  refine tk1 (i := 6) (v := ?v6a) rfl ?y6a ?r6a
  case y6a => (intro w' hSw; (try dsimp only at hSw); go_simp; (try with_reducible rfl))
  try simp only [Act.put, sq1, sq2, sq3, sq4, sq5, sq6]
  refine wpAnyH_ready (rs := [4]) (by kernel_rfl) (by simp) ?_
  refine AllReadyH.cons (o := _) rfl (fun K hK => ?_) AllReadyH.nil
  go_simp
  rw [HEG.out]
  refine Calls.mono (HF.out _) ?_
  rintro e X ⟨rfl, hEX⟩
  dsimp only
  replace EX := EX.trans hEX
  clear hHeld hEX
  refine hK.out _ _ (sK EX) (fun hHeld => ?_)
  clear hK K
  try simp only [Act.put, sq1, sq2, sq3, sq4, sq5, sq6]
  refine tk1 (i := 5) (v := ?v5b) rfl ?y5b ?r5b
  case y5b => (intro w' hSw; (try dsimp only at hSw); go_simp; (try simp only [hw1]); (try with_reducible rfl))
  try simp only [Act.put, sq1, sq2, sq3, sq4, sq5, sq6]
  refine tk1 (i := 7) (v := ?v7b) rfl ?y7b ?r7b
  case y7b => (intro w' hSw; (try dsimp only at hSw); go_simp; (try with_reducible rfl))
  try simp only [Act.put, sq1, sq2, sq3, sq4, sq5, sq6]
  refine tk1 (i := 8) (v := ?v8b) rfl ?y8b ?r8b
  case y8b => (intro w' hSw; (try dsimp only at hSw); go_simp; (try with_reducible rfl))
  try simp only [Act.put, sq1, sq2, sq3, sq4, sq5, sq6]
  refine wpAnyH_done (by kernel_rfl) ?_ _
  have HEE := hid (HEW.out.trans EX)
  clear hHeld EX
  go_wp2
  go_ret
  exact ⟨ret_bool (by first | rfl | (simp; done) | (simp; omega)), HEE.out⟩
theorem pt_bd {x : Sp} (h : ptB x = true) : (0 ≤ x.lo ∧ x.lo ≤ 5000) ∧ (0 ≤ x.hi ∧ x.hi ≤ 5000) := by
  unfold ptB spB at h
  simp only [Bool.and_eq_true, decide_eq_true_eq] at h
  omega
theorem holdN_succ (f : Sp → Int) (load : Int) (k : Nat) (xs : List Sp) : holdN f load (k + 1) xs = if (keepStep f load xs).length = xs.length then decide (0 < xs.length) else holdN f load k (keepStep f load xs) := rfl
theorem holdN_zero (f : Sp → Int) (load : Int) (xs : List Sp) : holdN f load 0 xs = decide (0 < xs.length) := rfl
theorem keepStep_le (f : Sp → Int) (load : Int) (xs : List Sp) : (keepStep f load xs).length ≤ xs.length := List.length_filter_le _ _
theorem holdN_stab (f : Sp → Int) (load : Int) : ∀ (N : Nat) (zs : List Sp), zs.length ≤ N → ∀ k, zs.length ≤ k → holdN f load k zs = holdN f load zs.length zs := by
  intro N
  induction N with
  | zero =>
    intro zs h k hk
    have h0 : zs = [] := List.length_eq_zero_iff.1 (by omega)
    subst h0
    cases k with
    | zero => rfl
    | succ k => rw [holdN_succ, if_pos (by have := keepStep_le f load ([] : List Sp); simp at this ⊢; exact this)]; rfl
  | succ N ih =>
    intro zs h k hk
    obtain ⟨l, hl⟩ : ∃ l, zs.length = l := ⟨_, rfl⟩
    rw [hl]
    cases k with
    | zero => have : l = 0 := by omega
              rw [this]
    | succ k =>
      have hks := keepStep_le f load zs
      rw [holdN_succ]
      cases l with
      | zero =>
        rw [if_pos (by omega), holdN_zero]
      | succ l =>
        rw [holdN_succ]
        by_cases hq : (keepStep f load zs).length = zs.length
        · rw [if_pos hq, if_pos hq]
        · rw [if_neg hq, if_neg hq, ih _ (by omega) k (by omega), ih _ (by omega) l (by omega)]
theorem holdN_stop {f : Sp → Int} {load : Int} {ys : List Sp} {m : Nat} (hm : ys.length = m) (hq : (keepStep f load ys).length = m) : holdN f load m ys = decide (0 < m) := by
  subst hm
  obtain ⟨l, hl⟩ : ∃ l, ys.length = l := ⟨_, rfl⟩
  rw [hl] at hq ⊢
  cases l with
  | zero => rw [holdN_zero, hl]
  | succ l => rw [holdN_succ, if_pos (by rw [hq, hl]), hl]
theorem holdN_next {f : Sp → Int} {load : Int} {ys : List Sp} {m : Nat} (hm : ys.length = m) (hq : (keepStep f load ys).length ≠ m) : holdN f load m ys = holdN f load (keepStep f load ys).length (keepStep f load ys) := by
  have hks := keepStep_le f load ys
  cases m with
  | zero => omega
  | succ l => rw [holdN_succ, if_neg (by rw [hm]; exact hq), holdN_stab f load l _ (by omega) l (by omega)]
theorem ownl_ne {α : Type} {e : TypeId} {s : Nat} {g : α → List Value} {W : World} {B : Nat} {v : Value} {xs : List α} (h : Ownl e s g W B v xs) {b : Nat} {t : TypeId} {cs : Array Value} (hb : Blk W b t cs) (ht : t ≠ e) : v.ownBlock ≠ some b := by
  intro hq
  rcases h.2 with ⟨h2, _⟩ | ⟨q, cap, cur, a1, a2, a3, _⟩
  · rw [h2] at hq; cases hq
  · rw [a1] at hq
    cases hq
    have hb' : W.heap[q]? = some (.cells cs t (0, 0)) := hb
    rw [a3] at hb'
    injection hb' with h1
    injection h1 with h2 h3
    exact ht h3.symm
def mLen (o : Option Value) : Nat := match o with | some (.slice _ n _) => n | _ => 0
set_option maxRecDepth 100000 in
set_option maxHeartbeats 8000000 in
theorem holds_any (fs : Nat) (f : Sp → Int) (egs : ∀ args w, (callFunc fs args).run Tryz.prog w = .ok (.enter fs args) w) (hfs : ∀ x W, Calls Tryz.prog fs #[Sp.val x] W fun e W' => e = .returned (.int .i64 (f x)) ∧ Ext W W')
    (xs : List Sp) (hx : ∀ x ∈ xs, 0 ≤ f x ∧ f x ≤ 5000) (load : Int) (A : Option Addr) (n c : Nat) (hn : xs.length = n) (hm : n ≤ 1000) (w : World) (hA : SpsAt w A xs) :
    Calls Tryz.prog 66 #[.slice A n c, .int .i64 load, .func (.func fs) #[] #[]] w fun e w' => e = .returned (.bool (holdB f load xs)) ∧ Ext w w' := by
  have HN := hid hn
  have H0 := hid (show holdN f load n xs = holdB f load xs by unfold holdB; rw [hn])
  have HAA := hid hA
  have HXX := hid hx
  have HK := hid (fun (ys : List Sp) (hy : ∀ x ∈ ys, 0 ≤ f x ∧ f x ≤ 5000) (m : Nat) (hm : ys.length = m) (hm2 : m ≤ 1000) (A' : Option Addr) (c' b1 b2 b3 : Nat) (W : World) (hW : SpsAt W A' ys) (z1 : b1 < W.heap.size) (z2 : b2 < W.heap.size) (z3 : b3 < W.heap.size)
    (h1 : W.cell? ⟨b1, 0, none⟩ = some (.slice A' m c')) (h2 : W.cell? ⟨b2, 0, none⟩ = some (.func (.func fs) #[] #[])) (h3 : W.cell? ⟨b3, 0, none⟩ = some (.int .i64 load)) =>
    keepSp_any 107 #[.pointer (some ⟨b1, 0, none⟩), .pointer (some ⟨b2, 0, none⟩), .pointer (some ⟨b3, 0, none⟩)] (fun _ _ => by kernel_rfl) ys (fun x => decide (load ≤ (m : Int) * f x)) A' m c' hm hm2 W hW
      (fun x W' hE hxm => holds1_any fs f egs hfs x (hy x hxm) load A' m c' hm2 b1 b2 b3 W' (Nat.lt_of_lt_of_le z1 hE.size) (Nat.lt_of_lt_of_le z2 hE.size) (Nat.lt_of_lt_of_le z3 hE.size) ((hE.cell (p := ⟨b1, 0, none⟩) z1).trans h1) ((hE.cell (p := ⟨b2, 0, none⟩) z2).trans h2) ((hE.cell (p := ⟨b3, 0, none⟩) z3).trans h3)))
  clear hn hA hx hfs egs
  generalize holdB f load xs = R at *
  have t0 := blks3 w (.cells #[.int .i64 load] 3) (.cells #[.func (.func fs) #[] #[]] 114) (.cells #[.slice A n c] 42)
  have B0 := hid (show Blk _ _ _ _ from t0.1)
  have B1 := hid (show Blk _ _ _ _ from t0.2.1)
  have B2 := hid (show Blk _ _ _ _ from t0.2.2)
  clear t0
  go_enter Tryz.func66, Tryz.ntmps66
  go_wp2_with fail
  go_loopw [8] (fun _ wr => Ext w wr ∧ Hid (Blk wr w.heap.size 3 #[.int .i64 load]) ∧ Hid (Blk wr (w.heap.size + 1) 114 #[.func (.func fs) #[] #[]]) ∧
    ∃ (ys : List Sp) (m : Nat) (A' : Option Addr) (c' : Nat), Hid (Blk wr (w.heap.size + 1 + 1) 42 #[.slice A' m c']) ∧ Hid (ys.length = m) ∧ m ≤ 1000 ∧ Hid (SpsAt wr A' ys) ∧ Hid (∀ x ∈ ys, 0 ≤ f x ∧ f x ≤ 5000) ∧ Hid (holdN f load m ys = R)) (fun _ W => mLen (W.cell? ⟨w.heap.size + 1 + 1, 0, none⟩))
  case atStart => exact ⟨by (repeat' (first | with_reducible assumption | with_reducible exact Ext.refl _ | with_reducible refine Ext.alloc ?_ _ | with_reducible refine Ext.set ?_ ?_ _ | with_reducible refine Ext.drew ?_ | with_reducible refine Ext.drewN ?_ _ | with_reducible refine Ext.trans ?_ (by assumption) | (dsimp only; omega))), B0, B1, xs, n, A, c, B2, HN, hm, hid (HAA.out.ext (by (repeat' (first | with_reducible assumption | with_reducible exact Ext.refl _ | with_reducible refine Ext.alloc ?_ _ | with_reducible refine Ext.set ?_ ?_ _ | with_reducible refine Ext.drew ?_ | with_reducible refine Ext.drewN ?_ _ | with_reducible refine Ext.trans ?_ (by assumption) | (dsimp only; omega))))), HXX, H0⟩
  case round =>
    obtain ⟨hE, K0, K1, ys, m, A', c', K2, HM, hm', HY, HB, HR⟩ := hrel
    clear B0 B1 B2 H0 HN HAA HXX
    have a0 := K0.out.cell 0
    have b0 := K1.out.cell 0
    have d0 := K2.out.cell 0
    have HD0 := hid (show wr.cell? ⟨w.heap.size + 1 + 1, 0, none⟩ = some (.slice A' m c') from K2.out.cell 0)
    have df := K2.out.fro 0
    have z0 := K0.out.lt
    have z1 := K1.out.lt
    have z2 := K2.out.lt
    simp only [List.getElem?_toArray, List.getElem?_cons_zero, List.getElem?_cons_succ] at a0 b0 d0
    have HKk := hid (HK.out ys HB.out m HM.out hm' A' c' (w.heap.size + 1 + 1) (w.heap.size + 1) w.heap.size wr HY.out z2 z1 z0 d0 b0 a0)
    have hst : ys.filter (fun x => decide (load ≤ (m : Int) * f x)) = keepStep f load ys := by unfold keepStep; rw [HM.out]
    rw [hst] at HKk
    have HS := hid (fun h => (holdN_stop (f := f) (load := load) HM.out h).symm.trans HR.out)
    have HNX := hid (fun h => (holdN_next (f := f) (load := load) HM.out h).symm.trans HR.out)
    have HB2 := hid (show ∀ x ∈ keepStep f load ys, 0 ≤ f x ∧ f x ≤ 5000 from fun x h => HB.out x (List.mem_filter.1 h).1)
    have hle := keepStep_le f load ys
    rw [HM.out] at hle
    clear HK hst HR
    generalize keepStep f load ys = zs at *
    obtain ⟨q, hq⟩ : ∃ q, zs.length = q := ⟨_, rfl⟩
    rw [hq] at HKk HS HNX hle
    have HQ := hid hq
    clear hq
    go_wp2_with fail
    refine Calls.mono HKk.out ?_
    rintro e w5 ⟨B5, d5, rfl, hO, hE5⟩
    obtain ⟨A6, c6, h6, -, hs6⟩ := ownSp hO
    have hA6 : B5 = A6 := by injection h6
    subst hA6
    have HS6 := hid hs6
    have E5 := hid (hE.trans hE5)
    have J0 := hid (K0.out.ext hE5)
    have J1 := hid (K1.out.ext hE5)
    have J2 := hid (K2.out.ext hE5)
    have HO5 := hid hO
    clear hO h6 hs6 hE5 K0 K1 K2 HKk a0 b0 d0 df z0 z1 z2
    have d0 := J2.out.cell 0
    have df := J2.out.fro 0
    have z2 := J2.out.lt
    simp only [List.getElem?_toArray, List.getElem?_cons_zero, List.getElem?_cons_succ] at d0
    by_cases hqm : q = m
    · subst hqm
      have HF := hid (HS.out rfl)
      go_wp2
      go_ret
      exact ⟨ret_bool (by first | (rw [← HF.out]; done) | (rw [← HF.out]; simp; done) | (rw [← HF.out]; simp; omega)), E5.out⟩
    · have HF := hid (HNX.out hqm)
      have hqi : ¬ ((q : Int) = (m : Int)) := by omega
      have L0 := hid (J0.out.other (p := ⟨w.heap.size + 1 + 1, 0, none⟩) (by dsimp only; omega) (.slice B5 q d5))
      have L1 := hid (J1.out.other (p := ⟨w.heap.size + 1 + 1, 0, none⟩) (by dsimp only; omega) (.slice B5 q d5))
      have L2 := hid (J2.out.set (.slice B5 q d5))
      have L5 := hid (E5.out.set (p := ⟨w.heap.size + 1 + 1, 0, none⟩) (by dsimp only; omega) (.slice B5 q d5))
      have O5 := HO5.out.otherNe (p := ⟨w.heap.size + 1 + 1, 0, none⟩) (ownl_ne HO5.out J2.out (by decide)) (.slice B5 q d5)
      obtain ⟨A7, c7, h7, -, hs7⟩ := ownSp O5
      have hA7 : B5 = A7 := by injection h7
      subst hA7
      have HS7 := hid hs7
      clear hs7 h7 O5 HO5
      go_wp2
      go_roundw
      case rel => exact ⟨L5.out, L0, L1, zs, q, B5, d5, L2, HQ, by omega, HS7, HB2, HF⟩
      case measure =>
        have e1 : (w5.setCell ⟨w.heap.size + 1 + 1, 0, none⟩ (.slice B5 q d5)).cell? ⟨w.heap.size + 1 + 1, 0, none⟩ = some (.slice B5 q d5) := L2.out.cell 0
        rw [e1, HD0.out]
        show q < m
        omega
set_option maxHeartbeats 1000000 in
theorem isPoint_any (x : Sp) (w : World) : Calls Tryz.prog 103 #[x.val] w fun e w' => e = .returned (.bool (ptB x)) ∧ Ext w w' := by
  have HS := hid (fun W => spanW_any x 0 5000 W)
  unfold ptB
  generalize spB x.lo x.hi 0 5000 = b at *
  unfold Sp.val at *
  obtain ⟨lo, hi⟩ := x
  dsimp only at *
  go_enter Tryz.func103, Tryz.ntmps103
  go_wp2_with (go_at_call 104; refine (HS.out _).mono ?_; rintro e w2 ⟨rfl, hE⟩)
  go_ret
  exact ⟨rfl, (ext_alloc1 _ _).trans hE⟩
set_option maxRecDepth 100000 in
set_option maxHeartbeats 2000000 in
theorem checkAnchor_any (xs : List Sp) (load : Int) (A : Option Addr) (n c : Nat) (hn : xs.length = n) (hm : n ≤ 10000) (w : World) (hx : SpsAt w A xs) :
    Calls Tryz.prog 65 #[.slice A n c, .int .i64 load] w fun e w' => e = .returned (.int .i64 (anE xs load true)) ∧ Ext w w' := by
  have HA := hid (fun (W : World) (hE : Ext w W) => allSp_any 103 #[] (fun _ _ => by kernel_rfl) xs ptB A n c hn hm W (hx.ext hE) (fun x W' _ _ => isPoint_any x W'))
  have HW := hid (fun a b c W => within_any a b c W)
  obtain ⟨RR, hRR⟩ : ∃ v, anE xs load true = v := ⟨_, rfl⟩
  rw [hRR]
  unfold anE ptsB at hRR
  rw [hn, Bool.and_true] at hRR
  have HRR := hid hRR
  clear hx hn hRR
  generalize xs.all ptB = b1 at *
  obtain ⟨b2, h2⟩ : ∃ b, inI load 1 5000 = b := ⟨_, rfl⟩
  rw [h2] at HRR
  by_cases h8 : n ≤ 8
  · have h8i : ¬ (8 : Int) < (n : Int) := by omega
    rw [decide_eq_true h8, Bool.true_and] at HRR
    cases b1 <;> cases b2 <;>
    (go_enter Tryz.func65, Tryz.ntmps65
     go_wp2_with (first
       | (go_at_call 105; refine (HA.out _ (by (repeat' (first | with_reducible assumption | with_reducible exact Ext.refl _ | with_reducible refine Ext.alloc ?_ _ | with_reducible refine Ext.set ?_ ?_ _ | with_reducible refine Ext.drew ?_ | with_reducible refine Ext.drewN ?_ _ | with_reducible refine Ext.trans ?_ (by assumption) | (dsimp only; omega))))).mono ?_; rintro e w2 ⟨rfl, hE⟩; (first | (have hK := KC.step (n := w.heap.size) (by with_reducible assumption) hE) | (have hK := KC.step (KC.step (n := w.heap.size) (by with_reducible assumption) (ext_alloc1 _ _)) hE) | (have hK := KC.step (KC.refl (n := w.heap.size) (by simp)) hE)); have hC := hK.cell; have hF := hK.fro; have hX := hK.ext)
       | (go_at_call 72; refine (HW.out _ _ _ _).mono ?_; rintro e w2 ⟨rfl, rfl⟩; simp only [h2]))
     go_ret
     exact ⟨ret_int (by rw [← HRR.out]; simp), by (repeat' (first | with_reducible assumption | with_reducible exact Ext.refl _ | with_reducible refine Ext.alloc ?_ _ | with_reducible refine Ext.set ?_ ?_ _ | with_reducible refine Ext.drew ?_ | with_reducible refine Ext.drewN ?_ _ | with_reducible refine Ext.trans ?_ (by assumption) | (dsimp only; omega)))⟩)
  · have h8i : (8 : Int) < (n : Int) := by omega
    rw [decide_eq_false h8, Bool.false_and] at HRR
    go_enter Tryz.func65, Tryz.ntmps65
    go_wp2
    go_ret
    exact ⟨ret_int (by rw [← HRR.out]; simp), by (repeat' (first | with_reducible assumption | with_reducible exact Ext.refl _ | with_reducible refine Ext.alloc ?_ _ | with_reducible refine Ext.set ?_ ?_ _ | with_reducible refine Ext.drew ?_ | with_reducible refine Ext.drewN ?_ _ | with_reducible refine Ext.trans ?_ (by assumption) | (dsimp only; omega)))⟩
def loF (x : Sp) : Int := x.lo
def hiF (x : Sp) : Int := x.hi
def holV (xs : List Sp) (load : Int) : Bool × Bool := if anE xs load true = 0 then (holdB loF load xs, holdB hiF load xs) else (false, false)
theorem anE_ok {xs : List Sp} {load : Int} {told : Bool} (h : anE xs load told = 0) : xs.length ≤ 8 ∧ (∀ x ∈ xs, ptB x = true) ∧ (1 ≤ load ∧ load ≤ 5000) ∧ told = true := by
  unfold anE at h
  by_cases h1 : ptsB xs = true
  · rw [if_pos h1] at h
    by_cases h2 : (inI load 1 5000 && told) = true
    · unfold ptsB at h1
      unfold inI at h2
      simp only [Bool.and_eq_true, decide_eq_true_eq, List.all_eq_true] at h1 h2
      exact ⟨h1.1, h1.2, h2.1, h2.2⟩
    · rw [if_neg h2] at h; cases h
  · rw [if_neg h1] at h; cases h
set_option maxRecDepth 100000 in
set_option maxHeartbeats 2000000 in
theorem pholds_any (xs : List Sp) (load : Int) (A : Option Addr) (n c : Nat) (hn : xs.length = n) (hm : n ≤ 10000) (w : World) (hx : SpsAt w A xs) :
    Calls Tryz.prog 23 #[.slice A n c, .int .i64 load] w fun e w' => e = .returned (.tuple #[.bool (holV xs load).1, .bool (holV xs load).2, .int .i64 (anE xs load true)]) ∧ Ext w w' := by
  have HC := hid (fun (W : World) (hE : Ext w W) => checkAnchor_any xs load A n c hn hm W (hx.ext hE))
  by_cases h0 : anE xs load true = 0
  · obtain ⟨h8, hp, -, -⟩ := anE_ok h0
    have hv : holV xs load = (holdB loF load xs, holdB hiF load xs) := by unfold holV; rw [if_pos h0]
    have HL := hid (fun (W : World) (hE : Ext w W) => holds_any 67 loF (fun _ _ => by kernel_rfl) (fun x W => low_any x W) xs (fun x h => (pt_bd (hp x h)).1) load A n c hn (by omega) W (hx.ext hE))
    have HH := hid (fun (W : World) (hE : Ext w W) => holds_any 68 hiF (fun _ _ => by kernel_rfl) (fun x W => high_any x W) xs (fun x h => (pt_bd (hp x h)).2) load A n c hn (by omega) W (hx.ext hE))
    rw [hv, h0]
    rw [h0] at HC
    clear hx hn hv h0 h8 hp
    generalize holdB loF load xs = b1 at *
    generalize holdB hiF load xs = b2 at *
    go_enter Tryz.func23, Tryz.ntmps23
    go_wp2_with fail
    refine Calls.mono (HC.out _ (Ext.refl _)) ?_
    rintro e w2 ⟨rfl, hE⟩
    go_wp2_with fail
    refine Calls.mono (HL.out _ hE) ?_
    rintro e w3 ⟨rfl, hE3⟩
    go_wp2_with fail
    refine Calls.mono (HH.out _ (hE.trans hE3)) ?_
    rintro e w4 ⟨rfl, hE4⟩
    go_wp2
    exact bodyPost_ret (v := .tuple #[.bool b1, .bool b2, .int .i64 0]) (by simp [results, Tryz.results23, go_sem]) rfl ⟨rfl, (hE.trans hE3).trans hE4⟩
  · have hv : holV xs load = (false, false) := by unfold holV; rw [if_neg h0]
    rw [hv]
    clear hx hn hv
    have hne : (anE xs load true != 0) = true := by simp [h0]
    generalize anE xs load true = E at *
    go_enter Tryz.func23, Tryz.ntmps23
    go_wp2_with fail
    refine Calls.mono (HC.out _ (Ext.refl _)) ?_
    rintro e w2 ⟨rfl, hE⟩
    go_wp2
    exact bodyPost_ret (v := .tuple #[.bool false, .bool false, .int .i64 E]) (by simp [results, Tryz.results23, go_sem]) rfl ⟨rfl, hE⟩
end Go.Proofs.YtggggnjibedgaaaGreat
/- members and sooner of the specification. -/
set_option linter.unusedSimpArgs false
set_option linter.unusedVariables false
namespace Go.Proofs.YtggggnjibedgaaaGreat
open Go.RowKit
theorem shr_all : ((List.range 256).all fun x => (List.range 9).all fun i => (x >>> i == 0) == decide (lenN x ≤ i)) = true := by decide +kernel
theorem shr_zero {x i : Nat} (h : x < 256) (hi : i ≤ 8) : (x >>> i == 0) = decide (lenN x ≤ i) :=
  eq_of_beq (List.all_eq_true.1 (List.all_eq_true.1 shr_all x (List.mem_range.2 h)) i (List.mem_range.2 (by omega)))
def memL (x : Nat) : List Int := (elemsL 8 x).map fun (i : Nat) => (i : Int)
set_option maxRecDepth 100000 in
set_option maxHeartbeats 4000000 in
theorem rmembers_any (x : Nat) (hx : x < 256) (w : World) :
    Calls Tryz.prog 77 #[.int .i64 x] w fun e w' => ∃ A c, e = .returned (.slice A (memL x).length c) ∧ IntsAt w' A (memL x) ∧ Ext w w' := by
  have HSH := hid (fun i (hi : i ≤ 8) => shr_zero hx hi)
  have HDV := hid (fun i : Nat => show (x : Int) / 2 ^ i = ((x >>> i : Nat) : Int) by rw [Nat.shiftRight_eq_div_pow]; simp)
  have HON := hid (fun i : Nat => show (bits BinOp.and IntKind.i64 ((x >>> i : Nat) : Int) 1 == 1) = hasB x i from one_at (by rw [Nat.shiftRight_eq_div_pow]; exact Nat.lt_of_le_of_lt (Nat.div_le_self _ _) hx))
  have HS := hid (fun k => numK_succ x k)
  have HK := hid (fun k => numK_len x k)
  have H0 := hid (show numK x 0 = [] from rfl)
  have h8 := lenN_le x
  have HEN := hid (show memL x = numK x (lenN x) from (numK_end hx).symm)
  clear hx
  rw [HEN.out]
  generalize numK x = NK at *
  generalize lenN x = n at *
  generalize hasB x = hb at *
  generalize hSF : (fun i => x >>> i) = SF at *
  have hSe : ∀ i, x >>> i = SF i := fun i => by rw [← hSF]
  simp only [hSe] at HSH HDV HON
  clear hSF hSe HEN
  go_enter Tryz.func77, Tryz.ntmps77
  go_wp2
  go_loopw [3, 4] (fun v i wr => Ext w wr ∧ ∃ (k : Nat) (A : Option Addr) (c : Nat), k ≤ n ∧ i = .int .i64 k ∧ v = .slice A (NK k).length c ∧ Hid (Ownl 3 1 gIn wr w.heap.size (.slice A (NK k).length c) (NK k))) (fun _ i _ => n - (intOf i).toNat)
  case atStart => exact ⟨by (repeat' (first | with_reducible assumption | with_reducible exact Ext.refl _ | with_reducible refine Ext.alloc ?_ _ | with_reducible refine Ext.set ?_ ?_ _ | with_reducible refine Ext.drew ?_ | with_reducible refine Ext.drewN ?_ _ | with_reducible refine Ext.trans ?_ (by assumption) | (dsimp only; omega))), 0, none, 0, Nat.zero_le _, rfl, by rw [H0.out]; rfl, hid (by rw [H0.out]; exact Ownl.nil _ _)⟩
  case round =>
    obtain ⟨hE, k, A2, c2, hk, rfl, rfl, HV⟩ := hrel
    have hu : IntKind.u64.wrap (k : Int) = (k : Int) := by rw [IntKind.wrap_u64]; omega
    have hd := HDV.out k
    have hsh := HSH.out k (by omega)
    have hon := HON.out k
    have HST := hid (HS.out k)
    have hkl := HK.out k
    clear HDV HSH HON HS HK H0
    generalize SF k = y at *
    generalize hb k = bk at *
    have hwr : w.heap.size ≤ wr.heap.size := hE.size
    by_cases hlt : k < n
    · have hy0 : ((y : Int) != 0) = true := by
        have : (y == 0) = false := by rw [hsh]; exact decide_eq_false (by omega)
        simp at this ⊢
        omega
      clear hsh
      cases bk
      · rw [if_neg (by decide)] at HST
        go_wp2_with (first | simp only [hu] | simp only [hd])
        go_roundw
        case rel => exact ⟨hE, k + 1, A2, c2, by omega, by go_num, by rw [HST.out], hid (by rw [HST.out]; exact HV.out)⟩
        case measure => simp [intOf]; omega
      · rw [if_pos rfl] at HST
        generalize NK k = acc at *
        go_wp2_with (first | (at_builtin; refine Halt.mk ?_) | simp only [hu] | simp only [hd])
        unfold Halt
        have BN := hid (show Blk (wr.alloc (.cells #[.int .i64 (k : Int)] 3)) wr.heap.size 3 #[.int .i64 (k : Int)] from blk_last _ _)
        refine wpList_app1In _ rfl _ _ rfl w.heap.size (.slice A2 acc.length c2) acc rfl (HV.out.ext (ext_alloc1 _ _)) wr.heap.size (k : Int) rfl BN.out (by omega) (by simp; omega) ?_
        intro v4 w4 hO hg _
        have E4 := hid (HV.out.extApp hE (Nat.le_refl _) hg)
        obtain ⟨A4, c4, rfl, -, -⟩ := ownIn hO
        have V4 := hid hO
        clear hO hg HV BN
        go_wp2
        go_roundw
        case rel => exact ⟨E4.out, k + 1, A4, c4, by omega, by go_num, by rw [HST.out]; first | rfl | simp, hid (by rw [HST.out]; exact V4.out)⟩
        case measure => simp [intOf]; omega
    · obtain rfl : k = n := by omega
      have hy0 : ((y : Int) != 0) = false := by
        have : (y == 0) = true := by rw [hsh]; exact decide_eq_true (by omega)
        simp at this ⊢
        omega
      clear hsh
      go_wp2_with (first | simp only [hu] | simp only [hd])
      obtain ⟨A3, c3, e3, -, h3⟩ := ownIn HV.out
      go_ret
      exact ⟨A2, c2, rfl, by cases e3; exact h3, hE⟩
def soonL (xs ys : List Int) : Bool := if xs.length = ys.length then (match (List.range xs.length).find? fun i => !(xs.getD i 0 == ys.getD i 0) with | some i => decide (xs.getD i 0 < ys.getD i 0) | none => false) else decide (xs.length < ys.length)
theorem soon_all : ((List.range 256).all fun s => (List.range 256).all fun t => soonL (memL s) (memL t) == befB s t) = true := by decide +kernel
theorem soon_bef {s t : Nat} (hs : s < 256) (ht : t < 256) : soonL (memL s) (memL t) = befB s t :=
  eq_of_beq (List.all_eq_true.1 (List.all_eq_true.1 soon_all s (List.mem_range.2 hs)) t (List.mem_range.2 ht))
end Go.Proofs.YtggggnjibedgaaaGreat
/- The program's Spare and Choose. -/
set_option linter.unusedSimpArgs false
set_option linter.unusedVariables false
namespace Go.Proofs.YtggggnjibedgaaaGreat
open Go.RowKit
def sprF (load : Int) (xs : List Sp) (s : Nat) : Bool := !holdB loF load (othL zeroSp xs s)
def sprI (load : Int) (xs : List Sp) : Int := ((pcN ((fewN (sprF load xs) (2 ^ xs.length)).getD 0) : Nat) : Int) - 1
theorem othSp_mem {xs : List Sp} {s : Nat} {p : Sp} (h : p ∈ othL zeroSp xs s) : p ∈ xs := by
  unfold othL othersL at h
  obtain ⟨i, hi, rfl⟩ := List.mem_map.1 h
  exact mem_at xs zeroSp i (List.mem_range.1 (List.mem_filter.1 hi).1)
theorem choSp_mem {xs : List Sp} {s : Nat} {p : Sp} (h : p ∈ choL zeroSp xs s) : p ∈ xs := by
  unfold choL elemsL at h
  obtain ⟨i, hi, rfl⟩ := List.mem_map.1 h
  exact mem_at xs zeroSp i (List.mem_range.1 (List.mem_filter.1 hi).1)
theorem othSp_len (xs : List Sp) (s : Nat) : (othL zeroSp xs s).length ≤ xs.length := by
  unfold othL othersL
  rw [List.length_map]
  exact Nat.le_trans (List.length_filter_le _ _) (by simp)
theorem choSp_len (xs : List Sp) (s : Nat) : (choL zeroSp xs s).length ≤ xs.length := by
  unfold choL elemsL
  rw [List.length_map]
  exact Nat.le_trans (List.length_filter_le _ _) (by simp)
theorem few_lt256 (P : Nat → Bool) {n : Nat} (h : n ≤ 8) : (fewN P (2 ^ n)).getD 0 < 256 := by
  cases hh : fewN P (2 ^ n) with
  | none => simp
  | some b =>
    have h1 := fewN_lt _ _ _ hh
    have h2 : 2 ^ n ≤ 2 ^ 8 := Nat.pow_le_pow_right (by decide) h
    simp; omega
theorem pc_elems2 : ((List.range 256).all fun b => (elemsL 8 b).length == pcN b) = true := by decide +kernel
theorem elems_len2 (x : Nat) : (elemsL 8 x).length ≤ 8 := by
  unfold elemsL
  exact Nat.le_trans (List.length_filter_le _ _) (by simp)
set_option maxHeartbeats 1000000 in
theorem spare1_any (xs : List Sp) (hp : ∀ x ∈ xs, ptB x = true) (load : Int) (V : Value) (A : Option Addr) (c : Nat) (hm : xs.length ≤ 1000) (q : Nat) (w : World) (hx : SpsAt w A xs)
    (z1 : q < w.heap.size) (c1 : w.cell? ⟨q, 0, none⟩ = some (.int .i64 load)) :
    Calls Tryz.prog 108 #[V, .slice A xs.length c, .pointer (some ⟨q, 0, none⟩)] w fun e w' => e = .returned (.bool (!holdB loF load xs)) ∧ Ext w w' := by
  have HL := hid (holds_any 67 loF (fun _ _ => by kernel_rfl) (fun x W => low_any x W) xs (fun x h => (pt_bd (hp x h)).1) load A xs.length c rfl hm w hx)
  clear hx hp
  generalize holdB loF load xs = b at *
  generalize xs.length = n at *
  go_enter Tryz.func108, Tryz.ntmps108
  go_wp2_with fail
  refine Calls.mono HL.out ?_
  rintro e w2 ⟨rfl, hE⟩
  go_wp2
  go_ret
  exact ⟨rfl, hE⟩
set_option maxRecDepth 100000 in
set_option maxHeartbeats 4000000 in
theorem spareOf_any (xs : List Sp) (hp : ∀ x ∈ xs, ptB x = true) (load : Int) (A : Option Addr) (n c : Nat) (hn : xs.length = n) (hm : n ≤ 8) (w : World) (hx : SpsAt w A xs) :
    Calls Tryz.prog 70 #[.slice A n c, .int .i64 load] w fun e w' => e = .returned (.int .i64 (sprI load xs)) ∧ Ext w w' := by
  have HF := hid (fun (W : World) (hE : Ext w W) (z1 : w.heap.size < W.heap.size) (c1 : W.cell? ⟨w.heap.size, 0, none⟩ = some (.int .i64 load)) =>
    fewestSp_any 108 #[.pointer (some ⟨w.heap.size, 0, none⟩)] (fun _ _ => by kernel_rfl) xs (sprF load xs) A n c hn hm W (hx.ext hE)
      (fun s A1 c1' A2 c2' W' _ hE' _ h2 _ l2 => spare1_any (othL zeroSp xs s) (fun x h => hp x (othSp_mem h)) load _ A2 c2' (by have := othSp_len xs s; omega) w.heap.size W' h2
        (Nat.lt_of_lt_of_le z1 hE'.size) ((hE'.cell (p := ⟨w.heap.size, 0, none⟩) z1).trans c1)))
  have HQ := hid (fun W => size_any ((fewN (sprF load xs) (2 ^ n)).getD 0) (few_lt256 _ hm) W)
  have hv : sprI load xs = ((pcN ((fewN (sprF load xs) (2 ^ n)).getD 0) : Nat) : Int) - 1 := by unfold sprI; rw [hn]
  have hb : pcN ((fewN (sprF load xs) (2 ^ n)).getD 0) ≤ 8 := by
    have h := few_lt256 (sprF load xs) hm
    generalize (fewN (sprF load xs) (2 ^ n)).getD 0 = b at *
    have h2 := eq_of_beq (List.all_eq_true.1 pc_elems2 b (List.mem_range.2 h))
    have h3 := elems_len2 b
    omega
  rw [hv]
  clear hx hn hp hv
  generalize (fewN (sprF load xs) (2 ^ n)).getD 0 = b at *
  generalize (fewN (sprF load xs) (2 ^ n)).isSome = t at *
  generalize pcN b = d at *
  have hw1 : IntKind.i64.wrap ((d : Int) - 1) = (d : Int) - 1 := IntWalk.i64_in _ (by omega)
  go_enter Tryz.func70, Tryz.ntmps70
  go_wp2_with (first
    | (go_at_call 73; refine (HF.out _ (by (repeat' (first | with_reducible assumption | with_reducible exact Ext.refl _ | with_reducible refine Ext.alloc ?_ _ | with_reducible refine Ext.set ?_ ?_ _ | with_reducible refine Ext.drew ?_ | with_reducible refine Ext.drewN ?_ _ | with_reducible refine Ext.trans ?_ (by assumption) | (dsimp only; omega)))) (by simp) (by go_simp)).mono ?_; rintro e w2 ⟨rfl, hE⟩; (first | (have hK := KC.step (n := w.heap.size + 1) (by with_reducible assumption) hE) | (have hK := KC.step (KC.step (n := w.heap.size + 1) (by with_reducible assumption) (ext_alloc1 _ _)) hE) | (have hK := KC.step (KC.refl (n := w.heap.size + 1) (by simp)) hE)); have hC := hK.cell; have hF := hK.fro; have hX := hK.ext)
    | (go_at_call 109; refine (HQ.out _).mono ?_; rintro e w9 ⟨rfl, hsm⟩; obtain rfl := hsm.symm))
  go_ret
  exact ⟨ret_int (by first | rfl | (simp; done) | omega), by (repeat' (first | with_reducible assumption | with_reducible exact Ext.refl _ | with_reducible refine Ext.alloc ?_ _ | with_reducible refine Ext.set ?_ ?_ _ | with_reducible refine Ext.drew ?_ | with_reducible refine Ext.drewN ?_ _ | with_reducible refine Ext.trans ?_ (by assumption) | (dsimp only; omega)))⟩
end Go.Proofs.YtggggnjibedgaaaGreat
