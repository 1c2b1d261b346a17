/- The example of the chapter: a forecast. -/
import Derived.Test.YtecamnhnjmldcaaGreatDoorB19
set_option linter.unusedSimpArgs false
set_option linter.unusedVariables false
namespace Go.Proofs.YtecamnhnjmldcaaGreatDoor
open Go.RowKit
def exH (a b : Int) : Hr := ⟨a, b, 0, 0, 0, 10⟩
def exF : List (List Hr) := [[exH 10 20, exH 10 20, exH 10 20, exH 10 20, exH 30 60, exH 30 60], [exH 15 45, exH 15 45, exH 10 20, exH 10 20, exH 10 20, exH 10 20]]
def exL : Lm := ⟨40, 0, -5, 15⟩
def exR : Rl := ⟨1, 1, exL⟩
set_option maxHeartbeats 1000000 in
theorem hour_any (a b : Int) (w : World) :
    Calls Tryz.prog 81 #[.int .i64 a, .int .i64 b] w fun e w' => e = .returned (exH a b).val ∧ Ext w w' := by
  unfold exH Hr.val
  dsimp only
  have t0 := blk_last w (.cells #[.int .i64 0, .int .i64 0, .int .i64 0, .int .i64 0, .int .i64 0, .int .i64 0] 143)
  go_enter Tryz.func81, Tryz.ntmps81
  go_wp2_with fail
  refine Calls.mono (lspan_any _ _ _) ?_
  rintro e w1 ⟨rfl, E1⟩
  dsimp only
  go_wp2_with fail
  refine Calls.mono (lspan_any _ _ _) ?_
  rintro e w2 ⟨rfl, E2⟩
  dsimp only
  have B := hid (show Blk _ _ _ _ from blk_ext t0 (E1.trans E2))
  have EW : Ext w w2 := (ext_alloc1 _ _).trans (E1.trans E2)
  have HO := hid (one_of (vs := [.int .i64 a, .int .i64 b, .int .i64 0, .int .i64 0, .int .i64 0, .int .i64 10]) (by intro v hv; simp only [List.mem_cons, List.not_mem_nil, or_false] at hv; rcases hv with rfl | rfl | rfl | rfl | rfl | rfl <;> rfl))
  clear t0 E1 E2
  obtain ⟨q0, q1, q2, q3, q4, q5⟩ : _ ∧ _ ∧ _ ∧ _ ∧ _ ∧ _ := ⟨B.out.cell 0, B.out.cell 1, B.out.cell 2, B.out.cell 3, B.out.cell 4, B.out.cell 5⟩
  obtain ⟨p0, p1, p2, p3, p4, p5⟩ : _ ∧ _ ∧ _ ∧ _ ∧ _ ∧ _ := ⟨B.out.fro 0, B.out.fro 1, B.out.fro 2, B.out.fro 3, B.out.fro 4, B.out.fro 5⟩
  have z0 := B.out.lt
  simp only [List.getElem?_toArray, List.getElem?_cons_zero, List.getElem?_cons_succ] at q0 q1 q2 q3 q4 q5
  have R := hid (B.out.fill [.int .i64 a, .int .i64 b, .int .i64 0, .int .i64 0, .int .i64 0, .int .i64 10] 0)
  have RX := hid (ext_setCells EW (Nat.le_refl _) [.int .i64 a, .int .i64 b, .int .i64 0, .int .i64 0, .int .i64 0, .int .i64 10] 0)
  simp only [fillA, List.setIfInBounds_toArray, List.set_cons_zero, List.set_cons_succ] at R
  go_wp2
  obtain ⟨Z, hZ⟩ : ∃ Z, ((((((w2.setCell ⟨w.heap.size, 0, none⟩ (.int .i64 a)).setCell ⟨w.heap.size, 1, none⟩ (.int .i64 b)).setCell ⟨w.heap.size, 2, none⟩ (.int .i64 0)).setCell ⟨w.heap.size, 3, none⟩ (.int .i64 0)).setCell ⟨w.heap.size, 4, none⟩ (.int .i64 0)).setCell ⟨w.heap.size, 5, none⟩ (.int .i64 10)) = Z := ⟨_, rfl⟩
  have hZ2 : w2.setCells w.heap.size 0 [.int .i64 a, .int .i64 b, .int .i64 0, .int .i64 0, .int .i64 0, .int .i64 10] = Z := hZ
  rw [hZ2] at R RX
  rw [hZ]
  clear hZ hZ2
  obtain ⟨r0, r1, r2, r3, r4, r5⟩ : _ ∧ _ ∧ _ ∧ _ ∧ _ ∧ _ := ⟨R.out.cell 0, R.out.cell 1, R.out.cell 2, R.out.cell 3, R.out.cell 4, R.out.cell 5⟩
  simp only [List.getElem?_toArray, List.getElem?_cons_zero, List.getElem?_cons_succ] at r0 r1 r2 r3 r4 r5
  exact bodyPost_ret (v := .agg #[.int .i64 a, .int .i64 b, .int .i64 0, .int .i64 0, .int .i64 0, .int .i64 10]) (by simp [results, Tryz.results81, go_sem, r0, r1, r2, r3, r4, r5]) rfl ⟨rfl, RX.out⟩
theorem three_blk (w : World) (o1 o2 o3 : Obj) : (((w.alloc o1).alloc o2).alloc o3).heap[w.heap.size]? = some o1 ∧ (((w.alloc o1).alloc o2).alloc o3).heap[w.heap.size + 1]? = some o2 ∧ (((w.alloc o1).alloc o2).alloc o3).heap[w.heap.size + 1 + 1]? = some o3 := by
  refine ⟨blk_old (blk_old (blk_last w o1) o2) o3, ?_, ?_⟩
  · have := blk_last (w.alloc o1) o2
    rw [World.size_alloc] at this
    exact blk_old this o3
  · have := blk_last ((w.alloc o1).alloc o2) o3
    rw [World.size_alloc, World.size_alloc] at this
    exact this
theorem absP {W X : World} (EX : Ext W X) : ∃ p, X.heap.size = p ∧ W.heap.size ≤ p := ⟨_, rfl, EX.size⟩
theorem ex_b3 {W X : World} {b1 b2 : Nat} {t1 t2 : TypeId} {c1 c2 : Array Value} (EX : Ext W X) (h1 : Hid (Blk X b1 t1 c1)) (h2 : Hid (Blk X b2 t2 c2)) :
    ∃ Y, X.alloc (.cells #[.slice (some ⟨b1, 0, none⟩) 6 6, .slice (some ⟨b2, 0, none⟩) 6 6] 92) = Y ∧ Hid (Blk Y X.heap.size 92 #[.slice (some ⟨b1, 0, none⟩) 6 6, .slice (some ⟨b2, 0, none⟩) 6 6]) ∧ Hid (Blk Y b1 t1 c1) ∧ Hid (Blk Y b2 t2 c2) ∧ Ext W Y :=
  ⟨_, rfl, blk_last X _, h1.out.alloc _, h2.out.alloc _, EX.alloc _⟩
/-- The forecast of the example lies in memory. -/
theorem exF_at {Z : World} {b1 b2 b3 : Nat} (h3 : Blk Z b3 92 #[.slice (some ⟨b1, 0, none⟩) 6 6, .slice (some ⟨b2, 0, none⟩) 6 6])
    (h1 : Blk Z b1 143 #[.int .i64 10, .int .i64 20, .int .i64 0, .int .i64 0, .int .i64 0, .int .i64 10, .int .i64 10, .int .i64 20, .int .i64 0, .int .i64 0, .int .i64 0, .int .i64 10, .int .i64 10, .int .i64 20, .int .i64 0, .int .i64 0, .int .i64 0, .int .i64 10, .int .i64 10, .int .i64 20, .int .i64 0, .int .i64 0, .int .i64 0, .int .i64 10, .int .i64 30, .int .i64 60, .int .i64 0, .int .i64 0, .int .i64 0, .int .i64 10, .int .i64 30, .int .i64 60, .int .i64 0, .int .i64 0, .int .i64 0, .int .i64 10])
    (h2 : Blk Z b2 143 #[.int .i64 15, .int .i64 45, .int .i64 0, .int .i64 0, .int .i64 0, .int .i64 10, .int .i64 15, .int .i64 45, .int .i64 0, .int .i64 0, .int .i64 0, .int .i64 10, .int .i64 10, .int .i64 20, .int .i64 0, .int .i64 0, .int .i64 0, .int .i64 10, .int .i64 10, .int .i64 20, .int .i64 0, .int .i64 0, .int .i64 0, .int .i64 10, .int .i64 10, .int .i64 20, .int .i64 0, .int .i64 0, .int .i64 0, .int .i64 10, .int .i64 10, .int .i64 20, .int .i64 0, .int .i64 0, .int .i64 0, .int .i64 10]) : ScsAt Z (some ⟨b3, 0, none⟩) exF := fun _ => by
  have H1 : HrsAt Z (some ⟨b1, 0, none⟩) (exF.getD 0 []) := fun _ => ⟨b1, 0, rfl, h1.lt, fun k hk => by
    have hk6 : k = 0 ∨ k = 1 ∨ k = 2 ∨ k = 3 ∨ k = 4 ∨ k = 5 := by simp [exF] at hk; omega
    rcases hk6 with rfl | rfl | rfl | rfl | rfl | rfl
    · exact ⟨h1.cell 0, h1.cell 1, h1.cell 2, h1.cell 3, h1.cell 4, h1.cell 5⟩
    · exact ⟨h1.cell 6, h1.cell 7, h1.cell 8, h1.cell 9, h1.cell 10, h1.cell 11⟩
    · exact ⟨h1.cell 12, h1.cell 13, h1.cell 14, h1.cell 15, h1.cell 16, h1.cell 17⟩
    · exact ⟨h1.cell 18, h1.cell 19, h1.cell 20, h1.cell 21, h1.cell 22, h1.cell 23⟩
    · exact ⟨h1.cell 24, h1.cell 25, h1.cell 26, h1.cell 27, h1.cell 28, h1.cell 29⟩
    · exact ⟨h1.cell 30, h1.cell 31, h1.cell 32, h1.cell 33, h1.cell 34, h1.cell 35⟩⟩
  have H2 : HrsAt Z (some ⟨b2, 0, none⟩) (exF.getD 1 []) := fun _ => ⟨b2, 0, rfl, h2.lt, fun k hk => by
    have hk6 : k = 0 ∨ k = 1 ∨ k = 2 ∨ k = 3 ∨ k = 4 ∨ k = 5 := by simp [exF] at hk; omega
    rcases hk6 with rfl | rfl | rfl | rfl | rfl | rfl
    · exact ⟨h2.cell 0, h2.cell 1, h2.cell 2, h2.cell 3, h2.cell 4, h2.cell 5⟩
    · exact ⟨h2.cell 6, h2.cell 7, h2.cell 8, h2.cell 9, h2.cell 10, h2.cell 11⟩
    · exact ⟨h2.cell 12, h2.cell 13, h2.cell 14, h2.cell 15, h2.cell 16, h2.cell 17⟩
    · exact ⟨h2.cell 18, h2.cell 19, h2.cell 20, h2.cell 21, h2.cell 22, h2.cell 23⟩
    · exact ⟨h2.cell 24, h2.cell 25, h2.cell 26, h2.cell 27, h2.cell 28, h2.cell 29⟩
    · exact ⟨h2.cell 30, h2.cell 31, h2.cell 32, h2.cell 33, h2.cell 34, h2.cell 35⟩⟩
  refine ⟨b3, 0, rfl, h3.lt, fun k hk => ?_⟩
  have hk2 : k = 0 ∨ k = 1 := by simp [exF] at hk; omega
  rcases hk2 with rfl | rfl
  · exact ⟨some ⟨b1, 0, none⟩, 6, h3.cell 0, by decide, H1⟩
  · exact ⟨some ⟨b2, 0, none⟩, 6, h3.cell 1, by decide, H2⟩
structure ExP (w W Y : World) (q b1 b2 b3 : Nat) : Prop where
  ext : Ext w Y
  lim : ∀ o, Y.cell? ⟨q, o, none⟩ = W.cell? ⟨q, o, none⟩
  h3 : Blk Y b3 92 #[.slice (some ⟨b1, 0, none⟩) 6 6, .slice (some ⟨b2, 0, none⟩) 6 6]
  h1 : Blk Y b1 143 #[.int .i64 10, .int .i64 20, .int .i64 0, .int .i64 0, .int .i64 0, .int .i64 10, .int .i64 10, .int .i64 20, .int .i64 0, .int .i64 0, .int .i64 0, .int .i64 10, .int .i64 10, .int .i64 20, .int .i64 0, .int .i64 0, .int .i64 0, .int .i64 10, .int .i64 10, .int .i64 20, .int .i64 0, .int .i64 0, .int .i64 0, .int .i64 10, .int .i64 30, .int .i64 60, .int .i64 0, .int .i64 0, .int .i64 0, .int .i64 10, .int .i64 30, .int .i64 60, .int .i64 0, .int .i64 0, .int .i64 0, .int .i64 10]
  h2 : Blk Y b2 143 #[.int .i64 15, .int .i64 45, .int .i64 0, .int .i64 0, .int .i64 0, .int .i64 10, .int .i64 15, .int .i64 45, .int .i64 0, .int .i64 0, .int .i64 0, .int .i64 10, .int .i64 10, .int .i64 20, .int .i64 0, .int .i64 0, .int .i64 0, .int .i64 10, .int .i64 10, .int .i64 20, .int .i64 0, .int .i64 0, .int .i64 0, .int .i64 10, .int .i64 10, .int .i64 20, .int .i64 0, .int .i64 0, .int .i64 0, .int .i64 10, .int .i64 10, .int .i64 20, .int .i64 0, .int .i64 0, .int .i64 0, .int .i64 10]
  n1 : w.heap.size + 2 < b1
  n2 : w.heap.size + 2 < b2
  n3 : w.heap.size + 2 < b3
  nq : w.heap.size + 2 < q
  lq : q < Y.heap.size
theorem ExP.set {w W Y : World} {q b1 b2 b3 : Nat} (h : ExP w W Y q b1 b2 b3) (b : Nat) (hb : w.heap.size ≤ b) (hb2 : b ≤ w.heap.size + 2) (vs : List Value) : ExP w W (Y.setCells b 0 vs) q b1 b2 b3 := by
  have hg := grown_setCells (w := Y) (b := b) vs 0
  have m1 := h.n1
  have m2 := h.n2
  have m3 := h.n3
  have mq := h.nq
  exact ⟨ext_setCells h.ext hb vs 0, fun o => (grown_cell hg h.lq (by simp; omega)).trans (h.lim o), h.h3.grown hg (by simp; omega), h.h1.grown hg (by simp; omega), h.h2.grown hg (by simp; omega), m1, m2, m3, mq, Nat.lt_of_lt_of_le h.lq hg.size⟩
theorem infoFc : (Tryz.prog.info? 24).map (·.size) = some 1 := by kernel_rfl
theorem infoLi : (Tryz.prog.info? 29).map (·.size) = some 4 := by kernel_rfl
theorem infoRu : (Tryz.prog.info? 79).map (·.size) = some 6 := by kernel_rfl
set_option maxHeartbeats 16000000 in
set_option maxRecDepth 100000 in
theorem lexample_any (w : World) :
    Calls Tryz.prog 36 #[] w fun e w' => ∃ A c, e = .returned (.tuple #[.agg #[.slice A 2 c], exL.val, exR.val]) ∧ ScsAt w' A exF ∧ Ext w w' := by
  have HHC := hid hour_any
  unfold exH Hr.val at HHC
  dsimp only at HHC
  have x := three_blk w (.cells #[.slice none 0 0] 24) (.cells #[.int .i64 0, .int .i64 0, .int .i64 0, .int .i64 0] 29) (.cells #[.int .i64 0, .int .i64 0, .int .i64 0, .int .i64 0, .int .i64 0, .int .i64 0] 79)
  go_enter Tryz.func36, Tryz.ntmps36
  go_wp2_with fail
  refine Calls.mono (lspan_any _ _ _) ?_
  rintro e w1 ⟨rfl, E1⟩
  dsimp only
  have R0 := hid (show Blk _ _ _ _ from blk_ext x.1 E1)
  have R1 := hid (show Blk _ _ _ _ from blk_ext x.2.1 E1)
  have R2 := hid (show Blk _ _ _ _ from blk_ext x.2.2 E1)
  have EW : Ext w w1 := ((ext_alloc1 _ _).trans (ext_alloc1 _ _)).trans ((ext_alloc1 _ _).trans E1)
  clear x E1
  go_wp2_with fail
  have B4 := blk_last w1 (.cells #[.int .i64 40, .int .i64 0, .int .i64 (-5), .int .i64 15] 29)
  have E4 := ext_alloc1 w1 (.cells #[.int .i64 40, .int .i64 0, .int .i64 (-5), .int .i64 15] 29)
  obtain ⟨W, hW⟩ : ∃ W, w1.alloc (.cells #[.int .i64 40, .int .i64 0, .int .i64 (-5), .int .i64 15] 29) = W := ⟨_, rfl⟩
  rw [hW] at B4 E4 ⊢
  clear hW
  have l0 := blk_cell B4 0
  have l1 := blk_cell B4 1
  have l2 := blk_cell B4 2
  have l3 := blk_cell B4 3
  have lz : w1.heap.size < W.heap.size := (Array.getElem?_eq_some_iff.1 B4).1
  simp only [List.getElem?_toArray, List.getElem?_cons_zero, List.getElem?_cons_succ] at l0 l1 l2 l3
  have S0 := hid (show Blk _ _ _ _ from R0.out.ext E4)
  have S1 := hid (show Blk _ _ _ _ from R1.out.ext E4)
  have S2 := hid (show Blk _ _ _ _ from R2.out.ext E4)
  have HEW := hid (EW.trans E4)
  have s1z := S2.out.lt
  have w1z := R2.out.lt
  clear R0 R1 R2 B4
  refine wp_region_held_drew (S := fun w' => ∀ o, w'.cell? ⟨w1.heap.size, o, none⟩ = W.cell? ⟨w1.heap.size, o, none⟩) (by kernel_rfl) ?hS0 (fun hHeld => ?_)
  case hS0 => exact fun _ => rfl
  have EX : Ext W W.drew := Ext.drew (Ext.refl W)
  obtain ⟨X, hX⟩ : ∃ X, W.drew = X := ⟨_, rfl⟩
  rw [hX] at EX hHeld ⊢
  clear hX
  refine tk1 (i := 0) (v := ?v0a) rfl ?y0a ?r0a
  case y0a => (intro w' hSw; (try dsimp only at hSw); go_simp; (try with_reducible rfl))
  try simp only [Act.put, sq1, sq2, sq3, sq4, sq5, sq6]
  refine tk1 (i := 2) (v := ?v2a) rfl ?y2a ?r2a
  case y2a => (intro w' hSw; (try dsimp only at hSw); go_simp; (try with_reducible rfl))
  try simp only [Act.put, sq1, sq2, sq3, sq4, sq5, sq6]
  refine tk1 (i := 4) (v := ?v4a) rfl ?y4a ?r4a
  case y4a => (intro w' hSw; (try dsimp only at hSw); go_simp; (try with_reducible rfl))
  try simp only [Act.put, sq1, sq2, sq3, sq4, sq5, sq6]
  refine tk1 (i := 6) (v := ?v6a) rfl ?y6a ?r6a
  case y6a => (intro w' hSw; (try dsimp only at hSw); go_simp; (try with_reducible rfl))
  try simp only [Act.put, sq1, sq2, sq3, sq4, sq5, sq6]
  refine tk1 (i := 8) (v := ?v8a) rfl ?y8a ?r8a
  case y8a => (intro w' hSw; (try dsimp only at hSw); go_simp; (try with_reducible rfl))
  try simp only [Act.put, sq1, sq2, sq3, sq4, sq5, sq6]
  refine tk1 (i := 10) (v := ?v10a) rfl ?y10a ?r10a
  case y10a => (intro w' hSw; (try dsimp only at hSw); go_simp; (try with_reducible rfl))
  try simp only [Act.put, sq1, sq2, sq3, sq4, sq5, sq6]
  refine tk1 (i := 14) (v := ?v14a) rfl ?y14a ?r14a
  case y14a => (intro w' hSw; (try dsimp only at hSw); go_simp; (try with_reducible rfl))
  try simp only [Act.put, sq1, sq2, sq3, sq4, sq5, sq6]
  refine tk1 (i := 16) (v := ?v16a) rfl ?y16a ?r16a
  case y16a => (intro w' hSw; (try dsimp only at hSw); go_simp; (try with_reducible rfl))
  try simp only [Act.put, sq1, sq2, sq3, sq4, sq5, sq6]
  refine tk1 (i := 18) (v := ?v18a) rfl ?y18a ?r18a
  case y18a => (intro w' hSw; (try dsimp only at hSw); go_simp; (try with_reducible rfl))
  try simp only [Act.put, sq1, sq2, sq3, sq4, sq5, sq6]
  refine tk1 (i := 20) (v := ?v20a) rfl ?y20a ?r20a
  case y20a => (intro w' hSw; (try dsimp only at hSw); go_simp; (try with_reducible rfl))
  try simp only [Act.put, sq1, sq2, sq3, sq4, sq5, sq6]
  refine tk1 (i := 22) (v := ?v22a) rfl ?y22a ?r22a
  case y22a => (intro w' hSw; (try dsimp only at hSw); go_simp; (try with_reducible rfl))
  try simp only [Act.put, sq1, sq2, sq3, sq4, sq5, sq6]
  refine tk1 (i := 24) (v := ?v24a) rfl ?y24a ?r24a
  case y24a => (intro w' hSw; (try dsimp only at hSw); go_simp; (try with_reducible rfl))
  try simp only [Act.put, sq1, sq2, sq3, sq4, sq5, sq6]
  refine tk1 (i := 30) (v := ?v30a) rfl ?y30a ?r30a
  case y30a => (intro w' hSw; (try dsimp only at hSw); go_simp; (try with_reducible rfl))
  try simp only [Act.put, sq1, sq2, sq3, sq4, sq5, sq6]
  refine tk1 (i := 31) (v := ?v31a) rfl ?y31a ?r31a
  case y31a => (intro w' hSw; (try dsimp only at hSw); go_simp; (try with_reducible rfl))
  try simp only [Act.put, sq1, sq2, sq3, sq4, sq5, sq6]
  refine tk1 (i := 32) (v := ?v32a) rfl ?y32a ?r32a
  case y32a => (intro w' hSw; (try dsimp only at hSw); go_simp; (try with_reducible rfl))
  try simp only [Act.put, sq1, sq2, sq3, sq4, sq5, sq6]
  refine wpAnyH_ready (rs := [1]) (by kernel_rfl) (by simp) ?_
  refine AllReadyH.cons (o := _) rfl (fun K hK => ?_) AllReadyH.nil
  go_simp
  refine Calls.mono (HHC.out 10 20 _) ?_
  rintro e X ⟨rfl, hEX⟩
  dsimp only
  replace EX := EX.trans hEX
  (try replace HB1 := hid (HB1.out.ext hEX))
  (try replace HB2 := hid (HB2.out.ext hEX))
  clear hHeld hEX
  refine hK.out _ _ (fun o => EX.cell (p := ⟨w1.heap.size, o, none⟩) lz) (fun hHeld => ?_)
  clear hK K
  try simp only [Act.put, sq1, sq2, sq3, sq4, sq5, sq6]
  refine wpAnyH_ready (rs := [3]) (by kernel_rfl) (by simp) ?_
  refine AllReadyH.cons (o := _) rfl (fun K hK => ?_) AllReadyH.nil
  go_simp
  refine Calls.mono (HHC.out 10 20 _) ?_
  rintro e X ⟨rfl, hEX⟩
  dsimp only
  replace EX := EX.trans hEX
  (try replace HB1 := hid (HB1.out.ext hEX))
  (try replace HB2 := hid (HB2.out.ext hEX))
  clear hHeld hEX
  refine hK.out _ _ (fun o => EX.cell (p := ⟨w1.heap.size, o, none⟩) lz) (fun hHeld => ?_)
  clear hK K
  try simp only [Act.put, sq1, sq2, sq3, sq4, sq5, sq6]
  refine wpAnyH_ready (rs := [5]) (by kernel_rfl) (by simp) ?_
  refine AllReadyH.cons (o := _) rfl (fun K hK => ?_) AllReadyH.nil
  go_simp
  refine Calls.mono (HHC.out 10 20 _) ?_
  rintro e X ⟨rfl, hEX⟩
  dsimp only
  replace EX := EX.trans hEX
  (try replace HB1 := hid (HB1.out.ext hEX))
  (try replace HB2 := hid (HB2.out.ext hEX))
  clear hHeld hEX
  refine hK.out _ _ (fun o => EX.cell (p := ⟨w1.heap.size, o, none⟩) lz) (fun hHeld => ?_)
  clear hK K
  try simp only [Act.put, sq1, sq2, sq3, sq4, sq5, sq6]
  refine wpAnyH_ready (rs := [7]) (by kernel_rfl) (by simp) ?_
  refine AllReadyH.cons (o := _) rfl (fun K hK => ?_) AllReadyH.nil
  go_simp
  refine Calls.mono (HHC.out 10 20 _) ?_
  rintro e X ⟨rfl, hEX⟩
  dsimp only
  replace EX := EX.trans hEX
  (try replace HB1 := hid (HB1.out.ext hEX))
  (try replace HB2 := hid (HB2.out.ext hEX))
  clear hHeld hEX
  refine hK.out _ _ (fun o => EX.cell (p := ⟨w1.heap.size, o, none⟩) lz) (fun hHeld => ?_)
  clear hK K
  try simp only [Act.put, sq1, sq2, sq3, sq4, sq5, sq6]
  refine wpAnyH_ready (rs := [9]) (by kernel_rfl) (by simp) ?_
  refine AllReadyH.cons (o := _) rfl (fun K hK => ?_) AllReadyH.nil
  go_simp
  refine Calls.mono (HHC.out 30 60 _) ?_
  rintro e X ⟨rfl, hEX⟩
  dsimp only
  replace EX := EX.trans hEX
  (try replace HB1 := hid (HB1.out.ext hEX))
  (try replace HB2 := hid (HB2.out.ext hEX))
  clear hHeld hEX
  refine hK.out _ _ (fun o => EX.cell (p := ⟨w1.heap.size, o, none⟩) lz) (fun hHeld => ?_)
  clear hK K
  try simp only [Act.put, sq1, sq2, sq3, sq4, sq5, sq6]
  refine wpAnyH_ready (rs := [11]) (by kernel_rfl) (by simp) ?_
  refine AllReadyH.cons (o := _) rfl (fun K hK => ?_) AllReadyH.nil
  go_simp
  refine Calls.mono (HHC.out 30 60 _) ?_
  rintro e X ⟨rfl, hEX⟩
  dsimp only
  replace EX := EX.trans hEX
  (try replace HB1 := hid (HB1.out.ext hEX))
  (try replace HB2 := hid (HB2.out.ext hEX))
  clear hHeld hEX
  refine hK.out _ _ (fun o => EX.cell (p := ⟨w1.heap.size, o, none⟩) lz) (fun hHeld => ?_)
  clear hK K
  try simp only [Act.put, sq1, sq2, sq3, sq4, sq5, sq6]
  refine wpAnyH_ready (rs := [12, 15]) (by kernel_rfl) (by simp) ?_
  refine AllReadyH.cons (o := _) rfl (fun K hK => ?_) (AllReadyH.cons (o := _) rfl (fun K hK => ?_) AllReadyH.nil)
  · go_simp
    obtain ⟨p1, hp, mp1⟩ := absP EX
    obtain ⟨Y, hY⟩ := absW EX (.cells #[.int .i64 10, .int .i64 20, .int .i64 0, .int .i64 0, .int .i64 0, .int .i64 10, .int .i64 10, .int .i64 20, .int .i64 0, .int .i64 0, .int .i64 0, .int .i64 10, .int .i64 10, .int .i64 20, .int .i64 0, .int .i64 0, .int .i64 0, .int .i64 10, .int .i64 10, .int .i64 20, .int .i64 0, .int .i64 0, .int .i64 0, .int .i64 10, .int .i64 30, .int .i64 60, .int .i64 0, .int .i64 0, .int .i64 0, .int .i64 10, .int .i64 30, .int .i64 60, .int .i64 0, .int .i64 0, .int .i64 0, .int .i64 10] 143)
    (try replace HB1 := hid (HB1.out.alloc (.cells #[.int .i64 10, .int .i64 20, .int .i64 0, .int .i64 0, .int .i64 0, .int .i64 10, .int .i64 10, .int .i64 20, .int .i64 0, .int .i64 0, .int .i64 0, .int .i64 10, .int .i64 10, .int .i64 20, .int .i64 0, .int .i64 0, .int .i64 0, .int .i64 10, .int .i64 10, .int .i64 20, .int .i64 0, .int .i64 0, .int .i64 0, .int .i64 10, .int .i64 30, .int .i64 60, .int .i64 0, .int .i64 0, .int .i64 0, .int .i64 10, .int .i64 30, .int .i64 60, .int .i64 0, .int .i64 0, .int .i64 0, .int .i64 10] 143)))
    (try replace HB2 := hid (HB2.out.alloc (.cells #[.int .i64 10, .int .i64 20, .int .i64 0, .int .i64 0, .int .i64 0, .int .i64 10, .int .i64 10, .int .i64 20, .int .i64 0, .int .i64 0, .int .i64 0, .int .i64 10, .int .i64 10, .int .i64 20, .int .i64 0, .int .i64 0, .int .i64 0, .int .i64 10, .int .i64 10, .int .i64 20, .int .i64 0, .int .i64 0, .int .i64 0, .int .i64 10, .int .i64 30, .int .i64 60, .int .i64 0, .int .i64 0, .int .i64 0, .int .i64 10, .int .i64 30, .int .i64 60, .int .i64 0, .int .i64 0, .int .i64 0, .int .i64 10] 143)))
    (try dsimp only at HB1)
    (try dsimp only at HB2)
    have HB1 := hid (blkNew EX 143 #[.int .i64 10, .int .i64 20, .int .i64 0, .int .i64 0, .int .i64 0, .int .i64 10, .int .i64 10, .int .i64 20, .int .i64 0, .int .i64 0, .int .i64 0, .int .i64 10, .int .i64 10, .int .i64 20, .int .i64 0, .int .i64 0, .int .i64 0, .int .i64 10, .int .i64 10, .int .i64 20, .int .i64 0, .int .i64 0, .int .i64 0, .int .i64 10, .int .i64 30, .int .i64 60, .int .i64 0, .int .i64 0, .int .i64 0, .int .i64 10, .int .i64 30, .int .i64 60, .int .i64 0, .int .i64 0, .int .i64 0, .int .i64 10])
    replace EX := EX.alloc (.cells #[.int .i64 10, .int .i64 20, .int .i64 0, .int .i64 0, .int .i64 0, .int .i64 10, .int .i64 10, .int .i64 20, .int .i64 0, .int .i64 0, .int .i64 0, .int .i64 10, .int .i64 10, .int .i64 20, .int .i64 0, .int .i64 0, .int .i64 0, .int .i64 10, .int .i64 10, .int .i64 20, .int .i64 0, .int .i64 0, .int .i64 0, .int .i64 10, .int .i64 30, .int .i64 60, .int .i64 0, .int .i64 0, .int .i64 0, .int .i64 10, .int .i64 30, .int .i64 60, .int .i64 0, .int .i64 0, .int .i64 0, .int .i64 10] 143)
    have hY2 := hY
    (try dsimp only at HB1 EX hY)
    rw [hY] at EX
    (try rw [hY] at HB1)
    (try rw [hY] at HB2)
    first | rw [hY] | rw [hY2]
    rw [hp] at HB1 ⊢
    clear hHeld hY hY2 hp
    refine hK.out _ _ (fun o => EX.cell (p := ⟨w1.heap.size, o, none⟩) lz) (fun hHeld => ?_)
    clear hK K
    try simp only [Act.put, sq1, sq2, sq3, sq4, sq5, sq6]
    refine tk1 (i := 13) (v := ?v13k7) rfl ?y13k7 ?r13k7
    case y13k7 => (intro w' hSw; (try dsimp only at hSw); go_simp; (try with_reducible rfl))
    try simp only [Act.put, sq1, sq2, sq3, sq4, sq5, sq6]
    refine wpAnyH_ready (rs := [15]) (by kernel_rfl) (by simp) ?_
    refine AllReadyH.cons (o := _) rfl (fun K hK => ?_) AllReadyH.nil
    go_simp
    refine Calls.mono (HHC.out 15 45 _) ?_
    rintro e X ⟨rfl, hEX⟩
    dsimp only
    replace EX := EX.trans hEX
    (try replace HB1 := hid (HB1.out.ext hEX))
    (try replace HB2 := hid (HB2.out.ext hEX))
    clear hHeld hEX
    refine hK.out _ _ (fun o => EX.cell (p := ⟨w1.heap.size, o, none⟩) lz) (fun hHeld => ?_)
    clear hK K
    try simp only [Act.put, sq1, sq2, sq3, sq4, sq5, sq6]
    refine wpAnyH_ready (rs := [17]) (by kernel_rfl) (by simp) ?_
    refine AllReadyH.cons (o := _) rfl (fun K hK => ?_) AllReadyH.nil
    go_simp
    refine Calls.mono (HHC.out 15 45 _) ?_
    rintro e X ⟨rfl, hEX⟩
    dsimp only
    replace EX := EX.trans hEX
    (try replace HB1 := hid (HB1.out.ext hEX))
    (try replace HB2 := hid (HB2.out.ext hEX))
    clear hHeld hEX
    refine hK.out _ _ (fun o => EX.cell (p := ⟨w1.heap.size, o, none⟩) lz) (fun hHeld => ?_)
    clear hK K
    try simp only [Act.put, sq1, sq2, sq3, sq4, sq5, sq6]
    refine wpAnyH_ready (rs := [19]) (by kernel_rfl) (by simp) ?_
    refine AllReadyH.cons (o := _) rfl (fun K hK => ?_) AllReadyH.nil
    go_simp
    refine Calls.mono (HHC.out 10 20 _) ?_
    rintro e X ⟨rfl, hEX⟩
    dsimp only
    replace EX := EX.trans hEX
    (try replace HB1 := hid (HB1.out.ext hEX))
    (try replace HB2 := hid (HB2.out.ext hEX))
    clear hHeld hEX
    refine hK.out _ _ (fun o => EX.cell (p := ⟨w1.heap.size, o, none⟩) lz) (fun hHeld => ?_)
    clear hK K
    try simp only [Act.put, sq1, sq2, sq3, sq4, sq5, sq6]
    refine wpAnyH_ready (rs := [21]) (by kernel_rfl) (by simp) ?_
    refine AllReadyH.cons (o := _) rfl (fun K hK => ?_) AllReadyH.nil
    go_simp
    refine Calls.mono (HHC.out 10 20 _) ?_
    rintro e X ⟨rfl, hEX⟩
    dsimp only
    replace EX := EX.trans hEX
    (try replace HB1 := hid (HB1.out.ext hEX))
    (try replace HB2 := hid (HB2.out.ext hEX))
    clear hHeld hEX
    refine hK.out _ _ (fun o => EX.cell (p := ⟨w1.heap.size, o, none⟩) lz) (fun hHeld => ?_)
    clear hK K
    try simp only [Act.put, sq1, sq2, sq3, sq4, sq5, sq6]
    refine wpAnyH_ready (rs := [23]) (by kernel_rfl) (by simp) ?_
    refine AllReadyH.cons (o := _) rfl (fun K hK => ?_) AllReadyH.nil
    go_simp
    refine Calls.mono (HHC.out 10 20 _) ?_
    rintro e X ⟨rfl, hEX⟩
    dsimp only
    replace EX := EX.trans hEX
    (try replace HB1 := hid (HB1.out.ext hEX))
    (try replace HB2 := hid (HB2.out.ext hEX))
    clear hHeld hEX
    refine hK.out _ _ (fun o => EX.cell (p := ⟨w1.heap.size, o, none⟩) lz) (fun hHeld => ?_)
    clear hK K
    try simp only [Act.put, sq1, sq2, sq3, sq4, sq5, sq6]
    refine wpAnyH_ready (rs := [25]) (by kernel_rfl) (by simp) ?_
    refine AllReadyH.cons (o := _) rfl (fun K hK => ?_) AllReadyH.nil
    go_simp
    refine Calls.mono (HHC.out 10 20 _) ?_
    rintro e X ⟨rfl, hEX⟩
    dsimp only
    replace EX := EX.trans hEX
    (try replace HB1 := hid (HB1.out.ext hEX))
    (try replace HB2 := hid (HB2.out.ext hEX))
    clear hHeld hEX
    refine hK.out _ _ (fun o => EX.cell (p := ⟨w1.heap.size, o, none⟩) lz) (fun hHeld => ?_)
    clear hK K
    try simp only [Act.put, sq1, sq2, sq3, sq4, sq5, sq6]
    refine wpAnyH_ready (rs := [26]) (by kernel_rfl) (by simp) ?_
    refine AllReadyH.cons (o := _) rfl (fun K hK => ?_) AllReadyH.nil
    go_simp
    obtain ⟨p2, hp, mp2⟩ := absP EX
    obtain ⟨Y, hY⟩ := absW EX (.cells #[.int .i64 15, .int .i64 45, .int .i64 0, .int .i64 0, .int .i64 0, .int .i64 10, .int .i64 15, .int .i64 45, .int .i64 0, .int .i64 0, .int .i64 0, .int .i64 10, .int .i64 10, .int .i64 20, .int .i64 0, .int .i64 0, .int .i64 0, .int .i64 10, .int .i64 10, .int .i64 20, .int .i64 0, .int .i64 0, .int .i64 0, .int .i64 10, .int .i64 10, .int .i64 20, .int .i64 0, .int .i64 0, .int .i64 0, .int .i64 10, .int .i64 10, .int .i64 20, .int .i64 0, .int .i64 0, .int .i64 0, .int .i64 10] 143)
    (try replace HB1 := hid (HB1.out.alloc (.cells #[.int .i64 15, .int .i64 45, .int .i64 0, .int .i64 0, .int .i64 0, .int .i64 10, .int .i64 15, .int .i64 45, .int .i64 0, .int .i64 0, .int .i64 0, .int .i64 10, .int .i64 10, .int .i64 20, .int .i64 0, .int .i64 0, .int .i64 0, .int .i64 10, .int .i64 10, .int .i64 20, .int .i64 0, .int .i64 0, .int .i64 0, .int .i64 10, .int .i64 10, .int .i64 20, .int .i64 0, .int .i64 0, .int .i64 0, .int .i64 10, .int .i64 10, .int .i64 20, .int .i64 0, .int .i64 0, .int .i64 0, .int .i64 10] 143)))
    (try replace HB2 := hid (HB2.out.alloc (.cells #[.int .i64 15, .int .i64 45, .int .i64 0, .int .i64 0, .int .i64 0, .int .i64 10, .int .i64 15, .int .i64 45, .int .i64 0, .int .i64 0, .int .i64 0, .int .i64 10, .int .i64 10, .int .i64 20, .int .i64 0, .int .i64 0, .int .i64 0, .int .i64 10, .int .i64 10, .int .i64 20, .int .i64 0, .int .i64 0, .int .i64 0, .int .i64 10, .int .i64 10, .int .i64 20, .int .i64 0, .int .i64 0, .int .i64 0, .int .i64 10, .int .i64 10, .int .i64 20, .int .i64 0, .int .i64 0, .int .i64 0, .int .i64 10] 143)))
    (try dsimp only at HB1)
    (try dsimp only at HB2)
    have HB2 := hid (blkNew EX 143 #[.int .i64 15, .int .i64 45, .int .i64 0, .int .i64 0, .int .i64 0, .int .i64 10, .int .i64 15, .int .i64 45, .int .i64 0, .int .i64 0, .int .i64 0, .int .i64 10, .int .i64 10, .int .i64 20, .int .i64 0, .int .i64 0, .int .i64 0, .int .i64 10, .int .i64 10, .int .i64 20, .int .i64 0, .int .i64 0, .int .i64 0, .int .i64 10, .int .i64 10, .int .i64 20, .int .i64 0, .int .i64 0, .int .i64 0, .int .i64 10, .int .i64 10, .int .i64 20, .int .i64 0, .int .i64 0, .int .i64 0, .int .i64 10])
    replace EX := EX.alloc (.cells #[.int .i64 15, .int .i64 45, .int .i64 0, .int .i64 0, .int .i64 0, .int .i64 10, .int .i64 15, .int .i64 45, .int .i64 0, .int .i64 0, .int .i64 0, .int .i64 10, .int .i64 10, .int .i64 20, .int .i64 0, .int .i64 0, .int .i64 0, .int .i64 10, .int .i64 10, .int .i64 20, .int .i64 0, .int .i64 0, .int .i64 0, .int .i64 10, .int .i64 10, .int .i64 20, .int .i64 0, .int .i64 0, .int .i64 0, .int .i64 10, .int .i64 10, .int .i64 20, .int .i64 0, .int .i64 0, .int .i64 0, .int .i64 10] 143)
    have hY2 := hY
    (try dsimp only at HB2 EX hY)
    rw [hY] at EX
    (try rw [hY] at HB1)
    (try rw [hY] at HB2)
    first | rw [hY] | rw [hY2]
    rw [hp] at HB2 ⊢
    clear hHeld hY hY2 hp
    refine hK.out _ _ (fun o => EX.cell (p := ⟨w1.heap.size, o, none⟩) lz) (fun hHeld => ?_)
    clear hK K
    try simp only [Act.put, sq1, sq2, sq3, sq4, sq5, sq6]
    refine tk1 (i := 27) (v := ?v27k14) rfl ?y27k14 ?r27k14
    case y27k14 => (intro w' hSw; (try dsimp only at hSw); go_simp; (try with_reducible rfl))
    try simp only [Act.put, sq1, sq2, sq3, sq4, sq5, sq6]
    refine wpAnyH_ready (rs := [28]) (by kernel_rfl) (by simp) ?_
    refine AllReadyH.cons (o := _) rfl (fun K hK => ?_) AllReadyH.nil
    go_simp
    obtain ⟨p3, hp, mp3⟩ := absP EX
    obtain ⟨Y, hY, HB3, HB4, HB5, EY⟩ := ex_b3 EX HB1 HB2
    rw [hY]
    rw [hp] at HB3 ⊢
    clear hY HB1 HB2 hHeld EX hp
    refine hK.out _ _ (fun o => EY.cell (p := ⟨w1.heap.size, o, none⟩) lz) (fun hHeld => ?_)
    clear hK K
    try simp only [Act.put, sq1, sq2, sq3, sq4, sq5, sq6]
    refine tk1 (i := 29) (v := ?v29k15) rfl ?y29k15 ?r29k15
    case y29k15 => (intro w' hSw; (try dsimp only at hSw); go_simp; (try with_reducible rfl))
    try simp only [Act.put, sq1, sq2, sq3, sq4, sq5, sq6]
    have T0 := hid (show Blk _ _ _ _ from S0.out.ext EY)
    have T1 := hid (show Blk _ _ _ _ from S1.out.ext EY)
    have T2 := hid (show Blk _ _ _ _ from S2.out.ext EY)
    have PX := hid (show ExP w W Y w1.heap.size _ _ _ from ⟨HEW.out.trans EY, fun o => EY.cell (p := ⟨w1.heap.size, o, none⟩) lz, HB3.out, HB4.out, HB5.out, by omega, by omega, by omega, by omega, by have := EY.size; omega⟩)
    clear EY HB3 HB4 HB5
    refine wpAnyH_ready (rs := [33]) (by kernel_rfl) (by simp) ?_
    refine AllReadyH.cons (o := _) rfl (fun K hK => ?_) AllReadyH.nil
    refine wp_store_mid 24 _ _ rfl (w.heap.size) 0 (#[.slice (some ⟨p3, 0, none⟩) 2 2]) rfl rfl (blk_there T0.out rfl) infoFc (by simp [Value.oneCell']) ?_
    have HG := hid (grown_setCells (w := Y) (b := w.heap.size) [.slice (some ⟨p3, 0, none⟩) 2 2] 0)
    replace PX := hid (PX.out.set (w.heap.size) (by omega) (by omega) [.slice (some ⟨p3, 0, none⟩) 2 2])
    replace T0 := hid (T0.out.fill [.slice (some ⟨p3, 0, none⟩) 2 2] 0)
    replace T1 := hid (T1.out.grown HG.out (by simp; try omega))
    replace T2 := hid (T2.out.grown HG.out (by simp; try omega))
    obtain ⟨Z, hZ⟩ : ∃ Z, Y.setCells (w.heap.size) 0 [.slice (some ⟨p3, 0, none⟩) 2 2] = Z := ⟨_, rfl⟩
    have hZ2 : Y.setCells (w.heap.size) 0 (#[.slice (some ⟨p3, 0, none⟩) 2 2] : Array Value).toList = Z := hZ
    rw [hZ] at PX T0 T1 T2
    first | rw [hZ2] | rw [hZ]
    clear hZ hZ2 HG hHeld
    refine hK.out _ _ PX.out.lim (fun hHeld => ?_)
    clear hK K
    try simp only [Act.put, sq1, sq2, sq3, sq4, sq5, sq6]
    clear Y
    obtain ⟨Y, rfl⟩ : ∃ Y, Y = Z := ⟨_, rfl⟩
    refine wpAnyH_ready (rs := [34]) (by kernel_rfl) (by simp) ?_
    refine AllReadyH.cons (o := _) rfl (fun K hK => ?_) AllReadyH.nil
    refine wp_store_mid 29 _ _ rfl (w.heap.size + 1) 0 (#[.int .i64 40, .int .i64 0, .int .i64 (-5), .int .i64 15]) rfl rfl (blk_there T1.out rfl) infoLi (by simp [Value.oneCell']) ?_
    have HG := hid (grown_setCells (w := Y) (b := w.heap.size + 1) [.int .i64 40, .int .i64 0, .int .i64 (-5), .int .i64 15] 0)
    replace PX := hid (PX.out.set (w.heap.size + 1) (by omega) (by omega) [.int .i64 40, .int .i64 0, .int .i64 (-5), .int .i64 15])
    replace T1 := hid (T1.out.fill [.int .i64 40, .int .i64 0, .int .i64 (-5), .int .i64 15] 0)
    replace T0 := hid (T0.out.grown HG.out (by simp; try omega))
    replace T2 := hid (T2.out.grown HG.out (by simp; try omega))
    obtain ⟨Z, hZ⟩ : ∃ Z, Y.setCells (w.heap.size + 1) 0 [.int .i64 40, .int .i64 0, .int .i64 (-5), .int .i64 15] = Z := ⟨_, rfl⟩
    have hZ2 : Y.setCells (w.heap.size + 1) 0 (#[.int .i64 40, .int .i64 0, .int .i64 (-5), .int .i64 15] : Array Value).toList = Z := hZ
    rw [hZ] at PX T1 T0 T2
    first | rw [hZ2] | rw [hZ]
    clear hZ hZ2 HG hHeld
    refine hK.out _ _ PX.out.lim (fun hHeld => ?_)
    clear hK K
    try simp only [Act.put, sq1, sq2, sq3, sq4, sq5, sq6]
    clear Y
    obtain ⟨Y, rfl⟩ : ∃ Y, Y = Z := ⟨_, rfl⟩
    refine wpAnyH_ready (rs := [35]) (by kernel_rfl) (by simp) ?_
    refine AllReadyH.cons (o := _) rfl (fun K hK => ?_) AllReadyH.nil
    refine wp_store_mid 79 _ _ rfl (w.heap.size + 1 + 1) 0 (#[.int .i64 1, .int .i64 1, .int .i64 40, .int .i64 0, .int .i64 (-5), .int .i64 15]) rfl rfl (blk_there T2.out rfl) infoRu (by simp [Value.oneCell']) ?_
    have HG := hid (grown_setCells (w := Y) (b := w.heap.size + 1 + 1) [.int .i64 1, .int .i64 1, .int .i64 40, .int .i64 0, .int .i64 (-5), .int .i64 15] 0)
    replace PX := hid (PX.out.set (w.heap.size + 1 + 1) (by omega) (by omega) [.int .i64 1, .int .i64 1, .int .i64 40, .int .i64 0, .int .i64 (-5), .int .i64 15])
    replace T2 := hid (T2.out.fill [.int .i64 1, .int .i64 1, .int .i64 40, .int .i64 0, .int .i64 (-5), .int .i64 15] 0)
    replace T0 := hid (T0.out.grown HG.out (by simp; try omega))
    replace T1 := hid (T1.out.grown HG.out (by simp; try omega))
    obtain ⟨Z, hZ⟩ : ∃ Z, Y.setCells (w.heap.size + 1 + 1) 0 [.int .i64 1, .int .i64 1, .int .i64 40, .int .i64 0, .int .i64 (-5), .int .i64 15] = Z := ⟨_, rfl⟩
    have hZ2 : Y.setCells (w.heap.size + 1 + 1) 0 (#[.int .i64 1, .int .i64 1, .int .i64 40, .int .i64 0, .int .i64 (-5), .int .i64 15] : Array Value).toList = Z := hZ
    rw [hZ] at PX T2 T0 T1
    first | rw [hZ2] | rw [hZ]
    clear hZ hZ2 HG hHeld
    refine hK.out _ _ PX.out.lim (fun hHeld => ?_)
    clear hK K
    try simp only [Act.put, sq1, sq2, sq3, sq4, sq5, sq6]
    clear Y
    obtain ⟨Y, rfl⟩ : ∃ Y, Y = Z := ⟨_, rfl⟩
    clear hHeld
    refine wpAnyH_done (by kernel_rfl) ?_ _
    have U0 : Blk Y w.heap.size 24 #[.slice (some ⟨p3, 0, none⟩) 2 2] := T0.out
    have U1 : Blk Y (w.heap.size + 1) 29 #[.int .i64 40, .int .i64 0, .int .i64 (-5), .int .i64 15] := T1.out
    have U2 : Blk Y (w.heap.size + 1 + 1) 79 #[.int .i64 1, .int .i64 1, .int .i64 40, .int .i64 0, .int .i64 (-5), .int .i64 15] := T2.out
    have c0 := U0.cell 0
    have d0 := U1.cell 0
    have d1 := U1.cell 1
    have d2 := U1.cell 2
    have d3 := U1.cell 3
    have e0 := U2.cell 0
    have e1 := U2.cell 1
    have e2 := U2.cell 2
    have e3 := U2.cell 3
    have e4 := U2.cell 4
    have e5 := U2.cell 5
    simp only [List.getElem?_toArray, List.getElem?_cons_zero, List.getElem?_cons_succ] at c0 d0 d1 d2 d3 e0 e1 e2 e3 e4 e5
    clear T0 T1 T2 U0 U1 U2
    go_wp2
    refine bodyPost_ret (v := .tuple #[.agg #[.slice (some ⟨p3, 0, none⟩) 2 2], exL.val, exR.val]) (by simp [results, Tryz.results36, go_sem, c0, d0, d1, d2, d3, e0, e1, e2, e3, e4, e5, exL, exR, Lm.val, Rl.val]) rfl ⟨_, 2, rfl, exF_at PX.out.h3 PX.out.h1 PX.out.h2, PX.out.ext⟩
  · go_simp
    refine Calls.mono (HHC.out 15 45 _) ?_
    rintro e X ⟨rfl, hEX⟩
    dsimp only
    replace EX := EX.trans hEX
    (try replace HB1 := hid (HB1.out.ext hEX))
    (try replace HB2 := hid (HB2.out.ext hEX))
    clear hHeld hEX
    refine hK.out _ _ (fun o => EX.cell (p := ⟨w1.heap.size, o, none⟩) lz) (fun hHeld => ?_)
    clear hK K
    try simp only [Act.put, sq1, sq2, sq3, sq4, sq5, sq6]
    refine wpAnyH_ready (rs := [12, 17]) (by kernel_rfl) (by simp) ?_
    refine AllReadyH.cons (o := _) rfl (fun K hK => ?_) (AllReadyH.cons (o := _) rfl (fun K hK => ?_) AllReadyH.nil)
    · go_simp
      obtain ⟨p1, hp, mp1⟩ := absP EX
      obtain ⟨Y, hY⟩ := absW EX (.cells #[.int .i64 10, .int .i64 20, .int .i64 0, .int .i64 0, .int .i64 0, .int .i64 10, .int .i64 10, .int .i64 20, .int .i64 0, .int .i64 0, .int .i64 0, .int .i64 10, .int .i64 10, .int .i64 20, .int .i64 0, .int .i64 0, .int .i64 0, .int .i64 10, .int .i64 10, .int .i64 20, .int .i64 0, .int .i64 0, .int .i64 0, .int .i64 10, .int .i64 30, .int .i64 60, .int .i64 0, .int .i64 0, .int .i64 0, .int .i64 10, .int .i64 30, .int .i64 60, .int .i64 0, .int .i64 0, .int .i64 0, .int .i64 10] 143)
      (try replace HB1 := hid (HB1.out.alloc (.cells #[.int .i64 10, .int .i64 20, .int .i64 0, .int .i64 0, .int .i64 0, .int .i64 10, .int .i64 10, .int .i64 20, .int .i64 0, .int .i64 0, .int .i64 0, .int .i64 10, .int .i64 10, .int .i64 20, .int .i64 0, .int .i64 0, .int .i64 0, .int .i64 10, .int .i64 10, .int .i64 20, .int .i64 0, .int .i64 0, .int .i64 0, .int .i64 10, .int .i64 30, .int .i64 60, .int .i64 0, .int .i64 0, .int .i64 0, .int .i64 10, .int .i64 30, .int .i64 60, .int .i64 0, .int .i64 0, .int .i64 0, .int .i64 10] 143)))
      (try replace HB2 := hid (HB2.out.alloc (.cells #[.int .i64 10, .int .i64 20, .int .i64 0, .int .i64 0, .int .i64 0, .int .i64 10, .int .i64 10, .int .i64 20, .int .i64 0, .int .i64 0, .int .i64 0, .int .i64 10, .int .i64 10, .int .i64 20, .int .i64 0, .int .i64 0, .int .i64 0, .int .i64 10, .int .i64 10, .int .i64 20, .int .i64 0, .int .i64 0, .int .i64 0, .int .i64 10, .int .i64 30, .int .i64 60, .int .i64 0, .int .i64 0, .int .i64 0, .int .i64 10, .int .i64 30, .int .i64 60, .int .i64 0, .int .i64 0, .int .i64 0, .int .i64 10] 143)))
      (try dsimp only at HB1)
      (try dsimp only at HB2)
      have HB1 := hid (blkNew EX 143 #[.int .i64 10, .int .i64 20, .int .i64 0, .int .i64 0, .int .i64 0, .int .i64 10, .int .i64 10, .int .i64 20, .int .i64 0, .int .i64 0, .int .i64 0, .int .i64 10, .int .i64 10, .int .i64 20, .int .i64 0, .int .i64 0, .int .i64 0, .int .i64 10, .int .i64 10, .int .i64 20, .int .i64 0, .int .i64 0, .int .i64 0, .int .i64 10, .int .i64 30, .int .i64 60, .int .i64 0, .int .i64 0, .int .i64 0, .int .i64 10, .int .i64 30, .int .i64 60, .int .i64 0, .int .i64 0, .int .i64 0, .int .i64 10])
      replace EX := EX.alloc (.cells #[.int .i64 10, .int .i64 20, .int .i64 0, .int .i64 0, .int .i64 0, .int .i64 10, .int .i64 10, .int .i64 20, .int .i64 0, .int .i64 0, .int .i64 0, .int .i64 10, .int .i64 10, .int .i64 20, .int .i64 0, .int .i64 0, .int .i64 0, .int .i64 10, .int .i64 10, .int .i64 20, .int .i64 0, .int .i64 0, .int .i64 0, .int .i64 10, .int .i64 30, .int .i64 60, .int .i64 0, .int .i64 0, .int .i64 0, .int .i64 10, .int .i64 30, .int .i64 60, .int .i64 0, .int .i64 0, .int .i64 0, .int .i64 10] 143)
      have hY2 := hY
      (try dsimp only at HB1 EX hY)
      rw [hY] at EX
      (try rw [hY] at HB1)
      (try rw [hY] at HB2)
      first | rw [hY] | rw [hY2]
      rw [hp] at HB1 ⊢
      clear hHeld hY hY2 hp
      refine hK.out _ _ (fun o => EX.cell (p := ⟨w1.heap.size, o, none⟩) lz) (fun hHeld => ?_)
      clear hK K
      try simp only [Act.put, sq1, sq2, sq3, sq4, sq5, sq6]
      refine tk1 (i := 13) (v := ?v13k18) rfl ?y13k18 ?r13k18
      case y13k18 => (intro w' hSw; (try dsimp only at hSw); go_simp; (try with_reducible rfl))
      try simp only [Act.put, sq1, sq2, sq3, sq4, sq5, sq6]
      refine wpAnyH_ready (rs := [17]) (by kernel_rfl) (by simp) ?_
      refine AllReadyH.cons (o := _) rfl (fun K hK => ?_) AllReadyH.nil
      go_simp
      refine Calls.mono (HHC.out 15 45 _) ?_
      rintro e X ⟨rfl, hEX⟩
      dsimp only
      replace EX := EX.trans hEX
      (try replace HB1 := hid (HB1.out.ext hEX))
      (try replace HB2 := hid (HB2.out.ext hEX))
      clear hHeld hEX
      refine hK.out _ _ (fun o => EX.cell (p := ⟨w1.heap.size, o, none⟩) lz) (fun hHeld => ?_)
      clear hK K
      try simp only [Act.put, sq1, sq2, sq3, sq4, sq5, sq6]
      refine wpAnyH_ready (rs := [19]) (by kernel_rfl) (by simp) ?_
      refine AllReadyH.cons (o := _) rfl (fun K hK => ?_) AllReadyH.nil
      go_simp
      refine Calls.mono (HHC.out 10 20 _) ?_
      rintro e X ⟨rfl, hEX⟩
      dsimp only
      replace EX := EX.trans hEX
      (try replace HB1 := hid (HB1.out.ext hEX))
      (try replace HB2 := hid (HB2.out.ext hEX))
      clear hHeld hEX
      refine hK.out _ _ (fun o => EX.cell (p := ⟨w1.heap.size, o, none⟩) lz) (fun hHeld => ?_)
      clear hK K
      try simp only [Act.put, sq1, sq2, sq3, sq4, sq5, sq6]
      refine wpAnyH_ready (rs := [21]) (by kernel_rfl) (by simp) ?_
      refine AllReadyH.cons (o := _) rfl (fun K hK => ?_) AllReadyH.nil
      go_simp
      refine Calls.mono (HHC.out 10 20 _) ?_
      rintro e X ⟨rfl, hEX⟩
      dsimp only
      replace EX := EX.trans hEX
      (try replace HB1 := hid (HB1.out.ext hEX))
      (try replace HB2 := hid (HB2.out.ext hEX))
      clear hHeld hEX
      refine hK.out _ _ (fun o => EX.cell (p := ⟨w1.heap.size, o, none⟩) lz) (fun hHeld => ?_)
      clear hK K
      try simp only [Act.put, sq1, sq2, sq3, sq4, sq5, sq6]
      refine wpAnyH_ready (rs := [23]) (by kernel_rfl) (by simp) ?_
      refine AllReadyH.cons (o := _) rfl (fun K hK => ?_) AllReadyH.nil
      go_simp
      refine Calls.mono (HHC.out 10 20 _) ?_
      rintro e X ⟨rfl, hEX⟩
      dsimp only
      replace EX := EX.trans hEX
      (try replace HB1 := hid (HB1.out.ext hEX))
      (try replace HB2 := hid (HB2.out.ext hEX))
      clear hHeld hEX
      refine hK.out _ _ (fun o => EX.cell (p := ⟨w1.heap.size, o, none⟩) lz) (fun hHeld => ?_)
      clear hK K
      try simp only [Act.put, sq1, sq2, sq3, sq4, sq5, sq6]
      refine wpAnyH_ready (rs := [25]) (by kernel_rfl) (by simp) ?_
      refine AllReadyH.cons (o := _) rfl (fun K hK => ?_) AllReadyH.nil
      go_simp
      refine Calls.mono (HHC.out 10 20 _) ?_
      rintro e X ⟨rfl, hEX⟩
      dsimp only
      replace EX := EX.trans hEX
      (try replace HB1 := hid (HB1.out.ext hEX))
      (try replace HB2 := hid (HB2.out.ext hEX))
      clear hHeld hEX
      refine hK.out _ _ (fun o => EX.cell (p := ⟨w1.heap.size, o, none⟩) lz) (fun hHeld => ?_)
      clear hK K
      try simp only [Act.put, sq1, sq2, sq3, sq4, sq5, sq6]
      refine wpAnyH_ready (rs := [26]) (by kernel_rfl) (by simp) ?_
      refine AllReadyH.cons (o := _) rfl (fun K hK => ?_) AllReadyH.nil
      go_simp
      obtain ⟨p2, hp, mp2⟩ := absP EX
      obtain ⟨Y, hY⟩ := absW EX (.cells #[.int .i64 15, .int .i64 45, .int .i64 0, .int .i64 0, .int .i64 0, .int .i64 10, .int .i64 15, .int .i64 45, .int .i64 0, .int .i64 0, .int .i64 0, .int .i64 10, .int .i64 10, .int .i64 20, .int .i64 0, .int .i64 0, .int .i64 0, .int .i64 10, .int .i64 10, .int .i64 20, .int .i64 0, .int .i64 0, .int .i64 0, .int .i64 10, .int .i64 10, .int .i64 20, .int .i64 0, .int .i64 0, .int .i64 0, .int .i64 10, .int .i64 10, .int .i64 20, .int .i64 0, .int .i64 0, .int .i64 0, .int .i64 10] 143)
      (try replace HB1 := hid (HB1.out.alloc (.cells #[.int .i64 15, .int .i64 45, .int .i64 0, .int .i64 0, .int .i64 0, .int .i64 10, .int .i64 15, .int .i64 45, .int .i64 0, .int .i64 0, .int .i64 0, .int .i64 10, .int .i64 10, .int .i64 20, .int .i64 0, .int .i64 0, .int .i64 0, .int .i64 10, .int .i64 10, .int .i64 20, .int .i64 0, .int .i64 0, .int .i64 0, .int .i64 10, .int .i64 10, .int .i64 20, .int .i64 0, .int .i64 0, .int .i64 0, .int .i64 10, .int .i64 10, .int .i64 20, .int .i64 0, .int .i64 0, .int .i64 0, .int .i64 10] 143)))
      (try replace HB2 := hid (HB2.out.alloc (.cells #[.int .i64 15, .int .i64 45, .int .i64 0, .int .i64 0, .int .i64 0, .int .i64 10, .int .i64 15, .int .i64 45, .int .i64 0, .int .i64 0, .int .i64 0, .int .i64 10, .int .i64 10, .int .i64 20, .int .i64 0, .int .i64 0, .int .i64 0, .int .i64 10, .int .i64 10, .int .i64 20, .int .i64 0, .int .i64 0, .int .i64 0, .int .i64 10, .int .i64 10, .int .i64 20, .int .i64 0, .int .i64 0, .int .i64 0, .int .i64 10, .int .i64 10, .int .i64 20, .int .i64 0, .int .i64 0, .int .i64 0, .int .i64 10] 143)))
      (try dsimp only at HB1)
      (try dsimp only at HB2)
      have HB2 := hid (blkNew EX 143 #[.int .i64 15, .int .i64 45, .int .i64 0, .int .i64 0, .int .i64 0, .int .i64 10, .int .i64 15, .int .i64 45, .int .i64 0, .int .i64 0, .int .i64 0, .int .i64 10, .int .i64 10, .int .i64 20, .int .i64 0, .int .i64 0, .int .i64 0, .int .i64 10, .int .i64 10, .int .i64 20, .int .i64 0, .int .i64 0, .int .i64 0, .int .i64 10, .int .i64 10, .int .i64 20, .int .i64 0, .int .i64 0, .int .i64 0, .int .i64 10, .int .i64 10, .int .i64 20, .int .i64 0, .int .i64 0, .int .i64 0, .int .i64 10])
      replace EX := EX.alloc (.cells #[.int .i64 15, .int .i64 45, .int .i64 0, .int .i64 0, .int .i64 0, .int .i64 10, .int .i64 15, .int .i64 45, .int .i64 0, .int .i64 0, .int .i64 0, .int .i64 10, .int .i64 10, .int .i64 20, .int .i64 0, .int .i64 0, .int .i64 0, .int .i64 10, .int .i64 10, .int .i64 20, .int .i64 0, .int .i64 0, .int .i64 0, .int .i64 10, .int .i64 10, .int .i64 20, .int .i64 0, .int .i64 0, .int .i64 0, .int .i64 10, .int .i64 10, .int .i64 20, .int .i64 0, .int .i64 0, .int .i64 0, .int .i64 10] 143)
      have hY2 := hY
      (try dsimp only at HB2 EX hY)
      rw [hY] at EX
      (try rw [hY] at HB1)
      (try rw [hY] at HB2)
      first | rw [hY] | rw [hY2]
      rw [hp] at HB2 ⊢
      clear hHeld hY hY2 hp
      refine hK.out _ _ (fun o => EX.cell (p := ⟨w1.heap.size, o, none⟩) lz) (fun hHeld => ?_)
      clear hK K
      try simp only [Act.put, sq1, sq2, sq3, sq4, sq5, sq6]
      refine tk1 (i := 27) (v := ?v27k24) rfl ?y27k24 ?r27k24
      case y27k24 => (intro w' hSw; (try dsimp only at hSw); go_simp; (try with_reducible rfl))
      try simp only [Act.put, sq1, sq2, sq3, sq4, sq5, sq6]
      refine wpAnyH_ready (rs := [28]) (by kernel_rfl) (by simp) ?_
      refine AllReadyH.cons (o := _) rfl (fun K hK => ?_) AllReadyH.nil
      go_simp
      obtain ⟨p3, hp, mp3⟩ := absP EX
      obtain ⟨Y, hY, HB3, HB4, HB5, EY⟩ := ex_b3 EX HB1 HB2
      rw [hY]
      rw [hp] at HB3 ⊢
      clear hY HB1 HB2 hHeld EX hp
      refine hK.out _ _ (fun o => EY.cell (p := ⟨w1.heap.size, o, none⟩) lz) (fun hHeld => ?_)
      clear hK K
      try simp only [Act.put, sq1, sq2, sq3, sq4, sq5, sq6]
      refine tk1 (i := 29) (v := ?v29k25) rfl ?y29k25 ?r29k25
      case y29k25 => (intro w' hSw; (try dsimp only at hSw); go_simp; (try with_reducible rfl))
      try simp only [Act.put, sq1, sq2, sq3, sq4, sq5, sq6]
      have T0 := hid (show Blk _ _ _ _ from S0.out.ext EY)
      have T1 := hid (show Blk _ _ _ _ from S1.out.ext EY)
      have T2 := hid (show Blk _ _ _ _ from S2.out.ext EY)
      have PX := hid (show ExP w W Y w1.heap.size _ _ _ from ⟨HEW.out.trans EY, fun o => EY.cell (p := ⟨w1.heap.size, o, none⟩) lz, HB3.out, HB4.out, HB5.out, by omega, by omega, by omega, by omega, by have := EY.size; omega⟩)
      clear EY HB3 HB4 HB5
      refine wpAnyH_ready (rs := [33]) (by kernel_rfl) (by simp) ?_
      refine AllReadyH.cons (o := _) rfl (fun K hK => ?_) AllReadyH.nil
      refine wp_store_mid 24 _ _ rfl (w.heap.size) 0 (#[.slice (some ⟨p3, 0, none⟩) 2 2]) rfl rfl (blk_there T0.out rfl) infoFc (by simp [Value.oneCell']) ?_
      have HG := hid (grown_setCells (w := Y) (b := w.heap.size) [.slice (some ⟨p3, 0, none⟩) 2 2] 0)
      replace PX := hid (PX.out.set (w.heap.size) (by omega) (by omega) [.slice (some ⟨p3, 0, none⟩) 2 2])
      replace T0 := hid (T0.out.fill [.slice (some ⟨p3, 0, none⟩) 2 2] 0)
      replace T1 := hid (T1.out.grown HG.out (by simp; try omega))
      replace T2 := hid (T2.out.grown HG.out (by simp; try omega))
      obtain ⟨Z, hZ⟩ : ∃ Z, Y.setCells (w.heap.size) 0 [.slice (some ⟨p3, 0, none⟩) 2 2] = Z := ⟨_, rfl⟩
      have hZ2 : Y.setCells (w.heap.size) 0 (#[.slice (some ⟨p3, 0, none⟩) 2 2] : Array Value).toList = Z := hZ
      rw [hZ] at PX T0 T1 T2
      first | rw [hZ2] | rw [hZ]
      clear hZ hZ2 HG hHeld
      refine hK.out _ _ PX.out.lim (fun hHeld => ?_)
      clear hK K
      try simp only [Act.put, sq1, sq2, sq3, sq4, sq5, sq6]
      clear Y
      obtain ⟨Y, rfl⟩ : ∃ Y, Y = Z := ⟨_, rfl⟩
      refine wpAnyH_ready (rs := [34]) (by kernel_rfl) (by simp) ?_
      refine AllReadyH.cons (o := _) rfl (fun K hK => ?_) AllReadyH.nil
      refine wp_store_mid 29 _ _ rfl (w.heap.size + 1) 0 (#[.int .i64 40, .int .i64 0, .int .i64 (-5), .int .i64 15]) rfl rfl (blk_there T1.out rfl) infoLi (by simp [Value.oneCell']) ?_
      have HG := hid (grown_setCells (w := Y) (b := w.heap.size + 1) [.int .i64 40, .int .i64 0, .int .i64 (-5), .int .i64 15] 0)
      replace PX := hid (PX.out.set (w.heap.size + 1) (by omega) (by omega) [.int .i64 40, .int .i64 0, .int .i64 (-5), .int .i64 15])
      replace T1 := hid (T1.out.fill [.int .i64 40, .int .i64 0, .int .i64 (-5), .int .i64 15] 0)
      replace T0 := hid (T0.out.grown HG.out (by simp; try omega))
      replace T2 := hid (T2.out.grown HG.out (by simp; try omega))
      obtain ⟨Z, hZ⟩ : ∃ Z, Y.setCells (w.heap.size + 1) 0 [.int .i64 40, .int .i64 0, .int .i64 (-5), .int .i64 15] = Z := ⟨_, rfl⟩
      have hZ2 : Y.setCells (w.heap.size + 1) 0 (#[.int .i64 40, .int .i64 0, .int .i64 (-5), .int .i64 15] : Array Value).toList = Z := hZ
      rw [hZ] at PX T1 T0 T2
      first | rw [hZ2] | rw [hZ]
      clear hZ hZ2 HG hHeld
      refine hK.out _ _ PX.out.lim (fun hHeld => ?_)
      clear hK K
      try simp only [Act.put, sq1, sq2, sq3, sq4, sq5, sq6]
      clear Y
      obtain ⟨Y, rfl⟩ : ∃ Y, Y = Z := ⟨_, rfl⟩
      refine wpAnyH_ready (rs := [35]) (by kernel_rfl) (by simp) ?_
      refine AllReadyH.cons (o := _) rfl (fun K hK => ?_) AllReadyH.nil
      refine wp_store_mid 79 _ _ rfl (w.heap.size + 1 + 1) 0 (#[.int .i64 1, .int .i64 1, .int .i64 40, .int .i64 0, .int .i64 (-5), .int .i64 15]) rfl rfl (blk_there T2.out rfl) infoRu (by simp [Value.oneCell']) ?_
      have HG := hid (grown_setCells (w := Y) (b := w.heap.size + 1 + 1) [.int .i64 1, .int .i64 1, .int .i64 40, .int .i64 0, .int .i64 (-5), .int .i64 15] 0)
      replace PX := hid (PX.out.set (w.heap.size + 1 + 1) (by omega) (by omega) [.int .i64 1, .int .i64 1, .int .i64 40, .int .i64 0, .int .i64 (-5), .int .i64 15])
      replace T2 := hid (T2.out.fill [.int .i64 1, .int .i64 1, .int .i64 40, .int .i64 0, .int .i64 (-5), .int .i64 15] 0)
      replace T0 := hid (T0.out.grown HG.out (by simp; try omega))
      replace T1 := hid (T1.out.grown HG.out (by simp; try omega))
      obtain ⟨Z, hZ⟩ : ∃ Z, Y.setCells (w.heap.size + 1 + 1) 0 [.int .i64 1, .int .i64 1, .int .i64 40, .int .i64 0, .int .i64 (-5), .int .i64 15] = Z := ⟨_, rfl⟩
      have hZ2 : Y.setCells (w.heap.size + 1 + 1) 0 (#[.int .i64 1, .int .i64 1, .int .i64 40, .int .i64 0, .int .i64 (-5), .int .i64 15] : Array Value).toList = Z := hZ
      rw [hZ] at PX T2 T0 T1
      first | rw [hZ2] | rw [hZ]
      clear hZ hZ2 HG hHeld
      refine hK.out _ _ PX.out.lim (fun hHeld => ?_)
      clear hK K
      try simp only [Act.put, sq1, sq2, sq3, sq4, sq5, sq6]
      clear Y
      obtain ⟨Y, rfl⟩ : ∃ Y, Y = Z := ⟨_, rfl⟩
      clear hHeld
      refine wpAnyH_done (by kernel_rfl) ?_ _
      have U0 : Blk Y w.heap.size 24 #[.slice (some ⟨p3, 0, none⟩) 2 2] := T0.out
      have U1 : Blk Y (w.heap.size + 1) 29 #[.int .i64 40, .int .i64 0, .int .i64 (-5), .int .i64 15] := T1.out
      have U2 : Blk Y (w.heap.size + 1 + 1) 79 #[.int .i64 1, .int .i64 1, .int .i64 40, .int .i64 0, .int .i64 (-5), .int .i64 15] := T2.out
      have c0 := U0.cell 0
      have d0 := U1.cell 0
      have d1 := U1.cell 1
      have d2 := U1.cell 2
      have d3 := U1.cell 3
      have e0 := U2.cell 0
      have e1 := U2.cell 1
      have e2 := U2.cell 2
      have e3 := U2.cell 3
      have e4 := U2.cell 4
      have e5 := U2.cell 5
      simp only [List.getElem?_toArray, List.getElem?_cons_zero, List.getElem?_cons_succ] at c0 d0 d1 d2 d3 e0 e1 e2 e3 e4 e5
      clear T0 T1 T2 U0 U1 U2
      go_wp2
      refine bodyPost_ret (v := .tuple #[.agg #[.slice (some ⟨p3, 0, none⟩) 2 2], exL.val, exR.val]) (by simp [results, Tryz.results36, go_sem, c0, d0, d1, d2, d3, e0, e1, e2, e3, e4, e5, exL, exR, Lm.val, Rl.val]) rfl ⟨_, 2, rfl, exF_at PX.out.h3 PX.out.h1 PX.out.h2, PX.out.ext⟩
    · go_simp
      refine Calls.mono (HHC.out 15 45 _) ?_
      rintro e X ⟨rfl, hEX⟩
      dsimp only
      replace EX := EX.trans hEX
      (try replace HB1 := hid (HB1.out.ext hEX))
      (try replace HB2 := hid (HB2.out.ext hEX))
      clear hHeld hEX
      refine hK.out _ _ (fun o => EX.cell (p := ⟨w1.heap.size, o, none⟩) lz) (fun hHeld => ?_)
      clear hK K
      try simp only [Act.put, sq1, sq2, sq3, sq4, sq5, sq6]
      refine wpAnyH_ready (rs := [12, 19]) (by kernel_rfl) (by simp) ?_
      refine AllReadyH.cons (o := _) rfl (fun K hK => ?_) (AllReadyH.cons (o := _) rfl (fun K hK => ?_) AllReadyH.nil)
      · go_simp
        obtain ⟨p1, hp, mp1⟩ := absP EX
        obtain ⟨Y, hY⟩ := absW EX (.cells #[.int .i64 10, .int .i64 20, .int .i64 0, .int .i64 0, .int .i64 0, .int .i64 10, .int .i64 10, .int .i64 20, .int .i64 0, .int .i64 0, .int .i64 0, .int .i64 10, .int .i64 10, .int .i64 20, .int .i64 0, .int .i64 0, .int .i64 0, .int .i64 10, .int .i64 10, .int .i64 20, .int .i64 0, .int .i64 0, .int .i64 0, .int .i64 10, .int .i64 30, .int .i64 60, .int .i64 0, .int .i64 0, .int .i64 0, .int .i64 10, .int .i64 30, .int .i64 60, .int .i64 0, .int .i64 0, .int .i64 0, .int .i64 10] 143)
        (try replace HB1 := hid (HB1.out.alloc (.cells #[.int .i64 10, .int .i64 20, .int .i64 0, .int .i64 0, .int .i64 0, .int .i64 10, .int .i64 10, .int .i64 20, .int .i64 0, .int .i64 0, .int .i64 0, .int .i64 10, .int .i64 10, .int .i64 20, .int .i64 0, .int .i64 0, .int .i64 0, .int .i64 10, .int .i64 10, .int .i64 20, .int .i64 0, .int .i64 0, .int .i64 0, .int .i64 10, .int .i64 30, .int .i64 60, .int .i64 0, .int .i64 0, .int .i64 0, .int .i64 10, .int .i64 30, .int .i64 60, .int .i64 0, .int .i64 0, .int .i64 0, .int .i64 10] 143)))
        (try replace HB2 := hid (HB2.out.alloc (.cells #[.int .i64 10, .int .i64 20, .int .i64 0, .int .i64 0, .int .i64 0, .int .i64 10, .int .i64 10, .int .i64 20, .int .i64 0, .int .i64 0, .int .i64 0, .int .i64 10, .int .i64 10, .int .i64 20, .int .i64 0, .int .i64 0, .int .i64 0, .int .i64 10, .int .i64 10, .int .i64 20, .int .i64 0, .int .i64 0, .int .i64 0, .int .i64 10, .int .i64 30, .int .i64 60, .int .i64 0, .int .i64 0, .int .i64 0, .int .i64 10, .int .i64 30, .int .i64 60, .int .i64 0, .int .i64 0, .int .i64 0, .int .i64 10] 143)))
        (try dsimp only at HB1)
        (try dsimp only at HB2)
        have HB1 := hid (blkNew EX 143 #[.int .i64 10, .int .i64 20, .int .i64 0, .int .i64 0, .int .i64 0, .int .i64 10, .int .i64 10, .int .i64 20, .int .i64 0, .int .i64 0, .int .i64 0, .int .i64 10, .int .i64 10, .int .i64 20, .int .i64 0, .int .i64 0, .int .i64 0, .int .i64 10, .int .i64 10, .int .i64 20, .int .i64 0, .int .i64 0, .int .i64 0, .int .i64 10, .int .i64 30, .int .i64 60, .int .i64 0, .int .i64 0, .int .i64 0, .int .i64 10, .int .i64 30, .int .i64 60, .int .i64 0, .int .i64 0, .int .i64 0, .int .i64 10])
        replace EX := EX.alloc (.cells #[.int .i64 10, .int .i64 20, .int .i64 0, .int .i64 0, .int .i64 0, .int .i64 10, .int .i64 10, .int .i64 20, .int .i64 0, .int .i64 0, .int .i64 0, .int .i64 10, .int .i64 10, .int .i64 20, .int .i64 0, .int .i64 0, .int .i64 0, .int .i64 10, .int .i64 10, .int .i64 20, .int .i64 0, .int .i64 0, .int .i64 0, .int .i64 10, .int .i64 30, .int .i64 60, .int .i64 0, .int .i64 0, .int .i64 0, .int .i64 10, .int .i64 30, .int .i64 60, .int .i64 0, .int .i64 0, .int .i64 0, .int .i64 10] 143)
        have hY2 := hY
        (try dsimp only at HB1 EX hY)
        rw [hY] at EX
        (try rw [hY] at HB1)
        (try rw [hY] at HB2)
        first | rw [hY] | rw [hY2]
        rw [hp] at HB1 ⊢
        clear hHeld hY hY2 hp
        refine hK.out _ _ (fun o => EX.cell (p := ⟨w1.heap.size, o, none⟩) lz) (fun hHeld => ?_)
        clear hK K
        try simp only [Act.put, sq1, sq2, sq3, sq4, sq5, sq6]
        refine tk1 (i := 13) (v := ?v13k28) rfl ?y13k28 ?r13k28
        case y13k28 => (intro w' hSw; (try dsimp only at hSw); go_simp; (try with_reducible rfl))
        try simp only [Act.put, sq1, sq2, sq3, sq4, sq5, sq6]
        refine wpAnyH_ready (rs := [19]) (by kernel_rfl) (by simp) ?_
        refine AllReadyH.cons (o := _) rfl (fun K hK => ?_) AllReadyH.nil
        go_simp
        refine Calls.mono (HHC.out 10 20 _) ?_
        rintro e X ⟨rfl, hEX⟩
        dsimp only
        replace EX := EX.trans hEX
        (try replace HB1 := hid (HB1.out.ext hEX))
        (try replace HB2 := hid (HB2.out.ext hEX))
        clear hHeld hEX
        refine hK.out _ _ (fun o => EX.cell (p := ⟨w1.heap.size, o, none⟩) lz) (fun hHeld => ?_)
        clear hK K
        try simp only [Act.put, sq1, sq2, sq3, sq4, sq5, sq6]
        refine wpAnyH_ready (rs := [21]) (by kernel_rfl) (by simp) ?_
        refine AllReadyH.cons (o := _) rfl (fun K hK => ?_) AllReadyH.nil
        go_simp
        refine Calls.mono (HHC.out 10 20 _) ?_
        rintro e X ⟨rfl, hEX⟩
        dsimp only
        replace EX := EX.trans hEX
        (try replace HB1 := hid (HB1.out.ext hEX))
        (try replace HB2 := hid (HB2.out.ext hEX))
        clear hHeld hEX
        refine hK.out _ _ (fun o => EX.cell (p := ⟨w1.heap.size, o, none⟩) lz) (fun hHeld => ?_)
        clear hK K
        try simp only [Act.put, sq1, sq2, sq3, sq4, sq5, sq6]
        refine wpAnyH_ready (rs := [23]) (by kernel_rfl) (by simp) ?_
        refine AllReadyH.cons (o := _) rfl (fun K hK => ?_) AllReadyH.nil
        go_simp
        refine Calls.mono (HHC.out 10 20 _) ?_
        rintro e X ⟨rfl, hEX⟩
        dsimp only
        replace EX := EX.trans hEX
        (try replace HB1 := hid (HB1.out.ext hEX))
        (try replace HB2 := hid (HB2.out.ext hEX))
        clear hHeld hEX
        refine hK.out _ _ (fun o => EX.cell (p := ⟨w1.heap.size, o, none⟩) lz) (fun hHeld => ?_)
        clear hK K
        try simp only [Act.put, sq1, sq2, sq3, sq4, sq5, sq6]
        refine wpAnyH_ready (rs := [25]) (by kernel_rfl) (by simp) ?_
        refine AllReadyH.cons (o := _) rfl (fun K hK => ?_) AllReadyH.nil
        go_simp
        refine Calls.mono (HHC.out 10 20 _) ?_
        rintro e X ⟨rfl, hEX⟩
        dsimp only
        replace EX := EX.trans hEX
        (try replace HB1 := hid (HB1.out.ext hEX))
        (try replace HB2 := hid (HB2.out.ext hEX))
        clear hHeld hEX
        refine hK.out _ _ (fun o => EX.cell (p := ⟨w1.heap.size, o, none⟩) lz) (fun hHeld => ?_)
        clear hK K
        try simp only [Act.put, sq1, sq2, sq3, sq4, sq5, sq6]
        refine wpAnyH_ready (rs := [26]) (by kernel_rfl) (by simp) ?_
        refine AllReadyH.cons (o := _) rfl (fun K hK => ?_) AllReadyH.nil
        go_simp
        obtain ⟨p2, hp, mp2⟩ := absP EX
        obtain ⟨Y, hY⟩ := absW EX (.cells #[.int .i64 15, .int .i64 45, .int .i64 0, .int .i64 0, .int .i64 0, .int .i64 10, .int .i64 15, .int .i64 45, .int .i64 0, .int .i64 0, .int .i64 0, .int .i64 10, .int .i64 10, .int .i64 20, .int .i64 0, .int .i64 0, .int .i64 0, .int .i64 10, .int .i64 10, .int .i64 20, .int .i64 0, .int .i64 0, .int .i64 0, .int .i64 10, .int .i64 10, .int .i64 20, .int .i64 0, .int .i64 0, .int .i64 0, .int .i64 10, .int .i64 10, .int .i64 20, .int .i64 0, .int .i64 0, .int .i64 0, .int .i64 10] 143)
        (try replace HB1 := hid (HB1.out.alloc (.cells #[.int .i64 15, .int .i64 45, .int .i64 0, .int .i64 0, .int .i64 0, .int .i64 10, .int .i64 15, .int .i64 45, .int .i64 0, .int .i64 0, .int .i64 0, .int .i64 10, .int .i64 10, .int .i64 20, .int .i64 0, .int .i64 0, .int .i64 0, .int .i64 10, .int .i64 10, .int .i64 20, .int .i64 0, .int .i64 0, .int .i64 0, .int .i64 10, .int .i64 10, .int .i64 20, .int .i64 0, .int .i64 0, .int .i64 0, .int .i64 10, .int .i64 10, .int .i64 20, .int .i64 0, .int .i64 0, .int .i64 0, .int .i64 10] 143)))
        (try replace HB2 := hid (HB2.out.alloc (.cells #[.int .i64 15, .int .i64 45, .int .i64 0, .int .i64 0, .int .i64 0, .int .i64 10, .int .i64 15, .int .i64 45, .int .i64 0, .int .i64 0, .int .i64 0, .int .i64 10, .int .i64 10, .int .i64 20, .int .i64 0, .int .i64 0, .int .i64 0, .int .i64 10, .int .i64 10, .int .i64 20, .int .i64 0, .int .i64 0, .int .i64 0, .int .i64 10, .int .i64 10, .int .i64 20, .int .i64 0, .int .i64 0, .int .i64 0, .int .i64 10, .int .i64 10, .int .i64 20, .int .i64 0, .int .i64 0, .int .i64 0, .int .i64 10] 143)))
        (try dsimp only at HB1)
        (try dsimp only at HB2)
        have HB2 := hid (blkNew EX 143 #[.int .i64 15, .int .i64 45, .int .i64 0, .int .i64 0, .int .i64 0, .int .i64 10, .int .i64 15, .int .i64 45, .int .i64 0, .int .i64 0, .int .i64 0, .int .i64 10, .int .i64 10, .int .i64 20, .int .i64 0, .int .i64 0, .int .i64 0, .int .i64 10, .int .i64 10, .int .i64 20, .int .i64 0, .int .i64 0, .int .i64 0, .int .i64 10, .int .i64 10, .int .i64 20, .int .i64 0, .int .i64 0, .int .i64 0, .int .i64 10, .int .i64 10, .int .i64 20, .int .i64 0, .int .i64 0, .int .i64 0, .int .i64 10])
        replace EX := EX.alloc (.cells #[.int .i64 15, .int .i64 45, .int .i64 0, .int .i64 0, .int .i64 0, .int .i64 10, .int .i64 15, .int .i64 45, .int .i64 0, .int .i64 0, .int .i64 0, .int .i64 10, .int .i64 10, .int .i64 20, .int .i64 0, .int .i64 0, .int .i64 0, .int .i64 10, .int .i64 10, .int .i64 20, .int .i64 0, .int .i64 0, .int .i64 0, .int .i64 10, .int .i64 10, .int .i64 20, .int .i64 0, .int .i64 0, .int .i64 0, .int .i64 10, .int .i64 10, .int .i64 20, .int .i64 0, .int .i64 0, .int .i64 0, .int .i64 10] 143)
        have hY2 := hY
        (try dsimp only at HB2 EX hY)
        rw [hY] at EX
        (try rw [hY] at HB1)
        (try rw [hY] at HB2)
        first | rw [hY] | rw [hY2]
        rw [hp] at HB2 ⊢
        clear hHeld hY hY2 hp
        refine hK.out _ _ (fun o => EX.cell (p := ⟨w1.heap.size, o, none⟩) lz) (fun hHeld => ?_)
        clear hK K
        try simp only [Act.put, sq1, sq2, sq3, sq4, sq5, sq6]
        refine tk1 (i := 27) (v := ?v27k33) rfl ?y27k33 ?r27k33
        case y27k33 => (intro w' hSw; (try dsimp only at hSw); go_simp; (try with_reducible rfl))
        try simp only [Act.put, sq1, sq2, sq3, sq4, sq5, sq6]
        refine wpAnyH_ready (rs := [28]) (by kernel_rfl) (by simp) ?_
        refine AllReadyH.cons (o := _) rfl (fun K hK => ?_) AllReadyH.nil
        go_simp
        obtain ⟨p3, hp, mp3⟩ := absP EX
        obtain ⟨Y, hY, HB3, HB4, HB5, EY⟩ := ex_b3 EX HB1 HB2
        rw [hY]
        rw [hp] at HB3 ⊢
        clear hY HB1 HB2 hHeld EX hp
        refine hK.out _ _ (fun o => EY.cell (p := ⟨w1.heap.size, o, none⟩) lz) (fun hHeld => ?_)
        clear hK K
        try simp only [Act.put, sq1, sq2, sq3, sq4, sq5, sq6]
        refine tk1 (i := 29) (v := ?v29k34) rfl ?y29k34 ?r29k34
        case y29k34 => (intro w' hSw; (try dsimp only at hSw); go_simp; (try with_reducible rfl))
        try simp only [Act.put, sq1, sq2, sq3, sq4, sq5, sq6]
        have T0 := hid (show Blk _ _ _ _ from S0.out.ext EY)
        have T1 := hid (show Blk _ _ _ _ from S1.out.ext EY)
        have T2 := hid (show Blk _ _ _ _ from S2.out.ext EY)
        have PX := hid (show ExP w W Y w1.heap.size _ _ _ from ⟨HEW.out.trans EY, fun o => EY.cell (p := ⟨w1.heap.size, o, none⟩) lz, HB3.out, HB4.out, HB5.out, by omega, by omega, by omega, by omega, by have := EY.size; omega⟩)
        clear EY HB3 HB4 HB5
        refine wpAnyH_ready (rs := [33]) (by kernel_rfl) (by simp) ?_
        refine AllReadyH.cons (o := _) rfl (fun K hK => ?_) AllReadyH.nil
        refine wp_store_mid 24 _ _ rfl (w.heap.size) 0 (#[.slice (some ⟨p3, 0, none⟩) 2 2]) rfl rfl (blk_there T0.out rfl) infoFc (by simp [Value.oneCell']) ?_
        have HG := hid (grown_setCells (w := Y) (b := w.heap.size) [.slice (some ⟨p3, 0, none⟩) 2 2] 0)
        replace PX := hid (PX.out.set (w.heap.size) (by omega) (by omega) [.slice (some ⟨p3, 0, none⟩) 2 2])
        replace T0 := hid (T0.out.fill [.slice (some ⟨p3, 0, none⟩) 2 2] 0)
        replace T1 := hid (T1.out.grown HG.out (by simp; try omega))
        replace T2 := hid (T2.out.grown HG.out (by simp; try omega))
        obtain ⟨Z, hZ⟩ : ∃ Z, Y.setCells (w.heap.size) 0 [.slice (some ⟨p3, 0, none⟩) 2 2] = Z := ⟨_, rfl⟩
        have hZ2 : Y.setCells (w.heap.size) 0 (#[.slice (some ⟨p3, 0, none⟩) 2 2] : Array Value).toList = Z := hZ
        rw [hZ] at PX T0 T1 T2
        first | rw [hZ2] | rw [hZ]
        clear hZ hZ2 HG hHeld
        refine hK.out _ _ PX.out.lim (fun hHeld => ?_)
        clear hK K
        try simp only [Act.put, sq1, sq2, sq3, sq4, sq5, sq6]
        clear Y
        obtain ⟨Y, rfl⟩ : ∃ Y, Y = Z := ⟨_, rfl⟩
        refine wpAnyH_ready (rs := [34]) (by kernel_rfl) (by simp) ?_
        refine AllReadyH.cons (o := _) rfl (fun K hK => ?_) AllReadyH.nil
        refine wp_store_mid 29 _ _ rfl (w.heap.size + 1) 0 (#[.int .i64 40, .int .i64 0, .int .i64 (-5), .int .i64 15]) rfl rfl (blk_there T1.out rfl) infoLi (by simp [Value.oneCell']) ?_
        have HG := hid (grown_setCells (w := Y) (b := w.heap.size + 1) [.int .i64 40, .int .i64 0, .int .i64 (-5), .int .i64 15] 0)
        replace PX := hid (PX.out.set (w.heap.size + 1) (by omega) (by omega) [.int .i64 40, .int .i64 0, .int .i64 (-5), .int .i64 15])
        replace T1 := hid (T1.out.fill [.int .i64 40, .int .i64 0, .int .i64 (-5), .int .i64 15] 0)
        replace T0 := hid (T0.out.grown HG.out (by simp; try omega))
        replace T2 := hid (T2.out.grown HG.out (by simp; try omega))
        obtain ⟨Z, hZ⟩ : ∃ Z, Y.setCells (w.heap.size + 1) 0 [.int .i64 40, .int .i64 0, .int .i64 (-5), .int .i64 15] = Z := ⟨_, rfl⟩
        have hZ2 : Y.setCells (w.heap.size + 1) 0 (#[.int .i64 40, .int .i64 0, .int .i64 (-5), .int .i64 15] : Array Value).toList = Z := hZ
        rw [hZ] at PX T1 T0 T2
        first | rw [hZ2] | rw [hZ]
        clear hZ hZ2 HG hHeld
        refine hK.out _ _ PX.out.lim (fun hHeld => ?_)
        clear hK K
        try simp only [Act.put, sq1, sq2, sq3, sq4, sq5, sq6]
        clear Y
        obtain ⟨Y, rfl⟩ : ∃ Y, Y = Z := ⟨_, rfl⟩
        refine wpAnyH_ready (rs := [35]) (by kernel_rfl) (by simp) ?_
        refine AllReadyH.cons (o := _) rfl (fun K hK => ?_) AllReadyH.nil
        refine wp_store_mid 79 _ _ rfl (w.heap.size + 1 + 1) 0 (#[.int .i64 1, .int .i64 1, .int .i64 40, .int .i64 0, .int .i64 (-5), .int .i64 15]) rfl rfl (blk_there T2.out rfl) infoRu (by simp [Value.oneCell']) ?_
        have HG := hid (grown_setCells (w := Y) (b := w.heap.size + 1 + 1) [.int .i64 1, .int .i64 1, .int .i64 40, .int .i64 0, .int .i64 (-5), .int .i64 15] 0)
        replace PX := hid (PX.out.set (w.heap.size + 1 + 1) (by omega) (by omega) [.int .i64 1, .int .i64 1, .int .i64 40, .int .i64 0, .int .i64 (-5), .int .i64 15])
        replace T2 := hid (T2.out.fill [.int .i64 1, .int .i64 1, .int .i64 40, .int .i64 0, .int .i64 (-5), .int .i64 15] 0)
        replace T0 := hid (T0.out.grown HG.out (by simp; try omega))
        replace T1 := hid (T1.out.grown HG.out (by simp; try omega))
        obtain ⟨Z, hZ⟩ : ∃ Z, Y.setCells (w.heap.size + 1 + 1) 0 [.int .i64 1, .int .i64 1, .int .i64 40, .int .i64 0, .int .i64 (-5), .int .i64 15] = Z := ⟨_, rfl⟩
        have hZ2 : Y.setCells (w.heap.size + 1 + 1) 0 (#[.int .i64 1, .int .i64 1, .int .i64 40, .int .i64 0, .int .i64 (-5), .int .i64 15] : Array Value).toList = Z := hZ
        rw [hZ] at PX T2 T0 T1
        first | rw [hZ2] | rw [hZ]
        clear hZ hZ2 HG hHeld
        refine hK.out _ _ PX.out.lim (fun hHeld => ?_)
        clear hK K
        try simp only [Act.put, sq1, sq2, sq3, sq4, sq5, sq6]
        clear Y
        obtain ⟨Y, rfl⟩ : ∃ Y, Y = Z := ⟨_, rfl⟩
        clear hHeld
        refine wpAnyH_done (by kernel_rfl) ?_ _
        have U0 : Blk Y w.heap.size 24 #[.slice (some ⟨p3, 0, none⟩) 2 2] := T0.out
        have U1 : Blk Y (w.heap.size + 1) 29 #[.int .i64 40, .int .i64 0, .int .i64 (-5), .int .i64 15] := T1.out
        have U2 : Blk Y (w.heap.size + 1 + 1) 79 #[.int .i64 1, .int .i64 1, .int .i64 40, .int .i64 0, .int .i64 (-5), .int .i64 15] := T2.out
        have c0 := U0.cell 0
        have d0 := U1.cell 0
        have d1 := U1.cell 1
        have d2 := U1.cell 2
        have d3 := U1.cell 3
        have e0 := U2.cell 0
        have e1 := U2.cell 1
        have e2 := U2.cell 2
        have e3 := U2.cell 3
        have e4 := U2.cell 4
        have e5 := U2.cell 5
        simp only [List.getElem?_toArray, List.getElem?_cons_zero, List.getElem?_cons_succ] at c0 d0 d1 d2 d3 e0 e1 e2 e3 e4 e5
        clear T0 T1 T2 U0 U1 U2
        go_wp2
        refine bodyPost_ret (v := .tuple #[.agg #[.slice (some ⟨p3, 0, none⟩) 2 2], exL.val, exR.val]) (by simp [results, Tryz.results36, go_sem, c0, d0, d1, d2, d3, e0, e1, e2, e3, e4, e5, exL, exR, Lm.val, Rl.val]) rfl ⟨_, 2, rfl, exF_at PX.out.h3 PX.out.h1 PX.out.h2, PX.out.ext⟩
      · go_simp
        refine Calls.mono (HHC.out 10 20 _) ?_
        rintro e X ⟨rfl, hEX⟩
        dsimp only
        replace EX := EX.trans hEX
        (try replace HB1 := hid (HB1.out.ext hEX))
        (try replace HB2 := hid (HB2.out.ext hEX))
        clear hHeld hEX
        refine hK.out _ _ (fun o => EX.cell (p := ⟨w1.heap.size, o, none⟩) lz) (fun hHeld => ?_)
        clear hK K
        try simp only [Act.put, sq1, sq2, sq3, sq4, sq5, sq6]
        refine wpAnyH_ready (rs := [12, 21]) (by kernel_rfl) (by simp) ?_
        refine AllReadyH.cons (o := _) rfl (fun K hK => ?_) (AllReadyH.cons (o := _) rfl (fun K hK => ?_) AllReadyH.nil)
        · go_simp
          obtain ⟨p1, hp, mp1⟩ := absP EX
          obtain ⟨Y, hY⟩ := absW EX (.cells #[.int .i64 10, .int .i64 20, .int .i64 0, .int .i64 0, .int .i64 0, .int .i64 10, .int .i64 10, .int .i64 20, .int .i64 0, .int .i64 0, .int .i64 0, .int .i64 10, .int .i64 10, .int .i64 20, .int .i64 0, .int .i64 0, .int .i64 0, .int .i64 10, .int .i64 10, .int .i64 20, .int .i64 0, .int .i64 0, .int .i64 0, .int .i64 10, .int .i64 30, .int .i64 60, .int .i64 0, .int .i64 0, .int .i64 0, .int .i64 10, .int .i64 30, .int .i64 60, .int .i64 0, .int .i64 0, .int .i64 0, .int .i64 10] 143)
          (try replace HB1 := hid (HB1.out.alloc (.cells #[.int .i64 10, .int .i64 20, .int .i64 0, .int .i64 0, .int .i64 0, .int .i64 10, .int .i64 10, .int .i64 20, .int .i64 0, .int .i64 0, .int .i64 0, .int .i64 10, .int .i64 10, .int .i64 20, .int .i64 0, .int .i64 0, .int .i64 0, .int .i64 10, .int .i64 10, .int .i64 20, .int .i64 0, .int .i64 0, .int .i64 0, .int .i64 10, .int .i64 30, .int .i64 60, .int .i64 0, .int .i64 0, .int .i64 0, .int .i64 10, .int .i64 30, .int .i64 60, .int .i64 0, .int .i64 0, .int .i64 0, .int .i64 10] 143)))
          (try replace HB2 := hid (HB2.out.alloc (.cells #[.int .i64 10, .int .i64 20, .int .i64 0, .int .i64 0, .int .i64 0, .int .i64 10, .int .i64 10, .int .i64 20, .int .i64 0, .int .i64 0, .int .i64 0, .int .i64 10, .int .i64 10, .int .i64 20, .int .i64 0, .int .i64 0, .int .i64 0, .int .i64 10, .int .i64 10, .int .i64 20, .int .i64 0, .int .i64 0, .int .i64 0, .int .i64 10, .int .i64 30, .int .i64 60, .int .i64 0, .int .i64 0, .int .i64 0, .int .i64 10, .int .i64 30, .int .i64 60, .int .i64 0, .int .i64 0, .int .i64 0, .int .i64 10] 143)))
          (try dsimp only at HB1)
          (try dsimp only at HB2)
          have HB1 := hid (blkNew EX 143 #[.int .i64 10, .int .i64 20, .int .i64 0, .int .i64 0, .int .i64 0, .int .i64 10, .int .i64 10, .int .i64 20, .int .i64 0, .int .i64 0, .int .i64 0, .int .i64 10, .int .i64 10, .int .i64 20, .int .i64 0, .int .i64 0, .int .i64 0, .int .i64 10, .int .i64 10, .int .i64 20, .int .i64 0, .int .i64 0, .int .i64 0, .int .i64 10, .int .i64 30, .int .i64 60, .int .i64 0, .int .i64 0, .int .i64 0, .int .i64 10, .int .i64 30, .int .i64 60, .int .i64 0, .int .i64 0, .int .i64 0, .int .i64 10])
          replace EX := EX.alloc (.cells #[.int .i64 10, .int .i64 20, .int .i64 0, .int .i64 0, .int .i64 0, .int .i64 10, .int .i64 10, .int .i64 20, .int .i64 0, .int .i64 0, .int .i64 0, .int .i64 10, .int .i64 10, .int .i64 20, .int .i64 0, .int .i64 0, .int .i64 0, .int .i64 10, .int .i64 10, .int .i64 20, .int .i64 0, .int .i64 0, .int .i64 0, .int .i64 10, .int .i64 30, .int .i64 60, .int .i64 0, .int .i64 0, .int .i64 0, .int .i64 10, .int .i64 30, .int .i64 60, .int .i64 0, .int .i64 0, .int .i64 0, .int .i64 10] 143)
          have hY2 := hY
          (try dsimp only at HB1 EX hY)
          rw [hY] at EX
          (try rw [hY] at HB1)
          (try rw [hY] at HB2)
          first | rw [hY] | rw [hY2]
          rw [hp] at HB1 ⊢
          clear hHeld hY hY2 hp
          refine hK.out _ _ (fun o => EX.cell (p := ⟨w1.heap.size, o, none⟩) lz) (fun hHeld => ?_)
          clear hK K
          try simp only [Act.put, sq1, sq2, sq3, sq4, sq5, sq6]
          refine tk1 (i := 13) (v := ?v13k37) rfl ?y13k37 ?r13k37
          case y13k37 => (intro w' hSw; (try dsimp only at hSw); go_simp; (try with_reducible rfl))
          try simp only [Act.put, sq1, sq2, sq3, sq4, sq5, sq6]
          refine wpAnyH_ready (rs := [21]) (by kernel_rfl) (by simp) ?_
          refine AllReadyH.cons (o := _) rfl (fun K hK => ?_) AllReadyH.nil
          go_simp
          refine Calls.mono (HHC.out 10 20 _) ?_
          rintro e X ⟨rfl, hEX⟩
          dsimp only
          replace EX := EX.trans hEX
          (try replace HB1 := hid (HB1.out.ext hEX))
          (try replace HB2 := hid (HB2.out.ext hEX))
          clear hHeld hEX
          refine hK.out _ _ (fun o => EX.cell (p := ⟨w1.heap.size, o, none⟩) lz) (fun hHeld => ?_)
          clear hK K
          try simp only [Act.put, sq1, sq2, sq3, sq4, sq5, sq6]
          refine wpAnyH_ready (rs := [23]) (by kernel_rfl) (by simp) ?_
          refine AllReadyH.cons (o := _) rfl (fun K hK => ?_) AllReadyH.nil
          go_simp
          refine Calls.mono (HHC.out 10 20 _) ?_
          rintro e X ⟨rfl, hEX⟩
          dsimp only
          replace EX := EX.trans hEX
          (try replace HB1 := hid (HB1.out.ext hEX))
          (try replace HB2 := hid (HB2.out.ext hEX))
          clear hHeld hEX
          refine hK.out _ _ (fun o => EX.cell (p := ⟨w1.heap.size, o, none⟩) lz) (fun hHeld => ?_)
          clear hK K
          try simp only [Act.put, sq1, sq2, sq3, sq4, sq5, sq6]
          refine wpAnyH_ready (rs := [25]) (by kernel_rfl) (by simp) ?_
          refine AllReadyH.cons (o := _) rfl (fun K hK => ?_) AllReadyH.nil
          go_simp
          refine Calls.mono (HHC.out 10 20 _) ?_
          rintro e X ⟨rfl, hEX⟩
          dsimp only
          replace EX := EX.trans hEX
          (try replace HB1 := hid (HB1.out.ext hEX))
          (try replace HB2 := hid (HB2.out.ext hEX))
          clear hHeld hEX
          refine hK.out _ _ (fun o => EX.cell (p := ⟨w1.heap.size, o, none⟩) lz) (fun hHeld => ?_)
          clear hK K
          try simp only [Act.put, sq1, sq2, sq3, sq4, sq5, sq6]
          refine wpAnyH_ready (rs := [26]) (by kernel_rfl) (by simp) ?_
          refine AllReadyH.cons (o := _) rfl (fun K hK => ?_) AllReadyH.nil
          go_simp
          obtain ⟨p2, hp, mp2⟩ := absP EX
          obtain ⟨Y, hY⟩ := absW EX (.cells #[.int .i64 15, .int .i64 45, .int .i64 0, .int .i64 0, .int .i64 0, .int .i64 10, .int .i64 15, .int .i64 45, .int .i64 0, .int .i64 0, .int .i64 0, .int .i64 10, .int .i64 10, .int .i64 20, .int .i64 0, .int .i64 0, .int .i64 0, .int .i64 10, .int .i64 10, .int .i64 20, .int .i64 0, .int .i64 0, .int .i64 0, .int .i64 10, .int .i64 10, .int .i64 20, .int .i64 0, .int .i64 0, .int .i64 0, .int .i64 10, .int .i64 10, .int .i64 20, .int .i64 0, .int .i64 0, .int .i64 0, .int .i64 10] 143)
          (try replace HB1 := hid (HB1.out.alloc (.cells #[.int .i64 15, .int .i64 45, .int .i64 0, .int .i64 0, .int .i64 0, .int .i64 10, .int .i64 15, .int .i64 45, .int .i64 0, .int .i64 0, .int .i64 0, .int .i64 10, .int .i64 10, .int .i64 20, .int .i64 0, .int .i64 0, .int .i64 0, .int .i64 10, .int .i64 10, .int .i64 20, .int .i64 0, .int .i64 0, .int .i64 0, .int .i64 10, .int .i64 10, .int .i64 20, .int .i64 0, .int .i64 0, .int .i64 0, .int .i64 10, .int .i64 10, .int .i64 20, .int .i64 0, .int .i64 0, .int .i64 0, .int .i64 10] 143)))
          (try replace HB2 := hid (HB2.out.alloc (.cells #[.int .i64 15, .int .i64 45, .int .i64 0, .int .i64 0, .int .i64 0, .int .i64 10, .int .i64 15, .int .i64 45, .int .i64 0, .int .i64 0, .int .i64 0, .int .i64 10, .int .i64 10, .int .i64 20, .int .i64 0, .int .i64 0, .int .i64 0, .int .i64 10, .int .i64 10, .int .i64 20, .int .i64 0, .int .i64 0, .int .i64 0, .int .i64 10, .int .i64 10, .int .i64 20, .int .i64 0, .int .i64 0, .int .i64 0, .int .i64 10, .int .i64 10, .int .i64 20, .int .i64 0, .int .i64 0, .int .i64 0, .int .i64 10] 143)))
          (try dsimp only at HB1)
          (try dsimp only at HB2)
          have HB2 := hid (blkNew EX 143 #[.int .i64 15, .int .i64 45, .int .i64 0, .int .i64 0, .int .i64 0, .int .i64 10, .int .i64 15, .int .i64 45, .int .i64 0, .int .i64 0, .int .i64 0, .int .i64 10, .int .i64 10, .int .i64 20, .int .i64 0, .int .i64 0, .int .i64 0, .int .i64 10, .int .i64 10, .int .i64 20, .int .i64 0, .int .i64 0, .int .i64 0, .int .i64 10, .int .i64 10, .int .i64 20, .int .i64 0, .int .i64 0, .int .i64 0, .int .i64 10, .int .i64 10, .int .i64 20, .int .i64 0, .int .i64 0, .int .i64 0, .int .i64 10])
          replace EX := EX.alloc (.cells #[.int .i64 15, .int .i64 45, .int .i64 0, .int .i64 0, .int .i64 0, .int .i64 10, .int .i64 15, .int .i64 45, .int .i64 0, .int .i64 0, .int .i64 0, .int .i64 10, .int .i64 10, .int .i64 20, .int .i64 0, .int .i64 0, .int .i64 0, .int .i64 10, .int .i64 10, .int .i64 20, .int .i64 0, .int .i64 0, .int .i64 0, .int .i64 10, .int .i64 10, .int .i64 20, .int .i64 0, .int .i64 0, .int .i64 0, .int .i64 10, .int .i64 10, .int .i64 20, .int .i64 0, .int .i64 0, .int .i64 0, .int .i64 10] 143)
          have hY2 := hY
          (try dsimp only at HB2 EX hY)
          rw [hY] at EX
          (try rw [hY] at HB1)
          (try rw [hY] at HB2)
          first | rw [hY] | rw [hY2]
          rw [hp] at HB2 ⊢
          clear hHeld hY hY2 hp
          refine hK.out _ _ (fun o => EX.cell (p := ⟨w1.heap.size, o, none⟩) lz) (fun hHeld => ?_)
          clear hK K
          try simp only [Act.put, sq1, sq2, sq3, sq4, sq5, sq6]
          refine tk1 (i := 27) (v := ?v27k41) rfl ?y27k41 ?r27k41
          case y27k41 => (intro w' hSw; (try dsimp only at hSw); go_simp; (try with_reducible rfl))
          try simp only [Act.put, sq1, sq2, sq3, sq4, sq5, sq6]
          refine wpAnyH_ready (rs := [28]) (by kernel_rfl) (by simp) ?_
          refine AllReadyH.cons (o := _) rfl (fun K hK => ?_) AllReadyH.nil
          go_simp
          obtain ⟨p3, hp, mp3⟩ := absP EX
          obtain ⟨Y, hY, HB3, HB4, HB5, EY⟩ := ex_b3 EX HB1 HB2
          rw [hY]
          rw [hp] at HB3 ⊢
          clear hY HB1 HB2 hHeld EX hp
          refine hK.out _ _ (fun o => EY.cell (p := ⟨w1.heap.size, o, none⟩) lz) (fun hHeld => ?_)
          clear hK K
          try simp only [Act.put, sq1, sq2, sq3, sq4, sq5, sq6]
          refine tk1 (i := 29) (v := ?v29k42) rfl ?y29k42 ?r29k42
          case y29k42 => (intro w' hSw; (try dsimp only at hSw); go_simp; (try with_reducible rfl))
          try simp only [Act.put, sq1, sq2, sq3, sq4, sq5, sq6]
          have T0 := hid (show Blk _ _ _ _ from S0.out.ext EY)
          have T1 := hid (show Blk _ _ _ _ from S1.out.ext EY)
          have T2 := hid (show Blk _ _ _ _ from S2.out.ext EY)
          have PX := hid (show ExP w W Y w1.heap.size _ _ _ from ⟨HEW.out.trans EY, fun o => EY.cell (p := ⟨w1.heap.size, o, none⟩) lz, HB3.out, HB4.out, HB5.out, by omega, by omega, by omega, by omega, by have := EY.size; omega⟩)
          clear EY HB3 HB4 HB5
          refine wpAnyH_ready (rs := [33]) (by kernel_rfl) (by simp) ?_
          refine AllReadyH.cons (o := _) rfl (fun K hK => ?_) AllReadyH.nil
          refine wp_store_mid 24 _ _ rfl (w.heap.size) 0 (#[.slice (some ⟨p3, 0, none⟩) 2 2]) rfl rfl (blk_there T0.out rfl) infoFc (by simp [Value.oneCell']) ?_
          have HG := hid (grown_setCells (w := Y) (b := w.heap.size) [.slice (some ⟨p3, 0, none⟩) 2 2] 0)
          replace PX := hid (PX.out.set (w.heap.size) (by omega) (by omega) [.slice (some ⟨p3, 0, none⟩) 2 2])
          replace T0 := hid (T0.out.fill [.slice (some ⟨p3, 0, none⟩) 2 2] 0)
          replace T1 := hid (T1.out.grown HG.out (by simp; try omega))
          replace T2 := hid (T2.out.grown HG.out (by simp; try omega))
          obtain ⟨Z, hZ⟩ : ∃ Z, Y.setCells (w.heap.size) 0 [.slice (some ⟨p3, 0, none⟩) 2 2] = Z := ⟨_, rfl⟩
          have hZ2 : Y.setCells (w.heap.size) 0 (#[.slice (some ⟨p3, 0, none⟩) 2 2] : Array Value).toList = Z := hZ
          rw [hZ] at PX T0 T1 T2
          first | rw [hZ2] | rw [hZ]
          clear hZ hZ2 HG hHeld
          refine hK.out _ _ PX.out.lim (fun hHeld => ?_)
          clear hK K
          try simp only [Act.put, sq1, sq2, sq3, sq4, sq5, sq6]
          clear Y
          obtain ⟨Y, rfl⟩ : ∃ Y, Y = Z := ⟨_, rfl⟩
          refine wpAnyH_ready (rs := [34]) (by kernel_rfl) (by simp) ?_
          refine AllReadyH.cons (o := _) rfl (fun K hK => ?_) AllReadyH.nil
          refine wp_store_mid 29 _ _ rfl (w.heap.size + 1) 0 (#[.int .i64 40, .int .i64 0, .int .i64 (-5), .int .i64 15]) rfl rfl (blk_there T1.out rfl) infoLi (by simp [Value.oneCell']) ?_
          have HG := hid (grown_setCells (w := Y) (b := w.heap.size + 1) [.int .i64 40, .int .i64 0, .int .i64 (-5), .int .i64 15] 0)
          replace PX := hid (PX.out.set (w.heap.size + 1) (by omega) (by omega) [.int .i64 40, .int .i64 0, .int .i64 (-5), .int .i64 15])
          replace T1 := hid (T1.out.fill [.int .i64 40, .int .i64 0, .int .i64 (-5), .int .i64 15] 0)
          replace T0 := hid (T0.out.grown HG.out (by simp; try omega))
          replace T2 := hid (T2.out.grown HG.out (by simp; try omega))
          obtain ⟨Z, hZ⟩ : ∃ Z, Y.setCells (w.heap.size + 1) 0 [.int .i64 40, .int .i64 0, .int .i64 (-5), .int .i64 15] = Z := ⟨_, rfl⟩
          have hZ2 : Y.setCells (w.heap.size + 1) 0 (#[.int .i64 40, .int .i64 0, .int .i64 (-5), .int .i64 15] : Array Value).toList = Z := hZ
          rw [hZ] at PX T1 T0 T2
          first | rw [hZ2] | rw [hZ]
          clear hZ hZ2 HG hHeld
          refine hK.out _ _ PX.out.lim (fun hHeld => ?_)
          clear hK K
          try simp only [Act.put, sq1, sq2, sq3, sq4, sq5, sq6]
          clear Y
          obtain ⟨Y, rfl⟩ : ∃ Y, Y = Z := ⟨_, rfl⟩
          refine wpAnyH_ready (rs := [35]) (by kernel_rfl) (by simp) ?_
          refine AllReadyH.cons (o := _) rfl (fun K hK => ?_) AllReadyH.nil
          refine wp_store_mid 79 _ _ rfl (w.heap.size + 1 + 1) 0 (#[.int .i64 1, .int .i64 1, .int .i64 40, .int .i64 0, .int .i64 (-5), .int .i64 15]) rfl rfl (blk_there T2.out rfl) infoRu (by simp [Value.oneCell']) ?_
          have HG := hid (grown_setCells (w := Y) (b := w.heap.size + 1 + 1) [.int .i64 1, .int .i64 1, .int .i64 40, .int .i64 0, .int .i64 (-5), .int .i64 15] 0)
          replace PX := hid (PX.out.set (w.heap.size + 1 + 1) (by omega) (by omega) [.int .i64 1, .int .i64 1, .int .i64 40, .int .i64 0, .int .i64 (-5), .int .i64 15])
          replace T2 := hid (T2.out.fill [.int .i64 1, .int .i64 1, .int .i64 40, .int .i64 0, .int .i64 (-5), .int .i64 15] 0)
          replace T0 := hid (T0.out.grown HG.out (by simp; try omega))
          replace T1 := hid (T1.out.grown HG.out (by simp; try omega))
          obtain ⟨Z, hZ⟩ : ∃ Z, Y.setCells (w.heap.size + 1 + 1) 0 [.int .i64 1, .int .i64 1, .int .i64 40, .int .i64 0, .int .i64 (-5), .int .i64 15] = Z := ⟨_, rfl⟩
          have hZ2 : Y.setCells (w.heap.size + 1 + 1) 0 (#[.int .i64 1, .int .i64 1, .int .i64 40, .int .i64 0, .int .i64 (-5), .int .i64 15] : Array Value).toList = Z := hZ
          rw [hZ] at PX T2 T0 T1
          first | rw [hZ2] | rw [hZ]
          clear hZ hZ2 HG hHeld
          refine hK.out _ _ PX.out.lim (fun hHeld => ?_)
          clear hK K
          try simp only [Act.put, sq1, sq2, sq3, sq4, sq5, sq6]
          clear Y
          obtain ⟨Y, rfl⟩ : ∃ Y, Y = Z := ⟨_, rfl⟩
          clear hHeld
          refine wpAnyH_done (by kernel_rfl) ?_ _
          have U0 : Blk Y w.heap.size 24 #[.slice (some ⟨p3, 0, none⟩) 2 2] := T0.out
          have U1 : Blk Y (w.heap.size + 1) 29 #[.int .i64 40, .int .i64 0, .int .i64 (-5), .int .i64 15] := T1.out
          have U2 : Blk Y (w.heap.size + 1 + 1) 79 #[.int .i64 1, .int .i64 1, .int .i64 40, .int .i64 0, .int .i64 (-5), .int .i64 15] := T2.out
          have c0 := U0.cell 0
          have d0 := U1.cell 0
          have d1 := U1.cell 1
          have d2 := U1.cell 2
          have d3 := U1.cell 3
          have e0 := U2.cell 0
          have e1 := U2.cell 1
          have e2 := U2.cell 2
          have e3 := U2.cell 3
          have e4 := U2.cell 4
          have e5 := U2.cell 5
          simp only [List.getElem?_toArray, List.getElem?_cons_zero, List.getElem?_cons_succ] at c0 d0 d1 d2 d3 e0 e1 e2 e3 e4 e5
          clear T0 T1 T2 U0 U1 U2
          go_wp2
          refine bodyPost_ret (v := .tuple #[.agg #[.slice (some ⟨p3, 0, none⟩) 2 2], exL.val, exR.val]) (by simp [results, Tryz.results36, go_sem, c0, d0, d1, d2, d3, e0, e1, e2, e3, e4, e5, exL, exR, Lm.val, Rl.val]) rfl ⟨_, 2, rfl, exF_at PX.out.h3 PX.out.h1 PX.out.h2, PX.out.ext⟩
        · go_simp
          refine Calls.mono (HHC.out 10 20 _) ?_
          rintro e X ⟨rfl, hEX⟩
          dsimp only
          replace EX := EX.trans hEX
          (try replace HB1 := hid (HB1.out.ext hEX))
          (try replace HB2 := hid (HB2.out.ext hEX))
          clear hHeld hEX
          refine hK.out _ _ (fun o => EX.cell (p := ⟨w1.heap.size, o, none⟩) lz) (fun hHeld => ?_)
          clear hK K
          try simp only [Act.put, sq1, sq2, sq3, sq4, sq5, sq6]
          refine wpAnyH_ready (rs := [12, 23]) (by kernel_rfl) (by simp) ?_
          refine AllReadyH.cons (o := _) rfl (fun K hK => ?_) (AllReadyH.cons (o := _) rfl (fun K hK => ?_) AllReadyH.nil)
          · go_simp
            obtain ⟨p1, hp, mp1⟩ := absP EX
            obtain ⟨Y, hY⟩ := absW EX (.cells #[.int .i64 10, .int .i64 20, .int .i64 0, .int .i64 0, .int .i64 0, .int .i64 10, .int .i64 10, .int .i64 20, .int .i64 0, .int .i64 0, .int .i64 0, .int .i64 10, .int .i64 10, .int .i64 20, .int .i64 0, .int .i64 0, .int .i64 0, .int .i64 10, .int .i64 10, .int .i64 20, .int .i64 0, .int .i64 0, .int .i64 0, .int .i64 10, .int .i64 30, .int .i64 60, .int .i64 0, .int .i64 0, .int .i64 0, .int .i64 10, .int .i64 30, .int .i64 60, .int .i64 0, .int .i64 0, .int .i64 0, .int .i64 10] 143)
            (try replace HB1 := hid (HB1.out.alloc (.cells #[.int .i64 10, .int .i64 20, .int .i64 0, .int .i64 0, .int .i64 0, .int .i64 10, .int .i64 10, .int .i64 20, .int .i64 0, .int .i64 0, .int .i64 0, .int .i64 10, .int .i64 10, .int .i64 20, .int .i64 0, .int .i64 0, .int .i64 0, .int .i64 10, .int .i64 10, .int .i64 20, .int .i64 0, .int .i64 0, .int .i64 0, .int .i64 10, .int .i64 30, .int .i64 60, .int .i64 0, .int .i64 0, .int .i64 0, .int .i64 10, .int .i64 30, .int .i64 60, .int .i64 0, .int .i64 0, .int .i64 0, .int .i64 10] 143)))
            (try replace HB2 := hid (HB2.out.alloc (.cells #[.int .i64 10, .int .i64 20, .int .i64 0, .int .i64 0, .int .i64 0, .int .i64 10, .int .i64 10, .int .i64 20, .int .i64 0, .int .i64 0, .int .i64 0, .int .i64 10, .int .i64 10, .int .i64 20, .int .i64 0, .int .i64 0, .int .i64 0, .int .i64 10, .int .i64 10, .int .i64 20, .int .i64 0, .int .i64 0, .int .i64 0, .int .i64 10, .int .i64 30, .int .i64 60, .int .i64 0, .int .i64 0, .int .i64 0, .int .i64 10, .int .i64 30, .int .i64 60, .int .i64 0, .int .i64 0, .int .i64 0, .int .i64 10] 143)))
            (try dsimp only at HB1)
            (try dsimp only at HB2)
            have HB1 := hid (blkNew EX 143 #[.int .i64 10, .int .i64 20, .int .i64 0, .int .i64 0, .int .i64 0, .int .i64 10, .int .i64 10, .int .i64 20, .int .i64 0, .int .i64 0, .int .i64 0, .int .i64 10, .int .i64 10, .int .i64 20, .int .i64 0, .int .i64 0, .int .i64 0, .int .i64 10, .int .i64 10, .int .i64 20, .int .i64 0, .int .i64 0, .int .i64 0, .int .i64 10, .int .i64 30, .int .i64 60, .int .i64 0, .int .i64 0, .int .i64 0, .int .i64 10, .int .i64 30, .int .i64 60, .int .i64 0, .int .i64 0, .int .i64 0, .int .i64 10])
            replace EX := EX.alloc (.cells #[.int .i64 10, .int .i64 20, .int .i64 0, .int .i64 0, .int .i64 0, .int .i64 10, .int .i64 10, .int .i64 20, .int .i64 0, .int .i64 0, .int .i64 0, .int .i64 10, .int .i64 10, .int .i64 20, .int .i64 0, .int .i64 0, .int .i64 0, .int .i64 10, .int .i64 10, .int .i64 20, .int .i64 0, .int .i64 0, .int .i64 0, .int .i64 10, .int .i64 30, .int .i64 60, .int .i64 0, .int .i64 0, .int .i64 0, .int .i64 10, .int .i64 30, .int .i64 60, .int .i64 0, .int .i64 0, .int .i64 0, .int .i64 10] 143)
            have hY2 := hY
            (try dsimp only at HB1 EX hY)
            rw [hY] at EX
            (try rw [hY] at HB1)
            (try rw [hY] at HB2)
            first | rw [hY] | rw [hY2]
            rw [hp] at HB1 ⊢
            clear hHeld hY hY2 hp
            refine hK.out _ _ (fun o => EX.cell (p := ⟨w1.heap.size, o, none⟩) lz) (fun hHeld => ?_)
            clear hK K
            try simp only [Act.put, sq1, sq2, sq3, sq4, sq5, sq6]
            refine tk1 (i := 13) (v := ?v13k45) rfl ?y13k45 ?r13k45
            case y13k45 => (intro w' hSw; (try dsimp only at hSw); go_simp; (try with_reducible rfl))
            try simp only [Act.put, sq1, sq2, sq3, sq4, sq5, sq6]
            refine wpAnyH_ready (rs := [23]) (by kernel_rfl) (by simp) ?_
            refine AllReadyH.cons (o := _) rfl (fun K hK => ?_) AllReadyH.nil
            go_simp
            refine Calls.mono (HHC.out 10 20 _) ?_
            rintro e X ⟨rfl, hEX⟩
            dsimp only
            replace EX := EX.trans hEX
            (try replace HB1 := hid (HB1.out.ext hEX))
            (try replace HB2 := hid (HB2.out.ext hEX))
            clear hHeld hEX
            refine hK.out _ _ (fun o => EX.cell (p := ⟨w1.heap.size, o, none⟩) lz) (fun hHeld => ?_)
            clear hK K
            try simp only [Act.put, sq1, sq2, sq3, sq4, sq5, sq6]
            refine wpAnyH_ready (rs := [25]) (by kernel_rfl) (by simp) ?_
            refine AllReadyH.cons (o := _) rfl (fun K hK => ?_) AllReadyH.nil
            go_simp
            refine Calls.mono (HHC.out 10 20 _) ?_
            rintro e X ⟨rfl, hEX⟩
            dsimp only
            replace EX := EX.trans hEX
            (try replace HB1 := hid (HB1.out.ext hEX))
            (try replace HB2 := hid (HB2.out.ext hEX))
            clear hHeld hEX
            refine hK.out _ _ (fun o => EX.cell (p := ⟨w1.heap.size, o, none⟩) lz) (fun hHeld => ?_)
            clear hK K
            try simp only [Act.put, sq1, sq2, sq3, sq4, sq5, sq6]
            refine wpAnyH_ready (rs := [26]) (by kernel_rfl) (by simp) ?_
            refine AllReadyH.cons (o := _) rfl (fun K hK => ?_) AllReadyH.nil
            go_simp
            obtain ⟨p2, hp, mp2⟩ := absP EX
            obtain ⟨Y, hY⟩ := absW EX (.cells #[.int .i64 15, .int .i64 45, .int .i64 0, .int .i64 0, .int .i64 0, .int .i64 10, .int .i64 15, .int .i64 45, .int .i64 0, .int .i64 0, .int .i64 0, .int .i64 10, .int .i64 10, .int .i64 20, .int .i64 0, .int .i64 0, .int .i64 0, .int .i64 10, .int .i64 10, .int .i64 20, .int .i64 0, .int .i64 0, .int .i64 0, .int .i64 10, .int .i64 10, .int .i64 20, .int .i64 0, .int .i64 0, .int .i64 0, .int .i64 10, .int .i64 10, .int .i64 20, .int .i64 0, .int .i64 0, .int .i64 0, .int .i64 10] 143)
            (try replace HB1 := hid (HB1.out.alloc (.cells #[.int .i64 15, .int .i64 45, .int .i64 0, .int .i64 0, .int .i64 0, .int .i64 10, .int .i64 15, .int .i64 45, .int .i64 0, .int .i64 0, .int .i64 0, .int .i64 10, .int .i64 10, .int .i64 20, .int .i64 0, .int .i64 0, .int .i64 0, .int .i64 10, .int .i64 10, .int .i64 20, .int .i64 0, .int .i64 0, .int .i64 0, .int .i64 10, .int .i64 10, .int .i64 20, .int .i64 0, .int .i64 0, .int .i64 0, .int .i64 10, .int .i64 10, .int .i64 20, .int .i64 0, .int .i64 0, .int .i64 0, .int .i64 10] 143)))
            (try replace HB2 := hid (HB2.out.alloc (.cells #[.int .i64 15, .int .i64 45, .int .i64 0, .int .i64 0, .int .i64 0, .int .i64 10, .int .i64 15, .int .i64 45, .int .i64 0, .int .i64 0, .int .i64 0, .int .i64 10, .int .i64 10, .int .i64 20, .int .i64 0, .int .i64 0, .int .i64 0, .int .i64 10, .int .i64 10, .int .i64 20, .int .i64 0, .int .i64 0, .int .i64 0, .int .i64 10, .int .i64 10, .int .i64 20, .int .i64 0, .int .i64 0, .int .i64 0, .int .i64 10, .int .i64 10, .int .i64 20, .int .i64 0, .int .i64 0, .int .i64 0, .int .i64 10] 143)))
            (try dsimp only at HB1)
            (try dsimp only at HB2)
            have HB2 := hid (blkNew EX 143 #[.int .i64 15, .int .i64 45, .int .i64 0, .int .i64 0, .int .i64 0, .int .i64 10, .int .i64 15, .int .i64 45, .int .i64 0, .int .i64 0, .int .i64 0, .int .i64 10, .int .i64 10, .int .i64 20, .int .i64 0, .int .i64 0, .int .i64 0, .int .i64 10, .int .i64 10, .int .i64 20, .int .i64 0, .int .i64 0, .int .i64 0, .int .i64 10, .int .i64 10, .int .i64 20, .int .i64 0, .int .i64 0, .int .i64 0, .int .i64 10, .int .i64 10, .int .i64 20, .int .i64 0, .int .i64 0, .int .i64 0, .int .i64 10])
            replace EX := EX.alloc (.cells #[.int .i64 15, .int .i64 45, .int .i64 0, .int .i64 0, .int .i64 0, .int .i64 10, .int .i64 15, .int .i64 45, .int .i64 0, .int .i64 0, .int .i64 0, .int .i64 10, .int .i64 10, .int .i64 20, .int .i64 0, .int .i64 0, .int .i64 0, .int .i64 10, .int .i64 10, .int .i64 20, .int .i64 0, .int .i64 0, .int .i64 0, .int .i64 10, .int .i64 10, .int .i64 20, .int .i64 0, .int .i64 0, .int .i64 0, .int .i64 10, .int .i64 10, .int .i64 20, .int .i64 0, .int .i64 0, .int .i64 0, .int .i64 10] 143)
            have hY2 := hY
            (try dsimp only at HB2 EX hY)
            rw [hY] at EX
            (try rw [hY] at HB1)
            (try rw [hY] at HB2)
            first | rw [hY] | rw [hY2]
            rw [hp] at HB2 ⊢
            clear hHeld hY hY2 hp
            refine hK.out _ _ (fun o => EX.cell (p := ⟨w1.heap.size, o, none⟩) lz) (fun hHeld => ?_)
            clear hK K
            try simp only [Act.put, sq1, sq2, sq3, sq4, sq5, sq6]
            refine tk1 (i := 27) (v := ?v27k48) rfl ?y27k48 ?r27k48
            case y27k48 => (intro w' hSw; (try dsimp only at hSw); go_simp; (try with_reducible rfl))
            try simp only [Act.put, sq1, sq2, sq3, sq4, sq5, sq6]
            refine wpAnyH_ready (rs := [28]) (by kernel_rfl) (by simp) ?_
            refine AllReadyH.cons (o := _) rfl (fun K hK => ?_) AllReadyH.nil
            go_simp
            obtain ⟨p3, hp, mp3⟩ := absP EX
            obtain ⟨Y, hY, HB3, HB4, HB5, EY⟩ := ex_b3 EX HB1 HB2
            rw [hY]
            rw [hp] at HB3 ⊢
            clear hY HB1 HB2 hHeld EX hp
            refine hK.out _ _ (fun o => EY.cell (p := ⟨w1.heap.size, o, none⟩) lz) (fun hHeld => ?_)
            clear hK K
            try simp only [Act.put, sq1, sq2, sq3, sq4, sq5, sq6]
            refine tk1 (i := 29) (v := ?v29k49) rfl ?y29k49 ?r29k49
            case y29k49 => (intro w' hSw; (try dsimp only at hSw); go_simp; (try with_reducible rfl))
            try simp only [Act.put, sq1, sq2, sq3, sq4, sq5, sq6]
            have T0 := hid (show Blk _ _ _ _ from S0.out.ext EY)
            have T1 := hid (show Blk _ _ _ _ from S1.out.ext EY)
            have T2 := hid (show Blk _ _ _ _ from S2.out.ext EY)
            have PX := hid (show ExP w W Y w1.heap.size _ _ _ from ⟨HEW.out.trans EY, fun o => EY.cell (p := ⟨w1.heap.size, o, none⟩) lz, HB3.out, HB4.out, HB5.out, by omega, by omega, by omega, by omega, by have := EY.size; omega⟩)
            clear EY HB3 HB4 HB5
            refine wpAnyH_ready (rs := [33]) (by kernel_rfl) (by simp) ?_
            refine AllReadyH.cons (o := _) rfl (fun K hK => ?_) AllReadyH.nil
            refine wp_store_mid 24 _ _ rfl (w.heap.size) 0 (#[.slice (some ⟨p3, 0, none⟩) 2 2]) rfl rfl (blk_there T0.out rfl) infoFc (by simp [Value.oneCell']) ?_
            have HG := hid (grown_setCells (w := Y) (b := w.heap.size) [.slice (some ⟨p3, 0, none⟩) 2 2] 0)
            replace PX := hid (PX.out.set (w.heap.size) (by omega) (by omega) [.slice (some ⟨p3, 0, none⟩) 2 2])
            replace T0 := hid (T0.out.fill [.slice (some ⟨p3, 0, none⟩) 2 2] 0)
            replace T1 := hid (T1.out.grown HG.out (by simp; try omega))
            replace T2 := hid (T2.out.grown HG.out (by simp; try omega))
            obtain ⟨Z, hZ⟩ : ∃ Z, Y.setCells (w.heap.size) 0 [.slice (some ⟨p3, 0, none⟩) 2 2] = Z := ⟨_, rfl⟩
            have hZ2 : Y.setCells (w.heap.size) 0 (#[.slice (some ⟨p3, 0, none⟩) 2 2] : Array Value).toList = Z := hZ
            rw [hZ] at PX T0 T1 T2
            first | rw [hZ2] | rw [hZ]
            clear hZ hZ2 HG hHeld
            refine hK.out _ _ PX.out.lim (fun hHeld => ?_)
            clear hK K
            try simp only [Act.put, sq1, sq2, sq3, sq4, sq5, sq6]
            clear Y
            obtain ⟨Y, rfl⟩ : ∃ Y, Y = Z := ⟨_, rfl⟩
            refine wpAnyH_ready (rs := [34]) (by kernel_rfl) (by simp) ?_
            refine AllReadyH.cons (o := _) rfl (fun K hK => ?_) AllReadyH.nil
            refine wp_store_mid 29 _ _ rfl (w.heap.size + 1) 0 (#[.int .i64 40, .int .i64 0, .int .i64 (-5), .int .i64 15]) rfl rfl (blk_there T1.out rfl) infoLi (by simp [Value.oneCell']) ?_
            have HG := hid (grown_setCells (w := Y) (b := w.heap.size + 1) [.int .i64 40, .int .i64 0, .int .i64 (-5), .int .i64 15] 0)
            replace PX := hid (PX.out.set (w.heap.size + 1) (by omega) (by omega) [.int .i64 40, .int .i64 0, .int .i64 (-5), .int .i64 15])
            replace T1 := hid (T1.out.fill [.int .i64 40, .int .i64 0, .int .i64 (-5), .int .i64 15] 0)
            replace T0 := hid (T0.out.grown HG.out (by simp; try omega))
            replace T2 := hid (T2.out.grown HG.out (by simp; try omega))
            obtain ⟨Z, hZ⟩ : ∃ Z, Y.setCells (w.heap.size + 1) 0 [.int .i64 40, .int .i64 0, .int .i64 (-5), .int .i64 15] = Z := ⟨_, rfl⟩
            have hZ2 : Y.setCells (w.heap.size + 1) 0 (#[.int .i64 40, .int .i64 0, .int .i64 (-5), .int .i64 15] : Array Value).toList = Z := hZ
            rw [hZ] at PX T1 T0 T2
            first | rw [hZ2] | rw [hZ]
            clear hZ hZ2 HG hHeld
            refine hK.out _ _ PX.out.lim (fun hHeld => ?_)
            clear hK K
            try simp only [Act.put, sq1, sq2, sq3, sq4, sq5, sq6]
            clear Y
            obtain ⟨Y, rfl⟩ : ∃ Y, Y = Z := ⟨_, rfl⟩
            refine wpAnyH_ready (rs := [35]) (by kernel_rfl) (by simp) ?_
            refine AllReadyH.cons (o := _) rfl (fun K hK => ?_) AllReadyH.nil
            refine wp_store_mid 79 _ _ rfl (w.heap.size + 1 + 1) 0 (#[.int .i64 1, .int .i64 1, .int .i64 40, .int .i64 0, .int .i64 (-5), .int .i64 15]) rfl rfl (blk_there T2.out rfl) infoRu (by simp [Value.oneCell']) ?_
            have HG := hid (grown_setCells (w := Y) (b := w.heap.size + 1 + 1) [.int .i64 1, .int .i64 1, .int .i64 40, .int .i64 0, .int .i64 (-5), .int .i64 15] 0)
            replace PX := hid (PX.out.set (w.heap.size + 1 + 1) (by omega) (by omega) [.int .i64 1, .int .i64 1, .int .i64 40, .int .i64 0, .int .i64 (-5), .int .i64 15])
            replace T2 := hid (T2.out.fill [.int .i64 1, .int .i64 1, .int .i64 40, .int .i64 0, .int .i64 (-5), .int .i64 15] 0)
            replace T0 := hid (T0.out.grown HG.out (by simp; try omega))
            replace T1 := hid (T1.out.grown HG.out (by simp; try omega))
            obtain ⟨Z, hZ⟩ : ∃ Z, Y.setCells (w.heap.size + 1 + 1) 0 [.int .i64 1, .int .i64 1, .int .i64 40, .int .i64 0, .int .i64 (-5), .int .i64 15] = Z := ⟨_, rfl⟩
            have hZ2 : Y.setCells (w.heap.size + 1 + 1) 0 (#[.int .i64 1, .int .i64 1, .int .i64 40, .int .i64 0, .int .i64 (-5), .int .i64 15] : Array Value).toList = Z := hZ
            rw [hZ] at PX T2 T0 T1
            first | rw [hZ2] | rw [hZ]
            clear hZ hZ2 HG hHeld
            refine hK.out _ _ PX.out.lim (fun hHeld => ?_)
            clear hK K
            try simp only [Act.put, sq1, sq2, sq3, sq4, sq5, sq6]
            clear Y
            obtain ⟨Y, rfl⟩ : ∃ Y, Y = Z := ⟨_, rfl⟩
            clear hHeld
            refine wpAnyH_done (by kernel_rfl) ?_ _
            have U0 : Blk Y w.heap.size 24 #[.slice (some ⟨p3, 0, none⟩) 2 2] := T0.out
            have U1 : Blk Y (w.heap.size + 1) 29 #[.int .i64 40, .int .i64 0, .int .i64 (-5), .int .i64 15] := T1.out
            have U2 : Blk Y (w.heap.size + 1 + 1) 79 #[.int .i64 1, .int .i64 1, .int .i64 40, .int .i64 0, .int .i64 (-5), .int .i64 15] := T2.out
            have c0 := U0.cell 0
            have d0 := U1.cell 0
            have d1 := U1.cell 1
            have d2 := U1.cell 2
            have d3 := U1.cell 3
            have e0 := U2.cell 0
            have e1 := U2.cell 1
            have e2 := U2.cell 2
            have e3 := U2.cell 3
            have e4 := U2.cell 4
            have e5 := U2.cell 5
            simp only [List.getElem?_toArray, List.getElem?_cons_zero, List.getElem?_cons_succ] at c0 d0 d1 d2 d3 e0 e1 e2 e3 e4 e5
            clear T0 T1 T2 U0 U1 U2
            go_wp2
            refine bodyPost_ret (v := .tuple #[.agg #[.slice (some ⟨p3, 0, none⟩) 2 2], exL.val, exR.val]) (by simp [results, Tryz.results36, go_sem, c0, d0, d1, d2, d3, e0, e1, e2, e3, e4, e5, exL, exR, Lm.val, Rl.val]) rfl ⟨_, 2, rfl, exF_at PX.out.h3 PX.out.h1 PX.out.h2, PX.out.ext⟩
          · go_simp
            refine Calls.mono (HHC.out 10 20 _) ?_
            rintro e X ⟨rfl, hEX⟩
            dsimp only
            replace EX := EX.trans hEX
            (try replace HB1 := hid (HB1.out.ext hEX))
            (try replace HB2 := hid (HB2.out.ext hEX))
            clear hHeld hEX
            refine hK.out _ _ (fun o => EX.cell (p := ⟨w1.heap.size, o, none⟩) lz) (fun hHeld => ?_)
            clear hK K
            try simp only [Act.put, sq1, sq2, sq3, sq4, sq5, sq6]
            refine wpAnyH_ready (rs := [12, 25]) (by kernel_rfl) (by simp) ?_
            refine AllReadyH.cons (o := _) rfl (fun K hK => ?_) (AllReadyH.cons (o := _) rfl (fun K hK => ?_) AllReadyH.nil)
            · go_simp
              obtain ⟨p1, hp, mp1⟩ := absP EX
              obtain ⟨Y, hY⟩ := absW EX (.cells #[.int .i64 10, .int .i64 20, .int .i64 0, .int .i64 0, .int .i64 0, .int .i64 10, .int .i64 10, .int .i64 20, .int .i64 0, .int .i64 0, .int .i64 0, .int .i64 10, .int .i64 10, .int .i64 20, .int .i64 0, .int .i64 0, .int .i64 0, .int .i64 10, .int .i64 10, .int .i64 20, .int .i64 0, .int .i64 0, .int .i64 0, .int .i64 10, .int .i64 30, .int .i64 60, .int .i64 0, .int .i64 0, .int .i64 0, .int .i64 10, .int .i64 30, .int .i64 60, .int .i64 0, .int .i64 0, .int .i64 0, .int .i64 10] 143)
              (try replace HB1 := hid (HB1.out.alloc (.cells #[.int .i64 10, .int .i64 20, .int .i64 0, .int .i64 0, .int .i64 0, .int .i64 10, .int .i64 10, .int .i64 20, .int .i64 0, .int .i64 0, .int .i64 0, .int .i64 10, .int .i64 10, .int .i64 20, .int .i64 0, .int .i64 0, .int .i64 0, .int .i64 10, .int .i64 10, .int .i64 20, .int .i64 0, .int .i64 0, .int .i64 0, .int .i64 10, .int .i64 30, .int .i64 60, .int .i64 0, .int .i64 0, .int .i64 0, .int .i64 10, .int .i64 30, .int .i64 60, .int .i64 0, .int .i64 0, .int .i64 0, .int .i64 10] 143)))
              (try replace HB2 := hid (HB2.out.alloc (.cells #[.int .i64 10, .int .i64 20, .int .i64 0, .int .i64 0, .int .i64 0, .int .i64 10, .int .i64 10, .int .i64 20, .int .i64 0, .int .i64 0, .int .i64 0, .int .i64 10, .int .i64 10, .int .i64 20, .int .i64 0, .int .i64 0, .int .i64 0, .int .i64 10, .int .i64 10, .int .i64 20, .int .i64 0, .int .i64 0, .int .i64 0, .int .i64 10, .int .i64 30, .int .i64 60, .int .i64 0, .int .i64 0, .int .i64 0, .int .i64 10, .int .i64 30, .int .i64 60, .int .i64 0, .int .i64 0, .int .i64 0, .int .i64 10] 143)))
              (try dsimp only at HB1)
              (try dsimp only at HB2)
              have HB1 := hid (blkNew EX 143 #[.int .i64 10, .int .i64 20, .int .i64 0, .int .i64 0, .int .i64 0, .int .i64 10, .int .i64 10, .int .i64 20, .int .i64 0, .int .i64 0, .int .i64 0, .int .i64 10, .int .i64 10, .int .i64 20, .int .i64 0, .int .i64 0, .int .i64 0, .int .i64 10, .int .i64 10, .int .i64 20, .int .i64 0, .int .i64 0, .int .i64 0, .int .i64 10, .int .i64 30, .int .i64 60, .int .i64 0, .int .i64 0, .int .i64 0, .int .i64 10, .int .i64 30, .int .i64 60, .int .i64 0, .int .i64 0, .int .i64 0, .int .i64 10])
              replace EX := EX.alloc (.cells #[.int .i64 10, .int .i64 20, .int .i64 0, .int .i64 0, .int .i64 0, .int .i64 10, .int .i64 10, .int .i64 20, .int .i64 0, .int .i64 0, .int .i64 0, .int .i64 10, .int .i64 10, .int .i64 20, .int .i64 0, .int .i64 0, .int .i64 0, .int .i64 10, .int .i64 10, .int .i64 20, .int .i64 0, .int .i64 0, .int .i64 0, .int .i64 10, .int .i64 30, .int .i64 60, .int .i64 0, .int .i64 0, .int .i64 0, .int .i64 10, .int .i64 30, .int .i64 60, .int .i64 0, .int .i64 0, .int .i64 0, .int .i64 10] 143)
              have hY2 := hY
              (try dsimp only at HB1 EX hY)
              rw [hY] at EX
              (try rw [hY] at HB1)
              (try rw [hY] at HB2)
              first | rw [hY] | rw [hY2]
              rw [hp] at HB1 ⊢
              clear hHeld hY hY2 hp
              refine hK.out _ _ (fun o => EX.cell (p := ⟨w1.heap.size, o, none⟩) lz) (fun hHeld => ?_)
              clear hK K
              try simp only [Act.put, sq1, sq2, sq3, sq4, sq5, sq6]
              refine tk1 (i := 13) (v := ?v13k52) rfl ?y13k52 ?r13k52
              case y13k52 => (intro w' hSw; (try dsimp only at hSw); go_simp; (try with_reducible rfl))
              try simp only [Act.put, sq1, sq2, sq3, sq4, sq5, sq6]
              refine wpAnyH_ready (rs := [25]) (by kernel_rfl) (by simp) ?_
              refine AllReadyH.cons (o := _) rfl (fun K hK => ?_) AllReadyH.nil
              go_simp
              refine Calls.mono (HHC.out 10 20 _) ?_
              rintro e X ⟨rfl, hEX⟩
              dsimp only
              replace EX := EX.trans hEX
              (try replace HB1 := hid (HB1.out.ext hEX))
              (try replace HB2 := hid (HB2.out.ext hEX))
              clear hHeld hEX
              refine hK.out _ _ (fun o => EX.cell (p := ⟨w1.heap.size, o, none⟩) lz) (fun hHeld => ?_)
              clear hK K
              try simp only [Act.put, sq1, sq2, sq3, sq4, sq5, sq6]
              refine wpAnyH_ready (rs := [26]) (by kernel_rfl) (by simp) ?_
              refine AllReadyH.cons (o := _) rfl (fun K hK => ?_) AllReadyH.nil
              go_simp
              obtain ⟨p2, hp, mp2⟩ := absP EX
              obtain ⟨Y, hY⟩ := absW EX (.cells #[.int .i64 15, .int .i64 45, .int .i64 0, .int .i64 0, .int .i64 0, .int .i64 10, .int .i64 15, .int .i64 45, .int .i64 0, .int .i64 0, .int .i64 0, .int .i64 10, .int .i64 10, .int .i64 20, .int .i64 0, .int .i64 0, .int .i64 0, .int .i64 10, .int .i64 10, .int .i64 20, .int .i64 0, .int .i64 0, .int .i64 0, .int .i64 10, .int .i64 10, .int .i64 20, .int .i64 0, .int .i64 0, .int .i64 0, .int .i64 10, .int .i64 10, .int .i64 20, .int .i64 0, .int .i64 0, .int .i64 0, .int .i64 10] 143)
              (try replace HB1 := hid (HB1.out.alloc (.cells #[.int .i64 15, .int .i64 45, .int .i64 0, .int .i64 0, .int .i64 0, .int .i64 10, .int .i64 15, .int .i64 45, .int .i64 0, .int .i64 0, .int .i64 0, .int .i64 10, .int .i64 10, .int .i64 20, .int .i64 0, .int .i64 0, .int .i64 0, .int .i64 10, .int .i64 10, .int .i64 20, .int .i64 0, .int .i64 0, .int .i64 0, .int .i64 10, .int .i64 10, .int .i64 20, .int .i64 0, .int .i64 0, .int .i64 0, .int .i64 10, .int .i64 10, .int .i64 20, .int .i64 0, .int .i64 0, .int .i64 0, .int .i64 10] 143)))
              (try replace HB2 := hid (HB2.out.alloc (.cells #[.int .i64 15, .int .i64 45, .int .i64 0, .int .i64 0, .int .i64 0, .int .i64 10, .int .i64 15, .int .i64 45, .int .i64 0, .int .i64 0, .int .i64 0, .int .i64 10, .int .i64 10, .int .i64 20, .int .i64 0, .int .i64 0, .int .i64 0, .int .i64 10, .int .i64 10, .int .i64 20, .int .i64 0, .int .i64 0, .int .i64 0, .int .i64 10, .int .i64 10, .int .i64 20, .int .i64 0, .int .i64 0, .int .i64 0, .int .i64 10, .int .i64 10, .int .i64 20, .int .i64 0, .int .i64 0, .int .i64 0, .int .i64 10] 143)))
              (try dsimp only at HB1)
              (try dsimp only at HB2)
              have HB2 := hid (blkNew EX 143 #[.int .i64 15, .int .i64 45, .int .i64 0, .int .i64 0, .int .i64 0, .int .i64 10, .int .i64 15, .int .i64 45, .int .i64 0, .int .i64 0, .int .i64 0, .int .i64 10, .int .i64 10, .int .i64 20, .int .i64 0, .int .i64 0, .int .i64 0, .int .i64 10, .int .i64 10, .int .i64 20, .int .i64 0, .int .i64 0, .int .i64 0, .int .i64 10, .int .i64 10, .int .i64 20, .int .i64 0, .int .i64 0, .int .i64 0, .int .i64 10, .int .i64 10, .int .i64 20, .int .i64 0, .int .i64 0, .int .i64 0, .int .i64 10])
              replace EX := EX.alloc (.cells #[.int .i64 15, .int .i64 45, .int .i64 0, .int .i64 0, .int .i64 0, .int .i64 10, .int .i64 15, .int .i64 45, .int .i64 0, .int .i64 0, .int .i64 0, .int .i64 10, .int .i64 10, .int .i64 20, .int .i64 0, .int .i64 0, .int .i64 0, .int .i64 10, .int .i64 10, .int .i64 20, .int .i64 0, .int .i64 0, .int .i64 0, .int .i64 10, .int .i64 10, .int .i64 20, .int .i64 0, .int .i64 0, .int .i64 0, .int .i64 10, .int .i64 10, .int .i64 20, .int .i64 0, .int .i64 0, .int .i64 0, .int .i64 10] 143)
              have hY2 := hY
              (try dsimp only at HB2 EX hY)
              rw [hY] at EX
              (try rw [hY] at HB1)
              (try rw [hY] at HB2)
              first | rw [hY] | rw [hY2]
              rw [hp] at HB2 ⊢
              clear hHeld hY hY2 hp
              refine hK.out _ _ (fun o => EX.cell (p := ⟨w1.heap.size, o, none⟩) lz) (fun hHeld => ?_)
              clear hK K
              try simp only [Act.put, sq1, sq2, sq3, sq4, sq5, sq6]
              refine tk1 (i := 27) (v := ?v27k54) rfl ?y27k54 ?r27k54
              case y27k54 => (intro w' hSw; (try dsimp only at hSw); go_simp; (try with_reducible rfl))
              try simp only [Act.put, sq1, sq2, sq3, sq4, sq5, sq6]
              refine wpAnyH_ready (rs := [28]) (by kernel_rfl) (by simp) ?_
              refine AllReadyH.cons (o := _) rfl (fun K hK => ?_) AllReadyH.nil
              go_simp
              obtain ⟨p3, hp, mp3⟩ := absP EX
              obtain ⟨Y, hY, HB3, HB4, HB5, EY⟩ := ex_b3 EX HB1 HB2
              rw [hY]
              rw [hp] at HB3 ⊢
              clear hY HB1 HB2 hHeld EX hp
              refine hK.out _ _ (fun o => EY.cell (p := ⟨w1.heap.size, o, none⟩) lz) (fun hHeld => ?_)
              clear hK K
              try simp only [Act.put, sq1, sq2, sq3, sq4, sq5, sq6]
              refine tk1 (i := 29) (v := ?v29k55) rfl ?y29k55 ?r29k55
              case y29k55 => (intro w' hSw; (try dsimp only at hSw); go_simp; (try with_reducible rfl))
              try simp only [Act.put, sq1, sq2, sq3, sq4, sq5, sq6]
              have T0 := hid (show Blk _ _ _ _ from S0.out.ext EY)
              have T1 := hid (show Blk _ _ _ _ from S1.out.ext EY)
              have T2 := hid (show Blk _ _ _ _ from S2.out.ext EY)
              have PX := hid (show ExP w W Y w1.heap.size _ _ _ from ⟨HEW.out.trans EY, fun o => EY.cell (p := ⟨w1.heap.size, o, none⟩) lz, HB3.out, HB4.out, HB5.out, by omega, by omega, by omega, by omega, by have := EY.size; omega⟩)
              clear EY HB3 HB4 HB5
              refine wpAnyH_ready (rs := [33]) (by kernel_rfl) (by simp) ?_
              refine AllReadyH.cons (o := _) rfl (fun K hK => ?_) AllReadyH.nil
              refine wp_store_mid 24 _ _ rfl (w.heap.size) 0 (#[.slice (some ⟨p3, 0, none⟩) 2 2]) rfl rfl (blk_there T0.out rfl) infoFc (by simp [Value.oneCell']) ?_
              have HG := hid (grown_setCells (w := Y) (b := w.heap.size) [.slice (some ⟨p3, 0, none⟩) 2 2] 0)
              replace PX := hid (PX.out.set (w.heap.size) (by omega) (by omega) [.slice (some ⟨p3, 0, none⟩) 2 2])
              replace T0 := hid (T0.out.fill [.slice (some ⟨p3, 0, none⟩) 2 2] 0)
              replace T1 := hid (T1.out.grown HG.out (by simp; try omega))
              replace T2 := hid (T2.out.grown HG.out (by simp; try omega))
              obtain ⟨Z, hZ⟩ : ∃ Z, Y.setCells (w.heap.size) 0 [.slice (some ⟨p3, 0, none⟩) 2 2] = Z := ⟨_, rfl⟩
              have hZ2 : Y.setCells (w.heap.size) 0 (#[.slice (some ⟨p3, 0, none⟩) 2 2] : Array Value).toList = Z := hZ
              rw [hZ] at PX T0 T1 T2
              first | rw [hZ2] | rw [hZ]
              clear hZ hZ2 HG hHeld
              refine hK.out _ _ PX.out.lim (fun hHeld => ?_)
              clear hK K
              try simp only [Act.put, sq1, sq2, sq3, sq4, sq5, sq6]
              clear Y
              obtain ⟨Y, rfl⟩ : ∃ Y, Y = Z := ⟨_, rfl⟩
              refine wpAnyH_ready (rs := [34]) (by kernel_rfl) (by simp) ?_
              refine AllReadyH.cons (o := _) rfl (fun K hK => ?_) AllReadyH.nil
              refine wp_store_mid 29 _ _ rfl (w.heap.size + 1) 0 (#[.int .i64 40, .int .i64 0, .int .i64 (-5), .int .i64 15]) rfl rfl (blk_there T1.out rfl) infoLi (by simp [Value.oneCell']) ?_
              have HG := hid (grown_setCells (w := Y) (b := w.heap.size + 1) [.int .i64 40, .int .i64 0, .int .i64 (-5), .int .i64 15] 0)
              replace PX := hid (PX.out.set (w.heap.size + 1) (by omega) (by omega) [.int .i64 40, .int .i64 0, .int .i64 (-5), .int .i64 15])
              replace T1 := hid (T1.out.fill [.int .i64 40, .int .i64 0, .int .i64 (-5), .int .i64 15] 0)
              replace T0 := hid (T0.out.grown HG.out (by simp; try omega))
              replace T2 := hid (T2.out.grown HG.out (by simp; try omega))
              obtain ⟨Z, hZ⟩ : ∃ Z, Y.setCells (w.heap.size + 1) 0 [.int .i64 40, .int .i64 0, .int .i64 (-5), .int .i64 15] = Z := ⟨_, rfl⟩
              have hZ2 : Y.setCells (w.heap.size + 1) 0 (#[.int .i64 40, .int .i64 0, .int .i64 (-5), .int .i64 15] : Array Value).toList = Z := hZ
              rw [hZ] at PX T1 T0 T2
              first | rw [hZ2] | rw [hZ]
              clear hZ hZ2 HG hHeld
              refine hK.out _ _ PX.out.lim (fun hHeld => ?_)
              clear hK K
              try simp only [Act.put, sq1, sq2, sq3, sq4, sq5, sq6]
              clear Y
              obtain ⟨Y, rfl⟩ : ∃ Y, Y = Z := ⟨_, rfl⟩
              refine wpAnyH_ready (rs := [35]) (by kernel_rfl) (by simp) ?_
              refine AllReadyH.cons (o := _) rfl (fun K hK => ?_) AllReadyH.nil
              refine wp_store_mid 79 _ _ rfl (w.heap.size + 1 + 1) 0 (#[.int .i64 1, .int .i64 1, .int .i64 40, .int .i64 0, .int .i64 (-5), .int .i64 15]) rfl rfl (blk_there T2.out rfl) infoRu (by simp [Value.oneCell']) ?_
              have HG := hid (grown_setCells (w := Y) (b := w.heap.size + 1 + 1) [.int .i64 1, .int .i64 1, .int .i64 40, .int .i64 0, .int .i64 (-5), .int .i64 15] 0)
              replace PX := hid (PX.out.set (w.heap.size + 1 + 1) (by omega) (by omega) [.int .i64 1, .int .i64 1, .int .i64 40, .int .i64 0, .int .i64 (-5), .int .i64 15])
              replace T2 := hid (T2.out.fill [.int .i64 1, .int .i64 1, .int .i64 40, .int .i64 0, .int .i64 (-5), .int .i64 15] 0)
              replace T0 := hid (T0.out.grown HG.out (by simp; try omega))
              replace T1 := hid (T1.out.grown HG.out (by simp; try omega))
              obtain ⟨Z, hZ⟩ : ∃ Z, Y.setCells (w.heap.size + 1 + 1) 0 [.int .i64 1, .int .i64 1, .int .i64 40, .int .i64 0, .int .i64 (-5), .int .i64 15] = Z := ⟨_, rfl⟩
              have hZ2 : Y.setCells (w.heap.size + 1 + 1) 0 (#[.int .i64 1, .int .i64 1, .int .i64 40, .int .i64 0, .int .i64 (-5), .int .i64 15] : Array Value).toList = Z := hZ
              rw [hZ] at PX T2 T0 T1
              first | rw [hZ2] | rw [hZ]
              clear hZ hZ2 HG hHeld
              refine hK.out _ _ PX.out.lim (fun hHeld => ?_)
              clear hK K
              try simp only [Act.put, sq1, sq2, sq3, sq4, sq5, sq6]
              clear Y
              obtain ⟨Y, rfl⟩ : ∃ Y, Y = Z := ⟨_, rfl⟩
              clear hHeld
              refine wpAnyH_done (by kernel_rfl) ?_ _
              have U0 : Blk Y w.heap.size 24 #[.slice (some ⟨p3, 0, none⟩) 2 2] := T0.out
              have U1 : Blk Y (w.heap.size + 1) 29 #[.int .i64 40, .int .i64 0, .int .i64 (-5), .int .i64 15] := T1.out
              have U2 : Blk Y (w.heap.size + 1 + 1) 79 #[.int .i64 1, .int .i64 1, .int .i64 40, .int .i64 0, .int .i64 (-5), .int .i64 15] := T2.out
              have c0 := U0.cell 0
              have d0 := U1.cell 0
              have d1 := U1.cell 1
              have d2 := U1.cell 2
              have d3 := U1.cell 3
              have e0 := U2.cell 0
              have e1 := U2.cell 1
              have e2 := U2.cell 2
              have e3 := U2.cell 3
              have e4 := U2.cell 4
              have e5 := U2.cell 5
              simp only [List.getElem?_toArray, List.getElem?_cons_zero, List.getElem?_cons_succ] at c0 d0 d1 d2 d3 e0 e1 e2 e3 e4 e5
              clear T0 T1 T2 U0 U1 U2
              go_wp2
              refine bodyPost_ret (v := .tuple #[.agg #[.slice (some ⟨p3, 0, none⟩) 2 2], exL.val, exR.val]) (by simp [results, Tryz.results36, go_sem, c0, d0, d1, d2, d3, e0, e1, e2, e3, e4, e5, exL, exR, Lm.val, Rl.val]) rfl ⟨_, 2, rfl, exF_at PX.out.h3 PX.out.h1 PX.out.h2, PX.out.ext⟩
            · go_simp
              refine Calls.mono (HHC.out 10 20 _) ?_
              rintro e X ⟨rfl, hEX⟩
              dsimp only
              replace EX := EX.trans hEX
              (try replace HB1 := hid (HB1.out.ext hEX))
              (try replace HB2 := hid (HB2.out.ext hEX))
              clear hHeld hEX
              refine hK.out _ _ (fun o => EX.cell (p := ⟨w1.heap.size, o, none⟩) lz) (fun hHeld => ?_)
              clear hK K
              try simp only [Act.put, sq1, sq2, sq3, sq4, sq5, sq6]
              refine wpAnyH_ready (rs := [12, 26]) (by kernel_rfl) (by simp) ?_
              refine AllReadyH.cons (o := _) rfl (fun K hK => ?_) (AllReadyH.cons (o := _) rfl (fun K hK => ?_) AllReadyH.nil)
              · go_simp
                obtain ⟨p1, hp, mp1⟩ := absP EX
                obtain ⟨Y, hY⟩ := absW EX (.cells #[.int .i64 10, .int .i64 20, .int .i64 0, .int .i64 0, .int .i64 0, .int .i64 10, .int .i64 10, .int .i64 20, .int .i64 0, .int .i64 0, .int .i64 0, .int .i64 10, .int .i64 10, .int .i64 20, .int .i64 0, .int .i64 0, .int .i64 0, .int .i64 10, .int .i64 10, .int .i64 20, .int .i64 0, .int .i64 0, .int .i64 0, .int .i64 10, .int .i64 30, .int .i64 60, .int .i64 0, .int .i64 0, .int .i64 0, .int .i64 10, .int .i64 30, .int .i64 60, .int .i64 0, .int .i64 0, .int .i64 0, .int .i64 10] 143)
                (try replace HB1 := hid (HB1.out.alloc (.cells #[.int .i64 10, .int .i64 20, .int .i64 0, .int .i64 0, .int .i64 0, .int .i64 10, .int .i64 10, .int .i64 20, .int .i64 0, .int .i64 0, .int .i64 0, .int .i64 10, .int .i64 10, .int .i64 20, .int .i64 0, .int .i64 0, .int .i64 0, .int .i64 10, .int .i64 10, .int .i64 20, .int .i64 0, .int .i64 0, .int .i64 0, .int .i64 10, .int .i64 30, .int .i64 60, .int .i64 0, .int .i64 0, .int .i64 0, .int .i64 10, .int .i64 30, .int .i64 60, .int .i64 0, .int .i64 0, .int .i64 0, .int .i64 10] 143)))
                (try replace HB2 := hid (HB2.out.alloc (.cells #[.int .i64 10, .int .i64 20, .int .i64 0, .int .i64 0, .int .i64 0, .int .i64 10, .int .i64 10, .int .i64 20, .int .i64 0, .int .i64 0, .int .i64 0, .int .i64 10, .int .i64 10, .int .i64 20, .int .i64 0, .int .i64 0, .int .i64 0, .int .i64 10, .int .i64 10, .int .i64 20, .int .i64 0, .int .i64 0, .int .i64 0, .int .i64 10, .int .i64 30, .int .i64 60, .int .i64 0, .int .i64 0, .int .i64 0, .int .i64 10, .int .i64 30, .int .i64 60, .int .i64 0, .int .i64 0, .int .i64 0, .int .i64 10] 143)))
                (try dsimp only at HB1)
                (try dsimp only at HB2)
                have HB1 := hid (blkNew EX 143 #[.int .i64 10, .int .i64 20, .int .i64 0, .int .i64 0, .int .i64 0, .int .i64 10, .int .i64 10, .int .i64 20, .int .i64 0, .int .i64 0, .int .i64 0, .int .i64 10, .int .i64 10, .int .i64 20, .int .i64 0, .int .i64 0, .int .i64 0, .int .i64 10, .int .i64 10, .int .i64 20, .int .i64 0, .int .i64 0, .int .i64 0, .int .i64 10, .int .i64 30, .int .i64 60, .int .i64 0, .int .i64 0, .int .i64 0, .int .i64 10, .int .i64 30, .int .i64 60, .int .i64 0, .int .i64 0, .int .i64 0, .int .i64 10])
                replace EX := EX.alloc (.cells #[.int .i64 10, .int .i64 20, .int .i64 0, .int .i64 0, .int .i64 0, .int .i64 10, .int .i64 10, .int .i64 20, .int .i64 0, .int .i64 0, .int .i64 0, .int .i64 10, .int .i64 10, .int .i64 20, .int .i64 0, .int .i64 0, .int .i64 0, .int .i64 10, .int .i64 10, .int .i64 20, .int .i64 0, .int .i64 0, .int .i64 0, .int .i64 10, .int .i64 30, .int .i64 60, .int .i64 0, .int .i64 0, .int .i64 0, .int .i64 10, .int .i64 30, .int .i64 60, .int .i64 0, .int .i64 0, .int .i64 0, .int .i64 10] 143)
                have hY2 := hY
                (try dsimp only at HB1 EX hY)
                rw [hY] at EX
                (try rw [hY] at HB1)
                (try rw [hY] at HB2)
                first | rw [hY] | rw [hY2]
                rw [hp] at HB1 ⊢
                clear hHeld hY hY2 hp
                refine hK.out _ _ (fun o => EX.cell (p := ⟨w1.heap.size, o, none⟩) lz) (fun hHeld => ?_)
                clear hK K
                try simp only [Act.put, sq1, sq2, sq3, sq4, sq5, sq6]
                refine tk1 (i := 13) (v := ?v13k58) rfl ?y13k58 ?r13k58
                case y13k58 => (intro w' hSw; (try dsimp only at hSw); go_simp; (try with_reducible rfl))
                try simp only [Act.put, sq1, sq2, sq3, sq4, sq5, sq6]
                refine wpAnyH_ready (rs := [26]) (by kernel_rfl) (by simp) ?_
                refine AllReadyH.cons (o := _) rfl (fun K hK => ?_) AllReadyH.nil
                go_simp
                obtain ⟨p2, hp, mp2⟩ := absP EX
                obtain ⟨Y, hY⟩ := absW EX (.cells #[.int .i64 15, .int .i64 45, .int .i64 0, .int .i64 0, .int .i64 0, .int .i64 10, .int .i64 15, .int .i64 45, .int .i64 0, .int .i64 0, .int .i64 0, .int .i64 10, .int .i64 10, .int .i64 20, .int .i64 0, .int .i64 0, .int .i64 0, .int .i64 10, .int .i64 10, .int .i64 20, .int .i64 0, .int .i64 0, .int .i64 0, .int .i64 10, .int .i64 10, .int .i64 20, .int .i64 0, .int .i64 0, .int .i64 0, .int .i64 10, .int .i64 10, .int .i64 20, .int .i64 0, .int .i64 0, .int .i64 0, .int .i64 10] 143)
                (try replace HB1 := hid (HB1.out.alloc (.cells #[.int .i64 15, .int .i64 45, .int .i64 0, .int .i64 0, .int .i64 0, .int .i64 10, .int .i64 15, .int .i64 45, .int .i64 0, .int .i64 0, .int .i64 0, .int .i64 10, .int .i64 10, .int .i64 20, .int .i64 0, .int .i64 0, .int .i64 0, .int .i64 10, .int .i64 10, .int .i64 20, .int .i64 0, .int .i64 0, .int .i64 0, .int .i64 10, .int .i64 10, .int .i64 20, .int .i64 0, .int .i64 0, .int .i64 0, .int .i64 10, .int .i64 10, .int .i64 20, .int .i64 0, .int .i64 0, .int .i64 0, .int .i64 10] 143)))
                (try replace HB2 := hid (HB2.out.alloc (.cells #[.int .i64 15, .int .i64 45, .int .i64 0, .int .i64 0, .int .i64 0, .int .i64 10, .int .i64 15, .int .i64 45, .int .i64 0, .int .i64 0, .int .i64 0, .int .i64 10, .int .i64 10, .int .i64 20, .int .i64 0, .int .i64 0, .int .i64 0, .int .i64 10, .int .i64 10, .int .i64 20, .int .i64 0, .int .i64 0, .int .i64 0, .int .i64 10, .int .i64 10, .int .i64 20, .int .i64 0, .int .i64 0, .int .i64 0, .int .i64 10, .int .i64 10, .int .i64 20, .int .i64 0, .int .i64 0, .int .i64 0, .int .i64 10] 143)))
                (try dsimp only at HB1)
                (try dsimp only at HB2)
                have HB2 := hid (blkNew EX 143 #[.int .i64 15, .int .i64 45, .int .i64 0, .int .i64 0, .int .i64 0, .int .i64 10, .int .i64 15, .int .i64 45, .int .i64 0, .int .i64 0, .int .i64 0, .int .i64 10, .int .i64 10, .int .i64 20, .int .i64 0, .int .i64 0, .int .i64 0, .int .i64 10, .int .i64 10, .int .i64 20, .int .i64 0, .int .i64 0, .int .i64 0, .int .i64 10, .int .i64 10, .int .i64 20, .int .i64 0, .int .i64 0, .int .i64 0, .int .i64 10, .int .i64 10, .int .i64 20, .int .i64 0, .int .i64 0, .int .i64 0, .int .i64 10])
                replace EX := EX.alloc (.cells #[.int .i64 15, .int .i64 45, .int .i64 0, .int .i64 0, .int .i64 0, .int .i64 10, .int .i64 15, .int .i64 45, .int .i64 0, .int .i64 0, .int .i64 0, .int .i64 10, .int .i64 10, .int .i64 20, .int .i64 0, .int .i64 0, .int .i64 0, .int .i64 10, .int .i64 10, .int .i64 20, .int .i64 0, .int .i64 0, .int .i64 0, .int .i64 10, .int .i64 10, .int .i64 20, .int .i64 0, .int .i64 0, .int .i64 0, .int .i64 10, .int .i64 10, .int .i64 20, .int .i64 0, .int .i64 0, .int .i64 0, .int .i64 10] 143)
                have hY2 := hY
                (try dsimp only at HB2 EX hY)
                rw [hY] at EX
                (try rw [hY] at HB1)
                (try rw [hY] at HB2)
                first | rw [hY] | rw [hY2]
                rw [hp] at HB2 ⊢
                clear hHeld hY hY2 hp
                refine hK.out _ _ (fun o => EX.cell (p := ⟨w1.heap.size, o, none⟩) lz) (fun hHeld => ?_)
                clear hK K
                try simp only [Act.put, sq1, sq2, sq3, sq4, sq5, sq6]
                refine tk1 (i := 27) (v := ?v27k59) rfl ?y27k59 ?r27k59
                case y27k59 => (intro w' hSw; (try dsimp only at hSw); go_simp; (try with_reducible rfl))
                try simp only [Act.put, sq1, sq2, sq3, sq4, sq5, sq6]
                refine wpAnyH_ready (rs := [28]) (by kernel_rfl) (by simp) ?_
                refine AllReadyH.cons (o := _) rfl (fun K hK => ?_) AllReadyH.nil
                go_simp
                obtain ⟨p3, hp, mp3⟩ := absP EX
                obtain ⟨Y, hY, HB3, HB4, HB5, EY⟩ := ex_b3 EX HB1 HB2
                rw [hY]
                rw [hp] at HB3 ⊢
                clear hY HB1 HB2 hHeld EX hp
                refine hK.out _ _ (fun o => EY.cell (p := ⟨w1.heap.size, o, none⟩) lz) (fun hHeld => ?_)
                clear hK K
                try simp only [Act.put, sq1, sq2, sq3, sq4, sq5, sq6]
                refine tk1 (i := 29) (v := ?v29k60) rfl ?y29k60 ?r29k60
                case y29k60 => (intro w' hSw; (try dsimp only at hSw); go_simp; (try with_reducible rfl))
                try simp only [Act.put, sq1, sq2, sq3, sq4, sq5, sq6]
                have T0 := hid (show Blk _ _ _ _ from S0.out.ext EY)
                have T1 := hid (show Blk _ _ _ _ from S1.out.ext EY)
                have T2 := hid (show Blk _ _ _ _ from S2.out.ext EY)
                have PX := hid (show ExP w W Y w1.heap.size _ _ _ from ⟨HEW.out.trans EY, fun o => EY.cell (p := ⟨w1.heap.size, o, none⟩) lz, HB3.out, HB4.out, HB5.out, by omega, by omega, by omega, by omega, by have := EY.size; omega⟩)
                clear EY HB3 HB4 HB5
                refine wpAnyH_ready (rs := [33]) (by kernel_rfl) (by simp) ?_
                refine AllReadyH.cons (o := _) rfl (fun K hK => ?_) AllReadyH.nil
                refine wp_store_mid 24 _ _ rfl (w.heap.size) 0 (#[.slice (some ⟨p3, 0, none⟩) 2 2]) rfl rfl (blk_there T0.out rfl) infoFc (by simp [Value.oneCell']) ?_
                have HG := hid (grown_setCells (w := Y) (b := w.heap.size) [.slice (some ⟨p3, 0, none⟩) 2 2] 0)
                replace PX := hid (PX.out.set (w.heap.size) (by omega) (by omega) [.slice (some ⟨p3, 0, none⟩) 2 2])
                replace T0 := hid (T0.out.fill [.slice (some ⟨p3, 0, none⟩) 2 2] 0)
                replace T1 := hid (T1.out.grown HG.out (by simp; try omega))
                replace T2 := hid (T2.out.grown HG.out (by simp; try omega))
                obtain ⟨Z, hZ⟩ : ∃ Z, Y.setCells (w.heap.size) 0 [.slice (some ⟨p3, 0, none⟩) 2 2] = Z := ⟨_, rfl⟩
                have hZ2 : Y.setCells (w.heap.size) 0 (#[.slice (some ⟨p3, 0, none⟩) 2 2] : Array Value).toList = Z := hZ
                rw [hZ] at PX T0 T1 T2
                first | rw [hZ2] | rw [hZ]
                clear hZ hZ2 HG hHeld
                refine hK.out _ _ PX.out.lim (fun hHeld => ?_)
                clear hK K
                try simp only [Act.put, sq1, sq2, sq3, sq4, sq5, sq6]
                clear Y
                obtain ⟨Y, rfl⟩ : ∃ Y, Y = Z := ⟨_, rfl⟩
                refine wpAnyH_ready (rs := [34]) (by kernel_rfl) (by simp) ?_
                refine AllReadyH.cons (o := _) rfl (fun K hK => ?_) AllReadyH.nil
                refine wp_store_mid 29 _ _ rfl (w.heap.size + 1) 0 (#[.int .i64 40, .int .i64 0, .int .i64 (-5), .int .i64 15]) rfl rfl (blk_there T1.out rfl) infoLi (by simp [Value.oneCell']) ?_
                have HG := hid (grown_setCells (w := Y) (b := w.heap.size + 1) [.int .i64 40, .int .i64 0, .int .i64 (-5), .int .i64 15] 0)
                replace PX := hid (PX.out.set (w.heap.size + 1) (by omega) (by omega) [.int .i64 40, .int .i64 0, .int .i64 (-5), .int .i64 15])
                replace T1 := hid (T1.out.fill [.int .i64 40, .int .i64 0, .int .i64 (-5), .int .i64 15] 0)
                replace T0 := hid (T0.out.grown HG.out (by simp; try omega))
                replace T2 := hid (T2.out.grown HG.out (by simp; try omega))
                obtain ⟨Z, hZ⟩ : ∃ Z, Y.setCells (w.heap.size + 1) 0 [.int .i64 40, .int .i64 0, .int .i64 (-5), .int .i64 15] = Z := ⟨_, rfl⟩
                have hZ2 : Y.setCells (w.heap.size + 1) 0 (#[.int .i64 40, .int .i64 0, .int .i64 (-5), .int .i64 15] : Array Value).toList = Z := hZ
                rw [hZ] at PX T1 T0 T2
                first | rw [hZ2] | rw [hZ]
                clear hZ hZ2 HG hHeld
                refine hK.out _ _ PX.out.lim (fun hHeld => ?_)
                clear hK K
                try simp only [Act.put, sq1, sq2, sq3, sq4, sq5, sq6]
                clear Y
                obtain ⟨Y, rfl⟩ : ∃ Y, Y = Z := ⟨_, rfl⟩
                refine wpAnyH_ready (rs := [35]) (by kernel_rfl) (by simp) ?_
                refine AllReadyH.cons (o := _) rfl (fun K hK => ?_) AllReadyH.nil
                refine wp_store_mid 79 _ _ rfl (w.heap.size + 1 + 1) 0 (#[.int .i64 1, .int .i64 1, .int .i64 40, .int .i64 0, .int .i64 (-5), .int .i64 15]) rfl rfl (blk_there T2.out rfl) infoRu (by simp [Value.oneCell']) ?_
                have HG := hid (grown_setCells (w := Y) (b := w.heap.size + 1 + 1) [.int .i64 1, .int .i64 1, .int .i64 40, .int .i64 0, .int .i64 (-5), .int .i64 15] 0)
                replace PX := hid (PX.out.set (w.heap.size + 1 + 1) (by omega) (by omega) [.int .i64 1, .int .i64 1, .int .i64 40, .int .i64 0, .int .i64 (-5), .int .i64 15])
                replace T2 := hid (T2.out.fill [.int .i64 1, .int .i64 1, .int .i64 40, .int .i64 0, .int .i64 (-5), .int .i64 15] 0)
                replace T0 := hid (T0.out.grown HG.out (by simp; try omega))
                replace T1 := hid (T1.out.grown HG.out (by simp; try omega))
                obtain ⟨Z, hZ⟩ : ∃ Z, Y.setCells (w.heap.size + 1 + 1) 0 [.int .i64 1, .int .i64 1, .int .i64 40, .int .i64 0, .int .i64 (-5), .int .i64 15] = Z := ⟨_, rfl⟩
                have hZ2 : Y.setCells (w.heap.size + 1 + 1) 0 (#[.int .i64 1, .int .i64 1, .int .i64 40, .int .i64 0, .int .i64 (-5), .int .i64 15] : Array Value).toList = Z := hZ
                rw [hZ] at PX T2 T0 T1
                first | rw [hZ2] | rw [hZ]
                clear hZ hZ2 HG hHeld
                refine hK.out _ _ PX.out.lim (fun hHeld => ?_)
                clear hK K
                try simp only [Act.put, sq1, sq2, sq3, sq4, sq5, sq6]
                clear Y
                obtain ⟨Y, rfl⟩ : ∃ Y, Y = Z := ⟨_, rfl⟩
                clear hHeld
                refine wpAnyH_done (by kernel_rfl) ?_ _
                have U0 : Blk Y w.heap.size 24 #[.slice (some ⟨p3, 0, none⟩) 2 2] := T0.out
                have U1 : Blk Y (w.heap.size + 1) 29 #[.int .i64 40, .int .i64 0, .int .i64 (-5), .int .i64 15] := T1.out
                have U2 : Blk Y (w.heap.size + 1 + 1) 79 #[.int .i64 1, .int .i64 1, .int .i64 40, .int .i64 0, .int .i64 (-5), .int .i64 15] := T2.out
                have c0 := U0.cell 0
                have d0 := U1.cell 0
                have d1 := U1.cell 1
                have d2 := U1.cell 2
                have d3 := U1.cell 3
                have e0 := U2.cell 0
                have e1 := U2.cell 1
                have e2 := U2.cell 2
                have e3 := U2.cell 3
                have e4 := U2.cell 4
                have e5 := U2.cell 5
                simp only [List.getElem?_toArray, List.getElem?_cons_zero, List.getElem?_cons_succ] at c0 d0 d1 d2 d3 e0 e1 e2 e3 e4 e5
                clear T0 T1 T2 U0 U1 U2
                go_wp2
                refine bodyPost_ret (v := .tuple #[.agg #[.slice (some ⟨p3, 0, none⟩) 2 2], exL.val, exR.val]) (by simp [results, Tryz.results36, go_sem, c0, d0, d1, d2, d3, e0, e1, e2, e3, e4, e5, exL, exR, Lm.val, Rl.val]) rfl ⟨_, 2, rfl, exF_at PX.out.h3 PX.out.h1 PX.out.h2, PX.out.ext⟩
              · go_simp
                obtain ⟨p2, hp, mp2⟩ := absP EX
                obtain ⟨Y, hY⟩ := absW EX (.cells #[.int .i64 15, .int .i64 45, .int .i64 0, .int .i64 0, .int .i64 0, .int .i64 10, .int .i64 15, .int .i64 45, .int .i64 0, .int .i64 0, .int .i64 0, .int .i64 10, .int .i64 10, .int .i64 20, .int .i64 0, .int .i64 0, .int .i64 0, .int .i64 10, .int .i64 10, .int .i64 20, .int .i64 0, .int .i64 0, .int .i64 0, .int .i64 10, .int .i64 10, .int .i64 20, .int .i64 0, .int .i64 0, .int .i64 0, .int .i64 10, .int .i64 10, .int .i64 20, .int .i64 0, .int .i64 0, .int .i64 0, .int .i64 10] 143)
                (try replace HB1 := hid (HB1.out.alloc (.cells #[.int .i64 15, .int .i64 45, .int .i64 0, .int .i64 0, .int .i64 0, .int .i64 10, .int .i64 15, .int .i64 45, .int .i64 0, .int .i64 0, .int .i64 0, .int .i64 10, .int .i64 10, .int .i64 20, .int .i64 0, .int .i64 0, .int .i64 0, .int .i64 10, .int .i64 10, .int .i64 20, .int .i64 0, .int .i64 0, .int .i64 0, .int .i64 10, .int .i64 10, .int .i64 20, .int .i64 0, .int .i64 0, .int .i64 0, .int .i64 10, .int .i64 10, .int .i64 20, .int .i64 0, .int .i64 0, .int .i64 0, .int .i64 10] 143)))
                (try replace HB2 := hid (HB2.out.alloc (.cells #[.int .i64 15, .int .i64 45, .int .i64 0, .int .i64 0, .int .i64 0, .int .i64 10, .int .i64 15, .int .i64 45, .int .i64 0, .int .i64 0, .int .i64 0, .int .i64 10, .int .i64 10, .int .i64 20, .int .i64 0, .int .i64 0, .int .i64 0, .int .i64 10, .int .i64 10, .int .i64 20, .int .i64 0, .int .i64 0, .int .i64 0, .int .i64 10, .int .i64 10, .int .i64 20, .int .i64 0, .int .i64 0, .int .i64 0, .int .i64 10, .int .i64 10, .int .i64 20, .int .i64 0, .int .i64 0, .int .i64 0, .int .i64 10] 143)))
                (try dsimp only at HB1)
                (try dsimp only at HB2)
                have HB2 := hid (blkNew EX 143 #[.int .i64 15, .int .i64 45, .int .i64 0, .int .i64 0, .int .i64 0, .int .i64 10, .int .i64 15, .int .i64 45, .int .i64 0, .int .i64 0, .int .i64 0, .int .i64 10, .int .i64 10, .int .i64 20, .int .i64 0, .int .i64 0, .int .i64 0, .int .i64 10, .int .i64 10, .int .i64 20, .int .i64 0, .int .i64 0, .int .i64 0, .int .i64 10, .int .i64 10, .int .i64 20, .int .i64 0, .int .i64 0, .int .i64 0, .int .i64 10, .int .i64 10, .int .i64 20, .int .i64 0, .int .i64 0, .int .i64 0, .int .i64 10])
                replace EX := EX.alloc (.cells #[.int .i64 15, .int .i64 45, .int .i64 0, .int .i64 0, .int .i64 0, .int .i64 10, .int .i64 15, .int .i64 45, .int .i64 0, .int .i64 0, .int .i64 0, .int .i64 10, .int .i64 10, .int .i64 20, .int .i64 0, .int .i64 0, .int .i64 0, .int .i64 10, .int .i64 10, .int .i64 20, .int .i64 0, .int .i64 0, .int .i64 0, .int .i64 10, .int .i64 10, .int .i64 20, .int .i64 0, .int .i64 0, .int .i64 0, .int .i64 10, .int .i64 10, .int .i64 20, .int .i64 0, .int .i64 0, .int .i64 0, .int .i64 10] 143)
                have hY2 := hY
                (try dsimp only at HB2 EX hY)
                rw [hY] at EX
                (try rw [hY] at HB1)
                (try rw [hY] at HB2)
                first | rw [hY] | rw [hY2]
                rw [hp] at HB2 ⊢
                clear hHeld hY hY2 hp
                refine hK.out _ _ (fun o => EX.cell (p := ⟨w1.heap.size, o, none⟩) lz) (fun hHeld => ?_)
                clear hK K
                try simp only [Act.put, sq1, sq2, sq3, sq4, sq5, sq6]
                refine tk1 (i := 27) (v := ?v27k62) rfl ?y27k62 ?r27k62
                case y27k62 => (intro w' hSw; (try dsimp only at hSw); go_simp; (try with_reducible rfl))
                try simp only [Act.put, sq1, sq2, sq3, sq4, sq5, sq6]
                refine wpAnyH_ready (rs := [12]) (by kernel_rfl) (by simp) ?_
                refine AllReadyH.cons (o := _) rfl (fun K hK => ?_) AllReadyH.nil
                go_simp
                obtain ⟨p1, hp, mp1⟩ := absP EX
                obtain ⟨Y, hY⟩ := absW EX (.cells #[.int .i64 10, .int .i64 20, .int .i64 0, .int .i64 0, .int .i64 0, .int .i64 10, .int .i64 10, .int .i64 20, .int .i64 0, .int .i64 0, .int .i64 0, .int .i64 10, .int .i64 10, .int .i64 20, .int .i64 0, .int .i64 0, .int .i64 0, .int .i64 10, .int .i64 10, .int .i64 20, .int .i64 0, .int .i64 0, .int .i64 0, .int .i64 10, .int .i64 30, .int .i64 60, .int .i64 0, .int .i64 0, .int .i64 0, .int .i64 10, .int .i64 30, .int .i64 60, .int .i64 0, .int .i64 0, .int .i64 0, .int .i64 10] 143)
                (try replace HB1 := hid (HB1.out.alloc (.cells #[.int .i64 10, .int .i64 20, .int .i64 0, .int .i64 0, .int .i64 0, .int .i64 10, .int .i64 10, .int .i64 20, .int .i64 0, .int .i64 0, .int .i64 0, .int .i64 10, .int .i64 10, .int .i64 20, .int .i64 0, .int .i64 0, .int .i64 0, .int .i64 10, .int .i64 10, .int .i64 20, .int .i64 0, .int .i64 0, .int .i64 0, .int .i64 10, .int .i64 30, .int .i64 60, .int .i64 0, .int .i64 0, .int .i64 0, .int .i64 10, .int .i64 30, .int .i64 60, .int .i64 0, .int .i64 0, .int .i64 0, .int .i64 10] 143)))
                (try replace HB2 := hid (HB2.out.alloc (.cells #[.int .i64 10, .int .i64 20, .int .i64 0, .int .i64 0, .int .i64 0, .int .i64 10, .int .i64 10, .int .i64 20, .int .i64 0, .int .i64 0, .int .i64 0, .int .i64 10, .int .i64 10, .int .i64 20, .int .i64 0, .int .i64 0, .int .i64 0, .int .i64 10, .int .i64 10, .int .i64 20, .int .i64 0, .int .i64 0, .int .i64 0, .int .i64 10, .int .i64 30, .int .i64 60, .int .i64 0, .int .i64 0, .int .i64 0, .int .i64 10, .int .i64 30, .int .i64 60, .int .i64 0, .int .i64 0, .int .i64 0, .int .i64 10] 143)))
                (try dsimp only at HB1)
                (try dsimp only at HB2)
                have HB1 := hid (blkNew EX 143 #[.int .i64 10, .int .i64 20, .int .i64 0, .int .i64 0, .int .i64 0, .int .i64 10, .int .i64 10, .int .i64 20, .int .i64 0, .int .i64 0, .int .i64 0, .int .i64 10, .int .i64 10, .int .i64 20, .int .i64 0, .int .i64 0, .int .i64 0, .int .i64 10, .int .i64 10, .int .i64 20, .int .i64 0, .int .i64 0, .int .i64 0, .int .i64 10, .int .i64 30, .int .i64 60, .int .i64 0, .int .i64 0, .int .i64 0, .int .i64 10, .int .i64 30, .int .i64 60, .int .i64 0, .int .i64 0, .int .i64 0, .int .i64 10])
                replace EX := EX.alloc (.cells #[.int .i64 10, .int .i64 20, .int .i64 0, .int .i64 0, .int .i64 0, .int .i64 10, .int .i64 10, .int .i64 20, .int .i64 0, .int .i64 0, .int .i64 0, .int .i64 10, .int .i64 10, .int .i64 20, .int .i64 0, .int .i64 0, .int .i64 0, .int .i64 10, .int .i64 10, .int .i64 20, .int .i64 0, .int .i64 0, .int .i64 0, .int .i64 10, .int .i64 30, .int .i64 60, .int .i64 0, .int .i64 0, .int .i64 0, .int .i64 10, .int .i64 30, .int .i64 60, .int .i64 0, .int .i64 0, .int .i64 0, .int .i64 10] 143)
                have hY2 := hY
                (try dsimp only at HB1 EX hY)
                rw [hY] at EX
                (try rw [hY] at HB1)
                (try rw [hY] at HB2)
                first | rw [hY] | rw [hY2]
                rw [hp] at HB1 ⊢
                clear hHeld hY hY2 hp
                refine hK.out _ _ (fun o => EX.cell (p := ⟨w1.heap.size, o, none⟩) lz) (fun hHeld => ?_)
                clear hK K
                try simp only [Act.put, sq1, sq2, sq3, sq4, sq5, sq6]
                refine tk1 (i := 13) (v := ?v13k63) rfl ?y13k63 ?r13k63
                case y13k63 => (intro w' hSw; (try dsimp only at hSw); go_simp; (try with_reducible rfl))
                try simp only [Act.put, sq1, sq2, sq3, sq4, sq5, sq6]
                refine wpAnyH_ready (rs := [28]) (by kernel_rfl) (by simp) ?_
                refine AllReadyH.cons (o := _) rfl (fun K hK => ?_) AllReadyH.nil
                go_simp
                obtain ⟨p3, hp, mp3⟩ := absP EX
                obtain ⟨Y, hY, HB3, HB4, HB5, EY⟩ := ex_b3 EX HB1 HB2
                rw [hY]
                rw [hp] at HB3 ⊢
                clear hY HB1 HB2 hHeld EX hp
                refine hK.out _ _ (fun o => EY.cell (p := ⟨w1.heap.size, o, none⟩) lz) (fun hHeld => ?_)
                clear hK K
                try simp only [Act.put, sq1, sq2, sq3, sq4, sq5, sq6]
                refine tk1 (i := 29) (v := ?v29k64) rfl ?y29k64 ?r29k64
                case y29k64 => (intro w' hSw; (try dsimp only at hSw); go_simp; (try with_reducible rfl))
                try simp only [Act.put, sq1, sq2, sq3, sq4, sq5, sq6]
                have T0 := hid (show Blk _ _ _ _ from S0.out.ext EY)
                have T1 := hid (show Blk _ _ _ _ from S1.out.ext EY)
                have T2 := hid (show Blk _ _ _ _ from S2.out.ext EY)
                have PX := hid (show ExP w W Y w1.heap.size _ _ _ from ⟨HEW.out.trans EY, fun o => EY.cell (p := ⟨w1.heap.size, o, none⟩) lz, HB3.out, HB4.out, HB5.out, by omega, by omega, by omega, by omega, by have := EY.size; omega⟩)
                clear EY HB3 HB4 HB5
                refine wpAnyH_ready (rs := [33]) (by kernel_rfl) (by simp) ?_
                refine AllReadyH.cons (o := _) rfl (fun K hK => ?_) AllReadyH.nil
                refine wp_store_mid 24 _ _ rfl (w.heap.size) 0 (#[.slice (some ⟨p3, 0, none⟩) 2 2]) rfl rfl (blk_there T0.out rfl) infoFc (by simp [Value.oneCell']) ?_
                have HG := hid (grown_setCells (w := Y) (b := w.heap.size) [.slice (some ⟨p3, 0, none⟩) 2 2] 0)
                replace PX := hid (PX.out.set (w.heap.size) (by omega) (by omega) [.slice (some ⟨p3, 0, none⟩) 2 2])
                replace T0 := hid (T0.out.fill [.slice (some ⟨p3, 0, none⟩) 2 2] 0)
                replace T1 := hid (T1.out.grown HG.out (by simp; try omega))
                replace T2 := hid (T2.out.grown HG.out (by simp; try omega))
                obtain ⟨Z, hZ⟩ : ∃ Z, Y.setCells (w.heap.size) 0 [.slice (some ⟨p3, 0, none⟩) 2 2] = Z := ⟨_, rfl⟩
                have hZ2 : Y.setCells (w.heap.size) 0 (#[.slice (some ⟨p3, 0, none⟩) 2 2] : Array Value).toList = Z := hZ
                rw [hZ] at PX T0 T1 T2
                first | rw [hZ2] | rw [hZ]
                clear hZ hZ2 HG hHeld
                refine hK.out _ _ PX.out.lim (fun hHeld => ?_)
                clear hK K
                try simp only [Act.put, sq1, sq2, sq3, sq4, sq5, sq6]
                clear Y
                obtain ⟨Y, rfl⟩ : ∃ Y, Y = Z := ⟨_, rfl⟩
                refine wpAnyH_ready (rs := [34]) (by kernel_rfl) (by simp) ?_
                refine AllReadyH.cons (o := _) rfl (fun K hK => ?_) AllReadyH.nil
                refine wp_store_mid 29 _ _ rfl (w.heap.size + 1) 0 (#[.int .i64 40, .int .i64 0, .int .i64 (-5), .int .i64 15]) rfl rfl (blk_there T1.out rfl) infoLi (by simp [Value.oneCell']) ?_
                have HG := hid (grown_setCells (w := Y) (b := w.heap.size + 1) [.int .i64 40, .int .i64 0, .int .i64 (-5), .int .i64 15] 0)
                replace PX := hid (PX.out.set (w.heap.size + 1) (by omega) (by omega) [.int .i64 40, .int .i64 0, .int .i64 (-5), .int .i64 15])
                replace T1 := hid (T1.out.fill [.int .i64 40, .int .i64 0, .int .i64 (-5), .int .i64 15] 0)
                replace T0 := hid (T0.out.grown HG.out (by simp; try omega))
                replace T2 := hid (T2.out.grown HG.out (by simp; try omega))
                obtain ⟨Z, hZ⟩ : ∃ Z, Y.setCells (w.heap.size + 1) 0 [.int .i64 40, .int .i64 0, .int .i64 (-5), .int .i64 15] = Z := ⟨_, rfl⟩
                have hZ2 : Y.setCells (w.heap.size + 1) 0 (#[.int .i64 40, .int .i64 0, .int .i64 (-5), .int .i64 15] : Array Value).toList = Z := hZ
                rw [hZ] at PX T1 T0 T2
                first | rw [hZ2] | rw [hZ]
                clear hZ hZ2 HG hHeld
                refine hK.out _ _ PX.out.lim (fun hHeld => ?_)
                clear hK K
                try simp only [Act.put, sq1, sq2, sq3, sq4, sq5, sq6]
                clear Y
                obtain ⟨Y, rfl⟩ : ∃ Y, Y = Z := ⟨_, rfl⟩
                refine wpAnyH_ready (rs := [35]) (by kernel_rfl) (by simp) ?_
                refine AllReadyH.cons (o := _) rfl (fun K hK => ?_) AllReadyH.nil
                refine wp_store_mid 79 _ _ rfl (w.heap.size + 1 + 1) 0 (#[.int .i64 1, .int .i64 1, .int .i64 40, .int .i64 0, .int .i64 (-5), .int .i64 15]) rfl rfl (blk_there T2.out rfl) infoRu (by simp [Value.oneCell']) ?_
                have HG := hid (grown_setCells (w := Y) (b := w.heap.size + 1 + 1) [.int .i64 1, .int .i64 1, .int .i64 40, .int .i64 0, .int .i64 (-5), .int .i64 15] 0)
                replace PX := hid (PX.out.set (w.heap.size + 1 + 1) (by omega) (by omega) [.int .i64 1, .int .i64 1, .int .i64 40, .int .i64 0, .int .i64 (-5), .int .i64 15])
                replace T2 := hid (T2.out.fill [.int .i64 1, .int .i64 1, .int .i64 40, .int .i64 0, .int .i64 (-5), .int .i64 15] 0)
                replace T0 := hid (T0.out.grown HG.out (by simp; try omega))
                replace T1 := hid (T1.out.grown HG.out (by simp; try omega))
                obtain ⟨Z, hZ⟩ : ∃ Z, Y.setCells (w.heap.size + 1 + 1) 0 [.int .i64 1, .int .i64 1, .int .i64 40, .int .i64 0, .int .i64 (-5), .int .i64 15] = Z := ⟨_, rfl⟩
                have hZ2 : Y.setCells (w.heap.size + 1 + 1) 0 (#[.int .i64 1, .int .i64 1, .int .i64 40, .int .i64 0, .int .i64 (-5), .int .i64 15] : Array Value).toList = Z := hZ
                rw [hZ] at PX T2 T0 T1
                first | rw [hZ2] | rw [hZ]
                clear hZ hZ2 HG hHeld
                refine hK.out _ _ PX.out.lim (fun hHeld => ?_)
                clear hK K
                try simp only [Act.put, sq1, sq2, sq3, sq4, sq5, sq6]
                clear Y
                obtain ⟨Y, rfl⟩ : ∃ Y, Y = Z := ⟨_, rfl⟩
                clear hHeld
                refine wpAnyH_done (by kernel_rfl) ?_ _
                have U0 : Blk Y w.heap.size 24 #[.slice (some ⟨p3, 0, none⟩) 2 2] := T0.out
                have U1 : Blk Y (w.heap.size + 1) 29 #[.int .i64 40, .int .i64 0, .int .i64 (-5), .int .i64 15] := T1.out
                have U2 : Blk Y (w.heap.size + 1 + 1) 79 #[.int .i64 1, .int .i64 1, .int .i64 40, .int .i64 0, .int .i64 (-5), .int .i64 15] := T2.out
                have c0 := U0.cell 0
                have d0 := U1.cell 0
                have d1 := U1.cell 1
                have d2 := U1.cell 2
                have d3 := U1.cell 3
                have e0 := U2.cell 0
                have e1 := U2.cell 1
                have e2 := U2.cell 2
                have e3 := U2.cell 3
                have e4 := U2.cell 4
                have e5 := U2.cell 5
                simp only [List.getElem?_toArray, List.getElem?_cons_zero, List.getElem?_cons_succ] at c0 d0 d1 d2 d3 e0 e1 e2 e3 e4 e5
                clear T0 T1 T2 U0 U1 U2
                go_wp2
                refine bodyPost_ret (v := .tuple #[.agg #[.slice (some ⟨p3, 0, none⟩) 2 2], exL.val, exR.val]) (by simp [results, Tryz.results36, go_sem, c0, d0, d1, d2, d3, e0, e1, e2, e3, e4, e5, exL, exR, Lm.val, Rl.val]) rfl ⟨_, 2, rfl, exF_at PX.out.h3 PX.out.h1 PX.out.h2, PX.out.ext⟩
end Go.Proofs.YtecamnhnjmldcaaGreatDoor
