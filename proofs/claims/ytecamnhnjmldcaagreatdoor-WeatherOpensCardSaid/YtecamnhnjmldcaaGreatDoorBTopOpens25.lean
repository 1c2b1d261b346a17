/- wide, joined and needed of the specification. -/
import Derived.Test.YtecamnhnjmldcaaGreatDoorB22
import Derived.Test.YtecamnhnjmldcaaGreatDoorBTopOpens24
set_option linter.unusedSimpArgs false
set_option linter.unusedVariables false
namespace Go.Proofs.YtecamnhnjmldcaaGreatDoor
open Go.RowKit
def lmCells (l : Lm) : Array Value := #[.int .i64 l.wind, .int .i64 l.rain, .int .i64 l.tl, .int .i64 l.th]
theorem infoLm1 : (Tryz.prog.info? 29).map (·.size) = some 4 := by kernel_rfl
theorem lim_oneC (l : Lm) : (lmCells l).all (·.oneCell') = true :=
  one_of (vs := [.int .i64 l.wind, .int .i64 l.rain, .int .i64 l.tl, .int .i64 l.th]) (by intro v hv; simp only [List.mem_cons, List.not_mem_nil, or_false] at hv; rcases hv with rfl | rfl | rfl | rfl <;> rfl)
theorem rwide_any (w : World) : Calls Tryz.prog 154 #[] w fun e w' => e = .returned wideL.val ∧ Ext w w' := by
  unfold wideL Lm.val
  dsimp only
  go_enter Tryz.func154, Tryz.ntmps154
  go_wp2
  exact bodyPost_ret (v := .agg #[.int .i64 200, .int .i64 100, .int .i64 (-50), .int .i64 50]) (by simp [results, Tryz.results154, go_sem]) rfl ⟨rfl, by (repeat' (first | with_reducible assumption | with_reducible exact Ext.refl _ | with_reducible refine Ext.alloc ?_ _ | with_reducible refine Ext.set ?_ ?_ _ | with_reducible refine Ext.drew ?_ | with_reducible refine Ext.drewN ?_ _ | with_reducible refine Ext.trans ?_ (by assumption) | (dsimp only; omega)))⟩
set_option maxHeartbeats 4000000 in
set_option maxRecDepth 100000 in
theorem rjoined_any (l o : Lm) (w : World) : Calls Tryz.prog 155 #[l.val, o.val] w fun e w' => e = .returned (.tuple #[(andL l o).val, .bool (decide ((andL l o).tl ≤ (andL l o).th))]) ∧ Ext w w' := by
  unfold andL Lm.val
  obtain ⟨wi, ra, tl, th⟩ := l
  obtain ⟨wj, rb, ul, uh⟩ := o
  dsimp only
  obtain ⟨a1, h1⟩ : ∃ a, min wi wj = a := ⟨_, rfl⟩
  obtain ⟨a2, h2⟩ : ∃ a, min ra rb = a := ⟨_, rfl⟩
  obtain ⟨a3, h3⟩ : ∃ a, max tl ul = a := ⟨_, rfl⟩
  obtain ⟨a4, h4⟩ : ∃ a, min th uh = a := ⟨_, rfl⟩
  rw [h1, h2, h3, h4]
  have g1 : (if wj < wi then wj else wi) = a1 := by rw [← h1]; omega
  have g2 : (if rb < ra then rb else ra) = a2 := by rw [← h2]; omega
  have g3 : (if tl < ul then ul else tl) = a3 := by rw [← h3]; omega
  have g4 : (if uh < th then uh else th) = a4 := by rw [← h4]; omega
  clear h1 h2 h3 h4
  have t0 : Blk _ _ _ _ := blk_old (blk_old (blk_old (blk_last w (.cells #[.int .i64 wi, .int .i64 ra, .int .i64 tl, .int .i64 th] 29)) (.cells #[.int .i64 wj, .int .i64 rb, .int .i64 ul, .int .i64 uh] 29)) (.cells #[.int .i64 0, .int .i64 0, .int .i64 0, .int .i64 0] 29)) (.cells #[.int .i64 a3, .int .i64 a4] 27)
  have t1 : Blk _ _ _ _ := blk_old (blk_old (blk_last (w.alloc (.cells #[.int .i64 wi, .int .i64 ra, .int .i64 tl, .int .i64 th] 29)) (.cells #[.int .i64 wj, .int .i64 rb, .int .i64 ul, .int .i64 uh] 29)) (.cells #[.int .i64 0, .int .i64 0, .int .i64 0, .int .i64 0] 29)) (.cells #[.int .i64 a3, .int .i64 a4] 27)
  have t2 : Blk _ _ _ _ := blk_old (blk_last ((w.alloc (.cells #[.int .i64 wi, .int .i64 ra, .int .i64 tl, .int .i64 th] 29)).alloc (.cells #[.int .i64 wj, .int .i64 rb, .int .i64 ul, .int .i64 uh] 29)) (.cells #[.int .i64 0, .int .i64 0, .int .i64 0, .int .i64 0] 29)) (.cells #[.int .i64 a3, .int .i64 a4] 27)
  have t3 : Blk _ _ _ _ := blk_last (((w.alloc (.cells #[.int .i64 wi, .int .i64 ra, .int .i64 tl, .int .i64 th] 29)).alloc (.cells #[.int .i64 wj, .int .i64 rb, .int .i64 ul, .int .i64 uh] 29)).alloc (.cells #[.int .i64 0, .int .i64 0, .int .i64 0, .int .i64 0] 29)) (.cells #[.int .i64 a3, .int .i64 a4] 27)
  rw [World.size_alloc] at t1
  rw [World.size_alloc, World.size_alloc] at t2
  rw [World.size_alloc, World.size_alloc, World.size_alloc] at t3
  go_enter Tryz.func155, Tryz.ntmps155
  go_wp2_with fail
  refine wp_abs (fun W => Blk W w.heap.size 29 #[.int .i64 wi, .int .i64 ra, .int .i64 tl, .int .i64 th] ∧ Blk W (w.heap.size + 1) 29 #[.int .i64 wj, .int .i64 rb, .int .i64 ul, .int .i64 uh] ∧ Blk W (w.heap.size + 1 + 1) 29 #[.int .i64 0, .int .i64 0, .int .i64 0, .int .i64 0] ∧ Blk W (w.heap.size + 1 + 1 + 1) 27 #[.int .i64 a3, .int .i64 a4] ∧ Ext w W) ⟨t0, t1, t2, t3, by (repeat' (first | with_reducible assumption | with_reducible exact Ext.refl _ | with_reducible refine Ext.alloc ?_ _ | with_reducible refine Ext.set ?_ ?_ _ | with_reducible refine Ext.drew ?_ | with_reducible refine Ext.drewN ?_ _ | with_reducible refine Ext.trans ?_ (by assumption) | (dsimp only; omega)))⟩ ?_
  clear t0 t1 t2 t3
  rintro U ⟨u0, u1, u2, u3, EU⟩
  obtain ⟨x0, x1, x2, x3⟩ : _ ∧ _ ∧ _ ∧ _ := ⟨u0.cell 0, u0.cell 1, u0.cell 2, u0.cell 3⟩
  obtain ⟨y0, y1, y2, y3⟩ : _ ∧ _ ∧ _ ∧ _ := ⟨u1.cell 0, u1.cell 1, u1.cell 2, u1.cell 3⟩
  obtain ⟨z0, z1⟩ : _ ∧ _ := ⟨u3.cell 0, u3.cell 1⟩
  have s0 := u0.lt
  have s1 := u1.lt
  have s3 := u3.lt
  have V2 := hid u2
  have HEU := hid EU
  simp only [List.getElem?_toArray, List.getElem?_cons_zero, List.getElem?_cons_succ] at x0 x1 x2 x3 y0 y1 y2 y3 z0 z1
  clear u0 u1 u2 u3 EU
  obtain ⟨k2, hk2⟩ : ∃ k, w.heap.size + 1 + 1 = k := ⟨_, rfl⟩
  obtain ⟨k0, hk0⟩ : ∃ k, w.heap.size = k := ⟨_, rfl⟩
  obtain ⟨k1, hk1⟩ : ∃ k, w.heap.size + 1 = k := ⟨_, rfl⟩
  obtain ⟨k3, hk3⟩ : ∃ k, w.heap.size + 1 + 1 + 1 = k := ⟨_, rfl⟩
  have n0 : ¬ k0 = k2 := by omega
  have n1 : ¬ k1 = k2 := by omega
  have n3 : ¬ k3 = k2 := by omega
  rw [hk3] at z0 z1 s3 ⊢
  rw [hk2] at V2 ⊢
  rw [hk1] at y0 y1 y2 y3 s1 ⊢
  rw [hk0] at x0 x1 x2 x3 s0 ⊢
  have HK2 := hid hk2
  clear hk0 hk1 hk2 hk3
  refine wp_region_held_drew (S := fun w' => (∀ b o, b < U.heap.size → ¬ b = k2 → w'.cell? ⟨b, o, none⟩ = U.cell? ⟨b, o, none⟩) ∧ U.heap.size ≤ w'.heap.size) (by kernel_rfl) ?hS0 (fun hHeld => ?_)
  case hS0 => exact sG (Ext.drew (Ext.refl _)) _
  have EX : Ext U U.drew := Ext.drew (Ext.refl U)
  replace V2 := hid (V2.out.ext EX)
  obtain ⟨X, hX⟩ : ∃ X, U.drew = X := ⟨_, rfl⟩
  rw [hX] at EX hHeld V2 ⊢
  clear hX
  refine tk1 (i := 0) (v := ?v0a) rfl ?y0a ?r0a
  case y0a => (intro w' hSw; (try dsimp only at hSw); go_simp; (try with_reducible rfl))
  try simp only [Act.put, sq1, sq2, sq3, sq4, sq5, sq6]
  refine tk1 (i := 1) (v := ?v1a) rfl ?y1a ?r1a
  case y1a => (intro w' hSw; (try dsimp only at hSw); go_simp; (try with_reducible rfl))
  try simp only [Act.put, sq1, sq2, sq3, sq4, sq5, sq6]
  refine tk1 (i := 2) (v := ?v2a) rfl ?y2a ?r2a
  case y2a => (intro w' hSw; (try dsimp only at hSw); go_simp; (try with_reducible rfl))
  try simp only [Act.put, sq1, sq2, sq3, sq4, sq5, sq6]
  refine tk1 (i := 3) (v := ?v3a) rfl ?y3a ?r3a
  case y3a => (intro w' hSw; (try dsimp only at hSw); go_simp; (try with_reducible rfl))
  try simp only [Act.put, sq1, sq2, sq3, sq4, sq5, sq6]
  refine tk1 (i := 4) (v := ?v4a) rfl ?y4a ?r4a
  case y4a => (intro w' hSw; (try dsimp only at hSw); go_simp; (try with_reducible rfl))
  try simp only [Act.put, sq1, sq2, sq3, sq4, sq5, sq6]
  refine tk1 (i := 5) (v := ?v5a) rfl ?y5a ?r5a
  case y5a => (intro w' hSw; (try dsimp only at hSw); go_simp; (try with_reducible rfl))
  try simp only [Act.put, sq1, sq2, sq3, sq4, sq5, sq6]
  refine tk1 (i := 6) (v := ?v6a) rfl ?y6a ?r6a
  case y6a => (intro w' hSw; (try dsimp only at hSw); go_simp; (try with_reducible rfl))
  try simp only [Act.put, sq1, sq2, sq3, sq4, sq5, sq6]
  refine tk1 (i := 7) (v := ?v7a) rfl ?y7a ?r7a
  case y7a => (intro w' hSw; (try dsimp only at hSw); go_simp; (try with_reducible rfl))
  try simp only [Act.put, sq1, sq2, sq3, sq4, sq5, sq6]
  refine tk1 (i := 8) (v := ?v8a) rfl ?y8a ?r8a
  case y8a => (intro w' hSw; (try dsimp only at hSw); go_simp; (try with_reducible rfl))
  try simp only [Act.put, sq1, sq2, sq3, sq4, sq5, sq6]
  refine tk1 (i := 9) (v := ?v9a) rfl ?y9a ?r9a
  case y9a => (intro w' hSw; (try dsimp only at hSw); go_simp; (try with_reducible rfl))
  try simp only [Act.put, sq1, sq2, sq3, sq4, sq5, sq6]
  refine tk1 (i := 10) (v := ?v10a) rfl ?y10a ?r10a
  case y10a => (intro w' hSw; (try dsimp only at hSw); go_simp; (try with_reducible rfl))
  try simp only [Act.put, sq1, sq2, sq3, sq4, sq5, sq6]
  refine tk1 (i := 11) (v := ?v11a) rfl ?y11a ?r11a
  case y11a => (intro w' hSw; (try dsimp only at hSw); go_simp; (try with_reducible rfl))
  try simp only [Act.put, sq1, sq2, sq3, sq4, sq5, sq6]
  refine tk1 (i := 12) (v := ?v12a) rfl ?y12a ?r12a
  case y12a => (intro w' hSw; (try dsimp only at hSw); go_simp; (try with_reducible rfl))
  try simp only [Act.put, sq1, sq2, sq3, sq4, sq5, sq6]
  refine tk1 (i := 13) (v := ?v13a) rfl ?y13a ?r13a
  case y13a => (intro w' hSw; (try dsimp only at hSw); go_simp; (try with_reducible rfl))
  try simp only [Act.put, sq1, sq2, sq3, sq4, sq5, sq6]
  refine tk1 (i := 14) (v := ?v14a) rfl ?y14a ?r14a
  case y14a => (intro w' hSw; (try dsimp only at hSw); go_simp; (try with_reducible rfl))
  try simp only [Act.put, sq1, sq2, sq3, sq4, sq5, sq6]
  refine tk1 (i := 15) (v := ?v15a) rfl ?y15a ?r15a
  case y15a => (intro w' hSw; (try dsimp only at hSw); go_simp; (try with_reducible rfl))
  try simp only [Act.put, sq1, sq2, sq3, sq4, sq5, sq6]
  refine tk1 (i := 16) (v := ?v16a) rfl ?y16a ?r16a
  case y16a => (intro w' hSw; (try dsimp only at hSw); go_simp; (try with_reducible rfl))
  try simp only [Act.put, sq1, sq2, sq3, sq4, sq5, sq6]
  refine wpAnyH_ready (rs := [17]) (by kernel_rfl) (by simp) ?_
  refine AllReadyH.cons (o := _) rfl (fun K hK => ?_) AllReadyH.nil
  have HO := lim_oneC ⟨a1, a2, a3, a4⟩
  unfold lmCells at HO
  dsimp only at HO
  refine wp_store_mid 29 _ _ rfl k2 0 #[.int .i64 a1, .int .i64 a2, .int .i64 a3, .int .i64 a4] rfl rfl (blk_there V2.out rfl) infoLm1 HO ?_
  clear hHeld HO
  have R2 := hid (V2.out.fill [.int .i64 a1, .int .i64 a2, .int .i64 a3, .int .i64 a4] 0)
  have RX := hid (ext_setCells (HEU.out.trans EX) (b := k2) (by have := HK2.out; omega) [.int .i64 a1, .int .i64 a2, .int .i64 a3, .int .i64 a4] 0)
  simp only [fillA, List.setIfInBounds_toArray, List.set_cons_zero, List.set_cons_succ] at R2
  refine hK.out _ _ (sGs EX _ _ _) (fun hHeld => ?_)
  clear hK K
  try simp only [Act.put, sq1, sq2, sq3, sq4, sq5, sq6]
  refine tk1 (i := 18) (v := ?v18b) rfl ?y18b ?r18b
  case y18b => (intro w' hSw; (try dsimp only at hSw); go_simp; (try with_reducible rfl))
  try simp only [Act.put, sq1, sq2, sq3, sq4, sq5, sq6]
  refine wpAnyH_done (by kernel_rfl) ?_ _
  clear hHeld
  obtain ⟨r0, r1, r2, r3⟩ : _ ∧ _ ∧ _ ∧ _ := ⟨R2.out.cell 0, R2.out.cell 1, R2.out.cell 2, R2.out.cell 3⟩
  simp only [List.getElem?_toArray, List.getElem?_cons_zero, List.getElem?_cons_succ] at r0 r1 r2 r3
  obtain ⟨Z, hZ⟩ : ∃ Z, World.setCells X k2 0 [.int .i64 a1, .int .i64 a2, .int .i64 a3, .int .i64 a4] = Z := ⟨_, rfl⟩
  rw [hZ] at r0 r1 r2 r3 RX
  have hZ2 : World.setCells X k2 0 (#[.int .i64 a1, .int .i64 a2, .int .i64 a3, .int .i64 a4] : Array Value).toList = Z := hZ
  first | rw [hZ2] | rw [hZ]
  clear hZ hZ2 x0 x1 x2 x3 y0 y1 y2 y3 z0 z1 V2
  go_wp2
  exact bodyPost_ret (v := .tuple #[.agg #[.int .i64 a1, .int .i64 a2, .int .i64 a3, .int .i64 a4], .bool (decide (a3 ≤ a4))]) (by simp [results, Tryz.results155, go_sem, r0, r1, r2, r3]) rfl ⟨rfl, RX.out⟩
end Go.Proofs.YtecamnhnjmldcaaGreatDoor
