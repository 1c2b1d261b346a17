/- works of the law returns true. -/
import Derived.Test.YtggggnjibedgaaaGreatB14
import Derived.Test.YtggggnjibedgaaaGreatB15
set_option linter.unusedSimpArgs false
set_option linter.unusedVariables false
namespace Go.Proofs.YtggggnjibedgaaaGreat
open Go.RowKit
/-- What region 2 reads. -/
def WkS (b rb ro wc rc fc : Nat) (wA FA : Option Addr) (W : World) : Prop :=
  W.cell? ⟨b, 5, none⟩ = some (.int .i64 3650) ∧ W.cell? ⟨b, 6, none⟩ = some (.int .i64 1825) ∧ W.cell? ⟨b, 7, none⟩ = some (.int .i64 10) ∧ W.cell? ⟨b, 8, none⟩ = some (.slice wA 3 wc) ∧ W.cell? ⟨b, 9, none⟩ = some (.slice (some ⟨rb, ro, none⟩) 2 rc) ∧
  W.cell? ⟨rb, ro, none⟩ = some (.int .i64 0) ∧ W.cell? ⟨rb, ro + 1, none⟩ = some (.int .i64 100) ∧ W.cell? ⟨rb, ro + 2, none⟩ = some (.int .i64 50) ∧ W.cell? ⟨rb, ro + 3, none⟩ = some (.slice FA 2 fc)
theorem wkS {b rb ro wc rc fc : Nat} {wA FA : Option Addr} {W X : World} (h : WkS b rb ro wc rc fc wA FA W) (e : Ext W X) (zb : b < W.heap.size) (zr : rb < W.heap.size) : WkS b rb ro wc rc fc wA FA X := by
  obtain ⟨h1, h2, h3, h4, h5, h6, h7, h8, h9⟩ := h
  exact ⟨(e.cell (p := ⟨b, 5, none⟩) zb).trans h1, (e.cell (p := ⟨b, 6, none⟩) zb).trans h2, (e.cell (p := ⟨b, 7, none⟩) zb).trans h3, (e.cell (p := ⟨b, 8, none⟩) zb).trans h4, (e.cell (p := ⟨b, 9, none⟩) zb).trans h5,
    (e.cell (p := ⟨rb, ro, none⟩) zr).trans h6, (e.cell (p := ⟨rb, ro + 1, none⟩) zr).trans h7, (e.cell (p := ⟨rb, ro + 2, none⟩) zr).trans h8, (e.cell (p := ⟨rb, ro + 3, none⟩) zr).trans h9⟩
theorem infoSpS : (Tryz.prog.info? 33).map (·.size) = some 2 := by kernel_rfl
theorem intsNew2 (W : World) : IntsAt (W.alloc (.cells #[.int .i64 0, .int .i64 1] 3)) (some ⟨W.heap.size, 0, none⟩) [0, 1] := fun _ => by
  have B := Blk.new W 3 #[.int .i64 0, .int .i64 1]
  refine ⟨W.heap.size, 0, rfl, B.lt, fun k hk => ?_⟩
  have h2 : k = 0 ∨ k = 1 := by simp at hk; omega
  rcases h2 with rfl | rfl <;> exact B.cell _
set_option maxHeartbeats 20000000 in
set_option maxRecDepth 100000 in
theorem works_any (w : World) :
    Calls Tryz.prog 14 #[] w fun e w' => e = .returned (.bool true) ∧ Ext w w' := by
  have HSP := hid span_any
  go_enter Tryz.func14, Tryz.ntmps14
  go_wp2_with fail
  refine Calls.mono (example_any _) ?_
  rintro e w1 ⟨OA, PA, pc, rfl, hO, hP, E1⟩
  dsimp only
  have HO := hid hO
  have HP := hid hP
  have HE1 := hid E1
  clear hO hP E1
  obtain ⟨gA, gc, cA, cc, wA, wc, rA, rc⟩ := OA
  unfold Ou.val exO exM
  simp only [List.length_cons, List.length_nil, Nat.reduceAdd, Nat.zero_add]
  go_wp2_with fail
  have OB := blk_last w1 (.cells #[.int .i64 400, .int .i64 3, .int .i64 10, .slice gA 3 gc, .slice cA 3 cc, .int .i64 3650, .int .i64 1825, .int .i64 10, .slice wA 3 wc, .slice rA 2 rc] 53)
  have EW := ext_alloc1 w1 (.cells #[.int .i64 400, .int .i64 3, .int .i64 10, .slice gA 3 gc, .slice cA 3 cc, .int .i64 3650, .int .i64 1825, .int .i64 10, .slice wA 3 wc, .slice rA 2 rc] 53)
  obtain ⟨W, hW⟩ : ∃ W, w1.alloc (.cells #[.int .i64 400, .int .i64 3, .int .i64 10, .slice gA 3 gc, .slice cA 3 cc, .int .i64 3650, .int .i64 1825, .int .i64 10, .slice wA 3 wc, .slice rA 2 rc] 53) = W := ⟨_, rfl⟩
  rw [hW] at OB EW ⊢
  clear hW
  have HEW := hid EW
  have HOB := hid (show Blk _ _ _ _ from OB)
  clear EW OB
  obtain ⟨rb, ro, rfl, hrb, hrk⟩ := (HO.out.rs.ext HEW.out) (by simp [exO])
  obtain ⟨FA, fc, f0, f1, f2, f3, f4, f5⟩ := hrk 0 (by simp [exO])
  simp only [exO, List.getD_cons_zero, exR, Nat.zero_mul, Nat.add_zero, List.length_cons, List.length_nil, Nat.reduceAdd, Nat.zero_add] at f0 f1 f2 f3 hrb
  have hFA := hid (show FlsAt W FA exR.falls from f5)
  have zb := HOB.out.lt
  have zr : rb < W.heap.size := hrb
  have HS0 := hid (show WkS w1.heap.size rb ro wc rc fc wA FA W from ⟨HOB.out.cell 5, HOB.out.cell 6, HOB.out.cell 7, HOB.out.cell 8, HOB.out.cell 9, f0, f1, f2, f3⟩)
  clear f0 f1 f2 f3 f4 f5 hrk hrb
  refine wp_region_held_drew (S := WkS w1.heap.size rb ro wc rc fc wA FA) (by kernel_rfl) ?hS0 (fun hHeld => ?_)
  case hS0 => exact wkS HS0.out (Ext.drew (Ext.refl W)) zb zr
  have EX : Ext W W.drew := Ext.drew (Ext.refl W)
  obtain ⟨X, hX⟩ : ∃ X, W.drew = X := ⟨_, rfl⟩
  rw [hX] at EX hHeld ⊢
  clear hX
  refine tk1 (i := 0) (v := ?v0a) rfl ?y0a ?r0a
  case y0a => (intro w' hSw; obtain ⟨s1, s2, s3, s4, s5, s6, s7, s8, s9⟩ := hSw; go_simp; (try with_reducible rfl))
  try simp only [Act.put, sq1, sq2, sq3, sq4, sq5, sq6]
  refine tk1 (i := 1) (v := ?v1a) rfl ?y1a ?r1a
  case y1a => (intro w' hSw; obtain ⟨s1, s2, s3, s4, s5, s6, s7, s8, s9⟩ := hSw; go_simp; (try with_reducible rfl))
  try simp only [Act.put, sq1, sq2, sq3, sq4, sq5, sq6]
  refine tk1 (i := 2) (v := ?v2a) rfl ?y2a ?r2a
  case y2a => (intro w' hSw; obtain ⟨s1, s2, s3, s4, s5, s6, s7, s8, s9⟩ := hSw; go_simp; (try with_reducible rfl))
  try simp only [Act.put, sq1, sq2, sq3, sq4, sq5, sq6]
  refine tk1 (i := 3) (v := ?v3a) rfl ?y3a ?r3a
  case y3a => (intro w' hSw; obtain ⟨s1, s2, s3, s4, s5, s6, s7, s8, s9⟩ := hSw; go_simp; (try with_reducible rfl))
  try simp only [Act.put, sq1, sq2, sq3, sq4, sq5, sq6]
  refine tk1 (i := 4) (v := ?v4a) rfl ?y4a ?r4a
  case y4a => (intro w' hSw; obtain ⟨s1, s2, s3, s4, s5, s6, s7, s8, s9⟩ := hSw; go_simp; (try with_reducible rfl))
  try simp only [Act.put, sq1, sq2, sq3, sq4, sq5, sq6]
  refine tk1 (i := 5) (v := ?v5a) rfl ?y5a ?r5a
  case y5a => (intro w' hSw; obtain ⟨s1, s2, s3, s4, s5, s6, s7, s8, s9⟩ := hSw; go_simp; (try with_reducible rfl))
  try simp only [Act.put, sq1, sq2, sq3, sq4, sq5, sq6]
  refine wpAnyH_ready (rs := [6, 10]) (by kernel_rfl) (by simp) ?_
  refine AllReadyH.cons (o := _) rfl (fun K hK => ?_) (AllReadyH.cons (o := _) rfl (fun K hK => ?_) AllReadyH.nil)
  · go_simp
    refine Calls.mono (exDamage _ _ _ _ _ (HO.out.ws.ext (HEW.out.trans EX)) (hFA.out.ext EX)) ?_
    rintro e Y ⟨rfl, hEX⟩
    dsimp only
    replace EX := EX.trans hEX
    (try replace DB := hid (DB.out.ext hEX))
    clear hHeld hEX
    refine hK.out _ _ (wkS HS0.out EX zb zr) (fun hHeld => ?_)
    clear hK K
    try simp only [Act.put, sq1, sq2, sq3, sq4, sq5, sq6]
    refine tk1 (i := 7) (v := ?v7b) rfl ?y7b ?r7b
    case y7b => (intro w' hSw; obtain ⟨s1, s2, s3, s4, s5, s6, s7, s8, s9⟩ := hSw; go_simp; (try with_reducible rfl))
    try simp only [Act.put, sq1, sq2, sq3, sq4, sq5, sq6]
    refine tk1 (i := 8) (v := ?v8b) rfl ?y8b ?r8b
    case y8b => (intro w' hSw; obtain ⟨s1, s2, s3, s4, s5, s6, s7, s8, s9⟩ := hSw; go_simp; (try with_reducible rfl))
    try simp only [Act.put, sq1, sq2, sq3, sq4, sq5, sq6]
    refine tk1 (i := 9) (v := ?v9b) rfl ?y9b ?r9b
    case y9b => (intro w' hSw; obtain ⟨s1, s2, s3, s4, s5, s6, s7, s8, s9⟩ := hSw; go_simp; (try with_reducible rfl))
    try simp only [Act.put, sq1, sq2, sq3, sq4, sq5, sq6]
    refine wpAnyH_ready (rs := [10]) (by kernel_rfl) (by simp) ?_
    refine AllReadyH.cons (o := _) rfl (fun K hK => ?_) AllReadyH.nil
    have LX := EX.size
    go_simp
    have DB := hid (Blk.new Y 33 #[.int .i64 0, .int .i64 0])
    replace EX := EX.alloc (.cells #[.int .i64 0, .int .i64 0] 33)
    clear hHeld
    obtain ⟨d, hd⟩ : ∃ d, Y.heap.size = d := ⟨_, rfl⟩
    have zd : W.heap.size ≤ d := by rw [← hd]; exact LX
    rw [hd] at DB ⊢
    clear hd
    refine hK.out _ _ (wkS HS0.out EX zb zr) (fun hHeld => ?_)
    clear hK K
    try simp only [Act.put, sq1, sq2, sq3, sq4, sq5, sq6]
    obtain ⟨Z, hZ⟩ : ∃ Z, Y.alloc (.cells #[.int .i64 0, .int .i64 0] 33) = Z := ⟨_, rfl⟩
    rw [hZ] at EX DB hHeld ⊢
    clear hZ
    refine wpAnyH_ready (rs := [11]) (by kernel_rfl) (by simp) ?_
    refine AllReadyH.cons (o := _) rfl (fun K hK => ?_) AllReadyH.nil
    refine wp_store_mid 33 _ _ rfl d 0 (#[.int .i64 1, .int .i64 5]) rfl rfl (blk_there DB.out rfl) infoSpS (by simp [Value.oneCell']) ?_
    have EX2 := ext_setCells EX zd [.int .i64 1, .int .i64 5] 0
    have DB2 := DB.out.fill [.int .i64 1, .int .i64 5] 0
    simp only [fillA, List.setIfInBounds_toArray, List.set_cons_zero, List.set_cons_succ] at DB2
    clear hHeld EX DB
    refine hK.out _ _ (wkS HS0.out EX2 zb zr) (fun hHeld => ?_)
    clear hK K
    try simp only [Act.put, sq1, sq2, sq3, sq4, sq5, sq6]
    obtain ⟨Z2, hZ2⟩ : ∃ Z2, Z.setCells d 0 [.int .i64 1, .int .i64 5] = Z2 := ⟨_, rfl⟩
    rw [hZ2] at EX2 DB2 hHeld ⊢
    clear hZ2
    refine tk1 (i := 12) (v := ?v12d) rfl ?y12d ?r12d
    case y12d => (intro w' hSw; obtain ⟨s1, s2, s3, s4, s5, s6, s7, s8, s9⟩ := hSw; go_simp; (try with_reducible rfl))
    try simp only [Act.put, sq1, sq2, sq3, sq4, sq5, sq6]
    clear hHeld
    refine wpAnyH_done (by kernel_rfl) ?_ _
    have EX3 := hid EX2
    have DB3 := hid DB2
    clear EX2 DB2 LX
    go_wp2_with fail
    refine Calls.mono (exProp _ _ _ (HP.out.ext (HEW.out.trans EX3.out))) ?_
    rintro e w3 ⟨PA', pc', rfl, hL, E3⟩
    dsimp only
    have HL := hid hL
    have DB4 := hid (DB3.out.ext E3)
    have EX4 := hid (EX3.out.trans E3)
    clear hL E3 DB3 EX3
    have HB4 := HOB.out.ext EX4.out
    obtain ⟨b0, b1, b2, b3, b4, b5, b6, b7, b8, b9⟩ : _ ∧ _ ∧ _ ∧ _ ∧ _ ∧ _ ∧ _ ∧ _ ∧ _ ∧ _ := ⟨HB4.cell 0, HB4.cell 1, HB4.cell 2, HB4.cell 3, HB4.cell 4, HB4.cell 5, HB4.cell 6, HB4.cell 7, HB4.cell 8, HB4.cell 9⟩
    simp only [List.getElem?_toArray, List.getElem?_cons_zero, List.getElem?_cons_succ] at b0 b1 b2 b3 b4 b5 b6 b7 b8 b9
    clear HB4
    go_wp2_with fail
    refine Calls.mono (exGuides ⟨gA, gc, cA, cc, wA, wc, some ⟨rb, ro, none⟩, rc⟩ _ (HO.out.ext (HEW.out.trans EX4.out))) ?_
    rintro e w4 ⟨rfl, E4⟩
    dsimp only
    clear b0 b1 b2 b3 b4 b5 b6 b7 b8 b9
    have HL5 := hid (HL.out.ext E4)
    have DB5 := hid (DB4.out.ext E4)
    have EX5 := hid (EX4.out.trans E4)
    clear E4 HL DB4 EX4
    go_wp2_with fail
    have s1 := DB5.out.cell 0
    have s2 := DB5.out.cell 1
    have sz := DB5.out.lt
    simp only [List.getElem?_toArray, List.getElem?_cons_zero, List.getElem?_cons_succ] at s1 s2
    refine wp_region_held_drew (S := fun w' => w'.cell? ⟨d, 0, none⟩ = some (.int .i64 1) ∧ w'.cell? ⟨d, 1, none⟩ = some (.int .i64 5)) (by kernel_rfl) ?hS0 (fun hHeld => ?_)
    case hS0 => exact ⟨s1, s2⟩
    have EY : Ext w4 w4.drew := Ext.drew (Ext.refl w4)
    obtain ⟨V, hV⟩ : ∃ V, w4.drew = V := ⟨_, rfl⟩
    rw [hV] at EY hHeld ⊢
    clear hV
    refine tk1 (i := 0) (v := ?v0d) rfl ?y0d ?r0d
    case y0d => (intro w' hSw; (try dsimp only at hSw); go_simp; (try with_reducible rfl))
    try simp only [Act.put, sq1, sq2, sq3, sq4, sq5, sq6]
    refine tk1 (i := 1) (v := ?v1d) rfl ?y1d ?r1d
    case y1d => (intro w' hSw; (try dsimp only at hSw); go_simp; (try with_reducible rfl))
    try simp only [Act.put, sq1, sq2, sq3, sq4, sq5, sq6]
    refine tk1 (i := 2) (v := ?v2d) rfl ?y2d ?r2d
    case y2d => (intro w' hSw; (try dsimp only at hSw); go_simp; (try with_reducible rfl))
    try simp only [Act.put, sq1, sq2, sq3, sq4, sq5, sq6]
    refine tk1 (i := 3) (v := ?v3d) rfl ?y3d ?r3d
    case y3d => (intro w' hSw; (try dsimp only at hSw); go_simp; (try with_reducible rfl))
    try simp only [Act.put, sq1, sq2, sq3, sq4, sq5, sq6]
    refine tk1 (i := 4) (v := ?v4d) rfl ?y4d ?r4d
    case y4d => (intro w' hSw; (try dsimp only at hSw); go_simp; (try with_reducible rfl))
    try simp only [Act.put, sq1, sq2, sq3, sq4, sq5, sq6]
    refine tk1 (i := 5) (v := ?v5d) rfl ?y5d ?r5d
    case y5d => (intro w' hSw; (try dsimp only at hSw); go_simp; (try with_reducible rfl))
    try simp only [Act.put, sq1, sq2, sq3, sq4, sq5, sq6]
    refine tk1 (i := 6) (v := ?v6d) rfl ?y6d ?r6d
    case y6d => (intro w' hSw; (try dsimp only at hSw); go_simp; (try with_reducible rfl))
    try simp only [Act.put, sq1, sq2, sq3, sq4, sq5, sq6]
    refine tk1 (i := 7) (v := ?v7d) rfl ?y7d ?r7d
    case y7d => (intro w' hSw; (try dsimp only at hSw); go_simp; (try with_reducible rfl))
    try simp only [Act.put, sq1, sq2, sq3, sq4, sq5, sq6]
    refine tk1 (i := 8) (v := ?v8d) rfl ?y8d ?r8d
    case y8d => (intro w' hSw; (try dsimp only at hSw); go_simp; (try with_reducible rfl))
    try simp only [Act.put, sq1, sq2, sq3, sq4, sq5, sq6]
    refine tk1 (i := 9) (v := ?v9d) rfl ?y9d ?r9d
    case y9d => (intro w' hSw; (try dsimp only at hSw); go_simp; (try with_reducible rfl))
    try simp only [Act.put, sq1, sq2, sq3, sq4, sq5, sq6]
    refine tk1 (i := 10) (v := ?v10d) rfl ?y10d ?r10d
    case y10d => (intro w' hSw; (try dsimp only at hSw); go_simp; (try with_reducible rfl))
    try simp only [Act.put, sq1, sq2, sq3, sq4, sq5, sq6]
    refine tk1 (i := 11) (v := ?v11d) rfl ?y11d ?r11d
    case y11d => (intro w' hSw; (try dsimp only at hSw); go_simp; (try with_reducible rfl))
    try simp only [Act.put, sq1, sq2, sq3, sq4, sq5, sq6]
    refine wpAnyH_ready (rs := [12]) (by kernel_rfl) (by simp) ?_
    refine AllReadyH.cons (o := _) rfl (fun K hK => ?_) AllReadyH.nil
    go_simp
    refine Calls.mono (HSP.out _ _ _) ?_
    rintro e V2 ⟨rfl, hEX⟩
    dsimp only
    replace EY := EY.trans hEX
    clear hHeld hEX
    refine hK.out _ _ ⟨(EY.cell (p := ⟨d, 0, none⟩) sz).trans s1, (EY.cell (p := ⟨d, 1, none⟩) sz).trans s2⟩ (fun hHeld => ?_)
    clear hK K
    try simp only [Act.put, sq1, sq2, sq3, sq4, sq5, sq6]
    refine tk1 (i := 13) (v := ?v13d) rfl ?y13d ?r13d
    case y13d => (intro w' hSw; (try dsimp only at hSw); go_simp; (try with_reducible rfl))
    try simp only [Act.put, sq1, sq2, sq3, sq4, sq5, sq6]
    refine tk1 (i := 14) (v := ?v14d) rfl ?y14d ?r14d
    case y14d => (intro w' hSw; (try dsimp only at hSw); go_simp; (try with_reducible rfl))
    try simp only [Act.put, sq1, sq2, sq3, sq4, sq5, sq6]
    refine tk1 (i := 15) (v := ?v15d) rfl ?y15d ?r15d
    case y15d => (intro w' hSw; (try dsimp only at hSw); go_simp; (try with_reducible rfl))
    try simp only [Act.put, sq1, sq2, sq3, sq4, sq5, sq6]
    refine tk1 (i := 16) (v := ?v16d) rfl ?y16d ?r16d
    case y16d => (intro w' hSw; (try dsimp only at hSw); go_simp; (try with_reducible rfl))
    try simp only [Act.put, sq1, sq2, sq3, sq4, sq5, sq6]
    refine wpAnyH_ready (rs := [17]) (by kernel_rfl) (by simp) ?_
    refine AllReadyH.cons (o := _) rfl (fun K hK => ?_) AllReadyH.nil
    go_simp
    have IS := hid (show IntsAt (V2.alloc (.cells #[.int .i64 0, .int .i64 1] 3)) (some ⟨V2.heap.size, 0, none⟩) [0, 1] from intsNew2 V2)
    replace EY := EY.alloc (.cells #[.int .i64 0, .int .i64 1] 3)
    clear hHeld
    refine hK.out _ _ ⟨(EY.cell (p := ⟨d, 0, none⟩) sz).trans s1, (EY.cell (p := ⟨d, 1, none⟩) sz).trans s2⟩ (fun hHeld => ?_)
    clear hK K
    try simp only [Act.put, sq1, sq2, sq3, sq4, sq5, sq6]
    refine wpAnyH_ready (rs := [18]) (by kernel_rfl) (by simp) ?_
    refine AllReadyH.cons (o := _) rfl (fun K hK => ?_) AllReadyH.nil
    go_simp
    refine Calls.mono (sameInts_any _ _ 2 2 _ _ [0, 1] [0, 1] rfl rfl (by decide) (by decide) _ (HL5.out.ext EY) IS.out) ?_
    rintro e V3 ⟨rfl, hEX⟩
    simp only [decide_true]
    replace EY := EY.trans hEX
    clear hHeld hEX
    refine hK.out _ _ ⟨(EY.cell (p := ⟨d, 0, none⟩) sz).trans s1, (EY.cell (p := ⟨d, 1, none⟩) sz).trans s2⟩ (fun hHeld => ?_)
    clear hK K
    try simp only [Act.put, sq1, sq2, sq3, sq4, sq5, sq6]
    refine tk1 (i := 19) (v := ?v19d) rfl ?y19d ?r19d
    case y19d => (intro w' hSw; (try dsimp only at hSw); go_simp; (try with_reducible rfl))
    try simp only [Act.put, sq1, sq2, sq3, sq4, sq5, sq6]
    refine tk1 (i := 20) (v := ?v20d) rfl ?y20d ?r20d
    case y20d => (intro w' hSw; (try dsimp only at hSw); go_simp; (try with_reducible rfl))
    try simp only [Act.put, sq1, sq2, sq3, sq4, sq5, sq6]
    refine tk1 (i := 21) (v := ?v21d) rfl ?y21d ?r21d
    case y21d => (intro w' hSw; (try dsimp only at hSw); go_simp; (try with_reducible rfl))
    try simp only [Act.put, sq1, sq2, sq3, sq4, sq5, sq6]
    refine tk1 (i := 22) (v := ?v22d) rfl ?y22d ?r22d
    case y22d => (intro w' hSw; (try dsimp only at hSw); go_simp; (try with_reducible rfl))
    try simp only [Act.put, sq1, sq2, sq3, sq4, sq5, sq6]
    refine tk1 (i := 23) (v := ?v23d) rfl ?y23d ?r23d
    case y23d => (intro w' hSw; (try dsimp only at hSw); go_simp; (try with_reducible rfl))
    try simp only [Act.put, sq1, sq2, sq3, sq4, sq5, sq6]
    refine tk1 (i := 24) (v := ?v24d) rfl ?y24d ?r24d
    case y24d => (intro w' hSw; (try dsimp only at hSw); go_simp; (try with_reducible rfl))
    try simp only [Act.put, sq1, sq2, sq3, sq4, sq5, sq6]
    clear hHeld
    refine wpAnyH_done (by kernel_rfl) ?_ _
    have EZ := hid ((HE1.out.trans HEW.out).trans (EX5.out.trans EY))
    clear EY s1 s2 sz
    go_wp2
    exact bodyPost_ret (v := .bool true) (by simp [results, Tryz.results14, go_sem]) rfl ⟨rfl, EZ.out⟩
  · have LX := EX.size
    go_simp
    have DB := hid (Blk.new X 33 #[.int .i64 0, .int .i64 0])
    replace EX := EX.alloc (.cells #[.int .i64 0, .int .i64 0] 33)
    clear hHeld
    obtain ⟨d, hd⟩ : ∃ d, X.heap.size = d := ⟨_, rfl⟩
    have zd : W.heap.size ≤ d := by rw [← hd]; exact LX
    rw [hd] at DB ⊢
    clear hd
    refine hK.out _ _ (wkS HS0.out EX zb zr) (fun hHeld => ?_)
    clear hK K
    try simp only [Act.put, sq1, sq2, sq3, sq4, sq5, sq6]
    refine wpAnyH_ready (rs := [6]) (by kernel_rfl) (by simp) ?_
    refine AllReadyH.cons (o := _) rfl (fun K hK => ?_) AllReadyH.nil
    go_simp
    refine Calls.mono (exDamage _ _ _ _ _ (HO.out.ws.ext (HEW.out.trans EX)) (hFA.out.ext EX)) ?_
    rintro e Z ⟨rfl, hEX⟩
    dsimp only
    replace EX := EX.trans hEX
    (try replace DB := hid (DB.out.ext hEX))
    clear hHeld hEX
    refine hK.out _ _ (wkS HS0.out EX zb zr) (fun hHeld => ?_)
    clear hK K
    try simp only [Act.put, sq1, sq2, sq3, sq4, sq5, sq6]
    refine tk1 (i := 7) (v := ?v7c) rfl ?y7c ?r7c
    case y7c => (intro w' hSw; obtain ⟨s1, s2, s3, s4, s5, s6, s7, s8, s9⟩ := hSw; go_simp; (try with_reducible rfl))
    try simp only [Act.put, sq1, sq2, sq3, sq4, sq5, sq6]
    refine tk1 (i := 8) (v := ?v8c) rfl ?y8c ?r8c
    case y8c => (intro w' hSw; obtain ⟨s1, s2, s3, s4, s5, s6, s7, s8, s9⟩ := hSw; go_simp; (try with_reducible rfl))
    try simp only [Act.put, sq1, sq2, sq3, sq4, sq5, sq6]
    refine tk1 (i := 9) (v := ?v9c) rfl ?y9c ?r9c
    case y9c => (intro w' hSw; obtain ⟨s1, s2, s3, s4, s5, s6, s7, s8, s9⟩ := hSw; go_simp; (try with_reducible rfl))
    try simp only [Act.put, sq1, sq2, sq3, sq4, sq5, sq6]
    refine wpAnyH_ready (rs := [11]) (by kernel_rfl) (by simp) ?_
    refine AllReadyH.cons (o := _) rfl (fun K hK => ?_) AllReadyH.nil
    refine wp_store_mid 33 _ _ rfl d 0 (#[.int .i64 1, .int .i64 5]) rfl rfl (blk_there DB.out rfl) infoSpS (by simp [Value.oneCell']) ?_
    have EX2 := ext_setCells EX zd [.int .i64 1, .int .i64 5] 0
    have DB2 := DB.out.fill [.int .i64 1, .int .i64 5] 0
    simp only [fillA, List.setIfInBounds_toArray, List.set_cons_zero, List.set_cons_succ] at DB2
    clear hHeld EX DB
    refine hK.out _ _ (wkS HS0.out EX2 zb zr) (fun hHeld => ?_)
    clear hK K
    try simp only [Act.put, sq1, sq2, sq3, sq4, sq5, sq6]
    obtain ⟨Z2, hZ2⟩ : ∃ Z2, Z.setCells d 0 [.int .i64 1, .int .i64 5] = Z2 := ⟨_, rfl⟩
    rw [hZ2] at EX2 DB2 hHeld ⊢
    clear hZ2
    refine tk1 (i := 12) (v := ?v12e) rfl ?y12e ?r12e
    case y12e => (intro w' hSw; obtain ⟨s1, s2, s3, s4, s5, s6, s7, s8, s9⟩ := hSw; go_simp; (try with_reducible rfl))
    try simp only [Act.put, sq1, sq2, sq3, sq4, sq5, sq6]
    clear hHeld
    refine wpAnyH_done (by kernel_rfl) ?_ _
    have EX3 := hid EX2
    have DB3 := hid DB2
    clear EX2 DB2 LX
    go_wp2_with fail
    refine Calls.mono (exProp _ _ _ (HP.out.ext (HEW.out.trans EX3.out))) ?_
    rintro e w3 ⟨PA', pc', rfl, hL, E3⟩
    dsimp only
    have HL := hid hL
    have DB4 := hid (DB3.out.ext E3)
    have EX4 := hid (EX3.out.trans E3)
    clear hL E3 DB3 EX3
    have HB4 := HOB.out.ext EX4.out
    obtain ⟨b0, b1, b2, b3, b4, b5, b6, b7, b8, b9⟩ : _ ∧ _ ∧ _ ∧ _ ∧ _ ∧ _ ∧ _ ∧ _ ∧ _ ∧ _ := ⟨HB4.cell 0, HB4.cell 1, HB4.cell 2, HB4.cell 3, HB4.cell 4, HB4.cell 5, HB4.cell 6, HB4.cell 7, HB4.cell 8, HB4.cell 9⟩
    simp only [List.getElem?_toArray, List.getElem?_cons_zero, List.getElem?_cons_succ] at b0 b1 b2 b3 b4 b5 b6 b7 b8 b9
    clear HB4
    go_wp2_with fail
    refine Calls.mono (exGuides ⟨gA, gc, cA, cc, wA, wc, some ⟨rb, ro, none⟩, rc⟩ _ (HO.out.ext (HEW.out.trans EX4.out))) ?_
    rintro e w4 ⟨rfl, E4⟩
    dsimp only
    clear b0 b1 b2 b3 b4 b5 b6 b7 b8 b9
    have HL5 := hid (HL.out.ext E4)
    have DB5 := hid (DB4.out.ext E4)
    have EX5 := hid (EX4.out.trans E4)
    clear E4 HL DB4 EX4
    go_wp2_with fail
    have s1 := DB5.out.cell 0
    have s2 := DB5.out.cell 1
    have sz := DB5.out.lt
    simp only [List.getElem?_toArray, List.getElem?_cons_zero, List.getElem?_cons_succ] at s1 s2
    refine wp_region_held_drew (S := fun w' => w'.cell? ⟨d, 0, none⟩ = some (.int .i64 1) ∧ w'.cell? ⟨d, 1, none⟩ = some (.int .i64 5)) (by kernel_rfl) ?hS0 (fun hHeld => ?_)
    case hS0 => exact ⟨s1, s2⟩
    have EY : Ext w4 w4.drew := Ext.drew (Ext.refl w4)
    obtain ⟨V, hV⟩ : ∃ V, w4.drew = V := ⟨_, rfl⟩
    rw [hV] at EY hHeld ⊢
    clear hV
    refine tk1 (i := 0) (v := ?v0e) rfl ?y0e ?r0e
    case y0e => (intro w' hSw; (try dsimp only at hSw); go_simp; (try with_reducible rfl))
    try simp only [Act.put, sq1, sq2, sq3, sq4, sq5, sq6]
    refine tk1 (i := 1) (v := ?v1e) rfl ?y1e ?r1e
    case y1e => (intro w' hSw; (try dsimp only at hSw); go_simp; (try with_reducible rfl))
    try simp only [Act.put, sq1, sq2, sq3, sq4, sq5, sq6]
    refine tk1 (i := 2) (v := ?v2e) rfl ?y2e ?r2e
    case y2e => (intro w' hSw; (try dsimp only at hSw); go_simp; (try with_reducible rfl))
    try simp only [Act.put, sq1, sq2, sq3, sq4, sq5, sq6]
    refine tk1 (i := 3) (v := ?v3e) rfl ?y3e ?r3e
    case y3e => (intro w' hSw; (try dsimp only at hSw); go_simp; (try with_reducible rfl))
    try simp only [Act.put, sq1, sq2, sq3, sq4, sq5, sq6]
    refine tk1 (i := 4) (v := ?v4e) rfl ?y4e ?r4e
    case y4e => (intro w' hSw; (try dsimp only at hSw); go_simp; (try with_reducible rfl))
    try simp only [Act.put, sq1, sq2, sq3, sq4, sq5, sq6]
    refine tk1 (i := 5) (v := ?v5e) rfl ?y5e ?r5e
    case y5e => (intro w' hSw; (try dsimp only at hSw); go_simp; (try with_reducible rfl))
    try simp only [Act.put, sq1, sq2, sq3, sq4, sq5, sq6]
    refine tk1 (i := 6) (v := ?v6e) rfl ?y6e ?r6e
    case y6e => (intro w' hSw; (try dsimp only at hSw); go_simp; (try with_reducible rfl))
    try simp only [Act.put, sq1, sq2, sq3, sq4, sq5, sq6]
    refine tk1 (i := 7) (v := ?v7e) rfl ?y7e ?r7e
    case y7e => (intro w' hSw; (try dsimp only at hSw); go_simp; (try with_reducible rfl))
    try simp only [Act.put, sq1, sq2, sq3, sq4, sq5, sq6]
    refine tk1 (i := 8) (v := ?v8e) rfl ?y8e ?r8e
    case y8e => (intro w' hSw; (try dsimp only at hSw); go_simp; (try with_reducible rfl))
    try simp only [Act.put, sq1, sq2, sq3, sq4, sq5, sq6]
    refine tk1 (i := 9) (v := ?v9e) rfl ?y9e ?r9e
    case y9e => (intro w' hSw; (try dsimp only at hSw); go_simp; (try with_reducible rfl))
    try simp only [Act.put, sq1, sq2, sq3, sq4, sq5, sq6]
    refine tk1 (i := 10) (v := ?v10e) rfl ?y10e ?r10e
    case y10e => (intro w' hSw; (try dsimp only at hSw); go_simp; (try with_reducible rfl))
    try simp only [Act.put, sq1, sq2, sq3, sq4, sq5, sq6]
    refine tk1 (i := 11) (v := ?v11e) rfl ?y11e ?r11e
    case y11e => (intro w' hSw; (try dsimp only at hSw); go_simp; (try with_reducible rfl))
    try simp only [Act.put, sq1, sq2, sq3, sq4, sq5, sq6]
    refine wpAnyH_ready (rs := [12]) (by kernel_rfl) (by simp) ?_
    refine AllReadyH.cons (o := _) rfl (fun K hK => ?_) AllReadyH.nil
    go_simp
    refine Calls.mono (HSP.out _ _ _) ?_
    rintro e V2 ⟨rfl, hEX⟩
    dsimp only
    replace EY := EY.trans hEX
    clear hHeld hEX
    refine hK.out _ _ ⟨(EY.cell (p := ⟨d, 0, none⟩) sz).trans s1, (EY.cell (p := ⟨d, 1, none⟩) sz).trans s2⟩ (fun hHeld => ?_)
    clear hK K
    try simp only [Act.put, sq1, sq2, sq3, sq4, sq5, sq6]
    refine tk1 (i := 13) (v := ?v13e) rfl ?y13e ?r13e
    case y13e => (intro w' hSw; (try dsimp only at hSw); go_simp; (try with_reducible rfl))
    try simp only [Act.put, sq1, sq2, sq3, sq4, sq5, sq6]
    refine tk1 (i := 14) (v := ?v14e) rfl ?y14e ?r14e
    case y14e => (intro w' hSw; (try dsimp only at hSw); go_simp; (try with_reducible rfl))
    try simp only [Act.put, sq1, sq2, sq3, sq4, sq5, sq6]
    refine tk1 (i := 15) (v := ?v15e) rfl ?y15e ?r15e
    case y15e => (intro w' hSw; (try dsimp only at hSw); go_simp; (try with_reducible rfl))
    try simp only [Act.put, sq1, sq2, sq3, sq4, sq5, sq6]
    refine tk1 (i := 16) (v := ?v16e) rfl ?y16e ?r16e
    case y16e => (intro w' hSw; (try dsimp only at hSw); go_simp; (try with_reducible rfl))
    try simp only [Act.put, sq1, sq2, sq3, sq4, sq5, sq6]
    refine wpAnyH_ready (rs := [17]) (by kernel_rfl) (by simp) ?_
    refine AllReadyH.cons (o := _) rfl (fun K hK => ?_) AllReadyH.nil
    go_simp
    have IS := hid (show IntsAt (V2.alloc (.cells #[.int .i64 0, .int .i64 1] 3)) (some ⟨V2.heap.size, 0, none⟩) [0, 1] from intsNew2 V2)
    replace EY := EY.alloc (.cells #[.int .i64 0, .int .i64 1] 3)
    clear hHeld
    refine hK.out _ _ ⟨(EY.cell (p := ⟨d, 0, none⟩) sz).trans s1, (EY.cell (p := ⟨d, 1, none⟩) sz).trans s2⟩ (fun hHeld => ?_)
    clear hK K
    try simp only [Act.put, sq1, sq2, sq3, sq4, sq5, sq6]
    refine wpAnyH_ready (rs := [18]) (by kernel_rfl) (by simp) ?_
    refine AllReadyH.cons (o := _) rfl (fun K hK => ?_) AllReadyH.nil
    go_simp
    refine Calls.mono (sameInts_any _ _ 2 2 _ _ [0, 1] [0, 1] rfl rfl (by decide) (by decide) _ (HL5.out.ext EY) IS.out) ?_
    rintro e V3 ⟨rfl, hEX⟩
    simp only [decide_true]
    replace EY := EY.trans hEX
    clear hHeld hEX
    refine hK.out _ _ ⟨(EY.cell (p := ⟨d, 0, none⟩) sz).trans s1, (EY.cell (p := ⟨d, 1, none⟩) sz).trans s2⟩ (fun hHeld => ?_)
    clear hK K
    try simp only [Act.put, sq1, sq2, sq3, sq4, sq5, sq6]
    refine tk1 (i := 19) (v := ?v19e) rfl ?y19e ?r19e
    case y19e => (intro w' hSw; (try dsimp only at hSw); go_simp; (try with_reducible rfl))
    try simp only [Act.put, sq1, sq2, sq3, sq4, sq5, sq6]
    refine tk1 (i := 20) (v := ?v20e) rfl ?y20e ?r20e
    case y20e => (intro w' hSw; (try dsimp only at hSw); go_simp; (try with_reducible rfl))
    try simp only [Act.put, sq1, sq2, sq3, sq4, sq5, sq6]
    refine tk1 (i := 21) (v := ?v21e) rfl ?y21e ?r21e
    case y21e => (intro w' hSw; (try dsimp only at hSw); go_simp; (try with_reducible rfl))
    try simp only [Act.put, sq1, sq2, sq3, sq4, sq5, sq6]
    refine tk1 (i := 22) (v := ?v22e) rfl ?y22e ?r22e
    case y22e => (intro w' hSw; (try dsimp only at hSw); go_simp; (try with_reducible rfl))
    try simp only [Act.put, sq1, sq2, sq3, sq4, sq5, sq6]
    refine tk1 (i := 23) (v := ?v23e) rfl ?y23e ?r23e
    case y23e => (intro w' hSw; (try dsimp only at hSw); go_simp; (try with_reducible rfl))
    try simp only [Act.put, sq1, sq2, sq3, sq4, sq5, sq6]
    refine tk1 (i := 24) (v := ?v24e) rfl ?y24e ?r24e
    case y24e => (intro w' hSw; (try dsimp only at hSw); go_simp; (try with_reducible rfl))
    try simp only [Act.put, sq1, sq2, sq3, sq4, sq5, sq6]
    clear hHeld
    refine wpAnyH_done (by kernel_rfl) ?_ _
    have EZ := hid ((HE1.out.trans HEW.out).trans (EX5.out.trans EY))
    clear EY s1 s2 sz
    go_wp2
    exact bodyPost_ret (v := .bool true) (by simp [results, Tryz.results14, go_sem]) rfl ⟨rfl, EZ.out⟩
end Go.Proofs.YtggggnjibedgaaaGreat
