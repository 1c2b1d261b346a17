/- The example of the chapter holds. -/
import Derived.Test.YtecamnhnjmldcaaGreatDoorB18
import Derived.Test.YtecamnhnjmldcaaGreatDoorB20
import Derived.Test.YtecamnhnjmldcaaGreatDoorB13
set_option linter.unusedSimpArgs false
set_option linter.unusedVariables false
namespace Go.Proofs.YtecamnhnjmldcaaGreatDoor
open Go.RowKit
theorem exGap : gapV exF [] exL 3 = 4 := by kernel_rfl
theorem exWin : winE exF [] exL 3 = 0 := by kernel_rfl
theorem exSafE : safE exF [] 4 exPs [exR] = 0 := by kernel_rfl
theorem exSafL : (safP [exR] (scsM [] exF) (hoursN exF) exPs).length = 5 := by kernel_rfl
theorem exSafO : ((safP [exR] (scsM [] exF) (hoursN exF) exPs).getD 1 zeroPt).opens = [(180, 239)] := by kernel_rfl
theorem exFin {w : World} {A : Option Addr} (h : ScsAt w A exF) (hw : WidW w) : FIn w exF A 2 [] none 0 :=
  ⟨rfl, by decide, fun x hx => by simp [exF] at hx; rcases hx with rfl | rfl <;> decide, rfl, by decide, fun s hs => by simp at hs, h, SgsAt.nil _ _, hw⟩
set_option maxHeartbeats 8000000 in
set_option maxRecDepth 100000 in
theorem works_any (w : World) (hw : WidW w) :
    Calls Tryz.prog 8 #[] w fun e w' => e = .returned (.bool true) ∧ Ext w w' := by
  have HEX := hid (fun W => lexample_any W)
  have HGP := hid (fun (A : Option Addr) (c : Nat) (W : World) (hW : Ext w W) (h : ScsAt W A exF) => gapP_any exF A 2 c [] none 0 0 exL 3 W (exFin h (hw.ext hW)))
  rw [exGap, exWin] at HGP
  have HSF := hid (fun (A : Option Addr) (c : Nat) (NA : Option Addr) (nc : Nat) (RA : Option Addr) (W : World) (hW : Ext w W) (h : ScsAt W A exF) (hp : PathsAt W NA exPs) (hr : RlsAt W RA [exR]) => safe_any exF A 2 c [] none 0 0 4 exPs NA 5 nc rfl (by decide) [exR] RA 1 1 rfl (by decide) W (exFin h (hw.ext hW)) hp hr)
  unfold SafeIs at HSF
  rw [exSafE] at HSF
  clear hw
  unfold exL exR Lm.val Rl.val at *
  unfold exL at *
  dsimp only at *
  go_enter Tryz.func8, Tryz.ntmps8
  go_wp2_with fail
  refine Calls.mono (HEX.out _) ?_
  rintro e w1 ⟨A, c, rfl, hF, E1⟩
  dsimp only
  have HF := hid hF
  have HE1 := hid E1
  clear hF E1 HEX
  go_wp2_with fail
  have x := three_blk w1 (.cells #[.slice A 2 c] 24) (.cells #[.int .i64 40, .int .i64 0, .int .i64 (-5), .int .i64 15] 29) (.cells #[.int .i64 1, .int .i64 1, .int .i64 40, .int .i64 0, .int .i64 (-5), .int .i64 15] 79)
  have EA := hid (((HE1.out.alloc (.cells #[.slice A 2 c] 24)).alloc (.cells #[.int .i64 40, .int .i64 0, .int .i64 (-5), .int .i64 15] 29)).alloc (.cells #[.int .i64 1, .int .i64 1, .int .i64 40, .int .i64 0, .int .i64 (-5), .int .i64 15] 79))
  have EB := hid (((Ext.refl w1).alloc (.cells #[.slice A 2 c] 24)).alloc (.cells #[.int .i64 40, .int .i64 0, .int .i64 (-5), .int .i64 15] 29) |>.alloc (.cells #[.int .i64 1, .int .i64 1, .int .i64 40, .int .i64 0, .int .i64 (-5), .int .i64 15] 79))
  refine Calls.mono (example_any _) ?_
  rintro e w2 ⟨NA, nc, rfl, hP, E2⟩
  dsimp only
  have D1 := hid (show Blk _ _ _ _ from blk_ext x.1 E2)
  have D2 := hid (show Blk _ _ _ _ from blk_ext x.2.1 E2)
  have D3 := hid (show Blk _ _ _ _ from blk_ext x.2.2 E2)
  have F2 := hid (HF.out.ext (EB.out.trans E2))
  have HP2 := hid hP
  have HE2 := hid (EA.out.trans E2)
  clear x EA EB hP E2 HF HE1
  have a0 := D1.out.cell 0
  obtain ⟨b0, b1, b2, b3⟩ : _ ∧ _ ∧ _ ∧ _ := ⟨D2.out.cell 0, D2.out.cell 1, D2.out.cell 2, D2.out.cell 3⟩
  have z1 := D1.out.lt
  have z2 := D2.out.lt
  simp only [List.getElem?_toArray, List.getElem?_cons_zero, List.getElem?_cons_succ] at a0 b0 b1 b2 b3
  have y := three_blk w2 (.cells #[.int .i64 4, .slice NA 5 nc] 47) (.cells #[.int .i64 3, .int .i64 0, .int .i64 100, .int .i64 100] 75) (.cells #[] 75)
  go_wp2_with fail
  have EP := hid (((Ext.refl w2).alloc (.cells #[.int .i64 4, .slice NA 5 nc] 47)).alloc (.cells #[.int .i64 3, .int .i64 0, .int .i64 100, .int .i64 100] 75))
  have hN := blk_old (blk_last w2 (.cells #[.int .i64 4, .slice NA 5 nc] 47)) (.cells #[.int .i64 3, .int .i64 0, .int .i64 100, .int .i64 100] 75)
  refine Calls.mono (HGP.out A c _ (HE2.out.trans EP.out) (F2.out.ext EP.out)) ?_
  rintro e w3 ⟨rfl, E3⟩
  dsimp only
  have G1 := hid (show Blk _ _ _ _ from (D1.out.ext EP.out).ext E3)
  have G3 := hid (show Blk _ _ _ _ from (D3.out.ext EP.out).ext E3)
  have G4 := hid (show Blk _ _ _ _ from blk_ext hN E3)
  have HE3 := hid ((HE2.out.trans EP.out).trans E3)
  have F3 := hid ((F2.out.ext EP.out).ext E3)
  have P3 := hid ((HP2.out.ext EP.out).ext E3)
  clear y EP hN E3 D1 D2 D3 F2 HP2 HE2 a0 b0 b1 b2 b3 z1 z2 HGP
  have a0 := G1.out.cell 0
  obtain ⟨b0, b1, b2, b3, b4, b5⟩ : _ ∧ _ ∧ _ ∧ _ ∧ _ ∧ _ := ⟨G3.out.cell 0, G3.out.cell 1, G3.out.cell 2, G3.out.cell 3, G3.out.cell 4, G3.out.cell 5⟩
  have c0 := G4.out.cell 0
  have c1 := G4.out.cell 1
  have z1 := G1.out.lt
  have z3 := G3.out.lt
  have z4 := G4.out.lt
  simp only [List.getElem?_toArray, List.getElem?_cons_zero, List.getElem?_cons_succ] at a0 b0 b1 b2 b3 b4 b5 c0 c1
  go_wp2_with fail
  have E4 := ext_alloc1 w3 (.cells #[.int .i64 1, .int .i64 1, .int .i64 40, .int .i64 0, .int .i64 (-5), .int .i64 15] 79)
  have B4 := blk_last w3 (.cells #[.int .i64 1, .int .i64 1, .int .i64 40, .int .i64 0, .int .i64 (-5), .int .i64 15] 79)
  refine Calls.mono (HSF.out A c NA nc (some ⟨w3.heap.size, 0, none⟩) _ (HE3.out.trans E4) (F3.out.ext E4) (P3.out.ext E4) ?hrl) ?_
  case hrl =>
    intro _
    have B5 : Blk _ w3.heap.size _ _ := B4
    refine ⟨w3.heap.size, 0, rfl, B5.lt, fun k hk => ?_⟩
    obtain rfl : k = 0 := by simp at hk; omega
    exact ⟨B5.cell 0, B5.cell 1, B5.cell 2, B5.cell 3, B5.cell 4, B5.cell 5⟩
  rintro e w5 ⟨m', A', n', c', rfl, hq, -, E5⟩
  obtain ⟨rfl, hn5, hc5, hP5⟩ := hq trivial
  obtain rfl : n' = 5 := hn5
  dsimp only
  have HP5 := hid hP5
  have HE5 := hid ((HE3.out.trans E4).trans E5)
  clear hq hP5 E4 B4 E5 HE3 F3 P3 HSF G1 G3 G4
  go_wp2_with fail
  have B6 : Blk _ w5.heap.size _ _ := blk_last w5 (.cells #[.int .i64 4, .slice A' 5 c'] 47)
  have E6 := ext_alloc1 w5 (.cells #[.int .i64 4, .slice A' 5 c'] 47)
  obtain ⟨W, hW⟩ : ∃ W, w5.alloc (.cells #[.int .i64 4, .slice A' 5 c'] 47) = W := ⟨_, rfl⟩
  rw [hW] at B6 E6 ⊢
  clear hW
  have hL : (safP [⟨1, 1, ⟨40, 0, -5, 15⟩⟩] (scsM [] exF) (hoursN exF) exPs).length = 5 := exSafL
  have hO : ((safP [⟨1, 1, ⟨40, 0, -5, 15⟩⟩] (scsM [] exF) (hoursN exF) exPs).getD 1 zeroPt).opens = [(180, 239)] := exSafO
  obtain ⟨b, off, rfl, hb, hk⟩ := (HP5.out.ext E6) (fun h => by rw [h] at hL; simp at hL)
  obtain ⟨A2, c2, hpt⟩ := hk 1 (by rw [hL]; decide)
  have q7 := hpt.c7
  have qo := hpt.opens
  rw [hO] at q7 qo
  obtain ⟨ob, oo, rfl, hob, ho⟩ := qo (by simp)
  have o0 := (ho 0 (by decide)).1
  have o1 := (ho 0 (by decide)).2
  have bx := B6.cell 1
  have bz := B6.lt
  have HE6 := hid (HE5.out.trans E6)
  simp only [Nat.one_mul, Nat.zero_mul, Nat.add_zero, List.length_cons, List.length_nil, Nat.zero_add, List.getD_cons_zero, List.getElem?_toArray, List.getElem?_cons_zero, List.getElem?_cons_succ] at q7 o0 o1 bx
  clear hpt qo ho hk hL hO B6 E6 HE5 HP5
  refine wp_region_held_drew (S := fun w' => w'.cell? ⟨w5.heap.size, 1, none⟩ = some (.slice (some ⟨b, off, none⟩) 5 c') ∧ w'.cell? ⟨b, off + 8 + 7, none⟩ = some (.slice (some ⟨ob, oo, none⟩) 1 c2) ∧ w'.cell? ⟨ob, oo, none⟩ = some (.int .i64 180) ∧ w'.cell? ⟨ob, oo + 1, none⟩ = some (.int .i64 239)) (by kernel_rfl) ?hS0 (fun hHeld => ?_)
  case hS0 => exact ⟨bx, q7, o0, o1⟩
  have EX : Ext W W.drew := Ext.drew (Ext.refl W)
  obtain ⟨X, hX⟩ : ∃ X, W.drew = X := ⟨_, rfl⟩
  rw [hX] at EX hHeld ⊢
  clear hX
  refine tk1 (i := 0) (v := ?v0a) rfl ?y0a ?r0a
  case y0a => (intro w' hSw; (try dsimp only at hSw); go_simp; (try with_reducible rfl))
  try simp only [Act.put, sq1, sq2, sq3, sq4, sq5, sq6]
  refine tk1 (i := 1) (v := ?v1a) rfl ?y1a ?r1a
  case y1a => (intro w' hSw; (try dsimp only at hSw); go_simp; (try with_reducible rfl))
  try simp only [Act.put, sq1, sq2, sq3, sq4, sq5, sq6]
  refine tk1 (i := 2) (v := ?v2a) rfl ?y2a ?r2a
  case y2a => (intro w' hSw; (try dsimp only at hSw); go_simp; (try with_reducible rfl))
  try simp only [Act.put, sq1, sq2, sq3, sq4, sq5, sq6]
  refine tk1 (i := 3) (v := ?v3a) rfl ?y3a ?r3a
  case y3a => (intro w' hSw; (try dsimp only at hSw); go_simp; (try with_reducible rfl))
  try simp only [Act.put, sq1, sq2, sq3, sq4, sq5, sq6]
  refine tk1 (i := 4) (v := ?v4a) rfl ?y4a ?r4a
  case y4a => (intro w' hSw; (try dsimp only at hSw); go_simp; (try with_reducible rfl))
  try simp only [Act.put, sq1, sq2, sq3, sq4, sq5, sq6]
  refine tk1 (i := 5) (v := ?v5a) rfl ?y5a ?r5a
  case y5a => (intro w' hSw; (try dsimp only at hSw); go_simp; (try with_reducible rfl))
  try simp only [Act.put, sq1, sq2, sq3, sq4, sq5, sq6]
  refine tk1 (i := 6) (v := ?v6a) rfl ?y6a ?r6a
  case y6a => (intro w' hSw; (try dsimp only at hSw); go_simp; (try with_reducible rfl))
  try simp only [Act.put, sq1, sq2, sq3, sq4, sq5, sq6]
  refine tk1 (i := 7) (v := ?v7a) rfl ?y7a ?r7a
  case y7a => (intro w' hSw; (try dsimp only at hSw); go_simp; (try with_reducible rfl))
  try simp only [Act.put, sq1, sq2, sq3, sq4, sq5, sq6]
  refine tk1 (i := 8) (v := ?v8a) rfl ?y8a ?r8a
  case y8a => (intro w' hSw; (try dsimp only at hSw); go_simp; (try with_reducible rfl))
  try simp only [Act.put, sq1, sq2, sq3, sq4, sq5, sq6]
  refine tk1 (i := 9) (v := ?v9a) rfl ?y9a ?r9a
  case y9a => (intro w' hSw; (try dsimp only at hSw); go_simp; (try with_reducible rfl))
  try simp only [Act.put, sq1, sq2, sq3, sq4, sq5, sq6]
  refine tk1 (i := 10) (v := ?v10a) rfl ?y10a ?r10a
  case y10a => (intro w' hSw; (try dsimp only at hSw); go_simp; (try with_reducible rfl))
  try simp only [Act.put, sq1, sq2, sq3, sq4, sq5, sq6]
  refine tk1 (i := 11) (v := ?v11a) rfl ?y11a ?r11a
  case y11a => (intro w' hSw; (try dsimp only at hSw); go_simp; (try with_reducible rfl))
  try simp only [Act.put, sq1, sq2, sq3, sq4, sq5, sq6]
  refine tk1 (i := 12) (v := ?v12a) rfl ?y12a ?r12a
  case y12a => (intro w' hSw; (try dsimp only at hSw); go_simp; (try with_reducible rfl))
  try simp only [Act.put, sq1, sq2, sq3, sq4, sq5, sq6]
  refine tk1 (i := 13) (v := ?v13a) rfl ?y13a ?r13a
  case y13a => (intro w' hSw; (try dsimp only at hSw); go_simp; (try with_reducible rfl))
  try simp only [Act.put, sq1, sq2, sq3, sq4, sq5, sq6]
  refine tk1 (i := 14) (v := ?v14a) rfl ?y14a ?r14a
  case y14a => (intro w' hSw; (try dsimp only at hSw); go_simp; (try with_reducible rfl))
  try simp only [Act.put, sq1, sq2, sq3, sq4, sq5, sq6]
  refine tk1 (i := 15) (v := ?v15a) rfl ?y15a ?r15a
  case y15a => (intro w' hSw; (try dsimp only at hSw); go_simp; (try with_reducible rfl))
  try simp only [Act.put, sq1, sq2, sq3, sq4, sq5, sq6]
  refine tk1 (i := 16) (v := ?v16a) rfl ?y16a ?r16a
  case y16a => (intro w' hSw; (try dsimp only at hSw); go_simp; (try with_reducible rfl))
  try simp only [Act.put, sq1, sq2, sq3, sq4, sq5, sq6]
  refine tk1 (i := 17) (v := ?v17a) rfl ?y17a ?r17a
  case y17a => (intro w' hSw; (try dsimp only at hSw); go_simp; (try with_reducible rfl))
  try simp only [Act.put, sq1, sq2, sq3, sq4, sq5, sq6]
  refine tk1 (i := 18) (v := ?v18a) rfl ?y18a ?r18a
  case y18a => (intro w' hSw; (try dsimp only at hSw); go_simp; (try with_reducible rfl))
  try simp only [Act.put, sq1, sq2, sq3, sq4, sq5, sq6]
  refine tk1 (i := 19) (v := ?v19a) rfl ?y19a ?r19a
  case y19a => (intro w' hSw; (try dsimp only at hSw); go_simp; (try with_reducible rfl))
  try simp only [Act.put, sq1, sq2, sq3, sq4, sq5, sq6]
  refine tk1 (i := 20) (v := ?v20a) rfl ?y20a ?r20a
  case y20a => (intro w' hSw; (try dsimp only at hSw); go_simp; (try with_reducible rfl))
  try simp only [Act.put, sq1, sq2, sq3, sq4, sq5, sq6]
  refine tk1 (i := 21) (v := ?v21a) rfl ?y21a ?r21a
  case y21a => (intro w' hSw; (try dsimp only at hSw); go_simp; (try with_reducible rfl))
  try simp only [Act.put, sq1, sq2, sq3, sq4, sq5, sq6]
  refine tk1 (i := 22) (v := ?v22a) rfl ?y22a ?r22a
  case y22a => (intro w' hSw; (try dsimp only at hSw); go_simp; (try with_reducible rfl))
  try simp only [Act.put, sq1, sq2, sq3, sq4, sq5, sq6]
  refine tk1 (i := 23) (v := ?v23a) rfl ?y23a ?r23a
  case y23a => (intro w' hSw; (try dsimp only at hSw); go_simp; (try with_reducible rfl))
  try simp only [Act.put, sq1, sq2, sq3, sq4, sq5, sq6]
  refine tk1 (i := 24) (v := ?v24a) rfl ?y24a ?r24a
  case y24a => (intro w' hSw; (try dsimp only at hSw); go_simp; (try with_reducible rfl))
  try simp only [Act.put, sq1, sq2, sq3, sq4, sq5, sq6]
  refine tk1 (i := 25) (v := ?v25a) rfl ?y25a ?r25a
  case y25a => (intro w' hSw; (try dsimp only at hSw); go_simp; (try with_reducible rfl))
  try simp only [Act.put, sq1, sq2, sq3, sq4, sq5, sq6]
  refine tk1 (i := 26) (v := ?v26a) rfl ?y26a ?r26a
  case y26a => (intro w' hSw; (try dsimp only at hSw); go_simp; (try with_reducible rfl))
  try simp only [Act.put, sq1, sq2, sq3, sq4, sq5, sq6]
  refine tk1 (i := 27) (v := ?v27a) rfl ?y27a ?r27a
  case y27a => (intro w' hSw; (try dsimp only at hSw); go_simp; (try with_reducible rfl))
  try simp only [Act.put, sq1, sq2, sq3, sq4, sq5, sq6]
  refine tk1 (i := 28) (v := ?v28a) rfl ?y28a ?r28a
  case y28a => (intro w' hSw; (try dsimp only at hSw); go_simp; (try with_reducible rfl))
  try simp only [Act.put, sq1, sq2, sq3, sq4, sq5, sq6]
  refine tk1 (i := 29) (v := ?v29a) rfl ?y29a ?r29a
  case y29a => (intro w' hSw; (try dsimp only at hSw); go_simp; (try with_reducible rfl))
  try simp only [Act.put, sq1, sq2, sq3, sq4, sq5, sq6]
  refine tk1 (i := 30) (v := ?v30a) rfl ?y30a ?r30a
  case y30a => (intro w' hSw; (try dsimp only at hSw); go_simp; (try with_reducible rfl))
  try simp only [Act.put, sq1, sq2, sq3, sq4, sq5, sq6]
  refine tk1 (i := 31) (v := ?v31a) rfl ?y31a ?r31a
  case y31a => (intro w' hSw; (try dsimp only at hSw); go_simp; (try with_reducible rfl))
  try simp only [Act.put, sq1, sq2, sq3, sq4, sq5, sq6]
  refine tk1 (i := 32) (v := ?v32a) rfl ?y32a ?r32a
  case y32a => (intro w' hSw; (try dsimp only at hSw); go_simp; (try with_reducible rfl))
  try simp only [Act.put, sq1, sq2, sq3, sq4, sq5, sq6]
  refine wpAnyH_ready (rs := [33]) (by kernel_rfl) (by simp) ?_
  refine AllReadyH.cons (o := _) rfl (fun K hK => ?_) AllReadyH.nil
  go_simp
  refine Calls.mono (lspan_any _ _ _) ?_
  rintro e X2 ⟨rfl, hEX⟩
  dsimp only
  have EY := hid (EX.trans hEX)
  clear hHeld EX hEX
  refine hK.out _ _ ⟨(EY.out.cell (p := ⟨w5.heap.size, 1, none⟩) bz).trans bx, (EY.out.cell (p := ⟨b, off + 8 + 7, none⟩) hb).trans q7, (EY.out.cell (p := ⟨ob, oo, none⟩) hob).trans o0, (EY.out.cell (p := ⟨ob, oo + 1, none⟩) hob).trans o1⟩ (fun hHeld => ?_)
  clear hK K
  try simp only [Act.put, sq1, sq2, sq3, sq4, sq5, sq6]
  refine tk1 (i := 34) (v := ?v34b) rfl ?y34b ?r34b
  case y34b => (intro w' hSw; (try dsimp only at hSw); go_simp; (try with_reducible rfl))
  try simp only [Act.put, sq1, sq2, sq3, sq4, sq5, sq6]
  refine tk1 (i := 35) (v := ?v35b) rfl ?y35b ?r35b
  case y35b => (intro w' hSw; (try dsimp only at hSw); go_simp; (try with_reducible rfl))
  try simp only [Act.put, sq1, sq2, sq3, sq4, sq5, sq6]
  refine tk1 (i := 36) (v := ?v36b) rfl ?y36b ?r36b
  case y36b => (intro w' hSw; (try dsimp only at hSw); go_simp; (try with_reducible rfl))
  try simp only [Act.put, sq1, sq2, sq3, sq4, sq5, sq6]
  clear hHeld
  refine wpAnyH_done (by kernel_rfl) ?_ _
  go_wp2
  exact bodyPost_ret (v := .bool true) (by simp [results, Tryz.results8, go_sem]) rfl ⟨rfl, HE6.out.trans EY.out⟩
end Go.Proofs.YtecamnhnjmldcaaGreatDoor
/- What the specification of layer 5 computes, as functions of Lean; skies and truth values in memory. -/
set_option linter.unusedSimpArgs false
set_option linter.unusedVariables false
namespace Go.Proofs.YtecamnhnjmldcaaGreatDoor
open Go.RowKit
structure Sk where
  wind : Int
  rain : Int
  temp : Int
deriving DecidableEq
def zeroSk : Sk := ⟨0, 0, 0⟩
def Sk.val (s : Sk) : Value := .agg #[.int .i64 s.wind, .int .i64 s.rain, .int .i64 s.temp]
structure SkAt (w : World) (b off : Nat) (s : Sk) : Prop where
  c0 : w.cell? ⟨b, off, none⟩ = some (.int .i64 s.wind)
  c1 : w.cell? ⟨b, off + 1, none⟩ = some (.int .i64 s.rain)
  c2 : w.cell? ⟨b, off + 2, none⟩ = some (.int .i64 s.temp)
theorem SkAt.ext {w w' : World} {b off : Nat} {h : Sk} (x : SkAt w b off h) (hb : b < w.heap.size) (e : Ext w w') : SkAt w' b off h :=
  ⟨(e.cell hb).trans x.c0, (e.cell hb).trans x.c1, (e.cell hb).trans x.c2⟩
def SksAt (w : World) (A : Option Addr) (xs : List Sk) : Prop :=
  xs ≠ [] → ∃ b off, A = some ⟨b, off, none⟩ ∧ b < w.heap.size ∧ ∀ k, k < xs.length → SkAt w b (off + k * 3) (xs.getD k zeroSk)
theorem SksAt.ext {w w' : World} {A : Option Addr} {xs : List Sk} (h : SksAt w A xs) (e : Ext w w') : SksAt w' A xs := fun hne => by
  obtain ⟨b, off, hA, hb, hc⟩ := h hne
  exact ⟨b, off, hA, Nat.lt_of_lt_of_le hb e.size, fun k hk => (hc k hk).ext hb e⟩
theorem SksAt.at_ {w : World} {A : Option Addr} {xs : List Sk} (h : SksAt w A xs) {n k : Nat} (hn : xs.length = n) (hk : k < n) : ∃ b off, A = some ⟨b, off, none⟩ ∧ b < w.heap.size ∧ SkAt w b (off + k * 3) (xs.getD k zeroSk) := by
  obtain ⟨b, off, hA, hb, hc⟩ := h (by rintro rfl; simp at hn; omega)
  exact ⟨b, off, hA, hb, hc k (by omega)⟩
theorem SksAt.nil (w : World) (A : Option Addr) : SksAt w A [] := fun h => absurd rfl h
/-- A truth value in memory. -/
def BoAt (w : World) (b off : Nat) (x : Bool) : Prop := w.cell? ⟨b, off, none⟩ = some (.bool x)
theorem BoAt.ext {w w' : World} {b off : Nat} {x : Bool} (h : BoAt w b off x) (hb : b < w.heap.size) (e : Ext w w') : BoAt w' b off x := (e.cell hb).trans h
def BosAt (w : World) (A : Option Addr) (xs : List Bool) : Prop :=
  xs ≠ [] → ∃ b off, A = some ⟨b, off, none⟩ ∧ b < w.heap.size ∧ ∀ k, k < xs.length → BoAt w b (off + k) (xs.getD k false)
theorem BosAt.ext {w w' : World} {A : Option Addr} {xs : List Bool} (h : BosAt w A xs) (e : Ext w w') : BosAt w' A xs := fun hne => by
  obtain ⟨b, off, hA, hb, hc⟩ := h hne
  exact ⟨b, off, hA, Nat.lt_of_lt_of_le hb e.size, fun k hk => (hc k hk).ext hb e⟩
theorem BosAt.at_ {w : World} {A : Option Addr} {xs : List Bool} (h : BosAt w A xs) {n k : Nat} (hn : xs.length = n) (hk : k < n) : ∃ b off, A = some ⟨b, off, none⟩ ∧ b < w.heap.size ∧ BoAt w b (off + k) (xs.getD k false) := by
  obtain ⟨b, off, hA, hb, hc⟩ := h (by rintro rfl; simp at hn; omega)
  exact ⟨b, off, hA, hb, hc k (by omega)⟩
theorem BosAt.nil (w : World) (A : Option Addr) : BosAt w A [] := fun h => absurd rfl h
def Sg.sky (s : Sg) : Sk := ⟨s.wind, s.rain, s.temp⟩
/-- A sky is in the spans of an hour. -/
def insB (s : Sk) (h : Hr) : Bool := inI s.wind h.wl h.wh && (inI s.rain h.rl h.rh && inI s.temp h.tl h.th)
/-- A sky keeps limits. -/
def keptB (s : Sk) (l : Lm) : Bool := decide (s.wind ≤ l.wind) && (decide (s.rain ≤ l.rain) && inI s.temp l.tl l.th)
theorem insB_sg (s : Sg) (h : Hr) : insB s.sky h = inB s h := by
  unfold insB inB Sg.sky inI spB
  dsimp only
  rw [Bool.eq_iff_iff]
  simp only [Bool.and_eq_true, decide_eq_true_eq]
  omega
/-- The observation i, with those before it, is valid. -/
def okAt (n : Nat) (seen : List Sg) (i : Nat) : Bool :=
  (inI (seen.getD i zeroSg).hour 0 ((n : Int) - 1) && (inI (seen.getD i zeroSg).wind 0 200 && (inI (seen.getD i zeroSg).rain 0 100 && inI (seen.getD i zeroSg).temp (-50) 50))) && (List.range i).all fun k => !decide ((seen.getD k zeroSg).hour = (seen.getD i zeroSg).hour)
def okAll (n : Nat) (seen : List Sg) : Bool := decide (seen.length ≤ 20) && (List.range seen.length).all (okAt n seen)
theorem cnt_one : ∀ (seen : List Sg), seen.Pairwise (fun a b => a.hour ≠ b.hour) → ∀ s ∈ seen, cntM seen s.hour = 1
  | [], _, s, h => by simp at h
  | x :: xs, hp, s, hs => by
    obtain ⟨h1, h2⟩ := List.pairwise_cons.1 hp
    have ih := cnt_one xs h2
    unfold cntM at *
    rw [List.countP_cons]
    rcases List.mem_cons.1 hs with rfl | hm
    · have h0 : xs.countP (fun y => decide (y.hour = s.hour)) = 0 := List.countP_eq_zero.2 (fun y hy => by have := h1 y hy; simp; omega)
      rw [h0]; simp
    · have := h1 s hm
      rw [ih s hm]
      simp [this]
theorem pair_cnt : ∀ (seen : List Sg), (∀ s ∈ seen, cntM seen s.hour = 1) → seen.Pairwise (fun a b => a.hour ≠ b.hour)
  | [], _ => List.Pairwise.nil
  | x :: xs, h => by
    have hx := h x (by simp)
    unfold cntM at hx
    rw [List.countP_cons] at hx
    simp only [decide_true, if_true] at hx
    have h0 : xs.countP (fun y => decide (y.hour = x.hour)) = 0 := by omega
    have hne : ∀ y ∈ xs, x.hour ≠ y.hour := fun y hy e => by
      have := List.countP_eq_zero.1 h0 y hy
      simp [e] at this
    refine List.pairwise_cons.2 ⟨hne, pair_cnt xs fun s hs => ?_⟩
    have hs1 := h s (by simp [hs])
    unfold cntM at hs1 ⊢
    rw [List.countP_cons] at hs1
    have := hne s hs
    simpa [this] using hs1
theorem pair_at (seen : List Sg) : seen.Pairwise (fun a b => a.hour ≠ b.hour) ↔ ∀ i, i < seen.length → ∀ k, k < i → (seen.getD k zeroSg).hour ≠ (seen.getD i zeroSg).hour := by
  rw [List.pairwise_iff_getElem]
  constructor
  · intro h i hi k hk
    have := h k i (by omega) hi hk
    simpa [List.getD, List.getElem?_eq_getElem hi, List.getElem?_eq_getElem (show k < seen.length by omega)] using this
  · intro h k i hk hi hki
    have := h i hi k hki
    simpa [List.getD, List.getElem?_eq_getElem hi, List.getElem?_eq_getElem hk] using this
theorem all_range_at {α : Type} (xs : List α) (d : α) (p : α → Bool) : (List.range xs.length).all (fun i => p (xs.getD i d)) = xs.all p := by
  rw [Bool.eq_iff_iff, List.all_eq_true, List.all_eq_true]
  constructor
  · intro h x hx
    obtain ⟨i, hi, rfl⟩ := List.getElem_of_mem hx
    have := h i (List.mem_range.2 hi)
    simpa [List.getD, List.getElem?_eq_getElem hi] using this
  · intro h i hi
    exact h _ (mem_at xs d i (List.mem_range.1 hi))
theorem okAll_sgs (n : Nat) (seen : List Sg) : okAll n seen = sgsB n seen := by
  unfold okAll sgsB
  congr 1
  rw [Bool.eq_iff_iff, List.all_eq_true, List.all_eq_true]
  have hx : ∀ s : Sg, (inI s.hour 0 ((n : Int) - 1) && (inI s.wind 0 200 && (inI s.rain 0 100 && inI s.temp (-50) 50))) = (inI s.hour 0 ((n : Int) - 1) && hrB (justM s)) := by
    intro s
    unfold hrB justM inI spB
    dsimp only
    rw [Bool.eq_iff_iff]
    simp only [Bool.and_eq_true, decide_eq_true_eq]
    omega
  constructor
  · intro h
    have hp : seen.Pairwise (fun a b => a.hour ≠ b.hour) := (pair_at seen).2 fun i hi k hk => by
      have := h i (List.mem_range.2 hi)
      unfold okAt at this
      rw [Bool.and_eq_true, List.all_eq_true] at this
      have h2 := this.2 k (List.mem_range.2 hk)
      simpa using h2
    intro s hs
    unfold sgB
    rw [cnt_one seen hp s hs, ← hx s]
    obtain ⟨i, hi, rfl⟩ := List.getElem_of_mem hs
    have := h i (List.mem_range.2 hi)
    unfold okAt at this
    rw [Bool.and_eq_true] at this
    have e : seen.getD i zeroSg = seen[i] := by simp [List.getD, List.getElem?_eq_getElem hi]
    rw [e] at this
    simpa using this.1
  · intro h i hi
    have hi := List.mem_range.1 hi
    have hp := pair_cnt seen (fun s hs => by have := h s hs; unfold sgB at this; rw [Bool.and_eq_true] at this; simpa using this.1)
    have h1 := h _ (mem_at seen zeroSg i hi)
    unfold sgB at h1
    rw [← hx] at h1
    rw [Bool.and_eq_true] at h1
    unfold okAt
    rw [Bool.and_eq_true]
    refine ⟨h1.2, List.all_eq_true.2 fun k hk => ?_⟩
    have := (pair_at seen).1 hp i hi k (List.mem_range.1 hk)
    simpa using this
/-- Skies are a possible weather. -/
def weaB (f : List (List Hr)) (seen : List Sg) (skies : List Sk) : Bool :=
  decide (skies.length = hoursN f) && (seen.all (fun s => decide (skies.getD s.hour.toNat zeroSk = s.sky)) && ((List.range f.length).filter fun i => allowB seen (f.getD i [])).any fun i => (List.range skies.length).all fun h => insB (skies.getD h zeroSk) ((f.getD i []).getD h zeroHr))
/-- The first hour, from h on, at which so many hours begin that are all true, or -1. -/
def begF (l : List Bool) (len : Nat) : Nat → Nat → Int
  | 0, _ => -1
  | k + 1, h => if l.length < h + len then -1 else if ((l.drop h).take len).all id then (h : Int) else begF l len k (h + 1)
def begV (l : List Bool) (len : Nat) : Int := begF l len (l.length + 1) 0
def lack1 (l : List Bool) (len a k m : Nat) : Nat := (List.range k).foldl (fun m d => if begV ((l.drop a).take (d + 1)) len < 0 then max m (d + 1) else m) m
def lackK (l : List Bool) (len k : Nat) : Nat := (List.range k).foldl (fun m a => lack1 l len a (l.length - a) m) 0
def lackV (l : List Bool) (len : Nat) : Nat := lackK l len l.length
def keptL (skies : List Sk) (l : Lm) : List Bool := skies.map fun s => keptB s l
end Go.Proofs.YtecamnhnjmldcaaGreatDoor
