/- The example of the chapter holds. -/
import Derived.Test.YtecamnhnjmldcaaGreatDoorB11
import Derived.Test.YtecamnhnjmldcaaGreatDoorB13
import Derived.Test.YtecamnhnjmldcaaGreatDoorB08
import Derived.Test.YtecamnhnjmldcaaGreatDoorB06
set_option linter.unusedSimpArgs false
set_option linter.unusedVariables false
namespace Go.Proofs.YtecamnhnjmldcaaGreatDoor
open Go.RowKit
theorem exGap : gapV exF [] exL 3 = 4 := by kernel_rfl
theorem exWin : winE exF [] exL 3 = 0 := by kernel_rfl
theorem exSafE : safE exF [] 4 exPs [exR] = 0 := by kernel_rfl
theorem exSafL : (safP [exR] (scsM [] exF) (hoursN exF) exPs).length = 5 := by kernel_rfl
theorem exSafO : ((safP [exR] (scsM [] exF) (hoursN exF) exPs).getD 1 zeroPt).opens = [(180, 239)] := by kernel_rfl
theorem exFin {w : World} {A : Option Addr} (h : ScsAt w A exF) (hw : WidW w) : FIn w exF A 2 [] none 0 :=
  ⟨rfl, by decide, fun x hx => by simp [exF] at hx; rcases hx with rfl | rfl <;> decide, rfl, by decide, fun s hs => by simp at hs, h, SgsAt.nil _ _, hw⟩
set_option maxHeartbeats 8000000 in
set_option maxRecDepth 100000 in
theorem works_any (w : World) (hw : WidW w) :
    Calls Tryz.prog 8 #[] w fun e w' => e = .returned (.bool true) ∧ Ext w w' := by
  have HEX := hid (fun W => lexample_any W)
  have HGP := hid (fun (A : Option Addr) (c : Nat) (W : World) (hW : Ext w W) (h : ScsAt W A exF) => gapP_any exF A 2 c [] none 0 0 exL 3 W (exFin h (hw.ext hW)))
  rw [exGap, exWin] at HGP
  have HSF := hid (fun (A : Option Addr) (c : Nat) (NA : Option Addr) (nc : Nat) (RA : Option Addr) (W : World) (hW : Ext w W) (h : ScsAt W A exF) (hp : PathsAt W NA exPs) (hr : RlsAt W RA [exR]) => safe_any exF A 2 c [] none 0 0 4 exPs NA 5 nc rfl (by decide) [exR] RA 1 1 rfl (by decide) W (exFin h (hw.ext hW)) hp hr)
  unfold SafeIs at HSF
  rw [exSafE] at HSF
  clear hw
  unfold exL exR Lm.val Rl.val at *
  unfold exL at *
  dsimp only at *
  go_enter Tryz.func8, Tryz.ntmps8
  go_wp2_with fail
  refine Calls.mono (HEX.out _) ?_
  rintro e w1 ⟨A, c, rfl, hF, E1⟩
  dsimp only
  have HF := hid hF
  have HE1 := hid E1
  clear hF E1 HEX
  go_wp2_with fail
  have x := three_blk w1 (.cells #[.slice A 2 c] 24) (.cells #[.int .i64 40, .int .i64 0, .int .i64 (-5), .int .i64 15] 29) (.cells #[.int .i64 1, .int .i64 1, .int .i64 40, .int .i64 0, .int .i64 (-5), .int .i64 15] 79)
  have EA := hid (((HE1.out.alloc (.cells #[.slice A 2 c] 24)).alloc (.cells #[.int .i64 40, .int .i64 0, .int .i64 (-5), .int .i64 15] 29)).alloc (.cells #[.int .i64 1, .int .i64 1, .int .i64 40, .int .i64 0, .int .i64 (-5), .int .i64 15] 79))
  have EB := hid (((Ext.refl w1).alloc (.cells #[.slice A 2 c] 24)).alloc (.cells #[.int .i64 40, .int .i64 0, .int .i64 (-5), .int .i64 15] 29) |>.alloc (.cells #[.int .i64 1, .int .i64 1, .int .i64 40, .int .i64 0, .int .i64 (-5), .int .i64 15] 79))
  refine Calls.mono (example_any _) ?_
  rintro e w2 ⟨NA, nc, rfl, hP, E2⟩
  dsimp only
  have D1 := hid (show Blk _ _ _ _ from blk_ext x.1 E2)
  have D2 := hid (show Blk _ _ _ _ from blk_ext x.2.1 E2)
  have D3 := hid (show Blk _ _ _ _ from blk_ext x.2.2 E2)
  have F2 := hid (HF.out.ext (EB.out.trans E2))
  have HP2 := hid hP
  have HE2 := hid (EA.out.trans E2)
  clear x EA EB hP E2 HF HE1
  have a0 := D1.out.cell 0
  obtain ⟨b0, b1, b2, b3⟩ : _ ∧ _ ∧ _ ∧ _ := ⟨D2.out.cell 0, D2.out.cell 1, D2.out.cell 2, D2.out.cell 3⟩
  have z1 := D1.out.lt
  have z2 := D2.out.lt
  simp only [List.getElem?_toArray, List.getElem?_cons_zero, List.getElem?_cons_succ] at a0 b0 b1 b2 b3
  have y := three_blk w2 (.cells #[.int .i64 4, .slice NA 5 nc] 47) (.cells #[.int .i64 3, .int .i64 0, .int .i64 100, .int .i64 100] 75) (.cells #[] 75)
  go_wp2_with fail
  have EP := hid (((Ext.refl w2).alloc (.cells #[.int .i64 4, .slice NA 5 nc] 47)).alloc (.cells #[.int .i64 3, .int .i64 0, .int .i64 100, .int .i64 100] 75))
  have hN := blk_old (blk_last w2 (.cells #[.int .i64 4, .slice NA 5 nc] 47)) (.cells #[.int .i64 3, .int .i64 0, .int .i64 100, .int .i64 100] 75)
  refine Calls.mono (HGP.out A c _ (HE2.out.trans EP.out) (F2.out.ext EP.out)) ?_
  rintro e w3 ⟨rfl, E3⟩
  dsimp only
  have G1 := hid (show Blk _ _ _ _ from (D1.out.ext EP.out).ext E3)
  have G3 := hid (show Blk _ _ _ _ from (D3.out.ext EP.out).ext E3)
  have G4 := hid (show Blk _ _ _ _ from blk_ext hN E3)
  have HE3 := hid ((HE2.out.trans EP.out).trans E3)
  have F3 := hid ((F2.out.ext EP.out).ext E3)
  have P3 := hid ((HP2.out.ext EP.out).ext E3)
  clear y EP hN E3 D1 D2 D3 F2 HP2 HE2 a0 b0 b1 b2 b3 z1 z2 HGP
  have a0 := G1.out.cell 0
  obtain ⟨b0, b1, b2, b3, b4, b5⟩ : _ ∧ _ ∧ _ ∧ _ ∧ _ ∧ _ := ⟨G3.out.cell 0, G3.out.cell 1, G3.out.cell 2, G3.out.cell 3, G3.out.cell 4, G3.out.cell 5⟩
  have c0 := G4.out.cell 0
  have c1 := G4.out.cell 1
  have z1 := G1.out.lt
  have z3 := G3.out.lt
  have z4 := G4.out.lt
  simp only [List.getElem?_toArray, List.getElem?_cons_zero, List.getElem?_cons_succ] at a0 b0 b1 b2 b3 b4 b5 c0 c1
  go_wp2_with fail
  have E4 := ext_alloc1 w3 (.cells #[.int .i64 1, .int .i64 1, .int .i64 40, .int .i64 0, .int .i64 (-5), .int .i64 15] 79)
  have B4 := blk_last w3 (.cells #[.int .i64 1, .int .i64 1, .int .i64 40, .int .i64 0, .int .i64 (-5), .int .i64 15] 79)
  refine Calls.mono (HSF.out A c NA nc (some ⟨w3.heap.size, 0, none⟩) _ (HE3.out.trans E4) (F3.out.ext E4) (P3.out.ext E4) ?hrl) ?_
  case hrl =>
    intro _
    have B5 : Blk _ w3.heap.size _ _ := B4
    refine ⟨w3.heap.size, 0, rfl, B5.lt, fun k hk => ?_⟩
    obtain rfl : k = 0 := by simp at hk; omega
    exact ⟨B5.cell 0, B5.cell 1, B5.cell 2, B5.cell 3, B5.cell 4, B5.cell 5⟩
  rintro e w5 ⟨m', A', n', c', rfl, hq, -, E5⟩
  obtain ⟨rfl, hn5, hc5, hP5⟩ := hq trivial
  obtain rfl : n' = 5 := hn5
  dsimp only
  have HP5 := hid hP5
  have HE5 := hid ((HE3.out.trans E4).trans E5)
  clear hq hP5 E4 B4 E5 HE3 F3 P3 HSF G1 G3 G4
  go_wp2_with fail
  have B6 : Blk _ w5.heap.size _ _ := blk_last w5 (.cells #[.int .i64 4, .slice A' 5 c'] 47)
  have E6 := ext_alloc1 w5 (.cells #[.int .i64 4, .slice A' 5 c'] 47)
  obtain ⟨W, hW⟩ : ∃ W, w5.alloc (.cells #[.int .i64 4, .slice A' 5 c'] 47) = W := ⟨_, rfl⟩
  rw [hW] at B6 E6 ⊢
  clear hW
  have hL : (safP [⟨1, 1, ⟨40, 0, -5, 15⟩⟩] (scsM [] exF) (hoursN exF) exPs).length = 5 := exSafL
  have hO : ((safP [⟨1, 1, ⟨40, 0, -5, 15⟩⟩] (scsM [] exF) (hoursN exF) exPs).getD 1 zeroPt).opens = [(180, 239)] := exSafO
  obtain ⟨b, off, rfl, hb, hk⟩ := (HP5.out.ext E6) (fun h => by rw [h] at hL; simp at hL)
  obtain ⟨A2, c2, hpt⟩ := hk 1 (by rw [hL]; decide)
  have q7 := hpt.c7
  have qo := hpt.opens
  rw [hO] at q7 qo
  obtain ⟨ob, oo, rfl, hob, ho⟩ := qo (by simp)
  have o0 := (ho 0 (by decide)).1
  have o1 := (ho 0 (by decide)).2
  have bx := B6.cell 1
  have bz := B6.lt
  have HE6 := hid (HE5.out.trans E6)
  simp only [Nat.one_mul, Nat.zero_mul, Nat.add_zero, List.length_cons, List.length_nil, Nat.zero_add, List.getD_cons_zero, List.getElem?_toArray, List.getElem?_cons_zero, List.getElem?_cons_succ] at q7 o0 o1 bx
  clear hpt qo ho hk hL hO B6 E6 HE5 HP5
  refine wp_region_held_drew (S := fun w' => w'.cell? ⟨w5.heap.size, 1, none⟩ = some (.slice (some ⟨b, off, none⟩) 5 c') ∧ w'.cell? ⟨b, off + 8 + 7, none⟩ = some (.slice (some ⟨ob, oo, none⟩) 1 c2) ∧ w'.cell? ⟨ob, oo, none⟩ = some (.int .i64 180) ∧ w'.cell? ⟨ob, oo + 1, none⟩ = some (.int .i64 239)) (by kernel_rfl) ?hS0 (fun hHeld => ?_)
  case hS0 => exact ⟨bx, q7, o0, o1⟩
  have EX : Ext W W.drew := Ext.drew (Ext.refl W)
  obtain ⟨X, hX⟩ : ∃ X, W.drew = X := ⟨_, rfl⟩
  rw [hX] at EX hHeld ⊢
  clear hX
  refine wpAnyH_take (i := 0) (oi := _) (v := ?v0a) rfl (by kernel_rfl) (by kernel_rfl) (by kernel_rfl) (fun _ _ _ h => h) (Or.inl ⟨by rfl, ?y0a⟩) (by assumption) ?r0a
  case y0a => (intro w' hSw; (try dsimp only at hSw); go_simp; (try with_reducible rfl))
  try simp only [Act.put, List.getElem_toArray, List.getElem_cons_zero, List.getElem_cons_succ, List.setIfInBounds_toArray, List.set_cons_zero, List.set_cons_succ]
  refine wpAnyH_take (i := 1) (oi := _) (v := ?v1a) rfl (by kernel_rfl) (by kernel_rfl) (by kernel_rfl) (fun _ _ _ h => h) (Or.inl ⟨by rfl, ?y1a⟩) (by assumption) ?r1a
  case y1a => (intro w' hSw; (try dsimp only at hSw); go_simp; (try with_reducible rfl))
  try simp only [Act.put, List.getElem_toArray, List.getElem_cons_zero, List.getElem_cons_succ, List.setIfInBounds_toArray, List.set_cons_zero, List.set_cons_succ]
  refine wpAnyH_take (i := 2) (oi := _) (v := ?v2a) rfl (by kernel_rfl) (by kernel_rfl) (by kernel_rfl) (fun _ _ _ h => h) (Or.inl ⟨by rfl, ?y2a⟩) (by assumption) ?r2a
  case y2a => (intro w' hSw; (try dsimp only at hSw); go_simp; (try with_reducible rfl))
  try simp only [Act.put, List.getElem_toArray, List.getElem_cons_zero, List.getElem_cons_succ, List.setIfInBounds_toArray, List.set_cons_zero, List.set_cons_succ]
  refine wpAnyH_take (i := 3) (oi := _) (v := ?v3a) rfl (by kernel_rfl) (by kernel_rfl) (by kernel_rfl) (fun _ _ _ h => h) (Or.inl ⟨by rfl, ?y3a⟩) (by assumption) ?r3a
  case y3a => (intro w' hSw; (try dsimp only at hSw); go_simp; (try with_reducible rfl))
  try simp only [Act.put, List.getElem_toArray, List.getElem_cons_zero, List.getElem_cons_succ, List.setIfInBounds_toArray, List.set_cons_zero, List.set_cons_succ]
  refine wpAnyH_take (i := 4) (oi := _) (v := ?v4a) rfl (by kernel_rfl) (by kernel_rfl) (by kernel_rfl) (fun _ _ _ h => h) (Or.inl ⟨by rfl, ?y4a⟩) (by assumption) ?r4a
  case y4a => (intro w' hSw; (try dsimp only at hSw); go_simp; (try with_reducible rfl))
  try simp only [Act.put, List.getElem_toArray, List.getElem_cons_zero, List.getElem_cons_succ, List.setIfInBounds_toArray, List.set_cons_zero, List.set_cons_succ]
  refine wpAnyH_take (i := 5) (oi := _) (v := ?v5a) rfl (by kernel_rfl) (by kernel_rfl) (by kernel_rfl) (fun _ _ _ h => h) (Or.inl ⟨by rfl, ?y5a⟩) (by assumption) ?r5a
  case y5a => (intro w' hSw; (try dsimp only at hSw); go_simp; (try with_reducible rfl))
  try simp only [Act.put, List.getElem_toArray, List.getElem_cons_zero, List.getElem_cons_succ, List.setIfInBounds_toArray, List.set_cons_zero, List.set_cons_succ]
  refine wpAnyH_take (i := 6) (oi := _) (v := ?v6a) rfl (by kernel_rfl) (by kernel_rfl) (by kernel_rfl) (fun _ _ _ h => h) (Or.inl ⟨by rfl, ?y6a⟩) (by assumption) ?r6a
  case y6a => (intro w' hSw; (try dsimp only at hSw); go_simp; (try with_reducible rfl))
  try simp only [Act.put, List.getElem_toArray, List.getElem_cons_zero, List.getElem_cons_succ, List.setIfInBounds_toArray, List.set_cons_zero, List.set_cons_succ]
  refine wpAnyH_take (i := 7) (oi := _) (v := ?v7a) rfl (by kernel_rfl) (by kernel_rfl) (by kernel_rfl) (fun _ _ _ h => h) (Or.inl ⟨by rfl, ?y7a⟩) (by assumption) ?r7a
  case y7a => (intro w' hSw; (try dsimp only at hSw); go_simp; (try with_reducible rfl))
  try simp only [Act.put, List.getElem_toArray, List.getElem_cons_zero, List.getElem_cons_succ, List.setIfInBounds_toArray, List.set_cons_zero, List.set_cons_succ]
  refine wpAnyH_take (i := 8) (oi := _) (v := ?v8a) rfl (by kernel_rfl) (by kernel_rfl) (by kernel_rfl) (fun _ _ _ h => h) (Or.inl ⟨by rfl, ?y8a⟩) (by assumption) ?r8a
  case y8a => (intro w' hSw; (try dsimp only at hSw); go_simp; (try with_reducible rfl))
  try simp only [Act.put, List.getElem_toArray, List.getElem_cons_zero, List.getElem_cons_succ, List.setIfInBounds_toArray, List.set_cons_zero, List.set_cons_succ]
  refine wpAnyH_take (i := 9) (oi := _) (v := ?v9a) rfl (by kernel_rfl) (by kernel_rfl) (by kernel_rfl) (fun _ _ _ h => h) (Or.inl ⟨by rfl, ?y9a⟩) (by assumption) ?r9a
  case y9a => (intro w' hSw; (try dsimp only at hSw); go_simp; (try with_reducible rfl))
  try simp only [Act.put, List.getElem_toArray, List.getElem_cons_zero, List.getElem_cons_succ, List.setIfInBounds_toArray, List.set_cons_zero, List.set_cons_succ]
  refine wpAnyH_take (i := 10) (oi := _) (v := ?v10a) rfl (by kernel_rfl) (by kernel_rfl) (by kernel_rfl) (fun _ _ _ h => h) (Or.inl ⟨by rfl, ?y10a⟩) (by assumption) ?r10a
  case y10a => (intro w' hSw; (try dsimp only at hSw); go_simp; (try with_reducible rfl))
  try simp only [Act.put, List.getElem_toArray, List.getElem_cons_zero, List.getElem_cons_succ, List.setIfInBounds_toArray, List.set_cons_zero, List.set_cons_succ]
  refine wpAnyH_take (i := 11) (oi := _) (v := ?v11a) rfl (by kernel_rfl) (by kernel_rfl) (by kernel_rfl) (fun _ _ _ h => h) (Or.inl ⟨by rfl, ?y11a⟩) (by assumption) ?r11a
  case y11a => (intro w' hSw; (try dsimp only at hSw); go_simp; (try with_reducible rfl))
  try simp only [Act.put, List.getElem_toArray, List.getElem_cons_zero, List.getElem_cons_succ, List.setIfInBounds_toArray, List.set_cons_zero, List.set_cons_succ]
  refine wpAnyH_take (i := 12) (oi := _) (v := ?v12a) rfl (by kernel_rfl) (by kernel_rfl) (by kernel_rfl) (fun _ _ _ h => h) (Or.inl ⟨by rfl, ?y12a⟩) (by assumption) ?r12a
  case y12a => (intro w' hSw; (try dsimp only at hSw); go_simp; (try with_reducible rfl))
  try simp only [Act.put, List.getElem_toArray, List.getElem_cons_zero, List.getElem_cons_succ, List.setIfInBounds_toArray, List.set_cons_zero, List.set_cons_succ]
  refine wpAnyH_take (i := 13) (oi := _) (v := ?v13a) rfl (by kernel_rfl) (by kernel_rfl) (by kernel_rfl) (fun _ _ _ h => h) (Or.inl ⟨by rfl, ?y13a⟩) (by assumption) ?r13a
  case y13a => (intro w' hSw; (try dsimp only at hSw); go_simp; (try with_reducible rfl))
  try simp only [Act.put, List.getElem_toArray, List.getElem_cons_zero, List.getElem_cons_succ, List.setIfInBounds_toArray, List.set_cons_zero, List.set_cons_succ]
  refine wpAnyH_take (i := 14) (oi := _) (v := ?v14a) rfl (by kernel_rfl) (by kernel_rfl) (by kernel_rfl) (fun _ _ _ h => h) (Or.inl ⟨by rfl, ?y14a⟩) (by assumption) ?r14a
  case y14a => (intro w' hSw; (try dsimp only at hSw); go_simp; (try with_reducible rfl))
  try simp only [Act.put, List.getElem_toArray, List.getElem_cons_zero, List.getElem_cons_succ, List.setIfInBounds_toArray, List.set_cons_zero, List.set_cons_succ]
  refine wpAnyH_take (i := 15) (oi := _) (v := ?v15a) rfl (by kernel_rfl) (by kernel_rfl) (by kernel_rfl) (fun _ _ _ h => h) (Or.inl ⟨by rfl, ?y15a⟩) (by assumption) ?r15a
  case y15a => (intro w' hSw; (try dsimp only at hSw); go_simp; (try with_reducible rfl))
  try simp only [Act.put, List.getElem_toArray, List.getElem_cons_zero, List.getElem_cons_succ, List.setIfInBounds_toArray, List.set_cons_zero, List.set_cons_succ]
  refine wpAnyH_take (i := 16) (oi := _) (v := ?v16a) rfl (by kernel_rfl) (by kernel_rfl) (by kernel_rfl) (fun _ _ _ h => h) (Or.inl ⟨by rfl, ?y16a⟩) (by assumption) ?r16a
  case y16a => (intro w' hSw; (try dsimp only at hSw); go_simp; (try with_reducible rfl))
  try simp only [Act.put, List.getElem_toArray, List.getElem_cons_zero, List.getElem_cons_succ, List.setIfInBounds_toArray, List.set_cons_zero, List.set_cons_succ]
  refine wpAnyH_take (i := 17) (oi := _) (v := ?v17a) rfl (by kernel_rfl) (by kernel_rfl) (by kernel_rfl) (fun _ _ _ h => h) (Or.inl ⟨by rfl, ?y17a⟩) (by assumption) ?r17a
  case y17a => (intro w' hSw; (try dsimp only at hSw); go_simp; (try with_reducible rfl))
  try simp only [Act.put, List.getElem_toArray, List.getElem_cons_zero, List.getElem_cons_succ, List.setIfInBounds_toArray, List.set_cons_zero, List.set_cons_succ]
  refine wpAnyH_take (i := 18) (oi := _) (v := ?v18a) rfl (by kernel_rfl) (by kernel_rfl) (by kernel_rfl) (fun _ _ _ h => h) (Or.inl ⟨by rfl, ?y18a⟩) (by assumption) ?r18a
  case y18a => (intro w' hSw; (try dsimp only at hSw); go_simp; (try with_reducible rfl))
  try simp only [Act.put, List.getElem_toArray, List.getElem_cons_zero, List.getElem_cons_succ, List.setIfInBounds_toArray, List.set_cons_zero, List.set_cons_succ]
  refine wpAnyH_take (i := 19) (oi := _) (v := ?v19a) rfl (by kernel_rfl) (by kernel_rfl) (by kernel_rfl) (fun _ _ _ h => h) (Or.inl ⟨by rfl, ?y19a⟩) (by assumption) ?r19a
  case y19a => (intro w' hSw; (try dsimp only at hSw); go_simp; (try with_reducible rfl))
  try simp only [Act.put, List.getElem_toArray, List.getElem_cons_zero, List.getElem_cons_succ, List.setIfInBounds_toArray, List.set_cons_zero, List.set_cons_succ]
  refine wpAnyH_take (i := 20) (oi := _) (v := ?v20a) rfl (by kernel_rfl) (by kernel_rfl) (by kernel_rfl) (fun _ _ _ h => h) (Or.inl ⟨by rfl, ?y20a⟩) (by assumption) ?r20a
  case y20a => (intro w' hSw; (try dsimp only at hSw); go_simp; (try with_reducible rfl))
  try simp only [Act.put, List.getElem_toArray, List.getElem_cons_zero, List.getElem_cons_succ, List.setIfInBounds_toArray, List.set_cons_zero, List.set_cons_succ]
  refine wpAnyH_take (i := 21) (oi := _) (v := ?v21a) rfl (by kernel_rfl) (by kernel_rfl) (by kernel_rfl) (fun _ _ _ h => h) (Or.inl ⟨by rfl, ?y21a⟩) (by assumption) ?r21a
  case y21a => (intro w' hSw; (try dsimp only at hSw); go_simp; (try with_reducible rfl))
  try simp only [Act.put, List.getElem_toArray, List.getElem_cons_zero, List.getElem_cons_succ, List.setIfInBounds_toArray, List.set_cons_zero, List.set_cons_succ]
  refine wpAnyH_take (i := 22) (oi := _) (v := ?v22a) rfl (by kernel_rfl) (by kernel_rfl) (by kernel_rfl) (fun _ _ _ h => h) (Or.inl ⟨by rfl, ?y22a⟩) (by assumption) ?r22a
  case y22a => (intro w' hSw; (try dsimp only at hSw); go_simp; (try with_reducible rfl))
  try simp only [Act.put, List.getElem_toArray, List.getElem_cons_zero, List.getElem_cons_succ, List.setIfInBounds_toArray, List.set_cons_zero, List.set_cons_succ]
  refine wpAnyH_take (i := 23) (oi := _) (v := ?v23a) rfl (by kernel_rfl) (by kernel_rfl) (by kernel_rfl) (fun _ _ _ h => h) (Or.inl ⟨by rfl, ?y23a⟩) (by assumption) ?r23a
  case y23a => (intro w' hSw; (try dsimp only at hSw); go_simp; (try with_reducible rfl))
  try simp only [Act.put, List.getElem_toArray, List.getElem_cons_zero, List.getElem_cons_succ, List.setIfInBounds_toArray, List.set_cons_zero, List.set_cons_succ]
  refine wpAnyH_take (i := 24) (oi := _) (v := ?v24a) rfl (by kernel_rfl) (by kernel_rfl) (by kernel_rfl) (fun _ _ _ h => h) (Or.inl ⟨by rfl, ?y24a⟩) (by assumption) ?r24a
  case y24a => (intro w' hSw; (try dsimp only at hSw); go_simp; (try with_reducible rfl))
  try simp only [Act.put, List.getElem_toArray, List.getElem_cons_zero, List.getElem_cons_succ, List.setIfInBounds_toArray, List.set_cons_zero, List.set_cons_succ]
  refine wpAnyH_take (i := 25) (oi := _) (v := ?v25a) rfl (by kernel_rfl) (by kernel_rfl) (by kernel_rfl) (fun _ _ _ h => h) (Or.inl ⟨by rfl, ?y25a⟩) (by assumption) ?r25a
  case y25a => (intro w' hSw; (try dsimp only at hSw); go_simp; (try with_reducible rfl))
  try simp only [Act.put, List.getElem_toArray, List.getElem_cons_zero, List.getElem_cons_succ, List.setIfInBounds_toArray, List.set_cons_zero, List.set_cons_succ]
  refine wpAnyH_take (i := 26) (oi := _) (v := ?v26a) rfl (by kernel_rfl) (by kernel_rfl) (by kernel_rfl) (fun _ _ _ h => h) (Or.inl ⟨by rfl, ?y26a⟩) (by assumption) ?r26a
  case y26a => (intro w' hSw; (try dsimp only at hSw); go_simp; (try with_reducible rfl))
  try simp only [Act.put, List.getElem_toArray, List.getElem_cons_zero, List.getElem_cons_succ, List.setIfInBounds_toArray, List.set_cons_zero, List.set_cons_succ]
  refine wpAnyH_take (i := 27) (oi := _) (v := ?v27a) rfl (by kernel_rfl) (by kernel_rfl) (by kernel_rfl) (fun _ _ _ h => h) (Or.inl ⟨by rfl, ?y27a⟩) (by assumption) ?r27a
  case y27a => (intro w' hSw; (try dsimp only at hSw); go_simp; (try with_reducible rfl))
  try simp only [Act.put, List.getElem_toArray, List.getElem_cons_zero, List.getElem_cons_succ, List.setIfInBounds_toArray, List.set_cons_zero, List.set_cons_succ]
  refine wpAnyH_take (i := 28) (oi := _) (v := ?v28a) rfl (by kernel_rfl) (by kernel_rfl) (by kernel_rfl) (fun _ _ _ h => h) (Or.inl ⟨by rfl, ?y28a⟩) (by assumption) ?r28a
  case y28a => (intro w' hSw; (try dsimp only at hSw); go_simp; (try with_reducible rfl))
  try simp only [Act.put, List.getElem_toArray, List.getElem_cons_zero, List.getElem_cons_succ, List.setIfInBounds_toArray, List.set_cons_zero, List.set_cons_succ]
  refine wpAnyH_take (i := 29) (oi := _) (v := ?v29a) rfl (by kernel_rfl) (by kernel_rfl) (by kernel_rfl) (fun _ _ _ h => h) (Or.inl ⟨by rfl, ?y29a⟩) (by assumption) ?r29a
  case y29a => (intro w' hSw; (try dsimp only at hSw); go_simp; (try with_reducible rfl))
  try simp only [Act.put, List.getElem_toArray, List.getElem_cons_zero, List.getElem_cons_succ, List.setIfInBounds_toArray, List.set_cons_zero, List.set_cons_succ]
  refine wpAnyH_take (i := 30) (oi := _) (v := ?v30a) rfl (by kernel_rfl) (by kernel_rfl) (by kernel_rfl) (fun _ _ _ h => h) (Or.inl ⟨by rfl, ?y30a⟩) (by assumption) ?r30a
  case y30a => (intro w' hSw; (try dsimp only at hSw); go_simp; (try with_reducible rfl))
  try simp only [Act.put, List.getElem_toArray, List.getElem_cons_zero, List.getElem_cons_succ, List.setIfInBounds_toArray, List.set_cons_zero, List.set_cons_succ]
  refine wpAnyH_take (i := 31) (oi := _) (v := ?v31a) rfl (by kernel_rfl) (by kernel_rfl) (by kernel_rfl) (fun _ _ _ h => h) (Or.inl ⟨by rfl, ?y31a⟩) (by assumption) ?r31a
  case y31a => (intro w' hSw; (try dsimp only at hSw); go_simp; (try with_reducible rfl))
  try simp only [Act.put, List.getElem_toArray, List.getElem_cons_zero, List.getElem_cons_succ, List.setIfInBounds_toArray, List.set_cons_zero, List.set_cons_succ]
  refine wpAnyH_take (i := 32) (oi := _) (v := ?v32a) rfl (by kernel_rfl) (by kernel_rfl) (by kernel_rfl) (fun _ _ _ h => h) (Or.inl ⟨by rfl, ?y32a⟩) (by assumption) ?r32a
  case y32a => (intro w' hSw; (try dsimp only at hSw); go_simp; (try with_reducible rfl))
  try simp only [Act.put, List.getElem_toArray, List.getElem_cons_zero, List.getElem_cons_succ, List.setIfInBounds_toArray, List.set_cons_zero, List.set_cons_succ]
  refine wpAnyH_ready (rs := [33]) (by kernel_rfl) (by simp) ?_
  refine AllReadyH.cons (o := _) rfl (fun K hK => ?_) AllReadyH.nil
  go_simp
  refine Calls.mono (lspan_any _ _ _) ?_
  rintro e X2 ⟨rfl, hEX⟩
  dsimp only
  have EY := hid (EX.trans hEX)
  clear hHeld EX hEX
  refine hK.out _ _ ⟨(EY.out.cell (p := ⟨w5.heap.size, 1, none⟩) bz).trans bx, (EY.out.cell (p := ⟨b, off + 8 + 7, none⟩) hb).trans q7, (EY.out.cell (p := ⟨ob, oo, none⟩) hob).trans o0, (EY.out.cell (p := ⟨ob, oo + 1, none⟩) hob).trans o1⟩ (fun hHeld => ?_)
  clear hK K
  try simp only [Act.put, List.getElem_toArray, List.getElem_cons_zero, List.getElem_cons_succ, List.setIfInBounds_toArray, List.set_cons_zero, List.set_cons_succ]
  refine wpAnyH_take (i := 34) (oi := _) (v := ?v34b) rfl (by kernel_rfl) (by kernel_rfl) (by kernel_rfl) (fun _ _ _ h => h) (Or.inl ⟨by rfl, ?y34b⟩) (by assumption) ?r34b
  case y34b => (intro w' hSw; (try dsimp only at hSw); go_simp; (try with_reducible rfl))
  try simp only [Act.put, List.getElem_toArray, List.getElem_cons_zero, List.getElem_cons_succ, List.setIfInBounds_toArray, List.set_cons_zero, List.set_cons_succ]
  refine wpAnyH_take (i := 35) (oi := _) (v := ?v35b) rfl (by kernel_rfl) (by kernel_rfl) (by kernel_rfl) (fun _ _ _ h => h) (Or.inl ⟨by rfl, ?y35b⟩) (by assumption) ?r35b
  case y35b => (intro w' hSw; (try dsimp only at hSw); go_simp; (try with_reducible rfl))
  try simp only [Act.put, List.getElem_toArray, List.getElem_cons_zero, List.getElem_cons_succ, List.setIfInBounds_toArray, List.set_cons_zero, List.set_cons_succ]
  refine wpAnyH_take (i := 36) (oi := _) (v := ?v36b) rfl (by kernel_rfl) (by kernel_rfl) (by kernel_rfl) (fun _ _ _ h => h) (Or.inl ⟨by rfl, ?y36b⟩) (by assumption) ?r36b
  case y36b => (intro w' hSw; (try dsimp only at hSw); go_simp; (try with_reducible rfl))
  try simp only [Act.put, List.getElem_toArray, List.getElem_cons_zero, List.getElem_cons_succ, List.setIfInBounds_toArray, List.set_cons_zero, List.set_cons_succ]
  clear hHeld
  refine wpAnyH_done (by kernel_rfl) ?_ _
  go_wp2
  exact bodyPost_ret (v := .bool true) (by simp [results, Tryz.results8, go_sem]) rfl ⟨rfl, HE6.out.trans EY.out⟩
end Go.Proofs.YtecamnhnjmldcaaGreatDoor
/- soonest, latest, orNone. -/
set_option linter.unusedSimpArgs false
set_option linter.unusedVariables false
namespace Go.Proofs.YtecamnhnjmldcaaGreatDoor
open Go.RowKit
theorem orNone_any (N : Nat) (hN : N ≤ 1000) (A1 : Option Addr) (n1 c1 : Nat) (A2 : Option Addr) (n2 c2 : Nat) (l : Lm) (len : Nat) (h : Nat) (hh : h ≤ N) (w : World) :
    Calls Tryz.prog 50 #[.agg (winCells N (.slice A1 n1 c1) (.slice A2 n2 c2) l len), .int .i64 h] w fun e w' => e = .returned (.int .i64 (if h = N then -1 else h)) ∧ Ext w w' := by
  have B0 := blk_last w (.cells (winCells N (.slice A1 n1 c1) (.slice A2 n2 c2) l len) 117)
  unfold winCells at *
  have b0 := blk_cell B0 0
  simp only [List.getElem?_toArray, List.getElem?_cons_zero, List.getElem?_cons_succ] at b0
  obtain ⟨BE, hBE⟩ : ∃ BE : Int, (if h = N then -1 else (h : Int)) = BE := ⟨_, rfl⟩
  rw [hBE]
  by_cases he : h = N
  · rw [if_pos he] at hBE
    subst hBE
    go_enter Tryz.func50, Tryz.ntmps50
    go_wp2
    exact bodyPost_ret (v := .int .i64 (-1)) (by simp [results, Tryz.results50, go_sem]) rfl ⟨rfl, ext_alloc1 _ _⟩
  · rw [if_neg he] at hBE
    subst hBE
    go_enter Tryz.func50, Tryz.ntmps50
    go_wp2
    exact bodyPost_ret (v := .int .i64 h) (by simp [results, Tryz.results50, go_sem]) rfl ⟨rfl, ext_alloc1 _ _⟩
def soonK (kept : Hr → Bool) (len n : Nat) (ss : List (List Hr)) (k : Nat) : Nat := (ss.take k).foldl (fun m hs => min m (nxtM kept len n hs 0)) n

theorem soonK_step (kept : Hr → Bool) (len n : Nat) (ss : List (List Hr)) (k : Nat) (hk : k < ss.length) : soonK kept len n ss (k + 1) = min (soonK kept len n ss k) (nxtM kept len n (ss.getD k []) 0) := by
  have e : ss.getD k [] = ss[k] := by simp [List.getD, List.getElem?_eq_getElem hk]
  unfold soonK
  rw [List.take_succ_eq_append_getElem hk, List.foldl_append, e]
  rfl
theorem soonK_le (kept : Hr → Bool) (len n : Nat) (ss : List (List Hr)) : ∀ k, k ≤ ss.length → soonK kept len n ss k ≤ n
  | 0, _ => by simp [soonK]
  | k + 1, hk => by rw [soonK_step _ _ _ _ _ (by omega)]; have := soonK_le kept len n ss k (by omega); have := (nxtM_bd kept len n (ss.getD k []) 0 (Nat.zero_le _)).2; omega
set_option maxRecDepth 100000 in
set_option maxHeartbeats 8000000 in
theorem soonest_any (N : Nat) (hN : N ≤ 1000) (A1 : Option Addr) (n1 c1 : Nat) (A2 : Option Addr) (n2 c2 : Nat) (l : Lm) (len : Nat) (hlen : 1 ≤ len) (hlen2 : len ≤ 1000) (ss : List (List Hr)) (hn : ss.length = n2) (hn2 : n2 ≤ 1000) (hall : ∀ x ∈ ss, x.length = N) (w : World) (hx : ScsAt w A2 ss) :
    Calls Tryz.prog 51 #[.agg (winCells N (.slice A1 n1 c1) (.slice A2 n2 c2) l len)] w fun e w' => e = .returned (.int .i64 (soonM (mayB l) len N ss)) ∧ Ext w w' := by
  have HX := hid hx
  have HN := hid hn
  have HALL := hid hall
  have B0 := hid (show Blk _ _ _ _ from blk_last w (.cells (winCells N (.slice A1 n1 c1) (.slice A2 n2 c2) l len) 117))
  clear hx hn hall
  unfold winCells at *
  go_enter Tryz.func51, Tryz.ntmps51
  go_wp2
  have b0 := B0.out.cell 0
  have b2 := B0.out.cell 2
  have z0 := B0.out.lt
  simp only [List.getElem?_toArray, List.getElem?_cons_zero, List.getElem?_cons_succ] at b0 b2
  go_loopw [3, 13] (fun m i wr => Ext w wr ∧ ∃ k : Nat, k ≤ n2 ∧ i = .int .i64 k ∧ m = .int .i64 (soonK (mayB l) len N ss k) ∧ Hid (Blk wr w.heap.size 117 #[.int .i64 (N : Int), .slice A1 n1 c1, .slice A2 n2 c2, .int .i64 l.wind, .int .i64 l.rain, .int .i64 l.tl, .int .i64 l.th, .int .i64 (len : Int)])) (fun _ i _ => n2 - (intOf i).toNat)
  case atStart =>
    exact ⟨by (repeat' (first | with_reducible assumption | with_reducible exact Ext.refl _ | with_reducible refine Ext.alloc ?_ _ | with_reducible refine Ext.set ?_ ?_ _ | with_reducible refine Ext.drew ?_ | with_reducible refine Ext.drewN ?_ _ | with_reducible refine Ext.trans ?_ (by assumption) | (dsimp only; omega))), 0, Nat.zero_le _, rfl, rfl, B0⟩
  case round =>
    obtain ⟨hE, k, hk, rfl, rfl, J0⟩ := hrel
    clear b0 b2 z0 B0
    obtain ⟨a0, a1, a2, a3, a4, a5, a6, a7⟩ : _ ∧ _ ∧ _ ∧ _ ∧ _ ∧ _ ∧ _ ∧ _ := ⟨J0.out.cell 0, J0.out.cell 1, J0.out.cell 2, J0.out.cell 3, J0.out.cell 4, J0.out.cell 5, J0.out.cell 6, J0.out.cell 7⟩
    have z0 := J0.out.lt
    simp only [List.getElem?_toArray, List.getElem?_cons_zero, List.getElem?_cons_succ] at a0 a1 a2 a3 a4 a5 a6 a7
    by_cases hlt : k < n2
    · obtain ⟨b, off, rfl, hb0, A', c', ew, hcap, hhr⟩ := HX.out.at_ HN.out hlt
      have hb := Nat.lt_of_lt_of_le hb0 hE.size
      have e0 := (hE.cell hb0).trans ew
      have hlx := HALL.out _ (mem_at ss [] k (by rw [HN.out]; exact hlt))
      have HST := hid (soonK_step (mayB l) len N ss k (by rw [HN.out]; exact hlt))
      have HBK := hid (soonK_le (mayB l) len N ss k (by rw [HN.out]; omega))
      rw [hlx] at e0 hcap
      have HNX := hid (fun (W : World) (hW : Ext w W) => next_any 98 mayB maybeF N hN _ _ A1 n1 c1 rfl (some ⟨b, off, none⟩) n2 c2 rfl l len hlen hlen2 (ss.getD k []) A' c' hlx hcap 0 (Nat.zero_le _) W (hhr.ext hW))
      unfold winCells at HNX
      have hbd := (nxtM_bd (mayB l) len N (ss.getD k []) 0 (Nat.zero_le _)).2
      clear ew hhr hcap hlx
      generalize nxtM (mayB l) len N (ss.getD k []) 0 = nx at *
      generalize soonK (mayB l) len N ss k = m0 at *
      obtain ⟨m2, hm2⟩ : ∃ m2, min m0 nx = m2 := ⟨_, rfl⟩
      rw [hm2] at HST
      have hb0 := HBK.out
      have g2 : (if nx < m0 then (nx : Int) else (m0 : Int)) = (m2 : Int) := by split <;> omega
      have B5 := hid (show Blk _ _ _ _ from blk_last wr (.cells #[.slice A' N c'] 92))
      have K5 := hid (J0.out.alloc (.cells #[.slice A' N c'] 92))
      have E5 := hid (hE.trans (ext_alloc1 wr (.cells #[.slice A' N c'] 92)))
      clear hm2
      go_wp2_with fail
      obtain ⟨V, hV⟩ : ∃ V, wr.alloc (.cells #[.slice A' N c'] 92) = V := ⟨_, rfl⟩
      rw [hV] at B5 K5 E5 ⊢
      clear hV a0 a1 a2 a3 a4 a5 a6 a7 z0 J0 e0
      refine Calls.mono (HNX.out _ E5.out) ?_
      rintro e X2 ⟨rfl, hE2⟩
      dsimp only
      have L0 := hid (show Blk _ _ _ _ from K5.out.ext hE2)
      have HEX := hid (E5.out.trans hE2)
      clear K5 B5 E5 hE2
      go_wp2
      go_roundw
      case rel => exact ⟨HEX.out, k + 1, by omega, by go_num, by rw [HST.out], L0⟩
      case measure => simp [intOf]; omega
    · obtain rfl : k = n2 := by omega
      have HF := hid (show soonK (mayB l) len N ss k = soonM (mayB l) len N ss by unfold soonK soonM; rw [List.take_of_length_le (by rw [HN.out]; exact Nat.le_refl _)])
      go_wp2
      go_ret
      exact ⟨ret_int (by rw [HF.out]), hE⟩
def lateK (kept : Hr → Bool) (len n : Nat) (ss : List (List Hr)) (k : Nat) : Nat := (ss.take k).foldl (fun m hs => max m (nxtM kept len n hs 0)) 0

theorem lateK_step (kept : Hr → Bool) (len n : Nat) (ss : List (List Hr)) (k : Nat) (hk : k < ss.length) : lateK kept len n ss (k + 1) = max (lateK kept len n ss k) (nxtM kept len n (ss.getD k []) 0) := by
  have e : ss.getD k [] = ss[k] := by simp [List.getD, List.getElem?_eq_getElem hk]
  unfold lateK
  rw [List.take_succ_eq_append_getElem hk, List.foldl_append, e]
  rfl
theorem lateK_le (kept : Hr → Bool) (len n : Nat) (ss : List (List Hr)) : ∀ k, k ≤ ss.length → lateK kept len n ss k ≤ n
  | 0, _ => by simp [lateK]
  | k + 1, hk => by rw [lateK_step _ _ _ _ _ (by omega)]; have := lateK_le kept len n ss k (by omega); have := (nxtM_bd kept len n (ss.getD k []) 0 (Nat.zero_le _)).2; omega
set_option maxRecDepth 100000 in
set_option maxHeartbeats 8000000 in
theorem latest_any (N : Nat) (hN : N ≤ 1000) (A1 : Option Addr) (n1 c1 : Nat) (A2 : Option Addr) (n2 c2 : Nat) (l : Lm) (len : Nat) (hlen : 1 ≤ len) (hlen2 : len ≤ 1000) (ss : List (List Hr)) (hn : ss.length = n2) (hn2 : n2 ≤ 1000) (hall : ∀ x ∈ ss, x.length = N) (w : World) (hx : ScsAt w A2 ss) :
    Calls Tryz.prog 52 #[.agg (winCells N (.slice A1 n1 c1) (.slice A2 n2 c2) l len)] w fun e w' => e = .returned (.int .i64 (lateM (surB l) len N ss)) ∧ Ext w w' := by
  have HX := hid hx
  have HN := hid hn
  have HALL := hid hall
  have B0 := hid (show Blk _ _ _ _ from blk_last w (.cells (winCells N (.slice A1 n1 c1) (.slice A2 n2 c2) l len) 117))
  clear hx hn hall
  unfold winCells at *
  go_enter Tryz.func52, Tryz.ntmps52
  go_wp2
  have b0 := B0.out.cell 0
  have b2 := B0.out.cell 2
  have z0 := B0.out.lt
  simp only [List.getElem?_toArray, List.getElem?_cons_zero, List.getElem?_cons_succ] at b0 b2
  go_loopw [3, 10] (fun m i wr => Ext w wr ∧ ∃ k : Nat, k ≤ n2 ∧ i = .int .i64 k ∧ m = .int .i64 (lateK (surB l) len N ss k) ∧ Hid (Blk wr w.heap.size 117 #[.int .i64 (N : Int), .slice A1 n1 c1, .slice A2 n2 c2, .int .i64 l.wind, .int .i64 l.rain, .int .i64 l.tl, .int .i64 l.th, .int .i64 (len : Int)])) (fun _ i _ => n2 - (intOf i).toNat)
  case atStart =>
    exact ⟨by (repeat' (first | with_reducible assumption | with_reducible exact Ext.refl _ | with_reducible refine Ext.alloc ?_ _ | with_reducible refine Ext.set ?_ ?_ _ | with_reducible refine Ext.drew ?_ | with_reducible refine Ext.drewN ?_ _ | with_reducible refine Ext.trans ?_ (by assumption) | (dsimp only; omega))), 0, Nat.zero_le _, rfl, rfl, B0⟩
  case round =>
    obtain ⟨hE, k, hk, rfl, rfl, J0⟩ := hrel
    clear b0 b2 z0 B0
    obtain ⟨a0, a1, a2, a3, a4, a5, a6, a7⟩ : _ ∧ _ ∧ _ ∧ _ ∧ _ ∧ _ ∧ _ ∧ _ := ⟨J0.out.cell 0, J0.out.cell 1, J0.out.cell 2, J0.out.cell 3, J0.out.cell 4, J0.out.cell 5, J0.out.cell 6, J0.out.cell 7⟩
    have z0 := J0.out.lt
    simp only [List.getElem?_toArray, List.getElem?_cons_zero, List.getElem?_cons_succ] at a0 a1 a2 a3 a4 a5 a6 a7
    by_cases hlt : k < n2
    · obtain ⟨b, off, rfl, hb0, A', c', ew, hcap, hhr⟩ := HX.out.at_ HN.out hlt
      have hb := Nat.lt_of_lt_of_le hb0 hE.size
      have e0 := (hE.cell hb0).trans ew
      have hlx := HALL.out _ (mem_at ss [] k (by rw [HN.out]; exact hlt))
      have HST := hid (lateK_step (surB l) len N ss k (by rw [HN.out]; exact hlt))
      have HBK := hid (lateK_le (surB l) len N ss k (by rw [HN.out]; omega))
      rw [hlx] at e0 hcap
      have HNX := hid (fun (W : World) (hW : Ext w W) => next_any 94 surB surelyF N hN _ _ A1 n1 c1 rfl (some ⟨b, off, none⟩) n2 c2 rfl l len hlen hlen2 (ss.getD k []) A' c' hlx hcap 0 (Nat.zero_le _) W (hhr.ext hW))
      unfold winCells at HNX
      have hbd := (nxtM_bd (surB l) len N (ss.getD k []) 0 (Nat.zero_le _)).2
      clear ew hhr hcap hlx
      generalize nxtM (surB l) len N (ss.getD k []) 0 = nx at *
      generalize lateK (surB l) len N ss k = m0 at *
      obtain ⟨m2, hm2⟩ : ∃ m2, max m0 nx = m2 := ⟨_, rfl⟩
      rw [hm2] at HST
      have hb0 := HBK.out
      have g2 : (if m0 < nx then (nx : Int) else (m0 : Int)) = (m2 : Int) := by split <;> omega
      have B5 := hid (show Blk _ _ _ _ from blk_last wr (.cells #[.slice A' N c'] 92))
      have K5 := hid (J0.out.alloc (.cells #[.slice A' N c'] 92))
      have E5 := hid (hE.trans (ext_alloc1 wr (.cells #[.slice A' N c'] 92)))
      clear hm2
      go_wp2_with fail
      obtain ⟨V, hV⟩ : ∃ V, wr.alloc (.cells #[.slice A' N c'] 92) = V := ⟨_, rfl⟩
      rw [hV] at B5 K5 E5 ⊢
      clear hV a0 a1 a2 a3 a4 a5 a6 a7 z0 J0 e0
      refine Calls.mono (HNX.out _ E5.out) ?_
      rintro e X2 ⟨rfl, hE2⟩
      dsimp only
      have L0 := hid (show Blk _ _ _ _ from K5.out.ext hE2)
      have HEX := hid (E5.out.trans hE2)
      clear K5 B5 E5 hE2
      go_wp2
      go_roundw
      case rel => exact ⟨HEX.out, k + 1, by omega, by go_num, by rw [HST.out], L0⟩
      case measure => simp [intOf]; omega
    · obtain rfl : k = n2 := by omega
      have HF := hid (show lateK (surB l) len N ss k = lateM (surB l) len N ss by unfold lateK lateM; rw [List.take_of_length_le (by rw [HN.out]; exact Nat.le_refl _)])
      go_wp2
      go_ret
      exact ⟨ret_int (by rw [HF.out]), hE⟩
end Go.Proofs.YtecamnhnjmldcaaGreatDoor
/- Window. -/
set_option linter.unusedSimpArgs false
set_option linter.unusedVariables false
namespace Go.Proofs.YtecamnhnjmldcaaGreatDoor
open Go.RowKit
def noneE (h n : Nat) : Int := if h = n then -1 else h
def firstV (f : List (List Hr)) (seen : List Sg) (l : Lm) (len : Int) : Int := if winE f seen l len = 0 then noneE (soonM (mayB l) len.toNat (hoursN f) (scsM seen f)) (hoursN f) else 0
def lastV (f : List (List Hr)) (seen : List Sg) (l : Lm) (len : Int) : Int := if winE f seen l len = 0 then noneE (lateM (surB l) len.toNat (hoursN f) (scsM seen f)) (hoursN f) else 0
theorem soonM_le (kept : Hr → Bool) (len n : Nat) (ss : List (List Hr)) : soonM kept len n ss ≤ n := by
  have := soonK_le kept len n ss ss.length (Nat.le_refl _)
  unfold soonK at this
  rwa [List.take_of_length_le (Nat.le_refl _)] at this
theorem lateM_le (kept : Hr → Bool) (len n : Nat) (ss : List (List Hr)) : lateM kept len n ss ≤ n := by
  have := lateK_le kept len n ss ss.length (Nat.le_refl _)
  unfold lateK at this
  rwa [List.take_of_length_le (Nat.le_refl _)] at this
set_option maxHeartbeats 4000000 in
set_option maxRecDepth 100000 in
theorem pwindow_any (f : List (List Hr)) (A : Option Addr) (n c : Nat) (seen : List Sg) (SA : Option Addr) (m sc : Nat) (l : Lm) (len : Int) (w : World) (h : FIn w f A n seen SA m) :
    Calls Tryz.prog 13 #[.agg #[.slice A n c], .slice SA m sc, l.val, .int .i64 len] w fun e w' => e = .returned (.tuple #[.int .i64 (firstV f seen l len), .int .i64 (lastV f seen l len), .int .i64 (winE f seen l len)]) ∧ Ext w w' := by
  have HW := hid (fun (W : World) (hW : Ext w W) => beginWin_any f A n c seen SA m sc l len W (h.ext hW))
  unfold firstV lastV
  by_cases hr : winE f seen l len = 0
  · have ok := winE_ok hr
    have hN := h.hours
    have hsl := scsM_le seen f
    have hfl := h.hn
    have hm := h.hm
    have hall := scsM_all (seen := seen) ok.fc
    obtain ⟨ln, rfl⟩ : ∃ ln : Nat, len = ln := ⟨len.toNat, by have := ok.lo; omega⟩
    have hlo := ok.lo
    have hhi := ok.hi
    have HG1 := hid (fun (A1 : Option Addr) (n1 c1 : Nat) (A2 : Option Addr) (c2 : Nat) (W : World) (hW : ScsAt W A2 (scsM seen f)) => soonest_any (hoursN f) hN A1 n1 c1 A2 _ c2 l ln (by omega) (by omega) (scsM seen f) rfl (by omega) hall W hW)
    have HG2 := hid (fun (A1 : Option Addr) (n1 c1 : Nat) (A2 : Option Addr) (c2 : Nat) (W : World) (hW : ScsAt W A2 (scsM seen f)) => latest_any (hoursN f) hN A1 n1 c1 A2 _ c2 l ln (by omega) (by omega) (scsM seen f) rfl (by omega) hall W hW)
    have HG3 := hid (fun (A1 : Option Addr) (n1 c1 : Nat) (A2 : Option Addr) (n2 c2 : Nat) (h : Nat) (hh : h ≤ hoursN f) (W : World) => orNone_any (hoursN f) hN A1 n1 c1 A2 n2 c2 l ln h hh W)
    have hm1 := soonM_le (mayB l) ln (hoursN f) (scsM seen f)
    have hm2 := lateM_le (surB l) ln (hoursN f) (scsM seen f)
    unfold WinIs at HW
    rw [if_pos hr, if_pos hr]
    rw [hr] at HW ⊢
    have e1 : ((ln : Int)).toNat = ln := by omega
    rw [e1]
    clear hr ok hall hlo hhi h e1
    generalize soonM (mayB l) ln (hoursN f) (scsM seen f) = s1 at *
    generalize lateM (surB l) ln (hoursN f) (scsM seen f) = s2 at *
    have HN1 := hid (fun A1 n1 c1 A2 n2 c2 W => HG3.out A1 n1 c1 A2 n2 c2 s1 hm1 W)
    have HN2 := hid (fun A1 n1 c1 A2 n2 c2 W => HG3.out A1 n1 c1 A2 n2 c2 s2 hm2 W)
    clear HG3
    unfold noneE
    generalize (if s1 = hoursN f then -1 else (s1 : Int)) = v1 at *
    generalize (if s2 = hoursN f then -1 else (s2 : Int)) = v2 at *
    unfold winI Lm.val at *
    unfold winCells at HG1 HG2 HN1 HN2
    obtain ⟨wi, ra, tl, th⟩ := l
    dsimp only at *
    go_enter Tryz.func13, Tryz.ntmps13
    go_wp2_with fail
    refine Calls.mono (HW.out _ (by (repeat' (first | with_reducible assumption | with_reducible exact Ext.refl _ | with_reducible refine Ext.alloc ?_ _ | with_reducible refine Ext.set ?_ ?_ _ | with_reducible refine Ext.drew ?_ | with_reducible refine Ext.drewN ?_ _ | with_reducible refine Ext.trans ?_ (by assumption) | (dsimp only; omega))))) ?_
    rintro e w2 ⟨N, A1, n1, c1, A2, n2, c2, rfl, hOV, hE⟩
    have E2 : Ext w w2 := by (repeat' (first | with_reducible assumption | with_reducible exact Ext.refl _ | with_reducible refine Ext.alloc ?_ _ | with_reducible refine Ext.set ?_ ?_ _ | with_reducible refine Ext.drew ?_ | with_reducible refine Ext.drewN ?_ _ | with_reducible refine Ext.trans ?_ (by assumption) | (dsimp only; omega)))
    obtain ⟨rfl, hO1, hO2⟩ := hOV.1 rfl
    obtain ⟨A3, c3, e3, -, hsc, -⟩ := hO2.form
    injection e3 with e3 e4 e5
    subst e3 e4 e5
    have HA := hid (fun (W : World) (hW : Ext w2 W) => HG1.out A1 n1 c1 A2 c2 W (hsc.ext hW))
    have HB := hid (fun (W : World) (hW : Ext w2 W) => HG2.out A1 n1 c1 A2 c2 W (hsc.ext hW))
    have HC := hid (fun (W : World) => HN1.out A1 n1 c1 A2 (scsM seen f).length c2 W)
    have HD := hid (fun (W : World) => HN2.out A1 n1 c1 A2 (scsM seen f).length c2 W)
    clear HG1 HG2 HN1 HN2 HW hOV hO1 hO2 hsc hE
    generalize hoursN f = N at *
    generalize (scsM seen f).length = n2 at *
    have B2 := hid (show Blk _ _ _ _ from blk_last w2 (.cells #[.int .i64 0, .slice none 0 0, .slice none 0 0, .int .i64 0, .int .i64 0, .int .i64 0, .int .i64 0, .int .i64 0] 117))
    have HO1 := hid (win_one N A1 n1 c1 A2 n2 c2 wi ra tl th ln)
    dsimp only
    iterate 13 (first | go_values | go_skip | go_guarded | go_step | go_upon | go_back)
    refine wpList_store_mid rfl 117 _ _ rfl w2.heap.size 0 (#[.int .i64 (N : Int), .slice A1 n1 c1, .slice A2 n2 c2, .int .i64 wi, .int .i64 ra, .int .i64 tl, .int .i64 th, .int .i64 (ln : Int)]) rfl rfl (blk_there B2.out rfl) infoWin HO1.out ?_
    have R := hid (B2.out.fill [.int .i64 (N : Int), .slice A1 n1 c1, .slice A2 n2 c2, .int .i64 wi, .int .i64 ra, .int .i64 tl, .int .i64 th, .int .i64 (ln : Int)] 0)
    have EZ := ext_setCells (ext_alloc1 w2 (.cells #[.int .i64 0, .slice none 0 0, .slice none 0 0, .int .i64 0, .int .i64 0, .int .i64 0, .int .i64 0, .int .i64 0] 117)) (b := w2.heap.size) (Nat.le_refl _) [.int .i64 (N : Int), .slice A1 n1 c1, .slice A2 n2 c2, .int .i64 wi, .int .i64 ra, .int .i64 tl, .int .i64 th, .int .i64 (ln : Int)] 0
    obtain ⟨Z, hZ⟩ : ∃ Z, (w2.alloc (.cells #[.int .i64 0, .slice none 0 0, .slice none 0 0, .int .i64 0, .int .i64 0, .int .i64 0, .int .i64 0, .int .i64 0] 117)).setCells w2.heap.size 0 [.int .i64 (N : Int), .slice A1 n1 c1, .slice A2 n2 c2, .int .i64 wi, .int .i64 ra, .int .i64 tl, .int .i64 th, .int .i64 (ln : Int)] = Z := ⟨_, rfl⟩
    rw [hZ] at R EZ
    have hZ2 : (w2.alloc (.cells #[.int .i64 0, .slice none 0 0, .slice none 0 0, .int .i64 0, .int .i64 0, .int .i64 0, .int .i64 0, .int .i64 0] 117)).setCells w2.heap.size 0 (#[.int .i64 (N : Int), .slice A1 n1 c1, .slice A2 n2 c2, .int .i64 wi, .int .i64 ra, .int .i64 tl, .int .i64 th, .int .i64 (ln : Int)] : Array Value).toList = Z := hZ
    first | rw [hZ2] | rw [hZ]
    clear hZ hZ2 B2
    simp only [fillA, List.setIfInBounds_toArray, List.set_cons_zero, List.set_cons_succ] at R
    obtain ⟨r0, r1, r2, r3, r4, r5, r6, r7⟩ : _ ∧ _ ∧ _ ∧ _ ∧ _ ∧ _ ∧ _ ∧ _ := ⟨R.out.cell 0, R.out.cell 1, R.out.cell 2, R.out.cell 3, R.out.cell 4, R.out.cell 5, R.out.cell 6, R.out.cell 7⟩
    have rz := R.out.lt
    simp only [List.getElem?_toArray, List.getElem?_cons_zero, List.getElem?_cons_succ] at r0 r1 r2 r3 r4 r5 r6 r7
    have HEZ := hid (E2.trans EZ)
    have EZ0 := hid EZ
    clear EZ E2 HO1
    go_wp2_with fail
    refine wp_region_held_drew (S := fun w' => (∀ b o, b < Z.heap.size → w'.cell? ⟨b, o, none⟩ = Z.cell? ⟨b, o, none⟩) ∧ Z.heap.size ≤ w'.heap.size ∧ Ext Z w') (by kernel_rfl) ?hS0 (fun hHeld => ?_)
    case hS0 => exact sK (Ext.drew (Ext.refl _))
    have X0 : Ext Z Z.drew := Ext.drew (Ext.refl Z)
    have EX := X0
    obtain ⟨X, hX⟩ : ∃ X, Z.drew = X := ⟨_, rfl⟩
    rw [hX] at EX hHeld ⊢
    clear hX X0
    refine wpAnyH_take (i := 0) (oi := _) (v := ?v0a) rfl (by kernel_rfl) (by kernel_rfl) (by kernel_rfl) (fun _ _ _ h => h) (Or.inl ⟨by rfl, ?y0a⟩) (by assumption) ?r0a
    case y0a => (intro w' hSw; (try dsimp only at hSw); go_simp; (try with_reducible rfl))
    try simp only [Act.put, List.getElem_toArray, List.getElem_cons_zero, List.getElem_cons_succ, List.setIfInBounds_toArray, List.set_cons_zero, List.set_cons_succ]
    refine wpAnyH_take (i := 1) (oi := _) (v := ?v1a) rfl (by kernel_rfl) (by kernel_rfl) (by kernel_rfl) (fun _ _ _ h => h) (Or.inl ⟨by rfl, ?y1a⟩) (by assumption) ?r1a
    case y1a => (intro w' hSw; (try dsimp only at hSw); go_simp; (try with_reducible rfl))
    try simp only [Act.put, List.getElem_toArray, List.getElem_cons_zero, List.getElem_cons_succ, List.setIfInBounds_toArray, List.set_cons_zero, List.set_cons_succ]
    refine wpAnyH_take (i := 4) (oi := _) (v := ?v4a) rfl (by kernel_rfl) (by kernel_rfl) (by kernel_rfl) (fun _ _ _ h => h) (Or.inl ⟨by rfl, ?y4a⟩) (by assumption) ?r4a
    case y4a => (intro w' hSw; (try dsimp only at hSw); go_simp; (try with_reducible rfl))
    try simp only [Act.put, List.getElem_toArray, List.getElem_cons_zero, List.getElem_cons_succ, List.setIfInBounds_toArray, List.set_cons_zero, List.set_cons_succ]
    refine wpAnyH_take (i := 5) (oi := _) (v := ?v5a) rfl (by kernel_rfl) (by kernel_rfl) (by kernel_rfl) (fun _ _ _ h => h) (Or.inl ⟨by rfl, ?y5a⟩) (by assumption) ?r5a
    case y5a => (intro w' hSw; (try dsimp only at hSw); go_simp; (try with_reducible rfl))
    try simp only [Act.put, List.getElem_toArray, List.getElem_cons_zero, List.getElem_cons_succ, List.setIfInBounds_toArray, List.set_cons_zero, List.set_cons_succ]
    refine wpAnyH_ready (rs := [2]) (by kernel_rfl) (by simp) ?_
    refine AllReadyH.cons (o := _) rfl (fun K hK => ?_) AllReadyH.nil
    go_simp
    refine Calls.mono (HA.out _ (EZ0.out.trans EX)) ?_
    rintro e X ⟨rfl, hE2⟩
    dsimp only
    replace EX := EX.trans hE2
    clear hHeld hE2
    refine hK.out _ _ (sK EX) (fun hHeld => ?_)
    clear hK K
    try simp only [Act.put, List.getElem_toArray, List.getElem_cons_zero, List.getElem_cons_succ, List.setIfInBounds_toArray, List.set_cons_zero, List.set_cons_succ]
    refine wpAnyH_ready (rs := [3]) (by kernel_rfl) (by simp) ?_
    refine AllReadyH.cons (o := _) rfl (fun K hK => ?_) AllReadyH.nil
    go_simp
    refine Calls.mono (HC.out _) ?_
    rintro e X ⟨rfl, hE2⟩
    dsimp only
    replace EX := EX.trans hE2
    clear hHeld hE2
    refine hK.out _ _ (sK EX) (fun hHeld => ?_)
    clear hK K
    try simp only [Act.put, List.getElem_toArray, List.getElem_cons_zero, List.getElem_cons_succ, List.setIfInBounds_toArray, List.set_cons_zero, List.set_cons_succ]
    refine wpAnyH_ready (rs := [6]) (by kernel_rfl) (by simp) ?_
    refine AllReadyH.cons (o := _) rfl (fun K hK => ?_) AllReadyH.nil
    go_simp
    refine Calls.mono (HB.out _ (EZ0.out.trans EX)) ?_
    rintro e X ⟨rfl, hE2⟩
    dsimp only
    replace EX := EX.trans hE2
    clear hHeld hE2
    refine hK.out _ _ (sK EX) (fun hHeld => ?_)
    clear hK K
    try simp only [Act.put, List.getElem_toArray, List.getElem_cons_zero, List.getElem_cons_succ, List.setIfInBounds_toArray, List.set_cons_zero, List.set_cons_succ]
    refine wpAnyH_ready (rs := [7]) (by kernel_rfl) (by simp) ?_
    refine AllReadyH.cons (o := _) rfl (fun K hK => ?_) AllReadyH.nil
    go_simp
    refine Calls.mono (HD.out _) ?_
    rintro e X ⟨rfl, hE2⟩
    dsimp only
    replace EX := EX.trans hE2
    clear hHeld hE2
    refine hK.out _ _ (sK EX) (fun hHeld => ?_)
    clear hK K
    try simp only [Act.put, List.getElem_toArray, List.getElem_cons_zero, List.getElem_cons_succ, List.setIfInBounds_toArray, List.set_cons_zero, List.set_cons_succ]
    refine wpAnyH_take (i := 8) (oi := _) (v := ?v8b) rfl (by kernel_rfl) (by kernel_rfl) (by kernel_rfl) (fun _ _ _ h => h) (Or.inl ⟨by rfl, ?y8b⟩) (by assumption) ?r8b
    case y8b => (intro w' hSw; (try dsimp only at hSw); go_simp; (try with_reducible rfl))
    try simp only [Act.put, List.getElem_toArray, List.getElem_cons_zero, List.getElem_cons_succ, List.setIfInBounds_toArray, List.set_cons_zero, List.set_cons_succ]
    refine wpAnyH_take (i := 9) (oi := _) (v := ?v9b) rfl (by kernel_rfl) (by kernel_rfl) (by kernel_rfl) (fun _ _ _ h => h) (Or.inl ⟨by rfl, ?y9b⟩) (by assumption) ?r9b
    case y9b => (intro w' hSw; (try dsimp only at hSw); go_simp; (try with_reducible rfl))
    try simp only [Act.put, List.getElem_toArray, List.getElem_cons_zero, List.getElem_cons_succ, List.setIfInBounds_toArray, List.set_cons_zero, List.set_cons_succ]
    refine wpAnyH_take (i := 10) (oi := _) (v := ?v10b) rfl (by kernel_rfl) (by kernel_rfl) (by kernel_rfl) (fun _ _ _ h => h) (Or.inl ⟨by rfl, ?y10b⟩) (by assumption) ?r10b
    case y10b => (intro w' hSw; (try dsimp only at hSw); go_simp; (try with_reducible rfl))
    try simp only [Act.put, List.getElem_toArray, List.getElem_cons_zero, List.getElem_cons_succ, List.setIfInBounds_toArray, List.set_cons_zero, List.set_cons_succ]
    refine wpAnyH_done (by kernel_rfl) ?_ _
    clear hHeld
    go_wp2
    exact bodyPost_ret (v := .tuple #[.int .i64 v1, .int .i64 v2, .int .i64 0]) (by simp [results, Tryz.results13, go_sem]) rfl ⟨rfl, HEZ.out.trans EX⟩
  · rw [if_neg hr, if_neg hr]
    unfold WinIs at HW
    generalize winE f seen l len = r at *
    unfold winI Lm.val at *
    obtain ⟨wi, ra, tl, th⟩ := l
    dsimp only at *
    clear h
    go_enter Tryz.func13, Tryz.ntmps13
    go_wp2_with fail
    refine Calls.mono (HW.out _ (by (repeat' (first | with_reducible assumption | with_reducible exact Ext.refl _ | with_reducible refine Ext.alloc ?_ _ | with_reducible refine Ext.set ?_ ?_ _ | with_reducible refine Ext.drew ?_ | with_reducible refine Ext.drewN ?_ _ | with_reducible refine Ext.trans ?_ (by assumption) | (dsimp only; omega))))) ?_
    rintro e w2 ⟨N, A1, n1, c1, A2, n2, c2, rfl, hOV, hE⟩
    have E2 : Ext w w2 := by (repeat' (first | with_reducible assumption | with_reducible exact Ext.refl _ | with_reducible refine Ext.alloc ?_ _ | with_reducible refine Ext.set ?_ ?_ _ | with_reducible refine Ext.drew ?_ | with_reducible refine Ext.drewN ?_ _ | with_reducible refine Ext.trans ?_ (by assumption) | (dsimp only; omega)))
    clear hOV HW hE
    have HO1 := hid (win_one N A1 n1 c1 A2 n2 c2 wi ra tl th len)
    have B2 := hid (show Blk _ _ _ _ from blk_last w2 (.cells #[.int .i64 0, .slice none 0 0, .slice none 0 0, .int .i64 0, .int .i64 0, .int .i64 0, .int .i64 0, .int .i64 0] 117))
    dsimp only
    iterate 13 (first | go_values | go_skip | go_guarded | go_step | go_upon | go_back)
    refine wpList_store_mid rfl 117 _ _ rfl w2.heap.size 0 (#[.int .i64 (N : Int), .slice A1 n1 c1, .slice A2 n2 c2, .int .i64 wi, .int .i64 ra, .int .i64 tl, .int .i64 th, .int .i64 len]) rfl rfl (blk_there B2.out rfl) infoWin HO1.out ?_
    have EZ := hid (E2.trans (ext_setCells (ext_alloc1 w2 (.cells #[.int .i64 0, .slice none 0 0, .slice none 0 0, .int .i64 0, .int .i64 0, .int .i64 0, .int .i64 0, .int .i64 0] 117)) (b := w2.heap.size) (Nat.le_refl _) [.int .i64 (N : Int), .slice A1 n1 c1, .slice A2 n2 c2, .int .i64 wi, .int .i64 ra, .int .i64 tl, .int .i64 th, .int .i64 len] 0))
    obtain ⟨Z, hZ⟩ : ∃ Z, (w2.alloc (.cells #[.int .i64 0, .slice none 0 0, .slice none 0 0, .int .i64 0, .int .i64 0, .int .i64 0, .int .i64 0, .int .i64 0] 117)).setCells w2.heap.size 0 [.int .i64 (N : Int), .slice A1 n1 c1, .slice A2 n2 c2, .int .i64 wi, .int .i64 ra, .int .i64 tl, .int .i64 th, .int .i64 len] = Z := ⟨_, rfl⟩
    rw [hZ] at EZ
    have hZ2 : (w2.alloc (.cells #[.int .i64 0, .slice none 0 0, .slice none 0 0, .int .i64 0, .int .i64 0, .int .i64 0, .int .i64 0, .int .i64 0] 117)).setCells w2.heap.size 0 (#[.int .i64 (N : Int), .slice A1 n1 c1, .slice A2 n2 c2, .int .i64 wi, .int .i64 ra, .int .i64 tl, .int .i64 th, .int .i64 len] : Array Value).toList = Z := hZ
    first | rw [hZ2] | rw [hZ]
    clear hZ hZ2 B2 HO1 E2
    go_wp2
    exact bodyPost_ret (v := .tuple #[.int .i64 0, .int .i64 0, .int .i64 r]) (by simp [results, Tryz.results13, go_sem]) rfl ⟨rfl, EZ.out⟩
end Go.Proofs.YtecamnhnjmldcaaGreatDoor
