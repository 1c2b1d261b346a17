/- Keeps. -/
import Derived.Test.YtecamnhnjmldcaaGreatDoorBTopClosed22
import Derived.Test.YtecamnhnjmldcaaGreatDoorB08
set_option linter.unusedSimpArgs false
set_option linter.unusedVariables false
namespace Go.Proofs.YtecamnhnjmldcaaGreatDoor
open Go.RowKit
def keepsE (f : List (List Hr)) (seen : List Sg) (l : Lm) : Int := begM [fcE f, sgE f seen, lmE l] seen f
def sureV (f : List (List Hr)) (seen : List Sg) (l : Lm) : List (Int × Int) := if keepsE f seen l = 0 then sureM [⟨0, 0, l⟩] (scsM seen f) (hoursN f) else []
def mayV (f : List (List Hr)) (seen : List Sg) (l : Lm) : List (Int × Int) := if keepsE f seen l = 0 then mayM [⟨0, 0, l⟩] (scsM seen f) (hoursN f) else []
def KeepsIs (f : List (List Hr)) (seen : List Sg) (l : Lm) (w : World) (e : Ending) (w' : World) : Prop :=
  ∃ A1 c1 A2 c2, e = .returned (.tuple #[.slice A1 (sureV f seen l).length c1, .slice A2 (mayV f seen l).length c2, .int .i64 (keepsE f seen l)]) ∧ OpensAt w' A1 (sureV f seen l) ∧ OpensAt w' A2 (mayV f seen l) ∧ Ext w w'
theorem keepsE_ok {f : List (List Hr)} {seen : List Sg} {l : Lm} (h : keepsE f seen l = 0) : fcB f = true ∧ sgsB (hoursN f) seen = true ∧ lmB l = true ∧ numsM seen f ≠ [] := by
  obtain ⟨h0, hn⟩ := begM_zero h
  obtain ⟨h1, h0⟩ := orM_zero h0
  obtain ⟨h2, h0⟩ := orM_zero h0
  obtain ⟨h3, _⟩ := orM_zero h0
  unfold lmE unlessM at h3
  refine ⟨fcE_ok h1, sgE_ok h2, ?_, hn⟩
  cases hb : lmB l
  · rw [hb] at h3; simp at h3
  · rfl
set_option maxHeartbeats 8000000 in
set_option maxRecDepth 100000 in
theorem keeps_any (f : List (List Hr)) (A : Option Addr) (n c : Nat) (seen : List Sg) (SA : Option Addr) (m sc : Nat) (l : Lm) (w : World) (h : FIn w f A n seen SA m) :
    Calls Tryz.prog 10 #[.agg #[.slice A n c], .slice SA m sc, l.val] w (KeepsIs f seen l w) := by
  have H := hid h
  have HC := hid (fun (W : World) (hW : Ext w W) => (h.ext hW).check c)
  have HS := hid (fun (W : World) (hW : Ext w W) => (h.ext hW).sights c sc)
  have HL := hid (fun (W : World) (hW : Ext w W) => checkLimits_any l W (h.wid.ext hW))
  have HB := hid (fun (W : World) (hW : Ext w W) (EA : Option Addr) (hi : IntsAt W EA [fcE f, sgE f seen, lmE l]) => (h.ext hW).begin c sc [fcE f, sgE f seen, lmE l] EA 3 3 rfl (by decide) (fun h0 => ⟨fcE_ok (orM_zero h0).1, sgE_ok (orM_zero (orM_zero h0).2).1⟩) hi)
  have HOK := hid (fun h0 => keepsE_ok (f := f) (seen := seen) (l := l) h0)
  have HSU := hid (fun (h0 : keepsE f seen l = 0) => show sureV f seen l = sureM [⟨0, 0, l⟩] (scsM seen f) (hoursN f) from if_pos h0)
  have HMA := hid (fun (h0 : keepsE f seen l = 0) => show mayV f seen l = mayM [⟨0, 0, l⟩] (scsM seen f) (hoursN f) from if_pos h0)
  have HSN := hid (fun (h0 : keepsE f seen l ≠ 0) => show sureV f seen l = [] from if_neg h0)
  have HMN := hid (fun (h0 : keepsE f seen l ≠ 0) => show mayV f seen l = [] from if_neg h0)
  have hz0 : Blk _ _ _ _ := blk_last w (.cells #[.slice A n c] 24)
  clear h
  unfold KeepsIs
  have hkE : keepsE f seen l = begM [fcE f, sgE f seen, lmE l] seen f := rfl
  rw [hkE] at HSU HMA HSN HMN HOK ⊢
  change Hid (∀ W, Ext w W → Calls _ _ _ _ fun e w' => e = .returned (.int .i64 (lmE l)) ∧ Ext W w') at HL
  clear hkE
  generalize fcE f = e1 at *
  generalize sgE f seen = e2 at *
  generalize lmE l = e3 at *
  generalize sureV f seen l = SV at *
  generalize mayV f seen l = MV at *
  unfold Lm.val at *
  obtain ⟨wi, ra, tl, th⟩ := l
  dsimp only at *
  go_enter Tryz.func10, Tryz.ntmps10
  go_wp2_with fail
  refine wp_abs (fun W => Blk W w.heap.size 24 #[.slice A n c] ∧ Blk W (w.heap.size + 1) 29 #[.int .i64 wi, .int .i64 ra, .int .i64 tl, .int .i64 th] ∧ Ext w W) ⟨blk_old hz0 _, ?_, by (repeat' (first | with_reducible assumption | with_reducible exact Ext.refl _ | with_reducible refine Ext.alloc ?_ _ | with_reducible refine Ext.set ?_ ?_ _ | with_reducible refine Ext.drew ?_ | with_reducible refine Ext.drewN ?_ _ | with_reducible refine Ext.trans ?_ (by assumption) | (dsimp only; omega)))⟩ ?_
  · have := blk_last (w.alloc (.cells #[.slice A n c] 24)) (.cells #[.int .i64 wi, .int .i64 ra, .int .i64 tl, .int .i64 th] 29)
    rw [World.size_alloc] at this
    exact this
  rintro W ⟨b1, b2, HE⟩
  have B2 := hid b2
  have B1 := hid b1
  have d0 := b1.cell 0
  have z1 := b1.lt
  have f0 := b2.cell 0
  have f1 := b2.cell 1
  have f2 := b2.cell 2
  have f3 := b2.cell 3
  have z2 := b2.lt
  simp only [List.getElem?_toArray, List.getElem?_cons_zero, List.getElem?_cons_succ] at d0 f0 f1 f2 f3
  clear b1 b2 hz0
  refine region_rest (fun QQ => ∀ (ob : Nat) (Y : World) (N : Nat) (A1 : Option Addr) (n1 c1 : Nat) (A2 : Option Addr) (n2 c2 : Nat) (u16 : Value), Ext W Y → W.heap.size ≤ ob → Hid (Blk Y ob 100 #[.int .i64 N, .slice A1 n1 c1, .slice A2 n2 c2]) → OutV f seen (begM [e1, e2, e3] seen f) w.heap.size Y N (.slice A1 n1 c1) (.slice A2 n2 c2) →
      QQ .normal { tmps := #[.agg #[.slice A n c], .slice SA m sc, .agg #[.int .i64 wi, .int .i64 ra, .int .i64 tl, .int .i64 th], .pointer (some ⟨w.heap.size, 0, none⟩), undef, .pointer (some ⟨w.heap.size + 1, 0, none⟩), .slice none 0 0, .slice none 0 0, .int .i64 (begM [e1, e2, e3] seen f), .pointer (some ⟨ob, 0, none⟩), undef,
        .tuple #[.agg #[.int .i64 N, .slice A1 n1 c1, .slice A2 n2 c2], .int .i64 (begM [e1, e2, e3] seen f)], .agg #[.slice A n c], .slice SA m sc, .agg #[.slice A n c], .int .i64 e1, .agg #[.slice A n c], .slice SA m sc, .int .i64 e2, .agg #[.int .i64 wi, .int .i64 ra, .int .i64 tl, .int .i64 th], .int .i64 e3, u16,
        .tuple #[.agg #[.int .i64 N, .slice A1 n1 c1, .slice A2 n2 c2], .int .i64 (begM [e1, e2, e3] seen f)], .agg #[.int .i64 N, .slice A1 n1 c1, .slice A2 n2 c2], .int .i64 (begM [e1, e2, e3] seen f), undef, undef, undef, undef, undef, undef, undef, undef, undef, undef, undef, undef], defers := [] } Y) ?rest (fun REST => ?_)
  case rest =>
    intro ob Y N A1 n1 c1 A2 n2 c2 u16 hEW hob HOB hOV
    have HOV := hid hOV
    have hEY := HE.trans hEW
    have o0 := HOB.out.cell 0
    have o1 := HOB.out.cell 1
    have o2 := HOB.out.cell 2
    have oz := HOB.out.lt
    have C2 := hid (show Blk _ _ _ _ from B2.out.ext hEW)
    have g0 := C2.out.cell 0
    have g1 := C2.out.cell 1
    have g2 := C2.out.cell 2
    have g3 := C2.out.cell 3
    have gz := C2.out.lt
    simp only [List.getElem?_toArray, List.getElem?_cons_zero, List.getElem?_cons_succ] at o0 o1 o2 g0 g1 g2 g3
    clear hOV HC HS HL HB B1 B2 d0 f0 f1 f2 f3 z1 z2 hEW hob C2
    by_cases hr : begM [e1, e2, e3] seen f = 0
    · have ok := HOK.out hr
      obtain ⟨rfl, hO1, hO2⟩ := HOV.out.1 hr
      obtain ⟨A3, c3, e4, -, hsc, -⟩ := hO2.form
      injection e4 with e4 e5 e6
      subst e4 e5 e6
      have hN := H.out.hours
      have hlen := scsM_le seen f
      have hn1 := H.out.hn
      have hn2 := H.out.hm
      have HRI := hid (fun (X : World) (hX : Ext Y X) (RA : Option Addr) (hru : RlsAt X RA [⟨0, 0, ⟨wi, ra, tl, th⟩⟩]) => (show RIn X (hoursN f) A2 (scsM seen f).length (scsM seen f) [⟨0, 0, ⟨wi, ra, tl, th⟩⟩] RA 1 from
        ⟨hN, rfl, by omega, scsM_all ok.1, rfl, by decide, (by intro r hr; simp at hr; subst hr; simp), hsc.ext hX, hru, (H.out.wid.ext hEY).ext hX⟩))
      have HSU2 := hid (fun (X : World) (hX : Ext Y X) (RA : Option Addr) (hru : RlsAt X RA [⟨0, 0, ⟨wi, ra, tl, th⟩⟩]) => surely2_any (hoursN f) A1 n1 c1 A2 (scsM seen f).length c2 (scsM seen f) [⟨0, 0, ⟨wi, ra, tl, th⟩⟩] RA 1 1 X (HRI.out X hX RA hru))
      have HMA2 := hid (fun (X : World) (hX : Ext Y X) (RA : Option Addr) (hru : RlsAt X RA [⟨0, 0, ⟨wi, ra, tl, th⟩⟩]) => maybe2_any (hoursN f) A1 n1 c1 A2 (scsM seen f).length c2 (scsM seen f) [⟨0, 0, ⟨wi, ra, tl, th⟩⟩] RA 1 1 X (HRI.out X hX RA hru))
      rw [← HSU.out hr] at HSU2
      rw [← HMA.out hr] at HMA2
      unfold regCells at HSU2 HMA2
      have HRE := hid hr
      rw [hr]
      clear hr
      clear HSU HMA HSN HMN HOK HOV HRI hO1 hO2 hsc H ok hlen hn1 hn2
      generalize hoursN f = N at *
      generalize (scsM seen f).length = n2 at *
      go_wp2_with fail
      refine wp_abs (fun X => Blk X Y.heap.size 79 #[.int .i64 0, .int .i64 0, .int .i64 wi, .int .i64 ra, .int .i64 tl, .int .i64 th] ∧ Blk X (Y.heap.size + 1) 106 #[.int .i64 (N : Int), .slice A1 n1 c1, .slice A2 n2 c2, .slice (some ⟨Y.heap.size, 0, none⟩) 1 1] ∧ Ext Y X) ⟨blk_old (blk_last _ _) _, ?_, by (repeat' (first | with_reducible assumption | with_reducible exact Ext.refl _ | with_reducible refine Ext.alloc ?_ _ | with_reducible refine Ext.set ?_ ?_ _ | with_reducible refine Ext.drew ?_ | with_reducible refine Ext.drewN ?_ _ | with_reducible refine Ext.trans ?_ (by assumption) | (dsimp only; omega)))⟩ ?_
      · have := blk_last (Y.alloc (.cells #[.int .i64 0, .int .i64 0, .int .i64 wi, .int .i64 ra, .int .i64 tl, .int .i64 th] 79)) (.cells #[.int .i64 (N : Int), .slice A1 n1 c1, .slice A2 n2 c2, .slice (some ⟨Y.heap.size, 0, none⟩) 1 1] 106)
        rw [World.size_alloc] at this
        exact this
      rintro U ⟨u1, u2, EU⟩
      have HRU := hid (fun (X : World) (hX : Ext U X) => (show RlsAt X (some ⟨Y.heap.size, 0, none⟩) [⟨0, 0, ⟨wi, ra, tl, th⟩⟩] from fun _ => ⟨Y.heap.size, 0, rfl, (u1.ext hX).lt, fun k hk => by
        obtain rfl : k = 0 := by simp at hk; exact hk
        have v1 := u1.ext hX
        exact ⟨v1.cell 0, v1.cell 1, v1.cell 2, v1.cell 3, v1.cell 4, v1.cell 5⟩⟩))
      obtain ⟨x0, x1, x2, x3⟩ : _ ∧ _ ∧ _ ∧ _ := ⟨u2.cell 0, u2.cell 1, u2.cell 2, u2.cell 3⟩
      have xz := u2.lt
      simp only [List.getElem?_toArray, List.getElem?_cons_zero, List.getElem?_cons_succ] at x0 x1 x2 x3
      clear u1 u2 HOB o0 o1 o2 g0 g1 g2 g3 oz gz
      have HSC := hid (fun (X : World) (hX : Ext U X) => HSU2.out X (EU.trans hX) _ (HRU.out X hX))
      have HMC := hid (fun (X : World) (hX : Ext U X) => HMA2.out X (EU.trans hX) _ (HRU.out X hX))
      have HEU := hid (hEY.trans EU)
      clear HSU2 HMA2 HRU
      refine wp_region_held_drew (S := fun w' => (∀ b o, b < U.heap.size → w'.cell? ⟨b, o, none⟩ = U.cell? ⟨b, o, none⟩) ∧ U.heap.size ≤ w'.heap.size ∧ Ext U w') (by kernel_rfl) ?hS0 (fun hHeld => ?_)
      case hS0 => exact sK (Ext.drew (Ext.refl _))
      have X0 : Ext U U.drew := Ext.drew (Ext.refl U)
      have EX := X0
      obtain ⟨X, hX⟩ : ∃ X, U.drew = X := ⟨_, rfl⟩
      rw [hX] at EX hHeld ⊢
      clear hX X0
      refine wpAnyH_take (i := 0) (oi := _) (v := ?v0ka) rfl (by kernel_rfl) (by kernel_rfl) (by kernel_rfl) (fun _ _ _ h => h) (Or.inl ⟨by rfl, ?y0ka⟩) (by assumption) ?r0ka
      case y0ka => (intro w' hSw; (try dsimp only at hSw); go_simp; (try with_reducible rfl))
      try simp only [Act.put, List.getElem_toArray, List.getElem_cons_zero, List.getElem_cons_succ, List.setIfInBounds_toArray, List.set_cons_zero, List.set_cons_succ]
      refine wpAnyH_take (i := 2) (oi := _) (v := ?v2ka) rfl (by kernel_rfl) (by kernel_rfl) (by kernel_rfl) (fun _ _ _ h => h) (Or.inl ⟨by rfl, ?y2ka⟩) (by assumption) ?r2ka
      case y2ka => (intro w' hSw; (try dsimp only at hSw); go_simp; (try with_reducible rfl))
      try simp only [Act.put, List.getElem_toArray, List.getElem_cons_zero, List.getElem_cons_succ, List.setIfInBounds_toArray, List.set_cons_zero, List.set_cons_succ]
      refine wpAnyH_ready (rs := [1]) (by kernel_rfl) (by simp) ?_
      refine AllReadyH.cons (o := _) rfl (fun K hK => ?_) AllReadyH.nil
      go_simp
      refine Calls.mono (HSC.out _ EX) ?_
      rintro e X1 ⟨A5, c5, rfl, o1, hE1⟩
      dsimp only
      replace EX := EX.trans hE1
      obtain ⟨A6, c6, e6, -, hf1, -⟩ := (o1.form (by decide) (fun _ => rfl) (0, 0))
      injection e6 with e6 e7 e8
      subst e6 e8
      have HG1 := hid (flat_spans.1 hf1)
      clear hHeld hE1 o1 hf1 e7
      refine hK.out _ _ (sK EX) (fun hHeld => ?_)
      clear hK K
      try simp only [Act.put, List.getElem_toArray, List.getElem_cons_zero, List.getElem_cons_succ, List.setIfInBounds_toArray, List.set_cons_zero, List.set_cons_succ]
      refine wpAnyH_ready (rs := [3]) (by kernel_rfl) (by simp) ?_
      refine AllReadyH.cons (o := _) rfl (fun K hK => ?_) AllReadyH.nil
      go_simp
      refine Calls.mono (HMC.out _ EX) ?_
      rintro e X2 ⟨A7, c7, rfl, o2, hE2⟩
      dsimp only
      replace EX := EX.trans hE2
      replace HG1 := hid (HG1.out.ext hE2)
      obtain ⟨A8, c8, e6, -, hf2, -⟩ := (o2.form (by decide) (fun _ => rfl) (0, 0))
      injection e6 with e6 e7 e8
      subst e6 e8
      have HG2 := hid (flat_spans.1 hf2)
      clear hHeld hE2 o2 hf2 e7
      refine hK.out _ _ (sK EX) (fun hHeld => ?_)
      clear hK K
      try simp only [Act.put, List.getElem_toArray, List.getElem_cons_zero, List.getElem_cons_succ, List.setIfInBounds_toArray, List.set_cons_zero, List.set_cons_succ]
      refine wpAnyH_take (i := 4) (oi := _) (v := ?v4kb) rfl (by kernel_rfl) (by kernel_rfl) (by kernel_rfl) (fun _ _ _ h => h) (Or.inl ⟨by rfl, ?y4kb⟩) (by assumption) ?r4kb
      case y4kb => (intro w' hSw; (try dsimp only at hSw); go_simp; (try with_reducible rfl))
      try simp only [Act.put, List.getElem_toArray, List.getElem_cons_zero, List.getElem_cons_succ, List.setIfInBounds_toArray, List.set_cons_zero, List.set_cons_succ]
      refine wpAnyH_take (i := 5) (oi := _) (v := ?v5kb) rfl (by kernel_rfl) (by kernel_rfl) (by kernel_rfl) (fun _ _ _ h => h) (Or.inl ⟨by rfl, ?y5kb⟩) (by assumption) ?r5kb
      case y5kb => (intro w' hSw; (try dsimp only at hSw); go_simp; (try with_reducible rfl))
      try simp only [Act.put, List.getElem_toArray, List.getElem_cons_zero, List.getElem_cons_succ, List.setIfInBounds_toArray, List.set_cons_zero, List.set_cons_succ]
      refine wpAnyH_take (i := 6) (oi := _) (v := ?v6kb) rfl (by kernel_rfl) (by kernel_rfl) (by kernel_rfl) (fun _ _ _ h => h) (Or.inl ⟨by rfl, ?y6kb⟩) (by assumption) ?r6kb
      case y6kb => (intro w' hSw; (try dsimp only at hSw); go_simp; (try with_reducible rfl))
      try simp only [Act.put, List.getElem_toArray, List.getElem_cons_zero, List.getElem_cons_succ, List.setIfInBounds_toArray, List.set_cons_zero, List.set_cons_succ]
      refine wpAnyH_done (by kernel_rfl) ?_ _
      have GE := hid (HEU.out.trans EX)
      clear hHeld HSC HMC EX HEU
      go_wp2
      exact bodyPost_ret (v := .tuple #[.slice A5 SV.length c5, .slice A7 MV.length c7, .int .i64 0]) (by simp [results, Tryz.results10, go_sem]) rfl ⟨A5, c5, A7, c7, by rw [HRE.out], HG1.out, HG2.out, GE.out⟩
    · have hs1 := HSN.out hr
      have hs2 := HMN.out hr
      subst hs1 hs2
      have HRE := hid (show ∃ r, begM [e1, e2, e3] seen f = r from ⟨_, rfl⟩)
      obtain ⟨r, hre⟩ := HRE.out
      rw [hre] at hr ⊢
      have HRE2 := hid hre
      have hrb : (r != 0) = true := by simp [hr]
      clear HSU HMA HSN HMN HOK HOV hr H hre HRE
      go_wp2
      exact bodyPost_ret (v := .tuple #[.slice none 0 0, .slice none 0 0, .int .i64 r]) (by simp [results, Tryz.results10, go_sem]) rfl ⟨none, 0, none, 0, by rw [HRE2.out]; rfl, fun h => absurd rfl h, fun h => absurd rfl h, hEY⟩
  refine wp_region_held_drew (S := fun w' => (∀ b o, b < W.heap.size → w'.cell? ⟨b, o, none⟩ = W.cell? ⟨b, o, none⟩) ∧ W.heap.size ≤ w'.heap.size ∧ Ext W w') (by kernel_rfl) ?hS0 (fun hHeld => ?_)
  case hS0 => exact sK (Ext.drew (Ext.refl _))
  have X0 : Ext W W.drew := Ext.drew (Ext.refl W)
  have EX := X0
  obtain ⟨X, hX⟩ : ∃ X, W.drew = X := ⟨_, rfl⟩
  rw [hX] at EX hHeld ⊢
  clear hX X0
  refine wpAnyH_take (i := 0) (oi := _) (v := ?v0a) rfl (by kernel_rfl) (by kernel_rfl) (by kernel_rfl) (fun _ _ _ h => h) (Or.inl ⟨by rfl, ?y0a⟩) (by assumption) ?r0a
  case y0a => (intro w' hSw; (try dsimp only at hSw); go_simp; (try with_reducible rfl))
  try simp only [Act.put, List.getElem_toArray, List.getElem_cons_zero, List.getElem_cons_succ, List.setIfInBounds_toArray, List.set_cons_zero, List.set_cons_succ]
  refine wpAnyH_take (i := 1) (oi := _) (v := ?v1a) rfl (by kernel_rfl) (by kernel_rfl) (by kernel_rfl) (fun _ _ _ h => h) (Or.inl ⟨by rfl, ?y1a⟩) (by assumption) ?r1a
  case y1a => (intro w' hSw; (try dsimp only at hSw); go_simp; (try with_reducible rfl))
  try simp only [Act.put, List.getElem_toArray, List.getElem_cons_zero, List.getElem_cons_succ, List.setIfInBounds_toArray, List.set_cons_zero, List.set_cons_succ]
  refine wpAnyH_take (i := 2) (oi := _) (v := ?v2a) rfl (by kernel_rfl) (by kernel_rfl) (by kernel_rfl) (fun _ _ _ h => h) (Or.inl ⟨by rfl, ?y2a⟩) (by assumption) ?r2a
  case y2a => (intro w' hSw; (try dsimp only at hSw); go_simp; (try with_reducible rfl))
  try simp only [Act.put, List.getElem_toArray, List.getElem_cons_zero, List.getElem_cons_succ, List.setIfInBounds_toArray, List.set_cons_zero, List.set_cons_succ]
  refine wpAnyH_take (i := 4) (oi := _) (v := ?v4a) rfl (by kernel_rfl) (by kernel_rfl) (by kernel_rfl) (fun _ _ _ h => h) (Or.inl ⟨by rfl, ?y4a⟩) (by assumption) ?r4a
  case y4a => (intro w' hSw; (try dsimp only at hSw); go_simp; (try with_reducible rfl))
  try simp only [Act.put, List.getElem_toArray, List.getElem_cons_zero, List.getElem_cons_succ, List.setIfInBounds_toArray, List.set_cons_zero, List.set_cons_succ]
  refine wpAnyH_take (i := 5) (oi := _) (v := ?v5a) rfl (by kernel_rfl) (by kernel_rfl) (by kernel_rfl) (fun _ _ _ h => h) (Or.inl ⟨by rfl, ?y5a⟩) (by assumption) ?r5a
  case y5a => (intro w' hSw; (try dsimp only at hSw); go_simp; (try with_reducible rfl))
  try simp only [Act.put, List.getElem_toArray, List.getElem_cons_zero, List.getElem_cons_succ, List.setIfInBounds_toArray, List.set_cons_zero, List.set_cons_succ]
  refine wpAnyH_take (i := 7) (oi := _) (v := ?v7a) rfl (by kernel_rfl) (by kernel_rfl) (by kernel_rfl) (fun _ _ _ h => h) (Or.inl ⟨by rfl, ?y7a⟩) (by assumption) ?r7a
  case y7a => (intro w' hSw; (try dsimp only at hSw); go_simp; (try with_reducible rfl))
  try simp only [Act.put, List.getElem_toArray, List.getElem_cons_zero, List.getElem_cons_succ, List.setIfInBounds_toArray, List.set_cons_zero, List.set_cons_succ]
  refine wpAnyH_ready (rs := [3, 14]) (by kernel_rfl) (by simp) ?_
  refine AllReadyH.cons (o := _) rfl (fun K hK => ?_) (AllReadyH.cons (o := _) rfl (fun K hK => ?_) AllReadyH.nil)
  · go_simp
    refine Calls.mono (HC.out _ (HE.trans EX)) ?_
    rintro e X ⟨rfl, hEX⟩
    dsimp only
    replace EX := EX.trans hEX
    (try replace OB := hid (OB.out.ext hEX))
    (try replace IS := hid (IS.out.ext hEX))
    clear hHeld hEX
    refine hK.out _ _ (sK EX) (fun hHeld => ?_)
    clear hK K
    try simp only [Act.put, List.getElem_toArray, List.getElem_cons_zero, List.getElem_cons_succ, List.setIfInBounds_toArray, List.set_cons_zero, List.set_cons_succ]
    refine wpAnyH_ready (rs := [6, 14]) (by kernel_rfl) (by simp) ?_
    refine AllReadyH.cons (o := _) rfl (fun K hK => ?_) (AllReadyH.cons (o := _) rfl (fun K hK => ?_) AllReadyH.nil)
    · go_simp
      refine Calls.mono (HS.out _ (HE.trans EX)) ?_
      rintro e X ⟨rfl, hEX⟩
      dsimp only
      replace EX := EX.trans hEX
      (try replace OB := hid (OB.out.ext hEX))
      (try replace IS := hid (IS.out.ext hEX))
      clear hHeld hEX
      refine hK.out _ _ (sK EX) (fun hHeld => ?_)
      clear hK K
      try simp only [Act.put, List.getElem_toArray, List.getElem_cons_zero, List.getElem_cons_succ, List.setIfInBounds_toArray, List.set_cons_zero, List.set_cons_succ]
      refine wpAnyH_ready (rs := [8, 14]) (by kernel_rfl) (by simp) ?_
      refine AllReadyH.cons (o := _) rfl (fun K hK => ?_) (AllReadyH.cons (o := _) rfl (fun K hK => ?_) AllReadyH.nil)
      · go_simp
        refine Calls.mono (HL.out _ (HE.trans EX)) ?_
        rintro e X ⟨rfl, hEX⟩
        dsimp only
        replace EX := EX.trans hEX
        (try replace OB := hid (OB.out.ext hEX))
        (try replace IS := hid (IS.out.ext hEX))
        clear hHeld hEX
        refine hK.out _ _ (sK EX) (fun hHeld => ?_)
        clear hK K
        try simp only [Act.put, List.getElem_toArray, List.getElem_cons_zero, List.getElem_cons_succ, List.setIfInBounds_toArray, List.set_cons_zero, List.set_cons_succ]
        refine wpAnyH_ready (rs := [9, 14]) (by kernel_rfl) (by simp) ?_
        refine AllReadyH.cons (o := _) rfl (fun K hK => ?_) (AllReadyH.cons (o := _) rfl (fun K hK => ?_) AllReadyH.nil)
        · go_simp
          obtain ⟨Y, hY⟩ := absW EX (.cells #[.int .i64 e1, .int .i64 e2, .int .i64 e3] 36)
          have IS := hid (intsNew EX [e1, e2, e3] #[.int .i64 e1, .int .i64 e2, .int .i64 e3] rfl)
          (try replace OB := hid (OB.out.alloc (.cells #[.int .i64 e1, .int .i64 e2, .int .i64 e3] 36)))
          replace EX := EX.alloc (.cells #[.int .i64 e1, .int .i64 e2, .int .i64 e3] 36)
          rw [hY] at EX IS ⊢
          (try rw [hY] at OB)
          clear hHeld hY
          refine hK.out _ _ (sK EX) (fun hHeld => ?_)
          clear hK K
          try simp only [Act.put, List.getElem_toArray, List.getElem_cons_zero, List.getElem_cons_succ, List.setIfInBounds_toArray, List.set_cons_zero, List.set_cons_succ]
          refine wpAnyH_ready (rs := [10, 14]) (by kernel_rfl) (by simp) ?_
          refine AllReadyH.cons (o := _) rfl (fun K hK => ?_) (AllReadyH.cons (o := _) rfl (fun K hK => ?_) AllReadyH.nil)
          · go_simp
            refine Calls.mono (HB.out _ (HE.trans EX) _ IS.out) ?_
            rintro e X ⟨N, A1, n1, c1, A2, n2, c2, rfl, hOV, hEX⟩
            dsimp only
            have OV := hid (show OutV f seen _ w.heap.size _ N _ _ from hOV.low (HE.trans EX).size)
            replace EX := EX.trans hEX
            (try replace OB := hid (OB.out.ext hEX))
            clear hHeld hEX hOV IS
            refine hK.out _ _ (sK EX) (fun hHeld => ?_)
            clear hK K
            try simp only [Act.put, List.getElem_toArray, List.getElem_cons_zero, List.getElem_cons_succ, List.setIfInBounds_toArray, List.set_cons_zero, List.set_cons_succ]
            refine wpAnyH_take (i := 11) (oi := _) (v := ?v11m5) rfl (by kernel_rfl) (by kernel_rfl) (by kernel_rfl) (fun _ _ _ h => h) (Or.inl ⟨by rfl, ?y11m5⟩) (by assumption) ?r11m5
            case y11m5 => (intro w' hSw; (try dsimp only at hSw); go_simp; (try with_reducible rfl))
            try simp only [Act.put, List.getElem_toArray, List.getElem_cons_zero, List.getElem_cons_succ, List.setIfInBounds_toArray, List.set_cons_zero, List.set_cons_succ]
            refine wpAnyH_take (i := 12) (oi := _) (v := ?v12m5) rfl (by kernel_rfl) (by kernel_rfl) (by kernel_rfl) (fun _ _ _ h => h) (Or.inl ⟨by rfl, ?y12m5⟩) (by assumption) ?r12m5
            case y12m5 => (intro w' hSw; (try dsimp only at hSw); go_simp; (try with_reducible rfl))
            try simp only [Act.put, List.getElem_toArray, List.getElem_cons_zero, List.getElem_cons_succ, List.setIfInBounds_toArray, List.set_cons_zero, List.set_cons_succ]
            refine wpAnyH_take (i := 13) (oi := _) (v := ?v13m5) rfl (by kernel_rfl) (by kernel_rfl) (by kernel_rfl) (fun _ _ _ h => h) (Or.inl ⟨by rfl, ?y13m5⟩) (by assumption) ?r13m5
            case y13m5 => (intro w' hSw; (try dsimp only at hSw); go_simp; (try with_reducible rfl))
            try simp only [Act.put, List.getElem_toArray, List.getElem_cons_zero, List.getElem_cons_succ, List.setIfInBounds_toArray, List.set_cons_zero, List.set_cons_succ]
            refine wpAnyH_ready (rs := [14]) (by kernel_rfl) (by simp) ?_
            refine AllReadyH.cons (o := _) rfl (fun K hK => ?_) AllReadyH.nil
            go_simp
            obtain ⟨Y, hY⟩ := absW EX (.cells #[.int .i64 0, .slice none 0 0, .slice none 0 0] 100)
            have OB := hid (blkNew EX 100 #[.int .i64 0, .slice none 0 0, .slice none 0 0])
            have LOB := EX.size
            replace EX := EX.alloc (.cells #[.int .i64 0, .slice none 0 0, .slice none 0 0] 100)
            (try replace IS := hid (IS.out.ext (ext_alloc1 _ (.cells #[.int .i64 0, .slice none 0 0, .slice none 0 0] 100))))
            (try replace OV := hid (OV.out.ext (ext_alloc1 _ (.cells #[.int .i64 0, .slice none 0 0, .slice none 0 0] 100))))
            rw [hY] at EX OB ⊢
            (try rw [hY] at IS)
            (try rw [hY] at OV)
            clear hHeld hY
            refine hK.out _ _ (sK EX) (fun hHeld => ?_)
            clear hK K
            try simp only [Act.put, List.getElem_toArray, List.getElem_cons_zero, List.getElem_cons_succ, List.setIfInBounds_toArray, List.set_cons_zero, List.set_cons_succ]
            refine wpAnyH_ready (rs := [15]) (by kernel_rfl) (by simp) ?_
            refine AllReadyH.cons (o := _) rfl (fun K hK => ?_) AllReadyH.nil
            refine wp_store_mid 100 _ _ rfl _ 0 #[.int .i64 (N : Int), .slice A1 n1 c1, .slice A2 n2 c2] rfl rfl (blk_there OB.out rfl) infoOut (out_one N A1 n1 c1 A2 n2 c2) ?_
            have OB2 := hid (Blk.fill3 OB.out (.int .i64 (N : Int)) (.slice A1 n1 c1) (.slice A2 n2 c2))
            have EX2 := ext_setCells EX LOB [.int .i64 (N : Int), .slice A1 n1 c1, .slice A2 n2 c2] 0
            have OV2 := hid (OV.out.apart (grown_setCells [.int .i64 (N : Int), .slice A1 n1 c1, .slice A2 n2 c2] 0) (Apart.blk OB.out (by decide)) (Apart.blk OB.out (by decide)) (Apart.blk OB.out (by decide)))
            clear hHeld
            refine hK.out _ _ (sK EX2) (fun hHeld => ?_)
            clear hK K
            try simp only [Act.put, List.getElem_toArray, List.getElem_cons_zero, List.getElem_cons_succ, List.setIfInBounds_toArray, List.set_cons_zero, List.set_cons_succ]
            refine wpAnyH_take (i := 16) (oi := _) (v := ?v16et6) rfl (by kernel_rfl) (by kernel_rfl) (by kernel_rfl) (fun _ _ _ h => h) (Or.inl ⟨by rfl, ?y16et6⟩) (by assumption) ?r16et6
            case y16et6 => (intro w' hSw; (try dsimp only at hSw); go_simp; (try with_reducible rfl))
            try simp only [Act.put, List.getElem_toArray, List.getElem_cons_zero, List.getElem_cons_succ, List.setIfInBounds_toArray, List.set_cons_zero, List.set_cons_succ]
            refine wpAnyH_done (by kernel_rfl) ?_ _
            exact REST _ _ N A1 n1 c1 A2 n2 c2 _ EX2 LOB OB2 OV2.out
          · go_simp
            obtain ⟨Y, hY⟩ := absW EX (.cells #[.int .i64 0, .slice none 0 0, .slice none 0 0] 100)
            have OB := hid (blkNew EX 100 #[.int .i64 0, .slice none 0 0, .slice none 0 0])
            have LOB := EX.size
            replace EX := EX.alloc (.cells #[.int .i64 0, .slice none 0 0, .slice none 0 0] 100)
            (try replace IS := hid (IS.out.ext (ext_alloc1 _ (.cells #[.int .i64 0, .slice none 0 0, .slice none 0 0] 100))))
            (try replace OV := hid (OV.out.ext (ext_alloc1 _ (.cells #[.int .i64 0, .slice none 0 0, .slice none 0 0] 100))))
            rw [hY] at EX OB ⊢
            (try rw [hY] at IS)
            (try rw [hY] at OV)
            clear hHeld hY
            refine hK.out _ _ (sK EX) (fun hHeld => ?_)
            clear hK K
            try simp only [Act.put, List.getElem_toArray, List.getElem_cons_zero, List.getElem_cons_succ, List.setIfInBounds_toArray, List.set_cons_zero, List.set_cons_succ]
            refine wpAnyH_ready (rs := [10]) (by kernel_rfl) (by simp) ?_
            refine AllReadyH.cons (o := _) rfl (fun K hK => ?_) AllReadyH.nil
            go_simp
            refine Calls.mono (HB.out _ (HE.trans EX) _ IS.out) ?_
            rintro e X ⟨N, A1, n1, c1, A2, n2, c2, rfl, hOV, hEX⟩
            dsimp only
            have OV := hid (show OutV f seen _ w.heap.size _ N _ _ from hOV.low (HE.trans EX).size)
            replace EX := EX.trans hEX
            (try replace OB := hid (OB.out.ext hEX))
            clear hHeld hEX hOV IS
            refine hK.out _ _ (sK EX) (fun hHeld => ?_)
            clear hK K
            try simp only [Act.put, List.getElem_toArray, List.getElem_cons_zero, List.getElem_cons_succ, List.setIfInBounds_toArray, List.set_cons_zero, List.set_cons_succ]
            refine wpAnyH_take (i := 11) (oi := _) (v := ?v11a7) rfl (by kernel_rfl) (by kernel_rfl) (by kernel_rfl) (fun _ _ _ h => h) (Or.inl ⟨by rfl, ?y11a7⟩) (by assumption) ?r11a7
            case y11a7 => (intro w' hSw; (try dsimp only at hSw); go_simp; (try with_reducible rfl))
            try simp only [Act.put, List.getElem_toArray, List.getElem_cons_zero, List.getElem_cons_succ, List.setIfInBounds_toArray, List.set_cons_zero, List.set_cons_succ]
            refine wpAnyH_take (i := 12) (oi := _) (v := ?v12a7) rfl (by kernel_rfl) (by kernel_rfl) (by kernel_rfl) (fun _ _ _ h => h) (Or.inl ⟨by rfl, ?y12a7⟩) (by assumption) ?r12a7
            case y12a7 => (intro w' hSw; (try dsimp only at hSw); go_simp; (try with_reducible rfl))
            try simp only [Act.put, List.getElem_toArray, List.getElem_cons_zero, List.getElem_cons_succ, List.setIfInBounds_toArray, List.set_cons_zero, List.set_cons_succ]
            refine wpAnyH_take (i := 13) (oi := _) (v := ?v13a7) rfl (by kernel_rfl) (by kernel_rfl) (by kernel_rfl) (fun _ _ _ h => h) (Or.inl ⟨by rfl, ?y13a7⟩) (by assumption) ?r13a7
            case y13a7 => (intro w' hSw; (try dsimp only at hSw); go_simp; (try with_reducible rfl))
            try simp only [Act.put, List.getElem_toArray, List.getElem_cons_zero, List.getElem_cons_succ, List.setIfInBounds_toArray, List.set_cons_zero, List.set_cons_succ]
            refine wpAnyH_ready (rs := [15]) (by kernel_rfl) (by simp) ?_
            refine AllReadyH.cons (o := _) rfl (fun K hK => ?_) AllReadyH.nil
            refine wp_store_mid 100 _ _ rfl _ 0 #[.int .i64 (N : Int), .slice A1 n1 c1, .slice A2 n2 c2] rfl rfl (blk_there OB.out rfl) infoOut (out_one N A1 n1 c1 A2 n2 c2) ?_
            have OB2 := hid (Blk.fill3 OB.out (.int .i64 (N : Int)) (.slice A1 n1 c1) (.slice A2 n2 c2))
            have EX2 := ext_setCells EX LOB [.int .i64 (N : Int), .slice A1 n1 c1, .slice A2 n2 c2] 0
            have OV2 := hid (OV.out.apart (grown_setCells [.int .i64 (N : Int), .slice A1 n1 c1, .slice A2 n2 c2] 0) (Apart.blk OB.out (by decide)) (Apart.blk OB.out (by decide)) (Apart.blk OB.out (by decide)))
            clear hHeld
            refine hK.out _ _ (sK EX2) (fun hHeld => ?_)
            clear hK K
            try simp only [Act.put, List.getElem_toArray, List.getElem_cons_zero, List.getElem_cons_succ, List.setIfInBounds_toArray, List.set_cons_zero, List.set_cons_succ]
            refine wpAnyH_take (i := 16) (oi := _) (v := ?v16ea7) rfl (by kernel_rfl) (by kernel_rfl) (by kernel_rfl) (fun _ _ _ h => h) (Or.inl ⟨by rfl, ?y16ea7⟩) (by assumption) ?r16ea7
            case y16ea7 => (intro w' hSw; (try dsimp only at hSw); go_simp; (try with_reducible rfl))
            try simp only [Act.put, List.getElem_toArray, List.getElem_cons_zero, List.getElem_cons_succ, List.setIfInBounds_toArray, List.set_cons_zero, List.set_cons_succ]
            refine wpAnyH_done (by kernel_rfl) ?_ _
            exact REST _ _ N A1 n1 c1 A2 n2 c2 _ EX2 LOB OB2 OV2.out
        · go_simp
          obtain ⟨Y, hY⟩ := absW EX (.cells #[.int .i64 0, .slice none 0 0, .slice none 0 0] 100)
          have OB := hid (blkNew EX 100 #[.int .i64 0, .slice none 0 0, .slice none 0 0])
          have LOB := EX.size
          replace EX := EX.alloc (.cells #[.int .i64 0, .slice none 0 0, .slice none 0 0] 100)
          (try replace IS := hid (IS.out.ext (ext_alloc1 _ (.cells #[.int .i64 0, .slice none 0 0, .slice none 0 0] 100))))
          (try replace OV := hid (OV.out.ext (ext_alloc1 _ (.cells #[.int .i64 0, .slice none 0 0, .slice none 0 0] 100))))
          rw [hY] at EX OB ⊢
          (try rw [hY] at IS)
          (try rw [hY] at OV)
          clear hHeld hY
          refine hK.out _ _ (sK EX) (fun hHeld => ?_)
          clear hK K
          try simp only [Act.put, List.getElem_toArray, List.getElem_cons_zero, List.getElem_cons_succ, List.setIfInBounds_toArray, List.set_cons_zero, List.set_cons_succ]
          refine wpAnyH_ready (rs := [9]) (by kernel_rfl) (by simp) ?_
          refine AllReadyH.cons (o := _) rfl (fun K hK => ?_) AllReadyH.nil
          go_simp
          obtain ⟨Y, hY⟩ := absW EX (.cells #[.int .i64 e1, .int .i64 e2, .int .i64 e3] 36)
          have IS := hid (intsNew EX [e1, e2, e3] #[.int .i64 e1, .int .i64 e2, .int .i64 e3] rfl)
          (try replace OB := hid (OB.out.alloc (.cells #[.int .i64 e1, .int .i64 e2, .int .i64 e3] 36)))
          replace EX := EX.alloc (.cells #[.int .i64 e1, .int .i64 e2, .int .i64 e3] 36)
          rw [hY] at EX IS ⊢
          (try rw [hY] at OB)
          clear hHeld hY
          refine hK.out _ _ (sK EX) (fun hHeld => ?_)
          clear hK K
          try simp only [Act.put, List.getElem_toArray, List.getElem_cons_zero, List.getElem_cons_succ, List.setIfInBounds_toArray, List.set_cons_zero, List.set_cons_succ]
          refine wpAnyH_ready (rs := [10]) (by kernel_rfl) (by simp) ?_
          refine AllReadyH.cons (o := _) rfl (fun K hK => ?_) AllReadyH.nil
          go_simp
          refine Calls.mono (HB.out _ (HE.trans EX) _ IS.out) ?_
          rintro e X ⟨N, A1, n1, c1, A2, n2, c2, rfl, hOV, hEX⟩
          dsimp only
          have OV := hid (show OutV f seen _ w.heap.size _ N _ _ from hOV.low (HE.trans EX).size)
          replace EX := EX.trans hEX
          (try replace OB := hid (OB.out.ext hEX))
          clear hHeld hEX hOV IS
          refine hK.out _ _ (sK EX) (fun hHeld => ?_)
          clear hK K
          try simp only [Act.put, List.getElem_toArray, List.getElem_cons_zero, List.getElem_cons_succ, List.setIfInBounds_toArray, List.set_cons_zero, List.set_cons_succ]
          refine wpAnyH_take (i := 11) (oi := _) (v := ?v11a8) rfl (by kernel_rfl) (by kernel_rfl) (by kernel_rfl) (fun _ _ _ h => h) (Or.inl ⟨by rfl, ?y11a8⟩) (by assumption) ?r11a8
          case y11a8 => (intro w' hSw; (try dsimp only at hSw); go_simp; (try with_reducible rfl))
          try simp only [Act.put, List.getElem_toArray, List.getElem_cons_zero, List.getElem_cons_succ, List.setIfInBounds_toArray, List.set_cons_zero, List.set_cons_succ]
          refine wpAnyH_take (i := 12) (oi := _) (v := ?v12a8) rfl (by kernel_rfl) (by kernel_rfl) (by kernel_rfl) (fun _ _ _ h => h) (Or.inl ⟨by rfl, ?y12a8⟩) (by assumption) ?r12a8
          case y12a8 => (intro w' hSw; (try dsimp only at hSw); go_simp; (try with_reducible rfl))
          try simp only [Act.put, List.getElem_toArray, List.getElem_cons_zero, List.getElem_cons_succ, List.setIfInBounds_toArray, List.set_cons_zero, List.set_cons_succ]
          refine wpAnyH_take (i := 13) (oi := _) (v := ?v13a8) rfl (by kernel_rfl) (by kernel_rfl) (by kernel_rfl) (fun _ _ _ h => h) (Or.inl ⟨by rfl, ?y13a8⟩) (by assumption) ?r13a8
          case y13a8 => (intro w' hSw; (try dsimp only at hSw); go_simp; (try with_reducible rfl))
          try simp only [Act.put, List.getElem_toArray, List.getElem_cons_zero, List.getElem_cons_succ, List.setIfInBounds_toArray, List.set_cons_zero, List.set_cons_succ]
          refine wpAnyH_ready (rs := [15]) (by kernel_rfl) (by simp) ?_
          refine AllReadyH.cons (o := _) rfl (fun K hK => ?_) AllReadyH.nil
          refine wp_store_mid 100 _ _ rfl _ 0 #[.int .i64 (N : Int), .slice A1 n1 c1, .slice A2 n2 c2] rfl rfl (blk_there OB.out rfl) infoOut (out_one N A1 n1 c1 A2 n2 c2) ?_
          have OB2 := hid (Blk.fill3 OB.out (.int .i64 (N : Int)) (.slice A1 n1 c1) (.slice A2 n2 c2))
          have EX2 := ext_setCells EX LOB [.int .i64 (N : Int), .slice A1 n1 c1, .slice A2 n2 c2] 0
          have OV2 := hid (OV.out.apart (grown_setCells [.int .i64 (N : Int), .slice A1 n1 c1, .slice A2 n2 c2] 0) (Apart.blk OB.out (by decide)) (Apart.blk OB.out (by decide)) (Apart.blk OB.out (by decide)))
          clear hHeld
          refine hK.out _ _ (sK EX2) (fun hHeld => ?_)
          clear hK K
          try simp only [Act.put, List.getElem_toArray, List.getElem_cons_zero, List.getElem_cons_succ, List.setIfInBounds_toArray, List.set_cons_zero, List.set_cons_succ]
          refine wpAnyH_take (i := 16) (oi := _) (v := ?v16ea8) rfl (by kernel_rfl) (by kernel_rfl) (by kernel_rfl) (fun _ _ _ h => h) (Or.inl ⟨by rfl, ?y16ea8⟩) (by assumption) ?r16ea8
          case y16ea8 => (intro w' hSw; (try dsimp only at hSw); go_simp; (try with_reducible rfl))
          try simp only [Act.put, List.getElem_toArray, List.getElem_cons_zero, List.getElem_cons_succ, List.setIfInBounds_toArray, List.set_cons_zero, List.set_cons_succ]
          refine wpAnyH_done (by kernel_rfl) ?_ _
          exact REST _ _ N A1 n1 c1 A2 n2 c2 _ EX2 LOB OB2 OV2.out
      · go_simp
        obtain ⟨Y, hY⟩ := absW EX (.cells #[.int .i64 0, .slice none 0 0, .slice none 0 0] 100)
        have OB := hid (blkNew EX 100 #[.int .i64 0, .slice none 0 0, .slice none 0 0])
        have LOB := EX.size
        replace EX := EX.alloc (.cells #[.int .i64 0, .slice none 0 0, .slice none 0 0] 100)
        (try replace IS := hid (IS.out.ext (ext_alloc1 _ (.cells #[.int .i64 0, .slice none 0 0, .slice none 0 0] 100))))
        (try replace OV := hid (OV.out.ext (ext_alloc1 _ (.cells #[.int .i64 0, .slice none 0 0, .slice none 0 0] 100))))
        rw [hY] at EX OB ⊢
        (try rw [hY] at IS)
        (try rw [hY] at OV)
        clear hHeld hY
        refine hK.out _ _ (sK EX) (fun hHeld => ?_)
        clear hK K
        try simp only [Act.put, List.getElem_toArray, List.getElem_cons_zero, List.getElem_cons_succ, List.setIfInBounds_toArray, List.set_cons_zero, List.set_cons_succ]
        refine wpAnyH_ready (rs := [8]) (by kernel_rfl) (by simp) ?_
        refine AllReadyH.cons (o := _) rfl (fun K hK => ?_) AllReadyH.nil
        go_simp
        refine Calls.mono (HL.out _ (HE.trans EX)) ?_
        rintro e X ⟨rfl, hEX⟩
        dsimp only
        replace EX := EX.trans hEX
        (try replace OB := hid (OB.out.ext hEX))
        (try replace IS := hid (IS.out.ext hEX))
        clear hHeld hEX
        refine hK.out _ _ (sK EX) (fun hHeld => ?_)
        clear hK K
        try simp only [Act.put, List.getElem_toArray, List.getElem_cons_zero, List.getElem_cons_succ, List.setIfInBounds_toArray, List.set_cons_zero, List.set_cons_succ]
        refine wpAnyH_ready (rs := [9]) (by kernel_rfl) (by simp) ?_
        refine AllReadyH.cons (o := _) rfl (fun K hK => ?_) AllReadyH.nil
        go_simp
        obtain ⟨Y, hY⟩ := absW EX (.cells #[.int .i64 e1, .int .i64 e2, .int .i64 e3] 36)
        have IS := hid (intsNew EX [e1, e2, e3] #[.int .i64 e1, .int .i64 e2, .int .i64 e3] rfl)
        (try replace OB := hid (OB.out.alloc (.cells #[.int .i64 e1, .int .i64 e2, .int .i64 e3] 36)))
        replace EX := EX.alloc (.cells #[.int .i64 e1, .int .i64 e2, .int .i64 e3] 36)
        rw [hY] at EX IS ⊢
        (try rw [hY] at OB)
        clear hHeld hY
        refine hK.out _ _ (sK EX) (fun hHeld => ?_)
        clear hK K
        try simp only [Act.put, List.getElem_toArray, List.getElem_cons_zero, List.getElem_cons_succ, List.setIfInBounds_toArray, List.set_cons_zero, List.set_cons_succ]
        refine wpAnyH_ready (rs := [10]) (by kernel_rfl) (by simp) ?_
        refine AllReadyH.cons (o := _) rfl (fun K hK => ?_) AllReadyH.nil
        go_simp
        refine Calls.mono (HB.out _ (HE.trans EX) _ IS.out) ?_
        rintro e X ⟨N, A1, n1, c1, A2, n2, c2, rfl, hOV, hEX⟩
        dsimp only
        have OV := hid (show OutV f seen _ w.heap.size _ N _ _ from hOV.low (HE.trans EX).size)
        replace EX := EX.trans hEX
        (try replace OB := hid (OB.out.ext hEX))
        clear hHeld hEX hOV IS
        refine hK.out _ _ (sK EX) (fun hHeld => ?_)
        clear hK K
        try simp only [Act.put, List.getElem_toArray, List.getElem_cons_zero, List.getElem_cons_succ, List.setIfInBounds_toArray, List.set_cons_zero, List.set_cons_succ]
        refine wpAnyH_take (i := 11) (oi := _) (v := ?v11a9) rfl (by kernel_rfl) (by kernel_rfl) (by kernel_rfl) (fun _ _ _ h => h) (Or.inl ⟨by rfl, ?y11a9⟩) (by assumption) ?r11a9
        case y11a9 => (intro w' hSw; (try dsimp only at hSw); go_simp; (try with_reducible rfl))
        try simp only [Act.put, List.getElem_toArray, List.getElem_cons_zero, List.getElem_cons_succ, List.setIfInBounds_toArray, List.set_cons_zero, List.set_cons_succ]
        refine wpAnyH_take (i := 12) (oi := _) (v := ?v12a9) rfl (by kernel_rfl) (by kernel_rfl) (by kernel_rfl) (fun _ _ _ h => h) (Or.inl ⟨by rfl, ?y12a9⟩) (by assumption) ?r12a9
        case y12a9 => (intro w' hSw; (try dsimp only at hSw); go_simp; (try with_reducible rfl))
        try simp only [Act.put, List.getElem_toArray, List.getElem_cons_zero, List.getElem_cons_succ, List.setIfInBounds_toArray, List.set_cons_zero, List.set_cons_succ]
        refine wpAnyH_take (i := 13) (oi := _) (v := ?v13a9) rfl (by kernel_rfl) (by kernel_rfl) (by kernel_rfl) (fun _ _ _ h => h) (Or.inl ⟨by rfl, ?y13a9⟩) (by assumption) ?r13a9
        case y13a9 => (intro w' hSw; (try dsimp only at hSw); go_simp; (try with_reducible rfl))
        try simp only [Act.put, List.getElem_toArray, List.getElem_cons_zero, List.getElem_cons_succ, List.setIfInBounds_toArray, List.set_cons_zero, List.set_cons_succ]
        refine wpAnyH_ready (rs := [15]) (by kernel_rfl) (by simp) ?_
        refine AllReadyH.cons (o := _) rfl (fun K hK => ?_) AllReadyH.nil
        refine wp_store_mid 100 _ _ rfl _ 0 #[.int .i64 (N : Int), .slice A1 n1 c1, .slice A2 n2 c2] rfl rfl (blk_there OB.out rfl) infoOut (out_one N A1 n1 c1 A2 n2 c2) ?_
        have OB2 := hid (Blk.fill3 OB.out (.int .i64 (N : Int)) (.slice A1 n1 c1) (.slice A2 n2 c2))
        have EX2 := ext_setCells EX LOB [.int .i64 (N : Int), .slice A1 n1 c1, .slice A2 n2 c2] 0
        have OV2 := hid (OV.out.apart (grown_setCells [.int .i64 (N : Int), .slice A1 n1 c1, .slice A2 n2 c2] 0) (Apart.blk OB.out (by decide)) (Apart.blk OB.out (by decide)) (Apart.blk OB.out (by decide)))
        clear hHeld
        refine hK.out _ _ (sK EX2) (fun hHeld => ?_)
        clear hK K
        try simp only [Act.put, List.getElem_toArray, List.getElem_cons_zero, List.getElem_cons_succ, List.setIfInBounds_toArray, List.set_cons_zero, List.set_cons_succ]
        refine wpAnyH_take (i := 16) (oi := _) (v := ?v16ea9) rfl (by kernel_rfl) (by kernel_rfl) (by kernel_rfl) (fun _ _ _ h => h) (Or.inl ⟨by rfl, ?y16ea9⟩) (by assumption) ?r16ea9
        case y16ea9 => (intro w' hSw; (try dsimp only at hSw); go_simp; (try with_reducible rfl))
        try simp only [Act.put, List.getElem_toArray, List.getElem_cons_zero, List.getElem_cons_succ, List.setIfInBounds_toArray, List.set_cons_zero, List.set_cons_succ]
        refine wpAnyH_done (by kernel_rfl) ?_ _
        exact REST _ _ N A1 n1 c1 A2 n2 c2 _ EX2 LOB OB2 OV2.out
    · go_simp
      obtain ⟨Y, hY⟩ := absW EX (.cells #[.int .i64 0, .slice none 0 0, .slice none 0 0] 100)
      have OB := hid (blkNew EX 100 #[.int .i64 0, .slice none 0 0, .slice none 0 0])
      have LOB := EX.size
      replace EX := EX.alloc (.cells #[.int .i64 0, .slice none 0 0, .slice none 0 0] 100)
      (try replace IS := hid (IS.out.ext (ext_alloc1 _ (.cells #[.int .i64 0, .slice none 0 0, .slice none 0 0] 100))))
      (try replace OV := hid (OV.out.ext (ext_alloc1 _ (.cells #[.int .i64 0, .slice none 0 0, .slice none 0 0] 100))))
      rw [hY] at EX OB ⊢
      (try rw [hY] at IS)
      (try rw [hY] at OV)
      clear hHeld hY
      refine hK.out _ _ (sK EX) (fun hHeld => ?_)
      clear hK K
      try simp only [Act.put, List.getElem_toArray, List.getElem_cons_zero, List.getElem_cons_succ, List.setIfInBounds_toArray, List.set_cons_zero, List.set_cons_succ]
      refine wpAnyH_ready (rs := [6]) (by kernel_rfl) (by simp) ?_
      refine AllReadyH.cons (o := _) rfl (fun K hK => ?_) AllReadyH.nil
      go_simp
      refine Calls.mono (HS.out _ (HE.trans EX)) ?_
      rintro e X ⟨rfl, hEX⟩
      dsimp only
      replace EX := EX.trans hEX
      (try replace OB := hid (OB.out.ext hEX))
      (try replace IS := hid (IS.out.ext hEX))
      clear hHeld hEX
      refine hK.out _ _ (sK EX) (fun hHeld => ?_)
      clear hK K
      try simp only [Act.put, List.getElem_toArray, List.getElem_cons_zero, List.getElem_cons_succ, List.setIfInBounds_toArray, List.set_cons_zero, List.set_cons_succ]
      refine wpAnyH_ready (rs := [8]) (by kernel_rfl) (by simp) ?_
      refine AllReadyH.cons (o := _) rfl (fun K hK => ?_) AllReadyH.nil
      go_simp
      refine Calls.mono (HL.out _ (HE.trans EX)) ?_
      rintro e X ⟨rfl, hEX⟩
      dsimp only
      replace EX := EX.trans hEX
      (try replace OB := hid (OB.out.ext hEX))
      (try replace IS := hid (IS.out.ext hEX))
      clear hHeld hEX
      refine hK.out _ _ (sK EX) (fun hHeld => ?_)
      clear hK K
      try simp only [Act.put, List.getElem_toArray, List.getElem_cons_zero, List.getElem_cons_succ, List.setIfInBounds_toArray, List.set_cons_zero, List.set_cons_succ]
      refine wpAnyH_ready (rs := [9]) (by kernel_rfl) (by simp) ?_
      refine AllReadyH.cons (o := _) rfl (fun K hK => ?_) AllReadyH.nil
      go_simp
      obtain ⟨Y, hY⟩ := absW EX (.cells #[.int .i64 e1, .int .i64 e2, .int .i64 e3] 36)
      have IS := hid (intsNew EX [e1, e2, e3] #[.int .i64 e1, .int .i64 e2, .int .i64 e3] rfl)
      (try replace OB := hid (OB.out.alloc (.cells #[.int .i64 e1, .int .i64 e2, .int .i64 e3] 36)))
      replace EX := EX.alloc (.cells #[.int .i64 e1, .int .i64 e2, .int .i64 e3] 36)
      rw [hY] at EX IS ⊢
      (try rw [hY] at OB)
      clear hHeld hY
      refine hK.out _ _ (sK EX) (fun hHeld => ?_)
      clear hK K
      try simp only [Act.put, List.getElem_toArray, List.getElem_cons_zero, List.getElem_cons_succ, List.setIfInBounds_toArray, List.set_cons_zero, List.set_cons_succ]
      refine wpAnyH_ready (rs := [10]) (by kernel_rfl) (by simp) ?_
      refine AllReadyH.cons (o := _) rfl (fun K hK => ?_) AllReadyH.nil
      go_simp
      refine Calls.mono (HB.out _ (HE.trans EX) _ IS.out) ?_
      rintro e X ⟨N, A1, n1, c1, A2, n2, c2, rfl, hOV, hEX⟩
      dsimp only
      have OV := hid (show OutV f seen _ w.heap.size _ N _ _ from hOV.low (HE.trans EX).size)
      replace EX := EX.trans hEX
      (try replace OB := hid (OB.out.ext hEX))
      clear hHeld hEX hOV IS
      refine hK.out _ _ (sK EX) (fun hHeld => ?_)
      clear hK K
      try simp only [Act.put, List.getElem_toArray, List.getElem_cons_zero, List.getElem_cons_succ, List.setIfInBounds_toArray, List.set_cons_zero, List.set_cons_succ]
      refine wpAnyH_take (i := 11) (oi := _) (v := ?v11a10) rfl (by kernel_rfl) (by kernel_rfl) (by kernel_rfl) (fun _ _ _ h => h) (Or.inl ⟨by rfl, ?y11a10⟩) (by assumption) ?r11a10
      case y11a10 => (intro w' hSw; (try dsimp only at hSw); go_simp; (try with_reducible rfl))
      try simp only [Act.put, List.getElem_toArray, List.getElem_cons_zero, List.getElem_cons_succ, List.setIfInBounds_toArray, List.set_cons_zero, List.set_cons_succ]
      refine wpAnyH_take (i := 12) (oi := _) (v := ?v12a10) rfl (by kernel_rfl) (by kernel_rfl) (by kernel_rfl) (fun _ _ _ h => h) (Or.inl ⟨by rfl, ?y12a10⟩) (by assumption) ?r12a10
      case y12a10 => (intro w' hSw; (try dsimp only at hSw); go_simp; (try with_reducible rfl))
      try simp only [Act.put, List.getElem_toArray, List.getElem_cons_zero, List.getElem_cons_succ, List.setIfInBounds_toArray, List.set_cons_zero, List.set_cons_succ]
      refine wpAnyH_take (i := 13) (oi := _) (v := ?v13a10) rfl (by kernel_rfl) (by kernel_rfl) (by kernel_rfl) (fun _ _ _ h => h) (Or.inl ⟨by rfl, ?y13a10⟩) (by assumption) ?r13a10
      case y13a10 => (intro w' hSw; (try dsimp only at hSw); go_simp; (try with_reducible rfl))
      try simp only [Act.put, List.getElem_toArray, List.getElem_cons_zero, List.getElem_cons_succ, List.setIfInBounds_toArray, List.set_cons_zero, List.set_cons_succ]
      refine wpAnyH_ready (rs := [15]) (by kernel_rfl) (by simp) ?_
      refine AllReadyH.cons (o := _) rfl (fun K hK => ?_) AllReadyH.nil
      refine wp_store_mid 100 _ _ rfl _ 0 #[.int .i64 (N : Int), .slice A1 n1 c1, .slice A2 n2 c2] rfl rfl (blk_there OB.out rfl) infoOut (out_one N A1 n1 c1 A2 n2 c2) ?_
      have OB2 := hid (Blk.fill3 OB.out (.int .i64 (N : Int)) (.slice A1 n1 c1) (.slice A2 n2 c2))
      have EX2 := ext_setCells EX LOB [.int .i64 (N : Int), .slice A1 n1 c1, .slice A2 n2 c2] 0
      have OV2 := hid (OV.out.apart (grown_setCells [.int .i64 (N : Int), .slice A1 n1 c1, .slice A2 n2 c2] 0) (Apart.blk OB.out (by decide)) (Apart.blk OB.out (by decide)) (Apart.blk OB.out (by decide)))
      clear hHeld
      refine hK.out _ _ (sK EX2) (fun hHeld => ?_)
      clear hK K
      try simp only [Act.put, List.getElem_toArray, List.getElem_cons_zero, List.getElem_cons_succ, List.setIfInBounds_toArray, List.set_cons_zero, List.set_cons_succ]
      refine wpAnyH_take (i := 16) (oi := _) (v := ?v16ea10) rfl (by kernel_rfl) (by kernel_rfl) (by kernel_rfl) (fun _ _ _ h => h) (Or.inl ⟨by rfl, ?y16ea10⟩) (by assumption) ?r16ea10
      case y16ea10 => (intro w' hSw; (try dsimp only at hSw); go_simp; (try with_reducible rfl))
      try simp only [Act.put, List.getElem_toArray, List.getElem_cons_zero, List.getElem_cons_succ, List.setIfInBounds_toArray, List.set_cons_zero, List.set_cons_succ]
      refine wpAnyH_done (by kernel_rfl) ?_ _
      exact REST _ _ N A1 n1 c1 A2 n2 c2 _ EX2 LOB OB2 OV2.out
  · go_simp
    obtain ⟨Y, hY⟩ := absW EX (.cells #[.int .i64 0, .slice none 0 0, .slice none 0 0] 100)
    have OB := hid (blkNew EX 100 #[.int .i64 0, .slice none 0 0, .slice none 0 0])
    have LOB := EX.size
    replace EX := EX.alloc (.cells #[.int .i64 0, .slice none 0 0, .slice none 0 0] 100)
    (try replace IS := hid (IS.out.ext (ext_alloc1 _ (.cells #[.int .i64 0, .slice none 0 0, .slice none 0 0] 100))))
    (try replace OV := hid (OV.out.ext (ext_alloc1 _ (.cells #[.int .i64 0, .slice none 0 0, .slice none 0 0] 100))))
    rw [hY] at EX OB ⊢
    (try rw [hY] at IS)
    (try rw [hY] at OV)
    clear hHeld hY
    refine hK.out _ _ (sK EX) (fun hHeld => ?_)
    clear hK K
    try simp only [Act.put, List.getElem_toArray, List.getElem_cons_zero, List.getElem_cons_succ, List.setIfInBounds_toArray, List.set_cons_zero, List.set_cons_succ]
    refine wpAnyH_ready (rs := [3]) (by kernel_rfl) (by simp) ?_
    refine AllReadyH.cons (o := _) rfl (fun K hK => ?_) AllReadyH.nil
    go_simp
    refine Calls.mono (HC.out _ (HE.trans EX)) ?_
    rintro e X ⟨rfl, hEX⟩
    dsimp only
    replace EX := EX.trans hEX
    (try replace OB := hid (OB.out.ext hEX))
    (try replace IS := hid (IS.out.ext hEX))
    clear hHeld hEX
    refine hK.out _ _ (sK EX) (fun hHeld => ?_)
    clear hK K
    try simp only [Act.put, List.getElem_toArray, List.getElem_cons_zero, List.getElem_cons_succ, List.setIfInBounds_toArray, List.set_cons_zero, List.set_cons_succ]
    refine wpAnyH_ready (rs := [6]) (by kernel_rfl) (by simp) ?_
    refine AllReadyH.cons (o := _) rfl (fun K hK => ?_) AllReadyH.nil
    go_simp
    refine Calls.mono (HS.out _ (HE.trans EX)) ?_
    rintro e X ⟨rfl, hEX⟩
    dsimp only
    replace EX := EX.trans hEX
    (try replace OB := hid (OB.out.ext hEX))
    (try replace IS := hid (IS.out.ext hEX))
    clear hHeld hEX
    refine hK.out _ _ (sK EX) (fun hHeld => ?_)
    clear hK K
    try simp only [Act.put, List.getElem_toArray, List.getElem_cons_zero, List.getElem_cons_succ, List.setIfInBounds_toArray, List.set_cons_zero, List.set_cons_succ]
    refine wpAnyH_ready (rs := [8]) (by kernel_rfl) (by simp) ?_
    refine AllReadyH.cons (o := _) rfl (fun K hK => ?_) AllReadyH.nil
    go_simp
    refine Calls.mono (HL.out _ (HE.trans EX)) ?_
    rintro e X ⟨rfl, hEX⟩
    dsimp only
    replace EX := EX.trans hEX
    (try replace OB := hid (OB.out.ext hEX))
    (try replace IS := hid (IS.out.ext hEX))
    clear hHeld hEX
    refine hK.out _ _ (sK EX) (fun hHeld => ?_)
    clear hK K
    try simp only [Act.put, List.getElem_toArray, List.getElem_cons_zero, List.getElem_cons_succ, List.setIfInBounds_toArray, List.set_cons_zero, List.set_cons_succ]
    refine wpAnyH_ready (rs := [9]) (by kernel_rfl) (by simp) ?_
    refine AllReadyH.cons (o := _) rfl (fun K hK => ?_) AllReadyH.nil
    go_simp
    obtain ⟨Y, hY⟩ := absW EX (.cells #[.int .i64 e1, .int .i64 e2, .int .i64 e3] 36)
    have IS := hid (intsNew EX [e1, e2, e3] #[.int .i64 e1, .int .i64 e2, .int .i64 e3] rfl)
    (try replace OB := hid (OB.out.alloc (.cells #[.int .i64 e1, .int .i64 e2, .int .i64 e3] 36)))
    replace EX := EX.alloc (.cells #[.int .i64 e1, .int .i64 e2, .int .i64 e3] 36)
    rw [hY] at EX IS ⊢
    (try rw [hY] at OB)
    clear hHeld hY
    refine hK.out _ _ (sK EX) (fun hHeld => ?_)
    clear hK K
    try simp only [Act.put, List.getElem_toArray, List.getElem_cons_zero, List.getElem_cons_succ, List.setIfInBounds_toArray, List.set_cons_zero, List.set_cons_succ]
    refine wpAnyH_ready (rs := [10]) (by kernel_rfl) (by simp) ?_
    refine AllReadyH.cons (o := _) rfl (fun K hK => ?_) AllReadyH.nil
    go_simp
    refine Calls.mono (HB.out _ (HE.trans EX) _ IS.out) ?_
    rintro e X ⟨N, A1, n1, c1, A2, n2, c2, rfl, hOV, hEX⟩
    dsimp only
    have OV := hid (show OutV f seen _ w.heap.size _ N _ _ from hOV.low (HE.trans EX).size)
    replace EX := EX.trans hEX
    (try replace OB := hid (OB.out.ext hEX))
    clear hHeld hEX hOV IS
    refine hK.out _ _ (sK EX) (fun hHeld => ?_)
    clear hK K
    try simp only [Act.put, List.getElem_toArray, List.getElem_cons_zero, List.getElem_cons_succ, List.setIfInBounds_toArray, List.set_cons_zero, List.set_cons_succ]
    refine wpAnyH_take (i := 11) (oi := _) (v := ?v11a11) rfl (by kernel_rfl) (by kernel_rfl) (by kernel_rfl) (fun _ _ _ h => h) (Or.inl ⟨by rfl, ?y11a11⟩) (by assumption) ?r11a11
    case y11a11 => (intro w' hSw; (try dsimp only at hSw); go_simp; (try with_reducible rfl))
    try simp only [Act.put, List.getElem_toArray, List.getElem_cons_zero, List.getElem_cons_succ, List.setIfInBounds_toArray, List.set_cons_zero, List.set_cons_succ]
    refine wpAnyH_take (i := 12) (oi := _) (v := ?v12a11) rfl (by kernel_rfl) (by kernel_rfl) (by kernel_rfl) (fun _ _ _ h => h) (Or.inl ⟨by rfl, ?y12a11⟩) (by assumption) ?r12a11
    case y12a11 => (intro w' hSw; (try dsimp only at hSw); go_simp; (try with_reducible rfl))
    try simp only [Act.put, List.getElem_toArray, List.getElem_cons_zero, List.getElem_cons_succ, List.setIfInBounds_toArray, List.set_cons_zero, List.set_cons_succ]
    refine wpAnyH_take (i := 13) (oi := _) (v := ?v13a11) rfl (by kernel_rfl) (by kernel_rfl) (by kernel_rfl) (fun _ _ _ h => h) (Or.inl ⟨by rfl, ?y13a11⟩) (by assumption) ?r13a11
    case y13a11 => (intro w' hSw; (try dsimp only at hSw); go_simp; (try with_reducible rfl))
    try simp only [Act.put, List.getElem_toArray, List.getElem_cons_zero, List.getElem_cons_succ, List.setIfInBounds_toArray, List.set_cons_zero, List.set_cons_succ]
    refine wpAnyH_ready (rs := [15]) (by kernel_rfl) (by simp) ?_
    refine AllReadyH.cons (o := _) rfl (fun K hK => ?_) AllReadyH.nil
    refine wp_store_mid 100 _ _ rfl _ 0 #[.int .i64 (N : Int), .slice A1 n1 c1, .slice A2 n2 c2] rfl rfl (blk_there OB.out rfl) infoOut (out_one N A1 n1 c1 A2 n2 c2) ?_
    have OB2 := hid (Blk.fill3 OB.out (.int .i64 (N : Int)) (.slice A1 n1 c1) (.slice A2 n2 c2))
    have EX2 := ext_setCells EX LOB [.int .i64 (N : Int), .slice A1 n1 c1, .slice A2 n2 c2] 0
    have OV2 := hid (OV.out.apart (grown_setCells [.int .i64 (N : Int), .slice A1 n1 c1, .slice A2 n2 c2] 0) (Apart.blk OB.out (by decide)) (Apart.blk OB.out (by decide)) (Apart.blk OB.out (by decide)))
    clear hHeld
    refine hK.out _ _ (sK EX2) (fun hHeld => ?_)
    clear hK K
    try simp only [Act.put, List.getElem_toArray, List.getElem_cons_zero, List.getElem_cons_succ, List.setIfInBounds_toArray, List.set_cons_zero, List.set_cons_succ]
    refine wpAnyH_take (i := 16) (oi := _) (v := ?v16ea11) rfl (by kernel_rfl) (by kernel_rfl) (by kernel_rfl) (fun _ _ _ h => h) (Or.inl ⟨by rfl, ?y16ea11⟩) (by assumption) ?r16ea11
    case y16ea11 => (intro w' hSw; (try dsimp only at hSw); go_simp; (try with_reducible rfl))
    try simp only [Act.put, List.getElem_toArray, List.getElem_cons_zero, List.getElem_cons_succ, List.setIfInBounds_toArray, List.set_cons_zero, List.set_cons_succ]
    refine wpAnyH_done (by kernel_rfl) ?_ _
    exact REST _ _ N A1 n1 c1 A2 n2 c2 _ EX2 LOB OB2 OV2.out
end Go.Proofs.YtecamnhnjmldcaaGreatDoor
