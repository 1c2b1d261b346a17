/- Open. -/
import Derived.Test.YtecamnhnjmldcaaGreatDoorB18
import Derived.Test.YtecamnhnjmldcaaGreatDoorBTopOpens31
set_option linter.unusedSimpArgs false
set_option linter.unusedVariables false
namespace Go.Proofs.YtecamnhnjmldcaaGreatDoor
open Go.RowKit
def paE (n : Nat) (path : Int) : Int := unlessM (inI path 0 ((n : Int) - 1)) 1
def opnE (f : List (List Hr)) (seen : List Sg) (m : Int) (ps : List Pt) (rs : List Rl) (path : Int) : Int := begM [fcE f, netE m ps, sgE f seen, ruE ps.length rs, paE ps.length path] seen f
def opnS (f : List (List Hr)) (seen : List Sg) (m : Int) (ps : List Pt) (rs : List Rl) (path : Int) : List (Int × Int) := if opnE f seen m ps rs path = 0 then sureM (forP rs path) (scsM seen f) (hoursN f) else []
def opnM (f : List (List Hr)) (seen : List Sg) (m : Int) (ps : List Pt) (rs : List Rl) (path : Int) : List (Int × Int) := if opnE f seen m ps rs path = 0 then mayM (forP rs path) (scsM seen f) (hoursN f) else []
def OpenIs (f : List (List Hr)) (seen : List Sg) (m : Int) (ps : List Pt) (rs : List Rl) (path : Int) (w : World) (e : Ending) (w' : World) : Prop :=
  ∃ A1 c1 A2 c2, e = .returned (.tuple #[.slice A1 (opnS f seen m ps rs path).length c1, .slice A2 (opnM f seen m ps rs path).length c2, .int .i64 (opnE f seen m ps rs path)]) ∧ OpensAt w' A1 (opnS f seen m ps rs path) ∧ OpensAt w' A2 (opnM f seen m ps rs path) ∧ Ext w w'
theorem opnE_ok {f : List (List Hr)} {seen : List Sg} {m : Int} {ps : List Pt} {rs : List Rl} {path : Int} (h : opnE f seen m ps rs path = 0) : SafOk f seen m ps rs ∧ inI path 0 ((ps.length : Int) - 1) = true := by
  obtain ⟨h0, hn⟩ := begM_zero h
  obtain ⟨h1, h0⟩ := orM_zero h0
  obtain ⟨h2, h0⟩ := orM_zero h0
  obtain ⟨h3, h0⟩ := orM_zero h0
  obtain ⟨h4, h0⟩ := orM_zero h0
  obtain ⟨h5, _⟩ := orM_zero h0
  refine ⟨safE_ok ?_, ?_⟩
  · unfold safE begM
    rw [h1, h2, h3, h4, if_pos (show orM [0, 0, 0, 0] = 0 from rfl), if_neg hn]
  · unfold paE unlessM at h5
    cases hb : inI path 0 ((ps.length : Int) - 1)
    · rw [hb] at h5; simp at h5
    · rfl
set_option maxHeartbeats 16000000 in
set_option maxRecDepth 100000 in
theorem open_any (f : List (List Hr)) (A : Option Addr) (n c : Nat) (seen : List Sg) (SA : Option Addr) (sm sc : Nat) (m : Int) (ps : List Pt) (NA : Option Addr) (nn nc : Nat) (hpn : ps.length = nn) (hpm : nn ≤ 1000) (rs : List Rl) (RA : Option Addr) (rn rc : Nat) (hrn : rs.length = rn) (hrm : rn ≤ 1000)
    (path : Int) (w : World) (h : FIn w f A n seen SA sm) (hp : PathsAt w NA ps) (hr : RlsAt w RA rs) :
    Calls Tryz.prog 19 #[.agg #[.int .i64 m, .slice NA nn nc], .slice RA rn rc, .agg #[.slice A n c], .slice SA sm sc, .int .i64 path] w (OpenIs f seen m ps rs path w) := by
  have HC := hid (fun (W : World) (hW : Ext w W) => (h.ext hW).check c)
  have HS := hid (fun (W : World) (hW : Ext w W) => (h.ext hW).sights c sc)
  have HP := hid (fun (W : World) (hW : Ext w W) => pCheck_any m NA nn nc ps hpn W (hp.ext hW))
  have HR := hid (fun (W : World) (hW : Ext w W) => checkRules_any m NA nn nc hpm rs RA rn rc hrn hrm W (h.wid.ext hW) (hr.ext hW))
  have HIP := hid (fun (W : World) (_ : Ext w W) => vIsPath_any path m NA nn nc hpm W)
  have HAR := hid (fun (W : World) => vArg_any (inI path 0 ((nn : Int) - 1)) W)
  have HB := hid (fun (W : World) (hW : Ext w W) (EA : Option Addr) (hi : IntsAt W EA [fcE f, netE m ps, sgE f seen, ruE ps.length rs, paE ps.length path]) => (h.ext hW).begin c sc [fcE f, netE m ps, sgE f seen, ruE ps.length rs, paE ps.length path] EA 5 5 rfl (by decide) (fun h0 => ⟨fcE_ok (orM_zero h0).1, sgE_ok (orM_zero (orM_zero (orM_zero h0).2).2).1⟩) hi)
  have HOK := hid (fun h0 => opnE_ok (f := f) (seen := seen) (m := m) (ps := ps) (rs := rs) (path := path) h0)
  have HSU := hid (fun (h0 : opnE f seen m ps rs path = 0) => show opnS f seen m ps rs path = sureM (forP rs path) (scsM seen f) (hoursN f) from if_pos h0)
  have HMA := hid (fun (h0 : opnE f seen m ps rs path = 0) => show opnM f seen m ps rs path = mayM (forP rs path) (scsM seen f) (hoursN f) from if_pos h0)
  have HSN := hid (fun (h0 : opnE f seen m ps rs path ≠ 0) => show opnS f seen m ps rs path = [] from if_neg h0)
  have HMN := hid (fun (h0 : opnE f seen m ps rs path ≠ 0) => show opnM f seen m ps rs path = [] from if_neg h0)
  change Hid (∀ W, Ext w W → Calls _ _ _ _ fun e w' => e = .returned (.int .i64 (ruE nn rs)) ∧ Ext W w') at HR
  change Hid (∀ W, Calls _ _ _ W fun e w' => e = .returned (.int .i64 (paE nn path)) ∧ w' = W) at HAR
  have hkE : opnE f seen m ps rs path = begM [fcE f, netE m ps, sgE f seen, ruE ps.length rs, paE ps.length path] seen f := rfl
  have H := hid h
  have HRA := hid hr
  have HRN := hid hrn
  have hz0 : Blk _ _ _ _ := blk_last w (.cells #[.int .i64 m, .slice NA nn nc] 47)
  unfold OpenIs
  rw [hkE] at HSU HMA HSN HMN HOK ⊢
  clear h hp hr hrn hkE
  rw [hpn] at HB HSU HMA HSN HMN HOK ⊢
  generalize fcE f = e1 at *
  generalize netE m ps = e2 at *
  generalize sgE f seen = e3 at *
  generalize ruE nn rs = e4 at *
  generalize paE nn path = e5 at *
  generalize inI path 0 ((nn : Int) - 1) = PB at *
  generalize opnS f seen m ps rs path = SV at *
  generalize opnM f seen m ps rs path = MV at *
  clear hpn
  go_enter Tryz.func19, Tryz.ntmps19
  go_wp2_with fail
  refine wp_abs (fun W => Blk W w.heap.size 47 #[.int .i64 m, .slice NA nn nc] ∧ Blk W (w.heap.size + 1) 24 #[.slice A n c] ∧ Ext w W) ⟨blk_old hz0 _, ?_, by (repeat' (first | with_reducible assumption | with_reducible exact Ext.refl _ | with_reducible refine Ext.alloc ?_ _ | with_reducible refine Ext.set ?_ ?_ _ | with_reducible refine Ext.drew ?_ | with_reducible refine Ext.drewN ?_ _ | with_reducible refine Ext.trans ?_ (by assumption) | (dsimp only; omega)))⟩ ?_
  · have := blk_last (w.alloc (.cells #[.int .i64 m, .slice NA nn nc] 47)) (.cells #[.slice A n c] 24)
    rw [World.size_alloc] at this
    exact this
  rintro W ⟨b1, b2, HE⟩
  have d0 := b1.cell 0
  have d1 := b1.cell 1
  have z1 := b1.lt
  have f0 := b2.cell 0
  have z2 := b2.lt
  simp only [List.getElem?_toArray, List.getElem?_cons_zero, List.getElem?_cons_succ] at d0 d1 f0
  clear b1 b2 hz0
  refine region_rest (fun QQ => ∀ (ob : Nat) (Y : World) (N : Nat) (A1 : Option Addr) (n1 c1 : Nat) (A2 : Option Addr) (n2 c2 : Nat) (u16 : Value), Ext W Y → W.heap.size ≤ ob → Hid (Blk Y ob 100 #[.int .i64 N, .slice A1 n1 c1, .slice A2 n2 c2]) → OutV f seen (begM [e1, e2, e3, e4, e5] seen f) w.heap.size Y N (.slice A1 n1 c1) (.slice A2 n2 c2) →
      QQ .normal { tmps := #[.agg #[.int .i64 m, .slice NA nn nc], .slice RA rn rc, .agg #[.slice A n c], .slice SA sm sc, .int .i64 path, .pointer (some ⟨w.heap.size, 0, none⟩), undef, .pointer (some ⟨w.heap.size + 1, 0, none⟩), undef, undef, .slice none 0 0, .slice none 0 0, .int .i64 (begM [e1, e2, e3, e4, e5] seen f), .pointer (some ⟨ob, 0, none⟩), undef,
        .tuple #[.agg #[.int .i64 N, .slice A1 n1 c1, .slice A2 n2 c2], .int .i64 (begM [e1, e2, e3, e4, e5] seen f)], .agg #[.slice A n c], .slice SA sm sc, .agg #[.slice A n c], .int .i64 e1, .agg #[.int .i64 m, .slice NA nn nc], .int .i64 e2, .agg #[.slice A n c], .slice SA sm sc, .int .i64 e3, .agg #[.int .i64 m, .slice NA nn nc], .slice RA rn rc, .int .i64 e4, .agg #[.int .i64 m, .slice NA nn nc], .int .i64 path, .bool PB, .int .i64 e5, u16,
        .tuple #[.agg #[.int .i64 N, .slice A1 n1 c1, .slice A2 n2 c2], .int .i64 (begM [e1, e2, e3, e4, e5] seen f)], .agg #[.int .i64 N, .slice A1 n1 c1, .slice A2 n2 c2], .int .i64 (begM [e1, e2, e3, e4, e5] seen f), undef, undef, undef, undef, undef, undef, undef, undef, undef, undef, undef], defers := [] } Y) ?rest (fun REST => ?_)
  case rest =>
    intro ob Y N A1 n1 c1 A2 n2 c2 u16 hEW hob HOB hOV
    have HOV := hid hOV
    have hEY := HE.trans hEW
    have o0 := HOB.out.cell 0
    have o1 := HOB.out.cell 1
    have o2 := HOB.out.cell 2
    have oz := HOB.out.lt
    simp only [List.getElem?_toArray, List.getElem?_cons_zero, List.getElem?_cons_succ] at o0 o1 o2
    clear hOV HC HS HP HR HIP HAR HB d0 d1 f0 z1 z2 hEW hob
    by_cases hr : begM [e1, e2, e3, e4, e5] seen f = 0
    · obtain ⟨ok, _⟩ := HOK.out hr
      obtain ⟨rfl, hO1, hO2⟩ := HOV.out.1 hr
      obtain ⟨A3, c3, e4', -, hsc, -⟩ := hO2.form
      injection e4' with e4' e5' e6'
      subst e4' e5' e6'
      have hN := H.out.hours
      have hlen := scsM_le seen f
      have hn1 := H.out.hn
      have hn2 := H.out.hm
      have hfl : (forP rs path).length ≤ 1000 := by
        have := List.length_filter_le (fun r : Rl => decide (r.path = path)) rs
        have e := HRN.out
        show (List.filter (fun r : Rl => decide (r.path = path)) rs).length ≤ 1000
        omega
      have haft := rlsB_aft ok.ru
      have hallS := scsM_all (seen := seen) ok.fc
      have hwid := H.out.wid
      have HRI := hid (fun (X : World) (hX : Ext Y X) (GA : Option Addr) (hru : RlsAt X GA (forP rs path)) => (show RIn X (hoursN f) A2 (scsM seen f).length (scsM seen f) (forP rs path) GA (forP rs path).length from
        ⟨hN, rfl, by omega, hallS, rfl, hfl, fun r hr => haft r (forP_sub rs path r hr), hsc.ext hX, hru, (hwid.ext hEY).ext hX⟩))
      have HSU2 := hid (fun (X : World) (hX : Ext Y X) (GA : Option Addr) (gc : Nat) (hru : RlsAt X GA (forP rs path)) => surely2_any (hoursN f) A1 n1 c1 A2 (scsM seen f).length c2 (scsM seen f) (forP rs path) GA (forP rs path).length gc X (HRI.out X hX GA hru))
      have HMA2 := hid (fun (X : World) (hX : Ext Y X) (GA : Option Addr) (gc : Nat) (hru : RlsAt X GA (forP rs path)) => maybe2_any (hoursN f) A1 n1 c1 A2 (scsM seen f).length c2 (scsM seen f) (forP rs path) GA (forP rs path).length gc X (HRI.out X hX GA hru))
      rw [← HSU.out hr] at HSU2
      rw [← HMA.out hr] at HMA2
      unfold regCells at HSU2 HMA2
      have HRG := hid (regime_any (hoursN f) A1 n1 c1 A2 (scsM seen f).length c2 rs RA rn rc HRN.out hrm path Y (HRA.out.ext hEY))
      unfold regCells at HRG
      have HRE := hid hr
      rw [hr]
      clear hr
      clear HSU HMA HSN HMN HOK HOV HRI hO1 hO2 hsc H ok hlen hn1 hn2 haft hallS hwid HRA HRN
      generalize hoursN f = N at *
      generalize (scsM seen f).length = n2 at *
      generalize forP rs path = FP at *
      generalize FP.length = fl at *
      go_wp2_with fail
      refine HRG.out.mono ?_
      rintro e w2 ⟨A4, c4, rfl, o4, hE4⟩
      have hEY2 := hEY.trans hE4
      have hru : RlsAt w2 A4 FP := by
        obtain ⟨A5, c5, e5', -, hf, -⟩ := o4.form (by decide) (fun _ => rfl) zeroRl
        injection e5' with e5'
        subst e5'
        exact flat_rls.1 hf
      replace o0 := (hE4.cell (p := ⟨ob, 0, none⟩) oz).trans o0
      clear HRG o4 o0 o1 o2 oz HOB
      go_wp2_with fail
      refine wp_abs (fun X => Blk X w2.heap.size 106 #[.int .i64 (N : Int), .slice A1 n1 c1, .slice A2 n2 c2, .slice A4 fl c4] ∧ Ext w2 X) ⟨blk_last _ _, by (repeat' (first | with_reducible assumption | with_reducible exact Ext.refl _ | with_reducible refine Ext.alloc ?_ _ | with_reducible refine Ext.set ?_ ?_ _ | with_reducible refine Ext.drew ?_ | with_reducible refine Ext.drewN ?_ _ | with_reducible refine Ext.trans ?_ (by assumption) | (dsimp only; omega)))⟩ ?_
      rintro U ⟨u2, EU⟩
      obtain ⟨x0, x1, x2, x3⟩ : _ ∧ _ ∧ _ ∧ _ := ⟨u2.cell 0, u2.cell 1, u2.cell 2, u2.cell 3⟩
      have xz := u2.lt
      simp only [List.getElem?_toArray, List.getElem?_cons_zero, List.getElem?_cons_succ] at x0 x1 x2 x3
      have HSC := hid (fun (X : World) (hX : Ext U X) => HSU2.out X ((hE4.trans EU).trans hX) _ c4 ((hru.ext EU).ext hX))
      have HMC := hid (fun (X : World) (hX : Ext U X) => HMA2.out X ((hE4.trans EU).trans hX) _ c4 ((hru.ext EU).ext hX))
      have HEU := hid (hEY2.trans EU)
      clear HSU2 HMA2 u2 hru EU hE4
      refine wp_region_held_drew (S := fun w' => (∀ b o, b < U.heap.size → w'.cell? ⟨b, o, none⟩ = U.cell? ⟨b, o, none⟩) ∧ U.heap.size ≤ w'.heap.size ∧ Ext U w') (by kernel_rfl) ?hS0 (fun hHeld => ?_)
      case hS0 => exact sK (Ext.drew (Ext.refl _))
      have X0 : Ext U U.drew := Ext.drew (Ext.refl U)
      have EX := X0
      obtain ⟨X, hX⟩ : ∃ X, U.drew = X := ⟨_, rfl⟩
      rw [hX] at EX hHeld ⊢
      clear hX X0
      refine tk1 (i := 0) (v := ?v0ka) rfl ?y0ka ?r0ka
      case y0ka => (intro w' hSw; (try dsimp only at hSw); go_simp; (try with_reducible rfl))
      try simp only [Act.put, sq1, sq2, sq3, sq4, sq5, sq6]
      refine tk1 (i := 2) (v := ?v2ka) rfl ?y2ka ?r2ka
      case y2ka => (intro w' hSw; (try dsimp only at hSw); go_simp; (try with_reducible rfl))
      try simp only [Act.put, sq1, sq2, sq3, sq4, sq5, sq6]
      refine wpAnyH_ready (rs := [1]) (by kernel_rfl) (by simp) ?_
      refine AllReadyH.cons (o := _) rfl (fun K hK => ?_) AllReadyH.nil
      go_simp
      refine Calls.mono (HSC.out _ EX) ?_
      rintro e X1 ⟨A5, c5, rfl, o1, hE1⟩
      dsimp only
      replace EX := EX.trans hE1
      obtain ⟨A6, c6, e6, -, hf1, -⟩ := (o1.form (by decide) (fun _ => rfl) (0, 0))
      injection e6 with e6 e7 e8
      subst e6 e8
      have HG1 := hid (flat_spans.1 hf1)
      clear hHeld hE1 o1 hf1 e7
      refine hK.out _ _ (sK EX) (fun hHeld => ?_)
      clear hK K
      try simp only [Act.put, sq1, sq2, sq3, sq4, sq5, sq6]
      refine wpAnyH_ready (rs := [3]) (by kernel_rfl) (by simp) ?_
      refine AllReadyH.cons (o := _) rfl (fun K hK => ?_) AllReadyH.nil
      go_simp
      refine Calls.mono (HMC.out _ EX) ?_
      rintro e X2 ⟨A7, c7, rfl, o2, hE2⟩
      dsimp only
      replace EX := EX.trans hE2
      replace HG1 := hid (HG1.out.ext hE2)
      obtain ⟨A8, c8, e6, -, hf2, -⟩ := (o2.form (by decide) (fun _ => rfl) (0, 0))
      injection e6 with e6 e7 e8
      subst e6 e8
      have HG2 := hid (flat_spans.1 hf2)
      clear hHeld hE2 o2 hf2 e7
      refine hK.out _ _ (sK EX) (fun hHeld => ?_)
      clear hK K
      try simp only [Act.put, sq1, sq2, sq3, sq4, sq5, sq6]
      refine tk1 (i := 4) (v := ?v4kb) rfl ?y4kb ?r4kb
      case y4kb => (intro w' hSw; (try dsimp only at hSw); go_simp; (try with_reducible rfl))
      try simp only [Act.put, sq1, sq2, sq3, sq4, sq5, sq6]
      refine tk1 (i := 5) (v := ?v5kb) rfl ?y5kb ?r5kb
      case y5kb => (intro w' hSw; (try dsimp only at hSw); go_simp; (try with_reducible rfl))
      try simp only [Act.put, sq1, sq2, sq3, sq4, sq5, sq6]
      refine tk1 (i := 6) (v := ?v6kb) rfl ?y6kb ?r6kb
      case y6kb => (intro w' hSw; (try dsimp only at hSw); go_simp; (try with_reducible rfl))
      try simp only [Act.put, sq1, sq2, sq3, sq4, sq5, sq6]
      refine wpAnyH_done (by kernel_rfl) ?_ _
      have GE := hid (HEU.out.trans EX)
      clear hHeld HSC HMC EX HEU
      go_wp2
      exact bodyPost_ret (v := .tuple #[.slice A5 SV.length c5, .slice A7 MV.length c7, .int .i64 0]) (by simp [results, Tryz.results19, go_sem]) rfl ⟨A5, c5, A7, c7, by rw [HRE.out], HG1.out, HG2.out, GE.out⟩
    · have hs1 := HSN.out hr
      have hs2 := HMN.out hr
      subst hs1 hs2
      have HRE := hid (show ∃ r, begM [e1, e2, e3, e4, e5] seen f = r from ⟨_, rfl⟩)
      obtain ⟨r, hre⟩ := HRE.out
      rw [hre] at hr ⊢
      have HRE2 := hid hre
      have hrb : (r != 0) = true := by simp [hr]
      clear HSU HMA HSN HMN HOK HOV hr H hre HRE
      go_wp2
      exact bodyPost_ret (v := .tuple #[.slice none 0 0, .slice none 0 0, .int .i64 r]) (by simp [results, Tryz.results19, go_sem]) rfl ⟨none, 0, none, 0, by rw [HRE2.out]; rfl, fun h => absurd rfl h, fun h => absurd rfl h, hEY⟩
  refine wp_region_held_drew (S := fun w' => (∀ b o, b < W.heap.size → w'.cell? ⟨b, o, none⟩ = W.cell? ⟨b, o, none⟩) ∧ W.heap.size ≤ w'.heap.size ∧ Ext W w') (by kernel_rfl) ?hS0 (fun hHeld => ?_)
  case hS0 => exact sK (Ext.drew (Ext.refl _))
  have X0 : Ext W W.drew := Ext.drew (Ext.refl W)
  have EX := X0
  obtain ⟨X, hX⟩ : ∃ X, W.drew = X := ⟨_, rfl⟩
  rw [hX] at EX hHeld ⊢
  clear hX X0
  refine tk1 (i := 0) (v := ?v0a) rfl ?y0a ?r0a
  case y0a => (intro w' hSw; (try dsimp only at hSw); go_simp; (try with_reducible rfl))
  try simp only [Act.put, sq1, sq2, sq3, sq4, sq5, sq6]
  refine tk1 (i := 1) (v := ?v1a) rfl ?y1a ?r1a
  case y1a => (intro w' hSw; (try dsimp only at hSw); go_simp; (try with_reducible rfl))
  try simp only [Act.put, sq1, sq2, sq3, sq4, sq5, sq6]
  refine tk1 (i := 2) (v := ?v2a) rfl ?y2a ?r2a
  case y2a => (intro w' hSw; (try dsimp only at hSw); go_simp; (try with_reducible rfl))
  try simp only [Act.put, sq1, sq2, sq3, sq4, sq5, sq6]
  refine tk1 (i := 4) (v := ?v4a) rfl ?y4a ?r4a
  case y4a => (intro w' hSw; (try dsimp only at hSw); go_simp; (try with_reducible rfl))
  try simp only [Act.put, sq1, sq2, sq3, sq4, sq5, sq6]
  refine tk1 (i := 6) (v := ?v6a) rfl ?y6a ?r6a
  case y6a => (intro w' hSw; (try dsimp only at hSw); go_simp; (try with_reducible rfl))
  try simp only [Act.put, sq1, sq2, sq3, sq4, sq5, sq6]
  refine tk1 (i := 7) (v := ?v7a) rfl ?y7a ?r7a
  case y7a => (intro w' hSw; (try dsimp only at hSw); go_simp; (try with_reducible rfl))
  try simp only [Act.put, sq1, sq2, sq3, sq4, sq5, sq6]
  refine tk1 (i := 9) (v := ?v9a) rfl ?y9a ?r9a
  case y9a => (intro w' hSw; (try dsimp only at hSw); go_simp; (try with_reducible rfl))
  try simp only [Act.put, sq1, sq2, sq3, sq4, sq5, sq6]
  refine tk1 (i := 10) (v := ?v10a) rfl ?y10a ?r10a
  case y10a => (intro w' hSw; (try dsimp only at hSw); go_simp; (try with_reducible rfl))
  try simp only [Act.put, sq1, sq2, sq3, sq4, sq5, sq6]
  refine tk1 (i := 12) (v := ?v12a) rfl ?y12a ?r12a
  case y12a => (intro w' hSw; (try dsimp only at hSw); go_simp; (try with_reducible rfl))
  try simp only [Act.put, sq1, sq2, sq3, sq4, sq5, sq6]
  refine tk1 (i := 13) (v := ?v13a) rfl ?y13a ?r13a
  case y13a => (intro w' hSw; (try dsimp only at hSw); go_simp; (try with_reducible rfl))
  try simp only [Act.put, sq1, sq2, sq3, sq4, sq5, sq6]
  refine wpAnyH_ready (rs := [3, 21]) (by kernel_rfl) (by simp) ?_
  refine AllReadyH.cons (o := _) rfl (fun K hK => ?_) (AllReadyH.cons (o := _) rfl (fun K hK => ?_) AllReadyH.nil)
  · go_simp
    refine Calls.mono (HC.out _ (HE.trans EX)) ?_
    rintro e X ⟨rfl, hEX⟩
    dsimp only
    replace EX := EX.trans hEX
    (try replace OB := hid (OB.out.ext hEX))
    (try replace IS := hid (IS.out.ext hEX))
    clear hHeld hEX
    refine hK.out _ _ (sK EX) (fun hHeld => ?_)
    clear hK K
    try simp only [Act.put, sq1, sq2, sq3, sq4, sq5, sq6]
    refine wpAnyH_ready (rs := [5, 21]) (by kernel_rfl) (by simp) ?_
    refine AllReadyH.cons (o := _) rfl (fun K hK => ?_) (AllReadyH.cons (o := _) rfl (fun K hK => ?_) AllReadyH.nil)
    · go_simp
      refine Calls.mono (HP.out _ (HE.trans EX)) ?_
      rintro e X ⟨rfl, hEX⟩
      dsimp only
      replace EX := EX.trans hEX
      (try replace OB := hid (OB.out.ext hEX))
      (try replace IS := hid (IS.out.ext hEX))
      clear hHeld hEX
      refine hK.out _ _ (sK EX) (fun hHeld => ?_)
      clear hK K
      try simp only [Act.put, sq1, sq2, sq3, sq4, sq5, sq6]
      refine wpAnyH_ready (rs := [8, 21]) (by kernel_rfl) (by simp) ?_
      refine AllReadyH.cons (o := _) rfl (fun K hK => ?_) (AllReadyH.cons (o := _) rfl (fun K hK => ?_) AllReadyH.nil)
      · go_simp
        refine Calls.mono (HS.out _ (HE.trans EX)) ?_
        rintro e X ⟨rfl, hEX⟩
        dsimp only
        replace EX := EX.trans hEX
        (try replace OB := hid (OB.out.ext hEX))
        (try replace IS := hid (IS.out.ext hEX))
        clear hHeld hEX
        refine hK.out _ _ (sK EX) (fun hHeld => ?_)
        clear hK K
        try simp only [Act.put, sq1, sq2, sq3, sq4, sq5, sq6]
        refine wpAnyH_ready (rs := [11, 21]) (by kernel_rfl) (by simp) ?_
        refine AllReadyH.cons (o := _) rfl (fun K hK => ?_) (AllReadyH.cons (o := _) rfl (fun K hK => ?_) AllReadyH.nil)
        · go_simp
          refine Calls.mono (HR.out _ (HE.trans EX)) ?_
          rintro e X ⟨rfl, hEX⟩
          dsimp only
          replace EX := EX.trans hEX
          (try replace OB := hid (OB.out.ext hEX))
          (try replace IS := hid (IS.out.ext hEX))
          clear hHeld hEX
          refine hK.out _ _ (sK EX) (fun hHeld => ?_)
          clear hK K
          try simp only [Act.put, sq1, sq2, sq3, sq4, sq5, sq6]
          refine wpAnyH_ready (rs := [14, 21]) (by kernel_rfl) (by simp) ?_
          refine AllReadyH.cons (o := _) rfl (fun K hK => ?_) (AllReadyH.cons (o := _) rfl (fun K hK => ?_) AllReadyH.nil)
          · go_simp
            refine Calls.mono (HIP.out _ (HE.trans EX)) ?_
            rintro e X ⟨rfl, hEX⟩
            dsimp only
            replace EX := EX.trans hEX
            (try replace OB := hid (OB.out.ext hEX))
            (try replace IS := hid (IS.out.ext hEX))
            clear hHeld hEX
            refine hK.out _ _ (sK EX) (fun hHeld => ?_)
            clear hK K
            try simp only [Act.put, sq1, sq2, sq3, sq4, sq5, sq6]
            refine wpAnyH_ready (rs := [15, 21]) (by kernel_rfl) (by simp) ?_
            refine AllReadyH.cons (o := _) rfl (fun K hK => ?_) (AllReadyH.cons (o := _) rfl (fun K hK => ?_) AllReadyH.nil)
            · go_simp
              refine Calls.mono (HAR.out _) ?_
              rintro e X ⟨rfl, rfl⟩
              dsimp only
              clear hHeld
              refine hK.out _ _ (sK EX) (fun hHeld => ?_)
              clear hK K
              try simp only [Act.put, sq1, sq2, sq3, sq4, sq5, sq6]
              refine wpAnyH_ready (rs := [16, 21]) (by kernel_rfl) (by simp) ?_
              refine AllReadyH.cons (o := _) rfl (fun K hK => ?_) (AllReadyH.cons (o := _) rfl (fun K hK => ?_) AllReadyH.nil)
              · go_simp
                obtain ⟨Y, hY⟩ := absW EX (.cells #[.int .i64 e1, .int .i64 e2, .int .i64 e3, .int .i64 e4, .int .i64 e5] 36)
                have IS := hid (intsNew EX [e1, e2, e3, e4, e5] #[.int .i64 e1, .int .i64 e2, .int .i64 e3, .int .i64 e4, .int .i64 e5] rfl)
                (try replace OB := hid (OB.out.alloc (.cells #[.int .i64 e1, .int .i64 e2, .int .i64 e3, .int .i64 e4, .int .i64 e5] 36)))
                replace EX := EX.alloc (.cells #[.int .i64 e1, .int .i64 e2, .int .i64 e3, .int .i64 e4, .int .i64 e5] 36)
                rw [hY] at EX IS ⊢
                (try rw [hY] at OB)
                clear hHeld hY
                refine hK.out _ _ (sK EX) (fun hHeld => ?_)
                clear hK K
                try simp only [Act.put, sq1, sq2, sq3, sq4, sq5, sq6]
                refine wpAnyH_ready (rs := [17, 21]) (by kernel_rfl) (by simp) ?_
                refine AllReadyH.cons (o := _) rfl (fun K hK => ?_) (AllReadyH.cons (o := _) rfl (fun K hK => ?_) AllReadyH.nil)
                · go_simp
                  refine Calls.mono (HB.out _ (HE.trans EX) _ IS.out) ?_
                  rintro e X ⟨N, A1, n1, c1, A2, n2, c2, rfl, hOV, hEX⟩
                  dsimp only
                  have OV := hid (show OutV f seen _ w.heap.size _ N _ _ from hOV.low (HE.trans EX).size)
                  replace EX := EX.trans hEX
                  (try replace OB := hid (OB.out.ext hEX))
                  clear hHeld hEX hOV IS
                  refine hK.out _ _ (sK EX) (fun hHeld => ?_)
                  clear hK K
                  try simp only [Act.put, sq1, sq2, sq3, sq4, sq5, sq6]
                  refine tk1 (i := 18) (v := ?v18m8) rfl ?y18m8 ?r18m8
                  case y18m8 => (intro w' hSw; (try dsimp only at hSw); go_simp; (try with_reducible rfl))
                  try simp only [Act.put, sq1, sq2, sq3, sq4, sq5, sq6]
                  refine tk1 (i := 19) (v := ?v19m8) rfl ?y19m8 ?r19m8
                  case y19m8 => (intro w' hSw; (try dsimp only at hSw); go_simp; (try with_reducible rfl))
                  try simp only [Act.put, sq1, sq2, sq3, sq4, sq5, sq6]
                  refine tk1 (i := 20) (v := ?v20m8) rfl ?y20m8 ?r20m8
                  case y20m8 => (intro w' hSw; (try dsimp only at hSw); go_simp; (try with_reducible rfl))
                  try simp only [Act.put, sq1, sq2, sq3, sq4, sq5, sq6]
                  refine wpAnyH_ready (rs := [21]) (by kernel_rfl) (by simp) ?_
                  refine AllReadyH.cons (o := _) rfl (fun K hK => ?_) AllReadyH.nil
                  go_simp
                  obtain ⟨Y, hY⟩ := absW EX (.cells #[.int .i64 0, .slice none 0 0, .slice none 0 0] 100)
                  have OB := hid (blkNew EX 100 #[.int .i64 0, .slice none 0 0, .slice none 0 0])
                  have LOB := EX.size
                  replace EX := EX.alloc (.cells #[.int .i64 0, .slice none 0 0, .slice none 0 0] 100)
                  (try replace IS := hid (IS.out.ext (ext_alloc1 _ (.cells #[.int .i64 0, .slice none 0 0, .slice none 0 0] 100))))
                  (try replace OV := hid (OV.out.ext (ext_alloc1 _ (.cells #[.int .i64 0, .slice none 0 0, .slice none 0 0] 100))))
                  rw [hY] at EX OB ⊢
                  (try rw [hY] at IS)
                  (try rw [hY] at OV)
                  clear hHeld hY
                  refine hK.out _ _ (sK EX) (fun hHeld => ?_)
                  clear hK K
                  try simp only [Act.put, sq1, sq2, sq3, sq4, sq5, sq6]
                  refine wpAnyH_ready (rs := [22]) (by kernel_rfl) (by simp) ?_
                  refine AllReadyH.cons (o := _) rfl (fun K hK => ?_) AllReadyH.nil
                  refine wp_store_mid 100 _ _ rfl _ 0 #[.int .i64 (N : Int), .slice A1 n1 c1, .slice A2 n2 c2] rfl rfl (blk_there OB.out rfl) infoOut (out_one N A1 n1 c1 A2 n2 c2) ?_
                  have OB2 := hid (Blk.fill3 OB.out (.int .i64 (N : Int)) (.slice A1 n1 c1) (.slice A2 n2 c2))
                  have EX2 := ext_setCells EX LOB [.int .i64 (N : Int), .slice A1 n1 c1, .slice A2 n2 c2] 0
                  have OV2 := hid (OV.out.apart (grown_setCells [.int .i64 (N : Int), .slice A1 n1 c1, .slice A2 n2 c2] 0) (Apart.blk OB.out (by decide)) (Apart.blk OB.out (by decide)) (Apart.blk OB.out (by decide)))
                  clear hHeld
                  refine hK.out _ _ (sK EX2) (fun hHeld => ?_)
                  clear hK K
                  try simp only [Act.put, sq1, sq2, sq3, sq4, sq5, sq6]
                  refine tk1 (i := 23) (v := ?v23et9) rfl ?y23et9 ?r23et9
                  case y23et9 => (intro w' hSw; (try dsimp only at hSw); go_simp; (try with_reducible rfl))
                  try simp only [Act.put, sq1, sq2, sq3, sq4, sq5, sq6]
                  refine wpAnyH_done (by kernel_rfl) ?_ _
                  exact REST _ _ N A1 n1 c1 A2 n2 c2 _ EX2 LOB OB2 OV2.out
                · go_simp
                  obtain ⟨Y, hY⟩ := absW EX (.cells #[.int .i64 0, .slice none 0 0, .slice none 0 0] 100)
                  have OB := hid (blkNew EX 100 #[.int .i64 0, .slice none 0 0, .slice none 0 0])
                  have LOB := EX.size
                  replace EX := EX.alloc (.cells #[.int .i64 0, .slice none 0 0, .slice none 0 0] 100)
                  (try replace IS := hid (IS.out.ext (ext_alloc1 _ (.cells #[.int .i64 0, .slice none 0 0, .slice none 0 0] 100))))
                  (try replace OV := hid (OV.out.ext (ext_alloc1 _ (.cells #[.int .i64 0, .slice none 0 0, .slice none 0 0] 100))))
                  rw [hY] at EX OB ⊢
                  (try rw [hY] at IS)
                  (try rw [hY] at OV)
                  clear hHeld hY
                  refine hK.out _ _ (sK EX) (fun hHeld => ?_)
                  clear hK K
                  try simp only [Act.put, sq1, sq2, sq3, sq4, sq5, sq6]
                  refine wpAnyH_ready (rs := [17]) (by kernel_rfl) (by simp) ?_
                  refine AllReadyH.cons (o := _) rfl (fun K hK => ?_) AllReadyH.nil
                  go_simp
                  refine Calls.mono (HB.out _ (HE.trans EX) _ IS.out) ?_
                  rintro e X ⟨N, A1, n1, c1, A2, n2, c2, rfl, hOV, hEX⟩
                  dsimp only
                  have OV := hid (show OutV f seen _ w.heap.size _ N _ _ from hOV.low (HE.trans EX).size)
                  replace EX := EX.trans hEX
                  (try replace OB := hid (OB.out.ext hEX))
                  clear hHeld hEX hOV IS
                  refine hK.out _ _ (sK EX) (fun hHeld => ?_)
                  clear hK K
                  try simp only [Act.put, sq1, sq2, sq3, sq4, sq5, sq6]
                  refine tk1 (i := 18) (v := ?v18a10) rfl ?y18a10 ?r18a10
                  case y18a10 => (intro w' hSw; (try dsimp only at hSw); go_simp; (try with_reducible rfl))
                  try simp only [Act.put, sq1, sq2, sq3, sq4, sq5, sq6]
                  refine tk1 (i := 19) (v := ?v19a10) rfl ?y19a10 ?r19a10
                  case y19a10 => (intro w' hSw; (try dsimp only at hSw); go_simp; (try with_reducible rfl))
                  try simp only [Act.put, sq1, sq2, sq3, sq4, sq5, sq6]
                  refine tk1 (i := 20) (v := ?v20a10) rfl ?y20a10 ?r20a10
                  case y20a10 => (intro w' hSw; (try dsimp only at hSw); go_simp; (try with_reducible rfl))
                  try simp only [Act.put, sq1, sq2, sq3, sq4, sq5, sq6]
                  refine wpAnyH_ready (rs := [22]) (by kernel_rfl) (by simp) ?_
                  refine AllReadyH.cons (o := _) rfl (fun K hK => ?_) AllReadyH.nil
                  refine wp_store_mid 100 _ _ rfl _ 0 #[.int .i64 (N : Int), .slice A1 n1 c1, .slice A2 n2 c2] rfl rfl (blk_there OB.out rfl) infoOut (out_one N A1 n1 c1 A2 n2 c2) ?_
                  have OB2 := hid (Blk.fill3 OB.out (.int .i64 (N : Int)) (.slice A1 n1 c1) (.slice A2 n2 c2))
                  have EX2 := ext_setCells EX LOB [.int .i64 (N : Int), .slice A1 n1 c1, .slice A2 n2 c2] 0
                  have OV2 := hid (OV.out.apart (grown_setCells [.int .i64 (N : Int), .slice A1 n1 c1, .slice A2 n2 c2] 0) (Apart.blk OB.out (by decide)) (Apart.blk OB.out (by decide)) (Apart.blk OB.out (by decide)))
                  clear hHeld
                  refine hK.out _ _ (sK EX2) (fun hHeld => ?_)
                  clear hK K
                  try simp only [Act.put, sq1, sq2, sq3, sq4, sq5, sq6]
                  refine tk1 (i := 23) (v := ?v23ea10) rfl ?y23ea10 ?r23ea10
                  case y23ea10 => (intro w' hSw; (try dsimp only at hSw); go_simp; (try with_reducible rfl))
                  try simp only [Act.put, sq1, sq2, sq3, sq4, sq5, sq6]
                  refine wpAnyH_done (by kernel_rfl) ?_ _
                  exact REST _ _ N A1 n1 c1 A2 n2 c2 _ EX2 LOB OB2 OV2.out
              · go_simp
                obtain ⟨Y, hY⟩ := absW EX (.cells #[.int .i64 0, .slice none 0 0, .slice none 0 0] 100)
                have OB := hid (blkNew EX 100 #[.int .i64 0, .slice none 0 0, .slice none 0 0])
                have LOB := EX.size
                replace EX := EX.alloc (.cells #[.int .i64 0, .slice none 0 0, .slice none 0 0] 100)
                (try replace IS := hid (IS.out.ext (ext_alloc1 _ (.cells #[.int .i64 0, .slice none 0 0, .slice none 0 0] 100))))
                (try replace OV := hid (OV.out.ext (ext_alloc1 _ (.cells #[.int .i64 0, .slice none 0 0, .slice none 0 0] 100))))
                rw [hY] at EX OB ⊢
                (try rw [hY] at IS)
                (try rw [hY] at OV)
                clear hHeld hY
                refine hK.out _ _ (sK EX) (fun hHeld => ?_)
                clear hK K
                try simp only [Act.put, sq1, sq2, sq3, sq4, sq5, sq6]
                refine wpAnyH_ready (rs := [16]) (by kernel_rfl) (by simp) ?_
                refine AllReadyH.cons (o := _) rfl (fun K hK => ?_) AllReadyH.nil
                go_simp
                obtain ⟨Y, hY⟩ := absW EX (.cells #[.int .i64 e1, .int .i64 e2, .int .i64 e3, .int .i64 e4, .int .i64 e5] 36)
                have IS := hid (intsNew EX [e1, e2, e3, e4, e5] #[.int .i64 e1, .int .i64 e2, .int .i64 e3, .int .i64 e4, .int .i64 e5] rfl)
                (try replace OB := hid (OB.out.alloc (.cells #[.int .i64 e1, .int .i64 e2, .int .i64 e3, .int .i64 e4, .int .i64 e5] 36)))
                replace EX := EX.alloc (.cells #[.int .i64 e1, .int .i64 e2, .int .i64 e3, .int .i64 e4, .int .i64 e5] 36)
                rw [hY] at EX IS ⊢
                (try rw [hY] at OB)
                clear hHeld hY
                refine hK.out _ _ (sK EX) (fun hHeld => ?_)
                clear hK K
                try simp only [Act.put, sq1, sq2, sq3, sq4, sq5, sq6]
                refine wpAnyH_ready (rs := [17]) (by kernel_rfl) (by simp) ?_
                refine AllReadyH.cons (o := _) rfl (fun K hK => ?_) AllReadyH.nil
                go_simp
                refine Calls.mono (HB.out _ (HE.trans EX) _ IS.out) ?_
                rintro e X ⟨N, A1, n1, c1, A2, n2, c2, rfl, hOV, hEX⟩
                dsimp only
                have OV := hid (show OutV f seen _ w.heap.size _ N _ _ from hOV.low (HE.trans EX).size)
                replace EX := EX.trans hEX
                (try replace OB := hid (OB.out.ext hEX))
                clear hHeld hEX hOV IS
                refine hK.out _ _ (sK EX) (fun hHeld => ?_)
                clear hK K
                try simp only [Act.put, sq1, sq2, sq3, sq4, sq5, sq6]
                refine tk1 (i := 18) (v := ?v18a11) rfl ?y18a11 ?r18a11
                case y18a11 => (intro w' hSw; (try dsimp only at hSw); go_simp; (try with_reducible rfl))
                try simp only [Act.put, sq1, sq2, sq3, sq4, sq5, sq6]
                refine tk1 (i := 19) (v := ?v19a11) rfl ?y19a11 ?r19a11
                case y19a11 => (intro w' hSw; (try dsimp only at hSw); go_simp; (try with_reducible rfl))
                try simp only [Act.put, sq1, sq2, sq3, sq4, sq5, sq6]
                refine tk1 (i := 20) (v := ?v20a11) rfl ?y20a11 ?r20a11
                case y20a11 => (intro w' hSw; (try dsimp only at hSw); go_simp; (try with_reducible rfl))
                try simp only [Act.put, sq1, sq2, sq3, sq4, sq5, sq6]
                refine wpAnyH_ready (rs := [22]) (by kernel_rfl) (by simp) ?_
                refine AllReadyH.cons (o := _) rfl (fun K hK => ?_) AllReadyH.nil
                refine wp_store_mid 100 _ _ rfl _ 0 #[.int .i64 (N : Int), .slice A1 n1 c1, .slice A2 n2 c2] rfl rfl (blk_there OB.out rfl) infoOut (out_one N A1 n1 c1 A2 n2 c2) ?_
                have OB2 := hid (Blk.fill3 OB.out (.int .i64 (N : Int)) (.slice A1 n1 c1) (.slice A2 n2 c2))
                have EX2 := ext_setCells EX LOB [.int .i64 (N : Int), .slice A1 n1 c1, .slice A2 n2 c2] 0
                have OV2 := hid (OV.out.apart (grown_setCells [.int .i64 (N : Int), .slice A1 n1 c1, .slice A2 n2 c2] 0) (Apart.blk OB.out (by decide)) (Apart.blk OB.out (by decide)) (Apart.blk OB.out (by decide)))
                clear hHeld
                refine hK.out _ _ (sK EX2) (fun hHeld => ?_)
                clear hK K
                try simp only [Act.put, sq1, sq2, sq3, sq4, sq5, sq6]
                refine tk1 (i := 23) (v := ?v23ea11) rfl ?y23ea11 ?r23ea11
                case y23ea11 => (intro w' hSw; (try dsimp only at hSw); go_simp; (try with_reducible rfl))
                try simp only [Act.put, sq1, sq2, sq3, sq4, sq5, sq6]
                refine wpAnyH_done (by kernel_rfl) ?_ _
                exact REST _ _ N A1 n1 c1 A2 n2 c2 _ EX2 LOB OB2 OV2.out
            · go_simp
              obtain ⟨Y, hY⟩ := absW EX (.cells #[.int .i64 0, .slice none 0 0, .slice none 0 0] 100)
              have OB := hid (blkNew EX 100 #[.int .i64 0, .slice none 0 0, .slice none 0 0])
              have LOB := EX.size
              replace EX := EX.alloc (.cells #[.int .i64 0, .slice none 0 0, .slice none 0 0] 100)
              (try replace IS := hid (IS.out.ext (ext_alloc1 _ (.cells #[.int .i64 0, .slice none 0 0, .slice none 0 0] 100))))
              (try replace OV := hid (OV.out.ext (ext_alloc1 _ (.cells #[.int .i64 0, .slice none 0 0, .slice none 0 0] 100))))
              rw [hY] at EX OB ⊢
              (try rw [hY] at IS)
              (try rw [hY] at OV)
              clear hHeld hY
              refine hK.out _ _ (sK EX) (fun hHeld => ?_)
              clear hK K
              try simp only [Act.put, sq1, sq2, sq3, sq4, sq5, sq6]
              refine wpAnyH_ready (rs := [15]) (by kernel_rfl) (by simp) ?_
              refine AllReadyH.cons (o := _) rfl (fun K hK => ?_) AllReadyH.nil
              go_simp
              refine Calls.mono (HAR.out _) ?_
              rintro e X ⟨rfl, rfl⟩
              dsimp only
              clear hHeld
              refine hK.out _ _ (sK EX) (fun hHeld => ?_)
              clear hK K
              try simp only [Act.put, sq1, sq2, sq3, sq4, sq5, sq6]
              refine wpAnyH_ready (rs := [16]) (by kernel_rfl) (by simp) ?_
              refine AllReadyH.cons (o := _) rfl (fun K hK => ?_) AllReadyH.nil
              go_simp
              obtain ⟨Y, hY⟩ := absW EX (.cells #[.int .i64 e1, .int .i64 e2, .int .i64 e3, .int .i64 e4, .int .i64 e5] 36)
              have IS := hid (intsNew EX [e1, e2, e3, e4, e5] #[.int .i64 e1, .int .i64 e2, .int .i64 e3, .int .i64 e4, .int .i64 e5] rfl)
              (try replace OB := hid (OB.out.alloc (.cells #[.int .i64 e1, .int .i64 e2, .int .i64 e3, .int .i64 e4, .int .i64 e5] 36)))
              replace EX := EX.alloc (.cells #[.int .i64 e1, .int .i64 e2, .int .i64 e3, .int .i64 e4, .int .i64 e5] 36)
              rw [hY] at EX IS ⊢
              (try rw [hY] at OB)
              clear hHeld hY
              refine hK.out _ _ (sK EX) (fun hHeld => ?_)
              clear hK K
              try simp only [Act.put, sq1, sq2, sq3, sq4, sq5, sq6]
              refine wpAnyH_ready (rs := [17]) (by kernel_rfl) (by simp) ?_
              refine AllReadyH.cons (o := _) rfl (fun K hK => ?_) AllReadyH.nil
              go_simp
              refine Calls.mono (HB.out _ (HE.trans EX) _ IS.out) ?_
              rintro e X ⟨N, A1, n1, c1, A2, n2, c2, rfl, hOV, hEX⟩
              dsimp only
              have OV := hid (show OutV f seen _ w.heap.size _ N _ _ from hOV.low (HE.trans EX).size)
              replace EX := EX.trans hEX
              (try replace OB := hid (OB.out.ext hEX))
              clear hHeld hEX hOV IS
              refine hK.out _ _ (sK EX) (fun hHeld => ?_)
              clear hK K
              try simp only [Act.put, sq1, sq2, sq3, sq4, sq5, sq6]
              refine tk1 (i := 18) (v := ?v18a12) rfl ?y18a12 ?r18a12
              case y18a12 => (intro w' hSw; (try dsimp only at hSw); go_simp; (try with_reducible rfl))
              try simp only [Act.put, sq1, sq2, sq3, sq4, sq5, sq6]
              refine tk1 (i := 19) (v := ?v19a12) rfl ?y19a12 ?r19a12
              case y19a12 => (intro w' hSw; (try dsimp only at hSw); go_simp; (try with_reducible rfl))
              try simp only [Act.put, sq1, sq2, sq3, sq4, sq5, sq6]
              refine tk1 (i := 20) (v := ?v20a12) rfl ?y20a12 ?r20a12
              case y20a12 => (intro w' hSw; (try dsimp only at hSw); go_simp; (try with_reducible rfl))
              try simp only [Act.put, sq1, sq2, sq3, sq4, sq5, sq6]
              refine wpAnyH_ready (rs := [22]) (by kernel_rfl) (by simp) ?_
              refine AllReadyH.cons (o := _) rfl (fun K hK => ?_) AllReadyH.nil
              refine wp_store_mid 100 _ _ rfl _ 0 #[.int .i64 (N : Int), .slice A1 n1 c1, .slice A2 n2 c2] rfl rfl (blk_there OB.out rfl) infoOut (out_one N A1 n1 c1 A2 n2 c2) ?_
              have OB2 := hid (Blk.fill3 OB.out (.int .i64 (N : Int)) (.slice A1 n1 c1) (.slice A2 n2 c2))
              have EX2 := ext_setCells EX LOB [.int .i64 (N : Int), .slice A1 n1 c1, .slice A2 n2 c2] 0
              have OV2 := hid (OV.out.apart (grown_setCells [.int .i64 (N : Int), .slice A1 n1 c1, .slice A2 n2 c2] 0) (Apart.blk OB.out (by decide)) (Apart.blk OB.out (by decide)) (Apart.blk OB.out (by decide)))
              clear hHeld
              refine hK.out _ _ (sK EX2) (fun hHeld => ?_)
              clear hK K
              try simp only [Act.put, sq1, sq2, sq3, sq4, sq5, sq6]
              refine tk1 (i := 23) (v := ?v23ea12) rfl ?y23ea12 ?r23ea12
              case y23ea12 => (intro w' hSw; (try dsimp only at hSw); go_simp; (try with_reducible rfl))
              try simp only [Act.put, sq1, sq2, sq3, sq4, sq5, sq6]
              refine wpAnyH_done (by kernel_rfl) ?_ _
              exact REST _ _ N A1 n1 c1 A2 n2 c2 _ EX2 LOB OB2 OV2.out
          · go_simp
            obtain ⟨Y, hY⟩ := absW EX (.cells #[.int .i64 0, .slice none 0 0, .slice none 0 0] 100)
            have OB := hid (blkNew EX 100 #[.int .i64 0, .slice none 0 0, .slice none 0 0])
            have LOB := EX.size
            replace EX := EX.alloc (.cells #[.int .i64 0, .slice none 0 0, .slice none 0 0] 100)
            (try replace IS := hid (IS.out.ext (ext_alloc1 _ (.cells #[.int .i64 0, .slice none 0 0, .slice none 0 0] 100))))
            (try replace OV := hid (OV.out.ext (ext_alloc1 _ (.cells #[.int .i64 0, .slice none 0 0, .slice none 0 0] 100))))
            rw [hY] at EX OB ⊢
            (try rw [hY] at IS)
            (try rw [hY] at OV)
            clear hHeld hY
            refine hK.out _ _ (sK EX) (fun hHeld => ?_)
            clear hK K
            try simp only [Act.put, sq1, sq2, sq3, sq4, sq5, sq6]
            refine wpAnyH_ready (rs := [14]) (by kernel_rfl) (by simp) ?_
            refine AllReadyH.cons (o := _) rfl (fun K hK => ?_) AllReadyH.nil
            go_simp
            refine Calls.mono (HIP.out _ (HE.trans EX)) ?_
            rintro e X ⟨rfl, hEX⟩
            dsimp only
            replace EX := EX.trans hEX
            (try replace OB := hid (OB.out.ext hEX))
            (try replace IS := hid (IS.out.ext hEX))
            clear hHeld hEX
            refine hK.out _ _ (sK EX) (fun hHeld => ?_)
            clear hK K
            try simp only [Act.put, sq1, sq2, sq3, sq4, sq5, sq6]
            refine wpAnyH_ready (rs := [15]) (by kernel_rfl) (by simp) ?_
            refine AllReadyH.cons (o := _) rfl (fun K hK => ?_) AllReadyH.nil
            go_simp
            refine Calls.mono (HAR.out _) ?_
            rintro e X ⟨rfl, rfl⟩
            dsimp only
            clear hHeld
            refine hK.out _ _ (sK EX) (fun hHeld => ?_)
            clear hK K
            try simp only [Act.put, sq1, sq2, sq3, sq4, sq5, sq6]
            refine wpAnyH_ready (rs := [16]) (by kernel_rfl) (by simp) ?_
            refine AllReadyH.cons (o := _) rfl (fun K hK => ?_) AllReadyH.nil
            go_simp
            obtain ⟨Y, hY⟩ := absW EX (.cells #[.int .i64 e1, .int .i64 e2, .int .i64 e3, .int .i64 e4, .int .i64 e5] 36)
            have IS := hid (intsNew EX [e1, e2, e3, e4, e5] #[.int .i64 e1, .int .i64 e2, .int .i64 e3, .int .i64 e4, .int .i64 e5] rfl)
            (try replace OB := hid (OB.out.alloc (.cells #[.int .i64 e1, .int .i64 e2, .int .i64 e3, .int .i64 e4, .int .i64 e5] 36)))
            replace EX := EX.alloc (.cells #[.int .i64 e1, .int .i64 e2, .int .i64 e3, .int .i64 e4, .int .i64 e5] 36)
            rw [hY] at EX IS ⊢
            (try rw [hY] at OB)
            clear hHeld hY
            refine hK.out _ _ (sK EX) (fun hHeld => ?_)
            clear hK K
            try simp only [Act.put, sq1, sq2, sq3, sq4, sq5, sq6]
            refine wpAnyH_ready (rs := [17]) (by kernel_rfl) (by simp) ?_
            refine AllReadyH.cons (o := _) rfl (fun K hK => ?_) AllReadyH.nil
            go_simp
            refine Calls.mono (HB.out _ (HE.trans EX) _ IS.out) ?_
            rintro e X ⟨N, A1, n1, c1, A2, n2, c2, rfl, hOV, hEX⟩
            dsimp only
            have OV := hid (show OutV f seen _ w.heap.size _ N _ _ from hOV.low (HE.trans EX).size)
            replace EX := EX.trans hEX
            (try replace OB := hid (OB.out.ext hEX))
            clear hHeld hEX hOV IS
            refine hK.out _ _ (sK EX) (fun hHeld => ?_)
            clear hK K
            try simp only [Act.put, sq1, sq2, sq3, sq4, sq5, sq6]
            refine tk1 (i := 18) (v := ?v18a13) rfl ?y18a13 ?r18a13
            case y18a13 => (intro w' hSw; (try dsimp only at hSw); go_simp; (try with_reducible rfl))
            try simp only [Act.put, sq1, sq2, sq3, sq4, sq5, sq6]
            refine tk1 (i := 19) (v := ?v19a13) rfl ?y19a13 ?r19a13
            case y19a13 => (intro w' hSw; (try dsimp only at hSw); go_simp; (try with_reducible rfl))
            try simp only [Act.put, sq1, sq2, sq3, sq4, sq5, sq6]
            refine tk1 (i := 20) (v := ?v20a13) rfl ?y20a13 ?r20a13
            case y20a13 => (intro w' hSw; (try dsimp only at hSw); go_simp; (try with_reducible rfl))
            try simp only [Act.put, sq1, sq2, sq3, sq4, sq5, sq6]
            refine wpAnyH_ready (rs := [22]) (by kernel_rfl) (by simp) ?_
            refine AllReadyH.cons (o := _) rfl (fun K hK => ?_) AllReadyH.nil
            refine wp_store_mid 100 _ _ rfl _ 0 #[.int .i64 (N : Int), .slice A1 n1 c1, .slice A2 n2 c2] rfl rfl (blk_there OB.out rfl) infoOut (out_one N A1 n1 c1 A2 n2 c2) ?_
            have OB2 := hid (Blk.fill3 OB.out (.int .i64 (N : Int)) (.slice A1 n1 c1) (.slice A2 n2 c2))
            have EX2 := ext_setCells EX LOB [.int .i64 (N : Int), .slice A1 n1 c1, .slice A2 n2 c2] 0
            have OV2 := hid (OV.out.apart (grown_setCells [.int .i64 (N : Int), .slice A1 n1 c1, .slice A2 n2 c2] 0) (Apart.blk OB.out (by decide)) (Apart.blk OB.out (by decide)) (Apart.blk OB.out (by decide)))
            clear hHeld
            refine hK.out _ _ (sK EX2) (fun hHeld => ?_)
            clear hK K
            try simp only [Act.put, sq1, sq2, sq3, sq4, sq5, sq6]
            refine tk1 (i := 23) (v := ?v23ea13) rfl ?y23ea13 ?r23ea13
            case y23ea13 => (intro w' hSw; (try dsimp only at hSw); go_simp; (try with_reducible rfl))
            try simp only [Act.put, sq1, sq2, sq3, sq4, sq5, sq6]
            refine wpAnyH_done (by kernel_rfl) ?_ _
            exact REST _ _ N A1 n1 c1 A2 n2 c2 _ EX2 LOB OB2 OV2.out
        · go_simp
          obtain ⟨Y, hY⟩ := absW EX (.cells #[.int .i64 0, .slice none 0 0, .slice none 0 0] 100)
          have OB := hid (blkNew EX 100 #[.int .i64 0, .slice none 0 0, .slice none 0 0])
          have LOB := EX.size
          replace EX := EX.alloc (.cells #[.int .i64 0, .slice none 0 0, .slice none 0 0] 100)
          (try replace IS := hid (IS.out.ext (ext_alloc1 _ (.cells #[.int .i64 0, .slice none 0 0, .slice none 0 0] 100))))
          (try replace OV := hid (OV.out.ext (ext_alloc1 _ (.cells #[.int .i64 0, .slice none 0 0, .slice none 0 0] 100))))
          rw [hY] at EX OB ⊢
          (try rw [hY] at IS)
          (try rw [hY] at OV)
          clear hHeld hY
          refine hK.out _ _ (sK EX) (fun hHeld => ?_)
          clear hK K
          try simp only [Act.put, sq1, sq2, sq3, sq4, sq5, sq6]
          refine wpAnyH_ready (rs := [11]) (by kernel_rfl) (by simp) ?_
          refine AllReadyH.cons (o := _) rfl (fun K hK => ?_) AllReadyH.nil
          go_simp
          refine Calls.mono (HR.out _ (HE.trans EX)) ?_
          rintro e X ⟨rfl, hEX⟩
          dsimp only
          replace EX := EX.trans hEX
          (try replace OB := hid (OB.out.ext hEX))
          (try replace IS := hid (IS.out.ext hEX))
          clear hHeld hEX
          refine hK.out _ _ (sK EX) (fun hHeld => ?_)
          clear hK K
          try simp only [Act.put, sq1, sq2, sq3, sq4, sq5, sq6]
          refine wpAnyH_ready (rs := [14]) (by kernel_rfl) (by simp) ?_
          refine AllReadyH.cons (o := _) rfl (fun K hK => ?_) AllReadyH.nil
          go_simp
          refine Calls.mono (HIP.out _ (HE.trans EX)) ?_
          rintro e X ⟨rfl, hEX⟩
          dsimp only
          replace EX := EX.trans hEX
          (try replace OB := hid (OB.out.ext hEX))
          (try replace IS := hid (IS.out.ext hEX))
          clear hHeld hEX
          refine hK.out _ _ (sK EX) (fun hHeld => ?_)
          clear hK K
          try simp only [Act.put, sq1, sq2, sq3, sq4, sq5, sq6]
          refine wpAnyH_ready (rs := [15]) (by kernel_rfl) (by simp) ?_
          refine AllReadyH.cons (o := _) rfl (fun K hK => ?_) AllReadyH.nil
          go_simp
          refine Calls.mono (HAR.out _) ?_
          rintro e X ⟨rfl, rfl⟩
          dsimp only
          clear hHeld
          refine hK.out _ _ (sK EX) (fun hHeld => ?_)
          clear hK K
          try simp only [Act.put, sq1, sq2, sq3, sq4, sq5, sq6]
          refine wpAnyH_ready (rs := [16]) (by kernel_rfl) (by simp) ?_
          refine AllReadyH.cons (o := _) rfl (fun K hK => ?_) AllReadyH.nil
          go_simp
          obtain ⟨Y, hY⟩ := absW EX (.cells #[.int .i64 e1, .int .i64 e2, .int .i64 e3, .int .i64 e4, .int .i64 e5] 36)
          have IS := hid (intsNew EX [e1, e2, e3, e4, e5] #[.int .i64 e1, .int .i64 e2, .int .i64 e3, .int .i64 e4, .int .i64 e5] rfl)
          (try replace OB := hid (OB.out.alloc (.cells #[.int .i64 e1, .int .i64 e2, .int .i64 e3, .int .i64 e4, .int .i64 e5] 36)))
          replace EX := EX.alloc (.cells #[.int .i64 e1, .int .i64 e2, .int .i64 e3, .int .i64 e4, .int .i64 e5] 36)
          rw [hY] at EX IS ⊢
          (try rw [hY] at OB)
          clear hHeld hY
          refine hK.out _ _ (sK EX) (fun hHeld => ?_)
          clear hK K
          try simp only [Act.put, sq1, sq2, sq3, sq4, sq5, sq6]
          refine wpAnyH_ready (rs := [17]) (by kernel_rfl) (by simp) ?_
          refine AllReadyH.cons (o := _) rfl (fun K hK => ?_) AllReadyH.nil
          go_simp
          refine Calls.mono (HB.out _ (HE.trans EX) _ IS.out) ?_
          rintro e X ⟨N, A1, n1, c1, A2, n2, c2, rfl, hOV, hEX⟩
          dsimp only
          have OV := hid (show OutV f seen _ w.heap.size _ N _ _ from hOV.low (HE.trans EX).size)
          replace EX := EX.trans hEX
          (try replace OB := hid (OB.out.ext hEX))
          clear hHeld hEX hOV IS
          refine hK.out _ _ (sK EX) (fun hHeld => ?_)
          clear hK K
          try simp only [Act.put, sq1, sq2, sq3, sq4, sq5, sq6]
          refine tk1 (i := 18) (v := ?v18a14) rfl ?y18a14 ?r18a14
          case y18a14 => (intro w' hSw; (try dsimp only at hSw); go_simp; (try with_reducible rfl))
          try simp only [Act.put, sq1, sq2, sq3, sq4, sq5, sq6]
          refine tk1 (i := 19) (v := ?v19a14) rfl ?y19a14 ?r19a14
          case y19a14 => (intro w' hSw; (try dsimp only at hSw); go_simp; (try with_reducible rfl))
          try simp only [Act.put, sq1, sq2, sq3, sq4, sq5, sq6]
          refine tk1 (i := 20) (v := ?v20a14) rfl ?y20a14 ?r20a14
          case y20a14 => (intro w' hSw; (try dsimp only at hSw); go_simp; (try with_reducible rfl))
          try simp only [Act.put, sq1, sq2, sq3, sq4, sq5, sq6]
          refine wpAnyH_ready (rs := [22]) (by kernel_rfl) (by simp) ?_
          refine AllReadyH.cons (o := _) rfl (fun K hK => ?_) AllReadyH.nil
          refine wp_store_mid 100 _ _ rfl _ 0 #[.int .i64 (N : Int), .slice A1 n1 c1, .slice A2 n2 c2] rfl rfl (blk_there OB.out rfl) infoOut (out_one N A1 n1 c1 A2 n2 c2) ?_
          have OB2 := hid (Blk.fill3 OB.out (.int .i64 (N : Int)) (.slice A1 n1 c1) (.slice A2 n2 c2))
          have EX2 := ext_setCells EX LOB [.int .i64 (N : Int), .slice A1 n1 c1, .slice A2 n2 c2] 0
          have OV2 := hid (OV.out.apart (grown_setCells [.int .i64 (N : Int), .slice A1 n1 c1, .slice A2 n2 c2] 0) (Apart.blk OB.out (by decide)) (Apart.blk OB.out (by decide)) (Apart.blk OB.out (by decide)))
          clear hHeld
          refine hK.out _ _ (sK EX2) (fun hHeld => ?_)
          clear hK K
          try simp only [Act.put, sq1, sq2, sq3, sq4, sq5, sq6]
          refine tk1 (i := 23) (v := ?v23ea14) rfl ?y23ea14 ?r23ea14
          case y23ea14 => (intro w' hSw; (try dsimp only at hSw); go_simp; (try with_reducible rfl))
          try simp only [Act.put, sq1, sq2, sq3, sq4, sq5, sq6]
          refine wpAnyH_done (by kernel_rfl) ?_ _
          exact REST _ _ N A1 n1 c1 A2 n2 c2 _ EX2 LOB OB2 OV2.out
      · go_simp
        obtain ⟨Y, hY⟩ := absW EX (.cells #[.int .i64 0, .slice none 0 0, .slice none 0 0] 100)
        have OB := hid (blkNew EX 100 #[.int .i64 0, .slice none 0 0, .slice none 0 0])
        have LOB := EX.size
        replace EX := EX.alloc (.cells #[.int .i64 0, .slice none 0 0, .slice none 0 0] 100)
        (try replace IS := hid (IS.out.ext (ext_alloc1 _ (.cells #[.int .i64 0, .slice none 0 0, .slice none 0 0] 100))))
        (try replace OV := hid (OV.out.ext (ext_alloc1 _ (.cells #[.int .i64 0, .slice none 0 0, .slice none 0 0] 100))))
        rw [hY] at EX OB ⊢
        (try rw [hY] at IS)
        (try rw [hY] at OV)
        clear hHeld hY
        refine hK.out _ _ (sK EX) (fun hHeld => ?_)
        clear hK K
        try simp only [Act.put, sq1, sq2, sq3, sq4, sq5, sq6]
        refine wpAnyH_ready (rs := [8]) (by kernel_rfl) (by simp) ?_
        refine AllReadyH.cons (o := _) rfl (fun K hK => ?_) AllReadyH.nil
        go_simp
        refine Calls.mono (HS.out _ (HE.trans EX)) ?_
        rintro e X ⟨rfl, hEX⟩
        dsimp only
        replace EX := EX.trans hEX
        (try replace OB := hid (OB.out.ext hEX))
        (try replace IS := hid (IS.out.ext hEX))
        clear hHeld hEX
        refine hK.out _ _ (sK EX) (fun hHeld => ?_)
        clear hK K
        try simp only [Act.put, sq1, sq2, sq3, sq4, sq5, sq6]
        refine wpAnyH_ready (rs := [11]) (by kernel_rfl) (by simp) ?_
        refine AllReadyH.cons (o := _) rfl (fun K hK => ?_) AllReadyH.nil
        go_simp
        refine Calls.mono (HR.out _ (HE.trans EX)) ?_
        rintro e X ⟨rfl, hEX⟩
        dsimp only
        replace EX := EX.trans hEX
        (try replace OB := hid (OB.out.ext hEX))
        (try replace IS := hid (IS.out.ext hEX))
        clear hHeld hEX
        refine hK.out _ _ (sK EX) (fun hHeld => ?_)
        clear hK K
        try simp only [Act.put, sq1, sq2, sq3, sq4, sq5, sq6]
        refine wpAnyH_ready (rs := [14]) (by kernel_rfl) (by simp) ?_
        refine AllReadyH.cons (o := _) rfl (fun K hK => ?_) AllReadyH.nil
        go_simp
        refine Calls.mono (HIP.out _ (HE.trans EX)) ?_
        rintro e X ⟨rfl, hEX⟩
        dsimp only
        replace EX := EX.trans hEX
        (try replace OB := hid (OB.out.ext hEX))
        (try replace IS := hid (IS.out.ext hEX))
        clear hHeld hEX
        refine hK.out _ _ (sK EX) (fun hHeld => ?_)
        clear hK K
        try simp only [Act.put, sq1, sq2, sq3, sq4, sq5, sq6]
        refine wpAnyH_ready (rs := [15]) (by kernel_rfl) (by simp) ?_
        refine AllReadyH.cons (o := _) rfl (fun K hK => ?_) AllReadyH.nil
        go_simp
        refine Calls.mono (HAR.out _) ?_
        rintro e X ⟨rfl, rfl⟩
        dsimp only
        clear hHeld
        refine hK.out _ _ (sK EX) (fun hHeld => ?_)
        clear hK K
        try simp only [Act.put, sq1, sq2, sq3, sq4, sq5, sq6]
        refine wpAnyH_ready (rs := [16]) (by kernel_rfl) (by simp) ?_
        refine AllReadyH.cons (o := _) rfl (fun K hK => ?_) AllReadyH.nil
        go_simp
        obtain ⟨Y, hY⟩ := absW EX (.cells #[.int .i64 e1, .int .i64 e2, .int .i64 e3, .int .i64 e4, .int .i64 e5] 36)
        have IS := hid (intsNew EX [e1, e2, e3, e4, e5] #[.int .i64 e1, .int .i64 e2, .int .i64 e3, .int .i64 e4, .int .i64 e5] rfl)
        (try replace OB := hid (OB.out.alloc (.cells #[.int .i64 e1, .int .i64 e2, .int .i64 e3, .int .i64 e4, .int .i64 e5] 36)))
        replace EX := EX.alloc (.cells #[.int .i64 e1, .int .i64 e2, .int .i64 e3, .int .i64 e4, .int .i64 e5] 36)
        rw [hY] at EX IS ⊢
        (try rw [hY] at OB)
        clear hHeld hY
        refine hK.out _ _ (sK EX) (fun hHeld => ?_)
        clear hK K
        try simp only [Act.put, sq1, sq2, sq3, sq4, sq5, sq6]
        refine wpAnyH_ready (rs := [17]) (by kernel_rfl) (by simp) ?_
        refine AllReadyH.cons (o := _) rfl (fun K hK => ?_) AllReadyH.nil
        go_simp
        refine Calls.mono (HB.out _ (HE.trans EX) _ IS.out) ?_
        rintro e X ⟨N, A1, n1, c1, A2, n2, c2, rfl, hOV, hEX⟩
        dsimp only
        have OV := hid (show OutV f seen _ w.heap.size _ N _ _ from hOV.low (HE.trans EX).size)
        replace EX := EX.trans hEX
        (try replace OB := hid (OB.out.ext hEX))
        clear hHeld hEX hOV IS
        refine hK.out _ _ (sK EX) (fun hHeld => ?_)
        clear hK K
        try simp only [Act.put, sq1, sq2, sq3, sq4, sq5, sq6]
        refine tk1 (i := 18) (v := ?v18a15) rfl ?y18a15 ?r18a15
        case y18a15 => (intro w' hSw; (try dsimp only at hSw); go_simp; (try with_reducible rfl))
        try simp only [Act.put, sq1, sq2, sq3, sq4, sq5, sq6]
        refine tk1 (i := 19) (v := ?v19a15) rfl ?y19a15 ?r19a15
        case y19a15 => (intro w' hSw; (try dsimp only at hSw); go_simp; (try with_reducible rfl))
        try simp only [Act.put, sq1, sq2, sq3, sq4, sq5, sq6]
        refine tk1 (i := 20) (v := ?v20a15) rfl ?y20a15 ?r20a15
        case y20a15 => (intro w' hSw; (try dsimp only at hSw); go_simp; (try with_reducible rfl))
        try simp only [Act.put, sq1, sq2, sq3, sq4, sq5, sq6]
        refine wpAnyH_ready (rs := [22]) (by kernel_rfl) (by simp) ?_
        refine AllReadyH.cons (o := _) rfl (fun K hK => ?_) AllReadyH.nil
        refine wp_store_mid 100 _ _ rfl _ 0 #[.int .i64 (N : Int), .slice A1 n1 c1, .slice A2 n2 c2] rfl rfl (blk_there OB.out rfl) infoOut (out_one N A1 n1 c1 A2 n2 c2) ?_
        have OB2 := hid (Blk.fill3 OB.out (.int .i64 (N : Int)) (.slice A1 n1 c1) (.slice A2 n2 c2))
        have EX2 := ext_setCells EX LOB [.int .i64 (N : Int), .slice A1 n1 c1, .slice A2 n2 c2] 0
        have OV2 := hid (OV.out.apart (grown_setCells [.int .i64 (N : Int), .slice A1 n1 c1, .slice A2 n2 c2] 0) (Apart.blk OB.out (by decide)) (Apart.blk OB.out (by decide)) (Apart.blk OB.out (by decide)))
        clear hHeld
        refine hK.out _ _ (sK EX2) (fun hHeld => ?_)
        clear hK K
        try simp only [Act.put, sq1, sq2, sq3, sq4, sq5, sq6]
        refine tk1 (i := 23) (v := ?v23ea15) rfl ?y23ea15 ?r23ea15
        case y23ea15 => (intro w' hSw; (try dsimp only at hSw); go_simp; (try with_reducible rfl))
        try simp only [Act.put, sq1, sq2, sq3, sq4, sq5, sq6]
        refine wpAnyH_done (by kernel_rfl) ?_ _
        exact REST _ _ N A1 n1 c1 A2 n2 c2 _ EX2 LOB OB2 OV2.out
    · go_simp
      obtain ⟨Y, hY⟩ := absW EX (.cells #[.int .i64 0, .slice none 0 0, .slice none 0 0] 100)
      have OB := hid (blkNew EX 100 #[.int .i64 0, .slice none 0 0, .slice none 0 0])
      have LOB := EX.size
      replace EX := EX.alloc (.cells #[.int .i64 0, .slice none 0 0, .slice none 0 0] 100)
      (try replace IS := hid (IS.out.ext (ext_alloc1 _ (.cells #[.int .i64 0, .slice none 0 0, .slice none 0 0] 100))))
      (try replace OV := hid (OV.out.ext (ext_alloc1 _ (.cells #[.int .i64 0, .slice none 0 0, .slice none 0 0] 100))))
      rw [hY] at EX OB ⊢
      (try rw [hY] at IS)
      (try rw [hY] at OV)
      clear hHeld hY
      refine hK.out _ _ (sK EX) (fun hHeld => ?_)
      clear hK K
      try simp only [Act.put, sq1, sq2, sq3, sq4, sq5, sq6]
      refine wpAnyH_ready (rs := [5]) (by kernel_rfl) (by simp) ?_
      refine AllReadyH.cons (o := _) rfl (fun K hK => ?_) AllReadyH.nil
      go_simp
      refine Calls.mono (HP.out _ (HE.trans EX)) ?_
      rintro e X ⟨rfl, hEX⟩
      dsimp only
      replace EX := EX.trans hEX
      (try replace OB := hid (OB.out.ext hEX))
      (try replace IS := hid (IS.out.ext hEX))
      clear hHeld hEX
      refine hK.out _ _ (sK EX) (fun hHeld => ?_)
      clear hK K
      try simp only [Act.put, sq1, sq2, sq3, sq4, sq5, sq6]
      refine wpAnyH_ready (rs := [8]) (by kernel_rfl) (by simp) ?_
      refine AllReadyH.cons (o := _) rfl (fun K hK => ?_) AllReadyH.nil
      go_simp
      refine Calls.mono (HS.out _ (HE.trans EX)) ?_
      rintro e X ⟨rfl, hEX⟩
      dsimp only
      replace EX := EX.trans hEX
      (try replace OB := hid (OB.out.ext hEX))
      (try replace IS := hid (IS.out.ext hEX))
      clear hHeld hEX
      refine hK.out _ _ (sK EX) (fun hHeld => ?_)
      clear hK K
      try simp only [Act.put, sq1, sq2, sq3, sq4, sq5, sq6]
      refine wpAnyH_ready (rs := [11]) (by kernel_rfl) (by simp) ?_
      refine AllReadyH.cons (o := _) rfl (fun K hK => ?_) AllReadyH.nil
      go_simp
      refine Calls.mono (HR.out _ (HE.trans EX)) ?_
      rintro e X ⟨rfl, hEX⟩
      dsimp only
      replace EX := EX.trans hEX
      (try replace OB := hid (OB.out.ext hEX))
      (try replace IS := hid (IS.out.ext hEX))
      clear hHeld hEX
      refine hK.out _ _ (sK EX) (fun hHeld => ?_)
      clear hK K
      try simp only [Act.put, sq1, sq2, sq3, sq4, sq5, sq6]
      refine wpAnyH_ready (rs := [14]) (by kernel_rfl) (by simp) ?_
      refine AllReadyH.cons (o := _) rfl (fun K hK => ?_) AllReadyH.nil
      go_simp
      refine Calls.mono (HIP.out _ (HE.trans EX)) ?_
      rintro e X ⟨rfl, hEX⟩
      dsimp only
      replace EX := EX.trans hEX
      (try replace OB := hid (OB.out.ext hEX))
      (try replace IS := hid (IS.out.ext hEX))
      clear hHeld hEX
      refine hK.out _ _ (sK EX) (fun hHeld => ?_)
      clear hK K
      try simp only [Act.put, sq1, sq2, sq3, sq4, sq5, sq6]
      refine wpAnyH_ready (rs := [15]) (by kernel_rfl) (by simp) ?_
      refine AllReadyH.cons (o := _) rfl (fun K hK => ?_) AllReadyH.nil
      go_simp
      refine Calls.mono (HAR.out _) ?_
      rintro e X ⟨rfl, rfl⟩
      dsimp only
      clear hHeld
      refine hK.out _ _ (sK EX) (fun hHeld => ?_)
      clear hK K
      try simp only [Act.put, sq1, sq2, sq3, sq4, sq5, sq6]
      refine wpAnyH_ready (rs := [16]) (by kernel_rfl) (by simp) ?_
      refine AllReadyH.cons (o := _) rfl (fun K hK => ?_) AllReadyH.nil
      go_simp
      obtain ⟨Y, hY⟩ := absW EX (.cells #[.int .i64 e1, .int .i64 e2, .int .i64 e3, .int .i64 e4, .int .i64 e5] 36)
      have IS := hid (intsNew EX [e1, e2, e3, e4, e5] #[.int .i64 e1, .int .i64 e2, .int .i64 e3, .int .i64 e4, .int .i64 e5] rfl)
      (try replace OB := hid (OB.out.alloc (.cells #[.int .i64 e1, .int .i64 e2, .int .i64 e3, .int .i64 e4, .int .i64 e5] 36)))
      replace EX := EX.alloc (.cells #[.int .i64 e1, .int .i64 e2, .int .i64 e3, .int .i64 e4, .int .i64 e5] 36)
      rw [hY] at EX IS ⊢
      (try rw [hY] at OB)
      clear hHeld hY
      refine hK.out _ _ (sK EX) (fun hHeld => ?_)
      clear hK K
      try simp only [Act.put, sq1, sq2, sq3, sq4, sq5, sq6]
      refine wpAnyH_ready (rs := [17]) (by kernel_rfl) (by simp) ?_
      refine AllReadyH.cons (o := _) rfl (fun K hK => ?_) AllReadyH.nil
      go_simp
      refine Calls.mono (HB.out _ (HE.trans EX) _ IS.out) ?_
      rintro e X ⟨N, A1, n1, c1, A2, n2, c2, rfl, hOV, hEX⟩
      dsimp only
      have OV := hid (show OutV f seen _ w.heap.size _ N _ _ from hOV.low (HE.trans EX).size)
      replace EX := EX.trans hEX
      (try replace OB := hid (OB.out.ext hEX))
      clear hHeld hEX hOV IS
      refine hK.out _ _ (sK EX) (fun hHeld => ?_)
      clear hK K
      try simp only [Act.put, sq1, sq2, sq3, sq4, sq5, sq6]
      refine tk1 (i := 18) (v := ?v18a16) rfl ?y18a16 ?r18a16
      case y18a16 => (intro w' hSw; (try dsimp only at hSw); go_simp; (try with_reducible rfl))
      try simp only [Act.put, sq1, sq2, sq3, sq4, sq5, sq6]
      refine tk1 (i := 19) (v := ?v19a16) rfl ?y19a16 ?r19a16
      case y19a16 => (intro w' hSw; (try dsimp only at hSw); go_simp; (try with_reducible rfl))
      try simp only [Act.put, sq1, sq2, sq3, sq4, sq5, sq6]
      refine tk1 (i := 20) (v := ?v20a16) rfl ?y20a16 ?r20a16
      case y20a16 => (intro w' hSw; (try dsimp only at hSw); go_simp; (try with_reducible rfl))
      try simp only [Act.put, sq1, sq2, sq3, sq4, sq5, sq6]
      refine wpAnyH_ready (rs := [22]) (by kernel_rfl) (by simp) ?_
      refine AllReadyH.cons (o := _) rfl (fun K hK => ?_) AllReadyH.nil
      refine wp_store_mid 100 _ _ rfl _ 0 #[.int .i64 (N : Int), .slice A1 n1 c1, .slice A2 n2 c2] rfl rfl (blk_there OB.out rfl) infoOut (out_one N A1 n1 c1 A2 n2 c2) ?_
      have OB2 := hid (Blk.fill3 OB.out (.int .i64 (N : Int)) (.slice A1 n1 c1) (.slice A2 n2 c2))
      have EX2 := ext_setCells EX LOB [.int .i64 (N : Int), .slice A1 n1 c1, .slice A2 n2 c2] 0
      have OV2 := hid (OV.out.apart (grown_setCells [.int .i64 (N : Int), .slice A1 n1 c1, .slice A2 n2 c2] 0) (Apart.blk OB.out (by decide)) (Apart.blk OB.out (by decide)) (Apart.blk OB.out (by decide)))
      clear hHeld
      refine hK.out _ _ (sK EX2) (fun hHeld => ?_)
      clear hK K
      try simp only [Act.put, sq1, sq2, sq3, sq4, sq5, sq6]
      refine tk1 (i := 23) (v := ?v23ea16) rfl ?y23ea16 ?r23ea16
      case y23ea16 => (intro w' hSw; (try dsimp only at hSw); go_simp; (try with_reducible rfl))
      try simp only [Act.put, sq1, sq2, sq3, sq4, sq5, sq6]
      refine wpAnyH_done (by kernel_rfl) ?_ _
      exact REST _ _ N A1 n1 c1 A2 n2 c2 _ EX2 LOB OB2 OV2.out
  · go_simp
    obtain ⟨Y, hY⟩ := absW EX (.cells #[.int .i64 0, .slice none 0 0, .slice none 0 0] 100)
    have OB := hid (blkNew EX 100 #[.int .i64 0, .slice none 0 0, .slice none 0 0])
    have LOB := EX.size
    replace EX := EX.alloc (.cells #[.int .i64 0, .slice none 0 0, .slice none 0 0] 100)
    (try replace IS := hid (IS.out.ext (ext_alloc1 _ (.cells #[.int .i64 0, .slice none 0 0, .slice none 0 0] 100))))
    (try replace OV := hid (OV.out.ext (ext_alloc1 _ (.cells #[.int .i64 0, .slice none 0 0, .slice none 0 0] 100))))
    rw [hY] at EX OB ⊢
    (try rw [hY] at IS)
    (try rw [hY] at OV)
    clear hHeld hY
    refine hK.out _ _ (sK EX) (fun hHeld => ?_)
    clear hK K
    try simp only [Act.put, sq1, sq2, sq3, sq4, sq5, sq6]
    refine wpAnyH_ready (rs := [3]) (by kernel_rfl) (by simp) ?_
    refine AllReadyH.cons (o := _) rfl (fun K hK => ?_) AllReadyH.nil
    go_simp
    refine Calls.mono (HC.out _ (HE.trans EX)) ?_
    rintro e X ⟨rfl, hEX⟩
    dsimp only
    replace EX := EX.trans hEX
    (try replace OB := hid (OB.out.ext hEX))
    (try replace IS := hid (IS.out.ext hEX))
    clear hHeld hEX
    refine hK.out _ _ (sK EX) (fun hHeld => ?_)
    clear hK K
    try simp only [Act.put, sq1, sq2, sq3, sq4, sq5, sq6]
    refine wpAnyH_ready (rs := [5]) (by kernel_rfl) (by simp) ?_
    refine AllReadyH.cons (o := _) rfl (fun K hK => ?_) AllReadyH.nil
    go_simp
    refine Calls.mono (HP.out _ (HE.trans EX)) ?_
    rintro e X ⟨rfl, hEX⟩
    dsimp only
    replace EX := EX.trans hEX
    (try replace OB := hid (OB.out.ext hEX))
    (try replace IS := hid (IS.out.ext hEX))
    clear hHeld hEX
    refine hK.out _ _ (sK EX) (fun hHeld => ?_)
    clear hK K
    try simp only [Act.put, sq1, sq2, sq3, sq4, sq5, sq6]
    refine wpAnyH_ready (rs := [8]) (by kernel_rfl) (by simp) ?_
    refine AllReadyH.cons (o := _) rfl (fun K hK => ?_) AllReadyH.nil
    go_simp
    refine Calls.mono (HS.out _ (HE.trans EX)) ?_
    rintro e X ⟨rfl, hEX⟩
    dsimp only
    replace EX := EX.trans hEX
    (try replace OB := hid (OB.out.ext hEX))
    (try replace IS := hid (IS.out.ext hEX))
    clear hHeld hEX
    refine hK.out _ _ (sK EX) (fun hHeld => ?_)
    clear hK K
    try simp only [Act.put, sq1, sq2, sq3, sq4, sq5, sq6]
    refine wpAnyH_ready (rs := [11]) (by kernel_rfl) (by simp) ?_
    refine AllReadyH.cons (o := _) rfl (fun K hK => ?_) AllReadyH.nil
    go_simp
    refine Calls.mono (HR.out _ (HE.trans EX)) ?_
    rintro e X ⟨rfl, hEX⟩
    dsimp only
    replace EX := EX.trans hEX
    (try replace OB := hid (OB.out.ext hEX))
    (try replace IS := hid (IS.out.ext hEX))
    clear hHeld hEX
    refine hK.out _ _ (sK EX) (fun hHeld => ?_)
    clear hK K
    try simp only [Act.put, sq1, sq2, sq3, sq4, sq5, sq6]
    refine wpAnyH_ready (rs := [14]) (by kernel_rfl) (by simp) ?_
    refine AllReadyH.cons (o := _) rfl (fun K hK => ?_) AllReadyH.nil
    go_simp
    refine Calls.mono (HIP.out _ (HE.trans EX)) ?_
    rintro e X ⟨rfl, hEX⟩
    dsimp only
    replace EX := EX.trans hEX
    (try replace OB := hid (OB.out.ext hEX))
    (try replace IS := hid (IS.out.ext hEX))
    clear hHeld hEX
    refine hK.out _ _ (sK EX) (fun hHeld => ?_)
    clear hK K
    try simp only [Act.put, sq1, sq2, sq3, sq4, sq5, sq6]
    refine wpAnyH_ready (rs := [15]) (by kernel_rfl) (by simp) ?_
    refine AllReadyH.cons (o := _) rfl (fun K hK => ?_) AllReadyH.nil
    go_simp
    refine Calls.mono (HAR.out _) ?_
    rintro e X ⟨rfl, rfl⟩
    dsimp only
    clear hHeld
    refine hK.out _ _ (sK EX) (fun hHeld => ?_)
    clear hK K
    try simp only [Act.put, sq1, sq2, sq3, sq4, sq5, sq6]
    refine wpAnyH_ready (rs := [16]) (by kernel_rfl) (by simp) ?_
    refine AllReadyH.cons (o := _) rfl (fun K hK => ?_) AllReadyH.nil
    go_simp
    obtain ⟨Y, hY⟩ := absW EX (.cells #[.int .i64 e1, .int .i64 e2, .int .i64 e3, .int .i64 e4, .int .i64 e5] 36)
    have IS := hid (intsNew EX [e1, e2, e3, e4, e5] #[.int .i64 e1, .int .i64 e2, .int .i64 e3, .int .i64 e4, .int .i64 e5] rfl)
    (try replace OB := hid (OB.out.alloc (.cells #[.int .i64 e1, .int .i64 e2, .int .i64 e3, .int .i64 e4, .int .i64 e5] 36)))
    replace EX := EX.alloc (.cells #[.int .i64 e1, .int .i64 e2, .int .i64 e3, .int .i64 e4, .int .i64 e5] 36)
    rw [hY] at EX IS ⊢
    (try rw [hY] at OB)
    clear hHeld hY
    refine hK.out _ _ (sK EX) (fun hHeld => ?_)
    clear hK K
    try simp only [Act.put, sq1, sq2, sq3, sq4, sq5, sq6]
    refine wpAnyH_ready (rs := [17]) (by kernel_rfl) (by simp) ?_
    refine AllReadyH.cons (o := _) rfl (fun K hK => ?_) AllReadyH.nil
    go_simp
    refine Calls.mono (HB.out _ (HE.trans EX) _ IS.out) ?_
    rintro e X ⟨N, A1, n1, c1, A2, n2, c2, rfl, hOV, hEX⟩
    dsimp only
    have OV := hid (show OutV f seen _ w.heap.size _ N _ _ from hOV.low (HE.trans EX).size)
    replace EX := EX.trans hEX
    (try replace OB := hid (OB.out.ext hEX))
    clear hHeld hEX hOV IS
    refine hK.out _ _ (sK EX) (fun hHeld => ?_)
    clear hK K
    try simp only [Act.put, sq1, sq2, sq3, sq4, sq5, sq6]
    refine tk1 (i := 18) (v := ?v18a17) rfl ?y18a17 ?r18a17
    case y18a17 => (intro w' hSw; (try dsimp only at hSw); go_simp; (try with_reducible rfl))
    try simp only [Act.put, sq1, sq2, sq3, sq4, sq5, sq6]
    refine tk1 (i := 19) (v := ?v19a17) rfl ?y19a17 ?r19a17
    case y19a17 => (intro w' hSw; (try dsimp only at hSw); go_simp; (try with_reducible rfl))
    try simp only [Act.put, sq1, sq2, sq3, sq4, sq5, sq6]
    refine tk1 (i := 20) (v := ?v20a17) rfl ?y20a17 ?r20a17
    case y20a17 => (intro w' hSw; (try dsimp only at hSw); go_simp; (try with_reducible rfl))
    try simp only [Act.put, sq1, sq2, sq3, sq4, sq5, sq6]
    refine wpAnyH_ready (rs := [22]) (by kernel_rfl) (by simp) ?_
    refine AllReadyH.cons (o := _) rfl (fun K hK => ?_) AllReadyH.nil
    refine wp_store_mid 100 _ _ rfl _ 0 #[.int .i64 (N : Int), .slice A1 n1 c1, .slice A2 n2 c2] rfl rfl (blk_there OB.out rfl) infoOut (out_one N A1 n1 c1 A2 n2 c2) ?_
    have OB2 := hid (Blk.fill3 OB.out (.int .i64 (N : Int)) (.slice A1 n1 c1) (.slice A2 n2 c2))
    have EX2 := ext_setCells EX LOB [.int .i64 (N : Int), .slice A1 n1 c1, .slice A2 n2 c2] 0
    have OV2 := hid (OV.out.apart (grown_setCells [.int .i64 (N : Int), .slice A1 n1 c1, .slice A2 n2 c2] 0) (Apart.blk OB.out (by decide)) (Apart.blk OB.out (by decide)) (Apart.blk OB.out (by decide)))
    clear hHeld
    refine hK.out _ _ (sK EX2) (fun hHeld => ?_)
    clear hK K
    try simp only [Act.put, sq1, sq2, sq3, sq4, sq5, sq6]
    refine tk1 (i := 23) (v := ?v23ea17) rfl ?y23ea17 ?r23ea17
    case y23ea17 => (intro w' hSw; (try dsimp only at hSw); go_simp; (try with_reducible rfl))
    try simp only [Act.put, sq1, sq2, sq3, sq4, sq5, sq6]
    refine wpAnyH_done (by kernel_rfl) ?_ _
    exact REST _ _ N A1 n1 c1 A2 n2 c2 _ EX2 LOB OB2 OV2.out
end Go.Proofs.YtecamnhnjmldcaaGreatDoor
