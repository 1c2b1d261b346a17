/- Open of the specification. -/
import Derived.Test.YtecamnhnjmldcaaGreatDoorBTopOpens37
import Derived.Test.YtecamnhnjmldcaaGreatDoorBTopOpens38
set_option linter.unusedSimpArgs false
set_option linter.unusedVariables false
namespace Go.Proofs.YtecamnhnjmldcaaGreatDoor
open Go.RowKit
set_option maxHeartbeats 8000000 in
set_option maxRecDepth 100000 in
theorem rOpen_any (f : List (List Hr)) (A : Option Addr) (n c : Nat) (seen : List Sg) (SA : Option Addr) (sm sc : Nat) (m : Int) (ps : List Pt) (NA : Option Addr) (nn nc : Nat) (hpn : ps.length = nn) (hpm : nn ≤ 1000) (rs : List Rl) (RA : Option Addr) (rn rc : Nat) (hrn : rs.length = rn) (hrm : rn ≤ 1000)
    (path : Int) (w : World) (h : FIn w f A n seen SA sm) (hp : PathsAt w NA ps) (hr : RlsAt w RA rs) :
    Calls Tryz.prog 20 #[.agg #[.int .i64 m, .slice NA nn nc], .slice RA rn rc, .agg #[.slice A n c], .slice SA sm sc, .int .i64 path] w (OpenIs f seen m ps rs path w) := by
  have HN := hid (fun (W : World) (hW : Ext w W) => rNetChk_any m NA nn nc ps hpn W (hp.ext hW))
  change Hid (∀ W, Ext w W → Calls _ _ _ _ fun e w' => e = .returned (.int .i64 (netE m ps)) ∧ Ext W w') at HN
  have HIP := hid (fun (W : World) => by
    have := rIsPath_any path (.int .i64 m) NA nn nc hpm W
    rw [isPath_in] at this
    exact this)
  have HCR := hid (fun (W : World) (hW : Ext w W) => by
    have := rchkRules_any f A n c seen SA sm sc m ps NA nn nc hpn hpm rs RA rn rc hrn hrm (decide (netE m ps = 0) && inI path 0 ((ps.length : Int) - 1)) W (h.ext hW) (hp.ext hW) (hr.ext hW)
    rw [rcrE_open] at this
    exact this)
  rw [hpn] at HCR
  have HSU := hid (fun (h0 : opnE f seen m ps rs path = 0) => show opnS f seen m ps rs path = sureM (forP rs path) (scsM seen f) (hoursN f) from if_pos h0)
  have HMA := hid (fun (h0 : opnE f seen m ps rs path = 0) => show opnM f seen m ps rs path = mayM (forP rs path) (scsM seen f) (hoursN f) from if_pos h0)
  have HSN := hid (fun (h0 : opnE f seen m ps rs path ≠ 0) => show opnS f seen m ps rs path = [] from if_neg h0)
  have HMN := hid (fun (h0 : opnE f seen m ps rs path ≠ 0) => show opnM f seen m ps rs path = [] from if_neg h0)
  have HHR := hid (fun (h0 : opnE f seen m ps rs path = 0) (W : World) (hW : Ext w W) => rhours_any f A n c seen SA sm sc rs RA rn rc hrn hrm (rlsB_aft (opnE_ok h0).1.ru) path W (h.ext hW) (hr.ext hW) (opnE_ok h0).1.fc (opnE_ok h0).1.sg)
  have HES := hid (fun (h0 : opnE f seen m ps rs path = 0) => hoS_eq (opnE_ok h0).1.fc (opnE_ok h0).1.sg path rn hrn)
  have HEM := hid (fun (h0 : opnE f seen m ps rs path = 0) => hoM_eq (opnE_ok h0).1.fc (opnE_ok h0).1.sg path rn hrn)
  have hNN := h.hours
  have HSP := hid (fun (p : Nat → Bool) (W : World) (A2 : Option Addr) (c2 : Nat) (hx : BosAt W A2 (tabL (hoursN f) p)) => rspans_any (tabL (hoursN f) p) A2 (hoursN f) c2 (tabL_len _ p) (by omega) W hx)
  have B0 := hid (show Blk _ _ _ _ from blk_old (blk_last w (.cells #[.int .i64 m, .slice NA nn nc] 47)) (.cells #[.slice A n c] 24))
  have B1 := hid (show Blk _ _ _ _ from blk_last (w.alloc (.cells #[.int .i64 m, .slice NA nn nc] 47)) (.cells #[.slice A n c] 24))
  rw [World.size_alloc] at B1
  have E : Ext w ((w.alloc (.cells #[.int .i64 m, .slice NA nn nc] 47)).alloc (.cells #[.slice A n c] 24)) := by (repeat' (first | with_reducible assumption | with_reducible exact Ext.refl _ | with_reducible refine Ext.alloc ?_ _ | with_reducible refine Ext.set ?_ ?_ _ | with_reducible refine Ext.drew ?_ | with_reducible refine Ext.drewN ?_ _ | with_reducible refine Ext.trans ?_ (by assumption) | (dsimp only; omega)))
  unfold OpenIs
  clear h hp hr hrn
  generalize hrA rs path rn seen f = HA at *
  generalize hrE rs path rn seen f = HE0 at *
  generalize opnS f seen m ps rs path = SV at *
  generalize opnM f seen m ps rs path = MV at *
  generalize opnE f seen m ps rs path = oe at *
  generalize sureM (forP rs path) (scsM seen f) (hoursN f) = SU at *
  generalize mayM (forP rs path) (scsM seen f) (hoursN f) = MA at *
  generalize inI path 0 ((nn : Int) - 1) = ip at *
  generalize netE m ps = ne at *
  generalize hoursN f = N at *
  go_enter Tryz.func20, Tryz.ntmps20
  go_wp2_with fail
  refine abs_anyW (G := fun W => Code.wp _ _ _ _ W) (fun X => Blk X w.heap.size 47 #[.int .i64 m, .slice NA nn nc] ∧ Blk X (w.heap.size + 1) 24 #[.slice A n c] ∧ Ext w X) ⟨B0.out, B1.out, E⟩ ?_
  clear B0 B1 E
  rintro U ⟨b0, b1, E⟩
  have B0 := hid b0
  have B1 := hid b1
  clear b0 b1
  have hE := Ext.refl U
  replace E := E.trans hE
  replace B0 := hid (B0.out.ext hE)
  replace B1 := hid (B1.out.ext hE)
  clear hE
  (try clear a0 a1 l0 z0 z1)
  obtain ⟨a0, a1⟩ : _ ∧ _ := ⟨B0.out.cell 0, B0.out.cell 1⟩
  have l0 := B1.out.cell 0
  have z0 := B0.out.lt
  have z1 := B1.out.lt
  simp only [List.getElem?_toArray, List.getElem?_cons_zero, List.getElem?_cons_succ] at a0 a1 l0
  refine region_rest (fun QQ => ∀ (Y : World) (u24 u25 u26 : Value), Ext U Y → QQ .normal { tmps := #[.agg #[.int .i64 m, .slice NA nn nc], .slice RA rn rc, .agg #[.slice A n c], .slice SA sm sc, .int .i64 path, .pointer (some ⟨w.heap.size, 0, none⟩), undef, .pointer (some ⟨w.heap.size + 1, 0, none⟩), undef, undef, .slice none 0 0, .slice none 0 0, .int .i64 0, .int .i64 oe, undef, undef,
      .agg #[.int .i64 m, .slice NA nn nc], .slice RA rn rc, .agg #[.slice A n c], .slice SA sm sc, .agg #[.int .i64 m, .slice NA nn nc], .int .i64 ne, .bool (decide (ne = 0)), .bool (decide (ne = 0)), u24, u25, u26, .bool (decide (ne = 0) && ip), .int .i64 oe, undef, undef, undef, undef, undef, undef, undef, undef, undef, undef, undef, undef, undef, undef, undef], defers := [] } Y) ?rest (fun REST => ?_)
  case rest =>
    intro Y u24 u25 u26 hE
    replace E := E.trans hE
    replace B0 := hid (B0.out.ext hE)
    replace B1 := hid (B1.out.ext hE)
    clear hE
    (try clear a0 a1 l0 z0 z1)
    obtain ⟨a0, a1⟩ : _ ∧ _ := ⟨B0.out.cell 0, B0.out.cell 1⟩
    have l0 := B1.out.cell 0
    have z0 := B0.out.lt
    have z1 := B1.out.lt
    simp only [List.getElem?_toArray, List.getElem?_cons_zero, List.getElem?_cons_succ] at a0 a1 l0
    clear HN HIP HCR
    by_cases h0 : oe = 0
    · have HHR1 := hid (HHR.out h0)
      have hs := HSU.out h0
      have hm := HMA.out h0
      have he1 := HES.out h0
      have he2 := HEM.out h0
      subst hs hm h0
      clear HSU HMA HSN HMN HHR HES HEM
      go_wp2_with fail
      refine (HHR1.out _ E).mono ?_
      rintro e w5 ⟨v, u, rfl, ho1, ho2, hE⟩
      obtain ⟨A7, c7, rfl, -, hf7, -⟩ := (ho1.form (by decide) (fun _ => rfl) false)
      obtain ⟨A8, c8, rfl, -, hf8, -⟩ := (ho2.form (by decide) (fun _ => rfl) false)
      rw [tabL_len, tabL_len]
      have HX1 := hid (fun (W : World) (hW : Ext w5 W) => HSP.out HA W A7 c7 ((flat_bos.1 hf7).ext hW))
      have HX2 := hid (fun (W : World) (hW : Ext w5 W) => HSP.out HE0 W A8 c8 ((flat_bos.1 hf8).ext hW))
      rw [he1] at HX1
      rw [he2] at HX2
      replace E := E.trans hE
      clear HSP HHR1 ho1 ho2 hf7 hf8 hE he1 he2 B0 B1 a0 a1 l0 z0 z1
      go_wp2_with fail
      refine (HX1.out _ (Ext.refl _)).mono ?_
      rintro e w6 ⟨A5, c5, rfl, o5, hE5⟩
      go_wp2_with fail
      refine (HX2.out _ hE5).mono ?_
      rintro e w7 ⟨A6, c6, rfl, o6, hE6⟩
      have E6 := hid ((E.trans hE5).trans hE6)
      obtain ⟨A9, c9, e9, -, hf9, -⟩ := o5.form (by decide) (fun _ => rfl) (0, 0)
      injection e9 with e9 e9l e9c
      subst e9 e9c
      obtain ⟨A10, c10, e10, -, hf10, -⟩ := o6.form (by decide) (fun _ => rfl) (0, 0)
      injection e10 with e10 e10l e10c
      subst e10 e10c
      have G5 := hid ((flat_spans.1 hf9).ext hE6)
      have G6 := hid (flat_spans.1 hf10)
      clear o5 o6 hE5 hE6 hf9 hf10 HX1 HX2
      go_wp2
      exact bodyPost_ret (v := .tuple #[.slice A5 SV.length c5, .slice A6 MV.length c6, .int .i64 0]) (by simp [results, Tryz.results20, go_sem]) rfl ⟨A5, c5, A6, c6, rfl, G5.out, G6.out, E6.out⟩
    · have hs1 := HSN.out h0
      have hs2 := HMN.out h0
      subst hs1 hs2
      have hrb : (oe != 0) = true := by simp [h0]
      clear HSU HMA HSN HMN HHR HES HEM HSP
      go_wp2
      exact bodyPost_ret (v := .tuple #[.slice none 0 0, .slice none 0 0, .int .i64 oe]) (by simp [results, Tryz.results20, go_sem]) rfl ⟨none, 0, none, 0, rfl, fun h => absurd rfl h, fun h => absurd rfl h, E⟩
  by_cases hne : ne = 0
  · subst hne
    have hd2 : decide ((0 : Int) = 0) = true := rfl
    rw [hd2] at REST HCR
    rw [Bool.true_and] at REST HCR
    refine wp_region_held_drew (S := fun w' => (∀ b o, b < U.heap.size → w'.cell? ⟨b, o, none⟩ = U.cell? ⟨b, o, none⟩) ∧ U.heap.size ≤ w'.heap.size ∧ Ext U w') (by kernel_rfl) ?hS0 (fun hHeld => ?_)
    case hS0 => exact sK (Ext.drew (Ext.refl _))
    have X0 : Ext U U.drew := Ext.drew (Ext.refl U)
    have EX := X0
    obtain ⟨X, hX⟩ : ∃ X, U.drew = X := ⟨_, rfl⟩
    rw [hX] at EX hHeld ⊢
    clear hX X0
    refine tk1 (i := 0) (v := ?v0a) rfl ?y0a ?r0a
    case y0a => (intro w' hSw; (try dsimp only at hSw); go_simp; (try with_reducible rfl))
    try simp only [Act.put, sq1, sq2, sq3, sq4, sq5, sq6]
    refine tk1 (i := 1) (v := ?v1a) rfl ?y1a ?r1a
    case y1a => (intro w' hSw; (try dsimp only at hSw); go_simp; (try with_reducible rfl))
    try simp only [Act.put, sq1, sq2, sq3, sq4, sq5, sq6]
    refine tk1 (i := 2) (v := ?v2a) rfl ?y2a ?r2a
    case y2a => (intro w' hSw; (try dsimp only at hSw); go_simp; (try with_reducible rfl))
    try simp only [Act.put, sq1, sq2, sq3, sq4, sq5, sq6]
    refine tk1 (i := 3) (v := ?v3a) rfl ?y3a ?r3a
    case y3a => (intro w' hSw; (try dsimp only at hSw); go_simp; (try with_reducible rfl))
    try simp only [Act.put, sq1, sq2, sq3, sq4, sq5, sq6]
    refine tk1 (i := 4) (v := ?v4a) rfl ?y4a ?r4a
    case y4a => (intro w' hSw; (try dsimp only at hSw); go_simp; (try with_reducible rfl))
    try simp only [Act.put, sq1, sq2, sq3, sq4, sq5, sq6]
    refine wpAnyH_ready (rs := [5]) (by kernel_rfl) (by simp) ?_
    refine AllReadyH.cons (o := _) rfl (fun K hK => ?_) AllReadyH.nil
    go_simp
    refine Calls.mono (HN.out _ (E.trans EX)) ?_
    rintro e X ⟨rfl, hEX⟩
    dsimp only
    replace EX := EX.trans hEX
    (try replace OB := hid (OB.out.ext hEX))
    (try replace IS := hid (IS.out.ext hEX))
    clear hHeld hEX
    refine hK.out _ _ (sK EX) (fun hHeld => ?_)
    clear hK K
    try simp only [Act.put, sq1, sq2, sq3, sq4, sq5, sq6]
    refine tk1 (i := 6) (v := ?v6b) rfl ?y6b ?r6b
    case y6b => (intro w' hSw; (try dsimp only at hSw); go_simp; (try with_reducible rfl))
    try simp only [Act.put, sq1, sq2, sq3, sq4, sq5, sq6]
    refine tk1 (i := 7) (v := ?v7b) rfl ?y7b ?r7b
    case y7b => (intro w' hSw; (try dsimp only at hSw); go_simp; (try with_reducible rfl))
    try simp only [Act.put, sq1, sq2, sq3, sq4, sq5, sq6]
    refine tk1 (i := 8) (v := ?v8b) rfl ?y8b ?r8b
    case y8b => (intro w' hSw; (try dsimp only at hSw); go_simp; (try with_reducible rfl))
    try simp only [Act.put, sq1, sq2, sq3, sq4, sq5, sq6]
    refine tk1 (i := 9) (v := ?v9b) rfl ?y9b ?r9b
    case y9b => (intro w' hSw; (try dsimp only at hSw); go_simp; (try with_reducible rfl))
    try simp only [Act.put, sq1, sq2, sq3, sq4, sq5, sq6]
    refine wpAnyH_ready (rs := [10]) (by kernel_rfl) (by simp) ?_
    refine AllReadyH.cons (o := _) rfl (fun K hK => ?_) AllReadyH.nil
    go_simp
    refine Calls.mono (HIP.out _) ?_
    rintro e X ⟨rfl, hEX⟩
    dsimp only
    replace EX := EX.trans hEX
    (try replace OB := hid (OB.out.ext hEX))
    (try replace IS := hid (IS.out.ext hEX))
    clear hHeld hEX
    refine hK.out _ _ (sK EX) (fun hHeld => ?_)
    clear hK K
    try simp only [Act.put, sq1, sq2, sq3, sq4, sq5, sq6]
    refine tk1 (i := 11) (v := ?v11c) rfl ?y11c ?r11c
    case y11c => (intro w' hSw; (try dsimp only at hSw); go_simp; (try with_reducible rfl))
    try simp only [Act.put, sq1, sq2, sq3, sq4, sq5, sq6]
    refine wpAnyH_ready (rs := [12]) (by kernel_rfl) (by simp) ?_
    refine AllReadyH.cons (o := _) rfl (fun K hK => ?_) AllReadyH.nil
    go_simp
    refine Calls.mono (HCR.out _ (E.trans EX)) ?_
    rintro e X ⟨rfl, hEX⟩
    dsimp only
    replace EX := EX.trans hEX
    (try replace OB := hid (OB.out.ext hEX))
    (try replace IS := hid (IS.out.ext hEX))
    clear hHeld hEX
    refine hK.out _ _ (sK EX) (fun hHeld => ?_)
    clear hK K
    try simp only [Act.put, sq1, sq2, sq3, sq4, sq5, sq6]
    refine tk1 (i := 13) (v := ?v13d) rfl ?y13d ?r13d
    case y13d => (intro w' hSw; (try dsimp only at hSw); go_simp; (try with_reducible rfl))
    try simp only [Act.put, sq1, sq2, sq3, sq4, sq5, sq6]
    refine wpAnyH_done (by kernel_rfl) ?_ _
    exact REST _ _ _ _ EX
  · have hd : (ne == 0) = decide (ne = 0) := by simp [hne]
    have hd2 : decide (ne = 0) = false := decide_eq_false hne
    rw [hd2] at REST HCR hd
    rw [Bool.false_and] at REST HCR
    refine wp_region_held_drew (S := fun w' => (∀ b o, b < U.heap.size → w'.cell? ⟨b, o, none⟩ = U.cell? ⟨b, o, none⟩) ∧ U.heap.size ≤ w'.heap.size ∧ Ext U w') (by kernel_rfl) ?hS0 (fun hHeld => ?_)
    case hS0 => exact sK (Ext.drew (Ext.refl _))
    have X0 : Ext U U.drew := Ext.drew (Ext.refl U)
    have EX := X0
    obtain ⟨X, hX⟩ : ∃ X, U.drew = X := ⟨_, rfl⟩
    rw [hX] at EX hHeld ⊢
    clear hX X0
    refine tk1 (i := 0) (v := ?v0e) rfl ?y0e ?r0e
    case y0e => (intro w' hSw; (try dsimp only at hSw); go_simp; (try with_reducible rfl))
    try simp only [Act.put, sq1, sq2, sq3, sq4, sq5, sq6]
    refine tk1 (i := 1) (v := ?v1e) rfl ?y1e ?r1e
    case y1e => (intro w' hSw; (try dsimp only at hSw); go_simp; (try with_reducible rfl))
    try simp only [Act.put, sq1, sq2, sq3, sq4, sq5, sq6]
    refine tk1 (i := 2) (v := ?v2e) rfl ?y2e ?r2e
    case y2e => (intro w' hSw; (try dsimp only at hSw); go_simp; (try with_reducible rfl))
    try simp only [Act.put, sq1, sq2, sq3, sq4, sq5, sq6]
    refine tk1 (i := 3) (v := ?v3e) rfl ?y3e ?r3e
    case y3e => (intro w' hSw; (try dsimp only at hSw); go_simp; (try with_reducible rfl))
    try simp only [Act.put, sq1, sq2, sq3, sq4, sq5, sq6]
    refine tk1 (i := 4) (v := ?v4e) rfl ?y4e ?r4e
    case y4e => (intro w' hSw; (try dsimp only at hSw); go_simp; (try with_reducible rfl))
    try simp only [Act.put, sq1, sq2, sq3, sq4, sq5, sq6]
    refine wpAnyH_ready (rs := [5]) (by kernel_rfl) (by simp) ?_
    refine AllReadyH.cons (o := _) rfl (fun K hK => ?_) AllReadyH.nil
    go_simp
    refine Calls.mono (HN.out _ (E.trans EX)) ?_
    rintro e X ⟨rfl, hEX⟩
    dsimp only
    replace EX := EX.trans hEX
    (try replace OB := hid (OB.out.ext hEX))
    (try replace IS := hid (IS.out.ext hEX))
    clear hHeld hEX
    refine hK.out _ _ (sK EX) (fun hHeld => ?_)
    clear hK K
    try simp only [Act.put, sq1, sq2, sq3, sq4, sq5, sq6]
    refine tk1 (i := 6) (v := ?v6f) rfl ?y6f ?r6f
    case y6f => (intro w' hSw; (try dsimp only at hSw); go_simp; (try with_reducible rfl))
    try simp only [Act.put, sq1, sq2, sq3, sq4, sq5, sq6]
    refine tk1 (i := 7) (v := ?v7f) rfl ?y7f ?r7f
    case y7f => (intro w' hSw; (try dsimp only at hSw); go_simp; (try with_reducible rfl))
    try simp only [Act.put, sq1, sq2, sq3, sq4, sq5, sq6]
    refine tku1 (i := 8) rfl ?r8g
    try simp only [Act.put, sq1, sq2, sq3, sq4, sq5, sq6]
    refine tku1 (i := 9) rfl ?r9g
    try simp only [Act.put, sq1, sq2, sq3, sq4, sq5, sq6]
    refine tku1 (i := 10) rfl ?r10g
    try simp only [Act.put, sq1, sq2, sq3, sq4, sq5, sq6]
    refine tk1 (i := 11) (v := ?v11h) rfl ?y11h ?r11h
    case y11h => (intro w' hSw; (try dsimp only at hSw); go_simp; (try with_reducible rfl))
    try simp only [Act.put, sq1, sq2, sq3, sq4, sq5, sq6]
    refine wpAnyH_ready (rs := [12]) (by kernel_rfl) (by simp) ?_
    refine AllReadyH.cons (o := _) rfl (fun K hK => ?_) AllReadyH.nil
    go_simp
    refine Calls.mono (HCR.out _ (E.trans EX)) ?_
    rintro e X ⟨rfl, hEX⟩
    dsimp only
    replace EX := EX.trans hEX
    (try replace OB := hid (OB.out.ext hEX))
    (try replace IS := hid (IS.out.ext hEX))
    clear hHeld hEX
    refine hK.out _ _ (sK EX) (fun hHeld => ?_)
    clear hK K
    try simp only [Act.put, sq1, sq2, sq3, sq4, sq5, sq6]
    refine tk1 (i := 13) (v := ?v13i) rfl ?y13i ?r13i
    case y13i => (intro w' hSw; (try dsimp only at hSw); go_simp; (try with_reducible rfl))
    try simp only [Act.put, sq1, sq2, sq3, sq4, sq5, sq6]
    refine wpAnyH_done (by kernel_rfl) ?_ _
    exact REST _ _ _ _ EX
end Go.Proofs.YtecamnhnjmldcaaGreatDoor
/- Safe of the specification: what it makes of the minutes of a path (no walk). -/
set_option linter.unusedSimpArgs false
set_option linter.unusedVariables false
namespace Go.Proofs.YtecamnhnjmldcaaGreatDoor
open Go.RowKit
def mnP (rs : List Rl) (rn : Nat) (seen : List Sg) (f : List (List Hr)) (os : List (Int × Int)) (k : Nat) (t : Nat) : Bool := (decide (t / 60 < hoursN f) && hrA rs (k : Int) rn seen f (t / 60)) && isInM (t : Int) os
theorem spans_ext (p : Nat → Bool) (a : Nat) : ∀ d, (∀ i, a ≤ i → i < a + d → p i = false) → spansM p (a + d) = spansM p a
  | 0, _ => rfl
  | d + 1, h => by
    rw [show a + (d + 1) = (a + d) + 1 by omega, spansM_step, h (a + d) (by omega) (by omega), if_neg (by decide)]
    exact spans_ext p a d (fun i h1 h2 => h i h1 (by omega))
theorem ruM_for (rs : List Rl) (path : Int) : ruM rs path = true ↔ forP rs path ≠ [] := by
  unfold ruM forP
  rw [List.any_eq_true]
  constructor
  · rintro ⟨r, hr, h⟩ e
    have : r ∈ List.filter (fun r => decide (r.path = path)) rs := List.mem_filter.2 ⟨hr, h⟩
    rw [e] at this
    cases this
  · intro h
    obtain ⟨r, hr⟩ := List.exists_mem_of_ne_nil _ h
    obtain ⟨h1, h2⟩ := List.mem_filter.1 hr
    exact ⟨r, h1, h2⟩
theorem mn_safe {f : List (List Hr)} {seen : List Sg} {rs : List Rl} (hfc : fcB f = true) (hsg : sgsB (hoursN f) seen = true) (rn : Nat) (hrn : rs.length = rn) (k : Nat) (os : List (Int × Int)) (hru : ruM rs (k : Int) = true) (M : Nat) (hM : hoursN f * 60 ≤ M) :
    safeM (forP rs (k : Int)) (scsM seen f) (hoursN f) os = (spansM (fun i => (tabL M (mnP rs rn seen f os k)).getD i false) M).take 6 := by
  unfold safeM
  rw [if_neg ((ruM_for rs k).1 hru)]
  have e : spansM (fun i => (tabL M (mnP rs rn seen f os k)).getD i false) M = spansM (mnP rs rn seen f os k) M := spansO_congr _ fun i hi => tabL_at _ _ _ hi
  have e2 := spans_ext (mnP rs rn seen f os k) (hoursN f * 60) (M - hoursN f * 60) (fun i h1 _ => by
    unfold mnP
    rw [decide_eq_false (show ¬ i / 60 < hoursN f by omega)]
    rfl)
  rw [show hoursN f * 60 + (M - hoursN f * 60) = M by omega] at e2
  rw [e, e2]
  congr 1
  refine spansO_congr _ fun t ht => ?_
  unfold mnP sureM
  have h1 : t / 60 < hoursN f := by omega
  rw [decide_eq_true h1, Bool.true_and, hrA_eq hfc hsg (k : Int) rn hrn _ h1, spans_at _ _ _ h1, Bool.and_comm]
theorem safK_same {rs : List Rl} {ss : List (List Hr)} {N : Nat} {ps : List Pt} {k : Nat} (hk : k < ps.length) (h : ruM rs (k : Int) = false) : safK rs ss N ps (k + 1) = safK rs ss N ps k := by
  have hf : forP rs (k : Int) = [] := by
    cases hfe : forP rs (k : Int) with
    | nil => rfl
    | cons r l =>
      have := (ruM_for rs k).2 (by rw [hfe]; simp)
      rw [h] at this
      cases this
  rw [safK_step rs ss N ps k hk, hf]
  have hw : withO (ps.getD k zeroPt) (safeM [] ss N (ps.getD k zeroPt).opens) = ps.getD k zeroPt := by
    unfold safeM
    rw [if_pos rfl]
    rfl
  rw [hw]
  have h2 : (safK rs ss N ps k)[k]? = some (ps.getD k zeroPt) := by
    have h3 := safK_at rs ss N ps k
    have hl : k < (safK rs ss N ps k).length := by rw [safK_len]; exact hk
    rw [← h3]
    simp [List.getD, List.getElem?_eq_getElem hl]
  exact set_same _ _ _ h2
end Go.Proofs.YtecamnhnjmldcaaGreatDoor
