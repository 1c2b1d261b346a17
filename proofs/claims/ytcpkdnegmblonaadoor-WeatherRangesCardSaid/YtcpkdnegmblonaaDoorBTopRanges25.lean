/- Range. -/
import Derived.Test.YtcpkdnegmblonaaDoorBTopRanges23
set_option linter.unusedSimpArgs false
set_option linter.unusedVariables false
namespace Go.Proofs.YtcpkdnegmblonaaDoor
open Go.RowKit
def hrE (f : List (List Hr)) (hr : Int) : Int := unlessM (inI hr 0 ((hoursN f : Int) - 1)) 1
def rngE (f : List (List Hr)) (seen : List Sg) (hr : Int) : Int := begM [fcE f, sgE f seen, hrE f hr] seen f
def rngV (f : List (List Hr)) (seen : List Sg) (hr : Int) : Hr := if rngE f seen hr = 0 then wholeM (scsM seen f) hr.toNat else zeroHr
theorem rngE_ok {f : List (List Hr)} {seen : List Sg} {hr : Int} (h : rngE f seen hr = 0) : fcB f = true ∧ sgsB (hoursN f) seen = true ∧ (0 ≤ hr ∧ hr < hoursN f) ∧ numsM seen f ≠ [] := by
  obtain ⟨h0, hn⟩ := begM_zero h
  obtain ⟨h1, h0⟩ := orM_zero h0
  obtain ⟨h2, h0⟩ := orM_zero h0
  obtain ⟨h3, _⟩ := orM_zero h0
  refine ⟨fcE_ok h1, sgE_ok h2, ?_, hn⟩
  unfold hrE unlessM at h3
  cases hb : inI hr 0 ((hoursN f : Int) - 1)
  · rw [hb] at h3; simp at h3
  · unfold inI at hb
    simp only [Bool.and_eq_true, decide_eq_true_eq] at hb
    omega
set_option maxHeartbeats 8000000 in
set_option maxRecDepth 100000 in
theorem range_any (f : List (List Hr)) (A : Option Addr) (n c : Nat) (seen : List Sg) (SA : Option Addr) (m sc : Nat) (hr : Int) (w : World) (h : FIn w f A n seen SA m) :
    Calls Tryd.prog 15 #[.agg #[.slice A n c], .slice SA m sc, .int .i64 hr] w fun e w' => e = .returned (.tuple #[(rngV f seen hr).val, .int .i64 (rngE f seen hr)]) ∧ Ext w w' := by
  have H := hid h
  have HC := hid (fun (W : World) (hW : Ext w W) => (h.ext hW).check c)
  have HS := hid (fun (W : World) (hW : Ext w W) => (h.ext hW).sights c sc)
  have HHR := hid (fun (W : World) (hW : Ext w W) => (h.ext hW).hoursC c)
  have HIN := hid (fun (W : World) => vWithin_any hr 0 ((hoursN f : Int) - 1) W)
  have HG := hid (fun (W : World) => vArg_any (inI hr 0 ((hoursN f : Int) - 1)) W)
  have HB := hid (fun (W : World) (hW : Ext w W) (EA : Option Addr) (hi : IntsAt W EA [fcE f, sgE f seen, hrE f hr]) => (h.ext hW).begin c sc [fcE f, sgE f seen, hrE f hr] EA 3 3 rfl (by decide) (fun h0 => ⟨fcE_ok (orM_zero h0).1, sgE_ok (orM_zero (orM_zero h0).2).1⟩) hi)
  have HOK := hid (fun h0 => rngE_ok (f := f) (seen := seen) (hr := hr) h0)
  have HRV := hid (fun (h0 : rngE f seen hr = 0) => show rngV f seen hr = wholeM (scsM seen f) hr.toNat from if_pos h0)
  have HRN := hid (fun (h0 : rngE f seen hr ≠ 0) => show rngV f seen hr = zeroHr from if_neg h0)
  have hN := h.hours
  have hwr : IntKind.i64.wrap ((hoursN f : Int) - 1) = (hoursN f : Int) - 1 := IntWalk.i64_in _ (by omega)
  have hz0 : Blk _ _ _ _ := blk_old (blk_last w (.cells #[.slice A n c] 24)) (.cells #[.int .i64 0, .int .i64 0, .int .i64 0, .int .i64 0, .int .i64 0, .int .i64 0] 38)
  have hz1 : Blk _ _ _ _ := blk_last (w.alloc (.cells #[.slice A n c] 24)) (.cells #[.int .i64 0, .int .i64 0, .int .i64 0, .int .i64 0, .int .i64 0, .int .i64 0] 38)
  rw [World.size_alloc] at hz1
  clear h
  have hkE : rngE f seen hr = begM [fcE f, sgE f seen, hrE f hr] seen f := rfl
  rw [hkE] at HRV HRN HOK ⊢
  change Hid (∀ W, Calls _ _ _ _ fun e w' => e = .returned (.int .i64 (hrE f hr)) ∧ w' = W) at HG
  clear hkE
  generalize fcE f = e1 at *
  generalize sgE f seen = e2 at *
  generalize hrE f hr = e3 at *
  generalize rngV f seen hr = RV at *
  generalize inI hr 0 ((hoursN f : Int) - 1) = bl at *
  obtain ⟨NH, hNH⟩ : ∃ NH, hoursN f = NH := ⟨_, rfl⟩
  rw [hNH] at HHR HIN hN hwr
  have HNH := hid hNH
  clear hNH
  go_enter Tryd.func15, Tryd.ntmps15
  go_wp2_with fail
  refine (HHR.out _ (by (repeat' (first | with_reducible assumption | with_reducible exact Ext.refl _ | with_reducible refine Ext.alloc ?_ _ | with_reducible refine Ext.set ?_ ?_ _ | with_reducible refine Ext.drew ?_ | with_reducible refine Ext.drewN ?_ _ | with_reducible refine Ext.trans ?_ (by assumption) | (dsimp only; omega))))).mono ?_
  rintro e w1 ⟨rfl, hE1⟩
  have K1 := hz0.ext hE1
  have K2 := hz1.ext hE1
  have E1 : Ext w w1 := by (repeat' (first | with_reducible assumption | with_reducible exact Ext.refl _ | with_reducible refine Ext.alloc ?_ _ | with_reducible refine Ext.set ?_ ?_ _ | with_reducible refine Ext.drew ?_ | with_reducible refine Ext.drewN ?_ _ | with_reducible refine Ext.trans ?_ (by assumption) | (dsimp only; omega)))
  clear hE1 hz0 hz1
  go_wp2_with (go_at_call 43; refine (HIN.out _).mono ?_; rintro e w2 ⟨rfl, rfl⟩)
  obtain ⟨W, hW⟩ : ∃ W, W = w2 := ⟨_, rfl⟩
  rw [← hW] at K1 K2 E1 ⊢
  clear hW
  have HE := E1
  have B2 := hid K2
  have d0 := K1.cell 0
  have z1 := K1.lt
  simp only [List.getElem?_toArray, List.getElem?_cons_zero, List.getElem?_cons_succ] at d0
  clear K1 K2 E1 HHR HIN hwr
  refine region_rest (fun QQ => ∀ (ob : Nat) (Y : World) (N : Nat) (A1 : Option Addr) (n1 c1 : Nat) (A2 : Option Addr) (n2 c2 : Nat) (u16 : Value), Ext W Y → W.heap.size ≤ ob → Hid (Blk Y ob 99 #[.int .i64 N, .slice A1 n1 c1, .slice A2 n2 c2]) → OutV f seen (begM [e1, e2, e3] seen f) w.heap.size Y N (.slice A1 n1 c1) (.slice A2 n2 c2) →
      QQ .normal { tmps := #[.agg #[.slice A n c], .slice SA m sc, .int .i64 hr, .pointer (some ⟨w.heap.size, 0, none⟩), undef, undef, .pointer (some ⟨w.heap.size + 1, 0, none⟩), .int .i64 0, .bool bl, .pointer (some ⟨ob, 0, none⟩), .int .i64 (begM [e1, e2, e3] seen f), .int .i64 hr, .agg #[.slice A n c], .int .i64 (NH : Int), .int .i64 ((NH : Int) - 1), .bool bl,
        .tuple #[.agg #[.int .i64 N, .slice A1 n1 c1, .slice A2 n2 c2], .int .i64 (begM [e1, e2, e3] seen f)], .agg #[.slice A n c], .slice SA m sc, .agg #[.slice A n c], .int .i64 e1, .agg #[.slice A n c], .slice SA m sc, .int .i64 e2, .bool bl, .int .i64 e3, u16,
        .tuple #[.agg #[.int .i64 N, .slice A1 n1 c1, .slice A2 n2 c2], .int .i64 (begM [e1, e2, e3] seen f)], .agg #[.int .i64 N, .slice A1 n1 c1, .slice A2 n2 c2], .int .i64 (begM [e1, e2, e3] seen f), undef, undef, undef, undef, undef, undef, undef], defers := [] } Y) ?rest (fun REST => ?_)
  case rest =>
    intro ob Y N A1 n1 c1 A2 n2 c2 u16 hEW hob HOB hOV
    have HOV := hid hOV
    have hEY := HE.trans hEW
    have o0 := HOB.out.cell 0
    have o1 := HOB.out.cell 1
    have o2 := HOB.out.cell 2
    have oz := HOB.out.lt
    have C2 := hid (show Blk Y (w.heap.size + 1) 38 #[.int .i64 0, .int .i64 0, .int .i64 0, .int .i64 0, .int .i64 0, .int .i64 0] from B2.out.ext hEW)
    simp only [List.getElem?_toArray, List.getElem?_cons_zero, List.getElem?_cons_succ] at o0 o1 o2
    clear hOV HC HS HB B2 d0 z1 hEW hob HG
    by_cases hr0 : begM [e1, e2, e3] seen f = 0
    · obtain ⟨ok1, ok2, ok3, ok4⟩ := HOK.out hr0
      obtain ⟨rfl, hO1, hO2⟩ := HOV.out.1 hr0
      obtain ⟨A3, c3, e4, -, hsc, -⟩ := hO2.form
      injection e4 with e4 e5 e6
      subst e4 e5 e6
      have hlen := scsM_le seen f
      have hn1 := H.out.hn
      have hn2 := H.out.hm
      have hpos : 0 < (scsM seen f).length := by
        rw [← numsM_scs]
        exact List.length_pos_iff.2 ok4
      obtain ⟨hk, rfl⟩ : ∃ hk : Nat, hr = hk := ⟨hr.toNat, by omega⟩
      have HWH := hid (fun (X : World) (hX : Ext Y X) => whole_any (hoursN f) (by rw [HNH.out]; exact hN) A1 n1 c1 A2 (scsM seen f).length c2 (scsM seen f) rfl (by omega) hpos (scsM_all ok1) hk (by omega) X (hsc.ext hX))
      have hrv := HRV.out hr0
      rw [Int.toNat_natCast] at hrv
      rw [← hrv] at HWH
      have HRE := hid hr0
      rw [hr0]
      unfold Hr.val at HWH
      clear HRV HRN HOK HOV hO1 hO2 hsc H ok1 ok2 ok3 ok4 hlen hn1 hn2 hr0 hrv hpos HNH hN
      generalize hoursN f = N at *
      generalize (scsM seen f).length = n2 at *
      go_wp2_with fail
      refine (HWH.out _ (Ext.refl _)).mono ?_
      rintro e w4 ⟨rfl, hE4⟩
      dsimp only
      have HEQ := hid (hEY.trans hE4)
      have M2 := hid (show Blk _ _ _ _ from C2.out.ext hE4)
      clear hE4 C2 o0 o1 o2 oz HWH HOB
      have R1 := hid (M2.out.fill [.int .i64 RV.wl, .int .i64 RV.wh, .int .i64 RV.rl, .int .i64 RV.rh, .int .i64 RV.tl, .int .i64 RV.th] 0)
      have RX := hid (ext_setCells HEQ.out (b := w.heap.size + 1) (by omega) [.int .i64 RV.wl, .int .i64 RV.wh, .int .i64 RV.rl, .int .i64 RV.rh, .int .i64 RV.tl, .int .i64 RV.th] 0)
      simp only [fillA, List.setIfInBounds_toArray, List.set_cons_zero, List.set_cons_succ] at R1
      have HO := hid (hr_one RV)
      unfold hrCells at HO
      have mz := M2.out.lt
      go_wp2_with (refine wpList_store_mid rfl 38 _ _ rfl (w.heap.size + 1) 0 (#[.int .i64 RV.wl, .int .i64 RV.wh, .int .i64 RV.rl, .int .i64 RV.rh, .int .i64 RV.tl, .int .i64 RV.th]) rfl rfl (blk_there M2.out rfl) infoHr1 HO.out ?_)
      obtain ⟨Z, hZ⟩ : ∃ Z, World.setCells w4 (w.heap.size + 1) 0 [.int .i64 RV.wl, .int .i64 RV.wh, .int .i64 RV.rl, .int .i64 RV.rh, .int .i64 RV.tl, .int .i64 RV.th] = Z := ⟨_, rfl⟩
      rw [hZ] at R1 RX
      have hZ2 : World.setCells w4 (w.heap.size + 1) 0 (#[.int .i64 RV.wl, .int .i64 RV.wh, .int .i64 RV.rl, .int .i64 RV.rh, .int .i64 RV.tl, .int .i64 RV.th] : Array Value).toList = Z := hZ
      first | rw [hZ2] | rw [hZ]
      clear hZ hZ2 HO
      obtain ⟨r0, r1, r2, r3, r4, r5⟩ : _ ∧ _ ∧ _ ∧ _ ∧ _ ∧ _ := ⟨R1.out.cell 0, R1.out.cell 1, R1.out.cell 2, R1.out.cell 3, R1.out.cell 4, R1.out.cell 5⟩
      simp only [List.getElem?_toArray, List.getElem?_cons_zero, List.getElem?_cons_succ] at r0 r1 r2 r3 r4 r5
      go_wp2
      exact bodyPost_ret (v := .tuple #[.agg #[.int .i64 RV.wl, .int .i64 RV.wh, .int .i64 RV.rl, .int .i64 RV.rh, .int .i64 RV.tl, .int .i64 RV.th], .int .i64 0]) (by simp [results, Tryd.results15, go_sem, r0, r1, r2, r3, r4, r5]) rfl ⟨by rw [HRE.out]; rfl, RX.out⟩
    · have hs1 := HRN.out hr0
      have HRE := hid (show ∃ r, begM [e1, e2, e3] seen f = r from ⟨_, rfl⟩)
      obtain ⟨r, hre⟩ := HRE.out
      rw [hre] at hr0 ⊢
      have HRE2 := hid hre
      have hrb : (r != 0) = true := by simp [hr0]
      have HEQ := hid hEY
      have M2 := C2
      have hRZ : RV = ⟨0, 0, 0, 0, 0, 0⟩ := hs1
      have HRZ := hid hRZ
      obtain ⟨v0, v1, v2, v3, v4, v5⟩ : RV.wl = 0 ∧ RV.wh = 0 ∧ RV.rl = 0 ∧ RV.rh = 0 ∧ RV.tl = 0 ∧ RV.th = 0 := by rw [hRZ]; exact ⟨rfl, rfl, rfl, rfl, rfl, rfl⟩
      clear HRV HRN HOK HOV hr0 H hre HRE hs1 hRZ o0 o1 o2 oz HOB HNH
      have R1 := hid (M2.out.fill [.int .i64 0, .int .i64 0, .int .i64 0, .int .i64 0, .int .i64 0, .int .i64 0] 0)
      have RX := hid (ext_setCells HEQ.out (b := w.heap.size + 1) (by omega) [.int .i64 0, .int .i64 0, .int .i64 0, .int .i64 0, .int .i64 0, .int .i64 0] 0)
      simp only [fillA, List.setIfInBounds_toArray, List.set_cons_zero, List.set_cons_succ] at R1
      have HO := hid (hr_one ⟨0, 0, 0, 0, 0, 0⟩)
      unfold hrCells at HO
      dsimp only at HO
      have mz := M2.out.lt
      go_wp2_with (refine wpList_store_mid rfl 38 _ _ rfl (w.heap.size + 1) 0 (#[.int .i64 0, .int .i64 0, .int .i64 0, .int .i64 0, .int .i64 0, .int .i64 0]) rfl rfl (blk_there M2.out rfl) infoHr1 HO.out ?_)
      obtain ⟨Z, hZ⟩ : ∃ Z, Y.setCells (w.heap.size + 1) 0 [.int .i64 0, .int .i64 0, .int .i64 0, .int .i64 0, .int .i64 0, .int .i64 0] = Z := ⟨_, rfl⟩
      rw [hZ] at R1 RX ⊢
      clear hZ
      obtain ⟨r0, r1, r2, r3, r4, r5⟩ : _ ∧ _ ∧ _ ∧ _ ∧ _ ∧ _ := ⟨R1.out.cell 0, R1.out.cell 1, R1.out.cell 2, R1.out.cell 3, R1.out.cell 4, R1.out.cell 5⟩
      simp only [List.getElem?_toArray, List.getElem?_cons_zero, List.getElem?_cons_succ] at r0 r1 r2 r3 r4 r5
      exact bodyPost_ret (v := .tuple #[.agg #[.int .i64 0, .int .i64 0, .int .i64 0, .int .i64 0, .int .i64 0, .int .i64 0], .int .i64 r]) (by simp [results, Tryd.results15, go_sem, r0, r1, r2, r3, r4, r5]) rfl ⟨by rw [HRE2.out, HRZ.out]; rfl, RX.out⟩
  refine wp_region_held_drew (S := fun w' => (∀ b o, b < W.heap.size → w'.cell? ⟨b, o, none⟩ = W.cell? ⟨b, o, none⟩) ∧ W.heap.size ≤ w'.heap.size ∧ Ext W w') (by kernel_rfl) ?hS0 (fun hHeld => ?_)
  case hS0 => exact sK (Ext.drew (Ext.refl _))
  have X0 : Ext W W.drew := Ext.drew (Ext.refl W)
  have EX := X0
  obtain ⟨X, hX⟩ : ∃ X, W.drew = X := ⟨_, rfl⟩
  rw [hX] at EX hHeld ⊢
  clear hX X0
  refine wpAnyH_take (i := 0) (oi := _) (v := ?v0a) rfl (by kernel_rfl) (by kernel_rfl) (by kernel_rfl) (fun _ _ _ h => h) (Or.inl ⟨by rfl, ?y0a⟩) (by assumption) ?r0a
  case y0a => (intro w' hSw; (try dsimp only at hSw); go_simp; (try with_reducible rfl))
  try simp only [Act.put, List.getElem_toArray, List.getElem_cons_zero, List.getElem_cons_succ, List.setIfInBounds_toArray, List.set_cons_zero, List.set_cons_succ]
  refine wpAnyH_take (i := 1) (oi := _) (v := ?v1a) rfl (by kernel_rfl) (by kernel_rfl) (by kernel_rfl) (fun _ _ _ h => h) (Or.inl ⟨by rfl, ?y1a⟩) (by assumption) ?r1a
  case y1a => (intro w' hSw; (try dsimp only at hSw); go_simp; (try with_reducible rfl))
  try simp only [Act.put, List.getElem_toArray, List.getElem_cons_zero, List.getElem_cons_succ, List.setIfInBounds_toArray, List.set_cons_zero, List.set_cons_succ]
  refine wpAnyH_take (i := 2) (oi := _) (v := ?v2a) rfl (by kernel_rfl) (by kernel_rfl) (by kernel_rfl) (fun _ _ _ h => h) (Or.inl ⟨by rfl, ?y2a⟩) (by assumption) ?r2a
  case y2a => (intro w' hSw; (try dsimp only at hSw); go_simp; (try with_reducible rfl))
  try simp only [Act.put, List.getElem_toArray, List.getElem_cons_zero, List.getElem_cons_succ, List.setIfInBounds_toArray, List.set_cons_zero, List.set_cons_succ]
  refine wpAnyH_take (i := 4) (oi := _) (v := ?v4a) rfl (by kernel_rfl) (by kernel_rfl) (by kernel_rfl) (fun _ _ _ h => h) (Or.inl ⟨by rfl, ?y4a⟩) (by assumption) ?r4a
  case y4a => (intro w' hSw; (try dsimp only at hSw); go_simp; (try with_reducible rfl))
  try simp only [Act.put, List.getElem_toArray, List.getElem_cons_zero, List.getElem_cons_succ, List.setIfInBounds_toArray, List.set_cons_zero, List.set_cons_succ]
  refine wpAnyH_take (i := 5) (oi := _) (v := ?v5a) rfl (by kernel_rfl) (by kernel_rfl) (by kernel_rfl) (fun _ _ _ h => h) (Or.inl ⟨by rfl, ?y5a⟩) (by assumption) ?r5a
  case y5a => (intro w' hSw; (try dsimp only at hSw); go_simp; (try with_reducible rfl))
  try simp only [Act.put, List.getElem_toArray, List.getElem_cons_zero, List.getElem_cons_succ, List.setIfInBounds_toArray, List.set_cons_zero, List.set_cons_succ]
  refine wpAnyH_take (i := 7) (oi := _) (v := ?v7a) rfl (by kernel_rfl) (by kernel_rfl) (by kernel_rfl) (fun _ _ _ h => h) (Or.inl ⟨by rfl, ?y7a⟩) (by assumption) ?r7a
  case y7a => (intro w' hSw; (try dsimp only at hSw); go_simp; (try with_reducible rfl))
  try simp only [Act.put, List.getElem_toArray, List.getElem_cons_zero, List.getElem_cons_succ, List.setIfInBounds_toArray, List.set_cons_zero, List.set_cons_succ]
  refine wpAnyH_ready (rs := [3, 14]) (by kernel_rfl) (by simp) ?_
  refine AllReadyH.cons (o := _) rfl (fun K hK => ?_) (AllReadyH.cons (o := _) rfl (fun K hK => ?_) AllReadyH.nil)
  · go_simp
    refine Calls.mono (HC.out _ (HE.trans EX)) ?_
    rintro e X ⟨rfl, hEX⟩
    dsimp only
    replace EX := EX.trans hEX
    (try replace OB := hid (OB.out.ext hEX))
    (try replace IS := hid (IS.out.ext hEX))
    clear hHeld hEX
    refine hK.out _ _ (sK EX) (fun hHeld => ?_)
    clear hK K
    try simp only [Act.put, List.getElem_toArray, List.getElem_cons_zero, List.getElem_cons_succ, List.setIfInBounds_toArray, List.set_cons_zero, List.set_cons_succ]
    refine wpAnyH_ready (rs := [6, 14]) (by kernel_rfl) (by simp) ?_
    refine AllReadyH.cons (o := _) rfl (fun K hK => ?_) (AllReadyH.cons (o := _) rfl (fun K hK => ?_) AllReadyH.nil)
    · go_simp
      refine Calls.mono (HS.out _ (HE.trans EX)) ?_
      rintro e X ⟨rfl, hEX⟩
      dsimp only
      replace EX := EX.trans hEX
      (try replace OB := hid (OB.out.ext hEX))
      (try replace IS := hid (IS.out.ext hEX))
      clear hHeld hEX
      refine hK.out _ _ (sK EX) (fun hHeld => ?_)
      clear hK K
      try simp only [Act.put, List.getElem_toArray, List.getElem_cons_zero, List.getElem_cons_succ, List.setIfInBounds_toArray, List.set_cons_zero, List.set_cons_succ]
      refine wpAnyH_ready (rs := [8, 14]) (by kernel_rfl) (by simp) ?_
      refine AllReadyH.cons (o := _) rfl (fun K hK => ?_) (AllReadyH.cons (o := _) rfl (fun K hK => ?_) AllReadyH.nil)
      · go_simp
        refine Calls.mono (HG.out _) ?_
        rintro e X ⟨rfl, rfl⟩
        dsimp only
        clear hHeld
        refine hK.out _ _ (sK EX) (fun hHeld => ?_)
        clear hK K
        try simp only [Act.put, List.getElem_toArray, List.getElem_cons_zero, List.getElem_cons_succ, List.setIfInBounds_toArray, List.set_cons_zero, List.set_cons_succ]
        refine wpAnyH_ready (rs := [9, 14]) (by kernel_rfl) (by simp) ?_
        refine AllReadyH.cons (o := _) rfl (fun K hK => ?_) (AllReadyH.cons (o := _) rfl (fun K hK => ?_) AllReadyH.nil)
        · go_simp
          obtain ⟨Y, hY⟩ := absW EX (.cells #[.int .i64 e1, .int .i64 e2, .int .i64 e3] 29)
          have IS := hid (intsNew EX [e1, e2, e3] #[.int .i64 e1, .int .i64 e2, .int .i64 e3] rfl)
          (try replace OB := hid (OB.out.alloc (.cells #[.int .i64 e1, .int .i64 e2, .int .i64 e3] 29)))
          replace EX := EX.alloc (.cells #[.int .i64 e1, .int .i64 e2, .int .i64 e3] 29)
          rw [hY] at EX IS ⊢
          (try rw [hY] at OB)
          clear hHeld hY
          refine hK.out _ _ (sK EX) (fun hHeld => ?_)
          clear hK K
          try simp only [Act.put, List.getElem_toArray, List.getElem_cons_zero, List.getElem_cons_succ, List.setIfInBounds_toArray, List.set_cons_zero, List.set_cons_succ]
          refine wpAnyH_ready (rs := [10, 14]) (by kernel_rfl) (by simp) ?_
          refine AllReadyH.cons (o := _) rfl (fun K hK => ?_) (AllReadyH.cons (o := _) rfl (fun K hK => ?_) AllReadyH.nil)
          · go_simp
            refine Calls.mono (HB.out _ (HE.trans EX) _ IS.out) ?_
            rintro e X ⟨N, A1, n1, c1, A2, n2, c2, rfl, hOV, hEX⟩
            dsimp only
            have OV := hid (show OutV f seen _ w.heap.size _ N _ _ from hOV.low (HE.trans EX).size)
            replace EX := EX.trans hEX
            (try replace OB := hid (OB.out.ext hEX))
            clear hHeld hEX hOV IS
            refine hK.out _ _ (sK EX) (fun hHeld => ?_)
            clear hK K
            try simp only [Act.put, List.getElem_toArray, List.getElem_cons_zero, List.getElem_cons_succ, List.setIfInBounds_toArray, List.set_cons_zero, List.set_cons_succ]
            refine wpAnyH_take (i := 11) (oi := _) (v := ?v11m5) rfl (by kernel_rfl) (by kernel_rfl) (by kernel_rfl) (fun _ _ _ h => h) (Or.inl ⟨by rfl, ?y11m5⟩) (by assumption) ?r11m5
            case y11m5 => (intro w' hSw; (try dsimp only at hSw); go_simp; (try with_reducible rfl))
            try simp only [Act.put, List.getElem_toArray, List.getElem_cons_zero, List.getElem_cons_succ, List.setIfInBounds_toArray, List.set_cons_zero, List.set_cons_succ]
            refine wpAnyH_take (i := 12) (oi := _) (v := ?v12m5) rfl (by kernel_rfl) (by kernel_rfl) (by kernel_rfl) (fun _ _ _ h => h) (Or.inl ⟨by rfl, ?y12m5⟩) (by assumption) ?r12m5
            case y12m5 => (intro w' hSw; (try dsimp only at hSw); go_simp; (try with_reducible rfl))
            try simp only [Act.put, List.getElem_toArray, List.getElem_cons_zero, List.getElem_cons_succ, List.setIfInBounds_toArray, List.set_cons_zero, List.set_cons_succ]
            refine wpAnyH_take (i := 13) (oi := _) (v := ?v13m5) rfl (by kernel_rfl) (by kernel_rfl) (by kernel_rfl) (fun _ _ _ h => h) (Or.inl ⟨by rfl, ?y13m5⟩) (by assumption) ?r13m5
            case y13m5 => (intro w' hSw; (try dsimp only at hSw); go_simp; (try with_reducible rfl))
            try simp only [Act.put, List.getElem_toArray, List.getElem_cons_zero, List.getElem_cons_succ, List.setIfInBounds_toArray, List.set_cons_zero, List.set_cons_succ]
            refine wpAnyH_ready (rs := [14]) (by kernel_rfl) (by simp) ?_
            refine AllReadyH.cons (o := _) rfl (fun K hK => ?_) AllReadyH.nil
            go_simp
            obtain ⟨Y, hY⟩ := absW EX (.cells #[.int .i64 0, .slice none 0 0, .slice none 0 0] 99)
            have OB := hid (blkNew EX 99 #[.int .i64 0, .slice none 0 0, .slice none 0 0])
            have LOB := EX.size
            replace EX := EX.alloc (.cells #[.int .i64 0, .slice none 0 0, .slice none 0 0] 99)
            (try replace IS := hid (IS.out.ext (ext_alloc1 _ (.cells #[.int .i64 0, .slice none 0 0, .slice none 0 0] 99))))
            (try replace OV := hid (OV.out.ext (ext_alloc1 _ (.cells #[.int .i64 0, .slice none 0 0, .slice none 0 0] 99))))
            rw [hY] at EX OB ⊢
            (try rw [hY] at IS)
            (try rw [hY] at OV)
            clear hHeld hY
            refine hK.out _ _ (sK EX) (fun hHeld => ?_)
            clear hK K
            try simp only [Act.put, List.getElem_toArray, List.getElem_cons_zero, List.getElem_cons_succ, List.setIfInBounds_toArray, List.set_cons_zero, List.set_cons_succ]
            refine wpAnyH_ready (rs := [15]) (by kernel_rfl) (by simp) ?_
            refine AllReadyH.cons (o := _) rfl (fun K hK => ?_) AllReadyH.nil
            refine wp_store_mid 99 _ _ rfl _ 0 #[.int .i64 (N : Int), .slice A1 n1 c1, .slice A2 n2 c2] rfl rfl (blk_there OB.out rfl) infoOut (out_one N A1 n1 c1 A2 n2 c2) ?_
            have OB2 := hid (Blk.fill3 OB.out (.int .i64 (N : Int)) (.slice A1 n1 c1) (.slice A2 n2 c2))
            have EX2 := ext_setCells EX LOB [.int .i64 (N : Int), .slice A1 n1 c1, .slice A2 n2 c2] 0
            have OV2 := hid (OV.out.apart (grown_setCells [.int .i64 (N : Int), .slice A1 n1 c1, .slice A2 n2 c2] 0) (Apart.blk OB.out (by decide)) (Apart.blk OB.out (by decide)) (Apart.blk OB.out (by decide)))
            clear hHeld
            refine hK.out _ _ (sK EX2) (fun hHeld => ?_)
            clear hK K
            try simp only [Act.put, List.getElem_toArray, List.getElem_cons_zero, List.getElem_cons_succ, List.setIfInBounds_toArray, List.set_cons_zero, List.set_cons_succ]
            refine wpAnyH_take (i := 16) (oi := _) (v := ?v16et6) rfl (by kernel_rfl) (by kernel_rfl) (by kernel_rfl) (fun _ _ _ h => h) (Or.inl ⟨by rfl, ?y16et6⟩) (by assumption) ?r16et6
            case y16et6 => (intro w' hSw; (try dsimp only at hSw); go_simp; (try with_reducible rfl))
            try simp only [Act.put, List.getElem_toArray, List.getElem_cons_zero, List.getElem_cons_succ, List.setIfInBounds_toArray, List.set_cons_zero, List.set_cons_succ]
            refine wpAnyH_done (by kernel_rfl) ?_ _
            exact REST _ _ N A1 n1 c1 A2 n2 c2 _ EX2 LOB OB2 OV2.out
          · go_simp
            obtain ⟨Y, hY⟩ := absW EX (.cells #[.int .i64 0, .slice none 0 0, .slice none 0 0] 99)
            have OB := hid (blkNew EX 99 #[.int .i64 0, .slice none 0 0, .slice none 0 0])
            have LOB := EX.size
            replace EX := EX.alloc (.cells #[.int .i64 0, .slice none 0 0, .slice none 0 0] 99)
            (try replace IS := hid (IS.out.ext (ext_alloc1 _ (.cells #[.int .i64 0, .slice none 0 0, .slice none 0 0] 99))))
            (try replace OV := hid (OV.out.ext (ext_alloc1 _ (.cells #[.int .i64 0, .slice none 0 0, .slice none 0 0] 99))))
            rw [hY] at EX OB ⊢
            (try rw [hY] at IS)
            (try rw [hY] at OV)
            clear hHeld hY
            refine hK.out _ _ (sK EX) (fun hHeld => ?_)
            clear hK K
            try simp only [Act.put, List.getElem_toArray, List.getElem_cons_zero, List.getElem_cons_succ, List.setIfInBounds_toArray, List.set_cons_zero, List.set_cons_succ]
            refine wpAnyH_ready (rs := [10]) (by kernel_rfl) (by simp) ?_
            refine AllReadyH.cons (o := _) rfl (fun K hK => ?_) AllReadyH.nil
            go_simp
            refine Calls.mono (HB.out _ (HE.trans EX) _ IS.out) ?_
            rintro e X ⟨N, A1, n1, c1, A2, n2, c2, rfl, hOV, hEX⟩
            dsimp only
            have OV := hid (show OutV f seen _ w.heap.size _ N _ _ from hOV.low (HE.trans EX).size)
            replace EX := EX.trans hEX
            (try replace OB := hid (OB.out.ext hEX))
            clear hHeld hEX hOV IS
            refine hK.out _ _ (sK EX) (fun hHeld => ?_)
            clear hK K
            try simp only [Act.put, List.getElem_toArray, List.getElem_cons_zero, List.getElem_cons_succ, List.setIfInBounds_toArray, List.set_cons_zero, List.set_cons_succ]
            refine wpAnyH_take (i := 11) (oi := _) (v := ?v11a7) rfl (by kernel_rfl) (by kernel_rfl) (by kernel_rfl) (fun _ _ _ h => h) (Or.inl ⟨by rfl, ?y11a7⟩) (by assumption) ?r11a7
            case y11a7 => (intro w' hSw; (try dsimp only at hSw); go_simp; (try with_reducible rfl))
            try simp only [Act.put, List.getElem_toArray, List.getElem_cons_zero, List.getElem_cons_succ, List.setIfInBounds_toArray, List.set_cons_zero, List.set_cons_succ]
            refine wpAnyH_take (i := 12) (oi := _) (v := ?v12a7) rfl (by kernel_rfl) (by kernel_rfl) (by kernel_rfl) (fun _ _ _ h => h) (Or.inl ⟨by rfl, ?y12a7⟩) (by assumption) ?r12a7
            case y12a7 => (intro w' hSw; (try dsimp only at hSw); go_simp; (try with_reducible rfl))
            try simp only [Act.put, List.getElem_toArray, List.getElem_cons_zero, List.getElem_cons_succ, List.setIfInBounds_toArray, List.set_cons_zero, List.set_cons_succ]
            refine wpAnyH_take (i := 13) (oi := _) (v := ?v13a7) rfl (by kernel_rfl) (by kernel_rfl) (by kernel_rfl) (fun _ _ _ h => h) (Or.inl ⟨by rfl, ?y13a7⟩) (by assumption) ?r13a7
            case y13a7 => (intro w' hSw; (try dsimp only at hSw); go_simp; (try with_reducible rfl))
            try simp only [Act.put, List.getElem_toArray, List.getElem_cons_zero, List.getElem_cons_succ, List.setIfInBounds_toArray, List.set_cons_zero, List.set_cons_succ]
            refine wpAnyH_ready (rs := [15]) (by kernel_rfl) (by simp) ?_
            refine AllReadyH.cons (o := _) rfl (fun K hK => ?_) AllReadyH.nil
            refine wp_store_mid 99 _ _ rfl _ 0 #[.int .i64 (N : Int), .slice A1 n1 c1, .slice A2 n2 c2] rfl rfl (blk_there OB.out rfl) infoOut (out_one N A1 n1 c1 A2 n2 c2) ?_
            have OB2 := hid (Blk.fill3 OB.out (.int .i64 (N : Int)) (.slice A1 n1 c1) (.slice A2 n2 c2))
            have EX2 := ext_setCells EX LOB [.int .i64 (N : Int), .slice A1 n1 c1, .slice A2 n2 c2] 0
            have OV2 := hid (OV.out.apart (grown_setCells [.int .i64 (N : Int), .slice A1 n1 c1, .slice A2 n2 c2] 0) (Apart.blk OB.out (by decide)) (Apart.blk OB.out (by decide)) (Apart.blk OB.out (by decide)))
            clear hHeld
            refine hK.out _ _ (sK EX2) (fun hHeld => ?_)
            clear hK K
            try simp only [Act.put, List.getElem_toArray, List.getElem_cons_zero, List.getElem_cons_succ, List.setIfInBounds_toArray, List.set_cons_zero, List.set_cons_succ]
            refine wpAnyH_take (i := 16) (oi := _) (v := ?v16ea7) rfl (by kernel_rfl) (by kernel_rfl) (by kernel_rfl) (fun _ _ _ h => h) (Or.inl ⟨by rfl, ?y16ea7⟩) (by assumption) ?r16ea7
            case y16ea7 => (intro w' hSw; (try dsimp only at hSw); go_simp; (try with_reducible rfl))
            try simp only [Act.put, List.getElem_toArray, List.getElem_cons_zero, List.getElem_cons_succ, List.setIfInBounds_toArray, List.set_cons_zero, List.set_cons_succ]
            refine wpAnyH_done (by kernel_rfl) ?_ _
            exact REST _ _ N A1 n1 c1 A2 n2 c2 _ EX2 LOB OB2 OV2.out
        · go_simp
          obtain ⟨Y, hY⟩ := absW EX (.cells #[.int .i64 0, .slice none 0 0, .slice none 0 0] 99)
          have OB := hid (blkNew EX 99 #[.int .i64 0, .slice none 0 0, .slice none 0 0])
          have LOB := EX.size
          replace EX := EX.alloc (.cells #[.int .i64 0, .slice none 0 0, .slice none 0 0] 99)
          (try replace IS := hid (IS.out.ext (ext_alloc1 _ (.cells #[.int .i64 0, .slice none 0 0, .slice none 0 0] 99))))
          (try replace OV := hid (OV.out.ext (ext_alloc1 _ (.cells #[.int .i64 0, .slice none 0 0, .slice none 0 0] 99))))
          rw [hY] at EX OB ⊢
          (try rw [hY] at IS)
          (try rw [hY] at OV)
          clear hHeld hY
          refine hK.out _ _ (sK EX) (fun hHeld => ?_)
          clear hK K
          try simp only [Act.put, List.getElem_toArray, List.getElem_cons_zero, List.getElem_cons_succ, List.setIfInBounds_toArray, List.set_cons_zero, List.set_cons_succ]
          refine wpAnyH_ready (rs := [9]) (by kernel_rfl) (by simp) ?_
          refine AllReadyH.cons (o := _) rfl (fun K hK => ?_) AllReadyH.nil
          go_simp
          obtain ⟨Y, hY⟩ := absW EX (.cells #[.int .i64 e1, .int .i64 e2, .int .i64 e3] 29)
          have IS := hid (intsNew EX [e1, e2, e3] #[.int .i64 e1, .int .i64 e2, .int .i64 e3] rfl)
          (try replace OB := hid (OB.out.alloc (.cells #[.int .i64 e1, .int .i64 e2, .int .i64 e3] 29)))
          replace EX := EX.alloc (.cells #[.int .i64 e1, .int .i64 e2, .int .i64 e3] 29)
          rw [hY] at EX IS ⊢
          (try rw [hY] at OB)
          clear hHeld hY
          refine hK.out _ _ (sK EX) (fun hHeld => ?_)
          clear hK K
          try simp only [Act.put, List.getElem_toArray, List.getElem_cons_zero, List.getElem_cons_succ, List.setIfInBounds_toArray, List.set_cons_zero, List.set_cons_succ]
          refine wpAnyH_ready (rs := [10]) (by kernel_rfl) (by simp) ?_
          refine AllReadyH.cons (o := _) rfl (fun K hK => ?_) AllReadyH.nil
          go_simp
          refine Calls.mono (HB.out _ (HE.trans EX) _ IS.out) ?_
          rintro e X ⟨N, A1, n1, c1, A2, n2, c2, rfl, hOV, hEX⟩
          dsimp only
          have OV := hid (show OutV f seen _ w.heap.size _ N _ _ from hOV.low (HE.trans EX).size)
          replace EX := EX.trans hEX
          (try replace OB := hid (OB.out.ext hEX))
          clear hHeld hEX hOV IS
          refine hK.out _ _ (sK EX) (fun hHeld => ?_)
          clear hK K
          try simp only [Act.put, List.getElem_toArray, List.getElem_cons_zero, List.getElem_cons_succ, List.setIfInBounds_toArray, List.set_cons_zero, List.set_cons_succ]
          refine wpAnyH_take (i := 11) (oi := _) (v := ?v11a8) rfl (by kernel_rfl) (by kernel_rfl) (by kernel_rfl) (fun _ _ _ h => h) (Or.inl ⟨by rfl, ?y11a8⟩) (by assumption) ?r11a8
          case y11a8 => (intro w' hSw; (try dsimp only at hSw); go_simp; (try with_reducible rfl))
          try simp only [Act.put, List.getElem_toArray, List.getElem_cons_zero, List.getElem_cons_succ, List.setIfInBounds_toArray, List.set_cons_zero, List.set_cons_succ]
          refine wpAnyH_take (i := 12) (oi := _) (v := ?v12a8) rfl (by kernel_rfl) (by kernel_rfl) (by kernel_rfl) (fun _ _ _ h => h) (Or.inl ⟨by rfl, ?y12a8⟩) (by assumption) ?r12a8
          case y12a8 => (intro w' hSw; (try dsimp only at hSw); go_simp; (try with_reducible rfl))
          try simp only [Act.put, List.getElem_toArray, List.getElem_cons_zero, List.getElem_cons_succ, List.setIfInBounds_toArray, List.set_cons_zero, List.set_cons_succ]
          refine wpAnyH_take (i := 13) (oi := _) (v := ?v13a8) rfl (by kernel_rfl) (by kernel_rfl) (by kernel_rfl) (fun _ _ _ h => h) (Or.inl ⟨by rfl, ?y13a8⟩) (by assumption) ?r13a8
          case y13a8 => (intro w' hSw; (try dsimp only at hSw); go_simp; (try with_reducible rfl))
          try simp only [Act.put, List.getElem_toArray, List.getElem_cons_zero, List.getElem_cons_succ, List.setIfInBounds_toArray, List.set_cons_zero, List.set_cons_succ]
          refine wpAnyH_ready (rs := [15]) (by kernel_rfl) (by simp) ?_
          refine AllReadyH.cons (o := _) rfl (fun K hK => ?_) AllReadyH.nil
          refine wp_store_mid 99 _ _ rfl _ 0 #[.int .i64 (N : Int), .slice A1 n1 c1, .slice A2 n2 c2] rfl rfl (blk_there OB.out rfl) infoOut (out_one N A1 n1 c1 A2 n2 c2) ?_
          have OB2 := hid (Blk.fill3 OB.out (.int .i64 (N : Int)) (.slice A1 n1 c1) (.slice A2 n2 c2))
          have EX2 := ext_setCells EX LOB [.int .i64 (N : Int), .slice A1 n1 c1, .slice A2 n2 c2] 0
          have OV2 := hid (OV.out.apart (grown_setCells [.int .i64 (N : Int), .slice A1 n1 c1, .slice A2 n2 c2] 0) (Apart.blk OB.out (by decide)) (Apart.blk OB.out (by decide)) (Apart.blk OB.out (by decide)))
          clear hHeld
          refine hK.out _ _ (sK EX2) (fun hHeld => ?_)
          clear hK K
          try simp only [Act.put, List.getElem_toArray, List.getElem_cons_zero, List.getElem_cons_succ, List.setIfInBounds_toArray, List.set_cons_zero, List.set_cons_succ]
          refine wpAnyH_take (i := 16) (oi := _) (v := ?v16ea8) rfl (by kernel_rfl) (by kernel_rfl) (by kernel_rfl) (fun _ _ _ h => h) (Or.inl ⟨by rfl, ?y16ea8⟩) (by assumption) ?r16ea8
          case y16ea8 => (intro w' hSw; (try dsimp only at hSw); go_simp; (try with_reducible rfl))
          try simp only [Act.put, List.getElem_toArray, List.getElem_cons_zero, List.getElem_cons_succ, List.setIfInBounds_toArray, List.set_cons_zero, List.set_cons_succ]
          refine wpAnyH_done (by kernel_rfl) ?_ _
          exact REST _ _ N A1 n1 c1 A2 n2 c2 _ EX2 LOB OB2 OV2.out
      · go_simp
        obtain ⟨Y, hY⟩ := absW EX (.cells #[.int .i64 0, .slice none 0 0, .slice none 0 0] 99)
        have OB := hid (blkNew EX 99 #[.int .i64 0, .slice none 0 0, .slice none 0 0])
        have LOB := EX.size
        replace EX := EX.alloc (.cells #[.int .i64 0, .slice none 0 0, .slice none 0 0] 99)
        (try replace IS := hid (IS.out.ext (ext_alloc1 _ (.cells #[.int .i64 0, .slice none 0 0, .slice none 0 0] 99))))
        (try replace OV := hid (OV.out.ext (ext_alloc1 _ (.cells #[.int .i64 0, .slice none 0 0, .slice none 0 0] 99))))
        rw [hY] at EX OB ⊢
        (try rw [hY] at IS)
        (try rw [hY] at OV)
        clear hHeld hY
        refine hK.out _ _ (sK EX) (fun hHeld => ?_)
        clear hK K
        try simp only [Act.put, List.getElem_toArray, List.getElem_cons_zero, List.getElem_cons_succ, List.setIfInBounds_toArray, List.set_cons_zero, List.set_cons_succ]
        refine wpAnyH_ready (rs := [8]) (by kernel_rfl) (by simp) ?_
        refine AllReadyH.cons (o := _) rfl (fun K hK => ?_) AllReadyH.nil
        go_simp
        refine Calls.mono (HG.out _) ?_
        rintro e X ⟨rfl, rfl⟩
        dsimp only
        clear hHeld
        refine hK.out _ _ (sK EX) (fun hHeld => ?_)
        clear hK K
        try simp only [Act.put, List.getElem_toArray, List.getElem_cons_zero, List.getElem_cons_succ, List.setIfInBounds_toArray, List.set_cons_zero, List.set_cons_succ]
        refine wpAnyH_ready (rs := [9]) (by kernel_rfl) (by simp) ?_
        refine AllReadyH.cons (o := _) rfl (fun K hK => ?_) AllReadyH.nil
        go_simp
        obtain ⟨Y, hY⟩ := absW EX (.cells #[.int .i64 e1, .int .i64 e2, .int .i64 e3] 29)
        have IS := hid (intsNew EX [e1, e2, e3] #[.int .i64 e1, .int .i64 e2, .int .i64 e3] rfl)
        (try replace OB := hid (OB.out.alloc (.cells #[.int .i64 e1, .int .i64 e2, .int .i64 e3] 29)))
        replace EX := EX.alloc (.cells #[.int .i64 e1, .int .i64 e2, .int .i64 e3] 29)
        rw [hY] at EX IS ⊢
        (try rw [hY] at OB)
        clear hHeld hY
        refine hK.out _ _ (sK EX) (fun hHeld => ?_)
        clear hK K
        try simp only [Act.put, List.getElem_toArray, List.getElem_cons_zero, List.getElem_cons_succ, List.setIfInBounds_toArray, List.set_cons_zero, List.set_cons_succ]
        refine wpAnyH_ready (rs := [10]) (by kernel_rfl) (by simp) ?_
        refine AllReadyH.cons (o := _) rfl (fun K hK => ?_) AllReadyH.nil
        go_simp
        refine Calls.mono (HB.out _ (HE.trans EX) _ IS.out) ?_
        rintro e X ⟨N, A1, n1, c1, A2, n2, c2, rfl, hOV, hEX⟩
        dsimp only
        have OV := hid (show OutV f seen _ w.heap.size _ N _ _ from hOV.low (HE.trans EX).size)
        replace EX := EX.trans hEX
        (try replace OB := hid (OB.out.ext hEX))
        clear hHeld hEX hOV IS
        refine hK.out _ _ (sK EX) (fun hHeld => ?_)
        clear hK K
        try simp only [Act.put, List.getElem_toArray, List.getElem_cons_zero, List.getElem_cons_succ, List.setIfInBounds_toArray, List.set_cons_zero, List.set_cons_succ]
        refine wpAnyH_take (i := 11) (oi := _) (v := ?v11a9) rfl (by kernel_rfl) (by kernel_rfl) (by kernel_rfl) (fun _ _ _ h => h) (Or.inl ⟨by rfl, ?y11a9⟩) (by assumption) ?r11a9
        case y11a9 => (intro w' hSw; (try dsimp only at hSw); go_simp; (try with_reducible rfl))
        try simp only [Act.put, List.getElem_toArray, List.getElem_cons_zero, List.getElem_cons_succ, List.setIfInBounds_toArray, List.set_cons_zero, List.set_cons_succ]
        refine wpAnyH_take (i := 12) (oi := _) (v := ?v12a9) rfl (by kernel_rfl) (by kernel_rfl) (by kernel_rfl) (fun _ _ _ h => h) (Or.inl ⟨by rfl, ?y12a9⟩) (by assumption) ?r12a9
        case y12a9 => (intro w' hSw; (try dsimp only at hSw); go_simp; (try with_reducible rfl))
        try simp only [Act.put, List.getElem_toArray, List.getElem_cons_zero, List.getElem_cons_succ, List.setIfInBounds_toArray, List.set_cons_zero, List.set_cons_succ]
        refine wpAnyH_take (i := 13) (oi := _) (v := ?v13a9) rfl (by kernel_rfl) (by kernel_rfl) (by kernel_rfl) (fun _ _ _ h => h) (Or.inl ⟨by rfl, ?y13a9⟩) (by assumption) ?r13a9
        case y13a9 => (intro w' hSw; (try dsimp only at hSw); go_simp; (try with_reducible rfl))
        try simp only [Act.put, List.getElem_toArray, List.getElem_cons_zero, List.getElem_cons_succ, List.setIfInBounds_toArray, List.set_cons_zero, List.set_cons_succ]
        refine wpAnyH_ready (rs := [15]) (by kernel_rfl) (by simp) ?_
        refine AllReadyH.cons (o := _) rfl (fun K hK => ?_) AllReadyH.nil
        refine wp_store_mid 99 _ _ rfl _ 0 #[.int .i64 (N : Int), .slice A1 n1 c1, .slice A2 n2 c2] rfl rfl (blk_there OB.out rfl) infoOut (out_one N A1 n1 c1 A2 n2 c2) ?_
        have OB2 := hid (Blk.fill3 OB.out (.int .i64 (N : Int)) (.slice A1 n1 c1) (.slice A2 n2 c2))
        have EX2 := ext_setCells EX LOB [.int .i64 (N : Int), .slice A1 n1 c1, .slice A2 n2 c2] 0
        have OV2 := hid (OV.out.apart (grown_setCells [.int .i64 (N : Int), .slice A1 n1 c1, .slice A2 n2 c2] 0) (Apart.blk OB.out (by decide)) (Apart.blk OB.out (by decide)) (Apart.blk OB.out (by decide)))
        clear hHeld
        refine hK.out _ _ (sK EX2) (fun hHeld => ?_)
        clear hK K
        try simp only [Act.put, List.getElem_toArray, List.getElem_cons_zero, List.getElem_cons_succ, List.setIfInBounds_toArray, List.set_cons_zero, List.set_cons_succ]
        refine wpAnyH_take (i := 16) (oi := _) (v := ?v16ea9) rfl (by kernel_rfl) (by kernel_rfl) (by kernel_rfl) (fun _ _ _ h => h) (Or.inl ⟨by rfl, ?y16ea9⟩) (by assumption) ?r16ea9
        case y16ea9 => (intro w' hSw; (try dsimp only at hSw); go_simp; (try with_reducible rfl))
        try simp only [Act.put, List.getElem_toArray, List.getElem_cons_zero, List.getElem_cons_succ, List.setIfInBounds_toArray, List.set_cons_zero, List.set_cons_succ]
        refine wpAnyH_done (by kernel_rfl) ?_ _
        exact REST _ _ N A1 n1 c1 A2 n2 c2 _ EX2 LOB OB2 OV2.out
    · go_simp
      obtain ⟨Y, hY⟩ := absW EX (.cells #[.int .i64 0, .slice none 0 0, .slice none 0 0] 99)
      have OB := hid (blkNew EX 99 #[.int .i64 0, .slice none 0 0, .slice none 0 0])
      have LOB := EX.size
      replace EX := EX.alloc (.cells #[.int .i64 0, .slice none 0 0, .slice none 0 0] 99)
      (try replace IS := hid (IS.out.ext (ext_alloc1 _ (.cells #[.int .i64 0, .slice none 0 0, .slice none 0 0] 99))))
      (try replace OV := hid (OV.out.ext (ext_alloc1 _ (.cells #[.int .i64 0, .slice none 0 0, .slice none 0 0] 99))))
      rw [hY] at EX OB ⊢
      (try rw [hY] at IS)
      (try rw [hY] at OV)
      clear hHeld hY
      refine hK.out _ _ (sK EX) (fun hHeld => ?_)
      clear hK K
      try simp only [Act.put, List.getElem_toArray, List.getElem_cons_zero, List.getElem_cons_succ, List.setIfInBounds_toArray, List.set_cons_zero, List.set_cons_succ]
      refine wpAnyH_ready (rs := [6]) (by kernel_rfl) (by simp) ?_
      refine AllReadyH.cons (o := _) rfl (fun K hK => ?_) AllReadyH.nil
      go_simp
      refine Calls.mono (HS.out _ (HE.trans EX)) ?_
      rintro e X ⟨rfl, hEX⟩
      dsimp only
      replace EX := EX.trans hEX
      (try replace OB := hid (OB.out.ext hEX))
      (try replace IS := hid (IS.out.ext hEX))
      clear hHeld hEX
      refine hK.out _ _ (sK EX) (fun hHeld => ?_)
      clear hK K
      try simp only [Act.put, List.getElem_toArray, List.getElem_cons_zero, List.getElem_cons_succ, List.setIfInBounds_toArray, List.set_cons_zero, List.set_cons_succ]
      refine wpAnyH_ready (rs := [8]) (by kernel_rfl) (by simp) ?_
      refine AllReadyH.cons (o := _) rfl (fun K hK => ?_) AllReadyH.nil
      go_simp
      refine Calls.mono (HG.out _) ?_
      rintro e X ⟨rfl, rfl⟩
      dsimp only
      clear hHeld
      refine hK.out _ _ (sK EX) (fun hHeld => ?_)
      clear hK K
      try simp only [Act.put, List.getElem_toArray, List.getElem_cons_zero, List.getElem_cons_succ, List.setIfInBounds_toArray, List.set_cons_zero, List.set_cons_succ]
      refine wpAnyH_ready (rs := [9]) (by kernel_rfl) (by simp) ?_
      refine AllReadyH.cons (o := _) rfl (fun K hK => ?_) AllReadyH.nil
      go_simp
      obtain ⟨Y, hY⟩ := absW EX (.cells #[.int .i64 e1, .int .i64 e2, .int .i64 e3] 29)
      have IS := hid (intsNew EX [e1, e2, e3] #[.int .i64 e1, .int .i64 e2, .int .i64 e3] rfl)
      (try replace OB := hid (OB.out.alloc (.cells #[.int .i64 e1, .int .i64 e2, .int .i64 e3] 29)))
      replace EX := EX.alloc (.cells #[.int .i64 e1, .int .i64 e2, .int .i64 e3] 29)
      rw [hY] at EX IS ⊢
      (try rw [hY] at OB)
      clear hHeld hY
      refine hK.out _ _ (sK EX) (fun hHeld => ?_)
      clear hK K
      try simp only [Act.put, List.getElem_toArray, List.getElem_cons_zero, List.getElem_cons_succ, List.setIfInBounds_toArray, List.set_cons_zero, List.set_cons_succ]
      refine wpAnyH_ready (rs := [10]) (by kernel_rfl) (by simp) ?_
      refine AllReadyH.cons (o := _) rfl (fun K hK => ?_) AllReadyH.nil
      go_simp
      refine Calls.mono (HB.out _ (HE.trans EX) _ IS.out) ?_
      rintro e X ⟨N, A1, n1, c1, A2, n2, c2, rfl, hOV, hEX⟩
      dsimp only
      have OV := hid (show OutV f seen _ w.heap.size _ N _ _ from hOV.low (HE.trans EX).size)
      replace EX := EX.trans hEX
      (try replace OB := hid (OB.out.ext hEX))
      clear hHeld hEX hOV IS
      refine hK.out _ _ (sK EX) (fun hHeld => ?_)
      clear hK K
      try simp only [Act.put, List.getElem_toArray, List.getElem_cons_zero, List.getElem_cons_succ, List.setIfInBounds_toArray, List.set_cons_zero, List.set_cons_succ]
      refine wpAnyH_take (i := 11) (oi := _) (v := ?v11a10) rfl (by kernel_rfl) (by kernel_rfl) (by kernel_rfl) (fun _ _ _ h => h) (Or.inl ⟨by rfl, ?y11a10⟩) (by assumption) ?r11a10
      case y11a10 => (intro w' hSw; (try dsimp only at hSw); go_simp; (try with_reducible rfl))
      try simp only [Act.put, List.getElem_toArray, List.getElem_cons_zero, List.getElem_cons_succ, List.setIfInBounds_toArray, List.set_cons_zero, List.set_cons_succ]
      refine wpAnyH_take (i := 12) (oi := _) (v := ?v12a10) rfl (by kernel_rfl) (by kernel_rfl) (by kernel_rfl) (fun _ _ _ h => h) (Or.inl ⟨by rfl, ?y12a10⟩) (by assumption) ?r12a10
      case y12a10 => (intro w' hSw; (try dsimp only at hSw); go_simp; (try with_reducible rfl))
      try simp only [Act.put, List.getElem_toArray, List.getElem_cons_zero, List.getElem_cons_succ, List.setIfInBounds_toArray, List.set_cons_zero, List.set_cons_succ]
      refine wpAnyH_take (i := 13) (oi := _) (v := ?v13a10) rfl (by kernel_rfl) (by kernel_rfl) (by kernel_rfl) (fun _ _ _ h => h) (Or.inl ⟨by rfl, ?y13a10⟩) (by assumption) ?r13a10
      case y13a10 => (intro w' hSw; (try dsimp only at hSw); go_simp; (try with_reducible rfl))
      try simp only [Act.put, List.getElem_toArray, List.getElem_cons_zero, List.getElem_cons_succ, List.setIfInBounds_toArray, List.set_cons_zero, List.set_cons_succ]
      refine wpAnyH_ready (rs := [15]) (by kernel_rfl) (by simp) ?_
      refine AllReadyH.cons (o := _) rfl (fun K hK => ?_) AllReadyH.nil
      refine wp_store_mid 99 _ _ rfl _ 0 #[.int .i64 (N : Int), .slice A1 n1 c1, .slice A2 n2 c2] rfl rfl (blk_there OB.out rfl) infoOut (out_one N A1 n1 c1 A2 n2 c2) ?_
      have OB2 := hid (Blk.fill3 OB.out (.int .i64 (N : Int)) (.slice A1 n1 c1) (.slice A2 n2 c2))
      have EX2 := ext_setCells EX LOB [.int .i64 (N : Int), .slice A1 n1 c1, .slice A2 n2 c2] 0
      have OV2 := hid (OV.out.apart (grown_setCells [.int .i64 (N : Int), .slice A1 n1 c1, .slice A2 n2 c2] 0) (Apart.blk OB.out (by decide)) (Apart.blk OB.out (by decide)) (Apart.blk OB.out (by decide)))
      clear hHeld
      refine hK.out _ _ (sK EX2) (fun hHeld => ?_)
      clear hK K
      try simp only [Act.put, List.getElem_toArray, List.getElem_cons_zero, List.getElem_cons_succ, List.setIfInBounds_toArray, List.set_cons_zero, List.set_cons_succ]
      refine wpAnyH_take (i := 16) (oi := _) (v := ?v16ea10) rfl (by kernel_rfl) (by kernel_rfl) (by kernel_rfl) (fun _ _ _ h => h) (Or.inl ⟨by rfl, ?y16ea10⟩) (by assumption) ?r16ea10
      case y16ea10 => (intro w' hSw; (try dsimp only at hSw); go_simp; (try with_reducible rfl))
      try simp only [Act.put, List.getElem_toArray, List.getElem_cons_zero, List.getElem_cons_succ, List.setIfInBounds_toArray, List.set_cons_zero, List.set_cons_succ]
      refine wpAnyH_done (by kernel_rfl) ?_ _
      exact REST _ _ N A1 n1 c1 A2 n2 c2 _ EX2 LOB OB2 OV2.out
  · go_simp
    obtain ⟨Y, hY⟩ := absW EX (.cells #[.int .i64 0, .slice none 0 0, .slice none 0 0] 99)
    have OB := hid (blkNew EX 99 #[.int .i64 0, .slice none 0 0, .slice none 0 0])
    have LOB := EX.size
    replace EX := EX.alloc (.cells #[.int .i64 0, .slice none 0 0, .slice none 0 0] 99)
    (try replace IS := hid (IS.out.ext (ext_alloc1 _ (.cells #[.int .i64 0, .slice none 0 0, .slice none 0 0] 99))))
    (try replace OV := hid (OV.out.ext (ext_alloc1 _ (.cells #[.int .i64 0, .slice none 0 0, .slice none 0 0] 99))))
    rw [hY] at EX OB ⊢
    (try rw [hY] at IS)
    (try rw [hY] at OV)
    clear hHeld hY
    refine hK.out _ _ (sK EX) (fun hHeld => ?_)
    clear hK K
    try simp only [Act.put, List.getElem_toArray, List.getElem_cons_zero, List.getElem_cons_succ, List.setIfInBounds_toArray, List.set_cons_zero, List.set_cons_succ]
    refine wpAnyH_ready (rs := [3]) (by kernel_rfl) (by simp) ?_
    refine AllReadyH.cons (o := _) rfl (fun K hK => ?_) AllReadyH.nil
    go_simp
    refine Calls.mono (HC.out _ (HE.trans EX)) ?_
    rintro e X ⟨rfl, hEX⟩
    dsimp only
    replace EX := EX.trans hEX
    (try replace OB := hid (OB.out.ext hEX))
    (try replace IS := hid (IS.out.ext hEX))
    clear hHeld hEX
    refine hK.out _ _ (sK EX) (fun hHeld => ?_)
    clear hK K
    try simp only [Act.put, List.getElem_toArray, List.getElem_cons_zero, List.getElem_cons_succ, List.setIfInBounds_toArray, List.set_cons_zero, List.set_cons_succ]
    refine wpAnyH_ready (rs := [6]) (by kernel_rfl) (by simp) ?_
    refine AllReadyH.cons (o := _) rfl (fun K hK => ?_) AllReadyH.nil
    go_simp
    refine Calls.mono (HS.out _ (HE.trans EX)) ?_
    rintro e X ⟨rfl, hEX⟩
    dsimp only
    replace EX := EX.trans hEX
    (try replace OB := hid (OB.out.ext hEX))
    (try replace IS := hid (IS.out.ext hEX))
    clear hHeld hEX
    refine hK.out _ _ (sK EX) (fun hHeld => ?_)
    clear hK K
    try simp only [Act.put, List.getElem_toArray, List.getElem_cons_zero, List.getElem_cons_succ, List.setIfInBounds_toArray, List.set_cons_zero, List.set_cons_succ]
    refine wpAnyH_ready (rs := [8]) (by kernel_rfl) (by simp) ?_
    refine AllReadyH.cons (o := _) rfl (fun K hK => ?_) AllReadyH.nil
    go_simp
    refine Calls.mono (HG.out _) ?_
    rintro e X ⟨rfl, rfl⟩
    dsimp only
    clear hHeld
    refine hK.out _ _ (sK EX) (fun hHeld => ?_)
    clear hK K
    try simp only [Act.put, List.getElem_toArray, List.getElem_cons_zero, List.getElem_cons_succ, List.setIfInBounds_toArray, List.set_cons_zero, List.set_cons_succ]
    refine wpAnyH_ready (rs := [9]) (by kernel_rfl) (by simp) ?_
    refine AllReadyH.cons (o := _) rfl (fun K hK => ?_) AllReadyH.nil
    go_simp
    obtain ⟨Y, hY⟩ := absW EX (.cells #[.int .i64 e1, .int .i64 e2, .int .i64 e3] 29)
    have IS := hid (intsNew EX [e1, e2, e3] #[.int .i64 e1, .int .i64 e2, .int .i64 e3] rfl)
    (try replace OB := hid (OB.out.alloc (.cells #[.int .i64 e1, .int .i64 e2, .int .i64 e3] 29)))
    replace EX := EX.alloc (.cells #[.int .i64 e1, .int .i64 e2, .int .i64 e3] 29)
    rw [hY] at EX IS ⊢
    (try rw [hY] at OB)
    clear hHeld hY
    refine hK.out _ _ (sK EX) (fun hHeld => ?_)
    clear hK K
    try simp only [Act.put, List.getElem_toArray, List.getElem_cons_zero, List.getElem_cons_succ, List.setIfInBounds_toArray, List.set_cons_zero, List.set_cons_succ]
    refine wpAnyH_ready (rs := [10]) (by kernel_rfl) (by simp) ?_
    refine AllReadyH.cons (o := _) rfl (fun K hK => ?_) AllReadyH.nil
    go_simp
    refine Calls.mono (HB.out _ (HE.trans EX) _ IS.out) ?_
    rintro e X ⟨N, A1, n1, c1, A2, n2, c2, rfl, hOV, hEX⟩
    dsimp only
    have OV := hid (show OutV f seen _ w.heap.size _ N _ _ from hOV.low (HE.trans EX).size)
    replace EX := EX.trans hEX
    (try replace OB := hid (OB.out.ext hEX))
    clear hHeld hEX hOV IS
    refine hK.out _ _ (sK EX) (fun hHeld => ?_)
    clear hK K
    try simp only [Act.put, List.getElem_toArray, List.getElem_cons_zero, List.getElem_cons_succ, List.setIfInBounds_toArray, List.set_cons_zero, List.set_cons_succ]
    refine wpAnyH_take (i := 11) (oi := _) (v := ?v11a11) rfl (by kernel_rfl) (by kernel_rfl) (by kernel_rfl) (fun _ _ _ h => h) (Or.inl ⟨by rfl, ?y11a11⟩) (by assumption) ?r11a11
    case y11a11 => (intro w' hSw; (try dsimp only at hSw); go_simp; (try with_reducible rfl))
    try simp only [Act.put, List.getElem_toArray, List.getElem_cons_zero, List.getElem_cons_succ, List.setIfInBounds_toArray, List.set_cons_zero, List.set_cons_succ]
    refine wpAnyH_take (i := 12) (oi := _) (v := ?v12a11) rfl (by kernel_rfl) (by kernel_rfl) (by kernel_rfl) (fun _ _ _ h => h) (Or.inl ⟨by rfl, ?y12a11⟩) (by assumption) ?r12a11
    case y12a11 => (intro w' hSw; (try dsimp only at hSw); go_simp; (try with_reducible rfl))
    try simp only [Act.put, List.getElem_toArray, List.getElem_cons_zero, List.getElem_cons_succ, List.setIfInBounds_toArray, List.set_cons_zero, List.set_cons_succ]
    refine wpAnyH_take (i := 13) (oi := _) (v := ?v13a11) rfl (by kernel_rfl) (by kernel_rfl) (by kernel_rfl) (fun _ _ _ h => h) (Or.inl ⟨by rfl, ?y13a11⟩) (by assumption) ?r13a11
    case y13a11 => (intro w' hSw; (try dsimp only at hSw); go_simp; (try with_reducible rfl))
    try simp only [Act.put, List.getElem_toArray, List.getElem_cons_zero, List.getElem_cons_succ, List.setIfInBounds_toArray, List.set_cons_zero, List.set_cons_succ]
    refine wpAnyH_ready (rs := [15]) (by kernel_rfl) (by simp) ?_
    refine AllReadyH.cons (o := _) rfl (fun K hK => ?_) AllReadyH.nil
    refine wp_store_mid 99 _ _ rfl _ 0 #[.int .i64 (N : Int), .slice A1 n1 c1, .slice A2 n2 c2] rfl rfl (blk_there OB.out rfl) infoOut (out_one N A1 n1 c1 A2 n2 c2) ?_
    have OB2 := hid (Blk.fill3 OB.out (.int .i64 (N : Int)) (.slice A1 n1 c1) (.slice A2 n2 c2))
    have EX2 := ext_setCells EX LOB [.int .i64 (N : Int), .slice A1 n1 c1, .slice A2 n2 c2] 0
    have OV2 := hid (OV.out.apart (grown_setCells [.int .i64 (N : Int), .slice A1 n1 c1, .slice A2 n2 c2] 0) (Apart.blk OB.out (by decide)) (Apart.blk OB.out (by decide)) (Apart.blk OB.out (by decide)))
    clear hHeld
    refine hK.out _ _ (sK EX2) (fun hHeld => ?_)
    clear hK K
    try simp only [Act.put, List.getElem_toArray, List.getElem_cons_zero, List.getElem_cons_succ, List.setIfInBounds_toArray, List.set_cons_zero, List.set_cons_succ]
    refine wpAnyH_take (i := 16) (oi := _) (v := ?v16ea11) rfl (by kernel_rfl) (by kernel_rfl) (by kernel_rfl) (fun _ _ _ h => h) (Or.inl ⟨by rfl, ?y16ea11⟩) (by assumption) ?r16ea11
    case y16ea11 => (intro w' hSw; (try dsimp only at hSw); go_simp; (try with_reducible rfl))
    try simp only [Act.put, List.getElem_toArray, List.getElem_cons_zero, List.getElem_cons_succ, List.setIfInBounds_toArray, List.set_cons_zero, List.set_cons_succ]
    refine wpAnyH_done (by kernel_rfl) ?_ _
    exact REST _ _ N A1 n1 c1 A2 n2 c2 _ EX2 LOB OB2 OV2.out
end Go.Proofs.YtcpkdnegmblonaaDoor
