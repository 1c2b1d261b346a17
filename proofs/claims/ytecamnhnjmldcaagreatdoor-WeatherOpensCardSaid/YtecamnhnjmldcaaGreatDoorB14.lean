/- What the rules ask of an hour. -/
import Derived.Test.YtecamnhnjmldcaaGreatDoorB13
set_option linter.unusedSimpArgs false
set_option linter.unusedVariables false
namespace Go.Proofs.YtecamnhnjmldcaaGreatDoor
open Go.RowKit
def askK (rs : List Rl) (hour op : Int) (k : Nat) : Lm := (rs.take k).foldl (fun l r => if op - r.after ≤ hour then andL l r.lim else l) wideL
theorem askK_step (rs : List Rl) (hour op : Int) (k : Nat) (hk : k < rs.length) : askK rs hour op (k + 1) = if op - (rs.getD k zeroRl).after ≤ hour then andL (askK rs hour op k) (rs.getD k zeroRl).lim else askK rs hour op k := by
  have e : rs.getD k zeroRl = rs[k] := by simp [List.getD, List.getElem?_eq_getElem hk]
  unfold askK
  rw [List.take_succ_eq_append_getElem hk, List.foldl_append, e]
  rfl
def regCells (N : Nat) (nv sv rv : Value) : Array Value := #[.int .i64 (N : Int), nv, sv, rv]
theorem infoLm : (Tryz.prog.info? 115).map (·.size) = some 4 := by kernel_rfl
theorem lm_one (a b c d : Int) : (#[.int .i64 a, .int .i64 b, .int .i64 c, .int .i64 d] : Array Value).all (·.oneCell') = true :=
  one_of (vs := [.int .i64 a, .int .i64 b, .int .i64 c, .int .i64 d]) (by intro v hv; simp only [List.mem_cons, List.not_mem_nil, or_false] at hv; rcases hv with rfl | rfl | rfl | rfl <;> rfl)
set_option maxRecDepth 100000 in
set_option maxHeartbeats 4000000 in
theorem asked_any (N : Nat) (nv sv : Value) (A1 : Option Addr) (n1 c1 : Nat) (hnv : nv = .slice A1 n1 c1) (A2 : Option Addr) (n2 c2 : Nat) (hsv : sv = .slice A2 n2 c2) (rs : List Rl) (RA : Option Addr) (rn rc : Nat) (hrn : rs.length = rn) (hrm : rn ≤ 1000) (haft : ∀ r ∈ rs, 0 ≤ r.after ∧ r.after ≤ 1000) (hour op : Int) (ho : 0 ≤ op) (ho2 : op ≤ 1000) (w : World) (hw : WidW w) (hr : RlsAt w RA rs) :
    Calls Tryz.prog 136 #[.agg (regCells N nv sv (.slice RA rn rc)), .int .i64 hour, .int .i64 op] w fun e w' => e = .returned (askM rs hour op).val ∧ Ext w w' := by
  subst hnv hsv
  have HR := hid hr
  have HRN := hid hrn
  have HAF := hid haft
  have B0 := hid (blk_old (blk_old (blk_last w (.cells (regCells N (.slice A1 n1 c1) (.slice A2 n2 c2) (.slice RA rn rc)) 106)) (.cells #[.int .i64 0, .int .i64 0, .int .i64 0, .int .i64 0] 115)) (.cells #[.int .i64 200, .int .i64 100, .int .i64 (-50), .int .i64 50] 115))
  have t1 := blk_last (w.alloc (.cells (regCells N (.slice A1 n1 c1) (.slice A2 n2 c2) (.slice RA rn rc)) 106)) (.cells #[.int .i64 0, .int .i64 0, .int .i64 0, .int .i64 0] 115)
  have t2 := blk_last ((w.alloc (.cells (regCells N (.slice A1 n1 c1) (.slice A2 n2 c2) (.slice RA rn rc)) 106)).alloc (.cells #[.int .i64 0, .int .i64 0, .int .i64 0, .int .i64 0] 115)) (.cells #[.int .i64 200, .int .i64 100, .int .i64 (-50), .int .i64 50] 115)
  rw [World.size_alloc] at t1
  rw [World.size_alloc, World.size_alloc] at t2
  have B1 := hid (blk_old t1 (.cells #[.int .i64 200, .int .i64 100, .int .i64 (-50), .int .i64 50] 115))
  have B2 := hid t2
  obtain ⟨hz, d0, d1, d2, d3⟩ := hw
  have hz0 : 0 < w.heap.size := hz
  have hz1 : ¬ 0 = w.heap.size := by omega
  clear hz t1 t2 hr hrn haft
  unfold regCells at *
  go_enter Tryz.func136, Tryz.ntmps136
  go_wp2
  go_loopw [15] (fun i wr => Ext w wr ∧ ∃ k : Nat, k ≤ rn ∧ i = .int .i64 k ∧ Hid (Blk wr (w.heap.size + 1) 115 #[.int .i64 0, .int .i64 0, .int .i64 0, .int .i64 0]) ∧ Hid (Blk wr (w.heap.size + 1 + 1) 115 #[.int .i64 (askK rs hour op k).wind, .int .i64 (askK rs hour op k).rain, .int .i64 (askK rs hour op k).tl, .int .i64 (askK rs hour op k).th])) (fun i _ => rn - (intOf i).toNat)
  case atStart =>
    exact ⟨by (repeat' (first | with_reducible assumption | with_reducible exact Ext.refl _ | with_reducible refine Ext.alloc ?_ _ | with_reducible refine Ext.set ?_ ?_ _ | with_reducible refine Ext.drew ?_ | with_reducible refine Ext.drewN ?_ _ | with_reducible refine Ext.trans ?_ (by assumption) | (dsimp only; omega))), 0, Nat.zero_le _, rfl, B1, B2⟩
  case round =>
    obtain ⟨hE, k, hk, rfl, K1, K2⟩ := hrel
    have y1 := K1.out.lt
    have y2 := K2.out.lt
    clear B0 B1 B2 d0 d1 d2 d3 hz0 hz1
    by_cases hlt : k < rn
    · obtain ⟨b, off, rfl, hb, e0, e1, e2, e3, e4, e5⟩ := (HR.out.ext hE).at_ HRN.out hlt
      have HST := hid (askK_step rs hour op k (by rw [HRN.out]; exact hlt))
      have ha := HAF.out _ (mem_at rs zeroRl k (by rw [HRN.out]; exact hlt))
      generalize rs.getD k zeroRl = r at *
      generalize askK rs hour op k = lk at *
      obtain ⟨pa, af, lm⟩ := r
      dsimp only at *
      have HAND := hid (fun W => and_any lk lm W)
      generalize hnx : andL lk lm = nx at *
      clear hnx
      obtain ⟨g0, g1, g2, g3⟩ : _ ∧ _ ∧ _ ∧ _ := ⟨K2.out.cell 0, K2.out.cell 1, K2.out.cell 2, K2.out.cell 3⟩
      simp only [List.getElem?_toArray, List.getElem?_cons_zero, List.getElem?_cons_succ] at g0 g1 g2 g3
      unfold Lm.val at HAND
      obtain ⟨ha1, ha2⟩ := ha
      by_cases hc : op - af ≤ hour
      · rw [if_pos hc] at HST
        go_wp2_with fail
        refine Calls.mono (HAND.out _) ?_
        rintro e w4 ⟨rfl, hE4⟩
        dsimp only
        have X4 : Ext wr w4 := (ext_alloc1 _ _).trans hE4
        have M1 := hid (show Blk _ _ _ _ from K1.out.ext X4)
        have M2 := hid (show Blk _ _ _ _ from K2.out.ext X4)
        have HX4 := hid (hE.trans X4)
        have R2 := hid (M2.out.fill [.int .i64 nx.wind, .int .i64 nx.rain, .int .i64 nx.tl, .int .i64 nx.th] 0)
        have R1 := hid (M1.out.grown (grown_setCells (b := w.heap.size + 1 + 1) [.int .i64 nx.wind, .int .i64 nx.rain, .int .i64 nx.tl, .int .i64 nx.th] 0) (by simp))
        have RX := hid (ext_setCells HX4.out (b := w.heap.size + 1 + 1) (by omega) [.int .i64 nx.wind, .int .i64 nx.rain, .int .i64 nx.tl, .int .i64 nx.th] 0)
        have HO := hid (lm_one nx.wind nx.rain nx.tl nx.th)
        simp only [fillA, List.setIfInBounds_toArray, List.set_cons_zero, List.set_cons_succ] at R2
        clear hE4 X4 K1 K2 g0 g1 g2 g3 e0 e1 e2 e3 e4 e5 HX4 M1 HAND
        iterate 1 (first | go_values | go_skip | go_guarded | go_step | go_upon | go_back)
        refine wpList_store_mid rfl 115 _ _ rfl (w.heap.size + 1 + 1) 0 (#[.int .i64 nx.wind, .int .i64 nx.rain, .int .i64 nx.tl, .int .i64 nx.th]) rfl rfl (blk_there M2.out rfl) infoLm HO.out ?_
        obtain ⟨Z, hZ⟩ : ∃ Z, w4.setCells (w.heap.size + 1 + 1) 0 [.int .i64 nx.wind, .int .i64 nx.rain, .int .i64 nx.tl, .int .i64 nx.th] = Z := ⟨_, rfl⟩
        rw [hZ] at R1 R2 RX
        have hZ2 : w4.setCells (w.heap.size + 1 + 1) 0 (#[.int .i64 nx.wind, .int .i64 nx.rain, .int .i64 nx.tl, .int .i64 nx.th] : Array Value).toList = Z := hZ
        first | rw [hZ2] | rw [hZ]
        clear hZ hZ2 HO M2
        go_wp2
        go_roundw
        case rel => exact ⟨RX.out, k + 1, by omega, by go_num, R1, hid (by rw [HST.out]; exact R2.out)⟩
        case measure => simp [intOf]; omega
      · rw [if_neg hc] at HST
        have hc2 : hour < op - af := by omega
        go_wp2
        go_roundw
        case rel => exact ⟨by (repeat' (first | with_reducible assumption | with_reducible exact Ext.refl _ | with_reducible refine Ext.alloc ?_ _ | with_reducible refine Ext.set ?_ ?_ _ | with_reducible refine Ext.drew ?_ | with_reducible refine Ext.drewN ?_ _ | with_reducible refine Ext.trans ?_ (by assumption) | (dsimp only; omega))), k + 1, by omega, by go_num, hid (K1.out.alloc _), hid (by rw [HST.out]; exact K2.out.alloc _)⟩
        case measure => simp [intOf]; omega
    · obtain rfl : k = rn := by omega
      have HF := hid (show askK rs hour op k = askM rs hour op by unfold askK askM; rw [List.take_of_length_le (by rw [HRN.out]; exact Nat.le_refl _)])
      obtain ⟨g0, g1, g2, g3⟩ : _ ∧ _ ∧ _ ∧ _ := ⟨K2.out.cell 0, K2.out.cell 1, K2.out.cell 2, K2.out.cell 3⟩
      obtain ⟨f0, f1, f2, f3⟩ : _ ∧ _ ∧ _ ∧ _ := ⟨K1.out.cell 0, K1.out.cell 1, K1.out.cell 2, K1.out.cell 3⟩
      simp only [List.getElem?_toArray, List.getElem?_cons_zero, List.getElem?_cons_succ] at g0 g1 g2 g3 f0 f1 f2 f3
      rw [HF.out] at g0 g1 g2 g3
      clear HF
      obtain ⟨lm, hlm⟩ : ∃ lm, askM rs hour op = lm := ⟨_, rfl⟩
      have HLM := hid hlm
      rw [hlm] at g0 g1 g2 g3
      clear hlm
      have HO := hid (lm_one lm.wind lm.rain lm.tl lm.th)
      have R1 := hid (K1.out.fill [.int .i64 lm.wind, .int .i64 lm.rain, .int .i64 lm.tl, .int .i64 lm.th] 0)
      have RX := hid (ext_setCells hE (b := w.heap.size + 1) (by omega) [.int .i64 lm.wind, .int .i64 lm.rain, .int .i64 lm.tl, .int .i64 lm.th] 0)
      simp only [fillA, List.setIfInBounds_toArray, List.set_cons_zero, List.set_cons_succ] at R1
      clear K2 HAF
      go_wp2_with (refine wpList_store_mid rfl 115 _ _ rfl (w.heap.size + 1) 0 (#[.int .i64 lm.wind, .int .i64 lm.rain, .int .i64 lm.tl, .int .i64 lm.th]) rfl rfl (blk_there K1.out rfl) infoLm HO.out ?_)
      obtain ⟨Z, hZ⟩ : ∃ Z, wr.setCells (w.heap.size + 1) 0 [.int .i64 lm.wind, .int .i64 lm.rain, .int .i64 lm.tl, .int .i64 lm.th] = Z := ⟨_, rfl⟩
      rw [hZ] at R1 RX
      have hZ2 : wr.setCells (w.heap.size + 1) 0 (#[.int .i64 lm.wind, .int .i64 lm.rain, .int .i64 lm.tl, .int .i64 lm.th] : Array Value).toList = Z := hZ
      first | rw [hZ2] | rw [hZ]
      clear hZ hZ2 HO
      obtain ⟨r0, r1, r2, r3⟩ : _ ∧ _ ∧ _ ∧ _ := ⟨R1.out.cell 0, R1.out.cell 1, R1.out.cell 2, R1.out.cell 3⟩
      simp only [List.getElem?_toArray, List.getElem?_cons_zero, List.getElem?_cons_succ] at r0 r1 r2 r3
      exact bodyPost_ret (v := .agg #[.int .i64 lm.wind, .int .i64 lm.rain, .int .i64 lm.tl, .int .i64 lm.th]) (by simp [results, Tryz.results136, go_sem, r0, r1, r2, r3]) rfl ⟨by rw [HLM.out]; rfl, RX.out⟩
end Go.Proofs.YtecamnhnjmldcaaGreatDoor
/- isOpen. -/
set_option linter.unusedSimpArgs false
set_option linter.unusedVariables false
namespace Go.Proofs.YtecamnhnjmldcaaGreatDoor
open Go.RowKit
def openK (kept : Lm → Hr → Bool) (rs : List Rl) (hs : List Hr) (op k : Nat) : Bool := (List.range k).all fun h => kept (askM rs h op) (hs.getD h zeroHr)
theorem openK_step (kept : Lm → Hr → Bool) (rs : List Rl) (hs : List Hr) (op k : Nat) : openK kept rs hs op (k + 1) = (openK kept rs hs op k && kept (askM rs k op) (hs.getD k zeroHr)) := by
  unfold openK
  rw [List.range_succ, List.all_append]
  simp
theorem openK_miss (kept : Lm → Hr → Bool) (rs : List Rl) (hs : List Hr) (op k : Nat) (hk : k ≤ op) (h : kept (askM rs k op) (hs.getD k zeroHr) = false) : isOpenM kept rs hs op = false := by
  unfold isOpenM
  rw [List.all_eq_false]
  exact ⟨k, List.mem_range.2 (by omega), by rw [h]; decide⟩
set_option maxRecDepth 100000 in
set_option maxHeartbeats 4000000 in
theorem isOpen_any (kf : Nat) (kp : Lm → Hr → Bool) (hkf : KeptF kf kp) (N : Nat) (hN : N ≤ 1000) (nv sv : Value) (A1 : Option Addr) (n1 c1 : Nat) (hnv : nv = .slice A1 n1 c1) (A2 : Option Addr) (n2 c2 : Nat) (hsv : sv = .slice A2 n2 c2) (rs : List Rl) (RA : Option Addr) (rn rc : Nat) (hrn : rs.length = rn) (hrm : rn ≤ 1000) (haft : ∀ r ∈ rs, 0 ≤ r.after ∧ r.after ≤ 1000)
    (hs : List Hr) (A : Option Addr) (c : Nat) (hn : hs.length = N) (hc : N ≤ c) (op : Nat) (hop : op < N) (w : World) (hw : WidW w) (hr : RlsAt w RA rs) (hx : HrsAt w A hs) :
    Calls Tryz.prog 93 #[.agg (regCells N nv sv (.slice RA rn rc)), .agg #[.slice A N c], .int .i64 (op : Int), .func (.func kf) #[] #[]] w fun e w' => e = .returned (.bool (isOpenM kp rs hs op)) ∧ Ext w w' := by
  have HX := hid hx
  have HN := hid hn
  have HKF := hid hkf.run
  have HEG := hid hkf.eg
  have HAS := hid (fun (h : Nat) (W : World) (hW : Ext w W) => asked_any N nv sv A1 n1 c1 hnv A2 n2 c2 hsv rs RA rn rc hrn hrm haft (h : Int) (op : Int) (by omega) (by omega) W (hw.ext hW) (hr.ext hW))
  subst hnv hsv
  have B0 := hid (blk_old (blk_last w (.cells (regCells N (.slice A1 n1 c1) (.slice A2 n2 c2) (.slice RA rn rc)) 106)) (.cells #[.slice A N c] 92))
  clear hx hn hkf hw hr haft hrn
  unfold regCells at *
  obtain ⟨b, off, rfl, -⟩ := HX.out (by have := HN.out; rintro rfl; simp at this; omega)
  have hopc : op + 1 ≤ c := by omega
  go_enter Tryz.func93, Tryz.ntmps93
  go_wp2
  go_loopw [17] (fun i wr => Ext w wr ∧ ∃ k : Nat, k ≤ op + 1 ∧ i = .int .i64 k ∧ Hid (openK kp rs hs op k = true) ∧ Hid (Blk wr w.heap.size 106 #[.int .i64 (N : Int), .slice A1 n1 c1, .slice A2 n2 c2, .slice RA rn rc])) (fun i _ => op + 1 - (intOf i).toNat)
  case atStart => exact ⟨by (repeat' (first | with_reducible assumption | with_reducible exact Ext.refl _ | with_reducible refine Ext.alloc ?_ _ | with_reducible refine Ext.set ?_ ?_ _ | with_reducible refine Ext.drew ?_ | with_reducible refine Ext.drewN ?_ _ | with_reducible refine Ext.trans ?_ (by assumption) | (dsimp only; omega))), 0, Nat.zero_le _, rfl, hid rfl, B0⟩
  case round =>
    obtain ⟨hE, k, hk, rfl, HK, K0⟩ := hrel
    by_cases hlt : k < op + 1
    · obtain ⟨b', off', hA, hb, e0, e1, e2, e3, e4, e5⟩ := (HX.out.ext hE).at_ HN.out (show k < N by omega)
      cases hA
      have HST := hid (openK_step kp rs hs op k)
      have HMI := hid (openK_miss kp rs hs op k (by omega))
      have HA1 := hid (HAS.out k)
      have HK1 := hid (HKF.out (askM rs k op) (hs.getD k zeroHr))
      generalize hs.getD k zeroHr = x at *
      generalize askM rs k op = lk at *
      generalize kp lk x = B at *
      obtain ⟨a0, a1, a2, a3⟩ : _ ∧ _ ∧ _ ∧ _ := ⟨K0.out.cell 0, K0.out.cell 1, K0.out.cell 2, K0.out.cell 3⟩
      have z0 := K0.out.lt
      simp only [List.getElem?_toArray, List.getElem?_cons_zero, List.getElem?_cons_succ] at a0 a1 a2 a3
      have hk1 : (k : Int) < (op : Int) + 1 := by omega
      unfold Hr.val at HK1
      clear HKF HAS B0
      obtain ⟨wl, wh, rl, rh, tl, th⟩ := x
      dsimp only at *
      go_wp2_with fail
      refine wp_abs (fun W => W.cell? ⟨wr.heap.size, 0, none⟩ = some (.int .i64 wl) ∧ W.cell? ⟨wr.heap.size, 1, none⟩ = some (.int .i64 wh) ∧ W.cell? ⟨wr.heap.size, 2, none⟩ = some (.int .i64 rl) ∧ W.cell? ⟨wr.heap.size, 3, none⟩ = some (.int .i64 rh) ∧ W.cell? ⟨wr.heap.size, 4, none⟩ = some (.int .i64 tl) ∧ W.cell? ⟨wr.heap.size, 5, none⟩ = some (.int .i64 th) ∧
        W.cell? ⟨w.heap.size, 0, none⟩ = some (.int .i64 (N : Int)) ∧ W.cell? ⟨w.heap.size, 1, none⟩ = some (.slice A1 n1 c1) ∧ W.cell? ⟨w.heap.size, 2, none⟩ = some (.slice A2 n2 c2) ∧ W.cell? ⟨w.heap.size, 3, none⟩ = some (.slice RA rn rc) ∧ wr.heap.size + 1 ≤ W.heap.size ∧ Ext wr W) ⟨by go_simp, by go_simp, by go_simp, by go_simp, by go_simp, by go_simp, by go_simp, by go_simp, by go_simp, by go_simp, by simp, by (repeat' (first | with_reducible assumption | with_reducible exact Ext.refl _ | with_reducible refine Ext.alloc ?_ _ | with_reducible refine Ext.set ?_ ?_ _ | with_reducible refine Ext.drew ?_ | with_reducible refine Ext.drewN ?_ _ | with_reducible refine Ext.trans ?_ (by assumption) | (dsimp only; omega)))⟩ ?_
      rintro W ⟨g0, g1, g2, g3, g4, g5, f0, f1, f2, f3, hz, hEW⟩
      clear e0 e1 e2 e3 e4 e5 a0 a1 a2 a3
      have hw0 : w.heap.size < W.heap.size := by omega
      have hw1 : wr.heap.size < W.heap.size := by omega
      refine wp_region_held_drew (S := fun w' => (∀ b o, b < W.heap.size → w'.cell? ⟨b, o, none⟩ = W.cell? ⟨b, o, none⟩) ∧ W.heap.size ≤ w'.heap.size ∧ Ext W w') (by kernel_rfl) ?hS0 (fun hHeld => ?_)
      case hS0 => exact sK (Ext.drew (Ext.refl _))
      have X0 : Ext W W.drew := Ext.drew (Ext.refl W)
      have EX := X0
      obtain ⟨X, hX⟩ : ∃ X, W.drew = X := ⟨_, rfl⟩
      rw [hX] at EX hHeld ⊢
      clear hX X0
      refine tk1 (i := 0) (v := ?v0a) rfl ?y0a ?r0a
      case y0a => (intro w' hSw; (try dsimp only at hSw); go_simp; (try with_reducible rfl))
      try simp only [Act.put, sq1, sq2, sq3, sq4, sq5, sq6]
      refine tk1 (i := 1) (v := ?v1a) rfl ?y1a ?r1a
      case y1a => (intro w' hSw; (try dsimp only at hSw); go_simp; (try with_reducible rfl))
      try simp only [Act.put, sq1, sq2, sq3, sq4, sq5, sq6]
      refine tk1 (i := 2) (v := ?v2a) rfl ?y2a ?r2a
      case y2a => (intro w' hSw; (try dsimp only at hSw); go_simp; (try with_reducible rfl))
      try simp only [Act.put, sq1, sq2, sq3, sq4, sq5, sq6]
      refine tk1 (i := 3) (v := ?v3a) rfl ?y3a ?r3a
      case y3a => (intro w' hSw; (try dsimp only at hSw); go_simp; (try with_reducible rfl))
      try simp only [Act.put, sq1, sq2, sq3, sq4, sq5, sq6]
      refine tk1 (i := 5) (v := ?v5a) rfl ?y5a ?r5a
      case y5a => (intro w' hSw; (try dsimp only at hSw); go_simp; (try with_reducible rfl))
      try simp only [Act.put, sq1, sq2, sq3, sq4, sq5, sq6]
      refine wpAnyH_ready (rs := [4]) (by kernel_rfl) (by simp) ?_
      refine AllReadyH.cons (o := _) rfl (fun K hK => ?_) AllReadyH.nil
      go_simp
      refine Calls.mono (HA1.out _ ((hE.trans hEW).trans EX)) ?_
      rintro e X1 ⟨rfl, hE1⟩
      dsimp only
      replace EX := EX.trans hE1
      clear hHeld hE1
      refine hK.out _ _ (sK EX) (fun hHeld => ?_)
      clear hK K
      try simp only [Act.put, sq1, sq2, sq3, sq4, sq5, sq6]
      refine wpAnyH_ready (rs := [6]) (by kernel_rfl) (by simp) ?_
      refine AllReadyH.cons (o := _) rfl (fun K hK => ?_) AllReadyH.nil
      go_simp
      rw [HEG.out]
      refine Calls.mono (HK1.out _) ?_
      rintro e X2 ⟨rfl, hE2⟩
      dsimp only
      replace EX := EX.trans hE2
      clear hHeld hE2
      refine hK.out _ _ (sK EX) (fun hHeld => ?_)
      clear hK K
      try simp only [Act.put, sq1, sq2, sq3, sq4, sq5, sq6]
      refine tk1 (i := 7) (v := ?v7b) rfl ?y7b ?r7b
      case y7b => (intro w' hSw; (try dsimp only at hSw); go_simp; (try with_reducible rfl))
      try simp only [Act.put, sq1, sq2, sq3, sq4, sq5, sq6]
      refine wpAnyH_done (by kernel_rfl) ?_ _
      clear hHeld
      have L0 := hid (show Blk _ _ _ _ from K0.out.ext (hEW.trans EX))
      have HEX := hid (hE.trans (hEW.trans EX))
      clear EX hEW K0 HA1 HK1 g0 g1 g2 g3 g4 g5 f0 f1 f2 f3
      cases B
      · have HM := hid (HMI.out rfl)
        go_wp2
        go_ret
        exact ⟨ret_bool HM.out.symm, HEX.out⟩
      · have HM := hid (HST.out.trans (by rw [HK.out]))
        go_wp2
        go_roundw
        case rel => exact ⟨HEX.out, k + 1, by omega, by go_num, HM, L0⟩
        case measure => simp [intOf]; omega
    · obtain rfl : k = op + 1 := by omega
      go_wp2
      go_ret
      exact ⟨ret_bool HK.out.symm, hE⟩
end Go.Proofs.YtecamnhnjmldcaaGreatDoor
/- surelyOpen. -/
set_option linter.unusedSimpArgs false
set_option linter.unusedVariables false
namespace Go.Proofs.YtecamnhnjmldcaaGreatDoor
open Go.RowKit
/-- An outlook with rules lies in memory. -/
structure RIn (w : World) (N : Nat) (A2 : Option Addr) (n2 : Nat) (ss : List (List Hr)) (rs : List Rl) (RA : Option Addr) (rn : Nat) : Prop where
  hN : N ≤ 1000
  hn : ss.length = n2
  hn2 : n2 ≤ 1000
  hall : ∀ x ∈ ss, x.length = N
  hrn : rs.length = rn
  hrm : rn ≤ 1000
  haft : ∀ r ∈ rs, 0 ≤ r.after ∧ r.after ≤ 1000
  sc : ScsAt w A2 ss
  ru : RlsAt w RA rs
  wid : WidW w
theorem RIn.ext {w w' : World} {N : Nat} {A2 : Option Addr} {n2 : Nat} {ss : List (List Hr)} {rs : List Rl} {RA : Option Addr} {rn : Nat} (h : RIn w N A2 n2 ss rs RA rn) (e : Ext w w') : RIn w' N A2 n2 ss rs RA rn :=
  ⟨h.hN, h.hn, h.hn2, h.hall, h.hrn, h.hrm, h.haft, h.sc.ext e, h.ru.ext e, h.wid.ext e⟩
section
variable (N : Nat) (A1 : Option Addr) (n1 c1 : Nat) (A2 : Option Addr) (n2 c2 : Nat) (ss : List (List Hr)) (rs : List Rl) (RA : Option Addr) (rn rc : Nat)
set_option maxHeartbeats 2000000 in
theorem sur11_any (x : List Hr) (A : Option Addr) (c : Nat) (hxl : x.length = N) (hc : N ≤ c) (op : Nat) (hop : op < N) (q1 q2 : Nat) (w : World) (h : RIn w N A2 n2 ss rs RA rn) (hx : HrsAt w A x)
    (b1 : Blk w q1 106 (regCells N (.slice A1 n1 c1) (.slice A2 n2 c2) (.slice RA rn rc))) (b2 : Blk w q2 3 #[.int .i64 (op : Int)]) :
    Calls Tryz.prog 92 #[.agg #[.slice A N c], .pointer (some ⟨q1, 0, none⟩), .pointer (some ⟨q2, 0, none⟩)] w fun e w' => e = .returned (.bool (isOpenM surB rs x op)) ∧ Ext w w' := by
  have HO := hid (fun (W : World) (hW : Ext w W) => isOpen_any 94 surB surelyF N h.hN _ _ A1 n1 c1 rfl A2 n2 c2 rfl rs RA rn rc h.hrn h.hrm h.haft x A c hxl hc op hop W (h.wid.ext hW) (h.ru.ext hW) (hx.ext hW))
  unfold regCells at *
  obtain ⟨a0, a1, a2, a3⟩ : _ ∧ _ ∧ _ ∧ _ := ⟨b1.cell 0, b1.cell 1, b1.cell 2, b1.cell 3⟩
  have e0 := b2.cell 0
  have z1 := b1.lt
  have z2 := b2.lt
  simp only [List.getElem?_toArray, List.getElem?_cons_zero, List.getElem?_cons_succ] at a0 a1 a2 a3 e0
  clear h hx b1 b2
  go_enter Tryz.func92, Tryz.ntmps92
  go_wp2_with (go_at_call 93; refine (HO.out _ (by (repeat' (first | with_reducible assumption | with_reducible exact Ext.refl _ | with_reducible refine Ext.alloc ?_ _ | with_reducible refine Ext.set ?_ ?_ _ | with_reducible refine Ext.drew ?_ | with_reducible refine Ext.drewN ?_ _ | with_reducible refine Ext.trans ?_ (by assumption) | (dsimp only; omega))))).mono ?_; rintro e w2 ⟨rfl, hE⟩)
  go_ret
  exact ⟨rfl, by (repeat' (first | with_reducible assumption | with_reducible exact Ext.refl _ | with_reducible refine Ext.alloc ?_ _ | with_reducible refine Ext.set ?_ ?_ _ | with_reducible refine Ext.drew ?_ | with_reducible refine Ext.drewN ?_ _ | with_reducible refine Ext.trans ?_ (by assumption) | (dsimp only; omega)))⟩
set_option maxHeartbeats 2000000 in
theorem sur1_any (op : Nat) (hop : op < N) (q1 : Nat) (w : World) (h : RIn w N A2 n2 ss rs RA rn)
    (b1 : Blk w q1 106 (regCells N (.slice A1 n1 c1) (.slice A2 n2 c2) (.slice RA rn rc))) :
    Calls Tryz.prog 90 #[.int .i64 (op : Int), .pointer (some ⟨q1, 0, none⟩)] w fun e w' => e = .returned (.bool (ss.all fun x => isOpenM surB rs x op)) ∧ Ext w w' := by
  have HA := hid (fun (W : World) (hW : Ext w W) (b2 : Blk W w.heap.size 3 #[.int .i64 (op : Int)]) => allSc_any 92 #[.pointer (some ⟨q1, 0, none⟩), .pointer (some ⟨w.heap.size, 0, none⟩)] (fun _ _ => by kernel_rfl) ss (fun x => isOpenM surB rs x op) A2 n2 c2 h.hn (by have := h.hn2; omega) W (h.sc.ext hW)
    (fun x A' c' W' h1 h2 h3 h4 => by
      have hxl := h.hall x h2
      rw [hxl] at h3 ⊢
      exact sur11_any N A1 n1 c1 A2 n2 c2 ss rs RA rn rc x A' c' hxl h3 op hop q1 w.heap.size W' ((h.ext hW).ext h1) h4 ((b1.ext hW).ext h1) (b2.ext h1)))
  unfold regCells at *
  have a2 := b1.cell 2
  have z1 := b1.lt
  have B2 := hid (show Blk _ _ _ _ from blk_last w (.cells #[.int .i64 (op : Int)] 3))
  simp only [List.getElem?_toArray, List.getElem?_cons_zero, List.getElem?_cons_succ] at a2
  clear h b1
  generalize (ss.all fun x => isOpenM surB rs x op) = B at *
  go_enter Tryz.func90, Tryz.ntmps90
  go_wp2_with (go_at_call 91; refine (HA.out _ (by (repeat' (first | with_reducible assumption | with_reducible exact Ext.refl _ | with_reducible refine Ext.alloc ?_ _ | with_reducible refine Ext.set ?_ ?_ _ | with_reducible refine Ext.drew ?_ | with_reducible refine Ext.drewN ?_ _ | with_reducible refine Ext.trans ?_ (by assumption) | (dsimp only; omega)))) B2.out).mono ?_; rintro e w2 ⟨rfl, hE⟩)
  go_ret
  exact ⟨rfl, by (repeat' (first | with_reducible assumption | with_reducible exact Ext.refl _ | with_reducible refine Ext.alloc ?_ _ | with_reducible refine Ext.set ?_ ?_ _ | with_reducible refine Ext.drew ?_ | with_reducible refine Ext.drewN ?_ _ | with_reducible refine Ext.trans ?_ (by assumption) | (dsimp only; omega)))⟩
set_option maxHeartbeats 2000000 in
theorem surely2_any (w : World) (h : RIn w N A2 n2 ss rs RA rn) :
    Calls Tryz.prog 43 #[.agg (regCells N (.slice A1 n1 c1) (.slice A2 n2 c2) (.slice RA rn rc))] w fun e w' => ∃ A c, e = .returned (.slice A (sureM rs ss N).length c) ∧ Ownl 27 2 gSp w' w.heap.size (.slice A (sureM rs ss N).length c) (sureM rs ss N) ∧ Ext w w' := by
  have HS := hid (fun (W : World) (hW : Ext w W) (b1 : Blk W w.heap.size 106 (regCells N (.slice A1 n1 c1) (.slice A2 n2 c2) (.slice RA rn rc))) => spans_any 90 #[.pointer (some ⟨w.heap.size, 0, none⟩)] (fun _ _ => by kernel_rfl) N (by have := h.hN; omega) (fun op => ss.all fun x => isOpenM surB rs x op) W
    (fun i W' h1 hi => sur1_any N A1 n1 c1 A2 n2 c2 ss rs RA rn rc i hi w.heap.size W' ((h.ext hW).ext h1) (b1.ext h1)))
  change Hid (∀ (W : World), Ext w W → Blk W w.heap.size 106 (regCells N (.slice A1 n1 c1) (.slice A2 n2 c2) (.slice RA rn rc)) → Calls _ _ _ W fun e w' => ∃ A c, e = .returned (.slice A (sureM rs ss N).length c) ∧ Ownl 27 2 gSp w' W.heap.size (.slice A (sureM rs ss N).length c) (sureM rs ss N) ∧ Ext W w') at HS
  generalize sureM rs ss N = sp at *
  have B1 := hid (show Blk _ _ _ _ from blk_last w (.cells (regCells N (.slice A1 n1 c1) (.slice A2 n2 c2) (.slice RA rn rc)) 106))
  unfold regCells at *
  clear h
  go_enter Tryz.func43, Tryz.ntmps43
  go_wp2_with fail
  refine Calls.mono (HS.out _ (by (repeat' (first | with_reducible assumption | with_reducible exact Ext.refl _ | with_reducible refine Ext.alloc ?_ _ | with_reducible refine Ext.set ?_ ?_ _ | with_reducible refine Ext.drew ?_ | with_reducible refine Ext.drewN ?_ _ | with_reducible refine Ext.trans ?_ (by assumption) | (dsimp only; omega)))) B1.out) ?_
  rintro e w2 ⟨A, c, rfl, ho, hE⟩
  have HO := hid (ho.low (show w.heap.size ≤ _ by simp))
  have HE := hid (show Ext w w2 by (repeat' (first | with_reducible assumption | with_reducible exact Ext.refl _ | with_reducible refine Ext.alloc ?_ _ | with_reducible refine Ext.set ?_ ?_ _ | with_reducible refine Ext.drew ?_ | with_reducible refine Ext.drewN ?_ _ | with_reducible refine Ext.trans ?_ (by assumption) | (dsimp only; omega))))
  clear ho hE
  dsimp only
  go_wp2
  go_ret
  exact ⟨A, c, rfl, HO.out, HE.out⟩
end
end Go.Proofs.YtecamnhnjmldcaaGreatDoor
