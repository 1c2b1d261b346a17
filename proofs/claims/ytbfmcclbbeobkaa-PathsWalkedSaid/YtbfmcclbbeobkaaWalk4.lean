/- Who walks the best route arrives between the best and the sure arrival. -/
import Derived.Test.YtbfmcclbbeobkaaWalk3
import Derived.Deep.RegionHeld3
set_option linter.unusedSimpArgs false
set_option linter.unusedVariables false
namespace Go.Proofs.Ytbfmcclbbeobkaa
open Go.RowKit
theorem wpList_append_ints {P : Program} {ops : Array Oper} {rest : List Oper} {o : Oper} {a : Act} {Q : Exit → Act → World → Prop} (w : World) (hP : P = Try.prog) (hgd : o.guard = none) (s x : Operand)
    (ho : o.op = .call { callee := .builtin .append, args := #[s, x], argTypes := #[29, 29] }) (B : Nat) (v : Value) (xs : List Int) (hs : a.eval s = v) (hown : OwnAt w B v xs)
    (ad : Addr) (y : Int) (hx : a.eval x = .slice (some ad) 1 1) (hy : w.cell? ad = some (.int .i64 y)) (hl : xs.length ≤ 1000) (hB : B ≤ w.heap.size)
    (h : ∀ v' w', OwnAt w' B v' (xs ++ [y]) → w.grownBy w' v.ownBlock → wpList P ops Q rest (a.put o.dst v') w') : wpList P ops Q (o :: rest) a w :=
  wpList_plain hgd fun _ hK => wp_append_ints w hP s x ho B v xs hs hown ad y hx hy hl hB fun v' w' h2 h3 => hK _ _ (h v' w' h2 h3)
set_option maxRecDepth 100000 in
set_option maxHeartbeats 4000000 in
theorem pathsWalked_any (m g l pl ph from_ to_ start D v5 : Int) (RA : Option Addr) (rn0 rc : Nat) (WA : Option Addr) (sn sc : Nat) (shares : List Int) (hsn : shares.length = sn) (A : Option Addr) (n c : Nat) (ps : List Pt) (hn : ps.length = n) (w : World) (hp : PathsAt w A ps) (hW : IntsAt w WA shares) :
    Calls Try.prog 6 #[.agg #[.int .i64 m, .slice A n c], .agg #[.int .i64 g, .int .i64 l, .int .i64 pl, .int .i64 ph], .agg #[.int .i64 from_, .int .i64 to_, .int .i64 start, .int .i64 D, .slice RA rn0 rc, .int .i64 v5], .slice WA sn sc] w fun e w' => e = .returned (.bool true) ∧ Ext w w' := by
  have HF := hid (fun (W : World) (hE : Ext w W) => fits_any m g l pl ph from_ to_ start D v5 (.slice RA rn0 rc) rfl A n c ps hn W (hp.ext hE))
  have HA := hid (fun (f s : Int) (hb : beginE m g l pl ph ps [f] [s] = 0) (W : World) (hE : Ext w W) => arrive_ok m g l pl ph f s A n c ps hn W (hp.ext hE) hb)
  have HRO := hid (fun (f s t : Int) (hb : beginE m g l pl ph ps [f, t] [s] = 0) (W : World) (hE : Ext w W) => routeF_ok m g l pl ph f s t A n c ps hn W (hp.ext hE) hb)
  have HP := hid hp
  have HW := hid hW
  have HN := hid hn
  have HSN := hid hsn
  clear hp hn hW hsn
  have t0 := three_blocks w (.cells #[.int .i64 m, .slice A n c] 24) (.cells #[.int .i64 g, .int .i64 l, .int .i64 pl, .int .i64 ph] 28) (.cells #[.int .i64 from_, .int .i64 to_, .int .i64 start, .int .i64 D, .slice RA rn0 rc, .int .i64 v5] 31)
  have B0 := hid t0.1
  have B1 := hid t0.2.1
  have B2 := hid t0.2.2
  clear t0
  by_cases hw60 : sn ≤ 60
  case neg =>
    go_enter Try.func6, Try.ntmps6
    go_wp2_with fail
    refine (HF.out _ (by (repeat' (first | with_reducible assumption | with_reducible exact Ext.refl _ | with_reducible refine Ext.alloc ?_ _ | with_reducible refine Ext.set ?_ ?_ _ | with_reducible refine Ext.drew ?_ | with_reducible refine Ext.drewN ?_ _ | with_reducible refine Ext.trans ?_ (by assumption) | (dsimp only; omega))))).mono ?_
    rintro e w1 ⟨⟨B, rfl, hB⟩, hE⟩
    have E7 : Ext w w1 := by (repeat' (first | with_reducible assumption | with_reducible exact Ext.refl _ | with_reducible refine Ext.alloc ?_ _ | with_reducible refine Ext.set ?_ ?_ _ | with_reducible refine Ext.drew ?_ | with_reducible refine Ext.drewN ?_ _ | with_reducible refine Ext.trans ?_ (by assumption) | (dsimp only; omega)))
    clear hB
    have hw2 : decide ((60 : Int) < (sn : Int)) = true := decide_eq_true (by omega)
    cases B
    · go_wp2_with fail
      refine (works_any _).mono ?_
      rintro e w9 ⟨rfl, hE9⟩
      have EZ : Ext w w9 := by (repeat' (first | with_reducible assumption | with_reducible exact Ext.refl _ | with_reducible refine Ext.alloc ?_ _ | with_reducible refine Ext.set ?_ ?_ _ | with_reducible refine Ext.drew ?_ | with_reducible refine Ext.drewN ?_ _ | with_reducible refine Ext.trans ?_ (by assumption) | (dsimp only; omega)))
      go_wp2
      go_ret
      exact ⟨rfl, EZ⟩
    · go_wp2_with fail
      refine (works_any _).mono ?_
      rintro e w9 ⟨rfl, hE9⟩
      have EZ : Ext w w9 := by (repeat' (first | with_reducible assumption | with_reducible exact Ext.refl _ | with_reducible refine Ext.alloc ?_ _ | with_reducible refine Ext.set ?_ ?_ _ | with_reducible refine Ext.drew ?_ | with_reducible refine Ext.drewN ?_ _ | with_reducible refine Ext.trans ?_ (by assumption) | (dsimp only; omega)))
      go_wp2
      go_ret
      exact ⟨rfl, EZ⟩
  have hw2 : decide ((60 : Int) < (sn : Int)) = false := decide_eq_false (by omega)
  have hw3 : ¬ (60 : Int) < (sn : Int) := by omega
  go_enter Try.func6, Try.ntmps6
  go_wp2_with fail
  refine (HF.out _ (by (repeat' (first | with_reducible assumption | with_reducible exact Ext.refl _ | with_reducible refine Ext.alloc ?_ _ | with_reducible refine Ext.set ?_ ?_ _ | with_reducible refine Ext.drew ?_ | with_reducible refine Ext.drewN ?_ _ | with_reducible refine Ext.trans ?_ (by assumption) | (dsimp only; omega))))).mono ?_
  rintro e w1 ⟨⟨B, rfl, hB⟩, hE⟩
  (first | (have hK := KC.step (n := w.heap.size + 3) (by with_reducible assumption) hE) | (have hK := KC.step (KC.step (n := w.heap.size + 3) (by with_reducible assumption) (ext_alloc1 _ _)) hE) | (have hK := KC.step (KC.refl (n := w.heap.size + 3) (by simp)) hE)); have hC := hK.cell; have hF := hK.fro; have hX := hK.ext
  have HB := hid hB
  have E1 : Ext w w1 := by (repeat' (first | with_reducible assumption | with_reducible exact Ext.refl _ | with_reducible refine Ext.alloc ?_ _ | with_reducible refine Ext.set ?_ ?_ _ | with_reducible refine Ext.drew ?_ | with_reducible refine Ext.drewN ?_ _ | with_reducible refine Ext.trans ?_ (by assumption) | (dsimp only; omega)))
  have C0 := hid (blk_ext B0.out hE)
  have C1 := hid (blk_ext B1.out hE)
  have C2 := hid (blk_ext B2.out hE)
  clear hB B0 B1 B2
  cases B
  case false => go_wp2_with fail
                refine (works_any _).mono ?_
                rintro e w9 ⟨rfl, hE9⟩
                have EZ : Ext w w9 := by (repeat' (first | with_reducible assumption | with_reducible exact Ext.refl _ | with_reducible refine Ext.alloc ?_ _ | with_reducible refine Ext.set ?_ ?_ _ | with_reducible refine Ext.drew ?_ | with_reducible refine Ext.drewN ?_ _ | with_reducible refine Ext.trans ?_ (by assumption) | (dsimp only; omega)))
                go_wp2
                go_ret
                exact ⟨rfl, EZ⟩
  have HFIT := hid (HB.out rfl)
  obtain ⟨k1, k2, k3, k4, k5, k6⟩ := HB.out rfl
  obtain ⟨hm1, hm2, hN⟩ := vNet_ok k1
  have h24 := hN.len
  have ha := vParty_ok k2
  have hO := vNet_opens k1
  have HSP := hid (fun (i : Nat) (hi : i < n) (W : World) (hE : Ext w W) => rSpan_any m g l pl ph ha A n c ps HN.out i hi (hN.ok i (by have := HN.out; omega)) W (HP.out.ext hE))
  have HRT := hid (HRO.out from_ start to_ (begin_of k1 k2 (by simp [k3, k4]) (by simp [k5])))
  have HARR := hid (HA.out from_ start (begin_of k1 k2 (by simp [k3]) (by simp [k5])))
  have HIR := hid (fun (RB : Option Addr) (rn rc : Nat) (r : List Int) (hrn : r.length = rn) (hr : RouteOk g ps from_ r) (W : World) (hE : Ext w W) (hR : IntsAt W RB r) => isRoute_yes m g l pl ph from_ A n c ps HN.out (by have := HN.out; omega) RB rn rc r hrn hr W (HP.out.ext hE) hR)
  have HWK := hid (fun (RB : Option Addr) (rn rc : Nat) (r : List Int) (hrn : r.length = rn) (hr : RouteOk g ps from_ r) (TA : Option Addr) (tn tc : Nat) (times : List Int) (htn : times.length = tn) (htm : tn ≤ 1000) (htb : ∀ k, k < times.length → 0 ≤ times.getD k 0 ∧ times.getD k 0 ≤ 10000) (W : World) (hE : Ext w W) (hR : IntsAt W RB r) (hT : IntsAt W TA times) =>
    walked_any m g l pl ph from_ ha A n c ps HN.out (fun i hi => hN.ok i (by have := HN.out; omega)) (fun i hi => hO i (by have := HN.out; omega)) RB rn rc r hrn hr none 0 0 [] rfl (by omega) (fun k hk => absurd hk (by simp)) TA tn tc times htn htm htb start ((minuteB_iff.1 k5).1) ((minuteB_iff.1 k5).2) W (HP.out.ext hE) hR (fun h => absurd rfl h) hT)
  clear HA HRO HF HB hN ha hO hE
  have K5 := minuteB_iff.1 k5
  have K4 := placeB_iff.1 k4
  obtain ⟨mm, rfl⟩ : ∃ k : Nat, m = k := ⟨m.toNat, by omega⟩
  obtain ⟨tt, rfl⟩ : ∃ k : Nat, to_ = k := ⟨to_.toNat, by omega⟩
  have htm : tt < mm := by omega
  have hti0 : (0 : Int) ≤ (tt : Int) := by omega
  have hti1 : (tt : Int) < (mm : Int) := by omega
  obtain ⟨hxl, hxt⟩ := arr_facts (from_ := from_) (s := start) k1 k2 htm K5.1 K5.2
  obtain ⟨hyl, hyt⟩ := arr_facts2 (from_ := from_) (s := start) k1 k2 htm K5.1 K5.2
  have hWF := fun X (hX : sureAt g l pl ph ps (mm : Int) from_ (tt : Int) start = X) (h9 : X ≠ 2881) => walk_facts HFIT.out hX h9 rfl
  have hXX : (rows selHi g l pl ph ps (mm : Int).toNat from_.toNat start ((mm : Int).toNat - 1)).getD (tt : Int).toNat 0 = sureAt g l pl ph ps (mm : Int) from_ (tt : Int) start := rfl
  rw [hXX] at HRT
  clear hXX k1 k2 k3 k4 k5 k6 HFIT K4
  obtain ⟨X, hX⟩ : ∃ X, sureAt g l pl ph ps (mm : Int) from_ (tt : Int) start = X := ⟨_, rfl⟩
  have hWF2 := hWF X hX
  rw [hX] at HRT hxt
  clear hWF hX
  obtain ⟨T, hT⟩ : ∃ T, bestAt g l pl ph ps (mm : Int) from_ (tt : Int) start = T := ⟨_, rfl⟩
  rw [hT] at hyt hWF2
  clear hT
  obtain ⟨ro, hro⟩ : ∃ ro, (routeOf g l pl ph ps (mm : Int).toNat from_.toNat (tt : Int).toNat start X).map Int.ofNat = ro := ⟨_, rfl⟩
  rw [hro] at HRT hWF2
  clear hro
  obtain ⟨xs, hxs⟩ : ∃ xs, arrList selHi g l pl ph ps (mm : Int) from_ start = xs := ⟨_, rfl⟩
  obtain ⟨ys, hys⟩ : ∃ ys, arrList selLo g l pl ph ps (mm : Int) from_ start = ys := ⟨_, rfl⟩
  rw [hxs] at HARR hxl hxt
  rw [hys] at HARR hyl hyt
  clear hxs hys
  have HXL := hid hxl
  have HXT := hid hxt
  have HYL := hid hyl
  have HYT := hid hyt
  have HWF := hid hWF2
  clear hxl hxt hyl hyt hWF2
  go_wp2_with fail
  refine (HRT.out _ E1).mono ?_
  rintro e w3 hRI
  rcases hRI with ⟨rfl, rfl, hE⟩ | ⟨hX9, g3, cap3, rfl, row3, hg3, hE⟩
  · (first | (have hK := KC.step (n := w.heap.size + 3) (by with_reducible assumption) hE) | (have hK := KC.step (KC.step (n := w.heap.size + 3) (by with_reducible assumption) (ext_alloc1 _ _)) hE) | (have hK := KC.step (KC.refl (n := w.heap.size + 3) (by simp)) hE)); have hC := hK.cell; have hF := hK.fro; have hX := hK.ext
    have E3 := E1.trans hE
    clear hE
    go_wp2_with fail
    refine (HARR.out _ E3).mono ?_
    rintro e w6 ⟨g1, cc1, g2, cc2, rfl, row1, row2, hg1, hg2, hE⟩
    (first | (have hK := KC.step (n := w.heap.size + 3) (by with_reducible assumption) hE) | (have hK := KC.step (KC.step (n := w.heap.size + 3) (by with_reducible assumption) (ext_alloc1 _ _)) hE) | (have hK := KC.step (KC.refl (n := w.heap.size + 3) (by simp)) hE)); have hC := hK.cell; have hF := hK.fro; have hX := hK.ext
    have E7 := E3.trans hE
    have hcell1 := row1.cell (k := tt) (by have := HXL.out; omega)
    rw [HXT.out, show orN 2881 = -1 from rfl] at hcell1
    have sg1 : g1 < w6.heap.size := row1.lt
    rw [HXL.out, HYL.out]
    clear row1 row2 hE
    go_wp2_with fail
    refine (works_any _).mono ?_
    rintro e w9 ⟨rfl, hE9⟩
    have EZ : Ext w w9 := by (repeat' (first | with_reducible assumption | with_reducible exact Ext.refl _ | with_reducible refine Ext.alloc ?_ _ | with_reducible refine Ext.set ?_ ?_ _ | with_reducible refine Ext.drew ?_ | with_reducible refine Ext.drewN ?_ _ | with_reducible refine Ext.trans ?_ (by assumption) | (dsimp only; omega)))
    go_wp2
    go_ret
    exact ⟨rfl, EZ⟩
  obtain ⟨hRO, hlen, hstp, ⟨hX0, hX1⟩, hwX, hlh, hts⟩ := HWF.out hX9
  obtain ⟨rn, hrn⟩ : ∃ rn, ro.length = rn := ⟨_, rfl⟩
  rw [hrn] at hlen hstp hwX hlh hts
  have E3 := E1.trans hE
  have D0 := hid (blk_ext C0.out hE)
  have D1 := hid (blk_ext C1.out hE)
  have D2 := hid (blk_ext C2.out hE)
  have HRN := hid hrn
  have HROK := hid hRO
  have HSTP := hid hstp
  have HLH := hid hlh
  have HTS := hid hts
  have HIR2 := hid (fun (W : World) (hE : Ext w W) (hR : IntsAt W (some ⟨g3, 0, none⟩) ro) => HIR.out (some ⟨g3, 0, none⟩) rn cap3 ro hrn hRO W hE hR)
  have HWK1 := hid (fun (W : World) (hE : Ext w W) (hR : IntsAt W (some ⟨g3, 0, none⟩) ro) => HWK.out (some ⟨g3, 0, none⟩) rn cap3 ro hrn hRO none 0 0 [] rfl (by omega) (fun k hk => absurd hk (by simp)) W hE hR (fun h => absurd rfl h))
  rw [hwX] at HWK1
  have HWK2 := hid (fun (TA : Option Addr) (tc : Nat) (times : List Int) (htn : times.length = rn) (htb : ∀ k, k < times.length → 0 ≤ times.getD k 0 ∧ times.getD k 0 ≤ 10000) (W : World) (hE : Ext w W) (hR : IntsAt W (some ⟨g3, 0, none⟩) ro) (hT : IntsAt W TA times) => HWK.out (some ⟨g3, 0, none⟩) rn cap3 ro hrn hRO TA rn tc times htn (by omega) htb W hE hR hT)
  have HR3 := hid row3
  have sg3 : g3 < w3.heap.size := row3.lt
  have hXT : orN X = X := by unfold orN; rw [if_neg hX9]
  rw [hXT] at HXT
  rw [hrn]
  clear HIR HWK hRO hstp hlh hts hwX HWF hE C0 C1 C2 hK hC hF hX E1 row3 HRT hrn hXT
  have a0 := blk_cell D0.out 0
  have a1 := blk_cell D0.out 1
  have b0 := blk_cell D1.out 0
  have b1 := blk_cell D1.out 1
  have b2 := blk_cell D1.out 2
  have b3 := blk_cell D1.out 3
  have x0 := blk_cell D2.out 0
  have x1 := blk_cell D2.out 1
  have x2 := blk_cell D2.out 2
  have x3 := blk_cell D2.out 3
  have x4 := blk_cell D2.out 4
  simp only [List.getElem?_toArray, List.getElem?_cons_zero, List.getElem?_cons_succ] at a0 a1 b0 b1 b2 b3 x0 x1 x2 x3 x4
  have z0 := (Array.getElem?_eq_some_iff.1 D0.out).1
  have z1 := (Array.getElem?_eq_some_iff.1 D1.out).1
  have z2 := (Array.getElem?_eq_some_iff.1 D2.out).1
  go_wp2_with fail
  refine (HARR.out _ E3).mono ?_
  rintro e w6 ⟨g1, cc1, g2, cc2, rfl, row1, row2, hg1, hg2, hE⟩
  have E6 := E3.trans hE
  have F0 := hid (blk_ext D0.out hE)
  have F1 := hid (blk_ext D1.out hE)
  have F2 := hid (blk_ext D2.out hE)
  have HR6 := hid (HR3.out.ext hE)
  have hcell1 := row1.cell (k := tt) (by have := HXL.out; omega)
  rw [HXT.out] at hcell1
  have HROW2 := hid row2
  have sg1 : g1 < w6.heap.size := row1.lt
  rw [HXL.out, HYL.out]
  clear row1 row2 hE HARR D0 D1 D2 HR3 a0 a1 b0 b1 b2 b3 x0 x1 x2 x3 x4 z0 z1 z2 hg1 hg2
  have a0 := blk_cell F0.out 0
  have a1 := blk_cell F0.out 1
  have b0 := blk_cell F1.out 0
  have b1 := blk_cell F1.out 1
  have b2 := blk_cell F1.out 2
  have b3 := blk_cell F1.out 3
  have x0 := blk_cell F2.out 0
  have x1 := blk_cell F2.out 1
  have x2 := blk_cell F2.out 2
  have x3 := blk_cell F2.out 3
  have x4 := blk_cell F2.out 4
  simp only [List.getElem?_toArray, List.getElem?_cons_zero, List.getElem?_cons_succ] at a0 a1 b0 b1 b2 b3 x0 x1 x2 x3 x4
  have z0 := (Array.getElem?_eq_some_iff.1 F0.out).1
  have z1 := (Array.getElem?_eq_some_iff.1 F1.out).1
  have z2 := (Array.getElem?_eq_some_iff.1 F2.out).1
  have hlen20 : ¬ (20 : Int) < (rn : Int) := by omega
  go_wp2_with fail
  refine (HIR2.out _ E6 HR6.out.ints).mono ?_
  rintro e w61 ⟨rfl, hE⟩
  have E61 := E6.trans hE
  have hC := kcell (w1 := w6) (W := w6) (n := w6.heap.size) (fun _ _ _ => rfl) (Nat.le_refl _) hE
  have HR61 := hid (HR6.out.ext hE)
  have HE61 := hid hE
  clear hE
  go_wp2_with fail
  refine (HWK1.out _ E61 HR61.out.ints).mono ?_
  rintro e w7 ⟨rfl, hE⟩
  have hE6 : Ext w6 w7 := HE61.out.trans hE
  have E7 := E61.trans hE
  have G0 := hid (blk_ext F0.out hE6)
  have G1 := hid (blk_ext F1.out hE6)
  have G2 := hid (blk_ext F2.out hE6)
  have HR7 := hid (HR6.out.ext hE6)
  have HROW7 := hid (HROW2.out.ext hE6)
  have sg37 : g3 < w7.heap.size := HR7.out.lt
  clear hE hE6 HE61 HR61 HR6 HROW2 F0 F1 F2 a0 a1 b0 b1 b2 b3 x0 x1 x2 x3 x4 z0 z1 z2 HIR2 HWK1 hC hcell1
  go_wp2
  go_loopw [15, 16] (fun tv i wr => Ext w7 wr ∧ ∃ (k : Nat) (ts : List Int), k ≤ rn ∧ i = .int .i64 k ∧ ts.length = k ∧ Hid (∀ j, j < k → lowsAt l pl ps ro j ≤ ts.getD j 0 ∧ ts.getD j 0 ≤ highsOf l ph ps ro j) ∧ Hid (OwnAt wr w7.heap.size tv ts)) (fun _ i _ => rn - (intOf i).toNat)
  case atStart => exact ⟨Ext.refl _, 0, [], Nat.zero_le _, rfl, rfl, hid (fun j hj => by omega), hid (OwnAt.nil _ _)⟩
  case round =>
    obtain ⟨hE, k, ts, hk, rfl, htl, HB, HO⟩ := hrel
    by_cases hlt : k < rn
    · have hlo := HROK.out.lo k (by have := HRN.out; omega)
      have hhi := HROK.out.hi k (by have := HRN.out; omega)
      have q1 := (HR7.out.ext hE).cell (k := k) (by have := HRN.out; omega)
      have hbb := HLH.out k hlt
      have HSPK := hid (fun (hin : (ro.getD k 0).toNat < n) => HSP.out (ro.getD k 0).toNat hin)
      have HBN := hid (fun (y : Int) (h1 : lowsAt l pl ps ro k ≤ y) (h2 : y ≤ highsOf l ph ps ro k) => (show ∀ j, j < k + 1 → lowsAt l pl ps ro j ≤ (ts ++ [y]).getD j 0 ∧ (ts ++ [y]).getD j 0 ≤ highsOf l ph ps ro j from fun j hj => by
        by_cases hjk : j < k
        · rw [List.getD_eq_getElem?_getD, List.getElem?_append_left (by omega), ← List.getD_eq_getElem?_getD]
          exact HB.out j hjk
        · obtain rfl : j = k := by omega
          rw [List.getD_eq_getElem?_getD, List.getElem?_append_right (by omega), htl, Nat.sub_self]
          exact ⟨h1, h2⟩))
      have e1 : lowsAt l pl ps ro k = timeOf (ps.getD (ro.getD k 0).toNat zeroPt).tl pl (ps.getD (ro.getD k 0).toNat zeroPt).sl l := rfl
      have e2 : highsOf l ph ps ro k = timeOf (ps.getD (ro.getD k 0).toNat zeroPt).th ph (ps.getD (ro.getD k 0).toNat zeroPt).sh l := rfl
      rw [← e1, ← e2] at HSPK
      clear e1 e2
      obtain ⟨T1, hT1⟩ : ∃ T, lowsAt l pl ps ro k = T := ⟨_, rfl⟩
      obtain ⟨T2, hT2⟩ : ∃ T, highsOf l ph ps ro k = T := ⟨_, rfl⟩
      rw [hT1] at HSPK hbb HBN
      rw [hT2] at HSPK hbb HBN
      clear hT1 hT2
      obtain ⟨i, hi⟩ : ∃ i : Nat, ro.getD k 0 = i := ⟨(ro.getD k 0).toNat, by omega⟩
      rw [hi] at q1 hlo hhi HSPK
      rw [Int.toNat_natCast] at HSPK
      have hin : i < n := by have := HN.out; omega
      have HSPN := hid (HSPK.out hin)
      obtain ⟨hb1, hb2, hb3⟩ := hbb
      clear hi hhi hlo HSPK
      have hk0 : (0 : Int) ≤ (k : Int) := by omega
      have hk1 : (k : Int) < (rn : Int) := by omega
      have K0 := hid (blk_ext G0.out hE)
      have K1 := hid (blk_ext G1.out hE)
      have K2 := hid (blk_ext G2.out hE)
      have hzr := hE.size
      have sgr : g3 < wr.heap.size := by omega
      obtain ⟨tv, rfl⟩ : ∃ tv, tv = u15 := ⟨_, rfl⟩
      have HTV := hid (HO.out.block)
      have a0 := blk_cell K0.out 0
      have a1 := blk_cell K0.out 1
      have b0 := blk_cell K1.out 0
      have b1 := blk_cell K1.out 1
      have b2 := blk_cell K1.out 2
      have b3 := blk_cell K1.out 3
      have x0 := blk_cell K2.out 0
      have x1 := blk_cell K2.out 1
      have x2 := blk_cell K2.out 2
      have x3 := blk_cell K2.out 3
      have x4 := blk_cell K2.out 4
      simp only [List.getElem?_toArray, List.getElem?_cons_zero, List.getElem?_cons_succ] at a0 a1 b0 b1 b2 b3 x0 x1 x2 x3 x4
      have z0 := (Array.getElem?_eq_some_iff.1 K0.out).1
      have z1 := (Array.getElem?_eq_some_iff.1 K1.out).1
      have z2 := (Array.getElem?_eq_some_iff.1 K2.out).1
      go_wp2_with fail
      refine wp_region_held_drew (S := fun w' => (∀ b o, b < wr.heap.size → w'.cell? ⟨b, o, none⟩ = wr.cell? ⟨b, o, none⟩) ∧ wr.heap.size ≤ w'.heap.size ∧ Ext wr w') (by kernel_rfl) ?hS0 (fun hHeld => ?_)
      case hS0 => exact ⟨fun _ _ _ => rfl, Nat.le_refl _, Ext.drew (Ext.refl _)⟩
      refine wpAnyH_take (i := 0) (oi := _) (v := ?v0a) rfl (by kernel_rfl) (by kernel_rfl) (by kernel_rfl) (fun _ _ _ h => h) (Or.inl ⟨by rfl, ?y0a⟩) (by assumption) ?r0a
      case y0a => (intro w' hSw; (try dsimp only at hSw); go_simp; (try with_reducible rfl))
      try simp only [Act.put, List.getElem_toArray, List.getElem_cons_zero, List.getElem_cons_succ, List.setIfInBounds_toArray, List.set_cons_zero, List.set_cons_succ]
      refine wpAnyH_take (i := 1) (oi := _) (v := ?v1a) rfl (by kernel_rfl) (by kernel_rfl) (by kernel_rfl) (fun _ _ _ h => h) (Or.inl ⟨by rfl, ?y1a⟩) (by assumption) ?r1a
      case y1a => (intro w' hSw; (try dsimp only at hSw); go_simp; (try with_reducible rfl))
      try simp only [Act.put, List.getElem_toArray, List.getElem_cons_zero, List.getElem_cons_succ, List.setIfInBounds_toArray, List.set_cons_zero, List.set_cons_succ]
      refine wpAnyH_take (i := 2) (oi := _) (v := ?v2a) rfl (by kernel_rfl) (by kernel_rfl) (by kernel_rfl) (fun _ _ _ h => h) (Or.inl ⟨by rfl, ?y2a⟩) (by assumption) ?r2a
      case y2a => (intro w' hSw; (try dsimp only at hSw); go_simp; (try with_reducible rfl))
      try simp only [Act.put, List.getElem_toArray, List.getElem_cons_zero, List.getElem_cons_succ, List.setIfInBounds_toArray, List.set_cons_zero, List.set_cons_succ]
      refine wpAnyH_take (i := 3) (oi := _) (v := ?v3a) rfl (by kernel_rfl) (by kernel_rfl) (by kernel_rfl) (fun _ _ _ h => h) (Or.inl ⟨by rfl, ?y3a⟩) (by assumption) ?r3a
      case y3a => (intro w' hSw; (try dsimp only at hSw); go_simp; (try with_reducible rfl))
      try simp only [Act.put, List.getElem_toArray, List.getElem_cons_zero, List.getElem_cons_succ, List.setIfInBounds_toArray, List.set_cons_zero, List.set_cons_succ]
      refine wpAnyH_take (i := 4) (oi := _) (v := ?v4a) rfl (by kernel_rfl) (by kernel_rfl) (by kernel_rfl) (fun _ _ _ h => h) (Or.inl ⟨by rfl, ?y4a⟩) (by assumption) ?r4a
      case y4a => (intro w' hSw; (try dsimp only at hSw); go_simp; (try with_reducible rfl))
      try simp only [Act.put, List.getElem_toArray, List.getElem_cons_zero, List.getElem_cons_succ, List.setIfInBounds_toArray, List.set_cons_zero, List.set_cons_succ]
      refine wpAnyH_take (i := 5) (oi := _) (v := ?v5a) rfl (by kernel_rfl) (by kernel_rfl) (by kernel_rfl) (fun _ _ _ h => h) (Or.inl ⟨by rfl, ?y5a⟩) (by assumption) ?r5a
      case y5a => (intro w' hSw; (try dsimp only at hSw); go_simp; (try with_reducible rfl))
      try simp only [Act.put, List.getElem_toArray, List.getElem_cons_zero, List.getElem_cons_succ, List.setIfInBounds_toArray, List.set_cons_zero, List.set_cons_succ]
      refine wpAnyH_ready (rs := [6, 7]) (by kernel_rfl) (by simp) ?_
      refine AllReadyH.cons (o := _) rfl (fun K hK => ?_) (AllReadyH.cons (o := _) rfl (fun K hK => ?_) AllReadyH.nil)
      · go_simp
        refine (HSPN.out _ (E7.trans (hE.drew))).mono ?_
        rintro e w4 ⟨rfl, hE2⟩
        have hx : Ext wr w4 := (Ext.drew (Ext.refl wr)).trans hE2
        have hC := kcell (w1 := wr) (W := wr) (n := wr.heap.size) (fun _ _ _ => rfl) (Nat.le_refl _) hx
        clear hHeld hE2
        dsimp only
        refine hK.out _ _ ⟨hC, hx.size, hx⟩ (fun hHeld => ?_)
        clear hHeld
        clear hK K
        try simp only [Act.put, List.getElem_toArray, List.getElem_cons_zero, List.getElem_cons_succ, List.setIfInBounds_toArray, List.set_cons_zero, List.set_cons_succ]
        refine wpAnyH_ready (rs := [7]) (by kernel_rfl) (by simp) ?_
        refine AllReadyH.cons (o := _) rfl (fun K hK => ?_) AllReadyH.nil
        go_simp
        have hx2 := hx.alloc (.cells #[.int .i64 0, .int .i64 0] 26)
        have hC2 := kcell (w1 := wr) (W := wr) (n := wr.heap.size) (fun _ _ _ => rfl) (Nat.le_refl _) hx2
        refine hK.out _ _ ⟨hC2, hx2.size, hx2⟩ (fun hHeld => ?_)
        clear hHeld
        clear hK K
        try simp only [Act.put, List.getElem_toArray, List.getElem_cons_zero, List.getElem_cons_succ, List.setIfInBounds_toArray, List.set_cons_zero, List.set_cons_succ]
        refine wpAnyH_ready (rs := [8]) (by kernel_rfl) (by simp) ?_
        refine AllReadyH.cons (o := _) rfl (fun K hK => ?_) AllReadyH.nil
        go_simp
        have hx5 := hx.alloc (.cells #[.int .i64 T1, .int .i64 T2] 26)
        have hC5 := kcell (w1 := wr) (W := wr) (n := wr.heap.size) (fun _ _ _ => rfl) (Nat.le_refl _) hx5
        have y0 := blk_cell (heap_alloc_new w4 (.cells #[.int .i64 T1, .int .i64 T2] 26)) 0
        have y1 := blk_cell (heap_alloc_new w4 (.cells #[.int .i64 T1, .int .i64 T2] 26)) 1
        simp only [List.getElem?_toArray, List.getElem?_cons_zero, List.getElem?_cons_succ] at y0 y1
        refine hK.out _ _ ⟨hC5, hx5.size, hx5⟩ (fun hHeld => ?_)
        clear hHeld hC hC2 hx2
        clear hK K
        try simp only [Act.put, List.getElem_toArray, List.getElem_cons_zero, List.getElem_cons_succ, List.setIfInBounds_toArray, List.set_cons_zero, List.set_cons_succ]
        refine wpAnyH_done (by kernel_rfl) ?_ _
        have hzz : w4.heap.size < (w4.alloc (.cells #[.int .i64 T1, .int .i64 T2] 26)).heap.size := by simp
        obtain ⟨w5, hw5⟩ : ∃ w5, w4.alloc (.cells #[.int .i64 T1, .int .i64 T2] 26) = w5 := ⟨_, rfl⟩
        obtain ⟨z, hz⟩ : ∃ z, w4.heap.size = z := ⟨_, rfl⟩
        rw [hw5] at hx5 y0 y1 hzz hC5 ⊢
        rw [hz] at y0 y1 hzz ⊢
        clear hw5 hz hx
        have hE5 := hE.trans hx5
        have hz5 := hE5.size
        have HO5 := hid (HO.out.ext hx5)
        by_cases hks : k < sn
        · obtain ⟨sb, soff, rfl, hsb, q3⟩ := (HW.out.ext (E7.trans hE5)).at_ HSN.out hks
          obtain ⟨x, hxx⟩ : ∃ x, shares.getD k 0 = x := ⟨_, rfl⟩
          rw [hxx] at q3
          clear hxx
          have hks1 : (k : Int) < (sn : Int) := by omega
          by_cases hx0 : 0 ≤ x
          · by_cases hx1 : x ≤ 100
            · have hsd := share_bd (d := T2 - T1) (s := x) (by omega) (by omega) hx0 hx1
              obtain ⟨hs1, hs2, hs3, hs4⟩ := hsd
              have htd : ((T2 - T1) * x).tdiv 100 = (T2 - T1) * x / 100 := Int.tdiv_eq_ediv_of_nonneg hs1
              go_wp2_with (at_builtin; refine wpList_append_ints _ rfl rfl _ _ rfl w7.heap.size tv ts (by rfl) (HO5.out.ext (ext_alloc1 _ _)) ⟨w5.heap.size, 0, none⟩ _ (by rfl) (blk_cell (heap_alloc_new w5 _) 0) (by omega) (by simp; omega) ?_; intro v' w9 hown9 hg9; obtain ⟨y, hy, hy1, hy2⟩ : ∃ y, OwnAt w9 w7.heap.size v' (ts ++ [y]) ∧ T1 ≤ y ∧ y ≤ T2 := ⟨_, hown9, by omega, by omega⟩; have HY := hid hy; have HG := hid hg9; clear hy hown9 hg9)
              have hE9 : Ext w7 w9 := ext_of_grown ((hE5).alloc _) HG.out (fun q hq => HTV.out q hq)
              go_roundw
              case rel => exact ⟨hE9, k + 1, ts ++ [y], by omega, by go_num, by simp [htl], hid (HBN.out y hy1 hy2), HY⟩
              case measure => (simp [intOf] <;> omega)
            · have hx2 : decide (x ≤ 100) = false := decide_eq_false hx1
              go_wp2_with (at_builtin; refine wpList_append_ints _ rfl rfl _ _ rfl w7.heap.size tv ts (by rfl) (HO5.out.ext (ext_alloc1 _ _)) ⟨w5.heap.size, 0, none⟩ _ (by rfl) (blk_cell (heap_alloc_new w5 _) 0) (by omega) (by simp; omega) ?_; intro v' w9 hown9 hg9; obtain ⟨y, hy, hy1, hy2⟩ : ∃ y, OwnAt w9 w7.heap.size v' (ts ++ [y]) ∧ T1 ≤ y ∧ y ≤ T2 := ⟨_, hown9, by omega, by omega⟩; have HY := hid hy; have HG := hid hg9; clear hy hown9 hg9)
              have hE9 : Ext w7 w9 := ext_of_grown ((hE5).alloc _) HG.out (fun q hq => HTV.out q hq)
              go_roundw
              case rel => exact ⟨hE9, k + 1, ts ++ [y], by omega, by go_num, by simp [htl], hid (HBN.out y hy1 hy2), HY⟩
              case measure => (simp [intOf] <;> omega)
          · have hx2 : decide (0 ≤ x) = false := decide_eq_false hx0
            go_wp2_with (at_builtin; refine wpList_append_ints _ rfl rfl _ _ rfl w7.heap.size tv ts (by rfl) (HO5.out.ext (ext_alloc1 _ _)) ⟨w5.heap.size, 0, none⟩ _ (by rfl) (blk_cell (heap_alloc_new w5 _) 0) (by omega) (by simp; omega) ?_; intro v' w9 hown9 hg9; obtain ⟨y, hy, hy1, hy2⟩ : ∃ y, OwnAt w9 w7.heap.size v' (ts ++ [y]) ∧ T1 ≤ y ∧ y ≤ T2 := ⟨_, hown9, by omega, by omega⟩; have HY := hid hy; have HG := hid hg9; clear hy hown9 hg9)
            have hE9 : Ext w7 w9 := ext_of_grown ((hE5).alloc _) HG.out (fun q hq => HTV.out q hq)
            go_roundw
            case rel => exact ⟨hE9, k + 1, ts ++ [y], by omega, by go_num, by simp [htl], hid (HBN.out y hy1 hy2), HY⟩
            case measure => (simp [intOf] <;> omega)
        · have hks1 : decide ((k : Int) < (sn : Int)) = false := decide_eq_false (by omega)
          go_wp2_with (at_builtin; refine wpList_append_ints _ rfl rfl _ _ rfl w7.heap.size tv ts (by rfl) (HO5.out.ext (ext_alloc1 _ _)) ⟨w5.heap.size, 0, none⟩ _ (by rfl) (blk_cell (heap_alloc_new w5 _) 0) (by omega) (by simp; omega) ?_; intro v' w9 hown9 hg9; obtain ⟨y, hy, hy1, hy2⟩ : ∃ y, OwnAt w9 w7.heap.size v' (ts ++ [y]) ∧ T1 ≤ y ∧ y ≤ T2 := ⟨_, hown9, by omega, by omega⟩; have HY := hid hy; have HG := hid hg9; clear hy hown9 hg9)
          have hE9 : Ext w7 w9 := ext_of_grown ((hE5).alloc _) HG.out (fun q hq => HTV.out q hq)
          go_roundw
          case rel => exact ⟨hE9, k + 1, ts ++ [y], by omega, by go_num, by simp [htl], hid (HBN.out y hy1 hy2), HY⟩
          case measure => (simp [intOf] <;> omega)
      · go_simp
        have ha1 := (Ext.drew (Ext.refl wr)).alloc (.cells #[.int .i64 0, .int .i64 0] 26)
        have hC := kcell (w1 := wr) (W := wr) (n := wr.heap.size) (fun _ _ _ => rfl) (Nat.le_refl _) ha1
        have n0 := heap_alloc_new wr.drew (.cells #[.int .i64 0, .int .i64 0] 26)
        refine hK.out _ _ ⟨hC, ha1.size, ha1⟩ (fun hHeld => ?_)
        clear hHeld
        clear hK K
        try simp only [Act.put, List.getElem_toArray, List.getElem_cons_zero, List.getElem_cons_succ, List.setIfInBounds_toArray, List.set_cons_zero, List.set_cons_succ]
        refine wpAnyH_ready (rs := [6]) (by kernel_rfl) (by simp) ?_
        refine AllReadyH.cons (o := _) rfl (fun K hK => ?_) AllReadyH.nil
        go_simp
        refine (HSPN.out _ (E7.trans (hE.trans ha1))).mono ?_
        rintro e w4 ⟨rfl, hE2⟩
        have hx : Ext wr w4 := ha1.trans hE2
        have hC2 := kcell (w1 := wr) (W := wr) (n := wr.heap.size) (fun _ _ _ => rfl) (Nat.le_refl _) hx
        have n1 := blk_ext n0 hE2
        have v0 := blk_cell n1 0
        have v1 := blk_cell n1 1
        have f0 := blk_fro n1 0
        have f1 := blk_fro n1 1
        have hzz4 : wr.heap.size < w4.heap.size := (Array.getElem?_eq_some_iff.1 n1).1
        simp only [List.getElem?_toArray, List.getElem?_cons_zero, List.getElem?_cons_succ, World.size_drew] at v0 v1 f0 f1
        clear hE2
        dsimp only
        refine hK.out _ _ ⟨hC2, hx.size, hx⟩ (fun hHeld => ?_)
        clear hHeld
        clear hK K
        try simp only [Act.put, List.getElem_toArray, List.getElem_cons_zero, List.getElem_cons_succ, List.setIfInBounds_toArray, List.set_cons_zero, List.set_cons_succ]
        refine wpAnyH_ready (rs := [8]) (by kernel_rfl) (by simp) ?_
        refine AllReadyH.cons (o := _) rfl (fun K hK => ?_) AllReadyH.nil
        go_simp
        have hx5 : Ext wr ((w4.setCell ⟨wr.heap.size, 0, none⟩ (.int .i64 T1)).setCell ⟨wr.heap.size, 1, none⟩ (.int .i64 T2)) := (hx.set (Nat.le_refl _) _).set (Nat.le_refl _) _
        have hC5 := kcell (w1 := wr) (W := wr) (n := wr.heap.size) (fun _ _ _ => rfl) (Nat.le_refl _) hx5
        have y0 : ((w4.setCell ⟨wr.heap.size, 0, none⟩ (.int .i64 T1)).setCell ⟨wr.heap.size, 1, none⟩ (.int .i64 T2)).cell? ⟨wr.heap.size, 0, none⟩ = some (.int .i64 T1) := (World.cell?_setCell_other _ _ _ _ (by simp)).trans (World.cell?_setCell_same' w4 _ _ (by rw [v0]; rfl))
        have y1 : ((w4.setCell ⟨wr.heap.size, 0, none⟩ (.int .i64 T1)).setCell ⟨wr.heap.size, 1, none⟩ (.int .i64 T2)).cell? ⟨wr.heap.size, 1, none⟩ = some (.int .i64 T2) := World.cell?_setCell_same' _ _ _ (by rw [World.cell?_setCell_other _ _ _ _ (by simp), v1]; rfl)
        refine hK.out _ _ ⟨hC5, hx5.size, hx5⟩ (fun hHeld => ?_)
        clear hHeld hC hC2 n0 n1 v0 v1 f0 f1
        clear hK K
        try simp only [Act.put, List.getElem_toArray, List.getElem_cons_zero, List.getElem_cons_succ, List.setIfInBounds_toArray, List.set_cons_zero, List.set_cons_succ]
        refine wpAnyH_done (by kernel_rfl) ?_ _
        have hzz : wr.heap.size < ((w4.setCell ⟨wr.heap.size, 0, none⟩ (.int .i64 T1)).setCell ⟨wr.heap.size, 1, none⟩ (.int .i64 T2)).heap.size := by simpa using hzz4
        obtain ⟨w5, hw5⟩ : ∃ w5, (w4.setCell ⟨wr.heap.size, 0, none⟩ (.int .i64 T1)).setCell ⟨wr.heap.size, 1, none⟩ (.int .i64 T2) = w5 := ⟨_, rfl⟩
        rw [hw5] at hx5 y0 y1 hzz hC5 ⊢
        clear hw5 hx ha1 hzz4
        obtain ⟨z, hz⟩ : ∃ z, wr.heap.size = z := ⟨_, rfl⟩
        have hzw : z ≤ wr.heap.size := by omega
        rw [hz] at y0 y1 hzz ⊢
        clear hz
        have hE5 := hE.trans hx5
        have hz5 := hE5.size
        have HO5 := hid (HO.out.ext hx5)
        by_cases hks : k < sn
        · obtain ⟨sb, soff, rfl, hsb, q3⟩ := (HW.out.ext (E7.trans hE5)).at_ HSN.out hks
          obtain ⟨x, hxx⟩ : ∃ x, shares.getD k 0 = x := ⟨_, rfl⟩
          rw [hxx] at q3
          clear hxx
          have hks1 : (k : Int) < (sn : Int) := by omega
          by_cases hx0 : 0 ≤ x
          · by_cases hx1 : x ≤ 100
            · have hsd := share_bd (d := T2 - T1) (s := x) (by omega) (by omega) hx0 hx1
              obtain ⟨hs1, hs2, hs3, hs4⟩ := hsd
              have htd : ((T2 - T1) * x).tdiv 100 = (T2 - T1) * x / 100 := Int.tdiv_eq_ediv_of_nonneg hs1
              go_wp2_with (at_builtin; refine wpList_append_ints _ rfl rfl _ _ rfl w7.heap.size tv ts (by rfl) (HO5.out.ext (ext_alloc1 _ _)) ⟨w5.heap.size, 0, none⟩ _ (by rfl) (blk_cell (heap_alloc_new w5 _) 0) (by omega) (by simp; omega) ?_; intro v' w9 hown9 hg9; obtain ⟨y, hy, hy1, hy2⟩ : ∃ y, OwnAt w9 w7.heap.size v' (ts ++ [y]) ∧ T1 ≤ y ∧ y ≤ T2 := ⟨_, hown9, by omega, by omega⟩; have HY := hid hy; have HG := hid hg9; clear hy hown9 hg9)
              have hE9 : Ext w7 w9 := ext_of_grown ((hE5).alloc _) HG.out (fun q hq => HTV.out q hq)
              go_roundw
              case rel => exact ⟨hE9, k + 1, ts ++ [y], by omega, by go_num, by simp [htl], hid (HBN.out y hy1 hy2), HY⟩
              case measure => (simp [intOf] <;> omega)
            · have hx2 : decide (x ≤ 100) = false := decide_eq_false hx1
              go_wp2_with (at_builtin; refine wpList_append_ints _ rfl rfl _ _ rfl w7.heap.size tv ts (by rfl) (HO5.out.ext (ext_alloc1 _ _)) ⟨w5.heap.size, 0, none⟩ _ (by rfl) (blk_cell (heap_alloc_new w5 _) 0) (by omega) (by simp; omega) ?_; intro v' w9 hown9 hg9; obtain ⟨y, hy, hy1, hy2⟩ : ∃ y, OwnAt w9 w7.heap.size v' (ts ++ [y]) ∧ T1 ≤ y ∧ y ≤ T2 := ⟨_, hown9, by omega, by omega⟩; have HY := hid hy; have HG := hid hg9; clear hy hown9 hg9)
              have hE9 : Ext w7 w9 := ext_of_grown ((hE5).alloc _) HG.out (fun q hq => HTV.out q hq)
              go_roundw
              case rel => exact ⟨hE9, k + 1, ts ++ [y], by omega, by go_num, by simp [htl], hid (HBN.out y hy1 hy2), HY⟩
              case measure => (simp [intOf] <;> omega)
          · have hx2 : decide (0 ≤ x) = false := decide_eq_false hx0
            go_wp2_with (at_builtin; refine wpList_append_ints _ rfl rfl _ _ rfl w7.heap.size tv ts (by rfl) (HO5.out.ext (ext_alloc1 _ _)) ⟨w5.heap.size, 0, none⟩ _ (by rfl) (blk_cell (heap_alloc_new w5 _) 0) (by omega) (by simp; omega) ?_; intro v' w9 hown9 hg9; obtain ⟨y, hy, hy1, hy2⟩ : ∃ y, OwnAt w9 w7.heap.size v' (ts ++ [y]) ∧ T1 ≤ y ∧ y ≤ T2 := ⟨_, hown9, by omega, by omega⟩; have HY := hid hy; have HG := hid hg9; clear hy hown9 hg9)
            have hE9 : Ext w7 w9 := ext_of_grown ((hE5).alloc _) HG.out (fun q hq => HTV.out q hq)
            go_roundw
            case rel => exact ⟨hE9, k + 1, ts ++ [y], by omega, by go_num, by simp [htl], hid (HBN.out y hy1 hy2), HY⟩
            case measure => (simp [intOf] <;> omega)
        · have hks1 : decide ((k : Int) < (sn : Int)) = false := decide_eq_false (by omega)
          go_wp2_with (at_builtin; refine wpList_append_ints _ rfl rfl _ _ rfl w7.heap.size tv ts (by rfl) (HO5.out.ext (ext_alloc1 _ _)) ⟨w5.heap.size, 0, none⟩ _ (by rfl) (blk_cell (heap_alloc_new w5 _) 0) (by omega) (by simp; omega) ?_; intro v' w9 hown9 hg9; obtain ⟨y, hy, hy1, hy2⟩ : ∃ y, OwnAt w9 w7.heap.size v' (ts ++ [y]) ∧ T1 ≤ y ∧ y ≤ T2 := ⟨_, hown9, by omega, by omega⟩; have HY := hid hy; have HG := hid hg9; clear hy hown9 hg9)
          have hE9 : Ext w7 w9 := ext_of_grown ((hE5).alloc _) HG.out (fun q hq => HTV.out q hq)
          go_roundw
          case rel => exact ⟨hE9, k + 1, ts ++ [y], by omega, by go_num, by simp [htl], hid (HBN.out y hy1 hy2), HY⟩
          case measure => (simp [intOf] <;> omega)
    obtain rfl : k = rn := by omega
    obtain ⟨TA, tc, hlv, hlw⟩ := HO.out.form
    rw [htl] at hlv
    subst hlv
    obtain ⟨hV1, hV2, hV3⟩ := HTS.out ts htl HB.out
    have htb : ∀ j, j < ts.length → 0 ≤ ts.getD j 0 ∧ ts.getD j 0 ≤ 10000 := fun j hj => by
      have h1 := HB.out j (by omega)
      have h2 := HLH.out j (by omega)
      omega
    have HWKT := hid (HWK2.out TA tc ts htl htb)
    have HLT := hid hlw
    obtain ⟨V, hV⟩ : ∃ V, wkEnd (wk l pl ph ps start ro [] ts k) = V := ⟨_, rfl⟩
    rw [hV] at hV1 hV2 HWKT
    clear hV htb hlw HTS HLH HO HB HWK2 HSP
    have HYT2 := hid (show ys.getD tt 0 = T by rw [HYT.out]; unfold orN; rw [if_neg (by omega)])
    obtain ⟨wo, rfl⟩ : ∃ wo, wo = wr := ⟨_, rfl⟩
    have K0 := hid (blk_ext G0.out hE)
    have K1 := hid (blk_ext G1.out hE)
    have K2 := hid (blk_ext G2.out hE)
    have sgo : g3 < wo.heap.size := by have := hE.size; omega
    have a0 := blk_cell K0.out 0
    have a1 := blk_cell K0.out 1
    have b0 := blk_cell K1.out 0
    have b1 := blk_cell K1.out 1
    have b2 := blk_cell K1.out 2
    have b3 := blk_cell K1.out 3
    have x0 := blk_cell K2.out 0
    have x1 := blk_cell K2.out 1
    have x2 := blk_cell K2.out 2
    have x3 := blk_cell K2.out 3
    have x4 := blk_cell K2.out 4
    simp only [List.getElem?_toArray, List.getElem?_cons_zero, List.getElem?_cons_succ] at a0 a1 b0 b1 b2 b3 x0 x1 x2 x3 x4
    have z0 := (Array.getElem?_eq_some_iff.1 K0.out).1
    have z1 := (Array.getElem?_eq_some_iff.1 K1.out).1
    have z2 := (Array.getElem?_eq_some_iff.1 K2.out).1
    go_wp2_with fail
    refine (HWKT.out _ (E7.trans hE) (HR7.out.ext hE).ints HLT.out).mono ?_
    rintro e w10 ⟨rfl, hE2⟩
    have hE10 := hE.trans hE2
    have L0 := hid (blk_ext G0.out hE10)
    have L1 := hid (blk_ext G1.out hE10)
    have L2 := hid (blk_ext G2.out hE10)
    have HR10 := hid (HR7.out.ext hE10)
    have HROW10 := hid (HROW7.out.ext hE10)
    have HST := hid (show stopAt ps from_ ro 0 = from_ from rfl)
    have HSS := hid (fun k => (show stopAt ps from_ ro (k + 1) = (ps.getD (ro.getD k 0).toNat zeroPt).dst from rfl))
    have E10 := E7.trans hE10
    clear hE hE2 hE10 G0 G1 G2 K0 K1 K2 HR7 HROW7 a0 a1 b0 b1 b2 b3 x0 x1 x2 x3 x4 z0 z1 z2
    have a0 := blk_cell L0.out 0
    have a1 := blk_cell L0.out 1
    have b0 := blk_cell L1.out 0
    have b1 := blk_cell L1.out 1
    have b2 := blk_cell L1.out 2
    have b3 := blk_cell L1.out 3
    have x0 := blk_cell L2.out 0
    have x1 := blk_cell L2.out 1
    have x2 := blk_cell L2.out 2
    have x3 := blk_cell L2.out 3
    have x4 := blk_cell L2.out 4
    simp only [List.getElem?_toArray, List.getElem?_cons_zero, List.getElem?_cons_succ] at a0 a1 b0 b1 b2 b3 x0 x1 x2 x3 x4
    have z0 := (Array.getElem?_eq_some_iff.1 L0.out).1
    have z1 := (Array.getElem?_eq_some_iff.1 L1.out).1
    have z2 := (Array.getElem?_eq_some_iff.1 L2.out).1
    obtain ⟨rn, hrk⟩ : ∃ rn, k = rn := ⟨_, rfl⟩
    subst hrk
    go_wp2
    go_loopw [20, 21] (fun ev i wr => Ext w10 wr ∧ ∃ j : Nat, j ≤ k ∧ i = .int .i64 j ∧ ev = .int .i64 (stopAt ps from_ ro j)) (fun _ i _ => k - (intOf i).toNat)
    case atStart => exact ⟨Ext.refl _, 0, Nat.zero_le _, rfl, by rw [HST.out]⟩
    case round =>
      clear a0 a1 b0 b1 b2 b3 x0 x1 x2 x3 x4 z0 z1 z2
      obtain ⟨hE, j, hj, rfl, rfl⟩ := hrel
      have K0 := hid (blk_ext L0.out hE)
      have K1 := hid (blk_ext L1.out hE)
      have K2 := hid (blk_ext L2.out hE)
      have E11 := E10.trans hE
      by_cases hlt : j < k
      · have hlo := HROK.out.lo j (by have := HRN.out; omega)
        have hhi := HROK.out.hi j (by have := HRN.out; omega)
        have q1 := (HR10.out.ext hE).cell (k := j) (by have := HRN.out; omega)
        have sgr : g3 < wr.heap.size := (HR10.out.ext hE).lt
        have HSJ := hid (HSS.out j)
        obtain ⟨i, hi⟩ : ∃ i : Nat, ro.getD j 0 = i := ⟨(ro.getD j 0).toNat, by omega⟩
        rw [hi] at q1 hlo hhi HSJ
        rw [Int.toNat_natCast] at HSJ
        obtain ⟨b, off, A', c', rfl, hb, hpt⟩ := (HP.out.ext E11).at_ HN.out (by have := HN.out; omega : i < n)
        have hi1 : (i : Int) < (n : Int) := by have := HN.out; omega
        have hi0 : (0 : Int) ≤ (i : Int) := by omega
        clear hi hhi hlo
        have hk0 : (0 : Int) ≤ (j : Int) := by omega
        have hk1 : (j : Int) < (k : Int) := by omega
        obtain ⟨p, hpq⟩ : ∃ p, ps.getD i zeroPt = p := ⟨_, rfl⟩
        rw [hpq] at hpt HSJ
        clear hpq
        obtain ⟨d0, d1, d2, d3, d4, d5, d6, d7, hcap, hop⟩ := hpt
        clear d2 d3 d4 d5 d6 d7 hcap hop
        obtain ⟨d, hd⟩ : ∃ d, p.dst = d := ⟨_, rfl⟩
        rw [hd] at d1 HSJ
        clear hd
        have a0 := blk_cell K0.out 0
        have a1 := blk_cell K0.out 1
        have b0 := blk_cell K1.out 0
        have b1 := blk_cell K1.out 1
        have b2 := blk_cell K1.out 2
        have b3 := blk_cell K1.out 3
        have x0 := blk_cell K2.out 0
        have x1 := blk_cell K2.out 1
        have x2 := blk_cell K2.out 2
        have x3 := blk_cell K2.out 3
        have x4 := blk_cell K2.out 4
        simp only [List.getElem?_toArray, List.getElem?_cons_zero, List.getElem?_cons_succ] at a0 a1 b0 b1 b2 b3 x0 x1 x2 x3 x4
        have z0 := (Array.getElem?_eq_some_iff.1 K0.out).1
        have z1 := (Array.getElem?_eq_some_iff.1 K1.out).1
        have z2 := (Array.getElem?_eq_some_iff.1 K2.out).1
        go_wp2_with fail
        go_quiet (fail)
        go_wp2
        go_roundw
        case rel => exact ⟨hE.drewN _, j + 1, by omega, by go_num, by rw [HSJ.out]⟩
        case measure => (simp [intOf] <;> omega)
      obtain rfl : j = k := by omega
      rw [HSTP.out]
      have hcz := (HROW10.out.ext hE).cell (k := tt) (by have := HYL.out; omega)
      rw [HYT2.out] at hcz
      have sg2 : g2 < wr.heap.size := (HROW10.out.ext hE).lt
      have hd1 : decide (V ≤ X) = true := decide_eq_true hV1
      have hd2 : decide (0 ≤ T) = true := decide_eq_true hV3
      have hd3 : decide (T ≤ V) = true := decide_eq_true hV2
      have a0 := blk_cell K0.out 0
      have a1 := blk_cell K0.out 1
      have b0 := blk_cell K1.out 0
      have b1 := blk_cell K1.out 1
      have b2 := blk_cell K1.out 2
      have b3 := blk_cell K1.out 3
      have x0 := blk_cell K2.out 0
      have x1 := blk_cell K2.out 1
      have x2 := blk_cell K2.out 2
      have x3 := blk_cell K2.out 3
      have x4 := blk_cell K2.out 4
      simp only [List.getElem?_toArray, List.getElem?_cons_zero, List.getElem?_cons_succ] at a0 a1 b0 b1 b2 b3 x0 x1 x2 x3 x4
      have z0 := (Array.getElem?_eq_some_iff.1 K0.out).1
      have z1 := (Array.getElem?_eq_some_iff.1 K1.out).1
      have z2 := (Array.getElem?_eq_some_iff.1 K2.out).1
      go_wp2_with fail
      refine (works_any _).mono ?_
      rintro e w9 ⟨rfl, hE9⟩
      have EZ : Ext w w9 := by (repeat' (first | with_reducible assumption | with_reducible exact Ext.refl _ | with_reducible refine Ext.alloc ?_ _ | with_reducible refine Ext.set ?_ ?_ _ | with_reducible refine Ext.drew ?_ | with_reducible refine Ext.drewN ?_ _ | with_reducible refine Ext.trans ?_ (by assumption) | (dsimp only; omega)))
      go_wp2
      go_ret
      exact ⟨rfl, EZ⟩
end Go.Proofs.Ytbfmcclbbeobkaa
