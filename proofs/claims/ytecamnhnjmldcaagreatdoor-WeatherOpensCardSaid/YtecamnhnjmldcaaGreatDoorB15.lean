/- regime: the rules for a path. -/
import Derived.Test.YtecamnhnjmldcaaGreatDoorB14
set_option linter.unusedSimpArgs false
set_option linter.unusedVariables false
namespace Go.Proofs.YtecamnhnjmldcaaGreatDoor
open Go.RowKit
theorem infoRl : (Tryz.prog.info? 79).map (fun i => (i.zero, i.size, i.bytes)) = some (some (.agg #[.int .i64 0, .int .i64 0, .int .i64 0, .int .i64 0, .int .i64 0, .int .i64 0]), 6, 48) := by kernel_rfl
theorem oneRl : ∀ y : Rl, ∀ u ∈ gRl y, u.oneCell' = true := by
  intro y u hu
  simp only [gRl, List.mem_cons, List.not_mem_nil, or_false] at hu
  rcases hu with rfl | rfl | rfl | rfl | rfl | rfl <;> rfl
theorem wpList_app1Rl {ops : Array Oper} {rest : List Oper} {o : Oper} {a : Act} {Q : Exit → Act → World → Prop} (w : World) (hg : o.guard = none) (s x : Operand)
    (hop : o.op = Op.call { callee := Callee.builtin Builtin.append, args := #[s, x], argTypes := #[48, 48] }) (B : Nat) (v : Value) (xs : List Rl) (hs : a.eval s = v) (hown : Ownl 79 6 gRl w B v xs)
    (z : Nat) (y : Rl) (hx : a.eval x = .slice (some ⟨z, 0, none⟩) 1 1) (hy : Blk w z 79 (gRl y).toArray) (hl : xs.length ≤ 10000) (hB : B ≤ w.heap.size)
    (hK : ∀ v' w', Ownl 79 6 gRl w' B v' (xs ++ [y]) → w.grownBy w' v.ownBlock → wpList Tryz.prog ops Q rest (a.put o.dst v') w') : wpList Tryz.prog ops Q (o :: rest) a w := by
  obtain ⟨i0, hi, hz0, hz1, hz2⟩ := info_parts infoRl
  refine wpList_append_own w hg s x 48 hop B 79 i0 _ 6 48 Tryz.underlying48 hi hz0 hz1 hz2 rfl (by decide) v xs.length (xs.flatMap gRl) hs hown ⟨z, 0, none⟩ 1 1 (gRl y) hx rfl ?_ (oneRl y) (by unfold maxLen; omega) (by omega) hB (fun v' w' h1 h2 _ => hK v' w' (Ownl.snoc h1) h2)
  intro j u hj
  rw [addr_add, Nat.zero_add, hy.cell]
  simpa using hj
theorem infoReg : (Tryz.prog.info? 106).map (·.size) = some 4 := by kernel_rfl
theorem reg_one (N : Nat) (A1 : Option Addr) (n1 c1 : Nat) (A2 : Option Addr) (n2 c2 : Nat) (A3 : Option Addr) (n3 c3 : Nat) : (#[.int .i64 (N : Int), .slice A1 n1 c1, .slice A2 n2 c2, .slice A3 n3 c3] : Array Value).all (·.oneCell') = true :=
  one_of (vs := [.int .i64 (N : Int), .slice A1 n1 c1, .slice A2 n2 c2, .slice A3 n3 c3]) (by intro v hv; simp only [List.mem_cons, List.not_mem_nil, or_false] at hv; rcases hv with rfl | rfl | rfl | rfl <;> rfl)
def forP (rs : List Rl) (path : Int) : List Rl := rs.filter fun r => decide (r.path = path)
def forK (rs : List Rl) (path : Int) (k : Nat) : List Rl := forP (rs.take k) path
theorem forK_step (rs : List Rl) (path : Int) (k : Nat) (hk : k < rs.length) : forK rs path (k + 1) = if (rs.getD k zeroRl).path = path then forK rs path k ++ [rs.getD k zeroRl] else forK rs path k := by
  have e : rs.getD k zeroRl = rs[k] := by simp [List.getD, List.getElem?_eq_getElem hk]
  unfold forK forP
  rw [List.take_succ_eq_append_getElem hk, List.filter_append, e]
  by_cases h : rs[k].path = path <;> simp [h]
theorem forK_len (rs : List Rl) (path : Int) (k : Nat) : (forK rs path k).length ≤ k := by
  unfold forK forP
  exact Nat.le_trans (List.length_filter_le _ _) (List.length_take_le _ _)
set_option maxRecDepth 100000 in
set_option maxHeartbeats 4000000 in
theorem regime_any (N : Nat) (A1 : Option Addr) (n1 c1 : Nat) (A2 : Option Addr) (n2 c2 : Nat) (rs : List Rl) (RA : Option Addr) (rn rc : Nat) (hrn : rs.length = rn) (hrm : rn ≤ 1000) (path : Int) (w : World) (hr : RlsAt w RA rs) :
    Calls Tryz.prog 62 #[.agg #[.int .i64 (N : Int), .slice A1 n1 c1, .slice A2 n2 c2], .slice RA rn rc, .int .i64 path] w fun e w' => ∃ A' c', e = .returned (.agg (regCells N (.slice A1 n1 c1) (.slice A2 n2 c2) (.slice A' (forP rs path).length c'))) ∧ Ownl 79 6 gRl w' w.heap.size (.slice A' (forP rs path).length c') (forP rs path) ∧ Ext w w' := by
  have HR := hid hr
  have HRN := hid hrn
  have t1 := blk_last (w.alloc (.cells #[.int .i64 (N : Int), .slice A1 n1 c1, .slice A2 n2 c2] 100)) (.cells #[.int .i64 0, .slice none 0 0, .slice none 0 0, .slice none 0 0] 106)
  have t2 := blk_last ((w.alloc (.cells #[.int .i64 (N : Int), .slice A1 n1 c1, .slice A2 n2 c2] 100)).alloc (.cells #[.int .i64 0, .slice none 0 0, .slice none 0 0, .slice none 0 0] 106)) (.cells #[.int .i64 (N : Int), .slice A1 n1 c1, .slice A2 n2 c2, .slice none 0 0] 106)
  rw [World.size_alloc] at t1
  rw [World.size_alloc, World.size_alloc] at t2
  have B1 := hid (blk_old t1 (.cells #[.int .i64 (N : Int), .slice A1 n1 c1, .slice A2 n2 c2, .slice none 0 0] 106))
  have B2 := hid t2
  clear hr hrn t1 t2
  unfold regCells
  go_enter Tryz.func62, Tryz.ntmps62
  go_wp2
  go_loopw [14] (fun i wr => Ext w wr ∧ ∃ (k : Nat) (A' : Option Addr) (c' : Nat), k ≤ rn ∧ i = .int .i64 k ∧ Hid (Blk wr (w.heap.size + 1) 106 #[.int .i64 0, .slice none 0 0, .slice none 0 0, .slice none 0 0]) ∧ Hid (Blk wr (w.heap.size + 1 + 1) 106 #[.int .i64 (N : Int), .slice A1 n1 c1, .slice A2 n2 c2, .slice A' (forK rs path k).length c']) ∧ Hid (Ownl 79 6 gRl wr (w.heap.size + 1 + 1 + 1) (.slice A' (forK rs path k).length c') (forK rs path k))) (fun i _ => rn - (intOf i).toNat)
  case atStart =>
    exact ⟨by (repeat' (first | with_reducible assumption | with_reducible exact Ext.refl _ | with_reducible refine Ext.alloc ?_ _ | with_reducible refine Ext.set ?_ ?_ _ | with_reducible refine Ext.drew ?_ | with_reducible refine Ext.drewN ?_ _ | with_reducible refine Ext.trans ?_ (by assumption) | (dsimp only; omega))), 0, none, 0, Nat.zero_le _, rfl, B1, B2, hid (Ownl.nil _ _)⟩
  case round =>
    obtain ⟨hE, k, A', c', hk, rfl, K1, K2, HV⟩ := hrel
    have y1 := K1.out.lt
    have y2 := K2.out.lt
    clear B1 B2
    have g3 := K2.out.cell 3
    have f3 := K2.out.fro 3
    simp only [List.getElem?_toArray, List.getElem?_cons_zero, List.getElem?_cons_succ] at g3
    by_cases hlt : k < rn
    · obtain ⟨b, off, rfl, hb, e0, e1, e2, e3, e4, e5⟩ := (HR.out.ext hE).at_ HRN.out hlt
      have HST := hid (forK_step rs path k (by rw [HRN.out]; exact hlt))
      have HLE := hid (forK_len rs path k)
      have hfl : (forK rs path k).length ≤ 1000 := by have := HLE.out; omega
      generalize rs.getD k zeroRl = r at *
      generalize forK rs path k = fs at *
      obtain ⟨pa, af, lm⟩ := r
      dsimp only at *
      by_cases hc : pa = path
      · rw [if_pos hc] at HST
        have hcb : (pa == path) = true := by simp [hc]
        have J1 := hid (K1.out.alloc (.cells (gRl ⟨pa, af, lm⟩).toArray 79))
        have J2 := hid (K2.out.alloc (.cells (gRl ⟨pa, af, lm⟩).toArray 79))
        have JV := hid (HV.out.ext (ext_alloc1 wr (.cells (gRl ⟨pa, af, lm⟩).toArray 79)))
        have JX := hid (hE.alloc (.cells (gRl ⟨pa, af, lm⟩).toArray 79))
        unfold gRl at J1 J2 JV JX
        dsimp only at J1 J2 JV JX
        clear hc
        go_wp2_with (at_builtin; refine Halt.mk ?_)
        unfold Halt
        obtain ⟨V, hV⟩ : ∃ V, wr.alloc (.cells #[.int .i64 pa, .int .i64 af, .int .i64 lm.wind, .int .i64 lm.rain, .int .i64 lm.tl, .int .i64 lm.th] 79) = V := ⟨_, rfl⟩
        have hsV : V.heap.size = wr.heap.size + 1 := by rw [← hV]; simp
        rw [hV] at J1 J2 JV JX ⊢
        clear hV
        have BN := blk_last V (.cells #[.int .i64 pa, .int .i64 af, .int .i64 lm.wind, .int .i64 lm.rain, .int .i64 lm.tl, .int .i64 lm.th] 79)
        rw [hsV] at BN
        have BN2 := hid (show Blk (V.alloc (.cells #[.int .i64 pa, .int .i64 af, .int .i64 lm.wind, .int .i64 lm.rain, .int .i64 lm.tl, .int .i64 lm.th] 79)) (wr.heap.size + 1) 79 (gRl ⟨pa, af, lm⟩).toArray from BN)
        have hbs : w.heap.size + 1 + 1 + 1 ≤ (V.alloc (.cells #[.int .i64 pa, .int .i64 af, .int .i64 lm.wind, .int .i64 lm.rain, .int .i64 lm.tl, .int .i64 lm.th] 79)).heap.size := by rw [World.size_alloc, hsV]; omega
        have HSV := hid hsV
        clear BN hsV
        refine wpList_app1Rl _ rfl _ _ rfl (w.heap.size + 1 + 1 + 1) (.slice A' fs.length c') fs rfl (JV.out.ext (ext_alloc1 _ _)) (wr.heap.size + 1) ⟨pa, af, lm⟩ rfl BN2.out (by omega) hbs ?_
        intro v4 w4 hO hg
        have VA := hid (JV.out.ext (ext_alloc1 V (.cells #[.int .i64 pa, .int .i64 af, .int .i64 lm.wind, .int .i64 lm.rain, .int .i64 lm.tl, .int .i64 lm.th] 79)))
        have L1 := hid ((J1.out.alloc _).apart hg (Apart.own VA.out (by decide)))
        have L2 := hid ((J2.out.alloc _).apart hg (Apart.own VA.out (by decide)))
        have LX := hid (JV.out.extApp JX.out (by omega) hg)
        have hs4 : (fs ++ [(⟨pa, af, lm⟩ : Rl)]).length = fs.length + 1 := by simp
        obtain ⟨A4, c4, rfl, -, -, -⟩ := (hO.form (by decide) (fun _ => rfl) zeroRl)
        have LV := hid hO
        rw [hs4] at LV ⊢
        have l3 := L2.out.cell 3
        have l3f := L2.out.fro 3
        have lz := L2.out.lt
        simp only [List.getElem?_toArray, List.getElem?_cons_zero, List.getElem?_cons_succ] at l3
        have R1 := hid (L1.out.other (p := ⟨w.heap.size + 1 + 1, 3, none⟩) (by dsimp only; omega) (.slice A4 (fs.length + 1) c4))
        have R2 := hid (L2.out.setAt 3 (.slice A4 (fs.length + 1) c4))
        have RV := hid (LV.out.other (p := ⟨w.heap.size + 1 + 1, 3, none⟩) (by dsimp only; omega) (.slice A4 (fs.length + 1) c4))
        have RX := hid (LX.out.set (p := ⟨w.heap.size + 1 + 1, 3, none⟩) (by dsimp only; omega) (.slice A4 (fs.length + 1) c4))
        simp only [List.setIfInBounds_toArray, List.set_cons_zero, List.set_cons_succ] at R2
        clear J1 J2 JV JX VA BN2 hbs hO hg LX LV L1 K1 K2 HV g3 f3 e0 e1 e2 e3 e4 e5 hs4 HSV
        go_wp2
        go_roundw
        case rel => exact ⟨RX.out, k + 1, A4, c4, by omega, by go_num, R1, hid (by rw [HST.out]; simpa using R2.out), hid (by rw [HST.out]; simpa using RV.out)⟩
        case measure => simp [intOf]; omega
      · rw [if_neg hc] at HST
        have hcb : (pa == path) = false := beq_eq_false_iff_ne.2 hc
        clear hc
        go_wp2
        go_roundw
        case rel => exact ⟨by (repeat' (first | with_reducible assumption | with_reducible exact Ext.refl _ | with_reducible refine Ext.alloc ?_ _ | with_reducible refine Ext.set ?_ ?_ _ | with_reducible refine Ext.drew ?_ | with_reducible refine Ext.drewN ?_ _ | with_reducible refine Ext.trans ?_ (by assumption) | (dsimp only; omega))), k + 1, A', c', by omega, by go_num, hid (K1.out.alloc _), hid (by rw [HST.out]; exact K2.out.alloc _), hid (by rw [HST.out]; exact HV.out.ext (ext_alloc1 _ _))⟩
        case measure => simp [intOf]; omega
    · obtain rfl : k = rn := by omega
      have HF := hid (show forK rs path k = forP rs path by unfold forK; rw [List.take_of_length_le (by rw [HRN.out]; exact Nat.le_refl _)])
      clear g3 f3
      obtain ⟨g0, g1, g2, g3⟩ : _ ∧ _ ∧ _ ∧ _ := ⟨K2.out.cell 0, K2.out.cell 1, K2.out.cell 2, K2.out.cell 3⟩
      simp only [List.getElem?_toArray, List.getElem?_cons_zero, List.getElem?_cons_succ] at g0 g1 g2 g3
      rw [HF.out] at g3 HV
      have R1 := hid (K1.out.fill [.int .i64 (N : Int), .slice A1 n1 c1, .slice A2 n2 c2, .slice A' (forP rs path).length c'] 0)
      have RX := hid (ext_setCells hE (b := w.heap.size + 1) (by omega) [.int .i64 (N : Int), .slice A1 n1 c1, .slice A2 n2 c2, .slice A' (forP rs path).length c'] 0)
      have RV := hid ((HV.out.apart (grown_setCells (b := w.heap.size + 1) [.int .i64 (N : Int), .slice A1 n1 c1, .slice A2 n2 c2, .slice A' (forP rs path).length c'] 0) (Apart.blk K1.out (by decide))).low (show w.heap.size ≤ w.heap.size + 1 + 1 + 1 by omega))
      simp only [fillA, List.setIfInBounds_toArray, List.set_cons_zero, List.set_cons_succ] at R1
      have HO := hid (reg_one N A1 n1 c1 A2 n2 c2 A' (forP rs path).length c')
      clear K2 HF HV
      obtain ⟨fl, hfl⟩ : ∃ fl, (forP rs path).length = fl := ⟨_, rfl⟩
      have HFL := hid hfl
      rw [hfl] at g3 R1 RX RV HO
      clear hfl
      go_wp2_with (refine wpList_store_mid rfl 106 _ _ rfl (w.heap.size + 1) 0 (#[.int .i64 (N : Int), .slice A1 n1 c1, .slice A2 n2 c2, .slice A' fl c']) rfl rfl (blk_there K1.out rfl) infoReg HO.out ?_)
      obtain ⟨Z, hZ⟩ : ∃ Z, wr.setCells (w.heap.size + 1) 0 [.int .i64 (N : Int), .slice A1 n1 c1, .slice A2 n2 c2, .slice A' fl c'] = Z := ⟨_, rfl⟩
      rw [hZ] at R1 RX RV
      have hZ2 : wr.setCells (w.heap.size + 1) 0 (#[.int .i64 (N : Int), .slice A1 n1 c1, .slice A2 n2 c2, .slice A' fl c'] : Array Value).toList = Z := hZ
      first | rw [hZ2] | rw [hZ]
      clear hZ hZ2 HO
      obtain ⟨r0, r1, r2, r3⟩ : _ ∧ _ ∧ _ ∧ _ := ⟨R1.out.cell 0, R1.out.cell 1, R1.out.cell 2, R1.out.cell 3⟩
      simp only [List.getElem?_toArray, List.getElem?_cons_zero, List.getElem?_cons_succ] at r0 r1 r2 r3
      exact bodyPost_ret (v := .agg #[.int .i64 (N : Int), .slice A1 n1 c1, .slice A2 n2 c2, .slice A' fl c']) (by simp [results, Tryz.results62, go_sem, r0, r1, r2, r3]) rfl ⟨A', c', by rw [HFL.out], by rw [HFL.out]; exact RV.out, RX.out⟩
end Go.Proofs.YtecamnhnjmldcaaGreatDoor
/- safeOpens. -/
set_option linter.unusedSimpArgs false
set_option linter.unusedVariables false
namespace Go.Proofs.YtecamnhnjmldcaaGreatDoor
open Go.RowKit
theorem OpensAt.take {w : World} {A : Option Addr} {xs : List (Int × Int)} (h : OpensAt w A xs) (j : Nat) : OpensAt w A (xs.take j) := fun hne => by
  obtain ⟨b, off, hA, hb, hc⟩ := h (by rintro rfl; simp at hne)
  refine ⟨b, off, hA, hb, fun k hk => ?_⟩
  rw [List.length_take] at hk
  have e : (xs.take j).getD k (0, 0) = xs.getD k (0, 0) := by
    simp only [List.getD_eq_getElem?_getD]
    rw [List.getElem?_take_of_lt (by omega)]
  rw [e]
  exact hc k (by omega)
set_option maxRecDepth 100000 in
set_option maxHeartbeats 2000000 in
theorem saf1_any (t : Nat) (ht : t ≤ 100000) (os sp : List (Int × Int)) (hos : os.length ≤ 1000) (hsp : sp.length ≤ 1000) (PA : Option Addr) (pc : Nat) (SA : Option Addr) (sc : Nat) (q1 q2 : Nat) (w : World) (h1 : OpensAt w PA os) (h2 : OpensAt w SA sp) (hq1 : q1 < w.heap.size) (hq2 : q2 < w.heap.size)
    (c1 : w.cell? ⟨q1, 7, none⟩ = some (.slice PA os.length pc)) (c2 : w.cell? ⟨q2, 0, none⟩ = some (.slice SA sp.length sc)) :
    Calls Tryz.prog 112 #[.int .i64 (t : Int), .pointer (some ⟨q1, 0, none⟩), .pointer (some ⟨q2, 0, none⟩)] w fun e w' => e = .returned (.bool (isInM t os && isInM (t / 60 : Nat) sp)) ∧ Ext w w' := by
  have H1 := hid (fun (W : World) (hW : Ext w W) => isIn_any t os PA os.length pc rfl (by omega) W (h1.ext hW))
  have H2 := hid (fun (W : World) (hW : Ext w W) => isIn_any ((t / 60 : Nat) : Int) sp SA sp.length sc rfl (by omega) W (h2.ext hW))
  clear h1 h2
  have hq : ((t : Int)).tdiv 60 = ((t / 60 : Nat) : Int) := by rw [Int.tdiv_eq_ediv_of_nonneg (by omega)]; omega
  have hub : t / 60 ≤ 2000 := by omega
  obtain ⟨b1, hb1⟩ : ∃ b, isInM t os = b := ⟨_, rfl⟩
  rw [hb1] at H1 ⊢
  obtain ⟨b2, hb2⟩ : ∃ b, isInM ((t / 60 : Nat) : Int) sp = b := ⟨_, rfl⟩
  rw [hb2] at H2 ⊢
  clear hb1 hb2
  generalize hu : t / 60 = u at *
  clear hu
  generalize os.length = ol at *
  generalize sp.length = sl at *
  cases b1
  · go_enter Tryz.func112, Tryz.ntmps112
    go_wp2_with (go_at_call 113; refine (H1.out _ (by (repeat' (first | with_reducible assumption | with_reducible exact Ext.refl _ | with_reducible refine Ext.alloc ?_ _ | with_reducible refine Ext.set ?_ ?_ _ | with_reducible refine Ext.drew ?_ | with_reducible refine Ext.drewN ?_ _ | with_reducible refine Ext.trans ?_ (by assumption) | (dsimp only; omega))))).mono ?_; rintro e w2 ⟨rfl, hE⟩)
    go_ret
    exact ⟨rfl, by (repeat' (first | with_reducible assumption | with_reducible exact Ext.refl _ | with_reducible refine Ext.alloc ?_ _ | with_reducible refine Ext.set ?_ ?_ _ | with_reducible refine Ext.drew ?_ | with_reducible refine Ext.drewN ?_ _ | with_reducible refine Ext.trans ?_ (by assumption) | (dsimp only; omega)))⟩
  · go_enter Tryz.func112, Tryz.ntmps112
    go_wp2_with fail
    refine Calls.mono (H1.out _ (by (repeat' (first | with_reducible assumption | with_reducible exact Ext.refl _ | with_reducible refine Ext.alloc ?_ _ | with_reducible refine Ext.set ?_ ?_ _ | with_reducible refine Ext.drew ?_ | with_reducible refine Ext.drewN ?_ _ | with_reducible refine Ext.trans ?_ (by assumption) | (dsimp only; omega))))) ?_
    rintro e w2 ⟨rfl, hE⟩
    have d2 := (hE.cell (p := ⟨q2, 0, none⟩) hq2).trans c2
    dsimp only
    go_wp2_with fail
    refine Calls.mono (H2.out _ hE) ?_
    rintro e w3 ⟨rfl, hE3⟩
    dsimp only
    go_wp2
    go_ret
    exact ⟨ret_bool (by simp), by (repeat' (first | with_reducible assumption | with_reducible exact Ext.refl _ | with_reducible refine Ext.alloc ?_ _ | with_reducible refine Ext.set ?_ ?_ _ | with_reducible refine Ext.drew ?_ | with_reducible refine Ext.drewN ?_ _ | with_reducible refine Ext.trans ?_ (by assumption) | (dsimp only; omega)))⟩
theorem safeM_nil (ss : List (List Hr)) (n : Nat) (os : List (Int × Int)) : safeM [] ss n os = os := by unfold safeM; rw [if_pos rfl]
theorem safeM_cons {rs : List Rl} (h : rs ≠ []) (ss : List (List Hr)) (n : Nat) (os : List (Int × Int)) : safeM rs ss n os = (spansM (fun t => isInM t os && isInM (t / 60 : Nat) (sureM rs ss n)) (n * 60)).take 6 := by unfold safeM; rw [if_neg h]
/-- A new list of spans. -/
def SpNew (w : World) (xs : List (Int × Int)) (e : Ending) (w' : World) : Prop := ∃ A c, e = .returned (.slice A xs.length c) ∧ xs.length ≤ c ∧ OpensAt w' A xs ∧ (∀ b o sp, A = some ⟨b, o, sp⟩ → w.heap.size ≤ b) ∧ Ext w w'
set_option maxRecDepth 100000 in
set_option maxHeartbeats 4000000 in
theorem safeO_any (N : Nat) (hN48 : N ≤ 100) (A1 : Option Addr) (n1 c1 : Nat) (A2 : Option Addr) (n2 c2 : Nat) (ss : List (List Hr)) (rs : List Rl) (RA : Option Addr) (rn rc : Nat) (p : Pt) (PA : Option Addr) (pc : Nat) (hpl : p.opens.length ≤ 1000) (w : World) (h : RIn w N A2 n2 ss rs RA rn) (hp : OpensAt w PA p.opens) :
    Calls Tryz.prog 67 #[.agg (regCells N (.slice A1 n1 c1) (.slice A2 n2 c2) (.slice RA rn rc)), p.val PA pc] w (SpNew w (safeM rs ss N p.opens)) := by
  have HC := hid (fun (W : World) (hW : Ext w W) => cloneSp_any PA p.opens.length pc p.opens rfl (by omega) W (flat_spans.2 (hp.ext hW)))
  have hrn := h.hrn
  by_cases h0 : rs = []
  · subst h0
    obtain rfl : rn = 0 := hrn.symm
    rw [safeM_nil]
    unfold SpNew Pt.val regCells at *
    clear h hp hrn
    obtain ⟨f, d, g, tl, th, sl, sh, os⟩ := p
    dsimp only at *
    go_enter Tryz.func67, Tryz.ntmps67
    go_wp2_with fail
    refine Calls.mono (HC.out _ (by (repeat' (first | with_reducible assumption | with_reducible exact Ext.refl _ | with_reducible refine Ext.alloc ?_ _ | with_reducible refine Ext.set ?_ ?_ _ | with_reducible refine Ext.drew ?_ | with_reducible refine Ext.drewN ?_ _ | with_reducible refine Ext.trans ?_ (by assumption) | (dsimp only; omega))))) ?_
    rintro e w2 ⟨v, rfl, ho, hE⟩
    obtain ⟨A, c, rfl, hcl, hfl, hbl⟩ := (ho.form (by decide) (fun _ => rfl) (0, 0))
    have HA := hid (flat_spans.1 hfl)
    have HE := hid (show Ext w w2 by (repeat' (first | with_reducible assumption | with_reducible exact Ext.refl _ | with_reducible refine Ext.alloc ?_ _ | with_reducible refine Ext.set ?_ ?_ _ | with_reducible refine Ext.drew ?_ | with_reducible refine Ext.drewN ?_ _ | with_reducible refine Ext.trans ?_ (by assumption) | (dsimp only; omega))))
    have HCL := hid hcl
    have HB := hid (fun b o sp hA => Nat.le_trans (show w.heap.size ≤ _ by simp; omega) (hbl b o sp hA))
    clear ho hE hcl hfl hbl HC
    dsimp only
    go_wp2
    go_ret
    exact ⟨A, c, rfl, HCL.out, HA.out, HB.out, HE.out⟩
  · rw [safeM_cons h0]
    have hne : ¬ rn = 0 := by rw [← hrn]; exact fun hl => h0 (List.length_eq_zero_iff.1 hl)
    have hne2 : ((rn : Int) == 0) = false := beq_eq_false_iff_ne.2 (by omega)
    have HS := hid (fun (W : World) (hW : Ext w W) => surely2_any N A1 n1 c1 A2 n2 c2 ss rs RA rn rc W (h.ext hW))
    have hsl : (sureM rs ss N).length ≤ N := spansM_len _ _
    have HP := hid hp
    clear h hp HC hrn h0
    generalize sureM rs ss N = sp at *
    have HSP := hid (fun (SA : Option Addr) (sc q1 q2 : Nat) (W : World) (hW : Ext w W) (h2 : OpensAt W SA sp) (hq1 : q1 < W.heap.size) (hq2 : q2 < W.heap.size) (k1 : W.cell? ⟨q1, 7, none⟩ = some (.slice PA p.opens.length pc)) (k2 : W.cell? ⟨q2, 0, none⟩ = some (.slice SA sp.length sc)) =>
      spans_any 112 #[.pointer (some ⟨q1, 0, none⟩), .pointer (some ⟨q2, 0, none⟩)] (fun _ _ => by kernel_rfl) (N * 60) (by omega) (fun t => isInM t p.opens && isInM (t / 60 : Nat) sp) W
        (fun t W' e1 ht => saf1_any t (by omega) p.opens sp hpl (by omega) PA pc SA sc q1 q2 W' ((HP.out.ext hW).ext e1) (h2.ext e1) (Nat.lt_of_lt_of_le hq1 e1.size) (Nat.lt_of_lt_of_le hq2 e1.size) ((e1.cell (p := ⟨q1, 7, none⟩) hq1).trans k1) ((e1.cell (p := ⟨q2, 0, none⟩) hq2).trans k2)))
    generalize hfs : spansM (fun t => isInM t p.opens && isInM (t / 60 : Nat) sp) (N * 60) = fs at *
    have hfl : fs.length ≤ 6000 := by rw [← hfs]; exact Nat.le_trans (spansM_len _ _) (by omega)
    clear hfs
    unfold SpNew
    obtain ⟨ml, hml⟩ : ∃ ml, min fs.length 6 = ml := ⟨_, rfl⟩
    have htl : (fs.take 6).length = ml := by rw [List.length_take, ← hml]; omega
    have g1 : (if (6 : Int) < (fs.length : Int) then (6 : Int) else (fs.length : Int)) = (ml : Int) := by split <;> omega
    have hml2 : ml ≤ fs.length := by omega
    have HTL := hid htl
    clear hml htl HP
    unfold Pt.val regCells at *
    obtain ⟨f, d, g, tl, th, sl, sh, os⟩ := p
    dsimp only at *
    generalize os.length = ol at *
    go_enter Tryz.func67, Tryz.ntmps67
    go_wp2_with fail
    refine Calls.mono (HS.out _ (by (repeat' (first | with_reducible assumption | with_reducible exact Ext.refl _ | with_reducible refine Ext.alloc ?_ _ | with_reducible refine Ext.set ?_ ?_ _ | with_reducible refine Ext.drew ?_ | with_reducible refine Ext.drewN ?_ _ | with_reducible refine Ext.trans ?_ (by assumption) | (dsimp only; omega))))) ?_
    rintro e w2 ⟨SA, sc, rfl, ho, hE⟩
    have HO := hid (flat_spans.1 (show FlatAt 2 gSp (0, 0) w2 SA sp by
      obtain ⟨A, c, hv, _, hf, _⟩ := (ho.form (by decide) (fun _ => rfl) (0, 0))
      injection hv with hv
      subst hv
      exact hf))
    have hC := kcell (w1 := (w.alloc (.cells #[.int .i64 (N : Int), .slice A1 n1 c1, .slice A2 n2 c2, .slice RA rn rc] 106)).alloc (.cells #[.int .i64 f, .int .i64 d, .int .i64 g, .int .i64 tl, .int .i64 th, .int .i64 sl, .int .i64 sh, .slice PA ol pc] 64)) (W := (w.alloc (.cells #[.int .i64 (N : Int), .slice A1 n1 c1, .slice A2 n2 c2, .slice RA rn rc] 106)).alloc (.cells #[.int .i64 f, .int .i64 d, .int .i64 g, .int .i64 tl, .int .i64 th, .int .i64 sl, .int .i64 sh, .slice PA ol pc] 64)) (n := w.heap.size + 2) (fun _ _ _ => rfl) (by simp) hE
    have hz : w.heap.size + 2 ≤ w2.heap.size := by have := hE.size; simp at this; omega
    have hz1 : w.heap.size < w2.heap.size := by omega
    have hz2 : w.heap.size + 1 < w2.heap.size := by omega
    have HE := hid (show Ext w w2 by (repeat' (first | with_reducible assumption | with_reducible exact Ext.refl _ | with_reducible refine Ext.alloc ?_ _ | with_reducible refine Ext.set ?_ ?_ _ | with_reducible refine Ext.drew ?_ | with_reducible refine Ext.drewN ?_ _ | with_reducible refine Ext.trans ?_ (by assumption) | (dsimp only; omega))))
    have q7 : w2.cell? ⟨w.heap.size + 1, 7, none⟩ = some (.slice PA ol pc) := by rw [hC _ _ (by omega)]; go_simp
    have B2 := blk_last w2 (.cells #[.slice SA sp.length sc] 35)
    have q0 : (w2.alloc (.cells #[.slice SA sp.length sc] 35)).cell? ⟨w2.heap.size, 0, none⟩ = some (.slice SA sp.length sc) := blk_cell B2 0
    have Q1 := hid (((ext_alloc1 w2 (.cells #[.slice SA sp.length sc] 35)).cell (p := ⟨w.heap.size + 1, 7, none⟩) hz2).trans q7)
    have Q0 := hid q0
    have EW := hid (HE.out.alloc (.cells #[.slice SA sp.length sc] 35))
    have OW := hid (HO.out.ext (ext_alloc1 w2 (.cells #[.slice SA sp.length sc] 35)))
    have hzz := hid (show w2.heap.size < (w2.alloc (.cells #[.slice SA sp.length sc] 35)).heap.size by simp)
    clear ho hE HS q7 q0 B2
    dsimp only
    go_wp2_with fail
    refine Calls.mono (HSP.out SA sc (w.heap.size + 1) w2.heap.size _ EW.out OW.out (by have := hzz.out; omega) hzz.out Q1.out Q0.out) ?_
    rintro e w4 ⟨A4, c4, rfl, ho, hE⟩
    obtain ⟨A5, c5, hv, hcl, hf, hbl⟩ := (ho.form (by decide) (fun _ => rfl) (0, 0))
    injection hv with hv1 hv2 hv3
    subst hv1 hv3
    have HF := hid ((flat_spans.1 hf).take 6)
    have HEE := hid (EW.out.trans hE)
    have HB := hid (fun b o sp hA => Nat.le_trans (show w.heap.size ≤ _ by simp; omega) (hbl b o sp hA))
    have hcl2 : ml ≤ A4.isSome.toNat + c4 := by omega
    have hml3 : ml ≤ c4 := by omega
    have HFL := hid hfl
    clear ho hE hf hbl hcl Q1 Q0 OW hzz HSP HO hC hcl2
    generalize fs.length = fl at *
    dsimp only
    go_wp2
    go_ret
    have hTL : min 6 fs.length = ml := by have := HTL.out; rwa [List.length_take] at this
    refine ⟨A4, c4, ?_, ?_, HF.out, HB.out, HEE.out⟩
    · show Ending.returned (.slice A4 ml c4) = _
      congr 2
      exact hTL.symm
    · rw [hTL]; exact hml3
end Go.Proofs.YtecamnhnjmldcaaGreatDoor
