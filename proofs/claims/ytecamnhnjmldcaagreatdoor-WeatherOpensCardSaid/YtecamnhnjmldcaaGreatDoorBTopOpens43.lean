/- sameSpans. -/
import Derived.Test.YtecamnhnjmldcaaGreatDoorB01
import Derived.Deep.QuietTactic
import Derived.BigQuiet
import Derived.Test.YtecamnhnjmldcaaGreatDoorBTopOpens40
import Derived.Test.YtecamnhnjmldcaaGreatDoorB17
import Derived.Test.YtecamnhnjmldcaaGreatDoorBTopOpens24
set_option linter.unusedSimpArgs false
set_option linter.unusedVariables false
namespace Go.Proofs.YtecamnhnjmldcaaGreatDoor
open Go.RowKit
theorem same_ofS {xs ys : List (Int × Int)} (hl : xs.length = ys.length) (h : ∀ j, j < xs.length → xs.getD j (0, 0) = ys.getD j (0, 0)) : xs = ys := by
  refine List.ext_getElem hl fun i h1 h2 => ?_
  have := h i h1
  simpa [List.getD, List.getElem?_eq_getElem h1, List.getElem?_eq_getElem h2] using this
set_option maxHeartbeats 2000000 in
theorem sameSpans_any (A B : Option Addr) (n1 n2 c1 c2 : Nat) (xs ys : List (Int × Int)) (hn1 : xs.length = n1) (hn2 : ys.length = n2) (hm : n1 ≤ 1000) (hm2 : n2 ≤ 1000) (w : World) (hx : OpensAt w A xs) (hy : OpensAt w B ys) :
    Calls Tryz.prog 12 #[.slice A n1 c1, .slice B n2 c2] w fun e w' => e = .returned (.bool (decide (xs = ys))) ∧ Ext w w' := by
  have HX := hid hx
  have HY := hid hy
  have HN1 := hid hn1
  have HN2 := hid hn2
  clear hx hy hn1 hn2
  by_cases hl : n1 = n2
  · subst hl
    go_enter Tryz.func12, Tryz.ntmps12
    go_wp2
    go_loopw [5] (fun i wr => Ext w wr ∧ ∃ k : Nat, k ≤ n1 ∧ i = .int .i64 k ∧ Hid (∀ j, j < k → xs.getD j (0, 0) = ys.getD j (0, 0))) (fun i _ => n1 - (intOf i).toNat)
    case atStart => exact ⟨by (repeat' (first | with_reducible assumption | with_reducible exact Ext.refl _ | with_reducible refine Ext.alloc ?_ _ | with_reducible refine Ext.set ?_ ?_ _ | with_reducible refine Ext.drew ?_ | with_reducible refine Ext.drewN ?_ _ | with_reducible refine Ext.trans ?_ (by assumption) | (dsimp only; omega))), 0, Nat.zero_le _, rfl, hid (fun j hj => by omega)⟩
    case round =>
      obtain ⟨hE, k, hk, rfl, HA⟩ := hrel
      by_cases hlt : k < n1
      · obtain ⟨b, off, rfl, hb, hc⟩ := (HX.out.ext hE) (by intro e; have := HN1.out; rw [e] at this; simp at this; omega)
        obtain ⟨b', off', rfl, hb', hc'⟩ := (HY.out.ext hE) (by intro e; have := HN2.out; rw [e] at this; simp at this; omega)
        obtain ⟨q1, q2⟩ := hc k (by have := HN1.out; omega)
        obtain ⟨q3, q4⟩ := hc' k (by have := HN2.out; omega)
        have hk0 : (0 : Int) ≤ (k : Int) := by omega
        have hk1 : (k : Int) < (n1 : Int) := by omega
        clear hc hc'
        obtain ⟨u, hu⟩ : ∃ u, xs.getD k (0, 0) = u := ⟨_, rfl⟩
        obtain ⟨v, hv⟩ : ∃ v, ys.getD k (0, 0) = v := ⟨_, rfl⟩
        rw [hu] at q1 q2
        rw [hv] at q3 q4
        have HU := hid hu
        have HV := hid hv
        clear hu hv
        obtain ⟨u1, u2⟩ := u
        obtain ⟨v1, v2⟩ := v
        dsimp only at q1 q2 q3 q4
        by_cases huv : u1 = v1 ∧ u2 = v2
        · obtain ⟨rfl, rfl⟩ := huv
          have HA2 := hid (show ∀ j, j < k + 1 → xs.getD j (0, 0) = ys.getD j (0, 0) from fun j hj => by
            rcases Nat.lt_succ_iff_lt_or_eq.1 hj with h | rfl
            · exact HA.out j h
            · exact HU.out.trans HV.out.symm)
          go_wp2_with fail
          go_quiet (fail)
          go_wp2
          go_roundw
          case rel => exact ⟨hE.drewN _, k + 1, by omega, by go_num, HA2⟩
          case measure => simp [intOf]; omega
        · have HD := hid (show xs ≠ ys by
            rintro rfl
            have := HU.out.symm.trans HV.out
            injection this with h1 h2
            exact huv ⟨h1, h2⟩)
          by_cases h1 : u1 = v1
          · subst h1
            have h2 : ¬ u2 = v2 := fun h => huv ⟨rfl, h⟩
            clear huv
            go_wp2_with fail
            go_quiet (fail)
            go_wp2
            go_ret
            exact ⟨ret_bool (by rw [decide_eq_false HD.out]), hE.drewN _⟩
          · clear huv
            go_wp2_with fail
            go_quiet (fail)
            go_wp2
            go_ret
            exact ⟨ret_bool (by rw [decide_eq_false HD.out]), hE.drewN _⟩
      · have HD := hid (same_ofS (HN1.out.trans HN2.out.symm) (fun j hj => HA.out j (by have := HN1.out; omega)))
        go_wp2
        go_ret
        exact ⟨ret_bool (by rw [decide_eq_true HD.out]), by (repeat' (first | with_reducible assumption | with_reducible exact Ext.refl _ | with_reducible refine Ext.alloc ?_ _ | with_reducible refine Ext.set ?_ ?_ _ | with_reducible refine Ext.drew ?_ | with_reducible refine Ext.drewN ?_ _ | with_reducible refine Ext.trans ?_ (by assumption) | (dsimp only; omega)))⟩
  · have HD := hid (show xs ≠ ys by rintro rfl; exact hl (HN1.out.symm.trans HN2.out))
    have hli : ¬ ((n1 : Int) = (n2 : Int)) := by omega
    go_enter Tryz.func12, Tryz.ntmps12
    go_wp2
    go_ret
    exact ⟨ret_bool (by rw [decide_eq_false HD.out]), by (repeat' (first | with_reducible assumption | with_reducible exact Ext.refl _ | with_reducible refine Ext.alloc ?_ _ | with_reducible refine Ext.set ?_ ?_ _ | with_reducible refine Ext.drew ?_ | with_reducible refine Ext.drewN ?_ _ | with_reducible refine Ext.trans ?_ (by assumption) | (dsimp only; omega)))⟩
end Go.Proofs.YtecamnhnjmldcaaGreatDoor
/- sameNet. -/
set_option linter.unusedSimpArgs false
set_option linter.unusedVariables false
namespace Go.Proofs.YtecamnhnjmldcaaGreatDoor
open Go.RowKit
theorem absS {W X : World} (_ : Ext W X) : ∃ Y, X = Y := ⟨_, rfl⟩
theorem Blk.others {b g : Nat} {t : TypeId} {cs : Array Value} (hne : b ≠ g) : ∀ (vs : List Value) (o : Nat) {W : World}, Blk W b t cs → Blk (W.setCells g o vs) b t cs
  | [], _, _, h => h
  | v :: r, o, _, h => Blk.others hne r (o + 1) (h.other (p := ⟨g, o, none⟩) hne v)
theorem infoPt1 : (Tryz.prog.info? 64).map (·.size) = some 8 := by kernel_rfl
def ptCells (p : Pt) (A : Option Addr) (c : Nat) : Array Value := #[.int .i64 p.frm, .int .i64 p.dst, .int .i64 p.grade, .int .i64 p.tl, .int .i64 p.th, .int .i64 p.sl, .int .i64 p.sh, .slice A p.opens.length c]
theorem pt_one (p : Pt) (A : Option Addr) (c : Nat) : (ptCells p A c).all (·.oneCell') = true :=
  one_of (vs := gPt (p, A, c)) (onePt (p, A, c))
set_option maxHeartbeats 8000000 in
set_option maxRecDepth 100000 in
theorem sameNet_any (m : Int) (A B : Option Addr) (n c1 c2 : Nat) (ps : List Pt) (hn : ps.length = n) (hm : n ≤ 1000) (ho : ∀ k, k < n → (ps.getD k zeroPt).opens.length ≤ 1000) (w : World) (hx : PathsAt w A ps) (hy : PathsAt w B ps) :
    Calls Tryz.prog 23 #[.agg #[.int .i64 m, .slice A n c1], .agg #[.int .i64 m, .slice B n c2]] w fun e w' => e = .returned (.bool true) ∧ Ext w w' := by
  have HX := hid hx
  have HY := hid hy
  have HN := hid hn
  have HO := hid ho
  have B0 := hid (show Blk _ _ _ _ from blk_old (blk_last w (.cells #[.int .i64 m, .slice A n c1] 47)) (.cells #[.int .i64 m, .slice B n c2] 47))
  have B1 := hid (show Blk _ _ _ _ from blk_last (w.alloc (.cells #[.int .i64 m, .slice A n c1] 47)) (.cells #[.int .i64 m, .slice B n c2] 47))
  rw [World.size_alloc] at B1
  clear hx hy hn ho
  go_enter Tryz.func23, Tryz.ntmps23
  go_wp2
  go_loopw [5] (fun i wr => Ext w wr ∧ Hid (Blk wr w.heap.size 47 #[.int .i64 m, .slice A n c1]) ∧ Hid (Blk wr (w.heap.size + 1) 47 #[.int .i64 m, .slice B n c2]) ∧ ∃ k : Nat, k ≤ n ∧ i = .int .i64 k) (fun i _ => n - (intOf i).toNat)
  case atStart => exact ⟨by (repeat' (first | with_reducible assumption | with_reducible exact Ext.refl _ | with_reducible refine Ext.alloc ?_ _ | with_reducible refine Ext.set ?_ ?_ _ | with_reducible refine Ext.drew ?_ | with_reducible refine Ext.drewN ?_ _ | with_reducible refine Ext.trans ?_ (by assumption) | (dsimp only; omega))), B0, B1, 0, Nat.zero_le _, rfl⟩
  case round =>
    obtain ⟨E, K0, K1, k, hk, rfl⟩ := hrel
    clear B0 B1
    obtain ⟨a0, a1⟩ : _ ∧ _ := ⟨K0.out.cell 0, K0.out.cell 1⟩
    obtain ⟨b0, b1⟩ : _ ∧ _ := ⟨K1.out.cell 0, K1.out.cell 1⟩
    have z0 := K0.out.lt
    have z1 := K1.out.lt
    simp only [List.getElem?_toArray, List.getElem?_cons_zero, List.getElem?_cons_succ] at a0 a1 b0 b1
    by_cases hlt : k < n
    · obtain ⟨x1, f1, X1, g1, hA1, hx1, hp1⟩ := PathsAt.at_ (HX.out.ext E) HN.out hlt
      obtain ⟨y1, f2, Y1, g2, hA2, hy1, hp2⟩ := PathsAt.at_ (HY.out.ext E) HN.out hlt
      subst hA1 hA2
      have HO1 := hid (HO.out k hlt)
      generalize ps.getD k zeroPt = p at *
      obtain ⟨d0, d1, d2, d3, d4, d5, d6, d7, -, hop1⟩ := hp1
      obtain ⟨e0, e1, e2, e3, e4, e5, e6, e7, -, hop2⟩ := hp2
      obtain ⟨f, d, g, tl, th, sl, sh, os⟩ := p
      dsimp only at d0 d1 d2 d3 d4 d5 d6 d7 e0 e1 e2 e3 e4 e5 e6 e7 hop1 hop2 HO1
      have HP1 := hid hop1
      have HP2 := hid hop2
      have hk0 : (0 : Int) ≤ (k : Int) := by omega
      have hk1 : (k : Int) < (n : Int) := by omega
      have HQ1 := hid (pt_one ⟨f, d, g, tl, th, sl, sh, os⟩ X1 g1)
      have HQ2 := hid (pt_one ⟨f, d, g, tl, th, sl, sh, os⟩ Y1 g2)
      unfold ptCells at HQ1 HQ2
      dsimp only at HQ1 HQ2
      clear hop1 hop2 HO HX HY
      go_wp2_with fail
      refine region_rest (fun QQ => ∀ (q1 q2 : Nat) (Y : World), Ext wr Y → Hid (Blk Y q1 64 #[.int .i64 f, .int .i64 d, .int .i64 g, .int .i64 tl, .int .i64 th, .int .i64 sl, .int .i64 sh, .slice X1 os.length g1]) → Hid (Blk Y q2 64 #[.int .i64 f, .int .i64 d, .int .i64 g, .int .i64 tl, .int .i64 th, .int .i64 sl, .int .i64 sh, .slice Y1 os.length g2]) → QQ .normal { tmps := #[.agg #[.int .i64 m, .slice (some ⟨x1, f1, none⟩) n c1], .agg #[.int .i64 m, .slice (some ⟨y1, f2, none⟩) n c2], .pointer (some ⟨w.heap.size, 0, none⟩), .pointer (some ⟨w.heap.size + 1, 0, none⟩), u4, .int .i64 (k : Int), .pointer (some ⟨q1, 0, none⟩), .pointer (some ⟨q2, 0, none⟩), .pointer (some ⟨w.heap.size, 0, none⟩), .int .i64 m, .pointer (some ⟨w.heap.size + 1, 0, none⟩), .int .i64 m, .bool false, .bool false, .pointer (some ⟨w.heap.size, 1, none⟩), .slice (some ⟨x1, f1, none⟩) n c1, .int .i64 (n : Int), .pointer (some ⟨w.heap.size + 1, 1, none⟩), .slice (some ⟨y1, f2, none⟩) n c2, .int .i64 (n : Int), .bool false, .bool false, .int .i64 (k : Int), .pointer (some ⟨w.heap.size, 1, none⟩), .slice (some ⟨x1, f1, none⟩) n c1, .int .i64 (n : Int), .bool true, u27, u28, .pointer (some ⟨w.heap.size, 1, none⟩), .slice (some ⟨x1, f1, none⟩) n c1, .int .i64 (k : Int), .pointer (some ⟨x1, f1 + k * 8, none⟩), .agg #[.int .i64 f, .int .i64 d, .int .i64 g, .int .i64 tl, .int .i64 th, .int .i64 sl, .int .i64 sh, .slice X1 os.length g1], .pointer (some ⟨w.heap.size + 1, 1, none⟩), .slice (some ⟨y1, f2, none⟩) n c2, .int .i64 (k : Int), .pointer (some ⟨y1, f2 + k * 8, none⟩), .agg #[.int .i64 f, .int .i64 d, .int .i64 g, .int .i64 tl, .int .i64 th, .int .i64 sl, .int .i64 sh, .slice Y1 os.length g2], u39, u40, u41, u42, u43, u44, u45, u46, u47, u48, u49, u50, u51, u52, u53, u54, u55, u56, u57, u58, u59, u60, u61, u62, u63, u64, u65, u66, u67, u68, u69, u70, u71, u72, u73, u74, u75, u76, u77, u78, u79], defers := [] } Y) ?rest (fun REST => ?_)
      case rest =>
        intro q1 q2 Y hE O1 O2
        have EE := E.trans hE
        have J0 := hid (K0.out.ext hE)
        have J1 := hid (K1.out.ext hE)
        obtain ⟨r0, r1, r2, r3, r4, r5, r6, r7⟩ : _ ∧ _ ∧ _ ∧ _ ∧ _ ∧ _ ∧ _ ∧ _ := ⟨O1.out.cell 0, O1.out.cell 1, O1.out.cell 2, O1.out.cell 3, O1.out.cell 4, O1.out.cell 5, O1.out.cell 6, O1.out.cell 7⟩
        obtain ⟨s0, s1, s2, s3, s4, s5, s6, s7⟩ : _ ∧ _ ∧ _ ∧ _ ∧ _ ∧ _ ∧ _ ∧ _ := ⟨O2.out.cell 0, O2.out.cell 1, O2.out.cell 2, O2.out.cell 3, O2.out.cell 4, O2.out.cell 5, O2.out.cell 6, O2.out.cell 7⟩
        have rz := O1.out.lt
        have sz := O2.out.lt
        simp only [List.getElem?_toArray, List.getElem?_cons_zero, List.getElem?_cons_succ] at r0 r1 r2 r3 r4 r5 r6 r7 s0 s1 s2 s3 s4 s5 s6 s7
        have HSS := hid (sameSpans_any X1 Y1 os.length os.length g1 g2 os os rfl rfl HO1.out HO1.out Y (HP1.out.ext hE) (HP2.out.ext hE))
        simp only [decide_true] at HSS
        clear a0 a1 b0 b1 z0 z1 d0 d1 d2 d3 d4 d5 d6 d7 e0 e1 e2 e3 e4 e5 e6 e7 K0 K1 O1 O2 HQ1 HQ2 HP1 HP2
        go_wp2_with fail
        refine HSS.out.mono ?_
        rintro e w5 ⟨rfl, hE5⟩
        have E5 := hid (EE.trans hE5)
        have N0 := hid (J0.out.ext hE5)
        have N1 := hid (J1.out.ext hE5)
        go_wp2
        go_roundw
        case rel => exact ⟨E5.out, N0, N1, k + 1, by omega, by go_num⟩
        case measure => simp [intOf]; omega
      refine wp_region_held_drew (S := fun w' => (∀ b o, b < wr.heap.size → w'.cell? ⟨b, o, none⟩ = wr.cell? ⟨b, o, none⟩) ∧ wr.heap.size ≤ w'.heap.size ∧ Ext wr w') (by kernel_rfl) ?hS0 (fun hHeld => ?_)
      case hS0 => exact sK (Ext.drew (Ext.refl _))
      have X0 : Ext wr wr.drew := Ext.drew (Ext.refl wr)
      have EX := X0
      obtain ⟨X, hX⟩ : ∃ X, wr.drew = X := ⟨_, rfl⟩
      rw [hX] at EX hHeld ⊢
      clear hX X0
      refine tk1 (i := 0) (v := ?v0a) rfl ?y0a ?r0a
      case y0a => (intro w' hSw; (try dsimp only at hSw); go_simp; (try with_reducible rfl))
      try simp only [Act.put, sq1, sq2, sq3, sq4, sq5, sq6]
      refine tk1 (i := 1) (v := ?v1a) rfl ?y1a ?r1a
      case y1a => (intro w' hSw; (try dsimp only at hSw); go_simp; (try with_reducible rfl))
      try simp only [Act.put, sq1, sq2, sq3, sq4, sq5, sq6]
      refine tk1 (i := 2) (v := ?v2a) rfl ?y2a ?r2a
      case y2a => (intro w' hSw; (try dsimp only at hSw); go_simp; (try with_reducible rfl))
      try simp only [Act.put, sq1, sq2, sq3, sq4, sq5, sq6]
      refine tk1 (i := 3) (v := ?v3a) rfl ?y3a ?r3a
      case y3a => (intro w' hSw; (try dsimp only at hSw); go_simp; (try with_reducible rfl))
      try simp only [Act.put, sq1, sq2, sq3, sq4, sq5, sq6]
      refine tk1 (i := 4) (v := ?v4a) rfl ?y4a ?r4a
      case y4a => (intro w' hSw; (try dsimp only at hSw); go_simp; (try with_reducible rfl))
      try simp only [Act.put, sq1, sq2, sq3, sq4, sq5, sq6]
      refine tk1 (i := 5) (v := ?v5a) rfl ?y5a ?r5a
      case y5a => (intro w' hSw; (try dsimp only at hSw); go_simp; (try with_reducible rfl))
      try simp only [Act.put, sq1, sq2, sq3, sq4, sq5, sq6]
      refine tk1 (i := 6) (v := ?v6a) rfl ?y6a ?r6a
      case y6a => (intro w' hSw; (try dsimp only at hSw); go_simp; (try with_reducible rfl))
      try simp only [Act.put, sq1, sq2, sq3, sq4, sq5, sq6]
      refine tk1 (i := 7) (v := ?v7a) rfl ?y7a ?r7a
      case y7a => (intro w' hSw; (try dsimp only at hSw); go_simp; (try with_reducible rfl))
      try simp only [Act.put, sq1, sq2, sq3, sq4, sq5, sq6]
      refine tk1 (i := 8) (v := ?v8a) rfl ?y8a ?r8a
      case y8a => (intro w' hSw; (try dsimp only at hSw); go_simp; (try with_reducible rfl))
      try simp only [Act.put, sq1, sq2, sq3, sq4, sq5, sq6]
      refine tk1 (i := 9) (v := ?v9a) rfl ?y9a ?r9a
      case y9a => (intro w' hSw; (try dsimp only at hSw); go_simp; (try with_reducible rfl))
      try simp only [Act.put, sq1, sq2, sq3, sq4, sq5, sq6]
      refine wpAnyH_ready (rs := [10, 11]) (by kernel_rfl) (by simp) ?_
      refine AllReadyH.cons (o := _) rfl (fun K hK => ?_) (AllReadyH.cons (o := _) rfl (fun K hK => ?_) AllReadyH.nil)
      · go_simp
        obtain ⟨Y, hY⟩ := absW EX (.cells #[.int .i64 0, .int .i64 0, .int .i64 0, .int .i64 0, .int .i64 0, .int .i64 0, .int .i64 0, .slice none 0 0] 64)
        have O1 := hid (blkNew EX 64 #[.int .i64 0, .int .i64 0, .int .i64 0, .int .i64 0, .int .i64 0, .int .i64 0, .int .i64 0, .slice none 0 0])
        have L1 := EX.size
        (try have HQQ := hid (Nat.ne_of_lt (O2.out.lt)))
        (try replace O2 := hid (O2.out.alloc (.cells #[.int .i64 0, .int .i64 0, .int .i64 0, .int .i64 0, .int .i64 0, .int .i64 0, .int .i64 0, .slice none 0 0] 64)))
        replace EX := EX.alloc (.cells #[.int .i64 0, .int .i64 0, .int .i64 0, .int .i64 0, .int .i64 0, .int .i64 0, .int .i64 0, .slice none 0 0] 64)
        rw [hY] at EX O1 ⊢
        (try rw [hY] at O2)
        clear hHeld hY
        refine hK.out _ _ (sK EX) (fun hHeld => ?_)
        clear hK K
        try simp only [Act.put, sq1, sq2, sq3, sq4, sq5, sq6]
        refine wpAnyH_ready (rs := [11]) (by kernel_rfl) (by simp) ?_
        refine AllReadyH.cons (o := _) rfl (fun K hK => ?_) AllReadyH.nil
        go_simp
        obtain ⟨Y, hY⟩ := absW EX (.cells #[.int .i64 0, .int .i64 0, .int .i64 0, .int .i64 0, .int .i64 0, .int .i64 0, .int .i64 0, .slice none 0 0] 64)
        have O2 := hid (blkNew EX 64 #[.int .i64 0, .int .i64 0, .int .i64 0, .int .i64 0, .int .i64 0, .int .i64 0, .int .i64 0, .slice none 0 0])
        have L2 := EX.size
        (try have HQQ := hid (Nat.ne_of_lt (O1.out.lt)))
        (try replace O1 := hid (O1.out.alloc (.cells #[.int .i64 0, .int .i64 0, .int .i64 0, .int .i64 0, .int .i64 0, .int .i64 0, .int .i64 0, .slice none 0 0] 64)))
        replace EX := EX.alloc (.cells #[.int .i64 0, .int .i64 0, .int .i64 0, .int .i64 0, .int .i64 0, .int .i64 0, .int .i64 0, .slice none 0 0] 64)
        rw [hY] at EX O2 ⊢
        (try rw [hY] at O1)
        clear hHeld hY
        refine hK.out _ _ (sK EX) (fun hHeld => ?_)
        clear hK K
        try simp only [Act.put, sq1, sq2, sq3, sq4, sq5, sq6]
        refine wpAnyH_ready (rs := [12]) (by kernel_rfl) (by simp) ?_
        refine AllReadyH.cons (o := _) rfl (fun K hK => ?_) AllReadyH.nil
        refine wp_store_mid 64 _ _ rfl _ 0 #[.int .i64 f, .int .i64 d, .int .i64 g, .int .i64 tl, .int .i64 th, .int .i64 sl, .int .i64 sh, .slice X1 os.length g1] rfl rfl (blk_there O1.out rfl) infoPt1 HQ1.out ?_
        have EX2 := ext_setCells EX L1 [.int .i64 f, .int .i64 d, .int .i64 g, .int .i64 tl, .int .i64 th, .int .i64 sl, .int .i64 sh, .slice X1 os.length g1] 0
        replace O1 := hid (O1.out.fill [.int .i64 f, .int .i64 d, .int .i64 g, .int .i64 tl, .int .i64 th, .int .i64 sl, .int .i64 sh, .slice X1 os.length g1] 0)
        (try replace O2 := hid (Blk.others (by first | exact HQQ.out | exact fun e => HQQ.out e.symm) [.int .i64 f, .int .i64 d, .int .i64 g, .int .i64 tl, .int .i64 th, .int .i64 sl, .int .i64 sh, .slice X1 os.length g1] 0 O2.out))
        simp only [fillA, List.setIfInBounds_toArray, List.set_cons_zero, List.set_cons_succ] at O1
        obtain ⟨Y, hY⟩ := absS EX2
        have hY2 : World.setCells _ _ 0 (#[.int .i64 f, .int .i64 d, .int .i64 g, .int .i64 tl, .int .i64 th, .int .i64 sl, .int .i64 sh, .slice X1 os.length g1] : Array Value).toList = Y := hY
        first | rw [hY2] | rw [hY]
        rw [hY] at EX2 O1
        (try rw [hY] at O2)
        clear hHeld hY hY2 EX
        have EX := EX2
        clear EX2
        refine hK.out _ _ (sK EX) (fun hHeld => ?_)
        clear hK K
        try simp only [Act.put, sq1, sq2, sq3, sq4, sq5, sq6]
        refine wpAnyH_ready (rs := [13]) (by kernel_rfl) (by simp) ?_
        refine AllReadyH.cons (o := _) rfl (fun K hK => ?_) AllReadyH.nil
        refine wp_store_mid 64 _ _ rfl _ 0 #[.int .i64 f, .int .i64 d, .int .i64 g, .int .i64 tl, .int .i64 th, .int .i64 sl, .int .i64 sh, .slice Y1 os.length g2] rfl rfl (blk_there O2.out rfl) infoPt1 HQ2.out ?_
        have EX2 := ext_setCells EX L2 [.int .i64 f, .int .i64 d, .int .i64 g, .int .i64 tl, .int .i64 th, .int .i64 sl, .int .i64 sh, .slice Y1 os.length g2] 0
        replace O2 := hid (O2.out.fill [.int .i64 f, .int .i64 d, .int .i64 g, .int .i64 tl, .int .i64 th, .int .i64 sl, .int .i64 sh, .slice Y1 os.length g2] 0)
        (try replace O1 := hid (Blk.others (by first | exact HQQ.out | exact fun e => HQQ.out e.symm) [.int .i64 f, .int .i64 d, .int .i64 g, .int .i64 tl, .int .i64 th, .int .i64 sl, .int .i64 sh, .slice Y1 os.length g2] 0 O1.out))
        simp only [fillA, List.setIfInBounds_toArray, List.set_cons_zero, List.set_cons_succ] at O2
        obtain ⟨Y, hY⟩ := absS EX2
        have hY2 : World.setCells _ _ 0 (#[.int .i64 f, .int .i64 d, .int .i64 g, .int .i64 tl, .int .i64 th, .int .i64 sl, .int .i64 sh, .slice Y1 os.length g2] : Array Value).toList = Y := hY
        first | rw [hY2] | rw [hY]
        rw [hY] at EX2 O2
        (try rw [hY] at O1)
        clear hHeld hY hY2 EX
        have EX := EX2
        clear EX2
        refine hK.out _ _ (sK EX) (fun hHeld => ?_)
        clear hK K
        try simp only [Act.put, sq1, sq2, sq3, sq4, sq5, sq6]
        refine wpAnyH_done (by kernel_rfl) ?_ _
        exact REST _ _ _ EX O1 O2
      · go_simp
        obtain ⟨Y, hY⟩ := absW EX (.cells #[.int .i64 0, .int .i64 0, .int .i64 0, .int .i64 0, .int .i64 0, .int .i64 0, .int .i64 0, .slice none 0 0] 64)
        have O2 := hid (blkNew EX 64 #[.int .i64 0, .int .i64 0, .int .i64 0, .int .i64 0, .int .i64 0, .int .i64 0, .int .i64 0, .slice none 0 0])
        have L2 := EX.size
        (try have HQQ := hid (Nat.ne_of_lt (O1.out.lt)))
        (try replace O1 := hid (O1.out.alloc (.cells #[.int .i64 0, .int .i64 0, .int .i64 0, .int .i64 0, .int .i64 0, .int .i64 0, .int .i64 0, .slice none 0 0] 64)))
        replace EX := EX.alloc (.cells #[.int .i64 0, .int .i64 0, .int .i64 0, .int .i64 0, .int .i64 0, .int .i64 0, .int .i64 0, .slice none 0 0] 64)
        rw [hY] at EX O2 ⊢
        (try rw [hY] at O1)
        clear hHeld hY
        refine hK.out _ _ (sK EX) (fun hHeld => ?_)
        clear hK K
        try simp only [Act.put, sq1, sq2, sq3, sq4, sq5, sq6]
        refine wpAnyH_ready (rs := [10]) (by kernel_rfl) (by simp) ?_
        refine AllReadyH.cons (o := _) rfl (fun K hK => ?_) AllReadyH.nil
        go_simp
        obtain ⟨Y, hY⟩ := absW EX (.cells #[.int .i64 0, .int .i64 0, .int .i64 0, .int .i64 0, .int .i64 0, .int .i64 0, .int .i64 0, .slice none 0 0] 64)
        have O1 := hid (blkNew EX 64 #[.int .i64 0, .int .i64 0, .int .i64 0, .int .i64 0, .int .i64 0, .int .i64 0, .int .i64 0, .slice none 0 0])
        have L1 := EX.size
        (try have HQQ := hid (Nat.ne_of_lt (O2.out.lt)))
        (try replace O2 := hid (O2.out.alloc (.cells #[.int .i64 0, .int .i64 0, .int .i64 0, .int .i64 0, .int .i64 0, .int .i64 0, .int .i64 0, .slice none 0 0] 64)))
        replace EX := EX.alloc (.cells #[.int .i64 0, .int .i64 0, .int .i64 0, .int .i64 0, .int .i64 0, .int .i64 0, .int .i64 0, .slice none 0 0] 64)
        rw [hY] at EX O1 ⊢
        (try rw [hY] at O2)
        clear hHeld hY
        refine hK.out _ _ (sK EX) (fun hHeld => ?_)
        clear hK K
        try simp only [Act.put, sq1, sq2, sq3, sq4, sq5, sq6]
        refine wpAnyH_ready (rs := [12]) (by kernel_rfl) (by simp) ?_
        refine AllReadyH.cons (o := _) rfl (fun K hK => ?_) AllReadyH.nil
        refine wp_store_mid 64 _ _ rfl _ 0 #[.int .i64 f, .int .i64 d, .int .i64 g, .int .i64 tl, .int .i64 th, .int .i64 sl, .int .i64 sh, .slice X1 os.length g1] rfl rfl (blk_there O1.out rfl) infoPt1 HQ1.out ?_
        have EX2 := ext_setCells EX L1 [.int .i64 f, .int .i64 d, .int .i64 g, .int .i64 tl, .int .i64 th, .int .i64 sl, .int .i64 sh, .slice X1 os.length g1] 0
        replace O1 := hid (O1.out.fill [.int .i64 f, .int .i64 d, .int .i64 g, .int .i64 tl, .int .i64 th, .int .i64 sl, .int .i64 sh, .slice X1 os.length g1] 0)
        (try replace O2 := hid (Blk.others (by first | exact HQQ.out | exact fun e => HQQ.out e.symm) [.int .i64 f, .int .i64 d, .int .i64 g, .int .i64 tl, .int .i64 th, .int .i64 sl, .int .i64 sh, .slice X1 os.length g1] 0 O2.out))
        simp only [fillA, List.setIfInBounds_toArray, List.set_cons_zero, List.set_cons_succ] at O1
        obtain ⟨Y, hY⟩ := absS EX2
        have hY2 : World.setCells _ _ 0 (#[.int .i64 f, .int .i64 d, .int .i64 g, .int .i64 tl, .int .i64 th, .int .i64 sl, .int .i64 sh, .slice X1 os.length g1] : Array Value).toList = Y := hY
        first | rw [hY2] | rw [hY]
        rw [hY] at EX2 O1
        (try rw [hY] at O2)
        clear hHeld hY hY2 EX
        have EX := EX2
        clear EX2
        refine hK.out _ _ (sK EX) (fun hHeld => ?_)
        clear hK K
        try simp only [Act.put, sq1, sq2, sq3, sq4, sq5, sq6]
        refine wpAnyH_ready (rs := [13]) (by kernel_rfl) (by simp) ?_
        refine AllReadyH.cons (o := _) rfl (fun K hK => ?_) AllReadyH.nil
        refine wp_store_mid 64 _ _ rfl _ 0 #[.int .i64 f, .int .i64 d, .int .i64 g, .int .i64 tl, .int .i64 th, .int .i64 sl, .int .i64 sh, .slice Y1 os.length g2] rfl rfl (blk_there O2.out rfl) infoPt1 HQ2.out ?_
        have EX2 := ext_setCells EX L2 [.int .i64 f, .int .i64 d, .int .i64 g, .int .i64 tl, .int .i64 th, .int .i64 sl, .int .i64 sh, .slice Y1 os.length g2] 0
        replace O2 := hid (O2.out.fill [.int .i64 f, .int .i64 d, .int .i64 g, .int .i64 tl, .int .i64 th, .int .i64 sl, .int .i64 sh, .slice Y1 os.length g2] 0)
        (try replace O1 := hid (Blk.others (by first | exact HQQ.out | exact fun e => HQQ.out e.symm) [.int .i64 f, .int .i64 d, .int .i64 g, .int .i64 tl, .int .i64 th, .int .i64 sl, .int .i64 sh, .slice Y1 os.length g2] 0 O1.out))
        simp only [fillA, List.setIfInBounds_toArray, List.set_cons_zero, List.set_cons_succ] at O2
        obtain ⟨Y, hY⟩ := absS EX2
        have hY2 : World.setCells _ _ 0 (#[.int .i64 f, .int .i64 d, .int .i64 g, .int .i64 tl, .int .i64 th, .int .i64 sl, .int .i64 sh, .slice Y1 os.length g2] : Array Value).toList = Y := hY
        first | rw [hY2] | rw [hY]
        rw [hY] at EX2 O2
        (try rw [hY] at O1)
        clear hHeld hY hY2 EX
        have EX := EX2
        clear EX2
        refine hK.out _ _ (sK EX) (fun hHeld => ?_)
        clear hK K
        try simp only [Act.put, sq1, sq2, sq3, sq4, sq5, sq6]
        refine wpAnyH_done (by kernel_rfl) ?_ _
        exact REST _ _ _ EX O1 O2
    · obtain rfl : k = n := by omega
      go_wp2
      go_ret
      exact ⟨rfl, E⟩
end Go.Proofs.YtecamnhnjmldcaaGreatDoor
/- One more observation in a slice of the call's own; all of them. -/
set_option linter.unusedSimpArgs false
set_option linter.unusedVariables false
namespace Go.Proofs.YtecamnhnjmldcaaGreatDoor
open Go.RowKit
theorem oneSg : ∀ y : Sg, ∀ u ∈ gSg y, u.oneCell' = true := by
  intro y u hu
  simp only [gSg, List.mem_cons, List.not_mem_nil, or_false] at hu
  rcases hu with rfl | rfl | rfl | rfl <;> rfl
theorem infoSg : (Tryz.prog.info? 71).map (fun i => (i.zero, i.size, i.bytes)) = some (some (.agg #[.int .i64 0, .int .i64 0, .int .i64 0, .int .i64 0]), 4, 32) := by kernel_rfl
theorem wp_app1Sg {o : Oper} {a : Act} {K : Act → World → Prop} {Q : Exit → Act → World → Prop} (w : World) (s x : Operand)
    (hop : o.op = Op.call { callee := Callee.builtin Builtin.append, args := #[s, x], argTypes := #[25, 25] }) (B : Nat) (v : Value) (xs : List Sg) (hs : a.eval s = v) (hown : Ownl 71 4 gSg w B v xs)
    (z : Nat) (y : Sg) (hx : a.eval x = .slice (some ⟨z, 0, none⟩) 1 1) (hy : Blk w z 71 #[.int .i64 y.hour, .int .i64 y.wind, .int .i64 y.rain, .int .i64 y.temp]) (hl : xs.length ≤ 10000) (hB : B ≤ w.heap.size)
    (hK : ∀ v' w', Ownl 71 4 gSg w' B v' (xs ++ [y]) → w.grownBy w' v.ownBlock → K (a.put o.dst v') w') : o.wp Tryz.prog a w K Q := by
  obtain ⟨i0, hi, hz0, hz1, hz2⟩ := info_parts infoSg
  refine wp_append_own w s x 25 hop B 71 i0 _ 4 32 Tryz.underlying25 hi hz0 hz1 hz2 rfl (by decide) v xs.length (xs.flatMap gSg) hs hown ⟨z, 0, none⟩ 1 1 (gSg y) hx rfl ?_ (oneSg y) (by unfold maxLen; omega) (by omega) hB (fun v' w' h1 h2 _ => hK v' w' (Ownl.snoc h1) h2)
  intro j u hj
  rw [addr_add, Nat.zero_add, hy.cell]
  match j, hj with
  | 0, hj => exact hj
  | 1, hj => exact hj
  | 2, hj => exact hj
  | 3, hj => exact hj
  | j + 4, hj => simp [gSg] at hj
theorem wp_appAllSg {o : Oper} {a : Act} {K : Act → World → Prop} {Q : Exit → Act → World → Prop} (w : World) (l x : Operand)
    (ho : o.op = .call { callee := .builtin .append, args := #[l, x], argTypes := #[25, 25] }) (B z : Nat) (A : Option Addr) (c : Nat) (os : List Sg) (hs : a.eval l = .slice (some ⟨z, 0, none⟩) 0 0) (hz : Blk w z 71 #[]) (hBz : B ≤ z)
    (n : Nat) (hn : os.length = n) (hx : a.eval x = .slice A n c) (hO : SgsAt w A os) (hl : n ≤ 10000)
    (h : ∀ v' w', Ownl 71 4 gSg w' B v' os → w.grownBy w' (some z) → K (a.put o.dst v') w') : o.wp Tryz.prog a w K Q := by
  subst hn
  obtain ⟨i0, hi, hz0, hz1, hz2⟩ := info_parts infoSg
  exact wp_appendAllG zeroSg w l x 25 71 ho Tryz.underlying25 hi hz0 hz1 hz2 rfl (by decide) (by decide) (fun _ => rfl) oneSg B z A c os hs hz hBz hx (flat_sgs.2 hO) hl h
theorem region_restA {P : Program} {c : Code} {Q : Exit → Act → World → Prop} {a : Act} {w : World} (R : (Exit → Act → World → Prop) → Act → Prop) (h1 : R Q a) (h2 : R Q a → Code.wp P c Q a w) : Code.wp P c Q a w := h2 h1
end Go.Proofs.YtecamnhnjmldcaaGreatDoor
/- FarRules: what it says of a net and rules if it says no. -/
set_option linter.unusedSimpArgs false
set_option linter.unusedVariables false
namespace Go.Proofs.YtecamnhnjmldcaaGreatDoor
open Go.RowKit
set_option maxHeartbeats 2000000 in
set_option maxRecDepth 100000 in
theorem lfarRules_any (m : Int) (ps : List Pt) (NA : Option Addr) (nn nc : Nat) (hpn : ps.length = nn) (RA : Option Addr) (rn rc : Nat) (path : Int) (w : World) (hp : PathsAt w NA ps) :
    Calls Tryz.prog 17 #[.agg #[.int .i64 m, .slice NA nn nc, .slice RA rn rc, .int .i64 path]] w fun e w' => (∃ B, e = .returned (.bool B) ∧ (B = false → NearOk m ps ∧ rn ≤ 14)) ∧ Ext w w' := by
  have HF := hid (fun (W : World) (hW : Ext w W) => far2_any m NA nn nc ps hpn W (hp.ext hW))
  have B0 := hid (show Blk _ _ _ _ from blk_last w (.cells #[.int .i64 m, .slice NA nn nc, .slice RA rn rc, .int .i64 path] 50))
  clear hp
  go_enter Tryz.func17, Tryz.ntmps17
  go_wp2_with fail
  refine (HF.out _ (by (repeat' (first | with_reducible assumption | with_reducible exact Ext.refl _ | with_reducible refine Ext.alloc ?_ _ | with_reducible refine Ext.set ?_ ?_ _ | with_reducible refine Ext.drew ?_ | with_reducible refine Ext.drewN ?_ _ | with_reducible refine Ext.trans ?_ (by assumption) | (dsimp only; omega))))).mono ?_
  rintro e w2 ⟨⟨B, rfl, hB⟩, hE⟩
  have E : Ext w w2 := by (repeat' (first | with_reducible assumption | with_reducible exact Ext.refl _ | with_reducible refine Ext.alloc ?_ _ | with_reducible refine Ext.set ?_ ?_ _ | with_reducible refine Ext.drew ?_ | with_reducible refine Ext.drewN ?_ _ | with_reducible refine Ext.trans ?_ (by assumption) | (dsimp only; omega)))
  have K0 := hid (B0.out.ext hE)
  obtain ⟨a0, a1, a2, a3⟩ : _ ∧ _ ∧ _ ∧ _ := ⟨K0.out.cell 0, K0.out.cell 1, K0.out.cell 2, K0.out.cell 3⟩
  have z0 := K0.out.lt
  simp only [List.getElem?_toArray, List.getElem?_cons_zero, List.getElem?_cons_succ] at a0 a1 a2 a3
  have HB := hid hB
  clear hB HF B0 hE
  cases B
  · by_cases h14 : rn ≤ 14
    · have hd : decide ((14 : Int) < (rn : Int)) = false := decide_eq_false (by omega)
      go_wp2
      go_ret
      exact ⟨⟨_, rfl, fun _ => ⟨HB.out (by first | rfl | trivial), h14⟩⟩, E⟩
    · go_wp2
      go_ret
      exact ⟨⟨_, rfl, fun h => by first | (cases h; done) | (simp at h; omega)⟩, E⟩
  · go_wp2
    go_ret
    exact ⟨⟨_, rfl, fun h => by cases h⟩, E⟩
end Go.Proofs.YtecamnhnjmldcaaGreatDoor
