/- The damage of a rope on a day. -/
import Derived.Test.YtggggnjibedgaaaGreatB07
set_option linter.unusedSimpArgs false
set_option linter.unusedVariables false
namespace Go.Proofs.YtggggnjibedgaaaGreat
open Go.RowKit
theorem region_restA {P : Program} {c : Code} {Q : Exit → Act → World → Prop} {a : Act} {w : World} (R : (Exit → Act → World → Prop) → Act → Prop) (h1 : R Q a) (h2 : R Q a → Code.wp P c Q a w) : Code.wp P c Q a w := h2 h1
theorem sG {U X : World} (e : Ext U X) (G : Nat) : (∀ b o, b < U.heap.size → ¬ b = G → X.cell? ⟨b, o, none⟩ = U.cell? ⟨b, o, none⟩) ∧ U.heap.size ≤ X.heap.size := ⟨fun _ _ hb _ => e.cell hb, e.size⟩
theorem sGc {U X : World} (e : Ext U X) (G o : Nat) (v : Value) : (∀ b p, b < U.heap.size → ¬ b = G → (X.setCell ⟨G, o, none⟩ v).cell? ⟨b, p, none⟩ = U.cell? ⟨b, p, none⟩) ∧ U.heap.size ≤ (X.setCell ⟨G, o, none⟩ v).heap.size :=
  ⟨fun b p hb hn => (World.cell?_setCell_other X ⟨G, o, none⟩ ⟨b, p, none⟩ v (fun e => by injection e with e; first | exact hn e | exact hn e.symm)).trans (e.cell hb), by simpa using e.size⟩
theorem blk_at2 {W : World} {b : Nat} {t : TypeId} {x0 x1 : Value} (h : Blk W b t #[x0, x1]) : W.cell? ⟨b, 0, none⟩ = some x0 ∧ W.cell? ⟨b, 1, none⟩ = some x1 ∧ W.frozen? ⟨b, 0, none⟩ = false ∧ W.frozen? ⟨b, 1, none⟩ = false ∧ b < W.heap.size := ⟨h.cell 0, h.cell 1, h.fro 0, h.fro 1, h.lt⟩
set_option maxRecDepth 100000 in
set_option maxHeartbeats 20000000 in
theorem damage_any (m : Md) (r : Ro) (A : Option Addr) (c : Nat) (B : Option Addr) (d : Nat) (D : Int) (hm : mdB m = true) (hr : roB r = true) (w : World) (hx : WrsAt w A m.wears) (hy : FlsAt w B r.falls) :
    Calls Tryz.prog 57 #[cordV m r A c B d, .int .i64 D] w fun e w' => e = .returned (.agg #[.int .i64 (dmgL m.wears D r.falls).1, .int .i64 (dmgL m.wears D r.falls).2]) ∧ Ext w w' := by
  have hmp := mdB_parts hm
  have hrp := roB_parts hr
  have HY := hid hy
  have HB := hid (harmN_bd hm)
  have HK := hid (dmgK_bd hm D r.falls)
  have HN := hid (show r.falls.length = r.falls.length from rfl)
  have HFL := hid hrp.2.2.2.2.1
  have hl10 := hrp.2.2.2.1
  have hl6 := hmp.2.2.2.1
  have HD := hid (fun (f : Int) (W : World) (hE : Ext w W) => damageOf_any m r A c B d f (by omega) W (hx.ext hE))
  have HF := hid (fun (h o : Int) (a1 : 0 ≤ h) (a2 : h ≤ 100000) (a3 : 1 ≤ o) (a4 : o ≤ 100000) (W : World) => factor_any h o a1 a2 a3 a4 W)
  have HS := hid (fun k (h : k < r.falls.length) => dmgK_succ m.wears D r.falls k h)
  have HE := hid (fun k (h : r.falls.length ≤ k) => dmgK_end m.wears D r.falls k h)
  have H0 := hid (dmgK_zero m.wears D r.falls)
  clear hmp hrp hx hy hm hr
  unfold cordV at *
  obtain ⟨sh, us, be, ws⟩ := m
  obtain ⟨ma, fi, le, fs⟩ := r
  dsimp only at *
  generalize ws.length = n at *
  obtain ⟨k, hk⟩ : ∃ k, fs.length = k := ⟨_, rfl⟩
  replace HN := hid hk
  rw [hk] at hl10 HS HE HK HD ⊢
  clear hk hl6
  obtain ⟨S, hS⟩ : ∃ S, dmgL ws D fs = S := ⟨_, rfl⟩
  rw [hS] at HE ⊢
  clear hS
  have Z := blks3 w (.cells #[.int .i64 sh, .int .i64 us, .int .i64 be, .slice A n c, .int .i64 ma, .int .i64 fi, .int .i64 le, .slice B k d] 102) (.cells #[.int .i64 0, .int .i64 0] 33) (.cells #[.int .i64 0, .int .i64 0] 33)
  have Z1 := hid Z.1
  have Z2 := hid Z.2.1
  have Z3 := hid Z.2.2
  clear Z
  go_enter Tryz.func57, Tryz.ntmps57
  go_wp2
  go_loopw [12] (fun i wr => Ext w wr ∧ Hid (Blk wr w.heap.size 102 #[.int .i64 sh, .int .i64 us, .int .i64 be, .slice A n c, .int .i64 ma, .int .i64 fi, .int .i64 le, .slice B k d]) ∧ Hid (Blk wr (w.heap.size + 1) 33 #[.int .i64 0, .int .i64 0]) ∧
      ∃ j : Nat, j ≤ k ∧ i = .int .i64 j ∧ Hid (Blk wr (w.heap.size + 1 + 1) 33 #[.int .i64 (dmgK ws D fs j).1, .int .i64 (dmgK ws D fs j).2])) (fun i _ => k - (intOf i).toNat)
  case atStart => exact ⟨by (repeat' (first | with_reducible assumption | with_reducible exact Ext.refl _ | with_reducible refine Ext.alloc ?_ _ | with_reducible refine Ext.set ?_ ?_ _ | with_reducible refine Ext.drew ?_ | with_reducible refine Ext.drewN ?_ _ | with_reducible refine Ext.trans ?_ (by assumption) | (dsimp only; omega))), Z1, Z2, 0, Nat.zero_le _, rfl, by rw [H0.out]; exact Z3⟩
  case round =>
    obtain ⟨hE, K1, K2, j, hj, rfl, K3⟩ := hrel
    clear Z1 Z2 Z3
    by_cases hlt : j < k
    · obtain ⟨b, off, rfl, hb, hck⟩ := (HY.out.ext hE).at_ HN.out hlt
      have HSj := hid (HS.out j hlt)
      have hbd := HK.out j hj
      have hfl := HFL.out (fs.getD j zeroFl) (mem_at fs zeroFl j (by rw [HN.out]; exact hlt))
      clear HS HK HFL HE
      generalize fs.getD j zeroFl = x at *
      obtain ⟨fd, hl, hh, ol, oh⟩ := x
      obtain ⟨c0, c1, c2, c3, c4⟩ := hck
      unfold dmgS at HSj
      dsimp only at *
      have g1 := HB.out (facN hl oh)
      have g2 := HB.out (facN hh ol)
      have HF1 := hid (fun W => HF.out hl oh (by omega) (by omega) (by omega) (by omega) W)
      have HF2 := hid (fun W => HF.out hh ol (by omega) (by omega) (by omega) (by omega) W)
      clear HB HF hfl
      generalize facN hl oh = f1 at *
      generalize facN hh ol = f2 at *
      have HD1 := hid (fun W hE => HD.out f1 W hE)
      have HD2 := hid (fun W hE => HD.out f2 W hE)
      clear HD
      generalize harmN ws f1 = d1 at *
      generalize harmN ws f2 = d2 at *
      generalize dmgK ws D fs j = s at *
      obtain ⟨s1, s2⟩ := s
      dsimp only at *
      have kz := K1.out.lt
      by_cases hfd : fd ≤ D
      · rw [if_pos hfd] at HSj
        have hs1 : s1 + d1 ≤ 10000 := by omega
        have hs2 : s2 + d2 ≤ 10000 := by omega
        have hw1 : IntKind.i64.wrap (s1 + d1) = s1 + d1 := IntWalk.i64_in _ (by omega)
        have hw2 : IntKind.i64.wrap (s2 + d2) = s2 + d2 := IntWalk.i64_in _ (by omega)
        go_wp2_with fail
        refine wp_absW (fun X => Blk X wr.heap.size 75 #[.int .i64 fd, .int .i64 hl, .int .i64 hh, .int .i64 ol, .int .i64 oh] ∧ Ext wr X) ⟨blk_last _ _, by (repeat' (first | with_reducible assumption | with_reducible exact Ext.refl _ | with_reducible refine Ext.alloc ?_ _ | with_reducible refine Ext.set ?_ ?_ _ | with_reducible refine Ext.drew ?_ | with_reducible refine Ext.drewN ?_ _ | with_reducible refine Ext.trans ?_ (by assumption) | (dsimp only; omega)))⟩ ?_
        rintro U ⟨u1, EU⟩
        have V1 := hid u1
        have C1 := hid (show Blk U w.heap.size 102 _ from K1.out.ext EU)
        have C2 := hid (show Blk U (w.heap.size + 1) 33 _ from K2.out.ext EU)
        have V2 := hid (show Blk U (w.heap.size + 1 + 1) 33 _ from K3.out.ext EU)
        have HEU := hid (hE.trans EU)
        have nG : ¬ (wr.heap.size = w.heap.size + 1 + 1) := by have := K3.out.lt; omega
        have nH : ¬ (w.heap.size = w.heap.size + 1 + 1) := by omega
        clear K1 K2 K3 EU u1 c0 c1 c2 c3 c4 hE kz
        obtain ⟨x0, x1, x2, x3, x4⟩ : _ ∧ _ ∧ _ ∧ _ ∧ _ := ⟨V1.out.cell 0, V1.out.cell 1, V1.out.cell 2, V1.out.cell 3, V1.out.cell 4⟩
        obtain ⟨k0, k1, k2, k3, k4, k5, k6, k7⟩ : _ ∧ _ ∧ _ ∧ _ ∧ _ ∧ _ ∧ _ ∧ _ := ⟨C1.out.cell 0, C1.out.cell 1, C1.out.cell 2, C1.out.cell 3, C1.out.cell 4, C1.out.cell 5, C1.out.cell 6, C1.out.cell 7⟩
        have xz := V1.out.lt
        have kz := C1.out.lt
        simp only [List.getElem?_toArray, List.getElem?_cons_zero, List.getElem?_cons_succ] at x0 x1 x2 x3 x4 k0 k1 k2 k3 k4 k5 k6 k7
        refine region_restA (fun QQ a => ∀ (X : World), Ext U X → Hid (Blk X (w.heap.size + 1 + 1) 33 #[.int .i64 s1, .int .i64 s2]) →
          QQ .normal (((((((((((((a.put (some 20) (.pointer (some ⟨w.heap.size + 1 + 1, 0, none⟩))).put (some 21) (.int .i64 s1)).put (some 22) (.agg #[.int .i64 sh, .int .i64 us, .int .i64 be, .slice A n c, .int .i64 ma, .int .i64 fi, .int .i64 le, .slice (some ⟨b, off, none⟩) k d])).put (some 23) (.pointer (some ⟨wr.heap.size, 1, none⟩))).put (some 24) (.pointer (some ⟨wr.heap.size, 1, none⟩))).put (some 25) (.int .i64 hl)).put (some 26) (.pointer (some ⟨wr.heap.size, 3, none⟩))).put (some 27) (.pointer (some ⟨wr.heap.size, 4, none⟩))).put (some 28) (.int .i64 oh)).put (some 29) (.int .i64 f1)).put (some 30) (.int .i64 d1)).put (some 31) (.int .i64 (s1 + d1))).put (some 32) (.pointer (some ⟨w.heap.size + 1 + 1, 0, none⟩))) (X.setCell ⟨w.heap.size + 1 + 1, 0, none⟩ (.int .i64 (s1 + d1)))) ?resta (fun REST => ?_)
        case resta =>
          intro X hUX M2
          have L1 := hid (show Blk _ wr.heap.size 75 _ from (V1.out.ext hUX).other (p := ⟨w.heap.size + 1 + 1, 0, none⟩) (by exact nG) (.int .i64 (s1 + d1)))
          have L2 := hid (show Blk _ w.heap.size 102 _ from (C1.out.ext hUX).other (p := ⟨w.heap.size + 1 + 1, 0, none⟩) (by exact nH) (.int .i64 (s1 + d1)))
          have L3 := hid (show Blk _ (w.heap.size + 1) 33 _ from (C2.out.ext hUX).other (p := ⟨w.heap.size + 1 + 1, 0, none⟩) (by dsimp only; omega) (.int .i64 (s1 + d1)))
          have L4 := hid (show Blk _ (w.heap.size + 1 + 1) 33 #[.int .i64 (s1 + d1), .int .i64 s2] from by have h := M2.out.setAt 0 (.int .i64 (s1 + d1)); simp only [List.setIfInBounds_toArray, List.set_cons_zero] at h; exact h)
          have L5 := hid ((HEU.out.trans hUX).set (p := ⟨w.heap.size + 1 + 1, 0, none⟩) (by dsimp only; omega) (.int .i64 (s1 + d1)))
          obtain ⟨Z, hZ⟩ : ∃ Z, X.setCell ⟨w.heap.size + 1 + 1, 0, none⟩ (.int .i64 (s1 + d1)) = Z := ⟨_, rfl⟩
          rw [hZ] at L1 L2 L3 L4 L5 ⊢
          clear hZ hUX M2 HEU V1 C1 C2 V2 x0 x1 x2 x3 x4 k0 k1 k2 k3 k4 k5 k6 k7 xz kz
          have V1 := L1
          have C1 := L2
          have C2 := L3
          have V2 := L4
          have HEU := L5
          clear L1 L2 L3 L4 L5
          simp only [Act.put, sq1, sq2, sq3, sq4, sq5, sq6]
          go_wp2_with fail
          obtain ⟨x0, x1, x2, x3, x4⟩ : _ ∧ _ ∧ _ ∧ _ ∧ _ := ⟨V1.out.cell 0, V1.out.cell 1, V1.out.cell 2, V1.out.cell 3, V1.out.cell 4⟩
          obtain ⟨k0, k1, k2, k3, k4, k5, k6, k7⟩ : _ ∧ _ ∧ _ ∧ _ ∧ _ ∧ _ ∧ _ ∧ _ := ⟨C1.out.cell 0, C1.out.cell 1, C1.out.cell 2, C1.out.cell 3, C1.out.cell 4, C1.out.cell 5, C1.out.cell 6, C1.out.cell 7⟩
          have xz := V1.out.lt
          have kz := C1.out.lt
          simp only [List.getElem?_toArray, List.getElem?_cons_zero, List.getElem?_cons_succ] at x0 x1 x2 x3 x4 k0 k1 k2 k3 k4 k5 k6 k7
          refine region_restA (fun QQ a => ∀ (X : World), Ext Z X → Hid (Blk X (w.heap.size + 1 + 1) 33 #[.int .i64 (s1 + d1), .int .i64 s2]) →
            QQ .normal (((((((((((((a.put (some 33) (.pointer (some ⟨w.heap.size + 1 + 1, 1, none⟩))).put (some 34) (.int .i64 s2)).put (some 35) (.agg #[.int .i64 sh, .int .i64 us, .int .i64 be, .slice A n c, .int .i64 ma, .int .i64 fi, .int .i64 le, .slice (some ⟨b, off, none⟩) k d])).put (some 36) (.pointer (some ⟨wr.heap.size, 1, none⟩))).put (some 37) (.pointer (some ⟨wr.heap.size, 2, none⟩))).put (some 38) (.int .i64 hh)).put (some 39) (.pointer (some ⟨wr.heap.size, 3, none⟩))).put (some 40) (.pointer (some ⟨wr.heap.size, 3, none⟩))).put (some 41) (.int .i64 ol)).put (some 42) (.int .i64 f2)).put (some 43) (.int .i64 d2)).put (some 44) (.int .i64 (s2 + d2))).put (some 45) (.pointer (some ⟨w.heap.size + 1 + 1, 1, none⟩))) (X.setCell ⟨w.heap.size + 1 + 1, 1, none⟩ (.int .i64 (s2 + d2)))) ?restb (fun REST => ?_)
          case restb =>
            intro X hUX M2
            have L2 := hid (show Blk _ w.heap.size 102 _ from (C1.out.ext hUX).other (p := ⟨w.heap.size + 1 + 1, 1, none⟩) (by exact nH) (.int .i64 (s2 + d2)))
            have L3 := hid (show Blk _ (w.heap.size + 1) 33 _ from (C2.out.ext hUX).other (p := ⟨w.heap.size + 1 + 1, 1, none⟩) (by dsimp only; omega) (.int .i64 (s2 + d2)))
            have L4 := hid (show Blk _ (w.heap.size + 1 + 1) 33 #[.int .i64 (s1 + d1), .int .i64 (s2 + d2)] from by have h := M2.out.setAt 1 (.int .i64 (s2 + d2)); simp only [List.setIfInBounds_toArray, List.set_cons_zero, List.set_cons_succ] at h; exact h)
            have L5 := hid ((HEU.out.trans hUX).set (p := ⟨w.heap.size + 1 + 1, 1, none⟩) (by dsimp only; omega) (.int .i64 (s2 + d2)))
            obtain ⟨Y, hY⟩ : ∃ Y, X.setCell ⟨w.heap.size + 1 + 1, 1, none⟩ (.int .i64 (s2 + d2)) = Y := ⟨_, rfl⟩
            rw [hY] at L2 L3 L4 L5 ⊢
            clear hY hUX M2 HEU V1 C1 C2 V2 x0 x1 x2 x3 x4 k0 k1 k2 k3 k4 k5 k6 k7 xz kz
            simp only [Act.put, sq1, sq2, sq3, sq4, sq5, sq6]
            go_wp2
            go_roundw
            case rel => exact ⟨L5.out, L2, L3, j + 1, by omega, by go_num, hid (by rw [HSj.out]; exact L4.out)⟩
            case measure => simp [intOf]; omega
          refine wp_region_held_drew (S := fun w' => (∀ b o, b < Z.heap.size → ¬ b = w.heap.size + 1 + 1 → w'.cell? ⟨b, o, none⟩ = Z.cell? ⟨b, o, none⟩) ∧ Z.heap.size ≤ w'.heap.size) (by kernel_rfl) ?hS0 (fun hHeld => ?_)
          case hS0 => exact sG (Ext.drew (Ext.refl _)) _
          have EX : Ext Z Z.drew := Ext.drew (Ext.refl Z)
          replace V2 := hid (show Blk Z.drew (w.heap.size + 1 + 1) 33 #[.int .i64 (s1 + d1), .int .i64 s2] from V2.out.ext EX)
          obtain ⟨X, hX⟩ : ∃ X, Z.drew = X := ⟨_, rfl⟩
          rw [hX] at EX hHeld V2 ⊢
          clear hX
          refine tk1 (i := 0) (v := ?v0b) rfl ?y0b ?r0b
          case y0b => (intro w' hSw; (try dsimp only at hSw); go_simp; (try with_reducible rfl))
          try simp only [Act.put, sq1, sq2, sq3, sq4, sq5, sq6]
          refine tk1 (i := 2) (v := ?v2b) rfl ?y2b ?r2b
          case y2b => (intro w' hSw; (try dsimp only at hSw); go_simp; (try with_reducible rfl))
          try simp only [Act.put, sq1, sq2, sq3, sq4, sq5, sq6]
          refine tk1 (i := 3) (v := ?v3b) rfl ?y3b ?r3b
          case y3b => (intro w' hSw; (try dsimp only at hSw); go_simp; (try with_reducible rfl))
          try simp only [Act.put, sq1, sq2, sq3, sq4, sq5, sq6]
          refine tk1 (i := 4) (v := ?v4b) rfl ?y4b ?r4b
          case y4b => (intro w' hSw; (try dsimp only at hSw); go_simp; (try with_reducible rfl))
          try simp only [Act.put, sq1, sq2, sq3, sq4, sq5, sq6]
          refine tk1 (i := 5) (v := ?v5b) rfl ?y5b ?r5b
          case y5b => (intro w' hSw; (try dsimp only at hSw); go_simp; (try with_reducible rfl))
          try simp only [Act.put, sq1, sq2, sq3, sq4, sq5, sq6]
          refine tk1 (i := 6) (v := ?v6b) rfl ?y6b ?r6b
          case y6b => (intro w' hSw; (try dsimp only at hSw); go_simp; (try with_reducible rfl))
          try simp only [Act.put, sq1, sq2, sq3, sq4, sq5, sq6]
          refine tk1 (i := 7) (v := ?v7b) rfl ?y7b ?r7b
          case y7b => (intro w' hSw; (try dsimp only at hSw); go_simp; (try with_reducible rfl))
          try simp only [Act.put, sq1, sq2, sq3, sq4, sq5, sq6]
          refine tk1 (i := 8) (v := ?v8b) rfl ?y8b ?r8b
          case y8b => (intro w' hSw; (try dsimp only at hSw); go_simp; (try with_reducible rfl))
          try simp only [Act.put, sq1, sq2, sq3, sq4, sq5, sq6]
          refine wpAnyH_ready (rs := [1, 9]) (by kernel_rfl) (by simp) ?_
          refine AllReadyH.cons (o := _) rfl (fun K hK => ?_) (AllReadyH.cons (o := _) rfl (fun K hK => ?_) AllReadyH.nil)
          · have v9 := V2.out
            obtain ⟨y0, y1⟩ : _ ∧ _ := ⟨v9.cell 0, v9.cell 1⟩
            have yz := v9.lt
            simp only [List.getElem?_toArray, List.getElem?_cons_zero, List.getElem?_cons_succ] at y0 y1
            clear v9
            go_simp
            clear hHeld y0 y1 yz
            refine hK.out _ _ (sG EX _) (fun hHeld => ?_)
            clear hK K
            try simp only [Act.put, sq1, sq2, sq3, sq4, sq5, sq6]
            refine wpAnyH_ready (rs := [9]) (by kernel_rfl) (by simp) ?_
            refine AllReadyH.cons (o := _) rfl (fun K hK => ?_) AllReadyH.nil
            go_simp
            refine Calls.mono (HF2.out _) ?_
            rintro e X ⟨rfl, rfl⟩
            dsimp only
            clear hHeld
            refine hK.out _ _ (sG EX _) (fun hHeld => ?_)
            clear hK K
            try simp only [Act.put, sq1, sq2, sq3, sq4, sq5, sq6]
            refine wpAnyH_ready (rs := [10]) (by kernel_rfl) (by simp) ?_
            refine AllReadyH.cons (o := _) rfl (fun K hK => ?_) AllReadyH.nil
            go_simp
            refine Calls.mono (HD2.out _ (HEU.out.trans EX)) ?_
            rintro e X ⟨rfl, hEX⟩
            dsimp only
            replace EX := EX.trans hEX
            replace V2 := hid (V2.out.ext hEX)
            clear hHeld hEX
            refine hK.out _ _ (sG EX _) (fun hHeld => ?_)
            clear hK K
            try simp only [Act.put, sq1, sq2, sq3, sq4, sq5, sq6]
            refine tk1 (i := 11) (v := ?v11bp) rfl ?y11bp ?r11bp
            case y11bp => (intro w' hSw; (try dsimp only at hSw); go_simp; (try simp only [hw2]); (try with_reducible rfl))
            try simp only [Act.put, sq1, sq2, sq3, sq4, sq5, sq6]
            refine tk1 (i := 12) (v := ?v12bp) rfl ?y12bp ?r12bp
            case y12bp => (intro w' hSw; (try dsimp only at hSw); go_simp; (try with_reducible rfl))
            try simp only [Act.put, sq1, sq2, sq3, sq4, sq5, sq6]
            have v9 := V2.out
            obtain ⟨y0, y1⟩ : _ ∧ _ := ⟨v9.cell 0, v9.cell 1⟩
            have yz := v9.lt
            have yf := v9.fro 1
            simp only [List.getElem?_toArray, List.getElem?_cons_zero, List.getElem?_cons_succ] at y0 y1
            clear v9
            refine wpAnyH_ready (rs := [13]) (by kernel_rfl) (by simp) ?_
            refine AllReadyH.cons (o := _) rfl (fun K hK => ?_) AllReadyH.nil
            go_simp
            clear hHeld y0 y1 yz yf
            refine hK.out _ _ (sGc EX _ _ _) (fun hHeld => ?_)
            clear hK K
            try simp only [Act.put, sq1, sq2, sq3, sq4, sq5, sq6]
            refine wpAnyH_done (by kernel_rfl) ?_ _
            have hR := REST _ EX V2
            simp only [Act.put, sq1, sq2, sq3, sq4, sq5, sq6] at hR
            exact hR
          · go_simp
            refine Calls.mono (HF2.out _) ?_
            rintro e X ⟨rfl, rfl⟩
            dsimp only
            clear hHeld
            refine hK.out _ _ (sG EX _) (fun hHeld => ?_)
            clear hK K
            try simp only [Act.put, sq1, sq2, sq3, sq4, sq5, sq6]
            refine wpAnyH_ready (rs := [1, 10]) (by kernel_rfl) (by simp) ?_
            refine AllReadyH.cons (o := _) rfl (fun K hK => ?_) (AllReadyH.cons (o := _) rfl (fun K hK => ?_) AllReadyH.nil)
            · have v9 := V2.out
              obtain ⟨y0, y1⟩ : _ ∧ _ := ⟨v9.cell 0, v9.cell 1⟩
              have yz := v9.lt
              simp only [List.getElem?_toArray, List.getElem?_cons_zero, List.getElem?_cons_succ] at y0 y1
              clear v9
              go_simp
              clear hHeld y0 y1 yz
              refine hK.out _ _ (sG EX _) (fun hHeld => ?_)
              clear hK K
              try simp only [Act.put, sq1, sq2, sq3, sq4, sq5, sq6]
              refine wpAnyH_ready (rs := [10]) (by kernel_rfl) (by simp) ?_
              refine AllReadyH.cons (o := _) rfl (fun K hK => ?_) AllReadyH.nil
              go_simp
              refine Calls.mono (HD2.out _ (HEU.out.trans EX)) ?_
              rintro e X ⟨rfl, hEX⟩
              dsimp only
              replace EX := EX.trans hEX
              replace V2 := hid (V2.out.ext hEX)
              clear hHeld hEX
              refine hK.out _ _ (sG EX _) (fun hHeld => ?_)
              clear hK K
              try simp only [Act.put, sq1, sq2, sq3, sq4, sq5, sq6]
              refine tk1 (i := 11) (v := ?v11bq) rfl ?y11bq ?r11bq
              case y11bq => (intro w' hSw; (try dsimp only at hSw); go_simp; (try simp only [hw2]); (try with_reducible rfl))
              try simp only [Act.put, sq1, sq2, sq3, sq4, sq5, sq6]
              refine tk1 (i := 12) (v := ?v12bq) rfl ?y12bq ?r12bq
              case y12bq => (intro w' hSw; (try dsimp only at hSw); go_simp; (try with_reducible rfl))
              try simp only [Act.put, sq1, sq2, sq3, sq4, sq5, sq6]
              have v9 := V2.out
              obtain ⟨y0, y1⟩ : _ ∧ _ := ⟨v9.cell 0, v9.cell 1⟩
              have yz := v9.lt
              have yf := v9.fro 1
              simp only [List.getElem?_toArray, List.getElem?_cons_zero, List.getElem?_cons_succ] at y0 y1
              clear v9
              refine wpAnyH_ready (rs := [13]) (by kernel_rfl) (by simp) ?_
              refine AllReadyH.cons (o := _) rfl (fun K hK => ?_) AllReadyH.nil
              go_simp
              clear hHeld y0 y1 yz yf
              refine hK.out _ _ (sGc EX _ _ _) (fun hHeld => ?_)
              clear hK K
              try simp only [Act.put, sq1, sq2, sq3, sq4, sq5, sq6]
              refine wpAnyH_done (by kernel_rfl) ?_ _
              have hR := REST _ EX V2
              simp only [Act.put, sq1, sq2, sq3, sq4, sq5, sq6] at hR
              exact hR
            · go_simp
              refine Calls.mono (HD2.out _ (HEU.out.trans EX)) ?_
              rintro e X ⟨rfl, hEX⟩
              dsimp only
              replace EX := EX.trans hEX
              replace V2 := hid (V2.out.ext hEX)
              clear hHeld hEX
              refine hK.out _ _ (sG EX _) (fun hHeld => ?_)
              clear hK K
              try simp only [Act.put, sq1, sq2, sq3, sq4, sq5, sq6]
              refine wpAnyH_ready (rs := [1]) (by kernel_rfl) (by simp) ?_
              refine AllReadyH.cons (o := _) rfl (fun K hK => ?_) AllReadyH.nil
              have v9 := V2.out
              obtain ⟨y0, y1⟩ : _ ∧ _ := ⟨v9.cell 0, v9.cell 1⟩
              have yz := v9.lt
              simp only [List.getElem?_toArray, List.getElem?_cons_zero, List.getElem?_cons_succ] at y0 y1
              clear v9
              go_simp
              clear hHeld y0 y1 yz
              refine hK.out _ _ (sG EX _) (fun hHeld => ?_)
              clear hK K
              try simp only [Act.put, sq1, sq2, sq3, sq4, sq5, sq6]
              refine tk1 (i := 11) (v := ?v11br) rfl ?y11br ?r11br
              case y11br => (intro w' hSw; (try dsimp only at hSw); go_simp; (try simp only [hw2]); (try with_reducible rfl))
              try simp only [Act.put, sq1, sq2, sq3, sq4, sq5, sq6]
              refine tk1 (i := 12) (v := ?v12br) rfl ?y12br ?r12br
              case y12br => (intro w' hSw; (try dsimp only at hSw); go_simp; (try with_reducible rfl))
              try simp only [Act.put, sq1, sq2, sq3, sq4, sq5, sq6]
              have v9 := V2.out
              obtain ⟨y0, y1⟩ : _ ∧ _ := ⟨v9.cell 0, v9.cell 1⟩
              have yz := v9.lt
              have yf := v9.fro 1
              simp only [List.getElem?_toArray, List.getElem?_cons_zero, List.getElem?_cons_succ] at y0 y1
              clear v9
              refine wpAnyH_ready (rs := [13]) (by kernel_rfl) (by simp) ?_
              refine AllReadyH.cons (o := _) rfl (fun K hK => ?_) AllReadyH.nil
              go_simp
              clear hHeld y0 y1 yz yf
              refine hK.out _ _ (sGc EX _ _ _) (fun hHeld => ?_)
              clear hK K
              try simp only [Act.put, sq1, sq2, sq3, sq4, sq5, sq6]
              refine wpAnyH_done (by kernel_rfl) ?_ _
              have hR := REST _ EX V2
              simp only [Act.put, sq1, sq2, sq3, sq4, sq5, sq6] at hR
              exact hR
        refine wp_region_held_drew (S := fun w' => (∀ b o, b < U.heap.size → ¬ b = w.heap.size + 1 + 1 → w'.cell? ⟨b, o, none⟩ = U.cell? ⟨b, o, none⟩) ∧ U.heap.size ≤ w'.heap.size) (by kernel_rfl) ?hS0 (fun hHeld => ?_)
        case hS0 => exact sG (Ext.drew (Ext.refl _)) _
        have EX : Ext U U.drew := Ext.drew (Ext.refl U)
        replace V2 := hid (show Blk U.drew (w.heap.size + 1 + 1) 33 #[.int .i64 s1, .int .i64 s2] from V2.out.ext EX)
        obtain ⟨X, hX⟩ : ∃ X, U.drew = X := ⟨_, rfl⟩
        rw [hX] at EX hHeld V2 ⊢
        clear hX
        refine tk1 (i := 0) (v := ?v0a) rfl ?y0a ?r0a
        case y0a => (intro w' hSw; (try dsimp only at hSw); go_simp; (try with_reducible rfl))
        try simp only [Act.put, sq1, sq2, sq3, sq4, sq5, sq6]
        refine tk1 (i := 2) (v := ?v2a) rfl ?y2a ?r2a
        case y2a => (intro w' hSw; (try dsimp only at hSw); go_simp; (try with_reducible rfl))
        try simp only [Act.put, sq1, sq2, sq3, sq4, sq5, sq6]
        refine tk1 (i := 3) (v := ?v3a) rfl ?y3a ?r3a
        case y3a => (intro w' hSw; (try dsimp only at hSw); go_simp; (try with_reducible rfl))
        try simp only [Act.put, sq1, sq2, sq3, sq4, sq5, sq6]
        refine tk1 (i := 4) (v := ?v4a) rfl ?y4a ?r4a
        case y4a => (intro w' hSw; (try dsimp only at hSw); go_simp; (try with_reducible rfl))
        try simp only [Act.put, sq1, sq2, sq3, sq4, sq5, sq6]
        refine tk1 (i := 5) (v := ?v5a) rfl ?y5a ?r5a
        case y5a => (intro w' hSw; (try dsimp only at hSw); go_simp; (try with_reducible rfl))
        try simp only [Act.put, sq1, sq2, sq3, sq4, sq5, sq6]
        refine tk1 (i := 6) (v := ?v6a) rfl ?y6a ?r6a
        case y6a => (intro w' hSw; (try dsimp only at hSw); go_simp; (try with_reducible rfl))
        try simp only [Act.put, sq1, sq2, sq3, sq4, sq5, sq6]
        refine tk1 (i := 7) (v := ?v7a) rfl ?y7a ?r7a
        case y7a => (intro w' hSw; (try dsimp only at hSw); go_simp; (try with_reducible rfl))
        try simp only [Act.put, sq1, sq2, sq3, sq4, sq5, sq6]
        refine tk1 (i := 8) (v := ?v8a) rfl ?y8a ?r8a
        case y8a => (intro w' hSw; (try dsimp only at hSw); go_simp; (try with_reducible rfl))
        try simp only [Act.put, sq1, sq2, sq3, sq4, sq5, sq6]
        refine wpAnyH_ready (rs := [1, 9]) (by kernel_rfl) (by simp) ?_
        refine AllReadyH.cons (o := _) rfl (fun K hK => ?_) (AllReadyH.cons (o := _) rfl (fun K hK => ?_) AllReadyH.nil)
        · have v9 := V2.out
          obtain ⟨y0, y1⟩ : _ ∧ _ := ⟨v9.cell 0, v9.cell 1⟩
          have yz := v9.lt
          simp only [List.getElem?_toArray, List.getElem?_cons_zero, List.getElem?_cons_succ] at y0 y1
          clear v9
          go_simp
          clear hHeld y0 y1 yz
          refine hK.out _ _ (sG EX _) (fun hHeld => ?_)
          clear hK K
          try simp only [Act.put, sq1, sq2, sq3, sq4, sq5, sq6]
          refine wpAnyH_ready (rs := [9]) (by kernel_rfl) (by simp) ?_
          refine AllReadyH.cons (o := _) rfl (fun K hK => ?_) AllReadyH.nil
          go_simp
          refine Calls.mono (HF1.out _) ?_
          rintro e X ⟨rfl, rfl⟩
          dsimp only
          clear hHeld
          refine hK.out _ _ (sG EX _) (fun hHeld => ?_)
          clear hK K
          try simp only [Act.put, sq1, sq2, sq3, sq4, sq5, sq6]
          refine wpAnyH_ready (rs := [10]) (by kernel_rfl) (by simp) ?_
          refine AllReadyH.cons (o := _) rfl (fun K hK => ?_) AllReadyH.nil
          go_simp
          refine Calls.mono (HD1.out _ (HEU.out.trans EX)) ?_
          rintro e X ⟨rfl, hEX⟩
          dsimp only
          replace EX := EX.trans hEX
          replace V2 := hid (V2.out.ext hEX)
          clear hHeld hEX
          refine hK.out _ _ (sG EX _) (fun hHeld => ?_)
          clear hK K
          try simp only [Act.put, sq1, sq2, sq3, sq4, sq5, sq6]
          refine tk1 (i := 11) (v := ?v11ap) rfl ?y11ap ?r11ap
          case y11ap => (intro w' hSw; (try dsimp only at hSw); go_simp; (try simp only [hw1]); (try with_reducible rfl))
          try simp only [Act.put, sq1, sq2, sq3, sq4, sq5, sq6]
          refine tk1 (i := 12) (v := ?v12ap) rfl ?y12ap ?r12ap
          case y12ap => (intro w' hSw; (try dsimp only at hSw); go_simp; (try with_reducible rfl))
          try simp only [Act.put, sq1, sq2, sq3, sq4, sq5, sq6]
          have v9 := V2.out
          obtain ⟨y0, y1⟩ : _ ∧ _ := ⟨v9.cell 0, v9.cell 1⟩
          have yz := v9.lt
          have yf := v9.fro 0
          simp only [List.getElem?_toArray, List.getElem?_cons_zero, List.getElem?_cons_succ] at y0 y1
          clear v9
          refine wpAnyH_ready (rs := [13]) (by kernel_rfl) (by simp) ?_
          refine AllReadyH.cons (o := _) rfl (fun K hK => ?_) AllReadyH.nil
          go_simp
          clear hHeld y0 y1 yz yf
          refine hK.out _ _ (sGc EX _ _ _) (fun hHeld => ?_)
          clear hK K
          try simp only [Act.put, sq1, sq2, sq3, sq4, sq5, sq6]
          refine wpAnyH_done (by kernel_rfl) ?_ _
          have hR := REST _ EX V2
          simp only [Act.put, sq1, sq2, sq3, sq4, sq5, sq6] at hR
          exact hR
        · go_simp
          refine Calls.mono (HF1.out _) ?_
          rintro e X ⟨rfl, rfl⟩
          dsimp only
          clear hHeld
          refine hK.out _ _ (sG EX _) (fun hHeld => ?_)
          clear hK K
          try simp only [Act.put, sq1, sq2, sq3, sq4, sq5, sq6]
          refine wpAnyH_ready (rs := [1, 10]) (by kernel_rfl) (by simp) ?_
          refine AllReadyH.cons (o := _) rfl (fun K hK => ?_) (AllReadyH.cons (o := _) rfl (fun K hK => ?_) AllReadyH.nil)
          · have v9 := V2.out
            obtain ⟨y0, y1⟩ : _ ∧ _ := ⟨v9.cell 0, v9.cell 1⟩
            have yz := v9.lt
            simp only [List.getElem?_toArray, List.getElem?_cons_zero, List.getElem?_cons_succ] at y0 y1
            clear v9
            go_simp
            clear hHeld y0 y1 yz
            refine hK.out _ _ (sG EX _) (fun hHeld => ?_)
            clear hK K
            try simp only [Act.put, sq1, sq2, sq3, sq4, sq5, sq6]
            refine wpAnyH_ready (rs := [10]) (by kernel_rfl) (by simp) ?_
            refine AllReadyH.cons (o := _) rfl (fun K hK => ?_) AllReadyH.nil
            go_simp
            refine Calls.mono (HD1.out _ (HEU.out.trans EX)) ?_
            rintro e X ⟨rfl, hEX⟩
            dsimp only
            replace EX := EX.trans hEX
            replace V2 := hid (V2.out.ext hEX)
            clear hHeld hEX
            refine hK.out _ _ (sG EX _) (fun hHeld => ?_)
            clear hK K
            try simp only [Act.put, sq1, sq2, sq3, sq4, sq5, sq6]
            refine tk1 (i := 11) (v := ?v11aq) rfl ?y11aq ?r11aq
            case y11aq => (intro w' hSw; (try dsimp only at hSw); go_simp; (try simp only [hw1]); (try with_reducible rfl))
            try simp only [Act.put, sq1, sq2, sq3, sq4, sq5, sq6]
            refine tk1 (i := 12) (v := ?v12aq) rfl ?y12aq ?r12aq
            case y12aq => (intro w' hSw; (try dsimp only at hSw); go_simp; (try with_reducible rfl))
            try simp only [Act.put, sq1, sq2, sq3, sq4, sq5, sq6]
            have v9 := V2.out
            obtain ⟨y0, y1⟩ : _ ∧ _ := ⟨v9.cell 0, v9.cell 1⟩
            have yz := v9.lt
            have yf := v9.fro 0
            simp only [List.getElem?_toArray, List.getElem?_cons_zero, List.getElem?_cons_succ] at y0 y1
            clear v9
            refine wpAnyH_ready (rs := [13]) (by kernel_rfl) (by simp) ?_
            refine AllReadyH.cons (o := _) rfl (fun K hK => ?_) AllReadyH.nil
            go_simp
            clear hHeld y0 y1 yz yf
            refine hK.out _ _ (sGc EX _ _ _) (fun hHeld => ?_)
            clear hK K
            try simp only [Act.put, sq1, sq2, sq3, sq4, sq5, sq6]
            refine wpAnyH_done (by kernel_rfl) ?_ _
            have hR := REST _ EX V2
            simp only [Act.put, sq1, sq2, sq3, sq4, sq5, sq6] at hR
            exact hR
          · go_simp
            refine Calls.mono (HD1.out _ (HEU.out.trans EX)) ?_
            rintro e X ⟨rfl, hEX⟩
            dsimp only
            replace EX := EX.trans hEX
            replace V2 := hid (V2.out.ext hEX)
            clear hHeld hEX
            refine hK.out _ _ (sG EX _) (fun hHeld => ?_)
            clear hK K
            try simp only [Act.put, sq1, sq2, sq3, sq4, sq5, sq6]
            refine wpAnyH_ready (rs := [1]) (by kernel_rfl) (by simp) ?_
            refine AllReadyH.cons (o := _) rfl (fun K hK => ?_) AllReadyH.nil
            have v9 := V2.out
            obtain ⟨y0, y1⟩ : _ ∧ _ := ⟨v9.cell 0, v9.cell 1⟩
            have yz := v9.lt
            simp only [List.getElem?_toArray, List.getElem?_cons_zero, List.getElem?_cons_succ] at y0 y1
            clear v9
            go_simp
            clear hHeld y0 y1 yz
            refine hK.out _ _ (sG EX _) (fun hHeld => ?_)
            clear hK K
            try simp only [Act.put, sq1, sq2, sq3, sq4, sq5, sq6]
            refine tk1 (i := 11) (v := ?v11ar) rfl ?y11ar ?r11ar
            case y11ar => (intro w' hSw; (try dsimp only at hSw); go_simp; (try simp only [hw1]); (try with_reducible rfl))
            try simp only [Act.put, sq1, sq2, sq3, sq4, sq5, sq6]
            refine tk1 (i := 12) (v := ?v12ar) rfl ?y12ar ?r12ar
            case y12ar => (intro w' hSw; (try dsimp only at hSw); go_simp; (try with_reducible rfl))
            try simp only [Act.put, sq1, sq2, sq3, sq4, sq5, sq6]
            have v9 := V2.out
            obtain ⟨y0, y1⟩ : _ ∧ _ := ⟨v9.cell 0, v9.cell 1⟩
            have yz := v9.lt
            have yf := v9.fro 0
            simp only [List.getElem?_toArray, List.getElem?_cons_zero, List.getElem?_cons_succ] at y0 y1
            clear v9
            refine wpAnyH_ready (rs := [13]) (by kernel_rfl) (by simp) ?_
            refine AllReadyH.cons (o := _) rfl (fun K hK => ?_) AllReadyH.nil
            go_simp
            clear hHeld y0 y1 yz yf
            refine hK.out _ _ (sGc EX _ _ _) (fun hHeld => ?_)
            clear hK K
            try simp only [Act.put, sq1, sq2, sq3, sq4, sq5, sq6]
            refine wpAnyH_done (by kernel_rfl) ?_ _
            have hR := REST _ EX V2
            simp only [Act.put, sq1, sq2, sq3, sq4, sq5, sq6] at hR
            exact hR
      · rw [if_neg hfd] at HSj
        go_wp2
        go_roundw
        case rel => exact ⟨by (repeat' (first | with_reducible assumption | with_reducible exact Ext.refl _ | with_reducible refine Ext.alloc ?_ _ | with_reducible refine Ext.set ?_ ?_ _ | with_reducible refine Ext.drew ?_ | with_reducible refine Ext.drewN ?_ _ | with_reducible refine Ext.trans ?_ (by assumption) | (dsimp only; omega))), hid (K1.out.alloc _), hid (K2.out.alloc _), j + 1, by omega, by go_num, hid (by rw [HSj.out]; exact K3.out.alloc _)⟩
        case measure => simp [intOf]; omega
    · have HP := hid (HE.out j (by omega))
      obtain ⟨e0, e1, -, -, ez⟩ := blk_at2 K3.out
      obtain ⟨y0, y1, y2, y3, yz⟩ := blk_at2 K2.out
      clear HS HK HFL HE HB HD HF
      rw [HP.out] at e0 e1
      obtain ⟨s1, hs1⟩ : ∃ s1, S.1 = s1 := ⟨_, rfl⟩
      obtain ⟨s2, hs2⟩ : ∃ s2, S.2 = s2 := ⟨_, rfl⟩
      rw [hs1] at e0
      rw [hs2] at e1
      have HS1 := hid hs1
      have HS2 := hid hs2
      clear hs1 hs2
      go_wp2
      refine body_abs (fun X => Blk X (w.heap.size + 1) 33 #[.int .i64 s1, .int .i64 s2] ∧ Ext w X) ⟨?hb, ?he⟩ ?_
      case hb => exact Blk.st2 K2.out _ _
      case he => (repeat' (first | with_reducible assumption | with_reducible exact Ext.refl _ | with_reducible refine Ext.alloc ?_ _ | with_reducible refine Ext.set ?_ ?_ _ | with_reducible refine Ext.drew ?_ | with_reducible refine Ext.drewN ?_ _ | with_reducible refine Ext.trans ?_ (by assumption) | (dsimp only; omega)))
      rintro X ⟨hB, XE⟩
      have r0 := hB.cell 0
      have r1 := hB.cell 1
      simp only [List.getElem?_toArray, List.getElem?_cons_zero, List.getElem?_cons_succ] at r0 r1
      exact bodyPost_ret (v := .agg #[.int .i64 s1, .int .i64 s2]) (by simp [results, Tryz.results57, go_sem, r0, r1]) rfl ⟨by rw [HS1.out, HS2.out], XE⟩
end Go.Proofs.YtggggnjibedgaaaGreat
/- Whether a rope surely is fit. -/
set_option linter.unusedSimpArgs false
set_option linter.unusedVariables false
namespace Go.Proofs.YtggggnjibedgaaaGreat
open Go.RowKit
set_option maxHeartbeats 2000000 in
theorem expiry_any (m : Md) (r : Ro) (A : Option Addr) (c : Nat) (B : Option Addr) (d : Nat) (hm : mdB m = true) (hr : roB r = true) (w : World) :
    Calls Tryz.prog 63 #[cordV m r A c B d] w fun e w' => e = .returned (.int .i64 (expN m r)) ∧ Ext w w' := by
  have hmp := mdB_parts hm
  have hrp := roB_parts hr
  unfold cordV expN
  obtain ⟨sh, us, be, ws⟩ := m
  obtain ⟨ma, fi, le, fs⟩ := r
  dsimp only at *
  obtain ⟨a1, a2, -⟩ := hmp
  obtain ⟨b1, b2, -⟩ := hrp
  clear hm hr
  generalize ws.length = n at *
  generalize fs.length = k at *
  have h1 : IntKind.i64.wrap (ma + sh) = ma + sh := IntWalk.i64_in _ (by omega)
  have h2 : IntKind.i64.wrap (fi + us) = fi + us := IntWalk.i64_in _ (by omega)
  by_cases hf : fi = -1
  · subst hf
    rw [if_pos rfl]
    go_enter Tryz.func63, Tryz.ntmps63
    go_wp2
    go_ret
    exact ⟨rfl, by (repeat' (first | with_reducible assumption | with_reducible exact Ext.refl _ | with_reducible refine Ext.alloc ?_ _ | with_reducible refine Ext.set ?_ ?_ _ | with_reducible refine Ext.drew ?_ | with_reducible refine Ext.drewN ?_ _ | with_reducible refine Ext.trans ?_ (by assumption) | (dsimp only; omega)))⟩
  · rw [if_neg hf]
    have hd : (fi == -1) = false := by simp [hf]
    go_enter Tryz.func63, Tryz.ntmps63
    go_wp2
    all_goals (go_ret; exact ⟨ret_int (by omega), by (repeat' (first | with_reducible assumption | with_reducible exact Ext.refl _ | with_reducible refine Ext.alloc ?_ _ | with_reducible refine Ext.set ?_ ?_ _ | with_reducible refine Ext.drew ?_ | with_reducible refine Ext.drewN ?_ _ | with_reducible refine Ext.trans ?_ (by assumption) | (dsimp only; omega)))⟩)
set_option maxHeartbeats 2000000 in
theorem isFit_any (m : Md) (r : Ro) (A : Option Addr) (c : Nat) (B : Option Addr) (d : Nat) (D x : Int) (hm : mdB m = true) (hr : roB r = true) (w : World) :
    Calls Tryz.prog 59 #[cordV m r A c B d, .int .i64 D, .int .i64 x] w fun e w' => e = .returned (.bool (fitB m r D x)) ∧ Ext w w' := by
  have HX := hid (fun W => expiry_any m r A c B d hm hr W)
  unfold fitB
  generalize expN m r = ex at *
  unfold cordV at *
  obtain ⟨sh, us, be, ws⟩ := m
  obtain ⟨ma, fi, le, fs⟩ := r
  dsimp only at *
  clear hm hr
  generalize ws.length = n at *
  generalize fs.length = k at *
  by_cases h1 : D ≤ ex
  · rw [decide_eq_true h1]
    go_enter Tryz.func59, Tryz.ntmps59
    go_wp2_with (go_at_call 63; refine (HX.out _).mono ?_; rintro e w2 ⟨rfl, hE⟩; (first | (have hK := KC.step (n := w.heap.size + 1) (by with_reducible assumption) hE) | (have hK := KC.step (KC.step (n := w.heap.size + 1) (by with_reducible assumption) (ext_alloc1 _ _)) hE) | (have hK := KC.step (KC.refl (n := w.heap.size + 1) (by simp)) hE)); have hC := hK.cell; have hF := hK.fro; have hX := hK.ext)
    go_ret
    exact ⟨ret_bool (by simp), by (repeat' (first | with_reducible assumption | with_reducible exact Ext.refl _ | with_reducible refine Ext.alloc ?_ _ | with_reducible refine Ext.set ?_ ?_ _ | with_reducible refine Ext.drew ?_ | with_reducible refine Ext.drewN ?_ _ | with_reducible refine Ext.trans ?_ (by assumption) | (dsimp only; omega)))⟩
  · rw [decide_eq_false h1]
    go_enter Tryz.func59, Tryz.ntmps59
    go_wp2_with (go_at_call 63; refine (HX.out _).mono ?_; rintro e w2 ⟨rfl, hE⟩; (first | (have hK := KC.step (n := w.heap.size + 1) (by with_reducible assumption) hE) | (have hK := KC.step (KC.step (n := w.heap.size + 1) (by with_reducible assumption) (ext_alloc1 _ _)) hE) | (have hK := KC.step (KC.refl (n := w.heap.size + 1) (by simp)) hE)); have hC := hK.cell; have hF := hK.fro; have hX := hK.ext)
    go_ret
    exact ⟨ret_bool (by simp), by (repeat' (first | with_reducible assumption | with_reducible exact Ext.refl _ | with_reducible refine Ext.alloc ?_ _ | with_reducible refine Ext.set ?_ ?_ _ | with_reducible refine Ext.drew ?_ | with_reducible refine Ext.drewN ?_ _ | with_reducible refine Ext.trans ?_ (by assumption) | (dsimp only; omega)))⟩
theorem field_hi (x y : Int) (w : World) : (Instr.field 33 (.agg #[.int .i64 x, .int .i64 y]) 1).run Tryz.prog w = .ok (.int .i64 y) w := by kernel_rfl
set_option maxHeartbeats 2000000 in
theorem isSurelyFit_any (m : Md) (r : Ro) (A : Option Addr) (c : Nat) (B : Option Addr) (d : Nat) (D : Int) (hm : mdB m = true) (hr : roB r = true) (w : World) (hx : WrsAt w A m.wears) (hy : FlsAt w B r.falls) :
    Calls Tryz.prog 61 #[cordV m r A c B d, .int .i64 D] w fun e w' => e = .returned (.bool (sureB m r D)) ∧ Ext w w' := by
  have HD := hid (fun (W : World) (hE : Ext w W) => damage_any m r A c B d D hm hr W (hx.ext hE) (hy.ext hE))
  have HI := hid (fun x W => isFit_any m r A c B d D x hm hr W)
  unfold sureB
  generalize dmgL m.wears D r.falls = s at *
  obtain ⟨s1, s2⟩ := s
  dsimp only at *
  have HI2 := hid (fun W => HI.out s2 W)
  generalize fitB m r D s2 = FB at *
  clear hm hr hx hy HI
  unfold cordV at *
  obtain ⟨sh, us, be, ws⟩ := m
  obtain ⟨ma, fi, le, fs⟩ := r
  dsimp only at *
  generalize ws.length = n at *
  generalize fs.length = k at *
  go_enter Tryz.func61, Tryz.ntmps61
  go_wp2_with fail
  refine wp_absW (fun X => Blk X w.heap.size 102 #[.int .i64 sh, .int .i64 us, .int .i64 be, .slice A n c, .int .i64 ma, .int .i64 fi, .int .i64 le, .slice B k d] ∧ Ext w X) ⟨blk_last _ _, by (repeat' (first | with_reducible assumption | with_reducible exact Ext.refl _ | with_reducible refine Ext.alloc ?_ _ | with_reducible refine Ext.set ?_ ?_ _ | with_reducible refine Ext.drew ?_ | with_reducible refine Ext.drewN ?_ _ | with_reducible refine Ext.trans ?_ (by assumption) | (dsimp only; omega)))⟩ ?_
  rintro W ⟨u1, hE⟩
  obtain ⟨k0, k1, k2, k3, k4, k5, k6, k7⟩ : _ ∧ _ ∧ _ ∧ _ ∧ _ ∧ _ ∧ _ ∧ _ := ⟨u1.cell 0, u1.cell 1, u1.cell 2, u1.cell 3, u1.cell 4, u1.cell 5, u1.cell 6, u1.cell 7⟩
  have kz := u1.lt
  simp only [List.getElem?_toArray, List.getElem?_cons_zero, List.getElem?_cons_succ] at k0 k1 k2 k3 k4 k5 k6 k7
  clear u1
  refine wp_region_held_drew (S := fun w' => (∀ b o, b < W.heap.size → w'.cell? ⟨b, o, none⟩ = W.cell? ⟨b, o, none⟩) ∧ W.heap.size ≤ w'.heap.size ∧ Ext W w') (by kernel_rfl) ?hS0 (fun hHeld => ?_)
  case hS0 => exact sK (Ext.drew (Ext.refl _))
  have X0 : Ext W W.drew := Ext.drew (Ext.refl W)
  refine tk1 (i := 0) (v := ?v0a) rfl ?y0a ?r0a
  case y0a => (intro w' hSw; (try dsimp only at hSw); go_simp; (try with_reducible rfl))
  try simp only [Act.put, sq1, sq2, sq3, sq4, sq5, sq6]
  refine tk1 (i := 1) (v := ?v1a) rfl ?y1a ?r1a
  case y1a => (intro w' hSw; (try dsimp only at hSw); go_simp; (try with_reducible rfl))
  try simp only [Act.put, sq1, sq2, sq3, sq4, sq5, sq6]
  refine tk1 (i := 2) (v := ?v2a) rfl ?y2a ?r2a
  case y2a => (intro w' hSw; (try dsimp only at hSw); go_simp; (try with_reducible rfl))
  try simp only [Act.put, sq1, sq2, sq3, sq4, sq5, sq6]
  refine tk1 (i := 3) (v := ?v3a) rfl ?y3a ?r3a
  case y3a => (intro w' hSw; (try dsimp only at hSw); go_simp; (try with_reducible rfl))
  try simp only [Act.put, sq1, sq2, sq3, sq4, sq5, sq6]
  refine wpAnyH_ready (rs := [4]) (by kernel_rfl) (by simp) ?_
  refine AllReadyH.cons (o := _) rfl (fun K hK => ?_) AllReadyH.nil
  go_simp
  refine Calls.mono (HD.out _ (hE.trans X0)) ?_
  rintro e w1 ⟨rfl, hE1⟩
  dsimp only
  have X1 := X0.trans hE1
  clear hHeld
  refine hK.out _ _ (sK X1) (fun hHeld => ?_)
  clear hK K
  try simp only [Act.put, sq1, sq2, sq3, sq4, sq5, sq6]
  refine tk1 (i := 5) (v := ?v5b) rfl ?y5b ?r5b
  case y5b => (intro w' hSw; (try dsimp only at hSw); go_simp; (try simp only [field_hi, Result.andThen_ok]); (try with_reducible rfl))
  try simp only [Act.put, sq1, sq2, sq3, sq4, sq5, sq6]
  refine wpAnyH_ready (rs := [6]) (by kernel_rfl) (by simp) ?_
  refine AllReadyH.cons (o := _) rfl (fun K hK => ?_) AllReadyH.nil
  go_simp
  refine Calls.mono (HI2.out _) ?_
  rintro e w2 ⟨rfl, hE2⟩
  dsimp only
  have X2 := X1.trans hE2
  clear hHeld
  refine hK.out _ _ (sK X2) (fun hHeld => ?_)
  clear hK K
  try simp only [Act.put, sq1, sq2, sq3, sq4, sq5, sq6]
  refine tk1 (i := 7) (v := ?v7c) rfl ?y7c ?r7c
  case y7c => (intro w' hSw; (try dsimp only at hSw); go_simp; (try with_reducible rfl))
  try simp only [Act.put, sq1, sq2, sq3, sq4, sq5, sq6]
  refine wpAnyH_done (by kernel_rfl) ?_ _
  have HX := hid (hE.trans X2)
  clear hHeld
  go_wp2
  go_ret
  exact ⟨rfl, HX.out⟩
end Go.Proofs.YtggggnjibedgaaaGreat
