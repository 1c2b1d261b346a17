/- Until of the specification. -/
import Derived.Test.YtdhljpngkeobcaaGreatBTopWear22
import Derived.Test.YtdhljpngkeobcaaGreatB19
import Derived.Test.YtdhljpngkeobcaaGreatBTopWear23
import Derived.Test.YtdhljpngkeobcaaGreatB02
import Derived.Test.YtdhljpngkeobcaaGreatB01
set_option linter.unusedSimpArgs false
set_option linter.unusedVariables false
namespace Go.Proofs.YtdhljpngkeobcaaGreat
open Go.RowKit
theorem field_hi2 (x y : Int) (w : World) : (Instr.field 33 (.agg #[.int .i64 x, .int .i64 y]) 1).run Tryz.prog w = .ok (.int .i64 y) w := by kernel_rfl
set_option maxRecDepth 100000 in
set_option maxHeartbeats 4000000 in
theorem rUntil_any (m : Md) (r : Ro) (A : Option Addr) (c : Nat) (B : Option Addr) (d : Nat) (hm : m.wears.length ≤ 1000) (hr : r.falls.length ≤ 1000) (w : World) (hx : WrsAt w A m.wears) (hy : FlsAt w B r.falls) :
    Calls Tryz.prog 22 #[m.val A c, r.val B d] w fun e w' => e = .returned (.tuple #[.int .i64 (untV m r), .int .i64 (takE m r)]) ∧ Ext w w' := by
  have HC := hid (fun (W : World) (hE : Ext w W) => rCheckRope_any m r A c B d hm hr W (hx.ext hE) (hy.ext hE))
  have HB := hid (fun (W : World) (hE : Ext w W) => rBase_any r B d hr W (hy.ext hE))
  have HD := hid (fun (a : mdB m = true) (b : roB r = true) D (W : World) (hE : Ext w W) => rdamage_any m r A c B d D a b W (hx.ext hE) (hy.ext hE))
  have HI := hid (fun (a : mdB m = true) (b : roB r = true) D x W => rIsFit_any m r A c B d D x a b W)
  clear hx hy
  have Z0 := fun (a b : Array Value) => blks2 w (.cells a 24) (.cells b 27)
  by_cases h0 : takE m r = 0
  · have hv : untV m r = untN m r := by unfold untV; rw [if_pos h0]
    obtain ⟨h1, h2⟩ := takE_ok h0
    have HU := hid (fun (D : Int) (ha : lateN r ≤ D) (hb : D ≤ 99999) => show fitB m r D (dmgL m.wears D r.falls).2 = decide (D ≤ untN m r) from unt_sure h2 hb ha)
    have hU := unt_range (m := m) h2
    have hl1 := (lateN_ge r).1
    have hl2 := (roB_parts h2).1.1
    have hl0 : 0 ≤ lateN r := by omega
    have hl9 := lateN_le h2
    clear hl1 hl2
    replace HD := hid (HD.out h1 h2)
    replace HI := hid (fun D W => HI.out h1 h2 D (dmgL m.wears D r.falls).2 W)
    rw [hv, h0]
    rw [h0] at HC
    clear hv h0 h1 h2
    generalize hFB : (fun D => fitB m r D (dmgL m.wears D r.falls).2) = FB at *
    have hFe : ∀ D, fitB m r D (dmgL m.wears D r.falls).2 = FB D := fun D => by rw [← hFB]
    simp only [hFe] at HU HI
    clear hFB hFe
    generalize hDV : (fun D => dmgL m.wears D r.falls) = DV at *
    have hDe : ∀ D, dmgL m.wears D r.falls = DV D := fun D => by rw [← hDV]
    simp only [hDe] at HD HI
    clear hDV hDe
    generalize untN m r = U at *
    generalize lateN r = LN at *
    unfold Md.val Ro.val at *
    obtain ⟨sh, us, be, ws⟩ := m
    obtain ⟨ma, fi, le, fs⟩ := r
    dsimp only at *
    generalize ws.length = n at *
    generalize fs.length = k at *
    have Z := Z0 #[.int .i64 sh, .int .i64 us, .int .i64 be, .slice A n c] #[.int .i64 ma, .int .i64 fi, .int .i64 le, .slice B k d]
    have B1 := hid (show Blk _ _ _ _ from Z.1)
    have B2 := hid (show Blk _ _ _ _ from Z.2)
    clear Z Z0
    go_enter Tryz.func22, Tryz.ntmps22
    go_wp2_with fail
    refine Calls.mono (HC.out _ (by (repeat' (first | with_reducible assumption | with_reducible exact Ext.refl _ | with_reducible refine Ext.alloc ?_ _ | with_reducible refine Ext.set ?_ ?_ _ | with_reducible refine Ext.drew ?_ | with_reducible refine Ext.drewN ?_ _ | with_reducible refine Ext.trans ?_ (by assumption) | (dsimp only; omega))))) ?_
    rintro e w2 ⟨rfl, hE⟩
    have TE := hid (show Ext w w2 by (repeat' (first | with_reducible assumption | with_reducible exact Ext.refl _ | with_reducible refine Ext.alloc ?_ _ | with_reducible refine Ext.set ?_ ?_ _ | with_reducible refine Ext.drew ?_ | with_reducible refine Ext.drewN ?_ _ | with_reducible refine Ext.trans ?_ (by assumption) | (dsimp only; omega))))
    have T1 := hid (B1.out.ext hE)
    have T2 := hid (B2.out.ext hE)
    clear B1 B2 hE HC
    obtain ⟨b0, b1, b2, b3⟩ : _ ∧ _ ∧ _ ∧ _ := ⟨T2.out.cell 0, T2.out.cell 1, T2.out.cell 2, T2.out.cell 3⟩
    simp only [List.getElem?_toArray, List.getElem?_cons_zero, List.getElem?_cons_succ] at b0 b1 b2 b3
    go_wp2_with fail
    refine Calls.mono (HB.out _ TE.out) ?_
    rintro e w3 ⟨rfl, hE3⟩
    have S1 := hid (T1.out.ext hE3)
    have S2 := hid (T2.out.ext hE3)
    have SE := hid (TE.out.trans hE3)
    clear T1 T2 TE hE3 b0 b1 b2 b3 HB
    go_wp2
    go_loopw [7, 8] (fun u i wr => Ext w wr ∧ Hid (Blk wr w.heap.size 24 #[.int .i64 sh, .int .i64 us, .int .i64 be, .slice A n c]) ∧ Hid (Blk wr (w.heap.size + 1) 27 #[.int .i64 ma, .int .i64 fi, .int .i64 le, .slice B k d]) ∧
      ∃ Dy T : Int, LN ≤ Dy ∧ Dy ≤ 100000 ∧ i = .int .i64 Dy ∧ u = .int .i64 T ∧ Hid ((Dy = LN ∧ T = -1) ∨ (LN < Dy ∧ T = Dy - 1 ∧ T ≤ U))) (fun _ i _ => (100001 - intOf i).toNat)
    case atStart => exact ⟨SE.out, S1, S2, LN, -1, Int.le_refl _, by omega, rfl, rfl, hid (.inl ⟨rfl, rfl⟩)⟩
    case round =>
      obtain ⟨E, K1, K2, Dy, T, hd1, hd2, rfl, rfl, HT⟩ := hrel
      clear S1 S2 SE
      obtain ⟨a0, a1, a2, a3⟩ : _ ∧ _ ∧ _ ∧ _ := ⟨K1.out.cell 0, K1.out.cell 1, K1.out.cell 2, K1.out.cell 3⟩
      obtain ⟨b0, b1, b2, b3⟩ : _ ∧ _ ∧ _ ∧ _ := ⟨K2.out.cell 0, K2.out.cell 1, K2.out.cell 2, K2.out.cell 3⟩
      have az := K1.out.lt
      have bz := K2.out.lt
      simp only [List.getElem?_toArray, List.getElem?_cons_zero, List.getElem?_cons_succ] at a0 a1 a2 a3 b0 b1 b2 b3
      by_cases h9 : Dy ≤ 99999
      · have HUD := hid (HU.out Dy hd1 h9)
        have HID := hid (HI.out Dy)
        have HDD := hid (HD.out Dy)
        clear HU HI HD
        generalize FB Dy = fb at *
        generalize DV Dy = V at *
        by_cases hu : Dy ≤ U
        · rw [decide_eq_true hu] at HUD
          obtain rfl := HUD.out
          go_wp2_with fail
          refine wp_region_held_drew (S := fun w' => (∀ b o, b < wr.heap.size → w'.cell? ⟨b, o, none⟩ = wr.cell? ⟨b, o, none⟩) ∧ wr.heap.size ≤ w'.heap.size ∧ Ext wr w') (by kernel_rfl) ?hS0 (fun hHeld => ?_)
          case hS0 => exact sK (Ext.drew (Ext.refl _))
          have X0 : Ext wr wr.drew := Ext.drew (Ext.refl wr)
          have EX := X0
          obtain ⟨X, hX⟩ : ∃ X, wr.drew = X := ⟨_, rfl⟩
          rw [hX] at EX hHeld ⊢
          clear hX X0
          refine tk1 (i := 0) (v := ?v0au) rfl ?y0au ?r0au
          case y0au => (intro w' hSw; (try dsimp only at hSw); go_simp; (try with_reducible rfl))
          try simp only [Act.put, sq1, sq2, sq3, sq4, sq5, sq6]
          refine tk1 (i := 1) (v := ?v1au) rfl ?y1au ?r1au
          case y1au => (intro w' hSw; (try dsimp only at hSw); go_simp; (try with_reducible rfl))
          try simp only [Act.put, sq1, sq2, sq3, sq4, sq5, sq6]
          refine tk1 (i := 2) (v := ?v2au) rfl ?y2au ?r2au
          case y2au => (intro w' hSw; (try dsimp only at hSw); go_simp; (try with_reducible rfl))
          try simp only [Act.put, sq1, sq2, sq3, sq4, sq5, sq6]
          refine tk1 (i := 3) (v := ?v3au) rfl ?y3au ?r3au
          case y3au => (intro w' hSw; (try dsimp only at hSw); go_simp; (try with_reducible rfl))
          try simp only [Act.put, sq1, sq2, sq3, sq4, sq5, sq6]
          refine tk1 (i := 4) (v := ?v4au) rfl ?y4au ?r4au
          case y4au => (intro w' hSw; (try dsimp only at hSw); go_simp; (try with_reducible rfl))
          try simp only [Act.put, sq1, sq2, sq3, sq4, sq5, sq6]
          refine tk1 (i := 5) (v := ?v5au) rfl ?y5au ?r5au
          case y5au => (intro w' hSw; (try dsimp only at hSw); go_simp; (try with_reducible rfl))
          try simp only [Act.put, sq1, sq2, sq3, sq4, sq5, sq6]
          refine tk1 (i := 6) (v := ?v6au) rfl ?y6au ?r6au
          case y6au => (intro w' hSw; (try dsimp only at hSw); go_simp; (try with_reducible rfl))
          try simp only [Act.put, sq1, sq2, sq3, sq4, sq5, sq6]
          refine tk1 (i := 7) (v := ?v7au) rfl ?y7au ?r7au
          case y7au => (intro w' hSw; (try dsimp only at hSw); go_simp; (try with_reducible rfl))
          try simp only [Act.put, sq1, sq2, sq3, sq4, sq5, sq6]
          refine tk1 (i := 8) (v := ?v8au) rfl ?y8au ?r8au
          case y8au => (intro w' hSw; (try dsimp only at hSw); go_simp; (try with_reducible rfl))
          try simp only [Act.put, sq1, sq2, sq3, sq4, sq5, sq6]
          refine wpAnyH_ready (rs := [9]) (by kernel_rfl) (by simp) ?_
          refine AllReadyH.cons (o := _) rfl (fun K hK => ?_) AllReadyH.nil
          go_simp
          refine Calls.mono (HDD.out _ (E.trans EX)) ?_
          rintro e X ⟨rfl, hEX⟩
          dsimp only
          replace EX := EX.trans hEX
          clear hHeld hEX
          refine hK.out _ _ (sK EX) (fun hHeld => ?_)
          clear hK K
          try simp only [Act.put, sq1, sq2, sq3, sq4, sq5, sq6]
          refine tk1 (i := 10) (v := ?v10bu) rfl ?y10bu ?r10bu
          case y10bu => (intro w' hSw; (try dsimp only at hSw); go_simp; (try simp only [field_hi2, Result.andThen_ok]); (try with_reducible rfl))
          try simp only [Act.put, sq1, sq2, sq3, sq4, sq5, sq6]
          refine wpAnyH_ready (rs := [11]) (by kernel_rfl) (by simp) ?_
          refine AllReadyH.cons (o := _) rfl (fun K hK => ?_) AllReadyH.nil
          go_simp
          refine Calls.mono (HID.out _) ?_
          rintro e X ⟨rfl, hEX⟩
          dsimp only
          replace EX := EX.trans hEX
          clear hHeld hEX
          refine hK.out _ _ (sK EX) (fun hHeld => ?_)
          clear hK K
          try simp only [Act.put, sq1, sq2, sq3, sq4, sq5, sq6]
          refine tk1 (i := 12) (v := ?v12bu) rfl ?y12bu ?r12bu
          case y12bu => (intro w' hSw; (try dsimp only at hSw); go_simp; (try with_reducible rfl))
          try simp only [Act.put, sq1, sq2, sq3, sq4, sq5, sq6]
          refine wpAnyH_done (by kernel_rfl) ?_ _
          have HEE := hid (E.trans EX)
          have H1 := hid (K1.out.ext EX)
          have H2 := hid (K2.out.ext EX)
          clear hHeld EX
          have HW := hid (show (Dy + 1 = LN ∧ Dy = -1) ∨ (LN < Dy + 1 ∧ Dy = Dy + 1 - 1 ∧ Dy ≤ U) from .inr ⟨by omega, by omega, hu⟩)
          have hw1 : IntKind.i64.wrap (Dy + 1) = Dy + 1 := IntWalk.i64_in _ (by omega)
          go_wp2
          go_roundw
          case rel => exact ⟨HEE.out, H1, H2, Dy + 1, Dy, by omega, by omega, rfl, rfl, HW⟩
          case measure => simp [intOf]; omega
        · rw [decide_eq_false hu] at HUD
          obtain rfl := HUD.out
          have HV := hid (show T = U by
            rcases HT.out with ⟨h1, h2⟩ | ⟨h1, h2, h3⟩
            · omega
            · omega)
          go_wp2_with fail
          refine wp_region_held_drew (S := fun w' => (∀ b o, b < wr.heap.size → w'.cell? ⟨b, o, none⟩ = wr.cell? ⟨b, o, none⟩) ∧ wr.heap.size ≤ w'.heap.size ∧ Ext wr w') (by kernel_rfl) ?hS0 (fun hHeld => ?_)
          case hS0 => exact sK (Ext.drew (Ext.refl _))
          have X0 : Ext wr wr.drew := Ext.drew (Ext.refl wr)
          have EX := X0
          obtain ⟨X, hX⟩ : ∃ X, wr.drew = X := ⟨_, rfl⟩
          rw [hX] at EX hHeld ⊢
          clear hX X0
          refine tk1 (i := 0) (v := ?v0av) rfl ?y0av ?r0av
          case y0av => (intro w' hSw; (try dsimp only at hSw); go_simp; (try with_reducible rfl))
          try simp only [Act.put, sq1, sq2, sq3, sq4, sq5, sq6]
          refine tk1 (i := 1) (v := ?v1av) rfl ?y1av ?r1av
          case y1av => (intro w' hSw; (try dsimp only at hSw); go_simp; (try with_reducible rfl))
          try simp only [Act.put, sq1, sq2, sq3, sq4, sq5, sq6]
          refine tk1 (i := 2) (v := ?v2av) rfl ?y2av ?r2av
          case y2av => (intro w' hSw; (try dsimp only at hSw); go_simp; (try with_reducible rfl))
          try simp only [Act.put, sq1, sq2, sq3, sq4, sq5, sq6]
          refine tk1 (i := 3) (v := ?v3av) rfl ?y3av ?r3av
          case y3av => (intro w' hSw; (try dsimp only at hSw); go_simp; (try with_reducible rfl))
          try simp only [Act.put, sq1, sq2, sq3, sq4, sq5, sq6]
          refine tk1 (i := 4) (v := ?v4av) rfl ?y4av ?r4av
          case y4av => (intro w' hSw; (try dsimp only at hSw); go_simp; (try with_reducible rfl))
          try simp only [Act.put, sq1, sq2, sq3, sq4, sq5, sq6]
          refine tk1 (i := 5) (v := ?v5av) rfl ?y5av ?r5av
          case y5av => (intro w' hSw; (try dsimp only at hSw); go_simp; (try with_reducible rfl))
          try simp only [Act.put, sq1, sq2, sq3, sq4, sq5, sq6]
          refine tk1 (i := 6) (v := ?v6av) rfl ?y6av ?r6av
          case y6av => (intro w' hSw; (try dsimp only at hSw); go_simp; (try with_reducible rfl))
          try simp only [Act.put, sq1, sq2, sq3, sq4, sq5, sq6]
          refine tk1 (i := 7) (v := ?v7av) rfl ?y7av ?r7av
          case y7av => (intro w' hSw; (try dsimp only at hSw); go_simp; (try with_reducible rfl))
          try simp only [Act.put, sq1, sq2, sq3, sq4, sq5, sq6]
          refine tk1 (i := 8) (v := ?v8av) rfl ?y8av ?r8av
          case y8av => (intro w' hSw; (try dsimp only at hSw); go_simp; (try with_reducible rfl))
          try simp only [Act.put, sq1, sq2, sq3, sq4, sq5, sq6]
          refine wpAnyH_ready (rs := [9]) (by kernel_rfl) (by simp) ?_
          refine AllReadyH.cons (o := _) rfl (fun K hK => ?_) AllReadyH.nil
          go_simp
          refine Calls.mono (HDD.out _ (E.trans EX)) ?_
          rintro e X ⟨rfl, hEX⟩
          dsimp only
          replace EX := EX.trans hEX
          clear hHeld hEX
          refine hK.out _ _ (sK EX) (fun hHeld => ?_)
          clear hK K
          try simp only [Act.put, sq1, sq2, sq3, sq4, sq5, sq6]
          refine tk1 (i := 10) (v := ?v10bv) rfl ?y10bv ?r10bv
          case y10bv => (intro w' hSw; (try dsimp only at hSw); go_simp; (try simp only [field_hi2, Result.andThen_ok]); (try with_reducible rfl))
          try simp only [Act.put, sq1, sq2, sq3, sq4, sq5, sq6]
          refine wpAnyH_ready (rs := [11]) (by kernel_rfl) (by simp) ?_
          refine AllReadyH.cons (o := _) rfl (fun K hK => ?_) AllReadyH.nil
          go_simp
          refine Calls.mono (HID.out _) ?_
          rintro e X ⟨rfl, hEX⟩
          dsimp only
          replace EX := EX.trans hEX
          clear hHeld hEX
          refine hK.out _ _ (sK EX) (fun hHeld => ?_)
          clear hK K
          try simp only [Act.put, sq1, sq2, sq3, sq4, sq5, sq6]
          refine tk1 (i := 12) (v := ?v12bv) rfl ?y12bv ?r12bv
          case y12bv => (intro w' hSw; (try dsimp only at hSw); go_simp; (try with_reducible rfl))
          try simp only [Act.put, sq1, sq2, sq3, sq4, sq5, sq6]
          refine wpAnyH_done (by kernel_rfl) ?_ _
          have HEE := hid (E.trans EX)
          have H1 := hid (K1.out.ext EX)
          have H2 := hid (K2.out.ext EX)
          clear hHeld EX
          go_wp2
          go_ret2
          exact ⟨by rw [HV.out]; rfl, HEE.out⟩
      · have HV := hid (show T = U by
          rcases HT.out with ⟨h1, h2⟩ | ⟨h1, h2, h3⟩
          · omega
          · omega)
        clear HU HI HD
        go_wp2_with fail
        refine wp_region_held_drew (S := fun w' => (∀ b o, b < wr.heap.size → w'.cell? ⟨b, o, none⟩ = wr.cell? ⟨b, o, none⟩) ∧ wr.heap.size ≤ w'.heap.size ∧ Ext wr w') (by kernel_rfl) ?hS0 (fun hHeld => ?_)
        case hS0 => exact sK (Ext.drew (Ext.refl _))
        have X0 : Ext wr wr.drew := Ext.drew (Ext.refl wr)
        have EX := X0
        obtain ⟨X, hX⟩ : ∃ X, wr.drew = X := ⟨_, rfl⟩
        rw [hX] at EX hHeld ⊢
        clear hX X0
        have HZ9 := hid (show decide (Dy ≤ 99999) = false from decide_eq_false (by omega))
        refine tk1 (i := 0) (v := ?v0z) rfl ?y0z ?r0z
        case y0z => (intro w' hSw; (try dsimp only at hSw); go_simp; (try with_reducible rfl))
        try simp only [Act.put, sq1, sq2, sq3, sq4, sq5, sq6]
        refine tk1 (i := 1) (v := ?v1z) rfl ?y1z ?r1z
        case y1z => (intro w' hSw; (try dsimp only at hSw); go_simp; (try simp only [HZ9.out]); (try with_reducible rfl))
        try simp only [Act.put, sq1, sq2, sq3, sq4, sq5, sq6]
        refine tk1 (i := 2) (v := ?v2z) rfl ?y2z ?r2z
        case y2z => (intro w' hSw; (try dsimp only at hSw); go_simp; (try with_reducible rfl))
        try simp only [Act.put, sq1, sq2, sq3, sq4, sq5, sq6]
        refine tku1 (i := 3) rfl ?r3z
        try simp only [Act.put, sq1, sq2, sq3, sq4, sq5, sq6]
        refine tku1 (i := 4) rfl ?r4z
        try simp only [Act.put, sq1, sq2, sq3, sq4, sq5, sq6]
        refine tku1 (i := 5) rfl ?r5z
        try simp only [Act.put, sq1, sq2, sq3, sq4, sq5, sq6]
        refine tku1 (i := 6) rfl ?r6z
        try simp only [Act.put, sq1, sq2, sq3, sq4, sq5, sq6]
        refine tku1 (i := 7) rfl ?r7z
        try simp only [Act.put, sq1, sq2, sq3, sq4, sq5, sq6]
        refine tku1 (i := 8) rfl ?r8z
        try simp only [Act.put, sq1, sq2, sq3, sq4, sq5, sq6]
        refine tku1 (i := 9) rfl ?r9z
        try simp only [Act.put, sq1, sq2, sq3, sq4, sq5, sq6]
        refine tku1 (i := 10) rfl ?r10z
        try simp only [Act.put, sq1, sq2, sq3, sq4, sq5, sq6]
        refine tku1 (i := 11) rfl ?r11z
        try simp only [Act.put, sq1, sq2, sq3, sq4, sq5, sq6]
        refine tk1 (i := 12) (v := ?v12z) rfl ?y12z ?r12z
        case y12z => (intro w' hSw; (try dsimp only at hSw); go_simp; (try with_reducible rfl))
        try simp only [Act.put, sq1, sq2, sq3, sq4, sq5, sq6]
        refine wpAnyH_done (by kernel_rfl) ?_ _
        have HEE := hid (E.trans EX)
        clear hHeld EX
        go_wp2
        go_ret2
        exact ⟨by rw [HV.out]; rfl, HEE.out⟩
  · have hv : untV m r = 0 := by unfold untV; rw [if_neg h0]
    rw [hv]
    clear hv HB HD HI Z0
    obtain ⟨E, hE0⟩ : ∃ E, takE m r = E := ⟨_, rfl⟩
    rw [hE0] at h0 HC ⊢
    clear hE0
    unfold Md.val Ro.val at *
    obtain ⟨sh, us, be, ws⟩ := m
    obtain ⟨ma, fi, le, fs⟩ := r
    dsimp only at *
    generalize ws.length = n at *
    generalize fs.length = k at *
    have h0' : (E == 0) = false := by simp; exact h0
    go_enter Tryz.func22, Tryz.ntmps22
    go_wp2_with fail
    refine Calls.mono (HC.out _ (by (repeat' (first | with_reducible assumption | with_reducible exact Ext.refl _ | with_reducible refine Ext.alloc ?_ _ | with_reducible refine Ext.set ?_ ?_ _ | with_reducible refine Ext.drew ?_ | with_reducible refine Ext.drewN ?_ _ | with_reducible refine Ext.trans ?_ (by assumption) | (dsimp only; omega))))) ?_
    rintro e w2 ⟨rfl, hE⟩
    have SE := hid (show Ext w w2 by (repeat' (first | with_reducible assumption | with_reducible exact Ext.refl _ | with_reducible refine Ext.alloc ?_ _ | with_reducible refine Ext.set ?_ ?_ _ | with_reducible refine Ext.drew ?_ | with_reducible refine Ext.drewN ?_ _ | with_reducible refine Ext.trans ?_ (by assumption) | (dsimp only; omega))))
    clear hE HC
    go_wp2_with fail
    go_ret2
    exact ⟨rfl, SE.out⟩
end Go.Proofs.YtdhljpngkeobcaaGreat
/- Copies of models and ropes. -/
set_option linter.unusedSimpArgs false
set_option linter.unusedVariables false
namespace Go.Proofs.YtdhljpngkeobcaaGreat
open Go.RowKit
def gFl (x : Fl) : List Value := [.int .i64 x.day, .int .i64 x.hl, .int .i64 x.hh, .int .i64 x.ol, .int .i64 x.oh]
theorem infoFl : (Tryz.prog.info? 75).map (fun i => (i.zero, i.size, i.bytes)) = some (some (.agg #[.int .i64 0, .int .i64 0, .int .i64 0, .int .i64 0, .int .i64 0]), 5, 40) := by kernel_rfl
theorem oneFl : ∀ y : Fl, ∀ u ∈ gFl y, u.oneCell' = true := by
  intro y u hu
  simp only [gFl, List.mem_cons, List.not_mem_nil, or_false] at hu
  rcases hu with rfl | rfl | rfl | rfl | rfl <;> rfl
theorem append_noFl (z : Nat) (A : Option Addr) (c : Nat) (ty : TypeId) (w : World) : (Builtin.append_ #[25, 25] ty #[.slice (some ⟨z, 0, none⟩) 0 0, .slice A 0 c]).run Tryz.prog w = .ok (.slice (some ⟨z, 0, none⟩) 0 0) w := by
  obtain ⟨i0, hi, hz0, hz1, hz2⟩ := info_parts infoFl
  cases A with
  | none => simp [Builtin.append_, run_underlying Tryz.underlying25, sizeOf, typeInfo, hi, Builtin.lenOf, Builtin.firstCells, loadCells, loadCellsFrom, storeCells]
  | some ad => simp [Builtin.append_, run_underlying Tryz.underlying25, sizeOf, typeInfo, hi, Builtin.lenOf, Builtin.firstCells, loadCells, loadCellsFrom, storeCells]
theorem wp_appAllFl {o : Oper} {a : Act} {K : Act → World → Prop} {Q : Exit → Act → World → Prop} (w : World) (s x : Operand)
    (ho : o.op = .call { callee := .builtin .append, args := #[s, x], argTypes := #[25, 25] }) (B z : Nat) (A : Option Addr) (c : Nat) (os : List Fl) (hs : a.eval s = .slice (some ⟨z, 0, none⟩) 0 0) (hz : Blk w z 75 #[]) (hBz : B ≤ z)
    (n : Nat) (hn : os.length = n) (hx : a.eval x = .slice A n c) (hO : FlsAt w A os) (hl : n ≤ 10000)
    (h : ∀ v' w', Ownl 75 5 gFl w' B v' os → w.grownBy w' (some z) → K (a.put o.dst v') w') : o.wp Tryz.prog a w K Q := by
  subst hn
  have hlt := hz.lt
  have h0r : w.ownsRow B 75 5 (.slice (some ⟨z, 0, none⟩) 0 0) 0 [] := ⟨rfl, .inr ⟨z, 0, #[], rfl, hBz, hz, Nat.le_refl _, Nat.zero_le _, rfl, rfl⟩⟩
  by_cases h0 : os = []
  · subst h0
    have hr := append_noFl z A c o.type w
    unfold Oper.wp execOp
    simp only [ho, resolve, invoke, builtin, Sem.run_bind, Sem.run_pure, Result.andThen_ok, List.map_toArray, List.map_cons, List.map_nil, hs, hx, List.length_nil, hr]
    exact h (.slice (some ⟨z, 0, none⟩) 0 0) w h0r ⟨rfl, rfl, rfl, Nat.le_refl _, fun _ _ _ => rfl⟩
  · obtain ⟨b, off, rfl, hb, hc⟩ := hO h0
    obtain ⟨i0, hi, hz0, hz1, hz2⟩ := info_parts infoFl
    refine wp_append_own w s x 25 ho B 75 i0 _ 5 40 Tryz.underlying25 hi hz0 hz1 hz2 rfl (by decide) (.slice (some ⟨z, 0, none⟩) 0 0) 0 [] hs h0r ⟨b, off, none⟩ os.length c (os.flatMap gFl) hx (fm_len gFl 5 (fun _ => rfl) os) (flat_from (s := 5) (g := gFl) (d := zeroFl) (by decide) (fun _ => rfl) (fun k hk r hr => ?_)) (fun u hu => ?_) (by unfold maxLen; omega) (by omega) (by omega) (fun v' w' h1 h2 h3 => ?_)
    · have hkk := hc k hk
      generalize os.getD k zeroFl = y at *
      rw [← Nat.add_assoc]
      (match r, hr with
      | 0, _ => exact hkk.c0
      | 1, _ => exact hkk.c1
      | 2, _ => exact hkk.c2
      | 3, _ => exact hkk.c3
      | 4, _ => exact hkk.c4)
    · obtain ⟨y, -, hy⟩ := List.mem_flatMap.1 hu
      exact oneFl y u hy
    · rw [Nat.zero_add, List.nil_append] at h1
      exact h v' w' h1 h2
theorem wpList_appAllFl {ops : Array Oper} {rest : List Oper} {o : Oper} {a : Act} {Q : Exit → Act → World → Prop} (w : World) (hgd : o.guard = none) (s x : Operand)
    (ho : o.op = .call { callee := .builtin .append, args := #[s, x], argTypes := #[25, 25] }) (B z : Nat) (A : Option Addr) (c : Nat) (os : List Fl) (hs : a.eval s = .slice (some ⟨z, 0, none⟩) 0 0) (hz : Blk w z 75 #[]) (hBz : B ≤ z)
    (n : Nat) (hn : os.length = n) (hx : a.eval x = .slice A n c) (hO : FlsAt w A os) (hl : n ≤ 10000)
    (h : ∀ v' w', Ownl 75 5 gFl w' B v' os → w.grownBy w' (some z) → wpList Tryz.prog ops Q rest (a.put o.dst v') w') : wpList Tryz.prog ops Q (o :: rest) a w :=
  wpList_plain hgd fun _ hK => wp_appAllFl w s x ho B z A c os hs hz hBz n hn hx hO hl fun v' w' h1 h2 => hK _ _ (h v' w' h1 h2)
theorem flatFl {w : World} {A : Option Addr} {xs : List Fl} (h : FlatAt 5 gFl zeroFl w A xs) : FlsAt w A xs := fun hne => by
  obtain ⟨b, off, hA, hb, hc⟩ := h hne
  exact ⟨b, off, hA, hb, fun k hk => ⟨hc k hk 0 (by omega), hc k hk 1 (by omega), hc k hk 2 (by omega), hc k hk 3 (by omega), hc k hk 4 (by omega)⟩⟩
theorem ownFl {w : World} {B : Nat} {v : Value} {xs : List Fl} (h : Ownl 75 5 gFl w B v xs) : ∃ A c, v = .slice A xs.length c ∧ xs.length ≤ c ∧ FlsAt w A xs := by
  obtain ⟨A, c, h1, h2, h3, -⟩ := h.form (by decide) (fun _ => rfl) zeroFl
  exact ⟨A, c, h1, h2, flatFl h3⟩
theorem wpList_app1Fl {ops : Array Oper} {rest : List Oper} {o : Oper} {a : Act} {Q : Exit → Act → World → Prop} (w : World) (hg : o.guard = none) (s x : Operand)
    (hop : o.op = Op.call { callee := Callee.builtin Builtin.append, args := #[s, x], argTypes := #[25, 25] }) (B : Nat) (v : Value) (xs : List Fl) (hs : a.eval s = v) (hown : Ownl 75 5 gFl w B v xs)
    (z : Nat) (y : Fl) (hx : a.eval x = .slice (some ⟨z, 0, none⟩) 1 1) (hy : Blk w z 75 #[.int .i64 y.day, .int .i64 y.hl, .int .i64 y.hh, .int .i64 y.ol, .int .i64 y.oh]) (hl : xs.length ≤ 10000) (hB : B ≤ w.heap.size)
    (hK : ∀ v' w', Ownl 75 5 gFl w' B v' (xs ++ [y]) → w.grownBy w' v.ownBlock → (v'.ownBlock = v.ownBlock ∨ v'.ownBlock = some w.heap.size) → wpList Tryz.prog ops Q rest (a.put o.dst v') w') : wpList Tryz.prog ops Q (o :: rest) a w := by
  obtain ⟨i0, hi, hz0, hz1, hz2⟩ := info_parts infoFl
  refine wpList_append_own_at (w := w) hg s x 25 hop B 75 i0 _ 5 40 Tryz.underlying25 hi hz0 hz1 hz2 rfl (by decide) v xs.length (xs.flatMap gFl) hs hown ⟨z, 0, none⟩ 1 1 (gFl y) hx rfl ?_ (oneFl y) (by unfold maxLen; omega) (by omega) hB (fun v' w' h1 h2 _ h4 => hK v' w' (Ownl.snoc h1) h2 h4)
  intro j u hj
  rw [addr_add, Nat.zero_add, hy.cell]
  match j, hj with
  | 0, hj => exact hj
  | 1, hj => exact hj
  | 2, hj => exact hj
  | 3, hj => exact hj
  | 4, hj => exact hj
  | j + 5, hj => simp [gFl] at hj
def gWr (x : Wr) : List Value := [.int .i64 x.fac, .int .i64 x.dmg]
theorem infoWr : (Tryz.prog.info? 148).map (fun i => (i.zero, i.size, i.bytes)) = some (some (.agg #[.int .i64 0, .int .i64 0]), 2, 16) := by kernel_rfl
theorem oneWr : ∀ y : Wr, ∀ u ∈ gWr y, u.oneCell' = true := by
  intro y u hu
  simp only [gWr, List.mem_cons, List.not_mem_nil, or_false] at hu
  rcases hu with rfl | rfl <;> rfl
theorem append_noWr (z : Nat) (A : Option Addr) (c : Nat) (ty : TypeId) (w : World) : (Builtin.append_ #[22, 22] ty #[.slice (some ⟨z, 0, none⟩) 0 0, .slice A 0 c]).run Tryz.prog w = .ok (.slice (some ⟨z, 0, none⟩) 0 0) w := by
  obtain ⟨i0, hi, hz0, hz1, hz2⟩ := info_parts infoWr
  cases A with
  | none => simp [Builtin.append_, run_underlying Tryz.underlying22, sizeOf, typeInfo, hi, Builtin.lenOf, Builtin.firstCells, loadCells, loadCellsFrom, storeCells]
  | some ad => simp [Builtin.append_, run_underlying Tryz.underlying22, sizeOf, typeInfo, hi, Builtin.lenOf, Builtin.firstCells, loadCells, loadCellsFrom, storeCells]
theorem wp_appAllWr {o : Oper} {a : Act} {K : Act → World → Prop} {Q : Exit → Act → World → Prop} (w : World) (s x : Operand)
    (ho : o.op = .call { callee := .builtin .append, args := #[s, x], argTypes := #[22, 22] }) (B z : Nat) (A : Option Addr) (c : Nat) (os : List Wr) (hs : a.eval s = .slice (some ⟨z, 0, none⟩) 0 0) (hz : Blk w z 148 #[]) (hBz : B ≤ z)
    (n : Nat) (hn : os.length = n) (hx : a.eval x = .slice A n c) (hO : WrsAt w A os) (hl : n ≤ 10000)
    (h : ∀ v' w', Ownl 148 2 gWr w' B v' os → w.grownBy w' (some z) → K (a.put o.dst v') w') : o.wp Tryz.prog a w K Q := by
  subst hn
  have hlt := hz.lt
  have h0r : w.ownsRow B 148 2 (.slice (some ⟨z, 0, none⟩) 0 0) 0 [] := ⟨rfl, .inr ⟨z, 0, #[], rfl, hBz, hz, Nat.le_refl _, Nat.zero_le _, rfl, rfl⟩⟩
  by_cases h0 : os = []
  · subst h0
    have hr := append_noWr z A c o.type w
    unfold Oper.wp execOp
    simp only [ho, resolve, invoke, builtin, Sem.run_bind, Sem.run_pure, Result.andThen_ok, List.map_toArray, List.map_cons, List.map_nil, hs, hx, List.length_nil, hr]
    exact h (.slice (some ⟨z, 0, none⟩) 0 0) w h0r ⟨rfl, rfl, rfl, Nat.le_refl _, fun _ _ _ => rfl⟩
  · obtain ⟨b, off, rfl, hb, hc⟩ := hO h0
    obtain ⟨i0, hi, hz0, hz1, hz2⟩ := info_parts infoWr
    refine wp_append_own w s x 22 ho B 148 i0 _ 2 16 Tryz.underlying22 hi hz0 hz1 hz2 rfl (by decide) (.slice (some ⟨z, 0, none⟩) 0 0) 0 [] hs h0r ⟨b, off, none⟩ os.length c (os.flatMap gWr) hx (fm_len gWr 2 (fun _ => rfl) os) (flat_from (s := 2) (g := gWr) (d := zeroWr) (by decide) (fun _ => rfl) (fun k hk r hr => ?_)) (fun u hu => ?_) (by unfold maxLen; omega) (by omega) (by omega) (fun v' w' h1 h2 h3 => ?_)
    · have hkk := hc k hk
      generalize os.getD k zeroWr = y at *
      rw [← Nat.add_assoc]
      (match r, hr with
      | 0, _ => exact hkk.c0
      | 1, _ => exact hkk.c1)
    · obtain ⟨y, -, hy⟩ := List.mem_flatMap.1 hu
      exact oneWr y u hy
    · rw [Nat.zero_add, List.nil_append] at h1
      exact h v' w' h1 h2
theorem wpList_appAllWr {ops : Array Oper} {rest : List Oper} {o : Oper} {a : Act} {Q : Exit → Act → World → Prop} (w : World) (hgd : o.guard = none) (s x : Operand)
    (ho : o.op = .call { callee := .builtin .append, args := #[s, x], argTypes := #[22, 22] }) (B z : Nat) (A : Option Addr) (c : Nat) (os : List Wr) (hs : a.eval s = .slice (some ⟨z, 0, none⟩) 0 0) (hz : Blk w z 148 #[]) (hBz : B ≤ z)
    (n : Nat) (hn : os.length = n) (hx : a.eval x = .slice A n c) (hO : WrsAt w A os) (hl : n ≤ 10000)
    (h : ∀ v' w', Ownl 148 2 gWr w' B v' os → w.grownBy w' (some z) → wpList Tryz.prog ops Q rest (a.put o.dst v') w') : wpList Tryz.prog ops Q (o :: rest) a w :=
  wpList_plain hgd fun _ hK => wp_appAllWr w s x ho B z A c os hs hz hBz n hn hx hO hl fun v' w' h1 h2 => hK _ _ (h v' w' h1 h2)
theorem flatWr {w : World} {A : Option Addr} {xs : List Wr} (h : FlatAt 2 gWr zeroWr w A xs) : WrsAt w A xs := fun hne => by
  obtain ⟨b, off, hA, hb, hc⟩ := h hne
  exact ⟨b, off, hA, hb, fun k hk => ⟨hc k hk 0 (by omega), hc k hk 1 (by omega)⟩⟩
theorem ownWr {w : World} {B : Nat} {v : Value} {xs : List Wr} (h : Ownl 148 2 gWr w B v xs) : ∃ A c, v = .slice A xs.length c ∧ xs.length ≤ c ∧ WrsAt w A xs := by
  obtain ⟨A, c, h1, h2, h3, -⟩ := h.form (by decide) (fun _ => rfl) zeroWr
  exact ⟨A, c, h1, h2, flatWr h3⟩
end Go.Proofs.YtdhljpngkeobcaaGreat
/- CopyRope and CopyModel of the specification. -/
set_option linter.unusedSimpArgs false
set_option linter.unusedVariables false
namespace Go.Proofs.YtdhljpngkeobcaaGreat
open Go.RowKit
theorem Blk.st4 {W : World} {b : Nat} {t : TypeId} {x0 x1 x2 x3 : Value} (h : Blk W b t #[x0, x1, x2, x3]) (y0 y1 y2 y3 : Value) :
    Blk ((((W.setCell ⟨b, 0, none⟩ y0).setCell ⟨b, 1, none⟩ y1).setCell ⟨b, 2, none⟩ y2).setCell ⟨b, 3, none⟩ y3) b t #[y0, y1, y2, y3] := by
  have h3 := (((h.setAt 0 y0).setAt 1 y1).setAt 2 y2).setAt 3 y3
  simp only [List.setIfInBounds_toArray, List.set_cons_zero, List.set_cons_succ] at h3
  exact h3
set_option maxRecDepth 100000 in
set_option maxHeartbeats 4000000 in
theorem copyRope_any (r : Ro) (A : Option Addr) (c : Nat) (hm : r.falls.length ≤ 10000) (w : World) (hx : FlsAt w A r.falls) :
    Calls Tryz.prog 16 #[r.val A c] w fun e w' => ∃ A' c', e = .returned (r.val A' c') ∧ Ownl 75 5 gFl w' w.heap.size (.slice A' r.falls.length c') r.falls ∧ Ext w w' := by
  have HX := hid hx
  have HRR := hid (show ∀ (A' : Option Addr) (c' : Nat) (w' : World), Ownl 75 5 gFl w' w.heap.size (.slice A' r.falls.length c') r.falls → Ext w w' → ∃ A'' c'', Ending.returned (r.val A' c') = .returned (r.val A'' c'') ∧ Ownl 75 5 gFl w' w.heap.size (.slice A'' r.falls.length c'') r.falls ∧ Ext w w' from fun A' c' w' h2 h3 => ⟨A', c', rfl, h2, h3⟩)
  generalize hQ : (fun (e : Ending) (w' : World) => ∃ A' c', e = .returned (r.val A' c') ∧ Ownl 75 5 gFl w' w.heap.size (.slice A' r.falls.length c') r.falls ∧ Ext w w') = QQ
  have hQe : ∀ e w', QQ e w' = (∃ A' c', e = .returned (r.val A' c') ∧ Ownl 75 5 gFl w' w.heap.size (.slice A' r.falls.length c') r.falls ∧ Ext w w') := fun e w' => by rw [← hQ]
  simp only [← hQe] at HRR
  clear hQ hQe hx
  unfold Ro.val at *
  obtain ⟨ma, fi, le, fs⟩ := r
  dsimp only at *
  obtain ⟨n, hn⟩ : ∃ n, fs.length = n := ⟨_, rfl⟩
  rw [hn] at hm HRR ⊢
  have HN := hid hn
  clear hn
  have t0 := blks2 w (.cells #[.int .i64 ma, .int .i64 fi, .int .i64 le, .slice A n c] 27) (.cells #[.int .i64 0, .int .i64 0, .int .i64 0, .slice none 0 0] 27)
  have B0 := hid (show Blk _ _ _ _ from t0.1)
  have B1 := hid (show Blk _ _ _ _ from t0.2)
  clear t0
  go_enter Tryz.func16, Tryz.ntmps16
  go_wp2_with (at_builtin; refine Halt.mk ?_)
  unfold Halt
  have EW := hid (show Ext w ((w.alloc (.cells #[.int .i64 ma, .int .i64 fi, .int .i64 le, .slice A n c] 27)).alloc (.cells #[.int .i64 0, .int .i64 0, .int .i64 0, .slice none 0 0] 27)) from (ext_alloc1 _ _).trans (ext_alloc1 _ _))
  have hsz : ((w.alloc (.cells #[.int .i64 ma, .int .i64 fi, .int .i64 le, .slice A n c] 27)).alloc (.cells #[.int .i64 0, .int .i64 0, .int .i64 0, .slice none 0 0] 27)).heap.size = w.heap.size + 1 + 1 := by simp
  obtain ⟨W, hW⟩ : ∃ W, (w.alloc (.cells #[.int .i64 ma, .int .i64 fi, .int .i64 le, .slice A n c] 27)).alloc (.cells #[.int .i64 0, .int .i64 0, .int .i64 0, .slice none 0 0] 27) = W := ⟨_, rfl⟩
  rw [hW] at EW hsz B0 B1 ⊢
  clear hW
  refine wpList_appAllFl _ rfl _ _ rfl (w.heap.size + 1 + 1) (w.heap.size + 1 + 1) A c fs rfl (by rw [← hsz]; exact blk_last W _) (Nat.le_refl _) n HN.out rfl ((HX.out.ext EW.out).ext (ext_alloc1 _ _)) hm ?_
  intro v5 w5 hO hg
  obtain ⟨A5, c5, hv5, hle5, -⟩ := ownFl hO
  have hnn := HN.out
  rw [hnn] at hv5
  subst hv5
  have HO := hid hO
  have E5 := hid (show Ext w w5 from Below.grown (EW.out.alloc (.cells #[] 75)) hg (EW.out.alloc _).size (fun k ek => by cases ek; omega))
  have K0 := hid ((B0.out.alloc (.cells #[] 75)).grown hg (by simp; omega))
  have K1 := hid ((B1.out.alloc (.cells #[] 75)).grown hg (by first | (simp; done) | (simp; omega)))
  clear hO hg B0 B1 EW hnn
  obtain ⟨a0, a1, a2, a3⟩ : _ ∧ _ ∧ _ ∧ _ := ⟨K0.out.cell 0, K0.out.cell 1, K0.out.cell 2, K0.out.cell 3⟩
  obtain ⟨p0, p1, p2, p3⟩ : _ ∧ _ ∧ _ ∧ _ := ⟨K0.out.fro 0, K0.out.fro 1, K0.out.fro 2, K0.out.fro 3⟩
  obtain ⟨b0, b1, b2, b3⟩ : _ ∧ _ ∧ _ ∧ _ := ⟨K1.out.cell 0, K1.out.cell 1, K1.out.cell 2, K1.out.cell 3⟩
  obtain ⟨q0, q1, q2, q3⟩ : _ ∧ _ ∧ _ ∧ _ := ⟨K1.out.fro 0, K1.out.fro 1, K1.out.fro 2, K1.out.fro 3⟩
  have z0 := K0.out.lt
  have z1 := K1.out.lt
  simp only [List.getElem?_toArray, List.getElem?_cons_zero, List.getElem?_cons_succ] at a0 a1 a2 a3 b0 b1 b2 b3
  go_wp2_with fail
  refine body_abs (fun X => Blk X (w.heap.size + 1) 27 #[.int .i64 ma, .int .i64 fi, .int .i64 le, .slice A5 n c5] ∧ Ownl 75 5 gFl X (w.heap.size + 1 + 1) (.slice A5 n c5) fs ∧ Ext w X) ⟨?hb, ?ho, ?he⟩ ?_
  case hb => exact Blk.st4 (K1.out.other (p := ⟨w.heap.size, 3, none⟩) (by dsimp only; omega) _) _ _ _ _
  case ho => exact ((((HO.out.other (p := ⟨w.heap.size, 3, none⟩) (by dsimp only; omega) _).other (p := ⟨w.heap.size + 1, 0, none⟩) (by dsimp only; omega) _).other (p := ⟨w.heap.size + 1, 1, none⟩) (by dsimp only; omega) _).other (p := ⟨w.heap.size + 1, 2, none⟩) (by dsimp only; omega) _).other (p := ⟨w.heap.size + 1, 3, none⟩) (by dsimp only; omega) _
  case he => exact ((((E5.out.set (p := ⟨w.heap.size, 3, none⟩) (by dsimp only; omega) _).set (p := ⟨w.heap.size + 1, 0, none⟩) (by dsimp only; omega) _).set (p := ⟨w.heap.size + 1, 1, none⟩) (by dsimp only; omega) _).set (p := ⟨w.heap.size + 1, 2, none⟩) (by dsimp only; omega) _).set (p := ⟨w.heap.size + 1, 3, none⟩) (by dsimp only; omega) _
  rintro X ⟨hB, hOX, XE⟩
  have r0 := hB.cell 0
  have r1 := hB.cell 1
  have r2 := hB.cell 2
  have r3 := hB.cell 3
  simp only [List.getElem?_toArray, List.getElem?_cons_zero, List.getElem?_cons_succ] at r0 r1 r2 r3
  exact bodyPost_ret (v := .agg #[.int .i64 ma, .int .i64 fi, .int .i64 le, .slice A5 n c5]) (by simp [results, Tryz.results16, go_sem, r0, r1, r2, r3]) rfl (HRR.out A5 c5 X (hOX.low (by omega)) XE)
set_option maxRecDepth 100000 in
set_option maxHeartbeats 4000000 in
theorem copyModel_any (m : Md) (A : Option Addr) (c : Nat) (hm : m.wears.length ≤ 10000) (w : World) (hx : WrsAt w A m.wears) :
    Calls Tryz.prog 15 #[m.val A c] w fun e w' => ∃ A' c', e = .returned (m.val A' c') ∧ Ownl 148 2 gWr w' w.heap.size (.slice A' m.wears.length c') m.wears ∧ Ext w w' := by
  have HX := hid hx
  have HRR := hid (show ∀ (A' : Option Addr) (c' : Nat) (w' : World), Ownl 148 2 gWr w' w.heap.size (.slice A' m.wears.length c') m.wears → Ext w w' → ∃ A'' c'', Ending.returned (m.val A' c') = .returned (m.val A'' c'') ∧ Ownl 148 2 gWr w' w.heap.size (.slice A'' m.wears.length c'') m.wears ∧ Ext w w' from fun A' c' w' h2 h3 => ⟨A', c', rfl, h2, h3⟩)
  generalize hQ : (fun (e : Ending) (w' : World) => ∃ A' c', e = .returned (m.val A' c') ∧ Ownl 148 2 gWr w' w.heap.size (.slice A' m.wears.length c') m.wears ∧ Ext w w') = QQ
  have hQe : ∀ e w', QQ e w' = (∃ A' c', e = .returned (m.val A' c') ∧ Ownl 148 2 gWr w' w.heap.size (.slice A' m.wears.length c') m.wears ∧ Ext w w') := fun e w' => by rw [← hQ]
  simp only [← hQe] at HRR
  clear hQ hQe hx
  unfold Md.val at *
  obtain ⟨ma, fi, le, fs⟩ := m
  dsimp only at *
  obtain ⟨n, hn⟩ : ∃ n, fs.length = n := ⟨_, rfl⟩
  rw [hn] at hm HRR ⊢
  have HN := hid hn
  clear hn
  have t0 := blks2 w (.cells #[.int .i64 ma, .int .i64 fi, .int .i64 le, .slice A n c] 24) (.cells #[.int .i64 0, .int .i64 0, .int .i64 0, .slice none 0 0] 24)
  have B0 := hid (show Blk _ _ _ _ from t0.1)
  have B1 := hid (show Blk _ _ _ _ from t0.2)
  clear t0
  go_enter Tryz.func15, Tryz.ntmps15
  go_wp2_with (at_builtin; refine Halt.mk ?_)
  unfold Halt
  have EW := hid (show Ext w ((w.alloc (.cells #[.int .i64 ma, .int .i64 fi, .int .i64 le, .slice A n c] 24)).alloc (.cells #[.int .i64 0, .int .i64 0, .int .i64 0, .slice none 0 0] 24)) from (ext_alloc1 _ _).trans (ext_alloc1 _ _))
  have hsz : ((w.alloc (.cells #[.int .i64 ma, .int .i64 fi, .int .i64 le, .slice A n c] 24)).alloc (.cells #[.int .i64 0, .int .i64 0, .int .i64 0, .slice none 0 0] 24)).heap.size = w.heap.size + 1 + 1 := by simp
  obtain ⟨W, hW⟩ : ∃ W, (w.alloc (.cells #[.int .i64 ma, .int .i64 fi, .int .i64 le, .slice A n c] 24)).alloc (.cells #[.int .i64 0, .int .i64 0, .int .i64 0, .slice none 0 0] 24) = W := ⟨_, rfl⟩
  rw [hW] at EW hsz B0 B1 ⊢
  clear hW
  refine wpList_appAllWr _ rfl _ _ rfl (w.heap.size + 1 + 1) (w.heap.size + 1 + 1) A c fs rfl (by rw [← hsz]; exact blk_last W _) (Nat.le_refl _) n HN.out rfl ((HX.out.ext EW.out).ext (ext_alloc1 _ _)) hm ?_
  intro v5 w5 hO hg
  obtain ⟨A5, c5, hv5, hle5, -⟩ := ownWr hO
  have hnn := HN.out
  rw [hnn] at hv5
  subst hv5
  have HO := hid hO
  have E5 := hid (show Ext w w5 from Below.grown (EW.out.alloc (.cells #[] 148)) hg (EW.out.alloc _).size (fun k ek => by cases ek; omega))
  have K0 := hid ((B0.out.alloc (.cells #[] 148)).grown hg (by simp; omega))
  have K1 := hid ((B1.out.alloc (.cells #[] 148)).grown hg (by first | (simp; done) | (simp; omega)))
  clear hO hg B0 B1 EW hnn
  obtain ⟨a0, a1, a2, a3⟩ : _ ∧ _ ∧ _ ∧ _ := ⟨K0.out.cell 0, K0.out.cell 1, K0.out.cell 2, K0.out.cell 3⟩
  obtain ⟨p0, p1, p2, p3⟩ : _ ∧ _ ∧ _ ∧ _ := ⟨K0.out.fro 0, K0.out.fro 1, K0.out.fro 2, K0.out.fro 3⟩
  obtain ⟨b0, b1, b2, b3⟩ : _ ∧ _ ∧ _ ∧ _ := ⟨K1.out.cell 0, K1.out.cell 1, K1.out.cell 2, K1.out.cell 3⟩
  obtain ⟨q0, q1, q2, q3⟩ : _ ∧ _ ∧ _ ∧ _ := ⟨K1.out.fro 0, K1.out.fro 1, K1.out.fro 2, K1.out.fro 3⟩
  have z0 := K0.out.lt
  have z1 := K1.out.lt
  simp only [List.getElem?_toArray, List.getElem?_cons_zero, List.getElem?_cons_succ] at a0 a1 a2 a3 b0 b1 b2 b3
  go_wp2_with fail
  refine body_abs (fun X => Blk X (w.heap.size + 1) 24 #[.int .i64 ma, .int .i64 fi, .int .i64 le, .slice A5 n c5] ∧ Ownl 148 2 gWr X (w.heap.size + 1 + 1) (.slice A5 n c5) fs ∧ Ext w X) ⟨?hb, ?ho, ?he⟩ ?_
  case hb => exact Blk.st4 (K1.out.other (p := ⟨w.heap.size, 3, none⟩) (by dsimp only; omega) _) _ _ _ _
  case ho => exact ((((HO.out.other (p := ⟨w.heap.size, 3, none⟩) (by dsimp only; omega) _).other (p := ⟨w.heap.size + 1, 0, none⟩) (by dsimp only; omega) _).other (p := ⟨w.heap.size + 1, 1, none⟩) (by dsimp only; omega) _).other (p := ⟨w.heap.size + 1, 2, none⟩) (by dsimp only; omega) _).other (p := ⟨w.heap.size + 1, 3, none⟩) (by dsimp only; omega) _
  case he => exact ((((E5.out.set (p := ⟨w.heap.size, 3, none⟩) (by dsimp only; omega) _).set (p := ⟨w.heap.size + 1, 0, none⟩) (by dsimp only; omega) _).set (p := ⟨w.heap.size + 1, 1, none⟩) (by dsimp only; omega) _).set (p := ⟨w.heap.size + 1, 2, none⟩) (by dsimp only; omega) _).set (p := ⟨w.heap.size + 1, 3, none⟩) (by dsimp only; omega) _
  rintro X ⟨hB, hOX, XE⟩
  have r0 := hB.cell 0
  have r1 := hB.cell 1
  have r2 := hB.cell 2
  have r3 := hB.cell 3
  simp only [List.getElem?_toArray, List.getElem?_cons_zero, List.getElem?_cons_succ] at r0 r1 r2 r3
  exact bodyPost_ret (v := .agg #[.int .i64 ma, .int .i64 fi, .int .i64 le, .slice A5 n c5]) (by simp [results, Tryz.results15, go_sem, r0, r1, r2, r3]) rfl (HRR.out A5 c5 X (hOX.low (by omega)) XE)
end Go.Proofs.YtdhljpngkeobcaaGreat
