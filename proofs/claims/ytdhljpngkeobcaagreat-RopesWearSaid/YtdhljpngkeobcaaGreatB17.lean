/- Which models are valid: the specification. -/
import Derived.Test.YtdhljpngkeobcaaGreatB16
import Derived.Test.YtdhljpngkeobcaaGreatB07
set_option linter.unusedSimpArgs false
set_option linter.unusedVariables false
namespace Go.Proofs.YtdhljpngkeobcaaGreat
open Go.RowKit
set_option maxRecDepth 100000 in
set_option maxHeartbeats 8000000 in
theorem rIsModel_any (m : Md) (A : Option Addr) (c : Nat) (hm : m.wears.length ≤ 1000) (w : World) (hx : WrsAt w A m.wears) :
    Calls Tryz.prog 80 #[m.val A c] w fun e w' => e = .returned (.bool (mdB m)) ∧ Ext w w' := by
  have HX := hid hx
  have HW := hid (fun a b c W => rwithin_any a b c W)
  rw [mdB_eq]
  unfold Md.val
  obtain ⟨sh, us, be, ws⟩ := m
  dsimp only at *
  obtain ⟨n, hn⟩ : ∃ n, ws.length = n := ⟨_, rfl⟩
  rw [hn] at hm ⊢
  have HN := hid hn
  have HB1 := hid (fun k (h : k < ws.length) (hp : wrB (ws.getD k zeroWr) = false) => prK_bad1 (r := wrO) h hp)
  have HB2 := hid (fun j k (hj : j + 1 = k) (h : k < ws.length) (hr : wrO (ws.getD j zeroWr) (ws.getD k zeroWr) = false) => prK_bad2 (p := wrB) hj h hr)
  have HS1 := hid (fun (h : 0 < ws.length) (hp : wrB (ws.getD 0 zeroWr) = true) => prK_one wrB wrO zeroWr ws h hp)
  have HS := hid (fun j k (hj : j + 1 = k) (h : k < ws.length) ha hp hr => prK_succ wrB wrO zeroWr ws j k hj h ha hp hr)
  have HE := hid (fun k (h : ws.length = k) ha => prK_end (p := wrB) (r := wrO) (d := zeroWr) (xs := ws) (k := k) h ha)
  have H0 := hid (prK_zero wrB wrO zeroWr ws)
  have B0 := hid (show Blk _ _ _ _ from blk_last w (.cells #[.int .i64 sh, .int .i64 us, .int .i64 be, .slice A n c] 24))
  clear hx hn
  generalize (ws.all wrB && ordB wrO zeroWr ws) = R at *
  generalize hPK : (fun k => prK wrB wrO zeroWr ws k) = PK at *
  have hPe : ∀ k, prK wrB wrO zeroWr ws k = PK k := fun k => by rw [← hPK]
  simp only [hPe] at HS1 HS HE H0
  clear hPK hPe
  obtain ⟨b1, h1⟩ : ∃ b, inI sh 1 10000 = b := ⟨_, rfl⟩
  obtain ⟨b2, h2⟩ : ∃ b, inI us 1 10000 = b := ⟨_, rfl⟩
  obtain ⟨b3, h3⟩ : ∃ b, inI be 0 100 = b := ⟨_, rfl⟩
  rw [h1, h2, h3]
  cases b1
  case false => go_enter Tryz.func80, Tryz.ntmps80
                go_wp2_with (go_at_call 76; refine (HW.out _ _ _ _).mono ?_; rintro e w2 ⟨rfl, rfl⟩; simp only [h1, h2, h3])
                go_ret
                exact ⟨ret_bool (by simp [*]), by (repeat' (first | with_reducible assumption | with_reducible exact Ext.refl _ | with_reducible refine Ext.alloc ?_ _ | with_reducible refine Ext.set ?_ ?_ _ | with_reducible refine Ext.drew ?_ | with_reducible refine Ext.drewN ?_ _ | with_reducible refine Ext.trans ?_ (by assumption) | (dsimp only; omega)))⟩
  cases b2
  case false => go_enter Tryz.func80, Tryz.ntmps80
                go_wp2_with (go_at_call 76; refine (HW.out _ _ _ _).mono ?_; rintro e w2 ⟨rfl, rfl⟩; simp only [h1, h2, h3])
                go_ret
                exact ⟨ret_bool (by simp [*]), by (repeat' (first | with_reducible assumption | with_reducible exact Ext.refl _ | with_reducible refine Ext.alloc ?_ _ | with_reducible refine Ext.set ?_ ?_ _ | with_reducible refine Ext.drew ?_ | with_reducible refine Ext.drewN ?_ _ | with_reducible refine Ext.trans ?_ (by assumption) | (dsimp only; omega)))⟩
  cases b3
  case false => go_enter Tryz.func80, Tryz.ntmps80
                go_wp2_with (go_at_call 76; refine (HW.out _ _ _ _).mono ?_; rintro e w2 ⟨rfl, rfl⟩; simp only [h1, h2, h3])
                go_ret
                exact ⟨ret_bool (by simp [*]), by (repeat' (first | with_reducible assumption | with_reducible exact Ext.refl _ | with_reducible refine Ext.alloc ?_ _ | with_reducible refine Ext.set ?_ ?_ _ | with_reducible refine Ext.drew ?_ | with_reducible refine Ext.drewN ?_ _ | with_reducible refine Ext.trans ?_ (by assumption) | (dsimp only; omega)))⟩
  by_cases h4 : n ≤ 6
  case neg => go_enter Tryz.func80, Tryz.ntmps80
              go_wp2_with (go_at_call 76; refine (HW.out _ _ _ _).mono ?_; rintro e w2 ⟨rfl, rfl⟩; simp only [h1, h2, h3])
              go_ret
              exact ⟨ret_bool (by simp [*]), by (repeat' (first | with_reducible assumption | with_reducible exact Ext.refl _ | with_reducible refine Ext.alloc ?_ _ | with_reducible refine Ext.set ?_ ?_ _ | with_reducible refine Ext.drew ?_ | with_reducible refine Ext.drewN ?_ _ | with_reducible refine Ext.trans ?_ (by assumption) | (dsimp only; omega)))⟩
  have h4' : ¬ (6 : Int) < (n : Int) := by omega
  rw [decide_eq_true h4]
  simp only [Bool.and_self, Bool.true_and]
  go_enter Tryz.func80, Tryz.ntmps80
  go_wp2_with (go_at_call 76; refine (HW.out _ _ _ _).mono ?_; rintro e w2 ⟨rfl, rfl⟩; simp only [h1, h2, h3])
  go_loopw [3] (fun i wr => Ext w wr ∧ Hid (Blk wr w.heap.size 24 #[.int .i64 sh, .int .i64 us, .int .i64 be, .slice A n c]) ∧ ∃ k : Nat, k ≤ n ∧ i = .int .i64 k ∧ Hid (PK k = true)) (fun i _ => n - (intOf i).toNat)
  case atStart => exact ⟨by (repeat' (first | with_reducible assumption | with_reducible exact Ext.refl _ | with_reducible refine Ext.alloc ?_ _ | with_reducible refine Ext.set ?_ ?_ _ | with_reducible refine Ext.drew ?_ | with_reducible refine Ext.drewN ?_ _ | with_reducible refine Ext.trans ?_ (by assumption) | (dsimp only; omega))), B0, 0, Nat.zero_le _, rfl, H0⟩
  case round =>
    obtain ⟨E, K0, k, hk, rfl, HA⟩ := hrel
    clear B0 H0
    have a3 := K0.out.cell 3
    have z0 := K0.out.lt
    simp only [List.getElem?_toArray, List.getElem?_cons_zero, List.getElem?_cons_succ] at a3
    by_cases hlt : k < n
    · obtain ⟨b, off, rfl, hb, hck⟩ := (HX.out.ext E).at_ HN.out hlt
      have hkl : k < ws.length := by rw [HN.out]; exact hlt
      have hk0 : (0 : Int) ≤ (k : Int) := by omega
      have hk1 : (k : Int) < (n : Int) := by omega
      have HB1k := hid (HB1.out k hkl)
      have HWB := hid (show wrB (ws.getD k zeroWr) = (inI (ws.getD k zeroWr).fac 1 200 && inI (ws.getD k zeroWr).dmg 0 100) from rfl)
      obtain ⟨x1, hx1⟩ : ∃ b, inI (ws.getD k zeroWr).fac 1 200 = b := ⟨_, rfl⟩
      obtain ⟨x2, hx2⟩ : ∃ b, inI (ws.getD k zeroWr).dmg 0 100 = b := ⟨_, rfl⟩
      rw [hx1, hx2] at HWB
      by_cases hk9 : k = 0
      · have HS9 := hid (show wrB (ws.getD k zeroWr) = true → PK (k + 1) = true by subst hk9; exact HS1.out hkl)
        have HZ := hid (show decide ((0 : Int) < (k : Int)) = false from decide_eq_false (by omega))
        have HZ2 := hid (show decide (0 < k) = false from decide_eq_false (by omega))
        clear HS1 HS HB1 HB2 HE HA hk9
        generalize ws.getD k zeroWr = x at *
        obtain ⟨xf, xd⟩ := x
        obtain ⟨c0, c1⟩ := hck
        dsimp only at *
        have HF1 := hid (fun W : World => by have := HW.out xf 1 200 W; rw [hx1] at this; exact this)
        have HF2 := hid (fun W : World => by have := HW.out xd 0 100 W; rw [hx2] at this; exact this)
        clear hx1 hx2 HX HW
        go_wp2_with fail
        have EE := hid E
        have e0 := K0.out.alloc (.cells #[.int .i64 xf, .int .i64 xd] 148)
        have e1 := Blk.new wr 148 #[.int .i64 xf, .int .i64 xd]
        have EA := E.alloc (.cells #[.int .i64 xf, .int .i64 xd] 148)
        have EV := (Ext.refl wr).alloc (.cells #[.int .i64 xf, .int .i64 xd] 148)
        obtain ⟨V, hV⟩ : ∃ V, wr.alloc (.cells #[.int .i64 xf, .int .i64 xd] 148) = V := ⟨_, rfl⟩
        rw [hV] at e0 e1 EA EV ⊢
        clear hV
        have KV := hid e0
        replace EA := hid EA
        obtain ⟨f0, f1⟩ : _ ∧ _ := ⟨e1.cell 0, e1.cell 1⟩
        replace a3 := e0.cell 3
        have z1 := e0.lt
        have z2 := e1.lt
        replace c0 := (EV.cell (p := ⟨b, _, none⟩) hb).trans c0
        replace c1 := (EV.cell (p := ⟨b, _, none⟩) hb).trans c1
        (try replace d0 := (EV.cell (p := ⟨b, _, none⟩) hb).trans d0)
        (try replace d1 := (EV.cell (p := ⟨b, _, none⟩) hb).trans d1)
        have hbV := Nat.lt_of_lt_of_le hb EV.size
        simp only [List.getElem?_toArray, List.getElem?_cons_zero, List.getElem?_cons_succ] at a3 f0 f1
        clear e0 e1 EV E K0
        refine wp_region_held_drew (S := fun w' => (∀ b o, b < V.heap.size → w'.cell? ⟨b, o, none⟩ = V.cell? ⟨b, o, none⟩) ∧ V.heap.size ≤ w'.heap.size ∧ Ext V w') (by kernel_rfl) ?hS0 (fun hHeld => ?_)
        case hS0 => exact sK (Ext.drew (Ext.refl _))
        have X0 : Ext V V.drew := Ext.drew (Ext.refl V)
        have EX := X0
        obtain ⟨X, hX⟩ : ∃ X, V.drew = X := ⟨_, rfl⟩
        rw [hX] at EX hHeld ⊢
        clear hX X0
        refine tk1 (i := 0) (v := ?v0au) rfl ?y0au ?r0au
        case y0au => (intro w' hSw; (try dsimp only at hSw); go_simp; (try with_reducible rfl))
        try simp only [Act.put, sq1, sq2, sq3, sq4, sq5, sq6]
        refine tk1 (i := 1) (v := ?v1au) rfl ?y1au ?r1au
        case y1au => (intro w' hSw; (try dsimp only at hSw); go_simp; (try with_reducible rfl))
        try simp only [Act.put, sq1, sq2, sq3, sq4, sq5, sq6]
        refine wpAnyH_ready (rs := [2]) (by kernel_rfl) (by simp) ?_
        refine AllReadyH.cons (o := _) rfl (fun K hK => ?_) AllReadyH.nil
        go_simp
        refine Calls.mono (HF1.out _) ?_
        rintro e X9 ⟨rfl, hEX⟩
        obtain rfl := hEX.symm
        dsimp only
        clear hHeld
        refine hK.out _ _ (sK EX) (fun hHeld => ?_)
        clear hK K
        try simp only [Act.put, sq1, sq2, sq3, sq4, sq5, sq6]
        cases x1
        case false =>
          have HRR := hid (HB1k.out HWB.out)
          refine tk1 (i := 3) (v := ?v3bu) rfl ?y3bu ?r3bu
          case y3bu => (intro w' hSw; (try dsimp only at hSw); go_simp; (try with_reducible rfl))
          try simp only [Act.put, sq1, sq2, sq3, sq4, sq5, sq6]
          refine tk1 (i := 4) (v := ?v4bu) rfl ?y4bu ?r4bu
          case y4bu => (intro w' hSw; (try dsimp only at hSw); go_simp; (try with_reducible rfl))
          try simp only [Act.put, sq1, sq2, sq3, sq4, sq5, sq6]
          refine tku1 (i := 5) rfl ?r5bu
          try simp only [Act.put, sq1, sq2, sq3, sq4, sq5, sq6]
          refine tku1 (i := 6) rfl ?r6bu
          try simp only [Act.put, sq1, sq2, sq3, sq4, sq5, sq6]
          refine tku1 (i := 7) rfl ?r7bu
          try simp only [Act.put, sq1, sq2, sq3, sq4, sq5, sq6]
          refine tku1 (i := 8) rfl ?r8bu
          try simp only [Act.put, sq1, sq2, sq3, sq4, sq5, sq6]
          refine tk1 (i := 9) (v := ?v9bu) rfl ?y9bu ?r9bu
          case y9bu => (intro w' hSw; (try dsimp only at hSw); go_simp; (try with_reducible rfl))
          try simp only [Act.put, sq1, sq2, sq3, sq4, sq5, sq6]
          refine tk1 (i := 10) (v := ?v10bu) rfl ?y10bu ?r10bu
          case y10bu => (intro w' hSw; (try dsimp only at hSw); go_simp; (try with_reducible rfl))
          try simp only [Act.put, sq1, sq2, sq3, sq4, sq5, sq6]
          refine tku1 (i := 11) rfl ?r11bu
          try simp only [Act.put, sq1, sq2, sq3, sq4, sq5, sq6]
          refine tku1 (i := 12) rfl ?r12bu
          try simp only [Act.put, sq1, sq2, sq3, sq4, sq5, sq6]
          refine tku1 (i := 13) rfl ?r13bu
          try simp only [Act.put, sq1, sq2, sq3, sq4, sq5, sq6]
          refine tku1 (i := 14) rfl ?r14bu
          try simp only [Act.put, sq1, sq2, sq3, sq4, sq5, sq6]
          refine tku1 (i := 15) rfl ?r15bu
          try simp only [Act.put, sq1, sq2, sq3, sq4, sq5, sq6]
          refine tku1 (i := 16) rfl ?r16bu
          try simp only [Act.put, sq1, sq2, sq3, sq4, sq5, sq6]
          refine tku1 (i := 17) rfl ?r17bu
          try simp only [Act.put, sq1, sq2, sq3, sq4, sq5, sq6]
          refine tku1 (i := 18) rfl ?r18bu
          try simp only [Act.put, sq1, sq2, sq3, sq4, sq5, sq6]
          refine tku1 (i := 19) rfl ?r19bu
          try simp only [Act.put, sq1, sq2, sq3, sq4, sq5, sq6]
          refine tku1 (i := 20) rfl ?r20bu
          try simp only [Act.put, sq1, sq2, sq3, sq4, sq5, sq6]
          refine tku1 (i := 21) rfl ?r21bu
          try simp only [Act.put, sq1, sq2, sq3, sq4, sq5, sq6]
          refine tku1 (i := 22) rfl ?r22bu
          try simp only [Act.put, sq1, sq2, sq3, sq4, sq5, sq6]
          refine tku1 (i := 23) rfl ?r23bu
          try simp only [Act.put, sq1, sq2, sq3, sq4, sq5, sq6]
          refine tku1 (i := 24) rfl ?r24bu
          try simp only [Act.put, sq1, sq2, sq3, sq4, sq5, sq6]
          refine tku1 (i := 25) rfl ?r25bu
          try simp only [Act.put, sq1, sq2, sq3, sq4, sq5, sq6]
          refine tku1 (i := 26) rfl ?r26bu
          try simp only [Act.put, sq1, sq2, sq3, sq4, sq5, sq6]
          refine tku1 (i := 27) rfl ?r27bu
          try simp only [Act.put, sq1, sq2, sq3, sq4, sq5, sq6]
          refine tku1 (i := 28) rfl ?r28bu
          try simp only [Act.put, sq1, sq2, sq3, sq4, sq5, sq6]
          refine tku1 (i := 29) rfl ?r29bu
          try simp only [Act.put, sq1, sq2, sq3, sq4, sq5, sq6]
          refine tku1 (i := 30) rfl ?r30bu
          try simp only [Act.put, sq1, sq2, sq3, sq4, sq5, sq6]
          refine tku1 (i := 31) rfl ?r31bu
          try simp only [Act.put, sq1, sq2, sq3, sq4, sq5, sq6]
          refine tku1 (i := 32) rfl ?r32bu
          try simp only [Act.put, sq1, sq2, sq3, sq4, sq5, sq6]
          refine tku1 (i := 33) rfl ?r33bu
          try simp only [Act.put, sq1, sq2, sq3, sq4, sq5, sq6]
          refine tku1 (i := 34) rfl ?r34bu
          try simp only [Act.put, sq1, sq2, sq3, sq4, sq5, sq6]
          refine tku1 (i := 35) rfl ?r35bu
          try simp only [Act.put, sq1, sq2, sq3, sq4, sq5, sq6]
          refine tku1 (i := 36) rfl ?r36bu
          try simp only [Act.put, sq1, sq2, sq3, sq4, sq5, sq6]
          refine tk1 (i := 37) (v := ?v37bu) rfl ?y37bu ?r37bu
          case y37bu => (intro w' hSw; (try dsimp only at hSw); go_simp; (try with_reducible rfl))
          try simp only [Act.put, sq1, sq2, sq3, sq4, sq5, sq6]
          refine wpAnyH_done (by kernel_rfl) ?_ _
          have HEE := hid (EA.out.trans EX)
          clear hHeld EX
          go_wp2
          go_ret
          exact ⟨ret_bool HRR.out.symm, HEE.out⟩
        cases x2
        case false =>
          have HRR := hid (HB1k.out HWB.out)
          refine tk1 (i := 3) (v := ?v3bv) rfl ?y3bv ?r3bv
          case y3bv => (intro w' hSw; (try dsimp only at hSw); go_simp; (try with_reducible rfl))
          try simp only [Act.put, sq1, sq2, sq3, sq4, sq5, sq6]
          refine tk1 (i := 4) (v := ?v4bv) rfl ?y4bv ?r4bv
          case y4bv => (intro w' hSw; (try dsimp only at hSw); go_simp; (try with_reducible rfl))
          try simp only [Act.put, sq1, sq2, sq3, sq4, sq5, sq6]
          refine tk1 (i := 5) (v := ?v5bv) rfl ?y5bv ?r5bv
          case y5bv => (intro w' hSw; (try dsimp only at hSw); go_simp; (try with_reducible rfl))
          try simp only [Act.put, sq1, sq2, sq3, sq4, sq5, sq6]
          refine tk1 (i := 6) (v := ?v6bv) rfl ?y6bv ?r6bv
          case y6bv => (intro w' hSw; (try dsimp only at hSw); go_simp; (try with_reducible rfl))
          try simp only [Act.put, sq1, sq2, sq3, sq4, sq5, sq6]
          refine wpAnyH_ready (rs := [7]) (by kernel_rfl) (by simp) ?_
          refine AllReadyH.cons (o := _) rfl (fun K hK => ?_) AllReadyH.nil
          go_simp
          refine Calls.mono (HF2.out _) ?_
          rintro e X9 ⟨rfl, hEX⟩
          obtain rfl := hEX.symm
          dsimp only
          clear hHeld
          refine hK.out _ _ (sK EX) (fun hHeld => ?_)
          clear hK K
          try simp only [Act.put, sq1, sq2, sq3, sq4, sq5, sq6]
          refine tk1 (i := 8) (v := ?v8bv) rfl ?y8bv ?r8bv
          case y8bv => (intro w' hSw; (try dsimp only at hSw); go_simp; (try with_reducible rfl))
          try simp only [Act.put, sq1, sq2, sq3, sq4, sq5, sq6]
          refine tk1 (i := 9) (v := ?v9bv) rfl ?y9bv ?r9bv
          case y9bv => (intro w' hSw; (try dsimp only at hSw); go_simp; (try with_reducible rfl))
          try simp only [Act.put, sq1, sq2, sq3, sq4, sq5, sq6]
          refine tk1 (i := 10) (v := ?v10bv) rfl ?y10bv ?r10bv
          case y10bv => (intro w' hSw; (try dsimp only at hSw); go_simp; (try with_reducible rfl))
          try simp only [Act.put, sq1, sq2, sq3, sq4, sq5, sq6]
          refine tku1 (i := 11) rfl ?r11bv
          try simp only [Act.put, sq1, sq2, sq3, sq4, sq5, sq6]
          refine tku1 (i := 12) rfl ?r12bv
          try simp only [Act.put, sq1, sq2, sq3, sq4, sq5, sq6]
          refine tku1 (i := 13) rfl ?r13bv
          try simp only [Act.put, sq1, sq2, sq3, sq4, sq5, sq6]
          refine tku1 (i := 14) rfl ?r14bv
          try simp only [Act.put, sq1, sq2, sq3, sq4, sq5, sq6]
          refine tku1 (i := 15) rfl ?r15bv
          try simp only [Act.put, sq1, sq2, sq3, sq4, sq5, sq6]
          refine tku1 (i := 16) rfl ?r16bv
          try simp only [Act.put, sq1, sq2, sq3, sq4, sq5, sq6]
          refine tku1 (i := 17) rfl ?r17bv
          try simp only [Act.put, sq1, sq2, sq3, sq4, sq5, sq6]
          refine tku1 (i := 18) rfl ?r18bv
          try simp only [Act.put, sq1, sq2, sq3, sq4, sq5, sq6]
          refine tku1 (i := 19) rfl ?r19bv
          try simp only [Act.put, sq1, sq2, sq3, sq4, sq5, sq6]
          refine tku1 (i := 20) rfl ?r20bv
          try simp only [Act.put, sq1, sq2, sq3, sq4, sq5, sq6]
          refine tku1 (i := 21) rfl ?r21bv
          try simp only [Act.put, sq1, sq2, sq3, sq4, sq5, sq6]
          refine tku1 (i := 22) rfl ?r22bv
          try simp only [Act.put, sq1, sq2, sq3, sq4, sq5, sq6]
          refine tku1 (i := 23) rfl ?r23bv
          try simp only [Act.put, sq1, sq2, sq3, sq4, sq5, sq6]
          refine tku1 (i := 24) rfl ?r24bv
          try simp only [Act.put, sq1, sq2, sq3, sq4, sq5, sq6]
          refine tku1 (i := 25) rfl ?r25bv
          try simp only [Act.put, sq1, sq2, sq3, sq4, sq5, sq6]
          refine tku1 (i := 26) rfl ?r26bv
          try simp only [Act.put, sq1, sq2, sq3, sq4, sq5, sq6]
          refine tku1 (i := 27) rfl ?r27bv
          try simp only [Act.put, sq1, sq2, sq3, sq4, sq5, sq6]
          refine tku1 (i := 28) rfl ?r28bv
          try simp only [Act.put, sq1, sq2, sq3, sq4, sq5, sq6]
          refine tku1 (i := 29) rfl ?r29bv
          try simp only [Act.put, sq1, sq2, sq3, sq4, sq5, sq6]
          refine tku1 (i := 30) rfl ?r30bv
          try simp only [Act.put, sq1, sq2, sq3, sq4, sq5, sq6]
          refine tku1 (i := 31) rfl ?r31bv
          try simp only [Act.put, sq1, sq2, sq3, sq4, sq5, sq6]
          refine tku1 (i := 32) rfl ?r32bv
          try simp only [Act.put, sq1, sq2, sq3, sq4, sq5, sq6]
          refine tku1 (i := 33) rfl ?r33bv
          try simp only [Act.put, sq1, sq2, sq3, sq4, sq5, sq6]
          refine tku1 (i := 34) rfl ?r34bv
          try simp only [Act.put, sq1, sq2, sq3, sq4, sq5, sq6]
          refine tku1 (i := 35) rfl ?r35bv
          try simp only [Act.put, sq1, sq2, sq3, sq4, sq5, sq6]
          refine tku1 (i := 36) rfl ?r36bv
          try simp only [Act.put, sq1, sq2, sq3, sq4, sq5, sq6]
          refine tk1 (i := 37) (v := ?v37bv) rfl ?y37bv ?r37bv
          case y37bv => (intro w' hSw; (try dsimp only at hSw); go_simp; (try with_reducible rfl))
          try simp only [Act.put, sq1, sq2, sq3, sq4, sq5, sq6]
          refine wpAnyH_done (by kernel_rfl) ?_ _
          have HEE := hid (EA.out.trans EX)
          clear hHeld EX
          go_wp2
          go_ret
          exact ⟨ret_bool HRR.out.symm, HEE.out⟩
        have HRR := hid (HS9.out HWB.out)
        refine tk1 (i := 3) (v := ?v3bw) rfl ?y3bw ?r3bw
        case y3bw => (intro w' hSw; (try dsimp only at hSw); go_simp; (try with_reducible rfl))
        try simp only [Act.put, sq1, sq2, sq3, sq4, sq5, sq6]
        refine tk1 (i := 4) (v := ?v4bw) rfl ?y4bw ?r4bw
        case y4bw => (intro w' hSw; (try dsimp only at hSw); go_simp; (try with_reducible rfl))
        try simp only [Act.put, sq1, sq2, sq3, sq4, sq5, sq6]
        refine tk1 (i := 5) (v := ?v5bw) rfl ?y5bw ?r5bw
        case y5bw => (intro w' hSw; (try dsimp only at hSw); go_simp; (try with_reducible rfl))
        try simp only [Act.put, sq1, sq2, sq3, sq4, sq5, sq6]
        refine tk1 (i := 6) (v := ?v6bw) rfl ?y6bw ?r6bw
        case y6bw => (intro w' hSw; (try dsimp only at hSw); go_simp; (try with_reducible rfl))
        try simp only [Act.put, sq1, sq2, sq3, sq4, sq5, sq6]
        refine wpAnyH_ready (rs := [7]) (by kernel_rfl) (by simp) ?_
        refine AllReadyH.cons (o := _) rfl (fun K hK => ?_) AllReadyH.nil
        go_simp
        refine Calls.mono (HF2.out _) ?_
        rintro e X9 ⟨rfl, hEX⟩
        obtain rfl := hEX.symm
        dsimp only
        clear hHeld
        refine hK.out _ _ (sK EX) (fun hHeld => ?_)
        clear hK K
        try simp only [Act.put, sq1, sq2, sq3, sq4, sq5, sq6]
        refine tk1 (i := 8) (v := ?v8bw) rfl ?y8bw ?r8bw
        case y8bw => (intro w' hSw; (try dsimp only at hSw); go_simp; (try with_reducible rfl))
        try simp only [Act.put, sq1, sq2, sq3, sq4, sq5, sq6]
        refine tk1 (i := 9) (v := ?v9bw) rfl ?y9bw ?r9bw
        case y9bw => (intro w' hSw; (try dsimp only at hSw); go_simp; (try with_reducible rfl))
        try simp only [Act.put, sq1, sq2, sq3, sq4, sq5, sq6]
        refine tk1 (i := 10) (v := ?v10bw) rfl ?y10bw ?r10bw
        case y10bw => (intro w' hSw; (try dsimp only at hSw); go_simp; (try with_reducible rfl))
        try simp only [Act.put, sq1, sq2, sq3, sq4, sq5, sq6]
        refine tk1 (i := 11) (v := ?v11bw) rfl ?y11bw ?r11bw
        case y11bw => (intro w' hSw; (try dsimp only at hSw); go_simp; (try with_reducible rfl))
        try simp only [Act.put, sq1, sq2, sq3, sq4, sq5, sq6]
        refine tk1 (i := 12) (v := ?v12bw) rfl ?y12bw ?r12bw
        case y12bw => (intro w' hSw; (try dsimp only at hSw); go_simp; (try simp only [HZ.out, HZ2.out]); (try with_reducible rfl))
        try simp only [Act.put, sq1, sq2, sq3, sq4, sq5, sq6]
        refine tk1 (i := 13) (v := ?v13bw) rfl ?y13bw ?r13bw
        case y13bw => (intro w' hSw; (try dsimp only at hSw); go_simp; (try with_reducible rfl))
        try simp only [Act.put, sq1, sq2, sq3, sq4, sq5, sq6]
        refine tku1 (i := 14) rfl ?r14ew
        try simp only [Act.put, sq1, sq2, sq3, sq4, sq5, sq6]
        refine tku1 (i := 15) rfl ?r15ew
        try simp only [Act.put, sq1, sq2, sq3, sq4, sq5, sq6]
        refine tku1 (i := 16) rfl ?r16ew
        try simp only [Act.put, sq1, sq2, sq3, sq4, sq5, sq6]
        refine tku1 (i := 17) rfl ?r17ew
        try simp only [Act.put, sq1, sq2, sq3, sq4, sq5, sq6]
        refine tku1 (i := 18) rfl ?r18ew
        try simp only [Act.put, sq1, sq2, sq3, sq4, sq5, sq6]
        refine tku1 (i := 19) rfl ?r19ew
        try simp only [Act.put, sq1, sq2, sq3, sq4, sq5, sq6]
        refine tku1 (i := 20) rfl ?r20ew
        try simp only [Act.put, sq1, sq2, sq3, sq4, sq5, sq6]
        refine tku1 (i := 21) rfl ?r21ew
        try simp only [Act.put, sq1, sq2, sq3, sq4, sq5, sq6]
        refine tku1 (i := 22) rfl ?r22ew
        try simp only [Act.put, sq1, sq2, sq3, sq4, sq5, sq6]
        refine tku1 (i := 23) rfl ?r23ew
        try simp only [Act.put, sq1, sq2, sq3, sq4, sq5, sq6]
        refine tku1 (i := 24) rfl ?r24ew
        try simp only [Act.put, sq1, sq2, sq3, sq4, sq5, sq6]
        refine tku1 (i := 25) rfl ?r25ew
        try simp only [Act.put, sq1, sq2, sq3, sq4, sq5, sq6]
        refine tku1 (i := 26) rfl ?r26ew
        try simp only [Act.put, sq1, sq2, sq3, sq4, sq5, sq6]
        refine tku1 (i := 27) rfl ?r27ew
        try simp only [Act.put, sq1, sq2, sq3, sq4, sq5, sq6]
        refine tku1 (i := 28) rfl ?r28ew
        try simp only [Act.put, sq1, sq2, sq3, sq4, sq5, sq6]
        refine tku1 (i := 29) rfl ?r29ew
        try simp only [Act.put, sq1, sq2, sq3, sq4, sq5, sq6]
        refine tku1 (i := 30) rfl ?r30ew
        try simp only [Act.put, sq1, sq2, sq3, sq4, sq5, sq6]
        refine tku1 (i := 31) rfl ?r31ew
        try simp only [Act.put, sq1, sq2, sq3, sq4, sq5, sq6]
        refine tku1 (i := 32) rfl ?r32ew
        try simp only [Act.put, sq1, sq2, sq3, sq4, sq5, sq6]
        refine tku1 (i := 33) rfl ?r33ew
        try simp only [Act.put, sq1, sq2, sq3, sq4, sq5, sq6]
        refine tku1 (i := 34) rfl ?r34ew
        try simp only [Act.put, sq1, sq2, sq3, sq4, sq5, sq6]
        refine tku1 (i := 35) rfl ?r35ew
        try simp only [Act.put, sq1, sq2, sq3, sq4, sq5, sq6]
        refine tk1 (i := 36) (v := ?v36ew) rfl ?y36ew ?r36ew
        case y36ew => (intro w' hSw; (try dsimp only at hSw); go_simp; (try with_reducible rfl))
        try simp only [Act.put, sq1, sq2, sq3, sq4, sq5, sq6]
        refine tk1 (i := 37) (v := ?v37ew) rfl ?y37ew ?r37ew
        case y37ew => (intro w' hSw; (try dsimp only at hSw); go_simp; (try with_reducible rfl))
        try simp only [Act.put, sq1, sq2, sq3, sq4, sq5, sq6]
        refine wpAnyH_done (by kernel_rfl) ?_ _
        have HEE := hid (EA.out.trans EX)
        have HKK := hid (KV.out.ext EX)
        clear hHeld EX
        go_wp2
        go_roundw
        case rel => exact ⟨HEE.out, HKK, k + 1, by omega, by go_num, HRR⟩
        case measure => simp [intOf]; omega
      · obtain ⟨p, hp⟩ : ∃ p, p + 1 = k := ⟨k - 1, by omega⟩
        have hpl : p < n := by omega
        obtain ⟨b', off', hAe, hb', hck'⟩ := (HX.out.ext E).at_ HN.out hpl
        cases hAe
        have hw1 : IntKind.i64.wrap ((k : Int) - 1) = (p : Int) := by rw [IntWalk.i64_in _ (by omega)]; omega
        have hp0 : (0 : Int) ≤ (p : Int) := by omega
        have hp1 : (p : Int) < (n : Int) := by omega
        have HZ := hid (show decide ((0 : Int) < (k : Int)) = true from decide_eq_true (by omega))
        have HZ2 := hid (show decide (0 < k) = true from decide_eq_true (by omega))
        have HS9 := hid (HS.out p k hp hkl HA.out)
        have HB9 := hid (HB2.out p k hp hkl)
        clear HS1 HS HB1 HB2 HE HA
        generalize ws.getD k zeroWr = x at *
        generalize ws.getD p zeroWr = y at *
        obtain ⟨xf, xd⟩ := x
        obtain ⟨yf, yd⟩ := y
        obtain ⟨c0, c1⟩ := hck
        obtain ⟨d0, d1⟩ := hck'
        unfold wrO at HS9 HB9
        dsimp only at *
        have HF1 := hid (fun W : World => by have := HW.out xf 1 200 W; rw [hx1] at this; exact this)
        have HF2 := hid (fun W : World => by have := HW.out xd 0 100 W; rw [hx2] at this; exact this)
        clear hx1 hx2 HX HW hp
        go_wp2_with fail
        have EE := hid E
        have e0 := K0.out.alloc (.cells #[.int .i64 xf, .int .i64 xd] 148)
        have e1 := Blk.new wr 148 #[.int .i64 xf, .int .i64 xd]
        have EA := E.alloc (.cells #[.int .i64 xf, .int .i64 xd] 148)
        have EV := (Ext.refl wr).alloc (.cells #[.int .i64 xf, .int .i64 xd] 148)
        obtain ⟨V, hV⟩ : ∃ V, wr.alloc (.cells #[.int .i64 xf, .int .i64 xd] 148) = V := ⟨_, rfl⟩
        rw [hV] at e0 e1 EA EV ⊢
        clear hV
        have KV := hid e0
        replace EA := hid EA
        obtain ⟨f0, f1⟩ : _ ∧ _ := ⟨e1.cell 0, e1.cell 1⟩
        replace a3 := e0.cell 3
        have z1 := e0.lt
        have z2 := e1.lt
        replace c0 := (EV.cell (p := ⟨b, _, none⟩) hb).trans c0
        replace c1 := (EV.cell (p := ⟨b, _, none⟩) hb).trans c1
        (try replace d0 := (EV.cell (p := ⟨b, _, none⟩) hb).trans d0)
        (try replace d1 := (EV.cell (p := ⟨b, _, none⟩) hb).trans d1)
        have hbV := Nat.lt_of_lt_of_le hb EV.size
        simp only [List.getElem?_toArray, List.getElem?_cons_zero, List.getElem?_cons_succ] at a3 f0 f1
        clear e0 e1 EV E K0
        refine wp_region_held_drew (S := fun w' => (∀ b o, b < V.heap.size → w'.cell? ⟨b, o, none⟩ = V.cell? ⟨b, o, none⟩) ∧ V.heap.size ≤ w'.heap.size ∧ Ext V w') (by kernel_rfl) ?hS0 (fun hHeld => ?_)
        case hS0 => exact sK (Ext.drew (Ext.refl _))
        have X0 : Ext V V.drew := Ext.drew (Ext.refl V)
        have EX := X0
        obtain ⟨X, hX⟩ : ∃ X, V.drew = X := ⟨_, rfl⟩
        rw [hX] at EX hHeld ⊢
        clear hX X0
        refine tk1 (i := 0) (v := ?v0ak) rfl ?y0ak ?r0ak
        case y0ak => (intro w' hSw; (try dsimp only at hSw); go_simp; (try with_reducible rfl))
        try simp only [Act.put, sq1, sq2, sq3, sq4, sq5, sq6]
        refine tk1 (i := 1) (v := ?v1ak) rfl ?y1ak ?r1ak
        case y1ak => (intro w' hSw; (try dsimp only at hSw); go_simp; (try with_reducible rfl))
        try simp only [Act.put, sq1, sq2, sq3, sq4, sq5, sq6]
        refine wpAnyH_ready (rs := [2]) (by kernel_rfl) (by simp) ?_
        refine AllReadyH.cons (o := _) rfl (fun K hK => ?_) AllReadyH.nil
        go_simp
        refine Calls.mono (HF1.out _) ?_
        rintro e X9 ⟨rfl, hEX⟩
        obtain rfl := hEX.symm
        dsimp only
        clear hHeld
        refine hK.out _ _ (sK EX) (fun hHeld => ?_)
        clear hK K
        try simp only [Act.put, sq1, sq2, sq3, sq4, sq5, sq6]
        cases x1
        case false =>
          have HRR := hid (HB1k.out HWB.out)
          refine tk1 (i := 3) (v := ?v3bx) rfl ?y3bx ?r3bx
          case y3bx => (intro w' hSw; (try dsimp only at hSw); go_simp; (try with_reducible rfl))
          try simp only [Act.put, sq1, sq2, sq3, sq4, sq5, sq6]
          refine tk1 (i := 4) (v := ?v4bx) rfl ?y4bx ?r4bx
          case y4bx => (intro w' hSw; (try dsimp only at hSw); go_simp; (try with_reducible rfl))
          try simp only [Act.put, sq1, sq2, sq3, sq4, sq5, sq6]
          refine tku1 (i := 5) rfl ?r5bx
          try simp only [Act.put, sq1, sq2, sq3, sq4, sq5, sq6]
          refine tku1 (i := 6) rfl ?r6bx
          try simp only [Act.put, sq1, sq2, sq3, sq4, sq5, sq6]
          refine tku1 (i := 7) rfl ?r7bx
          try simp only [Act.put, sq1, sq2, sq3, sq4, sq5, sq6]
          refine tku1 (i := 8) rfl ?r8bx
          try simp only [Act.put, sq1, sq2, sq3, sq4, sq5, sq6]
          refine tk1 (i := 9) (v := ?v9bx) rfl ?y9bx ?r9bx
          case y9bx => (intro w' hSw; (try dsimp only at hSw); go_simp; (try with_reducible rfl))
          try simp only [Act.put, sq1, sq2, sq3, sq4, sq5, sq6]
          refine tk1 (i := 10) (v := ?v10bx) rfl ?y10bx ?r10bx
          case y10bx => (intro w' hSw; (try dsimp only at hSw); go_simp; (try with_reducible rfl))
          try simp only [Act.put, sq1, sq2, sq3, sq4, sq5, sq6]
          refine tku1 (i := 11) rfl ?r11bx
          try simp only [Act.put, sq1, sq2, sq3, sq4, sq5, sq6]
          refine tku1 (i := 12) rfl ?r12bx
          try simp only [Act.put, sq1, sq2, sq3, sq4, sq5, sq6]
          refine tku1 (i := 13) rfl ?r13bx
          try simp only [Act.put, sq1, sq2, sq3, sq4, sq5, sq6]
          refine tku1 (i := 14) rfl ?r14bx
          try simp only [Act.put, sq1, sq2, sq3, sq4, sq5, sq6]
          refine tku1 (i := 15) rfl ?r15bx
          try simp only [Act.put, sq1, sq2, sq3, sq4, sq5, sq6]
          refine tku1 (i := 16) rfl ?r16bx
          try simp only [Act.put, sq1, sq2, sq3, sq4, sq5, sq6]
          refine tku1 (i := 17) rfl ?r17bx
          try simp only [Act.put, sq1, sq2, sq3, sq4, sq5, sq6]
          refine tku1 (i := 18) rfl ?r18bx
          try simp only [Act.put, sq1, sq2, sq3, sq4, sq5, sq6]
          refine tku1 (i := 19) rfl ?r19bx
          try simp only [Act.put, sq1, sq2, sq3, sq4, sq5, sq6]
          refine tku1 (i := 20) rfl ?r20bx
          try simp only [Act.put, sq1, sq2, sq3, sq4, sq5, sq6]
          refine tku1 (i := 21) rfl ?r21bx
          try simp only [Act.put, sq1, sq2, sq3, sq4, sq5, sq6]
          refine tku1 (i := 22) rfl ?r22bx
          try simp only [Act.put, sq1, sq2, sq3, sq4, sq5, sq6]
          refine tku1 (i := 23) rfl ?r23bx
          try simp only [Act.put, sq1, sq2, sq3, sq4, sq5, sq6]
          refine tku1 (i := 24) rfl ?r24bx
          try simp only [Act.put, sq1, sq2, sq3, sq4, sq5, sq6]
          refine tku1 (i := 25) rfl ?r25bx
          try simp only [Act.put, sq1, sq2, sq3, sq4, sq5, sq6]
          refine tku1 (i := 26) rfl ?r26bx
          try simp only [Act.put, sq1, sq2, sq3, sq4, sq5, sq6]
          refine tku1 (i := 27) rfl ?r27bx
          try simp only [Act.put, sq1, sq2, sq3, sq4, sq5, sq6]
          refine tku1 (i := 28) rfl ?r28bx
          try simp only [Act.put, sq1, sq2, sq3, sq4, sq5, sq6]
          refine tku1 (i := 29) rfl ?r29bx
          try simp only [Act.put, sq1, sq2, sq3, sq4, sq5, sq6]
          refine tku1 (i := 30) rfl ?r30bx
          try simp only [Act.put, sq1, sq2, sq3, sq4, sq5, sq6]
          refine tku1 (i := 31) rfl ?r31bx
          try simp only [Act.put, sq1, sq2, sq3, sq4, sq5, sq6]
          refine tku1 (i := 32) rfl ?r32bx
          try simp only [Act.put, sq1, sq2, sq3, sq4, sq5, sq6]
          refine tku1 (i := 33) rfl ?r33bx
          try simp only [Act.put, sq1, sq2, sq3, sq4, sq5, sq6]
          refine tku1 (i := 34) rfl ?r34bx
          try simp only [Act.put, sq1, sq2, sq3, sq4, sq5, sq6]
          refine tku1 (i := 35) rfl ?r35bx
          try simp only [Act.put, sq1, sq2, sq3, sq4, sq5, sq6]
          refine tku1 (i := 36) rfl ?r36bx
          try simp only [Act.put, sq1, sq2, sq3, sq4, sq5, sq6]
          refine tk1 (i := 37) (v := ?v37bx) rfl ?y37bx ?r37bx
          case y37bx => (intro w' hSw; (try dsimp only at hSw); go_simp; (try with_reducible rfl))
          try simp only [Act.put, sq1, sq2, sq3, sq4, sq5, sq6]
          refine wpAnyH_done (by kernel_rfl) ?_ _
          have HEE := hid (EA.out.trans EX)
          clear hHeld EX
          go_wp2
          go_ret
          exact ⟨ret_bool HRR.out.symm, HEE.out⟩
        cases x2
        case false =>
          have HRR := hid (HB1k.out HWB.out)
          refine tk1 (i := 3) (v := ?v3by) rfl ?y3by ?r3by
          case y3by => (intro w' hSw; (try dsimp only at hSw); go_simp; (try with_reducible rfl))
          try simp only [Act.put, sq1, sq2, sq3, sq4, sq5, sq6]
          refine tk1 (i := 4) (v := ?v4by) rfl ?y4by ?r4by
          case y4by => (intro w' hSw; (try dsimp only at hSw); go_simp; (try with_reducible rfl))
          try simp only [Act.put, sq1, sq2, sq3, sq4, sq5, sq6]
          refine tk1 (i := 5) (v := ?v5by) rfl ?y5by ?r5by
          case y5by => (intro w' hSw; (try dsimp only at hSw); go_simp; (try with_reducible rfl))
          try simp only [Act.put, sq1, sq2, sq3, sq4, sq5, sq6]
          refine tk1 (i := 6) (v := ?v6by) rfl ?y6by ?r6by
          case y6by => (intro w' hSw; (try dsimp only at hSw); go_simp; (try with_reducible rfl))
          try simp only [Act.put, sq1, sq2, sq3, sq4, sq5, sq6]
          refine wpAnyH_ready (rs := [7]) (by kernel_rfl) (by simp) ?_
          refine AllReadyH.cons (o := _) rfl (fun K hK => ?_) AllReadyH.nil
          go_simp
          refine Calls.mono (HF2.out _) ?_
          rintro e X9 ⟨rfl, hEX⟩
          obtain rfl := hEX.symm
          dsimp only
          clear hHeld
          refine hK.out _ _ (sK EX) (fun hHeld => ?_)
          clear hK K
          try simp only [Act.put, sq1, sq2, sq3, sq4, sq5, sq6]
          refine tk1 (i := 8) (v := ?v8by) rfl ?y8by ?r8by
          case y8by => (intro w' hSw; (try dsimp only at hSw); go_simp; (try with_reducible rfl))
          try simp only [Act.put, sq1, sq2, sq3, sq4, sq5, sq6]
          refine tk1 (i := 9) (v := ?v9by) rfl ?y9by ?r9by
          case y9by => (intro w' hSw; (try dsimp only at hSw); go_simp; (try with_reducible rfl))
          try simp only [Act.put, sq1, sq2, sq3, sq4, sq5, sq6]
          refine tk1 (i := 10) (v := ?v10by) rfl ?y10by ?r10by
          case y10by => (intro w' hSw; (try dsimp only at hSw); go_simp; (try with_reducible rfl))
          try simp only [Act.put, sq1, sq2, sq3, sq4, sq5, sq6]
          refine tku1 (i := 11) rfl ?r11by
          try simp only [Act.put, sq1, sq2, sq3, sq4, sq5, sq6]
          refine tku1 (i := 12) rfl ?r12by
          try simp only [Act.put, sq1, sq2, sq3, sq4, sq5, sq6]
          refine tku1 (i := 13) rfl ?r13by
          try simp only [Act.put, sq1, sq2, sq3, sq4, sq5, sq6]
          refine tku1 (i := 14) rfl ?r14by
          try simp only [Act.put, sq1, sq2, sq3, sq4, sq5, sq6]
          refine tku1 (i := 15) rfl ?r15by
          try simp only [Act.put, sq1, sq2, sq3, sq4, sq5, sq6]
          refine tku1 (i := 16) rfl ?r16by
          try simp only [Act.put, sq1, sq2, sq3, sq4, sq5, sq6]
          refine tku1 (i := 17) rfl ?r17by
          try simp only [Act.put, sq1, sq2, sq3, sq4, sq5, sq6]
          refine tku1 (i := 18) rfl ?r18by
          try simp only [Act.put, sq1, sq2, sq3, sq4, sq5, sq6]
          refine tku1 (i := 19) rfl ?r19by
          try simp only [Act.put, sq1, sq2, sq3, sq4, sq5, sq6]
          refine tku1 (i := 20) rfl ?r20by
          try simp only [Act.put, sq1, sq2, sq3, sq4, sq5, sq6]
          refine tku1 (i := 21) rfl ?r21by
          try simp only [Act.put, sq1, sq2, sq3, sq4, sq5, sq6]
          refine tku1 (i := 22) rfl ?r22by
          try simp only [Act.put, sq1, sq2, sq3, sq4, sq5, sq6]
          refine tku1 (i := 23) rfl ?r23by
          try simp only [Act.put, sq1, sq2, sq3, sq4, sq5, sq6]
          refine tku1 (i := 24) rfl ?r24by
          try simp only [Act.put, sq1, sq2, sq3, sq4, sq5, sq6]
          refine tku1 (i := 25) rfl ?r25by
          try simp only [Act.put, sq1, sq2, sq3, sq4, sq5, sq6]
          refine tku1 (i := 26) rfl ?r26by
          try simp only [Act.put, sq1, sq2, sq3, sq4, sq5, sq6]
          refine tku1 (i := 27) rfl ?r27by
          try simp only [Act.put, sq1, sq2, sq3, sq4, sq5, sq6]
          refine tku1 (i := 28) rfl ?r28by
          try simp only [Act.put, sq1, sq2, sq3, sq4, sq5, sq6]
          refine tku1 (i := 29) rfl ?r29by
          try simp only [Act.put, sq1, sq2, sq3, sq4, sq5, sq6]
          refine tku1 (i := 30) rfl ?r30by
          try simp only [Act.put, sq1, sq2, sq3, sq4, sq5, sq6]
          refine tku1 (i := 31) rfl ?r31by
          try simp only [Act.put, sq1, sq2, sq3, sq4, sq5, sq6]
          refine tku1 (i := 32) rfl ?r32by
          try simp only [Act.put, sq1, sq2, sq3, sq4, sq5, sq6]
          refine tku1 (i := 33) rfl ?r33by
          try simp only [Act.put, sq1, sq2, sq3, sq4, sq5, sq6]
          refine tku1 (i := 34) rfl ?r34by
          try simp only [Act.put, sq1, sq2, sq3, sq4, sq5, sq6]
          refine tku1 (i := 35) rfl ?r35by
          try simp only [Act.put, sq1, sq2, sq3, sq4, sq5, sq6]
          refine tku1 (i := 36) rfl ?r36by
          try simp only [Act.put, sq1, sq2, sq3, sq4, sq5, sq6]
          refine tk1 (i := 37) (v := ?v37by) rfl ?y37by ?r37by
          case y37by => (intro w' hSw; (try dsimp only at hSw); go_simp; (try with_reducible rfl))
          try simp only [Act.put, sq1, sq2, sq3, sq4, sq5, sq6]
          refine wpAnyH_done (by kernel_rfl) ?_ _
          have HEE := hid (EA.out.trans EX)
          clear hHeld EX
          go_wp2
          go_ret
          exact ⟨ret_bool HRR.out.symm, HEE.out⟩
        refine tk1 (i := 3) (v := ?v3bz) rfl ?y3bz ?r3bz
        case y3bz => (intro w' hSw; (try dsimp only at hSw); go_simp; (try with_reducible rfl))
        try simp only [Act.put, sq1, sq2, sq3, sq4, sq5, sq6]
        refine tk1 (i := 4) (v := ?v4bz) rfl ?y4bz ?r4bz
        case y4bz => (intro w' hSw; (try dsimp only at hSw); go_simp; (try with_reducible rfl))
        try simp only [Act.put, sq1, sq2, sq3, sq4, sq5, sq6]
        refine tk1 (i := 5) (v := ?v5bz) rfl ?y5bz ?r5bz
        case y5bz => (intro w' hSw; (try dsimp only at hSw); go_simp; (try with_reducible rfl))
        try simp only [Act.put, sq1, sq2, sq3, sq4, sq5, sq6]
        refine tk1 (i := 6) (v := ?v6bz) rfl ?y6bz ?r6bz
        case y6bz => (intro w' hSw; (try dsimp only at hSw); go_simp; (try with_reducible rfl))
        try simp only [Act.put, sq1, sq2, sq3, sq4, sq5, sq6]
        refine wpAnyH_ready (rs := [7]) (by kernel_rfl) (by simp) ?_
        refine AllReadyH.cons (o := _) rfl (fun K hK => ?_) AllReadyH.nil
        go_simp
        refine Calls.mono (HF2.out _) ?_
        rintro e X9 ⟨rfl, hEX⟩
        obtain rfl := hEX.symm
        dsimp only
        clear hHeld
        refine hK.out _ _ (sK EX) (fun hHeld => ?_)
        clear hK K
        try simp only [Act.put, sq1, sq2, sq3, sq4, sq5, sq6]
        refine tk1 (i := 8) (v := ?v8bz) rfl ?y8bz ?r8bz
        case y8bz => (intro w' hSw; (try dsimp only at hSw); go_simp; (try with_reducible rfl))
        try simp only [Act.put, sq1, sq2, sq3, sq4, sq5, sq6]
        refine tk1 (i := 9) (v := ?v9bz) rfl ?y9bz ?r9bz
        case y9bz => (intro w' hSw; (try dsimp only at hSw); go_simp; (try with_reducible rfl))
        try simp only [Act.put, sq1, sq2, sq3, sq4, sq5, sq6]
        refine tk1 (i := 10) (v := ?v10bz) rfl ?y10bz ?r10bz
        case y10bz => (intro w' hSw; (try dsimp only at hSw); go_simp; (try with_reducible rfl))
        try simp only [Act.put, sq1, sq2, sq3, sq4, sq5, sq6]
        refine tk1 (i := 11) (v := ?v11bz) rfl ?y11bz ?r11bz
        case y11bz => (intro w' hSw; (try dsimp only at hSw); go_simp; (try with_reducible rfl))
        try simp only [Act.put, sq1, sq2, sq3, sq4, sq5, sq6]
        refine tk1 (i := 12) (v := ?v12bz) rfl ?y12bz ?r12bz
        case y12bz => (intro w' hSw; (try dsimp only at hSw); go_simp; (try simp only [HZ.out, HZ2.out]); (try with_reducible rfl))
        try simp only [Act.put, sq1, sq2, sq3, sq4, sq5, sq6]
        refine tk1 (i := 13) (v := ?v13bz) rfl ?y13bz ?r13bz
        case y13bz => (intro w' hSw; (try dsimp only at hSw); go_simp; (try with_reducible rfl))
        try simp only [Act.put, sq1, sq2, sq3, sq4, sq5, sq6]
        by_cases hq1 : xf ≤ yf
        · have HRR := hid (HB9.out (by rw [decide_eq_false (by omega)]; rfl))
          refine tk1 (i := 14) (v := ?v14f) rfl ?y14f ?r14f
          case y14f => (intro w' hSw; (try dsimp only at hSw); go_simp; (try with_reducible rfl))
          try simp only [Act.put, sq1, sq2, sq3, sq4, sq5, sq6]
          refine tk1 (i := 15) (v := ?v15f) rfl ?y15f ?r15f
          case y15f => (intro w' hSw; (try dsimp only at hSw); go_simp; (try with_reducible rfl))
          try simp only [Act.put, sq1, sq2, sq3, sq4, sq5, sq6]
          refine tk1 (i := 16) (v := ?v16f) rfl ?y16f ?r16f
          case y16f => (intro w' hSw; (try dsimp only at hSw); go_simp; (try with_reducible rfl))
          try simp only [Act.put, sq1, sq2, sq3, sq4, sq5, sq6]
          refine tk1 (i := 17) (v := ?v17f) rfl ?y17f ?r17f
          case y17f => (intro w' hSw; (try dsimp only at hSw); go_simp; (try with_reducible rfl))
          try simp only [Act.put, sq1, sq2, sq3, sq4, sq5, sq6]
          refine tk1 (i := 18) (v := ?v18f) rfl ?y18f ?r18f
          case y18f => (intro w' hSw; (try dsimp only at hSw); go_simp; (try with_reducible rfl))
          try simp only [Act.put, sq1, sq2, sq3, sq4, sq5, sq6]
          refine tk1 (i := 19) (v := ?v19f) rfl ?y19f ?r19f
          case y19f => (intro w' hSw; (try dsimp only at hSw); go_simp; (try simp only [hw1]); (try with_reducible rfl))
          try simp only [Act.put, sq1, sq2, sq3, sq4, sq5, sq6]
          refine tk1 (i := 20) (v := ?v20f) rfl ?y20f ?r20f
          case y20f => (intro w' hSw; (try dsimp only at hSw); go_simp; (try with_reducible rfl))
          try simp only [Act.put, sq1, sq2, sq3, sq4, sq5, sq6]
          refine tk1 (i := 21) (v := ?v21f) rfl ?y21f ?r21f
          case y21f => (intro w' hSw; (try dsimp only at hSw); go_simp; (try with_reducible rfl))
          try simp only [Act.put, sq1, sq2, sq3, sq4, sq5, sq6]
          refine tk1 (i := 22) (v := ?v22f) rfl ?y22f ?r22f
          case y22f => (intro w' hSw; (try dsimp only at hSw); go_simp; (try with_reducible rfl))
          try simp only [Act.put, sq1, sq2, sq3, sq4, sq5, sq6]
          refine tk1 (i := 23) (v := ?v23f) rfl ?y23f ?r23f
          case y23f => (intro w' hSw; (try dsimp only at hSw); go_simp; (try with_reducible rfl))
          try simp only [Act.put, sq1, sq2, sq3, sq4, sq5, sq6]
          refine tk1 (i := 24) (v := ?v24f) rfl ?y24f ?r24f
          case y24f => (intro w' hSw; (try dsimp only at hSw); go_simp; (try with_reducible rfl))
          try simp only [Act.put, sq1, sq2, sq3, sq4, sq5, sq6]
          refine tku1 (i := 25) rfl ?r25f
          try simp only [Act.put, sq1, sq2, sq3, sq4, sq5, sq6]
          refine tku1 (i := 26) rfl ?r26f
          try simp only [Act.put, sq1, sq2, sq3, sq4, sq5, sq6]
          refine tku1 (i := 27) rfl ?r27f
          try simp only [Act.put, sq1, sq2, sq3, sq4, sq5, sq6]
          refine tku1 (i := 28) rfl ?r28f
          try simp only [Act.put, sq1, sq2, sq3, sq4, sq5, sq6]
          refine tku1 (i := 29) rfl ?r29f
          try simp only [Act.put, sq1, sq2, sq3, sq4, sq5, sq6]
          refine tku1 (i := 30) rfl ?r30f
          try simp only [Act.put, sq1, sq2, sq3, sq4, sq5, sq6]
          refine tku1 (i := 31) rfl ?r31f
          try simp only [Act.put, sq1, sq2, sq3, sq4, sq5, sq6]
          refine tku1 (i := 32) rfl ?r32f
          try simp only [Act.put, sq1, sq2, sq3, sq4, sq5, sq6]
          refine tku1 (i := 33) rfl ?r33f
          try simp only [Act.put, sq1, sq2, sq3, sq4, sq5, sq6]
          refine tku1 (i := 34) rfl ?r34f
          try simp only [Act.put, sq1, sq2, sq3, sq4, sq5, sq6]
          refine tk1 (i := 35) (v := ?v35f) rfl ?y35f ?r35f
          case y35f => (intro w' hSw; (try dsimp only at hSw); go_simp; (try with_reducible rfl))
          try simp only [Act.put, sq1, sq2, sq3, sq4, sq5, sq6]
          refine tk1 (i := 36) (v := ?v36f) rfl ?y36f ?r36f
          case y36f => (intro w' hSw; (try dsimp only at hSw); go_simp; (try with_reducible rfl))
          try simp only [Act.put, sq1, sq2, sq3, sq4, sq5, sq6]
          refine tk1 (i := 37) (v := ?v37f) rfl ?y37f ?r37f
          case y37f => (intro w' hSw; (try dsimp only at hSw); go_simp; (try with_reducible rfl))
          try simp only [Act.put, sq1, sq2, sq3, sq4, sq5, sq6]
          refine wpAnyH_done (by kernel_rfl) ?_ _
          have HEE := hid (EA.out.trans EX)
          clear hHeld EX
          go_wp2
          go_ret
          exact ⟨ret_bool HRR.out.symm, HEE.out⟩
        by_cases hq2 : xd < yd
        · have HRR := hid (HB9.out (by rw [decide_eq_false (show ¬ yd ≤ xd by omega), Bool.and_false]))
          refine tk1 (i := 14) (v := ?v14g) rfl ?y14g ?r14g
          case y14g => (intro w' hSw; (try dsimp only at hSw); go_simp; (try with_reducible rfl))
          try simp only [Act.put, sq1, sq2, sq3, sq4, sq5, sq6]
          refine tk1 (i := 15) (v := ?v15g) rfl ?y15g ?r15g
          case y15g => (intro w' hSw; (try dsimp only at hSw); go_simp; (try with_reducible rfl))
          try simp only [Act.put, sq1, sq2, sq3, sq4, sq5, sq6]
          refine tk1 (i := 16) (v := ?v16g) rfl ?y16g ?r16g
          case y16g => (intro w' hSw; (try dsimp only at hSw); go_simp; (try with_reducible rfl))
          try simp only [Act.put, sq1, sq2, sq3, sq4, sq5, sq6]
          refine tk1 (i := 17) (v := ?v17g) rfl ?y17g ?r17g
          case y17g => (intro w' hSw; (try dsimp only at hSw); go_simp; (try with_reducible rfl))
          try simp only [Act.put, sq1, sq2, sq3, sq4, sq5, sq6]
          refine tk1 (i := 18) (v := ?v18g) rfl ?y18g ?r18g
          case y18g => (intro w' hSw; (try dsimp only at hSw); go_simp; (try with_reducible rfl))
          try simp only [Act.put, sq1, sq2, sq3, sq4, sq5, sq6]
          refine tk1 (i := 19) (v := ?v19g) rfl ?y19g ?r19g
          case y19g => (intro w' hSw; (try dsimp only at hSw); go_simp; (try simp only [hw1]); (try with_reducible rfl))
          try simp only [Act.put, sq1, sq2, sq3, sq4, sq5, sq6]
          refine tk1 (i := 20) (v := ?v20g) rfl ?y20g ?r20g
          case y20g => (intro w' hSw; (try dsimp only at hSw); go_simp; (try with_reducible rfl))
          try simp only [Act.put, sq1, sq2, sq3, sq4, sq5, sq6]
          refine tk1 (i := 21) (v := ?v21g) rfl ?y21g ?r21g
          case y21g => (intro w' hSw; (try dsimp only at hSw); go_simp; (try with_reducible rfl))
          try simp only [Act.put, sq1, sq2, sq3, sq4, sq5, sq6]
          refine tk1 (i := 22) (v := ?v22g) rfl ?y22g ?r22g
          case y22g => (intro w' hSw; (try dsimp only at hSw); go_simp; (try with_reducible rfl))
          try simp only [Act.put, sq1, sq2, sq3, sq4, sq5, sq6]
          refine tk1 (i := 23) (v := ?v23g) rfl ?y23g ?r23g
          case y23g => (intro w' hSw; (try dsimp only at hSw); go_simp; (try with_reducible rfl))
          try simp only [Act.put, sq1, sq2, sq3, sq4, sq5, sq6]
          refine tk1 (i := 24) (v := ?v24g) rfl ?y24g ?r24g
          case y24g => (intro w' hSw; (try dsimp only at hSw); go_simp; (try with_reducible rfl))
          try simp only [Act.put, sq1, sq2, sq3, sq4, sq5, sq6]
          refine tk1 (i := 25) (v := ?v25g) rfl ?y25g ?r25g
          case y25g => (intro w' hSw; (try dsimp only at hSw); go_simp; (try with_reducible rfl))
          try simp only [Act.put, sq1, sq2, sq3, sq4, sq5, sq6]
          refine tk1 (i := 26) (v := ?v26g) rfl ?y26g ?r26g
          case y26g => (intro w' hSw; (try dsimp only at hSw); go_simp; (try with_reducible rfl))
          try simp only [Act.put, sq1, sq2, sq3, sq4, sq5, sq6]
          refine tk1 (i := 27) (v := ?v27g) rfl ?y27g ?r27g
          case y27g => (intro w' hSw; (try dsimp only at hSw); go_simp; (try with_reducible rfl))
          try simp only [Act.put, sq1, sq2, sq3, sq4, sq5, sq6]
          refine tk1 (i := 28) (v := ?v28g) rfl ?y28g ?r28g
          case y28g => (intro w' hSw; (try dsimp only at hSw); go_simp; (try with_reducible rfl))
          try simp only [Act.put, sq1, sq2, sq3, sq4, sq5, sq6]
          refine tk1 (i := 29) (v := ?v29g) rfl ?y29g ?r29g
          case y29g => (intro w' hSw; (try dsimp only at hSw); go_simp; (try with_reducible rfl))
          try simp only [Act.put, sq1, sq2, sq3, sq4, sq5, sq6]
          refine tk1 (i := 30) (v := ?v30g) rfl ?y30g ?r30g
          case y30g => (intro w' hSw; (try dsimp only at hSw); go_simp; (try simp only [hw1]); (try with_reducible rfl))
          try simp only [Act.put, sq1, sq2, sq3, sq4, sq5, sq6]
          refine tk1 (i := 31) (v := ?v31g) rfl ?y31g ?r31g
          case y31g => (intro w' hSw; (try dsimp only at hSw); go_simp; (try with_reducible rfl))
          try simp only [Act.put, sq1, sq2, sq3, sq4, sq5, sq6]
          refine tk1 (i := 32) (v := ?v32g) rfl ?y32g ?r32g
          case y32g => (intro w' hSw; (try dsimp only at hSw); go_simp; (try with_reducible rfl))
          try simp only [Act.put, sq1, sq2, sq3, sq4, sq5, sq6]
          refine tk1 (i := 33) (v := ?v33g) rfl ?y33g ?r33g
          case y33g => (intro w' hSw; (try dsimp only at hSw); go_simp; (try with_reducible rfl))
          try simp only [Act.put, sq1, sq2, sq3, sq4, sq5, sq6]
          refine tk1 (i := 34) (v := ?v34g) rfl ?y34g ?r34g
          case y34g => (intro w' hSw; (try dsimp only at hSw); go_simp; (try with_reducible rfl))
          try simp only [Act.put, sq1, sq2, sq3, sq4, sq5, sq6]
          refine tk1 (i := 35) (v := ?v35g) rfl ?y35g ?r35g
          case y35g => (intro w' hSw; (try dsimp only at hSw); go_simp; (try with_reducible rfl))
          try simp only [Act.put, sq1, sq2, sq3, sq4, sq5, sq6]
          refine tk1 (i := 36) (v := ?v36g) rfl ?y36g ?r36g
          case y36g => (intro w' hSw; (try dsimp only at hSw); go_simp; (try with_reducible rfl))
          try simp only [Act.put, sq1, sq2, sq3, sq4, sq5, sq6]
          refine tk1 (i := 37) (v := ?v37g) rfl ?y37g ?r37g
          case y37g => (intro w' hSw; (try dsimp only at hSw); go_simp; (try with_reducible rfl))
          try simp only [Act.put, sq1, sq2, sq3, sq4, sq5, sq6]
          refine wpAnyH_done (by kernel_rfl) ?_ _
          have HEE := hid (EA.out.trans EX)
          clear hHeld EX
          go_wp2
          go_ret
          exact ⟨ret_bool HRR.out.symm, HEE.out⟩
        have HRR := hid (HS9.out HWB.out (by rw [decide_eq_true (show yf < xf by omega), decide_eq_true (show yd ≤ xd by omega)]; rfl))
        refine tk1 (i := 14) (v := ?v14h) rfl ?y14h ?r14h
        case y14h => (intro w' hSw; (try dsimp only at hSw); go_simp; (try with_reducible rfl))
        try simp only [Act.put, sq1, sq2, sq3, sq4, sq5, sq6]
        refine tk1 (i := 15) (v := ?v15h) rfl ?y15h ?r15h
        case y15h => (intro w' hSw; (try dsimp only at hSw); go_simp; (try with_reducible rfl))
        try simp only [Act.put, sq1, sq2, sq3, sq4, sq5, sq6]
        refine tk1 (i := 16) (v := ?v16h) rfl ?y16h ?r16h
        case y16h => (intro w' hSw; (try dsimp only at hSw); go_simp; (try with_reducible rfl))
        try simp only [Act.put, sq1, sq2, sq3, sq4, sq5, sq6]
        refine tk1 (i := 17) (v := ?v17h) rfl ?y17h ?r17h
        case y17h => (intro w' hSw; (try dsimp only at hSw); go_simp; (try with_reducible rfl))
        try simp only [Act.put, sq1, sq2, sq3, sq4, sq5, sq6]
        refine tk1 (i := 18) (v := ?v18h) rfl ?y18h ?r18h
        case y18h => (intro w' hSw; (try dsimp only at hSw); go_simp; (try with_reducible rfl))
        try simp only [Act.put, sq1, sq2, sq3, sq4, sq5, sq6]
        refine tk1 (i := 19) (v := ?v19h) rfl ?y19h ?r19h
        case y19h => (intro w' hSw; (try dsimp only at hSw); go_simp; (try simp only [hw1]); (try with_reducible rfl))
        try simp only [Act.put, sq1, sq2, sq3, sq4, sq5, sq6]
        refine tk1 (i := 20) (v := ?v20h) rfl ?y20h ?r20h
        case y20h => (intro w' hSw; (try dsimp only at hSw); go_simp; (try with_reducible rfl))
        try simp only [Act.put, sq1, sq2, sq3, sq4, sq5, sq6]
        refine tk1 (i := 21) (v := ?v21h) rfl ?y21h ?r21h
        case y21h => (intro w' hSw; (try dsimp only at hSw); go_simp; (try with_reducible rfl))
        try simp only [Act.put, sq1, sq2, sq3, sq4, sq5, sq6]
        refine tk1 (i := 22) (v := ?v22h) rfl ?y22h ?r22h
        case y22h => (intro w' hSw; (try dsimp only at hSw); go_simp; (try with_reducible rfl))
        try simp only [Act.put, sq1, sq2, sq3, sq4, sq5, sq6]
        refine tk1 (i := 23) (v := ?v23h) rfl ?y23h ?r23h
        case y23h => (intro w' hSw; (try dsimp only at hSw); go_simp; (try with_reducible rfl))
        try simp only [Act.put, sq1, sq2, sq3, sq4, sq5, sq6]
        refine tk1 (i := 24) (v := ?v24h) rfl ?y24h ?r24h
        case y24h => (intro w' hSw; (try dsimp only at hSw); go_simp; (try with_reducible rfl))
        try simp only [Act.put, sq1, sq2, sq3, sq4, sq5, sq6]
        refine tk1 (i := 25) (v := ?v25h) rfl ?y25h ?r25h
        case y25h => (intro w' hSw; (try dsimp only at hSw); go_simp; (try with_reducible rfl))
        try simp only [Act.put, sq1, sq2, sq3, sq4, sq5, sq6]
        refine tk1 (i := 26) (v := ?v26h) rfl ?y26h ?r26h
        case y26h => (intro w' hSw; (try dsimp only at hSw); go_simp; (try with_reducible rfl))
        try simp only [Act.put, sq1, sq2, sq3, sq4, sq5, sq6]
        refine tk1 (i := 27) (v := ?v27h) rfl ?y27h ?r27h
        case y27h => (intro w' hSw; (try dsimp only at hSw); go_simp; (try with_reducible rfl))
        try simp only [Act.put, sq1, sq2, sq3, sq4, sq5, sq6]
        refine tk1 (i := 28) (v := ?v28h) rfl ?y28h ?r28h
        case y28h => (intro w' hSw; (try dsimp only at hSw); go_simp; (try with_reducible rfl))
        try simp only [Act.put, sq1, sq2, sq3, sq4, sq5, sq6]
        refine tk1 (i := 29) (v := ?v29h) rfl ?y29h ?r29h
        case y29h => (intro w' hSw; (try dsimp only at hSw); go_simp; (try with_reducible rfl))
        try simp only [Act.put, sq1, sq2, sq3, sq4, sq5, sq6]
        refine tk1 (i := 30) (v := ?v30h) rfl ?y30h ?r30h
        case y30h => (intro w' hSw; (try dsimp only at hSw); go_simp; (try simp only [hw1]); (try with_reducible rfl))
        try simp only [Act.put, sq1, sq2, sq3, sq4, sq5, sq6]
        refine tk1 (i := 31) (v := ?v31h) rfl ?y31h ?r31h
        case y31h => (intro w' hSw; (try dsimp only at hSw); go_simp; (try with_reducible rfl))
        try simp only [Act.put, sq1, sq2, sq3, sq4, sq5, sq6]
        refine tk1 (i := 32) (v := ?v32h) rfl ?y32h ?r32h
        case y32h => (intro w' hSw; (try dsimp only at hSw); go_simp; (try with_reducible rfl))
        try simp only [Act.put, sq1, sq2, sq3, sq4, sq5, sq6]
        refine tk1 (i := 33) (v := ?v33h) rfl ?y33h ?r33h
        case y33h => (intro w' hSw; (try dsimp only at hSw); go_simp; (try with_reducible rfl))
        try simp only [Act.put, sq1, sq2, sq3, sq4, sq5, sq6]
        refine tk1 (i := 34) (v := ?v34h) rfl ?y34h ?r34h
        case y34h => (intro w' hSw; (try dsimp only at hSw); go_simp; (try with_reducible rfl))
        try simp only [Act.put, sq1, sq2, sq3, sq4, sq5, sq6]
        refine tk1 (i := 35) (v := ?v35h) rfl ?y35h ?r35h
        case y35h => (intro w' hSw; (try dsimp only at hSw); go_simp; (try with_reducible rfl))
        try simp only [Act.put, sq1, sq2, sq3, sq4, sq5, sq6]
        refine tk1 (i := 36) (v := ?v36h) rfl ?y36h ?r36h
        case y36h => (intro w' hSw; (try dsimp only at hSw); go_simp; (try with_reducible rfl))
        try simp only [Act.put, sq1, sq2, sq3, sq4, sq5, sq6]
        refine tk1 (i := 37) (v := ?v37h) rfl ?y37h ?r37h
        case y37h => (intro w' hSw; (try dsimp only at hSw); go_simp; (try with_reducible rfl))
        try simp only [Act.put, sq1, sq2, sq3, sq4, sq5, sq6]
        refine wpAnyH_done (by kernel_rfl) ?_ _
        have HEE := hid (EA.out.trans EX)
        have HKK := hid (KV.out.ext EX)
        clear hHeld EX
        go_wp2
        go_roundw
        case rel => exact ⟨HEE.out, HKK, k + 1, by omega, by go_num, HRR⟩
        case measure => simp [intOf]; omega
    · have HP := hid (HE.out k (by rw [HN.out]; omega) HA.out)
      go_wp2
      go_ret
      exact ⟨ret_bool HP.out.symm, E⟩
end Go.Proofs.YtdhljpngkeobcaaGreat
