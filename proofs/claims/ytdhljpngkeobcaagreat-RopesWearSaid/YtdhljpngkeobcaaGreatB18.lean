/- Which ropes are valid: the specification. -/
import Derived.Test.YtdhljpngkeobcaaGreatB16
import Derived.Test.YtdhljpngkeobcaaGreatB07
set_option linter.unusedSimpArgs false
set_option linter.unusedVariables false
namespace Go.Proofs.YtdhljpngkeobcaaGreat
open Go.RowKit
set_option maxRecDepth 100000 in
set_option maxHeartbeats 8000000 in
theorem rIsRope_any (r : Ro) (A : Option Addr) (c : Nat) (hm : r.falls.length ≤ 1000) (w : World) (hx : FlsAt w A r.falls) :
    Calls Tryz.prog 81 #[r.val A c] w fun e w' => e = .returned (.bool (roB r)) ∧ Ext w w' := by
  have HX := hid hx
  have HW := hid (fun a b c W => rwithin_any a b c W)
  have HSP := hid (fun s b c W => rspan_any s b c W)
  rw [roB_eq]
  unfold Ro.val
  obtain ⟨ma, fi, le, fs⟩ := r
  dsimp only at *
  obtain ⟨n, hn⟩ : ∃ n, fs.length = n := ⟨_, rfl⟩
  rw [hn] at hm ⊢
  have HN := hid hn
  have HB1 := hid (fun k (h : k < fs.length) (hp : fl2 fi (fs.getD k zeroFl) = false) => prK_bad1 (r := flO) h hp)
  have HB2 := hid (fun j k (hj : j + 1 = k) (h : k < fs.length) (hr : flO (fs.getD j zeroFl) (fs.getD k zeroFl) = false) => prK_bad2 (p := fl2 fi) hj h hr)
  have HS1 := hid (fun (h : 0 < fs.length) (hp : fl2 fi (fs.getD 0 zeroFl) = true) => prK_one (fl2 fi) flO zeroFl fs h hp)
  have HS := hid (fun j k (hj : j + 1 = k) (h : k < fs.length) ha hp hr => prK_succ (fl2 fi) flO zeroFl fs j k hj h ha hp hr)
  have HE := hid (fun k (h : fs.length = k) ha => prK_end (p := fl2 fi) (r := flO) (d := zeroFl) (xs := fs) (k := k) h ha)
  have H0 := hid (prK_zero (fl2 fi) flO zeroFl fs)
  have B0 := hid (show Blk _ _ _ _ from blk_last w (.cells #[.int .i64 ma, .int .i64 fi, .int .i64 le, .slice A n c] 27))
  clear hx hn
  generalize (fs.all (fl2 fi) && ordB flO zeroFl fs) = R at *
  generalize hPK : (fun k => prK (fl2 fi) flO zeroFl fs k) = PK at *
  have hPe : ∀ k, prK (fl2 fi) flO zeroFl fs k = PK k := fun k => by rw [← hPK]
  simp only [hPe] at HS1 HS HE H0
  clear hPK hPe
  obtain ⟨b1, h1⟩ : ∃ b, inI ma 0 99999 = b := ⟨_, rfl⟩
  obtain ⟨b2, h2⟩ : ∃ b, inI fi ma 99999 = b := ⟨_, rfl⟩
  obtain ⟨b3, h3⟩ : ∃ b, inI le 1 100 = b := ⟨_, rfl⟩
  rw [h1, h2, h3]
  cases b1
  case false => go_enter Tryz.func81, Tryz.ntmps81
                go_wp2_with (go_at_call 76; refine (HW.out _ _ _ _).mono ?_; rintro e w2 ⟨rfl, rfl⟩; simp only [h1, h2, h3])
                go_ret
                exact ⟨ret_bool (by simp [*]), by (repeat' (first | with_reducible assumption | with_reducible exact Ext.refl _ | with_reducible refine Ext.alloc ?_ _ | with_reducible refine Ext.set ?_ ?_ _ | with_reducible refine Ext.drew ?_ | with_reducible refine Ext.drewN ?_ _ | with_reducible refine Ext.trans ?_ (by assumption) | (dsimp only; omega)))⟩
  by_cases h0 : fi = -1
  case pos =>
    subst h0
    cases b3
    case false => go_enter Tryz.func81, Tryz.ntmps81
                  go_wp2_with (go_at_call 76; refine (HW.out _ _ _ _).mono ?_; rintro e w2 ⟨rfl, rfl⟩; simp only [h1, h2, h3])
                  go_ret
                  exact ⟨ret_bool (by simp [*]), by (repeat' (first | with_reducible assumption | with_reducible exact Ext.refl _ | with_reducible refine Ext.alloc ?_ _ | with_reducible refine Ext.set ?_ ?_ _ | with_reducible refine Ext.drew ?_ | with_reducible refine Ext.drewN ?_ _ | with_reducible refine Ext.trans ?_ (by assumption) | (dsimp only; omega)))⟩
    by_cases h4 : n ≤ 10
    case neg => go_enter Tryz.func81, Tryz.ntmps81
                go_wp2_with (go_at_call 76; refine (HW.out _ _ _ _).mono ?_; rintro e w2 ⟨rfl, rfl⟩; simp only [h1, h2, h3])
                go_ret
                exact ⟨ret_bool (by simp [*]), by (repeat' (first | with_reducible assumption | with_reducible exact Ext.refl _ | with_reducible refine Ext.alloc ?_ _ | with_reducible refine Ext.set ?_ ?_ _ | with_reducible refine Ext.drew ?_ | with_reducible refine Ext.drewN ?_ _ | with_reducible refine Ext.trans ?_ (by assumption) | (dsimp only; omega)))⟩
    by_cases h5 : 0 < n
    case pos => go_enter Tryz.func81, Tryz.ntmps81
                go_wp2_with (go_at_call 76; refine (HW.out _ _ _ _).mono ?_; rintro e w2 ⟨rfl, rfl⟩; simp only [h1, h2, h3])
                go_ret
                exact ⟨ret_bool (by simp [*]), by (repeat' (first | with_reducible assumption | with_reducible exact Ext.refl _ | with_reducible refine Ext.alloc ?_ _ | with_reducible refine Ext.set ?_ ?_ _ | with_reducible refine Ext.drew ?_ | with_reducible refine Ext.drewN ?_ _ | with_reducible refine Ext.trans ?_ (by assumption) | (dsimp only; omega)))⟩
    obtain rfl : n = 0 := by omega
    have HRR := hid (HE.out 0 HN.out H0.out)
    clear HE H0 HS HS1 HB1 HB2 HX HSP HN
    go_enter Tryz.func81, Tryz.ntmps81
    go_wp2_with (go_at_call 76; refine (HW.out _ _ _ _).mono ?_; rintro e w2 ⟨rfl, rfl⟩; simp only [h1, h2, h3])
    go_loopw [3] (fun i wr => Ext w wr ∧ Hid (Blk wr w.heap.size 27 #[.int .i64 ma, .int .i64 (-1), .int .i64 le, .slice A 0 c]) ∧ i = .int .i64 0) (fun i _ => 0)
    case atStart => exact ⟨by (repeat' (first | with_reducible assumption | with_reducible exact Ext.refl _ | with_reducible refine Ext.alloc ?_ _ | with_reducible refine Ext.set ?_ ?_ _ | with_reducible refine Ext.drew ?_ | with_reducible refine Ext.drewN ?_ _ | with_reducible refine Ext.trans ?_ (by assumption) | (dsimp only; omega))), B0, rfl⟩
    case round =>
      obtain ⟨E, K0, rfl⟩ := hrel
      have a3 := K0.out.cell 3
      have z0 := K0.out.lt
      simp only [List.getElem?_toArray, List.getElem?_cons_zero, List.getElem?_cons_succ] at a3
      go_wp2
      go_ret
      exact ⟨ret_bool (by simp [HRR.out]), E⟩
  have h0d : (fi == -1) = false := by simp [h0]
  cases b2
  case false => go_enter Tryz.func81, Tryz.ntmps81
                go_wp2_with (go_at_call 76; refine (HW.out _ _ _ _).mono ?_; rintro e w2 ⟨rfl, rfl⟩; simp only [h1, h2, h3])
                go_ret
                exact ⟨ret_bool (by simp [*]), by (repeat' (first | with_reducible assumption | with_reducible exact Ext.refl _ | with_reducible refine Ext.alloc ?_ _ | with_reducible refine Ext.set ?_ ?_ _ | with_reducible refine Ext.drew ?_ | with_reducible refine Ext.drewN ?_ _ | with_reducible refine Ext.trans ?_ (by assumption) | (dsimp only; omega)))⟩
  cases b3
  case false => go_enter Tryz.func81, Tryz.ntmps81
                go_wp2_with (go_at_call 76; refine (HW.out _ _ _ _).mono ?_; rintro e w2 ⟨rfl, rfl⟩; simp only [h1, h2, h3])
                go_ret
                exact ⟨ret_bool (by simp [*]), by (repeat' (first | with_reducible assumption | with_reducible exact Ext.refl _ | with_reducible refine Ext.alloc ?_ _ | with_reducible refine Ext.set ?_ ?_ _ | with_reducible refine Ext.drew ?_ | with_reducible refine Ext.drewN ?_ _ | with_reducible refine Ext.trans ?_ (by assumption) | (dsimp only; omega)))⟩
  by_cases h4 : n ≤ 10
  case neg => go_enter Tryz.func81, Tryz.ntmps81
              go_wp2_with (go_at_call 76; refine (HW.out _ _ _ _).mono ?_; rintro e w2 ⟨rfl, rfl⟩; simp only [h1, h2, h3])
              go_ret
              exact ⟨ret_bool (by simp [*]), by (repeat' (first | with_reducible assumption | with_reducible exact Ext.refl _ | with_reducible refine Ext.alloc ?_ _ | with_reducible refine Ext.set ?_ ?_ _ | with_reducible refine Ext.drew ?_ | with_reducible refine Ext.drewN ?_ _ | with_reducible refine Ext.trans ?_ (by assumption) | (dsimp only; omega)))⟩
  have h4' : ¬ (10 : Int) < (n : Int) := by omega
  rw [decide_eq_true h4, h0d]
  simp only [Bool.and_self, Bool.true_and, Bool.false_or, Bool.false_and, Bool.not_false]
  go_enter Tryz.func81, Tryz.ntmps81
  go_wp2_with (go_at_call 76; refine (HW.out _ _ _ _).mono ?_; rintro e w2 ⟨rfl, rfl⟩; simp only [h1, h2, h3])
  go_loopw [3] (fun i wr => Ext w wr ∧ Hid (Blk wr w.heap.size 27 #[.int .i64 ma, .int .i64 fi, .int .i64 le, .slice A n c]) ∧ ∃ k : Nat, k ≤ n ∧ i = .int .i64 k ∧ Hid (PK k = true)) (fun i _ => n - (intOf i).toNat)
  case atStart => exact ⟨by (repeat' (first | with_reducible assumption | with_reducible exact Ext.refl _ | with_reducible refine Ext.alloc ?_ _ | with_reducible refine Ext.set ?_ ?_ _ | with_reducible refine Ext.drew ?_ | with_reducible refine Ext.drewN ?_ _ | with_reducible refine Ext.trans ?_ (by assumption) | (dsimp only; omega))), B0, 0, Nat.zero_le _, rfl, H0⟩
  case round =>
    obtain ⟨E, K0, k, hk, rfl, HA⟩ := hrel
    clear B0 H0
    have a1 := K0.out.cell 1
    have a3 := K0.out.cell 3
    have z0 := K0.out.lt
    simp only [List.getElem?_toArray, List.getElem?_cons_zero, List.getElem?_cons_succ] at a1 a3
    by_cases hlt : k < n
    · obtain ⟨b, off, rfl, hb, hck⟩ := (HX.out.ext E).at_ HN.out hlt
      have hkl : k < fs.length := by rw [HN.out]; exact hlt
      have hk0 : (0 : Int) ≤ (k : Int) := by omega
      have hk1 : (k : Int) < (n : Int) := by omega
      have HB1k := hid (HB1.out k hkl)
      have HWB := hid (show fl2 fi (fs.getD k zeroFl) = (inI (fs.getD k zeroFl).day fi 99999 && (spB (fs.getD k zeroFl).hl (fs.getD k zeroFl).hh 1 1000 && spB (fs.getD k zeroFl).ol (fs.getD k zeroFl).oh 1 1000)) from rfl)
      obtain ⟨x1, hx1⟩ : ∃ b, inI (fs.getD k zeroFl).day fi 99999 = b := ⟨_, rfl⟩
      obtain ⟨x2, hx2⟩ : ∃ b, spB (fs.getD k zeroFl).hl (fs.getD k zeroFl).hh 1 1000 = b := ⟨_, rfl⟩
      obtain ⟨x3, hx3⟩ : ∃ b, spB (fs.getD k zeroFl).ol (fs.getD k zeroFl).oh 1 1000 = b := ⟨_, rfl⟩
      rw [hx1, hx2, hx3] at HWB
      by_cases hk9 : k = 0
      · have HS9 := hid (show fl2 fi (fs.getD k zeroFl) = true → PK (k + 1) = true by subst hk9; exact HS1.out hkl)
        have HZ := hid (show decide ((0 : Int) < (k : Int)) = false from decide_eq_false (by omega))
        have HZ2 := hid (show decide (0 < k) = false from decide_eq_false (by omega))
        clear HS1 HS HB1 HB2 HE HA hk9
        generalize fs.getD k zeroFl = x at *
        obtain ⟨fd, hl, hh, ol, oh⟩ := x
        obtain ⟨c0, c1, c2, c3, c4⟩ := hck
        dsimp only at *
        have HF1 := hid (fun W : World => by have := HW.out fd fi 99999 W; rw [hx1] at this; exact this)
        have HF2 := hid (fun W : World => by have := HSP.out ⟨hl, hh⟩ 1 1000 W; dsimp only at this; rw [hx2] at this; unfold Sp.val at this; exact this)
        have HF3 := hid (fun W : World => by have := HSP.out ⟨ol, oh⟩ 1 1000 W; dsimp only at this; rw [hx3] at this; unfold Sp.val at this; exact this)
        clear hx1 hx2 hx3 HX HW HSP
        go_wp2_with fail
        have e0 := K0.out.alloc (.cells #[.int .i64 fd, .int .i64 hl, .int .i64 hh, .int .i64 ol, .int .i64 oh] 75)
        have e1 := Blk.new wr 75 #[.int .i64 fd, .int .i64 hl, .int .i64 hh, .int .i64 ol, .int .i64 oh]
        have EA := E.alloc (.cells #[.int .i64 fd, .int .i64 hl, .int .i64 hh, .int .i64 ol, .int .i64 oh] 75)
        have EV := (Ext.refl wr).alloc (.cells #[.int .i64 fd, .int .i64 hl, .int .i64 hh, .int .i64 ol, .int .i64 oh] 75)
        obtain ⟨V, hV⟩ : ∃ V, wr.alloc (.cells #[.int .i64 fd, .int .i64 hl, .int .i64 hh, .int .i64 ol, .int .i64 oh] 75) = V := ⟨_, rfl⟩
        rw [hV] at e0 e1 EA EV ⊢
        clear hV
        have KV := hid e0
        replace EA := hid EA
        obtain ⟨f0, f1, f2, f3, f4⟩ : _ ∧ _ ∧ _ ∧ _ ∧ _ := ⟨e1.cell 0, e1.cell 1, e1.cell 2, e1.cell 3, e1.cell 4⟩
        replace a1 := e0.cell 1
        replace a3 := e0.cell 3
        have z1 := e0.lt
        have z2 := e1.lt
        (try replace d0 := (EV.cell (p := ⟨b, _, none⟩) hb).trans d0)
        have hbV := Nat.lt_of_lt_of_le hb EV.size
        simp only [List.getElem?_toArray, List.getElem?_cons_zero, List.getElem?_cons_succ] at a1 a3 f0 f1 f2 f3 f4
        clear e0 e1 EV E K0 c0 c1 c2 c3 c4
        refine wp_region_held_drew (S := fun w' => (∀ b o, b < V.heap.size → w'.cell? ⟨b, o, none⟩ = V.cell? ⟨b, o, none⟩) ∧ V.heap.size ≤ w'.heap.size ∧ Ext V w') (by kernel_rfl) ?hS0 (fun hHeld => ?_)
        case hS0 => exact sK (Ext.drew (Ext.refl _))
        have X0 : Ext V V.drew := Ext.drew (Ext.refl V)
        have EX := X0
        obtain ⟨X, hX⟩ : ∃ X, V.drew = X := ⟨_, rfl⟩
        rw [hX] at EX hHeld ⊢
        clear hX X0
        refine tk1 (i := 0) (v := ?v0au) rfl ?y0au ?r0au
        case y0au => (intro w' hSw; (try dsimp only at hSw); go_simp; (try with_reducible rfl))
        try simp only [Act.put, sq1, sq2, sq3, sq4, sq5, sq6]
        refine tk1 (i := 1) (v := ?v1au) rfl ?y1au ?r1au
        case y1au => (intro w' hSw; (try dsimp only at hSw); go_simp; (try with_reducible rfl))
        try simp only [Act.put, sq1, sq2, sq3, sq4, sq5, sq6]
        refine tk1 (i := 2) (v := ?v2au) rfl ?y2au ?r2au
        case y2au => (intro w' hSw; (try dsimp only at hSw); go_simp; (try with_reducible rfl))
        try simp only [Act.put, sq1, sq2, sq3, sq4, sq5, sq6]
        refine tk1 (i := 3) (v := ?v3au) rfl ?y3au ?r3au
        case y3au => (intro w' hSw; (try dsimp only at hSw); go_simp; (try with_reducible rfl))
        try simp only [Act.put, sq1, sq2, sq3, sq4, sq5, sq6]
        refine wpAnyH_ready (rs := [4]) (by kernel_rfl) (by simp) ?_
        refine AllReadyH.cons (o := _) rfl (fun K hK => ?_) AllReadyH.nil
        go_simp
        refine Calls.mono (HF1.out _) ?_
        rintro e X9 ⟨rfl, hEX⟩
        obtain rfl := hEX.symm
        dsimp only
        clear hHeld
        refine hK.out _ _ (sK EX) (fun hHeld => ?_)
        clear hK K
        try simp only [Act.put, sq1, sq2, sq3, sq4, sq5, sq6]
        cases x1
        case false =>
          have HRR := hid (HB1k.out HWB.out)
          refine tk1 (i := 5) (v := ?v5bu) rfl ?y5bu ?r5bu
          case y5bu => (intro w' hSw; (try dsimp only at hSw); go_simp; (try with_reducible rfl))
          try simp only [Act.put, sq1, sq2, sq3, sq4, sq5, sq6]
          refine tk1 (i := 6) (v := ?v6bu) rfl ?y6bu ?r6bu
          case y6bu => (intro w' hSw; (try dsimp only at hSw); go_simp; (try with_reducible rfl))
          try simp only [Act.put, sq1, sq2, sq3, sq4, sq5, sq6]
          refine tku1 (i := 7) rfl ?r7bu
          try simp only [Act.put, sq1, sq2, sq3, sq4, sq5, sq6]
          refine tku1 (i := 8) rfl ?r8bu
          try simp only [Act.put, sq1, sq2, sq3, sq4, sq5, sq6]
          refine tku1 (i := 9) rfl ?r9bu
          try simp only [Act.put, sq1, sq2, sq3, sq4, sq5, sq6]
          refine tku1 (i := 10) rfl ?r10bu
          try simp only [Act.put, sq1, sq2, sq3, sq4, sq5, sq6]
          refine tku1 (i := 11) rfl ?r11bu
          try simp only [Act.put, sq1, sq2, sq3, sq4, sq5, sq6]
          refine tku1 (i := 12) rfl ?r12bu
          try simp only [Act.put, sq1, sq2, sq3, sq4, sq5, sq6]
          refine tku1 (i := 13) rfl ?r13bu
          try simp only [Act.put, sq1, sq2, sq3, sq4, sq5, sq6]
          refine tku1 (i := 14) rfl ?r14bu
          try simp only [Act.put, sq1, sq2, sq3, sq4, sq5, sq6]
          refine tku1 (i := 15) rfl ?r15bu
          try simp only [Act.put, sq1, sq2, sq3, sq4, sq5, sq6]
          refine tku1 (i := 16) rfl ?r16bu
          try simp only [Act.put, sq1, sq2, sq3, sq4, sq5, sq6]
          refine tku1 (i := 17) rfl ?r17bu
          try simp only [Act.put, sq1, sq2, sq3, sq4, sq5, sq6]
          refine tku1 (i := 18) rfl ?r18bu
          try simp only [Act.put, sq1, sq2, sq3, sq4, sq5, sq6]
          refine tku1 (i := 19) rfl ?r19bu
          try simp only [Act.put, sq1, sq2, sq3, sq4, sq5, sq6]
          refine tku1 (i := 20) rfl ?r20bu
          try simp only [Act.put, sq1, sq2, sq3, sq4, sq5, sq6]
          refine tk1 (i := 21) (v := ?v21bu) rfl ?y21bu ?r21bu
          case y21bu => (intro w' hSw; (try dsimp only at hSw); go_simp; (try with_reducible rfl))
          try simp only [Act.put, sq1, sq2, sq3, sq4, sq5, sq6]
          refine tk1 (i := 22) (v := ?v22bu) rfl ?y22bu ?r22bu
          case y22bu => (intro w' hSw; (try dsimp only at hSw); go_simp; (try with_reducible rfl))
          try simp only [Act.put, sq1, sq2, sq3, sq4, sq5, sq6]
          refine tku1 (i := 23) rfl ?r23bu
          try simp only [Act.put, sq1, sq2, sq3, sq4, sq5, sq6]
          refine tku1 (i := 24) rfl ?r24bu
          try simp only [Act.put, sq1, sq2, sq3, sq4, sq5, sq6]
          refine tku1 (i := 25) rfl ?r25bu
          try simp only [Act.put, sq1, sq2, sq3, sq4, sq5, sq6]
          refine tku1 (i := 26) rfl ?r26bu
          try simp only [Act.put, sq1, sq2, sq3, sq4, sq5, sq6]
          refine tk1 (i := 27) (v := ?v27bu) rfl ?y27bu ?r27bu
          case y27bu => (intro w' hSw; (try dsimp only at hSw); go_simp; (try with_reducible rfl))
          try simp only [Act.put, sq1, sq2, sq3, sq4, sq5, sq6]
          refine tk1 (i := 28) (v := ?v28bu) rfl ?y28bu ?r28bu
          case y28bu => (intro w' hSw; (try dsimp only at hSw); go_simp; (try with_reducible rfl))
          try simp only [Act.put, sq1, sq2, sq3, sq4, sq5, sq6]
          refine tku1 (i := 29) rfl ?r29bu
          try simp only [Act.put, sq1, sq2, sq3, sq4, sq5, sq6]
          refine tku1 (i := 30) rfl ?r30bu
          try simp only [Act.put, sq1, sq2, sq3, sq4, sq5, sq6]
          refine tku1 (i := 31) rfl ?r31bu
          try simp only [Act.put, sq1, sq2, sq3, sq4, sq5, sq6]
          refine tku1 (i := 32) rfl ?r32bu
          try simp only [Act.put, sq1, sq2, sq3, sq4, sq5, sq6]
          refine tk1 (i := 33) (v := ?v33bu) rfl ?y33bu ?r33bu
          case y33bu => (intro w' hSw; (try dsimp only at hSw); go_simp; (try with_reducible rfl))
          try simp only [Act.put, sq1, sq2, sq3, sq4, sq5, sq6]
          refine wpAnyH_done (by kernel_rfl) ?_ _
          have HEE := hid (EA.out.trans EX)
          clear hHeld EX
          go_wp2
          go_ret
          exact ⟨ret_bool HRR.out.symm, HEE.out⟩
        refine tk1 (i := 5) (v := ?v5b) rfl ?y5b ?r5b
        case y5b => (intro w' hSw; (try dsimp only at hSw); go_simp; (try with_reducible rfl))
        try simp only [Act.put, sq1, sq2, sq3, sq4, sq5, sq6]
        refine tk1 (i := 6) (v := ?v6b) rfl ?y6b ?r6b
        case y6b => (intro w' hSw; (try dsimp only at hSw); go_simp; (try with_reducible rfl))
        try simp only [Act.put, sq1, sq2, sq3, sq4, sq5, sq6]
        refine tk1 (i := 7) (v := ?v7b) rfl ?y7b ?r7b
        case y7b => (intro w' hSw; (try dsimp only at hSw); go_simp; (try with_reducible rfl))
        try simp only [Act.put, sq1, sq2, sq3, sq4, sq5, sq6]
        refine tk1 (i := 8) (v := ?v8b) rfl ?y8b ?r8b
        case y8b => (intro w' hSw; (try dsimp only at hSw); go_simp; (try simp only [HZ.out, HZ2.out]); (try with_reducible rfl))
        try simp only [Act.put, sq1, sq2, sq3, sq4, sq5, sq6]
        refine tk1 (i := 9) (v := ?v9b) rfl ?y9b ?r9b
        case y9b => (intro w' hSw; (try dsimp only at hSw); go_simp; (try with_reducible rfl))
        try simp only [Act.put, sq1, sq2, sq3, sq4, sq5, sq6]
        refine tku1 (i := 10) rfl ?r10b
        try simp only [Act.put, sq1, sq2, sq3, sq4, sq5, sq6]
        refine tku1 (i := 11) rfl ?r11b
        try simp only [Act.put, sq1, sq2, sq3, sq4, sq5, sq6]
        refine tku1 (i := 12) rfl ?r12b
        try simp only [Act.put, sq1, sq2, sq3, sq4, sq5, sq6]
        refine tku1 (i := 13) rfl ?r13b
        try simp only [Act.put, sq1, sq2, sq3, sq4, sq5, sq6]
        refine tku1 (i := 14) rfl ?r14b
        try simp only [Act.put, sq1, sq2, sq3, sq4, sq5, sq6]
        refine tku1 (i := 15) rfl ?r15b
        try simp only [Act.put, sq1, sq2, sq3, sq4, sq5, sq6]
        refine tku1 (i := 16) rfl ?r16b
        try simp only [Act.put, sq1, sq2, sq3, sq4, sq5, sq6]
        refine tku1 (i := 17) rfl ?r17b
        try simp only [Act.put, sq1, sq2, sq3, sq4, sq5, sq6]
        refine tku1 (i := 18) rfl ?r18b
        try simp only [Act.put, sq1, sq2, sq3, sq4, sq5, sq6]
        refine tku1 (i := 19) rfl ?r19b
        try simp only [Act.put, sq1, sq2, sq3, sq4, sq5, sq6]
        refine tk1 (i := 20) (v := ?v20b) rfl ?y20b ?r20b
        case y20b => (intro w' hSw; (try dsimp only at hSw); go_simp; (try with_reducible rfl))
        try simp only [Act.put, sq1, sq2, sq3, sq4, sq5, sq6]
        refine tk1 (i := 21) (v := ?v21b) rfl ?y21b ?r21b
        case y21b => (intro w' hSw; (try dsimp only at hSw); go_simp; (try with_reducible rfl))
        try simp only [Act.put, sq1, sq2, sq3, sq4, sq5, sq6]
        refine tk1 (i := 22) (v := ?v22b) rfl ?y22b ?r22b
        case y22b => (intro w' hSw; (try dsimp only at hSw); go_simp; (try with_reducible rfl))
        try simp only [Act.put, sq1, sq2, sq3, sq4, sq5, sq6]
        refine tk1 (i := 23) (v := ?v23fv) rfl ?y23fv ?r23fv
        case y23fv => (intro w' hSw; (try dsimp only at hSw); go_simp; (try with_reducible rfl))
        try simp only [Act.put, sq1, sq2, sq3, sq4, sq5, sq6]
        refine tk1 (i := 24) (v := ?v24fv) rfl ?y24fv ?r24fv
        case y24fv => (intro w' hSw; (try dsimp only at hSw); go_simp; (try with_reducible rfl))
        try simp only [Act.put, sq1, sq2, sq3, sq4, sq5, sq6]
        refine wpAnyH_ready (rs := [25]) (by kernel_rfl) (by simp) ?_
        refine AllReadyH.cons (o := _) rfl (fun K hK => ?_) AllReadyH.nil
        go_simp
        refine Calls.mono (HF2.out _) ?_
        rintro e X ⟨rfl, hEX⟩
        dsimp only
        replace EX := EX.trans hEX
        clear hHeld hEX
        refine hK.out _ _ (sK EX) (fun hHeld => ?_)
        clear hK K
        try simp only [Act.put, sq1, sq2, sq3, sq4, sq5, sq6]
        cases x2
        case false =>
          have HRR := hid (HB1k.out (by rw [HWB.out]; rfl))
          refine tk1 (i := 26) (v := ?v26gv) rfl ?y26gv ?r26gv
          case y26gv => (intro w' hSw; (try dsimp only at hSw); go_simp; (try with_reducible rfl))
          try simp only [Act.put, sq1, sq2, sq3, sq4, sq5, sq6]
          refine tk1 (i := 27) (v := ?v27gv) rfl ?y27gv ?r27gv
          case y27gv => (intro w' hSw; (try dsimp only at hSw); go_simp; (try with_reducible rfl))
          try simp only [Act.put, sq1, sq2, sq3, sq4, sq5, sq6]
          refine tk1 (i := 28) (v := ?v28gv) rfl ?y28gv ?r28gv
          case y28gv => (intro w' hSw; (try dsimp only at hSw); go_simp; (try with_reducible rfl))
          try simp only [Act.put, sq1, sq2, sq3, sq4, sq5, sq6]
          refine tku1 (i := 29) rfl ?r29gv
          try simp only [Act.put, sq1, sq2, sq3, sq4, sq5, sq6]
          refine tku1 (i := 30) rfl ?r30gv
          try simp only [Act.put, sq1, sq2, sq3, sq4, sq5, sq6]
          refine tku1 (i := 31) rfl ?r31gv
          try simp only [Act.put, sq1, sq2, sq3, sq4, sq5, sq6]
          refine tku1 (i := 32) rfl ?r32gv
          try simp only [Act.put, sq1, sq2, sq3, sq4, sq5, sq6]
          refine tk1 (i := 33) (v := ?v33gv) rfl ?y33gv ?r33gv
          case y33gv => (intro w' hSw; (try dsimp only at hSw); go_simp; (try with_reducible rfl))
          try simp only [Act.put, sq1, sq2, sq3, sq4, sq5, sq6]
          refine wpAnyH_done (by kernel_rfl) ?_ _
          have HEE := hid (EA.out.trans EX)
          clear hHeld EX
          go_wp2
          go_ret
          exact ⟨ret_bool HRR.out.symm, HEE.out⟩
        refine tk1 (i := 26) (v := ?v26hv) rfl ?y26hv ?r26hv
        case y26hv => (intro w' hSw; (try dsimp only at hSw); go_simp; (try with_reducible rfl))
        try simp only [Act.put, sq1, sq2, sq3, sq4, sq5, sq6]
        refine tk1 (i := 27) (v := ?v27hv) rfl ?y27hv ?r27hv
        case y27hv => (intro w' hSw; (try dsimp only at hSw); go_simp; (try with_reducible rfl))
        try simp only [Act.put, sq1, sq2, sq3, sq4, sq5, sq6]
        refine tk1 (i := 28) (v := ?v28hv) rfl ?y28hv ?r28hv
        case y28hv => (intro w' hSw; (try dsimp only at hSw); go_simp; (try with_reducible rfl))
        try simp only [Act.put, sq1, sq2, sq3, sq4, sq5, sq6]
        refine tk1 (i := 29) (v := ?v29hv) rfl ?y29hv ?r29hv
        case y29hv => (intro w' hSw; (try dsimp only at hSw); go_simp; (try with_reducible rfl))
        try simp only [Act.put, sq1, sq2, sq3, sq4, sq5, sq6]
        refine tk1 (i := 30) (v := ?v30hv) rfl ?y30hv ?r30hv
        case y30hv => (intro w' hSw; (try dsimp only at hSw); go_simp; (try with_reducible rfl))
        try simp only [Act.put, sq1, sq2, sq3, sq4, sq5, sq6]
        refine wpAnyH_ready (rs := [31]) (by kernel_rfl) (by simp) ?_
        refine AllReadyH.cons (o := _) rfl (fun K hK => ?_) AllReadyH.nil
        go_simp
        refine Calls.mono (HF3.out _) ?_
        rintro e X ⟨rfl, hEX⟩
        dsimp only
        replace EX := EX.trans hEX
        clear hHeld hEX
        refine hK.out _ _ (sK EX) (fun hHeld => ?_)
        clear hK K
        try simp only [Act.put, sq1, sq2, sq3, sq4, sq5, sq6]
        cases x3
        case false =>
          have HRR := hid (HB1k.out (by rw [HWB.out]; rfl))
          refine tk1 (i := 32) (v := ?v32iv) rfl ?y32iv ?r32iv
          case y32iv => (intro w' hSw; (try dsimp only at hSw); go_simp; (try with_reducible rfl))
          try simp only [Act.put, sq1, sq2, sq3, sq4, sq5, sq6]
          refine tk1 (i := 33) (v := ?v33iv) rfl ?y33iv ?r33iv
          case y33iv => (intro w' hSw; (try dsimp only at hSw); go_simp; (try with_reducible rfl))
          try simp only [Act.put, sq1, sq2, sq3, sq4, sq5, sq6]
          refine wpAnyH_done (by kernel_rfl) ?_ _
          have HEE := hid (EA.out.trans EX)
          clear hHeld EX
          go_wp2
          go_ret
          exact ⟨ret_bool HRR.out.symm, HEE.out⟩
        have HRR := hid (HS9.out (by rw [HWB.out]; rfl))
        refine tk1 (i := 32) (v := ?v32jv) rfl ?y32jv ?r32jv
        case y32jv => (intro w' hSw; (try dsimp only at hSw); go_simp; (try with_reducible rfl))
        try simp only [Act.put, sq1, sq2, sq3, sq4, sq5, sq6]
        refine tk1 (i := 33) (v := ?v33jv) rfl ?y33jv ?r33jv
        case y33jv => (intro w' hSw; (try dsimp only at hSw); go_simp; (try with_reducible rfl))
        try simp only [Act.put, sq1, sq2, sq3, sq4, sq5, sq6]
        refine wpAnyH_done (by kernel_rfl) ?_ _
        have HEE := hid (EA.out.trans EX)
        have HKK := hid (KV.out.ext EX)
        clear hHeld EX
        go_wp2
        go_roundw
        case rel => exact ⟨HEE.out, HKK, k + 1, by omega, by go_num, HRR⟩
        case measure => simp [intOf]; omega
      · obtain ⟨p, hp⟩ : ∃ p, p + 1 = k := ⟨k - 1, by omega⟩
        have hpl : p < n := by omega
        obtain ⟨b', off', hAe, hb', hck'⟩ := (HX.out.ext E).at_ HN.out hpl
        cases hAe
        have hw1 : IntKind.i64.wrap ((k : Int) - 1) = (p : Int) := by rw [IntWalk.i64_in _ (by omega)]; omega
        have hp0 : (0 : Int) ≤ (p : Int) := by omega
        have hp1 : (p : Int) < (n : Int) := by omega
        have HZ := hid (show decide ((0 : Int) < (k : Int)) = true from decide_eq_true (by omega))
        have HZ2 := hid (show decide (0 < k) = true from decide_eq_true (by omega))
        have HS8 := hid (HS.out p k hp hkl HA.out)
        have HB9 := hid (HB2.out p k hp hkl)
        clear HS1 HS HB1 HB2 HE HA
        generalize fs.getD k zeroFl = x at *
        generalize fs.getD p zeroFl = y at *
        obtain ⟨yd, y1, y2, y3, y4⟩ := y
        obtain ⟨d0, -, -, -, -⟩ := hck'
        obtain ⟨fd, hl, hh, ol, oh⟩ := x
        obtain ⟨c0, c1, c2, c3, c4⟩ := hck
        dsimp only at *
        have HF1 := hid (fun W : World => by have := HW.out fd fi 99999 W; rw [hx1] at this; exact this)
        have HF2 := hid (fun W : World => by have := HSP.out ⟨hl, hh⟩ 1 1000 W; dsimp only at this; rw [hx2] at this; unfold Sp.val at this; exact this)
        have HF3 := hid (fun W : World => by have := HSP.out ⟨ol, oh⟩ 1 1000 W; dsimp only at this; rw [hx3] at this; unfold Sp.val at this; exact this)
        clear hx1 hx2 hx3 HX HW HSP
        unfold flO at HS8 HB9
        dsimp only at *
        clear hp
        go_wp2_with fail
        have e0 := K0.out.alloc (.cells #[.int .i64 fd, .int .i64 hl, .int .i64 hh, .int .i64 ol, .int .i64 oh] 75)
        have e1 := Blk.new wr 75 #[.int .i64 fd, .int .i64 hl, .int .i64 hh, .int .i64 ol, .int .i64 oh]
        have EA := E.alloc (.cells #[.int .i64 fd, .int .i64 hl, .int .i64 hh, .int .i64 ol, .int .i64 oh] 75)
        have EV := (Ext.refl wr).alloc (.cells #[.int .i64 fd, .int .i64 hl, .int .i64 hh, .int .i64 ol, .int .i64 oh] 75)
        obtain ⟨V, hV⟩ : ∃ V, wr.alloc (.cells #[.int .i64 fd, .int .i64 hl, .int .i64 hh, .int .i64 ol, .int .i64 oh] 75) = V := ⟨_, rfl⟩
        rw [hV] at e0 e1 EA EV ⊢
        clear hV
        have KV := hid e0
        replace EA := hid EA
        obtain ⟨f0, f1, f2, f3, f4⟩ : _ ∧ _ ∧ _ ∧ _ ∧ _ := ⟨e1.cell 0, e1.cell 1, e1.cell 2, e1.cell 3, e1.cell 4⟩
        replace a1 := e0.cell 1
        replace a3 := e0.cell 3
        have z1 := e0.lt
        have z2 := e1.lt
        (try replace d0 := (EV.cell (p := ⟨b, _, none⟩) hb).trans d0)
        have hbV := Nat.lt_of_lt_of_le hb EV.size
        simp only [List.getElem?_toArray, List.getElem?_cons_zero, List.getElem?_cons_succ] at a1 a3 f0 f1 f2 f3 f4
        clear e0 e1 EV E K0 c0 c1 c2 c3 c4
        refine wp_region_held_drew (S := fun w' => (∀ b o, b < V.heap.size → w'.cell? ⟨b, o, none⟩ = V.cell? ⟨b, o, none⟩) ∧ V.heap.size ≤ w'.heap.size ∧ Ext V w') (by kernel_rfl) ?hS0 (fun hHeld => ?_)
        case hS0 => exact sK (Ext.drew (Ext.refl _))
        have X0 : Ext V V.drew := Ext.drew (Ext.refl V)
        have EX := X0
        obtain ⟨X, hX⟩ : ∃ X, V.drew = X := ⟨_, rfl⟩
        rw [hX] at EX hHeld ⊢
        clear hX X0
        refine tk1 (i := 0) (v := ?v0ak) rfl ?y0ak ?r0ak
        case y0ak => (intro w' hSw; (try dsimp only at hSw); go_simp; (try with_reducible rfl))
        try simp only [Act.put, sq1, sq2, sq3, sq4, sq5, sq6]
        refine tk1 (i := 1) (v := ?v1ak) rfl ?y1ak ?r1ak
        case y1ak => (intro w' hSw; (try dsimp only at hSw); go_simp; (try with_reducible rfl))
        try simp only [Act.put, sq1, sq2, sq3, sq4, sq5, sq6]
        refine tk1 (i := 2) (v := ?v2ak) rfl ?y2ak ?r2ak
        case y2ak => (intro w' hSw; (try dsimp only at hSw); go_simp; (try with_reducible rfl))
        try simp only [Act.put, sq1, sq2, sq3, sq4, sq5, sq6]
        refine tk1 (i := 3) (v := ?v3ak) rfl ?y3ak ?r3ak
        case y3ak => (intro w' hSw; (try dsimp only at hSw); go_simp; (try with_reducible rfl))
        try simp only [Act.put, sq1, sq2, sq3, sq4, sq5, sq6]
        refine wpAnyH_ready (rs := [4]) (by kernel_rfl) (by simp) ?_
        refine AllReadyH.cons (o := _) rfl (fun K hK => ?_) AllReadyH.nil
        go_simp
        refine Calls.mono (HF1.out _) ?_
        rintro e X9 ⟨rfl, hEX⟩
        obtain rfl := hEX.symm
        dsimp only
        clear hHeld
        refine hK.out _ _ (sK EX) (fun hHeld => ?_)
        clear hK K
        try simp only [Act.put, sq1, sq2, sq3, sq4, sq5, sq6]
        cases x1
        case false =>
          have HRR := hid (HB1k.out HWB.out)
          refine tk1 (i := 5) (v := ?v5bx) rfl ?y5bx ?r5bx
          case y5bx => (intro w' hSw; (try dsimp only at hSw); go_simp; (try with_reducible rfl))
          try simp only [Act.put, sq1, sq2, sq3, sq4, sq5, sq6]
          refine tk1 (i := 6) (v := ?v6bx) rfl ?y6bx ?r6bx
          case y6bx => (intro w' hSw; (try dsimp only at hSw); go_simp; (try with_reducible rfl))
          try simp only [Act.put, sq1, sq2, sq3, sq4, sq5, sq6]
          refine tku1 (i := 7) rfl ?r7bx
          try simp only [Act.put, sq1, sq2, sq3, sq4, sq5, sq6]
          refine tku1 (i := 8) rfl ?r8bx
          try simp only [Act.put, sq1, sq2, sq3, sq4, sq5, sq6]
          refine tku1 (i := 9) rfl ?r9bx
          try simp only [Act.put, sq1, sq2, sq3, sq4, sq5, sq6]
          refine tku1 (i := 10) rfl ?r10bx
          try simp only [Act.put, sq1, sq2, sq3, sq4, sq5, sq6]
          refine tku1 (i := 11) rfl ?r11bx
          try simp only [Act.put, sq1, sq2, sq3, sq4, sq5, sq6]
          refine tku1 (i := 12) rfl ?r12bx
          try simp only [Act.put, sq1, sq2, sq3, sq4, sq5, sq6]
          refine tku1 (i := 13) rfl ?r13bx
          try simp only [Act.put, sq1, sq2, sq3, sq4, sq5, sq6]
          refine tku1 (i := 14) rfl ?r14bx
          try simp only [Act.put, sq1, sq2, sq3, sq4, sq5, sq6]
          refine tku1 (i := 15) rfl ?r15bx
          try simp only [Act.put, sq1, sq2, sq3, sq4, sq5, sq6]
          refine tku1 (i := 16) rfl ?r16bx
          try simp only [Act.put, sq1, sq2, sq3, sq4, sq5, sq6]
          refine tku1 (i := 17) rfl ?r17bx
          try simp only [Act.put, sq1, sq2, sq3, sq4, sq5, sq6]
          refine tku1 (i := 18) rfl ?r18bx
          try simp only [Act.put, sq1, sq2, sq3, sq4, sq5, sq6]
          refine tku1 (i := 19) rfl ?r19bx
          try simp only [Act.put, sq1, sq2, sq3, sq4, sq5, sq6]
          refine tku1 (i := 20) rfl ?r20bx
          try simp only [Act.put, sq1, sq2, sq3, sq4, sq5, sq6]
          refine tk1 (i := 21) (v := ?v21bx) rfl ?y21bx ?r21bx
          case y21bx => (intro w' hSw; (try dsimp only at hSw); go_simp; (try with_reducible rfl))
          try simp only [Act.put, sq1, sq2, sq3, sq4, sq5, sq6]
          refine tk1 (i := 22) (v := ?v22bx) rfl ?y22bx ?r22bx
          case y22bx => (intro w' hSw; (try dsimp only at hSw); go_simp; (try with_reducible rfl))
          try simp only [Act.put, sq1, sq2, sq3, sq4, sq5, sq6]
          refine tku1 (i := 23) rfl ?r23bx
          try simp only [Act.put, sq1, sq2, sq3, sq4, sq5, sq6]
          refine tku1 (i := 24) rfl ?r24bx
          try simp only [Act.put, sq1, sq2, sq3, sq4, sq5, sq6]
          refine tku1 (i := 25) rfl ?r25bx
          try simp only [Act.put, sq1, sq2, sq3, sq4, sq5, sq6]
          refine tku1 (i := 26) rfl ?r26bx
          try simp only [Act.put, sq1, sq2, sq3, sq4, sq5, sq6]
          refine tk1 (i := 27) (v := ?v27bx) rfl ?y27bx ?r27bx
          case y27bx => (intro w' hSw; (try dsimp only at hSw); go_simp; (try with_reducible rfl))
          try simp only [Act.put, sq1, sq2, sq3, sq4, sq5, sq6]
          refine tk1 (i := 28) (v := ?v28bx) rfl ?y28bx ?r28bx
          case y28bx => (intro w' hSw; (try dsimp only at hSw); go_simp; (try with_reducible rfl))
          try simp only [Act.put, sq1, sq2, sq3, sq4, sq5, sq6]
          refine tku1 (i := 29) rfl ?r29bx
          try simp only [Act.put, sq1, sq2, sq3, sq4, sq5, sq6]
          refine tku1 (i := 30) rfl ?r30bx
          try simp only [Act.put, sq1, sq2, sq3, sq4, sq5, sq6]
          refine tku1 (i := 31) rfl ?r31bx
          try simp only [Act.put, sq1, sq2, sq3, sq4, sq5, sq6]
          refine tku1 (i := 32) rfl ?r32bx
          try simp only [Act.put, sq1, sq2, sq3, sq4, sq5, sq6]
          refine tk1 (i := 33) (v := ?v33bx) rfl ?y33bx ?r33bx
          case y33bx => (intro w' hSw; (try dsimp only at hSw); go_simp; (try with_reducible rfl))
          try simp only [Act.put, sq1, sq2, sq3, sq4, sq5, sq6]
          refine wpAnyH_done (by kernel_rfl) ?_ _
          have HEE := hid (EA.out.trans EX)
          clear hHeld EX
          go_wp2
          go_ret
          exact ⟨ret_bool HRR.out.symm, HEE.out⟩
        refine tk1 (i := 5) (v := ?v5c) rfl ?y5c ?r5c
        case y5c => (intro w' hSw; (try dsimp only at hSw); go_simp; (try with_reducible rfl))
        try simp only [Act.put, sq1, sq2, sq3, sq4, sq5, sq6]
        refine tk1 (i := 6) (v := ?v6c) rfl ?y6c ?r6c
        case y6c => (intro w' hSw; (try dsimp only at hSw); go_simp; (try with_reducible rfl))
        try simp only [Act.put, sq1, sq2, sq3, sq4, sq5, sq6]
        refine tk1 (i := 7) (v := ?v7c) rfl ?y7c ?r7c
        case y7c => (intro w' hSw; (try dsimp only at hSw); go_simp; (try with_reducible rfl))
        try simp only [Act.put, sq1, sq2, sq3, sq4, sq5, sq6]
        refine tk1 (i := 8) (v := ?v8c) rfl ?y8c ?r8c
        case y8c => (intro w' hSw; (try dsimp only at hSw); go_simp; (try simp only [HZ.out, HZ2.out]); (try with_reducible rfl))
        try simp only [Act.put, sq1, sq2, sq3, sq4, sq5, sq6]
        refine tk1 (i := 9) (v := ?v9c) rfl ?y9c ?r9c
        case y9c => (intro w' hSw; (try dsimp only at hSw); go_simp; (try with_reducible rfl))
        try simp only [Act.put, sq1, sq2, sq3, sq4, sq5, sq6]
        refine tk1 (i := 10) (v := ?v10c) rfl ?y10c ?r10c
        case y10c => (intro w' hSw; (try dsimp only at hSw); go_simp; (try with_reducible rfl))
        try simp only [Act.put, sq1, sq2, sq3, sq4, sq5, sq6]
        refine tk1 (i := 11) (v := ?v11c) rfl ?y11c ?r11c
        case y11c => (intro w' hSw; (try dsimp only at hSw); go_simp; (try with_reducible rfl))
        try simp only [Act.put, sq1, sq2, sq3, sq4, sq5, sq6]
        refine tk1 (i := 12) (v := ?v12c) rfl ?y12c ?r12c
        case y12c => (intro w' hSw; (try dsimp only at hSw); go_simp; (try with_reducible rfl))
        try simp only [Act.put, sq1, sq2, sq3, sq4, sq5, sq6]
        refine tk1 (i := 13) (v := ?v13c) rfl ?y13c ?r13c
        case y13c => (intro w' hSw; (try dsimp only at hSw); go_simp; (try with_reducible rfl))
        try simp only [Act.put, sq1, sq2, sq3, sq4, sq5, sq6]
        refine tk1 (i := 14) (v := ?v14c) rfl ?y14c ?r14c
        case y14c => (intro w' hSw; (try dsimp only at hSw); go_simp; (try with_reducible rfl))
        try simp only [Act.put, sq1, sq2, sq3, sq4, sq5, sq6]
        refine tk1 (i := 15) (v := ?v15c) rfl ?y15c ?r15c
        case y15c => (intro w' hSw; (try dsimp only at hSw); go_simp; (try simp only [hw1]); (try with_reducible rfl))
        try simp only [Act.put, sq1, sq2, sq3, sq4, sq5, sq6]
        by_cases hq1 : fd < yd
        · have HRR := hid (HB9.out (decide_eq_false (by omega)))
          refine tk1 (i := 16) (v := ?v16d) rfl ?y16d ?r16d
          case y16d => (intro w' hSw; (try dsimp only at hSw); go_simp; (try with_reducible rfl))
          try simp only [Act.put, sq1, sq2, sq3, sq4, sq5, sq6]
          refine tk1 (i := 17) (v := ?v17d) rfl ?y17d ?r17d
          case y17d => (intro w' hSw; (try dsimp only at hSw); go_simp; (try with_reducible rfl))
          try simp only [Act.put, sq1, sq2, sq3, sq4, sq5, sq6]
          refine tk1 (i := 18) (v := ?v18d) rfl ?y18d ?r18d
          case y18d => (intro w' hSw; (try dsimp only at hSw); go_simp; (try with_reducible rfl))
          try simp only [Act.put, sq1, sq2, sq3, sq4, sq5, sq6]
          refine tk1 (i := 19) (v := ?v19d) rfl ?y19d ?r19d
          case y19d => (intro w' hSw; (try dsimp only at hSw); go_simp; (try with_reducible rfl))
          try simp only [Act.put, sq1, sq2, sq3, sq4, sq5, sq6]
          refine tk1 (i := 20) (v := ?v20d) rfl ?y20d ?r20d
          case y20d => (intro w' hSw; (try dsimp only at hSw); go_simp; (try with_reducible rfl))
          try simp only [Act.put, sq1, sq2, sq3, sq4, sq5, sq6]
          refine tk1 (i := 21) (v := ?v21d) rfl ?y21d ?r21d
          case y21d => (intro w' hSw; (try dsimp only at hSw); go_simp; (try with_reducible rfl))
          try simp only [Act.put, sq1, sq2, sq3, sq4, sq5, sq6]
          refine tk1 (i := 22) (v := ?v22d) rfl ?y22d ?r22d
          case y22d => (intro w' hSw; (try dsimp only at hSw); go_simp; (try with_reducible rfl))
          try simp only [Act.put, sq1, sq2, sq3, sq4, sq5, sq6]
          refine tku1 (i := 23) rfl ?r23d
          try simp only [Act.put, sq1, sq2, sq3, sq4, sq5, sq6]
          refine tku1 (i := 24) rfl ?r24d
          try simp only [Act.put, sq1, sq2, sq3, sq4, sq5, sq6]
          refine tku1 (i := 25) rfl ?r25d
          try simp only [Act.put, sq1, sq2, sq3, sq4, sq5, sq6]
          refine tku1 (i := 26) rfl ?r26d
          try simp only [Act.put, sq1, sq2, sq3, sq4, sq5, sq6]
          refine tk1 (i := 27) (v := ?v27d) rfl ?y27d ?r27d
          case y27d => (intro w' hSw; (try dsimp only at hSw); go_simp; (try with_reducible rfl))
          try simp only [Act.put, sq1, sq2, sq3, sq4, sq5, sq6]
          refine tk1 (i := 28) (v := ?v28d) rfl ?y28d ?r28d
          case y28d => (intro w' hSw; (try dsimp only at hSw); go_simp; (try with_reducible rfl))
          try simp only [Act.put, sq1, sq2, sq3, sq4, sq5, sq6]
          refine tku1 (i := 29) rfl ?r29d
          try simp only [Act.put, sq1, sq2, sq3, sq4, sq5, sq6]
          refine tku1 (i := 30) rfl ?r30d
          try simp only [Act.put, sq1, sq2, sq3, sq4, sq5, sq6]
          refine tku1 (i := 31) rfl ?r31d
          try simp only [Act.put, sq1, sq2, sq3, sq4, sq5, sq6]
          refine tku1 (i := 32) rfl ?r32d
          try simp only [Act.put, sq1, sq2, sq3, sq4, sq5, sq6]
          refine tk1 (i := 33) (v := ?v33d) rfl ?y33d ?r33d
          case y33d => (intro w' hSw; (try dsimp only at hSw); go_simp; (try with_reducible rfl))
          try simp only [Act.put, sq1, sq2, sq3, sq4, sq5, sq6]
          refine wpAnyH_done (by kernel_rfl) ?_ _
          have HEE := hid (EA.out.trans EX)
          clear hHeld EX
          go_wp2
          go_ret
          exact ⟨ret_bool HRR.out.symm, HEE.out⟩
        have HS9 := hid (fun h => HS8.out h (decide_eq_true (show yd ≤ fd by omega)))
        refine tk1 (i := 16) (v := ?v16e) rfl ?y16e ?r16e
        case y16e => (intro w' hSw; (try dsimp only at hSw); go_simp; (try with_reducible rfl))
        try simp only [Act.put, sq1, sq2, sq3, sq4, sq5, sq6]
        refine tk1 (i := 17) (v := ?v17e) rfl ?y17e ?r17e
        case y17e => (intro w' hSw; (try dsimp only at hSw); go_simp; (try with_reducible rfl))
        try simp only [Act.put, sq1, sq2, sq3, sq4, sq5, sq6]
        refine tk1 (i := 18) (v := ?v18e) rfl ?y18e ?r18e
        case y18e => (intro w' hSw; (try dsimp only at hSw); go_simp; (try with_reducible rfl))
        try simp only [Act.put, sq1, sq2, sq3, sq4, sq5, sq6]
        refine tk1 (i := 19) (v := ?v19e) rfl ?y19e ?r19e
        case y19e => (intro w' hSw; (try dsimp only at hSw); go_simp; (try with_reducible rfl))
        try simp only [Act.put, sq1, sq2, sq3, sq4, sq5, sq6]
        refine tk1 (i := 20) (v := ?v20e) rfl ?y20e ?r20e
        case y20e => (intro w' hSw; (try dsimp only at hSw); go_simp; (try with_reducible rfl))
        try simp only [Act.put, sq1, sq2, sq3, sq4, sq5, sq6]
        refine tk1 (i := 21) (v := ?v21e) rfl ?y21e ?r21e
        case y21e => (intro w' hSw; (try dsimp only at hSw); go_simp; (try with_reducible rfl))
        try simp only [Act.put, sq1, sq2, sq3, sq4, sq5, sq6]
        refine tk1 (i := 22) (v := ?v22e) rfl ?y22e ?r22e
        case y22e => (intro w' hSw; (try dsimp only at hSw); go_simp; (try with_reducible rfl))
        try simp only [Act.put, sq1, sq2, sq3, sq4, sq5, sq6]
        refine tk1 (i := 23) (v := ?v23fz) rfl ?y23fz ?r23fz
        case y23fz => (intro w' hSw; (try dsimp only at hSw); go_simp; (try with_reducible rfl))
        try simp only [Act.put, sq1, sq2, sq3, sq4, sq5, sq6]
        refine tk1 (i := 24) (v := ?v24fz) rfl ?y24fz ?r24fz
        case y24fz => (intro w' hSw; (try dsimp only at hSw); go_simp; (try with_reducible rfl))
        try simp only [Act.put, sq1, sq2, sq3, sq4, sq5, sq6]
        refine wpAnyH_ready (rs := [25]) (by kernel_rfl) (by simp) ?_
        refine AllReadyH.cons (o := _) rfl (fun K hK => ?_) AllReadyH.nil
        go_simp
        refine Calls.mono (HF2.out _) ?_
        rintro e X ⟨rfl, hEX⟩
        dsimp only
        replace EX := EX.trans hEX
        clear hHeld hEX
        refine hK.out _ _ (sK EX) (fun hHeld => ?_)
        clear hK K
        try simp only [Act.put, sq1, sq2, sq3, sq4, sq5, sq6]
        cases x2
        case false =>
          have HRR := hid (HB1k.out (by rw [HWB.out]; rfl))
          refine tk1 (i := 26) (v := ?v26gz) rfl ?y26gz ?r26gz
          case y26gz => (intro w' hSw; (try dsimp only at hSw); go_simp; (try with_reducible rfl))
          try simp only [Act.put, sq1, sq2, sq3, sq4, sq5, sq6]
          refine tk1 (i := 27) (v := ?v27gz) rfl ?y27gz ?r27gz
          case y27gz => (intro w' hSw; (try dsimp only at hSw); go_simp; (try with_reducible rfl))
          try simp only [Act.put, sq1, sq2, sq3, sq4, sq5, sq6]
          refine tk1 (i := 28) (v := ?v28gz) rfl ?y28gz ?r28gz
          case y28gz => (intro w' hSw; (try dsimp only at hSw); go_simp; (try with_reducible rfl))
          try simp only [Act.put, sq1, sq2, sq3, sq4, sq5, sq6]
          refine tku1 (i := 29) rfl ?r29gz
          try simp only [Act.put, sq1, sq2, sq3, sq4, sq5, sq6]
          refine tku1 (i := 30) rfl ?r30gz
          try simp only [Act.put, sq1, sq2, sq3, sq4, sq5, sq6]
          refine tku1 (i := 31) rfl ?r31gz
          try simp only [Act.put, sq1, sq2, sq3, sq4, sq5, sq6]
          refine tku1 (i := 32) rfl ?r32gz
          try simp only [Act.put, sq1, sq2, sq3, sq4, sq5, sq6]
          refine tk1 (i := 33) (v := ?v33gz) rfl ?y33gz ?r33gz
          case y33gz => (intro w' hSw; (try dsimp only at hSw); go_simp; (try with_reducible rfl))
          try simp only [Act.put, sq1, sq2, sq3, sq4, sq5, sq6]
          refine wpAnyH_done (by kernel_rfl) ?_ _
          have HEE := hid (EA.out.trans EX)
          clear hHeld EX
          go_wp2
          go_ret
          exact ⟨ret_bool HRR.out.symm, HEE.out⟩
        refine tk1 (i := 26) (v := ?v26hz) rfl ?y26hz ?r26hz
        case y26hz => (intro w' hSw; (try dsimp only at hSw); go_simp; (try with_reducible rfl))
        try simp only [Act.put, sq1, sq2, sq3, sq4, sq5, sq6]
        refine tk1 (i := 27) (v := ?v27hz) rfl ?y27hz ?r27hz
        case y27hz => (intro w' hSw; (try dsimp only at hSw); go_simp; (try with_reducible rfl))
        try simp only [Act.put, sq1, sq2, sq3, sq4, sq5, sq6]
        refine tk1 (i := 28) (v := ?v28hz) rfl ?y28hz ?r28hz
        case y28hz => (intro w' hSw; (try dsimp only at hSw); go_simp; (try with_reducible rfl))
        try simp only [Act.put, sq1, sq2, sq3, sq4, sq5, sq6]
        refine tk1 (i := 29) (v := ?v29hz) rfl ?y29hz ?r29hz
        case y29hz => (intro w' hSw; (try dsimp only at hSw); go_simp; (try with_reducible rfl))
        try simp only [Act.put, sq1, sq2, sq3, sq4, sq5, sq6]
        refine tk1 (i := 30) (v := ?v30hz) rfl ?y30hz ?r30hz
        case y30hz => (intro w' hSw; (try dsimp only at hSw); go_simp; (try with_reducible rfl))
        try simp only [Act.put, sq1, sq2, sq3, sq4, sq5, sq6]
        refine wpAnyH_ready (rs := [31]) (by kernel_rfl) (by simp) ?_
        refine AllReadyH.cons (o := _) rfl (fun K hK => ?_) AllReadyH.nil
        go_simp
        refine Calls.mono (HF3.out _) ?_
        rintro e X ⟨rfl, hEX⟩
        dsimp only
        replace EX := EX.trans hEX
        clear hHeld hEX
        refine hK.out _ _ (sK EX) (fun hHeld => ?_)
        clear hK K
        try simp only [Act.put, sq1, sq2, sq3, sq4, sq5, sq6]
        cases x3
        case false =>
          have HRR := hid (HB1k.out (by rw [HWB.out]; rfl))
          refine tk1 (i := 32) (v := ?v32iz) rfl ?y32iz ?r32iz
          case y32iz => (intro w' hSw; (try dsimp only at hSw); go_simp; (try with_reducible rfl))
          try simp only [Act.put, sq1, sq2, sq3, sq4, sq5, sq6]
          refine tk1 (i := 33) (v := ?v33iz) rfl ?y33iz ?r33iz
          case y33iz => (intro w' hSw; (try dsimp only at hSw); go_simp; (try with_reducible rfl))
          try simp only [Act.put, sq1, sq2, sq3, sq4, sq5, sq6]
          refine wpAnyH_done (by kernel_rfl) ?_ _
          have HEE := hid (EA.out.trans EX)
          clear hHeld EX
          go_wp2
          go_ret
          exact ⟨ret_bool HRR.out.symm, HEE.out⟩
        have HRR := hid (HS9.out (by rw [HWB.out]; rfl))
        refine tk1 (i := 32) (v := ?v32jz) rfl ?y32jz ?r32jz
        case y32jz => (intro w' hSw; (try dsimp only at hSw); go_simp; (try with_reducible rfl))
        try simp only [Act.put, sq1, sq2, sq3, sq4, sq5, sq6]
        refine tk1 (i := 33) (v := ?v33jz) rfl ?y33jz ?r33jz
        case y33jz => (intro w' hSw; (try dsimp only at hSw); go_simp; (try with_reducible rfl))
        try simp only [Act.put, sq1, sq2, sq3, sq4, sq5, sq6]
        refine wpAnyH_done (by kernel_rfl) ?_ _
        have HEE := hid (EA.out.trans EX)
        have HKK := hid (KV.out.ext EX)
        clear hHeld EX
        go_wp2
        go_roundw
        case rel => exact ⟨HEE.out, HKK, k + 1, by omega, by go_num, HRR⟩
        case measure => simp [intOf]; omega
    · have HP := hid (HE.out k (by rw [HN.out]; omega) HA.out)
      go_wp2
      go_ret
      exact ⟨ret_bool (by simp [HP.out]), E⟩
end Go.Proofs.YtdhljpngkeobcaaGreat
