/- The law's harmed: the true damage of a rope, and FarRope. -/
import Derived.Test.YtdhljpngkeobcaaGreatB19
import Derived.Deep.QuietTactic
import Derived.BigQuiet
set_option linter.unusedSimpArgs false
set_option linter.unusedVariables false
namespace Go.Proofs.YtdhljpngkeobcaaGreat
open Go.RowKit
set_option maxHeartbeats 1000000 in
theorem farRope_any (m : Md) (r : Ro) (A : Option Addr) (c : Nat) (B : Option Addr) (d : Nat) (w : World) :
    Calls Tryz.prog 13 #[m.val A c, r.val B d] w fun e w' => e = .returned (.bool (decide (8 < m.wears.length) || decide (12 < r.falls.length))) ∧ Ext w w' := by
  unfold Md.val Ro.val
  obtain ⟨sh, us, be, ws⟩ := m
  obtain ⟨ma, fi, le, fs⟩ := r
  dsimp only at *
  generalize ws.length = n at *
  generalize fs.length = k at *
  by_cases h1 : 8 < n
  · have h1i : (8 : Int) < (n : Int) := by omega
    go_enter Tryz.func13, Tryz.ntmps13
    go_wp2
    go_ret
    exact ⟨ret_bool (by simp [h1]), by (repeat' (first | with_reducible assumption | with_reducible exact Ext.refl _ | with_reducible refine Ext.alloc ?_ _ | with_reducible refine Ext.set ?_ ?_ _ | with_reducible refine Ext.drew ?_ | with_reducible refine Ext.drewN ?_ _ | with_reducible refine Ext.trans ?_ (by assumption) | (dsimp only; omega)))⟩
  · have h1i : ¬ (8 : Int) < (n : Int) := by omega
    by_cases h2 : 12 < k
    · have h2i : (12 : Int) < (k : Int) := by omega
      go_enter Tryz.func13, Tryz.ntmps13
      go_wp2
      go_ret
      exact ⟨ret_bool (by simp [h2]), by (repeat' (first | with_reducible assumption | with_reducible exact Ext.refl _ | with_reducible refine Ext.alloc ?_ _ | with_reducible refine Ext.set ?_ ?_ _ | with_reducible refine Ext.drew ?_ | with_reducible refine Ext.drewN ?_ _ | with_reducible refine Ext.trans ?_ (by assumption) | (dsimp only; omega)))⟩
    · have h2i : ¬ (12 : Int) < (k : Int) := by omega
      go_enter Tryz.func13, Tryz.ntmps13
      go_wp2
      go_ret
      exact ⟨ret_bool (by simp [h1, h2]), by (repeat' (first | with_reducible assumption | with_reducible exact Ext.refl _ | with_reducible refine Ext.alloc ?_ _ | with_reducible refine Ext.set ?_ ?_ _ | with_reducible refine Ext.drew ?_ | with_reducible refine Ext.drewN ?_ _ | with_reducible refine Ext.trans ?_ (by assumption) | (dsimp only; omega)))⟩
def harmedV (m : Md) (r : Ro) (D : Int) (hs os : List Int) : Int × Bool := if trueB r.falls hs os then (trueN m.wears D r.falls hs os, true) else (0, false)
set_option maxRecDepth 100000 in
set_option maxHeartbeats 8000000 in
theorem harmed_any (m : Md) (r : Ro) (A : Option Addr) (c : Nat) (B : Option Addr) (d : Nat) (hs os : List Int) (HA OA : Option Addr) (hn on hc oc : Nat) (D : Int) (hm : mdB m = true) (hr : roB r = true) (hhn : hs.length = hn) (hon : os.length = on) (hh1 : hn ≤ 1000) (ho1 : on ≤ 1000)
    (w : World) (hx : WrsAt w A m.wears) (hy : FlsAt w B r.falls) (hh : IntsAt w HA hs) (ho : IntsAt w OA os) :
    Calls Tryz.prog 43 #[m.val A c, r.val B d, .agg #[.slice HA hn hc, .slice OA on oc], .int .i64 D] w fun e w' => e = .returned (.tuple #[.int .i64 (harmedV m r D hs os).1, .bool (harmedV m r D hs os).2]) ∧ Ext w w' := by
  have HY := hid hy
  have HH := hid hh
  have HO := hid ho
  have HHN := hid hhn
  have HON := hid hon
  have hp6 := (mdB_parts hm).2.2.2.1
  have hp10 := (roB_parts hr).2.2.2.1
  have HM := hid (fun (f : Int) (W : World) (hE : Ext w W) => rHarm_any m A c f (by omega) W (hx.ext hE))
  have HFL := hid (fun (k : Nat) (hk : k < r.falls.length) => fl_of hr (mem_at r.falls zeroFl k hk))
  have HBD := hid (fun (k : Nat) (hk : k ≤ r.falls.length) (ht : insK r.falls hs os k = true) => show 0 ≤ truK m.wears D r.falls hs os k ∧ truK m.wears D r.falls hs os k ≤ 100 * k by
    have h1 := true_within hm hr D hs os k hk ht
    have h2 := dmgK_bd hm D r.falls k hk
    omega)
  have HHB := hid (harmN_bd hm)
  have HS := hid (fun k => truK_succ m.wears D r.falls hs os k)
  have HI := hid (fun k => insK_succ r.falls hs os k)
  have HIB := hid (fun (k : Nat) (hk : k < r.falls.length) => insK_bad (fs := r.falls) (hs := hs) (os := os) hk)
  have HT0 := hid (show truK m.wears D r.falls hs os 0 = 0 from rfl)
  have HI0 := hid (show insK r.falls hs os 0 = true from rfl)
  have HN := hid (show r.falls.length = r.falls.length from rfl)
  obtain ⟨RR, hRR⟩ : ∃ v, harmedV m r D hs os = v := ⟨_, rfl⟩
  have HRV := hid hRR
  rw [hRR]
  unfold harmedV trueB trueN at HRV
  rw [hhn, hon] at HRV
  clear hRR
  clear hx hy hh ho hhn hon hm hr
  unfold Md.val Ro.val at *
  obtain ⟨sh, us, be, ws⟩ := m
  obtain ⟨ma, fi, le, fs⟩ := r
  dsimp only at *
  generalize ws.length = nw at *
  obtain ⟨n, hnn⟩ : ∃ n, fs.length = n := ⟨_, rfl⟩
  replace HN := hid hnn
  rw [hnn] at hp10 HBD HFL HIB HRV ⊢
  clear hnn
  have B0 := blks3 w (.cells #[.int .i64 sh, .int .i64 us, .int .i64 be, .slice A nw c] 24) (.cells #[.int .i64 ma, .int .i64 fi, .int .i64 le, .slice B n d] 27) (.cells #[.slice HA hn hc, .slice OA on oc] 66)
  have B1 := hid (show Blk _ _ _ _ from B0.1)
  have B2 := hid (show Blk _ _ _ _ from B0.2.1)
  have B3 := hid (show Blk _ _ _ _ from B0.2.2)
  clear B0
  by_cases e1 : hn = n
  case neg =>
    have e1i : ¬ ((hn : Int) = (n : Int)) := by omega
    go_enter Tryz.func43, Tryz.ntmps43
    go_wp2
    all_goals (go_ret2; exact ⟨by rw [← HRV.out]; simp [e1], by (repeat' (first | with_reducible assumption | with_reducible exact Ext.refl _ | with_reducible refine Ext.alloc ?_ _ | with_reducible refine Ext.set ?_ ?_ _ | with_reducible refine Ext.drew ?_ | with_reducible refine Ext.drewN ?_ _ | with_reducible refine Ext.trans ?_ (by assumption) | (dsimp only; omega)))⟩)
  by_cases e2 : on = n
  case neg =>
    have e2i : ¬ ((on : Int) = (n : Int)) := by omega
    have e1s := e1.symm
    subst e1s
    go_enter Tryz.func43, Tryz.ntmps43
    go_wp2
    all_goals (go_ret2; exact ⟨by rw [← HRV.out]; simp [e2], by (repeat' (first | with_reducible assumption | with_reducible exact Ext.refl _ | with_reducible refine Ext.alloc ?_ _ | with_reducible refine Ext.set ?_ ?_ _ | with_reducible refine Ext.drew ?_ | with_reducible refine Ext.drewN ?_ _ | with_reducible refine Ext.trans ?_ (by assumption) | (dsimp only; omega)))⟩)
  have e1s := e1.symm
  subst e1s
  have e2s := e2.symm
  subst e2s
  clear e1 e2
  simp only [decide_true, Bool.true_and] at HRV
  go_enter Tryz.func43, Tryz.ntmps43
  go_wp2
  go_loopw [10, 11] (fun v i wr => Ext w wr ∧ Hid (Blk wr w.heap.size 24 #[.int .i64 sh, .int .i64 us, .int .i64 be, .slice A nw c]) ∧ Hid (Blk wr (w.heap.size + 1) 27 #[.int .i64 ma, .int .i64 fi, .int .i64 le, .slice B n d]) ∧
      Hid (Blk wr (w.heap.size + 1 + 1) 66 #[.slice HA n hc, .slice OA n oc]) ∧ ∃ k : Nat, k ≤ n ∧ i = .int .i64 k ∧ v = .int .i64 (truK ws D fs hs os k) ∧ Hid (insK fs hs os k = true)) (fun _ i _ => n - (intOf i).toNat)
  case atStart => exact ⟨by (repeat' (first | with_reducible assumption | with_reducible exact Ext.refl _ | with_reducible refine Ext.alloc ?_ _ | with_reducible refine Ext.set ?_ ?_ _ | with_reducible refine Ext.drew ?_ | with_reducible refine Ext.drewN ?_ _ | with_reducible refine Ext.trans ?_ (by assumption) | (dsimp only; omega))), B1, B2, B3, 0, Nat.zero_le _, rfl, by rw [HT0.out], HI0⟩
  case round =>
    obtain ⟨E, K1, K2, K3, k, hk, rfl, rfl, HA9⟩ := hrel
    clear B1 B2 B3 HT0 HI0
    have a0 := K1.out.cell 0
    have a1 := K1.out.cell 1
    have a2 := K1.out.cell 2
    have a3 := K1.out.cell 3
    have b3 := K2.out.cell 3
    have t0 := K3.out.cell 0
    have t1 := K3.out.cell 1
    have z0 := K1.out.lt
    have z1 := K2.out.lt
    have z2 := K3.out.lt
    simp only [List.getElem?_toArray, List.getElem?_cons_zero, List.getElem?_cons_succ] at a0 a1 a2 a3 b3 t0 t1
    have hbd := HBD.out k hk HA9.out
    by_cases hlt : k < n
    · obtain ⟨b, off, rfl, hb, hck⟩ := (HY.out.ext E).at_ HN.out hlt
      obtain ⟨hb1, hf1, rfl, hhb, hhc⟩ := (HH.out.ext E).at_ HHN.out hlt
      obtain ⟨ob1, of1, rfl, hob, hoc⟩ := (HO.out.ext E).at_ HON.out hlt
      have hk0 : (0 : Int) ≤ (k : Int) := by omega
      have hk1 : (k : Int) < (n : Int) := by omega
      have HIk := hid (HI.out k)
      have HIBk := hid (HIB.out k hlt)
      have HSk := hid (HS.out k)
      have hfl := HFL.out k hlt
      unfold truS at HSk
      clear HI HIB HS HFL HBD
      generalize fs.getD k zeroFl = x at *
      generalize hs.getD k 0 = h at *
      generalize os.getD k 0 = o at *
      generalize truK ws D fs hs os k = T at *
      obtain ⟨fd, hl, hh, ol, oh⟩ := x
      obtain ⟨c0, c1, c2, c3, c4⟩ := hck
      unfold inFl at HIk HIBk
      dsimp only at *
      have HZZ := hid (show insK fs hs os k = true from HA9.out)
      go_wp2_with fail
      have e1 := Blk.new wr 75 #[.int .i64 fd, .int .i64 hl, .int .i64 hh, .int .i64 ol, .int .i64 oh]
      have EA := E.alloc (.cells #[.int .i64 fd, .int .i64 hl, .int .i64 hh, .int .i64 ol, .int .i64 oh] 75)
      have EV := (Ext.refl wr).alloc (.cells #[.int .i64 fd, .int .i64 hl, .int .i64 hh, .int .i64 ol, .int .i64 oh] 75)
      obtain ⟨V, hV⟩ : ∃ V, wr.alloc (.cells #[.int .i64 fd, .int .i64 hl, .int .i64 hh, .int .i64 ol, .int .i64 oh] 75) = V := ⟨_, rfl⟩
      rw [hV] at e1 EA EV ⊢
      clear hV
      have KV1 := hid (K1.out.ext EV)
      have KV2 := hid (K2.out.ext EV)
      have KV3 := hid (K3.out.ext EV)
      replace EA := hid EA
      obtain ⟨f0, f1, f2, f3, f4⟩ : _ ∧ _ ∧ _ ∧ _ ∧ _ := ⟨e1.cell 0, e1.cell 1, e1.cell 2, e1.cell 3, e1.cell 4⟩
      replace t0 := (EV.cell (p := ⟨w.heap.size + 1 + 1, _, none⟩) z2).trans t0
      replace t1 := (EV.cell (p := ⟨w.heap.size + 1 + 1, _, none⟩) z2).trans t1
      replace a0 := (EV.cell (p := ⟨w.heap.size, _, none⟩) z0).trans a0
      replace a1 := (EV.cell (p := ⟨w.heap.size, _, none⟩) z0).trans a1
      replace a2 := (EV.cell (p := ⟨w.heap.size, _, none⟩) z0).trans a2
      replace a3 := (EV.cell (p := ⟨w.heap.size, _, none⟩) z0).trans a3
      replace hhc := (EV.cell (p := ⟨hb1, _, none⟩) hhb).trans hhc
      replace hoc := (EV.cell (p := ⟨ob1, _, none⟩) hob).trans hoc
      have zs := EV.size
      have zf := e1.lt
      replace z0 : w.heap.size < V.heap.size := by omega
      replace z2 : w.heap.size + 1 + 1 < V.heap.size := by omega
      replace hhb : hb1 < V.heap.size := by omega
      replace hob : ob1 < V.heap.size := by omega
      simp only [List.getElem?_toArray, List.getElem?_cons_zero, List.getElem?_cons_succ] at f0 f1 f2 f3 f4
      clear e1 EV E K1 K2 K3 c0 c1 c2 c3 c4 zs
      refine wp_region_held_drew (S := fun w' => (∀ b o, b < V.heap.size → w'.cell? ⟨b, o, none⟩ = V.cell? ⟨b, o, none⟩) ∧ V.heap.size ≤ w'.heap.size ∧ Ext V w') (by kernel_rfl) ?hS0 (fun hHeld => ?_)
      case hS0 => exact sK (Ext.drew (Ext.refl _))
      have X0 : Ext V V.drew := Ext.drew (Ext.refl V)
      have EX := X0
      obtain ⟨X, hX⟩ : ∃ X, V.drew = X := ⟨_, rfl⟩
      rw [hX] at EX hHeld ⊢
      clear hX X0
      refine tk1 (i := 0) (v := ?v0a) rfl ?y0a ?r0a
      case y0a => (intro w' hSw; (try dsimp only at hSw); go_simp; (try with_reducible rfl))
      try simp only [Act.put, sq1, sq2, sq3, sq4, sq5, sq6]
      refine tk1 (i := 1) (v := ?v1a) rfl ?y1a ?r1a
      case y1a => (intro w' hSw; (try dsimp only at hSw); go_simp; (try with_reducible rfl))
      try simp only [Act.put, sq1, sq2, sq3, sq4, sq5, sq6]
      refine tk1 (i := 2) (v := ?v2a) rfl ?y2a ?r2a
      case y2a => (intro w' hSw; (try dsimp only at hSw); go_simp; (try with_reducible rfl))
      try simp only [Act.put, sq1, sq2, sq3, sq4, sq5, sq6]
      refine tk1 (i := 3) (v := ?v3a) rfl ?y3a ?r3a
      case y3a => (intro w' hSw; (try dsimp only at hSw); go_simp; (try with_reducible rfl))
      try simp only [Act.put, sq1, sq2, sq3, sq4, sq5, sq6]
      refine tk1 (i := 4) (v := ?v4a) rfl ?y4a ?r4a
      case y4a => (intro w' hSw; (try dsimp only at hSw); go_simp; (try with_reducible rfl))
      try simp only [Act.put, sq1, sq2, sq3, sq4, sq5, sq6]
      refine tk1 (i := 5) (v := ?v5a) rfl ?y5a ?r5a
      case y5a => (intro w' hSw; (try dsimp only at hSw); go_simp; (try with_reducible rfl))
      try simp only [Act.put, sq1, sq2, sq3, sq4, sq5, sq6]
      refine tk1 (i := 6) (v := ?v6a) rfl ?y6a ?r6a
      case y6a => (intro w' hSw; (try dsimp only at hSw); go_simp; (try with_reducible rfl))
      try simp only [Act.put, sq1, sq2, sq3, sq4, sq5, sq6]
      refine tk1 (i := 7) (v := ?v7a) rfl ?y7a ?r7a
      case y7a => (intro w' hSw; (try dsimp only at hSw); go_simp; (try with_reducible rfl))
      try simp only [Act.put, sq1, sq2, sq3, sq4, sq5, sq6]
      by_cases q1 : h < hl
      · have HR := hid (HIBk.out (by rw [decide_eq_false (show ¬ hl ≤ h by omega)]; rfl))
        refine tk1 (i := 8) (v := ?v8b) rfl ?y8b ?r8b
        case y8b => (intro w' hSw; (try dsimp only at hSw); go_simp; (try with_reducible rfl))
        try simp only [Act.put, sq1, sq2, sq3, sq4, sq5, sq6]
        refine tk1 (i := 9) (v := ?v9b) rfl ?y9b ?r9b
        case y9b => (intro w' hSw; (try dsimp only at hSw); go_simp; (try with_reducible rfl))
        try simp only [Act.put, sq1, sq2, sq3, sq4, sq5, sq6]
        refine tku1 (i := 10) rfl ?r10b
        try simp only [Act.put, sq1, sq2, sq3, sq4, sq5, sq6]
        refine tku1 (i := 11) rfl ?r11b
        try simp only [Act.put, sq1, sq2, sq3, sq4, sq5, sq6]
        refine tku1 (i := 12) rfl ?r12b
        try simp only [Act.put, sq1, sq2, sq3, sq4, sq5, sq6]
        refine tku1 (i := 13) rfl ?r13b
        try simp only [Act.put, sq1, sq2, sq3, sq4, sq5, sq6]
        refine tku1 (i := 14) rfl ?r14b
        try simp only [Act.put, sq1, sq2, sq3, sq4, sq5, sq6]
        refine tku1 (i := 15) rfl ?r15b
        try simp only [Act.put, sq1, sq2, sq3, sq4, sq5, sq6]
        refine tku1 (i := 16) rfl ?r16b
        try simp only [Act.put, sq1, sq2, sq3, sq4, sq5, sq6]
        refine tku1 (i := 17) rfl ?r17b
        try simp only [Act.put, sq1, sq2, sq3, sq4, sq5, sq6]
        refine tku1 (i := 18) rfl ?r18b
        try simp only [Act.put, sq1, sq2, sq3, sq4, sq5, sq6]
        refine tk1 (i := 19) (v := ?v19b) rfl ?y19b ?r19b
        case y19b => (intro w' hSw; (try dsimp only at hSw); go_simp; (try with_reducible rfl))
        try simp only [Act.put, sq1, sq2, sq3, sq4, sq5, sq6]
        refine tk1 (i := 20) (v := ?v20b) rfl ?y20b ?r20b
        case y20b => (intro w' hSw; (try dsimp only at hSw); go_simp; (try with_reducible rfl))
        try simp only [Act.put, sq1, sq2, sq3, sq4, sq5, sq6]
        refine tku1 (i := 21) rfl ?r21b
        try simp only [Act.put, sq1, sq2, sq3, sq4, sq5, sq6]
        refine tku1 (i := 22) rfl ?r22b
        try simp only [Act.put, sq1, sq2, sq3, sq4, sq5, sq6]
        refine tku1 (i := 23) rfl ?r23b
        try simp only [Act.put, sq1, sq2, sq3, sq4, sq5, sq6]
        refine tku1 (i := 24) rfl ?r24b
        try simp only [Act.put, sq1, sq2, sq3, sq4, sq5, sq6]
        refine tku1 (i := 25) rfl ?r25b
        try simp only [Act.put, sq1, sq2, sq3, sq4, sq5, sq6]
        refine tku1 (i := 26) rfl ?r26b
        try simp only [Act.put, sq1, sq2, sq3, sq4, sq5, sq6]
        refine tku1 (i := 27) rfl ?r27b
        try simp only [Act.put, sq1, sq2, sq3, sq4, sq5, sq6]
        refine tku1 (i := 28) rfl ?r28b
        try simp only [Act.put, sq1, sq2, sq3, sq4, sq5, sq6]
        refine tku1 (i := 29) rfl ?r29b
        try simp only [Act.put, sq1, sq2, sq3, sq4, sq5, sq6]
        refine tk1 (i := 30) (v := ?v30b) rfl ?y30b ?r30b
        case y30b => (intro w' hSw; (try dsimp only at hSw); go_simp; (try with_reducible rfl))
        try simp only [Act.put, sq1, sq2, sq3, sq4, sq5, sq6]
        refine tk1 (i := 31) (v := ?v31b) rfl ?y31b ?r31b
        case y31b => (intro w' hSw; (try dsimp only at hSw); go_simp; (try with_reducible rfl))
        try simp only [Act.put, sq1, sq2, sq3, sq4, sq5, sq6]
        refine tku1 (i := 32) rfl ?r32b
        try simp only [Act.put, sq1, sq2, sq3, sq4, sq5, sq6]
        refine tku1 (i := 33) rfl ?r33b
        try simp only [Act.put, sq1, sq2, sq3, sq4, sq5, sq6]
        refine tku1 (i := 34) rfl ?r34b
        try simp only [Act.put, sq1, sq2, sq3, sq4, sq5, sq6]
        refine tku1 (i := 35) rfl ?r35b
        try simp only [Act.put, sq1, sq2, sq3, sq4, sq5, sq6]
        refine tku1 (i := 36) rfl ?r36b
        try simp only [Act.put, sq1, sq2, sq3, sq4, sq5, sq6]
        refine tku1 (i := 37) rfl ?r37b
        try simp only [Act.put, sq1, sq2, sq3, sq4, sq5, sq6]
        refine tku1 (i := 38) rfl ?r38b
        try simp only [Act.put, sq1, sq2, sq3, sq4, sq5, sq6]
        refine tku1 (i := 39) rfl ?r39b
        try simp only [Act.put, sq1, sq2, sq3, sq4, sq5, sq6]
        refine tku1 (i := 40) rfl ?r40b
        try simp only [Act.put, sq1, sq2, sq3, sq4, sq5, sq6]
        refine tk1 (i := 41) (v := ?v41b) rfl ?y41b ?r41b
        case y41b => (intro w' hSw; (try dsimp only at hSw); go_simp; (try with_reducible rfl))
        try simp only [Act.put, sq1, sq2, sq3, sq4, sq5, sq6]
        refine wpAnyH_done (by kernel_rfl) ?_ _
        have HEE := hid (EA.out.trans EX)
        clear hHeld EX HHB HM HIBk HIk HZZ HSk
        go_wp2
        go_ret2
        exact ⟨by rw [← HRV.out]; simp [HR.out], HEE.out⟩
      refine tk1 (i := 8) (v := ?v8a) rfl ?y8a ?r8a
      case y8a => (intro w' hSw; (try dsimp only at hSw); go_simp; (try with_reducible rfl))
      try simp only [Act.put, sq1, sq2, sq3, sq4, sq5, sq6]
      refine tk1 (i := 9) (v := ?v9a) rfl ?y9a ?r9a
      case y9a => (intro w' hSw; (try dsimp only at hSw); go_simp; (try with_reducible rfl))
      try simp only [Act.put, sq1, sq2, sq3, sq4, sq5, sq6]
      refine tk1 (i := 10) (v := ?v10a) rfl ?y10a ?r10a
      case y10a => (intro w' hSw; (try dsimp only at hSw); go_simp; (try with_reducible rfl))
      try simp only [Act.put, sq1, sq2, sq3, sq4, sq5, sq6]
      refine tk1 (i := 11) (v := ?v11a) rfl ?y11a ?r11a
      case y11a => (intro w' hSw; (try dsimp only at hSw); go_simp; (try with_reducible rfl))
      try simp only [Act.put, sq1, sq2, sq3, sq4, sq5, sq6]
      refine tk1 (i := 12) (v := ?v12a) rfl ?y12a ?r12a
      case y12a => (intro w' hSw; (try dsimp only at hSw); go_simp; (try with_reducible rfl))
      try simp only [Act.put, sq1, sq2, sq3, sq4, sq5, sq6]
      refine tk1 (i := 13) (v := ?v13a) rfl ?y13a ?r13a
      case y13a => (intro w' hSw; (try dsimp only at hSw); go_simp; (try with_reducible rfl))
      try simp only [Act.put, sq1, sq2, sq3, sq4, sq5, sq6]
      refine tk1 (i := 14) (v := ?v14a) rfl ?y14a ?r14a
      case y14a => (intro w' hSw; (try dsimp only at hSw); go_simp; (try with_reducible rfl))
      try simp only [Act.put, sq1, sq2, sq3, sq4, sq5, sq6]
      refine tk1 (i := 15) (v := ?v15a) rfl ?y15a ?r15a
      case y15a => (intro w' hSw; (try dsimp only at hSw); go_simp; (try with_reducible rfl))
      try simp only [Act.put, sq1, sq2, sq3, sq4, sq5, sq6]
      refine tk1 (i := 16) (v := ?v16a) rfl ?y16a ?r16a
      case y16a => (intro w' hSw; (try dsimp only at hSw); go_simp; (try with_reducible rfl))
      try simp only [Act.put, sq1, sq2, sq3, sq4, sq5, sq6]
      refine tk1 (i := 17) (v := ?v17a) rfl ?y17a ?r17a
      case y17a => (intro w' hSw; (try dsimp only at hSw); go_simp; (try with_reducible rfl))
      try simp only [Act.put, sq1, sq2, sq3, sq4, sq5, sq6]
      by_cases q2 : hh < h
      · have HR := hid (HIBk.out (by rw [decide_eq_false (show ¬ h ≤ hh by omega)]; simp))
        refine tk1 (i := 18) (v := ?v18c) rfl ?y18c ?r18c
        case y18c => (intro w' hSw; (try dsimp only at hSw); go_simp; (try with_reducible rfl))
        try simp only [Act.put, sq1, sq2, sq3, sq4, sq5, sq6]
        refine tk1 (i := 19) (v := ?v19c) rfl ?y19c ?r19c
        case y19c => (intro w' hSw; (try dsimp only at hSw); go_simp; (try with_reducible rfl))
        try simp only [Act.put, sq1, sq2, sq3, sq4, sq5, sq6]
        refine tk1 (i := 20) (v := ?v20c) rfl ?y20c ?r20c
        case y20c => (intro w' hSw; (try dsimp only at hSw); go_simp; (try with_reducible rfl))
        try simp only [Act.put, sq1, sq2, sq3, sq4, sq5, sq6]
        refine tku1 (i := 21) rfl ?r21c
        try simp only [Act.put, sq1, sq2, sq3, sq4, sq5, sq6]
        refine tku1 (i := 22) rfl ?r22c
        try simp only [Act.put, sq1, sq2, sq3, sq4, sq5, sq6]
        refine tku1 (i := 23) rfl ?r23c
        try simp only [Act.put, sq1, sq2, sq3, sq4, sq5, sq6]
        refine tku1 (i := 24) rfl ?r24c
        try simp only [Act.put, sq1, sq2, sq3, sq4, sq5, sq6]
        refine tku1 (i := 25) rfl ?r25c
        try simp only [Act.put, sq1, sq2, sq3, sq4, sq5, sq6]
        refine tku1 (i := 26) rfl ?r26c
        try simp only [Act.put, sq1, sq2, sq3, sq4, sq5, sq6]
        refine tku1 (i := 27) rfl ?r27c
        try simp only [Act.put, sq1, sq2, sq3, sq4, sq5, sq6]
        refine tku1 (i := 28) rfl ?r28c
        try simp only [Act.put, sq1, sq2, sq3, sq4, sq5, sq6]
        refine tku1 (i := 29) rfl ?r29c
        try simp only [Act.put, sq1, sq2, sq3, sq4, sq5, sq6]
        refine tk1 (i := 30) (v := ?v30c) rfl ?y30c ?r30c
        case y30c => (intro w' hSw; (try dsimp only at hSw); go_simp; (try with_reducible rfl))
        try simp only [Act.put, sq1, sq2, sq3, sq4, sq5, sq6]
        refine tk1 (i := 31) (v := ?v31c) rfl ?y31c ?r31c
        case y31c => (intro w' hSw; (try dsimp only at hSw); go_simp; (try with_reducible rfl))
        try simp only [Act.put, sq1, sq2, sq3, sq4, sq5, sq6]
        refine tku1 (i := 32) rfl ?r32c
        try simp only [Act.put, sq1, sq2, sq3, sq4, sq5, sq6]
        refine tku1 (i := 33) rfl ?r33c
        try simp only [Act.put, sq1, sq2, sq3, sq4, sq5, sq6]
        refine tku1 (i := 34) rfl ?r34c
        try simp only [Act.put, sq1, sq2, sq3, sq4, sq5, sq6]
        refine tku1 (i := 35) rfl ?r35c
        try simp only [Act.put, sq1, sq2, sq3, sq4, sq5, sq6]
        refine tku1 (i := 36) rfl ?r36c
        try simp only [Act.put, sq1, sq2, sq3, sq4, sq5, sq6]
        refine tku1 (i := 37) rfl ?r37c
        try simp only [Act.put, sq1, sq2, sq3, sq4, sq5, sq6]
        refine tku1 (i := 38) rfl ?r38c
        try simp only [Act.put, sq1, sq2, sq3, sq4, sq5, sq6]
        refine tku1 (i := 39) rfl ?r39c
        try simp only [Act.put, sq1, sq2, sq3, sq4, sq5, sq6]
        refine tku1 (i := 40) rfl ?r40c
        try simp only [Act.put, sq1, sq2, sq3, sq4, sq5, sq6]
        refine tk1 (i := 41) (v := ?v41c) rfl ?y41c ?r41c
        case y41c => (intro w' hSw; (try dsimp only at hSw); go_simp; (try with_reducible rfl))
        try simp only [Act.put, sq1, sq2, sq3, sq4, sq5, sq6]
        refine wpAnyH_done (by kernel_rfl) ?_ _
        have HEE := hid (EA.out.trans EX)
        clear hHeld EX HHB HM HIBk HIk HZZ HSk
        go_wp2
        go_ret2
        exact ⟨by rw [← HRV.out]; simp [HR.out], HEE.out⟩
      refine tk1 (i := 18) (v := ?v18a) rfl ?y18a ?r18a
      case y18a => (intro w' hSw; (try dsimp only at hSw); go_simp; (try with_reducible rfl))
      try simp only [Act.put, sq1, sq2, sq3, sq4, sq5, sq6]
      refine tk1 (i := 19) (v := ?v19a) rfl ?y19a ?r19a
      case y19a => (intro w' hSw; (try dsimp only at hSw); go_simp; (try with_reducible rfl))
      try simp only [Act.put, sq1, sq2, sq3, sq4, sq5, sq6]
      refine tk1 (i := 20) (v := ?v20a) rfl ?y20a ?r20a
      case y20a => (intro w' hSw; (try dsimp only at hSw); go_simp; (try with_reducible rfl))
      try simp only [Act.put, sq1, sq2, sq3, sq4, sq5, sq6]
      refine tk1 (i := 21) (v := ?v21a) rfl ?y21a ?r21a
      case y21a => (intro w' hSw; (try dsimp only at hSw); go_simp; (try with_reducible rfl))
      try simp only [Act.put, sq1, sq2, sq3, sq4, sq5, sq6]
      refine tk1 (i := 22) (v := ?v22a) rfl ?y22a ?r22a
      case y22a => (intro w' hSw; (try dsimp only at hSw); go_simp; (try with_reducible rfl))
      try simp only [Act.put, sq1, sq2, sq3, sq4, sq5, sq6]
      refine tk1 (i := 23) (v := ?v23a) rfl ?y23a ?r23a
      case y23a => (intro w' hSw; (try dsimp only at hSw); go_simp; (try with_reducible rfl))
      try simp only [Act.put, sq1, sq2, sq3, sq4, sq5, sq6]
      refine tk1 (i := 24) (v := ?v24a) rfl ?y24a ?r24a
      case y24a => (intro w' hSw; (try dsimp only at hSw); go_simp; (try with_reducible rfl))
      try simp only [Act.put, sq1, sq2, sq3, sq4, sq5, sq6]
      refine tk1 (i := 25) (v := ?v25a) rfl ?y25a ?r25a
      case y25a => (intro w' hSw; (try dsimp only at hSw); go_simp; (try with_reducible rfl))
      try simp only [Act.put, sq1, sq2, sq3, sq4, sq5, sq6]
      refine tk1 (i := 26) (v := ?v26a) rfl ?y26a ?r26a
      case y26a => (intro w' hSw; (try dsimp only at hSw); go_simp; (try with_reducible rfl))
      try simp only [Act.put, sq1, sq2, sq3, sq4, sq5, sq6]
      refine tk1 (i := 27) (v := ?v27a) rfl ?y27a ?r27a
      case y27a => (intro w' hSw; (try dsimp only at hSw); go_simp; (try with_reducible rfl))
      try simp only [Act.put, sq1, sq2, sq3, sq4, sq5, sq6]
      refine tk1 (i := 28) (v := ?v28a) rfl ?y28a ?r28a
      case y28a => (intro w' hSw; (try dsimp only at hSw); go_simp; (try with_reducible rfl))
      try simp only [Act.put, sq1, sq2, sq3, sq4, sq5, sq6]
      by_cases q3 : o < ol
      · have HR := hid (HIBk.out (by rw [decide_eq_false (show ¬ ol ≤ o by omega)]; simp))
        refine tk1 (i := 29) (v := ?v29d) rfl ?y29d ?r29d
        case y29d => (intro w' hSw; (try dsimp only at hSw); go_simp; (try with_reducible rfl))
        try simp only [Act.put, sq1, sq2, sq3, sq4, sq5, sq6]
        refine tk1 (i := 30) (v := ?v30d) rfl ?y30d ?r30d
        case y30d => (intro w' hSw; (try dsimp only at hSw); go_simp; (try with_reducible rfl))
        try simp only [Act.put, sq1, sq2, sq3, sq4, sq5, sq6]
        refine tk1 (i := 31) (v := ?v31d) rfl ?y31d ?r31d
        case y31d => (intro w' hSw; (try dsimp only at hSw); go_simp; (try with_reducible rfl))
        try simp only [Act.put, sq1, sq2, sq3, sq4, sq5, sq6]
        refine tku1 (i := 32) rfl ?r32d
        try simp only [Act.put, sq1, sq2, sq3, sq4, sq5, sq6]
        refine tku1 (i := 33) rfl ?r33d
        try simp only [Act.put, sq1, sq2, sq3, sq4, sq5, sq6]
        refine tku1 (i := 34) rfl ?r34d
        try simp only [Act.put, sq1, sq2, sq3, sq4, sq5, sq6]
        refine tku1 (i := 35) rfl ?r35d
        try simp only [Act.put, sq1, sq2, sq3, sq4, sq5, sq6]
        refine tku1 (i := 36) rfl ?r36d
        try simp only [Act.put, sq1, sq2, sq3, sq4, sq5, sq6]
        refine tku1 (i := 37) rfl ?r37d
        try simp only [Act.put, sq1, sq2, sq3, sq4, sq5, sq6]
        refine tku1 (i := 38) rfl ?r38d
        try simp only [Act.put, sq1, sq2, sq3, sq4, sq5, sq6]
        refine tku1 (i := 39) rfl ?r39d
        try simp only [Act.put, sq1, sq2, sq3, sq4, sq5, sq6]
        refine tku1 (i := 40) rfl ?r40d
        try simp only [Act.put, sq1, sq2, sq3, sq4, sq5, sq6]
        refine tk1 (i := 41) (v := ?v41d) rfl ?y41d ?r41d
        case y41d => (intro w' hSw; (try dsimp only at hSw); go_simp; (try with_reducible rfl))
        try simp only [Act.put, sq1, sq2, sq3, sq4, sq5, sq6]
        refine wpAnyH_done (by kernel_rfl) ?_ _
        have HEE := hid (EA.out.trans EX)
        clear hHeld EX HHB HM HIBk HIk HZZ HSk
        go_wp2
        go_ret2
        exact ⟨by rw [← HRV.out]; simp [HR.out], HEE.out⟩
      refine tk1 (i := 29) (v := ?v29a) rfl ?y29a ?r29a
      case y29a => (intro w' hSw; (try dsimp only at hSw); go_simp; (try with_reducible rfl))
      try simp only [Act.put, sq1, sq2, sq3, sq4, sq5, sq6]
      refine tk1 (i := 30) (v := ?v30a) rfl ?y30a ?r30a
      case y30a => (intro w' hSw; (try dsimp only at hSw); go_simp; (try with_reducible rfl))
      try simp only [Act.put, sq1, sq2, sq3, sq4, sq5, sq6]
      refine tk1 (i := 31) (v := ?v31a) rfl ?y31a ?r31a
      case y31a => (intro w' hSw; (try dsimp only at hSw); go_simp; (try with_reducible rfl))
      try simp only [Act.put, sq1, sq2, sq3, sq4, sq5, sq6]
      refine tk1 (i := 32) (v := ?v32a) rfl ?y32a ?r32a
      case y32a => (intro w' hSw; (try dsimp only at hSw); go_simp; (try with_reducible rfl))
      try simp only [Act.put, sq1, sq2, sq3, sq4, sq5, sq6]
      refine tk1 (i := 33) (v := ?v33a) rfl ?y33a ?r33a
      case y33a => (intro w' hSw; (try dsimp only at hSw); go_simp; (try with_reducible rfl))
      try simp only [Act.put, sq1, sq2, sq3, sq4, sq5, sq6]
      refine tk1 (i := 34) (v := ?v34a) rfl ?y34a ?r34a
      case y34a => (intro w' hSw; (try dsimp only at hSw); go_simp; (try with_reducible rfl))
      try simp only [Act.put, sq1, sq2, sq3, sq4, sq5, sq6]
      refine tk1 (i := 35) (v := ?v35a) rfl ?y35a ?r35a
      case y35a => (intro w' hSw; (try dsimp only at hSw); go_simp; (try with_reducible rfl))
      try simp only [Act.put, sq1, sq2, sq3, sq4, sq5, sq6]
      refine tk1 (i := 36) (v := ?v36a) rfl ?y36a ?r36a
      case y36a => (intro w' hSw; (try dsimp only at hSw); go_simp; (try with_reducible rfl))
      try simp only [Act.put, sq1, sq2, sq3, sq4, sq5, sq6]
      refine tk1 (i := 37) (v := ?v37a) rfl ?y37a ?r37a
      case y37a => (intro w' hSw; (try dsimp only at hSw); go_simp; (try with_reducible rfl))
      try simp only [Act.put, sq1, sq2, sq3, sq4, sq5, sq6]
      refine tk1 (i := 38) (v := ?v38a) rfl ?y38a ?r38a
      case y38a => (intro w' hSw; (try dsimp only at hSw); go_simp; (try with_reducible rfl))
      try simp only [Act.put, sq1, sq2, sq3, sq4, sq5, sq6]
      refine tk1 (i := 39) (v := ?v39a) rfl ?y39a ?r39a
      case y39a => (intro w' hSw; (try dsimp only at hSw); go_simp; (try with_reducible rfl))
      try simp only [Act.put, sq1, sq2, sq3, sq4, sq5, sq6]
      by_cases q4 : oh < o
      · have HR := hid (HIBk.out (by rw [decide_eq_false (show ¬ o ≤ oh by omega)]; simp))
        refine tk1 (i := 40) (v := ?v40e) rfl ?y40e ?r40e
        case y40e => (intro w' hSw; (try dsimp only at hSw); go_simp; (try with_reducible rfl))
        try simp only [Act.put, sq1, sq2, sq3, sq4, sq5, sq6]
        refine tk1 (i := 41) (v := ?v41e) rfl ?y41e ?r41e
        case y41e => (intro w' hSw; (try dsimp only at hSw); go_simp; (try with_reducible rfl))
        try simp only [Act.put, sq1, sq2, sq3, sq4, sq5, sq6]
        refine wpAnyH_done (by kernel_rfl) ?_ _
        have HEE := hid (EA.out.trans EX)
        clear hHeld EX HHB HM HIBk HIk HZZ HSk
        go_wp2
        go_ret2
        exact ⟨by rw [← HRV.out]; simp [HR.out], HEE.out⟩
      have HR := hid (HIk.out.trans (by rw [HZZ.out, decide_eq_true (show hl ≤ h by omega), decide_eq_true (show h ≤ hh by omega), decide_eq_true (show ol ≤ o by omega), decide_eq_true (show o ≤ oh by omega)] <;> rfl))
      refine tk1 (i := 40) (v := ?v40a) rfl ?y40a ?r40a
      case y40a => (intro w' hSw; (try dsimp only at hSw); go_simp; (try with_reducible rfl))
      try simp only [Act.put, sq1, sq2, sq3, sq4, sq5, sq6]
      refine tk1 (i := 41) (v := ?v41a) rfl ?y41a ?r41a
      case y41a => (intro w' hSw; (try dsimp only at hSw); go_simp; (try with_reducible rfl))
      try simp only [Act.put, sq1, sq2, sq3, sq4, sq5, sq6]
      refine wpAnyH_done (by kernel_rfl) ?_ _
      clear hHeld
      have HF := hid (fun W => rFactor_any h o (by omega) (by omega) (by omega) (by omega) W)
      have hhb2 := HHB.out (facN h o)
      generalize facN h o = f at *
      have HM2 := hid (fun W hE => HM.out f W hE)
      clear HHB HM HIBk HIk HZZ hfl
      generalize harmN ws f = g at *
      have EX2 := hid EX
      replace f0 := (EX.cell (p := ⟨wr.heap.size, _, none⟩) zf).trans f0
      replace t0 := (EX.cell (p := ⟨w.heap.size + 1 + 1, _, none⟩) (by dsimp only; omega)).trans t0
      replace t1 := (EX.cell (p := ⟨w.heap.size + 1 + 1, _, none⟩) (by dsimp only; omega)).trans t1
      replace hhc := (EX.cell (p := ⟨hb1, _, none⟩) (by dsimp only; omega)).trans hhc
      replace hoc := (EX.cell (p := ⟨ob1, _, none⟩) (by dsimp only; omega)).trans hoc
      replace a0 := (EX.cell (p := ⟨w.heap.size, _, none⟩) (by dsimp only; omega)).trans a0
      replace a1 := (EX.cell (p := ⟨w.heap.size, _, none⟩) (by dsimp only; omega)).trans a1
      replace a2 := (EX.cell (p := ⟨w.heap.size, _, none⟩) (by dsimp only; omega)).trans a2
      replace a3 := (EX.cell (p := ⟨w.heap.size, _, none⟩) (by dsimp only; omega)).trans a3
      have zX := EX.size
      clear EX
      by_cases hfd : fd ≤ D
      · rw [if_pos hfd] at HSk
        have hw1 : IntKind.i64.wrap (T + g) = T + g := IntWalk.i64_in _ (by omega)
        go_wp2_with fail
        have EA2 := hid (EA.out.trans EX2.out)
        have KK1 := hid (KV1.out.ext EX2.out)
        have KK2 := hid (KV2.out.ext EX2.out)
        have KK3 := hid (KV3.out.ext EX2.out)
        have zz1 : w.heap.size < X.heap.size := by omega
        have zz3 : w.heap.size + 1 + 1 < X.heap.size := by omega
        have zz4 : hb1 < X.heap.size := by omega
        have zz5 : ob1 < X.heap.size := by omega
        clear EX2 EA KV1 KV2 KV3 z0 z1 z2 zf hhb hob zX f0 f1 f2 f3 f4
        obtain ⟨Y, rfl⟩ : ∃ Y, Y = X := ⟨X, rfl⟩
        refine wp_region_held_drew (S := fun w' => (∀ b o, b < Y.heap.size → w'.cell? ⟨b, o, none⟩ = Y.cell? ⟨b, o, none⟩) ∧ Y.heap.size ≤ w'.heap.size ∧ Ext Y w') (by kernel_rfl) ?hS0 (fun hHeld => ?_)
        case hS0 => exact sK (Ext.drew (Ext.refl _))
        have X0 : Ext Y Y.drew := Ext.drew (Ext.refl Y)
        have EX := X0
        obtain ⟨X, hX⟩ : ∃ X, Y.drew = X := ⟨_, rfl⟩
        rw [hX] at EX hHeld ⊢
        clear hX X0
        refine tk1 (i := 0) (v := ?v0f) rfl ?y0f ?r0f
        case y0f => (intro w' hSw; (try dsimp only at hSw); go_simp; (try with_reducible rfl))
        try simp only [Act.put, sq1, sq2, sq3, sq4, sq5, sq6]
        refine tk1 (i := 1) (v := ?v1f) rfl ?y1f ?r1f
        case y1f => (intro w' hSw; (try dsimp only at hSw); go_simp; (try with_reducible rfl))
        try simp only [Act.put, sq1, sq2, sq3, sq4, sq5, sq6]
        refine tk1 (i := 2) (v := ?v2f) rfl ?y2f ?r2f
        case y2f => (intro w' hSw; (try dsimp only at hSw); go_simp; (try with_reducible rfl))
        try simp only [Act.put, sq1, sq2, sq3, sq4, sq5, sq6]
        refine tk1 (i := 3) (v := ?v3f) rfl ?y3f ?r3f
        case y3f => (intro w' hSw; (try dsimp only at hSw); go_simp; (try with_reducible rfl))
        try simp only [Act.put, sq1, sq2, sq3, sq4, sq5, sq6]
        refine tk1 (i := 4) (v := ?v4f) rfl ?y4f ?r4f
        case y4f => (intro w' hSw; (try dsimp only at hSw); go_simp; (try with_reducible rfl))
        try simp only [Act.put, sq1, sq2, sq3, sq4, sq5, sq6]
        refine tk1 (i := 5) (v := ?v5f) rfl ?y5f ?r5f
        case y5f => (intro w' hSw; (try dsimp only at hSw); go_simp; (try with_reducible rfl))
        try simp only [Act.put, sq1, sq2, sq3, sq4, sq5, sq6]
        refine tk1 (i := 6) (v := ?v6f) rfl ?y6f ?r6f
        case y6f => (intro w' hSw; (try dsimp only at hSw); go_simp; (try with_reducible rfl))
        try simp only [Act.put, sq1, sq2, sq3, sq4, sq5, sq6]
        refine tk1 (i := 7) (v := ?v7f) rfl ?y7f ?r7f
        case y7f => (intro w' hSw; (try dsimp only at hSw); go_simp; (try with_reducible rfl))
        try simp only [Act.put, sq1, sq2, sq3, sq4, sq5, sq6]
        refine tk1 (i := 8) (v := ?v8f) rfl ?y8f ?r8f
        case y8f => (intro w' hSw; (try dsimp only at hSw); go_simp; (try with_reducible rfl))
        try simp only [Act.put, sq1, sq2, sq3, sq4, sq5, sq6]
        refine tk1 (i := 9) (v := ?v9f) rfl ?y9f ?r9f
        case y9f => (intro w' hSw; (try dsimp only at hSw); go_simp; (try with_reducible rfl))
        try simp only [Act.put, sq1, sq2, sq3, sq4, sq5, sq6]
        refine tk1 (i := 10) (v := ?v10f) rfl ?y10f ?r10f
        case y10f => (intro w' hSw; (try dsimp only at hSw); go_simp; (try with_reducible rfl))
        try simp only [Act.put, sq1, sq2, sq3, sq4, sq5, sq6]
        refine tk1 (i := 11) (v := ?v11f) rfl ?y11f ?r11f
        case y11f => (intro w' hSw; (try dsimp only at hSw); go_simp; (try with_reducible rfl))
        try simp only [Act.put, sq1, sq2, sq3, sq4, sq5, sq6]
        refine wpAnyH_ready (rs := [12]) (by kernel_rfl) (by simp) ?_
        refine AllReadyH.cons (o := _) rfl (fun K hK => ?_) AllReadyH.nil
        go_simp
        refine Calls.mono (HF.out _) ?_
        rintro e X9 ⟨rfl, hEX⟩
        obtain rfl := hEX.symm
        dsimp only
        clear hHeld
        refine hK.out _ _ (sK EX) (fun hHeld => ?_)
        clear hK K
        try simp only [Act.put, sq1, sq2, sq3, sq4, sq5, sq6]
        refine wpAnyH_ready (rs := [13]) (by kernel_rfl) (by simp) ?_
        refine AllReadyH.cons (o := _) rfl (fun K hK => ?_) AllReadyH.nil
        go_simp
        refine Calls.mono (HM2.out _ (EA2.out.trans EX)) ?_
        rintro e X9 ⟨rfl, hEX⟩
        dsimp only
        replace EX := EX.trans hEX
        clear hHeld hEX
        refine hK.out _ _ (sK EX) (fun hHeld => ?_)
        clear hK K
        try simp only [Act.put, sq1, sq2, sq3, sq4, sq5, sq6]
        refine tk1 (i := 14) (v := ?v14f) rfl ?y14f ?r14f
        case y14f => (intro w' hSw; (try dsimp only at hSw); go_simp; (try simp only [hw1]); (try with_reducible rfl))
        try simp only [Act.put, sq1, sq2, sq3, sq4, sq5, sq6]
        refine tk1 (i := 15) (v := ?v15f) rfl ?y15f ?r15f
        case y15f => (intro w' hSw; (try dsimp only at hSw); go_simp; (try with_reducible rfl))
        try simp only [Act.put, sq1, sq2, sq3, sq4, sq5, sq6]
        refine wpAnyH_done (by kernel_rfl) ?_ _
        have HEE := hid (EA2.out.trans EX)
        have H1 := hid (KK1.out.ext EX)
        have H2 := hid (KK2.out.ext EX)
        have H3 := hid (KK3.out.ext EX)
        clear hHeld EX
        go_wp2
        go_roundw
        case rel => exact ⟨HEE.out, H1, H2, H3, k + 1, by omega, by go_num, by rw [HSk.out], HR⟩
        case measure => simp [intOf]; omega
      · rw [if_neg hfd] at HSk
        go_wp2
        go_roundw
        case rel => exact ⟨EA.out.trans EX2.out, hid (KV1.out.ext EX2.out), hid (KV2.out.ext EX2.out), hid (KV3.out.ext EX2.out), k + 1, by omega, by go_num, by rw [HSk.out], HR⟩
        case measure => simp [intOf]; omega
    · obtain rfl : k = n := by omega
      clear HBD HFL HIB HS HI
      generalize truK ws D fs hs os k = T at *
      go_wp2
      go_ret2
      exact ⟨by rw [← HRV.out]; simp [HA9.out], E⟩
end Go.Proofs.YtdhljpngkeobcaaGreat
