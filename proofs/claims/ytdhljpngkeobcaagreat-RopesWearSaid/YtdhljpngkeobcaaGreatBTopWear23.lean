/- The program's last day, and Until. -/
import Derived.Test.YtdhljpngkeobcaaGreatB08
import Derived.Test.YtdhljpngkeobcaaGreatB19
import Derived.Test.YtdhljpngkeobcaaGreatBTopWear22
set_option linter.unusedSimpArgs false
set_option linter.unusedVariables false
namespace Go.Proofs.YtdhljpngkeobcaaGreat
open Go.RowKit
set_option maxRecDepth 100000 in
set_option maxHeartbeats 2000000 in
theorem latest_any (m : Md) (r : Ro) (A : Option Addr) (c : Nat) (B : Option Addr) (d : Nat) (hr : r.falls.length ≤ 1000) (w : World) (hy : FlsAt w B r.falls) :
    Calls Tryz.prog 62 #[cordV m r A c B d] w fun e w' => e = .returned (.int .i64 (lateN r)) ∧ Ext w w' := by
  have HX := hid hy
  unfold cordV
  obtain ⟨sh, us, be, ws⟩ := m
  obtain ⟨ma, fi, le, fs⟩ := r
  dsimp only at *
  generalize ws.length = nw at *
  obtain ⟨n, hn⟩ : ∃ n, fs.length = n := ⟨_, rfl⟩
  rw [hn] at hr ⊢
  have HN := hid hn
  have HE := hid (fun j (hj : n ≤ j) => show (fs.take j).foldl (fun n f => max n f.day) (max ma fi) = lateN ⟨ma, fi, le, fs⟩ by
    rw [List.take_of_length_le (by omega)]; rfl)
  have HS0 := hid (fun j (hj : j < fs.length) => foldl_take_snoc fs (fun (n : Int) f => max n f.day) (max ma fi) zeroFl j hj)
  generalize lateN ⟨ma, fi, le, fs⟩ = R at *
  obtain ⟨m0, hm0⟩ : ∃ m0, max ma fi = m0 := ⟨_, rfl⟩
  rw [hm0] at HE HS0
  have HM := hid hm0
  clear hy hn hm0
  go_enter Tryz.func62, Tryz.ntmps62
  go_wp2
  all_goals (
    go_loopw [3, 17] (fun v i wr => Ext w wr ∧ ∃ j : Nat, j ≤ n ∧ i = .int .i64 j ∧ v = .int .i64 ((fs.take j).foldl (fun n f => max n f.day) m0)) (fun _ i _ => n - (intOf i).toNat)
    case atStart => exact ⟨by (repeat' (first | with_reducible assumption | with_reducible exact Ext.refl _ | with_reducible refine Ext.alloc ?_ _ | with_reducible refine Ext.set ?_ ?_ _ | with_reducible refine Ext.drew ?_ | with_reducible refine Ext.drewN ?_ _ | with_reducible refine Ext.trans ?_ (by assumption) | (dsimp only; omega))), 0, Nat.zero_le _, rfl, by first | (rw [← HM.out]; done) | (rw [← HM.out]; first | (simp; done) | (simp; omega))⟩
    case round =>
      obtain ⟨hE, j, hj, rfl, rfl⟩ := hrel
      by_cases hlt : j < n
      · obtain ⟨b, off, rfl, hb, hck⟩ := (HX.out.ext hE).at_ HN.out hlt
        have HS := hid (HS0.out j (by rw [HN.out]; omega))
        have hj0 : (0 : Int) ≤ (j : Int) := by omega
        have hj1 : (j : Int) < (n : Int) := by omega
        clear HX HS0 HE
        generalize fs.getD j zeroFl = x at *
        obtain ⟨fd, hl, hh, ol, oh⟩ := x
        obtain ⟨c0, c1, c2, c3, c4⟩ := hck
        dsimp only at *
        generalize (fs.take j).foldl (fun n f => max n f.day) m0 = y at *
        go_wp2
        all_goals (
          go_roundw
          case rel => exact ⟨by (repeat' (first | with_reducible assumption | with_reducible exact Ext.refl _ | with_reducible refine Ext.alloc ?_ _ | with_reducible refine Ext.set ?_ ?_ _ | with_reducible refine Ext.drew ?_ | with_reducible refine Ext.drewN ?_ _ | with_reducible refine Ext.trans ?_ (by assumption) | (dsimp only; omega))), j + 1, by omega, by go_num, by first | (rw [HS.out]; done) | (rw [HS.out]; first | (simp; done) | (simp; omega))⟩
          case measure => simp [intOf]; omega)
      · have HP := hid (HE.out j (by omega))
        clear HS0 HE
        generalize (fs.take j).foldl (fun n f => max n f.day) m0 = y at *
        go_wp2
        go_ret
        exact ⟨ret_int HP.out, by (repeat' (first | with_reducible assumption | with_reducible exact Ext.refl _ | with_reducible refine Ext.alloc ?_ _ | with_reducible refine Ext.set ?_ ?_ _ | with_reducible refine Ext.drew ?_ | with_reducible refine Ext.drewN ?_ _ | with_reducible refine Ext.trans ?_ (by assumption) | (dsimp only; omega)))⟩)
theorem takE_ok {m : Md} {r : Ro} (h : takE m r = 0) : mdB m = true ∧ roB r = true := by
  unfold takE at h
  cases h1 : mdB m <;> cases h2 : roB r <;> simp [h1, h2] at h ⊢
def untV (m : Md) (r : Ro) : Int := if takE m r = 0 then untN m r else 0
set_option maxRecDepth 100000 in
set_option maxHeartbeats 4000000 in
theorem puntil_any (m : Md) (r : Ro) (A : Option Addr) (c : Nat) (B : Option Addr) (d : Nat) (hm : m.wears.length ≤ 1000) (hr : r.falls.length ≤ 1000) (w : World) (hx : WrsAt w A m.wears) (hy : FlsAt w B r.falls) :
    Calls Tryz.prog 21 #[m.val A c, r.val B d] w fun e w' => e = .returned (.tuple #[.int .i64 (untV m r), .int .i64 (takE m r)]) ∧ Ext w w' := by
  have HT := hid (fun (W : World) (hE : Ext w W) => take_any m r A c B d hm hr W (hx.ext hE) (hy.ext hE))
  have HL := hid (fun (W : World) (hE : Ext w W) => latest_any m r A c B d hr W (hy.ext hE))
  have HS := hid (fun (a : mdB m = true) (b : roB r = true) D (W : World) (hE : Ext w W) => isSurelyFit_any m r A c B d D a b W (hx.ext hE) (hy.ext hE))
  have HX := hid (fun (a : mdB m = true) (b : roB r = true) (W : World) => expiry_any m r A c B d a b W)
  clear hx hy
  by_cases h0 : takE m r = 0
  · have hv : untV m r = untN m r := by unfold untV; rw [if_pos h0]
    obtain ⟨h1, h2⟩ := takE_ok h0
    have HS2 := hid (HS.out h1 h2 (lateN r))
    replace HX := hid (HX.out h1 h2)
    have HU := hid (show untN m r = if sureB m r (lateN r) then min (expN m r) 99999 else -1 from rfl)
    rw [hv, h0]
    simp only [h0, if_pos] at HT
    clear hv h0 h1 h2 HS
    generalize untN m r = U at *
    generalize sureB m r (lateN r) = sb at *
    generalize lateN r = LN at *
    generalize expN m r = EN at *
    unfold cordV at *
    obtain ⟨sh, us, be, ws⟩ := m
    obtain ⟨ma, fi, le, fs⟩ := r
    unfold Md.val Ro.val at *
    dsimp only at *
    generalize ws.length = n at *
    generalize fs.length = k at *
    go_enter Tryz.func21, Tryz.ntmps21
    go_wp2_with fail
    refine Calls.mono (HT.out _ (by (repeat' (first | with_reducible assumption | with_reducible exact Ext.refl _ | with_reducible refine Ext.alloc ?_ _ | with_reducible refine Ext.set ?_ ?_ _ | with_reducible refine Ext.drew ?_ | with_reducible refine Ext.drewN ?_ _ | with_reducible refine Ext.trans ?_ (by assumption) | (dsimp only; omega))))) ?_
    rintro e w2 ⟨rfl, hE⟩
    have TE := hid (show Ext w w2 by (repeat' (first | with_reducible assumption | with_reducible exact Ext.refl _ | with_reducible refine Ext.alloc ?_ _ | with_reducible refine Ext.set ?_ ?_ _ | with_reducible refine Ext.drew ?_ | with_reducible refine Ext.drewN ?_ _ | with_reducible refine Ext.trans ?_ (by assumption) | (dsimp only; omega))))
    clear hE HT
    go_wp2_with fail
    refine wp_absW (fun X => Blk X w2.heap.size 102 #[.int .i64 sh, .int .i64 us, .int .i64 be, .slice A n c, .int .i64 ma, .int .i64 fi, .int .i64 le, .slice B k d] ∧ Ext w X) ⟨blk_last _ _, TE.out.alloc _⟩ ?_
    rintro W ⟨u1, hE⟩
    have HE := hid hE
    have U1 := hid u1
    clear hE TE
    obtain ⟨k0, k1, k2, k3, k4, k5, k6, k7⟩ : _ ∧ _ ∧ _ ∧ _ ∧ _ ∧ _ ∧ _ ∧ _ := ⟨u1.cell 0, u1.cell 1, u1.cell 2, u1.cell 3, u1.cell 4, u1.cell 5, u1.cell 6, u1.cell 7⟩
    have kz := u1.lt
    simp only [List.getElem?_toArray, List.getElem?_cons_zero, List.getElem?_cons_succ] at k0 k1 k2 k3 k4 k5 k6 k7
    clear u1
    refine wp_region_held_drew (S := fun w' => (∀ b o, b < W.heap.size → w'.cell? ⟨b, o, none⟩ = W.cell? ⟨b, o, none⟩) ∧ W.heap.size ≤ w'.heap.size ∧ Ext W w') (by kernel_rfl) ?hS0 (fun hHeld => ?_)
    case hS0 => exact sK (Ext.drew (Ext.refl _))
    have X0 : Ext W W.drew := Ext.drew (Ext.refl W)
    refine tk1 (i := 0) (v := ?v0a) rfl ?y0a ?r0a
    case y0a => (intro w' hSw; (try dsimp only at hSw); go_simp; (try with_reducible rfl))
    try simp only [Act.put, sq1, sq2, sq3, sq4, sq5, sq6]
    refine tk1 (i := 1) (v := ?v1a) rfl ?y1a ?r1a
    case y1a => (intro w' hSw; (try dsimp only at hSw); go_simp; (try with_reducible rfl))
    try simp only [Act.put, sq1, sq2, sq3, sq4, sq5, sq6]
    refine wpAnyH_ready (rs := [2]) (by kernel_rfl) (by simp) ?_
    refine AllReadyH.cons (o := _) rfl (fun K hK => ?_) AllReadyH.nil
    go_simp
    refine Calls.mono (HL.out _ (HE.out.trans X0)) ?_
    rintro e w1 ⟨rfl, hE1⟩
    dsimp only
    have X1 := X0.trans hE1
    clear hHeld
    refine hK.out _ _ (sK X1) (fun hHeld => ?_)
    clear hK K
    try simp only [Act.put, sq1, sq2, sq3, sq4, sq5, sq6]
    refine wpAnyH_ready (rs := [3]) (by kernel_rfl) (by simp) ?_
    refine AllReadyH.cons (o := _) rfl (fun K hK => ?_) AllReadyH.nil
    go_simp
    refine Calls.mono (HS2.out _ (HE.out.trans X1)) ?_
    rintro e w2 ⟨rfl, hE2⟩
    dsimp only
    have X2 := X1.trans hE2
    clear hHeld
    refine hK.out _ _ (sK X2) (fun hHeld => ?_)
    clear hK K
    try simp only [Act.put, sq1, sq2, sq3, sq4, sq5, sq6]
    refine tk1 (i := 4) (v := ?v4c) rfl ?y4c ?r4c
    case y4c => (intro w' hSw; (try dsimp only at hSw); go_simp; (try with_reducible rfl))
    try simp only [Act.put, sq1, sq2, sq3, sq4, sq5, sq6]
    refine wpAnyH_done (by kernel_rfl) ?_ _
    have HX2 := hid (HE.out.trans X2)
    have u2 := U1.out.ext X2
    clear hHeld k0 k1 k2 k3 k4 k5 k6 k7 kz
    obtain ⟨k0, k1, k2, k3, k4, k5, k6, k7⟩ : _ ∧ _ ∧ _ ∧ _ ∧ _ ∧ _ ∧ _ ∧ _ := ⟨u2.cell 0, u2.cell 1, u2.cell 2, u2.cell 3, u2.cell 4, u2.cell 5, u2.cell 6, u2.cell 7⟩
    simp only [List.getElem?_toArray, List.getElem?_cons_zero, List.getElem?_cons_succ] at k0 k1 k2 k3 k4 k5 k6 k7
    clear u2 X0 X1 X2 hE1 hE2
    cases sb
    case false =>
      simp only [Bool.false_eq_true, if_false] at HU
      go_wp2
      go_ret2
      exact ⟨by rw [HU.out]; rfl, HX2.out⟩
    simp only [if_pos] at HU
    go_wp2_with fail
    refine Calls.mono (HX.out _) ?_
    rintro e w9 ⟨rfl, hE⟩
    have HX9 := hid (HX2.out.trans hE)
    clear hE
    go_wp2
    all_goals (go_ret2; exact ⟨by first | (rw [HU.out]; done) | (rw [HU.out]; first | (simp; done) | (simp; omega)), HX9.out⟩)
  · have hv : untV m r = 0 := by unfold untV; rw [if_neg h0]
    rw [hv]
    simp only [h0, if_false] at HT
    clear hv HS HX HL
    obtain ⟨E, hE0⟩ : ∃ E, takE m r = E := ⟨_, rfl⟩
    rw [hE0] at h0 HT ⊢
    clear hE0
    unfold zeroC at *
    obtain ⟨sh, us, be, ws⟩ := m
    obtain ⟨ma, fi, le, fs⟩ := r
    unfold Md.val Ro.val at *
    dsimp only at *
    generalize ws.length = n at *
    generalize fs.length = k at *
    have h0' : (E == 0) = false := by simp; exact h0
    go_enter Tryz.func21, Tryz.ntmps21
    go_wp2_with fail
    refine Calls.mono (HT.out _ (by (repeat' (first | with_reducible assumption | with_reducible exact Ext.refl _ | with_reducible refine Ext.alloc ?_ _ | with_reducible refine Ext.set ?_ ?_ _ | with_reducible refine Ext.drew ?_ | with_reducible refine Ext.drewN ?_ _ | with_reducible refine Ext.trans ?_ (by assumption) | (dsimp only; omega))))) ?_
    rintro e w2 ⟨rfl, hE⟩
    have TE := hid (show Ext w w2 by (repeat' (first | with_reducible assumption | with_reducible exact Ext.refl _ | with_reducible refine Ext.alloc ?_ _ | with_reducible refine Ext.set ?_ ?_ _ | with_reducible refine Ext.drew ?_ | with_reducible refine Ext.drewN ?_ _ | with_reducible refine Ext.trans ?_ (by assumption) | (dsimp only; omega))))
    clear hE HT
    go_wp2_with fail
    go_ret2
    exact ⟨rfl, TE.out.alloc _⟩
end Go.Proofs.YtdhljpngkeobcaaGreat
/- Damage, Fit and Until of the specification. -/
set_option linter.unusedSimpArgs false
set_option linter.unusedVariables false
namespace Go.Proofs.YtdhljpngkeobcaaGreat
open Go.RowKit
set_option maxRecDepth 100000 in
set_option maxHeartbeats 4000000 in
theorem rDamage_any (m : Md) (r : Ro) (A : Option Addr) (c : Nat) (B : Option Addr) (d : Nat) (D : Int) (hm : m.wears.length ≤ 1000) (hr : r.falls.length ≤ 1000) (w : World) (hx : WrsAt w A m.wears) (hy : FlsAt w B r.falls) :
    Calls Tryz.prog 18 #[m.val A c, r.val B d, .int .i64 D] w fun e w' => e = .returned (.tuple #[.agg #[.int .i64 (dmgV m r D).1, .int .i64 (dmgV m r D).2], .int .i64 (dayE m r D)]) ∧ Ext w w' := by
  have HC := hid (fun (W : World) (hE : Ext w W) => rCheckDay_any m r A c B d D hm hr W (hx.ext hE) (hy.ext hE))
  have HD := hid (fun (a : mdB m = true) (b : roB r = true) (W : World) (hE : Ext w W) => rdamage_any m r A c B d D a b W (hx.ext hE) (hy.ext hE))
  clear hx hy
  have Z0 := fun (a b : Array Value) => blks3 w (.cells a 24) (.cells b 27) (.cells #[.int .i64 0, .int .i64 0] 33)
  by_cases h0 : dayE m r D = 0
  · have hv : dmgV m r D = dmgL m.wears D r.falls := by unfold dmgV; rw [if_pos h0]
    obtain ⟨h1, h2⟩ := dayE_ok h0
    replace HD := hid (HD.out h1 h2)
    rw [hv, h0]
    rw [h0] at HC
    clear hv h0 h1 h2
    generalize dmgL m.wears D r.falls = V at *
    unfold Md.val Ro.val at *
    obtain ⟨sh, us, be, ws⟩ := m
    obtain ⟨ma, fi, le, fs⟩ := r
    dsimp only at *
    generalize ws.length = n at *
    generalize fs.length = k at *
    have Z := Z0 #[.int .i64 sh, .int .i64 us, .int .i64 be, .slice A n c] #[.int .i64 ma, .int .i64 fi, .int .i64 le, .slice B k d]
    have B1 := hid (show Blk _ _ _ _ from Z.1)
    have B2 := hid (show Blk _ _ _ _ from Z.2.1)
    have B3 := hid (show Blk _ _ _ _ from Z.2.2)
    clear Z Z0
    go_enter Tryz.func18, Tryz.ntmps18
    go_wp2_with fail
    refine Calls.mono (HC.out _ (by (repeat' (first | with_reducible assumption | with_reducible exact Ext.refl _ | with_reducible refine Ext.alloc ?_ _ | with_reducible refine Ext.set ?_ ?_ _ | with_reducible refine Ext.drew ?_ | with_reducible refine Ext.drewN ?_ _ | with_reducible refine Ext.trans ?_ (by assumption) | (dsimp only; omega))))) ?_
    rintro e w2 ⟨rfl, hE⟩
    have TE := hid (show Ext w w2 by (repeat' (first | with_reducible assumption | with_reducible exact Ext.refl _ | with_reducible refine Ext.alloc ?_ _ | with_reducible refine Ext.set ?_ ?_ _ | with_reducible refine Ext.drew ?_ | with_reducible refine Ext.drewN ?_ _ | with_reducible refine Ext.trans ?_ (by assumption) | (dsimp only; omega))))
    have T1 := hid (B1.out.ext hE)
    have T2 := hid (B2.out.ext hE)
    have T3 := hid (B3.out.ext hE)
    clear B1 B2 B3 hE HC
    obtain ⟨a0, a1, a2, a3⟩ : _ ∧ _ ∧ _ ∧ _ := ⟨T1.out.cell 0, T1.out.cell 1, T1.out.cell 2, T1.out.cell 3⟩
    obtain ⟨b0, b1, b2, b3⟩ : _ ∧ _ ∧ _ ∧ _ := ⟨T2.out.cell 0, T2.out.cell 1, T2.out.cell 2, T2.out.cell 3⟩
    simp only [List.getElem?_toArray, List.getElem?_cons_zero, List.getElem?_cons_succ] at a0 a1 a2 a3 b0 b1 b2 b3
    go_wp2_with fail
    have tE := TE.out
    refine Calls.mono (HD.out _ (by (repeat' (first | with_reducible assumption | with_reducible exact Ext.refl _ | with_reducible refine Ext.alloc ?_ _ | with_reducible refine Ext.set ?_ ?_ _ | with_reducible refine Ext.drew ?_ | with_reducible refine Ext.drewN ?_ _ | with_reducible refine Ext.trans ?_ (by assumption) | (dsimp only; omega))))) ?_
    rintro e w3 ⟨rfl, hE3⟩
    have S3 := hid (T3.out.ext hE3)
    have SE := hid (TE.out.trans hE3)
    clear T1 T2 T3 TE hE3 tE a0 a1 a2 a3 b0 b1 b2 b3
    obtain ⟨x0, x1⟩ : _ ∧ _ := ⟨S3.out.cell 0, S3.out.cell 1⟩
    have y0 := S3.out.fro 0
    have y1 := S3.out.fro 1
    have xz := S3.out.lt
    simp only [List.getElem?_toArray, List.getElem?_cons_zero, List.getElem?_cons_succ] at x0 x1
    go_wp2_with fail
    have sE := SE.out
    refine body_abs (fun X => Blk X (w.heap.size + 1 + 1) 33 #[.int .i64 V.1, .int .i64 V.2] ∧ Ext w X) ⟨Blk.st2 S3.out _ _, by (repeat' (first | with_reducible assumption | with_reducible exact Ext.refl _ | with_reducible refine Ext.alloc ?_ _ | with_reducible refine Ext.set ?_ ?_ _ | with_reducible refine Ext.drew ?_ | with_reducible refine Ext.drewN ?_ _ | with_reducible refine Ext.trans ?_ (by assumption) | (dsimp only; omega)))⟩ ?_
    rintro X ⟨hB, XE⟩
    have r0 := hB.cell 0
    have r1 := hB.cell 1
    simp only [List.getElem?_toArray, List.getElem?_cons_zero, List.getElem?_cons_succ] at r0 r1
    exact bodyPost_ret (v := .tuple #[.agg #[.int .i64 V.1, .int .i64 V.2], .int .i64 0]) (by simp [results, Tryz.results18, go_sem, r0, r1]) rfl ⟨rfl, XE⟩
  · have hv : dmgV m r D = (0, 0) := by unfold dmgV; rw [if_neg h0]
    rw [hv]
    clear hv HD
    obtain ⟨E, hE0⟩ : ∃ E, dayE m r D = E := ⟨_, rfl⟩
    rw [hE0] at h0 HC ⊢
    clear hE0
    unfold Md.val Ro.val at *
    obtain ⟨sh, us, be, ws⟩ := m
    obtain ⟨ma, fi, le, fs⟩ := r
    dsimp only at *
    generalize ws.length = n at *
    generalize fs.length = k at *
    have h0' : (E == 0) = false := by simp; exact h0
    have Z := Z0 #[.int .i64 sh, .int .i64 us, .int .i64 be, .slice A n c] #[.int .i64 ma, .int .i64 fi, .int .i64 le, .slice B k d]
    have B3 := hid (show Blk _ _ _ _ from Z.2.2)
    clear Z Z0
    go_enter Tryz.func18, Tryz.ntmps18
    go_wp2_with fail
    refine Calls.mono (HC.out _ (by (repeat' (first | with_reducible assumption | with_reducible exact Ext.refl _ | with_reducible refine Ext.alloc ?_ _ | with_reducible refine Ext.set ?_ ?_ _ | with_reducible refine Ext.drew ?_ | with_reducible refine Ext.drewN ?_ _ | with_reducible refine Ext.trans ?_ (by assumption) | (dsimp only; omega))))) ?_
    rintro e w2 ⟨rfl, hE⟩
    have SE := hid (show Ext w w2 by (repeat' (first | with_reducible assumption | with_reducible exact Ext.refl _ | with_reducible refine Ext.alloc ?_ _ | with_reducible refine Ext.set ?_ ?_ _ | with_reducible refine Ext.drew ?_ | with_reducible refine Ext.drewN ?_ _ | with_reducible refine Ext.trans ?_ (by assumption) | (dsimp only; omega))))
    have S3 := hid (B3.out.ext hE)
    clear B3 hE HC
    obtain ⟨x0, x1⟩ : _ ∧ _ := ⟨S3.out.cell 0, S3.out.cell 1⟩
    have y0 := S3.out.fro 0
    have y1 := S3.out.fro 1
    have xz := S3.out.lt
    simp only [List.getElem?_toArray, List.getElem?_cons_zero, List.getElem?_cons_succ] at x0 x1
    go_wp2_with fail
    have sE := SE.out
    refine body_abs (fun X => Blk X (w.heap.size + 1 + 1) 33 #[.int .i64 0, .int .i64 0] ∧ Ext w X) ⟨Blk.st2 S3.out _ _, by (repeat' (first | with_reducible assumption | with_reducible exact Ext.refl _ | with_reducible refine Ext.alloc ?_ _ | with_reducible refine Ext.set ?_ ?_ _ | with_reducible refine Ext.drew ?_ | with_reducible refine Ext.drewN ?_ _ | with_reducible refine Ext.trans ?_ (by assumption) | (dsimp only; omega)))⟩ ?_
    rintro X ⟨hB, XE⟩
    have r0 := hB.cell 0
    have r1 := hB.cell 1
    simp only [List.getElem?_toArray, List.getElem?_cons_zero, List.getElem?_cons_succ] at r0 r1
    exact bodyPost_ret (v := .tuple #[.agg #[.int .i64 0, .int .i64 0], .int .i64 E]) (by simp [results, Tryz.results18, go_sem, r0, r1]) rfl ⟨rfl, XE⟩
set_option maxRecDepth 100000 in
set_option maxHeartbeats 4000000 in
theorem rFit_any (m : Md) (r : Ro) (A : Option Addr) (c : Nat) (B : Option Addr) (d : Nat) (D : Int) (hm : m.wears.length ≤ 1000) (hr : r.falls.length ≤ 1000) (w : World) (hx : WrsAt w A m.wears) (hy : FlsAt w B r.falls) :
    Calls Tryz.prog 20 #[m.val A c, r.val B d, .int .i64 D] w fun e w' => e = .returned (.tuple #[.bool (fitV m r D).1, .bool (fitV m r D).2, .int .i64 (dayE m r D)]) ∧ Ext w w' := by
  have HC := hid (fun (W : World) (hE : Ext w W) => rCheckDay_any m r A c B d D hm hr W (hx.ext hE) (hy.ext hE))
  have HD := hid (fun (a : mdB m = true) (b : roB r = true) (W : World) (hE : Ext w W) => rdamage_any m r A c B d D a b W (hx.ext hE) (hy.ext hE))
  have HI := hid (fun (a : mdB m = true) (b : roB r = true) x W => rIsFit_any m r A c B d D x a b W)
  clear hx hy
  have Z0 := fun (a b : Array Value) => blks2 w (.cells a 24) (.cells b 27)
  by_cases h0 : dayE m r D = 0
  · have hv : fitV m r D = (fitB m r D (dmgL m.wears D r.falls).2, fitB m r D (dmgL m.wears D r.falls).1) := by unfold fitV; rw [if_pos h0]
    obtain ⟨h1, h2⟩ := dayE_ok h0
    replace HD := hid (HD.out h1 h2)
    replace HI := hid (HI.out h1 h2)
    rw [hv, h0]
    rw [h0] at HC
    clear hv h0 h1 h2
    generalize dmgL m.wears D r.falls = V at *
    have HI1 := hid (fun W => HI.out V.1 W)
    have HI2 := hid (fun W => HI.out V.2 W)
    clear HI
    dsimp only
    generalize fitB m r D V.1 = F1 at *
    generalize fitB m r D V.2 = F2 at *
    unfold Md.val Ro.val at *
    obtain ⟨sh, us, be, ws⟩ := m
    obtain ⟨ma, fi, le, fs⟩ := r
    dsimp only at *
    generalize ws.length = n at *
    generalize fs.length = k at *
    have Z := Z0 #[.int .i64 sh, .int .i64 us, .int .i64 be, .slice A n c] #[.int .i64 ma, .int .i64 fi, .int .i64 le, .slice B k d]
    have B1 := hid (show Blk _ _ _ _ from Z.1)
    have B2 := hid (show Blk _ _ _ _ from Z.2)
    clear Z Z0
    go_enter Tryz.func20, Tryz.ntmps20
    go_wp2_with fail
    refine Calls.mono (HC.out _ (by (repeat' (first | with_reducible assumption | with_reducible exact Ext.refl _ | with_reducible refine Ext.alloc ?_ _ | with_reducible refine Ext.set ?_ ?_ _ | with_reducible refine Ext.drew ?_ | with_reducible refine Ext.drewN ?_ _ | with_reducible refine Ext.trans ?_ (by assumption) | (dsimp only; omega))))) ?_
    rintro e w2 ⟨rfl, hE⟩
    have TE := hid (show Ext w w2 by (repeat' (first | with_reducible assumption | with_reducible exact Ext.refl _ | with_reducible refine Ext.alloc ?_ _ | with_reducible refine Ext.set ?_ ?_ _ | with_reducible refine Ext.drew ?_ | with_reducible refine Ext.drewN ?_ _ | with_reducible refine Ext.trans ?_ (by assumption) | (dsimp only; omega))))
    have T1 := hid (B1.out.ext hE)
    have T2 := hid (B2.out.ext hE)
    clear B1 B2 hE HC
    obtain ⟨a0, a1, a2, a3⟩ : _ ∧ _ ∧ _ ∧ _ := ⟨T1.out.cell 0, T1.out.cell 1, T1.out.cell 2, T1.out.cell 3⟩
    obtain ⟨b0, b1, b2, b3⟩ : _ ∧ _ ∧ _ ∧ _ := ⟨T2.out.cell 0, T2.out.cell 1, T2.out.cell 2, T2.out.cell 3⟩
    simp only [List.getElem?_toArray, List.getElem?_cons_zero, List.getElem?_cons_succ] at a0 a1 a2 a3 b0 b1 b2 b3
    go_wp2_with fail
    have tE := TE.out
    refine Calls.mono (HD.out _ (by (repeat' (first | with_reducible assumption | with_reducible exact Ext.refl _ | with_reducible refine Ext.alloc ?_ _ | with_reducible refine Ext.set ?_ ?_ _ | with_reducible refine Ext.drew ?_ | with_reducible refine Ext.drewN ?_ _ | with_reducible refine Ext.trans ?_ (by assumption) | (dsimp only; omega))))) ?_
    rintro e w3 ⟨rfl, hE3⟩
    have S1 := hid (T1.out.ext hE3)
    have S2 := hid (T2.out.ext hE3)
    have SE := hid (TE.out.trans hE3)
    clear T1 T2 TE hE3 tE a0 a1 a2 a3 b0 b1 b2 b3 HD
    go_wp2_with fail
    refine wp_absW (fun X => Blk X w.heap.size 24 #[.int .i64 sh, .int .i64 us, .int .i64 be, .slice A n c] ∧ Blk X (w.heap.size + 1) 27 #[.int .i64 ma, .int .i64 fi, .int .i64 le, .slice B k d] ∧ Blk X w3.heap.size 33 #[.int .i64 V.1, .int .i64 V.2] ∧ Ext w X) ⟨S1.out.alloc _, S2.out.alloc _, blk_last _ _, SE.out.alloc _⟩ ?_
    rintro W ⟨u1, u2, u3, hE⟩
    have HE := hid hE
    clear hE S1 S2 SE
    obtain ⟨a0, a1, a2, a3⟩ : _ ∧ _ ∧ _ ∧ _ := ⟨u1.cell 0, u1.cell 1, u1.cell 2, u1.cell 3⟩
    obtain ⟨b0, b1, b2, b3⟩ : _ ∧ _ ∧ _ ∧ _ := ⟨u2.cell 0, u2.cell 1, u2.cell 2, u2.cell 3⟩
    have v3 : Blk _ w3.heap.size _ _ := u3
    have y0 := v3.cell 0
    have y1 := v3.cell 1
    have yz := v3.lt
    have az := u1.lt
    have bz := u2.lt
    simp only [List.getElem?_toArray, List.getElem?_cons_zero, List.getElem?_cons_succ] at a0 a1 a2 a3 b0 b1 b2 b3 y0 y1
    clear u1 u2 u3 v3
    refine wp_region_held_drew (S := fun w' => (∀ b o, b < W.heap.size → w'.cell? ⟨b, o, none⟩ = W.cell? ⟨b, o, none⟩) ∧ W.heap.size ≤ w'.heap.size ∧ Ext W w') (by kernel_rfl) ?hS0 (fun hHeld => ?_)
    case hS0 => exact sK (Ext.drew (Ext.refl _))
    have X0 : Ext W W.drew := Ext.drew (Ext.refl W)
    refine tk1 (i := 0) (v := ?v0a) rfl ?y0a ?r0a
    case y0a => (intro w' hSw; (try dsimp only at hSw); go_simp; (try with_reducible rfl))
    try simp only [Act.put, sq1, sq2, sq3, sq4, sq5, sq6]
    refine tk1 (i := 1) (v := ?v1a) rfl ?y1a ?r1a
    case y1a => (intro w' hSw; (try dsimp only at hSw); go_simp; (try with_reducible rfl))
    try simp only [Act.put, sq1, sq2, sq3, sq4, sq5, sq6]
    refine tk1 (i := 2) (v := ?v2a) rfl ?y2a ?r2a
    case y2a => (intro w' hSw; (try dsimp only at hSw); go_simp; (try with_reducible rfl))
    try simp only [Act.put, sq1, sq2, sq3, sq4, sq5, sq6]
    refine tk1 (i := 3) (v := ?v3a) rfl ?y3a ?r3a
    case y3a => (intro w' hSw; (try dsimp only at hSw); go_simp; (try with_reducible rfl))
    try simp only [Act.put, sq1, sq2, sq3, sq4, sq5, sq6]
    refine tk1 (i := 4) (v := ?v4a) rfl ?y4a ?r4a
    case y4a => (intro w' hSw; (try dsimp only at hSw); go_simp; (try with_reducible rfl))
    try simp only [Act.put, sq1, sq2, sq3, sq4, sq5, sq6]
    refine tk1 (i := 6) (v := ?v6a) rfl ?y6a ?r6a
    case y6a => (intro w' hSw; (try dsimp only at hSw); go_simp; (try with_reducible rfl))
    try simp only [Act.put, sq1, sq2, sq3, sq4, sq5, sq6]
    refine tk1 (i := 7) (v := ?v7a) rfl ?y7a ?r7a
    case y7a => (intro w' hSw; (try dsimp only at hSw); go_simp; (try with_reducible rfl))
    try simp only [Act.put, sq1, sq2, sq3, sq4, sq5, sq6]
    refine tk1 (i := 8) (v := ?v8a) rfl ?y8a ?r8a
    case y8a => (intro w' hSw; (try dsimp only at hSw); go_simp; (try with_reducible rfl))
    try simp only [Act.put, sq1, sq2, sq3, sq4, sq5, sq6]
    refine tk1 (i := 9) (v := ?v9a) rfl ?y9a ?r9a
    case y9a => (intro w' hSw; (try dsimp only at hSw); go_simp; (try with_reducible rfl))
    try simp only [Act.put, sq1, sq2, sq3, sq4, sq5, sq6]
    refine tk1 (i := 10) (v := ?v10a) rfl ?y10a ?r10a
    case y10a => (intro w' hSw; (try dsimp only at hSw); go_simp; (try with_reducible rfl))
    try simp only [Act.put, sq1, sq2, sq3, sq4, sq5, sq6]
    refine wpAnyH_ready (rs := [5]) (by kernel_rfl) (by simp) ?_
    refine AllReadyH.cons (o := _) rfl (fun K hK => ?_) AllReadyH.nil
    go_simp
    refine Calls.mono (HI2.out _) ?_
    rintro e w1 ⟨rfl, hE1⟩
    dsimp only
    have X1 := X0.trans hE1
    clear hHeld
    refine hK.out _ _ (sK X1) (fun hHeld => ?_)
    clear hK K
    try simp only [Act.put, sq1, sq2, sq3, sq4, sq5, sq6]
    refine wpAnyH_ready (rs := [11]) (by kernel_rfl) (by simp) ?_
    refine AllReadyH.cons (o := _) rfl (fun K hK => ?_) AllReadyH.nil
    go_simp
    refine Calls.mono (HI1.out _) ?_
    rintro e w2 ⟨rfl, hE2⟩
    dsimp only
    have X2 := X1.trans hE2
    clear hHeld
    refine hK.out _ _ (sK X2) (fun hHeld => ?_)
    clear hK K
    try simp only [Act.put, sq1, sq2, sq3, sq4, sq5, sq6]
    refine tk1 (i := 12) (v := ?v12c) rfl ?y12c ?r12c
    case y12c => (intro w' hSw; (try dsimp only at hSw); go_simp; (try with_reducible rfl))
    try simp only [Act.put, sq1, sq2, sq3, sq4, sq5, sq6]
    refine tk1 (i := 13) (v := ?v13c) rfl ?y13c ?r13c
    case y13c => (intro w' hSw; (try dsimp only at hSw); go_simp; (try with_reducible rfl))
    try simp only [Act.put, sq1, sq2, sq3, sq4, sq5, sq6]
    refine tk1 (i := 14) (v := ?v14c) rfl ?y14c ?r14c
    case y14c => (intro w' hSw; (try dsimp only at hSw); go_simp; (try with_reducible rfl))
    try simp only [Act.put, sq1, sq2, sq3, sq4, sq5, sq6]
    refine wpAnyH_done (by kernel_rfl) ?_ _
    have HX := hid (HE.out.trans X2)
    clear hHeld
    go_wp2
    exact bodyPost_ret (v := .tuple #[.bool F2, .bool F1, .int .i64 0]) (by simp [results, Tryz.results20, go_sem]) rfl ⟨rfl, HX.out⟩
  · have hv : fitV m r D = (false, false) := by unfold fitV; rw [if_neg h0]
    rw [hv]
    clear hv HD HI Z0
    obtain ⟨E, hE0⟩ : ∃ E, dayE m r D = E := ⟨_, rfl⟩
    rw [hE0] at h0 HC ⊢
    clear hE0
    unfold Md.val Ro.val at *
    obtain ⟨sh, us, be, ws⟩ := m
    obtain ⟨ma, fi, le, fs⟩ := r
    dsimp only at *
    generalize ws.length = n at *
    generalize fs.length = k at *
    have h0' : (E == 0) = false := by simp; exact h0
    go_enter Tryz.func20, Tryz.ntmps20
    go_wp2_with fail
    refine Calls.mono (HC.out _ (by (repeat' (first | with_reducible assumption | with_reducible exact Ext.refl _ | with_reducible refine Ext.alloc ?_ _ | with_reducible refine Ext.set ?_ ?_ _ | with_reducible refine Ext.drew ?_ | with_reducible refine Ext.drewN ?_ _ | with_reducible refine Ext.trans ?_ (by assumption) | (dsimp only; omega))))) ?_
    rintro e w2 ⟨rfl, hE⟩
    have SE := hid (show Ext w w2 by (repeat' (first | with_reducible assumption | with_reducible exact Ext.refl _ | with_reducible refine Ext.alloc ?_ _ | with_reducible refine Ext.set ?_ ?_ _ | with_reducible refine Ext.drew ?_ | with_reducible refine Ext.drewN ?_ _ | with_reducible refine Ext.trans ?_ (by assumption) | (dsimp only; omega))))
    clear hE HC
    go_wp2_with fail
    exact bodyPost_ret (v := .tuple #[.bool false, .bool false, .int .i64 E]) (by simp [results, Tryz.results20, go_sem]) rfl ⟨rfl, SE.out⟩
end Go.Proofs.YtdhljpngkeobcaaGreat
