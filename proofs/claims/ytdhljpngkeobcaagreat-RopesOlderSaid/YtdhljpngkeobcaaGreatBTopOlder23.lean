/- The law RopesOlder returns true. -/
import Derived.Test.YtdhljpngkeobcaaGreatBTopOlder21
import Derived.Test.YtdhljpngkeobcaaGreatB16
import Derived.Test.YtdhljpngkeobcaaGreatB19
import Derived.Test.YtdhljpngkeobcaaGreatBTopOlder22
set_option linter.unusedSimpArgs false
set_option linter.unusedVariables false
namespace Go.Proofs.YtdhljpngkeobcaaGreat
open Go.RowKit
theorem dayE_take {m : Md} {r : Ro} {D : Int} (h : dayE m r D = 0) : takE m r = 0 ∧ D ≤ 99999 := by
  unfold dayE at h
  unfold takE
  cases h1 : mdB m <;> cases h2 : roB r <;> simp [h1, h2] at h ⊢
  unfold inI at h
  simp only [Bool.and_eq_true, decide_eq_true_eq] at h
  exact h.2
theorem old_facts {m : Md} {r : Ro} {D : Int} (h0 : dayE m r D = 0) :
    takE m r = 0 ∧ (untV m r = -1 ∨ (lateN r ≤ untV m r ∧ untV m r ≤ 99999)) ∧ -1 ≤ untV m r ∧ (lateN r ≤ D → (fitV m r D).1 = decide (D ≤ untV m r)) := by
  obtain ⟨hm, hr⟩ := dayE_ok h0
  obtain ⟨ht, h9⟩ := dayE_take h0
  have hu : untV m r = untN m r := by unfold untV; rw [if_pos ht]
  have hf : (fitV m r D).1 = sureB m r D := by unfold fitV; rw [if_pos h0]; rfl
  have hg := unt_range (m := m) hr
  have hlt := lateN_ge r
  have hrp := roB_parts hr
  rw [hu, hf]
  exact ⟨ht, hg, by omega, fun h => unt_sure hr h9 h⟩
theorem more_facts {m : Md} {r : Ro} {f : Fl} {D : Int} (h0 : dayE m r D = 0) (h1 : dayE m (moreR r f) D = 0) :
    ((fitV m (moreR r f) D).1 = true → (fitV m r D).1 = true) ∧ untV m (moreR r f) ≤ max (untV m r) (-1) := by
  obtain ⟨hm, hr⟩ := dayE_ok h0
  have hu : untV m r = untN m r := by unfold untV; rw [if_pos (dayE_take h0).1]
  have hu2 : untV m (moreR r f) = untN m (moreR r f) := by unfold untV; rw [if_pos (dayE_take h1).1]
  have hf : (fitV m r D).1 = sureB m r D := by unfold fitV; rw [if_pos h0]; rfl
  have hf2 : (fitV m (moreR r f) D).1 = sureB m (moreR r f) D := by unfold fitV; rw [if_pos h1]; rfl
  rw [hu, hu2, hf, hf2]
  exact ⟨sure_more hm r f D, unt_more hm hr f⟩
set_option maxRecDepth 100000 in
set_option maxHeartbeats 16000000 in
theorem ropesOlder_any (m : Md) (r : Ro) (A : Option Addr) (c : Nat) (B : Option Addr) (d : Nat) (D : Int) (f : Fl)
    (w : World) (hx : WrsAt w A m.wears) (hy : FlsAt w B r.falls) :
    Calls Tryz.prog 8 #[m.val A c, r.val B d, .agg #[.int .i64 D, .int .i64 f.day, .int .i64 f.hl, .int .i64 f.hh, .int .i64 f.ol, .int .i64 f.oh]] w fun e w' => e = .returned (.bool true) ∧ Ext w w' := by
  have HWK := hid (fun W => works_any W)
  have HFR := hid (fun W => farRope_any m r A c B d W)
  have HCD := hid (fun (a : m.wears.length ≤ 1000) (b : r.falls.length ≤ 1000) (W : World) (hE : Ext w W) => rCheckDay_any m r A c B d D a b W (hx.ext hE) (hy.ext hE))
  have HPF := hid (fun (a : m.wears.length ≤ 1000) (b : r.falls.length ≤ 1000) (W : World) (hE : Ext w W) => pfit_any m r A c B d D a b W (hx.ext hE) (hy.ext hE))
  have HPU := hid (fun (a : m.wears.length ≤ 1000) (b : r.falls.length ≤ 1000) (W : World) (hE : Ext w W) => puntil_any m r A c B d a b W (hx.ext hE) (hy.ext hE))
  have HBS := hid (fun (b : r.falls.length ≤ 1000) (W : World) (hE : Ext w W) => rBase_any r B d b W (hy.ext hE))
  have HCP := hid (fun (b : r.falls.length ≤ 10000) (W : World) (hE : Ext w W) => copyRope_any r B d b W (hy.ext hE))
  have HMR := hid (fun (A6 : Option Addr) (c6 : Nat) (a : m.wears.length ≤ 1000) (b : (moreR r f).falls.length ≤ 1000) (W7 : World) (hE7 : Ext w W7) (h : FlsAt W7 A6 (moreR r f).falls) =>
    show (∀ W, Ext W7 W → Calls Tryz.prog 42 #[m.val A c, (moreR r f).val A6 c6, .int .i64 D] W fun e w' => e = .returned (.int .i64 (dayE m (moreR r f) D)) ∧ Ext W w') ∧
      (∀ W, Ext W7 W → Calls Tryz.prog 19 #[m.val A c, (moreR r f).val A6 c6, .int .i64 D] W fun e w' => e = .returned (.tuple #[.bool (fitV m (moreR r f) D).1, .bool (fitV m (moreR r f) D).2, .int .i64 (dayE m (moreR r f) D)]) ∧ Ext W w') ∧
      (∀ W, Ext W7 W → Calls Tryz.prog 21 #[m.val A c, (moreR r f).val A6 c6] W fun e w' => e = .returned (.tuple #[.int .i64 (untV m (moreR r f)), .int .i64 (takE m (moreR r f))]) ∧ Ext W w') from
      ⟨fun W e => rCheckDay_any m _ A c A6 c6 D a b W (hx.ext (hE7.trans e)) (h.ext e), fun W e => pfit_any m _ A c A6 c6 D a b W (hx.ext (hE7.trans e)) (h.ext e), fun W e => puntil_any m _ A c A6 c6 a b W (hx.ext (hE7.trans e)) (h.ext e)⟩)
  have HOF := hid (fun (h : dayE m r D = 0) => old_facts h)
  have HMF := hid (fun (h : dayE m r D = 0) (h1 : dayE m (moreR r f) D = 0) => more_facts h h1)
  have HTK := hid (fun (h : dayE m (moreR r f) D = 0) => (dayE_take h).1)
  have hlm : (moreR r f).falls.length = r.falls.length + 1 := by unfold moreR; simp
  have hmv : ∀ A6 c6, (moreR r f).val A6 c6 = .agg #[.int .i64 r.made, .int .i64 r.first, .int .i64 r.len, .slice A6 (r.falls.length + 1) c6] := fun A6 c6 => by unfold Ro.val; rw [hlm]; rfl
  simp only [hmv, hlm] at HMR
  have hfm : (moreR r f).falls = r.falls ++ [f] := rfl
  simp only [hfm] at HMR
  clear hx hy hmv hlm hfm
  generalize dayE m r D = E at *
  generalize dayE m (moreR r f) D = E2 at *
  generalize fitV m r D = F at *
  generalize fitV m (moreR r f) D = F2 at *
  generalize untV m r = U at *
  generalize untV m (moreR r f) = U2 at *
  generalize takE m r = T at *
  generalize takE m (moreR r f) = T2 at *
  generalize lateN r = LN at *
  unfold Md.val Ro.val at *
  obtain ⟨sh, us, be, ws⟩ := m
  obtain ⟨ma, fi, le, fs⟩ := r
  obtain ⟨fd, hl, hh, ol, oh⟩ := f
  dsimp only at *
  generalize ws.length = nw at *
  generalize hnf : fs.length = nf at *
  have HNF := hid hnf
  clear hnf
  obtain ⟨fr, hfr⟩ : ∃ b, (decide (8 < nw) || decide (12 < nf)) = b := ⟨_, rfl⟩
  rw [hfr] at HFR
  cases fr
  case true =>
    clear HCD HPF HPU HBS HCP HMR HOF HMF HTK hfr
    go_enter Tryz.func8, Tryz.ntmps8
    go_wp2_with (first
      | (go_at_call 13; refine (HFR.out _).mono ?_; rintro e w2 ⟨rfl, hE⟩; (first | (have hK := KC.step (n := w.heap.size + 3) (by with_reducible assumption) hE) | (have hK := KC.step (KC.step (n := w.heap.size + 3) (by with_reducible assumption) (ext_alloc1 _ _)) hE) | (have hK := KC.step (KC.refl (n := w.heap.size + 3) (by simp)) hE)); have hC := hK.cell; have hF := hK.fro; have hX := hK.ext)
      | (go_at_call 14; refine (HWK.out _).mono ?_; rintro e w2 ⟨rfl, hE⟩; (first | (have hK := KC.step (n := w.heap.size + 3) (by with_reducible assumption) hE) | (have hK := KC.step (KC.step (n := w.heap.size + 3) (by with_reducible assumption) (ext_alloc1 _ _)) hE) | (have hK := KC.step (KC.refl (n := w.heap.size + 3) (by simp)) hE)); have hC := hK.cell; have hF := hK.fro; have hX := hK.ext))
    go_ret
    exact ⟨rfl, by (repeat' (first | with_reducible assumption | with_reducible exact Ext.refl _ | with_reducible refine Ext.alloc ?_ _ | with_reducible refine Ext.set ?_ ?_ _ | with_reducible refine Ext.drew ?_ | with_reducible refine Ext.drewN ?_ _ | with_reducible refine Ext.trans ?_ (by assumption) | (dsimp only; omega)))⟩
  simp only [Bool.or_eq_false_iff, decide_eq_false_iff_not] at hfr
  replace HCD := hid (HCD.out (by omega) (by omega))
  replace HPF := hid (HPF.out (by omega) (by omega))
  replace HPU := hid (HPU.out (by omega) (by omega))
  replace HBS := hid (HBS.out (by omega))
  replace HCP := hid (HCP.out (by omega))
  replace HMR := hid (fun A6 c6 => HMR.out A6 c6 (by omega) (by omega))
  have hnf1 : nf ≤ 12 := by omega
  clear hfr
  by_cases h0 : E = 0
  case neg =>
    have hne : (E != 0) = true := by simp [h0]
    clear HPF HPU HBS HCP HMR HOF HMF HTK
    go_enter Tryz.func8, Tryz.ntmps8
    go_wp2_with (first
      | (go_at_call 13; refine (HFR.out _).mono ?_; rintro e w2 ⟨rfl, hE⟩; (first | (have hK := KC.step (n := w.heap.size + 3) (by with_reducible assumption) hE) | (have hK := KC.step (KC.step (n := w.heap.size + 3) (by with_reducible assumption) (ext_alloc1 _ _)) hE) | (have hK := KC.step (KC.refl (n := w.heap.size + 3) (by simp)) hE)); have hC := hK.cell; have hF := hK.fro; have hX := hK.ext)
      | (go_at_call 42; refine (HCD.out _ (by (repeat' (first | with_reducible assumption | with_reducible exact Ext.refl _ | with_reducible refine Ext.alloc ?_ _ | with_reducible refine Ext.set ?_ ?_ _ | with_reducible refine Ext.drew ?_ | with_reducible refine Ext.drewN ?_ _ | with_reducible refine Ext.trans ?_ (by assumption) | (dsimp only; omega))))).mono ?_; rintro e w2 ⟨rfl, hE⟩; (first | (have hK := KC.step (n := w.heap.size + 3) (by with_reducible assumption) hE) | (have hK := KC.step (KC.step (n := w.heap.size + 3) (by with_reducible assumption) (ext_alloc1 _ _)) hE) | (have hK := KC.step (KC.refl (n := w.heap.size + 3) (by simp)) hE)); have hC := hK.cell; have hF := hK.fro; have hX := hK.ext)
      | (go_at_call 14; refine (HWK.out _).mono ?_; rintro e w2 ⟨rfl, hE⟩; (first | (have hK := KC.step (n := w.heap.size + 3) (by with_reducible assumption) hE) | (have hK := KC.step (KC.step (n := w.heap.size + 3) (by with_reducible assumption) (ext_alloc1 _ _)) hE) | (have hK := KC.step (KC.refl (n := w.heap.size + 3) (by simp)) hE)); have hC := hK.cell; have hF := hK.fro; have hX := hK.ext))
    go_ret
    exact ⟨rfl, by (repeat' (first | with_reducible assumption | with_reducible exact Ext.refl _ | with_reducible refine Ext.alloc ?_ _ | with_reducible refine Ext.set ?_ ?_ _ | with_reducible refine Ext.drew ?_ | with_reducible refine Ext.drewN ?_ _ | with_reducible refine Ext.trans ?_ (by assumption) | (dsimp only; omega)))⟩
  subst h0
  obtain ⟨rfl, hU, hU1, hFU⟩ := HOF.out rfl
  replace HMF := hid (HMF.out rfl)
  clear HOF
  obtain ⟨S1, S2⟩ := F
  obtain ⟨S3, S4⟩ := F2
  dsimp only at *
  by_cases hu : U = -1
  · subst hu
    clear hU hU1
    by_cases hb : LN ≤ D
    · have hs := hFU hb
      clear hFU
      subst hs
      by_cases hd : D ≤ -1
      · rw [decide_eq_true hd] at *
        go_enter Tryz.func8, Tryz.ntmps8
        go_wp2_with (first
          | (go_at_call 13; refine (HFR.out _).mono ?_; rintro e w2 ⟨rfl, hE⟩; (first | (have hK := KC.step (n := w.heap.size + 3) (by with_reducible assumption) hE) | (have hK := KC.step (KC.step (n := w.heap.size + 3) (by with_reducible assumption) (ext_alloc1 _ _)) hE) | (have hK := KC.step (KC.refl (n := w.heap.size + 3) (by simp)) hE)); have hC := hK.cell; have hF := hK.fro; have hX := hK.ext)
          | (go_at_call 42; refine (HCD.out _ (by (repeat' (first | with_reducible assumption | with_reducible exact Ext.refl _ | with_reducible refine Ext.alloc ?_ _ | with_reducible refine Ext.set ?_ ?_ _ | with_reducible refine Ext.drew ?_ | with_reducible refine Ext.drewN ?_ _ | with_reducible refine Ext.trans ?_ (by assumption) | (dsimp only; omega))))).mono ?_; rintro e w2 ⟨rfl, hE⟩; (first | (have hK := KC.step (n := w.heap.size + 3) (by with_reducible assumption) hE) | (have hK := KC.step (KC.step (n := w.heap.size + 3) (by with_reducible assumption) (ext_alloc1 _ _)) hE) | (have hK := KC.step (KC.refl (n := w.heap.size + 3) (by simp)) hE)); have hC := hK.cell; have hF := hK.fro; have hX := hK.ext)
          | (go_at_call 19; refine (HPF.out _ (by (repeat' (first | with_reducible assumption | with_reducible exact Ext.refl _ | with_reducible refine Ext.alloc ?_ _ | with_reducible refine Ext.set ?_ ?_ _ | with_reducible refine Ext.drew ?_ | with_reducible refine Ext.drewN ?_ _ | with_reducible refine Ext.trans ?_ (by assumption) | (dsimp only; omega))))).mono ?_; rintro e w2 ⟨rfl, hE⟩; (first | (have hK := KC.step (n := w.heap.size + 3) (by with_reducible assumption) hE) | (have hK := KC.step (KC.step (n := w.heap.size + 3) (by with_reducible assumption) (ext_alloc1 _ _)) hE) | (have hK := KC.step (KC.refl (n := w.heap.size + 3) (by simp)) hE)); have hC := hK.cell; have hF := hK.fro; have hX := hK.ext)
          | (go_at_call 21; refine (HPU.out _ (by (repeat' (first | with_reducible assumption | with_reducible exact Ext.refl _ | with_reducible refine Ext.alloc ?_ _ | with_reducible refine Ext.set ?_ ?_ _ | with_reducible refine Ext.drew ?_ | with_reducible refine Ext.drewN ?_ _ | with_reducible refine Ext.trans ?_ (by assumption) | (dsimp only; omega))))).mono ?_; rintro e w2 ⟨rfl, hE⟩; (first | (have hK := KC.step (n := w.heap.size + 3) (by with_reducible assumption) hE) | (have hK := KC.step (KC.step (n := w.heap.size + 3) (by with_reducible assumption) (ext_alloc1 _ _)) hE) | (have hK := KC.step (KC.refl (n := w.heap.size + 3) (by simp)) hE)); have hC := hK.cell; have hF := hK.fro; have hX := hK.ext)
          | (go_at_call 45; refine (HBS.out _ (by (repeat' (first | with_reducible assumption | with_reducible exact Ext.refl _ | with_reducible refine Ext.alloc ?_ _ | with_reducible refine Ext.set ?_ ?_ _ | with_reducible refine Ext.drew ?_ | with_reducible refine Ext.drewN ?_ _ | with_reducible refine Ext.trans ?_ (by assumption) | (dsimp only; omega))))).mono ?_; rintro e w2 ⟨rfl, hE⟩; (first | (have hK := KC.step (n := w.heap.size + 3) (by with_reducible assumption) hE) | (have hK := KC.step (KC.step (n := w.heap.size + 3) (by with_reducible assumption) (ext_alloc1 _ _)) hE) | (have hK := KC.step (KC.refl (n := w.heap.size + 3) (by simp)) hE)); have hC := hK.cell; have hF := hK.fro; have hX := hK.ext))
        have HE4 := hid (show Ext w w2 by (repeat' (first | with_reducible assumption | with_reducible exact Ext.refl _ | with_reducible refine Ext.alloc ?_ _ | with_reducible refine Ext.set ?_ ?_ _ | with_reducible refine Ext.drew ?_ | with_reducible refine Ext.drewN ?_ _ | with_reducible refine Ext.trans ?_ (by assumption) | (dsimp only; omega))))
        have z4 := hK.size
        have HK2 := hid hK
        refine Calls.mono (HCP.out _ HE4.out) ?_
        rintro e w5 ⟨A5, c5, rfl, hO5, hE⟩
        have HO5 := hid hO5
        have HE5 := hid hE
        clear hO5
        (first | (have hK := KC.step (n := w.heap.size + 3) (by with_reducible assumption) hE) | (have hK := KC.step (KC.step (n := w.heap.size + 3) (by with_reducible assumption) (ext_alloc1 _ _)) hE) | (have hK := KC.step (KC.refl (n := w.heap.size + 3) (by simp)) hE)); have hC := hK.cell; have hF := hK.fro; have hX := hK.ext
        have z5 := hK.size
        have z25 := HE5.out.size
        have z50 : w.heap.size < w5.heap.size := by omega
        have z51 : w.heap.size + 1 < w5.heap.size := by omega
        have z52 : w.heap.size + 1 + 1 < w5.heap.size := by omega
        go_wp2_with (at_builtin; refine Halt.mk ?_)
        unfold Halt
        clear hC hF hX hK hE
        have R5 := hid (Blk.new w5 27 #[.int .i64 ma, .int .i64 fi, .int .i64 le, .slice A5 nf c5])
        have EU := hid (ext_alloc1 w5 (.cells #[.int .i64 ma, .int .i64 fi, .int .i64 le, .slice A5 nf c5] 27))
        obtain ⟨V, hV⟩ : ∃ V, w5.alloc (.cells #[.int .i64 ma, .int .i64 fi, .int .i64 le, .slice A5 nf c5] 27) = V := ⟨_, rfl⟩
        have zV : V.heap.size = w5.heap.size + 1 := by rw [← hV]; simp
        rw [hV] at R5 EU ⊢
        clear hV
        have OV := hid (HO5.out.ext EU.out)
        have FB := hid (show Blk (V.alloc (.cells #[.int .i64 fd, .int .i64 hl, .int .i64 hh, .int .i64 ol, .int .i64 oh] 75)) (w5.heap.size + 1) 75 #[.int .i64 fd, .int .i64 hl, .int .i64 hh, .int .i64 ol, .int .i64 oh] by rw [← zV]; exact Blk.new V _ _)
        refine wpList_app1Fl _ rfl _ _ rfl w2.heap.size (.slice A5 nf c5) fs rfl (OV.out.ext (ext_alloc1 _ _)) (w5.heap.size + 1) ⟨fd, hl, hh, ol, oh⟩ rfl FB.out (by rw [HNF.out]; omega) (by rw [World.size_alloc]; omega) ?_
        intro v6 w6 hO6 hg hvo
        have E6 := hid (show Ext w2 w6 from OV.out.extApp (HE5.out.trans EU.out) (Nat.le_refl _) hg)
        have R6 := hid ((R5.out.alloc (.cells #[.int .i64 fd, .int .i64 hl, .int .i64 hh, .int .i64 ol, .int .i64 oh] 75)).grown hg (fun x => by have := (HO5.out.block _ x.symm).2; omega))
        obtain ⟨A6, c6, hv6, -, hf6⟩ := ownFl hO6
        rw [List.length_append, HNF.out] at hv6
        simp only [List.length_cons, List.length_nil, Nat.zero_add] at hv6
        subst hv6
        have OV6 := hid hO6
        clear hO6 hg FB OV R5 EU hf6 HCP HPF HPU HBS
        have hK6 := KC.step (n := w.heap.size + 3) HK2.out E6.out
        have hC6 := hK6.cell
        have m0 : w6.cell? ⟨w.heap.size, 0, none⟩ = some (.int .i64 sh) := by rw [hC6 _ _ (by omega)]; go_simp
        have m1 : w6.cell? ⟨w.heap.size, 1, none⟩ = some (.int .i64 us) := by rw [hC6 _ _ (by omega)]; go_simp
        have m2 : w6.cell? ⟨w.heap.size, 2, none⟩ = some (.int .i64 be) := by rw [hC6 _ _ (by omega)]; go_simp
        have m3 : w6.cell? ⟨w.heap.size, 3, none⟩ = some (.slice A nw c) := by rw [hC6 _ _ (by omega)]; go_simp
        have l0 : w6.cell? ⟨w.heap.size + 1 + 1, 0, none⟩ = some (.int .i64 D) := by rw [hC6 _ _ (by omega)]; go_simp
        obtain ⟨r0, r1, r2, r3⟩ : _ ∧ _ ∧ _ ∧ _ := ⟨R6.out.cell 0, R6.out.cell 1, R6.out.cell 2, R6.out.cell 3⟩
        have rf := R6.out.fro 3
        have rz := R6.out.lt
        simp only [List.getElem?_toArray, List.getElem?_cons_zero, List.getElem?_cons_succ] at r0 r1 r2 r3
        clear hC6
        have n0 : ¬ w.heap.size = w5.heap.size := by omega
        have n1 : ¬ w.heap.size + 1 + 1 = w5.heap.size := by omega
        go_wp2_with fail
        have hne6 : (Value.slice A6 (nf + 1) c6).ownBlock ≠ some w5.heap.size := by
          intro h
          rcases hvo with h' | h'
          · rw [h'] at h
            have := (HO5.out.block _ h).2
            omega
          · rw [h'] at h
            injection h with h
            rw [World.size_alloc] at h
            omega
        have E7 := hid (show Ext w2 (w6.setCell ⟨w5.heap.size, 3, none⟩ (.slice A6 (nf + 1) c6)) from E6.out.set (p := ⟨w5.heap.size, 3, none⟩) (by dsimp only; omega) _)
        have R7 := hid (show Blk (w6.setCell ⟨w5.heap.size, 3, none⟩ (.slice A6 (nf + 1) c6)) w5.heap.size 27 #[.int .i64 ma, .int .i64 fi, .int .i64 le, .slice A6 (nf + 1) c6] by have h := R6.out.setAt 3 (.slice A6 (nf + 1) c6); simp only [List.setIfInBounds_toArray, List.set_cons_zero, List.set_cons_succ] at h; exact h)
        have OV7 := OV6.out.otherNe (p := ⟨w5.heap.size, 3, none⟩) hne6 (.slice A6 (nf + 1) c6)
        obtain ⟨A7, c7, hv7, -, hf7⟩ := ownFl OV7
        have hA7 : A6 = A7 := by injection hv7
        subst hA7
        have HF7 := hid hf7
        clear hf7 hv7 OV7 hne6 hvo OV6 R6 E6 HO5 m0 m1 m2 m3 l0 r0 r1 r2 r3 rf hK6 c7
        obtain ⟨w7, hw7⟩ : ∃ w7, w6.setCell ⟨w5.heap.size, 3, none⟩ (.slice A6 (nf + 1) c6) = w7 := ⟨_, rfl⟩
        rw [hw7] at E7 R7 HF7 ⊢
        clear hw7
        have hK7 := KC.step (n := w.heap.size + 3) HK2.out E7.out
        have hC7 := hK7.cell
        have m0 : w7.cell? ⟨w.heap.size, 0, none⟩ = some (.int .i64 sh) := by rw [hC7 _ _ (by omega)]; go_simp
        have m1 : w7.cell? ⟨w.heap.size, 1, none⟩ = some (.int .i64 us) := by rw [hC7 _ _ (by omega)]; go_simp
        have m2 : w7.cell? ⟨w.heap.size, 2, none⟩ = some (.int .i64 be) := by rw [hC7 _ _ (by omega)]; go_simp
        have m3 : w7.cell? ⟨w.heap.size, 3, none⟩ = some (.slice A nw c) := by rw [hC7 _ _ (by omega)]; go_simp
        have l0 : w7.cell? ⟨w.heap.size + 1 + 1, 0, none⟩ = some (.int .i64 D) := by rw [hC7 _ _ (by omega)]; go_simp
        obtain ⟨r0, r1, r2, r3⟩ : _ ∧ _ ∧ _ ∧ _ := ⟨R7.out.cell 0, R7.out.cell 1, R7.out.cell 2, R7.out.cell 3⟩
        have rz := R7.out.lt
        simp only [List.getElem?_toArray, List.getElem?_cons_zero, List.getElem?_cons_succ] at r0 r1 r2 r3
        have y0 : w.heap.size < w7.heap.size := by omega
        have y2 : w.heap.size + 1 + 1 < w7.heap.size := by omega
        obtain ⟨HC8, HP8, HU8⟩ := HMR.out A6 c6 w7 (HE4.out.trans E7.out) HF7.out
        replace HC8 := hid HC8
        replace HP8 := hid HP8
        replace HU8 := hid HU8
        have HE7 := hid (HE4.out.trans E7.out)
        clear hC7 hK7 R7 HF7 HMR HK2 E7 HE5 HE4 n0 n1 z4 z5 z25 z50 z51 z52 zV HCD HFR HNF
        refine Calls.mono (HC8.out _ (Ext.refl _)) ?_
        rintro e w8 ⟨rfl, hE⟩
        (first | (have hK := KC.step (n := w7.heap.size) (by with_reducible assumption) hE) | (have hK := KC.step (KC.step (n := w7.heap.size) (by with_reducible assumption) (ext_alloc1 _ _)) hE) | (have hK := KC.step (KC.refl (n := w7.heap.size) (by simp)) hE)); have hC := hK.cell; have hF := hK.fro; have hX := hK.ext
        by_cases h2 : E2 = 0
        case neg =>
          have hne2 : (E2 != 0) = true := by simp [h2]
          clear HMF HTK
          go_wp2_with (go_at_call 14; refine (HWK.out _).mono ?_; rintro e w2 ⟨rfl, hE⟩; (first | (have hK := KC.step (n := w7.heap.size) (by with_reducible assumption) hE) | (have hK := KC.step (KC.step (n := w7.heap.size) (by with_reducible assumption) (ext_alloc1 _ _)) hE) | (have hK := KC.step (KC.refl (n := w7.heap.size) (by simp)) hE)); have hC := hK.cell; have hF := hK.fro; have hX := hK.ext)
          go_ret
          exact ⟨rfl, HE7.out.trans (by (repeat' (first | with_reducible assumption | with_reducible exact Ext.refl _ | with_reducible refine Ext.alloc ?_ _ | with_reducible refine Ext.set ?_ ?_ _ | with_reducible refine Ext.drew ?_ | with_reducible refine Ext.drewN ?_ _ | with_reducible refine Ext.trans ?_ (by assumption) | (dsimp only; omega))))⟩
        subst h2
        obtain ⟨h31, hmx⟩ := HMF.out rfl
        have ht2 := HTK.out rfl
        subst ht2
        clear HMF HTK
        have hm2 : U2 ≤ -1 := by omega
        clear hmx
        cases S3
        case false =>
          go_wp2_with (first
            | (go_at_call 19; refine (HP8.out _ (by (repeat' (first | with_reducible assumption | with_reducible exact Ext.refl _ | with_reducible refine Ext.alloc ?_ _ | with_reducible refine Ext.set ?_ ?_ _ | with_reducible refine Ext.drew ?_ | with_reducible refine Ext.drewN ?_ _ | with_reducible refine Ext.trans ?_ (by assumption) | (dsimp only; omega))))).mono ?_; rintro e w2 ⟨rfl, hE⟩; (first | (have hK := KC.step (n := w7.heap.size) (by with_reducible assumption) hE) | (have hK := KC.step (KC.step (n := w7.heap.size) (by with_reducible assumption) (ext_alloc1 _ _)) hE) | (have hK := KC.step (KC.refl (n := w7.heap.size) (by simp)) hE)); have hC := hK.cell; have hF := hK.fro; have hX := hK.ext)
            | (go_at_call 21; refine (HU8.out _ (by (repeat' (first | with_reducible assumption | with_reducible exact Ext.refl _ | with_reducible refine Ext.alloc ?_ _ | with_reducible refine Ext.set ?_ ?_ _ | with_reducible refine Ext.drew ?_ | with_reducible refine Ext.drewN ?_ _ | with_reducible refine Ext.trans ?_ (by assumption) | (dsimp only; omega))))).mono ?_; rintro e w2 ⟨rfl, hE⟩; (first | (have hK := KC.step (n := w7.heap.size) (by with_reducible assumption) hE) | (have hK := KC.step (KC.step (n := w7.heap.size) (by with_reducible assumption) (ext_alloc1 _ _)) hE) | (have hK := KC.step (KC.refl (n := w7.heap.size) (by simp)) hE)); have hC := hK.cell; have hF := hK.fro; have hX := hK.ext)
            | (go_at_call 14; refine (HWK.out _).mono ?_; rintro e w2 ⟨rfl, hE⟩; (first | (have hK := KC.step (n := w7.heap.size) (by with_reducible assumption) hE) | (have hK := KC.step (KC.step (n := w7.heap.size) (by with_reducible assumption) (ext_alloc1 _ _)) hE) | (have hK := KC.step (KC.refl (n := w7.heap.size) (by simp)) hE)); have hC := hK.cell; have hF := hK.fro; have hX := hK.ext))
          all_goals (go_ret; exact ⟨ret_bool (by simp [*]), HE7.out.trans (by (repeat' (first | with_reducible assumption | with_reducible exact Ext.refl _ | with_reducible refine Ext.alloc ?_ _ | with_reducible refine Ext.set ?_ ?_ _ | with_reducible refine Ext.drew ?_ | with_reducible refine Ext.drewN ?_ _ | with_reducible refine Ext.trans ?_ (by assumption) | (dsimp only; omega))))⟩)
        have h1 := h31 rfl
        clear h31
        first | (exfalso; exact absurd h1 (by decide)) | (subst h1; go_wp2_with (first | (go_at_call 19; refine (HP8.out _ (by (repeat' (first | with_reducible assumption | with_reducible exact Ext.refl _ | with_reducible refine Ext.alloc ?_ _ | with_reducible refine Ext.set ?_ ?_ _ | with_reducible refine Ext.drew ?_ | with_reducible refine Ext.drewN ?_ _ | with_reducible refine Ext.trans ?_ (by assumption) | (dsimp only; omega))))).mono ?_; rintro e w2 ⟨rfl, hE⟩; (first | (have hK := KC.step (n := w7.heap.size) (by with_reducible assumption) hE) | (have hK := KC.step (KC.step (n := w7.heap.size) (by with_reducible assumption) (ext_alloc1 _ _)) hE) | (have hK := KC.step (KC.refl (n := w7.heap.size) (by simp)) hE)); have hC := hK.cell; have hF := hK.fro; have hX := hK.ext) | (go_at_call 21; refine (HU8.out _ (by (repeat' (first | with_reducible assumption | with_reducible exact Ext.refl _ | with_reducible refine Ext.alloc ?_ _ | with_reducible refine Ext.set ?_ ?_ _ | with_reducible refine Ext.drew ?_ | with_reducible refine Ext.drewN ?_ _ | with_reducible refine Ext.trans ?_ (by assumption) | (dsimp only; omega))))).mono ?_; rintro e w2 ⟨rfl, hE⟩; (first | (have hK := KC.step (n := w7.heap.size) (by with_reducible assumption) hE) | (have hK := KC.step (KC.step (n := w7.heap.size) (by with_reducible assumption) (ext_alloc1 _ _)) hE) | (have hK := KC.step (KC.refl (n := w7.heap.size) (by simp)) hE)); have hC := hK.cell; have hF := hK.fro; have hX := hK.ext) | (go_at_call 14; refine (HWK.out _).mono ?_; rintro e w2 ⟨rfl, hE⟩; (first | (have hK := KC.step (n := w7.heap.size) (by with_reducible assumption) hE) | (have hK := KC.step (KC.step (n := w7.heap.size) (by with_reducible assumption) (ext_alloc1 _ _)) hE) | (have hK := KC.step (KC.refl (n := w7.heap.size) (by simp)) hE)); have hC := hK.cell; have hF := hK.fro; have hX := hK.ext)); all_goals (go_ret; exact ⟨ret_bool (by simp [*]), HE7.out.trans (by (repeat' (first | with_reducible assumption | with_reducible exact Ext.refl _ | with_reducible refine Ext.alloc ?_ _ | with_reducible refine Ext.set ?_ ?_ _ | with_reducible refine Ext.drew ?_ | with_reducible refine Ext.drewN ?_ _ | with_reducible refine Ext.trans ?_ (by assumption) | (dsimp only; omega))))⟩)) | (clear h1; go_wp2_with (first | (go_at_call 19; refine (HP8.out _ (by (repeat' (first | with_reducible assumption | with_reducible exact Ext.refl _ | with_reducible refine Ext.alloc ?_ _ | with_reducible refine Ext.set ?_ ?_ _ | with_reducible refine Ext.drew ?_ | with_reducible refine Ext.drewN ?_ _ | with_reducible refine Ext.trans ?_ (by assumption) | (dsimp only; omega))))).mono ?_; rintro e w2 ⟨rfl, hE⟩; (first | (have hK := KC.step (n := w7.heap.size) (by with_reducible assumption) hE) | (have hK := KC.step (KC.step (n := w7.heap.size) (by with_reducible assumption) (ext_alloc1 _ _)) hE) | (have hK := KC.step (KC.refl (n := w7.heap.size) (by simp)) hE)); have hC := hK.cell; have hF := hK.fro; have hX := hK.ext) | (go_at_call 21; refine (HU8.out _ (by (repeat' (first | with_reducible assumption | with_reducible exact Ext.refl _ | with_reducible refine Ext.alloc ?_ _ | with_reducible refine Ext.set ?_ ?_ _ | with_reducible refine Ext.drew ?_ | with_reducible refine Ext.drewN ?_ _ | with_reducible refine Ext.trans ?_ (by assumption) | (dsimp only; omega))))).mono ?_; rintro e w2 ⟨rfl, hE⟩; (first | (have hK := KC.step (n := w7.heap.size) (by with_reducible assumption) hE) | (have hK := KC.step (KC.step (n := w7.heap.size) (by with_reducible assumption) (ext_alloc1 _ _)) hE) | (have hK := KC.step (KC.refl (n := w7.heap.size) (by simp)) hE)); have hC := hK.cell; have hF := hK.fro; have hX := hK.ext) | (go_at_call 14; refine (HWK.out _).mono ?_; rintro e w2 ⟨rfl, hE⟩; (first | (have hK := KC.step (n := w7.heap.size) (by with_reducible assumption) hE) | (have hK := KC.step (KC.step (n := w7.heap.size) (by with_reducible assumption) (ext_alloc1 _ _)) hE) | (have hK := KC.step (KC.refl (n := w7.heap.size) (by simp)) hE)); have hC := hK.cell; have hF := hK.fro; have hX := hK.ext)); all_goals (go_ret; exact ⟨ret_bool (by simp [*]), HE7.out.trans (by (repeat' (first | with_reducible assumption | with_reducible exact Ext.refl _ | with_reducible refine Ext.alloc ?_ _ | with_reducible refine Ext.set ?_ ?_ _ | with_reducible refine Ext.drew ?_ | with_reducible refine Ext.drewN ?_ _ | with_reducible refine Ext.trans ?_ (by assumption) | (dsimp only; omega))))⟩))
      · rw [decide_eq_false hd] at *
        go_enter Tryz.func8, Tryz.ntmps8
        go_wp2_with (first
          | (go_at_call 13; refine (HFR.out _).mono ?_; rintro e w2 ⟨rfl, hE⟩; (first | (have hK := KC.step (n := w.heap.size + 3) (by with_reducible assumption) hE) | (have hK := KC.step (KC.step (n := w.heap.size + 3) (by with_reducible assumption) (ext_alloc1 _ _)) hE) | (have hK := KC.step (KC.refl (n := w.heap.size + 3) (by simp)) hE)); have hC := hK.cell; have hF := hK.fro; have hX := hK.ext)
          | (go_at_call 42; refine (HCD.out _ (by (repeat' (first | with_reducible assumption | with_reducible exact Ext.refl _ | with_reducible refine Ext.alloc ?_ _ | with_reducible refine Ext.set ?_ ?_ _ | with_reducible refine Ext.drew ?_ | with_reducible refine Ext.drewN ?_ _ | with_reducible refine Ext.trans ?_ (by assumption) | (dsimp only; omega))))).mono ?_; rintro e w2 ⟨rfl, hE⟩; (first | (have hK := KC.step (n := w.heap.size + 3) (by with_reducible assumption) hE) | (have hK := KC.step (KC.step (n := w.heap.size + 3) (by with_reducible assumption) (ext_alloc1 _ _)) hE) | (have hK := KC.step (KC.refl (n := w.heap.size + 3) (by simp)) hE)); have hC := hK.cell; have hF := hK.fro; have hX := hK.ext)
          | (go_at_call 19; refine (HPF.out _ (by (repeat' (first | with_reducible assumption | with_reducible exact Ext.refl _ | with_reducible refine Ext.alloc ?_ _ | with_reducible refine Ext.set ?_ ?_ _ | with_reducible refine Ext.drew ?_ | with_reducible refine Ext.drewN ?_ _ | with_reducible refine Ext.trans ?_ (by assumption) | (dsimp only; omega))))).mono ?_; rintro e w2 ⟨rfl, hE⟩; (first | (have hK := KC.step (n := w.heap.size + 3) (by with_reducible assumption) hE) | (have hK := KC.step (KC.step (n := w.heap.size + 3) (by with_reducible assumption) (ext_alloc1 _ _)) hE) | (have hK := KC.step (KC.refl (n := w.heap.size + 3) (by simp)) hE)); have hC := hK.cell; have hF := hK.fro; have hX := hK.ext)
          | (go_at_call 21; refine (HPU.out _ (by (repeat' (first | with_reducible assumption | with_reducible exact Ext.refl _ | with_reducible refine Ext.alloc ?_ _ | with_reducible refine Ext.set ?_ ?_ _ | with_reducible refine Ext.drew ?_ | with_reducible refine Ext.drewN ?_ _ | with_reducible refine Ext.trans ?_ (by assumption) | (dsimp only; omega))))).mono ?_; rintro e w2 ⟨rfl, hE⟩; (first | (have hK := KC.step (n := w.heap.size + 3) (by with_reducible assumption) hE) | (have hK := KC.step (KC.step (n := w.heap.size + 3) (by with_reducible assumption) (ext_alloc1 _ _)) hE) | (have hK := KC.step (KC.refl (n := w.heap.size + 3) (by simp)) hE)); have hC := hK.cell; have hF := hK.fro; have hX := hK.ext)
          | (go_at_call 45; refine (HBS.out _ (by (repeat' (first | with_reducible assumption | with_reducible exact Ext.refl _ | with_reducible refine Ext.alloc ?_ _ | with_reducible refine Ext.set ?_ ?_ _ | with_reducible refine Ext.drew ?_ | with_reducible refine Ext.drewN ?_ _ | with_reducible refine Ext.trans ?_ (by assumption) | (dsimp only; omega))))).mono ?_; rintro e w2 ⟨rfl, hE⟩; (first | (have hK := KC.step (n := w.heap.size + 3) (by with_reducible assumption) hE) | (have hK := KC.step (KC.step (n := w.heap.size + 3) (by with_reducible assumption) (ext_alloc1 _ _)) hE) | (have hK := KC.step (KC.refl (n := w.heap.size + 3) (by simp)) hE)); have hC := hK.cell; have hF := hK.fro; have hX := hK.ext))
        have HE4 := hid (show Ext w w2 by (repeat' (first | with_reducible assumption | with_reducible exact Ext.refl _ | with_reducible refine Ext.alloc ?_ _ | with_reducible refine Ext.set ?_ ?_ _ | with_reducible refine Ext.drew ?_ | with_reducible refine Ext.drewN ?_ _ | with_reducible refine Ext.trans ?_ (by assumption) | (dsimp only; omega))))
        have z4 := hK.size
        have HK2 := hid hK
        refine Calls.mono (HCP.out _ HE4.out) ?_
        rintro e w5 ⟨A5, c5, rfl, hO5, hE⟩
        have HO5 := hid hO5
        have HE5 := hid hE
        clear hO5
        (first | (have hK := KC.step (n := w.heap.size + 3) (by with_reducible assumption) hE) | (have hK := KC.step (KC.step (n := w.heap.size + 3) (by with_reducible assumption) (ext_alloc1 _ _)) hE) | (have hK := KC.step (KC.refl (n := w.heap.size + 3) (by simp)) hE)); have hC := hK.cell; have hF := hK.fro; have hX := hK.ext
        have z5 := hK.size
        have z25 := HE5.out.size
        have z50 : w.heap.size < w5.heap.size := by omega
        have z51 : w.heap.size + 1 < w5.heap.size := by omega
        have z52 : w.heap.size + 1 + 1 < w5.heap.size := by omega
        go_wp2_with (at_builtin; refine Halt.mk ?_)
        unfold Halt
        clear hC hF hX hK hE
        have R5 := hid (Blk.new w5 27 #[.int .i64 ma, .int .i64 fi, .int .i64 le, .slice A5 nf c5])
        have EU := hid (ext_alloc1 w5 (.cells #[.int .i64 ma, .int .i64 fi, .int .i64 le, .slice A5 nf c5] 27))
        obtain ⟨V, hV⟩ : ∃ V, w5.alloc (.cells #[.int .i64 ma, .int .i64 fi, .int .i64 le, .slice A5 nf c5] 27) = V := ⟨_, rfl⟩
        have zV : V.heap.size = w5.heap.size + 1 := by rw [← hV]; simp
        rw [hV] at R5 EU ⊢
        clear hV
        have OV := hid (HO5.out.ext EU.out)
        have FB := hid (show Blk (V.alloc (.cells #[.int .i64 fd, .int .i64 hl, .int .i64 hh, .int .i64 ol, .int .i64 oh] 75)) (w5.heap.size + 1) 75 #[.int .i64 fd, .int .i64 hl, .int .i64 hh, .int .i64 ol, .int .i64 oh] by rw [← zV]; exact Blk.new V _ _)
        refine wpList_app1Fl _ rfl _ _ rfl w2.heap.size (.slice A5 nf c5) fs rfl (OV.out.ext (ext_alloc1 _ _)) (w5.heap.size + 1) ⟨fd, hl, hh, ol, oh⟩ rfl FB.out (by rw [HNF.out]; omega) (by rw [World.size_alloc]; omega) ?_
        intro v6 w6 hO6 hg hvo
        have E6 := hid (show Ext w2 w6 from OV.out.extApp (HE5.out.trans EU.out) (Nat.le_refl _) hg)
        have R6 := hid ((R5.out.alloc (.cells #[.int .i64 fd, .int .i64 hl, .int .i64 hh, .int .i64 ol, .int .i64 oh] 75)).grown hg (fun x => by have := (HO5.out.block _ x.symm).2; omega))
        obtain ⟨A6, c6, hv6, -, hf6⟩ := ownFl hO6
        rw [List.length_append, HNF.out] at hv6
        simp only [List.length_cons, List.length_nil, Nat.zero_add] at hv6
        subst hv6
        have OV6 := hid hO6
        clear hO6 hg FB OV R5 EU hf6 HCP HPF HPU HBS
        have hK6 := KC.step (n := w.heap.size + 3) HK2.out E6.out
        have hC6 := hK6.cell
        have m0 : w6.cell? ⟨w.heap.size, 0, none⟩ = some (.int .i64 sh) := by rw [hC6 _ _ (by omega)]; go_simp
        have m1 : w6.cell? ⟨w.heap.size, 1, none⟩ = some (.int .i64 us) := by rw [hC6 _ _ (by omega)]; go_simp
        have m2 : w6.cell? ⟨w.heap.size, 2, none⟩ = some (.int .i64 be) := by rw [hC6 _ _ (by omega)]; go_simp
        have m3 : w6.cell? ⟨w.heap.size, 3, none⟩ = some (.slice A nw c) := by rw [hC6 _ _ (by omega)]; go_simp
        have l0 : w6.cell? ⟨w.heap.size + 1 + 1, 0, none⟩ = some (.int .i64 D) := by rw [hC6 _ _ (by omega)]; go_simp
        obtain ⟨r0, r1, r2, r3⟩ : _ ∧ _ ∧ _ ∧ _ := ⟨R6.out.cell 0, R6.out.cell 1, R6.out.cell 2, R6.out.cell 3⟩
        have rf := R6.out.fro 3
        have rz := R6.out.lt
        simp only [List.getElem?_toArray, List.getElem?_cons_zero, List.getElem?_cons_succ] at r0 r1 r2 r3
        clear hC6
        have n0 : ¬ w.heap.size = w5.heap.size := by omega
        have n1 : ¬ w.heap.size + 1 + 1 = w5.heap.size := by omega
        go_wp2_with fail
        have hne6 : (Value.slice A6 (nf + 1) c6).ownBlock ≠ some w5.heap.size := by
          intro h
          rcases hvo with h' | h'
          · rw [h'] at h
            have := (HO5.out.block _ h).2
            omega
          · rw [h'] at h
            injection h with h
            rw [World.size_alloc] at h
            omega
        have E7 := hid (show Ext w2 (w6.setCell ⟨w5.heap.size, 3, none⟩ (.slice A6 (nf + 1) c6)) from E6.out.set (p := ⟨w5.heap.size, 3, none⟩) (by dsimp only; omega) _)
        have R7 := hid (show Blk (w6.setCell ⟨w5.heap.size, 3, none⟩ (.slice A6 (nf + 1) c6)) w5.heap.size 27 #[.int .i64 ma, .int .i64 fi, .int .i64 le, .slice A6 (nf + 1) c6] by have h := R6.out.setAt 3 (.slice A6 (nf + 1) c6); simp only [List.setIfInBounds_toArray, List.set_cons_zero, List.set_cons_succ] at h; exact h)
        have OV7 := OV6.out.otherNe (p := ⟨w5.heap.size, 3, none⟩) hne6 (.slice A6 (nf + 1) c6)
        obtain ⟨A7, c7, hv7, -, hf7⟩ := ownFl OV7
        have hA7 : A6 = A7 := by injection hv7
        subst hA7
        have HF7 := hid hf7
        clear hf7 hv7 OV7 hne6 hvo OV6 R6 E6 HO5 m0 m1 m2 m3 l0 r0 r1 r2 r3 rf hK6 c7
        obtain ⟨w7, hw7⟩ : ∃ w7, w6.setCell ⟨w5.heap.size, 3, none⟩ (.slice A6 (nf + 1) c6) = w7 := ⟨_, rfl⟩
        rw [hw7] at E7 R7 HF7 ⊢
        clear hw7
        have hK7 := KC.step (n := w.heap.size + 3) HK2.out E7.out
        have hC7 := hK7.cell
        have m0 : w7.cell? ⟨w.heap.size, 0, none⟩ = some (.int .i64 sh) := by rw [hC7 _ _ (by omega)]; go_simp
        have m1 : w7.cell? ⟨w.heap.size, 1, none⟩ = some (.int .i64 us) := by rw [hC7 _ _ (by omega)]; go_simp
        have m2 : w7.cell? ⟨w.heap.size, 2, none⟩ = some (.int .i64 be) := by rw [hC7 _ _ (by omega)]; go_simp
        have m3 : w7.cell? ⟨w.heap.size, 3, none⟩ = some (.slice A nw c) := by rw [hC7 _ _ (by omega)]; go_simp
        have l0 : w7.cell? ⟨w.heap.size + 1 + 1, 0, none⟩ = some (.int .i64 D) := by rw [hC7 _ _ (by omega)]; go_simp
        obtain ⟨r0, r1, r2, r3⟩ : _ ∧ _ ∧ _ ∧ _ := ⟨R7.out.cell 0, R7.out.cell 1, R7.out.cell 2, R7.out.cell 3⟩
        have rz := R7.out.lt
        simp only [List.getElem?_toArray, List.getElem?_cons_zero, List.getElem?_cons_succ] at r0 r1 r2 r3
        have y0 : w.heap.size < w7.heap.size := by omega
        have y2 : w.heap.size + 1 + 1 < w7.heap.size := by omega
        obtain ⟨HC8, HP8, HU8⟩ := HMR.out A6 c6 w7 (HE4.out.trans E7.out) HF7.out
        replace HC8 := hid HC8
        replace HP8 := hid HP8
        replace HU8 := hid HU8
        have HE7 := hid (HE4.out.trans E7.out)
        clear hC7 hK7 R7 HF7 HMR HK2 E7 HE5 HE4 n0 n1 z4 z5 z25 z50 z51 z52 zV HCD HFR HNF
        refine Calls.mono (HC8.out _ (Ext.refl _)) ?_
        rintro e w8 ⟨rfl, hE⟩
        (first | (have hK := KC.step (n := w7.heap.size) (by with_reducible assumption) hE) | (have hK := KC.step (KC.step (n := w7.heap.size) (by with_reducible assumption) (ext_alloc1 _ _)) hE) | (have hK := KC.step (KC.refl (n := w7.heap.size) (by simp)) hE)); have hC := hK.cell; have hF := hK.fro; have hX := hK.ext
        by_cases h2 : E2 = 0
        case neg =>
          have hne2 : (E2 != 0) = true := by simp [h2]
          clear HMF HTK
          go_wp2_with (go_at_call 14; refine (HWK.out _).mono ?_; rintro e w2 ⟨rfl, hE⟩; (first | (have hK := KC.step (n := w7.heap.size) (by with_reducible assumption) hE) | (have hK := KC.step (KC.step (n := w7.heap.size) (by with_reducible assumption) (ext_alloc1 _ _)) hE) | (have hK := KC.step (KC.refl (n := w7.heap.size) (by simp)) hE)); have hC := hK.cell; have hF := hK.fro; have hX := hK.ext)
          go_ret
          exact ⟨rfl, HE7.out.trans (by (repeat' (first | with_reducible assumption | with_reducible exact Ext.refl _ | with_reducible refine Ext.alloc ?_ _ | with_reducible refine Ext.set ?_ ?_ _ | with_reducible refine Ext.drew ?_ | with_reducible refine Ext.drewN ?_ _ | with_reducible refine Ext.trans ?_ (by assumption) | (dsimp only; omega))))⟩
        subst h2
        obtain ⟨h31, hmx⟩ := HMF.out rfl
        have ht2 := HTK.out rfl
        subst ht2
        clear HMF HTK
        have hm2 : U2 ≤ -1 := by omega
        clear hmx
        cases S3
        case false =>
          go_wp2_with (first
            | (go_at_call 19; refine (HP8.out _ (by (repeat' (first | with_reducible assumption | with_reducible exact Ext.refl _ | with_reducible refine Ext.alloc ?_ _ | with_reducible refine Ext.set ?_ ?_ _ | with_reducible refine Ext.drew ?_ | with_reducible refine Ext.drewN ?_ _ | with_reducible refine Ext.trans ?_ (by assumption) | (dsimp only; omega))))).mono ?_; rintro e w2 ⟨rfl, hE⟩; (first | (have hK := KC.step (n := w7.heap.size) (by with_reducible assumption) hE) | (have hK := KC.step (KC.step (n := w7.heap.size) (by with_reducible assumption) (ext_alloc1 _ _)) hE) | (have hK := KC.step (KC.refl (n := w7.heap.size) (by simp)) hE)); have hC := hK.cell; have hF := hK.fro; have hX := hK.ext)
            | (go_at_call 21; refine (HU8.out _ (by (repeat' (first | with_reducible assumption | with_reducible exact Ext.refl _ | with_reducible refine Ext.alloc ?_ _ | with_reducible refine Ext.set ?_ ?_ _ | with_reducible refine Ext.drew ?_ | with_reducible refine Ext.drewN ?_ _ | with_reducible refine Ext.trans ?_ (by assumption) | (dsimp only; omega))))).mono ?_; rintro e w2 ⟨rfl, hE⟩; (first | (have hK := KC.step (n := w7.heap.size) (by with_reducible assumption) hE) | (have hK := KC.step (KC.step (n := w7.heap.size) (by with_reducible assumption) (ext_alloc1 _ _)) hE) | (have hK := KC.step (KC.refl (n := w7.heap.size) (by simp)) hE)); have hC := hK.cell; have hF := hK.fro; have hX := hK.ext)
            | (go_at_call 14; refine (HWK.out _).mono ?_; rintro e w2 ⟨rfl, hE⟩; (first | (have hK := KC.step (n := w7.heap.size) (by with_reducible assumption) hE) | (have hK := KC.step (KC.step (n := w7.heap.size) (by with_reducible assumption) (ext_alloc1 _ _)) hE) | (have hK := KC.step (KC.refl (n := w7.heap.size) (by simp)) hE)); have hC := hK.cell; have hF := hK.fro; have hX := hK.ext))
          all_goals (go_ret; exact ⟨ret_bool (by simp [*]), HE7.out.trans (by (repeat' (first | with_reducible assumption | with_reducible exact Ext.refl _ | with_reducible refine Ext.alloc ?_ _ | with_reducible refine Ext.set ?_ ?_ _ | with_reducible refine Ext.drew ?_ | with_reducible refine Ext.drewN ?_ _ | with_reducible refine Ext.trans ?_ (by assumption) | (dsimp only; omega))))⟩)
        have h1 := h31 rfl
        clear h31
        first | (exfalso; exact absurd h1 (by decide)) | (subst h1; go_wp2_with (first | (go_at_call 19; refine (HP8.out _ (by (repeat' (first | with_reducible assumption | with_reducible exact Ext.refl _ | with_reducible refine Ext.alloc ?_ _ | with_reducible refine Ext.set ?_ ?_ _ | with_reducible refine Ext.drew ?_ | with_reducible refine Ext.drewN ?_ _ | with_reducible refine Ext.trans ?_ (by assumption) | (dsimp only; omega))))).mono ?_; rintro e w2 ⟨rfl, hE⟩; (first | (have hK := KC.step (n := w7.heap.size) (by with_reducible assumption) hE) | (have hK := KC.step (KC.step (n := w7.heap.size) (by with_reducible assumption) (ext_alloc1 _ _)) hE) | (have hK := KC.step (KC.refl (n := w7.heap.size) (by simp)) hE)); have hC := hK.cell; have hF := hK.fro; have hX := hK.ext) | (go_at_call 21; refine (HU8.out _ (by (repeat' (first | with_reducible assumption | with_reducible exact Ext.refl _ | with_reducible refine Ext.alloc ?_ _ | with_reducible refine Ext.set ?_ ?_ _ | with_reducible refine Ext.drew ?_ | with_reducible refine Ext.drewN ?_ _ | with_reducible refine Ext.trans ?_ (by assumption) | (dsimp only; omega))))).mono ?_; rintro e w2 ⟨rfl, hE⟩; (first | (have hK := KC.step (n := w7.heap.size) (by with_reducible assumption) hE) | (have hK := KC.step (KC.step (n := w7.heap.size) (by with_reducible assumption) (ext_alloc1 _ _)) hE) | (have hK := KC.step (KC.refl (n := w7.heap.size) (by simp)) hE)); have hC := hK.cell; have hF := hK.fro; have hX := hK.ext) | (go_at_call 14; refine (HWK.out _).mono ?_; rintro e w2 ⟨rfl, hE⟩; (first | (have hK := KC.step (n := w7.heap.size) (by with_reducible assumption) hE) | (have hK := KC.step (KC.step (n := w7.heap.size) (by with_reducible assumption) (ext_alloc1 _ _)) hE) | (have hK := KC.step (KC.refl (n := w7.heap.size) (by simp)) hE)); have hC := hK.cell; have hF := hK.fro; have hX := hK.ext)); all_goals (go_ret; exact ⟨ret_bool (by simp [*]), HE7.out.trans (by (repeat' (first | with_reducible assumption | with_reducible exact Ext.refl _ | with_reducible refine Ext.alloc ?_ _ | with_reducible refine Ext.set ?_ ?_ _ | with_reducible refine Ext.drew ?_ | with_reducible refine Ext.drewN ?_ _ | with_reducible refine Ext.trans ?_ (by assumption) | (dsimp only; omega))))⟩)) | (clear h1; go_wp2_with (first | (go_at_call 19; refine (HP8.out _ (by (repeat' (first | with_reducible assumption | with_reducible exact Ext.refl _ | with_reducible refine Ext.alloc ?_ _ | with_reducible refine Ext.set ?_ ?_ _ | with_reducible refine Ext.drew ?_ | with_reducible refine Ext.drewN ?_ _ | with_reducible refine Ext.trans ?_ (by assumption) | (dsimp only; omega))))).mono ?_; rintro e w2 ⟨rfl, hE⟩; (first | (have hK := KC.step (n := w7.heap.size) (by with_reducible assumption) hE) | (have hK := KC.step (KC.step (n := w7.heap.size) (by with_reducible assumption) (ext_alloc1 _ _)) hE) | (have hK := KC.step (KC.refl (n := w7.heap.size) (by simp)) hE)); have hC := hK.cell; have hF := hK.fro; have hX := hK.ext) | (go_at_call 21; refine (HU8.out _ (by (repeat' (first | with_reducible assumption | with_reducible exact Ext.refl _ | with_reducible refine Ext.alloc ?_ _ | with_reducible refine Ext.set ?_ ?_ _ | with_reducible refine Ext.drew ?_ | with_reducible refine Ext.drewN ?_ _ | with_reducible refine Ext.trans ?_ (by assumption) | (dsimp only; omega))))).mono ?_; rintro e w2 ⟨rfl, hE⟩; (first | (have hK := KC.step (n := w7.heap.size) (by with_reducible assumption) hE) | (have hK := KC.step (KC.step (n := w7.heap.size) (by with_reducible assumption) (ext_alloc1 _ _)) hE) | (have hK := KC.step (KC.refl (n := w7.heap.size) (by simp)) hE)); have hC := hK.cell; have hF := hK.fro; have hX := hK.ext) | (go_at_call 14; refine (HWK.out _).mono ?_; rintro e w2 ⟨rfl, hE⟩; (first | (have hK := KC.step (n := w7.heap.size) (by with_reducible assumption) hE) | (have hK := KC.step (KC.step (n := w7.heap.size) (by with_reducible assumption) (ext_alloc1 _ _)) hE) | (have hK := KC.step (KC.refl (n := w7.heap.size) (by simp)) hE)); have hC := hK.cell; have hF := hK.fro; have hX := hK.ext)); all_goals (go_ret; exact ⟨ret_bool (by simp [*]), HE7.out.trans (by (repeat' (first | with_reducible assumption | with_reducible exact Ext.refl _ | with_reducible refine Ext.alloc ?_ _ | with_reducible refine Ext.set ?_ ?_ _ | with_reducible refine Ext.drew ?_ | with_reducible refine Ext.drewN ?_ _ | with_reducible refine Ext.trans ?_ (by assumption) | (dsimp only; omega))))⟩))
    · clear hFU
      go_enter Tryz.func8, Tryz.ntmps8
      go_wp2_with (first
        | (go_at_call 13; refine (HFR.out _).mono ?_; rintro e w2 ⟨rfl, hE⟩; (first | (have hK := KC.step (n := w.heap.size + 3) (by with_reducible assumption) hE) | (have hK := KC.step (KC.step (n := w.heap.size + 3) (by with_reducible assumption) (ext_alloc1 _ _)) hE) | (have hK := KC.step (KC.refl (n := w.heap.size + 3) (by simp)) hE)); have hC := hK.cell; have hF := hK.fro; have hX := hK.ext)
        | (go_at_call 42; refine (HCD.out _ (by (repeat' (first | with_reducible assumption | with_reducible exact Ext.refl _ | with_reducible refine Ext.alloc ?_ _ | with_reducible refine Ext.set ?_ ?_ _ | with_reducible refine Ext.drew ?_ | with_reducible refine Ext.drewN ?_ _ | with_reducible refine Ext.trans ?_ (by assumption) | (dsimp only; omega))))).mono ?_; rintro e w2 ⟨rfl, hE⟩; (first | (have hK := KC.step (n := w.heap.size + 3) (by with_reducible assumption) hE) | (have hK := KC.step (KC.step (n := w.heap.size + 3) (by with_reducible assumption) (ext_alloc1 _ _)) hE) | (have hK := KC.step (KC.refl (n := w.heap.size + 3) (by simp)) hE)); have hC := hK.cell; have hF := hK.fro; have hX := hK.ext)
        | (go_at_call 19; refine (HPF.out _ (by (repeat' (first | with_reducible assumption | with_reducible exact Ext.refl _ | with_reducible refine Ext.alloc ?_ _ | with_reducible refine Ext.set ?_ ?_ _ | with_reducible refine Ext.drew ?_ | with_reducible refine Ext.drewN ?_ _ | with_reducible refine Ext.trans ?_ (by assumption) | (dsimp only; omega))))).mono ?_; rintro e w2 ⟨rfl, hE⟩; (first | (have hK := KC.step (n := w.heap.size + 3) (by with_reducible assumption) hE) | (have hK := KC.step (KC.step (n := w.heap.size + 3) (by with_reducible assumption) (ext_alloc1 _ _)) hE) | (have hK := KC.step (KC.refl (n := w.heap.size + 3) (by simp)) hE)); have hC := hK.cell; have hF := hK.fro; have hX := hK.ext)
        | (go_at_call 21; refine (HPU.out _ (by (repeat' (first | with_reducible assumption | with_reducible exact Ext.refl _ | with_reducible refine Ext.alloc ?_ _ | with_reducible refine Ext.set ?_ ?_ _ | with_reducible refine Ext.drew ?_ | with_reducible refine Ext.drewN ?_ _ | with_reducible refine Ext.trans ?_ (by assumption) | (dsimp only; omega))))).mono ?_; rintro e w2 ⟨rfl, hE⟩; (first | (have hK := KC.step (n := w.heap.size + 3) (by with_reducible assumption) hE) | (have hK := KC.step (KC.step (n := w.heap.size + 3) (by with_reducible assumption) (ext_alloc1 _ _)) hE) | (have hK := KC.step (KC.refl (n := w.heap.size + 3) (by simp)) hE)); have hC := hK.cell; have hF := hK.fro; have hX := hK.ext)
        | (go_at_call 45; refine (HBS.out _ (by (repeat' (first | with_reducible assumption | with_reducible exact Ext.refl _ | with_reducible refine Ext.alloc ?_ _ | with_reducible refine Ext.set ?_ ?_ _ | with_reducible refine Ext.drew ?_ | with_reducible refine Ext.drewN ?_ _ | with_reducible refine Ext.trans ?_ (by assumption) | (dsimp only; omega))))).mono ?_; rintro e w2 ⟨rfl, hE⟩; (first | (have hK := KC.step (n := w.heap.size + 3) (by with_reducible assumption) hE) | (have hK := KC.step (KC.step (n := w.heap.size + 3) (by with_reducible assumption) (ext_alloc1 _ _)) hE) | (have hK := KC.step (KC.refl (n := w.heap.size + 3) (by simp)) hE)); have hC := hK.cell; have hF := hK.fro; have hX := hK.ext))
      have HE4 := hid (show Ext w w2 by (repeat' (first | with_reducible assumption | with_reducible exact Ext.refl _ | with_reducible refine Ext.alloc ?_ _ | with_reducible refine Ext.set ?_ ?_ _ | with_reducible refine Ext.drew ?_ | with_reducible refine Ext.drewN ?_ _ | with_reducible refine Ext.trans ?_ (by assumption) | (dsimp only; omega))))
      have z4 := hK.size
      have HK2 := hid hK
      refine Calls.mono (HCP.out _ HE4.out) ?_
      rintro e w5 ⟨A5, c5, rfl, hO5, hE⟩
      have HO5 := hid hO5
      have HE5 := hid hE
      clear hO5
      (first | (have hK := KC.step (n := w.heap.size + 3) (by with_reducible assumption) hE) | (have hK := KC.step (KC.step (n := w.heap.size + 3) (by with_reducible assumption) (ext_alloc1 _ _)) hE) | (have hK := KC.step (KC.refl (n := w.heap.size + 3) (by simp)) hE)); have hC := hK.cell; have hF := hK.fro; have hX := hK.ext
      have z5 := hK.size
      have z25 := HE5.out.size
      have z50 : w.heap.size < w5.heap.size := by omega
      have z51 : w.heap.size + 1 < w5.heap.size := by omega
      have z52 : w.heap.size + 1 + 1 < w5.heap.size := by omega
      go_wp2_with (at_builtin; refine Halt.mk ?_)
      unfold Halt
      clear hC hF hX hK hE
      have R5 := hid (Blk.new w5 27 #[.int .i64 ma, .int .i64 fi, .int .i64 le, .slice A5 nf c5])
      have EU := hid (ext_alloc1 w5 (.cells #[.int .i64 ma, .int .i64 fi, .int .i64 le, .slice A5 nf c5] 27))
      obtain ⟨V, hV⟩ : ∃ V, w5.alloc (.cells #[.int .i64 ma, .int .i64 fi, .int .i64 le, .slice A5 nf c5] 27) = V := ⟨_, rfl⟩
      have zV : V.heap.size = w5.heap.size + 1 := by rw [← hV]; simp
      rw [hV] at R5 EU ⊢
      clear hV
      have OV := hid (HO5.out.ext EU.out)
      have FB := hid (show Blk (V.alloc (.cells #[.int .i64 fd, .int .i64 hl, .int .i64 hh, .int .i64 ol, .int .i64 oh] 75)) (w5.heap.size + 1) 75 #[.int .i64 fd, .int .i64 hl, .int .i64 hh, .int .i64 ol, .int .i64 oh] by rw [← zV]; exact Blk.new V _ _)
      refine wpList_app1Fl _ rfl _ _ rfl w2.heap.size (.slice A5 nf c5) fs rfl (OV.out.ext (ext_alloc1 _ _)) (w5.heap.size + 1) ⟨fd, hl, hh, ol, oh⟩ rfl FB.out (by rw [HNF.out]; omega) (by rw [World.size_alloc]; omega) ?_
      intro v6 w6 hO6 hg hvo
      have E6 := hid (show Ext w2 w6 from OV.out.extApp (HE5.out.trans EU.out) (Nat.le_refl _) hg)
      have R6 := hid ((R5.out.alloc (.cells #[.int .i64 fd, .int .i64 hl, .int .i64 hh, .int .i64 ol, .int .i64 oh] 75)).grown hg (fun x => by have := (HO5.out.block _ x.symm).2; omega))
      obtain ⟨A6, c6, hv6, -, hf6⟩ := ownFl hO6
      rw [List.length_append, HNF.out] at hv6
      simp only [List.length_cons, List.length_nil, Nat.zero_add] at hv6
      subst hv6
      have OV6 := hid hO6
      clear hO6 hg FB OV R5 EU hf6 HCP HPF HPU HBS
      have hK6 := KC.step (n := w.heap.size + 3) HK2.out E6.out
      have hC6 := hK6.cell
      have m0 : w6.cell? ⟨w.heap.size, 0, none⟩ = some (.int .i64 sh) := by rw [hC6 _ _ (by omega)]; go_simp
      have m1 : w6.cell? ⟨w.heap.size, 1, none⟩ = some (.int .i64 us) := by rw [hC6 _ _ (by omega)]; go_simp
      have m2 : w6.cell? ⟨w.heap.size, 2, none⟩ = some (.int .i64 be) := by rw [hC6 _ _ (by omega)]; go_simp
      have m3 : w6.cell? ⟨w.heap.size, 3, none⟩ = some (.slice A nw c) := by rw [hC6 _ _ (by omega)]; go_simp
      have l0 : w6.cell? ⟨w.heap.size + 1 + 1, 0, none⟩ = some (.int .i64 D) := by rw [hC6 _ _ (by omega)]; go_simp
      obtain ⟨r0, r1, r2, r3⟩ : _ ∧ _ ∧ _ ∧ _ := ⟨R6.out.cell 0, R6.out.cell 1, R6.out.cell 2, R6.out.cell 3⟩
      have rf := R6.out.fro 3
      have rz := R6.out.lt
      simp only [List.getElem?_toArray, List.getElem?_cons_zero, List.getElem?_cons_succ] at r0 r1 r2 r3
      clear hC6
      have n0 : ¬ w.heap.size = w5.heap.size := by omega
      have n1 : ¬ w.heap.size + 1 + 1 = w5.heap.size := by omega
      go_wp2_with fail
      have hne6 : (Value.slice A6 (nf + 1) c6).ownBlock ≠ some w5.heap.size := by
        intro h
        rcases hvo with h' | h'
        · rw [h'] at h
          have := (HO5.out.block _ h).2
          omega
        · rw [h'] at h
          injection h with h
          rw [World.size_alloc] at h
          omega
      have E7 := hid (show Ext w2 (w6.setCell ⟨w5.heap.size, 3, none⟩ (.slice A6 (nf + 1) c6)) from E6.out.set (p := ⟨w5.heap.size, 3, none⟩) (by dsimp only; omega) _)
      have R7 := hid (show Blk (w6.setCell ⟨w5.heap.size, 3, none⟩ (.slice A6 (nf + 1) c6)) w5.heap.size 27 #[.int .i64 ma, .int .i64 fi, .int .i64 le, .slice A6 (nf + 1) c6] by have h := R6.out.setAt 3 (.slice A6 (nf + 1) c6); simp only [List.setIfInBounds_toArray, List.set_cons_zero, List.set_cons_succ] at h; exact h)
      have OV7 := OV6.out.otherNe (p := ⟨w5.heap.size, 3, none⟩) hne6 (.slice A6 (nf + 1) c6)
      obtain ⟨A7, c7, hv7, -, hf7⟩ := ownFl OV7
      have hA7 : A6 = A7 := by injection hv7
      subst hA7
      have HF7 := hid hf7
      clear hf7 hv7 OV7 hne6 hvo OV6 R6 E6 HO5 m0 m1 m2 m3 l0 r0 r1 r2 r3 rf hK6 c7
      obtain ⟨w7, hw7⟩ : ∃ w7, w6.setCell ⟨w5.heap.size, 3, none⟩ (.slice A6 (nf + 1) c6) = w7 := ⟨_, rfl⟩
      rw [hw7] at E7 R7 HF7 ⊢
      clear hw7
      have hK7 := KC.step (n := w.heap.size + 3) HK2.out E7.out
      have hC7 := hK7.cell
      have m0 : w7.cell? ⟨w.heap.size, 0, none⟩ = some (.int .i64 sh) := by rw [hC7 _ _ (by omega)]; go_simp
      have m1 : w7.cell? ⟨w.heap.size, 1, none⟩ = some (.int .i64 us) := by rw [hC7 _ _ (by omega)]; go_simp
      have m2 : w7.cell? ⟨w.heap.size, 2, none⟩ = some (.int .i64 be) := by rw [hC7 _ _ (by omega)]; go_simp
      have m3 : w7.cell? ⟨w.heap.size, 3, none⟩ = some (.slice A nw c) := by rw [hC7 _ _ (by omega)]; go_simp
      have l0 : w7.cell? ⟨w.heap.size + 1 + 1, 0, none⟩ = some (.int .i64 D) := by rw [hC7 _ _ (by omega)]; go_simp
      obtain ⟨r0, r1, r2, r3⟩ : _ ∧ _ ∧ _ ∧ _ := ⟨R7.out.cell 0, R7.out.cell 1, R7.out.cell 2, R7.out.cell 3⟩
      have rz := R7.out.lt
      simp only [List.getElem?_toArray, List.getElem?_cons_zero, List.getElem?_cons_succ] at r0 r1 r2 r3
      have y0 : w.heap.size < w7.heap.size := by omega
      have y2 : w.heap.size + 1 + 1 < w7.heap.size := by omega
      obtain ⟨HC8, HP8, HU8⟩ := HMR.out A6 c6 w7 (HE4.out.trans E7.out) HF7.out
      replace HC8 := hid HC8
      replace HP8 := hid HP8
      replace HU8 := hid HU8
      have HE7 := hid (HE4.out.trans E7.out)
      clear hC7 hK7 R7 HF7 HMR HK2 E7 HE5 HE4 n0 n1 z4 z5 z25 z50 z51 z52 zV HCD HFR HNF
      refine Calls.mono (HC8.out _ (Ext.refl _)) ?_
      rintro e w8 ⟨rfl, hE⟩
      (first | (have hK := KC.step (n := w7.heap.size) (by with_reducible assumption) hE) | (have hK := KC.step (KC.step (n := w7.heap.size) (by with_reducible assumption) (ext_alloc1 _ _)) hE) | (have hK := KC.step (KC.refl (n := w7.heap.size) (by simp)) hE)); have hC := hK.cell; have hF := hK.fro; have hX := hK.ext
      by_cases h2 : E2 = 0
      case neg =>
        have hne2 : (E2 != 0) = true := by simp [h2]
        clear HMF HTK
        go_wp2_with (go_at_call 14; refine (HWK.out _).mono ?_; rintro e w2 ⟨rfl, hE⟩; (first | (have hK := KC.step (n := w7.heap.size) (by with_reducible assumption) hE) | (have hK := KC.step (KC.step (n := w7.heap.size) (by with_reducible assumption) (ext_alloc1 _ _)) hE) | (have hK := KC.step (KC.refl (n := w7.heap.size) (by simp)) hE)); have hC := hK.cell; have hF := hK.fro; have hX := hK.ext)
        go_ret
        exact ⟨rfl, HE7.out.trans (by (repeat' (first | with_reducible assumption | with_reducible exact Ext.refl _ | with_reducible refine Ext.alloc ?_ _ | with_reducible refine Ext.set ?_ ?_ _ | with_reducible refine Ext.drew ?_ | with_reducible refine Ext.drewN ?_ _ | with_reducible refine Ext.trans ?_ (by assumption) | (dsimp only; omega))))⟩
      subst h2
      obtain ⟨h31, hmx⟩ := HMF.out rfl
      have ht2 := HTK.out rfl
      subst ht2
      clear HMF HTK
      have hm2 : U2 ≤ -1 := by omega
      clear hmx
      cases S3
      case false =>
        go_wp2_with (first
          | (go_at_call 19; refine (HP8.out _ (by (repeat' (first | with_reducible assumption | with_reducible exact Ext.refl _ | with_reducible refine Ext.alloc ?_ _ | with_reducible refine Ext.set ?_ ?_ _ | with_reducible refine Ext.drew ?_ | with_reducible refine Ext.drewN ?_ _ | with_reducible refine Ext.trans ?_ (by assumption) | (dsimp only; omega))))).mono ?_; rintro e w2 ⟨rfl, hE⟩; (first | (have hK := KC.step (n := w7.heap.size) (by with_reducible assumption) hE) | (have hK := KC.step (KC.step (n := w7.heap.size) (by with_reducible assumption) (ext_alloc1 _ _)) hE) | (have hK := KC.step (KC.refl (n := w7.heap.size) (by simp)) hE)); have hC := hK.cell; have hF := hK.fro; have hX := hK.ext)
          | (go_at_call 21; refine (HU8.out _ (by (repeat' (first | with_reducible assumption | with_reducible exact Ext.refl _ | with_reducible refine Ext.alloc ?_ _ | with_reducible refine Ext.set ?_ ?_ _ | with_reducible refine Ext.drew ?_ | with_reducible refine Ext.drewN ?_ _ | with_reducible refine Ext.trans ?_ (by assumption) | (dsimp only; omega))))).mono ?_; rintro e w2 ⟨rfl, hE⟩; (first | (have hK := KC.step (n := w7.heap.size) (by with_reducible assumption) hE) | (have hK := KC.step (KC.step (n := w7.heap.size) (by with_reducible assumption) (ext_alloc1 _ _)) hE) | (have hK := KC.step (KC.refl (n := w7.heap.size) (by simp)) hE)); have hC := hK.cell; have hF := hK.fro; have hX := hK.ext)
          | (go_at_call 14; refine (HWK.out _).mono ?_; rintro e w2 ⟨rfl, hE⟩; (first | (have hK := KC.step (n := w7.heap.size) (by with_reducible assumption) hE) | (have hK := KC.step (KC.step (n := w7.heap.size) (by with_reducible assumption) (ext_alloc1 _ _)) hE) | (have hK := KC.step (KC.refl (n := w7.heap.size) (by simp)) hE)); have hC := hK.cell; have hF := hK.fro; have hX := hK.ext))
        all_goals (go_ret; exact ⟨ret_bool (by simp [*]), HE7.out.trans (by (repeat' (first | with_reducible assumption | with_reducible exact Ext.refl _ | with_reducible refine Ext.alloc ?_ _ | with_reducible refine Ext.set ?_ ?_ _ | with_reducible refine Ext.drew ?_ | with_reducible refine Ext.drewN ?_ _ | with_reducible refine Ext.trans ?_ (by assumption) | (dsimp only; omega))))⟩)
      have h1 := h31 rfl
      clear h31
      first | (exfalso; exact absurd h1 (by decide)) | (subst h1; go_wp2_with (first | (go_at_call 19; refine (HP8.out _ (by (repeat' (first | with_reducible assumption | with_reducible exact Ext.refl _ | with_reducible refine Ext.alloc ?_ _ | with_reducible refine Ext.set ?_ ?_ _ | with_reducible refine Ext.drew ?_ | with_reducible refine Ext.drewN ?_ _ | with_reducible refine Ext.trans ?_ (by assumption) | (dsimp only; omega))))).mono ?_; rintro e w2 ⟨rfl, hE⟩; (first | (have hK := KC.step (n := w7.heap.size) (by with_reducible assumption) hE) | (have hK := KC.step (KC.step (n := w7.heap.size) (by with_reducible assumption) (ext_alloc1 _ _)) hE) | (have hK := KC.step (KC.refl (n := w7.heap.size) (by simp)) hE)); have hC := hK.cell; have hF := hK.fro; have hX := hK.ext) | (go_at_call 21; refine (HU8.out _ (by (repeat' (first | with_reducible assumption | with_reducible exact Ext.refl _ | with_reducible refine Ext.alloc ?_ _ | with_reducible refine Ext.set ?_ ?_ _ | with_reducible refine Ext.drew ?_ | with_reducible refine Ext.drewN ?_ _ | with_reducible refine Ext.trans ?_ (by assumption) | (dsimp only; omega))))).mono ?_; rintro e w2 ⟨rfl, hE⟩; (first | (have hK := KC.step (n := w7.heap.size) (by with_reducible assumption) hE) | (have hK := KC.step (KC.step (n := w7.heap.size) (by with_reducible assumption) (ext_alloc1 _ _)) hE) | (have hK := KC.step (KC.refl (n := w7.heap.size) (by simp)) hE)); have hC := hK.cell; have hF := hK.fro; have hX := hK.ext) | (go_at_call 14; refine (HWK.out _).mono ?_; rintro e w2 ⟨rfl, hE⟩; (first | (have hK := KC.step (n := w7.heap.size) (by with_reducible assumption) hE) | (have hK := KC.step (KC.step (n := w7.heap.size) (by with_reducible assumption) (ext_alloc1 _ _)) hE) | (have hK := KC.step (KC.refl (n := w7.heap.size) (by simp)) hE)); have hC := hK.cell; have hF := hK.fro; have hX := hK.ext)); all_goals (go_ret; exact ⟨ret_bool (by simp [*]), HE7.out.trans (by (repeat' (first | with_reducible assumption | with_reducible exact Ext.refl _ | with_reducible refine Ext.alloc ?_ _ | with_reducible refine Ext.set ?_ ?_ _ | with_reducible refine Ext.drew ?_ | with_reducible refine Ext.drewN ?_ _ | with_reducible refine Ext.trans ?_ (by assumption) | (dsimp only; omega))))⟩)) | (clear h1; go_wp2_with (first | (go_at_call 19; refine (HP8.out _ (by (repeat' (first | with_reducible assumption | with_reducible exact Ext.refl _ | with_reducible refine Ext.alloc ?_ _ | with_reducible refine Ext.set ?_ ?_ _ | with_reducible refine Ext.drew ?_ | with_reducible refine Ext.drewN ?_ _ | with_reducible refine Ext.trans ?_ (by assumption) | (dsimp only; omega))))).mono ?_; rintro e w2 ⟨rfl, hE⟩; (first | (have hK := KC.step (n := w7.heap.size) (by with_reducible assumption) hE) | (have hK := KC.step (KC.step (n := w7.heap.size) (by with_reducible assumption) (ext_alloc1 _ _)) hE) | (have hK := KC.step (KC.refl (n := w7.heap.size) (by simp)) hE)); have hC := hK.cell; have hF := hK.fro; have hX := hK.ext) | (go_at_call 21; refine (HU8.out _ (by (repeat' (first | with_reducible assumption | with_reducible exact Ext.refl _ | with_reducible refine Ext.alloc ?_ _ | with_reducible refine Ext.set ?_ ?_ _ | with_reducible refine Ext.drew ?_ | with_reducible refine Ext.drewN ?_ _ | with_reducible refine Ext.trans ?_ (by assumption) | (dsimp only; omega))))).mono ?_; rintro e w2 ⟨rfl, hE⟩; (first | (have hK := KC.step (n := w7.heap.size) (by with_reducible assumption) hE) | (have hK := KC.step (KC.step (n := w7.heap.size) (by with_reducible assumption) (ext_alloc1 _ _)) hE) | (have hK := KC.step (KC.refl (n := w7.heap.size) (by simp)) hE)); have hC := hK.cell; have hF := hK.fro; have hX := hK.ext) | (go_at_call 14; refine (HWK.out _).mono ?_; rintro e w2 ⟨rfl, hE⟩; (first | (have hK := KC.step (n := w7.heap.size) (by with_reducible assumption) hE) | (have hK := KC.step (KC.step (n := w7.heap.size) (by with_reducible assumption) (ext_alloc1 _ _)) hE) | (have hK := KC.step (KC.refl (n := w7.heap.size) (by simp)) hE)); have hC := hK.cell; have hF := hK.fro; have hX := hK.ext)); all_goals (go_ret; exact ⟨ret_bool (by simp [*]), HE7.out.trans (by (repeat' (first | with_reducible assumption | with_reducible exact Ext.refl _ | with_reducible refine Ext.alloc ?_ _ | with_reducible refine Ext.set ?_ ?_ _ | with_reducible refine Ext.drew ?_ | with_reducible refine Ext.drewN ?_ _ | with_reducible refine Ext.trans ?_ (by assumption) | (dsimp only; omega))))⟩))
  · have hu2 : ¬ U < LN := by omega
    have hu3 : ¬ 99999 < U := by omega
    clear hU
    by_cases hb : LN ≤ D
    · have hs := hFU hb
      clear hFU
      subst hs
      by_cases hd : D ≤ U
      · rw [decide_eq_true hd] at *
        go_enter Tryz.func8, Tryz.ntmps8
        go_wp2_with (first
          | (go_at_call 13; refine (HFR.out _).mono ?_; rintro e w2 ⟨rfl, hE⟩; (first | (have hK := KC.step (n := w.heap.size + 3) (by with_reducible assumption) hE) | (have hK := KC.step (KC.step (n := w.heap.size + 3) (by with_reducible assumption) (ext_alloc1 _ _)) hE) | (have hK := KC.step (KC.refl (n := w.heap.size + 3) (by simp)) hE)); have hC := hK.cell; have hF := hK.fro; have hX := hK.ext)
          | (go_at_call 42; refine (HCD.out _ (by (repeat' (first | with_reducible assumption | with_reducible exact Ext.refl _ | with_reducible refine Ext.alloc ?_ _ | with_reducible refine Ext.set ?_ ?_ _ | with_reducible refine Ext.drew ?_ | with_reducible refine Ext.drewN ?_ _ | with_reducible refine Ext.trans ?_ (by assumption) | (dsimp only; omega))))).mono ?_; rintro e w2 ⟨rfl, hE⟩; (first | (have hK := KC.step (n := w.heap.size + 3) (by with_reducible assumption) hE) | (have hK := KC.step (KC.step (n := w.heap.size + 3) (by with_reducible assumption) (ext_alloc1 _ _)) hE) | (have hK := KC.step (KC.refl (n := w.heap.size + 3) (by simp)) hE)); have hC := hK.cell; have hF := hK.fro; have hX := hK.ext)
          | (go_at_call 19; refine (HPF.out _ (by (repeat' (first | with_reducible assumption | with_reducible exact Ext.refl _ | with_reducible refine Ext.alloc ?_ _ | with_reducible refine Ext.set ?_ ?_ _ | with_reducible refine Ext.drew ?_ | with_reducible refine Ext.drewN ?_ _ | with_reducible refine Ext.trans ?_ (by assumption) | (dsimp only; omega))))).mono ?_; rintro e w2 ⟨rfl, hE⟩; (first | (have hK := KC.step (n := w.heap.size + 3) (by with_reducible assumption) hE) | (have hK := KC.step (KC.step (n := w.heap.size + 3) (by with_reducible assumption) (ext_alloc1 _ _)) hE) | (have hK := KC.step (KC.refl (n := w.heap.size + 3) (by simp)) hE)); have hC := hK.cell; have hF := hK.fro; have hX := hK.ext)
          | (go_at_call 21; refine (HPU.out _ (by (repeat' (first | with_reducible assumption | with_reducible exact Ext.refl _ | with_reducible refine Ext.alloc ?_ _ | with_reducible refine Ext.set ?_ ?_ _ | with_reducible refine Ext.drew ?_ | with_reducible refine Ext.drewN ?_ _ | with_reducible refine Ext.trans ?_ (by assumption) | (dsimp only; omega))))).mono ?_; rintro e w2 ⟨rfl, hE⟩; (first | (have hK := KC.step (n := w.heap.size + 3) (by with_reducible assumption) hE) | (have hK := KC.step (KC.step (n := w.heap.size + 3) (by with_reducible assumption) (ext_alloc1 _ _)) hE) | (have hK := KC.step (KC.refl (n := w.heap.size + 3) (by simp)) hE)); have hC := hK.cell; have hF := hK.fro; have hX := hK.ext)
          | (go_at_call 45; refine (HBS.out _ (by (repeat' (first | with_reducible assumption | with_reducible exact Ext.refl _ | with_reducible refine Ext.alloc ?_ _ | with_reducible refine Ext.set ?_ ?_ _ | with_reducible refine Ext.drew ?_ | with_reducible refine Ext.drewN ?_ _ | with_reducible refine Ext.trans ?_ (by assumption) | (dsimp only; omega))))).mono ?_; rintro e w2 ⟨rfl, hE⟩; (first | (have hK := KC.step (n := w.heap.size + 3) (by with_reducible assumption) hE) | (have hK := KC.step (KC.step (n := w.heap.size + 3) (by with_reducible assumption) (ext_alloc1 _ _)) hE) | (have hK := KC.step (KC.refl (n := w.heap.size + 3) (by simp)) hE)); have hC := hK.cell; have hF := hK.fro; have hX := hK.ext))
        have HE4 := hid (show Ext w w2 by (repeat' (first | with_reducible assumption | with_reducible exact Ext.refl _ | with_reducible refine Ext.alloc ?_ _ | with_reducible refine Ext.set ?_ ?_ _ | with_reducible refine Ext.drew ?_ | with_reducible refine Ext.drewN ?_ _ | with_reducible refine Ext.trans ?_ (by assumption) | (dsimp only; omega))))
        have z4 := hK.size
        have HK2 := hid hK
        refine Calls.mono (HCP.out _ HE4.out) ?_
        rintro e w5 ⟨A5, c5, rfl, hO5, hE⟩
        have HO5 := hid hO5
        have HE5 := hid hE
        clear hO5
        (first | (have hK := KC.step (n := w.heap.size + 3) (by with_reducible assumption) hE) | (have hK := KC.step (KC.step (n := w.heap.size + 3) (by with_reducible assumption) (ext_alloc1 _ _)) hE) | (have hK := KC.step (KC.refl (n := w.heap.size + 3) (by simp)) hE)); have hC := hK.cell; have hF := hK.fro; have hX := hK.ext
        have z5 := hK.size
        have z25 := HE5.out.size
        have z50 : w.heap.size < w5.heap.size := by omega
        have z51 : w.heap.size + 1 < w5.heap.size := by omega
        have z52 : w.heap.size + 1 + 1 < w5.heap.size := by omega
        go_wp2_with (at_builtin; refine Halt.mk ?_)
        unfold Halt
        clear hC hF hX hK hE
        have R5 := hid (Blk.new w5 27 #[.int .i64 ma, .int .i64 fi, .int .i64 le, .slice A5 nf c5])
        have EU := hid (ext_alloc1 w5 (.cells #[.int .i64 ma, .int .i64 fi, .int .i64 le, .slice A5 nf c5] 27))
        obtain ⟨V, hV⟩ : ∃ V, w5.alloc (.cells #[.int .i64 ma, .int .i64 fi, .int .i64 le, .slice A5 nf c5] 27) = V := ⟨_, rfl⟩
        have zV : V.heap.size = w5.heap.size + 1 := by rw [← hV]; simp
        rw [hV] at R5 EU ⊢
        clear hV
        have OV := hid (HO5.out.ext EU.out)
        have FB := hid (show Blk (V.alloc (.cells #[.int .i64 fd, .int .i64 hl, .int .i64 hh, .int .i64 ol, .int .i64 oh] 75)) (w5.heap.size + 1) 75 #[.int .i64 fd, .int .i64 hl, .int .i64 hh, .int .i64 ol, .int .i64 oh] by rw [← zV]; exact Blk.new V _ _)
        refine wpList_app1Fl _ rfl _ _ rfl w2.heap.size (.slice A5 nf c5) fs rfl (OV.out.ext (ext_alloc1 _ _)) (w5.heap.size + 1) ⟨fd, hl, hh, ol, oh⟩ rfl FB.out (by rw [HNF.out]; omega) (by rw [World.size_alloc]; omega) ?_
        intro v6 w6 hO6 hg hvo
        have E6 := hid (show Ext w2 w6 from OV.out.extApp (HE5.out.trans EU.out) (Nat.le_refl _) hg)
        have R6 := hid ((R5.out.alloc (.cells #[.int .i64 fd, .int .i64 hl, .int .i64 hh, .int .i64 ol, .int .i64 oh] 75)).grown hg (fun x => by have := (HO5.out.block _ x.symm).2; omega))
        obtain ⟨A6, c6, hv6, -, hf6⟩ := ownFl hO6
        rw [List.length_append, HNF.out] at hv6
        simp only [List.length_cons, List.length_nil, Nat.zero_add] at hv6
        subst hv6
        have OV6 := hid hO6
        clear hO6 hg FB OV R5 EU hf6 HCP HPF HPU HBS
        have hK6 := KC.step (n := w.heap.size + 3) HK2.out E6.out
        have hC6 := hK6.cell
        have m0 : w6.cell? ⟨w.heap.size, 0, none⟩ = some (.int .i64 sh) := by rw [hC6 _ _ (by omega)]; go_simp
        have m1 : w6.cell? ⟨w.heap.size, 1, none⟩ = some (.int .i64 us) := by rw [hC6 _ _ (by omega)]; go_simp
        have m2 : w6.cell? ⟨w.heap.size, 2, none⟩ = some (.int .i64 be) := by rw [hC6 _ _ (by omega)]; go_simp
        have m3 : w6.cell? ⟨w.heap.size, 3, none⟩ = some (.slice A nw c) := by rw [hC6 _ _ (by omega)]; go_simp
        have l0 : w6.cell? ⟨w.heap.size + 1 + 1, 0, none⟩ = some (.int .i64 D) := by rw [hC6 _ _ (by omega)]; go_simp
        obtain ⟨r0, r1, r2, r3⟩ : _ ∧ _ ∧ _ ∧ _ := ⟨R6.out.cell 0, R6.out.cell 1, R6.out.cell 2, R6.out.cell 3⟩
        have rf := R6.out.fro 3
        have rz := R6.out.lt
        simp only [List.getElem?_toArray, List.getElem?_cons_zero, List.getElem?_cons_succ] at r0 r1 r2 r3
        clear hC6
        have n0 : ¬ w.heap.size = w5.heap.size := by omega
        have n1 : ¬ w.heap.size + 1 + 1 = w5.heap.size := by omega
        go_wp2_with fail
        have hne6 : (Value.slice A6 (nf + 1) c6).ownBlock ≠ some w5.heap.size := by
          intro h
          rcases hvo with h' | h'
          · rw [h'] at h
            have := (HO5.out.block _ h).2
            omega
          · rw [h'] at h
            injection h with h
            rw [World.size_alloc] at h
            omega
        have E7 := hid (show Ext w2 (w6.setCell ⟨w5.heap.size, 3, none⟩ (.slice A6 (nf + 1) c6)) from E6.out.set (p := ⟨w5.heap.size, 3, none⟩) (by dsimp only; omega) _)
        have R7 := hid (show Blk (w6.setCell ⟨w5.heap.size, 3, none⟩ (.slice A6 (nf + 1) c6)) w5.heap.size 27 #[.int .i64 ma, .int .i64 fi, .int .i64 le, .slice A6 (nf + 1) c6] by have h := R6.out.setAt 3 (.slice A6 (nf + 1) c6); simp only [List.setIfInBounds_toArray, List.set_cons_zero, List.set_cons_succ] at h; exact h)
        have OV7 := OV6.out.otherNe (p := ⟨w5.heap.size, 3, none⟩) hne6 (.slice A6 (nf + 1) c6)
        obtain ⟨A7, c7, hv7, -, hf7⟩ := ownFl OV7
        have hA7 : A6 = A7 := by injection hv7
        subst hA7
        have HF7 := hid hf7
        clear hf7 hv7 OV7 hne6 hvo OV6 R6 E6 HO5 m0 m1 m2 m3 l0 r0 r1 r2 r3 rf hK6 c7
        obtain ⟨w7, hw7⟩ : ∃ w7, w6.setCell ⟨w5.heap.size, 3, none⟩ (.slice A6 (nf + 1) c6) = w7 := ⟨_, rfl⟩
        rw [hw7] at E7 R7 HF7 ⊢
        clear hw7
        have hK7 := KC.step (n := w.heap.size + 3) HK2.out E7.out
        have hC7 := hK7.cell
        have m0 : w7.cell? ⟨w.heap.size, 0, none⟩ = some (.int .i64 sh) := by rw [hC7 _ _ (by omega)]; go_simp
        have m1 : w7.cell? ⟨w.heap.size, 1, none⟩ = some (.int .i64 us) := by rw [hC7 _ _ (by omega)]; go_simp
        have m2 : w7.cell? ⟨w.heap.size, 2, none⟩ = some (.int .i64 be) := by rw [hC7 _ _ (by omega)]; go_simp
        have m3 : w7.cell? ⟨w.heap.size, 3, none⟩ = some (.slice A nw c) := by rw [hC7 _ _ (by omega)]; go_simp
        have l0 : w7.cell? ⟨w.heap.size + 1 + 1, 0, none⟩ = some (.int .i64 D) := by rw [hC7 _ _ (by omega)]; go_simp
        obtain ⟨r0, r1, r2, r3⟩ : _ ∧ _ ∧ _ ∧ _ := ⟨R7.out.cell 0, R7.out.cell 1, R7.out.cell 2, R7.out.cell 3⟩
        have rz := R7.out.lt
        simp only [List.getElem?_toArray, List.getElem?_cons_zero, List.getElem?_cons_succ] at r0 r1 r2 r3
        have y0 : w.heap.size < w7.heap.size := by omega
        have y2 : w.heap.size + 1 + 1 < w7.heap.size := by omega
        obtain ⟨HC8, HP8, HU8⟩ := HMR.out A6 c6 w7 (HE4.out.trans E7.out) HF7.out
        replace HC8 := hid HC8
        replace HP8 := hid HP8
        replace HU8 := hid HU8
        have HE7 := hid (HE4.out.trans E7.out)
        clear hC7 hK7 R7 HF7 HMR HK2 E7 HE5 HE4 n0 n1 z4 z5 z25 z50 z51 z52 zV HCD HFR HNF
        refine Calls.mono (HC8.out _ (Ext.refl _)) ?_
        rintro e w8 ⟨rfl, hE⟩
        (first | (have hK := KC.step (n := w7.heap.size) (by with_reducible assumption) hE) | (have hK := KC.step (KC.step (n := w7.heap.size) (by with_reducible assumption) (ext_alloc1 _ _)) hE) | (have hK := KC.step (KC.refl (n := w7.heap.size) (by simp)) hE)); have hC := hK.cell; have hF := hK.fro; have hX := hK.ext
        by_cases h2 : E2 = 0
        case neg =>
          have hne2 : (E2 != 0) = true := by simp [h2]
          clear HMF HTK
          go_wp2_with (go_at_call 14; refine (HWK.out _).mono ?_; rintro e w2 ⟨rfl, hE⟩; (first | (have hK := KC.step (n := w7.heap.size) (by with_reducible assumption) hE) | (have hK := KC.step (KC.step (n := w7.heap.size) (by with_reducible assumption) (ext_alloc1 _ _)) hE) | (have hK := KC.step (KC.refl (n := w7.heap.size) (by simp)) hE)); have hC := hK.cell; have hF := hK.fro; have hX := hK.ext)
          go_ret
          exact ⟨rfl, HE7.out.trans (by (repeat' (first | with_reducible assumption | with_reducible exact Ext.refl _ | with_reducible refine Ext.alloc ?_ _ | with_reducible refine Ext.set ?_ ?_ _ | with_reducible refine Ext.drew ?_ | with_reducible refine Ext.drewN ?_ _ | with_reducible refine Ext.trans ?_ (by assumption) | (dsimp only; omega))))⟩
        subst h2
        obtain ⟨h31, hmx⟩ := HMF.out rfl
        have ht2 := HTK.out rfl
        subst ht2
        clear HMF HTK
        have hm2 : U2 ≤ U := by omega
        clear hmx
        cases S3
        case false =>
          go_wp2_with (first
            | (go_at_call 19; refine (HP8.out _ (by (repeat' (first | with_reducible assumption | with_reducible exact Ext.refl _ | with_reducible refine Ext.alloc ?_ _ | with_reducible refine Ext.set ?_ ?_ _ | with_reducible refine Ext.drew ?_ | with_reducible refine Ext.drewN ?_ _ | with_reducible refine Ext.trans ?_ (by assumption) | (dsimp only; omega))))).mono ?_; rintro e w2 ⟨rfl, hE⟩; (first | (have hK := KC.step (n := w7.heap.size) (by with_reducible assumption) hE) | (have hK := KC.step (KC.step (n := w7.heap.size) (by with_reducible assumption) (ext_alloc1 _ _)) hE) | (have hK := KC.step (KC.refl (n := w7.heap.size) (by simp)) hE)); have hC := hK.cell; have hF := hK.fro; have hX := hK.ext)
            | (go_at_call 21; refine (HU8.out _ (by (repeat' (first | with_reducible assumption | with_reducible exact Ext.refl _ | with_reducible refine Ext.alloc ?_ _ | with_reducible refine Ext.set ?_ ?_ _ | with_reducible refine Ext.drew ?_ | with_reducible refine Ext.drewN ?_ _ | with_reducible refine Ext.trans ?_ (by assumption) | (dsimp only; omega))))).mono ?_; rintro e w2 ⟨rfl, hE⟩; (first | (have hK := KC.step (n := w7.heap.size) (by with_reducible assumption) hE) | (have hK := KC.step (KC.step (n := w7.heap.size) (by with_reducible assumption) (ext_alloc1 _ _)) hE) | (have hK := KC.step (KC.refl (n := w7.heap.size) (by simp)) hE)); have hC := hK.cell; have hF := hK.fro; have hX := hK.ext)
            | (go_at_call 14; refine (HWK.out _).mono ?_; rintro e w2 ⟨rfl, hE⟩; (first | (have hK := KC.step (n := w7.heap.size) (by with_reducible assumption) hE) | (have hK := KC.step (KC.step (n := w7.heap.size) (by with_reducible assumption) (ext_alloc1 _ _)) hE) | (have hK := KC.step (KC.refl (n := w7.heap.size) (by simp)) hE)); have hC := hK.cell; have hF := hK.fro; have hX := hK.ext))
          all_goals (go_ret; exact ⟨ret_bool (by simp [*]), HE7.out.trans (by (repeat' (first | with_reducible assumption | with_reducible exact Ext.refl _ | with_reducible refine Ext.alloc ?_ _ | with_reducible refine Ext.set ?_ ?_ _ | with_reducible refine Ext.drew ?_ | with_reducible refine Ext.drewN ?_ _ | with_reducible refine Ext.trans ?_ (by assumption) | (dsimp only; omega))))⟩)
        have h1 := h31 rfl
        clear h31
        first | (exfalso; exact absurd h1 (by decide)) | (subst h1; go_wp2_with (first | (go_at_call 19; refine (HP8.out _ (by (repeat' (first | with_reducible assumption | with_reducible exact Ext.refl _ | with_reducible refine Ext.alloc ?_ _ | with_reducible refine Ext.set ?_ ?_ _ | with_reducible refine Ext.drew ?_ | with_reducible refine Ext.drewN ?_ _ | with_reducible refine Ext.trans ?_ (by assumption) | (dsimp only; omega))))).mono ?_; rintro e w2 ⟨rfl, hE⟩; (first | (have hK := KC.step (n := w7.heap.size) (by with_reducible assumption) hE) | (have hK := KC.step (KC.step (n := w7.heap.size) (by with_reducible assumption) (ext_alloc1 _ _)) hE) | (have hK := KC.step (KC.refl (n := w7.heap.size) (by simp)) hE)); have hC := hK.cell; have hF := hK.fro; have hX := hK.ext) | (go_at_call 21; refine (HU8.out _ (by (repeat' (first | with_reducible assumption | with_reducible exact Ext.refl _ | with_reducible refine Ext.alloc ?_ _ | with_reducible refine Ext.set ?_ ?_ _ | with_reducible refine Ext.drew ?_ | with_reducible refine Ext.drewN ?_ _ | with_reducible refine Ext.trans ?_ (by assumption) | (dsimp only; omega))))).mono ?_; rintro e w2 ⟨rfl, hE⟩; (first | (have hK := KC.step (n := w7.heap.size) (by with_reducible assumption) hE) | (have hK := KC.step (KC.step (n := w7.heap.size) (by with_reducible assumption) (ext_alloc1 _ _)) hE) | (have hK := KC.step (KC.refl (n := w7.heap.size) (by simp)) hE)); have hC := hK.cell; have hF := hK.fro; have hX := hK.ext) | (go_at_call 14; refine (HWK.out _).mono ?_; rintro e w2 ⟨rfl, hE⟩; (first | (have hK := KC.step (n := w7.heap.size) (by with_reducible assumption) hE) | (have hK := KC.step (KC.step (n := w7.heap.size) (by with_reducible assumption) (ext_alloc1 _ _)) hE) | (have hK := KC.step (KC.refl (n := w7.heap.size) (by simp)) hE)); have hC := hK.cell; have hF := hK.fro; have hX := hK.ext)); all_goals (go_ret; exact ⟨ret_bool (by simp [*]), HE7.out.trans (by (repeat' (first | with_reducible assumption | with_reducible exact Ext.refl _ | with_reducible refine Ext.alloc ?_ _ | with_reducible refine Ext.set ?_ ?_ _ | with_reducible refine Ext.drew ?_ | with_reducible refine Ext.drewN ?_ _ | with_reducible refine Ext.trans ?_ (by assumption) | (dsimp only; omega))))⟩)) | (clear h1; go_wp2_with (first | (go_at_call 19; refine (HP8.out _ (by (repeat' (first | with_reducible assumption | with_reducible exact Ext.refl _ | with_reducible refine Ext.alloc ?_ _ | with_reducible refine Ext.set ?_ ?_ _ | with_reducible refine Ext.drew ?_ | with_reducible refine Ext.drewN ?_ _ | with_reducible refine Ext.trans ?_ (by assumption) | (dsimp only; omega))))).mono ?_; rintro e w2 ⟨rfl, hE⟩; (first | (have hK := KC.step (n := w7.heap.size) (by with_reducible assumption) hE) | (have hK := KC.step (KC.step (n := w7.heap.size) (by with_reducible assumption) (ext_alloc1 _ _)) hE) | (have hK := KC.step (KC.refl (n := w7.heap.size) (by simp)) hE)); have hC := hK.cell; have hF := hK.fro; have hX := hK.ext) | (go_at_call 21; refine (HU8.out _ (by (repeat' (first | with_reducible assumption | with_reducible exact Ext.refl _ | with_reducible refine Ext.alloc ?_ _ | with_reducible refine Ext.set ?_ ?_ _ | with_reducible refine Ext.drew ?_ | with_reducible refine Ext.drewN ?_ _ | with_reducible refine Ext.trans ?_ (by assumption) | (dsimp only; omega))))).mono ?_; rintro e w2 ⟨rfl, hE⟩; (first | (have hK := KC.step (n := w7.heap.size) (by with_reducible assumption) hE) | (have hK := KC.step (KC.step (n := w7.heap.size) (by with_reducible assumption) (ext_alloc1 _ _)) hE) | (have hK := KC.step (KC.refl (n := w7.heap.size) (by simp)) hE)); have hC := hK.cell; have hF := hK.fro; have hX := hK.ext) | (go_at_call 14; refine (HWK.out _).mono ?_; rintro e w2 ⟨rfl, hE⟩; (first | (have hK := KC.step (n := w7.heap.size) (by with_reducible assumption) hE) | (have hK := KC.step (KC.step (n := w7.heap.size) (by with_reducible assumption) (ext_alloc1 _ _)) hE) | (have hK := KC.step (KC.refl (n := w7.heap.size) (by simp)) hE)); have hC := hK.cell; have hF := hK.fro; have hX := hK.ext)); all_goals (go_ret; exact ⟨ret_bool (by simp [*]), HE7.out.trans (by (repeat' (first | with_reducible assumption | with_reducible exact Ext.refl _ | with_reducible refine Ext.alloc ?_ _ | with_reducible refine Ext.set ?_ ?_ _ | with_reducible refine Ext.drew ?_ | with_reducible refine Ext.drewN ?_ _ | with_reducible refine Ext.trans ?_ (by assumption) | (dsimp only; omega))))⟩))
      · rw [decide_eq_false hd] at *
        go_enter Tryz.func8, Tryz.ntmps8
        go_wp2_with (first
          | (go_at_call 13; refine (HFR.out _).mono ?_; rintro e w2 ⟨rfl, hE⟩; (first | (have hK := KC.step (n := w.heap.size + 3) (by with_reducible assumption) hE) | (have hK := KC.step (KC.step (n := w.heap.size + 3) (by with_reducible assumption) (ext_alloc1 _ _)) hE) | (have hK := KC.step (KC.refl (n := w.heap.size + 3) (by simp)) hE)); have hC := hK.cell; have hF := hK.fro; have hX := hK.ext)
          | (go_at_call 42; refine (HCD.out _ (by (repeat' (first | with_reducible assumption | with_reducible exact Ext.refl _ | with_reducible refine Ext.alloc ?_ _ | with_reducible refine Ext.set ?_ ?_ _ | with_reducible refine Ext.drew ?_ | with_reducible refine Ext.drewN ?_ _ | with_reducible refine Ext.trans ?_ (by assumption) | (dsimp only; omega))))).mono ?_; rintro e w2 ⟨rfl, hE⟩; (first | (have hK := KC.step (n := w.heap.size + 3) (by with_reducible assumption) hE) | (have hK := KC.step (KC.step (n := w.heap.size + 3) (by with_reducible assumption) (ext_alloc1 _ _)) hE) | (have hK := KC.step (KC.refl (n := w.heap.size + 3) (by simp)) hE)); have hC := hK.cell; have hF := hK.fro; have hX := hK.ext)
          | (go_at_call 19; refine (HPF.out _ (by (repeat' (first | with_reducible assumption | with_reducible exact Ext.refl _ | with_reducible refine Ext.alloc ?_ _ | with_reducible refine Ext.set ?_ ?_ _ | with_reducible refine Ext.drew ?_ | with_reducible refine Ext.drewN ?_ _ | with_reducible refine Ext.trans ?_ (by assumption) | (dsimp only; omega))))).mono ?_; rintro e w2 ⟨rfl, hE⟩; (first | (have hK := KC.step (n := w.heap.size + 3) (by with_reducible assumption) hE) | (have hK := KC.step (KC.step (n := w.heap.size + 3) (by with_reducible assumption) (ext_alloc1 _ _)) hE) | (have hK := KC.step (KC.refl (n := w.heap.size + 3) (by simp)) hE)); have hC := hK.cell; have hF := hK.fro; have hX := hK.ext)
          | (go_at_call 21; refine (HPU.out _ (by (repeat' (first | with_reducible assumption | with_reducible exact Ext.refl _ | with_reducible refine Ext.alloc ?_ _ | with_reducible refine Ext.set ?_ ?_ _ | with_reducible refine Ext.drew ?_ | with_reducible refine Ext.drewN ?_ _ | with_reducible refine Ext.trans ?_ (by assumption) | (dsimp only; omega))))).mono ?_; rintro e w2 ⟨rfl, hE⟩; (first | (have hK := KC.step (n := w.heap.size + 3) (by with_reducible assumption) hE) | (have hK := KC.step (KC.step (n := w.heap.size + 3) (by with_reducible assumption) (ext_alloc1 _ _)) hE) | (have hK := KC.step (KC.refl (n := w.heap.size + 3) (by simp)) hE)); have hC := hK.cell; have hF := hK.fro; have hX := hK.ext)
          | (go_at_call 45; refine (HBS.out _ (by (repeat' (first | with_reducible assumption | with_reducible exact Ext.refl _ | with_reducible refine Ext.alloc ?_ _ | with_reducible refine Ext.set ?_ ?_ _ | with_reducible refine Ext.drew ?_ | with_reducible refine Ext.drewN ?_ _ | with_reducible refine Ext.trans ?_ (by assumption) | (dsimp only; omega))))).mono ?_; rintro e w2 ⟨rfl, hE⟩; (first | (have hK := KC.step (n := w.heap.size + 3) (by with_reducible assumption) hE) | (have hK := KC.step (KC.step (n := w.heap.size + 3) (by with_reducible assumption) (ext_alloc1 _ _)) hE) | (have hK := KC.step (KC.refl (n := w.heap.size + 3) (by simp)) hE)); have hC := hK.cell; have hF := hK.fro; have hX := hK.ext))
        have HE4 := hid (show Ext w w2 by (repeat' (first | with_reducible assumption | with_reducible exact Ext.refl _ | with_reducible refine Ext.alloc ?_ _ | with_reducible refine Ext.set ?_ ?_ _ | with_reducible refine Ext.drew ?_ | with_reducible refine Ext.drewN ?_ _ | with_reducible refine Ext.trans ?_ (by assumption) | (dsimp only; omega))))
        have z4 := hK.size
        have HK2 := hid hK
        refine Calls.mono (HCP.out _ HE4.out) ?_
        rintro e w5 ⟨A5, c5, rfl, hO5, hE⟩
        have HO5 := hid hO5
        have HE5 := hid hE
        clear hO5
        (first | (have hK := KC.step (n := w.heap.size + 3) (by with_reducible assumption) hE) | (have hK := KC.step (KC.step (n := w.heap.size + 3) (by with_reducible assumption) (ext_alloc1 _ _)) hE) | (have hK := KC.step (KC.refl (n := w.heap.size + 3) (by simp)) hE)); have hC := hK.cell; have hF := hK.fro; have hX := hK.ext
        have z5 := hK.size
        have z25 := HE5.out.size
        have z50 : w.heap.size < w5.heap.size := by omega
        have z51 : w.heap.size + 1 < w5.heap.size := by omega
        have z52 : w.heap.size + 1 + 1 < w5.heap.size := by omega
        go_wp2_with (at_builtin; refine Halt.mk ?_)
        unfold Halt
        clear hC hF hX hK hE
        have R5 := hid (Blk.new w5 27 #[.int .i64 ma, .int .i64 fi, .int .i64 le, .slice A5 nf c5])
        have EU := hid (ext_alloc1 w5 (.cells #[.int .i64 ma, .int .i64 fi, .int .i64 le, .slice A5 nf c5] 27))
        obtain ⟨V, hV⟩ : ∃ V, w5.alloc (.cells #[.int .i64 ma, .int .i64 fi, .int .i64 le, .slice A5 nf c5] 27) = V := ⟨_, rfl⟩
        have zV : V.heap.size = w5.heap.size + 1 := by rw [← hV]; simp
        rw [hV] at R5 EU ⊢
        clear hV
        have OV := hid (HO5.out.ext EU.out)
        have FB := hid (show Blk (V.alloc (.cells #[.int .i64 fd, .int .i64 hl, .int .i64 hh, .int .i64 ol, .int .i64 oh] 75)) (w5.heap.size + 1) 75 #[.int .i64 fd, .int .i64 hl, .int .i64 hh, .int .i64 ol, .int .i64 oh] by rw [← zV]; exact Blk.new V _ _)
        refine wpList_app1Fl _ rfl _ _ rfl w2.heap.size (.slice A5 nf c5) fs rfl (OV.out.ext (ext_alloc1 _ _)) (w5.heap.size + 1) ⟨fd, hl, hh, ol, oh⟩ rfl FB.out (by rw [HNF.out]; omega) (by rw [World.size_alloc]; omega) ?_
        intro v6 w6 hO6 hg hvo
        have E6 := hid (show Ext w2 w6 from OV.out.extApp (HE5.out.trans EU.out) (Nat.le_refl _) hg)
        have R6 := hid ((R5.out.alloc (.cells #[.int .i64 fd, .int .i64 hl, .int .i64 hh, .int .i64 ol, .int .i64 oh] 75)).grown hg (fun x => by have := (HO5.out.block _ x.symm).2; omega))
        obtain ⟨A6, c6, hv6, -, hf6⟩ := ownFl hO6
        rw [List.length_append, HNF.out] at hv6
        simp only [List.length_cons, List.length_nil, Nat.zero_add] at hv6
        subst hv6
        have OV6 := hid hO6
        clear hO6 hg FB OV R5 EU hf6 HCP HPF HPU HBS
        have hK6 := KC.step (n := w.heap.size + 3) HK2.out E6.out
        have hC6 := hK6.cell
        have m0 : w6.cell? ⟨w.heap.size, 0, none⟩ = some (.int .i64 sh) := by rw [hC6 _ _ (by omega)]; go_simp
        have m1 : w6.cell? ⟨w.heap.size, 1, none⟩ = some (.int .i64 us) := by rw [hC6 _ _ (by omega)]; go_simp
        have m2 : w6.cell? ⟨w.heap.size, 2, none⟩ = some (.int .i64 be) := by rw [hC6 _ _ (by omega)]; go_simp
        have m3 : w6.cell? ⟨w.heap.size, 3, none⟩ = some (.slice A nw c) := by rw [hC6 _ _ (by omega)]; go_simp
        have l0 : w6.cell? ⟨w.heap.size + 1 + 1, 0, none⟩ = some (.int .i64 D) := by rw [hC6 _ _ (by omega)]; go_simp
        obtain ⟨r0, r1, r2, r3⟩ : _ ∧ _ ∧ _ ∧ _ := ⟨R6.out.cell 0, R6.out.cell 1, R6.out.cell 2, R6.out.cell 3⟩
        have rf := R6.out.fro 3
        have rz := R6.out.lt
        simp only [List.getElem?_toArray, List.getElem?_cons_zero, List.getElem?_cons_succ] at r0 r1 r2 r3
        clear hC6
        have n0 : ¬ w.heap.size = w5.heap.size := by omega
        have n1 : ¬ w.heap.size + 1 + 1 = w5.heap.size := by omega
        go_wp2_with fail
        have hne6 : (Value.slice A6 (nf + 1) c6).ownBlock ≠ some w5.heap.size := by
          intro h
          rcases hvo with h' | h'
          · rw [h'] at h
            have := (HO5.out.block _ h).2
            omega
          · rw [h'] at h
            injection h with h
            rw [World.size_alloc] at h
            omega
        have E7 := hid (show Ext w2 (w6.setCell ⟨w5.heap.size, 3, none⟩ (.slice A6 (nf + 1) c6)) from E6.out.set (p := ⟨w5.heap.size, 3, none⟩) (by dsimp only; omega) _)
        have R7 := hid (show Blk (w6.setCell ⟨w5.heap.size, 3, none⟩ (.slice A6 (nf + 1) c6)) w5.heap.size 27 #[.int .i64 ma, .int .i64 fi, .int .i64 le, .slice A6 (nf + 1) c6] by have h := R6.out.setAt 3 (.slice A6 (nf + 1) c6); simp only [List.setIfInBounds_toArray, List.set_cons_zero, List.set_cons_succ] at h; exact h)
        have OV7 := OV6.out.otherNe (p := ⟨w5.heap.size, 3, none⟩) hne6 (.slice A6 (nf + 1) c6)
        obtain ⟨A7, c7, hv7, -, hf7⟩ := ownFl OV7
        have hA7 : A6 = A7 := by injection hv7
        subst hA7
        have HF7 := hid hf7
        clear hf7 hv7 OV7 hne6 hvo OV6 R6 E6 HO5 m0 m1 m2 m3 l0 r0 r1 r2 r3 rf hK6 c7
        obtain ⟨w7, hw7⟩ : ∃ w7, w6.setCell ⟨w5.heap.size, 3, none⟩ (.slice A6 (nf + 1) c6) = w7 := ⟨_, rfl⟩
        rw [hw7] at E7 R7 HF7 ⊢
        clear hw7
        have hK7 := KC.step (n := w.heap.size + 3) HK2.out E7.out
        have hC7 := hK7.cell
        have m0 : w7.cell? ⟨w.heap.size, 0, none⟩ = some (.int .i64 sh) := by rw [hC7 _ _ (by omega)]; go_simp
        have m1 : w7.cell? ⟨w.heap.size, 1, none⟩ = some (.int .i64 us) := by rw [hC7 _ _ (by omega)]; go_simp
        have m2 : w7.cell? ⟨w.heap.size, 2, none⟩ = some (.int .i64 be) := by rw [hC7 _ _ (by omega)]; go_simp
        have m3 : w7.cell? ⟨w.heap.size, 3, none⟩ = some (.slice A nw c) := by rw [hC7 _ _ (by omega)]; go_simp
        have l0 : w7.cell? ⟨w.heap.size + 1 + 1, 0, none⟩ = some (.int .i64 D) := by rw [hC7 _ _ (by omega)]; go_simp
        obtain ⟨r0, r1, r2, r3⟩ : _ ∧ _ ∧ _ ∧ _ := ⟨R7.out.cell 0, R7.out.cell 1, R7.out.cell 2, R7.out.cell 3⟩
        have rz := R7.out.lt
        simp only [List.getElem?_toArray, List.getElem?_cons_zero, List.getElem?_cons_succ] at r0 r1 r2 r3
        have y0 : w.heap.size < w7.heap.size := by omega
        have y2 : w.heap.size + 1 + 1 < w7.heap.size := by omega
        obtain ⟨HC8, HP8, HU8⟩ := HMR.out A6 c6 w7 (HE4.out.trans E7.out) HF7.out
        replace HC8 := hid HC8
        replace HP8 := hid HP8
        replace HU8 := hid HU8
        have HE7 := hid (HE4.out.trans E7.out)
        clear hC7 hK7 R7 HF7 HMR HK2 E7 HE5 HE4 n0 n1 z4 z5 z25 z50 z51 z52 zV HCD HFR HNF
        refine Calls.mono (HC8.out _ (Ext.refl _)) ?_
        rintro e w8 ⟨rfl, hE⟩
        (first | (have hK := KC.step (n := w7.heap.size) (by with_reducible assumption) hE) | (have hK := KC.step (KC.step (n := w7.heap.size) (by with_reducible assumption) (ext_alloc1 _ _)) hE) | (have hK := KC.step (KC.refl (n := w7.heap.size) (by simp)) hE)); have hC := hK.cell; have hF := hK.fro; have hX := hK.ext
        by_cases h2 : E2 = 0
        case neg =>
          have hne2 : (E2 != 0) = true := by simp [h2]
          clear HMF HTK
          go_wp2_with (go_at_call 14; refine (HWK.out _).mono ?_; rintro e w2 ⟨rfl, hE⟩; (first | (have hK := KC.step (n := w7.heap.size) (by with_reducible assumption) hE) | (have hK := KC.step (KC.step (n := w7.heap.size) (by with_reducible assumption) (ext_alloc1 _ _)) hE) | (have hK := KC.step (KC.refl (n := w7.heap.size) (by simp)) hE)); have hC := hK.cell; have hF := hK.fro; have hX := hK.ext)
          go_ret
          exact ⟨rfl, HE7.out.trans (by (repeat' (first | with_reducible assumption | with_reducible exact Ext.refl _ | with_reducible refine Ext.alloc ?_ _ | with_reducible refine Ext.set ?_ ?_ _ | with_reducible refine Ext.drew ?_ | with_reducible refine Ext.drewN ?_ _ | with_reducible refine Ext.trans ?_ (by assumption) | (dsimp only; omega))))⟩
        subst h2
        obtain ⟨h31, hmx⟩ := HMF.out rfl
        have ht2 := HTK.out rfl
        subst ht2
        clear HMF HTK
        have hm2 : U2 ≤ U := by omega
        clear hmx
        cases S3
        case false =>
          go_wp2_with (first
            | (go_at_call 19; refine (HP8.out _ (by (repeat' (first | with_reducible assumption | with_reducible exact Ext.refl _ | with_reducible refine Ext.alloc ?_ _ | with_reducible refine Ext.set ?_ ?_ _ | with_reducible refine Ext.drew ?_ | with_reducible refine Ext.drewN ?_ _ | with_reducible refine Ext.trans ?_ (by assumption) | (dsimp only; omega))))).mono ?_; rintro e w2 ⟨rfl, hE⟩; (first | (have hK := KC.step (n := w7.heap.size) (by with_reducible assumption) hE) | (have hK := KC.step (KC.step (n := w7.heap.size) (by with_reducible assumption) (ext_alloc1 _ _)) hE) | (have hK := KC.step (KC.refl (n := w7.heap.size) (by simp)) hE)); have hC := hK.cell; have hF := hK.fro; have hX := hK.ext)
            | (go_at_call 21; refine (HU8.out _ (by (repeat' (first | with_reducible assumption | with_reducible exact Ext.refl _ | with_reducible refine Ext.alloc ?_ _ | with_reducible refine Ext.set ?_ ?_ _ | with_reducible refine Ext.drew ?_ | with_reducible refine Ext.drewN ?_ _ | with_reducible refine Ext.trans ?_ (by assumption) | (dsimp only; omega))))).mono ?_; rintro e w2 ⟨rfl, hE⟩; (first | (have hK := KC.step (n := w7.heap.size) (by with_reducible assumption) hE) | (have hK := KC.step (KC.step (n := w7.heap.size) (by with_reducible assumption) (ext_alloc1 _ _)) hE) | (have hK := KC.step (KC.refl (n := w7.heap.size) (by simp)) hE)); have hC := hK.cell; have hF := hK.fro; have hX := hK.ext)
            | (go_at_call 14; refine (HWK.out _).mono ?_; rintro e w2 ⟨rfl, hE⟩; (first | (have hK := KC.step (n := w7.heap.size) (by with_reducible assumption) hE) | (have hK := KC.step (KC.step (n := w7.heap.size) (by with_reducible assumption) (ext_alloc1 _ _)) hE) | (have hK := KC.step (KC.refl (n := w7.heap.size) (by simp)) hE)); have hC := hK.cell; have hF := hK.fro; have hX := hK.ext))
          all_goals (go_ret; exact ⟨ret_bool (by simp [*]), HE7.out.trans (by (repeat' (first | with_reducible assumption | with_reducible exact Ext.refl _ | with_reducible refine Ext.alloc ?_ _ | with_reducible refine Ext.set ?_ ?_ _ | with_reducible refine Ext.drew ?_ | with_reducible refine Ext.drewN ?_ _ | with_reducible refine Ext.trans ?_ (by assumption) | (dsimp only; omega))))⟩)
        have h1 := h31 rfl
        clear h31
        first | (exfalso; exact absurd h1 (by decide)) | (subst h1; go_wp2_with (first | (go_at_call 19; refine (HP8.out _ (by (repeat' (first | with_reducible assumption | with_reducible exact Ext.refl _ | with_reducible refine Ext.alloc ?_ _ | with_reducible refine Ext.set ?_ ?_ _ | with_reducible refine Ext.drew ?_ | with_reducible refine Ext.drewN ?_ _ | with_reducible refine Ext.trans ?_ (by assumption) | (dsimp only; omega))))).mono ?_; rintro e w2 ⟨rfl, hE⟩; (first | (have hK := KC.step (n := w7.heap.size) (by with_reducible assumption) hE) | (have hK := KC.step (KC.step (n := w7.heap.size) (by with_reducible assumption) (ext_alloc1 _ _)) hE) | (have hK := KC.step (KC.refl (n := w7.heap.size) (by simp)) hE)); have hC := hK.cell; have hF := hK.fro; have hX := hK.ext) | (go_at_call 21; refine (HU8.out _ (by (repeat' (first | with_reducible assumption | with_reducible exact Ext.refl _ | with_reducible refine Ext.alloc ?_ _ | with_reducible refine Ext.set ?_ ?_ _ | with_reducible refine Ext.drew ?_ | with_reducible refine Ext.drewN ?_ _ | with_reducible refine Ext.trans ?_ (by assumption) | (dsimp only; omega))))).mono ?_; rintro e w2 ⟨rfl, hE⟩; (first | (have hK := KC.step (n := w7.heap.size) (by with_reducible assumption) hE) | (have hK := KC.step (KC.step (n := w7.heap.size) (by with_reducible assumption) (ext_alloc1 _ _)) hE) | (have hK := KC.step (KC.refl (n := w7.heap.size) (by simp)) hE)); have hC := hK.cell; have hF := hK.fro; have hX := hK.ext) | (go_at_call 14; refine (HWK.out _).mono ?_; rintro e w2 ⟨rfl, hE⟩; (first | (have hK := KC.step (n := w7.heap.size) (by with_reducible assumption) hE) | (have hK := KC.step (KC.step (n := w7.heap.size) (by with_reducible assumption) (ext_alloc1 _ _)) hE) | (have hK := KC.step (KC.refl (n := w7.heap.size) (by simp)) hE)); have hC := hK.cell; have hF := hK.fro; have hX := hK.ext)); all_goals (go_ret; exact ⟨ret_bool (by simp [*]), HE7.out.trans (by (repeat' (first | with_reducible assumption | with_reducible exact Ext.refl _ | with_reducible refine Ext.alloc ?_ _ | with_reducible refine Ext.set ?_ ?_ _ | with_reducible refine Ext.drew ?_ | with_reducible refine Ext.drewN ?_ _ | with_reducible refine Ext.trans ?_ (by assumption) | (dsimp only; omega))))⟩)) | (clear h1; go_wp2_with (first | (go_at_call 19; refine (HP8.out _ (by (repeat' (first | with_reducible assumption | with_reducible exact Ext.refl _ | with_reducible refine Ext.alloc ?_ _ | with_reducible refine Ext.set ?_ ?_ _ | with_reducible refine Ext.drew ?_ | with_reducible refine Ext.drewN ?_ _ | with_reducible refine Ext.trans ?_ (by assumption) | (dsimp only; omega))))).mono ?_; rintro e w2 ⟨rfl, hE⟩; (first | (have hK := KC.step (n := w7.heap.size) (by with_reducible assumption) hE) | (have hK := KC.step (KC.step (n := w7.heap.size) (by with_reducible assumption) (ext_alloc1 _ _)) hE) | (have hK := KC.step (KC.refl (n := w7.heap.size) (by simp)) hE)); have hC := hK.cell; have hF := hK.fro; have hX := hK.ext) | (go_at_call 21; refine (HU8.out _ (by (repeat' (first | with_reducible assumption | with_reducible exact Ext.refl _ | with_reducible refine Ext.alloc ?_ _ | with_reducible refine Ext.set ?_ ?_ _ | with_reducible refine Ext.drew ?_ | with_reducible refine Ext.drewN ?_ _ | with_reducible refine Ext.trans ?_ (by assumption) | (dsimp only; omega))))).mono ?_; rintro e w2 ⟨rfl, hE⟩; (first | (have hK := KC.step (n := w7.heap.size) (by with_reducible assumption) hE) | (have hK := KC.step (KC.step (n := w7.heap.size) (by with_reducible assumption) (ext_alloc1 _ _)) hE) | (have hK := KC.step (KC.refl (n := w7.heap.size) (by simp)) hE)); have hC := hK.cell; have hF := hK.fro; have hX := hK.ext) | (go_at_call 14; refine (HWK.out _).mono ?_; rintro e w2 ⟨rfl, hE⟩; (first | (have hK := KC.step (n := w7.heap.size) (by with_reducible assumption) hE) | (have hK := KC.step (KC.step (n := w7.heap.size) (by with_reducible assumption) (ext_alloc1 _ _)) hE) | (have hK := KC.step (KC.refl (n := w7.heap.size) (by simp)) hE)); have hC := hK.cell; have hF := hK.fro; have hX := hK.ext)); all_goals (go_ret; exact ⟨ret_bool (by simp [*]), HE7.out.trans (by (repeat' (first | with_reducible assumption | with_reducible exact Ext.refl _ | with_reducible refine Ext.alloc ?_ _ | with_reducible refine Ext.set ?_ ?_ _ | with_reducible refine Ext.drew ?_ | with_reducible refine Ext.drewN ?_ _ | with_reducible refine Ext.trans ?_ (by assumption) | (dsimp only; omega))))⟩))
    · clear hFU
      go_enter Tryz.func8, Tryz.ntmps8
      go_wp2_with (first
        | (go_at_call 13; refine (HFR.out _).mono ?_; rintro e w2 ⟨rfl, hE⟩; (first | (have hK := KC.step (n := w.heap.size + 3) (by with_reducible assumption) hE) | (have hK := KC.step (KC.step (n := w.heap.size + 3) (by with_reducible assumption) (ext_alloc1 _ _)) hE) | (have hK := KC.step (KC.refl (n := w.heap.size + 3) (by simp)) hE)); have hC := hK.cell; have hF := hK.fro; have hX := hK.ext)
        | (go_at_call 42; refine (HCD.out _ (by (repeat' (first | with_reducible assumption | with_reducible exact Ext.refl _ | with_reducible refine Ext.alloc ?_ _ | with_reducible refine Ext.set ?_ ?_ _ | with_reducible refine Ext.drew ?_ | with_reducible refine Ext.drewN ?_ _ | with_reducible refine Ext.trans ?_ (by assumption) | (dsimp only; omega))))).mono ?_; rintro e w2 ⟨rfl, hE⟩; (first | (have hK := KC.step (n := w.heap.size + 3) (by with_reducible assumption) hE) | (have hK := KC.step (KC.step (n := w.heap.size + 3) (by with_reducible assumption) (ext_alloc1 _ _)) hE) | (have hK := KC.step (KC.refl (n := w.heap.size + 3) (by simp)) hE)); have hC := hK.cell; have hF := hK.fro; have hX := hK.ext)
        | (go_at_call 19; refine (HPF.out _ (by (repeat' (first | with_reducible assumption | with_reducible exact Ext.refl _ | with_reducible refine Ext.alloc ?_ _ | with_reducible refine Ext.set ?_ ?_ _ | with_reducible refine Ext.drew ?_ | with_reducible refine Ext.drewN ?_ _ | with_reducible refine Ext.trans ?_ (by assumption) | (dsimp only; omega))))).mono ?_; rintro e w2 ⟨rfl, hE⟩; (first | (have hK := KC.step (n := w.heap.size + 3) (by with_reducible assumption) hE) | (have hK := KC.step (KC.step (n := w.heap.size + 3) (by with_reducible assumption) (ext_alloc1 _ _)) hE) | (have hK := KC.step (KC.refl (n := w.heap.size + 3) (by simp)) hE)); have hC := hK.cell; have hF := hK.fro; have hX := hK.ext)
        | (go_at_call 21; refine (HPU.out _ (by (repeat' (first | with_reducible assumption | with_reducible exact Ext.refl _ | with_reducible refine Ext.alloc ?_ _ | with_reducible refine Ext.set ?_ ?_ _ | with_reducible refine Ext.drew ?_ | with_reducible refine Ext.drewN ?_ _ | with_reducible refine Ext.trans ?_ (by assumption) | (dsimp only; omega))))).mono ?_; rintro e w2 ⟨rfl, hE⟩; (first | (have hK := KC.step (n := w.heap.size + 3) (by with_reducible assumption) hE) | (have hK := KC.step (KC.step (n := w.heap.size + 3) (by with_reducible assumption) (ext_alloc1 _ _)) hE) | (have hK := KC.step (KC.refl (n := w.heap.size + 3) (by simp)) hE)); have hC := hK.cell; have hF := hK.fro; have hX := hK.ext)
        | (go_at_call 45; refine (HBS.out _ (by (repeat' (first | with_reducible assumption | with_reducible exact Ext.refl _ | with_reducible refine Ext.alloc ?_ _ | with_reducible refine Ext.set ?_ ?_ _ | with_reducible refine Ext.drew ?_ | with_reducible refine Ext.drewN ?_ _ | with_reducible refine Ext.trans ?_ (by assumption) | (dsimp only; omega))))).mono ?_; rintro e w2 ⟨rfl, hE⟩; (first | (have hK := KC.step (n := w.heap.size + 3) (by with_reducible assumption) hE) | (have hK := KC.step (KC.step (n := w.heap.size + 3) (by with_reducible assumption) (ext_alloc1 _ _)) hE) | (have hK := KC.step (KC.refl (n := w.heap.size + 3) (by simp)) hE)); have hC := hK.cell; have hF := hK.fro; have hX := hK.ext))
      have HE4 := hid (show Ext w w2 by (repeat' (first | with_reducible assumption | with_reducible exact Ext.refl _ | with_reducible refine Ext.alloc ?_ _ | with_reducible refine Ext.set ?_ ?_ _ | with_reducible refine Ext.drew ?_ | with_reducible refine Ext.drewN ?_ _ | with_reducible refine Ext.trans ?_ (by assumption) | (dsimp only; omega))))
      have z4 := hK.size
      have HK2 := hid hK
      refine Calls.mono (HCP.out _ HE4.out) ?_
      rintro e w5 ⟨A5, c5, rfl, hO5, hE⟩
      have HO5 := hid hO5
      have HE5 := hid hE
      clear hO5
      (first | (have hK := KC.step (n := w.heap.size + 3) (by with_reducible assumption) hE) | (have hK := KC.step (KC.step (n := w.heap.size + 3) (by with_reducible assumption) (ext_alloc1 _ _)) hE) | (have hK := KC.step (KC.refl (n := w.heap.size + 3) (by simp)) hE)); have hC := hK.cell; have hF := hK.fro; have hX := hK.ext
      have z5 := hK.size
      have z25 := HE5.out.size
      have z50 : w.heap.size < w5.heap.size := by omega
      have z51 : w.heap.size + 1 < w5.heap.size := by omega
      have z52 : w.heap.size + 1 + 1 < w5.heap.size := by omega
      go_wp2_with (at_builtin; refine Halt.mk ?_)
      unfold Halt
      clear hC hF hX hK hE
      have R5 := hid (Blk.new w5 27 #[.int .i64 ma, .int .i64 fi, .int .i64 le, .slice A5 nf c5])
      have EU := hid (ext_alloc1 w5 (.cells #[.int .i64 ma, .int .i64 fi, .int .i64 le, .slice A5 nf c5] 27))
      obtain ⟨V, hV⟩ : ∃ V, w5.alloc (.cells #[.int .i64 ma, .int .i64 fi, .int .i64 le, .slice A5 nf c5] 27) = V := ⟨_, rfl⟩
      have zV : V.heap.size = w5.heap.size + 1 := by rw [← hV]; simp
      rw [hV] at R5 EU ⊢
      clear hV
      have OV := hid (HO5.out.ext EU.out)
      have FB := hid (show Blk (V.alloc (.cells #[.int .i64 fd, .int .i64 hl, .int .i64 hh, .int .i64 ol, .int .i64 oh] 75)) (w5.heap.size + 1) 75 #[.int .i64 fd, .int .i64 hl, .int .i64 hh, .int .i64 ol, .int .i64 oh] by rw [← zV]; exact Blk.new V _ _)
      refine wpList_app1Fl _ rfl _ _ rfl w2.heap.size (.slice A5 nf c5) fs rfl (OV.out.ext (ext_alloc1 _ _)) (w5.heap.size + 1) ⟨fd, hl, hh, ol, oh⟩ rfl FB.out (by rw [HNF.out]; omega) (by rw [World.size_alloc]; omega) ?_
      intro v6 w6 hO6 hg hvo
      have E6 := hid (show Ext w2 w6 from OV.out.extApp (HE5.out.trans EU.out) (Nat.le_refl _) hg)
      have R6 := hid ((R5.out.alloc (.cells #[.int .i64 fd, .int .i64 hl, .int .i64 hh, .int .i64 ol, .int .i64 oh] 75)).grown hg (fun x => by have := (HO5.out.block _ x.symm).2; omega))
      obtain ⟨A6, c6, hv6, -, hf6⟩ := ownFl hO6
      rw [List.length_append, HNF.out] at hv6
      simp only [List.length_cons, List.length_nil, Nat.zero_add] at hv6
      subst hv6
      have OV6 := hid hO6
      clear hO6 hg FB OV R5 EU hf6 HCP HPF HPU HBS
      have hK6 := KC.step (n := w.heap.size + 3) HK2.out E6.out
      have hC6 := hK6.cell
      have m0 : w6.cell? ⟨w.heap.size, 0, none⟩ = some (.int .i64 sh) := by rw [hC6 _ _ (by omega)]; go_simp
      have m1 : w6.cell? ⟨w.heap.size, 1, none⟩ = some (.int .i64 us) := by rw [hC6 _ _ (by omega)]; go_simp
      have m2 : w6.cell? ⟨w.heap.size, 2, none⟩ = some (.int .i64 be) := by rw [hC6 _ _ (by omega)]; go_simp
      have m3 : w6.cell? ⟨w.heap.size, 3, none⟩ = some (.slice A nw c) := by rw [hC6 _ _ (by omega)]; go_simp
      have l0 : w6.cell? ⟨w.heap.size + 1 + 1, 0, none⟩ = some (.int .i64 D) := by rw [hC6 _ _ (by omega)]; go_simp
      obtain ⟨r0, r1, r2, r3⟩ : _ ∧ _ ∧ _ ∧ _ := ⟨R6.out.cell 0, R6.out.cell 1, R6.out.cell 2, R6.out.cell 3⟩
      have rf := R6.out.fro 3
      have rz := R6.out.lt
      simp only [List.getElem?_toArray, List.getElem?_cons_zero, List.getElem?_cons_succ] at r0 r1 r2 r3
      clear hC6
      have n0 : ¬ w.heap.size = w5.heap.size := by omega
      have n1 : ¬ w.heap.size + 1 + 1 = w5.heap.size := by omega
      go_wp2_with fail
      have hne6 : (Value.slice A6 (nf + 1) c6).ownBlock ≠ some w5.heap.size := by
        intro h
        rcases hvo with h' | h'
        · rw [h'] at h
          have := (HO5.out.block _ h).2
          omega
        · rw [h'] at h
          injection h with h
          rw [World.size_alloc] at h
          omega
      have E7 := hid (show Ext w2 (w6.setCell ⟨w5.heap.size, 3, none⟩ (.slice A6 (nf + 1) c6)) from E6.out.set (p := ⟨w5.heap.size, 3, none⟩) (by dsimp only; omega) _)
      have R7 := hid (show Blk (w6.setCell ⟨w5.heap.size, 3, none⟩ (.slice A6 (nf + 1) c6)) w5.heap.size 27 #[.int .i64 ma, .int .i64 fi, .int .i64 le, .slice A6 (nf + 1) c6] by have h := R6.out.setAt 3 (.slice A6 (nf + 1) c6); simp only [List.setIfInBounds_toArray, List.set_cons_zero, List.set_cons_succ] at h; exact h)
      have OV7 := OV6.out.otherNe (p := ⟨w5.heap.size, 3, none⟩) hne6 (.slice A6 (nf + 1) c6)
      obtain ⟨A7, c7, hv7, -, hf7⟩ := ownFl OV7
      have hA7 : A6 = A7 := by injection hv7
      subst hA7
      have HF7 := hid hf7
      clear hf7 hv7 OV7 hne6 hvo OV6 R6 E6 HO5 m0 m1 m2 m3 l0 r0 r1 r2 r3 rf hK6 c7
      obtain ⟨w7, hw7⟩ : ∃ w7, w6.setCell ⟨w5.heap.size, 3, none⟩ (.slice A6 (nf + 1) c6) = w7 := ⟨_, rfl⟩
      rw [hw7] at E7 R7 HF7 ⊢
      clear hw7
      have hK7 := KC.step (n := w.heap.size + 3) HK2.out E7.out
      have hC7 := hK7.cell
      have m0 : w7.cell? ⟨w.heap.size, 0, none⟩ = some (.int .i64 sh) := by rw [hC7 _ _ (by omega)]; go_simp
      have m1 : w7.cell? ⟨w.heap.size, 1, none⟩ = some (.int .i64 us) := by rw [hC7 _ _ (by omega)]; go_simp
      have m2 : w7.cell? ⟨w.heap.size, 2, none⟩ = some (.int .i64 be) := by rw [hC7 _ _ (by omega)]; go_simp
      have m3 : w7.cell? ⟨w.heap.size, 3, none⟩ = some (.slice A nw c) := by rw [hC7 _ _ (by omega)]; go_simp
      have l0 : w7.cell? ⟨w.heap.size + 1 + 1, 0, none⟩ = some (.int .i64 D) := by rw [hC7 _ _ (by omega)]; go_simp
      obtain ⟨r0, r1, r2, r3⟩ : _ ∧ _ ∧ _ ∧ _ := ⟨R7.out.cell 0, R7.out.cell 1, R7.out.cell 2, R7.out.cell 3⟩
      have rz := R7.out.lt
      simp only [List.getElem?_toArray, List.getElem?_cons_zero, List.getElem?_cons_succ] at r0 r1 r2 r3
      have y0 : w.heap.size < w7.heap.size := by omega
      have y2 : w.heap.size + 1 + 1 < w7.heap.size := by omega
      obtain ⟨HC8, HP8, HU8⟩ := HMR.out A6 c6 w7 (HE4.out.trans E7.out) HF7.out
      replace HC8 := hid HC8
      replace HP8 := hid HP8
      replace HU8 := hid HU8
      have HE7 := hid (HE4.out.trans E7.out)
      clear hC7 hK7 R7 HF7 HMR HK2 E7 HE5 HE4 n0 n1 z4 z5 z25 z50 z51 z52 zV HCD HFR HNF
      refine Calls.mono (HC8.out _ (Ext.refl _)) ?_
      rintro e w8 ⟨rfl, hE⟩
      (first | (have hK := KC.step (n := w7.heap.size) (by with_reducible assumption) hE) | (have hK := KC.step (KC.step (n := w7.heap.size) (by with_reducible assumption) (ext_alloc1 _ _)) hE) | (have hK := KC.step (KC.refl (n := w7.heap.size) (by simp)) hE)); have hC := hK.cell; have hF := hK.fro; have hX := hK.ext
      by_cases h2 : E2 = 0
      case neg =>
        have hne2 : (E2 != 0) = true := by simp [h2]
        clear HMF HTK
        go_wp2_with (go_at_call 14; refine (HWK.out _).mono ?_; rintro e w2 ⟨rfl, hE⟩; (first | (have hK := KC.step (n := w7.heap.size) (by with_reducible assumption) hE) | (have hK := KC.step (KC.step (n := w7.heap.size) (by with_reducible assumption) (ext_alloc1 _ _)) hE) | (have hK := KC.step (KC.refl (n := w7.heap.size) (by simp)) hE)); have hC := hK.cell; have hF := hK.fro; have hX := hK.ext)
        go_ret
        exact ⟨rfl, HE7.out.trans (by (repeat' (first | with_reducible assumption | with_reducible exact Ext.refl _ | with_reducible refine Ext.alloc ?_ _ | with_reducible refine Ext.set ?_ ?_ _ | with_reducible refine Ext.drew ?_ | with_reducible refine Ext.drewN ?_ _ | with_reducible refine Ext.trans ?_ (by assumption) | (dsimp only; omega))))⟩
      subst h2
      obtain ⟨h31, hmx⟩ := HMF.out rfl
      have ht2 := HTK.out rfl
      subst ht2
      clear HMF HTK
      have hm2 : U2 ≤ U := by omega
      clear hmx
      cases S3
      case false =>
        go_wp2_with (first
          | (go_at_call 19; refine (HP8.out _ (by (repeat' (first | with_reducible assumption | with_reducible exact Ext.refl _ | with_reducible refine Ext.alloc ?_ _ | with_reducible refine Ext.set ?_ ?_ _ | with_reducible refine Ext.drew ?_ | with_reducible refine Ext.drewN ?_ _ | with_reducible refine Ext.trans ?_ (by assumption) | (dsimp only; omega))))).mono ?_; rintro e w2 ⟨rfl, hE⟩; (first | (have hK := KC.step (n := w7.heap.size) (by with_reducible assumption) hE) | (have hK := KC.step (KC.step (n := w7.heap.size) (by with_reducible assumption) (ext_alloc1 _ _)) hE) | (have hK := KC.step (KC.refl (n := w7.heap.size) (by simp)) hE)); have hC := hK.cell; have hF := hK.fro; have hX := hK.ext)
          | (go_at_call 21; refine (HU8.out _ (by (repeat' (first | with_reducible assumption | with_reducible exact Ext.refl _ | with_reducible refine Ext.alloc ?_ _ | with_reducible refine Ext.set ?_ ?_ _ | with_reducible refine Ext.drew ?_ | with_reducible refine Ext.drewN ?_ _ | with_reducible refine Ext.trans ?_ (by assumption) | (dsimp only; omega))))).mono ?_; rintro e w2 ⟨rfl, hE⟩; (first | (have hK := KC.step (n := w7.heap.size) (by with_reducible assumption) hE) | (have hK := KC.step (KC.step (n := w7.heap.size) (by with_reducible assumption) (ext_alloc1 _ _)) hE) | (have hK := KC.step (KC.refl (n := w7.heap.size) (by simp)) hE)); have hC := hK.cell; have hF := hK.fro; have hX := hK.ext)
          | (go_at_call 14; refine (HWK.out _).mono ?_; rintro e w2 ⟨rfl, hE⟩; (first | (have hK := KC.step (n := w7.heap.size) (by with_reducible assumption) hE) | (have hK := KC.step (KC.step (n := w7.heap.size) (by with_reducible assumption) (ext_alloc1 _ _)) hE) | (have hK := KC.step (KC.refl (n := w7.heap.size) (by simp)) hE)); have hC := hK.cell; have hF := hK.fro; have hX := hK.ext))
        all_goals (go_ret; exact ⟨ret_bool (by simp [*]), HE7.out.trans (by (repeat' (first | with_reducible assumption | with_reducible exact Ext.refl _ | with_reducible refine Ext.alloc ?_ _ | with_reducible refine Ext.set ?_ ?_ _ | with_reducible refine Ext.drew ?_ | with_reducible refine Ext.drewN ?_ _ | with_reducible refine Ext.trans ?_ (by assumption) | (dsimp only; omega))))⟩)
      have h1 := h31 rfl
      clear h31
      first | (exfalso; exact absurd h1 (by decide)) | (subst h1; go_wp2_with (first | (go_at_call 19; refine (HP8.out _ (by (repeat' (first | with_reducible assumption | with_reducible exact Ext.refl _ | with_reducible refine Ext.alloc ?_ _ | with_reducible refine Ext.set ?_ ?_ _ | with_reducible refine Ext.drew ?_ | with_reducible refine Ext.drewN ?_ _ | with_reducible refine Ext.trans ?_ (by assumption) | (dsimp only; omega))))).mono ?_; rintro e w2 ⟨rfl, hE⟩; (first | (have hK := KC.step (n := w7.heap.size) (by with_reducible assumption) hE) | (have hK := KC.step (KC.step (n := w7.heap.size) (by with_reducible assumption) (ext_alloc1 _ _)) hE) | (have hK := KC.step (KC.refl (n := w7.heap.size) (by simp)) hE)); have hC := hK.cell; have hF := hK.fro; have hX := hK.ext) | (go_at_call 21; refine (HU8.out _ (by (repeat' (first | with_reducible assumption | with_reducible exact Ext.refl _ | with_reducible refine Ext.alloc ?_ _ | with_reducible refine Ext.set ?_ ?_ _ | with_reducible refine Ext.drew ?_ | with_reducible refine Ext.drewN ?_ _ | with_reducible refine Ext.trans ?_ (by assumption) | (dsimp only; omega))))).mono ?_; rintro e w2 ⟨rfl, hE⟩; (first | (have hK := KC.step (n := w7.heap.size) (by with_reducible assumption) hE) | (have hK := KC.step (KC.step (n := w7.heap.size) (by with_reducible assumption) (ext_alloc1 _ _)) hE) | (have hK := KC.step (KC.refl (n := w7.heap.size) (by simp)) hE)); have hC := hK.cell; have hF := hK.fro; have hX := hK.ext) | (go_at_call 14; refine (HWK.out _).mono ?_; rintro e w2 ⟨rfl, hE⟩; (first | (have hK := KC.step (n := w7.heap.size) (by with_reducible assumption) hE) | (have hK := KC.step (KC.step (n := w7.heap.size) (by with_reducible assumption) (ext_alloc1 _ _)) hE) | (have hK := KC.step (KC.refl (n := w7.heap.size) (by simp)) hE)); have hC := hK.cell; have hF := hK.fro; have hX := hK.ext)); all_goals (go_ret; exact ⟨ret_bool (by simp [*]), HE7.out.trans (by (repeat' (first | with_reducible assumption | with_reducible exact Ext.refl _ | with_reducible refine Ext.alloc ?_ _ | with_reducible refine Ext.set ?_ ?_ _ | with_reducible refine Ext.drew ?_ | with_reducible refine Ext.drewN ?_ _ | with_reducible refine Ext.trans ?_ (by assumption) | (dsimp only; omega))))⟩)) | (clear h1; go_wp2_with (first | (go_at_call 19; refine (HP8.out _ (by (repeat' (first | with_reducible assumption | with_reducible exact Ext.refl _ | with_reducible refine Ext.alloc ?_ _ | with_reducible refine Ext.set ?_ ?_ _ | with_reducible refine Ext.drew ?_ | with_reducible refine Ext.drewN ?_ _ | with_reducible refine Ext.trans ?_ (by assumption) | (dsimp only; omega))))).mono ?_; rintro e w2 ⟨rfl, hE⟩; (first | (have hK := KC.step (n := w7.heap.size) (by with_reducible assumption) hE) | (have hK := KC.step (KC.step (n := w7.heap.size) (by with_reducible assumption) (ext_alloc1 _ _)) hE) | (have hK := KC.step (KC.refl (n := w7.heap.size) (by simp)) hE)); have hC := hK.cell; have hF := hK.fro; have hX := hK.ext) | (go_at_call 21; refine (HU8.out _ (by (repeat' (first | with_reducible assumption | with_reducible exact Ext.refl _ | with_reducible refine Ext.alloc ?_ _ | with_reducible refine Ext.set ?_ ?_ _ | with_reducible refine Ext.drew ?_ | with_reducible refine Ext.drewN ?_ _ | with_reducible refine Ext.trans ?_ (by assumption) | (dsimp only; omega))))).mono ?_; rintro e w2 ⟨rfl, hE⟩; (first | (have hK := KC.step (n := w7.heap.size) (by with_reducible assumption) hE) | (have hK := KC.step (KC.step (n := w7.heap.size) (by with_reducible assumption) (ext_alloc1 _ _)) hE) | (have hK := KC.step (KC.refl (n := w7.heap.size) (by simp)) hE)); have hC := hK.cell; have hF := hK.fro; have hX := hK.ext) | (go_at_call 14; refine (HWK.out _).mono ?_; rintro e w2 ⟨rfl, hE⟩; (first | (have hK := KC.step (n := w7.heap.size) (by with_reducible assumption) hE) | (have hK := KC.step (KC.step (n := w7.heap.size) (by with_reducible assumption) (ext_alloc1 _ _)) hE) | (have hK := KC.step (KC.refl (n := w7.heap.size) (by simp)) hE)); have hC := hK.cell; have hF := hK.fro; have hX := hK.ext)); all_goals (go_ret; exact ⟨ret_bool (by simp [*]), HE7.out.trans (by (repeat' (first | with_reducible assumption | with_reducible exact Ext.refl _ | with_reducible refine Ext.alloc ?_ _ | with_reducible refine Ext.set ?_ ?_ _ | with_reducible refine Ext.drew ?_ | with_reducible refine Ext.drewN ?_ _ | with_reducible refine Ext.trans ?_ (by assumption) | (dsimp only; omega))))⟩))
end Go.Proofs.YtdhljpngkeobcaaGreat
