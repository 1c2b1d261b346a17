/- Which truths are possible: the code. -/
import Derived.Test.YtcfijidlbimckaaDoorAllows
import Derived.Test.YtcfijidlbimckaaDoorOwn
set_option linter.unusedSimpArgs false
set_option linter.unusedVariables false
namespace Go.Proofs.YtcfijidlbimckaaDoor
open Go.RowKit
attribute [local go_sem] Oper.semAt_some
/-- Water that is valid. -/
structure WOk (d : Wat) : Prop where
  n1 : 1 ≤ d.spr.length
  n8 : d.spr.length ≤ 8
  m20 : d.smp.length ≤ 20
  mix : ∀ i, i < d.smp.length → 1 ≤ (d.smp.getD i zeroSmp).mix ∧ (d.smp.getD i zeroSmp).mix ≤ ((2 ^ d.spr.length - 1 : Nat) : Int)
  spr : ∀ i, i < d.spr.length → 0 ≤ (d.spr.getD i zeroSpr).low ∧ (d.spr.getD i zeroSpr).low ≤ (d.spr.getD i zeroSpr).high ∧ (d.spr.getD i zeroSpr).high ≤ 1000 ∧ 0 ≤ (d.spr.getD i zeroSpr).fuel ∧ (d.spr.getD i zeroSpr).fuel ≤ 1000
  most : 0 ≤ d.most ∧ d.most ≤ 8
  miss : 0 ≤ d.miss ∧ d.miss ≤ 4
  al : 0 ≤ d.al ∧ d.al ≤ 4
theorem WOk.p256 {d : Wat} (h : WOk d) : 2 ^ d.spr.length - 1 < 256 := by
  have h1 : 2 ^ d.spr.length ≤ 2 ^ 8 := Nat.pow_le_pow_right (n := 2) (by decide) h.n8
  have h2 : 0 < 2 ^ d.spr.length := Nat.two_pow_pos _
  omega
theorem WOk.mix255 {d : Wat} (h : WOk d) (i : Nat) (hi : i < d.smp.length) : 0 ≤ (d.smp.getD i zeroSmp).mix ∧ (d.smp.getD i zeroSmp).mix ≤ 255 := by
  have h1 := h.mix i hi
  have h2 := h.p256
  omega
/-- Whether a truth is possible for the samples S. -/
def posB (d : Wat) (S t : Nat) : Bool := decide ((pc t : Int) ≤ d.most) && allowB d S t
def possL (d : Wat) (S : Nat) : List Nat := (List.range (2 ^ d.spr.length)).filter (posB d S)

set_option maxHeartbeats 1000000 in
theorem springs_any (d : Wat) (A : WA) (T : Value) (hn : d.spr.length ≤ 30) (w : World) :
    Calls Tryd.prog 52 #[fval d A T] w fun e w' => e = .returned (.int .u64 ((2 ^ d.spr.length - 1 : Nat) : Int)) ∧ Ext w w' := by
  obtain ⟨spr, most, miss, al, smp⟩ := d
  unfold fval fcells
  dsimp only at hn ⊢
  generalize spr.length = n at *
  generalize smp.length = m at *
  go_enter Tryd.func52, Tryd.ntmps52
  go_wp2_with (go_at_call 62; refine (first_any n hn _).mono ?_; rintro e w2 ⟨rfl, rfl⟩)
  go_ret
  exact ⟨rfl, by (repeat' (first | with_reducible assumption | with_reducible exact Ext.refl _ | with_reducible refine Ext.alloc ?_ _ | with_reducible refine Ext.set ?_ ?_ _ | with_reducible refine Ext.drew ?_ | with_reducible refine Ext.drewN ?_ _ | with_reducible refine Ext.trans ?_ (by assumption) | (dsimp only; omega)))⟩
set_option maxHeartbeats 1000000 in
theorem samples_any (d : Wat) (A : WA) (T : Value) (hn : d.smp.length ≤ 30) (w : World) :
    Calls Tryd.prog 69 #[fval d A T] w fun e w' => e = .returned (.int .u64 ((2 ^ d.smp.length - 1 : Nat) : Int)) ∧ Ext w w' := by
  obtain ⟨spr, most, miss, al, smp⟩ := d
  unfold fval fcells
  dsimp only at hn ⊢
  generalize spr.length = n at *
  generalize smp.length = m at *
  go_enter Tryd.func69, Tryd.ntmps69
  go_wp2_with (go_at_call 62; refine (first_any m hn _).mono ?_; rintro e w2 ⟨rfl, rfl⟩)
  go_ret
  exact ⟨rfl, by (repeat' (first | with_reducible assumption | with_reducible exact Ext.refl _ | with_reducible refine Ext.alloc ?_ _ | with_reducible refine Ext.set ?_ ?_ _ | with_reducible refine Ext.drew ?_ | with_reducible refine Ext.drewN ?_ _ | with_reducible refine Ext.trans ?_ (by assumption) | (dsimp only; omega)))⟩

/-- The memory of the loop in possible. -/
structure PsInv (w : World) (fc : Array Value) (S : Nat) (xs : List Nat) (W : World) : Prop where
  ext : Ext w W
  b0 : Blk W w.heap.size 72 fc
  b1 : Blk W (w.heap.size + 1) 76 #[.int .u64 S]
  b2 : ∃ v, Blk W (w.heap.size + 1 + 1) 70 #[v] ∧ OwnU W (w.heap.size + 1 + 1 + 1) v xs
theorem PsInv.step {w W W' : World} {fc : Array Value} {S : Nat} {xs : List Nat} (h : PsInv w fc S xs W) (e : Ext W W') : PsInv w fc S xs W' := by
  obtain ⟨h1, h2, h3, v, h4, h5⟩ := h
  exact ⟨h1.trans e, h2.ext e, h3.ext e, v, h4.ext e, h5.ext e⟩

theorem sK {W X : World} (e : Ext W X) : (∀ b o, b < W.heap.size → X.cell? ⟨b, o, none⟩ = W.cell? ⟨b, o, none⟩) ∧ W.heap.size ≤ X.heap.size ∧ Ext W X := ⟨kcell (w1 := W) (W := W) (fun _ _ _ => rfl) (Nat.le_refl _) e, e.size, e⟩
set_option maxRecDepth 100000 in
set_option maxHeartbeats 2000000 in
theorem possible_any (d : Wat) (A : WA) (T : Value) (S : Nat) (hok : WOk d) (hS : S < 2 ^ d.smp.length) (w : World) (hT : TabW w) (hW : WIn w d A) :
    Calls Tryd.prog 68 #[fval d A T, .int .u64 S] w fun e w' => ∃ v, e = .returned v ∧ OwnU w' w.heap.size v (possL d S) ∧ Ext w w' := by
  have HAL := hid (fun (t : Nat) (ht : t < 256) (W : World) (hE : Ext w W) => allows_any d A T S t hS hok.m20 hok.mix255 ht W (hT.ext hE) (hW.ext hE))
  have HSP := hid (fun (W : World) => springs_any d A T (by have := hok.n8; omega) W)
  have HTW := hid hT
  have h256 := hok.p256
  have HFU := hid (subsL_full hok.n8)
  have HPO := hid (show ∀ pre x, (pre ++ [x]).filter (posB d S) = pre.filter (posB d S) ++ if posB d S x = true then [x] else [] from fun pre x => by
    rw [List.filter_append, List.filter_cons, List.filter_nil])
  have HPB := hid (show ∀ x, posB d S x = (decide ((pc x : Int) ≤ d.most) && allowB d S x) from fun _ => rfl)
  have HPL := hid (show possL d S = (List.range (2 ^ d.spr.length)).filter (posB d S) from rfl)
  rw [HPL.out]
  clear hT hW hS hok HPL
  generalize allowB d S = ab at *
  generalize posB d S = pb at *
  obtain ⟨spr, most, miss, al, smp⟩ := d
  obtain ⟨SA, sc, MA, mc⟩ := A
  unfold fval fcells at *
  dsimp only at *
  generalize spr.length = n at *
  generalize smp.length = m at *
  refine (callsIn_wide (n := 6)).1 ?_
  refine callsIn_of_wp_marks Tryd.func68 rfl trivial ?_ rfl
  simp only [Tryd.ntmps68, List.size_toArray, List.length_cons, List.length_nil, Nat.reduceAdd, Nat.reduceSub, Array.replicate_succ, Array.replicate_zero, List.push_toArray, List.append_toArray, List.nil_append, List.cons_append]
  gi_wp2_with fail
  refine ⟨trivial, (callsIn_wide.2 (HSP.out _)).mono ?_⟩
  rintro e w1 ⟨rfl, hE⟩
  obtain ⟨q0, q1, q2⟩ := blks3 w (.cells #[.slice SA n sc, .int .i64 most, .int .i64 miss, .int .i64 al, .slice MA m mc, T] 72) (.cells #[.int .u64 S] 76) (.cells #[.slice none 0 0] 70)
  have E1 : Ext w w1 := by (repeat' (first | with_reducible assumption | with_reducible exact Ext.refl _ | with_reducible refine Ext.alloc ?_ _ | with_reducible refine Ext.set ?_ ?_ _ | with_reducible refine Ext.drew ?_ | with_reducible refine Ext.drewN ?_ _ | with_reducible refine Ext.trans ?_ (by assumption) | (dsimp only; omega)))
  have HI0 := hid (show PsInv w #[.slice SA n sc, .int .i64 most, .int .i64 miss, .int .i64 al, .slice MA m mc, T] S (([] : List Nat).filter pb) w1 from ⟨E1, blk_ext q0 hE, blk_ext q1 hE, _, blk_ext q2 hE, OwnU.nil _ _⟩)
  have hz : w.heap.size + 3 ≤ w1.heap.size := by have := hE.size; simpa using this
  clear q0 q1 q2 hE
  gi_wp2
  refine range_slot (enc := encU) (xs := subsL (2 ^ n - 1)) (by omega) rfl (enters_of Tryd.func59 (by kernel_rfl) rfl) (by simp) (subsets_gives _ (by omega) (2 ^ n - 1) h256)
    (fun pre W => PsInv w #[.slice SA n sc, .int .i64 most, .int .i64 miss, .int .i64 al, .slice MA m mc, T] S (pre.filter pb) W)
    ?stays (fun pre W h => HTW.out.ext h.ext) HI0.out ?body ?done
  case stays =>
    rintro pre X Y row ⟨h1, h2, h3, v, h4, h5⟩ hg hr
    exact ⟨own_ext E1.size h1 hg hr, h2.own hg hr, h3.own hg hr, v, h4.own hg hr, h5.own hg hr⟩
  case body =>
    rintro l pre x suf W hl2 hxs hI
    have hx : x < 256 := by
      have h : x ∈ subsL (2 ^ n - 1) := by rw [hxs]; simp
      exact List.mem_range.1 (List.mem_filter.1 h).1
    have hlen : (pre.filter pb).length ≤ 256 := by
      have h := congrArg List.length hxs
      have h1 : (subsL (2 ^ n - 1)).length ≤ 256 := by unfold subsL; exact Nat.le_trans (List.length_filter_le _ _) (by simp)
      have h2 := List.length_filter_le pb pre
      simp at h
      omega
    have HPX := hid (HPO.out pre x)
    have HBX := hid (HPB.out x)
    generalize (pre ++ [x]).filter pb = ys1 at *
    generalize pre.filter pb = ys at *
    have HI := hid hI
    have HAX := hid (HAL.out x hx)
    have HSZ := hid (fun (W : World) => size_any x hx W)
    have HPC := hid (pc_le x)
    generalize pb x = bx at *
    generalize ab x = ax at *
    generalize pc x = px at *
    have c0 := hI.b0.cell 0
    have c1 := hI.b0.cell 1
    have c2 := hI.b0.cell 2
    have c3 := hI.b0.cell 3
    have c4 := hI.b0.cell 4
    have c5 := hI.b0.cell 5
    have c6 := hI.b1.cell 0
    simp only [List.getElem?_toArray, List.getElem?_cons_zero, List.getElem?_cons_succ] at c0 c1 c2 c3 c4 c5 c6
    have z0 := hI.b0.lt
    have z1 := hI.b1.lt
    have z2 : w.heap.size + 1 + 1 < W.heap.size := by obtain ⟨_, _, _, v, h, _⟩ := hI; exact h.lt
    have E2 := hI.ext
    clear hI HI0 hxs
    simp only [encU, List.setIfInBounds_toArray, List.set_cons_zero, List.set_cons_succ]
    gi_wp2_with fail
    refine wpIn_region_held (S := fun w' => (∀ b o, b < W.heap.size → w'.cell? ⟨b, o, none⟩ = W.cell? ⟨b, o, none⟩) ∧ W.heap.size ≤ w'.heap.size ∧ Ext W w') (by kernel_rfl) (by kernel_rfl) (fun ⟨_, _, h⟩ => by cases h.1) ?hS0 (fun hHeld => ?_)
    case hS0 => exact ⟨fun _ _ _ => rfl, Nat.le_refl _, Ext.drew (Ext.refl _)⟩
    refine wpAnyH_take (i := 0) (oi := _) (v := ?v0a) rfl (by kernel_rfl) (by kernel_rfl) (by kernel_rfl) (fun _ _ _ h => h) (Or.inl ⟨by rfl, ?y0a⟩) (by assumption) ?r0a
    case y0a => (intro w' hSw; (try dsimp only at hSw); go_simp; (try with_reducible rfl))
    try simp only [Act.put, List.getElem_toArray, List.getElem_cons_zero, List.getElem_cons_succ, List.setIfInBounds_toArray, List.set_cons_zero, List.set_cons_succ]
    refine wpAnyH_take (i := 2) (oi := _) (v := ?v2a) rfl (by kernel_rfl) (by kernel_rfl) (by kernel_rfl) (fun _ _ _ h => h) (Or.inl ⟨by rfl, ?y2a⟩) (by assumption) ?r2a
    case y2a => (intro w' hSw; (try dsimp only at hSw); go_simp; (try with_reducible rfl))
    try simp only [Act.put, List.getElem_toArray, List.getElem_cons_zero, List.getElem_cons_succ, List.setIfInBounds_toArray, List.set_cons_zero, List.set_cons_succ]
    refine wpAnyH_take (i := 3) (oi := _) (v := ?v3a) rfl (by kernel_rfl) (by kernel_rfl) (by kernel_rfl) (fun _ _ _ h => h) (Or.inl ⟨by rfl, ?y3a⟩) (by assumption) ?r3a
    case y3a => (intro w' hSw; (try dsimp only at hSw); go_simp; (try with_reducible rfl))
    try simp only [Act.put, List.getElem_toArray, List.getElem_cons_zero, List.getElem_cons_succ, List.setIfInBounds_toArray, List.set_cons_zero, List.set_cons_succ]
    refine wpAnyH_take (i := 4) (oi := _) (v := ?v4a) rfl (by kernel_rfl) (by kernel_rfl) (by kernel_rfl) (fun _ _ _ h => h) (Or.inl ⟨by rfl, ?y4a⟩) (by assumption) ?r4a
    case y4a => (intro w' hSw; (try dsimp only at hSw); go_simp; (try with_reducible rfl))
    try simp only [Act.put, List.getElem_toArray, List.getElem_cons_zero, List.getElem_cons_succ, List.setIfInBounds_toArray, List.set_cons_zero, List.set_cons_succ]
    refine wpAnyH_ready (rs := [1]) (by kernel_rfl) (by simp) ?_
    refine AllReadyH.cons (o := _) rfl (fun K hK => ?_) AllReadyH.nil
    go_simp
    refine (HSZ.out _).mono ?_
    rintro e w2 ⟨rfl, rfl⟩
    dsimp only
    refine hK.out _ _ (sK (Ext.drew (Ext.refl _))) (fun hHeld2 => ?_)
    clear hK K
    try simp only [Act.put, List.getElem_toArray, List.getElem_cons_zero, List.getElem_cons_succ, List.setIfInBounds_toArray, List.set_cons_zero, List.set_cons_succ]
    refine wpAnyH_take (i := 5) (oi := _) (v := ?v5b) rfl (by kernel_rfl) (by kernel_rfl) (by kernel_rfl) (fun _ _ _ h => h) (Or.inl ⟨by rfl, ?y5b⟩) (by assumption) ?r5b
    case y5b => (intro w' hSw; (try dsimp only at hSw); go_simp; (try with_reducible rfl))
    try simp only [Act.put, List.getElem_toArray, List.getElem_cons_zero, List.getElem_cons_succ, List.setIfInBounds_toArray, List.set_cons_zero, List.set_cons_succ]
    refine wpAnyH_take (i := 6) (oi := _) (v := ?v6b) rfl (by kernel_rfl) (by kernel_rfl) (by kernel_rfl) (fun _ _ _ h => h) (Or.inl ⟨by rfl, ?y6b⟩) (by assumption) ?r6b
    case y6b => (intro w' hSw; (try dsimp only at hSw); go_simp; (try with_reducible rfl))
    try simp only [Act.put, List.getElem_toArray, List.getElem_cons_zero, List.getElem_cons_succ, List.setIfInBounds_toArray, List.set_cons_zero, List.set_cons_succ]
    by_cases h1 : (px : Int) ≤ most
    · have h1' : decide ((px : Int) ≤ most) = true := decide_eq_true h1
      simp only [h1']
      refine wpAnyH_take (i := 7) (oi := _) (v := ?v7c) rfl (by kernel_rfl) (by kernel_rfl) (by kernel_rfl) (fun _ _ _ h => h) (Or.inl ⟨by rfl, ?y7c⟩) (by assumption) ?r7c
      case y7c => (intro w' hSw; (try dsimp only at hSw); go_simp; (try with_reducible rfl))
      try simp only [Act.put, List.getElem_toArray, List.getElem_cons_zero, List.getElem_cons_succ, List.setIfInBounds_toArray, List.set_cons_zero, List.set_cons_succ]
      refine wpAnyH_take (i := 8) (oi := _) (v := ?v8c) rfl (by kernel_rfl) (by kernel_rfl) (by kernel_rfl) (fun _ _ _ h => h) (Or.inl ⟨by rfl, ?y8c⟩) (by assumption) ?r8c
      case y8c => (intro w' hSw; (try dsimp only at hSw); go_simp; (try with_reducible rfl))
      try simp only [Act.put, List.getElem_toArray, List.getElem_cons_zero, List.getElem_cons_succ, List.setIfInBounds_toArray, List.set_cons_zero, List.set_cons_succ]
      refine wpAnyH_take (i := 9) (oi := _) (v := ?v9c) rfl (by kernel_rfl) (by kernel_rfl) (by kernel_rfl) (fun _ _ _ h => h) (Or.inl ⟨by rfl, ?y9c⟩) (by assumption) ?r9c
      case y9c => (intro w' hSw; (try dsimp only at hSw); go_simp; (try with_reducible rfl))
      try simp only [Act.put, List.getElem_toArray, List.getElem_cons_zero, List.getElem_cons_succ, List.setIfInBounds_toArray, List.set_cons_zero, List.set_cons_succ]
      clear hHeld hHeld2
      refine wpAnyH_ready (rs := [10]) (by kernel_rfl) (by simp) ?_
      refine AllReadyH.cons (o := _) rfl (fun K hK => ?_) AllReadyH.nil
      go_simp
      refine (HAX.out _ (E2.drew)).mono ?_
      rintro e w3 ⟨rfl, hE3⟩
      dsimp only
      have X3 : Ext W w3 := (Ext.drew (Ext.refl W)).trans hE3
      refine hK.out _ _ (sK X3) (fun hHeld => ?_)
      clear hK K
      try simp only [Act.put, List.getElem_toArray, List.getElem_cons_zero, List.getElem_cons_succ, List.setIfInBounds_toArray, List.set_cons_zero, List.set_cons_succ]
      refine wpAnyH_take (i := 11) (oi := _) (v := ?v11d) rfl (by kernel_rfl) (by kernel_rfl) (by kernel_rfl) (fun _ _ _ h => h) (Or.inl ⟨by rfl, ?y11d⟩) (by assumption) ?r11d
      case y11d => (intro w' hSw; (try dsimp only at hSw); go_simp; (try with_reducible rfl))
      try simp only [Act.put, List.getElem_toArray, List.getElem_cons_zero, List.getElem_cons_succ, List.setIfInBounds_toArray, List.set_cons_zero, List.set_cons_succ]
      clear hHeld
      refine wpAnyH_done (by kernel_rfl) ?_ _
      obtain ⟨k1, k2, k3, v, hv, hown⟩ := HI.out.step X3
      have K2 := hid k2
      have K3 := hid k3
      have HV := hid hv
      have HOWN := hid hown
      have cv := hv.cell 0
      have fv := hv.fro 0
      have zv := hv.lt
      simp only [List.getElem?_toArray, List.getElem?_cons_zero] at cv
      clear hv hown k2 k3
      cases ax
      · gi_wp2
        exact ⟨(keepsFrom_ext _ X3), by rw [HPX.out, HBX.out, Bool.and_false]; simp; exact HI.out.step X3⟩
      · gi_wp2_with (gi_at_builtin; refine Halt.mk ?_)
        unfold Halt
        refine appInU _ rfl _ _ rfl (w.heap.size + 1 + 1 + 1) v ys rfl (HOWN.out.ext (ext_alloc1 _ _)) ⟨w3.heap.size, 0, none⟩ x rfl (blk_cell (blk_last w3 _) 0) (by omega) (by simp; omega) ?_
        intro v' w5 hown5 hg5
        have hb5 := HOWN.out.blkApp HV.out (by omega) hg5
        have K0' := hid (HOWN.out.blkApp K2.out (by omega) hg5)
        have K1' := hid (HOWN.out.blkApp K3.out (by omega) hg5)
        have KE := hid (HOWN.out.extApp k1 (by omega) hg5)
        have KK := hid ((keepsFrom_ext w1.heap.size X3).trans (HOWN.out.keeps hg5))
        obtain ⟨A9, q9, rfl, -⟩ := hown5.form
        obtain ⟨n9, hn9⟩ : ∃ n9, (ys ++ [x]).length = n9 := ⟨_, rfl⟩
        rw [hn9] at hown5 ⊢
        have HO5 := hid hown5
        clear hn9
        have c9 := hb5.cell 0
        have f9 := hb5.fro 0
        have z9 := hb5.lt
        simp only [List.getElem?_toArray, List.getElem?_cons_zero] at c9
        have HB5 := hid hb5
        clear hb5 hown5 hg5 cv fv zv K2 K3 HV HOWN
        gi_wp2
        refine ⟨KK.out.trans (keepsFrom_set _ _ _ _), KE.out.set (by dsimp only; omega) _, K0'.out.other (by dsimp only; omega) _, K1'.out.other (by dsimp only; omega) _, _, HB5.out.set _, ?_⟩
        rw [HPX.out, HBX.out, h1']
        simp only [Bool.and_self, if_true]
        exact OwnU.other (p := ⟨w.heap.size + 1 + 1, 0, none⟩) HO5.out (by dsimp only; omega) _
    · have h1' : decide ((px : Int) ≤ most) = false := decide_eq_false h1
      simp only [h1']
      refine wpAnyH_take (i := 7) (oi := _) (v := undef) rfl (by kernel_rfl) (by kernel_rfl) (by kernel_rfl) (fun _ _ _ h => h) (Or.inr ⟨by rfl, rfl⟩) (by assumption) ?r7e
      try simp only [Act.put, List.getElem_toArray, List.getElem_cons_zero, List.getElem_cons_succ, List.setIfInBounds_toArray, List.set_cons_zero, List.set_cons_succ]
      refine wpAnyH_take (i := 8) (oi := _) (v := undef) rfl (by kernel_rfl) (by kernel_rfl) (by kernel_rfl) (fun _ _ _ h => h) (Or.inr ⟨by rfl, rfl⟩) (by assumption) ?r8e
      try simp only [Act.put, List.getElem_toArray, List.getElem_cons_zero, List.getElem_cons_succ, List.setIfInBounds_toArray, List.set_cons_zero, List.set_cons_succ]
      refine wpAnyH_take (i := 9) (oi := _) (v := undef) rfl (by kernel_rfl) (by kernel_rfl) (by kernel_rfl) (fun _ _ _ h => h) (Or.inr ⟨by rfl, rfl⟩) (by assumption) ?r9e
      try simp only [Act.put, List.getElem_toArray, List.getElem_cons_zero, List.getElem_cons_succ, List.setIfInBounds_toArray, List.set_cons_zero, List.set_cons_succ]
      refine wpAnyH_take (i := 10) (oi := _) (v := undef) rfl (by kernel_rfl) (by kernel_rfl) (by kernel_rfl) (fun _ _ _ h => h) (Or.inr ⟨by rfl, rfl⟩) (by assumption) ?r10e
      try simp only [Act.put, List.getElem_toArray, List.getElem_cons_zero, List.getElem_cons_succ, List.setIfInBounds_toArray, List.set_cons_zero, List.set_cons_succ]
      refine wpAnyH_take (i := 11) (oi := _) (v := ?v11f) rfl (by kernel_rfl) (by kernel_rfl) (by kernel_rfl) (fun _ _ _ h => h) (Or.inl ⟨by rfl, ?y11f⟩) (by assumption) ?r11f
      case y11f => (intro w' hSw; (try dsimp only at hSw); go_simp; (try with_reducible rfl))
      try simp only [Act.put, List.getElem_toArray, List.getElem_cons_zero, List.getElem_cons_succ, List.setIfInBounds_toArray, List.set_cons_zero, List.set_cons_succ]
      clear hHeld hHeld2
      refine wpAnyH_done (by kernel_rfl) ?_ _
      gi_wp2
      exact ⟨keepsFrom_ext _ (Ext.drew (Ext.refl _)), by rw [HPX.out, HBX.out, h1', Bool.false_and]; simp; exact HI.out.step (Ext.drew (Ext.refl _))⟩
  case done =>
    intro D W hD hI hDk
    obtain ⟨h1, h2, h3, v, h4, h5⟩ := hI
    have c9 := h4.cell 0
    simp only [List.getElem?_toArray, List.getElem?_cons_zero] at c9
    have z9 := h4.lt
    have H5 := hid h5
    have HD := hid hDk
    rw [HFU.out] at H5
    clear h2 h3 h4 h5 hDk HI0
    gi_wp2
    refine ⟨by simp, .inl ⟨_, _, rfl, run_takeDeferred (HD.out), ?_⟩⟩
    refine ⟨_, results_tmp rfl _ _ _, ?_⟩
    exact ⟨v, rfl, (H5.out.putObj HD.out rfl _).low (by omega), ext_putObj h1 (by omega)⟩
end Go.Proofs.YtcfijidlbimckaaDoor
