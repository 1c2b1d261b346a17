/- The samples that contradict each other: the loop. -/
import Derived.Test.YtcfijidlbimckaaDoorPServe
import Derived.RegionIn
set_option linter.unusedSimpArgs false
set_option linter.unusedVariables false
namespace Go.Proofs.YtcfijidlbimckaaDoor
open Go.RowKit
attribute [local go_sem] Oper.semAt_some
/-- One sample less, if no truth is possible without it. -/
def conS (d : Wat) (k i : Nat) : Nat := if possL d (dif k (2 ^ i)) = [] then dif k (2 ^ i) else k
def conL (d : Wat) (is : List Nat) : Nat := is.foldl (conS d) (2 ^ d.smp.length - 1)
theorem conL_snoc (d : Wat) (pre : List Nat) (x : Nat) : conL d (pre ++ [x]) = conS d (conL d pre) x := by unfold conL; rw [List.foldl_append]; rfl
theorem conS_le (d : Wat) (k i : Nat) : conS d k i ≤ k := by
  unfold conS
  split
  · exact dif_le _ _
  · exact Nat.le_refl _
theorem conL_le (d : Wat) : ∀ (is : List Nat) (k : Nat), is.foldl (conS d) k ≤ k
  | [], k => Nat.le_refl _
  | i :: is, k => Nat.le_trans (conL_le d is (conS d k i)) (conS_le d k i)
def conN (d : Wat) : Nat := if truthsL d = [] then conL d (List.range d.smp.length) else 0
structure CoInv (w : World) (q : Nat) (fc : Array Value) (k : Nat) (W : World) : Prop where
  ext : Ext w W
  b0 : Blk W w.heap.size 72 fc
  bq : Blk W q 76 #[.int .u64 k]
  hq : w.heap.size + 1 ≤ q
theorem CoInv.step {w W W' : World} {q : Nat} {fc : Array Value} {k : Nat} (h : CoInv w q fc k W) (e : Ext W W') : CoInv w q fc k W' := ⟨h.ext.trans e, h.b0.ext e, h.bq.ext e, h.hq⟩
theorem CoInv.put {w W : World} {q : Nat} {fc : Array Value} {k : Nat} (h : CoInv w q fc k W) (x : Nat) : CoInv w q fc x (W.setCell ⟨q, 0, none⟩ (.int .u64 x)) := by
  obtain ⟨h0, h1, h2, h3⟩ := h
  exact ⟨h0.set (by dsimp only; omega) _, h1.other (by dsimp only; omega) _, h2.set _, h3⟩
set_option maxRecDepth 100000 in
set_option maxHeartbeats 4000000 in
theorem contra_any (d : Wat) (A : WA) (T : Value) (hok : WOk d) (w : World) (hW : WIn w d A) (hT : TabW w) :
    Calls Tryd.prog 56 #[fval d A T] w fun e w' => e = .returned (.int .u64 (conN d : Nat)) ∧ Ext w w' := by
  have hm20 := hok.m20
  have HSM := hid (fun W => samples_any d A T (by omega) W)
  have HPO := hid (fun S (hS : S < 2 ^ d.smp.length) W (hE : Ext w W) => possible_any d A T S hok hS W (hT.ext hE) (hW.ext hE))
  have HTW := hid hT
  have HCN := hid (show conN d = if possL d (2 ^ d.smp.length - 1) = [] then conL d (List.range d.smp.length) else 0 from rfl)
  have HSN := hid (conL_snoc d)
  have HLE := hid (fun is => (show conL d is ≤ 2 ^ d.smp.length - 1 from conL_le d is _))
  have H0 := hid (show conL d [] = 2 ^ d.smp.length - 1 from rfl)
  have HFU := hid (bitsL_full (k := d.smp.length) (by omega))
  have hpos : 0 < 2 ^ d.smp.length := Nat.two_pow_pos _
  have h20 : 2 ^ d.smp.length ≤ 2 ^ 20 := Nat.pow_le_pow_right (n := 2) (by decide) hm20
  rw [HCN.out]
  clear hW hT hok HCN
  unfold conS at HSN
  generalize conL d = cl at *
  generalize possL d = po at *
  generalize hz : 2 ^ d.smp.length = z at *
  obtain ⟨r, hr⟩ : ∃ r, (if po (z - 1) = [] then cl (List.range d.smp.length) else 0) = r := ⟨_, rfl⟩
  rw [hr]
  have HR := hid hr
  clear hr
  unfold fval fcells at *
  obtain ⟨spr, most, miss, al, smp⟩ := d
  obtain ⟨SA, sc, MA, mc⟩ := A
  dsimp only at *
  generalize spr.length = n at *
  generalize smp.length = m at *
  have HZ := hid hz
  clear hz
  refine (callsIn_wide (n := 6)).1 ?_
  refine callsIn_of_wp_marks Tryd.func56 rfl trivial ?_ rfl
  simp only [Tryd.ntmps56, List.size_toArray, List.length_cons, List.length_nil, Nat.reduceAdd, Nat.reduceSub, Array.replicate_succ, Array.replicate_zero, List.push_toArray, List.append_toArray, List.nil_append, List.cons_append]
  gi_wp2_with fail
  refine ⟨trivial, (callsIn_wide.2 (HSM.out _)).mono ?_⟩
  rintro e w2 ⟨rfl, hE⟩
  have B0 := (Blk.new w 72 #[.slice SA n sc, .int .i64 most, .int .i64 miss, .int .i64 al, .slice MA m mc, T]).ext hE
  have E2 : Ext w w2 := by (repeat' (first | with_reducible assumption | with_reducible exact Ext.refl _ | with_reducible refine Ext.alloc ?_ _ | with_reducible refine Ext.set ?_ ?_ _ | with_reducible refine Ext.drew ?_ | with_reducible refine Ext.drewN ?_ _ | with_reducible refine Ext.trans ?_ (by assumption) | (dsimp only; omega)))
  have hzw := B0.lt
  have c0 := B0.cell 0
  have c1 := B0.cell 1
  have c2 := B0.cell 2
  have c3 := B0.cell 3
  have c4 := B0.cell 4
  have c5 := B0.cell 5
  have cz := B0.lt
  simp only [List.getElem?_toArray, List.getElem?_cons_zero, List.getElem?_cons_succ] at c0 c1 c2 c3 c4 c5
  clear hE
  gi_wp2_with fail
  have HI2 := hid (show CoInv w w2.heap.size #[.slice SA n sc, .int .i64 most, .int .i64 miss, .int .i64 al, .slice MA m mc, T] (cl []) (w2.alloc (.cells #[.int .u64 (z - 1 : Nat)] 76)) from
    ⟨E2.alloc _, B0.alloc _, by rw [H0.out]; exact Blk.new w2 _ _, by omega⟩)
  refine ⟨trivial, (callsIn_wide.2 (HPO.out (z - 1) (by omega) _ (E2.alloc _))).mono ?_⟩
  rintro e w3 ⟨v, rfl, hown, hE⟩
  obtain ⟨TA, tc, rfl, -⟩ := hown.form
  have HI := hid (HI2.out.step hE)
  have E3 : Ext w w3 := (E2.alloc _).trans hE
  have hq3 : w.heap.size + 1 ≤ w2.heap.size := by omega
  obtain ⟨q, hq⟩ : ∃ q, w2.heap.size = q := ⟨_, rfl⟩
  rw [hq] at HI hq3 ⊢
  clear hown hE hq HI2 B0 E2 c0 c1 c2 c3 c4 c5 hzw cz
  have B0 := HI.out.b0
  have c0 := B0.cell 0
  have c1 := B0.cell 1
  have c2 := B0.cell 2
  have c3 := B0.cell 3
  have c4 := B0.cell 4
  have c5 := B0.cell 5
  have cz := B0.lt
  simp only [List.getElem?_toArray, List.getElem?_cons_zero, List.getElem?_cons_succ] at c0 c1 c2 c3 c4 c5
  by_cases hpo : po (z - 1) = []
  case neg =>
    have hl : 0 < (po (z - 1)).length := List.length_pos_iff.2 hpo
    have HR0 := hid (show (0 : Nat) = r by have := HR.out; rwa [if_neg hpo] at this)
    generalize (po (z - 1)).length = k at *
    clear HI HR
    gi_wp2_with fail
    exact ⟨.int .u64 0, by simp [results, Tryd.results56, go_sem], by rw [← HR0.out]; rfl, E3⟩
  have HR1 := hid (show cl (List.range m) = r by have := HR.out; rwa [if_pos hpo] at this)
  rw [hpo]
  clear HR
  have HNL := hid (show ([] : List Nat).length = 0 from rfl)
  rw [HNL.out]
  gi_wp2_with fail
  refine ⟨trivial, (callsIn_wide.2 (HSM.out _)).mono ?_⟩
  rintro e w4 ⟨rfl, hE⟩
  have HI4 := hid (HI.out.step hE)
  have E4 : Ext w w4 := E3.trans hE
  have hz4 : q < w4.heap.size := HI4.out.bq.lt
  clear HI B0 c0 c1 c2 c3 c4 c5 cz hE E3 hpo
  gi_wp2_with fail
  refine range_slot (enc := encI) (xs := bitsL (z - 1)) (by omega) rfl (enters_of Tryd.func58 (by kernel_rfl) rfl) (by simp) (elements_gives _ (by omega) (z - 1) (by omega))
    (fun pre W => CoInv w q #[.slice SA n sc, .int .i64 most, .int .i64 miss, .int .i64 al, .slice MA m mc, T] (cl pre) W)
    ?stays (fun pre W h => HTW.out.ext h.ext) HI4.out ?body ?done
  case stays =>
    rintro pre X Y row ⟨h1, h2, h3, h4⟩ hg hr
    exact ⟨own_ext E4.size h1 hg hr, h2.own hg hr, h3.own hg hr, h4⟩
  case body =>
    rintro l pre x suf W hl2 hxs hI
    have hx : x < m := by
      have h : x ∈ bitsL (z - 1) := by rw [hxs]; simp
      rw [HFU.out] at h
      exact List.mem_range.1 h
    have HSX := hid (HSN.out pre x)
    have hcl := HLE.out pre
    generalize cl (pre ++ [x]) = k1 at *
    generalize cl pre = k at *
    have hx2 : 2 ^ x < 18446744073709551616 := Nat.lt_of_le_of_lt (Nat.pow_le_pow_right (n := 2) (by decide) (show x ≤ 20 by omega)) (by decide)
    have hdl := dif_le k (2 ^ x)
    have h3 : (2 : Int) ^ x = ((2 ^ x : Nat) : Int) := by simp
    have han : bits BinOp.andNot IntKind.u64 (k : Int) ((2 ^ x : Nat) : Int) = ((dif k (2 ^ x) : Nat) : Int) := and_not_u64 (by omega) hx2
    have hsh : IntKind.u64.wrap ((2 : Int) ^ x) = (2 : Int) ^ x := by
      rw [h3]
      generalize 2 ^ x = p at *
      rw [IntKind.wrap_u64]
      omega
    rw [← h3] at han
    clear h3 hx2
    generalize dif k (2 ^ x) = k2 at *
    have HI := hid hI
    have B0 := hI.b0
    have c0 := B0.cell 0
    have c1 := B0.cell 1
    have c2 := B0.cell 2
    have c3 := B0.cell 3
    have c4 := B0.cell 4
    have c5 := B0.cell 5
    have cz := B0.lt
    simp only [List.getElem?_toArray, List.getElem?_cons_zero, List.getElem?_cons_succ] at c0 c1 c2 c3 c4 c5
    have y0 := hI.bq.cell 0
    have f0 := hI.bq.fro 0
    have z0 := hI.bq.lt
    have E5 := hI.ext
    simp only [List.getElem?_toArray, List.getElem?_cons_zero] at y0
    clear hI HI4 hxs B0
    simp only [encI, List.setIfInBounds_toArray, List.set_cons_zero, List.set_cons_succ]
    have HP2 := hid (fun W hE => HPO.out k2 (by omega) W hE)
    gi_wp2_with fail
    gi_region
    all_goals
      try simp only [han]
      gi_wp2_with fail
      refine ⟨trivial, CallsIn.inRound l ((callsIn_wide.2 (HP2.out _ (by first | exact E5 | exact E5.drew))).mono ?_)⟩
      rintro e w5 ⟨v, rfl, hown, hE5⟩
      obtain ⟨UA, uc, rfl, -⟩ := hown.form
      have X5 : Ext W w5 := by (repeat' (first | with_reducible assumption | with_reducible exact Ext.refl _ | with_reducible refine Ext.alloc ?_ _ | with_reducible refine Ext.set ?_ ?_ _ | with_reducible refine Ext.drew ?_ | with_reducible refine Ext.drewN ?_ _ | with_reducible refine Ext.trans ?_ (by assumption) | (dsimp only; omega)))
      have HI5 := hid (HI.out.step X5)
      have f5 := HI5.out.bq.fro 0
      have z5 := HI5.out.bq.lt
      have y5 := HI5.out.bq.cell 0
      simp only [List.getElem?_toArray, List.getElem?_cons_zero] at y5
      clear hown hE5 c0 c1 c2 c3 c4 c5 cz y0 f0 z0
      by_cases hp : po k2 = []
      · have HPO2 := hid (show k1 = k2 by rw [HSX.out, if_pos hp])
        have hl0 : (po k2).length = 0 := by rw [hp]; rfl
        rw [hl0]
        clear HSX hp hl0
        gi_wp2_with fail
        exact ⟨(keepsFrom_ext _ X5).trans (keepsFrom_set _ _ _ _), by rw [HPO2.out]; exact HI5.out.put k2⟩
      · have HPO2 := hid (show k1 = k by rw [HSX.out, if_neg hp])
        have hl0 : ¬ (po k2).length = 0 := fun h => hp (List.length_eq_zero_iff.1 h)
        clear HSX hp
        generalize (po k2).length = l2 at *
        gi_wp2_with fail
        exact ⟨keepsFrom_ext _ X5, by rw [HPO2.out]; exact HI5.out⟩
  case done =>
    intro D W hD hI hDk
    have y0 := hI.bq.cell 0
    have z0 := hI.bq.lt
    have E5 := hI.ext
    have HD := hid hDk
    simp only [List.getElem?_toArray, List.getElem?_cons_zero] at y0
    rw [HFU.out, HR1.out] at y0
    clear hI hDk HI4
    gi_wp2_with fail
    refine ⟨by simp, .inl ⟨_, _, rfl, run_takeDeferred (HD.out), ?_⟩⟩
    refine ⟨_, results_tmp rfl _ _ _, ?_⟩
    exact ⟨rfl, ext_putObj E5 (by omega)⟩
end Go.Proofs.YtcfijidlbimckaaDoor
