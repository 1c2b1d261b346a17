/- Best, of the program. -/
import Derived.Test.YtcfijidlbimckaaDoorPServe
import Derived.RegionIn
set_option linter.unusedSimpArgs false
set_option linter.unusedVariables false
namespace Go.Proofs.YtcfijidlbimckaaDoor
open Go.RowKit
attribute [local go_sem] Oper.semAt_some
theorem OwnU.sets {W : World} {B : Nat} {TA : Option Addr} {n tc : Nat} {tl : List Nat} (h : OwnU W B (.slice TA n tc) tl) : SetsAt W TA tl := by
  obtain ⟨A, c, he, hs⟩ := h.form
  cases he
  exact hs
/-- How many truths the test of a mix leaves with the worse one of its results. -/
def worse (tl : List Nat) (x : Nat) : Nat := if cleanN x tl < tl.length - cleanN x tl then tl.length - cleanN x tl else cleanN x tl
def bstS (tl : List Nat) (o : Nat × Nat) (x : Nat) : Nat × Nat := if x ≠ 0 ∧ (o.1 = 0 ∨ worse tl x < o.2) then (x, worse tl x) else o
def bstL (tl : List Nat) (ps : List Nat) : Nat × Nat := ps.foldl (bstS tl) (0, 0)
theorem bstL_snoc (tl pre : List Nat) (x : Nat) : bstL tl (pre ++ [x]) = bstS tl (bstL tl pre) x := by unfold bstL; rw [List.foldl_append]; rfl
def bestM (d : Wat) : Nat := if watE d = 0 then (bstL (truthsL d) (List.range (2 ^ d.spr.length))).1 else 0
def bestL (d : Wat) : Nat := if watE d = 0 then (bstL (truthsL d) (List.range (2 ^ d.spr.length))).2 else 0
def BestIs (d : Wat) (w : World) (e : Ending) (w' : World) : Prop :=
  e = .returned (.tuple #[.int .i64 (bestM d : Nat), .int .i64 (bestL d : Nat), .int .i64 (watE d)]) ∧ Ext w w'
structure BeInv (w : World) (q : Nat) (fc : Array Value) (v : Value) (tl : List Nat) (o : Nat × Nat) (W : World) : Prop where
  ext : Ext w W
  b1 : Blk W (w.heap.size + 1) 3 #[.int .i64 (o.1 : Nat)]
  b2 : Blk W (w.heap.size + 1 + 1) 3 #[.int .i64 (o.2 : Nat)]
  bq : Blk W q 72 fc
  own : OwnU W (w.heap.size + 1 + 1 + 1) v tl
  hq : w.heap.size + 1 + 1 + 1 ≤ q
theorem BeInv.step {w W W' : World} {q : Nat} {fc : Array Value} {v : Value} {tl : List Nat} {o : Nat × Nat} (h : BeInv w q fc v tl o W) (e : Ext W W') : BeInv w q fc v tl o W' := ⟨h.ext.trans e, h.b1.ext e, h.b2.ext e, h.bq.ext e, h.own.ext e, h.hq⟩
theorem BeInv.put {w W : World} {q : Nat} {fc : Array Value} {v : Value} {tl : List Nat} {o : Nat × Nat} (h : BeInv w q fc v tl o W) (x y : Nat) :
    BeInv w q fc v tl (x, y) ((W.setCell ⟨w.heap.size + 1, 0, none⟩ (.int .i64 x)).setCell ⟨w.heap.size + 1 + 1, 0, none⟩ (.int .i64 y)) := by
  obtain ⟨h0, h1, h2, h3, h4, h5⟩ := h
  exact ⟨(h0.set (by dsimp only; omega) _).set (by dsimp only; omega) _, (h1.set _).other (by dsimp only; omega) _, (h2.other (by dsimp only; omega) _).set _, (h3.other (by dsimp only; omega) _).other (by dsimp only; omega) _, (h4.other (by dsimp only; omega) _).other (by dsimp only; omega) _, h5⟩
set_option maxRecDepth 100000 in
set_option maxHeartbeats 4000000 in
theorem pbest_any (d : Wat) (A : WA) (hn : d.spr.length ≤ 1000) (hm : d.smp.length ≤ 1000) (w : World) (hW : WIn w d A) (hT : TabW w) :
    Calls Tryd.prog 26 #[wval d A] w (BestIs d w) := by
  unfold BestIs bestM bestL
  refine (callsIn_wide (n := 6)).1 ?_
  refine callsIn_of_wp_marks Tryd.func26 rfl trivial ?_ rfl
  simp only [Tryd.ntmps26, List.size_toArray, List.length_cons, List.length_nil, Nat.reduceAdd, Nat.reduceSub, Array.replicate_succ, Array.replicate_zero, List.push_toArray, List.append_toArray, List.nil_append, List.cons_append]
  cases hc : watB d
  case false =>
    have HB := hid (fun (W : World) (hE : Ext w W) => beginN_check d A hn hm hc #[] W (hW.ext hE))
    have he : watE d = 40 := by unfold watE; rw [hc]; rfl
    simp only [he]
    clear hn hm hc he
    clear hT hW
    unfold wval at *
    obtain ⟨spr, most, miss, al, smp⟩ := d
    obtain ⟨SA, sc, MA, mc⟩ := A
    unfold wcells at *
    dsimp only at *
    generalize spr.length = n at *
    generalize smp.length = m at *
    gi_wp2_with fail
    refine ⟨trivial, (callsIn_wide.2 (HB.out _ (by (repeat' (first | with_reducible assumption | with_reducible exact Ext.refl _ | with_reducible refine Ext.alloc ?_ _ | with_reducible refine Ext.set ?_ ?_ _ | with_reducible refine Ext.drew ?_ | with_reducible refine Ext.drewN ?_ _ | with_reducible refine Ext.trans ?_ (by assumption) | (dsimp only; omega)))))).mono ?_⟩
    obtain ⟨-, q1, q2⟩ := blks3 w (.cells #[.slice SA n sc, .int .i64 most, .int .i64 miss, .int .i64 al, .slice MA m mc] 25) (.cells #[.int .i64 0] 3) (.cells #[.int .i64 0] 3)
    rintro e w2 ⟨rfl, hE⟩
    have B1 : Blk w2 _ 3 #[.int .i64 0] := blk_ext q1 hE
    have B2 : Blk w2 _ 3 #[.int .i64 0] := blk_ext q2 hE
    have c1 := B1.cell 0
    have f1 := B1.fro 0
    have z1 := B1.lt
    have c2 := B2.cell 0
    have f2 := B2.fro 0
    have z2 := B2.lt
    have E2 : Ext w w2 := by (repeat' (first | with_reducible assumption | with_reducible exact Ext.refl _ | with_reducible refine Ext.alloc ?_ _ | with_reducible refine Ext.set ?_ ?_ _ | with_reducible refine Ext.drew ?_ | with_reducible refine Ext.drewN ?_ _ | with_reducible refine Ext.trans ?_ (by assumption) | (dsimp only; omega)))
    simp only [List.getElem?_toArray, List.getElem?_cons_zero] at c1 c2
    clear q1 q2 hE
    gi_wp2_with fail
    refine prop_abs (p := fun X => LeavesInM Fence.wide 6 Tryd.prog _ _ _ _ _ X) _ (fun X => Ext w X ∧ Blk X (w.heap.size + 1) 3 #[.int .i64 0] ∧ Blk X (w.heap.size + 1 + 1) 3 #[.int .i64 0]) ⟨by (repeat' (first | with_reducible assumption | with_reducible exact Ext.refl _ | with_reducible refine Ext.alloc ?_ _ | with_reducible refine Ext.set ?_ ?_ _ | with_reducible refine Ext.drew ?_ | with_reducible refine Ext.drewN ?_ _ | with_reducible refine Ext.trans ?_ (by assumption) | (dsimp only; omega))), ((B1.set _).other (by dsimp only; omega) _).alloc _, ((B2.other (by dsimp only; omega) _).set _).alloc _⟩ ?_
    rintro X ⟨EX, X1, X2⟩
    have x1 := X1.cell 0
    have x2 := X2.cell 0
    simp only [List.getElem?_toArray, List.getElem?_cons_zero] at x1 x2
    exact ⟨.tuple #[.int .i64 0, .int .i64 0, .int .i64 40], by simp [results, Tryd.results26, go_sem, x1, x2], rfl, EX⟩
  have hok := watB_ok hc
  have HB := hid (fun (W : World) (hE : Ext w W) => beginN_ok d A hok hc #[] W (hW.ext hE) (hT.ext hE) (fun W' _ => nothing_any d A (.slice none 0 0) W'))
  unfold BeginIs at HB
  by_cases hnil : truthsL d = []
  · have HB2 := hid (fun W hE => (HB.out W hE).mono fun e w' h => h.1 hnil)
    have he : watE d = 3 := by unfold watE; rw [if_pos hc, if_pos hnil]
    simp only [he]
    clear HB hn hm hc he hnil hok
    clear hT hW
    unfold wval at *
    obtain ⟨spr, most, miss, al, smp⟩ := d
    obtain ⟨SA, sc, MA, mc⟩ := A
    unfold wcells at *
    dsimp only at *
    generalize spr.length = n at *
    generalize smp.length = m at *
    gi_wp2_with fail
    refine ⟨trivial, (callsIn_wide.2 (HB2.out _ (by (repeat' (first | with_reducible assumption | with_reducible exact Ext.refl _ | with_reducible refine Ext.alloc ?_ _ | with_reducible refine Ext.set ?_ ?_ _ | with_reducible refine Ext.drew ?_ | with_reducible refine Ext.drewN ?_ _ | with_reducible refine Ext.trans ?_ (by assumption) | (dsimp only; omega)))))).mono ?_⟩
    obtain ⟨-, q1, q2⟩ := blks3 w (.cells #[.slice SA n sc, .int .i64 most, .int .i64 miss, .int .i64 al, .slice MA m mc] 25) (.cells #[.int .i64 0] 3) (.cells #[.int .i64 0] 3)
    rintro e w2 ⟨rfl, hE⟩
    have B1 : Blk w2 _ 3 #[.int .i64 0] := blk_ext q1 hE
    have B2 : Blk w2 _ 3 #[.int .i64 0] := blk_ext q2 hE
    have c1 := B1.cell 0
    have f1 := B1.fro 0
    have z1 := B1.lt
    have c2 := B2.cell 0
    have f2 := B2.fro 0
    have z2 := B2.lt
    have E2 : Ext w w2 := by (repeat' (first | with_reducible assumption | with_reducible exact Ext.refl _ | with_reducible refine Ext.alloc ?_ _ | with_reducible refine Ext.set ?_ ?_ _ | with_reducible refine Ext.drew ?_ | with_reducible refine Ext.drewN ?_ _ | with_reducible refine Ext.trans ?_ (by assumption) | (dsimp only; omega)))
    simp only [List.getElem?_toArray, List.getElem?_cons_zero] at c1 c2
    clear q1 q2 hE
    gi_wp2_with fail
    refine prop_abs (p := fun X => LeavesInM Fence.wide 6 Tryd.prog _ _ _ _ _ X) _ (fun X => Ext w X ∧ Blk X (w.heap.size + 1) 3 #[.int .i64 0] ∧ Blk X (w.heap.size + 1 + 1) 3 #[.int .i64 0]) ⟨by (repeat' (first | with_reducible assumption | with_reducible exact Ext.refl _ | with_reducible refine Ext.alloc ?_ _ | with_reducible refine Ext.set ?_ ?_ _ | with_reducible refine Ext.drew ?_ | with_reducible refine Ext.drewN ?_ _ | with_reducible refine Ext.trans ?_ (by assumption) | (dsimp only; omega))), ((B1.set _).other (by dsimp only; omega) _).alloc _, ((B2.other (by dsimp only; omega) _).set _).alloc _⟩ ?_
    rintro X ⟨EX, X1, X2⟩
    have x1 := X1.cell 0
    have x2 := X2.cell 0
    simp only [List.getElem?_toArray, List.getElem?_cons_zero] at x1 x2
    exact ⟨.tuple #[.int .i64 0, .int .i64 0, .int .i64 3], by simp [results, Tryd.results26, go_sem, x1, x2], rfl, EX⟩
  have HB2 := hid (fun W hE => (HB.out W hE).mono fun e w' h => h.2 hnil)
  have he : watE d = 0 := by unfold watE; rw [if_pos hc, if_neg hnil]
  simp only [he, if_true]
  have HLT := hid (truths_lt hok)
  have hlen := truths_len hok
  have h8 := hok.n8
  have h256 := hok.p256
  have HSP := hid (fun (T : Value) (W : World) => springs_any d A T (by omega) W)
  have HCL := hid (fun (TA : Option Addr) (tc : Nat) (W : World) (x : Nat) (hx : x < 256) (hS : SetsAt W TA (truthsL d)) => cleanIn_any d A TA tc (truthsL d) x hx HLT.out hlen W hS)
  have HFU := hid (subsL_full hok.n8)
  have HSN := hid (bstL_snoc (truthsL d))
  have HB0 := hid (show bstL (truthsL d) [] = (0, 0) from rfl)
  have HTW := hid hT
  have HCN := hid (fun x => (show cleanN x (truthsL d) ≤ (truthsL d).length from List.length_filter_le _ _))
  clear HB hn hm hc he hok hnil
  unfold fval fcells at *
  generalize truthsL d = tl at *
  clear hT hW
  unfold wval at *
  obtain ⟨spr, most, miss, al, smp⟩ := d
  obtain ⟨SA, sc, MA, mc⟩ := A
  unfold wcells at *
  dsimp only at *
  generalize spr.length = n at *
  generalize smp.length = m at *
  gi_wp2_with fail
  refine ⟨trivial, (callsIn_wide.2 (HB2.out _ (by (repeat' (first | with_reducible assumption | with_reducible exact Ext.refl _ | with_reducible refine Ext.alloc ?_ _ | with_reducible refine Ext.set ?_ ?_ _ | with_reducible refine Ext.drew ?_ | with_reducible refine Ext.drewN ?_ _ | with_reducible refine Ext.trans ?_ (by assumption) | (dsimp only; omega)))))).mono ?_⟩
  obtain ⟨-, q1, q2⟩ := blks3 w (.cells #[.slice SA n sc, .int .i64 most, .int .i64 miss, .int .i64 al, .slice MA m mc] 25) (.cells #[.int .i64 0] 3) (.cells #[.int .i64 0] 3)
  rintro e w2 ⟨v, rfl, hown, hE⟩
  obtain ⟨TA, tc, rfl, -⟩ := hown.form
  have B1 : Blk w2 _ 3 #[.int .i64 0] := blk_ext q1 hE
  have B2 : Blk w2 _ 3 #[.int .i64 0] := blk_ext q2 hE
  have HOW := hid hown
  have E2 : Ext w w2 := by (repeat' (first | with_reducible assumption | with_reducible exact Ext.refl _ | with_reducible refine Ext.alloc ?_ _ | with_reducible refine Ext.set ?_ ?_ _ | with_reducible refine Ext.drew ?_ | with_reducible refine Ext.drewN ?_ _ | with_reducible refine Ext.trans ?_ (by assumption) | (dsimp only; omega)))
  have hz2 : w.heap.size + 3 ≤ w2.heap.size := by have := hE.size; simpa using this
  clear q1 q2 hE hown
  gi_wp2_with fail
  refine ⟨trivial, (callsIn_wide.2 (HSP.out _ _)).mono ?_⟩
  rintro e w3 ⟨rfl, hE⟩
  obtain ⟨k, hk⟩ : ∃ k, tl.length = k := ⟨_, rfl⟩
  rw [hk] at HCN HCL HOW hlen hE ⊢
  have E3 : Ext w w3 := (E2.alloc _).trans hE
  have HI0 := hid (show BeInv w w2.heap.size #[.slice SA n sc, .int .i64 most, .int .i64 miss, .int .i64 al, .slice MA m mc, .slice TA k tc] (.slice TA k tc) tl (bstL tl []) w3 from
    ⟨E3, by rw [HB0.out]; exact (B1.alloc _).ext hE, by rw [HB0.out]; exact (B2.alloc _).ext hE, (Blk.new w2 _ _).ext hE, ((HOW.out.low (by simp)).ext (ext_alloc1 w2 _)).ext hE, by omega⟩)
  have hz3 : w.heap.size + 4 ≤ w3.heap.size := by have := hE.size; simp at this; omega
  obtain ⟨q, hq⟩ : ∃ q, w2.heap.size = q := ⟨_, rfl⟩
  rw [hq] at HI0 ⊢
  clear B1 B2 HOW hE hq E2 HSP hz2
  gi_wp2
  refine range_slot (enc := encU) (xs := subsL (2 ^ n - 1)) (by omega) rfl (enters_of Tryd.func59 (by kernel_rfl) rfl) (by simp) (subsets_gives _ (by omega) (2 ^ n - 1) h256)
    (fun pre W => BeInv w q #[.slice SA n sc, .int .i64 most, .int .i64 miss, .int .i64 al, .slice MA m mc, .slice TA k tc] (.slice TA k tc) tl (bstL tl pre) W)
    ?stays (fun pre W h => HTW.out.ext h.ext) HI0.out ?body ?done
  case stays =>
    rintro pre X Y row ⟨h1, h2, h3, h4, h5, h6⟩ hg hr
    exact ⟨own_ext E3.size h1 hg hr, h2.own hg hr, h3.own hg hr, h4.own hg hr, h5.own hg hr, h6⟩
  case body =>
    rintro l pre x suf W hl2 hxs hI
    have hx : x < 256 := by
      have h : x ∈ subsL (2 ^ n - 1) := by rw [hxs]; simp
      exact List.mem_range.1 (List.mem_filter.1 h).1
    have HSX := hid (HSN.out pre x)
    have hcn := HCN.out x
    have HCX := hid (fun W hS => HCL.out TA tc W x hx hS)
    generalize bstL tl (pre ++ [x]) = o1 at *
    generalize bstL tl pre = o at *
    obtain ⟨o2, o3⟩ := o
    unfold bstS worse at HSX
    dsimp only at *
    rw [hk] at HSX
    generalize cleanN x tl = c at *
    have HI := hid hI
    have c0 := hI.bq.cell 0
    have c1 := hI.bq.cell 1
    have c2 := hI.bq.cell 2
    have c3 := hI.bq.cell 3
    have c4 := hI.bq.cell 4
    have c5 := hI.bq.cell 5
    have z0 := hI.bq.lt
    have E4 := hI.ext
    simp only [List.getElem?_toArray, List.getElem?_cons_zero, List.getElem?_cons_succ] at c0 c1 c2 c3 c4 c5
    clear hI HI0 hxs
    simp only [encU, List.setIfInBounds_toArray, List.set_cons_zero, List.set_cons_succ]
    gi_wp2_with fail
    refine ⟨trivial, CallsIn.inRound l ((callsIn_wide.2 (HCX.out _ HI.out.own.sets)).mono ?_)⟩
    rintro e w4 ⟨rfl, hE4⟩
    have HI4 := hid (HI.out.step hE4)
    have K4 := hid (keepsFrom_ext w3.heap.size hE4)
    clear HI c0 c1 c2 c3 c4 c5 z0 E4
    have c5 := HI4.out.bq.cell 5
    have z0 := HI4.out.bq.lt
    have y1 := HI4.out.b1.cell 0
    have y2 := HI4.out.b2.cell 0
    have f1 := HI4.out.b1.fro 0
    have f2 := HI4.out.b2.fro 0
    have z1 := HI4.out.b1.lt
    have z2 := HI4.out.b2.lt
    simp only [List.getElem?_toArray, List.getElem?_cons_zero, List.getElem?_cons_succ] at c5 y1 y2
    by_cases hw : c < k - c
    · simp only [if_pos hw] at HSX
      have hwi : (c : Int) < (k : Int) - (c : Int) := by omega
      have hkc : (k : Int) - (c : Int) = ((k - c : Nat) : Int) := by omega
      by_cases hx0 : x = 0
      · have HPO := hid (show o1 = (o2, o3) by rw [HSX.out, if_neg (by omega)])
        clear HSX
        subst hx0
        gi_wp2_with fail
        all_goals exact ⟨K4.out, by rw [HPO.out]; exact HI4.out⟩
      · by_cases ho : o2 = 0
        · have HPO := hid (show o1 = (x, k - c) by rw [HSX.out, if_pos ⟨hx0, .inl ho⟩])
          clear HSX
          subst ho
          gi_wp2_with fail
          all_goals
            refine ⟨K4.out.trans ((keepsFrom_set _ _ _ _).trans (keepsFrom_set _ _ _ _)), ?_⟩
            rw [HPO.out]
            exact HI4.out.put x (k - c)
        · by_cases hlt : k - c < o3
          · have HPO := hid (show o1 = (x, k - c) by rw [HSX.out, if_pos ⟨hx0, .inr hlt⟩])
            clear HSX
            have hli : ((k - c : Nat) : Int) < (o3 : Int) := by omega
            gi_wp2_with fail
            all_goals
              refine ⟨K4.out.trans ((keepsFrom_set _ _ _ _).trans (keepsFrom_set _ _ _ _)), ?_⟩
              rw [HPO.out]
              exact HI4.out.put x (k - c)
          · have HPO := hid (show o1 = (o2, o3) by rw [HSX.out, if_neg (by omega)])
            clear HSX
            have hli : ¬ ((k - c : Nat) : Int) < (o3 : Int) := by omega
            gi_wp2_with fail
            all_goals first
              | exact ⟨K4.out, by rw [HPO.out]; exact HI4.out⟩
              | (exfalso; omega)
              | (exfalso; simp_all; done)
    · simp only [if_neg hw] at HSX
      have hwi : ¬ (c : Int) < (k : Int) - (c : Int) := by omega
      by_cases hx0 : x = 0
      · have HPO := hid (show o1 = (o2, o3) by rw [HSX.out, if_neg (by omega)])
        clear HSX
        subst hx0
        gi_wp2_with fail
        all_goals exact ⟨K4.out, by rw [HPO.out]; exact HI4.out⟩
      · by_cases ho : o2 = 0
        · have HPO := hid (show o1 = (x, c) by rw [HSX.out, if_pos ⟨hx0, .inl ho⟩])
          clear HSX
          subst ho
          gi_wp2_with fail
          all_goals
            refine ⟨K4.out.trans ((keepsFrom_set _ _ _ _).trans (keepsFrom_set _ _ _ _)), ?_⟩
            rw [HPO.out]
            exact HI4.out.put x (c)
        · by_cases hlt : c < o3
          · have HPO := hid (show o1 = (x, c) by rw [HSX.out, if_pos ⟨hx0, .inr hlt⟩])
            clear HSX
            have hli : ((c : Nat) : Int) < (o3 : Int) := by omega
            gi_wp2_with fail
            all_goals
              refine ⟨K4.out.trans ((keepsFrom_set _ _ _ _).trans (keepsFrom_set _ _ _ _)), ?_⟩
              rw [HPO.out]
              exact HI4.out.put x (c)
          · have HPO := hid (show o1 = (o2, o3) by rw [HSX.out, if_neg (by omega)])
            clear HSX
            have hli : ¬ ((c : Nat) : Int) < (o3 : Int) := by omega
            gi_wp2_with fail
            all_goals first
              | exact ⟨K4.out, by rw [HPO.out]; exact HI4.out⟩
              | (exfalso; omega)
              | (exfalso; simp_all; done)
  case done =>
    intro D W hD hI hDk
    rw [HFU.out] at hI
    generalize hbo : bstL tl (List.range (2 ^ n)) = o at *
    obtain ⟨o2, o3⟩ := o
    have HBO := hid hbo
    clear hbo
    have HI := hid hI
    have HD := hid hDk
    have y1 := hI.b1.cell 0
    have y2 := hI.b2.cell 0
    have f1 := hI.b1.fro 0
    have f2 := hI.b2.fro 0
    have z1 := hI.b1.lt
    have z2 := hI.b2.lt
    simp only [List.getElem?_toArray, List.getElem?_cons_zero] at y1 y2
    clear hI hDk HI0
    gi_wp2_with fail
    gi_region
    all_goals
      gi_wp2
      have I9 := HI.out.put o2 o3
      have D9 := (Below.heap_setCell (W.setCell ⟨w.heap.size + 1, 0, none⟩ (.int .i64 (o2 : Nat))) ⟨w.heap.size + 1 + 1, 0, none⟩ (.int .i64 (o3 : Nat)) D (by dsimp only; omega)).trans ((Below.heap_setCell W ⟨w.heap.size + 1, 0, none⟩ (.int .i64 (o2 : Nat)) D (by dsimp only; omega)).trans HD.out)
      refine prop_abs (p := fun X => LeavesInM Fence.wide 6 Tryd.prog _ _ _ _ _ X) _ (fun X => Ext w X ∧ Blk X (w.heap.size + 1) 3 #[.int .i64 (o2 : Nat)] ∧ Blk X (w.heap.size + 1 + 1) 3 #[.int .i64 (o3 : Nat)] ∧ X.heap[D]? = some (.deferred (some []))) ⟨I9.ext.drew, I9.b1, I9.b2, D9⟩ ?_
      rintro X ⟨EX, X1, X2, DX⟩
      refine ⟨by simp, .inl ⟨_, _, rfl, run_takeDeferred DX, ?_⟩⟩
      have X1' := X1.putObj (D := D) (by omega) (.deferred none)
      have X2' := X2.putObj (D := D) (by omega) (.deferred none)
      have x1 := X1'.cell 0
      have x2 := X2'.cell 0
      simp only [List.getElem?_toArray, List.getElem?_cons_zero] at x1 x2
      have EP := ext_putObj (D := D) (o := .deferred none) EX (by omega)
      obtain ⟨WP, hWP⟩ : ∃ WP, X.putObj D (.deferred none) = WP := ⟨_, rfl⟩
      rw [hWP] at x1 x2 EP ⊢
      exact ⟨.tuple #[.int .i64 o2, .int .i64 o3, .int .i64 0], by simp [results, Tryd.results26, go_sem, x1, x2], by rw [HBO.out], EP⟩
end Go.Proofs.YtcfijidlbimckaaDoor
