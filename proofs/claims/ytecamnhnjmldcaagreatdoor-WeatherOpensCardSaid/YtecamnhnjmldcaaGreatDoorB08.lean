/- begin. -/
import Derived.Test.YtecamnhnjmldcaaGreatDoorB07
import Derived.Test.YtecamnhnjmldcaaGreatDoorB03
import Derived.Maps.Own
import Derived.Maps.OwnOps
import Derived.Maps.OwnSet
import Derived.Maps.Views
set_option linter.unusedSimpArgs false
set_option linter.unusedVariables false
namespace Go.Proofs.YtecamnhnjmldcaaGreatDoor
open Go.RowKit
theorem fc_ok {f : List (List Hr)} (h : fcB f = true) : f.length ≤ 6 ∧ 1 ≤ f.length ∧ hoursN f ≤ 48 ∧ 1 ≤ hoursN f ∧ ∀ x ∈ f, x.length = hoursN f ∧ x.all hrB = true := by
  unfold fcB inI at h
  simp only [Bool.and_eq_true, decide_eq_true_eq, List.all_eq_true] at h
  obtain ⟨⟨h1, h2⟩, ⟨h3, h4⟩, h5⟩ := h
  refine ⟨by omega, by omega, by omega, by omega, fun x hx => ?_⟩
  have h6 := h5 x hx
  unfold scB at h6
  simp only [Bool.and_eq_true, decide_eq_true_eq] at h6
  exact h6
theorem sg_ok {n : Nat} {seen : List Sg} (h : sgsB n seen = true) : seen.length ≤ 20 ∧ ∀ s ∈ seen, (0 ≤ s.hour ∧ s.hour < n) ∧ cntM seen s.hour = 1 ∧ hrB (justM s) = true := by
  unfold sgsB at h
  simp only [Bool.and_eq_true, decide_eq_true_eq, List.all_eq_true] at h
  refine ⟨h.1, fun s hs => ?_⟩
  have h2 := h.2 s hs
  unfold sgB inI at h2
  simp only [Bool.and_eq_true, decide_eq_true_eq] at h2
  obtain ⟨h3, ⟨h4, h5⟩, h6⟩ := h2
  exact ⟨⟨h4, by omega⟩, h3, h6⟩
/-- What begin gives, as values. -/
def OutV (f : List (List Hr)) (seen : List Sg) (r : Int) (B : Nat) (w : World) (N : Nat) (nv sv : Value) : Prop :=
  (r = 0 → N = hoursN f ∧ Ownl 3 1 gInt w B nv (numsM seen f) ∧ OwnSc w B sv (scsM seen f)) ∧ (r ≠ 0 → N = 0 ∧ nv = .slice none 0 0 ∧ sv = .slice none 0 0)
theorem OutV.ext {f : List (List Hr)} {seen : List Sg} {r : Int} {B : Nat} {w w' : World} {N : Nat} {nv sv : Value} (h : OutV f seen r B w N nv sv) (e : Ext w w') : OutV f seen r B w' N nv sv :=
  ⟨fun hr => ⟨(h.1 hr).1, (h.1 hr).2.1.ext e, (h.1 hr).2.2.ext e⟩, h.2⟩
theorem OutV.low {f : List (List Hr)} {seen : List Sg} {r : Int} {B B' : Nat} {w : World} {N : Nat} {nv sv : Value} (h : OutV f seen r B w N nv sv) (hB : B' ≤ B) : OutV f seen r B' w N nv sv :=
  ⟨fun hr => ⟨(h.1 hr).1, (h.1 hr).2.1.low hB, (h.1 hr).2.2.low hB⟩, h.2⟩
theorem OutV.apart {f : List (List Hr)} {seen : List Sg} {r : Int} {B : Nat} {w w' : World} {N : Nat} {nv sv : Value} {row : Option Nat} (h : OutV f seen r B w N nv sv) (hg : w.grownBy w' row) (h1 : Apart w row 3) (h2 : Apart w row 92) (h3 : Apart w row 143) : OutV f seen r B w' N nv sv :=
  ⟨fun hr => ⟨(h.1 hr).1, (h.1 hr).2.1.apart hg h1, (h.1 hr).2.2.apart hg h2 h3⟩, h.2⟩
def BegIs (f : List (List Hr)) (seen : List Sg) (xs : List Int) (B : Nat) (w : World) (e : Ending) (w' : World) : Prop :=
  ∃ N A1 n1 c1 A2 n2 c2, e = .returned (.tuple #[.agg #[.int .i64 (N : Nat), .slice A1 n1 c1, .slice A2 n2 c2], .int .i64 (begM xs seen f)]) ∧ OutV f seen (begM xs seen f) B w' N (.slice A1 n1 c1) (.slice A2 n2 c2) ∧ Ext w w'
set_option maxHeartbeats 4000000 in
set_option maxRecDepth 100000 in
theorem begin_any (f : List (List Hr)) (A : Option Addr) (n c : Nat) (hn : f.length = n) (seen : List Sg) (SA : Option Addr) (m sc : Nat) (hl : seen.length = m)
    (xs : List Int) (EA : Option Addr) (en ec : Nat) (hxl : xs.length = en) (hen : en ≤ 1000) (hv : orM xs = 0 → fcB f = true ∧ sgsB (hoursN f) seen = true) (w : World) (hf : ScsAt w A f) (hss : SgsAt w SA seen) (hx : IntsAt w EA xs) :
    Calls Tryz.prog 39 #[.agg #[.slice A n c], .slice SA m sc, .slice EA en ec] w (BegIs f seen xs w.heap.size w) := by
  have HOR := hid (fun (W : World) (hW : Ext w W) => or_any xs EA en ec hxl hen W (hx.ext hW))
  have t1 := blk_last w (.cells #[.slice A n c] 24)
  have t2 := blk_last (w.alloc (.cells #[.slice A n c] 24)) (.cells #[.int .i64 0, .slice none 0 0, .slice none 0 0] 100)
  rw [World.size_alloc] at t2
  have B1 := hid (show Blk _ _ _ _ from (blk_old t1 (.cells #[.int .i64 0, .slice none 0 0, .slice none 0 0] 100)))
  have B2 := hid (show Blk _ _ _ _ from t2)
  clear hx hxl hen t1 t2
  by_cases h0 : orM xs = 0
  case neg =>
    have hb : begM xs seen f = orM xs := by unfold begM; rw [if_neg h0]
    unfold BegIs
    rw [hb]
    clear hb hv hf hss
    generalize orM xs = r at *
    have HV0 := hid (fun W => show OutV f seen r w.heap.size W 0 (.slice none 0 0) (.slice none 0 0) from ⟨fun hr => absurd hr h0, fun _ => ⟨rfl, rfl, rfl⟩⟩)
    go_enter Tryz.func39, Tryz.ntmps39
    go_wp2_with (go_at_call 83; refine (HOR.out _ (by (repeat' (first | with_reducible assumption | with_reducible exact Ext.refl _ | with_reducible refine Ext.alloc ?_ _ | with_reducible refine Ext.set ?_ ?_ _ | with_reducible refine Ext.drew ?_ | with_reducible refine Ext.drewN ?_ _ | with_reducible refine Ext.trans ?_ (by assumption) | (dsimp only; omega))))).mono ?_; rintro e w2 ⟨rfl, rfl⟩)
    exact bodyPost_ret (v := .tuple #[.agg #[.int .i64 0, .slice none 0 0, .slice none 0 0], .int .i64 r]) (by simp [results, Tryz.results39, go_sem]) rfl ⟨0, none, 0, 0, none, 0, 0, rfl, HV0.out _, by (repeat' (first | with_reducible assumption | with_reducible exact Ext.refl _ | with_reducible refine Ext.alloc ?_ _ | with_reducible refine Ext.set ?_ ?_ _ | with_reducible refine Ext.drew ?_ | with_reducible refine Ext.drewN ?_ _ | with_reducible refine Ext.trans ?_ (by assumption) | (dsimp only; omega)))⟩
  obtain ⟨hfc, hsg⟩ := hv h0
  obtain ⟨f1, f2, f3, f4, f5⟩ := fc_ok hfc
  obtain ⟨g1, g2⟩ := sg_ok hsg
  have HNO := hid (fun (W : World) (hW : Ext w W) => newOut_any f A n c hn (by omega) seen SA m sc hl (by omega) (fun x hx => by have := (f5 x hx).1; omega) (fun x hx s hs => by rw [(f5 x hx).1]; exact (g2 s hs).1) W (hf.ext hW) (hss.ext hW))
  clear hv hf hss hfc hsg f1 f2 f3 f4 f5 g1 g2 hn hl
  rw [h0] at HOR
  have hb : begM xs seen f = if numsM seen f = [] then 3 else 0 := by unfold begM; rw [if_pos h0]
  unfold BegIs
  rw [hb]
  clear hb h0
  by_cases hnil : numsM seen f = []
  · rw [if_pos hnil]
    have hl0 : (numsM seen f).length = 0 := by rw [hnil]; rfl
    have HV0 := hid (fun W => show OutV f seen 3 w.heap.size W 0 (.slice none 0 0) (.slice none 0 0) from ⟨fun hr => absurd hr (by decide), fun _ => ⟨rfl, rfl, rfl⟩⟩)
    go_enter Tryz.func39, Tryz.ntmps39
    go_wp2_with (go_at_call 83; refine (HOR.out _ (by (repeat' (first | with_reducible assumption | with_reducible exact Ext.refl _ | with_reducible refine Ext.alloc ?_ _ | with_reducible refine Ext.set ?_ ?_ _ | with_reducible refine Ext.drew ?_ | with_reducible refine Ext.drewN ?_ _ | with_reducible refine Ext.trans ?_ (by assumption) | (dsimp only; omega))))).mono ?_; rintro e w2 ⟨rfl, rfl⟩)
    refine (HNO.out _ (by (repeat' (first | with_reducible assumption | with_reducible exact Ext.refl _ | with_reducible refine Ext.alloc ?_ _ | with_reducible refine Ext.set ?_ ?_ _ | with_reducible refine Ext.drew ?_ | with_reducible refine Ext.drewN ?_ _ | with_reducible refine Ext.trans ?_ (by assumption) | (dsimp only; omega))))).mono ?_
    rintro e w3 ⟨nv, sv, rfl, hN, hS, hE⟩
    have C2 := hid (B2.out.ext hE)
    have E3 : Ext w w3 := by (repeat' (first | with_reducible assumption | with_reducible exact Ext.refl _ | with_reducible refine Ext.alloc ?_ _ | with_reducible refine Ext.set ?_ ?_ _ | with_reducible refine Ext.drew ?_ | with_reducible refine Ext.drewN ?_ _ | with_reducible refine Ext.trans ?_ (by assumption) | (dsimp only; omega)))
    have lo : w.heap.size ≤ ((w.alloc (.cells #[.slice A n c] 24)).alloc (.cells #[.int .i64 0, .slice none 0 0, .slice none 0 0] 100)).heap.size := by simp; omega
    have NN := hid (hN.low lo)
    have SS := hid (hS.low lo)
    obtain ⟨A1, c1, rfl, -, -, -⟩ := (hN.form (by decide) (fun _ => rfl) 0)
    obtain ⟨A2, c2, rfl, -, -, -⟩ := hS.form
    clear hN hS hE lo HNO HOR B1 B2
    have e0 := C2.out.cell 0
    have e1 := C2.out.cell 1
    have e2 := C2.out.cell 2
    have y0 := C2.out.fro 0
    have y1 := C2.out.fro 1
    have y2 := C2.out.fro 2
    have yz := C2.out.lt
    simp only [List.getElem?_toArray, List.getElem?_cons_zero, List.getElem?_cons_succ] at e0 e1 e2
    rw [hl0]
    have RB := hid (((((C2.out.setAt 0 (.int .i64 0)).setAt 1 (.slice none 0 0)).setAt 2 (.slice none 0 0)).alloc (.cells #[.int .i64 (hoursN f), .slice A1 0 c1, .slice A2 (scsM seen f).length c2] 100)))
    clear hnil hl0 NN SS C2
    generalize (scsM seen f).length = sl at *
    generalize hoursN f = N at *
    go_wp2
    obtain ⟨W9, hW9⟩ : ∃ W9, (((w3.setCell ⟨w.heap.size + 1, 0, none⟩ (.int .i64 0)).setCell ⟨w.heap.size + 1, 1, none⟩ (.slice none 0 0)).setCell ⟨w.heap.size + 1, 2, none⟩ (.slice none 0 0)).alloc (.cells #[.int .i64 (N : Int), .slice A1 0 c1, .slice A2 sl c2] 100) = W9 := ⟨_, rfl⟩
    have XE : Ext w W9 := by
      rw [← hW9]
      refine Ext.alloc (Ext.set (Ext.set (Ext.set E3 ?_ _) ?_ _) ?_ _) _ <;> (dsimp only; omega)
    rw [hW9] at RB ⊢
    simp only [List.setIfInBounds_toArray, List.set_cons_zero, List.set_cons_succ] at RB
    have r0 := RB.out.cell 0
    have r1 := RB.out.cell 1
    have r2 := RB.out.cell 2
    simp only [List.getElem?_toArray, List.getElem?_cons_zero, List.getElem?_cons_succ] at r0 r1 r2
    exact bodyPost_ret (v := .tuple #[.agg #[.int .i64 0, .slice none 0 0, .slice none 0 0], .int .i64 3]) (by simp [results, Tryz.results39, go_sem, r0, r1, r2]) rfl ⟨0, none, 0, 0, none, 0, 0, rfl, HV0.out _, XE⟩
  · rw [if_neg hnil]
    have hl0 : ¬ (numsM seen f).length = 0 := fun h => hnil (List.length_eq_zero_iff.1 h)
    have hl1 : ((((numsM seen f).length : Nat) : Int) == 0) = false := beq_eq_false_iff_ne.2 (fun h => hl0 (by omega))
    go_enter Tryz.func39, Tryz.ntmps39
    go_wp2_with (go_at_call 83; refine (HOR.out _ (by (repeat' (first | with_reducible assumption | with_reducible exact Ext.refl _ | with_reducible refine Ext.alloc ?_ _ | with_reducible refine Ext.set ?_ ?_ _ | with_reducible refine Ext.drew ?_ | with_reducible refine Ext.drewN ?_ _ | with_reducible refine Ext.trans ?_ (by assumption) | (dsimp only; omega))))).mono ?_; rintro e w2 ⟨rfl, rfl⟩)
    refine (HNO.out _ (by (repeat' (first | with_reducible assumption | with_reducible exact Ext.refl _ | with_reducible refine Ext.alloc ?_ _ | with_reducible refine Ext.set ?_ ?_ _ | with_reducible refine Ext.drew ?_ | with_reducible refine Ext.drewN ?_ _ | with_reducible refine Ext.trans ?_ (by assumption) | (dsimp only; omega))))).mono ?_
    rintro e w3 ⟨nv, sv, rfl, hN, hS, hE⟩
    have C2 := hid (B2.out.ext hE)
    have E3 : Ext w w3 := by (repeat' (first | with_reducible assumption | with_reducible exact Ext.refl _ | with_reducible refine Ext.alloc ?_ _ | with_reducible refine Ext.set ?_ ?_ _ | with_reducible refine Ext.drew ?_ | with_reducible refine Ext.drewN ?_ _ | with_reducible refine Ext.trans ?_ (by assumption) | (dsimp only; omega)))
    have lo : w.heap.size ≤ ((w.alloc (.cells #[.slice A n c] 24)).alloc (.cells #[.int .i64 0, .slice none 0 0, .slice none 0 0] 100)).heap.size := by simp; omega
    have NN := hid (hN.low lo)
    have SS := hid (hS.low lo)
    obtain ⟨A1, c1, rfl, -, -, -⟩ := (hN.form (by decide) (fun _ => rfl) 0)
    obtain ⟨A2, c2, rfl, -, -, -⟩ := hS.form
    clear hN hS hE lo HNO HOR B1 B2
    have e0 := C2.out.cell 0
    have e1 := C2.out.cell 1
    have e2 := C2.out.cell 2
    have y0 := C2.out.fro 0
    have y1 := C2.out.fro 1
    have y2 := C2.out.fro 2
    have yz := C2.out.lt
    simp only [List.getElem?_toArray, List.getElem?_cons_zero, List.getElem?_cons_succ] at e0 e1 e2
    have HE3 := hid E3
    have HNN := hid (fun W (hg : w3.grownBy W (some (w.heap.size + 1))) => NN.out.apart hg (Apart.blk C2.out (by decide)))
    have HSS := hid (fun W (hg : w3.grownBy W (some (w.heap.size + 1))) => SS.out.apart hg (Apart.blk C2.out (by decide)) (Apart.blk C2.out (by decide)))
    have HV0 := hid (fun W (h1 : Ownl 3 1 gInt W w.heap.size (.slice A1 (numsM seen f).length c1) (numsM seen f)) (h2 : OwnSc W w.heap.size (.slice A2 (scsM seen f).length c2) (scsM seen f)) => show OutV f seen 0 w.heap.size W (hoursN f) (.slice A1 (numsM seen f).length c1) (.slice A2 (scsM seen f).length c2) from ⟨fun _ => ⟨rfl, h1, h2⟩, fun h => absurd rfl h⟩)
    have HVV := hid (fun W hg => HV0.out W (HNN.out W hg) (HSS.out W hg))
    have RB := hid (((((C2.out.setAt 0 (.int .i64 (hoursN f))).setAt 1 (.slice A1 (numsM seen f).length c1)).setAt 2 (.slice A2 (scsM seen f).length c2)).alloc (.cells #[.int .i64 (hoursN f), .slice A1 (numsM seen f).length c1, .slice A2 (scsM seen f).length c2] 100)))
    have hnn : ((numsM seen f).length : Int) = (numsM seen f).length := rfl
    clear hnil NN SS HNN HSS HV0 C2 hnn
    generalize (scsM seen f).length = sl at *
    generalize (numsM seen f).length = nl at *
    generalize hoursN f = N at *
    go_wp2
    obtain ⟨W9, hW9⟩ : ∃ W9, (((w3.setCell ⟨w.heap.size + 1, 0, none⟩ (.int .i64 (N : Int))).setCell ⟨w.heap.size + 1, 1, none⟩ (.slice A1 nl c1)).setCell ⟨w.heap.size + 1, 2, none⟩ (.slice A2 sl c2)).alloc (.cells #[.int .i64 (N : Int), .slice A1 nl c1, .slice A2 sl c2] 100) = W9 := ⟨_, rfl⟩
    have XE : Ext w W9 := by
      rw [← hW9]
      refine Ext.alloc (Ext.set (Ext.set (Ext.set E3 ?_ _) ?_ _) ?_ _) _ <;> (dsimp only; omega)
    rw [hW9] at RB ⊢
    simp only [List.setIfInBounds_toArray, List.set_cons_zero, List.set_cons_succ] at RB
    have r0 := RB.out.cell 0
    have r1 := RB.out.cell 1
    have r2 := RB.out.cell 2
    simp only [List.getElem?_toArray, List.getElem?_cons_zero, List.getElem?_cons_succ] at r0 r1 r2
    have G9 : w3.grownBy W9 (some (w.heap.size + 1)) := by
      have g1 : w3.grownBy (w3.setCell ⟨w.heap.size + 1, 0, none⟩ (.int .i64 (N : Int))) (some (w.heap.size + 1)) := grown_set w3 ⟨w.heap.size + 1, 0, none⟩ _
      have g2 := g1.trans (grown_set (w3.setCell ⟨w.heap.size + 1, 0, none⟩ (.int .i64 (N : Int))) ⟨w.heap.size + 1, 1, none⟩ (.slice A1 nl c1))
      have g3 := g2.trans (grown_set _ ⟨w.heap.size + 1, 2, none⟩ (.slice A2 sl c2))
      have g4 := g3.trans (World.grownBy_alloc _ (.cells #[.int .i64 (N : Int), .slice A1 nl c1, .slice A2 sl c2] 100) _)
      rw [hW9] at g4
      exact g4
    exact bodyPost_ret (v := .tuple #[.agg #[.int .i64 (N : Int), .slice A1 nl c1, .slice A2 sl c2], .int .i64 0]) (by simp [results, Tryz.results39, go_sem, r0, r1, r2]) rfl ⟨N, A1, nl, c1, A2, sl, c2, rfl, HVV.out W9 G9, XE⟩
end Go.Proofs.YtecamnhnjmldcaaGreatDoor
/- A map of counts. -/
set_option linter.unusedSimpArgs false
set_option linter.unusedVariables false
namespace Go.Proofs.YtecamnhnjmldcaaGreatDoor
open Go.RowKit
open Go.Maps
theorem keyed3 : Keyed Tryz.prog 3 := int_keyed Tryz.underlying3
theorem zero3 (w : World) : (zeroValue 3).run Tryz.prog w = .ok (.int .i64 0) w := by kernel_rfl
/-- Block B is a map of at most n entries that counts F. -/
def MapC (w : World) (B n : Nat) (F : Int → Nat) : Prop :=
  ∃ D : DataW Unit, w.ownsMap Tryz.prog 3 (plainElem Tryz.prog 3) B n D ∧ ∀ h : Int, D.atKey (.int .i64 h) (.lit (.int .i64 0)) = .lit (.int .i64 (F h : Nat))
theorem MapC.made (w : World) : MapC (w.alloc (.map #[] 0)) w.heap.size 0 (fun _ => 0) := ⟨.map [], World.ownsMap_made _ _ _ _, fun _ => rfl⟩
theorem MapC.kept {w w' : World} {B n : Nat} {F : Int → Nat} {row : Option Nat} (h : MapC w B n F) (hg : w.grownBy w' row) (hne : some B ≠ row) : MapC w' B n F := by
  obtain ⟨D, h1, h2⟩ := h
  exact ⟨D, h1.kept hg hne, h2⟩
theorem MapC.lt {w : World} {B n : Nat} {F : Int → Nat} (h : MapC w B n F) : B < w.heap.size := by
  obtain ⟨D, h1, h2⟩ := h
  exact h1.lt
theorem MapC.ext {w w' : World} {B n : Nat} {F : Int → Nat} (h : MapC w B n F) (e : Ext w w') : MapC w' B n F := by
  have hb : Below w.heap.size w w' := e
  exact h.kept (row := none) ⟨hb.os, hb.tape, hb.output, hb.size, fun k hk _ => hb.block k hk⟩ (by simp)
set_option maxRecDepth 100000 in
theorem MapC.look {w : World} {B n : Nat} {F : Int → Nat} (h : MapC w B n F) (x : Int) (hx : (Lit.int .i64 x).wf = true) : (Instr.lookup 178 (.map (some B)) (.int .i64 x) false).run Tryz.prog w = .ok (.int .i64 (F x : Nat)) w := by
  obtain ⟨D, h1, h2⟩ := h
  obtain ⟨c, hr, hc, _⟩ := h1.lookup_int keyed3 Tryz.underlying178 Tryz.underlying3 (zero3 _) (keyOf_int_mk Tryz.underlying3 hx)
  rw [h2 x] at hc
  injection hc with hc
  injection hc with _ hc
  rw [hr, hc]
theorem wpList_lookC {ops : Array Oper} {rest : List Oper} {o : Oper} {a : Act} {Q : Exit → Act → World → Prop} (w : World) (hg : o.guard = none) (m x : Operand) (hop : o.op = Op.lookup 178 m x false)
    (B n : Nat) (F : Int → Nat) (hm : a.eval m = .map (some B)) (hown : MapC w B n F) (k : Int) (hx : a.eval x = .int .i64 k) (hk : (Lit.int .i64 k).wf = true)
    (hK : wpList Tryz.prog ops Q rest (a.put o.dst (.int .i64 (F k : Nat))) w) : wpList Tryz.prog ops Q (o :: rest) a w := by
  obtain ⟨D, h1, h2⟩ := hown
  refine wpList_lookup_own_int w hg m x _ hop 3 3 .i64 keyed3 Tryz.underlying178 Tryz.underlying3 (zero3 _) B n D hm h1 _ _ hx (keyOf_int_mk Tryz.underlying3 hk) ?_
  intro c hc _
  rw [h2 k] at hc
  injection hc with hc
  injection hc with _ hc
  rw [← hc]
  exact hK
theorem wpList_putC {ops : Array Oper} {rest : List Oper} {o : Oper} {a : Act} {Q : Exit → Act → World → Prop} (w : World) (hg : o.guard = none) (m x v : Operand) (hop : o.op = Op.mapUpdate 178 m x v)
    (B n : Nat) (F : Int → Nat) (hm : a.eval m = .map (some B)) (hown : MapC w B n F) (hn : n ≤ 10000) (k : Int) (hx : a.eval x = .int .i64 k) (hk : (Lit.int .i64 k).wf = true) (c : Nat) (hv : a.eval v = .int .i64 (c : Nat)) (hc : c ≤ 10000)
    (hK : ∀ w', MapC w' B (n + 1) (fun y => if y = k then c else F y) → w.grownBy w' (some B) → wpList Tryz.prog ops Q rest (a.put o.dst undef) w') : wpList Tryz.prog ops Q (o :: rest) a w := by
  obtain ⟨D, h1, h2⟩ := hown
  refine wpList_mapUpdate_own w hg m x v _ hop 3 3 keyed3 Tryz.underlying178 _ B n D hm h1 (by unfold maxLen; omega) _ _ _ hx hv (keyOf_int_mk Tryz.underlying3 hk) _ [] (plainElem_int Tryz.underlying3 (WalkArith.wf_i64 ⟨by omega, by omega⟩)) ?_
  intro w' ho hgr
  refine hK w' ⟨_, ho, fun y => ?_⟩ hgr
  show _ = DataW.lit (Lit.int .i64 ((if y = k then c else F y : Nat) : Int))
  by_cases hy : y = k
  · subst hy
    rw [if_pos rfl]
    exact atKey_put_same h1.isMap (show WideAt.IsKeyLit (Lit.int .i64 y) from trivial) _ _
  · rw [if_neg hy, atKey_put_other (by simp [hy]), h2 y]
end Go.Proofs.YtecamnhnjmldcaaGreatDoor
