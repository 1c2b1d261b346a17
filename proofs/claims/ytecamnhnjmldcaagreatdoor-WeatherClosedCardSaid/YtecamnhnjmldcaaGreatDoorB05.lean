/- A map of counts. -/
import Derived.Test.YtecamnhnjmldcaaGreatDoorB02
import Derived.Maps.Own
import Derived.Maps.OwnOps
import Derived.Maps.OwnSet
import Derived.Maps.Views
import Derived.Test.YtecamnhnjmldcaaGreatDoorB04
import Derived.Deep.MidRow
set_option linter.unusedSimpArgs false
set_option linter.unusedVariables false
namespace Go.Proofs.YtecamnhnjmldcaaGreatDoor
open Go.RowKit
open Go.Maps
theorem keyed3 : Keyed Tryz.prog 3 := int_keyed Tryz.underlying3
theorem zero3 (w : World) : (zeroValue 3).run Tryz.prog w = .ok (.int .i64 0) w := by kernel_rfl
/-- Block B is a map of at most n entries that counts F. -/
def MapC (w : World) (B n : Nat) (F : Int → Nat) : Prop :=
  ∃ D : DataW Unit, w.ownsMap Tryz.prog 3 (plainElem Tryz.prog 3) B n D ∧ ∀ h : Int, D.atKey (.int .i64 h) (.lit (.int .i64 0)) = .lit (.int .i64 (F h : Nat))
theorem MapC.made (w : World) : MapC (w.alloc (.map #[] 0)) w.heap.size 0 (fun _ => 0) := ⟨.map [], World.ownsMap_made _ _ _ _, fun _ => rfl⟩
theorem MapC.kept {w w' : World} {B n : Nat} {F : Int → Nat} {row : Option Nat} (h : MapC w B n F) (hg : w.grownBy w' row) (hne : some B ≠ row) : MapC w' B n F := by
  obtain ⟨D, h1, h2⟩ := h
  exact ⟨D, h1.kept hg hne, h2⟩
theorem MapC.lt {w : World} {B n : Nat} {F : Int → Nat} (h : MapC w B n F) : B < w.heap.size := by
  obtain ⟨D, h1, h2⟩ := h
  exact h1.lt
theorem MapC.ext {w w' : World} {B n : Nat} {F : Int → Nat} (h : MapC w B n F) (e : Ext w w') : MapC w' B n F := by
  have hb : Below w.heap.size w w' := e
  exact h.kept (row := none) ⟨hb.os, hb.tape, hb.output, hb.size, fun k hk _ => hb.block k hk⟩ (by simp)
set_option maxRecDepth 100000 in
theorem MapC.look {w : World} {B n : Nat} {F : Int → Nat} (h : MapC w B n F) (x : Int) (hx : (Lit.int .i64 x).wf = true) : (Instr.lookup 178 (.map (some B)) (.int .i64 x) false).run Tryz.prog w = .ok (.int .i64 (F x : Nat)) w := by
  obtain ⟨D, h1, h2⟩ := h
  obtain ⟨c, hr, hc, _⟩ := h1.lookup_int keyed3 Tryz.underlying178 Tryz.underlying3 (zero3 _) (keyOf_int_mk Tryz.underlying3 hx)
  rw [h2 x] at hc
  injection hc with hc
  injection hc with _ hc
  rw [hr, hc]
theorem wpList_lookC {ops : Array Oper} {rest : List Oper} {o : Oper} {a : Act} {Q : Exit → Act → World → Prop} (w : World) (hg : o.guard = none) (m x : Operand) (hop : o.op = Op.lookup 178 m x false)
    (B n : Nat) (F : Int → Nat) (hm : a.eval m = .map (some B)) (hown : MapC w B n F) (k : Int) (hx : a.eval x = .int .i64 k) (hk : (Lit.int .i64 k).wf = true)
    (hK : wpList Tryz.prog ops Q rest (a.put o.dst (.int .i64 (F k : Nat))) w) : wpList Tryz.prog ops Q (o :: rest) a w := by
  obtain ⟨D, h1, h2⟩ := hown
  refine wpList_lookup_own_int w hg m x _ hop 3 3 .i64 keyed3 Tryz.underlying178 Tryz.underlying3 (zero3 _) B n D hm h1 _ _ hx (keyOf_int_mk Tryz.underlying3 hk) ?_
  intro c hc _
  rw [h2 k] at hc
  injection hc with hc
  injection hc with _ hc
  rw [← hc]
  exact hK
theorem wpList_putC {ops : Array Oper} {rest : List Oper} {o : Oper} {a : Act} {Q : Exit → Act → World → Prop} (w : World) (hg : o.guard = none) (m x v : Operand) (hop : o.op = Op.mapUpdate 178 m x v)
    (B n : Nat) (F : Int → Nat) (hm : a.eval m = .map (some B)) (hown : MapC w B n F) (hn : n ≤ 10000) (k : Int) (hx : a.eval x = .int .i64 k) (hk : (Lit.int .i64 k).wf = true) (c : Nat) (hv : a.eval v = .int .i64 (c : Nat)) (hc : c ≤ 10000)
    (hK : ∀ w', MapC w' B (n + 1) (fun y => if y = k then c else F y) → w.grownBy w' (some B) → wpList Tryz.prog ops Q rest (a.put o.dst undef) w') : wpList Tryz.prog ops Q (o :: rest) a w := by
  obtain ⟨D, h1, h2⟩ := hown
  refine wpList_mapUpdate_own w hg m x v _ hop 3 3 keyed3 Tryz.underlying178 _ B n D hm h1 (by unfold maxLen; omega) _ _ _ hx hv (keyOf_int_mk Tryz.underlying3 hk) _ [] (plainElem_int Tryz.underlying3 (WalkArith.wf_i64 ⟨by omega, by omega⟩)) ?_
  intro w' ho hgr
  refine hK w' ⟨_, ho, fun y => ?_⟩ hgr
  show _ = DataW.lit (Lit.int .i64 ((if y = k then c else F y : Nat) : Int))
  by_cases hy : y = k
  · subst hy
    rw [if_pos rfl]
    exact atKey_put_same h1.isMap (show WideAt.IsKeyLit (Lit.int .i64 y) from trivial) _ _
  · rw [if_neg hy, atKey_put_other (by simp [hy]), h2 y]
end Go.Proofs.YtecamnhnjmldcaaGreatDoor
/- Which observations are valid: one of them. -/
set_option linter.unusedSimpArgs false
set_option linter.unusedVariables false
namespace Go.Proofs.YtecamnhnjmldcaaGreatDoor
open Go.RowKit
open Go.Maps
set_option maxHeartbeats 2000000 in
set_option maxRecDepth 100000 in
theorem vSg1_any (f : List (List Hr)) (A : Option Addr) (n c : Nat) (hn : f.length = n) (hm : n ≤ 10000) (F : Int → Nat) (mn : Nat) (MB q0 q2 : Nat) (s : Sg) (hwf : (Lit.int .i64 s.hour).wf = true)
    (w : World) (hw : WidW w) (hf : ScsAt w A f) (hM : MapC w MB mn F) (h0 : q0 < w.heap.size) (h2 : q2 < w.heap.size) (c0 : w.cell? ⟨q0, 0, none⟩ = some (.slice A n c)) (c2 : w.cell? ⟨q2, 0, none⟩ = some (.map (some MB))) (hN : hoursN f ≤ 10000) :
    Calls Tryz.prog 133 #[s.val, .pointer (some ⟨q2, 0, none⟩), .pointer (some ⟨q0, 0, none⟩)] w fun e w' => e = .returned (.bool (decide (F s.hour = 1) && (inI s.hour 0 ((hoursN f : Int) - 1) && hrB (justM s)))) ∧ Ext w w' := by
  have HH := hid (fun (W : World) (hW : Ext w W) => hours_any A n c f hn W (hf.ext hW) hm)
  have HV := hid (fun (W : World) (hW : Ext w W) => vHour_any (justM s) W (hw.ext hW))
  have HLK := hid (fun (W : World) (hW : Ext w W) => (hM.ext hW).look s.hour hwf)
  clear hf hw hM hn hwf
  obtain ⟨N, hN'⟩ : ∃ N, hoursN f = N := ⟨_, rfl⟩
  obtain ⟨B3, hB3⟩ : ∃ B, hrB (justM s) = B := ⟨_, rfl⟩
  rw [hN'] at HH hN ⊢
  rw [hB3] at HV ⊢
  clear hN' hB3
  unfold justM Hr.val at HV
  obtain ⟨hr, wi, ra, te⟩ := s
  unfold Sg.val
  dsimp only at *
  obtain ⟨C, hC⟩ : ∃ C, F hr = C := ⟨_, rfl⟩
  rw [hC] at HLK ⊢
  clear hC
  by_cases h1 : C = 1
  case neg =>
    have hd : ((C : Int) == 1) = false := by simp; omega
    go_enter Tryz.func133, Tryz.ntmps133
    go_wp2_with fail
    refine wp_abs (fun W => W.cell? ⟨w.heap.size, 0, none⟩ = some (.int .i64 hr) ∧ W.cell? ⟨w.heap.size, 1, none⟩ = some (.int .i64 wi) ∧ W.cell? ⟨w.heap.size, 2, none⟩ = some (.int .i64 ra) ∧ W.cell? ⟨w.heap.size, 3, none⟩ = some (.int .i64 te) ∧ W.cell? ⟨q0, 0, none⟩ = some (.slice A n c) ∧ W.cell? ⟨q2, 0, none⟩ = some (.map (some MB)) ∧ w.heap.size + 1 ≤ W.heap.size ∧ Ext w W) ⟨by go_simp, by go_simp, by go_simp, by go_simp, by go_simp, by go_simp, by simp, by (repeat' (first | with_reducible assumption | with_reducible exact Ext.refl _ | with_reducible refine Ext.alloc ?_ _ | with_reducible refine Ext.set ?_ ?_ _ | with_reducible refine Ext.drew ?_ | with_reducible refine Ext.drewN ?_ _ | with_reducible refine Ext.trans ?_ (by assumption) | (dsimp only; omega)))⟩ ?_
    rintro W ⟨d0, d1, d2, d3, k0, k2, hz, hE⟩
    clear c0 c2
    have hq0 : q0 < W.heap.size := by omega
    have hq2 : q2 < W.heap.size := by omega
    have hw' : w.heap.size < W.heap.size := by omega
    refine wp_region_held_drew (S := fun w' => (∀ b o, b < W.heap.size → w'.cell? ⟨b, o, none⟩ = W.cell? ⟨b, o, none⟩) ∧ W.heap.size ≤ w'.heap.size ∧ Ext W w') (by kernel_rfl) ?hS0 (fun hHeld => ?_)
    case hS0 => exact sK (Ext.drew (Ext.refl _))
    have X0 : Ext W W.drew := Ext.drew (Ext.refl W)
    refine wpAnyH_take (i := 0) (oi := _) (v := ?v0au) rfl (by kernel_rfl) (by kernel_rfl) (by kernel_rfl) (fun _ _ _ h => h) (Or.inl ⟨by rfl, ?y0au⟩) (by assumption) ?r0au
    case y0au => (intro w' hSw; (try dsimp only at hSw); go_simp; (try with_reducible rfl))
    try simp only [Act.put, List.getElem_toArray, List.getElem_cons_zero, List.getElem_cons_succ, List.setIfInBounds_toArray, List.set_cons_zero, List.set_cons_succ]
    refine wpAnyH_take (i := 1) (oi := _) (v := ?v1au) rfl (by kernel_rfl) (by kernel_rfl) (by kernel_rfl) (fun _ _ _ h => h) (Or.inl ⟨by rfl, ?y1au⟩) (by assumption) ?r1au
    case y1au => (intro w' hSw; (try dsimp only at hSw); go_simp; (try with_reducible rfl))
    try simp only [Act.put, List.getElem_toArray, List.getElem_cons_zero, List.getElem_cons_succ, List.setIfInBounds_toArray, List.set_cons_zero, List.set_cons_succ]
    refine wpAnyH_take (i := 2) (oi := _) (v := ?v2au) rfl (by kernel_rfl) (by kernel_rfl) (by kernel_rfl) (fun _ _ _ h => h) (Or.inl ⟨by rfl, ?y2au⟩) (by assumption) ?r2au
    case y2au => (intro w' hSw; (try dsimp only at hSw); go_simp; (try with_reducible rfl))
    try simp only [Act.put, List.getElem_toArray, List.getElem_cons_zero, List.getElem_cons_succ, List.setIfInBounds_toArray, List.set_cons_zero, List.set_cons_succ]
    refine wpAnyH_take (i := 3) (oi := _) (v := ?v3bu) rfl (by kernel_rfl) (by kernel_rfl) (by kernel_rfl) (fun _ _ _ h => h) (Or.inl ⟨by rfl, ?y3bu⟩) (by assumption) ?r3bu
    case y3bu => (intro w' hSw; (try dsimp only at hSw); go_simp; (try simp only [HLK.out _ (hE.trans hSw.2.2), Result.andThen_ok]); (try with_reducible rfl))
    try simp only [Act.put, List.getElem_toArray, List.getElem_cons_zero, List.getElem_cons_succ, List.setIfInBounds_toArray, List.set_cons_zero, List.set_cons_succ]
    refine wpAnyH_take (i := 4) (oi := _) (v := ?v4bu) rfl (by kernel_rfl) (by kernel_rfl) (by kernel_rfl) (fun _ _ _ h => h) (Or.inl ⟨by rfl, ?y4bu⟩) (by assumption) ?r4bu
    case y4bu => (intro w' hSw; (try dsimp only at hSw); go_simp; (try simp only [hd]); (try with_reducible rfl))
    try simp only [Act.put, List.getElem_toArray, List.getElem_cons_zero, List.getElem_cons_succ, List.setIfInBounds_toArray, List.set_cons_zero, List.set_cons_succ]
    refine wpAnyH_take (i := 5) (oi := _) (v := ?v5bu) rfl (by kernel_rfl) (by kernel_rfl) (by kernel_rfl) (fun _ _ _ h => h) (Or.inl ⟨by rfl, ?y5bu⟩) (by assumption) ?r5bu
    case y5bu => (intro w' hSw; (try dsimp only at hSw); go_simp; (try with_reducible rfl))
    try simp only [Act.put, List.getElem_toArray, List.getElem_cons_zero, List.getElem_cons_succ, List.setIfInBounds_toArray, List.set_cons_zero, List.set_cons_succ]
    refine wpAnyH_take (i := 6) (oi := _) (v := undef) rfl (by kernel_rfl) (by kernel_rfl) (by kernel_rfl) (fun _ _ _ h => h) (Or.inr ⟨by rfl, rfl⟩) (by assumption) ?r6su
    try simp only [Act.put, List.getElem_toArray, List.getElem_cons_zero, List.getElem_cons_succ, List.setIfInBounds_toArray, List.set_cons_zero, List.set_cons_succ]
    refine wpAnyH_take (i := 7) (oi := _) (v := undef) rfl (by kernel_rfl) (by kernel_rfl) (by kernel_rfl) (fun _ _ _ h => h) (Or.inr ⟨by rfl, rfl⟩) (by assumption) ?r7su
    try simp only [Act.put, List.getElem_toArray, List.getElem_cons_zero, List.getElem_cons_succ, List.setIfInBounds_toArray, List.set_cons_zero, List.set_cons_succ]
    refine wpAnyH_take (i := 8) (oi := _) (v := undef) rfl (by kernel_rfl) (by kernel_rfl) (by kernel_rfl) (fun _ _ _ h => h) (Or.inr ⟨by rfl, rfl⟩) (by assumption) ?r8su
    try simp only [Act.put, List.getElem_toArray, List.getElem_cons_zero, List.getElem_cons_succ, List.setIfInBounds_toArray, List.set_cons_zero, List.set_cons_succ]
    refine wpAnyH_take (i := 9) (oi := _) (v := undef) rfl (by kernel_rfl) (by kernel_rfl) (by kernel_rfl) (fun _ _ _ h => h) (Or.inr ⟨by rfl, rfl⟩) (by assumption) ?r9su
    try simp only [Act.put, List.getElem_toArray, List.getElem_cons_zero, List.getElem_cons_succ, List.setIfInBounds_toArray, List.set_cons_zero, List.set_cons_succ]
    refine wpAnyH_take (i := 10) (oi := _) (v := undef) rfl (by kernel_rfl) (by kernel_rfl) (by kernel_rfl) (fun _ _ _ h => h) (Or.inr ⟨by rfl, rfl⟩) (by assumption) ?r10su
    try simp only [Act.put, List.getElem_toArray, List.getElem_cons_zero, List.getElem_cons_succ, List.setIfInBounds_toArray, List.set_cons_zero, List.set_cons_succ]
    refine wpAnyH_take (i := 11) (oi := _) (v := undef) rfl (by kernel_rfl) (by kernel_rfl) (by kernel_rfl) (fun _ _ _ h => h) (Or.inr ⟨by rfl, rfl⟩) (by assumption) ?r11su
    try simp only [Act.put, List.getElem_toArray, List.getElem_cons_zero, List.getElem_cons_succ, List.setIfInBounds_toArray, List.set_cons_zero, List.set_cons_succ]
    refine wpAnyH_take (i := 12) (oi := _) (v := ?v12tu) rfl (by kernel_rfl) (by kernel_rfl) (by kernel_rfl) (fun _ _ _ h => h) (Or.inl ⟨by rfl, ?y12tu⟩) (by assumption) ?r12tu
    case y12tu => (intro w' hSw; (try dsimp only at hSw); go_simp; (try with_reducible rfl))
    try simp only [Act.put, List.getElem_toArray, List.getElem_cons_zero, List.getElem_cons_succ, List.setIfInBounds_toArray, List.set_cons_zero, List.set_cons_succ]
    refine wpAnyH_take (i := 13) (oi := _) (v := ?v13tu) rfl (by kernel_rfl) (by kernel_rfl) (by kernel_rfl) (fun _ _ _ h => h) (Or.inl ⟨by rfl, ?y13tu⟩) (by assumption) ?r13tu
    case y13tu => (intro w' hSw; (try dsimp only at hSw); go_simp; (try with_reducible rfl))
    try simp only [Act.put, List.getElem_toArray, List.getElem_cons_zero, List.getElem_cons_succ, List.setIfInBounds_toArray, List.set_cons_zero, List.set_cons_succ]
    refine wpAnyH_take (i := 14) (oi := _) (v := undef) rfl (by kernel_rfl) (by kernel_rfl) (by kernel_rfl) (fun _ _ _ h => h) (Or.inr ⟨by rfl, rfl⟩) (by assumption) ?r14uu
    try simp only [Act.put, List.getElem_toArray, List.getElem_cons_zero, List.getElem_cons_succ, List.setIfInBounds_toArray, List.set_cons_zero, List.set_cons_succ]
    refine wpAnyH_take (i := 15) (oi := _) (v := undef) rfl (by kernel_rfl) (by kernel_rfl) (by kernel_rfl) (fun _ _ _ h => h) (Or.inr ⟨by rfl, rfl⟩) (by assumption) ?r15uu
    try simp only [Act.put, List.getElem_toArray, List.getElem_cons_zero, List.getElem_cons_succ, List.setIfInBounds_toArray, List.set_cons_zero, List.set_cons_succ]
    refine wpAnyH_take (i := 16) (oi := _) (v := undef) rfl (by kernel_rfl) (by kernel_rfl) (by kernel_rfl) (fun _ _ _ h => h) (Or.inr ⟨by rfl, rfl⟩) (by assumption) ?r16uu
    try simp only [Act.put, List.getElem_toArray, List.getElem_cons_zero, List.getElem_cons_succ, List.setIfInBounds_toArray, List.set_cons_zero, List.set_cons_succ]
    refine wpAnyH_take (i := 17) (oi := _) (v := undef) rfl (by kernel_rfl) (by kernel_rfl) (by kernel_rfl) (fun _ _ _ h => h) (Or.inr ⟨by rfl, rfl⟩) (by assumption) ?r17uu
    try simp only [Act.put, List.getElem_toArray, List.getElem_cons_zero, List.getElem_cons_succ, List.setIfInBounds_toArray, List.set_cons_zero, List.set_cons_succ]
    refine wpAnyH_take (i := 18) (oi := _) (v := ?v18vu) rfl (by kernel_rfl) (by kernel_rfl) (by kernel_rfl) (fun _ _ _ h => h) (Or.inl ⟨by rfl, ?y18vu⟩) (by assumption) ?r18vu
    case y18vu => (intro w' hSw; (try dsimp only at hSw); go_simp; (try with_reducible rfl))
    try simp only [Act.put, List.getElem_toArray, List.getElem_cons_zero, List.getElem_cons_succ, List.setIfInBounds_toArray, List.set_cons_zero, List.set_cons_succ]
    refine wpAnyH_take (i := 19) (oi := _) (v := ?v19vu) rfl (by kernel_rfl) (by kernel_rfl) (by kernel_rfl) (fun _ _ _ h => h) (Or.inl ⟨by rfl, ?y19vu⟩) (by assumption) ?r19vu
    case y19vu => (intro w' hSw; (try dsimp only at hSw); go_simp; (try with_reducible rfl))
    try simp only [Act.put, List.getElem_toArray, List.getElem_cons_zero, List.getElem_cons_succ, List.setIfInBounds_toArray, List.set_cons_zero, List.set_cons_succ]
    refine wpAnyH_done (by kernel_rfl) ?_ _
    have HX := hid (hE.trans X0)
    go_wp2
    go_ret
    exact ⟨ret_bool (by simp [h1]), HX.out⟩
  subst h1
  have hd : (((1 : Nat) : Int) == 1) = true := by decide
  have hwr : IntKind.i64.wrap ((N : Int) - 1) = (N : Int) - 1 := IntWalk.i64_in _ (by omega)
  have HI := hid (fun W => vWithin_any hr 0 ((N : Int) - 1) W)
  obtain ⟨b3, hb3⟩ : ∃ b, inI hr 0 ((N : Int) - 1) = b := ⟨_, rfl⟩
  rw [hb3] at HI ⊢
  clear hb3
  cases b3
  · go_enter Tryz.func133, Tryz.ntmps133
    go_wp2_with fail
    refine wp_abs (fun W => W.cell? ⟨w.heap.size, 0, none⟩ = some (.int .i64 hr) ∧ W.cell? ⟨w.heap.size, 1, none⟩ = some (.int .i64 wi) ∧ W.cell? ⟨w.heap.size, 2, none⟩ = some (.int .i64 ra) ∧ W.cell? ⟨w.heap.size, 3, none⟩ = some (.int .i64 te) ∧ W.cell? ⟨q0, 0, none⟩ = some (.slice A n c) ∧ W.cell? ⟨q2, 0, none⟩ = some (.map (some MB)) ∧ w.heap.size + 1 ≤ W.heap.size ∧ Ext w W) ⟨by go_simp, by go_simp, by go_simp, by go_simp, by go_simp, by go_simp, by simp, by (repeat' (first | with_reducible assumption | with_reducible exact Ext.refl _ | with_reducible refine Ext.alloc ?_ _ | with_reducible refine Ext.set ?_ ?_ _ | with_reducible refine Ext.drew ?_ | with_reducible refine Ext.drewN ?_ _ | with_reducible refine Ext.trans ?_ (by assumption) | (dsimp only; omega)))⟩ ?_
    rintro W ⟨d0, d1, d2, d3, k0, k2, hz, hE⟩
    clear c0 c2
    have hq0 : q0 < W.heap.size := by omega
    have hq2 : q2 < W.heap.size := by omega
    have hw' : w.heap.size < W.heap.size := by omega
    refine wp_region_held_drew (S := fun w' => (∀ b o, b < W.heap.size → w'.cell? ⟨b, o, none⟩ = W.cell? ⟨b, o, none⟩) ∧ W.heap.size ≤ w'.heap.size ∧ Ext W w') (by kernel_rfl) ?hS0 (fun hHeld => ?_)
    case hS0 => exact sK (Ext.drew (Ext.refl _))
    have X0 : Ext W W.drew := Ext.drew (Ext.refl W)
    refine wpAnyH_take (i := 0) (oi := _) (v := ?v0ax) rfl (by kernel_rfl) (by kernel_rfl) (by kernel_rfl) (fun _ _ _ h => h) (Or.inl ⟨by rfl, ?y0ax⟩) (by assumption) ?r0ax
    case y0ax => (intro w' hSw; (try dsimp only at hSw); go_simp; (try with_reducible rfl))
    try simp only [Act.put, List.getElem_toArray, List.getElem_cons_zero, List.getElem_cons_succ, List.setIfInBounds_toArray, List.set_cons_zero, List.set_cons_succ]
    refine wpAnyH_take (i := 1) (oi := _) (v := ?v1ax) rfl (by kernel_rfl) (by kernel_rfl) (by kernel_rfl) (fun _ _ _ h => h) (Or.inl ⟨by rfl, ?y1ax⟩) (by assumption) ?r1ax
    case y1ax => (intro w' hSw; (try dsimp only at hSw); go_simp; (try with_reducible rfl))
    try simp only [Act.put, List.getElem_toArray, List.getElem_cons_zero, List.getElem_cons_succ, List.setIfInBounds_toArray, List.set_cons_zero, List.set_cons_succ]
    refine wpAnyH_take (i := 2) (oi := _) (v := ?v2ax) rfl (by kernel_rfl) (by kernel_rfl) (by kernel_rfl) (fun _ _ _ h => h) (Or.inl ⟨by rfl, ?y2ax⟩) (by assumption) ?r2ax
    case y2ax => (intro w' hSw; (try dsimp only at hSw); go_simp; (try with_reducible rfl))
    try simp only [Act.put, List.getElem_toArray, List.getElem_cons_zero, List.getElem_cons_succ, List.setIfInBounds_toArray, List.set_cons_zero, List.set_cons_succ]
    refine wpAnyH_take (i := 3) (oi := _) (v := ?v3bx) rfl (by kernel_rfl) (by kernel_rfl) (by kernel_rfl) (fun _ _ _ h => h) (Or.inl ⟨by rfl, ?y3bx⟩) (by assumption) ?r3bx
    case y3bx => (intro w' hSw; (try dsimp only at hSw); go_simp; (try simp only [HLK.out _ (hE.trans hSw.2.2), Result.andThen_ok]); (try with_reducible rfl))
    try simp only [Act.put, List.getElem_toArray, List.getElem_cons_zero, List.getElem_cons_succ, List.setIfInBounds_toArray, List.set_cons_zero, List.set_cons_succ]
    refine wpAnyH_take (i := 4) (oi := _) (v := ?v4bx) rfl (by kernel_rfl) (by kernel_rfl) (by kernel_rfl) (fun _ _ _ h => h) (Or.inl ⟨by rfl, ?y4bx⟩) (by assumption) ?r4bx
    case y4bx => (intro w' hSw; (try dsimp only at hSw); go_simp; (try simp only [hd]); (try with_reducible rfl))
    try simp only [Act.put, List.getElem_toArray, List.getElem_cons_zero, List.getElem_cons_succ, List.setIfInBounds_toArray, List.set_cons_zero, List.set_cons_succ]
    refine wpAnyH_take (i := 5) (oi := _) (v := ?v5bx) rfl (by kernel_rfl) (by kernel_rfl) (by kernel_rfl) (fun _ _ _ h => h) (Or.inl ⟨by rfl, ?y5bx⟩) (by assumption) ?r5bx
    case y5bx => (intro w' hSw; (try dsimp only at hSw); go_simp; (try with_reducible rfl))
    try simp only [Act.put, List.getElem_toArray, List.getElem_cons_zero, List.getElem_cons_succ, List.setIfInBounds_toArray, List.set_cons_zero, List.set_cons_succ]
    refine wpAnyH_take (i := 6) (oi := _) (v := ?v6sx) rfl (by kernel_rfl) (by kernel_rfl) (by kernel_rfl) (fun _ _ _ h => h) (Or.inl ⟨by rfl, ?y6sx⟩) (by assumption) ?r6sx
    case y6sx => (intro w' hSw; (try dsimp only at hSw); go_simp; (try with_reducible rfl))
    try simp only [Act.put, List.getElem_toArray, List.getElem_cons_zero, List.getElem_cons_succ, List.setIfInBounds_toArray, List.set_cons_zero, List.set_cons_succ]
    refine wpAnyH_take (i := 7) (oi := _) (v := ?v7sx) rfl (by kernel_rfl) (by kernel_rfl) (by kernel_rfl) (fun _ _ _ h => h) (Or.inl ⟨by rfl, ?y7sx⟩) (by assumption) ?r7sx
    case y7sx => (intro w' hSw; (try dsimp only at hSw); go_simp; (try with_reducible rfl))
    try simp only [Act.put, List.getElem_toArray, List.getElem_cons_zero, List.getElem_cons_succ, List.setIfInBounds_toArray, List.set_cons_zero, List.set_cons_succ]
    refine wpAnyH_take (i := 8) (oi := _) (v := ?v8sx) rfl (by kernel_rfl) (by kernel_rfl) (by kernel_rfl) (fun _ _ _ h => h) (Or.inl ⟨by rfl, ?y8sx⟩) (by assumption) ?r8sx
    case y8sx => (intro w' hSw; (try dsimp only at hSw); go_simp; (try with_reducible rfl))
    try simp only [Act.put, List.getElem_toArray, List.getElem_cons_zero, List.getElem_cons_succ, List.setIfInBounds_toArray, List.set_cons_zero, List.set_cons_succ]
    refine wpAnyH_ready (rs := [9]) (by kernel_rfl) (by simp) ?_
    refine AllReadyH.cons (o := _) rfl (fun K hK => ?_) AllReadyH.nil
    go_simp
    refine Calls.mono (HH.out _ (hE.trans X0)) ?_
    rintro e w1 ⟨rfl, hE1⟩
    dsimp only
    have X1 := X0.trans hE1
    clear hHeld
    refine hK.out _ _ (sK X1) (fun hHeld => ?_)
    clear hK K
    try simp only [Act.put, List.getElem_toArray, List.getElem_cons_zero, List.getElem_cons_succ, List.setIfInBounds_toArray, List.set_cons_zero, List.set_cons_succ]
    refine wpAnyH_take (i := 10) (oi := _) (v := ?v10tx) rfl (by kernel_rfl) (by kernel_rfl) (by kernel_rfl) (fun _ _ _ h => h) (Or.inl ⟨by rfl, ?y10tx⟩) (by assumption) ?r10tx
    case y10tx => (intro w' hSw; (try dsimp only at hSw); go_simp; (try with_reducible rfl))
    try simp only [Act.put, List.getElem_toArray, List.getElem_cons_zero, List.getElem_cons_succ, List.setIfInBounds_toArray, List.set_cons_zero, List.set_cons_succ]
    refine wpAnyH_ready (rs := [11]) (by kernel_rfl) (by simp) ?_
    refine AllReadyH.cons (o := _) rfl (fun K hK => ?_) AllReadyH.nil
    go_simp
    refine Calls.mono (HI.out _) ?_
    rintro e w2 ⟨rfl, rfl⟩
    dsimp only
    have X2 := X1
    refine hK.out _ _ (sK X2) (fun hHeld2 => ?_)
    clear hK K
    try simp only [Act.put, List.getElem_toArray, List.getElem_cons_zero, List.getElem_cons_succ, List.setIfInBounds_toArray, List.set_cons_zero, List.set_cons_succ]
    clear hHeld
    have hHeld := hHeld2
    clear hHeld2
    refine wpAnyH_take (i := 12) (oi := _) (v := ?v12tx2) rfl (by kernel_rfl) (by kernel_rfl) (by kernel_rfl) (fun _ _ _ h => h) (Or.inl ⟨by rfl, ?y12tx2⟩) (by assumption) ?r12tx2
    case y12tx2 => (intro w' hSw; (try dsimp only at hSw); go_simp; (try with_reducible rfl))
    try simp only [Act.put, List.getElem_toArray, List.getElem_cons_zero, List.getElem_cons_succ, List.setIfInBounds_toArray, List.set_cons_zero, List.set_cons_succ]
    refine wpAnyH_take (i := 13) (oi := _) (v := ?v13tx2) rfl (by kernel_rfl) (by kernel_rfl) (by kernel_rfl) (fun _ _ _ h => h) (Or.inl ⟨by rfl, ?y13tx2⟩) (by assumption) ?r13tx2
    case y13tx2 => (intro w' hSw; (try dsimp only at hSw); go_simp; (try with_reducible rfl))
    try simp only [Act.put, List.getElem_toArray, List.getElem_cons_zero, List.getElem_cons_succ, List.setIfInBounds_toArray, List.set_cons_zero, List.set_cons_succ]
    refine wpAnyH_take (i := 14) (oi := _) (v := undef) rfl (by kernel_rfl) (by kernel_rfl) (by kernel_rfl) (fun _ _ _ h => h) (Or.inr ⟨by rfl, rfl⟩) (by assumption) ?r14ux
    try simp only [Act.put, List.getElem_toArray, List.getElem_cons_zero, List.getElem_cons_succ, List.setIfInBounds_toArray, List.set_cons_zero, List.set_cons_succ]
    refine wpAnyH_take (i := 15) (oi := _) (v := undef) rfl (by kernel_rfl) (by kernel_rfl) (by kernel_rfl) (fun _ _ _ h => h) (Or.inr ⟨by rfl, rfl⟩) (by assumption) ?r15ux
    try simp only [Act.put, List.getElem_toArray, List.getElem_cons_zero, List.getElem_cons_succ, List.setIfInBounds_toArray, List.set_cons_zero, List.set_cons_succ]
    refine wpAnyH_take (i := 16) (oi := _) (v := undef) rfl (by kernel_rfl) (by kernel_rfl) (by kernel_rfl) (fun _ _ _ h => h) (Or.inr ⟨by rfl, rfl⟩) (by assumption) ?r16ux
    try simp only [Act.put, List.getElem_toArray, List.getElem_cons_zero, List.getElem_cons_succ, List.setIfInBounds_toArray, List.set_cons_zero, List.set_cons_succ]
    refine wpAnyH_take (i := 17) (oi := _) (v := undef) rfl (by kernel_rfl) (by kernel_rfl) (by kernel_rfl) (fun _ _ _ h => h) (Or.inr ⟨by rfl, rfl⟩) (by assumption) ?r17ux
    try simp only [Act.put, List.getElem_toArray, List.getElem_cons_zero, List.getElem_cons_succ, List.setIfInBounds_toArray, List.set_cons_zero, List.set_cons_succ]
    refine wpAnyH_take (i := 18) (oi := _) (v := ?v18vx) rfl (by kernel_rfl) (by kernel_rfl) (by kernel_rfl) (fun _ _ _ h => h) (Or.inl ⟨by rfl, ?y18vx⟩) (by assumption) ?r18vx
    case y18vx => (intro w' hSw; (try dsimp only at hSw); go_simp; (try with_reducible rfl))
    try simp only [Act.put, List.getElem_toArray, List.getElem_cons_zero, List.getElem_cons_succ, List.setIfInBounds_toArray, List.set_cons_zero, List.set_cons_succ]
    refine wpAnyH_take (i := 19) (oi := _) (v := ?v19vx) rfl (by kernel_rfl) (by kernel_rfl) (by kernel_rfl) (fun _ _ _ h => h) (Or.inl ⟨by rfl, ?y19vx⟩) (by assumption) ?r19vx
    case y19vx => (intro w' hSw; (try dsimp only at hSw); go_simp; (try with_reducible rfl))
    try simp only [Act.put, List.getElem_toArray, List.getElem_cons_zero, List.getElem_cons_succ, List.setIfInBounds_toArray, List.set_cons_zero, List.set_cons_succ]
    refine wpAnyH_done (by kernel_rfl) ?_ _
    have HX := hid (hE.trans X2)
    go_wp2
    go_ret
    exact ⟨ret_bool (by simp), HX.out⟩
  · go_enter Tryz.func133, Tryz.ntmps133
    go_wp2_with fail
    refine wp_abs (fun W => W.cell? ⟨w.heap.size, 0, none⟩ = some (.int .i64 hr) ∧ W.cell? ⟨w.heap.size, 1, none⟩ = some (.int .i64 wi) ∧ W.cell? ⟨w.heap.size, 2, none⟩ = some (.int .i64 ra) ∧ W.cell? ⟨w.heap.size, 3, none⟩ = some (.int .i64 te) ∧ W.cell? ⟨q0, 0, none⟩ = some (.slice A n c) ∧ W.cell? ⟨q2, 0, none⟩ = some (.map (some MB)) ∧ w.heap.size + 1 ≤ W.heap.size ∧ Ext w W) ⟨by go_simp, by go_simp, by go_simp, by go_simp, by go_simp, by go_simp, by simp, by (repeat' (first | with_reducible assumption | with_reducible exact Ext.refl _ | with_reducible refine Ext.alloc ?_ _ | with_reducible refine Ext.set ?_ ?_ _ | with_reducible refine Ext.drew ?_ | with_reducible refine Ext.drewN ?_ _ | with_reducible refine Ext.trans ?_ (by assumption) | (dsimp only; omega)))⟩ ?_
    rintro W ⟨d0, d1, d2, d3, k0, k2, hz, hE⟩
    clear c0 c2
    have hq0 : q0 < W.heap.size := by omega
    have hq2 : q2 < W.heap.size := by omega
    have hw' : w.heap.size < W.heap.size := by omega
    refine wp_region_held_drew (S := fun w' => (∀ b o, b < W.heap.size → w'.cell? ⟨b, o, none⟩ = W.cell? ⟨b, o, none⟩) ∧ W.heap.size ≤ w'.heap.size ∧ Ext W w') (by kernel_rfl) ?hS0 (fun hHeld => ?_)
    case hS0 => exact sK (Ext.drew (Ext.refl _))
    have X0 : Ext W W.drew := Ext.drew (Ext.refl W)
    refine wpAnyH_take (i := 0) (oi := _) (v := ?v0ay) rfl (by kernel_rfl) (by kernel_rfl) (by kernel_rfl) (fun _ _ _ h => h) (Or.inl ⟨by rfl, ?y0ay⟩) (by assumption) ?r0ay
    case y0ay => (intro w' hSw; (try dsimp only at hSw); go_simp; (try with_reducible rfl))
    try simp only [Act.put, List.getElem_toArray, List.getElem_cons_zero, List.getElem_cons_succ, List.setIfInBounds_toArray, List.set_cons_zero, List.set_cons_succ]
    refine wpAnyH_take (i := 1) (oi := _) (v := ?v1ay) rfl (by kernel_rfl) (by kernel_rfl) (by kernel_rfl) (fun _ _ _ h => h) (Or.inl ⟨by rfl, ?y1ay⟩) (by assumption) ?r1ay
    case y1ay => (intro w' hSw; (try dsimp only at hSw); go_simp; (try with_reducible rfl))
    try simp only [Act.put, List.getElem_toArray, List.getElem_cons_zero, List.getElem_cons_succ, List.setIfInBounds_toArray, List.set_cons_zero, List.set_cons_succ]
    refine wpAnyH_take (i := 2) (oi := _) (v := ?v2ay) rfl (by kernel_rfl) (by kernel_rfl) (by kernel_rfl) (fun _ _ _ h => h) (Or.inl ⟨by rfl, ?y2ay⟩) (by assumption) ?r2ay
    case y2ay => (intro w' hSw; (try dsimp only at hSw); go_simp; (try with_reducible rfl))
    try simp only [Act.put, List.getElem_toArray, List.getElem_cons_zero, List.getElem_cons_succ, List.setIfInBounds_toArray, List.set_cons_zero, List.set_cons_succ]
    refine wpAnyH_take (i := 3) (oi := _) (v := ?v3by) rfl (by kernel_rfl) (by kernel_rfl) (by kernel_rfl) (fun _ _ _ h => h) (Or.inl ⟨by rfl, ?y3by⟩) (by assumption) ?r3by
    case y3by => (intro w' hSw; (try dsimp only at hSw); go_simp; (try simp only [HLK.out _ (hE.trans hSw.2.2), Result.andThen_ok]); (try with_reducible rfl))
    try simp only [Act.put, List.getElem_toArray, List.getElem_cons_zero, List.getElem_cons_succ, List.setIfInBounds_toArray, List.set_cons_zero, List.set_cons_succ]
    refine wpAnyH_take (i := 4) (oi := _) (v := ?v4by) rfl (by kernel_rfl) (by kernel_rfl) (by kernel_rfl) (fun _ _ _ h => h) (Or.inl ⟨by rfl, ?y4by⟩) (by assumption) ?r4by
    case y4by => (intro w' hSw; (try dsimp only at hSw); go_simp; (try simp only [hd]); (try with_reducible rfl))
    try simp only [Act.put, List.getElem_toArray, List.getElem_cons_zero, List.getElem_cons_succ, List.setIfInBounds_toArray, List.set_cons_zero, List.set_cons_succ]
    refine wpAnyH_take (i := 5) (oi := _) (v := ?v5by) rfl (by kernel_rfl) (by kernel_rfl) (by kernel_rfl) (fun _ _ _ h => h) (Or.inl ⟨by rfl, ?y5by⟩) (by assumption) ?r5by
    case y5by => (intro w' hSw; (try dsimp only at hSw); go_simp; (try with_reducible rfl))
    try simp only [Act.put, List.getElem_toArray, List.getElem_cons_zero, List.getElem_cons_succ, List.setIfInBounds_toArray, List.set_cons_zero, List.set_cons_succ]
    refine wpAnyH_take (i := 6) (oi := _) (v := ?v6sy) rfl (by kernel_rfl) (by kernel_rfl) (by kernel_rfl) (fun _ _ _ h => h) (Or.inl ⟨by rfl, ?y6sy⟩) (by assumption) ?r6sy
    case y6sy => (intro w' hSw; (try dsimp only at hSw); go_simp; (try with_reducible rfl))
    try simp only [Act.put, List.getElem_toArray, List.getElem_cons_zero, List.getElem_cons_succ, List.setIfInBounds_toArray, List.set_cons_zero, List.set_cons_succ]
    refine wpAnyH_take (i := 7) (oi := _) (v := ?v7sy) rfl (by kernel_rfl) (by kernel_rfl) (by kernel_rfl) (fun _ _ _ h => h) (Or.inl ⟨by rfl, ?y7sy⟩) (by assumption) ?r7sy
    case y7sy => (intro w' hSw; (try dsimp only at hSw); go_simp; (try with_reducible rfl))
    try simp only [Act.put, List.getElem_toArray, List.getElem_cons_zero, List.getElem_cons_succ, List.setIfInBounds_toArray, List.set_cons_zero, List.set_cons_succ]
    refine wpAnyH_take (i := 8) (oi := _) (v := ?v8sy) rfl (by kernel_rfl) (by kernel_rfl) (by kernel_rfl) (fun _ _ _ h => h) (Or.inl ⟨by rfl, ?y8sy⟩) (by assumption) ?r8sy
    case y8sy => (intro w' hSw; (try dsimp only at hSw); go_simp; (try with_reducible rfl))
    try simp only [Act.put, List.getElem_toArray, List.getElem_cons_zero, List.getElem_cons_succ, List.setIfInBounds_toArray, List.set_cons_zero, List.set_cons_succ]
    refine wpAnyH_ready (rs := [9]) (by kernel_rfl) (by simp) ?_
    refine AllReadyH.cons (o := _) rfl (fun K hK => ?_) AllReadyH.nil
    go_simp
    refine Calls.mono (HH.out _ (hE.trans X0)) ?_
    rintro e w1 ⟨rfl, hE1⟩
    dsimp only
    have X1 := X0.trans hE1
    clear hHeld
    refine hK.out _ _ (sK X1) (fun hHeld => ?_)
    clear hK K
    try simp only [Act.put, List.getElem_toArray, List.getElem_cons_zero, List.getElem_cons_succ, List.setIfInBounds_toArray, List.set_cons_zero, List.set_cons_succ]
    refine wpAnyH_take (i := 10) (oi := _) (v := ?v10ty) rfl (by kernel_rfl) (by kernel_rfl) (by kernel_rfl) (fun _ _ _ h => h) (Or.inl ⟨by rfl, ?y10ty⟩) (by assumption) ?r10ty
    case y10ty => (intro w' hSw; (try dsimp only at hSw); go_simp; (try with_reducible rfl))
    try simp only [Act.put, List.getElem_toArray, List.getElem_cons_zero, List.getElem_cons_succ, List.setIfInBounds_toArray, List.set_cons_zero, List.set_cons_succ]
    refine wpAnyH_ready (rs := [11]) (by kernel_rfl) (by simp) ?_
    refine AllReadyH.cons (o := _) rfl (fun K hK => ?_) AllReadyH.nil
    go_simp
    refine Calls.mono (HI.out _) ?_
    rintro e w2 ⟨rfl, rfl⟩
    dsimp only
    have X2 := X1
    refine hK.out _ _ (sK X2) (fun hHeld2 => ?_)
    clear hK K
    try simp only [Act.put, List.getElem_toArray, List.getElem_cons_zero, List.getElem_cons_succ, List.setIfInBounds_toArray, List.set_cons_zero, List.set_cons_succ]
    clear hHeld
    have hHeld := hHeld2
    clear hHeld2
    refine wpAnyH_take (i := 12) (oi := _) (v := ?v12ty2) rfl (by kernel_rfl) (by kernel_rfl) (by kernel_rfl) (fun _ _ _ h => h) (Or.inl ⟨by rfl, ?y12ty2⟩) (by assumption) ?r12ty2
    case y12ty2 => (intro w' hSw; (try dsimp only at hSw); go_simp; (try with_reducible rfl))
    try simp only [Act.put, List.getElem_toArray, List.getElem_cons_zero, List.getElem_cons_succ, List.setIfInBounds_toArray, List.set_cons_zero, List.set_cons_succ]
    refine wpAnyH_take (i := 13) (oi := _) (v := ?v13ty2) rfl (by kernel_rfl) (by kernel_rfl) (by kernel_rfl) (fun _ _ _ h => h) (Or.inl ⟨by rfl, ?y13ty2⟩) (by assumption) ?r13ty2
    case y13ty2 => (intro w' hSw; (try dsimp only at hSw); go_simp; (try with_reducible rfl))
    try simp only [Act.put, List.getElem_toArray, List.getElem_cons_zero, List.getElem_cons_succ, List.setIfInBounds_toArray, List.set_cons_zero, List.set_cons_succ]
    refine wpAnyH_take (i := 14) (oi := _) (v := ?v14uy) rfl (by kernel_rfl) (by kernel_rfl) (by kernel_rfl) (fun _ _ _ h => h) (Or.inl ⟨by rfl, ?y14uy⟩) (by assumption) ?r14uy
    case y14uy => (intro w' hSw; (try dsimp only at hSw); go_simp; (try with_reducible rfl))
    try simp only [Act.put, List.getElem_toArray, List.getElem_cons_zero, List.getElem_cons_succ, List.setIfInBounds_toArray, List.set_cons_zero, List.set_cons_succ]
    refine wpAnyH_take (i := 15) (oi := _) (v := ?v15uy) rfl (by kernel_rfl) (by kernel_rfl) (by kernel_rfl) (fun _ _ _ h => h) (Or.inl ⟨by rfl, ?y15uy⟩) (by assumption) ?r15uy
    case y15uy => (intro w' hSw; (try dsimp only at hSw); go_simp; (try with_reducible rfl))
    try simp only [Act.put, List.getElem_toArray, List.getElem_cons_zero, List.getElem_cons_succ, List.setIfInBounds_toArray, List.set_cons_zero, List.set_cons_succ]
    refine wpAnyH_ready (rs := [16]) (by kernel_rfl) (by simp) ?_
    refine AllReadyH.cons (o := _) rfl (fun K hK => ?_) AllReadyH.nil
    go_simp
    refine Calls.mono (vJust_any _ _ _ _) ?_
    rintro e w3 ⟨rfl, hE3⟩
    dsimp only
    have X3 := X2.trans hE3
    clear hHeld
    refine hK.out _ _ (sK X3) (fun hHeld => ?_)
    clear hK K
    try simp only [Act.put, List.getElem_toArray, List.getElem_cons_zero, List.getElem_cons_succ, List.setIfInBounds_toArray, List.set_cons_zero, List.set_cons_succ]
    refine wpAnyH_ready (rs := [17]) (by kernel_rfl) (by simp) ?_
    refine AllReadyH.cons (o := _) rfl (fun K hK => ?_) AllReadyH.nil
    go_simp
    refine Calls.mono (HV.out _ (hE.trans X3)) ?_
    rintro e w4 ⟨rfl, hE4⟩
    dsimp only
    have X4 := X3.trans hE4
    clear hHeld
    refine hK.out _ _ (sK X4) (fun hHeld => ?_)
    clear hK K
    try simp only [Act.put, List.getElem_toArray, List.getElem_cons_zero, List.getElem_cons_succ, List.setIfInBounds_toArray, List.set_cons_zero, List.set_cons_succ]
    refine wpAnyH_take (i := 18) (oi := _) (v := ?v18vy) rfl (by kernel_rfl) (by kernel_rfl) (by kernel_rfl) (fun _ _ _ h => h) (Or.inl ⟨by rfl, ?y18vy⟩) (by assumption) ?r18vy
    case y18vy => (intro w' hSw; (try dsimp only at hSw); go_simp; (try with_reducible rfl))
    try simp only [Act.put, List.getElem_toArray, List.getElem_cons_zero, List.getElem_cons_succ, List.setIfInBounds_toArray, List.set_cons_zero, List.set_cons_succ]
    refine wpAnyH_take (i := 19) (oi := _) (v := ?v19vy) rfl (by kernel_rfl) (by kernel_rfl) (by kernel_rfl) (fun _ _ _ h => h) (Or.inl ⟨by rfl, ?y19vy⟩) (by assumption) ?r19vy
    case y19vy => (intro w' hSw; (try dsimp only at hSw); go_simp; (try with_reducible rfl))
    try simp only [Act.put, List.getElem_toArray, List.getElem_cons_zero, List.getElem_cons_succ, List.setIfInBounds_toArray, List.set_cons_zero, List.set_cons_succ]
    refine wpAnyH_done (by kernel_rfl) ?_ _
    have HX := hid (hE.trans X4)
    go_wp2
    go_ret
    exact ⟨ret_bool (by simp), HX.out⟩
end Go.Proofs.YtecamnhnjmldcaaGreatDoor
/- Which observations are valid: the code, the loop that counts. -/
set_option linter.unusedSimpArgs false
set_option linter.unusedVariables false
namespace Go.Proofs.YtecamnhnjmldcaaGreatDoor
open Go.RowKit
open Go.Maps
def cntK (seen : List Sg) (k : Nat) (h : Int) : Nat := (seen.take k).countP fun s => decide (s.hour = h)
theorem cntK_step (seen : List Sg) (k : Nat) (hk : k < seen.length) : (fun y => if y = (seen.getD k zeroSg).hour then cntK seen k (seen.getD k zeroSg).hour + 1 else cntK seen k y) = cntK seen (k + 1) := by
  funext y
  unfold cntK
  rw [List.take_succ_eq_append_getElem hk, List.countP_append, List.countP_singleton]
  have e : seen.getD k zeroSg = seen[k] := by simp [List.getD, List.getElem?_eq_getElem hk]
  rw [e]
  by_cases hy : y = seen[k].hour
  · subst hy
    simp
  · have : ¬ seen[k].hour = y := fun h => hy h.symm
    simp [hy, this]
theorem cntK_le (seen : List Sg) (k : Nat) (h : Int) : cntK seen k h ≤ k := by
  unfold cntK
  have h1 := List.countP_le_length (p := fun s => decide (s.hour = h)) (l := seen.take k)
  have h2 := List.length_take_le k seen
  omega
theorem sgsB_eq (n : Nat) (seen : List Sg) (k : Nat) (hl : seen.length = k) (hk : k ≤ 20) : sgsB n seen = seen.all fun s => decide (cntK seen k s.hour = 1) && (inI s.hour 0 ((n : Int) - 1) && hrB (justM s)) := by
  unfold sgsB sgB cntM cntK
  rw [hl, List.take_of_length_le (by omega)]
  simp [hk]
set_option maxHeartbeats 2000000 in
set_option maxRecDepth 100000 in
theorem vSights_any (f : List (List Hr)) (A : Option Addr) (n c : Nat) (hn : f.length = n) (hm : n ≤ 10000) (hN : hoursN f ≤ 10000) (seen : List Sg) (SA : Option Addr) (m sc : Nat) (hl : seen.length = m) (hm2 : m ≤ 1000) (hwf : ∀ s ∈ seen, (Lit.int .i64 s.hour).wf = true)
    (w : World) (hw : WidW w) (hf : ScsAt w A f) (hs : SgsAt w SA seen) :
    Calls Tryz.prog 87 #[.agg #[.slice A n c], .slice SA m sc] w fun e w' => e = .returned (.bool (sgsB (hoursN f) seen)) ∧ Ext w w' := by
  have HS := hid hs
  have HL := hid hl
  have HWF := hid hwf
  clear hs hl hwf
  have hmm := @run_makeMap Tryz.prog
  by_cases hbig : m ≤ 20
  case neg =>
    unfold sgsB
    rw [HL.out]
    go_enter Tryz.func87, Tryz.ntmps87
    go_wp2
    go_ret
    exact ⟨ret_bool (by simp [hbig]), by (repeat' (first | with_reducible assumption | with_reducible exact Ext.refl _ | with_reducible refine Ext.alloc ?_ _ | with_reducible refine Ext.set ?_ ?_ _ | with_reducible refine Ext.drew ?_ | with_reducible refine Ext.drewN ?_ _ | with_reducible refine Ext.trans ?_ (by assumption) | (dsimp only; omega)))⟩
  go_enter Tryz.func87, Tryz.ntmps87
  go_wp2
  go_loopw [14] (fun i wr => Ext w wr ∧ Hid (Blk wr w.heap.size 24 #[.slice A n c]) ∧ Hid (Blk wr (w.heap.size + 2) 178 #[.map (some (w.heap.size + 1))]) ∧ ∃ k : Nat, k ≤ m ∧ i = .int .i64 k ∧ Hid (MapC wr (w.heap.size + 1) k (cntK seen k))) (fun i _ => m - (intOf i).toNat)
  case atStart =>
    have t0 := blk_last w (.cells #[.slice A n c] 24)
    have t1 := blk_last ((w.alloc (.cells #[.slice A n c] 24)).alloc (.map #[] 0)) (.cells #[.map (some (w.heap.size + 1))] 178)
    have t2 := MapC.made (w.alloc (.cells #[.slice A n c] 24))
    rw [World.size_alloc] at t2
    rw [World.size_alloc, World.size_alloc] at t1
    exact ⟨by (repeat' (first | with_reducible assumption | with_reducible exact Ext.refl _ | with_reducible refine Ext.alloc ?_ _ | with_reducible refine Ext.set ?_ ?_ _ | with_reducible refine Ext.drew ?_ | with_reducible refine Ext.drewN ?_ _ | with_reducible refine Ext.trans ?_ (by assumption) | (dsimp only; omega))), hid (blk_old (blk_old t0 _) _), hid t1, 0, Nat.zero_le _, rfl, hid (t2.ext (ext_alloc1 _ _))⟩
  case round =>
    obtain ⟨hE, K0, K2, k, hk, rfl, HM⟩ := hrel
    have a0 := K0.out.cell 0
    have a2 := K2.out.cell 0
    simp only [List.getElem?_toArray, List.getElem?_cons_zero, List.getElem?_cons_succ] at a0 a2
    have z0 := K0.out.lt
    have z2 := K2.out.lt
    by_cases hlt : k < m
    · obtain ⟨b, off, rfl, hb, d0, d1, d2, d3⟩ := (HS.out.ext hE).at_ HL.out hlt
      have HST := hid (cntK_step seen k (by rw [HL.out]; exact hlt))
      have HW := hid (HWF.out _ (mem_at seen zeroSg k (by rw [HL.out]; exact hlt)))
      generalize seen.getD k zeroSg = s at *
      obtain ⟨hr, wi, ra, te⟩ := s
      dsimp only at *
      have HLE := hid (cntK_le seen k hr)
      go_wp2_with (first
        | (at_lookup; refine wpList_lookC _ rfl _ _ rfl (w.heap.size + 1) k (cntK seen k) rfl (HM.out.ext (ext_alloc1 _ _)) hr rfl HW.out ?_; (have hle := HLE.out))
        | (at_mapUpdate; refine wpList_putC _ rfl _ _ _ rfl (w.heap.size + 1) k (cntK seen k) rfl (HM.out.ext (ext_alloc1 _ _)) (by omega) hr rfl HW.out (cntK seen k hr + 1) (by first | rfl | (simp; done)) (by have := HLE.out; omega) ?_; intro w1 hM1 hg1))
      have HG := hid ((World.grownBy_alloc wr _ _).trans hg1)
      have G0 := hid (K0.out.grown HG.out (by simp))
      have G2 := hid (K2.out.grown HG.out (by simp))
      have GE := hid (show Ext w w1 from Below.grown hE HG.out hE.size (fun j ej => by injection ej with ej; omega))
      have GM := hid hM1
      clear hg1 hM1 HG
      go_roundw
      case rel => exact ⟨GE.out, G0, G2, k + 1, by omega, by go_num, hid (by rw [← HST.out]; exact GM.out)⟩
      case measure => simp [intOf]; omega
    · obtain rfl : k = m := by omega
      have HB := hid (sgsB_eq (hoursN f) seen k HL.out hbig)
      have HP := hid (fun (s : Sg) (hs : s ∈ seen) (W : World) (hW : Ext wr W) => vSg1_any f A n c hn hm (cntK seen k) k (w.heap.size + 1) w.heap.size (w.heap.size + 2) s (HWF.out s hs) W ((hw.ext hE).ext hW) ((hf.ext hE).ext hW) (HM.out.ext hW) (Nat.lt_of_lt_of_le z0 hW.size) (Nat.lt_of_lt_of_le z2 hW.size) ((hW.cell z0).trans a0) ((hW.cell z2).trans a2) hN)
      have HA := hid (allSg_any 133 #[.pointer (some ⟨w.heap.size + 2, 0, none⟩), .pointer (some ⟨w.heap.size, 0, none⟩)] (fun _ _ => by kernel_rfl) seen _ SA k sc HL.out (by omega) wr (HS.out.ext hE) (fun x W hW hx => HP.out x hx W hW))
      clear HP HS HM K0 K2 a0 a2 hw hf
      go_wp2_with (go_at_call 128; refine HA.out.mono ?_; rintro e w2 ⟨rfl, hE2⟩)
      go_ret
      exact ⟨ret_bool (by rw [HB.out]), hE.trans hE2⟩
theorem checkSights_any (f : List (List Hr)) (A : Option Addr) (n c : Nat) (hn : f.length = n) (hm : n ≤ 10000) (hN : hoursN f ≤ 10000) (seen : List Sg) (SA : Option Addr) (m sc : Nat) (hl : seen.length = m) (hm2 : m ≤ 1000) (hwf : ∀ s ∈ seen, (Lit.int .i64 s.hour).wf = true)
    (w : World) (hw : WidW w) (hf : ScsAt w A f) (hs : SgsAt w SA seen) :
    Calls Tryz.prog 41 #[.agg #[.slice A n c], .slice SA m sc] w fun e w' => e = .returned (.int .i64 (unlessM (sgsB (hoursN f) seen) 51)) ∧ Ext w w' := by
  have HF := hid (fun (W : World) (hW : Ext w W) => vSights_any f A n c hn hm hN seen SA m sc hl hm2 hwf W (hw.ext hW) (hf.ext hW) (hs.ext hW))
  have HU := hid (fun b (W : World) => vUnless_any b 51 W)
  clear hf hw hl hn hs hwf hN
  generalize sgsB (hoursN f) seen = B at *
  go_enter Tryz.func41, Tryz.ntmps41
  go_wp2_with (first
    | (go_at_call 87; refine (HF.out _ (by (repeat' (first | with_reducible assumption | with_reducible exact Ext.refl _ | with_reducible refine Ext.alloc ?_ _ | with_reducible refine Ext.set ?_ ?_ _ | with_reducible refine Ext.drew ?_ | with_reducible refine Ext.drewN ?_ _ | with_reducible refine Ext.trans ?_ (by assumption) | (dsimp only; omega))))).mono ?_; rintro e w2 ⟨rfl, hE⟩; (first | (have hK := KC.step (n := w.heap.size + 1) (by with_reducible assumption) hE) | (have hK := KC.step (KC.step (n := w.heap.size + 1) (by with_reducible assumption) (ext_alloc1 _ _)) hE) | (have hK := KC.step (KC.refl (n := w.heap.size + 1) (by simp)) hE)); have hC := hK.cell; have hF := hK.fro; have hX := hK.ext)
    | (go_at_call 85; refine (HU.out _ _).mono ?_; rintro e w2 ⟨rfl, rfl⟩))
  go_ret
  exact ⟨rfl, by (repeat' (first | with_reducible assumption | with_reducible exact Ext.refl _ | with_reducible refine Ext.alloc ?_ _ | with_reducible refine Ext.set ?_ ?_ _ | with_reducible refine Ext.drew ?_ | with_reducible refine Ext.drewN ?_ _ | with_reducible refine Ext.trans ?_ (by assumption) | (dsimp only; omega)))⟩
end Go.Proofs.YtecamnhnjmldcaaGreatDoor
/- Forecasts and observations as arguments; the calls that check them. -/
set_option linter.unusedSimpArgs false
set_option linter.unusedVariables false
namespace Go.Proofs.YtecamnhnjmldcaaGreatDoor
open Go.RowKit
structure FIn (w : World) (f : List (List Hr)) (A : Option Addr) (n : Nat) (seen : List Sg) (SA : Option Addr) (m : Nat) : Prop where
  hn : f.length = n
  hm : n ≤ 1000
  hx : ∀ x ∈ f, x.length ≤ 1000
  hl : seen.length = m
  hm2 : m ≤ 1000
  hwf : ∀ s ∈ seen, (Lit.int .i64 s.hour).wf = true
  sc : ScsAt w A f
  sg : SgsAt w SA seen
  wid : WidW w
theorem FIn.ext {w w' : World} {f : List (List Hr)} {A : Option Addr} {n : Nat} {seen : List Sg} {SA : Option Addr} {m : Nat} (h : FIn w f A n seen SA m) (e : Ext w w') : FIn w' f A n seen SA m :=
  ⟨h.hn, h.hm, h.hx, h.hl, h.hm2, h.hwf, h.sc.ext e, h.sg.ext e, h.wid.ext e⟩
theorem FIn.hours {w : World} {f : List (List Hr)} {A : Option Addr} {n : Nat} {seen : List Sg} {SA : Option Addr} {m : Nat} (h : FIn w f A n seen SA m) : hoursN f ≤ 1000 := by
  unfold hoursN
  cases f with
  | nil => simp
  | cons x t => exact h.hx x (by simp)
def fcE (f : List (List Hr)) : Int := unlessM (fcB f) 50
def sgE (f : List (List Hr)) (seen : List Sg) : Int := unlessM (sgsB (hoursN f) seen) 51
theorem fcE_ok {f : List (List Hr)} (h : fcE f = 0) : fcB f = true := by
  unfold fcE unlessM at h
  cases hb : fcB f
  · rw [hb] at h; simp at h
  · rfl
theorem sgE_ok {f : List (List Hr)} {seen : List Sg} (h : sgE f seen = 0) : sgsB (hoursN f) seen = true := by
  unfold sgE unlessM at h
  cases hb : sgsB (hoursN f) seen
  · rw [hb] at h; simp at h
  · rfl
theorem orM_zero {x : Int} {xs : List Int} (h : orM (x :: xs) = 0) : x = 0 ∧ orM xs = 0 := by
  unfold orM at h
  by_cases hx : x = 0
  · rw [if_pos hx] at h; exact ⟨hx, h⟩
  · rw [if_neg hx] at h; exact absurd h hx
theorem FIn.check {w : World} {f : List (List Hr)} {A : Option Addr} {n : Nat} {seen : List Sg} {SA : Option Addr} {m : Nat} (h : FIn w f A n seen SA m) (c : Nat) : Calls Tryz.prog 40 #[.agg #[.slice A n c]] w fun e w' => e = .returned (.int .i64 (fcE f)) ∧ Ext w w' :=
  vCheck_any f A n c h.hn (by have := h.hm; omega) (fun x hx => by have := h.hx x hx; omega) w h.wid h.sc
theorem FIn.sights {w : World} {f : List (List Hr)} {A : Option Addr} {n : Nat} {seen : List Sg} {SA : Option Addr} {m : Nat} (h : FIn w f A n seen SA m) (c sc : Nat) : Calls Tryz.prog 41 #[.agg #[.slice A n c], .slice SA m sc] w fun e w' => e = .returned (.int .i64 (sgE f seen)) ∧ Ext w w' :=
  checkSights_any f A n c h.hn (by have := h.hm; omega) (by have := h.hours; omega) seen SA m sc h.hl h.hm2 h.hwf w h.wid h.sc h.sg
theorem FIn.hoursC {w : World} {f : List (List Hr)} {A : Option Addr} {n : Nat} {seen : List Sg} {SA : Option Addr} {m : Nat} (h : FIn w f A n seen SA m) (c : Nat) : Calls Tryz.prog 125 #[.agg #[.slice A n c]] w fun e w' => e = .returned (.int .i64 (hoursN f)) ∧ Ext w w' :=
  hours_any A n c f h.hn w h.sc (by have := h.hm; omega)
theorem FIn.begin {w : World} {f : List (List Hr)} {A : Option Addr} {n : Nat} {seen : List Sg} {SA : Option Addr} {m : Nat} (h : FIn w f A n seen SA m) (c sc : Nat) (xs : List Int) (EA : Option Addr) (en ec : Nat) (hx : xs.length = en) (hen : en ≤ 1000) (hv : orM xs = 0 → fcB f = true ∧ sgsB (hoursN f) seen = true) (hi : IntsAt w EA xs) :
    Calls Tryz.prog 39 #[.agg #[.slice A n c], .slice SA m sc, .slice EA en ec] w (BegIs f seen xs w.heap.size w) :=
  begin_any f A n c h.hn seen SA m sc h.hl xs EA en ec hx hen hv w h.sc h.sg hi
theorem region_post {P : Program} {c : Code} {Q : Exit → Act → World → Prop} {a : Act} {w : World} (h : ∀ QQ, QQ = Q → Code.wp P c QQ a w) : Code.wp P c Q a w := h Q rfl
theorem region_rest {P : Program} {c : Code} {Q : Exit → Act → World → Prop} {a : Act} {w : World} (R : (Exit → Act → World → Prop) → Prop) (h1 : R Q) (h2 : R Q → Code.wp P c Q a w) : Code.wp P c Q a w := h2 h1
theorem Blk.fill3 {w : World} {b : Nat} {t : TypeId} {x0 y0 z0 : Value} (h : Blk w b t #[x0, y0, z0]) (x y z : Value) : Blk (w.setCells b 0 [x, y, z]) b t #[x, y, z] := by
  have h3 := ((h.setAt 0 x).setAt 1 y).setAt 2 z
  simp only [List.setIfInBounds_toArray, List.set_cons_zero, List.set_cons_succ] at h3
  exact h3
def fillA : Array Value → Nat → List Value → Array Value
  | cs, _, [] => cs
  | cs, o, v :: r => fillA (cs.setIfInBounds o v) (o + 1) r
theorem Blk.fill {w : World} {b : Nat} {t : TypeId} {cs : Array Value} (h : Blk w b t cs) : ∀ (vs : List Value) (o : Nat), Blk (w.setCells b o vs) b t (fillA cs o vs) := by
  intro vs
  induction vs generalizing w cs with
  | nil => intro o; exact h
  | cons v r ih => intro o; exact ih (h.setAt o v) (o + 1)
theorem one_of {vs : List Value} (h : ∀ v ∈ vs, v.oneCell' = true) : vs.toArray.all (·.oneCell') = true := all_oneCell_toArray h
theorem blk_there {w : World} {b : Nat} {t : TypeId} {cs : Array Value} (h : Blk w b t cs) {n : Nat} (hn : cs.size = n) : w.there b 0 n := fun j hj => by
  refine ⟨?_, h.fro _⟩
  rw [h.cell, Nat.zero_add, Array.getElem?_eq_getElem (by omega)]
  rfl
theorem ext_setCells {a w : World} (h : Ext a w) {b : Nat} (hb : a.heap.size ≤ b) : ∀ (vs : List Value) (o : Nat), Ext a (w.setCells b o vs) := by
  intro vs
  induction vs generalizing w with
  | nil => intro o; exact h
  | cons v r ih => intro o; exact ih (h.set (p := ⟨b, o, none⟩) hb v) (o + 1)
theorem grown_setCells {w : World} {b : Nat} : ∀ (vs : List Value) (o : Nat), w.grownBy (w.setCells b o vs) (some b) := by
  intro vs
  induction vs generalizing w with
  | nil => intro o; exact ⟨rfl, rfl, rfl, Nat.le_refl _, fun _ _ _ => rfl⟩
  | cons v r ih => intro o; exact (grown_set w ⟨b, o, none⟩ v).trans (ih (o + 1))
theorem infoOut : (Tryz.prog.info? 100).map (·.size) = some 3 := by kernel_rfl
theorem absW {W X : World} (_ : Ext W X) (o : Obj) : ∃ Y, X.alloc o = Y := ⟨_, rfl⟩
theorem out_one (N : Nat) (A1 : Option Addr) (n1 c1 : Nat) (A2 : Option Addr) (n2 c2 : Nat) : (#[.int .i64 (N : Int), .slice A1 n1 c1, .slice A2 n2 c2] : Array Value).all (·.oneCell') = true :=
  all_oneCell_toArray (cs := [.int .i64 (N : Int), .slice A1 n1 c1, .slice A2 n2 c2]) (by intro v hv; simp only [List.mem_cons, List.not_mem_nil, or_false] at hv; rcases hv with rfl | rfl | rfl <;> rfl)
theorem blkNew {W X : World} (_ : Ext W X) (t : TypeId) (cs : Array Value) : Blk (X.alloc (.cells cs t)) X.heap.size t cs := blk_last X _
theorem intsNew {W X : World} (_ : Ext W X) (xs : List Int) (cs : Array Value) (h : cs.toList = xs.map (Value.int .i64)) : IntsAt (X.alloc (.cells cs 36)) (some ⟨X.heap.size, 0, none⟩) xs := fun _ => by
  have hb := blk_last X (.cells cs 36)
  refine ⟨X.heap.size, 0, rfl, (Array.getElem?_eq_some_iff.1 hb).1, fun k hk => ?_⟩
  rw [Nat.zero_add, blk_cell hb, ← Array.getElem?_toList, h, List.getElem?_map]
  simp [List.getD, List.getElem?_eq_getElem hk]
end Go.Proofs.YtecamnhnjmldcaaGreatDoor
/- isIn; the least and greatest values of an hour. -/
set_option linter.unusedSimpArgs false
set_option linter.unusedVariables false
namespace Go.Proofs.YtecamnhnjmldcaaGreatDoor
open Go.RowKit
theorem any_take_snoc {α : Type} (xs : List α) (p : α → Bool) (d : α) (k : Nat) (h : k < xs.length) : (xs.take (k + 1)).any p = ((xs.take k).any p || p (xs.getD k d)) := by
  rw [List.take_succ_eq_append_getElem h, List.any_append]
  simp [List.getD, List.getElem?_eq_getElem h]
theorem any_of_at {α : Type} (xs : List α) (p : α → Bool) (d : α) (k : Nat) (h : k < xs.length) (hp : p (xs.getD k d) = true) : xs.any p = true := by
  rw [List.any_eq_true]
  refine ⟨xs[k], List.getElem_mem _, ?_⟩
  simpa [List.getD, List.getElem?_eq_getElem h] using hp
theorem any_false_end {α : Type} {xs : List α} {p : α → Bool} {k : Nat} (h : (xs.take k).any p = false) (hk : xs.length ≤ k) : xs.any p = false := by rwa [List.take_of_length_le hk] at h
/-- The first index at which p holds, or -1: only its sign matters. -/
def Found (b : Bool) (W : World) (e : Ending) (W' : World) : Prop := (∃ r : Int, e = .returned (.int .i64 r) ∧ decide (0 ≤ r) = b) ∧ Ext W W'
theorem Found.mk {b : Bool} {W W' : World} (r : Int) (h : decide (0 ≤ r) = b) (e : Ext W W') : Found b W (.returned (.int .i64 r)) W' := ⟨⟨r, rfl, h⟩, e⟩
theorem OpensAt.at_ {w : World} {A : Option Addr} {xs : List (Int × Int)} (h : OpensAt w A xs) {n k : Nat} (hn : xs.length = n) (hk : k < n) : ∃ b off, A = some ⟨b, off, none⟩ ∧ b < w.heap.size ∧ w.cell? ⟨b, off + k * 2, none⟩ = some (.int .i64 (xs.getD k (0, 0)).1) ∧ w.cell? ⟨b, off + k * 2 + 1, none⟩ = some (.int .i64 (xs.getD k (0, 0)).2) := by
  obtain ⟨b, off, hA, hb, hc⟩ := h (by rintro rfl; simp at hn; omega)
  exact ⟨b, off, hA, hb, (hc k (by omega)).1, (hc k (by omega)).2⟩
set_option maxRecDepth 100000 in
set_option maxHeartbeats 1000000 in
theorem indexSp_any (fn : Nat) (caps : Array Value) (eg : ∀ args w, (callFunc fn args).run Tryz.prog w = .ok (.enter fn args) w) (xs : List (Int × Int)) (p : Int × Int → Bool) (A : Option Addr) (n c : Nat) (hn : xs.length = n) (hm : n ≤ 10000) (w : World) (hx : OpensAt w A xs)
    (hf : ∀ (x : Int × Int) (W : World), Ext w W → x ∈ xs → Calls Tryz.prog fn (#[.agg #[.int .i64 x.1, .int .i64 x.2]] ++ caps) W fun e W' => e = .returned (.bool (p x)) ∧ Ext W W') :
    Calls Tryz.prog 156 #[.slice A n c, .func (.func fn) #[] caps] w (Found (xs.any p) w) := by
  have HFF := hid hf
  have HX := hid hx
  have HN := hid hn
  have HEG := hid eg
  clear hf hx hn eg
  go_enter Tryz.func156, Tryz.ntmps156
  go_wp2
  go_loopw [8] (fun i wr => Ext w wr ∧ ∃ k : Nat, k ≤ n ∧ i = .int .i64 k ∧ (xs.take k).any p = false) (fun i _ => n - (intOf i).toNat)
  case atStart => exact ⟨by (repeat' (first | with_reducible assumption | with_reducible exact Ext.refl _ | with_reducible refine Ext.alloc ?_ _ | with_reducible refine Ext.set ?_ ?_ _ | with_reducible refine Ext.drew ?_ | with_reducible refine Ext.drewN ?_ _ | with_reducible refine Ext.trans ?_ (by assumption) | (dsimp only; omega))), 0, Nat.zero_le _, rfl, rfl⟩
  case round =>
    obtain ⟨hE, k, hk, rfl, ha⟩ := hrel
    have HA := hid ha
    clear ha
    by_cases hlt : k < n
    · obtain ⟨b, off, rfl, hb, c0, c1⟩ := (HX.out.ext hE).at_ HN.out hlt
      have HS := hid (any_take_snoc xs p (0, 0) k (by rw [HN.out]; omega))
      have HY := hid (any_of_at xs p (0, 0) k (by rw [HN.out]; omega))
      have HM := hid (mem_at xs (0, 0) k (by rw [HN.out]; omega))
      clear HX
      generalize xs.getD k (0, 0) = x at *
      go_wp2_with fail
      rw [HEG.out]
      refine Calls.mono (HFF.out x _ ?ext HM.out) ?_
      case ext => (repeat' (first | with_reducible assumption | with_reducible exact Ext.refl _ | with_reducible refine Ext.alloc ?_ _ | with_reducible refine Ext.set ?_ ?_ _ | with_reducible refine Ext.drew ?_ | with_reducible refine Ext.drewN ?_ _ | with_reducible refine Ext.trans ?_ (by assumption) | (dsimp only; omega)))
      rintro e w2 ⟨rfl, hE2⟩
      rcases Bool.eq_false_or_eq_true (p x) with hp | hp
      · rw [hp]
        have HP := hid (HY.out hp)
        clear hp
        go_wp2
        go_ret
        exact Found.mk _ (by rw [HP.out]; simp) (by (repeat' (first | with_reducible assumption | with_reducible exact Ext.refl _ | with_reducible refine Ext.alloc ?_ _ | with_reducible refine Ext.set ?_ ?_ _ | with_reducible refine Ext.drew ?_ | with_reducible refine Ext.drewN ?_ _ | with_reducible refine Ext.trans ?_ (by assumption) | (dsimp only; omega))))
      · rw [hp]
        have HP := hid (HS.out.trans (by rw [HA.out, hp]))
        clear hp
        go_wp2
        go_roundw
        case rel => exact ⟨by (repeat' (first | with_reducible assumption | with_reducible exact Ext.refl _ | with_reducible refine Ext.alloc ?_ _ | with_reducible refine Ext.set ?_ ?_ _ | with_reducible refine Ext.drew ?_ | with_reducible refine Ext.drewN ?_ _ | with_reducible refine Ext.trans ?_ (by assumption) | (dsimp only; omega))), k + 1, by omega, by go_num, HP.out⟩
        case measure => simp [intOf]; omega
    · have HP := hid (any_false_end HA.out (by rw [HN.out]; omega))
      go_wp2
      go_ret
      exact Found.mk _ (by rw [HP.out]; rfl) (by (repeat' (first | with_reducible assumption | with_reducible exact Ext.refl _ | with_reducible refine Ext.alloc ?_ _ | with_reducible refine Ext.set ?_ ?_ _ | with_reducible refine Ext.drew ?_ | with_reducible refine Ext.drewN ?_ _ | with_reducible refine Ext.trans ?_ (by assumption) | (dsimp only; omega))))
set_option maxHeartbeats 1000000 in
theorem containsSp_any (fn : Nat) (caps : Array Value) (eg : ∀ args w, (callFunc fn args).run Tryz.prog w = .ok (.enter fn args) w) (xs : List (Int × Int)) (p : Int × Int → Bool) (A : Option Addr) (n c : Nat) (hn : xs.length = n) (hm : n ≤ 10000) (w : World) (hx : OpensAt w A xs)
    (hf : ∀ (x : Int × Int) (W : World), Ext w W → x ∈ xs → Calls Tryz.prog fn (#[.agg #[.int .i64 x.1, .int .i64 x.2]] ++ caps) W fun e W' => e = .returned (.bool (p x)) ∧ Ext W W') :
    Calls Tryz.prog 143 #[.slice A n c, .func (.func fn) #[] caps] w fun e w' => e = .returned (.bool (xs.any p)) ∧ Ext w w' := by
  have HC := hid (indexSp_any fn caps eg xs p A n c hn hm w hx hf)
  clear hf hn hx eg
  go_enter Tryz.func143, Tryz.ntmps143
  go_wp2_with fail
  refine HC.out.mono ?_
  rintro e w2 ⟨⟨r, rfl, hr⟩, hE2⟩
  have HR := hid hr
  clear hr HC
  go_wp2
  go_ret
  exact ⟨ret_bool HR.out, hE2⟩
set_option maxHeartbeats 1000000 in
theorem isIn1_any (x l h : Int) (q : Nat) (w : World) (hq : q < w.heap.size) (c0 : w.cell? ⟨q, 0, none⟩ = some (.int .i64 x)) :
    Calls Tryz.prog 144 #[.agg #[.int .i64 l, .int .i64 h], .pointer (some ⟨q, 0, none⟩)] w fun e w' => e = .returned (.bool (inI x l h)) ∧ Ext w w' := by
  go_enter Tryz.func144, Tryz.ntmps144
  go_wp2_with (go_at_call 105; refine (vWithin_any _ _ _ _).mono ?_; rintro e w' ⟨rfl, rfl⟩)
  go_ret
  exact ⟨rfl, by (repeat' (first | with_reducible assumption | with_reducible exact Ext.refl _ | with_reducible refine Ext.alloc ?_ _ | with_reducible refine Ext.set ?_ ?_ _ | with_reducible refine Ext.drew ?_ | with_reducible refine Ext.drewN ?_ _ | with_reducible refine Ext.trans ?_ (by assumption) | (dsimp only; omega)))⟩
set_option maxHeartbeats 1000000 in
theorem isIn_any (x : Int) (xs : List (Int × Int)) (A : Option Addr) (n c : Nat) (hn : xs.length = n) (hm : n ≤ 10000) (w : World) (hx : OpensAt w A xs) :
    Calls Tryz.prog 113 #[.int .i64 x, .slice A n c] w fun e w' => e = .returned (.bool (isInM x xs)) ∧ Ext w w' := by
  have HA := hid (fun (W : World) (hW : Ext w W) (hq : w.heap.size < W.heap.size) (c0 : W.cell? ⟨w.heap.size, 0, none⟩ = some (.int .i64 x)) =>
    containsSp_any 144 #[.pointer (some ⟨w.heap.size, 0, none⟩)] (fun _ _ => by kernel_rfl) xs (fun s => inI x s.1 s.2) A n c hn hm W (hx.ext hW)
      (fun s W' h1 _ => isIn1_any x s.1 s.2 w.heap.size W' (Nat.lt_of_lt_of_le hq h1.size) ((h1.cell hq).trans c0)))
  clear hx hn
  unfold isInM
  generalize (xs.any fun s => inI x s.1 s.2) = B at *
  go_enter Tryz.func113, Tryz.ntmps113
  go_wp2_with (go_at_call 143; refine (HA.out _ (by (repeat' (first | with_reducible assumption | with_reducible exact Ext.refl _ | with_reducible refine Ext.alloc ?_ _ | with_reducible refine Ext.set ?_ ?_ _ | with_reducible refine Ext.drew ?_ | with_reducible refine Ext.drewN ?_ _ | with_reducible refine Ext.trans ?_ (by assumption) | (dsimp only; omega)))) (by simp) (by go_simp)).mono ?_; rintro e w2 ⟨rfl, hE⟩)
  go_ret
  exact ⟨rfl, by (repeat' (first | with_reducible assumption | with_reducible exact Ext.refl _ | with_reducible refine Ext.alloc ?_ _ | with_reducible refine Ext.set ?_ ?_ _ | with_reducible refine Ext.drew ?_ | with_reducible refine Ext.drewN ?_ _ | with_reducible refine Ext.trans ?_ (by assumption) | (dsimp only; omega)))⟩
end Go.Proofs.YtecamnhnjmldcaaGreatDoor
