/- Copy: the samples of the copy lie in memory of its own. -/
import Derived.Test.YtcfijidlbimckaaDoorCpy
set_option linter.unusedSimpArgs false
set_option linter.unusedVariables false
namespace Go.Proofs.YtcfijidlbimckaaDoor
open Go.RowKit
theorem wp_appendOSmp {o : Oper} {a : Act} {K : Act → World → Prop} {Q : Exit → Act → World → Prop} (w : World) (s x : Operand)
    (ho : o.op = .call { callee := .builtin .append, args := #[s, x], argTypes := #[23, 23] }) (B z : Nat) (A : Option Addr) (c : Nat) (os : List Smp) (hs : a.eval s = .slice (some ⟨z, 0, none⟩) 0 0) (hz : w.heap[z]? = some (.cells #[] 43 (0, 0))) (hBz : B ≤ z)
    (hx : a.eval x = .slice A os.length c) (hO : SmpAt w A os) (hl : os.length ≤ 1000)
    (h : ∀ A' c' w', w'.ownsRow B 43 2 (.slice A' os.length c') os.length (cellsSmp os) → w.grownBy w' (some z) → K (a.put o.dst (.slice A' os.length c')) w') : o.wp Tryd.prog a w K Q := by
  have hlt := (Array.getElem?_eq_some_iff.1 hz).1
  have h0r : w.ownsRow B 43 2 (.slice (some ⟨z, 0, none⟩) 0 0) 0 [] := ⟨rfl, .inr ⟨z, 0, #[], rfl, hBz, hz, Nat.le_refl _, Nat.zero_le _, rfl, rfl⟩⟩
  by_cases h0 : os = []
  · subst h0
    have hr := append_noSmp z A c o.type w
    unfold Oper.wp execOp
    simp only [ho, resolve, invoke, builtin, Sem.run_bind, Sem.run_pure, Result.andThen_ok, List.map_toArray, List.map_cons, List.map_nil, hs, hx, List.length_nil, hr]
    exact h (some ⟨z, 0, none⟩) 0 w h0r ⟨rfl, rfl, rfl, Nat.le_refl _, fun _ _ _ => rfl⟩
  · obtain ⟨b, off, rfl, hb, hc⟩ := hO h0
    obtain ⟨i0, hi, hz0, hz1, hz2⟩ := info_parts infoSmp
    refine wp_append_own w s x 23 ho B 43 i0 zvSmp 2 16 Tryd.underlying23 hi hz0 hz1 hz2 rfl (by decide) (.slice (some ⟨z, 0, none⟩) 0 0) 0 [] hs h0r ⟨b, off, none⟩ os.length c (cellsSmp os) hx (cellsSmp_len os) (cellsSmp_from (SprRow.atSmp hc)) (cellsSmp_one os) (by unfold maxLen; omega) (by omega) (by omega) (fun v' w' h1 h2 h3 => ?_)
    rw [Nat.zero_add, List.nil_append] at h1
    have hpos : 0 < os.length := List.length_pos_iff.2 h0
    have h1' := h1
    rcases h1.2 with ⟨_, h4⟩ | ⟨g, cap, cur, rfl, a2, a3, a4, a5, a6, a7⟩
    · omega
    · exact h (some ⟨g, 0, none⟩) cap w' h1' h2
theorem wpList_appendOSmp {ops : Array Oper} {rest : List Oper} {o : Oper} {a : Act} {Q : Exit → Act → World → Prop} (w : World) (hgd : o.guard = none) (s x : Operand)
    (ho : o.op = .call { callee := .builtin .append, args := #[s, x], argTypes := #[23, 23] }) (B z : Nat) (A : Option Addr) (c : Nat) (os : List Smp) (hs : a.eval s = .slice (some ⟨z, 0, none⟩) 0 0) (hz : w.heap[z]? = some (.cells #[] 43 (0, 0))) (hBz : B ≤ z)
    (hx : a.eval x = .slice A os.length c) (hO : SmpAt w A os) (hl : os.length ≤ 1000)
    (h : ∀ A' c' w', w'.ownsRow B 43 2 (.slice A' os.length c') os.length (cellsSmp os) → w.grownBy w' (some z) → wpList Tryd.prog ops Q rest (a.put o.dst (.slice A' os.length c')) w') : wpList Tryd.prog ops Q (o :: rest) a w :=
  wpList_plain hgd fun _ hK => wp_appendOSmp w s x ho B z A c os hs hz hBz hx hO hl fun A' c' w' h1 h2 => hK _ _ (h A' c' w' h1 h2)
/-- Samples in a row of one's own. -/
def OwnS (w : World) (B : Nat) (v : Value) (xs : List Smp) : Prop := w.ownsRow B 43 2 v xs.length (cellsSmp xs)
theorem OwnS.keep {w w' : World} {B : Nat} {v : Value} {xs : List Smp} (h : OwnS w B v xs) (hk : ∀ (q : Nat) (cs : Array Value), v.ownBlock = some q → w.heap[q]? = some (.cells cs 43 (0, 0)) → w'.heap[q]? = some (.cells cs 43 (0, 0))) : OwnS w' B v xs := by
  obtain ⟨h1, h2⟩ := h
  refine ⟨h1, ?_⟩
  rcases h2 with h2 | ⟨g, cap, cur, a1, a2, a3, a4⟩
  · exact .inl h2
  · exact .inr ⟨g, cap, cur, a1, a2, hk _ _ (by rw [a1]; rfl) a3, a4⟩
theorem OwnS.ext {w w' : World} {B : Nat} {v : Value} {xs : List Smp} (h : OwnS w B v xs) (e : Ext w w') : OwnS w' B v xs := h.keep fun _ _ _ ho => blk_ext ho e
theorem OwnS.block {w : World} {B : Nat} {v : Value} {xs : List Smp} (h : OwnS w B v xs) : ∀ q, v.ownBlock = some q → B ≤ q := by
  intro q hq
  rcases h.2 with ⟨h2, _⟩ | ⟨g, cap, cur, a1, a2, _⟩
  · rw [h2] at hq; cases hq
  · rw [a1] at hq
    cases hq
    exact a2
theorem OwnS.other {w : World} {B : Nat} {v : Value} {xs : List Smp} (h : OwnS w B v xs) {p : Addr} (hp : p.block < B) (u : Value) : OwnS (w.setCell p u) B v xs :=
  h.keep fun q cs hq ho => (Below.heap_setCell w p u q (by have := h.block q hq; omega)).trans ho
theorem OwnS.form {w : World} {B : Nat} {v : Value} {xs : List Smp} (h : OwnS w B v xs) : ∃ A c, v = .slice A xs.length c ∧ SmpAt w A xs := by
  rcases h.2 with ⟨h2, h0⟩ | ⟨g, cap, cur, a1, a2, a3, a4, a5, a6, a7⟩
  · have hx : xs = [] := List.length_eq_zero_iff.1 h0
    subst hx
    exact ⟨_, _, h2, fun hne => absurd rfl hne⟩
  · exact ⟨_, _, a1, fun hne => ⟨g, 0, rfl, (Array.getElem?_eq_some_iff.1 a3).1, fun k hk => backSmp a3 a7 hk⟩⟩
theorem cellsSmp_snoc (xs : List Smp) (s : Smp) : cellsSmp (xs ++ [s]) = cellsSmp xs ++ gSmp s := by unfold cellsSmp; simp
/-- append of one sample to a row of one's own. -/
theorem app1Smp {ops : Array Oper} {rest : List Oper} {o : Oper} {a : Act} {Q : Exit → Act → World → Prop} (w : World) (hg : o.guard = none) (s x : Operand)
    (hop : o.op = Op.call { callee := Callee.builtin Builtin.append, args := #[s, x], argTypes := #[23, 23] }) (B : Nat) (v : Value) (xs : List Smp) (hs : a.eval s = v) (hown : OwnS w B v xs)
    (ad : Addr) (y : Smp) (hx : a.eval x = .slice (some ad) 1 1) (hy : ∀ j u, (gSmp y)[j]? = some u → w.cell? (ad.add j) = some u) (hl : xs.length ≤ 1000) (hB : B ≤ w.heap.size)
    (hK : ∀ v' w', OwnS w' B v' (xs ++ [y]) → w.grownBy w' v.ownBlock → wpList Tryd.prog ops Q rest (a.put o.dst v') w') : wpList Tryd.prog ops Q (o :: rest) a w := by
  obtain ⟨i0, hi, hz0, hz1, hz2⟩ := info_parts infoSmp
  refine wpList_append_own w hg s x 23 hop B 43 i0 zvSmp 2 16 Tryd.underlying23 hi hz0 hz1 hz2 rfl (by decide) v xs.length (cellsSmp xs) hs hown ad 1 1 (gSmp y) hx rfl hy (by intro u hu; simp only [gSmp, List.mem_cons, List.not_mem_nil, or_false] at hu; rcases hu with rfl | rfl <;> rfl) (by unfold maxLen; omega) (by omega) hB (fun v' w' h1 h2 _ => hK v' w' ?_ h2)
  unfold OwnS
  rw [cellsSmp_snoc, List.length_append]
  exact h1
set_option maxHeartbeats 4000000 in
set_option maxRecDepth 100000 in
theorem rcopyO_any (d : Wat) (A : WA) (hn : d.spr.length ≤ 1000) (hm : d.smp.length ≤ 1000) (w : World) (hW : WIn w d A) :
    Calls Tryd.prog 21 #[wval d A] w fun e w' => ∃ A' B, e = .returned (wval d A') ∧ w.heap.size ≤ B ∧ B ≤ w'.heap.size ∧ SprAt w' A'.SA d.spr ∧ (d.spr ≠ [] → ∃ b o, A'.SA = some ⟨b, o, none⟩ ∧ b < B) ∧ OwnS w' B (.slice A'.MA d.smp.length A'.mc) d.smp ∧ Ext w w' := by
  have HS := hid hW.spr
  have HM := hid hW.smp
  clear hW
  have HWI := hid (show ∀ (W : World) (A' : WA) (B : Nat), w.heap.size ≤ B → B ≤ W.heap.size → SprAt W A'.SA d.spr → (d.spr ≠ [] → ∃ b o, A'.SA = some ⟨b, o, none⟩ ∧ b < B) → OwnS W B (.slice A'.MA d.smp.length A'.mc) d.smp → Ext w W →
    ∃ A'' B', Ending.returned (wval d A') = .returned (wval d A'') ∧ w.heap.size ≤ B' ∧ B' ≤ W.heap.size ∧ SprAt W A''.SA d.spr ∧ (d.spr ≠ [] → ∃ b o, A''.SA = some ⟨b, o, none⟩ ∧ b < B') ∧ OwnS W B' (.slice A''.MA d.smp.length A''.mc) d.smp ∧ Ext w W from
      fun _ A' B h1 h2 h3 h4 h5 h6 => ⟨A', B, rfl, h1, h2, h3, h4, h5, h6⟩)
  have t0 := blks3 w (.cells (wcells d A) 25) (.cells #[.slice none 0 0, .int .i64 0, .int .i64 0, .int .i64 0, .slice none 0 0] 25) (.cells (wcells d A) 25)
  have B0 := hid (show Blk _ _ _ _ from t0.1)
  have B1 := hid (show Blk _ _ _ _ from t0.2.1)
  have B2 := hid (show Blk _ _ _ _ from t0.2.2)
  clear t0
  have HN := hid hn
  have HN2 := hid hm
  clear hn hm
  obtain ⟨spr, most, miss, al, smp⟩ := d
  obtain ⟨SA, sc, MA, mc⟩ := A
  unfold wval wcells at *
  dsimp only at *
  obtain ⟨n, hn⟩ : ∃ n, spr.length = n := ⟨_, rfl⟩
  obtain ⟨m, hm⟩ : ∃ n, smp.length = n := ⟨_, rfl⟩
  rw [hn] at HN B0 B1 B2 HWI ⊢
  rw [hm] at HN2 B0 B1 B2 HWI ⊢
  have HLN := hid hn
  have HLM := hid hm
  clear hn hm
  go_enter Tryd.func21, Tryd.ntmps21
  go_wp2_with (at_builtin; refine Halt.mk ?_)
  unfold Halt
  obtain ⟨W, hWe⟩ : ∃ W, ((w.alloc (.cells #[.slice SA n sc, .int .i64 most, .int .i64 miss, .int .i64 al, .slice MA m mc] 25)).alloc (.cells #[.slice none 0 0, .int .i64 0, .int .i64 0, .int .i64 0, .slice none 0 0] 25)).alloc (.cells #[.slice SA n sc, .int .i64 most, .int .i64 miss, .int .i64 al, .slice MA m mc] 25) = W := ⟨_, rfl⟩
  have hsz : W.heap.size = w.heap.size + 1 + 1 + 1 := by rw [← hWe]; simp
  have E1 : Ext w W := by rw [← hWe]; (repeat' (first | with_reducible assumption | with_reducible exact Ext.refl _ | with_reducible refine Ext.alloc ?_ _ | with_reducible refine Ext.set ?_ ?_ _ | with_reducible refine Ext.drew ?_ | with_reducible refine Ext.drewN ?_ _ | with_reducible refine Ext.trans ?_ (by assumption) | (dsimp only; omega)))
  rw [hWe] at B0 B1 B2 ⊢
  clear hWe
  refine wpList_appendSpr _ rfl _ _ rfl (w.heap.size + 1 + 1 + 1) (w.heap.size + 1 + 1 + 1) SA sc spr rfl (by rw [← hsz]; exact blk_last W _) (Nat.le_refl _) (by rw [HLN.out]; rfl) ((HS.out.ext E1).ext (ext_alloc1 _ _)) (by rw [HLN.out]; exact HN.out) ?_
  intro A2 c2 w5 hso hbl hg
  rw [HLN.out]
  have E5 : Ext w w5 := Below.grown (E1.alloc _) hg (E1.alloc _).size (fun k e => by injection e with e; omega)
  have K0 := hid ((B0.out.alloc _).grown hg (fun e => by injection e with e; omega))
  have K1 := hid ((B1.out.alloc _).grown hg (fun e => by injection e with e; omega))
  have K2 := hid ((B2.out.alloc _).grown hg (fun e => by injection e with e; omega))
  have hs5 : w.heap.size + 4 ≤ w5.heap.size := by have := hg.size; simp at this; omega
  have HSO := hid hso
  have HSB := hid (show spr ≠ [] → ∃ b o, A2 = some ⟨b, o, none⟩ ∧ b < w5.heap.size from fun hne => by
    obtain ⟨b, o, h1, h2, _⟩ := hso hne
    exact ⟨b, o, h1, h2⟩)
  clear hso hg B0 B1 B2
  have d0 := K0.out.cell 0
  have d1 := K0.out.cell 1
  have d2 := K0.out.cell 2
  have d3 := K0.out.cell 3
  have d4 := K0.out.cell 4
  simp only [List.getElem?_toArray, List.getElem?_cons_zero, List.getElem?_cons_succ] at d0 d1 d2 d3 d4
  have dz := K0.out.lt
  have e0 := K2.out.cell 0
  have e1 := K2.out.cell 1
  have e2 := K2.out.cell 2
  have e3 := K2.out.cell 3
  have e4 := K2.out.cell 4
  simp only [List.getElem?_toArray, List.getElem?_cons_zero, List.getElem?_cons_succ] at e0 e1 e2 e3 e4
  have ez := K2.out.lt
  have f0 := K2.out.fro 0
  have f4 := K2.out.fro 4
  go_wp2_with (at_builtin; refine Halt.mk ?_)
  unfold Halt
  obtain ⟨V, hVe⟩ : ∃ V, w5.setCell ⟨w.heap.size + 1 + 1, 0, none⟩ (.slice A2 n c2) = V := ⟨_, rfl⟩
  have hsV : V.heap.size = w5.heap.size := by rw [← hVe]; simp
  have EV : Ext w V := by rw [← hVe]; exact E5.set (by dsimp only; omega) _
  have JS := hid (HSO.out.other (p := ⟨w.heap.size + 1 + 1, 0, none⟩) (fun b o e => by have := hbl b o e; dsimp only; omega) (.slice A2 n c2))
  have J0 := hid (K0.out.other (p := ⟨w.heap.size + 1 + 1, 0, none⟩) (by dsimp only; omega) (.slice A2 n c2))
  have J1 := hid (K1.out.other (p := ⟨w.heap.size + 1 + 1, 0, none⟩) (by dsimp only; omega) (.slice A2 n c2))
  have J2 := hid (K2.out.setAt 0 (.slice A2 n c2))
  rw [hVe] at J0 J1 J2 JS ⊢
  clear hVe K0 K1 K2 d0 d1 d2 d3 d4 dz e0 e1 e2 e3 e4 ez f0 f4
  rw [← hsV] at hs5 HSB ⊢
  refine wpList_appendOSmp _ rfl _ _ rfl V.heap.size V.heap.size MA mc smp (by rw [hsV]; rfl) (blk_last V _) (Nat.le_refl _) (by rw [HLM.out]; rfl) ((HM.out.ext EV).ext (ext_alloc1 _ _)) (by rw [HLM.out]; exact HN2.out) ?_
  intro A3 c3 w7 hso2 hg2
  rw [HLM.out] at hso2 ⊢
  have X7 : Ext V w7 := Below.grown (ext_alloc1 V _) hg2 (ext_alloc1 V _).size (fun k e => by injection e with e; omega)
  have L0 := hid (J0.out.ext X7)
  have L1 := hid (J1.out.ext X7)
  have L2 := hid (J2.out.ext X7)
  have LS := hid (JS.out.ext X7)
  have LM := hid (show OwnS w7 V.heap.size (.slice A3 m c3) smp by unfold OwnS; rw [HLM.out]; exact hso2)
  have E7 := EV.trans X7
  have HBS := hid hbl
  clear J0 J1 J2 JS hso2 hg2 hbl HS HM HSO
  have hs7 := X7.size
  generalize V.heap.size = B at *
  simp only [List.setIfInBounds_toArray, List.set_cons_zero] at L2
  have d0 := L1.out.cell 0
  have d1 := L1.out.cell 1
  have d2 := L1.out.cell 2
  have d3 := L1.out.cell 3
  have d4 := L1.out.cell 4
  simp only [List.getElem?_toArray, List.getElem?_cons_zero, List.getElem?_cons_succ] at d0 d1 d2 d3 d4
  have dz := L1.out.lt
  have e0 := L2.out.cell 0
  have e1 := L2.out.cell 1
  have e2 := L2.out.cell 2
  have e3 := L2.out.cell 3
  have e4 := L2.out.cell 4
  simp only [List.getElem?_toArray, List.getElem?_cons_zero, List.getElem?_cons_succ] at e0 e1 e2 e3 e4
  have ez := L2.out.lt
  have f0 := L1.out.fro 0
  have f1 := L1.out.fro 1
  have f2 := L1.out.fro 2
  have f3 := L1.out.fro 3
  have f4 := L1.out.fro 4
  have g4 := L2.out.fro 4
  go_wp2
  refine bodyPost_ret (v := .agg #[.slice A2 n c2, .int .i64 most, .int .i64 miss, .int .i64 al, .slice A3 m c3]) (by simp [results, Tryd.results21, go_sem, d0, d1, d2, d3, d4]) rfl (HWI.out _ ⟨A2, c2, A3, c3⟩ B (by omega) (by simpa using hs7) ?_ HSB.out ?_ (by have := hs7; (repeat' (first | with_reducible assumption | with_reducible exact Ext.refl _ | with_reducible refine Ext.alloc ?_ _ | with_reducible refine Ext.set ?_ ?_ _ | with_reducible refine Ext.drew ?_ | with_reducible refine Ext.drewN ?_ _ | with_reducible refine Ext.trans ?_ (by assumption) | (dsimp only; omega)))))
  · repeat' (first | with_reducible exact LS.out | (with_reducible refine SprAt.other ?_ (fun b o e => ?_) _; rotate_left; (have := HBS.out b o e; dsimp only; omega)))
  · repeat' (first | with_reducible exact LM.out | (with_reducible refine OwnS.other ?_ ?_ _; rotate_left; (dsimp only; omega)))
end Go.Proofs.YtcfijidlbimckaaDoor
