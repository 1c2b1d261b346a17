/- eased. -/
import Derived.Test.YtndoghcglbpllaaE19
set_option linter.unusedSimpArgs false
set_option linter.unusedVariables false
namespace Go.Proofs.Ytndoghcglbpllaa
open Go.RowKit
/-- The blocks that eased keeps for itself. -/
def Zs (w : World) (zm k : Nat) : Prop := k = zm ∨ (w.heap.size + 1 ≤ k ∧ k < w.heap.size + 5)
theorem zs_obj {w W W' : World} {zm k : Nat} (hk : Zs w zm k) {c1 c2 c3 c4 c5 : Array Value} (h1 : W.heap[w.heap.size + 1]? = some (.cells c1 28 (0, 0))) (h2 : W.heap[w.heap.size + 1 + 1]? = some (.cells c2 59 (0, 0))) (h3 : W.heap[w.heap.size + 1 + 1 + 1]? = some (.cells c3 24 (0, 0)))
    (h4 : W.heap[w.heap.size + 1 + 1 + 1 + 1]? = some (.cells c4 28 (0, 0))) (h5 : W.heap[zm]? = some (.cells c5 24 (0, 0))) (e : Ext W W') : ∃ cs t, W'.heap[k]? = some (.cells cs t (0, 0)) ∧ t ≠ 56 ∧ t ≠ 26 := by
  rcases hk with rfl | ⟨a1, a2⟩
  · exact ⟨_, _, blk_ext h5 e, by decide, by decide⟩
  · have : k = w.heap.size + 1 ∨ k = w.heap.size + 1 + 1 ∨ k = w.heap.size + 1 + 1 + 1 ∨ k = w.heap.size + 1 + 1 + 1 + 1 := by omega
    rcases this with rfl | rfl | rfl | rfl
    · exact ⟨_, _, blk_ext h1 e, by decide, by decide⟩
    · exact ⟨_, _, blk_ext h2 e, by decide, by decide⟩
    · exact ⟨_, _, blk_ext h3 e, by decide, by decide⟩
    · exact ⟨_, _, blk_ext h4 e, by decide, by decide⟩
set_option maxRecDepth 100000 in
set_option maxHeartbeats 4000000 in
theorem eased_any (m g l pl ph : Int) (A : Option Addr) (n c : Nat) (ps : List Pt) (hn : ps.length = n) (w : World) (hp : PathsAt w A ps) (hv : vNet m ps = true) (hpa : vParty g l pl ph = true) (hn9 : n ≤ 9)
    (yl yp yd yi yg ys yo f2 d2 g2 tl2 th2 sl2 sh2 : Int) (AM : Option Addr) (cm : Nat) (om : List (Int × Int)) (hom : OpensAt w AM om) (hcm : om.length ≤ cm) (hyp : 0 ≤ yp ∧ yp ≤ 300) (hyd : 0 ≤ yd ∧ yd ≤ 100) (hyg : 0 ≤ yg ∧ yg ≤ 10) (hys : 0 ≤ ys ∧ ys ≤ 100) :
    Calls Try.prog 36 #[.agg #[.int .i64 m, .slice A n c], .agg #[.int .i64 g, .int .i64 l, .int .i64 pl, .int .i64 ph], .agg #[.int .i64 yl, .int .i64 yp, .int .i64 yd, .int .i64 yi, .int .i64 yg, .int .i64 ys, .int .i64 yo, .int .i64 f2, .int .i64 d2, .int .i64 g2, .int .i64 tl2, .int .i64 th2, .int .i64 sl2, .int .i64 sh2, .slice AM om.length cm]] w (EasedIs m g l ph ps w) := by
  have HAM := hid (show om ≠ [] → ∀ q, Spot AM = some q → q < w.heap.size from fun hne q hq => by
    obtain ⟨b, off, hA, hb, _⟩ := hom hne
    rw [hA] at hq
    have hbq : b = q := Option.some.inj hq
    omega)
  have HOM := hid hom
  clear hom
  have HCO := hid (fun (hm : n ≤ 1000) (ho : ∀ k, k < n → (ps.getD k zeroPt).opens.length ≤ 1000) (W : World) (hW : Ext w W) => copy2_any m A n c ps hn hm ho W (hp.ext hW))
  obtain ⟨hm1, hm2, hN⟩ := vNet_ok hv
  have ha := vParty_ok hpa
  have HCP := hid (HCO.out (by omega) (fun k hk => by have := (hN.ok k (by omega)).os; omega))
  have HN := hid hn
  have HNO := hid hN
  have HGR := hid (show ∀ k, k < ps.length → 1 ≤ (ps.getD k zeroPt).grade ∧ (ps.getD k zeroPt).grade ≤ 6 from grade_of hv)
  obtain ⟨yp0, yp1⟩ := hyp
  obtain ⟨yd0, yd1⟩ := hyd
  obtain ⟨yg0, yg1⟩ := hyg
  obtain ⟨ys0, ys1⟩ := hys
  clear HCO hn hp
  have t0 := three_blocks w (.cells #[.int .i64 m, .slice A n c] 24) (.cells #[.int .i64 g, .int .i64 l, .int .i64 pl, .int .i64 ph] 28) (.cells #[.int .i64 yl, .int .i64 yp, .int .i64 yd, .int .i64 yi, .int .i64 yg, .int .i64 ys, .int .i64 yo, .int .i64 f2, .int .i64 d2, .int .i64 g2, .int .i64 tl2, .int .i64 th2, .int .i64 sl2, .int .i64 sh2, .slice AM om.length cm] 59)
  have t1 := two_blocks (((w.alloc (.cells #[.int .i64 m, .slice A n c] 24)).alloc (.cells #[.int .i64 g, .int .i64 l, .int .i64 pl, .int .i64 ph] 28)).alloc (.cells #[.int .i64 yl, .int .i64 yp, .int .i64 yd, .int .i64 yi, .int .i64 yg, .int .i64 ys, .int .i64 yo, .int .i64 f2, .int .i64 d2, .int .i64 g2, .int .i64 tl2, .int .i64 th2, .int .i64 sl2, .int .i64 sh2, .slice AM om.length cm] 59)) (.cells #[.int .i64 0, .slice none 0 0] 24) (.cells #[.int .i64 0, .int .i64 0, .int .i64 0, .int .i64 0] 28)
  simp only [World.size_alloc] at t1
  have T0 := hid t0
  have T1 := hid t1
  clear t0 t1
  go_enter Try.func36, Try.ntmps36
  go_wp2_with fail
  refine (HCP.out _ (by (repeat' (first | with_reducible assumption | with_reducible exact Ext.refl _ | with_reducible refine Ext.alloc ?_ _ | with_reducible refine Ext.set ?_ ?_ _ | with_reducible refine Ext.drew ?_ | with_reducible refine Ext.drewN ?_ _ | with_reducible refine Ext.trans ?_ (by assumption) | (dsimp only; omega))))).mono ?_
  rintro e w1 ⟨v, S, rfl, hC, hE⟩
  obtain ⟨VA, vc, rfl⟩ := hC.row.form
  have HC := hid (hC.lowB (B' := w.heap.size + 5) (by simp))
  have E1 : Ext w w1 := by (repeat' (first | with_reducible assumption | with_reducible exact Ext.refl _ | with_reducible refine Ext.alloc ?_ _ | with_reducible refine Ext.set ?_ ?_ _ | with_reducible refine Ext.drew ?_ | with_reducible refine Ext.drewN ?_ _ | with_reducible refine Ext.trans ?_ (by assumption) | (dsimp only; omega)))
  have B1 := hid (blk_ext T0.out.2.1 (Ext.trans (by (repeat' (first | with_reducible assumption | with_reducible exact Ext.refl _ | with_reducible refine Ext.alloc ?_ _ | with_reducible refine Ext.set ?_ ?_ _ | with_reducible refine Ext.drew ?_ | with_reducible refine Ext.drewN ?_ _ | with_reducible refine Ext.trans ?_ (by assumption) | (dsimp only; omega)))) hE))
  have B2 := hid (blk_ext T0.out.2.2 (Ext.trans (by (repeat' (first | with_reducible assumption | with_reducible exact Ext.refl _ | with_reducible refine Ext.alloc ?_ _ | with_reducible refine Ext.set ?_ ?_ _ | with_reducible refine Ext.drew ?_ | with_reducible refine Ext.drewN ?_ _ | with_reducible refine Ext.trans ?_ (by assumption) | (dsimp only; omega)))) hE))
  have B3 := hid (blk_ext T1.out.1 hE)
  have B4 := hid (blk_ext T1.out.2.1 hE)
  have hz : w.heap.size + 5 ≤ w1.heap.size := by have := hE.size; simp at this; omega
  clear hE T0 T1 hC HCP
  have z0 : w.heap.size < w1.heap.size := by omega
  have z1 : w.heap.size + 1 < w1.heap.size := by omega
  have z2 : w.heap.size + 1 + 1 < w1.heap.size := by omega
  have z3 : w.heap.size + 1 + 1 + 1 < w1.heap.size := by omega
  have z4 : w.heap.size + 1 + 1 + 1 + 1 < w1.heap.size := by omega
  have p0 := blk_cell B1.out 0
  have p1 := blk_cell B1.out 1
  have p2 := blk_cell B1.out 2
  have p3 := blk_cell B1.out 3
  have y0 := blk_cell B2.out 0
  have y1 := blk_cell B2.out 1
  have y2 := blk_cell B2.out 2
  have y3 := blk_cell B2.out 3
  have y4 := blk_cell B2.out 4
  have y5 := blk_cell B2.out 5
  have y6 := blk_cell B2.out 6
  have y7 := blk_cell B2.out 7
  have y8 := blk_cell B2.out 8
  have y9 := blk_cell B2.out 9
  have y10 := blk_cell B2.out 10
  have y11 := blk_cell B2.out 11
  have y12 := blk_cell B2.out 12
  have y13 := blk_cell B2.out 13
  have y14 := blk_cell B2.out 14
  simp only [List.getElem?_toArray, List.getElem?_cons_zero, List.getElem?_cons_succ] at p0 p1 p2 p3 y0 y1 y2 y3 y4 y5 y6 y7 y8 y9 y10 y11 y12 y13 y14
  have fp1 := blk_fro B1.out 1
  have fp2 := blk_fro B1.out 2
  have fp3 := blk_fro B1.out 3
  go_wp2_with fail
  have hBR : ∃ B : Bool, (decide (0 ≤ yi) && decide (yi < (n : Int))) = B := ⟨_, rfl⟩
  obtain ⟨zm, hzm⟩ : ∃ zm, w1.heap.size = zm := ⟨_, rfl⟩
  by_cases hi : 0 ≤ yi ∧ yi < (n : Int)
  case neg =>
    refine (rIsPath_b _ _ _ _ _ (by omega) false (by simp; omega) _).mono ?_
    rintro e W4 ⟨rfl, hE2⟩
    clear hi hBR p0 p1 p2 p3 y0 y1 y2 y3 y4 y5 y6 y7 y8 y9 y10 y11 y12 y13 y14 fp1 fp2 fp3
    have X2 : Ext w1 W4 := (ext_alloc1 _ _).trans hE2
    have A1 := hid (blk_ext B1.out X2)
    have A2 := hid (blk_ext B2.out X2)
    have A3 := hid (blk_ext B3.out X2)
    have A4 := hid (blk_ext B4.out X2)
    have AM' := hid (blk_ext (heap_alloc_new w1 (.cells #[.int .i64 m, .slice VA n vc] 24)) hE2)
    have HQ' := hid (HC.out.rowQ.ext X2)
    have E4 := E1.trans X2
    have HQL := hid HN.out
    have HAM := hid (show om ≠ [] → ∀ q, Spot AM = some q → q < w.heap.size + 5 ∧ ¬ Zs w w1.heap.size q from fun hne q hq => by have := HAM.out hne q hq; exact ⟨by omega, fun h => by rcases h with h | h <;> omega⟩)
    rw [hzm] at AM' HAM z0 z1 z2 z3 z4 hz ⊢
    clear B1 B2 B3 B4 HC X2 E1 hE2 hzm
    have HV := hid hv
    have HEN := hid (EasyNet.same ps)
    have p0 := blk_cell A1.out 0
    have p1 := blk_cell A1.out 1
    have p2 := blk_cell A1.out 2
    have p3 := blk_cell A1.out 3
    have y0 := blk_cell A2.out 0
    have y1 := blk_cell A2.out 1
    have y2 := blk_cell A2.out 2
    have y3 := blk_cell A2.out 3
    have y4 := blk_cell A2.out 4
    have y5 := blk_cell A2.out 5
    have y6 := blk_cell A2.out 6
    have y7 := blk_cell A2.out 7
    have y8 := blk_cell A2.out 8
    have y9 := blk_cell A2.out 9
    have y10 := blk_cell A2.out 10
    have y11 := blk_cell A2.out 11
    have y12 := blk_cell A2.out 12
    have y13 := blk_cell A2.out 13
    have y14 := blk_cell A2.out 14
    simp only [List.getElem?_toArray, List.getElem?_cons_zero, List.getElem?_cons_succ] at p0 p1 p2 p3 y0 y1 y2 y3 y4 y5 y6 y7 y8 y9 y10 y11 y12 y13 y14
    have fp1 := blk_fro A1.out 1
    have fp2 := blk_fro A1.out 2
    have fp3 := blk_fro A1.out 3
    have m0 := blk_cell AM'.out 0
    have m1 := blk_cell AM'.out 1
    have fm1 := blk_fro AM'.out 1
    simp only [List.getElem?_toArray, List.getElem?_cons_zero, List.getElem?_cons_succ] at m0 m1
    have k0 := E4.size
    have k1 : zm < W4.heap.size := (Array.getElem?_eq_some_iff.1 AM'.out).1
    have k2 : w.heap.size + 5 ≤ W4.heap.size := by omega
    have n1 : w.heap.size + 1 < W4.heap.size := by omega
    have n2 : w.heap.size + 1 + 1 < W4.heap.size := by omega
    have n3 : w.heap.size + 1 + 1 + 1 < W4.heap.size := by omega
    have n4 : w.heap.size + 1 + 1 + 1 + 1 < W4.heap.size := by omega
    have HZZ := hid (show ∀ k, Zs w zm k → ∃ cs t, (W4.alloc (.cells #[.int .i64 f2, .int .i64 d2, .int .i64 g2, .int .i64 tl2, .int .i64 th2, .int .i64 sl2, .int .i64 sh2, .slice AM om.length cm] 56)).heap[k]? = some (.cells cs t (0, 0)) ∧ t ≠ 56 ∧ t ≠ 26 from fun k hk => zs_obj hk A1.out A2.out A3.out A4.out AM'.out (ext_alloc1 _ _))
    go_wp2_with (at_builtin; refine Halt.mk ?_)
    unfold Halt
    refine wpList_append_more _ rfl rfl _ _ rfl (w.heap.size + 5) (Zs w zm) (.slice (VA) n vc) (ps) n (by rfl) (HQ'.out.ext (ext_alloc1 _ _)) HQL.out (by simp; omega) (by omega) W4.heap.size (⟨f2, d2, g2, tl2, th2, sl2, sh2, om⟩ : Pt) AM cm (by rfl) (heap_alloc_new W4 _) (HOM.out.ext (E4.alloc _)) hcm HAM.out HZZ.out ?_
    intro A5 c5 w5 hpb hc5 hg5 hvB
    have G1' := hid (grown_blk (B := w.heap.size + 5) (by omega) (blk_ext A1.out (ext_alloc1 _ _)) hg5 (fun r hr => (hvB r hr).1))
    have G2' := hid (grown_blk (B := w.heap.size + 5) (by omega) (blk_ext A2.out (ext_alloc1 _ _)) hg5 (fun r hr => (hvB r hr).1))
    have G3' := hid (grown_blk (B := w.heap.size + 5) (by omega) (blk_ext A3.out (ext_alloc1 _ _)) hg5 (fun r hr => (hvB r hr).1))
    have G4' := hid (grown_blk (B := w.heap.size + 5) (by omega) (blk_ext A4.out (ext_alloc1 _ _)) hg5 (fun r hr => (hvB r hr).1))
    have DM5 := hid ((hg5.block zm (by simp; omega) (fun e => (hvB zm e.symm).2 (Or.inl rfl))).trans (blk_ext AM'.out (ext_alloc1 _ _)))
    have E5 : Ext w w5 := ext_of_grown (E4.alloc _) hg5 (fun q hq => by have := (hvB q hq).1; omega)
    have HPB := hid hpb
    clear hpb hg5 hvB A1 A2 A3 A4 AM' E4 HZZ HQ' p0 p1 p2 p3 y0 y1 y2 y3 y4 y5 y6 y7 y8 y9 y10 y11 y12 y13 y14 fp1 fp2 fp3 m0 m1 fm1 k0 k1 k2 n1 n2 n3 n4
    have m0 := blk_cell DM5.out 0
    have m1 := blk_cell DM5.out 1
    have fm1 := blk_fro DM5.out 1
    simp only [List.getElem?_toArray, List.getElem?_cons_zero, List.getElem?_cons_succ] at m0 m1
    go_wp2_with fail
    refine (rCheck_any m A5 (n + 1) c5 (ps ++ [(⟨f2, d2, g2, tl2, th2, sl2, sh2, om⟩ : Pt)]) (by rw [List.length_append, HQL.out]; rfl) _ (HPB.out _ (fun k o hk hne => (Below.heap_setCell _ _ _ k (fun e => hne (Or.inl e))).trans hk))).mono ?_
    rintro e w6 ⟨rfl, hE6⟩
    have X6 : Ext w w6 := (E5.set (by dsimp only; omega) _).trans hE6
    have F1 := hid (blk_ext ((Below.heap_setCell w5 ⟨zm, 1, none⟩ (.slice A5 (n + 1) c5) _ (by dsimp only; omega)).trans G1'.out) hE6)
    have F2 := hid (blk_ext ((Below.heap_setCell w5 ⟨zm, 1, none⟩ (.slice A5 (n + 1) c5) _ (by dsimp only; omega)).trans G2'.out) hE6)
    have F3 := hid (blk_ext ((Below.heap_setCell w5 ⟨zm, 1, none⟩ (.slice A5 (n + 1) c5) _ (by dsimp only; omega)).trans G3'.out) hE6)
    have F4 := hid (blk_ext ((Below.heap_setCell w5 ⟨zm, 1, none⟩ (.slice A5 (n + 1) c5) _ (by dsimp only; omega)).trans G4'.out) hE6)
    have FM := hid (blk_ext (heap_setCell_same w5 zm 1 _ _ (.slice A5 (n + 1) c5) DM5.out) hE6)
    have HKP := hid (show ∀ (k : Nat) (o : Obj), w5.heap[k]? = some o → ¬ Zs w zm k → w6.heap[k]? = some o from fun k o hk hne => blk_ext ((Below.heap_setCell w5 ⟨zm, 1, none⟩ (.slice A5 (n + 1) c5) k (fun e => hne (Or.inl e))).trans hk) hE6)
    clear hE6 E5 G1' G2' G3' G4' DM5 m0 m1 fm1
    obtain ⟨ce, hce⟩ : ∃ ce, checkE m (ps ++ [(⟨f2, d2, g2, tl2, th2, sl2, sh2, om⟩ : Pt)]) = ce := ⟨_, rfl⟩
    have HCE := hid hce
    rw [hce]
    clear hce
    have p0 := blk_cell F1.out 0
    have p1 := blk_cell F1.out 1
    have p2 := blk_cell F1.out 2
    have p3 := blk_cell F1.out 3
    have y0 := blk_cell F2.out 0
    have y1 := blk_cell F2.out 1
    have y2 := blk_cell F2.out 2
    have y3 := blk_cell F2.out 3
    have y4 := blk_cell F2.out 4
    have y5 := blk_cell F2.out 5
    have y6 := blk_cell F2.out 6
    have y7 := blk_cell F2.out 7
    have y8 := blk_cell F2.out 8
    have y9 := blk_cell F2.out 9
    have y10 := blk_cell F2.out 10
    have y11 := blk_cell F2.out 11
    have y12 := blk_cell F2.out 12
    have y13 := blk_cell F2.out 13
    have y14 := blk_cell F2.out 14
    simp only [List.getElem?_toArray, List.getElem?_cons_zero, List.getElem?_cons_succ] at p0 p1 p2 p3 y0 y1 y2 y3 y4 y5 y6 y7 y8 y9 y10 y11 y12 y13 y14
    have fp1 := blk_fro F1.out 1
    have fp2 := blk_fro F1.out 2
    have fp3 := blk_fro F1.out 3
    have m0 := blk_cell FM.out 0
    have m1 := blk_cell FM.out 1
    have fm1 := blk_fro FM.out 1
    have q0 := blk_cell F3.out 0
    have q1 := blk_cell F3.out 1
    have fq0 := blk_fro F3.out 0
    have fq1 := blk_fro F3.out 1
    have q2 := blk_cell F4.out 0
    have q3 := blk_cell F4.out 1
    have q4 := blk_cell F4.out 2
    have q5 := blk_cell F4.out 3
    have fq2 := blk_fro F4.out 0
    have fq3 := blk_fro F4.out 1
    have fq4 := blk_fro F4.out 2
    have fq5 := blk_fro F4.out 3
    simp only [List.getElem?_toArray, List.getElem?_cons_zero, List.getElem?_cons_succ, List.setIfInBounds_toArray, List.set_cons_zero, List.set_cons_succ] at m0 m1 q0 q1 q2 q3 q4 q5
    have k1 : zm < w6.heap.size := (Array.getElem?_eq_some_iff.1 FM.out).1
    have n1 : w.heap.size + 1 < w6.heap.size := by omega
    have n2 : w.heap.size + 1 + 1 < w6.heap.size := by omega
    have n3 : w.heap.size + 1 + 1 + 1 < w6.heap.size := by omega
    have n4 : w.heap.size + 1 + 1 + 1 + 1 < w6.heap.size := by omega
    have u1 : ¬ w.heap.size + 1 = zm := by omega
    have u2 : ¬ w.heap.size + 1 + 1 = zm := by omega
    have u3 : ¬ w.heap.size + 1 + 1 + 1 = zm := by omega
    have u4 : ¬ w.heap.size + 1 + 1 + 1 + 1 = zm := by omega
    obtain ⟨L1, hL1⟩ : ∃ x, (if yd < l then l - yd else 0) = x := ⟨_, rfl⟩
    obtain ⟨P1, hP1⟩ : ∃ x, (if 50 < pl - yp then pl - yp else 50) = x := ⟨_, rfl⟩
    obtain ⟨P2, hP2⟩ : ∃ x, (if 50 < ph - yp then ph - yp else 50) = x := ⟨_, rfl⟩
    have ⟨a1, a2, a3, a4, a5⟩ := ha
    have HLP := hid (show 0 ≤ L1 ∧ L1 ≤ l ∧ 50 ≤ P1 ∧ P1 ≤ P2 ∧ P2 ≤ ph by subst hL1 hP1 hP2; split <;> split <;> split <;> omega)
    have w4' : IntKind.i64.wrap (l - yd) = l - yd := IntWalk.i64_in _ (by omega)
    have w5' : IntKind.i64.wrap (pl - yp) = pl - yp := IntWalk.i64_in _ (by omega)
    have w6' : IntKind.i64.wrap (ph - yp) = ph - yp := IntWalk.i64_in _ (by omega)
    clear a1 a2 a3 a4 a5
    by_cases hc0 : ce = 0
    · have HVN := hid (checkE_zero (HCE.out.trans hc0))
      subst hc0
      clear HCE
      go_wp2_with fail
      clear hL1 hP1 hP2 w4' w5' w6'
      have HEF := hid (HEN.out.more (⟨f2, d2, g2, tl2, th2, sl2, sh2, om⟩ : Pt))
      have HLF := hid (show (ps ++ [(⟨f2, d2, g2, tl2, th2, sl2, sh2, om⟩ : Pt)]).length = n + 1 by rw [List.length_append, HQL.out]; rfl)
      have HPF := HPB
      have HPX := hid (pbox (q := w.heap.size + 1) L1 P1 P2 F1.out)
      have X8 : Ext w ((((w6).setCell ⟨w.heap.size + 1, 1, none⟩ (.int .i64 L1)).setCell ⟨w.heap.size + 1, 2, none⟩ (.int .i64 P1)).setCell ⟨w.heap.size + 1, 3, none⟩ (.int .i64 P2)) := ((X6.set (by dsimp only; omega) _).set (by dsimp only; omega) _).set (by dsimp only; omega) _
      have J3 := hid ((HPX.out.2 (w.heap.size + 1 + 1 + 1) (by omega)).trans F3.out)
      have J4 := hid ((HPX.out.2 (w.heap.size + 1 + 1 + 1 + 1) (by omega)).trans F4.out)
      have JM := hid ((HPX.out.2 zm (by omega)).trans FM.out)
      have JK := hid (fun k o hk hne => (HPX.out.2 k (fun e => hne (Or.inr (by omega)))).trans (HKP.out k o hk hne))
      have J1 := hid HPX.out.1
      clear HPX HKP F1 F2 F3 F4 FM p0 p1 p2 p3 y0 y1 y2 y3 y4 y5 y6 y7 y8 y9 y10 y11 y12 y13 y14 fp1 fp2 fp3 m0 m1 fm1 q0 q1 q2 q3 q4 q5 fq0 fq1 fq2 fq3 fq4 fq5 X6
      obtain ⟨W8, hW8⟩ : ∃ W8, (((w6).setCell ⟨w.heap.size + 1, 1, none⟩ (.int .i64 L1)).setCell ⟨w.heap.size + 1, 2, none⟩ (.int .i64 P1)).setCell ⟨w.heap.size + 1, 3, none⟩ (.int .i64 P2) = W8 := ⟨_, rfl⟩
      rw [hW8] at X8 J1 J3 J4 JM JK ⊢
      clear hW8
      have p0 := blk_cell J1.out 0
      have p1 := blk_cell J1.out 1
      have p2 := blk_cell J1.out 2
      have p3 := blk_cell J1.out 3
      have m0 := blk_cell JM.out 0
      have m1 := blk_cell JM.out 1
      have q0 := blk_cell J3.out 0
      have q1 := blk_cell J3.out 1
      have fq0 := blk_fro J3.out 0
      have fq1 := blk_fro J3.out 1
      have q2 := blk_cell J4.out 0
      have q3 := blk_cell J4.out 1
      have q4 := blk_cell J4.out 2
      have q5 := blk_cell J4.out 3
      have fq2 := blk_fro J4.out 0
      have fq3 := blk_fro J4.out 1
      have fq4 := blk_fro J4.out 2
      have fq5 := blk_fro J4.out 3
      simp only [List.getElem?_toArray, List.getElem?_cons_zero, List.getElem?_cons_succ, List.setIfInBounds_toArray, List.set_cons_zero, List.set_cons_succ] at m0 m1 q0 q1 q2 q3 q4 q5 p0 p1 p2 p3
      refine wp_region_held_drew (S := fun w' => w'.cell? ⟨w.heap.size + 1, 0, none⟩ = some (.int .i64 g) ∧ w'.cell? ⟨w.heap.size + 1, 1, none⟩ = some (.int .i64 L1) ∧ w'.cell? ⟨w.heap.size + 1, 2, none⟩ = some (.int .i64 P1) ∧ w'.cell? ⟨w.heap.size + 1, 3, none⟩ = some (.int .i64 P2) ∧ w'.cell? ⟨zm, 0, none⟩ = some (.int .i64 m) ∧ w'.cell? ⟨zm, 1, none⟩ = some (.slice A5 (n + 1) c5)) (by kernel_rfl) ?hS0 (fun hHeld => ?_)
      case hS0 => exact ⟨p0, p1, p2, p3, m0, m1⟩
      refine wpAnyH_take (i := 0) (oi := _) (v := ?v0va) rfl (by kernel_rfl) (by kernel_rfl) (by kernel_rfl) (fun _ _ _ h => h) (Or.inl ⟨by rfl, ?y0va⟩) (by assumption) ?r0va
      case y0va => (intro w' hSw; (try dsimp only at hSw); go_simp; (try with_reducible rfl))
      try simp only [Act.put, List.getElem_toArray, List.getElem_cons_zero, List.getElem_cons_succ, List.setIfInBounds_toArray, List.set_cons_zero, List.set_cons_succ]
      refine wpAnyH_take (i := 1) (oi := _) (v := ?v1va) rfl (by kernel_rfl) (by kernel_rfl) (by kernel_rfl) (fun _ _ _ h => h) (Or.inl ⟨by rfl, ?y1va⟩) (by assumption) ?r1va
      case y1va => (intro w' hSw; (try dsimp only at hSw); go_simp; (try with_reducible rfl))
      try simp only [Act.put, List.getElem_toArray, List.getElem_cons_zero, List.getElem_cons_succ, List.setIfInBounds_toArray, List.set_cons_zero, List.set_cons_succ]
      clear hHeld
      refine wpAnyH_ready (rs := [2]) (by kernel_rfl) (by simp) ?_
      refine AllReadyH.cons (o := _) rfl (fun K hK => ?_) AllReadyH.nil
      go_simp
      refine hK.out _ _ ⟨by go_simp, by go_simp, by go_simp, by go_simp, by go_simp, by go_simp⟩ (fun hHeld => ?_)
      clear hK K
      try simp only [Act.put, List.getElem_toArray, List.getElem_cons_zero, List.getElem_cons_succ, List.setIfInBounds_toArray, List.set_cons_zero, List.set_cons_succ]
      clear hHeld
      refine wpAnyH_ready (rs := [3]) (by kernel_rfl) (by simp) ?_
      refine AllReadyH.cons (o := _) rfl (fun K hK => ?_) AllReadyH.nil
      go_simp
      refine hK.out _ _ ⟨by go_simp, by go_simp, by go_simp, by go_simp, by go_simp, by go_simp⟩ (fun hHeld => ?_)
      clear hK K
      try simp only [Act.put, List.getElem_toArray, List.getElem_cons_zero, List.getElem_cons_succ, List.setIfInBounds_toArray, List.set_cons_zero, List.set_cons_succ]
      refine wpAnyH_done (by kernel_rfl) ?_ _
      clear hHeld
      go_wp2
      refine bodyPost_ret (v := .tuple #[.agg #[.int .i64 m, .slice A5 (n + 1) c5], .agg #[.int .i64 g, .int .i64 L1, .int .i64 P1, .int .i64 P2]]) ?rsva rfl ⟨_, A5, n + 1, c5, L1, P1, P2, rfl, HLF.out, HPF.out _ (fun k o hk hne => (six_keep (fun e => hne (Or.inr (by omega))) (fun e => hne (Or.inr (by omega)))).trans (JK.out k o hk hne)), HVN.out, party_ease hpa HLP.out, HEF.out, HLP.out.2.1, HLP.out.2.2.2.2, by (repeat' (first | with_reducible assumption | with_reducible exact Ext.refl _ | with_reducible refine Ext.alloc ?_ _ | with_reducible refine Ext.set ?_ ?_ _ | with_reducible refine Ext.drew ?_ | with_reducible refine Ext.drewN ?_ _ | with_reducible refine Ext.trans ?_ (by assumption) | (dsimp only; omega)))⟩
      case rsva => simp [results, Try.results36, go_sem, q0, q1, q2, q3, q4, q5]
    · have hneb : (ce != 0) = true := by simpa using hc0
      have hc5' : n ≤ c5 := by omega
      clear HCE
      go_wp2_with fail
      clear hL1 hP1 hP2 w4' w5' w6'
      have HEF := HEN
      have HLF := HQL
      have HPF := hid (show PathsBut w5 (Zs w zm) A5 (ps) from fun W hW => (HPB.out W hW).front)
      have HVN := HV
      have X7 : Ext w (w6.setCell ⟨zm, 1, none⟩ (.slice A5 n c5)) := X6.set (by dsimp only; omega) _
      have H1 := hid ((Below.heap_setCell w6 ⟨zm, 1, none⟩ (.slice A5 n c5) _ (by dsimp only; omega)).trans F1.out)
      have H3 := hid ((Below.heap_setCell w6 ⟨zm, 1, none⟩ (.slice A5 n c5) _ (by dsimp only; omega)).trans F3.out)
      have H4 := hid ((Below.heap_setCell w6 ⟨zm, 1, none⟩ (.slice A5 n c5) _ (by dsimp only; omega)).trans F4.out)
      have HM := hid (heap_setCell_same w6 zm 1 _ _ (.slice A5 n c5) FM.out)
      have HK7 := hid (show ∀ (k : Nat) (o : Obj), w5.heap[k]? = some o → ¬ Zs w zm k → (w6.setCell ⟨zm, 1, none⟩ (.slice A5 n c5)).heap[k]? = some o from fun k o hk hne => (Below.heap_setCell w6 ⟨zm, 1, none⟩ (.slice A5 n c5) k (fun e => hne (Or.inl e))).trans (HKP.out k o hk hne))
      have HPX := hid (pbox (q := w.heap.size + 1) L1 P1 P2 H1.out)
      have X8 : Ext w ((((w6.setCell ⟨zm, 1, none⟩ (.slice A5 n c5)).setCell ⟨w.heap.size + 1, 1, none⟩ (.int .i64 L1)).setCell ⟨w.heap.size + 1, 2, none⟩ (.int .i64 P1)).setCell ⟨w.heap.size + 1, 3, none⟩ (.int .i64 P2)) := ((X7.set (by dsimp only; omega) _).set (by dsimp only; omega) _).set (by dsimp only; omega) _
      have J3 := hid ((HPX.out.2 (w.heap.size + 1 + 1 + 1) (by omega)).trans H3.out)
      have J4 := hid ((HPX.out.2 (w.heap.size + 1 + 1 + 1 + 1) (by omega)).trans H4.out)
      have JM := hid ((HPX.out.2 zm (by omega)).trans HM.out)
      have JK := hid (fun k o hk hne => (HPX.out.2 k (fun e => hne (Or.inr (by omega)))).trans (HK7.out k o hk hne))
      have J1 := hid HPX.out.1
      clear HPX HKP F1 F2 F3 F4 FM p0 p1 p2 p3 y0 y1 y2 y3 y4 y5 y6 y7 y8 y9 y10 y11 y12 y13 y14 fp1 fp2 fp3 m0 m1 fm1 q0 q1 q2 q3 q4 q5 fq0 fq1 fq2 fq3 fq4 fq5 X6
      obtain ⟨W8, hW8⟩ : ∃ W8, (((w6.setCell ⟨zm, 1, none⟩ (.slice A5 n c5)).setCell ⟨w.heap.size + 1, 1, none⟩ (.int .i64 L1)).setCell ⟨w.heap.size + 1, 2, none⟩ (.int .i64 P1)).setCell ⟨w.heap.size + 1, 3, none⟩ (.int .i64 P2) = W8 := ⟨_, rfl⟩
      rw [hW8] at X8 J1 J3 J4 JM JK ⊢
      clear hW8
      have p0 := blk_cell J1.out 0
      have p1 := blk_cell J1.out 1
      have p2 := blk_cell J1.out 2
      have p3 := blk_cell J1.out 3
      have m0 := blk_cell JM.out 0
      have m1 := blk_cell JM.out 1
      have q0 := blk_cell J3.out 0
      have q1 := blk_cell J3.out 1
      have fq0 := blk_fro J3.out 0
      have fq1 := blk_fro J3.out 1
      have q2 := blk_cell J4.out 0
      have q3 := blk_cell J4.out 1
      have q4 := blk_cell J4.out 2
      have q5 := blk_cell J4.out 3
      have fq2 := blk_fro J4.out 0
      have fq3 := blk_fro J4.out 1
      have fq4 := blk_fro J4.out 2
      have fq5 := blk_fro J4.out 3
      simp only [List.getElem?_toArray, List.getElem?_cons_zero, List.getElem?_cons_succ, List.setIfInBounds_toArray, List.set_cons_zero, List.set_cons_succ] at m0 m1 q0 q1 q2 q3 q4 q5 p0 p1 p2 p3
      refine wp_region_held_drew (S := fun w' => w'.cell? ⟨w.heap.size + 1, 0, none⟩ = some (.int .i64 g) ∧ w'.cell? ⟨w.heap.size + 1, 1, none⟩ = some (.int .i64 L1) ∧ w'.cell? ⟨w.heap.size + 1, 2, none⟩ = some (.int .i64 P1) ∧ w'.cell? ⟨w.heap.size + 1, 3, none⟩ = some (.int .i64 P2) ∧ w'.cell? ⟨zm, 0, none⟩ = some (.int .i64 m) ∧ w'.cell? ⟨zm, 1, none⟩ = some (.slice A5 (n) c5)) (by kernel_rfl) ?hS0 (fun hHeld => ?_)
      case hS0 => exact ⟨p0, p1, p2, p3, m0, m1⟩
      refine wpAnyH_take (i := 0) (oi := _) (v := ?v0wa) rfl (by kernel_rfl) (by kernel_rfl) (by kernel_rfl) (fun _ _ _ h => h) (Or.inl ⟨by rfl, ?y0wa⟩) (by assumption) ?r0wa
      case y0wa => (intro w' hSw; (try dsimp only at hSw); go_simp; (try with_reducible rfl))
      try simp only [Act.put, List.getElem_toArray, List.getElem_cons_zero, List.getElem_cons_succ, List.setIfInBounds_toArray, List.set_cons_zero, List.set_cons_succ]
      refine wpAnyH_take (i := 1) (oi := _) (v := ?v1wa) rfl (by kernel_rfl) (by kernel_rfl) (by kernel_rfl) (fun _ _ _ h => h) (Or.inl ⟨by rfl, ?y1wa⟩) (by assumption) ?r1wa
      case y1wa => (intro w' hSw; (try dsimp only at hSw); go_simp; (try with_reducible rfl))
      try simp only [Act.put, List.getElem_toArray, List.getElem_cons_zero, List.getElem_cons_succ, List.setIfInBounds_toArray, List.set_cons_zero, List.set_cons_succ]
      clear hHeld
      refine wpAnyH_ready (rs := [2]) (by kernel_rfl) (by simp) ?_
      refine AllReadyH.cons (o := _) rfl (fun K hK => ?_) AllReadyH.nil
      go_simp
      refine hK.out _ _ ⟨by go_simp, by go_simp, by go_simp, by go_simp, by go_simp, by go_simp⟩ (fun hHeld => ?_)
      clear hK K
      try simp only [Act.put, List.getElem_toArray, List.getElem_cons_zero, List.getElem_cons_succ, List.setIfInBounds_toArray, List.set_cons_zero, List.set_cons_succ]
      clear hHeld
      refine wpAnyH_ready (rs := [3]) (by kernel_rfl) (by simp) ?_
      refine AllReadyH.cons (o := _) rfl (fun K hK => ?_) AllReadyH.nil
      go_simp
      refine hK.out _ _ ⟨by go_simp, by go_simp, by go_simp, by go_simp, by go_simp, by go_simp⟩ (fun hHeld => ?_)
      clear hK K
      try simp only [Act.put, List.getElem_toArray, List.getElem_cons_zero, List.getElem_cons_succ, List.setIfInBounds_toArray, List.set_cons_zero, List.set_cons_succ]
      refine wpAnyH_done (by kernel_rfl) ?_ _
      clear hHeld
      go_wp2
      refine bodyPost_ret (v := .tuple #[.agg #[.int .i64 m, .slice A5 (n) c5], .agg #[.int .i64 g, .int .i64 L1, .int .i64 P1, .int .i64 P2]]) ?rswa rfl ⟨_, A5, n, c5, L1, P1, P2, rfl, HLF.out, HPF.out _ (fun k o hk hne => (six_keep (fun e => hne (Or.inr (by omega))) (fun e => hne (Or.inr (by omega)))).trans (JK.out k o hk hne)), HVN.out, party_ease hpa HLP.out, HEF.out, HLP.out.2.1, HLP.out.2.2.2.2, by (repeat' (first | with_reducible assumption | with_reducible exact Ext.refl _ | with_reducible refine Ext.alloc ?_ _ | with_reducible refine Ext.set ?_ ?_ _ | with_reducible refine Ext.drew ?_ | with_reducible refine Ext.drewN ?_ _ | with_reducible refine Ext.trans ?_ (by assumption) | (dsimp only; omega)))⟩
      case rswa => simp [results, Try.results36, go_sem, q0, q1, q2, q3, q4, q5]
  obtain ⟨i, rfl⟩ : ∃ i : Nat, yi = i := ⟨yi.toNat, by omega⟩
  have hi1 : (i : Int) < (n : Int) := hi.2
  have hi0 : (0 : Int) ≤ (i : Int) := hi.1
  refine (rIsPath_b _ _ _ _ _ (by omega) true (by simp; omega) _).mono ?_
  rintro e w2 ⟨rfl, hE2⟩
  clear hi hBR p0 p1 p2 p3 y0 y1 y2 y3 y4 y5 y6 y7 y8 y9 y10 y11 y12 y13 y14 fp1 fp2 fp3
  have X2 : Ext w1 w2 := (ext_alloc1 _ _).trans hE2
  have C1 := hid (blk_ext B1.out X2)
  have C2 := hid (blk_ext B2.out X2)
  have C3 := hid (blk_ext B3.out X2)
  have C4 := hid (blk_ext B4.out X2)
  have CM := hid (blk_ext (heap_alloc_new w1 (.cells #[.int .i64 m, .slice VA n vc] 24)) hE2)
  have E2 := E1.trans X2
  have hz2 : w1.heap.size < w2.heap.size := (Array.getElem?_eq_some_iff.1 CM.out).1
  obtain ⟨G, AO, co, rfl, hGB, hGZ, hpt, hfz, hso, hrx, csG, hGc⟩ := HC.out.part (i := i) (by omega)
  have hpt := hpt.ext hGZ X2
  have hAG : Spot AO ≠ some G := fun e => by
    obtain ⟨cs', hcs'⟩ := hso.blk G e
    rw [hGc] at hcs'
    injection hcs' with hcs'
    injection hcs' with _ hcs' _
    exact absurd hcs' (by decide)
  have HAO := hid (fun q hq => (hso.lt q hq))
  have HSO := hid (hso.keep (w' := w2) fun q cs hq => blk_ext hq X2)
  have HRX2 := hid (hrx.ext X2 hAG)
  have HGC := hid (blk_ext hGc X2)
  have HAG := hid hAG
  have HAM := hid (show om ≠ [] → ∀ q, Spot AM = some q → q < w.heap.size + 5 ∧ ¬ Zs w w1.heap.size q from fun hne q hq => by have := HAM.out hne q hq; exact ⟨by omega, fun h => by rcases h with h | h <;> omega⟩)
  rw [hzm] at CM HAM hz2 hz z0 z1 z2 z3 z4 hGZ HAO ⊢
  clear B1 B2 B3 B4 HC X2 E1 hE2 hzm hrx hfz hAG hGc
  obtain ⟨p, hpq⟩ : ∃ p, ps.getD i zeroPt = p := ⟨_, rfl⟩
  rw [hpq] at hpt HSO
  clear hso
  have HPT := hid (show PtOk p by rw [← hpq]; exact HNO.out.ok i (by have := HN.out; omega))
  have HPQ := hid hpq
  have HVP := hid (show vPath m p = true by rw [← hpq]; exact vNet_at hv i (by have := HN.out; omega))
  clear hpq
  obtain ⟨r0, r1, r2, r3, r4, r5, r6, r7, hcap, hop⟩ := hpt
  obtain ⟨f, d, gg, tl, th, sl, sh, os⟩ := p
  dsimp only at r0 r1 r2 r3 r4 r5 r6 r7 hcap HSO HVP
  clear hop
  have p0 := blk_cell C1.out 0
  have p1 := blk_cell C1.out 1
  have p2 := blk_cell C1.out 2
  have p3 := blk_cell C1.out 3
  have y0 := blk_cell C2.out 0
  have y1 := blk_cell C2.out 1
  have y2 := blk_cell C2.out 2
  have y3 := blk_cell C2.out 3
  have y4 := blk_cell C2.out 4
  have y5 := blk_cell C2.out 5
  have y6 := blk_cell C2.out 6
  have y7 := blk_cell C2.out 7
  have y8 := blk_cell C2.out 8
  have y9 := blk_cell C2.out 9
  have y10 := blk_cell C2.out 10
  have y11 := blk_cell C2.out 11
  have y12 := blk_cell C2.out 12
  have y13 := blk_cell C2.out 13
  have y14 := blk_cell C2.out 14
  simp only [List.getElem?_toArray, List.getElem?_cons_zero, List.getElem?_cons_succ] at p0 p1 p2 p3 y0 y1 y2 y3 y4 y5 y6 y7 y8 y9 y10 y11 y12 y13 y14
  have fp1 := blk_fro C1.out 1
  have fp2 := blk_fro C1.out 2
  have fp3 := blk_fro C1.out 3
  have m0 := blk_cell CM.out 0
  have m1 := blk_cell CM.out 1
  have fm1 := blk_fro CM.out 1
  simp only [List.getElem?_toArray, List.getElem?_cons_zero, List.getElem?_cons_succ] at m0 m1
  have n0 : w.heap.size < w2.heap.size := by omega
  have n1 : w.heap.size + 1 < w2.heap.size := by omega
  have n2 : w.heap.size + 1 + 1 < w2.heap.size := by omega
  have n3 : w.heap.size + 1 + 1 + 1 < w2.heap.size := by omega
  have n4 : w.heap.size + 1 + 1 + 1 + 1 < w2.heap.size := by omega
  have hG2 : G < w2.heap.size := by omega
  have ⟨b1, b2, b3, b4, b5, b6, b7⟩ := HPT.out
  dsimp only at b1 b2 b3 b4 b5 b6 b7
  have hg1 := HGR.out i (by have := HN.out; omega)
  rw [HPQ.out] at hg1
  dsimp only at hg1
  have w1' : IntKind.i64.wrap (gg - yg) = gg - yg := IntWalk.i64_in _ (by omega)
  have w2' : IntKind.i64.wrap (sl - ys) = sl - ys := IntWalk.i64_in _ (by omega)
  have w3' : IntKind.i64.wrap (sh - ys) = sh - ys := IntWalk.i64_in _ (by omega)
  obtain ⟨G1, hG1⟩ : ∃ x, (if 1 < gg - yg then gg - yg else 1) = x := ⟨_, rfl⟩
  obtain ⟨S1, hS1⟩ : ∃ x, (if ys < sl then sl - ys else 0) = x := ⟨_, rfl⟩
  obtain ⟨S2, hS2⟩ : ∃ x, (if ys < sh then sh - ys else 0) = x := ⟨_, rfl⟩
  have HG1 := hid (show 1 ≤ G1 ∧ G1 ≤ gg ∧ 0 ≤ S1 ∧ S1 ≤ sl ∧ S1 ≤ S2 ∧ S2 ≤ sh by subst hG1 hS1 hS2; split <;> split <;> split <;> omega)
  clear hg1 b1 b2 b3 b4 b5 b6
  have e3 : Ext w2 (w2.alloc (.cells #[.int .i64 f, .int .i64 d, .int .i64 G1, .int .i64 tl, .int .i64 th, .int .i64 S1, .int .i64 S2, .slice AO os.length co] 56)) := ext_alloc1 w2 _
  by_cases h6 : os.length < 6
  case neg =>
    have D1 := hid (blk_ext C1.out e3)
    have D2 := hid (blk_ext C2.out e3)
    have D3 := hid (blk_ext C3.out e3)
    have D4 := hid (blk_ext C4.out e3)
    have DM := hid (blk_ext CM.out e3)
    have EX := E2.trans e3
    have HRX := hid (HRX2.out.ext e3 HAG.out)
    have HS3 := hid (HSO.out.keep (w' := w2.alloc (.cells #[.int .i64 f, .int .i64 d, .int .i64 G1, .int .i64 tl, .int .i64 th, .int .i64 S1, .int .i64 S2, .slice AO os.length co] 56)) fun q cs hq => blk_ext hq e3)
    have HTH := hid (there_of (n := 8) (blk_ext HGC.out e3) (o := i * 8) (fun t ht => HRX.out.size (by omega) ht))
    clear e3 E2 HRX2 HSO
    go_wp2_with ((with_reducible refine st_guard ?_); refine Halt.mk ?_)
    unfold Halt
    refine wpList_store_mid rfl 56 _ _ rfl G (i * 8) #[.int .i64 f, .int .i64 d, .int .i64 G1, .int .i64 tl, .int .i64 th, .int .i64 S1, .int .i64 S2, .slice AO (os.length) co] (by rfl) (by rfl) HTH.out (by kernel_rfl) (all_oneCell_toArray (by intro u hu; simp only [List.mem_cons, List.not_mem_nil, or_false] at hu; rcases hu with rfl | rfl | rfl | rfl | rfl | rfl | rfl | rfl <;> rfl)) ?_
    have HQ := hid (HRX.out.store (q := ⟨f, d, G1, tl, th, S1, S2, os⟩) (by omega) HN.out HS3.out)
    have E4 := EX.setCells G (by omega) [.int .i64 f, .int .i64 d, .int .i64 G1, .int .i64 tl, .int .i64 th, .int .i64 S1, .int .i64 S2, .slice AO (os.length) co] (i * 8)
    have A1 := hid ((setCells_other G [.int .i64 f, .int .i64 d, .int .i64 G1, .int .i64 tl, .int .i64 th, .int .i64 S1, .int .i64 S2, .slice AO (os.length) co] (i * 8) _ (w.heap.size + 1) (by omega)).trans D1.out)
    have A2 := hid ((setCells_other G [.int .i64 f, .int .i64 d, .int .i64 G1, .int .i64 tl, .int .i64 th, .int .i64 S1, .int .i64 S2, .slice AO (os.length) co] (i * 8) _ (w.heap.size + 1 + 1) (by omega)).trans D2.out)
    have A3 := hid ((setCells_other G [.int .i64 f, .int .i64 d, .int .i64 G1, .int .i64 tl, .int .i64 th, .int .i64 S1, .int .i64 S2, .slice AO (os.length) co] (i * 8) _ (w.heap.size + 1 + 1 + 1) (by omega)).trans D3.out)
    have A4 := hid ((setCells_other G [.int .i64 f, .int .i64 d, .int .i64 G1, .int .i64 tl, .int .i64 th, .int .i64 S1, .int .i64 S2, .slice AO (os.length) co] (i * 8) _ (w.heap.size + 1 + 1 + 1 + 1) (by omega)).trans D4.out)
    have AM' := hid ((setCells_other G [.int .i64 f, .int .i64 d, .int .i64 G1, .int .i64 tl, .int .i64 th, .int .i64 S1, .int .i64 S2, .slice AO (os.length) co] (i * 8) _ zm (by omega)).trans DM.out)
    (obtain ⟨W4, hW4⟩ : ∃ W4, World.setCells (w2.alloc (.cells #[.int .i64 f, .int .i64 d, .int .i64 G1, .int .i64 tl, .int .i64 th, .int .i64 S1, .int .i64 S2, .slice AO os.length co] 56)) G (i * 8) [.int .i64 f, .int .i64 d, .int .i64 G1, .int .i64 tl, .int .i64 th, .int .i64 S1, .int .i64 S2, .slice AO (os.length) co] = W4 := ⟨_, rfl⟩)
    (rw [hW4] at E4 A1 A2 A3 A4 AM' ⊢)
    (have HQ' := hid (show RowQ W4 (w.heap.size + 5) (.slice (some ⟨G, 0, none⟩) n vc) (ps.set i ⟨f, d, G1, tl, th, S1, S2, os⟩) n by (have h := HQ.out; simp only [pcellsL, List.length_append, List.length_cons, List.length_nil, Nat.zero_add] at h; rw [hW4] at h; exact h)))
    clear HQ hW4 HTH HRX EX D1 D2 D3 D4 DM
    clear HS3 HPT HAO HGC HAG CM C1 C2 C3 C4 hG1 hS1 hS2 w1' w2' w3' p0 p1 p2 p3 y0 y1 y2 y3 y4 y5 y6 y7 y8 y9 y10 y11 y12 y13 y14 fp1 fp2 fp3 m0 m1 fm1 n0 n1 n2 n3 n4 r0 r1 r2 r3 r4 r5 r6 r7
    have HQL := hid (show (ps.set i ⟨f, d, G1, tl, th, S1, S2, os⟩).length = n by rw [List.length_set]; exact HN.out)
    have HV := hid (vNet_set hv i (q := ⟨f, d, G1, tl, th, S1, S2, os⟩) (vPath_ease HVP.out HG1.out ⟨ok_opens HVP.out, ok_opens2 HVP.out⟩))
    have HEN := hid (EasyNet.set (ps := ps) (i := i) (by have := HN.out; omega) (q := ⟨f, d, G1, tl, th, S1, S2, os⟩) (by rw [HPQ.out]; exact ⟨rfl, rfl, HG1.out.2.1, rfl, rfl, HG1.out.2.2.2.1, HG1.out.2.2.2.2.2, fun _ _ => Int.le_refl _⟩))
    have p0 := blk_cell A1.out 0
    have p1 := blk_cell A1.out 1
    have p2 := blk_cell A1.out 2
    have p3 := blk_cell A1.out 3
    have y0 := blk_cell A2.out 0
    have y1 := blk_cell A2.out 1
    have y2 := blk_cell A2.out 2
    have y3 := blk_cell A2.out 3
    have y4 := blk_cell A2.out 4
    have y5 := blk_cell A2.out 5
    have y6 := blk_cell A2.out 6
    have y7 := blk_cell A2.out 7
    have y8 := blk_cell A2.out 8
    have y9 := blk_cell A2.out 9
    have y10 := blk_cell A2.out 10
    have y11 := blk_cell A2.out 11
    have y12 := blk_cell A2.out 12
    have y13 := blk_cell A2.out 13
    have y14 := blk_cell A2.out 14
    simp only [List.getElem?_toArray, List.getElem?_cons_zero, List.getElem?_cons_succ] at p0 p1 p2 p3 y0 y1 y2 y3 y4 y5 y6 y7 y8 y9 y10 y11 y12 y13 y14
    have fp1 := blk_fro A1.out 1
    have fp2 := blk_fro A1.out 2
    have fp3 := blk_fro A1.out 3
    have m0 := blk_cell AM'.out 0
    have m1 := blk_cell AM'.out 1
    have fm1 := blk_fro AM'.out 1
    simp only [List.getElem?_toArray, List.getElem?_cons_zero, List.getElem?_cons_succ] at m0 m1
    have k0 := E4.size
    have k1 : zm < W4.heap.size := (Array.getElem?_eq_some_iff.1 AM'.out).1
    have k2 : w.heap.size + 5 ≤ W4.heap.size := by omega
    have n1 : w.heap.size + 1 < W4.heap.size := by omega
    have n2 : w.heap.size + 1 + 1 < W4.heap.size := by omega
    have n3 : w.heap.size + 1 + 1 + 1 < W4.heap.size := by omega
    have n4 : w.heap.size + 1 + 1 + 1 + 1 < W4.heap.size := by omega
    have HZZ := hid (show ∀ k, Zs w zm k → ∃ cs t, (W4.alloc (.cells #[.int .i64 f2, .int .i64 d2, .int .i64 g2, .int .i64 tl2, .int .i64 th2, .int .i64 sl2, .int .i64 sh2, .slice AM om.length cm] 56)).heap[k]? = some (.cells cs t (0, 0)) ∧ t ≠ 56 ∧ t ≠ 26 from fun k hk => zs_obj hk A1.out A2.out A3.out A4.out AM'.out (ext_alloc1 _ _))
    go_wp2_with (at_builtin; refine Halt.mk ?_)
    unfold Halt
    refine wpList_append_more _ rfl rfl _ _ rfl (w.heap.size + 5) (Zs w zm) (.slice (some ⟨G, 0, none⟩) n vc) (ps.set i ⟨f, d, G1, tl, th, S1, S2, os⟩) n (by rfl) (HQ'.out.ext (ext_alloc1 _ _)) HQL.out (by simp; omega) (by omega) W4.heap.size (⟨f2, d2, g2, tl2, th2, sl2, sh2, om⟩ : Pt) AM cm (by rfl) (heap_alloc_new W4 _) (HOM.out.ext (E4.alloc _)) hcm HAM.out HZZ.out ?_
    intro A5 c5 w5 hpb hc5 hg5 hvB
    have G1' := hid (grown_blk (B := w.heap.size + 5) (by omega) (blk_ext A1.out (ext_alloc1 _ _)) hg5 (fun r hr => (hvB r hr).1))
    have G2' := hid (grown_blk (B := w.heap.size + 5) (by omega) (blk_ext A2.out (ext_alloc1 _ _)) hg5 (fun r hr => (hvB r hr).1))
    have G3' := hid (grown_blk (B := w.heap.size + 5) (by omega) (blk_ext A3.out (ext_alloc1 _ _)) hg5 (fun r hr => (hvB r hr).1))
    have G4' := hid (grown_blk (B := w.heap.size + 5) (by omega) (blk_ext A4.out (ext_alloc1 _ _)) hg5 (fun r hr => (hvB r hr).1))
    have DM5 := hid ((hg5.block zm (by simp; omega) (fun e => (hvB zm e.symm).2 (Or.inl rfl))).trans (blk_ext AM'.out (ext_alloc1 _ _)))
    have E5 : Ext w w5 := ext_of_grown (E4.alloc _) hg5 (fun q hq => by have := (hvB q hq).1; omega)
    have HPB := hid hpb
    clear hpb hg5 hvB A1 A2 A3 A4 AM' E4 HZZ HQ' p0 p1 p2 p3 y0 y1 y2 y3 y4 y5 y6 y7 y8 y9 y10 y11 y12 y13 y14 fp1 fp2 fp3 m0 m1 fm1 k0 k1 k2 n1 n2 n3 n4
    have m0 := blk_cell DM5.out 0
    have m1 := blk_cell DM5.out 1
    have fm1 := blk_fro DM5.out 1
    simp only [List.getElem?_toArray, List.getElem?_cons_zero, List.getElem?_cons_succ] at m0 m1
    go_wp2_with fail
    refine (rCheck_any m A5 (n + 1) c5 (ps.set i ⟨f, d, G1, tl, th, S1, S2, os⟩ ++ [(⟨f2, d2, g2, tl2, th2, sl2, sh2, om⟩ : Pt)]) (by rw [List.length_append, HQL.out]; rfl) _ (HPB.out _ (fun k o hk hne => (Below.heap_setCell _ _ _ k (fun e => hne (Or.inl e))).trans hk))).mono ?_
    rintro e w6 ⟨rfl, hE6⟩
    have X6 : Ext w w6 := (E5.set (by dsimp only; omega) _).trans hE6
    have F1 := hid (blk_ext ((Below.heap_setCell w5 ⟨zm, 1, none⟩ (.slice A5 (n + 1) c5) _ (by dsimp only; omega)).trans G1'.out) hE6)
    have F2 := hid (blk_ext ((Below.heap_setCell w5 ⟨zm, 1, none⟩ (.slice A5 (n + 1) c5) _ (by dsimp only; omega)).trans G2'.out) hE6)
    have F3 := hid (blk_ext ((Below.heap_setCell w5 ⟨zm, 1, none⟩ (.slice A5 (n + 1) c5) _ (by dsimp only; omega)).trans G3'.out) hE6)
    have F4 := hid (blk_ext ((Below.heap_setCell w5 ⟨zm, 1, none⟩ (.slice A5 (n + 1) c5) _ (by dsimp only; omega)).trans G4'.out) hE6)
    have FM := hid (blk_ext (heap_setCell_same w5 zm 1 _ _ (.slice A5 (n + 1) c5) DM5.out) hE6)
    have HKP := hid (show ∀ (k : Nat) (o : Obj), w5.heap[k]? = some o → ¬ Zs w zm k → w6.heap[k]? = some o from fun k o hk hne => blk_ext ((Below.heap_setCell w5 ⟨zm, 1, none⟩ (.slice A5 (n + 1) c5) k (fun e => hne (Or.inl e))).trans hk) hE6)
    clear hE6 E5 G1' G2' G3' G4' DM5 m0 m1 fm1
    obtain ⟨ce, hce⟩ : ∃ ce, checkE m (ps.set i ⟨f, d, G1, tl, th, S1, S2, os⟩ ++ [(⟨f2, d2, g2, tl2, th2, sl2, sh2, om⟩ : Pt)]) = ce := ⟨_, rfl⟩
    have HCE := hid hce
    rw [hce]
    clear hce
    have p0 := blk_cell F1.out 0
    have p1 := blk_cell F1.out 1
    have p2 := blk_cell F1.out 2
    have p3 := blk_cell F1.out 3
    have y0 := blk_cell F2.out 0
    have y1 := blk_cell F2.out 1
    have y2 := blk_cell F2.out 2
    have y3 := blk_cell F2.out 3
    have y4 := blk_cell F2.out 4
    have y5 := blk_cell F2.out 5
    have y6 := blk_cell F2.out 6
    have y7 := blk_cell F2.out 7
    have y8 := blk_cell F2.out 8
    have y9 := blk_cell F2.out 9
    have y10 := blk_cell F2.out 10
    have y11 := blk_cell F2.out 11
    have y12 := blk_cell F2.out 12
    have y13 := blk_cell F2.out 13
    have y14 := blk_cell F2.out 14
    simp only [List.getElem?_toArray, List.getElem?_cons_zero, List.getElem?_cons_succ] at p0 p1 p2 p3 y0 y1 y2 y3 y4 y5 y6 y7 y8 y9 y10 y11 y12 y13 y14
    have fp1 := blk_fro F1.out 1
    have fp2 := blk_fro F1.out 2
    have fp3 := blk_fro F1.out 3
    have m0 := blk_cell FM.out 0
    have m1 := blk_cell FM.out 1
    have fm1 := blk_fro FM.out 1
    have q0 := blk_cell F3.out 0
    have q1 := blk_cell F3.out 1
    have fq0 := blk_fro F3.out 0
    have fq1 := blk_fro F3.out 1
    have q2 := blk_cell F4.out 0
    have q3 := blk_cell F4.out 1
    have q4 := blk_cell F4.out 2
    have q5 := blk_cell F4.out 3
    have fq2 := blk_fro F4.out 0
    have fq3 := blk_fro F4.out 1
    have fq4 := blk_fro F4.out 2
    have fq5 := blk_fro F4.out 3
    simp only [List.getElem?_toArray, List.getElem?_cons_zero, List.getElem?_cons_succ, List.setIfInBounds_toArray, List.set_cons_zero, List.set_cons_succ] at m0 m1 q0 q1 q2 q3 q4 q5
    have k1 : zm < w6.heap.size := (Array.getElem?_eq_some_iff.1 FM.out).1
    have n1 : w.heap.size + 1 < w6.heap.size := by omega
    have n2 : w.heap.size + 1 + 1 < w6.heap.size := by omega
    have n3 : w.heap.size + 1 + 1 + 1 < w6.heap.size := by omega
    have n4 : w.heap.size + 1 + 1 + 1 + 1 < w6.heap.size := by omega
    have u1 : ¬ w.heap.size + 1 = zm := by omega
    have u2 : ¬ w.heap.size + 1 + 1 = zm := by omega
    have u3 : ¬ w.heap.size + 1 + 1 + 1 = zm := by omega
    have u4 : ¬ w.heap.size + 1 + 1 + 1 + 1 = zm := by omega
    obtain ⟨L1, hL1⟩ : ∃ x, (if yd < l then l - yd else 0) = x := ⟨_, rfl⟩
    obtain ⟨P1, hP1⟩ : ∃ x, (if 50 < pl - yp then pl - yp else 50) = x := ⟨_, rfl⟩
    obtain ⟨P2, hP2⟩ : ∃ x, (if 50 < ph - yp then ph - yp else 50) = x := ⟨_, rfl⟩
    have ⟨a1, a2, a3, a4, a5⟩ := ha
    have HLP := hid (show 0 ≤ L1 ∧ L1 ≤ l ∧ 50 ≤ P1 ∧ P1 ≤ P2 ∧ P2 ≤ ph by subst hL1 hP1 hP2; split <;> split <;> split <;> omega)
    have w4' : IntKind.i64.wrap (l - yd) = l - yd := IntWalk.i64_in _ (by omega)
    have w5' : IntKind.i64.wrap (pl - yp) = pl - yp := IntWalk.i64_in _ (by omega)
    have w6' : IntKind.i64.wrap (ph - yp) = ph - yp := IntWalk.i64_in _ (by omega)
    clear a1 a2 a3 a4 a5
    by_cases hc0 : ce = 0
    · have HVN := hid (checkE_zero (HCE.out.trans hc0))
      subst hc0
      clear HCE
      go_wp2_with fail
      clear hL1 hP1 hP2 w4' w5' w6'
      have HEF := hid (HEN.out.more (⟨f2, d2, g2, tl2, th2, sl2, sh2, om⟩ : Pt))
      have HLF := hid (show (ps.set i ⟨f, d, G1, tl, th, S1, S2, os⟩ ++ [(⟨f2, d2, g2, tl2, th2, sl2, sh2, om⟩ : Pt)]).length = n + 1 by rw [List.length_append, HQL.out]; rfl)
      have HPF := HPB
      have HPX := hid (pbox (q := w.heap.size + 1) L1 P1 P2 F1.out)
      have X8 : Ext w ((((w6).setCell ⟨w.heap.size + 1, 1, none⟩ (.int .i64 L1)).setCell ⟨w.heap.size + 1, 2, none⟩ (.int .i64 P1)).setCell ⟨w.heap.size + 1, 3, none⟩ (.int .i64 P2)) := ((X6.set (by dsimp only; omega) _).set (by dsimp only; omega) _).set (by dsimp only; omega) _
      have J3 := hid ((HPX.out.2 (w.heap.size + 1 + 1 + 1) (by omega)).trans F3.out)
      have J4 := hid ((HPX.out.2 (w.heap.size + 1 + 1 + 1 + 1) (by omega)).trans F4.out)
      have JM := hid ((HPX.out.2 zm (by omega)).trans FM.out)
      have JK := hid (fun k o hk hne => (HPX.out.2 k (fun e => hne (Or.inr (by omega)))).trans (HKP.out k o hk hne))
      have J1 := hid HPX.out.1
      clear HPX HKP F1 F2 F3 F4 FM p0 p1 p2 p3 y0 y1 y2 y3 y4 y5 y6 y7 y8 y9 y10 y11 y12 y13 y14 fp1 fp2 fp3 m0 m1 fm1 q0 q1 q2 q3 q4 q5 fq0 fq1 fq2 fq3 fq4 fq5 X6
      obtain ⟨W8, hW8⟩ : ∃ W8, (((w6).setCell ⟨w.heap.size + 1, 1, none⟩ (.int .i64 L1)).setCell ⟨w.heap.size + 1, 2, none⟩ (.int .i64 P1)).setCell ⟨w.heap.size + 1, 3, none⟩ (.int .i64 P2) = W8 := ⟨_, rfl⟩
      rw [hW8] at X8 J1 J3 J4 JM JK ⊢
      clear hW8
      have p0 := blk_cell J1.out 0
      have p1 := blk_cell J1.out 1
      have p2 := blk_cell J1.out 2
      have p3 := blk_cell J1.out 3
      have m0 := blk_cell JM.out 0
      have m1 := blk_cell JM.out 1
      have q0 := blk_cell J3.out 0
      have q1 := blk_cell J3.out 1
      have fq0 := blk_fro J3.out 0
      have fq1 := blk_fro J3.out 1
      have q2 := blk_cell J4.out 0
      have q3 := blk_cell J4.out 1
      have q4 := blk_cell J4.out 2
      have q5 := blk_cell J4.out 3
      have fq2 := blk_fro J4.out 0
      have fq3 := blk_fro J4.out 1
      have fq4 := blk_fro J4.out 2
      have fq5 := blk_fro J4.out 3
      simp only [List.getElem?_toArray, List.getElem?_cons_zero, List.getElem?_cons_succ, List.setIfInBounds_toArray, List.set_cons_zero, List.set_cons_succ] at m0 m1 q0 q1 q2 q3 q4 q5 p0 p1 p2 p3
      refine wp_region_held_drew (S := fun w' => w'.cell? ⟨w.heap.size + 1, 0, none⟩ = some (.int .i64 g) ∧ w'.cell? ⟨w.heap.size + 1, 1, none⟩ = some (.int .i64 L1) ∧ w'.cell? ⟨w.heap.size + 1, 2, none⟩ = some (.int .i64 P1) ∧ w'.cell? ⟨w.heap.size + 1, 3, none⟩ = some (.int .i64 P2) ∧ w'.cell? ⟨zm, 0, none⟩ = some (.int .i64 m) ∧ w'.cell? ⟨zm, 1, none⟩ = some (.slice A5 (n + 1) c5)) (by kernel_rfl) ?hS0 (fun hHeld => ?_)
      case hS0 => exact ⟨p0, p1, p2, p3, m0, m1⟩
      refine wpAnyH_take (i := 0) (oi := _) (v := ?v0vb) rfl (by kernel_rfl) (by kernel_rfl) (by kernel_rfl) (fun _ _ _ h => h) (Or.inl ⟨by rfl, ?y0vb⟩) (by assumption) ?r0vb
      case y0vb => (intro w' hSw; (try dsimp only at hSw); go_simp; (try with_reducible rfl))
      try simp only [Act.put, List.getElem_toArray, List.getElem_cons_zero, List.getElem_cons_succ, List.setIfInBounds_toArray, List.set_cons_zero, List.set_cons_succ]
      refine wpAnyH_take (i := 1) (oi := _) (v := ?v1vb) rfl (by kernel_rfl) (by kernel_rfl) (by kernel_rfl) (fun _ _ _ h => h) (Or.inl ⟨by rfl, ?y1vb⟩) (by assumption) ?r1vb
      case y1vb => (intro w' hSw; (try dsimp only at hSw); go_simp; (try with_reducible rfl))
      try simp only [Act.put, List.getElem_toArray, List.getElem_cons_zero, List.getElem_cons_succ, List.setIfInBounds_toArray, List.set_cons_zero, List.set_cons_succ]
      clear hHeld
      refine wpAnyH_ready (rs := [2]) (by kernel_rfl) (by simp) ?_
      refine AllReadyH.cons (o := _) rfl (fun K hK => ?_) AllReadyH.nil
      go_simp
      refine hK.out _ _ ⟨by go_simp, by go_simp, by go_simp, by go_simp, by go_simp, by go_simp⟩ (fun hHeld => ?_)
      clear hK K
      try simp only [Act.put, List.getElem_toArray, List.getElem_cons_zero, List.getElem_cons_succ, List.setIfInBounds_toArray, List.set_cons_zero, List.set_cons_succ]
      clear hHeld
      refine wpAnyH_ready (rs := [3]) (by kernel_rfl) (by simp) ?_
      refine AllReadyH.cons (o := _) rfl (fun K hK => ?_) AllReadyH.nil
      go_simp
      refine hK.out _ _ ⟨by go_simp, by go_simp, by go_simp, by go_simp, by go_simp, by go_simp⟩ (fun hHeld => ?_)
      clear hK K
      try simp only [Act.put, List.getElem_toArray, List.getElem_cons_zero, List.getElem_cons_succ, List.setIfInBounds_toArray, List.set_cons_zero, List.set_cons_succ]
      refine wpAnyH_done (by kernel_rfl) ?_ _
      clear hHeld
      go_wp2
      refine bodyPost_ret (v := .tuple #[.agg #[.int .i64 m, .slice A5 (n + 1) c5], .agg #[.int .i64 g, .int .i64 L1, .int .i64 P1, .int .i64 P2]]) ?rsvb rfl ⟨_, A5, n + 1, c5, L1, P1, P2, rfl, HLF.out, HPF.out _ (fun k o hk hne => (six_keep (fun e => hne (Or.inr (by omega))) (fun e => hne (Or.inr (by omega)))).trans (JK.out k o hk hne)), HVN.out, party_ease hpa HLP.out, HEF.out, HLP.out.2.1, HLP.out.2.2.2.2, by (repeat' (first | with_reducible assumption | with_reducible exact Ext.refl _ | with_reducible refine Ext.alloc ?_ _ | with_reducible refine Ext.set ?_ ?_ _ | with_reducible refine Ext.drew ?_ | with_reducible refine Ext.drewN ?_ _ | with_reducible refine Ext.trans ?_ (by assumption) | (dsimp only; omega)))⟩
      case rsvb => simp [results, Try.results36, go_sem, q0, q1, q2, q3, q4, q5]
    · have hneb : (ce != 0) = true := by simpa using hc0
      have hc5' : n ≤ c5 := by omega
      clear HCE
      go_wp2_with fail
      clear hL1 hP1 hP2 w4' w5' w6'
      have HEF := HEN
      have HLF := HQL
      have HPF := hid (show PathsBut w5 (Zs w zm) A5 (ps.set i ⟨f, d, G1, tl, th, S1, S2, os⟩) from fun W hW => (HPB.out W hW).front)
      have HVN := HV
      have X7 : Ext w (w6.setCell ⟨zm, 1, none⟩ (.slice A5 n c5)) := X6.set (by dsimp only; omega) _
      have H1 := hid ((Below.heap_setCell w6 ⟨zm, 1, none⟩ (.slice A5 n c5) _ (by dsimp only; omega)).trans F1.out)
      have H3 := hid ((Below.heap_setCell w6 ⟨zm, 1, none⟩ (.slice A5 n c5) _ (by dsimp only; omega)).trans F3.out)
      have H4 := hid ((Below.heap_setCell w6 ⟨zm, 1, none⟩ (.slice A5 n c5) _ (by dsimp only; omega)).trans F4.out)
      have HM := hid (heap_setCell_same w6 zm 1 _ _ (.slice A5 n c5) FM.out)
      have HK7 := hid (show ∀ (k : Nat) (o : Obj), w5.heap[k]? = some o → ¬ Zs w zm k → (w6.setCell ⟨zm, 1, none⟩ (.slice A5 n c5)).heap[k]? = some o from fun k o hk hne => (Below.heap_setCell w6 ⟨zm, 1, none⟩ (.slice A5 n c5) k (fun e => hne (Or.inl e))).trans (HKP.out k o hk hne))
      have HPX := hid (pbox (q := w.heap.size + 1) L1 P1 P2 H1.out)
      have X8 : Ext w ((((w6.setCell ⟨zm, 1, none⟩ (.slice A5 n c5)).setCell ⟨w.heap.size + 1, 1, none⟩ (.int .i64 L1)).setCell ⟨w.heap.size + 1, 2, none⟩ (.int .i64 P1)).setCell ⟨w.heap.size + 1, 3, none⟩ (.int .i64 P2)) := ((X7.set (by dsimp only; omega) _).set (by dsimp only; omega) _).set (by dsimp only; omega) _
      have J3 := hid ((HPX.out.2 (w.heap.size + 1 + 1 + 1) (by omega)).trans H3.out)
      have J4 := hid ((HPX.out.2 (w.heap.size + 1 + 1 + 1 + 1) (by omega)).trans H4.out)
      have JM := hid ((HPX.out.2 zm (by omega)).trans HM.out)
      have JK := hid (fun k o hk hne => (HPX.out.2 k (fun e => hne (Or.inr (by omega)))).trans (HK7.out k o hk hne))
      have J1 := hid HPX.out.1
      clear HPX HKP F1 F2 F3 F4 FM p0 p1 p2 p3 y0 y1 y2 y3 y4 y5 y6 y7 y8 y9 y10 y11 y12 y13 y14 fp1 fp2 fp3 m0 m1 fm1 q0 q1 q2 q3 q4 q5 fq0 fq1 fq2 fq3 fq4 fq5 X6
      obtain ⟨W8, hW8⟩ : ∃ W8, (((w6.setCell ⟨zm, 1, none⟩ (.slice A5 n c5)).setCell ⟨w.heap.size + 1, 1, none⟩ (.int .i64 L1)).setCell ⟨w.heap.size + 1, 2, none⟩ (.int .i64 P1)).setCell ⟨w.heap.size + 1, 3, none⟩ (.int .i64 P2) = W8 := ⟨_, rfl⟩
      rw [hW8] at X8 J1 J3 J4 JM JK ⊢
      clear hW8
      have p0 := blk_cell J1.out 0
      have p1 := blk_cell J1.out 1
      have p2 := blk_cell J1.out 2
      have p3 := blk_cell J1.out 3
      have m0 := blk_cell JM.out 0
      have m1 := blk_cell JM.out 1
      have q0 := blk_cell J3.out 0
      have q1 := blk_cell J3.out 1
      have fq0 := blk_fro J3.out 0
      have fq1 := blk_fro J3.out 1
      have q2 := blk_cell J4.out 0
      have q3 := blk_cell J4.out 1
      have q4 := blk_cell J4.out 2
      have q5 := blk_cell J4.out 3
      have fq2 := blk_fro J4.out 0
      have fq3 := blk_fro J4.out 1
      have fq4 := blk_fro J4.out 2
      have fq5 := blk_fro J4.out 3
      simp only [List.getElem?_toArray, List.getElem?_cons_zero, List.getElem?_cons_succ, List.setIfInBounds_toArray, List.set_cons_zero, List.set_cons_succ] at m0 m1 q0 q1 q2 q3 q4 q5 p0 p1 p2 p3
      refine wp_region_held_drew (S := fun w' => w'.cell? ⟨w.heap.size + 1, 0, none⟩ = some (.int .i64 g) ∧ w'.cell? ⟨w.heap.size + 1, 1, none⟩ = some (.int .i64 L1) ∧ w'.cell? ⟨w.heap.size + 1, 2, none⟩ = some (.int .i64 P1) ∧ w'.cell? ⟨w.heap.size + 1, 3, none⟩ = some (.int .i64 P2) ∧ w'.cell? ⟨zm, 0, none⟩ = some (.int .i64 m) ∧ w'.cell? ⟨zm, 1, none⟩ = some (.slice A5 (n) c5)) (by kernel_rfl) ?hS0 (fun hHeld => ?_)
      case hS0 => exact ⟨p0, p1, p2, p3, m0, m1⟩
      refine wpAnyH_take (i := 0) (oi := _) (v := ?v0wb) rfl (by kernel_rfl) (by kernel_rfl) (by kernel_rfl) (fun _ _ _ h => h) (Or.inl ⟨by rfl, ?y0wb⟩) (by assumption) ?r0wb
      case y0wb => (intro w' hSw; (try dsimp only at hSw); go_simp; (try with_reducible rfl))
      try simp only [Act.put, List.getElem_toArray, List.getElem_cons_zero, List.getElem_cons_succ, List.setIfInBounds_toArray, List.set_cons_zero, List.set_cons_succ]
      refine wpAnyH_take (i := 1) (oi := _) (v := ?v1wb) rfl (by kernel_rfl) (by kernel_rfl) (by kernel_rfl) (fun _ _ _ h => h) (Or.inl ⟨by rfl, ?y1wb⟩) (by assumption) ?r1wb
      case y1wb => (intro w' hSw; (try dsimp only at hSw); go_simp; (try with_reducible rfl))
      try simp only [Act.put, List.getElem_toArray, List.getElem_cons_zero, List.getElem_cons_succ, List.setIfInBounds_toArray, List.set_cons_zero, List.set_cons_succ]
      clear hHeld
      refine wpAnyH_ready (rs := [2]) (by kernel_rfl) (by simp) ?_
      refine AllReadyH.cons (o := _) rfl (fun K hK => ?_) AllReadyH.nil
      go_simp
      refine hK.out _ _ ⟨by go_simp, by go_simp, by go_simp, by go_simp, by go_simp, by go_simp⟩ (fun hHeld => ?_)
      clear hK K
      try simp only [Act.put, List.getElem_toArray, List.getElem_cons_zero, List.getElem_cons_succ, List.setIfInBounds_toArray, List.set_cons_zero, List.set_cons_succ]
      clear hHeld
      refine wpAnyH_ready (rs := [3]) (by kernel_rfl) (by simp) ?_
      refine AllReadyH.cons (o := _) rfl (fun K hK => ?_) AllReadyH.nil
      go_simp
      refine hK.out _ _ ⟨by go_simp, by go_simp, by go_simp, by go_simp, by go_simp, by go_simp⟩ (fun hHeld => ?_)
      clear hK K
      try simp only [Act.put, List.getElem_toArray, List.getElem_cons_zero, List.getElem_cons_succ, List.setIfInBounds_toArray, List.set_cons_zero, List.set_cons_succ]
      refine wpAnyH_done (by kernel_rfl) ?_ _
      clear hHeld
      go_wp2
      refine bodyPost_ret (v := .tuple #[.agg #[.int .i64 m, .slice A5 (n) c5], .agg #[.int .i64 g, .int .i64 L1, .int .i64 P1, .int .i64 P2]]) ?rswb rfl ⟨_, A5, n, c5, L1, P1, P2, rfl, HLF.out, HPF.out _ (fun k o hk hne => (six_keep (fun e => hne (Or.inr (by omega))) (fun e => hne (Or.inr (by omega)))).trans (JK.out k o hk hne)), HVN.out, party_ease hpa HLP.out, HEF.out, HLP.out.2.1, HLP.out.2.2.2.2, by (repeat' (first | with_reducible assumption | with_reducible exact Ext.refl _ | with_reducible refine Ext.alloc ?_ _ | with_reducible refine Ext.set ?_ ?_ _ | with_reducible refine Ext.drew ?_ | with_reducible refine Ext.drewN ?_ _ | with_reducible refine Ext.trans ?_ (by assumption) | (dsimp only; omega)))⟩
      case rswb => simp [results, Try.results36, go_sem, q0, q1, q2, q3, q4, q5]
  go_wp2_with fail
  refine (isMinute_b _ _).mono ?_
  rintro e w3 ⟨rfl, rfl⟩
  cases hmb : minuteB yo
  case false =>
    have D1 := hid (blk_ext C1.out e3)
    have D2 := hid (blk_ext C2.out e3)
    have D3 := hid (blk_ext C3.out e3)
    have D4 := hid (blk_ext C4.out e3)
    have DM := hid (blk_ext CM.out e3)
    have EX := E2.trans e3
    have HRX := hid (HRX2.out.ext e3 HAG.out)
    have HS3 := hid (HSO.out.keep (w' := w2.alloc (.cells #[.int .i64 f, .int .i64 d, .int .i64 G1, .int .i64 tl, .int .i64 th, .int .i64 S1, .int .i64 S2, .slice AO os.length co] 56)) fun q cs hq => blk_ext hq e3)
    have HTH := hid (there_of (n := 8) (blk_ext HGC.out e3) (o := i * 8) (fun t ht => HRX.out.size (by omega) ht))
    clear e3 E2 HRX2 HSO
    go_wp2_with ((with_reducible refine st_guard ?_); refine Halt.mk ?_)
    unfold Halt
    refine wpList_store_mid rfl 56 _ _ rfl G (i * 8) #[.int .i64 f, .int .i64 d, .int .i64 G1, .int .i64 tl, .int .i64 th, .int .i64 S1, .int .i64 S2, .slice AO (os.length) co] (by rfl) (by rfl) HTH.out (by kernel_rfl) (all_oneCell_toArray (by intro u hu; simp only [List.mem_cons, List.not_mem_nil, or_false] at hu; rcases hu with rfl | rfl | rfl | rfl | rfl | rfl | rfl | rfl <;> rfl)) ?_
    have HQ := hid (HRX.out.store (q := ⟨f, d, G1, tl, th, S1, S2, os⟩) (by omega) HN.out HS3.out)
    have E4 := EX.setCells G (by omega) [.int .i64 f, .int .i64 d, .int .i64 G1, .int .i64 tl, .int .i64 th, .int .i64 S1, .int .i64 S2, .slice AO (os.length) co] (i * 8)
    have A1 := hid ((setCells_other G [.int .i64 f, .int .i64 d, .int .i64 G1, .int .i64 tl, .int .i64 th, .int .i64 S1, .int .i64 S2, .slice AO (os.length) co] (i * 8) _ (w.heap.size + 1) (by omega)).trans D1.out)
    have A2 := hid ((setCells_other G [.int .i64 f, .int .i64 d, .int .i64 G1, .int .i64 tl, .int .i64 th, .int .i64 S1, .int .i64 S2, .slice AO (os.length) co] (i * 8) _ (w.heap.size + 1 + 1) (by omega)).trans D2.out)
    have A3 := hid ((setCells_other G [.int .i64 f, .int .i64 d, .int .i64 G1, .int .i64 tl, .int .i64 th, .int .i64 S1, .int .i64 S2, .slice AO (os.length) co] (i * 8) _ (w.heap.size + 1 + 1 + 1) (by omega)).trans D3.out)
    have A4 := hid ((setCells_other G [.int .i64 f, .int .i64 d, .int .i64 G1, .int .i64 tl, .int .i64 th, .int .i64 S1, .int .i64 S2, .slice AO (os.length) co] (i * 8) _ (w.heap.size + 1 + 1 + 1 + 1) (by omega)).trans D4.out)
    have AM' := hid ((setCells_other G [.int .i64 f, .int .i64 d, .int .i64 G1, .int .i64 tl, .int .i64 th, .int .i64 S1, .int .i64 S2, .slice AO (os.length) co] (i * 8) _ zm (by omega)).trans DM.out)
    (obtain ⟨W4, hW4⟩ : ∃ W4, World.setCells (w2.alloc (.cells #[.int .i64 f, .int .i64 d, .int .i64 G1, .int .i64 tl, .int .i64 th, .int .i64 S1, .int .i64 S2, .slice AO os.length co] 56)) G (i * 8) [.int .i64 f, .int .i64 d, .int .i64 G1, .int .i64 tl, .int .i64 th, .int .i64 S1, .int .i64 S2, .slice AO (os.length) co] = W4 := ⟨_, rfl⟩)
    (rw [hW4] at E4 A1 A2 A3 A4 AM' ⊢)
    (have HQ' := hid (show RowQ W4 (w.heap.size + 5) (.slice (some ⟨G, 0, none⟩) n vc) (ps.set i ⟨f, d, G1, tl, th, S1, S2, os⟩) n by (have h := HQ.out; simp only [pcellsL, List.length_append, List.length_cons, List.length_nil, Nat.zero_add] at h; rw [hW4] at h; exact h)))
    clear HQ hW4 HTH HRX EX D1 D2 D3 D4 DM
    clear HS3 HPT HAO HGC HAG CM C1 C2 C3 C4 hG1 hS1 hS2 w1' w2' w3' p0 p1 p2 p3 y0 y1 y2 y3 y4 y5 y6 y7 y8 y9 y10 y11 y12 y13 y14 fp1 fp2 fp3 m0 m1 fm1 n0 n1 n2 n3 n4 r0 r1 r2 r3 r4 r5 r6 r7
    have HQL := hid (show (ps.set i ⟨f, d, G1, tl, th, S1, S2, os⟩).length = n by rw [List.length_set]; exact HN.out)
    have HV := hid (vNet_set hv i (q := ⟨f, d, G1, tl, th, S1, S2, os⟩) (vPath_ease HVP.out HG1.out ⟨ok_opens HVP.out, ok_opens2 HVP.out⟩))
    have HEN := hid (EasyNet.set (ps := ps) (i := i) (by have := HN.out; omega) (q := ⟨f, d, G1, tl, th, S1, S2, os⟩) (by rw [HPQ.out]; exact ⟨rfl, rfl, HG1.out.2.1, rfl, rfl, HG1.out.2.2.2.1, HG1.out.2.2.2.2.2, fun _ _ => Int.le_refl _⟩))
    have p0 := blk_cell A1.out 0
    have p1 := blk_cell A1.out 1
    have p2 := blk_cell A1.out 2
    have p3 := blk_cell A1.out 3
    have y0 := blk_cell A2.out 0
    have y1 := blk_cell A2.out 1
    have y2 := blk_cell A2.out 2
    have y3 := blk_cell A2.out 3
    have y4 := blk_cell A2.out 4
    have y5 := blk_cell A2.out 5
    have y6 := blk_cell A2.out 6
    have y7 := blk_cell A2.out 7
    have y8 := blk_cell A2.out 8
    have y9 := blk_cell A2.out 9
    have y10 := blk_cell A2.out 10
    have y11 := blk_cell A2.out 11
    have y12 := blk_cell A2.out 12
    have y13 := blk_cell A2.out 13
    have y14 := blk_cell A2.out 14
    simp only [List.getElem?_toArray, List.getElem?_cons_zero, List.getElem?_cons_succ] at p0 p1 p2 p3 y0 y1 y2 y3 y4 y5 y6 y7 y8 y9 y10 y11 y12 y13 y14
    have fp1 := blk_fro A1.out 1
    have fp2 := blk_fro A1.out 2
    have fp3 := blk_fro A1.out 3
    have m0 := blk_cell AM'.out 0
    have m1 := blk_cell AM'.out 1
    have fm1 := blk_fro AM'.out 1
    simp only [List.getElem?_toArray, List.getElem?_cons_zero, List.getElem?_cons_succ] at m0 m1
    have k0 := E4.size
    have k1 : zm < W4.heap.size := (Array.getElem?_eq_some_iff.1 AM'.out).1
    have k2 : w.heap.size + 5 ≤ W4.heap.size := by omega
    have n1 : w.heap.size + 1 < W4.heap.size := by omega
    have n2 : w.heap.size + 1 + 1 < W4.heap.size := by omega
    have n3 : w.heap.size + 1 + 1 + 1 < W4.heap.size := by omega
    have n4 : w.heap.size + 1 + 1 + 1 + 1 < W4.heap.size := by omega
    have HZZ := hid (show ∀ k, Zs w zm k → ∃ cs t, (W4.alloc (.cells #[.int .i64 f2, .int .i64 d2, .int .i64 g2, .int .i64 tl2, .int .i64 th2, .int .i64 sl2, .int .i64 sh2, .slice AM om.length cm] 56)).heap[k]? = some (.cells cs t (0, 0)) ∧ t ≠ 56 ∧ t ≠ 26 from fun k hk => zs_obj hk A1.out A2.out A3.out A4.out AM'.out (ext_alloc1 _ _))
    go_wp2_with (at_builtin; refine Halt.mk ?_)
    unfold Halt
    refine wpList_append_more _ rfl rfl _ _ rfl (w.heap.size + 5) (Zs w zm) (.slice (some ⟨G, 0, none⟩) n vc) (ps.set i ⟨f, d, G1, tl, th, S1, S2, os⟩) n (by rfl) (HQ'.out.ext (ext_alloc1 _ _)) HQL.out (by simp; omega) (by omega) W4.heap.size (⟨f2, d2, g2, tl2, th2, sl2, sh2, om⟩ : Pt) AM cm (by rfl) (heap_alloc_new W4 _) (HOM.out.ext (E4.alloc _)) hcm HAM.out HZZ.out ?_
    intro A5 c5 w5 hpb hc5 hg5 hvB
    have G1' := hid (grown_blk (B := w.heap.size + 5) (by omega) (blk_ext A1.out (ext_alloc1 _ _)) hg5 (fun r hr => (hvB r hr).1))
    have G2' := hid (grown_blk (B := w.heap.size + 5) (by omega) (blk_ext A2.out (ext_alloc1 _ _)) hg5 (fun r hr => (hvB r hr).1))
    have G3' := hid (grown_blk (B := w.heap.size + 5) (by omega) (blk_ext A3.out (ext_alloc1 _ _)) hg5 (fun r hr => (hvB r hr).1))
    have G4' := hid (grown_blk (B := w.heap.size + 5) (by omega) (blk_ext A4.out (ext_alloc1 _ _)) hg5 (fun r hr => (hvB r hr).1))
    have DM5 := hid ((hg5.block zm (by simp; omega) (fun e => (hvB zm e.symm).2 (Or.inl rfl))).trans (blk_ext AM'.out (ext_alloc1 _ _)))
    have E5 : Ext w w5 := ext_of_grown (E4.alloc _) hg5 (fun q hq => by have := (hvB q hq).1; omega)
    have HPB := hid hpb
    clear hpb hg5 hvB A1 A2 A3 A4 AM' E4 HZZ HQ' p0 p1 p2 p3 y0 y1 y2 y3 y4 y5 y6 y7 y8 y9 y10 y11 y12 y13 y14 fp1 fp2 fp3 m0 m1 fm1 k0 k1 k2 n1 n2 n3 n4
    have m0 := blk_cell DM5.out 0
    have m1 := blk_cell DM5.out 1
    have fm1 := blk_fro DM5.out 1
    simp only [List.getElem?_toArray, List.getElem?_cons_zero, List.getElem?_cons_succ] at m0 m1
    go_wp2_with fail
    refine (rCheck_any m A5 (n + 1) c5 (ps.set i ⟨f, d, G1, tl, th, S1, S2, os⟩ ++ [(⟨f2, d2, g2, tl2, th2, sl2, sh2, om⟩ : Pt)]) (by rw [List.length_append, HQL.out]; rfl) _ (HPB.out _ (fun k o hk hne => (Below.heap_setCell _ _ _ k (fun e => hne (Or.inl e))).trans hk))).mono ?_
    rintro e w6 ⟨rfl, hE6⟩
    have X6 : Ext w w6 := (E5.set (by dsimp only; omega) _).trans hE6
    have F1 := hid (blk_ext ((Below.heap_setCell w5 ⟨zm, 1, none⟩ (.slice A5 (n + 1) c5) _ (by dsimp only; omega)).trans G1'.out) hE6)
    have F2 := hid (blk_ext ((Below.heap_setCell w5 ⟨zm, 1, none⟩ (.slice A5 (n + 1) c5) _ (by dsimp only; omega)).trans G2'.out) hE6)
    have F3 := hid (blk_ext ((Below.heap_setCell w5 ⟨zm, 1, none⟩ (.slice A5 (n + 1) c5) _ (by dsimp only; omega)).trans G3'.out) hE6)
    have F4 := hid (blk_ext ((Below.heap_setCell w5 ⟨zm, 1, none⟩ (.slice A5 (n + 1) c5) _ (by dsimp only; omega)).trans G4'.out) hE6)
    have FM := hid (blk_ext (heap_setCell_same w5 zm 1 _ _ (.slice A5 (n + 1) c5) DM5.out) hE6)
    have HKP := hid (show ∀ (k : Nat) (o : Obj), w5.heap[k]? = some o → ¬ Zs w zm k → w6.heap[k]? = some o from fun k o hk hne => blk_ext ((Below.heap_setCell w5 ⟨zm, 1, none⟩ (.slice A5 (n + 1) c5) k (fun e => hne (Or.inl e))).trans hk) hE6)
    clear hE6 E5 G1' G2' G3' G4' DM5 m0 m1 fm1
    obtain ⟨ce, hce⟩ : ∃ ce, checkE m (ps.set i ⟨f, d, G1, tl, th, S1, S2, os⟩ ++ [(⟨f2, d2, g2, tl2, th2, sl2, sh2, om⟩ : Pt)]) = ce := ⟨_, rfl⟩
    have HCE := hid hce
    rw [hce]
    clear hce
    have p0 := blk_cell F1.out 0
    have p1 := blk_cell F1.out 1
    have p2 := blk_cell F1.out 2
    have p3 := blk_cell F1.out 3
    have y0 := blk_cell F2.out 0
    have y1 := blk_cell F2.out 1
    have y2 := blk_cell F2.out 2
    have y3 := blk_cell F2.out 3
    have y4 := blk_cell F2.out 4
    have y5 := blk_cell F2.out 5
    have y6 := blk_cell F2.out 6
    have y7 := blk_cell F2.out 7
    have y8 := blk_cell F2.out 8
    have y9 := blk_cell F2.out 9
    have y10 := blk_cell F2.out 10
    have y11 := blk_cell F2.out 11
    have y12 := blk_cell F2.out 12
    have y13 := blk_cell F2.out 13
    have y14 := blk_cell F2.out 14
    simp only [List.getElem?_toArray, List.getElem?_cons_zero, List.getElem?_cons_succ] at p0 p1 p2 p3 y0 y1 y2 y3 y4 y5 y6 y7 y8 y9 y10 y11 y12 y13 y14
    have fp1 := blk_fro F1.out 1
    have fp2 := blk_fro F1.out 2
    have fp3 := blk_fro F1.out 3
    have m0 := blk_cell FM.out 0
    have m1 := blk_cell FM.out 1
    have fm1 := blk_fro FM.out 1
    have q0 := blk_cell F3.out 0
    have q1 := blk_cell F3.out 1
    have fq0 := blk_fro F3.out 0
    have fq1 := blk_fro F3.out 1
    have q2 := blk_cell F4.out 0
    have q3 := blk_cell F4.out 1
    have q4 := blk_cell F4.out 2
    have q5 := blk_cell F4.out 3
    have fq2 := blk_fro F4.out 0
    have fq3 := blk_fro F4.out 1
    have fq4 := blk_fro F4.out 2
    have fq5 := blk_fro F4.out 3
    simp only [List.getElem?_toArray, List.getElem?_cons_zero, List.getElem?_cons_succ, List.setIfInBounds_toArray, List.set_cons_zero, List.set_cons_succ] at m0 m1 q0 q1 q2 q3 q4 q5
    have k1 : zm < w6.heap.size := (Array.getElem?_eq_some_iff.1 FM.out).1
    have n1 : w.heap.size + 1 < w6.heap.size := by omega
    have n2 : w.heap.size + 1 + 1 < w6.heap.size := by omega
    have n3 : w.heap.size + 1 + 1 + 1 < w6.heap.size := by omega
    have n4 : w.heap.size + 1 + 1 + 1 + 1 < w6.heap.size := by omega
    have u1 : ¬ w.heap.size + 1 = zm := by omega
    have u2 : ¬ w.heap.size + 1 + 1 = zm := by omega
    have u3 : ¬ w.heap.size + 1 + 1 + 1 = zm := by omega
    have u4 : ¬ w.heap.size + 1 + 1 + 1 + 1 = zm := by omega
    obtain ⟨L1, hL1⟩ : ∃ x, (if yd < l then l - yd else 0) = x := ⟨_, rfl⟩
    obtain ⟨P1, hP1⟩ : ∃ x, (if 50 < pl - yp then pl - yp else 50) = x := ⟨_, rfl⟩
    obtain ⟨P2, hP2⟩ : ∃ x, (if 50 < ph - yp then ph - yp else 50) = x := ⟨_, rfl⟩
    have ⟨a1, a2, a3, a4, a5⟩ := ha
    have HLP := hid (show 0 ≤ L1 ∧ L1 ≤ l ∧ 50 ≤ P1 ∧ P1 ≤ P2 ∧ P2 ≤ ph by subst hL1 hP1 hP2; split <;> split <;> split <;> omega)
    have w4' : IntKind.i64.wrap (l - yd) = l - yd := IntWalk.i64_in _ (by omega)
    have w5' : IntKind.i64.wrap (pl - yp) = pl - yp := IntWalk.i64_in _ (by omega)
    have w6' : IntKind.i64.wrap (ph - yp) = ph - yp := IntWalk.i64_in _ (by omega)
    clear a1 a2 a3 a4 a5
    by_cases hc0 : ce = 0
    · have HVN := hid (checkE_zero (HCE.out.trans hc0))
      subst hc0
      clear HCE
      go_wp2_with fail
      clear hL1 hP1 hP2 w4' w5' w6'
      have HEF := hid (HEN.out.more (⟨f2, d2, g2, tl2, th2, sl2, sh2, om⟩ : Pt))
      have HLF := hid (show (ps.set i ⟨f, d, G1, tl, th, S1, S2, os⟩ ++ [(⟨f2, d2, g2, tl2, th2, sl2, sh2, om⟩ : Pt)]).length = n + 1 by rw [List.length_append, HQL.out]; rfl)
      have HPF := HPB
      have HPX := hid (pbox (q := w.heap.size + 1) L1 P1 P2 F1.out)
      have X8 : Ext w ((((w6).setCell ⟨w.heap.size + 1, 1, none⟩ (.int .i64 L1)).setCell ⟨w.heap.size + 1, 2, none⟩ (.int .i64 P1)).setCell ⟨w.heap.size + 1, 3, none⟩ (.int .i64 P2)) := ((X6.set (by dsimp only; omega) _).set (by dsimp only; omega) _).set (by dsimp only; omega) _
      have J3 := hid ((HPX.out.2 (w.heap.size + 1 + 1 + 1) (by omega)).trans F3.out)
      have J4 := hid ((HPX.out.2 (w.heap.size + 1 + 1 + 1 + 1) (by omega)).trans F4.out)
      have JM := hid ((HPX.out.2 zm (by omega)).trans FM.out)
      have JK := hid (fun k o hk hne => (HPX.out.2 k (fun e => hne (Or.inr (by omega)))).trans (HKP.out k o hk hne))
      have J1 := hid HPX.out.1
      clear HPX HKP F1 F2 F3 F4 FM p0 p1 p2 p3 y0 y1 y2 y3 y4 y5 y6 y7 y8 y9 y10 y11 y12 y13 y14 fp1 fp2 fp3 m0 m1 fm1 q0 q1 q2 q3 q4 q5 fq0 fq1 fq2 fq3 fq4 fq5 X6
      obtain ⟨W8, hW8⟩ : ∃ W8, (((w6).setCell ⟨w.heap.size + 1, 1, none⟩ (.int .i64 L1)).setCell ⟨w.heap.size + 1, 2, none⟩ (.int .i64 P1)).setCell ⟨w.heap.size + 1, 3, none⟩ (.int .i64 P2) = W8 := ⟨_, rfl⟩
      rw [hW8] at X8 J1 J3 J4 JM JK ⊢
      clear hW8
      have p0 := blk_cell J1.out 0
      have p1 := blk_cell J1.out 1
      have p2 := blk_cell J1.out 2
      have p3 := blk_cell J1.out 3
      have m0 := blk_cell JM.out 0
      have m1 := blk_cell JM.out 1
      have q0 := blk_cell J3.out 0
      have q1 := blk_cell J3.out 1
      have fq0 := blk_fro J3.out 0
      have fq1 := blk_fro J3.out 1
      have q2 := blk_cell J4.out 0
      have q3 := blk_cell J4.out 1
      have q4 := blk_cell J4.out 2
      have q5 := blk_cell J4.out 3
      have fq2 := blk_fro J4.out 0
      have fq3 := blk_fro J4.out 1
      have fq4 := blk_fro J4.out 2
      have fq5 := blk_fro J4.out 3
      simp only [List.getElem?_toArray, List.getElem?_cons_zero, List.getElem?_cons_succ, List.setIfInBounds_toArray, List.set_cons_zero, List.set_cons_succ] at m0 m1 q0 q1 q2 q3 q4 q5 p0 p1 p2 p3
      refine wp_region_held_drew (S := fun w' => w'.cell? ⟨w.heap.size + 1, 0, none⟩ = some (.int .i64 g) ∧ w'.cell? ⟨w.heap.size + 1, 1, none⟩ = some (.int .i64 L1) ∧ w'.cell? ⟨w.heap.size + 1, 2, none⟩ = some (.int .i64 P1) ∧ w'.cell? ⟨w.heap.size + 1, 3, none⟩ = some (.int .i64 P2) ∧ w'.cell? ⟨zm, 0, none⟩ = some (.int .i64 m) ∧ w'.cell? ⟨zm, 1, none⟩ = some (.slice A5 (n + 1) c5)) (by kernel_rfl) ?hS0 (fun hHeld => ?_)
      case hS0 => exact ⟨p0, p1, p2, p3, m0, m1⟩
      refine wpAnyH_take (i := 0) (oi := _) (v := ?v0vc) rfl (by kernel_rfl) (by kernel_rfl) (by kernel_rfl) (fun _ _ _ h => h) (Or.inl ⟨by rfl, ?y0vc⟩) (by assumption) ?r0vc
      case y0vc => (intro w' hSw; (try dsimp only at hSw); go_simp; (try with_reducible rfl))
      try simp only [Act.put, List.getElem_toArray, List.getElem_cons_zero, List.getElem_cons_succ, List.setIfInBounds_toArray, List.set_cons_zero, List.set_cons_succ]
      refine wpAnyH_take (i := 1) (oi := _) (v := ?v1vc) rfl (by kernel_rfl) (by kernel_rfl) (by kernel_rfl) (fun _ _ _ h => h) (Or.inl ⟨by rfl, ?y1vc⟩) (by assumption) ?r1vc
      case y1vc => (intro w' hSw; (try dsimp only at hSw); go_simp; (try with_reducible rfl))
      try simp only [Act.put, List.getElem_toArray, List.getElem_cons_zero, List.getElem_cons_succ, List.setIfInBounds_toArray, List.set_cons_zero, List.set_cons_succ]
      clear hHeld
      refine wpAnyH_ready (rs := [2]) (by kernel_rfl) (by simp) ?_
      refine AllReadyH.cons (o := _) rfl (fun K hK => ?_) AllReadyH.nil
      go_simp
      refine hK.out _ _ ⟨by go_simp, by go_simp, by go_simp, by go_simp, by go_simp, by go_simp⟩ (fun hHeld => ?_)
      clear hK K
      try simp only [Act.put, List.getElem_toArray, List.getElem_cons_zero, List.getElem_cons_succ, List.setIfInBounds_toArray, List.set_cons_zero, List.set_cons_succ]
      clear hHeld
      refine wpAnyH_ready (rs := [3]) (by kernel_rfl) (by simp) ?_
      refine AllReadyH.cons (o := _) rfl (fun K hK => ?_) AllReadyH.nil
      go_simp
      refine hK.out _ _ ⟨by go_simp, by go_simp, by go_simp, by go_simp, by go_simp, by go_simp⟩ (fun hHeld => ?_)
      clear hK K
      try simp only [Act.put, List.getElem_toArray, List.getElem_cons_zero, List.getElem_cons_succ, List.setIfInBounds_toArray, List.set_cons_zero, List.set_cons_succ]
      refine wpAnyH_done (by kernel_rfl) ?_ _
      clear hHeld
      go_wp2
      refine bodyPost_ret (v := .tuple #[.agg #[.int .i64 m, .slice A5 (n + 1) c5], .agg #[.int .i64 g, .int .i64 L1, .int .i64 P1, .int .i64 P2]]) ?rsvc rfl ⟨_, A5, n + 1, c5, L1, P1, P2, rfl, HLF.out, HPF.out _ (fun k o hk hne => (six_keep (fun e => hne (Or.inr (by omega))) (fun e => hne (Or.inr (by omega)))).trans (JK.out k o hk hne)), HVN.out, party_ease hpa HLP.out, HEF.out, HLP.out.2.1, HLP.out.2.2.2.2, by (repeat' (first | with_reducible assumption | with_reducible exact Ext.refl _ | with_reducible refine Ext.alloc ?_ _ | with_reducible refine Ext.set ?_ ?_ _ | with_reducible refine Ext.drew ?_ | with_reducible refine Ext.drewN ?_ _ | with_reducible refine Ext.trans ?_ (by assumption) | (dsimp only; omega)))⟩
      case rsvc => simp [results, Try.results36, go_sem, q0, q1, q2, q3, q4, q5]
    · have hneb : (ce != 0) = true := by simpa using hc0
      have hc5' : n ≤ c5 := by omega
      clear HCE
      go_wp2_with fail
      clear hL1 hP1 hP2 w4' w5' w6'
      have HEF := HEN
      have HLF := HQL
      have HPF := hid (show PathsBut w5 (Zs w zm) A5 (ps.set i ⟨f, d, G1, tl, th, S1, S2, os⟩) from fun W hW => (HPB.out W hW).front)
      have HVN := HV
      have X7 : Ext w (w6.setCell ⟨zm, 1, none⟩ (.slice A5 n c5)) := X6.set (by dsimp only; omega) _
      have H1 := hid ((Below.heap_setCell w6 ⟨zm, 1, none⟩ (.slice A5 n c5) _ (by dsimp only; omega)).trans F1.out)
      have H3 := hid ((Below.heap_setCell w6 ⟨zm, 1, none⟩ (.slice A5 n c5) _ (by dsimp only; omega)).trans F3.out)
      have H4 := hid ((Below.heap_setCell w6 ⟨zm, 1, none⟩ (.slice A5 n c5) _ (by dsimp only; omega)).trans F4.out)
      have HM := hid (heap_setCell_same w6 zm 1 _ _ (.slice A5 n c5) FM.out)
      have HK7 := hid (show ∀ (k : Nat) (o : Obj), w5.heap[k]? = some o → ¬ Zs w zm k → (w6.setCell ⟨zm, 1, none⟩ (.slice A5 n c5)).heap[k]? = some o from fun k o hk hne => (Below.heap_setCell w6 ⟨zm, 1, none⟩ (.slice A5 n c5) k (fun e => hne (Or.inl e))).trans (HKP.out k o hk hne))
      have HPX := hid (pbox (q := w.heap.size + 1) L1 P1 P2 H1.out)
      have X8 : Ext w ((((w6.setCell ⟨zm, 1, none⟩ (.slice A5 n c5)).setCell ⟨w.heap.size + 1, 1, none⟩ (.int .i64 L1)).setCell ⟨w.heap.size + 1, 2, none⟩ (.int .i64 P1)).setCell ⟨w.heap.size + 1, 3, none⟩ (.int .i64 P2)) := ((X7.set (by dsimp only; omega) _).set (by dsimp only; omega) _).set (by dsimp only; omega) _
      have J3 := hid ((HPX.out.2 (w.heap.size + 1 + 1 + 1) (by omega)).trans H3.out)
      have J4 := hid ((HPX.out.2 (w.heap.size + 1 + 1 + 1 + 1) (by omega)).trans H4.out)
      have JM := hid ((HPX.out.2 zm (by omega)).trans HM.out)
      have JK := hid (fun k o hk hne => (HPX.out.2 k (fun e => hne (Or.inr (by omega)))).trans (HK7.out k o hk hne))
      have J1 := hid HPX.out.1
      clear HPX HKP F1 F2 F3 F4 FM p0 p1 p2 p3 y0 y1 y2 y3 y4 y5 y6 y7 y8 y9 y10 y11 y12 y13 y14 fp1 fp2 fp3 m0 m1 fm1 q0 q1 q2 q3 q4 q5 fq0 fq1 fq2 fq3 fq4 fq5 X6
      obtain ⟨W8, hW8⟩ : ∃ W8, (((w6.setCell ⟨zm, 1, none⟩ (.slice A5 n c5)).setCell ⟨w.heap.size + 1, 1, none⟩ (.int .i64 L1)).setCell ⟨w.heap.size + 1, 2, none⟩ (.int .i64 P1)).setCell ⟨w.heap.size + 1, 3, none⟩ (.int .i64 P2) = W8 := ⟨_, rfl⟩
      rw [hW8] at X8 J1 J3 J4 JM JK ⊢
      clear hW8
      have p0 := blk_cell J1.out 0
      have p1 := blk_cell J1.out 1
      have p2 := blk_cell J1.out 2
      have p3 := blk_cell J1.out 3
      have m0 := blk_cell JM.out 0
      have m1 := blk_cell JM.out 1
      have q0 := blk_cell J3.out 0
      have q1 := blk_cell J3.out 1
      have fq0 := blk_fro J3.out 0
      have fq1 := blk_fro J3.out 1
      have q2 := blk_cell J4.out 0
      have q3 := blk_cell J4.out 1
      have q4 := blk_cell J4.out 2
      have q5 := blk_cell J4.out 3
      have fq2 := blk_fro J4.out 0
      have fq3 := blk_fro J4.out 1
      have fq4 := blk_fro J4.out 2
      have fq5 := blk_fro J4.out 3
      simp only [List.getElem?_toArray, List.getElem?_cons_zero, List.getElem?_cons_succ, List.setIfInBounds_toArray, List.set_cons_zero, List.set_cons_succ] at m0 m1 q0 q1 q2 q3 q4 q5 p0 p1 p2 p3
      refine wp_region_held_drew (S := fun w' => w'.cell? ⟨w.heap.size + 1, 0, none⟩ = some (.int .i64 g) ∧ w'.cell? ⟨w.heap.size + 1, 1, none⟩ = some (.int .i64 L1) ∧ w'.cell? ⟨w.heap.size + 1, 2, none⟩ = some (.int .i64 P1) ∧ w'.cell? ⟨w.heap.size + 1, 3, none⟩ = some (.int .i64 P2) ∧ w'.cell? ⟨zm, 0, none⟩ = some (.int .i64 m) ∧ w'.cell? ⟨zm, 1, none⟩ = some (.slice A5 (n) c5)) (by kernel_rfl) ?hS0 (fun hHeld => ?_)
      case hS0 => exact ⟨p0, p1, p2, p3, m0, m1⟩
      refine wpAnyH_take (i := 0) (oi := _) (v := ?v0wc) rfl (by kernel_rfl) (by kernel_rfl) (by kernel_rfl) (fun _ _ _ h => h) (Or.inl ⟨by rfl, ?y0wc⟩) (by assumption) ?r0wc
      case y0wc => (intro w' hSw; (try dsimp only at hSw); go_simp; (try with_reducible rfl))
      try simp only [Act.put, List.getElem_toArray, List.getElem_cons_zero, List.getElem_cons_succ, List.setIfInBounds_toArray, List.set_cons_zero, List.set_cons_succ]
      refine wpAnyH_take (i := 1) (oi := _) (v := ?v1wc) rfl (by kernel_rfl) (by kernel_rfl) (by kernel_rfl) (fun _ _ _ h => h) (Or.inl ⟨by rfl, ?y1wc⟩) (by assumption) ?r1wc
      case y1wc => (intro w' hSw; (try dsimp only at hSw); go_simp; (try with_reducible rfl))
      try simp only [Act.put, List.getElem_toArray, List.getElem_cons_zero, List.getElem_cons_succ, List.setIfInBounds_toArray, List.set_cons_zero, List.set_cons_succ]
      clear hHeld
      refine wpAnyH_ready (rs := [2]) (by kernel_rfl) (by simp) ?_
      refine AllReadyH.cons (o := _) rfl (fun K hK => ?_) AllReadyH.nil
      go_simp
      refine hK.out _ _ ⟨by go_simp, by go_simp, by go_simp, by go_simp, by go_simp, by go_simp⟩ (fun hHeld => ?_)
      clear hK K
      try simp only [Act.put, List.getElem_toArray, List.getElem_cons_zero, List.getElem_cons_succ, List.setIfInBounds_toArray, List.set_cons_zero, List.set_cons_succ]
      clear hHeld
      refine wpAnyH_ready (rs := [3]) (by kernel_rfl) (by simp) ?_
      refine AllReadyH.cons (o := _) rfl (fun K hK => ?_) AllReadyH.nil
      go_simp
      refine hK.out _ _ ⟨by go_simp, by go_simp, by go_simp, by go_simp, by go_simp, by go_simp⟩ (fun hHeld => ?_)
      clear hK K
      try simp only [Act.put, List.getElem_toArray, List.getElem_cons_zero, List.getElem_cons_succ, List.setIfInBounds_toArray, List.set_cons_zero, List.set_cons_succ]
      refine wpAnyH_done (by kernel_rfl) ?_ _
      clear hHeld
      go_wp2
      refine bodyPost_ret (v := .tuple #[.agg #[.int .i64 m, .slice A5 (n) c5], .agg #[.int .i64 g, .int .i64 L1, .int .i64 P1, .int .i64 P2]]) ?rswc rfl ⟨_, A5, n, c5, L1, P1, P2, rfl, HLF.out, HPF.out _ (fun k o hk hne => (six_keep (fun e => hne (Or.inr (by omega))) (fun e => hne (Or.inr (by omega)))).trans (JK.out k o hk hne)), HVN.out, party_ease hpa HLP.out, HEF.out, HLP.out.2.1, HLP.out.2.2.2.2, by (repeat' (first | with_reducible assumption | with_reducible exact Ext.refl _ | with_reducible refine Ext.alloc ?_ _ | with_reducible refine Ext.set ?_ ?_ _ | with_reducible refine Ext.drew ?_ | with_reducible refine Ext.drewN ?_ _ | with_reducible refine Ext.trans ?_ (by assumption) | (dsimp only; omega)))⟩
      case rswc => simp [results, Try.results36, go_sem, q0, q1, q2, q3, q4, q5]
  have hyo : 0 ≤ yo ∧ yo ≤ 2880 := by
    unfold minuteB at hmb
    simp only [Bool.and_eq_true, decide_eq_true_eq] at hmb
    exact hmb
  obtain ⟨hyo0, hyo1⟩ := hyo
  have w7' : IntKind.i64.wrap (yo + 60) = yo + 60 := IntWalk.i64_in _ (by omega)
  obtain ⟨O2, hO2⟩ : ∃ x, (if yo + 60 < 2880 then yo + 60 else 2880) = x := ⟨_, rfl⟩
  have HO2 := hid (show yo ≤ O2 ∧ O2 ≤ 2880 by subst hO2; split <;> omega)
  have D1 := hid (blk_ext C1.out e3)
  have D2 := hid (blk_ext C2.out e3)
  have D3 := hid (blk_ext C3.out e3)
  have D4 := hid (blk_ext C4.out e3)
  have DM := hid (blk_ext CM.out e3)
  have EX := E2.trans e3
  have HE3 := hid e3
  have HS3 := hid (HSO.out.keep (w' := w2.alloc (.cells #[.int .i64 f, .int .i64 d, .int .i64 G1, .int .i64 tl, .int .i64 th, .int .i64 S1, .int .i64 S2, .slice AO os.length co] 56)) fun q cs hq => blk_ext hq e3)
  have HSB := hid (show ((w2.alloc (.cells #[.int .i64 f, .int .i64 d, .int .i64 G1, .int .i64 tl, .int .i64 th, .int .i64 S1, .int .i64 S2, .slice AO os.length co] 56)).alloc (.cells #[.int .i64 yo, .int .i64 O2] 26)).heap[w2.heap.size + 1]? = some (.cells #[.int .i64 yo, .int .i64 O2] 26 (0, 0)) by
    have h := heap_alloc_new (w2.alloc (.cells #[.int .i64 f, .int .i64 d, .int .i64 G1, .int .i64 tl, .int .i64 th, .int .i64 S1, .int .i64 S2, .slice AO os.length co] 56)) (.cells #[.int .i64 yo, .int .i64 O2] 26)
    rw [show (w2.alloc (.cells #[.int .i64 f, .int .i64 d, .int .i64 G1, .int .i64 tl, .int .i64 th, .int .i64 S1, .int .i64 S2, .slice AO os.length co] 56)).heap.size = w2.heap.size + 1 by simp] at h
    exact h)
  clear e3 E2 HSO
  go_wp2_with (at_builtin; refine Halt.mk ?_)
  unfold Halt
  refine wpList_append_span _ rfl rfl _ _ rfl (w.heap.size + 5) AO co os (by rfl) (HS3.out.keep fun q cs hq => blk_ext hq (ext_alloc1 _ _)) (w2.heap.size + 1) yo O2 (by rfl) HSB.out (by omega) (by simp; omega) ?_
  intro A6 c6 w5 hso6 hg6
  have V1 := (hg6.block (w.heap.size + 1) (by simp; omega) (fun e => by have := (HAO.out _ e.symm).1; omega)).trans (blk_ext D1.out (ext_alloc1 _ _))
  have V2 := (hg6.block (w.heap.size + 1 + 1) (by simp; omega) (fun e => by have := (HAO.out _ e.symm).1; omega)).trans (blk_ext D2.out (ext_alloc1 _ _))
  have V3 := (hg6.block (w.heap.size + 1 + 1 + 1) (by simp; omega) (fun e => by have := (HAO.out _ e.symm).1; omega)).trans (blk_ext D3.out (ext_alloc1 _ _))
  have V4 := (hg6.block (w.heap.size + 1 + 1 + 1 + 1) (by simp; omega) (fun e => by have := (HAO.out _ e.symm).1; omega)).trans (blk_ext D4.out (ext_alloc1 _ _))
  have VM := (hg6.block zm (by simp; omega) (fun e => by have := (HAO.out _ e.symm).2; omega)).trans (blk_ext DM.out (ext_alloc1 _ _))
  have VX := (hg6.block w2.heap.size (by simp; omega) (fun e => by have := (HAO.out _ e.symm).2; omega)).trans (blk_ext (heap_alloc_new w2 (.cells #[.int .i64 f, .int .i64 d, .int .i64 G1, .int .i64 tl, .int .i64 th, .int .i64 S1, .int .i64 S2, .slice AO os.length co] 56)) (ext_alloc1 _ _))
  have E5 : Ext w w5 := ext_of_grown (EX.alloc _) hg6 (fun q hq => by have := (HAO.out q hq).1; omega)
  have hkp : ∀ (k : Nat) (o : Obj), w2.heap[k]? = some o → Spot AO ≠ some k → (w5.setCell ⟨w2.heap.size, 7, none⟩ (.slice A6 (os.length + 1) c6)).heap[k]? = some o := fun k o hk hne => by
    have hlt := (Array.getElem?_eq_some_iff.1 hk).1
    exact (Below.heap_setCell w5 ⟨w2.heap.size, 7, none⟩ _ k (by dsimp only; omega)).trans ((hg6.block k (by simp; omega) (fun e => hne e.symm)).trans (blk_ext (blk_ext hk HE3.out) (ext_alloc1 _ _)))
  have EY := E5.set (p := ⟨w2.heap.size, 7, none⟩) (by dsimp only; omega) (.slice A6 (os.length + 1) c6)
  have U1 := hid ((Below.heap_setCell w5 ⟨w2.heap.size, 7, none⟩ (.slice A6 (os.length + 1) c6) (w.heap.size + 1) (by dsimp only; omega)).trans V1)
  have U2 := hid ((Below.heap_setCell w5 ⟨w2.heap.size, 7, none⟩ (.slice A6 (os.length + 1) c6) (w.heap.size + 1 + 1) (by dsimp only; omega)).trans V2)
  have U3 := hid ((Below.heap_setCell w5 ⟨w2.heap.size, 7, none⟩ (.slice A6 (os.length + 1) c6) (w.heap.size + 1 + 1 + 1) (by dsimp only; omega)).trans V3)
  have U4 := hid ((Below.heap_setCell w5 ⟨w2.heap.size, 7, none⟩ (.slice A6 (os.length + 1) c6) (w.heap.size + 1 + 1 + 1 + 1) (by dsimp only; omega)).trans V4)
  have UM := hid ((Below.heap_setCell w5 ⟨w2.heap.size, 7, none⟩ (.slice A6 (os.length + 1) c6) zm (by dsimp only; omega)).trans VM)
  have HS5 := hid (hso6.set VX 7 (.slice A6 (os.length + 1) c6))
  have HRX := hid (HRX2.out.keep hkp HAG.out)
  have HTH := hid (there_of (n := 8) (hkp _ _ HGC.out HAG.out) (o := i * 8) (fun t ht => HRX.out.size (by omega) ht))
  have HV1 := hid V1
  have HV2 := hid V2
  have HVM := hid VM
  have HVX := hid VX
  clear V1 V2 V3 V4 VM VX hkp hso6 hg6 E5 EX D1 D2 D3 D4 DM HS3 HSB HE3 HPT HAO HGC HAG HRX2 CM C1 C2 C3 C4 hG1 hS1 hS2 hO2 w1' w2' w3' w7' p0 p1 p2 p3 y0 y1 y2 y3 y4 y5 y6 y7 y8 y9 y10 y11 y12 y13 y14 fp1 fp2 fp3 m0 m1 fm1 n0 n1 n2 n3 n4 r0 r1 r2 r3 r4 r5 r6 r7
  have EX := EY
  have D1 := U1
  have D2 := U2
  have D3 := U3
  have D4 := U4
  have DM := UM
  have p0 := blk_cell HV1.out 0
  have p1 := blk_cell HV1.out 1
  have p2 := blk_cell HV1.out 2
  have p3 := blk_cell HV1.out 3
  have y0 := blk_cell HV2.out 0
  have y1 := blk_cell HV2.out 1
  have y2 := blk_cell HV2.out 2
  have y3 := blk_cell HV2.out 3
  have y4 := blk_cell HV2.out 4
  have y5 := blk_cell HV2.out 5
  have y6 := blk_cell HV2.out 6
  have y7 := blk_cell HV2.out 7
  have y8 := blk_cell HV2.out 8
  have y9 := blk_cell HV2.out 9
  have y10 := blk_cell HV2.out 10
  have y11 := blk_cell HV2.out 11
  have y12 := blk_cell HV2.out 12
  have y13 := blk_cell HV2.out 13
  have y14 := blk_cell HV2.out 14
  simp only [List.getElem?_toArray, List.getElem?_cons_zero, List.getElem?_cons_succ] at p0 p1 p2 p3 y0 y1 y2 y3 y4 y5 y6 y7 y8 y9 y10 y11 y12 y13 y14
  have fp1 := blk_fro HV1.out 1
  have fp2 := blk_fro HV1.out 2
  have fp3 := blk_fro HV1.out 3
  have x0 := blk_cell HVX.out 0
  have x1 := blk_cell HVX.out 1
  have x2 := blk_cell HVX.out 2
  have x3 := blk_cell HVX.out 3
  have x4 := blk_cell HVX.out 4
  have x5 := blk_cell HVX.out 5
  have x6 := blk_cell HVX.out 6
  have x7 := blk_cell HVX.out 7
  have fx7 := blk_fro HVX.out 7
  simp only [List.getElem?_toArray, List.getElem?_cons_zero, List.getElem?_cons_succ] at x0 x1 x2 x3 x4 x5 x6 x7
  have m0 := blk_cell HVM.out 0
  have m1 := blk_cell HVM.out 1
  simp only [List.getElem?_toArray, List.getElem?_cons_zero, List.getElem?_cons_succ] at m0 m1
  have hx5 : w2.heap.size < w5.heap.size := (Array.getElem?_eq_some_iff.1 HVX.out).1
  have t1 : ¬ zm = w2.heap.size := by omega
  have t2 : ¬ w.heap.size + 1 + 1 = w2.heap.size := by omega
  clear EY U1 U2 U3 U4 UM
  go_wp2_with ((with_reducible refine st_guard ?_); refine Halt.mk ?_)
  unfold Halt
  refine wpList_store_mid rfl 56 _ _ rfl G (i * 8) #[.int .i64 f, .int .i64 d, .int .i64 G1, .int .i64 tl, .int .i64 th, .int .i64 S1, .int .i64 S2, .slice A6 (os.length + 1) c6] (by rfl) (by rfl) HTH.out (by kernel_rfl) (all_oneCell_toArray (by intro u hu; simp only [List.mem_cons, List.not_mem_nil, or_false] at hu; rcases hu with rfl | rfl | rfl | rfl | rfl | rfl | rfl | rfl <;> rfl)) ?_
  have HQ := hid (HRX.out.store (q := ⟨f, d, G1, tl, th, S1, S2, os ++ [(yo, O2)]⟩) (by omega) HN.out HS5.out)
  have E4 := EX.setCells G (by omega) [.int .i64 f, .int .i64 d, .int .i64 G1, .int .i64 tl, .int .i64 th, .int .i64 S1, .int .i64 S2, .slice A6 (os.length + 1) c6] (i * 8)
  have A1 := hid ((setCells_other G [.int .i64 f, .int .i64 d, .int .i64 G1, .int .i64 tl, .int .i64 th, .int .i64 S1, .int .i64 S2, .slice A6 (os.length + 1) c6] (i * 8) _ (w.heap.size + 1) (by omega)).trans D1.out)
  have A2 := hid ((setCells_other G [.int .i64 f, .int .i64 d, .int .i64 G1, .int .i64 tl, .int .i64 th, .int .i64 S1, .int .i64 S2, .slice A6 (os.length + 1) c6] (i * 8) _ (w.heap.size + 1 + 1) (by omega)).trans D2.out)
  have A3 := hid ((setCells_other G [.int .i64 f, .int .i64 d, .int .i64 G1, .int .i64 tl, .int .i64 th, .int .i64 S1, .int .i64 S2, .slice A6 (os.length + 1) c6] (i * 8) _ (w.heap.size + 1 + 1 + 1) (by omega)).trans D3.out)
  have A4 := hid ((setCells_other G [.int .i64 f, .int .i64 d, .int .i64 G1, .int .i64 tl, .int .i64 th, .int .i64 S1, .int .i64 S2, .slice A6 (os.length + 1) c6] (i * 8) _ (w.heap.size + 1 + 1 + 1 + 1) (by omega)).trans D4.out)
  have AM' := hid ((setCells_other G [.int .i64 f, .int .i64 d, .int .i64 G1, .int .i64 tl, .int .i64 th, .int .i64 S1, .int .i64 S2, .slice A6 (os.length + 1) c6] (i * 8) _ zm (by omega)).trans DM.out)
  (obtain ⟨W4, hW4⟩ : ∃ W4, World.setCells (w5.setCell ⟨w2.heap.size, 7, none⟩ (.slice A6 (os.length + 1) c6)) G (i * 8) [.int .i64 f, .int .i64 d, .int .i64 G1, .int .i64 tl, .int .i64 th, .int .i64 S1, .int .i64 S2, .slice A6 (os.length + 1) c6] = W4 := ⟨_, rfl⟩)
  (rw [hW4] at E4 A1 A2 A3 A4 AM' ⊢)
  (have HQ' := hid (show RowQ W4 (w.heap.size + 5) (.slice (some ⟨G, 0, none⟩) n vc) (ps.set i ⟨f, d, G1, tl, th, S1, S2, os ++ [(yo, O2)]⟩) n by (have h := HQ.out; simp only [pcellsL, List.length_append, List.length_cons, List.length_nil, Nat.zero_add] at h; rw [hW4] at h; exact h)))
  clear HQ hW4 HTH HRX EX D1 D2 D3 D4 DM
  clear HS5 HV1 HV2 HVM HVX p0 p1 p2 p3 y0 y1 y2 y3 y4 y5 y6 y7 y8 y9 y10 y11 y12 y13 y14 fp1 fp2 fp3 m0 m1 x0 x1 x2 x3 x4 x5 x6 x7 fx7 t1 t2 hx5
  have HQL := hid (show (ps.set i ⟨f, d, G1, tl, th, S1, S2, os ++ [(yo, O2)]⟩).length = n by rw [List.length_set]; exact HN.out)
  have HV := hid (vNet_set hv i (q := ⟨f, d, G1, tl, th, S1, S2, os ++ [(yo, O2)]⟩) (vPath_ease HVP.out HG1.out ⟨by rw [List.length_append]; simp; omega, by rw [List.all_append, ok_opens2 HVP.out]; have := HO2.out; simp [openB, spanB]; omega⟩))
  have HEN := hid (EasyNet.set (ps := ps) (i := i) (by have := HN.out; omega) (q := ⟨f, d, G1, tl, th, S1, S2, os ++ [(yo, O2)]⟩) (by rw [HPQ.out]; exact ⟨rfl, rfl, HG1.out.2.1, rfl, rfl, HG1.out.2.2.2.1, HG1.out.2.2.2.2.2, fun _ _ => enter_more _ _ _ _⟩))
  have p0 := blk_cell A1.out 0
  have p1 := blk_cell A1.out 1
  have p2 := blk_cell A1.out 2
  have p3 := blk_cell A1.out 3
  have y0 := blk_cell A2.out 0
  have y1 := blk_cell A2.out 1
  have y2 := blk_cell A2.out 2
  have y3 := blk_cell A2.out 3
  have y4 := blk_cell A2.out 4
  have y5 := blk_cell A2.out 5
  have y6 := blk_cell A2.out 6
  have y7 := blk_cell A2.out 7
  have y8 := blk_cell A2.out 8
  have y9 := blk_cell A2.out 9
  have y10 := blk_cell A2.out 10
  have y11 := blk_cell A2.out 11
  have y12 := blk_cell A2.out 12
  have y13 := blk_cell A2.out 13
  have y14 := blk_cell A2.out 14
  simp only [List.getElem?_toArray, List.getElem?_cons_zero, List.getElem?_cons_succ] at p0 p1 p2 p3 y0 y1 y2 y3 y4 y5 y6 y7 y8 y9 y10 y11 y12 y13 y14
  have fp1 := blk_fro A1.out 1
  have fp2 := blk_fro A1.out 2
  have fp3 := blk_fro A1.out 3
  have m0 := blk_cell AM'.out 0
  have m1 := blk_cell AM'.out 1
  have fm1 := blk_fro AM'.out 1
  simp only [List.getElem?_toArray, List.getElem?_cons_zero, List.getElem?_cons_succ] at m0 m1
  have k0 := E4.size
  have k1 : zm < W4.heap.size := (Array.getElem?_eq_some_iff.1 AM'.out).1
  have k2 : w.heap.size + 5 ≤ W4.heap.size := by omega
  have n1 : w.heap.size + 1 < W4.heap.size := by omega
  have n2 : w.heap.size + 1 + 1 < W4.heap.size := by omega
  have n3 : w.heap.size + 1 + 1 + 1 < W4.heap.size := by omega
  have n4 : w.heap.size + 1 + 1 + 1 + 1 < W4.heap.size := by omega
  have HZZ := hid (show ∀ k, Zs w zm k → ∃ cs t, (W4.alloc (.cells #[.int .i64 f2, .int .i64 d2, .int .i64 g2, .int .i64 tl2, .int .i64 th2, .int .i64 sl2, .int .i64 sh2, .slice AM om.length cm] 56)).heap[k]? = some (.cells cs t (0, 0)) ∧ t ≠ 56 ∧ t ≠ 26 from fun k hk => zs_obj hk A1.out A2.out A3.out A4.out AM'.out (ext_alloc1 _ _))
  go_wp2_with (at_builtin; refine Halt.mk ?_)
  unfold Halt
  refine wpList_append_more _ rfl rfl _ _ rfl (w.heap.size + 5) (Zs w zm) (.slice (some ⟨G, 0, none⟩) n vc) (ps.set i ⟨f, d, G1, tl, th, S1, S2, os ++ [(yo, O2)]⟩) n (by rfl) (HQ'.out.ext (ext_alloc1 _ _)) HQL.out (by simp; omega) (by omega) W4.heap.size (⟨f2, d2, g2, tl2, th2, sl2, sh2, om⟩ : Pt) AM cm (by rfl) (heap_alloc_new W4 _) (HOM.out.ext (E4.alloc _)) hcm HAM.out HZZ.out ?_
  intro A5 c5 w5 hpb hc5 hg5 hvB
  have G1' := hid (grown_blk (B := w.heap.size + 5) (by omega) (blk_ext A1.out (ext_alloc1 _ _)) hg5 (fun r hr => (hvB r hr).1))
  have G2' := hid (grown_blk (B := w.heap.size + 5) (by omega) (blk_ext A2.out (ext_alloc1 _ _)) hg5 (fun r hr => (hvB r hr).1))
  have G3' := hid (grown_blk (B := w.heap.size + 5) (by omega) (blk_ext A3.out (ext_alloc1 _ _)) hg5 (fun r hr => (hvB r hr).1))
  have G4' := hid (grown_blk (B := w.heap.size + 5) (by omega) (blk_ext A4.out (ext_alloc1 _ _)) hg5 (fun r hr => (hvB r hr).1))
  have DM5 := hid ((hg5.block zm (by simp; omega) (fun e => (hvB zm e.symm).2 (Or.inl rfl))).trans (blk_ext AM'.out (ext_alloc1 _ _)))
  have E5 : Ext w w5 := ext_of_grown (E4.alloc _) hg5 (fun q hq => by have := (hvB q hq).1; omega)
  have HPB := hid hpb
  clear hpb hg5 hvB A1 A2 A3 A4 AM' E4 HZZ HQ' p0 p1 p2 p3 y0 y1 y2 y3 y4 y5 y6 y7 y8 y9 y10 y11 y12 y13 y14 fp1 fp2 fp3 m0 m1 fm1 k0 k1 k2 n1 n2 n3 n4
  have m0 := blk_cell DM5.out 0
  have m1 := blk_cell DM5.out 1
  have fm1 := blk_fro DM5.out 1
  simp only [List.getElem?_toArray, List.getElem?_cons_zero, List.getElem?_cons_succ] at m0 m1
  go_wp2_with fail
  refine (rCheck_any m A5 (n + 1) c5 (ps.set i ⟨f, d, G1, tl, th, S1, S2, os ++ [(yo, O2)]⟩ ++ [(⟨f2, d2, g2, tl2, th2, sl2, sh2, om⟩ : Pt)]) (by rw [List.length_append, HQL.out]; rfl) _ (HPB.out _ (fun k o hk hne => (Below.heap_setCell _ _ _ k (fun e => hne (Or.inl e))).trans hk))).mono ?_
  rintro e w6 ⟨rfl, hE6⟩
  have X6 : Ext w w6 := (E5.set (by dsimp only; omega) _).trans hE6
  have F1 := hid (blk_ext ((Below.heap_setCell w5 ⟨zm, 1, none⟩ (.slice A5 (n + 1) c5) _ (by dsimp only; omega)).trans G1'.out) hE6)
  have F2 := hid (blk_ext ((Below.heap_setCell w5 ⟨zm, 1, none⟩ (.slice A5 (n + 1) c5) _ (by dsimp only; omega)).trans G2'.out) hE6)
  have F3 := hid (blk_ext ((Below.heap_setCell w5 ⟨zm, 1, none⟩ (.slice A5 (n + 1) c5) _ (by dsimp only; omega)).trans G3'.out) hE6)
  have F4 := hid (blk_ext ((Below.heap_setCell w5 ⟨zm, 1, none⟩ (.slice A5 (n + 1) c5) _ (by dsimp only; omega)).trans G4'.out) hE6)
  have FM := hid (blk_ext (heap_setCell_same w5 zm 1 _ _ (.slice A5 (n + 1) c5) DM5.out) hE6)
  have HKP := hid (show ∀ (k : Nat) (o : Obj), w5.heap[k]? = some o → ¬ Zs w zm k → w6.heap[k]? = some o from fun k o hk hne => blk_ext ((Below.heap_setCell w5 ⟨zm, 1, none⟩ (.slice A5 (n + 1) c5) k (fun e => hne (Or.inl e))).trans hk) hE6)
  clear hE6 E5 G1' G2' G3' G4' DM5 m0 m1 fm1
  obtain ⟨ce, hce⟩ : ∃ ce, checkE m (ps.set i ⟨f, d, G1, tl, th, S1, S2, os ++ [(yo, O2)]⟩ ++ [(⟨f2, d2, g2, tl2, th2, sl2, sh2, om⟩ : Pt)]) = ce := ⟨_, rfl⟩
  have HCE := hid hce
  rw [hce]
  clear hce
  have p0 := blk_cell F1.out 0
  have p1 := blk_cell F1.out 1
  have p2 := blk_cell F1.out 2
  have p3 := blk_cell F1.out 3
  have y0 := blk_cell F2.out 0
  have y1 := blk_cell F2.out 1
  have y2 := blk_cell F2.out 2
  have y3 := blk_cell F2.out 3
  have y4 := blk_cell F2.out 4
  have y5 := blk_cell F2.out 5
  have y6 := blk_cell F2.out 6
  have y7 := blk_cell F2.out 7
  have y8 := blk_cell F2.out 8
  have y9 := blk_cell F2.out 9
  have y10 := blk_cell F2.out 10
  have y11 := blk_cell F2.out 11
  have y12 := blk_cell F2.out 12
  have y13 := blk_cell F2.out 13
  have y14 := blk_cell F2.out 14
  simp only [List.getElem?_toArray, List.getElem?_cons_zero, List.getElem?_cons_succ] at p0 p1 p2 p3 y0 y1 y2 y3 y4 y5 y6 y7 y8 y9 y10 y11 y12 y13 y14
  have fp1 := blk_fro F1.out 1
  have fp2 := blk_fro F1.out 2
  have fp3 := blk_fro F1.out 3
  have m0 := blk_cell FM.out 0
  have m1 := blk_cell FM.out 1
  have fm1 := blk_fro FM.out 1
  have q0 := blk_cell F3.out 0
  have q1 := blk_cell F3.out 1
  have fq0 := blk_fro F3.out 0
  have fq1 := blk_fro F3.out 1
  have q2 := blk_cell F4.out 0
  have q3 := blk_cell F4.out 1
  have q4 := blk_cell F4.out 2
  have q5 := blk_cell F4.out 3
  have fq2 := blk_fro F4.out 0
  have fq3 := blk_fro F4.out 1
  have fq4 := blk_fro F4.out 2
  have fq5 := blk_fro F4.out 3
  simp only [List.getElem?_toArray, List.getElem?_cons_zero, List.getElem?_cons_succ, List.setIfInBounds_toArray, List.set_cons_zero, List.set_cons_succ] at m0 m1 q0 q1 q2 q3 q4 q5
  have k1 : zm < w6.heap.size := (Array.getElem?_eq_some_iff.1 FM.out).1
  have n1 : w.heap.size + 1 < w6.heap.size := by omega
  have n2 : w.heap.size + 1 + 1 < w6.heap.size := by omega
  have n3 : w.heap.size + 1 + 1 + 1 < w6.heap.size := by omega
  have n4 : w.heap.size + 1 + 1 + 1 + 1 < w6.heap.size := by omega
  have u1 : ¬ w.heap.size + 1 = zm := by omega
  have u2 : ¬ w.heap.size + 1 + 1 = zm := by omega
  have u3 : ¬ w.heap.size + 1 + 1 + 1 = zm := by omega
  have u4 : ¬ w.heap.size + 1 + 1 + 1 + 1 = zm := by omega
  obtain ⟨L1, hL1⟩ : ∃ x, (if yd < l then l - yd else 0) = x := ⟨_, rfl⟩
  obtain ⟨P1, hP1⟩ : ∃ x, (if 50 < pl - yp then pl - yp else 50) = x := ⟨_, rfl⟩
  obtain ⟨P2, hP2⟩ : ∃ x, (if 50 < ph - yp then ph - yp else 50) = x := ⟨_, rfl⟩
  have ⟨a1, a2, a3, a4, a5⟩ := ha
  have HLP := hid (show 0 ≤ L1 ∧ L1 ≤ l ∧ 50 ≤ P1 ∧ P1 ≤ P2 ∧ P2 ≤ ph by subst hL1 hP1 hP2; split <;> split <;> split <;> omega)
  have w4' : IntKind.i64.wrap (l - yd) = l - yd := IntWalk.i64_in _ (by omega)
  have w5' : IntKind.i64.wrap (pl - yp) = pl - yp := IntWalk.i64_in _ (by omega)
  have w6' : IntKind.i64.wrap (ph - yp) = ph - yp := IntWalk.i64_in _ (by omega)
  clear a1 a2 a3 a4 a5
  by_cases hc0 : ce = 0
  · have HVN := hid (checkE_zero (HCE.out.trans hc0))
    subst hc0
    clear HCE
    go_wp2_with fail
    clear hL1 hP1 hP2 w4' w5' w6'
    have HEF := hid (HEN.out.more (⟨f2, d2, g2, tl2, th2, sl2, sh2, om⟩ : Pt))
    have HLF := hid (show (ps.set i ⟨f, d, G1, tl, th, S1, S2, os ++ [(yo, O2)]⟩ ++ [(⟨f2, d2, g2, tl2, th2, sl2, sh2, om⟩ : Pt)]).length = n + 1 by rw [List.length_append, HQL.out]; rfl)
    have HPF := HPB
    have HPX := hid (pbox (q := w.heap.size + 1) L1 P1 P2 F1.out)
    have X8 : Ext w ((((w6).setCell ⟨w.heap.size + 1, 1, none⟩ (.int .i64 L1)).setCell ⟨w.heap.size + 1, 2, none⟩ (.int .i64 P1)).setCell ⟨w.heap.size + 1, 3, none⟩ (.int .i64 P2)) := ((X6.set (by dsimp only; omega) _).set (by dsimp only; omega) _).set (by dsimp only; omega) _
    have J3 := hid ((HPX.out.2 (w.heap.size + 1 + 1 + 1) (by omega)).trans F3.out)
    have J4 := hid ((HPX.out.2 (w.heap.size + 1 + 1 + 1 + 1) (by omega)).trans F4.out)
    have JM := hid ((HPX.out.2 zm (by omega)).trans FM.out)
    have JK := hid (fun k o hk hne => (HPX.out.2 k (fun e => hne (Or.inr (by omega)))).trans (HKP.out k o hk hne))
    have J1 := hid HPX.out.1
    clear HPX HKP F1 F2 F3 F4 FM p0 p1 p2 p3 y0 y1 y2 y3 y4 y5 y6 y7 y8 y9 y10 y11 y12 y13 y14 fp1 fp2 fp3 m0 m1 fm1 q0 q1 q2 q3 q4 q5 fq0 fq1 fq2 fq3 fq4 fq5 X6
    obtain ⟨W8, hW8⟩ : ∃ W8, (((w6).setCell ⟨w.heap.size + 1, 1, none⟩ (.int .i64 L1)).setCell ⟨w.heap.size + 1, 2, none⟩ (.int .i64 P1)).setCell ⟨w.heap.size + 1, 3, none⟩ (.int .i64 P2) = W8 := ⟨_, rfl⟩
    rw [hW8] at X8 J1 J3 J4 JM JK ⊢
    clear hW8
    have p0 := blk_cell J1.out 0
    have p1 := blk_cell J1.out 1
    have p2 := blk_cell J1.out 2
    have p3 := blk_cell J1.out 3
    have m0 := blk_cell JM.out 0
    have m1 := blk_cell JM.out 1
    have q0 := blk_cell J3.out 0
    have q1 := blk_cell J3.out 1
    have fq0 := blk_fro J3.out 0
    have fq1 := blk_fro J3.out 1
    have q2 := blk_cell J4.out 0
    have q3 := blk_cell J4.out 1
    have q4 := blk_cell J4.out 2
    have q5 := blk_cell J4.out 3
    have fq2 := blk_fro J4.out 0
    have fq3 := blk_fro J4.out 1
    have fq4 := blk_fro J4.out 2
    have fq5 := blk_fro J4.out 3
    simp only [List.getElem?_toArray, List.getElem?_cons_zero, List.getElem?_cons_succ, List.setIfInBounds_toArray, List.set_cons_zero, List.set_cons_succ] at m0 m1 q0 q1 q2 q3 q4 q5 p0 p1 p2 p3
    refine wp_region_held_drew (S := fun w' => w'.cell? ⟨w.heap.size + 1, 0, none⟩ = some (.int .i64 g) ∧ w'.cell? ⟨w.heap.size + 1, 1, none⟩ = some (.int .i64 L1) ∧ w'.cell? ⟨w.heap.size + 1, 2, none⟩ = some (.int .i64 P1) ∧ w'.cell? ⟨w.heap.size + 1, 3, none⟩ = some (.int .i64 P2) ∧ w'.cell? ⟨zm, 0, none⟩ = some (.int .i64 m) ∧ w'.cell? ⟨zm, 1, none⟩ = some (.slice A5 (n + 1) c5)) (by kernel_rfl) ?hS0 (fun hHeld => ?_)
    case hS0 => exact ⟨p0, p1, p2, p3, m0, m1⟩
    refine wpAnyH_take (i := 0) (oi := _) (v := ?v0vd) rfl (by kernel_rfl) (by kernel_rfl) (by kernel_rfl) (fun _ _ _ h => h) (Or.inl ⟨by rfl, ?y0vd⟩) (by assumption) ?r0vd
    case y0vd => (intro w' hSw; (try dsimp only at hSw); go_simp; (try with_reducible rfl))
    try simp only [Act.put, List.getElem_toArray, List.getElem_cons_zero, List.getElem_cons_succ, List.setIfInBounds_toArray, List.set_cons_zero, List.set_cons_succ]
    refine wpAnyH_take (i := 1) (oi := _) (v := ?v1vd) rfl (by kernel_rfl) (by kernel_rfl) (by kernel_rfl) (fun _ _ _ h => h) (Or.inl ⟨by rfl, ?y1vd⟩) (by assumption) ?r1vd
    case y1vd => (intro w' hSw; (try dsimp only at hSw); go_simp; (try with_reducible rfl))
    try simp only [Act.put, List.getElem_toArray, List.getElem_cons_zero, List.getElem_cons_succ, List.setIfInBounds_toArray, List.set_cons_zero, List.set_cons_succ]
    clear hHeld
    refine wpAnyH_ready (rs := [2]) (by kernel_rfl) (by simp) ?_
    refine AllReadyH.cons (o := _) rfl (fun K hK => ?_) AllReadyH.nil
    go_simp
    refine hK.out _ _ ⟨by go_simp, by go_simp, by go_simp, by go_simp, by go_simp, by go_simp⟩ (fun hHeld => ?_)
    clear hK K
    try simp only [Act.put, List.getElem_toArray, List.getElem_cons_zero, List.getElem_cons_succ, List.setIfInBounds_toArray, List.set_cons_zero, List.set_cons_succ]
    clear hHeld
    refine wpAnyH_ready (rs := [3]) (by kernel_rfl) (by simp) ?_
    refine AllReadyH.cons (o := _) rfl (fun K hK => ?_) AllReadyH.nil
    go_simp
    refine hK.out _ _ ⟨by go_simp, by go_simp, by go_simp, by go_simp, by go_simp, by go_simp⟩ (fun hHeld => ?_)
    clear hK K
    try simp only [Act.put, List.getElem_toArray, List.getElem_cons_zero, List.getElem_cons_succ, List.setIfInBounds_toArray, List.set_cons_zero, List.set_cons_succ]
    refine wpAnyH_done (by kernel_rfl) ?_ _
    clear hHeld
    go_wp2
    refine bodyPost_ret (v := .tuple #[.agg #[.int .i64 m, .slice A5 (n + 1) c5], .agg #[.int .i64 g, .int .i64 L1, .int .i64 P1, .int .i64 P2]]) ?rsvd rfl ⟨_, A5, n + 1, c5, L1, P1, P2, rfl, HLF.out, HPF.out _ (fun k o hk hne => (six_keep (fun e => hne (Or.inr (by omega))) (fun e => hne (Or.inr (by omega)))).trans (JK.out k o hk hne)), HVN.out, party_ease hpa HLP.out, HEF.out, HLP.out.2.1, HLP.out.2.2.2.2, by (repeat' (first | with_reducible assumption | with_reducible exact Ext.refl _ | with_reducible refine Ext.alloc ?_ _ | with_reducible refine Ext.set ?_ ?_ _ | with_reducible refine Ext.drew ?_ | with_reducible refine Ext.drewN ?_ _ | with_reducible refine Ext.trans ?_ (by assumption) | (dsimp only; omega)))⟩
    case rsvd => simp [results, Try.results36, go_sem, q0, q1, q2, q3, q4, q5]
  · have hneb : (ce != 0) = true := by simpa using hc0
    have hc5' : n ≤ c5 := by omega
    clear HCE
    go_wp2_with fail
    clear hL1 hP1 hP2 w4' w5' w6'
    have HEF := HEN
    have HLF := HQL
    have HPF := hid (show PathsBut w5 (Zs w zm) A5 (ps.set i ⟨f, d, G1, tl, th, S1, S2, os ++ [(yo, O2)]⟩) from fun W hW => (HPB.out W hW).front)
    have HVN := HV
    have X7 : Ext w (w6.setCell ⟨zm, 1, none⟩ (.slice A5 n c5)) := X6.set (by dsimp only; omega) _
    have H1 := hid ((Below.heap_setCell w6 ⟨zm, 1, none⟩ (.slice A5 n c5) _ (by dsimp only; omega)).trans F1.out)
    have H3 := hid ((Below.heap_setCell w6 ⟨zm, 1, none⟩ (.slice A5 n c5) _ (by dsimp only; omega)).trans F3.out)
    have H4 := hid ((Below.heap_setCell w6 ⟨zm, 1, none⟩ (.slice A5 n c5) _ (by dsimp only; omega)).trans F4.out)
    have HM := hid (heap_setCell_same w6 zm 1 _ _ (.slice A5 n c5) FM.out)
    have HK7 := hid (show ∀ (k : Nat) (o : Obj), w5.heap[k]? = some o → ¬ Zs w zm k → (w6.setCell ⟨zm, 1, none⟩ (.slice A5 n c5)).heap[k]? = some o from fun k o hk hne => (Below.heap_setCell w6 ⟨zm, 1, none⟩ (.slice A5 n c5) k (fun e => hne (Or.inl e))).trans (HKP.out k o hk hne))
    have HPX := hid (pbox (q := w.heap.size + 1) L1 P1 P2 H1.out)
    have X8 : Ext w ((((w6.setCell ⟨zm, 1, none⟩ (.slice A5 n c5)).setCell ⟨w.heap.size + 1, 1, none⟩ (.int .i64 L1)).setCell ⟨w.heap.size + 1, 2, none⟩ (.int .i64 P1)).setCell ⟨w.heap.size + 1, 3, none⟩ (.int .i64 P2)) := ((X7.set (by dsimp only; omega) _).set (by dsimp only; omega) _).set (by dsimp only; omega) _
    have J3 := hid ((HPX.out.2 (w.heap.size + 1 + 1 + 1) (by omega)).trans H3.out)
    have J4 := hid ((HPX.out.2 (w.heap.size + 1 + 1 + 1 + 1) (by omega)).trans H4.out)
    have JM := hid ((HPX.out.2 zm (by omega)).trans HM.out)
    have JK := hid (fun k o hk hne => (HPX.out.2 k (fun e => hne (Or.inr (by omega)))).trans (HK7.out k o hk hne))
    have J1 := hid HPX.out.1
    clear HPX HKP F1 F2 F3 F4 FM p0 p1 p2 p3 y0 y1 y2 y3 y4 y5 y6 y7 y8 y9 y10 y11 y12 y13 y14 fp1 fp2 fp3 m0 m1 fm1 q0 q1 q2 q3 q4 q5 fq0 fq1 fq2 fq3 fq4 fq5 X6
    obtain ⟨W8, hW8⟩ : ∃ W8, (((w6.setCell ⟨zm, 1, none⟩ (.slice A5 n c5)).setCell ⟨w.heap.size + 1, 1, none⟩ (.int .i64 L1)).setCell ⟨w.heap.size + 1, 2, none⟩ (.int .i64 P1)).setCell ⟨w.heap.size + 1, 3, none⟩ (.int .i64 P2) = W8 := ⟨_, rfl⟩
    rw [hW8] at X8 J1 J3 J4 JM JK ⊢
    clear hW8
    have p0 := blk_cell J1.out 0
    have p1 := blk_cell J1.out 1
    have p2 := blk_cell J1.out 2
    have p3 := blk_cell J1.out 3
    have m0 := blk_cell JM.out 0
    have m1 := blk_cell JM.out 1
    have q0 := blk_cell J3.out 0
    have q1 := blk_cell J3.out 1
    have fq0 := blk_fro J3.out 0
    have fq1 := blk_fro J3.out 1
    have q2 := blk_cell J4.out 0
    have q3 := blk_cell J4.out 1
    have q4 := blk_cell J4.out 2
    have q5 := blk_cell J4.out 3
    have fq2 := blk_fro J4.out 0
    have fq3 := blk_fro J4.out 1
    have fq4 := blk_fro J4.out 2
    have fq5 := blk_fro J4.out 3
    simp only [List.getElem?_toArray, List.getElem?_cons_zero, List.getElem?_cons_succ, List.setIfInBounds_toArray, List.set_cons_zero, List.set_cons_succ] at m0 m1 q0 q1 q2 q3 q4 q5 p0 p1 p2 p3
    refine wp_region_held_drew (S := fun w' => w'.cell? ⟨w.heap.size + 1, 0, none⟩ = some (.int .i64 g) ∧ w'.cell? ⟨w.heap.size + 1, 1, none⟩ = some (.int .i64 L1) ∧ w'.cell? ⟨w.heap.size + 1, 2, none⟩ = some (.int .i64 P1) ∧ w'.cell? ⟨w.heap.size + 1, 3, none⟩ = some (.int .i64 P2) ∧ w'.cell? ⟨zm, 0, none⟩ = some (.int .i64 m) ∧ w'.cell? ⟨zm, 1, none⟩ = some (.slice A5 (n) c5)) (by kernel_rfl) ?hS0 (fun hHeld => ?_)
    case hS0 => exact ⟨p0, p1, p2, p3, m0, m1⟩
    refine wpAnyH_take (i := 0) (oi := _) (v := ?v0wd) rfl (by kernel_rfl) (by kernel_rfl) (by kernel_rfl) (fun _ _ _ h => h) (Or.inl ⟨by rfl, ?y0wd⟩) (by assumption) ?r0wd
    case y0wd => (intro w' hSw; (try dsimp only at hSw); go_simp; (try with_reducible rfl))
    try simp only [Act.put, List.getElem_toArray, List.getElem_cons_zero, List.getElem_cons_succ, List.setIfInBounds_toArray, List.set_cons_zero, List.set_cons_succ]
    refine wpAnyH_take (i := 1) (oi := _) (v := ?v1wd) rfl (by kernel_rfl) (by kernel_rfl) (by kernel_rfl) (fun _ _ _ h => h) (Or.inl ⟨by rfl, ?y1wd⟩) (by assumption) ?r1wd
    case y1wd => (intro w' hSw; (try dsimp only at hSw); go_simp; (try with_reducible rfl))
    try simp only [Act.put, List.getElem_toArray, List.getElem_cons_zero, List.getElem_cons_succ, List.setIfInBounds_toArray, List.set_cons_zero, List.set_cons_succ]
    clear hHeld
    refine wpAnyH_ready (rs := [2]) (by kernel_rfl) (by simp) ?_
    refine AllReadyH.cons (o := _) rfl (fun K hK => ?_) AllReadyH.nil
    go_simp
    refine hK.out _ _ ⟨by go_simp, by go_simp, by go_simp, by go_simp, by go_simp, by go_simp⟩ (fun hHeld => ?_)
    clear hK K
    try simp only [Act.put, List.getElem_toArray, List.getElem_cons_zero, List.getElem_cons_succ, List.setIfInBounds_toArray, List.set_cons_zero, List.set_cons_succ]
    clear hHeld
    refine wpAnyH_ready (rs := [3]) (by kernel_rfl) (by simp) ?_
    refine AllReadyH.cons (o := _) rfl (fun K hK => ?_) AllReadyH.nil
    go_simp
    refine hK.out _ _ ⟨by go_simp, by go_simp, by go_simp, by go_simp, by go_simp, by go_simp⟩ (fun hHeld => ?_)
    clear hK K
    try simp only [Act.put, List.getElem_toArray, List.getElem_cons_zero, List.getElem_cons_succ, List.setIfInBounds_toArray, List.set_cons_zero, List.set_cons_succ]
    refine wpAnyH_done (by kernel_rfl) ?_ _
    clear hHeld
    go_wp2
    refine bodyPost_ret (v := .tuple #[.agg #[.int .i64 m, .slice A5 (n) c5], .agg #[.int .i64 g, .int .i64 L1, .int .i64 P1, .int .i64 P2]]) ?rswd rfl ⟨_, A5, n, c5, L1, P1, P2, rfl, HLF.out, HPF.out _ (fun k o hk hne => (six_keep (fun e => hne (Or.inr (by omega))) (fun e => hne (Or.inr (by omega)))).trans (JK.out k o hk hne)), HVN.out, party_ease hpa HLP.out, HEF.out, HLP.out.2.1, HLP.out.2.2.2.2, by (repeat' (first | with_reducible assumption | with_reducible exact Ext.refl _ | with_reducible refine Ext.alloc ?_ _ | with_reducible refine Ext.set ?_ ?_ _ | with_reducible refine Ext.drew ?_ | with_reducible refine Ext.drewN ?_ _ | with_reducible refine Ext.trans ?_ (by assumption) | (dsimp only; omega)))⟩
    case rswd => simp [results, Try.results36, go_sem, q0, q1, q2, q3, q4, q5]
end Go.Proofs.Ytndoghcglbpllaa
