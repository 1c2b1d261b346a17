/- begin: an outing, checked. -/
import Derived.Test.YtggggnjibedgaaaGreatB09
import Derived.Test.YtggggnjibedgaaaGreatB03
set_option linter.unusedSimpArgs false
set_option linter.unusedVariables false
namespace Go.Proofs.YtggggnjibedgaaaGreat
open Go.RowKit
/-- What begin returns. -/
def BegO (o : Ou) (A : OA) (w : World) (e : Ending) (w' : World) : Prop :=
  ∃ v, e = .returned (.tuple #[v, .int .i64 (outE o)]) ∧ Ext w w' ∧ (outE o ≠ 0 → v = .agg #[.int .i64 0, .int .i64 0, .int .i64 0, .slice none 0 0, .slice none 0 0, .int .i64 0, .int .i64 0, .int .i64 0, .slice none 0 0, .slice none 0 0, .slice none 0 0]) ∧ (outE o = 0 → ∃ F c, v = ouV o A F (fitS o).length c ∧ IntsAt w' F (nI (fitS o)) ∧ (nI (fitS o) ≠ [] → ∀ b q sp, F = some ⟨b, q, sp⟩ → w.heap.size ≤ b))
theorem outE_ok {o : Ou} (h : outE o = 0) : mdB o.md = true ∧ o.ros.all roB = true ∧ ouB o = true := by
  unfold outE at h
  split at h
  · split at h
    · split at h
      · exact ⟨by assumption, by assumption, by assumption⟩
      · cases h
    · cases h
  · cases h
theorem ouB_len {o : Ou} (h : ouB o = true) : o.ros.length ≤ 6 ∧ o.gds.length ≤ 4 ∧ o.cls.length ≤ 6 := by
  unfold ouB at h
  simp only [Bool.and_eq_true, decide_eq_true_eq] at h
  omega
set_option maxRecDepth 100000 in
set_option maxHeartbeats 8000000 in
theorem begin_any (o : Ou) (A : OA) (h1 : o.gds.length ≤ 1000) (h2 : o.cls.length ≤ 1000) (h3 : o.ros.length ≤ 1000) (h4 : o.md.wears.length ≤ 1000) (h5 : ∀ r ∈ o.ros, r.falls.length ≤ 1000) (w : World) (hx : OuAt w o A) :
    Calls Tryz.prog 79 #[o.val A] w (BegO o A w) := by
  have HM := hid (fun (W : World) (hE : Ext w W) => isModel_any o.md A.wA A.wc h4 W (hx.ws.ext hE))
  have HR := hid (fun (W : World) (hE : Ext w W) => allRo_any 102 #[] (fun _ _ => by kernel_rfl) o.ros roB A.rA o.ros.length A.rc rfl (by omega) W (hx.rs.ext hE)
    (fun r B d W' _ hm hf => isRope_any r B d (h5 r hm) W' hf))
  have HO := hid (fun (W : World) (hE : Ext w W) => isOuting_any o A h1 h2 h3 W (hx.ext hE))
  have HN := hid (fun (a : mdB o.md = true) (b : o.ros.all roB = true) (c : ouB o = true) (W : World) (hE : Ext w W) =>
    newOuting_any o A a (fun r hr => (List.all_eq_true.1 b) r hr) (by have := ouB_len c; omega) W (hx.ext hE))
  clear hx h1 h2 h3 h4 h5
  unfold BegO
  obtain ⟨E, hE⟩ : ∃ E, outE o = E := ⟨_, rfl⟩
  rw [hE]
  unfold outE at hE
  obtain ⟨b1, hb1⟩ : ∃ b, mdB o.md = b := ⟨_, rfl⟩
  obtain ⟨b2, hb2⟩ : ∃ b, o.ros.all roB = b := ⟨_, rfl⟩
  obtain ⟨b3, hb3⟩ : ∃ b, ouB o = b := ⟨_, rfl⟩
  rw [hb1, hb2, hb3] at hE
  rw [hb1] at HM
  rw [hb2] at HR
  rw [hb3] at HO
  have HN2 := hid (fun x y z => HN.out (hb1.trans x) (hb2.trans y) (hb3.trans z))
  clear HN hb1 hb2 hb3
  have HE := hid hE
  clear hE
  unfold ouV Ou.val Md.val at *
  generalize fitS o = FS at *
  obtain ⟨day, gra, sp, gds, cls, ⟨sh, us, be, ws⟩, ros⟩ := o
  obtain ⟨gA, gc, cA, cc, wA, wc, rA, rc⟩ := A
  dsimp only at *
  generalize gds.length = n1 at *
  generalize cls.length = n2 at *
  generalize ws.length = n4 at *
  generalize ros.length = n3 at *
  have Z := blks2 w (.cells #[.int .i64 day, .int .i64 gra, .int .i64 sp, .slice gA n1 gc, .slice cA n2 cc, .int .i64 sh, .int .i64 us, .int .i64 be, .slice wA n4 wc, .slice rA n3 rc] 53) (.cells #[.int .i64 0, .int .i64 0, .int .i64 0, .slice none 0 0, .slice none 0 0, .int .i64 0, .int .i64 0, .int .i64 0, .slice none 0 0, .slice none 0 0, .slice none 0 0] 126)
  have Z1 := hid (show Blk _ _ _ _ from Z.1)
  have Z2 := hid (show Blk _ _ _ _ from Z.2)
  have EZ := hid (show Ext w ((w.alloc (.cells #[.int .i64 day, .int .i64 gra, .int .i64 sp, .slice gA n1 gc, .slice cA n2 cc, .int .i64 sh, .int .i64 us, .int .i64 be, .slice wA n4 wc, .slice rA n3 rc] 53)).alloc (.cells #[.int .i64 0, .int .i64 0, .int .i64 0, .slice none 0 0, .slice none 0 0, .int .i64 0, .int .i64 0, .int .i64 0, .slice none 0 0, .slice none 0 0, .slice none 0 0] 126)) by (repeat' (first | with_reducible assumption | with_reducible exact Ext.refl _ | with_reducible refine Ext.alloc ?_ _ | with_reducible refine Ext.set ?_ ?_ _ | with_reducible refine Ext.drew ?_ | with_reducible refine Ext.drewN ?_ _ | with_reducible refine Ext.trans ?_ (by assumption) | (dsimp only; omega))))
  clear Z
  go_enter Tryz.func79, Tryz.ntmps79
  go_wp2_with fail
  refine (HM.out _ EZ.out).mono ?_
  rintro e w2 ⟨rfl, hE2⟩
  have T1 := hid (show Blk w2 w.heap.size 53 _ from Z1.out.ext hE2)
  have T2 := hid (show Blk w2 (w.heap.size + 1) 126 _ from Z2.out.ext hE2)
  have TE := hid (EZ.out.trans hE2)
  clear hE2 Z1 Z2 EZ HM
  cases b1
  · have hE0 : E = 90 := by rw [← HE.out]; rfl
    subst hE0
    clear HE HN2 HR HO
    dsimp only
    go_wp2_with (refine wpList_store_mid rfl 126 _ _ rfl (w.heap.size + 1) 0 #[.int .i64 0, .int .i64 0, .int .i64 0, .slice none 0 0, .slice none 0 0, .int .i64 0, .int .i64 0, .int .i64 0, .slice none 0 0, .slice none 0 0, .slice none 0 0] rfl rfl (blk_there T2.out rfl) infoOut (one_of (by simp [Value.oneCell'])) ?_)
    have R := hid (T2.out.fill [.int .i64 0, .int .i64 0, .int .i64 0, .slice none 0 0, .slice none 0 0, .int .i64 0, .int .i64 0, .int .i64 0, .slice none 0 0, .slice none 0 0, .slice none 0 0] 0)
    have RE := hid (ext_setCells (a := w) TE.out (b := w.heap.size + 1) (by omega) [.int .i64 0, .int .i64 0, .int .i64 0, .slice none 0 0, .slice none 0 0, .int .i64 0, .int .i64 0, .int .i64 0, .slice none 0 0, .slice none 0 0, .slice none 0 0] 0)
    have RG := hid (grown_setCells (w := w2) (b := w.heap.size + 1) [.int .i64 0, .int .i64 0, .int .i64 0, .slice none 0 0, .slice none 0 0, .int .i64 0, .int .i64 0, .int .i64 0, .slice none 0 0, .slice none 0 0, .slice none 0 0] 0)
    obtain ⟨Z, hZ⟩ : ∃ Z, World.setCells w2 (w.heap.size + 1) 0 [.int .i64 0, .int .i64 0, .int .i64 0, .slice none 0 0, .slice none 0 0, .int .i64 0, .int .i64 0, .int .i64 0, .slice none 0 0, .slice none 0 0, .slice none 0 0] = Z := ⟨_, rfl⟩
    rw [hZ] at R RE RG
    have hZ2 : World.setCells w2 (w.heap.size + 1) 0 (#[.int .i64 0, .int .i64 0, .int .i64 0, .slice none 0 0, .slice none 0 0, .int .i64 0, .int .i64 0, .int .i64 0, .slice none 0 0, .slice none 0 0, .slice none 0 0] : Array Value).toList = Z := hZ
    first | rw [hZ2] | rw [hZ]
    clear hZ hZ2
    simp only [fillA, List.setIfInBounds_toArray, List.set_cons_zero, List.set_cons_succ] at R
    have hB := R.out
    obtain ⟨r0, r1, r2, r3, r4, r5, r6, r7, r8, r9, r10⟩ : _ ∧ _ ∧ _ ∧ _ ∧ _ ∧ _ ∧ _ ∧ _ ∧ _ ∧ _ ∧ _ := ⟨hB.cell 0, hB.cell 1, hB.cell 2, hB.cell 3, hB.cell 4, hB.cell 5, hB.cell 6, hB.cell 7, hB.cell 8, hB.cell 9, hB.cell 10⟩
    simp only [List.getElem?_toArray, List.getElem?_cons_zero, List.getElem?_cons_succ] at r0 r1 r2 r3 r4 r5 r6 r7 r8 r9 r10
    exact bodyPost_ret (v := .tuple #[.agg #[.int .i64 0, .int .i64 0, .int .i64 0, .slice none 0 0, .slice none 0 0, .int .i64 0, .int .i64 0, .int .i64 0, .slice none 0 0, .slice none 0 0, .slice none 0 0], .int .i64 90]) (by simp [results, Tryz.results79, go_sem, r0, r1, r2, r3, r4, r5, r6, r7, r8, r9, r10]) rfl ⟨_, rfl, RE.out, fun _ => rfl, fun h => by cases h⟩
  dsimp only
  obtain ⟨x0, x1, x2, x3, x4, x5, x6, x7, x8, x9⟩ : _ ∧ _ ∧ _ ∧ _ ∧ _ ∧ _ ∧ _ ∧ _ ∧ _ ∧ _ := ⟨T1.out.cell 0, T1.out.cell 1, T1.out.cell 2, T1.out.cell 3, T1.out.cell 4, T1.out.cell 5, T1.out.cell 6, T1.out.cell 7, T1.out.cell 8, T1.out.cell 9⟩
  have xz := T1.out.lt
  simp only [List.getElem?_toArray, List.getElem?_cons_zero, List.getElem?_cons_succ] at x0 x1 x2 x3 x4 x5 x6 x7 x8 x9
  go_wp2_with fail
  refine (HR.out _ TE.out).mono ?_
  rintro e w3 ⟨rfl, hE2⟩
  replace T1 := hid (show Blk w3 w.heap.size 53 _ from T1.out.ext hE2)
  replace T2 := hid (show Blk w3 (w.heap.size + 1) 126 _ from T2.out.ext hE2)
  replace TE := hid (TE.out.trans hE2)
  clear hE2 x0 x1 x2 x3 x4 x5 x6 x7 x8 x9 xz
  clear HR
  cases b2
  · have hE0 : E = 91 := by rw [← HE.out]; rfl
    subst hE0
    clear HE HN2 HO
    dsimp only
    go_wp2_with (refine wpList_store_mid rfl 126 _ _ rfl (w.heap.size + 1) 0 #[.int .i64 0, .int .i64 0, .int .i64 0, .slice none 0 0, .slice none 0 0, .int .i64 0, .int .i64 0, .int .i64 0, .slice none 0 0, .slice none 0 0, .slice none 0 0] rfl rfl (blk_there T2.out rfl) infoOut (one_of (by simp [Value.oneCell'])) ?_)
    have R := hid (T2.out.fill [.int .i64 0, .int .i64 0, .int .i64 0, .slice none 0 0, .slice none 0 0, .int .i64 0, .int .i64 0, .int .i64 0, .slice none 0 0, .slice none 0 0, .slice none 0 0] 0)
    have RE := hid (ext_setCells (a := w) TE.out (b := w.heap.size + 1) (by omega) [.int .i64 0, .int .i64 0, .int .i64 0, .slice none 0 0, .slice none 0 0, .int .i64 0, .int .i64 0, .int .i64 0, .slice none 0 0, .slice none 0 0, .slice none 0 0] 0)
    have RG := hid (grown_setCells (w := w3) (b := w.heap.size + 1) [.int .i64 0, .int .i64 0, .int .i64 0, .slice none 0 0, .slice none 0 0, .int .i64 0, .int .i64 0, .int .i64 0, .slice none 0 0, .slice none 0 0, .slice none 0 0] 0)
    obtain ⟨Z, hZ⟩ : ∃ Z, World.setCells w3 (w.heap.size + 1) 0 [.int .i64 0, .int .i64 0, .int .i64 0, .slice none 0 0, .slice none 0 0, .int .i64 0, .int .i64 0, .int .i64 0, .slice none 0 0, .slice none 0 0, .slice none 0 0] = Z := ⟨_, rfl⟩
    rw [hZ] at R RE RG
    have hZ2 : World.setCells w3 (w.heap.size + 1) 0 (#[.int .i64 0, .int .i64 0, .int .i64 0, .slice none 0 0, .slice none 0 0, .int .i64 0, .int .i64 0, .int .i64 0, .slice none 0 0, .slice none 0 0, .slice none 0 0] : Array Value).toList = Z := hZ
    first | rw [hZ2] | rw [hZ]
    clear hZ hZ2
    simp only [fillA, List.setIfInBounds_toArray, List.set_cons_zero, List.set_cons_succ] at R
    have hB := R.out
    obtain ⟨r0, r1, r2, r3, r4, r5, r6, r7, r8, r9, r10⟩ : _ ∧ _ ∧ _ ∧ _ ∧ _ ∧ _ ∧ _ ∧ _ ∧ _ ∧ _ ∧ _ := ⟨hB.cell 0, hB.cell 1, hB.cell 2, hB.cell 3, hB.cell 4, hB.cell 5, hB.cell 6, hB.cell 7, hB.cell 8, hB.cell 9, hB.cell 10⟩
    simp only [List.getElem?_toArray, List.getElem?_cons_zero, List.getElem?_cons_succ] at r0 r1 r2 r3 r4 r5 r6 r7 r8 r9 r10
    exact bodyPost_ret (v := .tuple #[.agg #[.int .i64 0, .int .i64 0, .int .i64 0, .slice none 0 0, .slice none 0 0, .int .i64 0, .int .i64 0, .int .i64 0, .slice none 0 0, .slice none 0 0, .slice none 0 0], .int .i64 91]) (by simp [results, Tryz.results79, go_sem, r0, r1, r2, r3, r4, r5, r6, r7, r8, r9, r10]) rfl ⟨_, rfl, RE.out, fun _ => rfl, fun h => by cases h⟩
  dsimp only
  obtain ⟨x0, x1, x2, x3, x4, x5, x6, x7, x8, x9⟩ : _ ∧ _ ∧ _ ∧ _ ∧ _ ∧ _ ∧ _ ∧ _ ∧ _ ∧ _ := ⟨T1.out.cell 0, T1.out.cell 1, T1.out.cell 2, T1.out.cell 3, T1.out.cell 4, T1.out.cell 5, T1.out.cell 6, T1.out.cell 7, T1.out.cell 8, T1.out.cell 9⟩
  have xz := T1.out.lt
  simp only [List.getElem?_toArray, List.getElem?_cons_zero, List.getElem?_cons_succ] at x0 x1 x2 x3 x4 x5 x6 x7 x8 x9
  go_wp2_with fail
  refine (HO.out _ TE.out).mono ?_
  rintro e w4 ⟨rfl, hE2⟩
  replace T1 := hid (show Blk w4 w.heap.size 53 _ from T1.out.ext hE2)
  replace T2 := hid (show Blk w4 (w.heap.size + 1) 126 _ from T2.out.ext hE2)
  replace TE := hid (TE.out.trans hE2)
  clear hE2 x0 x1 x2 x3 x4 x5 x6 x7 x8 x9 xz
  clear HO
  cases b3
  · have hE0 : E = 93 := by rw [← HE.out]; rfl
    subst hE0
    clear HE HN2
    dsimp only
    go_wp2_with (refine wpList_store_mid rfl 126 _ _ rfl (w.heap.size + 1) 0 #[.int .i64 0, .int .i64 0, .int .i64 0, .slice none 0 0, .slice none 0 0, .int .i64 0, .int .i64 0, .int .i64 0, .slice none 0 0, .slice none 0 0, .slice none 0 0] rfl rfl (blk_there T2.out rfl) infoOut (one_of (by simp [Value.oneCell'])) ?_)
    have R := hid (T2.out.fill [.int .i64 0, .int .i64 0, .int .i64 0, .slice none 0 0, .slice none 0 0, .int .i64 0, .int .i64 0, .int .i64 0, .slice none 0 0, .slice none 0 0, .slice none 0 0] 0)
    have RE := hid (ext_setCells (a := w) TE.out (b := w.heap.size + 1) (by omega) [.int .i64 0, .int .i64 0, .int .i64 0, .slice none 0 0, .slice none 0 0, .int .i64 0, .int .i64 0, .int .i64 0, .slice none 0 0, .slice none 0 0, .slice none 0 0] 0)
    have RG := hid (grown_setCells (w := w4) (b := w.heap.size + 1) [.int .i64 0, .int .i64 0, .int .i64 0, .slice none 0 0, .slice none 0 0, .int .i64 0, .int .i64 0, .int .i64 0, .slice none 0 0, .slice none 0 0, .slice none 0 0] 0)
    obtain ⟨Z, hZ⟩ : ∃ Z, World.setCells w4 (w.heap.size + 1) 0 [.int .i64 0, .int .i64 0, .int .i64 0, .slice none 0 0, .slice none 0 0, .int .i64 0, .int .i64 0, .int .i64 0, .slice none 0 0, .slice none 0 0, .slice none 0 0] = Z := ⟨_, rfl⟩
    rw [hZ] at R RE RG
    have hZ2 : World.setCells w4 (w.heap.size + 1) 0 (#[.int .i64 0, .int .i64 0, .int .i64 0, .slice none 0 0, .slice none 0 0, .int .i64 0, .int .i64 0, .int .i64 0, .slice none 0 0, .slice none 0 0, .slice none 0 0] : Array Value).toList = Z := hZ
    first | rw [hZ2] | rw [hZ]
    clear hZ hZ2
    simp only [fillA, List.setIfInBounds_toArray, List.set_cons_zero, List.set_cons_succ] at R
    have hB := R.out
    obtain ⟨r0, r1, r2, r3, r4, r5, r6, r7, r8, r9, r10⟩ : _ ∧ _ ∧ _ ∧ _ ∧ _ ∧ _ ∧ _ ∧ _ ∧ _ ∧ _ ∧ _ := ⟨hB.cell 0, hB.cell 1, hB.cell 2, hB.cell 3, hB.cell 4, hB.cell 5, hB.cell 6, hB.cell 7, hB.cell 8, hB.cell 9, hB.cell 10⟩
    simp only [List.getElem?_toArray, List.getElem?_cons_zero, List.getElem?_cons_succ] at r0 r1 r2 r3 r4 r5 r6 r7 r8 r9 r10
    exact bodyPost_ret (v := .tuple #[.agg #[.int .i64 0, .int .i64 0, .int .i64 0, .slice none 0 0, .slice none 0 0, .int .i64 0, .int .i64 0, .int .i64 0, .slice none 0 0, .slice none 0 0, .slice none 0 0], .int .i64 93]) (by simp [results, Tryz.results79, go_sem, r0, r1, r2, r3, r4, r5, r6, r7, r8, r9, r10]) rfl ⟨_, rfl, RE.out, fun _ => rfl, fun h => by cases h⟩
  have hE0 : E = 0 := by rw [← HE.out]; rfl
  subst hE0
  dsimp only
  obtain ⟨x0, x1, x2, x3, x4, x5, x6, x7, x8, x9⟩ : _ ∧ _ ∧ _ ∧ _ ∧ _ ∧ _ ∧ _ ∧ _ ∧ _ ∧ _ := ⟨T1.out.cell 0, T1.out.cell 1, T1.out.cell 2, T1.out.cell 3, T1.out.cell 4, T1.out.cell 5, T1.out.cell 6, T1.out.cell 7, T1.out.cell 8, T1.out.cell 9⟩
  have xz := T1.out.lt
  simp only [List.getElem?_toArray, List.getElem?_cons_zero, List.getElem?_cons_succ] at x0 x1 x2 x3 x4 x5 x6 x7 x8 x9
  go_wp2_with fail
  refine (HN2.out trivial trivial trivial _ TE.out).mono ?_
  rintro e w5 ⟨F, c, rfl, hI, hE2, hnew⟩
  have TI := hid hI
  have TN := hid (show nI FS ≠ [] → ∀ b q sp, F = some ⟨b, q, sp⟩ → b ≠ w.heap.size + 1 from fun h b q sp he => by have := hnew h b q sp he; have := T2.out.lt; omega)
  have TL := hid (show nI FS ≠ [] → ∀ b q sp, F = some ⟨b, q, sp⟩ → w.heap.size ≤ b from fun h b q sp he => Nat.le_trans TE.out.size (hnew h b q sp he))
  clear hnew
  replace T1 := hid (show Blk w5 w.heap.size 53 _ from T1.out.ext hE2)
  replace T2 := hid (show Blk w5 (w.heap.size + 1) 126 _ from T2.out.ext hE2)
  replace TE := hid (TE.out.trans hE2)
  clear hE2 x0 x1 x2 x3 x4 x5 x6 x7 x8 x9 xz
  clear HN2 HE hI
  obtain ⟨fl, hfl⟩ : ∃ fl, FS.length = fl := ⟨_, rfl⟩
  rw [hfl]
  dsimp only
  go_wp2_with (refine wpList_store_mid rfl 126 _ _ rfl (w.heap.size + 1) 0 #[.int .i64 day, .int .i64 gra, .int .i64 sp, .slice gA n1 gc, .slice cA n2 cc, .int .i64 sh, .int .i64 us, .int .i64 be, .slice wA n4 wc, .slice rA n3 rc, .slice F fl c] rfl rfl (blk_there T2.out rfl) infoOut (one_of (by simp [Value.oneCell'])) ?_)
  have R := hid (T2.out.fill [.int .i64 day, .int .i64 gra, .int .i64 sp, .slice gA n1 gc, .slice cA n2 cc, .int .i64 sh, .int .i64 us, .int .i64 be, .slice wA n4 wc, .slice rA n3 rc, .slice F fl c] 0)
  have RE := hid (ext_setCells (a := w) TE.out (b := w.heap.size + 1) (by omega) [.int .i64 day, .int .i64 gra, .int .i64 sp, .slice gA n1 gc, .slice cA n2 cc, .int .i64 sh, .int .i64 us, .int .i64 be, .slice wA n4 wc, .slice rA n3 rc, .slice F fl c] 0)
  have RG := hid (grown_setCells (w := w5) (b := w.heap.size + 1) [.int .i64 day, .int .i64 gra, .int .i64 sp, .slice gA n1 gc, .slice cA n2 cc, .int .i64 sh, .int .i64 us, .int .i64 be, .slice wA n4 wc, .slice rA n3 rc, .slice F fl c] 0)
  obtain ⟨Z, hZ⟩ : ∃ Z, World.setCells w5 (w.heap.size + 1) 0 [.int .i64 day, .int .i64 gra, .int .i64 sp, .slice gA n1 gc, .slice cA n2 cc, .int .i64 sh, .int .i64 us, .int .i64 be, .slice wA n4 wc, .slice rA n3 rc, .slice F fl c] = Z := ⟨_, rfl⟩
  rw [hZ] at R RE RG
  have hZ2 : World.setCells w5 (w.heap.size + 1) 0 (#[.int .i64 day, .int .i64 gra, .int .i64 sp, .slice gA n1 gc, .slice cA n2 cc, .int .i64 sh, .int .i64 us, .int .i64 be, .slice wA n4 wc, .slice rA n3 rc, .slice F fl c] : Array Value).toList = Z := hZ
  first | rw [hZ2] | rw [hZ]
  clear hZ hZ2
  simp only [fillA, List.setIfInBounds_toArray, List.set_cons_zero, List.set_cons_succ] at R
  have hB := R.out
  have TJ := hid (show IntsAt Z F (nI FS) from ints_grown TI.out RG.out TN.out)
  obtain ⟨r0, r1, r2, r3, r4, r5, r6, r7, r8, r9, r10⟩ : _ ∧ _ ∧ _ ∧ _ ∧ _ ∧ _ ∧ _ ∧ _ ∧ _ ∧ _ ∧ _ := ⟨hB.cell 0, hB.cell 1, hB.cell 2, hB.cell 3, hB.cell 4, hB.cell 5, hB.cell 6, hB.cell 7, hB.cell 8, hB.cell 9, hB.cell 10⟩
  simp only [List.getElem?_toArray, List.getElem?_cons_zero, List.getElem?_cons_succ] at r0 r1 r2 r3 r4 r5 r6 r7 r8 r9 r10
  exact bodyPost_ret (v := .tuple #[.agg #[.int .i64 day, .int .i64 gra, .int .i64 sp, .slice gA n1 gc, .slice cA n2 cc, .int .i64 sh, .int .i64 us, .int .i64 be, .slice wA n4 wc, .slice rA n3 rc, .slice F fl c], .int .i64 0]) (by simp [results, Tryz.results79, go_sem, r0, r1, r2, r3, r4, r5, r6, r7, r8, r9, r10]) rfl ⟨_, rfl, RE.out, F, ⟨c, rfl⟩, TJ.out, TL.out⟩
end Go.Proofs.YtggggnjibedgaaaGreat
/- leadOn: all ways to lead, in one memory, each yielded. -/
set_option linter.unusedSimpArgs false
set_option linter.unusedVariables false
namespace Go.Proofs.YtggggnjibedgaaaGreat
open Go.RowKit
attribute [local go_sem] Oper.semAt_some
/-- All from block S on stays. -/
structure KeepsAll (S : Nat) (W W' : World) : Prop where
  size : W.heap.size ≤ W'.heap.size
  same : ∀ k, S ≤ k → k < W.heap.size → W'.heap[k]? = W.heap[k]?
theorem KeepsAll.blk {S k : Nat} {W W' : World} {t : TypeId} {c : Array Value} (h : KeepsAll S W W') (hk : S ≤ k) (hb : Blk W k t c) : Blk W' k t c := (h.same k hk hb.lt).trans hb
theorem KeepsAll.buf {S Bf cap : Nat} {gs : List Nat} {W W' : World} (h : KeepsAll S W W') (hb : Buf S Bf cap gs W) : Buf S Bf cap gs W' := by
  obtain ⟨cur, a2, a3, a4, a5, a6, a7⟩ := hb.split
  exact Buf.join ⟨cur, a2, (h.same Bf a2 (Array.getElem?_eq_some_iff.1 a3).1).trans a3, a4, a5, a6, a7⟩
theorem KeepsAll.lkeep {S Bf : Nat} {W W' : World} (h : KeepsAll S W W') : LKeep S Bf W W' := ⟨h.size, fun q _ _ hq _ hb => h.blk hq hb⟩
/-- The ways that begin with these, with one of the first j guides next. -/
def ledK (o : Ou) (k : Nat) (gs : List Nat) (j : Nat) : List (List Nat) := (List.range j).flatMap fun g => if mayB o g (gs ++ [g]) then ledL o k (gs ++ [g]) else []
theorem ledK_succ (o : Ou) (k : Nat) (gs : List Nat) (j : Nat) : ledK o k gs (j + 1) = ledK o k gs j ++ (if mayB o j (gs ++ [j]) then ledL o k (gs ++ [j]) else []) := by
  unfold ledK
  rw [List.range_succ, List.flatMap_append]
  simp
structure LdJ (o : Ou) (A : OA) (S : Nat) (J : List (List Nat) → World → Prop) : Prop where
  gds : ∀ pre W, J pre W → GdsAt W A.gA o.gds
  cls : ∀ pre W, J pre W → IntsAt W A.cA o.cls
  stays : ∀ pre W W' row, J pre W → W.grownBy W' row → (∀ r, row = some r → S ≤ r) → J pre W'
def LdY (o : Ou) (l m S Bf cap : Nat) (J : List (List Nat) → World → Prop) : Prop :=
  ∀ pre x W, x.length = o.cls.length → (∀ g ∈ x, g < o.gds.length) → J pre W → Buf S Bf cap x W →
    YieldAt Fence.wide m Tryz.prog l #[.slice (some ⟨Bf, 0, none⟩) x.length cap] W fun e W' => e = .returned (.bool true) ∧ J (pre ++ [x]) W' ∧ KeepsAll S W W'
def LdAt (o : Ou) (A : OA) (F : Option Addr) (fn fc l S Bf cap : Nat) (J : List (List Nat) → World → Prop) (k : Nat) : Prop :=
  ∀ gs pre W, gs.length + k = o.cls.length → (∀ g ∈ gs, g < o.gds.length) → J pre W → Buf S Bf cap gs W →
    Calls Tryz.prog 150 #[ouV o A F fn fc, .slice (some ⟨Bf, 0, none⟩) gs.length cap, .func (.yield l) #[] #[]] W fun e W' =>
      e = .returned (.bool true) ∧ J (pre ++ ledL o k gs) W' ∧ Buf S Bf cap gs W' ∧ LKeep S Bf W W'
set_option maxRecDepth 100000 in
set_option maxHeartbeats 4000000 in
theorem lead_leaf (o : Ou) (A : OA) (F : Option Addr) (fn fc l m S Bf cap : Nat) (J : List (List Nat) → World → Prop) (hJ : LdJ o A S J) (hm : o.cls.length ≤ 1000) (hY : LdY o l m S Bf cap J) : LdAt o A F fn fc l S Bf cap J 0 := by
  intro gs pre W hk hg hj hb
  rw [Nat.add_zero] at hk
  have HST := hid hJ.stays
  have HB := hid hb
  have HBs := hid (fun (W1 : World) (h : W.grownBy W1 none) => hY pre gs W1 hk hg (hJ.stays pre W W1 none hj h (fun r e => by cases e)) (hb.grown h (by simp)))
  have HE := hid (show pre ++ ledL o 0 gs = pre ++ [gs] from rfl)
  rw [HE.out]
  clear hY hg hj hJ hb HE
  refine (callsIn_wide (n := m + 1)).1 ?_
  unfold ouV
  obtain ⟨day, gra, sp, gds, cls, ⟨sh, us, be, ws⟩, ros⟩ := o
  obtain ⟨gA, gcc, cA, cc, wA, wc, rA, rc⟩ := A
  dsimp only at *
  generalize gds.length = n1 at *
  generalize ros.length = n3 at *
  generalize ws.length = n4 at *
  obtain ⟨n2, hn2⟩ : ∃ n, cls.length = n := ⟨_, rfl⟩
  rw [hn2] at hm hk ⊢
  clear hn2
  rw [hk] at HBs ⊢
  have HK := hid hk
  clear hk
  refine callsIn_of_wp Tryz.func150 rfl trivial ?_ rfl
  simp only [Tryz.ntmps150, List.size_toArray, List.length_cons, List.length_nil, Nat.reduceAdd, Nat.reduceSub, Array.replicate_succ, Array.replicate_zero, List.push_toArray, List.append_toArray, List.nil_append, List.cons_append]
  have G0 := World.grownBy_alloc W (.cells #[.int .i64 day, .int .i64 gra, .int .i64 sp, .slice gA n1 gcc, .slice cA n2 cc, .int .i64 sh, .int .i64 us, .int .i64 be, .slice wA n4 wc, .slice rA n3 rc, .slice F fn fc] 126) none
  obtain ⟨fnn, tmps, assign, body, hy, hR⟩ := HBs.out _ G0
  have HR := hid hR
  have HG := hid G0
  clear hR HBs G0
  gi_wp2_with fail
  refine HR.out.mono ?_
  rintro e W3 ⟨rfl, hJ3, hk3⟩
  have HJ3 := hid hJ3
  have HK3 := hid hk3
  have HB3 := hid (HK3.out.buf (HB.out.grown HG.out (by simp)))
  have HL3 := hid ((LKeep.grown (S := S) (grown_none (B := Bf) HG.out)).trans HK3.out.lkeep)
  clear hJ3 hk3 HR hy
  gi_wp2_with fail
  go_ret
  exact ⟨rfl, HJ3.out, HB3.out, HL3.out⟩
/-- A number appended in the memory of the guides. -/
theorem wpList_buf {ops : Array Oper} {rest : List Oper} {o : Oper} {a : Act} {Q : Exit → Act → World → Prop} (w : World) (hg : o.guard = none) (s x : Operand)
    (hop : o.op = Op.call { callee := Callee.builtin Builtin.append, args := #[s, x], argTypes := #[45, 45] }) (S Bf cap : Nat) (gs : List Nat) (g n : Nat) (hn : gs.length = n) (hs : a.eval s = .slice (some ⟨Bf, 0, none⟩) n cap) (hown : Buf S Bf cap gs w)
    (z : Nat) (hx : a.eval x = .slice (some ⟨z, 0, none⟩) 1 1) (hy : Blk w z 3 #[.int .i64 g]) (hl : n + 1 ≤ cap)
    (hK : ∀ w', Buf S Bf cap (gs ++ [g]) w' → w.grownBy w' (some Bf) → wpListIn Fence.wide 1 Tryz.prog ops Q rest (a.put o.dst (.slice (some ⟨Bf, 0, none⟩) (n + 1) cap)) w') : wpListIn Fence.wide 1 Tryz.prog ops Q (o :: rest) a w := by
  obtain ⟨i0, hi, hz0, hz1, hz2⟩ := info_parts infoIn
  subst hn
  have hown' : w.ownsRow S 3 1 (.slice (some ⟨Bf, 0, none⟩) gs.length cap) gs.length ((nI gs).flatMap gIn) := by
    have := hown
    unfold Buf Ownl at this
    rwa [nI_len] at this
  refine wpListIn_append_fits w hg s x 45 hop S 3 i0 1 Tryz.underlying45 hi hz1 Bf gs.length cap ((nI gs).flatMap gIn) hs hown' ⟨z, 0, none⟩ 1 1 (gIn (g : Int)) hx rfl ?_ (oneIn _) hl ?_
  · intro j u hj
    rw [addr_add, Nat.zero_add, hy.cell]
    match j, hj with
    | 0, hj => exact hj
    | j + 1, hj => simp [gIn] at hj
  · intro w' h1 h2
    refine hK w' ?_ h2
    unfold Buf Ownl
    rw [nI_len, List.length_append, nI_snoc, List.flatMap_append]
    exact h1
end Go.Proofs.YtggggnjibedgaaaGreat
/- leadOn: one more client. -/
set_option linter.unusedSimpArgs false
set_option linter.unusedVariables false
namespace Go.Proofs.YtggggnjibedgaaaGreat
open Go.RowKit
attribute [local go_sem] Oper.semAt_some
theorem info5 (gs : List Nat) (j : Nat) : (gs ++ [j]).length = gs.length + 1 := by simp
theorem mem_snoc {gs : List Nat} {j m : Nat} (hg : ∀ g ∈ gs, g < m) (h : j < m) : ∀ g ∈ gs ++ [j], g < m := by
  intro g hgm
  rcases List.mem_append.1 hgm with h3 | h3
  · exact hg g h3
  · simp at h3
    omega
set_option maxRecDepth 100000 in
set_option maxHeartbeats 8000000 in
theorem lead_step (o : Ou) (A : OA) (F : Option Addr) (fn fc l S Bf cap : Nat) (J : List (List Nat) → World → Prop) (hJ : LdJ o A S J) (hm : o.cls.length ≤ 1000) (hn : o.gds.length ≤ 1000) (hc : ∀ x ∈ o.cls, 0 ≤ x ∧ x ≤ 1000) (hcap : o.cls.length ≤ cap)
    (k : Nat) (hR : LdAt o A F fn fc l S Bf cap J k) : LdAt o A F fn fc l S Bf cap J (k + 1) := by
  intro gs pre W hk hg hj hb
  have HST := hid hJ.stays
  have HB := hid hb
  have HJ0 := hid hj
  have HS := hid (show S ≤ Bf ∧ Bf < W.heap.size from ⟨(hb.split).choose_spec.1, (Array.getElem?_eq_some_iff.1 (hb.split).choose_spec.2.1).1⟩)
  have HMJ := hid (fun (j : Nat) (h : j < o.gds.length) (p : List (List Nat)) (W1 : World) (h1 : J p W1) (h2 : Buf S Bf cap (gs ++ [j]) W1) =>
    mayLead_any o A F fn fc j (gs ++ [j]) (some ⟨Bf, 0, none⟩) cap h (by simp; omega) hm hc W1 (hJ.gds p W1 h1) (hJ.cls p W1 h1) h2.ints)
  have HRJ := hid (fun (j : Nat) (h : j < o.gds.length) (p : List (List Nat)) (W1 : World) (h1 : J p W1) (h2 : Buf S Bf cap (gs ++ [j]) W1) =>
    hR (gs ++ [j]) p W1 (by simp; omega) (mem_snoc hg h) h1 h2)
  have HSK := hid (fun j => ledK_succ o k gs j)
  have HE := hid (show ledL o (k + 1) gs = ledK o k gs o.gds.length from rfl)
  have HZ := hid (show ledK o k gs 0 = [] from rfl)
  rw [HE.out]
  clear hR hg hj hJ hb HE hc
  generalize ledK o k gs = LK at *
  obtain ⟨MB, hMB⟩ : ∃ MB : Nat → Bool, MB = fun j => mayB o j (gs ++ [j]) := ⟨_, rfl⟩
  obtain ⟨LL, hLL⟩ : ∃ LL : Nat → List (List Nat), LL = fun j => ledL o k (gs ++ [j]) := ⟨_, rfl⟩
  have hMB' : ∀ j, mayB o j (gs ++ [j]) = MB j := fun j => by rw [hMB]
  have hLL' : ∀ j, ledL o k (gs ++ [j]) = LL j := fun j => by rw [hLL]
  clear hMB hLL
  simp only [hMB', hLL', info5] at HMJ HRJ HSK
  clear hMB' hLL'
  refine (callsIn_wide (n := 1)).1 ?_
  unfold ouV at *
  obtain ⟨day, gra, sp, gds, cls, ⟨sh, us, be, ws⟩, ros⟩ := o
  obtain ⟨gA, gcc, cA, cc, wA, wc, rA, rc⟩ := A
  dsimp only at *
  generalize gds.length = n1 at *
  generalize ros.length = n3 at *
  generalize ws.length = n4 at *
  generalize cls.length = n2 at *
  obtain ⟨n, hgn⟩ : ∃ n, gs.length = n := ⟨_, rfl⟩
  rw [hgn] at hk HMJ HRJ ⊢
  have HN := hid hgn
  clear hgn
  have Z := blk_last W (.cells #[.int .i64 day, .int .i64 gra, .int .i64 sp, .slice gA n1 gcc, .slice cA n2 cc, .int .i64 sh, .int .i64 us, .int .i64 be, .slice wA n4 wc, .slice rA n3 rc, .slice F fn fc] 126)
  have Z0 := hid (show Blk _ _ _ _ from Z)
  have G0 := World.grownBy_alloc W (.cells #[.int .i64 day, .int .i64 gra, .int .i64 sp, .slice gA n1 gcc, .slice cA n2 cc, .int .i64 sh, .int .i64 us, .int .i64 be, .slice wA n4 wc, .slice rA n3 rc, .slice F fn fc] 126) none
  have J1 := hid (show J (pre ++ LK 0) _ by rw [HZ.out, List.append_nil]; exact HST.out _ _ _ _ HJ0.out G0 (fun r e => by cases e))
  have B1 := hid (HB.out.grown G0 (by simp))
  have L1 := hid (LKeep.grown (S := S) (grown_none (B := Bf) G0))
  clear Z G0 HJ0 HB HZ
  refine callsIn_of_wp Tryz.func150 rfl trivial ?_ rfl
  simp only [Tryz.ntmps150, List.size_toArray, List.length_cons, List.length_nil, Nat.reduceAdd, Nat.reduceSub, Array.replicate_succ, Array.replicate_zero, List.push_toArray, List.append_toArray, List.nil_append, List.cons_append]
  have hne : ((n : Int) == (n2 : Int)) = false := by simp; omega
  gi_wp2
  gi_loopw [23] (fun i wr => W.heap.size ≤ wr.heap.size ∧ Hid (Blk wr W.heap.size 126 #[.int .i64 day, .int .i64 gra, .int .i64 sp, .slice gA n1 gcc, .slice cA n2 cc, .int .i64 sh, .int .i64 us, .int .i64 be, .slice wA n4 wc, .slice rA n3 rc, .slice F fn fc]) ∧
      Hid (Buf S Bf cap gs wr) ∧ Hid (LKeep S Bf W wr) ∧ ∃ j : Nat, j ≤ n1 ∧ i = .int .i64 j ∧ Hid (J (pre ++ LK j) wr)) (fun i _ => n1 - (intOf i).toNat)
  case atStart => exact ⟨by simp, Z0, B1, L1, 0, Nat.zero_le _, rfl, J1⟩
  case round =>
    obtain ⟨hz, K0, K1, K2, j, hj, rfl, KJ⟩ := hrel
    clear Z0 B1 L1 J1
    by_cases hlt : j < n1
    · have HMj := hid (HMJ.out j hlt)
      have HRj := hid (HRJ.out j hlt)
      have HSj := hid (HSK.out j)
      clear HMJ HRJ HSK hne
      obtain ⟨hS1, hS2⟩ := HS.out
      have hBne : ¬ W.heap.size = Bf := by omega
      gi_wp2_with (gi_at_builtin; refine Halt.mk ?_)
      unfold Halt
      refine wpList_buf _ rfl _ _ rfl S Bf cap gs j n HN.out rfl (K1.out.grown (World.grownBy_alloc wr _ none) (by simp)) wr.heap.size rfl (blk_last wr _) (by omega) ?_
      intro w5 hb5 hg5
      have G5 : wr.grownBy w5 (some Bf) := (World.grownBy_alloc wr _ (some Bf)).trans hg5
      have J5 := hid (HST.out _ _ _ _ KJ.out G5 (fun r e => by injection e with e; omega))
      have X5 := hid (K0.out.grown G5 (by simp; exact hBne))
      have L5 := hid (K2.out.trans (LKeep.grown (S := S) G5))
      have B5 := hid hb5
      have hz5 : W.heap.size ≤ w5.heap.size := Nat.le_trans hz G5.size
      clear hb5 hg5 G5 K0 K1 K2 KJ
      obtain ⟨x0, x1, x2, x3, x4, x5, x6, x7, x8, x9, x10⟩ : _ ∧ _ ∧ _ ∧ _ ∧ _ ∧ _ ∧ _ ∧ _ ∧ _ ∧ _ ∧ _ := ⟨X5.out.cell 0, X5.out.cell 1, X5.out.cell 2, X5.out.cell 3, X5.out.cell 4, X5.out.cell 5, X5.out.cell 6, X5.out.cell 7, X5.out.cell 8, X5.out.cell 9, X5.out.cell 10⟩
      have xz := X5.out.lt
      simp only [List.getElem?_toArray, List.getElem?_cons_zero, List.getElem?_cons_succ] at x0 x1 x2 x3 x4 x5 x6 x7 x8 x9 x10
      gi_wp2_with fail
      refine ⟨trivial, (callsIn_wide.2 (HMj.out _ w5 J5.out B5.out)).mono ?_⟩
      rintro e w6 ⟨rfl, hE6⟩
      have G6 := ext_grown hE6
      have J6 := hid (HST.out _ _ _ none J5.out G6 (fun r e => by cases e))
      have X6 := hid (X5.out.ext hE6)
      have L6 := hid (L5.out.trans (LKeep.grown (S := S) (grown_none (B := Bf) G6)))
      have B6 := hid (B5.out.grown G6 (by simp))
      have hz6 : W.heap.size ≤ w6.heap.size := Nat.le_trans hz5 G6.size
      clear J5 X5 L5 B5 HMj x0 x1 x2 x3 x4 x5 x6 x7 x8 x9 x10 xz G6 hE6
      obtain ⟨x0, x1, x2, x3, x4, x5, x6, x7, x8, x9, x10⟩ : _ ∧ _ ∧ _ ∧ _ ∧ _ ∧ _ ∧ _ ∧ _ ∧ _ ∧ _ ∧ _ := ⟨X6.out.cell 0, X6.out.cell 1, X6.out.cell 2, X6.out.cell 3, X6.out.cell 4, X6.out.cell 5, X6.out.cell 6, X6.out.cell 7, X6.out.cell 8, X6.out.cell 9, X6.out.cell 10⟩
      have xz := X6.out.lt
      simp only [List.getElem?_toArray, List.getElem?_cons_zero, List.getElem?_cons_succ] at x0 x1 x2 x3 x4 x5 x6 x7 x8 x9 x10
      rcases Bool.eq_false_or_eq_true (MB j) with hp | hp
      · rw [hp] at HSj ⊢
        have HS2 := hid (show LK (j + 1) = LK j ++ LL j by rw [HSj.out]; simp)
        clear HSj hp
        gi_wp2_with fail
        refine ⟨trivial, (callsIn_wide.2 (HRj.out _ w6 J6.out B6.out)).mono ?_⟩
        rintro e w7 ⟨rfl, hJ7, hB7, hL7⟩
        have J7 := hid (show J (pre ++ LK (j + 1)) w7 by rw [HS2.out, ← List.append_assoc]; exact hJ7)
        have B7 := hid (hB7.front)
        have L7 := hid (L6.out.trans hL7)
        have X7 := hid (hL7.blk W.heap.size _ _ (by omega) hBne X6.out)
        have hz7 : W.heap.size ≤ w7.heap.size := Nat.le_trans hz6 hL7.size
        clear hJ7 hB7 hL7 J6 X6 L6 B6 HRj x0 x1 x2 x3 x4 x5 x6 x7 x8 x9 x10 xz
        gi_wp2_with fail
        exact ⟨⟨hz7, X7, B7, L7, j + 1, by omega, by go_num, J7⟩, by simp [intOf]; omega⟩
      · rw [hp] at HSj ⊢
        have HS2 := hid (show LK (j + 1) = LK j by rw [HSj.out]; simp)
        have B7 := hid (B6.out.front)
        rw [← HS2.out] at J6
        clear HSj hp HRj x0 x1 x2 x3 x4 x5 x6 x7 x8 x9 x10 xz
        gi_wp2_with fail
        refine ⟨trivial, ?_⟩
        gi_wp2_with fail
        exact ⟨⟨hz6, X6, B7, L6, j + 1, by omega, by go_num, J6⟩, by simp [intOf]; omega⟩
    · obtain rfl : j = n1 := by omega
      gi_wp2
      go_ret
      exact ⟨rfl, KJ.out, K1.out, K2.out⟩
theorem lead_any (o : Ou) (A : OA) (F : Option Addr) (fn fc l m S Bf cap : Nat) (J : List (List Nat) → World → Prop) (hJ : LdJ o A S J) (hm : o.cls.length ≤ 1000) (hn : o.gds.length ≤ 1000) (hc : ∀ x ∈ o.cls, 0 ≤ x ∧ x ≤ 1000) (hcap : o.cls.length ≤ cap)
    (hY : LdY o l m S Bf cap J) : ∀ k, LdAt o A F fn fc l S Bf cap J k
  | 0 => lead_leaf o A F fn fc l m S Bf cap J hJ hm hY
  | k + 1 => lead_step o A F fn fc l S Bf cap J hJ hm hn hc hcap k (lead_any o A F fn fc l m S Bf cap J hJ hm hn hc hcap hY k)
end Go.Proofs.YtggggnjibedgaaaGreat
