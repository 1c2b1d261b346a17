/- takeOn: a model, a rope and a day, checked; the damage of a factor. -/
import Derived.Test.YtggggnjibedgaaaGreatB06
import Derived.Test.YtggggnjibedgaaaGreatB01
set_option linter.unusedSimpArgs false
set_option linter.unusedVariables false
namespace Go.Proofs.YtggggnjibedgaaaGreat
open Go.RowKit
set_option maxHeartbeats 2000000 in
theorem takeOn_any (m : Md) (r : Ro) (A : Option Addr) (c : Nat) (B : Option Addr) (d : Nat) (D : Int) (hm : m.wears.length ≤ 1000) (hr : r.falls.length ≤ 1000) (w : World) (hx : WrsAt w A m.wears) (hy : FlsAt w B r.falls) :
    Calls Tryz.prog 56 #[m.val A c, r.val B d, .int .i64 D] w fun e w' => e = .returned (.tuple #[if dayE m r D = 0 then cordV m r A c B d else zeroC, .int .i64 (dayE m r D)]) ∧ Ext w w' := by
  have HT := hid (fun (W : World) (hE : Ext w W) => take_any m r A c B d hm hr W (hx.ext hE) (hy.ext hE))
  have HW := hid (fun a b c W => within_any a b c W)
  clear hx hy
  unfold dayE
  unfold takE at HT
  unfold cordV zeroC at *
  unfold Md.val Ro.val at *
  obtain ⟨b1, h1⟩ : ∃ b, mdB m = b := ⟨_, rfl⟩
  obtain ⟨b2, h2⟩ : ∃ b, roB r = b := ⟨_, rfl⟩
  rw [h1, h2] at HT ⊢
  clear h1 h2
  obtain ⟨sh, us, be, ws⟩ := m
  obtain ⟨ma, fi, le, fs⟩ := r
  dsimp only at *
  generalize ws.length = n at *
  generalize fs.length = k at *
  obtain ⟨b3, h3⟩ : ∃ b, inI D ma 99999 = b := ⟨_, rfl⟩
  rw [h3]
  cases b1
  case false => simp only [Bool.false_eq_true, reduceIte, Int.reduceEq] at HT ⊢
                have B2 := hid ((blks3 w (.cells #[.int .i64 sh, .int .i64 us, .int .i64 be, .slice A n c] 24) (.cells #[.int .i64 ma, .int .i64 fi, .int .i64 le, .slice B k d] 27) (.cells #[.int .i64 0, .int .i64 0, .int .i64 0, .slice none 0 0, .int .i64 0, .int .i64 0, .int .i64 0, .slice none 0 0] 102)).2.1)
                have B3 := hid ((blks3 w (.cells #[.int .i64 sh, .int .i64 us, .int .i64 be, .slice A n c] 24) (.cells #[.int .i64 ma, .int .i64 fi, .int .i64 le, .slice B k d] 27) (.cells #[.int .i64 0, .int .i64 0, .int .i64 0, .slice none 0 0, .int .i64 0, .int .i64 0, .int .i64 0, .slice none 0 0] 102)).2.2)
                go_enter Tryz.func56, Tryz.ntmps56
                go_wp2_with (first
                  | ((go_at_call 60; refine (HT.out _ (by (repeat' (first | with_reducible assumption | with_reducible exact Ext.refl _ | with_reducible refine Ext.alloc ?_ _ | with_reducible refine Ext.set ?_ ?_ _ | with_reducible refine Ext.drew ?_ | with_reducible refine Ext.drewN ?_ _ | with_reducible refine Ext.trans ?_ (by assumption) | (dsimp only; omega))))).mono ?_; rintro e w2 ⟨rfl, hE⟩; (first | (have hK := KC.step (n := w.heap.size + 3) (by with_reducible assumption) hE) | (have hK := KC.step (KC.step (n := w.heap.size + 3) (by with_reducible assumption) (ext_alloc1 _ _)) hE) | (have hK := KC.step (KC.refl (n := w.heap.size + 3) (by simp)) hE)); have hC := hK.cell; have hF := hK.fro; have hX := hK.ext); have hz : w.heap.size + 1 < w2.heap.size := (by have := hK.size; omega); have R0 := Blk.cell (Blk.ext B2.out hX) 0; simp only [List.getElem?_toArray, List.getElem?_cons_zero, List.getElem?_cons_succ] at R0)
                  | (go_at_call 72; refine (HW.out _ _ _ _).mono ?_; rintro e w2 ⟨rfl, rfl⟩; simp only [h3])
                  | refine wpList_store_mid rfl 102 _ _ rfl (w.heap.size + 1 + 1) 0 #[.int .i64 0, .int .i64 0, .int .i64 0, .slice none 0 0, .int .i64 0, .int .i64 0, .int .i64 0, .slice none 0 0] rfl rfl (blk_there (Blk.ext B3.out (by (repeat' (first | with_reducible assumption | with_reducible exact Ext.refl _ | with_reducible refine Ext.alloc ?_ _ | with_reducible refine Ext.set ?_ ?_ _ | with_reducible refine Ext.drew ?_ | with_reducible refine Ext.drewN ?_ _ | with_reducible refine Ext.trans ?_ (by assumption) | (dsimp only; omega))))) rfl) infoCord (one_of (by simp [Value.oneCell'])) ?_)
                refine body_abs (fun X => Blk X (w.heap.size + 1 + 1) 102 #[.int .i64 0, .int .i64 0, .int .i64 0, .slice none 0 0, .int .i64 0, .int .i64 0, .int .i64 0, .slice none 0 0] ∧ Ext w X) ⟨?hb, ?he⟩ ?_
                case hb => exact Blk.fill (Blk.ext B3.out (by (repeat' (first | with_reducible assumption | with_reducible exact Ext.refl _ | with_reducible refine Ext.alloc ?_ _ | with_reducible refine Ext.set ?_ ?_ _ | with_reducible refine Ext.drew ?_ | with_reducible refine Ext.drewN ?_ _ | with_reducible refine Ext.trans ?_ (by assumption) | (dsimp only; omega))))) _ 0
                case he => exact ext_setCells (a := w) (by (repeat' (first | with_reducible assumption | with_reducible exact Ext.refl _ | with_reducible refine Ext.alloc ?_ _ | with_reducible refine Ext.set ?_ ?_ _ | with_reducible refine Ext.drew ?_ | with_reducible refine Ext.drewN ?_ _ | with_reducible refine Ext.trans ?_ (by assumption) | (dsimp only; omega)))) (by omega) _ _
                rintro X ⟨hB, XE⟩
                have r0 := hB.cell 0
                have r1 := hB.cell 1
                have r2 := hB.cell 2
                have r3 := hB.cell 3
                have r4 := hB.cell 4
                have r5 := hB.cell 5
                have r6 := hB.cell 6
                have r7 := hB.cell 7
                simp only [List.getElem?_toArray, List.getElem?_cons_zero, List.getElem?_cons_succ] at r0 r1 r2 r3 r4 r5 r6 r7
                exact bodyPost_ret (v := .tuple #[.agg #[.int .i64 0, .int .i64 0, .int .i64 0, .slice none 0 0, .int .i64 0, .int .i64 0, .int .i64 0, .slice none 0 0], .int .i64 90]) (by simp [results, Tryz.results56, go_sem, r0, r1, r2, r3, r4, r5, r6, r7]) rfl ⟨rfl, XE⟩
  cases b2
  case false => simp only [Bool.false_eq_true, reduceIte, Int.reduceEq] at HT ⊢
                have B2 := hid ((blks3 w (.cells #[.int .i64 sh, .int .i64 us, .int .i64 be, .slice A n c] 24) (.cells #[.int .i64 ma, .int .i64 fi, .int .i64 le, .slice B k d] 27) (.cells #[.int .i64 0, .int .i64 0, .int .i64 0, .slice none 0 0, .int .i64 0, .int .i64 0, .int .i64 0, .slice none 0 0] 102)).2.1)
                have B3 := hid ((blks3 w (.cells #[.int .i64 sh, .int .i64 us, .int .i64 be, .slice A n c] 24) (.cells #[.int .i64 ma, .int .i64 fi, .int .i64 le, .slice B k d] 27) (.cells #[.int .i64 0, .int .i64 0, .int .i64 0, .slice none 0 0, .int .i64 0, .int .i64 0, .int .i64 0, .slice none 0 0] 102)).2.2)
                go_enter Tryz.func56, Tryz.ntmps56
                go_wp2_with (first
                  | ((go_at_call 60; refine (HT.out _ (by (repeat' (first | with_reducible assumption | with_reducible exact Ext.refl _ | with_reducible refine Ext.alloc ?_ _ | with_reducible refine Ext.set ?_ ?_ _ | with_reducible refine Ext.drew ?_ | with_reducible refine Ext.drewN ?_ _ | with_reducible refine Ext.trans ?_ (by assumption) | (dsimp only; omega))))).mono ?_; rintro e w2 ⟨rfl, hE⟩; (first | (have hK := KC.step (n := w.heap.size + 3) (by with_reducible assumption) hE) | (have hK := KC.step (KC.step (n := w.heap.size + 3) (by with_reducible assumption) (ext_alloc1 _ _)) hE) | (have hK := KC.step (KC.refl (n := w.heap.size + 3) (by simp)) hE)); have hC := hK.cell; have hF := hK.fro; have hX := hK.ext); have hz : w.heap.size + 1 < w2.heap.size := (by have := hK.size; omega); have R0 := Blk.cell (Blk.ext B2.out hX) 0; simp only [List.getElem?_toArray, List.getElem?_cons_zero, List.getElem?_cons_succ] at R0)
                  | (go_at_call 72; refine (HW.out _ _ _ _).mono ?_; rintro e w2 ⟨rfl, rfl⟩; simp only [h3])
                  | refine wpList_store_mid rfl 102 _ _ rfl (w.heap.size + 1 + 1) 0 #[.int .i64 0, .int .i64 0, .int .i64 0, .slice none 0 0, .int .i64 0, .int .i64 0, .int .i64 0, .slice none 0 0] rfl rfl (blk_there (Blk.ext B3.out (by (repeat' (first | with_reducible assumption | with_reducible exact Ext.refl _ | with_reducible refine Ext.alloc ?_ _ | with_reducible refine Ext.set ?_ ?_ _ | with_reducible refine Ext.drew ?_ | with_reducible refine Ext.drewN ?_ _ | with_reducible refine Ext.trans ?_ (by assumption) | (dsimp only; omega))))) rfl) infoCord (one_of (by simp [Value.oneCell'])) ?_)
                refine body_abs (fun X => Blk X (w.heap.size + 1 + 1) 102 #[.int .i64 0, .int .i64 0, .int .i64 0, .slice none 0 0, .int .i64 0, .int .i64 0, .int .i64 0, .slice none 0 0] ∧ Ext w X) ⟨?hb, ?he⟩ ?_
                case hb => exact Blk.fill (Blk.ext B3.out (by (repeat' (first | with_reducible assumption | with_reducible exact Ext.refl _ | with_reducible refine Ext.alloc ?_ _ | with_reducible refine Ext.set ?_ ?_ _ | with_reducible refine Ext.drew ?_ | with_reducible refine Ext.drewN ?_ _ | with_reducible refine Ext.trans ?_ (by assumption) | (dsimp only; omega))))) _ 0
                case he => exact ext_setCells (a := w) (by (repeat' (first | with_reducible assumption | with_reducible exact Ext.refl _ | with_reducible refine Ext.alloc ?_ _ | with_reducible refine Ext.set ?_ ?_ _ | with_reducible refine Ext.drew ?_ | with_reducible refine Ext.drewN ?_ _ | with_reducible refine Ext.trans ?_ (by assumption) | (dsimp only; omega)))) (by omega) _ _
                rintro X ⟨hB, XE⟩
                have r0 := hB.cell 0
                have r1 := hB.cell 1
                have r2 := hB.cell 2
                have r3 := hB.cell 3
                have r4 := hB.cell 4
                have r5 := hB.cell 5
                have r6 := hB.cell 6
                have r7 := hB.cell 7
                simp only [List.getElem?_toArray, List.getElem?_cons_zero, List.getElem?_cons_succ] at r0 r1 r2 r3 r4 r5 r6 r7
                exact bodyPost_ret (v := .tuple #[.agg #[.int .i64 0, .int .i64 0, .int .i64 0, .slice none 0 0, .int .i64 0, .int .i64 0, .int .i64 0, .slice none 0 0], .int .i64 91]) (by simp [results, Tryz.results56, go_sem, r0, r1, r2, r3, r4, r5, r6, r7]) rfl ⟨rfl, XE⟩
  cases b3
  case false => simp only [Bool.false_eq_true, reduceIte, Int.reduceEq] at HT ⊢
                have B2 := hid ((blks3 w (.cells #[.int .i64 sh, .int .i64 us, .int .i64 be, .slice A n c] 24) (.cells #[.int .i64 ma, .int .i64 fi, .int .i64 le, .slice B k d] 27) (.cells #[.int .i64 0, .int .i64 0, .int .i64 0, .slice none 0 0, .int .i64 0, .int .i64 0, .int .i64 0, .slice none 0 0] 102)).2.1)
                have B3 := hid ((blks3 w (.cells #[.int .i64 sh, .int .i64 us, .int .i64 be, .slice A n c] 24) (.cells #[.int .i64 ma, .int .i64 fi, .int .i64 le, .slice B k d] 27) (.cells #[.int .i64 0, .int .i64 0, .int .i64 0, .slice none 0 0, .int .i64 0, .int .i64 0, .int .i64 0, .slice none 0 0] 102)).2.2)
                go_enter Tryz.func56, Tryz.ntmps56
                go_wp2_with (first
                  | ((go_at_call 60; refine (HT.out _ (by (repeat' (first | with_reducible assumption | with_reducible exact Ext.refl _ | with_reducible refine Ext.alloc ?_ _ | with_reducible refine Ext.set ?_ ?_ _ | with_reducible refine Ext.drew ?_ | with_reducible refine Ext.drewN ?_ _ | with_reducible refine Ext.trans ?_ (by assumption) | (dsimp only; omega))))).mono ?_; rintro e w2 ⟨rfl, hE⟩; (first | (have hK := KC.step (n := w.heap.size + 3) (by with_reducible assumption) hE) | (have hK := KC.step (KC.step (n := w.heap.size + 3) (by with_reducible assumption) (ext_alloc1 _ _)) hE) | (have hK := KC.step (KC.refl (n := w.heap.size + 3) (by simp)) hE)); have hC := hK.cell; have hF := hK.fro; have hX := hK.ext); have hz : w.heap.size + 1 < w2.heap.size := (by have := hK.size; omega); have R0 := Blk.cell (Blk.ext B2.out hX) 0; simp only [List.getElem?_toArray, List.getElem?_cons_zero, List.getElem?_cons_succ] at R0)
                  | (go_at_call 72; refine (HW.out _ _ _ _).mono ?_; rintro e w2 ⟨rfl, rfl⟩; simp only [h3])
                  | refine wpList_store_mid rfl 102 _ _ rfl (w.heap.size + 1 + 1) 0 #[.int .i64 0, .int .i64 0, .int .i64 0, .slice none 0 0, .int .i64 0, .int .i64 0, .int .i64 0, .slice none 0 0] rfl rfl (blk_there (Blk.ext B3.out (by (repeat' (first | with_reducible assumption | with_reducible exact Ext.refl _ | with_reducible refine Ext.alloc ?_ _ | with_reducible refine Ext.set ?_ ?_ _ | with_reducible refine Ext.drew ?_ | with_reducible refine Ext.drewN ?_ _ | with_reducible refine Ext.trans ?_ (by assumption) | (dsimp only; omega))))) rfl) infoCord (one_of (by simp [Value.oneCell'])) ?_)
                refine body_abs (fun X => Blk X (w.heap.size + 1 + 1) 102 #[.int .i64 0, .int .i64 0, .int .i64 0, .slice none 0 0, .int .i64 0, .int .i64 0, .int .i64 0, .slice none 0 0] ∧ Ext w X) ⟨?hb, ?he⟩ ?_
                case hb => exact Blk.fill (Blk.ext B3.out (by (repeat' (first | with_reducible assumption | with_reducible exact Ext.refl _ | with_reducible refine Ext.alloc ?_ _ | with_reducible refine Ext.set ?_ ?_ _ | with_reducible refine Ext.drew ?_ | with_reducible refine Ext.drewN ?_ _ | with_reducible refine Ext.trans ?_ (by assumption) | (dsimp only; omega))))) _ 0
                case he => exact ext_setCells (a := w) (by (repeat' (first | with_reducible assumption | with_reducible exact Ext.refl _ | with_reducible refine Ext.alloc ?_ _ | with_reducible refine Ext.set ?_ ?_ _ | with_reducible refine Ext.drew ?_ | with_reducible refine Ext.drewN ?_ _ | with_reducible refine Ext.trans ?_ (by assumption) | (dsimp only; omega)))) (by omega) _ _
                rintro X ⟨hB, XE⟩
                have r0 := hB.cell 0
                have r1 := hB.cell 1
                have r2 := hB.cell 2
                have r3 := hB.cell 3
                have r4 := hB.cell 4
                have r5 := hB.cell 5
                have r6 := hB.cell 6
                have r7 := hB.cell 7
                simp only [List.getElem?_toArray, List.getElem?_cons_zero, List.getElem?_cons_succ] at r0 r1 r2 r3 r4 r5 r6 r7
                exact bodyPost_ret (v := .tuple #[.agg #[.int .i64 0, .int .i64 0, .int .i64 0, .slice none 0 0, .int .i64 0, .int .i64 0, .int .i64 0, .slice none 0 0], .int .i64 1]) (by simp [results, Tryz.results56, go_sem, r0, r1, r2, r3, r4, r5, r6, r7]) rfl ⟨rfl, XE⟩
  simp only [Bool.false_eq_true, reduceIte, Int.reduceEq] at HT ⊢
  have B2 := hid ((blks3 w (.cells #[.int .i64 sh, .int .i64 us, .int .i64 be, .slice A n c] 24) (.cells #[.int .i64 ma, .int .i64 fi, .int .i64 le, .slice B k d] 27) (.cells #[.int .i64 0, .int .i64 0, .int .i64 0, .slice none 0 0, .int .i64 0, .int .i64 0, .int .i64 0, .slice none 0 0] 102)).2.1)
  have B3 := hid ((blks3 w (.cells #[.int .i64 sh, .int .i64 us, .int .i64 be, .slice A n c] 24) (.cells #[.int .i64 ma, .int .i64 fi, .int .i64 le, .slice B k d] 27) (.cells #[.int .i64 0, .int .i64 0, .int .i64 0, .slice none 0 0, .int .i64 0, .int .i64 0, .int .i64 0, .slice none 0 0] 102)).2.2)
  go_enter Tryz.func56, Tryz.ntmps56
  go_wp2_with (first
    | ((go_at_call 60; refine (HT.out _ (by (repeat' (first | with_reducible assumption | with_reducible exact Ext.refl _ | with_reducible refine Ext.alloc ?_ _ | with_reducible refine Ext.set ?_ ?_ _ | with_reducible refine Ext.drew ?_ | with_reducible refine Ext.drewN ?_ _ | with_reducible refine Ext.trans ?_ (by assumption) | (dsimp only; omega))))).mono ?_; rintro e w2 ⟨rfl, hE⟩; (first | (have hK := KC.step (n := w.heap.size + 3) (by with_reducible assumption) hE) | (have hK := KC.step (KC.step (n := w.heap.size + 3) (by with_reducible assumption) (ext_alloc1 _ _)) hE) | (have hK := KC.step (KC.refl (n := w.heap.size + 3) (by simp)) hE)); have hC := hK.cell; have hF := hK.fro; have hX := hK.ext); have hz : w.heap.size + 1 < w2.heap.size := (by have := hK.size; omega); have R0 := Blk.cell (Blk.ext B2.out hX) 0; simp only [List.getElem?_toArray, List.getElem?_cons_zero, List.getElem?_cons_succ] at R0)
    | (go_at_call 72; refine (HW.out _ _ _ _).mono ?_; rintro e w2 ⟨rfl, rfl⟩; simp only [h3])
    | refine wpList_store_mid rfl 102 _ _ rfl (w.heap.size + 1 + 1) 0 #[.int .i64 sh, .int .i64 us, .int .i64 be, .slice A n c, .int .i64 ma, .int .i64 fi, .int .i64 le, .slice B k d] rfl rfl (blk_there (Blk.ext B3.out (by (repeat' (first | with_reducible assumption | with_reducible exact Ext.refl _ | with_reducible refine Ext.alloc ?_ _ | with_reducible refine Ext.set ?_ ?_ _ | with_reducible refine Ext.drew ?_ | with_reducible refine Ext.drewN ?_ _ | with_reducible refine Ext.trans ?_ (by assumption) | (dsimp only; omega))))) rfl) infoCord (one_of (by simp [Value.oneCell'])) ?_)
  refine body_abs (fun X => Blk X (w.heap.size + 1 + 1) 102 #[.int .i64 sh, .int .i64 us, .int .i64 be, .slice A n c, .int .i64 ma, .int .i64 fi, .int .i64 le, .slice B k d] ∧ Ext w X) ⟨?hb, ?he⟩ ?_
  case hb => exact Blk.fill (Blk.ext B3.out (by (repeat' (first | with_reducible assumption | with_reducible exact Ext.refl _ | with_reducible refine Ext.alloc ?_ _ | with_reducible refine Ext.set ?_ ?_ _ | with_reducible refine Ext.drew ?_ | with_reducible refine Ext.drewN ?_ _ | with_reducible refine Ext.trans ?_ (by assumption) | (dsimp only; omega))))) _ 0
  case he => exact ext_setCells (a := w) (by (repeat' (first | with_reducible assumption | with_reducible exact Ext.refl _ | with_reducible refine Ext.alloc ?_ _ | with_reducible refine Ext.set ?_ ?_ _ | with_reducible refine Ext.drew ?_ | with_reducible refine Ext.drewN ?_ _ | with_reducible refine Ext.trans ?_ (by assumption) | (dsimp only; omega)))) (by omega) _ _
  rintro X ⟨hB, XE⟩
  have r0 := hB.cell 0
  have r1 := hB.cell 1
  have r2 := hB.cell 2
  have r3 := hB.cell 3
  have r4 := hB.cell 4
  have r5 := hB.cell 5
  have r6 := hB.cell 6
  have r7 := hB.cell 7
  simp only [List.getElem?_toArray, List.getElem?_cons_zero, List.getElem?_cons_succ] at r0 r1 r2 r3 r4 r5 r6 r7
  exact bodyPost_ret (v := .tuple #[.agg #[.int .i64 sh, .int .i64 us, .int .i64 be, .slice A n c, .int .i64 ma, .int .i64 fi, .int .i64 le, .slice B k d], .int .i64 0]) (by simp [results, Tryz.results56, go_sem, r0, r1, r2, r3, r4, r5, r6, r7]) rfl ⟨rfl, XE⟩
set_option maxRecDepth 100000 in
set_option maxHeartbeats 2000000 in
theorem damageOf_any (m : Md) (r : Ro) (A : Option Addr) (c : Nat) (B : Option Addr) (d : Nat) (f : Int) (hm : m.wears.length ≤ 1000) (w : World) (hx : WrsAt w A m.wears) :
    Calls Tryz.prog 99 #[cordV m r A c B d, .int .i64 f] w fun e w' => e = .returned (.int .i64 (harmN m.wears f)) ∧ Ext w w' := by
  have HX := hid hx
  unfold cordV
  obtain ⟨sh, us, be, ws⟩ := m
  obtain ⟨ma, fi, le, fs⟩ := r
  dsimp only at *
  obtain ⟨n, hn⟩ : ∃ n, ws.length = n := ⟨_, rfl⟩
  rw [hn] at hm ⊢
  have HN := hid hn
  generalize fs.length = k at *
  clear hx hn
  go_enter Tryz.func99, Tryz.ntmps99
  go_wp2
  go_loopw [5, 12] (fun v i wr => Ext w wr ∧ ∃ j : Nat, j ≤ n ∧ i = .int .i64 j ∧ v = .int .i64 (harmL f (ws.take j) 0)) (fun _ i _ => n - (intOf i).toNat)
  case atStart => exact ⟨by (repeat' (first | with_reducible assumption | with_reducible exact Ext.refl _ | with_reducible refine Ext.alloc ?_ _ | with_reducible refine Ext.set ?_ ?_ _ | with_reducible refine Ext.drew ?_ | with_reducible refine Ext.drewN ?_ _ | with_reducible refine Ext.trans ?_ (by assumption) | (dsimp only; omega))), 0, Nat.zero_le _, rfl, rfl⟩
  case round =>
    obtain ⟨hE, j, hj, rfl, rfl⟩ := hrel
    by_cases hlt : j < n
    · obtain ⟨b, off, rfl, hb, hck⟩ := (HX.out.ext hE).at_ HN.out hlt
      have HS := hid (harmL_snoc f ws j (by rw [HN.out]; omega))
      clear HX
      generalize ws.getD j zeroWr = x at *
      obtain ⟨xf, xd⟩ := x
      obtain ⟨c0, c1⟩ := hck
      dsimp only at *
      by_cases hf : xf ≤ f
      · rw [if_pos hf] at HS
        generalize harmL f (ws.take j) 0 = y at *
        go_wp2
        go_roundw
        case rel => exact ⟨by (repeat' (first | with_reducible assumption | with_reducible exact Ext.refl _ | with_reducible refine Ext.alloc ?_ _ | with_reducible refine Ext.set ?_ ?_ _ | with_reducible refine Ext.drew ?_ | with_reducible refine Ext.drewN ?_ _ | with_reducible refine Ext.trans ?_ (by assumption) | (dsimp only; omega))), j + 1, by omega, by go_num, by rw [HS.out]⟩
        case measure => simp [intOf]; omega
      · rw [if_neg hf] at HS
        generalize harmL f (ws.take j) 0 = y at *
        go_wp2
        go_roundw
        case rel => exact ⟨by (repeat' (first | with_reducible assumption | with_reducible exact Ext.refl _ | with_reducible refine Ext.alloc ?_ _ | with_reducible refine Ext.set ?_ ?_ _ | with_reducible refine Ext.drew ?_ | with_reducible refine Ext.drewN ?_ _ | with_reducible refine Ext.trans ?_ (by assumption) | (dsimp only; omega))), j + 1, by omega, by go_num, by rw [HS.out]⟩
        case measure => simp [intOf]; omega
    · have HP := hid (harmL_end f ws j (by rw [HN.out]; omega))
      generalize harmL f (ws.take j) 0 = y at *
      go_wp2
      go_ret
      exact ⟨ret_int HP.out, by (repeat' (first | with_reducible assumption | with_reducible exact Ext.refl _ | with_reducible refine Ext.alloc ?_ _ | with_reducible refine Ext.set ?_ ?_ _ | with_reducible refine Ext.drew ?_ | with_reducible refine Ext.drewN ?_ _ | with_reducible refine Ext.trans ?_ (by assumption) | (dsimp only; omega)))⟩
end Go.Proofs.YtggggnjibedgaaaGreat
/- Sums of damages: step by step, and within bounds. -/
set_option linter.unusedSimpArgs false
set_option linter.unusedVariables false
namespace Go.Proofs.YtggggnjibedgaaaGreat
open Go.RowKit
theorem spB_iff {l h b c : Int} : spB l h b c = true ↔ b ≤ l ∧ l ≤ h ∧ h ≤ c := by
  unfold spB; simp [and_assoc]
theorem inI_iff {a b c : Int} : inI a b c = true ↔ b ≤ a ∧ a ≤ c := by
  unfold inI; simp
def dmgS (ws : List Wr) (d : Int) (s : Int × Int) (f : Fl) : Int × Int := if f.day ≤ d then (s.1 + harmN ws (facN f.hl f.oh), s.2 + harmN ws (facN f.hh f.ol)) else s
def dmgK (ws : List Wr) (d : Int) (fs : List Fl) (k : Nat) : Int × Int := (fs.take k).foldl (dmgS ws d) (0, 0)
theorem dmgL_eq (ws : List Wr) (d : Int) (fs : List Fl) : dmgL ws d fs = fs.foldl (dmgS ws d) (0, 0) := rfl
theorem dmgK_zero (ws : List Wr) (d : Int) (fs : List Fl) : dmgK ws d fs 0 = (0, 0) := rfl
theorem dmgK_succ (ws : List Wr) (d : Int) (fs : List Fl) (k : Nat) (h : k < fs.length) : dmgK ws d fs (k + 1) = dmgS ws d (dmgK ws d fs k) (fs.getD k zeroFl) := foldl_take_snoc fs (dmgS ws d) (0, 0) zeroFl k h
theorem dmgK_end (ws : List Wr) (d : Int) (fs : List Fl) (k : Nat) (h : fs.length ≤ k) : dmgK ws d fs k = dmgL ws d fs := by
  unfold dmgK; rw [List.take_of_length_le h]; rfl
theorem harmL_bd (f : Int) : ∀ (ws : List Wr) (d : Int), (∀ x ∈ ws, 0 ≤ x.dmg ∧ x.dmg ≤ 100) → 0 ≤ d → d ≤ 100 → 0 ≤ harmL f ws d ∧ harmL f ws d ≤ 100
  | [], d, _, h1, h2 => ⟨h1, h2⟩
  | w :: t, d, h, h1, h2 => by
    have := h w (by simp)
    unfold harmL
    by_cases hf : w.fac ≤ f
    · rw [if_pos hf]; exact harmL_bd f t _ (fun x hx => h x (by simp [hx])) this.1 this.2
    · rw [if_neg hf]; exact harmL_bd f t _ (fun x hx => h x (by simp [hx])) h1 h2
theorem mdB_parts {m : Md} (h : mdB m = true) : (1 ≤ m.shelf ∧ m.shelf ≤ 10000) ∧ (1 ≤ m.use ∧ m.use ≤ 10000) ∧ (0 ≤ m.bears ∧ m.bears ≤ 100) ∧ m.wears.length ≤ 6 ∧ (∀ x ∈ m.wears, (1 ≤ x.fac ∧ x.fac ≤ 200) ∧ (0 ≤ x.dmg ∧ x.dmg ≤ 100)) ∧ ordB wrO zeroWr m.wears = true := by
  unfold mdB at h
  simp only [Bool.and_eq_true, decide_eq_true_eq, inI_iff, List.all_eq_true] at h
  obtain ⟨⟨⟨⟨⟨h1, h2⟩, h3⟩, h4⟩, h5⟩, h6⟩ := h
  refine ⟨h1, h2, h3, h4, fun x hx => ?_, h6⟩
  have := h5 x hx
  unfold wrB at this
  simp only [Bool.and_eq_true, inI_iff] at this
  exact this
theorem roB_parts {r : Ro} (h : roB r = true) : (0 ≤ r.made ∧ r.made ≤ 99999) ∧ (r.first = -1 ∨ (r.made ≤ r.first ∧ r.first ≤ 99999)) ∧ (1 ≤ r.len ∧ r.len ≤ 100) ∧ r.falls.length ≤ 10 ∧
    (∀ x ∈ r.falls, ¬ r.first = -1 ∧ (r.first ≤ x.day ∧ x.day ≤ 99999) ∧ (1 ≤ x.hl ∧ x.hl ≤ x.hh ∧ x.hh ≤ 1000) ∧ (1 ≤ x.ol ∧ x.ol ≤ x.oh ∧ x.oh ≤ 1000)) ∧ ordB flO zeroFl r.falls = true := by
  unfold roB at h
  simp only [Bool.and_eq_true, Bool.or_eq_true, decide_eq_true_eq, inI_iff, List.all_eq_true, beq_iff_eq] at h
  obtain ⟨⟨⟨⟨⟨h1, h2⟩, h3⟩, h4⟩, h5⟩, h6⟩ := h
  refine ⟨h1, h2, h3, h4, fun x hx => ?_, h6⟩
  have := h5 x hx
  unfold flB at this
  simp only [Bool.and_eq_true, inI_iff, spB_iff, Bool.not_eq_true', beq_eq_false_iff_ne] at this
  obtain ⟨⟨⟨a, b⟩, c⟩, d⟩ := this
  exact ⟨a, b, c, d⟩
theorem harmN_bd {m : Md} (h : mdB m = true) (f : Int) : 0 ≤ harmN m.wears f ∧ harmN m.wears f ≤ 100 := harmL_bd f m.wears 0 (fun x hx => ((mdB_parts h).2.2.2.2.1 x hx).2) (by omega) (by omega)
theorem dmgK_bd {m : Md} (h : mdB m = true) (d : Int) (fs : List Fl) : ∀ k, k ≤ fs.length → (0 ≤ (dmgK m.wears d fs k).1 ∧ (dmgK m.wears d fs k).1 ≤ 100 * k) ∧ (0 ≤ (dmgK m.wears d fs k).2 ∧ (dmgK m.wears d fs k).2 ≤ 100 * k)
  | 0, _ => by simp [dmgK_zero]
  | k + 1, hk => by
    have ih := dmgK_bd h d fs k (by omega)
    rw [dmgK_succ m.wears d fs k (by omega)]
    unfold dmgS
    have b1 := harmN_bd h (facN (fs.getD k zeroFl).hl (fs.getD k zeroFl).oh)
    have b2 := harmN_bd h (facN (fs.getD k zeroFl).hh (fs.getD k zeroFl).ol)
    split
    · dsimp only; omega
    · omega
end Go.Proofs.YtggggnjibedgaaaGreat
