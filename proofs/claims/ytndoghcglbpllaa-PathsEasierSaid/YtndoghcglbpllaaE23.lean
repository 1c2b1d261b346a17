/- The theorem of what makes a way easier. -/
import Derived.Test.YtndoghcglbpllaaE20
import Derived.Test.YtndoghcglbpllaaE22
set_option linter.unusedSimpArgs false
set_option linter.unusedVariables false
namespace Go.Proofs.Ytndoghcglbpllaa
open Go.RowKit
theorem easier_fact {g l l' pl pl' ph ph' from_ start s2 : Int} {ps qs : List Pt} {mm : Nat} (hv : vNet (mm : Int) ps = true) (hpa : vParty g l pl ph = true) (hvq : vNet (mm : Int) qs = true) (hpq : vParty g l' pl' ph' = true) (hen : EasyNet ps qs) (hl : l' ≤ l) (hph : ph' ≤ ph) (h0 : 0 ≤ start) (h9 : start ≤ 2880) (hs : start ≤ s2) (hs9 : s2 ≤ 2880) {i : Nat} (hi : i < mm) :
    ∃ a b e : Int, (arrList selHi g l pl ph ps (mm : Int) from_ start).getD i 0 = a ∧ (arrList selHi g l pl ph ps (mm : Int) from_ s2).getD i 0 = b ∧ (arrList selHi g l' pl' ph' qs (mm : Int) from_ start).getD i 0 = e ∧
      ((b < 0 ∧ a < 0) ∨ (b < 0 ∧ 0 ≤ a ∧ 0 ≤ e ∧ e ≤ a) ∨ (0 ≤ b ∧ 0 ≤ a ∧ a ≤ b ∧ 0 ≤ e ∧ e ≤ a)) := by
  obtain ⟨hm1, hm2, hN⟩ := vNet_ok hv
  obtain ⟨_, _, hQ⟩ := vNet_ok hvq
  have ha := vParty_ok hpa
  have ha' := vParty_ok hpq
  refine ⟨_, _, _, (arr_facts hv hpa hi h0 h9).2, (arr_facts hv hpa hi (by omega) hs9).2, (arr_facts hvq hpq hi h0 h9).2, ?_⟩
  unfold sureAt
  simp only [Int.toNat_natCast] at hN hQ ⊢
  have m1 := (rows_mono selHi g l pl ph ps mm from_.toNat hs (mm - 1)).2 i
  have m2 := rows_easy (g := g) (l := l) (l' := l') (pl := pl) (pl' := pl') (ph := ph) (ph' := ph') hen hN hQ ha'.l1 hl (by have := ha'.p1; have := ha'.p2; omega) hph from_.toNat start i hi (mm - 1)
  have b1 := (rows_bd selHi_pos (g := g) ha hN (from_ := from_.toNat) h0 (by omega : start ≤ 2881) (mm - 1)).2 i hi
  have b2 := (rows_bd selHi_pos (g := g) ha hN (from_ := from_.toNat) (by omega : 0 ≤ s2) (by omega : s2 ≤ 2881) (mm - 1)).2 i hi
  have b3 := (rows_bd selHi_pos (g := g) ha' hQ (from_ := from_.toNat) h0 (by omega : start ≤ 2881) (mm - 1)).2 i hi
  revert m1 m2 b1 b2 b3
  generalize (rows selHi g l pl ph ps mm from_.toNat start (mm - 1)).getD i 0 = X
  generalize (rows selHi g l pl ph ps mm from_.toNat s2 (mm - 1)).getD i 0 = Y
  generalize (rows selHi g l' pl' ph' qs mm from_.toNat start (mm - 1)).getD i 0 = Z
  intro m1 m2 b1 b2 b3
  unfold orN
  split <;> split <;> split <;> omega
theorem arr_len {g l pl ph from_ s : Int} {ps : List Pt} {mm : Nat} (h1 : vNet (mm : Int) ps = true) (h2 : vParty g l pl ph = true) (h0 : 0 ≤ s) (h9 : s ≤ 2880) : (arrList selHi g l pl ph ps (mm : Int) from_ s).length = mm := by
  have := (vNet_ok h1).1
  exact (arr_facts (tt := 0) h1 h2 (by omega) h0 h9).1
set_option maxRecDepth 100000 in
set_option maxHeartbeats 8000000 in
theorem pathsEasier_any (m g l pl ph from_ to_ start D v5 : Int) (RA : Option Addr) (rn rc : Nat) (A : Option Addr) (n c : Nat) (ps : List Pt) (hn : ps.length = n) (yl yp yd yi yg ys yo f2 d2 g2 tl2 th2 sl2 sh2 : Int) (AM : Option Addr) (cm : Nat) (om : List (Int × Int)) (hcm : om.length ≤ cm) (w : World) (hp : PathsAt w A ps) (hom : OpensAt w AM om) :
    Calls Try.prog 8 #[.agg #[.int .i64 m, .slice A n c], .agg #[.int .i64 g, .int .i64 l, .int .i64 pl, .int .i64 ph], .agg #[.int .i64 from_, .int .i64 to_, .int .i64 start, .int .i64 D, .slice RA rn rc, .int .i64 v5], .agg #[.int .i64 yl, .int .i64 yp, .int .i64 yd, .int .i64 yi, .int .i64 yg, .int .i64 ys, .int .i64 yo, .int .i64 f2, .int .i64 d2, .int .i64 g2, .int .i64 tl2, .int .i64 th2, .int .i64 sl2, .int .i64 sh2, .slice AM om.length cm]] w fun e w' => e = .returned (.bool true) ∧ Ext w w' := by
  have HF := hid (fun (W : World) (hW : Ext w W) => fits_any m g l pl ph from_ to_ start D v5 (.slice RA rn rc) rfl A n c ps hn W (hp.ext hW))
  have HA := hid (fun (s : Int) (hb : beginE m g l pl ph ps [from_] [s] = 0) (W : World) (hW : Ext w W) => arrive_ok m g l pl ph from_ s A n c ps hn W (hp.ext hW) hb)
  have HES := hid (fun (hv : vNet m ps = true) (hpa : vParty g l pl ph = true) (hn9 : n ≤ 9) (h1 : 0 ≤ yp ∧ yp ≤ 300) (h2 : 0 ≤ yd ∧ yd ≤ 100) (h3 : 0 ≤ yg ∧ yg ≤ 10) (h4 : 0 ≤ ys ∧ ys ≤ 100) (W : World) (hW : Ext w W) => eased_any m g l pl ph A n c ps hn W (hp.ext hW) hv hpa hn9 yl yp yd yi yg ys yo f2 d2 g2 tl2 th2 sl2 sh2 AM cm om (hom.ext hW) hcm h1 h2 h3 h4)
  have HN := hid hn
  have t0 := two_blocks w (.cells #[.int .i64 m, .slice A n c] 24) (.cells #[.int .i64 g, .int .i64 l, .int .i64 pl, .int .i64 ph] 28)
  have t1 := two_blocks ((w.alloc (.cells #[.int .i64 m, .slice A n c] 24)).alloc (.cells #[.int .i64 g, .int .i64 l, .int .i64 pl, .int .i64 ph] 28)) (.cells #[.int .i64 from_, .int .i64 to_, .int .i64 start, .int .i64 D, .slice RA rn rc, .int .i64 v5] 31) (.cells #[.int .i64 yl, .int .i64 yp, .int .i64 yd, .int .i64 yi, .int .i64 yg, .int .i64 ys, .int .i64 yo, .int .i64 f2, .int .i64 d2, .int .i64 g2, .int .i64 tl2, .int .i64 th2, .int .i64 sl2, .int .i64 sh2, .slice AM om.length cm] 59)
  simp only [World.size_alloc] at t1
  have T0 := hid t0
  have T1 := hid t1
  clear hp hn hom t0 t1
  go_enter Try.func8, Try.ntmps8
  go_wp2_with fail
  refine (HF.out _ (by (repeat' (first | with_reducible assumption | with_reducible exact Ext.refl _ | with_reducible refine Ext.alloc ?_ _ | with_reducible refine Ext.set ?_ ?_ _ | with_reducible refine Ext.drew ?_ | with_reducible refine Ext.drewN ?_ _ | with_reducible refine Ext.trans ?_ (by assumption) | (dsimp only; omega))))).mono ?_
  rintro e w1 ⟨⟨B, rfl, hB⟩, hE⟩
  have E7 : Ext w w1 := by (repeat' (first | with_reducible assumption | with_reducible exact Ext.refl _ | with_reducible refine Ext.alloc ?_ _ | with_reducible refine Ext.set ?_ ?_ _ | with_reducible refine Ext.drew ?_ | with_reducible refine Ext.drewN ?_ _ | with_reducible refine Ext.trans ?_ (by assumption) | (dsimp only; omega)))
  have HB := hid hB
  have C0 := hid (blk_ext T0.out.1 (Ext.trans (by (repeat' (first | with_reducible assumption | with_reducible exact Ext.refl _ | with_reducible refine Ext.alloc ?_ _ | with_reducible refine Ext.set ?_ ?_ _ | with_reducible refine Ext.drew ?_ | with_reducible refine Ext.drewN ?_ _ | with_reducible refine Ext.trans ?_ (by assumption) | (dsimp only; omega)))) hE))
  have C1 := hid (blk_ext T0.out.2.1 (Ext.trans (by (repeat' (first | with_reducible assumption | with_reducible exact Ext.refl _ | with_reducible refine Ext.alloc ?_ _ | with_reducible refine Ext.set ?_ ?_ _ | with_reducible refine Ext.drew ?_ | with_reducible refine Ext.drewN ?_ _ | with_reducible refine Ext.trans ?_ (by assumption) | (dsimp only; omega)))) hE))
  have C2 := hid (blk_ext T1.out.1 hE)
  have C3 := hid (blk_ext T1.out.2.1 hE)
  clear hB hE T0 T1 HF
  have F1 := Ext.refl w1
  have c0 := blk_cell (blk_ext C0.out F1) 0
  have c1 := blk_cell (blk_ext C0.out F1) 1
  have c2 := blk_cell (blk_ext C1.out F1) 0
  have c3 := blk_cell (blk_ext C1.out F1) 1
  have c4 := blk_cell (blk_ext C1.out F1) 2
  have c5 := blk_cell (blk_ext C1.out F1) 3
  have c6 := blk_cell (blk_ext C2.out F1) 0
  have c7 := blk_cell (blk_ext C2.out F1) 1
  have c8 := blk_cell (blk_ext C2.out F1) 2
  have c9 := blk_cell (blk_ext C2.out F1) 3
  have y0 := blk_cell (blk_ext C3.out F1) 0
  have y1 := blk_cell (blk_ext C3.out F1) 1
  have y2 := blk_cell (blk_ext C3.out F1) 2
  have y3 := blk_cell (blk_ext C3.out F1) 3
  have y4 := blk_cell (blk_ext C3.out F1) 4
  have y5 := blk_cell (blk_ext C3.out F1) 5
  have y6 := blk_cell (blk_ext C3.out F1) 6
  have y7 := blk_cell (blk_ext C3.out F1) 7
  have y8 := blk_cell (blk_ext C3.out F1) 8
  have y9 := blk_cell (blk_ext C3.out F1) 9
  have y10 := blk_cell (blk_ext C3.out F1) 10
  have y11 := blk_cell (blk_ext C3.out F1) 11
  have y12 := blk_cell (blk_ext C3.out F1) 12
  have y13 := blk_cell (blk_ext C3.out F1) 13
  have y14 := blk_cell (blk_ext C3.out F1) 14
  simp only [List.getElem?_toArray, List.getElem?_cons_zero, List.getElem?_cons_succ] at c0 c1 c2 c3 c4 c5 c6 c7 c8 c9 y0 y1 y2 y3 y4 y5 y6 y7 y8 y9 y10 y11 y12 y13 y14
  have z0 := (Array.getElem?_eq_some_iff.1 (blk_ext C0.out F1)).1
  have z1 := (Array.getElem?_eq_some_iff.1 (blk_ext C1.out F1)).1
  have z2 := (Array.getElem?_eq_some_iff.1 (blk_ext C2.out F1)).1
  have z3 := (Array.getElem?_eq_some_iff.1 (blk_ext C3.out F1)).1
  clear F1
  cases B
  case false => go_wp2_with fail
                refine (works_any _).mono ?_
                rintro e w9 ⟨rfl, hE9⟩
                have EZ : Ext w w9 := by (repeat' (first | with_reducible assumption | with_reducible exact Ext.refl _ | with_reducible refine Ext.alloc ?_ _ | with_reducible refine Ext.set ?_ ?_ _ | with_reducible refine Ext.drew ?_ | with_reducible refine Ext.drewN ?_ _ | with_reducible refine Ext.trans ?_ (by assumption) | (dsimp only; omega)))
                go_wp2
                go_ret
                exact ⟨rfl, EZ⟩
  by_cases k1 : n ≤ 9
  case neg => have k1' : (9 : Int) < (n : Int) := by omega
              go_wp2_with fail
              refine (works_any _).mono ?_
              rintro e w9 ⟨rfl, hE9⟩
              have EZ : Ext w w9 := by (repeat' (first | with_reducible assumption | with_reducible exact Ext.refl _ | with_reducible refine Ext.alloc ?_ _ | with_reducible refine Ext.set ?_ ?_ _ | with_reducible refine Ext.drew ?_ | with_reducible refine Ext.drewN ?_ _ | with_reducible refine Ext.trans ?_ (by assumption) | (dsimp only; omega)))
              go_wp2
              go_ret
              exact ⟨rfl, EZ⟩
  have k1' : ¬ (9 : Int) < (n : Int) := by omega
  by_cases k2 : 0 ≤ yl
  case neg => go_wp2_with fail
              refine (works_any _).mono ?_
              rintro e w9 ⟨rfl, hE9⟩
              have EZ : Ext w w9 := by (repeat' (first | with_reducible assumption | with_reducible exact Ext.refl _ | with_reducible refine Ext.alloc ?_ _ | with_reducible refine Ext.set ?_ ?_ _ | with_reducible refine Ext.drew ?_ | with_reducible refine Ext.drewN ?_ _ | with_reducible refine Ext.trans ?_ (by assumption) | (dsimp only; omega)))
              go_wp2
              go_ret
              exact ⟨rfl, EZ⟩
  by_cases k3 : yl ≤ 2880
  case neg => go_wp2_with fail
              refine (works_any _).mono ?_
              rintro e w9 ⟨rfl, hE9⟩
              have EZ : Ext w w9 := by (repeat' (first | with_reducible assumption | with_reducible exact Ext.refl _ | with_reducible refine Ext.alloc ?_ _ | with_reducible refine Ext.set ?_ ?_ _ | with_reducible refine Ext.drew ?_ | with_reducible refine Ext.drewN ?_ _ | with_reducible refine Ext.trans ?_ (by assumption) | (dsimp only; omega)))
              go_wp2
              go_ret
              exact ⟨rfl, EZ⟩
  by_cases k4 : 0 ≤ yp
  case neg => go_wp2_with fail
              refine (works_any _).mono ?_
              rintro e w9 ⟨rfl, hE9⟩
              have EZ : Ext w w9 := by (repeat' (first | with_reducible assumption | with_reducible exact Ext.refl _ | with_reducible refine Ext.alloc ?_ _ | with_reducible refine Ext.set ?_ ?_ _ | with_reducible refine Ext.drew ?_ | with_reducible refine Ext.drewN ?_ _ | with_reducible refine Ext.trans ?_ (by assumption) | (dsimp only; omega)))
              go_wp2
              go_ret
              exact ⟨rfl, EZ⟩
  by_cases k5 : yp ≤ 300
  case neg => go_wp2_with fail
              refine (works_any _).mono ?_
              rintro e w9 ⟨rfl, hE9⟩
              have EZ : Ext w w9 := by (repeat' (first | with_reducible assumption | with_reducible exact Ext.refl _ | with_reducible refine Ext.alloc ?_ _ | with_reducible refine Ext.set ?_ ?_ _ | with_reducible refine Ext.drew ?_ | with_reducible refine Ext.drewN ?_ _ | with_reducible refine Ext.trans ?_ (by assumption) | (dsimp only; omega)))
              go_wp2
              go_ret
              exact ⟨rfl, EZ⟩
  by_cases k6 : 0 ≤ yd
  case neg => go_wp2_with fail
              refine (works_any _).mono ?_
              rintro e w9 ⟨rfl, hE9⟩
              have EZ : Ext w w9 := by (repeat' (first | with_reducible assumption | with_reducible exact Ext.refl _ | with_reducible refine Ext.alloc ?_ _ | with_reducible refine Ext.set ?_ ?_ _ | with_reducible refine Ext.drew ?_ | with_reducible refine Ext.drewN ?_ _ | with_reducible refine Ext.trans ?_ (by assumption) | (dsimp only; omega)))
              go_wp2
              go_ret
              exact ⟨rfl, EZ⟩
  by_cases k7 : yd ≤ 100
  case neg => go_wp2_with fail
              refine (works_any _).mono ?_
              rintro e w9 ⟨rfl, hE9⟩
              have EZ : Ext w w9 := by (repeat' (first | with_reducible assumption | with_reducible exact Ext.refl _ | with_reducible refine Ext.alloc ?_ _ | with_reducible refine Ext.set ?_ ?_ _ | with_reducible refine Ext.drew ?_ | with_reducible refine Ext.drewN ?_ _ | with_reducible refine Ext.trans ?_ (by assumption) | (dsimp only; omega)))
              go_wp2
              go_ret
              exact ⟨rfl, EZ⟩
  by_cases k8 : 0 ≤ yg
  case neg => go_wp2_with fail
              refine (works_any _).mono ?_
              rintro e w9 ⟨rfl, hE9⟩
              have EZ : Ext w w9 := by (repeat' (first | with_reducible assumption | with_reducible exact Ext.refl _ | with_reducible refine Ext.alloc ?_ _ | with_reducible refine Ext.set ?_ ?_ _ | with_reducible refine Ext.drew ?_ | with_reducible refine Ext.drewN ?_ _ | with_reducible refine Ext.trans ?_ (by assumption) | (dsimp only; omega)))
              go_wp2
              go_ret
              exact ⟨rfl, EZ⟩
  by_cases k9 : yg ≤ 10
  case neg => go_wp2_with fail
              refine (works_any _).mono ?_
              rintro e w9 ⟨rfl, hE9⟩
              have EZ : Ext w w9 := by (repeat' (first | with_reducible assumption | with_reducible exact Ext.refl _ | with_reducible refine Ext.alloc ?_ _ | with_reducible refine Ext.set ?_ ?_ _ | with_reducible refine Ext.drew ?_ | with_reducible refine Ext.drewN ?_ _ | with_reducible refine Ext.trans ?_ (by assumption) | (dsimp only; omega)))
              go_wp2
              go_ret
              exact ⟨rfl, EZ⟩
  by_cases k10 : 0 ≤ ys
  case neg => go_wp2_with fail
              refine (works_any _).mono ?_
              rintro e w9 ⟨rfl, hE9⟩
              have EZ : Ext w w9 := by (repeat' (first | with_reducible assumption | with_reducible exact Ext.refl _ | with_reducible refine Ext.alloc ?_ _ | with_reducible refine Ext.set ?_ ?_ _ | with_reducible refine Ext.drew ?_ | with_reducible refine Ext.drewN ?_ _ | with_reducible refine Ext.trans ?_ (by assumption) | (dsimp only; omega)))
              go_wp2
              go_ret
              exact ⟨rfl, EZ⟩
  by_cases k11 : ys ≤ 100
  case neg => go_wp2_with fail
              refine (works_any _).mono ?_
              rintro e w9 ⟨rfl, hE9⟩
              have EZ : Ext w w9 := by (repeat' (first | with_reducible assumption | with_reducible exact Ext.refl _ | with_reducible refine Ext.alloc ?_ _ | with_reducible refine Ext.set ?_ ?_ _ | with_reducible refine Ext.drew ?_ | with_reducible refine Ext.drewN ?_ _ | with_reducible refine Ext.trans ?_ (by assumption) | (dsimp only; omega)))
              go_wp2
              go_ret
              exact ⟨rfl, EZ⟩
  by_cases k12 : om.length ≤ 20
  case neg => have k12' : (20 : Int) < (om.length : Int) := by omega
              go_wp2_with fail
              refine (works_any _).mono ?_
              rintro e w9 ⟨rfl, hE9⟩
              have EZ : Ext w w9 := by (repeat' (first | with_reducible assumption | with_reducible exact Ext.refl _ | with_reducible refine Ext.alloc ?_ _ | with_reducible refine Ext.set ?_ ?_ _ | with_reducible refine Ext.drew ?_ | with_reducible refine Ext.drewN ?_ _ | with_reducible refine Ext.trans ?_ (by assumption) | (dsimp only; omega)))
              go_wp2
              go_ret
              exact ⟨rfl, EZ⟩
  have k12' : ¬ (20 : Int) < (om.length : Int) := by omega
  obtain ⟨q1, q2, q3, q4, q5, q6⟩ := HB.out rfl
  have q5' : 0 ≤ start ∧ start ≤ 2880 := minuteB_iff.1 q5
  have hw : IntKind.i64.wrap (start + yl) = start + yl := IntWalk.i64_in _ (by omega)
  obtain ⟨s2, hs2⟩ : ∃ x, (if start + yl < 2880 then start + yl else 2880) = x := ⟨_, rfl⟩
  have hs3 : start ≤ s2 ∧ s2 ≤ 2880 := by subst hs2; split <;> omega
  have HA1 := hid (HA.out start (begin_of q1 q2 (by simp [q3]) (by simp [q5])))
  have HA2 := hid (HA.out s2 (begin_of q1 q2 (by simp [q3]) (fun t ht => (List.mem_singleton.1 ht) ▸ minuteB_iff.2 ⟨by omega, hs3.2⟩)))
  have HE2 := hid (HES.out q1 q2 k1 ⟨k4, k5⟩ ⟨k6, k7⟩ ⟨k8, k9⟩ ⟨k10, k11⟩)
  have Q1 := hid q1
  have Q2 := hid q2
  have Q3 := hid q3
  have Q5 := hid q5
  have QS := hid q5'
  have HS3 := hid hs3
  obtain ⟨mm, rfl⟩ : ∃ k : Nat, m = k := ⟨m.toNat, by have := (vNet_ok q1).1; omega⟩
  have HMM := hid (vNet_ok q1).2.1
  have HL1 := hid (arr_len (from_ := from_) q1 q2 q5'.1 q5'.2)
  have HL2 := hid (arr_len (from_ := from_) q1 q2 (by omega : 0 ≤ s2) hs3.2)
  clear HA HES HB q1 q2 q3 q4 q5 q6 q5' hs3
  go_wp2_with fail
  refine (HA1.out _ E7).mono ?_
  rintro e w2 ⟨g1, cc1, gx, cx, rfl, row1, -, -, -, hE⟩
  have F2 := hE
  have R1 := hid row1
  clear hE row1 HA1
  clear c0 c1 c2 c3 c4 c5 c6 c7 c8 c9 y0 y1 y2 y3 y4 y5 y6 y7 y8 y9 y10 y11 y12 y13 y14 z0 z1 z2 z3
  have c0 := blk_cell (blk_ext C0.out F2) 0
  have c1 := blk_cell (blk_ext C0.out F2) 1
  have c2 := blk_cell (blk_ext C1.out F2) 0
  have c3 := blk_cell (blk_ext C1.out F2) 1
  have c4 := blk_cell (blk_ext C1.out F2) 2
  have c5 := blk_cell (blk_ext C1.out F2) 3
  have c6 := blk_cell (blk_ext C2.out F2) 0
  have c7 := blk_cell (blk_ext C2.out F2) 1
  have c8 := blk_cell (blk_ext C2.out F2) 2
  have c9 := blk_cell (blk_ext C2.out F2) 3
  have y0 := blk_cell (blk_ext C3.out F2) 0
  have y1 := blk_cell (blk_ext C3.out F2) 1
  have y2 := blk_cell (blk_ext C3.out F2) 2
  have y3 := blk_cell (blk_ext C3.out F2) 3
  have y4 := blk_cell (blk_ext C3.out F2) 4
  have y5 := blk_cell (blk_ext C3.out F2) 5
  have y6 := blk_cell (blk_ext C3.out F2) 6
  have y7 := blk_cell (blk_ext C3.out F2) 7
  have y8 := blk_cell (blk_ext C3.out F2) 8
  have y9 := blk_cell (blk_ext C3.out F2) 9
  have y10 := blk_cell (blk_ext C3.out F2) 10
  have y11 := blk_cell (blk_ext C3.out F2) 11
  have y12 := blk_cell (blk_ext C3.out F2) 12
  have y13 := blk_cell (blk_ext C3.out F2) 13
  have y14 := blk_cell (blk_ext C3.out F2) 14
  simp only [List.getElem?_toArray, List.getElem?_cons_zero, List.getElem?_cons_succ] at c0 c1 c2 c3 c4 c5 c6 c7 c8 c9 y0 y1 y2 y3 y4 y5 y6 y7 y8 y9 y10 y11 y12 y13 y14
  have z0 := (Array.getElem?_eq_some_iff.1 (blk_ext C0.out F2)).1
  have z1 := (Array.getElem?_eq_some_iff.1 (blk_ext C1.out F2)).1
  have z2 := (Array.getElem?_eq_some_iff.1 (blk_ext C2.out F2)).1
  have z3 := (Array.getElem?_eq_some_iff.1 (blk_ext C3.out F2)).1
  go_wp2_with fail
  refine (HA2.out _ (E7.trans F2)).mono ?_
  rintro e w3 ⟨g2', cc2, gx2, cx2, rfl, row1, -, -, -, hE⟩
  have F3 := F2.trans hE
  have R2 := hid row1
  have R1' := hid (R1.out.ext hE)
  clear hE row1 HA2 R1 hs2 hw
  clear c0 c1 c2 c3 c4 c5 c6 c7 c8 c9 y0 y1 y2 y3 y4 y5 y6 y7 y8 y9 y10 y11 y12 y13 y14 z0 z1 z2 z3
  have c0 := blk_cell (blk_ext C0.out F3) 0
  have c1 := blk_cell (blk_ext C0.out F3) 1
  have c2 := blk_cell (blk_ext C1.out F3) 0
  have c3 := blk_cell (blk_ext C1.out F3) 1
  have c4 := blk_cell (blk_ext C1.out F3) 2
  have c5 := blk_cell (blk_ext C1.out F3) 3
  have c6 := blk_cell (blk_ext C2.out F3) 0
  have c7 := blk_cell (blk_ext C2.out F3) 1
  have c8 := blk_cell (blk_ext C2.out F3) 2
  have c9 := blk_cell (blk_ext C2.out F3) 3
  have y0 := blk_cell (blk_ext C3.out F3) 0
  have y1 := blk_cell (blk_ext C3.out F3) 1
  have y2 := blk_cell (blk_ext C3.out F3) 2
  have y3 := blk_cell (blk_ext C3.out F3) 3
  have y4 := blk_cell (blk_ext C3.out F3) 4
  have y5 := blk_cell (blk_ext C3.out F3) 5
  have y6 := blk_cell (blk_ext C3.out F3) 6
  have y7 := blk_cell (blk_ext C3.out F3) 7
  have y8 := blk_cell (blk_ext C3.out F3) 8
  have y9 := blk_cell (blk_ext C3.out F3) 9
  have y10 := blk_cell (blk_ext C3.out F3) 10
  have y11 := blk_cell (blk_ext C3.out F3) 11
  have y12 := blk_cell (blk_ext C3.out F3) 12
  have y13 := blk_cell (blk_ext C3.out F3) 13
  have y14 := blk_cell (blk_ext C3.out F3) 14
  simp only [List.getElem?_toArray, List.getElem?_cons_zero, List.getElem?_cons_succ] at c0 c1 c2 c3 c4 c5 c6 c7 c8 c9 y0 y1 y2 y3 y4 y5 y6 y7 y8 y9 y10 y11 y12 y13 y14
  have z0 := (Array.getElem?_eq_some_iff.1 (blk_ext C0.out F3)).1
  have z1 := (Array.getElem?_eq_some_iff.1 (blk_ext C1.out F3)).1
  have z2 := (Array.getElem?_eq_some_iff.1 (blk_ext C2.out F3)).1
  have z3 := (Array.getElem?_eq_some_iff.1 (blk_ext C3.out F3)).1
  go_wp2_with fail
  refine (HE2.out _ (E7.trans F3)).mono ?_
  rintro e w4 ⟨qs, A', k, c', l', pl', ph', rfl, hql, hpq, hvq, hpaq, hen, hll, hpp, hE⟩
  have F4 := F3.trans hE
  have R1 := hid (R1'.out.ext hE)
  have R2' := hid (R2.out.ext hE)
  have HA3 := hid (fun (W : World) (hW : Ext w4 W) => arrive_ok mm g l' pl' ph' from_ start A' k c' qs hql W (hpq.ext hW) (begin_of hvq hpaq (by simp [Q3.out]) (by simp [Q5.out])))
  have HL3 := hid (arr_len (from_ := from_) hvq hpaq QS.out.1 QS.out.2)
  have HFC := hid (fun (i : Nat) (hi : i < mm) => easier_fact (from_ := from_) Q1.out Q2.out hvq hpaq hen hll hpp QS.out.1 QS.out.2 HS3.out.1 HS3.out.2 hi)
  clear hE R1' R2 HE2 hql hpq hvq hpaq hen hll hpp
  clear c0 c1 c2 c3 c4 c5 c6 c7 c8 c9 y0 y1 y2 y3 y4 y5 y6 y7 y8 y9 y10 y11 y12 y13 y14 z0 z1 z2 z3
  have c0 := blk_cell (blk_ext C0.out F4) 0
  have c1 := blk_cell (blk_ext C0.out F4) 1
  have c2 := blk_cell (blk_ext C1.out F4) 0
  have c3 := blk_cell (blk_ext C1.out F4) 1
  have c4 := blk_cell (blk_ext C1.out F4) 2
  have c5 := blk_cell (blk_ext C1.out F4) 3
  have c6 := blk_cell (blk_ext C2.out F4) 0
  have c7 := blk_cell (blk_ext C2.out F4) 1
  have c8 := blk_cell (blk_ext C2.out F4) 2
  have c9 := blk_cell (blk_ext C2.out F4) 3
  have y0 := blk_cell (blk_ext C3.out F4) 0
  have y1 := blk_cell (blk_ext C3.out F4) 1
  have y2 := blk_cell (blk_ext C3.out F4) 2
  have y3 := blk_cell (blk_ext C3.out F4) 3
  have y4 := blk_cell (blk_ext C3.out F4) 4
  have y5 := blk_cell (blk_ext C3.out F4) 5
  have y6 := blk_cell (blk_ext C3.out F4) 6
  have y7 := blk_cell (blk_ext C3.out F4) 7
  have y8 := blk_cell (blk_ext C3.out F4) 8
  have y9 := blk_cell (blk_ext C3.out F4) 9
  have y10 := blk_cell (blk_ext C3.out F4) 10
  have y11 := blk_cell (blk_ext C3.out F4) 11
  have y12 := blk_cell (blk_ext C3.out F4) 12
  have y13 := blk_cell (blk_ext C3.out F4) 13
  have y14 := blk_cell (blk_ext C3.out F4) 14
  simp only [List.getElem?_toArray, List.getElem?_cons_zero, List.getElem?_cons_succ] at c0 c1 c2 c3 c4 c5 c6 c7 c8 c9 y0 y1 y2 y3 y4 y5 y6 y7 y8 y9 y10 y11 y12 y13 y14
  have z0 := (Array.getElem?_eq_some_iff.1 (blk_ext C0.out F4)).1
  have z1 := (Array.getElem?_eq_some_iff.1 (blk_ext C1.out F4)).1
  have z2 := (Array.getElem?_eq_some_iff.1 (blk_ext C2.out F4)).1
  have z3 := (Array.getElem?_eq_some_iff.1 (blk_ext C3.out F4)).1
  go_wp2_with fail
  have e4 : Ext w4 ((w4.alloc (.cells #[.int .i64 (mm : Int), .slice A' k c'] 24)).alloc (.cells #[.int .i64 g, .int .i64 l', .int .i64 pl', .int .i64 ph'] 28)) := by (repeat' (first | with_reducible assumption | with_reducible exact Ext.refl _ | with_reducible refine Ext.alloc ?_ _ | with_reducible refine Ext.set ?_ ?_ _ | with_reducible refine Ext.drew ?_ | with_reducible refine Ext.drewN ?_ _ | with_reducible refine Ext.trans ?_ (by assumption) | (dsimp only; omega)))
  refine (HA3.out _ e4).mono ?_
  rintro e w5 ⟨g3, cc3, gx3, cx3, rfl, row1, -, -, -, hE⟩
  have F5 := F4.trans (e4.trans hE)
  have R3 := hid row1
  have S1 := hid (R1.out.ext (e4.trans hE))
  have S2 := hid (R2'.out.ext (e4.trans hE))
  clear hE row1 R1 R2' HA3 e4
  clear c0 c1 c2 c3 c4 c5 c6 c7 c8 c9 y0 y1 y2 y3 y4 y5 y6 y7 y8 y9 y10 y11 y12 y13 y14 z0 z1 z2 z3
  have c0 := blk_cell (blk_ext C0.out F5) 0
  have c1 := blk_cell (blk_ext C0.out F5) 1
  have c2 := blk_cell (blk_ext C1.out F5) 0
  have c3 := blk_cell (blk_ext C1.out F5) 1
  have c4 := blk_cell (blk_ext C1.out F5) 2
  have c5 := blk_cell (blk_ext C1.out F5) 3
  have c6 := blk_cell (blk_ext C2.out F5) 0
  have c7 := blk_cell (blk_ext C2.out F5) 1
  have c8 := blk_cell (blk_ext C2.out F5) 2
  have c9 := blk_cell (blk_ext C2.out F5) 3
  have y0 := blk_cell (blk_ext C3.out F5) 0
  have y1 := blk_cell (blk_ext C3.out F5) 1
  have y2 := blk_cell (blk_ext C3.out F5) 2
  have y3 := blk_cell (blk_ext C3.out F5) 3
  have y4 := blk_cell (blk_ext C3.out F5) 4
  have y5 := blk_cell (blk_ext C3.out F5) 5
  have y6 := blk_cell (blk_ext C3.out F5) 6
  have y7 := blk_cell (blk_ext C3.out F5) 7
  have y8 := blk_cell (blk_ext C3.out F5) 8
  have y9 := blk_cell (blk_ext C3.out F5) 9
  have y10 := blk_cell (blk_ext C3.out F5) 10
  have y11 := blk_cell (blk_ext C3.out F5) 11
  have y12 := blk_cell (blk_ext C3.out F5) 12
  have y13 := blk_cell (blk_ext C3.out F5) 13
  have y14 := blk_cell (blk_ext C3.out F5) 14
  simp only [List.getElem?_toArray, List.getElem?_cons_zero, List.getElem?_cons_succ] at c0 c1 c2 c3 c4 c5 c6 c7 c8 c9 y0 y1 y2 y3 y4 y5 y6 y7 y8 y9 y10 y11 y12 y13 y14
  have z0 := (Array.getElem?_eq_some_iff.1 (blk_ext C0.out F5)).1
  have z1 := (Array.getElem?_eq_some_iff.1 (blk_ext C1.out F5)).1
  have z2 := (Array.getElem?_eq_some_iff.1 (blk_ext C2.out F5)).1
  have z3 := (Array.getElem?_eq_some_iff.1 (blk_ext C3.out F5)).1
  revert HFC
  revert HL1 HL2 HL3
  revert R3 S1 S2
  generalize arrList selHi g l pl ph ps (mm : Int) from_ start = xs
  generalize arrList selHi g l pl ph ps (mm : Int) from_ s2 = zs
  generalize arrList selHi g l' pl' ph' qs (mm : Int) from_ start = es
  intro R3 S1 S2 HL1 HL2 HL3 HFC
  rw [HL1.out, HL2.out, HL3.out]
  go_wp2
  go_loopw [20] (fun i wr => Ext w5 wr ∧ ∃ k : Nat, k ≤ mm ∧ i = .int .i64 k) (fun i _ => mm - (intOf i).toNat)
  case atStart => exact ⟨Ext.refl _, 0, Nat.zero_le _, rfl⟩
  case round =>
    obtain ⟨hE, j, hj, rfl⟩ := hrel
    clear c0 c1 c2 c3 c4 c5 c6 c7 c8 c9 y0 y1 y2 y3 y4 y5 y6 y7 y8 y9 y10 y11 y12 y13 y14 z0 z1 z2 z3
    have F6 := F5.trans hE
    have c0 := blk_cell (blk_ext C0.out F6) 0
    simp only [List.getElem?_toArray, List.getElem?_cons_zero] at c0
    have z0 := (Array.getElem?_eq_some_iff.1 (blk_ext C0.out F6)).1
    have hm12 := HMM.out
    by_cases hlt : j < mm
    · obtain ⟨a, b, e, ha, hb, he, hcase⟩ := HFC.out j hlt
      have u1 := (S1.out.ext hE).cell (k := j) (by have := HL1.out; omega)
      have u2 := (S2.out.ext hE).cell (k := j) (by have := HL2.out; omega)
      have u3 := (R3.out.ext hE).cell (k := j) (by have := HL3.out; omega)
      have l1 := (S1.out.ext hE).lt
      have l2 := (S2.out.ext hE).lt
      have l3 := (R3.out.ext hE).lt
      rw [ha] at u1
      rw [hb] at u2
      rw [he] at u3
      have hj0 : (0 : Int) ≤ (j : Int) := by omega
      have hj1 : (j : Int) < (mm : Int) := by omega
      clear ha hb he
      rcases hcase with ⟨h1, h2⟩ | ⟨h1, h2, h3, h4⟩ | ⟨h1, h2, h3, h4, h5⟩
      · have hd1 : decide (0 ≤ b) = false := decide_eq_false (by omega)
        have hd2 : decide (0 ≤ a) = false := decide_eq_false (by omega)
        go_wp2_with fail
        go_quiet (fail)
        go_wp2
        go_roundw
        case rel => exact ⟨hE.drewN _, j + 1, by omega, by go_num⟩
        case measure => (simp [intOf] <;> omega)
      · have hd1 : decide (0 ≤ b) = false := decide_eq_false (by omega)
        have hd2 : decide (0 ≤ a) = true := decide_eq_true h2
        have hd3 : decide (e < 0) = false := decide_eq_false (by omega)
        have hd4 : decide (a < e) = false := decide_eq_false (by omega)
        go_wp2_with fail
        go_quiet (fail)
        go_wp2
        go_roundw
        case rel => exact ⟨hE.drewN _, j + 1, by omega, by go_num⟩
        case measure => (simp [intOf] <;> omega)
      · have hd1 : decide (0 ≤ b) = true := decide_eq_true h1
        have hd2 : decide (0 ≤ a) = true := decide_eq_true h2
        have hd3 : decide (e < 0) = false := decide_eq_false (by omega)
        have hd4 : decide (a < e) = false := decide_eq_false (by omega)
        have hd5 : decide (a < 0) = false := decide_eq_false (by omega)
        have hd6 : decide (b < a) = false := decide_eq_false (by omega)
        go_wp2_with fail
        go_quiet (fail)
        go_wp2
        go_roundw
        case rel => exact ⟨hE.drewN _, j + 1, by omega, by go_num⟩
        case measure => (simp [intOf] <;> omega)
    · have E8 := E7.trans F6
      go_wp2_with fail
      refine (works_any _).mono ?_
      rintro e w9 ⟨rfl, hE9⟩
      have EZ : Ext w w9 := by (repeat' (first | with_reducible assumption | with_reducible exact Ext.refl _ | with_reducible refine Ext.alloc ?_ _ | with_reducible refine Ext.set ?_ ?_ _ | with_reducible refine Ext.drew ?_ | with_reducible refine Ext.drewN ?_ _ | with_reducible refine Ext.trans ?_ (by assumption) | (dsimp only; omega)))
      go_wp2
      go_ret
      exact ⟨rfl, EZ⟩
end Go.Proofs.Ytndoghcglbpllaa
