/- The specification's Arrive. -/
import Derived.Test.YtbfmcclbbeobkaaTable
import Derived.Test.YtbfmcclbbeobkaaShown2
import Derived.Test.YtbfmcclbbeobkaaRChk
import Derived.Test.YtbfmcclbbeobkaaArrive
import Derived.Deep.RegionHeld3
set_option linter.unusedSimpArgs false
set_option linter.unusedVariables false
namespace Go.Proofs.Ytbfmcclbbeobkaa
open Go.RowKit
set_option maxRecDepth 100000 in
set_option maxHeartbeats 2000000 in
theorem rarrive_bad (m g l pl ph from_ start : Int) (A : Option Addr) (n c : Nat) (ps : List Pt) (hn : ps.length = n) (w : World) (hp : PathsAt w A ps) (E : Int) (hE : beginE m g l pl ph ps [from_] [start] = E) (hne : E ≠ 0) :
    Calls Try.prog 20 #[.agg #[.int .i64 m, .slice A n c], .agg #[.int .i64 g, .int .i64 l, .int .i64 pl, .int .i64 ph], .int .i64 from_, .int .i64 start] w fun e w' => e = .returned (.tuple #[.slice none 0 0, .slice none 0 0, .int .i64 E]) ∧ Ext w w' := by
  have HC := hid (fun (b1 b2 : Nat) (W : World) (hW : Ext w W) (h1 : IntsAt W (some ⟨b1, 0, none⟩) [from_]) (h2 : IntsAt W (some ⟨b2, 0, none⟩) [start]) => rcheck_any m g l pl ph A n c ps hn (some ⟨b1, 0, none⟩) (some ⟨b2, 0, none⟩) 1 1 1 1 [from_] [start] rfl rfl (by omega) (by omega) W (hp.ext hW) h1 h2)
  rw [hE] at HC
  clear hp hn hE
  go_enter Try.func20, Try.ntmps20
  go_wp2_with fail
  have t1 := two_blocks ((w.alloc (.cells #[.int .i64 m, .slice A n c] 24)).alloc (.cells #[.int .i64 g, .int .i64 l, .int .i64 pl, .int .i64 ph] 28)) (.cells #[.int .i64 from_] 3) (.cells #[.int .i64 start] 3)
  simp only [World.size_alloc] at t1
  refine (HC.out _ _ _ (by (repeat' (first | with_reducible assumption | with_reducible exact Ext.refl _ | with_reducible refine Ext.alloc ?_ _ | with_reducible refine Ext.set ?_ ?_ _ | with_reducible refine Ext.drew ?_ | with_reducible refine Ext.drewN ?_ _ | with_reducible refine Ext.trans ?_ (by assumption) | (dsimp only; omega)))) (ints_one_at t1.1) (ints_one_at t1.2.1)).mono ?_
  clear t1
  rintro e w1 ⟨rfl, hE⟩
  have EW : Ext w w1 := by (repeat' (first | with_reducible assumption | with_reducible exact Ext.refl _ | with_reducible refine Ext.alloc ?_ _ | with_reducible refine Ext.set ?_ ?_ _ | with_reducible refine Ext.drew ?_ | with_reducible refine Ext.drewN ?_ _ | with_reducible refine Ext.trans ?_ (by assumption) | (dsimp only; omega)))
  go_wp2
  go_ret3
  exact ⟨rfl, EW⟩
set_option maxRecDepth 100000 in
set_option maxHeartbeats 4000000 in
theorem rarrive_ok (m g l pl ph from_ start : Int) (A : Option Addr) (n c : Nat) (ps : List Pt) (hn : ps.length = n) (w : World) (hp : PathsAt w A ps) (hb : beginE m g l pl ph ps [from_] [start] = 0) :
    Calls Try.prog 20 #[.agg #[.int .i64 m, .slice A n c], .agg #[.int .i64 g, .int .i64 l, .int .i64 pl, .int .i64 ph], .int .i64 from_, .int .i64 start] w
      (TwoRows (arrList selHi g l pl ph ps m from_ start) (arrList selLo g l pl ph ps m from_ start) w) := by
  obtain ⟨k1, k2, k3, k4⟩ := begin_zero hb
  obtain ⟨hm1, hm2, hN⟩ := vNet_ok k1
  have ha := vParty_ok k2
  have hO := vNet_opens k1
  have hfr := k3 from_ (by simp)
  have hst := k4 start (by simp)
  obtain ⟨mm, rfl⟩ : ∃ k : Nat, m = k := ⟨m.toNat, by omega⟩
  obtain ⟨fr, rfl⟩ : ∃ k : Nat, from_ = k := ⟨from_.toNat, by omega⟩
  rw [Int.toNat_natCast] at hN
  unfold arrList
  rw [Int.toNat_natCast, Int.toNat_natCast]
  have HC := hid (fun (b1 b2 : Nat) (W : World) (hW : Ext w W) (h1 : IntsAt W (some ⟨b1, 0, none⟩) [(fr : Int)]) (h2 : IntsAt W (some ⟨b2, 0, none⟩) [start]) => rcheck_any mm g l pl ph A n c ps hn (some ⟨b1, 0, none⟩) (some ⟨b2, 0, none⟩) 1 1 1 1 [(fr : Int)] [start] rfl rfl (by omega) (by omega) W (hp.ext hW) h1 h2)
  rw [hb] at HC
  have hbut : ∀ i : Nat, i < ps.length → (i : Int) ≠ -1 := fun i _ => by omega
  have q1 := ipRows_eq (sel := selHi) (g := g) selHi_pos ha (by omega : 1 ≤ mm) hN hbut fr hst.1 (by omega : start ≤ 2881)
  have q2 := ipRows_eq (sel := selLo) (g := g) selLo_pos ha (by omega : 1 ≤ mm) hN hbut fr hst.1 (by omega : start ≤ 2881)
  have bd1 := rows_bd selHi_pos (g := g) ha hN (from_ := fr) hst.1 (by omega : start ≤ 2881) (mm - 1)
  have bd2 := rows_bd selLo_pos (g := g) ha hN (from_ := fr) hst.1 (by omega : start ≤ 2881) (mm - 1)
  have HT := hid (fun (hi : Bool) (W : World) (hE : Ext w W) => table_any hi mm (by omega) (by omega) g l pl ph ha A n c ps hn hN hO fr (by omega) start hst.1 hst.2 (-1) W (hp.ext hE))
  obtain ⟨TR, hTR⟩ : ∃ TR : Bool → List Int, TR = fun hi => (ipRows (selB hi) g l pl ph ps (-1) mm fr start mm).map phi := ⟨_, rfl⟩
  have HT2 := hid (fun (hi : Bool) (W : World) (hE : Ext w W) => (show Calls Try.prog 56 #[.agg #[.int .i64 (mm : Int), .slice A n c], .agg #[.int .i64 g, .int .i64 l, .int .i64 pl, .int .i64 ph], .int .i64 (fr : Int), .int .i64 start, .bool hi, .int .i64 (-1)] W (NewRow (TR hi) W) by rw [hTR]; exact HT.out hi W hE))
  have hmp : ∀ xs : List Int, BdRow mm xs → (xs.map phi).map shw = xs.map orN := fun xs hx => by
    rw [List.map_map]
    refine List.map_congr_left fun x hxm => ?_
    obtain ⟨i, hi, rfl⟩ := List.mem_iff_getElem.1 hxm
    have := (hx.2 i (by rw [← hx.1]; exact hi)).2
    rw [show xs.getD i 0 = xs[i] by simp [List.getD, List.getElem?_eq_getElem hi]] at this
    exact shw_phi _ this
  have h1 : (TR true).map shw = (rows selHi g l pl ph ps mm fr start (mm - 1)).map orN := by
    rw [hTR]
    show ((ipRows selHi g l pl ph ps (-1) mm fr start mm).map phi).map shw = _
    rw [q1]
    exact hmp _ bd1
  have h2 : (TR false).map shw = (rows selLo g l pl ph ps mm fr start (mm - 1)).map orN := by
    rw [hTR]
    show ((ipRows selLo g l pl ph ps (-1) mm fr start mm).map phi).map shw = _
    rw [q2]
    exact hmp _ bd2
  have hlen : ∀ hi, (TR hi).length = mm := fun hi => by rw [hTR]; simp [ipRows_len]
  rw [← h1, ← h2]
  have HLN := hid hlen
  clear hp hn hb k1 k2 k3 k4 hN ha hfr hst hO hbut q1 q2 bd1 bd2 HT hTR hmp h1 h2 hlen
  go_enter Try.func20, Try.ntmps20
  go_wp2_with fail
  have t0 := two_blocks w (.cells #[.int .i64 (mm : Int), .slice A n c] 24) (.cells #[.int .i64 g, .int .i64 l, .int .i64 pl, .int .i64 ph] 28)
  have t1 := two_blocks ((w.alloc (.cells #[.int .i64 (mm : Int), .slice A n c] 24)).alloc (.cells #[.int .i64 g, .int .i64 l, .int .i64 pl, .int .i64 ph] 28)) (.cells #[.int .i64 (fr : Int)] 3) (.cells #[.int .i64 start] 3)
  simp only [World.size_alloc] at t1
  refine (HC.out _ _ _ (by (repeat' (first | with_reducible assumption | with_reducible exact Ext.refl _ | with_reducible refine Ext.alloc ?_ _ | with_reducible refine Ext.set ?_ ?_ _ | with_reducible refine Ext.drew ?_ | with_reducible refine Ext.drewN ?_ _ | with_reducible refine Ext.trans ?_ (by assumption) | (dsimp only; omega)))) (ints_one_at t1.1) (ints_one_at t1.2.1)).mono ?_
  rintro e w1 ⟨rfl, hE⟩
  have EW : Ext w w1 := by (repeat' (first | with_reducible assumption | with_reducible exact Ext.refl _ | with_reducible refine Ext.alloc ?_ _ | with_reducible refine Ext.set ?_ ?_ _ | with_reducible refine Ext.drew ?_ | with_reducible refine Ext.drewN ?_ _ | with_reducible refine Ext.trans ?_ (by assumption) | (dsimp only; omega)))
  have C0 := hid (blk_ext t0.1 (Ext.trans (by (repeat' (first | with_reducible assumption | with_reducible exact Ext.refl _ | with_reducible refine Ext.alloc ?_ _ | with_reducible refine Ext.set ?_ ?_ _ | with_reducible refine Ext.drew ?_ | with_reducible refine Ext.drewN ?_ _ | with_reducible refine Ext.trans ?_ (by assumption) | (dsimp only; omega)))) hE))
  have C1 := hid (blk_ext t0.2.1 (Ext.trans (by (repeat' (first | with_reducible assumption | with_reducible exact Ext.refl _ | with_reducible refine Ext.alloc ?_ _ | with_reducible refine Ext.set ?_ ?_ _ | with_reducible refine Ext.drew ?_ | with_reducible refine Ext.drewN ?_ _ | with_reducible refine Ext.trans ?_ (by assumption) | (dsimp only; omega)))) hE))
  clear t0 t1 hE HC
  have c0 := blk_cell C0.out 0
  have c1 := blk_cell C0.out 1
  have c2 := blk_cell C1.out 0
  have c3 := blk_cell C1.out 1
  have c4 := blk_cell C1.out 2
  have c5 := blk_cell C1.out 3
  simp only [List.getElem?_toArray, List.getElem?_cons_zero, List.getElem?_cons_succ] at c0 c1 c2 c3 c4 c5
  have z0 := (Array.getElem?_eq_some_iff.1 C0.out).1
  have z1 := (Array.getElem?_eq_some_iff.1 C1.out).1
  have hzz := Nat.le_refl w1.heap.size
  go_wp2_with fail
  go_region_held3 (fun w' => (∀ b o, b < w1.heap.size → w'.cell? ⟨b, o, none⟩ = w1.cell? ⟨b, o, none⟩) ∧ w1.heap.size ≤ w'.heap.size ∧ Ext w w')
    (((try dsimp only); go_split_ands; (repeat' apply And.intro) <;> first | assumption | exact kcell (by assumption) (by omega) (by assumption) | exact kcell_refl _ _ | exact kcell_set (kcell_set (by assumption) (by dsimp only; omega) _) (by dsimp only; omega) _ | exact kcell_set (by assumption) (by dsimp only; omega) _ | exact held_ext (by assumption) (by dsimp only; omega) (by assumption) | exact hfrozen_ext (by assumption) (by dsimp only; omega) (by assumption) | exact Ext.sizeLe (by assumption) (by assumption) | exact Ext.trans (by assumption) (by assumption) | exact Ext.drew (by assumption) | exact held_set _ _ _ _ (held_set _ _ _ _ (by assumption)) | exact held_set _ _ _ _ (by assumption) | exact hfrozen_set _ _ (hfrozen_set _ _ (by assumption)) | exact hfrozen_set _ _ (by assumption) | exact hsize_set _ _ (hsize_set _ _ (by assumption)) | exact hsize_set _ _ (by assumption) | exact Ext.set (Ext.set (by assumption) (by dsimp only; omega) _) (by dsimp only; omega) _ | exact Ext.set (by assumption) (by dsimp only; omega) _))
    (first
      | (go_at_call 56; refine (HT2.out _ _ ‹_ ∧ _ ∧ Ext _ _›.2.2).mono ?_; rintro e w2 ⟨g1, cap1, rfl, r1, s1, hE2⟩; have hg1 := Nat.le_trans (‹_ ∧ _ ∧ Ext _ _›.2.1) s1)
      | (go_at_call 55; refine (shown_any _ _ _ _ rfl (by rw [HLN.out]; omega) (by rw [HLN.out]; omega) _ (by assumption)).mono ?_; rintro e w3 ⟨g2, cap2, rfl, r2, s2, hE3⟩; have hg2 := Nat.le_trans (‹_ ∧ _ ∧ Ext _ _›.2.1) s2))
  rename_i w2a g1a cap1a r1a s1a hE2a hg1a w3a g2a cap2a r2a s2a hE3a hg2a hH
  have FF := hid (And.intro (RowAt.ext r2a (hE2.trans hE3)) (And.intro r2 hH.2.2))
  have hz1 := EW.size
  have hgA : w.heap.size ≤ g2a := by omega
  have hgB : w.heap.size ≤ g2 := by omega
  clear hH r1a r2a r1 r2 hE2 hE3 hE2a hE3a s1a s2a s1 s2
  go_wp2
  go_ret3
  exact ⟨g2a, cap2a, g2, cap2, by rw [List.length_map, List.length_map]; rfl, FF.out.1, FF.out.2.1, hgA, hgB, FF.out.2.2⟩
end Go.Proofs.Ytbfmcclbbeobkaa
