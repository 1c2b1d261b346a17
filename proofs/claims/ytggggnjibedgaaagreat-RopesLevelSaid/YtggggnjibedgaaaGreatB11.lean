/- tie: the walk. -/
import Derived.Test.YtggggnjibedgaaaGreatB05
import Derived.Test.YtggggnjibedgaaaGreatB10
set_option linter.unusedSimpArgs false
set_option linter.unusedVariables false
namespace Go.Proofs.YtggggnjibedgaaaGreat
open Go.RowKit
/-- What tie asks of an outing and of the guides of its clients. -/
structure TOk (o : Ou) (gs : List Nat) : Prop where
  hg : ∀ g ∈ gs, g < o.gds.length
  h0 : 0 < gs.length
  hm : gs.length < 20
  hn : o.gds.length ≤ 12
  hr : ∀ r ∈ o.ros, 0 ≤ r.len ∧ r.len ≤ 1000
  hl : o.ros.length ≤ 1000
  hs : 0 ≤ o.spc ∧ o.spc ≤ 1000
theorem ordG_len (n : Nat) (gs : List Nat) : (ordG n gs).length ≤ n := by
  unfold ordG
  rw [sortM_len]
  exact Nat.le_trans (List.length_filter_le _ _) (by simp)
set_option maxRecDepth 100000 in
set_option maxHeartbeats 8000000 in
theorem tie_any (o : Ou) (A : OA) (F : Option Addr) (fc : Nat) (gs : List Nat) (GA : Option Addr) (gc : Nat) (hok : TOk o gs) (w : World) (hF : IntsAt w F (nI (fitS o))) (hR : RosAt w A.rA o.ros) (hG : IntsAt w GA (nI gs)) :
    Calls Tryz.prog 119 #[ouV o A F (fitS o).length fc, .slice GA gs.length gc] w (TieIs (tieL o gs) w) := by
  rw [tieL_eq]
  have hn := hok.hn
  have hm := hok.hm
  have h0 := hok.h0
  have HRB := hid hok.hr
  have hsp := hok.hs
  have hrl := hok.hl
  have HFL := hid (fun k (h : k < (fitS o).length) => fitS_lt o _ (mem_at (fitS o) 0 k h))
  have HOM := hid (fun k (h : k < (ordG o.gds.length gs).length) => ordG_mem o.gds.length gs _ (mem_at (ordG o.gds.length gs) 0 k h))
  have HON := hid (ordG_len o.gds.length gs)
  have HFN := hid (fun k (h : k < (fitS o).length) => nI_at (fitS o) k h)
  have HOL := hid (fun k (h : k < (ordG o.gds.length gs).length) => nI_at (ordG o.gds.length gs) k h)
  have HK0 := hid (show okK o gs (ordG o.gds.length gs) (fitS o) 0 = true from rfl)
  have HKS := hid (fun k => show okK o gs (ordG o.gds.length gs) (fitS o) (k + 1) = (okK o gs (ordG o.gds.length gs) (fitS o) k && decide (o.spc * cntN gs ((ordG o.gds.length gs).getD k 0) ≤ (o.ros.getD ((fitS o).getD k 0) zeroRo).len)) from okK_succ o gs _ _ k)
  have HKB := hid (fun k (h : k < (ordG o.gds.length gs).length) (hb : ¬ o.spc * cntN gs ((ordG o.gds.length gs).getD k 0) ≤ (o.ros.getD ((fitS o).getD k 0) zeroRo).len) => okK_bad o gs (ordG o.gds.length gs) (fitS o) k h hb)
  have HRL := hid (fun k => ropK_len o.gds.length (ordG o.gds.length gs) (fitS o) k)
  have HR0 := hid (ropK_zero o.gds.length (ordG o.gds.length gs) (fitS o))
  have HRS := hid (fun k (h : k < (ordG o.gds.length gs).length) => ropK_succ o.gds.length (ordG o.gds.length gs) (fitS o) (ordG_nodup _ _) k h)
  have HOR := hid (show ordG o.gds.length gs = sortM (cntN gs) o.gds.length ((List.range o.gds.length).filter fun g => gs.contains g) from rfl)
  have HCP := hid (cpt_once o.gds.length gs hok.hg)
  have HFA := hid hF
  have HRA := hid hR
  have HGA := hid hG
  have HGN := hid (fun k (h : k < gs.length) => nI_at gs k h)
  have HGL := hid (nI_len gs)
  have HCS := hid (fun k (h : k < gs.length) => cntL_succ o.gds.length gs k h)
  have HCL := hid (fun k => cntL_len o.gds.length gs k)
  have HCA := hid (fun k g (h : g < o.gds.length) => cntL_at o.gds.length gs k g h)
  have HC0 := hid (cntL_zero o.gds.length gs)
  have HCB := hid (fun k g => cntN_le gs k g)
  have HGB := hid (fun k (h : k < gs.length) => hok.hg _ (mem_at gs 0 k h))
  clear hF hR hG hok
  unfold ouV
  generalize okK o gs (ordG o.gds.length gs) (fitS o) = OKK at *
  generalize ropK o.gds.length (ordG o.gds.length gs) (fitS o) = RK at *
  generalize fitS o = FT at *
  obtain ⟨day, gra, sp, gds, cls, ⟨sh, us, be, ws⟩, ros⟩ := o
  obtain ⟨gA, gcc, cA, cc, wA, wc, rA, rc⟩ := A
  dsimp only at *
  generalize gds.length = n at *
  generalize ordG n gs = OR at *
  generalize cls.length = n2 at *
  obtain ⟨n3, hn3⟩ : ∃ n, ros.length = n := ⟨_, rfl⟩
  rw [hn3] at HFL hrl ⊢
  have HN3 := hid hn3
  clear hn3
  generalize ws.length = n4 at *
  obtain ⟨nf, hnf⟩ : ∃ n, FT.length = n := ⟨_, rfl⟩
  rw [hnf] at HFL HFN ⊢
  have HNF := hid ((nI_len FT).trans hnf)
  clear hnf
  obtain ⟨no, hno⟩ : ∃ n, OR.length = n := ⟨_, rfl⟩
  rw [hno] at HOM HON HOL HKB HRS ⊢
  have HNO := hid ((nI_len OR).trans hno)
  have HNO2 := hid hno
  clear hno
  obtain ⟨m, hgm⟩ : ∃ m, gs.length = m := ⟨_, rfl⟩
  rw [hgm] at hm h0 HGN HGL HCS HGB ⊢
  have HGM := hid hgm
  clear hgm
  obtain ⟨RES, hRES⟩ : ∃ RES, (if no ≤ nf ∧ OKK no = true then some (RK no) else none) = RES := ⟨_, rfl⟩
  rw [hRES]
  have HRES := hid hRES
  clear hRES
  have hmk : ∀ W : World, (Instr.makeSlice 45 (.int .i64 (n : Int)) (.int .i64 (n : Int))).run Tryz.prog W = .ok (.slice (some ⟨W.heap.size, 0, none⟩) n n) (W.alloc (.cells (fillTo 0 n 0).toArray 3)) := fun W => by
    rw [run_make_row' 45 3 (.int .i64 0) 8 Tryz.underlying45 infoIn rfl .i64 .i64 n (by omega) (by omega) W, made_fill]
  have hf0 : fillTo 0 n 0 = fillTo n n 0 := by simp [fillTo]
  have Z := blks3 w (.cells #[.int .i64 day, .int .i64 gra, .int .i64 sp, .slice gA n gcc, .slice cA n2 cc, .int .i64 sh, .int .i64 us, .int .i64 be, .slice wA n4 wc, .slice rA n3 rc, .slice F nf fc] 126) (.cells (fillTo 0 n 0).toArray 3) (.cells #[.slice (some ⟨w.heap.size + 1, 0, none⟩) n n] 45)
  have Z1 := hid (show Blk _ _ _ _ from Z.1)
  have Z2 := hid (row_fill (v := 0) (m := n) (by rw [← hf0]; exact Z.2.1))
  have Z3 := hid (show Blk _ _ _ _ from Z.2.2)
  clear Z hf0
  generalize fillTo 0 n 0 = f0 at *
  go_enter Tryz.func119, Tryz.ntmps119
  go_wp2
  go_loopw [20] (fun i wr => Ext w wr ∧ Hid (Blk wr w.heap.size 126 #[.int .i64 day, .int .i64 gra, .int .i64 sp, .slice gA n gcc, .slice cA n2 cc, .int .i64 sh, .int .i64 us, .int .i64 be, .slice wA n4 wc, .slice rA n3 rc, .slice F nf fc]) ∧
      Hid (Blk wr (w.heap.size + 1 + 1) 45 #[.slice (some ⟨w.heap.size + 1, 0, none⟩) n n]) ∧ ∃ k : Nat, k ≤ m ∧ i = .int .i64 k ∧ Hid (RowI wr (w.heap.size + 1) n (cntL n gs k))) (fun i _ => m - (intOf i).toNat)
  case atStart => exact ⟨by (repeat' (first | with_reducible assumption | with_reducible exact Ext.refl _ | with_reducible refine Ext.alloc ?_ _ | with_reducible refine Ext.set ?_ ?_ _ | with_reducible refine Ext.drew ?_ | with_reducible refine Ext.drewN ?_ _ | with_reducible refine Ext.trans ?_ (by assumption) | (dsimp only; omega))), Z1, Z3, 0, Nat.zero_le _, rfl, by rw [HC0.out]; exact Z2⟩
  case round =>
    obtain ⟨hE, K1, K3, k, hk, rfl, K2⟩ := hrel
    clear Z1 Z2 Z3 hmk
    obtain ⟨x0, x1, x2, x3, x4, x5, x6, x7, x8, x9, x10⟩ : _ ∧ _ ∧ _ ∧ _ ∧ _ ∧ _ ∧ _ ∧ _ ∧ _ ∧ _ ∧ _ := ⟨K1.out.cell 0, K1.out.cell 1, K1.out.cell 2, K1.out.cell 3, K1.out.cell 4, K1.out.cell 5, K1.out.cell 6, K1.out.cell 7, K1.out.cell 8, K1.out.cell 9, K1.out.cell 10⟩
    have y0 := K3.out.cell 0
    have xz := K1.out.lt
    have yz := K3.out.lt
    have cz := K2.out.lt
    simp only [List.getElem?_toArray, List.getElem?_cons_zero, List.getElem?_cons_succ] at x0 x1 x2 x3 x4 x5 x6 x7 x8 x9 x10 y0
    by_cases hlt : k < m
    · obtain ⟨b, off, rfl, hb, c0⟩ := (HGA.out.ext hE).at_ HGL.out hlt
      rw [HGN.out k hlt] at c0
      have HSk := hid (HCS.out k hlt)
      have hgk := HGB.out k hlt
      have HAk := hid (HCA.out k (gs.getD k 0) hgk)
      have hbk := HCB.out k (gs.getD k 0)
      rw [HGM.out] at hbk
      have e0 := K2.out.cell (j := gs.getD k 0) (by rw [HCL.out]; exact hgk)
      have f0' := K2.out.fro (gs.getD k 0)
      rw [HAk.out] at e0
      clear HCS HCA HCB HGB HGN HAk HFA HRA HFL HOM HON HFN HOL HK0 HKS HKB HRL HR0 HRS HOR HCP HRB
      generalize gs.getD k 0 = g at *
      generalize cntN (gs.take k) g = cv at *
      generalize cntL n gs k = CK at *
      have hw : IntKind.i64.wrap (cv + 1) = cv + 1 := IntWalk.i64_in _ (by omega)
      have hgi : (g : Int) < (n : Int) := by omega
      have L1 := hid (show Blk (wr.setCell ⟨w.heap.size + 1, g, none⟩ (.int .i64 (cv + 1))) w.heap.size 126 _ from K1.out.other (by dsimp only; omega) _)
      have L3 := hid (show Blk (wr.setCell ⟨w.heap.size + 1, g, none⟩ (.int .i64 (cv + 1))) (w.heap.size + 1 + 1) 45 _ from K3.out.other (by dsimp only; omega) _)
      have L2 := hid (K2.out.set g (cv + 1))
      have LE := hid (hE.set (p := ⟨w.heap.size + 1, g, none⟩) (by dsimp only; omega) (.int .i64 (cv + 1)))
      clear K1 K2 K3
      go_wp2
      go_roundw
      case rel => exact ⟨LE.out, L1, L3, k + 1, by omega, by go_num, by rw [HSk.out]; exact L2⟩
      case measure => simp [intOf]; omega
    · obtain rfl : k = m := by omega
      have HTK := hid (show gs.take k = gs by rw [← HGM.out]; exact List.take_length)
      have hb2 : ∀ x ∈ cntL n gs k, 0 ≤ x ∧ x ≤ 1000 := by
        intro x hx
        unfold cntL at hx
        obtain ⟨g, _, rfl⟩ := List.mem_map.1 hx
        have := HCB.out k g
        rw [HGM.out] at this
        omega
      have HB2 := hid hb2
      have HG3 := hid (HGA.out.ext hE)
      have HE := hid hE
      have HV := hid (values_any (nI gs) GA k gc HGL.out wr HG3.out)
      have HCN := hid (fun g (h : g < n) => show (cntL n gs k).getD g 0 = cntN gs g by rw [HCA.out k g h, HTK.out])
      have hn0 : 0 < n := by
        have := HGB.out 0 h0
        omega
      clear HGN HCS HC0 HCB HGB hb2 HCA
      go_wp2_with fail
      refine HV.out.mono ?_
      rintro e w2 ⟨q, rfl, hbox, hE2⟩
      have HSO := hid (sorted_any q GA gc (nI gs) (by rw [HGL.out]; omega) (by rw [HGL.out]; omega) w2 hbox)
      rw [HGL.out] at HSO
      have HE2 := hid hE2
      clear hbox hE2 HV
      go_wp2_with fail
      refine HSO.out.mono ?_
      rintro e w3 ⟨b, cap, rfl, hb3, hrow3, hE3⟩
      have HL3 := hid (show (isrt (nI gs)).length = k by rw [isrt_len, HGL.out])
      have HCO := hid (compact_any (isrt (nI gs)) b cap (by rw [HL3.out]; omega) w3 hrow3)
      rw [HL3.out] at HCO
      have HB3 := hid (show w2.heap.size ≤ b from hb3)
      have HE3 := hid hE3
      clear hb3 hrow3 hE3 HSO
      go_wp2_with fail
      refine HCO.out.mono ?_
      rintro e w4 ⟨rfl, hrow4, hg4⟩
      have hb4 : wr.heap.size ≤ b := Nat.le_trans HE2.out.size HB3.out
      have E3 := hE.trans (HE2.out.trans HE3.out)
      have E4 := hid (show Ext w w4 from Below.grown E3 hg4 E3.size (fun j e => by injection e with e; subst e; exact Nat.le_trans hE.size hb4))
      have W3 := HE2.out.trans HE3.out
      have M1 := hid (show Blk w4 w.heap.size 126 _ from (K1.out.ext W3).grown hg4 (by simp; omega))
      have M3 := hid (show Blk w4 (w.heap.size + 1 + 1) 45 _ from (K3.out.ext W3).grown hg4 (by simp; omega))
      have M2 := hid ((K2.out.ext W3).grown hg4 (by simp; omega))
      have hlo : (cpt (isrt (nI gs))).length = no := by rw [HCP.out, nI_len, ← HNO2.out, HOR.out, sortM_len]
      rw [hlo]
      rw [HCP.out] at hrow4
      have hl0 : ((List.range n).filter fun g => gs.contains g).length = no := by rw [← HNO2.out, HOR.out, sortM_len]
      have HST := hid (stable_any 154 #[.pointer (some ⟨w.heap.size + 1 + 1, 0, none⟩)] (fun _ _ => by kernel_rfl) n hn0 (cntN gs) ((List.range n).filter fun g => gs.contains g) (fun x hx => List.mem_range.1 (List.mem_filter.1 hx).1) b cap (by have := HON.out; omega) w4 hrow4
        (fun W hg x y hx hy => by
          have hq := tie1_any (w.heap.size + 1 + 1) (w.heap.size + 1) n n (cntL n gs k) (HCL.out k) HB2.out x y hx hy W (Nat.lt_of_lt_of_le M3.out.lt hg.size)
            (by have := (M3.out.grown hg (by simp; omega)).cell 0; simpa using this) (M2.out.grown hg (by simp; omega))
          rw [HCN.out x hx, HCN.out y hy] at hq
          exact hq))
      rw [hl0, ← HOR.out] at HST
      have HB4 := hid hb4
      have HYZ := hid yz
      have HG4 := hid hg4
      clear hrow4 hg4 hb4 E3 W3 hlo hl0 HCO HB3 HL3 K1 K2 K3 HCP HOR HB2 x0 x1 x2 x3 x4 x5 x6 x7 x8 x9 x10 y0 xz yz cz hE
      go_wp2_with fail
      refine HST.out.mono ?_
      rintro e w5 ⟨rfl, hrow5, hg5⟩
      have hbw : w.heap.size + 1 + 1 < b := by have := HB4.out; have := HYZ.out; omega
      have E5 := hid (show Ext w w5 from Below.grown E4.out hg5 E4.out.size (fun j e => by injection e with e; subst e; omega))
      have N1 := hid (show Blk w5 w.heap.size 126 _ from M1.out.grown hg5 (by simp; omega))
      have N3 := hid (show Blk w5 (w.heap.size + 1 + 1) 45 _ from M3.out.grown hg5 (by simp; omega))
      have N2 := hid (M2.out.grown hg5 (by simp; omega))
      have R5 := hid hrow5
      have HBW := hid hbw
      clear hrow5 hg5 hbw M1 M2 M3 E4 HST HG4 HB4 HYZ HE HG3 HE2 HE3 HTK HGA HCL
      obtain ⟨x0, x1, x2, x3, x4, x5, x6, x7, x8, x9, x10⟩ : _ ∧ _ ∧ _ ∧ _ ∧ _ ∧ _ ∧ _ ∧ _ ∧ _ ∧ _ ∧ _ := ⟨N1.out.cell 0, N1.out.cell 1, N1.out.cell 2, N1.out.cell 3, N1.out.cell 4, N1.out.cell 5, N1.out.cell 6, N1.out.cell 7, N1.out.cell 8, N1.out.cell 9, N1.out.cell 10⟩
      have y0 := N3.out.cell 0
      have xz := N1.out.lt
      have yz := N3.out.lt
      have cz := N2.out.lt
      simp only [List.getElem?_toArray, List.getElem?_cons_zero, List.getElem?_cons_succ] at x0 x1 x2 x3 x4 x5 x6 x7 x8 x9 x10 y0
      by_cases hcmp : no ≤ nf
      case neg =>
        have hr : RES = none := by rw [← HRES.out, if_neg (fun h => hcmp h.1)]
        have h1 : (nf : Int) < (no : Int) := by omega
        subst hr
        clear HRES
        go_wp2
        go_ret2
        exact ⟨rfl, E5.out⟩
      have h1 : ¬ (nf : Int) < (no : Int) := by omega
      have BQ := blk_last w5 (.cells #[.int .i64 (-1)] 3)
      have HRP := hid (repeat_any w5.heap.size 0 1 (-1) n hn0 hn (w5.alloc (.cells #[.int .i64 (-1)] 3)) (by simp) (blk_cell BQ 0))
      have EQ := hid (ext_alloc1 w5 (.cells #[.int .i64 (-1)] 3))
      have hsz : (w5.alloc (.cells #[.int .i64 (-1)] 3)).heap.size = w5.heap.size + 1 := by simp
      rw [hsz] at HRP
      clear BQ hsz
      go_wp2_with fail
      refine HRP.out.mono ?_
      rintro e w6 ⟨rfl, hr6, hE6⟩
      have X6 := EQ.out.trans hE6
      have E6 := hid (E5.out.trans X6)
      have P1 := hid (show Blk w6 w.heap.size 126 _ from N1.out.ext X6)
      have P3 := hid (show Blk w6 (w.heap.size + 1 + 1) 45 _ from N3.out.ext X6)
      have P2 := hid (N2.out.ext X6)
      have R6 := hid (R5.out.ext X6)
      obtain ⟨r0, hr0⟩ : ∃ r0, w5.heap.size + 1 = r0 := ⟨_, rfl⟩
      rw [hr0] at hr6 ⊢
      rw [← HR0.out] at hr6
      have T6 := hid hr6
      have HRN := hid (show b < r0 ∧ w.heap.size + 1 + 1 < r0 by have := R5.out.lt; have := N3.out.lt; omega)
      clear X6 hE6 hr6 hr0 EQ HRP N1 N2 N3 R5 E5 HR0 x0 x1 x2 x3 x4 x5 x6 x7 x8 x9 x10 y0 xz yz cz
      go_wp2
      go_loopw [52] (fun i wx => Ext w wx ∧ Hid (Blk wx w.heap.size 126 #[.int .i64 day, .int .i64 gra, .int .i64 sp, .slice gA n gcc, .slice cA n2 cc, .int .i64 sh, .int .i64 us, .int .i64 be, .slice wA n4 wc, .slice rA n3 rc, .slice F nf fc]) ∧
          Hid (Blk wx (w.heap.size + 1 + 1) 45 #[.slice (some ⟨w.heap.size + 1, 0, none⟩) n n]) ∧ Hid (RowI wx (w.heap.size + 1) n (cntL n gs k)) ∧ Hid (RowI wx b cap (nI OR)) ∧ ∃ j : Nat, j ≤ no ∧ i = .int .i64 j ∧ Hid (OKK j = true) ∧ Hid (RowI wx r0 n (RK j))) (fun i _ => no - (intOf i).toNat)
      case atStart => exact ⟨E6.out, P1, P3, P2, R6, 0, Nat.zero_le _, rfl, HK0, T6⟩
      case round =>
        obtain ⟨hEx, Q1, Q3, Q2, R7, j, hj, rfl, HKj, T7⟩ := hrel
        clear P1 P2 P3 R6 T6 E6
        obtain ⟨x0, x1, x2, x3, x4, x5, x6, x7, x8, x9, x10⟩ : _ ∧ _ ∧ _ ∧ _ ∧ _ ∧ _ ∧ _ ∧ _ ∧ _ ∧ _ ∧ _ := ⟨Q1.out.cell 0, Q1.out.cell 1, Q1.out.cell 2, Q1.out.cell 3, Q1.out.cell 4, Q1.out.cell 5, Q1.out.cell 6, Q1.out.cell 7, Q1.out.cell 8, Q1.out.cell 9, Q1.out.cell 10⟩
        have y0 := Q3.out.cell 0
        have xz := Q1.out.lt
        have yz := Q3.out.lt
        have cz := Q2.out.lt
        simp only [List.getElem?_toArray, List.getElem?_cons_zero, List.getElem?_cons_succ] at x0 x1 x2 x3 x4 x5 x6 x7 x8 x9 x10 y0
        have rz := R7.out.lt
        have tz := T7.out.lt
        by_cases hlt2 : j < no
        · have o0 := R7.out.cell (j := j) (by rw [HNO.out]; exact hlt2)
          rw [HOL.out j hlt2] at o0
          obtain ⟨fb, foff, rfl, hfb, f1⟩ := (HFA.out.ext hEx).at_ HNF.out (show j < nf by omega)
          rw [HFN.out j (by omega)] at f1
          have hft := HFL.out j (by omega)
          obtain ⟨rb, roff, rfl, hrb, FAddr, fcap, l0, l1, l2, l3, -, -⟩ := (HRA.out.ext hEx).at_ HN3.out hft
          have hg := HOM.out j hlt2
          have hrl2 := HRB.out _ (mem_at ros zeroRo (FT.getD j 0) (by rw [HN3.out]; exact hft))
          have HKSj := hid (HKS.out j)
          have HKBj := hid (HKB.out j hlt2)
          have HRSj := hid (HRS.out j hlt2)
          have cg := Q2.out.cell (j := OR.getD j 0) (by rw [cntL_len]; exact hg)
          rw [HCN.out _ hg] at cg
          have hcv := cntN_le gs k (OR.getD j 0)
          rw [show gs.take k = gs by rw [← HGM.out]; exact List.take_length, HGM.out] at hcv
          have tf := T7.out.fro (OR.getD j 0)
          have tg := T7.out.cell (j := OR.getD j 0) (by rw [HRL.out]; exact hg)
          clear HKS HKB HRS HOL HFN HFL HOM HCN HFA HRA HRB
          generalize OR.getD j 0 = g at *
          generalize FT.getD j 0 = ft at *
          generalize cntN gs g = cv at *
          generalize (ros.getD ft zeroRo) = rr at *
          obtain ⟨rm, rf, rl, rfs⟩ := rr
          dsimp only at *
          have q1 : 0 ≤ sp * cv := Int.mul_nonneg hsp.1 hcv.1
          have q2 : sp * cv ≤ 1000 * 20 := Int.mul_le_mul hsp.2 (by omega) hcv.1 (by omega)
          have hw : IntKind.i64.wrap (sp * cv) = sp * cv := IntWalk.i64_in _ (by omega)
          have hj1 : (j : Int) < (no : Int) := by omega
          have hg1 : (g : Int) < (n : Int) := by omega
          have hf1 : (ft : Int) < (n3 : Int) := by omega
          have hjf : j < nf := by omega
          have hjf1 : (j : Int) < (nf : Int) := by omega
          have hno := HON.out
          go_wp2_with fail
          refine wp_region_held_drew (S := fun w' => (∀ b o, b < wr.heap.size → w'.cell? ⟨b, o, none⟩ = wr.cell? ⟨b, o, none⟩) ∧ wr.heap.size ≤ w'.heap.size ∧ Ext wr w') (by kernel_rfl) ?hS0 (fun hHeld => ?_)
          case hS0 => exact sK (Ext.drew (Ext.refl _))
          have X0 : Ext wr wr.drew := Ext.drew (Ext.refl wr)
          refine tk1 (i := 0) (v := ?v0a) rfl ?y0a ?r0a
          case y0a => (intro w' hSw; (try dsimp only at hSw); go_simp; (try with_reducible rfl))
          try simp only [Act.put, sq1, sq2, sq3, sq4, sq5, sq6]
          refine tk1 (i := 1) (v := ?v1a) rfl ?y1a ?r1a
          case y1a => (intro w' hSw; (try dsimp only at hSw); go_simp; (try with_reducible rfl))
          try simp only [Act.put, sq1, sq2, sq3, sq4, sq5, sq6]
          refine tk1 (i := 2) (v := ?v2a) rfl ?y2a ?r2a
          case y2a => (intro w' hSw; (try dsimp only at hSw); go_simp; (try with_reducible rfl))
          try simp only [Act.put, sq1, sq2, sq3, sq4, sq5, sq6]
          refine tk1 (i := 3) (v := ?v3a) rfl ?y3a ?r3a
          case y3a => (intro w' hSw; (try dsimp only at hSw); go_simp; (try with_reducible rfl))
          try simp only [Act.put, sq1, sq2, sq3, sq4, sq5, sq6]
          refine tk1 (i := 4) (v := ?v4a) rfl ?y4a ?r4a
          case y4a => (intro w' hSw; (try dsimp only at hSw); go_simp; (try with_reducible rfl))
          try simp only [Act.put, sq1, sq2, sq3, sq4, sq5, sq6]
          refine tk1 (i := 5) (v := ?v5a) rfl ?y5a ?r5a
          case y5a => (intro w' hSw; (try dsimp only at hSw); go_simp; (try with_reducible rfl))
          try simp only [Act.put, sq1, sq2, sq3, sq4, sq5, sq6]
          refine tk1 (i := 6) (v := ?v6a) rfl ?y6a ?r6a
          case y6a => (intro w' hSw; (try dsimp only at hSw); go_simp; (try with_reducible rfl))
          try simp only [Act.put, sq1, sq2, sq3, sq4, sq5, sq6]
          refine tk1 (i := 7) (v := ?v7a) rfl ?y7a ?r7a
          case y7a => (intro w' hSw; (try dsimp only at hSw); go_simp; (try with_reducible rfl))
          try simp only [Act.put, sq1, sq2, sq3, sq4, sq5, sq6]
          refine tk1 (i := 8) (v := ?v8a) rfl ?y8a ?r8a
          case y8a => (intro w' hSw; (try dsimp only at hSw); go_simp; (try with_reducible rfl))
          try simp only [Act.put, sq1, sq2, sq3, sq4, sq5, sq6]
          refine tk1 (i := 9) (v := ?v9a) rfl ?y9a ?r9a
          case y9a => (intro w' hSw; (try dsimp only at hSw); go_simp; (try with_reducible rfl))
          try simp only [Act.put, sq1, sq2, sq3, sq4, sq5, sq6]
          refine tk1 (i := 10) (v := ?v10a) rfl ?y10a ?r10a
          case y10a => (intro w' hSw; (try dsimp only at hSw); go_simp; (try with_reducible rfl))
          try simp only [Act.put, sq1, sq2, sq3, sq4, sq5, sq6]
          refine tk1 (i := 11) (v := ?v11a) rfl ?y11a ?r11a
          case y11a => (intro w' hSw; (try dsimp only at hSw); go_simp; (try with_reducible rfl))
          try simp only [Act.put, sq1, sq2, sq3, sq4, sq5, sq6]
          refine tk1 (i := 12) (v := ?v12a) rfl ?y12a ?r12a
          case y12a => (intro w' hSw; (try dsimp only at hSw); go_simp; (try with_reducible rfl))
          try simp only [Act.put, sq1, sq2, sq3, sq4, sq5, sq6]
          refine tk1 (i := 13) (v := ?v13a) rfl ?y13a ?r13a
          case y13a => (intro w' hSw; (try dsimp only at hSw); go_simp; (try with_reducible rfl))
          try simp only [Act.put, sq1, sq2, sq3, sq4, sq5, sq6]
          refine tk1 (i := 14) (v := ?v14a) rfl ?y14a ?r14a
          case y14a => (intro w' hSw; (try dsimp only at hSw); go_simp; (try with_reducible rfl))
          try simp only [Act.put, sq1, sq2, sq3, sq4, sq5, sq6]
          refine tk1 (i := 15) (v := ?v15a) rfl ?y15a ?r15a
          case y15a => (intro w' hSw; (try dsimp only at hSw); go_simp; (try with_reducible rfl))
          try simp only [Act.put, sq1, sq2, sq3, sq4, sq5, sq6]
          refine tk1 (i := 16) (v := ?v16a) rfl ?y16a ?r16a
          case y16a => (intro w' hSw; (try dsimp only at hSw); go_simp; (try with_reducible rfl))
          try simp only [Act.put, sq1, sq2, sq3, sq4, sq5, sq6]
          refine tk1 (i := 17) (v := ?v17a) rfl ?y17a ?r17a
          case y17a => (intro w' hSw; (try dsimp only at hSw); go_simp; (try with_reducible rfl))
          try simp only [Act.put, sq1, sq2, sq3, sq4, sq5, sq6]
          refine tk1 (i := 18) (v := ?v18b) rfl ?y18b ?r18b
          case y18b => (intro w' hSw; (try dsimp only at hSw); go_simp; (try simp only [hw]); (try with_reducible rfl))
          try simp only [Act.put, sq1, sq2, sq3, sq4, sq5, sq6]
          refine tk1 (i := 19) (v := ?v19b) rfl ?y19b ?r19b
          case y19b => (intro w' hSw; (try dsimp only at hSw); go_simp; (try with_reducible rfl))
          try simp only [Act.put, sq1, sq2, sq3, sq4, sq5, sq6]
          refine wpAnyH_done (by kernel_rfl) ?_ _
          clear hHeld
          have hEd := hid (hEx.trans X0)
          have D1 := hid (show Blk wr.drew w.heap.size 126 _ from Q1.out.ext X0)
          have D3 := hid (show Blk wr.drew (w.heap.size + 1 + 1) 45 _ from Q3.out.ext X0)
          have D2 := hid (Q2.out.ext X0)
          have D7 := hid (R7.out.ext X0)
          have DT := hid (T7.out.ext X0)
          replace x10 := (X0.cell (p := ⟨w.heap.size, 10, none⟩) xz).trans x10
          replace f1 := (X0.cell (p := ⟨fb, _, none⟩) hfb).trans f1
          replace tg := (X0.cell (p := ⟨r0, g, none⟩) tz).trans tg
          replace tf := (X0.frozen (p := ⟨r0, g, none⟩) tz).trans tf
          have z1 := Nat.lt_of_lt_of_le xz X0.size
          have z2 := Nat.lt_of_lt_of_le hfb X0.size
          have z3 := Nat.lt_of_lt_of_le tz X0.size
          obtain ⟨wd, hwd⟩ : ∃ wd, wr.drew = wd := ⟨_, rfl⟩
          rw [hwd] at hEd D1 D2 D3 D7 DT x10 f1 tg tf z1 z2 z3 ⊢
          clear hwd Q1 Q2 Q3 R7 T7 x0 x1 x2 x3 x4 x5 x6 x7 x8 x9 y0 xz yz cz rz tz l0 l1 l2 l3 hrb hfb cg X0 hEx hw
          by_cases hlen : rl < sp * cv
          · have hr : RES = none := by rw [← HRES.out, if_neg (fun h => by rw [HKBj.out (by omega)] at h; cases h.2)]
            subst hr
            clear HRES HKSj HKBj HRSj
            go_wp2
            go_ret2
            exact ⟨rfl, hEd.out⟩
          · have hle : sp * cv ≤ rl := by omega
            have HKN := hid (show OKK (j + 1) = true by rw [HKSj.out, HKj.out, decide_eq_true hle]; rfl)
            have L1 := hid (show Blk (wd.setCell ⟨r0, g, none⟩ (.int .i64 (ft : Int))) w.heap.size 126 _ from D1.out.other (by have := HRN.out; dsimp only; omega) _)
            have L3 := hid (show Blk (wd.setCell ⟨r0, g, none⟩ (.int .i64 (ft : Int))) (w.heap.size + 1 + 1) 45 _ from D3.out.other (by have := HRN.out; dsimp only; omega) _)
            have L2 := hid (D2.out.grown (grown_set wd ⟨r0, g, none⟩ (.int .i64 (ft : Int))) (by have := HRN.out; simp; omega))
            have L7 := hid (D7.out.grown (grown_set wd ⟨r0, g, none⟩ (.int .i64 (ft : Int))) (by have := HRN.out; simp; omega))
            have LT := hid (DT.out.set g (ft : Int))
            have LE := hid (hEd.out.set (p := ⟨r0, g, none⟩) (by have := HRN.out; dsimp only; omega) (.int .i64 (ft : Int)))
            clear D1 D2 D3 D7 DT HKSj HKBj hle HRES
            go_wp2
            go_roundw
            case rel => exact ⟨LE.out, L1, L3, L2, L7, j + 1, by omega, by go_num, HKN, by rw [HRSj.out]; exact LT⟩
            case measure => simp [intOf]; omega
        · obtain rfl : j = no := by omega
          have hr : RES = some (RK j) := by rw [← HRES.out, if_pos ⟨hcmp, HKj.out⟩]
          have HLN := hid (HRL.out j)
          subst hr
          clear HRES HKS HKB HRS HOL HFN HFL HOM HCN HFA HRA HRB HRL
          go_wp2
          go_ret2
          exact ⟨r0, n, by rw [HLN.out]; rfl, T7.out, hEx⟩
end Go.Proofs.YtggggnjibedgaaaGreat
/- led: all ways to lead, yielded. -/
set_option linter.unusedSimpArgs false
set_option linter.unusedVariables false
namespace Go.Proofs.YtggggnjibedgaaaGreat
open Go.RowKit
set_option maxRecDepth 100000 in
set_option maxHeartbeats 8000000 in
theorem led_any (o : Ou) (A : OA) (F : Option Addr) (fn fc l m : Nat) (J : List (List Nat) → World → Prop) (hm : o.cls.length ≤ 1000) (hn : o.gds.length ≤ 1000) (hc : ∀ x ∈ o.cls, 0 ≤ x ∧ x ≤ 1000) (W : World) (hJ : LdJ o A W.heap.size J)
    (hY : ∀ Bf, W.heap.size ≤ Bf → LdY o l m W.heap.size Bf o.cls.length J) (h0 : J [] W) :
    Calls Tryz.prog 118 #[ouV o A F fn fc, .func (.yield l) #[] #[]] W fun e W' => (∃ v, e = .returned v) ∧ J (ledL o o.cls.length []) W' := by
  have HST := hid hJ.stays
  have HJ0 := hid h0
  have HL := hid (fun (W1 : World) (h1 : J [] W1) (hb : Buf W.heap.size (W.heap.size + 1) o.cls.length [] W1) =>
    lead_any o A F fn fc l m W.heap.size (W.heap.size + 1) o.cls.length J hJ hm hn hc (Nat.le_refl _) (hY _ (by omega)) o.cls.length [] [] W1 (by simp) (by intro g hg; cases hg) h1 hb)
  clear hJ h0 hY hc
  simp only [List.nil_append, List.length_nil] at HL
  generalize ledL o o.cls.length [] = LL at *
  unfold ouV at *
  obtain ⟨day, gra, sp, gds, cls, ⟨sh, us, be, ws⟩, ros⟩ := o
  obtain ⟨gA, gcc, cA, cc, wA, wc, rA, rc⟩ := A
  dsimp only at *
  generalize gds.length = n1 at *
  generalize ros.length = n3 at *
  generalize ws.length = n4 at *
  generalize cls.length = n2 at *
  obtain ⟨M, hM1, hmk⟩ : ∃ M : Array Value, M.size = n2 * 1 ∧ ∀ W : World, (Instr.makeSlice 45 (.int .i64 0) (.int .i64 (n2 : Int))).run Tryz.prog W = .ok (.slice (some ⟨W.heap.size, 0, none⟩) 0 n2) (W.alloc (.cells M 3)) := by
    refine ⟨madeCells #[.int .i64 0] n2, by rw [made_fill (v := 0)]; simp [fillTo], fun W => ?_⟩
    obtain ⟨i0, hi, hz0, hz1, hz2⟩ := info_parts infoIn
    have hr := run_make (P := Tryz.prog) W 45 3 i0 (.int .i64 0) Tryz.underlying45 hi hz0 .i64 .i64 0 (n2 : Int) (by omega) (by omega) (by rw [hz2]; omega) (by omega)
    simp only [Int.toNat_natCast, hz1, Nat.mul_one] at hr
    exact hr
  have Z := blk_last W (.cells #[.int .i64 day, .int .i64 gra, .int .i64 sp, .slice gA n1 gcc, .slice cA n2 cc, .int .i64 sh, .int .i64 us, .int .i64 be, .slice wA n4 wc, .slice rA n3 rc, .slice F fn fc] 126)
  have Z0 := hid (show Blk _ _ _ _ from Z)
  have G0 := World.grownBy_alloc W (.cells #[.int .i64 day, .int .i64 gra, .int .i64 sp, .slice gA n1 gcc, .slice cA n2 cc, .int .i64 sh, .int .i64 us, .int .i64 be, .slice wA n4 wc, .slice rA n3 rc, .slice F fn fc] 126) none
  obtain ⟨U, hU⟩ : ∃ U, W.alloc (.cells #[.int .i64 day, .int .i64 gra, .int .i64 sp, .slice gA n1 gcc, .slice cA n2 cc, .int .i64 sh, .int .i64 us, .int .i64 be, .slice wA n4 wc, .slice rA n3 rc, .slice F fn fc] 126) = U := ⟨_, rfl⟩
  have hz : U.heap.size = W.heap.size + 1 := by rw [← hU]; simp
  go_enter Tryz.func118, Tryz.ntmps118
  go_wp2_with fail
  rw [hU] at Z0 G0
  have HG := hid G0
  clear Z G0 hU
  obtain ⟨x0, x1, x2, x3, x4, x5, x6, x7, x8, x9, x10⟩ : _ ∧ _ ∧ _ ∧ _ ∧ _ ∧ _ ∧ _ ∧ _ ∧ _ ∧ _ ∧ _ := ⟨Z0.out.cell 0, Z0.out.cell 1, Z0.out.cell 2, Z0.out.cell 3, Z0.out.cell 4, Z0.out.cell 5, Z0.out.cell 6, Z0.out.cell 7, Z0.out.cell 8, Z0.out.cell 9, Z0.out.cell 10⟩
  have xz := Z0.out.lt
  simp only [List.getElem?_toArray, List.getElem?_cons_zero, List.getElem?_cons_succ] at x0 x1 x2 x3 x4 x5 x6 x7 x8 x9 x10
  refine wp_region_held_drew (S := fun w' => (w'.cell? ⟨W.heap.size, 0, none⟩ = some (.int .i64 day) ∧ w'.cell? ⟨W.heap.size, 1, none⟩ = some (.int .i64 gra) ∧ w'.cell? ⟨W.heap.size, 2, none⟩ = some (.int .i64 sp) ∧ w'.cell? ⟨W.heap.size, 3, none⟩ = some (.slice gA n1 gcc) ∧ w'.cell? ⟨W.heap.size, 4, none⟩ = some (.slice cA n2 cc) ∧ w'.cell? ⟨W.heap.size, 5, none⟩ = some (.int .i64 sh) ∧ w'.cell? ⟨W.heap.size, 6, none⟩ = some (.int .i64 us) ∧ w'.cell? ⟨W.heap.size, 7, none⟩ = some (.int .i64 be) ∧ w'.cell? ⟨W.heap.size, 8, none⟩ = some (.slice wA n4 wc) ∧ w'.cell? ⟨W.heap.size, 9, none⟩ = some (.slice rA n3 rc) ∧ w'.cell? ⟨W.heap.size, 10, none⟩ = some (.slice F fn fc)) ∧ W.heap.size < w'.heap.size) (by kernel_rfl) ?hS0 (fun hHeld => ?_)
  case hS0 => exact ⟨⟨x0, x1, x2, x3, x4, x5, x6, x7, x8, x9, x10⟩, xz⟩
  refine tk1 (i := 0) (v := ?v0a) rfl ?y0a ?r0a
  case y0a => (intro w' hSw; (try dsimp only at hSw); go_simp; (try with_reducible rfl))
  try simp only [Act.put, sq1, sq2, sq3, sq4, sq5, sq6]
  refine tk1 (i := 1) (v := ?v1a) rfl ?y1a ?r1a
  case y1a => (intro w' hSw; (try dsimp only at hSw); go_simp; (try with_reducible rfl))
  try simp only [Act.put, sq1, sq2, sq3, sq4, sq5, sq6]
  refine tk1 (i := 2) (v := ?v2a) rfl ?y2a ?r2a
  case y2a => (intro w' hSw; (try dsimp only at hSw); go_simp; (try with_reducible rfl))
  try simp only [Act.put, sq1, sq2, sq3, sq4, sq5, sq6]
  refine tk1 (i := 3) (v := ?v3a) rfl ?y3a ?r3a
  case y3a => (intro w' hSw; (try dsimp only at hSw); go_simp; (try with_reducible rfl))
  try simp only [Act.put, sq1, sq2, sq3, sq4, sq5, sq6]
  refine tk1 (i := 4) (v := ?v4a) rfl ?y4a ?r4a
  case y4a => (intro w' hSw; (try dsimp only at hSw); go_simp; (try with_reducible rfl))
  try simp only [Act.put, sq1, sq2, sq3, sq4, sq5, sq6]
  refine tk1 (i := 6) (v := ?v6a) rfl ?y6a ?r6a
  case y6a => (intro w' hSw; (try dsimp only at hSw); go_simp; (try with_reducible rfl))
  try simp only [Act.put, sq1, sq2, sq3, sq4, sq5, sq6]
  refine wpAnyH_ready (rs := [5]) (by kernel_rfl) (by simp) ?_
  refine AllReadyH.cons (o := _) rfl (fun K hK => ?_) AllReadyH.nil
  go_simp
  clear hHeld
  have SX := hid (show ∀ b o, b < U.heap.size → (U.alloc (.cells M 3)).drew.cell? ⟨b, o, none⟩ = U.cell? ⟨b, o, none⟩ from fun b o h => (Ext.drew (ext_alloc1 U _)).cell (p := ⟨b, o, none⟩) h)
  have SS := hid (fun o => SX.out W.heap.size o (by omega))
  refine hK.out _ _ ⟨⟨(SS.out 0).trans x0, (SS.out 1).trans x1, (SS.out 2).trans x2, (SS.out 3).trans x3, (SS.out 4).trans x4, (SS.out 5).trans x5, (SS.out 6).trans x6, (SS.out 7).trans x7, (SS.out 8).trans x8, (SS.out 9).trans x9, (SS.out 10).trans x10⟩, by simp; omega⟩ (fun hHeld => ?_)
  clear hK K
  try simp only [Act.put, sq1, sq2, sq3, sq4, sq5, sq6]
  refine wpAnyH_ready (rs := [7]) (by kernel_rfl) (by simp) ?_
  refine AllReadyH.cons (o := _) rfl (fun K hK => ?_) AllReadyH.nil
  go_simp
  clear hHeld SS SX
  have EV : Ext U (U.alloc (.cells M 3)).drew := Ext.drew (ext_alloc1 U _)
  have BV := hid (show Buf W.heap.size (W.heap.size + 1) n2 [] (U.alloc (.cells M 3)).drew from Buf.grown (Buf.join ⟨M, by omega, by rw [← hz]; exact heap_alloc_new U _, Nat.zero_le _, by unfold maxLen; omega, hM1, rfl⟩) (ext_grown (Ext.drew (Ext.refl (U.alloc (.cells M 3))))) (by simp))
  have JV := hid (HST.out _ _ _ none (HST.out _ _ _ none HJ0.out HG.out (fun r e => by cases e)) (ext_grown EV) (fun r e => by cases e))
  have XV := hid (Z0.out.ext EV)
  generalize (U.alloc (.cells M 3)).drew = V at *
  refine Calls.mono (HL.out V JV.out BV.out) ?_
  rintro e w7 ⟨rfl, hJ7, hB7, hL7⟩
  dsimp only
  have X7 := hid (hL7.blk W.heap.size _ _ (Nat.le_refl _) (by omega) XV.out)
  have J7 := hid hJ7
  have X7' := X7.out
  have c7 : _ ∧ _ ∧ _ ∧ _ ∧ _ ∧ _ ∧ _ ∧ _ ∧ _ ∧ _ ∧ _ := ⟨X7'.cell 0, X7'.cell 1, X7'.cell 2, X7'.cell 3, X7'.cell 4, X7'.cell 5, X7'.cell 6, X7'.cell 7, X7'.cell 8, X7'.cell 9, X7'.cell 10⟩
  simp only [List.getElem?_toArray, List.getElem?_cons_zero, List.getElem?_cons_succ] at c7
  have z7 := X7'.lt
  clear hJ7 hB7 hL7 JV BV XV x0 x1 x2 x3 x4 x5 x6 x7 x8 x9 x10 xz X7'
  refine hK.out _ _ ⟨c7, z7⟩ (fun hHeld => ?_)
  clear hK K
  try simp only [Act.put, sq1, sq2, sq3, sq4, sq5, sq6]
  clear hHeld c7 z7
  refine wpAnyH_done (by kernel_rfl) ?_ _
  go_wp2
  go_end0
  exact ⟨⟨_, rfl⟩, J7.out⟩
end Go.Proofs.YtggggnjibedgaaaGreat
/- A range over a function that yields from memory of its own. -/
set_option linter.unusedSimpArgs false
set_option linter.unusedVariables false
namespace Go.Proofs.YtggggnjibedgaaaGreat
open Go.RowKit
theorem KeepsAll.refl (S : Nat) (W : World) : KeepsAll S W W := ⟨Nat.le_refl _, fun _ _ _ => rfl⟩
theorem KeepsAll.trans {S : Nat} {X Y Z : World} (h : KeepsAll S X Y) (k : KeepsAll S Y Z) : KeepsAll S X Z := ⟨Nat.le_trans h.size k.size, fun q hq hl => (k.same q hq (Nat.lt_of_lt_of_le hl h.size)).trans (h.same q hq hl)⟩
theorem KeepsAll.putObj (S : Nat) (W : World) (l : Nat) (o : Obj) (h : l < S) : KeepsAll S W (W.putObj l o) := ⟨(grownBy_putObj' W l o).size, fun k hk hl => (grownBy_putObj' W l o).block k hl (by simp; omega)⟩
theorem KeepsAll.set (S : Nat) (W : World) (p : Addr) (u : Value) (h : p.block < S) : KeepsAll S W (W.setCell p u) := ⟨(grown_set W p u).size, fun k hk hl => (grown_set W p u).block k hl (by simp; omega)⟩
theorem KeepsAll.ext {S : Nat} {W W' : World} (h : Ext W W') : KeepsAll S W W' := ⟨h.size, fun k _ hl => (ext_grown h).block k hl (by simp)⟩
theorem KeepsAll.mono {S T : Nat} {W W' : World} (h : KeepsAll S W W') (hST : S ≤ T) : KeepsAll T W W' := ⟨h.size, fun k hk hl => h.same k (Nat.le_trans hST hk) hl⟩
theorem KeepsAll.from {S B : Nat} {W W' : World} (h : KeepsAll S W W') (hSB : S ≤ B) : KeepsFrom B W W' := ⟨h.size, fun k o hk ho _ => (h.same k (Nat.le_trans hSB hk) (Array.getElem?_eq_some_iff.1 ho).1).trans ho⟩
/-- What an iterator yields from its own memory. -/
def GivesG {α : Type} (n m gf : Nat) (mk : Value → Array Value) (R : World → Prop) (V : Nat → α → Array Value → World → Prop) (xs : List α) : Prop :=
  ∀ (l : Nat) (J : List α → World → Prop) (W : World), (∀ pre W1, J pre W1 → R W1) →
    (∀ pre W1 W2 row, J pre W1 → W1.grownBy W2 row → (∀ r, row = some r → W.heap.size ≤ r) → J pre W2) →
    (∀ pre x args W1, J pre W1 → V W.heap.size x args W1 → YieldAt Fence.wide m Tryz.prog l args W1 fun e W' => e = .returned (.bool true) ∧ J (pre ++ [x]) W' ∧ KeepsAll W.heap.size W1 W') →
    J [] W → CallsIn Fence.wide n Tryz.prog gf (mk (.func (.yield l) #[] #[])) W fun e W' => (∃ v, e = .returned v) ∧ J xs W'
section
variable {α : Type} {g : Operand} {ps : Array Tmp} {assign body : Code} {Q : Exit → Act → World → Prop} {a : Act} {w : World}
theorem range_gives2 {n m gf : Nat} {rv : Value} {R : World → Prop} {V : Nat → α → Array Value → World → Prop} {xs : List α} (h1 : 1 ≤ n) (hg : a.eval g = .func (.func gf) #[rv] #[]) (eg : ∀ args w, (callFunc gf args).run Tryz.prog w = .ok (.enter gf args) w)
    (hseq : GivesG (n - 1) m gf (fun y => #[rv, y]) R V xs) (I : List α → World → Prop)
    (hI : ∀ pre W1 W2 row, I pre W1 → W1.grownBy W2 row → (∀ r, row = some r → w.heap.size ≤ r) → I pre W2)
    (hV : ∀ S x args W1 q L o, V S x args W1 → W1.heap[q]? = some (Obj.loop L) → V S x args (W1.putObj q o)) (hVn : ∀ S x args W1, V S x args W1 → args.size = ps.size)
    (hT : ∀ pre W, I pre W → R W) (h0 : I [] w) (a₁ : Array Value → Act)
    (hassign : ∀ (l : Nat) (args : Array Value) (W : World) (K : Act → World → Prop), args.size = ps.size → K (a₁ args) W → assign.wpIn (Fence.wide.inRound l) (m) Tryz.prog (Exit.then K (fun _ _ _ => False)) { tmps := (ps.zip args).foldl (fun t (p, v) => t.setIfInBounds p v) a.tmps, defers := [] } W)
    (hbody : ∀ (l : Nat) (pre : List α) (x : α) (args : Array Value) (W : World), w.heap.size ≤ l → V (w.heap.size + 2) x args W → I pre W → w.heap.size + 2 ≤ W.heap.size →
      body.wpIn (Fence.wide.inRound l) (m) Tryz.prog (fun e _ W' => e = .normal ∧ KeepsFrom w.heap.size W W' ∧ KeepsAll (w.heap.size + 2) W W' ∧ I (pre ++ [x]) W') (a₁ args) W)
    (hdone : ∀ (D : Nat) (W : World), w.heap.size ≤ D → I xs W → W.heap[D]? = some (.deferred (some [])) → Q .normal { a with defers := { target := .collected D, args := #[] } :: a.defers } W) :
    (Code.rangeFunc g ps assign body).wpIn Fence.wide n Tryz.prog Q a w := by
  refine wpIn_rangeFunc fun fn hfn => ?_
  have hro : Fence.wide.round = none := rfl
  rw [hro]
  obtain ⟨rec, hrec⟩ : ∃ rec : LoopState → Loop, rec = fun st => { state := st, pending := none, fn, tmps := a.tmps, params := ps, assign, body, defers := w.heap.size } := ⟨_, rfl⟩
  obtain ⟨W1, hW1⟩ : ∃ W1, (w.alloc (.deferred (some []))).alloc (.loop (rec .ready)) = W1 := ⟨_, rfl⟩
  have hz1 : W1.heap.size = w.heap.size + 2 := by rw [← hW1]; simp
  have hL1 : W1.heap[w.heap.size + 1]? = some (.loop (rec .ready)) := by
    rw [← hW1]; have := World.alloc_heap_new (w.alloc (.deferred (some []))) (.loop (rec .ready)); rwa [World.size_alloc] at this
  have hK1 : W1.heap[w.heap.size]? = some (.deferred (some [])) := by
    rw [← hW1]; exact (Below.heap_alloc _ _ _ (by simp)).trans (World.alloc_heap_new w _)
  have hI1 : I [] W1 := by
    rw [← hW1]
    exact hI _ _ _ none (hI _ _ _ none h0 (World.grownBy_alloc w _ none) (fun r e => by cases e)) (World.grownBy_alloc _ _ none) (fun r e => by cases e)
  refine ⟨w.heap.size + 1, [{ target := .collected w.heap.size, args := #[] }], W1, { target := .fn (.func gf) #[], args := #[rv, .func (.yield (w.heap.size + 1)) #[] #[]] }, W1, gf,
    #[rv, .func (.yield (w.heap.size + 1)) #[] #[]], W1, ?_, ?_, fun _ _ => trivial, ?_, fun _ => h1, ?_⟩
  · rw [← hW1, hrec]; exact run_enterLoop_outer _ _ _ _ _
  · simp only [resolve, hg]
    simp [go_sem]
  · simp [invoke, go_sem, eg]
  · refine (hseq (w.heap.size + 1) (fun pre W => I pre W ∧ W.heap[w.heap.size + 1]? = some (.loop (rec .ready)) ∧ W.heap[w.heap.size]? = some (.deferred (some [])) ∧ w.heap.size + 2 ≤ W.heap.size) W1 (fun pre W h => hT pre W h.1) ?_ ?_ ⟨hI1, hL1, hK1, by omega⟩).mono ?_
    · rintro pre X Y row ⟨hi, hl, hk, hz⟩ hg2 hr
      refine ⟨hI _ _ _ _ hi hg2 (fun r e => by have := hr r e; omega), (hg2.block _ (by omega) (fun e => by have := hr _ e.symm; omega)).trans hl, (hg2.block _ (by omega) (fun e => by have := hr _ e.symm; omega)).trans hk, Nat.le_trans hz hg2.size⟩
    · rintro pre x args W ⟨hi, hl, hk, hz⟩ hv
      rw [hz1] at hv
      have hlt : w.heap.size + 1 < W.heap.size := (Array.getElem?_eq_some_iff.1 hl).1
      have hnn := hVn _ _ _ _ hv
      have hy := run_yield (P := Tryz.prog) (args := args) hl (by rw [hrec]; exact hnn)
      rw [hrec] at hy
      refine ⟨fn, _, assign, body, hy, roundIn_of_wpIn hfn ?_⟩
      refine hassign (w.heap.size + 1) args W _ hnn ?_
      refine ⟨_, run_beginRound hl (by rw [hrec]), ?_⟩
      have hl2 : (W.putObj (w.heap.size + 1) (.loop { rec .ready with state := .busy })).heap[w.heap.size + 1]? = some (.loop { rec .ready with state := .busy }) := World.putObj_heap_same hlt
      have hk2 : (W.putObj (w.heap.size + 1) (.loop { rec .ready with state := .busy })).heap[w.heap.size]? = some (.deferred (some [])) := (World.putObj_heap_other (by omega)).trans hk
      have hA1 := KeepsAll.putObj (w.heap.size + 2) W (w.heap.size + 1) (.loop { rec .ready with state := .busy }) (by omega)
      refine wpIn_mono (hbody (w.heap.size + 1) pre x args _ (by omega) (hV _ _ _ _ _ _ _ hv hl) (hI _ _ _ _ hi (grownBy_putObj' W _ _) (fun r e => by injection e with e; omega)) (Nat.le_trans hz hA1.size)) ?_
      rintro e a3 W3 ⟨rfl, hk3, hA3, hi3⟩
      have hl3 := hk3.same _ _ (by omega) hl2 rfl
      have hk4 := hk3.same _ _ (Nat.le_refl _) hk2 rfl
      have hr := run_endRound (P := Tryz.prog) none hl3
      have hlt3 : w.heap.size + 1 < W3.heap.size := (Array.getElem?_eq_some_iff.1 hl3).1
      rw [hrec] at hr
      have hA4 := fun o => KeepsAll.putObj (w.heap.size + 2) W3 (w.heap.size + 1) o (by omega)
      refine ⟨_, _, hr, rfl, ⟨hI _ _ _ _ hi3 (grownBy_putObj' W3 _ _) (fun r e => by injection e with e; omega), ?_, (World.putObj_heap_other (by omega)).trans hk4, Nat.le_trans hlt3 (hA4 _).size⟩, ?_⟩
      · rw [hrec]
        exact World.putObj_heap_same hlt3
      · rw [hz1]
        exact hA1.trans (hA3.trans (hA4 _))
    · rintro e W2 ⟨⟨v, rfl⟩, hi, hl, hk, hz⟩
      refine ⟨none, _, by have := run_endLoop (P := Tryz.prog) hl (by rw [hrec]; simp); rw [hrec] at this; exact this, hdone _ _ (Nat.le_refl _) (hI _ _ _ _ hi (grownBy_putObj' W2 _ _) (fun r e => by injection e with e; omega)) ((World.putObj_heap_other (by omega)).trans hk)⟩
end
end Go.Proofs.YtggggnjibedgaaaGreat
