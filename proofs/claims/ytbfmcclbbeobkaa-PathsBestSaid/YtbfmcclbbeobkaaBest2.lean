/- No route is quicker. -/
import Derived.Test.YtbfmcclbbeobkaaBest
import Derived.Deep.RegionHeld3
set_option linter.unusedSimpArgs false
set_option linter.unusedVariables false
namespace Go.Proofs.Ytbfmcclbbeobkaa
open Go.RowKit
set_option maxRecDepth 100000 in
set_option maxHeartbeats 8000000 in
theorem pathsBest_any (m g l pl ph from_ to_ start D v5 : Int) (RA : Option Addr) (rn rc : Nat) (r : List Int) (hrn : r.length = rn) (hmx : rn ≤ 9223372036854775807) (WA : Option Addr) (wn wc : Nat) (waits : List Int) (hwn : waits.length = wn) (A : Option Addr) (n c : Nat) (ps : List Pt) (hn : ps.length = n) (w : World) (hp : PathsAt w A ps) (hR : IntsAt w RA r) (hW : IntsAt w WA waits) :
    Calls Try.prog 7 #[.agg #[.int .i64 m, .slice A n c], .agg #[.int .i64 g, .int .i64 l, .int .i64 pl, .int .i64 ph], .agg #[.int .i64 from_, .int .i64 to_, .int .i64 start, .int .i64 D, .slice RA rn rc, .int .i64 v5], .slice WA wn wc] w fun e w' => e = .returned (.bool true) ∧ Ext w w' := by
  have HF := hid (fun (W : World) (hE : Ext w W) => fits_any m g l pl ph from_ to_ start D v5 (.slice RA rn rc) rfl A n c ps hn W (hp.ext hE))
  have HI := hid (fun (h24 : n ≤ 24) (W : World) (hE : Ext w W) => isRoute_any m g l pl ph from_ A n c ps hn (by omega) RA rn rc r hrn hmx W (hp.ext hE) (hR.ext hE))
  have HA := hid (fun (f s : Int) (hb : beginE m g l pl ph ps [f] [s] = 0) (W : World) (hE : Ext w W) => arrive_ok m g l pl ph f s A n c ps hn W (hp.ext hE) hb)
  have HRO := hid (fun (f s t : Int) (hb : beginE m g l pl ph ps [f, t] [s] = 0) (W : World) (hE : Ext w W) => routeF_ok m g l pl ph f s t A n c ps hn W (hp.ext hE) hb)
  have HP := hid hp
  have HR := hid hR
  have HW := hid hW
  have HN := hid hn
  have HRN := hid hrn
  have HWN := hid hwn
  clear hp hn hR hrn hW hwn
  have t0 := three_blocks w (.cells #[.int .i64 m, .slice A n c] 24) (.cells #[.int .i64 g, .int .i64 l, .int .i64 pl, .int .i64 ph] 28) (.cells #[.int .i64 from_, .int .i64 to_, .int .i64 start, .int .i64 D, .slice RA rn rc, .int .i64 v5] 31)
  have B0 := hid t0.1
  have B1 := hid t0.2.1
  have B2 := hid t0.2.2
  clear t0
  by_cases hw60 : wn ≤ 60
  case neg =>
    go_enter Try.func7, Try.ntmps7
    go_wp2_with fail
    refine (HF.out _ (by (repeat' (first | with_reducible assumption | with_reducible exact Ext.refl _ | with_reducible refine Ext.alloc ?_ _ | with_reducible refine Ext.set ?_ ?_ _ | with_reducible refine Ext.drew ?_ | with_reducible refine Ext.drewN ?_ _ | with_reducible refine Ext.trans ?_ (by assumption) | (dsimp only; omega))))).mono ?_
    rintro e w1 ⟨⟨B, rfl, hB⟩, hE⟩
    have E7 : Ext w w1 := by (repeat' (first | with_reducible assumption | with_reducible exact Ext.refl _ | with_reducible refine Ext.alloc ?_ _ | with_reducible refine Ext.set ?_ ?_ _ | with_reducible refine Ext.drew ?_ | with_reducible refine Ext.drewN ?_ _ | with_reducible refine Ext.trans ?_ (by assumption) | (dsimp only; omega)))
    clear hB
    have hw2 : decide ((60 : Int) < (wn : Int)) = true := decide_eq_true (by omega)
    cases B
    · go_wp2_with fail
      refine (works_any _).mono ?_
      rintro e w9 ⟨rfl, hE9⟩
      have EZ : Ext w w9 := by (repeat' (first | with_reducible assumption | with_reducible exact Ext.refl _ | with_reducible refine Ext.alloc ?_ _ | with_reducible refine Ext.set ?_ ?_ _ | with_reducible refine Ext.drew ?_ | with_reducible refine Ext.drewN ?_ _ | with_reducible refine Ext.trans ?_ (by assumption) | (dsimp only; omega)))
      go_wp2
      go_ret
      exact ⟨rfl, EZ⟩
    · go_wp2_with fail
      refine (works_any _).mono ?_
      rintro e w9 ⟨rfl, hE9⟩
      have EZ : Ext w w9 := by (repeat' (first | with_reducible assumption | with_reducible exact Ext.refl _ | with_reducible refine Ext.alloc ?_ _ | with_reducible refine Ext.set ?_ ?_ _ | with_reducible refine Ext.drew ?_ | with_reducible refine Ext.drewN ?_ _ | with_reducible refine Ext.trans ?_ (by assumption) | (dsimp only; omega)))
      go_wp2
      go_ret
      exact ⟨rfl, EZ⟩
  have hw2 : decide ((60 : Int) < (wn : Int)) = false := decide_eq_false (by omega)
  have hw3 : ¬ (60 : Int) < (wn : Int) := by omega
  go_enter Try.func7, Try.ntmps7
  go_wp2_with fail
  refine (HF.out _ (by (repeat' (first | with_reducible assumption | with_reducible exact Ext.refl _ | with_reducible refine Ext.alloc ?_ _ | with_reducible refine Ext.set ?_ ?_ _ | with_reducible refine Ext.drew ?_ | with_reducible refine Ext.drewN ?_ _ | with_reducible refine Ext.trans ?_ (by assumption) | (dsimp only; omega))))).mono ?_
  rintro e w1 ⟨⟨B, rfl, hB⟩, hE⟩
  (first | (have hK := KC.step (n := w.heap.size + 3) (by with_reducible assumption) hE) | (have hK := KC.step (KC.step (n := w.heap.size + 3) (by with_reducible assumption) (ext_alloc1 _ _)) hE) | (have hK := KC.step (KC.refl (n := w.heap.size + 3) (by simp)) hE)); have hC := hK.cell; have hF := hK.fro; have hX := hK.ext
  have HB := hid hB
  have E1 : Ext w w1 := by (repeat' (first | with_reducible assumption | with_reducible exact Ext.refl _ | with_reducible refine Ext.alloc ?_ _ | with_reducible refine Ext.set ?_ ?_ _ | with_reducible refine Ext.drew ?_ | with_reducible refine Ext.drewN ?_ _ | with_reducible refine Ext.trans ?_ (by assumption) | (dsimp only; omega)))
  have C0 := hid (blk_ext B0.out hE)
  have C1 := hid (blk_ext B1.out hE)
  have C2 := hid (blk_ext B2.out hE)
  clear hB B0 B1 B2
  cases B
  case false => go_wp2_with fail
                refine (works_any _).mono ?_
                rintro e w9 ⟨rfl, hE9⟩
                have EZ : Ext w w9 := by (repeat' (first | with_reducible assumption | with_reducible exact Ext.refl _ | with_reducible refine Ext.alloc ?_ _ | with_reducible refine Ext.set ?_ ?_ _ | with_reducible refine Ext.drew ?_ | with_reducible refine Ext.drewN ?_ _ | with_reducible refine Ext.trans ?_ (by assumption) | (dsimp only; omega)))
                go_wp2
                go_ret
                exact ⟨rfl, EZ⟩
  have HFIT := hid (HB.out rfl)
  obtain ⟨k1, k2, k3, k4, k5, k6⟩ := HB.out rfl
  obtain ⟨hm1, hm2, hN⟩ := vNet_ok k1
  have HI2 := hid (HI.out (by have := hN.len; have := HN.out; omega))
  clear HI hE HF HB
  go_wp2_with fail
  refine (HI2.out _ E1).mono ?_
  rintro e w2 ⟨⟨B, rfl, hB⟩, hE⟩
  have E2 : Ext w w2 := E1.trans hE
  (first | (have hK := KC.step (n := w.heap.size + 3) (by with_reducible assumption) hE) | (have hK := KC.step (KC.step (n := w.heap.size + 3) (by with_reducible assumption) (ext_alloc1 _ _)) hE) | (have hK := KC.step (KC.refl (n := w.heap.size + 3) (by simp)) hE)); have hC := hK.cell; have hF := hK.fro; have hX := hK.ext
  have HB := hid hB
  have D0 := hid (blk_ext C0.out hE)
  have D1 := hid (blk_ext C1.out hE)
  have D2 := hid (blk_ext C2.out hE)
  clear hB C0 C1 C2 HI2 hE
  cases B
  case false => go_wp2_with fail
                refine (works_any _).mono ?_
                rintro e w9 ⟨rfl, hE9⟩
                have EZ : Ext w w9 := by (repeat' (first | with_reducible assumption | with_reducible exact Ext.refl _ | with_reducible refine Ext.alloc ?_ _ | with_reducible refine Ext.set ?_ ?_ _ | with_reducible refine Ext.drew ?_ | with_reducible refine Ext.drewN ?_ _ | with_reducible refine Ext.trans ?_ (by assumption) | (dsimp only; omega)))
                go_wp2
                go_ret
                exact ⟨rfl, EZ⟩
  have hro := HB.out rfl
  have HROK := hid hro
  have hr30 : rn ≤ 30 := by have := hro.len; have := HRN.out; omega
  have ha := vParty_ok k2
  have HSP := hid (fun (i : Nat) (hi : i < n) (W : World) (hE : Ext w W) => rSpan_any m g l pl ph ha A n c ps HN.out i hi (hN.ok i (by have := HN.out; omega)) W (HP.out.ext hE))
  have hO := vNet_opens k1
  have HWK := hid (fun (hwb : ∀ k, k < waits.length → 0 ≤ waits.getD k 0 ∧ waits.getD k 0 ≤ 2880) (TA : Option Addr) (tn tc : Nat) (times : List Int) (htn : times.length = tn) (htm : tn ≤ 1000) (htb : ∀ k, k < times.length → 0 ≤ times.getD k 0 ∧ times.getD k 0 ≤ 10000) (W : World) (hE : Ext w W) (hT : IntsAt W TA times) =>
    walked_any m g l pl ph from_ ha A n c ps HN.out (fun i hi => hN.ok i (by have := HN.out; omega)) (fun i hi => hO i (by have := HN.out; omega)) RA rn rc r HRN.out hro WA wn wc waits HWN.out (by omega) hwb TA tn tc times htn htm htb start ((minuteB_iff.1 k5).1) ((minuteB_iff.1 k5).2) W (HP.out.ext hE) (HR.out.ext hE) (HW.out.ext hE) hT)
  have HLB := hid (fun k (hk : k < r.length) => (show 0 ≤ (lowsOf l pl ps r).getD k 0 ∧ (lowsOf l pl ps r).getD k 0 ≤ 10000 by
    rw [lowsOf_at _ _ _ _ _ hk]
    have h1 := hro.lo k hk
    have h2 := hro.hi k hk
    have hok := hN.ok (r.getD k 0).toNat (by omega)
    have := timeOf_bd (t := (ps.getD (r.getD k 0).toNat zeroPt).tl) (p := pl) (s := (ps.getD (r.getD k 0).toNat zeroPt).sl) (l := l) hok.t1 (by have := hok.t2; have := hok.t3; omega) ha.p1 (by have := ha.p2; have := ha.p3; omega) hok.s1 (by have := hok.s2; have := hok.s3; omega) ha.l1 ha.l2
    omega))
  clear HB hO hro hN ha
  go_wp2
  go_loopw [9] (fun i wr => Ext w wr ∧ Hid (wr.heap[w.heap.size]? = some (.cells #[.int .i64 m, .slice A n c] 24 (0, 0))) ∧ Hid (wr.heap[w.heap.size + 1]? = some (.cells #[.int .i64 g, .int .i64 l, .int .i64 pl, .int .i64 ph] 28 (0, 0))) ∧
    Hid (wr.heap[w.heap.size + 1 + 1]? = some (.cells #[.int .i64 from_, .int .i64 to_, .int .i64 start, .int .i64 D, .slice RA rn rc, .int .i64 v5] 31 (0, 0))) ∧
    ∃ j : Nat, j ≤ wn ∧ i = .int .i64 j ∧ Hid (∀ x, x < j → 0 ≤ waits.getD x 0 ∧ waits.getD x 0 ≤ 2880)) (fun i _ => wn - (intOf i).toNat)
  case atStart => exact ⟨E2, D0, D1, D2, 0, Nat.zero_le _, rfl, hid (fun x hx => by omega)⟩
  case round =>
    clear D0 D1 D2 E2 E1 hC hF hX hK
    obtain ⟨hE, HB0, HB1, HB2, j, hj, rfl, HWJ⟩ := hrel
    by_cases hlt : j < wn
    · obtain ⟨wb, woff, rfl, hwb, q1⟩ := (HW.out.ext hE).at_ HWN.out hlt
      obtain ⟨x, hx⟩ : ∃ x, waits.getD j 0 = x := ⟨_, rfl⟩
      rw [hx] at q1
      have HX := hid hx
      have hk0 : (0 : Int) ≤ (j : Int) := by omega
      have hk1 : (j : Int) < (wn : Int) := by omega
      clear hx
      have E7 := hE
      by_cases hx0 : x < 0
      · go_wp2_with fail
        refine (works_any _).mono ?_
        rintro e w9 ⟨rfl, hE9⟩
        have EZ : Ext w w9 := by (repeat' (first | with_reducible assumption | with_reducible exact Ext.refl _ | with_reducible refine Ext.alloc ?_ _ | with_reducible refine Ext.set ?_ ?_ _ | with_reducible refine Ext.drew ?_ | with_reducible refine Ext.drewN ?_ _ | with_reducible refine Ext.trans ?_ (by assumption) | (dsimp only; omega)))
        go_wp2
        go_ret
        exact ⟨rfl, EZ⟩
      · by_cases hx1 : 2880 < x
        · go_wp2_with fail
          refine (works_any _).mono ?_
          rintro e w9 ⟨rfl, hE9⟩
          have EZ : Ext w w9 := by (repeat' (first | with_reducible assumption | with_reducible exact Ext.refl _ | with_reducible refine Ext.alloc ?_ _ | with_reducible refine Ext.set ?_ ?_ _ | with_reducible refine Ext.drew ?_ | with_reducible refine Ext.drewN ?_ _ | with_reducible refine Ext.trans ?_ (by assumption) | (dsimp only; omega)))
          go_wp2
          go_ret
          exact ⟨rfl, EZ⟩
        · have HW2 := hid (show ∀ y, y < j + 1 → 0 ≤ waits.getD y 0 ∧ waits.getD y 0 ≤ 2880 from fun y hy => by
            by_cases hyj : y < j
            · exact HWJ.out y hyj
            · obtain rfl : y = j := by omega
              rw [HX.out]
              omega)
          go_wp2
          go_roundw
          case rel => exact ⟨hE, HB0, HB1, HB2, j + 1, by omega, by go_num, HW2⟩
          case measure => (simp [intOf] <;> omega)
    obtain rfl : j = wn := by omega
    have HWK2 := hid (HWK.out (fun k hk => HWJ.out k (by have := HWN.out; omega)))
    have HLF := hid (low_facts HFIT.out HROK.out (waits := waits) (fun k hk => (HWJ.out k (by have := HWN.out; omega)).1))
    clear HWK HWJ
    obtain ⟨wo, rfl⟩ : ∃ wo, wo = wr := ⟨_, rfl⟩
    have HST := hid (show stopAt ps from_ r 0 = from_ from rfl)
    have HSS := hid (fun k => (show stopAt ps from_ r (k + 1) = (ps.getD (r.getD k 0).toNat zeroPt).dst from rfl))
    have HLS := hid (fun k (hk : k < r.length) => take_snoc (lowsOf l pl ps r) k (by rw [lowsOf_len]; exact hk))
    have HLA := hid (fun k (hk : k < r.length) => lowsOf_at l pl ps r k hk)
    have HLL := hid (lowsOf_len l pl ps r)
    rw [HRN.out] at HLF
    obtain ⟨st, hst⟩ : ∃ st, stopAt ps from_ r = st := ⟨_, rfl⟩
    obtain ⟨lw, hlw⟩ : ∃ lw, lowsOf l pl ps r = lw := ⟨_, rfl⟩
    rw [hst] at HST HSS HLF
    rw [hlw] at HLS HLA HLL HLB HLF
    clear hst hlw
    rw [HRN.out] at HLL
    have a0 := blk_cell HB0.out 0
    have a1 := blk_cell HB0.out 1
    have b0 := blk_cell HB1.out 0
    have b1 := blk_cell HB1.out 1
    have b2 := blk_cell HB1.out 2
    have b3 := blk_cell HB1.out 3
    have x0 := blk_cell HB2.out 0
    have x1 := blk_cell HB2.out 1
    have x2 := blk_cell HB2.out 2
    have x3 := blk_cell HB2.out 3
    have x4 := blk_cell HB2.out 4
    simp only [List.getElem?_toArray, List.getElem?_cons_zero, List.getElem?_cons_succ] at a0 a1 b0 b1 b2 b3 x0 x1 x2 x3 x4
    have z0 := (Array.getElem?_eq_some_iff.1 HB0.out).1
    have z1 := (Array.getElem?_eq_some_iff.1 HB1.out).1
    have z2 := (Array.getElem?_eq_some_iff.1 HB2.out).1
    go_wp2
    go_loopw [10, 11, 12] (fun ev lv i wr => Ext w wr ∧ Hid (wr.heap[w.heap.size]? = some (.cells #[.int .i64 m, .slice A n c] 24 (0, 0))) ∧ Hid (wr.heap[w.heap.size + 1]? = some (.cells #[.int .i64 g, .int .i64 l, .int .i64 pl, .int .i64 ph] 28 (0, 0))) ∧
      Hid (wr.heap[w.heap.size + 1 + 1]? = some (.cells #[.int .i64 from_, .int .i64 to_, .int .i64 start, .int .i64 D, .slice RA rn rc, .int .i64 v5] 31 (0, 0))) ∧
      ∃ k : Nat, k ≤ rn ∧ i = .int .i64 k ∧ ev = .int .i64 (st k) ∧ Hid (OwnAt wr (w.heap.size + 3) lv (lw.take k))) (fun _ _ i _ => rn - (intOf i).toNat)
    case atStart => exact ⟨hE, HB0, HB1, HB2, 0, Nat.zero_le _, rfl, by rw [HST.out], hid (OwnAt.nil _ _)⟩
    case round =>
      clear HB0 HB1 HB2 hE HST a0 a1 b0 b1 b2 b3 x0 x1 x2 x3 x4 z0 z1 z2
      obtain ⟨hE, HB0, HB1, HB2, k, hk, rfl, rfl, HOWN⟩ := hrel
      by_cases hlt : k < rn
      · obtain ⟨rb, roff, rfl, hrb, q1w⟩ := HR.out.at_ HRN.out hlt
        have q1 := (hE.cell (p := ⟨rb, roff + k, none⟩) hrb).trans q1w
        clear q1w
        have hlo := HROK.out.lo k (by have := HRN.out; omega)
        have hhi := HROK.out.hi k (by have := HRN.out; omega)
        have HSJ := hid (HSS.out k)
        have HLJ := hid (HLS.out k (by have := HRN.out; omega))
        have HTJ := hid (HLA.out k (by have := HRN.out; omega))
        obtain ⟨i, hi⟩ : ∃ i : Nat, r.getD k 0 = i := ⟨(r.getD k 0).toNat, by omega⟩
        rw [hi] at q1 hlo hhi HSJ HTJ
        rw [Int.toNat_natCast] at HSJ HTJ
        have hin : i < n := by have := HN.out; omega
        have HSPN := hid (HSP.out i hin)
        obtain ⟨b, off, A', c', rfl, hb, hptw⟩ := HP.out.at_ HN.out hin
        have hpt := hptw.ext hb hE
        clear hptw
        have hi1 : (i : Int) < (n : Int) := by omega
        have hi0 : (0 : Int) ≤ (i : Int) := by omega
        clear hi hhi hlo
        have hk0 : (0 : Int) ≤ (k : Int) := by omega
        have hk1 : (k : Int) < (rn : Int) := by omega
        obtain ⟨p, hpq⟩ : ∃ p, ps.getD i zeroPt = p := ⟨_, rfl⟩
        rw [hpq] at hpt HSJ HTJ HSPN
        clear hpq
        obtain ⟨d0, d1, d2, d3, d4, d5, d6, d7, hcap, hop⟩ := hpt
        clear d2 d3 d4 d5 d6 d7 hcap hop
        obtain ⟨d, hd⟩ : ∃ d, p.dst = d := ⟨_, rfl⟩
        rw [hd] at d1 HSJ
        clear hd
        obtain ⟨T1, hT1⟩ : ∃ T, timeOf p.tl pl p.sl l = T := ⟨_, rfl⟩
        obtain ⟨T2, hT2⟩ : ∃ T, timeOf p.th ph p.sh l = T := ⟨_, rfl⟩
        rw [hT1] at HTJ HSPN
        rw [hT2] at HSPN
        clear hT1 hT2
        have hfd := field_lo T1 T2
        have hrb3 : rb < w.heap.size + 3 := by omega
        have hb3 : b < w.heap.size + 3 := by omega
        obtain ⟨lv, rfl⟩ : ∃ lv, lv = u11 := ⟨_, rfl⟩
        have a0 := blk_cell HB0.out 0
        have a1 := blk_cell HB0.out 1
        have b0 := blk_cell HB1.out 0
        have b1 := blk_cell HB1.out 1
        have b2 := blk_cell HB1.out 2
        have b3 := blk_cell HB1.out 3
        have x0 := blk_cell HB2.out 0
        have x1 := blk_cell HB2.out 1
        have x2 := blk_cell HB2.out 2
        have x3 := blk_cell HB2.out 3
        have x4 := blk_cell HB2.out 4
        simp only [List.getElem?_toArray, List.getElem?_cons_zero, List.getElem?_cons_succ] at a0 a1 b0 b1 b2 b3 x0 x1 x2 x3 x4
        have z0 := (Array.getElem?_eq_some_iff.1 HB0.out).1
        have z1 := (Array.getElem?_eq_some_iff.1 HB1.out).1
        have z2 := (Array.getElem?_eq_some_iff.1 HB2.out).1
        go_wp2_with fail
        go_quiet (fail)
        go_wp2_with fail
        refine wp_region_held_drew (S := fun w' => (∀ b o, b < w.heap.size + 3 → w'.cell? ⟨b, o, none⟩ = wr.cell? ⟨b, o, none⟩) ∧ wr.heap.size ≤ w'.heap.size ∧ Ext w w') (by kernel_rfl) ?hS0 (fun hHeld => ?_)
        case hS0 => exact ⟨fun _ _ _ => rfl, Nat.le_refl _, Ext.drew (Ext.drewN hE _)⟩
        refine wpAnyH_take (i := 0) (oi := _) (v := ?v0a) rfl (by kernel_rfl) (by kernel_rfl) (by kernel_rfl) (fun _ _ _ h => h) (Or.inl ⟨by rfl, ?y0a⟩) (by assumption) ?r0a
        case y0a => (intro w' hSw; (try dsimp only at hSw); go_simp; (try with_reducible rfl))
        try simp only [Act.put, List.getElem_toArray, List.getElem_cons_zero, List.getElem_cons_succ, List.setIfInBounds_toArray, List.set_cons_zero, List.set_cons_succ]
        refine wpAnyH_take (i := 1) (oi := _) (v := ?v1a) rfl (by kernel_rfl) (by kernel_rfl) (by kernel_rfl) (fun _ _ _ h => h) (Or.inl ⟨by rfl, ?y1a⟩) (by assumption) ?r1a
        case y1a => (intro w' hSw; (try dsimp only at hSw); go_simp; (try with_reducible rfl))
        try simp only [Act.put, List.getElem_toArray, List.getElem_cons_zero, List.getElem_cons_succ, List.setIfInBounds_toArray, List.set_cons_zero, List.set_cons_succ]
        refine wpAnyH_take (i := 2) (oi := _) (v := ?v2a) rfl (by kernel_rfl) (by kernel_rfl) (by kernel_rfl) (fun _ _ _ h => h) (Or.inl ⟨by rfl, ?y2a⟩) (by assumption) ?r2a
        case y2a => (intro w' hSw; (try dsimp only at hSw); go_simp; (try with_reducible rfl))
        try simp only [Act.put, List.getElem_toArray, List.getElem_cons_zero, List.getElem_cons_succ, List.setIfInBounds_toArray, List.set_cons_zero, List.set_cons_succ]
        refine wpAnyH_take (i := 3) (oi := _) (v := ?v3a) rfl (by kernel_rfl) (by kernel_rfl) (by kernel_rfl) (fun _ _ _ h => h) (Or.inl ⟨by rfl, ?y3a⟩) (by assumption) ?r3a
        case y3a => (intro w' hSw; (try dsimp only at hSw); go_simp; (try with_reducible rfl))
        try simp only [Act.put, List.getElem_toArray, List.getElem_cons_zero, List.getElem_cons_succ, List.setIfInBounds_toArray, List.set_cons_zero, List.set_cons_succ]
        refine wpAnyH_take (i := 4) (oi := _) (v := ?v4a) rfl (by kernel_rfl) (by kernel_rfl) (by kernel_rfl) (fun _ _ _ h => h) (Or.inl ⟨by rfl, ?y4a⟩) (by assumption) ?r4a
        case y4a => (intro w' hSw; (try dsimp only at hSw); go_simp; (try with_reducible rfl))
        try simp only [Act.put, List.getElem_toArray, List.getElem_cons_zero, List.getElem_cons_succ, List.setIfInBounds_toArray, List.set_cons_zero, List.set_cons_succ]
        refine wpAnyH_take (i := 5) (oi := _) (v := ?v5a) rfl (by kernel_rfl) (by kernel_rfl) (by kernel_rfl) (fun _ _ _ h => h) (Or.inl ⟨by rfl, ?y5a⟩) (by assumption) ?r5a
        case y5a => (intro w' hSw; (try dsimp only at hSw); go_simp; (try with_reducible rfl))
        try simp only [Act.put, List.getElem_toArray, List.getElem_cons_zero, List.getElem_cons_succ, List.setIfInBounds_toArray, List.set_cons_zero, List.set_cons_succ]
        refine wpAnyH_take (i := 6) (oi := _) (v := ?v6a) rfl (by kernel_rfl) (by kernel_rfl) (by kernel_rfl) (fun _ _ _ h => h) (Or.inl ⟨by rfl, ?y6a⟩) (by assumption) ?r6a
        case y6a => (intro w' hSw; (try dsimp only at hSw); go_simp; (try with_reducible rfl))
        try simp only [Act.put, List.getElem_toArray, List.getElem_cons_zero, List.getElem_cons_succ, List.setIfInBounds_toArray, List.set_cons_zero, List.set_cons_succ]
        refine wpAnyH_take (i := 7) (oi := _) (v := ?v7a) rfl (by kernel_rfl) (by kernel_rfl) (by kernel_rfl) (fun _ _ _ h => h) (Or.inl ⟨by rfl, ?y7a⟩) (by assumption) ?r7a
        case y7a => (intro w' hSw; (try dsimp only at hSw); go_simp; (try with_reducible rfl))
        try simp only [Act.put, List.getElem_toArray, List.getElem_cons_zero, List.getElem_cons_succ, List.setIfInBounds_toArray, List.set_cons_zero, List.set_cons_succ]
        refine wpAnyH_ready (rs := [8]) (by kernel_rfl) (by simp) ?_
        refine AllReadyH.cons (o := _) rfl (fun K hK => ?_) AllReadyH.nil
        go_simp
        refine (HSPN.out _ (Ext.drew (Ext.drewN hE _))).mono ?_
        rintro e w4 ⟨rfl, hE4⟩
        dsimp only
        have hx : Ext wr w4 := (Ext.drew (Ext.drewN (Ext.refl wr) _)).trans hE4
        have hC4 : ∀ b o, b < w.heap.size + 3 → w4.cell? ⟨b, o, none⟩ = wr.cell? ⟨b, o, none⟩ := kcell (w1 := wr) (W := wr) (fun _ _ _ => rfl) (by omega) hx
        clear hHeld hE4
        refine hK.out _ _ ⟨hC4, hx.size, hE.trans hx⟩ (fun hHeld => ?_)
        clear hK K
        try simp only [Act.put, List.getElem_toArray, List.getElem_cons_zero, List.getElem_cons_succ, List.setIfInBounds_toArray, List.set_cons_zero, List.set_cons_succ]
        refine wpAnyH_take (i := 9) (oi := _) (v := ?v9a) rfl (by kernel_rfl) (by kernel_rfl) (by kernel_rfl) (fun _ _ _ h => h) (Or.inl ⟨by rfl, ?y9a⟩) (by assumption) ?r9a
        case y9a => (intro w' hSw; (try dsimp only at hSw); go_simp; (try with_reducible rfl))
        try simp only [Act.put, List.getElem_toArray, List.getElem_cons_zero, List.getElem_cons_succ, List.setIfInBounds_toArray, List.set_cons_zero, List.set_cons_succ]
        clear hHeld
        refine wpAnyH_ready (rs := [10]) (by kernel_rfl) (by simp) ?_
        refine AllReadyH.cons (o := _) rfl (fun K hK => ?_) AllReadyH.nil
        go_simp
        have hx5 : Ext wr (w4.alloc (.cells #[.int .i64 T1] 3)) := hx.alloc _
        have hC5 : ∀ b o, b < w.heap.size + 3 → (w4.alloc (.cells #[.int .i64 T1] 3)).cell? ⟨b, o, none⟩ = wr.cell? ⟨b, o, none⟩ := kcell (w1 := wr) (W := wr) (fun _ _ _ => rfl) (by omega) hx5
        have hnew : (w4.alloc (.cells #[.int .i64 T1] 3)).cell? ⟨w4.heap.size, 0, none⟩ = some (.int .i64 T1) := blk_cell (heap_alloc_new w4 (.cells #[.int .i64 T1] 3)) 0
        refine hK.out _ _ ⟨hC5, hx5.size, hE.trans hx5⟩ (fun hHeld => ?_)
        clear hHeld
        clear hK K
        try simp only [Act.put, List.getElem_toArray, List.getElem_cons_zero, List.getElem_cons_succ, List.setIfInBounds_toArray, List.set_cons_zero, List.set_cons_succ]
        refine wpAnyH_ready (rs := [11]) (by kernel_rfl) (by simp) ?_
        refine AllReadyH.cons (o := _) rfl (fun K hK => ?_) AllReadyH.nil
        refine wp_append_ints _ rfl _ _ rfl (w.heap.size + 3) lv (lw.take k) (by rfl) (HOWN.out.ext hx5) ⟨w4.heap.size, 0, none⟩ T1 (by rfl) hnew (by rw [List.length_take]; omega) (by have := hx5.size; omega) (fun v' w5 hown5 hg5 => ?_)
        have hgr := (HOWN.out).block
        have hC6 := grown_cell hC5 (by have := hx5.size; omega) hg5 hgr
        have hE6 : Ext w w5 := ext_of_grown (hE.trans hx5) hg5 (fun q hq => by have := hgr q hq; omega)
        have hz6 : wr.heap.size ≤ w5.heap.size := Nat.le_trans hx5.size hg5.size
        refine hK.out _ _ ⟨hC6, hz6, hE6⟩ (fun hHeld => ?_)
        clear hK K
        try simp only [Act.put, List.getElem_toArray, List.getElem_cons_zero, List.getElem_cons_succ, List.setIfInBounds_toArray, List.set_cons_zero, List.set_cons_succ]
        refine wpAnyH_take (i := 12) (oi := _) (v := ?v12a) rfl (by kernel_rfl) (by kernel_rfl) (by kernel_rfl) (fun _ _ _ h => h) (Or.inl ⟨by rfl, ?y12a⟩) (by assumption) ?r12a
        case y12a => (intro w' hSw; (try dsimp only at hSw); go_simp; (try with_reducible rfl))
        try simp only [Act.put, List.getElem_toArray, List.getElem_cons_zero, List.getElem_cons_succ, List.setIfInBounds_toArray, List.set_cons_zero, List.set_cons_succ]
        clear hHeld
        refine wpAnyH_done (by kernel_rfl) ?_ _
        have G0 := hid (grown_blk (B := w.heap.size + 3) (by omega) (blk_ext HB0.out hx5) hg5 hgr)
        have G1 := hid (grown_blk (B := w.heap.size + 3) (by omega) (blk_ext HB1.out hx5) hg5 hgr)
        have G2 := hid (grown_blk (B := w.heap.size + 3) (by omega) (blk_ext HB2.out hx5) hg5 hgr)
        have HO5 := hid hown5
        clear hown5 hg5 hgr hnew hx5 hC5 hx
        go_wp2
        go_roundw
        case rel => exact ⟨hE6, G0, G1, G2, k + 1, by omega, by go_num, by rw [HSJ.out], hid (by rw [HLJ.out, HTJ.out]; exact HO5.out)⟩
        case measure => (simp [intOf] <;> omega)
      obtain rfl : k = rn := by omega
      rw [List.take_of_length_le (by have := HLL.out; omega)] at HOWN
      obtain ⟨TA, tc, hlv, hlw⟩ := HOWN.out.form
      rw [HLL.out] at hlv
      subst hlv
      have HLW := hid hlw
      clear HOWN hlw HSS HLS HLA HSP
      obtain ⟨mm, rfl⟩ : ∃ k : Nat, m = k := ⟨m.toNat, by omega⟩
      obtain ⟨⟨he0, he1⟩, hSb, hTb, hSs, hTs⟩ := HLF.out
      obtain ⟨ee, hee⟩ : ∃ ee : Nat, st k = ee := ⟨(st k).toNat, by omega⟩
      rw [hee] at he0 he1 hSb hTb hSs hTs ⊢
      have hem : ee < mm := by omega
      have K5 := minuteB_iff.1 k5
      have K3 := placeB_iff.1 k3
      obtain ⟨hxl, hxt⟩ := arr_facts (from_ := from_) (s := start) k1 k2 hem K5.1 K5.2
      obtain ⟨hyl, hyt⟩ := arr_facts2 (from_ := from_) (s := start) k1 k2 hem K5.1 K5.2
      have HARR := hid (HA.out from_ start (begin_of k1 k2 (by simp [k3]) (by simp [k5])))
      have HRT := hid (HRO.out from_ start (ee : Int) (begin_of k1 k2 (by simp only [List.mem_cons, List.not_mem_nil, or_false]; rintro x (rfl | rfl); exact k3; exact placeB_iff.2 ⟨he0, he1⟩) (by simp [k5])))
      have hXX : (rows selHi g l pl ph ps (mm : Int).toNat from_.toNat start ((mm : Int).toNat - 1)).getD (ee : Int).toNat 0 = sureAt g l pl ph ps (mm : Int) from_ (ee : Int) start := rfl
      rw [hXX] at HRT
      have HW1 := hid (fun (W : World) (hE : Ext w W) => HWK2.out none 0 0 [] rfl (by omega) (fun k hk => absurd hk (by simp)) W hE (fun h => absurd rfl h))
      have HW2 := hid (fun (W : World) (hE : Ext w W) (hT : IntsAt W TA lw) => HWK2.out TA k tc lw HLL.out (by omega) (fun i hi => HLB.out i (by have := HLL.out; have := HRN.out; omega)) W hE hT)
      clear HA HRO HWK2 HLB HLF hXX k1 k2 k3 k4 k5 k6 HP HR HW
      obtain ⟨S, hS⟩ : ∃ S, sureAt g l pl ph ps (mm : Int) from_ (ee : Int) start = S := ⟨_, rfl⟩
      rw [hS] at hSb hSs hxt HRT
      obtain ⟨T, hT⟩ : ∃ T, bestAt g l pl ph ps (mm : Int) from_ (ee : Int) start = T := ⟨_, rfl⟩
      rw [hT] at hTb hTs hyt
      have hlk : (if k = 0 then [] else lw) = lw := by
        split
        · exact (List.length_eq_zero_iff.1 (by have := HLL.out; omega)).symm
        · rfl
      obtain ⟨VF, hVF⟩ : ∃ VF : Nat → Int, VF = fun tn => wkEnd (wk l pl ph ps start r waits (if tn = 0 then [] else lw) k) := ⟨_, rfl⟩
      have hV0 : VF 0 = wkEnd (wk l pl ph ps start r waits [] k) := by rw [hVF]; rfl
      have hVk : VF k = wkEnd (wk l pl ph ps start r waits lw k) := by rw [hVF]; show wkEnd (wk l pl ph ps start r waits (if k = 0 then [] else lw) k) = _; rw [hlk]
      rw [← hV0] at hSs HW1
      rw [← hVk] at hTs HW2
      clear hS hT hVF hV0 hVk hlk
      obtain ⟨xs, hxs⟩ : ∃ xs, arrList selHi g l pl ph ps (mm : Int) from_ start = xs := ⟨_, rfl⟩
      obtain ⟨ys, hys⟩ : ∃ ys, arrList selLo g l pl ph ps (mm : Int) from_ start = ys := ⟨_, rfl⟩
      rw [hxs] at HARR hxl hxt
      rw [hys] at HARR hyl hyt
      obtain ⟨ro, hro⟩ : ∃ ro, (routeOf g l pl ph ps (mm : Int).toNat from_.toNat (ee : Int).toNat start S).map Int.ofNat = ro := ⟨_, rfl⟩
      rw [hro] at HRT
      obtain ⟨Y, hY⟩ : ∃ Y, orN S = Y := ⟨_, rfl⟩
      rw [hY] at hxt
      obtain ⟨Z, hZ⟩ : ∃ Z, orN T = Z := ⟨_, rfl⟩
      rw [hZ] at hyt
      clear hxs hys hro
      have HXL := hid hxl
      have HXT := hid hxt
      have HYL := hid hyl
      have HYT := hid hyt
      unfold orN at hY hZ
      clear hxl hxt hyl hyt
      have a0 := blk_cell HB0.out 0
      have a1 := blk_cell HB0.out 1
      have b0 := blk_cell HB1.out 0
      have b1 := blk_cell HB1.out 1
      have b2 := blk_cell HB1.out 2
      have b3 := blk_cell HB1.out 3
      have x0 := blk_cell HB2.out 0
      have x1 := blk_cell HB2.out 1
      have x2 := blk_cell HB2.out 2
      have x3 := blk_cell HB2.out 3
      have x4 := blk_cell HB2.out 4
      simp only [List.getElem?_toArray, List.getElem?_cons_zero, List.getElem?_cons_succ] at a0 a1 b0 b1 b2 b3 x0 x1 x2 x3 x4
      have z0 := (Array.getElem?_eq_some_iff.1 HB0.out).1
      have z1 := (Array.getElem?_eq_some_iff.1 HB1.out).1
      have z2 := (Array.getElem?_eq_some_iff.1 HB2.out).1
      go_wp2_with fail
      refine (HARR.out _ hE).mono ?_
      rintro e w6 ⟨g1, cc1, g2, cc2, rfl, row1, row2, hg1, hg2, hE6⟩
      have E6 := hE.trans hE6
      have H0 := hid (blk_ext HB0.out hE6)
      have H1 := hid (blk_ext HB1.out hE6)
      have H2 := hid (blk_ext HB2.out hE6)
      have hcell1 := row1.cell (k := ee) (by have := HXL.out; omega)
      rw [HXT.out] at hcell1
      have hcell2 := row2.cell (k := ee) (by have := HYL.out; omega)
      rw [HYT.out] at hcell2
      have sg1 : g1 < w6.heap.size := row1.lt
      have sg2 : g2 < w6.heap.size := row2.lt
      rw [HXL.out, HYL.out]
      have HWG := hid (fun (TAx : Option Addr) (tnx tcx : Nat) (W : World) (hE : Ext w6 W) (h : tnx = 0 ∧ tcx = 0 ∧ TAx = none ∨ (TAx = TA ∧ tnx = k ∧ tcx = tc)) => (show Calls Try.prog 34 #[.agg #[.int .i64 (mm : Int), .slice A n c], .agg #[.int .i64 g, .int .i64 l, .int .i64 pl, .int .i64 ph], .slice RA k rc, .int .i64 start, .slice WA j wc, .slice TAx tnx tcx] W fun e w' => e = .returned (.int .i64 (VF tnx)) ∧ Ext W w' from by
        rcases h with ⟨rfl, rfl, rfl⟩ | ⟨rfl, rfl, rfl⟩
        · exact HW1.out W (E6.trans hE)
        · exact HW2.out W (E6.trans hE) (HLW.out.ext (hE6.trans hE))))
      clear HW1 HW2
      clear row1 row2 hE6 HARR HB0 HB1 HB2 a0 a1 b0 b1 b2 b3 x0 x1 x2 x3 x4 z0 z1 z2 HLW
      have a0 := blk_cell H0.out 0
      have a1 := blk_cell H0.out 1
      have b0 := blk_cell H1.out 0
      have b1 := blk_cell H1.out 1
      have b2 := blk_cell H1.out 2
      have b3 := blk_cell H1.out 3
      have x0 := blk_cell H2.out 0
      have x1 := blk_cell H2.out 1
      have x2 := blk_cell H2.out 2
      have x3 := blk_cell H2.out 3
      have x4 := blk_cell H2.out 4
      simp only [List.getElem?_toArray, List.getElem?_cons_zero, List.getElem?_cons_succ] at a0 a1 b0 b1 b2 b3 x0 x1 x2 x3 x4
      have z0 := (Array.getElem?_eq_some_iff.1 H0.out).1
      have z1 := (Array.getElem?_eq_some_iff.1 H1.out).1
      have z2 := (Array.getElem?_eq_some_iff.1 H2.out).1
      by_cases hs1 : VF 0 ≤ 2880
      · have hSl := hSs hs1
        have hY0 : 0 ≤ Y ∧ Y ≤ VF 0 := by split at hY <;> omega
        obtain ⟨hY0, hY1⟩ := hY0
        have hd1 : decide (VF 0 ≤ 2880) = true := decide_eq_true hs1
        have hd2 : decide (Y < 0) = false := decide_eq_false (by omega)
        have hd3 : decide (VF 0 < Y) = false := decide_eq_false (by omega)
        have hd4 : decide (2880 < VF 0) = false := decide_eq_false (by omega)
        by_cases hs2 : VF k ≤ 2880
        · have hTl := hTs hs2
          have hZ0 : 0 ≤ Z ∧ Z ≤ VF k := by split at hZ <;> omega
          obtain ⟨hZ0, hZ1⟩ := hZ0
          have hd5 : decide (VF k ≤ 2880) = true := decide_eq_true hs2
          have hd6 : decide (Z < 0) = false := decide_eq_false (by omega)
          have hd7 : decide (VF k < Z) = false := decide_eq_false (by omega)
          go_wp2_with fail
          have hxx := Ext.refl w6
          have hzz := Nat.le_refl w6.heap.size
          go_region_held3 (fun w' => (∀ b o, b < w6.heap.size → w'.cell? ⟨b, o, none⟩ = w6.cell? ⟨b, o, none⟩) ∧ w6.heap.size ≤ w'.heap.size ∧ Ext w6 w')
            (((try dsimp only); go_split_ands; (repeat' apply And.intro) <;> first | assumption | exact kcell (by assumption) (by omega) (by assumption) | exact kcell_refl _ _ | exact kcell_set (kcell_set (by assumption) (by dsimp only; omega) _) (by dsimp only; omega) _ | exact kcell_set (by assumption) (by dsimp only; omega) _ | exact held_ext (by assumption) (by dsimp only; omega) (by assumption) | exact hfrozen_ext (by assumption) (by dsimp only; omega) (by assumption) | exact Ext.sizeLe (by assumption) (by assumption) | exact Ext.trans (by assumption) (by assumption) | exact Ext.drew (by assumption) | exact held_set _ _ _ _ (held_set _ _ _ _ (by assumption)) | exact held_set _ _ _ _ (by assumption) | exact hfrozen_set _ _ (hfrozen_set _ _ (by assumption)) | exact hfrozen_set _ _ (by assumption) | exact hsize_set _ _ (hsize_set _ _ (by assumption)) | exact hsize_set _ _ (by assumption) | exact Ext.set (Ext.set (by assumption) (by dsimp only; omega) _) (by dsimp only; omega) _ | exact Ext.set (by assumption) (by dsimp only; omega) _))
            (first
              | (go_at_call 34; refine (HWG.out _ _ _ _ ‹_ ∧ _ ∧ Ext _ _›.2.2 (by first | exact Or.inl ⟨rfl, rfl, rfl⟩ | exact Or.inr ⟨rfl, rfl, rfl⟩)).mono ?_; rintro e w7 ⟨rfl, hE2⟩))
          rename_i hH
          try dsimp only at hH
          obtain ⟨hC8, hz8, hx8⟩ := hH
          have E7 := E6.trans hx8
          go_wp2_with fail
          refine (HRT.out _ E7).mono ?_
          rintro e w8 hRI
          rcases hRI with ⟨hX9, rfl, hE8⟩ | ⟨hX9, g3, cap3, rfl, row3, hg3, hE8⟩
          · exact absurd hX9 (by omega)
          · have E8 : Ext w w8 := E7.trans hE8
            clear row3 hg3 hX9
            go_wp2_with fail
            refine (works_any _).mono ?_
            rintro e w9 ⟨rfl, hE9⟩
            have EZ : Ext w w9 := by (repeat' (first | with_reducible assumption | with_reducible exact Ext.refl _ | with_reducible refine Ext.alloc ?_ _ | with_reducible refine Ext.set ?_ ?_ _ | with_reducible refine Ext.drew ?_ | with_reducible refine Ext.drewN ?_ _ | with_reducible refine Ext.trans ?_ (by assumption) | (dsimp only; omega)))
            go_wp2
            go_ret
            exact ⟨rfl, EZ⟩
        · have hd5 : decide (VF k ≤ 2880) = false := decide_eq_false hs2
          go_wp2_with fail
          have hxx := Ext.refl w6
          have hzz := Nat.le_refl w6.heap.size
          go_region_held3 (fun w' => (∀ b o, b < w6.heap.size → w'.cell? ⟨b, o, none⟩ = w6.cell? ⟨b, o, none⟩) ∧ w6.heap.size ≤ w'.heap.size ∧ Ext w6 w')
            (((try dsimp only); go_split_ands; (repeat' apply And.intro) <;> first | assumption | exact kcell (by assumption) (by omega) (by assumption) | exact kcell_refl _ _ | exact kcell_set (kcell_set (by assumption) (by dsimp only; omega) _) (by dsimp only; omega) _ | exact kcell_set (by assumption) (by dsimp only; omega) _ | exact held_ext (by assumption) (by dsimp only; omega) (by assumption) | exact hfrozen_ext (by assumption) (by dsimp only; omega) (by assumption) | exact Ext.sizeLe (by assumption) (by assumption) | exact Ext.trans (by assumption) (by assumption) | exact Ext.drew (by assumption) | exact held_set _ _ _ _ (held_set _ _ _ _ (by assumption)) | exact held_set _ _ _ _ (by assumption) | exact hfrozen_set _ _ (hfrozen_set _ _ (by assumption)) | exact hfrozen_set _ _ (by assumption) | exact hsize_set _ _ (hsize_set _ _ (by assumption)) | exact hsize_set _ _ (by assumption) | exact Ext.set (Ext.set (by assumption) (by dsimp only; omega) _) (by dsimp only; omega) _ | exact Ext.set (by assumption) (by dsimp only; omega) _))
            (first
              | (go_at_call 34; refine (HWG.out _ _ _ _ ‹_ ∧ _ ∧ Ext _ _›.2.2 (by first | exact Or.inl ⟨rfl, rfl, rfl⟩ | exact Or.inr ⟨rfl, rfl, rfl⟩)).mono ?_; rintro e w7 ⟨rfl, hE2⟩))
          rename_i hH
          try dsimp only at hH
          obtain ⟨hC8, hz8, hx8⟩ := hH
          have E7 := E6.trans hx8
          go_wp2_with fail
          refine (HRT.out _ E7).mono ?_
          rintro e w8 hRI
          rcases hRI with ⟨hX9, rfl, hE8⟩ | ⟨hX9, g3, cap3, rfl, row3, hg3, hE8⟩
          · exact absurd hX9 (by omega)
          · have E8 : Ext w w8 := E7.trans hE8
            clear row3 hg3 hX9
            go_wp2_with fail
            refine (works_any _).mono ?_
            rintro e w9 ⟨rfl, hE9⟩
            have EZ : Ext w w9 := by (repeat' (first | with_reducible assumption | with_reducible exact Ext.refl _ | with_reducible refine Ext.alloc ?_ _ | with_reducible refine Ext.set ?_ ?_ _ | with_reducible refine Ext.drew ?_ | with_reducible refine Ext.drewN ?_ _ | with_reducible refine Ext.trans ?_ (by assumption) | (dsimp only; omega)))
            go_wp2
            go_ret
            exact ⟨rfl, EZ⟩
      · have hd1 : decide (VF 0 ≤ 2880) = false := decide_eq_false hs1
        have hd4 : decide (2880 < VF 0) = true := decide_eq_true (by omega)
        by_cases hs2 : VF k ≤ 2880
        · have hTl := hTs hs2
          have hZ0 : 0 ≤ Z ∧ Z ≤ VF k := by split at hZ <;> omega
          obtain ⟨hZ0, hZ1⟩ := hZ0
          have hd5 : decide (VF k ≤ 2880) = true := decide_eq_true hs2
          have hd6 : decide (Z < 0) = false := decide_eq_false (by omega)
          have hd7 : decide (VF k < Z) = false := decide_eq_false (by omega)
          go_wp2_with fail
          have hxx := Ext.refl w6
          have hzz := Nat.le_refl w6.heap.size
          go_region_held3 (fun w' => (∀ b o, b < w6.heap.size → w'.cell? ⟨b, o, none⟩ = w6.cell? ⟨b, o, none⟩) ∧ w6.heap.size ≤ w'.heap.size ∧ Ext w6 w')
            (((try dsimp only); go_split_ands; (repeat' apply And.intro) <;> first | assumption | exact kcell (by assumption) (by omega) (by assumption) | exact kcell_refl _ _ | exact kcell_set (kcell_set (by assumption) (by dsimp only; omega) _) (by dsimp only; omega) _ | exact kcell_set (by assumption) (by dsimp only; omega) _ | exact held_ext (by assumption) (by dsimp only; omega) (by assumption) | exact hfrozen_ext (by assumption) (by dsimp only; omega) (by assumption) | exact Ext.sizeLe (by assumption) (by assumption) | exact Ext.trans (by assumption) (by assumption) | exact Ext.drew (by assumption) | exact held_set _ _ _ _ (held_set _ _ _ _ (by assumption)) | exact held_set _ _ _ _ (by assumption) | exact hfrozen_set _ _ (hfrozen_set _ _ (by assumption)) | exact hfrozen_set _ _ (by assumption) | exact hsize_set _ _ (hsize_set _ _ (by assumption)) | exact hsize_set _ _ (by assumption) | exact Ext.set (Ext.set (by assumption) (by dsimp only; omega) _) (by dsimp only; omega) _ | exact Ext.set (by assumption) (by dsimp only; omega) _))
            (first
              | (go_at_call 34; refine (HWG.out _ _ _ _ ‹_ ∧ _ ∧ Ext _ _›.2.2 (by first | exact Or.inl ⟨rfl, rfl, rfl⟩ | exact Or.inr ⟨rfl, rfl, rfl⟩)).mono ?_; rintro e w7 ⟨rfl, hE2⟩))
          rename_i hH
          try dsimp only at hH
          obtain ⟨hC8, hz8, hx8⟩ := hH
          have E7 := E6.trans hx8
          go_wp2_with fail
          refine (HRT.out _ E7).mono ?_
          rintro e w8 hRI
          rcases hRI with ⟨hX9, rfl, hE8⟩ | ⟨hX9, g3, cap3, rfl, row3, hg3, hE8⟩
          · have E8 : Ext w w8 := E7.trans hE8
            clear hX9
            go_wp2_with fail
            refine (works_any _).mono ?_
            rintro e w9 ⟨rfl, hE9⟩
            have EZ : Ext w w9 := by (repeat' (first | with_reducible assumption | with_reducible exact Ext.refl _ | with_reducible refine Ext.alloc ?_ _ | with_reducible refine Ext.set ?_ ?_ _ | with_reducible refine Ext.drew ?_ | with_reducible refine Ext.drewN ?_ _ | with_reducible refine Ext.trans ?_ (by assumption) | (dsimp only; omega)))
            go_wp2
            go_ret
            exact ⟨rfl, EZ⟩
          · have E8 : Ext w w8 := E7.trans hE8
            clear row3 hg3 hX9
            go_wp2_with fail
            refine (works_any _).mono ?_
            rintro e w9 ⟨rfl, hE9⟩
            have EZ : Ext w w9 := by (repeat' (first | with_reducible assumption | with_reducible exact Ext.refl _ | with_reducible refine Ext.alloc ?_ _ | with_reducible refine Ext.set ?_ ?_ _ | with_reducible refine Ext.drew ?_ | with_reducible refine Ext.drewN ?_ _ | with_reducible refine Ext.trans ?_ (by assumption) | (dsimp only; omega)))
            go_wp2
            go_ret
            exact ⟨rfl, EZ⟩
        · have hd5 : decide (VF k ≤ 2880) = false := decide_eq_false hs2
          go_wp2_with fail
          have hxx := Ext.refl w6
          have hzz := Nat.le_refl w6.heap.size
          go_region_held3 (fun w' => (∀ b o, b < w6.heap.size → w'.cell? ⟨b, o, none⟩ = w6.cell? ⟨b, o, none⟩) ∧ w6.heap.size ≤ w'.heap.size ∧ Ext w6 w')
            (((try dsimp only); go_split_ands; (repeat' apply And.intro) <;> first | assumption | exact kcell (by assumption) (by omega) (by assumption) | exact kcell_refl _ _ | exact kcell_set (kcell_set (by assumption) (by dsimp only; omega) _) (by dsimp only; omega) _ | exact kcell_set (by assumption) (by dsimp only; omega) _ | exact held_ext (by assumption) (by dsimp only; omega) (by assumption) | exact hfrozen_ext (by assumption) (by dsimp only; omega) (by assumption) | exact Ext.sizeLe (by assumption) (by assumption) | exact Ext.trans (by assumption) (by assumption) | exact Ext.drew (by assumption) | exact held_set _ _ _ _ (held_set _ _ _ _ (by assumption)) | exact held_set _ _ _ _ (by assumption) | exact hfrozen_set _ _ (hfrozen_set _ _ (by assumption)) | exact hfrozen_set _ _ (by assumption) | exact hsize_set _ _ (hsize_set _ _ (by assumption)) | exact hsize_set _ _ (by assumption) | exact Ext.set (Ext.set (by assumption) (by dsimp only; omega) _) (by dsimp only; omega) _ | exact Ext.set (by assumption) (by dsimp only; omega) _))
            (first
              | (go_at_call 34; refine (HWG.out _ _ _ _ ‹_ ∧ _ ∧ Ext _ _›.2.2 (by first | exact Or.inl ⟨rfl, rfl, rfl⟩ | exact Or.inr ⟨rfl, rfl, rfl⟩)).mono ?_; rintro e w7 ⟨rfl, hE2⟩))
          rename_i hH
          try dsimp only at hH
          obtain ⟨hC8, hz8, hx8⟩ := hH
          have E7 := E6.trans hx8
          go_wp2_with fail
          refine (HRT.out _ E7).mono ?_
          rintro e w8 hRI
          rcases hRI with ⟨hX9, rfl, hE8⟩ | ⟨hX9, g3, cap3, rfl, row3, hg3, hE8⟩
          · have E8 : Ext w w8 := E7.trans hE8
            clear hX9
            go_wp2_with fail
            refine (works_any _).mono ?_
            rintro e w9 ⟨rfl, hE9⟩
            have EZ : Ext w w9 := by (repeat' (first | with_reducible assumption | with_reducible exact Ext.refl _ | with_reducible refine Ext.alloc ?_ _ | with_reducible refine Ext.set ?_ ?_ _ | with_reducible refine Ext.drew ?_ | with_reducible refine Ext.drewN ?_ _ | with_reducible refine Ext.trans ?_ (by assumption) | (dsimp only; omega)))
            go_wp2
            go_ret
            exact ⟨rfl, EZ⟩
          · have E8 : Ext w w8 := E7.trans hE8
            clear row3 hg3 hX9
            go_wp2_with fail
            refine (works_any _).mono ?_
            rintro e w9 ⟨rfl, hE9⟩
            have EZ : Ext w w9 := by (repeat' (first | with_reducible assumption | with_reducible exact Ext.refl _ | with_reducible refine Ext.alloc ?_ _ | with_reducible refine Ext.set ?_ ?_ _ | with_reducible refine Ext.drew ?_ | with_reducible refine Ext.drewN ?_ _ | with_reducible refine Ext.trans ?_ (by assumption) | (dsimp only; omega)))
            go_wp2
            go_ret
            exact ⟨rfl, EZ⟩
end Go.Proofs.Ytbfmcclbbeobkaa
