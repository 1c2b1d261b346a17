/- walked. -/
import Derived.Test.YtbfmcclbbeobkaaRStep
set_option linter.unusedSimpArgs false
set_option linter.unusedVariables false
namespace Go.Proofs.Ytbfmcclbbeobkaa
open Go.RowKit
theorem field_hi (a b : Int) : ∀ W : World, (Instr.field 26 (.agg #[.int .i64 a, .int .i64 b]) 1).run Try.prog W = .ok (.int .i64 b) W := fun _ => by kernel_rfl
theorem field_lo (a b : Int) : ∀ W : World, (Instr.field 26 (.agg #[.int .i64 a, .int .i64 b]) 0).run Try.prog W = .ok (.int .i64 a) W := fun _ => by kernel_rfl
theorem wTm_yes {times : List Int} {k : Nat} {hi : Int} (h : k < times.length) : wTm times k hi = times.getD k 0 := by unfold wTm; rw [if_pos h]
theorem wTm_no {times : List Int} {k : Nat} {hi : Int} (h : ¬ k < times.length) : wTm times k hi = hi := by unfold wTm; rw [if_neg h]
theorem wk_none {l pl ph : Int} {ps : List Pt} {s : Int} {r waits times : List Int} {k : Nat} (h : wk l pl ph ps s r waits times k = none) : ∀ j, wk l pl ph ps s r waits times (k + j) = none
  | 0 => h
  | j + 1 => by
    have ih := wk_none h j
    show wk l pl ph ps s r waits times (k + j + 1) = none
    rw [wk, ih]
set_option maxRecDepth 100000 in
set_option maxHeartbeats 8000000 in
theorem walked_any (m g l pl ph from_ : Int) (ha : PaOk l pl ph) (A : Option Addr) (n c : Nat) (ps : List Pt) (hn : ps.length = n) (hok : ∀ i, i < n → PtOk (ps.getD i zeroPt)) (hO : ∀ i, i < n → ∀ o, o ∈ (ps.getD i zeroPt).opens → 0 ≤ o.1 ∧ o.1 ≤ o.2 ∧ o.2 ≤ 2880)
    (RA : Option Addr) (rn rc : Nat) (r : List Int) (hrn : r.length = rn) (hr : RouteOk g ps from_ r) (WA : Option Addr) (wn wc : Nat) (waits : List Int) (hwn : waits.length = wn) (hwm : wn ≤ 1000) (hwb : ∀ k, k < waits.length → 0 ≤ waits.getD k 0 ∧ waits.getD k 0 ≤ 2880)
    (TA : Option Addr) (tn tc : Nat) (times : List Int) (htn : times.length = tn) (htm : tn ≤ 1000) (htb : ∀ k, k < times.length → 0 ≤ times.getD k 0 ∧ times.getD k 0 ≤ 10000) (s : Int) (h0 : 0 ≤ s) (h1 : s ≤ 2880) (w : World) (hp : PathsAt w A ps) (hR : IntsAt w RA r) (hW : IntsAt w WA waits) (hT : IntsAt w TA times) :
    Calls Try.prog 34 #[.agg #[.int .i64 m, .slice A n c], .agg #[.int .i64 g, .int .i64 l, .int .i64 pl, .int .i64 ph], .slice RA rn rc, .int .i64 s, .slice WA wn wc, .slice TA tn tc] w fun e w' =>
      e = .returned (.int .i64 (wkEnd (wk l pl ph ps s r waits times rn))) ∧ Ext w w' := by
  have HSP := hid (fun (k : Nat) (hk : k < n) (W : World) (hE : Ext w W) => rSpan_any m g l pl ph ha A n c ps hn k hk (hok k hk) W (hp.ext hE))
  have hrn30 : rn ≤ 30 := by have := hr.len; omega
  have HP := hid hp
  have HR := hid hR
  have HW := hid hW
  have HT := hid hT
  have HN := hid hn
  have HRN := hid hrn
  have HWN := hid hwn
  have HTN := hid htn
  have HRO := hid hr
  have HWB := hid hwb
  have HTB := hid htb
  have HOK := hid hok
  have HOS := hid hO
  have HPA := hid ha
  have HW0 := hid (show wk l pl ph ps s r waits times 0 = some s from rfl)
  have HWS := hid (fun k a (h : wk l pl ph ps s r waits times k = some a) => (show wk l pl ph ps s r waits times (k + 1) = if 1073741824 ≤ enter 1073741824 (ps.getD (r.getD k 0).toNat zeroPt).opens (wIn waits k a) then none
      else some (enter 1073741824 (ps.getD (r.getD k 0).toNat zeroPt).opens (wIn waits k a) + wTm times k (timeOf (ps.getD (r.getD k 0).toNat zeroPt).th ph (ps.getD (r.getD k 0).toNat zeroPt).sh l)) by rw [wk, h]))
  have HNN := hid (fun k (h : wk l pl ph ps s r waits times k = none) => wk_none h)
  have B0 := hid (two_blocks w (.cells #[.int .i64 m, .slice A n c] 24) (.cells #[.int .i64 g, .int .i64 l, .int .i64 pl, .int .i64 ph] 28)).1
  have B1 := hid (two_blocks w (.cells #[.int .i64 m, .slice A n c] 24) (.cells #[.int .i64 g, .int .i64 l, .int .i64 pl, .int .i64 ph] 28)).2.1
  revert HW0 HWS HNN
  generalize wk l pl ph ps s r waits times = wf
  intro HW0 HWS HNN
  clear hp hn hok hO hrn hr hwn hwb htn htb hR hW hT ha
  go_enter Try.func34, Try.ntmps34
  go_wp2
  go_loopw [13, 14] (fun av i wr => Ext w wr ∧ Hid (wr.heap[w.heap.size]? = some (.cells #[.int .i64 m, .slice A n c] 24 (0, 0))) ∧ Hid (wr.heap[w.heap.size + 1]? = some (.cells #[.int .i64 g, .int .i64 l, .int .i64 pl, .int .i64 ph] 28 (0, 0))) ∧
    ∃ (k : Nat) (a : Int), k ≤ rn ∧ i = .int .i64 k ∧ av = .int .i64 a ∧ Hid (wf k = some a) ∧ 0 ≤ a ∧ a ≤ 20000) (fun _ i _ => rn - (intOf i).toNat)
  case atStart => exact ⟨by (repeat' (first | with_reducible assumption | with_reducible exact Ext.refl _ | with_reducible refine Ext.alloc ?_ _ | with_reducible refine Ext.set ?_ ?_ _ | with_reducible refine Ext.drew ?_ | with_reducible refine Ext.drewN ?_ _ | with_reducible refine Ext.trans ?_ (by assumption) | (dsimp only; omega))), B0, B1, 0, s, Nat.zero_le _, rfl, rfl, HW0, by omega, by omega⟩
  case round =>
    clear B0 B1 HW0
    obtain ⟨hE, HB0, HB1, k, a, hk, rfl, rfl, HA, ha0, ha1⟩ := hrel
    by_cases hlt : k < rn
    · obtain ⟨rb, roff, rfl, hrb, q1⟩ := (HR.out.ext hE).at_ HRN.out hlt
      have hlo := HRO.out.lo k (by have := HRN.out; omega)
      have hhi := HRO.out.hi k (by have := HRN.out; omega)
      have hws := HWS.out k a HA.out
      have HNK := hid (HNN.out (k + 1))
      obtain ⟨i, hi⟩ : ∃ i : Nat, r.getD k 0 = i := ⟨(r.getD k 0).toNat, by omega⟩
      rw [hi] at q1 hlo hhi hws
      rw [Int.toNat_natCast] at hws
      have hin : i < n := by have := HN.out; omega
      obtain ⟨b, off, A', c', rfl, hb, hpt⟩ := (HP.out.ext hE).at_ HN.out hin
      have HSPN := hid (HSP.out i hin)
      have hok := HOK.out i hin
      have hos := HOS.out i hin
      have hi1 : (i : Int) < (n : Int) := by omega
      have hi0 : (0 : Int) ≤ (i : Int) := by omega
      clear hi hhi hlo HSP
      have hk0 : (0 : Int) ≤ (k : Int) := by omega
      have hk1 : (k : Int) < (rn : Int) := by omega
      have hpa := HPA.out
      obtain ⟨p, hpq⟩ : ∃ p, ps.getD i zeroPt = p := ⟨_, rfl⟩
      rw [hpq] at hpt hws HSPN hok hos
      clear hpq
      have hT2 := timeOf_bd (t := p.th) (p := ph) (s := p.sh) (l := l) (by have := hok.t1; have := hok.t2; omega) hok.t3 (by have := hpa.p1; have := hpa.p2; omega) hpa.p3 (by have := hok.s1; have := hok.s2; omega) hok.s3 hpa.l1 hpa.l2
      have HOP := hid hpt.opens
      have hos6 := hok.os
      obtain ⟨d0, d1, d2, d3, d4, d5, d6, d7, hcap, hop⟩ := hpt
      obtain ⟨f, d, gg, tl, th, sl, sh, os⟩ := p
      dsimp only at d0 d1 d2 d3 d4 d5 d6 d7 HOP HSPN hws hos hT2 hos6
      clear hop hcap hok hpa
      have c0 := blk_cell HB0.out 0
      have c1 := blk_cell HB0.out 1
      have c2 := blk_cell HB1.out 0
      have c3 := blk_cell HB1.out 1
      have c4 := blk_cell HB1.out 2
      have c5 := blk_cell HB1.out 3
      simp only [List.getElem?_toArray, List.getElem?_cons_zero, List.getElem?_cons_succ] at c0 c1 c2 c3 c4 c5
      have hs := (Array.getElem?_eq_some_iff.1 HB0.out).1
      have hs1 := (Array.getElem?_eq_some_iff.1 HB1.out).1
      by_cases hkw : k < wn
      · obtain ⟨wb, woff, rfl, hwb, q2⟩ := (HW.out.ext hE).at_ HWN.out hkw
        have hwbd := HWB.out k (by have := HWN.out; omega)
        rw [show wIn waits k a = a + waits.getD k 0 by unfold wIn; rw [if_pos (by have := HWN.out; omega)]] at hws
        obtain ⟨x, hx⟩ : ∃ x, waits.getD k 0 = x := ⟨_, rfl⟩
        rw [hx] at q2 hwbd hws
        clear hx
        have hkw1 : (k : Int) < (wn : Int) := by omega
        have h2 := enter_two os (a + x) (fun o ho => (hos o ho).2)
        have he0 := (enter_bd (never := 1073741824) os (show 0 ≤ a + x by omega) (by omega)).1
        have HEN := hid (fun (v0 v1 v2 v3 v4 v5 v6 : Value) (W : World) (ho : OpensAt W A' os) => rEnter_any v0 v1 v2 v3 v4 v5 v6 A' os.length c' os rfl (by omega) (a + x) W ho)
        clear hos
        revert h2 he0 HEN hws
        generalize enter 1073741824 os (a + x) = E
        generalize enter 2881 os (a + x) = E2
        intro hws h2 he0 HEN
        have HNO := hid (fun (h : 1073741824 ≤ E) => (show wf rn = none by
          rw [if_pos h] at hws
          have := HNK.out hws (rn - (k + 1))
          rwa [show k + 1 + (rn - (k + 1)) = rn by omega] at this))
        have HYE := hid (fun (h : ¬ 1073741824 ≤ E) => (show wf (k + 1) = some (E + wTm times k (timeOf th ph sh l)) by rw [hws, if_neg h]))
        clear hws
        go_wp2_with fail
        by_cases hen : 1073741824 ≤ E
        · have HZ := hid (HNO.out hen)
          refine wp_region_held_drew (S := fun w' => (∀ b o, b < wr.heap.size → w'.cell? ⟨b, o, none⟩ = wr.cell? ⟨b, o, none⟩) ∧ wr.heap.size ≤ w'.heap.size ∧ Ext wr w') (by kernel_rfl) ?hS0 (fun hHeld => ?_)
          case hS0 => exact ⟨fun _ _ _ => rfl, Nat.le_refl _, Ext.drew (Ext.refl _)⟩
          refine wpAnyH_take (i := 0) (oi := _) (v := ?v0pa) rfl (by kernel_rfl) (by kernel_rfl) (by kernel_rfl) (fun _ _ _ h => h) (Or.inl ⟨by rfl, ?y0pa⟩) (by assumption) ?r0pa
          case y0pa => (intro w' hSw; (try dsimp only at hSw); go_simp; (try with_reducible rfl))
          try simp only [Act.put, List.getElem_toArray, List.getElem_cons_zero, List.getElem_cons_succ, List.setIfInBounds_toArray, List.set_cons_zero, List.set_cons_succ]
          refine wpAnyH_take (i := 1) (oi := _) (v := ?v1pa) rfl (by kernel_rfl) (by kernel_rfl) (by kernel_rfl) (fun _ _ _ h => h) (Or.inl ⟨by rfl, ?y1pa⟩) (by assumption) ?r1pa
          case y1pa => (intro w' hSw; (try dsimp only at hSw); go_simp; (try with_reducible rfl))
          try simp only [Act.put, List.getElem_toArray, List.getElem_cons_zero, List.getElem_cons_succ, List.setIfInBounds_toArray, List.set_cons_zero, List.set_cons_succ]
          refine wpAnyH_take (i := 2) (oi := _) (v := ?v2pa) rfl (by kernel_rfl) (by kernel_rfl) (by kernel_rfl) (fun _ _ _ h => h) (Or.inl ⟨by rfl, ?y2pa⟩) (by assumption) ?r2pa
          case y2pa => (intro w' hSw; (try dsimp only at hSw); go_simp; (try with_reducible rfl))
          try simp only [Act.put, List.getElem_toArray, List.getElem_cons_zero, List.getElem_cons_succ, List.setIfInBounds_toArray, List.set_cons_zero, List.set_cons_succ]
          refine wpAnyH_take (i := 3) (oi := _) (v := ?v3pa) rfl (by kernel_rfl) (by kernel_rfl) (by kernel_rfl) (fun _ _ _ h => h) (Or.inl ⟨by rfl, ?y3pa⟩) (by assumption) ?r3pa
          case y3pa => (intro w' hSw; (try dsimp only at hSw); go_simp; (try with_reducible rfl))
          try simp only [Act.put, List.getElem_toArray, List.getElem_cons_zero, List.getElem_cons_succ, List.setIfInBounds_toArray, List.set_cons_zero, List.set_cons_succ]
          refine wpAnyH_take (i := 4) (oi := _) (v := ?v4pa) rfl (by kernel_rfl) (by kernel_rfl) (by kernel_rfl) (fun _ _ _ h => h) (Or.inl ⟨by rfl, ?y4pa⟩) (by assumption) ?r4pa
          case y4pa => (intro w' hSw; (try dsimp only at hSw); go_simp; (try with_reducible rfl))
          try simp only [Act.put, List.getElem_toArray, List.getElem_cons_zero, List.getElem_cons_succ, List.setIfInBounds_toArray, List.set_cons_zero, List.set_cons_succ]
          refine wpAnyH_take (i := 5) (oi := _) (v := ?v5pa) rfl (by kernel_rfl) (by kernel_rfl) (by kernel_rfl) (fun _ _ _ h => h) (Or.inl ⟨by rfl, ?y5pa⟩) (by assumption) ?r5pa
          case y5pa => (intro w' hSw; (try dsimp only at hSw); go_simp; (try with_reducible rfl))
          try simp only [Act.put, List.getElem_toArray, List.getElem_cons_zero, List.getElem_cons_succ, List.setIfInBounds_toArray, List.set_cons_zero, List.set_cons_succ]
          refine wpAnyH_take (i := 6) (oi := _) (v := ?v6pa) rfl (by kernel_rfl) (by kernel_rfl) (by kernel_rfl) (fun _ _ _ h => h) (Or.inl ⟨by rfl, ?y6pa⟩) (by assumption) ?r6pa
          case y6pa => (intro w' hSw; (try dsimp only at hSw); go_simp; (try with_reducible rfl))
          try simp only [Act.put, List.getElem_toArray, List.getElem_cons_zero, List.getElem_cons_succ, List.setIfInBounds_toArray, List.set_cons_zero, List.set_cons_succ]
          refine wpAnyH_take (i := 7) (oi := _) (v := ?v7pa) rfl (by kernel_rfl) (by kernel_rfl) (by kernel_rfl) (fun _ _ _ h => h) (Or.inl ⟨by rfl, ?y7pa⟩) (by assumption) ?r7pa
          case y7pa => (intro w' hSw; (try dsimp only at hSw); go_simp; (try with_reducible rfl))
          try simp only [Act.put, List.getElem_toArray, List.getElem_cons_zero, List.getElem_cons_succ, List.setIfInBounds_toArray, List.set_cons_zero, List.set_cons_succ]
          refine wpAnyH_take (i := 8) (oi := _) (v := ?v8pa) rfl (by kernel_rfl) (by kernel_rfl) (by kernel_rfl) (fun _ _ _ h => h) (Or.inl ⟨by rfl, ?y8pa⟩) (by assumption) ?r8pa
          case y8pa => (intro w' hSw; (try dsimp only at hSw); go_simp; (try with_reducible rfl))
          try simp only [Act.put, List.getElem_toArray, List.getElem_cons_zero, List.getElem_cons_succ, List.setIfInBounds_toArray, List.set_cons_zero, List.set_cons_succ]
          refine wpAnyH_ready (rs := [9]) (by kernel_rfl) (by simp) ?_
          refine AllReadyH.cons (o := _) rfl (fun K hK => ?_) AllReadyH.nil
          go_simp
          refine (HEN.out _ _ _ _ _ _ _ _ (HOP.out.ext (Ext.drew (Ext.refl wr)))).mono ?_
          rintro e w4 ⟨rfl, hE2⟩
          have hx : Ext wr w4 := (Ext.drew (Ext.refl wr)).trans hE2
          have hC := kcell (w1 := wr.drew) (W := wr) (n := wr.heap.size) (fun _ _ _ => rfl) (Nat.le_refl _) hE2
          clear hHeld
          dsimp only
          refine hK.out _ _ ⟨hC, hx.size, hx⟩ (fun hHeld => ?_)
          clear hK K
          try simp only [Act.put, List.getElem_toArray, List.getElem_cons_zero, List.getElem_cons_succ, List.setIfInBounds_toArray, List.set_cons_zero, List.set_cons_succ]
          refine wpAnyH_take (i := 10) (oi := _) (v := ?v10pa) rfl (by kernel_rfl) (by kernel_rfl) (by kernel_rfl) (fun _ _ _ h => h) (Or.inl ⟨by rfl, ?y10pa⟩) (by assumption) ?r10pa
          case y10pa => (intro w' hSw; (try dsimp only at hSw); go_simp; (try with_reducible rfl))
          try simp only [Act.put, List.getElem_toArray, List.getElem_cons_zero, List.getElem_cons_succ, List.setIfInBounds_toArray, List.set_cons_zero, List.set_cons_succ]
          refine wpAnyH_done (by kernel_rfl) ?_ _
          have hE4 := hE.trans hx
          have hz4 := hx.size
          clear hHeld hE2
          go_wp2_with fail
          go_wp2
          go_ret
          exact ⟨ret_int (by rw [HZ.out]; rfl), hE4⟩
        · have hle : E ≤ 2880 := by omega
          have HSO := hid (HYE.out (by omega))
          by_cases hkt : k < tn
          · obtain ⟨tb, toff, rfl, htb, q3⟩ := (HT.out.ext hE).at_ HTN.out hkt
            have htbd := HTB.out k (by have := HTN.out; omega)
            have HWT := hid (wTm_yes (hi := timeOf th ph sh l) (show k < times.length by have := HTN.out; omega))
            obtain ⟨y, hy⟩ : ∃ y, times.getD k 0 = y := ⟨_, rfl⟩
            rw [hy] at q3 htbd HWT
            clear hy
            have HSM := hid (HSO.out.trans (by rw [HWT.out]))
            have hkt1 : (k : Int) < (tn : Int) := by omega
            refine wp_region_held_drew (S := fun w' => (∀ b o, b < wr.heap.size → w'.cell? ⟨b, o, none⟩ = wr.cell? ⟨b, o, none⟩) ∧ wr.heap.size ≤ w'.heap.size ∧ Ext wr w') (by kernel_rfl) ?hS0 (fun hHeld => ?_)
            case hS0 => exact ⟨fun _ _ _ => rfl, Nat.le_refl _, Ext.drew (Ext.refl _)⟩
            refine wpAnyH_take (i := 0) (oi := _) (v := ?v0pb) rfl (by kernel_rfl) (by kernel_rfl) (by kernel_rfl) (fun _ _ _ h => h) (Or.inl ⟨by rfl, ?y0pb⟩) (by assumption) ?r0pb
            case y0pb => (intro w' hSw; (try dsimp only at hSw); go_simp; (try with_reducible rfl))
            try simp only [Act.put, List.getElem_toArray, List.getElem_cons_zero, List.getElem_cons_succ, List.setIfInBounds_toArray, List.set_cons_zero, List.set_cons_succ]
            refine wpAnyH_take (i := 1) (oi := _) (v := ?v1pb) rfl (by kernel_rfl) (by kernel_rfl) (by kernel_rfl) (fun _ _ _ h => h) (Or.inl ⟨by rfl, ?y1pb⟩) (by assumption) ?r1pb
            case y1pb => (intro w' hSw; (try dsimp only at hSw); go_simp; (try with_reducible rfl))
            try simp only [Act.put, List.getElem_toArray, List.getElem_cons_zero, List.getElem_cons_succ, List.setIfInBounds_toArray, List.set_cons_zero, List.set_cons_succ]
            refine wpAnyH_take (i := 2) (oi := _) (v := ?v2pb) rfl (by kernel_rfl) (by kernel_rfl) (by kernel_rfl) (fun _ _ _ h => h) (Or.inl ⟨by rfl, ?y2pb⟩) (by assumption) ?r2pb
            case y2pb => (intro w' hSw; (try dsimp only at hSw); go_simp; (try with_reducible rfl))
            try simp only [Act.put, List.getElem_toArray, List.getElem_cons_zero, List.getElem_cons_succ, List.setIfInBounds_toArray, List.set_cons_zero, List.set_cons_succ]
            refine wpAnyH_take (i := 3) (oi := _) (v := ?v3pb) rfl (by kernel_rfl) (by kernel_rfl) (by kernel_rfl) (fun _ _ _ h => h) (Or.inl ⟨by rfl, ?y3pb⟩) (by assumption) ?r3pb
            case y3pb => (intro w' hSw; (try dsimp only at hSw); go_simp; (try with_reducible rfl))
            try simp only [Act.put, List.getElem_toArray, List.getElem_cons_zero, List.getElem_cons_succ, List.setIfInBounds_toArray, List.set_cons_zero, List.set_cons_succ]
            refine wpAnyH_take (i := 4) (oi := _) (v := ?v4pb) rfl (by kernel_rfl) (by kernel_rfl) (by kernel_rfl) (fun _ _ _ h => h) (Or.inl ⟨by rfl, ?y4pb⟩) (by assumption) ?r4pb
            case y4pb => (intro w' hSw; (try dsimp only at hSw); go_simp; (try with_reducible rfl))
            try simp only [Act.put, List.getElem_toArray, List.getElem_cons_zero, List.getElem_cons_succ, List.setIfInBounds_toArray, List.set_cons_zero, List.set_cons_succ]
            refine wpAnyH_take (i := 5) (oi := _) (v := ?v5pb) rfl (by kernel_rfl) (by kernel_rfl) (by kernel_rfl) (fun _ _ _ h => h) (Or.inl ⟨by rfl, ?y5pb⟩) (by assumption) ?r5pb
            case y5pb => (intro w' hSw; (try dsimp only at hSw); go_simp; (try with_reducible rfl))
            try simp only [Act.put, List.getElem_toArray, List.getElem_cons_zero, List.getElem_cons_succ, List.setIfInBounds_toArray, List.set_cons_zero, List.set_cons_succ]
            refine wpAnyH_take (i := 6) (oi := _) (v := ?v6pb) rfl (by kernel_rfl) (by kernel_rfl) (by kernel_rfl) (fun _ _ _ h => h) (Or.inl ⟨by rfl, ?y6pb⟩) (by assumption) ?r6pb
            case y6pb => (intro w' hSw; (try dsimp only at hSw); go_simp; (try with_reducible rfl))
            try simp only [Act.put, List.getElem_toArray, List.getElem_cons_zero, List.getElem_cons_succ, List.setIfInBounds_toArray, List.set_cons_zero, List.set_cons_succ]
            refine wpAnyH_take (i := 7) (oi := _) (v := ?v7pb) rfl (by kernel_rfl) (by kernel_rfl) (by kernel_rfl) (fun _ _ _ h => h) (Or.inl ⟨by rfl, ?y7pb⟩) (by assumption) ?r7pb
            case y7pb => (intro w' hSw; (try dsimp only at hSw); go_simp; (try with_reducible rfl))
            try simp only [Act.put, List.getElem_toArray, List.getElem_cons_zero, List.getElem_cons_succ, List.setIfInBounds_toArray, List.set_cons_zero, List.set_cons_succ]
            refine wpAnyH_take (i := 8) (oi := _) (v := ?v8pb) rfl (by kernel_rfl) (by kernel_rfl) (by kernel_rfl) (fun _ _ _ h => h) (Or.inl ⟨by rfl, ?y8pb⟩) (by assumption) ?r8pb
            case y8pb => (intro w' hSw; (try dsimp only at hSw); go_simp; (try with_reducible rfl))
            try simp only [Act.put, List.getElem_toArray, List.getElem_cons_zero, List.getElem_cons_succ, List.setIfInBounds_toArray, List.set_cons_zero, List.set_cons_succ]
            refine wpAnyH_ready (rs := [9]) (by kernel_rfl) (by simp) ?_
            refine AllReadyH.cons (o := _) rfl (fun K hK => ?_) AllReadyH.nil
            go_simp
            refine (HEN.out _ _ _ _ _ _ _ _ (HOP.out.ext (Ext.drew (Ext.refl wr)))).mono ?_
            rintro e w4 ⟨rfl, hE2⟩
            have hx : Ext wr w4 := (Ext.drew (Ext.refl wr)).trans hE2
            have hC := kcell (w1 := wr.drew) (W := wr) (n := wr.heap.size) (fun _ _ _ => rfl) (Nat.le_refl _) hE2
            clear hHeld
            dsimp only
            refine hK.out _ _ ⟨hC, hx.size, hx⟩ (fun hHeld => ?_)
            clear hK K
            try simp only [Act.put, List.getElem_toArray, List.getElem_cons_zero, List.getElem_cons_succ, List.setIfInBounds_toArray, List.set_cons_zero, List.set_cons_succ]
            refine wpAnyH_take (i := 10) (oi := _) (v := ?v10pb) rfl (by kernel_rfl) (by kernel_rfl) (by kernel_rfl) (fun _ _ _ h => h) (Or.inl ⟨by rfl, ?y10pb⟩) (by assumption) ?r10pb
            case y10pb => (intro w' hSw; (try dsimp only at hSw); go_simp; (try with_reducible rfl))
            try simp only [Act.put, List.getElem_toArray, List.getElem_cons_zero, List.getElem_cons_succ, List.setIfInBounds_toArray, List.set_cons_zero, List.set_cons_succ]
            refine wpAnyH_done (by kernel_rfl) ?_ _
            have hE4 := hE.trans hx
            have hz4 := hx.size
            clear hHeld hE2
            go_wp2_with fail
            refine wp_region_held_drew (S := fun w' => (∀ b o, b < wr.heap.size → w'.cell? ⟨b, o, none⟩ = wr.cell? ⟨b, o, none⟩) ∧ w4.heap.size ≤ w'.heap.size ∧ Ext w4 w') (by kernel_rfl) ?hS0 (fun hHeld => ?_)
            case hS0 => exact ⟨hC, Nat.le_refl _, Ext.drew (Ext.refl _)⟩
            refine wpAnyH_take (i := 0) (oi := _) (v := ?v0pc) rfl (by kernel_rfl) (by kernel_rfl) (by kernel_rfl) (fun _ _ _ h => h) (Or.inl ⟨by rfl, ?y0pc⟩) (by assumption) ?r0pc
            case y0pc => (intro w' hSw; (try dsimp only at hSw); go_simp; (try with_reducible rfl))
            try simp only [Act.put, List.getElem_toArray, List.getElem_cons_zero, List.getElem_cons_succ, List.setIfInBounds_toArray, List.set_cons_zero, List.set_cons_succ]
            refine wpAnyH_take (i := 1) (oi := _) (v := ?v1pc) rfl (by kernel_rfl) (by kernel_rfl) (by kernel_rfl) (fun _ _ _ h => h) (Or.inl ⟨by rfl, ?y1pc⟩) (by assumption) ?r1pc
            case y1pc => (intro w' hSw; (try dsimp only at hSw); go_simp; (try with_reducible rfl))
            try simp only [Act.put, List.getElem_toArray, List.getElem_cons_zero, List.getElem_cons_succ, List.setIfInBounds_toArray, List.set_cons_zero, List.set_cons_succ]
            refine wpAnyH_take (i := 2) (oi := _) (v := ?v2pc) rfl (by kernel_rfl) (by kernel_rfl) (by kernel_rfl) (fun _ _ _ h => h) (Or.inl ⟨by rfl, ?y2pc⟩) (by assumption) ?r2pc
            case y2pc => (intro w' hSw; (try dsimp only at hSw); go_simp; (try with_reducible rfl))
            try simp only [Act.put, List.getElem_toArray, List.getElem_cons_zero, List.getElem_cons_succ, List.setIfInBounds_toArray, List.set_cons_zero, List.set_cons_succ]
            refine wpAnyH_take (i := 3) (oi := _) (v := ?v3pc) rfl (by kernel_rfl) (by kernel_rfl) (by kernel_rfl) (fun _ _ _ h => h) (Or.inl ⟨by rfl, ?y3pc⟩) (by assumption) ?r3pc
            case y3pc => (intro w' hSw; (try dsimp only at hSw); go_simp; (try with_reducible rfl))
            try simp only [Act.put, List.getElem_toArray, List.getElem_cons_zero, List.getElem_cons_succ, List.setIfInBounds_toArray, List.set_cons_zero, List.set_cons_succ]
            refine wpAnyH_take (i := 4) (oi := _) (v := ?v4pc) rfl (by kernel_rfl) (by kernel_rfl) (by kernel_rfl) (fun _ _ _ h => h) (Or.inl ⟨by rfl, ?y4pc⟩) (by assumption) ?r4pc
            case y4pc => (intro w' hSw; (try dsimp only at hSw); go_simp; (try with_reducible rfl))
            try simp only [Act.put, List.getElem_toArray, List.getElem_cons_zero, List.getElem_cons_succ, List.setIfInBounds_toArray, List.set_cons_zero, List.set_cons_succ]
            refine wpAnyH_take (i := 5) (oi := _) (v := ?v5pc) rfl (by kernel_rfl) (by kernel_rfl) (by kernel_rfl) (fun _ _ _ h => h) (Or.inl ⟨by rfl, ?y5pc⟩) (by assumption) ?r5pc
            case y5pc => (intro w' hSw; (try dsimp only at hSw); go_simp; (try with_reducible rfl))
            try simp only [Act.put, List.getElem_toArray, List.getElem_cons_zero, List.getElem_cons_succ, List.setIfInBounds_toArray, List.set_cons_zero, List.set_cons_succ]
            refine wpAnyH_ready (rs := [6]) (by kernel_rfl) (by simp) ?_
            refine AllReadyH.cons (o := _) rfl (fun K hK => ?_) AllReadyH.nil
            go_simp
            have hfd := field_hi (timeOf tl pl sl l) (timeOf th ph sh l)
            refine (HSPN.out _ (hE4.drew)).mono ?_
            rintro e w5 ⟨rfl, hE5⟩
            have hx5 : Ext w4 w5 := (Ext.drew (Ext.refl w4)).trans hE5
            have hC5 := kcell (w1 := w4.drew) (W := wr) (n := wr.heap.size) hC hz4 hE5
            clear hHeld
            dsimp only
            refine hK.out _ _ ⟨hC5, hx5.size, hx5⟩ (fun hHeld => ?_)
            clear hK K
            try simp only [Act.put, List.getElem_toArray, List.getElem_cons_zero, List.getElem_cons_succ, List.setIfInBounds_toArray, List.set_cons_zero, List.set_cons_succ]
            refine wpAnyH_take (i := 7) (oi := _) (v := ?v7pc) rfl (by kernel_rfl) (by kernel_rfl) (by kernel_rfl) (fun _ _ _ h => h) (Or.inl ⟨by rfl, ?y7pc⟩) (by assumption) ?r7pc
            case y7pc => (intro w' hSw; (try dsimp only at hSw); go_simp; (try with_reducible rfl))
            try simp only [Act.put, List.getElem_toArray, List.getElem_cons_zero, List.getElem_cons_succ, List.setIfInBounds_toArray, List.set_cons_zero, List.set_cons_succ]
            refine wpAnyH_take (i := 8) (oi := _) (v := ?v8pc) rfl (by kernel_rfl) (by kernel_rfl) (by kernel_rfl) (fun _ _ _ h => h) (Or.inl ⟨by rfl, ?y8pc⟩) (by assumption) ?r8pc
            case y8pc => (intro w' hSw; (try dsimp only at hSw); go_simp; (try with_reducible rfl))
            try simp only [Act.put, List.getElem_toArray, List.getElem_cons_zero, List.getElem_cons_succ, List.setIfInBounds_toArray, List.set_cons_zero, List.set_cons_succ]
            refine wpAnyH_done (by kernel_rfl) ?_ _
            have hE6 := hE4.trans hx5
            have hz5 := hx5.size
            clear hHeld hE5
            have J0 := hid (blk_ext HB0.out (hx.trans hx5))
            have J1 := hid (blk_ext HB1.out (hx.trans hx5))
            go_wp2
            go_roundw
            case rel => exact ⟨hE6, J0, J1, k + 1, _, by omega, by go_num, rfl, HSM.out, by omega, by omega⟩
            case measure => simp [intOf]; omega
          · have HWT := hid (wTm_no (hi := timeOf th ph sh l) (show ¬ k < times.length by have := HTN.out; omega))
            have HSM := hid (HSO.out.trans (by rw [HWT.out]))
            have hkt1 : decide ((k : Int) < (tn : Int)) = false := decide_eq_false (by omega)
            refine wp_region_held_drew (S := fun w' => (∀ b o, b < wr.heap.size → w'.cell? ⟨b, o, none⟩ = wr.cell? ⟨b, o, none⟩) ∧ wr.heap.size ≤ w'.heap.size ∧ Ext wr w') (by kernel_rfl) ?hS0 (fun hHeld => ?_)
            case hS0 => exact ⟨fun _ _ _ => rfl, Nat.le_refl _, Ext.drew (Ext.refl _)⟩
            refine wpAnyH_take (i := 0) (oi := _) (v := ?v0pd) rfl (by kernel_rfl) (by kernel_rfl) (by kernel_rfl) (fun _ _ _ h => h) (Or.inl ⟨by rfl, ?y0pd⟩) (by assumption) ?r0pd
            case y0pd => (intro w' hSw; (try dsimp only at hSw); go_simp; (try with_reducible rfl))
            try simp only [Act.put, List.getElem_toArray, List.getElem_cons_zero, List.getElem_cons_succ, List.setIfInBounds_toArray, List.set_cons_zero, List.set_cons_succ]
            refine wpAnyH_take (i := 1) (oi := _) (v := ?v1pd) rfl (by kernel_rfl) (by kernel_rfl) (by kernel_rfl) (fun _ _ _ h => h) (Or.inl ⟨by rfl, ?y1pd⟩) (by assumption) ?r1pd
            case y1pd => (intro w' hSw; (try dsimp only at hSw); go_simp; (try with_reducible rfl))
            try simp only [Act.put, List.getElem_toArray, List.getElem_cons_zero, List.getElem_cons_succ, List.setIfInBounds_toArray, List.set_cons_zero, List.set_cons_succ]
            refine wpAnyH_take (i := 2) (oi := _) (v := ?v2pd) rfl (by kernel_rfl) (by kernel_rfl) (by kernel_rfl) (fun _ _ _ h => h) (Or.inl ⟨by rfl, ?y2pd⟩) (by assumption) ?r2pd
            case y2pd => (intro w' hSw; (try dsimp only at hSw); go_simp; (try with_reducible rfl))
            try simp only [Act.put, List.getElem_toArray, List.getElem_cons_zero, List.getElem_cons_succ, List.setIfInBounds_toArray, List.set_cons_zero, List.set_cons_succ]
            refine wpAnyH_take (i := 3) (oi := _) (v := ?v3pd) rfl (by kernel_rfl) (by kernel_rfl) (by kernel_rfl) (fun _ _ _ h => h) (Or.inl ⟨by rfl, ?y3pd⟩) (by assumption) ?r3pd
            case y3pd => (intro w' hSw; (try dsimp only at hSw); go_simp; (try with_reducible rfl))
            try simp only [Act.put, List.getElem_toArray, List.getElem_cons_zero, List.getElem_cons_succ, List.setIfInBounds_toArray, List.set_cons_zero, List.set_cons_succ]
            refine wpAnyH_take (i := 4) (oi := _) (v := ?v4pd) rfl (by kernel_rfl) (by kernel_rfl) (by kernel_rfl) (fun _ _ _ h => h) (Or.inl ⟨by rfl, ?y4pd⟩) (by assumption) ?r4pd
            case y4pd => (intro w' hSw; (try dsimp only at hSw); go_simp; (try with_reducible rfl))
            try simp only [Act.put, List.getElem_toArray, List.getElem_cons_zero, List.getElem_cons_succ, List.setIfInBounds_toArray, List.set_cons_zero, List.set_cons_succ]
            refine wpAnyH_take (i := 5) (oi := _) (v := ?v5pd) rfl (by kernel_rfl) (by kernel_rfl) (by kernel_rfl) (fun _ _ _ h => h) (Or.inl ⟨by rfl, ?y5pd⟩) (by assumption) ?r5pd
            case y5pd => (intro w' hSw; (try dsimp only at hSw); go_simp; (try with_reducible rfl))
            try simp only [Act.put, List.getElem_toArray, List.getElem_cons_zero, List.getElem_cons_succ, List.setIfInBounds_toArray, List.set_cons_zero, List.set_cons_succ]
            refine wpAnyH_take (i := 6) (oi := _) (v := ?v6pd) rfl (by kernel_rfl) (by kernel_rfl) (by kernel_rfl) (fun _ _ _ h => h) (Or.inl ⟨by rfl, ?y6pd⟩) (by assumption) ?r6pd
            case y6pd => (intro w' hSw; (try dsimp only at hSw); go_simp; (try with_reducible rfl))
            try simp only [Act.put, List.getElem_toArray, List.getElem_cons_zero, List.getElem_cons_succ, List.setIfInBounds_toArray, List.set_cons_zero, List.set_cons_succ]
            refine wpAnyH_take (i := 7) (oi := _) (v := ?v7pd) rfl (by kernel_rfl) (by kernel_rfl) (by kernel_rfl) (fun _ _ _ h => h) (Or.inl ⟨by rfl, ?y7pd⟩) (by assumption) ?r7pd
            case y7pd => (intro w' hSw; (try dsimp only at hSw); go_simp; (try with_reducible rfl))
            try simp only [Act.put, List.getElem_toArray, List.getElem_cons_zero, List.getElem_cons_succ, List.setIfInBounds_toArray, List.set_cons_zero, List.set_cons_succ]
            refine wpAnyH_take (i := 8) (oi := _) (v := ?v8pd) rfl (by kernel_rfl) (by kernel_rfl) (by kernel_rfl) (fun _ _ _ h => h) (Or.inl ⟨by rfl, ?y8pd⟩) (by assumption) ?r8pd
            case y8pd => (intro w' hSw; (try dsimp only at hSw); go_simp; (try with_reducible rfl))
            try simp only [Act.put, List.getElem_toArray, List.getElem_cons_zero, List.getElem_cons_succ, List.setIfInBounds_toArray, List.set_cons_zero, List.set_cons_succ]
            refine wpAnyH_ready (rs := [9]) (by kernel_rfl) (by simp) ?_
            refine AllReadyH.cons (o := _) rfl (fun K hK => ?_) AllReadyH.nil
            go_simp
            refine (HEN.out _ _ _ _ _ _ _ _ (HOP.out.ext (Ext.drew (Ext.refl wr)))).mono ?_
            rintro e w4 ⟨rfl, hE2⟩
            have hx : Ext wr w4 := (Ext.drew (Ext.refl wr)).trans hE2
            have hC := kcell (w1 := wr.drew) (W := wr) (n := wr.heap.size) (fun _ _ _ => rfl) (Nat.le_refl _) hE2
            clear hHeld
            dsimp only
            refine hK.out _ _ ⟨hC, hx.size, hx⟩ (fun hHeld => ?_)
            clear hK K
            try simp only [Act.put, List.getElem_toArray, List.getElem_cons_zero, List.getElem_cons_succ, List.setIfInBounds_toArray, List.set_cons_zero, List.set_cons_succ]
            refine wpAnyH_take (i := 10) (oi := _) (v := ?v10pd) rfl (by kernel_rfl) (by kernel_rfl) (by kernel_rfl) (fun _ _ _ h => h) (Or.inl ⟨by rfl, ?y10pd⟩) (by assumption) ?r10pd
            case y10pd => (intro w' hSw; (try dsimp only at hSw); go_simp; (try with_reducible rfl))
            try simp only [Act.put, List.getElem_toArray, List.getElem_cons_zero, List.getElem_cons_succ, List.setIfInBounds_toArray, List.set_cons_zero, List.set_cons_succ]
            refine wpAnyH_done (by kernel_rfl) ?_ _
            have hE4 := hE.trans hx
            have hz4 := hx.size
            clear hHeld hE2
            go_wp2_with fail
            refine wp_region_held_drew (S := fun w' => (∀ b o, b < wr.heap.size → w'.cell? ⟨b, o, none⟩ = wr.cell? ⟨b, o, none⟩) ∧ w4.heap.size ≤ w'.heap.size ∧ Ext w4 w') (by kernel_rfl) ?hS0 (fun hHeld => ?_)
            case hS0 => exact ⟨hC, Nat.le_refl _, Ext.drew (Ext.refl _)⟩
            refine wpAnyH_take (i := 0) (oi := _) (v := ?v0pe) rfl (by kernel_rfl) (by kernel_rfl) (by kernel_rfl) (fun _ _ _ h => h) (Or.inl ⟨by rfl, ?y0pe⟩) (by assumption) ?r0pe
            case y0pe => (intro w' hSw; (try dsimp only at hSw); go_simp; (try with_reducible rfl))
            try simp only [Act.put, List.getElem_toArray, List.getElem_cons_zero, List.getElem_cons_succ, List.setIfInBounds_toArray, List.set_cons_zero, List.set_cons_succ]
            refine wpAnyH_take (i := 1) (oi := _) (v := ?v1pe) rfl (by kernel_rfl) (by kernel_rfl) (by kernel_rfl) (fun _ _ _ h => h) (Or.inl ⟨by rfl, ?y1pe⟩) (by assumption) ?r1pe
            case y1pe => (intro w' hSw; (try dsimp only at hSw); go_simp; (try with_reducible rfl))
            try simp only [Act.put, List.getElem_toArray, List.getElem_cons_zero, List.getElem_cons_succ, List.setIfInBounds_toArray, List.set_cons_zero, List.set_cons_succ]
            refine wpAnyH_take (i := 2) (oi := _) (v := ?v2pe) rfl (by kernel_rfl) (by kernel_rfl) (by kernel_rfl) (fun _ _ _ h => h) (Or.inl ⟨by rfl, ?y2pe⟩) (by assumption) ?r2pe
            case y2pe => (intro w' hSw; (try dsimp only at hSw); go_simp; (try with_reducible rfl))
            try simp only [Act.put, List.getElem_toArray, List.getElem_cons_zero, List.getElem_cons_succ, List.setIfInBounds_toArray, List.set_cons_zero, List.set_cons_succ]
            refine wpAnyH_take (i := 3) (oi := _) (v := ?v3pe) rfl (by kernel_rfl) (by kernel_rfl) (by kernel_rfl) (fun _ _ _ h => h) (Or.inl ⟨by rfl, ?y3pe⟩) (by assumption) ?r3pe
            case y3pe => (intro w' hSw; (try dsimp only at hSw); go_simp; (try with_reducible rfl))
            try simp only [Act.put, List.getElem_toArray, List.getElem_cons_zero, List.getElem_cons_succ, List.setIfInBounds_toArray, List.set_cons_zero, List.set_cons_succ]
            refine wpAnyH_take (i := 4) (oi := _) (v := ?v4pe) rfl (by kernel_rfl) (by kernel_rfl) (by kernel_rfl) (fun _ _ _ h => h) (Or.inl ⟨by rfl, ?y4pe⟩) (by assumption) ?r4pe
            case y4pe => (intro w' hSw; (try dsimp only at hSw); go_simp; (try with_reducible rfl))
            try simp only [Act.put, List.getElem_toArray, List.getElem_cons_zero, List.getElem_cons_succ, List.setIfInBounds_toArray, List.set_cons_zero, List.set_cons_succ]
            refine wpAnyH_take (i := 5) (oi := _) (v := ?v5pe) rfl (by kernel_rfl) (by kernel_rfl) (by kernel_rfl) (fun _ _ _ h => h) (Or.inl ⟨by rfl, ?y5pe⟩) (by assumption) ?r5pe
            case y5pe => (intro w' hSw; (try dsimp only at hSw); go_simp; (try with_reducible rfl))
            try simp only [Act.put, List.getElem_toArray, List.getElem_cons_zero, List.getElem_cons_succ, List.setIfInBounds_toArray, List.set_cons_zero, List.set_cons_succ]
            refine wpAnyH_ready (rs := [6]) (by kernel_rfl) (by simp) ?_
            refine AllReadyH.cons (o := _) rfl (fun K hK => ?_) AllReadyH.nil
            go_simp
            have hfd := field_hi (timeOf tl pl sl l) (timeOf th ph sh l)
            refine (HSPN.out _ (hE4.drew)).mono ?_
            rintro e w5 ⟨rfl, hE5⟩
            have hx5 : Ext w4 w5 := (Ext.drew (Ext.refl w4)).trans hE5
            have hC5 := kcell (w1 := w4.drew) (W := wr) (n := wr.heap.size) hC hz4 hE5
            clear hHeld
            dsimp only
            refine hK.out _ _ ⟨hC5, hx5.size, hx5⟩ (fun hHeld => ?_)
            clear hK K
            try simp only [Act.put, List.getElem_toArray, List.getElem_cons_zero, List.getElem_cons_succ, List.setIfInBounds_toArray, List.set_cons_zero, List.set_cons_succ]
            refine wpAnyH_take (i := 7) (oi := _) (v := ?v7pe) rfl (by kernel_rfl) (by kernel_rfl) (by kernel_rfl) (fun _ _ _ h => h) (Or.inl ⟨by rfl, ?y7pe⟩) (by assumption) ?r7pe
            case y7pe => (intro w' hSw; (try dsimp only at hSw); go_simp; (try with_reducible rfl))
            try simp only [Act.put, List.getElem_toArray, List.getElem_cons_zero, List.getElem_cons_succ, List.setIfInBounds_toArray, List.set_cons_zero, List.set_cons_succ]
            refine wpAnyH_take (i := 8) (oi := _) (v := ?v8pe) rfl (by kernel_rfl) (by kernel_rfl) (by kernel_rfl) (fun _ _ _ h => h) (Or.inl ⟨by rfl, ?y8pe⟩) (by assumption) ?r8pe
            case y8pe => (intro w' hSw; (try dsimp only at hSw); go_simp; (try with_reducible rfl))
            try simp only [Act.put, List.getElem_toArray, List.getElem_cons_zero, List.getElem_cons_succ, List.setIfInBounds_toArray, List.set_cons_zero, List.set_cons_succ]
            refine wpAnyH_done (by kernel_rfl) ?_ _
            have hE6 := hE4.trans hx5
            have hz5 := hx5.size
            clear hHeld hE5
            have J0 := hid (blk_ext HB0.out (hx.trans hx5))
            have J1 := hid (blk_ext HB1.out (hx.trans hx5))
            go_wp2
            go_roundw
            case rel => exact ⟨hE6, J0, J1, k + 1, _, by omega, by go_num, rfl, HSM.out, by omega, by omega⟩
            case measure => simp [intOf]; omega
      · rw [show wIn waits k a = a by unfold wIn; rw [if_neg (by have := HWN.out; omega)]] at hws
        have hkw1 : decide ((k : Int) < (wn : Int)) = false := decide_eq_false (by omega)
        have h2 := enter_two os a (fun o ho => (hos o ho).2)
        have he0 := (enter_bd (never := 1073741824) os ha0 (by omega)).1
        have HEN := hid (fun (v0 v1 v2 v3 v4 v5 v6 : Value) (W : World) (ho : OpensAt W A' os) => rEnter_any v0 v1 v2 v3 v4 v5 v6 A' os.length c' os rfl (by omega) a W ho)
        clear hos
        revert h2 he0 HEN hws
        generalize enter 1073741824 os a = E
        generalize enter 2881 os a = E2
        intro hws h2 he0 HEN
        have HNO := hid (fun (h : 1073741824 ≤ E) => (show wf rn = none by
          rw [if_pos h] at hws
          have := HNK.out hws (rn - (k + 1))
          rwa [show k + 1 + (rn - (k + 1)) = rn by omega] at this))
        have HYE := hid (fun (h : ¬ 1073741824 ≤ E) => (show wf (k + 1) = some (E + wTm times k (timeOf th ph sh l)) by rw [hws, if_neg h]))
        clear hws
        go_wp2_with fail
        by_cases hen : 1073741824 ≤ E
        · have HZ := hid (HNO.out hen)
          refine wp_region_held_drew (S := fun w' => (∀ b o, b < wr.heap.size → w'.cell? ⟨b, o, none⟩ = wr.cell? ⟨b, o, none⟩) ∧ wr.heap.size ≤ w'.heap.size ∧ Ext wr w') (by kernel_rfl) ?hS0 (fun hHeld => ?_)
          case hS0 => exact ⟨fun _ _ _ => rfl, Nat.le_refl _, Ext.drew (Ext.refl _)⟩
          refine wpAnyH_take (i := 0) (oi := _) (v := ?v0qa) rfl (by kernel_rfl) (by kernel_rfl) (by kernel_rfl) (fun _ _ _ h => h) (Or.inl ⟨by rfl, ?y0qa⟩) (by assumption) ?r0qa
          case y0qa => (intro w' hSw; (try dsimp only at hSw); go_simp; (try with_reducible rfl))
          try simp only [Act.put, List.getElem_toArray, List.getElem_cons_zero, List.getElem_cons_succ, List.setIfInBounds_toArray, List.set_cons_zero, List.set_cons_succ]
          refine wpAnyH_take (i := 1) (oi := _) (v := ?v1qa) rfl (by kernel_rfl) (by kernel_rfl) (by kernel_rfl) (fun _ _ _ h => h) (Or.inl ⟨by rfl, ?y1qa⟩) (by assumption) ?r1qa
          case y1qa => (intro w' hSw; (try dsimp only at hSw); go_simp; (try with_reducible rfl))
          try simp only [Act.put, List.getElem_toArray, List.getElem_cons_zero, List.getElem_cons_succ, List.setIfInBounds_toArray, List.set_cons_zero, List.set_cons_succ]
          refine wpAnyH_take (i := 2) (oi := _) (v := ?v2qa) rfl (by kernel_rfl) (by kernel_rfl) (by kernel_rfl) (fun _ _ _ h => h) (Or.inl ⟨by rfl, ?y2qa⟩) (by assumption) ?r2qa
          case y2qa => (intro w' hSw; (try dsimp only at hSw); go_simp; (try with_reducible rfl))
          try simp only [Act.put, List.getElem_toArray, List.getElem_cons_zero, List.getElem_cons_succ, List.setIfInBounds_toArray, List.set_cons_zero, List.set_cons_succ]
          refine wpAnyH_take (i := 3) (oi := _) (v := ?v3qa) rfl (by kernel_rfl) (by kernel_rfl) (by kernel_rfl) (fun _ _ _ h => h) (Or.inl ⟨by rfl, ?y3qa⟩) (by assumption) ?r3qa
          case y3qa => (intro w' hSw; (try dsimp only at hSw); go_simp; (try with_reducible rfl))
          try simp only [Act.put, List.getElem_toArray, List.getElem_cons_zero, List.getElem_cons_succ, List.setIfInBounds_toArray, List.set_cons_zero, List.set_cons_succ]
          refine wpAnyH_take (i := 4) (oi := _) (v := ?v4qa) rfl (by kernel_rfl) (by kernel_rfl) (by kernel_rfl) (fun _ _ _ h => h) (Or.inl ⟨by rfl, ?y4qa⟩) (by assumption) ?r4qa
          case y4qa => (intro w' hSw; (try dsimp only at hSw); go_simp; (try with_reducible rfl))
          try simp only [Act.put, List.getElem_toArray, List.getElem_cons_zero, List.getElem_cons_succ, List.setIfInBounds_toArray, List.set_cons_zero, List.set_cons_succ]
          refine wpAnyH_take (i := 5) (oi := _) (v := ?v5qa) rfl (by kernel_rfl) (by kernel_rfl) (by kernel_rfl) (fun _ _ _ h => h) (Or.inl ⟨by rfl, ?y5qa⟩) (by assumption) ?r5qa
          case y5qa => (intro w' hSw; (try dsimp only at hSw); go_simp; (try with_reducible rfl))
          try simp only [Act.put, List.getElem_toArray, List.getElem_cons_zero, List.getElem_cons_succ, List.setIfInBounds_toArray, List.set_cons_zero, List.set_cons_succ]
          refine wpAnyH_take (i := 6) (oi := _) (v := ?v6qa) rfl (by kernel_rfl) (by kernel_rfl) (by kernel_rfl) (fun _ _ _ h => h) (Or.inl ⟨by rfl, ?y6qa⟩) (by assumption) ?r6qa
          case y6qa => (intro w' hSw; (try dsimp only at hSw); go_simp; (try with_reducible rfl))
          try simp only [Act.put, List.getElem_toArray, List.getElem_cons_zero, List.getElem_cons_succ, List.setIfInBounds_toArray, List.set_cons_zero, List.set_cons_succ]
          refine wpAnyH_take (i := 7) (oi := _) (v := ?v7qa) rfl (by kernel_rfl) (by kernel_rfl) (by kernel_rfl) (fun _ _ _ h => h) (Or.inl ⟨by rfl, ?y7qa⟩) (by assumption) ?r7qa
          case y7qa => (intro w' hSw; (try dsimp only at hSw); go_simp; (try with_reducible rfl))
          try simp only [Act.put, List.getElem_toArray, List.getElem_cons_zero, List.getElem_cons_succ, List.setIfInBounds_toArray, List.set_cons_zero, List.set_cons_succ]
          refine wpAnyH_take (i := 8) (oi := _) (v := ?v8qa) rfl (by kernel_rfl) (by kernel_rfl) (by kernel_rfl) (fun _ _ _ h => h) (Or.inl ⟨by rfl, ?y8qa⟩) (by assumption) ?r8qa
          case y8qa => (intro w' hSw; (try dsimp only at hSw); go_simp; (try with_reducible rfl))
          try simp only [Act.put, List.getElem_toArray, List.getElem_cons_zero, List.getElem_cons_succ, List.setIfInBounds_toArray, List.set_cons_zero, List.set_cons_succ]
          refine wpAnyH_ready (rs := [9]) (by kernel_rfl) (by simp) ?_
          refine AllReadyH.cons (o := _) rfl (fun K hK => ?_) AllReadyH.nil
          go_simp
          refine (HEN.out _ _ _ _ _ _ _ _ (HOP.out.ext (Ext.drew (Ext.refl wr)))).mono ?_
          rintro e w4 ⟨rfl, hE2⟩
          have hx : Ext wr w4 := (Ext.drew (Ext.refl wr)).trans hE2
          have hC := kcell (w1 := wr.drew) (W := wr) (n := wr.heap.size) (fun _ _ _ => rfl) (Nat.le_refl _) hE2
          clear hHeld
          dsimp only
          refine hK.out _ _ ⟨hC, hx.size, hx⟩ (fun hHeld => ?_)
          clear hK K
          try simp only [Act.put, List.getElem_toArray, List.getElem_cons_zero, List.getElem_cons_succ, List.setIfInBounds_toArray, List.set_cons_zero, List.set_cons_succ]
          refine wpAnyH_take (i := 10) (oi := _) (v := ?v10qa) rfl (by kernel_rfl) (by kernel_rfl) (by kernel_rfl) (fun _ _ _ h => h) (Or.inl ⟨by rfl, ?y10qa⟩) (by assumption) ?r10qa
          case y10qa => (intro w' hSw; (try dsimp only at hSw); go_simp; (try with_reducible rfl))
          try simp only [Act.put, List.getElem_toArray, List.getElem_cons_zero, List.getElem_cons_succ, List.setIfInBounds_toArray, List.set_cons_zero, List.set_cons_succ]
          refine wpAnyH_done (by kernel_rfl) ?_ _
          have hE4 := hE.trans hx
          have hz4 := hx.size
          clear hHeld hE2
          go_wp2_with fail
          go_wp2
          go_ret
          exact ⟨ret_int (by rw [HZ.out]; rfl), hE4⟩
        · have hle : E ≤ 2880 := by omega
          have HSO := hid (HYE.out (by omega))
          by_cases hkt : k < tn
          · obtain ⟨tb, toff, rfl, htb, q3⟩ := (HT.out.ext hE).at_ HTN.out hkt
            have htbd := HTB.out k (by have := HTN.out; omega)
            have HWT := hid (wTm_yes (hi := timeOf th ph sh l) (show k < times.length by have := HTN.out; omega))
            obtain ⟨y, hy⟩ : ∃ y, times.getD k 0 = y := ⟨_, rfl⟩
            rw [hy] at q3 htbd HWT
            clear hy
            have HSM := hid (HSO.out.trans (by rw [HWT.out]))
            have hkt1 : (k : Int) < (tn : Int) := by omega
            refine wp_region_held_drew (S := fun w' => (∀ b o, b < wr.heap.size → w'.cell? ⟨b, o, none⟩ = wr.cell? ⟨b, o, none⟩) ∧ wr.heap.size ≤ w'.heap.size ∧ Ext wr w') (by kernel_rfl) ?hS0 (fun hHeld => ?_)
            case hS0 => exact ⟨fun _ _ _ => rfl, Nat.le_refl _, Ext.drew (Ext.refl _)⟩
            refine wpAnyH_take (i := 0) (oi := _) (v := ?v0qb) rfl (by kernel_rfl) (by kernel_rfl) (by kernel_rfl) (fun _ _ _ h => h) (Or.inl ⟨by rfl, ?y0qb⟩) (by assumption) ?r0qb
            case y0qb => (intro w' hSw; (try dsimp only at hSw); go_simp; (try with_reducible rfl))
            try simp only [Act.put, List.getElem_toArray, List.getElem_cons_zero, List.getElem_cons_succ, List.setIfInBounds_toArray, List.set_cons_zero, List.set_cons_succ]
            refine wpAnyH_take (i := 1) (oi := _) (v := ?v1qb) rfl (by kernel_rfl) (by kernel_rfl) (by kernel_rfl) (fun _ _ _ h => h) (Or.inl ⟨by rfl, ?y1qb⟩) (by assumption) ?r1qb
            case y1qb => (intro w' hSw; (try dsimp only at hSw); go_simp; (try with_reducible rfl))
            try simp only [Act.put, List.getElem_toArray, List.getElem_cons_zero, List.getElem_cons_succ, List.setIfInBounds_toArray, List.set_cons_zero, List.set_cons_succ]
            refine wpAnyH_take (i := 2) (oi := _) (v := ?v2qb) rfl (by kernel_rfl) (by kernel_rfl) (by kernel_rfl) (fun _ _ _ h => h) (Or.inl ⟨by rfl, ?y2qb⟩) (by assumption) ?r2qb
            case y2qb => (intro w' hSw; (try dsimp only at hSw); go_simp; (try with_reducible rfl))
            try simp only [Act.put, List.getElem_toArray, List.getElem_cons_zero, List.getElem_cons_succ, List.setIfInBounds_toArray, List.set_cons_zero, List.set_cons_succ]
            refine wpAnyH_take (i := 3) (oi := _) (v := ?v3qb) rfl (by kernel_rfl) (by kernel_rfl) (by kernel_rfl) (fun _ _ _ h => h) (Or.inl ⟨by rfl, ?y3qb⟩) (by assumption) ?r3qb
            case y3qb => (intro w' hSw; (try dsimp only at hSw); go_simp; (try with_reducible rfl))
            try simp only [Act.put, List.getElem_toArray, List.getElem_cons_zero, List.getElem_cons_succ, List.setIfInBounds_toArray, List.set_cons_zero, List.set_cons_succ]
            refine wpAnyH_take (i := 4) (oi := _) (v := ?v4qb) rfl (by kernel_rfl) (by kernel_rfl) (by kernel_rfl) (fun _ _ _ h => h) (Or.inl ⟨by rfl, ?y4qb⟩) (by assumption) ?r4qb
            case y4qb => (intro w' hSw; (try dsimp only at hSw); go_simp; (try with_reducible rfl))
            try simp only [Act.put, List.getElem_toArray, List.getElem_cons_zero, List.getElem_cons_succ, List.setIfInBounds_toArray, List.set_cons_zero, List.set_cons_succ]
            refine wpAnyH_take (i := 5) (oi := _) (v := ?v5qb) rfl (by kernel_rfl) (by kernel_rfl) (by kernel_rfl) (fun _ _ _ h => h) (Or.inl ⟨by rfl, ?y5qb⟩) (by assumption) ?r5qb
            case y5qb => (intro w' hSw; (try dsimp only at hSw); go_simp; (try with_reducible rfl))
            try simp only [Act.put, List.getElem_toArray, List.getElem_cons_zero, List.getElem_cons_succ, List.setIfInBounds_toArray, List.set_cons_zero, List.set_cons_succ]
            refine wpAnyH_take (i := 6) (oi := _) (v := ?v6qb) rfl (by kernel_rfl) (by kernel_rfl) (by kernel_rfl) (fun _ _ _ h => h) (Or.inl ⟨by rfl, ?y6qb⟩) (by assumption) ?r6qb
            case y6qb => (intro w' hSw; (try dsimp only at hSw); go_simp; (try with_reducible rfl))
            try simp only [Act.put, List.getElem_toArray, List.getElem_cons_zero, List.getElem_cons_succ, List.setIfInBounds_toArray, List.set_cons_zero, List.set_cons_succ]
            refine wpAnyH_take (i := 7) (oi := _) (v := ?v7qb) rfl (by kernel_rfl) (by kernel_rfl) (by kernel_rfl) (fun _ _ _ h => h) (Or.inl ⟨by rfl, ?y7qb⟩) (by assumption) ?r7qb
            case y7qb => (intro w' hSw; (try dsimp only at hSw); go_simp; (try with_reducible rfl))
            try simp only [Act.put, List.getElem_toArray, List.getElem_cons_zero, List.getElem_cons_succ, List.setIfInBounds_toArray, List.set_cons_zero, List.set_cons_succ]
            refine wpAnyH_take (i := 8) (oi := _) (v := ?v8qb) rfl (by kernel_rfl) (by kernel_rfl) (by kernel_rfl) (fun _ _ _ h => h) (Or.inl ⟨by rfl, ?y8qb⟩) (by assumption) ?r8qb
            case y8qb => (intro w' hSw; (try dsimp only at hSw); go_simp; (try with_reducible rfl))
            try simp only [Act.put, List.getElem_toArray, List.getElem_cons_zero, List.getElem_cons_succ, List.setIfInBounds_toArray, List.set_cons_zero, List.set_cons_succ]
            refine wpAnyH_ready (rs := [9]) (by kernel_rfl) (by simp) ?_
            refine AllReadyH.cons (o := _) rfl (fun K hK => ?_) AllReadyH.nil
            go_simp
            refine (HEN.out _ _ _ _ _ _ _ _ (HOP.out.ext (Ext.drew (Ext.refl wr)))).mono ?_
            rintro e w4 ⟨rfl, hE2⟩
            have hx : Ext wr w4 := (Ext.drew (Ext.refl wr)).trans hE2
            have hC := kcell (w1 := wr.drew) (W := wr) (n := wr.heap.size) (fun _ _ _ => rfl) (Nat.le_refl _) hE2
            clear hHeld
            dsimp only
            refine hK.out _ _ ⟨hC, hx.size, hx⟩ (fun hHeld => ?_)
            clear hK K
            try simp only [Act.put, List.getElem_toArray, List.getElem_cons_zero, List.getElem_cons_succ, List.setIfInBounds_toArray, List.set_cons_zero, List.set_cons_succ]
            refine wpAnyH_take (i := 10) (oi := _) (v := ?v10qb) rfl (by kernel_rfl) (by kernel_rfl) (by kernel_rfl) (fun _ _ _ h => h) (Or.inl ⟨by rfl, ?y10qb⟩) (by assumption) ?r10qb
            case y10qb => (intro w' hSw; (try dsimp only at hSw); go_simp; (try with_reducible rfl))
            try simp only [Act.put, List.getElem_toArray, List.getElem_cons_zero, List.getElem_cons_succ, List.setIfInBounds_toArray, List.set_cons_zero, List.set_cons_succ]
            refine wpAnyH_done (by kernel_rfl) ?_ _
            have hE4 := hE.trans hx
            have hz4 := hx.size
            clear hHeld hE2
            go_wp2_with fail
            refine wp_region_held_drew (S := fun w' => (∀ b o, b < wr.heap.size → w'.cell? ⟨b, o, none⟩ = wr.cell? ⟨b, o, none⟩) ∧ w4.heap.size ≤ w'.heap.size ∧ Ext w4 w') (by kernel_rfl) ?hS0 (fun hHeld => ?_)
            case hS0 => exact ⟨hC, Nat.le_refl _, Ext.drew (Ext.refl _)⟩
            refine wpAnyH_take (i := 0) (oi := _) (v := ?v0qc) rfl (by kernel_rfl) (by kernel_rfl) (by kernel_rfl) (fun _ _ _ h => h) (Or.inl ⟨by rfl, ?y0qc⟩) (by assumption) ?r0qc
            case y0qc => (intro w' hSw; (try dsimp only at hSw); go_simp; (try with_reducible rfl))
            try simp only [Act.put, List.getElem_toArray, List.getElem_cons_zero, List.getElem_cons_succ, List.setIfInBounds_toArray, List.set_cons_zero, List.set_cons_succ]
            refine wpAnyH_take (i := 1) (oi := _) (v := ?v1qc) rfl (by kernel_rfl) (by kernel_rfl) (by kernel_rfl) (fun _ _ _ h => h) (Or.inl ⟨by rfl, ?y1qc⟩) (by assumption) ?r1qc
            case y1qc => (intro w' hSw; (try dsimp only at hSw); go_simp; (try with_reducible rfl))
            try simp only [Act.put, List.getElem_toArray, List.getElem_cons_zero, List.getElem_cons_succ, List.setIfInBounds_toArray, List.set_cons_zero, List.set_cons_succ]
            refine wpAnyH_take (i := 2) (oi := _) (v := ?v2qc) rfl (by kernel_rfl) (by kernel_rfl) (by kernel_rfl) (fun _ _ _ h => h) (Or.inl ⟨by rfl, ?y2qc⟩) (by assumption) ?r2qc
            case y2qc => (intro w' hSw; (try dsimp only at hSw); go_simp; (try with_reducible rfl))
            try simp only [Act.put, List.getElem_toArray, List.getElem_cons_zero, List.getElem_cons_succ, List.setIfInBounds_toArray, List.set_cons_zero, List.set_cons_succ]
            refine wpAnyH_take (i := 3) (oi := _) (v := ?v3qc) rfl (by kernel_rfl) (by kernel_rfl) (by kernel_rfl) (fun _ _ _ h => h) (Or.inl ⟨by rfl, ?y3qc⟩) (by assumption) ?r3qc
            case y3qc => (intro w' hSw; (try dsimp only at hSw); go_simp; (try with_reducible rfl))
            try simp only [Act.put, List.getElem_toArray, List.getElem_cons_zero, List.getElem_cons_succ, List.setIfInBounds_toArray, List.set_cons_zero, List.set_cons_succ]
            refine wpAnyH_take (i := 4) (oi := _) (v := ?v4qc) rfl (by kernel_rfl) (by kernel_rfl) (by kernel_rfl) (fun _ _ _ h => h) (Or.inl ⟨by rfl, ?y4qc⟩) (by assumption) ?r4qc
            case y4qc => (intro w' hSw; (try dsimp only at hSw); go_simp; (try with_reducible rfl))
            try simp only [Act.put, List.getElem_toArray, List.getElem_cons_zero, List.getElem_cons_succ, List.setIfInBounds_toArray, List.set_cons_zero, List.set_cons_succ]
            refine wpAnyH_take (i := 5) (oi := _) (v := ?v5qc) rfl (by kernel_rfl) (by kernel_rfl) (by kernel_rfl) (fun _ _ _ h => h) (Or.inl ⟨by rfl, ?y5qc⟩) (by assumption) ?r5qc
            case y5qc => (intro w' hSw; (try dsimp only at hSw); go_simp; (try with_reducible rfl))
            try simp only [Act.put, List.getElem_toArray, List.getElem_cons_zero, List.getElem_cons_succ, List.setIfInBounds_toArray, List.set_cons_zero, List.set_cons_succ]
            refine wpAnyH_ready (rs := [6]) (by kernel_rfl) (by simp) ?_
            refine AllReadyH.cons (o := _) rfl (fun K hK => ?_) AllReadyH.nil
            go_simp
            have hfd := field_hi (timeOf tl pl sl l) (timeOf th ph sh l)
            refine (HSPN.out _ (hE4.drew)).mono ?_
            rintro e w5 ⟨rfl, hE5⟩
            have hx5 : Ext w4 w5 := (Ext.drew (Ext.refl w4)).trans hE5
            have hC5 := kcell (w1 := w4.drew) (W := wr) (n := wr.heap.size) hC hz4 hE5
            clear hHeld
            dsimp only
            refine hK.out _ _ ⟨hC5, hx5.size, hx5⟩ (fun hHeld => ?_)
            clear hK K
            try simp only [Act.put, List.getElem_toArray, List.getElem_cons_zero, List.getElem_cons_succ, List.setIfInBounds_toArray, List.set_cons_zero, List.set_cons_succ]
            refine wpAnyH_take (i := 7) (oi := _) (v := ?v7qc) rfl (by kernel_rfl) (by kernel_rfl) (by kernel_rfl) (fun _ _ _ h => h) (Or.inl ⟨by rfl, ?y7qc⟩) (by assumption) ?r7qc
            case y7qc => (intro w' hSw; (try dsimp only at hSw); go_simp; (try with_reducible rfl))
            try simp only [Act.put, List.getElem_toArray, List.getElem_cons_zero, List.getElem_cons_succ, List.setIfInBounds_toArray, List.set_cons_zero, List.set_cons_succ]
            refine wpAnyH_take (i := 8) (oi := _) (v := ?v8qc) rfl (by kernel_rfl) (by kernel_rfl) (by kernel_rfl) (fun _ _ _ h => h) (Or.inl ⟨by rfl, ?y8qc⟩) (by assumption) ?r8qc
            case y8qc => (intro w' hSw; (try dsimp only at hSw); go_simp; (try with_reducible rfl))
            try simp only [Act.put, List.getElem_toArray, List.getElem_cons_zero, List.getElem_cons_succ, List.setIfInBounds_toArray, List.set_cons_zero, List.set_cons_succ]
            refine wpAnyH_done (by kernel_rfl) ?_ _
            have hE6 := hE4.trans hx5
            have hz5 := hx5.size
            clear hHeld hE5
            have J0 := hid (blk_ext HB0.out (hx.trans hx5))
            have J1 := hid (blk_ext HB1.out (hx.trans hx5))
            go_wp2
            go_roundw
            case rel => exact ⟨hE6, J0, J1, k + 1, _, by omega, by go_num, rfl, HSM.out, by omega, by omega⟩
            case measure => simp [intOf]; omega
          · have HWT := hid (wTm_no (hi := timeOf th ph sh l) (show ¬ k < times.length by have := HTN.out; omega))
            have HSM := hid (HSO.out.trans (by rw [HWT.out]))
            have hkt1 : decide ((k : Int) < (tn : Int)) = false := decide_eq_false (by omega)
            refine wp_region_held_drew (S := fun w' => (∀ b o, b < wr.heap.size → w'.cell? ⟨b, o, none⟩ = wr.cell? ⟨b, o, none⟩) ∧ wr.heap.size ≤ w'.heap.size ∧ Ext wr w') (by kernel_rfl) ?hS0 (fun hHeld => ?_)
            case hS0 => exact ⟨fun _ _ _ => rfl, Nat.le_refl _, Ext.drew (Ext.refl _)⟩
            refine wpAnyH_take (i := 0) (oi := _) (v := ?v0qd) rfl (by kernel_rfl) (by kernel_rfl) (by kernel_rfl) (fun _ _ _ h => h) (Or.inl ⟨by rfl, ?y0qd⟩) (by assumption) ?r0qd
            case y0qd => (intro w' hSw; (try dsimp only at hSw); go_simp; (try with_reducible rfl))
            try simp only [Act.put, List.getElem_toArray, List.getElem_cons_zero, List.getElem_cons_succ, List.setIfInBounds_toArray, List.set_cons_zero, List.set_cons_succ]
            refine wpAnyH_take (i := 1) (oi := _) (v := ?v1qd) rfl (by kernel_rfl) (by kernel_rfl) (by kernel_rfl) (fun _ _ _ h => h) (Or.inl ⟨by rfl, ?y1qd⟩) (by assumption) ?r1qd
            case y1qd => (intro w' hSw; (try dsimp only at hSw); go_simp; (try with_reducible rfl))
            try simp only [Act.put, List.getElem_toArray, List.getElem_cons_zero, List.getElem_cons_succ, List.setIfInBounds_toArray, List.set_cons_zero, List.set_cons_succ]
            refine wpAnyH_take (i := 2) (oi := _) (v := ?v2qd) rfl (by kernel_rfl) (by kernel_rfl) (by kernel_rfl) (fun _ _ _ h => h) (Or.inl ⟨by rfl, ?y2qd⟩) (by assumption) ?r2qd
            case y2qd => (intro w' hSw; (try dsimp only at hSw); go_simp; (try with_reducible rfl))
            try simp only [Act.put, List.getElem_toArray, List.getElem_cons_zero, List.getElem_cons_succ, List.setIfInBounds_toArray, List.set_cons_zero, List.set_cons_succ]
            refine wpAnyH_take (i := 3) (oi := _) (v := ?v3qd) rfl (by kernel_rfl) (by kernel_rfl) (by kernel_rfl) (fun _ _ _ h => h) (Or.inl ⟨by rfl, ?y3qd⟩) (by assumption) ?r3qd
            case y3qd => (intro w' hSw; (try dsimp only at hSw); go_simp; (try with_reducible rfl))
            try simp only [Act.put, List.getElem_toArray, List.getElem_cons_zero, List.getElem_cons_succ, List.setIfInBounds_toArray, List.set_cons_zero, List.set_cons_succ]
            refine wpAnyH_take (i := 4) (oi := _) (v := ?v4qd) rfl (by kernel_rfl) (by kernel_rfl) (by kernel_rfl) (fun _ _ _ h => h) (Or.inl ⟨by rfl, ?y4qd⟩) (by assumption) ?r4qd
            case y4qd => (intro w' hSw; (try dsimp only at hSw); go_simp; (try with_reducible rfl))
            try simp only [Act.put, List.getElem_toArray, List.getElem_cons_zero, List.getElem_cons_succ, List.setIfInBounds_toArray, List.set_cons_zero, List.set_cons_succ]
            refine wpAnyH_take (i := 5) (oi := _) (v := ?v5qd) rfl (by kernel_rfl) (by kernel_rfl) (by kernel_rfl) (fun _ _ _ h => h) (Or.inl ⟨by rfl, ?y5qd⟩) (by assumption) ?r5qd
            case y5qd => (intro w' hSw; (try dsimp only at hSw); go_simp; (try with_reducible rfl))
            try simp only [Act.put, List.getElem_toArray, List.getElem_cons_zero, List.getElem_cons_succ, List.setIfInBounds_toArray, List.set_cons_zero, List.set_cons_succ]
            refine wpAnyH_take (i := 6) (oi := _) (v := ?v6qd) rfl (by kernel_rfl) (by kernel_rfl) (by kernel_rfl) (fun _ _ _ h => h) (Or.inl ⟨by rfl, ?y6qd⟩) (by assumption) ?r6qd
            case y6qd => (intro w' hSw; (try dsimp only at hSw); go_simp; (try with_reducible rfl))
            try simp only [Act.put, List.getElem_toArray, List.getElem_cons_zero, List.getElem_cons_succ, List.setIfInBounds_toArray, List.set_cons_zero, List.set_cons_succ]
            refine wpAnyH_take (i := 7) (oi := _) (v := ?v7qd) rfl (by kernel_rfl) (by kernel_rfl) (by kernel_rfl) (fun _ _ _ h => h) (Or.inl ⟨by rfl, ?y7qd⟩) (by assumption) ?r7qd
            case y7qd => (intro w' hSw; (try dsimp only at hSw); go_simp; (try with_reducible rfl))
            try simp only [Act.put, List.getElem_toArray, List.getElem_cons_zero, List.getElem_cons_succ, List.setIfInBounds_toArray, List.set_cons_zero, List.set_cons_succ]
            refine wpAnyH_take (i := 8) (oi := _) (v := ?v8qd) rfl (by kernel_rfl) (by kernel_rfl) (by kernel_rfl) (fun _ _ _ h => h) (Or.inl ⟨by rfl, ?y8qd⟩) (by assumption) ?r8qd
            case y8qd => (intro w' hSw; (try dsimp only at hSw); go_simp; (try with_reducible rfl))
            try simp only [Act.put, List.getElem_toArray, List.getElem_cons_zero, List.getElem_cons_succ, List.setIfInBounds_toArray, List.set_cons_zero, List.set_cons_succ]
            refine wpAnyH_ready (rs := [9]) (by kernel_rfl) (by simp) ?_
            refine AllReadyH.cons (o := _) rfl (fun K hK => ?_) AllReadyH.nil
            go_simp
            refine (HEN.out _ _ _ _ _ _ _ _ (HOP.out.ext (Ext.drew (Ext.refl wr)))).mono ?_
            rintro e w4 ⟨rfl, hE2⟩
            have hx : Ext wr w4 := (Ext.drew (Ext.refl wr)).trans hE2
            have hC := kcell (w1 := wr.drew) (W := wr) (n := wr.heap.size) (fun _ _ _ => rfl) (Nat.le_refl _) hE2
            clear hHeld
            dsimp only
            refine hK.out _ _ ⟨hC, hx.size, hx⟩ (fun hHeld => ?_)
            clear hK K
            try simp only [Act.put, List.getElem_toArray, List.getElem_cons_zero, List.getElem_cons_succ, List.setIfInBounds_toArray, List.set_cons_zero, List.set_cons_succ]
            refine wpAnyH_take (i := 10) (oi := _) (v := ?v10qd) rfl (by kernel_rfl) (by kernel_rfl) (by kernel_rfl) (fun _ _ _ h => h) (Or.inl ⟨by rfl, ?y10qd⟩) (by assumption) ?r10qd
            case y10qd => (intro w' hSw; (try dsimp only at hSw); go_simp; (try with_reducible rfl))
            try simp only [Act.put, List.getElem_toArray, List.getElem_cons_zero, List.getElem_cons_succ, List.setIfInBounds_toArray, List.set_cons_zero, List.set_cons_succ]
            refine wpAnyH_done (by kernel_rfl) ?_ _
            have hE4 := hE.trans hx
            have hz4 := hx.size
            clear hHeld hE2
            go_wp2_with fail
            refine wp_region_held_drew (S := fun w' => (∀ b o, b < wr.heap.size → w'.cell? ⟨b, o, none⟩ = wr.cell? ⟨b, o, none⟩) ∧ w4.heap.size ≤ w'.heap.size ∧ Ext w4 w') (by kernel_rfl) ?hS0 (fun hHeld => ?_)
            case hS0 => exact ⟨hC, Nat.le_refl _, Ext.drew (Ext.refl _)⟩
            refine wpAnyH_take (i := 0) (oi := _) (v := ?v0qe) rfl (by kernel_rfl) (by kernel_rfl) (by kernel_rfl) (fun _ _ _ h => h) (Or.inl ⟨by rfl, ?y0qe⟩) (by assumption) ?r0qe
            case y0qe => (intro w' hSw; (try dsimp only at hSw); go_simp; (try with_reducible rfl))
            try simp only [Act.put, List.getElem_toArray, List.getElem_cons_zero, List.getElem_cons_succ, List.setIfInBounds_toArray, List.set_cons_zero, List.set_cons_succ]
            refine wpAnyH_take (i := 1) (oi := _) (v := ?v1qe) rfl (by kernel_rfl) (by kernel_rfl) (by kernel_rfl) (fun _ _ _ h => h) (Or.inl ⟨by rfl, ?y1qe⟩) (by assumption) ?r1qe
            case y1qe => (intro w' hSw; (try dsimp only at hSw); go_simp; (try with_reducible rfl))
            try simp only [Act.put, List.getElem_toArray, List.getElem_cons_zero, List.getElem_cons_succ, List.setIfInBounds_toArray, List.set_cons_zero, List.set_cons_succ]
            refine wpAnyH_take (i := 2) (oi := _) (v := ?v2qe) rfl (by kernel_rfl) (by kernel_rfl) (by kernel_rfl) (fun _ _ _ h => h) (Or.inl ⟨by rfl, ?y2qe⟩) (by assumption) ?r2qe
            case y2qe => (intro w' hSw; (try dsimp only at hSw); go_simp; (try with_reducible rfl))
            try simp only [Act.put, List.getElem_toArray, List.getElem_cons_zero, List.getElem_cons_succ, List.setIfInBounds_toArray, List.set_cons_zero, List.set_cons_succ]
            refine wpAnyH_take (i := 3) (oi := _) (v := ?v3qe) rfl (by kernel_rfl) (by kernel_rfl) (by kernel_rfl) (fun _ _ _ h => h) (Or.inl ⟨by rfl, ?y3qe⟩) (by assumption) ?r3qe
            case y3qe => (intro w' hSw; (try dsimp only at hSw); go_simp; (try with_reducible rfl))
            try simp only [Act.put, List.getElem_toArray, List.getElem_cons_zero, List.getElem_cons_succ, List.setIfInBounds_toArray, List.set_cons_zero, List.set_cons_succ]
            refine wpAnyH_take (i := 4) (oi := _) (v := ?v4qe) rfl (by kernel_rfl) (by kernel_rfl) (by kernel_rfl) (fun _ _ _ h => h) (Or.inl ⟨by rfl, ?y4qe⟩) (by assumption) ?r4qe
            case y4qe => (intro w' hSw; (try dsimp only at hSw); go_simp; (try with_reducible rfl))
            try simp only [Act.put, List.getElem_toArray, List.getElem_cons_zero, List.getElem_cons_succ, List.setIfInBounds_toArray, List.set_cons_zero, List.set_cons_succ]
            refine wpAnyH_take (i := 5) (oi := _) (v := ?v5qe) rfl (by kernel_rfl) (by kernel_rfl) (by kernel_rfl) (fun _ _ _ h => h) (Or.inl ⟨by rfl, ?y5qe⟩) (by assumption) ?r5qe
            case y5qe => (intro w' hSw; (try dsimp only at hSw); go_simp; (try with_reducible rfl))
            try simp only [Act.put, List.getElem_toArray, List.getElem_cons_zero, List.getElem_cons_succ, List.setIfInBounds_toArray, List.set_cons_zero, List.set_cons_succ]
            refine wpAnyH_ready (rs := [6]) (by kernel_rfl) (by simp) ?_
            refine AllReadyH.cons (o := _) rfl (fun K hK => ?_) AllReadyH.nil
            go_simp
            have hfd := field_hi (timeOf tl pl sl l) (timeOf th ph sh l)
            refine (HSPN.out _ (hE4.drew)).mono ?_
            rintro e w5 ⟨rfl, hE5⟩
            have hx5 : Ext w4 w5 := (Ext.drew (Ext.refl w4)).trans hE5
            have hC5 := kcell (w1 := w4.drew) (W := wr) (n := wr.heap.size) hC hz4 hE5
            clear hHeld
            dsimp only
            refine hK.out _ _ ⟨hC5, hx5.size, hx5⟩ (fun hHeld => ?_)
            clear hK K
            try simp only [Act.put, List.getElem_toArray, List.getElem_cons_zero, List.getElem_cons_succ, List.setIfInBounds_toArray, List.set_cons_zero, List.set_cons_succ]
            refine wpAnyH_take (i := 7) (oi := _) (v := ?v7qe) rfl (by kernel_rfl) (by kernel_rfl) (by kernel_rfl) (fun _ _ _ h => h) (Or.inl ⟨by rfl, ?y7qe⟩) (by assumption) ?r7qe
            case y7qe => (intro w' hSw; (try dsimp only at hSw); go_simp; (try with_reducible rfl))
            try simp only [Act.put, List.getElem_toArray, List.getElem_cons_zero, List.getElem_cons_succ, List.setIfInBounds_toArray, List.set_cons_zero, List.set_cons_succ]
            refine wpAnyH_take (i := 8) (oi := _) (v := ?v8qe) rfl (by kernel_rfl) (by kernel_rfl) (by kernel_rfl) (fun _ _ _ h => h) (Or.inl ⟨by rfl, ?y8qe⟩) (by assumption) ?r8qe
            case y8qe => (intro w' hSw; (try dsimp only at hSw); go_simp; (try with_reducible rfl))
            try simp only [Act.put, List.getElem_toArray, List.getElem_cons_zero, List.getElem_cons_succ, List.setIfInBounds_toArray, List.set_cons_zero, List.set_cons_succ]
            refine wpAnyH_done (by kernel_rfl) ?_ _
            have hE6 := hE4.trans hx5
            have hz5 := hx5.size
            clear hHeld hE5
            have J0 := hid (blk_ext HB0.out (hx.trans hx5))
            have J1 := hid (blk_ext HB1.out (hx.trans hx5))
            go_wp2
            go_roundw
            case rel => exact ⟨hE6, J0, J1, k + 1, _, by omega, by go_num, rfl, HSM.out, by omega, by omega⟩
            case measure => simp [intOf]; omega
    · obtain rfl : k = rn := by omega
      have HAE := hid (show a = wkEnd (wf k) by rw [HA.out]; rfl)
      go_wp2
      go_ret
      exact ⟨ret_int HAE.out, hE⟩
end Go.Proofs.Ytbfmcclbbeobkaa
