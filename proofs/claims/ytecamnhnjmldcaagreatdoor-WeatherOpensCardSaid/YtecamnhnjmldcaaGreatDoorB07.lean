/- The outlook. -/
import Derived.Test.YtecamnhnjmldcaaGreatDoorB05
import Derived.Test.YtecamnhnjmldcaaGreatDoorB06
set_option linter.unusedSimpArgs false
set_option linter.unusedVariables false
namespace Go.Proofs.YtecamnhnjmldcaaGreatDoor
open Go.RowKit
def numsK (seen : List Sg) (f : List (List Hr)) (k : Nat) : List Int := ((List.range k).filter fun i => allowB seen (f.getD i [])).map Int.ofNat
def scsK (seen : List Sg) (f : List (List Hr)) (k : Nat) : List (List Hr) := ((f.take k).filter (allowB seen)).map (obsM seen)
theorem numsK_step (seen : List Sg) (f : List (List Hr)) (k : Nat) : numsK seen f (k + 1) = if allowB seen (f.getD k []) then numsK seen f k ++ [(k : Int)] else numsK seen f k := by
  unfold numsK
  have e : [k].filter (fun i => allowB seen (f.getD i [])) = if allowB seen (f.getD k []) then [k] else [] := by simp only [List.filter_cons, List.filter_nil]
  rw [List.range_succ, List.filter_append, List.map_append, e]
  cases allowB seen (f.getD k [])
  · simp
  · rfl
theorem scsK_step (seen : List Sg) (f : List (List Hr)) (k : Nat) (hk : k < f.length) : scsK seen f (k + 1) = if allowB seen (f.getD k []) then scsK seen f k ++ [obsM seen (f.getD k [])] else scsK seen f k := by
  have e : f.getD k [] = f[k] := by simp [List.getD, List.getElem?_eq_getElem hk]
  unfold scsK
  rw [List.take_succ_eq_append_getElem hk, List.filter_append, List.map_append, e]
  cases h : allowB seen f[k] <;> simp [h]
theorem numsK_len (seen : List Sg) (f : List (List Hr)) (k : Nat) : (numsK seen f k).length ≤ k := by
  unfold numsK
  rw [List.length_map]
  exact Nat.le_trans (List.length_filter_le _ _) (by simp)
theorem scsK_len (seen : List Sg) (f : List (List Hr)) (k : Nat) : (scsK seen f k).length ≤ k := by
  unfold scsK
  rw [List.length_map]
  exact Nat.le_trans (List.length_filter_le _ _) (by simp; omega)
theorem infoI : (Tryz.prog.info? 3).map (fun i => (i.zero, i.size, i.bytes)) = some (some (.int .i64 0), 1, 8) := by kernel_rfl
/-- append of one number, in a list of operations. -/
theorem wpList_app1I {ops : Array Oper} {rest : List Oper} {o : Oper} {a : Act} {Q : Exit → Act → World → Prop} (w : World) (hg : o.guard = none) (s x : Operand)
    (hop : o.op = Op.call { callee := Callee.builtin Builtin.append, args := #[s, x], argTypes := #[86, 86] }) (B : Nat) (v : Value) (xs : List Int) (hs : a.eval s = v) (hown : Ownl 3 1 gInt w B v xs)
    (ad : Addr) (y : Int) (hx : a.eval x = .slice (some ad) 1 1) (hy : w.cell? ad = some (.int .i64 y)) (hl : xs.length ≤ 10000) (hB : B ≤ w.heap.size)
    (hK : ∀ v' w', Ownl 3 1 gInt w' B v' (xs ++ [y]) → w.grownBy w' v.ownBlock → wpList Tryz.prog ops Q rest (a.put o.dst v') w') : wpList Tryz.prog ops Q (o :: rest) a w := by
  obtain ⟨i0, hi, hz0, hz1, hz2⟩ := info_parts infoI
  refine wpList_append_own w hg s x 86 hop B 3 i0 (.int .i64 0) 1 8 Tryz.underlying86 hi hz0 hz1 hz2 rfl (by decide) v xs.length (xs.flatMap gInt) hs hown ad 1 1 [.int .i64 y] hx rfl ?_ (by intro u hu; simp at hu; subst hu; rfl) (by unfold maxLen; omega) (by omega) hB (fun v' w' h1 h2 _ => hK v' w' (Ownl.snoc h1) h2)
  intro j u hj
  cases j with
  | zero =>
    simp at hj
    subst hj
    have e : ad.add 0 = ad := by unfold Addr.add; simp
    rw [e]
    exact hy
  | succ j => simp at hj
/-- What newOutlook gives. -/
def OutIs (f : List (List Hr)) (seen : List Sg) (B : Nat) (w : World) (e : Ending) (w' : World) : Prop :=
  ∃ nv sv, e = .returned (.agg #[.int .i64 (hoursN f), nv, sv]) ∧ Ownl 3 1 gInt w' B nv (numsM seen f) ∧ OwnSc w' B sv (scsM seen f) ∧ Ext w w'
set_option maxHeartbeats 4000000 in
set_option maxRecDepth 100000 in
theorem newOut_any (f : List (List Hr)) (A : Option Addr) (n c : Nat) (hn : f.length = n) (hm : n ≤ 1000) (seen : List Sg) (SA : Option Addr) (m sc : Nat) (hl : seen.length = m) (hm2 : m ≤ 1000)
    (hh : ∀ x ∈ f, x.length ≤ 10000) (hok : ∀ x ∈ f, ∀ s ∈ seen, 0 ≤ s.hour ∧ s.hour < x.length) (w : World) (hf : ScsAt w A f) (hss : SgsAt w SA seen) :
    Calls Tryz.prog 84 #[.agg #[.slice A n c], .slice SA m sc] w (OutIs f seen w.heap.size w) := by
  have HS := hid hss
  have HL := hid hl
  have HN := hid hn
  have HF := hid hf
  have HH := hid hh
  have HOK := hid hok
  have HHO := hid (fun (W : World) (hW : Ext w W) => hours_any A n c f hn W (hf.ext hW) (by omega))
  have t1 := blk_last w (.cells #[.slice A n c] 24)
  have t2 := blk_last (w.alloc (.cells #[.slice A n c] 24)) (.cells #[.int .i64 0, .slice none 0 0, .slice none 0 0] 100)
  rw [World.size_alloc] at t2
  have B1 := hid (blk_old t1 (.cells #[.int .i64 0, .slice none 0 0, .slice none 0 0] 100))
  have B2 := hid t2
  clear hss hl hok hf hh hn t1 t2
  obtain ⟨N, hN⟩ : ∃ N, hoursN f = N := ⟨_, rfl⟩
  rw [hN] at HHO
  have HNN := hid hN
  clear hN
  go_enter Tryz.func84, Tryz.ntmps84
  go_wp2_with fail
  refine Calls.mono (HHO.out _ (by (repeat' (first | with_reducible assumption | with_reducible exact Ext.refl _ | with_reducible refine Ext.alloc ?_ _ | with_reducible refine Ext.set ?_ ?_ _ | with_reducible refine Ext.drew ?_ | with_reducible refine Ext.drewN ?_ _ | with_reducible refine Ext.trans ?_ (by assumption) | (dsimp only; omega))))) ?_
  rintro e w2 ⟨rfl, hE⟩
  have C1 := hid (show Blk _ _ _ _ from blk_ext B1.out hE)
  have C2 := hid (show Blk _ _ _ _ from blk_ext B2.out hE)
  have E2 : Ext w w2 := by (repeat' (first | with_reducible assumption | with_reducible exact Ext.refl _ | with_reducible refine Ext.alloc ?_ _ | with_reducible refine Ext.set ?_ ?_ _ | with_reducible refine Ext.drew ?_ | with_reducible refine Ext.drewN ?_ _ | with_reducible refine Ext.trans ?_ (by assumption) | (dsimp only; omega)))
  have k0 := C1.out.cell 0
  have z1 := C1.out.lt
  have z2 := C2.out.lt
  clear B1 B2 hE HHO
  simp only [List.getElem?_toArray, List.getElem?_cons_zero] at k0
  go_wp2
  go_loopw [15] (fun i wr => Ext w wr ∧ ∃ (k : Nat) (nv sv : Value), k ≤ n ∧ i = .int .i64 k ∧ Hid (Blk wr w2.heap.size 100 #[.int .i64 N, nv, sv]) ∧ Hid (Blk wr (w.heap.size + 1) 100 #[.int .i64 0, .slice none 0 0, .slice none 0 0]) ∧ Hid (Ownl 3 1 gInt wr (w2.heap.size + 1) nv (numsK seen f k)) ∧ Hid (OwnSc wr (w2.heap.size + 1) sv (scsK seen f k))) (fun i _ => n - (intOf i).toNat)
  case atStart =>
    exact ⟨by (repeat' (first | with_reducible assumption | with_reducible exact Ext.refl _ | with_reducible refine Ext.alloc ?_ _ | with_reducible refine Ext.set ?_ ?_ _ | with_reducible refine Ext.drew ?_ | with_reducible refine Ext.drewN ?_ _ | with_reducible refine Ext.trans ?_ (by assumption) | (dsimp only; omega))), 0, _, _, Nat.zero_le _, rfl, hid (Blk.new _ _ _), hid (C2.out.alloc _), hid (Ownl.nil _ _), hid (OwnSc.nil _ _)⟩
  case round =>
    obtain ⟨hE, k, nv, sv, hk, rfl, D1, D2, HV, HW⟩ := hrel
    have y1 := D1.out.lt
    have y2 := D2.out.lt
    have HLV := hid (numsK_len seen f k)
    have HLW := hid (scsK_len seen f k)
    obtain ⟨A1, c1, rfl, -, -, -⟩ := (HV.out.form (by decide) (fun _ => rfl) 0)
    obtain ⟨A2, c2, rfl, -, -, -⟩ := HW.out.form
    have HWB := hid (fun q hq => (HW.out.block q hq).2)
    clear k0 z1 C1 C2
    by_cases hlt : k < n
    · obtain ⟨b, off, rfl, hb0, A', c', ew, hcap, hhr⟩ := HF.out.at_ HN.out hlt
      have hb := Nat.lt_of_lt_of_le hb0 hE.size
      have e0 := (hE.cell hb0).trans ew
      clear ew
      have HH1 := hid (HH.out _ (mem_at f [] k (by rw [HN.out]; exact hlt)))
      have HOK1 := hid (HOK.out _ (mem_at f [] k (by rw [HN.out]; exact hlt)))
      have HST := hid (numsK_step seen f k)
      have HSS := hid (scsK_step seen f k (by rw [HN.out]; exact hlt))
      have HHR := hid hhr
      have HCA := hid hcap
      clear hcap hhr
      generalize f.getD k [] = x at *
      have HA := hid (fun (W : World) (hW : Ext wr W) (h0 : wr.heap.size < W.heap.size) (c0 : W.cell? ⟨wr.heap.size, 0, none⟩ = some (.slice A' x.length c')) => allSg_any 126 #[.pointer (some ⟨wr.heap.size, 0, none⟩)] (fun _ _ => by kernel_rfl) seen (fun s => inB s (x.getD s.hour.toNat zeroHr)) SA m sc HL.out (by omega) W ((HS.out.ext hE).ext hW)
        (fun s W' h1 h2 => newO1_any wr.heap.size x A' c' HH1.out s (HOK1.out s h2).1 (HOK1.out s h2).2 W' (((HHR.out.ext hE).ext hW).ext h1) (Nat.lt_of_lt_of_le h0 h1.size) ((h1.cell h0).trans c0)))
      have HOB := hid (fun (W : World) (hW : Ext w W) => observed_any x A' x.length c' rfl HH1.out seen SA m sc HL.out hm2 HOK1.out W (HHR.out.ext hW) (HS.out.ext hW))
      have HXL : ∃ xl, x.length = xl := ⟨_, rfl⟩
      obtain ⟨xl, hxl⟩ := HXL
      rw [hxl] at e0 HA HOB
      change Hid (∀ W, Ext wr W → wr.heap.size < W.heap.size → W.cell? ⟨wr.heap.size, 0, none⟩ = some (.slice A' xl c') → Calls _ _ _ _ fun e W' => e = .returned (.bool (allowB seen x)) ∧ Ext W W') at HA
      generalize hB : allowB seen x = B at *
      generalize numsK seen f k = ns at *
      generalize scsK seen f k = ss at *
      clear hxl hB HH1 HOK1 HHR
      go_wp2_with fail
      refine Calls.mono (HA.out _ (by (repeat' (first | with_reducible assumption | with_reducible exact Ext.refl _ | with_reducible refine Ext.alloc ?_ _ | with_reducible refine Ext.set ?_ ?_ _ | with_reducible refine Ext.drew ?_ | with_reducible refine Ext.drewN ?_ _ | with_reducible refine Ext.trans ?_ (by assumption) | (dsimp only; omega)))) (by simp) (by go_simp)) ?_
      rintro e w3 ⟨rfl, hE3⟩
      have X3 : Ext wr w3 := (ext_alloc1 _ _).trans hE3
      have F1 := hid (D1.out.ext X3)
      have F7 := hid (show Blk w3 wr.heap.size 92 #[.slice A' xl c'] from blk_ext (blk_last wr _) hE3)
      have V3 := hid (HV.out.ext X3)
      have W3 := hid (HW.out.ext X3)
      have F2 := hid (D2.out.ext X3)
      have HX3 := hid (hE.trans X3)
      have s3 := F7.out.lt
      have s31 := F1.out.lt
      have HKE := hid X3
      clear HA e0 hE3 X3 HV HW D1 D2
      cases B
      · dsimp only
        go_wp2
        go_roundw
        case rel => exact ⟨HX3.out, k + 1, _, _, by omega, by go_num, F1, F2, hid (by rw [HST.out]; exact V3.out), hid (by rw [HSS.out]; exact W3.out)⟩
        case measure => simp [intOf]; omega
      · dsimp only
        rw [if_pos rfl] at HST HSS
        have g1 := F1.out.cell 1
        simp only [List.getElem?_toArray, List.getElem?_cons_zero, List.getElem?_cons_succ] at g1
        go_wp2_with (at_builtin; refine Halt.mk ?_)
        unfold Halt
        refine wpList_app1I _ rfl _ _ rfl (w2.heap.size + 1) (.slice A1 ns.length c1) ns rfl (V3.out.ext (ext_alloc1 _ _)) ⟨w3.heap.size, 0, none⟩ k rfl (by go_simp) (by have := HLV.out; omega) (by simp; omega) ?_
        intro v4 w4 hO4 hg4
        have s2 := E2.size
        have VA := hid (V3.out.ext (ext_alloc1 w3 (.cells #[.int .i64 k] 3)))
        have J1 := hid ((F1.out.alloc _).apart hg4 (Apart.own VA.out (by decide)))
        have J7 := hid ((F7.out.alloc _).apart hg4 (Apart.own VA.out (by decide)))
        have J2 := hid ((F2.out.alloc _).apart hg4 (Apart.own VA.out (by decide)))
        have W4 := hid ((W3.out.ext (ext_alloc1 _ _)).apart hg4 (Apart.own VA.out (by decide)) (Apart.own VA.out (by decide)))
        have HX4 := hid (V3.out.extApp HX3.out (by omega) hg4)
        have hs4 : (ns ++ [(k : Int)]).length = ns.length + 1 := by simp
        obtain ⟨A4, c4, rfl, -, -, -⟩ := (hO4.form (by decide) (fun _ => rfl) 0)
        have V4 := hid hO4
        have s41 := J1.out.lt
        have s47 := J7.out.lt
        have j1 := J1.out.cell 1
        have j1f := J1.out.fro 1
        simp only [List.getElem?_toArray, List.getElem?_cons_zero, List.getElem?_cons_succ] at j1
        clear F1 F2 F7 V3 W3 HX3 HKE hO4 hg4 VA g1 s3 s31
        rw [hs4] at V4 ⊢
        have K1 := hid (J1.out.setAt 1 (.slice A4 (ns.length + 1) c4))
        have K7 := hid (J7.out.other (p := ⟨w2.heap.size, 1, none⟩) (by dsimp only; omega) (.slice A4 (ns.length + 1) c4))
        have K2 := hid (J2.out.other (p := ⟨w2.heap.size, 1, none⟩) (by dsimp only; omega) (.slice A4 (ns.length + 1) c4))
        have V5 := hid (V4.out.other (p := ⟨w2.heap.size, 1, none⟩) (by dsimp only; omega) (.slice A4 (ns.length + 1) c4))
        have W5s := hid (W4.out.apart (grown_set w4 ⟨w2.heap.size, 1, none⟩ (.slice A4 (ns.length + 1) c4)) (Apart.blk J1.out (by decide)) (Apart.blk J1.out (by decide)))
        have HX5 := hid (HX4.out.set (p := ⟨w2.heap.size, 1, none⟩) (by dsimp only; omega) (.slice A4 (ns.length + 1) c4))
        go_wp2_with fail
        obtain ⟨W5, hW5⟩ : ∃ W5, w4.setCell ⟨w2.heap.size, 1, none⟩ (.slice A4 (ns.length + 1) c4) = W5 := ⟨_, rfl⟩
        rw [hW5] at K1 K7 K2 V5 W5s HX5 ⊢
        clear hW5 J1 J7 J2 V4 W4 HX4 j1 j1f s41 s47
        simp only [List.setIfInBounds_toArray, List.set_cons_zero, List.set_cons_succ] at K1
        have k2 := K1.out.cell 2
        have k7 := K7.out.cell 0
        have q5 := K1.out.lt
        have q7 := K7.out.lt
        simp only [List.getElem?_toArray, List.getElem?_cons_zero, List.getElem?_cons_succ] at k2 k7
        have EX5 : Ext w W5.drew := HX5.out.drew
        refine wp_region_held_drew (S := fun w' => w'.cell? ⟨wr.heap.size, 0, none⟩ = some (.slice A' xl c')) (by kernel_rfl) ?hS0 (fun hHeld => ?_)
        case hS0 => exact k7
        refine tk1 (i := 0) (v := ?v0a) rfl ?y0a ?r0a
        case y0a => (intro w' hSw; (try dsimp only at hSw); go_simp; (try with_reducible rfl))
        try simp only [Act.put, sq1, sq2, sq3, sq4, sq5, sq6]
        refine tk1 (i := 2) (v := ?v2a) rfl ?y2a ?r2a
        case y2a => (intro w' hSw; (try dsimp only at hSw); go_simp; (try with_reducible rfl))
        try simp only [Act.put, sq1, sq2, sq3, sq4, sq5, sq6]
        refine tk1 (i := 3) (v := ?v3a) rfl ?y3a ?r3a
        case y3a => (intro w' hSw; (try dsimp only at hSw); go_simp; (try with_reducible rfl))
        try simp only [Act.put, sq1, sq2, sq3, sq4, sq5, sq6]
        refine wpAnyH_ready (rs := [1, 4]) (by kernel_rfl) (by simp) ?_
        refine AllReadyH.cons (o := _) rfl (fun K hK => ?_) (AllReadyH.cons (o := _) rfl (fun K hK => ?_) AllReadyH.nil)
        · go_simp
          clear hHeld
          refine hK.out _ _ k7 (fun hHeld => ?_)
          clear hK K
          try simp only [Act.put, sq1, sq2, sq3, sq4, sq5, sq6]
          refine wpAnyH_ready (rs := [4]) (by kernel_rfl) (by simp) ?_
          refine AllReadyH.cons (o := _) rfl (fun K hK => ?_) AllReadyH.nil
          go_simp
          refine Calls.mono (HOB.out _ EX5) ?_
          rintro e w6 ⟨v, rfl, hO6, hE6⟩
          dsimp only
          obtain ⟨A6, c6, rfl, -, -, -⟩ := (hO6.form (by decide) (fun _ => rfl) zeroHr)
          have X6 : Ext W5 w6 := (Ext.drew (Ext.refl W5)).trans hE6
          have M1 := hid (K1.out.ext X6)
          have M7 := hid (K7.out.ext X6)
          have M2 := hid (K2.out.ext X6)
          have V6 := hid (V5.out.ext X6)
          have W6s := hid (W5s.out.ext X6)
          have HX6 := hid (HX5.out.trans X6)
          have O6 := hid hO6
          have m2 := M1.out.cell 2
          have m7 := M7.out.cell 0
          have m5 := M1.out.lt
          have m57 := M7.out.lt
          have mz := X6.size
          simp only [List.getElem?_toArray, List.getElem?_cons_zero, List.getElem?_cons_succ] at m2 m7
          clear K1 K7 K2 V5 W5s HX5 k2 k7 q7 EX5 X6 hE6 hO6 hHeld HOB
          refine hK.out _ _ m7 (fun hHeld => ?_)
          clear hK K
          try simp only [Act.put, sq1, sq2, sq3, sq4, sq5, sq6]
          refine wpAnyH_ready (rs := [5]) (by kernel_rfl) (by simp) ?_
          refine AllReadyH.cons (o := _) rfl (fun K hK => ?_) AllReadyH.nil
          go_simp
          clear hHeld
          refine hK.out _ _ (by go_simp) (fun hHeld => ?_)
          clear hK K
          try simp only [Act.put, sq1, sq2, sq3, sq4, sq5, sq6]
          refine wpAnyH_ready (rs := [6]) (by kernel_rfl) (by simp) ?_
          refine AllReadyH.cons (o := _) rfl (fun K hK => ?_) AllReadyH.nil
          refine wp_app1Sc _ _ _ rfl (w2.heap.size + 1) (.slice A2 ss.length c2) ss rfl (W6s.out.ext (ext_alloc1 _ _)) ⟨w6.heap.size, 0, none⟩ _ rfl (obsM seen x) rfl (by go_simp) ((O6.out.low (show w2.heap.size + 1 ≤ W5.heap.size by omega)).ext (ext_alloc1 _ _)) (by have := HLW.out; omega) (by simp; omega) ?_
          intro v8 w8 hO8 hg8 hr8
          have AP := hid (fun (e : TypeId) (he : 92 ≠ e) => (show Apart (w6.alloc (.cells #[.slice A6 (obsM seen x).length c6] 92)) (Value.slice A2 ss.length c2).ownBlock e from fun r hr => ⟨_, _, (hr8 r hr).choose_spec.1, he⟩))
          have N1 := hid ((M1.out.alloc _).apart hg8 (AP.out _ (by decide)))
          have N2 := hid ((M2.out.alloc _).apart hg8 (AP.out _ (by decide)))
          have N7 := hid ((M7.out.alloc _).grown hg8 (fun e => by have := HWB.out _ e.symm; omega))
          have V8 := hid ((V6.out.ext (ext_alloc1 _ _)).apart hg8 (AP.out _ (by decide)))
          have HX8 := hid (show Ext w w8 from Below.grown (HX6.out.alloc _) hg8 (HX6.out.alloc _).size (fun r hr => by have := (hr8 r hr).choose_spec.2; omega))
          have hs8 : (ss ++ [obsM seen x]).length = ss.length + 1 := by simp
          obtain ⟨A8, c8, rfl, -, -, -⟩ := hO8.form
          rw [hs8] at hO8 ⊢
          have O8 := hid hO8
          have n2 := N1.out.cell 2
          have n2f := N1.out.fro 2
          have n7 := N7.out.cell 0
          have n5 := N1.out.lt
          have n57 := N7.out.lt
          simp only [List.getElem?_toArray, List.getElem?_cons_zero, List.getElem?_cons_succ] at n2 n7
          clear M1 M2 M7 V6 W6s HX6 hg8 hr8 hO8 m2 m7 m5 m57 AP
          refine hK.out _ _ n7 (fun hHeld => ?_)
          clear hK K
          try simp only [Act.put, sq1, sq2, sq3, sq4, sq5, sq6]
          refine tk1 (i := 7) (v := ?v7zc) rfl ?y7zc ?r7zc
          case y7zc => (intro w' hSw; (try dsimp only at hSw); go_simp; (try with_reducible rfl))
          try simp only [Act.put, sq1, sq2, sq3, sq4, sq5, sq6]
          refine wpAnyH_ready (rs := [8]) (by kernel_rfl) (by simp) ?_
          refine AllReadyH.cons (o := _) rfl (fun K hK => ?_) AllReadyH.nil
          go_simp
          clear hHeld
          have R1 := hid (N1.out.setAt 2 (.slice A8 (ss.length + 1) c8))
          have R2 := hid (N2.out.other (p := ⟨w2.heap.size, 2, none⟩) (by dsimp only; omega) (.slice A8 (ss.length + 1) c8))
          have R7 := hid (N7.out.other (p := ⟨w2.heap.size, 2, none⟩) (by dsimp only; omega) (.slice A8 (ss.length + 1) c8))
          have VR := hid (V8.out.other (p := ⟨w2.heap.size, 2, none⟩) (by dsimp only; omega) (.slice A8 (ss.length + 1) c8))
          have OR := hid (O8.out.apart (grown_set w8 ⟨w2.heap.size, 2, none⟩ (.slice A8 (ss.length + 1) c8)) (Apart.blk N1.out (by decide)) (Apart.blk N1.out (by decide)))
          have XR := hid (HX8.out.set (p := ⟨w2.heap.size, 2, none⟩) (by dsimp only; omega) (.slice A8 (ss.length + 1) c8))
          obtain ⟨W9, hW9⟩ : ∃ W9, w8.setCell ⟨w2.heap.size, 2, none⟩ (.slice A8 (ss.length + 1) c8) = W9 := ⟨_, rfl⟩
          rw [hW9] at R1 R2 R7 VR OR XR ⊢
          simp only [List.setIfInBounds_toArray, List.set_cons_zero, List.set_cons_succ] at R1
          have r7 := R7.out.cell 0
          simp only [List.getElem?_toArray, List.getElem?_cons_zero] at r7
          clear N1 N2 N7 V8 O8 HX8 n2 n2f n7 n5 n57 hW9
          refine hK.out _ _ r7 (fun hHeld => ?_)
          clear hK K
          try simp only [Act.put, sq1, sq2, sq3, sq4, sq5, sq6]
          refine wpAnyH_done (by kernel_rfl) ?_ _
          clear hHeld r7
          go_wp2
          go_roundw
          case rel => exact ⟨XR.out, k + 1, _, _, by omega, by go_num, R1, R2, hid (by rw [HST.out]; exact VR.out), hid (by rw [HSS.out]; exact OR.out)⟩
          case measure => simp [intOf]; omega
        · go_simp
          refine Calls.mono (HOB.out _ EX5) ?_
          rintro e w6 ⟨v, rfl, hO6, hE6⟩
          dsimp only
          obtain ⟨A6, c6, rfl, -, -, -⟩ := (hO6.form (by decide) (fun _ => rfl) zeroHr)
          have X6 : Ext W5 w6 := (Ext.drew (Ext.refl W5)).trans hE6
          have M1 := hid (K1.out.ext X6)
          have M7 := hid (K7.out.ext X6)
          have M2 := hid (K2.out.ext X6)
          have V6 := hid (V5.out.ext X6)
          have W6s := hid (W5s.out.ext X6)
          have HX6 := hid (HX5.out.trans X6)
          have O6 := hid hO6
          have m2 := M1.out.cell 2
          have m7 := M7.out.cell 0
          have m5 := M1.out.lt
          have m57 := M7.out.lt
          have mz := X6.size
          simp only [List.getElem?_toArray, List.getElem?_cons_zero, List.getElem?_cons_succ] at m2 m7
          clear K1 K7 K2 V5 W5s HX5 k2 k7 q7 EX5 X6 hE6 hO6 hHeld HOB
          refine hK.out _ _ m7 (fun hHeld => ?_)
          clear hK K
          try simp only [Act.put, sq1, sq2, sq3, sq4, sq5, sq6]
          refine wpAnyH_ready (rs := [1, 5]) (by kernel_rfl) (by simp) ?_
          refine AllReadyH.cons (o := _) rfl (fun K hK => ?_) (AllReadyH.cons (o := _) rfl (fun K hK => ?_) AllReadyH.nil)
          · go_simp
            clear hHeld
            refine hK.out _ _ m7 (fun hHeld => ?_)
            clear hK K
            try simp only [Act.put, sq1, sq2, sq3, sq4, sq5, sq6]
            refine wpAnyH_ready (rs := [5]) (by kernel_rfl) (by simp) ?_
            refine AllReadyH.cons (o := _) rfl (fun K hK => ?_) AllReadyH.nil
            go_simp
            clear hHeld
            refine hK.out _ _ (by go_simp) (fun hHeld => ?_)
            clear hK K
            try simp only [Act.put, sq1, sq2, sq3, sq4, sq5, sq6]
            refine wpAnyH_ready (rs := [6]) (by kernel_rfl) (by simp) ?_
            refine AllReadyH.cons (o := _) rfl (fun K hK => ?_) AllReadyH.nil
            refine wp_app1Sc _ _ _ rfl (w2.heap.size + 1) (.slice A2 ss.length c2) ss rfl (W6s.out.ext (ext_alloc1 _ _)) ⟨w6.heap.size, 0, none⟩ _ rfl (obsM seen x) rfl (by go_simp) ((O6.out.low (show w2.heap.size + 1 ≤ W5.heap.size by omega)).ext (ext_alloc1 _ _)) (by have := HLW.out; omega) (by simp; omega) ?_
            intro v8 w8 hO8 hg8 hr8
            have AP := hid (fun (e : TypeId) (he : 92 ≠ e) => (show Apart (w6.alloc (.cells #[.slice A6 (obsM seen x).length c6] 92)) (Value.slice A2 ss.length c2).ownBlock e from fun r hr => ⟨_, _, (hr8 r hr).choose_spec.1, he⟩))
            have N1 := hid ((M1.out.alloc _).apart hg8 (AP.out _ (by decide)))
            have N2 := hid ((M2.out.alloc _).apart hg8 (AP.out _ (by decide)))
            have N7 := hid ((M7.out.alloc _).grown hg8 (fun e => by have := HWB.out _ e.symm; omega))
            have V8 := hid ((V6.out.ext (ext_alloc1 _ _)).apart hg8 (AP.out _ (by decide)))
            have HX8 := hid (show Ext w w8 from Below.grown (HX6.out.alloc _) hg8 (HX6.out.alloc _).size (fun r hr => by have := (hr8 r hr).choose_spec.2; omega))
            have hs8 : (ss ++ [obsM seen x]).length = ss.length + 1 := by simp
            obtain ⟨A8, c8, rfl, -, -, -⟩ := hO8.form
            rw [hs8] at hO8 ⊢
            have O8 := hid hO8
            have n2 := N1.out.cell 2
            have n2f := N1.out.fro 2
            have n7 := N7.out.cell 0
            have n5 := N1.out.lt
            have n57 := N7.out.lt
            simp only [List.getElem?_toArray, List.getElem?_cons_zero, List.getElem?_cons_succ] at n2 n7
            clear M1 M2 M7 V6 W6s HX6 hg8 hr8 hO8 m2 m7 m5 m57 AP
            refine hK.out _ _ n7 (fun hHeld => ?_)
            clear hK K
            try simp only [Act.put, sq1, sq2, sq3, sq4, sq5, sq6]
            refine tk1 (i := 7) (v := ?v7zd) rfl ?y7zd ?r7zd
            case y7zd => (intro w' hSw; (try dsimp only at hSw); go_simp; (try with_reducible rfl))
            try simp only [Act.put, sq1, sq2, sq3, sq4, sq5, sq6]
            refine wpAnyH_ready (rs := [8]) (by kernel_rfl) (by simp) ?_
            refine AllReadyH.cons (o := _) rfl (fun K hK => ?_) AllReadyH.nil
            go_simp
            clear hHeld
            have R1 := hid (N1.out.setAt 2 (.slice A8 (ss.length + 1) c8))
            have R2 := hid (N2.out.other (p := ⟨w2.heap.size, 2, none⟩) (by dsimp only; omega) (.slice A8 (ss.length + 1) c8))
            have R7 := hid (N7.out.other (p := ⟨w2.heap.size, 2, none⟩) (by dsimp only; omega) (.slice A8 (ss.length + 1) c8))
            have VR := hid (V8.out.other (p := ⟨w2.heap.size, 2, none⟩) (by dsimp only; omega) (.slice A8 (ss.length + 1) c8))
            have OR := hid (O8.out.apart (grown_set w8 ⟨w2.heap.size, 2, none⟩ (.slice A8 (ss.length + 1) c8)) (Apart.blk N1.out (by decide)) (Apart.blk N1.out (by decide)))
            have XR := hid (HX8.out.set (p := ⟨w2.heap.size, 2, none⟩) (by dsimp only; omega) (.slice A8 (ss.length + 1) c8))
            obtain ⟨W9, hW9⟩ : ∃ W9, w8.setCell ⟨w2.heap.size, 2, none⟩ (.slice A8 (ss.length + 1) c8) = W9 := ⟨_, rfl⟩
            rw [hW9] at R1 R2 R7 VR OR XR ⊢
            simp only [List.setIfInBounds_toArray, List.set_cons_zero, List.set_cons_succ] at R1
            have r7 := R7.out.cell 0
            simp only [List.getElem?_toArray, List.getElem?_cons_zero] at r7
            clear N1 N2 N7 V8 O8 HX8 n2 n2f n7 n5 n57 hW9
            refine hK.out _ _ r7 (fun hHeld => ?_)
            clear hK K
            try simp only [Act.put, sq1, sq2, sq3, sq4, sq5, sq6]
            refine wpAnyH_done (by kernel_rfl) ?_ _
            clear hHeld r7
            go_wp2
            go_roundw
            case rel => exact ⟨XR.out, k + 1, _, _, by omega, by go_num, R1, R2, hid (by rw [HST.out]; exact VR.out), hid (by rw [HSS.out]; exact OR.out)⟩
            case measure => simp [intOf]; omega
          · go_simp
            clear hHeld
            refine hK.out _ _ (by go_simp) (fun hHeld => ?_)
            clear hK K
            try simp only [Act.put, sq1, sq2, sq3, sq4, sq5, sq6]
            refine wpAnyH_ready (rs := [1]) (by kernel_rfl) (by simp) ?_
            refine AllReadyH.cons (o := _) rfl (fun K hK => ?_) AllReadyH.nil
            go_simp
            clear hHeld
            refine hK.out _ _ (by go_simp) (fun hHeld => ?_)
            clear hK K
            try simp only [Act.put, sq1, sq2, sq3, sq4, sq5, sq6]
            refine wpAnyH_ready (rs := [6]) (by kernel_rfl) (by simp) ?_
            refine AllReadyH.cons (o := _) rfl (fun K hK => ?_) AllReadyH.nil
            refine wp_app1Sc _ _ _ rfl (w2.heap.size + 1) (.slice A2 ss.length c2) ss rfl (W6s.out.ext (ext_alloc1 _ _)) ⟨w6.heap.size, 0, none⟩ _ rfl (obsM seen x) rfl (by go_simp) ((O6.out.low (show w2.heap.size + 1 ≤ W5.heap.size by omega)).ext (ext_alloc1 _ _)) (by have := HLW.out; omega) (by simp; omega) ?_
            intro v8 w8 hO8 hg8 hr8
            have AP := hid (fun (e : TypeId) (he : 92 ≠ e) => (show Apart (w6.alloc (.cells #[.slice A6 (obsM seen x).length c6] 92)) (Value.slice A2 ss.length c2).ownBlock e from fun r hr => ⟨_, _, (hr8 r hr).choose_spec.1, he⟩))
            have N1 := hid ((M1.out.alloc _).apart hg8 (AP.out _ (by decide)))
            have N2 := hid ((M2.out.alloc _).apart hg8 (AP.out _ (by decide)))
            have N7 := hid ((M7.out.alloc _).grown hg8 (fun e => by have := HWB.out _ e.symm; omega))
            have V8 := hid ((V6.out.ext (ext_alloc1 _ _)).apart hg8 (AP.out _ (by decide)))
            have HX8 := hid (show Ext w w8 from Below.grown (HX6.out.alloc _) hg8 (HX6.out.alloc _).size (fun r hr => by have := (hr8 r hr).choose_spec.2; omega))
            have hs8 : (ss ++ [obsM seen x]).length = ss.length + 1 := by simp
            obtain ⟨A8, c8, rfl, -, -, -⟩ := hO8.form
            rw [hs8] at hO8 ⊢
            have O8 := hid hO8
            have n2 := N1.out.cell 2
            have n2f := N1.out.fro 2
            have n7 := N7.out.cell 0
            have n5 := N1.out.lt
            have n57 := N7.out.lt
            simp only [List.getElem?_toArray, List.getElem?_cons_zero, List.getElem?_cons_succ] at n2 n7
            clear M1 M2 M7 V6 W6s HX6 hg8 hr8 hO8 m2 m7 m5 m57 AP
            refine hK.out _ _ n7 (fun hHeld => ?_)
            clear hK K
            try simp only [Act.put, sq1, sq2, sq3, sq4, sq5, sq6]
            refine tk1 (i := 7) (v := ?v7ze) rfl ?y7ze ?r7ze
            case y7ze => (intro w' hSw; (try dsimp only at hSw); go_simp; (try with_reducible rfl))
            try simp only [Act.put, sq1, sq2, sq3, sq4, sq5, sq6]
            refine wpAnyH_ready (rs := [8]) (by kernel_rfl) (by simp) ?_
            refine AllReadyH.cons (o := _) rfl (fun K hK => ?_) AllReadyH.nil
            go_simp
            clear hHeld
            have R1 := hid (N1.out.setAt 2 (.slice A8 (ss.length + 1) c8))
            have R2 := hid (N2.out.other (p := ⟨w2.heap.size, 2, none⟩) (by dsimp only; omega) (.slice A8 (ss.length + 1) c8))
            have R7 := hid (N7.out.other (p := ⟨w2.heap.size, 2, none⟩) (by dsimp only; omega) (.slice A8 (ss.length + 1) c8))
            have VR := hid (V8.out.other (p := ⟨w2.heap.size, 2, none⟩) (by dsimp only; omega) (.slice A8 (ss.length + 1) c8))
            have OR := hid (O8.out.apart (grown_set w8 ⟨w2.heap.size, 2, none⟩ (.slice A8 (ss.length + 1) c8)) (Apart.blk N1.out (by decide)) (Apart.blk N1.out (by decide)))
            have XR := hid (HX8.out.set (p := ⟨w2.heap.size, 2, none⟩) (by dsimp only; omega) (.slice A8 (ss.length + 1) c8))
            obtain ⟨W9, hW9⟩ : ∃ W9, w8.setCell ⟨w2.heap.size, 2, none⟩ (.slice A8 (ss.length + 1) c8) = W9 := ⟨_, rfl⟩
            rw [hW9] at R1 R2 R7 VR OR XR ⊢
            simp only [List.setIfInBounds_toArray, List.set_cons_zero, List.set_cons_succ] at R1
            have r7 := R7.out.cell 0
            simp only [List.getElem?_toArray, List.getElem?_cons_zero] at r7
            clear N1 N2 N7 V8 O8 HX8 n2 n2f n7 n5 n57 hW9
            refine hK.out _ _ r7 (fun hHeld => ?_)
            clear hK K
            try simp only [Act.put, sq1, sq2, sq3, sq4, sq5, sq6]
            refine wpAnyH_done (by kernel_rfl) ?_ _
            clear hHeld r7
            go_wp2
            go_roundw
            case rel => exact ⟨XR.out, k + 1, _, _, by omega, by go_num, R1, R2, hid (by rw [HST.out]; exact VR.out), hid (by rw [HSS.out]; exact OR.out)⟩
            case measure => simp [intOf]; omega
    · obtain rfl : k = n := by omega
      have hnum : numsK seen f k = numsM seen f := by unfold numsK numsM; rw [HN.out]
      have hscs : scsK seen f k = scsM seen f := by unfold scsK scsM; rw [List.take_of_length_le (by rw [HN.out]; exact Nat.le_refl _)]
      have HNM := hid (show (numsK seen f k).length = (numsM seen f).length by rw [hnum])
      have HSM := hid (show (scsK seen f k).length = (scsM seen f).length by rw [hscs])
      rw [hnum] at HV
      rw [hscs] at HW
      have d1 := D1.out.cell 0
      have d2 := D1.out.cell 1
      have d3 := D1.out.cell 2
      have e1 := D2.out.cell 0
      have e2 := D2.out.cell 1
      have e3 := D2.out.cell 2
      have f1 := D2.out.fro 0
      have f2 := D2.out.fro 1
      have f3 := D2.out.fro 2
      simp only [List.getElem?_toArray, List.getElem?_cons_zero, List.getElem?_cons_succ] at d1 d2 d3 e1 e2 e3
      have s2 := E2.size
      have HSET := hid (fun (W : World) (hg : wr.grownBy W (some (w.heap.size + 1))) => ((HV.out.apart hg (Apart.blk D2.out (by decide))).low (show w.heap.size ≤ w2.heap.size + 1 by omega)))
      have HSEW := hid (fun (W : World) (hg : wr.grownBy W (some (w.heap.size + 1))) => ((HW.out.apart hg (Apart.blk D2.out (by decide)) (Apart.blk D2.out (by decide))).low (show w.heap.size ≤ w2.heap.size + 1 by omega)))
      have R := hid (((D2.out.setAt 0 (.int .i64 (N : Int))).setAt 1 (.slice A1 (numsK seen f k).length c1)).setAt 2 (.slice A2 (scsK seen f k).length c2))
      clear HV HW D1 D2 HLV HLW HWB hnum hscs
      go_wp2
      obtain ⟨W9, hW9⟩ : ∃ W9, (((wr.setCell ⟨w.heap.size + 1, 0, none⟩ (.int .i64 (N : Int))).setCell ⟨w.heap.size + 1, 1, none⟩ (.slice A1 (numsK seen f k).length c1)).setCell ⟨w.heap.size + 1, 2, none⟩ (.slice A2 (scsK seen f k).length c2)) = W9 := ⟨_, rfl⟩
      have XE : Ext w W9 := by
        rw [← hW9]
        refine Ext.set (Ext.set (Ext.set hE ?_ _) ?_ _) ?_ _ <;> (dsimp only; omega)
      have G9 : wr.grownBy W9 (some (w.heap.size + 1)) := by
        have g1 : wr.grownBy (wr.setCell ⟨w.heap.size + 1, 0, none⟩ (.int .i64 (N : Int))) (some (w.heap.size + 1)) := grown_set wr ⟨w.heap.size + 1, 0, none⟩ _
        have g2 := g1.trans (grown_set (wr.setCell ⟨w.heap.size + 1, 0, none⟩ (.int .i64 (N : Int))) ⟨w.heap.size + 1, 1, none⟩ (.slice A1 (numsK seen f k).length c1))
        have g3 := g2.trans (grown_set _ ⟨w.heap.size + 1, 2, none⟩ (.slice A2 (scsK seen f k).length c2))
        rw [hW9] at g3
        exact g3
      rw [hW9] at R ⊢
      simp only [List.setIfInBounds_toArray, List.set_cons_zero, List.set_cons_succ] at R
      have r0 := R.out.cell 0
      have r1 := R.out.cell 1
      have r2 := R.out.cell 2
      simp only [List.getElem?_toArray, List.getElem?_cons_zero, List.getElem?_cons_succ] at r0 r1 r2
      refine bodyPost_ret (v := .agg #[.int .i64 N, .slice A1 (numsK seen f k).length c1, .slice A2 (scsK seen f k).length c2]) (by simp [results, Tryz.results84, go_sem, r0, r1, r2]) rfl ⟨.slice A1 (numsK seen f k).length c1, .slice A2 (scsK seen f k).length c2, ?_, ?_, ?_, XE⟩
      · rw [HNN.out]
      · rw [HNM.out]; exact HSET.out _ G9
      · rw [HSM.out]; exact HSEW.out _ G9
end Go.Proofs.YtecamnhnjmldcaaGreatDoor
