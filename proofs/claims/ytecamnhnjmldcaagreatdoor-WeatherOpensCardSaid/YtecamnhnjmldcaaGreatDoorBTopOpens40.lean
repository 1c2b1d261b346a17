/- Far: what it says of a net if it says no. -/
import Derived.Test.YtecamnhnjmldcaaGreatDoorBTopOpens33
import Derived.Test.YtecamnhnjmldcaaGreatDoorB17
import Derived.Test.YtecamnhnjmldcaaGreatDoorB13
import Derived.Test.YtecamnhnjmldcaaGreatDoorB05
import Derived.Maps.AppendAt
set_option linter.unusedSimpArgs false
set_option linter.unusedVariables false
namespace Go.Proofs.YtecamnhnjmldcaaGreatDoor
open Go.RowKit
theorem PathsAt.at_ {w : World} {A : Option Addr} {ps : List Pt} {n k : Nat} (hp : PathsAt w A ps) (hn : ps.length = n) (hk : k < n) : ∃ b off A' c', A = some ⟨b, off, none⟩ ∧ b < w.heap.size ∧ PtAt w b (off + k * 8) (ps.getD k zeroPt) A' c' := by
  obtain ⟨b, off, h1, h2, h3⟩ := hp (by rintro rfl; simp at hn; omega)
  obtain ⟨A', c', h⟩ := h3 k (by omega)
  exact ⟨b, off, A', c', h1, h2, h⟩
/-- A net that is not far. -/
def NearOk (m : Int) (ps : List Pt) : Prop := ps.length ≤ 26 ∧ ∀ k, k < ps.length → (ps.getD k zeroPt).opens.length ≤ 8
set_option maxRecDepth 100000 in
set_option maxHeartbeats 1000000 in
theorem far2_any (m : Int) (A : Option Addr) (n c : Nat) (ps : List Pt) (hn : ps.length = n) (w : World) (hp : PathsAt w A ps) :
    Calls Tryz.prog 57 #[.agg #[.int .i64 m, .slice A n c]] w fun e w' => (∃ B, e = .returned (.bool B) ∧ (B = false → NearOk m ps)) ∧ Ext w w' := by
  have HC := hid (fun (W : World) (hW : Ext w W) => rNetChk_any m A n c ps hn W (hp.ext hW))
  have HP := hid hp
  have HN := hid hn
  clear hp hn
  by_cases h1 : n ≤ 26
  case neg =>
    go_enter Tryz.func57, Tryz.ntmps57
    go_wp2
    go_ret
    exact ⟨⟨_, rfl, fun h => by cases h⟩, by (repeat' (first | with_reducible assumption | with_reducible exact Ext.refl _ | with_reducible refine Ext.alloc ?_ _ | with_reducible refine Ext.set ?_ ?_ _ | with_reducible refine Ext.drew ?_ | with_reducible refine Ext.drewN ?_ _ | with_reducible refine Ext.trans ?_ (by assumption) | (dsimp only; omega)))⟩
  have B0 := hid (heap_alloc_new w (.cells #[.int .i64 m, .slice A n c] 47))
  revert HC
  generalize checkE m ps = ce
  intro HC
  go_enter Tryz.func57, Tryz.ntmps57
  go_wp2
  go_loopw [3] (fun i wr => Ext w wr ∧ Hid (wr.heap[w.heap.size]? = some (.cells #[.int .i64 m, .slice A n c] 47 (0, 0))) ∧ ∃ k : Nat, k ≤ n ∧ i = .int .i64 k ∧ Hid (∀ j, j < k → (ps.getD j zeroPt).opens.length ≤ 8)) (fun i _ => n - (intOf i).toNat)
  case atStart => exact ⟨by (repeat' (first | with_reducible assumption | with_reducible exact Ext.refl _ | with_reducible refine Ext.alloc ?_ _ | with_reducible refine Ext.set ?_ ?_ _ | with_reducible refine Ext.drew ?_ | with_reducible refine Ext.drewN ?_ _ | with_reducible refine Ext.trans ?_ (by assumption) | (dsimp only; omega))), B0, 0, Nat.zero_le _, rfl, hid (fun j hj => by omega)⟩
  case round =>
    clear B0
    obtain ⟨hE, HB, k, hk, rfl, HJ⟩ := hrel
    have c0 := blk_cell HB.out 0
    have c1 := blk_cell HB.out 1
    have hs := (Array.getElem?_eq_some_iff.1 HB.out).1
    simp only [List.getElem?_toArray, List.getElem?_cons_zero, List.getElem?_cons_succ] at c0 c1
    by_cases hlt : k < n
    · obtain ⟨b, off, A', c', rfl, hb, hpt⟩ := (HP.out.ext hE).at_ HN.out hlt
      have hk0 : (0 : Int) ≤ (k : Int) := by omega
      have hk1 : (k : Int) < (n : Int) := by omega
      have HJ2 := hid (fun (h : (ps.getD k zeroPt).opens.length ≤ 8) => (show ∀ j, j < k + 1 → (ps.getD j zeroPt).opens.length ≤ 8 from fun j hj => by
        by_cases hjk : j < k
        · exact HJ.out j hjk
        · obtain rfl : j = k := by omega
          exact h))
      obtain ⟨p, hpq⟩ : ∃ p, ps.getD k zeroPt = p := ⟨_, rfl⟩
      rw [hpq] at hpt HJ2
      clear hpq
      obtain ⟨d0, d1, d2, d3, d4, d5, d6, d7, hcap, hop⟩ := hpt
      obtain ⟨f, d, g, tl, th, sl, sh, os⟩ := p
      dsimp only at d0 d1 d2 d3 d4 d5 d6 d7 hcap hop HJ2
      clear hop hcap
      by_cases h8 : os.length ≤ 8
      · have HJ3 := hid (HJ2.out h8)
        go_wp2
        go_roundw
        case rel => exact ⟨hE, HB, k + 1, by omega, by go_num, HJ3⟩
        case measure => simp [intOf]; omega
      · go_wp2
        go_ret
        exact ⟨⟨_, rfl, fun h => by first | (cases h; done) | (simp at h; omega)⟩, hE⟩
    · have HNR := hid (show NearOk m ps from ⟨by have := HN.out; omega, fun j hj => HJ.out j (by have := HN.out; omega)⟩)
      by_cases hce : ce = 0
      · subst hce
        by_cases h6 : 6 < m
        · go_wp2_with fail
          refine (HC.out _ hE).mono ?_
          rintro e w2 ⟨rfl, hE2⟩
          have HB2 := hid (blk_ext HB.out hE2)
          have hE3 := hE.trans hE2
          clear c0 c1 hE2 HB hs
          have c0 := blk_cell HB2.out 0
          have c1 := blk_cell HB2.out 1
          have hs := (Array.getElem?_eq_some_iff.1 HB2.out).1
          simp only [List.getElem?_toArray, List.getElem?_cons_zero, List.getElem?_cons_succ] at c0 c1
          go_wp2
          go_ret
          exact ⟨⟨_, rfl, fun _ => HNR.out⟩, hE3⟩
        · by_cases h10 : 10 < n
          · go_wp2_with fail
            refine (HC.out _ hE).mono ?_
            rintro e w2 ⟨rfl, hE2⟩
            have HB2 := hid (blk_ext HB.out hE2)
            have hE3 := hE.trans hE2
            clear c0 c1 hE2 HB hs
            have c0 := blk_cell HB2.out 0
            have c1 := blk_cell HB2.out 1
            have hs := (Array.getElem?_eq_some_iff.1 HB2.out).1
            simp only [List.getElem?_toArray, List.getElem?_cons_zero, List.getElem?_cons_succ] at c0 c1
            go_wp2
            go_ret
            exact ⟨⟨_, rfl, fun _ => HNR.out⟩, hE3⟩
          · go_wp2_with fail
            refine (HC.out _ hE).mono ?_
            rintro e w2 ⟨rfl, hE2⟩
            have HB2 := hid (blk_ext HB.out hE2)
            have hE3 := hE.trans hE2
            clear c0 c1 hE2 HB hs
            have c0 := blk_cell HB2.out 0
            have c1 := blk_cell HB2.out 1
            have hs := (Array.getElem?_eq_some_iff.1 HB2.out).1
            simp only [List.getElem?_toArray, List.getElem?_cons_zero, List.getElem?_cons_succ] at c0 c1
            go_wp2
            go_ret
            exact ⟨⟨_, rfl, fun _ => HNR.out⟩, hE3⟩
      · go_wp2_with fail
        refine (HC.out _ hE).mono ?_
        rintro e w2 ⟨rfl, hE2⟩
        have HB2 := hid (blk_ext HB.out hE2)
        have hE3 := hE.trans hE2
        clear c0 c1 hE2 HB hs
        have c0 := blk_cell HB2.out 0
        have c1 := blk_cell HB2.out 1
        have hs := (Array.getElem?_eq_some_iff.1 HB2.out).1
        simp only [List.getElem?_toArray, List.getElem?_cons_zero, List.getElem?_cons_succ] at c0 c1
        go_wp2
        go_ret
        exact ⟨⟨_, rfl, fun _ => HNR.out⟩, hE3⟩
end Go.Proofs.YtecamnhnjmldcaaGreatDoor
/- Copy of a net, as the specification of layer 1 has it. -/
set_option linter.unusedSimpArgs false
set_option linter.unusedVariables false
namespace Go.Proofs.YtecamnhnjmldcaaGreatDoor
open Go.RowKit
theorem infoSp3 : (Tryz.prog.info? 27).map (fun i => (i.zero, i.size, i.bytes)) = some (some (.agg #[.int .i64 0, .int .i64 0]), 2, 16) := by kernel_rfl
theorem infoPt8 : (Tryz.prog.info? 64).map (fun i => (i.zero, i.size, i.bytes)) = some (some (.agg #[.int .i64 0, .int .i64 0, .int .i64 0, .int .i64 0, .int .i64 0, .int .i64 0, .int .i64 0, .slice none 0 0]), 8, 80) := by kernel_rfl
theorem wp_appAllSp {o : Oper} {a : Act} {K : Act → World → Prop} {Q : Exit → Act → World → Prop} (w : World) (l x : Operand)
    (ho : o.op = .call { callee := .builtin .append, args := #[l, x], argTypes := #[35, 35] }) (B z : Nat) (A : Option Addr) (c : Nat) (os : List (Int × Int)) (hs : a.eval l = .slice (some ⟨z, 0, none⟩) 0 0) (hz : Blk w z 27 #[]) (hBz : B ≤ z)
    (n : Nat) (hn : os.length = n) (hx : a.eval x = .slice A n c) (hO : OpensAt w A os) (hl : n ≤ 10000)
    (h : ∀ v' w', Ownl 27 2 gSp w' B v' os → w.grownBy w' (some z) → K (a.put o.dst v') w') : o.wp Tryz.prog a w K Q := by
  subst hn
  obtain ⟨i0, hi, hz0, hz1, hz2⟩ := info_parts infoSp3
  exact wp_appendAllG (0, 0) w l x 35 27 ho Tryz.underlying35 hi hz0 hz1 hz2 rfl (by decide) (by decide) (fun _ => rfl) oneSp B z A c os hs hz hBz hx (flat_spans.2 hO) hl h
theorem appPt {ops : Array Oper} {rest : List Oper} {o : Oper} {a : Act} {Q : Exit → Act → World → Prop} (w : World) (hg : o.guard = none) (s x : Operand)
    (hop : o.op = Op.call { callee := Callee.builtin Builtin.append, args := #[s, x], argTypes := #[45, 45] }) (B : Nat) (v : Value) (xs : List PtX) (hs : a.eval s = v) (hown : Ownl 64 8 gPt w B v xs)
    (z : Nat) (y : PtX) (hx : a.eval x = .slice (some ⟨z, 0, none⟩) 1 1) (hy : Blk w z 64 (gPt y).toArray) (hl : xs.length ≤ 1000) (hB : B ≤ w.heap.size)
    (hK : ∀ v' w', Ownl 64 8 gPt w' B v' (xs ++ [y]) → w.grownBy w' v.ownBlock → (v'.ownBlock = v.ownBlock ∨ v'.ownBlock = some w.heap.size) → wpList Tryz.prog ops Q rest (a.put o.dst v') w') : wpList Tryz.prog ops Q (o :: rest) a w := by
  obtain ⟨i0, hi, hz0, hz1, hz2⟩ := info_parts infoPt8
  refine wpList_plain hg fun K hK' => ?_
  obtain ⟨v', w', hrun, r1, r2, _, r4⟩ := run_append_own_at (P := Tryz.prog) w B 45 o.type 64 i0 _ 8 80 Tryz.underlying45 hi hz0 hz1 hz2 rfl (by decide) v xs.length (xs.flatMap gPt) hown ⟨z, 0, none⟩ 1 1 (gPt y) rfl (fun j u hj => by
    rw [addr_add, Nat.zero_add, hy.cell]
    simpa using hj) (onePt y) (by unfold maxLen; omega) (by omega) hB
  unfold Oper.wp execOp
  simp only [hop, resolve, invoke, builtin, Sem.run_bind, Sem.run_pure, Result.andThen_ok, List.map_toArray, List.map_cons, List.map_nil, hs, hx, hrun]
  exact hK' _ _ (hK v' w' (Ownl.snoc r1) r2 r4)
theorem OpsIn.snoc {w : World} {ok : Nat → Prop} {xs : List PtX} (h : OpsIn w ok xs) (y : PtX) (hc : y.1.opens.length ≤ y.2.2) (ho : OpensAt w y.2.1 y.1.opens) (hb : y.1.opens ≠ [] → ∀ b o sp, y.2.1 = some ⟨b, o, sp⟩ → ok b) : OpsIn w ok (xs ++ [y]) := fun k hk => by
  by_cases hlt : k < xs.length
  · have e : (xs ++ [y]).getD k zeroPx = xs.getD k zeroPx := by rw [List.getD_eq_getElem?_getD, List.getElem?_append_left hlt, ← List.getD_eq_getElem?_getD]
    rw [e]
    exact h k hlt
  · have hk2 : k = xs.length := by simp at hk; omega
    subst hk2
    have e : (xs ++ [y]).getD xs.length zeroPx = y := by simp [List.getD]
    rw [e]
    exact ⟨hc, ho, hb⟩
theorem OpensAt.grown {w w' : World} {A : Option Addr} {os : List (Int × Int)} {row : Option Nat} (h : OpensAt w A os) (hg : w.grownBy w' row) (hne : os ≠ [] → ∀ b o sp, A = some ⟨b, o, sp⟩ → row ≠ some b) : OpensAt w' A os := fun hx => by
  obtain ⟨b, off, hA, hb, hc⟩ := h hx
  have hr := hne hx b off none hA
  have e := hg.block b hb (fun e => hr e.symm)
  have ec : ∀ i, w'.cell? ⟨b, i, none⟩ = w.cell? ⟨b, i, none⟩ := fun i => by unfold World.cell?; rw [e]
  exact ⟨b, off, hA, Nat.lt_of_lt_of_le hb hg.size, fun k hk => ⟨(ec _).trans (hc k hk).1, (ec _).trans (hc k hk).2⟩⟩
theorem OpsIn.grown {w w' : World} {ok : Nat → Prop} {xs : List PtX} {row : Option Nat} (h : OpsIn w ok xs) (hg : w.grownBy w' row) (hok : ∀ b, ok b → row ≠ some b) : OpsIn w' ok xs := fun k hk =>
  ⟨(h k hk).1, (h k hk).2.1.grown hg (fun hne b o sp hA => hok b ((h k hk).2.2 hne b o sp hA)), (h k hk).2.2⟩
set_option maxHeartbeats 8000000 in
set_option maxRecDepth 100000 in
theorem rCopyNet_any (m : Int) (ps : List Pt) (NA : Option Addr) (nn nc : Nat) (hpn : ps.length = nn) (hpm : nn ≤ 1000) (ho : ∀ k, k < nn → (ps.getD k zeroPt).opens.length ≤ 1000) (w : World) (hp : PathsAt w NA ps) :
    Calls Tryz.prog 18 #[.agg #[.int .i64 m, .slice NA nn nc]] w fun e w' => ∃ VA vc xs, e = .returned (.agg #[.int .i64 m, .slice VA nn vc]) ∧ xs.map (·.1) = ps ∧ Ownl 64 8 gPt w' w.heap.size (.slice VA nn vc) xs ∧ OpsIn w' (fun b => w.heap.size ≤ b ∧ b < w'.heap.size ∧ (Value.slice VA nn vc).ownBlock ≠ some b) xs ∧ Ext w w' := by
  have HP := hid hp
  have HN := hid hpn
  have HO := hid ho
  have HTN := hid (show ps.take nn = ps by rw [List.take_of_length_le (by rw [hpn]; exact Nat.le_refl _)])
  have HTL := hid (fun k (hk : k ≤ nn) => show (ps.take k).length = k by rw [List.length_take, hpn]; omega)
  have HTS := hid (fun k (hk : k < nn) => show ps.take (k + 1) = ps.take k ++ [ps.getD k zeroPt] by
    rw [List.take_succ_eq_append_getElem (by rw [hpn]; exact hk)]
    simp [List.getD, List.getElem?_eq_getElem (show k < ps.length by rw [hpn]; exact hk)])
  have B0 := hid (show Blk _ _ _ _ from blk_old (blk_last w (.cells #[.int .i64 m, .slice NA nn nc] 47)) (.cells #[.int .i64 0, .slice none 0 0] 47))
  have B1 := hid (show Blk _ _ _ _ from blk_last (w.alloc (.cells #[.int .i64 m, .slice NA nn nc] 47)) (.cells #[.int .i64 0, .slice none 0 0] 47))
  rw [World.size_alloc] at B1
  clear hp hpn ho
  generalize hFT : (fun k => ps.take k) = FT
  have hFe : ∀ k, ps.take k = FT k := fun k => by rw [← hFT]
  simp only [hFe] at HTN HTL HTS
  have HT0 := hid (show FT 0 = [] by rw [← hFT]; rfl)
  clear hFT hFe
  go_enter Tryz.func18, Tryz.ntmps18
  go_wp2
  go_loopw [4] (fun i wr => Ext w wr ∧ ∃ (k : Nat) (A2 : Option Addr) (c2 : Nat) (xs : List PtX), k ≤ nn ∧ i = .int .i64 k ∧ Hid (Blk wr w.heap.size 47 #[.int .i64 m, .slice NA nn nc]) ∧ Hid (Blk wr (w.heap.size + 1) 47 #[.int .i64 0, .slice none 0 0]) ∧ Hid (Blk wr (w.heap.size + 2) 47 #[.int .i64 m, .slice A2 k c2]) ∧ Hid (Ownl 64 8 gPt wr (w.heap.size + 3) (.slice A2 k c2) xs) ∧ Hid (xs.map (·.1) = FT k) ∧
      Hid (OpsIn wr (fun b => w.heap.size + 3 ≤ b ∧ b < wr.heap.size ∧ (Value.slice A2 k c2).ownBlock ≠ some b) xs)) (fun i _ => nn - (intOf i).toNat)
  case atStart =>
    refine ⟨by (repeat' (first | with_reducible assumption | with_reducible exact Ext.refl _ | with_reducible refine Ext.alloc ?_ _ | with_reducible refine Ext.set ?_ ?_ _ | with_reducible refine Ext.drew ?_ | with_reducible refine Ext.drewN ?_ _ | with_reducible refine Ext.trans ?_ (by assumption) | (dsimp only; omega))), 0, none, 0, [], Nat.zero_le _, rfl, hid (B0.out.alloc _), hid (B1.out.alloc _), hid ?_, hid (Ownl.nil _ _), hid (by rw [HT0.out]; rfl), hid (fun j hj => by simp at hj)⟩
    have h := blk_last ((w.alloc (.cells #[.int .i64 m, .slice NA nn nc] 47)).alloc (.cells #[.int .i64 0, .slice none 0 0] 47)) (.cells #[.int .i64 m, .slice none 0 0] 47)
    rw [World.size_alloc, World.size_alloc] at h
    exact h
  case round =>
    obtain ⟨E, k, A2, c2, xs, hk, rfl, K0, K1, K2, HW, HM, KX⟩ := hrel
    clear B0 B1
    obtain ⟨a0, a1⟩ : _ ∧ _ := ⟨K0.out.cell 0, K0.out.cell 1⟩
    obtain ⟨o0, o1⟩ : _ ∧ _ := ⟨K2.out.cell 0, K2.out.cell 1⟩
    have z0 := K0.out.lt
    have z2 := K2.out.lt
    simp only [List.getElem?_toArray, List.getElem?_cons_zero, List.getElem?_cons_succ] at a0 a1 o0 o1
    by_cases hlt : k < nn
    · obtain ⟨b, off, B5, c5, hA, hb0, hpt⟩ := PathsAt.at_ (HP.out.ext E) HN.out hlt
      subst hA
      have HO1 := hid (HO.out k hlt)
      have HS1 := hid (HTS.out k hlt)
      have HL1 := hid (HTL.out k (by omega))
      obtain ⟨p, hpe⟩ : ∃ p, ps.getD k zeroPt = p := ⟨_, rfl⟩
      rw [hpe] at hpt HO1 HS1
      clear hpe
      obtain ⟨d0, d1, d2, d3, d4, d5, d6, d7, hcap, hop⟩ := hpt
      obtain ⟨f, d, g, tl, th, sl, sh, os⟩ := p
      dsimp only at d0 d1 d2 d3 d4 d5 d6 d7 hcap hop HO1
      have HOP := hid hop
      have hk0 : (0 : Int) ≤ (k : Int) := by omega
      have hk1 : (k : Int) < (nn : Int) := by omega
      have hxl : xs.length = k := by rw [← List.length_map (f := (·.1)), HM.out, HL1.out]
      clear hop hcap HTS HTL HO
      go_wp2_with (at_builtin; refine Halt.mk ?_)
      unfold Halt
      have EA : Ext wr ((wr.alloc (.cells #[.int .i64 f, .int .i64 d, .int .i64 g, .int .i64 tl, .int .i64 th, .int .i64 sl, .int .i64 sh, .slice B5 os.length c5] 64)).alloc (.cells #[] 27)) := by (repeat' (first | with_reducible assumption | with_reducible exact Ext.refl _ | with_reducible refine Ext.alloc ?_ _ | with_reducible refine Ext.set ?_ ?_ _ | with_reducible refine Ext.drew ?_ | with_reducible refine Ext.drewN ?_ _ | with_reducible refine Ext.trans ?_ (by assumption) | (dsimp only; omega)))
      have T5 : Blk _ _ _ _ := blk_old (blk_last wr (.cells #[.int .i64 f, .int .i64 d, .int .i64 g, .int .i64 tl, .int .i64 th, .int .i64 sl, .int .i64 sh, .slice B5 os.length c5] 64)) (.cells #[] 27)
      have TZ : Blk _ _ _ _ := blk_last (wr.alloc (.cells #[.int .i64 f, .int .i64 d, .int .i64 g, .int .i64 tl, .int .i64 th, .int .i64 sl, .int .i64 sh, .slice B5 os.length c5] 64)) (.cells #[] 27)
      rw [World.size_alloc] at TZ
      refine wpList_plain rfl fun _ hK => wp_appAllSp _ _ _ rfl (wr.heap.size + 1) (wr.heap.size + 1) B5 c5 os rfl TZ (Nat.le_refl _) os.length rfl rfl (HOP.out.ext EA) (by have := HO1.out; omega) ?_
      intro v3 w3 ho3 hg3
      refine hK _ _ ?_
      have E3 : Ext wr w3 := Below.grown EA hg3 EA.size (fun j ej => by injection ej with ej; omega)
      have T3 := T5.grown hg3 (by intro e; injection e with e; omega)
      obtain ⟨A7, c7, rfl, hc7, hf7, hb7⟩ := (ho3.form (by decide) (fun _ => rfl) (0, 0))
      have hbl := ho3.block
      have HO7 := hid (flat_spans.1 hf7)
      have s3 := E3.size
      have M0 := K0.out.ext E3
      have M1 := K1.out.ext E3
      have M2 := K2.out.ext E3
      have W3 := HW.out.ext E3
      have XX := ((KX.out.ext E3).mono (q := fun b => (w.heap.size + 3 ≤ b ∧ b < w3.heap.size ∧ (Value.slice A2 k c2).ownBlock ≠ some b) ∧ b ≠ wr.heap.size) (fun b hb => ⟨⟨hb.1, Nat.lt_of_lt_of_le hb.2.1 s3, hb.2.2⟩, Nat.ne_of_lt hb.2.1⟩)).snoc (⟨f, d, g, tl, th, sl, sh, os⟩, A7, c7) hc7 HO7.out (fun hne b o sp hA => by
        have h1 := hb7 b o sp hA
        subst hA
        have h2 := (hbl b rfl).2
        refine ⟨⟨by have := E.size; omega, h2, fun h => ?_⟩, by omega⟩
        have := (HW.out.block b h).2
        omega)
      have XS := hid (XX.set (p := ⟨wr.heap.size, 7, none⟩) (fun b hb => hb.2) (.slice A7 os.length c7))
      have R5 := hid (T3.setAt 7 (.slice A7 os.length c7))
      have N0 := hid (M0.other (p := ⟨wr.heap.size, 7, none⟩) (by dsimp only; omega) (.slice A7 os.length c7))
      have N1 := hid (M1.other (p := ⟨wr.heap.size, 7, none⟩) (by dsimp only; have := M1.lt; have := K1.out.lt; omega) (.slice A7 os.length c7))
      have N2 := hid (M2.other (p := ⟨wr.heap.size, 7, none⟩) (by dsimp only; omega) (.slice A7 os.length c7))
      have NW := hid (W3.otherNe (p := ⟨wr.heap.size, 7, none⟩) (fun h => absurd (HW.out.block _ h).2 (Nat.lt_irrefl _)) (.slice A7 os.length c7))
      have NE := hid ((E.trans E3).set (p := ⟨wr.heap.size, 7, none⟩) (by dsimp only; exact E.size) (.slice A7 os.length c7))
      simp only [List.setIfInBounds_toArray, List.set_cons_zero, List.set_cons_succ] at R5
      obtain ⟨e0, e1, e2, e3, e4, e5, e6, e7⟩ : _ ∧ _ ∧ _ ∧ _ ∧ _ ∧ _ ∧ _ ∧ _ := ⟨T3.cell 0, T3.cell 1, T3.cell 2, T3.cell 3, T3.cell 4, T3.cell 5, T3.cell 6, T3.cell 7⟩
      have e7f := T3.fro 7
      have ez := T3.lt
      obtain ⟨q0, q1⟩ : _ ∧ _ := ⟨M2.cell 0, M2.cell 1⟩
      have qz := M2.lt
      have qf := M2.fro 1
      simp only [List.getElem?_toArray, List.getElem?_cons_zero, List.getElem?_cons_succ] at e0 e1 e2 e3 e4 e5 e6 e7 q0 q1
      have hne2 : ¬ w.heap.size + 2 = wr.heap.size := by omega
      have hne3 : ¬ wr.heap.size = w.heap.size + 2 := by omega
      clear T5 TZ EA ho3 hg3 hf7 hb7 hbl hK T3 M0 M1 M2 W3 XX a0 a1 o0 o1 d0 d1 d2 d3 d4 d5 d6 d7 HW KX K0 K1 K2 HOP HO7
      have TL : Blk ((w3.setCell ⟨wr.heap.size, 7, none⟩ (.slice A7 os.length c7)).alloc (.cells (gPt (⟨f, d, g, tl, th, sl, sh, os⟩, A7, c7)).toArray 64)) w3.heap.size 64 (gPt (⟨f, d, g, tl, th, sl, sh, os⟩, A7, c7)).toArray := by
        have h := blk_last (w3.setCell ⟨wr.heap.size, 7, none⟩ (.slice A7 os.length c7)) (.cells (gPt (⟨f, d, g, tl, th, sl, sh, os⟩, A7, c7)).toArray 64)
        rw [show (w3.setCell ⟨wr.heap.size, 7, none⟩ (.slice A7 os.length c7)).heap.size = w3.heap.size by simp] at h
        exact h
      have HTL2 := hid TL
      clear TL
      go_wp2_with (at_builtin; refine Halt.mk ?_)
      unfold Halt
      have TL := HTL2.out
      refine appPt _ rfl _ _ rfl (w.heap.size + 3) (.slice A2 k c2) xs rfl (NW.out.ext (ext_alloc1 _ _)) w3.heap.size (⟨f, d, g, tl, th, sl, sh, os⟩, A7, c7) rfl TL (by omega) (by simp; omega) ?_
      intro v9 w9 hO9 hg9 hw9
      have E9 := hid (NW.out.extApp NE.out (by omega) hg9)
      have P0 := hid (NW.out.blkApp N0.out (by omega) hg9)
      have P1 := hid (NW.out.blkApp N1.out (by omega) hg9)
      have P2 := NW.out.blkApp N2.out (by omega) hg9
      have hs9 := hg9.size
      have XR := ((XS.out.ext (ext_alloc1 _ (.cells (gPt (⟨f, d, g, tl, th, sl, sh, os⟩, A7, c7)).toArray 64))).grown hg9 (fun b hb => hb.1.2.2)).mono (q := fun b => w.heap.size + 3 ≤ b ∧ b < w9.heap.size ∧ v9.ownBlock ≠ some b) (fun b hb => ⟨hb.1.1, by
        have h1 := hb.1.2.1
        have h2 : w3.heap.size ≤ w9.heap.size := Nat.le_trans (by simp) hs9
        omega, fun h => by
        rcases hw9 with h3 | h3
        · exact hb.1.2.2 (h3 ▸ h)
        · rw [h3] at h
          injection h with h
          have h1 := hb.1.2.1
          simp at h
          omega⟩)
      have HMM := hid (show (xs ++ [((⟨f, d, g, tl, th, sl, sh, os⟩, A7, c7) : PtX)]).map (·.1) = FT (k + 1) by rw [List.map_append, HM.out, HS1.out]; rfl)
      have hxl2 : (xs ++ [((⟨f, d, g, tl, th, sl, sh, os⟩, A7, c7) : PtX)]).length = k + 1 := by simp [hxl]
      obtain ⟨A9, c9, rfl, -, -, -⟩ := (hO9.form (by decide) (fun _ => rfl) zeroPx)
      rw [hxl2] at hO9 XR ⊢
      have R9 := hid (P2.setAt 1 (.slice A9 (k + 1) c9))
      have Q0 := hid (P0.out.other (p := ⟨w.heap.size + 2, 1, none⟩) (by dsimp only; omega) (.slice A9 (k + 1) c9))
      have Q1 := hid (P1.out.other (p := ⟨w.heap.size + 2, 1, none⟩) (by dsimp only; omega) (.slice A9 (k + 1) c9))
      have QW := hid (hO9.other (p := ⟨w.heap.size + 2, 1, none⟩) (by dsimp only; omega) (.slice A9 (k + 1) c9))
      have QX := hid (XR.set (p := ⟨w.heap.size + 2, 1, none⟩) (fun b hb => by dsimp only; omega) (.slice A9 (k + 1) c9))
      have QE := hid (E9.out.set (p := ⟨w.heap.size + 2, 1, none⟩) (by dsimp only; omega) (.slice A9 (k + 1) c9))
      simp only [List.setIfInBounds_toArray, List.set_cons_zero, List.set_cons_succ] at R9
      obtain ⟨y0, y1⟩ : _ ∧ _ := ⟨P2.cell 0, P2.cell 1⟩
      have yz := P2.lt
      have yf := P2.fro 1
      simp only [List.getElem?_toArray, List.getElem?_cons_zero, List.getElem?_cons_succ] at y0 y1
      have hsz : (w9.setCell ⟨w.heap.size + 2, 1, none⟩ (.slice A9 (k + 1) c9)).heap.size = w9.heap.size := by simp
      have HSZ := hid hsz
      clear P2 P0 P1 E9 XR hO9 hg9 hw9 hs9 HTL2 TL e0 e1 e2 e3 e4 e5 e6 e7 e7f ez q0 q1 qz qf N0 N1 N2 NW NE R5 XS HM HS1 hxl2 hsz hne2 hne3
      go_wp2
      go_roundw
      case rel => exact ⟨QE.out, k + 1, A9, c9, xs ++ [((⟨f, d, g, tl, th, sl, sh, os⟩, A7, c7) : PtX)], by omega, by go_num, Q0, Q1, R9, QW, HMM, hid (by rw [HSZ.out]; exact QX.out)⟩
      case measure => simp [intOf]; omega
    · obtain rfl : k = nn := by omega
      have h1f := K1.out.fro 0
      have h2f := K1.out.fro 1
      obtain ⟨h10, h11⟩ : _ ∧ _ := ⟨K1.out.cell 0, K1.out.cell 1⟩
      simp only [List.getElem?_toArray, List.getElem?_cons_zero, List.getElem?_cons_succ] at h10 h11
      have z1 := K1.out.lt
      have R := (K1.out.setAt 0 (.int .i64 m)).setAt 1 (.slice A2 k c2)
      have QW := hid (((HW.out.other (p := ⟨w.heap.size + 1, 0, none⟩) (by dsimp only; omega) (.int .i64 m)).other (p := ⟨w.heap.size + 1, 1, none⟩) (by dsimp only; omega) (.slice A2 k c2)).low (show w.heap.size ≤ w.heap.size + 3 by omega))
      have QX := hid (((KX.out.set (p := ⟨w.heap.size + 1, 0, none⟩) (fun b hb => by dsimp only; omega) (.int .i64 m)).set (p := ⟨w.heap.size + 1, 1, none⟩) (fun b hb => by dsimp only; omega) (.slice A2 k c2)).mono (q := fun b => w.heap.size ≤ b ∧ b < ((wr.setCell ⟨w.heap.size + 1, 0, none⟩ (.int .i64 m)).setCell ⟨w.heap.size + 1, 1, none⟩ (.slice A2 k c2)).heap.size ∧ (Value.slice A2 k c2).ownBlock ≠ some b) (fun b hb => ⟨by omega, by have := hb.2.1; simpa using this, hb.2.2⟩))
      have QE := hid ((E.set (p := ⟨w.heap.size + 1, 0, none⟩) (by dsimp only; omega) (.int .i64 m)).set (p := ⟨w.heap.size + 1, 1, none⟩) (by dsimp only; omega) (.slice A2 k c2))
      have HMM := hid (HM.out.trans HTN.out)
      simp only [List.setIfInBounds_toArray, List.set_cons_zero, List.set_cons_succ] at R
      obtain ⟨r0, r1⟩ : _ ∧ _ := ⟨R.cell 0, R.cell 1⟩
      simp only [List.getElem?_toArray, List.getElem?_cons_zero, List.getElem?_cons_succ] at r0 r1
      clear R HW KX HM HTN HTL HTS HO
      go_wp2
      exact bodyPost_ret (v := .agg #[.int .i64 m, .slice A2 k c2]) (by simp [results, Tryz.results18, go_sem, r0, r1]) rfl ⟨A2, c2, xs, rfl, HMM.out, QW.out, QX.out, QE.out⟩
end Go.Proofs.YtecamnhnjmldcaaGreatDoor
