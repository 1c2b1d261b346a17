/- Serve, of the program: the whole. -/
import Derived.Test.YtcfijidlbimckaaDoorServe
set_option linter.unusedSimpArgs false
set_option linter.unusedVariables false
namespace Go.Proofs.YtcfijidlbimckaaDoor
open Go.RowKit
theorem bestS_in (d : Wat) (en : Nat → Bool) : ∀ (ps : List Nat) (o : Option Nat) (p : Nat), ps.foldl (pickS d en) o = some p → o = some p ∨ p ∈ ps
  | [], o, p, h => .inl h
  | x :: ps, o, p, h => by
    rcases bestS_in d en ps _ p h with h1 | h1
    · unfold pickS at h1
      cases o with
      | none =>
        dsimp only at h1
        split at h1
        · injection h1 with h1; exact .inr (by simp [h1])
        · cases h1
      | some r =>
        dsimp only at h1
        split at h1
        · injection h1 with h1; exact .inr (by simp [h1])
        · exact .inl h1
    · exact .inr (by simp [h1])
theorem servO_lt {d : Wat} (hok : WOk d) {need : Int} {p : Nat} (h : servO d need = some p) : p < 2 ^ d.spr.length := by
  rcases bestS_in d _ _ none p h with h1 | h1
  · cases h1
  · have hb : dif (2 ^ d.spr.length - 1) (surN d) < 256 := Nat.lt_of_le_of_lt (dif_le _ _) hok.p256
    have h2 := (mem_subsL hb).1 h1
    have h3 : p ≤ dif (2 ^ d.spr.length - 1) (surN d) := by rw [← h2]; exact Nat.and_le_right
    have h4 := dif_le (2 ^ d.spr.length - 1) (surN d)
    have h5 : 0 < 2 ^ d.spr.length := Nat.two_pow_pos _
    omega
/-- What Serve returns. -/
def ServeIs (d : Wat) (need : Int) (w : World) (e : Ending) (w' : World) : Prop :=
  e = .returned (.tuple #[.int .i64 (servP d need : Nat), .int .i64 (servQ d need : Nat), .int .i64 (servF d need), .int .i64 (servE d need)]) ∧ Ext w w'
theorem wp_name {P : Program} {c : Code} {Q : Exit → Act → World → Prop} {a : Act} {w : World} (h : ∀ QQ, QQ = Q → Code.wp P c QQ a w) : Code.wp P c Q a w := h Q rfl
theorem prop_abs {α : Type} {p : α → Prop} (x : α) (F : α → Prop) (hF : F x) (h : ∀ y, F y → p y) : p x := h x hF
set_option maxHeartbeats 4000000 in
set_option maxRecDepth 100000 in
theorem pserve_any (d : Wat) (A : WA) (need : Int) (hn : d.spr.length ≤ 1000) (hm : d.smp.length ≤ 1000) (w : World) (hW : WIn w d A) (hT : TabW w) :
    Calls Tryd.prog 17 #[wval d A, .int .i64 need] w (ServeIs d need w) := by
  have t0 := blks2 w (.cells (wcells d A) 25) (.cells #[.int .i64 need] 3)
  have BN := hid (show Blk ((w.alloc (.cells (wcells d A) 25)).alloc (.cells #[.int .i64 need] 3)) (w.heap.size + 1) 3 #[.int .i64 need] from t0.2)
  clear t0
  cases hc : watB d
  case false =>
    have HR := hid (show ServeIs d need w = fun e w' => e = .returned (.tuple #[.int .i64 0, .int .i64 0, .int .i64 0, .int .i64 40]) ∧ Ext w w' by
      have he : servE d need = 40 := by unfold servE; rw [hc]; rfl
      unfold ServeIs servP servQ servF
      rw [he]
      rfl)
    rw [HR.out]
    have HB := hid (fun (W : World) (hE : Ext w W) caps => beginS_check d A hn hm hc caps W (hW.ext hE))
    clear BN HR
    clear hT hW
    unfold wval at *
    obtain ⟨spr, most, miss, al, smp⟩ := d
    obtain ⟨SA, sc, MA, mc⟩ := A
    unfold wcells at *
    dsimp only at *
    generalize spr.length = n at *
    generalize smp.length = m at *
    go_enter Tryd.func17, Tryd.ntmps17
    go_wp2_with fail
    (go_at_call 43; refine (HB.out _ (by (repeat' (first | with_reducible assumption | with_reducible exact Ext.refl _ | with_reducible refine Ext.alloc ?_ _ | with_reducible refine Ext.set ?_ ?_ _ | with_reducible refine Ext.drew ?_ | with_reducible refine Ext.drewN ?_ _ | with_reducible refine Ext.trans ?_ (by assumption) | (dsimp only; omega)))) _).mono ?_; rintro e w2 ⟨rfl, hE⟩; (first | (have hK := KC.step (n := w.heap.size + 2) (by with_reducible assumption) hE) | (have hK := KC.step (KC.step (n := w.heap.size + 2) (by with_reducible assumption) (ext_alloc1 _ _)) hE) | (have hK := KC.step (KC.refl (n := w.heap.size + 2) (by simp)) hE)); have hC := hK.cell; have hF := hK.fro; have hX := hK.ext)
    go_wp2
    exact bodyPost_ret (v := .tuple #[.int .i64 0, .int .i64 0, .int .i64 0, .int .i64 40]) (by simp [results, Tryd.results17, go_sem]) rfl ⟨rfl, by (repeat' (first | with_reducible assumption | with_reducible exact Ext.refl _ | with_reducible refine Ext.alloc ?_ _ | with_reducible refine Ext.set ?_ ?_ _ | with_reducible refine Ext.drew ?_ | with_reducible refine Ext.drewN ?_ _ | with_reducible refine Ext.trans ?_ (by assumption) | (dsimp only; omega)))⟩
  have hok := watB_ok hc
  cases hq : wB need 0 10000
  case false =>
    have HR := hid (show ServeIs d need w = fun e w' => e = .returned (.tuple #[.int .i64 0, .int .i64 0, .int .i64 0, .int .i64 1]) ∧ Ext w w' by
      have he : servE d need = 1 := by unfold servE; rw [hc, hq]; rfl
      unfold ServeIs servP servQ servF
      rw [he]
      rfl)
    rw [HR.out]
    have HB := hid (fun (W : World) (hE : Ext w W) b (hb : Blk W b 3 #[.int .i64 need]) => beginS_asked d A hn hm hc #[.pointer (some ⟨b, 0, none⟩)] W (hW.ext hE) (fun W' hE' => by have := serve1_any d A (.slice none 0 0) need b W' (hb.ext hE'); rw [hq] at this; exact this))
    clear HR hq
    clear hT hW
    unfold wval at *
    obtain ⟨spr, most, miss, al, smp⟩ := d
    obtain ⟨SA, sc, MA, mc⟩ := A
    unfold wcells at *
    dsimp only at *
    generalize spr.length = n at *
    generalize smp.length = m at *
    go_enter Tryd.func17, Tryd.ntmps17
    go_wp2_with fail
    (go_at_call 43; refine (HB.out _ (by (repeat' (first | with_reducible assumption | with_reducible exact Ext.refl _ | with_reducible refine Ext.alloc ?_ _ | with_reducible refine Ext.set ?_ ?_ _ | with_reducible refine Ext.drew ?_ | with_reducible refine Ext.drewN ?_ _ | with_reducible refine Ext.trans ?_ (by assumption) | (dsimp only; omega)))) _ BN.out).mono ?_; rintro e w2 ⟨rfl, hE⟩; (first | (have hK := KC.step (n := w.heap.size + 2) (by with_reducible assumption) hE) | (have hK := KC.step (KC.step (n := w.heap.size + 2) (by with_reducible assumption) (ext_alloc1 _ _)) hE) | (have hK := KC.step (KC.refl (n := w.heap.size + 2) (by simp)) hE)); have hC := hK.cell; have hF := hK.fro; have hX := hK.ext)
    go_wp2
    exact bodyPost_ret (v := .tuple #[.int .i64 0, .int .i64 0, .int .i64 0, .int .i64 1]) (by simp [results, Tryd.results17, go_sem]) rfl ⟨rfl, by (repeat' (first | with_reducible assumption | with_reducible exact Ext.refl _ | with_reducible refine Ext.alloc ?_ _ | with_reducible refine Ext.set ?_ ?_ _ | with_reducible refine Ext.drew ?_ | with_reducible refine Ext.drewN ?_ _ | with_reducible refine Ext.trans ?_ (by assumption) | (dsimp only; omega)))⟩
  have HB := hid (fun (W : World) (hE : Ext w W) b (hb : Blk W b 3 #[.int .i64 need]) => beginS_ok d A hok hc #[.pointer (some ⟨b, 0, none⟩)] W (hW.ext hE) (hT.ext hE) (fun W' hE' => by have := serve1_any d A (.slice none 0 0) need b W' (hb.ext hE'); rw [hq] at this; exact this))
  unfold BeginIs at HB
  by_cases hnil : truthsL d = []
  · have HR := hid (show ServeIs d need w = fun e w' => e = .returned (.tuple #[.int .i64 0, .int .i64 0, .int .i64 0, .int .i64 3]) ∧ Ext w w' by
      have he : servE d need = 3 := by unfold servE; rw [hc, hq, hnil]; rfl
      unfold ServeIs servP servQ servF
      rw [he]
      rfl)
    rw [HR.out]
    have HB2 := hid (fun W hE b hb => (HB.out W hE b hb).mono fun e w' h => h.1 hnil)
    clear HR hq HB hnil
    clear hT hW
    unfold wval at *
    obtain ⟨spr, most, miss, al, smp⟩ := d
    obtain ⟨SA, sc, MA, mc⟩ := A
    unfold wcells at *
    dsimp only at *
    generalize spr.length = n at *
    generalize smp.length = m at *
    go_enter Tryd.func17, Tryd.ntmps17
    go_wp2_with fail
    (go_at_call 43; refine (HB2.out _ (by (repeat' (first | with_reducible assumption | with_reducible exact Ext.refl _ | with_reducible refine Ext.alloc ?_ _ | with_reducible refine Ext.set ?_ ?_ _ | with_reducible refine Ext.drew ?_ | with_reducible refine Ext.drewN ?_ _ | with_reducible refine Ext.trans ?_ (by assumption) | (dsimp only; omega)))) _ BN.out).mono ?_; rintro e w2 ⟨rfl, hE⟩; (first | (have hK := KC.step (n := w.heap.size + 2) (by with_reducible assumption) hE) | (have hK := KC.step (KC.step (n := w.heap.size + 2) (by with_reducible assumption) (ext_alloc1 _ _)) hE) | (have hK := KC.step (KC.refl (n := w.heap.size + 2) (by simp)) hE)); have hC := hK.cell; have hF := hK.fro; have hX := hK.ext)
    go_wp2
    exact bodyPost_ret (v := .tuple #[.int .i64 0, .int .i64 0, .int .i64 0, .int .i64 3]) (by simp [results, Tryd.results17, go_sem]) rfl ⟨rfl, by (repeat' (first | with_reducible assumption | with_reducible exact Ext.refl _ | with_reducible refine Ext.alloc ?_ _ | with_reducible refine Ext.set ?_ ?_ _ | with_reducible refine Ext.drew ?_ | with_reducible refine Ext.drewN ?_ _ | with_reducible refine Ext.trans ?_ (by assumption) | (dsimp only; omega)))⟩
  have HB2 := hid (fun W hE b hb => (HB.out W hE b hb).mono fun e w' h => h.2 hnil)
  have HLT := hid (truths_lt hok)
  have hlen := truths_len hok
  have h8 := hok.n8
  have h256 := two8 h8
  have hsu : surN d ≤ 2 ^ d.spr.length - 1 := sureN_le _ _
  have h2p : 0 < 2 ^ d.spr.length := Nat.two_pow_pos _
  have hslt : surN d < 2 ^ d.spr.length := by omega
  have HSU := hid (fun (TA : Option Addr) (tc : Nat) (W : World) (hS : SetsAt W TA (truthsL d)) => surelyClean_any d A TA tc (truthsL d) h8 HLT.out hlen W hS)
  have HSUN := hid (show sureN d.spr.length (truthsL d) = surN d from rfl)
  rw [HSUN.out] at HSU
  have HSP := hid (fun (T : Value) (W : World) => springs_any d A T (by omega) W)
  have HBA := hid (fun (T : Value) (W : World) (hE : Ext w W) => batch_any d A T (surN d) hok hslt W (hT.ext hE) (hW.ext hE))
  have hdl : dif (2 ^ d.spr.length - 1) (surN d) < 2 ^ d.spr.length := by have := dif_le (2 ^ d.spr.length - 1) (surN d); omega
  have HCH := hid (fun (T : Value) (W : World) (hE : Ext w W) (b c : Nat) (hb : Blk W b 79 (bcells d (surN d))) (hc : Blk W c 3 #[.int .i64 need]) =>
    cheapest_any d A T (dif (2 ^ d.spr.length - 1) (surN d)) hok hdl (enB d need) #[.pointer (some ⟨b, 0, none⟩), .pointer (some ⟨c, 0, none⟩)] W (hT.ext hE) (hW.ext hE)
      (fun p W' hp hE' => serve2_any d hok (surN d) hslt need p hp b c W' (hb.ext hE') (hc.ext hE')))
  have HSO := hid (show bestS d (enB d need) (subsL (dif (2 ^ d.spr.length - 1) (surN d))) = servO d need from rfl)
  rw [HSO.out] at HCH
  have HRN := hid (fun (ho : servO d need = none) => (show ServeIs d need w = fun e w' => e = .returned (.tuple #[.int .i64 0, .int .i64 0, .int .i64 0, .int .i64 3]) ∧ Ext w w' by
      have he : servE d need = 3 := by unfold servE; rw [if_pos hc, if_pos hq, if_neg hnil, ho]; rfl
      unfold ServeIs servP servQ servF
      rw [he]
      rfl))
  have HRS := hid (fun p (ho : servO d need = some p) => (show ServeIs d need w = fun e w' => e = .returned (.tuple #[.int .i64 (surN d : Nat), .int .i64 (p : Nat), .int .i64 (fuelN d.spr (bitsL p)), .int .i64 0]) ∧ Ext w w' by
      have he : servE d need = 0 := by unfold servE; rw [if_pos hc, if_pos hq, if_neg hnil, ho]; rfl
      unfold ServeIs servP servQ servF servT
      rw [he, ho]
      rfl))
  have HOL := hid (fun p (ho : servO d need = some p) => servO_lt hok ho)
  clear HB hnil hq HSUN HSO
  generalize truthsL d = tl at *
  generalize surN d = su at *
  have hdn := and_not_u64 (show 2 ^ d.spr.length - 1 < 18446744073709551616 by omega) (show su < 18446744073709551616 by omega)
  generalize dif (2 ^ d.spr.length - 1) su = dd at *
  generalize ho : servO d need = o at *
  generalize 2 ^ d.spr.length = n2 at *
  have HBC := hid (show bcells d su = #[.int .u64 su, .int .i64 (litN d.spr (bitsL su)), .int .i64 (fuelN d.spr (bitsL su))] from rfl)
  unfold fval fcells bval at *
  rw [HBC.out] at HBA
  generalize litN d.spr (bitsL su) = ls at *
  generalize fuelN d.spr (bitsL su) = fs at *
  have HOC := hid (show ocells d none = #[.int .u64 0, .int .i64 0, .int .i64 0] from rfl)
  have HOP := hid (fun p => show ocells d (some p) = #[.int .u64 p, .int .i64 (litN d.spr (bitsL p)), .int .i64 (fuelN d.spr (bitsL p))] from rfl)
  have hw1 : IntKind.i64.wrap (su : Int) = (su : Int) := IntWalk.i64_in _ (by omega)
  clear hc hok
  have HE0 := hid hT
  clear hT hW
  unfold wval at *
  obtain ⟨spr, most, miss, al, smp⟩ := d
  obtain ⟨SA, sc, MA, mc⟩ := A
  unfold wcells at *
  dsimp only at *
  generalize spr.length = n at *
  generalize smp.length = m at *
  go_enter Tryd.func17, Tryd.ntmps17
  go_wp2_with fail
  refine (HB2.out _ (by (repeat' (first | with_reducible assumption | with_reducible exact Ext.refl _ | with_reducible refine Ext.alloc ?_ _ | with_reducible refine Ext.set ?_ ?_ _ | with_reducible refine Ext.drew ?_ | with_reducible refine Ext.drewN ?_ _ | with_reducible refine Ext.trans ?_ (by assumption) | (dsimp only; omega)))) _ BN.out).mono ?_
  rintro e w2 ⟨v, rfl, hown, hE⟩
  obtain ⟨TA, tc, rfl, hS⟩ := hown.form
  have BN2 := hid (BN.out.ext (hE.trans (ext_alloc1 w2 (.cells #[.slice SA n sc, .int .i64 most, .int .i64 miss, .int .i64 al, .slice MA m mc, .slice TA tl.length tc] 72))))
  have HS := hid (hS.ext (ext_alloc1 w2 (.cells #[.slice SA n sc, .int .i64 most, .int .i64 miss, .int .i64 al, .slice MA m mc, .slice TA tl.length tc] 72)))
  have BQ := hid (Blk.new w2 72 #[.slice SA n sc, .int .i64 most, .int .i64 miss, .int .i64 al, .slice MA m mc, .slice TA tl.length tc])
  have E2 : Ext w (w2.alloc (.cells #[.slice SA n sc, .int .i64 most, .int .i64 miss, .int .i64 al, .slice MA m mc, .slice TA tl.length tc] 72)) := by (repeat' (first | with_reducible assumption | with_reducible exact Ext.refl _ | with_reducible refine Ext.alloc ?_ _ | with_reducible refine Ext.set ?_ ?_ _ | with_reducible refine Ext.drew ?_ | with_reducible refine Ext.drewN ?_ _ | with_reducible refine Ext.trans ?_ (by assumption) | (dsimp only; omega)))
  clear hown hS hE HB2 BN
  go_wp2_with fail
  obtain ⟨W, hWe⟩ : ∃ W, w2.alloc (.cells #[.slice SA n sc, .int .i64 most, .int .i64 miss, .int .i64 al, .slice MA m mc, .slice TA tl.length tc] 72) = W := ⟨_, rfl⟩
  obtain ⟨q, hqe⟩ : ∃ q, w2.heap.size = q := ⟨_, rfl⟩
  rw [hWe] at BN2 HS BQ E2
  rw [hqe] at BQ
  rw [hqe, hWe]
  clear hWe hqe
  have c0 := BQ.out.cell 0
  have c1 := BQ.out.cell 1
  have c2 := BQ.out.cell 2
  have c3 := BQ.out.cell 3
  have c4 := BQ.out.cell 4
  have c5 := BQ.out.cell 5
  have zq := BQ.out.lt
  simp only [List.getElem?_toArray, List.getElem?_cons_zero, List.getElem?_cons_succ] at c0 c1 c2 c3 c4 c5
  rename_i K1 hK1
  have REST : ∀ (b : Nat) (X : World), Ext W X → Blk X b 79 #[.int .u64 su, .int .i64 ls, .int .i64 fs] → K1 { tmps := #[.agg #[.slice SA n sc, .int .i64 most, .int .i64 miss, .int .i64 al, .slice MA m mc], .int .i64 need, .pointer (some ⟨w.heap.size, 0, none⟩), .pointer (some ⟨w.heap.size + 1, 0, none⟩), .int .i64 0, .int .i64 0, .int .i64 0, .int .i64 0, .pointer (some ⟨q, 0, none⟩), .pointer (some ⟨b, 0, none⟩), undef, undef, undef, .tuple #[.agg #[.slice SA n sc, .int .i64 most, .int .i64 miss, .int .i64 al, .slice MA m mc, .slice TA tl.length tc], .int .i64 0], .agg #[.slice SA n sc, .int .i64 most, .int .i64 miss, .int .i64 al, .slice MA m mc], .func (.func 47) #[] #[.pointer (some ⟨w.heap.size + 1, 0, none⟩)], .tuple #[.agg #[.slice SA n sc, .int .i64 most, .int .i64 miss, .int .i64 al, .slice MA m mc, .slice TA tl.length tc], .int .i64 0], .agg #[.slice SA n sc, .int .i64 most, .int .i64 miss, .int .i64 al, .slice MA m mc, .slice TA tl.length tc], .int .i64 0, .int .i64 0, .bool false, undef, .agg #[.slice SA n sc, .int .i64 most, .int .i64 miss, .int .i64 al, .slice MA m mc, .slice TA tl.length tc], .agg #[.slice SA n sc, .int .i64 most, .int .i64 miss, .int .i64 al, .slice MA m mc, .slice TA tl.length tc], .int .u64 (su : Int), .agg #[.int .u64 (su : Int), .int .i64 ls, .int .i64 fs], undef, undef, undef, undef, undef, undef, undef, undef, undef, undef, undef, undef, undef, undef, undef, undef, undef, undef, undef, undef, undef, undef], defers := [] } X := by
    intro b X hX hb
    have HB := hid hb
    have BN3 := hid (BN2.out.ext hX)
    have BQX := hid (BQ.out.ext hX)
    obtain ⟨u0, u1, u2, hu⟩ : ∃ (u0 : Nat) (u1 u2 : Int), ocells ⟨spr, most, miss, al, smp⟩ o = #[.int .u64 u0, .int .i64 u1, .int .i64 u2] := by
      cases o with
      | none => exact ⟨0, 0, 0, rfl⟩
      | some p => exact ⟨p, _, _, rfl⟩
    obtain ⟨ob, hob⟩ : ∃ ob, o.isSome = ob := ⟨_, rfl⟩
    have HU := hid hu
    have HOB := hid hob
    clear hu hob ho c0 c1 c2 c3 c4 c5 zq
    have c0 := BQX.out.cell 0
    have c1 := BQX.out.cell 1
    have c2 := BQX.out.cell 2
    have c3 := BQX.out.cell 3
    have c4 := BQX.out.cell 4
    have c5 := BQX.out.cell 5
    have d0 := hb.cell 0
    have zq := BQX.out.lt
    have zb := hb.lt
    simp only [List.getElem?_toArray, List.getElem?_cons_zero, List.getElem?_cons_succ] at c0 c1 c2 c3 c4 c5 d0
    clear hb
    refine hK1 _ _ ?_
    clear hK1 K1
    go_wp2_with fail
    rename_i K2 hK2
    have REST6 : ∀ (c : Nat) (Y : World), Ext X Y → Blk Y c 79 #[.int .u64 u0, .int .i64 u1, .int .i64 u2] → K2 { tmps := #[.agg #[.slice SA n sc, .int .i64 most, .int .i64 miss, .int .i64 al, .slice MA m mc], .int .i64 need, .pointer (some ⟨w.heap.size, 0, none⟩), .pointer (some ⟨w.heap.size + 1, 0, none⟩), .int .i64 0, .int .i64 0, .int .i64 0, .int .i64 0, .pointer (some ⟨q, 0, none⟩), .pointer (some ⟨b, 0, none⟩), .func (.func 50) #[] #[.pointer (some ⟨b, 0, none⟩), .pointer (some ⟨w.heap.size + 1, 0, none⟩)], .pointer (some ⟨c, 0, none⟩), .bool ob, .tuple #[.agg #[.slice SA n sc, .int .i64 most, .int .i64 miss, .int .i64 al, .slice MA m mc, .slice TA tl.length tc], .int .i64 0], .agg #[.slice SA n sc, .int .i64 most, .int .i64 miss, .int .i64 al, .slice MA m mc], .func (.func 47) #[] #[.pointer (some ⟨w.heap.size + 1, 0, none⟩)], .tuple #[.agg #[.slice SA n sc, .int .i64 most, .int .i64 miss, .int .i64 al, .slice MA m mc, .slice TA tl.length tc], .int .i64 0], .agg #[.slice SA n sc, .int .i64 most, .int .i64 miss, .int .i64 al, .slice MA m mc, .slice TA tl.length tc], .int .i64 0, .int .i64 0, .bool false, undef, .agg #[.slice SA n sc, .int .i64 most, .int .i64 miss, .int .i64 al, .slice MA m mc, .slice TA tl.length tc], .agg #[.slice SA n sc, .int .i64 most, .int .i64 miss, .int .i64 al, .slice MA m mc, .slice TA tl.length tc], .int .u64 (su : Int), .agg #[.int .u64 (su : Int), .int .i64 ls, .int .i64 fs], .func (.func 50) #[] #[.pointer (some ⟨b, 0, none⟩), .pointer (some ⟨w.heap.size + 1, 0, none⟩)], .tuple #[.agg #[.int .u64 (u0 : Int), .int .i64 u1, .int .i64 u2], .bool ob], .agg #[.slice SA n sc, .int .i64 most, .int .i64 miss, .int .i64 al, .slice MA m mc, .slice TA tl.length tc], .agg #[.slice SA n sc, .int .i64 most, .int .i64 miss, .int .i64 al, .slice MA m mc, .slice TA tl.length tc], .int .u64 ((n2 - 1 : Nat) : Int), .pointer (some ⟨b, 0, none⟩), .int .u64 (su : Int), .int .u64 (dd : Int), .func (.func 50) #[] #[.pointer (some ⟨b, 0, none⟩), .pointer (some ⟨w.heap.size + 1, 0, none⟩)], .tuple #[.agg #[.int .u64 (u0 : Int), .int .i64 u1, .int .i64 u2], .bool ob], .agg #[.int .u64 (u0 : Int), .int .i64 u1, .int .i64 u2], .bool ob, undef, undef, undef, undef, undef, undef, undef, undef, undef, undef], defers := [] } Y := by
      intro c Y hY hc
      have HC := hid hc
      have k0 := hc.cell 0
      have k2 := hc.cell 2
      have zc := hc.lt
      have e0 := (HB.out.ext hY).cell 0
      have zb := (HB.out.ext hY).lt
      have EY := E2.trans (hX.trans hY)
      simp only [List.getElem?_toArray, List.getElem?_cons_zero, List.getElem?_cons_succ] at k0 k2 e0
      clear hc c0 c1 c2 c3 c4 c5 d0 zq
      cases o with
      | none =>
        obtain rfl : ob = false := HOB.out.symm
        have HR := hid (HRN.out rfl)
        clear HRN
        refine hK2 _ _ ?_
        clear hK2 K2
        go_wp2
        rw [HR.out]
        exact bodyPost_ret (v := .tuple #[.int .i64 0, .int .i64 0, .int .i64 0, .int .i64 3]) (by simp [results, Tryd.results17, go_sem]) rfl ⟨rfl, EY⟩
      | some p =>
        obtain rfl : ob = true := HOB.out.symm
        have hu := HU.out.symm.trans (HOP.out p)
        have hp := HOL.out p rfl
        have HR := hid (HRS.out p rfl)
        simp only [Array.mk.injEq, List.cons.injEq, Value.int.injEq, true_and, and_true] at hu
        obtain ⟨hu0, hu1, hu2⟩ := hu
        have hu0' : u0 = p := by omega
        have HU2 := hid hu2
        have HU0 := hid hu0'
        clear hu0 hu1 hu2
        have hw2 : IntKind.i64.wrap (u0 : Int) = (u0 : Int) := IntWalk.i64_in _ (by omega)
        clear hu0'
        refine hK2 _ _ ?_
        clear hK2 K2
        go_wp2_with fail
        refine wp_region_held_drew (S := fun w' => (∀ b o, b < Y.heap.size → w'.cell? ⟨b, o, none⟩ = Y.cell? ⟨b, o, none⟩) ∧ Y.heap.size ≤ w'.heap.size ∧ Ext Y w') (by kernel_rfl) ?hS0 (fun hHeld => ?_)
        case hS0 => exact ⟨fun _ _ _ => rfl, Nat.le_refl _, Ext.drew (Ext.refl _)⟩
        refine wpAnyH_take (i := 0) (oi := _) (v := ?v0e) rfl (by kernel_rfl) (by kernel_rfl) (by kernel_rfl) (fun _ _ _ h => h) (Or.inl ⟨by rfl, ?y0e⟩) (by assumption) ?r0e
        case y0e => (intro w' hSw; (try dsimp only at hSw); go_simp; (try with_reducible rfl))
        try simp only [Act.put, List.getElem_toArray, List.getElem_cons_zero, List.getElem_cons_succ, List.setIfInBounds_toArray, List.set_cons_zero, List.set_cons_succ]
        refine wpAnyH_take (i := 1) (oi := _) (v := ?v1e) rfl (by kernel_rfl) (by kernel_rfl) (by kernel_rfl) (fun _ _ _ h => h) (Or.inl ⟨by rfl, ?y1e⟩) (by assumption) ?r1e
        case y1e => (intro w' hSw; (try dsimp only at hSw); go_simp; (try with_reducible rfl))
        try simp only [Act.put, List.getElem_toArray, List.getElem_cons_zero, List.getElem_cons_succ, List.setIfInBounds_toArray, List.set_cons_zero, List.set_cons_succ]
        refine wpAnyH_take (i := 2) (oi := _) (v := ?v2e) rfl (by kernel_rfl) (by kernel_rfl) (by kernel_rfl) (fun _ _ _ h => h) (Or.inl ⟨by rfl, ?y2e⟩) (by assumption) ?r2e
        case y2e => (intro w' hSw; (try dsimp only at hSw); go_simp; (try with_reducible rfl))
        try simp only [Act.put, List.getElem_toArray, List.getElem_cons_zero, List.getElem_cons_succ, List.setIfInBounds_toArray, List.set_cons_zero, List.set_cons_succ]
        refine wpAnyH_take (i := 3) (oi := _) (v := ?v3e) rfl (by kernel_rfl) (by kernel_rfl) (by kernel_rfl) (fun _ _ _ h => h) (Or.inl ⟨by rfl, ?y3e⟩) (by assumption) ?r3e
        case y3e => (intro w' hSw; (try dsimp only at hSw); go_simp; (try with_reducible rfl))
        try simp only [Act.put, List.getElem_toArray, List.getElem_cons_zero, List.getElem_cons_succ, List.setIfInBounds_toArray, List.set_cons_zero, List.set_cons_succ]
        refine wpAnyH_take (i := 4) (oi := _) (v := ?v4e) rfl (by kernel_rfl) (by kernel_rfl) (by kernel_rfl) (fun _ _ _ h => h) (Or.inl ⟨by rfl, ?y4e⟩) (by assumption) ?r4e
        case y4e => (intro w' hSw; (try dsimp only at hSw); go_simp; (try with_reducible rfl))
        try simp only [Act.put, List.getElem_toArray, List.getElem_cons_zero, List.getElem_cons_succ, List.setIfInBounds_toArray, List.set_cons_zero, List.set_cons_succ]
        refine wpAnyH_take (i := 5) (oi := _) (v := ?v5e) rfl (by kernel_rfl) (by kernel_rfl) (by kernel_rfl) (fun _ _ _ h => h) (Or.inl ⟨by rfl, ?y5e⟩) (by assumption) ?r5e
        case y5e => (intro w' hSw; (try dsimp only at hSw); go_simp; (try with_reducible rfl))
        try simp only [Act.put, List.getElem_toArray, List.getElem_cons_zero, List.getElem_cons_succ, List.setIfInBounds_toArray, List.set_cons_zero, List.set_cons_succ]
        refine wpAnyH_take (i := 6) (oi := _) (v := ?v6e) rfl (by kernel_rfl) (by kernel_rfl) (by kernel_rfl) (fun _ _ _ h => h) (Or.inl ⟨by rfl, ?y6e⟩) (by assumption) ?r6e
        case y6e => (intro w' hSw; (try dsimp only at hSw); go_simp; (try with_reducible rfl))
        try simp only [Act.put, List.getElem_toArray, List.getElem_cons_zero, List.getElem_cons_succ, List.setIfInBounds_toArray, List.set_cons_zero, List.set_cons_succ]
        refine wpAnyH_take (i := 7) (oi := _) (v := ?v7e) rfl (by kernel_rfl) (by kernel_rfl) (by kernel_rfl) (fun _ _ _ h => h) (Or.inl ⟨by rfl, ?y7e⟩) (by assumption) ?r7e
        case y7e => (intro w' hSw; (try dsimp only at hSw); go_simp; (try with_reducible rfl))
        try simp only [Act.put, List.getElem_toArray, List.getElem_cons_zero, List.getElem_cons_succ, List.setIfInBounds_toArray, List.set_cons_zero, List.set_cons_succ]
        refine wpAnyH_take (i := 8) (oi := _) (v := ?v8e) rfl (by kernel_rfl) (by kernel_rfl) (by kernel_rfl) (fun _ _ _ h => h) (Or.inl ⟨by rfl, ?y8e⟩) (by assumption) ?r8e
        case y8e => (intro w' hSw; (try dsimp only at hSw); go_simp; (try with_reducible rfl))
        try simp only [Act.put, List.getElem_toArray, List.getElem_cons_zero, List.getElem_cons_succ, List.setIfInBounds_toArray, List.set_cons_zero, List.set_cons_succ]
        refine wpAnyH_take (i := 9) (oi := _) (v := ?v9e) rfl (by kernel_rfl) (by kernel_rfl) (by kernel_rfl) (fun _ _ _ h => h) (Or.inl ⟨by rfl, ?y9e⟩) (by assumption) ?r9e
        case y9e => (intro w' hSw; (try dsimp only at hSw); go_simp; (try with_reducible rfl))
        try simp only [Act.put, List.getElem_toArray, List.getElem_cons_zero, List.getElem_cons_succ, List.setIfInBounds_toArray, List.set_cons_zero, List.set_cons_succ]
        refine wpAnyH_take (i := 10) (oi := _) (v := ?v10e) rfl (by kernel_rfl) (by kernel_rfl) (by kernel_rfl) (fun _ _ _ h => h) (Or.inl ⟨by rfl, ?y10e⟩) (by assumption) ?r10e
        case y10e => (intro w' hSw; (try dsimp only at hSw); go_simp; (try with_reducible rfl))
        try simp only [Act.put, List.getElem_toArray, List.getElem_cons_zero, List.getElem_cons_succ, List.setIfInBounds_toArray, List.set_cons_zero, List.set_cons_succ]
        refine wpAnyH_take (i := 11) (oi := _) (v := ?v11e) rfl (by kernel_rfl) (by kernel_rfl) (by kernel_rfl) (fun _ _ _ h => h) (Or.inl ⟨by rfl, ?y11e⟩) (by assumption) ?r11e
        case y11e => (intro w' hSw; (try dsimp only at hSw); go_simp; (try with_reducible rfl))
        try simp only [Act.put, List.getElem_toArray, List.getElem_cons_zero, List.getElem_cons_succ, List.setIfInBounds_toArray, List.set_cons_zero, List.set_cons_succ]
        clear hHeld
        refine wpAnyH_done (by kernel_rfl) ?_ _
        go_wp2
        rw [HR.out]
        exact bodyPost_ret (v := .tuple #[.int .i64 (su : Int), .int .i64 (u0 : Int), .int .i64 u2, .int .i64 0]) (by simp [results, Tryd.results17, go_sem]) rfl ⟨by rw [HU0.out, HU2.out], EY.drew⟩
    have HREST6 := hid REST6
    clear REST6 hK2
    refine wp_region_held_drew (S := fun w' => (∀ b o, b < X.heap.size → w'.cell? ⟨b, o, none⟩ = X.cell? ⟨b, o, none⟩) ∧ X.heap.size ≤ w'.heap.size ∧ Ext X w') (by kernel_rfl) ?hS0 (fun hHeld => ?_)
    case hS0 => exact ⟨fun _ _ _ => rfl, Nat.le_refl _, Ext.drew (Ext.refl _)⟩
    refine wpAnyH_take (i := 0) (oi := _) (v := ?v0b) rfl (by kernel_rfl) (by kernel_rfl) (by kernel_rfl) (fun _ _ _ h => h) (Or.inl ⟨by rfl, ?y0b⟩) (by assumption) ?r0b
    case y0b => (intro w' hSw; (try dsimp only at hSw); go_simp; (try with_reducible rfl))
    try simp only [Act.put, List.getElem_toArray, List.getElem_cons_zero, List.getElem_cons_succ, List.setIfInBounds_toArray, List.set_cons_zero, List.set_cons_succ]
    refine wpAnyH_take (i := 1) (oi := _) (v := ?v1b) rfl (by kernel_rfl) (by kernel_rfl) (by kernel_rfl) (fun _ _ _ h => h) (Or.inl ⟨by rfl, ?y1b⟩) (by assumption) ?r1b
    case y1b => (intro w' hSw; (try dsimp only at hSw); go_simp; (try with_reducible rfl))
    try simp only [Act.put, List.getElem_toArray, List.getElem_cons_zero, List.getElem_cons_succ, List.setIfInBounds_toArray, List.set_cons_zero, List.set_cons_succ]
    refine wpAnyH_take (i := 3) (oi := _) (v := ?v3b) rfl (by kernel_rfl) (by kernel_rfl) (by kernel_rfl) (fun _ _ _ h => h) (Or.inl ⟨by rfl, ?y3b⟩) (by assumption) ?r3b
    case y3b => (intro w' hSw; (try dsimp only at hSw); go_simp; (try with_reducible rfl))
    try simp only [Act.put, List.getElem_toArray, List.getElem_cons_zero, List.getElem_cons_succ, List.setIfInBounds_toArray, List.set_cons_zero, List.set_cons_succ]
    refine wpAnyH_take (i := 4) (oi := _) (v := ?v4b) rfl (by kernel_rfl) (by kernel_rfl) (by kernel_rfl) (fun _ _ _ h => h) (Or.inl ⟨by rfl, ?y4b⟩) (by assumption) ?r4b
    case y4b => (intro w' hSw; (try dsimp only at hSw); go_simp; (try with_reducible rfl))
    try simp only [Act.put, List.getElem_toArray, List.getElem_cons_zero, List.getElem_cons_succ, List.setIfInBounds_toArray, List.set_cons_zero, List.set_cons_succ]
    refine wpAnyH_take (i := 6) (oi := _) (v := ?v6b) rfl (by kernel_rfl) (by kernel_rfl) (by kernel_rfl) (fun _ _ _ h => h) (Or.inl ⟨by rfl, ?y6b⟩) (by assumption) ?r6b
    case y6b => (intro w' hSw; (try dsimp only at hSw); go_simp; (try with_reducible rfl))
    try simp only [Act.put, List.getElem_toArray, List.getElem_cons_zero, List.getElem_cons_succ, List.setIfInBounds_toArray, List.set_cons_zero, List.set_cons_succ]
    clear hHeld
    have XY : Ext X X.drew := Ext.drew (Ext.refl _)
    refine wpAnyH_ready (rs := [2, 11]) (by kernel_rfl) (by simp) ?_
    refine AllReadyH.cons (o := _) rfl (fun K hK => ?m2) (AllReadyH.cons (o := _) rfl (fun K hK => ?m11) AllReadyH.nil)
    case m2 =>
      go_simp
      refine (HSP.out _ _).mono ?_
      rintro e Y3 ⟨rfl, hE3⟩
      dsimp only
      replace XY := XY.trans hE3
      refine hK.out _ _ (sK XY) (fun hHeld => ?_)
      clear hK K
      try simp only [Act.put, List.getElem_toArray, List.getElem_cons_zero, List.getElem_cons_succ, List.setIfInBounds_toArray, List.set_cons_zero, List.set_cons_succ]
      refine wpAnyH_take (i := 5) (oi := _) (v := ?v5d1) rfl (by kernel_rfl) (by kernel_rfl) (by kernel_rfl) (fun _ _ _ h => h) (Or.inl ⟨by rfl, ?y5d1⟩) (by assumption) ?r5d1
      case y5d1 => (intro w' hSw; (try dsimp only at hSw); go_simp; (try with_reducible rfl))
      try simp only [Act.put, List.getElem_toArray, List.getElem_cons_zero, List.getElem_cons_succ, List.setIfInBounds_toArray, List.set_cons_zero, List.set_cons_succ]
      clear hHeld
      refine wpAnyH_ready (rs := [7, 11]) (by kernel_rfl) (by simp) ?_
      refine AllReadyH.cons (o := _) rfl (fun K hK => ?m27) (AllReadyH.cons (o := _) rfl (fun K hK => ?m211) AllReadyH.nil)
      case m27 =>
        go_simp
        refine (HCH.out _ _ ((E2.trans hX).trans XY) b (w.heap.size + 1) (by rw [HBC.out]; exact HB.out.ext XY) (BN3.out.ext XY)).mono ?_
        rintro e Y4 ⟨rfl, hE3⟩
        dsimp only
        rw [HU.out, HOB.out]
        replace XY := XY.trans hE3
        refine hK.out _ _ (sK XY) (fun hHeld => ?_)
        clear hK K
        try simp only [Act.put, List.getElem_toArray, List.getElem_cons_zero, List.getElem_cons_succ, List.setIfInBounds_toArray, List.set_cons_zero, List.set_cons_succ]
        refine wpAnyH_take (i := 8) (oi := _) (v := ?v8d2) rfl (by kernel_rfl) (by kernel_rfl) (by kernel_rfl) (fun _ _ _ h => h) (Or.inl ⟨by rfl, ?y8d2⟩) (by assumption) ?r8d2
        case y8d2 => (intro w' hSw; (try dsimp only at hSw); go_simp; (try with_reducible rfl))
        try simp only [Act.put, List.getElem_toArray, List.getElem_cons_zero, List.getElem_cons_succ, List.setIfInBounds_toArray, List.set_cons_zero, List.set_cons_succ]
        refine wpAnyH_take (i := 9) (oi := _) (v := ?v9d2) rfl (by kernel_rfl) (by kernel_rfl) (by kernel_rfl) (fun _ _ _ h => h) (Or.inl ⟨by rfl, ?y9d2⟩) (by assumption) ?r9d2
        case y9d2 => (intro w' hSw; (try dsimp only at hSw); go_simp; (try with_reducible rfl))
        try simp only [Act.put, List.getElem_toArray, List.getElem_cons_zero, List.getElem_cons_succ, List.setIfInBounds_toArray, List.set_cons_zero, List.set_cons_succ]
        refine wpAnyH_take (i := 10) (oi := _) (v := ?v10d2) rfl (by kernel_rfl) (by kernel_rfl) (by kernel_rfl) (fun _ _ _ h => h) (Or.inl ⟨by rfl, ?y10d2⟩) (by assumption) ?r10d2
        case y10d2 => (intro w' hSw; (try dsimp only at hSw); go_simp; (try with_reducible rfl))
        try simp only [Act.put, List.getElem_toArray, List.getElem_cons_zero, List.getElem_cons_succ, List.setIfInBounds_toArray, List.set_cons_zero, List.set_cons_succ]
        clear hHeld
        refine wpAnyH_ready (rs := [11]) (by kernel_rfl) (by simp) ?_
        refine AllReadyH.cons (o := _) rfl (fun K hK => ?_) AllReadyH.nil
        go_simp
        refine prop_abs _ (fun Z => Ext X Z ∧ Blk Z Y4.heap.size 79 #[.int .u64 0, .int .i64 0, .int .i64 0]) ⟨by (repeat' (first | with_reducible assumption | with_reducible exact Ext.refl _ | with_reducible refine Ext.alloc ?_ _ | with_reducible refine Ext.set ?_ ?_ _ | with_reducible refine Ext.drew ?_ | with_reducible refine Ext.drewN ?_ _ | with_reducible refine Ext.trans ?_ (by assumption) | (dsimp only; omega))), blk_last Y4 _⟩ ?_
        rintro Y5 ⟨XE, hBZ⟩
        have BZ := hid hBZ
        obtain ⟨c, hcc⟩ : ∃ c, Y4.heap.size = c := ⟨_, rfl⟩
        have hcz : X.heap.size ≤ c := by rw [← hcc]; exact XY.size
        rw [hcc] at BZ ⊢
        replace XY := XE
        refine hK.out _ _ (sK XY) (fun hHeld => ?_)
        clear hK K
        try simp only [Act.put, List.getElem_toArray, List.getElem_cons_zero, List.getElem_cons_succ, List.setIfInBounds_toArray, List.set_cons_zero, List.set_cons_succ]
        clear hHeld XE hBZ hcc
        have b0 := BZ.out.cell 0
        have b1 := BZ.out.cell 1
        have b2 := BZ.out.cell 2
        have g0 := BZ.out.fro 0
        have g1 := BZ.out.fro 1
        have g2 := BZ.out.fro 2
        have zb := BZ.out.lt
        simp only [List.getElem?_toArray, List.getElem?_cons_zero, List.getElem?_cons_succ] at b0 b1 b2
        refine wpAnyH_ready (rs := [12]) (by kernel_rfl) (by simp) ?_
        refine AllReadyH.cons (o := _) rfl (fun K hK => ?_) AllReadyH.nil
        go_simp
        refine prop_abs _ (fun Z => Ext X Z ∧ Blk Z c 79 #[.int .u64 u0, .int .i64 u1, .int .i64 u2]) ⟨by (repeat' (first | with_reducible assumption | with_reducible exact Ext.refl _ | with_reducible refine Ext.alloc ?_ _ | with_reducible refine Ext.set ?_ ?_ _ | with_reducible refine Ext.drew ?_ | with_reducible refine Ext.drewN ?_ _ | with_reducible refine Ext.trans ?_ (by assumption) | (dsimp only; omega))), by have h := ((BZ.out.setAt 0 (.int .u64 u0)).setAt 1 (.int .i64 u1)).setAt 2 (.int .i64 u2); exact h⟩ ?_
        rintro X9 ⟨XE, hB9⟩
        refine hK.out _ _ (sK XE) (fun hHeld => ?_)
        clear hK K
        try simp only [Act.put, List.getElem_toArray, List.getElem_cons_zero, List.getElem_cons_succ, List.setIfInBounds_toArray, List.set_cons_zero, List.set_cons_succ]
        refine wpAnyH_take (i := 13) (oi := _) (v := ?v13d3) rfl (by kernel_rfl) (by kernel_rfl) (by kernel_rfl) (fun _ _ _ h => h) (Or.inl ⟨by rfl, ?y13d3⟩) (by assumption) ?r13d3
        case y13d3 => (intro w' hSw; (try dsimp only at hSw); go_simp; (try with_reducible rfl))
        try simp only [Act.put, List.getElem_toArray, List.getElem_cons_zero, List.getElem_cons_succ, List.setIfInBounds_toArray, List.set_cons_zero, List.set_cons_succ]
        clear hHeld
        refine wpAnyH_done (by kernel_rfl) ?_ _
        exact HREST6.out c X9 XE hB9
      case m211 =>
        go_simp
        refine prop_abs _ (fun Z => Ext X Z ∧ Blk Z Y3.heap.size 79 #[.int .u64 0, .int .i64 0, .int .i64 0]) ⟨by (repeat' (first | with_reducible assumption | with_reducible exact Ext.refl _ | with_reducible refine Ext.alloc ?_ _ | with_reducible refine Ext.set ?_ ?_ _ | with_reducible refine Ext.drew ?_ | with_reducible refine Ext.drewN ?_ _ | with_reducible refine Ext.trans ?_ (by assumption) | (dsimp only; omega))), blk_last Y3 _⟩ ?_
        rintro Y4 ⟨XE, hBZ⟩
        have BZ := hid hBZ
        obtain ⟨c, hcc⟩ : ∃ c, Y3.heap.size = c := ⟨_, rfl⟩
        have hcz : X.heap.size ≤ c := by rw [← hcc]; exact XY.size
        rw [hcc] at BZ ⊢
        replace XY := XE
        refine hK.out _ _ (sK XY) (fun hHeld => ?_)
        clear hK K
        try simp only [Act.put, List.getElem_toArray, List.getElem_cons_zero, List.getElem_cons_succ, List.setIfInBounds_toArray, List.set_cons_zero, List.set_cons_succ]
        clear hHeld XE hBZ hcc
        refine wpAnyH_ready (rs := [7]) (by kernel_rfl) (by simp) ?_
        refine AllReadyH.cons (o := _) rfl (fun K hK => ?_) AllReadyH.nil
        go_simp
        refine (HCH.out _ _ ((E2.trans hX).trans XY) b (w.heap.size + 1) (by rw [HBC.out]; exact HB.out.ext XY) (BN3.out.ext XY)).mono ?_
        rintro e Y5 ⟨rfl, hE3⟩
        dsimp only
        rw [HU.out, HOB.out]
        replace XY := XY.trans hE3
        refine hK.out _ _ (sK XY) (fun hHeld => ?_)
        clear hK K
        try simp only [Act.put, List.getElem_toArray, List.getElem_cons_zero, List.getElem_cons_succ, List.setIfInBounds_toArray, List.set_cons_zero, List.set_cons_succ]
        refine wpAnyH_take (i := 8) (oi := _) (v := ?v8d4) rfl (by kernel_rfl) (by kernel_rfl) (by kernel_rfl) (fun _ _ _ h => h) (Or.inl ⟨by rfl, ?y8d4⟩) (by assumption) ?r8d4
        case y8d4 => (intro w' hSw; (try dsimp only at hSw); go_simp; (try with_reducible rfl))
        try simp only [Act.put, List.getElem_toArray, List.getElem_cons_zero, List.getElem_cons_succ, List.setIfInBounds_toArray, List.set_cons_zero, List.set_cons_succ]
        refine wpAnyH_take (i := 9) (oi := _) (v := ?v9d4) rfl (by kernel_rfl) (by kernel_rfl) (by kernel_rfl) (fun _ _ _ h => h) (Or.inl ⟨by rfl, ?y9d4⟩) (by assumption) ?r9d4
        case y9d4 => (intro w' hSw; (try dsimp only at hSw); go_simp; (try with_reducible rfl))
        try simp only [Act.put, List.getElem_toArray, List.getElem_cons_zero, List.getElem_cons_succ, List.setIfInBounds_toArray, List.set_cons_zero, List.set_cons_succ]
        refine wpAnyH_take (i := 10) (oi := _) (v := ?v10d4) rfl (by kernel_rfl) (by kernel_rfl) (by kernel_rfl) (fun _ _ _ h => h) (Or.inl ⟨by rfl, ?y10d4⟩) (by assumption) ?r10d4
        case y10d4 => (intro w' hSw; (try dsimp only at hSw); go_simp; (try with_reducible rfl))
        try simp only [Act.put, List.getElem_toArray, List.getElem_cons_zero, List.getElem_cons_succ, List.setIfInBounds_toArray, List.set_cons_zero, List.set_cons_succ]
        clear hHeld
        replace BZ := hid (BZ.out.ext hE3)
        have b0 := BZ.out.cell 0
        have b1 := BZ.out.cell 1
        have b2 := BZ.out.cell 2
        have g0 := BZ.out.fro 0
        have g1 := BZ.out.fro 1
        have g2 := BZ.out.fro 2
        have zb := BZ.out.lt
        simp only [List.getElem?_toArray, List.getElem?_cons_zero, List.getElem?_cons_succ] at b0 b1 b2
        refine wpAnyH_ready (rs := [12]) (by kernel_rfl) (by simp) ?_
        refine AllReadyH.cons (o := _) rfl (fun K hK => ?_) AllReadyH.nil
        go_simp
        refine prop_abs _ (fun Z => Ext X Z ∧ Blk Z c 79 #[.int .u64 u0, .int .i64 u1, .int .i64 u2]) ⟨by (repeat' (first | with_reducible assumption | with_reducible exact Ext.refl _ | with_reducible refine Ext.alloc ?_ _ | with_reducible refine Ext.set ?_ ?_ _ | with_reducible refine Ext.drew ?_ | with_reducible refine Ext.drewN ?_ _ | with_reducible refine Ext.trans ?_ (by assumption) | (dsimp only; omega))), by have h := ((BZ.out.setAt 0 (.int .u64 u0)).setAt 1 (.int .i64 u1)).setAt 2 (.int .i64 u2); exact h⟩ ?_
        rintro X9 ⟨XE, hB9⟩
        refine hK.out _ _ (sK XE) (fun hHeld => ?_)
        clear hK K
        try simp only [Act.put, List.getElem_toArray, List.getElem_cons_zero, List.getElem_cons_succ, List.setIfInBounds_toArray, List.set_cons_zero, List.set_cons_succ]
        refine wpAnyH_take (i := 13) (oi := _) (v := ?v13d5) rfl (by kernel_rfl) (by kernel_rfl) (by kernel_rfl) (fun _ _ _ h => h) (Or.inl ⟨by rfl, ?y13d5⟩) (by assumption) ?r13d5
        case y13d5 => (intro w' hSw; (try dsimp only at hSw); go_simp; (try with_reducible rfl))
        try simp only [Act.put, List.getElem_toArray, List.getElem_cons_zero, List.getElem_cons_succ, List.setIfInBounds_toArray, List.set_cons_zero, List.set_cons_succ]
        clear hHeld
        refine wpAnyH_done (by kernel_rfl) ?_ _
        exact HREST6.out c X9 XE hB9
    case m11 =>
      go_simp
      refine prop_abs _ (fun Z => Ext X Z ∧ Blk Z X.heap.size 79 #[.int .u64 0, .int .i64 0, .int .i64 0]) ⟨by (repeat' (first | with_reducible assumption | with_reducible exact Ext.refl _ | with_reducible refine Ext.alloc ?_ _ | with_reducible refine Ext.set ?_ ?_ _ | with_reducible refine Ext.drew ?_ | with_reducible refine Ext.drewN ?_ _ | with_reducible refine Ext.trans ?_ (by assumption) | (dsimp only; omega))), blk_last X _⟩ ?_
      rintro Y3 ⟨XE, hBZ⟩
      have BZ := hid hBZ
      obtain ⟨c, hcc⟩ : ∃ c, X.heap.size = c := ⟨_, rfl⟩
      have hcz : X.heap.size ≤ c := by rw [← hcc]; exact XY.size
      rw [hcc] at BZ ⊢
      replace XY := XE
      refine hK.out _ _ (sK XY) (fun hHeld => ?_)
      clear hK K
      try simp only [Act.put, List.getElem_toArray, List.getElem_cons_zero, List.getElem_cons_succ, List.setIfInBounds_toArray, List.set_cons_zero, List.set_cons_succ]
      clear hHeld XE hBZ hcc
      refine wpAnyH_ready (rs := [2]) (by kernel_rfl) (by simp) ?_
      refine AllReadyH.cons (o := _) rfl (fun K hK => ?_) AllReadyH.nil
      go_simp
      refine (HSP.out _ _).mono ?_
      rintro e Y4 ⟨rfl, hE3⟩
      dsimp only
      replace XY := XY.trans hE3
      refine hK.out _ _ (sK XY) (fun hHeld => ?_)
      clear hK K
      try simp only [Act.put, List.getElem_toArray, List.getElem_cons_zero, List.getElem_cons_succ, List.setIfInBounds_toArray, List.set_cons_zero, List.set_cons_succ]
      refine wpAnyH_take (i := 5) (oi := _) (v := ?v5d6) rfl (by kernel_rfl) (by kernel_rfl) (by kernel_rfl) (fun _ _ _ h => h) (Or.inl ⟨by rfl, ?y5d6⟩) (by assumption) ?r5d6
      case y5d6 => (intro w' hSw; (try dsimp only at hSw); go_simp; (try with_reducible rfl))
      try simp only [Act.put, List.getElem_toArray, List.getElem_cons_zero, List.getElem_cons_succ, List.setIfInBounds_toArray, List.set_cons_zero, List.set_cons_succ]
      clear hHeld
      replace BZ := hid (BZ.out.ext hE3)
      refine wpAnyH_ready (rs := [7]) (by kernel_rfl) (by simp) ?_
      refine AllReadyH.cons (o := _) rfl (fun K hK => ?_) AllReadyH.nil
      go_simp
      refine (HCH.out _ _ ((E2.trans hX).trans XY) b (w.heap.size + 1) (by rw [HBC.out]; exact HB.out.ext XY) (BN3.out.ext XY)).mono ?_
      rintro e Y5 ⟨rfl, hE3⟩
      dsimp only
      rw [HU.out, HOB.out]
      replace XY := XY.trans hE3
      refine hK.out _ _ (sK XY) (fun hHeld => ?_)
      clear hK K
      try simp only [Act.put, List.getElem_toArray, List.getElem_cons_zero, List.getElem_cons_succ, List.setIfInBounds_toArray, List.set_cons_zero, List.set_cons_succ]
      refine wpAnyH_take (i := 8) (oi := _) (v := ?v8d7) rfl (by kernel_rfl) (by kernel_rfl) (by kernel_rfl) (fun _ _ _ h => h) (Or.inl ⟨by rfl, ?y8d7⟩) (by assumption) ?r8d7
      case y8d7 => (intro w' hSw; (try dsimp only at hSw); go_simp; (try with_reducible rfl))
      try simp only [Act.put, List.getElem_toArray, List.getElem_cons_zero, List.getElem_cons_succ, List.setIfInBounds_toArray, List.set_cons_zero, List.set_cons_succ]
      refine wpAnyH_take (i := 9) (oi := _) (v := ?v9d7) rfl (by kernel_rfl) (by kernel_rfl) (by kernel_rfl) (fun _ _ _ h => h) (Or.inl ⟨by rfl, ?y9d7⟩) (by assumption) ?r9d7
      case y9d7 => (intro w' hSw; (try dsimp only at hSw); go_simp; (try with_reducible rfl))
      try simp only [Act.put, List.getElem_toArray, List.getElem_cons_zero, List.getElem_cons_succ, List.setIfInBounds_toArray, List.set_cons_zero, List.set_cons_succ]
      refine wpAnyH_take (i := 10) (oi := _) (v := ?v10d7) rfl (by kernel_rfl) (by kernel_rfl) (by kernel_rfl) (fun _ _ _ h => h) (Or.inl ⟨by rfl, ?y10d7⟩) (by assumption) ?r10d7
      case y10d7 => (intro w' hSw; (try dsimp only at hSw); go_simp; (try with_reducible rfl))
      try simp only [Act.put, List.getElem_toArray, List.getElem_cons_zero, List.getElem_cons_succ, List.setIfInBounds_toArray, List.set_cons_zero, List.set_cons_succ]
      clear hHeld
      replace BZ := hid (BZ.out.ext hE3)
      have b0 := BZ.out.cell 0
      have b1 := BZ.out.cell 1
      have b2 := BZ.out.cell 2
      have g0 := BZ.out.fro 0
      have g1 := BZ.out.fro 1
      have g2 := BZ.out.fro 2
      have zb := BZ.out.lt
      simp only [List.getElem?_toArray, List.getElem?_cons_zero, List.getElem?_cons_succ] at b0 b1 b2
      refine wpAnyH_ready (rs := [12]) (by kernel_rfl) (by simp) ?_
      refine AllReadyH.cons (o := _) rfl (fun K hK => ?_) AllReadyH.nil
      go_simp
      refine prop_abs _ (fun Z => Ext X Z ∧ Blk Z c 79 #[.int .u64 u0, .int .i64 u1, .int .i64 u2]) ⟨by (repeat' (first | with_reducible assumption | with_reducible exact Ext.refl _ | with_reducible refine Ext.alloc ?_ _ | with_reducible refine Ext.set ?_ ?_ _ | with_reducible refine Ext.drew ?_ | with_reducible refine Ext.drewN ?_ _ | with_reducible refine Ext.trans ?_ (by assumption) | (dsimp only; omega))), by have h := ((BZ.out.setAt 0 (.int .u64 u0)).setAt 1 (.int .i64 u1)).setAt 2 (.int .i64 u2); exact h⟩ ?_
      rintro X9 ⟨XE, hB9⟩
      refine hK.out _ _ (sK XE) (fun hHeld => ?_)
      clear hK K
      try simp only [Act.put, List.getElem_toArray, List.getElem_cons_zero, List.getElem_cons_succ, List.setIfInBounds_toArray, List.set_cons_zero, List.set_cons_succ]
      refine wpAnyH_take (i := 13) (oi := _) (v := ?v13d8) rfl (by kernel_rfl) (by kernel_rfl) (by kernel_rfl) (fun _ _ _ h => h) (Or.inl ⟨by rfl, ?y13d8⟩) (by assumption) ?r13d8
      case y13d8 => (intro w' hSw; (try dsimp only at hSw); go_simp; (try with_reducible rfl))
      try simp only [Act.put, List.getElem_toArray, List.getElem_cons_zero, List.getElem_cons_succ, List.setIfInBounds_toArray, List.set_cons_zero, List.set_cons_succ]
      clear hHeld
      refine wpAnyH_done (by kernel_rfl) ?_ _
      exact HREST6.out c X9 XE hB9
  have HREST := hid REST
  clear REST hK1
  refine wp_region_held_drew (S := fun w' => (∀ b o, b < W.heap.size → w'.cell? ⟨b, o, none⟩ = W.cell? ⟨b, o, none⟩) ∧ W.heap.size ≤ w'.heap.size ∧ Ext W w') (by kernel_rfl) ?hS0 (fun hHeld => ?_)
  case hS0 => exact ⟨fun _ _ _ => rfl, Nat.le_refl _, Ext.drew (Ext.refl _)⟩
  refine wpAnyH_take (i := 0) (oi := _) (v := ?v0a) rfl (by kernel_rfl) (by kernel_rfl) (by kernel_rfl) (fun _ _ _ h => h) (Or.inl ⟨by rfl, ?y0a⟩) (by assumption) ?r0a
  case y0a => (intro w' hSw; (try dsimp only at hSw); go_simp; (try with_reducible rfl))
  try simp only [Act.put, List.getElem_toArray, List.getElem_cons_zero, List.getElem_cons_succ, List.setIfInBounds_toArray, List.set_cons_zero, List.set_cons_succ]
  refine wpAnyH_take (i := 1) (oi := _) (v := ?v1a) rfl (by kernel_rfl) (by kernel_rfl) (by kernel_rfl) (fun _ _ _ h => h) (Or.inl ⟨by rfl, ?y1a⟩) (by assumption) ?r1a
  case y1a => (intro w' hSw; (try dsimp only at hSw); go_simp; (try with_reducible rfl))
  try simp only [Act.put, List.getElem_toArray, List.getElem_cons_zero, List.getElem_cons_succ, List.setIfInBounds_toArray, List.set_cons_zero, List.set_cons_succ]
  clear hHeld
  have XY : Ext W W.drew := Ext.drew (Ext.refl _)
  refine wpAnyH_ready (rs := [2, 4]) (by kernel_rfl) (by simp) ?_
  refine AllReadyH.cons (o := _) rfl (fun K hK => ?n2) (AllReadyH.cons (o := _) rfl (fun K hK => ?n4) AllReadyH.nil)
  case n2 =>
    go_simp
    refine (HSU.out _ _ _ (HS.out.ext XY)).mono ?_
    rintro e Y3 ⟨rfl, hE3⟩
    dsimp only
    replace XY := XY.trans hE3
    refine hK.out _ _ (sK XY) (fun hHeld => ?_)
    clear hK K
    try simp only [Act.put, List.getElem_toArray, List.getElem_cons_zero, List.getElem_cons_succ, List.setIfInBounds_toArray, List.set_cons_zero, List.set_cons_succ]
    clear hHeld hE3
    refine wpAnyH_ready (rs := [3, 4]) (by kernel_rfl) (by simp) ?_
    refine AllReadyH.cons (o := _) rfl (fun K hK => ?n23) (AllReadyH.cons (o := _) rfl (fun K hK => ?n24) AllReadyH.nil)
    case n23 =>
      go_simp
      refine (HBA.out _ _ (E2.trans XY)).mono ?_
      rintro e Y4 ⟨rfl, hE3⟩
      dsimp only
      replace XY := XY.trans hE3
      refine hK.out _ _ (sK XY) (fun hHeld => ?_)
      clear hK K
      try simp only [Act.put, List.getElem_toArray, List.getElem_cons_zero, List.getElem_cons_succ, List.setIfInBounds_toArray, List.set_cons_zero, List.set_cons_succ]
      clear hHeld
      refine wpAnyH_ready (rs := [4]) (by kernel_rfl) (by simp) ?_
      refine AllReadyH.cons (o := _) rfl (fun K hK => ?_) AllReadyH.nil
      go_simp
      refine prop_abs _ (fun X => Ext W X ∧ Blk X Y4.heap.size 79 #[.int .u64 0, .int .i64 0, .int .i64 0]) ⟨by (repeat' (first | with_reducible assumption | with_reducible exact Ext.refl _ | with_reducible refine Ext.alloc ?_ _ | with_reducible refine Ext.set ?_ ?_ _ | with_reducible refine Ext.drew ?_ | with_reducible refine Ext.drewN ?_ _ | with_reducible refine Ext.trans ?_ (by assumption) | (dsimp only; omega))), blk_last Y4 _⟩ ?_
      rintro Y5 ⟨XE, hBZ⟩
      have BZ := hid hBZ
      obtain ⟨b, hb⟩ : ∃ b, Y4.heap.size = b := ⟨_, rfl⟩
      have hbz : W.heap.size ≤ b := by rw [← hb]; exact XY.size
      rw [hb] at BZ ⊢
      replace XY := XE
      refine hK.out _ _ (sK XY) (fun hHeld => ?_)
      clear hK K
      try simp only [Act.put, List.getElem_toArray, List.getElem_cons_zero, List.getElem_cons_succ, List.setIfInBounds_toArray, List.set_cons_zero, List.set_cons_succ]
      clear hHeld XE hBZ hb
      have b0 := BZ.out.cell 0
      have b1 := BZ.out.cell 1
      have b2 := BZ.out.cell 2
      have g0 := BZ.out.fro 0
      have g1 := BZ.out.fro 1
      have g2 := BZ.out.fro 2
      have zb := BZ.out.lt
      simp only [List.getElem?_toArray, List.getElem?_cons_zero, List.getElem?_cons_succ] at b0 b1 b2
      refine wpAnyH_ready (rs := [5]) (by kernel_rfl) (by simp) ?_
      refine AllReadyH.cons (o := _) rfl (fun K hK => ?_) AllReadyH.nil
      go_simp
      refine prop_abs _ (fun X => Ext W X ∧ Blk X b 79 #[.int .u64 su, .int .i64 ls, .int .i64 fs]) ⟨by (repeat' (first | with_reducible assumption | with_reducible exact Ext.refl _ | with_reducible refine Ext.alloc ?_ _ | with_reducible refine Ext.set ?_ ?_ _ | with_reducible refine Ext.drew ?_ | with_reducible refine Ext.drewN ?_ _ | with_reducible refine Ext.trans ?_ (by assumption) | (dsimp only; omega))), by have h := ((BZ.out.setAt 0 (.int .u64 su)).setAt 1 (.int .i64 ls)).setAt 2 (.int .i64 fs); exact h⟩ ?_
      rintro X9 ⟨XE, hB9⟩
      refine hK.out _ _ (sK XE) (fun hHeld => ?_)
      clear hK K
      try simp only [Act.put, List.getElem_toArray, List.getElem_cons_zero, List.getElem_cons_succ, List.setIfInBounds_toArray, List.set_cons_zero, List.set_cons_succ]
      clear hHeld
      refine wpAnyH_done (by kernel_rfl) ?_ _
      exact HREST.out b X9 XE hB9
    case n24 =>
      go_simp
      refine prop_abs _ (fun X => Ext W X ∧ Blk X Y3.heap.size 79 #[.int .u64 0, .int .i64 0, .int .i64 0]) ⟨by (repeat' (first | with_reducible assumption | with_reducible exact Ext.refl _ | with_reducible refine Ext.alloc ?_ _ | with_reducible refine Ext.set ?_ ?_ _ | with_reducible refine Ext.drew ?_ | with_reducible refine Ext.drewN ?_ _ | with_reducible refine Ext.trans ?_ (by assumption) | (dsimp only; omega))), blk_last Y3 _⟩ ?_
      rintro Y4 ⟨XE, hBZ⟩
      have BZ := hid hBZ
      obtain ⟨b, hb⟩ : ∃ b, Y3.heap.size = b := ⟨_, rfl⟩
      have hbz : W.heap.size ≤ b := by rw [← hb]; exact XY.size
      rw [hb] at BZ ⊢
      replace XY := XE
      refine hK.out _ _ (sK XY) (fun hHeld => ?_)
      clear hK K
      try simp only [Act.put, List.getElem_toArray, List.getElem_cons_zero, List.getElem_cons_succ, List.setIfInBounds_toArray, List.set_cons_zero, List.set_cons_succ]
      clear hHeld XE hBZ hb
      refine wpAnyH_ready (rs := [3]) (by kernel_rfl) (by simp) ?_
      refine AllReadyH.cons (o := _) rfl (fun K hK => ?_) AllReadyH.nil
      go_simp
      refine (HBA.out _ _ (E2.trans XY)).mono ?_
      rintro e Y5 ⟨rfl, hE3⟩
      dsimp only
      replace XY := XY.trans hE3
      refine hK.out _ _ (sK XY) (fun hHeld => ?_)
      clear hK K
      try simp only [Act.put, List.getElem_toArray, List.getElem_cons_zero, List.getElem_cons_succ, List.setIfInBounds_toArray, List.set_cons_zero, List.set_cons_succ]
      clear hHeld
      replace BZ := hid (BZ.out.ext hE3)
      have b0 := BZ.out.cell 0
      have b1 := BZ.out.cell 1
      have b2 := BZ.out.cell 2
      have g0 := BZ.out.fro 0
      have g1 := BZ.out.fro 1
      have g2 := BZ.out.fro 2
      have zb := BZ.out.lt
      simp only [List.getElem?_toArray, List.getElem?_cons_zero, List.getElem?_cons_succ] at b0 b1 b2
      refine wpAnyH_ready (rs := [5]) (by kernel_rfl) (by simp) ?_
      refine AllReadyH.cons (o := _) rfl (fun K hK => ?_) AllReadyH.nil
      go_simp
      refine prop_abs _ (fun X => Ext W X ∧ Blk X b 79 #[.int .u64 su, .int .i64 ls, .int .i64 fs]) ⟨by (repeat' (first | with_reducible assumption | with_reducible exact Ext.refl _ | with_reducible refine Ext.alloc ?_ _ | with_reducible refine Ext.set ?_ ?_ _ | with_reducible refine Ext.drew ?_ | with_reducible refine Ext.drewN ?_ _ | with_reducible refine Ext.trans ?_ (by assumption) | (dsimp only; omega))), by have h := ((BZ.out.setAt 0 (.int .u64 su)).setAt 1 (.int .i64 ls)).setAt 2 (.int .i64 fs); exact h⟩ ?_
      rintro X9 ⟨XE, hB9⟩
      refine hK.out _ _ (sK XE) (fun hHeld => ?_)
      clear hK K
      try simp only [Act.put, List.getElem_toArray, List.getElem_cons_zero, List.getElem_cons_succ, List.setIfInBounds_toArray, List.set_cons_zero, List.set_cons_succ]
      clear hHeld
      refine wpAnyH_done (by kernel_rfl) ?_ _
      exact HREST.out b X9 XE hB9
  case n4 =>
    go_simp
    refine prop_abs _ (fun X => Ext W X ∧ Blk X W.heap.size 79 #[.int .u64 0, .int .i64 0, .int .i64 0]) ⟨by (repeat' (first | with_reducible assumption | with_reducible exact Ext.refl _ | with_reducible refine Ext.alloc ?_ _ | with_reducible refine Ext.set ?_ ?_ _ | with_reducible refine Ext.drew ?_ | with_reducible refine Ext.drewN ?_ _ | with_reducible refine Ext.trans ?_ (by assumption) | (dsimp only; omega))), blk_last W _⟩ ?_
    rintro Y3 ⟨XE, hBZ⟩
    have BZ := hid hBZ
    obtain ⟨b, hb⟩ : ∃ b, W.heap.size = b := ⟨_, rfl⟩
    have hbz : W.heap.size ≤ b := by rw [← hb]; exact XY.size
    rw [hb] at BZ ⊢
    replace XY := XE
    refine hK.out _ _ (sK XY) (fun hHeld => ?_)
    clear hK K
    try simp only [Act.put, List.getElem_toArray, List.getElem_cons_zero, List.getElem_cons_succ, List.setIfInBounds_toArray, List.set_cons_zero, List.set_cons_succ]
    clear hHeld XE hBZ hb
    refine wpAnyH_ready (rs := [2]) (by kernel_rfl) (by simp) ?_
    refine AllReadyH.cons (o := _) rfl (fun K hK => ?_) AllReadyH.nil
    go_simp
    refine (HSU.out _ _ _ (HS.out.ext XY)).mono ?_
    rintro e Y4 ⟨rfl, hE3⟩
    dsimp only
    replace XY := XY.trans hE3
    refine hK.out _ _ (sK XY) (fun hHeld => ?_)
    clear hK K
    try simp only [Act.put, List.getElem_toArray, List.getElem_cons_zero, List.getElem_cons_succ, List.setIfInBounds_toArray, List.set_cons_zero, List.set_cons_succ]
    replace BZ := hid (BZ.out.ext hE3)
    clear hHeld hE3
    refine wpAnyH_ready (rs := [3]) (by kernel_rfl) (by simp) ?_
    refine AllReadyH.cons (o := _) rfl (fun K hK => ?_) AllReadyH.nil
    go_simp
    refine (HBA.out _ _ (E2.trans XY)).mono ?_
    rintro e Y5 ⟨rfl, hE3⟩
    dsimp only
    replace XY := XY.trans hE3
    refine hK.out _ _ (sK XY) (fun hHeld => ?_)
    clear hK K
    try simp only [Act.put, List.getElem_toArray, List.getElem_cons_zero, List.getElem_cons_succ, List.setIfInBounds_toArray, List.set_cons_zero, List.set_cons_succ]
    clear hHeld
    replace BZ := hid (BZ.out.ext hE3)
    have b0 := BZ.out.cell 0
    have b1 := BZ.out.cell 1
    have b2 := BZ.out.cell 2
    have g0 := BZ.out.fro 0
    have g1 := BZ.out.fro 1
    have g2 := BZ.out.fro 2
    have zb := BZ.out.lt
    simp only [List.getElem?_toArray, List.getElem?_cons_zero, List.getElem?_cons_succ] at b0 b1 b2
    refine wpAnyH_ready (rs := [5]) (by kernel_rfl) (by simp) ?_
    refine AllReadyH.cons (o := _) rfl (fun K hK => ?_) AllReadyH.nil
    go_simp
    refine prop_abs _ (fun X => Ext W X ∧ Blk X b 79 #[.int .u64 su, .int .i64 ls, .int .i64 fs]) ⟨by (repeat' (first | with_reducible assumption | with_reducible exact Ext.refl _ | with_reducible refine Ext.alloc ?_ _ | with_reducible refine Ext.set ?_ ?_ _ | with_reducible refine Ext.drew ?_ | with_reducible refine Ext.drewN ?_ _ | with_reducible refine Ext.trans ?_ (by assumption) | (dsimp only; omega))), by have h := ((BZ.out.setAt 0 (.int .u64 su)).setAt 1 (.int .i64 ls)).setAt 2 (.int .i64 fs); exact h⟩ ?_
    rintro X9 ⟨XE, hB9⟩
    refine hK.out _ _ (sK XE) (fun hHeld => ?_)
    clear hK K
    try simp only [Act.put, List.getElem_toArray, List.getElem_cons_zero, List.getElem_cons_succ, List.setIfInBounds_toArray, List.set_cons_zero, List.set_cons_succ]
    clear hHeld
    refine wpAnyH_done (by kernel_rfl) ?_ _
    exact HREST.out b X9 XE hB9
end Go.Proofs.YtcfijidlbimckaaDoor
