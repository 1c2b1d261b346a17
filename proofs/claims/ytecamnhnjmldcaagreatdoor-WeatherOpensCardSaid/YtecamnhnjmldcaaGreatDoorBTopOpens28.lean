/- opens of the specification: whether a path surely is open in an hour, in a possible scenario, and whether it may be. -/
import Derived.Test.YtecamnhnjmldcaaGreatDoorBTopOpens26
import Derived.Test.YtecamnhnjmldcaaGreatDoorBTopOpens27
import Derived.Test.YtecamnhnjmldcaaGreatDoorB22
import Derived.OwnWalk
import Derived.Maps.AppendAt
set_option linter.unusedSimpArgs false
set_option linter.unusedVariables false
namespace Go.Proofs.YtecamnhnjmldcaaGreatDoor
open Go.RowKit
/-- What an hour says. -/
def osA (rs : List Rl) (path op : Int) (rn : Nat) (ob : List Hr) (h : Nat) : Bool := (ndK rs path op (h : Int) rn).2 && sureS (ndK rs path op (h : Int) rn).1 (ob.getD h zeroHr)
def osE (rs : List Rl) (path op : Int) (rn : Nat) (ob : List Hr) (h : Nat) : Bool := (ndK rs path op (h : Int) rn).2 && mayS (ndK rs path op (h : Int) rn).1 (ob.getD h zeroHr)
theorem range_snocA (p : Nat → Bool) (k : Nat) : (List.range (k + 1)).all p = ((List.range k).all p && p k) := by
  rw [List.range_succ, List.all_append]
  simp
set_option maxHeartbeats 8000000 in
set_option maxRecDepth 100000 in
theorem ropens_any (f : List (List Hr)) (A : Option Addr) (n c : Nat) (seen : List Sg) (SA : Option Addr) (sm sc : Nat) (rs : List Rl) (RA : Option Addr) (rn rc : Nat) (hrn : rs.length = rn) (hrm : rn ≤ 1000) (haft : ∀ r ∈ rs, 0 ≤ r.after ∧ r.after ≤ 1000) (sn : Nat) (path : Int) (op : Nat) (hsn : sn < n) (hop : op < hoursN f)
    (w : World) (h : FIn w f A n seen SA sm) (hr : RlsAt w RA rs) (hfc : fcB f = true) (hsg : sgsB (hoursN f) seen = true) :
    Calls Tryz.prog 110 #[.slice RA rn rc, .agg #[.slice A n c], .slice SA sm sc, .int .i64 (sn : Int), .int .i64 path, .int .i64 (op : Int)] w fun e w' =>
      e = .returned (.tuple #[.bool ((List.range (op + 1)).all (osA rs path op rn (obsM seen (f.getD sn [])))), .bool ((List.range (op + 1)).all (osE rs path op rn (obsM seen (f.getD sn []))))]) ∧ Ext w w' := by
  have hNN := h.hours
  have HND := hid (fun (hh : Nat) (hho : hh ≤ op) (W : World) (hW : Ext w W) => rneeded_any rs RA rn rc hrn hrm haft path op hh (by omega) hho W (hr.ext hW))
  have HAT := hid (fun (k : Nat) (hk : k < hoursN f) (W : World) (hW : Ext w W) => rAt_any f A n c seen SA sm sc sn k W (h.ext hW) hfc hsg hsn hk)
  have HSU := hid (fun x l W => rsure_any x l W)
  have HMA := hid (fun x l W => rmay_any x l W)
  have HSA := hid (range_snocA (osA rs path op rn (obsM seen (f.getD sn []))))
  have HSE := hid (range_snocA (osE rs path op rn (obsM seen (f.getD sn []))))
  have HDA := hid (fun k => show osA rs path op rn (obsM seen (f.getD sn [])) k = ((ndK rs path op (k : Int) rn).2 && sureS (ndK rs path op (k : Int) rn).1 ((obsM seen (f.getD sn [])).getD k zeroHr)) from rfl)
  have HDE := hid (fun k => show osE rs path op rn (obsM seen (f.getD sn [])) k = ((ndK rs path op (k : Int) rn).2 && mayS (ndK rs path op (k : Int) rn).1 ((obsM seen (f.getD sn [])).getD k zeroHr)) from rfl)
  have B0 := hid (show Blk _ _ _ _ from blk_last w (.cells #[.slice A n c] 24))
  clear h hr hrn haft hfc hsg hsn
  generalize osA rs path op rn (obsM seen (f.getD sn [])) = PA at *
  generalize osE rs path op rn (obsM seen (f.getD sn [])) = PE at *
  generalize obsM seen (f.getD sn []) = ob at *
  generalize hoursN f = N at *
  go_enter Tryz.func110, Tryz.ntmps110
  go_wp2
  go_loopw [12, 13, 14] (fun va ve i wr => Ext w wr ∧ Hid (Blk wr w.heap.size 24 #[.slice A n c]) ∧ ∃ k : Nat, k ≤ op + 1 ∧ i = .int .i64 k ∧ va = .bool ((List.range k).all PA) ∧ ve = .bool ((List.range k).all PE)) (fun _ _ i _ => op + 1 - (intOf i).toNat)
  case atStart => exact ⟨by (repeat' (first | with_reducible assumption | with_reducible exact Ext.refl _ | with_reducible refine Ext.alloc ?_ _ | with_reducible refine Ext.set ?_ ?_ _ | with_reducible refine Ext.drew ?_ | with_reducible refine Ext.drewN ?_ _ | with_reducible refine Ext.trans ?_ (by assumption) | (dsimp only; omega))), B0, 0, Nat.zero_le _, rfl, rfl, rfl⟩
  case round =>
    clear B0
    obtain ⟨E, B0, k, hk, rfl, rfl, rfl⟩ := hrel
    have hE := Ext.refl wr
    replace E := E.trans hE
    replace B0 := hid (B0.out.ext hE)
    (try replace HL := hid (HL.out.ext hE))
    (try replace HH := hid (HH.out.ext hE))
    clear hE
    (try clear a0 z0)
    have a0 := B0.out.cell 0
    have z0 := B0.out.lt
    simp only [List.getElem?_toArray, List.getElem?_cons_zero] at a0
    by_cases hlt : k ≤ op
    · have HND1 := hid (HND.out k hlt)
      have HAT1 := hid (HAT.out k (by omega))
      have HSA1 := hid (HSA.out k)
      have HSE1 := hid (HSE.out k)
      have HDA1 := hid (HDA.out k)
      have HDE1 := hid (HDE.out k)
      generalize ndK rs path op (k : Int) rn = nk at *
      generalize ob.getD k zeroHr = x at *
      obtain ⟨L, cn⟩ := nk
      dsimp only at HDA1 HDE1
      have HSU1 := hid (HSU.out x L)
      have HMA1 := hid (HMA.out x L)
      generalize sureS L x = b1 at *
      generalize mayS L x = b2 at *
      generalize PA k = pa at *
      generalize PE k = pe at *
      generalize (List.range k).all PA = va at *
      generalize (List.range k).all PE = ve at *
      clear HND HAT HSU HMA HSA HSE HDA HDE
      unfold Lm.val at HND1 HSU1 HMA1
      unfold Hr.val at HAT1 HSU1 HMA1
      obtain ⟨L0, L1, L2, L3⟩ := L
      obtain ⟨wl, wh, rl, rh, hl, hh⟩ := x
      dsimp only at HND1 HAT1 HSU1 HMA1
      go_wp2_with fail
      refine (HND1.out _ E).mono ?_
      rintro e w2 ⟨rfl, hE⟩
      replace E := E.trans hE
      replace B0 := hid (B0.out.ext hE)
      (try replace HL := hid (HL.out.ext hE))
      (try replace HH := hid (HH.out.ext hE))
      clear hE
      (try clear a0 z0)
      have a0 := B0.out.cell 0
      have z0 := B0.out.lt
      simp only [List.getElem?_toArray, List.getElem?_cons_zero] at a0
      clear HND1
      go_wp2_with fail
      refine abs_anyW (G := fun W => Calls _ _ _ W _) (fun X => Blk X w2.heap.size 29 #[.int .i64 L0, .int .i64 L1, .int .i64 L2, .int .i64 L3] ∧ Ext w2 X) ⟨blk_last _ _, by (repeat' (first | with_reducible assumption | with_reducible exact Ext.refl _ | with_reducible refine Ext.alloc ?_ _ | with_reducible refine Ext.set ?_ ?_ _ | with_reducible refine Ext.drew ?_ | with_reducible refine Ext.drewN ?_ _ | with_reducible refine Ext.trans ?_ (by assumption) | (dsimp only; omega)))⟩ ?_
      rintro U ⟨hb, hE⟩
      replace E := E.trans hE
      replace B0 := hid (B0.out.ext hE)
      (try replace HL := hid (HL.out.ext hE))
      (try replace HH := hid (HH.out.ext hE))
      clear hE
      (try clear a0 z0)
      have a0 := B0.out.cell 0
      have z0 := B0.out.lt
      simp only [List.getElem?_toArray, List.getElem?_cons_zero] at a0
      have HL := hid hb
      clear hb
      refine (HAT1.out _ E).mono ?_
      rintro e w3 ⟨rfl, hE⟩
      replace E := E.trans hE
      replace B0 := hid (B0.out.ext hE)
      (try replace HL := hid (HL.out.ext hE))
      (try replace HH := hid (HH.out.ext hE))
      clear hE
      (try clear a0 z0)
      have a0 := B0.out.cell 0
      have z0 := B0.out.lt
      simp only [List.getElem?_toArray, List.getElem?_cons_zero] at a0
      clear HAT1
      obtain ⟨l0, l1, l2, l3⟩ : _ ∧ _ ∧ _ ∧ _ := ⟨HL.out.cell 0, HL.out.cell 1, HL.out.cell 2, HL.out.cell 3⟩
      have lz := HL.out.lt
      simp only [List.getElem?_toArray, List.getElem?_cons_zero, List.getElem?_cons_succ] at l0 l1 l2 l3
      cases cn
      · have HRA := hid (HSA1.out.trans (by rw [HDA1.out, Bool.false_and, Bool.and_false]))
        have HRE := hid (HSE1.out.trans (by rw [HDE1.out, Bool.false_and, Bool.and_false]))
        clear HSA1 HSE1 HDA1 HDE1 HSU1 HMA1
        cases va <;> cases ve
        · go_wp2
          go_roundw
          case rel => exact ⟨by (repeat' (first | with_reducible assumption | with_reducible exact Ext.refl _ | with_reducible refine Ext.alloc ?_ _ | with_reducible refine Ext.set ?_ ?_ _ | with_reducible refine Ext.drew ?_ | with_reducible refine Ext.drewN ?_ _ | with_reducible refine Ext.trans ?_ (by assumption) | (dsimp only; omega))), hid (B0.out.ext (by (repeat' (first | with_reducible assumption | with_reducible exact Ext.refl _ | with_reducible refine Ext.alloc ?_ _ | with_reducible refine Ext.set ?_ ?_ _ | with_reducible refine Ext.drew ?_ | with_reducible refine Ext.drewN ?_ _ | with_reducible refine Ext.trans ?_ (by assumption) | (dsimp only; omega))))), k + 1, by omega, by go_num, by rw [HRA.out] <;> rfl, by rw [HRE.out] <;> rfl⟩
          case measure => simp [intOf]; omega
        · go_wp2
          go_roundw
          case rel => exact ⟨by (repeat' (first | with_reducible assumption | with_reducible exact Ext.refl _ | with_reducible refine Ext.alloc ?_ _ | with_reducible refine Ext.set ?_ ?_ _ | with_reducible refine Ext.drew ?_ | with_reducible refine Ext.drewN ?_ _ | with_reducible refine Ext.trans ?_ (by assumption) | (dsimp only; omega))), hid (B0.out.ext (by (repeat' (first | with_reducible assumption | with_reducible exact Ext.refl _ | with_reducible refine Ext.alloc ?_ _ | with_reducible refine Ext.set ?_ ?_ _ | with_reducible refine Ext.drew ?_ | with_reducible refine Ext.drewN ?_ _ | with_reducible refine Ext.trans ?_ (by assumption) | (dsimp only; omega))))), k + 1, by omega, by go_num, by rw [HRA.out] <;> rfl, by rw [HRE.out] <;> rfl⟩
          case measure => simp [intOf]; omega
        · go_wp2
          go_roundw
          case rel => exact ⟨by (repeat' (first | with_reducible assumption | with_reducible exact Ext.refl _ | with_reducible refine Ext.alloc ?_ _ | with_reducible refine Ext.set ?_ ?_ _ | with_reducible refine Ext.drew ?_ | with_reducible refine Ext.drewN ?_ _ | with_reducible refine Ext.trans ?_ (by assumption) | (dsimp only; omega))), hid (B0.out.ext (by (repeat' (first | with_reducible assumption | with_reducible exact Ext.refl _ | with_reducible refine Ext.alloc ?_ _ | with_reducible refine Ext.set ?_ ?_ _ | with_reducible refine Ext.drew ?_ | with_reducible refine Ext.drewN ?_ _ | with_reducible refine Ext.trans ?_ (by assumption) | (dsimp only; omega))))), k + 1, by omega, by go_num, by rw [HRA.out] <;> rfl, by rw [HRE.out] <;> rfl⟩
          case measure => simp [intOf]; omega
        · go_wp2
          go_roundw
          case rel => exact ⟨by (repeat' (first | with_reducible assumption | with_reducible exact Ext.refl _ | with_reducible refine Ext.alloc ?_ _ | with_reducible refine Ext.set ?_ ?_ _ | with_reducible refine Ext.drew ?_ | with_reducible refine Ext.drewN ?_ _ | with_reducible refine Ext.trans ?_ (by assumption) | (dsimp only; omega))), hid (B0.out.ext (by (repeat' (first | with_reducible assumption | with_reducible exact Ext.refl _ | with_reducible refine Ext.alloc ?_ _ | with_reducible refine Ext.set ?_ ?_ _ | with_reducible refine Ext.drew ?_ | with_reducible refine Ext.drewN ?_ _ | with_reducible refine Ext.trans ?_ (by assumption) | (dsimp only; omega))))), k + 1, by omega, by go_num, by rw [HRA.out] <;> rfl, by rw [HRE.out] <;> rfl⟩
          case measure => simp [intOf]; omega
      · rw [Bool.true_and] at HDA1 HDE1
        have HRA := hid (HSA1.out.trans (by rw [HDA1.out]))
        have HRE := hid (HSE1.out.trans (by rw [HDE1.out]))
        clear HSA1 HSE1 HDA1 HDE1
        cases va <;> cases ve
        · go_wp2
          go_roundw
          case rel => exact ⟨by (repeat' (first | with_reducible assumption | with_reducible exact Ext.refl _ | with_reducible refine Ext.alloc ?_ _ | with_reducible refine Ext.set ?_ ?_ _ | with_reducible refine Ext.drew ?_ | with_reducible refine Ext.drewN ?_ _ | with_reducible refine Ext.trans ?_ (by assumption) | (dsimp only; omega))), hid (B0.out.ext (by (repeat' (first | with_reducible assumption | with_reducible exact Ext.refl _ | with_reducible refine Ext.alloc ?_ _ | with_reducible refine Ext.set ?_ ?_ _ | with_reducible refine Ext.drew ?_ | with_reducible refine Ext.drewN ?_ _ | with_reducible refine Ext.trans ?_ (by assumption) | (dsimp only; omega))))), k + 1, by omega, by go_num, by rw [HRA.out] <;> rfl, by rw [HRE.out] <;> rfl⟩
          case measure => simp [intOf]; omega
        · go_wp2_with fail
          refine abs_anyW (G := fun W => Calls _ _ _ W _) (fun X => Blk X w3.heap.size 143 #[.int .i64 wl, .int .i64 wh, .int .i64 rl, .int .i64 rh, .int .i64 hl, .int .i64 hh] ∧ Ext w3 X) ⟨blk_last _ _, by (repeat' (first | with_reducible assumption | with_reducible exact Ext.refl _ | with_reducible refine Ext.alloc ?_ _ | with_reducible refine Ext.set ?_ ?_ _ | with_reducible refine Ext.drew ?_ | with_reducible refine Ext.drewN ?_ _ | with_reducible refine Ext.trans ?_ (by assumption) | (dsimp only; omega)))⟩ ?_
          rintro U3 ⟨hb, hE⟩
          clear l0 l1 l2 l3 lz
          replace E := E.trans hE
          replace B0 := hid (B0.out.ext hE)
          (try replace HL := hid (HL.out.ext hE))
          (try replace HH := hid (HH.out.ext hE))
          clear hE
          (try clear a0 z0)
          have a0 := B0.out.cell 0
          have z0 := B0.out.lt
          simp only [List.getElem?_toArray, List.getElem?_cons_zero] at a0
          have HH := hid hb
          clear hb
          refine (HMA1.out _).mono ?_
          rintro e w5 ⟨rfl, hE⟩
          replace E := E.trans hE
          replace B0 := hid (B0.out.ext hE)
          (try replace HL := hid (HL.out.ext hE))
          (try replace HH := hid (HH.out.ext hE))
          clear hE
          (try clear a0 z0)
          have a0 := B0.out.cell 0
          have z0 := B0.out.lt
          simp only [List.getElem?_toArray, List.getElem?_cons_zero] at a0
          clear HSU1 HMA1
          go_wp2
          go_roundw
          case rel => exact ⟨E, B0, k + 1, by omega, by go_num, by rw [HRA.out] <;> rfl, by rw [HRE.out] <;> rfl⟩
          case measure => simp [intOf]; omega
        · go_wp2_with fail
          refine abs_anyW (G := fun W => Calls _ _ _ W _) (fun X => Blk X w3.heap.size 143 #[.int .i64 wl, .int .i64 wh, .int .i64 rl, .int .i64 rh, .int .i64 hl, .int .i64 hh] ∧ Ext w3 X) ⟨blk_last _ _, by (repeat' (first | with_reducible assumption | with_reducible exact Ext.refl _ | with_reducible refine Ext.alloc ?_ _ | with_reducible refine Ext.set ?_ ?_ _ | with_reducible refine Ext.drew ?_ | with_reducible refine Ext.drewN ?_ _ | with_reducible refine Ext.trans ?_ (by assumption) | (dsimp only; omega)))⟩ ?_
          rintro U3 ⟨hb, hE⟩
          clear l0 l1 l2 l3 lz
          replace E := E.trans hE
          replace B0 := hid (B0.out.ext hE)
          (try replace HL := hid (HL.out.ext hE))
          (try replace HH := hid (HH.out.ext hE))
          clear hE
          (try clear a0 z0)
          have a0 := B0.out.cell 0
          have z0 := B0.out.lt
          simp only [List.getElem?_toArray, List.getElem?_cons_zero] at a0
          have HH := hid hb
          clear hb
          refine (HSU1.out _).mono ?_
          rintro e w4 ⟨rfl, hE⟩
          replace E := E.trans hE
          replace B0 := hid (B0.out.ext hE)
          (try replace HL := hid (HL.out.ext hE))
          (try replace HH := hid (HH.out.ext hE))
          clear hE
          (try clear a0 z0)
          have a0 := B0.out.cell 0
          have z0 := B0.out.lt
          simp only [List.getElem?_toArray, List.getElem?_cons_zero] at a0
          clear HSU1 HMA1
          go_wp2
          go_roundw
          case rel => exact ⟨E, B0, k + 1, by omega, by go_num, by rw [HRA.out] <;> rfl, by rw [HRE.out] <;> rfl⟩
          case measure => simp [intOf]; omega
        · go_wp2_with fail
          refine abs_anyW (G := fun W => Calls _ _ _ W _) (fun X => Blk X w3.heap.size 143 #[.int .i64 wl, .int .i64 wh, .int .i64 rl, .int .i64 rh, .int .i64 hl, .int .i64 hh] ∧ Ext w3 X) ⟨blk_last _ _, by (repeat' (first | with_reducible assumption | with_reducible exact Ext.refl _ | with_reducible refine Ext.alloc ?_ _ | with_reducible refine Ext.set ?_ ?_ _ | with_reducible refine Ext.drew ?_ | with_reducible refine Ext.drewN ?_ _ | with_reducible refine Ext.trans ?_ (by assumption) | (dsimp only; omega)))⟩ ?_
          rintro U3 ⟨hb, hE⟩
          clear l0 l1 l2 l3 lz
          replace E := E.trans hE
          replace B0 := hid (B0.out.ext hE)
          (try replace HL := hid (HL.out.ext hE))
          (try replace HH := hid (HH.out.ext hE))
          clear hE
          (try clear a0 z0)
          have a0 := B0.out.cell 0
          have z0 := B0.out.lt
          simp only [List.getElem?_toArray, List.getElem?_cons_zero] at a0
          have HH := hid hb
          clear hb
          refine (HSU1.out _).mono ?_
          rintro e w4 ⟨rfl, hE⟩
          replace E := E.trans hE
          replace B0 := hid (B0.out.ext hE)
          (try replace HL := hid (HL.out.ext hE))
          (try replace HH := hid (HH.out.ext hE))
          clear hE
          (try clear a0 z0)
          have a0 := B0.out.cell 0
          have z0 := B0.out.lt
          simp only [List.getElem?_toArray, List.getElem?_cons_zero] at a0
          obtain ⟨y0, y1, y2, y3, y4, y5⟩ : _ ∧ _ ∧ _ ∧ _ ∧ _ ∧ _ := ⟨HH.out.cell 0, HH.out.cell 1, HH.out.cell 2, HH.out.cell 3, HH.out.cell 4, HH.out.cell 5⟩
          have yz := HH.out.lt
          obtain ⟨l0, l1, l2, l3⟩ : _ ∧ _ ∧ _ ∧ _ := ⟨HL.out.cell 0, HL.out.cell 1, HL.out.cell 2, HL.out.cell 3⟩
          have lz := HL.out.lt
          simp only [List.getElem?_toArray, List.getElem?_cons_zero, List.getElem?_cons_succ] at y0 y1 y2 y3 y4 y5 l0 l1 l2 l3
          go_wp2_with fail
          refine (HMA1.out _).mono ?_
          rintro e w5 ⟨rfl, hE⟩
          replace E := E.trans hE
          replace B0 := hid (B0.out.ext hE)
          (try replace HL := hid (HL.out.ext hE))
          (try replace HH := hid (HH.out.ext hE))
          clear hE
          (try clear a0 z0)
          have a0 := B0.out.cell 0
          have z0 := B0.out.lt
          simp only [List.getElem?_toArray, List.getElem?_cons_zero] at a0
          clear y0 y1 y2 y3 y4 y5 yz l0 l1 l2 l3 lz
          clear HSU1 HMA1
          go_wp2
          go_roundw
          case rel => exact ⟨E, B0, k + 1, by omega, by go_num, by rw [HRA.out] <;> rfl, by rw [HRE.out] <;> rfl⟩
          case measure => simp [intOf]; omega
    · obtain rfl : k = op + 1 := by omega
      clear HND HAT HSU HMA HSA HSE HDA HDE
      go_wp2
      go_ret2
      exact ⟨rfl, E⟩
end Go.Proofs.YtecamnhnjmldcaaGreatDoor
/- Lists of truth values as tables; make of them. -/
set_option linter.unusedSimpArgs false
set_option linter.unusedVariables false
namespace Go.Proofs.YtecamnhnjmldcaaGreatDoor
open Go.RowKit
def tabL (n : Nat) (p : Nat → Bool) : List Bool := (List.range n).map p
theorem tabL_len (n : Nat) (p : Nat → Bool) : (tabL n p).length = n := by unfold tabL; rw [List.length_map, List.length_range]
theorem tabL_at (n : Nat) (p : Nat → Bool) (i : Nat) (hi : i < n) : (tabL n p).getD i false = p i := by
  unfold tabL
  simp [List.getD, List.getElem?_eq_getElem (show i < (List.range n).length by simp; exact hi)]
theorem tabL_congr {n : Nat} {p q : Nat → Bool} (h : ∀ i, i < n → p i = q i) : tabL n p = tabL n q := by
  unfold tabL
  exact List.map_congr_left fun i hi => h i (List.mem_range.1 hi)
theorem tabL_set (n : Nat) (p : Nat → Bool) (k : Nat) (v : Bool) : (tabL n p).set k v = tabL n (fun x => if x = k then v else p x) := by
  unfold tabL
  apply List.ext_getElem?
  intro j
  rw [List.getElem?_set]
  simp only [List.length_map, List.length_range, List.getElem?_map]
  by_cases hj : k = j
  · subst hj
    by_cases hk : k < n
    · simp [hk]
    · simp [hk]
  · have : ¬ j = k := fun e => hj e.symm
    rw [if_neg hj]
    cases hr : (List.range n)[j]? with
    | none => rfl
    | some x =>
      have hx : x = j := by
        have h2 := List.getElem?_eq_some_iff.1 hr
        obtain ⟨h3, h4⟩ := h2
        rw [← h4, List.getElem_range]
      subst hx
      simp [this]
/-- One more place of a table that is turned from Q to P. -/
theorem tab_next (n j : Nat) (P Q : Nat → Bool) (v : Bool) (hv : v = P j) : (tabL n fun x => if x < j then P x else Q x).set j v = tabL n fun x => if x < j + 1 then P x else Q x := by
  rw [tabL_set]
  refine tabL_congr fun i _ => ?_
  by_cases h : i = j
  · subst h; rw [if_pos rfl, if_pos (by omega), hv]
  · rw [if_neg h]
    by_cases h2 : i < j
    · rw [if_pos h2, if_pos (by omega)]
    · rw [if_neg h2, if_neg (by omega)]
theorem tab_zero (n : Nat) (P Q : Nat → Bool) : (tabL n fun x => if x < 0 then P x else Q x) = tabL n Q := tabL_congr fun _ _ => if_neg (by omega)
theorem tab_end (n : Nat) (P Q : Nat → Bool) : (tabL n fun x => if x < n then P x else Q x) = tabL n P := tabL_congr fun _ hi => if_pos hi
theorem tab_rep (n : Nat) : List.replicate n false = tabL n fun _ => false := by
  apply List.ext_getElem?
  intro j
  unfold tabL
  simp only [List.getElem?_map, List.getElem?_replicate]
  by_cases h : j < n
  · rw [if_pos h, List.getElem?_eq_getElem (by simp; exact h)]; rfl
  · rw [if_neg h, List.getElem?_eq_none (by simp; omega)]; rfl
theorem rep_fm : ∀ n, (List.replicate n false).flatMap gBo = List.replicate n (Value.bool false)
  | 0 => rfl
  | n + 1 => by
    rw [List.replicate_succ, List.replicate_succ, List.flatMap_cons, rep_fm n]
    rfl
/-- make of truth values. -/
theorem mk_bools (X : World) (N B : Nat) (hN : N ≤ 10000) (hB : B ≤ X.heap.size) : ∃ Y, (Instr.makeSlice 109 (.int .i64 (N : Int)) (.int .i64 (N : Int))).run Tryz.prog X = .ok (.slice (some ⟨X.heap.size, 0, none⟩) N N) Y ∧ Ownl 4 1 gBo Y B (.slice (some ⟨X.heap.size, 0, none⟩) N N) (tabL N fun _ => false) ∧ Ext X Y := by
  obtain ⟨i0, hi, hz0, hz1, hz2⟩ := info_parts infoBo
  obtain ⟨Y, hrun, r1, r2⟩ := run_make_full (P := Tryz.prog) X B 109 4 i0 (.bool false) 1 Tryz.underlying109 hi hz0 hz1 .i64 .i64 N (by rw [hz2]; omega) (by unfold maxLen; omega) hB
  refine ⟨Y, hrun, ?_, Below.grown (Below.refl _ _) r2 (Nat.le_refl _) (fun j ej => by cases ej)⟩
  unfold Ownl
  rw [tabL_len, ← tab_rep]
  have e : (List.replicate N false).flatMap gBo = (madeCells (Value.cells (.bool false)) (N * 1)).toList := by
    rw [Nat.mul_one, rep_fm]
    unfold madeCells
    rw [show (Value.bool false).cells = #[Value.bool false] from rfl]
    simp [Nat.mod_one]
    rw [List.map_const', List.length_range]
  rw [e]
  exact r1
/-- An element of a table that is owned, and storing one. -/
theorem own_at {w : World} {B q n cap : Nat} {p : Nat → Bool} (h : Ownl 4 1 gBo w B (.slice (some ⟨q, 0, none⟩) n cap) (tabL n p)) {i : Nat} (hi : i < n) : w.cell? ⟨q, i, none⟩ = some (.bool (p i)) ∧ q < w.heap.size ∧ B ≤ q := by
  obtain ⟨A, c, e, _, hf, hb⟩ := h.form (by decide) (fun _ => rfl) false
  injection e with e1 _ _
  subst e1
  have hx := flat_bos.1 hf
  obtain ⟨b, off, e2, hlt, hc⟩ := hx (by intro e0; have := congrArg List.length e0; rw [tabL_len] at this; simp at this; omega)
  injection e2 with e2
  injection e2 with e2 e3
  subst e2 e3
  have := hc i (by rw [tabL_len]; exact hi)
  unfold BoAt at this
  rw [tabL_at n p i hi, Nat.zero_add] at this
  exact ⟨this, hlt, hb _ _ _ rfl⟩
theorem own_fro {w : World} {B q n cap : Nat} {p : Nat → Bool} (h : Ownl 4 1 gBo w B (.slice (some ⟨q, 0, none⟩) n cap) (tabL n p)) (i : Nat) : w.frozen? ⟨q, i, none⟩ = false := by
  have h' : w.ownsRow B 4 1 (.slice (some ⟨q, 0, none⟩) n cap) n ((tabL n p).flatMap gBo) := by
    have h2 := h
    unfold Ownl at h2
    rw [tabL_len] at h2
    exact h2
  exact h'.frozenAt i
theorem own_put {w : World} {B q n cap : Nat} {p : Nat → Bool} (h : Ownl 4 1 gBo w B (.slice (some ⟨q, 0, none⟩) n cap) (tabL n p)) {i : Nat} (hi : i < n) (v : Bool) : Ownl 4 1 gBo (w.setCell ⟨q, i, none⟩ (.bool v)) B (.slice (some ⟨q, 0, none⟩) n cap) ((tabL n p).set i v) := by
  have hl := tabL_len n p
  have h2 : Ownl 4 1 gBo w B (.slice (some ⟨q, 0, none⟩) (tabL n p).length cap) (tabL n p) := by rw [hl]; exact h
  have := (Ownl.put (s := 1) (g := gBo) (by decide) (fun _ => rfl) false h2 (k := i) (by rw [hl]; exact hi) v).1
  rw [Nat.mul_one, hl] at this
  exact this
theorem tabL_step (n : Nat) (p : Nat → Bool) : tabL (n + 1) p = tabL n p ++ [p n] := by
  unfold tabL
  rw [List.range_succ, List.map_append]
  rfl
end Go.Proofs.YtecamnhnjmldcaaGreatDoor
/- One more truth value, as a call of its own. -/
set_option linter.unusedSimpArgs false
set_option linter.unusedVariables false
namespace Go.Proofs.YtecamnhnjmldcaaGreatDoor
open Go.RowKit
theorem appB2 {ops : Array Oper} {rest : List Oper} {o : Oper} {a : Act} {Q : Exit → Act → World → Prop} (w : World) (hg : o.guard = none) (s x : Operand)
    (hop : o.op = Op.call { callee := Callee.builtin Builtin.append, args := #[s, x], argTypes := #[109, 109] }) (B : Nat) (v : Value) (xs : List Bool) (hs : a.eval s = v) (hown : Ownl 4 1 gBo w B v xs)
    (ad : Addr) (y : Bool) (hx : a.eval x = .slice (some ad) 1 1) (hy : w.cell? ad = some (.bool y)) (hl : xs.length ≤ 1000) (hB : B ≤ w.heap.size)
    (hK : ∀ v' w', Ownl 4 1 gBo w' B v' (xs ++ [y]) → w.grownBy w' v.ownBlock → (v'.ownBlock = v.ownBlock ∨ v'.ownBlock = some w.heap.size) → wpList Tryz.prog ops Q rest (a.put o.dst v') w') : wpList Tryz.prog ops Q (o :: rest) a w := by
  obtain ⟨i0, hi, hz0, hz1, hz2⟩ := info_parts infoBo
  refine wpList_plain hg fun K hK' => ?_
  obtain ⟨v', w', hrun, r1, r2, _, r4⟩ := run_append_own_at (P := Tryz.prog) w B 109 o.type 4 i0 (.bool false) 1 1 Tryz.underlying109 hi hz0 hz1 hz2 rfl (by decide) v xs.length (xs.flatMap gBo) hown ad 1 1 (gBo y) rfl (fun j u hj => by
    cases j with
    | zero =>
      obtain rfl : Value.bool y = u := by simpa [gBo] using hj
      simpa [Addr.add] using hy
    | succ j => simp [gBo] at hj) (oneBo y) (by unfold maxLen; omega) (by omega) hB
  unfold Oper.wp execOp
  simp only [hop, resolve, invoke, builtin, Sem.run_bind, Sem.run_pure, Result.andThen_ok, List.map_toArray, List.map_cons, List.map_nil, hs, hx, hrun]
  exact hK' _ _ (hK v' w' (Ownl.snoc r1) r2 r4)
theorem apart_of {v v' u : Value} {z : Nat} (h : v'.ownBlock = v.ownBlock ∨ v'.ownBlock = some z) (hd : ∀ q, v.ownBlock = some q → u.ownBlock ≠ some q) (hz : ∀ q, u.ownBlock = some q → q ≠ z) : ∀ q, v'.ownBlock = some q → u.ownBlock ≠ some q := by
  intro q hq hu
  rcases h with h | h
  · exact hd q (h ▸ hq) hu
  · rw [h] at hq
    injection hq with hq
    exact hz q hu hq.symm
theorem ne_or {v u : Value} (h : ∀ q, v.ownBlock = some q → u.ownBlock ≠ some q) : u.ownBlock = none ∨ u.ownBlock ≠ v.ownBlock := by
  cases hu : u.ownBlock with
  | none => exact .inl rfl
  | some q => exact .inr (fun e => h q e.symm hu)
end Go.Proofs.YtecamnhnjmldcaaGreatDoor
