/- What the statements' proofs share. -/
import Derived.Test.YtecamnhnjmldcaaGreatDoorB21
import Derived.Test.YtecamnhnjmldcaaGreatDoorTie
import Derived.Test.YtecamnhnjmldcaaGreatDoorCards
import Derived.ProofKit
import Derived.LaidMore
import Derived.OpenShut
import Derived.ChangeOld
import Derived.Below
import Derived.Stop.Joined
import Derived.Stop.LaidErr
import Derived.SevenTiedAt
import Derived.Test.YtecamnhnjmldcaaGreatDoorB08
set_option linter.unusedSimpArgs false
set_option linter.unusedVariables false
namespace Go.Proofs.YtecamnhnjmldcaaGreatDoor
open Go.RowKit
open Go.ChangeShapes Go.WideShapes Go.ChangeAt Go.Joins
theorem own : ownKnob Tryz.prog.godebug = none := by kernel_rfl
theorem laidOut : laidOutB Tryz.prog = true := by kernel_rfl
/-- The door's own heap meets the condition. -/
theorem door_met (os : Os) (args : Array Value) : laidMetH Tryz.prog laid1 ((World.doorLaid Tryz.prog 400 os).forCall (fun _ _ => 0) ⟨#[], args, []⟩).memory := by
  refine laidMetH_of_parts3 (fuel := 8) (laidMet_of_run' 8 (by kernel_rfl) (by kernel_rfl)) (by kernel_rfl) (by kernel_rfl)
end Go.Proofs.YtecamnhnjmldcaaGreatDoor
/- maybeOpen. -/
set_option linter.unusedSimpArgs false
set_option linter.unusedVariables false
namespace Go.Proofs.YtecamnhnjmldcaaGreatDoor
open Go.RowKit
set_option maxRecDepth 100000 in
set_option maxHeartbeats 1000000 in
theorem indexSc_any (fn : Nat) (caps : Array Value) (eg : ∀ args w, (callFunc fn args).run Tryz.prog w = .ok (.enter fn args) w) (xs : List (List Hr)) (p : List Hr → Bool) (A : Option Addr) (n c : Nat) (hn : xs.length = n) (hm : n ≤ 10000) (w : World) (hx : ScsAt w A xs)
    (hf : ∀ (x : List Hr) (A' : Option Addr) (c' : Nat) (W : World), Ext w W → x ∈ xs → x.length ≤ c' → HrsAt W A' x → Calls Tryz.prog fn (#[.agg #[.slice A' x.length c']] ++ caps) W fun e W' => e = .returned (.bool (p x)) ∧ Ext W W') :
    Calls Tryz.prog 137 #[.slice A n c, .func (.func fn) #[] caps] w (Found (xs.any p) w) := by
  have HFF := hid hf
  have HX := hid hx
  have HN := hid hn
  have HEG := hid eg
  clear hf hx hn eg
  go_enter Tryz.func137, Tryz.ntmps137
  go_wp2
  go_loopw [8] (fun i wr => Ext w wr ∧ ∃ k : Nat, k ≤ n ∧ i = .int .i64 k ∧ (xs.take k).any p = false) (fun i _ => n - (intOf i).toNat)
  case atStart => exact ⟨by (repeat' (first | with_reducible assumption | with_reducible exact Ext.refl _ | with_reducible refine Ext.alloc ?_ _ | with_reducible refine Ext.set ?_ ?_ _ | with_reducible refine Ext.drew ?_ | with_reducible refine Ext.drewN ?_ _ | with_reducible refine Ext.trans ?_ (by assumption) | (dsimp only; omega))), 0, Nat.zero_le _, rfl, rfl⟩
  case round =>
    obtain ⟨hE, k, hk, rfl, ha⟩ := hrel
    have HA := hid ha
    clear ha
    by_cases hlt : k < n
    · obtain ⟨b, off, rfl, hb, hck⟩ := (HX.out.ext hE).at_ HN.out hlt
      have HS := hid (any_take_snoc xs p [] k (by rw [HN.out]; omega))
      have HY := hid (any_of_at xs p [] k (by rw [HN.out]; omega))
      have HM := hid (mem_at xs [] k (by rw [HN.out]; omega))
      clear HX
      generalize xs.getD k [] = x at *
      obtain ⟨A', c', hck, hcap, hhr⟩ := hck
      have HH := hid hhr
      have HC := hid hcap
      clear hcap hhr
      go_wp2_with fail
      rw [HEG.out]
      refine Calls.mono (HFF.out x A' c' _ ?ext HM.out HC.out (HH.out.ext ?hx)) ?_
      case hx => (repeat' (first | with_reducible assumption | with_reducible exact Ext.refl _ | with_reducible refine Ext.alloc ?_ _ | with_reducible refine Ext.set ?_ ?_ _ | with_reducible refine Ext.drew ?_ | with_reducible refine Ext.drewN ?_ _ | with_reducible refine Ext.trans ?_ (by assumption) | (dsimp only; omega)))
      case ext => (repeat' (first | with_reducible assumption | with_reducible exact Ext.refl _ | with_reducible refine Ext.alloc ?_ _ | with_reducible refine Ext.set ?_ ?_ _ | with_reducible refine Ext.drew ?_ | with_reducible refine Ext.drewN ?_ _ | with_reducible refine Ext.trans ?_ (by assumption) | (dsimp only; omega)))
      rintro e w2 ⟨rfl, hE2⟩
      rcases Bool.eq_false_or_eq_true (p x) with hp | hp
      · rw [hp]
        have HP := hid (HY.out hp)
        clear hp
        go_wp2
        go_ret
        exact Found.mk _ (by rw [HP.out]; simp) (by (repeat' (first | with_reducible assumption | with_reducible exact Ext.refl _ | with_reducible refine Ext.alloc ?_ _ | with_reducible refine Ext.set ?_ ?_ _ | with_reducible refine Ext.drew ?_ | with_reducible refine Ext.drewN ?_ _ | with_reducible refine Ext.trans ?_ (by assumption) | (dsimp only; omega))))
      · rw [hp]
        have HP := hid (HS.out.trans (by rw [HA.out, hp]))
        clear hp
        go_wp2
        go_roundw
        case rel => exact ⟨by (repeat' (first | with_reducible assumption | with_reducible exact Ext.refl _ | with_reducible refine Ext.alloc ?_ _ | with_reducible refine Ext.set ?_ ?_ _ | with_reducible refine Ext.drew ?_ | with_reducible refine Ext.drewN ?_ _ | with_reducible refine Ext.trans ?_ (by assumption) | (dsimp only; omega))), k + 1, by omega, by go_num, HP.out⟩
        case measure => simp [intOf]; omega
    · have HP := hid (any_false_end HA.out (by rw [HN.out]; omega))
      go_wp2
      go_ret
      exact Found.mk _ (by rw [HP.out]; rfl) (by (repeat' (first | with_reducible assumption | with_reducible exact Ext.refl _ | with_reducible refine Ext.alloc ?_ _ | with_reducible refine Ext.set ?_ ?_ _ | with_reducible refine Ext.drew ?_ | with_reducible refine Ext.drewN ?_ _ | with_reducible refine Ext.trans ?_ (by assumption) | (dsimp only; omega))))
set_option maxHeartbeats 1000000 in
theorem containsSc_any (fn : Nat) (caps : Array Value) (eg : ∀ args w, (callFunc fn args).run Tryz.prog w = .ok (.enter fn args) w) (xs : List (List Hr)) (p : List Hr → Bool) (A : Option Addr) (n c : Nat) (hn : xs.length = n) (hm : n ≤ 10000) (w : World) (hx : ScsAt w A xs)
    (hf : ∀ (x : List Hr) (A' : Option Addr) (c' : Nat) (W : World), Ext w W → x ∈ xs → x.length ≤ c' → HrsAt W A' x → Calls Tryz.prog fn (#[.agg #[.slice A' x.length c']] ++ caps) W fun e W' => e = .returned (.bool (p x)) ∧ Ext W W') :
    Calls Tryz.prog 96 #[.slice A n c, .func (.func fn) #[] caps] w fun e w' => e = .returned (.bool (xs.any p)) ∧ Ext w w' := by
  have HC := hid (indexSc_any fn caps eg xs p A n c hn hm w hx hf)
  clear hf hn hx eg
  go_enter Tryz.func96, Tryz.ntmps96
  go_wp2_with fail
  refine HC.out.mono ?_
  rintro e w2 ⟨⟨r, rfl, hr⟩, hE2⟩
  have HR := hid hr
  clear hr HC
  go_wp2
  go_ret
  exact ⟨ret_bool HR.out, hE2⟩
section
variable (N : Nat) (A1 : Option Addr) (n1 c1 : Nat) (A2 : Option Addr) (n2 c2 : Nat) (ss : List (List Hr)) (rs : List Rl) (RA : Option Addr) (rn rc : Nat)
set_option maxHeartbeats 2000000 in
theorem may11_any (x : List Hr) (A : Option Addr) (c : Nat) (hxl : x.length = N) (hc : N ≤ c) (op : Nat) (hop : op < N) (q1 q2 : Nat) (w : World) (h : RIn w N A2 n2 ss rs RA rn) (hx : HrsAt w A x)
    (b1 : Blk w q1 106 (regCells N (.slice A1 n1 c1) (.slice A2 n2 c2) (.slice RA rn rc))) (b2 : Blk w q2 3 #[.int .i64 (op : Int)]) :
    Calls Tryz.prog 97 #[.agg #[.slice A N c], .pointer (some ⟨q1, 0, none⟩), .pointer (some ⟨q2, 0, none⟩)] w fun e w' => e = .returned (.bool (isOpenM mayB rs x op)) ∧ Ext w w' := by
  have HO := hid (fun (W : World) (hW : Ext w W) => isOpen_any 98 mayB maybeF N h.hN _ _ A1 n1 c1 rfl A2 n2 c2 rfl rs RA rn rc h.hrn h.hrm h.haft x A c hxl hc op hop W (h.wid.ext hW) (h.ru.ext hW) (hx.ext hW))
  unfold regCells at *
  obtain ⟨a0, a1, a2, a3⟩ : _ ∧ _ ∧ _ ∧ _ := ⟨b1.cell 0, b1.cell 1, b1.cell 2, b1.cell 3⟩
  have e0 := b2.cell 0
  have z1 := b1.lt
  have z2 := b2.lt
  simp only [List.getElem?_toArray, List.getElem?_cons_zero, List.getElem?_cons_succ] at a0 a1 a2 a3 e0
  clear h hx b1 b2
  go_enter Tryz.func97, Tryz.ntmps97
  go_wp2_with (go_at_call 93; refine (HO.out _ (by (repeat' (first | with_reducible assumption | with_reducible exact Ext.refl _ | with_reducible refine Ext.alloc ?_ _ | with_reducible refine Ext.set ?_ ?_ _ | with_reducible refine Ext.drew ?_ | with_reducible refine Ext.drewN ?_ _ | with_reducible refine Ext.trans ?_ (by assumption) | (dsimp only; omega))))).mono ?_; rintro e w2 ⟨rfl, hE⟩)
  go_ret
  exact ⟨rfl, by (repeat' (first | with_reducible assumption | with_reducible exact Ext.refl _ | with_reducible refine Ext.alloc ?_ _ | with_reducible refine Ext.set ?_ ?_ _ | with_reducible refine Ext.drew ?_ | with_reducible refine Ext.drewN ?_ _ | with_reducible refine Ext.trans ?_ (by assumption) | (dsimp only; omega)))⟩
set_option maxHeartbeats 2000000 in
theorem may1_any (op : Nat) (hop : op < N) (q1 : Nat) (w : World) (h : RIn w N A2 n2 ss rs RA rn)
    (b1 : Blk w q1 106 (regCells N (.slice A1 n1 c1) (.slice A2 n2 c2) (.slice RA rn rc))) :
    Calls Tryz.prog 95 #[.int .i64 (op : Int), .pointer (some ⟨q1, 0, none⟩)] w fun e w' => e = .returned (.bool (ss.any fun x => isOpenM mayB rs x op)) ∧ Ext w w' := by
  have HA := hid (fun (W : World) (hW : Ext w W) (b2 : Blk W w.heap.size 3 #[.int .i64 (op : Int)]) => containsSc_any 97 #[.pointer (some ⟨q1, 0, none⟩), .pointer (some ⟨w.heap.size, 0, none⟩)] (fun _ _ => by kernel_rfl) ss (fun x => isOpenM mayB rs x op) A2 n2 c2 h.hn (by have := h.hn2; omega) W (h.sc.ext hW)
    (fun x A' c' W' h1 h2 h3 h4 => by
      have hxl := h.hall x h2
      rw [hxl] at h3 ⊢
      exact may11_any N A1 n1 c1 A2 n2 c2 ss rs RA rn rc x A' c' hxl h3 op hop q1 w.heap.size W' ((h.ext hW).ext h1) h4 ((b1.ext hW).ext h1) (b2.ext h1)))
  unfold regCells at *
  have a2 := b1.cell 2
  have z1 := b1.lt
  have B2 := hid (show Blk _ _ _ _ from blk_last w (.cells #[.int .i64 (op : Int)] 3))
  simp only [List.getElem?_toArray, List.getElem?_cons_zero, List.getElem?_cons_succ] at a2
  clear h b1
  generalize (ss.any fun x => isOpenM mayB rs x op) = B at *
  go_enter Tryz.func95, Tryz.ntmps95
  go_wp2_with (go_at_call 96; refine (HA.out _ (by (repeat' (first | with_reducible assumption | with_reducible exact Ext.refl _ | with_reducible refine Ext.alloc ?_ _ | with_reducible refine Ext.set ?_ ?_ _ | with_reducible refine Ext.drew ?_ | with_reducible refine Ext.drewN ?_ _ | with_reducible refine Ext.trans ?_ (by assumption) | (dsimp only; omega)))) B2.out).mono ?_; rintro e w2 ⟨rfl, hE⟩)
  go_ret
  exact ⟨rfl, by (repeat' (first | with_reducible assumption | with_reducible exact Ext.refl _ | with_reducible refine Ext.alloc ?_ _ | with_reducible refine Ext.set ?_ ?_ _ | with_reducible refine Ext.drew ?_ | with_reducible refine Ext.drewN ?_ _ | with_reducible refine Ext.trans ?_ (by assumption) | (dsimp only; omega)))⟩
set_option maxHeartbeats 2000000 in
theorem maybe2_any (w : World) (h : RIn w N A2 n2 ss rs RA rn) :
    Calls Tryz.prog 44 #[.agg (regCells N (.slice A1 n1 c1) (.slice A2 n2 c2) (.slice RA rn rc))] w fun e w' => ∃ A c, e = .returned (.slice A (mayM rs ss N).length c) ∧ Ownl 27 2 gSp w' w.heap.size (.slice A (mayM rs ss N).length c) (mayM rs ss N) ∧ Ext w w' := by
  have HS := hid (fun (W : World) (hW : Ext w W) (b1 : Blk W w.heap.size 106 (regCells N (.slice A1 n1 c1) (.slice A2 n2 c2) (.slice RA rn rc))) => spans_any 95 #[.pointer (some ⟨w.heap.size, 0, none⟩)] (fun _ _ => by kernel_rfl) N (by have := h.hN; omega) (fun op => ss.any fun x => isOpenM mayB rs x op) W
    (fun i W' h1 hi => may1_any N A1 n1 c1 A2 n2 c2 ss rs RA rn rc i hi w.heap.size W' ((h.ext hW).ext h1) (b1.ext h1)))
  change Hid (∀ (W : World), Ext w W → Blk W w.heap.size 106 (regCells N (.slice A1 n1 c1) (.slice A2 n2 c2) (.slice RA rn rc)) → Calls _ _ _ W fun e w' => ∃ A c, e = .returned (.slice A (mayM rs ss N).length c) ∧ Ownl 27 2 gSp w' W.heap.size (.slice A (mayM rs ss N).length c) (mayM rs ss N) ∧ Ext W w') at HS
  generalize mayM rs ss N = sp at *
  have B1 := hid (show Blk _ _ _ _ from blk_last w (.cells (regCells N (.slice A1 n1 c1) (.slice A2 n2 c2) (.slice RA rn rc)) 106))
  unfold regCells at *
  clear h
  go_enter Tryz.func44, Tryz.ntmps44
  go_wp2_with fail
  refine Calls.mono (HS.out _ (by (repeat' (first | with_reducible assumption | with_reducible exact Ext.refl _ | with_reducible refine Ext.alloc ?_ _ | with_reducible refine Ext.set ?_ ?_ _ | with_reducible refine Ext.drew ?_ | with_reducible refine Ext.drewN ?_ _ | with_reducible refine Ext.trans ?_ (by assumption) | (dsimp only; omega)))) B1.out) ?_
  rintro e w2 ⟨A, c, rfl, ho, hE⟩
  have HO := hid (ho.low (show w.heap.size ≤ _ by simp))
  have HE := hid (show Ext w w2 by (repeat' (first | with_reducible assumption | with_reducible exact Ext.refl _ | with_reducible refine Ext.alloc ?_ _ | with_reducible refine Ext.set ?_ ?_ _ | with_reducible refine Ext.drew ?_ | with_reducible refine Ext.drewN ?_ _ | with_reducible refine Ext.trans ?_ (by assumption) | (dsimp only; omega))))
  clear ho hE
  dsimp only
  go_wp2
  go_ret
  exact ⟨A, c, rfl, HO.out, HE.out⟩
end
end Go.Proofs.YtecamnhnjmldcaaGreatDoor
