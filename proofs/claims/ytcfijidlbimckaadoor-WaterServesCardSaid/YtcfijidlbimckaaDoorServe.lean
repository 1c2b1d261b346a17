/- Serve, of the program. -/
import Derived.Test.YtcfijidlbimckaaDoorCheapest
import Derived.Test.YtcfijidlbimckaaDoorBeginS
set_option linter.unusedSimpArgs false
set_option linter.unusedVariables false
namespace Go.Proofs.YtcfijidlbimckaaDoor
open Go.RowKit
def surN (d : Wat) : Nat := sureN d.spr.length (truthsL d)
def enB (d : Wat) (need : Int) (p : Nat) : Bool := decide (need ≤ litN d.spr (bitsL (surN d)) + litN d.spr (bitsL p))
def servO (d : Wat) (need : Int) : Option Nat := bestS d (enB d need) (subsL (dif (2 ^ d.spr.length - 1) (surN d)))
def servT (d : Wat) (need : Int) : Nat := match servO d need with | none => 0 | some p => p
def servE (d : Wat) (need : Int) : Int := if watB d = true then if wB need 0 10000 = true then if truthsL d = [] then 3 else if (servO d need).isSome = true then 0 else 3 else 1 else 40
def servP (d : Wat) (need : Int) : Nat := if servE d need = 0 then surN d else 0
def servQ (d : Wat) (need : Int) : Nat := if servE d need = 0 then servT d need else 0
def servF (d : Wat) (need : Int) : Int := if servE d need = 0 then fuelN d.spr (bitsL (servT d need)) else 0
set_option maxHeartbeats 1000000 in
theorem serve1_any (d : Wat) (A : WA) (T : Value) (need : Int) (b : Nat) (w : World) (hb : Blk w b 3 #[.int .i64 need]) :
    Calls Tryd.prog 47 (#[fval d A T] ++ #[.pointer (some ⟨b, 0, none⟩)]) w fun e w' => e = .returned (.bool (wB need 0 10000)) ∧ Ext w w' := by
  have c0 := hb.cell 0
  have z0 := hb.lt
  simp only [List.getElem?_toArray, List.getElem?_cons_zero] at c0
  have HW := hid (fun W => isWithin_any need 0 10000 W)
  generalize wB need 0 10000 = q at *
  unfold fval
  obtain ⟨f0, f1, f2, f3, f4, f5, hf⟩ : ∃ f0 f1 f2 f3 f4 f5, fcells d A T = #[f0, f1, f2, f3, f4, f5] := ⟨_, _, _, _, _, _, rfl⟩
  rw [hf]
  clear hf hb
  go_enter Tryd.func47, Tryd.ntmps47
  go_wp2_with (go_at_call 48; refine (HW.out _).mono ?_; rintro e w2 ⟨rfl, rfl⟩)
  go_ret
  exact ⟨rfl, by (repeat' (first | with_reducible assumption | with_reducible exact Ext.refl _ | with_reducible refine Ext.alloc ?_ _ | with_reducible refine Ext.set ?_ ?_ _ | with_reducible refine Ext.drew ?_ | with_reducible refine Ext.drewN ?_ _ | with_reducible refine Ext.trans ?_ (by assumption) | (dsimp only; omega)))⟩
theorem bits_bd {s i : Nat} (hs : s < 256) (hi : i ∈ bitsL s) : i < 8 := bitsL_lt (k := 8) hs hi
theorem lit_lo {d : Wat} (hok : WOk d) {p : Nat} (hp : p < 2 ^ d.spr.length) : 0 ≤ litN d.spr (bitsL p) ∧ litN d.spr (bitsL p) ≤ 64000 := by
  have := litN_bd (spr := d.spr) (is := bitsL p) (fun i hi => by have := hok.spr i (bitsL_lt hp hi); omega)
  have := bitsL_len p
  omega
set_option maxHeartbeats 1000000 in
theorem serve2_any (d : Wat) (hok : WOk d) (s : Nat) (hs : s < 2 ^ d.spr.length) (need : Int) (p : Nat) (hp : p < 2 ^ d.spr.length) (b c : Nat) (w : World) (hb : Blk w b 79 (bcells d s)) (hc : Blk w c 3 #[.int .i64 need]) :
    Calls Tryd.prog 50 (#[bval d p] ++ #[.pointer (some ⟨b, 0, none⟩), .pointer (some ⟨c, 0, none⟩)]) w fun e w' => e = .returned (.bool (decide (need ≤ litN d.spr (bitsL s) + litN d.spr (bitsL p)))) ∧ Ext w w' := by
  have h1 := lit_lo hok hs
  have h2 := lit_lo hok hp
  have c0 := hc.cell 0
  have z0 := hc.lt
  unfold bcells at hb
  unfold bval bcells
  have b1 := hb.cell 1
  have z1 := hb.lt
  simp only [List.getElem?_toArray, List.getElem?_cons_zero, List.getElem?_cons_succ] at c0 b1
  generalize litN d.spr (bitsL s) = x at *
  generalize litN d.spr (bitsL p) = y at *
  generalize fuelN d.spr (bitsL p) = f at *
  clear hb hc hok
  go_enter Tryd.func50, Tryd.ntmps50
  go_wp2
  go_ret
  exact ⟨rfl, by (repeat' (first | with_reducible assumption | with_reducible exact Ext.refl _ | with_reducible refine Ext.alloc ?_ _ | with_reducible refine Ext.set ?_ ?_ _ | with_reducible refine Ext.drew ?_ | with_reducible refine Ext.drewN ?_ _ | with_reducible refine Ext.trans ?_ (by assumption) | (dsimp only; omega)))⟩
end Go.Proofs.YtcfijidlbimckaaDoor
