/- What the statements' proofs share. -/
import Derived.Test.YtcpkdnegmblonaaDoorB21
import Derived.Test.YtcpkdnegmblonaaDoorTie
import Derived.Test.YtcpkdnegmblonaaDoorCards
import Derived.ProofKit
import Derived.LaidMore
import Derived.OpenShut
import Derived.ChangeOld
import Derived.Below
import Derived.Stop.Joined
import Derived.Stop.LaidErr
import Derived.SevenTiedAt
import Derived.Test.YtcpkdnegmblonaaDoorB18
import Derived.Test.YtcpkdnegmblonaaDoorB09
set_option linter.unusedSimpArgs false
set_option linter.unusedVariables false
namespace Go.Proofs.YtcpkdnegmblonaaDoor
open Go.RowKit
open Go.ChangeShapes Go.WideShapes Go.ChangeAt Go.Joins
theorem own : ownKnob Tryd.prog.godebug = none := by kernel_rfl
theorem laidOut : laidOutB Tryd.prog = true := by kernel_rfl
/-- The door's own heap meets the condition. -/
theorem door_met (os : Os) (args : Array Value) : laidMetH Tryd.prog laid1 ((World.doorLaid Tryd.prog 400 os).forCall (fun _ _ => 0) ⟨#[], args, []⟩).memory := by
  refine laidMetH_of_parts3 (fuel := 8) (laidMet_of_run' 8 (by kernel_rfl) (by kernel_rfl)) (by kernel_rfl) (by kernel_rfl)
end Go.Proofs.YtcpkdnegmblonaaDoor
/- What holds of a scenario and of each observation holds of the observed. -/
set_option linter.unusedSimpArgs false
set_option linter.unusedVariables false
namespace Go.Proofs.YtcpkdnegmblonaaDoor
open Go.RowKit
theorem obsM_all (P : Nat → Hr → Prop) : ∀ (seen : List Sg) (hs : List Hr), (∀ h, h < hs.length → P h (hs.getD h zeroHr)) → (∀ s ∈ seen, s.hour.toNat < hs.length → P s.hour.toNat (justM s)) → ∀ h, h < hs.length → P h ((obsM seen hs).getD h zeroHr)
  | [], hs, h1, _, h, hh => h1 h hh
  | s :: ss, hs, h1, h2, h, hh => by
    have e : obsM (s :: ss) hs = obsM ss (hs.set s.hour.toNat (justM s)) := rfl
    rw [e]
    refine obsM_all P ss _ (fun i hi => ?_) (fun t ht hl => h2 t (by simp [ht]) (by rw [List.length_set] at hl; exact hl)) h (by rw [List.length_set]; exact hh)
    rw [List.length_set] at hi
    by_cases hie : i = s.hour.toNat
    · subst hie
      have e2 : (hs.set s.hour.toNat (justM s)).getD s.hour.toNat zeroHr = justM s := by
        simp [List.getD, List.getElem?_set_self hi]
      rw [e2]
      exact h2 s (by simp) hi
    · have e2 : (hs.set s.hour.toNat (justM s)).getD i zeroHr = hs.getD i zeroHr := by
        have hne : s.hour.toNat ≠ i := fun h => hie h.symm
        simp [List.getD, List.getElem?_set_ne hne]
      rw [e2]
      exact h1 i hi
end Go.Proofs.YtcpkdnegmblonaaDoor
/- What a region leaves alone that stores into one block. -/
set_option linter.unusedSimpArgs false
set_option linter.unusedVariables false
namespace Go.Proofs.YtcpkdnegmblonaaDoor
open Go.RowKit
theorem sG {U X : World} (e : Ext U X) (G : Nat) : (∀ b o, b < U.heap.size → ¬ b = G → X.cell? ⟨b, o, none⟩ = U.cell? ⟨b, o, none⟩) ∧ U.heap.size ≤ X.heap.size := ⟨fun _ _ hb _ => e.cell hb, e.size⟩
theorem cell_setCells_other {G : Nat} : ∀ (vs : List Value) (o : Nat) (X : World) (b p : Nat), ¬ b = G → (X.setCells G o vs).cell? ⟨b, p, none⟩ = X.cell? ⟨b, p, none⟩
  | [], _, _, _, _, _ => rfl
  | v :: r, o, X, b, p, h => by
    show ((X.setCell ⟨G, o, none⟩ v).setCells G (o + 1) r).cell? _ = _
    rw [cell_setCells_other r (o + 1) _ b p h]
    exact World.cell?_setCell_other X ⟨G, o, none⟩ ⟨b, p, none⟩ v (fun e => by injection e with e; first | exact h e | exact h e.symm)
theorem size_setCells {G : Nat} : ∀ (vs : List Value) (o : Nat) (X : World), (X.setCells G o vs).heap.size = X.heap.size
  | [], _, _ => rfl
  | v :: r, o, X => by
    show ((X.setCell ⟨G, o, none⟩ v).setCells G (o + 1) r).heap.size = _
    rw [size_setCells r (o + 1)]
    simp
theorem sGs {U X : World} (e : Ext U X) (G o : Nat) (vs : List Value) : (∀ b p, b < U.heap.size → ¬ b = G → (X.setCells G o vs).cell? ⟨b, p, none⟩ = U.cell? ⟨b, p, none⟩) ∧ U.heap.size ≤ (X.setCells G o vs).heap.size :=
  ⟨fun b p hb hn => (cell_setCells_other vs o X b p hn).trans (e.cell hb), by rw [size_setCells]; exact e.size⟩
end Go.Proofs.YtcpkdnegmblonaaDoor
