/- The two iterators: the elements of a set, and its subsets. -/
import Derived.Test.YtcfijidlbimckaaDoorBits
import Derived.OwnWalkIn
import Derived.TacticsInMore
import Derived.LoopNIn
import Derived.LoopIn
set_option linter.unusedSimpArgs false
set_option linter.unusedVariables false
namespace Go.Proofs.YtcfijidlbimckaaDoor
open Go.RowKit
attribute [local go_sem] Oper.semAt_some

/-- What an iterator over a set yields: just these, in this order. -/
def Gives {α : Type} (n gf s : Nat) (enc : α → Value) (xs : List α) : Prop :=
  ∀ (l : Nat) (J : List α → World → Prop) (W : World), (∀ pre W1, J pre W1 → TabW W1) →
    (∀ pre x suf W1, xs = pre ++ x :: suf → J pre W1 → YieldAt Fence.wide (n - 1) Tryd.prog l #[enc x] W1 fun e W' => e = .returned (.bool true) ∧ J (pre ++ [x]) W') →
    J [] W → CallsIn Fence.wide n Tryd.prog gf #[.int .u64 s, .func (.yield l) #[] #[]] W fun e W' => (∃ v, e = .returned v) ∧ J xs W'
def encI (i : Nat) : Value := .int .i64 i
def encU (i : Nat) : Value := .int .u64 i

set_option maxRecDepth 100000 in
set_option maxHeartbeats 2000000 in
theorem elements_gives (n : Nat) (hn : 3 ≤ n) (s : Nat) (hs : s < 18446744073709551616) : Gives n 58 s encI (bitsL s) := by
  intro l J W hJT hY h0
  have HY := hid hY
  have HJT := hid hJT
  have H0 := hid h0
  clear hY hJT h0
  refine callsIn_of_wp Tryd.func58 rfl trivial ?_ rfl
  simp only [Tryd.ntmps58, List.size_toArray, List.length_cons, List.length_nil, Nat.reduceAdd, Nat.reduceSub, Array.replicate_succ, Array.replicate_zero, List.push_toArray, List.append_toArray, List.nil_append, List.cons_append]
  gi_wp2
  gi_loopw [0] (fun sv wr => ∃ (s' : Nat) (pre : List Nat), s' < 18446744073709551616 ∧ sv = .int .u64 s' ∧ Hid (bitsL s = pre ++ bitsL s') ∧ Hid (J pre wr)) (fun sv _ => (intOf sv).toNat)
  case atStart => exact ⟨s, [], hs, rfl, hid rfl, H0⟩
  case round =>
    obtain ⟨s', pre, hs', rfl, HB, HJ⟩ := hrel
    by_cases hz : s' = 0
    · subst hz
      have HE := hid (show bitsL s = pre by rw [HB.out, bitsL_zero, List.append_nil])
      gi_wp2
      go_end0
      exact ⟨⟨_, rfl⟩, by rw [HE.out]; exact HJ.out⟩
    · obtain ⟨hb, hlt⟩ := bitsL_step hz hs'
      rw [hb] at HB
      have HT := hid (tz_any s' hz hs' wr (HJT.out _ _ HJ.out))
      have hand := and_u64 hs' (show s' - 1 < 18446744073709551616 by omega)
      have hw1 : IntKind.u64.wrap ((s' : Int) - 1) = ((s' - 1 : Nat) : Int) := by rw [IntKind.wrap_u64]; omega
      have hz0 : ((s' : Int) == 0) = false := by simp; exact hz
      obtain ⟨fn, tmps, assign, body, hy, hR⟩ := HY.out _ _ _ _ HB.out HJ.out
      have HR := hid hR
      have HB2 := hid (show bitsL s = (pre ++ [Lib.ctz 64 s']) ++ bitsL (s' &&& (s' - 1)) by rw [HB.out]; simp)
      have hlt2 : s' &&& (s' - 1) < 18446744073709551616 := by omega
      clear hR hb
      unfold encI at hy
      generalize Lib.ctz 64 s' = c at *
      gi_wp2_with fail
      refine ⟨trivial, fun hh => absurd hh (by simp [Fence.wide]), ?_⟩
      refine (callsIn_wide.2 HT.out).mono ?_
      rintro e w2 ⟨rfl, rfl⟩
      gi_wp2
      refine ⟨fun hh => absurd hh (by simp [Fence.wide]), ?_⟩
      refine HR.out.mono ?_
      rintro e W3 ⟨rfl, hJ3⟩
      have HJ3 := hid hJ3
      clear hJ3
      gi_wp2_with (simp only [hw1, hand])
      exact ⟨⟨_, _, hlt2, rfl, HB2, HJ3⟩, by simp [intOf]; omega⟩

set_option maxRecDepth 100000 in
set_option maxHeartbeats 2000000 in
theorem subsets_gives (n : Nat) (hn : 3 ≤ n) (s : Nat) (hs : s < 256) : Gives n 59 s encU (subsL s) := by
  intro l J W hJT hY h0
  have HY := hid hY
  have HJT := hid hJT
  have H0 := hid h0
  clear hY hJT h0
  obtain ⟨⟨r0, hr0⟩, hch⟩ := subs_chain hs
  have HR0 := hid hr0
  clear hr0 hch
  refine callsIn_of_wp Tryd.func59 rfl trivial ?_ rfl
  simp only [Tryd.ntmps59, List.size_toArray, List.length_cons, List.length_nil, Nat.reduceAdd, Nat.reduceSub, Array.replicate_succ, Array.replicate_zero, List.push_toArray, List.append_toArray, List.nil_append, List.cons_append]
  gi_wp2
  gi_loopw [4] (fun sv wr => ∃ (x : Nat) (pre suf : List Nat), x < 256 ∧ sv = .int .u64 x ∧ Hid (subsL s = pre ++ x :: suf) ∧ Hid (J pre wr)) (fun sv _ => 256 - (intOf sv).toNat)
  case atStart => exact ⟨0, [], r0, by omega, rfl, HR0, H0⟩
  case round =>
    obtain ⟨x, pre, suf, hx, rfl, HB, HJ⟩ := hrel
    obtain ⟨hend, hgo⟩ := chain_end hs HB.out.symm
    obtain ⟨fn, tmps, assign, body, hy, hR⟩ := HY.out _ _ _ _ HB.out HJ.out
    have HR := hid hR
    clear hR
    unfold encU at hy
    by_cases hz : x = s
    · have HE := hid (show subsL s = pre ++ [x] by rw [HB.out, hend hz])
      clear hend hgo
      subst hz
      gi_wp2
      refine ⟨fun hh => absurd hh (by simp [Fence.wide]), ?_⟩
      refine HR.out.mono ?_
      rintro e W3 ⟨rfl, hJ3⟩
      have HJ3 := hid hJ3
      clear hJ3
      gi_wp2
      go_end0
      exact ⟨⟨_, rfl⟩, by rw [HE.out]; exact HJ3.out⟩
    · obtain ⟨r, rfl⟩ := hgo hz
      have hd : ((x : Int) == (s : Int)) = false := by simp; omega
      obtain ⟨hl1, hl2⟩ := subs_lt HB.out
      have hnx : bits BinOp.and IntKind.u64 (IntKind.u64.wrap ((x : Int) - (s : Int))) (s : Int) = ((nextS s x : Nat) : Int) := by
        have : IntKind.u64.wrap ((x : Int) - (s : Int)) = (((18446744073709551616 + x - s) % 18446744073709551616 : Nat) : Int) := by rw [IntKind.wrap_u64]; omega
        rw [this, and_u64 (by omega) (by omega)]
        rfl
      have HB2 := hid (show subsL s = (pre ++ [x]) ++ nextS s x :: r by rw [HB.out]; simp)
      generalize nextS s x = y at *
      clear hend hgo
      gi_wp2
      refine ⟨fun hh => absurd hh (by simp [Fence.wide]), ?_⟩
      refine HR.out.mono ?_
      rintro e W3 ⟨rfl, hJ3⟩
      have HJ3 := hid hJ3
      clear hJ3
      gi_wp2_with (simp only [hnx])
      exact ⟨⟨_, _, _, hl2, rfl, HB2, HJ3⟩, by simp [intOf]; omega⟩
end Go.Proofs.YtcfijidlbimckaaDoor
