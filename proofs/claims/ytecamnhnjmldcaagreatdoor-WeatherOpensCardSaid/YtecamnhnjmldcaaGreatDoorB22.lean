/- The small functions of the specification. -/
import Derived.Test.YtecamnhnjmldcaaGreatDoorB21
import Derived.Test.YtecamnhnjmldcaaGreatDoorB06
set_option linter.unusedSimpArgs false
set_option linter.unusedVariables false
namespace Go.Proofs.YtecamnhnjmldcaaGreatDoor
open Go.RowKit
theorem rWithin_any (a b c : Int) (w : World) :
    Calls Tryz.prog 53 #[.int .i64 a, .int .i64 b, .int .i64 c] w fun e w' => e = .returned (.bool (inI a b c)) ∧ w' = w := by
  unfold inI
  go_enter Tryz.func53, Tryz.ntmps53
  go_wp2
  all_goals (go_ret; exact ⟨ret_bool (by first | (simp [*]; done) | (simp [*]; omega)), rfl⟩)
theorem rSpan_any (l h b c : Int) (w : World) :
    Calls Tryz.prog 80 #[.agg #[.int .i64 l, .int .i64 h], .int .i64 b, .int .i64 c] w fun e w' => e = .returned (.bool (spB l h b c)) ∧ Ext w w' := by
  unfold spB
  go_enter Tryz.func80, Tryz.ntmps80
  go_wp2
  all_goals (go_ret; exact ⟨ret_bool (by first | (simp [*]; done) | (simp [*]; omega)), by (repeat' (first | with_reducible assumption | with_reducible exact Ext.refl _ | with_reducible refine Ext.alloc ?_ _ | with_reducible refine Ext.set ?_ ?_ _ | with_reducible refine Ext.drew ?_ | with_reducible refine Ext.drewN ?_ _ | with_reducible refine Ext.trans ?_ (by assumption) | (dsimp only; omega)))⟩)
theorem rIn_any (n l h : Int) (w : World) :
    Calls Tryz.prog 114 #[.int .i64 n, .agg #[.int .i64 l, .int .i64 h]] w fun e w' => e = .returned (.bool (inI n l h)) ∧ Ext w w' := by
  have HW := hid (fun W => rWithin_any n l h W)
  generalize inI n l h = B at *
  go_enter Tryz.func114, Tryz.ntmps114
  go_wp2_with (go_at_call 53; refine (HW.out _).mono ?_; rintro e w2 ⟨rfl, rfl⟩)
  go_ret
  exact ⟨rfl, by (repeat' (first | with_reducible assumption | with_reducible exact Ext.refl _ | with_reducible refine Ext.alloc ?_ _ | with_reducible refine Ext.set ?_ ?_ _ | with_reducible refine Ext.drew ?_ | with_reducible refine Ext.drewN ?_ _ | with_reducible refine Ext.trans ?_ (by assumption) | (dsimp only; omega)))⟩
theorem rHours_any (A : Option Addr) (n c : Nat) (f : List (List Hr)) (hn : f.length = n) (hn0 : 0 < n) (w : World) (hf : ScsAt w A f) :
    Calls Tryz.prog 30 #[.agg #[.slice A n c]] w fun e w' => e = .returned (.int .i64 (hoursN f)) ∧ Ext w w' := by
  cases f with
  | nil => simp at hn; omega
  | cons h t =>
    obtain ⟨b, off, rfl, hb, A', c', hc, hl, hh⟩ := hf.at_ rfl (k := 0) (by simp)
    have e : hoursN (h :: t) = ((h :: t).getD 0 []).length := rfl
    rw [e]
    generalize (h :: t).getD 0 [] = y at *
    have HL := hid hl
    rw [Nat.add_zero] at hc
    clear hl hh hf hn
    generalize y.length = m at *
    go_enter Tryz.func30, Tryz.ntmps30
    go_wp2
    go_ret
    exact ⟨rfl, by (repeat' (first | with_reducible assumption | with_reducible exact Ext.refl _ | with_reducible refine Ext.alloc ?_ _ | with_reducible refine Ext.set ?_ ?_ _ | with_reducible refine Ext.drew ?_ | with_reducible refine Ext.drewN ?_ _ | with_reducible refine Ext.trans ?_ (by assumption) | (dsimp only; omega)))⟩
theorem rIsHour_any (A : Option Addr) (n c : Nat) (f : List (List Hr)) (hn : f.length = n) (hn0 : 0 < n) (hN : hoursN f ≤ 10000) (x : Int) (w : World) (hf : ScsAt w A f) :
    Calls Tryz.prog 115 #[.agg #[.slice A n c], .int .i64 x] w fun e w' => e = .returned (.bool (inI x 0 ((hoursN f : Int) - 1))) ∧ Ext w w' := by
  have HH := hid (fun (W : World) (hW : Ext w W) => rHours_any A n c f hn hn0 W (hf.ext hW))
  clear hn hf
  generalize hoursN f = N at *
  have HW := hid (fun W => rWithin_any x 0 ((N : Int) - 1) W)
  have hw1 : IntKind.i64.wrap ((N : Int) - 1) = (N : Int) - 1 := IntWalk.i64_in _ (by omega)
  generalize inI x 0 ((N : Int) - 1) = B at *
  go_enter Tryz.func115, Tryz.ntmps115
  go_wp2_with (first
    | (go_at_call 30; refine (HH.out _ (by (repeat' (first | with_reducible assumption | with_reducible exact Ext.refl _ | with_reducible refine Ext.alloc ?_ _ | with_reducible refine Ext.set ?_ ?_ _ | with_reducible refine Ext.drew ?_ | with_reducible refine Ext.drewN ?_ _ | with_reducible refine Ext.trans ?_ (by assumption) | (dsimp only; omega))))).mono ?_; rintro e w2 ⟨rfl, hE⟩)
    | (go_at_call 53; refine (HW.out _).mono ?_; rintro e w3 ⟨rfl, rfl⟩))
  go_ret
  exact ⟨rfl, by (repeat' (first | with_reducible assumption | with_reducible exact Ext.refl _ | with_reducible refine Ext.alloc ?_ _ | with_reducible refine Ext.set ?_ ?_ _ | with_reducible refine Ext.drew ?_ | with_reducible refine Ext.drewN ?_ _ | with_reducible refine Ext.trans ?_ (by assumption) | (dsimp only; omega)))⟩
set_option maxHeartbeats 1000000 in
theorem rInside_any (s : Sk) (h : Hr) (w : World) :
    Calls Tryz.prog 100 #[s.val, h.val] w fun e w' => e = .returned (.bool (insB s h)) ∧ Ext w w' := by
  unfold insB Sk.val Hr.val
  obtain ⟨wi, ra, te⟩ := s
  obtain ⟨wl, wh, rl, rh, tl, th⟩ := h
  dsimp only
  have H1 := hid (fun W => rIn_any wi wl wh W)
  have H2 := hid (fun W => rIn_any ra rl rh W)
  have H3 := hid (fun W => rIn_any te tl th W)
  generalize inI wi wl wh = b1 at *
  generalize inI ra rl rh = b2 at *
  generalize inI te tl th = b3 at *
  cases b1
  · go_enter Tryz.func100, Tryz.ntmps100
    go_wp2_with (first
      | (go_at_call 114; refine (H1.out _).mono ?_; rintro e w2 ⟨rfl, hE⟩; (first | (have hK := KC.step (n := w.heap.size + 2) (by with_reducible assumption) hE) | (have hK := KC.step (KC.step (n := w.heap.size + 2) (by with_reducible assumption) (ext_alloc1 _ _)) hE) | (have hK := KC.step (KC.refl (n := w.heap.size + 2) (by simp)) hE)); have hC := hK.cell; have hF := hK.fro; have hX := hK.ext; clear H1)
      | (go_at_call 114; refine (H2.out _).mono ?_; rintro e w3 ⟨rfl, hE⟩; (first | (have hK := KC.step (n := w.heap.size + 2) (by with_reducible assumption) hE) | (have hK := KC.step (KC.step (n := w.heap.size + 2) (by with_reducible assumption) (ext_alloc1 _ _)) hE) | (have hK := KC.step (KC.refl (n := w.heap.size + 2) (by simp)) hE)); have hC := hK.cell; have hF := hK.fro; have hX := hK.ext; clear H2)
      | (go_at_call 114; refine (H3.out _).mono ?_; rintro e w4 ⟨rfl, hE⟩; (first | (have hK := KC.step (n := w.heap.size + 2) (by with_reducible assumption) hE) | (have hK := KC.step (KC.step (n := w.heap.size + 2) (by with_reducible assumption) (ext_alloc1 _ _)) hE) | (have hK := KC.step (KC.refl (n := w.heap.size + 2) (by simp)) hE)); have hC := hK.cell; have hF := hK.fro; have hX := hK.ext))
    go_ret
    exact ⟨ret_bool (by first | rfl | (simp; done)), by (repeat' (first | with_reducible assumption | with_reducible exact Ext.refl _ | with_reducible refine Ext.alloc ?_ _ | with_reducible refine Ext.set ?_ ?_ _ | with_reducible refine Ext.drew ?_ | with_reducible refine Ext.drewN ?_ _ | with_reducible refine Ext.trans ?_ (by assumption) | (dsimp only; omega)))⟩
  cases b2
  · go_enter Tryz.func100, Tryz.ntmps100
    go_wp2_with (first
      | (go_at_call 114; refine (H1.out _).mono ?_; rintro e w2 ⟨rfl, hE⟩; (first | (have hK := KC.step (n := w.heap.size + 2) (by with_reducible assumption) hE) | (have hK := KC.step (KC.step (n := w.heap.size + 2) (by with_reducible assumption) (ext_alloc1 _ _)) hE) | (have hK := KC.step (KC.refl (n := w.heap.size + 2) (by simp)) hE)); have hC := hK.cell; have hF := hK.fro; have hX := hK.ext; clear H1)
      | (go_at_call 114; refine (H2.out _).mono ?_; rintro e w3 ⟨rfl, hE⟩; (first | (have hK := KC.step (n := w.heap.size + 2) (by with_reducible assumption) hE) | (have hK := KC.step (KC.step (n := w.heap.size + 2) (by with_reducible assumption) (ext_alloc1 _ _)) hE) | (have hK := KC.step (KC.refl (n := w.heap.size + 2) (by simp)) hE)); have hC := hK.cell; have hF := hK.fro; have hX := hK.ext; clear H2)
      | (go_at_call 114; refine (H3.out _).mono ?_; rintro e w4 ⟨rfl, hE⟩; (first | (have hK := KC.step (n := w.heap.size + 2) (by with_reducible assumption) hE) | (have hK := KC.step (KC.step (n := w.heap.size + 2) (by with_reducible assumption) (ext_alloc1 _ _)) hE) | (have hK := KC.step (KC.refl (n := w.heap.size + 2) (by simp)) hE)); have hC := hK.cell; have hF := hK.fro; have hX := hK.ext))
    go_ret
    exact ⟨ret_bool (by first | rfl | (simp; done)), by (repeat' (first | with_reducible assumption | with_reducible exact Ext.refl _ | with_reducible refine Ext.alloc ?_ _ | with_reducible refine Ext.set ?_ ?_ _ | with_reducible refine Ext.drew ?_ | with_reducible refine Ext.drewN ?_ _ | with_reducible refine Ext.trans ?_ (by assumption) | (dsimp only; omega)))⟩
  go_enter Tryz.func100, Tryz.ntmps100
  go_wp2_with (first
    | (go_at_call 114; refine (H1.out _).mono ?_; rintro e w2 ⟨rfl, hE⟩; (first | (have hK := KC.step (n := w.heap.size + 2) (by with_reducible assumption) hE) | (have hK := KC.step (KC.step (n := w.heap.size + 2) (by with_reducible assumption) (ext_alloc1 _ _)) hE) | (have hK := KC.step (KC.refl (n := w.heap.size + 2) (by simp)) hE)); have hC := hK.cell; have hF := hK.fro; have hX := hK.ext; clear H1)
    | (go_at_call 114; refine (H2.out _).mono ?_; rintro e w3 ⟨rfl, hE⟩; (first | (have hK := KC.step (n := w.heap.size + 2) (by with_reducible assumption) hE) | (have hK := KC.step (KC.step (n := w.heap.size + 2) (by with_reducible assumption) (ext_alloc1 _ _)) hE) | (have hK := KC.step (KC.refl (n := w.heap.size + 2) (by simp)) hE)); have hC := hK.cell; have hF := hK.fro; have hX := hK.ext; clear H2)
    | (go_at_call 114; refine (H3.out _).mono ?_; rintro e w4 ⟨rfl, hE⟩; (first | (have hK := KC.step (n := w.heap.size + 2) (by with_reducible assumption) hE) | (have hK := KC.step (KC.step (n := w.heap.size + 2) (by with_reducible assumption) (ext_alloc1 _ _)) hE) | (have hK := KC.step (KC.refl (n := w.heap.size + 2) (by simp)) hE)); have hC := hK.cell; have hF := hK.fro; have hX := hK.ext))
  go_ret
  exact ⟨ret_bool (by first | rfl | (simp; done)), by (repeat' (first | with_reducible assumption | with_reducible exact Ext.refl _ | with_reducible refine Ext.alloc ?_ _ | with_reducible refine Ext.set ?_ ?_ _ | with_reducible refine Ext.drew ?_ | with_reducible refine Ext.drewN ?_ _ | with_reducible refine Ext.trans ?_ (by assumption) | (dsimp only; omega)))⟩
set_option maxHeartbeats 1000000 in
theorem rLimits_any (l : Lm) (w : World) : Calls Tryz.prog 99 #[l.val] w fun e w' => e = .returned (.bool (lmB l)) ∧ Ext w w' := by
  unfold lmB Lm.val
  obtain ⟨wi, ra, tl, th⟩ := l
  dsimp only
  have H1 := hid (fun W => rWithin_any wi 0 200 W)
  have H2 := hid (fun W => rWithin_any ra 0 100 W)
  have H3 := hid (fun W => rSpan_any tl th (-50) 50 W)
  generalize inI wi 0 200 = b1 at *
  generalize inI ra 0 100 = b2 at *
  generalize spB tl th (-50) 50 = b3 at *
  cases b1
  · go_enter Tryz.func99, Tryz.ntmps99
    go_wp2_with (first
      | (go_at_call 53; refine (H1.out _).mono ?_; rintro e w2 ⟨rfl, rfl⟩; clear H1)
      | (go_at_call 53; refine (H2.out _).mono ?_; rintro e w3 ⟨rfl, rfl⟩; clear H2)
      | (go_at_call 80; refine (H3.out _).mono ?_; rintro e w4 ⟨rfl, hE⟩))
    go_ret
    exact ⟨ret_bool (by first | rfl | (simp; done)), by (repeat' (first | with_reducible assumption | with_reducible exact Ext.refl _ | with_reducible refine Ext.alloc ?_ _ | with_reducible refine Ext.set ?_ ?_ _ | with_reducible refine Ext.drew ?_ | with_reducible refine Ext.drewN ?_ _ | with_reducible refine Ext.trans ?_ (by assumption) | (dsimp only; omega)))⟩
  cases b2
  · go_enter Tryz.func99, Tryz.ntmps99
    go_wp2_with (first
      | (go_at_call 53; refine (H1.out _).mono ?_; rintro e w2 ⟨rfl, rfl⟩; clear H1)
      | (go_at_call 53; refine (H2.out _).mono ?_; rintro e w3 ⟨rfl, rfl⟩; clear H2)
      | (go_at_call 80; refine (H3.out _).mono ?_; rintro e w4 ⟨rfl, hE⟩))
    go_ret
    exact ⟨ret_bool (by first | rfl | (simp; done)), by (repeat' (first | with_reducible assumption | with_reducible exact Ext.refl _ | with_reducible refine Ext.alloc ?_ _ | with_reducible refine Ext.set ?_ ?_ _ | with_reducible refine Ext.drew ?_ | with_reducible refine Ext.drewN ?_ _ | with_reducible refine Ext.trans ?_ (by assumption) | (dsimp only; omega)))⟩
  go_enter Tryz.func99, Tryz.ntmps99
  go_wp2_with (first
    | (go_at_call 53; refine (H1.out _).mono ?_; rintro e w2 ⟨rfl, rfl⟩; clear H1)
    | (go_at_call 53; refine (H2.out _).mono ?_; rintro e w3 ⟨rfl, rfl⟩; clear H2)
    | (go_at_call 80; refine (H3.out _).mono ?_; rintro e w4 ⟨rfl, hE⟩))
  go_ret
  exact ⟨ret_bool (by first | rfl | (simp; done)), by (repeat' (first | with_reducible assumption | with_reducible exact Ext.refl _ | with_reducible refine Ext.alloc ?_ _ | with_reducible refine Ext.set ?_ ?_ _ | with_reducible refine Ext.drew ?_ | with_reducible refine Ext.drewN ?_ _ | with_reducible refine Ext.trans ?_ (by assumption) | (dsimp only; omega)))⟩
set_option maxHeartbeats 1000000 in
theorem rKept_any (s : Sk) (l : Lm) (w : World) : Calls Tryz.prog 73 #[s.val, l.val] w fun e w' => e = .returned (.bool (keptB s l)) ∧ Ext w w' := by
  unfold keptB Sk.val Lm.val
  obtain ⟨sw, sr, st⟩ := s
  obtain ⟨wi, ra, tl, th⟩ := l
  dsimp only
  have H3 := hid (fun W => rIn_any st tl th W)
  generalize inI st tl th = b3 at *
  by_cases h1 : sw ≤ wi
  case neg => go_enter Tryz.func73, Tryz.ntmps73
              go_wp2_with (go_at_call 114; refine (H3.out _).mono ?_; rintro e w4 ⟨rfl, hE⟩)
              go_ret
              exact ⟨ret_bool (by first | rfl | (simp [*]; done) | (simp [*]; omega)), by (repeat' (first | with_reducible assumption | with_reducible exact Ext.refl _ | with_reducible refine Ext.alloc ?_ _ | with_reducible refine Ext.set ?_ ?_ _ | with_reducible refine Ext.drew ?_ | with_reducible refine Ext.drewN ?_ _ | with_reducible refine Ext.trans ?_ (by assumption) | (dsimp only; omega)))⟩
  by_cases h2 : sr ≤ ra
  case neg => go_enter Tryz.func73, Tryz.ntmps73
              go_wp2_with (go_at_call 114; refine (H3.out _).mono ?_; rintro e w4 ⟨rfl, hE⟩)
              go_ret
              exact ⟨ret_bool (by first | rfl | (simp [*]; done) | (simp [*]; omega)), by (repeat' (first | with_reducible assumption | with_reducible exact Ext.refl _ | with_reducible refine Ext.alloc ?_ _ | with_reducible refine Ext.set ?_ ?_ _ | with_reducible refine Ext.drew ?_ | with_reducible refine Ext.drewN ?_ _ | with_reducible refine Ext.trans ?_ (by assumption) | (dsimp only; omega)))⟩
  go_enter Tryz.func73, Tryz.ntmps73
  go_wp2_with (go_at_call 114; refine (H3.out _).mono ?_; rintro e w4 ⟨rfl, hE⟩)
  go_ret
  exact ⟨ret_bool (by first | rfl | (simp [*]; done) | (simp [*]; omega)), by (repeat' (first | with_reducible assumption | with_reducible exact Ext.refl _ | with_reducible refine Ext.alloc ?_ _ | with_reducible refine Ext.set ?_ ?_ _ | with_reducible refine Ext.drew ?_ | with_reducible refine Ext.drewN ?_ _ | with_reducible refine Ext.trans ?_ (by assumption) | (dsimp only; omega)))⟩
end Go.Proofs.YtecamnhnjmldcaaGreatDoor
/- One more truth value in a slice of the call's own; what lies below a number of blocks. -/
set_option linter.unusedSimpArgs false
set_option linter.unusedVariables false
namespace Go.Proofs.YtecamnhnjmldcaaGreatDoor
open Go.RowKit
def gBo (x : Bool) : List Value := [.bool x]
theorem oneBo : ∀ y : Bool, ∀ u ∈ gBo y, u.oneCell' = true := by
  intro y u hu
  simp only [gBo, List.mem_cons, List.not_mem_nil, or_false] at hu
  subst hu
  rfl
theorem flat_bos {w : World} {A : Option Addr} {xs : List Bool} : FlatAt 1 gBo false w A xs ↔ BosAt w A xs := by
  constructor
  · intro h hne
    obtain ⟨b, off, hA, hb, hc⟩ := h hne
    exact ⟨b, off, hA, hb, fun k hk => by have := hc k hk 0 (by omega); rw [Nat.mul_one, Nat.add_zero] at this; exact this⟩
  · intro h hne
    obtain ⟨b, off, hA, hb, hc⟩ := h hne
    refine ⟨b, off, hA, hb, fun k hk r hr => ?_⟩
    obtain rfl : r = 0 := by omega
    have := hc k hk
    rw [Nat.mul_one, Nat.add_zero]
    exact this
theorem infoBo : (Tryz.prog.info? 4).map (fun i => (i.zero, i.size, i.bytes)) = some (some (.bool false), 1, 1) := by kernel_rfl
/-- append of one truth value to a slice of the call's own, as one operation of a region. -/
theorem wp_app1Bo {o : Oper} {a : Act} {K : Act → World → Prop} {Q : Exit → Act → World → Prop} (w : World) (s x : Operand)
    (hop : o.op = Op.call { callee := Callee.builtin Builtin.append, args := #[s, x], argTypes := #[109, 109] }) (B : Nat) (v : Value) (xs : List Bool) (hs : a.eval s = v) (hown : Ownl 4 1 gBo w B v xs)
    (z : Nat) (y : Bool) (hx : a.eval x = .slice (some ⟨z, 0, none⟩) 1 1) (hy : w.cell? ⟨z, 0, none⟩ = some (.bool y)) (hl : xs.length ≤ 10000) (hB : B ≤ w.heap.size)
    (hK : ∀ v' w', Ownl 4 1 gBo w' B v' (xs ++ [y]) → w.grownBy w' v.ownBlock → K (a.put o.dst v') w') : o.wp Tryz.prog a w K Q := by
  obtain ⟨i0, hi, hz0, hz1, hz2⟩ := info_parts infoBo
  refine wp_append_own w s x 109 hop B 4 i0 _ 1 1 Tryz.underlying109 hi hz0 hz1 hz2 rfl (by decide) v xs.length (xs.flatMap gBo) hs hown ⟨z, 0, none⟩ 1 1 (gBo y) hx rfl ?_ (oneBo y) (by unfold maxLen; omega) (by omega) hB (fun v' w' h1 h2 _ => hK v' w' (Ownl.snoc h1) h2)
  intro j u hj
  cases j with
  | zero =>
    simp [gBo] at hj
    subst hj
    rw [addr_add]
    exact hy
  | succ j => simp [gBo] at hj
theorem sB {W X : World} {n : Nat} (h : Below n W X) (hn : n ≤ W.heap.size) : (∀ b o, b < n → X.cell? ⟨b, o, none⟩ = W.cell? ⟨b, o, none⟩) ∧ n ≤ X.heap.size := ⟨fun _ _ hb => Below.cell h hb, Nat.le_trans hn h.size⟩
end Go.Proofs.YtecamnhnjmldcaaGreatDoor
