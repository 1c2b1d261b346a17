/- Which nets and parties are valid: the code, whole nets. -/
import Derived.Test.YtndoghcglbpllaaV02
import Derived.Test.YtndoghcglbpllaaV01
import Derived.RangeFuncNested
import Derived.RangeFuncBound
import Derived.RangeFuncCalls
import Derived.RangeFuncLeaves
import Derived.Deep.RegionHeld3
import Derived.OwnWalkIn
import Derived.TacticsInMore
import Derived.LoopNIn
import Derived.LoopIn
import Derived.Shelf.Abstract
set_option linter.unusedSimpArgs false
set_option linter.unusedVariables false
namespace Go.Proofs.Ytndoghcglbpllaa
open Go.RowKit

set_option maxHeartbeats 400000 in
theorem validNet1_any (m : Int) (v : Value) (p : Pt) (A : Option Addr) (c q : Nat) (w : World) (ho : OpensAt w A p.opens) (hq : q < w.heap.size) (c0 : w.cell? ⟨q, 0, none⟩ = some (.int .i64 m)) (c1 : w.cell? ⟨q, 1, none⟩ = some v) :
    Calls Try.prog 76 #[p.val A c, .pointer (some ⟨q, 0, none⟩)] w fun e w' => e = .returned (.bool (!vPath m p)) ∧ Ext w w' := by
  have HV := hid (fun (W : World) (hW : Ext w W) => validPath_any m v p A c W (OpensAt.ext ho hW))
  clear ho
  revert HV
  generalize vPath m p = b
  obtain ⟨f, d, g, tl, th, sl, sh, os⟩ := p
  unfold Pt.val
  dsimp only
  intro HV
  go_enter Try.func76, Try.ntmps76
  go_wp2_with (first
    | (go_at_call 77; refine (HV.out _ (by (repeat' (first | with_reducible assumption | with_reducible exact Ext.refl _ | with_reducible refine Ext.alloc ?_ _ | with_reducible refine Ext.set ?_ ?_ _ | with_reducible refine Ext.drew ?_ | with_reducible refine Ext.drewN ?_ _ | with_reducible refine Ext.trans ?_ (by assumption) | (dsimp only; omega))))).mono ?_; rintro e w2 ⟨rfl, hE⟩))
  go_ret
  exact ⟨rfl, by (repeat' (first | with_reducible assumption | with_reducible exact Ext.refl _ | with_reducible refine Ext.alloc ?_ _ | with_reducible refine Ext.set ?_ ?_ _ | with_reducible refine Ext.drew ?_ | with_reducible refine Ext.drewN ?_ _ | with_reducible refine Ext.trans ?_ (by assumption) | (dsimp only; omega)))⟩

set_option maxHeartbeats 400000 in
theorem validNet_any (m : Int) (A : Option Addr) (n c : Nat) (ps : List Pt) (hn : ps.length = n) (w : World) (hp : PathsAt w A ps) :
    Calls Try.prog 41 #[.agg #[.int .i64 m, .slice A n c]] w fun e w' => e = .returned (.bool (vNet m ps)) ∧ Ext w w' := by
  have HC := hid (fun (hm : n ≤ 1000) (W : World) (hW : Ext w W) (hq : w.heap.size < W.heap.size) (c0 : W.cell? ⟨w.heap.size, 0, none⟩ = some (.int .i64 m)) (c1 : W.cell? ⟨w.heap.size, 1, none⟩ = some (.slice A n c)) =>
    containsPath_any w.heap.size ps (fun p => !vPath m p) A n c hn hm W (PathsAt.ext hp hW) (fun x A' c' W' h1 h2 => validNet1_any m (.slice A n c) x A' c' w.heap.size W' h2 (Nat.lt_of_lt_of_le hq h1.size) ((h1.cell hq).trans c0) ((h1.cell hq).trans c1)))
  unfold vNet
  rw [all_any]
  rw [hn]
  clear hp hn
  revert HC
  generalize (ps.any fun p => !vPath m p) = b
  intro HC
  by_cases h1 : 1 ≤ m
  case neg => go_enter Try.func41, Try.ntmps41
              go_wp2_with (first
                | (go_at_call 78; refine (HC.out (by omega) _ (by (repeat' (first | with_reducible assumption | with_reducible exact Ext.refl _ | with_reducible refine Ext.alloc ?_ _ | with_reducible refine Ext.set ?_ ?_ _ | with_reducible refine Ext.drew ?_ | with_reducible refine Ext.drewN ?_ _ | with_reducible refine Ext.trans ?_ (by assumption) | (dsimp only; omega)))) (by simp) (by go_simp) (by go_simp)).mono ?_; rintro e w2 ⟨rfl, hE⟩))
              go_ret
              exact ⟨ret_bool (by first | (simp; intros; omega) | (simp [‹1 ≤ m›, ‹m ≤ 12›, ‹n ≤ 24›]; done)), by (repeat' (first | with_reducible assumption | with_reducible exact Ext.refl _ | with_reducible refine Ext.alloc ?_ _ | with_reducible refine Ext.set ?_ ?_ _ | with_reducible refine Ext.drew ?_ | with_reducible refine Ext.drewN ?_ _ | with_reducible refine Ext.trans ?_ (by assumption) | (dsimp only; omega)))⟩
  by_cases h2 : m ≤ 12
  case neg => go_enter Try.func41, Try.ntmps41
              go_wp2_with (first
                | (go_at_call 78; refine (HC.out (by omega) _ (by (repeat' (first | with_reducible assumption | with_reducible exact Ext.refl _ | with_reducible refine Ext.alloc ?_ _ | with_reducible refine Ext.set ?_ ?_ _ | with_reducible refine Ext.drew ?_ | with_reducible refine Ext.drewN ?_ _ | with_reducible refine Ext.trans ?_ (by assumption) | (dsimp only; omega)))) (by simp) (by go_simp) (by go_simp)).mono ?_; rintro e w2 ⟨rfl, hE⟩))
              go_ret
              exact ⟨ret_bool (by first | (simp; intros; omega) | (simp [‹1 ≤ m›, ‹m ≤ 12›, ‹n ≤ 24›]; done)), by (repeat' (first | with_reducible assumption | with_reducible exact Ext.refl _ | with_reducible refine Ext.alloc ?_ _ | with_reducible refine Ext.set ?_ ?_ _ | with_reducible refine Ext.drew ?_ | with_reducible refine Ext.drewN ?_ _ | with_reducible refine Ext.trans ?_ (by assumption) | (dsimp only; omega)))⟩
  by_cases h3 : n ≤ 24
  case neg => go_enter Try.func41, Try.ntmps41
              go_wp2_with (first
                | (go_at_call 78; refine (HC.out (by omega) _ (by (repeat' (first | with_reducible assumption | with_reducible exact Ext.refl _ | with_reducible refine Ext.alloc ?_ _ | with_reducible refine Ext.set ?_ ?_ _ | with_reducible refine Ext.drew ?_ | with_reducible refine Ext.drewN ?_ _ | with_reducible refine Ext.trans ?_ (by assumption) | (dsimp only; omega)))) (by simp) (by go_simp) (by go_simp)).mono ?_; rintro e w2 ⟨rfl, hE⟩))
              go_ret
              exact ⟨ret_bool (by first | (simp; intros; omega) | (simp [‹1 ≤ m›, ‹m ≤ 12›, ‹n ≤ 24›]; done)), by (repeat' (first | with_reducible assumption | with_reducible exact Ext.refl _ | with_reducible refine Ext.alloc ?_ _ | with_reducible refine Ext.set ?_ ?_ _ | with_reducible refine Ext.drew ?_ | with_reducible refine Ext.drewN ?_ _ | with_reducible refine Ext.trans ?_ (by assumption) | (dsimp only; omega)))⟩
  go_enter Try.func41, Try.ntmps41
  go_wp2_with (first
    | (go_at_call 78; refine (HC.out (by omega) _ (by (repeat' (first | with_reducible assumption | with_reducible exact Ext.refl _ | with_reducible refine Ext.alloc ?_ _ | with_reducible refine Ext.set ?_ ?_ _ | with_reducible refine Ext.drew ?_ | with_reducible refine Ext.drewN ?_ _ | with_reducible refine Ext.trans ?_ (by assumption) | (dsimp only; omega)))) (by simp) (by go_simp) (by go_simp)).mono ?_; rintro e w2 ⟨rfl, hE⟩))
  go_ret
  exact ⟨ret_bool (by first | (simp; intros; omega) | (simp [‹1 ≤ m›, ‹m ≤ 12›, ‹n ≤ 24›]; done)), by (repeat' (first | with_reducible assumption | with_reducible exact Ext.refl _ | with_reducible refine Ext.alloc ?_ _ | with_reducible refine Ext.set ?_ ?_ _ | with_reducible refine Ext.drew ?_ | with_reducible refine Ext.drewN ?_ _ | with_reducible refine Ext.trans ?_ (by assumption) | (dsimp only; omega)))⟩

theorem validGrade_e (a : Int) (w : World) : Calls Try.prog 94 #[.int .i64 a] w fun e w' => e = .returned (.bool (gradeB a)) ∧ Ext w w' := by
  have H := hid (validGrade_b a w)
  exact H.out.mono fun _ _ ⟨h, h'⟩ => ⟨h, by rw [h']; exact Ext.refl _⟩

set_option maxHeartbeats 400000 in
theorem validParty_any (g l pl ph : Int) (w : World) :
    Calls Try.prog 79 #[.agg #[.int .i64 g, .int .i64 l, .int .i64 pl, .int .i64 ph]] w fun e w' => e = .returned (.bool (vParty g l pl ph)) ∧ Ext w w' := by
  unfold vParty
  cases h1 : gradeB g
  · go_enter Try.func79, Try.ntmps79
    go_wp2_with (first
      | (go_at_call 94; refine (validGrade_e _ _).mono ?_; rintro e w2 ⟨rfl, hE⟩; (first | (have hK := KC.step (n := w.heap.size + 1) (by with_reducible assumption) hE) | (have hK := KC.step (KC.step (n := w.heap.size + 1) (by with_reducible assumption) (ext_alloc1 _ _)) hE) | (have hK := KC.step (KC.refl (n := w.heap.size + 1) (by simp)) hE)); have hC := hK.cell; have hF := hK.fro; have hX := hK.ext)
      | (go_at_call 96; refine (isWithin_b _ _ _ _ _).mono ?_; rintro e w2 ⟨rfl, hE⟩; (first | (have hK := KC.step (n := w.heap.size + 1) (by with_reducible assumption) hE) | (have hK := KC.step (KC.step (n := w.heap.size + 1) (by with_reducible assumption) (ext_alloc1 _ _)) hE) | (have hK := KC.step (KC.refl (n := w.heap.size + 1) (by simp)) hE)); have hC := hK.cell; have hF := hK.fro; have hX := hK.ext))
    all_goals (go_ret; exact ⟨ret_bool (by first | rfl | (simp; done) | (simp; omega)), by (repeat' (first | with_reducible assumption | with_reducible exact Ext.refl _ | with_reducible refine Ext.alloc ?_ _ | with_reducible refine Ext.set ?_ ?_ _ | with_reducible refine Ext.drew ?_ | with_reducible refine Ext.drewN ?_ _ | with_reducible refine Ext.trans ?_ (by assumption) | (dsimp only; omega)))⟩)
  cases h2 : spanB pl ph 50 300
  · go_enter Try.func79, Try.ntmps79
    go_wp2_with (first
      | (go_at_call 94; refine (validGrade_e _ _).mono ?_; rintro e w2 ⟨rfl, hE⟩; (first | (have hK := KC.step (n := w.heap.size + 1) (by with_reducible assumption) hE) | (have hK := KC.step (KC.step (n := w.heap.size + 1) (by with_reducible assumption) (ext_alloc1 _ _)) hE) | (have hK := KC.step (KC.refl (n := w.heap.size + 1) (by simp)) hE)); have hC := hK.cell; have hF := hK.fro; have hX := hK.ext)
      | (go_at_call 96; refine (isWithin_b _ _ _ _ _).mono ?_; rintro e w2 ⟨rfl, hE⟩; (first | (have hK := KC.step (n := w.heap.size + 1) (by with_reducible assumption) hE) | (have hK := KC.step (KC.step (n := w.heap.size + 1) (by with_reducible assumption) (ext_alloc1 _ _)) hE) | (have hK := KC.step (KC.refl (n := w.heap.size + 1) (by simp)) hE)); have hC := hK.cell; have hF := hK.fro; have hX := hK.ext))
    all_goals (go_ret; exact ⟨ret_bool (by first | rfl | (simp; done) | (simp; omega)), by (repeat' (first | with_reducible assumption | with_reducible exact Ext.refl _ | with_reducible refine Ext.alloc ?_ _ | with_reducible refine Ext.set ?_ ?_ _ | with_reducible refine Ext.drew ?_ | with_reducible refine Ext.drewN ?_ _ | with_reducible refine Ext.trans ?_ (by assumption) | (dsimp only; omega)))⟩)
  by_cases h3 : 0 ≤ l
  case neg => go_enter Try.func79, Try.ntmps79
              go_wp2_with (first
                | (go_at_call 94; refine (validGrade_e _ _).mono ?_; rintro e w2 ⟨rfl, hE⟩; (first | (have hK := KC.step (n := w.heap.size + 1) (by with_reducible assumption) hE) | (have hK := KC.step (KC.step (n := w.heap.size + 1) (by with_reducible assumption) (ext_alloc1 _ _)) hE) | (have hK := KC.step (KC.refl (n := w.heap.size + 1) (by simp)) hE)); have hC := hK.cell; have hF := hK.fro; have hX := hK.ext)
                | (go_at_call 96; refine (isWithin_b _ _ _ _ _).mono ?_; rintro e w2 ⟨rfl, hE⟩; (first | (have hK := KC.step (n := w.heap.size + 1) (by with_reducible assumption) hE) | (have hK := KC.step (KC.step (n := w.heap.size + 1) (by with_reducible assumption) (ext_alloc1 _ _)) hE) | (have hK := KC.step (KC.refl (n := w.heap.size + 1) (by simp)) hE)); have hC := hK.cell; have hF := hK.fro; have hX := hK.ext))
              all_goals (go_ret; exact ⟨ret_bool (by first | rfl | (simp; done) | (simp; omega)), by (repeat' (first | with_reducible assumption | with_reducible exact Ext.refl _ | with_reducible refine Ext.alloc ?_ _ | with_reducible refine Ext.set ?_ ?_ _ | with_reducible refine Ext.drew ?_ | with_reducible refine Ext.drewN ?_ _ | with_reducible refine Ext.trans ?_ (by assumption) | (dsimp only; omega)))⟩)
  go_enter Try.func79, Try.ntmps79
  go_wp2_with (first
    | (go_at_call 94; refine (validGrade_e _ _).mono ?_; rintro e w2 ⟨rfl, hE⟩; (first | (have hK := KC.step (n := w.heap.size + 1) (by with_reducible assumption) hE) | (have hK := KC.step (KC.step (n := w.heap.size + 1) (by with_reducible assumption) (ext_alloc1 _ _)) hE) | (have hK := KC.step (KC.refl (n := w.heap.size + 1) (by simp)) hE)); have hC := hK.cell; have hF := hK.fro; have hX := hK.ext)
    | (go_at_call 96; refine (isWithin_b _ _ _ _ _).mono ?_; rintro e w2 ⟨rfl, hE⟩; (first | (have hK := KC.step (n := w.heap.size + 1) (by with_reducible assumption) hE) | (have hK := KC.step (KC.step (n := w.heap.size + 1) (by with_reducible assumption) (ext_alloc1 _ _)) hE) | (have hK := KC.step (KC.refl (n := w.heap.size + 1) (by simp)) hE)); have hC := hK.cell; have hF := hK.fro; have hX := hK.ext))
  all_goals (go_ret; exact ⟨ret_bool (by first | rfl | (simp; done) | (simp; omega)), by (repeat' (first | with_reducible assumption | with_reducible exact Ext.refl _ | with_reducible refine Ext.alloc ?_ _ | with_reducible refine Ext.set ?_ ?_ _ | with_reducible refine Ext.drew ?_ | with_reducible refine Ext.drewN ?_ _ | with_reducible refine Ext.trans ?_ (by assumption) | (dsimp only; omega)))⟩)

set_option maxHeartbeats 400000 in
theorem begin1_any (m a : Int) (q : Nat) (v : Value) (w : World) (c0 : w.cell? ⟨q, 0, none⟩ = some (.int .i64 m)) (c1 : w.cell? ⟨q, 1, none⟩ = some v) :
    Calls Try.prog 80 #[.int .i64 a, .pointer (some ⟨q, 0, none⟩)] w fun e w' => e = .returned (.bool (!placeB m a)) ∧ Ext w w' := by
  go_enter Try.func80, Try.ntmps80
  go_wp2_with (first
    | (go_at_call 81; refine (isPlace_b _ _ _ _).mono ?_; rintro e w2 ⟨rfl, hE⟩))
  go_ret
  exact ⟨rfl, by (repeat' (first | with_reducible assumption | with_reducible exact Ext.refl _ | with_reducible refine Ext.alloc ?_ _ | with_reducible refine Ext.set ?_ ?_ _ | with_reducible refine Ext.drew ?_ | with_reducible refine Ext.drewN ?_ _ | with_reducible refine Ext.trans ?_ (by assumption) | (dsimp only; omega)))⟩

def minuteB (t : Int) : Bool := decide (0 ≤ t) && decide (t ≤ 2880)
set_option maxHeartbeats 400000 in
theorem begin2_any (a : Int) (w : World) :
    Calls Try.prog 82 #[.int .i64 a] w fun e w' => e = .returned (.bool (!minuteB a)) ∧ Ext w w' := by
  unfold minuteB
  go_enter Try.func82, Try.ntmps82
  go_wp2
  all_goals (go_ret; exact ⟨ret_bool (by first | (simp; done) | (rw [Bool.eq_iff_iff]; simp; done) | (rw [Bool.eq_iff_iff]; simp; omega)), by (repeat' (first | with_reducible assumption | with_reducible exact Ext.refl _ | with_reducible refine Ext.alloc ?_ _ | with_reducible refine Ext.set ?_ ?_ _ | with_reducible refine Ext.drew ?_ | with_reducible refine Ext.drewN ?_ _ | with_reducible refine Ext.trans ?_ (by assumption) | (dsimp only; omega)))⟩)
end Go.Proofs.Ytndoghcglbpllaa
/- A region that draws its order, in a round of a range over a function: by the held walk of the plain logic. -/
set_option linter.unusedSimpArgs false
set_option linter.unusedVariables false
namespace Go.Proofs.Ytndoghcglbpllaa
open Go.RowKit
section
variable {P : Program} {ops : Array Oper} {Q : Exit → Act → World → Prop} {l n : Nat}

theorem rowsIn_round {row : String} {args : Array Value} {w : World} {R : Value → World → Prop} (h : Rows P row args w R) : RowsIn (Fence.wide.inRound l) n P row args w R :=
  fun c cs _ => let ⟨v, w', r, s⟩ := h c cs; ⟨v, w', r, stepsIn_wide.2 s⟩

theorem oper_in {o : Oper} {a : Act} {w : World} {K K' : Act → World → Prop} (hnd : ∀ c, o.op ≠ .defer c) (hK : ∀ a w, K a w → K' a w) (h : o.wp P a w K Q) : o.wpIn (Fence.wide.inRound l) n P a w K' Q := by
  refine ⟨fun _ _ => trivial, ?_⟩
  unfold Oper.wp at h
  rw [Oper.semAt_eq _ _ _ hnd]
  revert h
  generalize (execOp a.eval o).run P w = r
  intro h
  match r, h with
  | .ok (.value v) w', h => exact hK _ _ h
  | .ok .skip w', h => exact hK _ _ h
  | .ok (.defer d) w', h => exact hK _ _ h
  | .ok (.enter f args) w', h =>
    refine ⟨fun hh => by simp [Fence.wide, Fence.inRound] at hh, ?_⟩
    refine CallsIn.inRound l (callsIn_wide.2 (Calls.mono h ?_))
    intro e w'' he
    cases e with
    | returned v => exact hK _ _ he
    | panicked c => exact he
    | outgrown => exact he
  | .ok (.row row args) w', h => exact ⟨fun hh => by simp [Fence.wide, Fence.inRound] at hh, rowsIn_round (Rows.mono h fun _ _ hh => hK _ _ hh)⟩
  | .halt (.panic v) w', h => exact h

theorem ops_in (hQ : ¬ LetsOut Q) (hnd : ∀ o, o ∈ ops → ∀ c, o.op ≠ .defer c) : ∀ (list : List Nat) (a : Act) (w : World), wpOps P ops Q list a w → wpOpsIn (Fence.wide.inRound l) n P ops Q list a w
  | [], _, _, h => h
  | i :: rest, a, w, h => by
    unfold wpOps at h
    unfold wpOpsIn
    cases ho : ops[i]? with
    | none =>
      rw [ho] at h
      exact ops_in hQ hnd rest a w h
    | some o =>
      rw [ho] at h
      dsimp only at h ⊢
      by_cases hw : Region.wanted o (yielded ops a.tmps) = true
      · rw [if_pos hw] at h ⊢
        rcases h with h | ⟨_, h⟩
        · exact oper_in (hnd o (Array.mem_of_getElem? ho)) (fun a w hh => ops_in hQ hnd rest a w hh) h
        · exact absurd h hQ
      · rw [if_neg hw] at h ⊢
        exact ⟨fun _ _ => trivial, ops_in hQ hnd rest _ w h⟩

def noDefer (ops : Array Oper) : Bool := ops.all fun o => match o.op with | .defer _ => false | _ => true
theorem noDefer_spec (h : noDefer ops = true) : ∀ o, o ∈ ops → ∀ c, o.op ≠ .defer c := by
  intro o ho c hc
  unfold noDefer at h
  rw [Array.all_eq_true_iff_forall_mem] at h
  have := h o ho
  simp [hc] at this

/-- The beginning of the held walk, in a round. -/
theorem wpIn_region_held {S : World → Prop} {id : Nat} {a : Act} {w : World} (hm : P.follows .mixedOrders = true) (hd : noDefer ops = true) (hQ : ¬ LetsOut Q) (hS : S w.drew)
    (h : S w.drew → wpAnyH P .any ops Q S ops.size (Array.replicate ops.size false) a w.drew) : (Code.region id ops true).wpIn (Fence.wide.inRound l) n P Q a w :=
  wpIn_region_draw fun t => by
    simp only [Region.schedule, hm, Bool.true_or, if_true]
    exact ops_in hQ (noDefer_spec hd) _ a _ (wpAny_sound ops.size t _ a _ (wpAny_of_held _ _ _ _ (h hS)))
end
theorem noOut_ownPostG {α : Type} {B : Nat} {Kp : World → World → Prop} {I : List α → World → Prop} {Ix : Code → List α → World → Prop} {xs : List α} {W : World} : ¬ LetsOut (ownPostG B Kp I Ix xs W) := fun ⟨_, _, h⟩ => h

/-- What a round keeps: all that lies below n, and block b. -/
def KpB (n b : Nat) (A B : World) : Prop := Below n A B ∧ B.heap[b]? = A.heap[b]?
theorem kpB_t {n b : Nat} {A B C : World} (h : KpB n b A B) (k : KpB n b B C) : KpB n b A C := ⟨h.1.trans k.1, k.2.trans h.2⟩
theorem kpB_b {n b : Nat} {w : World} (hn : n ≤ w.heap.size) (hb : b < w.heap.size) (W : World) (l : Nat) (o o' : Obj) (hl : w.heap.size ≤ l) (h : W.heap[l]? = some o) (hc : o.isCells = false) (hw : o.isWalk = false) : KpB n b W (W.putObj l o') :=
  ⟨belowK_b hn W l o o' hl h hc hw, World.putObj_heap_other (by omega)⟩
theorem KpB.cell {n b : Nat} {A B : World} (h : KpB n b A B) (i : Nat) : B.cell? ⟨b, i, none⟩ = A.cell? ⟨b, i, none⟩ := World.cell?_of_block h.2
end Go.Proofs.Ytndoghcglbpllaa
/- The paths that a party can walk, yielded one by one. -/
set_option linter.unusedSimpArgs false
set_option linter.unusedVariables false
namespace Go.Proofs.Ytndoghcglbpllaa
open Go.RowKit
attribute [local go_sem] Oper.semAt_some

theorem grown_of_ext {w w' : World} (h : Ext w w') : w.grownBy w' none := ⟨Below.os h, Below.tape h, Below.output h, Below.size h, fun k hk _ => Below.block h k hk⟩
theorem abides_ext {β : Type} {B : Nat} {J : β → World → Prop} (hJ : AbidesFrom B J) {s : β} {W W' : World} (h : J s W) (e : Ext W W') : J s W' := hJ s W W' none h (grown_of_ext e) (fun r hr => by cases hr)

theorem filter_one {α : Type} (p : α → Bool) (a : α) : [a].filter p = if p a = true then [a] else [] := by simp only [List.filter_cons, List.filter_nil]
def okB (ps : List Pt) (g : Int) (i : Nat) : Bool := decide ((ps.getD i zeroPt).grade ≤ g)
def walkIdx (ps : List Pt) (g : Int) (k : Nat) : List Nat := (List.range k).filter (okB ps g)
theorem walkIdx_yes {ps : List Pt} {g : Int} {k : Nat} (h : (ps.getD k zeroPt).grade ≤ g) : walkIdx ps g (k + 1) = walkIdx ps g k ++ [k] := by
  unfold walkIdx; rw [List.range_succ, List.filter_append, filter_one]; unfold okB; first | rw [if_pos (decide_eq_true h)] | rw [if_neg (by simpa using h), List.append_nil]
theorem walkIdx_no {ps : List Pt} {g : Int} {k : Nat} (h : ¬ (ps.getD k zeroPt).grade ≤ g) : walkIdx ps g (k + 1) = walkIdx ps g k := by
  unfold walkIdx; rw [List.range_succ, List.filter_append, filter_one]; unfold okB; first | rw [if_pos (decide_eq_true h)] | rw [if_neg (by simpa using h), List.append_nil]
theorem walkIdx_len (ps : List Pt) (g : Int) (k : Nat) : (walkIdx ps g k).length ≤ k := by
  unfold walkIdx; exact Nat.le_trans (List.length_filter_le _ _) (by simp)
theorem walkIdx_prefix (ps : List Pt) (g : Int) {k n : Nat} (h : k ≤ n) : walkIdx ps g k <+: walkIdx ps g n := by
  obtain ⟨d, rfl⟩ : ∃ d, n = k + d := ⟨n - k, by omega⟩
  unfold walkIdx
  rw [List.range_add, List.filter_append]
  exact List.prefix_append _ _

/-- What comes: a path that the party can walk, as it lies in memory. -/
abbrev It (w0 : World) (b off : Nat) (ps : List Pt) (g : Int) := { x : Nat × Option Addr × Nat // x.1 < ps.length ∧ (ps.getD x.1 zeroPt).grade ≤ g ∧ PtAt w0 b (off + x.1 * 8) (ps.getD x.1 zeroPt) x.2.1 x.2.2 }
def itEnc {w0 : World} {b off : Nat} {ps : List Pt} {g : Int} (x : It w0 b off ps g) : Array Value := #[.int .i64 (x.1.1 : Int), (ps.getD x.1.1 zeroPt).val x.1.2.1 x.1.2.2]
def itIdx {w0 : World} {b off : Nat} {ps : List Pt} {g : Int} (xs : List (It w0 b off ps g)) : List Nat := xs.map (·.1.1)

def wbox (m g l pl ph : Int) (A : Option Addr) (n c : Nat) : Array Value := #[.int .i64 m, .slice A n c, .int .i64 g, .int .i64 l, .int .i64 pl, .int .i64 ph]
theorem blk_cell {w : World} {g : Nat} {cs : Array Value} {t : TypeId} (h : w.heap[g]? = some (.cells cs t (0, 0))) (i : Nat) : w.cell? ⟨g, i, none⟩ = cs[i]? := cell_of_row w g i cs t (0, 0) h
theorem blk_ext {w w' : World} {g : Nat} {o : Obj} (h : w.heap[g]? = some o) (e : Ext w w') : w'.heap[g]? = some o := (Below.block e g (Array.getElem?_eq_some_iff.1 h).1).trans h

set_option maxHeartbeats 1000000 in
theorem walkable_any (m g l pl ph : Int) (A : Option Addr) (n c : Nat) (w : World) :
    Calls Try.prog 63 #[.agg (wbox m g l pl ph A n c)] w fun e w' => e = .returned (.func (.func 91) #[] #[.pointer (some ⟨w.heap.size, 0, none⟩)]) ∧ w' = w.alloc (.cells (wbox m g l pl ph A n c) 70) := by
  unfold wbox
  go_enter Try.func63, Try.ntmps63
  go_wp2
  go_ret
  exact ⟨rfl, rfl⟩

set_option maxRecDepth 100000 in
set_option maxHeartbeats 2000000 in
theorem walk1_in (N : Nat) (hN : 3 ≤ N) (w0 : World) (b off : Nat) (m g l pl ph : Int) (n c : Nat) (ps : List Pt) (hn : ps.length = n) (hm : n ≤ 1000) (A : Option Addr) (hA : 0 < n → A = some ⟨b, off, none⟩ ∧ b < w0.heap.size)
    (hp : ∀ k, k < ps.length → ∃ A' c', PtAt w0 b (off + k * 8) (ps.getD k zeroPt) A' c') (Bc lp : Nat) (J Jx : List (It w0 b off ps g) → World → Prop) (W : World)
    (hE0 : Ext w0 W) (hJ : AbidesFrom W.heap.size J)
    (hY : ∀ pre x W1, J pre W1 → pre.length < n → YieldAt Fence.wide (N - 1) Try.prog lp (itEnc x) W1 fun e W' =>
      (e = .returned (.bool true) ∧ J (pre ++ [x]) W' ∧ KpB w0.heap.size Bc W1 W') ∨ (e = .returned (.bool false) ∧ Jx (pre ++ [x]) W'))
    (hbox : W.heap[Bc]? = some (.cells (wbox m g l pl ph A n c) 70 (0, 0))) (h0 : J [] W) :
    CallsIn Fence.wide N Try.prog 91 #[.func (.yield lp) #[] #[], .pointer (some ⟨Bc, 0, none⟩)] W fun e W' => (∃ v, e = .returned v) ∧
      ((∃ xs, itIdx xs = walkIdx ps g n ∧ J xs W') ∨ (∃ pre, itIdx pre <+: walkIdx ps g n ∧ Jx pre W')) := by
  have HJ := hid hJ
  have HY := hid hY
  have HP := hid hp
  have HA := hid hA
  clear hJ hY hp hA
  have c0 := blk_cell hbox 0
  have c1 := blk_cell hbox 1
  simp only [wbox] at c0 c1
  have HB := hid hbox
  clear hbox
  refine callsIn_of_wp Try.func91 rfl trivial ?_ rfl
  simp only [Try.ntmps91, List.size_toArray, List.length_cons, List.length_nil, Nat.reduceAdd, Nat.reduceSub, Array.replicate_succ, Array.replicate_zero, List.push_toArray, List.append_toArray, List.nil_append, List.cons_append]
  gi_wp2
  clear c0 c1
  gi_loopw [9] (fun i wr => Ext w0 wr ∧ Hid (wr.heap[Bc]? = some (.cells (wbox m g l pl ph A n c) 70 (0, 0))) ∧ W.heap.size ≤ wr.heap.size ∧ ∃ (k : Nat) (pre : List (It w0 b off ps g)), k ≤ n ∧ i = .int .i64 k ∧ Hid (itIdx pre = walkIdx ps g k) ∧ J pre wr) (fun i _ => n - (intOf i).toNat)
  case atStart => exact ⟨hE0, HB, Nat.le_refl _, 0, [], by omega, rfl, hid rfl, h0⟩
  case round =>
    obtain ⟨hE1, HBr, hz, k, pre, hk, rfl, HI, hJs⟩ := hrel
    have HJS := hid hJs
    clear hJs
    by_cases hlt : k < n
    · obtain ⟨rfl, hb⟩ := HA.out (by omega)
      obtain ⟨A', c', hpt⟩ := HP.out k (by omega)
      obtain ⟨p, hpk⟩ : ∃ p, ps.getD k zeroPt = p := ⟨_, rfl⟩
      have HPK := hid hpk
      have hpt' := hpt.ext hb hE1
      rw [hpk] at hpt'
      clear hpk
      have HPT := hid hpt
      clear hpt
      obtain ⟨c0, c1, c2, c3, c4, c5, c6, c7, -, -⟩ := hpt'
      have b0 := blk_cell HBr.out 0
      have b1 := blk_cell HBr.out 1
      have b2 := blk_cell HBr.out 2
      have b3 := blk_cell HBr.out 3
      have b4 := blk_cell HBr.out 4
      have b5 := blk_cell HBr.out 5
      simp only [wbox] at b0 b1 b2 b3 b4 b5
      have hbr : b < wr.heap.size := Nat.lt_of_lt_of_le hb hE1.size
      have hBc : Bc < wr.heap.size := (Array.getElem?_eq_some_iff.1 HBr.out).1
      have hgr : (p.grade ≤ g) = ((ps.getD k zeroPt).grade ≤ g) := by rw [HPK.out]
      have HGR := hid hgr
      clear hgr
      gi_wp2_with fail
      refine ⟨trivial, fun hh => absurd hh (by simp [Fence.wide]), ?_⟩
      refine (callsIn_wide.2 (can_any _ _ _ _ _ _ _ _ _ _ _ _ _ _ _)).mono ?_
      rintro e w2 ⟨rfl, hE⟩
      (first | (have hK := KC.step (n := wr.heap.size + 1) (by with_reducible assumption) hE) | (have hK := KC.step (KC.step (n := wr.heap.size + 1) (by with_reducible assumption) (ext_alloc1 _ _)) hE) | (have hK := KC.step (KC.refl (n := wr.heap.size + 1) (by simp)) hE)); have hC := hK.cell; have hF := hK.fro; have hX := hK.ext
      have hE2 : Ext wr w2 := by (repeat' (first | with_reducible assumption | with_reducible exact Ext.refl _ | with_reducible refine Ext.alloc ?_ _ | with_reducible refine Ext.set ?_ ?_ _ | with_reducible refine Ext.drew ?_ | with_reducible refine Ext.drewN ?_ _ | with_reducible refine Ext.trans ?_ (by assumption) | (dsimp only; omega)))
      have hE02 : Ext w0 w2 := hE1.trans hE2
      have hbx2 := hid (blk_ext HBr.out hE2)
      have HJ2 := hid (abides_ext HJ.out HJS.out hE2)
      have hlen : pre.length < n := by
        have h1 := congrArg List.length HI.out
        have h2 := walkIdx_len ps g k
        simp only [itIdx, List.length_map] at h1
        omega
      clear c0 c1 c2 c3 c4 c5 c6 c7 b0 b1 b2 b3 b4 b5
      by_cases hgp : p.grade ≤ g
      · obtain ⟨xit, hxi⟩ : ∃ x : It w0 b off ps g, x.1 = (k, A', c') := ⟨⟨(k, A', c'), (by omega : k < ps.length), Eq.mp HGR.out hgp, HPT.out⟩, rfl⟩
        obtain ⟨fn, tmps, assign, body, hy, hR⟩ := HY.out pre xit w2 HJ2.out hlen
        have hen : itEnc xit = #[.int .i64 (k : Int), p.val A' c'] := by unfold itEnc; rw [hxi]; dsimp only; rw [HPK.out]
        have hidx : itIdx (pre ++ [xit]) = walkIdx ps g (k + 1) := by
          rw [walkIdx_yes (by rw [HPK.out]; exact hgp), ← HI.out]
          simp [itIdx, hxi]
        have HIDX := hid hidx
        clear hidx hxi
        rw [hen] at hy
        simp only [Pt.val] at hy
        clear hen
        have HR := hid hR
        clear hR
        gi_wp2
        refine ⟨fun hh => absurd hh (by simp [Fence.wide]), ?_⟩
        refine HR.out.mono ?_
        rintro e W3 (⟨rfl, hJ3, hk3⟩ | ⟨rfl, hJx3⟩)
        · have hE03 : Ext w0 W3 := Below.trans hE02 hk3.1
          have hbx3 := hid (hk3.2.trans hbx2.out)
          have hz3 : W.heap.size ≤ W3.heap.size := Nat.le_trans hz (Nat.le_trans hE2.size hk3.1.size)
          have HJ3 := hid hJ3
          clear hJ3 hk3
          gi_wp2
          go_roundw
          case rel => exact ⟨hE03, hbx3, hz3, k + 1, pre ++ [xit], by omega, by go_num, HIDX, HJ3.out⟩
          case measure => simp [intOf]; omega
        · have HJX := hid hJx3
          clear hJx3
          gi_wp2
          refine bodyPost_ret (results_none rfl _ _ _) rfl ?_
          exact ⟨⟨_, rfl⟩, .inr ⟨pre ++ [xit], HIDX.out ▸ walkIdx_prefix ps g (by omega), HJX.out⟩⟩
      · have hidx : itIdx pre = walkIdx ps g (k + 1) := by rw [walkIdx_no (by rw [HPK.out]; exact hgp), HI.out]
        have HIDX := hid hidx
        clear hidx
        gi_wp2
        refine ⟨fun _ h => (by cases h), ?_⟩
        gi_wp2
        go_roundw
        case rel => exact ⟨hE02, hbx2, by have := hE2.size; omega, k + 1, pre, by omega, by go_num, HIDX, HJ2.out⟩
        case measure => simp [intOf]; omega
    · gi_wp2
      go_end0
      obtain rfl : k = n := by omega
      exact ⟨⟨_, rfl⟩, .inl ⟨pre, HI.out, HJS.out⟩⟩

/-- The iterator's contract. -/
theorem walk_stops (N : Nat) (hN : 3 ≤ N) (w0 : World) (b off : Nat) (m g l pl ph : Int) (n c : Nat) (ps : List Pt) (hn : ps.length = n) (hm : n ≤ 1000) (A : Option Addr) (hA : 0 < n → A = some ⟨b, off, none⟩ ∧ b < w0.heap.size)
    (hp : ∀ k, k < ps.length → ∃ A' c', PtAt w0 b (off + k * 8) (ps.getD k zeroPt) A' c') (Bc : Nat) (w : World) (hE0 : Ext w0 w)
    (hbox : w.heap[Bc]? = some (.cells (wbox m g l pl ph A n c) 70 (0, 0))) :
    SeqStopsK Fence.wide N Try.prog 91 #[.pointer (some ⟨Bc, 0, none⟩)] (itEnc (w0 := w0) (b := b) (off := off) (ps := ps) (g := g)) (KpB w0.heap.size Bc) (fun xs => itIdx xs = walkIdx ps g n) (fun pre => itIdx pre <+: walkIdx ps g n) n w :=
  fun lp J Jx W hW hJ _ hY h0 => walk1_in N hN w0 b off m g l pl ph n c ps hn hm A hA hp Bc lp J Jx W (hE0.trans hW) hJ hY (blk_ext hbox hW) h0
end Go.Proofs.Ytndoghcglbpllaa
