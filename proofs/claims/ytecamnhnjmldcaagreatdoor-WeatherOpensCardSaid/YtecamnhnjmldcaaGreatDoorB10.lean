/- Forecasts and observations as arguments; the calls that check them. -/
import Derived.Test.YtecamnhnjmldcaaGreatDoorB08
import Derived.Test.YtecamnhnjmldcaaGreatDoorB09
import Derived.Deep.MidRow
set_option linter.unusedSimpArgs false
set_option linter.unusedVariables false
namespace Go.Proofs.YtecamnhnjmldcaaGreatDoor
open Go.RowKit
structure FIn (w : World) (f : List (List Hr)) (A : Option Addr) (n : Nat) (seen : List Sg) (SA : Option Addr) (m : Nat) : Prop where
  hn : f.length = n
  hm : n ≤ 1000
  hx : ∀ x ∈ f, x.length ≤ 1000
  hl : seen.length = m
  hm2 : m ≤ 1000
  hwf : ∀ s ∈ seen, (Lit.int .i64 s.hour).wf = true
  sc : ScsAt w A f
  sg : SgsAt w SA seen
  wid : WidW w
theorem FIn.ext {w w' : World} {f : List (List Hr)} {A : Option Addr} {n : Nat} {seen : List Sg} {SA : Option Addr} {m : Nat} (h : FIn w f A n seen SA m) (e : Ext w w') : FIn w' f A n seen SA m :=
  ⟨h.hn, h.hm, h.hx, h.hl, h.hm2, h.hwf, h.sc.ext e, h.sg.ext e, h.wid.ext e⟩
theorem FIn.hours {w : World} {f : List (List Hr)} {A : Option Addr} {n : Nat} {seen : List Sg} {SA : Option Addr} {m : Nat} (h : FIn w f A n seen SA m) : hoursN f ≤ 1000 := by
  unfold hoursN
  cases f with
  | nil => simp
  | cons x t => exact h.hx x (by simp)
def fcE (f : List (List Hr)) : Int := unlessM (fcB f) 50
def sgE (f : List (List Hr)) (seen : List Sg) : Int := unlessM (sgsB (hoursN f) seen) 51
theorem fcE_ok {f : List (List Hr)} (h : fcE f = 0) : fcB f = true := by
  unfold fcE unlessM at h
  cases hb : fcB f
  · rw [hb] at h; simp at h
  · rfl
theorem sgE_ok {f : List (List Hr)} {seen : List Sg} (h : sgE f seen = 0) : sgsB (hoursN f) seen = true := by
  unfold sgE unlessM at h
  cases hb : sgsB (hoursN f) seen
  · rw [hb] at h; simp at h
  · rfl
theorem orM_zero {x : Int} {xs : List Int} (h : orM (x :: xs) = 0) : x = 0 ∧ orM xs = 0 := by
  unfold orM at h
  by_cases hx : x = 0
  · rw [if_pos hx] at h; exact ⟨hx, h⟩
  · rw [if_neg hx] at h; exact absurd h hx
theorem FIn.check {w : World} {f : List (List Hr)} {A : Option Addr} {n : Nat} {seen : List Sg} {SA : Option Addr} {m : Nat} (h : FIn w f A n seen SA m) (c : Nat) : Calls Tryz.prog 40 #[.agg #[.slice A n c]] w fun e w' => e = .returned (.int .i64 (fcE f)) ∧ Ext w w' :=
  vCheck_any f A n c h.hn (by have := h.hm; omega) (fun x hx => by have := h.hx x hx; omega) w h.wid h.sc
theorem FIn.sights {w : World} {f : List (List Hr)} {A : Option Addr} {n : Nat} {seen : List Sg} {SA : Option Addr} {m : Nat} (h : FIn w f A n seen SA m) (c sc : Nat) : Calls Tryz.prog 41 #[.agg #[.slice A n c], .slice SA m sc] w fun e w' => e = .returned (.int .i64 (sgE f seen)) ∧ Ext w w' :=
  checkSights_any f A n c h.hn (by have := h.hm; omega) (by have := h.hours; omega) seen SA m sc h.hl h.hm2 h.hwf w h.wid h.sc h.sg
theorem FIn.hoursC {w : World} {f : List (List Hr)} {A : Option Addr} {n : Nat} {seen : List Sg} {SA : Option Addr} {m : Nat} (h : FIn w f A n seen SA m) (c : Nat) : Calls Tryz.prog 125 #[.agg #[.slice A n c]] w fun e w' => e = .returned (.int .i64 (hoursN f)) ∧ Ext w w' :=
  hours_any A n c f h.hn w h.sc (by have := h.hm; omega)
theorem FIn.begin {w : World} {f : List (List Hr)} {A : Option Addr} {n : Nat} {seen : List Sg} {SA : Option Addr} {m : Nat} (h : FIn w f A n seen SA m) (c sc : Nat) (xs : List Int) (EA : Option Addr) (en ec : Nat) (hx : xs.length = en) (hen : en ≤ 1000) (hv : orM xs = 0 → fcB f = true ∧ sgsB (hoursN f) seen = true) (hi : IntsAt w EA xs) :
    Calls Tryz.prog 39 #[.agg #[.slice A n c], .slice SA m sc, .slice EA en ec] w (BegIs f seen xs w.heap.size w) :=
  begin_any f A n c h.hn seen SA m sc h.hl xs EA en ec hx hen hv w h.sc h.sg hi
theorem region_post {P : Program} {c : Code} {Q : Exit → Act → World → Prop} {a : Act} {w : World} (h : ∀ QQ, QQ = Q → Code.wp P c QQ a w) : Code.wp P c Q a w := h Q rfl
theorem region_rest {P : Program} {c : Code} {Q : Exit → Act → World → Prop} {a : Act} {w : World} (R : (Exit → Act → World → Prop) → Prop) (h1 : R Q) (h2 : R Q → Code.wp P c Q a w) : Code.wp P c Q a w := h2 h1
theorem Blk.fill3 {w : World} {b : Nat} {t : TypeId} {x0 y0 z0 : Value} (h : Blk w b t #[x0, y0, z0]) (x y z : Value) : Blk (w.setCells b 0 [x, y, z]) b t #[x, y, z] := by
  have h3 := ((h.setAt 0 x).setAt 1 y).setAt 2 z
  simp only [List.setIfInBounds_toArray, List.set_cons_zero, List.set_cons_succ] at h3
  exact h3
def fillA : Array Value → Nat → List Value → Array Value
  | cs, _, [] => cs
  | cs, o, v :: r => fillA (cs.setIfInBounds o v) (o + 1) r
theorem Blk.fill {w : World} {b : Nat} {t : TypeId} {cs : Array Value} (h : Blk w b t cs) : ∀ (vs : List Value) (o : Nat), Blk (w.setCells b o vs) b t (fillA cs o vs) := by
  intro vs
  induction vs generalizing w cs with
  | nil => intro o; exact h
  | cons v r ih => intro o; exact ih (h.setAt o v) (o + 1)
theorem one_of {vs : List Value} (h : ∀ v ∈ vs, v.oneCell' = true) : vs.toArray.all (·.oneCell') = true := all_oneCell_toArray h
theorem blk_there {w : World} {b : Nat} {t : TypeId} {cs : Array Value} (h : Blk w b t cs) {n : Nat} (hn : cs.size = n) : w.there b 0 n := fun j hj => by
  refine ⟨?_, h.fro _⟩
  rw [h.cell, Nat.zero_add, Array.getElem?_eq_getElem (by omega)]
  rfl
theorem ext_setCells {a w : World} (h : Ext a w) {b : Nat} (hb : a.heap.size ≤ b) : ∀ (vs : List Value) (o : Nat), Ext a (w.setCells b o vs) := by
  intro vs
  induction vs generalizing w with
  | nil => intro o; exact h
  | cons v r ih => intro o; exact ih (h.set (p := ⟨b, o, none⟩) hb v) (o + 1)
theorem grown_setCells {w : World} {b : Nat} : ∀ (vs : List Value) (o : Nat), w.grownBy (w.setCells b o vs) (some b) := by
  intro vs
  induction vs generalizing w with
  | nil => intro o; exact ⟨rfl, rfl, rfl, Nat.le_refl _, fun _ _ _ => rfl⟩
  | cons v r ih => intro o; exact (grown_set w ⟨b, o, none⟩ v).trans (ih (o + 1))
theorem infoOut : (Tryz.prog.info? 100).map (·.size) = some 3 := by kernel_rfl
theorem absW {W X : World} (_ : Ext W X) (o : Obj) : ∃ Y, X.alloc o = Y := ⟨_, rfl⟩
theorem out_one (N : Nat) (A1 : Option Addr) (n1 c1 : Nat) (A2 : Option Addr) (n2 c2 : Nat) : (#[.int .i64 (N : Int), .slice A1 n1 c1, .slice A2 n2 c2] : Array Value).all (·.oneCell') = true :=
  all_oneCell_toArray (cs := [.int .i64 (N : Int), .slice A1 n1 c1, .slice A2 n2 c2]) (by intro v hv; simp only [List.mem_cons, List.not_mem_nil, or_false] at hv; rcases hv with rfl | rfl | rfl <;> rfl)
theorem blkNew {W X : World} (_ : Ext W X) (t : TypeId) (cs : Array Value) : Blk (X.alloc (.cells cs t)) X.heap.size t cs := blk_last X _
theorem intsNew {W X : World} (_ : Ext W X) (xs : List Int) (cs : Array Value) (h : cs.toList = xs.map (Value.int .i64)) : IntsAt (X.alloc (.cells cs 36)) (some ⟨X.heap.size, 0, none⟩) xs := fun _ => by
  have hb := blk_last X (.cells cs 36)
  refine ⟨X.heap.size, 0, rfl, (Array.getElem?_eq_some_iff.1 hb).1, fun k hk => ?_⟩
  rw [Nat.zero_add, blk_cell hb, ← Array.getElem?_toList, h, List.getElem?_map]
  simp [List.getD, List.getElem?_eq_getElem hk]
end Go.Proofs.YtecamnhnjmldcaaGreatDoor
/- isIn; the least and greatest values of an hour. -/
set_option linter.unusedSimpArgs false
set_option linter.unusedVariables false
namespace Go.Proofs.YtecamnhnjmldcaaGreatDoor
open Go.RowKit
theorem any_take_snoc {α : Type} (xs : List α) (p : α → Bool) (d : α) (k : Nat) (h : k < xs.length) : (xs.take (k + 1)).any p = ((xs.take k).any p || p (xs.getD k d)) := by
  rw [List.take_succ_eq_append_getElem h, List.any_append]
  simp [List.getD, List.getElem?_eq_getElem h]
theorem any_of_at {α : Type} (xs : List α) (p : α → Bool) (d : α) (k : Nat) (h : k < xs.length) (hp : p (xs.getD k d) = true) : xs.any p = true := by
  rw [List.any_eq_true]
  refine ⟨xs[k], List.getElem_mem _, ?_⟩
  simpa [List.getD, List.getElem?_eq_getElem h] using hp
theorem any_false_end {α : Type} {xs : List α} {p : α → Bool} {k : Nat} (h : (xs.take k).any p = false) (hk : xs.length ≤ k) : xs.any p = false := by rwa [List.take_of_length_le hk] at h
/-- The first index at which p holds, or -1: only its sign matters. -/
def Found (b : Bool) (W : World) (e : Ending) (W' : World) : Prop := (∃ r : Int, e = .returned (.int .i64 r) ∧ decide (0 ≤ r) = b) ∧ Ext W W'
theorem Found.mk {b : Bool} {W W' : World} (r : Int) (h : decide (0 ≤ r) = b) (e : Ext W W') : Found b W (.returned (.int .i64 r)) W' := ⟨⟨r, rfl, h⟩, e⟩
theorem OpensAt.at_ {w : World} {A : Option Addr} {xs : List (Int × Int)} (h : OpensAt w A xs) {n k : Nat} (hn : xs.length = n) (hk : k < n) : ∃ b off, A = some ⟨b, off, none⟩ ∧ b < w.heap.size ∧ w.cell? ⟨b, off + k * 2, none⟩ = some (.int .i64 (xs.getD k (0, 0)).1) ∧ w.cell? ⟨b, off + k * 2 + 1, none⟩ = some (.int .i64 (xs.getD k (0, 0)).2) := by
  obtain ⟨b, off, hA, hb, hc⟩ := h (by rintro rfl; simp at hn; omega)
  exact ⟨b, off, hA, hb, (hc k (by omega)).1, (hc k (by omega)).2⟩
set_option maxRecDepth 100000 in
set_option maxHeartbeats 1000000 in
theorem indexSp_any (fn : Nat) (caps : Array Value) (eg : ∀ args w, (callFunc fn args).run Tryz.prog w = .ok (.enter fn args) w) (xs : List (Int × Int)) (p : Int × Int → Bool) (A : Option Addr) (n c : Nat) (hn : xs.length = n) (hm : n ≤ 10000) (w : World) (hx : OpensAt w A xs)
    (hf : ∀ (x : Int × Int) (W : World), Ext w W → x ∈ xs → Calls Tryz.prog fn (#[.agg #[.int .i64 x.1, .int .i64 x.2]] ++ caps) W fun e W' => e = .returned (.bool (p x)) ∧ Ext W W') :
    Calls Tryz.prog 156 #[.slice A n c, .func (.func fn) #[] caps] w (Found (xs.any p) w) := by
  have HFF := hid hf
  have HX := hid hx
  have HN := hid hn
  have HEG := hid eg
  clear hf hx hn eg
  go_enter Tryz.func156, Tryz.ntmps156
  go_wp2
  go_loopw [8] (fun i wr => Ext w wr ∧ ∃ k : Nat, k ≤ n ∧ i = .int .i64 k ∧ (xs.take k).any p = false) (fun i _ => n - (intOf i).toNat)
  case atStart => exact ⟨by (repeat' (first | with_reducible assumption | with_reducible exact Ext.refl _ | with_reducible refine Ext.alloc ?_ _ | with_reducible refine Ext.set ?_ ?_ _ | with_reducible refine Ext.drew ?_ | with_reducible refine Ext.drewN ?_ _ | with_reducible refine Ext.trans ?_ (by assumption) | (dsimp only; omega))), 0, Nat.zero_le _, rfl, rfl⟩
  case round =>
    obtain ⟨hE, k, hk, rfl, ha⟩ := hrel
    have HA := hid ha
    clear ha
    by_cases hlt : k < n
    · obtain ⟨b, off, rfl, hb, c0, c1⟩ := (HX.out.ext hE).at_ HN.out hlt
      have HS := hid (any_take_snoc xs p (0, 0) k (by rw [HN.out]; omega))
      have HY := hid (any_of_at xs p (0, 0) k (by rw [HN.out]; omega))
      have HM := hid (mem_at xs (0, 0) k (by rw [HN.out]; omega))
      clear HX
      generalize xs.getD k (0, 0) = x at *
      go_wp2_with fail
      rw [HEG.out]
      refine Calls.mono (HFF.out x _ ?ext HM.out) ?_
      case ext => (repeat' (first | with_reducible assumption | with_reducible exact Ext.refl _ | with_reducible refine Ext.alloc ?_ _ | with_reducible refine Ext.set ?_ ?_ _ | with_reducible refine Ext.drew ?_ | with_reducible refine Ext.drewN ?_ _ | with_reducible refine Ext.trans ?_ (by assumption) | (dsimp only; omega)))
      rintro e w2 ⟨rfl, hE2⟩
      rcases Bool.eq_false_or_eq_true (p x) with hp | hp
      · rw [hp]
        have HP := hid (HY.out hp)
        clear hp
        go_wp2
        go_ret
        exact Found.mk _ (by rw [HP.out]; simp) (by (repeat' (first | with_reducible assumption | with_reducible exact Ext.refl _ | with_reducible refine Ext.alloc ?_ _ | with_reducible refine Ext.set ?_ ?_ _ | with_reducible refine Ext.drew ?_ | with_reducible refine Ext.drewN ?_ _ | with_reducible refine Ext.trans ?_ (by assumption) | (dsimp only; omega))))
      · rw [hp]
        have HP := hid (HS.out.trans (by rw [HA.out, hp]))
        clear hp
        go_wp2
        go_roundw
        case rel => exact ⟨by (repeat' (first | with_reducible assumption | with_reducible exact Ext.refl _ | with_reducible refine Ext.alloc ?_ _ | with_reducible refine Ext.set ?_ ?_ _ | with_reducible refine Ext.drew ?_ | with_reducible refine Ext.drewN ?_ _ | with_reducible refine Ext.trans ?_ (by assumption) | (dsimp only; omega))), k + 1, by omega, by go_num, HP.out⟩
        case measure => simp [intOf]; omega
    · have HP := hid (any_false_end HA.out (by rw [HN.out]; omega))
      go_wp2
      go_ret
      exact Found.mk _ (by rw [HP.out]; rfl) (by (repeat' (first | with_reducible assumption | with_reducible exact Ext.refl _ | with_reducible refine Ext.alloc ?_ _ | with_reducible refine Ext.set ?_ ?_ _ | with_reducible refine Ext.drew ?_ | with_reducible refine Ext.drewN ?_ _ | with_reducible refine Ext.trans ?_ (by assumption) | (dsimp only; omega))))
set_option maxHeartbeats 1000000 in
theorem containsSp_any (fn : Nat) (caps : Array Value) (eg : ∀ args w, (callFunc fn args).run Tryz.prog w = .ok (.enter fn args) w) (xs : List (Int × Int)) (p : Int × Int → Bool) (A : Option Addr) (n c : Nat) (hn : xs.length = n) (hm : n ≤ 10000) (w : World) (hx : OpensAt w A xs)
    (hf : ∀ (x : Int × Int) (W : World), Ext w W → x ∈ xs → Calls Tryz.prog fn (#[.agg #[.int .i64 x.1, .int .i64 x.2]] ++ caps) W fun e W' => e = .returned (.bool (p x)) ∧ Ext W W') :
    Calls Tryz.prog 143 #[.slice A n c, .func (.func fn) #[] caps] w fun e w' => e = .returned (.bool (xs.any p)) ∧ Ext w w' := by
  have HC := hid (indexSp_any fn caps eg xs p A n c hn hm w hx hf)
  clear hf hn hx eg
  go_enter Tryz.func143, Tryz.ntmps143
  go_wp2_with fail
  refine HC.out.mono ?_
  rintro e w2 ⟨⟨r, rfl, hr⟩, hE2⟩
  have HR := hid hr
  clear hr HC
  go_wp2
  go_ret
  exact ⟨ret_bool HR.out, hE2⟩
set_option maxHeartbeats 1000000 in
theorem isIn1_any (x l h : Int) (q : Nat) (w : World) (hq : q < w.heap.size) (c0 : w.cell? ⟨q, 0, none⟩ = some (.int .i64 x)) :
    Calls Tryz.prog 144 #[.agg #[.int .i64 l, .int .i64 h], .pointer (some ⟨q, 0, none⟩)] w fun e w' => e = .returned (.bool (inI x l h)) ∧ Ext w w' := by
  go_enter Tryz.func144, Tryz.ntmps144
  go_wp2_with (go_at_call 105; refine (vWithin_any _ _ _ _).mono ?_; rintro e w' ⟨rfl, rfl⟩)
  go_ret
  exact ⟨rfl, by (repeat' (first | with_reducible assumption | with_reducible exact Ext.refl _ | with_reducible refine Ext.alloc ?_ _ | with_reducible refine Ext.set ?_ ?_ _ | with_reducible refine Ext.drew ?_ | with_reducible refine Ext.drewN ?_ _ | with_reducible refine Ext.trans ?_ (by assumption) | (dsimp only; omega)))⟩
set_option maxHeartbeats 1000000 in
theorem isIn_any (x : Int) (xs : List (Int × Int)) (A : Option Addr) (n c : Nat) (hn : xs.length = n) (hm : n ≤ 10000) (w : World) (hx : OpensAt w A xs) :
    Calls Tryz.prog 113 #[.int .i64 x, .slice A n c] w fun e w' => e = .returned (.bool (isInM x xs)) ∧ Ext w w' := by
  have HA := hid (fun (W : World) (hW : Ext w W) (hq : w.heap.size < W.heap.size) (c0 : W.cell? ⟨w.heap.size, 0, none⟩ = some (.int .i64 x)) =>
    containsSp_any 144 #[.pointer (some ⟨w.heap.size, 0, none⟩)] (fun _ _ => by kernel_rfl) xs (fun s => inI x s.1 s.2) A n c hn hm W (hx.ext hW)
      (fun s W' h1 _ => isIn1_any x s.1 s.2 w.heap.size W' (Nat.lt_of_lt_of_le hq h1.size) ((h1.cell hq).trans c0)))
  clear hx hn
  unfold isInM
  generalize (xs.any fun s => inI x s.1 s.2) = B at *
  go_enter Tryz.func113, Tryz.ntmps113
  go_wp2_with (go_at_call 143; refine (HA.out _ (by (repeat' (first | with_reducible assumption | with_reducible exact Ext.refl _ | with_reducible refine Ext.alloc ?_ _ | with_reducible refine Ext.set ?_ ?_ _ | with_reducible refine Ext.drew ?_ | with_reducible refine Ext.drewN ?_ _ | with_reducible refine Ext.trans ?_ (by assumption) | (dsimp only; omega)))) (by simp) (by go_simp)).mono ?_; rintro e w2 ⟨rfl, hE⟩)
  go_ret
  exact ⟨rfl, by (repeat' (first | with_reducible assumption | with_reducible exact Ext.refl _ | with_reducible refine Ext.alloc ?_ _ | with_reducible refine Ext.set ?_ ?_ _ | with_reducible refine Ext.drew ?_ | with_reducible refine Ext.drewN ?_ _ | with_reducible refine Ext.trans ?_ (by assumption) | (dsimp only; omega)))⟩
end Go.Proofs.YtecamnhnjmldcaaGreatDoor
/- The next window of a scenario. -/
set_option linter.unusedSimpArgs false
set_option linter.unusedVariables false
namespace Go.Proofs.YtecamnhnjmldcaaGreatDoor
open Go.RowKit
/-- A function value that tells whether limits are kept. -/
structure KeptF (kf : Nat) (kp : Lm → Hr → Bool) : Prop where
  eg : ∀ args w, (callFunc kf args).run Tryz.prog w = .ok (.enter kf args) w
  run : ∀ (l : Lm) (h : Hr) (W : World), Calls Tryz.prog kf #[l.val, h.val] W fun e W' => e = .returned (.bool (kp l h)) ∧ Ext W W'
theorem surelyF : KeptF 94 surB := ⟨fun _ _ => by kernel_rfl, surely_any⟩
theorem maybeF : KeptF 98 mayB := ⟨fun _ _ => by kernel_rfl, maybe_any⟩
def winCells (N : Nat) (nv sv : Value) (l : Lm) (len : Nat) : Array Value := #[.int .i64 (N : Int), nv, sv, .int .i64 l.wind, .int .i64 l.rain, .int .i64 l.tl, .int .i64 l.th, .int .i64 (len : Int)]
set_option maxRecDepth 100000 in
set_option maxHeartbeats 1000000 in
theorem next1_any (kf : Nat) (kp : Lm → Hr → Bool) (hk : KeptF kf kp) (N : Nat) (nv sv : Value) (l : Lm) (len : Nat) (h : Hr) (q4 q7 : Nat) (w : World) (h4 : Blk w q4 117 (winCells N nv sv l len)) (h7 : Blk w q7 181 #[.func (.func kf) #[] #[]]) :
    Calls Tryz.prog 138 #[h.val, .pointer (some ⟨q7, 0, none⟩), .pointer (some ⟨q4, 0, none⟩)] w fun e w' => e = .returned (.bool (kp l h)) ∧ Ext w w' := by
  have HK := hid (hk.run l h)
  have HEG := hid hk.eg
  unfold winCells at h4
  have a3 := h4.cell 3
  have a4 := h4.cell 4
  have a5 := h4.cell 5
  have a6 := h4.cell 6
  have b0 := h7.cell 0
  have z4 := h4.lt
  have z7 := h7.lt
  simp only [List.getElem?_toArray, List.getElem?_cons_zero, List.getElem?_cons_succ] at a3 a4 a5 a6 b0
  clear h4 h7 hk
  generalize kp l h = B at *
  unfold Lm.val Hr.val at *
  obtain ⟨wi, ra, tl, th⟩ := l
  obtain ⟨wl, wh, rl, rh, hl, hh⟩ := h
  dsimp only at *
  go_enter Tryz.func138, Tryz.ntmps138
  go_wp2_with fail
  rw [HEG.out]
  refine Calls.mono (HK.out _) ?_
  rintro e w2 ⟨rfl, hE⟩
  go_wp2
  go_ret
  exact ⟨rfl, by (repeat' (first | with_reducible assumption | with_reducible exact Ext.refl _ | with_reducible refine Ext.alloc ?_ _ | with_reducible refine Ext.set ?_ ?_ _ | with_reducible refine Ext.drew ?_ | with_reducible refine Ext.drewN ?_ _ | with_reducible refine Ext.trans ?_ (by assumption) | (dsimp only; omega)))⟩
theorem nextM_out {kept : Hr → Bool} {len n : Nat} {hs : List Hr} {k h : Nat} (hlt : n < h + len) : nextM kept len n hs k h = n := by
  cases k with
  | zero => rfl
  | succ k => unfold nextM; rw [if_pos hlt]
theorem nextM_hit {kept : Hr → Bool} {len n : Nat} {hs : List Hr} {k h : Nat} (hlt : ¬ n < h + len) (ha : ((hs.drop h).take len).all kept = true) : nextM kept len n hs (k + 1) h = h := by
  unfold nextM; rw [if_neg hlt, if_pos ha]
theorem nextM_miss {kept : Hr → Bool} {len n : Nat} {hs : List Hr} {k h : Nat} (hlt : ¬ n < h + len) (ha : ((hs.drop h).take len).all kept = false) : nextM kept len n hs (k + 1) h = nextM kept len n hs k (h + 1) := by
  rw [nextM, if_neg hlt, ha]; rfl
theorem nextM_fuel {kept : Hr → Bool} {len n : Nat} {hs : List Hr} (hlen : 1 ≤ len) : ∀ (k h : Nat), n + 1 ≤ k + h → nextM kept len n hs (k + 1) h = nextM kept len n hs k h
  | 0, h, hk => by rw [nextM_out (by omega), nextM_out (by omega)]
  | k + 1, h, hk => by
    by_cases hlt : n < h + len
    · rw [nextM_out hlt, nextM_out hlt]
    · cases ha : ((hs.drop h).take len).all kept
      · rw [nextM_miss hlt ha, nextM_miss hlt ha, nextM_fuel hlen k (h + 1) (by omega)]
      · rw [nextM_hit hlt ha, nextM_hit hlt ha]
theorem HrsAt.part {w : World} {b off : Nat} {hs : List Hr} (h : HrsAt w (some ⟨b, off, none⟩) hs) (i j : Nat) (hij : i + j ≤ hs.length) : HrsAt w (some ⟨b, off + i * 6, none⟩) ((hs.drop i).take j) := fun hne => by
  have hj : 0 < j := by
    rcases Nat.eq_zero_or_pos j with h0 | h0
    · subst h0; simp at hne
    · exact h0
  obtain ⟨b', off', hA, hb, hc⟩ := h (by rintro rfl; simp at hij; omega)
  cases hA
  refine ⟨b, off + i * 6, rfl, hb, fun k hk => ?_⟩
  have hkj : k < j := by
    rw [List.length_take, List.length_drop] at hk
    omega
  have hck := hc (i + k) (by omega)
  have e1 : off + (i + k) * 6 = off + i * 6 + k * 6 := by omega
  have e2 : ((hs.drop i).take j).getD k zeroHr = hs.getD (i + k) zeroHr := by
    simp only [List.getD_eq_getElem?_getD]
    rw [List.getElem?_take_of_lt hkj, List.getElem?_drop]
  rw [e1] at hck
  rw [e2]
  exact hck
end Go.Proofs.YtecamnhnjmldcaaGreatDoor
/- next. -/
set_option linter.unusedSimpArgs false
set_option linter.unusedVariables false
namespace Go.Proofs.YtecamnhnjmldcaaGreatDoor
open Go.RowKit
set_option maxRecDepth 100000 in
set_option maxHeartbeats 4000000 in
theorem next_any (kf : Nat) (kp : Lm → Hr → Bool) (hkf : KeptF kf kp) (N : Nat) (hN : N ≤ 1000) (nv sv : Value) (A1 : Option Addr) (n1 c1 : Nat) (hnv : nv = .slice A1 n1 c1) (A2 : Option Addr) (n2 c2 : Nat) (hsv : sv = .slice A2 n2 c2) (l : Lm) (len : Nat) (hlen : 1 ≤ len) (hlen2 : len ≤ 1000) (hs : List Hr) (A : Option Addr) (c : Nat) (hn : hs.length = N) (hc : N ≤ c) (hr : Nat) (hhr : hr ≤ N) (w : World) (hx : HrsAt w A hs) :
    Calls Tryz.prog 106 #[.agg (winCells N nv sv l len), .agg #[.slice A N c], .int .i64 hr, .func (.func kf) #[] #[]] w fun e w' => e = .returned (.int .i64 (nxtM (kp l) len N hs hr)) ∧ Ext w w' := by
  have HX := hid hx
  have HKF := hid hkf
  have HN := hid hn
  clear hx hkf hn
  subst hnv hsv
  have t0 := blk_last w (.cells (winCells N (.slice A1 n1 c1) (.slice A2 n2 c2) l len) 117)
  have t1 := blk_last (w.alloc (.cells (winCells N (.slice A1 n1 c1) (.slice A2 n2 c2) l len) 117)) (.cells #[.slice A N c] 92)
  have t2 := blk_last ((w.alloc (.cells (winCells N (.slice A1 n1 c1) (.slice A2 n2 c2) l len) 117)).alloc (.cells #[.slice A N c] 92)) (.cells #[.func (.func kf) #[] #[]] 181)
  rw [World.size_alloc] at t1
  rw [World.size_alloc, World.size_alloc] at t2
  have B0 := hid (blk_old (blk_old t0 (.cells #[.slice A N c] 92)) (.cells #[.func (.func kf) #[] #[]] 181))
  have B1 := hid (blk_old t1 (.cells #[.func (.func kf) #[] #[]] 181))
  have B2 := hid t2
  clear t0 t1 t2
  have HNX := hid (fun (q4 q7 : Nat) (h : Hr) (W : World) h4 h7 => next1_any kf kp HKF.out N (.slice A1 n1 c1) (.slice A2 n2 c2) l len h q4 q7 W h4 h7)
  have HPART := hid (fun (b off : Nat) (hA : A = some ⟨b, off, none⟩) (W : World) (hW : Ext w W) (h4 : Blk W w.heap.size 117 (winCells N (.slice A1 n1 c1) (.slice A2 n2 c2) l len)) (h7 : Blk W (w.heap.size + 2) 181 #[.func (.func kf) #[] #[]]) (i cc : Nat) (hi : i + len ≤ N) =>
    allHr_any 138 #[.pointer (some ⟨w.heap.size + 2, 0, none⟩), .pointer (some ⟨w.heap.size, 0, none⟩)] (fun _ _ => by kernel_rfl) ((hs.drop i).take len) (kp l) (some ⟨b, off + i * 6, none⟩) len cc (by rw [List.length_take, List.length_drop, HN.out]; omega) (by omega) W (((hA ▸ HX.out : HrsAt w (some ⟨b, off, none⟩) hs).part i len (by rw [HN.out]; exact hi)).ext hW)
      (fun x W' h1 _ => HNX.out w.heap.size (w.heap.size + 2) x W' (h4.ext h1) (h7.ext h1)))
  clear HNX HKF
  unfold winCells at *
  unfold nxtM
  go_enter Tryz.func106, Tryz.ntmps106
  go_wp2
  go_loopw [10] (fun i wr => Ext w wr ∧ ∃ (h : Nat), hr ≤ h ∧ h ≤ N ∧ i = .int .i64 h ∧ Hid (Blk wr w.heap.size 117 #[.int .i64 (N : Int), .slice A1 n1 c1, .slice A2 n2 c2, .int .i64 l.wind, .int .i64 l.rain, .int .i64 l.tl, .int .i64 l.th, .int .i64 (len : Int)]) ∧ Hid (Blk wr (w.heap.size + 1) 92 #[.slice A N c]) ∧ Hid (Blk wr (w.heap.size + 2) 181 #[.func (.func kf) #[] #[]]) ∧
      Hid (nextM (kp l) len N hs (N + 1 - hr) hr = nextM (kp l) len N hs (N + 1 - h) h)) (fun i _ => N + 1 - (intOf i).toNat)
  case atStart =>
    exact ⟨by (repeat' (first | with_reducible assumption | with_reducible exact Ext.refl _ | with_reducible refine Ext.alloc ?_ _ | with_reducible refine Ext.set ?_ ?_ _ | with_reducible refine Ext.drew ?_ | with_reducible refine Ext.drewN ?_ _ | with_reducible refine Ext.trans ?_ (by assumption) | (dsimp only; omega))), hr, Nat.le_refl _, hhr, rfl, B0, B1, B2, hid rfl⟩
  case round =>
    obtain ⟨hE, h, hh1, hh2, rfl, K0, K1, K2, HQ⟩ := hrel
    have a0 := K0.out.cell 0
    have a7 := K0.out.cell 7
    have b0 := K1.out.cell 0
    have z0 := K0.out.lt
    have z1 := K1.out.lt
    simp only [List.getElem?_toArray, List.getElem?_cons_zero, List.getElem?_cons_succ] at a0 a7 b0
    clear B0 B1 B2
    by_cases hlt : h + len ≤ N
    · have hne : 0 < N := by omega
      obtain ⟨b, off, rfl, -⟩ := HX.out (by have := HN.out; rintro rfl; simp at this; omega)
      have HP := hid (HPART.out b off rfl wr hE K0.out K2.out h)
      have HM1 := hid (fun ha => nextM_hit (kept := kp l) (len := len) (n := N) (hs := hs) (k := N - h) (h := h) (by omega) ha)
      have HM2 := hid (fun ha => nextM_miss (kept := kp l) (len := len) (n := N) (hs := hs) (k := N - h) (h := h) (by omega) ha)
      have eN : N + 1 - h = N - h + 1 := by omega
      have eN2 : N + 1 - (h + 1) = N - h := by omega
      rw [eN] at HQ
      generalize hB : ((hs.drop h).take len).all (kp l) = B at *
      clear hB HPART HX
      go_wp2_with fail
      refine Calls.mono (HP.out _ hlt) ?_
      rintro e w2 ⟨rfl, hE2⟩
      have HE2 := hid (hE.trans hE2)
      have G0 := hid (show Blk _ _ _ _ from K0.out.ext hE2)
      have G1 := hid (show Blk _ _ _ _ from K1.out.ext hE2)
      have G2 := hid (show Blk _ _ _ _ from K2.out.ext hE2)
      clear hE2 K0 K1 K2 a0 a7 b0 z0 z1 HP hE
      cases B
      · have HM := hid (HQ.out.trans (HM2.out rfl))
        dsimp only
        go_wp2
        go_roundw
        case rel => exact ⟨HE2.out, h + 1, by omega, by omega, by go_num, G0, G1, G2, hid (by rw [HM.out, eN2])⟩
        case measure => simp [intOf]; omega
      · have HM := hid (HQ.out.trans (HM1.out rfl))
        dsimp only
        go_wp2
        go_ret
        exact ⟨ret_int (by rw [HM.out]), HE2.out⟩
    · have HM := hid (HQ.out.trans (nextM_out (by omega)))
      have hlt' : ¬ ((h : Int) + (len : Int) ≤ (N : Int)) := by omega
      clear HPART HX
      go_wp2
      go_ret
      exact ⟨ret_int (by rw [HM.out]), hE⟩
end Go.Proofs.YtecamnhnjmldcaaGreatDoor
