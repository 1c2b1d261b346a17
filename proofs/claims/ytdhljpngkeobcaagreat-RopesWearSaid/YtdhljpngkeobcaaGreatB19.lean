/- CheckRope and CheckDay of the specification. -/
import Derived.Test.YtdhljpngkeobcaaGreatB17
import Derived.Test.YtdhljpngkeobcaaGreatB18
import Derived.Test.YtdhljpngkeobcaaGreatB07
import Derived.Test.YtdhljpngkeobcaaGreatB08
import Derived.Test.YtdhljpngkeobcaaGreatB13
set_option linter.unusedSimpArgs false
set_option linter.unusedVariables false
namespace Go.Proofs.YtdhljpngkeobcaaGreat
open Go.RowKit
set_option maxRecDepth 100000 in
set_option maxHeartbeats 2000000 in
theorem rCheckRope_any (m : Md) (r : Ro) (A : Option Addr) (c : Nat) (B : Option Addr) (d : Nat) (hm : m.wears.length ≤ 1000) (hr : r.falls.length ≤ 1000) (w : World) (hx : WrsAt w A m.wears) (hy : FlsAt w B r.falls) :
    Calls Tryz.prog 64 #[m.val A c, r.val B d] w fun e w' => e = .returned (.int .i64 (takE m r)) ∧ Ext w w' := by
  have HM := hid (fun (W : World) (hE : Ext w W) => rIsModel_any m A c hm W (hx.ext hE))
  have HR := hid (fun (W : World) (hE : Ext w W) => rIsRope_any r B d hr W (hy.ext hE))
  clear hx hy
  unfold takE
  generalize mdB m = b1 at *
  generalize roB r = b2 at *
  unfold Md.val Ro.val at *
  obtain ⟨sh, us, be, ws⟩ := m
  obtain ⟨ma, fi, le, fs⟩ := r
  dsimp only at *
  generalize ws.length = n at *
  generalize fs.length = k at *
  cases b1
  case false =>
    go_enter Tryz.func64, Tryz.ntmps64
    go_wp2_with (first
      | (go_at_call 80; refine (HM.out _ (by (repeat' (first | with_reducible assumption | with_reducible exact Ext.refl _ | with_reducible refine Ext.alloc ?_ _ | with_reducible refine Ext.set ?_ ?_ _ | with_reducible refine Ext.drew ?_ | with_reducible refine Ext.drewN ?_ _ | with_reducible refine Ext.trans ?_ (by assumption) | (dsimp only; omega))))).mono ?_; rintro e w2 ⟨rfl, hE⟩; (first | (have hK := KC.step (n := w.heap.size + 2) (by with_reducible assumption) hE) | (have hK := KC.step (KC.step (n := w.heap.size + 2) (by with_reducible assumption) (ext_alloc1 _ _)) hE) | (have hK := KC.step (KC.refl (n := w.heap.size + 2) (by simp)) hE)); have hC := hK.cell; have hF := hK.fro; have hX := hK.ext)
      | (go_at_call 81; refine (HR.out _ (by (repeat' (first | with_reducible assumption | with_reducible exact Ext.refl _ | with_reducible refine Ext.alloc ?_ _ | with_reducible refine Ext.set ?_ ?_ _ | with_reducible refine Ext.drew ?_ | with_reducible refine Ext.drewN ?_ _ | with_reducible refine Ext.trans ?_ (by assumption) | (dsimp only; omega))))).mono ?_; rintro e w2 ⟨rfl, hE⟩; (first | (have hK := KC.step (n := w.heap.size + 2) (by with_reducible assumption) hE) | (have hK := KC.step (KC.step (n := w.heap.size + 2) (by with_reducible assumption) (ext_alloc1 _ _)) hE) | (have hK := KC.step (KC.refl (n := w.heap.size + 2) (by simp)) hE)); have hC := hK.cell; have hF := hK.fro; have hX := hK.ext))
    go_ret
    exact ⟨ret_int (by simp), by (repeat' (first | with_reducible assumption | with_reducible exact Ext.refl _ | with_reducible refine Ext.alloc ?_ _ | with_reducible refine Ext.set ?_ ?_ _ | with_reducible refine Ext.drew ?_ | with_reducible refine Ext.drewN ?_ _ | with_reducible refine Ext.trans ?_ (by assumption) | (dsimp only; omega)))⟩
  cases b2 <;>
  (go_enter Tryz.func64, Tryz.ntmps64
   go_wp2_with (first
     | (go_at_call 80; refine (HM.out _ (by (repeat' (first | with_reducible assumption | with_reducible exact Ext.refl _ | with_reducible refine Ext.alloc ?_ _ | with_reducible refine Ext.set ?_ ?_ _ | with_reducible refine Ext.drew ?_ | with_reducible refine Ext.drewN ?_ _ | with_reducible refine Ext.trans ?_ (by assumption) | (dsimp only; omega))))).mono ?_; rintro e w2 ⟨rfl, hE⟩; (first | (have hK := KC.step (n := w.heap.size + 2) (by with_reducible assumption) hE) | (have hK := KC.step (KC.step (n := w.heap.size + 2) (by with_reducible assumption) (ext_alloc1 _ _)) hE) | (have hK := KC.step (KC.refl (n := w.heap.size + 2) (by simp)) hE)); have hC := hK.cell; have hF := hK.fro; have hX := hK.ext)
     | (go_at_call 81; refine (HR.out _ (by (repeat' (first | with_reducible assumption | with_reducible exact Ext.refl _ | with_reducible refine Ext.alloc ?_ _ | with_reducible refine Ext.set ?_ ?_ _ | with_reducible refine Ext.drew ?_ | with_reducible refine Ext.drewN ?_ _ | with_reducible refine Ext.trans ?_ (by assumption) | (dsimp only; omega))))).mono ?_; rintro e w2 ⟨rfl, hE⟩; (first | (have hK := KC.step (n := w.heap.size + 2) (by with_reducible assumption) hE) | (have hK := KC.step (KC.step (n := w.heap.size + 2) (by with_reducible assumption) (ext_alloc1 _ _)) hE) | (have hK := KC.step (KC.refl (n := w.heap.size + 2) (by simp)) hE)); have hC := hK.cell; have hF := hK.fro; have hX := hK.ext))
   go_ret
   exact ⟨ret_int (by simp), by (repeat' (first | with_reducible assumption | with_reducible exact Ext.refl _ | with_reducible refine Ext.alloc ?_ _ | with_reducible refine Ext.set ?_ ?_ _ | with_reducible refine Ext.drew ?_ | with_reducible refine Ext.drewN ?_ _ | with_reducible refine Ext.trans ?_ (by assumption) | (dsimp only; omega)))⟩)
theorem dayE_takE (m : Md) (r : Ro) (D : Int) : dayE m r D = if takE m r = 0 then (if inI D r.made 99999 then 0 else 1) else takE m r := by
  unfold dayE takE
  cases mdB m <;> cases roB r <;> simp
set_option maxRecDepth 100000 in
set_option maxHeartbeats 2000000 in
theorem rCheckDay_any (m : Md) (r : Ro) (A : Option Addr) (c : Nat) (B : Option Addr) (d : Nat) (D : Int) (hm : m.wears.length ≤ 1000) (hr : r.falls.length ≤ 1000) (w : World) (hx : WrsAt w A m.wears) (hy : FlsAt w B r.falls) :
    Calls Tryz.prog 42 #[m.val A c, r.val B d, .int .i64 D] w fun e w' => e = .returned (.int .i64 (dayE m r D)) ∧ Ext w w' := by
  have HC := hid (fun (W : World) (hE : Ext w W) => rCheckRope_any m r A c B d hm hr W (hx.ext hE) (hy.ext hE))
  have HW := hid (fun a b c W => rwithin_any a b c W)
  clear hx hy
  rw [dayE_takE]
  generalize takE m r = E at *
  unfold Md.val Ro.val at *
  obtain ⟨sh, us, be, ws⟩ := m
  obtain ⟨ma, fi, le, fs⟩ := r
  dsimp only at *
  generalize ws.length = n at *
  generalize fs.length = k at *
  obtain ⟨b3, h3⟩ : ∃ b, inI D ma 99999 = b := ⟨_, rfl⟩
  rw [h3]
  by_cases h0 : E = 0
  · subst h0
    cases b3 <;>
    (go_enter Tryz.func42, Tryz.ntmps42
     go_wp2_with (first
       | (go_at_call 64; refine (HC.out _ (by (repeat' (first | with_reducible assumption | with_reducible exact Ext.refl _ | with_reducible refine Ext.alloc ?_ _ | with_reducible refine Ext.set ?_ ?_ _ | with_reducible refine Ext.drew ?_ | with_reducible refine Ext.drewN ?_ _ | with_reducible refine Ext.trans ?_ (by assumption) | (dsimp only; omega))))).mono ?_; rintro e w2 ⟨rfl, hE⟩; (first | (have hK := KC.step (n := w.heap.size + 2) (by with_reducible assumption) hE) | (have hK := KC.step (KC.step (n := w.heap.size + 2) (by with_reducible assumption) (ext_alloc1 _ _)) hE) | (have hK := KC.step (KC.refl (n := w.heap.size + 2) (by simp)) hE)); have hC := hK.cell; have hF := hK.fro; have hX := hK.ext)
       | (go_at_call 76; refine (HW.out _ _ _ _).mono ?_; rintro e w2 ⟨rfl, rfl⟩; simp only [h3]))
     go_ret
     exact ⟨ret_int (by simp), by (repeat' (first | with_reducible assumption | with_reducible exact Ext.refl _ | with_reducible refine Ext.alloc ?_ _ | with_reducible refine Ext.set ?_ ?_ _ | with_reducible refine Ext.drew ?_ | with_reducible refine Ext.drewN ?_ _ | with_reducible refine Ext.trans ?_ (by assumption) | (dsimp only; omega)))⟩)
  · rw [if_neg h0]
    have hne : (E != 0) = true := by simp [h0]
    have hne2 : (E == 0) = false := by simp [h0]
    go_enter Tryz.func42, Tryz.ntmps42
    go_wp2_with (go_at_call 64; refine (HC.out _ (by (repeat' (first | with_reducible assumption | with_reducible exact Ext.refl _ | with_reducible refine Ext.alloc ?_ _ | with_reducible refine Ext.set ?_ ?_ _ | with_reducible refine Ext.drew ?_ | with_reducible refine Ext.drewN ?_ _ | with_reducible refine Ext.trans ?_ (by assumption) | (dsimp only; omega))))).mono ?_; rintro e w2 ⟨rfl, hE⟩; (first | (have hK := KC.step (n := w.heap.size + 2) (by with_reducible assumption) hE) | (have hK := KC.step (KC.step (n := w.heap.size + 2) (by with_reducible assumption) (ext_alloc1 _ _)) hE) | (have hK := KC.step (KC.refl (n := w.heap.size + 2) (by simp)) hE)); have hC := hK.cell; have hF := hK.fro; have hX := hK.ext)
    go_ret
    exact ⟨ret_int (by simp), by (repeat' (first | with_reducible assumption | with_reducible exact Ext.refl _ | with_reducible refine Ext.alloc ?_ _ | with_reducible refine Ext.set ?_ ?_ _ | with_reducible refine Ext.drew ?_ | with_reducible refine Ext.drewN ?_ _ | with_reducible refine Ext.trans ?_ (by assumption) | (dsimp only; omega)))⟩
end Go.Proofs.YtdhljpngkeobcaaGreat
/- The true damage of a rope lies within the damage that is told: no program. -/
set_option linter.unusedSimpArgs false
set_option linter.unusedVariables false
namespace Go.Proofs.YtdhljpngkeobcaaGreat
open Go.RowKit
theorem ord_adj {α : Type} {r : α → α → Bool} {d : α} {xs : List α} (h : ordB r d xs = true) (i : Nat) (hi : i + 1 < xs.length) : r (xs.getD i d) (xs.getD (i + 1) d) = true := by
  unfold ordB at h
  rw [List.all_eq_true] at h
  exact h i (List.mem_range.2 (by omega))
theorem wrs_le {ws : List Wr} (h : ordB wrO zeroWr ws = true) (i k : Nat) (hk : i + k < ws.length) : (ws.getD i zeroWr).dmg ≤ (ws.getD (i + k) zeroWr).dmg := by
  induction k with
  | zero => exact Int.le_refl _
  | succ k ih =>
    have h1 := ih (by omega)
    have h2 := ord_adj h (i + k) (by omega)
    unfold wrO at h2
    simp only [Bool.and_eq_true, decide_eq_true_eq] at h2
    have h3 := h2.2
    rw [show i + (k + 1) = i + k + 1 by omega]
    omega
theorem wrs_pair {ws : List Wr} (h : ordB wrO zeroWr ws = true) : ws.Pairwise fun a b => a.dmg ≤ b.dmg := by
  rw [List.pairwise_iff_getElem]
  intro i j hi hj hij
  have := wrs_le h i (j - i) (by omega)
  rw [show i + (j - i) = j by omega] at this
  simpa [List.getD, List.getElem?_eq_getElem hi, List.getElem?_eq_getElem hj] using this
theorem harm_mono {f f' : Int} (hf : f ≤ f') : ∀ (ws : List Wr) (d d' : Int), (∀ w ∈ ws, d' ≤ w.dmg) → (ws.Pairwise fun a b => a.dmg ≤ b.dmg) → d ≤ d' → harmL f ws d ≤ harmL f' ws d'
  | [], _, _, _, _, h => h
  | w :: ws, d, d', hw, hp, h => by
    have hp2 := List.pairwise_cons.1 hp
    have h1 := hw w (List.mem_cons_self ..)
    unfold harmL
    by_cases a : w.fac ≤ f
    · rw [if_pos a, if_pos (by omega)]
      exact harm_mono hf ws _ _ hp2.1 hp2.2 (Int.le_refl _)
    · rw [if_neg a]
      by_cases b : w.fac ≤ f'
      · rw [if_pos b]
        exact harm_mono hf ws _ _ hp2.1 hp2.2 (by omega)
      · rw [if_neg b]
        exact harm_mono hf ws _ _ (fun x hx => hw x (List.mem_cons_of_mem _ hx)) hp2.2 h
theorem harmN_mono {m : Md} (hm : mdB m = true) {f f' : Int} (hf : f ≤ f') : harmN m.wears f ≤ harmN m.wears f' := by
  have hp := mdB_parts hm
  have ho : ordB wrO zeroWr m.wears = true := by
    unfold mdB at hm
    simp only [Bool.and_eq_true] at hm
    exact hm.2
  have hw : m.wears.all wrB = true := by
    unfold mdB at hm
    simp only [Bool.and_eq_true] at hm
    exact hm.1.2
  rw [List.all_eq_true] at hw
  exact harm_mono hf m.wears 0 0 (fun w h => by
    have := hw w h
    unfold wrB inI at this
    simp only [Bool.and_eq_true, decide_eq_true_eq] at this
    exact this.2.1) (wrs_pair ho) (Int.le_refl _)
theorem div_anti {n a b : Int} (hn : 0 ≤ n) (ha : 0 < a) (hab : a ≤ b) : n / b ≤ n / a := by
  apply Int.le_ediv_of_mul_le ha
  have h1 : n / b * b ≤ n := Int.ediv_mul_le n (by omega)
  have h2 : 0 ≤ n / b := Int.ediv_nonneg hn (by omega)
  have h3 : n / b * a ≤ n / b * b := Int.mul_le_mul_of_nonneg_left hab h2
  omega
theorem facN_mono {h h' o o' : Int} (h1 : 1 ≤ h) (hh : h ≤ h') (o1 : 1 ≤ o') (ho : o' ≤ o) : facN h o ≤ facN h' o' := by
  have e1 : ∀ (x y : Int), 1 ≤ y → (100 * x + y - 1) / y = (100 * x - 1) / y + 1 := fun x y hy => by
    rw [show 100 * x + y - 1 = (100 * x - 1) + 1 * y by omega, Int.add_mul_ediv_right _ _ (by omega)]
  unfold facN
  rw [e1 h o (by omega), e1 h' o' o1]
  have a1 : (100 * h - 1) / o ≤ (100 * h - 1) / o' := div_anti (by omega) (by omega) ho
  have a2 : (100 * h - 1) / o' ≤ (100 * h' - 1) / o' := Int.ediv_le_ediv (by omega) (by omega)
  omega
/-- Whether a height and a length out lie within those of a fall. -/
def inFl (f : Fl) (h o : Int) : Bool := decide (f.hl ≤ h) && decide (h ≤ f.hh) && decide (f.ol ≤ o) && decide (o ≤ f.oh)
def truS (ws : List Wr) (D : Int) (fs : List Fl) (hs os : List Int) (n : Int) (i : Nat) : Int :=
  if (fs.getD i zeroFl).day ≤ D then n + harmN ws (facN (hs.getD i 0) (os.getD i 0)) else n
def truK (ws : List Wr) (D : Int) (fs : List Fl) (hs os : List Int) (k : Nat) : Int := (List.range k).foldl (truS ws D fs hs os) 0
theorem truK_succ (ws : List Wr) (D : Int) (fs : List Fl) (hs os : List Int) (k : Nat) : truK ws D fs hs os (k + 1) = truS ws D fs hs os (truK ws D fs hs os k) k := by
  unfold truK; rw [List.range_succ, List.foldl_append]; rfl
def insK (fs : List Fl) (hs os : List Int) (k : Nat) : Bool := (List.range k).all fun i => inFl (fs.getD i zeroFl) (hs.getD i 0) (os.getD i 0)
theorem insK_succ (fs : List Fl) (hs os : List Int) (k : Nat) : insK fs hs os (k + 1) = (insK fs hs os k && inFl (fs.getD k zeroFl) (hs.getD k 0) (os.getD k 0)) := by
  unfold insK; rw [List.range_succ, List.all_append]; simp
theorem insK_bad {fs : List Fl} {hs os : List Int} {k n : Nat} (h : k < n) (hb : inFl (fs.getD k zeroFl) (hs.getD k 0) (os.getD k 0) = false) : insK fs hs os n = false := by
  unfold insK; rw [List.all_eq_false]; exact ⟨k, List.mem_range.2 h, by rw [hb]; decide⟩
/-- Whether a truth is one of a rope's. -/
def trueB (fs : List Fl) (hs os : List Int) : Bool := decide (hs.length = fs.length) && decide (os.length = fs.length) && insK fs hs os fs.length
def trueN (ws : List Wr) (D : Int) (fs : List Fl) (hs os : List Int) : Int := truK ws D fs hs os fs.length
theorem fl_of {r : Ro} (hr : roB r = true) {f : Fl} (hf : f ∈ r.falls) : 1 ≤ f.hl ∧ f.hl ≤ f.hh ∧ f.hh ≤ 1000 ∧ 1 ≤ f.ol ∧ f.ol ≤ f.oh ∧ f.oh ≤ 1000 := by
  have hw : r.falls.all (flB r.first) = true := by
    unfold roB at hr
    simp only [Bool.and_eq_true] at hr
    exact hr.1.2
  rw [List.all_eq_true] at hw
  have := hw f hf
  unfold flB spB at this
  simp only [Bool.and_eq_true, decide_eq_true_eq] at this
  omega
theorem true_within {m : Md} {r : Ro} (hm : mdB m = true) (hr : roB r = true) (D : Int) (hs os : List Int) (k : Nat) (hk : k ≤ r.falls.length) (ht : insK r.falls hs os k = true) :
    (dmgK m.wears D r.falls k).1 ≤ truK m.wears D r.falls hs os k ∧ truK m.wears D r.falls hs os k ≤ (dmgK m.wears D r.falls k).2 := by
  induction k with
  | zero => rw [dmgK_zero]; exact ⟨Int.le_refl _, Int.le_refl _⟩
  | succ k ih =>
    rw [insK_succ, Bool.and_eq_true] at ht
    obtain ⟨h1, h2⟩ := ih (by omega) ht.1
    have h3 := ht.2
    rw [dmgK_succ _ _ _ _ (by omega), truK_succ]
    have hf := fl_of hr (mem_at r.falls zeroFl k (by omega))
    unfold truS dmgS
    generalize r.falls.getD k zeroFl = f at *
    unfold inFl at h3
    simp only [Bool.and_eq_true, decide_eq_true_eq] at h3
    by_cases hd : f.day ≤ D
    · rw [if_pos hd, if_pos hd]
      have g1 := harmN_mono hm (facN_mono (h := f.hl) (h' := hs.getD k 0) (o := f.oh) (o' := os.getD k 0) (by omega) (by omega) (by omega) (by omega))
      have g2 := harmN_mono hm (facN_mono (h := hs.getD k 0) (h' := f.hh) (o := os.getD k 0) (o' := f.ol) (by omega) (by omega) (by omega) (by omega))
      dsimp only
      omega
    · rw [if_neg hd, if_neg hd]
      exact ⟨h1, h2⟩
theorem true_dmg {m : Md} {r : Ro} (hm : mdB m = true) (hr : roB r = true) (D : Int) (hs os : List Int) (ht : trueB r.falls hs os = true) :
    (dmgL m.wears D r.falls).1 ≤ trueN m.wears D r.falls hs os ∧ trueN m.wears D r.falls hs os ≤ (dmgL m.wears D r.falls).2 := by
  unfold trueB at ht
  simp only [Bool.and_eq_true] at ht
  have := true_within hm hr D hs os r.falls.length (Nat.le_refl _) ht.2
  rw [dmgK_end _ _ _ _ (Nat.le_refl _)] at this
  exact this
end Go.Proofs.YtdhljpngkeobcaaGreat
/- Until when a rope surely is fit, and what one more fall does: no program. -/
set_option linter.unusedSimpArgs false
set_option linter.unusedVariables false
namespace Go.Proofs.YtdhljpngkeobcaaGreat
open Go.RowKit
def untN (m : Md) (r : Ro) : Int := if sureB m r (lateN r) then min (expN m r) 99999 else -1
def lateK (fs : List Fl) (b : Int) : Int := fs.foldl (fun n f => max n f.day) b
theorem lateK_ge (fs : List Fl) : ∀ b, b ≤ lateK fs b := by
  unfold lateK
  induction fs with
  | nil => intro b; exact Int.le_refl _
  | cons f fs ih => intro b; exact Int.le_trans (Int.le_max_left _ _) (ih _)
theorem lateK_mem (fs : List Fl) : ∀ b, ∀ f ∈ fs, f.day ≤ lateK fs b := by
  induction fs with
  | nil => intro b f h; cases h
  | cons g fs ih =>
    intro b f h
    rcases List.mem_cons.1 h with rfl | h
    · exact Int.le_trans (Int.le_max_right _ _) (lateK_ge fs (max b f.day))
    · exact ih _ f h
theorem lateK_le (fs : List Fl) (t : Int) : ∀ b, b ≤ t → (∀ f ∈ fs, f.day ≤ t) → lateK fs b ≤ t := by
  induction fs with
  | nil => intro b h _; exact h
  | cons g fs ih =>
    intro b h hf
    exact ih _ (Int.max_le.2 ⟨h, hf g (List.mem_cons_self ..)⟩) (fun f h => hf f (List.mem_cons_of_mem _ h))
theorem lateN_ge (r : Ro) : r.made ≤ lateN r ∧ r.first ≤ lateN r := by
  have := lateK_ge r.falls (max r.made r.first)
  unfold lateK at this
  unfold lateN
  omega
theorem lateN_mem {r : Ro} {f : Fl} (h : f ∈ r.falls) : f.day ≤ lateN r := lateK_mem r.falls _ f h
theorem flB_day {r : Ro} (hr : roB r = true) {f : Fl} (hf : f ∈ r.falls) : r.first ≤ f.day ∧ f.day ≤ 99999 := by
  have hw : r.falls.all (flB r.first) = true := by
    unfold roB at hr
    simp only [Bool.and_eq_true] at hr
    exact hr.1.2
  rw [List.all_eq_true] at hw
  have := hw f hf
  unfold flB inI at this
  simp only [Bool.and_eq_true, decide_eq_true_eq] at this
  omega
theorem lateN_le {r : Ro} (hr : roB r = true) : lateN r ≤ 99999 := by
  have h := roB_parts hr
  exact lateK_le r.falls 99999 _ (by omega) (fun f hf => (flB_day hr hf).2)
/-- From the last day on the damage is that of all falls. -/
theorem dmg_all (ws : List Wr) (D E : Int) (fs : List Fl) (h1 : ∀ f ∈ fs, f.day ≤ D) (h2 : ∀ f ∈ fs, f.day ≤ E) (s : Int × Int) : fs.foldl (dmgS ws D) s = fs.foldl (dmgS ws E) s := by
  induction fs generalizing s with
  | nil => rfl
  | cons f fs ih =>
    simp only [List.foldl_cons]
    have e : dmgS ws D s f = dmgS ws E s f := by
      unfold dmgS
      rw [if_pos (h1 f (List.mem_cons_self ..)), if_pos (h2 f (List.mem_cons_self ..))]
    rw [e]
    exact ih (fun x hx => h1 x (List.mem_cons_of_mem _ hx)) (fun x hx => h2 x (List.mem_cons_of_mem _ hx)) _
theorem sure_late {m : Md} {r : Ro} {D : Int} (hD : lateN r ≤ D) : sureB m r D = (decide (D ≤ expN m r) && decide ((dmgL m.wears (lateN r) r.falls).2 ≤ m.bears)) := by
  unfold sureB fitB
  rw [dmgL_eq, dmgL_eq, dmg_all m.wears D (lateN r) r.falls (fun f hf => Int.le_trans (lateN_mem hf) hD) (fun f hf => lateN_mem hf)]
theorem unt_range {m : Md} {r : Ro} (hr : roB r = true) : untN m r = -1 ∨ (lateN r ≤ untN m r ∧ untN m r ≤ 99999) := by
  have h9 := lateN_le hr
  unfold untN
  by_cases h : sureB m r (lateN r) = true
  · rw [if_pos h]
    rw [sure_late (Int.le_refl _), Bool.and_eq_true, decide_eq_true_eq] at h
    omega
  · rw [if_neg h]; exact .inl rfl
theorem unt_sure {m : Md} {r : Ro} (hr : roB r = true) {D : Int} (h9 : D ≤ 99999) (hD : lateN r ≤ D) : sureB m r D = decide (D ≤ untN m r) := by
  have hp := roB_parts hr
  have hl := lateN_ge r
  rw [sure_late hD]
  unfold untN
  by_cases h : sureB m r (lateN r) = true
  · rw [if_pos h]
    rw [sure_late (Int.le_refl _), Bool.and_eq_true] at h
    rw [h.2, Bool.and_true]
    exact decide_eq_decide.2 (by omega)
  · rw [if_neg h]
    rw [sure_late (Int.le_refl _)] at h
    have : decide (D ≤ (-1 : Int)) = false := decide_eq_false (by omega)
    rw [this]
    by_cases h2 : (dmgL m.wears (lateN r) r.falls).2 ≤ m.bears
    · rw [decide_eq_true h2, Bool.and_true] at h ⊢
      simp only [decide_eq_true_eq] at h
      exact decide_eq_false (by omega)
    · rw [decide_eq_false h2, Bool.and_false]
def moreR (r : Ro) (f : Fl) : Ro := { r with falls := r.falls ++ [f] }
theorem dmg_more {m : Md} (hm : mdB m = true) (D : Int) (fs : List Fl) (f : Fl) : (dmgL m.wears D fs).2 ≤ (dmgL m.wears D (fs ++ [f])).2 := by
  rw [dmgL_eq, dmgL_eq, List.foldl_append]
  simp only [List.foldl_cons, List.foldl_nil]
  generalize fs.foldl (dmgS m.wears D) (0, 0) = s
  unfold dmgS
  split
  · have := harmN_bd hm (facN f.hh f.ol)
    dsimp only
    omega
  · exact Int.le_refl _
theorem exp_more (m : Md) (r : Ro) (f : Fl) : expN m (moreR r f) = expN m r := rfl
theorem sure_more {m : Md} (hm : mdB m = true) (r : Ro) (f : Fl) (D : Int) : sureB m (moreR r f) D = true → sureB m r D = true := by
  unfold sureB fitB
  rw [exp_more]
  have := dmg_more hm D r.falls f
  unfold moreR
  dsimp only
  simp only [Bool.and_eq_true, decide_eq_true_eq]
  omega
theorem late_more (r : Ro) (f : Fl) : lateN (moreR r f) = max (lateN r) f.day := by
  unfold lateN moreR
  dsimp only
  rw [List.foldl_append]
  rfl
theorem unt_more {m : Md} (hm : mdB m = true) {r : Ro} (hr : roB r = true) (f : Fl) : untN m (moreR r f) ≤ max (untN m r) (-1) := by
  by_cases h : sureB m (moreR r f) (lateN (moreR r f)) = true
  · have h1 := sure_more hm r f _ h
    have h2 : lateN r ≤ lateN (moreR r f) := by rw [late_more]; omega
    rw [sure_late h2, Bool.and_eq_true, decide_eq_true_eq] at h1
    have h3 : sureB m r (lateN r) = true := by
      rw [sure_late (Int.le_refl _), Bool.and_eq_true, decide_eq_true_eq]
      exact ⟨by omega, h1.2⟩
    unfold untN
    rw [if_pos h, if_pos h3, exp_more]
    omega
  · unfold untN
    rw [if_neg h]
    omega
end Go.Proofs.YtdhljpngkeobcaaGreat
/- The specification's factor, harm, fitness and last day. -/
set_option linter.unusedSimpArgs false
set_option linter.unusedVariables false
namespace Go.Proofs.YtdhljpngkeobcaaGreat
open Go.RowKit
set_option maxHeartbeats 400000 in
theorem rFactor_any (h o : Int) (h1 : 0 ≤ h) (h2 : h ≤ 100000) (o1 : 1 ≤ o) (o2 : o ≤ 100000) (w : World) :
    Calls Tryz.prog 96 #[.int .i64 h, .int .i64 o] w fun e w' => e = .returned (.int .i64 (facN h o)) ∧ w' = w := by
  have hq1 : 0 ≤ (100 * h + o - 1) / o := Int.ediv_nonneg (by omega) (by omega)
  have hq2 : (100 * h + o - 1) / o ≤ 100 * h + o - 1 := Int.ediv_le_self _ (by omega)
  have ht : (100 * h + o - 1).tdiv o = (100 * h + o - 1) / o := Int.tdiv_eq_ediv_of_nonneg (by omega)
  unfold facN
  generalize hq : (100 * h + o - 1) / o = q at *
  go_enter Tryz.func96, Tryz.ntmps96
  go_wp2
  all_goals (go_ret; exact ⟨ret_int (by omega), rfl⟩)
set_option maxRecDepth 100000 in
set_option maxHeartbeats 2000000 in
theorem rHarm_any (m : Md) (A : Option Addr) (c : Nat) (f : Int) (hm : m.wears.length ≤ 1000) (w : World) (hx : WrsAt w A m.wears) :
    Calls Tryz.prog 95 #[m.val A c, .int .i64 f] w fun e w' => e = .returned (.int .i64 (harmN m.wears f)) ∧ Ext w w' := by
  have HX := hid hx
  unfold Md.val
  obtain ⟨sh, us, be, ws⟩ := m
  dsimp only at *
  obtain ⟨n, hn⟩ : ∃ n, ws.length = n := ⟨_, rfl⟩
  rw [hn] at hm ⊢
  have HN := hid hn
  have B0 := hid (show Blk _ _ _ _ from blk_last w (.cells #[.int .i64 sh, .int .i64 us, .int .i64 be, .slice A n c] 24))
  clear hx hn
  go_enter Tryz.func95, Tryz.ntmps95
  go_wp2
  go_loopw [5, 6] (fun v i wr => Ext w wr ∧ Hid (Blk wr w.heap.size 24 #[.int .i64 sh, .int .i64 us, .int .i64 be, .slice A n c]) ∧ ∃ j : Nat, j ≤ n ∧ i = .int .i64 j ∧ v = .int .i64 (harmL f (ws.take j) 0)) (fun _ i _ => n - (intOf i).toNat)
  case atStart => exact ⟨by (repeat' (first | with_reducible assumption | with_reducible exact Ext.refl _ | with_reducible refine Ext.alloc ?_ _ | with_reducible refine Ext.set ?_ ?_ _ | with_reducible refine Ext.drew ?_ | with_reducible refine Ext.drewN ?_ _ | with_reducible refine Ext.trans ?_ (by assumption) | (dsimp only; omega))), B0, 0, Nat.zero_le _, rfl, rfl⟩
  case round =>
    obtain ⟨hE, K0, j, hj, rfl, rfl⟩ := hrel
    clear B0
    have a3 := K0.out.cell 3
    have z0 := K0.out.lt
    simp only [List.getElem?_toArray, List.getElem?_cons_zero, List.getElem?_cons_succ] at a3
    by_cases hlt : j < n
    · obtain ⟨b, off, rfl, hb, hck⟩ := (HX.out.ext hE).at_ HN.out hlt
      have HS := hid (harmL_snoc f ws j (by rw [HN.out]; omega))
      have hj0 : (0 : Int) ≤ (j : Int) := by omega
      have hj1 : (j : Int) < (n : Int) := by omega
      clear HX
      generalize ws.getD j zeroWr = x at *
      obtain ⟨xf, xd⟩ := x
      obtain ⟨c0, c1⟩ := hck
      dsimp only at *
      by_cases hf : xf ≤ f
      · rw [if_pos hf] at HS
        generalize harmL f (ws.take j) 0 = y at *
        go_wp2
        go_roundw
        case rel => exact ⟨hE, K0, j + 1, by omega, by go_num, by rw [HS.out]⟩
        case measure => simp [intOf]; omega
      · rw [if_neg hf] at HS
        generalize harmL f (ws.take j) 0 = y at *
        go_wp2
        go_roundw
        case rel => exact ⟨hE, K0, j + 1, by omega, by go_num, by rw [HS.out]⟩
        case measure => simp [intOf]; omega
    · have HP := hid (harmL_end f ws j (by rw [HN.out]; omega))
      generalize harmL f (ws.take j) 0 = y at *
      go_wp2
      go_ret
      exact ⟨ret_int HP.out, hE⟩
set_option maxRecDepth 100000 in
set_option maxHeartbeats 2000000 in
theorem rBase_any (r : Ro) (B : Option Addr) (d : Nat) (hr : r.falls.length ≤ 1000) (w : World) (hy : FlsAt w B r.falls) :
    Calls Tryz.prog 45 #[r.val B d] w fun e w' => e = .returned (.int .i64 (lateN r)) ∧ Ext w w' := by
  have HX := hid hy
  unfold Ro.val
  obtain ⟨ma, fi, le, fs⟩ := r
  dsimp only at *
  obtain ⟨n, hn⟩ : ∃ n, fs.length = n := ⟨_, rfl⟩
  rw [hn] at hr ⊢
  have HN := hid hn
  have B0 := hid (show Blk _ _ _ _ from blk_last w (.cells #[.int .i64 ma, .int .i64 fi, .int .i64 le, .slice B n d] 27))
  have HE := hid (fun j (hj : n ≤ j) => show (fs.take j).foldl (fun n f => max n f.day) (max ma fi) = lateN ⟨ma, fi, le, fs⟩ by
    rw [List.take_of_length_le (by omega)]; rfl)
  have HS0 := hid (fun j (hj : j < fs.length) => foldl_take_snoc fs (fun (n : Int) f => max n f.day) (max ma fi) zeroFl j hj)
  generalize lateN ⟨ma, fi, le, fs⟩ = R at *
  obtain ⟨m0, hm0⟩ : ∃ m0, max ma fi = m0 := ⟨_, rfl⟩
  rw [hm0] at HE HS0
  have HM := hid hm0
  clear hy hn hm0
  go_enter Tryz.func45, Tryz.ntmps45
  go_wp2
  all_goals (
    go_loopw [3, 4] (fun v i wr => Ext w wr ∧ Hid (Blk wr w.heap.size 27 #[.int .i64 ma, .int .i64 fi, .int .i64 le, .slice B n d]) ∧ ∃ j : Nat, j ≤ n ∧ i = .int .i64 j ∧ v = .int .i64 ((fs.take j).foldl (fun n f => max n f.day) m0)) (fun _ i _ => n - (intOf i).toNat)
    case atStart => exact ⟨by (repeat' (first | with_reducible assumption | with_reducible exact Ext.refl _ | with_reducible refine Ext.alloc ?_ _ | with_reducible refine Ext.set ?_ ?_ _ | with_reducible refine Ext.drew ?_ | with_reducible refine Ext.drewN ?_ _ | with_reducible refine Ext.trans ?_ (by assumption) | (dsimp only; omega))), B0, 0, Nat.zero_le _, rfl, by first | (rw [← HM.out]; done) | (rw [← HM.out]; first | (simp; done) | (simp; omega))⟩
    case round =>
      obtain ⟨hE, K0, j, hj, rfl, rfl⟩ := hrel
      clear B0
      have a3 := K0.out.cell 3
      have z0 := K0.out.lt
      simp only [List.getElem?_toArray, List.getElem?_cons_zero, List.getElem?_cons_succ] at a3
      by_cases hlt : j < n
      · obtain ⟨b, off, rfl, hb, hck⟩ := (HX.out.ext hE).at_ HN.out hlt
        have HS := hid (HS0.out j (by rw [HN.out]; omega))
        have hj0 : (0 : Int) ≤ (j : Int) := by omega
        have hj1 : (j : Int) < (n : Int) := by omega
        clear HX HS0 HE
        generalize fs.getD j zeroFl = x at *
        obtain ⟨fd, hl, hh, ol, oh⟩ := x
        obtain ⟨c0, c1, c2, c3, c4⟩ := hck
        dsimp only at *
        generalize (fs.take j).foldl (fun n f => max n f.day) m0 = y at *
        go_wp2
        all_goals (
          go_roundw
          case rel => exact ⟨hE, K0, j + 1, by omega, by go_num, by first | (rw [HS.out]; done) | (rw [HS.out]; first | (simp; done) | (simp; omega))⟩
          case measure => simp [intOf]; omega)
      · have HP := hid (HE.out j (by omega))
        clear HS0 HE
        generalize (fs.take j).foldl (fun n f => max n f.day) m0 = y at *
        go_wp2
        go_ret
        exact ⟨ret_int HP.out, hE⟩)
end Go.Proofs.YtdhljpngkeobcaaGreat
/- Whether a rope is fit, as the specification says it. -/
set_option linter.unusedSimpArgs false
set_option linter.unusedVariables false
namespace Go.Proofs.YtdhljpngkeobcaaGreat
open Go.RowKit
theorem fit_eq {m : Md} {r : Ro} (hm : mdB m = true) (D x : Int) : fitB m r D x = (decide (D ≤ r.made + m.shelf) && (decide (r.first = -1) || decide (D < r.first) || decide (D ≤ r.first + m.use)) && decide (x ≤ m.bears)) := by
  have hp := mdB_parts hm
  unfold fitB expN
  rw [Bool.eq_iff_iff]
  simp only [Bool.and_eq_true, Bool.or_eq_true, decide_eq_true_eq]
  split <;> omega
set_option maxRecDepth 100000 in
set_option maxHeartbeats 4000000 in
theorem rIsFit_any (m : Md) (r : Ro) (A : Option Addr) (c : Nat) (B : Option Addr) (d : Nat) (D x : Int) (hm : mdB m = true) (hr : roB r = true) (w : World) :
    Calls Tryz.prog 44 #[m.val A c, r.val B d, .int .i64 D, .int .i64 x] w fun e w' => e = .returned (.bool (fitB m r D x)) ∧ Ext w w' := by
  have hmp := mdB_parts hm
  have hrp := roB_parts hr
  rw [fit_eq hm]
  unfold Md.val Ro.val
  obtain ⟨sh, us, be, ws⟩ := m
  obtain ⟨ma, fi, le, fs⟩ := r
  dsimp only at *
  obtain ⟨a1, a2, -⟩ := hmp
  obtain ⟨b1, b2, -⟩ := hrp
  clear hm hr
  generalize ws.length = n at *
  generalize fs.length = k at *
  have h1 : IntKind.i64.wrap (ma + sh) = ma + sh := IntWalk.i64_in _ (by omega)
  have h2 : IntKind.i64.wrap (fi + us) = fi + us := IntWalk.i64_in _ (by omega)
  clear a1 a2 b1 b2
  by_cases c1 : D ≤ ma + sh
  case neg =>
    rw [decide_eq_false c1]
    go_enter Tryz.func44, Tryz.ntmps44
    go_wp2
    go_ret
    exact ⟨ret_bool (by simp), by (repeat' (first | with_reducible assumption | with_reducible exact Ext.refl _ | with_reducible refine Ext.alloc ?_ _ | with_reducible refine Ext.set ?_ ?_ _ | with_reducible refine Ext.drew ?_ | with_reducible refine Ext.drewN ?_ _ | with_reducible refine Ext.trans ?_ (by assumption) | (dsimp only; omega)))⟩
  by_cases c5 : x ≤ be
  · by_cases c2 : fi = -1
    · subst c2
      rw [decide_eq_true c1, decide_eq_true c5]
      go_enter Tryz.func44, Tryz.ntmps44
      go_wp2
      go_ret
      exact ⟨ret_bool (by simp), by (repeat' (first | with_reducible assumption | with_reducible exact Ext.refl _ | with_reducible refine Ext.alloc ?_ _ | with_reducible refine Ext.set ?_ ?_ _ | with_reducible refine Ext.drew ?_ | with_reducible refine Ext.drewN ?_ _ | with_reducible refine Ext.trans ?_ (by assumption) | (dsimp only; omega)))⟩
    · by_cases c3 : D < fi
      · rw [decide_eq_true c1, decide_eq_true c5, decide_eq_false c2, decide_eq_true c3]
        go_enter Tryz.func44, Tryz.ntmps44
        go_wp2
        go_ret
        exact ⟨ret_bool (by simp), by (repeat' (first | with_reducible assumption | with_reducible exact Ext.refl _ | with_reducible refine Ext.alloc ?_ _ | with_reducible refine Ext.set ?_ ?_ _ | with_reducible refine Ext.drew ?_ | with_reducible refine Ext.drewN ?_ _ | with_reducible refine Ext.trans ?_ (by assumption) | (dsimp only; omega)))⟩
      · by_cases c4 : D ≤ fi + us
        · rw [decide_eq_true c1, decide_eq_true c5, decide_eq_false c2, decide_eq_false c3, decide_eq_true c4]
          go_enter Tryz.func44, Tryz.ntmps44
          go_wp2
          go_ret
          exact ⟨ret_bool (by simp), by (repeat' (first | with_reducible assumption | with_reducible exact Ext.refl _ | with_reducible refine Ext.alloc ?_ _ | with_reducible refine Ext.set ?_ ?_ _ | with_reducible refine Ext.drew ?_ | with_reducible refine Ext.drewN ?_ _ | with_reducible refine Ext.trans ?_ (by assumption) | (dsimp only; omega)))⟩
        · rw [decide_eq_true c1, decide_eq_true c5, decide_eq_false c2, decide_eq_false c3, decide_eq_false c4]
          go_enter Tryz.func44, Tryz.ntmps44
          go_wp2
          go_ret
          exact ⟨ret_bool (by simp), by (repeat' (first | with_reducible assumption | with_reducible exact Ext.refl _ | with_reducible refine Ext.alloc ?_ _ | with_reducible refine Ext.set ?_ ?_ _ | with_reducible refine Ext.drew ?_ | with_reducible refine Ext.drewN ?_ _ | with_reducible refine Ext.trans ?_ (by assumption) | (dsimp only; omega)))⟩
  · rw [decide_eq_false c5, Bool.and_false]
    by_cases c2 : fi = -1
    · subst c2
      go_enter Tryz.func44, Tryz.ntmps44
      go_wp2
      go_ret
      exact ⟨ret_bool (by simp), by (repeat' (first | with_reducible assumption | with_reducible exact Ext.refl _ | with_reducible refine Ext.alloc ?_ _ | with_reducible refine Ext.set ?_ ?_ _ | with_reducible refine Ext.drew ?_ | with_reducible refine Ext.drewN ?_ _ | with_reducible refine Ext.trans ?_ (by assumption) | (dsimp only; omega)))⟩
    · by_cases c3 : D < fi
      · go_enter Tryz.func44, Tryz.ntmps44
        go_wp2
        go_ret
        exact ⟨ret_bool (by simp), by (repeat' (first | with_reducible assumption | with_reducible exact Ext.refl _ | with_reducible refine Ext.alloc ?_ _ | with_reducible refine Ext.set ?_ ?_ _ | with_reducible refine Ext.drew ?_ | with_reducible refine Ext.drewN ?_ _ | with_reducible refine Ext.trans ?_ (by assumption) | (dsimp only; omega)))⟩
      · by_cases c4 : D ≤ fi + us
        · go_enter Tryz.func44, Tryz.ntmps44
          go_wp2
          go_ret
          exact ⟨ret_bool (by simp), by (repeat' (first | with_reducible assumption | with_reducible exact Ext.refl _ | with_reducible refine Ext.alloc ?_ _ | with_reducible refine Ext.set ?_ ?_ _ | with_reducible refine Ext.drew ?_ | with_reducible refine Ext.drewN ?_ _ | with_reducible refine Ext.trans ?_ (by assumption) | (dsimp only; omega)))⟩
        · go_enter Tryz.func44, Tryz.ntmps44
          go_wp2
          go_ret
          exact ⟨ret_bool (by simp), by (repeat' (first | with_reducible assumption | with_reducible exact Ext.refl _ | with_reducible refine Ext.alloc ?_ _ | with_reducible refine Ext.set ?_ ?_ _ | with_reducible refine Ext.drew ?_ | with_reducible refine Ext.drewN ?_ _ | with_reducible refine Ext.trans ?_ (by assumption) | (dsimp only; omega)))⟩
end Go.Proofs.YtdhljpngkeobcaaGreat
/- The program's Fit. -/
set_option linter.unusedSimpArgs false
set_option linter.unusedVariables false
namespace Go.Proofs.YtdhljpngkeobcaaGreat
open Go.RowKit
def fitV (m : Md) (r : Ro) (D : Int) : Bool × Bool := if dayE m r D = 0 then (fitB m r D (dmgL m.wears D r.falls).2, fitB m r D (dmgL m.wears D r.falls).1) else (false, false)
theorem field_lo (x y : Int) (w : World) : (Instr.field 33 (.agg #[.int .i64 x, .int .i64 y]) 0).run Tryz.prog w = .ok (.int .i64 x) w := by kernel_rfl
set_option maxRecDepth 100000 in
set_option maxHeartbeats 4000000 in
theorem pfit_any (m : Md) (r : Ro) (A : Option Addr) (c : Nat) (B : Option Addr) (d : Nat) (D : Int) (hm : m.wears.length ≤ 1000) (hr : r.falls.length ≤ 1000) (w : World) (hx : WrsAt w A m.wears) (hy : FlsAt w B r.falls) :
    Calls Tryz.prog 19 #[m.val A c, r.val B d, .int .i64 D] w fun e w' => e = .returned (.tuple #[.bool (fitV m r D).1, .bool (fitV m r D).2, .int .i64 (dayE m r D)]) ∧ Ext w w' := by
  have HT := hid (fun (W : World) (hE : Ext w W) => takeOn_any m r A c B d D hm hr W (hx.ext hE) (hy.ext hE))
  have HD := hid (fun (a : mdB m = true) (b : roB r = true) (W : World) (hE : Ext w W) => damage_any m r A c B d D a b W (hx.ext hE) (hy.ext hE))
  have HI := hid (fun (a : mdB m = true) (b : roB r = true) x W => isFit_any m r A c B d D x a b W)
  clear hx hy
  by_cases h0 : dayE m r D = 0
  · have hv : fitV m r D = (fitB m r D (dmgL m.wears D r.falls).2, fitB m r D (dmgL m.wears D r.falls).1) := by unfold fitV; rw [if_pos h0]
    obtain ⟨h1, h2⟩ := dayE_ok h0
    replace HD := hid (HD.out h1 h2)
    replace HI := hid (HI.out h1 h2)
    rw [hv, h0]
    simp only [h0, if_pos] at HT
    clear hv h0 h1 h2
    generalize dmgL m.wears D r.falls = V at *
    have HI1 := hid (fun W => HI.out V.1 W)
    have HI2 := hid (fun W => HI.out V.2 W)
    clear HI
    dsimp only
    generalize fitB m r D V.1 = F1 at *
    generalize fitB m r D V.2 = F2 at *
    unfold cordV at *
    obtain ⟨sh, us, be, ws⟩ := m
    obtain ⟨ma, fi, le, fs⟩ := r
    unfold Md.val Ro.val at *
    dsimp only at *
    generalize ws.length = n at *
    generalize fs.length = k at *
    go_enter Tryz.func19, Tryz.ntmps19
    go_wp2_with fail
    refine Calls.mono (HT.out _ (by (repeat' (first | with_reducible assumption | with_reducible exact Ext.refl _ | with_reducible refine Ext.alloc ?_ _ | with_reducible refine Ext.set ?_ ?_ _ | with_reducible refine Ext.drew ?_ | with_reducible refine Ext.drewN ?_ _ | with_reducible refine Ext.trans ?_ (by assumption) | (dsimp only; omega))))) ?_
    rintro e w2 ⟨rfl, hE⟩
    have TE := hid (show Ext w w2 by (repeat' (first | with_reducible assumption | with_reducible exact Ext.refl _ | with_reducible refine Ext.alloc ?_ _ | with_reducible refine Ext.set ?_ ?_ _ | with_reducible refine Ext.drew ?_ | with_reducible refine Ext.drewN ?_ _ | with_reducible refine Ext.trans ?_ (by assumption) | (dsimp only; omega))))
    clear hE HT
    go_wp2_with fail
    have tE := TE.out
    refine Calls.mono (HD.out _ (by (repeat' (first | with_reducible assumption | with_reducible exact Ext.refl _ | with_reducible refine Ext.alloc ?_ _ | with_reducible refine Ext.set ?_ ?_ _ | with_reducible refine Ext.drew ?_ | with_reducible refine Ext.drewN ?_ _ | with_reducible refine Ext.trans ?_ (by assumption) | (dsimp only; omega))))) ?_
    rintro e w3 ⟨rfl, hE3⟩
    have C3 := hid (show Blk w3 w2.heap.size 102 #[.int .i64 sh, .int .i64 us, .int .i64 be, .slice A n c, .int .i64 ma, .int .i64 fi, .int .i64 le, .slice B k d] from (Blk.new w2 102 #[.int .i64 sh, .int .i64 us, .int .i64 be, .slice A n c, .int .i64 ma, .int .i64 fi, .int .i64 le, .slice B k d]).ext hE3)
    have E3 := hid (TE.out.trans ((ext_alloc1 _ _).trans hE3))
    clear TE hE3 tE
    go_wp2_with fail
    refine wp_absW (fun X => Blk X w2.heap.size 102 #[.int .i64 sh, .int .i64 us, .int .i64 be, .slice A n c, .int .i64 ma, .int .i64 fi, .int .i64 le, .slice B k d] ∧ Blk X w3.heap.size 33 #[.int .i64 V.1, .int .i64 V.2] ∧ Ext w X) ⟨C3.out.alloc _, blk_last _ _, E3.out.alloc _⟩ ?_
    rintro W ⟨u1, u2, hE⟩
    have HE := hid hE
    clear hE C3 E3 HD
    obtain ⟨k0, k1, k2, k3, k4, k5, k6, k7⟩ : _ ∧ _ ∧ _ ∧ _ ∧ _ ∧ _ ∧ _ ∧ _ := ⟨u1.cell 0, u1.cell 1, u1.cell 2, u1.cell 3, u1.cell 4, u1.cell 5, u1.cell 6, u1.cell 7⟩
    have kz := u1.lt
    have v2 : Blk _ w3.heap.size _ _ := u2
    have y0 := v2.cell 0
    have y1 := v2.cell 1
    have yz := v2.lt
    simp only [List.getElem?_toArray, List.getElem?_cons_zero, List.getElem?_cons_succ] at k0 k1 k2 k3 k4 k5 k6 k7 y0 y1
    clear u1 u2 v2
    refine wp_region_held_drew (S := fun w' => (∀ b o, b < W.heap.size → w'.cell? ⟨b, o, none⟩ = W.cell? ⟨b, o, none⟩) ∧ W.heap.size ≤ w'.heap.size ∧ Ext W w') (by kernel_rfl) ?hS0 (fun hHeld => ?_)
    case hS0 => exact sK (Ext.drew (Ext.refl _))
    have X0 : Ext W W.drew := Ext.drew (Ext.refl W)
    refine tk1 (i := 0) (v := ?v0a) rfl ?y0a ?r0a
    case y0a => (intro w' hSw; (try dsimp only at hSw); go_simp; (try with_reducible rfl))
    try simp only [Act.put, sq1, sq2, sq3, sq4, sq5, sq6]
    refine tk1 (i := 1) (v := ?v1a) rfl ?y1a ?r1a
    case y1a => (intro w' hSw; (try dsimp only at hSw); go_simp; (try with_reducible rfl))
    try simp only [Act.put, sq1, sq2, sq3, sq4, sq5, sq6]
    refine tk1 (i := 2) (v := ?v2a) rfl ?y2a ?r2a
    case y2a => (intro w' hSw; (try dsimp only at hSw); go_simp; (try with_reducible rfl))
    try simp only [Act.put, sq1, sq2, sq3, sq4, sq5, sq6]
    refine tk1 (i := 3) (v := ?v3a) rfl ?y3a ?r3a
    case y3a => (intro w' hSw; (try dsimp only at hSw); go_simp; (try with_reducible rfl))
    try simp only [Act.put, sq1, sq2, sq3, sq4, sq5, sq6]
    refine tk1 (i := 5) (v := ?v5a) rfl ?y5a ?r5a
    case y5a => (intro w' hSw; (try dsimp only at hSw); go_simp; (try with_reducible rfl))
    try simp only [Act.put, sq1, sq2, sq3, sq4, sq5, sq6]
    refine tk1 (i := 6) (v := ?v6a) rfl ?y6a ?r6a
    case y6a => (intro w' hSw; (try dsimp only at hSw); go_simp; (try with_reducible rfl))
    try simp only [Act.put, sq1, sq2, sq3, sq4, sq5, sq6]
    refine tk1 (i := 7) (v := ?v7a) rfl ?y7a ?r7a
    case y7a => (intro w' hSw; (try dsimp only at hSw); go_simp; (try with_reducible rfl))
    try simp only [Act.put, sq1, sq2, sq3, sq4, sq5, sq6]
    refine tk1 (i := 8) (v := ?v8a) rfl ?y8a ?r8a
    case y8a => (intro w' hSw; (try dsimp only at hSw); go_simp; (try with_reducible rfl))
    try simp only [Act.put, sq1, sq2, sq3, sq4, sq5, sq6]
    refine wpAnyH_ready (rs := [4]) (by kernel_rfl) (by simp) ?_
    refine AllReadyH.cons (o := _) rfl (fun K hK => ?_) AllReadyH.nil
    go_simp
    refine Calls.mono (HI2.out _) ?_
    rintro e w1 ⟨rfl, hE1⟩
    dsimp only
    have X1 := X0.trans hE1
    clear hHeld
    refine hK.out _ _ (sK X1) (fun hHeld => ?_)
    clear hK K
    try simp only [Act.put, sq1, sq2, sq3, sq4, sq5, sq6]
    refine wpAnyH_ready (rs := [9]) (by kernel_rfl) (by simp) ?_
    refine AllReadyH.cons (o := _) rfl (fun K hK => ?_) AllReadyH.nil
    go_simp
    refine Calls.mono (HI1.out _) ?_
    rintro e w2 ⟨rfl, hE2⟩
    dsimp only
    have X2 := X1.trans hE2
    clear hHeld
    refine hK.out _ _ (sK X2) (fun hHeld => ?_)
    clear hK K
    try simp only [Act.put, sq1, sq2, sq3, sq4, sq5, sq6]
    refine tk1 (i := 10) (v := ?v10c) rfl ?y10c ?r10c
    case y10c => (intro w' hSw; (try dsimp only at hSw); go_simp; (try with_reducible rfl))
    try simp only [Act.put, sq1, sq2, sq3, sq4, sq5, sq6]
    refine tk1 (i := 11) (v := ?v11c) rfl ?y11c ?r11c
    case y11c => (intro w' hSw; (try dsimp only at hSw); go_simp; (try with_reducible rfl))
    try simp only [Act.put, sq1, sq2, sq3, sq4, sq5, sq6]
    refine tk1 (i := 12) (v := ?v12c) rfl ?y12c ?r12c
    case y12c => (intro w' hSw; (try dsimp only at hSw); go_simp; (try with_reducible rfl))
    try simp only [Act.put, sq1, sq2, sq3, sq4, sq5, sq6]
    refine wpAnyH_done (by kernel_rfl) ?_ _
    have HX := hid (HE.out.trans X2)
    clear hHeld
    go_wp2
    exact bodyPost_ret (v := .tuple #[.bool F2, .bool F1, .int .i64 0]) (by simp [results, Tryz.results19, go_sem]) rfl ⟨rfl, HX.out⟩
  · have hv : fitV m r D = (false, false) := by unfold fitV; rw [if_neg h0]
    rw [hv]
    simp only [h0, if_false] at HT
    clear hv HD HI
    obtain ⟨E, hE0⟩ : ∃ E, dayE m r D = E := ⟨_, rfl⟩
    rw [hE0] at h0 HT ⊢
    clear hE0
    unfold zeroC at *
    obtain ⟨sh, us, be, ws⟩ := m
    obtain ⟨ma, fi, le, fs⟩ := r
    unfold Md.val Ro.val at *
    dsimp only at *
    generalize ws.length = n at *
    generalize fs.length = k at *
    have h0' : (E == 0) = false := by simp; exact h0
    go_enter Tryz.func19, Tryz.ntmps19
    go_wp2_with fail
    refine Calls.mono (HT.out _ (by (repeat' (first | with_reducible assumption | with_reducible exact Ext.refl _ | with_reducible refine Ext.alloc ?_ _ | with_reducible refine Ext.set ?_ ?_ _ | with_reducible refine Ext.drew ?_ | with_reducible refine Ext.drewN ?_ _ | with_reducible refine Ext.trans ?_ (by assumption) | (dsimp only; omega))))) ?_
    rintro e w2 ⟨rfl, hE⟩
    have TE := hid (show Ext w w2 by (repeat' (first | with_reducible assumption | with_reducible exact Ext.refl _ | with_reducible refine Ext.alloc ?_ _ | with_reducible refine Ext.set ?_ ?_ _ | with_reducible refine Ext.drew ?_ | with_reducible refine Ext.drewN ?_ _ | with_reducible refine Ext.trans ?_ (by assumption) | (dsimp only; omega))))
    clear hE HT
    go_wp2_with fail
    exact bodyPost_ret (v := .tuple #[.bool false, .bool false, .int .i64 E]) (by simp [results, Tryz.results19, go_sem]) rfl ⟨rfl, TE.out.alloc _⟩
end Go.Proofs.YtdhljpngkeobcaaGreat
