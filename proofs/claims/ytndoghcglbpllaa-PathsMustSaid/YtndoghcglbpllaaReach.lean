/- The places that are reached by a deadline. -/
import Derived.Test.YtndoghcglbpllaaOwn
import Derived.Test.YtndoghcglbpllaaStab
set_option linter.unusedSimpArgs false
set_option linter.unusedVariables false
namespace Go.Proofs.Ytndoghcglbpllaa
open Go.RowKit
def reachL (xs : List Int) (D : Int) (k : Nat) : List Int := ((List.range k).filter fun i => decide (xs.getD i 0 ≤ D)).map Int.ofNat
theorem reachL_yes (xs : List Int) (D : Int) (k : Nat) (h : xs.getD k 0 ≤ D) : reachL xs D (k + 1) = reachL xs D k ++ [(k : Int)] := by
  unfold reachL
  rw [List.range_succ, List.filter_append, List.map_append]
  simp only [List.filter_cons, List.filter_nil, decide_eq_true h, if_true]
  rfl
theorem reachL_no (xs : List Int) (D : Int) (k : Nat) (h : D < xs.getD k 0) : reachL xs D (k + 1) = reachL xs D k := by
  unfold reachL
  rw [List.range_succ, List.filter_append, List.map_append]
  have hd : decide (xs.getD k 0 ≤ D) = false := decide_eq_false (by omega)
  simp only [List.filter_cons, List.filter_nil, hd, if_neg (by decide : ¬ (false = true)), List.map_nil, List.append_nil]
theorem reachL_len (xs : List Int) (D : Int) (k : Nat) : (reachL xs D k).length ≤ k := by
  unfold reachL
  rw [List.length_map]
  exact Nat.le_trans (List.length_filter_le _ _) (by simp)
def OwnIs (ys : List Int) (w : World) (e : Ending) (w' : World) : Prop := ∃ v, e = .returned v ∧ OwnAt w' w.heap.size v ys ∧ Ext w w'
theorem OwnIs.mk {ys : List Int} {w : World} {e : Ending} {w' : World} {v : Value} (h : e = .returned v) (ho : OwnAt w' w.heap.size v ys) (he : Ext w w') : OwnIs ys w e w' := ⟨v, h, ho, he⟩
theorem wpList_append_intsB {P : Program} {ops : Array Oper} {rest : List Oper} {o : Oper} {a : Act} {Q : Exit → Act → World → Prop} (w : World) (hP : P = Try.prog) (hgd : o.guard = none) (s x : Operand)
    (ho : o.op = .call { callee := .builtin .append, args := #[s, x], argTypes := #[29, 29] }) (B : Nat) (v : Value) (xs : List Int) (hs : a.eval s = v) (hown : OwnAt w B v xs)
    (ad : Addr) (y : Int) (hx : a.eval x = .slice (some ad) 1 1) (hy : w.cell? ad = some (.int .i64 y)) (hl : xs.length ≤ 1000) (hB : B ≤ w.heap.size)
    (h : ∀ v' w', OwnAt w' B v' (xs ++ [y]) → w.grownBy w' v.ownBlock → wpList P ops Q rest (a.put o.dst v') w') : wpList P ops Q (o :: rest) a w :=
  wpList_plain hgd fun _ hK => wp_append_ints w hP s x ho B v xs hs hown ad y hx hy hl hB fun v' w' h2 h3 => hK _ _ (h v' w' h2 h3)
set_option maxHeartbeats 1000000 in
theorem reached_any (A : Option Addr) (n c : Nat) (xs : List Int) (hn : xs.length = n) (hm : n ≤ 1000) (D : Int) (w : World) (hx : IntsAt w A xs) :
    Calls Try.prog 65 #[.slice A n c, .int .i64 D] w (OwnIs (reachL xs D n) w) := by
  have HX := hid hx
  have HN := hid hn
  clear hx hn
  go_enter Try.func65, Try.ntmps65
  go_wp2
  go_loopw [5, 10] (fun v i wr => Ext w wr ∧ ∃ k : Nat, k ≤ n ∧ i = .int .i64 k ∧ Hid (OwnAt wr w.heap.size v (reachL xs D k))) (fun _ i _ => n - (intOf i).toNat)
  case atStart => exact ⟨Ext.refl _, 0, Nat.zero_le _, rfl, hid (OwnAt.nil _ _)⟩
  case round =>
    obtain ⟨hE, k, hk, rfl, HO⟩ := hrel
    by_cases hlt : k < n
    · obtain ⟨b, off, rfl, hb, q1⟩ := (HX.out.ext hE).at_ HN.out hlt
      have HY := hid (reachL_yes xs D k)
      have HNO := hid (reachL_no xs D k)
      obtain ⟨y, hy⟩ : ∃ y, xs.getD k 0 = y := ⟨_, rfl⟩
      rw [hy] at q1 HY HNO
      clear hy
      have hk0 : (0 : Int) ≤ (k : Int) := by omega
      have hk1 : (k : Int) < (n : Int) := by omega
      have hrl := reachL_len xs D k
      obtain ⟨v, rfl⟩ : ∃ v, v = u5 := ⟨_, rfl⟩
      have HTV := hid (HO.out.block)
      have hz := hE.size
      by_cases hyd : y ≤ D
      · have HA := hid (HY.out hyd)
        go_wp2_with (at_builtin; refine wpList_append_intsB _ rfl rfl _ _ rfl w.heap.size v (reachL xs D k) (by rfl) (HO.out.ext (ext_alloc1 _ _)) ⟨wr.heap.size, 0, none⟩ (k : Int) (by rfl) (blk_cell (heap_alloc_new wr _) 0) (by omega) (by simp; omega) ?_; intro v' w9 hown9 hg9; have HY9 := hid hown9; have HG := hid hg9; clear hown9 hg9)
        have hE9 : Ext w w9 := ext_of_grown (hE.alloc _) HG.out (fun q hq => HTV.out q hq)
        go_roundw
        case rel => exact ⟨hE9, k + 1, by omega, by go_num, by rw [HA.out]; exact HY9⟩
        case measure => (simp [intOf] <;> omega)
      · have hd : decide (y ≤ D) = false := decide_eq_false hyd
        have HA := hid (HNO.out (by omega))
        go_wp2
        go_roundw
        case rel => exact ⟨hE, k + 1, by omega, by go_num, by rw [HA.out]; exact HO⟩
        case measure => (simp [intOf] <;> omega)
    · obtain rfl : k = n := by omega
      go_wp2
      go_ret
      exact OwnIs.mk rfl HO.out hE
set_option maxHeartbeats 1000000 in
theorem until_any (A : Option Addr) (n c : Nat) (xs : List Int) (hn : xs.length = n) (hm : n ≤ 1000) (D : Int) (w : World) (hx : IntsAt w A xs) :
    Calls Try.prog 66 #[.slice A n c, .int .i64 D] w (OwnIs (reachL xs D n) w) := by
  have HX := hid hx
  have HN := hid hn
  clear hx hn
  go_enter Try.func66, Try.ntmps66
  go_wp2
  go_loopw [5, 6] (fun v i wr => Ext w wr ∧ ∃ k : Nat, k ≤ n ∧ i = .int .i64 k ∧ Hid (OwnAt wr w.heap.size v (reachL xs D k))) (fun _ i _ => n - (intOf i).toNat)
  case atStart => exact ⟨Ext.refl _, 0, Nat.zero_le _, rfl, hid (OwnAt.nil _ _)⟩
  case round =>
    obtain ⟨hE, k, hk, rfl, HO⟩ := hrel
    by_cases hlt : k < n
    · obtain ⟨b, off, rfl, hb, q1⟩ := (HX.out.ext hE).at_ HN.out hlt
      have HY := hid (reachL_yes xs D k)
      have HNO := hid (reachL_no xs D k)
      obtain ⟨y, hy⟩ : ∃ y, xs.getD k 0 = y := ⟨_, rfl⟩
      rw [hy] at q1 HY HNO
      clear hy
      have hk0 : (0 : Int) ≤ (k : Int) := by omega
      have hk1 : (k : Int) < (n : Int) := by omega
      have hrl := reachL_len xs D k
      obtain ⟨v, rfl⟩ : ∃ v, v = u5 := ⟨_, rfl⟩
      have HTV := hid (HO.out.block)
      have hz := hE.size
      by_cases hyd : y ≤ D
      · have HA := hid (HY.out hyd)
        go_wp2_with (at_builtin; refine wpList_append_intsB _ rfl rfl _ _ rfl w.heap.size v (reachL xs D k) (by rfl) (HO.out.ext (ext_alloc1 _ _)) ⟨wr.heap.size, 0, none⟩ (k : Int) (by rfl) (blk_cell (heap_alloc_new wr _) 0) (by omega) (by simp; omega) ?_; intro v' w9 hown9 hg9; have HY9 := hid hown9; have HG := hid hg9; clear hown9 hg9)
        have hE9 : Ext w w9 := ext_of_grown (hE.alloc _) HG.out (fun q hq => HTV.out q hq)
        go_roundw
        case rel => exact ⟨hE9, k + 1, by omega, by go_num, by rw [HA.out]; exact HY9⟩
        case measure => (simp [intOf] <;> omega)
      · have hd : decide (y ≤ D) = false := decide_eq_false hyd
        have HA := hid (HNO.out (by omega))
        go_wp2
        go_roundw
        case rel => exact ⟨hE, k + 1, by omega, by go_num, by rw [HA.out]; exact HO⟩
        case measure => (simp [intOf] <;> omega)
    · obtain rfl : k = n := by omega
      go_wp2
      go_ret
      exact OwnIs.mk rfl HO.out hE
end Go.Proofs.Ytndoghcglbpllaa
