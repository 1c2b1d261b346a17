/- Split, of the specification: two lists that grow side by side. -/
import Derived.Test.YtcfijidlbimckaaDoorRCle
import Derived.Maps.AppendAt
set_option linter.unusedSimpArgs false
set_option linter.unusedVariables false
namespace Go.Proofs.YtcfijidlbimckaaDoor
open Go.RowKit
/-- One number more, and where the new list lies. -/
theorem appI2 {ops : Array Oper} {rest : List Oper} {o : Oper} {a : Act} {Q : Exit → Act → World → Prop} (w : World) (hg : o.guard = none) (s x : Operand)
    (hop : o.op = Op.call { callee := Callee.builtin Builtin.append, args := #[s, x], argTypes := #[29, 29] }) (B : Nat) (v : Value) (xs : List Int) (hs : a.eval s = v) (hown : OwnI w B v xs)
    (ad : Addr) (y : Int) (hx : a.eval x = .slice (some ad) 1 1) (hy : w.cell? ad = some (.int .i64 y)) (hl : xs.length ≤ 1000) (hB : B ≤ w.heap.size)
    (hK : ∀ v' w', OwnI w' B v' (xs ++ [y]) → w.grownBy w' v.ownBlock → (v'.ownBlock = v.ownBlock ∨ v'.ownBlock = some w.heap.size) → wpList Tryd.prog ops Q rest (a.put o.dst v') w') : wpList Tryd.prog ops Q (o :: rest) a w := by
  obtain ⟨i0, hi, hz0, hz1, hz2⟩ := info_parts infoI
  refine wpList_plain hg fun K hK' => ?_
  obtain ⟨v', w', hrun, r1, r2, _, r4⟩ := run_append_own_at (P := Tryd.prog) w B 29 o.type 3 i0 (.int .i64 0) 1 8 Tryd.underlying29 hi hz0 hz1 hz2 rfl (by decide) v xs.length (valsI xs) hown ad 1 1 [.int .i64 y] rfl (fun j u hj => by
    cases j with
    | zero =>
      obtain rfl : Value.int .i64 y = u := by simpa using hj
      simpa [Addr.add] using hy
    | succ j => simp at hj) (by simp [Value.oneCell']) (by unfold maxLen; omega) (by omega) hB
  unfold Oper.wp execOp
  simp only [hop, resolve, invoke, builtin, Sem.run_bind, Sem.run_pure, Result.andThen_ok, List.map_toArray, List.map_cons, List.map_nil, hs, hx, hrun]
  exact hK' _ _ (hK v' w' (OwnI.snoc r1) r2 r4)
theorem OwnI.apart {w w' : World} {B : Nat} {v u : Value} {xs : List Int} (h : OwnI w B v xs) (hg : w.grownBy w' u.ownBlock) (hne : ∀ q, v.ownBlock = some q → u.ownBlock ≠ some q) : OwnI w' B v xs :=
  h.keep fun q cs hq ho => (hg.block q (Array.getElem?_eq_some_iff.1 ho).1 (fun e => hne q hq e.symm)).trans ho
theorem OwnI.lt {w : World} {B : Nat} {v : Value} {xs : List Int} (h : OwnI w B v xs) (q : Nat) (hq : v.ownBlock = some q) : q < w.heap.size := by
  obtain ⟨cs, hcs⟩ := h.blk q hq
  exact (Array.getElem?_eq_some_iff.1 hcs).1
theorem apart_of {v v' u : Value} {z : Nat} (h : v'.ownBlock = v.ownBlock ∨ v'.ownBlock = some z) (hd : ∀ q, v.ownBlock = some q → u.ownBlock ≠ some q) (hz : ∀ q, u.ownBlock = some q → q ≠ z) : ∀ q, v'.ownBlock = some q → u.ownBlock ≠ some q := by
  intro q hq hu
  rcases h with h | h
  · exact hd q (h ▸ hq) hu
  · rw [h] at hq
    injection hq with hq
    exact hz q hu hq.symm
def clP (x : Int) (y : Int) : Bool := bits BinOp.and .i64 y x == 0
def foP (x : Int) (y : Int) : Bool := !clP x y
def SplIs (xs : List Int) (x : Int) (w : World) (e : Ending) (w' : World) : Prop :=
  ∃ v u, e = .returned (.tuple #[v, u]) ∧ OwnI w' w.heap.size v (xs.filter (clP x)) ∧ OwnI w' w.heap.size u (xs.filter (foP x)) ∧ Ext w w'
set_option maxRecDepth 100000 in
set_option maxHeartbeats 4000000 in
theorem rsplit_any (xs : List Int) (XA : Option Addr) (n xc : Nat) (x : Int) (hn : xs.length = n) (hm : n ≤ 1000) (w : World) (hS : IntsAt w XA xs) :
    Calls Tryd.prog 27 #[.slice XA n xc, .int .i64 x] w (SplIs xs x w) := by
  have HS := hid hS
  have HN := hid hn
  have HT := hid (fun k (h : k < xs.length) => take_snoc xs 0 h)
  have HL := hid (fun p k => (show ((xs.take k).filter p).length ≤ 1000 from Nat.le_trans (List.length_filter_le _ _) (by rw [List.length_take]; omega)))
  clear hS hn
  have HQ := hid (show SplIs xs x w = fun e w' => ∃ v u, e = .returned (.tuple #[v, u]) ∧ OwnI w' w.heap.size v (xs.filter (clP x)) ∧ OwnI w' w.heap.size u (xs.filter (foP x)) ∧ Ext w w' from rfl)
  rw [HQ.out]
  clear HQ
  go_enter Tryd.func27, Tryd.ntmps27
  go_wp2
  go_loopw [4, 5, 6] (fun v u i wr => Ext w wr ∧ ∃ k : Nat, k ≤ n ∧ i = .int .i64 k ∧ Hid (OwnI wr w.heap.size v ((xs.take k).filter (clP x))) ∧ Hid (OwnI wr w.heap.size u ((xs.take k).filter (foP x))) ∧ Hid (∀ q, v.ownBlock = some q → u.ownBlock ≠ some q)) (fun _ _ i _ => n - (intOf i).toNat)
  case atStart => exact ⟨Ext.refl _, 0, Nat.zero_le _, rfl, hid (OwnI.nil _ _), hid (OwnI.nil _ _), hid (fun q h => by cases h)⟩
  case round =>
    obtain ⟨hE, k, hk, rfl, HV, HU, HD⟩ := hrel
    by_cases hlt : k < n
    · have HTk := hid (HT.out k (by rw [HN.out]; exact hlt))
      have hl1 := HL.out (clP x) k
      have hl2 := HL.out (foP x) k
      obtain ⟨b, off, rfl, hb, c0⟩ := (HS.out.ext hE).at_ HN.out hlt
      clear HT HL HS
      generalize xs.getD k 0 = y at *
      have HF1 := hid (show (xs.take (k + 1)).filter (clP x) = (xs.take k).filter (clP x) ++ if clP x y = true then [y] else [] by rw [HTk.out, List.filter_append, List.filter_cons, List.filter_nil])
      have HF2 := hid (show (xs.take (k + 1)).filter (foP x) = (xs.take k).filter (foP x) ++ if foP x y = true then [y] else [] by rw [HTk.out, List.filter_append, List.filter_cons, List.filter_nil])
      generalize (xs.take k).filter (clP x) = ys at *
      generalize (xs.take k).filter (foP x) = zs at *
      clear HTk
      obtain ⟨B1, hB1⟩ : ∃ B1, bits BinOp.and .i64 y x = B1 := ⟨_, rfl⟩
      have HC1 := hid (show clP x y = (B1 == 0) by unfold clP; rw [hB1])
      have HC2 := hid (show foP x y = !(B1 == 0) by unfold foP clP; rw [hB1])
      by_cases h0 : B1 = 0
      · rw [h0] at HC1 HC2 hB1
        have HA1 := hid (show (xs.take (k + 1)).filter (clP x) = ys ++ [y] by rw [HF1.out, HC1.out]; rfl)
        have HA2 := hid (show (xs.take (k + 1)).filter (foP x) = zs by rw [HF2.out, HC2.out]; simp)
        clear HF1 HF2 HC1 HC2 h0 B1
        go_wp2_with (first | (at_builtin; refine Halt.mk ?_) | simp only [hB1])
        unfold Halt
        refine appI2 _ rfl _ _ rfl w.heap.size u4 ys rfl (HV.out.ext (ext_alloc1 _ _)) ⟨wr.heap.size, 0, none⟩ y rfl (blk_cell (blk_last wr _) 0) hl1 (by have := hE.size; simp; omega) ?_
        intro v' w5 hown5 hg5 hw5
        have HE5 := hid (HV.out.extApp hE (Nat.le_refl _) hg5)
        have HU5 := hid ((HU.out.ext (ext_alloc1 wr _)).apart hg5 (fun q h h2 => HD.out q h2 h))
        have HV5 := hid hown5
        have HD5 := hid (apart_of hw5 HD.out (fun q h => by have := HU.out.lt q h; simp; omega))
        clear hown5 hg5 hw5
        go_wp2
        go_roundw
        case rel => exact ⟨HE5.out, k + 1, by omega, by go_num, hid (by rw [HA1.out]; exact HV5.out), hid (by rw [HA2.out]; exact HU5.out), HD5⟩
        case measure => simp [intOf]; omega
      · have hd0 : decide (B1 = 0) = false := decide_eq_false h0
        have hb0 : (B1 == 0) = false := by simp [h0]
        have HA1 := hid (show (xs.take (k + 1)).filter (clP x) = ys by rw [HF1.out, HC1.out, hb0]; simp)
        have HA2 := hid (show (xs.take (k + 1)).filter (foP x) = zs ++ [y] by rw [HF2.out, HC2.out, hb0]; rfl)
        clear HF1 HF2 HC1 HC2
        go_wp2_with (first | (at_builtin; refine Halt.mk ?_) | simp only [hB1])
        unfold Halt
        refine appI2 _ rfl _ _ rfl w.heap.size u5 zs rfl (HU.out.ext (ext_alloc1 _ _)) ⟨wr.heap.size, 0, none⟩ y rfl (blk_cell (blk_last wr _) 0) hl2 (by have := hE.size; simp; omega) ?_
        intro v' w5 hown5 hg5 hw5
        have HE5 := hid (HU.out.extApp hE (Nat.le_refl _) hg5)
        have HV5 := hid ((HV.out.ext (ext_alloc1 wr _)).apart hg5 HD.out)
        have HU5 := hid hown5
        have HD5 := hid (fun q h h2 => apart_of hw5 (fun q h2 h => HD.out q h h2) (fun q h => by have := HV.out.lt q h; simp; omega) q h2 h)
        clear hown5 hg5 hw5
        go_wp2
        go_roundw
        case rel => exact ⟨HE5.out, k + 1, by omega, by go_num, hid (by rw [HA1.out]; exact HV5.out), hid (by rw [HA2.out]; exact HU5.out), HD5⟩
        case measure => simp [intOf]; omega
    · obtain rfl : k = n := by omega
      have HE1 := hid (show xs.take k = xs from List.take_of_length_le (by rw [HN.out]; exact Nat.le_refl _))
      rw [HE1.out] at HV HU
      clear HE1 HT HL HS
      go_wp2
      go_ret2
      exact ⟨_, _, rfl, HV.out, HU.out, hE⟩
end Go.Proofs.YtcfijidlbimckaaDoor
