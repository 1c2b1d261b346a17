/- Gap. -/
import Derived.Test.YtecamnhnjmldcaaGreatDoorB12
import Derived.Test.YtecamnhnjmldcaaGreatDoorB10
set_option linter.unusedSimpArgs false
set_option linter.unusedVariables false
namespace Go.Proofs.YtecamnhnjmldcaaGreatDoor
open Go.RowKit
theorem begM_zero {es : List Int} {seen : List Sg} {f : List (List Hr)} (h : begM es seen f = 0) : orM es = 0 ∧ numsM seen f ≠ [] := by
  unfold begM at h
  by_cases h0 : orM es = 0
  · rw [if_pos h0] at h
    by_cases h1 : numsM seen f = []
    · rw [if_pos h1] at h; cases h
    · exact ⟨h0, h1⟩
  · rw [if_neg h0] at h; exact absurd h h0
theorem scsM_all {seen : List Sg} {f : List (List Hr)} (h : fcB f = true) : ∀ x ∈ scsM seen f, x.length = hoursN f := by
  intro x hx
  unfold scsM at hx
  obtain ⟨y, hy, rfl⟩ := List.mem_map.1 hx
  rw [obsM_len]
  exact ((fc_ok h).2.2.2.2 y (List.mem_filter.1 hy).1).1
theorem scsM_le (seen : List Sg) (f : List (List Hr)) : (scsM seen f).length ≤ f.length := by
  unfold scsM
  rw [List.length_map]
  exact List.length_filter_le _ _
theorem numsM_scs (seen : List Sg) (f : List (List Hr)) : (numsM seen f).length = (scsM seen f).length := by
  have h : ∀ k, (numsK seen f k).length = (((List.range k).filter fun i => allowB seen (f.getD i []))).length := fun k => by unfold numsK; rw [List.length_map]
  have h2 : ∀ k, k ≤ f.length → (numsK seen f k).length = (scsK seen f k).length := by
    intro k
    induction k with
    | zero => intro _; rfl
    | succ k ih =>
      intro hk
      rw [numsK_step, scsK_step seen f k (by omega)]
      cases allowB seen (f.getD k []) <;> simp [ih (by omega)]
  have h3 := h2 f.length (Nat.le_refl _)
  unfold scsK at h3
  rw [List.take_of_length_le (Nat.le_refl _)] at h3
  exact h3
structure WinOk (f : List (List Hr)) (seen : List Sg) (l : Lm) (len : Int) : Prop where
  fc : fcB f = true
  sg : sgsB (hoursN f) seen = true
  lm : lmB l = true
  lo : 1 ≤ len
  hi : len ≤ 48
  ne : numsM seen f ≠ []
theorem winE_ok {f : List (List Hr)} {seen : List Sg} {l : Lm} {len : Int} (h : winE f seen l len = 0) : WinOk f seen l len := by
  obtain ⟨h0, hn⟩ := begM_zero h
  obtain ⟨h1, h0⟩ := orM_zero h0
  obtain ⟨h2, h0⟩ := orM_zero h0
  obtain ⟨h3, h0⟩ := orM_zero h0
  obtain ⟨h4, _⟩ := orM_zero h0
  unfold lmE unlessM at h3
  unfold lgE unlessM inI at h4
  have hl : lmB l = true := by
    cases hb : lmB l
    · rw [hb] at h3; simp at h3
    · rfl
  have hg : (decide (1 ≤ len) && decide (len ≤ 48)) = true := by
    cases hb : (decide (1 ≤ len) && decide (len ≤ 48))
    · rw [hb] at h4; simp at h4
    · rfl
  simp only [Bool.and_eq_true, decide_eq_true_eq] at hg
  exact ⟨fcE_ok h1, sgE_ok h2, hl, hg.1, hg.2, hn⟩
def gapV (f : List (List Hr)) (seen : List Sg) (l : Lm) (len : Int) : Int := if winE f seen l len = 0 then (gapM (surB l) len.toNat (hoursN f) (scsM seen f) : Nat) else 0
set_option maxHeartbeats 4000000 in
set_option maxRecDepth 100000 in
theorem gapP_any (f : List (List Hr)) (A : Option Addr) (n c : Nat) (seen : List Sg) (SA : Option Addr) (m sc : Nat) (l : Lm) (len : Int) (w : World) (h : FIn w f A n seen SA m) :
    Calls Tryz.prog 15 #[.agg #[.slice A n c], .slice SA m sc, l.val, .int .i64 len] w fun e w' => e = .returned (.tuple #[.int .i64 (gapV f seen l len), .int .i64 (winE f seen l len)]) ∧ Ext w w' := by
  have HW := hid (fun (W : World) (hW : Ext w W) => beginWin_any f A n c seen SA m sc l len W (h.ext hW))
  unfold gapV
  by_cases hr : winE f seen l len = 0
  · have ok := winE_ok hr
    have hN := h.hours
    have hsl := scsM_le seen f
    have hfl := h.hn
    have hm := h.hm
    have hall := scsM_all (seen := seen) ok.fc
    obtain ⟨ln, rfl⟩ : ∃ ln : Nat, len = ln := ⟨len.toNat, by have := ok.lo; omega⟩
    have hlo := ok.lo
    have hhi := ok.hi
    have HG := hid (fun (A1 : Option Addr) (n1 c1 : Nat) (A2 : Option Addr) (c2 : Nat) (W : World) (hW : ScsAt W A2 (scsM seen f)) => gap_any (hoursN f) hN A1 n1 c1 A2 _ c2 l ln (by omega) (by omega) (scsM seen f) rfl (by omega) hall W hW)
    unfold WinIs at HW
    rw [if_pos hr]
    rw [hr] at HW ⊢
    have e1 : ((ln : Int)).toNat = ln := by omega
    rw [e1]
    clear hr ok hall hlo hhi h e1
    generalize gapM (surB l) ln (hoursN f) (scsM seen f) = gv at *
    unfold winI Lm.val at *
    unfold winCells at HG
    obtain ⟨wi, ra, tl, th⟩ := l
    dsimp only at *
    go_enter Tryz.func15, Tryz.ntmps15
    go_wp2_with fail
    refine Calls.mono (HW.out _ (by (repeat' (first | with_reducible assumption | with_reducible exact Ext.refl _ | with_reducible refine Ext.alloc ?_ _ | with_reducible refine Ext.set ?_ ?_ _ | with_reducible refine Ext.drew ?_ | with_reducible refine Ext.drewN ?_ _ | with_reducible refine Ext.trans ?_ (by assumption) | (dsimp only; omega))))) ?_
    rintro e w2 ⟨N, A1, n1, c1, A2, n2, c2, rfl, hOV, hE⟩
    have E2 : Ext w w2 := by (repeat' (first | with_reducible assumption | with_reducible exact Ext.refl _ | with_reducible refine Ext.alloc ?_ _ | with_reducible refine Ext.set ?_ ?_ _ | with_reducible refine Ext.drew ?_ | with_reducible refine Ext.drewN ?_ _ | with_reducible refine Ext.trans ?_ (by assumption) | (dsimp only; omega)))
    obtain ⟨rfl, hO1, hO2⟩ := hOV.1 rfl
    obtain ⟨A3, c3, e3, -, hsc, -⟩ := hO2.form
    injection e3 with e3 e4 e5
    subst e3 e4 e5
    have HG2 := hid (fun (W : World) (hW : Ext w2 W) => HG.out A1 n1 c1 A2 c2 W (hsc.ext hW))
    clear HG HW hOV hO1 hO2 hsc hE
    generalize hoursN f = N at *
    generalize (scsM seen f).length = n2 at *
    have B2 := hid (show Blk _ _ _ _ from blk_last w2 (.cells #[.int .i64 0, .slice none 0 0, .slice none 0 0, .int .i64 0, .int .i64 0, .int .i64 0, .int .i64 0, .int .i64 0] 117))
    have HO1 := hid (win_one N A1 n1 c1 A2 n2 c2 wi ra tl th ln)
    dsimp only
    iterate 13 (first | go_values | go_skip | go_guarded | go_step | go_upon | go_back)
    refine wpList_store_mid rfl 117 _ _ rfl w2.heap.size 0 (#[.int .i64 (N : Int), .slice A1 n1 c1, .slice A2 n2 c2, .int .i64 wi, .int .i64 ra, .int .i64 tl, .int .i64 th, .int .i64 (ln : Int)]) rfl rfl (blk_there B2.out rfl) infoWin HO1.out ?_
    have R := hid (B2.out.fill [.int .i64 (N : Int), .slice A1 n1 c1, .slice A2 n2 c2, .int .i64 wi, .int .i64 ra, .int .i64 tl, .int .i64 th, .int .i64 (ln : Int)] 0)
    have EZ := ext_setCells (ext_alloc1 w2 (.cells #[.int .i64 0, .slice none 0 0, .slice none 0 0, .int .i64 0, .int .i64 0, .int .i64 0, .int .i64 0, .int .i64 0] 117)) (b := w2.heap.size) (Nat.le_refl _) [.int .i64 (N : Int), .slice A1 n1 c1, .slice A2 n2 c2, .int .i64 wi, .int .i64 ra, .int .i64 tl, .int .i64 th, .int .i64 (ln : Int)] 0
    obtain ⟨Z, hZ⟩ : ∃ Z, (w2.alloc (.cells #[.int .i64 0, .slice none 0 0, .slice none 0 0, .int .i64 0, .int .i64 0, .int .i64 0, .int .i64 0, .int .i64 0] 117)).setCells w2.heap.size 0 [.int .i64 (N : Int), .slice A1 n1 c1, .slice A2 n2 c2, .int .i64 wi, .int .i64 ra, .int .i64 tl, .int .i64 th, .int .i64 (ln : Int)] = Z := ⟨_, rfl⟩
    rw [hZ] at R EZ
    have hZ2 : (w2.alloc (.cells #[.int .i64 0, .slice none 0 0, .slice none 0 0, .int .i64 0, .int .i64 0, .int .i64 0, .int .i64 0, .int .i64 0] 117)).setCells w2.heap.size 0 (#[.int .i64 (N : Int), .slice A1 n1 c1, .slice A2 n2 c2, .int .i64 wi, .int .i64 ra, .int .i64 tl, .int .i64 th, .int .i64 (ln : Int)] : Array Value).toList = Z := hZ
    first | rw [hZ2] | rw [hZ]
    clear hZ hZ2 B2
    simp only [fillA, List.setIfInBounds_toArray, List.set_cons_zero, List.set_cons_succ] at R
    obtain ⟨r0, r1, r2, r3, r4, r5, r6, r7⟩ : _ ∧ _ ∧ _ ∧ _ ∧ _ ∧ _ ∧ _ ∧ _ := ⟨R.out.cell 0, R.out.cell 1, R.out.cell 2, R.out.cell 3, R.out.cell 4, R.out.cell 5, R.out.cell 6, R.out.cell 7⟩
    have rz := R.out.lt
    simp only [List.getElem?_toArray, List.getElem?_cons_zero, List.getElem?_cons_succ] at r0 r1 r2 r3 r4 r5 r6 r7
    have HG3 := hid (HG2.out Z EZ)
    have HEZ := hid (E2.trans EZ)
    clear HG2 EZ E2 R HO1
    go_wp2_with fail
    refine Calls.mono HG3.out ?_
    rintro e w4 ⟨rfl, hE4⟩
    dsimp only
    have HE4 := hid (HEZ.out.trans hE4)
    clear hE4
    go_wp2
    go_ret2
    exact ⟨rfl, HE4.out⟩
  · rw [if_neg hr]
    unfold WinIs at HW
    generalize winE f seen l len = r at *
    unfold winI Lm.val at *
    obtain ⟨wi, ra, tl, th⟩ := l
    dsimp only at *
    clear h
    go_enter Tryz.func15, Tryz.ntmps15
    go_wp2_with fail
    refine Calls.mono (HW.out _ (by (repeat' (first | with_reducible assumption | with_reducible exact Ext.refl _ | with_reducible refine Ext.alloc ?_ _ | with_reducible refine Ext.set ?_ ?_ _ | with_reducible refine Ext.drew ?_ | with_reducible refine Ext.drewN ?_ _ | with_reducible refine Ext.trans ?_ (by assumption) | (dsimp only; omega))))) ?_
    rintro e w2 ⟨N, A1, n1, c1, A2, n2, c2, rfl, hOV, hE⟩
    have E2 : Ext w w2 := by (repeat' (first | with_reducible assumption | with_reducible exact Ext.refl _ | with_reducible refine Ext.alloc ?_ _ | with_reducible refine Ext.set ?_ ?_ _ | with_reducible refine Ext.drew ?_ | with_reducible refine Ext.drewN ?_ _ | with_reducible refine Ext.trans ?_ (by assumption) | (dsimp only; omega)))
    clear hOV HW hE
    have HO1 := hid (win_one N A1 n1 c1 A2 n2 c2 wi ra tl th len)
    have B2 := hid (show Blk _ _ _ _ from blk_last w2 (.cells #[.int .i64 0, .slice none 0 0, .slice none 0 0, .int .i64 0, .int .i64 0, .int .i64 0, .int .i64 0, .int .i64 0] 117))
    dsimp only
    iterate 13 (first | go_values | go_skip | go_guarded | go_step | go_upon | go_back)
    refine wpList_store_mid rfl 117 _ _ rfl w2.heap.size 0 (#[.int .i64 (N : Int), .slice A1 n1 c1, .slice A2 n2 c2, .int .i64 wi, .int .i64 ra, .int .i64 tl, .int .i64 th, .int .i64 len]) rfl rfl (blk_there B2.out rfl) infoWin HO1.out ?_
    have EZ := hid (E2.trans (ext_setCells (ext_alloc1 w2 (.cells #[.int .i64 0, .slice none 0 0, .slice none 0 0, .int .i64 0, .int .i64 0, .int .i64 0, .int .i64 0, .int .i64 0] 117)) (b := w2.heap.size) (Nat.le_refl _) [.int .i64 (N : Int), .slice A1 n1 c1, .slice A2 n2 c2, .int .i64 wi, .int .i64 ra, .int .i64 tl, .int .i64 th, .int .i64 len] 0))
    obtain ⟨Z, hZ⟩ : ∃ Z, (w2.alloc (.cells #[.int .i64 0, .slice none 0 0, .slice none 0 0, .int .i64 0, .int .i64 0, .int .i64 0, .int .i64 0, .int .i64 0] 117)).setCells w2.heap.size 0 [.int .i64 (N : Int), .slice A1 n1 c1, .slice A2 n2 c2, .int .i64 wi, .int .i64 ra, .int .i64 tl, .int .i64 th, .int .i64 len] = Z := ⟨_, rfl⟩
    rw [hZ] at EZ
    have hZ2 : (w2.alloc (.cells #[.int .i64 0, .slice none 0 0, .slice none 0 0, .int .i64 0, .int .i64 0, .int .i64 0, .int .i64 0, .int .i64 0] 117)).setCells w2.heap.size 0 (#[.int .i64 (N : Int), .slice A1 n1 c1, .slice A2 n2 c2, .int .i64 wi, .int .i64 ra, .int .i64 tl, .int .i64 th, .int .i64 len] : Array Value).toList = Z := hZ
    first | rw [hZ2] | rw [hZ]
    clear hZ hZ2 B2 HO1 E2
    go_wp2
    go_ret2
    exact ⟨rfl, EZ.out⟩
end Go.Proofs.YtecamnhnjmldcaaGreatDoor
/- spans. -/
set_option linter.unusedSimpArgs false
set_option linter.unusedVariables false
namespace Go.Proofs.YtecamnhnjmldcaaGreatDoor
open Go.RowKit
theorem infoSp2 : (Tryz.prog.info? 27).map (fun i => (i.zero, i.size, i.bytes)) = some (some (.agg #[.int .i64 0, .int .i64 0]), 2, 16) := by kernel_rfl
theorem wpList_app1Sp {ops : Array Oper} {rest : List Oper} {o : Oper} {a : Act} {Q : Exit → Act → World → Prop} (w : World) (hg : o.guard = none) (s x : Operand)
    (hop : o.op = Op.call { callee := Callee.builtin Builtin.append, args := #[s, x], argTypes := #[35, 35] }) (B : Nat) (v : Value) (xs : List (Int × Int)) (hs : a.eval s = v) (hown : Ownl 27 2 gSp w B v xs)
    (z : Nat) (y : Int × Int) (hx : a.eval x = .slice (some ⟨z, 0, none⟩) 1 1) (hy : Blk w z 27 #[.int .i64 y.1, .int .i64 y.2]) (hl : xs.length ≤ 10000) (hB : B ≤ w.heap.size)
    (hK : ∀ v' w', Ownl 27 2 gSp w' B v' (xs ++ [y]) → w.grownBy w' v.ownBlock → wpList Tryz.prog ops Q rest (a.put o.dst v') w') : wpList Tryz.prog ops Q (o :: rest) a w := by
  obtain ⟨i0, hi, hz0, hz1, hz2⟩ := info_parts infoSp2
  refine wpList_append_own w hg s x 35 hop B 27 i0 _ 2 16 Tryz.underlying35 hi hz0 hz1 hz2 rfl (by decide) v xs.length (xs.flatMap gSp) hs hown ⟨z, 0, none⟩ 1 1 (gSp y) hx rfl ?_ (oneSp y) (by unfold maxLen; omega) (by omega) hB (fun v' w' h1 h2 _ => hK v' w' (Ownl.snoc h1) h2)
  intro j u hj
  rw [addr_add, Nat.zero_add, hy.cell]
  match j, hj with
  | 0, hj => exact hj
  | 1, hj => exact hj
  | j + 2, hj => simp [gSp] at hj
theorem spansM_step (p : Nat → Bool) (k : Nat) : spansM p (k + 1) = if p k then spStep (spansM p k) k else spansM p k := by
  unfold spansM
  rw [List.range_succ, List.foldl_append]
  rfl
theorem spStep_nil (i : Nat) : spStep [] i = [((i : Int), (i : Int))] := rfl
theorem last_at {α : Type} (xs : List α) (d : α) (k : Nat) (h : xs.length = k + 1) : xs.getLast? = some (xs.getD k d) := by
  rw [List.getLast?_eq_getElem?, h, Nat.add_sub_cancel]
  simp [List.getD, List.getElem?_eq_getElem (show k < xs.length by omega)]
theorem dropLast_set {α : Type} (xs : List α) (k : Nat) (h : xs.length = k + 1) (y : α) : xs.dropLast ++ [y] = xs.set k y := by
  apply List.ext_getElem?
  intro j
  by_cases hj : j < k
  · rw [List.getElem?_append_left (by simp; omega), List.getElem?_set_ne (by omega), List.getElem?_dropLast, if_pos (by omega)]
  · by_cases hjk : j = k
    · subst hjk
      rw [List.getElem?_append_right (by simp; omega), List.getElem?_set_self (by omega)]
      simp [h]
    · rw [List.getElem?_eq_none (by simp; omega), List.getElem?_eq_none (by simp; omega)]
theorem spStep_join (acc : List (Int × Int)) (k i : Nat) (h : acc.length = k + 1) (hj : (acc.getD k (0, 0)).2 = (i : Int) - 1) : spStep acc i = acc.set k ((acc.getD k (0, 0)).1, (i : Int)) := by
  unfold spStep
  rw [last_at acc (0, 0) k h]
  generalize acc.getD k (0, 0) = s at *
  obtain ⟨a, b⟩ := s
  dsimp only at hj ⊢
  rw [if_pos hj, dropLast_set acc k h]
theorem spStep_new (acc : List (Int × Int)) (k i : Nat) (h : acc.length = k + 1) (hj : (acc.getD k (0, 0)).2 ≠ (i : Int) - 1) : spStep acc i = acc ++ [((i : Int), (i : Int))] := by
  unfold spStep
  rw [last_at acc (0, 0) k h]
  generalize acc.getD k (0, 0) = s at *
  obtain ⟨a, b⟩ := s
  dsimp only at hj ⊢
  rw [if_neg hj]
theorem spStep_len (acc : List (Int × Int)) (i : Nat) : (spStep acc i).length ≤ acc.length + 1 := by
  unfold spStep
  split
  · split
    · simp <;> omega
    · simp
  · simp
theorem spansM_len (p : Nat → Bool) : ∀ k, (spansM p k).length ≤ k
  | 0 => by simp [spansM]
  | k + 1 => by
    rw [spansM_step]
    have h1 := spansM_len p k
    have h2 := spStep_len (spansM p k) k
    split <;> omega
theorem set_same {α : Type} : ∀ (xs : List α) (k : Nat) (v : α), xs[k]? = some v → xs.set k v = xs
  | [], _, _, h => by simp at h
  | x :: xs, 0, v, h => by simp at h; simp [h]
  | x :: xs, k + 1, v, h => by simp at h; simp [set_same xs k v (by simpa using h)]
/-- To store the upper end of a span. -/
theorem Ownl.high {w : World} {B q cap k : Nat} {xs : List (Int × Int)} (h : Ownl 27 2 gSp w B (.slice (some ⟨q, 0, none⟩) xs.length cap) xs) (hk : k < xs.length) (y : Int) :
    Ownl 27 2 gSp (w.setCell ⟨q, k * 2 + 1, none⟩ (.int .i64 y)) B (.slice (some ⟨q, 0, none⟩) xs.length cap) (xs.set k ((xs.getD k (0, 0)).1, y)) ∧ w.grownBy (w.setCell ⟨q, k * 2 + 1, none⟩ (.int .i64 y)) (some q) := by
  obtain ⟨h1, h2⟩ := World.ownsRow.stored h (k * 2 + 1) (.int .i64 y)
  refine ⟨?_, h2⟩
  unfold Ownl
  rw [List.length_set, ← setL_flat gSp 2 (by decide) (fun _ => rfl) (0, 0) xs k ((xs.getD k (0, 0)).1, y) hk]
  have e : setL (xs.flatMap gSp) (k * 2) (gSp ((xs.getD k (0, 0)).1, y)) = (xs.flatMap gSp).set (k * 2 + 1) (.int .i64 y) := by
    show ((xs.flatMap gSp).set (k * 2) (.int .i64 (xs.getD k (0, 0)).1)).set (k * 2 + 1) (.int .i64 y) = _
    congr 1
    have hf := fm_at gSp 2 (fun _ => rfl) (0, 0) xs k 0 hk (by decide)
    rw [Nat.add_zero] at hf
    exact set_same _ _ _ hf
  rw [e]
  exact h1
end Go.Proofs.YtecamnhnjmldcaaGreatDoor
/- spans: the code. -/
set_option linter.unusedSimpArgs false
set_option linter.unusedVariables false
namespace Go.Proofs.YtecamnhnjmldcaaGreatDoor
open Go.RowKit
set_option maxRecDepth 100000 in
set_option maxHeartbeats 4000000 in
theorem spans_any (fn : Nat) (caps : Array Value) (eg : ∀ args w, (callFunc fn args).run Tryz.prog w = .ok (.enter fn args) w) (n : Nat) (hn : n ≤ 9000) (p : Nat → Bool) (w : World)
    (hf : ∀ (i : Nat) (W : World), Ext w W → i < n → Calls Tryz.prog fn (#[.int .i64 (i : Int)] ++ caps) W fun e W' => e = .returned (.bool (p i)) ∧ Ext W W') :
    Calls Tryz.prog 89 #[.int .i64 (n : Int), .func (.func fn) #[] caps] w fun e w' => ∃ A c, e = .returned (.slice A (spansM p n).length c) ∧ Ownl 27 2 gSp w' w.heap.size (.slice A (spansM p n).length c) (spansM p n) ∧ Ext w w' := by
  have HFF := hid hf
  have HEG := hid eg
  clear hf eg
  go_enter Tryz.func89, Tryz.ntmps89
  go_wp2
  go_loopw [5, 9] (fun v i wr => Ext w wr ∧ ∃ (k : Nat) (A : Option Addr) (c : Nat), k ≤ n ∧ i = .int .i64 k ∧ v = .slice A (spansM p k).length c ∧ Hid (Ownl 27 2 gSp wr w.heap.size (.slice A (spansM p k).length c) (spansM p k))) (fun _ i _ => n - (intOf i).toNat)
  case atStart => exact ⟨by (repeat' (first | with_reducible assumption | with_reducible exact Ext.refl _ | with_reducible refine Ext.alloc ?_ _ | with_reducible refine Ext.set ?_ ?_ _ | with_reducible refine Ext.drew ?_ | with_reducible refine Ext.drewN ?_ _ | with_reducible refine Ext.trans ?_ (by assumption) | (dsimp only; omega))), 0, none, 0, Nat.zero_le _, rfl, rfl, hid (Ownl.nil _ _)⟩
  case round =>
    obtain ⟨hE, k, A, c, hk, rfl, rfl, HV⟩ := hrel
    by_cases hlt : k < n
    · have HST := hid (spansM_step p k)
      have HLE := hid (spansM_len p k)
      have HF := hid (fun W hW => HFF.out k W hW hlt)
      generalize spansM p k = acc at *
      go_wp2_with fail
      rw [HEG.out]
      refine Calls.mono (HF.out _ (by (repeat' (first | with_reducible assumption | with_reducible exact Ext.refl _ | with_reducible refine Ext.alloc ?_ _ | with_reducible refine Ext.set ?_ ?_ _ | with_reducible refine Ext.drew ?_ | with_reducible refine Ext.drewN ?_ _ | with_reducible refine Ext.trans ?_ (by assumption) | (dsimp only; omega))))) ?_
      rintro e w3 ⟨rfl, hE3⟩
      dsimp only
      have V3 := hid (HV.out.ext hE3)
      have E3 := hid (hE.trans hE3)
      have s3 := hE.trans hE3
      have s4 := s3.size
      clear HV hE3 HF HFF s3
      cases hp : p k
      · rw [hp, if_neg (by decide)] at HST
        clear hp
        go_wp2
        go_roundw
        case rel => exact ⟨E3.out, k + 1, A, c, by omega, by go_num, by rw [HST.out], hid (by rw [HST.out]; exact V3.out)⟩
        case measure => simp [intOf]; omega
      · rw [hp, if_pos rfl] at HST
        clear hp
        rcases Nat.eq_zero_or_pos acc.length with h0 | h0
        · have hnil : acc = [] := List.length_eq_zero_iff.1 h0
          subst hnil
          rw [spStep_nil] at HST
          simp only [List.length_nil] at V3 ⊢
          clear h0 HLE
          go_wp2_with (at_builtin; refine Halt.mk ?_)
          unfold Halt
          have BN := hid (show Blk (w3.alloc (.cells #[.int .i64 (k : Int), .int .i64 (k : Int)] 27)) w3.heap.size 27 #[.int .i64 (k : Int), .int .i64 (k : Int)] from blk_last _ _)
          refine wpList_app1Sp _ rfl _ _ rfl w.heap.size (.slice A 0 c) [] rfl (V3.out.ext (ext_alloc1 _ _)) w3.heap.size ((k : Int), (k : Int)) rfl BN.out (by simp) (by simp; omega) ?_
          intro v4 w4 hO hg
          have E4 := hid (V3.out.extApp E3.out (Nat.le_refl _) hg)
          obtain ⟨A4, c4, rfl, -, -, -⟩ := (hO.form (by decide) (fun _ => rfl) (0, 0))
          have V4 := hid hO
          clear hO hg V3 E3 BN
          go_wp2
          go_roundw
          case rel => exact ⟨E4.out, k + 1, A4, c4, by omega, by go_num, by rw [HST.out]; simp, hid (by rw [HST.out]; exact V4.out)⟩
          case measure => simp [intOf]; omega
        · obtain ⟨L, hL⟩ : ∃ L, acc.length = L + 1 := ⟨acc.length - 1, by omega⟩
          have HLA := hid hL
          obtain ⟨q, qc, hq, hq1, hq2⟩ := V3.out.some_ h0
          injection hq with hA _ hc
          subst hA hc
          have h' : w3.ownsRow w.heap.size 27 2 (.slice (some ⟨q, 0, none⟩) acc.length c) acc.length (acc.flatMap gSp) := V3.out
          have ca := h'.cellAt (L * 2 + 1) (by omega)
          have cf := h'.frozenAt (L * 2 + 1)
          rw [fm_at gSp 2 (fun _ => rfl) (0, 0) acc L 1 (by omega) (by decide)] at ca
          have ca2 : w3.cell? ⟨q, L * 2 + 1, none⟩ = some (.int .i64 (acc.getD L (0, 0)).2) := ca
          have HJ := hid (fun hj => spStep_join acc L k hL hj)
          have HNW := hid (fun hj => spStep_new acc L k hL hj)
          have HHI := hid (fun y => Ownl.high V3.out (k := L) (by omega) y)
          clear ca h' h0
          obtain ⟨hh, hhe⟩ : ∃ hh, (acc.getD L (0, 0)).2 = hh := ⟨_, rfl⟩
          rw [hhe] at ca2 HJ HNW
          clear hhe
          have hLl : acc.length = L + 1 := hL
          have HLE2 := hid (show acc.length ≤ k from HLE.out)
          have hLa : acc.length ≤ 9000 := by have := HLE2.out; omega
          have hL9 : L ≤ 9000 := by have := HLE2.out; omega
          have hL10 : (L : Int) ≤ 9000 := by omega
          rw [hL] at V3 HHI ⊢
          clear hL hLl HLE
          by_cases hj : hh = (k : Int) - 1
          · have hd : (hh == (k : Int) - 1) = true := by simp [hj]
            have HS2 := hid (HST.out.trans (HJ.out hj))
            have V5 := hid (HHI.out (k : Int)).1
            have G5 := hid (HHI.out (k : Int)).2
            have XE := hid (E3.out.set (p := ⟨q, L * 2 + 1, none⟩) hq1 (.int .i64 (k : Int)))
            clear HJ HNW HHI HST hj
            go_wp2
            go_roundw
            case rel => exact ⟨XE.out, k + 1, some ⟨q, 0, none⟩, c, by omega, by go_num, by rw [HS2.out, List.length_set, HLA.out], hid (by rw [HS2.out, List.length_set, HLA.out]; have hv := V5.out; exact hv)⟩
            case measure => simp [intOf]; omega
          · have hd : (hh == (k : Int) - 1) = false := beq_eq_false_iff_ne.2 hj
            have HS2 := HNW.out hj
            rw [HS2] at HST
            clear HJ HNW HHI HS2 hj
            go_wp2_with (at_builtin; refine Halt.mk ?_)
            unfold Halt
            have BN := hid (show Blk (w3.alloc (.cells #[.int .i64 (k : Int), .int .i64 (k : Int)] 27)) w3.heap.size 27 #[.int .i64 (k : Int), .int .i64 (k : Int)] from blk_last _ _)
            refine wpList_app1Sp _ rfl _ _ rfl w.heap.size (.slice (some ⟨q, 0, none⟩) (L + 1) c) acc rfl (V3.out.ext (ext_alloc1 _ _)) w3.heap.size ((k : Int), (k : Int)) rfl BN.out (by omega) (by simp; omega) ?_
            intro v4 w4 hO hg
            have E4 := hid (V3.out.extApp E3.out (Nat.le_refl _) hg)
            obtain ⟨A4, c4, rfl, -, -, -⟩ := (hO.form (by decide) (fun _ => rfl) (0, 0))
            have V4 := hid hO
            clear hO hg V3 E3 BN
            go_wp2
            go_roundw
            case rel => exact ⟨E4.out, k + 1, A4, c4, by omega, by go_num, by rw [HST.out]; simp, hid (by rw [HST.out]; exact V4.out)⟩
            case measure => simp [intOf]; omega
    · obtain rfl : k = n := by omega
      go_wp2
      go_ret
      exact ⟨A, c, rfl, HV.out, hE⟩
end Go.Proofs.YtecamnhnjmldcaaGreatDoor
