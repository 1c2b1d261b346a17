/- slices.Clone. -/
import Derived.Test.YtecamnhnjmldcaaGreatDoorB04
import Derived.Deep.MidRow
set_option linter.unusedSimpArgs false
set_option linter.unusedVariables false
namespace Go.Proofs.YtecamnhnjmldcaaGreatDoor
open Go.RowKit
theorem oneHr : ∀ y : Hr, ∀ u ∈ gHr y, u.oneCell' = true := by
  intro y u hu
  simp only [gHr, List.mem_cons, List.not_mem_nil, or_false] at hu
  rcases hu with rfl | rfl | rfl | rfl | rfl | rfl <;> rfl
theorem oneSp : ∀ y : Int × Int, ∀ u ∈ gSp y, u.oneCell' = true := by
  intro y u hu
  simp only [gSp, List.mem_cons, List.not_mem_nil, or_false] at hu
  rcases hu with rfl | rfl <;> rfl
theorem infoHr : (Tryz.prog.info? 143).map (fun i => (i.zero, i.size, i.bytes)) = some (some (.agg #[.int .i64 0, .int .i64 0, .int .i64 0, .int .i64 0, .int .i64 0, .int .i64 0]), 6, 48) := by kernel_rfl
set_option maxRecDepth 100000 in
set_option maxHeartbeats 1000000 in
theorem cloneHr_any (A : Option Addr) (n c : Nat) (xs : List Hr) (hn : xs.length = n) (hm : n ≤ 10000) (w : World) (hx : FlatAt 6 gHr zeroHr w A xs) :
    Calls Tryz.prog 150 #[.slice A n c] w fun e w' => ∃ v, e = .returned v ∧ Ownl 143 6 gHr w' w.heap.size v xs ∧ Ext w w' := by
  subst hn
  have HX := hid hx
  have hnil : ∀ (W : World) (a : Option Addr) (n c n' c' : Nat), (binOp .eql 90 (.slice a n c) (.slice none n' c')).run Tryz.prog W = .ok (.bool a.isNone) W := fun W a n c n' c' => Lib.run_eql_slice_nil W _ _ a n c n' c' Tryz.underlying90
  obtain ⟨i0, hi, hz0, hz1, hz2⟩ := info_parts infoHr
  cases A with
  | none =>
    have h0 : xs = [] := by
      rcases xs with _ | ⟨x, xs⟩
      · rfl
      · obtain ⟨b, o, e, _⟩ := hx (by simp)
        cases e
    subst h0
    clear hx
    go_enter Tryz.func150, Tryz.ntmps150
    go_wp2
    go_ret
    exact ⟨_, rfl, Ownl.nil _ _, by (repeat' (first | with_reducible assumption | with_reducible exact Ext.refl _ | with_reducible refine Ext.alloc ?_ _ | with_reducible refine Ext.set ?_ ?_ _ | with_reducible refine Ext.drew ?_ | with_reducible refine Ext.drewN ?_ _ | with_reducible refine Ext.trans ?_ (by assumption) | (dsimp only; omega)))⟩
  | some a =>
    clear hx
    go_enter Tryz.func150, Tryz.ntmps150
    go_wp2_with (at_builtin; refine Halt.mk ?_)
    unfold Halt
    refine wpList_plain rfl fun _ hK => wp_appendAllG zeroHr _ _ _ 90 143 rfl Tryz.underlying90 hi hz0 hz1 hz2 rfl (by decide) (by decide) (fun _ => rfl) (oneHr) w.heap.size w.heap.size (some a) c xs rfl (blk_last _ _) (Nat.le_refl _) rfl ?_ hm ?_
    · intro hne
      obtain ⟨b, off, hA, hb, hc⟩ := HX.out hne
      exact ⟨b, off, hA, Nat.lt_of_lt_of_le hb (ext_alloc1 _ _).size, fun k hk r hr => ((ext_alloc1 w _).cell hb).trans (hc k hk r hr)⟩
    · intro v' w' ho hg
      refine hK _ _ ?_
      have HO := hid ho
      have HE := hid (show Ext w w' from Below.grown (ext_alloc1 w _) hg (ext_alloc1 w _).size (fun j ej => by injection ej with ej; omega))
      clear ho hg
      go_wp2
      go_ret
      exact ⟨_, rfl, HO.out, HE.out⟩
theorem infoSp : (Tryz.prog.info? 27).map (fun i => (i.zero, i.size, i.bytes)) = some (some (.agg #[.int .i64 0, .int .i64 0]), 2, 16) := by kernel_rfl
set_option maxRecDepth 100000 in
set_option maxHeartbeats 1000000 in
theorem cloneSp_any (A : Option Addr) (n c : Nat) (xs : List (Int × Int)) (hn : xs.length = n) (hm : n ≤ 10000) (w : World) (hx : FlatAt 2 gSp (0, 0) w A xs) :
    Calls Tryz.prog 111 #[.slice A n c] w fun e w' => ∃ v, e = .returned v ∧ Ownl 27 2 gSp w' w.heap.size v xs ∧ Ext w w' := by
  subst hn
  have HX := hid hx
  have hnil : ∀ (W : World) (a : Option Addr) (n c n' c' : Nat), (binOp .eql 35 (.slice a n c) (.slice none n' c')).run Tryz.prog W = .ok (.bool a.isNone) W := fun W a n c n' c' => Lib.run_eql_slice_nil W _ _ a n c n' c' Tryz.underlying35
  obtain ⟨i0, hi, hz0, hz1, hz2⟩ := info_parts infoSp
  cases A with
  | none =>
    have h0 : xs = [] := by
      rcases xs with _ | ⟨x, xs⟩
      · rfl
      · obtain ⟨b, o, e, _⟩ := hx (by simp)
        cases e
    subst h0
    clear hx
    go_enter Tryz.func111, Tryz.ntmps111
    go_wp2
    go_ret
    exact ⟨_, rfl, Ownl.nil _ _, by (repeat' (first | with_reducible assumption | with_reducible exact Ext.refl _ | with_reducible refine Ext.alloc ?_ _ | with_reducible refine Ext.set ?_ ?_ _ | with_reducible refine Ext.drew ?_ | with_reducible refine Ext.drewN ?_ _ | with_reducible refine Ext.trans ?_ (by assumption) | (dsimp only; omega)))⟩
  | some a =>
    clear hx
    go_enter Tryz.func111, Tryz.ntmps111
    go_wp2_with (at_builtin; refine Halt.mk ?_)
    unfold Halt
    refine wpList_plain rfl fun _ hK => wp_appendAllG (0, 0) _ _ _ 35 27 rfl Tryz.underlying35 hi hz0 hz1 hz2 rfl (by decide) (by decide) (fun _ => rfl) (oneSp) w.heap.size w.heap.size (some a) c xs rfl (blk_last _ _) (Nat.le_refl _) rfl ?_ hm ?_
    · intro hne
      obtain ⟨b, off, hA, hb, hc⟩ := HX.out hne
      exact ⟨b, off, hA, Nat.lt_of_lt_of_le hb (ext_alloc1 _ _).size, fun k hk r hr => ((ext_alloc1 w _).cell hb).trans (hc k hk r hr)⟩
    · intro v' w' ho hg
      refine hK _ _ ?_
      have HO := hid ho
      have HE := hid (show Ext w w' from Below.grown (ext_alloc1 w _) hg (ext_alloc1 w _).size (fun j ej => by injection ej with ej; omega))
      clear ho hg
      go_wp2
      go_ret
      exact ⟨_, rfl, HO.out, HE.out⟩
end Go.Proofs.YtecamnhnjmldcaaGreatDoor
/- To store an element into a slice of the call's own. -/
set_option linter.unusedSimpArgs false
set_option linter.unusedVariables false
namespace Go.Proofs.YtecamnhnjmldcaaGreatDoor
open Go.RowKit
def setL : List Value → Nat → List Value → List Value
  | l, _, [] => l
  | l, o, v :: r => setL (l.set o v) (o + 1) r
theorem setL_len : ∀ (vs : List Value) (l : List Value) (o : Nat), (setL l o vs).length = l.length
  | [], _, _ => rfl
  | v :: r, l, o => by rw [setL, setL_len r, List.length_set]
theorem setL_out : ∀ (vs : List Value) (l : List Value) (o j : Nat), j < o ∨ o + vs.length ≤ j → (setL l o vs)[j]? = l[j]?
  | [], _, _, _, _ => rfl
  | v :: r, l, o, j, h => by
    rw [setL, setL_out r _ _ j (by simp at h; omega), List.getElem?_set_ne (by simp at h; omega)]
theorem setL_in : ∀ (vs : List Value) (l : List Value) (o i : Nat), i < vs.length → o + i < l.length → (setL l o vs)[o + i]? = vs[i]?
  | [], _, _, _, h, _ => by simp at h
  | v :: r, l, o, 0, _, h2 => by
    rw [setL, setL_out r _ _ _ (by omega), Nat.add_zero, List.getElem?_set_self (by omega)]
    rfl
  | v :: r, l, o, i + 1, h1, h2 => by
    rw [setL, show o + (i + 1) = o + 1 + i by omega, setL_in r _ _ i (by simpa using h1) (by rw [List.length_set]; omega)]
    rfl
theorem setL_flat {α : Type} (g : α → List Value) (s : Nat) (hs : 0 < s) (hg : ∀ x, (g x).length = s) (d : α) (xs : List α) (k : Nat) (y : α) (hk : k < xs.length) : setL (xs.flatMap g) (k * s) (g y) = (xs.set k y).flatMap g := by
  have hl : ∀ zs : List α, (zs.flatMap g).length = zs.length * s := fm_len g s hg
  apply List.ext_getElem?
  intro j
  by_cases hj : j < xs.length * s
  · have hq : j / s < xs.length := by rw [Nat.div_lt_iff_lt_mul hs]; exact hj
    have hr : j % s < s := Nat.mod_lt _ hs
    have e : j / s * s + j % s = j := by rw [Nat.mul_comm]; exact Nat.div_add_mod j s
    have h2 := fm_at g s hg d (xs.set k y) (j / s) (j % s) (by rw [List.length_set]; exact hq) hr
    rw [e] at h2
    rw [h2]
    by_cases hjk : j / s = k
    · have h3 := setL_in (g y) (xs.flatMap g) (k * s) (j % s) (by rw [hg]; exact hr) (by rw [hl, ← hjk, e]; exact hj)
      rw [← hjk, e] at h3
      rw [← hjk, h3]
      simp [List.getD, List.getElem?_set_self hq]
    · have h1 := fm_at g s hg d xs (j / s) (j % s) hq hr
      rw [e] at h1
      rw [setL_out, h1]
      · congr 1
        have hne : k ≠ j / s := fun h => hjk h.symm
        simp [List.getD, List.getElem?_set_ne hne]
      · rw [hg]
        rcases Nat.lt_or_gt_of_ne hjk with h | h
        · left
          have : (j / s + 1) * s ≤ k * s := Nat.mul_le_mul_right s h
          rw [Nat.succ_mul] at this
          omega
        · right
          have : (k + 1) * s ≤ j / s * s := Nat.mul_le_mul_right s h
          rw [Nat.succ_mul] at this
          omega
  · rw [List.getElem?_eq_none (by rw [setL_len, hl]; omega), List.getElem?_eq_none (by rw [hl, List.length_set]; omega)]
theorem ownsRow_setCells {e : TypeId} {s q n cap B : Nat} : ∀ (vs : List Value) (o : Nat) (xs : List Value) (w : World), w.ownsRow B e s (.slice (some ⟨q, 0, none⟩) n cap) n xs → (w.setCells q o vs).ownsRow B e s (.slice (some ⟨q, 0, none⟩) n cap) n (setL xs o vs) ∧ w.grownBy (w.setCells q o vs) (some q)
  | [], _, _, w, h => ⟨h, ⟨rfl, rfl, rfl, Nat.le_refl _, fun _ _ _ => rfl⟩⟩
  | v :: r, o, xs, w, h => by
    obtain ⟨h1, g1⟩ := h.stored o v
    obtain ⟨h2, g2⟩ := ownsRow_setCells r (o + 1) _ _ h1
    exact ⟨h2, g1.trans g2⟩
theorem Ownl.put {α : Type} {e : TypeId} {s : Nat} {g : α → List Value} {w : World} {B q cap : Nat} {xs : List α} (hs : 0 < s) (hg : ∀ x, (g x).length = s) (d : α) (h : Ownl e s g w B (.slice (some ⟨q, 0, none⟩) xs.length cap) xs) {k : Nat} (hk : k < xs.length) (y : α) :
    Ownl e s g (w.setCells q (k * s) (g y)) B (.slice (some ⟨q, 0, none⟩) xs.length cap) (xs.set k y) ∧ w.grownBy (w.setCells q (k * s) (g y)) (some q) := by
  obtain ⟨h1, h2⟩ := ownsRow_setCells (g y) (k * s) _ w h
  rw [setL_flat g s hs hg d xs k y hk] at h1
  refine ⟨?_, h2⟩
  unfold Ownl
  rw [List.length_set]
  exact h1
theorem Ownl.there {α : Type} {e : TypeId} {s : Nat} {g : α → List Value} {w : World} {B q cap : Nat} {xs : List α} (hs : 0 < s) (hg : ∀ x, (g x).length = s) (h : Ownl e s g w B (.slice (some ⟨q, 0, none⟩) xs.length cap) xs) {k : Nat} (hk : k < xs.length) : w.there q (k * s) s := by
  intro j hj
  have hlt : k * s + j < xs.length * s := by
    have : (k + 1) * s ≤ xs.length * s := Nat.mul_le_mul_right s hk
    rw [Nat.succ_mul] at this
    omega
  have h' : w.ownsRow B e s (.slice (some ⟨q, 0, none⟩) xs.length cap) xs.length (xs.flatMap g) := h
  refine ⟨?_, h'.frozenAt _⟩
  rw [h'.cellAt _ hlt, List.getElem?_eq_getElem (by rw [fm_len g s hg]; exact hlt)]
  rfl
theorem Ownl.some_ {α : Type} {e : TypeId} {s : Nat} {g : α → List Value} {w : World} {B : Nat} {v : Value} {xs : List α} (h : Ownl e s g w B v xs) (hne : 0 < xs.length) : ∃ q cap, v = .slice (some ⟨q, 0, none⟩) xs.length cap ∧ B ≤ q ∧ q < w.heap.size := by
  rcases h.2 with ⟨h2, h0⟩ | ⟨q, cap, cur, a1, a2, a3, a4, a5, a6, a7⟩
  · omega
  · exact ⟨q, cap, a1, a2, (Array.getElem?_eq_some_iff.1 a3).1⟩
end Go.Proofs.YtecamnhnjmldcaaGreatDoor
/- What observations leave of a scenario: the code. -/
set_option linter.unusedSimpArgs false
set_option linter.unusedVariables false
namespace Go.Proofs.YtecamnhnjmldcaaGreatDoor
open Go.RowKit
theorem obsM_len (seen : List Sg) : ∀ hs : List Hr, (obsM seen hs).length = hs.length := by
  induction seen with
  | nil => intro hs; rfl
  | cons s t ih => intro hs; show (obsM t (hs.set s.hour.toNat (justM s))).length = _; rw [ih, List.length_set]
theorem obsM_snoc (seen : List Sg) (k : Nat) (hk : k < seen.length) (hs : List Hr) : obsM (seen.take (k + 1)) hs = (obsM (seen.take k) hs).set (seen.getD k zeroSg).hour.toNat (justM (seen.getD k zeroSg)) := by
  have e : seen.getD k zeroSg = seen[k] := by simp [List.getD, List.getElem?_eq_getElem hk]
  rw [List.take_succ_eq_append_getElem hk, e]
  unfold obsM
  rw [List.foldl_append]
  rfl
theorem grown_cell {w w' : World} {row : Option Nat} (hg : w.grownBy w' row) {b o : Nat} (hb : b < w.heap.size) (hne : some b ≠ row) : w'.cell? ⟨b, o, none⟩ = w.cell? ⟨b, o, none⟩ := by
  unfold World.cell?
  simp only [hg.block b hb hne]
theorem infoHr38 : (Tryz.prog.info? 143).map (·.size) = some 6 := by kernel_rfl
set_option maxHeartbeats 2000000 in
set_option maxRecDepth 100000 in
theorem observed_any (hs : List Hr) (A : Option Addr) (n c : Nat) (hn : hs.length = n) (hm : n ≤ 10000) (seen : List Sg) (SA : Option Addr) (m sc : Nat) (hl : seen.length = m) (hm2 : m ≤ 1000) (hok : ∀ s ∈ seen, 0 ≤ s.hour ∧ s.hour < n)
    (w : World) (hx : HrsAt w A hs) (hss : SgsAt w SA seen) :
    Calls Tryz.prog 129 #[.agg #[.slice A n c], .slice SA m sc] w fun e w' => ∃ v, e = .returned (.agg #[v]) ∧ Ownl 143 6 gHr w' w.heap.size v (obsM seen hs) ∧ Ext w w' := by
  have HS := hid hss
  have HL := hid hl
  have HOK := hid hok
  have HC := hid (fun (W : World) (hW : Ext w W) => cloneHr_any A n c hs hn hm W (flat_hrs.2 (hx.ext hW)))
  have HLN := hid (fun k => (obsM_len (seen.take k) hs).trans hn)
  have t1 := blk_last w (.cells #[.slice A n c] 92)
  have t2 := blk_last (w.alloc (.cells #[.slice A n c] 92)) (.cells #[.slice none 0 0] 92)
  rw [World.size_alloc] at t2
  have B1 := hid (blk_old t1 (.cells #[.slice none 0 0] 92))
  have B2 := hid t2
  clear hss hl hok hx hn t1 t2
  go_enter Tryz.func129, Tryz.ntmps129
  go_wp2_with fail
  refine Calls.mono (HC.out _ (by (repeat' (first | with_reducible assumption | with_reducible exact Ext.refl _ | with_reducible refine Ext.alloc ?_ _ | with_reducible refine Ext.set ?_ ?_ _ | with_reducible refine Ext.drew ?_ | with_reducible refine Ext.drewN ?_ _ | with_reducible refine Ext.trans ?_ (by assumption) | (dsimp only; omega))))) ?_
  rintro e w2 ⟨v, rfl, hO, hE⟩
  have C1 := hid (show Blk _ _ _ _ from blk_ext B1.out hE)
  have C2 := hid (show Blk _ _ _ _ from blk_ext B2.out hE)
  have E2 : Ext w w2 := by (repeat' (first | with_reducible assumption | with_reducible exact Ext.refl _ | with_reducible refine Ext.alloc ?_ _ | with_reducible refine Ext.set ?_ ?_ _ | with_reducible refine Ext.drew ?_ | with_reducible refine Ext.drewN ?_ _ | with_reducible refine Ext.trans ?_ (by assumption) | (dsimp only; omega)))
  simp only [World.size_alloc] at hO
  obtain ⟨CA, cc, rfl, -, -, -⟩ := id (hO.form (by decide) (fun _ => rfl) zeroHr)
  have hlen : hs.length = n := HLN.out 0
  rw [hlen] at hO ⊢
  clear hlen
  have HO := hid hO
  have k0 := C1.out.cell 0
  have k1 := C1.out.fro 0
  have z1 := C1.out.lt
  clear B1 B2 hE HC hO
  simp only [List.getElem?_toArray, List.getElem?_cons_zero] at k0
  go_wp2
  go_loopw [13] (fun i wr => Ext w wr ∧ ∃ (k : Nat) (v : Value), k ≤ m ∧ i = .int .i64 k ∧ Hid (Blk wr w.heap.size 92 #[v]) ∧ Hid (Blk wr (w.heap.size + 1) 92 #[.slice none 0 0]) ∧ Hid (Ownl 143 6 gHr wr (w.heap.size + 2) v (obsM (seen.take k) hs))) (fun i _ => m - (intOf i).toNat)
  case atStart =>
    exact ⟨E2.set (by dsimp only; omega) _, 0, _, Nat.zero_le _, rfl, hid (C1.out.setAt 0 _), hid (C2.out.other (by dsimp only; omega) _), hid (HO.out.other (by dsimp only; omega) _)⟩
  case round =>
    obtain ⟨hE, k, v, hk, rfl, D1, D2, HV⟩ := hrel
    have d1 := D1.out.cell 0
    have y1 := D1.out.lt
    have y2 := D2.out.lt
    simp only [List.getElem?_toArray, List.getElem?_cons_zero] at d1
    have d2 := D2.out.cell 0
    have f2 := D2.out.fro 0
    simp only [List.getElem?_toArray, List.getElem?_cons_zero] at d2
    clear k0 k1 z1 C1 C2 HO
    by_cases hlt : k < m
    · obtain ⟨b, off, rfl, hb, e0, e1, e2, e3⟩ := (HS.out.ext hE).at_ HL.out hlt
      have HST := hid (obsM_snoc seen k (by rw [HL.out]; exact hlt) hs)
      have hok := HOK.out _ (mem_at seen zeroSg k (by rw [HL.out]; exact hlt))
      have HLK := hid (HLN.out k)
      generalize seen.getD k zeroSg = s at *
      generalize obsM (seen.take k) hs = os at *
      obtain ⟨hr, wi, ra, te⟩ := s
      dsimp only at *
      obtain ⟨j, rfl⟩ : ∃ j : Nat, hr = j := ⟨hr.toNat, by omega⟩
      have hj : j < n := by omega
      obtain ⟨q, qc, rfl, hq1, hq2⟩ := HV.out.some_ (by rw [HLK.out]; omega)
      rw [HLK.out] at d1 D1
      have HV2 := hid (show Ownl 143 6 gHr wr (w.heap.size + 2) (.slice (some ⟨q, 0, none⟩) os.length qc) os from HV.out)
      have HTH := hid (Ownl.there (g := gHr) (s := 6) (by decide) (fun _ => rfl) HV2.out (k := j) (by rw [HLK.out]; exact hj))
      clear HV
      have hqw : ¬ w.heap.size = q := by omega
      have hqr : ¬ wr.heap.size = q := by omega
      go_wp2_with fail
      refine wp_abs (fun W => W.cell? ⟨wr.heap.size, 0, none⟩ = some (.int .i64 (j : Int)) ∧ W.cell? ⟨wr.heap.size, 1, none⟩ = some (.int .i64 wi) ∧ W.cell? ⟨wr.heap.size, 2, none⟩ = some (.int .i64 ra) ∧ W.cell? ⟨wr.heap.size, 3, none⟩ = some (.int .i64 te) ∧ W.cell? ⟨w.heap.size, 0, none⟩ = some (.slice (some ⟨q, 0, none⟩) n qc) ∧ wr.heap.size + 1 ≤ W.heap.size ∧ Ext wr W) ⟨by go_simp, by go_simp, by go_simp, by go_simp, by go_simp, by simp, by (repeat' (first | with_reducible assumption | with_reducible exact Ext.refl _ | with_reducible refine Ext.alloc ?_ _ | with_reducible refine Ext.set ?_ ?_ _ | with_reducible refine Ext.drew ?_ | with_reducible refine Ext.drewN ?_ _ | with_reducible refine Ext.trans ?_ (by assumption) | (dsimp only; omega)))⟩ ?_
      rintro W ⟨a0, a1, a2, a3, k0, hz, hEW⟩
      clear e0 e1 e2 e3 d1 d2 f2
      have hw0 : w.heap.size < W.heap.size := by omega
      have hw1 : wr.heap.size < W.heap.size := by omega
      have HVJ := hid (fun X => vJust_any wi ra te X)
      refine wp_region_held_drew (S := fun w' => ∀ b o, b < W.heap.size → ¬ b = q → w'.cell? ⟨b, o, none⟩ = W.cell? ⟨b, o, none⟩) (by kernel_rfl) ?hS0 (fun hHeld => ?_)
      case hS0 => exact fun _ _ _ _ => rfl
      refine tk1 (i := 0) (v := ?v0a) rfl ?y0a ?r0a
      case y0a => (intro w' hSw; (try dsimp only at hSw); go_simp; (try with_reducible rfl))
      try simp only [Act.put, sq1, sq2, sq3, sq4, sq5, sq6]
      refine tk1 (i := 1) (v := ?v1a) rfl ?y1a ?r1a
      case y1a => (intro w' hSw; (try dsimp only at hSw); go_simp; (try with_reducible rfl))
      try simp only [Act.put, sq1, sq2, sq3, sq4, sq5, sq6]
      refine tk1 (i := 2) (v := ?v2a) rfl ?y2a ?r2a
      case y2a => (intro w' hSw; (try dsimp only at hSw); go_simp; (try with_reducible rfl))
      try simp only [Act.put, sq1, sq2, sq3, sq4, sq5, sq6]
      refine tk1 (i := 3) (v := ?v3a) rfl ?y3a ?r3a
      case y3a => (intro w' hSw; (try dsimp only at hSw); go_simp; (try with_reducible rfl))
      try simp only [Act.put, sq1, sq2, sq3, sq4, sq5, sq6]
      refine tk1 (i := 4) (v := ?v4a) rfl ?y4a ?r4a
      case y4a => (intro w' hSw; (try dsimp only at hSw); go_simp; (try with_reducible rfl))
      try simp only [Act.put, sq1, sq2, sq3, sq4, sq5, sq6]
      refine tk1 (i := 5) (v := ?v5a) rfl ?y5a ?r5a
      case y5a => (intro w' hSw; (try dsimp only at hSw); go_simp; (try with_reducible rfl))
      try simp only [Act.put, sq1, sq2, sq3, sq4, sq5, sq6]
      refine wpAnyH_ready (rs := [6]) (by kernel_rfl) (by simp) ?_
      refine AllReadyH.cons (o := _) rfl (fun K hK => ?_) AllReadyH.nil
      go_simp
      refine Calls.mono (HVJ.out _) ?_
      rintro e w1 ⟨rfl, hE1⟩
      dsimp only
      have X1 : Ext W w1 := (Ext.drew (Ext.refl W)).trans hE1
      clear hHeld
      refine hK.out _ _ (fun b o hb _ => X1.cell (p := ⟨b, o, none⟩) hb) (fun hHeld => ?_)
      clear hK K
      try simp only [Act.put, sq1, sq2, sq3, sq4, sq5, sq6]
      refine tk1 (i := 7) (v := ?v7b) rfl ?y7b ?r7b
      case y7b => (intro w' hSw; (try dsimp only at hSw); go_simp; (try with_reducible rfl))
      try simp only [Act.put, sq1, sq2, sq3, sq4, sq5, sq6]
      have HX := hid (hEW.trans X1)
      have TH := hid (show w1.there q (j * 6) 6 from Ownl.there (g := gHr) (s := 6) (by decide) (fun _ => rfl) (HV2.out.ext HX.out) (k := j) (by rw [HLK.out]; exact hj))
      refine wpAnyH_ready (rs := [8]) (by kernel_rfl) (by simp) ?_
      refine AllReadyH.cons (o := _) rfl (fun K hK => ?_) AllReadyH.nil
      refine wp_store_mid 143 _ _ rfl q (j * 6) #[.int .i64 wi, .int .i64 wi, .int .i64 ra, .int .i64 ra, .int .i64 te, .int .i64 te] rfl rfl TH.out infoHr38 (all_oneCell_toArray (oneHr ⟨wi, wi, ra, ra, te, te⟩)) ?_
      have hp := Ownl.put (g := gHr) (s := 6) (by decide) (fun _ => rfl) zeroHr (HV2.out.ext HX.out) (k := j) (by rw [HLK.out]; exact hj) (⟨wi, wi, ra, ra, te, te⟩ : Hr)
      obtain ⟨Z, hZ⟩ : ∃ Z, w1.setCells q (j * 6) (#[.int .i64 wi, .int .i64 wi, .int .i64 ra, .int .i64 ra, .int .i64 te, .int .i64 te] : Array Value).toList = Z := ⟨_, rfl⟩
      have hp1 := hp.1
      have hp2 := hp.2
      change Ownl _ _ _ (w1.setCells q (j * 6) (#[.int .i64 wi, .int .i64 wi, .int .i64 ra, .int .i64 ra, .int .i64 te, .int .i64 te] : Array Value).toList) _ _ _ at hp1
      change w1.grownBy (w1.setCells q (j * 6) (#[.int .i64 wi, .int .i64 wi, .int .i64 ra, .int .i64 ra, .int .i64 te, .int .i64 te] : Array Value).toList) _ at hp2
      rw [hZ] at hp1 hp2 ⊢
      have P1 := hid hp1
      have P2 := hid hp2
      clear hp hp1 hp2 hZ TH
      have sz := X1.size
      refine hK.out _ _ (fun b' o hb' hne => (grown_cell P2.out (by omega) (fun e => hne (by injection e))).trans (X1.cell (p := ⟨b', o, none⟩) hb')) (fun hHeld => ?_)
      clear hK K
      try simp only [Act.put, sq1, sq2, sq3, sq4, sq5, sq6]
      clear hHeld
      refine wpAnyH_done (by kernel_rfl) ?_ _
      have Q1 := hid ((D1.out.ext HX.out).grown P2.out (by simp; omega))
      have Q2 := hid ((D2.out.ext HX.out).grown P2.out (by simp; omega))
      have QE := hid (show Ext w Z from Below.grown (hE.trans HX.out) P2.out (hE.trans HX.out).size (fun x ex => by injection ex with ex; omega))
      clear P2 D1 D2 X1 hE1 hEW HX sz
      go_wp2
      go_roundw
      case rel => exact ⟨QE.out, k + 1, _, by omega, by go_num, Q1, Q2, hid (by rw [HST.out, ← HLK.out]; exact P1.out)⟩
      case measure => simp [intOf]; omega
    · obtain rfl : k = m := by omega
      have hfin : obsM (seen.take k) hs = obsM seen hs := by rw [List.take_of_length_le (by rw [HL.out]; exact Nat.le_refl _)]
      rw [hfin] at HV
      obtain ⟨VA, vc, rfl, -, -, -⟩ := (HV.out.form (by decide) (fun _ => rfl) zeroHr)
      go_wp2
      refine bodyPost_ret (v := .agg #[.slice VA (obsM seen hs).length vc]) (by simp [results, Tryz.results129, go_sem, d1, d2]) rfl ⟨_, rfl, ?_, by (repeat' (first | with_reducible assumption | with_reducible exact Ext.refl _ | with_reducible refine Ext.alloc ?_ _ | with_reducible refine Ext.set ?_ ?_ _ | with_reducible refine Ext.drew ?_ | with_reducible refine Ext.drewN ?_ _ | with_reducible refine Ext.trans ?_ (by assumption) | (dsimp only; omega)))⟩
      exact (HV.out.other (by dsimp only; omega) _).low (by omega)
end Go.Proofs.YtecamnhnjmldcaaGreatDoor
