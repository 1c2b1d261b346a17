/- Batches of water: how much, and for how much fuel. -/
import Derived.Test.YtcfijidlbimckaaDoorWOk
set_option linter.unusedSimpArgs false
set_option linter.unusedVariables false
namespace Go.Proofs.YtcfijidlbimckaaDoor
open Go.RowKit
attribute [local go_sem] Oper.semAt_some
def litN (spr : List Spr) (is : List Nat) : Int := is.foldl (fun a i => a + (spr.getD i zeroSpr).low) 0
def fuelN (spr : List Spr) (is : List Nat) : Int := is.foldl (fun a i => a + (spr.getD i zeroSpr).fuel) 0
theorem litN_snoc (spr : List Spr) (is : List Nat) (i : Nat) : litN spr (is ++ [i]) = litN spr is + (spr.getD i zeroSpr).low := by unfold litN; rw [List.foldl_append]; rfl
theorem fuelN_snoc (spr : List Spr) (is : List Nat) (i : Nat) : fuelN spr (is ++ [i]) = fuelN spr is + (spr.getD i zeroSpr).fuel := by unfold fuelN; rw [List.foldl_append]; rfl
theorem sum_bd {f : Nat → Int} : ∀ (is : List Nat) (a : Int), (∀ i ∈ is, 0 ≤ f i ∧ f i ≤ 1000) → a ≤ is.foldl (fun a i => a + f i) a ∧ is.foldl (fun a i => a + f i) a ≤ a + 1000 * is.length
  | [], a, _ => by simp
  | i :: is, a, h => by
    have h1 := h i (by simp)
    have h2 := sum_bd is (a + f i) (fun j hj => h j (by simp [hj]))
    simp only [List.foldl_cons, List.length_cons]
    omega
theorem litN_bd {spr : List Spr} {is : List Nat} (h : ∀ i ∈ is, 0 ≤ (spr.getD i zeroSpr).low ∧ (spr.getD i zeroSpr).low ≤ 1000) : 0 ≤ litN spr is ∧ litN spr is ≤ 1000 * is.length := by
  have := sum_bd is 0 h
  unfold litN
  omega
theorem fuelN_bd {spr : List Spr} {is : List Nat} (h : ∀ i ∈ is, 0 ≤ (spr.getD i zeroSpr).fuel ∧ (spr.getD i zeroSpr).fuel ≤ 1000) : 0 ≤ fuelN spr is ∧ fuelN spr is ≤ 1000 * is.length := by
  have := sum_bd is 0 h
  unfold fuelN
  omega
/-- A batch as a value. -/
def bcells (d : Wat) (S : Nat) : Array Value := #[.int .u64 S, .int .i64 (litN d.spr (bitsL S)), .int .i64 (fuelN d.spr (bitsL S))]
def bval (d : Wat) (S : Nat) : Value := .agg (bcells d S)
theorem kx {w1 w2 W : World} {n g : Nat} (h : ∀ b o, b < n → ¬ b = g → w1.cell? ⟨b, o, none⟩ = W.cell? ⟨b, o, none⟩) (hn : n ≤ w1.heap.size) (e : Ext w1 w2) : ∀ b o, b < n → ¬ b = g → w2.cell? ⟨b, o, none⟩ = W.cell? ⟨b, o, none⟩ :=
  fun b o hb hg => (e.cell (p := ⟨b, o, none⟩) (Nat.lt_of_lt_of_le hb hn)).trans (h b o hb hg)
theorem kx_set {w1 W : World} {n g : Nat} (h : ∀ b o, b < n → ¬ b = g → w1.cell? ⟨b, o, none⟩ = W.cell? ⟨b, o, none⟩) (i : Nat) (u : Value) : ∀ b o, b < n → ¬ b = g → (w1.setCell ⟨g, i, none⟩ u).cell? ⟨b, o, none⟩ = W.cell? ⟨b, o, none⟩ :=
  fun b o hb hg => (World.cell?_setCell_other w1 ⟨g, i, none⟩ ⟨b, o, none⟩ u (fun e => by injection e with e; exact hg e.symm)).trans (h b o hb hg)
/-- The memory of the loop in batch. -/
structure BtInv (w : World) (fc : Array Value) (S : Nat) (x y : Int) (W : World) : Prop where
  ext : Ext w W
  b0 : Blk W w.heap.size 72 fc
  b1 : Blk W (w.heap.size + 1) 79 #[.int .u64 0, .int .i64 0, .int .i64 0]
  b2 : Blk W (w.heap.size + 1 + 1) 79 #[.int .u64 S, .int .i64 x, .int .i64 y]
theorem BtInv.drew {w W : World} {fc : Array Value} {S : Nat} {x y : Int} (h : BtInv w fc S x y W) : BtInv w fc S x y W.drew := ⟨h.ext.drew, h.b0, h.b1, h.b2⟩
theorem BtInv.setX {w W : World} {fc : Array Value} {S : Nat} {x y : Int} (h : BtInv w fc S x y W) (z : Int) : BtInv w fc S z y (W.setCell ⟨w.heap.size + 1 + 1, 1, none⟩ (.int .i64 z)) :=
  ⟨h.ext.set (by dsimp only; omega) _, h.b0.other (by dsimp only; omega) _, h.b1.other (by dsimp only; omega) _, by have := h.b2.setAt 1 (.int .i64 z); simpa using this⟩
theorem BtInv.setY {w W : World} {fc : Array Value} {S : Nat} {x y : Int} (h : BtInv w fc S x y W) (z : Int) : BtInv w fc S x z (W.setCell ⟨w.heap.size + 1 + 1, 2, none⟩ (.int .i64 z)) :=
  ⟨h.ext.set (by dsimp only; omega) _, h.b0.other (by dsimp only; omega) _, h.b1.other (by dsimp only; omega) _, by have := h.b2.setAt 2 (.int .i64 z); simpa using this⟩

set_option maxRecDepth 100000 in
set_option maxHeartbeats 4000000 in
theorem batch_any (d : Wat) (A : WA) (T : Value) (S : Nat) (hok : WOk d) (hS : S < 2 ^ d.spr.length) (w : World) (hT : TabW w) (hW : WIn w d A) :
    Calls Tryd.prog 49 #[fval d A T, .int .u64 S] w fun e w' => e = .returned (bval d S) ∧ Ext w w' := by
  have hS256 : S < 256 := by have := hok.p2; omega
  have HSB := hid (fun x (hx : x ∈ bitsL S) => bitsL_lt hS hx)
  have HOS := hid hok.spr
  have h8 := hok.n8
  have HTW := hid hT
  have HSP := hid hW.spr
  unfold fval fcells bval bcells
  obtain ⟨spr, most, miss, al, smp⟩ := d
  obtain ⟨SA, sc, MA, mc⟩ := A
  dsimp only at *
  obtain ⟨n, hn⟩ : ∃ n, spr.length = n := ⟨_, rfl⟩
  have HN := hid hn
  rw [hn] at h8 HSB HOS ⊢
  generalize smp.length = m at *
  clear hT hW hok hS hn
  refine (callsIn_wide (n := 6)).1 ?_
  refine callsIn_of_wp_marks Tryd.func49 rfl trivial ?_ rfl
  simp only [Tryd.ntmps49, List.size_toArray, List.length_cons, List.length_nil, Nat.reduceAdd, Nat.reduceSub, Array.replicate_succ, Array.replicate_zero, List.push_toArray, List.append_toArray, List.nil_append, List.cons_append]
  gi_wp2
  have HL0 := hid (fun pre x => litN_snoc spr pre x)
  have HF0 := hid (fun pre x => fuelN_snoc spr pre x)
  obtain ⟨q0, q1, q2⟩ := blks3 w (.cells #[.slice SA n sc, .int .i64 most, .int .i64 miss, .int .i64 al, .slice MA m mc, T] 72) (.cells #[.int .u64 0, .int .i64 0, .int .i64 0] 79) (.cells #[.int .u64 S, .int .i64 0, .int .i64 0] 79)
  obtain ⟨W0, hW0⟩ : ∃ W0, ((w.alloc (.cells #[.slice SA n sc, .int .i64 most, .int .i64 miss, .int .i64 al, .slice MA m mc, T] 72)).alloc (.cells #[.int .u64 0, .int .i64 0, .int .i64 0] 79)).alloc (.cells #[.int .u64 S, .int .i64 0, .int .i64 0] 79) = W0 := ⟨_, rfl⟩
  have E0 : Ext w W0 := by rw [← hW0]; (repeat' (first | with_reducible assumption | with_reducible exact Ext.refl _ | with_reducible refine Ext.alloc ?_ _ | with_reducible refine Ext.set ?_ ?_ _ | with_reducible refine Ext.drew ?_ | with_reducible refine Ext.drewN ?_ _ | with_reducible refine Ext.trans ?_ (by assumption) | (dsimp only; omega)))
  have hz0 : W0.heap.size = w.heap.size + 3 := by rw [← hW0]; simp
  rw [hW0] at q0 q1 q2 ⊢
  have HI0 := hid (show BtInv w #[.slice SA n sc, .int .i64 most, .int .i64 miss, .int .i64 al, .slice MA m mc, T] S (litN spr []) (fuelN spr []) W0 from ⟨E0, q0, q1, q2⟩)
  have hzle : W0.heap.size ≤ w.heap.size + 3 := by omega
  have hzge : w.heap.size + 3 ≤ W0.heap.size := by omega
  clear q0 q1 q2 hW0 hz0
  refine range_slot (enc := encI) (xs := bitsL S) (by omega) rfl (enters_of Tryd.func58 (by kernel_rfl) rfl) (by simp) (elements_gives _ (by omega) S (by omega))
    (fun pre W => BtInv w #[.slice SA n sc, .int .i64 most, .int .i64 miss, .int .i64 al, .slice MA m mc, T] S (litN spr pre) (fuelN spr pre) W)
    ?stays (fun pre W h => HTW.out.ext h.ext) HI0.out ?body ?done
  case stays =>
    rintro pre X Y row ⟨h1, h2, h3, h4⟩ hg hr
    exact ⟨own_ext E0.size h1 hg hr, h2.own hg hr, h3.own hg hr, h4.own hg hr⟩
  case body =>
    rintro l pre x suf W hl2 hxs hI
    have hxn : x < n := HSB.out x (by rw [hxs]; simp)
    have hpm : ∀ i ∈ pre, i < n := fun i hi => HSB.out i (by rw [hxs]; simp [hi])
    have hlen : pre.length < 64 := by have h := congrArg List.length hxs; have := bitsL_len S; simp at h; omega
    have hb1 := litN_bd (spr := spr) (is := pre) (fun i hi => by have := HOS.out i (hpm i hi); omega)
    have hb2 := fuelN_bd (spr := spr) (is := pre) (fun i hi => by have := HOS.out i (hpm i hi); omega)
    have HX1 := hid (HL0.out pre x)
    have HX2 := hid (HF0.out pre x)
    obtain ⟨b, off, rfl, hb, s0, s1, s2⟩ := (HSP.out.ext hI.ext).at_ HN.out hxn
    have hos := HOS.out x hxn
    clear hpm hxs HI0
    generalize litN spr (pre ++ [x]) = li1 at *
    generalize fuelN spr (pre ++ [x]) = fu1 at *
    generalize litN spr pre = li at *
    generalize fuelN spr pre = fu at *
    generalize spr.getD x zeroSpr = sx at *
    obtain ⟨lo, hi, fe⟩ := sx
    dsimp only at s0 s1 s2 hos HX1 HX2
    have hw1 : IntKind.i64.wrap (li + lo) = li + lo := IntWalk.i64_in _ (by omega)
    have hw2 : IntKind.i64.wrap (fu + fe) = fu + fe := IntWalk.i64_in _ (by omega)
    have HI := hid hI
    have c0 := hI.b0.cell 0
    have d1 := hI.b2.cell 1
    have d2 := hI.b2.cell 2
    have f1 := hI.b2.fro 1
    have f2 := hI.b2.fro 2
    simp only [List.getElem?_toArray, List.getElem?_cons_zero, List.getElem?_cons_succ] at c0 d1 d2
    have z0 := hI.b0.lt
    have z2 := hI.b2.lt
    have hbq : ¬ b = w.heap.size + 1 + 1 := by
      rintro rfl
      obtain ⟨b', o', hA, hb', _⟩ := HSP.out (by intro e; have := HN.out; rw [e] at this; simp at this; omega)
      injection hA with hA
      injection hA with hA
      omega
    have n0 : ¬ w.heap.size = w.heap.size + 1 + 1 := by omega
    obtain ⟨q, hq⟩ : ∃ q, w.heap.size + 1 + 1 = q := ⟨_, rfl⟩
    clear hI
    simp only [encI, List.setIfInBounds_toArray, List.set_cons_zero, List.set_cons_succ]
    rw [hq] at d1 d2 f1 f2 z2 hbq n0 ⊢
    have HQ := hid hq
    clear hq
    gi_wp2_with fail
    refine wpIn_region_held (S := fun w' => (∀ b o, b < W.heap.size → ¬ b = q → w'.cell? ⟨b, o, none⟩ = W.cell? ⟨b, o, none⟩) ∧ W.heap.size ≤ w'.heap.size) (by kernel_rfl) (by kernel_rfl) (fun ⟨_, _, h⟩ => by cases h.1) ?hS0 (fun hHeld => ?_)
    case hS0 => exact ⟨fun _ _ _ _ => rfl, Nat.le_refl _⟩
    refine wpAnyH_take (i := 0) (oi := _) (v := ?v0a) rfl (by kernel_rfl) (by kernel_rfl) (by kernel_rfl) (fun _ _ _ h => h) (Or.inl ⟨by rfl, ?y0a⟩) (by assumption) ?r0a
    case y0a => (intro w' hSw; (try dsimp only at hSw); go_simp; (try with_reducible rfl))
    try simp only [Act.put, List.getElem_toArray, List.getElem_cons_zero, List.getElem_cons_succ, List.setIfInBounds_toArray, List.set_cons_zero, List.set_cons_succ]
    refine wpAnyH_take (i := 2) (oi := _) (v := ?v2a) rfl (by kernel_rfl) (by kernel_rfl) (by kernel_rfl) (fun _ _ _ h => h) (Or.inl ⟨by rfl, ?y2a⟩) (by assumption) ?r2a
    case y2a => (intro w' hSw; (try dsimp only at hSw); go_simp; (try with_reducible rfl))
    try simp only [Act.put, List.getElem_toArray, List.getElem_cons_zero, List.getElem_cons_succ, List.setIfInBounds_toArray, List.set_cons_zero, List.set_cons_succ]
    refine wpAnyH_take (i := 3) (oi := _) (v := ?v3a) rfl (by kernel_rfl) (by kernel_rfl) (by kernel_rfl) (fun _ _ _ h => h) (Or.inl ⟨by rfl, ?y3a⟩) (by assumption) ?r3a
    case y3a => (intro w' hSw; (try dsimp only at hSw); go_simp; (try with_reducible rfl))
    try simp only [Act.put, List.getElem_toArray, List.getElem_cons_zero, List.getElem_cons_succ, List.setIfInBounds_toArray, List.set_cons_zero, List.set_cons_succ]
    refine wpAnyH_take (i := 4) (oi := _) (v := ?v4a) rfl (by kernel_rfl) (by kernel_rfl) (by kernel_rfl) (fun _ _ _ h => h) (Or.inl ⟨by rfl, ?y4a⟩) (by assumption) ?r4a
    case y4a => (intro w' hSw; (try dsimp only at hSw); go_simp; (try with_reducible rfl))
    try simp only [Act.put, List.getElem_toArray, List.getElem_cons_zero, List.getElem_cons_succ, List.setIfInBounds_toArray, List.set_cons_zero, List.set_cons_succ]
    refine wpAnyH_take (i := 5) (oi := _) (v := ?v5a) rfl (by kernel_rfl) (by kernel_rfl) (by kernel_rfl) (fun _ _ _ h => h) (Or.inl ⟨by rfl, ?y5a⟩) (by assumption) ?r5a
    case y5a => (intro w' hSw; (try dsimp only at hSw); go_simp; (try with_reducible rfl))
    try simp only [Act.put, List.getElem_toArray, List.getElem_cons_zero, List.getElem_cons_succ, List.setIfInBounds_toArray, List.set_cons_zero, List.set_cons_succ]
    refine wpAnyH_take (i := 6) (oi := _) (v := ?v6a) rfl (by kernel_rfl) (by kernel_rfl) (by kernel_rfl) (fun _ _ _ h => h) (Or.inl ⟨by rfl, ?y6a⟩) (by assumption) ?r6a
    case y6a => (intro w' hSw; (try dsimp only at hSw); go_simp; (try with_reducible rfl))
    try simp only [Act.put, List.getElem_toArray, List.getElem_cons_zero, List.getElem_cons_succ, List.setIfInBounds_toArray, List.set_cons_zero, List.set_cons_succ]
    refine wpAnyH_take (i := 7) (oi := _) (v := ?v7a) rfl (by kernel_rfl) (by kernel_rfl) (by kernel_rfl) (fun _ _ _ h => h) (Or.inl ⟨by rfl, ?y7a⟩) (by assumption) ?r7a
    case y7a => (intro w' hSw; (try dsimp only at hSw); go_simp; (try with_reducible rfl))
    try simp only [Act.put, List.getElem_toArray, List.getElem_cons_zero, List.getElem_cons_succ, List.setIfInBounds_toArray, List.set_cons_zero, List.set_cons_succ]
    refine wpAnyH_take (i := 8) (oi := _) (v := ?v8a) rfl (by kernel_rfl) (by kernel_rfl) (by kernel_rfl) (fun _ _ _ h => h) (Or.inl ⟨by rfl, ?y8a⟩) (by assumption) ?r8a
    case y8a => (intro w' hSw; (try dsimp only at hSw); go_simp; (try with_reducible rfl))
    try simp only [Act.put, List.getElem_toArray, List.getElem_cons_zero, List.getElem_cons_succ, List.setIfInBounds_toArray, List.set_cons_zero, List.set_cons_succ]
    refine wpAnyH_take (i := 9) (oi := _) (v := ?v9a) rfl (by kernel_rfl) (by kernel_rfl) (by kernel_rfl) (fun _ _ _ h => h) (Or.inl ⟨by rfl, ?y9a⟩) (by assumption) ?r9a
    case y9a => (intro w' hSw; (try dsimp only at hSw); go_simp; (try with_reducible rfl))
    try simp only [Act.put, List.getElem_toArray, List.getElem_cons_zero, List.getElem_cons_succ, List.setIfInBounds_toArray, List.set_cons_zero, List.set_cons_succ]
    clear hHeld
    refine wpAnyH_ready (rs := [1]) (by kernel_rfl) (by simp) ?_
    refine AllReadyH.cons (o := _) rfl (fun K hK => ?_) AllReadyH.nil
    go_simp
    refine hK.out _ _ ⟨fun _ _ _ _ => rfl, Nat.le_refl _⟩ (fun hHeld => ?_)
    clear hK K
    try simp only [Act.put, List.getElem_toArray, List.getElem_cons_zero, List.getElem_cons_succ, List.setIfInBounds_toArray, List.set_cons_zero, List.set_cons_succ]
    refine wpAnyH_take (i := 10) (oi := _) (v := ?v10b) rfl (by kernel_rfl) (by kernel_rfl) (by kernel_rfl) (fun _ _ _ h => h) (Or.inl ⟨by rfl, ?y10b⟩) (by assumption) ?r10b
    case y10b => (intro w' hSw; (try dsimp only at hSw); go_simp; (try with_reducible rfl))
    try simp only [Act.put, List.getElem_toArray, List.getElem_cons_zero, List.getElem_cons_succ, List.setIfInBounds_toArray, List.set_cons_zero, List.set_cons_succ]
    refine wpAnyH_take (i := 11) (oi := _) (v := ?v11b) rfl (by kernel_rfl) (by kernel_rfl) (by kernel_rfl) (fun _ _ _ h => h) (Or.inl ⟨by rfl, ?y11b⟩) (by assumption) ?r11b
    case y11b => (intro w' hSw; (try dsimp only at hSw); go_simp; (try with_reducible rfl))
    try simp only [Act.put, List.getElem_toArray, List.getElem_cons_zero, List.getElem_cons_succ, List.setIfInBounds_toArray, List.set_cons_zero, List.set_cons_succ]
    clear hHeld
    refine wpAnyH_ready (rs := [12]) (by kernel_rfl) (by simp) ?_
    refine AllReadyH.cons (o := _) rfl (fun K hK => ?_) AllReadyH.nil
    go_simp
    refine hK.out _ _ ⟨kx_set (w1 := W.drew) (W := W) (fun _ _ _ _ => rfl) _ _, by simp⟩ (fun hHeld => ?_)
    clear hK K
    try simp only [Act.put, List.getElem_toArray, List.getElem_cons_zero, List.getElem_cons_succ, List.setIfInBounds_toArray, List.set_cons_zero, List.set_cons_succ]
    clear hHeld
    refine wpAnyH_done (by kernel_rfl) ?_ _
    have HI2 := hid ((HI.out.setX li1).drew)
    rw [HQ.out] at HI2
    rw [← HX1.out]
    have hsz : (W.setCell ⟨q, 1, none⟩ (.int .i64 li1)).drew.heap.size = W.heap.size := by simp
    have s2' : (W.setCell ⟨q, 1, none⟩ (.int .i64 li1)).drew.cell? ⟨b, off + x * 3 + 2, none⟩ = some (.int .i64 fe) := (World.cell?_setCell_other W ⟨q, 1, none⟩ ⟨b, off + x * 3 + 2, none⟩ _ (fun e => by injection e with e; exact hbq e.symm)).trans s2
    have KK := hid ((keepsFrom_set W0.heap.size W ⟨q, 1, none⟩ (.int .i64 li1)).trans ((KeepsOthers.drew _).from _))
    obtain ⟨W2, hW2⟩ : ∃ W2, (W.setCell ⟨q, 1, none⟩ (.int .i64 li1)).drew = W2 := ⟨_, rfl⟩
    rw [hW2] at HI2 hsz s2' KK ⊢
    clear hW2 c0 d1 d2 f1 f2 z0 z2 s0 s1 s2 hw1
    have c0 := HI2.out.b0.cell 0
    have hb2q := HI2.out.b2
    rw [HQ.out] at hb2q
    have d2 := hb2q.cell 2
    have f2 := hb2q.fro 2
    simp only [List.getElem?_toArray, List.getElem?_cons_zero, List.getElem?_cons_succ] at c0 d2
    have z0 := HI2.out.b0.lt
    have z2 := hb2q.lt
    rw [← hsz] at hb
    have HB2q := hid hb2q
    clear hb2q hsz
    gi_wp2_with fail
    refine wpIn_region_held (S := fun w' => (∀ b o, b < W2.heap.size → ¬ b = q → w'.cell? ⟨b, o, none⟩ = W2.cell? ⟨b, o, none⟩) ∧ W2.heap.size ≤ w'.heap.size) (by kernel_rfl) (by kernel_rfl) (fun ⟨_, _, h⟩ => by cases h.1) ?hS0 (fun hHeld => ?_)
    case hS0 => exact ⟨fun _ _ _ _ => rfl, Nat.le_refl _⟩
    refine wpAnyH_take (i := 0) (oi := _) (v := ?v0c) rfl (by kernel_rfl) (by kernel_rfl) (by kernel_rfl) (fun _ _ _ h => h) (Or.inl ⟨by rfl, ?y0c⟩) (by assumption) ?r0c
    case y0c => (intro w' hSw; (try dsimp only at hSw); go_simp; (try with_reducible rfl))
    try simp only [Act.put, List.getElem_toArray, List.getElem_cons_zero, List.getElem_cons_succ, List.setIfInBounds_toArray, List.set_cons_zero, List.set_cons_succ]
    refine wpAnyH_take (i := 2) (oi := _) (v := ?v2c) rfl (by kernel_rfl) (by kernel_rfl) (by kernel_rfl) (fun _ _ _ h => h) (Or.inl ⟨by rfl, ?y2c⟩) (by assumption) ?r2c
    case y2c => (intro w' hSw; (try dsimp only at hSw); go_simp; (try with_reducible rfl))
    try simp only [Act.put, List.getElem_toArray, List.getElem_cons_zero, List.getElem_cons_succ, List.setIfInBounds_toArray, List.set_cons_zero, List.set_cons_succ]
    refine wpAnyH_take (i := 3) (oi := _) (v := ?v3c) rfl (by kernel_rfl) (by kernel_rfl) (by kernel_rfl) (fun _ _ _ h => h) (Or.inl ⟨by rfl, ?y3c⟩) (by assumption) ?r3c
    case y3c => (intro w' hSw; (try dsimp only at hSw); go_simp; (try with_reducible rfl))
    try simp only [Act.put, List.getElem_toArray, List.getElem_cons_zero, List.getElem_cons_succ, List.setIfInBounds_toArray, List.set_cons_zero, List.set_cons_succ]
    refine wpAnyH_take (i := 4) (oi := _) (v := ?v4c) rfl (by kernel_rfl) (by kernel_rfl) (by kernel_rfl) (fun _ _ _ h => h) (Or.inl ⟨by rfl, ?y4c⟩) (by assumption) ?r4c
    case y4c => (intro w' hSw; (try dsimp only at hSw); go_simp; (try with_reducible rfl))
    try simp only [Act.put, List.getElem_toArray, List.getElem_cons_zero, List.getElem_cons_succ, List.setIfInBounds_toArray, List.set_cons_zero, List.set_cons_succ]
    refine wpAnyH_take (i := 5) (oi := _) (v := ?v5c) rfl (by kernel_rfl) (by kernel_rfl) (by kernel_rfl) (fun _ _ _ h => h) (Or.inl ⟨by rfl, ?y5c⟩) (by assumption) ?r5c
    case y5c => (intro w' hSw; (try dsimp only at hSw); go_simp; (try with_reducible rfl))
    try simp only [Act.put, List.getElem_toArray, List.getElem_cons_zero, List.getElem_cons_succ, List.setIfInBounds_toArray, List.set_cons_zero, List.set_cons_succ]
    refine wpAnyH_take (i := 6) (oi := _) (v := ?v6c) rfl (by kernel_rfl) (by kernel_rfl) (by kernel_rfl) (fun _ _ _ h => h) (Or.inl ⟨by rfl, ?y6c⟩) (by assumption) ?r6c
    case y6c => (intro w' hSw; (try dsimp only at hSw); go_simp; (try with_reducible rfl))
    try simp only [Act.put, List.getElem_toArray, List.getElem_cons_zero, List.getElem_cons_succ, List.setIfInBounds_toArray, List.set_cons_zero, List.set_cons_succ]
    refine wpAnyH_take (i := 7) (oi := _) (v := ?v7c) rfl (by kernel_rfl) (by kernel_rfl) (by kernel_rfl) (fun _ _ _ h => h) (Or.inl ⟨by rfl, ?y7c⟩) (by assumption) ?r7c
    case y7c => (intro w' hSw; (try dsimp only at hSw); go_simp; (try with_reducible rfl))
    try simp only [Act.put, List.getElem_toArray, List.getElem_cons_zero, List.getElem_cons_succ, List.setIfInBounds_toArray, List.set_cons_zero, List.set_cons_succ]
    refine wpAnyH_take (i := 8) (oi := _) (v := ?v8c) rfl (by kernel_rfl) (by kernel_rfl) (by kernel_rfl) (fun _ _ _ h => h) (Or.inl ⟨by rfl, ?y8c⟩) (by assumption) ?r8c
    case y8c => (intro w' hSw; (try dsimp only at hSw); go_simp; (try with_reducible rfl))
    try simp only [Act.put, List.getElem_toArray, List.getElem_cons_zero, List.getElem_cons_succ, List.setIfInBounds_toArray, List.set_cons_zero, List.set_cons_succ]
    clear hHeld
    refine wpAnyH_ready (rs := [1]) (by kernel_rfl) (by simp) ?_
    refine AllReadyH.cons (o := _) rfl (fun K hK => ?_) AllReadyH.nil
    go_simp
    refine hK.out _ _ ⟨fun _ _ _ _ => rfl, Nat.le_refl _⟩ (fun hHeld => ?_)
    clear hK K
    try simp only [Act.put, List.getElem_toArray, List.getElem_cons_zero, List.getElem_cons_succ, List.setIfInBounds_toArray, List.set_cons_zero, List.set_cons_succ]
    refine wpAnyH_take (i := 9) (oi := _) (v := ?v9d) rfl (by kernel_rfl) (by kernel_rfl) (by kernel_rfl) (fun _ _ _ h => h) (Or.inl ⟨by rfl, ?y9d⟩) (by assumption) ?r9d
    case y9d => (intro w' hSw; (try dsimp only at hSw); go_simp; (try with_reducible rfl))
    try simp only [Act.put, List.getElem_toArray, List.getElem_cons_zero, List.getElem_cons_succ, List.setIfInBounds_toArray, List.set_cons_zero, List.set_cons_succ]
    refine wpAnyH_take (i := 10) (oi := _) (v := ?v10d) rfl (by kernel_rfl) (by kernel_rfl) (by kernel_rfl) (fun _ _ _ h => h) (Or.inl ⟨by rfl, ?y10d⟩) (by assumption) ?r10d
    case y10d => (intro w' hSw; (try dsimp only at hSw); go_simp; (try with_reducible rfl))
    try simp only [Act.put, List.getElem_toArray, List.getElem_cons_zero, List.getElem_cons_succ, List.setIfInBounds_toArray, List.set_cons_zero, List.set_cons_succ]
    clear hHeld
    refine wpAnyH_ready (rs := [11]) (by kernel_rfl) (by simp) ?_
    refine AllReadyH.cons (o := _) rfl (fun K hK => ?_) AllReadyH.nil
    go_simp
    refine hK.out _ _ ⟨kx_set (w1 := W2.drew) (W := W2) (fun _ _ _ _ => rfl) _ _, by simp⟩ (fun hHeld => ?_)
    clear hK K
    try simp only [Act.put, List.getElem_toArray, List.getElem_cons_zero, List.getElem_cons_succ, List.setIfInBounds_toArray, List.set_cons_zero, List.set_cons_succ]
    clear hHeld
    refine wpAnyH_done (by kernel_rfl) ?_ _
    gi_wp2
    have HI3 := hid ((HI2.out.setY fu1).drew)
    rw [HQ.out] at HI3
    rw [← HX2.out]
    exact ⟨KK.out.trans ((keepsFrom_set _ _ _ _).trans ((KeepsOthers.drew _).from _)), HI3.out⟩
  case done =>
    intro D W hD hI hDk
    have d0 := hI.b2.cell 0
    have d1 := hI.b2.cell 1
    have d2 := hI.b2.cell 2
    have r0 := hI.b1.cell 0
    have r1 := hI.b1.cell 1
    have r2 := hI.b1.cell 2
    have f0 := hI.b1.fro 0
    have f1 := hI.b1.fro 1
    have f2 := hI.b1.fro 2
    have z1 := hI.b1.lt
    have z2 := hI.b2.lt
    simp only [List.getElem?_toArray, List.getElem?_cons_zero, List.getElem?_cons_succ] at d0 d1 d2 r0 r1 r2
    have HE := hid hI.ext
    have HD := hid hDk
    have HB1 := hid hI.b1
    have hDn : w.heap.size + 3 ≤ D := by omega
    clear hI hDk HI0
    obtain ⟨li, hli⟩ : ∃ li, litN spr (bitsL S) = li := ⟨_, rfl⟩
    obtain ⟨fu, hfu⟩ : ∃ fu, fuelN spr (bitsL S) = fu := ⟨_, rfl⟩
    rw [hli] at d1
    rw [hfu] at d2
    have HLI := hid hli
    have HFU := hid hfu
    clear hli hfu
    gi_wp2
    have E9 : Ext w (((W.setCell ⟨w.heap.size + 1, 0, none⟩ (.int .u64 S)).setCell ⟨w.heap.size + 1, 1, none⟩ (.int .i64 li)).setCell ⟨w.heap.size + 1, 2, none⟩ (.int .i64 fu)) := ((HE.out.set (by dsimp only; omega) _).set (by dsimp only; omega) _).set (by dsimp only; omega) _
    have B9 := ((HB1.out.setAt 0 (.int .u64 S)).setAt 1 (.int .i64 li)).setAt 2 (.int .i64 fu)
    have D9 := (Below.heap_setCell ((W.setCell ⟨w.heap.size + 1, 0, none⟩ (.int .u64 S)).setCell ⟨w.heap.size + 1, 1, none⟩ (.int .i64 li)) ⟨w.heap.size + 1, 2, none⟩ (.int .i64 fu) D (by dsimp only; omega)).trans ((Below.heap_setCell (W.setCell ⟨w.heap.size + 1, 0, none⟩ (.int .u64 S)) ⟨w.heap.size + 1, 1, none⟩ (.int .i64 li) D (by dsimp only; omega)).trans ((Below.heap_setCell W ⟨w.heap.size + 1, 0, none⟩ (.int .u64 S) D (by dsimp only; omega)).trans HD.out))
    refine ⟨by simp, .inl ⟨_, _, rfl, run_takeDeferred D9, ?_⟩⟩
    have P9 := B9.putObj (D := D) (by omega) (.deferred none)
    have p0 := P9.cell 0
    have p1 := P9.cell 1
    have p2 := P9.cell 2
    simp only [List.getElem?_toArray, List.getElem?_cons_zero, List.getElem?_cons_succ, List.setIfInBounds_toArray, List.set_cons_zero, List.set_cons_succ] at p0 p1 p2
    have EP := hid (ext_putObj (D := D) (o := .deferred none) E9 (by omega))
    obtain ⟨WP, hWP⟩ : ∃ WP, ((((W.setCell ⟨w.heap.size + 1, 0, none⟩ (.int .u64 S)).setCell ⟨w.heap.size + 1, 1, none⟩ (.int .i64 li)).setCell ⟨w.heap.size + 1, 2, none⟩ (.int .i64 fu)).putObj D (.deferred none)) = WP := ⟨_, rfl⟩
    rw [hWP] at p0 p1 p2 EP ⊢
    refine ⟨.agg #[.int .u64 S, .int .i64 li, .int .i64 fu], by simp [results, Tryd.results49, go_sem, p0, p1, p2], ?_, EP.out⟩
    rw [HLI.out, HFU.out]
end Go.Proofs.YtcfijidlbimckaaDoor
