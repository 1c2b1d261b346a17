/- Sets of numbers below 8: how many, which, which is before which. -/
import Derived.Test.YtggggnjibedgaaaGreatB01
import Derived.Laws.Bits64b
import Derived.Laws.AppendOwn
import Derived.Laws.OwnMore
import Derived.Maps.AppendAt
import Derived.Deep.Onto
set_option linter.unusedSimpArgs false
set_option linter.unusedVariables false
namespace Go.Proofs.YtggggnjibedgaaaGreat
open Go.RowKit
def o1 (x : Int) : Int := IntKind.u64.wrap (bits BinOp.and IntKind.u64 (x / 2) 6148914691236517205 + bits BinOp.and IntKind.u64 x 6148914691236517205)
def o2 (x : Int) : Int := IntKind.u64.wrap (bits BinOp.and IntKind.u64 (x / 4) 3689348814741910323 + bits BinOp.and IntKind.u64 x 3689348814741910323)
def o3 (x : Int) : Int := bits BinOp.and IntKind.u64 (IntKind.u64.wrap (x / 16 + x)) 1085102592571150095
def o4 (x : Int) : Int := IntKind.u64.wrap (x + x / 256)
def o5 (x : Int) : Int := IntKind.u64.wrap (x + x / 65536)
def o6 (x : Int) : Int := IntKind.u64.wrap (x + x / 4294967296)
def onesE (x : Int) : Int := bits BinOp.and IntKind.i64 (wrap64 (o6 (o5 (o4 (o3 (o2 (o1 x))))))) 127
theorem onesE_all : ((List.range 256).all fun x => onesE (x : Nat) == (pcN x : Int)) = true := by decide +kernel
theorem onesE_eq {x : Nat} (h : x < 256) : onesE (x : Int) = (pcN x : Int) := by
  have := List.all_eq_true.1 onesE_all x (List.mem_range.2 h)
  exact eq_of_beq this
set_option maxHeartbeats 1000000 in
theorem ones64_any (x : Nat) (hx : x < 256) (w : World) :
    Calls Tryz.prog 157 #[.int .u64 x] w fun e w' => e = .returned (.int .i64 (pcN x : Nat)) ∧ w' = w := by
  have HX := hid (onesE_eq hx)
  generalize pcN x = y at *
  go_enter Tryz.func157, Tryz.ntmps157
  go_wp2
  go_ret
  exact ⟨ret_int HX.out, rfl⟩
set_option maxHeartbeats 1000000 in
theorem ones_any (x : Nat) (hx : x < 256) (w : World) :
    Calls Tryz.prog 139 #[.int .u64 x] w fun e w' => e = .returned (.int .i64 (pcN x : Nat)) ∧ w' = w := by
  go_enter Tryz.func139, Tryz.ntmps139
  go_wp2_with (go_at_call 157; refine (ones64_any x hx _).mono ?_; rintro e w' ⟨rfl, rfl⟩)
  go_ret
  exact ⟨rfl, rfl⟩
set_option maxHeartbeats 1000000 in
theorem size_any (x : Nat) (hx : x < 256) (w : World) :
    Calls Tryz.prog 109 #[.int .i64 x] w fun e w' => e = .returned (.int .i64 (pcN x : Nat)) ∧ w' = w := by
  have HO := hid (fun W => ones_any x hx W)
  have hw : IntKind.u64.wrap (x : Int) = (x : Int) := by rw [IntKind.wrap_u64]; omega
  go_enter Tryz.func109, Tryz.ntmps109
  go_wp2_with (first | (go_at_call 139; refine (HO.out _).mono ?_; rintro e w' ⟨rfl, rfl⟩) | simp only [hw])
  go_ret
  exact ⟨rfl, rfl⟩
theorem one_all : ((List.range 256).all fun x => (bits BinOp.and IntKind.i64 ((x : Nat) : Int) 1 == 1) == (x % 2 == 1)) = true := by decide +kernel
theorem one_at {x : Nat} (h : x < 256) : (bits BinOp.and IntKind.i64 (x : Int) 1 == 1) = (x % 2 == 1) := eq_of_beq (List.all_eq_true.1 one_all x (List.mem_range.2 h))
set_option maxHeartbeats 1000000 in
theorem has_any (x i : Nat) (hx : x < 256) (hi : i < 8) (w : World) :
    Calls Tryz.prog 114 #[.int .i64 x, .int .i64 i] w fun e w' => e = .returned (.bool (hasB x i)) ∧ w' = w := by
  have h1 : (x : Int) / 2 ^ i = ((x >>> i : Nat) : Int) := by
    rw [Nat.shiftRight_eq_div_pow]
    simp
  have h2 : x >>> i < 256 := by rw [Nat.shiftRight_eq_div_pow]; exact Nat.lt_of_le_of_lt (Nat.div_le_self _ _) hx
  have HH := hid (one_at h2)
  unfold hasB
  generalize x >>> i = y at *
  go_enter Tryz.func114, Tryz.ntmps114
  go_wp2_with (simp only [h1])
  go_ret
  exact ⟨ret_bool (by first | exact HH.out | (rw [h1]; exact HH.out)), rfl⟩
def befE (s t : Int) : Bool := bits BinOp.and IntKind.i64 (bits BinOp.and IntKind.i64 s (bits BinOp.xor IntKind.i64 s t)) (wrap64 (-bits BinOp.xor IntKind.i64 s t)) != 0
theorem ofInt_nat {a : Nat} (h : a < 18446744073709551616) : (BitVec.ofInt 64 (a : Int)).toNat = a := by
  rw [BitVec.ofInt_natCast, BitVec.toNat_ofNat]; exact Nat.mod_eq_of_lt (by omega)
theorem and_i64 {a b : Nat} (ha : a < 256) (hb : b < 18446744073709551616) : IntKind.i64.wrap ((BitVec.ofInt 64 (a : Int) &&& BitVec.ofInt 64 (b : Int)).toNat : Int) = ((a &&& b : Nat) : Int) := by
  have hx : a &&& b ≤ a := Nat.and_le_left
  rw [BitVec.toNat_and, ofInt_nat (by omega), ofInt_nat hb]
  exact IntWalk.i64_in _ (by omega)
theorem and_small {a b : Nat} (ha : a < 256) (hb : b < 256) : bits .and .i64 (a : Int) (b : Int) = ((a &&& b : Nat) : Int) := and_i64 ha (by omega)
theorem xor_small {a b : Nat} (ha : a < 256) (hb : b < 256) : bits .xor .i64 (a : Int) (b : Int) = ((a ^^^ b : Nat) : Int) := by
  have hx : a ^^^ b < 2 ^ 8 := Nat.xor_lt_two_pow (by omega) (by omega)
  show IntKind.i64.wrap ((BitVec.ofInt 64 (a : Int) ^^^ BitVec.ofInt 64 (b : Int)).toNat : Int) = _
  rw [BitVec.toNat_xor, ofInt_nat (by omega), ofInt_nat (by omega)]
  exact IntWalk.i64_in _ (by omega)
theorem and_neg {m d : Nat} (hm : m < 256) (hd : d < 256) (h0 : 0 < d) : bits .and .i64 (m : Int) (wrap64 (-(d : Int))) = ((m &&& (256 - d) : Nat) : Int) := by
  have hw : wrap64 (-(d : Int)) = -(d : Int) := by unfold wrap64; omega
  have he : BitVec.ofInt 64 (-(d : Int)) = BitVec.ofInt 64 ((18446744073709551616 - d : Nat) : Int) := by
    apply BitVec.eq_of_toNat_eq
    rw [BitVec.toNat_ofInt, BitVec.toNat_ofInt]
    congr 1
    omega
  have h1 : m &&& (18446744073709551616 - d) = m &&& (256 - d) := by
    have hx : m &&& (18446744073709551616 - d) ≤ m := Nat.and_le_left
    have h2 := Nat.and_mod_two_pow (a := m) (b := 18446744073709551616 - d) (n := 8)
    rw [Nat.mod_eq_of_lt (by omega), Nat.mod_eq_of_lt (show m < 2 ^ 8 by omega)] at h2
    rw [h2]
    congr 1
    omega
  show IntKind.i64.wrap ((BitVec.ofInt 64 (m : Int) &&& BitVec.ofInt 64 (wrap64 (-(d : Int)))).toNat : Int) = _
  rw [hw, he, and_i64 hm (by omega), h1]
theorem bef_at {s t : Nat} (hs : s < 256) (ht : t < 256) : befE (s : Int) (t : Int) = !((s &&& lowN (s ^^^ t)) == 0) := by
  have hx : s ^^^ t < 2 ^ 8 := Nat.xor_lt_two_pow (by omega) (by omega)
  unfold befE
  rw [xor_small hs ht]
  generalize s ^^^ t = d at *
  rw [and_small hs (by omega)]
  unfold lowN
  by_cases h0 : d = 0
  · subst h0
    rw [Nat.and_zero]
    simp
    decide +kernel
  · have hm : s &&& d ≤ s := Nat.and_le_left
    rw [and_neg (by omega) (by omega) (by omega), Nat.and_assoc]
    generalize s &&& (d &&& (256 - d)) = z
    rw [Bool.eq_iff_iff]
    simp
set_option maxRecDepth 100000 in
set_option maxHeartbeats 1000000 in
theorem isBefore_any (s t : Nat) (hs : s < 256) (ht : t < 256) (w : World) :
    Calls Tryz.prog 111 #[.int .i64 s, .int .i64 t] w fun e w' => e = .returned (.bool (befB s t)) ∧ w' = w := by
  have H1 := hid (fun W => size_any s hs W)
  have H2 := hid (fun W => size_any t ht W)
  have HB := hid (bef_at hs ht)
  unfold befE at HB
  unfold befB
  generalize pcN s = a at *
  generalize pcN t = b at *
  by_cases h : a = b
  · subst h
    simp only [if_true]
    have hab : ((a : Int) != (a : Int)) = false := by simp
    go_enter Tryz.func111, Tryz.ntmps111
    go_wp2_with (go_at_call 109; first | (refine (H1.out _).mono ?_; rintro e w' ⟨rfl, rfl⟩) | (refine (H2.out _).mono ?_; rintro e w' ⟨rfl, rfl⟩))
    go_ret
    exact ⟨ret_bool HB.out, rfl⟩
  · rw [if_neg h]
    have hab : ((a : Int) != (b : Int)) = true := by simp; omega
    go_enter Tryz.func111, Tryz.ntmps111
    go_wp2_with (go_at_call 109; first | (refine (H1.out _).mono ?_; rintro e w' ⟨rfl, rfl⟩) | (refine (H2.out _).mono ?_; rintro e w' ⟨rfl, rfl⟩))
    go_ret
    exact ⟨ret_bool (by simp), rfl⟩
end Go.Proofs.YtggggnjibedgaaaGreat
/- Slices that a call builds, one element after the other. -/
set_option linter.unusedSimpArgs false
set_option linter.unusedVariables false
namespace Go.Proofs.YtggggnjibedgaaaGreat
open Go.RowKit
theorem fm_len {α : Type} (g : α → List Value) (s : Nat) (hg : ∀ x, (g x).length = s) : ∀ xs : List α, (xs.flatMap g).length = xs.length * s
  | [] => by simp
  | x :: xs => by
    have ih := fm_len g s hg xs
    rw [List.flatMap_cons, List.length_append, ih, hg, List.length_cons, Nat.succ_mul]
    omega
theorem fm_at {α : Type} (g : α → List Value) (s : Nat) (hg : ∀ x, (g x).length = s) (d : α) : ∀ (xs : List α) (k r : Nat), k < xs.length → r < s → (xs.flatMap g)[k * s + r]? = (g (xs.getD k d))[r]?
  | [], k, r, h, _ => by simp at h
  | x :: xs, 0, r, _, hr => by
    rw [List.flatMap_cons, Nat.zero_mul, Nat.zero_add, List.getElem?_append_left (by rw [hg]; exact hr)]
    rfl
  | x :: xs, k + 1, r, h, hr => by
    have ih := fm_at g s hg d xs k r (by simpa using h) hr
    have e : (x :: xs).getD (k + 1) d = xs.getD k d := by simp [List.getD]
    rw [List.flatMap_cons, e, List.getElem?_append_right (by rw [hg, Nat.succ_mul]; omega), ← ih, hg, Nat.succ_mul, show k * s + s + r - s = k * s + r by omega]
theorem addr_add (b off j : Nat) : (⟨b, off, none⟩ : Addr).add j = ⟨b, off + j, none⟩ := by
  unfold Addr.add
  split
  · rename_i h0; subst h0; rfl
  · rfl
/-- A list of elements of s cells in memory. -/
def FlatAt {α : Type} (s : Nat) (g : α → List Value) (d : α) (w : World) (A : Option Addr) (xs : List α) : Prop :=
  xs ≠ [] → ∃ b off, A = some ⟨b, off, none⟩ ∧ b < w.heap.size ∧ ∀ k, k < xs.length → ∀ r, r < s → w.cell? ⟨b, off + (k * s + r), none⟩ = (g (xs.getD k d))[r]?
theorem flat_from {α : Type} {s : Nat} {g : α → List Value} {d : α} {w : World} {b off : Nat} {xs : List α} (hs : 0 < s) (hg : ∀ x, (g x).length = s)
    (h : ∀ k, k < xs.length → ∀ r, r < s → w.cell? ⟨b, off + (k * s + r), none⟩ = (g (xs.getD k d))[r]?) :
    ∀ j u, (xs.flatMap g)[j]? = some u → w.cell? ((⟨b, off, none⟩ : Addr).add j) = some u := by
  intro j u hj
  have hlt := (List.getElem?_eq_some_iff.1 hj).1
  rw [fm_len g s hg] at hlt
  rw [addr_add]
  have hk : j / s < xs.length := by rw [Nat.div_lt_iff_lt_mul hs]; exact hlt
  have hr : j % s < s := Nat.mod_lt _ hs
  have e : j / s * s + j % s = j := by rw [Nat.mul_comm]; exact Nat.div_add_mod j s
  have h1 := h (j / s) hk (j % s) hr
  have h2 := fm_at g s hg d xs (j / s) (j % s) hk hr
  rw [e] at h1 h2
  rw [h1, ← h2, hj]
theorem ext_grown {w w' : World} (e : Ext w w') : w.grownBy w' none :=
  have h : Below w.heap.size w w' := e
  ⟨h.os, h.tape, h.output, h.size, fun k hk _ => h.block k hk⟩
section
variable {α : Type} {e : TypeId} {s : Nat} {g : α → List Value} {w w' : World} {B : Nat} {v : Value} {xs : List α}
/-- v is a slice of the call's own, from block B on, that holds xs. -/
def Ownl {α : Type} (e : TypeId) (s : Nat) (g : α → List Value) (w : World) (B : Nat) (v : Value) (xs : List α) : Prop := w.ownsRow B e s v xs.length (xs.flatMap g)
theorem Ownl.nil (w : World) (B : Nat) : Ownl e s g w B (.slice none 0 0) [] := World.ownsRow_nil w B e s
theorem Ownl.grown {row : Option Nat} (h : Ownl e s g w B v xs) (hg : w.grownBy w' row) (hne : v.ownBlock = none ∨ v.ownBlock ≠ row) : Ownl e s g w' B v xs := World.ownsRow.kept h hg hne
theorem Ownl.ext (h : Ownl e s g w B v xs) (x : Ext w w') : Ownl e s g w' B v xs := h.grown (ext_grown x) (by cases v.ownBlock <;> simp)
theorem Ownl.block (h : Ownl e s g w B v xs) : ∀ q, v.ownBlock = some q → B ≤ q ∧ q < w.heap.size := World.ownsRow.lt h
theorem Ownl.other (h : Ownl e s g w B v xs) {p : Addr} (hp : p.block < B) (u : Value) : Ownl e s g (w.setCell p u) B v xs := ownsRow_setCell_below h hp u
theorem Ownl.otherNe (h : Ownl e s g w B v xs) {p : Addr} (hp : v.ownBlock ≠ some p.block) (u : Value) : Ownl e s g (w.setCell p u) B v xs := ownsRow_setCell_other h hp u
theorem Ownl.low {B' : Nat} (h : Ownl e s g w B v xs) (hB : B' ≤ B) : Ownl e s g w B' v xs := World.ownsRow.mono h hB
theorem Ownl.form (h : Ownl e s g w B v xs) (hs : 0 < s) (hg : ∀ x, (g x).length = s) (d : α) : ∃ A c, v = .slice A xs.length c ∧ xs.length ≤ c ∧ FlatAt s g d w A xs ∧ (∀ b o sp, A = some ⟨b, o, sp⟩ → B ≤ b) := by
  rcases h.2 with ⟨h2, h0⟩ | ⟨q, cap, cur, a1, a2, a3, a4, a5, a6, a7⟩
  · have hx : xs = [] := List.length_eq_zero_iff.1 h0
    subst hx
    exact ⟨_, _, h2, Nat.le_refl _, fun hne => absurd rfl hne, fun b o sp e => by cases e⟩
  · refine ⟨_, _, a1, a4, fun hne => ⟨q, 0, rfl, (Array.getElem?_eq_some_iff.1 a3).1, fun k hk r hr => ?_⟩, fun b o sp e => by cases e; exact a2⟩
    have h' := h
    unfold Ownl at h'
    rw [a1] at h'
    have hj : k * s + r < xs.length * s := by
      have : k * s + s ≤ xs.length * s := by rw [← Nat.succ_mul]; exact Nat.mul_le_mul_right s hk
      omega
    rw [Nat.zero_add, h'.cellAt _ hj, fm_at g s hg d xs k r hk hr]
theorem Ownl.extApp {w5 : World} {W : World} {o : Obj} (h : Ownl e s g W B v xs) (x : Ext w W) (hB : w.heap.size ≤ B) (hg : (W.alloc o).grownBy w5 v.ownBlock) : Ext w w5 :=
  Below.grown (x.alloc o) hg (x.alloc o).size (fun k ek => Nat.le_trans hB (h.block k ek).1)
theorem Ownl.blkApp {w5 : World} {W : World} {o : Obj} {b : Nat} {t : TypeId} {cs : Array Value} (h : Ownl e s g W B v xs) (hb : Blk W b t cs) (hB : b < B) (hg : (W.alloc o).grownBy w5 v.ownBlock) : Blk w5 b t cs :=
  (hb.alloc o).grown hg (fun x => by have := (h.block b x.symm).1; omega)
theorem Ownl.snoc {y : α} (h : w.ownsRow B e s v (xs.length + 1) (xs.flatMap g ++ g y)) : Ownl e s g w B v (xs ++ [y]) := by
  unfold Ownl
  have e1 : (xs ++ [y]).length = xs.length + 1 := by simp
  have e2 : (xs ++ [y]).flatMap g = xs.flatMap g ++ g y := by simp
  rw [e1, e2]
  exact h
end
def gIn (x : Int) : List Value := [.int .i64 x]
theorem infoIn : (Tryz.prog.info? 3).map (fun i => (i.zero, i.size, i.bytes)) = some (some (.int .i64 0), 1, 8) := by kernel_rfl
theorem oneIn : ∀ y : Int, ∀ u ∈ gIn y, u.oneCell' = true := by
  intro y u hu
  simp only [gIn, List.mem_cons, List.not_mem_nil, or_false] at hu
  subst hu
  rfl
theorem wpList_app1In {ops : Array Oper} {rest : List Oper} {o : Oper} {a : Act} {Q : Exit → Act → World → Prop} (w : World) (hg : o.guard = none) (s x : Operand)
    (hop : o.op = Op.call { callee := Callee.builtin Builtin.append, args := #[s, x], argTypes := #[45, 45] }) (B : Nat) (v : Value) (xs : List Int) (hs : a.eval s = v) (hown : Ownl 3 1 gIn w B v xs)
    (z : Nat) (y : Int) (hx : a.eval x = .slice (some ⟨z, 0, none⟩) 1 1) (hy : Blk w z 3 #[.int .i64 y]) (hl : xs.length ≤ 10000) (hB : B ≤ w.heap.size)
    (hK : ∀ v' w', Ownl 3 1 gIn w' B v' (xs ++ [y]) → w.grownBy w' v.ownBlock → (v'.ownBlock = v.ownBlock ∨ v'.ownBlock = some w.heap.size) → wpList Tryz.prog ops Q rest (a.put o.dst v') w') : wpList Tryz.prog ops Q (o :: rest) a w := by
  obtain ⟨i0, hi, hz0, hz1, hz2⟩ := info_parts infoIn
  refine wpList_append_own_at (w := w) hg s x 45 hop B 3 i0 _ 1 8 Tryz.underlying45 hi hz0 hz1 hz2 rfl (by decide) v xs.length (xs.flatMap gIn) hs hown ⟨z, 0, none⟩ 1 1 (gIn y) hx rfl ?_ (oneIn y) (by unfold maxLen; omega) (by omega) hB (fun v' w' h1 h2 _ h4 => hK v' w' (Ownl.snoc h1) h2 h4)
  intro j u hj
  rw [addr_add, Nat.zero_add, hy.cell]
  match j, hj with
  | 0, hj => exact hj
  | j + 1, hj => simp [gIn] at hj
theorem flatIn {w : World} {A : Option Addr} {xs : List Int} (h : FlatAt 1 gIn 0 w A xs) : IntsAt w A xs := fun hne => by
  obtain ⟨b, off, hA, hb, hc⟩ := h hne
  exact ⟨b, off, hA, hb, fun k hk => by have := hc k hk 0 (by omega); simpa [gIn] using this⟩
theorem ownIn {w : World} {B : Nat} {v : Value} {xs : List Int} (h : Ownl 3 1 gIn w B v xs) : ∃ A c, v = .slice A xs.length c ∧ xs.length ≤ c ∧ IntsAt w A xs := by
  obtain ⟨A, c, h1, h2, h3, -⟩ := h.form (by decide) (fun _ => rfl) 0
  exact ⟨A, c, h1, h2, flatIn h3⟩
def gSp (x : Sp) : List Value := [.int .i64 x.lo, .int .i64 x.hi]
theorem infoSp : (Tryz.prog.info? 33).map (fun i => (i.zero, i.size, i.bytes)) = some (some (.agg #[.int .i64 0, .int .i64 0]), 2, 16) := by kernel_rfl
theorem oneSp : ∀ y : Sp, ∀ u ∈ gSp y, u.oneCell' = true := by
  intro y u hu
  simp only [gSp, List.mem_cons, List.not_mem_nil, or_false] at hu
  rcases hu with rfl | rfl <;> rfl
theorem wpList_app1Sp {ops : Array Oper} {rest : List Oper} {o : Oper} {a : Act} {Q : Exit → Act → World → Prop} (w : World) (hg : o.guard = none) (s x : Operand)
    (hop : o.op = Op.call { callee := Callee.builtin Builtin.append, args := #[s, x], argTypes := #[42, 42] }) (B : Nat) (v : Value) (xs : List Sp) (hs : a.eval s = v) (hown : Ownl 33 2 gSp w B v xs)
    (z : Nat) (y : Sp) (hx : a.eval x = .slice (some ⟨z, 0, none⟩) 1 1) (hy : Blk w z 33 #[.int .i64 y.lo, .int .i64 y.hi]) (hl : xs.length ≤ 10000) (hB : B ≤ w.heap.size)
    (hK : ∀ v' w', Ownl 33 2 gSp w' B v' (xs ++ [y]) → w.grownBy w' v.ownBlock → (v'.ownBlock = v.ownBlock ∨ v'.ownBlock = some w.heap.size) → wpList Tryz.prog ops Q rest (a.put o.dst v') w') : wpList Tryz.prog ops Q (o :: rest) a w := by
  obtain ⟨i0, hi, hz0, hz1, hz2⟩ := info_parts infoSp
  refine wpList_append_own_at (w := w) hg s x 42 hop B 33 i0 _ 2 16 Tryz.underlying42 hi hz0 hz1 hz2 rfl (by decide) v xs.length (xs.flatMap gSp) hs hown ⟨z, 0, none⟩ 1 1 (gSp y) hx rfl ?_ (oneSp y) (by unfold maxLen; omega) (by omega) hB (fun v' w' h1 h2 _ h4 => hK v' w' (Ownl.snoc h1) h2 h4)
  intro j u hj
  rw [addr_add, Nat.zero_add, hy.cell]
  match j, hj with
  | 0, hj => exact hj
  | 1, hj => exact hj
  | j + 2, hj => simp [gSp] at hj
theorem flatSp {w : World} {A : Option Addr} {xs : List Sp} (h : FlatAt 2 gSp zeroSp w A xs) : SpsAt w A xs := fun hne => by
  obtain ⟨b, off, hA, hb, hc⟩ := h hne
  exact ⟨b, off, hA, hb, fun k hk => ⟨hc k hk 0 (by omega), hc k hk 1 (by omega)⟩⟩
theorem ownSp {w : World} {B : Nat} {v : Value} {xs : List Sp} (h : Ownl 33 2 gSp w B v xs) : ∃ A c, v = .slice A xs.length c ∧ xs.length ≤ c ∧ SpsAt w A xs := by
  obtain ⟨A, c, h1, h2, h3, -⟩ := h.form (by decide) (fun _ => rfl) zeroSp
  exact ⟨A, c, h1, h2, flatSp h3⟩
def gPo (x : Po) : List Value := [.int .i64 x.pos, .int .i64 x.sl, .int .i64 x.sh]
theorem infoPo : (Tryz.prog.info? 95).map (fun i => (i.zero, i.size, i.bytes)) = some (some (.agg #[.int .i64 0, .int .i64 0, .int .i64 0]), 3, 24) := by kernel_rfl
theorem onePo : ∀ y : Po, ∀ u ∈ gPo y, u.oneCell' = true := by
  intro y u hu
  simp only [gPo, List.mem_cons, List.not_mem_nil, or_false] at hu
  rcases hu with rfl | rfl | rfl <;> rfl
theorem wpList_app1Po {ops : Array Oper} {rest : List Oper} {o : Oper} {a : Act} {Q : Exit → Act → World → Prop} (w : World) (hg : o.guard = none) (s x : Operand)
    (hop : o.op = Op.call { callee := Callee.builtin Builtin.append, args := #[s, x], argTypes := #[61, 61] }) (B : Nat) (v : Value) (xs : List Po) (hs : a.eval s = v) (hown : Ownl 95 3 gPo w B v xs)
    (z : Nat) (y : Po) (hx : a.eval x = .slice (some ⟨z, 0, none⟩) 1 1) (hy : Blk w z 95 #[.int .i64 y.pos, .int .i64 y.sl, .int .i64 y.sh]) (hl : xs.length ≤ 10000) (hB : B ≤ w.heap.size)
    (hK : ∀ v' w', Ownl 95 3 gPo w' B v' (xs ++ [y]) → w.grownBy w' v.ownBlock → (v'.ownBlock = v.ownBlock ∨ v'.ownBlock = some w.heap.size) → wpList Tryz.prog ops Q rest (a.put o.dst v') w') : wpList Tryz.prog ops Q (o :: rest) a w := by
  obtain ⟨i0, hi, hz0, hz1, hz2⟩ := info_parts infoPo
  refine wpList_append_own_at (w := w) hg s x 61 hop B 95 i0 _ 3 24 Tryz.underlying61 hi hz0 hz1 hz2 rfl (by decide) v xs.length (xs.flatMap gPo) hs hown ⟨z, 0, none⟩ 1 1 (gPo y) hx rfl ?_ (onePo y) (by unfold maxLen; omega) (by omega) hB (fun v' w' h1 h2 _ h4 => hK v' w' (Ownl.snoc h1) h2 h4)
  intro j u hj
  rw [addr_add, Nat.zero_add, hy.cell]
  match j, hj with
  | 0, hj => exact hj
  | 1, hj => exact hj
  | 2, hj => exact hj
  | j + 3, hj => simp [gPo] at hj
theorem flatPo {w : World} {A : Option Addr} {xs : List Po} (h : FlatAt 3 gPo zeroPo w A xs) : PosAt w A xs := fun hne => by
  obtain ⟨b, off, hA, hb, hc⟩ := h hne
  exact ⟨b, off, hA, hb, fun k hk => ⟨hc k hk 0 (by omega), hc k hk 1 (by omega), hc k hk 2 (by omega)⟩⟩
theorem ownPo {w : World} {B : Nat} {v : Value} {xs : List Po} (h : Ownl 95 3 gPo w B v xs) : ∃ A c, v = .slice A xs.length c ∧ xs.length ≤ c ∧ PosAt w A xs := by
  obtain ⟨A, c, h1, h2, h3, -⟩ := h.form (by decide) (fun _ => rfl) zeroPo
  exact ⟨A, c, h1, h2, flatPo h3⟩
theorem apart_of {v v' u : Value} {z : Nat} (h : v'.ownBlock = v.ownBlock ∨ v'.ownBlock = some z) (hd : ∀ q, v.ownBlock = some q → u.ownBlock ≠ some q) (hz : ∀ q, u.ownBlock = some q → q ≠ z) : ∀ q, v'.ownBlock = some q → u.ownBlock ≠ some q := by
  intro q hq hu
  rcases h with h | h
  · exact hd q (h ▸ hq) hu
  · rw [h] at hq
    injection hq with hq
    exact hz q hu hq.symm
theorem Ownl.apart {α : Type} {e : TypeId} {s : Nat} {g : α → List Value} {w w' : World} {B : Nat} {v u : Value} {xs : List α} (h : Ownl e s g w B v xs) (hg : w.grownBy w' u.ownBlock) (hne : ∀ q, v.ownBlock = some q → u.ownBlock ≠ some q) : Ownl e s g w' B v xs :=
  h.grown hg (by
    cases hq : v.ownBlock with
    | none => exact Or.inl rfl
    | some q => exact Or.inr (fun e => hne q hq e.symm))
end Go.Proofs.YtggggnjibedgaaaGreat
/- The elements of a set as numbers. -/
set_option linter.unusedSimpArgs false
set_option linter.unusedVariables false
namespace Go.Proofs.YtggggnjibedgaaaGreat
open Go.RowKit
theorem tab_at (ba : ByteArray) (x : Nat) (h : x < ba.size) : ba[x].toNat = (ba.data.toList.getD x 0).toNat := by
  have h' : x < ba.data.size := h
  show (ba.data[x]'h').toNat = _
  congr 1
  simp [List.getD, List.getElem?_eq_getElem (show x < ba.data.toList.length by simpa using h')]
/-- How many bits a number below 256 has. -/
def lenN (x : Nat) : Nat := if x = 0 then 0 else if x < 2 then 1 else if x < 4 then 2 else if x < 8 then 3 else if x < 16 then 4 else if x < 32 then 5 else if x < 64 then 6 else if x < 128 then 7 else 8
theorem lenN_le (x : Nat) : lenN x ≤ 8 := by unfold lenN; repeat' split <;> try omega
theorem len_all : ((List.range 256).all fun x => (List.range (lenN x)).filter (hasB x) == elemsL 8 x) = true := by decide +kernel
theorem len_elems {x : Nat} (h : x < 256) : (List.range (lenN x)).filter (hasB x) = elemsL 8 x := eq_of_beq (List.all_eq_true.1 len_all x (List.mem_range.2 h))
set_option maxRecDepth 1000000 in
set_option maxHeartbeats 1000000 in
theorem len64_any (x : Nat) (hx : x < 256) (w : World) :
    Calls Tryz.prog 141 #[.int .u64 x] w fun e w' => e = .returned (.int .i64 (lenN x : Nat)) ∧ w' = w := by
  obtain ⟨y, hy⟩ : ∃ y, lenN x = y := ⟨_, rfl⟩
  rw [hy]
  have HY := hid hy
  clear hy
  have h1 : ¬ (4294967296 : Int) ≤ (x : Int) := by omega
  have h2 : ¬ (65536 : Int) ≤ (x : Int) := by omega
  have h3 : ¬ (256 : Int) ≤ (x : Int) := by omega
  go_enter Tryz.func141, Tryz.ntmps141
  go_wp2
  go_ret
  refine ⟨ret_int ?_, rfl⟩
  rw [← HY.out, tab_at]
  clear HY h1 h2 h3
  revert x
  decide +kernel
theorem len_any (x : Nat) (hx : x < 256) (w : World) :
    Calls Tryz.prog 113 #[.int .u64 x] w fun e w' => e = .returned (.int .i64 (lenN x : Nat)) ∧ w' = w := by
  have HO := hid (fun W => len64_any x hx W)
  generalize lenN x = y at *
  go_enter Tryz.func113, Tryz.ntmps113
  go_wp2_with (go_at_call 141; refine (HO.out _).mono ?_; rintro e w' ⟨rfl, rfl⟩)
  go_ret
  exact ⟨rfl, rfl⟩
def numK (x k : Nat) : List Int := ((List.range k).filter (hasB x)).map fun (i : Nat) => (i : Int)
theorem numK_succ (x k : Nat) : numK x (k + 1) = if hasB x k then numK x k ++ [(k : Int)] else numK x k := by
  unfold numK
  rw [List.range_succ, List.filter_append, List.map_append]
  cases h : hasB x k <;> simp [h]
theorem numK_len (x k : Nat) : (numK x k).length ≤ k := by
  unfold numK
  rw [List.length_map]
  exact Nat.le_trans (List.length_filter_le _ _) (by simp)
theorem numK_end {x : Nat} (h : x < 256) : numK x (lenN x) = (elemsL 8 x).map fun (i : Nat) => (i : Int) := by unfold numK; rw [len_elems h]
set_option maxRecDepth 100000 in
set_option maxHeartbeats 4000000 in
theorem numbers_any (x : Nat) (hx : x < 256) (w : World) :
    Calls Tryz.prog 75 #[.int .i64 x] w fun e w' => ∃ A c, e = .returned (.slice A ((elemsL 8 x).map fun (i : Nat) => (i : Int)).length c) ∧ Ownl 3 1 gIn w' w.heap.size (.slice A ((elemsL 8 x).map fun (i : Nat) => (i : Int)).length c) ((elemsL 8 x).map fun (i : Nat) => (i : Int)) ∧ Ext w w' := by
  have HL := hid (fun W => len_any x hx W)
  have HH := hid (fun i (hi : i < 8) W => has_any x i hx hi W)
  have HS := hid (fun k => numK_succ x k)
  have HK := hid (fun k => numK_len x k)
  have H0 := hid (show numK x 0 = [] from rfl)
  have h8 := lenN_le x
  have hw : IntKind.u64.wrap (x : Int) = (x : Int) := by rw [IntKind.wrap_u64]; omega
  rw [← numK_end hx]
  generalize numK x = NK at *
  generalize lenN x = n at *
  go_enter Tryz.func75, Tryz.ntmps75
  go_wp2_with (first | (go_at_call 113; refine (HL.out _).mono ?_; rintro e w2 ⟨rfl, hsm⟩; obtain rfl := hsm.symm) | simp only [hw])
  go_loopw [3, 8] (fun v i wr => Ext w wr ∧ ∃ (k : Nat) (A : Option Addr) (c : Nat), k ≤ n ∧ i = .int .i64 k ∧ v = .slice A (NK k).length c ∧ Hid (Ownl 3 1 gIn wr w.heap.size (.slice A (NK k).length c) (NK k))) (fun _ i _ => n - (intOf i).toNat)
  case atStart => exact ⟨by (repeat' (first | with_reducible assumption | with_reducible exact Ext.refl _ | with_reducible refine Ext.alloc ?_ _ | with_reducible refine Ext.set ?_ ?_ _ | with_reducible refine Ext.drew ?_ | with_reducible refine Ext.drewN ?_ _ | with_reducible refine Ext.trans ?_ (by assumption) | (dsimp only; omega))), 0, none, 0, Nat.zero_le _, rfl, by rw [H0.out]; rfl, hid (by rw [H0.out]; exact Ownl.nil _ _)⟩
  case round =>
    obtain ⟨hE, k, A2, c2, hk, rfl, rfl, HV⟩ := hrel
    by_cases hlt : k < n
    · have HST := hid (HS.out k)
      have hk1 : (NK k).length ≤ 8 := by have := HK.out k; omega
      have HHk := hid (fun W => HH.out k (by omega) W)
      clear HS HK HH
      generalize hasB x k = b at *
      have hwr : w.heap.size ≤ wr.heap.size := hE.size
      cases b
      · rw [if_neg (by decide)] at HST
        go_wp2_with (go_at_call 114; refine (HHk.out _).mono ?_; rintro e w2 ⟨rfl, hsm⟩; obtain rfl := hsm.symm)
        go_roundw
        case rel => exact ⟨hE, k + 1, A2, c2, by omega, by go_num, by rw [HST.out], hid (by rw [HST.out]; exact HV.out)⟩
        case measure => simp [intOf]; omega
      · rw [if_pos rfl] at HST
        generalize NK k = acc at *
        go_wp2_with (first | (go_at_call 114; refine (HHk.out _).mono ?_; rintro e w2 ⟨rfl, hsm⟩; obtain rfl := hsm.symm) | (at_builtin; refine Halt.mk ?_))
        unfold Halt
        have BN := hid (show Blk (wr.alloc (.cells #[.int .i64 (k : Int)] 3)) wr.heap.size 3 #[.int .i64 (k : Int)] from blk_last _ _)
        refine wpList_app1In _ rfl _ _ rfl w.heap.size (.slice A2 acc.length c2) acc rfl (HV.out.ext (ext_alloc1 _ _)) wr.heap.size (k : Int) rfl BN.out (by omega) (by simp; omega) ?_
        intro v4 w4 hO hg _
        have E4 := hid (HV.out.extApp hE (Nat.le_refl _) hg)
        obtain ⟨A4, c4, rfl, -, -⟩ := ownIn hO
        have V4 := hid hO
        clear hO hg HV BN
        go_wp2
        go_roundw
        case rel => exact ⟨E4.out, k + 1, A4, c4, by omega, by go_num, by rw [HST.out]; simp, hid (by rw [HST.out]; exact V4.out)⟩
        case measure => simp [intOf]; omega
    · obtain rfl : k = n := by omega
      go_wp2
      go_ret
      exact ⟨A2, c2, rfl, HV.out, hE⟩
end Go.Proofs.YtggggnjibedgaaaGreat
/- Whether a guide may lead; how many guides have ropes. -/
set_option linter.unusedSimpArgs false
set_option linter.unusedVariables false
namespace Go.Proofs.YtggggnjibedgaaaGreat
open Go.RowKit
/-- A checked outing as one value. -/
def ouV (o : Ou) (A : OA) (F : Option Addr) (n c : Nat) : Value := .agg #[.int .i64 o.day, .int .i64 o.grade, .int .i64 o.spc, .slice A.gA o.gds.length A.gc, .slice A.cA o.cls.length A.cc,
  .int .i64 o.md.shelf, .int .i64 o.md.use, .int .i64 o.md.bears, .slice A.wA o.md.wears.length A.wc, .slice A.rA o.ros.length A.rc, .slice F n c]
def nI (gs : List Nat) : List Int := gs.map fun (i : Nat) => (i : Int)
theorem nI_at (gs : List Nat) (k : Nat) (h : k < gs.length) : (nI gs).getD k 0 = ((gs.getD k 0 : Nat) : Int) := by
  unfold nI
  simp [List.getD, List.getElem?_eq_getElem h]
theorem nI_len (gs : List Nat) : (nI gs).length = gs.length := by unfold nI; simp
def ptsK (o : Ou) (g : Nat) (gs : List Nat) (k : Nat) : Int := (List.range k).foldl (fun a i => if gs.getD i 0 = g then a + o.cls.getD i 0 else a) 0
theorem ptsK_succ (o : Ou) (g : Nat) (gs : List Nat) (k : Nat) : ptsK o g gs (k + 1) = if gs.getD k 0 = g then ptsK o g gs k + o.cls.getD k 0 else ptsK o g gs k := by
  unfold ptsK; rw [List.range_succ, List.foldl_append]; rfl
theorem ptsK_bd (o : Ou) (g : Nat) (gs : List Nat) (hc : ∀ x ∈ o.cls, 0 ≤ x ∧ x ≤ 1000) : ∀ k, k ≤ o.cls.length → 0 ≤ ptsK o g gs k ∧ ptsK o g gs k ≤ 1000 * k
  | 0, _ => by simp [ptsK]
  | k + 1, h => by
    have ih := ptsK_bd o g gs hc k (by omega)
    have hm := hc _ (mem_at o.cls 0 k (by omega))
    rw [ptsK_succ]
    split <;> omega
set_option maxRecDepth 100000 in
set_option maxHeartbeats 4000000 in
theorem mayLead_any (o : Ou) (A : OA) (F : Option Addr) (fn fc : Nat) (g : Nat) (gs : List Nat) (GA : Option Addr) (gc : Nat) (hg : g < o.gds.length) (hl : gs.length ≤ o.cls.length) (hm : o.cls.length ≤ 1000) (hc : ∀ x ∈ o.cls, 0 ≤ x ∧ x ≤ 1000)
    (w : World) (hx : GdsAt w A.gA o.gds) (hy : IntsAt w A.cA o.cls) (hz : IntsAt w GA (nI gs)) :
    Calls Tryz.prog 159 #[ouV o A F fn fc, .int .i64 g, .slice GA gs.length gc] w fun e w' => e = .returned (.bool (mayB o g gs)) ∧ Ext w w' := by
  have HY := hid hy
  have HZ := hid hz
  have HS := hid (fun k => ptsK_succ o g gs k)
  have HB := hid (fun k (h : k ≤ gs.length) => ptsK_bd o g gs hc k (by omega))
  have HN := hid (nI_len gs)
  have HNA := hid (fun k (h : k < gs.length) => nI_at gs k h)
  have HCB := hid (fun k (h : k < o.cls.length) => hc _ (mem_at o.cls 0 k h))
  have hmay : mayB o g gs = (decide (o.grade ≤ (o.gds.getD g zeroGd).grade) && decide (o.day ≤ (o.gds.getD g zeroGd).til) && decide (ptsK o g gs gs.length ≤ (o.gds.getD g zeroGd).pts)) := rfl
  rw [hmay]
  obtain ⟨gb, goff, hgA, hgb, d0, d1, d2⟩ := hx.at_ rfl hg
  clear hy hz hmay hx hc
  unfold ouV
  generalize o.gds.getD g zeroGd = G at *
  obtain ⟨gr, ti, pt⟩ := G
  have HP0 := hid (show ptsK o g gs 0 = 0 from rfl)
  generalize ptsK o g gs = PK at *
  obtain ⟨day, gra, sp, gds, cls, ⟨sh, us, be, ws⟩, ros⟩ := o
  obtain ⟨gA, gcc, cA, cc, wA, wc, rA, rc⟩ := A
  dsimp only at *
  subst hgA
  generalize gds.length = n1 at *
  obtain ⟨n2, hn2⟩ : ∃ n, cls.length = n := ⟨_, rfl⟩
  have HC2 := hid hn2
  rw [hn2] at hl hm HCB ⊢
  clear hn2
  generalize ros.length = n3 at *
  generalize ws.length = n4 at *
  obtain ⟨n, hn⟩ : ∃ n, gs.length = n := ⟨_, rfl⟩
  rw [hn] at hl HB HN HNA ⊢
  clear hn
  have Z := blk_last w (.cells #[.int .i64 day, .int .i64 gra, .int .i64 sp, .slice (some ⟨gb, goff, none⟩) n1 gcc, .slice cA n2 cc, .int .i64 sh, .int .i64 us, .int .i64 be, .slice wA n4 wc, .slice rA n3 rc, .slice F fn fc] 126)
  have B0 := hid (show Blk _ _ _ _ from Z)
  clear Z
  have hz0 : w.heap.size < (w.alloc (.cells #[.int .i64 day, .int .i64 gra, .int .i64 sp, .slice (some ⟨gb, goff, none⟩) n1 gcc, .slice cA n2 cc, .int .i64 sh, .int .i64 us, .int .i64 be, .slice wA n4 wc, .slice rA n3 rc, .slice F fn fc] 126)).heap.size := by simp
  go_enter Tryz.func159, Tryz.ntmps159
  go_wp2
  have B1 := hid (show Blk ((w.alloc (.cells #[.int .i64 day, .int .i64 gra, .int .i64 sp, .slice (some ⟨gb, goff, none⟩) n1 gcc, .slice cA n2 cc, .int .i64 sh, .int .i64 us, .int .i64 be, .slice wA n4 wc, .slice rA n3 rc, .slice F fn fc] 126)).alloc (.cells #[.int .i64 gr, .int .i64 ti, .int .i64 pt] 132)) (w.heap.size + 1) 132 #[.int .i64 gr, .int .i64 ti, .int .i64 pt] by
    have := blk_last (w.alloc (.cells #[.int .i64 day, .int .i64 gra, .int .i64 sp, .slice (some ⟨gb, goff, none⟩) n1 gcc, .slice cA n2 cc, .int .i64 sh, .int .i64 us, .int .i64 be, .slice wA n4 wc, .slice rA n3 rc, .slice F fn fc] 126)) (.cells #[.int .i64 gr, .int .i64 ti, .int .i64 pt] 132)
    rwa [World.size_alloc] at this)
  have B2 := hid (B0.out.alloc (.cells #[.int .i64 gr, .int .i64 ti, .int .i64 pt] 132))
  clear B0 d0 d1 d2 hz0
  go_loopw [8, 19] (fun v i wr => Ext w wr ∧ Hid (Blk wr w.heap.size 126 #[.int .i64 day, .int .i64 gra, .int .i64 sp, .slice (some ⟨gb, goff, none⟩) n1 gcc, .slice cA n2 cc, .int .i64 sh, .int .i64 us, .int .i64 be, .slice wA n4 wc, .slice rA n3 rc, .slice F fn fc]) ∧
      Hid (Blk wr (w.heap.size + 1) 132 #[.int .i64 gr, .int .i64 ti, .int .i64 pt]) ∧ ∃ k : Nat, k ≤ n ∧ i = .int .i64 k ∧ v = .int .i64 (PK k)) (fun _ i _ => n - (intOf i).toNat)
  case atStart => exact ⟨by (repeat' (first | with_reducible assumption | with_reducible exact Ext.refl _ | with_reducible refine Ext.alloc ?_ _ | with_reducible refine Ext.set ?_ ?_ _ | with_reducible refine Ext.drew ?_ | with_reducible refine Ext.drewN ?_ _ | with_reducible refine Ext.trans ?_ (by assumption) | (dsimp only; omega))), B2, B1, 0, Nat.zero_le _, rfl, by rw [show PK 0 = 0 from HP0.out]⟩
  case round =>
    obtain ⟨hE, K1, K2, k, hk, rfl, rfl⟩ := hrel
    clear B1 B2
    obtain ⟨x0, x1, x2, x3, x4, x5, x6, x7, x8, x9, x10⟩ : _ ∧ _ ∧ _ ∧ _ ∧ _ ∧ _ ∧ _ ∧ _ ∧ _ ∧ _ ∧ _ := ⟨K1.out.cell 0, K1.out.cell 1, K1.out.cell 2, K1.out.cell 3, K1.out.cell 4, K1.out.cell 5, K1.out.cell 6, K1.out.cell 7, K1.out.cell 8, K1.out.cell 9, K1.out.cell 10⟩
    obtain ⟨y0, y1, y2⟩ : _ ∧ _ ∧ _ := ⟨K2.out.cell 0, K2.out.cell 1, K2.out.cell 2⟩
    have xz := K1.out.lt
    have yz := K2.out.lt
    simp only [List.getElem?_toArray, List.getElem?_cons_zero, List.getElem?_cons_succ] at x0 x1 x2 x3 x4 x5 x6 x7 x8 x9 x10 y0 y1 y2
    by_cases hlt : k < n
    · obtain ⟨b, off, rfl, hb, c0⟩ := (HZ.out.ext hE).at_ HN.out hlt
      obtain ⟨b2, off2, he2, hb2, c1⟩ := (HY.out.ext hE).at_ HC2.out (show k < n2 by omega)
      subst he2
      rw [HNA.out k hlt] at c0
      have HSk := hid (HS.out k)
      have hbd := HB.out k (by omega)
      have hcb := HCB.out k (by omega)
      have hkn2 : k < n2 := by omega
      clear HS HB HCB HNA HY HZ
      obtain ⟨q, hq⟩ : ∃ q, gs.getD k 0 = q := ⟨_, rfl⟩
      rw [hq] at c0 HSk
      clear hq
      generalize cls.getD k 0 = cv at *
      by_cases hqg : q = g
      · subst hqg
        rw [if_pos rfl] at HSk
        generalize PK k = pv at *
        have hw : IntKind.i64.wrap (pv + cv) = pv + cv := IntWalk.i64_in _ (by omega)
        go_wp2
        go_roundw
        case rel => exact ⟨by (repeat' (first | with_reducible assumption | with_reducible exact Ext.refl _ | with_reducible refine Ext.alloc ?_ _ | with_reducible refine Ext.set ?_ ?_ _ | with_reducible refine Ext.drew ?_ | with_reducible refine Ext.drewN ?_ _ | with_reducible refine Ext.trans ?_ (by assumption) | (dsimp only; omega))), K1, K2, k + 1, by omega, by go_num, by rw [HSk.out]⟩
        case measure => simp [intOf]; omega
      · rw [if_neg hqg] at HSk
        have hd : ((q : Int) == (g : Int)) = false := by simp; omega
        generalize PK k = pv at *
        go_wp2
        go_roundw
        case rel => exact ⟨by (repeat' (first | with_reducible assumption | with_reducible exact Ext.refl _ | with_reducible refine Ext.alloc ?_ _ | with_reducible refine Ext.set ?_ ?_ _ | with_reducible refine Ext.drew ?_ | with_reducible refine Ext.drewN ?_ _ | with_reducible refine Ext.trans ?_ (by assumption) | (dsimp only; omega))), K1, K2, k + 1, by omega, by go_num, by rw [HSk.out]⟩
        case measure => simp [intOf]; omega
    · obtain rfl : k = n := by omega
      clear HS HB HCB HNA HY HZ
      by_cases h1 : gra ≤ gr
      case neg =>
        go_wp2
        go_ret
        exact ⟨ret_bool (by simp; intros; omega), hE⟩
      by_cases h2 : day ≤ ti
      case neg =>
        go_wp2
        go_ret
        exact ⟨ret_bool (by simp; intros; omega), hE⟩
      go_wp2
      go_ret
      exact ⟨ret_bool (by simp [h1, h2]), hE⟩
end Go.Proofs.YtggggnjibedgaaaGreat
