/- Copy: water of its own. -/
import Derived.Test.YtcfijidlbimckaaDoorWOk
set_option linter.unusedSimpArgs false
set_option linter.unusedVariables false
namespace Go.Proofs.YtcfijidlbimckaaDoor
open Go.RowKit
theorem fm_len {α : Type} (g : α → List Value) (s : Nat) (hg : ∀ x, (g x).length = s) : ∀ xs : List α, (xs.flatMap g).length = xs.length * s
  | [] => by simp
  | x :: xs => by
    have ih := fm_len g s hg xs
    rw [List.flatMap_cons, List.length_append, ih, hg, List.length_cons, Nat.succ_mul]
    omega
theorem fm_at {α : Type} (g : α → List Value) (s : Nat) (hg : ∀ x, (g x).length = s) (d : α) : ∀ (xs : List α) (k r : Nat), k < xs.length → r < s → (xs.flatMap g)[k * s + r]? = (g (xs.getD k d))[r]?
  | [], k, r, h, _ => by simp at h
  | x :: xs, 0, r, _, hr => by
    rw [List.flatMap_cons, Nat.zero_mul, Nat.zero_add, List.getElem?_append_left (by rw [hg]; exact hr)]
    rfl
  | x :: xs, k + 1, r, h, hr => by
    have ih := fm_at g s hg d xs k r (by simpa using h) hr
    have e : (x :: xs).getD (k + 1) d = xs.getD k d := by simp [List.getD]
    rw [List.flatMap_cons, e, List.getElem?_append_right (by rw [hg, Nat.succ_mul]; omega), ← ih, hg, Nat.succ_mul, show k * s + s + r - s = k * s + r by omega]
theorem fm_from {α : Type} (g : α → List Value) (s : Nat) (hs : 0 < s) (hg : ∀ x, (g x).length = s) (d : α) {w : World} {b off : Nat} {xs : List α}
    (h : ∀ k, k < xs.length → ∀ r, r < s → w.cell? ⟨b, off + (k * s + r), none⟩ = (g (xs.getD k d))[r]?) :
    ∀ j u, (xs.flatMap g)[j]? = some u → w.cell? ((⟨b, off, none⟩ : Addr).add j) = some u := by
  intro j u hj
  have hlt := (List.getElem?_eq_some_iff.1 hj).1
  rw [fm_len g s hg] at hlt
  have hadd : (⟨b, off, none⟩ : Addr).add j = ⟨b, off + j, none⟩ := by
    unfold Addr.add
    split
    · rename_i h0; subst h0; rfl
    · rfl
  rw [hadd]
  have hk : j / s < xs.length := by rw [Nat.div_lt_iff_lt_mul hs]; exact hlt
  have hr : j % s < s := Nat.mod_lt _ hs
  have e : j / s * s + j % s = j := by rw [Nat.mul_comm]; exact Nat.div_add_mod j s
  have h1 := h (j / s) hk (j % s) hr
  have h2 := fm_at g s hg d xs (j / s) (j % s) hk hr
  rw [e] at h1 h2
  rw [h1, ← h2, hj]
theorem fm_back {α : Type} (g : α → List Value) (s : Nat) (hg : ∀ x, (g x).length = s) (d : α) {w : World} {q : Nat} {cur : Array Value} {t : TypeId} {xs : List α} (h3 : w.heap[q]? = some (.cells cur t (0, 0)))
    (h7 : cur.toList.take (xs.length * s) = xs.flatMap g) {k r : Nat} (hk : k < xs.length) (hr : r < s) : w.cell? ⟨q, k * s + r, none⟩ = (g (xs.getD k d))[r]? := by
  rw [blk_cell h3, ← fm_at g s hg d xs k r hk hr, ← h7, List.getElem?_take_of_lt, Array.getElem?_toList]
  have : k * s + s ≤ xs.length * s := by rw [← Nat.succ_mul]; exact Nat.mul_le_mul_right s hk
  omega
def gSpr (s : Spr) : List Value := [.int .i64 s.low, .int .i64 s.high, .int .i64 s.fuel]
def gSmp (s : Smp) : List Value := [.int .i64 s.mix, .bool s.foul]
def cellsSpr (xs : List Spr) : List Value := xs.flatMap gSpr
def cellsSmp (xs : List Smp) : List Value := xs.flatMap gSmp
theorem cellsSpr_len (xs : List Spr) : (cellsSpr xs).length = xs.length * 3 := fm_len gSpr 3 (fun _ => rfl) xs
theorem cellsSmp_len (xs : List Smp) : (cellsSmp xs).length = xs.length * 2 := fm_len gSmp 2 (fun _ => rfl) xs
theorem cellsSpr_one (xs : List Spr) : ∀ u ∈ cellsSpr xs, u.oneCell' = true := by
  intro u hu
  simp only [cellsSpr, gSpr, List.mem_flatMap, List.mem_cons, List.not_mem_nil, or_false] at hu
  obtain ⟨o, _, rfl | rfl | rfl⟩ := hu <;> rfl
theorem cellsSmp_one (xs : List Smp) : ∀ u ∈ cellsSmp xs, u.oneCell' = true := by
  intro u hu
  simp only [cellsSmp, gSmp, List.mem_flatMap, List.mem_cons, List.not_mem_nil, or_false] at hu
  obtain ⟨o, _, rfl | rfl⟩ := hu <;> rfl
theorem SprRow.atSpr {w : World} {b off : Nat} {xs : List Spr} (h : ∀ k, k < xs.length → w.cell? ⟨b, off + k * 3, none⟩ = some (.int .i64 (xs.getD k zeroSpr).low) ∧ w.cell? ⟨b, off + k * 3 + 1, none⟩ = some (.int .i64 (xs.getD k zeroSpr).high) ∧ w.cell? ⟨b, off + k * 3 + 2, none⟩ = some (.int .i64 (xs.getD k zeroSpr).fuel)) :
    ∀ k, k < xs.length → ∀ r, r < 3 → w.cell? ⟨b, off + (k * 3 + r), none⟩ = (gSpr (xs.getD k zeroSpr))[r]? := by
  intro k hk r hr
  obtain ⟨h0, h1, h2⟩ := h k hk
  match r, hr with
  | 0, _ => exact h0
  | 1, _ => exact h1
  | 2, _ => exact h2
theorem SprRow.atSmp {w : World} {b off : Nat} {xs : List Smp} (h : ∀ k, k < xs.length → w.cell? ⟨b, off + k * 2, none⟩ = some (.int .i64 (xs.getD k zeroSmp).mix) ∧ w.cell? ⟨b, off + k * 2 + 1, none⟩ = some (.bool (xs.getD k zeroSmp).foul)) :
    ∀ k, k < xs.length → ∀ r, r < 2 → w.cell? ⟨b, off + (k * 2 + r), none⟩ = (gSmp (xs.getD k zeroSmp))[r]? := by
  intro k hk r hr
  obtain ⟨h0, h1⟩ := h k hk
  match r, hr with
  | 0, _ => exact h0
  | 1, _ => exact h1
theorem cellsSpr_from {w : World} {b off : Nat} {xs : List Spr} (h : ∀ k, k < xs.length → ∀ r, r < 3 → w.cell? ⟨b, off + (k * 3 + r), none⟩ = (gSpr (xs.getD k zeroSpr))[r]?) :
    ∀ j u, (cellsSpr xs)[j]? = some u → w.cell? ((⟨b, off, none⟩ : Addr).add j) = some u := fm_from gSpr 3 (by decide) (fun _ => rfl) zeroSpr h
theorem cellsSmp_from {w : World} {b off : Nat} {xs : List Smp} (h : ∀ k, k < xs.length → ∀ r, r < 2 → w.cell? ⟨b, off + (k * 2 + r), none⟩ = (gSmp (xs.getD k zeroSmp))[r]?) :
    ∀ j u, (cellsSmp xs)[j]? = some u → w.cell? ((⟨b, off, none⟩ : Addr).add j) = some u := fm_from gSmp 2 (by decide) (fun _ => rfl) zeroSmp h
theorem backSpr {w : World} {q : Nat} {cur : Array Value} {t : TypeId} {xs : List Spr} (h3 : w.heap[q]? = some (.cells cur t (0, 0))) (h7 : cur.toList.take (xs.length * 3) = cellsSpr xs) {k : Nat} (hk : k < xs.length) :
    w.cell? ⟨q, 0 + k * 3, none⟩ = some (.int .i64 (xs.getD k zeroSpr).low) ∧ w.cell? ⟨q, 0 + k * 3 + 1, none⟩ = some (.int .i64 (xs.getD k zeroSpr).high) ∧ w.cell? ⟨q, 0 + k * 3 + 2, none⟩ = some (.int .i64 (xs.getD k zeroSpr).fuel) := by
  rw [Nat.zero_add]
  exact ⟨fm_back gSpr 3 (fun _ => rfl) zeroSpr h3 h7 (r := 0) hk (by decide), fm_back gSpr 3 (fun _ => rfl) zeroSpr h3 h7 (r := 1) hk (by decide), fm_back gSpr 3 (fun _ => rfl) zeroSpr h3 h7 (r := 2) hk (by decide)⟩
theorem backSmp {w : World} {q : Nat} {cur : Array Value} {t : TypeId} {xs : List Smp} (h3 : w.heap[q]? = some (.cells cur t (0, 0))) (h7 : cur.toList.take (xs.length * 2) = cellsSmp xs) {k : Nat} (hk : k < xs.length) :
    w.cell? ⟨q, 0 + k * 2, none⟩ = some (.int .i64 (xs.getD k zeroSmp).mix) ∧ w.cell? ⟨q, 0 + k * 2 + 1, none⟩ = some (.bool (xs.getD k zeroSmp).foul) := by
  rw [Nat.zero_add]
  exact ⟨fm_back gSmp 2 (fun _ => rfl) zeroSmp h3 h7 (r := 0) hk (by decide), fm_back gSmp 2 (fun _ => rfl) zeroSmp h3 h7 (r := 1) hk (by decide)⟩
def zvSpr : Value := .agg #[.int .i64 0, .int .i64 0, .int .i64 0]
def zvSmp : Value := .agg #[.int .i64 0, .bool false]
theorem infoSpr : (Tryd.prog.info? 57).map (fun i => (i.zero, i.size, i.bytes)) = some (some zvSpr, 3, 24) := by kernel_rfl
theorem append_noSpr (z : Nat) (A : Option Addr) (c : Nat) (ty : TypeId) (w : World) : (Builtin.append_ #[22, 22] ty #[.slice (some ⟨z, 0, none⟩) 0 0, .slice A 0 c]).run Tryd.prog w = .ok (.slice (some ⟨z, 0, none⟩) 0 0) w := by
  obtain ⟨i0, hi, hz0, hz1, hz2⟩ := info_parts infoSpr
  cases A with
  | none => simp [Builtin.append_, run_underlying Tryd.underlying22, sizeOf, typeInfo, hi, Builtin.lenOf, Builtin.firstCells, loadCells, loadCellsFrom, storeCells]
  | some ad => simp [Builtin.append_, run_underlying Tryd.underlying22, sizeOf, typeInfo, hi, Builtin.lenOf, Builtin.firstCells, loadCells, loadCellsFrom, storeCells]
theorem wp_appendSpr {o : Oper} {a : Act} {K : Act → World → Prop} {Q : Exit → Act → World → Prop} (w : World) (s x : Operand)
    (ho : o.op = .call { callee := .builtin .append, args := #[s, x], argTypes := #[22, 22] }) (B z : Nat) (A : Option Addr) (c : Nat) (os : List Spr) (hs : a.eval s = .slice (some ⟨z, 0, none⟩) 0 0) (hz : w.heap[z]? = some (.cells #[] 57 (0, 0))) (hBz : B ≤ z)
    (hx : a.eval x = .slice A os.length c) (hO : SprAt w A os) (hl : os.length ≤ 1000)
    (h : ∀ A' c' w', SprAt w' A' os → (∀ b o, A' = some ⟨b, o, none⟩ → B ≤ b) → w.grownBy w' (some z) → K (a.put o.dst (.slice A' os.length c')) w') : o.wp Tryd.prog a w K Q := by
  have hlt := (Array.getElem?_eq_some_iff.1 hz).1
  by_cases h0 : os = []
  · subst h0
    have hr := append_noSpr z A c o.type w
    unfold Oper.wp execOp
    simp only [ho, resolve, invoke, builtin, Sem.run_bind, Sem.run_pure, Result.andThen_ok, List.map_toArray, List.map_cons, List.map_nil, hs, hx, List.length_nil, hr]
    exact h (some ⟨z, 0, none⟩) 0 w (fun hne => absurd rfl hne) (fun b o e => by cases e; exact hBz) ⟨rfl, rfl, rfl, Nat.le_refl _, fun _ _ _ => rfl⟩
  · obtain ⟨b, off, rfl, hb, hc⟩ := hO h0
    obtain ⟨i0, hi, hz0, hz1, hz2⟩ := info_parts infoSpr
    refine wp_append_own w s x 22 ho B 57 i0 zvSpr 3 24 Tryd.underlying22 hi hz0 hz1 hz2 rfl (by decide) (.slice (some ⟨z, 0, none⟩) 0 0) 0 [] hs ⟨rfl, .inr ⟨z, 0, #[], rfl, hBz, hz, Nat.le_refl _, Nat.zero_le _, rfl, rfl⟩⟩ ⟨b, off, none⟩ os.length c (cellsSpr os) hx (cellsSpr_len os) (cellsSpr_from (SprRow.atSpr hc)) (cellsSpr_one os) (by unfold maxLen; omega) (by omega) (by omega) (fun v' w' h1 h2 h3 => ?_)
    rw [Nat.zero_add, List.nil_append] at h1
    have hpos : 0 < os.length := List.length_pos_iff.2 h0
    rcases h1.2 with ⟨_, h4⟩ | ⟨g, cap, cur, rfl, a2, a3, a4, a5, a6, a7⟩
    · omega
    · exact h (some ⟨g, 0, none⟩) cap w' (fun _ => ⟨g, 0, rfl, (Array.getElem?_eq_some_iff.1 a3).1, fun k hk => backSpr a3 a7 hk⟩) (fun b o e => by cases e; exact a2) h2
theorem wpList_appendSpr {ops : Array Oper} {rest : List Oper} {o : Oper} {a : Act} {Q : Exit → Act → World → Prop} (w : World) (hgd : o.guard = none) (s x : Operand)
    (ho : o.op = .call { callee := .builtin .append, args := #[s, x], argTypes := #[22, 22] }) (B z : Nat) (A : Option Addr) (c : Nat) (os : List Spr) (hs : a.eval s = .slice (some ⟨z, 0, none⟩) 0 0) (hz : w.heap[z]? = some (.cells #[] 57 (0, 0))) (hBz : B ≤ z)
    (hx : a.eval x = .slice A os.length c) (hO : SprAt w A os) (hl : os.length ≤ 1000)
    (h : ∀ A' c' w', SprAt w' A' os → (∀ b o, A' = some ⟨b, o, none⟩ → B ≤ b) → w.grownBy w' (some z) → wpList Tryd.prog ops Q rest (a.put o.dst (.slice A' os.length c')) w') : wpList Tryd.prog ops Q (o :: rest) a w :=
  wpList_plain hgd fun _ hK => wp_appendSpr w s x ho B z A c os hs hz hBz hx hO hl fun A' c' w' h1 h2 h3 => hK _ _ (h A' c' w' h1 h2 h3)
theorem infoSmp : (Tryd.prog.info? 43).map (fun i => (i.zero, i.size, i.bytes)) = some (some zvSmp, 2, 16) := by kernel_rfl
theorem append_noSmp (z : Nat) (A : Option Addr) (c : Nat) (ty : TypeId) (w : World) : (Builtin.append_ #[23, 23] ty #[.slice (some ⟨z, 0, none⟩) 0 0, .slice A 0 c]).run Tryd.prog w = .ok (.slice (some ⟨z, 0, none⟩) 0 0) w := by
  obtain ⟨i0, hi, hz0, hz1, hz2⟩ := info_parts infoSmp
  cases A with
  | none => simp [Builtin.append_, run_underlying Tryd.underlying23, sizeOf, typeInfo, hi, Builtin.lenOf, Builtin.firstCells, loadCells, loadCellsFrom, storeCells]
  | some ad => simp [Builtin.append_, run_underlying Tryd.underlying23, sizeOf, typeInfo, hi, Builtin.lenOf, Builtin.firstCells, loadCells, loadCellsFrom, storeCells]
theorem wp_appendSmp {o : Oper} {a : Act} {K : Act → World → Prop} {Q : Exit → Act → World → Prop} (w : World) (s x : Operand)
    (ho : o.op = .call { callee := .builtin .append, args := #[s, x], argTypes := #[23, 23] }) (B z : Nat) (A : Option Addr) (c : Nat) (os : List Smp) (hs : a.eval s = .slice (some ⟨z, 0, none⟩) 0 0) (hz : w.heap[z]? = some (.cells #[] 43 (0, 0))) (hBz : B ≤ z)
    (hx : a.eval x = .slice A os.length c) (hO : SmpAt w A os) (hl : os.length ≤ 1000)
    (h : ∀ A' c' w', SmpAt w' A' os → (∀ b o, A' = some ⟨b, o, none⟩ → B ≤ b) → w.grownBy w' (some z) → K (a.put o.dst (.slice A' os.length c')) w') : o.wp Tryd.prog a w K Q := by
  have hlt := (Array.getElem?_eq_some_iff.1 hz).1
  by_cases h0 : os = []
  · subst h0
    have hr := append_noSmp z A c o.type w
    unfold Oper.wp execOp
    simp only [ho, resolve, invoke, builtin, Sem.run_bind, Sem.run_pure, Result.andThen_ok, List.map_toArray, List.map_cons, List.map_nil, hs, hx, List.length_nil, hr]
    exact h (some ⟨z, 0, none⟩) 0 w (fun hne => absurd rfl hne) (fun b o e => by cases e; exact hBz) ⟨rfl, rfl, rfl, Nat.le_refl _, fun _ _ _ => rfl⟩
  · obtain ⟨b, off, rfl, hb, hc⟩ := hO h0
    obtain ⟨i0, hi, hz0, hz1, hz2⟩ := info_parts infoSmp
    refine wp_append_own w s x 23 ho B 43 i0 zvSmp 2 16 Tryd.underlying23 hi hz0 hz1 hz2 rfl (by decide) (.slice (some ⟨z, 0, none⟩) 0 0) 0 [] hs ⟨rfl, .inr ⟨z, 0, #[], rfl, hBz, hz, Nat.le_refl _, Nat.zero_le _, rfl, rfl⟩⟩ ⟨b, off, none⟩ os.length c (cellsSmp os) hx (cellsSmp_len os) (cellsSmp_from (SprRow.atSmp hc)) (cellsSmp_one os) (by unfold maxLen; omega) (by omega) (by omega) (fun v' w' h1 h2 h3 => ?_)
    rw [Nat.zero_add, List.nil_append] at h1
    have hpos : 0 < os.length := List.length_pos_iff.2 h0
    rcases h1.2 with ⟨_, h4⟩ | ⟨g, cap, cur, rfl, a2, a3, a4, a5, a6, a7⟩
    · omega
    · exact h (some ⟨g, 0, none⟩) cap w' (fun _ => ⟨g, 0, rfl, (Array.getElem?_eq_some_iff.1 a3).1, fun k hk => backSmp a3 a7 hk⟩) (fun b o e => by cases e; exact a2) h2
theorem wpList_appendSmp {ops : Array Oper} {rest : List Oper} {o : Oper} {a : Act} {Q : Exit → Act → World → Prop} (w : World) (hgd : o.guard = none) (s x : Operand)
    (ho : o.op = .call { callee := .builtin .append, args := #[s, x], argTypes := #[23, 23] }) (B z : Nat) (A : Option Addr) (c : Nat) (os : List Smp) (hs : a.eval s = .slice (some ⟨z, 0, none⟩) 0 0) (hz : w.heap[z]? = some (.cells #[] 43 (0, 0))) (hBz : B ≤ z)
    (hx : a.eval x = .slice A os.length c) (hO : SmpAt w A os) (hl : os.length ≤ 1000)
    (h : ∀ A' c' w', SmpAt w' A' os → (∀ b o, A' = some ⟨b, o, none⟩ → B ≤ b) → w.grownBy w' (some z) → wpList Tryd.prog ops Q rest (a.put o.dst (.slice A' os.length c')) w') : wpList Tryd.prog ops Q (o :: rest) a w :=
  wpList_plain hgd fun _ hK => wp_appendSmp w s x ho B z A c os hs hz hBz hx hO hl fun A' c' w' h1 h2 h3 => hK _ _ (h A' c' w' h1 h2 h3)
theorem SprAt.other {w : World} {A : Option Addr} {xs : List Spr} (h : SprAt w A xs) {p : Addr} (hne : ∀ b o, A = some ⟨b, o, none⟩ → p.block ≠ b) (u : Value) : SprAt (w.setCell p u) A xs := by
  intro hx
  obtain ⟨b, off, hA, hb, hc⟩ := h hx
  have hb2 := hne b off hA
  refine ⟨b, off, hA, by simpa using hb, fun k hk => ?_⟩
  rw [World.cell?_setCell_other _ _ _ _ (fun e => hb2 (congrArg Addr.block e)), World.cell?_setCell_other _ _ _ _ (fun e => hb2 (congrArg Addr.block e)), World.cell?_setCell_other _ _ _ _ (fun e => hb2 (congrArg Addr.block e))]
  exact hc k hk
theorem SmpAt.other {w : World} {A : Option Addr} {xs : List Smp} (h : SmpAt w A xs) {p : Addr} (hne : ∀ b o, A = some ⟨b, o, none⟩ → p.block ≠ b) (u : Value) : SmpAt (w.setCell p u) A xs := by
  intro hx
  obtain ⟨b, off, hA, hb, hc⟩ := h hx
  have hb2 := hne b off hA
  refine ⟨b, off, hA, by simpa using hb, fun k hk => ?_⟩
  rw [World.cell?_setCell_other _ _ _ _ (fun e => hb2 (congrArg Addr.block e)), World.cell?_setCell_other _ _ _ _ (fun e => hb2 (congrArg Addr.block e))]
  exact hc k hk
set_option maxHeartbeats 4000000 in
set_option maxRecDepth 100000 in
theorem rcopy_any (d : Wat) (A : WA) (hn : d.spr.length ≤ 1000) (hm : d.smp.length ≤ 1000) (w : World) (hW : WIn w d A) :
    Calls Tryd.prog 21 #[wval d A] w fun e w' => ∃ A', e = .returned (wval d A') ∧ WIn w' d A' ∧ Ext w w' := by
  have HS := hid hW.spr
  have HM := hid hW.smp
  clear hW
  have HWI := hid (show ∀ (w' : World) (A' : WA), SprAt w' A'.SA d.spr → SmpAt w' A'.MA d.smp → WIn w' d A' from fun _ _ h1 h2 => ⟨h1, h2⟩)
  have t0 := blks3 w (.cells (wcells d A) 25) (.cells #[.slice none 0 0, .int .i64 0, .int .i64 0, .int .i64 0, .slice none 0 0] 25) (.cells (wcells d A) 25)
  have B0 := hid (show Blk _ _ _ _ from t0.1)
  have B1 := hid (show Blk _ _ _ _ from t0.2.1)
  have B2 := hid (show Blk _ _ _ _ from t0.2.2)
  clear t0
  have HN := hid hn
  have HN2 := hid hm
  clear hn hm
  obtain ⟨spr, most, miss, al, smp⟩ := d
  obtain ⟨SA, sc, MA, mc⟩ := A
  unfold wval wcells at *
  dsimp only at *
  obtain ⟨n, hn⟩ : ∃ n, spr.length = n := ⟨_, rfl⟩
  obtain ⟨m, hm⟩ : ∃ n, smp.length = n := ⟨_, rfl⟩
  rw [hn] at HN B0 B1 B2 ⊢
  rw [hm] at HN2 B0 B1 B2 ⊢
  have HLN := hid hn
  have HLM := hid hm
  clear hn hm
  go_enter Tryd.func21, Tryd.ntmps21
  go_wp2_with (at_builtin; refine Halt.mk ?_)
  unfold Halt
  obtain ⟨W, hWe⟩ : ∃ W, ((w.alloc (.cells #[.slice SA n sc, .int .i64 most, .int .i64 miss, .int .i64 al, .slice MA m mc] 25)).alloc (.cells #[.slice none 0 0, .int .i64 0, .int .i64 0, .int .i64 0, .slice none 0 0] 25)).alloc (.cells #[.slice SA n sc, .int .i64 most, .int .i64 miss, .int .i64 al, .slice MA m mc] 25) = W := ⟨_, rfl⟩
  have hsz : W.heap.size = w.heap.size + 1 + 1 + 1 := by rw [← hWe]; simp
  have E1 : Ext w W := by rw [← hWe]; (repeat' (first | with_reducible assumption | with_reducible exact Ext.refl _ | with_reducible refine Ext.alloc ?_ _ | with_reducible refine Ext.set ?_ ?_ _ | with_reducible refine Ext.drew ?_ | with_reducible refine Ext.drewN ?_ _ | with_reducible refine Ext.trans ?_ (by assumption) | (dsimp only; omega)))
  rw [hWe] at B0 B1 B2 ⊢
  clear hWe
  refine wpList_appendSpr _ rfl _ _ rfl (w.heap.size + 1 + 1 + 1) (w.heap.size + 1 + 1 + 1) SA sc spr rfl (by rw [← hsz]; exact blk_last W _) (Nat.le_refl _) (by rw [HLN.out]; rfl) ((HS.out.ext E1).ext (ext_alloc1 _ _)) (by rw [HLN.out]; exact HN.out) ?_
  intro A2 c2 w5 hso hbl hg
  rw [HLN.out]
  have E5 : Ext w w5 := Below.grown (E1.alloc _) hg (E1.alloc _).size (fun k e => by injection e with e; omega)
  have K0 := hid ((B0.out.alloc _).grown hg (fun e => by injection e with e; omega))
  have K1 := hid ((B1.out.alloc _).grown hg (fun e => by injection e with e; omega))
  have K2 := hid ((B2.out.alloc _).grown hg (fun e => by injection e with e; omega))
  have hs5 : w.heap.size + 4 ≤ w5.heap.size := by have := hg.size; simp at this; omega
  have HSO := hid hso
  clear hso hg B0 B1 B2
  have d0 := K0.out.cell 0
  have d1 := K0.out.cell 1
  have d2 := K0.out.cell 2
  have d3 := K0.out.cell 3
  have d4 := K0.out.cell 4
  simp only [List.getElem?_toArray, List.getElem?_cons_zero, List.getElem?_cons_succ] at d0 d1 d2 d3 d4
  have dz := K0.out.lt
  have e0 := K2.out.cell 0
  have e1 := K2.out.cell 1
  have e2 := K2.out.cell 2
  have e3 := K2.out.cell 3
  have e4 := K2.out.cell 4
  simp only [List.getElem?_toArray, List.getElem?_cons_zero, List.getElem?_cons_succ] at e0 e1 e2 e3 e4
  have ez := K2.out.lt
  have f0 := K2.out.fro 0
  have f4 := K2.out.fro 4
  go_wp2_with (at_builtin; refine Halt.mk ?_)
  unfold Halt
  obtain ⟨V, hVe⟩ : ∃ V, w5.setCell ⟨w.heap.size + 1 + 1, 0, none⟩ (.slice A2 n c2) = V := ⟨_, rfl⟩
  have hsV : V.heap.size = w5.heap.size := by rw [← hVe]; simp
  have EV : Ext w V := by rw [← hVe]; exact E5.set (by dsimp only; omega) _
  have JS := hid (HSO.out.other (p := ⟨w.heap.size + 1 + 1, 0, none⟩) (fun b o e => by have := hbl b o e; dsimp only; omega) (.slice A2 n c2))
  have J0 := hid (K0.out.other (p := ⟨w.heap.size + 1 + 1, 0, none⟩) (by dsimp only; omega) (.slice A2 n c2))
  have J1 := hid (K1.out.other (p := ⟨w.heap.size + 1 + 1, 0, none⟩) (by dsimp only; omega) (.slice A2 n c2))
  have J2 := hid (K2.out.setAt 0 (.slice A2 n c2))
  rw [hVe] at J0 J1 J2 JS ⊢
  clear hVe K0 K1 K2 d0 d1 d2 d3 d4 dz e0 e1 e2 e3 e4 ez f0 f4
  rw [← hsV] at hs5 ⊢
  refine wpList_appendSmp _ rfl _ _ rfl (w.heap.size + 1 + 1 + 1) V.heap.size MA mc smp (by rw [hsV]; rfl) (blk_last V _) (by omega) (by rw [HLM.out]; rfl) ((HM.out.ext EV).ext (ext_alloc1 _ _)) (by rw [HLM.out]; exact HN2.out) ?_
  intro A3 c3 w7 hso2 hbl2 hg2
  rw [HLM.out]
  have X7 : Ext V w7 := Below.grown (ext_alloc1 V _) hg2 (ext_alloc1 V _).size (fun k e => by injection e with e; omega)
  have L0 := hid (J0.out.ext X7)
  have L1 := hid (J1.out.ext X7)
  have L2 := hid (J2.out.ext X7)
  have LS := hid (JS.out.ext X7)
  have LM := hid hso2
  have E7 := EV.trans X7
  have HBM := hid hbl2
  have HBS := hid hbl
  clear J0 J1 J2 JS hso2 hg2 hbl hbl2 HS HM HSO
  have hs7 := X7.size
  simp only [List.setIfInBounds_toArray, List.set_cons_zero] at L2
  have d0 := L1.out.cell 0
  have d1 := L1.out.cell 1
  have d2 := L1.out.cell 2
  have d3 := L1.out.cell 3
  have d4 := L1.out.cell 4
  simp only [List.getElem?_toArray, List.getElem?_cons_zero, List.getElem?_cons_succ] at d0 d1 d2 d3 d4
  have dz := L1.out.lt
  have e0 := L2.out.cell 0
  have e1 := L2.out.cell 1
  have e2 := L2.out.cell 2
  have e3 := L2.out.cell 3
  have e4 := L2.out.cell 4
  simp only [List.getElem?_toArray, List.getElem?_cons_zero, List.getElem?_cons_succ] at e0 e1 e2 e3 e4
  have ez := L2.out.lt
  have f0 := L1.out.fro 0
  have f1 := L1.out.fro 1
  have f2 := L1.out.fro 2
  have f3 := L1.out.fro 3
  have f4 := L1.out.fro 4
  have g4 := L2.out.fro 4
  go_wp2
  refine bodyPost_ret (v := .agg #[.slice A2 n c2, .int .i64 most, .int .i64 miss, .int .i64 al, .slice A3 m c3]) (by simp [results, Tryd.results21, go_sem, d0, d1, d2, d3, d4]) rfl ⟨⟨A2, c2, A3, c3⟩, rfl, HWI.out _ _ ?_ ?_, by have := hs7; (repeat' (first | with_reducible assumption | with_reducible exact Ext.refl _ | with_reducible refine Ext.alloc ?_ _ | with_reducible refine Ext.set ?_ ?_ _ | with_reducible refine Ext.drew ?_ | with_reducible refine Ext.drewN ?_ _ | with_reducible refine Ext.trans ?_ (by assumption) | (dsimp only; omega)))⟩
  · repeat' (first | with_reducible exact LS.out | (with_reducible refine SprAt.other ?_ (fun b o e => ?_) _; rotate_left; (have := HBS.out b o e; dsimp only; omega)))
  · repeat' (first | with_reducible exact LM.out | (with_reducible refine SmpAt.other ?_ (fun b o e => ?_) _; rotate_left; (have := HBM.out b o e; dsimp only; omega)))
end Go.Proofs.YtcfijidlbimckaaDoor
