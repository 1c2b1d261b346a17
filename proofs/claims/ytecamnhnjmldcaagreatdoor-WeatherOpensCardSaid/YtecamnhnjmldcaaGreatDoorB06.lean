/- Slices of scenarios that a call builds. -/
import Derived.Test.YtecamnhnjmldcaaGreatDoorB05
set_option linter.unusedSimpArgs false
set_option linter.unusedVariables false
namespace Go.Proofs.YtecamnhnjmldcaaGreatDoor
open Go.RowKit
theorem Ownl.kind {α : Type} {e : TypeId} {s : Nat} {g : α → List Value} {w : World} {B : Nat} {v : Value} {xs : List α} (h : Ownl e s g w B v xs) : ∀ q, v.ownBlock = some q → ∃ cs, w.heap[q]? = some (.cells cs e (0, 0)) := by
  intro q hq
  rcases h.2 with ⟨h2, _⟩ | ⟨g, cap, cur, a1, a2, a3, _⟩
  · rw [h2] at hq; cases hq
  · rw [a1] at hq
    cases hq
    exact ⟨_, a3⟩
/-- Only a block of another element type has turned. -/
def Apart (w : World) (row : Option Nat) (e : TypeId) : Prop := ∀ r, row = some r → ∃ cs t, w.heap[r]? = some (.cells cs t (0, 0)) ∧ t ≠ e
theorem Apart.none (w : World) (e : TypeId) : Apart w none e := fun _ h => by cases h
theorem Apart.blk {w : World} {b : Nat} {t e : TypeId} {cs : Array Value} (h : Blk w b t cs) (hne : t ≠ e) : Apart w (some b) e := fun r hr => by cases hr; exact ⟨cs, t, h, hne⟩
theorem Apart.own {α : Type} {e t : TypeId} {s : Nat} {g : α → List Value} {w : World} {B : Nat} {v : Value} {xs : List α} (h : Ownl t s g w B v xs) (hne : t ≠ e) : Apart w v.ownBlock e := fun r hr => by
  obtain ⟨cs, hc⟩ := h.kind r hr
  exact ⟨cs, t, hc, hne⟩
theorem Ownl.apart {α : Type} {e : TypeId} {s : Nat} {g : α → List Value} {w w' : World} {B : Nat} {v : Value} {xs : List α} {row : Option Nat} (h : Ownl e s g w B v xs) (hg : w.grownBy w' row) (ha : Apart w row e) : Ownl e s g w' B v xs := by
  refine h.grown hg ?_
  cases hv : v.ownBlock with
  | none => exact .inl rfl
  | some q =>
    right
    intro hq
    obtain ⟨cs, h1⟩ := h.kind q hv
    obtain ⟨cs2, t, h2, h3⟩ := ha q hq.symm
    rw [h1] at h2
    injection h2 with h2
    injection h2 with _ h2 _
    exact h3 h2.symm
theorem Blk.apart {w w' : World} {b : Nat} {t : TypeId} {cs : Array Value} {row : Option Nat} (h : Blk w b t cs) (hg : w.grownBy w' row) (ha : Apart w row t) : Blk w' b t cs := h.grown hg (fun e => by
  obtain ⟨cs2, t2, h2, h3⟩ := ha b e.symm
  have h' : w.heap[b]? = some (.cells cs t (0, 0)) := h
  rw [h'] at h2
  injection h2 with h2
  injection h2 with _ h2 _
  exact h3 h2.symm)
theorem grown_set (w : World) (p : Addr) (u : Value) : w.grownBy (w.setCell p u) (some p.block) := by
  refine ⟨rfl, rfl, rfl, by simp, fun k _ hk => Below.heap_setCell w p u k (fun e => hk (by rw [e]))⟩
def OwnSc (w : World) (B : Nat) (v : Value) (ss : List (List Hr)) : Prop :=
  ∃ vals : List Value, vals.length = ss.length ∧ Ownl 92 1 (fun (x : Value) => [x]) w B v vals ∧ ∀ k, k < ss.length → Ownl 143 6 gHr w B (vals.getD k undef) (ss.getD k [])
theorem OwnSc.nil (w : World) (B : Nat) : OwnSc w B (.slice none 0 0) [] := ⟨[], rfl, Ownl.nil _ _, fun k hk => by simp at hk⟩
theorem OwnSc.apart {w w' : World} {B : Nat} {v : Value} {ss : List (List Hr)} {row : Option Nat} (h : OwnSc w B v ss) (hg : w.grownBy w' row) (h1 : Apart w row 92) (h2 : Apart w row 143) : OwnSc w' B v ss := by
  obtain ⟨vals, hl, ho, hi⟩ := h
  exact ⟨vals, hl, ho.apart hg h1, fun k hk => (hi k hk).apart hg h2⟩
theorem OwnSc.ext {w w' : World} {B : Nat} {v : Value} {ss : List (List Hr)} (h : OwnSc w B v ss) (e : Ext w w') : OwnSc w' B v ss := h.apart (ext_grown e) (Apart.none _ _) (Apart.none _ _)
theorem OwnSc.low {w : World} {B B' : Nat} {v : Value} {ss : List (List Hr)} (h : OwnSc w B v ss) (hB : B' ≤ B) : OwnSc w B' v ss := by
  obtain ⟨vals, hl, ho, hi⟩ := h
  exact ⟨vals, hl, ho.low hB, fun k hk => (hi k hk).low hB⟩
theorem OwnSc.form {w : World} {B : Nat} {v : Value} {ss : List (List Hr)} (h : OwnSc w B v ss) : ∃ A c, v = .slice A ss.length c ∧ ss.length ≤ c ∧ ScsAt w A ss ∧ (∀ b o sp, A = some ⟨b, o, sp⟩ → B ≤ b) := by
  obtain ⟨vals, hl, ho, hi⟩ := h
  obtain ⟨A, c, hv, hc, hf, hb⟩ := ho.form (by decide) (fun _ => rfl) undef
  rw [hl] at hv hc
  refine ⟨A, c, hv, hc, fun hne => ?_, hb⟩
  have hne' : vals ≠ [] := by rintro rfl; exact hne (List.length_eq_zero_iff.1 hl.symm)
  obtain ⟨b, off, hA, hbl, hcell⟩ := hf hne'
  refine ⟨b, off, hA, hbl, fun k hk => ?_⟩
  obtain ⟨A2, c2, hv2, hc2, hf2, _⟩ := (hi k hk).form (by decide) (fun _ => rfl) zeroHr
  have := hcell k (by omega) 0 (by omega)
  rw [hv2] at this
  refine ⟨A2, c2, ?_, hc2, flat_hrs.1 hf2⟩
  rw [Nat.mul_one, Nat.add_zero] at this
  exact this
theorem OwnSc.block {w : World} {B : Nat} {v : Value} {ss : List (List Hr)} (h : OwnSc w B v ss) : ∀ q, v.ownBlock = some q → B ≤ q ∧ q < w.heap.size := by
  obtain ⟨vals, hl, ho, hi⟩ := h
  exact ho.block
theorem infoSc : (Tryz.prog.info? 92).map (fun i => (i.zero, i.size, i.bytes)) = some (some (.agg #[.slice none 0 0]), 1, 24) := by kernel_rfl
theorem OwnSc.one {w : World} {B : Nat} {v : Value} {ss : List (List Hr)} (h : OwnSc w B v ss) {x : Value} {s : List Hr} (hx : Ownl 143 6 gHr w B x s) {w' : World} {v' : Value} (hg : w.grownBy w' v.ownBlock)
    {vals : List Value} (hl : vals.length = ss.length) (ho : Ownl 92 1 (fun (x : Value) => [x]) w B v vals) (hi : ∀ k, k < ss.length → Ownl 143 6 gHr w B (vals.getD k undef) (ss.getD k [])) (ho' : Ownl 92 1 (fun (x : Value) => [x]) w' B v' (vals ++ [x])) : OwnSc w' B v' (ss ++ [s]) := by
  have hap : Apart w v.ownBlock 143 := Apart.own ho (by decide)
  refine ⟨vals ++ [x], by simp [hl], ho', fun k hk => ?_⟩
  rw [List.length_append] at hk
  by_cases hlt : k < ss.length
  · have e1 : (vals ++ [x]).getD k undef = vals.getD k undef := by simp only [List.getD_eq_getElem?_getD]; rw [List.getElem?_append_left (by omega)]
    have e2 : (ss ++ [s]).getD k [] = ss.getD k [] := by simp only [List.getD_eq_getElem?_getD]; rw [List.getElem?_append_left hlt]
    rw [e1, e2]
    exact (hi k hlt).apart hg hap
  · obtain rfl : k = ss.length := by simp at hk; omega
    have e1 : (vals ++ [x]).getD ss.length undef = x := by simp only [List.getD_eq_getElem?_getD]; rw [← hl, List.getElem?_append_right (Nat.le_refl _)]; simp
    have e2 : (ss ++ [s]).getD ss.length [] = s := by simp only [List.getD_eq_getElem?_getD]; rw [List.getElem?_append_right (Nat.le_refl _)]; simp
    rw [e1, e2]
    exact hx.apart hg hap
/-- append of one scenario, as one operation. -/
theorem wp_app1Sc {o : Oper} {a : Act} {K : Act → World → Prop} {Q : Exit → Act → World → Prop} (w : World) (s x : Operand)
    (hop : o.op = Op.call { callee := Callee.builtin Builtin.append, args := #[s, x], argTypes := #[22, 22] }) (B : Nat) (v : Value) (ss : List (List Hr)) (hs : a.eval s = v) (hown : OwnSc w B v ss)
    (ad : Addr) (y : Value) (hy1 : y.oneCell' = true) (hs1 : List Hr) (hx : a.eval x = .slice (some ad) 1 1) (hy : w.cell? ad = some y) (hyo : Ownl 143 6 gHr w B y hs1) (hl : ss.length ≤ 10000) (hB : B ≤ w.heap.size)
    (hK : ∀ v' w', OwnSc w' B v' (ss ++ [hs1]) → w.grownBy w' v.ownBlock → (∀ r, v.ownBlock = some r → ∃ cs, w.heap[r]? = some (.cells cs 92 (0, 0)) ∧ B ≤ r) → K (a.put o.dst v') w') : o.wp Tryz.prog a w K Q := by
  obtain ⟨vals, hvl, ho, hi⟩ := id hown
  obtain ⟨i0, hin, hz0, hz1, hz2⟩ := info_parts infoSc
  have hown' : w.ownsRow B 92 1 v vals.length (vals.flatMap fun (x : Value) => [x]) := ho
  refine wp_append_own w s x 22 hop B 92 i0 (.agg #[.slice none 0 0]) 1 24 Tryz.underlying22 hin hz0 hz1 hz2 rfl (by decide) v vals.length _ hs hown' ad 1 1 [y] hx rfl ?_ (by intro u hu; simp at hu; subst hu; exact hy1) (by unfold maxLen; omega) (by omega) hB ?_
  · intro j u hj
    cases j with
    | zero =>
      simp at hj
      subst hj
      have e : ad.add 0 = ad := by unfold Addr.add; simp
      rw [e]
      exact hy
    | succ j => simp at hj
  · intro v' w' h1 h2 _
    refine hK v' w' ?_ h2 (fun r hr => ?_)
    · refine hown.one hyo h2 hvl ho hi ?_
      unfold Ownl
      rw [List.length_append, List.flatMap_append]
      exact h1
    · obtain ⟨cs, hc⟩ := ho.kind r hr
      exact ⟨cs, hc, (ho.block r hr).1⟩
end Go.Proofs.YtecamnhnjmldcaaGreatDoor
