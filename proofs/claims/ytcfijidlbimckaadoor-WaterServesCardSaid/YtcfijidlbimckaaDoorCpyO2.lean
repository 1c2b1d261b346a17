/- What an append to the copy leaves. -/
import Derived.Test.YtcfijidlbimckaaDoorCpyO
set_option linter.unusedSimpArgs false
set_option linter.unusedVariables false
namespace Go.Proofs.YtcfijidlbimckaaDoor
open Go.RowKit
theorem smp_new (V : World) (y : Smp) : ∀ j u, (gSmp y)[j]? = some u → (V.alloc (.cells #[.int .i64 y.mix, .bool y.foul] 43)).cell? ((⟨V.heap.size, 0, none⟩ : Addr).add j) = some u := by
  intro j u hj
  exact cellsSmp_from (w := V.alloc (.cells #[.int .i64 y.mix, .bool y.foul] 43)) (b := V.heap.size) (off := 0) (xs := [y]) (fun k hk r hr => by
    obtain rfl : k = 0 := by simpa using hk
    rw [show 0 + (0 * 2 + r) = r by omega, blk_cell (blk_last V _)]
    match r, hr with
    | 0, _ => rfl
    | 1, _ => rfl) j u (by simpa [cellsSmp] using hj)
theorem OwnS.lt {w : World} {B : Nat} {v : Value} {xs : List Smp} (h : OwnS w B v xs) : ∀ q, v.ownBlock = some q → q < w.heap.size := by
  intro q hq
  rcases h.2 with ⟨h2, _⟩ | ⟨g, cap, cur, a1, a2, a3, _⟩
  · rw [h2] at hq; cases hq
  · rw [a1] at hq
    cases hq
    exact (Array.getElem?_eq_some_iff.1 a3).1
theorem OwnS.extApp {w W w5 : World} {B : Nat} {v : Value} {xs : List Smp} {o : Obj} (h : OwnS W B v xs) (e : Ext w W) (hB : w.heap.size ≤ B) (hg : (W.alloc o).grownBy w5 v.ownBlock) : Ext w w5 :=
  Below.grown (e.alloc o) hg (e.alloc o).size (fun k ek => Nat.le_trans hB (h.block k ek))
theorem SprAt.grown {w w' : World} {A : Option Addr} {xs : List Spr} {row : Option Nat} (h : SprAt w A xs) (hg : w.grownBy w' row) (hne : xs ≠ [] → ∃ b o, A = some ⟨b, o, none⟩ ∧ some b ≠ row) : SprAt w' A xs := fun hx => by
  obtain ⟨b, off, hA, hb, hc⟩ := h hx
  obtain ⟨b', o', hA', hr⟩ := hne hx
  rw [hA] at hA'
  injection hA' with hA'
  injection hA' with h1
  subst h1
  have hbl := hg.block b hb hr
  have hce : ∀ o, w'.cell? ⟨b, o, none⟩ = w.cell? ⟨b, o, none⟩ := fun o => by unfold World.cell?; simp only [hbl]
  refine ⟨b, off, hA, by have := hg.size; omega, fun k hk => ?_⟩
  rw [hce, hce, hce]
  exact hc k hk
theorem OwnS.otherBlk {w : World} {B : Nat} {v : Value} {xs : List Smp} (h : OwnS w B v xs) {p : Addr} {t : TypeId} {cs : Array Value} (hb : Blk w p.block t cs) (ht : t ≠ 43) (u : Value) : OwnS (w.setCell p u) B v xs :=
  h.keep fun q cs' _ ho => (Below.heap_setCell w p u q (by
    rintro rfl
    have hb' : w.heap[p.block]? = some (.cells cs t (0, 0)) := hb
    rw [ho] at hb'
    injection hb' with hb'
    injection hb' with h1 h2
    exact ht h2.symm)).trans ho
theorem OwnS.smp {w : World} {B : Nat} {A : Option Addr} {n c : Nat} {xs : List Smp} (h : OwnS w B (.slice A n c) xs) : SmpAt w A xs := by
  obtain ⟨A', c', h1, h2⟩ := h.form
  injection h1 with h1
  subst h1
  exact h2
end Go.Proofs.YtcfijidlbimckaaDoor
