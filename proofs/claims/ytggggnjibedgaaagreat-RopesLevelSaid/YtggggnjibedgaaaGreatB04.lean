/- Rows of numbers that the library sorts. -/
import Derived.Test.YtggggnjibedgaaaGreatB03
import Derived.Test.YtggggnjibedgaaaGreatB02
import Derived.Sort.LotA
import Derived.Laws.Bits64b
import Derived.IntWalk
import Derived.Laws.CopyOwn
import Derived.Deep.RegionHeld3
import Derived.Deep.OwnRows
set_option linter.unusedSimpArgs false
set_option linter.unusedVariables false
namespace Go.Proofs.YtggggnjibedgaaaGreat
open Go.RowKit
open Go.Sort Go.Shelf
/-- Row b holds just these numbers, with room for cap of them. -/
def RowI (W : World) (b cap : Nat) (d : List Int) : Prop := d.length ≤ cap ∧ ∃ cur : Array Value, W.heap[b]? = some (.cells cur 3 (0, 0)) ∧ cur.size = cap ∧ ∀ j, j < d.length → cur[j]? = some (.int .i64 (d.getD j 0))
theorem RowI.lt {W : World} {b cap : Nat} {d : List Int} (h : RowI W b cap d) : b < W.heap.size := by
  obtain ⟨_, cur, h1, _, _⟩ := h
  exact (Array.getElem?_eq_some_iff.1 h1).1
theorem RowI.cell {W : World} {b cap : Nat} {d : List Int} (h : RowI W b cap d) {j : Nat} (hj : j < d.length) : W.cell? ⟨b, j, none⟩ = some (.int .i64 (d.getD j 0)) := by
  obtain ⟨_, cur, h1, _, h3⟩ := h
  rw [blk_cell h1]
  exact h3 j hj
theorem RowI.fro {W : World} {b cap : Nat} {d : List Int} (h : RowI W b cap d) (j : Nat) : W.frozen? ⟨b, j, none⟩ = false := by
  obtain ⟨_, cur, h1, _, h3⟩ := h
  simp [World.frozen?, h1]
theorem RowI.ints {W : World} {b cap : Nat} {d : List Int} (h : RowI W b cap d) : IntsAt W (some ⟨b, 0, none⟩) d := fun _ =>
  ⟨b, 0, rfl, h.lt, fun k hk => by rw [Nat.zero_add]; exact h.cell hk⟩
theorem RowI.holds {W : World} {b cap : Nat} {d : List Int} (h : RowI W b cap d) : Holds (Value.int .i64) W b 0 d.toArray := fun j hj => by
  have hj' : j < d.length := by simpa using hj
  refine ⟨?_, h.fro _⟩
  rw [Nat.zero_add, h.cell hj']
  congr 2
  simp [List.getD, List.getElem?_eq_getElem hj']
theorem RowI.grown {W W' : World} {b cap : Nat} {d : List Int} {row : Option Nat} (h : RowI W b cap d) (hg : W.grownBy W' row) (hne : some b ≠ row) : RowI W' b cap d := by
  obtain ⟨h0, cur, h1, h2, h3⟩ := h
  exact ⟨h0, cur, (hg.block b (Array.getElem?_eq_some_iff.1 h1).1 hne).trans h1, h2, h3⟩
theorem RowI.ext {W W' : World} {b cap : Nat} {d : List Int} (h : RowI W b cap d) (e : Ext W W') : RowI W' b cap d := h.grown (ext_grown e) (by simp)
theorem RowI.of_own {W : World} {B q cap : Nat} {d : List Int} (h : Ownl 3 1 gIn W B (.slice (some ⟨q, 0, none⟩) d.length cap) d) : RowI W q cap d := by
  rcases h.2 with ⟨h2, _⟩ | ⟨g', cap', cur, a1, a2, a3, a4, a5, a6, a7⟩
  · cases h2
  · cases a1
    refine ⟨a4, cur, a3, by omega, fun j hj => ?_⟩
    have h' : W.ownsRow B 3 1 (.slice (some ⟨q, 0, none⟩) d.length cap) d.length (d.flatMap gIn) := h
    have hc := h'.cellAt j (by omega)
    have hf := fm_at gIn 1 (fun _ => rfl) 0 d j 0 hj (by omega)
    rw [Nat.mul_one, Nat.add_zero] at hf
    rw [blk_cell a3] at hc
    rw [hc, hf]
    rfl
theorem putCells_at {α : Type} [Inhabited α] (enc : α → Value) (d : Array α) (c : Array Value) (j : Nat) (hj : j < d.size) (hc : d.size ≤ c.size) : (putCells enc 0 d c)[j]? = some (enc d[j]!) := by
  unfold putCells
  rw [Array.getElem?_mapIdx, Array.getElem?_eq_getElem (show j < c.size by omega)]
  simp [hj]
theorem putCells_size {α : Type} [Inhabited α] (enc : α → Value) (d : Array α) (c : Array Value) : (putCells enc 0 d c).size = c.size := by simp [putCells]
theorem RowI.put {α : Type} [Inhabited α] {W : World} {b cap : Nat} {d : List Int} (h : RowI W b cap d) (enc : α → Value) (f : α → Int) (he : ∀ x, enc x = .int .i64 (f x)) (d' : Array α) (hs : d'.size = d.length) (n : Nat) (os : Array Obj) :
    RowI (grow (putRow enc (Sort.ahead W n) b 0 d') os) b cap (d'.toList.map f) := by
  obtain ⟨h0, cur, h1, h2, h3⟩ := h
  have hlen : (d'.toList.map f).length = d.length := by simp [hs]
  have hb : b < W.heap.size := (Array.getElem?_eq_some_iff.1 h1).1
  refine ⟨by omega, putCells enc 0 d' cur, ?_, by rw [putCells_size, h2], fun j hj => ?_⟩
  · rw [heap_grow_old _ _ (by simpa [putRow, mapBlock, Sort.ahead] using hb)]
    simp [putRow, mapBlock, Sort.ahead, Array.getElem?_modify, h1, onCells]
  · have hj2 : j < d'.size := by omega
    rw [putCells_at enc d' cur j hj2 (by omega), he]
    congr 2
    simp [List.getD, hj2]
theorem grown_put {α : Type} [Inhabited α] (W : World) (b : Nat) (enc : α → Value) (d' : Array α) (n : Nat) (os : Array Obj) : W.grownBy (grow (putRow enc (Sort.ahead W n) b 0 d') os) (some b) := by
  refine ⟨rfl, rfl, rfl, by simp, fun k hk hne => ?_⟩
  rw [heap_grow_old _ _ (by simpa using hk)]
  have : b ≠ k := fun e => hne (by rw [e])
  simp [putRow, mapBlock, Sort.ahead, Array.getElem?_modify, this]
def isrt (d : List Int) : List Int := d.mergeSort fun x y => decide (x ≤ y)
set_option maxHeartbeats 1000000 in
theorem sort_any (d : List Int) (b cap : Nat) (hl : d.length ≤ 1000) (w : World) (h : RowI w b cap d) :
    Calls Tryz.prog 161 #[.slice (some ⟨b, 0, none⟩) d.length cap] w fun e w' => e = .returned (.tuple #[]) ∧ RowI w' b cap (isrt d) ∧ w.grownBy w' (some b) := by
  have hcon := AnyM.slices_Sort_int Tryz.lSort b 0 cap d w h.holds h.lt (by omega)
  change Calls Tryz.prog 161 _ _ _ at hcon
  refine hcon.mono ?_
  rintro e w' ⟨rfl, n, os, rfl⟩
  refine ⟨rfl, ?_, grown_put _ _ _ _ _ _⟩
  have h2 := h.put (Value.int .i64) (fun x => x) (fun _ => rfl) (d.mergeSort fun x y => decide (x ≤ y)).toArray (by simp) n os
  simpa [isrt] using h2
def cpt (d : List Int) : List Int := Lib.compactUpTo d.toArray d.toArray.size
theorem cpt_le (d : List Int) : (cpt d).length ≤ d.length := by
  unfold cpt Lib.compactUpTo
  rw [List.length_map]
  exact Nat.le_trans (List.length_filter_le _ _) (by simp)
set_option maxHeartbeats 1000000 in
theorem compact_any (d : List Int) (b cap : Nat) (hl : d.length ≤ 1000) (w : World) (h : RowI w b cap d) :
    Calls Tryz.prog 151 #[.slice (some ⟨b, 0, none⟩) d.length cap] w fun e w' => e = .returned (.slice (some ⟨b, 0, none⟩) (cpt d).length cap) ∧ RowI w' b cap (cpt d) ∧ w.grownBy w' (some b) := by
  have hcon := AnyE.slices_Compact Tryz.lComp (Value.int .i64) (fun _ => rfl) (EqlAt.intD _ _ .i64) (NeqAt.intD _ _ .i64) 0 Tryz.zeroValue3 b 0 cap d.toArray w h.holds (by simp; omega) (by simpa using h.1)
  change Calls Tryz.prog 151 _ _ _ at hcon
  have hs : d.toArray.size = d.length := by simp
  rw [hs] at hcon
  refine hcon.mono ?_
  rintro e w' ⟨rfl, q, rfl⟩
  have hle := cpt_le d
  have hz : Lib.compactUpTo d.toArray d.length = cpt d := by unfold cpt; rw [hs]
  rw [hz]
  have h2 := h.put (Value.int .i64) (fun x => x) (fun _ => rfl) ((cpt d) ++ List.replicate (d.length - (cpt d).length) 0).toArray (by simp; omega) q #[]
  have hg := grown_put w b (Value.int .i64) ((cpt d) ++ List.replicate (d.length - (cpt d).length) 0).toArray q #[]
  rw [grow_empty] at h2 hg
  refine ⟨rfl, ?_, hg⟩
  obtain ⟨g0, cur, g1, g2, g3⟩ := h2
  refine ⟨by have := h.1; omega, cur, g1, g2, fun j hj => ?_⟩
  have hj2 : j < (((cpt d) ++ List.replicate (d.length - (cpt d).length) 0).toArray.toList.map fun x => x).length := by simp; omega
  rw [g3 j hj2]
  congr 2
  simp [List.getD, List.getElem?_append, hj]
end Go.Proofs.YtggggnjibedgaaaGreat
/- The library's stable sort, at up to 20 numbers. -/
set_option linter.unusedSimpArgs false
set_option linter.unusedVariables false
namespace Go.Proofs.YtggggnjibedgaaaGreat
open Go.RowKit
open Go.Sort Go.Shelf
/-- A number, taken within bounds, as it lies in a row. -/
def encM (m x : Nat) : Value := .int .i64 ((x % m : Nat) : Int)
theorem nI_mod (d : List Nat) (m : Nat) (h : ∀ x ∈ d, x < m) : (d.map fun x => ((x % m : Nat) : Int)) = nI d := by
  unfold nI
  refine List.map_congr_left fun x hx => ?_
  rw [Nat.mod_eq_of_lt (h x hx)]
theorem holdsM {W : World} {b cap m : Nat} {d : List Nat} (h : RowI W b cap (nI d)) (hd : ∀ x ∈ d, x < m) : Holds (encM m) W b 0 d.toArray := fun j hj => by
  have hj' : j < d.length := by simpa using hj
  refine ⟨?_, h.fro _⟩
  rw [Nat.zero_add, h.cell (by rw [nI_len]; exact hj'), nI_at d j hj']
  unfold encM
  have e : d.toArray[j]! = d.getD j 0 := by simp [List.getD, List.getElem?_eq_getElem hj', hj']
  rw [e, Nat.mod_eq_of_lt (hd _ (mem_at d 0 j hj'))]
theorem gtM_swo (f : Nat → Int) (m : Nat) : SWO (fun x y => decide (gtM f m x y < 0)) where
  irrefl x := by unfold gtM; simp
  trans x y z h1 h2 := by unfold gtM at *; simp only [decide_eq_true_eq] at *; omega
  ntrans x y z h1 h2 := by unfold gtM at *; simp only [decide_eq_false_iff_not] at *; omega
theorem sortM_perm (f : Nat → Int) (m : Nat) (d : List Nat) : (sortM f m d).Perm d := by
  have h := (insertionSort_holds (gtM_swo f m) d.toArray 0 d.length (Nat.zero_le _) (by simp)).1
  obtain ⟨h1, _, h3⟩ := h
  unfold sortM
  generalize Go.Sort.insertionSort (fun x y => decide (gtM f m x y < 0)) d.toArray 0 d.length = s at *
  have hz : s.size = d.length := by rw [h1]; simp
  have e1 : s.extract 0 d.length = s := by rw [← hz]; simp
  have e2 : d.toArray.extract 0 d.length = d.toArray := by simp
  rw [e1, e2] at h3
  simpa using h3
theorem sortM_mem (f : Nat → Int) (m : Nat) (d : List Nat) (x : Nat) (hx : x ∈ sortM f m d) : x ∈ d := (sortM_perm f m d).mem_iff.1 hx
theorem sortM_len (f : Nat → Int) (m : Nat) (d : List Nat) : (sortM f m d).length = d.length := (sortM_perm f m d).length_eq
set_option maxHeartbeats 2000000 in
theorem insert_any (fn : Nat) (caps : Array Value) (eg : ∀ args w, (callFunc fn args).run Tryz.prog w = .ok (.enter fn args) w) (m : Nat) (hm : 0 < m) (f : Nat → Int) (d : List Nat) (hd : ∀ x ∈ d, x < m) (b cap : Nat) (hl : d.length ≤ 1000) (w : World) (h : RowI w b cap (nI d))
    (hc : ∀ W, w.grownBy W (some b) → ∀ x y : Nat, x < m → y < m → Calls Tryz.prog fn (#[.int .i64 x, .int .i64 y] ++ caps) W fun e W' => e = .returned (.int .i64 (f y - f x)) ∧ ∃ q, W' = W.drewN q) :
    Calls Tryz.prog 164 #[.slice (some ⟨b, 0, none⟩) d.length cap, .int .i64 0, .int .i64 d.length, .func (.func fn) #[] caps] w fun e w' => e = .returned (.tuple #[]) ∧ RowI w' b cap (nI (sortM f m d)) ∧ w.grownBy w' (some b) := by
  have hr : CmpReads Tryz.prog fn caps (encM m) (gtM f m) b 0 d.toArray.size w := fun k os dk _ x y => hc _ (grown_put w b (encM m) dk k os) (x % m) (y % m) (Nat.mod_lt _ hm) (Nat.mod_lt _ hm)
  have hcon := Any.insertionSortCmpFunc_one Tryz.lIns (encM m) (fun _ => rfl) (gtM f m) fn caps b 0 cap 0 d.toArray.size d.toArray w eg hr (holdsM h hd) (Nat.zero_le _) (Nat.le_refl _) (by simp; omega)
  change Calls Tryz.prog 164 _ _ _ at hcon
  have hs : d.toArray.size = d.length := by simp
  rw [hs] at hcon
  refine hcon.mono ?_
  rintro e w' ⟨rfl, q, rfl⟩
  have hz : (Go.Sort.insertionSort (ltOf (gtM f m)) d.toArray 0 d.length).toList = sortM f m d := rfl
  have hlen := sortM_len f m d
  have h2 := h.put (encM m) (fun x => ((x % m : Nat) : Int)) (fun _ => rfl) (Go.Sort.insertionSort (ltOf (gtM f m)) d.toArray 0 d.length) (by rw [← Array.length_toList, hz, hlen, nI_len]) q #[]
  have hg := grown_put w b (encM m) (Go.Sort.insertionSort (ltOf (gtM f m)) d.toArray 0 d.length) q #[]
  rw [grow_empty] at h2 hg
  rw [hz, nI_mod _ m (fun x hx => hd x (sortM_mem f m d x hx))] at h2
  exact ⟨rfl, h2, hg⟩
set_option maxRecDepth 100000 in
set_option maxHeartbeats 2000000 in
theorem stable_any (fn : Nat) (caps : Array Value) (eg : ∀ args w, (callFunc fn args).run Tryz.prog w = .ok (.enter fn args) w) (m : Nat) (hm : 0 < m) (f : Nat → Int) (d : List Nat) (hd : ∀ x ∈ d, x < m) (b cap : Nat) (hl : d.length < 20) (w : World) (h : RowI w b cap (nI d))
    (hc : ∀ W, w.grownBy W (some b) → ∀ x y : Nat, x < m → y < m → Calls Tryz.prog fn (#[.int .i64 x, .int .i64 y] ++ caps) W fun e W' => e = .returned (.int .i64 (f y - f x)) ∧ ∃ q, W' = W.drewN q) :
    Calls Tryz.prog 148 #[.slice (some ⟨b, 0, none⟩) d.length cap, .func (.func fn) #[] caps] w fun e w' => e = .returned (.tuple #[]) ∧ RowI w' b cap (nI (sortM f m d)) ∧ w.grownBy w' (some b) := by
  have HI := hid (insert_any fn caps eg m hm f d hd b cap (by omega) w h hc)
  clear hc h hd eg
  generalize nI (sortM f m d) = R at *
  generalize d.length = n at *
  have hs : Calls Tryz.prog 158 #[.slice (some ⟨b, 0, none⟩) n cap, .int .i64 n, .func (.func fn) #[] caps] w fun e w' => e = .returned (.tuple #[]) ∧ RowI w' b cap R ∧ w.grownBy w' (some b) := by
    have h1 : ¬ (20 : Int) ≤ (n : Int) := by omega
    have h2 : ¬ (20 : Int) < (n : Int) := by omega
    go_enter Tryz.func158, Tryz.ntmps158
    go_wp2
    go_loopw [7, 8] (fun u v wr => u = .int .i64 0 ∧ v = .int .i64 20 ∧ wr = w) (fun _ _ _ => 0)
    case atStart => exact ⟨rfl, rfl, rfl⟩
    case round =>
      obtain ⟨rfl, rfl, hwr⟩ := hrel
      obtain rfl := hwr.symm
      go_wp2_with (go_at_call 164; refine HI.out.mono ?_; rintro e w2 ⟨rfl, hR, hg⟩; have HR := hid hR; have HG := hid hg; clear hR hg)
      obtain ⟨w3, hw3⟩ : ∃ w3, w3 = w2 := ⟨_, rfl⟩
      go_loopw [6] (fun u wx => u = .int .i64 20 ∧ wx = w3) (fun _ _ => 0)
      case atStart => exact ⟨rfl, hw3.symm⟩
      case round =>
        obtain ⟨rfl, hwx⟩ := hrel
        obtain rfl := (hwx.trans hw3).symm
        clear hwx hw3
        go_wp2
        go_end0
        exact ⟨rfl, HR.out, HG.out⟩
  have HS := hid hs
  clear hs HI
  go_enter Tryz.func148, Tryz.ntmps148
  go_wp2_with (go_at_call 158; refine HS.out.mono ?_; rintro e w2 ⟨rfl, hR, hg⟩; have HR := hid hR; have HG := hid hg; clear hR hg)
  go_end0
  exact ⟨rfl, HR.out, HG.out⟩
end Go.Proofs.YtggggnjibedgaaaGreat
/- The guides of the clients, sorted, each once. -/
set_option linter.unusedSimpArgs false
set_option linter.unusedVariables false
namespace Go.Proofs.YtggggnjibedgaaaGreat
open Go.RowKit
theorem isrt_len (d : List Int) : (isrt d).length = d.length := by unfold isrt; simp
set_option maxHeartbeats 1000000 in
theorem values_any (xs : List Int) (A : Option Addr) (n c : Nat) (hn : xs.length = n) (w : World) (hx : IntsAt w A xs) :
    Calls Tryz.prog 153 #[.slice A n c] w fun e w' => ∃ q, e = .returned (.func (.func 162) #[] #[.pointer (some ⟨q, 0, none⟩)]) ∧ BoxL q A c xs w' ∧ Ext w w' := by
  have HX := hid hx
  have HN := hid hn
  clear hx hn
  go_enter Tryz.func153, Tryz.ntmps153
  go_wp2
  go_ret
  exact ⟨w.heap.size, rfl, ⟨by simp, by rw [HN.out]; exact blk_cell (blk_last w _) 0, HX.out.ext (ext_alloc1 _ _)⟩, by (repeat' (first | with_reducible assumption | with_reducible exact Ext.refl _ | with_reducible refine Ext.alloc ?_ _ | with_reducible refine Ext.set ?_ ?_ _ | with_reducible refine Ext.drew ?_ | with_reducible refine Ext.drewN ?_ _ | with_reducible refine Ext.trans ?_ (by assumption) | (dsimp only; omega)))⟩
set_option maxHeartbeats 1000000 in
theorem sorted_any (q : Nat) (A : Option Addr) (c : Nat) (xs : List Int) (hl : xs.length ≤ 1000) (h0 : 0 < xs.length) (w : World) (hb : BoxL q A c xs w) :
    Calls Tryz.prog 152 #[.func (.func 162) #[] #[.pointer (some ⟨q, 0, none⟩)]] w fun e w' => ∃ b cap, e = .returned (.slice (some ⟨b, 0, none⟩) xs.length cap) ∧ w.heap.size ≤ b ∧ RowI w' b cap (isrt xs) ∧ Ext w w' := by
  have HC := hid (collect_any q A c xs hl w hb)
  have HS := hid (fun b cap W (h : RowI W b cap xs) => sort_any xs b cap hl W h)
  clear hb
  go_enter Tryz.func152, Tryz.ntmps152
  go_wp2_with fail
  refine HC.out.mono ?_
  rintro e w2 ⟨v, rfl, hO, hE⟩
  rcases hO.2 with ⟨h2, h3⟩ | ⟨b, cap, cur, a1, a2, a3, -⟩
  · exact absurd h3 (by omega)
  subst a1
  have HR := hid (RowI.of_own hO)
  have hE2 := hid hE
  have hb2 := hid a2
  clear hO a3 a2 hE HC
  go_wp2_with (go_at_call 161; refine (HS.out b cap _ HR.out).mono ?_; rintro e w3 ⟨rfl, h4, h5⟩; have H4 := hid h4; have H5 := hid h5; clear h4 h5)
  go_ret
  exact ⟨b, cap, rfl, hb2.out, H4.out, Below.grown hE2.out H5.out hE2.out.size (fun k e => by injection e with e; subst e; exact hb2.out)⟩
end Go.Proofs.YtggggnjibedgaaaGreat
/- Sorted and compacted: each number once, ascending. -/
set_option linter.unusedSimpArgs false
set_option linter.unusedVariables false
namespace Go.Proofs.YtggggnjibedgaaaGreat
open Go.RowKit
open Go.Lib
theorem up_ext : ∀ xs ys : List Int, xs.Pairwise (· < ·) → ys.Pairwise (· < ·) → (∀ x, x ∈ xs ↔ x ∈ ys) → xs = ys
  | [], [], _, _, _ => rfl
  | [], y :: ys, _, _, h => absurd ((h y).2 (by simp)) (by simp)
  | x :: xs, [], _, _, h => absurd ((h x).1 (by simp)) (by simp)
  | x :: xs, y :: ys, h1, h2, h => by
    obtain ⟨a1, a2⟩ := List.pairwise_cons.1 h1
    obtain ⟨b1, b2⟩ := List.pairwise_cons.1 h2
    have hxy : x = y := by
      have p1 := (h x).1 (by simp)
      have p2 := (h y).2 (by simp)
      rcases List.mem_cons.1 p1 with e | e
      · exact e
      · rcases List.mem_cons.1 p2 with e2 | e2
        · exact e2.symm
        · have := b1 x e
          have := a1 y e2
          omega
    subst hxy
    rw [up_ext xs ys a2 b2 (fun z => ?_)]
    have hz := h z
    constructor
    · intro hm
      rcases List.mem_cons.1 (hz.1 (List.mem_cons_of_mem _ hm)) with e | e
      · have := a1 z hm; omega
      · exact e
    · intro hm
      rcases List.mem_cons.1 (hz.2 (List.mem_cons_of_mem _ hm)) with e | e
      · have := b1 z hm; omega
      · exact e
theorem cpt_inv (d : Array Int) (hs : ∀ i, i + 1 < d.size → d[i]! ≤ d[i + 1]!) : ∀ m, m ≤ d.size →
    (compactUpTo d m).Pairwise (· < ·) ∧ (∀ x ∈ compactUpTo d m, x ≤ d[m - 1]!) ∧ (∀ x, x ∈ compactUpTo d m ↔ ∃ j, j < m ∧ d[j]! = x)
  | 0, _ => by
    have e : compactUpTo d 0 = [] := rfl
    rw [e]
    simp
  | m + 1, hm => by
    obtain ⟨i1, i2, i3⟩ := cpt_inv d hs m (by omega)
    rw [compactUpTo_succ]
    by_cases h0 : m = 0
    · subst h0
      have e : compactUpTo d 0 = [] := rfl
      have k0 : keeps d 0 = true := keeps_lt_one d 0 (by omega)
      rw [e, k0]
      simp
      exact fun x => eq_comm
    have hle := hs (m - 1) (by omega)
    rw [show m - 1 + 1 = m by omega] at hle
    have em : m + 1 - 1 = m := by omega
    rw [em]
    by_cases hk : d[m]! = d[m - 1]!
    · rw [keeps_neg (by omega) hk]
      simp only [Bool.false_eq_true, if_false, List.append_nil]
      refine ⟨i1, fun x hx => Int.le_trans (i2 x hx) hle, fun x => ?_⟩
      rw [i3]
      constructor
      · rintro ⟨j, hj, rfl⟩; exact ⟨j, by omega, rfl⟩
      · rintro ⟨j, hj, rfl⟩
        by_cases hjm : j = m
        · subst hjm; exact ⟨j - 1, by omega, hk.symm⟩
        · exact ⟨j, by omega, rfl⟩
    · rw [keeps_pos hk]
      simp only [if_true]
      refine ⟨?_, fun x hx => ?_, fun x => ?_⟩
      · rw [List.pairwise_append]
        refine ⟨i1, by simp, fun x hx y hy => ?_⟩
        have := i2 x hx
        simp at hy
        subst hy
        omega
      · rcases List.mem_append.1 hx with e | e
        · exact Int.le_trans (i2 x e) hle
        · simp at e; omega
      · rw [List.mem_append, i3]
        constructor
        · rintro (⟨j, hj, rfl⟩ | e)
          · exact ⟨j, by omega, rfl⟩
          · simp at e; exact ⟨m, by omega, e.symm⟩
        · rintro ⟨j, hj, rfl⟩
          by_cases hjm : j = m
          · subst hjm; right; simp
          · left; exact ⟨j, by omega, rfl⟩
theorem getB (d : List Int) (i : Nat) (h : i < d.length) : d.toArray[i]! = d[i] := by simp [h]
theorem cpt_isrt (d : List Int) : (cpt (isrt d)).Pairwise (· < ·) ∧ ∀ x, x ∈ cpt (isrt d) ↔ x ∈ d := by
  have hsz : (isrt d).toArray.size = (isrt d).length := by simp
  have hsorted : (isrt d).Pairwise (fun x y => decide (x ≤ y) = true) := by
    unfold isrt
    exact List.pairwise_mergeSort (fun a b c => by simp; omega) (fun a b => by simp; omega) d
  have hs : ∀ i, i + 1 < (isrt d).toArray.size → (isrt d).toArray[i]! ≤ (isrt d).toArray[i + 1]! := by
    intro i hi
    rw [hsz] at hi
    rw [getB _ i (by omega), getB _ (i + 1) hi]
    have := (List.pairwise_iff_getElem.1 hsorted) i (i + 1) (by omega) hi (by omega)
    simpa using this
  obtain ⟨h1, -, h3⟩ := cpt_inv (isrt d).toArray hs (isrt d).toArray.size (Nat.le_refl _)
  refine ⟨h1, fun x => ?_⟩
  have hx := h3 x
  unfold cpt
  rw [hx]
  have hm : x ∈ isrt d ↔ x ∈ d := by unfold isrt; simp
  rw [← hm]
  constructor
  · rintro ⟨j, hj, rfl⟩
    rw [hsz] at hj
    rw [getB _ j hj]
    exact List.getElem_mem hj
  · intro hmem
    obtain ⟨j, hj, rfl⟩ := List.getElem_of_mem hmem
    exact ⟨j, by rw [hsz]; exact hj, getB _ j hj⟩
theorem cpt_once (n : Nat) (gs : List Nat) (hg : ∀ g ∈ gs, g < n) : cpt (isrt (nI gs)) = nI ((List.range n).filter fun g => gs.contains g) := by
  obtain ⟨h1, h2⟩ := cpt_isrt (nI gs)
  refine up_ext _ _ h1 ?_ (fun x => ?_)
  · unfold nI
    rw [List.pairwise_map]
    have hr : (List.range n).Pairwise (· < ·) := List.pairwise_lt_range
    exact (hr.filter _).imp (fun h => by omega)
  · rw [h2]
    unfold nI
    simp only [List.mem_map, List.mem_filter, List.mem_range, List.contains_iff_mem]
    constructor
    · rintro ⟨g, hm, rfl⟩; exact ⟨g, ⟨hg g hm, hm⟩, rfl⟩
    · rintro ⟨g, ⟨_, hm⟩, rfl⟩; exact ⟨g, hm, rfl⟩
end Go.Proofs.YtggggnjibedgaaaGreat
/- slices.Repeat of one number. -/
set_option linter.unusedSimpArgs false
set_option linter.unusedVariables false
namespace Go.Proofs.YtggggnjibedgaaaGreat
open Go.RowKit
theorem and_mask {n : Nat} (h : n < 4294967296) : bits BinOp.and IntKind.u64 (n : Int) 4294967295 = (n : Int) := by
  have h1 := bits_and_u64_nat n 4294967295 (by omega) (by omega)
  have h2 : n &&& 4294967295 = n := by
    have := Nat.and_two_pow_sub_one_eq_mod n 32
    rw [show (4294967295 : Nat) = 2 ^ 32 - 1 by decide, this]
    exact Nat.mod_eq_of_lt (by omega)
  rw [h2] at h1
  exact h1
theorem and_mask1 : bits BinOp.and IntKind.u64 1 4294967295 = 1 := by decide +kernel
theorem and_mask0 : bits BinOp.and IntKind.u64 0 4294967295 = 0 := by decide +kernel
set_option maxHeartbeats 2000000 in
theorem mul64_any (n : Nat) (h : n < 1000000) (w : World) :
    Calls Tryz.prog 169 #[.int .u64 1, .int .u64 n] w fun e w' => e = .returned (.tuple #[.int .u64 0, .int .u64 n]) ∧ w' = w := by
  have h1 := and_mask (show n < 4294967296 by omega)
  have h2 := and_mask1
  have h3 := and_mask0
  have h4 : (n : Int) / 4294967296 = 0 := by omega
  have h5 : IntKind.u64.wrap (n : Int) = (n : Int) := by rw [IntKind.wrap_u64]; omega
  go_enter Tryz.func169, Tryz.ntmps169
  go_wp2_with (simp only [h1, h2, h3, h4, h5])
  go_ret2
  exact ⟨rfl, rfl⟩
set_option maxHeartbeats 2000000 in
theorem mul_any (n : Nat) (h : n < 1000000) (w : World) :
    Calls Tryz.prog 163 #[.int .u64 1, .int .u64 n] w fun e w' => e = .returned (.tuple #[.int .u64 0, .int .u64 n]) ∧ w' = w := by
  have HM := hid (fun W => mul64_any n h W)
  go_enter Tryz.func163, Tryz.ntmps163
  go_wp2_with (go_at_call 169; refine (HM.out _).mono ?_; rintro e w2 ⟨rfl, hsm⟩; obtain rfl := hsm.symm)
  go_ret2
  exact ⟨rfl, rfl⟩
def fillTo (k m : Nat) (v : Int) : List Value := List.replicate k (.int .i64 v) ++ List.replicate (m - k) (.int .i64 0)
theorem fillTo_length (k m : Nat) (v : Int) : k ≤ m → (fillTo k m v).length = m := by intro h; simp [fillTo]; omega
theorem fillTo_one (k m : Nat) (v : Int) : ∀ u ∈ fillTo k m v, u.oneCell' = true := by
  intro u hu
  simp only [fillTo, List.mem_append, List.mem_replicate] at hu
  rcases hu with ⟨_, rfl⟩ | ⟨_, rfl⟩ <;> rfl
theorem fillTo_get (k m : Nat) (v : Int) {j : Nat} (h : j < k) : (fillTo k m v)[j]? = some (.int .i64 v) := by
  simp [fillTo, List.getElem?_append_left, h]
theorem splice_fill (k m j : Nat) (v : Int) (_h : k + j ≤ m) : splice (fillTo k m v) k (List.replicate j (.int .i64 v)) = fillTo (k + j) m v := by
  unfold splice fillTo
  rw [List.take_left' (by simp), List.length_replicate, List.drop_append]
  simp only [List.length_replicate, List.drop_replicate]
  rw [show k - (k + j) = 0 from by omega, show k + j - k = j from by omega, show m - k - j = m - (k + j) from by omega]
  rw [← List.append_assoc, List.replicate_append_replicate]
  simp

theorem made_fill (m : Nat) (v : Int) : madeCells #[.int .i64 0] m = (fillTo 0 m v).toArray := by
  have h := toList_madeCells_one (.int .i64 0) m
  rw [← Array.toArray_toList (xs := madeCells #[.int .i64 0] m), h]
  simp [fillTo]

theorem one_atR {w : World} {ad : Addr} {v : Int} (h : w.cell? ad = some (.int .i64 v)) : ∀ j u, ([.int .i64 v] : List Value)[j]? = some u → w.cell? (ad.add j) = some u := by
  intro j u hj
  have hj0 : j = 0 := by
    have := (List.getElem?_eq_some_iff.1 hj).1
    simpa using this
  subst hj0
  simp at hj
  subst hj
  exact h
theorem one_one (v : Int) : ∀ u ∈ ([.int .i64 v] : List Value), u.oneCell' = true := by
  intro u hu
  simp at hu
  subst hu
  rfl
theorem rep_one (n : Nat) (v : Int) : ∀ u ∈ List.replicate n (Value.int .i64 v), u.oneCell' = true := by
  intro u hu
  obtain ⟨_, rfl⟩ := List.mem_replicate.1 hu
  rfl
theorem fill_first {w : World} {g m : Nat} {v : Int} {f0 : List Value} (hf : fillTo 0 m v = f0) (h1 : 1 ≤ m) (h : w.heap[g]? = some (.cells (splice f0 0 [.int .i64 v]).toArray 3 (0, 0))) :
    w.heap[g]? = some (.cells (fillTo 1 m v).toArray 3 (0, 0)) := by
  subst hf
  have := splice_fill 0 m 1 v (by omega)
  rw [show ([Value.int .i64 v] : List Value) = List.replicate 1 (.int .i64 v) from rfl] at h
  rw [this] at h
  exact h

theorem fill_src {w : World} {g k m : Nat} {v : Int} (h : w.heap[g]? = some (.cells (fillTo k m v).toArray 3 (0, 0))) : ∀ j u, (List.replicate (min k (m - k)) (Value.int .i64 v))[j]? = some u → w.cell? (Addr.add ⟨g, 0, none⟩ j) = some u := by
  intro j u hu
  have hj : j < min k (m - k) := by
    have := (List.getElem?_eq_some_iff.1 hu).1
    simpa using this
  have hv : u = .int .i64 v := by
    rw [List.getElem?_replicate, if_pos hj] at hu
    injection hu with hu
    exact hu.symm
  subst hv
  have e : Addr.add ⟨g, 0, none⟩ j = ⟨g, j, none⟩ := by unfold Addr.add; split <;> simp_all
  rw [e, cell_of_row w g j _ 3 (0, 0) h]
  simpa using fillTo_get k m v (j := j) (by omega)

theorem row_fill {w : World} {g m : Nat} {v : Int} (h : w.heap[g]? = some (.cells (fillTo m m v).toArray 3 (0, 0))) : RowI w g m (List.replicate m v) := by
  have hf := fillTo_length m m v (Nat.le_refl _)
  refine ⟨by simp, _, h, by simp [hf], fun j hj => ?_⟩
  have hj' : j < m := by simpa using hj
  have := fillTo_get m m v hj'
  simp only [List.getElem?_toArray]
  rw [this]
  simp [List.getD, hj']
set_option maxRecDepth 100000 in
set_option maxHeartbeats 4000000 in
theorem repeat_any (b off c : Nat) (v : Int) (m : Nat) (h1 : 1 ≤ m) (h2 : m ≤ 12) (w : World) (hb : b < w.heap.size) (hx : w.cell? ⟨b, off, none⟩ = some (.int .i64 v)) :
    Calls Tryz.prog 155 #[.slice (some ⟨b, off, none⟩) 1 c, .int .i64 m] w fun e w' => e = .returned (.slice (some ⟨w.heap.size, 0, none⟩) m m) ∧ RowI w' w.heap.size m (List.replicate m v) ∧ Ext w w' := by
  have HMU := hid (fun W => mul_any m (by omega) W)
  have hz : (Tryz.prog.info? 3).map (·.size) = some 1 := by kernel_rfl
  have HZ := hid hz
  clear hz
  have hm0 : (0 : Int) ≤ (m : Int) := by omega
  have hm1 : (m : Int) ≤ 12 := by omega
  have hn : ((m : Int) < 0) = False := by simp
  have hmk : ∀ W : World, (Instr.makeSlice 45 (.int .i64 (m : Int)) (.int .i64 (m : Int))).run Tryz.prog W = .ok (.slice (some ⟨W.heap.size, 0, none⟩) m m) (W.alloc (.cells (fillTo 0 m v).toArray 3)) := fun W => by
    rw [run_make_row' 45 3 (.int .i64 0) 8 Tryz.underlying45 infoIn rfl .i64 .i64 m (by omega) (by omega) W, made_fill]
  have hl := fillTo_length 0 m v
  have HL := hid hl
  clear hl
  have ho := fillTo_one 0 m v
  have HO := hid ho
  clear ho
  generalize hf0 : fillTo 0 m v = f0 at *
  have HF0 := hid hf0
  clear hf0
  go_enter Tryz.func155, Tryz.ntmps155
  go_wp2_with (first
    | (go_at_call 163; refine (HMU.out _).mono ?_; rintro e w2 ⟨rfl, hw⟩; obtain rfl := hw.symm; clear hw)
    | ((refine wpList_copy_splice rfl (.tmp 31) (.tmp 32) 45 45 rfl 3 Tryz.underlying45 HZ.out _ _ _ _ _ _ rfl rfl w.heap.size 0 f0 3 (blk_last _ _) [.int .i64 v] (by show 1 = min 1 m; omega) (fun _ => ⟨rfl, _, rfl, one_atR ((World.cell?_alloc_lt w _ _ hb).trans hx)⟩) (by rw [HL.out (by omega)]; show 0 + 1 ≤ m; omega) (one_one v) w.heap.size w (ext_alloc1 _ _) (Nat.le_refl _) ?_); intro w2 hg hB))
  have HG := hid (fill_first HF0.out h1 hg.out)
  have hE : Ext w w2 := hB
  clear hg hB hmk HF0 HO HL hx
  have HEQ := hid (⟨1, by omega, h1, rfl, HG⟩ : ∃ k : Nat, 1 ≤ k ∧ k ≤ m ∧ Value.int .i64 1 = .int .i64 (k : Int) ∧ Hid (w2.heap[w.heap.size]? = some (.cells (fillTo k m v).toArray 3 (0, 0))))
  clear HG
  go_loopw [8] (fun i wr => Ext w wr ∧ ∃ k : Nat, 1 ≤ k ∧ k ≤ m ∧ i = .int .i64 k ∧ Hid (wr.heap[w.heap.size]? = some (.cells (fillTo k m v).toArray 3 (0, 0)))) (fun i _ => m - (intOf i).toNat)
  case atStart => exact ⟨hE, HEQ.out⟩
  case round =>
    obtain ⟨hE, k, hk1, hk2, rfl, HG⟩ := hrel
    by_cases hlt : k < m
    · have hki : (k : Int) < (m : Int) := by omega
      have hk0 : (1 : Int) ≤ (k : Int) := by omega
      have hB : Below w.heap.size w wr := hE
      have HCS := hid (fill_src HG.out)
      have hsp := splice_fill k m (min k (m - k)) v (by omega)
      have HSP := hid hsp
      have HB := hid hB
      clear hsp hB
      go_wp2_with fail
      have hkm : (k : Int) ≤ (m : Int) := by omega
      go_region_held3 (fun _ => True) (trivial) ((refine step_copy_splice (by rfl) (.tmp 41) (.tmp 44) 45 45 (by rfl) 3 Tryz.underlying45 HZ.out _ (some ⟨w.heap.size, 0, none⟩) (m - k) (m - k) k m (by rfl) (by rfl) w.heap.size k (fillTo k m v) 3 (by exact HG.out) (List.replicate (min k (m - k)) (.int .i64 v)) (by rw [List.length_replicate]) (fun _ => ⟨if_neg (by omega), _, rfl, by exact HCS.out⟩) (by rw [List.length_replicate, fillTo_length k m v hk2]; omega) (rep_one _ v) w.heap.size w (by exact Below.drew HB.out) (Nat.le_refl _) ?_; intro w3 hg3 hB3))
      have HG3 := hid (show w3.heap[w.heap.size]? = some (.cells (fillTo (k + min k (m - k)) m v).toArray 3 (0, 0)) by rw [← HSP.out]; exact hg3.out)
      have hE3 : Ext w w3 := hB3
      clear hg3 hB3 HSP HB HCS HG
      go_wp2
      have hw := IntWalk.i64_in ((k : Int) + ((min k (m - k) : Nat) : Int)) (by omega)
      rw [hw]
      exact ⟨⟨hE3, k + min k (m - k), by omega, by omega, by rw [Int.natCast_add], HG3⟩, by simp only [intOf]; omega⟩
    · have hki : ((k : Int) < (m : Int)) = False := by simp; omega
      go_wp2_with fail
      go_ret
      obtain rfl : k = m := by omega
      exact ⟨rfl, row_fill HG.out, hE⟩
end Go.Proofs.YtggggnjibedgaaaGreat
/- Counting the clients of each guide; which guide gets the longer rope. -/
set_option linter.unusedSimpArgs false
set_option linter.unusedVariables false
namespace Go.Proofs.YtggggnjibedgaaaGreat
open Go.RowKit
theorem RowI.set {W : World} {b cap : Nat} {d : List Int} (h : RowI W b cap d) (j : Nat) (v : Int) : RowI (W.setCell ⟨b, j, none⟩ (.int .i64 v)) b cap (d.set j v) := by
  obtain ⟨h0, cur, h1, h2, h3⟩ := h
  refine ⟨by rw [List.length_set]; exact h0, cur.setIfInBounds j (.int .i64 v), ?_, by simp [h2], fun i hi => ?_⟩
  · unfold World.setCell
    dsimp only
    rw [Array.getElem?_modify, if_pos rfl, h1]
    simp
  · rw [List.length_set] at hi
    have := h3 i hi
    by_cases hij : i = j
    · subst hij
      rw [Array.getElem?_setIfInBounds_self_of_lt (by omega)]
      congr 2
      simp [List.getD, hi]
    · rw [Array.getElem?_setIfInBounds_ne (fun e => hij e.symm), this]
      congr 2
      simp [List.getD, List.getElem?_set_ne (fun e => hij e.symm)]
theorem grown_set (w : World) (p : Addr) (u : Value) : w.grownBy (w.setCell p u) (some p.block) := ⟨rfl, rfl, rfl, by simp, fun k _ hne => Below.heap_setCell w p u k (fun e => hne (by rw [e]))⟩
def cntL (n : Nat) (gs : List Nat) (k : Nat) : List Int := (List.range n).map fun g => cntN (gs.take k) g
theorem cntL_len (n : Nat) (gs : List Nat) (k : Nat) : (cntL n gs k).length = n := by unfold cntL; simp
theorem cntL_at (n : Nat) (gs : List Nat) (k g : Nat) (h : g < n) : (cntL n gs k).getD g 0 = cntN (gs.take k) g := by
  unfold cntL
  simp [List.getD, h]
theorem cntL_zero (n : Nat) (gs : List Nat) : cntL n gs 0 = List.replicate n 0 := by
  unfold cntL cntN
  apply List.ext_getElem
  · simp
  · intro i h1 h2
    simp
theorem cntL_succ (n : Nat) (gs : List Nat) (k : Nat) (hk : k < gs.length) : cntL n gs (k + 1) = (cntL n gs k).set (gs.getD k 0) (cntN (gs.take k) (gs.getD k 0) + 1) := by
  have e : gs.getD k 0 = gs[k] := by simp [List.getD, List.getElem?_eq_getElem hk]
  rw [e]
  have hc : ∀ g, cntN (gs.take (k + 1)) g = cntN (gs.take k) g + (if gs[k] = g then 1 else 0) := by
    intro g
    unfold cntN
    rw [List.take_succ_eq_append_getElem hk, List.count_append]
    by_cases hg : gs[k] = g
    · subst hg; simp
    · rw [if_neg hg, List.count_eq_zero_of_not_mem (a := g) (l := [gs[k]]) (by simp; exact fun h => hg h.symm)]
      simp
  unfold cntL
  apply List.ext_getElem
  · simp
  · intro i h1 h2
    rw [List.getElem_set]
    simp only [List.getElem_map, List.getElem_range]
    rw [hc]
    by_cases hg : gs[k] = i
    · subst hg; simp
    · simp [hg]
theorem cntN_le (gs : List Nat) (k g : Nat) : 0 ≤ cntN (gs.take k) g ∧ cntN (gs.take k) g ≤ gs.length := by
  unfold cntN
  have h1 := List.count_le_length (a := g) (l := gs.take k)
  have h2 : (gs.take k).length ≤ gs.length := by rw [List.length_take]; omega
  omega
set_option maxHeartbeats 2000000 in
theorem tie1_any (q cb n cap : Nat) (d : List Int) (hd : d.length = n) (hb : ∀ x ∈ d, 0 ≤ x ∧ x ≤ 1000) (x y : Nat) (hx : x < n) (hy : y < n) (w : World) (hq : q < w.heap.size) (c0 : w.cell? ⟨q, 0, none⟩ = some (.slice (some ⟨cb, 0, none⟩) n cap)) (hr : RowI w cb cap d) :
    Calls Tryz.prog 154 #[.int .i64 x, .int .i64 y, .pointer (some ⟨q, 0, none⟩)] w fun e w' => e = .returned (.int .i64 (d.getD y 0 - d.getD x 0)) ∧ ∃ k, w' = w.drewN k := by
  have cx := hr.cell (j := x) (by omega)
  have cy := hr.cell (j := y) (by omega)
  have bx := hb _ (mem_at d 0 x (by omega))
  have by' := hb _ (mem_at d 0 y (by omega))
  have hz := hr.lt
  clear hr hb
  generalize d.getD x 0 = dx at *
  generalize d.getD y 0 = dy at *
  have hw : IntKind.i64.wrap (dy - dx) = dy - dx := IntWalk.i64_in _ (by omega)
  have hx1 : (x : Int) < (n : Int) := by omega
  have hy1 : (y : Int) < (n : Int) := by omega
  go_enter Tryz.func154, Tryz.ntmps154
  go_wp2_with fail
  refine wp_region_held_drew (S := fun w' => (∀ b o, b < w.heap.size → w'.cell? ⟨b, o, none⟩ = w.cell? ⟨b, o, none⟩) ∧ w.heap.size ≤ w'.heap.size ∧ Ext w w') (by kernel_rfl) ?hS0 (fun hHeld => ?_)
  case hS0 => exact sK (Ext.drew (Ext.refl _))
  have X0 : Ext w w.drew := Ext.drew (Ext.refl w)
  refine tk1 (i := 0) (v := ?v0a) rfl ?y0a ?r0a
  case y0a => (intro w' hSw; (try dsimp only at hSw); go_simp; (try with_reducible rfl))
  try simp only [Act.put, sq1, sq2, sq3, sq4, sq5, sq6]
  refine tk1 (i := 1) (v := ?v1a) rfl ?y1a ?r1a
  case y1a => (intro w' hSw; (try dsimp only at hSw); go_simp; (try with_reducible rfl))
  try simp only [Act.put, sq1, sq2, sq3, sq4, sq5, sq6]
  refine tk1 (i := 2) (v := ?v2a) rfl ?y2a ?r2a
  case y2a => (intro w' hSw; (try dsimp only at hSw); go_simp; (try with_reducible rfl))
  try simp only [Act.put, sq1, sq2, sq3, sq4, sq5, sq6]
  refine tk1 (i := 3) (v := ?v3a) rfl ?y3a ?r3a
  case y3a => (intro w' hSw; (try dsimp only at hSw); go_simp; (try with_reducible rfl))
  try simp only [Act.put, sq1, sq2, sq3, sq4, sq5, sq6]
  refine tk1 (i := 4) (v := ?v4a) rfl ?y4a ?r4a
  case y4a => (intro w' hSw; (try dsimp only at hSw); go_simp; (try with_reducible rfl))
  try simp only [Act.put, sq1, sq2, sq3, sq4, sq5, sq6]
  refine tk1 (i := 5) (v := ?v5a) rfl ?y5a ?r5a
  case y5a => (intro w' hSw; (try dsimp only at hSw); go_simp; (try with_reducible rfl))
  try simp only [Act.put, sq1, sq2, sq3, sq4, sq5, sq6]
  refine tk1 (i := 6) (v := ?v6a) rfl ?y6a ?r6a
  case y6a => (intro w' hSw; (try dsimp only at hSw); go_simp; (try with_reducible rfl))
  try simp only [Act.put, sq1, sq2, sq3, sq4, sq5, sq6]
  refine tk1 (i := 7) (v := ?v7a) rfl ?y7a ?r7a
  case y7a => (intro w' hSw; (try dsimp only at hSw); go_simp; (try with_reducible rfl))
  try simp only [Act.put, sq1, sq2, sq3, sq4, sq5, sq6]
  refine tk1 (i := 8) (v := ?v8b) rfl ?y8b ?r8b
  case y8b => (intro w' hSw; (try dsimp only at hSw); go_simp; (try simp only [hw]); (try with_reducible rfl))
  try simp only [Act.put, sq1, sq2, sq3, sq4, sq5, sq6]
  refine tk1 (i := 9) (v := ?v9b) rfl ?y9b ?r9b
  case y9b => (intro w' hSw; (try dsimp only at hSw); go_simp; (try with_reducible rfl))
  try simp only [Act.put, sq1, sq2, sq3, sq4, sq5, sq6]
  refine wpAnyH_done (by kernel_rfl) ?_ _
  clear hHeld
  go_wp2
  go_ret
  exact ⟨rfl, 1, rfl⟩
end Go.Proofs.YtggggnjibedgaaaGreat
