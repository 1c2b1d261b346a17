/- One more path: the loop over the paths that a party can walk. -/
import Derived.Test.YtndoghcglbpllaaE03
import Derived.Test.YtndoghcglbpllaaE02
import Derived.Test.YtndoghcglbpllaaE04
set_option linter.unusedSimpArgs false
set_option linter.unusedVariables false
namespace Go.Proofs.Ytndoghcglbpllaa
open Go.RowKit
attribute [local go_sem] Oper.semAt_some

theorem keepsFrom_ext {W W' : World} (B : Nat) (e : Ext W W') : KeepsFrom B W W' := ⟨e.size, fun k o _ hk _ => (Below.block e k (Array.getElem?_eq_some_iff.1 hk).1).trans hk⟩
theorem kx {w1 w2 W : World} {n g : Nat} (h : ∀ b o, b < n → ¬ b = g → w1.cell? ⟨b, o, none⟩ = W.cell? ⟨b, o, none⟩) (hn : n ≤ w1.heap.size) (e : Ext w1 w2) : ∀ b o, b < n → ¬ b = g → w2.cell? ⟨b, o, none⟩ = W.cell? ⟨b, o, none⟩ :=
  fun b o hb hg => (e.cell (p := ⟨b, o, none⟩) (Nat.lt_of_lt_of_le hb hn)).trans (h b o hb hg)
theorem kx_set {w1 W : World} {n g : Nat} (h : ∀ b o, b < n → ¬ b = g → w1.cell? ⟨b, o, none⟩ = W.cell? ⟨b, o, none⟩) (i : Nat) (u : Value) : ∀ b o, b < n → ¬ b = g → (w1.setCell ⟨g, i, none⟩ u).cell? ⟨b, o, none⟩ = W.cell? ⟨b, o, none⟩ :=
  fun b o hb hg => (World.cell?_setCell_other w1 ⟨g, i, none⟩ ⟨b, o, none⟩ u (fun e => by injection e with e; exact hg e.symm)).trans (h b o hb hg)
theorem RowAt.ofHeap {w w' : World} {g cap : Nat} {xs : List Int} (h : RowAt w g cap xs) (hs : w.heap.size ≤ w'.heap.size) (hh : w'.heap[g]? = w.heap[g]?) : RowAt w' g cap xs := by
  refine ⟨Nat.lt_of_lt_of_le h.1 hs, ?_⟩
  obtain ⟨hl, hd⟩ := h.2
  refine ⟨hl, ?_⟩
  rcases hd with h0 | ⟨g', cap', cur, hv, hb, hk, h3, h4, h5, h6⟩
  · exact .inl h0
  · refine .inr ⟨g', cap', cur, hv, hb, ?_, h3, h4, h5, h6⟩
    have hg : g' = g := by
      injection hv with hv
      injection hv with hv
      injection hv with hv
      exact hv.symm
    subst hg
    exact hh.trans hk
theorem own_blk {B k : Nat} {o : Obj} {W W' : World} {row : Option Nat} (hk : k < B) (h : W.heap[k]? = some o) (hg : W.grownBy W' row) (hr : ∀ r, row = some r → B ≤ r ∧ ∃ o : Obj, W.heap[r]? = some o ∧ o.isCells = false) : W'.heap[k]? = some o :=
  (hg.block k (Array.getElem?_eq_some_iff.1 h).1 (fun e => by have := (hr k e.symm).1; omega)).trans h
theorem own_row {B g cap : Nat} {xs : List Int} {W W' : World} {row : Option Nat} (hk : g < B) (h : RowAt W g cap xs) (hg : W.grownBy W' row) (hr : ∀ r, row = some r → B ≤ r ∧ ∃ o : Obj, W.heap[r]? = some o ∧ o.isCells = false) : RowAt W' g cap xs :=
  h.ofHeap hg.size (hg.block g h.lt (fun e => by have := (hr g e.symm).1; omega))
theorem own_ext {B : Nat} {w W W' : World} {row : Option Nat} (hB : w.heap.size ≤ B) (h : Ext w W) (hg : W.grownBy W' row) (hr : ∀ r, row = some r → B ≤ r ∧ ∃ o : Obj, W.heap[r]? = some o ∧ o.isCells = false) : Ext w W' :=
  Below.grown h hg h.size (fun k e => by have := (hr k e).1; omega)

theorem two_blocks (w : World) (o1 o2 : Obj) : ((w.alloc o1).alloc o2).heap[w.heap.size]? = some o1 ∧ ((w.alloc o1).alloc o2).heap[w.heap.size + 1]? = some o2 ∧ ((w.alloc o1).alloc o2).heap.size = w.heap.size + 2 := by
  have s1 : (w.alloc o1).heap.size = w.heap.size + 1 := by simp
  refine ⟨(Below.heap_alloc (w.alloc o1) o2 _ (by rw [s1]; omega)).trans (heap_alloc_new w o1), ?_, by simp⟩
  have h := heap_alloc_new (w.alloc o1) o2
  rwa [s1] at h
theorem three_blocks (w : World) (o1 o2 o3 : Obj) : (((w.alloc o1).alloc o2).alloc o3).heap[w.heap.size]? = some o1 ∧ (((w.alloc o1).alloc o2).alloc o3).heap[w.heap.size + 1]? = some o2 ∧ (((w.alloc o1).alloc o2).alloc o3).heap[w.heap.size + 2]? = some o3 := by
  obtain ⟨h1, h2, h3⟩ := two_blocks w o1 o2
  refine ⟨(Below.heap_alloc _ o3 _ (by rw [h3]; omega)).trans h1, (Below.heap_alloc _ o3 _ (by rw [h3]; omega)).trans h2, ?_⟩
  have h := heap_alloc_new ((w.alloc o1).alloc o2) o3
  rwa [h3] at h
theorem ext_putObj {w W : World} (h : Ext w W) {D : Nat} (hD : w.heap.size ≤ D) {o : Obj} : Ext w (W.putObj D o) := by
  have h' : Below w.heap.size w W := h
  exact ⟨h'.os, h'.tape, h'.output, by simpa using h'.size, fun k hk => (World.putObj_heap_other (by omega)).trans (h'.block k hk)⟩
/-- A round's end: new memory, and one store into the row. -/
def RowFin (gr : Nat) (acc acc' : List Int) (W W' : World) : Prop := ∃ W2 d v, Ext W W2 ∧ W' = W2.setCell ⟨gr, d, none⟩ (.int .i64 v) ∧ acc' = acc.set d v
/-- What layer 1 asks of a net's paths. -/
structure NOk (m : Nat) (ps : List Pt) : Prop where
  len : ps.length ≤ 24
  ok : ∀ i, i < ps.length → PtOk (ps.getD i zeroPt)
  frm : ∀ i, i < ps.length → 0 ≤ (ps.getD i zeroPt).frm ∧ (ps.getD i zeroPt).frm < m
  dst : ∀ i, i < ps.length → 0 ≤ (ps.getD i zeroPt).dst ∧ (ps.getD i zeroPt).dst < m

def pmStep (sel : Int → Int → Int) (l pl ph : Int) (ps : List Pt) (low acc : List Int) (i : Nat) : List Int :=
  acc.set (ps.getD i zeroPt).dst.toNat (min (acc.getD (ps.getD i zeroPt).dst.toNat 0) (arrive sel l pl ph (ps.getD i zeroPt) (low.getD (ps.getD i zeroPt).frm.toNat 0)))
def pmFold (sel : Int → Int → Int) (l pl ph : Int) (ps : List Pt) (low : List Int) (is : List Nat) : List Int := is.foldl (pmStep sel l pl ph ps low) low
theorem pmFold_len (sel : Int → Int → Int) (l pl ph : Int) (ps : List Pt) (low : List Int) (is : List Nat) : (pmFold sel l pl ph ps low is).length = low.length := by
  unfold pmFold
  suffices h : ∀ acc : List Int, (is.foldl (pmStep sel l pl ph ps low) acc).length = acc.length from h low
  induction is with
  | nil => intro acc; rfl
  | cons i is ih => intro acc; rw [List.foldl_cons, ih]; simp [pmStep]
theorem pmFold_snoc (sel : Int → Int → Int) (l pl ph : Int) (ps : List Pt) (low : List Int) (is : List Nat) (i : Nat) : pmFold sel l pl ph ps low (is ++ [i]) = pmStep sel l pl ph ps low (pmFold sel l pl ph ps low is) i := by
  unfold pmFold; rw [List.foldl_append]; rfl

def pcells (p : Pt) (A : Option Addr) (c : Nat) : Array Value := #[.int .i64 p.frm, .int .i64 p.dst, .int .i64 p.grade, .int .i64 p.tl, .int .i64 p.th, .int .i64 p.sl, .int .i64 p.sh, .slice A p.opens.length c]
theorem min_if (a b : Int) : (if b < a then b else a) = min a b := by omega

set_option maxRecDepth 100000 in
set_option maxHeartbeats 4000000 in
theorem pathMore_sure (g l pl ph : Int) (n c : Nat) (b off : Nat) (ps : List Pt) (hn : ps.length = n) (A : Option Addr) (bl ol cl : Nat) (low : List Int) (hm : low.length ≤ 12) (hp0 : 0 < low.length) (hN : NOk low.length ps) (ha : PaOk l pl ph)
    (hlow : ∀ k, k < low.length → 0 ≤ low.getD k 0 ∧ low.getD k 0 ≤ 2881) (m : Int) (w : World) (hA : 0 < n → A = some ⟨b, off, none⟩ ∧ b < w.heap.size) (hp : ∀ k, k < ps.length → ∃ A' c', PtAt w b (off + k * 8) (ps.getD k zeroPt) A' c') (hl : IntsAt w (some ⟨bl, ol, none⟩) low) :
    Calls Try.prog 101 #[.agg (wbox m g l pl ph A n c), .slice (some ⟨bl, ol, none⟩) low.length cl, .func (.func 70) #[] #[]] w (NewRow (pmFold selHi l pl ph ps low (walkIdx ps g n)) w) := by
  have HC := hid (fun (W : World) (hW : Ext w W) => cloneInts_any bl ol cl low (by omega) hp0 W (hl.ext hW))
  have HL := hid hl
  have HNO := hid hN
  have HLO := hid hlow
  have HP := hid hp
  have HHN := hid hn
  have HA := hid hA
  clear hl hN hlow hp hA
  refine (callsIn_wide (n := 6)).1 ?_
  refine callsIn_of_wp_marks Try.func101 rfl trivial ?_ rfl
  simp only [Try.ntmps101, wbox, List.size_toArray, List.length_cons, List.length_nil, Nat.reduceAdd, Nat.reduceSub, Array.replicate_succ, Array.replicate_zero, List.push_toArray, List.append_toArray, List.nil_append, List.cons_append]
  gi_wp2_with fail
  refine ⟨trivial, CallsIn.mono (callsIn_wide.2 (HC.out _ ?hx)) ?_⟩
  case hx => (repeat' (first | with_reducible assumption | with_reducible exact Ext.refl _ | with_reducible refine Ext.alloc ?_ _ | with_reducible refine Ext.set ?_ ?_ _ | with_reducible refine Ext.drew ?_ | with_reducible refine Ext.drewN ?_ _ | with_reducible refine Ext.trans ?_ (by assumption) | (dsimp only; omega)))
  rintro e w1 ⟨gr, cap, rfl, hrow, hgr, hE⟩
  (first | (have hK := KC.step (n := w.heap.size + 3) (by with_reducible assumption) hE) | (have hK := KC.step (KC.step (n := w.heap.size + 3) (by with_reducible assumption) (ext_alloc1 _ _)) hE) | (have hK := KC.step (KC.refl (n := w.heap.size + 3) (by simp)) hE)); have hC := hK.cell; have hF := hK.fro; have hX := hK.ext
  have z0 : w.heap.size < w1.heap.size := by have := hK.size; omega
  have z1 : w.heap.size + 1 < w1.heap.size := by have := hK.size; omega
  have z2 : w.heap.size + 1 + 1 < w1.heap.size := by have := hK.size; omega
  have g0 : w.heap.size < gr := by simp at hgr; omega
  have g1 : w.heap.size + 1 < gr := by simp at hgr; omega
  have g2 : w.heap.size + 1 + 1 < gr := by simp at hgr; omega
  obtain ⟨q0, q1, q2⟩ := three_blocks w (.cells (wbox m g l pl ph A n c) 70) (.cells #[.slice (some ⟨bl, ol, none⟩) low.length cl] 29) (.cells #[.func (.func 70) #[] #[]] 113)
  have X0 := hid (blk_ext q0 hE)
  have X1 := hid (blk_ext q1 hE)
  have X2 := hid (blk_ext q2 hE)
  have XR := hid hrow
  have EW : Ext w w1 := by (repeat' (first | with_reducible assumption | with_reducible exact Ext.refl _ | with_reducible refine Ext.alloc ?_ _ | with_reducible refine Ext.set ?_ ?_ _ | with_reducible refine Ext.drew ?_ | with_reducible refine Ext.drewN ?_ _ | with_reducible refine Ext.trans ?_ (by assumption) | (dsimp only; omega)))
  clear q0 q1 q2 hrow
  gi_wp2_with fail
  refine ⟨trivial, CallsIn.mono (callsIn_wide.2 (walkable_any m g l pl ph A n c _)) ?_⟩
  rintro e wx ⟨rfl, rfl⟩
  clear hE hK hC hF hX hgr
  obtain ⟨Wl, hWl⟩ : ∃ Wl, (w1.alloc (.cells #[.slice (some ⟨gr, 0, none⟩) low.length cap] 29)).alloc (.cells (wbox m g l pl ph A n c) 70) = Wl := ⟨_, rfl⟩
  obtain ⟨y0, y1, y2⟩ := two_blocks w1 (.cells #[.slice (some ⟨gr, 0, none⟩) low.length cap] 29) (.cells (wbox m g l pl ph A n c) 70)
  have EL : Ext w1 Wl := by rw [← hWl]; (repeat' (first | with_reducible assumption | with_reducible exact Ext.refl _ | with_reducible refine Ext.alloc ?_ _ | with_reducible refine Ext.set ?_ ?_ _ | with_reducible refine Ext.drew ?_ | with_reducible refine Ext.drewN ?_ _ | with_reducible refine Ext.trans ?_ (by assumption) | (dsimp only; omega)))
  rw [hWl] at y0 y1 y2
  have hWl' : (w1.alloc (.cells #[.slice (some ⟨gr, 0, none⟩) low.length cap] 29)).alloc (.cells #[.int .i64 m, .slice A n c, .int .i64 g, .int .i64 l, .int .i64 pl, .int .i64 ph] 70) = Wl := hWl
  have gR : gr < w1.heap.size := XR.out.lt
  gi_wp2
  have Y0 := hid (blk_ext X0.out EL)
  have Y1 := hid (blk_ext X1.out EL)
  have Y2 := hid (blk_ext X2.out EL)
  have Y3 := hid y0
  have Y4 := hid y1
  have YR := hid (XR.out.ext EL)
  have EWL : Ext w Wl := EW.trans EL
  clear hWl hWl' X0 X1 X2 XR y0 y1 EL EW
  refine wpIn_rangeFunc_ownH (F := Fence.wide) (n := 6) rfl (by omega) (gf := 91) (lb := #[.pointer (some ⟨w1.heap.size + 1, 0, none⟩)]) rfl trivial (enters_of Try.func91 (by kernel_rfl) rfl)
    (walk_stops (6 - 1) (by omega) w b off m g l pl ph n c ps HHN.out (by have := HNO.out.len; have := HHN.out; omega) A HA.out HP.out (w1.heap.size + 1) Wl EWL Y4.out) kpB_t (kpB_b EWL.size (by omega)) (Below.refl _ _) (fun _ => rfl)
    (fun pre W => Hid (RowAt W gr cap (pmFold selHi l pl ph ps low (itIdx pre))) ∧ Hid (W.heap[w.heap.size]? = some (.cells (wbox m g l pl ph A n c) 70 (0, 0))) ∧ Hid (W.heap[w.heap.size + 1]? = some (.cells #[.slice (some ⟨bl, ol, none⟩) low.length cl] 29 (0, 0))) ∧
      Hid (W.heap[w.heap.size + 2]? = some (.cells #[.func (.func 70) #[] #[]] 113 (0, 0))) ∧ Hid (W.heap[w1.heap.size]? = some (.cells #[.slice (some ⟨gr, 0, none⟩) low.length cap] 29 (0, 0))) ∧ Ext w W ∧ Wl.heap.size ≤ W.heap.size)
    (fun _ _ _ => False)
    (fun s A B row hs hg hr => ⟨own_row (by omega) hs.1 hg hr, own_blk (by omega) hs.2.1 hg hr, own_blk (by omega) hs.2.2.1 hg hr, own_blk (by omega) hs.2.2.2.1 hg hr, own_blk (by omega) hs.2.2.2.2.1 hg hr, own_ext (by omega) hs.2.2.2.2.2.1 hg hr, Nat.le_trans hs.2.2.2.2.2.2 hg.size⟩)
    (fun _ _ _ _ _ hs _ _ => hs)
    ⟨YR, Y0, Y1, Y2, Y3, EWL, Nat.le_refl _⟩
    (fun x a' W => ∃ Bx, Wl.heap.size ≤ Bx ∧ Hid (W.heap[Bx]? = some (.cells (pcells (ps.getD x.1.1 zeroPt) x.1.2.1 x.1.2.2) 56 (0, 0))) ∧ a' = { tmps := #[.agg #[.int .i64 m, .slice A n c, .int .i64 g, .int .i64 l, .int .i64 pl, .int .i64 ph], .slice (some ⟨bl, ol, none⟩) low.length cl, .func (.func 70) #[] #[], .pointer (some ⟨w.heap.size, 0, none⟩), .pointer (some ⟨w.heap.size + 1, 0, none⟩), .pointer (some ⟨w.heap.size + 1 + 1, 0, none⟩), .slice none 0 0, .pointer (some ⟨w1.heap.size, 0, none⟩), undef, .pointer (some ⟨Bx, 0, none⟩), .slice (some ⟨bl, ol, none⟩) low.length cl, .slice (some ⟨gr, 0, none⟩) low.length cap, .agg #[.int .i64 m, .slice A n c, .int .i64 g, .int .i64 l, .int .i64 pl, .int .i64 ph], .func (.func 91) #[] #[.pointer (some ⟨w1.heap.size + 1, 0, none⟩)], .int .i64 (x.1.1 : Int), (ps.getD x.1.1 zeroPt).val x.1.2.1 x.1.2.2, undef, undef, undef, undef, undef, undef, undef, undef, undef, undef, undef, undef, undef, undef, undef, undef, undef, undef, undef, undef], defers := [] })
    (fun x a' _ X Y row hs hg hr => by
      obtain ⟨Bx, h1, h2, h3⟩ := hs
      exact ⟨Bx, h1, hid ((hg.block Bx (Array.getElem?_eq_some_iff.1 h2.out).1 (fun e => by
        obtain ⟨_, o, ho, hc⟩ := hr Bx e.symm
        rw [h2.out] at ho
        injection ho with ho
        subst ho
        cases hc)).trans h2.out), h3⟩)
    ?assign ?body ?done ?stop
  case assign =>
    rintro lp pre x W K ⟨R, b0, b1, b2, b3, hE, hz⟩ hK
    have HK := hid hK
    clear hK
    simp only [itEnc, Pt.val]
    gi_wp2
    exact HK.out _ _ (keepsFrom_ext _ (ext_alloc1 _ _)) ⟨(Below.refl _ W).alloc hE.size _, Below.heap_alloc W _ _ (by omega)⟩
      ⟨R.out.ext (ext_alloc1 _ _), hid (blk_ext b0.out (ext_alloc1 _ _)), hid (blk_ext b1.out (ext_alloc1 _ _)), hid (blk_ext b2.out (ext_alloc1 _ _)), hid (blk_ext b3.out (ext_alloc1 _ _)), hE.alloc _, by simp; omega⟩
      ⟨W.heap.size, hz, hid (heap_alloc_new W _), rfl⟩
  case body =>
    rintro lp pre x a' W hlt ⟨rec, hrec⟩ ⟨R, b0, b1, b2, b3, hE, hz⟩ ⟨Bx, hBx, PX, rfl⟩ hlen
    have HI := hid (show pmFold selHi l pl ph ps low (itIdx (pre ++ [x])) = pmStep selHi l pl ph ps low (pmFold selHi l pl ph ps low (itIdx pre)) x.1.1 by rw [← pmFold_snoc]; simp [itIdx])
    have hlacc := pmFold_len selHi l pl ph ps low (itIdx pre)
    obtain ⟨acc', hacc'⟩ : ∃ z, pmFold selHi l pl ph ps low (itIdx (pre ++ [x])) = z := ⟨_, rfl⟩
    rw [hacc'] at HI
    have HACC := hid hacc'
    clear hacc'
    revert HI R hlacc
    generalize pmFold selHi l pl ph ps low (itIdx pre) = acc
    intro R hlacc HI
    refine wpIn_mono (Q := fun e _ W' => e = .normal ∧ RowFin gr acc acc' W W') ?_ ?post
    case post =>
      rintro e a3 W3 ⟨rfl, W2, d, v, hE2, rfl, hacc⟩
      have hgW : gr < W.heap.size := R.out.lt
      have hEs : Ext w (W2.setCell ⟨gr, d, none⟩ (.int .i64 v)) := (hE.trans hE2).set (by dsimp only; omega) _
      have hot : ∀ k, k < W.heap.size → k ≠ gr → (W2.setCell ⟨gr, d, none⟩ (.int .i64 v)).heap[k]? = W.heap[k]? := fun k hk hne => (Below.heap_setCell W2 _ _ k hne).trans (Below.block hE2 k hk)
      have hs3 : w1.heap.size + 1 < W.heap.size := by omega
      exact ⟨(keepsFrom_ext _ hE2).trans ((KeepsOthers.setCell _ _ _).from _), ⟨(Below.mono hE2 hE.size).setCell (by dsimp only; omega) _, hot _ hs3 (by omega)⟩,
        hid (by rw [HACC.out, hacc]; exact (R.out.ext hE2).set d v), hid ((hot _ (by omega) (by omega)).trans b0.out), hid ((hot _ (by omega) (by omega)).trans b1.out), hid ((hot _ (by omega) (by omega)).trans b2.out), hid ((hot _ (by omega) (by omega)).trans b3.out), hEs, by have := hE2.size; simp; omega⟩
    clear HACC
    unfold pmStep at HI
    obtain ⟨⟨xi, xA, xc⟩, hx1, hx2, hx3⟩ := x
    dsimp only at hx1 hx2 hx3 HI PX ⊢
    have hop := hx3.opens
    have hok := HNO.out.ok xi hx1
    have hfr := HNO.out.frm xi hx1
    have hds := HNO.out.dst xi hx1
    clear hx3 hx2
    revert HI hop hok hfr hds PX
    generalize ps.getD xi zeroPt = p
    intro PX HI hop hok hfr hds
    obtain ⟨fi, di, gg, tl, th, sl, sh, os⟩ := p
    dsimp only at HI hop hok hfr hds PX
    obtain ⟨f, rfl⟩ : ∃ f : Nat, fi = f := ⟨fi.toNat, by omega⟩
    obtain ⟨d, rfl⟩ : ∃ d : Nat, di = d := ⟨di.toNat, by omega⟩
    rw [Int.toNat_natCast, Int.toNat_natCast] at HI
    obtain ⟨hf0, hf1⟩ := hfr
    obtain ⟨hd0, hd1⟩ := hds
    have hlf := HLO.out f (by omega)
    obtain ⟨t, ht⟩ : ∃ t, low.getD f 0 = t := ⟨_, rfl⟩
    rw [ht] at hlf
    have HT := hid ht
    obtain ⟨u, hu⟩ : ∃ u, acc.getD d 0 = u := ⟨_, rfl⟩
    have HU := hid hu
    rw [ht, hu] at HI
    have low0 : W.cell? ⟨bl, ol + f, none⟩ = some (.int .i64 t) := by
      obtain ⟨b', o', hA, _, hcc⟩ := (HL.out.ext hE) (by intro e; rw [e] at hp0; simp at hp0)
      injection hA with hA
      injection hA with e1 e2
      subst e1 e2
      rw [← ht]
      exact hcc f (by omega)
    have hblw : bl < W.heap.size := by
      obtain ⟨b', o', hA, hbb, hcc⟩ := (HL.out.ext hE) (by intro e; rw [e] at hp0; simp at hp0)
      injection hA with hA
      injection hA with e1 e2
      subst e1
      exact hbb
    have hblg : ¬ bl = gr := by
      obtain ⟨b', o', hA, hbb, hcc⟩ := HL.out (by intro e; rw [e] at hp0; simp at hp0)
      injection hA with hA
      injection hA with e1 e2
      subst e1
      omega
    have row0 : W.cell? ⟨gr, d, none⟩ = some (.int .i64 u) := by rw [← hu]; exact R.out.cell (by omega)
    have rowf : W.frozen? ⟨gr, d, none⟩ = false := R.out.fro d
    clear ht hu
    have c0 := blk_cell b0.out 0
    have c1 := blk_cell b0.out 1
    have c2 := blk_cell b0.out 2
    have c3 := blk_cell b0.out 3
    have c4 := blk_cell b0.out 4
    have c5 := blk_cell b0.out 5
    have c6 := blk_cell b1.out 0
    have c7 : W.cell? ⟨w.heap.size + 1 + 1, 0, none⟩ = _ := blk_cell b2.out 0
    have c8 := blk_cell b3.out 0
    have p0 := blk_cell PX.out 0
    have p1 := blk_cell PX.out 1
    have p2 := blk_cell PX.out 2
    have p3 := blk_cell PX.out 3
    have p4 := blk_cell PX.out 4
    have p5 := blk_cell PX.out 5
    have p6 := blk_cell PX.out 6
    have p7 := blk_cell PX.out 7
    simp only [wbox, pcells, List.getElem?_toArray, List.getElem?_cons_zero, List.getElem?_cons_succ] at c0 c1 c2 c3 c4 c5 c6 c7 c8 p0 p1 p2 p3 p4 p5 p6 p7
    have s0 : w.heap.size < W.heap.size := by omega
    have s1 : w.heap.size + 1 < W.heap.size := by omega
    have s2 : w.heap.size + 1 + 1 < W.heap.size := by omega
    have s3 : w1.heap.size < W.heap.size := by omega
    have s4 : Bx < W.heap.size := (Array.getElem?_eq_some_iff.1 PX.out).1
    have n0 : ¬ w.heap.size = gr := by omega
    have n1 : ¬ w.heap.size + 1 = gr := by omega
    have n2 : ¬ w.heap.size + 1 + 1 = gr := by omega
    have n3 : ¬ w1.heap.size = gr := by omega
    have n4 : ¬ Bx = gr := by omega
    refine wpIn_block ?_
    refine wpIn_region_held (S := fun w' => (∀ b o, b < W.heap.size → ¬ b = gr → w'.cell? ⟨b, o, none⟩ = W.cell? ⟨b, o, none⟩) ∧ w'.cell? ⟨gr, d, none⟩ = some (heldAt w' ⟨gr, d, none⟩) ∧ w'.frozen? ⟨gr, d, none⟩ = false ∧ W.heap.size ≤ w'.heap.size) (by kernel_rfl) (by kernel_rfl) (fun ⟨_, _, h⟩ => by cases h.1) ?hS0 (fun hHeld => ?_)
    case hS0 => exact ⟨fun _ _ _ _ => rfl, held_of row0, rowf, Nat.le_refl _⟩
    refine wpAnyH_take (i := 0) (oi := _) (v := ?v0h) rfl (by kernel_rfl) (by kernel_rfl) (by kernel_rfl) (fun _ _ _ h => h) (Or.inl ⟨by rfl, ?y0h⟩) (by assumption) ?r0h
    case y0h => (intro w' hSw; (try dsimp only at hSw); go_simp; (try with_reducible rfl))
    try simp only [Act.put, List.getElem_toArray, List.getElem_cons_zero, List.getElem_cons_succ, List.setIfInBounds_toArray, List.set_cons_zero, List.set_cons_succ]
    refine wpAnyH_take (i := 1) (oi := _) (v := ?v1h) rfl (by kernel_rfl) (by kernel_rfl) (by kernel_rfl) (fun _ _ _ h => h) (Or.inl ⟨by rfl, ?y1h⟩) (by assumption) ?r1h
    case y1h => (intro w' hSw; (try dsimp only at hSw); go_simp; (try with_reducible rfl))
    try simp only [Act.put, List.getElem_toArray, List.getElem_cons_zero, List.getElem_cons_succ, List.setIfInBounds_toArray, List.set_cons_zero, List.set_cons_succ]
    refine wpAnyH_take (i := 2) (oi := _) (v := ?v2h) rfl (by kernel_rfl) (by kernel_rfl) (by kernel_rfl) (fun _ _ _ h => h) (Or.inl ⟨by rfl, ?y2h⟩) (by assumption) ?r2h
    case y2h => (intro w' hSw; (try dsimp only at hSw); go_simp; (try with_reducible rfl))
    try simp only [Act.put, List.getElem_toArray, List.getElem_cons_zero, List.getElem_cons_succ, List.setIfInBounds_toArray, List.set_cons_zero, List.set_cons_succ]
    refine wpAnyH_take (i := 3) (oi := _) (v := ?v3h) rfl (by kernel_rfl) (by kernel_rfl) (by kernel_rfl) (fun _ _ _ h => h) (Or.inl ⟨by rfl, ?y3h⟩) (by assumption) ?r3h
    case y3h => (intro w' hSw; (try dsimp only at hSw); go_simp; (try with_reducible rfl))
    try simp only [Act.put, List.getElem_toArray, List.getElem_cons_zero, List.getElem_cons_succ, List.setIfInBounds_toArray, List.set_cons_zero, List.set_cons_succ]
    refine wpAnyH_take (i := 4) (oi := _) (v := ?v4h) rfl (by kernel_rfl) (by kernel_rfl) (by kernel_rfl) (fun _ _ _ h => h) (Or.inl ⟨by rfl, ?y4h⟩) (by assumption) ?r4h
    case y4h => (intro w' hSw; (try dsimp only at hSw); go_simp; (try with_reducible rfl))
    try simp only [Act.put, List.getElem_toArray, List.getElem_cons_zero, List.getElem_cons_succ, List.setIfInBounds_toArray, List.set_cons_zero, List.set_cons_succ]
    refine wpAnyH_take (i := 5) (oi := _) (v := ?v5h) rfl (by kernel_rfl) (by kernel_rfl) (by kernel_rfl) (fun _ _ _ h => h) (Or.inl ⟨by rfl, ?y5h⟩) (by assumption) ?r5h
    case y5h => (intro w' hSw; (try dsimp only at hSw); go_simp; (try with_reducible rfl))
    try simp only [Act.put, List.getElem_toArray, List.getElem_cons_zero, List.getElem_cons_succ, List.setIfInBounds_toArray, List.set_cons_zero, List.set_cons_succ]
    refine wpAnyH_take (i := 6) (oi := _) (v := ?v6h) rfl (by kernel_rfl) (by kernel_rfl) (by kernel_rfl) (fun _ _ _ h => h) (Or.inl ⟨by rfl, ?y6h⟩) (by assumption) ?r6h
    case y6h => (intro w' hSw; (try dsimp only at hSw); go_simp; (try with_reducible rfl))
    try simp only [Act.put, List.getElem_toArray, List.getElem_cons_zero, List.getElem_cons_succ, List.setIfInBounds_toArray, List.set_cons_zero, List.set_cons_succ]
    refine wpAnyH_take (i := 8) (oi := _) (v := ?v8h) rfl (by kernel_rfl) (by kernel_rfl) (by kernel_rfl) (fun _ _ _ h => h) (Or.inl ⟨by rfl, ?y8h⟩) (by assumption) ?r8h
    case y8h => (intro w' hSw; (try dsimp only at hSw); go_simp; (try with_reducible rfl))
    try simp only [Act.put, List.getElem_toArray, List.getElem_cons_zero, List.getElem_cons_succ, List.setIfInBounds_toArray, List.set_cons_zero, List.set_cons_succ]
    refine wpAnyH_take (i := 9) (oi := _) (v := ?v9h) rfl (by kernel_rfl) (by kernel_rfl) (by kernel_rfl) (fun _ _ _ h => h) (Or.inl ⟨by rfl, ?y9h⟩) (by assumption) ?r9h
    case y9h => (intro w' hSw; (try dsimp only at hSw); go_simp; (try with_reducible rfl))
    try simp only [Act.put, List.getElem_toArray, List.getElem_cons_zero, List.getElem_cons_succ, List.setIfInBounds_toArray, List.set_cons_zero, List.set_cons_succ]
    refine wpAnyH_take (i := 10) (oi := _) (v := ?v10h) rfl (by kernel_rfl) (by kernel_rfl) (by kernel_rfl) (fun _ _ _ h => h) (Or.inl ⟨by rfl, ?y10h⟩) (by assumption) ?r10h
    case y10h => (intro w' hSw; (try dsimp only at hSw); go_simp; (try with_reducible rfl))
    try simp only [Act.put, List.getElem_toArray, List.getElem_cons_zero, List.getElem_cons_succ, List.setIfInBounds_toArray, List.set_cons_zero, List.set_cons_succ]
    refine wpAnyH_take (i := 11) (oi := _) (v := ?v11h) rfl (by kernel_rfl) (by kernel_rfl) (by kernel_rfl) (fun _ _ _ h => h) (Or.inl ⟨by rfl, ?y11h⟩) (by assumption) ?r11h
    case y11h => (intro w' hSw; (try dsimp only at hSw); go_simp; (try with_reducible rfl))
    try simp only [Act.put, List.getElem_toArray, List.getElem_cons_zero, List.getElem_cons_succ, List.setIfInBounds_toArray, List.set_cons_zero, List.set_cons_succ]
    refine wpAnyH_take (i := 12) (oi := _) (v := ?v12h) rfl (by kernel_rfl) (by kernel_rfl) (by kernel_rfl) (fun _ _ _ h => h) (Or.inl ⟨by rfl, ?y12h⟩) (by assumption) ?r12h
    case y12h => (intro w' hSw; (try dsimp only at hSw); go_simp; (try with_reducible rfl))
    try simp only [Act.put, List.getElem_toArray, List.getElem_cons_zero, List.getElem_cons_succ, List.setIfInBounds_toArray, List.set_cons_zero, List.set_cons_succ]
    refine wpAnyH_take (i := 13) (oi := _) (v := ?v13h) rfl (by kernel_rfl) (by kernel_rfl) (by kernel_rfl) (fun _ _ _ h => h) (Or.inl ⟨by rfl, ?y13h⟩) (by assumption) ?r13h
    case y13h => (intro w' hSw; (try dsimp only at hSw); go_simp; (try with_reducible rfl))
    try simp only [Act.put, List.getElem_toArray, List.getElem_cons_zero, List.getElem_cons_succ, List.setIfInBounds_toArray, List.set_cons_zero, List.set_cons_succ]
    refine wpAnyH_take (i := 14) (oi := _) (v := ?v14h) rfl (by kernel_rfl) (by kernel_rfl) (by kernel_rfl) (fun _ _ _ h => h) (Or.inl ⟨by rfl, ?y14h⟩) (by assumption) ?r14h
    case y14h => (intro w' hSw; (try dsimp only at hSw); go_simp; (try with_reducible rfl))
    try simp only [Act.put, List.getElem_toArray, List.getElem_cons_zero, List.getElem_cons_succ, List.setIfInBounds_toArray, List.set_cons_zero, List.set_cons_succ]
    refine wpAnyH_take (i := 15) (oi := _) (v := ?v15h) rfl (by kernel_rfl) (by kernel_rfl) (by kernel_rfl) (fun _ _ _ h => h) (Or.inl ⟨by rfl, ?y15h⟩) (by assumption) ?r15h
    case y15h => (intro w' hSw; (try dsimp only at hSw); go_simp; (try with_reducible rfl))
    try simp only [Act.put, List.getElem_toArray, List.getElem_cons_zero, List.getElem_cons_succ, List.setIfInBounds_toArray, List.set_cons_zero, List.set_cons_succ]
    refine wpAnyH_ready (rs := [7, 16]) (by kernel_rfl) (by simp) ?_
    refine AllReadyH.cons (o := _) rfl (fun K hK => ?_) (AllReadyH.cons (o := _) rfl (fun K hK => ?_) AllReadyH.nil)
    · clear hHeld
      go_simp
      refine hK.out _ _ ⟨fun _ _ _ _ => rfl, held_of row0, rowf, Nat.le_refl _⟩ (fun hHeld1 => ?_)
      clear hK K
      try simp only [Act.put, List.getElem_toArray, List.getElem_cons_zero, List.getElem_cons_succ, List.setIfInBounds_toArray, List.set_cons_zero, List.set_cons_succ]
      refine wpAnyH_ready (rs := [16]) (by kernel_rfl) (by simp) ?_
      refine AllReadyH.cons (o := _) rfl (fun K hK => ?_) AllReadyH.nil
      go_simp
      refine (arrival_sure ⟨f, d, gg, tl, th, sl, sh, os⟩ g l pl ph _ _ xA xc hok ha t hlf.1 hlf.2 _ (hop.ext (by (repeat' (first | with_reducible assumption | with_reducible exact Ext.refl _ | with_reducible refine Ext.alloc ?_ _ | with_reducible refine Ext.set ?_ ?_ _ | with_reducible refine Ext.drew ?_ | with_reducible refine Ext.drewN ?_ _ | with_reducible refine Ext.trans ?_ (by assumption) | (dsimp only; omega)))))).mono ?_
      rintro e w2 ⟨rfl, hE2⟩
      dsimp only
      refine hK.out _ _ ⟨kx (w1 := W.drew) (W := W) (fun _ _ _ _ => rfl) (Nat.le_refl _) hE2, held_ext hE2 R.out.lt (held_of row0), (hE2.frozen (p := ⟨gr, d, none⟩) R.out.lt).trans rowf, hE2.size⟩ (fun hHeld2 => ?_)
      clear hK K
      try simp only [Act.put, List.getElem_toArray, List.getElem_cons_zero, List.getElem_cons_succ, List.setIfInBounds_toArray, List.set_cons_zero, List.set_cons_succ]
      refine wpAnyH_take (i := 17) (oi := _) (v := ?v17a) rfl (by kernel_rfl) (by kernel_rfl) (by kernel_rfl) (fun _ _ _ h => h) (Or.inl ⟨by rfl, ?y17a⟩) (by assumption) ?r17a
      case y17a => (intro w' hSw; (try dsimp only at hSw); go_simp; (try with_reducible rfl))
      try simp only [Act.put, List.getElem_toArray, List.getElem_cons_zero, List.getElem_cons_succ, List.setIfInBounds_toArray, List.set_cons_zero, List.set_cons_succ]
      refine wpAnyH_take (i := 18) (oi := _) (v := ?v18a) rfl (by kernel_rfl) (by kernel_rfl) (by kernel_rfl) (fun _ _ _ h => h) (Or.inl ⟨by rfl, ?y18a⟩) (by assumption) ?r18a
      case y18a => (intro w' hSw; (try dsimp only at hSw); go_simp; (try with_reducible rfl))
      try simp only [Act.put, List.getElem_toArray, List.getElem_cons_zero, List.getElem_cons_succ, List.setIfInBounds_toArray, List.set_cons_zero, List.set_cons_succ]
      refine wpAnyH_ready (rs := [19]) (by kernel_rfl) (by simp) ?_
      refine AllReadyH.cons (o := _) rfl (fun K hK => ?_) AllReadyH.nil
      go_simp
      have hHeld4 := hHeld2
      obtain ⟨k1, k2, k3, k4⟩ := hHeld4
      refine hK.out _ _ ⟨kx_set k1 _ _, held_set _ _ _ _ k2, hfrozen_set _ _ k3, hsize_set _ _ k4⟩ (fun hHeld5 => ?_)
      clear hK K
      refine wpAnyH_done (by kernel_rfl) ?_ _
      refine ⟨rfl, w2, d, _, (Ext.drew (Ext.refl W)).trans hE2, rfl, ?_⟩
      rw [min_if]
      exact HI.out
    · go_simp
      refine (arrival_sure ⟨f, d, gg, tl, th, sl, sh, os⟩ g l pl ph _ _ xA xc hok ha t hlf.1 hlf.2 _ (hop.ext (by (repeat' (first | with_reducible assumption | with_reducible exact Ext.refl _ | with_reducible refine Ext.alloc ?_ _ | with_reducible refine Ext.set ?_ ?_ _ | with_reducible refine Ext.drew ?_ | with_reducible refine Ext.drewN ?_ _ | with_reducible refine Ext.trans ?_ (by assumption) | (dsimp only; omega)))))).mono ?_
      rintro e w2 ⟨rfl, hE2⟩
      dsimp only
      refine hK.out _ _ ⟨kx (w1 := W.drew) (W := W) (fun _ _ _ _ => rfl) (Nat.le_refl _) hE2, held_ext hE2 R.out.lt (held_of row0), (hE2.frozen (p := ⟨gr, d, none⟩) R.out.lt).trans rowf, hE2.size⟩ (fun hHeld2 => ?_)
      clear hK K
      try simp only [Act.put, List.getElem_toArray, List.getElem_cons_zero, List.getElem_cons_succ, List.setIfInBounds_toArray, List.set_cons_zero, List.set_cons_succ]
      have row2 : w2.cell? ⟨gr, d, none⟩ = some (.int .i64 u) := (hE2.cell (p := ⟨gr, d, none⟩) R.out.lt).trans row0
      have HH := hid hHeld2
      clear hHeld2 hHeld
      refine wpAnyH_ready (rs := [7]) (by kernel_rfl) (by simp) ?_
      refine AllReadyH.cons (o := _) rfl (fun K hK => ?_) AllReadyH.nil
      go_simp
      refine hK.out _ _ HH.out (fun hHeld2 => ?_)
      clear hK K row2
      try simp only [Act.put, List.getElem_toArray, List.getElem_cons_zero, List.getElem_cons_succ, List.setIfInBounds_toArray, List.set_cons_zero, List.set_cons_succ]
      refine wpAnyH_take (i := 17) (oi := _) (v := ?v17b) rfl (by kernel_rfl) (by kernel_rfl) (by kernel_rfl) (fun _ _ _ h => h) (Or.inl ⟨by rfl, ?y17b⟩) (by assumption) ?r17b
      case y17b => (intro w' hSw; (try dsimp only at hSw); go_simp; (try with_reducible rfl))
      try simp only [Act.put, List.getElem_toArray, List.getElem_cons_zero, List.getElem_cons_succ, List.setIfInBounds_toArray, List.set_cons_zero, List.set_cons_succ]
      refine wpAnyH_take (i := 18) (oi := _) (v := ?v18b) rfl (by kernel_rfl) (by kernel_rfl) (by kernel_rfl) (fun _ _ _ h => h) (Or.inl ⟨by rfl, ?y18b⟩) (by assumption) ?r18b
      case y18b => (intro w' hSw; (try dsimp only at hSw); go_simp; (try with_reducible rfl))
      try simp only [Act.put, List.getElem_toArray, List.getElem_cons_zero, List.getElem_cons_succ, List.setIfInBounds_toArray, List.set_cons_zero, List.set_cons_succ]
      refine wpAnyH_ready (rs := [19]) (by kernel_rfl) (by simp) ?_
      refine AllReadyH.cons (o := _) rfl (fun K hK => ?_) AllReadyH.nil
      go_simp
      have hHeld4 := hHeld2
      obtain ⟨k1, k2, k3, k4⟩ := hHeld4
      refine hK.out _ _ ⟨kx_set k1 _ _, held_set _ _ _ _ k2, hfrozen_set _ _ k3, hsize_set _ _ k4⟩ (fun hHeld5 => ?_)
      clear hK K
      refine wpAnyH_done (by kernel_rfl) ?_ _
      refine ⟨rfl, w2, d, _, (Ext.drew (Ext.refl W)).trans hE2, rfl, ?_⟩
      rw [min_if]
      exact HI.out
  case done =>
    rintro D xs W hD hS ⟨R, b0, b1, b2, b3, hE, hz⟩ hDk
    have c3 := blk_cell b3.out 0
    simp only [List.getElem?_toArray, List.getElem?_cons_zero] at c3
    rw [hS] at R
    gi_wp2
    refine ⟨by simp, .inl ⟨_, _, rfl, run_takeDeferred hDk, ?_⟩⟩
    have hDg : D ≠ gr := by omega
    refine ⟨_, results_tmp rfl _ _ _, NewRow.mk (g := gr) (cap := cap) (by rw [pmFold_len]; rfl) (R.out.ofHeap (by simp) (World.putObj_heap_other (Ne.symm hDg))) (by omega) (ext_putObj hE (by have := EWL.size; omega))⟩
  case stop =>
    rintro D cc pre W hD hS h
    exact h.elim
set_option maxRecDepth 100000 in
set_option maxHeartbeats 4000000 in
theorem pathMore_best (g l pl ph : Int) (n c : Nat) (b off : Nat) (ps : List Pt) (hn : ps.length = n) (A : Option Addr) (bl ol cl : Nat) (low : List Int) (hm : low.length ≤ 12) (hp0 : 0 < low.length) (hN : NOk low.length ps) (ha : PaOk l pl ph)
    (hlow : ∀ k, k < low.length → 0 ≤ low.getD k 0 ∧ low.getD k 0 ≤ 2881) (m : Int) (w : World) (hA : 0 < n → A = some ⟨b, off, none⟩ ∧ b < w.heap.size) (hp : ∀ k, k < ps.length → ∃ A' c', PtAt w b (off + k * 8) (ps.getD k zeroPt) A' c') (hl : IntsAt w (some ⟨bl, ol, none⟩) low) :
    Calls Try.prog 101 #[.agg (wbox m g l pl ph A n c), .slice (some ⟨bl, ol, none⟩) low.length cl, .func (.func 87) #[] #[]] w (NewRow (pmFold selLo l pl ph ps low (walkIdx ps g n)) w) := by
  have HC := hid (fun (W : World) (hW : Ext w W) => cloneInts_any bl ol cl low (by omega) hp0 W (hl.ext hW))
  have HL := hid hl
  have HNO := hid hN
  have HLO := hid hlow
  have HP := hid hp
  have HHN := hid hn
  have HA := hid hA
  clear hl hN hlow hp hA
  refine (callsIn_wide (n := 6)).1 ?_
  refine callsIn_of_wp_marks Try.func101 rfl trivial ?_ rfl
  simp only [Try.ntmps101, wbox, List.size_toArray, List.length_cons, List.length_nil, Nat.reduceAdd, Nat.reduceSub, Array.replicate_succ, Array.replicate_zero, List.push_toArray, List.append_toArray, List.nil_append, List.cons_append]
  gi_wp2_with fail
  refine ⟨trivial, CallsIn.mono (callsIn_wide.2 (HC.out _ ?hx)) ?_⟩
  case hx => (repeat' (first | with_reducible assumption | with_reducible exact Ext.refl _ | with_reducible refine Ext.alloc ?_ _ | with_reducible refine Ext.set ?_ ?_ _ | with_reducible refine Ext.drew ?_ | with_reducible refine Ext.drewN ?_ _ | with_reducible refine Ext.trans ?_ (by assumption) | (dsimp only; omega)))
  rintro e w1 ⟨gr, cap, rfl, hrow, hgr, hE⟩
  (first | (have hK := KC.step (n := w.heap.size + 3) (by with_reducible assumption) hE) | (have hK := KC.step (KC.step (n := w.heap.size + 3) (by with_reducible assumption) (ext_alloc1 _ _)) hE) | (have hK := KC.step (KC.refl (n := w.heap.size + 3) (by simp)) hE)); have hC := hK.cell; have hF := hK.fro; have hX := hK.ext
  have z0 : w.heap.size < w1.heap.size := by have := hK.size; omega
  have z1 : w.heap.size + 1 < w1.heap.size := by have := hK.size; omega
  have z2 : w.heap.size + 1 + 1 < w1.heap.size := by have := hK.size; omega
  have g0 : w.heap.size < gr := by simp at hgr; omega
  have g1 : w.heap.size + 1 < gr := by simp at hgr; omega
  have g2 : w.heap.size + 1 + 1 < gr := by simp at hgr; omega
  obtain ⟨q0, q1, q2⟩ := three_blocks w (.cells (wbox m g l pl ph A n c) 70) (.cells #[.slice (some ⟨bl, ol, none⟩) low.length cl] 29) (.cells #[.func (.func 87) #[] #[]] 113)
  have X0 := hid (blk_ext q0 hE)
  have X1 := hid (blk_ext q1 hE)
  have X2 := hid (blk_ext q2 hE)
  have XR := hid hrow
  have EW : Ext w w1 := by (repeat' (first | with_reducible assumption | with_reducible exact Ext.refl _ | with_reducible refine Ext.alloc ?_ _ | with_reducible refine Ext.set ?_ ?_ _ | with_reducible refine Ext.drew ?_ | with_reducible refine Ext.drewN ?_ _ | with_reducible refine Ext.trans ?_ (by assumption) | (dsimp only; omega)))
  clear q0 q1 q2 hrow
  gi_wp2_with fail
  refine ⟨trivial, CallsIn.mono (callsIn_wide.2 (walkable_any m g l pl ph A n c _)) ?_⟩
  rintro e wx ⟨rfl, rfl⟩
  clear hE hK hC hF hX hgr
  obtain ⟨Wl, hWl⟩ : ∃ Wl, (w1.alloc (.cells #[.slice (some ⟨gr, 0, none⟩) low.length cap] 29)).alloc (.cells (wbox m g l pl ph A n c) 70) = Wl := ⟨_, rfl⟩
  obtain ⟨y0, y1, y2⟩ := two_blocks w1 (.cells #[.slice (some ⟨gr, 0, none⟩) low.length cap] 29) (.cells (wbox m g l pl ph A n c) 70)
  have EL : Ext w1 Wl := by rw [← hWl]; (repeat' (first | with_reducible assumption | with_reducible exact Ext.refl _ | with_reducible refine Ext.alloc ?_ _ | with_reducible refine Ext.set ?_ ?_ _ | with_reducible refine Ext.drew ?_ | with_reducible refine Ext.drewN ?_ _ | with_reducible refine Ext.trans ?_ (by assumption) | (dsimp only; omega)))
  rw [hWl] at y0 y1 y2
  have hWl' : (w1.alloc (.cells #[.slice (some ⟨gr, 0, none⟩) low.length cap] 29)).alloc (.cells #[.int .i64 m, .slice A n c, .int .i64 g, .int .i64 l, .int .i64 pl, .int .i64 ph] 70) = Wl := hWl
  have gR : gr < w1.heap.size := XR.out.lt
  gi_wp2
  have Y0 := hid (blk_ext X0.out EL)
  have Y1 := hid (blk_ext X1.out EL)
  have Y2 := hid (blk_ext X2.out EL)
  have Y3 := hid y0
  have Y4 := hid y1
  have YR := hid (XR.out.ext EL)
  have EWL : Ext w Wl := EW.trans EL
  clear hWl hWl' X0 X1 X2 XR y0 y1 EL EW
  refine wpIn_rangeFunc_ownH (F := Fence.wide) (n := 6) rfl (by omega) (gf := 91) (lb := #[.pointer (some ⟨w1.heap.size + 1, 0, none⟩)]) rfl trivial (enters_of Try.func91 (by kernel_rfl) rfl)
    (walk_stops (6 - 1) (by omega) w b off m g l pl ph n c ps HHN.out (by have := HNO.out.len; have := HHN.out; omega) A HA.out HP.out (w1.heap.size + 1) Wl EWL Y4.out) kpB_t (kpB_b EWL.size (by omega)) (Below.refl _ _) (fun _ => rfl)
    (fun pre W => Hid (RowAt W gr cap (pmFold selLo l pl ph ps low (itIdx pre))) ∧ Hid (W.heap[w.heap.size]? = some (.cells (wbox m g l pl ph A n c) 70 (0, 0))) ∧ Hid (W.heap[w.heap.size + 1]? = some (.cells #[.slice (some ⟨bl, ol, none⟩) low.length cl] 29 (0, 0))) ∧
      Hid (W.heap[w.heap.size + 2]? = some (.cells #[.func (.func 87) #[] #[]] 113 (0, 0))) ∧ Hid (W.heap[w1.heap.size]? = some (.cells #[.slice (some ⟨gr, 0, none⟩) low.length cap] 29 (0, 0))) ∧ Ext w W ∧ Wl.heap.size ≤ W.heap.size)
    (fun _ _ _ => False)
    (fun s A B row hs hg hr => ⟨own_row (by omega) hs.1 hg hr, own_blk (by omega) hs.2.1 hg hr, own_blk (by omega) hs.2.2.1 hg hr, own_blk (by omega) hs.2.2.2.1 hg hr, own_blk (by omega) hs.2.2.2.2.1 hg hr, own_ext (by omega) hs.2.2.2.2.2.1 hg hr, Nat.le_trans hs.2.2.2.2.2.2 hg.size⟩)
    (fun _ _ _ _ _ hs _ _ => hs)
    ⟨YR, Y0, Y1, Y2, Y3, EWL, Nat.le_refl _⟩
    (fun x a' W => ∃ Bx, Wl.heap.size ≤ Bx ∧ Hid (W.heap[Bx]? = some (.cells (pcells (ps.getD x.1.1 zeroPt) x.1.2.1 x.1.2.2) 56 (0, 0))) ∧ a' = { tmps := #[.agg #[.int .i64 m, .slice A n c, .int .i64 g, .int .i64 l, .int .i64 pl, .int .i64 ph], .slice (some ⟨bl, ol, none⟩) low.length cl, .func (.func 87) #[] #[], .pointer (some ⟨w.heap.size, 0, none⟩), .pointer (some ⟨w.heap.size + 1, 0, none⟩), .pointer (some ⟨w.heap.size + 1 + 1, 0, none⟩), .slice none 0 0, .pointer (some ⟨w1.heap.size, 0, none⟩), undef, .pointer (some ⟨Bx, 0, none⟩), .slice (some ⟨bl, ol, none⟩) low.length cl, .slice (some ⟨gr, 0, none⟩) low.length cap, .agg #[.int .i64 m, .slice A n c, .int .i64 g, .int .i64 l, .int .i64 pl, .int .i64 ph], .func (.func 91) #[] #[.pointer (some ⟨w1.heap.size + 1, 0, none⟩)], .int .i64 (x.1.1 : Int), (ps.getD x.1.1 zeroPt).val x.1.2.1 x.1.2.2, undef, undef, undef, undef, undef, undef, undef, undef, undef, undef, undef, undef, undef, undef, undef, undef, undef, undef, undef, undef], defers := [] })
    (fun x a' _ X Y row hs hg hr => by
      obtain ⟨Bx, h1, h2, h3⟩ := hs
      exact ⟨Bx, h1, hid ((hg.block Bx (Array.getElem?_eq_some_iff.1 h2.out).1 (fun e => by
        obtain ⟨_, o, ho, hc⟩ := hr Bx e.symm
        rw [h2.out] at ho
        injection ho with ho
        subst ho
        cases hc)).trans h2.out), h3⟩)
    ?assign ?body ?done ?stop
  case assign =>
    rintro lp pre x W K ⟨R, b0, b1, b2, b3, hE, hz⟩ hK
    have HK := hid hK
    clear hK
    simp only [itEnc, Pt.val]
    gi_wp2
    exact HK.out _ _ (keepsFrom_ext _ (ext_alloc1 _ _)) ⟨(Below.refl _ W).alloc hE.size _, Below.heap_alloc W _ _ (by omega)⟩
      ⟨R.out.ext (ext_alloc1 _ _), hid (blk_ext b0.out (ext_alloc1 _ _)), hid (blk_ext b1.out (ext_alloc1 _ _)), hid (blk_ext b2.out (ext_alloc1 _ _)), hid (blk_ext b3.out (ext_alloc1 _ _)), hE.alloc _, by simp; omega⟩
      ⟨W.heap.size, hz, hid (heap_alloc_new W _), rfl⟩
  case body =>
    rintro lp pre x a' W hlt ⟨rec, hrec⟩ ⟨R, b0, b1, b2, b3, hE, hz⟩ ⟨Bx, hBx, PX, rfl⟩ hlen
    have HI := hid (show pmFold selLo l pl ph ps low (itIdx (pre ++ [x])) = pmStep selLo l pl ph ps low (pmFold selLo l pl ph ps low (itIdx pre)) x.1.1 by rw [← pmFold_snoc]; simp [itIdx])
    have hlacc := pmFold_len selLo l pl ph ps low (itIdx pre)
    obtain ⟨acc', hacc'⟩ : ∃ z, pmFold selLo l pl ph ps low (itIdx (pre ++ [x])) = z := ⟨_, rfl⟩
    rw [hacc'] at HI
    have HACC := hid hacc'
    clear hacc'
    revert HI R hlacc
    generalize pmFold selLo l pl ph ps low (itIdx pre) = acc
    intro R hlacc HI
    refine wpIn_mono (Q := fun e _ W' => e = .normal ∧ RowFin gr acc acc' W W') ?_ ?post
    case post =>
      rintro e a3 W3 ⟨rfl, W2, d, v, hE2, rfl, hacc⟩
      have hgW : gr < W.heap.size := R.out.lt
      have hEs : Ext w (W2.setCell ⟨gr, d, none⟩ (.int .i64 v)) := (hE.trans hE2).set (by dsimp only; omega) _
      have hot : ∀ k, k < W.heap.size → k ≠ gr → (W2.setCell ⟨gr, d, none⟩ (.int .i64 v)).heap[k]? = W.heap[k]? := fun k hk hne => (Below.heap_setCell W2 _ _ k hne).trans (Below.block hE2 k hk)
      have hs3 : w1.heap.size + 1 < W.heap.size := by omega
      exact ⟨(keepsFrom_ext _ hE2).trans ((KeepsOthers.setCell _ _ _).from _), ⟨(Below.mono hE2 hE.size).setCell (by dsimp only; omega) _, hot _ hs3 (by omega)⟩,
        hid (by rw [HACC.out, hacc]; exact (R.out.ext hE2).set d v), hid ((hot _ (by omega) (by omega)).trans b0.out), hid ((hot _ (by omega) (by omega)).trans b1.out), hid ((hot _ (by omega) (by omega)).trans b2.out), hid ((hot _ (by omega) (by omega)).trans b3.out), hEs, by have := hE2.size; simp; omega⟩
    clear HACC
    unfold pmStep at HI
    obtain ⟨⟨xi, xA, xc⟩, hx1, hx2, hx3⟩ := x
    dsimp only at hx1 hx2 hx3 HI PX ⊢
    have hop := hx3.opens
    have hok := HNO.out.ok xi hx1
    have hfr := HNO.out.frm xi hx1
    have hds := HNO.out.dst xi hx1
    clear hx3 hx2
    revert HI hop hok hfr hds PX
    generalize ps.getD xi zeroPt = p
    intro PX HI hop hok hfr hds
    obtain ⟨fi, di, gg, tl, th, sl, sh, os⟩ := p
    dsimp only at HI hop hok hfr hds PX
    obtain ⟨f, rfl⟩ : ∃ f : Nat, fi = f := ⟨fi.toNat, by omega⟩
    obtain ⟨d, rfl⟩ : ∃ d : Nat, di = d := ⟨di.toNat, by omega⟩
    rw [Int.toNat_natCast, Int.toNat_natCast] at HI
    obtain ⟨hf0, hf1⟩ := hfr
    obtain ⟨hd0, hd1⟩ := hds
    have hlf := HLO.out f (by omega)
    obtain ⟨t, ht⟩ : ∃ t, low.getD f 0 = t := ⟨_, rfl⟩
    rw [ht] at hlf
    have HT := hid ht
    obtain ⟨u, hu⟩ : ∃ u, acc.getD d 0 = u := ⟨_, rfl⟩
    have HU := hid hu
    rw [ht, hu] at HI
    have low0 : W.cell? ⟨bl, ol + f, none⟩ = some (.int .i64 t) := by
      obtain ⟨b', o', hA, _, hcc⟩ := (HL.out.ext hE) (by intro e; rw [e] at hp0; simp at hp0)
      injection hA with hA
      injection hA with e1 e2
      subst e1 e2
      rw [← ht]
      exact hcc f (by omega)
    have hblw : bl < W.heap.size := by
      obtain ⟨b', o', hA, hbb, hcc⟩ := (HL.out.ext hE) (by intro e; rw [e] at hp0; simp at hp0)
      injection hA with hA
      injection hA with e1 e2
      subst e1
      exact hbb
    have hblg : ¬ bl = gr := by
      obtain ⟨b', o', hA, hbb, hcc⟩ := HL.out (by intro e; rw [e] at hp0; simp at hp0)
      injection hA with hA
      injection hA with e1 e2
      subst e1
      omega
    have row0 : W.cell? ⟨gr, d, none⟩ = some (.int .i64 u) := by rw [← hu]; exact R.out.cell (by omega)
    have rowf : W.frozen? ⟨gr, d, none⟩ = false := R.out.fro d
    clear ht hu
    have c0 := blk_cell b0.out 0
    have c1 := blk_cell b0.out 1
    have c2 := blk_cell b0.out 2
    have c3 := blk_cell b0.out 3
    have c4 := blk_cell b0.out 4
    have c5 := blk_cell b0.out 5
    have c6 := blk_cell b1.out 0
    have c7 : W.cell? ⟨w.heap.size + 1 + 1, 0, none⟩ = _ := blk_cell b2.out 0
    have c8 := blk_cell b3.out 0
    have p0 := blk_cell PX.out 0
    have p1 := blk_cell PX.out 1
    have p2 := blk_cell PX.out 2
    have p3 := blk_cell PX.out 3
    have p4 := blk_cell PX.out 4
    have p5 := blk_cell PX.out 5
    have p6 := blk_cell PX.out 6
    have p7 := blk_cell PX.out 7
    simp only [wbox, pcells, List.getElem?_toArray, List.getElem?_cons_zero, List.getElem?_cons_succ] at c0 c1 c2 c3 c4 c5 c6 c7 c8 p0 p1 p2 p3 p4 p5 p6 p7
    have s0 : w.heap.size < W.heap.size := by omega
    have s1 : w.heap.size + 1 < W.heap.size := by omega
    have s2 : w.heap.size + 1 + 1 < W.heap.size := by omega
    have s3 : w1.heap.size < W.heap.size := by omega
    have s4 : Bx < W.heap.size := (Array.getElem?_eq_some_iff.1 PX.out).1
    have n0 : ¬ w.heap.size = gr := by omega
    have n1 : ¬ w.heap.size + 1 = gr := by omega
    have n2 : ¬ w.heap.size + 1 + 1 = gr := by omega
    have n3 : ¬ w1.heap.size = gr := by omega
    have n4 : ¬ Bx = gr := by omega
    refine wpIn_block ?_
    refine wpIn_region_held (S := fun w' => (∀ b o, b < W.heap.size → ¬ b = gr → w'.cell? ⟨b, o, none⟩ = W.cell? ⟨b, o, none⟩) ∧ w'.cell? ⟨gr, d, none⟩ = some (heldAt w' ⟨gr, d, none⟩) ∧ w'.frozen? ⟨gr, d, none⟩ = false ∧ W.heap.size ≤ w'.heap.size) (by kernel_rfl) (by kernel_rfl) (fun ⟨_, _, h⟩ => by cases h.1) ?hS0 (fun hHeld => ?_)
    case hS0 => exact ⟨fun _ _ _ _ => rfl, held_of row0, rowf, Nat.le_refl _⟩
    refine wpAnyH_take (i := 0) (oi := _) (v := ?v0h) rfl (by kernel_rfl) (by kernel_rfl) (by kernel_rfl) (fun _ _ _ h => h) (Or.inl ⟨by rfl, ?y0h⟩) (by assumption) ?r0h
    case y0h => (intro w' hSw; (try dsimp only at hSw); go_simp; (try with_reducible rfl))
    try simp only [Act.put, List.getElem_toArray, List.getElem_cons_zero, List.getElem_cons_succ, List.setIfInBounds_toArray, List.set_cons_zero, List.set_cons_succ]
    refine wpAnyH_take (i := 1) (oi := _) (v := ?v1h) rfl (by kernel_rfl) (by kernel_rfl) (by kernel_rfl) (fun _ _ _ h => h) (Or.inl ⟨by rfl, ?y1h⟩) (by assumption) ?r1h
    case y1h => (intro w' hSw; (try dsimp only at hSw); go_simp; (try with_reducible rfl))
    try simp only [Act.put, List.getElem_toArray, List.getElem_cons_zero, List.getElem_cons_succ, List.setIfInBounds_toArray, List.set_cons_zero, List.set_cons_succ]
    refine wpAnyH_take (i := 2) (oi := _) (v := ?v2h) rfl (by kernel_rfl) (by kernel_rfl) (by kernel_rfl) (fun _ _ _ h => h) (Or.inl ⟨by rfl, ?y2h⟩) (by assumption) ?r2h
    case y2h => (intro w' hSw; (try dsimp only at hSw); go_simp; (try with_reducible rfl))
    try simp only [Act.put, List.getElem_toArray, List.getElem_cons_zero, List.getElem_cons_succ, List.setIfInBounds_toArray, List.set_cons_zero, List.set_cons_succ]
    refine wpAnyH_take (i := 3) (oi := _) (v := ?v3h) rfl (by kernel_rfl) (by kernel_rfl) (by kernel_rfl) (fun _ _ _ h => h) (Or.inl ⟨by rfl, ?y3h⟩) (by assumption) ?r3h
    case y3h => (intro w' hSw; (try dsimp only at hSw); go_simp; (try with_reducible rfl))
    try simp only [Act.put, List.getElem_toArray, List.getElem_cons_zero, List.getElem_cons_succ, List.setIfInBounds_toArray, List.set_cons_zero, List.set_cons_succ]
    refine wpAnyH_take (i := 4) (oi := _) (v := ?v4h) rfl (by kernel_rfl) (by kernel_rfl) (by kernel_rfl) (fun _ _ _ h => h) (Or.inl ⟨by rfl, ?y4h⟩) (by assumption) ?r4h
    case y4h => (intro w' hSw; (try dsimp only at hSw); go_simp; (try with_reducible rfl))
    try simp only [Act.put, List.getElem_toArray, List.getElem_cons_zero, List.getElem_cons_succ, List.setIfInBounds_toArray, List.set_cons_zero, List.set_cons_succ]
    refine wpAnyH_take (i := 5) (oi := _) (v := ?v5h) rfl (by kernel_rfl) (by kernel_rfl) (by kernel_rfl) (fun _ _ _ h => h) (Or.inl ⟨by rfl, ?y5h⟩) (by assumption) ?r5h
    case y5h => (intro w' hSw; (try dsimp only at hSw); go_simp; (try with_reducible rfl))
    try simp only [Act.put, List.getElem_toArray, List.getElem_cons_zero, List.getElem_cons_succ, List.setIfInBounds_toArray, List.set_cons_zero, List.set_cons_succ]
    refine wpAnyH_take (i := 6) (oi := _) (v := ?v6h) rfl (by kernel_rfl) (by kernel_rfl) (by kernel_rfl) (fun _ _ _ h => h) (Or.inl ⟨by rfl, ?y6h⟩) (by assumption) ?r6h
    case y6h => (intro w' hSw; (try dsimp only at hSw); go_simp; (try with_reducible rfl))
    try simp only [Act.put, List.getElem_toArray, List.getElem_cons_zero, List.getElem_cons_succ, List.setIfInBounds_toArray, List.set_cons_zero, List.set_cons_succ]
    refine wpAnyH_take (i := 8) (oi := _) (v := ?v8h) rfl (by kernel_rfl) (by kernel_rfl) (by kernel_rfl) (fun _ _ _ h => h) (Or.inl ⟨by rfl, ?y8h⟩) (by assumption) ?r8h
    case y8h => (intro w' hSw; (try dsimp only at hSw); go_simp; (try with_reducible rfl))
    try simp only [Act.put, List.getElem_toArray, List.getElem_cons_zero, List.getElem_cons_succ, List.setIfInBounds_toArray, List.set_cons_zero, List.set_cons_succ]
    refine wpAnyH_take (i := 9) (oi := _) (v := ?v9h) rfl (by kernel_rfl) (by kernel_rfl) (by kernel_rfl) (fun _ _ _ h => h) (Or.inl ⟨by rfl, ?y9h⟩) (by assumption) ?r9h
    case y9h => (intro w' hSw; (try dsimp only at hSw); go_simp; (try with_reducible rfl))
    try simp only [Act.put, List.getElem_toArray, List.getElem_cons_zero, List.getElem_cons_succ, List.setIfInBounds_toArray, List.set_cons_zero, List.set_cons_succ]
    refine wpAnyH_take (i := 10) (oi := _) (v := ?v10h) rfl (by kernel_rfl) (by kernel_rfl) (by kernel_rfl) (fun _ _ _ h => h) (Or.inl ⟨by rfl, ?y10h⟩) (by assumption) ?r10h
    case y10h => (intro w' hSw; (try dsimp only at hSw); go_simp; (try with_reducible rfl))
    try simp only [Act.put, List.getElem_toArray, List.getElem_cons_zero, List.getElem_cons_succ, List.setIfInBounds_toArray, List.set_cons_zero, List.set_cons_succ]
    refine wpAnyH_take (i := 11) (oi := _) (v := ?v11h) rfl (by kernel_rfl) (by kernel_rfl) (by kernel_rfl) (fun _ _ _ h => h) (Or.inl ⟨by rfl, ?y11h⟩) (by assumption) ?r11h
    case y11h => (intro w' hSw; (try dsimp only at hSw); go_simp; (try with_reducible rfl))
    try simp only [Act.put, List.getElem_toArray, List.getElem_cons_zero, List.getElem_cons_succ, List.setIfInBounds_toArray, List.set_cons_zero, List.set_cons_succ]
    refine wpAnyH_take (i := 12) (oi := _) (v := ?v12h) rfl (by kernel_rfl) (by kernel_rfl) (by kernel_rfl) (fun _ _ _ h => h) (Or.inl ⟨by rfl, ?y12h⟩) (by assumption) ?r12h
    case y12h => (intro w' hSw; (try dsimp only at hSw); go_simp; (try with_reducible rfl))
    try simp only [Act.put, List.getElem_toArray, List.getElem_cons_zero, List.getElem_cons_succ, List.setIfInBounds_toArray, List.set_cons_zero, List.set_cons_succ]
    refine wpAnyH_take (i := 13) (oi := _) (v := ?v13h) rfl (by kernel_rfl) (by kernel_rfl) (by kernel_rfl) (fun _ _ _ h => h) (Or.inl ⟨by rfl, ?y13h⟩) (by assumption) ?r13h
    case y13h => (intro w' hSw; (try dsimp only at hSw); go_simp; (try with_reducible rfl))
    try simp only [Act.put, List.getElem_toArray, List.getElem_cons_zero, List.getElem_cons_succ, List.setIfInBounds_toArray, List.set_cons_zero, List.set_cons_succ]
    refine wpAnyH_take (i := 14) (oi := _) (v := ?v14h) rfl (by kernel_rfl) (by kernel_rfl) (by kernel_rfl) (fun _ _ _ h => h) (Or.inl ⟨by rfl, ?y14h⟩) (by assumption) ?r14h
    case y14h => (intro w' hSw; (try dsimp only at hSw); go_simp; (try with_reducible rfl))
    try simp only [Act.put, List.getElem_toArray, List.getElem_cons_zero, List.getElem_cons_succ, List.setIfInBounds_toArray, List.set_cons_zero, List.set_cons_succ]
    refine wpAnyH_take (i := 15) (oi := _) (v := ?v15h) rfl (by kernel_rfl) (by kernel_rfl) (by kernel_rfl) (fun _ _ _ h => h) (Or.inl ⟨by rfl, ?y15h⟩) (by assumption) ?r15h
    case y15h => (intro w' hSw; (try dsimp only at hSw); go_simp; (try with_reducible rfl))
    try simp only [Act.put, List.getElem_toArray, List.getElem_cons_zero, List.getElem_cons_succ, List.setIfInBounds_toArray, List.set_cons_zero, List.set_cons_succ]
    refine wpAnyH_ready (rs := [7, 16]) (by kernel_rfl) (by simp) ?_
    refine AllReadyH.cons (o := _) rfl (fun K hK => ?_) (AllReadyH.cons (o := _) rfl (fun K hK => ?_) AllReadyH.nil)
    · clear hHeld
      go_simp
      refine hK.out _ _ ⟨fun _ _ _ _ => rfl, held_of row0, rowf, Nat.le_refl _⟩ (fun hHeld1 => ?_)
      clear hK K
      try simp only [Act.put, List.getElem_toArray, List.getElem_cons_zero, List.getElem_cons_succ, List.setIfInBounds_toArray, List.set_cons_zero, List.set_cons_succ]
      refine wpAnyH_ready (rs := [16]) (by kernel_rfl) (by simp) ?_
      refine AllReadyH.cons (o := _) rfl (fun K hK => ?_) AllReadyH.nil
      go_simp
      refine (arrival_best ⟨f, d, gg, tl, th, sl, sh, os⟩ g l pl ph _ _ xA xc hok ha t hlf.1 hlf.2 _ (hop.ext (by (repeat' (first | with_reducible assumption | with_reducible exact Ext.refl _ | with_reducible refine Ext.alloc ?_ _ | with_reducible refine Ext.set ?_ ?_ _ | with_reducible refine Ext.drew ?_ | with_reducible refine Ext.drewN ?_ _ | with_reducible refine Ext.trans ?_ (by assumption) | (dsimp only; omega)))))).mono ?_
      rintro e w2 ⟨rfl, hE2⟩
      dsimp only
      refine hK.out _ _ ⟨kx (w1 := W.drew) (W := W) (fun _ _ _ _ => rfl) (Nat.le_refl _) hE2, held_ext hE2 R.out.lt (held_of row0), (hE2.frozen (p := ⟨gr, d, none⟩) R.out.lt).trans rowf, hE2.size⟩ (fun hHeld2 => ?_)
      clear hK K
      try simp only [Act.put, List.getElem_toArray, List.getElem_cons_zero, List.getElem_cons_succ, List.setIfInBounds_toArray, List.set_cons_zero, List.set_cons_succ]
      refine wpAnyH_take (i := 17) (oi := _) (v := ?v17a) rfl (by kernel_rfl) (by kernel_rfl) (by kernel_rfl) (fun _ _ _ h => h) (Or.inl ⟨by rfl, ?y17a⟩) (by assumption) ?r17a
      case y17a => (intro w' hSw; (try dsimp only at hSw); go_simp; (try with_reducible rfl))
      try simp only [Act.put, List.getElem_toArray, List.getElem_cons_zero, List.getElem_cons_succ, List.setIfInBounds_toArray, List.set_cons_zero, List.set_cons_succ]
      refine wpAnyH_take (i := 18) (oi := _) (v := ?v18a) rfl (by kernel_rfl) (by kernel_rfl) (by kernel_rfl) (fun _ _ _ h => h) (Or.inl ⟨by rfl, ?y18a⟩) (by assumption) ?r18a
      case y18a => (intro w' hSw; (try dsimp only at hSw); go_simp; (try with_reducible rfl))
      try simp only [Act.put, List.getElem_toArray, List.getElem_cons_zero, List.getElem_cons_succ, List.setIfInBounds_toArray, List.set_cons_zero, List.set_cons_succ]
      refine wpAnyH_ready (rs := [19]) (by kernel_rfl) (by simp) ?_
      refine AllReadyH.cons (o := _) rfl (fun K hK => ?_) AllReadyH.nil
      go_simp
      have hHeld4 := hHeld2
      obtain ⟨k1, k2, k3, k4⟩ := hHeld4
      refine hK.out _ _ ⟨kx_set k1 _ _, held_set _ _ _ _ k2, hfrozen_set _ _ k3, hsize_set _ _ k4⟩ (fun hHeld5 => ?_)
      clear hK K
      refine wpAnyH_done (by kernel_rfl) ?_ _
      refine ⟨rfl, w2, d, _, (Ext.drew (Ext.refl W)).trans hE2, rfl, ?_⟩
      rw [min_if]
      exact HI.out
    · go_simp
      refine (arrival_best ⟨f, d, gg, tl, th, sl, sh, os⟩ g l pl ph _ _ xA xc hok ha t hlf.1 hlf.2 _ (hop.ext (by (repeat' (first | with_reducible assumption | with_reducible exact Ext.refl _ | with_reducible refine Ext.alloc ?_ _ | with_reducible refine Ext.set ?_ ?_ _ | with_reducible refine Ext.drew ?_ | with_reducible refine Ext.drewN ?_ _ | with_reducible refine Ext.trans ?_ (by assumption) | (dsimp only; omega)))))).mono ?_
      rintro e w2 ⟨rfl, hE2⟩
      dsimp only
      refine hK.out _ _ ⟨kx (w1 := W.drew) (W := W) (fun _ _ _ _ => rfl) (Nat.le_refl _) hE2, held_ext hE2 R.out.lt (held_of row0), (hE2.frozen (p := ⟨gr, d, none⟩) R.out.lt).trans rowf, hE2.size⟩ (fun hHeld2 => ?_)
      clear hK K
      try simp only [Act.put, List.getElem_toArray, List.getElem_cons_zero, List.getElem_cons_succ, List.setIfInBounds_toArray, List.set_cons_zero, List.set_cons_succ]
      have row2 : w2.cell? ⟨gr, d, none⟩ = some (.int .i64 u) := (hE2.cell (p := ⟨gr, d, none⟩) R.out.lt).trans row0
      have HH := hid hHeld2
      clear hHeld2 hHeld
      refine wpAnyH_ready (rs := [7]) (by kernel_rfl) (by simp) ?_
      refine AllReadyH.cons (o := _) rfl (fun K hK => ?_) AllReadyH.nil
      go_simp
      refine hK.out _ _ HH.out (fun hHeld2 => ?_)
      clear hK K row2
      try simp only [Act.put, List.getElem_toArray, List.getElem_cons_zero, List.getElem_cons_succ, List.setIfInBounds_toArray, List.set_cons_zero, List.set_cons_succ]
      refine wpAnyH_take (i := 17) (oi := _) (v := ?v17b) rfl (by kernel_rfl) (by kernel_rfl) (by kernel_rfl) (fun _ _ _ h => h) (Or.inl ⟨by rfl, ?y17b⟩) (by assumption) ?r17b
      case y17b => (intro w' hSw; (try dsimp only at hSw); go_simp; (try with_reducible rfl))
      try simp only [Act.put, List.getElem_toArray, List.getElem_cons_zero, List.getElem_cons_succ, List.setIfInBounds_toArray, List.set_cons_zero, List.set_cons_succ]
      refine wpAnyH_take (i := 18) (oi := _) (v := ?v18b) rfl (by kernel_rfl) (by kernel_rfl) (by kernel_rfl) (fun _ _ _ h => h) (Or.inl ⟨by rfl, ?y18b⟩) (by assumption) ?r18b
      case y18b => (intro w' hSw; (try dsimp only at hSw); go_simp; (try with_reducible rfl))
      try simp only [Act.put, List.getElem_toArray, List.getElem_cons_zero, List.getElem_cons_succ, List.setIfInBounds_toArray, List.set_cons_zero, List.set_cons_succ]
      refine wpAnyH_ready (rs := [19]) (by kernel_rfl) (by simp) ?_
      refine AllReadyH.cons (o := _) rfl (fun K hK => ?_) AllReadyH.nil
      go_simp
      have hHeld4 := hHeld2
      obtain ⟨k1, k2, k3, k4⟩ := hHeld4
      refine hK.out _ _ ⟨kx_set k1 _ _, held_set _ _ _ _ k2, hfrozen_set _ _ k3, hsize_set _ _ k4⟩ (fun hHeld5 => ?_)
      clear hK K
      refine wpAnyH_done (by kernel_rfl) ?_ _
      refine ⟨rfl, w2, d, _, (Ext.drew (Ext.refl W)).trans hE2, rfl, ?_⟩
      rw [min_if]
      exact HI.out
  case done =>
    rintro D xs W hD hS ⟨R, b0, b1, b2, b3, hE, hz⟩ hDk
    have c3 := blk_cell b3.out 0
    simp only [List.getElem?_toArray, List.getElem?_cons_zero] at c3
    rw [hS] at R
    gi_wp2
    refine ⟨by simp, .inl ⟨_, _, rfl, run_takeDeferred hDk, ?_⟩⟩
    have hDg : D ≠ gr := by omega
    refine ⟨_, results_tmp rfl _ _ _, NewRow.mk (g := gr) (cap := cap) (by rw [pmFold_len]; rfl) (R.out.ofHeap (by simp) (World.putObj_heap_other (Ne.symm hDg))) (by omega) (ext_putObj hE (by have := EWL.size; omega))⟩
  case stop =>
    rintro D cc pre W hD hS h
    exact h.elim
end Go.Proofs.Ytndoghcglbpllaa
