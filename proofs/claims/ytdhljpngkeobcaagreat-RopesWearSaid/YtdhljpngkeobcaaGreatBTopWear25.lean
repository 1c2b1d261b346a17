/- The law RopesWear returns true. -/
import Derived.Test.YtdhljpngkeobcaaGreatBTopWear21
import Derived.Test.YtdhljpngkeobcaaGreatB16
import Derived.Test.YtdhljpngkeobcaaGreatBTopWear23
import Derived.Test.YtdhljpngkeobcaaGreatBTopWear24
import Derived.Test.YtdhljpngkeobcaaGreatB14
set_option linter.unusedSimpArgs false
set_option linter.unusedVariables false
namespace Go.Proofs.YtdhljpngkeobcaaGreat
open Go.RowKit
theorem Ownl.neBlk {α : Type} {e : TypeId} {s : Nat} {g : α → List Value} {W : World} {B : Nat} {v : Value} {xs : List α} (h : Ownl e s g W B v xs) {b : Nat} {t : TypeId} {cs : Array Value} (hb : Blk W b t cs) (ht : t ≠ e) : v.ownBlock ≠ some b := by
  intro hq
  rcases h.2 with ⟨h2, _⟩ | ⟨q, cap, cur, a1, a2, a3, _⟩
  · rw [h2] at hq; cases hq
  · rw [a1] at hq
    cases hq
    have hb' : W.heap[q]? = some (.cells cs t (0, 0)) := hb
    rw [a3] at hb'
    injection hb' with h1
    injection h1 with h2 h3
    exact ht h3.symm
theorem Ownl.others {α : Type} {e : TypeId} {s : Nat} {g : α → List Value} {W : World} {B : Nat} {v : Value} {xs : List α} (h : Ownl e s g W B v xs) {b : Nat} (hne : v.ownBlock ≠ some b) : ∀ (vs : List Value) (o : Nat), Ownl e s g (W.setCells b o vs) B v xs := by
  intro vs
  induction vs generalizing W with
  | nil => intro o; exact h
  | cons u r ih => intro o; exact ih (h.otherNe (p := ⟨b, o, none⟩) hne u) (o + 1)
def wrZ : Array Value := #[.int .i64 0, .int .i64 0, .int .i64 0, .slice none 0 0]
def wrC (a b c : Int) (A : Option Addr) (n k : Nat) : Array Value := #[.int .i64 a, .int .i64 b, .int .i64 c, .slice A n k]
/-- What region 3 of the law has laid so far. -/
structure WrF (w V : World) (n nf : Nat) (sh us be ma fi le : Int) (A B : Option Addr) (c d : Nat) (ws : List Wr) (fs : List Fl) (p5 p6 d7 d8 s7 s8 : Bool) (A5 A6 : Option Addr) (c5 c6 g7 g8 : Nat) (X : World) : Prop where
  e : Ext w X
  ev : V.heap.size ≤ X.heap.size
  kv : w.heap.size + 1 < V.heap.size
  b0 : Blk X w.heap.size 24 (wrC sh us be A n c)
  b1 : Blk X (w.heap.size + 1) 27 (wrC ma fi le B nf d)
  k5 : p5 = true → Ownl 148 2 gWr X V.heap.size (.slice A5 n c5) ws
  k6 : p6 = true → Ownl 75 5 gFl X V.heap.size (.slice A6 nf c6) fs
  k7 : d7 = true → V.heap.size ≤ g7 ∧ Blk X g7 24 (if s7 then wrC sh us be A5 n c5 else wrZ)
  k8 : d8 = true → V.heap.size ≤ g8 ∧ Blk X g8 27 (if s8 then wrC ma fi le A6 nf c6 else wrZ)
section
variable {w V : World} {n nf : Nat} {sh us be ma fi le : Int} {A B : Option Addr} {c d : Nat} {ws : List Wr} {fs : List Fl} {p5 p6 d7 d8 s7 s8 : Bool} {A5 A6 : Option Addr} {c5 c6 g7 g8 : Nat} {X Y : World}
theorem WrF.ext (h : WrF w V n nf sh us be ma fi le A B c d ws fs p5 p6 d7 d8 s7 s8 A5 A6 c5 c6 g7 g8 X) (e : Ext X Y) : WrF w V n nf sh us be ma fi le A B c d ws fs p5 p6 d7 d8 s7 s8 A5 A6 c5 c6 g7 g8 Y :=
  ⟨h.e.trans e, Nat.le_trans h.ev e.size, h.kv, h.b0.ext e, h.b1.ext e, fun k => (h.k5 k).ext e, fun k => (h.k6 k).ext e, fun k => ⟨(h.k7 k).1, (h.k7 k).2.ext e⟩, fun k => ⟨(h.k8 k).1, (h.k8 k).2.ext e⟩⟩
theorem WrF.call5 (h : WrF w V n nf sh us be ma fi le A B c d ws fs false p6 d7 d8 false s8 A5 A6 c5 c6 g7 g8 X) (e : Ext X Y) {A' : Option Addr} {c' : Nat} (ho : Ownl 148 2 gWr Y X.heap.size (.slice A' n c') ws) : WrF w V n nf sh us be ma fi le A B c d ws fs true p6 d7 d8 false s8 A' A6 c' c6 g7 g8 Y := by
  have h2 := h.ext e
  exact ⟨h2.e, h2.ev, h2.kv, h2.b0, h2.b1, fun _ => ho.low h.ev, h2.k6, h2.k7, h2.k8⟩
theorem WrF.call6 (h : WrF w V n nf sh us be ma fi le A B c d ws fs p5 false d7 d8 s7 false A5 A6 c5 c6 g7 g8 X) (e : Ext X Y) {A' : Option Addr} {c' : Nat} (ho : Ownl 75 5 gFl Y X.heap.size (.slice A' nf c') fs) : WrF w V n nf sh us be ma fi le A B c d ws fs p5 true d7 d8 s7 false A5 A' c5 c' g7 g8 Y := by
  have h2 := h.ext e
  exact ⟨h2.e, h2.ev, h2.kv, h2.b0, h2.b1, h2.k5, fun _ => ho.low h.ev, h2.k7, h2.k8⟩
theorem WrF.al7 (h : WrF w V n nf sh us be ma fi le A B c d ws fs p5 p6 false d8 false s8 A5 A6 c5 c6 g7 g8 X) : WrF w V n nf sh us be ma fi le A B c d ws fs p5 p6 true d8 false s8 A5 A6 c5 c6 X.heap.size g8 (X.alloc (.cells wrZ 24)) := by
  have h2 := h.ext (ext_alloc1 X (.cells wrZ 24))
  exact ⟨h2.e, h2.ev, h2.kv, h2.b0, h2.b1, h2.k5, h2.k6, fun _ => ⟨h.ev, Blk.new X _ _⟩, h2.k8⟩
theorem WrF.al8 (h : WrF w V n nf sh us be ma fi le A B c d ws fs p5 p6 d7 false s7 false A5 A6 c5 c6 g7 g8 X) : WrF w V n nf sh us be ma fi le A B c d ws fs p5 p6 d7 true s7 false A5 A6 c5 c6 g7 X.heap.size (X.alloc (.cells wrZ 27)) := by
  have h2 := h.ext (ext_alloc1 X (.cells wrZ 27))
  exact ⟨h2.e, h2.ev, h2.kv, h2.b0, h2.b1, h2.k5, h2.k6, h2.k7, fun _ => ⟨h.ev, Blk.new X _ _⟩⟩
theorem wr_fill (a b c : Int) (A : Option Addr) (n k : Nat) : fillA wrZ 0 (wrC a b c A n k).toList = wrC a b c A n k := by
  simp only [fillA, wrZ, wrC, List.setIfInBounds_toArray, List.set_cons_zero, List.set_cons_succ]
theorem neq_of_blk {W : World} {b b' : Nat} {t t' : TypeId} {cs cs' : Array Value} (h : Blk W b t cs) (h' : Blk W b' t' cs') (ht : t ≠ t') : b ≠ b' := by
  rintro rfl
  have h1 : W.heap[b]? = some (.cells cs t (0, 0)) := h
  have h2 : W.heap[b]? = some (.cells cs' t' (0, 0)) := h'
  rw [h1] at h2
  injection h2 with h3
  injection h3 with h4 h5
  exact ht h5
theorem WrF.st7 (h : WrF w V n nf sh us be ma fi le A B c d ws fs true p6 true d8 false s8 A5 A6 c5 c6 g7 g8 X) : WrF w V n nf sh us be ma fi le A B c d ws fs true p6 true d8 true s8 A5 A6 c5 c6 g7 g8 (X.setCells g7 0 (wrC sh us be A5 n c5).toList) := by
  obtain ⟨h7, hb⟩ := h.k7 rfl
  have hkv := h.kv
  have hf := hb.fill (wrC sh us be A5 n c5).toList 0
  rw [if_neg (by decide), wr_fill] at hf
  have hO5 := (h.k5 rfl).neBlk hb (by decide)
  have hO6 := fun k => (h.k6 k).neBlk hb (by decide)
  have hO8 := fun k => neq_of_blk (h.k8 k).2 hb (by decide)
  generalize (wrC sh us be A5 n c5).toList = vs at *
  exact ⟨ext_setCells h.e (by omega) _ _, by rw [size_setCells]; exact h.ev, h.kv, h.b0.others (by omega) _ _, h.b1.others (by omega) _ _, fun k => (h.k5 k).others hO5 _ _, fun k => (h.k6 k).others (hO6 k) _ _, fun _ => ⟨h7, by rw [if_pos rfl]; exact hf⟩, fun k => ⟨(h.k8 k).1, (h.k8 k).2.others (hO8 k) _ _⟩⟩
theorem WrF.st8 (h : WrF w V n nf sh us be ma fi le A B c d ws fs p5 true d7 true s7 false A5 A6 c5 c6 g7 g8 X) : WrF w V n nf sh us be ma fi le A B c d ws fs p5 true d7 true s7 true A5 A6 c5 c6 g7 g8 (X.setCells g8 0 (wrC ma fi le A6 nf c6).toList) := by
  obtain ⟨h8, hb⟩ := h.k8 rfl
  have hkv := h.kv
  have hf := hb.fill (wrC ma fi le A6 nf c6).toList 0
  rw [if_neg (by decide), wr_fill] at hf
  have hO6 := (h.k6 rfl).neBlk hb (by decide)
  have hO5 := fun k => (h.k5 k).neBlk hb (by decide)
  have hO7 := fun k => neq_of_blk (h.k7 k).2 hb (by decide)
  generalize (wrC ma fi le A6 nf c6).toList = vs at *
  exact ⟨ext_setCells h.e (by omega) _ _, by rw [size_setCells]; exact h.ev, h.kv, h.b0.others (by omega) _ _, h.b1.others (by omega) _ _, fun k => (h.k5 k).others (hO5 k) _ _, fun k => (h.k6 k).others hO6 _ _, fun k => ⟨(h.k7 k).1, (h.k7 k).2.others (hO7 k) _ _⟩, fun _ => ⟨h8, by rw [if_pos rfl]; exact hf⟩⟩
theorem WrF.s (h : WrF w V n nf sh us be ma fi le A B c d ws fs p5 p6 d7 d8 s7 s8 A5 A6 c5 c6 g7 g8 X) : Blk X w.heap.size 24 (wrC sh us be A n c) ∧ Blk X (w.heap.size + 1) 27 (wrC ma fi le B nf d) := ⟨h.b0, h.b1⟩
theorem WrF.wrs (h : WrF w V n nf sh us be ma fi le A B c d ws fs true p6 d7 d8 s7 s8 A5 A6 c5 c6 g7 g8 X) : WrsAt X A5 ws := by
  obtain ⟨A', c', e, -, hw⟩ := ownWr (h.k5 rfl)
  have : A5 = A' := by injection e
  rw [this]; exact hw
theorem WrF.fls (h : WrF w V n nf sh us be ma fi le A B c d ws fs p5 true d7 d8 s7 s8 A5 A6 c5 c6 g7 g8 X) : FlsAt X A6 fs := by
  obtain ⟨A', c', e, -, hw⟩ := ownFl (h.k6 rfl)
  have : A6 = A' := by injection e
  rw [this]; exact hw
end
theorem infoMd : (Tryz.prog.info? 24).map (·.size) = some 4 := by kernel_rfl
theorem infoRo : (Tryz.prog.info? 27).map (·.size) = some 4 := by kernel_rfl
set_option maxRecDepth 100000 in
set_option maxHeartbeats 16000000 in
theorem ropesWear_any (m : Md) (r : Ro) (A : Option Addr) (c : Nat) (B : Option Addr) (d : Nat) (D : Int) (w : World) (hx : WrsAt w A m.wears) (hy : FlsAt w B r.falls) :
    Calls Tryz.prog 3 #[m.val A c, r.val B d, .int .i64 D] w fun e w' => e = .returned (.bool true) ∧ Ext w w' := by
  have HWK := hid (fun W => works_any W)
  have HFR := hid (fun W => farRope_any m r A c B d W)
  have HCM := hid (fun (b : m.wears.length ≤ 10000) (W : World) (hE : Ext w W) => copyModel_any m A c b W (hx.ext hE))
  have HCP := hid (fun (b : r.falls.length ≤ 10000) (W : World) (hE : Ext w W) => copyRope_any r B d b W (hy.ext hE))
  have HMR := hid (fun (A5 A6 : Option Addr) (c5 c6 : Nat) (a : m.wears.length ≤ 1000) (b : r.falls.length ≤ 1000) (W7 : World) (hE7 : Ext w W7) (hA : WrsAt W7 A5 m.wears) (hB : FlsAt W7 A6 r.falls) =>
    show (∀ W, Ext W7 W → Calls Tryz.prog 17 #[m.val A5 c5, r.val A6 c6, .int .i64 D] W fun e w' => e = .returned (.tuple #[.agg #[.int .i64 (dmgV m r D).1, .int .i64 (dmgV m r D).2], .int .i64 (dayE m r D)]) ∧ Ext W w') ∧
      (∀ W, Ext W7 W → Calls Tryz.prog 18 #[m.val A c, r.val B d, .int .i64 D] W fun e w' => e = .returned (.tuple #[.agg #[.int .i64 (dmgV m r D).1, .int .i64 (dmgV m r D).2], .int .i64 (dayE m r D)]) ∧ Ext W w') ∧
      (∀ W, Ext W7 W → Calls Tryz.prog 19 #[m.val A5 c5, r.val A6 c6, .int .i64 D] W fun e w' => e = .returned (.tuple #[.bool (fitV m r D).1, .bool (fitV m r D).2, .int .i64 (dayE m r D)]) ∧ Ext W w') ∧
      (∀ W, Ext W7 W → Calls Tryz.prog 20 #[m.val A c, r.val B d, .int .i64 D] W fun e w' => e = .returned (.tuple #[.bool (fitV m r D).1, .bool (fitV m r D).2, .int .i64 (dayE m r D)]) ∧ Ext W w') ∧
      (∀ W, Ext W7 W → Calls Tryz.prog 21 #[m.val A5 c5, r.val A6 c6] W fun e w' => e = .returned (.tuple #[.int .i64 (untV m r), .int .i64 (takE m r)]) ∧ Ext W w') ∧
      (∀ W, Ext W7 W → Calls Tryz.prog 22 #[m.val A c, r.val B d] W fun e w' => e = .returned (.tuple #[.int .i64 (untV m r), .int .i64 (takE m r)]) ∧ Ext W w') from
      ⟨fun W e => pdamage_any m r A5 c5 A6 c6 D a b W (hA.ext e) (hB.ext e), fun W e => rDamage_any m r A c B d D a b W (hx.ext (hE7.trans e)) (hy.ext (hE7.trans e)),
       fun W e => pfit_any m r A5 c5 A6 c6 D a b W (hA.ext e) (hB.ext e), fun W e => rFit_any m r A c B d D a b W (hx.ext (hE7.trans e)) (hy.ext (hE7.trans e)),
       fun W e => puntil_any m r A5 c5 A6 c6 a b W (hA.ext e) (hB.ext e), fun W e => rUntil_any m r A c B d a b W (hx.ext (hE7.trans e)) (hy.ext (hE7.trans e))⟩)
  clear hx hy
  generalize dayE m r D = E at *
  generalize fitV m r D = F at *
  generalize dmgV m r D = V at *
  generalize untV m r = U at *
  generalize takE m r = T at *
  unfold Md.val Ro.val at *
  obtain ⟨sh, us, be, ws⟩ := m
  obtain ⟨ma, fi, le, fs⟩ := r
  dsimp only at *
  generalize hnw : ws.length = n at *
  have HNW := hid hnw
  clear hnw
  generalize hnf : fs.length = nf at *
  have HNF := hid hnf
  clear hnf
  obtain ⟨fr, hfr⟩ : ∃ b, (decide (8 < n) || decide (12 < nf)) = b := ⟨_, rfl⟩
  rw [hfr] at HFR
  cases fr
  case true =>
    clear HCM HCP HMR hfr
    go_enter Tryz.func3, Tryz.ntmps3
    go_wp2_with (first
      | (go_at_call 13; refine (HFR.out _).mono ?_; rintro e w2 ⟨rfl, hE⟩; (first | (have hK := KC.step (n := w.heap.size + 2) (by with_reducible assumption) hE) | (have hK := KC.step (KC.step (n := w.heap.size + 2) (by with_reducible assumption) (ext_alloc1 _ _)) hE) | (have hK := KC.step (KC.refl (n := w.heap.size + 2) (by simp)) hE)); have hC := hK.cell; have hF := hK.fro; have hX := hK.ext)
      | (go_at_call 14; refine (HWK.out _).mono ?_; rintro e w2 ⟨rfl, hE⟩; (first | (have hK := KC.step (n := w.heap.size + 2) (by with_reducible assumption) hE) | (have hK := KC.step (KC.step (n := w.heap.size + 2) (by with_reducible assumption) (ext_alloc1 _ _)) hE) | (have hK := KC.step (KC.refl (n := w.heap.size + 2) (by simp)) hE)); have hC := hK.cell; have hF := hK.fro; have hX := hK.ext))
    go_ret
    exact ⟨rfl, by (repeat' (first | with_reducible assumption | with_reducible exact Ext.refl _ | with_reducible refine Ext.alloc ?_ _ | with_reducible refine Ext.set ?_ ?_ _ | with_reducible refine Ext.drew ?_ | with_reducible refine Ext.drewN ?_ _ | with_reducible refine Ext.trans ?_ (by assumption) | (dsimp only; omega)))⟩
  simp only [Bool.or_eq_false_iff, decide_eq_false_iff_not] at hfr
  replace HCM := hid (HCM.out (by omega))
  replace HCP := hid (HCP.out (by omega))
  replace HMR := hid (fun A5 A6 c5 c6 => HMR.out A5 A6 c5 c6 (by omega) (by omega))
  clear hfr
  have t0 := blks2 w (.cells (wrC sh us be A n c) 24) (.cells (wrC ma fi le B nf d) 27)
  go_enter Tryz.func3, Tryz.ntmps3
  go_wp2_with fail
  refine Calls.mono (HFR.out _) ?_
  rintro e V0 ⟨rfl, hE⟩
  have hsz := hE.size
  simp only [World.size_alloc] at hsz
  have HF := hid (show WrF w V0 n nf sh us be ma fi le A B c d ws fs false false false false false false none none 0 0 0 0 V0 from
    ⟨((ext_alloc1 _ _).trans (ext_alloc1 _ _)).trans hE, Nat.le_refl _, by omega, blk_ext t0.1 hE, blk_ext t0.2 hE, fun h => Bool.noConfusion h, fun h => Bool.noConfusion h, fun h => Bool.noConfusion h, fun h => Bool.noConfusion h⟩)
  clear hE hsz t0
  obtain ⟨V1, V2⟩ := V
  obtain ⟨F1, F2⟩ := F
  dsimp only at *
  go_wp2_with fail
  refine wp_absW (WrF w V0 n nf sh us be ma fi le A B c d ws fs false false false false false false none none 0 0 0 0) HF.out ?_
  clear HF
  rintro X0 hF
  have HF := hid (hF.ext (Ext.drew (Ext.refl X0)))
  clear hF
  refine wp_region_held_drew (S := fun w' => Blk w' w.heap.size 24 (wrC sh us be A n c) ∧ Blk w' (w.heap.size + 1) 27 (wrC ma fi le B nf d)) (by kernel_rfl) ?hS0 (fun hHeld => ?_)
  case hS0 => exact HF.out.s
  refine tk1 (i := 0) (v := .agg #[.int .i64 sh, .int .i64 us, .int .i64 be, .slice A n c]) rfl ?y0 ?r0
  case y0 =>
    intro w' hSw
    (try dsimp only at hSw)
    have l0 := hSw.1.cell 0
    have l1 := hSw.1.cell 1
    have l2 := hSw.1.cell 2
    have l3 := hSw.1.cell 3
    unfold wrC at l0 l1 l2 l3
    simp only [List.getElem?_toArray, List.getElem?_cons_zero, List.getElem?_cons_succ] at l0 l1 l2 l3
    go_simp
  try simp only [Act.put, sq1, sq2, sq3, sq4, sq5, sq6]
  refine tk1 (i := 2) (v := .agg #[.int .i64 ma, .int .i64 fi, .int .i64 le, .slice B nf d]) rfl ?y2 ?r2
  case y2 =>
    intro w' hSw
    (try dsimp only at hSw)
    have l0 := hSw.2.cell 0
    have l1 := hSw.2.cell 1
    have l2 := hSw.2.cell 2
    have l3 := hSw.2.cell 3
    unfold wrC at l0 l1 l2 l3
    simp only [List.getElem?_toArray, List.getElem?_cons_zero, List.getElem?_cons_succ] at l0 l1 l2 l3
    go_simp
  try simp only [Act.put, sq1, sq2, sq3, sq4, sq5, sq6]
  refine wp_name (fun WP hWP => ?_)
  clear hHeld
  have ST_2112 := hid (show ∀ (A5 : Option Addr) (c5 : Nat) (A6 : Option Addr) (c6 : Nat) (g7 : Nat) (g8 : Nat) (X : World) (f : Nat) (l : Array Bool), f = 0 → l = #[true, true, true, true, true, true, true, true] → WrF w V0 n nf sh us be ma fi le A B c d ws fs true true true true true true A5 A6 c5 c6 g7 g8 X → WP f l { tmps := #[.agg #[.int .i64 sh, .int .i64 us, .int .i64 be, .slice A n c], .agg #[.int .i64 ma, .int .i64 fi, .int .i64 le, .slice B nf d], .int .i64 D, .pointer (some ⟨w.heap.size, 0, none⟩), .pointer (some ⟨w.heap.size + 1, 0, none⟩), undef, .bool false, .pointer (some ⟨g7, 0, none⟩), .pointer (some ⟨g8, 0, none⟩), undef, undef, undef, undef, undef, undef, undef, undef, undef, undef, undef, undef, undef, undef, .agg #[.int .i64 sh, .int .i64 us, .int .i64 be, .slice A n c], .agg #[.int .i64 ma, .int .i64 fi, .int .i64 le, .slice B nf d], .bool false, undef, .agg #[.int .i64 sh, .int .i64 us, .int .i64 be, .slice A n c], .agg #[.int .i64 sh, .int .i64 us, .int .i64 be, .slice A5 n c5], .agg #[.int .i64 ma, .int .i64 fi, .int .i64 le, .slice B nf d], .agg #[.int .i64 ma, .int .i64 fi, .int .i64 le, .slice A6 nf c6], undef, undef, undef, undef, undef, undef, undef, undef, undef, undef, undef, undef, undef, undef, undef, undef, undef, undef, undef, undef, undef, undef, undef, undef, undef, undef, undef, undef, undef, undef, undef, undef, undef, undef, undef, undef, undef, undef, undef, undef, undef, undef, undef, undef, undef, undef, undef, undef, undef, undef, undef, undef, undef, undef, undef, undef, undef, undef, undef, undef, undef, undef, undef, undef, undef, undef, undef, undef, undef, undef, undef, undef, undef, undef, undef, undef], defers := [] } X from by
    rintro A5 c5 A6 c6 g7 g8 X _ _ rfl rfl hF
    have HF := hid hF
    have hHeld := hF.s
    clear hF
    refine (hWP.out _ _ _ _).2 ?_
    refine wpAnyH_done (by kernel_rfl) ?_ _
    clear hHeld
    have Q0 := HF.out.b0
    have Q1 := HF.out.b1
    have Q7 := (HF.out.k7 rfl).2
    have Q8 := (HF.out.k8 rfl).2
    rw [if_pos rfl] at Q7 Q8
    unfold wrC at Q0 Q1 Q7 Q8
    have W5 := HF.out.wrs
    have W6 := HF.out.fls
    have HE := hid HF.out.e
    obtain ⟨J1, J2, J3, J4, J5, J6⟩ := HMR.out A5 A6 c5 c6 X HF.out.e W5 W6
    replace J1 := hid J1
    replace J2 := hid J2
    replace J3 := hid J3
    replace J4 := hid J4
    replace J5 := hid J5
    replace J6 := hid J6
    obtain ⟨a0, a1, a2, a3⟩ : _ ∧ _ ∧ _ ∧ _ := ⟨Q0.cell 0, Q0.cell 1, Q0.cell 2, Q0.cell 3⟩
    obtain ⟨b0, b1, b2, b3⟩ : _ ∧ _ ∧ _ ∧ _ := ⟨Q1.cell 0, Q1.cell 1, Q1.cell 2, Q1.cell 3⟩
    obtain ⟨e0, e1, e2, e3⟩ : _ ∧ _ ∧ _ ∧ _ := ⟨Q7.cell 0, Q7.cell 1, Q7.cell 2, Q7.cell 3⟩
    obtain ⟨h0, h1, h2, h3⟩ : _ ∧ _ ∧ _ ∧ _ := ⟨Q8.cell 0, Q8.cell 1, Q8.cell 2, Q8.cell 3⟩
    have z0 := Q0.lt
    have z1 := Q1.lt
    have z7 := Q7.lt
    have z8 := Q8.lt
    simp only [List.getElem?_toArray, List.getElem?_cons_zero, List.getElem?_cons_succ] at a0 a1 a2 a3 b0 b1 b2 b3 e0 e1 e2 e3 h0 h1 h2 h3
    clear Q0 Q1 Q7 Q8 W5 W6 HF HMR HCM HCP HFR HNW HNF
    go_wp2_with fail
    refine Calls.mono (J1.out _ (Ext.refl _)) ?_
    rintro e x1 ⟨rfl, hE⟩
    (first | (have hK := KC.step (n := X.heap.size) (by with_reducible assumption) hE) | (have hK := KC.step (KC.step (n := X.heap.size) (by with_reducible assumption) (ext_alloc1 _ _)) hE) | (have hK := KC.step (KC.refl (n := X.heap.size) (by simp)) hE)); have hC := hK.cell; have hF := hK.fro; have hX := hK.ext
    have y1 := hE.size
    have S9 := hid (Blk.new x1 33 #[.int .i64 V1, .int .i64 V2])
    have zz0 : w.heap.size < x1.heap.size := by omega
    have zz1 : w.heap.size + 1 < x1.heap.size := by omega
    have zz7 : g7 < x1.heap.size := by omega
    have zz8 : g8 < x1.heap.size := by omega
    go_wp2_with fail
    refine Calls.mono (J2.out _ (by (repeat' (first | with_reducible assumption | with_reducible exact Ext.refl _ | with_reducible refine Ext.alloc ?_ _ | with_reducible refine Ext.set ?_ ?_ _ | with_reducible refine Ext.drew ?_ | with_reducible refine Ext.drewN ?_ _ | with_reducible refine Ext.trans ?_ (by assumption) | (dsimp only; omega))))) ?_
    rintro e x2 ⟨rfl, hE⟩
    (first | (have hK := KC.step (n := X.heap.size) (by with_reducible assumption) hE) | (have hK := KC.step (KC.step (n := X.heap.size) (by with_reducible assumption) (ext_alloc1 _ _)) hE) | (have hK := KC.step (KC.refl (n := X.heap.size) (by simp)) hE)); have hC := hK.cell; have hF := hK.fro; have hX := hK.ext
    have T9 := S9.out.ext hE
    have s0 := T9.cell 0
    have s1 := T9.cell 1
    have sz := T9.lt
    have y2 := hE.size
    rw [World.size_alloc] at y2
    have yz0 : w.heap.size < x2.heap.size := by omega
    have yz1 : w.heap.size + 1 < x2.heap.size := by omega
    have yz7 : g7 < x2.heap.size := by omega
    have yz8 : g8 < x2.heap.size := by omega
    simp only [List.getElem?_toArray, List.getElem?_cons_zero, List.getElem?_cons_succ] at s0 s1
    clear S9 T9
    go_wp2_with (first
      | (go_at_call 19; refine (J3.out _ (by (repeat' (first | with_reducible assumption | with_reducible exact Ext.refl _ | with_reducible refine Ext.alloc ?_ _ | with_reducible refine Ext.set ?_ ?_ _ | with_reducible refine Ext.drew ?_ | with_reducible refine Ext.drewN ?_ _ | with_reducible refine Ext.trans ?_ (by assumption) | (dsimp only; omega))))).mono ?_; rintro e w2 ⟨rfl, hE⟩; (first | (have hK := KC.step (n := X.heap.size) (by with_reducible assumption) hE) | (have hK := KC.step (KC.step (n := X.heap.size) (by with_reducible assumption) (ext_alloc1 _ _)) hE) | (have hK := KC.step (KC.refl (n := X.heap.size) (by simp)) hE)); have hC := hK.cell; have hF := hK.fro; have hX := hK.ext)
      | (go_at_call 20; refine (J4.out _ (by (repeat' (first | with_reducible assumption | with_reducible exact Ext.refl _ | with_reducible refine Ext.alloc ?_ _ | with_reducible refine Ext.set ?_ ?_ _ | with_reducible refine Ext.drew ?_ | with_reducible refine Ext.drewN ?_ _ | with_reducible refine Ext.trans ?_ (by assumption) | (dsimp only; omega))))).mono ?_; rintro e w2 ⟨rfl, hE⟩; (first | (have hK := KC.step (n := X.heap.size) (by with_reducible assumption) hE) | (have hK := KC.step (KC.step (n := X.heap.size) (by with_reducible assumption) (ext_alloc1 _ _)) hE) | (have hK := KC.step (KC.refl (n := X.heap.size) (by simp)) hE)); have hC := hK.cell; have hF := hK.fro; have hX := hK.ext)
      | (go_at_call 21; refine (J5.out _ (by (repeat' (first | with_reducible assumption | with_reducible exact Ext.refl _ | with_reducible refine Ext.alloc ?_ _ | with_reducible refine Ext.set ?_ ?_ _ | with_reducible refine Ext.drew ?_ | with_reducible refine Ext.drewN ?_ _ | with_reducible refine Ext.trans ?_ (by assumption) | (dsimp only; omega))))).mono ?_; rintro e w2 ⟨rfl, hE⟩; (first | (have hK := KC.step (n := X.heap.size) (by with_reducible assumption) hE) | (have hK := KC.step (KC.step (n := X.heap.size) (by with_reducible assumption) (ext_alloc1 _ _)) hE) | (have hK := KC.step (KC.refl (n := X.heap.size) (by simp)) hE)); have hC := hK.cell; have hF := hK.fro; have hX := hK.ext)
      | (go_at_call 22; refine (J6.out _ (by (repeat' (first | with_reducible assumption | with_reducible exact Ext.refl _ | with_reducible refine Ext.alloc ?_ _ | with_reducible refine Ext.set ?_ ?_ _ | with_reducible refine Ext.drew ?_ | with_reducible refine Ext.drewN ?_ _ | with_reducible refine Ext.trans ?_ (by assumption) | (dsimp only; omega))))).mono ?_; rintro e w2 ⟨rfl, hE⟩; (first | (have hK := KC.step (n := X.heap.size) (by with_reducible assumption) hE) | (have hK := KC.step (KC.step (n := X.heap.size) (by with_reducible assumption) (ext_alloc1 _ _)) hE) | (have hK := KC.step (KC.refl (n := X.heap.size) (by simp)) hE)); have hC := hK.cell; have hF := hK.fro; have hX := hK.ext)
      | (go_at_call 14; refine (HWK.out _).mono ?_; rintro e w2 ⟨rfl, hE⟩; (first | (have hK := KC.step (n := X.heap.size) (by with_reducible assumption) hE) | (have hK := KC.step (KC.step (n := X.heap.size) (by with_reducible assumption) (ext_alloc1 _ _)) hE) | (have hK := KC.step (KC.refl (n := X.heap.size) (by simp)) hE)); have hC := hK.cell; have hF := hK.fro; have hX := hK.ext))
    all_goals (go_ret; exact ⟨rfl, HE.out.trans (by (repeat' (first | with_reducible assumption | with_reducible exact Ext.refl _ | with_reducible refine Ext.alloc ?_ _ | with_reducible refine Ext.set ?_ ?_ _ | with_reducible refine Ext.drew ?_ | with_reducible refine Ext.drewN ?_ _ | with_reducible refine Ext.trans ?_ (by assumption) | (dsimp only; omega))))⟩))
  have ST_2111 := hid (show ∀ (A5 : Option Addr) (c5 : Nat) (A6 : Option Addr) (c6 : Nat) (g7 : Nat) (g8 : Nat) (X : World) (f : Nat) (l : Array Bool), f = 1 → l = #[true, true, true, true, true, true, true, false] → WrF w V0 n nf sh us be ma fi le A B c d ws fs true true true true true false A5 A6 c5 c6 g7 g8 X → WP f l { tmps := #[.agg #[.int .i64 sh, .int .i64 us, .int .i64 be, .slice A n c], .agg #[.int .i64 ma, .int .i64 fi, .int .i64 le, .slice B nf d], .int .i64 D, .pointer (some ⟨w.heap.size, 0, none⟩), .pointer (some ⟨w.heap.size + 1, 0, none⟩), undef, .bool false, .pointer (some ⟨g7, 0, none⟩), .pointer (some ⟨g8, 0, none⟩), undef, undef, undef, undef, undef, undef, undef, undef, undef, undef, undef, undef, undef, undef, .agg #[.int .i64 sh, .int .i64 us, .int .i64 be, .slice A n c], .agg #[.int .i64 ma, .int .i64 fi, .int .i64 le, .slice B nf d], .bool false, undef, .agg #[.int .i64 sh, .int .i64 us, .int .i64 be, .slice A n c], .agg #[.int .i64 sh, .int .i64 us, .int .i64 be, .slice A5 n c5], .agg #[.int .i64 ma, .int .i64 fi, .int .i64 le, .slice B nf d], .agg #[.int .i64 ma, .int .i64 fi, .int .i64 le, .slice A6 nf c6], undef, undef, undef, undef, undef, undef, undef, undef, undef, undef, undef, undef, undef, undef, undef, undef, undef, undef, undef, undef, undef, undef, undef, undef, undef, undef, undef, undef, undef, undef, undef, undef, undef, undef, undef, undef, undef, undef, undef, undef, undef, undef, undef, undef, undef, undef, undef, undef, undef, undef, undef, undef, undef, undef, undef, undef, undef, undef, undef, undef, undef, undef, undef, undef, undef, undef, undef, undef, undef, undef, undef, undef, undef, undef, undef, undef], defers := [] } X from by
    rintro A5 c5 A6 c6 g7 g8 X _ _ rfl rfl hF
    have HF := hid hF
    have hHeld := hF.s
    clear hF
    refine (hWP.out _ _ _ _).2 ?_
    refine wpAnyH_ready (rs := [7]) (by kernel_rfl) (by simp) ?_
    refine AllReadyH.cons (o := _) rfl (fun K hK => ?_) AllReadyH.nil
    · refine wp_store_mid 27 _ _ rfl g8 0 (wrC ma fi le A6 nf c6) rfl rfl (blk_there (HF.out.k8 rfl).2 rfl) infoRo (by simp [wrC, Value.oneCell']) ?_
      have HN := hid HF.out.st8
      clear hHeld
      refine hK.out _ _ HN.out.s (fun hHeld => ?_)
      clear hK K
      try simp only [Act.put, sq1, sq2, sq3, sq4, sq5, sq6]
      exact (hWP.out _ _ _ _).1 (ST_2112.out A5 c5 A6 c6 g7 g8 _ _ _ rfl (by kernel_rfl) HN.out))
  have ST_2110 := hid (show ∀ (A5 : Option Addr) (c5 : Nat) (A6 : Option Addr) (c6 : Nat) (g7 : Nat) (g8 : Nat) (X : World) (f : Nat) (l : Array Bool), f = 2 → l = #[true, true, true, true, true, true, false, false] → WrF w V0 n nf sh us be ma fi le A B c d ws fs true true true true false false A5 A6 c5 c6 g7 g8 X → WP f l { tmps := #[.agg #[.int .i64 sh, .int .i64 us, .int .i64 be, .slice A n c], .agg #[.int .i64 ma, .int .i64 fi, .int .i64 le, .slice B nf d], .int .i64 D, .pointer (some ⟨w.heap.size, 0, none⟩), .pointer (some ⟨w.heap.size + 1, 0, none⟩), undef, .bool false, .pointer (some ⟨g7, 0, none⟩), .pointer (some ⟨g8, 0, none⟩), undef, undef, undef, undef, undef, undef, undef, undef, undef, undef, undef, undef, undef, undef, .agg #[.int .i64 sh, .int .i64 us, .int .i64 be, .slice A n c], .agg #[.int .i64 ma, .int .i64 fi, .int .i64 le, .slice B nf d], .bool false, undef, .agg #[.int .i64 sh, .int .i64 us, .int .i64 be, .slice A n c], .agg #[.int .i64 sh, .int .i64 us, .int .i64 be, .slice A5 n c5], .agg #[.int .i64 ma, .int .i64 fi, .int .i64 le, .slice B nf d], .agg #[.int .i64 ma, .int .i64 fi, .int .i64 le, .slice A6 nf c6], undef, undef, undef, undef, undef, undef, undef, undef, undef, undef, undef, undef, undef, undef, undef, undef, undef, undef, undef, undef, undef, undef, undef, undef, undef, undef, undef, undef, undef, undef, undef, undef, undef, undef, undef, undef, undef, undef, undef, undef, undef, undef, undef, undef, undef, undef, undef, undef, undef, undef, undef, undef, undef, undef, undef, undef, undef, undef, undef, undef, undef, undef, undef, undef, undef, undef, undef, undef, undef, undef, undef, undef, undef, undef, undef, undef], defers := [] } X from by
    rintro A5 c5 A6 c6 g7 g8 X _ _ rfl rfl hF
    have HF := hid hF
    have hHeld := hF.s
    clear hF
    refine (hWP.out _ _ _ _).2 ?_
    refine wpAnyH_ready (rs := [6]) (by kernel_rfl) (by simp) ?_
    refine AllReadyH.cons (o := _) rfl (fun K hK => ?_) AllReadyH.nil
    · refine wp_store_mid 24 _ _ rfl g7 0 (wrC sh us be A5 n c5) rfl rfl (blk_there (HF.out.k7 rfl).2 rfl) infoMd (by simp [wrC, Value.oneCell']) ?_
      have HN := hid HF.out.st7
      clear hHeld
      refine hK.out _ _ HN.out.s (fun hHeld => ?_)
      clear hK K
      try simp only [Act.put, sq1, sq2, sq3, sq4, sq5, sq6]
      exact (hWP.out _ _ _ _).1 (ST_2111.out A5 c5 A6 c6 g7 g8 _ _ _ rfl (by kernel_rfl) HN.out))
  have ST_1110 := hid (show ∀ (A5 : Option Addr) (c5 : Nat) (g7 : Nat) (g8 : Nat) (X : World) (f : Nat) (l : Array Bool), f = 3 → l = #[true, true, true, false, true, true, false, false] → WrF w V0 n nf sh us be ma fi le A B c d ws fs true false true true false false A5 none c5 0 g7 g8 X → WP f l { tmps := #[.agg #[.int .i64 sh, .int .i64 us, .int .i64 be, .slice A n c], .agg #[.int .i64 ma, .int .i64 fi, .int .i64 le, .slice B nf d], .int .i64 D, .pointer (some ⟨w.heap.size, 0, none⟩), .pointer (some ⟨w.heap.size + 1, 0, none⟩), undef, .bool false, .pointer (some ⟨g7, 0, none⟩), .pointer (some ⟨g8, 0, none⟩), undef, undef, undef, undef, undef, undef, undef, undef, undef, undef, undef, undef, undef, undef, .agg #[.int .i64 sh, .int .i64 us, .int .i64 be, .slice A n c], .agg #[.int .i64 ma, .int .i64 fi, .int .i64 le, .slice B nf d], .bool false, undef, .agg #[.int .i64 sh, .int .i64 us, .int .i64 be, .slice A n c], .agg #[.int .i64 sh, .int .i64 us, .int .i64 be, .slice A5 n c5], .agg #[.int .i64 ma, .int .i64 fi, .int .i64 le, .slice B nf d], undef, undef, undef, undef, undef, undef, undef, undef, undef, undef, undef, undef, undef, undef, undef, undef, undef, undef, undef, undef, undef, undef, undef, undef, undef, undef, undef, undef, undef, undef, undef, undef, undef, undef, undef, undef, undef, undef, undef, undef, undef, undef, undef, undef, undef, undef, undef, undef, undef, undef, undef, undef, undef, undef, undef, undef, undef, undef, undef, undef, undef, undef, undef, undef, undef, undef, undef, undef, undef, undef, undef, undef, undef, undef, undef, undef, undef], defers := [] } X from by
    rintro A5 c5 g7 g8 X _ _ rfl rfl hF
    have HF := hid hF
    have hHeld := hF.s
    clear hF
    refine (hWP.out _ _ _ _).2 ?_
    refine wpAnyH_ready (rs := [3]) (by kernel_rfl) (by simp) ?_
    refine AllReadyH.cons (o := _) rfl (fun K hK => ?_) AllReadyH.nil
    · go_simp
      refine Calls.mono (HCP.out _ HF.out.e) ?_
      rintro e Y ⟨A6, c6, rfl, ho, hE⟩
      dsimp only
      have HN := hid (HF.out.call6 hE ho)
      clear hHeld hE ho
      refine hK.out _ _ HN.out.s (fun hHeld => ?_)
      clear hK K
      try simp only [Act.put, sq1, sq2, sq3, sq4, sq5, sq6]
      exact (hWP.out _ _ _ _).1 (ST_2110.out A5 c5 A6 c6 g7 g8 _ _ _ rfl (by kernel_rfl) HN.out))
  have ST_2010 := hid (show ∀ (A5 : Option Addr) (c5 : Nat) (A6 : Option Addr) (c6 : Nat) (g8 : Nat) (X : World) (f : Nat) (l : Array Bool), f = 3 → l = #[true, true, true, true, false, true, false, false] → WrF w V0 n nf sh us be ma fi le A B c d ws fs true true false true false false A5 A6 c5 c6 0 g8 X → WP f l { tmps := #[.agg #[.int .i64 sh, .int .i64 us, .int .i64 be, .slice A n c], .agg #[.int .i64 ma, .int .i64 fi, .int .i64 le, .slice B nf d], .int .i64 D, .pointer (some ⟨w.heap.size, 0, none⟩), .pointer (some ⟨w.heap.size + 1, 0, none⟩), undef, .bool false, undef, .pointer (some ⟨g8, 0, none⟩), undef, undef, undef, undef, undef, undef, undef, undef, undef, undef, undef, undef, undef, undef, .agg #[.int .i64 sh, .int .i64 us, .int .i64 be, .slice A n c], .agg #[.int .i64 ma, .int .i64 fi, .int .i64 le, .slice B nf d], .bool false, undef, .agg #[.int .i64 sh, .int .i64 us, .int .i64 be, .slice A n c], .agg #[.int .i64 sh, .int .i64 us, .int .i64 be, .slice A5 n c5], .agg #[.int .i64 ma, .int .i64 fi, .int .i64 le, .slice B nf d], .agg #[.int .i64 ma, .int .i64 fi, .int .i64 le, .slice A6 nf c6], undef, undef, undef, undef, undef, undef, undef, undef, undef, undef, undef, undef, undef, undef, undef, undef, undef, undef, undef, undef, undef, undef, undef, undef, undef, undef, undef, undef, undef, undef, undef, undef, undef, undef, undef, undef, undef, undef, undef, undef, undef, undef, undef, undef, undef, undef, undef, undef, undef, undef, undef, undef, undef, undef, undef, undef, undef, undef, undef, undef, undef, undef, undef, undef, undef, undef, undef, undef, undef, undef, undef, undef, undef, undef, undef, undef], defers := [] } X from by
    rintro A5 c5 A6 c6 g8 X _ _ rfl rfl hF
    have HF := hid hF
    have hHeld := hF.s
    clear hF
    refine (hWP.out _ _ _ _).2 ?_
    refine wpAnyH_ready (rs := [4]) (by kernel_rfl) (by simp) ?_
    refine AllReadyH.cons (o := _) rfl (fun K hK => ?_) AllReadyH.nil
    · go_simp
      have HN := hid HF.out.al7
      clear hHeld
      refine hK.out _ _ HN.out.s (fun hHeld => ?_)
      clear hK K
      try simp only [Act.put, sq1, sq2, sq3, sq4, sq5, sq6]
      exact (hWP.out _ _ _ _).1 (ST_2110.out A5 c5 A6 c6 X.heap.size g8 _ _ _ rfl (by kernel_rfl) HN.out))
  have ST_2100 := hid (show ∀ (A5 : Option Addr) (c5 : Nat) (A6 : Option Addr) (c6 : Nat) (g7 : Nat) (X : World) (f : Nat) (l : Array Bool), f = 3 → l = #[true, true, true, true, true, false, false, false] → WrF w V0 n nf sh us be ma fi le A B c d ws fs true true true false false false A5 A6 c5 c6 g7 0 X → WP f l { tmps := #[.agg #[.int .i64 sh, .int .i64 us, .int .i64 be, .slice A n c], .agg #[.int .i64 ma, .int .i64 fi, .int .i64 le, .slice B nf d], .int .i64 D, .pointer (some ⟨w.heap.size, 0, none⟩), .pointer (some ⟨w.heap.size + 1, 0, none⟩), undef, .bool false, .pointer (some ⟨g7, 0, none⟩), undef, undef, undef, undef, undef, undef, undef, undef, undef, undef, undef, undef, undef, undef, undef, .agg #[.int .i64 sh, .int .i64 us, .int .i64 be, .slice A n c], .agg #[.int .i64 ma, .int .i64 fi, .int .i64 le, .slice B nf d], .bool false, undef, .agg #[.int .i64 sh, .int .i64 us, .int .i64 be, .slice A n c], .agg #[.int .i64 sh, .int .i64 us, .int .i64 be, .slice A5 n c5], .agg #[.int .i64 ma, .int .i64 fi, .int .i64 le, .slice B nf d], .agg #[.int .i64 ma, .int .i64 fi, .int .i64 le, .slice A6 nf c6], undef, undef, undef, undef, undef, undef, undef, undef, undef, undef, undef, undef, undef, undef, undef, undef, undef, undef, undef, undef, undef, undef, undef, undef, undef, undef, undef, undef, undef, undef, undef, undef, undef, undef, undef, undef, undef, undef, undef, undef, undef, undef, undef, undef, undef, undef, undef, undef, undef, undef, undef, undef, undef, undef, undef, undef, undef, undef, undef, undef, undef, undef, undef, undef, undef, undef, undef, undef, undef, undef, undef, undef, undef, undef, undef, undef], defers := [] } X from by
    rintro A5 c5 A6 c6 g7 X _ _ rfl rfl hF
    have HF := hid hF
    have hHeld := hF.s
    clear hF
    refine (hWP.out _ _ _ _).2 ?_
    refine wpAnyH_ready (rs := [5]) (by kernel_rfl) (by simp) ?_
    refine AllReadyH.cons (o := _) rfl (fun K hK => ?_) AllReadyH.nil
    · go_simp
      have HN := hid HF.out.al8
      clear hHeld
      refine hK.out _ _ HN.out.s (fun hHeld => ?_)
      clear hK K
      try simp only [Act.put, sq1, sq2, sq3, sq4, sq5, sq6]
      exact (hWP.out _ _ _ _).1 (ST_2110.out A5 c5 A6 c6 g7 X.heap.size _ _ _ rfl (by kernel_rfl) HN.out))
  have ST_0110 := hid (show ∀ (g7 : Nat) (g8 : Nat) (X : World) (f : Nat) (l : Array Bool), f = 4 → l = #[true, false, true, false, true, true, false, false] → WrF w V0 n nf sh us be ma fi le A B c d ws fs false false true true false false none none 0 0 g7 g8 X → WP f l { tmps := #[.agg #[.int .i64 sh, .int .i64 us, .int .i64 be, .slice A n c], .agg #[.int .i64 ma, .int .i64 fi, .int .i64 le, .slice B nf d], .int .i64 D, .pointer (some ⟨w.heap.size, 0, none⟩), .pointer (some ⟨w.heap.size + 1, 0, none⟩), undef, .bool false, .pointer (some ⟨g7, 0, none⟩), .pointer (some ⟨g8, 0, none⟩), undef, undef, undef, undef, undef, undef, undef, undef, undef, undef, undef, undef, undef, undef, .agg #[.int .i64 sh, .int .i64 us, .int .i64 be, .slice A n c], .agg #[.int .i64 ma, .int .i64 fi, .int .i64 le, .slice B nf d], .bool false, undef, .agg #[.int .i64 sh, .int .i64 us, .int .i64 be, .slice A n c], undef, .agg #[.int .i64 ma, .int .i64 fi, .int .i64 le, .slice B nf d], undef, undef, undef, undef, undef, undef, undef, undef, undef, undef, undef, undef, undef, undef, undef, undef, undef, undef, undef, undef, undef, undef, undef, undef, undef, undef, undef, undef, undef, undef, undef, undef, undef, undef, undef, undef, undef, undef, undef, undef, undef, undef, undef, undef, undef, undef, undef, undef, undef, undef, undef, undef, undef, undef, undef, undef, undef, undef, undef, undef, undef, undef, undef, undef, undef, undef, undef, undef, undef, undef, undef, undef, undef, undef, undef, undef, undef], defers := [] } X from by
    rintro g7 g8 X _ _ rfl rfl hF
    have HF := hid hF
    have hHeld := hF.s
    clear hF
    refine (hWP.out _ _ _ _).2 ?_
    refine wpAnyH_ready (rs := [1]) (by kernel_rfl) (by simp) ?_
    refine AllReadyH.cons (o := _) rfl (fun K hK => ?_) AllReadyH.nil
    · go_simp
      refine Calls.mono (HCM.out _ HF.out.e) ?_
      rintro e Y ⟨A5, c5, rfl, ho, hE⟩
      dsimp only
      have HN := hid (HF.out.call5 hE ho)
      clear hHeld hE ho
      refine hK.out _ _ HN.out.s (fun hHeld => ?_)
      clear hK K
      try simp only [Act.put, sq1, sq2, sq3, sq4, sq5, sq6]
      exact (hWP.out _ _ _ _).1 (ST_1110.out A5 c5 g7 g8 _ _ _ rfl (by kernel_rfl) HN.out))
  have ST_1010 := hid (show ∀ (A5 : Option Addr) (c5 : Nat) (g8 : Nat) (X : World) (f : Nat) (l : Array Bool), f = 4 → l = #[true, true, true, false, false, true, false, false] → WrF w V0 n nf sh us be ma fi le A B c d ws fs true false false true false false A5 none c5 0 0 g8 X → WP f l { tmps := #[.agg #[.int .i64 sh, .int .i64 us, .int .i64 be, .slice A n c], .agg #[.int .i64 ma, .int .i64 fi, .int .i64 le, .slice B nf d], .int .i64 D, .pointer (some ⟨w.heap.size, 0, none⟩), .pointer (some ⟨w.heap.size + 1, 0, none⟩), undef, .bool false, undef, .pointer (some ⟨g8, 0, none⟩), undef, undef, undef, undef, undef, undef, undef, undef, undef, undef, undef, undef, undef, undef, .agg #[.int .i64 sh, .int .i64 us, .int .i64 be, .slice A n c], .agg #[.int .i64 ma, .int .i64 fi, .int .i64 le, .slice B nf d], .bool false, undef, .agg #[.int .i64 sh, .int .i64 us, .int .i64 be, .slice A n c], .agg #[.int .i64 sh, .int .i64 us, .int .i64 be, .slice A5 n c5], .agg #[.int .i64 ma, .int .i64 fi, .int .i64 le, .slice B nf d], undef, undef, undef, undef, undef, undef, undef, undef, undef, undef, undef, undef, undef, undef, undef, undef, undef, undef, undef, undef, undef, undef, undef, undef, undef, undef, undef, undef, undef, undef, undef, undef, undef, undef, undef, undef, undef, undef, undef, undef, undef, undef, undef, undef, undef, undef, undef, undef, undef, undef, undef, undef, undef, undef, undef, undef, undef, undef, undef, undef, undef, undef, undef, undef, undef, undef, undef, undef, undef, undef, undef, undef, undef, undef, undef, undef, undef], defers := [] } X from by
    rintro A5 c5 g8 X _ _ rfl rfl hF
    have HF := hid hF
    have hHeld := hF.s
    clear hF
    refine (hWP.out _ _ _ _).2 ?_
    refine wpAnyH_ready (rs := [3, 4]) (by kernel_rfl) (by simp) ?_
    refine AllReadyH.cons (o := _) rfl (fun K hK => ?_) (AllReadyH.cons (o := _) rfl (fun K hK => ?_) AllReadyH.nil)
    · go_simp
      refine Calls.mono (HCP.out _ HF.out.e) ?_
      rintro e Y ⟨A6, c6, rfl, ho, hE⟩
      dsimp only
      have HN := hid (HF.out.call6 hE ho)
      clear hHeld hE ho
      refine hK.out _ _ HN.out.s (fun hHeld => ?_)
      clear hK K
      try simp only [Act.put, sq1, sq2, sq3, sq4, sq5, sq6]
      exact (hWP.out _ _ _ _).1 (ST_2010.out A5 c5 A6 c6 g8 _ _ _ rfl (by kernel_rfl) HN.out)
    · go_simp
      have HN := hid HF.out.al7
      clear hHeld
      refine hK.out _ _ HN.out.s (fun hHeld => ?_)
      clear hK K
      try simp only [Act.put, sq1, sq2, sq3, sq4, sq5, sq6]
      exact (hWP.out _ _ _ _).1 (ST_1110.out A5 c5 X.heap.size g8 _ _ _ rfl (by kernel_rfl) HN.out))
  have ST_1100 := hid (show ∀ (A5 : Option Addr) (c5 : Nat) (g7 : Nat) (X : World) (f : Nat) (l : Array Bool), f = 4 → l = #[true, true, true, false, true, false, false, false] → WrF w V0 n nf sh us be ma fi le A B c d ws fs true false true false false false A5 none c5 0 g7 0 X → WP f l { tmps := #[.agg #[.int .i64 sh, .int .i64 us, .int .i64 be, .slice A n c], .agg #[.int .i64 ma, .int .i64 fi, .int .i64 le, .slice B nf d], .int .i64 D, .pointer (some ⟨w.heap.size, 0, none⟩), .pointer (some ⟨w.heap.size + 1, 0, none⟩), undef, .bool false, .pointer (some ⟨g7, 0, none⟩), undef, undef, undef, undef, undef, undef, undef, undef, undef, undef, undef, undef, undef, undef, undef, .agg #[.int .i64 sh, .int .i64 us, .int .i64 be, .slice A n c], .agg #[.int .i64 ma, .int .i64 fi, .int .i64 le, .slice B nf d], .bool false, undef, .agg #[.int .i64 sh, .int .i64 us, .int .i64 be, .slice A n c], .agg #[.int .i64 sh, .int .i64 us, .int .i64 be, .slice A5 n c5], .agg #[.int .i64 ma, .int .i64 fi, .int .i64 le, .slice B nf d], undef, undef, undef, undef, undef, undef, undef, undef, undef, undef, undef, undef, undef, undef, undef, undef, undef, undef, undef, undef, undef, undef, undef, undef, undef, undef, undef, undef, undef, undef, undef, undef, undef, undef, undef, undef, undef, undef, undef, undef, undef, undef, undef, undef, undef, undef, undef, undef, undef, undef, undef, undef, undef, undef, undef, undef, undef, undef, undef, undef, undef, undef, undef, undef, undef, undef, undef, undef, undef, undef, undef, undef, undef, undef, undef, undef, undef], defers := [] } X from by
    rintro A5 c5 g7 X _ _ rfl rfl hF
    have HF := hid hF
    have hHeld := hF.s
    clear hF
    refine (hWP.out _ _ _ _).2 ?_
    refine wpAnyH_ready (rs := [3, 5]) (by kernel_rfl) (by simp) ?_
    refine AllReadyH.cons (o := _) rfl (fun K hK => ?_) (AllReadyH.cons (o := _) rfl (fun K hK => ?_) AllReadyH.nil)
    · go_simp
      refine Calls.mono (HCP.out _ HF.out.e) ?_
      rintro e Y ⟨A6, c6, rfl, ho, hE⟩
      dsimp only
      have HN := hid (HF.out.call6 hE ho)
      clear hHeld hE ho
      refine hK.out _ _ HN.out.s (fun hHeld => ?_)
      clear hK K
      try simp only [Act.put, sq1, sq2, sq3, sq4, sq5, sq6]
      exact (hWP.out _ _ _ _).1 (ST_2100.out A5 c5 A6 c6 g7 _ _ _ rfl (by kernel_rfl) HN.out)
    · go_simp
      have HN := hid HF.out.al8
      clear hHeld
      refine hK.out _ _ HN.out.s (fun hHeld => ?_)
      clear hK K
      try simp only [Act.put, sq1, sq2, sq3, sq4, sq5, sq6]
      exact (hWP.out _ _ _ _).1 (ST_1110.out A5 c5 g7 X.heap.size _ _ _ rfl (by kernel_rfl) HN.out))
  have ST_2000 := hid (show ∀ (A5 : Option Addr) (c5 : Nat) (A6 : Option Addr) (c6 : Nat) (X : World) (f : Nat) (l : Array Bool), f = 4 → l = #[true, true, true, true, false, false, false, false] → WrF w V0 n nf sh us be ma fi le A B c d ws fs true true false false false false A5 A6 c5 c6 0 0 X → WP f l { tmps := #[.agg #[.int .i64 sh, .int .i64 us, .int .i64 be, .slice A n c], .agg #[.int .i64 ma, .int .i64 fi, .int .i64 le, .slice B nf d], .int .i64 D, .pointer (some ⟨w.heap.size, 0, none⟩), .pointer (some ⟨w.heap.size + 1, 0, none⟩), undef, .bool false, undef, undef, undef, undef, undef, undef, undef, undef, undef, undef, undef, undef, undef, undef, undef, undef, .agg #[.int .i64 sh, .int .i64 us, .int .i64 be, .slice A n c], .agg #[.int .i64 ma, .int .i64 fi, .int .i64 le, .slice B nf d], .bool false, undef, .agg #[.int .i64 sh, .int .i64 us, .int .i64 be, .slice A n c], .agg #[.int .i64 sh, .int .i64 us, .int .i64 be, .slice A5 n c5], .agg #[.int .i64 ma, .int .i64 fi, .int .i64 le, .slice B nf d], .agg #[.int .i64 ma, .int .i64 fi, .int .i64 le, .slice A6 nf c6], undef, undef, undef, undef, undef, undef, undef, undef, undef, undef, undef, undef, undef, undef, undef, undef, undef, undef, undef, undef, undef, undef, undef, undef, undef, undef, undef, undef, undef, undef, undef, undef, undef, undef, undef, undef, undef, undef, undef, undef, undef, undef, undef, undef, undef, undef, undef, undef, undef, undef, undef, undef, undef, undef, undef, undef, undef, undef, undef, undef, undef, undef, undef, undef, undef, undef, undef, undef, undef, undef, undef, undef, undef, undef, undef, undef], defers := [] } X from by
    rintro A5 c5 A6 c6 X _ _ rfl rfl hF
    have HF := hid hF
    have hHeld := hF.s
    clear hF
    refine (hWP.out _ _ _ _).2 ?_
    refine wpAnyH_ready (rs := [4, 5]) (by kernel_rfl) (by simp) ?_
    refine AllReadyH.cons (o := _) rfl (fun K hK => ?_) (AllReadyH.cons (o := _) rfl (fun K hK => ?_) AllReadyH.nil)
    · go_simp
      have HN := hid HF.out.al7
      clear hHeld
      refine hK.out _ _ HN.out.s (fun hHeld => ?_)
      clear hK K
      try simp only [Act.put, sq1, sq2, sq3, sq4, sq5, sq6]
      exact (hWP.out _ _ _ _).1 (ST_2100.out A5 c5 A6 c6 X.heap.size _ _ _ rfl (by kernel_rfl) HN.out)
    · go_simp
      have HN := hid HF.out.al8
      clear hHeld
      refine hK.out _ _ HN.out.s (fun hHeld => ?_)
      clear hK K
      try simp only [Act.put, sq1, sq2, sq3, sq4, sq5, sq6]
      exact (hWP.out _ _ _ _).1 (ST_2010.out A5 c5 A6 c6 X.heap.size _ _ _ rfl (by kernel_rfl) HN.out))
  have ST_0010 := hid (show ∀ (g8 : Nat) (X : World) (f : Nat) (l : Array Bool), f = 5 → l = #[true, false, true, false, false, true, false, false] → WrF w V0 n nf sh us be ma fi le A B c d ws fs false false false true false false none none 0 0 0 g8 X → WP f l { tmps := #[.agg #[.int .i64 sh, .int .i64 us, .int .i64 be, .slice A n c], .agg #[.int .i64 ma, .int .i64 fi, .int .i64 le, .slice B nf d], .int .i64 D, .pointer (some ⟨w.heap.size, 0, none⟩), .pointer (some ⟨w.heap.size + 1, 0, none⟩), undef, .bool false, undef, .pointer (some ⟨g8, 0, none⟩), undef, undef, undef, undef, undef, undef, undef, undef, undef, undef, undef, undef, undef, undef, .agg #[.int .i64 sh, .int .i64 us, .int .i64 be, .slice A n c], .agg #[.int .i64 ma, .int .i64 fi, .int .i64 le, .slice B nf d], .bool false, undef, .agg #[.int .i64 sh, .int .i64 us, .int .i64 be, .slice A n c], undef, .agg #[.int .i64 ma, .int .i64 fi, .int .i64 le, .slice B nf d], undef, undef, undef, undef, undef, undef, undef, undef, undef, undef, undef, undef, undef, undef, undef, undef, undef, undef, undef, undef, undef, undef, undef, undef, undef, undef, undef, undef, undef, undef, undef, undef, undef, undef, undef, undef, undef, undef, undef, undef, undef, undef, undef, undef, undef, undef, undef, undef, undef, undef, undef, undef, undef, undef, undef, undef, undef, undef, undef, undef, undef, undef, undef, undef, undef, undef, undef, undef, undef, undef, undef, undef, undef, undef, undef, undef, undef], defers := [] } X from by
    rintro g8 X _ _ rfl rfl hF
    have HF := hid hF
    have hHeld := hF.s
    clear hF
    refine (hWP.out _ _ _ _).2 ?_
    refine wpAnyH_ready (rs := [1, 4]) (by kernel_rfl) (by simp) ?_
    refine AllReadyH.cons (o := _) rfl (fun K hK => ?_) (AllReadyH.cons (o := _) rfl (fun K hK => ?_) AllReadyH.nil)
    · go_simp
      refine Calls.mono (HCM.out _ HF.out.e) ?_
      rintro e Y ⟨A5, c5, rfl, ho, hE⟩
      dsimp only
      have HN := hid (HF.out.call5 hE ho)
      clear hHeld hE ho
      refine hK.out _ _ HN.out.s (fun hHeld => ?_)
      clear hK K
      try simp only [Act.put, sq1, sq2, sq3, sq4, sq5, sq6]
      exact (hWP.out _ _ _ _).1 (ST_1010.out A5 c5 g8 _ _ _ rfl (by kernel_rfl) HN.out)
    · go_simp
      have HN := hid HF.out.al7
      clear hHeld
      refine hK.out _ _ HN.out.s (fun hHeld => ?_)
      clear hK K
      try simp only [Act.put, sq1, sq2, sq3, sq4, sq5, sq6]
      exact (hWP.out _ _ _ _).1 (ST_0110.out X.heap.size g8 _ _ _ rfl (by kernel_rfl) HN.out))
  have ST_0100 := hid (show ∀ (g7 : Nat) (X : World) (f : Nat) (l : Array Bool), f = 5 → l = #[true, false, true, false, true, false, false, false] → WrF w V0 n nf sh us be ma fi le A B c d ws fs false false true false false false none none 0 0 g7 0 X → WP f l { tmps := #[.agg #[.int .i64 sh, .int .i64 us, .int .i64 be, .slice A n c], .agg #[.int .i64 ma, .int .i64 fi, .int .i64 le, .slice B nf d], .int .i64 D, .pointer (some ⟨w.heap.size, 0, none⟩), .pointer (some ⟨w.heap.size + 1, 0, none⟩), undef, .bool false, .pointer (some ⟨g7, 0, none⟩), undef, undef, undef, undef, undef, undef, undef, undef, undef, undef, undef, undef, undef, undef, undef, .agg #[.int .i64 sh, .int .i64 us, .int .i64 be, .slice A n c], .agg #[.int .i64 ma, .int .i64 fi, .int .i64 le, .slice B nf d], .bool false, undef, .agg #[.int .i64 sh, .int .i64 us, .int .i64 be, .slice A n c], undef, .agg #[.int .i64 ma, .int .i64 fi, .int .i64 le, .slice B nf d], undef, undef, undef, undef, undef, undef, undef, undef, undef, undef, undef, undef, undef, undef, undef, undef, undef, undef, undef, undef, undef, undef, undef, undef, undef, undef, undef, undef, undef, undef, undef, undef, undef, undef, undef, undef, undef, undef, undef, undef, undef, undef, undef, undef, undef, undef, undef, undef, undef, undef, undef, undef, undef, undef, undef, undef, undef, undef, undef, undef, undef, undef, undef, undef, undef, undef, undef, undef, undef, undef, undef, undef, undef, undef, undef, undef, undef], defers := [] } X from by
    rintro g7 X _ _ rfl rfl hF
    have HF := hid hF
    have hHeld := hF.s
    clear hF
    refine (hWP.out _ _ _ _).2 ?_
    refine wpAnyH_ready (rs := [1, 5]) (by kernel_rfl) (by simp) ?_
    refine AllReadyH.cons (o := _) rfl (fun K hK => ?_) (AllReadyH.cons (o := _) rfl (fun K hK => ?_) AllReadyH.nil)
    · go_simp
      refine Calls.mono (HCM.out _ HF.out.e) ?_
      rintro e Y ⟨A5, c5, rfl, ho, hE⟩
      dsimp only
      have HN := hid (HF.out.call5 hE ho)
      clear hHeld hE ho
      refine hK.out _ _ HN.out.s (fun hHeld => ?_)
      clear hK K
      try simp only [Act.put, sq1, sq2, sq3, sq4, sq5, sq6]
      exact (hWP.out _ _ _ _).1 (ST_1100.out A5 c5 g7 _ _ _ rfl (by kernel_rfl) HN.out)
    · go_simp
      have HN := hid HF.out.al8
      clear hHeld
      refine hK.out _ _ HN.out.s (fun hHeld => ?_)
      clear hK K
      try simp only [Act.put, sq1, sq2, sq3, sq4, sq5, sq6]
      exact (hWP.out _ _ _ _).1 (ST_0110.out g7 X.heap.size _ _ _ rfl (by kernel_rfl) HN.out))
  have ST_1000 := hid (show ∀ (A5 : Option Addr) (c5 : Nat) (X : World) (f : Nat) (l : Array Bool), f = 5 → l = #[true, true, true, false, false, false, false, false] → WrF w V0 n nf sh us be ma fi le A B c d ws fs true false false false false false A5 none c5 0 0 0 X → WP f l { tmps := #[.agg #[.int .i64 sh, .int .i64 us, .int .i64 be, .slice A n c], .agg #[.int .i64 ma, .int .i64 fi, .int .i64 le, .slice B nf d], .int .i64 D, .pointer (some ⟨w.heap.size, 0, none⟩), .pointer (some ⟨w.heap.size + 1, 0, none⟩), undef, .bool false, undef, undef, undef, undef, undef, undef, undef, undef, undef, undef, undef, undef, undef, undef, undef, undef, .agg #[.int .i64 sh, .int .i64 us, .int .i64 be, .slice A n c], .agg #[.int .i64 ma, .int .i64 fi, .int .i64 le, .slice B nf d], .bool false, undef, .agg #[.int .i64 sh, .int .i64 us, .int .i64 be, .slice A n c], .agg #[.int .i64 sh, .int .i64 us, .int .i64 be, .slice A5 n c5], .agg #[.int .i64 ma, .int .i64 fi, .int .i64 le, .slice B nf d], undef, undef, undef, undef, undef, undef, undef, undef, undef, undef, undef, undef, undef, undef, undef, undef, undef, undef, undef, undef, undef, undef, undef, undef, undef, undef, undef, undef, undef, undef, undef, undef, undef, undef, undef, undef, undef, undef, undef, undef, undef, undef, undef, undef, undef, undef, undef, undef, undef, undef, undef, undef, undef, undef, undef, undef, undef, undef, undef, undef, undef, undef, undef, undef, undef, undef, undef, undef, undef, undef, undef, undef, undef, undef, undef, undef, undef], defers := [] } X from by
    rintro A5 c5 X _ _ rfl rfl hF
    have HF := hid hF
    have hHeld := hF.s
    clear hF
    refine (hWP.out _ _ _ _).2 ?_
    refine wpAnyH_ready (rs := [3, 4, 5]) (by kernel_rfl) (by simp) ?_
    refine AllReadyH.cons (o := _) rfl (fun K hK => ?_) (AllReadyH.cons (o := _) rfl (fun K hK => ?_) (AllReadyH.cons (o := _) rfl (fun K hK => ?_) AllReadyH.nil))
    · go_simp
      refine Calls.mono (HCP.out _ HF.out.e) ?_
      rintro e Y ⟨A6, c6, rfl, ho, hE⟩
      dsimp only
      have HN := hid (HF.out.call6 hE ho)
      clear hHeld hE ho
      refine hK.out _ _ HN.out.s (fun hHeld => ?_)
      clear hK K
      try simp only [Act.put, sq1, sq2, sq3, sq4, sq5, sq6]
      exact (hWP.out _ _ _ _).1 (ST_2000.out A5 c5 A6 c6 _ _ _ rfl (by kernel_rfl) HN.out)
    · go_simp
      have HN := hid HF.out.al7
      clear hHeld
      refine hK.out _ _ HN.out.s (fun hHeld => ?_)
      clear hK K
      try simp only [Act.put, sq1, sq2, sq3, sq4, sq5, sq6]
      exact (hWP.out _ _ _ _).1 (ST_1100.out A5 c5 X.heap.size _ _ _ rfl (by kernel_rfl) HN.out)
    · go_simp
      have HN := hid HF.out.al8
      clear hHeld
      refine hK.out _ _ HN.out.s (fun hHeld => ?_)
      clear hK K
      try simp only [Act.put, sq1, sq2, sq3, sq4, sq5, sq6]
      exact (hWP.out _ _ _ _).1 (ST_1010.out A5 c5 X.heap.size _ _ _ rfl (by kernel_rfl) HN.out))
  have ST_0000 := hid (show ∀ (X : World) (f : Nat) (l : Array Bool), f = 6 → l = #[true, false, true, false, false, false, false, false] → WrF w V0 n nf sh us be ma fi le A B c d ws fs false false false false false false none none 0 0 0 0 X → WP f l { tmps := #[.agg #[.int .i64 sh, .int .i64 us, .int .i64 be, .slice A n c], .agg #[.int .i64 ma, .int .i64 fi, .int .i64 le, .slice B nf d], .int .i64 D, .pointer (some ⟨w.heap.size, 0, none⟩), .pointer (some ⟨w.heap.size + 1, 0, none⟩), undef, .bool false, undef, undef, undef, undef, undef, undef, undef, undef, undef, undef, undef, undef, undef, undef, undef, undef, .agg #[.int .i64 sh, .int .i64 us, .int .i64 be, .slice A n c], .agg #[.int .i64 ma, .int .i64 fi, .int .i64 le, .slice B nf d], .bool false, undef, .agg #[.int .i64 sh, .int .i64 us, .int .i64 be, .slice A n c], undef, .agg #[.int .i64 ma, .int .i64 fi, .int .i64 le, .slice B nf d], undef, undef, undef, undef, undef, undef, undef, undef, undef, undef, undef, undef, undef, undef, undef, undef, undef, undef, undef, undef, undef, undef, undef, undef, undef, undef, undef, undef, undef, undef, undef, undef, undef, undef, undef, undef, undef, undef, undef, undef, undef, undef, undef, undef, undef, undef, undef, undef, undef, undef, undef, undef, undef, undef, undef, undef, undef, undef, undef, undef, undef, undef, undef, undef, undef, undef, undef, undef, undef, undef, undef, undef, undef, undef, undef, undef, undef], defers := [] } X from by
    rintro  X _ _ rfl rfl hF
    have HF := hid hF
    have hHeld := hF.s
    clear hF
    refine (hWP.out _ _ _ _).2 ?_
    refine wpAnyH_ready (rs := [1, 4, 5]) (by kernel_rfl) (by simp) ?_
    refine AllReadyH.cons (o := _) rfl (fun K hK => ?_) (AllReadyH.cons (o := _) rfl (fun K hK => ?_) (AllReadyH.cons (o := _) rfl (fun K hK => ?_) AllReadyH.nil))
    · go_simp
      refine Calls.mono (HCM.out _ HF.out.e) ?_
      rintro e Y ⟨A5, c5, rfl, ho, hE⟩
      dsimp only
      have HN := hid (HF.out.call5 hE ho)
      clear hHeld hE ho
      refine hK.out _ _ HN.out.s (fun hHeld => ?_)
      clear hK K
      try simp only [Act.put, sq1, sq2, sq3, sq4, sq5, sq6]
      exact (hWP.out _ _ _ _).1 (ST_1000.out A5 c5 _ _ _ rfl (by kernel_rfl) HN.out)
    · go_simp
      have HN := hid HF.out.al7
      clear hHeld
      refine hK.out _ _ HN.out.s (fun hHeld => ?_)
      clear hK K
      try simp only [Act.put, sq1, sq2, sq3, sq4, sq5, sq6]
      exact (hWP.out _ _ _ _).1 (ST_0100.out X.heap.size _ _ _ rfl (by kernel_rfl) HN.out)
    · go_simp
      have HN := hid HF.out.al8
      clear hHeld
      refine hK.out _ _ HN.out.s (fun hHeld => ?_)
      clear hK K
      try simp only [Act.put, sq1, sq2, sq3, sq4, sq5, sq6]
      exact (hWP.out _ _ _ _).1 (ST_0010.out X.heap.size _ _ _ rfl (by kernel_rfl) HN.out))
  exact ST_0000.out X0.drew _ _ (by kernel_rfl) (by kernel_rfl) HF.out
end Go.Proofs.YtdhljpngkeobcaaGreat
