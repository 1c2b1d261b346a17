/- Vital of the specification; Vital of both, if the input is not valid. -/
import Derived.Test.YtndoghcglbpllaaV18
import Derived.Test.YtndoghcglbpllaaV17
import Derived.Test.YtndoghcglbpllaaV21
set_option linter.unusedSimpArgs false
set_option linter.unusedVariables false
namespace Go.Proofs.Ytndoghcglbpllaa
open Go.RowKit
set_option maxRecDepth 100000 in
set_option maxHeartbeats 2000000 in
theorem vital_bad (m g l pl ph from_ start to_ D : Int) (A : Option Addr) (n c : Nat) (ps : List Pt) (hn : ps.length = n) (w : World) (hp : PathsAt w A ps) (E : Int) (hE : beginE m g l pl ph ps [from_, to_] [start, D] = E) (hne : E ≠ 0) :
    Calls Try.prog 26 #[.agg #[.int .i64 m, .slice A n c], .agg #[.int .i64 g, .int .i64 l, .int .i64 pl, .int .i64 ph], .int .i64 from_, .int .i64 start, .int .i64 to_, .int .i64 D] w fun e w' =>
      e = .returned (.tuple #[.slice none 0 0, .int .i64 E]) ∧ Ext w w' := by
  have HB := hid (fun (b1 b2 : Nat) (W : World) (hW : Ext w W) (h1 : IntsAt W (some ⟨b1, 0, none⟩) [from_, to_]) (h2 : IntsAt W (some ⟨b2, 0, none⟩) [start, D]) => begin_bad m g l pl ph A (some ⟨b1, 0, none⟩) (some ⟨b2, 0, none⟩) n c 2 2 2 2 ps [from_, to_] [start, D] hn rfl rfl (by omega) (by omega) W (hp.ext hW) h1 h2 E hE hne)
  have hneb : (E != 0) = true := by simpa using hne
  have HNB := hid hneb
  clear hp hn hE hne hneb
  refine (callsIn_wide (n := 6)).1 ?_
  refine callsIn_of_wp_marks Try.func26 rfl trivial ?_ rfl
  simp only [Try.ntmps26, List.size_toArray, List.length_cons, List.length_nil, Nat.reduceAdd, Nat.reduceSub, Array.replicate_succ, Array.replicate_zero, List.push_toArray, List.append_toArray, List.nil_append, List.cons_append]
  gi_wp2_with fail
  have t2 := two_blocks (((((((w.alloc (.cells #[.int .i64 m, .slice A n c] 24)).alloc (.cells #[.int .i64 g, .int .i64 l, .int .i64 pl, .int .i64 ph] 28))).alloc (.cells #[.int .i64 from_] 3)).alloc (.cells #[.int .i64 start] 3)).alloc (.cells #[.int .i64 to_] 3)).alloc (.cells #[.int .i64 D] 3)) (.cells #[.int .i64 from_, .int .i64 to_] 3) (.cells #[.int .i64 start, .int .i64 D] 3)
  simp only [World.size_alloc] at t2
  refine ⟨trivial, CallsIn.mono (callsIn_wide.2 (HB.out _ _ _ (by (repeat' (first | with_reducible assumption | with_reducible exact Ext.refl _ | with_reducible refine Ext.alloc ?_ _ | with_reducible refine Ext.set ?_ ?_ _ | with_reducible refine Ext.drew ?_ | with_reducible refine Ext.drewN ?_ _ | with_reducible refine Ext.trans ?_ (by assumption) | (dsimp only; omega)))) (ints_two_at t2.1) (ints_two_at t2.2.1))) ?_⟩
  rintro e w1 ⟨rfl, hE⟩
  have EW : Ext w w1 := by (repeat' (first | with_reducible assumption | with_reducible exact Ext.refl _ | with_reducible refine Ext.alloc ?_ _ | with_reducible refine Ext.set ?_ ?_ _ | with_reducible refine Ext.drew ?_ | with_reducible refine Ext.drewN ?_ _ | with_reducible refine Ext.trans ?_ (by assumption) | (dsimp only; omega)))
  have hneb := HNB.out
  clear hE HB t2 HNB
  gi_wp2
  exact ⟨_, results_tmp2 rfl _ _ _, rfl, EW.alloc _⟩
set_option maxRecDepth 100000 in
set_option maxHeartbeats 2000000 in
theorem rvital_bad (m g l pl ph from_ start to_ D : Int) (A : Option Addr) (n c : Nat) (ps : List Pt) (hn : ps.length = n) (w : World) (hp : PathsAt w A ps) (E : Int) (hE : beginE m g l pl ph ps [from_, to_] [start, D] = E) (hne : E ≠ 0) :
    Calls Try.prog 27 #[.agg #[.int .i64 m, .slice A n c], .agg #[.int .i64 g, .int .i64 l, .int .i64 pl, .int .i64 ph], .int .i64 from_, .int .i64 start, .int .i64 to_, .int .i64 D] w fun e w' =>
      e = .returned (.tuple #[.slice none 0 0, .int .i64 E]) ∧ Ext w w' := by
  have HC := hid (fun (b1 b2 : Nat) (W : World) (hW : Ext w W) (h1 : IntsAt W (some ⟨b1, 0, none⟩) [from_, to_]) (h2 : IntsAt W (some ⟨b2, 0, none⟩) [start, D]) => rcheck_any m g l pl ph A n c ps hn (some ⟨b1, 0, none⟩) (some ⟨b2, 0, none⟩) 2 2 2 2 [from_, to_] [start, D] rfl rfl (by omega) (by omega) W (hp.ext hW) h1 h2)
  rw [hE] at HC
  clear hp hn hE
  go_enter Try.func27, Try.ntmps27
  go_wp2_with fail
  have t1 := two_blocks ((w.alloc (.cells #[.int .i64 m, .slice A n c] 24)).alloc (.cells #[.int .i64 g, .int .i64 l, .int .i64 pl, .int .i64 ph] 28)) (.cells #[.int .i64 from_, .int .i64 to_] 3) (.cells #[.int .i64 start, .int .i64 D] 3)
  simp only [World.size_alloc] at t1
  refine (HC.out _ _ _ (by (repeat' (first | with_reducible assumption | with_reducible exact Ext.refl _ | with_reducible refine Ext.alloc ?_ _ | with_reducible refine Ext.set ?_ ?_ _ | with_reducible refine Ext.drew ?_ | with_reducible refine Ext.drewN ?_ _ | with_reducible refine Ext.trans ?_ (by assumption) | (dsimp only; omega)))) (ints_two_at t1.1) (ints_two_at t1.2.1)).mono ?_
  clear t1
  rintro e w1 ⟨rfl, hE⟩
  have EW : Ext w w1 := by (repeat' (first | with_reducible assumption | with_reducible exact Ext.refl _ | with_reducible refine Ext.alloc ?_ _ | with_reducible refine Ext.set ?_ ?_ _ | with_reducible refine Ext.drew ?_ | with_reducible refine Ext.drewN ?_ _ | with_reducible refine Ext.trans ?_ (by assumption) | (dsimp only; omega)))
  go_wp2
  go_ret2
  exact ⟨rfl, EW⟩
theorem OwnAt.low {B B' : Nat} {v : Value} {xs : List Int} {W : World} (h : OwnAt W B v xs) (hB : B' ≤ B) : OwnAt W B' v xs := by
  obtain ⟨h1, h2⟩ := h
  refine ⟨h1, ?_⟩
  rcases h2 with h2 | ⟨g, cap, cur, a1, a2, a3, a4⟩
  · exact .inl h2
  · exact .inr ⟨g, cap, cur, a1, Nat.le_trans hB a2, a3, a4⟩
theorem vit_range {g l pl ph : Int} {ps : List Pt} {m fr to_ : Nat} {start D : Int} (hX : (rows selHi g l pl ph ps m fr start (m - 1)).getD to_ 0 ≤ D) (n : Nat) : vitOf g l pl ph ps m fr to_ start D (walkIdx ps g n) = vitOf g l pl ph ps m fr to_ start D (List.range n) := by
  unfold vitOf walkIdx
  rw [List.filter_filter]
  congr 1
  refine List.filter_congr fun i _ => ?_
  unfold vitB okB
  by_cases hg : (ps.getD i zeroPt).grade ≤ g
  · rw [decide_eq_true hg, Bool.and_true]
  · rw [rows_closed_no hg, decide_eq_false hg, Bool.and_false, eq_comm]
    exact decide_eq_false (by omega)
set_option maxRecDepth 100000 in
set_option maxHeartbeats 4000000 in
theorem rvital_ok (m g l pl ph from_ start to_ D : Int) (A : Option Addr) (n c : Nat) (ps : List Pt) (hn : ps.length = n) (w : World) (hp : PathsAt w A ps) (hb : beginE m g l pl ph ps [from_, to_] [start, D] = 0) :
    Calls Try.prog 27 #[.agg #[.int .i64 m, .slice A n c], .agg #[.int .i64 g, .int .i64 l, .int .i64 pl, .int .i64 ph], .int .i64 from_, .int .i64 start, .int .i64 to_, .int .i64 D] w
      (VitalIs ((rows selHi g l pl ph ps m.toNat from_.toNat start (m.toNat - 1)).getD to_.toNat 0) D (vitOf g l pl ph ps m.toNat from_.toNat to_.toNat start D (walkIdx ps g n)) w) := by
  obtain ⟨k1, k2, k3, k4⟩ := begin_zero hb
  obtain ⟨hm1, hm2, hN⟩ := vNet_ok k1
  have ha := vParty_ok k2
  have hO := vNet_opens k1
  have hfr := k3 from_ (by simp)
  have hto := k3 to_ (by simp)
  have hst := k4 start (by simp)
  have hDt := k4 D (by simp)
  obtain ⟨mm, rfl⟩ : ∃ k : Nat, m = k := ⟨m.toNat, by omega⟩
  obtain ⟨fr, rfl⟩ : ∃ k : Nat, from_ = k := ⟨from_.toNat, by omega⟩
  obtain ⟨tt, rfl⟩ : ∃ k : Nat, to_ = k := ⟨to_.toNat, by omega⟩
  rw [Int.toNat_natCast] at hN
  simp only [Int.toNat_natCast]
  have hn24 : n ≤ 24 := by have := hN.len; omega
  have HC := hid (fun (b1 b2 : Nat) (W : World) (hW : Ext w W) (h1 : IntsAt W (some ⟨b1, 0, none⟩) [(fr : Int), (tt : Int)]) (h2 : IntsAt W (some ⟨b2, 0, none⟩) [start, D]) => rcheck_any mm g l pl ph A n c ps hn (some ⟨b1, 0, none⟩) (some ⟨b2, 0, none⟩) 2 2 2 2 [(fr : Int), (tt : Int)] [start, D] rfl rfl (by omega) (by omega) W (hp.ext hW) h1 h2)
  rw [hb] at HC
  have HS := hid (fun (but : Int) (W : World) (hE : Ext w W) => rsure_any mm (by omega) (by omega) g l pl ph ha A n c ps hn hN hO fr (by omega) start hst.1 hst.2 tt (by omega) but W (hp.ext hE))
  have q1 := ipRows_eq (sel := selHi) (g := g) (but := -1) selHi_pos ha (by omega : 1 ≤ mm) hN (fun i _ => by omega) fr hst.1 (by omega : start ≤ 2881)
  have hXb := (rows_bd selHi_pos (g := g) ha hN (from_ := fr) hst.1 (by omega : start ≤ 2881) (mm - 1)).2 tt (by omega)
  have HS0 := hid (show ∀ (W : World) (hE : Ext w W), Calls Try.prog 61 #[.agg #[.int .i64 (mm : Int), .slice A n c], .agg #[.int .i64 g, .int .i64 l, .int .i64 pl, .int .i64 ph], .int .i64 (fr : Int), .int .i64 start, .int .i64 (tt : Int), .int .i64 (-1)] W fun e w' =>
      e = .returned (.int .i64 (phi ((rows selHi g l pl ph ps mm fr start (mm - 1)).getD tt 0))) ∧ Ext W w' from fun W hE => by have h := HS.out (-1) W hE; rwa [q1] at h)
  have HSI := hid (show ∀ (i : Nat) (hi : i < n) (W : World) (hE : Ext w W), Calls Try.prog 61 #[.agg #[.int .i64 (mm : Int), .slice A n c], .agg #[.int .i64 g, .int .i64 l, .int .i64 pl, .int .i64 ph], .int .i64 (fr : Int), .int .i64 start, .int .i64 (tt : Int), .int .i64 (i : Int)] W fun e w' =>
      e = .returned (.int .i64 (phi ((rows selHi g l pl ph (closeAt ps i) mm fr start (mm - 1)).getD tt 0))) ∧ Ext W w' from fun i hi W hE => by
        have h := HS.out (i : Int) W hE
        rwa [ipRows_but selHi_pos ha (by omega : 1 ≤ mm) hN (by omega : i < ps.length) fr hst.1 (by omega : start ≤ 2881)] at h)
  have HYB := hid (fun (i : Nat) => phi_le (D := D) hDt.2 ((rows_bd selHi_pos (g := g) ha (closeAt_ok (b := i) hN) (from_ := fr) hst.1 (by omega : start ≤ 2881) (mm - 1)).2 tt (by omega)).2)
  have HVR := hid (fun h => vit_range (g := g) (l := l) (pl := pl) (ph := ph) (ps := ps) (m := mm) (fr := fr) (to_ := tt) (start := start) (D := D) h n)
  have HYS := hid (fun (i : Nat) (h : D < (rows selHi g l pl ph (closeAt ps i) mm fr start (mm - 1)).getD tt 0) => show vitOf g l pl ph ps mm fr tt start D (List.range (i + 1)) = vitOf g l pl ph ps mm fr tt start D (List.range i) ++ [(i : Int)] by
    unfold vitOf
    rw [List.range_succ, List.filter_append, List.map_append, filter_one, if_pos (by unfold vitB; exact decide_eq_true h)]
    rfl)
  have HNS := hid (fun (i : Nat) (h : ¬ D < (rows selHi g l pl ph (closeAt ps i) mm fr start (mm - 1)).getD tt 0) => show vitOf g l pl ph ps mm fr tt start D (List.range (i + 1)) = vitOf g l pl ph ps mm fr tt start D (List.range i) by
    unfold vitOf
    rw [List.range_succ, List.filter_append, filter_one, if_neg (by unfold vitB; rw [decide_eq_false h]; simp), List.append_nil])
  have HVL := hid (fun (i : Nat) => show (vitOf g l pl ph ps mm fr tt start D (List.range i)).length ≤ i by
    unfold vitOf
    rw [List.length_map]
    exact Nat.le_trans (List.length_filter_le _ _) (by simp))
  have HV0 := hid (show vitOf g l pl ph ps mm fr tt start D (List.range 0) = [] from rfl)
  have hph := phi_le (D := D) hDt.2 hXb.2
  obtain ⟨X, hXX⟩ : ∃ X, (rows selHi g l pl ph ps mm fr start (mm - 1)).getD tt 0 = X := ⟨_, rfl⟩
  rw [hXX] at HS0 HVR hph ⊢
  obtain ⟨Yf, hYf⟩ : ∃ Yf : Nat → Int, (fun i => (rows selHi g l pl ph (closeAt ps i) mm fr start (mm - 1)).getD tt 0) = Yf := ⟨_, rfl⟩
  have HYF := hid (show ∀ i, (rows selHi g l pl ph (closeAt ps i) mm fr start (mm - 1)).getD tt 0 = Yf i from fun i => congrFun hYf i)
  simp only [HYF.out] at HSI HYB HYS HNS
  have hph2 : (X ≤ D → ¬ D < phi X) ∧ (D < X → D < phi X) := by rw [hph]; exact ⟨fun h => by omega, fun h => h⟩
  have HPH := hid hph2
  revert HV0
  revert HVL
  revert HNS
  revert HYS
  revert HVR
  generalize vitOf g l pl ph ps mm fr tt start D = vo
  intro HVR HYS HNS HVL HV0
  clear hp hn hb k1 k2 k3 k4 hN hO ha hfr hto hst hDt q1 hXb HS hXX hYf HYF hph hph2
  go_enter Try.func27, Try.ntmps27
  go_wp2_with fail
  have t0 := two_blocks w (.cells #[.int .i64 (mm : Int), .slice A n c] 24) (.cells #[.int .i64 g, .int .i64 l, .int .i64 pl, .int .i64 ph] 28)
  have t1 := two_blocks ((w.alloc (.cells #[.int .i64 (mm : Int), .slice A n c] 24)).alloc (.cells #[.int .i64 g, .int .i64 l, .int .i64 pl, .int .i64 ph] 28)) (.cells #[.int .i64 (fr : Int), .int .i64 (tt : Int)] 3) (.cells #[.int .i64 start, .int .i64 D] 3)
  simp only [World.size_alloc] at t1
  refine (HC.out _ _ _ (by (repeat' (first | with_reducible assumption | with_reducible exact Ext.refl _ | with_reducible refine Ext.alloc ?_ _ | with_reducible refine Ext.set ?_ ?_ _ | with_reducible refine Ext.drew ?_ | with_reducible refine Ext.drewN ?_ _ | with_reducible refine Ext.trans ?_ (by assumption) | (dsimp only; omega)))) (ints_two_at t1.1) (ints_two_at t1.2.1)).mono ?_
  clear t1
  rintro e w1 ⟨rfl, hE⟩
  have EW : Ext w w1 := by (repeat' (first | with_reducible assumption | with_reducible exact Ext.refl _ | with_reducible refine Ext.alloc ?_ _ | with_reducible refine Ext.set ?_ ?_ _ | with_reducible refine Ext.drew ?_ | with_reducible refine Ext.drewN ?_ _ | with_reducible refine Ext.trans ?_ (by assumption) | (dsimp only; omega)))
  have B0 := hid (blk_ext t0.1 (Ext.trans (by (repeat' (first | with_reducible assumption | with_reducible exact Ext.refl _ | with_reducible refine Ext.alloc ?_ _ | with_reducible refine Ext.set ?_ ?_ _ | with_reducible refine Ext.drew ?_ | with_reducible refine Ext.drewN ?_ _ | with_reducible refine Ext.trans ?_ (by assumption) | (dsimp only; omega)))) hE))
  have B1 := hid (blk_ext t0.2.1 (Ext.trans (by (repeat' (first | with_reducible assumption | with_reducible exact Ext.refl _ | with_reducible refine Ext.alloc ?_ _ | with_reducible refine Ext.set ?_ ?_ _ | with_reducible refine Ext.drew ?_ | with_reducible refine Ext.drewN ?_ _ | with_reducible refine Ext.trans ?_ (by assumption) | (dsimp only; omega)))) hE))
  clear hE t0 HC
  have c0 := blk_cell B0.out 0
  have c1 := blk_cell B0.out 1
  have c2 := blk_cell B1.out 0
  have c3 := blk_cell B1.out 1
  have c4 := blk_cell B1.out 2
  have c5 := blk_cell B1.out 3
  simp only [List.getElem?_toArray, List.getElem?_cons_zero, List.getElem?_cons_succ] at c0 c1 c2 c3 c4 c5
  have z0 := (Array.getElem?_eq_some_iff.1 B0.out).1
  have z1 := (Array.getElem?_eq_some_iff.1 B1.out).1
  go_wp2_with fail
  refine (HS0.out _ EW).mono ?_
  rintro e w2 ⟨rfl, hE⟩
  have C0 := hid (blk_ext B0.out hE)
  have C1 := hid (blk_ext B1.out hE)
  have EW2 : Ext w w2 := EW.trans hE
  clear c0 c1 c2 c3 c4 c5 z0 z1 hE B0 B1
  by_cases hXD : D < X
  · have hd : decide (D < phi X) = true := decide_eq_true (HPH.out.2 hXD)
    go_wp2
    go_ret2
    exact .inl ⟨hXD, rfl, EW2⟩
  have hd : decide (D < phi X) = false := decide_eq_false (by have := HPH.out.1 (by omega); omega)
  have HVR2 := hid (HVR.out (by omega))
  clear HVR
  go_wp2
  clear hd
  go_loopw [15, 16] (fun v i wr => Ext w wr ∧ Hid (wr.heap[w.heap.size]? = some (.cells #[.int .i64 (mm : Int), .slice A n c] 24 (0, 0))) ∧ Hid (wr.heap[w.heap.size + 1]? = some (.cells #[.int .i64 g, .int .i64 l, .int .i64 pl, .int .i64 ph] 28 (0, 0))) ∧
    ∃ k : Nat, k ≤ n ∧ i = .int .i64 k ∧ Hid (OwnAt wr (w.heap.size + 2) v (vo (List.range k)))) (fun _ i _ => n - (intOf i).toNat)
  case atStart => exact ⟨EW2, C0, C1, 0, Nat.zero_le _, rfl, hid (by rw [HV0.out]; exact OwnAt.nil _ _)⟩
  case round =>
    clear C0 C1 EW2
    obtain ⟨hE, B0, B1, k, hk, rfl, HO⟩ := hrel
    have c0 := blk_cell B0.out 0
    have c1 := blk_cell B0.out 1
    have c2 := blk_cell B1.out 0
    have c3 := blk_cell B1.out 1
    have c4 := blk_cell B1.out 2
    have c5 := blk_cell B1.out 3
    simp only [List.getElem?_toArray, List.getElem?_cons_zero, List.getElem?_cons_succ] at c0 c1 c2 c3 c4 c5
    have z0 := (Array.getElem?_eq_some_iff.1 B0.out).1
    have z1 := (Array.getElem?_eq_some_iff.1 B1.out).1
    obtain ⟨v, rfl⟩ : ∃ v, v = u15 := ⟨_, rfl⟩
    by_cases hlt : k < n
    · have hk0 : (0 : Int) ≤ (k : Int) := by omega
      have hk1 : (k : Int) < (n : Int) := by omega
      have HYK := hid (HYS.out k)
      have HNK := hid (HNS.out k)
      have hvl := HVL.out k
      have HYP := hid (HYB.out k)
      go_wp2_with fail
      refine (HSI.out k hlt _ hE).mono ?_
      rintro e w3 ⟨rfl, hE3⟩
      have D0 := hid (blk_ext B0.out hE3)
      have D1 := hid (blk_ext B1.out hE3)
      have HO3 := hid (HO.out.ext hE3)
      have HOB := hid HO.out.block
      have E3 : Ext w w3 := hE.trans hE3
      have hz3 : w.heap.size + 2 ≤ w3.heap.size := by have := hE3.size; omega
      clear c0 c1 c2 c3 c4 c5 z0 z1 hE3 HO
      obtain ⟨Y, hY⟩ : ∃ Y, Yf k = Y := ⟨_, rfl⟩
      rw [hY] at HYK HNK HYP ⊢
      clear hY
      by_cases hYD : D < Y
      · have hd : decide (D < phi Y) = true := decide_eq_true (by rw [HYP.out]; exact hYD)
        have HA := hid (HYK.out hYD)
        go_wp2_with (at_builtin; refine wpList_append_intsB _ rfl rfl _ _ rfl (w.heap.size + 2) v (vo (List.range k)) (by rfl) (HO3.out.ext (ext_alloc1 _ _)) ⟨w3.heap.size, 0, none⟩ (k : Int) (by rfl) (blk_cell (heap_alloc_new w3 _) 0) (by omega) (by simp; omega) ?_; intro v' w9 hown9 hg9; have HY9 := hid hown9; have HG := hid hg9; clear hown9 hg9)
        have hE9 : Ext w w9 := ext_of_grown (E3.alloc _) HG.out (fun q hq => by have := HOB.out q hq; omega)
        have G0 := hid ((HG.out.block _ (by simp; omega) (fun e => by have := HOB.out _ e.symm; omega)).trans (blk_ext D0.out (ext_alloc1 _ _)))
        have G1 := hid ((HG.out.block _ (by simp; omega) (fun e => by have := HOB.out _ e.symm; omega)).trans (blk_ext D1.out (ext_alloc1 _ _)))
        go_roundw
        case rel => exact ⟨hE9, G0, G1, k + 1, by omega, by go_num, by rw [HA.out]; exact HY9⟩
        case measure => (simp [intOf] <;> omega)
      · have hd : decide (D < phi Y) = false := decide_eq_false (by rw [HYP.out]; exact hYD)
        have HA := hid (HNK.out (by omega))
        go_wp2
        go_roundw
        case rel => exact ⟨E3, D0, D1, k + 1, by omega, by go_num, by rw [HA.out]; exact HO3⟩
        case measure => (simp [intOf] <;> omega)
    · obtain rfl : n = k := by omega
      go_wp2
      go_ret2
      rw [HVR2.out]
      exact .inr ⟨by omega, v, rfl, HO.out.low (by omega), hE⟩
end Go.Proofs.Ytndoghcglbpllaa
/- Within, of the program and of the specification. -/
set_option linter.unusedSimpArgs false
set_option linter.unusedVariables false
namespace Go.Proofs.Ytndoghcglbpllaa
open Go.RowKit
def WithinIs (xs ys : List Int) (w : World) (e : Ending) (w' : World) : Prop := ∃ u v, e = .returned (.tuple #[u, v, .int .i64 0]) ∧ OwnAt w' w.heap.size u xs ∧ OwnAt w' w.heap.size v ys ∧ Ext w w'
theorem WithinIs.mk {xs ys : List Int} {w w' : World} {e : Ending} {u v : Value} (h : e = .returned (.tuple #[u, v, .int .i64 0])) (h1 : OwnAt w' w.heap.size u xs) (h2 : OwnAt w' w.heap.size v ys) (he : Ext w w') : WithinIs xs ys w e w' := ⟨u, v, h, h1, h2, he⟩
def withinL (sel : Int → Int → Int) (g l pl ph : Int) (ps : List Pt) (m from_ start D : Int) : List Int := reachL (rows sel g l pl ph ps m.toNat from_.toNat start (m.toNat - 1)) D m.toNat
set_option maxRecDepth 100000 in
set_option maxHeartbeats 2000000 in
theorem within_bad (m g l pl ph from_ start D : Int) (A : Option Addr) (n c : Nat) (ps : List Pt) (hn : ps.length = n) (w : World) (hp : PathsAt w A ps) (E : Int) (hE : beginE m g l pl ph ps [from_] [start, D] = E) (hne : E ≠ 0) :
    Calls Try.prog 28 #[.agg #[.int .i64 m, .slice A n c], .agg #[.int .i64 g, .int .i64 l, .int .i64 pl, .int .i64 ph], .int .i64 from_, .int .i64 start, .int .i64 D] w fun e w' =>
      e = .returned (.tuple #[.slice none 0 0, .slice none 0 0, .int .i64 E]) ∧ Ext w w' := by
  have HB := hid (fun (b1 b2 : Nat) (W : World) (hW : Ext w W) (h1 : IntsAt W (some ⟨b1, 0, none⟩) [from_]) (h2 : IntsAt W (some ⟨b2, 0, none⟩) [start, D]) => begin_bad m g l pl ph A (some ⟨b1, 0, none⟩) (some ⟨b2, 0, none⟩) n c 1 1 2 2 ps [from_] [start, D] hn rfl rfl (by omega) (by omega) W (hp.ext hW) h1 h2 E hE hne)
  have hneb : (E != 0) = true := by simpa using hne
  have HNB := hid hneb
  clear hp hn hE hne hneb
  go_enter Try.func28, Try.ntmps28
  go_wp2_with fail
  have t1 := two_blocks ((w.alloc (.cells #[.int .i64 m, .slice A n c] 24)).alloc (.cells #[.int .i64 g, .int .i64 l, .int .i64 pl, .int .i64 ph] 28)) (.cells #[.int .i64 from_] 3) (.cells #[.int .i64 start, .int .i64 D] 3)
  simp only [World.size_alloc] at t1
  refine (HB.out _ _ _ (by (repeat' (first | with_reducible assumption | with_reducible exact Ext.refl _ | with_reducible refine Ext.alloc ?_ _ | with_reducible refine Ext.set ?_ ?_ _ | with_reducible refine Ext.drew ?_ | with_reducible refine Ext.drewN ?_ _ | with_reducible refine Ext.trans ?_ (by assumption) | (dsimp only; omega)))) (ints_one_at t1.1) (ints_two_at t1.2.1)).mono ?_
  clear t1
  rintro e w1 ⟨rfl, hE⟩
  have EW : Ext w w1 := by (repeat' (first | with_reducible assumption | with_reducible exact Ext.refl _ | with_reducible refine Ext.alloc ?_ _ | with_reducible refine Ext.set ?_ ?_ _ | with_reducible refine Ext.drew ?_ | with_reducible refine Ext.drewN ?_ _ | with_reducible refine Ext.trans ?_ (by assumption) | (dsimp only; omega)))
  have hneb := HNB.out
  clear hE
  go_wp2_with fail
  go_ret3
  exact ⟨rfl, by (repeat' (first | with_reducible assumption | with_reducible exact Ext.refl _ | with_reducible refine Ext.alloc ?_ _ | with_reducible refine Ext.set ?_ ?_ _ | with_reducible refine Ext.drew ?_ | with_reducible refine Ext.drewN ?_ _ | with_reducible refine Ext.trans ?_ (by assumption) | (dsimp only; omega)))⟩
set_option maxRecDepth 100000 in
set_option maxHeartbeats 2000000 in
theorem rwithin_bad (m g l pl ph from_ start D : Int) (A : Option Addr) (n c : Nat) (ps : List Pt) (hn : ps.length = n) (w : World) (hp : PathsAt w A ps) (E : Int) (hE : beginE m g l pl ph ps [from_] [start, D] = E) (hne : E ≠ 0) :
    Calls Try.prog 29 #[.agg #[.int .i64 m, .slice A n c], .agg #[.int .i64 g, .int .i64 l, .int .i64 pl, .int .i64 ph], .int .i64 from_, .int .i64 start, .int .i64 D] w fun e w' =>
      e = .returned (.tuple #[.slice none 0 0, .slice none 0 0, .int .i64 E]) ∧ Ext w w' := by
  have HC := hid (fun (b1 b2 : Nat) (W : World) (hW : Ext w W) (h1 : IntsAt W (some ⟨b1, 0, none⟩) [from_]) (h2 : IntsAt W (some ⟨b2, 0, none⟩) [start, D]) => rcheck_any m g l pl ph A n c ps hn (some ⟨b1, 0, none⟩) (some ⟨b2, 0, none⟩) 1 1 2 2 [from_] [start, D] rfl rfl (by omega) (by omega) W (hp.ext hW) h1 h2)
  rw [hE] at HC
  clear hp hn hE
  go_enter Try.func29, Try.ntmps29
  go_wp2_with fail
  have t1 := two_blocks ((w.alloc (.cells #[.int .i64 m, .slice A n c] 24)).alloc (.cells #[.int .i64 g, .int .i64 l, .int .i64 pl, .int .i64 ph] 28)) (.cells #[.int .i64 from_] 3) (.cells #[.int .i64 start, .int .i64 D] 3)
  simp only [World.size_alloc] at t1
  refine (HC.out _ _ _ (by (repeat' (first | with_reducible assumption | with_reducible exact Ext.refl _ | with_reducible refine Ext.alloc ?_ _ | with_reducible refine Ext.set ?_ ?_ _ | with_reducible refine Ext.drew ?_ | with_reducible refine Ext.drewN ?_ _ | with_reducible refine Ext.trans ?_ (by assumption) | (dsimp only; omega)))) (ints_one_at t1.1) (ints_two_at t1.2.1)).mono ?_
  clear t1
  rintro e w1 ⟨rfl, hE⟩
  have EW : Ext w w1 := by (repeat' (first | with_reducible assumption | with_reducible exact Ext.refl _ | with_reducible refine Ext.alloc ?_ _ | with_reducible refine Ext.set ?_ ?_ _ | with_reducible refine Ext.drew ?_ | with_reducible refine Ext.drewN ?_ _ | with_reducible refine Ext.trans ?_ (by assumption) | (dsimp only; omega)))
  go_wp2
  go_ret3
  exact ⟨rfl, EW⟩
set_option maxRecDepth 100000 in
set_option maxHeartbeats 4000000 in
theorem within_ok (m g l pl ph from_ start D : Int) (A : Option Addr) (n c : Nat) (ps : List Pt) (hn : ps.length = n) (w : World) (hp : PathsAt w A ps) (hb : beginE m g l pl ph ps [from_] [start, D] = 0) :
    Calls Try.prog 28 #[.agg #[.int .i64 m, .slice A n c], .agg #[.int .i64 g, .int .i64 l, .int .i64 pl, .int .i64 ph], .int .i64 from_, .int .i64 start, .int .i64 D] w
      (WithinIs (withinL selHi g l pl ph ps m from_ start D) (withinL selLo g l pl ph ps m from_ start D) w) := by
  obtain ⟨k1, k2, k3, k4⟩ := begin_zero hb
  obtain ⟨hm1, hm2, hN⟩ := vNet_ok k1
  have ha := vParty_ok k2
  have hfr := k3 from_ (by simp)
  have hst := k4 start (by simp)
  obtain ⟨b, off, hA, hpp⟩ := hp.open_ hn
  obtain ⟨mm, rfl⟩ : ∃ k : Nat, m = k := ⟨m.toNat, by omega⟩
  obtain ⟨fr, rfl⟩ : ∃ k : Nat, from_ = k := ⟨from_.toNat, by omega⟩
  rw [Int.toNat_natCast] at hN
  unfold withinL
  rw [Int.toNat_natCast, Int.toNat_natCast]
  have HB := hid (fun (b1 b2 : Nat) (W : World) (hW : Ext w W) (h1 : IntsAt W (some ⟨b1, 0, none⟩) [(fr : Int)]) (h2 : IntsAt W (some ⟨b2, 0, none⟩) [start, D]) => begin_ok mm g l pl ph A (some ⟨b1, 0, none⟩) (some ⟨b2, 0, none⟩) n c 1 1 2 2 ps [(fr : Int)] [start, D] hn rfl rfl (by omega) (by omega) W (hp.ext hW) h1 h2 hb)
  have HS := hid (fun (W : World) (hE : Ext w W) => sure_any g l pl ph n c b off ps hn A mm (by omega) (by omega) hN ha fr (by omega) start hst.1 (by omega) W (fun h0 => ⟨(hA h0).1, Nat.lt_of_lt_of_le (hA h0).2 hE.size⟩)
      (fun k hk => by obtain ⟨A', c', h⟩ := hpp k hk; exact ⟨A', c', h.ext (hA (by omega)).2 hE⟩))
  have HT := hid (fun (W : World) (hE : Ext w W) => best_any g l pl ph n c b off ps hn A mm (by omega) (by omega) hN ha fr (by omega) start hst.1 (by omega) W (fun h0 => ⟨(hA h0).1, Nat.lt_of_lt_of_le (hA h0).2 hE.size⟩)
      (fun k hk => by obtain ⟨A', c', h⟩ := hpp k hk; exact ⟨A', c', h.ext (hA (by omega)).2 hE⟩))
  have hl1 := (rows_bd selHi_pos (g := g) ha hN (from_ := fr) hst.1 (by omega : start ≤ 2881) (mm - 1)).1
  have hl2 := (rows_bd selLo_pos (g := g) ha hN (from_ := fr) hst.1 (by omega : start ≤ 2881) (mm - 1)).1
  revert HS HT hl1 hl2
  generalize rows selHi g l pl ph ps mm fr start (mm - 1) = xs
  generalize rows selLo g l pl ph ps mm fr start (mm - 1) = ys
  intro HS HT hl1 hl2
  have HL1 := hid hl1
  have HL2 := hid hl2
  have HR1 := hid (show reachL xs D mm = reachL xs D xs.length by rw [hl1])
  have HR2 := hid (show reachL ys D mm = reachL ys D ys.length by rw [hl2])
  simp only [wbox] at HS HT
  clear hp hn hb k1 k2 k3 k4 hN ha hfr hst hA hpp hl1 hl2
  go_enter Try.func28, Try.ntmps28
  go_wp2_with fail
  have t1 := two_blocks ((w.alloc (.cells #[.int .i64 (mm : Int), .slice A n c] 24)).alloc (.cells #[.int .i64 g, .int .i64 l, .int .i64 pl, .int .i64 ph] 28)) (.cells #[.int .i64 (fr : Int)] 3) (.cells #[.int .i64 start, .int .i64 D] 3)
  simp only [World.size_alloc] at t1
  refine (HB.out _ _ _ (by (repeat' (first | with_reducible assumption | with_reducible exact Ext.refl _ | with_reducible refine Ext.alloc ?_ _ | with_reducible refine Ext.set ?_ ?_ _ | with_reducible refine Ext.drew ?_ | with_reducible refine Ext.drewN ?_ _ | with_reducible refine Ext.trans ?_ (by assumption) | (dsimp only; omega)))) (ints_one_at t1.1) (ints_two_at t1.2.1)).mono ?_
  clear t1
  rintro e w1 ⟨rfl, hE⟩
  have EW : Ext w w1 := by (repeat' (first | with_reducible assumption | with_reducible exact Ext.refl _ | with_reducible refine Ext.alloc ?_ _ | with_reducible refine Ext.set ?_ ?_ _ | with_reducible refine Ext.drew ?_ | with_reducible refine Ext.drewN ?_ _ | with_reducible refine Ext.trans ?_ (by assumption) | (dsimp only; omega)))
  have hz0 : w.heap.size ≤ w1.heap.size := EW.size
  clear hE HB
  go_wp2_with fail
  refine wp_abs (fun W => (W.cell? ⟨w1.heap.size, 0, none⟩ = some (.int .i64 (mm : Int)) ∧ W.cell? ⟨w1.heap.size, 1, none⟩ = some (.slice A n c) ∧ W.cell? ⟨w1.heap.size, 2, none⟩ = some (.int .i64 g) ∧ W.cell? ⟨w1.heap.size, 3, none⟩ = some (.int .i64 l) ∧ W.cell? ⟨w1.heap.size, 4, none⟩ = some (.int .i64 pl) ∧ W.cell? ⟨w1.heap.size, 5, none⟩ = some (.int .i64 ph)) ∧ w1.heap.size + 1 ≤ W.heap.size ∧ Ext w W) ⟨by go_simp, by simp, by (repeat' (first | with_reducible assumption | with_reducible exact Ext.refl _ | with_reducible refine Ext.alloc ?_ _ | with_reducible refine Ext.set ?_ ?_ _ | with_reducible refine Ext.drew ?_ | with_reducible refine Ext.drewN ?_ _ | with_reducible refine Ext.trans ?_ (by assumption) | (dsimp only; omega)))⟩ ?_
  rintro W ⟨⟨c0, c1, c2, c3, c4, c5⟩, hz, hE⟩
  go_region_held3 (fun w' => (∀ b o, b < w1.heap.size + 1 → w'.cell? ⟨b, o, none⟩ = W.cell? ⟨b, o, none⟩) ∧ w1.heap.size + 1 ≤ w'.heap.size ∧ Ext w w')
    (((try dsimp only); go_split_ands; (repeat' apply And.intro) <;> first | assumption | exact kcell (by assumption) (by omega) (by assumption) | exact kcell_refl _ _ | exact kcell_set (kcell_set (by assumption) (by dsimp only; omega) _) (by dsimp only; omega) _ | exact kcell_set (by assumption) (by dsimp only; omega) _ | exact held_ext (by assumption) (by dsimp only; omega) (by assumption) | exact hfrozen_ext (by assumption) (by dsimp only; omega) (by assumption) | exact Ext.sizeLe (by assumption) (by assumption) | exact Ext.trans (by assumption) (by assumption) | exact Ext.drew (by assumption) | exact held_set _ _ _ _ (held_set _ _ _ _ (by assumption)) | exact held_set _ _ _ _ (by assumption) | exact hfrozen_set _ _ (hfrozen_set _ _ (by assumption)) | exact hfrozen_set _ _ (by assumption) | exact hsize_set _ _ (hsize_set _ _ (by assumption)) | exact hsize_set _ _ (by assumption) | exact Ext.set (Ext.set (by assumption) (by dsimp only; omega) _) (by dsimp only; omega) _ | exact Ext.set (by assumption) (by dsimp only; omega) _))
    (first
      | (go_at_call 52; refine (HS.out _ ‹_ ∧ _ ∧ Ext _ _›.2.2).mono ?_; rintro e w2 ⟨g1, cap1, rfl, r1, s1, hE2⟩; have hg1 := Nat.le_trans (‹_ ∧ _ ∧ Ext _ _›.2.1) s1)
      | (go_at_call 53; refine (HT.out _ ‹_ ∧ _ ∧ Ext _ _›.2.2).mono ?_; rintro e w4 ⟨g2, cap2, rfl, r2, s2, hE4⟩; have hg2 := Nat.le_trans (‹_ ∧ _ ∧ Ext _ _›.2.1) s2)
      | (go_at_call 65; refine (reached_any _ _ _ _ rfl (by first | (rw [HL1.out]; omega) | (rw [HL2.out]; omega)) _ _ (RowAt.ints (by assumption))).mono ?_; rintro e w3 ⟨v3, rfl, o3, hE3⟩; have hg3 := ‹_ ∧ _ ∧ Ext _ _›.2.1))
  rename_i w3a v3a o3a hE3a hg3a hH
  have F1 := hid ((o3a.ext (hE4.trans hE3)).low (by omega : w.heap.size ≤ w2.heap.size))
  have F2 := hid (o3.low (by omega : w.heap.size ≤ w4.heap.size))
  have F3 := hid hH.2.2
  clear hH r1 r2 hE2 hE3 hE4 hE3a o3 o3a c0 c1 c2 c3 c4 c5
  go_wp2
  go_ret3
  exact ⟨v3a, v3, rfl, by rw [HR1.out]; exact F1.out, by rw [HR2.out]; exact F2.out, F3.out⟩
theorem reachL_phi (xs : List Int) (D : Int) (hD : D ≤ 2880) (m : Nat) (hx : BdRow m xs) : reachL (xs.map phi) D m = reachL xs D m := by
  unfold reachL
  congr 1
  refine List.filter_congr fun i hi => ?_
  have him : i < m := List.mem_range.1 hi
  have hb := (hx.2 i him).2
  have hg : (xs.map phi).getD i 0 = phi (xs.getD i 0) := by
    simp only [List.getD, List.getElem?_map, List.getElem?_eq_getElem (show i < xs.length by have := hx.1; omega), Option.map_some, Option.getD_some]
  rw [hg]
  have h := phi_le (D := D) hD hb
  by_cases hd : xs.getD i 0 ≤ D
  · rw [decide_eq_true hd, decide_eq_true (by have : ¬ D < phi (xs.getD i 0) := by rw [h]; omega
                                              omega)]
  · rw [decide_eq_false hd, decide_eq_false (by have : D < phi (xs.getD i 0) := by rw [h]; omega
                                                omega)]
set_option maxRecDepth 100000 in
set_option maxHeartbeats 4000000 in
theorem rwithin_ok (m g l pl ph from_ start D : Int) (A : Option Addr) (n c : Nat) (ps : List Pt) (hn : ps.length = n) (w : World) (hp : PathsAt w A ps) (hb : beginE m g l pl ph ps [from_] [start, D] = 0) :
    Calls Try.prog 29 #[.agg #[.int .i64 m, .slice A n c], .agg #[.int .i64 g, .int .i64 l, .int .i64 pl, .int .i64 ph], .int .i64 from_, .int .i64 start, .int .i64 D] w
      (WithinIs (withinL selHi g l pl ph ps m from_ start D) (withinL selLo g l pl ph ps m from_ start D) w) := by
  obtain ⟨k1, k2, k3, k4⟩ := begin_zero hb
  obtain ⟨hm1, hm2, hN⟩ := vNet_ok k1
  have ha := vParty_ok k2
  have hO := vNet_opens k1
  have hfr := k3 from_ (by simp)
  have hst := k4 start (by simp)
  have hDt := k4 D (by simp)
  obtain ⟨mm, rfl⟩ : ∃ k : Nat, m = k := ⟨m.toNat, by omega⟩
  obtain ⟨fr, rfl⟩ : ∃ k : Nat, from_ = k := ⟨from_.toNat, by omega⟩
  rw [Int.toNat_natCast] at hN
  unfold withinL
  rw [Int.toNat_natCast, Int.toNat_natCast]
  have HC := hid (fun (b1 b2 : Nat) (W : World) (hW : Ext w W) (h1 : IntsAt W (some ⟨b1, 0, none⟩) [(fr : Int)]) (h2 : IntsAt W (some ⟨b2, 0, none⟩) [start, D]) => rcheck_any mm g l pl ph A n c ps hn (some ⟨b1, 0, none⟩) (some ⟨b2, 0, none⟩) 1 1 2 2 [(fr : Int)] [start, D] rfl rfl (by omega) (by omega) W (hp.ext hW) h1 h2)
  rw [hb] at HC
  have hbut : ∀ i : Nat, i < ps.length → (i : Int) ≠ -1 := fun i _ => by omega
  have q1 := ipRows_eq (sel := selHi) (g := g) selHi_pos ha (by omega : 1 ≤ mm) hN hbut fr hst.1 (by omega : start ≤ 2881)
  have q2 := ipRows_eq (sel := selLo) (g := g) selLo_pos ha (by omega : 1 ≤ mm) hN hbut fr hst.1 (by omega : start ≤ 2881)
  have bd1 := rows_bd selHi_pos (g := g) ha hN (from_ := fr) hst.1 (by omega : start ≤ 2881) (mm - 1)
  have bd2 := rows_bd selLo_pos (g := g) ha hN (from_ := fr) hst.1 (by omega : start ≤ 2881) (mm - 1)
  have HT := hid (fun (hi : Bool) (W : World) (hE : Ext w W) => table_any hi mm (by omega) (by omega) g l pl ph ha A n c ps hn hN hO fr (by omega) start hst.1 hst.2 (-1) W (hp.ext hE))
  obtain ⟨TR, hTR⟩ : ∃ TR : Bool → List Int, TR = fun hi => (ipRows (selB hi) g l pl ph ps (-1) mm fr start mm).map phi := ⟨_, rfl⟩
  have HT2 := hid (fun (hi : Bool) (W : World) (hE : Ext w W) => (show Calls Try.prog 56 #[.agg #[.int .i64 (mm : Int), .slice A n c], .agg #[.int .i64 g, .int .i64 l, .int .i64 pl, .int .i64 ph], .int .i64 (fr : Int), .int .i64 start, .bool hi, .int .i64 (-1)] W (NewRow (TR hi) W) by rw [hTR]; exact HT.out hi W hE))
  have hlen : ∀ hi, (TR hi).length = mm := fun hi => by rw [hTR]; simp [ipRows_len]
  have h1 : reachL (TR true) D (TR true).length = reachL (rows selHi g l pl ph ps mm fr start (mm - 1)) D mm := by
    rw [hlen, ← reachL_phi _ D hDt.2 mm bd1, hTR]
    show reachL ((ipRows selHi g l pl ph ps (-1) mm fr start mm).map phi) D mm = _
    rw [q1]
  have h2 : reachL (TR false) D (TR false).length = reachL (rows selLo g l pl ph ps mm fr start (mm - 1)) D mm := by
    rw [hlen, ← reachL_phi _ D hDt.2 mm bd2, hTR]
    show reachL ((ipRows selLo g l pl ph ps (-1) mm fr start mm).map phi) D mm = _
    rw [q2]
  rw [← h1, ← h2]
  have HLN := hid hlen
  clear hp hn hb k1 k2 k3 k4 hN ha hfr hst hDt hO hbut q1 q2 bd1 bd2 HT hTR h1 h2 hlen
  go_enter Try.func29, Try.ntmps29
  go_wp2_with fail
  have t0 := two_blocks w (.cells #[.int .i64 (mm : Int), .slice A n c] 24) (.cells #[.int .i64 g, .int .i64 l, .int .i64 pl, .int .i64 ph] 28)
  have t1 := two_blocks ((w.alloc (.cells #[.int .i64 (mm : Int), .slice A n c] 24)).alloc (.cells #[.int .i64 g, .int .i64 l, .int .i64 pl, .int .i64 ph] 28)) (.cells #[.int .i64 (fr : Int)] 3) (.cells #[.int .i64 start, .int .i64 D] 3)
  simp only [World.size_alloc] at t1
  refine (HC.out _ _ _ (by (repeat' (first | with_reducible assumption | with_reducible exact Ext.refl _ | with_reducible refine Ext.alloc ?_ _ | with_reducible refine Ext.set ?_ ?_ _ | with_reducible refine Ext.drew ?_ | with_reducible refine Ext.drewN ?_ _ | with_reducible refine Ext.trans ?_ (by assumption) | (dsimp only; omega)))) (ints_one_at t1.1) (ints_two_at t1.2.1)).mono ?_
  rintro e w1 ⟨rfl, hE⟩
  have EW : Ext w w1 := by (repeat' (first | with_reducible assumption | with_reducible exact Ext.refl _ | with_reducible refine Ext.alloc ?_ _ | with_reducible refine Ext.set ?_ ?_ _ | with_reducible refine Ext.drew ?_ | with_reducible refine Ext.drewN ?_ _ | with_reducible refine Ext.trans ?_ (by assumption) | (dsimp only; omega)))
  have C0 := hid (blk_ext t0.1 (Ext.trans (by (repeat' (first | with_reducible assumption | with_reducible exact Ext.refl _ | with_reducible refine Ext.alloc ?_ _ | with_reducible refine Ext.set ?_ ?_ _ | with_reducible refine Ext.drew ?_ | with_reducible refine Ext.drewN ?_ _ | with_reducible refine Ext.trans ?_ (by assumption) | (dsimp only; omega)))) hE))
  have C1 := hid (blk_ext t0.2.1 (Ext.trans (by (repeat' (first | with_reducible assumption | with_reducible exact Ext.refl _ | with_reducible refine Ext.alloc ?_ _ | with_reducible refine Ext.set ?_ ?_ _ | with_reducible refine Ext.drew ?_ | with_reducible refine Ext.drewN ?_ _ | with_reducible refine Ext.trans ?_ (by assumption) | (dsimp only; omega)))) hE))
  clear t0 t1 hE HC
  have c0 := blk_cell C0.out 0
  have c1 := blk_cell C0.out 1
  have c2 := blk_cell C1.out 0
  have c3 := blk_cell C1.out 1
  have c4 := blk_cell C1.out 2
  have c5 := blk_cell C1.out 3
  simp only [List.getElem?_toArray, List.getElem?_cons_zero, List.getElem?_cons_succ] at c0 c1 c2 c3 c4 c5
  have z0 := (Array.getElem?_eq_some_iff.1 C0.out).1
  have z1 := (Array.getElem?_eq_some_iff.1 C1.out).1
  have hzz := Nat.le_refl w1.heap.size
  go_wp2_with fail
  go_region_held3 (fun w' => (∀ b o, b < w1.heap.size → w'.cell? ⟨b, o, none⟩ = w1.cell? ⟨b, o, none⟩) ∧ w1.heap.size ≤ w'.heap.size ∧ Ext w w')
    (((try dsimp only); go_split_ands; (repeat' apply And.intro) <;> first | assumption | exact kcell (by assumption) (by omega) (by assumption) | exact kcell_refl _ _ | exact kcell_set (kcell_set (by assumption) (by dsimp only; omega) _) (by dsimp only; omega) _ | exact kcell_set (by assumption) (by dsimp only; omega) _ | exact held_ext (by assumption) (by dsimp only; omega) (by assumption) | exact hfrozen_ext (by assumption) (by dsimp only; omega) (by assumption) | exact Ext.sizeLe (by assumption) (by assumption) | exact Ext.trans (by assumption) (by assumption) | exact Ext.drew (by assumption) | exact held_set _ _ _ _ (held_set _ _ _ _ (by assumption)) | exact held_set _ _ _ _ (by assumption) | exact hfrozen_set _ _ (hfrozen_set _ _ (by assumption)) | exact hfrozen_set _ _ (by assumption) | exact hsize_set _ _ (hsize_set _ _ (by assumption)) | exact hsize_set _ _ (by assumption) | exact Ext.set (Ext.set (by assumption) (by dsimp only; omega) _) (by dsimp only; omega) _ | exact Ext.set (by assumption) (by dsimp only; omega) _))
    (first
      | (go_at_call 56; refine (HT2.out _ _ ‹_ ∧ _ ∧ Ext _ _›.2.2).mono ?_; rintro e w2 ⟨g1, cap1, rfl, r1, s1, hE2⟩; have hg1 := Nat.le_trans (‹_ ∧ _ ∧ Ext _ _›.2.1) s1)
      | (go_at_call 66; refine (until_any _ _ _ _ rfl (by rw [HLN.out]; omega) _ _ (RowAt.ints (by assumption))).mono ?_; rintro e w3 ⟨v3, rfl, o3, hE3⟩; have hg3 := ‹_ ∧ _ ∧ Ext _ _›.2.1))
  rename_i w2a g1a cap1a r1a s1a hE2a hg1a w3a v3a o3a hE3a hg3a hH
  have hz1 := EW.size
  have F1 := hid ((o3a.ext (hE2.trans hE3)).low (by omega : w.heap.size ≤ w2a.heap.size))
  have F2 := hid (o3.low (by omega : w.heap.size ≤ w2.heap.size))
  have F3 := hid hH.2.2
  clear hH r1 r1a hE2 hE3 hE2a hE3a o3 o3a c0 c1 c2 c3 c4 c5
  go_wp2
  go_ret3
  exact ⟨v3a, v3, rfl, F1.out, F2.out, F3.out⟩
end Go.Proofs.Ytndoghcglbpllaa
