/- The least and the greatest values that an hour can have. -/
import Derived.Test.YtcpkdnegmblonaaDoorBTopRanges22
set_option linter.unusedSimpArgs false
set_option linter.unusedVariables false
namespace Go.Proofs.YtcpkdnegmblonaaDoor
open Go.RowKit
def hrCells (h : Hr) : Array Value := #[.int .i64 h.wl, .int .i64 h.wh, .int .i64 h.rl, .int .i64 h.rh, .int .i64 h.tl, .int .i64 h.th]
def wholeK (ss : List (List Hr)) (h k : Nat) : Hr := (ss.take k).foldl (fun a hs => hullM a (hs.getD h zeroHr)) ((ss.headD []).getD h zeroHr)
theorem wholeK_step (ss : List (List Hr)) (h k : Nat) (hk : k < ss.length) : wholeK ss h (k + 1) = hullM (wholeK ss h k) ((ss.getD k []).getD h zeroHr) := by
  have e : ss.getD k [] = ss[k] := by simp [List.getD, List.getElem?_eq_getElem hk]
  unfold wholeK
  rw [List.take_succ_eq_append_getElem hk, List.foldl_append, e]
  rfl
theorem wholeK_end (ss : List (List Hr)) (h k : Nat) (hk : ss.length ≤ k) : wholeK ss h k = wholeM ss h := by
  unfold wholeK wholeM
  rw [List.take_of_length_le hk]
theorem infoHr1 : (Tryd.prog.info? 38).map (·.size) = some 6 := by kernel_rfl
theorem hr_one (h : Hr) : (hrCells h).all (·.oneCell') = true :=
  one_of (vs := [.int .i64 h.wl, .int .i64 h.wh, .int .i64 h.rl, .int .i64 h.rh, .int .i64 h.tl, .int .i64 h.th]) (by intro v hv; simp only [List.mem_cons, List.not_mem_nil, or_false] at hv; rcases hv with rfl | rfl | rfl | rfl | rfl | rfl <;> rfl)
set_option maxRecDepth 100000 in
set_option maxHeartbeats 8000000 in
theorem whole_any (N : Nat) (hN : N ≤ 1000) (A1 : Option Addr) (n1 c1 : Nat) (A2 : Option Addr) (n2 c2 : Nat) (ss : List (List Hr)) (hn : ss.length = n2) (hn2 : n2 ≤ 1000) (hn0 : 0 < n2) (hall : ∀ x ∈ ss, x.length = N) (h : Nat) (hh : h < N) (w : World) (hx : ScsAt w A2 ss) :
    Calls Tryd.prog 46 #[.agg #[.int .i64 (N : Int), .slice A1 n1 c1, .slice A2 n2 c2], .int .i64 (h : Int)] w fun e w' => e = .returned (wholeM ss h).val ∧ Ext w w' := by
  have HX := hid hx
  have HN := hid hn
  have HALL := hid hall
  have HCV := hid (fun a b c d W => vCover_any a b c d W)
  have HST := hid (wholeK_step ss h)
  have HEN := hid (wholeK_end ss h)
  have HK0 := hid (show wholeK ss h 0 = (ss.getD 0 []).getD h zeroHr by unfold wholeK; cases ss <;> rfl)
  obtain ⟨b, off, rfl, hb, A', c', hc0, hcap, hhr⟩ := HX.out.at_ HN.out hn0
  have hl0 := HALL.out _ (mem_at ss [] 0 (by rw [HN.out]; exact hn0))
  generalize ss.getD 0 [] = y at *
  rw [hl0] at hc0
  obtain ⟨hb', hoff, rfl, hhb, d0, d1, d2, d3, d4, d5⟩ := hhr.at_ hl0 hh
  generalize y.getD h zeroHr = h0 at *
  rw [Nat.add_zero] at hc0
  have B1 := hid (show Blk _ _ _ _ from blk_old (blk_last (w.alloc (.cells #[.int .i64 (N : Int), .slice A1 n1 c1, .slice (some ⟨b, off, none⟩) n2 c2] 99)) (.cells (hrCells zeroHr) 38)) (.cells (hrCells h0) 38))
  have B2 := hid (show Blk _ _ _ _ from blk_last ((w.alloc (.cells #[.int .i64 (N : Int), .slice A1 n1 c1, .slice (some ⟨b, off, none⟩) n2 c2] 99)).alloc (.cells (hrCells zeroHr) 38)) (.cells (hrCells h0) 38))
  rw [World.size_alloc] at B1
  rw [World.size_alloc, World.size_alloc] at B2
  clear hx hn hall hhr hcap hl0
  generalize wholeM ss h = WM at *
  unfold hrCells at *
  go_enter Tryd.func46, Tryd.ntmps46
  go_wp2
  go_loopw [20] (fun i wr => Ext w wr ∧ ∃ k : Nat, k ≤ n2 ∧ i = .int .i64 k ∧ Hid (Blk wr (w.heap.size + 1) 38 (hrCells zeroHr)) ∧ Hid (Blk wr (w.heap.size + 1 + 1) 38 (hrCells (wholeK ss h k)))) (fun i _ => n2 - (intOf i).toNat)
  case atStart =>
    exact ⟨by (repeat' (first | with_reducible assumption | with_reducible exact Ext.refl _ | with_reducible refine Ext.alloc ?_ _ | with_reducible refine Ext.set ?_ ?_ _ | with_reducible refine Ext.drew ?_ | with_reducible refine Ext.drewN ?_ _ | with_reducible refine Ext.trans ?_ (by assumption) | (dsimp only; omega))), 0, Nat.zero_le _, rfl, B1, hid (by rw [HK0.out]; exact B2.out)⟩
  case round =>
    obtain ⟨hE, k, hk, rfl, K1, K2⟩ := hrel
    clear B1 B2 d0 d1 d2 d3 d4 d5
    by_cases hlt : k < n2
    · obtain ⟨b2, off2, hA2, hb2, A3, c3, e0, -, hhr⟩ := HX.out.at_ HN.out hlt
      cases hA2
      have hl0 := HALL.out _ (mem_at ss [] k (by rw [HN.out]; exact hlt))
      have HS1 := hid (HST.out k (by rw [HN.out]; exact hlt))
      generalize ss.getD k [] = z at *
      rw [hl0] at e0
      obtain ⟨q, qoff, rfl, hq, d0, d1, d2, d3, d4, d5⟩ := hhr.at_ hl0 hh
      generalize z.getD h zeroHr = hz at *
      replace e0 := (hE.cell (p := ⟨b, _, none⟩) hb).trans e0
      replace d0 := (hE.cell (p := ⟨q, _, none⟩) hq).trans d0
      replace d1 := (hE.cell (p := ⟨q, _, none⟩) hq).trans d1
      replace d2 := (hE.cell (p := ⟨q, _, none⟩) hq).trans d2
      replace d3 := (hE.cell (p := ⟨q, _, none⟩) hq).trans d3
      replace d4 := (hE.cell (p := ⟨q, _, none⟩) hq).trans d4
      replace d5 := (hE.cell (p := ⟨q, _, none⟩) hq).trans d5
      have z1 := Nat.lt_of_lt_of_le hb hE.size
      have z2 := Nat.lt_of_lt_of_le hq hE.size
      generalize wholeK ss h k = acc at *
      have hhN : (h : Int) < (N : Int) := by omega
      clear hhr hl0 HST HEN HX HALL
      go_wp2_with fail
      refine wp_abs (fun X => Blk X (wr.heap.size + 1) 38 (hrCells hz) ∧ Ext wr X) ⟨?_, by (repeat' (first | with_reducible assumption | with_reducible exact Ext.refl _ | with_reducible refine Ext.alloc ?_ _ | with_reducible refine Ext.set ?_ ?_ _ | with_reducible refine Ext.drew ?_ | with_reducible refine Ext.drewN ?_ _ | with_reducible refine Ext.trans ?_ (by assumption) | (dsimp only; omega)))⟩ ?_
      · have := blk_last (wr.alloc (.cells #[.slice (some ⟨q, qoff, none⟩) N c3] 76)) (.cells (hrCells hz) 38)
        rw [World.size_alloc] at this
        exact this
      rintro U ⟨u1, EU⟩
      unfold hrCells at *
      obtain ⟨x0, x1, x2, x3, x4, x5⟩ : _ ∧ _ ∧ _ ∧ _ ∧ _ ∧ _ := ⟨u1.cell 0, u1.cell 1, u1.cell 2, u1.cell 3, u1.cell 4, u1.cell 5⟩
      have xz := u1.lt
      have v1 := K2.out.ext EU
      obtain ⟨y0, y1, y2, y3, y4, y5⟩ : _ ∧ _ ∧ _ ∧ _ ∧ _ ∧ _ := ⟨v1.cell 0, v1.cell 1, v1.cell 2, v1.cell 3, v1.cell 4, v1.cell 5⟩
      have yz := v1.lt
      simp only [List.getElem?_toArray, List.getElem?_cons_zero, List.getElem?_cons_succ] at x0 x1 x2 x3 x4 x5 y0 y1 y2 y3 y4 y5
      have C1 := hid (HCV.out acc.wl acc.wh hz.wl hz.wh)
      have C2 := hid (HCV.out acc.rl acc.rh hz.rl hz.rh)
      have C3 := hid (HCV.out acc.tl acc.th hz.tl hz.th)
      unfold hullM at HS1
      generalize min acc.wl hz.wl = m1 at *
      generalize max acc.wh hz.wh = m2 at *
      generalize min acc.rl hz.rl = m3 at *
      generalize max acc.rh hz.rh = m4 at *
      generalize min acc.tl hz.tl = m5 at *
      generalize max acc.th hz.th = m6 at *
      have HO := hid (hr_one ⟨m1, m2, m3, m4, m5, m6⟩)
      unfold hrCells at HO
      dsimp only at HO
      clear d0 d1 d2 d3 d4 d5 e0 z1 z2 u1 v1
      have nG : ¬ (wr.heap.size + 1 = w.heap.size + 1 + 1) := by have := K2.out.lt; omega
      have nG2 : ¬ (wr.heap.size = w.heap.size + 1) := by omega
      have V2 := hid (show Blk U (w.heap.size + 1 + 1) 38 #[.int .i64 acc.wl, .int .i64 acc.wh, .int .i64 acc.rl, .int .i64 acc.rh, .int .i64 acc.tl, .int .i64 acc.th] from K2.out.ext EU)
      have HEU := hid (hE.trans EU)
      have K1U := hid (show Blk U (w.heap.size + 1) 38 _ from K1.out.ext EU)
      have gz2 : w.heap.size + 1 + 1 < U.heap.size := yz
      clear y0 y1 y2 y3 y4 y5 K1 K2 EU yz
      refine region_rest (fun QQ => ∀ (X : World), Ext U X → Hid (Blk X (w.heap.size + 1 + 1) 38 #[.int .i64 acc.wl, .int .i64 acc.wh, .int .i64 acc.rl, .int .i64 acc.rh, .int .i64 acc.tl, .int .i64 acc.th]) →
        QQ .normal { tmps := #[.agg #[.int .i64 (N : Int), .slice A1 n1 c1, .slice (some ⟨b, off, none⟩) n2 c2], .int .i64 (h : Int), .pointer (some ⟨w.heap.size, 0, none⟩), undef, .pointer (some ⟨w.heap.size + 1, 0, none⟩), .pointer (some ⟨w.heap.size + 1 + 1, 0, none⟩), undef, .pointer (some ⟨wr.heap.size, 0, none⟩), .pointer (some ⟨wr.heap.size + 1, 0, none⟩), .pointer (some ⟨w.heap.size, 2, none⟩), .slice (some ⟨b, off, none⟩) n2 c2, .pointer (some ⟨b, off, none⟩), .pointer (some ⟨b, off, none⟩), .slice (some ⟨hb', hoff, none⟩) N c', .int .i64 (h : Int), .pointer (some ⟨hb', hoff + h * 6, none⟩),
          .agg #[.int .i64 h0.wl, .int .i64 h0.wh, .int .i64 h0.rl, .int .i64 h0.rh, .int .i64 h0.tl, .int .i64 h0.th], .pointer (some ⟨w.heap.size, 2, none⟩), .slice (some ⟨b, off, none⟩) n2 c2, .int .i64 (n2 : Int), .int .i64 (k : Int), .bool true, .pointer (some ⟨b, off + k, none⟩), .agg #[.slice (some ⟨q, qoff, none⟩) N c3], .pointer (some ⟨wr.heap.size, 0, none⟩), .slice (some ⟨q, qoff, none⟩) N c3, .int .i64 (h : Int), .pointer (some ⟨q, qoff + h * 6, none⟩),
          .agg #[.int .i64 hz.wl, .int .i64 hz.wh, .int .i64 hz.rl, .int .i64 hz.rh, .int .i64 hz.tl, .int .i64 hz.th],
          .pointer (some ⟨w.heap.size + 1 + 1, 0, none⟩), .agg #[.int .i64 acc.wl, .int .i64 acc.wh], .pointer (some ⟨wr.heap.size + 1, 0, none⟩), .agg #[.int .i64 hz.wl, .int .i64 hz.wh], .agg #[.int .i64 m1, .int .i64 m2],
          .pointer (some ⟨w.heap.size + 1 + 1, 2, none⟩), .agg #[.int .i64 acc.rl, .int .i64 acc.rh], .pointer (some ⟨wr.heap.size + 1, 2, none⟩), .agg #[.int .i64 hz.rl, .int .i64 hz.rh], .agg #[.int .i64 m3, .int .i64 m4],
          .pointer (some ⟨w.heap.size + 1 + 1, 4, none⟩), .agg #[.int .i64 acc.tl, .int .i64 acc.th], .pointer (some ⟨wr.heap.size + 1, 4, none⟩), .agg #[.int .i64 hz.tl, .int .i64 hz.th], .agg #[.int .i64 m5, .int .i64 m6],
          .agg #[.int .i64 m1, .int .i64 m2, .int .i64 m3, .int .i64 m4, .int .i64 m5, .int .i64 m6], u45, undef], defers := [] } (X.setCells (w.heap.size + 1 + 1) 0 [.int .i64 m1, .int .i64 m2, .int .i64 m3, .int .i64 m4, .int .i64 m5, .int .i64 m6])) ?rest (fun REST => ?_)
      case rest =>
        intro X hUX M2
        have R2 := hid (M2.out.fill [.int .i64 m1, .int .i64 m2, .int .i64 m3, .int .i64 m4, .int .i64 m5, .int .i64 m6] 0)
        have R1 := hid ((K1U.out.ext hUX).grown (grown_setCells (b := w.heap.size + 1 + 1) [.int .i64 m1, .int .i64 m2, .int .i64 m3, .int .i64 m4, .int .i64 m5, .int .i64 m6] 0) (by simp))
        have RX := hid (ext_setCells (HEU.out.trans hUX) (b := w.heap.size + 1 + 1) (by omega) [.int .i64 m1, .int .i64 m2, .int .i64 m3, .int .i64 m4, .int .i64 m5, .int .i64 m6] 0)
        simp only [fillA, List.setIfInBounds_toArray, List.set_cons_zero, List.set_cons_succ] at R2
        obtain ⟨Z, hZ⟩ : ∃ Z, X.setCells (w.heap.size + 1 + 1) 0 [.int .i64 m1, .int .i64 m2, .int .i64 m3, .int .i64 m4, .int .i64 m5, .int .i64 m6] = Z := ⟨_, rfl⟩
        rw [hZ] at R1 R2 RX ⊢
        clear hZ hUX M2 HCV C1 C2 C3 HO HEU K1U V2 x0 x1 x2 x3 x4 x5 xz nG nG2 gz2 hE
        go_wp2
        go_roundw
        case rel => exact ⟨RX.out, k + 1, by omega, by go_num, R1, hid (by rw [HS1.out]; exact R2.out)⟩
        case measure => simp [intOf]; omega
      clear K1U HEU HS1
      refine wp_region_held_drew (S := fun w' => (∀ b o, b < U.heap.size → ¬ b = w.heap.size + 1 + 1 → w'.cell? ⟨b, o, none⟩ = U.cell? ⟨b, o, none⟩) ∧ U.heap.size ≤ w'.heap.size) (by kernel_rfl) ?hS0 (fun hHeld => ?_)
      case hS0 => exact sG (Ext.drew (Ext.refl _)) _
      have EX : Ext U U.drew := Ext.drew (Ext.refl U)
      replace V2 := hid (show Blk U.drew (w.heap.size + 1 + 1) 38 #[.int .i64 acc.wl, .int .i64 acc.wh, .int .i64 acc.rl, .int .i64 acc.rh, .int .i64 acc.tl, .int .i64 acc.th] from V2.out.ext EX)
      obtain ⟨X, hX⟩ : ∃ X, U.drew = X := ⟨_, rfl⟩
      rw [hX] at EX hHeld V2 ⊢
      clear hX
      refine wpAnyH_take (i := 0) (oi := _) (v := ?v0a) rfl (by kernel_rfl) (by kernel_rfl) (by kernel_rfl) (fun _ _ _ h => h) (Or.inl ⟨by rfl, ?y0a⟩) (by assumption) ?r0a
      case y0a => (intro w' hSw; (try dsimp only at hSw); go_simp; (try with_reducible rfl))
      try simp only [Act.put, List.getElem_toArray, List.getElem_cons_zero, List.getElem_cons_succ, List.setIfInBounds_toArray, List.set_cons_zero, List.set_cons_succ]
      refine wpAnyH_take (i := 2) (oi := _) (v := ?v2a) rfl (by kernel_rfl) (by kernel_rfl) (by kernel_rfl) (fun _ _ _ h => h) (Or.inl ⟨by rfl, ?y2a⟩) (by assumption) ?r2a
      case y2a => (intro w' hSw; (try dsimp only at hSw); go_simp; (try with_reducible rfl))
      try simp only [Act.put, List.getElem_toArray, List.getElem_cons_zero, List.getElem_cons_succ, List.setIfInBounds_toArray, List.set_cons_zero, List.set_cons_succ]
      refine wpAnyH_take (i := 3) (oi := _) (v := ?v3a) rfl (by kernel_rfl) (by kernel_rfl) (by kernel_rfl) (fun _ _ _ h => h) (Or.inl ⟨by rfl, ?y3a⟩) (by assumption) ?r3a
      case y3a => (intro w' hSw; (try dsimp only at hSw); go_simp; (try with_reducible rfl))
      try simp only [Act.put, List.getElem_toArray, List.getElem_cons_zero, List.getElem_cons_succ, List.setIfInBounds_toArray, List.set_cons_zero, List.set_cons_succ]
      refine wpAnyH_take (i := 5) (oi := _) (v := ?v5a) rfl (by kernel_rfl) (by kernel_rfl) (by kernel_rfl) (fun _ _ _ h => h) (Or.inl ⟨by rfl, ?y5a⟩) (by assumption) ?r5a
      case y5a => (intro w' hSw; (try dsimp only at hSw); go_simp; (try with_reducible rfl))
      try simp only [Act.put, List.getElem_toArray, List.getElem_cons_zero, List.getElem_cons_succ, List.setIfInBounds_toArray, List.set_cons_zero, List.set_cons_succ]
      refine wpAnyH_take (i := 7) (oi := _) (v := ?v7a) rfl (by kernel_rfl) (by kernel_rfl) (by kernel_rfl) (fun _ _ _ h => h) (Or.inl ⟨by rfl, ?y7a⟩) (by assumption) ?r7a
      case y7a => (intro w' hSw; (try dsimp only at hSw); go_simp; (try with_reducible rfl))
      try simp only [Act.put, List.getElem_toArray, List.getElem_cons_zero, List.getElem_cons_succ, List.setIfInBounds_toArray, List.set_cons_zero, List.set_cons_succ]
      refine wpAnyH_take (i := 8) (oi := _) (v := ?v8a) rfl (by kernel_rfl) (by kernel_rfl) (by kernel_rfl) (fun _ _ _ h => h) (Or.inl ⟨by rfl, ?y8a⟩) (by assumption) ?r8a
      case y8a => (intro w' hSw; (try dsimp only at hSw); go_simp; (try with_reducible rfl))
      try simp only [Act.put, List.getElem_toArray, List.getElem_cons_zero, List.getElem_cons_succ, List.setIfInBounds_toArray, List.set_cons_zero, List.set_cons_succ]
      refine wpAnyH_take (i := 10) (oi := _) (v := ?v10a) rfl (by kernel_rfl) (by kernel_rfl) (by kernel_rfl) (fun _ _ _ h => h) (Or.inl ⟨by rfl, ?y10a⟩) (by assumption) ?r10a
      case y10a => (intro w' hSw; (try dsimp only at hSw); go_simp; (try with_reducible rfl))
      try simp only [Act.put, List.getElem_toArray, List.getElem_cons_zero, List.getElem_cons_succ, List.setIfInBounds_toArray, List.set_cons_zero, List.set_cons_succ]
      refine wpAnyH_take (i := 12) (oi := _) (v := ?v12a) rfl (by kernel_rfl) (by kernel_rfl) (by kernel_rfl) (fun _ _ _ h => h) (Or.inl ⟨by rfl, ?y12a⟩) (by assumption) ?r12a
      case y12a => (intro w' hSw; (try dsimp only at hSw); go_simp; (try with_reducible rfl))
      try simp only [Act.put, List.getElem_toArray, List.getElem_cons_zero, List.getElem_cons_succ, List.setIfInBounds_toArray, List.set_cons_zero, List.set_cons_succ]
      refine wpAnyH_take (i := 13) (oi := _) (v := ?v13a) rfl (by kernel_rfl) (by kernel_rfl) (by kernel_rfl) (fun _ _ _ h => h) (Or.inl ⟨by rfl, ?y13a⟩) (by assumption) ?r13a
      case y13a => (intro w' hSw; (try dsimp only at hSw); go_simp; (try with_reducible rfl))
      try simp only [Act.put, List.getElem_toArray, List.getElem_cons_zero, List.getElem_cons_succ, List.setIfInBounds_toArray, List.set_cons_zero, List.set_cons_succ]
      refine wpAnyH_ready (rs := [1, 6, 11]) (by kernel_rfl) (by simp) ?_
      refine AllReadyH.cons (o := _) rfl (fun K hK => ?_) (AllReadyH.cons (o := _) rfl (fun K hK => ?_) (AllReadyH.cons (o := _) rfl (fun K hK => ?_) AllReadyH.nil))
      · have v9 := V2.out
        obtain ⟨y0, y1, y2, y3, y4, y5⟩ : _ ∧ _ ∧ _ ∧ _ ∧ _ ∧ _ := ⟨v9.cell 0, v9.cell 1, v9.cell 2, v9.cell 3, v9.cell 4, v9.cell 5⟩
        have yz := v9.lt
        simp only [List.getElem?_toArray, List.getElem?_cons_zero, List.getElem?_cons_succ] at y0 y1 y2 y3 y4 y5
        clear v9
        go_simp
        clear hHeld y0 y1 y2 y3 y4 y5 yz
        refine hK.out _ _ (sG EX _) (fun hHeld => ?_)
        clear hK K
        try simp only [Act.put, List.getElem_toArray, List.getElem_cons_zero, List.getElem_cons_succ, List.setIfInBounds_toArray, List.set_cons_zero, List.set_cons_succ]
        refine wpAnyH_ready (rs := [4, 6, 11]) (by kernel_rfl) (by simp) ?_
        refine AllReadyH.cons (o := _) rfl (fun K hK => ?_) (AllReadyH.cons (o := _) rfl (fun K hK => ?_) (AllReadyH.cons (o := _) rfl (fun K hK => ?_) AllReadyH.nil))
        · go_simp
          refine Calls.mono (C1.out _) ?_
          rintro e X ⟨rfl, hEX⟩
          dsimp only
          replace EX := EX.trans hEX
          replace V2 := hid (V2.out.ext hEX)
          clear hHeld hEX
          refine hK.out _ _ (sG EX _) (fun hHeld => ?_)
          clear hK K
          try simp only [Act.put, List.getElem_toArray, List.getElem_cons_zero, List.getElem_cons_succ, List.setIfInBounds_toArray, List.set_cons_zero, List.set_cons_succ]
          refine wpAnyH_ready (rs := [6, 11]) (by kernel_rfl) (by simp) ?_
          refine AllReadyH.cons (o := _) rfl (fun K hK => ?_) (AllReadyH.cons (o := _) rfl (fun K hK => ?_) AllReadyH.nil)
          · have v9 := V2.out
            obtain ⟨y0, y1, y2, y3, y4, y5⟩ : _ ∧ _ ∧ _ ∧ _ ∧ _ ∧ _ := ⟨v9.cell 0, v9.cell 1, v9.cell 2, v9.cell 3, v9.cell 4, v9.cell 5⟩
            have yz := v9.lt
            simp only [List.getElem?_toArray, List.getElem?_cons_zero, List.getElem?_cons_succ] at y0 y1 y2 y3 y4 y5
            clear v9
            go_simp
            clear hHeld y0 y1 y2 y3 y4 y5 yz
            refine hK.out _ _ (sG EX _) (fun hHeld => ?_)
            clear hK K
            try simp only [Act.put, List.getElem_toArray, List.getElem_cons_zero, List.getElem_cons_succ, List.setIfInBounds_toArray, List.set_cons_zero, List.set_cons_succ]
            refine wpAnyH_ready (rs := [9, 11]) (by kernel_rfl) (by simp) ?_
            refine AllReadyH.cons (o := _) rfl (fun K hK => ?_) (AllReadyH.cons (o := _) rfl (fun K hK => ?_) AllReadyH.nil)
            · go_simp
              refine Calls.mono (C2.out _) ?_
              rintro e X ⟨rfl, hEX⟩
              dsimp only
              replace EX := EX.trans hEX
              replace V2 := hid (V2.out.ext hEX)
              clear hHeld hEX
              refine hK.out _ _ (sG EX _) (fun hHeld => ?_)
              clear hK K
              try simp only [Act.put, List.getElem_toArray, List.getElem_cons_zero, List.getElem_cons_succ, List.setIfInBounds_toArray, List.set_cons_zero, List.set_cons_succ]
              refine wpAnyH_ready (rs := [11]) (by kernel_rfl) (by simp) ?_
              refine AllReadyH.cons (o := _) rfl (fun K hK => ?_) AllReadyH.nil
              have v9 := V2.out
              obtain ⟨y0, y1, y2, y3, y4, y5⟩ : _ ∧ _ ∧ _ ∧ _ ∧ _ ∧ _ := ⟨v9.cell 0, v9.cell 1, v9.cell 2, v9.cell 3, v9.cell 4, v9.cell 5⟩
              have yz := v9.lt
              simp only [List.getElem?_toArray, List.getElem?_cons_zero, List.getElem?_cons_succ] at y0 y1 y2 y3 y4 y5
              clear v9
              go_simp
              clear hHeld y0 y1 y2 y3 y4 y5 yz
              refine hK.out _ _ (sG EX _) (fun hHeld => ?_)
              clear hK K
              try simp only [Act.put, List.getElem_toArray, List.getElem_cons_zero, List.getElem_cons_succ, List.setIfInBounds_toArray, List.set_cons_zero, List.set_cons_succ]
              refine wpAnyH_ready (rs := [14]) (by kernel_rfl) (by simp) ?_
              refine AllReadyH.cons (o := _) rfl (fun K hK => ?_) AllReadyH.nil
              go_simp
              refine Calls.mono (C3.out _) ?_
              rintro e X ⟨rfl, hEX⟩
              dsimp only
              replace EX := EX.trans hEX
              replace V2 := hid (V2.out.ext hEX)
              clear hHeld hEX
              refine hK.out _ _ (sG EX _) (fun hHeld => ?_)
              clear hK K
              try simp only [Act.put, List.getElem_toArray, List.getElem_cons_zero, List.getElem_cons_succ, List.setIfInBounds_toArray, List.set_cons_zero, List.set_cons_succ]
              refine wpAnyH_take (i := 15) (oi := _) (v := ?v15k7) rfl (by kernel_rfl) (by kernel_rfl) (by kernel_rfl) (fun _ _ _ h => h) (Or.inl ⟨by rfl, ?y15k7⟩) (by assumption) ?r15k7
              case y15k7 => (intro w' hSw; (try dsimp only at hSw); go_simp; (try with_reducible rfl))
              try simp only [Act.put, List.getElem_toArray, List.getElem_cons_zero, List.getElem_cons_succ, List.setIfInBounds_toArray, List.set_cons_zero, List.set_cons_succ]
              refine wpAnyH_ready (rs := [16]) (by kernel_rfl) (by simp) ?_
              refine AllReadyH.cons (o := _) rfl (fun K hK => ?_) AllReadyH.nil
              refine wp_store_mid 38 _ _ rfl (w.heap.size + 1 + 1) 0 #[.int .i64 m1, .int .i64 m2, .int .i64 m3, .int .i64 m4, .int .i64 m5, .int .i64 m6] rfl rfl (blk_there V2.out rfl) infoHr1 HO.out ?_
              clear hHeld
              refine hK.out _ _ (sGs EX _ _ _) (fun hHeld => ?_)
              clear hK K
              try simp only [Act.put, List.getElem_toArray, List.getElem_cons_zero, List.getElem_cons_succ, List.setIfInBounds_toArray, List.set_cons_zero, List.set_cons_succ]
              refine wpAnyH_done (by kernel_rfl) ?_ _
              exact REST _ EX V2
            · have v9 := V2.out
              obtain ⟨y0, y1, y2, y3, y4, y5⟩ : _ ∧ _ ∧ _ ∧ _ ∧ _ ∧ _ := ⟨v9.cell 0, v9.cell 1, v9.cell 2, v9.cell 3, v9.cell 4, v9.cell 5⟩
              have yz := v9.lt
              simp only [List.getElem?_toArray, List.getElem?_cons_zero, List.getElem?_cons_succ] at y0 y1 y2 y3 y4 y5
              clear v9
              go_simp
              clear hHeld y0 y1 y2 y3 y4 y5 yz
              refine hK.out _ _ (sG EX _) (fun hHeld => ?_)
              clear hK K
              try simp only [Act.put, List.getElem_toArray, List.getElem_cons_zero, List.getElem_cons_succ, List.setIfInBounds_toArray, List.set_cons_zero, List.set_cons_succ]
              refine wpAnyH_ready (rs := [9]) (by kernel_rfl) (by simp) ?_
              refine AllReadyH.cons (o := _) rfl (fun K hK => ?_) AllReadyH.nil
              go_simp
              refine Calls.mono (C2.out _) ?_
              rintro e X ⟨rfl, hEX⟩
              dsimp only
              replace EX := EX.trans hEX
              replace V2 := hid (V2.out.ext hEX)
              clear hHeld hEX
              refine hK.out _ _ (sG EX _) (fun hHeld => ?_)
              clear hK K
              try simp only [Act.put, List.getElem_toArray, List.getElem_cons_zero, List.getElem_cons_succ, List.setIfInBounds_toArray, List.set_cons_zero, List.set_cons_succ]
              refine wpAnyH_ready (rs := [14]) (by kernel_rfl) (by simp) ?_
              refine AllReadyH.cons (o := _) rfl (fun K hK => ?_) AllReadyH.nil
              go_simp
              refine Calls.mono (C3.out _) ?_
              rintro e X ⟨rfl, hEX⟩
              dsimp only
              replace EX := EX.trans hEX
              replace V2 := hid (V2.out.ext hEX)
              clear hHeld hEX
              refine hK.out _ _ (sG EX _) (fun hHeld => ?_)
              clear hK K
              try simp only [Act.put, List.getElem_toArray, List.getElem_cons_zero, List.getElem_cons_succ, List.setIfInBounds_toArray, List.set_cons_zero, List.set_cons_succ]
              refine wpAnyH_take (i := 15) (oi := _) (v := ?v15k11) rfl (by kernel_rfl) (by kernel_rfl) (by kernel_rfl) (fun _ _ _ h => h) (Or.inl ⟨by rfl, ?y15k11⟩) (by assumption) ?r15k11
              case y15k11 => (intro w' hSw; (try dsimp only at hSw); go_simp; (try with_reducible rfl))
              try simp only [Act.put, List.getElem_toArray, List.getElem_cons_zero, List.getElem_cons_succ, List.setIfInBounds_toArray, List.set_cons_zero, List.set_cons_succ]
              refine wpAnyH_ready (rs := [16]) (by kernel_rfl) (by simp) ?_
              refine AllReadyH.cons (o := _) rfl (fun K hK => ?_) AllReadyH.nil
              refine wp_store_mid 38 _ _ rfl (w.heap.size + 1 + 1) 0 #[.int .i64 m1, .int .i64 m2, .int .i64 m3, .int .i64 m4, .int .i64 m5, .int .i64 m6] rfl rfl (blk_there V2.out rfl) infoHr1 HO.out ?_
              clear hHeld
              refine hK.out _ _ (sGs EX _ _ _) (fun hHeld => ?_)
              clear hK K
              try simp only [Act.put, List.getElem_toArray, List.getElem_cons_zero, List.getElem_cons_succ, List.setIfInBounds_toArray, List.set_cons_zero, List.set_cons_succ]
              refine wpAnyH_done (by kernel_rfl) ?_ _
              exact REST _ EX V2
          · have v9 := V2.out
            obtain ⟨y0, y1, y2, y3, y4, y5⟩ : _ ∧ _ ∧ _ ∧ _ ∧ _ ∧ _ := ⟨v9.cell 0, v9.cell 1, v9.cell 2, v9.cell 3, v9.cell 4, v9.cell 5⟩
            have yz := v9.lt
            simp only [List.getElem?_toArray, List.getElem?_cons_zero, List.getElem?_cons_succ] at y0 y1 y2 y3 y4 y5
            clear v9
            go_simp
            clear hHeld y0 y1 y2 y3 y4 y5 yz
            refine hK.out _ _ (sG EX _) (fun hHeld => ?_)
            clear hK K
            try simp only [Act.put, List.getElem_toArray, List.getElem_cons_zero, List.getElem_cons_succ, List.setIfInBounds_toArray, List.set_cons_zero, List.set_cons_succ]
            refine wpAnyH_ready (rs := [6]) (by kernel_rfl) (by simp) ?_
            refine AllReadyH.cons (o := _) rfl (fun K hK => ?_) AllReadyH.nil
            have v9 := V2.out
            obtain ⟨y0, y1, y2, y3, y4, y5⟩ : _ ∧ _ ∧ _ ∧ _ ∧ _ ∧ _ := ⟨v9.cell 0, v9.cell 1, v9.cell 2, v9.cell 3, v9.cell 4, v9.cell 5⟩
            have yz := v9.lt
            simp only [List.getElem?_toArray, List.getElem?_cons_zero, List.getElem?_cons_succ] at y0 y1 y2 y3 y4 y5
            clear v9
            go_simp
            clear hHeld y0 y1 y2 y3 y4 y5 yz
            refine hK.out _ _ (sG EX _) (fun hHeld => ?_)
            clear hK K
            try simp only [Act.put, List.getElem_toArray, List.getElem_cons_zero, List.getElem_cons_succ, List.setIfInBounds_toArray, List.set_cons_zero, List.set_cons_succ]
            refine wpAnyH_ready (rs := [9]) (by kernel_rfl) (by simp) ?_
            refine AllReadyH.cons (o := _) rfl (fun K hK => ?_) AllReadyH.nil
            go_simp
            refine Calls.mono (C2.out _) ?_
            rintro e X ⟨rfl, hEX⟩
            dsimp only
            replace EX := EX.trans hEX
            replace V2 := hid (V2.out.ext hEX)
            clear hHeld hEX
            refine hK.out _ _ (sG EX _) (fun hHeld => ?_)
            clear hK K
            try simp only [Act.put, List.getElem_toArray, List.getElem_cons_zero, List.getElem_cons_succ, List.setIfInBounds_toArray, List.set_cons_zero, List.set_cons_succ]
            refine wpAnyH_ready (rs := [14]) (by kernel_rfl) (by simp) ?_
            refine AllReadyH.cons (o := _) rfl (fun K hK => ?_) AllReadyH.nil
            go_simp
            refine Calls.mono (C3.out _) ?_
            rintro e X ⟨rfl, hEX⟩
            dsimp only
            replace EX := EX.trans hEX
            replace V2 := hid (V2.out.ext hEX)
            clear hHeld hEX
            refine hK.out _ _ (sG EX _) (fun hHeld => ?_)
            clear hK K
            try simp only [Act.put, List.getElem_toArray, List.getElem_cons_zero, List.getElem_cons_succ, List.setIfInBounds_toArray, List.set_cons_zero, List.set_cons_succ]
            refine wpAnyH_take (i := 15) (oi := _) (v := ?v15k16) rfl (by kernel_rfl) (by kernel_rfl) (by kernel_rfl) (fun _ _ _ h => h) (Or.inl ⟨by rfl, ?y15k16⟩) (by assumption) ?r15k16
            case y15k16 => (intro w' hSw; (try dsimp only at hSw); go_simp; (try with_reducible rfl))
            try simp only [Act.put, List.getElem_toArray, List.getElem_cons_zero, List.getElem_cons_succ, List.setIfInBounds_toArray, List.set_cons_zero, List.set_cons_succ]
            refine wpAnyH_ready (rs := [16]) (by kernel_rfl) (by simp) ?_
            refine AllReadyH.cons (o := _) rfl (fun K hK => ?_) AllReadyH.nil
            refine wp_store_mid 38 _ _ rfl (w.heap.size + 1 + 1) 0 #[.int .i64 m1, .int .i64 m2, .int .i64 m3, .int .i64 m4, .int .i64 m5, .int .i64 m6] rfl rfl (blk_there V2.out rfl) infoHr1 HO.out ?_
            clear hHeld
            refine hK.out _ _ (sGs EX _ _ _) (fun hHeld => ?_)
            clear hK K
            try simp only [Act.put, List.getElem_toArray, List.getElem_cons_zero, List.getElem_cons_succ, List.setIfInBounds_toArray, List.set_cons_zero, List.set_cons_succ]
            refine wpAnyH_done (by kernel_rfl) ?_ _
            exact REST _ EX V2
        · have v9 := V2.out
          obtain ⟨y0, y1, y2, y3, y4, y5⟩ : _ ∧ _ ∧ _ ∧ _ ∧ _ ∧ _ := ⟨v9.cell 0, v9.cell 1, v9.cell 2, v9.cell 3, v9.cell 4, v9.cell 5⟩
          have yz := v9.lt
          simp only [List.getElem?_toArray, List.getElem?_cons_zero, List.getElem?_cons_succ] at y0 y1 y2 y3 y4 y5
          clear v9
          go_simp
          clear hHeld y0 y1 y2 y3 y4 y5 yz
          refine hK.out _ _ (sG EX _) (fun hHeld => ?_)
          clear hK K
          try simp only [Act.put, List.getElem_toArray, List.getElem_cons_zero, List.getElem_cons_succ, List.setIfInBounds_toArray, List.set_cons_zero, List.set_cons_succ]
          refine wpAnyH_ready (rs := [4, 11]) (by kernel_rfl) (by simp) ?_
          refine AllReadyH.cons (o := _) rfl (fun K hK => ?_) (AllReadyH.cons (o := _) rfl (fun K hK => ?_) AllReadyH.nil)
          · go_simp
            refine Calls.mono (C1.out _) ?_
            rintro e X ⟨rfl, hEX⟩
            dsimp only
            replace EX := EX.trans hEX
            replace V2 := hid (V2.out.ext hEX)
            clear hHeld hEX
            refine hK.out _ _ (sG EX _) (fun hHeld => ?_)
            clear hK K
            try simp only [Act.put, List.getElem_toArray, List.getElem_cons_zero, List.getElem_cons_succ, List.setIfInBounds_toArray, List.set_cons_zero, List.set_cons_succ]
            refine wpAnyH_ready (rs := [9, 11]) (by kernel_rfl) (by simp) ?_
            refine AllReadyH.cons (o := _) rfl (fun K hK => ?_) (AllReadyH.cons (o := _) rfl (fun K hK => ?_) AllReadyH.nil)
            · go_simp
              refine Calls.mono (C2.out _) ?_
              rintro e X ⟨rfl, hEX⟩
              dsimp only
              replace EX := EX.trans hEX
              replace V2 := hid (V2.out.ext hEX)
              clear hHeld hEX
              refine hK.out _ _ (sG EX _) (fun hHeld => ?_)
              clear hK K
              try simp only [Act.put, List.getElem_toArray, List.getElem_cons_zero, List.getElem_cons_succ, List.setIfInBounds_toArray, List.set_cons_zero, List.set_cons_succ]
              refine wpAnyH_ready (rs := [11]) (by kernel_rfl) (by simp) ?_
              refine AllReadyH.cons (o := _) rfl (fun K hK => ?_) AllReadyH.nil
              have v9 := V2.out
              obtain ⟨y0, y1, y2, y3, y4, y5⟩ : _ ∧ _ ∧ _ ∧ _ ∧ _ ∧ _ := ⟨v9.cell 0, v9.cell 1, v9.cell 2, v9.cell 3, v9.cell 4, v9.cell 5⟩
              have yz := v9.lt
              simp only [List.getElem?_toArray, List.getElem?_cons_zero, List.getElem?_cons_succ] at y0 y1 y2 y3 y4 y5
              clear v9
              go_simp
              clear hHeld y0 y1 y2 y3 y4 y5 yz
              refine hK.out _ _ (sG EX _) (fun hHeld => ?_)
              clear hK K
              try simp only [Act.put, List.getElem_toArray, List.getElem_cons_zero, List.getElem_cons_succ, List.setIfInBounds_toArray, List.set_cons_zero, List.set_cons_succ]
              refine wpAnyH_ready (rs := [14]) (by kernel_rfl) (by simp) ?_
              refine AllReadyH.cons (o := _) rfl (fun K hK => ?_) AllReadyH.nil
              go_simp
              refine Calls.mono (C3.out _) ?_
              rintro e X ⟨rfl, hEX⟩
              dsimp only
              replace EX := EX.trans hEX
              replace V2 := hid (V2.out.ext hEX)
              clear hHeld hEX
              refine hK.out _ _ (sG EX _) (fun hHeld => ?_)
              clear hK K
              try simp only [Act.put, List.getElem_toArray, List.getElem_cons_zero, List.getElem_cons_succ, List.setIfInBounds_toArray, List.set_cons_zero, List.set_cons_succ]
              refine wpAnyH_take (i := 15) (oi := _) (v := ?v15k22) rfl (by kernel_rfl) (by kernel_rfl) (by kernel_rfl) (fun _ _ _ h => h) (Or.inl ⟨by rfl, ?y15k22⟩) (by assumption) ?r15k22
              case y15k22 => (intro w' hSw; (try dsimp only at hSw); go_simp; (try with_reducible rfl))
              try simp only [Act.put, List.getElem_toArray, List.getElem_cons_zero, List.getElem_cons_succ, List.setIfInBounds_toArray, List.set_cons_zero, List.set_cons_succ]
              refine wpAnyH_ready (rs := [16]) (by kernel_rfl) (by simp) ?_
              refine AllReadyH.cons (o := _) rfl (fun K hK => ?_) AllReadyH.nil
              refine wp_store_mid 38 _ _ rfl (w.heap.size + 1 + 1) 0 #[.int .i64 m1, .int .i64 m2, .int .i64 m3, .int .i64 m4, .int .i64 m5, .int .i64 m6] rfl rfl (blk_there V2.out rfl) infoHr1 HO.out ?_
              clear hHeld
              refine hK.out _ _ (sGs EX _ _ _) (fun hHeld => ?_)
              clear hK K
              try simp only [Act.put, List.getElem_toArray, List.getElem_cons_zero, List.getElem_cons_succ, List.setIfInBounds_toArray, List.set_cons_zero, List.set_cons_succ]
              refine wpAnyH_done (by kernel_rfl) ?_ _
              exact REST _ EX V2
            · have v9 := V2.out
              obtain ⟨y0, y1, y2, y3, y4, y5⟩ : _ ∧ _ ∧ _ ∧ _ ∧ _ ∧ _ := ⟨v9.cell 0, v9.cell 1, v9.cell 2, v9.cell 3, v9.cell 4, v9.cell 5⟩
              have yz := v9.lt
              simp only [List.getElem?_toArray, List.getElem?_cons_zero, List.getElem?_cons_succ] at y0 y1 y2 y3 y4 y5
              clear v9
              go_simp
              clear hHeld y0 y1 y2 y3 y4 y5 yz
              refine hK.out _ _ (sG EX _) (fun hHeld => ?_)
              clear hK K
              try simp only [Act.put, List.getElem_toArray, List.getElem_cons_zero, List.getElem_cons_succ, List.setIfInBounds_toArray, List.set_cons_zero, List.set_cons_succ]
              refine wpAnyH_ready (rs := [9]) (by kernel_rfl) (by simp) ?_
              refine AllReadyH.cons (o := _) rfl (fun K hK => ?_) AllReadyH.nil
              go_simp
              refine Calls.mono (C2.out _) ?_
              rintro e X ⟨rfl, hEX⟩
              dsimp only
              replace EX := EX.trans hEX
              replace V2 := hid (V2.out.ext hEX)
              clear hHeld hEX
              refine hK.out _ _ (sG EX _) (fun hHeld => ?_)
              clear hK K
              try simp only [Act.put, List.getElem_toArray, List.getElem_cons_zero, List.getElem_cons_succ, List.setIfInBounds_toArray, List.set_cons_zero, List.set_cons_succ]
              refine wpAnyH_ready (rs := [14]) (by kernel_rfl) (by simp) ?_
              refine AllReadyH.cons (o := _) rfl (fun K hK => ?_) AllReadyH.nil
              go_simp
              refine Calls.mono (C3.out _) ?_
              rintro e X ⟨rfl, hEX⟩
              dsimp only
              replace EX := EX.trans hEX
              replace V2 := hid (V2.out.ext hEX)
              clear hHeld hEX
              refine hK.out _ _ (sG EX _) (fun hHeld => ?_)
              clear hK K
              try simp only [Act.put, List.getElem_toArray, List.getElem_cons_zero, List.getElem_cons_succ, List.setIfInBounds_toArray, List.set_cons_zero, List.set_cons_succ]
              refine wpAnyH_take (i := 15) (oi := _) (v := ?v15k26) rfl (by kernel_rfl) (by kernel_rfl) (by kernel_rfl) (fun _ _ _ h => h) (Or.inl ⟨by rfl, ?y15k26⟩) (by assumption) ?r15k26
              case y15k26 => (intro w' hSw; (try dsimp only at hSw); go_simp; (try with_reducible rfl))
              try simp only [Act.put, List.getElem_toArray, List.getElem_cons_zero, List.getElem_cons_succ, List.setIfInBounds_toArray, List.set_cons_zero, List.set_cons_succ]
              refine wpAnyH_ready (rs := [16]) (by kernel_rfl) (by simp) ?_
              refine AllReadyH.cons (o := _) rfl (fun K hK => ?_) AllReadyH.nil
              refine wp_store_mid 38 _ _ rfl (w.heap.size + 1 + 1) 0 #[.int .i64 m1, .int .i64 m2, .int .i64 m3, .int .i64 m4, .int .i64 m5, .int .i64 m6] rfl rfl (blk_there V2.out rfl) infoHr1 HO.out ?_
              clear hHeld
              refine hK.out _ _ (sGs EX _ _ _) (fun hHeld => ?_)
              clear hK K
              try simp only [Act.put, List.getElem_toArray, List.getElem_cons_zero, List.getElem_cons_succ, List.setIfInBounds_toArray, List.set_cons_zero, List.set_cons_succ]
              refine wpAnyH_done (by kernel_rfl) ?_ _
              exact REST _ EX V2
          · have v9 := V2.out
            obtain ⟨y0, y1, y2, y3, y4, y5⟩ : _ ∧ _ ∧ _ ∧ _ ∧ _ ∧ _ := ⟨v9.cell 0, v9.cell 1, v9.cell 2, v9.cell 3, v9.cell 4, v9.cell 5⟩
            have yz := v9.lt
            simp only [List.getElem?_toArray, List.getElem?_cons_zero, List.getElem?_cons_succ] at y0 y1 y2 y3 y4 y5
            clear v9
            go_simp
            clear hHeld y0 y1 y2 y3 y4 y5 yz
            refine hK.out _ _ (sG EX _) (fun hHeld => ?_)
            clear hK K
            try simp only [Act.put, List.getElem_toArray, List.getElem_cons_zero, List.getElem_cons_succ, List.setIfInBounds_toArray, List.set_cons_zero, List.set_cons_succ]
            refine wpAnyH_ready (rs := [4]) (by kernel_rfl) (by simp) ?_
            refine AllReadyH.cons (o := _) rfl (fun K hK => ?_) AllReadyH.nil
            go_simp
            refine Calls.mono (C1.out _) ?_
            rintro e X ⟨rfl, hEX⟩
            dsimp only
            replace EX := EX.trans hEX
            replace V2 := hid (V2.out.ext hEX)
            clear hHeld hEX
            refine hK.out _ _ (sG EX _) (fun hHeld => ?_)
            clear hK K
            try simp only [Act.put, List.getElem_toArray, List.getElem_cons_zero, List.getElem_cons_succ, List.setIfInBounds_toArray, List.set_cons_zero, List.set_cons_succ]
            refine wpAnyH_ready (rs := [9]) (by kernel_rfl) (by simp) ?_
            refine AllReadyH.cons (o := _) rfl (fun K hK => ?_) AllReadyH.nil
            go_simp
            refine Calls.mono (C2.out _) ?_
            rintro e X ⟨rfl, hEX⟩
            dsimp only
            replace EX := EX.trans hEX
            replace V2 := hid (V2.out.ext hEX)
            clear hHeld hEX
            refine hK.out _ _ (sG EX _) (fun hHeld => ?_)
            clear hK K
            try simp only [Act.put, List.getElem_toArray, List.getElem_cons_zero, List.getElem_cons_succ, List.setIfInBounds_toArray, List.set_cons_zero, List.set_cons_succ]
            refine wpAnyH_ready (rs := [14]) (by kernel_rfl) (by simp) ?_
            refine AllReadyH.cons (o := _) rfl (fun K hK => ?_) AllReadyH.nil
            go_simp
            refine Calls.mono (C3.out _) ?_
            rintro e X ⟨rfl, hEX⟩
            dsimp only
            replace EX := EX.trans hEX
            replace V2 := hid (V2.out.ext hEX)
            clear hHeld hEX
            refine hK.out _ _ (sG EX _) (fun hHeld => ?_)
            clear hK K
            try simp only [Act.put, List.getElem_toArray, List.getElem_cons_zero, List.getElem_cons_succ, List.setIfInBounds_toArray, List.set_cons_zero, List.set_cons_succ]
            refine wpAnyH_take (i := 15) (oi := _) (v := ?v15k31) rfl (by kernel_rfl) (by kernel_rfl) (by kernel_rfl) (fun _ _ _ h => h) (Or.inl ⟨by rfl, ?y15k31⟩) (by assumption) ?r15k31
            case y15k31 => (intro w' hSw; (try dsimp only at hSw); go_simp; (try with_reducible rfl))
            try simp only [Act.put, List.getElem_toArray, List.getElem_cons_zero, List.getElem_cons_succ, List.setIfInBounds_toArray, List.set_cons_zero, List.set_cons_succ]
            refine wpAnyH_ready (rs := [16]) (by kernel_rfl) (by simp) ?_
            refine AllReadyH.cons (o := _) rfl (fun K hK => ?_) AllReadyH.nil
            refine wp_store_mid 38 _ _ rfl (w.heap.size + 1 + 1) 0 #[.int .i64 m1, .int .i64 m2, .int .i64 m3, .int .i64 m4, .int .i64 m5, .int .i64 m6] rfl rfl (blk_there V2.out rfl) infoHr1 HO.out ?_
            clear hHeld
            refine hK.out _ _ (sGs EX _ _ _) (fun hHeld => ?_)
            clear hK K
            try simp only [Act.put, List.getElem_toArray, List.getElem_cons_zero, List.getElem_cons_succ, List.setIfInBounds_toArray, List.set_cons_zero, List.set_cons_succ]
            refine wpAnyH_done (by kernel_rfl) ?_ _
            exact REST _ EX V2
        · have v9 := V2.out
          obtain ⟨y0, y1, y2, y3, y4, y5⟩ : _ ∧ _ ∧ _ ∧ _ ∧ _ ∧ _ := ⟨v9.cell 0, v9.cell 1, v9.cell 2, v9.cell 3, v9.cell 4, v9.cell 5⟩
          have yz := v9.lt
          simp only [List.getElem?_toArray, List.getElem?_cons_zero, List.getElem?_cons_succ] at y0 y1 y2 y3 y4 y5
          clear v9
          go_simp
          clear hHeld y0 y1 y2 y3 y4 y5 yz
          refine hK.out _ _ (sG EX _) (fun hHeld => ?_)
          clear hK K
          try simp only [Act.put, List.getElem_toArray, List.getElem_cons_zero, List.getElem_cons_succ, List.setIfInBounds_toArray, List.set_cons_zero, List.set_cons_succ]
          refine wpAnyH_ready (rs := [4, 6]) (by kernel_rfl) (by simp) ?_
          refine AllReadyH.cons (o := _) rfl (fun K hK => ?_) (AllReadyH.cons (o := _) rfl (fun K hK => ?_) AllReadyH.nil)
          · go_simp
            refine Calls.mono (C1.out _) ?_
            rintro e X ⟨rfl, hEX⟩
            dsimp only
            replace EX := EX.trans hEX
            replace V2 := hid (V2.out.ext hEX)
            clear hHeld hEX
            refine hK.out _ _ (sG EX _) (fun hHeld => ?_)
            clear hK K
            try simp only [Act.put, List.getElem_toArray, List.getElem_cons_zero, List.getElem_cons_succ, List.setIfInBounds_toArray, List.set_cons_zero, List.set_cons_succ]
            refine wpAnyH_ready (rs := [6]) (by kernel_rfl) (by simp) ?_
            refine AllReadyH.cons (o := _) rfl (fun K hK => ?_) AllReadyH.nil
            have v9 := V2.out
            obtain ⟨y0, y1, y2, y3, y4, y5⟩ : _ ∧ _ ∧ _ ∧ _ ∧ _ ∧ _ := ⟨v9.cell 0, v9.cell 1, v9.cell 2, v9.cell 3, v9.cell 4, v9.cell 5⟩
            have yz := v9.lt
            simp only [List.getElem?_toArray, List.getElem?_cons_zero, List.getElem?_cons_succ] at y0 y1 y2 y3 y4 y5
            clear v9
            go_simp
            clear hHeld y0 y1 y2 y3 y4 y5 yz
            refine hK.out _ _ (sG EX _) (fun hHeld => ?_)
            clear hK K
            try simp only [Act.put, List.getElem_toArray, List.getElem_cons_zero, List.getElem_cons_succ, List.setIfInBounds_toArray, List.set_cons_zero, List.set_cons_succ]
            refine wpAnyH_ready (rs := [9]) (by kernel_rfl) (by simp) ?_
            refine AllReadyH.cons (o := _) rfl (fun K hK => ?_) AllReadyH.nil
            go_simp
            refine Calls.mono (C2.out _) ?_
            rintro e X ⟨rfl, hEX⟩
            dsimp only
            replace EX := EX.trans hEX
            replace V2 := hid (V2.out.ext hEX)
            clear hHeld hEX
            refine hK.out _ _ (sG EX _) (fun hHeld => ?_)
            clear hK K
            try simp only [Act.put, List.getElem_toArray, List.getElem_cons_zero, List.getElem_cons_succ, List.setIfInBounds_toArray, List.set_cons_zero, List.set_cons_succ]
            refine wpAnyH_ready (rs := [14]) (by kernel_rfl) (by simp) ?_
            refine AllReadyH.cons (o := _) rfl (fun K hK => ?_) AllReadyH.nil
            go_simp
            refine Calls.mono (C3.out _) ?_
            rintro e X ⟨rfl, hEX⟩
            dsimp only
            replace EX := EX.trans hEX
            replace V2 := hid (V2.out.ext hEX)
            clear hHeld hEX
            refine hK.out _ _ (sG EX _) (fun hHeld => ?_)
            clear hK K
            try simp only [Act.put, List.getElem_toArray, List.getElem_cons_zero, List.getElem_cons_succ, List.setIfInBounds_toArray, List.set_cons_zero, List.set_cons_succ]
            refine wpAnyH_take (i := 15) (oi := _) (v := ?v15k37) rfl (by kernel_rfl) (by kernel_rfl) (by kernel_rfl) (fun _ _ _ h => h) (Or.inl ⟨by rfl, ?y15k37⟩) (by assumption) ?r15k37
            case y15k37 => (intro w' hSw; (try dsimp only at hSw); go_simp; (try with_reducible rfl))
            try simp only [Act.put, List.getElem_toArray, List.getElem_cons_zero, List.getElem_cons_succ, List.setIfInBounds_toArray, List.set_cons_zero, List.set_cons_succ]
            refine wpAnyH_ready (rs := [16]) (by kernel_rfl) (by simp) ?_
            refine AllReadyH.cons (o := _) rfl (fun K hK => ?_) AllReadyH.nil
            refine wp_store_mid 38 _ _ rfl (w.heap.size + 1 + 1) 0 #[.int .i64 m1, .int .i64 m2, .int .i64 m3, .int .i64 m4, .int .i64 m5, .int .i64 m6] rfl rfl (blk_there V2.out rfl) infoHr1 HO.out ?_
            clear hHeld
            refine hK.out _ _ (sGs EX _ _ _) (fun hHeld => ?_)
            clear hK K
            try simp only [Act.put, List.getElem_toArray, List.getElem_cons_zero, List.getElem_cons_succ, List.setIfInBounds_toArray, List.set_cons_zero, List.set_cons_succ]
            refine wpAnyH_done (by kernel_rfl) ?_ _
            exact REST _ EX V2
          · have v9 := V2.out
            obtain ⟨y0, y1, y2, y3, y4, y5⟩ : _ ∧ _ ∧ _ ∧ _ ∧ _ ∧ _ := ⟨v9.cell 0, v9.cell 1, v9.cell 2, v9.cell 3, v9.cell 4, v9.cell 5⟩
            have yz := v9.lt
            simp only [List.getElem?_toArray, List.getElem?_cons_zero, List.getElem?_cons_succ] at y0 y1 y2 y3 y4 y5
            clear v9
            go_simp
            clear hHeld y0 y1 y2 y3 y4 y5 yz
            refine hK.out _ _ (sG EX _) (fun hHeld => ?_)
            clear hK K
            try simp only [Act.put, List.getElem_toArray, List.getElem_cons_zero, List.getElem_cons_succ, List.setIfInBounds_toArray, List.set_cons_zero, List.set_cons_succ]
            refine wpAnyH_ready (rs := [4]) (by kernel_rfl) (by simp) ?_
            refine AllReadyH.cons (o := _) rfl (fun K hK => ?_) AllReadyH.nil
            go_simp
            refine Calls.mono (C1.out _) ?_
            rintro e X ⟨rfl, hEX⟩
            dsimp only
            replace EX := EX.trans hEX
            replace V2 := hid (V2.out.ext hEX)
            clear hHeld hEX
            refine hK.out _ _ (sG EX _) (fun hHeld => ?_)
            clear hK K
            try simp only [Act.put, List.getElem_toArray, List.getElem_cons_zero, List.getElem_cons_succ, List.setIfInBounds_toArray, List.set_cons_zero, List.set_cons_succ]
            refine wpAnyH_ready (rs := [9]) (by kernel_rfl) (by simp) ?_
            refine AllReadyH.cons (o := _) rfl (fun K hK => ?_) AllReadyH.nil
            go_simp
            refine Calls.mono (C2.out _) ?_
            rintro e X ⟨rfl, hEX⟩
            dsimp only
            replace EX := EX.trans hEX
            replace V2 := hid (V2.out.ext hEX)
            clear hHeld hEX
            refine hK.out _ _ (sG EX _) (fun hHeld => ?_)
            clear hK K
            try simp only [Act.put, List.getElem_toArray, List.getElem_cons_zero, List.getElem_cons_succ, List.setIfInBounds_toArray, List.set_cons_zero, List.set_cons_succ]
            refine wpAnyH_ready (rs := [14]) (by kernel_rfl) (by simp) ?_
            refine AllReadyH.cons (o := _) rfl (fun K hK => ?_) AllReadyH.nil
            go_simp
            refine Calls.mono (C3.out _) ?_
            rintro e X ⟨rfl, hEX⟩
            dsimp only
            replace EX := EX.trans hEX
            replace V2 := hid (V2.out.ext hEX)
            clear hHeld hEX
            refine hK.out _ _ (sG EX _) (fun hHeld => ?_)
            clear hK K
            try simp only [Act.put, List.getElem_toArray, List.getElem_cons_zero, List.getElem_cons_succ, List.setIfInBounds_toArray, List.set_cons_zero, List.set_cons_succ]
            refine wpAnyH_take (i := 15) (oi := _) (v := ?v15k42) rfl (by kernel_rfl) (by kernel_rfl) (by kernel_rfl) (fun _ _ _ h => h) (Or.inl ⟨by rfl, ?y15k42⟩) (by assumption) ?r15k42
            case y15k42 => (intro w' hSw; (try dsimp only at hSw); go_simp; (try with_reducible rfl))
            try simp only [Act.put, List.getElem_toArray, List.getElem_cons_zero, List.getElem_cons_succ, List.setIfInBounds_toArray, List.set_cons_zero, List.set_cons_succ]
            refine wpAnyH_ready (rs := [16]) (by kernel_rfl) (by simp) ?_
            refine AllReadyH.cons (o := _) rfl (fun K hK => ?_) AllReadyH.nil
            refine wp_store_mid 38 _ _ rfl (w.heap.size + 1 + 1) 0 #[.int .i64 m1, .int .i64 m2, .int .i64 m3, .int .i64 m4, .int .i64 m5, .int .i64 m6] rfl rfl (blk_there V2.out rfl) infoHr1 HO.out ?_
            clear hHeld
            refine hK.out _ _ (sGs EX _ _ _) (fun hHeld => ?_)
            clear hK K
            try simp only [Act.put, List.getElem_toArray, List.getElem_cons_zero, List.getElem_cons_succ, List.setIfInBounds_toArray, List.set_cons_zero, List.set_cons_succ]
            refine wpAnyH_done (by kernel_rfl) ?_ _
            exact REST _ EX V2
      · have v9 := V2.out
        obtain ⟨y0, y1, y2, y3, y4, y5⟩ : _ ∧ _ ∧ _ ∧ _ ∧ _ ∧ _ := ⟨v9.cell 0, v9.cell 1, v9.cell 2, v9.cell 3, v9.cell 4, v9.cell 5⟩
        have yz := v9.lt
        simp only [List.getElem?_toArray, List.getElem?_cons_zero, List.getElem?_cons_succ] at y0 y1 y2 y3 y4 y5
        clear v9
        go_simp
        clear hHeld y0 y1 y2 y3 y4 y5 yz
        refine hK.out _ _ (sG EX _) (fun hHeld => ?_)
        clear hK K
        try simp only [Act.put, List.getElem_toArray, List.getElem_cons_zero, List.getElem_cons_succ, List.setIfInBounds_toArray, List.set_cons_zero, List.set_cons_succ]
        refine wpAnyH_ready (rs := [1, 11]) (by kernel_rfl) (by simp) ?_
        refine AllReadyH.cons (o := _) rfl (fun K hK => ?_) (AllReadyH.cons (o := _) rfl (fun K hK => ?_) AllReadyH.nil)
        · have v9 := V2.out
          obtain ⟨y0, y1, y2, y3, y4, y5⟩ : _ ∧ _ ∧ _ ∧ _ ∧ _ ∧ _ := ⟨v9.cell 0, v9.cell 1, v9.cell 2, v9.cell 3, v9.cell 4, v9.cell 5⟩
          have yz := v9.lt
          simp only [List.getElem?_toArray, List.getElem?_cons_zero, List.getElem?_cons_succ] at y0 y1 y2 y3 y4 y5
          clear v9
          go_simp
          clear hHeld y0 y1 y2 y3 y4 y5 yz
          refine hK.out _ _ (sG EX _) (fun hHeld => ?_)
          clear hK K
          try simp only [Act.put, List.getElem_toArray, List.getElem_cons_zero, List.getElem_cons_succ, List.setIfInBounds_toArray, List.set_cons_zero, List.set_cons_succ]
          refine wpAnyH_ready (rs := [4, 11]) (by kernel_rfl) (by simp) ?_
          refine AllReadyH.cons (o := _) rfl (fun K hK => ?_) (AllReadyH.cons (o := _) rfl (fun K hK => ?_) AllReadyH.nil)
          · go_simp
            refine Calls.mono (C1.out _) ?_
            rintro e X ⟨rfl, hEX⟩
            dsimp only
            replace EX := EX.trans hEX
            replace V2 := hid (V2.out.ext hEX)
            clear hHeld hEX
            refine hK.out _ _ (sG EX _) (fun hHeld => ?_)
            clear hK K
            try simp only [Act.put, List.getElem_toArray, List.getElem_cons_zero, List.getElem_cons_succ, List.setIfInBounds_toArray, List.set_cons_zero, List.set_cons_succ]
            refine wpAnyH_ready (rs := [9, 11]) (by kernel_rfl) (by simp) ?_
            refine AllReadyH.cons (o := _) rfl (fun K hK => ?_) (AllReadyH.cons (o := _) rfl (fun K hK => ?_) AllReadyH.nil)
            · go_simp
              refine Calls.mono (C2.out _) ?_
              rintro e X ⟨rfl, hEX⟩
              dsimp only
              replace EX := EX.trans hEX
              replace V2 := hid (V2.out.ext hEX)
              clear hHeld hEX
              refine hK.out _ _ (sG EX _) (fun hHeld => ?_)
              clear hK K
              try simp only [Act.put, List.getElem_toArray, List.getElem_cons_zero, List.getElem_cons_succ, List.setIfInBounds_toArray, List.set_cons_zero, List.set_cons_succ]
              refine wpAnyH_ready (rs := [11]) (by kernel_rfl) (by simp) ?_
              refine AllReadyH.cons (o := _) rfl (fun K hK => ?_) AllReadyH.nil
              have v9 := V2.out
              obtain ⟨y0, y1, y2, y3, y4, y5⟩ : _ ∧ _ ∧ _ ∧ _ ∧ _ ∧ _ := ⟨v9.cell 0, v9.cell 1, v9.cell 2, v9.cell 3, v9.cell 4, v9.cell 5⟩
              have yz := v9.lt
              simp only [List.getElem?_toArray, List.getElem?_cons_zero, List.getElem?_cons_succ] at y0 y1 y2 y3 y4 y5
              clear v9
              go_simp
              clear hHeld y0 y1 y2 y3 y4 y5 yz
              refine hK.out _ _ (sG EX _) (fun hHeld => ?_)
              clear hK K
              try simp only [Act.put, List.getElem_toArray, List.getElem_cons_zero, List.getElem_cons_succ, List.setIfInBounds_toArray, List.set_cons_zero, List.set_cons_succ]
              refine wpAnyH_ready (rs := [14]) (by kernel_rfl) (by simp) ?_
              refine AllReadyH.cons (o := _) rfl (fun K hK => ?_) AllReadyH.nil
              go_simp
              refine Calls.mono (C3.out _) ?_
              rintro e X ⟨rfl, hEX⟩
              dsimp only
              replace EX := EX.trans hEX
              replace V2 := hid (V2.out.ext hEX)
              clear hHeld hEX
              refine hK.out _ _ (sG EX _) (fun hHeld => ?_)
              clear hK K
              try simp only [Act.put, List.getElem_toArray, List.getElem_cons_zero, List.getElem_cons_succ, List.setIfInBounds_toArray, List.set_cons_zero, List.set_cons_succ]
              refine wpAnyH_take (i := 15) (oi := _) (v := ?v15k49) rfl (by kernel_rfl) (by kernel_rfl) (by kernel_rfl) (fun _ _ _ h => h) (Or.inl ⟨by rfl, ?y15k49⟩) (by assumption) ?r15k49
              case y15k49 => (intro w' hSw; (try dsimp only at hSw); go_simp; (try with_reducible rfl))
              try simp only [Act.put, List.getElem_toArray, List.getElem_cons_zero, List.getElem_cons_succ, List.setIfInBounds_toArray, List.set_cons_zero, List.set_cons_succ]
              refine wpAnyH_ready (rs := [16]) (by kernel_rfl) (by simp) ?_
              refine AllReadyH.cons (o := _) rfl (fun K hK => ?_) AllReadyH.nil
              refine wp_store_mid 38 _ _ rfl (w.heap.size + 1 + 1) 0 #[.int .i64 m1, .int .i64 m2, .int .i64 m3, .int .i64 m4, .int .i64 m5, .int .i64 m6] rfl rfl (blk_there V2.out rfl) infoHr1 HO.out ?_
              clear hHeld
              refine hK.out _ _ (sGs EX _ _ _) (fun hHeld => ?_)
              clear hK K
              try simp only [Act.put, List.getElem_toArray, List.getElem_cons_zero, List.getElem_cons_succ, List.setIfInBounds_toArray, List.set_cons_zero, List.set_cons_succ]
              refine wpAnyH_done (by kernel_rfl) ?_ _
              exact REST _ EX V2
            · have v9 := V2.out
              obtain ⟨y0, y1, y2, y3, y4, y5⟩ : _ ∧ _ ∧ _ ∧ _ ∧ _ ∧ _ := ⟨v9.cell 0, v9.cell 1, v9.cell 2, v9.cell 3, v9.cell 4, v9.cell 5⟩
              have yz := v9.lt
              simp only [List.getElem?_toArray, List.getElem?_cons_zero, List.getElem?_cons_succ] at y0 y1 y2 y3 y4 y5
              clear v9
              go_simp
              clear hHeld y0 y1 y2 y3 y4 y5 yz
              refine hK.out _ _ (sG EX _) (fun hHeld => ?_)
              clear hK K
              try simp only [Act.put, List.getElem_toArray, List.getElem_cons_zero, List.getElem_cons_succ, List.setIfInBounds_toArray, List.set_cons_zero, List.set_cons_succ]
              refine wpAnyH_ready (rs := [9]) (by kernel_rfl) (by simp) ?_
              refine AllReadyH.cons (o := _) rfl (fun K hK => ?_) AllReadyH.nil
              go_simp
              refine Calls.mono (C2.out _) ?_
              rintro e X ⟨rfl, hEX⟩
              dsimp only
              replace EX := EX.trans hEX
              replace V2 := hid (V2.out.ext hEX)
              clear hHeld hEX
              refine hK.out _ _ (sG EX _) (fun hHeld => ?_)
              clear hK K
              try simp only [Act.put, List.getElem_toArray, List.getElem_cons_zero, List.getElem_cons_succ, List.setIfInBounds_toArray, List.set_cons_zero, List.set_cons_succ]
              refine wpAnyH_ready (rs := [14]) (by kernel_rfl) (by simp) ?_
              refine AllReadyH.cons (o := _) rfl (fun K hK => ?_) AllReadyH.nil
              go_simp
              refine Calls.mono (C3.out _) ?_
              rintro e X ⟨rfl, hEX⟩
              dsimp only
              replace EX := EX.trans hEX
              replace V2 := hid (V2.out.ext hEX)
              clear hHeld hEX
              refine hK.out _ _ (sG EX _) (fun hHeld => ?_)
              clear hK K
              try simp only [Act.put, List.getElem_toArray, List.getElem_cons_zero, List.getElem_cons_succ, List.setIfInBounds_toArray, List.set_cons_zero, List.set_cons_succ]
              refine wpAnyH_take (i := 15) (oi := _) (v := ?v15k53) rfl (by kernel_rfl) (by kernel_rfl) (by kernel_rfl) (fun _ _ _ h => h) (Or.inl ⟨by rfl, ?y15k53⟩) (by assumption) ?r15k53
              case y15k53 => (intro w' hSw; (try dsimp only at hSw); go_simp; (try with_reducible rfl))
              try simp only [Act.put, List.getElem_toArray, List.getElem_cons_zero, List.getElem_cons_succ, List.setIfInBounds_toArray, List.set_cons_zero, List.set_cons_succ]
              refine wpAnyH_ready (rs := [16]) (by kernel_rfl) (by simp) ?_
              refine AllReadyH.cons (o := _) rfl (fun K hK => ?_) AllReadyH.nil
              refine wp_store_mid 38 _ _ rfl (w.heap.size + 1 + 1) 0 #[.int .i64 m1, .int .i64 m2, .int .i64 m3, .int .i64 m4, .int .i64 m5, .int .i64 m6] rfl rfl (blk_there V2.out rfl) infoHr1 HO.out ?_
              clear hHeld
              refine hK.out _ _ (sGs EX _ _ _) (fun hHeld => ?_)
              clear hK K
              try simp only [Act.put, List.getElem_toArray, List.getElem_cons_zero, List.getElem_cons_succ, List.setIfInBounds_toArray, List.set_cons_zero, List.set_cons_succ]
              refine wpAnyH_done (by kernel_rfl) ?_ _
              exact REST _ EX V2
          · have v9 := V2.out
            obtain ⟨y0, y1, y2, y3, y4, y5⟩ : _ ∧ _ ∧ _ ∧ _ ∧ _ ∧ _ := ⟨v9.cell 0, v9.cell 1, v9.cell 2, v9.cell 3, v9.cell 4, v9.cell 5⟩
            have yz := v9.lt
            simp only [List.getElem?_toArray, List.getElem?_cons_zero, List.getElem?_cons_succ] at y0 y1 y2 y3 y4 y5
            clear v9
            go_simp
            clear hHeld y0 y1 y2 y3 y4 y5 yz
            refine hK.out _ _ (sG EX _) (fun hHeld => ?_)
            clear hK K
            try simp only [Act.put, List.getElem_toArray, List.getElem_cons_zero, List.getElem_cons_succ, List.setIfInBounds_toArray, List.set_cons_zero, List.set_cons_succ]
            refine wpAnyH_ready (rs := [4]) (by kernel_rfl) (by simp) ?_
            refine AllReadyH.cons (o := _) rfl (fun K hK => ?_) AllReadyH.nil
            go_simp
            refine Calls.mono (C1.out _) ?_
            rintro e X ⟨rfl, hEX⟩
            dsimp only
            replace EX := EX.trans hEX
            replace V2 := hid (V2.out.ext hEX)
            clear hHeld hEX
            refine hK.out _ _ (sG EX _) (fun hHeld => ?_)
            clear hK K
            try simp only [Act.put, List.getElem_toArray, List.getElem_cons_zero, List.getElem_cons_succ, List.setIfInBounds_toArray, List.set_cons_zero, List.set_cons_succ]
            refine wpAnyH_ready (rs := [9]) (by kernel_rfl) (by simp) ?_
            refine AllReadyH.cons (o := _) rfl (fun K hK => ?_) AllReadyH.nil
            go_simp
            refine Calls.mono (C2.out _) ?_
            rintro e X ⟨rfl, hEX⟩
            dsimp only
            replace EX := EX.trans hEX
            replace V2 := hid (V2.out.ext hEX)
            clear hHeld hEX
            refine hK.out _ _ (sG EX _) (fun hHeld => ?_)
            clear hK K
            try simp only [Act.put, List.getElem_toArray, List.getElem_cons_zero, List.getElem_cons_succ, List.setIfInBounds_toArray, List.set_cons_zero, List.set_cons_succ]
            refine wpAnyH_ready (rs := [14]) (by kernel_rfl) (by simp) ?_
            refine AllReadyH.cons (o := _) rfl (fun K hK => ?_) AllReadyH.nil
            go_simp
            refine Calls.mono (C3.out _) ?_
            rintro e X ⟨rfl, hEX⟩
            dsimp only
            replace EX := EX.trans hEX
            replace V2 := hid (V2.out.ext hEX)
            clear hHeld hEX
            refine hK.out _ _ (sG EX _) (fun hHeld => ?_)
            clear hK K
            try simp only [Act.put, List.getElem_toArray, List.getElem_cons_zero, List.getElem_cons_succ, List.setIfInBounds_toArray, List.set_cons_zero, List.set_cons_succ]
            refine wpAnyH_take (i := 15) (oi := _) (v := ?v15k58) rfl (by kernel_rfl) (by kernel_rfl) (by kernel_rfl) (fun _ _ _ h => h) (Or.inl ⟨by rfl, ?y15k58⟩) (by assumption) ?r15k58
            case y15k58 => (intro w' hSw; (try dsimp only at hSw); go_simp; (try with_reducible rfl))
            try simp only [Act.put, List.getElem_toArray, List.getElem_cons_zero, List.getElem_cons_succ, List.setIfInBounds_toArray, List.set_cons_zero, List.set_cons_succ]
            refine wpAnyH_ready (rs := [16]) (by kernel_rfl) (by simp) ?_
            refine AllReadyH.cons (o := _) rfl (fun K hK => ?_) AllReadyH.nil
            refine wp_store_mid 38 _ _ rfl (w.heap.size + 1 + 1) 0 #[.int .i64 m1, .int .i64 m2, .int .i64 m3, .int .i64 m4, .int .i64 m5, .int .i64 m6] rfl rfl (blk_there V2.out rfl) infoHr1 HO.out ?_
            clear hHeld
            refine hK.out _ _ (sGs EX _ _ _) (fun hHeld => ?_)
            clear hK K
            try simp only [Act.put, List.getElem_toArray, List.getElem_cons_zero, List.getElem_cons_succ, List.setIfInBounds_toArray, List.set_cons_zero, List.set_cons_succ]
            refine wpAnyH_done (by kernel_rfl) ?_ _
            exact REST _ EX V2
        · have v9 := V2.out
          obtain ⟨y0, y1, y2, y3, y4, y5⟩ : _ ∧ _ ∧ _ ∧ _ ∧ _ ∧ _ := ⟨v9.cell 0, v9.cell 1, v9.cell 2, v9.cell 3, v9.cell 4, v9.cell 5⟩
          have yz := v9.lt
          simp only [List.getElem?_toArray, List.getElem?_cons_zero, List.getElem?_cons_succ] at y0 y1 y2 y3 y4 y5
          clear v9
          go_simp
          clear hHeld y0 y1 y2 y3 y4 y5 yz
          refine hK.out _ _ (sG EX _) (fun hHeld => ?_)
          clear hK K
          try simp only [Act.put, List.getElem_toArray, List.getElem_cons_zero, List.getElem_cons_succ, List.setIfInBounds_toArray, List.set_cons_zero, List.set_cons_succ]
          refine wpAnyH_ready (rs := [1]) (by kernel_rfl) (by simp) ?_
          refine AllReadyH.cons (o := _) rfl (fun K hK => ?_) AllReadyH.nil
          have v9 := V2.out
          obtain ⟨y0, y1, y2, y3, y4, y5⟩ : _ ∧ _ ∧ _ ∧ _ ∧ _ ∧ _ := ⟨v9.cell 0, v9.cell 1, v9.cell 2, v9.cell 3, v9.cell 4, v9.cell 5⟩
          have yz := v9.lt
          simp only [List.getElem?_toArray, List.getElem?_cons_zero, List.getElem?_cons_succ] at y0 y1 y2 y3 y4 y5
          clear v9
          go_simp
          clear hHeld y0 y1 y2 y3 y4 y5 yz
          refine hK.out _ _ (sG EX _) (fun hHeld => ?_)
          clear hK K
          try simp only [Act.put, List.getElem_toArray, List.getElem_cons_zero, List.getElem_cons_succ, List.setIfInBounds_toArray, List.set_cons_zero, List.set_cons_succ]
          refine wpAnyH_ready (rs := [4]) (by kernel_rfl) (by simp) ?_
          refine AllReadyH.cons (o := _) rfl (fun K hK => ?_) AllReadyH.nil
          go_simp
          refine Calls.mono (C1.out _) ?_
          rintro e X ⟨rfl, hEX⟩
          dsimp only
          replace EX := EX.trans hEX
          replace V2 := hid (V2.out.ext hEX)
          clear hHeld hEX
          refine hK.out _ _ (sG EX _) (fun hHeld => ?_)
          clear hK K
          try simp only [Act.put, List.getElem_toArray, List.getElem_cons_zero, List.getElem_cons_succ, List.setIfInBounds_toArray, List.set_cons_zero, List.set_cons_succ]
          refine wpAnyH_ready (rs := [9]) (by kernel_rfl) (by simp) ?_
          refine AllReadyH.cons (o := _) rfl (fun K hK => ?_) AllReadyH.nil
          go_simp
          refine Calls.mono (C2.out _) ?_
          rintro e X ⟨rfl, hEX⟩
          dsimp only
          replace EX := EX.trans hEX
          replace V2 := hid (V2.out.ext hEX)
          clear hHeld hEX
          refine hK.out _ _ (sG EX _) (fun hHeld => ?_)
          clear hK K
          try simp only [Act.put, List.getElem_toArray, List.getElem_cons_zero, List.getElem_cons_succ, List.setIfInBounds_toArray, List.set_cons_zero, List.set_cons_succ]
          refine wpAnyH_ready (rs := [14]) (by kernel_rfl) (by simp) ?_
          refine AllReadyH.cons (o := _) rfl (fun K hK => ?_) AllReadyH.nil
          go_simp
          refine Calls.mono (C3.out _) ?_
          rintro e X ⟨rfl, hEX⟩
          dsimp only
          replace EX := EX.trans hEX
          replace V2 := hid (V2.out.ext hEX)
          clear hHeld hEX
          refine hK.out _ _ (sG EX _) (fun hHeld => ?_)
          clear hK K
          try simp only [Act.put, List.getElem_toArray, List.getElem_cons_zero, List.getElem_cons_succ, List.setIfInBounds_toArray, List.set_cons_zero, List.set_cons_succ]
          refine wpAnyH_take (i := 15) (oi := _) (v := ?v15k64) rfl (by kernel_rfl) (by kernel_rfl) (by kernel_rfl) (fun _ _ _ h => h) (Or.inl ⟨by rfl, ?y15k64⟩) (by assumption) ?r15k64
          case y15k64 => (intro w' hSw; (try dsimp only at hSw); go_simp; (try with_reducible rfl))
          try simp only [Act.put, List.getElem_toArray, List.getElem_cons_zero, List.getElem_cons_succ, List.setIfInBounds_toArray, List.set_cons_zero, List.set_cons_succ]
          refine wpAnyH_ready (rs := [16]) (by kernel_rfl) (by simp) ?_
          refine AllReadyH.cons (o := _) rfl (fun K hK => ?_) AllReadyH.nil
          refine wp_store_mid 38 _ _ rfl (w.heap.size + 1 + 1) 0 #[.int .i64 m1, .int .i64 m2, .int .i64 m3, .int .i64 m4, .int .i64 m5, .int .i64 m6] rfl rfl (blk_there V2.out rfl) infoHr1 HO.out ?_
          clear hHeld
          refine hK.out _ _ (sGs EX _ _ _) (fun hHeld => ?_)
          clear hK K
          try simp only [Act.put, List.getElem_toArray, List.getElem_cons_zero, List.getElem_cons_succ, List.setIfInBounds_toArray, List.set_cons_zero, List.set_cons_succ]
          refine wpAnyH_done (by kernel_rfl) ?_ _
          exact REST _ EX V2
      · have v9 := V2.out
        obtain ⟨y0, y1, y2, y3, y4, y5⟩ : _ ∧ _ ∧ _ ∧ _ ∧ _ ∧ _ := ⟨v9.cell 0, v9.cell 1, v9.cell 2, v9.cell 3, v9.cell 4, v9.cell 5⟩
        have yz := v9.lt
        simp only [List.getElem?_toArray, List.getElem?_cons_zero, List.getElem?_cons_succ] at y0 y1 y2 y3 y4 y5
        clear v9
        go_simp
        clear hHeld y0 y1 y2 y3 y4 y5 yz
        refine hK.out _ _ (sG EX _) (fun hHeld => ?_)
        clear hK K
        try simp only [Act.put, List.getElem_toArray, List.getElem_cons_zero, List.getElem_cons_succ, List.setIfInBounds_toArray, List.set_cons_zero, List.set_cons_succ]
        refine wpAnyH_ready (rs := [1, 6]) (by kernel_rfl) (by simp) ?_
        refine AllReadyH.cons (o := _) rfl (fun K hK => ?_) (AllReadyH.cons (o := _) rfl (fun K hK => ?_) AllReadyH.nil)
        · have v9 := V2.out
          obtain ⟨y0, y1, y2, y3, y4, y5⟩ : _ ∧ _ ∧ _ ∧ _ ∧ _ ∧ _ := ⟨v9.cell 0, v9.cell 1, v9.cell 2, v9.cell 3, v9.cell 4, v9.cell 5⟩
          have yz := v9.lt
          simp only [List.getElem?_toArray, List.getElem?_cons_zero, List.getElem?_cons_succ] at y0 y1 y2 y3 y4 y5
          clear v9
          go_simp
          clear hHeld y0 y1 y2 y3 y4 y5 yz
          refine hK.out _ _ (sG EX _) (fun hHeld => ?_)
          clear hK K
          try simp only [Act.put, List.getElem_toArray, List.getElem_cons_zero, List.getElem_cons_succ, List.setIfInBounds_toArray, List.set_cons_zero, List.set_cons_succ]
          refine wpAnyH_ready (rs := [4, 6]) (by kernel_rfl) (by simp) ?_
          refine AllReadyH.cons (o := _) rfl (fun K hK => ?_) (AllReadyH.cons (o := _) rfl (fun K hK => ?_) AllReadyH.nil)
          · go_simp
            refine Calls.mono (C1.out _) ?_
            rintro e X ⟨rfl, hEX⟩
            dsimp only
            replace EX := EX.trans hEX
            replace V2 := hid (V2.out.ext hEX)
            clear hHeld hEX
            refine hK.out _ _ (sG EX _) (fun hHeld => ?_)
            clear hK K
            try simp only [Act.put, List.getElem_toArray, List.getElem_cons_zero, List.getElem_cons_succ, List.setIfInBounds_toArray, List.set_cons_zero, List.set_cons_succ]
            refine wpAnyH_ready (rs := [6]) (by kernel_rfl) (by simp) ?_
            refine AllReadyH.cons (o := _) rfl (fun K hK => ?_) AllReadyH.nil
            have v9 := V2.out
            obtain ⟨y0, y1, y2, y3, y4, y5⟩ : _ ∧ _ ∧ _ ∧ _ ∧ _ ∧ _ := ⟨v9.cell 0, v9.cell 1, v9.cell 2, v9.cell 3, v9.cell 4, v9.cell 5⟩
            have yz := v9.lt
            simp only [List.getElem?_toArray, List.getElem?_cons_zero, List.getElem?_cons_succ] at y0 y1 y2 y3 y4 y5
            clear v9
            go_simp
            clear hHeld y0 y1 y2 y3 y4 y5 yz
            refine hK.out _ _ (sG EX _) (fun hHeld => ?_)
            clear hK K
            try simp only [Act.put, List.getElem_toArray, List.getElem_cons_zero, List.getElem_cons_succ, List.setIfInBounds_toArray, List.set_cons_zero, List.set_cons_succ]
            refine wpAnyH_ready (rs := [9]) (by kernel_rfl) (by simp) ?_
            refine AllReadyH.cons (o := _) rfl (fun K hK => ?_) AllReadyH.nil
            go_simp
            refine Calls.mono (C2.out _) ?_
            rintro e X ⟨rfl, hEX⟩
            dsimp only
            replace EX := EX.trans hEX
            replace V2 := hid (V2.out.ext hEX)
            clear hHeld hEX
            refine hK.out _ _ (sG EX _) (fun hHeld => ?_)
            clear hK K
            try simp only [Act.put, List.getElem_toArray, List.getElem_cons_zero, List.getElem_cons_succ, List.setIfInBounds_toArray, List.set_cons_zero, List.set_cons_succ]
            refine wpAnyH_ready (rs := [14]) (by kernel_rfl) (by simp) ?_
            refine AllReadyH.cons (o := _) rfl (fun K hK => ?_) AllReadyH.nil
            go_simp
            refine Calls.mono (C3.out _) ?_
            rintro e X ⟨rfl, hEX⟩
            dsimp only
            replace EX := EX.trans hEX
            replace V2 := hid (V2.out.ext hEX)
            clear hHeld hEX
            refine hK.out _ _ (sG EX _) (fun hHeld => ?_)
            clear hK K
            try simp only [Act.put, List.getElem_toArray, List.getElem_cons_zero, List.getElem_cons_succ, List.setIfInBounds_toArray, List.set_cons_zero, List.set_cons_succ]
            refine wpAnyH_take (i := 15) (oi := _) (v := ?v15k71) rfl (by kernel_rfl) (by kernel_rfl) (by kernel_rfl) (fun _ _ _ h => h) (Or.inl ⟨by rfl, ?y15k71⟩) (by assumption) ?r15k71
            case y15k71 => (intro w' hSw; (try dsimp only at hSw); go_simp; (try with_reducible rfl))
            try simp only [Act.put, List.getElem_toArray, List.getElem_cons_zero, List.getElem_cons_succ, List.setIfInBounds_toArray, List.set_cons_zero, List.set_cons_succ]
            refine wpAnyH_ready (rs := [16]) (by kernel_rfl) (by simp) ?_
            refine AllReadyH.cons (o := _) rfl (fun K hK => ?_) AllReadyH.nil
            refine wp_store_mid 38 _ _ rfl (w.heap.size + 1 + 1) 0 #[.int .i64 m1, .int .i64 m2, .int .i64 m3, .int .i64 m4, .int .i64 m5, .int .i64 m6] rfl rfl (blk_there V2.out rfl) infoHr1 HO.out ?_
            clear hHeld
            refine hK.out _ _ (sGs EX _ _ _) (fun hHeld => ?_)
            clear hK K
            try simp only [Act.put, List.getElem_toArray, List.getElem_cons_zero, List.getElem_cons_succ, List.setIfInBounds_toArray, List.set_cons_zero, List.set_cons_succ]
            refine wpAnyH_done (by kernel_rfl) ?_ _
            exact REST _ EX V2
          · have v9 := V2.out
            obtain ⟨y0, y1, y2, y3, y4, y5⟩ : _ ∧ _ ∧ _ ∧ _ ∧ _ ∧ _ := ⟨v9.cell 0, v9.cell 1, v9.cell 2, v9.cell 3, v9.cell 4, v9.cell 5⟩
            have yz := v9.lt
            simp only [List.getElem?_toArray, List.getElem?_cons_zero, List.getElem?_cons_succ] at y0 y1 y2 y3 y4 y5
            clear v9
            go_simp
            clear hHeld y0 y1 y2 y3 y4 y5 yz
            refine hK.out _ _ (sG EX _) (fun hHeld => ?_)
            clear hK K
            try simp only [Act.put, List.getElem_toArray, List.getElem_cons_zero, List.getElem_cons_succ, List.setIfInBounds_toArray, List.set_cons_zero, List.set_cons_succ]
            refine wpAnyH_ready (rs := [4]) (by kernel_rfl) (by simp) ?_
            refine AllReadyH.cons (o := _) rfl (fun K hK => ?_) AllReadyH.nil
            go_simp
            refine Calls.mono (C1.out _) ?_
            rintro e X ⟨rfl, hEX⟩
            dsimp only
            replace EX := EX.trans hEX
            replace V2 := hid (V2.out.ext hEX)
            clear hHeld hEX
            refine hK.out _ _ (sG EX _) (fun hHeld => ?_)
            clear hK K
            try simp only [Act.put, List.getElem_toArray, List.getElem_cons_zero, List.getElem_cons_succ, List.setIfInBounds_toArray, List.set_cons_zero, List.set_cons_succ]
            refine wpAnyH_ready (rs := [9]) (by kernel_rfl) (by simp) ?_
            refine AllReadyH.cons (o := _) rfl (fun K hK => ?_) AllReadyH.nil
            go_simp
            refine Calls.mono (C2.out _) ?_
            rintro e X ⟨rfl, hEX⟩
            dsimp only
            replace EX := EX.trans hEX
            replace V2 := hid (V2.out.ext hEX)
            clear hHeld hEX
            refine hK.out _ _ (sG EX _) (fun hHeld => ?_)
            clear hK K
            try simp only [Act.put, List.getElem_toArray, List.getElem_cons_zero, List.getElem_cons_succ, List.setIfInBounds_toArray, List.set_cons_zero, List.set_cons_succ]
            refine wpAnyH_ready (rs := [14]) (by kernel_rfl) (by simp) ?_
            refine AllReadyH.cons (o := _) rfl (fun K hK => ?_) AllReadyH.nil
            go_simp
            refine Calls.mono (C3.out _) ?_
            rintro e X ⟨rfl, hEX⟩
            dsimp only
            replace EX := EX.trans hEX
            replace V2 := hid (V2.out.ext hEX)
            clear hHeld hEX
            refine hK.out _ _ (sG EX _) (fun hHeld => ?_)
            clear hK K
            try simp only [Act.put, List.getElem_toArray, List.getElem_cons_zero, List.getElem_cons_succ, List.setIfInBounds_toArray, List.set_cons_zero, List.set_cons_succ]
            refine wpAnyH_take (i := 15) (oi := _) (v := ?v15k76) rfl (by kernel_rfl) (by kernel_rfl) (by kernel_rfl) (fun _ _ _ h => h) (Or.inl ⟨by rfl, ?y15k76⟩) (by assumption) ?r15k76
            case y15k76 => (intro w' hSw; (try dsimp only at hSw); go_simp; (try with_reducible rfl))
            try simp only [Act.put, List.getElem_toArray, List.getElem_cons_zero, List.getElem_cons_succ, List.setIfInBounds_toArray, List.set_cons_zero, List.set_cons_succ]
            refine wpAnyH_ready (rs := [16]) (by kernel_rfl) (by simp) ?_
            refine AllReadyH.cons (o := _) rfl (fun K hK => ?_) AllReadyH.nil
            refine wp_store_mid 38 _ _ rfl (w.heap.size + 1 + 1) 0 #[.int .i64 m1, .int .i64 m2, .int .i64 m3, .int .i64 m4, .int .i64 m5, .int .i64 m6] rfl rfl (blk_there V2.out rfl) infoHr1 HO.out ?_
            clear hHeld
            refine hK.out _ _ (sGs EX _ _ _) (fun hHeld => ?_)
            clear hK K
            try simp only [Act.put, List.getElem_toArray, List.getElem_cons_zero, List.getElem_cons_succ, List.setIfInBounds_toArray, List.set_cons_zero, List.set_cons_succ]
            refine wpAnyH_done (by kernel_rfl) ?_ _
            exact REST _ EX V2
        · have v9 := V2.out
          obtain ⟨y0, y1, y2, y3, y4, y5⟩ : _ ∧ _ ∧ _ ∧ _ ∧ _ ∧ _ := ⟨v9.cell 0, v9.cell 1, v9.cell 2, v9.cell 3, v9.cell 4, v9.cell 5⟩
          have yz := v9.lt
          simp only [List.getElem?_toArray, List.getElem?_cons_zero, List.getElem?_cons_succ] at y0 y1 y2 y3 y4 y5
          clear v9
          go_simp
          clear hHeld y0 y1 y2 y3 y4 y5 yz
          refine hK.out _ _ (sG EX _) (fun hHeld => ?_)
          clear hK K
          try simp only [Act.put, List.getElem_toArray, List.getElem_cons_zero, List.getElem_cons_succ, List.setIfInBounds_toArray, List.set_cons_zero, List.set_cons_succ]
          refine wpAnyH_ready (rs := [1]) (by kernel_rfl) (by simp) ?_
          refine AllReadyH.cons (o := _) rfl (fun K hK => ?_) AllReadyH.nil
          have v9 := V2.out
          obtain ⟨y0, y1, y2, y3, y4, y5⟩ : _ ∧ _ ∧ _ ∧ _ ∧ _ ∧ _ := ⟨v9.cell 0, v9.cell 1, v9.cell 2, v9.cell 3, v9.cell 4, v9.cell 5⟩
          have yz := v9.lt
          simp only [List.getElem?_toArray, List.getElem?_cons_zero, List.getElem?_cons_succ] at y0 y1 y2 y3 y4 y5
          clear v9
          go_simp
          clear hHeld y0 y1 y2 y3 y4 y5 yz
          refine hK.out _ _ (sG EX _) (fun hHeld => ?_)
          clear hK K
          try simp only [Act.put, List.getElem_toArray, List.getElem_cons_zero, List.getElem_cons_succ, List.setIfInBounds_toArray, List.set_cons_zero, List.set_cons_succ]
          refine wpAnyH_ready (rs := [4]) (by kernel_rfl) (by simp) ?_
          refine AllReadyH.cons (o := _) rfl (fun K hK => ?_) AllReadyH.nil
          go_simp
          refine Calls.mono (C1.out _) ?_
          rintro e X ⟨rfl, hEX⟩
          dsimp only
          replace EX := EX.trans hEX
          replace V2 := hid (V2.out.ext hEX)
          clear hHeld hEX
          refine hK.out _ _ (sG EX _) (fun hHeld => ?_)
          clear hK K
          try simp only [Act.put, List.getElem_toArray, List.getElem_cons_zero, List.getElem_cons_succ, List.setIfInBounds_toArray, List.set_cons_zero, List.set_cons_succ]
          refine wpAnyH_ready (rs := [9]) (by kernel_rfl) (by simp) ?_
          refine AllReadyH.cons (o := _) rfl (fun K hK => ?_) AllReadyH.nil
          go_simp
          refine Calls.mono (C2.out _) ?_
          rintro e X ⟨rfl, hEX⟩
          dsimp only
          replace EX := EX.trans hEX
          replace V2 := hid (V2.out.ext hEX)
          clear hHeld hEX
          refine hK.out _ _ (sG EX _) (fun hHeld => ?_)
          clear hK K
          try simp only [Act.put, List.getElem_toArray, List.getElem_cons_zero, List.getElem_cons_succ, List.setIfInBounds_toArray, List.set_cons_zero, List.set_cons_succ]
          refine wpAnyH_ready (rs := [14]) (by kernel_rfl) (by simp) ?_
          refine AllReadyH.cons (o := _) rfl (fun K hK => ?_) AllReadyH.nil
          go_simp
          refine Calls.mono (C3.out _) ?_
          rintro e X ⟨rfl, hEX⟩
          dsimp only
          replace EX := EX.trans hEX
          replace V2 := hid (V2.out.ext hEX)
          clear hHeld hEX
          refine hK.out _ _ (sG EX _) (fun hHeld => ?_)
          clear hK K
          try simp only [Act.put, List.getElem_toArray, List.getElem_cons_zero, List.getElem_cons_succ, List.setIfInBounds_toArray, List.set_cons_zero, List.set_cons_succ]
          refine wpAnyH_take (i := 15) (oi := _) (v := ?v15k82) rfl (by kernel_rfl) (by kernel_rfl) (by kernel_rfl) (fun _ _ _ h => h) (Or.inl ⟨by rfl, ?y15k82⟩) (by assumption) ?r15k82
          case y15k82 => (intro w' hSw; (try dsimp only at hSw); go_simp; (try with_reducible rfl))
          try simp only [Act.put, List.getElem_toArray, List.getElem_cons_zero, List.getElem_cons_succ, List.setIfInBounds_toArray, List.set_cons_zero, List.set_cons_succ]
          refine wpAnyH_ready (rs := [16]) (by kernel_rfl) (by simp) ?_
          refine AllReadyH.cons (o := _) rfl (fun K hK => ?_) AllReadyH.nil
          refine wp_store_mid 38 _ _ rfl (w.heap.size + 1 + 1) 0 #[.int .i64 m1, .int .i64 m2, .int .i64 m3, .int .i64 m4, .int .i64 m5, .int .i64 m6] rfl rfl (blk_there V2.out rfl) infoHr1 HO.out ?_
          clear hHeld
          refine hK.out _ _ (sGs EX _ _ _) (fun hHeld => ?_)
          clear hK K
          try simp only [Act.put, List.getElem_toArray, List.getElem_cons_zero, List.getElem_cons_succ, List.setIfInBounds_toArray, List.set_cons_zero, List.set_cons_succ]
          refine wpAnyH_done (by kernel_rfl) ?_ _
          exact REST _ EX V2
    · obtain rfl : k = n2 := by omega
      rw [HEN.out k (by rw [HN.out]; exact Nat.le_refl _)] at K2
      clear HST HEN HX HALL HK0
      have HO := hid (hr_one WM)
      unfold hrCells at *
      have R1 := hid (K1.out.fill [.int .i64 WM.wl, .int .i64 WM.wh, .int .i64 WM.rl, .int .i64 WM.rh, .int .i64 WM.tl, .int .i64 WM.th] 0)
      have RX := hid (ext_setCells hE (b := w.heap.size + 1) (by omega) [.int .i64 WM.wl, .int .i64 WM.wh, .int .i64 WM.rl, .int .i64 WM.rh, .int .i64 WM.tl, .int .i64 WM.th] 0)
      simp only [fillA, List.setIfInBounds_toArray, List.set_cons_zero, List.set_cons_succ] at R1
      obtain ⟨y0, y1, y2, y3, y4, y5⟩ : _ ∧ _ ∧ _ ∧ _ ∧ _ ∧ _ := ⟨K2.out.cell 0, K2.out.cell 1, K2.out.cell 2, K2.out.cell 3, K2.out.cell 4, K2.out.cell 5⟩
      have yz := K2.out.lt
      simp only [List.getElem?_toArray, List.getElem?_cons_zero, List.getElem?_cons_succ] at y0 y1 y2 y3 y4 y5
      go_wp2_with (refine wpList_store_mid rfl 38 _ _ rfl (w.heap.size + 1) 0 (#[.int .i64 WM.wl, .int .i64 WM.wh, .int .i64 WM.rl, .int .i64 WM.rh, .int .i64 WM.tl, .int .i64 WM.th]) rfl rfl (blk_there K1.out rfl) infoHr1 HO.out ?_)
      obtain ⟨Z, hZ⟩ : ∃ Z, wr.setCells (w.heap.size + 1) 0 [.int .i64 WM.wl, .int .i64 WM.wh, .int .i64 WM.rl, .int .i64 WM.rh, .int .i64 WM.tl, .int .i64 WM.th] = Z := ⟨_, rfl⟩
      rw [hZ] at R1 RX
      have hZ2 : wr.setCells (w.heap.size + 1) 0 (#[.int .i64 WM.wl, .int .i64 WM.wh, .int .i64 WM.rl, .int .i64 WM.rh, .int .i64 WM.tl, .int .i64 WM.th] : Array Value).toList = Z := hZ
      first | rw [hZ2] | rw [hZ]
      clear hZ hZ2 HO
      obtain ⟨r0, r1, r2, r3, r4, r5⟩ : _ ∧ _ ∧ _ ∧ _ ∧ _ ∧ _ := ⟨R1.out.cell 0, R1.out.cell 1, R1.out.cell 2, R1.out.cell 3, R1.out.cell 4, R1.out.cell 5⟩
      simp only [List.getElem?_toArray, List.getElem?_cons_zero, List.getElem?_cons_succ] at r0 r1 r2 r3 r4 r5
      exact bodyPost_ret (v := .agg #[.int .i64 WM.wl, .int .i64 WM.wh, .int .i64 WM.rl, .int .i64 WM.rh, .int .i64 WM.tl, .int .i64 WM.th]) (by simp [results, Tryd.results46, go_sem, r0, r1, r2, r3, r4, r5]) rfl ⟨rfl, RX.out⟩
end Go.Proofs.YtcpkdnegmblonaaDoor
