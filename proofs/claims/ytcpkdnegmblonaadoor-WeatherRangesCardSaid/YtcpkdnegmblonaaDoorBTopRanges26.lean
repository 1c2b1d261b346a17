/- Range of the specification. -/
import Derived.Test.YtcpkdnegmblonaaDoorBTopRanges24
import Derived.Test.YtcpkdnegmblonaaDoorBTopRanges25
set_option linter.unusedSimpArgs false
set_option linter.unusedVariables false
namespace Go.Proofs.YtcpkdnegmblonaaDoor
open Go.RowKit
theorem scs_nums (seen : List Sg) (f : List (List Hr)) : scsM seen f = (numsN seen f).map (fun i => obsM seen (f.getD i [])) := by
  have h : ∀ k, k ≤ f.length → scsK seen f k = ((List.range k).filter fun i => allowB seen (f.getD i [])).map (fun i => obsM seen (f.getD i [])) := by
    intro k
    induction k with
    | zero => intro _; rfl
    | succ k ih =>
      intro hk
      rw [scsK_step seen f k (by omega), ih (by omega), List.range_succ, List.filter_append, List.map_append]
      have hf1 : List.filter (fun i => allowB seen (f.getD i [])) [k] = if allowB seen (f.getD k []) = true then [k] else [] := by simp only [List.filter_cons, List.filter_nil]
      rw [hf1]
      cases hb : allowB seen (f.getD k [])
      · simp
      · simp
  have h2 := h f.length (Nat.le_refl _)
  unfold scsK at h2
  rw [List.take_of_length_le (Nat.le_refl _)] at h2
  exact h2
theorem scs_at (seen : List Sg) (f : List (List Hr)) (k : Nat) (hk : k < (numsN seen f).length) : (scsM seen f).getD k [] = obsM seen (f.getD ((numsN seen f).getD k 0) []) := by
  rw [scs_nums]
  simp [List.getD, List.getElem?_eq_getElem hk]
set_option maxHeartbeats 8000000 in
set_option maxRecDepth 100000 in
theorem rrange_any (f : List (List Hr)) (A : Option Addr) (n c : Nat) (seen : List Sg) (SA : Option Addr) (m sc : Nat) (hr : Int) (w : World) (h : FIn w f A n seen SA m) :
    Calls Tryd.prog 16 #[.agg #[.slice A n c], .slice SA m sc, .int .i64 hr] w fun e w' => e = .returned (.tuple #[(rngV f seen hr).val, .int .i64 (rngE f seen hr)]) ∧ Ext w w' := by
  have HC := hid (fun (W : World) (hW : Ext w W) => rSeen_any f A n c seen SA m sc W (h.ext hW))
  have hN := h.hours
  have B0 := hid (show Blk _ _ _ _ from blk_old (blk_last w (.cells #[.slice A n c] 24)) (.cells #[.int .i64 0, .int .i64 0, .int .i64 0, .int .i64 0, .int .i64 0, .int .i64 0] 38))
  have B1 := hid (show Blk _ _ _ _ from blk_last (w.alloc (.cells #[.slice A n c] 24)) (.cells #[.int .i64 0, .int .i64 0, .int .i64 0, .int .i64 0, .int .i64 0, .int .i64 0] 38))
  rw [World.size_alloc] at B1
  have hpE : rngE f seen hr = if seenE f seen = 0 then (if hrE f hr = 0 then (if numsM seen f = [] then 3 else 0) else hrE f hr) else seenE f seen := by
    have h1 : orM [fcE f, sgE f seen, hrE f hr] = if seenE f seen = 0 then hrE f hr else seenE f seen := by
      rw [← orM_seen]
      unfold orM
      by_cases a : fcE f = 0
      · rw [if_pos a, if_pos a]
        unfold orM
        by_cases b : sgE f seen = 0
        · rw [if_pos b, if_pos b]
          unfold orM
          by_cases c : hrE f hr = 0
          · rw [if_pos c, c] <;> rfl
          · rw [if_neg c]; simp [b]
        · rw [if_neg b, if_neg b, if_neg b]
      · rw [if_neg a, if_neg a, if_neg a]
    unfold rngE begM
    rw [h1]
    by_cases a : seenE f seen = 0
    · by_cases b : hrE f hr = 0 <;> simp [a, b]
    · simp [a]
  have hrn : rngE f seen hr ≠ 0 → rngV f seen hr = zeroHr := fun h0 => if_neg h0
  by_cases hz : seenE f seen = 0
  case neg =>
    rw [if_neg hz] at hpE
    have hv := hrn (by rw [hpE]; exact hz)
    rw [hv, hpE]
    clear h hpE hv hrn hN
    generalize seenE f seen = se at *
    have hsb : (se != 0) = true := by simp [hz]
    clear hz
    go_enter Tryd.func16, Tryd.ntmps16
    go_wp2_with fail
    refine (HC.out _ (by (repeat' (first | with_reducible assumption | with_reducible exact Ext.refl _ | with_reducible refine Ext.alloc ?_ _ | with_reducible refine Ext.set ?_ ?_ _ | with_reducible refine Ext.drew ?_ | with_reducible refine Ext.drewN ?_ _ | with_reducible refine Ext.trans ?_ (by assumption) | (dsimp only; omega))))).mono ?_
    rintro e w2 ⟨rfl, hE⟩
    have E2 : Ext w w2 := by (repeat' (first | with_reducible assumption | with_reducible exact Ext.refl _ | with_reducible refine Ext.alloc ?_ _ | with_reducible refine Ext.set ?_ ?_ _ | with_reducible refine Ext.drew ?_ | with_reducible refine Ext.drewN ?_ _ | with_reducible refine Ext.trans ?_ (by assumption) | (dsimp only; omega)))
    have M2 := hid (show Blk w2 (w.heap.size + 1) 38 #[.int .i64 0, .int .i64 0, .int .i64 0, .int .i64 0, .int .i64 0, .int .i64 0] from B1.out.ext hE)
    clear hE B0 B1 HC
    have R1 := hid (M2.out.fill [.int .i64 0, .int .i64 0, .int .i64 0, .int .i64 0, .int .i64 0, .int .i64 0] 0)
    have RX := hid (ext_setCells E2 (b := w.heap.size + 1) (by omega) [.int .i64 0, .int .i64 0, .int .i64 0, .int .i64 0, .int .i64 0, .int .i64 0] 0)
    simp only [fillA, List.setIfInBounds_toArray, List.set_cons_zero, List.set_cons_succ] at R1
    have HO := hid (hr_one ⟨0, 0, 0, 0, 0, 0⟩)
    unfold hrCells at HO
    dsimp only at HO
    have mz := M2.out.lt
    go_wp2_with (refine wpList_store_mid rfl 38 _ _ rfl (w.heap.size + 1) 0 (#[.int .i64 0, .int .i64 0, .int .i64 0, .int .i64 0, .int .i64 0, .int .i64 0]) rfl rfl (blk_there M2.out rfl) infoHr1 HO.out ?_)
    obtain ⟨Z, hZ⟩ : ∃ Z, World.setCells w2 (w.heap.size + 1) 0 [.int .i64 0, .int .i64 0, .int .i64 0, .int .i64 0, .int .i64 0, .int .i64 0] = Z := ⟨_, rfl⟩
    rw [hZ] at R1 RX
    have hZ2 : World.setCells w2 (w.heap.size + 1) 0 (#[.int .i64 0, .int .i64 0, .int .i64 0, .int .i64 0, .int .i64 0, .int .i64 0] : Array Value).toList = Z := hZ
    first | rw [hZ2] | rw [hZ]
    clear hZ hZ2 HO
    obtain ⟨r0, r1, r2, r3, r4, r5⟩ : _ ∧ _ ∧ _ ∧ _ ∧ _ ∧ _ := ⟨R1.out.cell 0, R1.out.cell 1, R1.out.cell 2, R1.out.cell 3, R1.out.cell 4, R1.out.cell 5⟩
    simp only [List.getElem?_toArray, List.getElem?_cons_zero, List.getElem?_cons_succ] at r0 r1 r2 r3 r4 r5
    exact bodyPost_ret (v := .tuple #[.agg #[.int .i64 0, .int .i64 0, .int .i64 0, .int .i64 0, .int .i64 0, .int .i64 0], .int .i64 se]) (by simp [results, Tryd.results16, go_sem, r0, r1, r2, r3, r4, r5]) rfl ⟨rfl, RX.out⟩
  rw [if_pos hz] at hpE
  rw [hz] at HC
  have ok := seenE_ok hz
  have hfc := fcE_ok ok.1
  have hsg := sgE_ok ok.2
  have hn0 : 0 < n := by
    have := (fc_ok hfc).2.1
    have := h.hn
    omega
  have HI := hid (fun (W : World) (hW : Ext w W) => rIsHour_any A n c f h.hn hn0 (by omega) hr W (h.sc.ext hW))
  cases hb : inI hr 0 ((hoursN f : Int) - 1)
  case false =>
    have he : hrE f hr = 1 := by unfold hrE; rw [hb]; rfl
    rw [he, if_neg (by decide)] at hpE
    have hv := hrn (by rw [hpE]; decide)
    rw [hv, hpE]
    rw [hb] at HI
    clear h hpE hv hrn hN hfc hsg ok hz he hb
    go_enter Tryd.func16, Tryd.ntmps16
    go_wp2_with fail
    refine (HC.out _ (by (repeat' (first | with_reducible assumption | with_reducible exact Ext.refl _ | with_reducible refine Ext.alloc ?_ _ | with_reducible refine Ext.set ?_ ?_ _ | with_reducible refine Ext.drew ?_ | with_reducible refine Ext.drewN ?_ _ | with_reducible refine Ext.trans ?_ (by assumption) | (dsimp only; omega))))).mono ?_
    rintro e w2 ⟨rfl, hE⟩
    have E2 : Ext w w2 := by (repeat' (first | with_reducible assumption | with_reducible exact Ext.refl _ | with_reducible refine Ext.alloc ?_ _ | with_reducible refine Ext.set ?_ ?_ _ | with_reducible refine Ext.drew ?_ | with_reducible refine Ext.drewN ?_ _ | with_reducible refine Ext.trans ?_ (by assumption) | (dsimp only; omega)))
    have K2 := hid (show Blk w2 w.heap.size 24 #[.slice A n c] from B0.out.ext hE)
    have M1 := hid (show Blk w2 (w.heap.size + 1) 38 #[.int .i64 0, .int .i64 0, .int .i64 0, .int .i64 0, .int .i64 0, .int .i64 0] from B1.out.ext hE)
    have a0 := K2.out.cell 0
    have z0 := K2.out.lt
    simp only [List.getElem?_toArray, List.getElem?_cons_zero] at a0
    clear hE B0 B1 HC
    go_wp2_with fail
    refine (HI.out _ E2).mono ?_
    rintro e w3 ⟨rfl, hE⟩
    have M2 := hid (show Blk w3 (w.heap.size + 1) 38 #[.int .i64 0, .int .i64 0, .int .i64 0, .int .i64 0, .int .i64 0, .int .i64 0] from M1.out.ext hE)
    replace E2 := E2.trans hE
    clear hE HI K2 M1 a0 z0
    have R1 := hid (M2.out.fill [.int .i64 0, .int .i64 0, .int .i64 0, .int .i64 0, .int .i64 0, .int .i64 0] 0)
    have RX := hid (ext_setCells E2 (b := w.heap.size + 1) (by omega) [.int .i64 0, .int .i64 0, .int .i64 0, .int .i64 0, .int .i64 0, .int .i64 0] 0)
    simp only [fillA, List.setIfInBounds_toArray, List.set_cons_zero, List.set_cons_succ] at R1
    have HO := hid (hr_one ⟨0, 0, 0, 0, 0, 0⟩)
    unfold hrCells at HO
    dsimp only at HO
    have mz := M2.out.lt
    go_wp2_with (refine wpList_store_mid rfl 38 _ _ rfl (w.heap.size + 1) 0 (#[.int .i64 0, .int .i64 0, .int .i64 0, .int .i64 0, .int .i64 0, .int .i64 0]) rfl rfl (blk_there M2.out rfl) infoHr1 HO.out ?_)
    obtain ⟨Z, hZ⟩ : ∃ Z, World.setCells w3 (w.heap.size + 1) 0 [.int .i64 0, .int .i64 0, .int .i64 0, .int .i64 0, .int .i64 0, .int .i64 0] = Z := ⟨_, rfl⟩
    rw [hZ] at R1 RX
    have hZ2 : World.setCells w3 (w.heap.size + 1) 0 (#[.int .i64 0, .int .i64 0, .int .i64 0, .int .i64 0, .int .i64 0, .int .i64 0] : Array Value).toList = Z := hZ
    first | rw [hZ2] | rw [hZ]
    clear hZ hZ2 HO
    obtain ⟨r0, r1, r2, r3, r4, r5⟩ : _ ∧ _ ∧ _ ∧ _ ∧ _ ∧ _ := ⟨R1.out.cell 0, R1.out.cell 1, R1.out.cell 2, R1.out.cell 3, R1.out.cell 4, R1.out.cell 5⟩
    simp only [List.getElem?_toArray, List.getElem?_cons_zero, List.getElem?_cons_succ] at r0 r1 r2 r3 r4 r5
    exact bodyPost_ret (v := .tuple #[.agg #[.int .i64 0, .int .i64 0, .int .i64 0, .int .i64 0, .int .i64 0, .int .i64 0], .int .i64 1]) (by simp [results, Tryd.results16, go_sem, r0, r1, r2, r3, r4, r5]) rfl ⟨rfl, RX.out⟩
  have he : hrE f hr = 0 := by unfold hrE; rw [hb]; rfl
  rw [if_pos he] at hpE
  rw [hb] at HI
  have HP := hid (fun (W : World) (hW : Ext w W) => rpossible_any f A n c seen SA m sc W (h.ext hW) hfc hsg)
  by_cases hne : numsM seen f = []
  · rw [if_pos hne] at hpE
    have hv := hrn (by rw [hpE]; decide)
    rw [hv, hpE]
    rw [hne] at HP
    clear h hpE hv hrn hN hfc hsg ok hz he hb hne
    simp only [List.length_nil] at HP
    go_enter Tryd.func16, Tryd.ntmps16
    go_wp2_with fail
    refine (HC.out _ (by (repeat' (first | with_reducible assumption | with_reducible exact Ext.refl _ | with_reducible refine Ext.alloc ?_ _ | with_reducible refine Ext.set ?_ ?_ _ | with_reducible refine Ext.drew ?_ | with_reducible refine Ext.drewN ?_ _ | with_reducible refine Ext.trans ?_ (by assumption) | (dsimp only; omega))))).mono ?_
    rintro e w2 ⟨rfl, hE⟩
    have E2 : Ext w w2 := by (repeat' (first | with_reducible assumption | with_reducible exact Ext.refl _ | with_reducible refine Ext.alloc ?_ _ | with_reducible refine Ext.set ?_ ?_ _ | with_reducible refine Ext.drew ?_ | with_reducible refine Ext.drewN ?_ _ | with_reducible refine Ext.trans ?_ (by assumption) | (dsimp only; omega)))
    have K2 := hid (show Blk w2 w.heap.size 24 #[.slice A n c] from B0.out.ext hE)
    have M1 := hid (show Blk w2 (w.heap.size + 1) 38 #[.int .i64 0, .int .i64 0, .int .i64 0, .int .i64 0, .int .i64 0, .int .i64 0] from B1.out.ext hE)
    have a0 := K2.out.cell 0
    have z0 := K2.out.lt
    have z1 := M1.out.lt
    simp only [List.getElem?_toArray, List.getElem?_cons_zero] at a0
    clear hE B0 B1 HC
    go_wp2_with fail
    refine (HI.out _ E2).mono ?_
    rintro e w3 ⟨rfl, hE⟩
    replace E2 := E2.trans hE
    clear HI
    replace K2 := hid (show Blk w3 w.heap.size 24 #[.slice A n c] from K2.out.ext hE)
    replace M1 := hid (show Blk w3 (w.heap.size + 1) 38 #[.int .i64 0, .int .i64 0, .int .i64 0, .int .i64 0, .int .i64 0, .int .i64 0] from M1.out.ext hE)
    clear hE a0 z0 z1
    have a0 := K2.out.cell 0
    have z0 := K2.out.lt
    have z1 := M1.out.lt
    simp only [List.getElem?_toArray, List.getElem?_cons_zero] at a0
    go_wp2_with fail
    refine (HP.out _ E2).mono ?_
    rintro e w4 ⟨LA, lc, rfl, ho, hE⟩
    replace E2 := E2.trans hE
    have M2 := hid (show Blk w4 (w.heap.size + 1) 38 #[.int .i64 0, .int .i64 0, .int .i64 0, .int .i64 0, .int .i64 0, .int .i64 0] from M1.out.ext hE)
    clear hE HP K2 M1 a0 z0 ho
    have R1 := hid (M2.out.fill [.int .i64 0, .int .i64 0, .int .i64 0, .int .i64 0, .int .i64 0, .int .i64 0] 0)
    have RX := hid (ext_setCells E2 (b := w.heap.size + 1) (by omega) [.int .i64 0, .int .i64 0, .int .i64 0, .int .i64 0, .int .i64 0, .int .i64 0] 0)
    simp only [fillA, List.setIfInBounds_toArray, List.set_cons_zero, List.set_cons_succ] at R1
    have HO := hid (hr_one ⟨0, 0, 0, 0, 0, 0⟩)
    unfold hrCells at HO
    dsimp only at HO
    have mz := M2.out.lt
    go_wp2_with (refine wpList_store_mid rfl 38 _ _ rfl (w.heap.size + 1) 0 (#[.int .i64 0, .int .i64 0, .int .i64 0, .int .i64 0, .int .i64 0, .int .i64 0]) rfl rfl (blk_there M2.out rfl) infoHr1 HO.out ?_)
    obtain ⟨Z, hZ⟩ : ∃ Z, World.setCells w4 (w.heap.size + 1) 0 [.int .i64 0, .int .i64 0, .int .i64 0, .int .i64 0, .int .i64 0, .int .i64 0] = Z := ⟨_, rfl⟩
    rw [hZ] at R1 RX
    have hZ2 : World.setCells w4 (w.heap.size + 1) 0 (#[.int .i64 0, .int .i64 0, .int .i64 0, .int .i64 0, .int .i64 0, .int .i64 0] : Array Value).toList = Z := hZ
    first | rw [hZ2] | rw [hZ]
    clear hZ hZ2 HO
    obtain ⟨r0, r1, r2, r3, r4, r5⟩ : _ ∧ _ ∧ _ ∧ _ ∧ _ ∧ _ := ⟨R1.out.cell 0, R1.out.cell 1, R1.out.cell 2, R1.out.cell 3, R1.out.cell 4, R1.out.cell 5⟩
    simp only [List.getElem?_toArray, List.getElem?_cons_zero, List.getElem?_cons_succ] at r0 r1 r2 r3 r4 r5
    exact bodyPost_ret (v := .tuple #[.agg #[.int .i64 0, .int .i64 0, .int .i64 0, .int .i64 0, .int .i64 0, .int .i64 0], .int .i64 3]) (by simp [results, Tryd.results16, go_sem, r0, r1, r2, r3, r4, r5]) rfl ⟨rfl, RX.out⟩
  · rw [if_neg hne] at hpE
    obtain ⟨hk, rfl⟩ : ∃ hk : Nat, hr = hk := ⟨hr.toNat, by unfold inI at hb; simp only [Bool.and_eq_true, decide_eq_true_eq] at hb; omega⟩
    have hkN : hk < hoursN f := by unfold inI at hb; simp only [Bool.and_eq_true, decide_eq_true_eq] at hb; omega
    have hv : rngV f seen hk = wholeM (scsM seen f) hk := by unfold rngV; rw [if_pos hpE, Int.toNat_natCast]
    rw [hv, hpE]
    have hNM := numsM_N seen f
    have hnl : (numsN seen f).length = (scsM seen f).length := by rw [scs_nums, List.length_map]
    have hnM : (numsM seen f).length = (scsM seen f).length := numsM_scs seen f
    have hpos : 0 < (scsM seen f).length := by rw [← hnM]; exact List.length_pos_iff.2 hne
    have hsl := scsM_le seen f
    have hfn := h.hn
    have hfm := h.hm
    have HAT := hid (fun k (hk2 : k < (scsM seen f).length) (W : World) (hW : Ext w W) => (show Calls Tryd.prog 48 #[.agg #[.slice A n c], .slice SA m sc, .int .i64 ((numsN seen f).getD k 0 : Nat), .int .i64 (hk : Int)] W fun e w' => e = .returned (((scsM seen f).getD k []).getD hk zeroHr).val ∧ Ext W w' from by
      rw [scs_at seen f k (by omega)]
      exact rAt_any f A n c seen SA m sc _ hk W (h.ext hW) hfc hsg (by rw [← h.hn]; exact numsN_lt (mem_at (numsN seen f) 0 k (by omega))) hkN))
    have HNX := hid (fun k (hk2 : k < (scsM seen f).length) => (show (numsM seen f).getD k 0 = ((numsN seen f).getD k 0 : Nat) from by
      rw [hNM]; simp [List.getD, List.getElem?_eq_getElem (show k < (numsN seen f).length by omega)]))
    have HST := hid (wholeK_step (scsM seen f) hk)
    have HEN := hid (wholeK_end (scsM seen f) hk _ (Nat.le_refl _))
    have HK0 := hid (show wholeK (scsM seen f) hk 0 = ((scsM seen f).getD 0 []).getD hk zeroHr by unfold wholeK; cases scsM seen f <;> rfl)
    have HHU := hid (fun a b c d W => rHull_any a b c d W)
    have HNMl := hid hnM
    rw [hnM] at HP
    clear h hpE hv hrn hfc hsg ok hz he hb hne hNM hnl hnM
    generalize scsM seen f = ss at *
    generalize numsM seen f = NM at *
    generalize numsN seen f = NN at *
    generalize wholeM ss hk = WM at *
    have HSS := hid (show ∃ n2, ss.length = n2 from ⟨_, rfl⟩)
    obtain ⟨n2, hn2⟩ := HSS.out
    rw [hn2] at HP HAT HNX HEN HNMl hpos hsl
    have HN2 := hid hn2
    clear hn2 HSS
    have hq : ((n2 : Int) == 0) = false := by simp; omega
    go_enter Tryd.func16, Tryd.ntmps16
    go_wp2_with fail
    refine (HC.out _ (by (repeat' (first | with_reducible assumption | with_reducible exact Ext.refl _ | with_reducible refine Ext.alloc ?_ _ | with_reducible refine Ext.set ?_ ?_ _ | with_reducible refine Ext.drew ?_ | with_reducible refine Ext.drewN ?_ _ | with_reducible refine Ext.trans ?_ (by assumption) | (dsimp only; omega))))).mono ?_
    rintro e w2 ⟨rfl, hE⟩
    have E2 : Ext w w2 := by (repeat' (first | with_reducible assumption | with_reducible exact Ext.refl _ | with_reducible refine Ext.alloc ?_ _ | with_reducible refine Ext.set ?_ ?_ _ | with_reducible refine Ext.drew ?_ | with_reducible refine Ext.drewN ?_ _ | with_reducible refine Ext.trans ?_ (by assumption) | (dsimp only; omega)))
    have K2 := hid (show Blk w2 w.heap.size 24 #[.slice A n c] from B0.out.ext hE)
    have M1 := hid (show Blk w2 (w.heap.size + 1) 38 #[.int .i64 0, .int .i64 0, .int .i64 0, .int .i64 0, .int .i64 0, .int .i64 0] from B1.out.ext hE)
    have a0 := K2.out.cell 0
    have z0 := K2.out.lt
    have z1 := M1.out.lt
    simp only [List.getElem?_toArray, List.getElem?_cons_zero] at a0
    clear hE B0 B1 HC
    go_wp2_with fail
    refine (HI.out _ E2).mono ?_
    rintro e w3 ⟨rfl, hE⟩
    replace E2 := E2.trans hE
    clear HI
    replace K2 := hid (show Blk w3 w.heap.size 24 #[.slice A n c] from K2.out.ext hE)
    replace M1 := hid (show Blk w3 (w.heap.size + 1) 38 #[.int .i64 0, .int .i64 0, .int .i64 0, .int .i64 0, .int .i64 0, .int .i64 0] from M1.out.ext hE)
    clear hE a0 z0 z1
    have a0 := K2.out.cell 0
    have z0 := K2.out.lt
    have z1 := M1.out.lt
    simp only [List.getElem?_toArray, List.getElem?_cons_zero] at a0
    go_wp2_with fail
    refine (HP.out _ E2).mono ?_
    rintro e w4 ⟨LA, lc, rfl, ho, hE⟩
    replace E2 := E2.trans hE
    obtain ⟨A3, c3, e3, -, hfl, -⟩ := (ho.form (by decide) (fun _ => rfl) 0)
    rw [HNMl.out] at e3
    injection e3 with e3 e4 e5
    subst e3 e5
    have HLI := hid (flat_ints.1 hfl)
    clear ho hfl e4 HP
    replace K2 := hid (show Blk w4 w.heap.size 24 #[.slice A n c] from K2.out.ext hE)
    replace M1 := hid (show Blk w4 (w.heap.size + 1) 38 #[.int .i64 0, .int .i64 0, .int .i64 0, .int .i64 0, .int .i64 0, .int .i64 0] from M1.out.ext hE)
    clear hE a0 z0 z1
    have a0 := K2.out.cell 0
    have z0 := K2.out.lt
    have z1 := M1.out.lt
    simp only [List.getElem?_toArray, List.getElem?_cons_zero] at a0
    go_wp2_with fail
    have hpos1 : 0 < n2 := hpos
    have HZ14 := hid z1
    have l0 := (HLI.out.at1 HNMl.out hpos1)
    obtain ⟨lb, loff, rfl, hlb, l0⟩ := l0
    rw [HNX.out 0 hpos1] at l0
    rw [Nat.add_zero] at l0
    have HA0 := hid (HAT.out 0 hpos1)
    rw [← HK0.out] at HA0
    generalize NN.getD 0 0 = x0 at *
    have HO9 := hid (hr_one (wholeK ss hk 0))
    unfold hrCells at HO9
    generalize hw0 : wholeK ss hk 0 = wk0 at *
    unfold Hr.val at HA0
    have HEW := hid E2
    refine region_restA (fun QQ a => ∀ (X : World) (ob : Nat) (u32 u33 u34 u35 u36 u37 u38 : Value), Ext w4 X → w4.heap.size ≤ ob → Hid (Blk X ob 38 #[.int .i64 wk0.wl, .int .i64 wk0.wh, .int .i64 wk0.rl, .int .i64 wk0.rh, .int .i64 wk0.tl, .int .i64 wk0.th]) → QQ .normal ((((((((a.put (some 32) u32).put (some 33) u33).put (some 34) u34).put (some 35) u35).put (some 36) u36).put (some 37) u37).put (some 38) u38).put (some 10) (.pointer (some ⟨ob, 0, none⟩))) X) ?rst (fun REST => ?_)
    case rst =>
      intro X ob u32 u33 u34 u35 u36 u37 u38 hE hob OB
      simp only [Act.put, List.getElem_toArray, List.getElem_cons_zero, List.getElem_cons_succ, List.setIfInBounds_toArray, List.set_cons_zero, List.set_cons_succ]
      have E4 := hE
      replace E2 := E2.trans hE
      replace K2 := hid (show Blk X w.heap.size 24 #[.slice A n c] from K2.out.ext hE)
      replace M1 := hid (show Blk X (w.heap.size + 1) 38 #[.int .i64 0, .int .i64 0, .int .i64 0, .int .i64 0, .int .i64 0, .int .i64 0] from M1.out.ext hE)
      clear hE a0 z0 z1
      have a0 := K2.out.cell 0
      have z0 := K2.out.lt
      have z1 := M1.out.lt
      simp only [List.getElem?_toArray, List.getElem?_cons_zero] at a0
      clear HA0 l0 HEW
      rw [← hw0] at OB
      clear hw0 HO9
      have HOB0 := hid (show w4.heap.size ≤ ob from hob)
      have hwo : w.heap.size + 1 < ob := by have := HZ14.out; omega
      clear hob
      go_wp2
      go_loopw [11] (fun i wr => Ext w wr ∧ Ext w4 wr ∧ Hid (Blk wr w.heap.size 24 #[.slice A n c]) ∧ Hid (Blk wr (w.heap.size + 1) 38 #[.int .i64 0, .int .i64 0, .int .i64 0, .int .i64 0, .int .i64 0, .int .i64 0]) ∧ ∃ k : Nat, k ≤ n2 ∧ i = .int .i64 k ∧ Hid (Blk wr ob 38 (hrCells (wholeK ss hk k)))) (fun i _ => n2 - (intOf i).toNat)
      case atStart => exact ⟨E2, E4, K2, M1, 0, Nat.zero_le _, rfl, OB⟩
      case round =>
        clear E2 E4 K2 M1 OB a0 z0 z1
        obtain ⟨E2, E4, K2, M1, k, hk2, rfl, OB⟩ := hrel
        have a0 := K2.out.cell 0
        have z0 := K2.out.lt
        have z1 := M1.out.lt
        simp only [List.getElem?_toArray, List.getElem?_cons_zero] at a0
        by_cases hlt : k < n2
        · obtain ⟨lb', loff', hA, -, l0⟩ := HLI.out.at1 HNMl.out hlt
          cases hA
          rw [HNX.out k hlt] at l0
          replace l0 := (E4.cell (p := ⟨lb, _, none⟩) hlb).trans l0
          have qlb := Nat.lt_of_lt_of_le hlb E4.size
          have HA1 := hid (HAT.out k hlt)
          have HS1 := hid (HST.out k (by rw [HN2.out]; exact hlt))
          generalize NN.getD k 0 = xk at *
          generalize (ss.getD k []).getD hk zeroHr = hz at *
          generalize wholeK ss hk k = acc at *
          have HO9 := hid (hr_one hz)
          unfold hrCells at HO9 OB
          unfold Hr.val at HA1
          have HNEXT := hid (show hullM acc hz = hullM acc hz from rfl)
          clear HAT HNX HLI HEN HK0
          go_wp2_with fail
          refine region_restA (fun QQ a => ∀ (X : World) (ob2 : Nat) (u45 u46 u47 u48 u49 u50 u51 u52 : Value), Ext wr X → wr.heap.size ≤ ob2 → Hid (Blk X ob2 38 #[.int .i64 hz.wl, .int .i64 hz.wh, .int .i64 hz.rl, .int .i64 hz.rh, .int .i64 hz.tl, .int .i64 hz.th]) → QQ .normal (((((((((a.put (some 45) u45).put (some 46) u46).put (some 47) u47).put (some 48) u48).put (some 49) u49).put (some 50) u50).put (some 51) u51).put (some 52) u52).put (some 12) (.pointer (some ⟨ob2, 0, none⟩))) X) ?rs2 (fun REST => ?_)
          case rs2 =>
            intro U ob2 u45 u46 u47 u48 u49 u50 u51 u52 hEU hob2 HZ
            simp only [Act.put, List.getElem_toArray, List.getElem_cons_zero, List.getElem_cons_succ, List.setIfInBounds_toArray, List.set_cons_zero, List.set_cons_succ]
            have C1 := hid (HHU.out acc.wl acc.wh hz.wl hz.wh)
            have C2 := hid (HHU.out acc.rl acc.rh hz.rl hz.rh)
            have C3 := hid (HHU.out acc.tl acc.th hz.tl hz.th)
            have HO := hid (hr_one (hullM acc hz))
            unfold hrCells hullM at HO
            unfold hullM at HS1
            dsimp only at HO
            generalize min acc.wl hz.wl = m1 at *
            generalize max acc.wh hz.wh = m2 at *
            generalize min acc.rl hz.rl = m3 at *
            generalize max acc.rh hz.rh = m4 at *
            generalize min acc.tl hz.tl = m5 at *
            generalize max acc.th hz.th = m6 at *
            obtain ⟨x0, x1, x2, x3, x4, x5⟩ : _ ∧ _ ∧ _ ∧ _ ∧ _ ∧ _ := ⟨HZ.out.cell 0, HZ.out.cell 1, HZ.out.cell 2, HZ.out.cell 3, HZ.out.cell 4, HZ.out.cell 5⟩
            have xz := HZ.out.lt
            simp only [List.getElem?_toArray, List.getElem?_cons_zero, List.getElem?_cons_succ] at x0 x1 x2 x3 x4 x5
            have obl := OB.out.lt
            have nG : ¬ ob2 = ob := by omega
            have V2 := hid (show Blk U ob 38 #[.int .i64 acc.wl, .int .i64 acc.wh, .int .i64 acc.rl, .int .i64 acc.rh, .int .i64 acc.tl, .int .i64 acc.th] from OB.out.ext hEU)
            have KU := hid (show Blk U w.heap.size 24 #[.slice A n c] from K2.out.ext hEU)
            have MU := hid (show Blk U (w.heap.size + 1) 38 #[.int .i64 0, .int .i64 0, .int .i64 0, .int .i64 0, .int .i64 0, .int .i64 0] from M1.out.ext hEU)
            have HE2 := hid (E2.trans hEU)
            have HE4 := hid (E4.trans hEU)
            clear OB K2 M1 E2 E4 HZ a0 z0 z1 l0 qlb HA1 hEU HHU HO9 obl hob2
            go_wp2_with fail
            refine region_restA (fun QQ a => ∀ (X : World) (u53 u54 u55 u56 u57 u58 u59 u60 u61 u62 u63 u64 u65 u66 u67 u68 : Value), Ext U X → Hid (Blk X ob 38 #[.int .i64 acc.wl, .int .i64 acc.wh, .int .i64 acc.rl, .int .i64 acc.rh, .int .i64 acc.tl, .int .i64 acc.th]) → QQ .normal ((((((((((((((((a.put (some 53) u53).put (some 54) u54).put (some 55) u55).put (some 56) u56).put (some 57) u57).put (some 58) u58).put (some 59) u59).put (some 60) u60).put (some 61) u61).put (some 62) u62).put (some 63) u63).put (some 64) u64).put (some 65) u65).put (some 66) u66).put (some 67) u67).put (some 68) u68) (X.setCells ob 0 [.int .i64 m1, .int .i64 m2, .int .i64 m3, .int .i64 m4, .int .i64 m5, .int .i64 m6])) ?rs3 (fun REST => ?_)
            case rs3 =>
              intro X u53 u54 u55 u56 u57 u58 u59 u60 u61 u62 u63 u64 u65 u66 u67 u68 hUX V3
              simp only [Act.put, List.getElem_toArray, List.getElem_cons_zero, List.getElem_cons_succ, List.setIfInBounds_toArray, List.set_cons_zero, List.set_cons_succ]
              have R2 := hid (V3.out.fill [.int .i64 m1, .int .i64 m2, .int .i64 m3, .int .i64 m4, .int .i64 m5, .int .i64 m6] 0)
              have R1 := hid ((KU.out.ext hUX).grown (grown_setCells (b := ob) [.int .i64 m1, .int .i64 m2, .int .i64 m3, .int .i64 m4, .int .i64 m5, .int .i64 m6] 0) (by intro e; injection e with e; omega))
              have R3 := hid ((MU.out.ext hUX).grown (grown_setCells (b := ob) [.int .i64 m1, .int .i64 m2, .int .i64 m3, .int .i64 m4, .int .i64 m5, .int .i64 m6] 0) (by intro e; injection e with e; omega))
              have RX := hid (ext_setCells (HE2.out.trans hUX) (b := ob) (by omega) [.int .i64 m1, .int .i64 m2, .int .i64 m3, .int .i64 m4, .int .i64 m5, .int .i64 m6] 0)
              have RY := hid (ext_setCells (HE4.out.trans hUX) (b := ob) HOB0.out [.int .i64 m1, .int .i64 m2, .int .i64 m3, .int .i64 m4, .int .i64 m5, .int .i64 m6] 0)
              simp only [fillA, List.setIfInBounds_toArray, List.set_cons_zero, List.set_cons_succ] at R2
              obtain ⟨Z, hZ⟩ : ∃ Z, X.setCells ob 0 [.int .i64 m1, .int .i64 m2, .int .i64 m3, .int .i64 m4, .int .i64 m5, .int .i64 m6] = Z := ⟨_, rfl⟩
              rw [hZ] at R1 R2 R3 RX RY ⊢
              clear hZ hUX V3 C1 C2 C3 HO HE2 HE4 KU MU V2 x0 x1 x2 x3 x4 x5 xz nG
              go_wp2
              go_roundw
              case rel => exact ⟨RX.out, RY.out, R1, R3, k + 1, by omega, by go_num, hid (by rw [HS1.out]; exact R2.out)⟩
              case measure => simp [intOf]; omega
            simp only [Act.put, List.getElem_toArray, List.getElem_cons_zero, List.getElem_cons_succ, List.setIfInBounds_toArray, List.set_cons_zero, List.set_cons_succ] at REST
            clear KU MU HE2 HE4 HS1
            refine wp_region_held_drew (S := fun w' => (∀ b o, b < U.heap.size → ¬ b = ob → w'.cell? ⟨b, o, none⟩ = U.cell? ⟨b, o, none⟩) ∧ U.heap.size ≤ w'.heap.size) (by kernel_rfl) ?hS0 (fun hHeld => ?_)
            case hS0 => exact sG (Ext.drew (Ext.refl _)) _
            have EX : Ext U U.drew := Ext.drew (Ext.refl U)
            replace V2 := hid (V2.out.ext EX)
            obtain ⟨X, hX⟩ : ∃ X, U.drew = X := ⟨_, rfl⟩
            rw [hX] at EX hHeld V2 ⊢
            clear hX
            refine wpAnyH_take (i := 0) (oi := _) (v := ?v0ta) rfl (by kernel_rfl) (by kernel_rfl) (by kernel_rfl) (fun _ _ _ h => h) (Or.inl ⟨by rfl, ?y0ta⟩) (by assumption) ?r0ta
            case y0ta => (intro w' hSw; (try dsimp only at hSw); go_simp; (try with_reducible rfl))
            try simp only [Act.put, List.getElem_toArray, List.getElem_cons_zero, List.getElem_cons_succ, List.setIfInBounds_toArray, List.set_cons_zero, List.set_cons_succ]
            refine wpAnyH_take (i := 2) (oi := _) (v := ?v2ta) rfl (by kernel_rfl) (by kernel_rfl) (by kernel_rfl) (fun _ _ _ h => h) (Or.inl ⟨by rfl, ?y2ta⟩) (by assumption) ?r2ta
            case y2ta => (intro w' hSw; (try dsimp only at hSw); go_simp; (try with_reducible rfl))
            try simp only [Act.put, List.getElem_toArray, List.getElem_cons_zero, List.getElem_cons_succ, List.setIfInBounds_toArray, List.set_cons_zero, List.set_cons_succ]
            refine wpAnyH_take (i := 3) (oi := _) (v := ?v3ta) rfl (by kernel_rfl) (by kernel_rfl) (by kernel_rfl) (fun _ _ _ h => h) (Or.inl ⟨by rfl, ?y3ta⟩) (by assumption) ?r3ta
            case y3ta => (intro w' hSw; (try dsimp only at hSw); go_simp; (try with_reducible rfl))
            try simp only [Act.put, List.getElem_toArray, List.getElem_cons_zero, List.getElem_cons_succ, List.setIfInBounds_toArray, List.set_cons_zero, List.set_cons_succ]
            refine wpAnyH_take (i := 5) (oi := _) (v := ?v5ta) rfl (by kernel_rfl) (by kernel_rfl) (by kernel_rfl) (fun _ _ _ h => h) (Or.inl ⟨by rfl, ?y5ta⟩) (by assumption) ?r5ta
            case y5ta => (intro w' hSw; (try dsimp only at hSw); go_simp; (try with_reducible rfl))
            try simp only [Act.put, List.getElem_toArray, List.getElem_cons_zero, List.getElem_cons_succ, List.setIfInBounds_toArray, List.set_cons_zero, List.set_cons_succ]
            refine wpAnyH_take (i := 7) (oi := _) (v := ?v7ta) rfl (by kernel_rfl) (by kernel_rfl) (by kernel_rfl) (fun _ _ _ h => h) (Or.inl ⟨by rfl, ?y7ta⟩) (by assumption) ?r7ta
            case y7ta => (intro w' hSw; (try dsimp only at hSw); go_simp; (try with_reducible rfl))
            try simp only [Act.put, List.getElem_toArray, List.getElem_cons_zero, List.getElem_cons_succ, List.setIfInBounds_toArray, List.set_cons_zero, List.set_cons_succ]
            refine wpAnyH_take (i := 8) (oi := _) (v := ?v8ta) rfl (by kernel_rfl) (by kernel_rfl) (by kernel_rfl) (fun _ _ _ h => h) (Or.inl ⟨by rfl, ?y8ta⟩) (by assumption) ?r8ta
            case y8ta => (intro w' hSw; (try dsimp only at hSw); go_simp; (try with_reducible rfl))
            try simp only [Act.put, List.getElem_toArray, List.getElem_cons_zero, List.getElem_cons_succ, List.setIfInBounds_toArray, List.set_cons_zero, List.set_cons_succ]
            refine wpAnyH_take (i := 10) (oi := _) (v := ?v10ta) rfl (by kernel_rfl) (by kernel_rfl) (by kernel_rfl) (fun _ _ _ h => h) (Or.inl ⟨by rfl, ?y10ta⟩) (by assumption) ?r10ta
            case y10ta => (intro w' hSw; (try dsimp only at hSw); go_simp; (try with_reducible rfl))
            try simp only [Act.put, List.getElem_toArray, List.getElem_cons_zero, List.getElem_cons_succ, List.setIfInBounds_toArray, List.set_cons_zero, List.set_cons_succ]
            refine wpAnyH_take (i := 12) (oi := _) (v := ?v12ta) rfl (by kernel_rfl) (by kernel_rfl) (by kernel_rfl) (fun _ _ _ h => h) (Or.inl ⟨by rfl, ?y12ta⟩) (by assumption) ?r12ta
            case y12ta => (intro w' hSw; (try dsimp only at hSw); go_simp; (try with_reducible rfl))
            try simp only [Act.put, List.getElem_toArray, List.getElem_cons_zero, List.getElem_cons_succ, List.setIfInBounds_toArray, List.set_cons_zero, List.set_cons_succ]
            refine wpAnyH_take (i := 13) (oi := _) (v := ?v13ta) rfl (by kernel_rfl) (by kernel_rfl) (by kernel_rfl) (fun _ _ _ h => h) (Or.inl ⟨by rfl, ?y13ta⟩) (by assumption) ?r13ta
            case y13ta => (intro w' hSw; (try dsimp only at hSw); go_simp; (try with_reducible rfl))
            try simp only [Act.put, List.getElem_toArray, List.getElem_cons_zero, List.getElem_cons_succ, List.setIfInBounds_toArray, List.set_cons_zero, List.set_cons_succ]
            refine wpAnyH_ready (rs := [1, 6, 11]) (by kernel_rfl) (by simp) ?_
            refine AllReadyH.cons (o := _) rfl (fun K hK => ?_) (AllReadyH.cons (o := _) rfl (fun K hK => ?_) (AllReadyH.cons (o := _) rfl (fun K hK => ?_) AllReadyH.nil))
            · have v9 := V2.out
              obtain ⟨y0, y1, y2, y3, y4, y5⟩ : _ ∧ _ ∧ _ ∧ _ ∧ _ ∧ _ := ⟨v9.cell 0, v9.cell 1, v9.cell 2, v9.cell 3, v9.cell 4, v9.cell 5⟩
              have yz := v9.lt
              simp only [List.getElem?_toArray, List.getElem?_cons_zero, List.getElem?_cons_succ] at y0 y1 y2 y3 y4 y5
              clear v9
              go_simp
              clear hHeld y0 y1 y2 y3 y4 y5 yz
              refine hK.out _ _ (sG EX _) (fun hHeld => ?_)
              clear hK K
              try simp only [Act.put, List.getElem_toArray, List.getElem_cons_zero, List.getElem_cons_succ, List.setIfInBounds_toArray, List.set_cons_zero, List.set_cons_succ]
              refine wpAnyH_ready (rs := [4, 6, 11]) (by kernel_rfl) (by simp) ?_
              refine AllReadyH.cons (o := _) rfl (fun K hK => ?_) (AllReadyH.cons (o := _) rfl (fun K hK => ?_) (AllReadyH.cons (o := _) rfl (fun K hK => ?_) AllReadyH.nil))
              · go_simp
                refine Calls.mono (C1.out _) ?_
                rintro e X ⟨rfl, hEX⟩
                dsimp only
                replace EX := EX.trans hEX
                replace V2 := hid (V2.out.ext hEX)
                clear hHeld hEX
                refine hK.out _ _ (sG EX _) (fun hHeld => ?_)
                clear hK K
                try simp only [Act.put, List.getElem_toArray, List.getElem_cons_zero, List.getElem_cons_succ, List.setIfInBounds_toArray, List.set_cons_zero, List.set_cons_succ]
                refine wpAnyH_ready (rs := [6, 11]) (by kernel_rfl) (by simp) ?_
                refine AllReadyH.cons (o := _) rfl (fun K hK => ?_) (AllReadyH.cons (o := _) rfl (fun K hK => ?_) AllReadyH.nil)
                · have v9 := V2.out
                  obtain ⟨y0, y1, y2, y3, y4, y5⟩ : _ ∧ _ ∧ _ ∧ _ ∧ _ ∧ _ := ⟨v9.cell 0, v9.cell 1, v9.cell 2, v9.cell 3, v9.cell 4, v9.cell 5⟩
                  have yz := v9.lt
                  simp only [List.getElem?_toArray, List.getElem?_cons_zero, List.getElem?_cons_succ] at y0 y1 y2 y3 y4 y5
                  clear v9
                  go_simp
                  clear hHeld y0 y1 y2 y3 y4 y5 yz
                  refine hK.out _ _ (sG EX _) (fun hHeld => ?_)
                  clear hK K
                  try simp only [Act.put, List.getElem_toArray, List.getElem_cons_zero, List.getElem_cons_succ, List.setIfInBounds_toArray, List.set_cons_zero, List.set_cons_succ]
                  refine wpAnyH_ready (rs := [9, 11]) (by kernel_rfl) (by simp) ?_
                  refine AllReadyH.cons (o := _) rfl (fun K hK => ?_) (AllReadyH.cons (o := _) rfl (fun K hK => ?_) AllReadyH.nil)
                  · go_simp
                    refine Calls.mono (C2.out _) ?_
                    rintro e X ⟨rfl, hEX⟩
                    dsimp only
                    replace EX := EX.trans hEX
                    replace V2 := hid (V2.out.ext hEX)
                    clear hHeld hEX
                    refine hK.out _ _ (sG EX _) (fun hHeld => ?_)
                    clear hK K
                    try simp only [Act.put, List.getElem_toArray, List.getElem_cons_zero, List.getElem_cons_succ, List.setIfInBounds_toArray, List.set_cons_zero, List.set_cons_succ]
                    refine wpAnyH_ready (rs := [11]) (by kernel_rfl) (by simp) ?_
                    refine AllReadyH.cons (o := _) rfl (fun K hK => ?_) AllReadyH.nil
                    have v9 := V2.out
                    obtain ⟨y0, y1, y2, y3, y4, y5⟩ : _ ∧ _ ∧ _ ∧ _ ∧ _ ∧ _ := ⟨v9.cell 0, v9.cell 1, v9.cell 2, v9.cell 3, v9.cell 4, v9.cell 5⟩
                    have yz := v9.lt
                    simp only [List.getElem?_toArray, List.getElem?_cons_zero, List.getElem?_cons_succ] at y0 y1 y2 y3 y4 y5
                    clear v9
                    go_simp
                    clear hHeld y0 y1 y2 y3 y4 y5 yz
                    refine hK.out _ _ (sG EX _) (fun hHeld => ?_)
                    clear hK K
                    try simp only [Act.put, List.getElem_toArray, List.getElem_cons_zero, List.getElem_cons_succ, List.setIfInBounds_toArray, List.set_cons_zero, List.set_cons_succ]
                    refine wpAnyH_ready (rs := [14]) (by kernel_rfl) (by simp) ?_
                    refine AllReadyH.cons (o := _) rfl (fun K hK => ?_) AllReadyH.nil
                    go_simp
                    refine Calls.mono (C3.out _) ?_
                    rintro e X ⟨rfl, hEX⟩
                    dsimp only
                    replace EX := EX.trans hEX
                    replace V2 := hid (V2.out.ext hEX)
                    clear hHeld hEX
                    refine hK.out _ _ (sG EX _) (fun hHeld => ?_)
                    clear hK K
                    try simp only [Act.put, List.getElem_toArray, List.getElem_cons_zero, List.getElem_cons_succ, List.setIfInBounds_toArray, List.set_cons_zero, List.set_cons_succ]
                    refine wpAnyH_take (i := 15) (oi := _) (v := ?v15k7) rfl (by kernel_rfl) (by kernel_rfl) (by kernel_rfl) (fun _ _ _ h => h) (Or.inl ⟨by rfl, ?y15k7⟩) (by assumption) ?r15k7
                    case y15k7 => (intro w' hSw; (try dsimp only at hSw); go_simp; (try with_reducible rfl))
                    try simp only [Act.put, List.getElem_toArray, List.getElem_cons_zero, List.getElem_cons_succ, List.setIfInBounds_toArray, List.set_cons_zero, List.set_cons_succ]
                    refine wpAnyH_ready (rs := [16]) (by kernel_rfl) (by simp) ?_
                    refine AllReadyH.cons (o := _) rfl (fun K hK => ?_) AllReadyH.nil
                    refine wp_store_mid 38 _ _ rfl ob 0 #[.int .i64 m1, .int .i64 m2, .int .i64 m3, .int .i64 m4, .int .i64 m5, .int .i64 m6] rfl rfl (blk_there V2.out rfl) infoHr1 HO.out ?_
                    clear hHeld
                    refine hK.out _ _ (sGs EX _ _ _) (fun hHeld => ?_)
                    clear hK K
                    try simp only [Act.put, List.getElem_toArray, List.getElem_cons_zero, List.getElem_cons_succ, List.setIfInBounds_toArray, List.set_cons_zero, List.set_cons_succ]
                    refine wpAnyH_done (by kernel_rfl) ?_ _
                    exact REST _ _ _ _ _ _ _ _ _ _ _ _ _ _ _ _ _ EX V2
                  · have v9 := V2.out
                    obtain ⟨y0, y1, y2, y3, y4, y5⟩ : _ ∧ _ ∧ _ ∧ _ ∧ _ ∧ _ := ⟨v9.cell 0, v9.cell 1, v9.cell 2, v9.cell 3, v9.cell 4, v9.cell 5⟩
                    have yz := v9.lt
                    simp only [List.getElem?_toArray, List.getElem?_cons_zero, List.getElem?_cons_succ] at y0 y1 y2 y3 y4 y5
                    clear v9
                    go_simp
                    clear hHeld y0 y1 y2 y3 y4 y5 yz
                    refine hK.out _ _ (sG EX _) (fun hHeld => ?_)
                    clear hK K
                    try simp only [Act.put, List.getElem_toArray, List.getElem_cons_zero, List.getElem_cons_succ, List.setIfInBounds_toArray, List.set_cons_zero, List.set_cons_succ]
                    refine wpAnyH_ready (rs := [9]) (by kernel_rfl) (by simp) ?_
                    refine AllReadyH.cons (o := _) rfl (fun K hK => ?_) AllReadyH.nil
                    go_simp
                    refine Calls.mono (C2.out _) ?_
                    rintro e X ⟨rfl, hEX⟩
                    dsimp only
                    replace EX := EX.trans hEX
                    replace V2 := hid (V2.out.ext hEX)
                    clear hHeld hEX
                    refine hK.out _ _ (sG EX _) (fun hHeld => ?_)
                    clear hK K
                    try simp only [Act.put, List.getElem_toArray, List.getElem_cons_zero, List.getElem_cons_succ, List.setIfInBounds_toArray, List.set_cons_zero, List.set_cons_succ]
                    refine wpAnyH_ready (rs := [14]) (by kernel_rfl) (by simp) ?_
                    refine AllReadyH.cons (o := _) rfl (fun K hK => ?_) AllReadyH.nil
                    go_simp
                    refine Calls.mono (C3.out _) ?_
                    rintro e X ⟨rfl, hEX⟩
                    dsimp only
                    replace EX := EX.trans hEX
                    replace V2 := hid (V2.out.ext hEX)
                    clear hHeld hEX
                    refine hK.out _ _ (sG EX _) (fun hHeld => ?_)
                    clear hK K
                    try simp only [Act.put, List.getElem_toArray, List.getElem_cons_zero, List.getElem_cons_succ, List.setIfInBounds_toArray, List.set_cons_zero, List.set_cons_succ]
                    refine wpAnyH_take (i := 15) (oi := _) (v := ?v15k11) rfl (by kernel_rfl) (by kernel_rfl) (by kernel_rfl) (fun _ _ _ h => h) (Or.inl ⟨by rfl, ?y15k11⟩) (by assumption) ?r15k11
                    case y15k11 => (intro w' hSw; (try dsimp only at hSw); go_simp; (try with_reducible rfl))
                    try simp only [Act.put, List.getElem_toArray, List.getElem_cons_zero, List.getElem_cons_succ, List.setIfInBounds_toArray, List.set_cons_zero, List.set_cons_succ]
                    refine wpAnyH_ready (rs := [16]) (by kernel_rfl) (by simp) ?_
                    refine AllReadyH.cons (o := _) rfl (fun K hK => ?_) AllReadyH.nil
                    refine wp_store_mid 38 _ _ rfl ob 0 #[.int .i64 m1, .int .i64 m2, .int .i64 m3, .int .i64 m4, .int .i64 m5, .int .i64 m6] rfl rfl (blk_there V2.out rfl) infoHr1 HO.out ?_
                    clear hHeld
                    refine hK.out _ _ (sGs EX _ _ _) (fun hHeld => ?_)
                    clear hK K
                    try simp only [Act.put, List.getElem_toArray, List.getElem_cons_zero, List.getElem_cons_succ, List.setIfInBounds_toArray, List.set_cons_zero, List.set_cons_succ]
                    refine wpAnyH_done (by kernel_rfl) ?_ _
                    exact REST _ _ _ _ _ _ _ _ _ _ _ _ _ _ _ _ _ EX V2
                · have v9 := V2.out
                  obtain ⟨y0, y1, y2, y3, y4, y5⟩ : _ ∧ _ ∧ _ ∧ _ ∧ _ ∧ _ := ⟨v9.cell 0, v9.cell 1, v9.cell 2, v9.cell 3, v9.cell 4, v9.cell 5⟩
                  have yz := v9.lt
                  simp only [List.getElem?_toArray, List.getElem?_cons_zero, List.getElem?_cons_succ] at y0 y1 y2 y3 y4 y5
                  clear v9
                  go_simp
                  clear hHeld y0 y1 y2 y3 y4 y5 yz
                  refine hK.out _ _ (sG EX _) (fun hHeld => ?_)
                  clear hK K
                  try simp only [Act.put, List.getElem_toArray, List.getElem_cons_zero, List.getElem_cons_succ, List.setIfInBounds_toArray, List.set_cons_zero, List.set_cons_succ]
                  refine wpAnyH_ready (rs := [6]) (by kernel_rfl) (by simp) ?_
                  refine AllReadyH.cons (o := _) rfl (fun K hK => ?_) AllReadyH.nil
                  have v9 := V2.out
                  obtain ⟨y0, y1, y2, y3, y4, y5⟩ : _ ∧ _ ∧ _ ∧ _ ∧ _ ∧ _ := ⟨v9.cell 0, v9.cell 1, v9.cell 2, v9.cell 3, v9.cell 4, v9.cell 5⟩
                  have yz := v9.lt
                  simp only [List.getElem?_toArray, List.getElem?_cons_zero, List.getElem?_cons_succ] at y0 y1 y2 y3 y4 y5
                  clear v9
                  go_simp
                  clear hHeld y0 y1 y2 y3 y4 y5 yz
                  refine hK.out _ _ (sG EX _) (fun hHeld => ?_)
                  clear hK K
                  try simp only [Act.put, List.getElem_toArray, List.getElem_cons_zero, List.getElem_cons_succ, List.setIfInBounds_toArray, List.set_cons_zero, List.set_cons_succ]
                  refine wpAnyH_ready (rs := [9]) (by kernel_rfl) (by simp) ?_
                  refine AllReadyH.cons (o := _) rfl (fun K hK => ?_) AllReadyH.nil
                  go_simp
                  refine Calls.mono (C2.out _) ?_
                  rintro e X ⟨rfl, hEX⟩
                  dsimp only
                  replace EX := EX.trans hEX
                  replace V2 := hid (V2.out.ext hEX)
                  clear hHeld hEX
                  refine hK.out _ _ (sG EX _) (fun hHeld => ?_)
                  clear hK K
                  try simp only [Act.put, List.getElem_toArray, List.getElem_cons_zero, List.getElem_cons_succ, List.setIfInBounds_toArray, List.set_cons_zero, List.set_cons_succ]
                  refine wpAnyH_ready (rs := [14]) (by kernel_rfl) (by simp) ?_
                  refine AllReadyH.cons (o := _) rfl (fun K hK => ?_) AllReadyH.nil
                  go_simp
                  refine Calls.mono (C3.out _) ?_
                  rintro e X ⟨rfl, hEX⟩
                  dsimp only
                  replace EX := EX.trans hEX
                  replace V2 := hid (V2.out.ext hEX)
                  clear hHeld hEX
                  refine hK.out _ _ (sG EX _) (fun hHeld => ?_)
                  clear hK K
                  try simp only [Act.put, List.getElem_toArray, List.getElem_cons_zero, List.getElem_cons_succ, List.setIfInBounds_toArray, List.set_cons_zero, List.set_cons_succ]
                  refine wpAnyH_take (i := 15) (oi := _) (v := ?v15k16) rfl (by kernel_rfl) (by kernel_rfl) (by kernel_rfl) (fun _ _ _ h => h) (Or.inl ⟨by rfl, ?y15k16⟩) (by assumption) ?r15k16
                  case y15k16 => (intro w' hSw; (try dsimp only at hSw); go_simp; (try with_reducible rfl))
                  try simp only [Act.put, List.getElem_toArray, List.getElem_cons_zero, List.getElem_cons_succ, List.setIfInBounds_toArray, List.set_cons_zero, List.set_cons_succ]
                  refine wpAnyH_ready (rs := [16]) (by kernel_rfl) (by simp) ?_
                  refine AllReadyH.cons (o := _) rfl (fun K hK => ?_) AllReadyH.nil
                  refine wp_store_mid 38 _ _ rfl ob 0 #[.int .i64 m1, .int .i64 m2, .int .i64 m3, .int .i64 m4, .int .i64 m5, .int .i64 m6] rfl rfl (blk_there V2.out rfl) infoHr1 HO.out ?_
                  clear hHeld
                  refine hK.out _ _ (sGs EX _ _ _) (fun hHeld => ?_)
                  clear hK K
                  try simp only [Act.put, List.getElem_toArray, List.getElem_cons_zero, List.getElem_cons_succ, List.setIfInBounds_toArray, List.set_cons_zero, List.set_cons_succ]
                  refine wpAnyH_done (by kernel_rfl) ?_ _
                  exact REST _ _ _ _ _ _ _ _ _ _ _ _ _ _ _ _ _ EX V2
              · have v9 := V2.out
                obtain ⟨y0, y1, y2, y3, y4, y5⟩ : _ ∧ _ ∧ _ ∧ _ ∧ _ ∧ _ := ⟨v9.cell 0, v9.cell 1, v9.cell 2, v9.cell 3, v9.cell 4, v9.cell 5⟩
                have yz := v9.lt
                simp only [List.getElem?_toArray, List.getElem?_cons_zero, List.getElem?_cons_succ] at y0 y1 y2 y3 y4 y5
                clear v9
                go_simp
                clear hHeld y0 y1 y2 y3 y4 y5 yz
                refine hK.out _ _ (sG EX _) (fun hHeld => ?_)
                clear hK K
                try simp only [Act.put, List.getElem_toArray, List.getElem_cons_zero, List.getElem_cons_succ, List.setIfInBounds_toArray, List.set_cons_zero, List.set_cons_succ]
                refine wpAnyH_ready (rs := [4, 11]) (by kernel_rfl) (by simp) ?_
                refine AllReadyH.cons (o := _) rfl (fun K hK => ?_) (AllReadyH.cons (o := _) rfl (fun K hK => ?_) AllReadyH.nil)
                · go_simp
                  refine Calls.mono (C1.out _) ?_
                  rintro e X ⟨rfl, hEX⟩
                  dsimp only
                  replace EX := EX.trans hEX
                  replace V2 := hid (V2.out.ext hEX)
                  clear hHeld hEX
                  refine hK.out _ _ (sG EX _) (fun hHeld => ?_)
                  clear hK K
                  try simp only [Act.put, List.getElem_toArray, List.getElem_cons_zero, List.getElem_cons_succ, List.setIfInBounds_toArray, List.set_cons_zero, List.set_cons_succ]
                  refine wpAnyH_ready (rs := [9, 11]) (by kernel_rfl) (by simp) ?_
                  refine AllReadyH.cons (o := _) rfl (fun K hK => ?_) (AllReadyH.cons (o := _) rfl (fun K hK => ?_) AllReadyH.nil)
                  · go_simp
                    refine Calls.mono (C2.out _) ?_
                    rintro e X ⟨rfl, hEX⟩
                    dsimp only
                    replace EX := EX.trans hEX
                    replace V2 := hid (V2.out.ext hEX)
                    clear hHeld hEX
                    refine hK.out _ _ (sG EX _) (fun hHeld => ?_)
                    clear hK K
                    try simp only [Act.put, List.getElem_toArray, List.getElem_cons_zero, List.getElem_cons_succ, List.setIfInBounds_toArray, List.set_cons_zero, List.set_cons_succ]
                    refine wpAnyH_ready (rs := [11]) (by kernel_rfl) (by simp) ?_
                    refine AllReadyH.cons (o := _) rfl (fun K hK => ?_) AllReadyH.nil
                    have v9 := V2.out
                    obtain ⟨y0, y1, y2, y3, y4, y5⟩ : _ ∧ _ ∧ _ ∧ _ ∧ _ ∧ _ := ⟨v9.cell 0, v9.cell 1, v9.cell 2, v9.cell 3, v9.cell 4, v9.cell 5⟩
                    have yz := v9.lt
                    simp only [List.getElem?_toArray, List.getElem?_cons_zero, List.getElem?_cons_succ] at y0 y1 y2 y3 y4 y5
                    clear v9
                    go_simp
                    clear hHeld y0 y1 y2 y3 y4 y5 yz
                    refine hK.out _ _ (sG EX _) (fun hHeld => ?_)
                    clear hK K
                    try simp only [Act.put, List.getElem_toArray, List.getElem_cons_zero, List.getElem_cons_succ, List.setIfInBounds_toArray, List.set_cons_zero, List.set_cons_succ]
                    refine wpAnyH_ready (rs := [14]) (by kernel_rfl) (by simp) ?_
                    refine AllReadyH.cons (o := _) rfl (fun K hK => ?_) AllReadyH.nil
                    go_simp
                    refine Calls.mono (C3.out _) ?_
                    rintro e X ⟨rfl, hEX⟩
                    dsimp only
                    replace EX := EX.trans hEX
                    replace V2 := hid (V2.out.ext hEX)
                    clear hHeld hEX
                    refine hK.out _ _ (sG EX _) (fun hHeld => ?_)
                    clear hK K
                    try simp only [Act.put, List.getElem_toArray, List.getElem_cons_zero, List.getElem_cons_succ, List.setIfInBounds_toArray, List.set_cons_zero, List.set_cons_succ]
                    refine wpAnyH_take (i := 15) (oi := _) (v := ?v15k22) rfl (by kernel_rfl) (by kernel_rfl) (by kernel_rfl) (fun _ _ _ h => h) (Or.inl ⟨by rfl, ?y15k22⟩) (by assumption) ?r15k22
                    case y15k22 => (intro w' hSw; (try dsimp only at hSw); go_simp; (try with_reducible rfl))
                    try simp only [Act.put, List.getElem_toArray, List.getElem_cons_zero, List.getElem_cons_succ, List.setIfInBounds_toArray, List.set_cons_zero, List.set_cons_succ]
                    refine wpAnyH_ready (rs := [16]) (by kernel_rfl) (by simp) ?_
                    refine AllReadyH.cons (o := _) rfl (fun K hK => ?_) AllReadyH.nil
                    refine wp_store_mid 38 _ _ rfl ob 0 #[.int .i64 m1, .int .i64 m2, .int .i64 m3, .int .i64 m4, .int .i64 m5, .int .i64 m6] rfl rfl (blk_there V2.out rfl) infoHr1 HO.out ?_
                    clear hHeld
                    refine hK.out _ _ (sGs EX _ _ _) (fun hHeld => ?_)
                    clear hK K
                    try simp only [Act.put, List.getElem_toArray, List.getElem_cons_zero, List.getElem_cons_succ, List.setIfInBounds_toArray, List.set_cons_zero, List.set_cons_succ]
                    refine wpAnyH_done (by kernel_rfl) ?_ _
                    exact REST _ _ _ _ _ _ _ _ _ _ _ _ _ _ _ _ _ EX V2
                  · have v9 := V2.out
                    obtain ⟨y0, y1, y2, y3, y4, y5⟩ : _ ∧ _ ∧ _ ∧ _ ∧ _ ∧ _ := ⟨v9.cell 0, v9.cell 1, v9.cell 2, v9.cell 3, v9.cell 4, v9.cell 5⟩
                    have yz := v9.lt
                    simp only [List.getElem?_toArray, List.getElem?_cons_zero, List.getElem?_cons_succ] at y0 y1 y2 y3 y4 y5
                    clear v9
                    go_simp
                    clear hHeld y0 y1 y2 y3 y4 y5 yz
                    refine hK.out _ _ (sG EX _) (fun hHeld => ?_)
                    clear hK K
                    try simp only [Act.put, List.getElem_toArray, List.getElem_cons_zero, List.getElem_cons_succ, List.setIfInBounds_toArray, List.set_cons_zero, List.set_cons_succ]
                    refine wpAnyH_ready (rs := [9]) (by kernel_rfl) (by simp) ?_
                    refine AllReadyH.cons (o := _) rfl (fun K hK => ?_) AllReadyH.nil
                    go_simp
                    refine Calls.mono (C2.out _) ?_
                    rintro e X ⟨rfl, hEX⟩
                    dsimp only
                    replace EX := EX.trans hEX
                    replace V2 := hid (V2.out.ext hEX)
                    clear hHeld hEX
                    refine hK.out _ _ (sG EX _) (fun hHeld => ?_)
                    clear hK K
                    try simp only [Act.put, List.getElem_toArray, List.getElem_cons_zero, List.getElem_cons_succ, List.setIfInBounds_toArray, List.set_cons_zero, List.set_cons_succ]
                    refine wpAnyH_ready (rs := [14]) (by kernel_rfl) (by simp) ?_
                    refine AllReadyH.cons (o := _) rfl (fun K hK => ?_) AllReadyH.nil
                    go_simp
                    refine Calls.mono (C3.out _) ?_
                    rintro e X ⟨rfl, hEX⟩
                    dsimp only
                    replace EX := EX.trans hEX
                    replace V2 := hid (V2.out.ext hEX)
                    clear hHeld hEX
                    refine hK.out _ _ (sG EX _) (fun hHeld => ?_)
                    clear hK K
                    try simp only [Act.put, List.getElem_toArray, List.getElem_cons_zero, List.getElem_cons_succ, List.setIfInBounds_toArray, List.set_cons_zero, List.set_cons_succ]
                    refine wpAnyH_take (i := 15) (oi := _) (v := ?v15k26) rfl (by kernel_rfl) (by kernel_rfl) (by kernel_rfl) (fun _ _ _ h => h) (Or.inl ⟨by rfl, ?y15k26⟩) (by assumption) ?r15k26
                    case y15k26 => (intro w' hSw; (try dsimp only at hSw); go_simp; (try with_reducible rfl))
                    try simp only [Act.put, List.getElem_toArray, List.getElem_cons_zero, List.getElem_cons_succ, List.setIfInBounds_toArray, List.set_cons_zero, List.set_cons_succ]
                    refine wpAnyH_ready (rs := [16]) (by kernel_rfl) (by simp) ?_
                    refine AllReadyH.cons (o := _) rfl (fun K hK => ?_) AllReadyH.nil
                    refine wp_store_mid 38 _ _ rfl ob 0 #[.int .i64 m1, .int .i64 m2, .int .i64 m3, .int .i64 m4, .int .i64 m5, .int .i64 m6] rfl rfl (blk_there V2.out rfl) infoHr1 HO.out ?_
                    clear hHeld
                    refine hK.out _ _ (sGs EX _ _ _) (fun hHeld => ?_)
                    clear hK K
                    try simp only [Act.put, List.getElem_toArray, List.getElem_cons_zero, List.getElem_cons_succ, List.setIfInBounds_toArray, List.set_cons_zero, List.set_cons_succ]
                    refine wpAnyH_done (by kernel_rfl) ?_ _
                    exact REST _ _ _ _ _ _ _ _ _ _ _ _ _ _ _ _ _ EX V2
                · have v9 := V2.out
                  obtain ⟨y0, y1, y2, y3, y4, y5⟩ : _ ∧ _ ∧ _ ∧ _ ∧ _ ∧ _ := ⟨v9.cell 0, v9.cell 1, v9.cell 2, v9.cell 3, v9.cell 4, v9.cell 5⟩
                  have yz := v9.lt
                  simp only [List.getElem?_toArray, List.getElem?_cons_zero, List.getElem?_cons_succ] at y0 y1 y2 y3 y4 y5
                  clear v9
                  go_simp
                  clear hHeld y0 y1 y2 y3 y4 y5 yz
                  refine hK.out _ _ (sG EX _) (fun hHeld => ?_)
                  clear hK K
                  try simp only [Act.put, List.getElem_toArray, List.getElem_cons_zero, List.getElem_cons_succ, List.setIfInBounds_toArray, List.set_cons_zero, List.set_cons_succ]
                  refine wpAnyH_ready (rs := [4]) (by kernel_rfl) (by simp) ?_
                  refine AllReadyH.cons (o := _) rfl (fun K hK => ?_) AllReadyH.nil
                  go_simp
                  refine Calls.mono (C1.out _) ?_
                  rintro e X ⟨rfl, hEX⟩
                  dsimp only
                  replace EX := EX.trans hEX
                  replace V2 := hid (V2.out.ext hEX)
                  clear hHeld hEX
                  refine hK.out _ _ (sG EX _) (fun hHeld => ?_)
                  clear hK K
                  try simp only [Act.put, List.getElem_toArray, List.getElem_cons_zero, List.getElem_cons_succ, List.setIfInBounds_toArray, List.set_cons_zero, List.set_cons_succ]
                  refine wpAnyH_ready (rs := [9]) (by kernel_rfl) (by simp) ?_
                  refine AllReadyH.cons (o := _) rfl (fun K hK => ?_) AllReadyH.nil
                  go_simp
                  refine Calls.mono (C2.out _) ?_
                  rintro e X ⟨rfl, hEX⟩
                  dsimp only
                  replace EX := EX.trans hEX
                  replace V2 := hid (V2.out.ext hEX)
                  clear hHeld hEX
                  refine hK.out _ _ (sG EX _) (fun hHeld => ?_)
                  clear hK K
                  try simp only [Act.put, List.getElem_toArray, List.getElem_cons_zero, List.getElem_cons_succ, List.setIfInBounds_toArray, List.set_cons_zero, List.set_cons_succ]
                  refine wpAnyH_ready (rs := [14]) (by kernel_rfl) (by simp) ?_
                  refine AllReadyH.cons (o := _) rfl (fun K hK => ?_) AllReadyH.nil
                  go_simp
                  refine Calls.mono (C3.out _) ?_
                  rintro e X ⟨rfl, hEX⟩
                  dsimp only
                  replace EX := EX.trans hEX
                  replace V2 := hid (V2.out.ext hEX)
                  clear hHeld hEX
                  refine hK.out _ _ (sG EX _) (fun hHeld => ?_)
                  clear hK K
                  try simp only [Act.put, List.getElem_toArray, List.getElem_cons_zero, List.getElem_cons_succ, List.setIfInBounds_toArray, List.set_cons_zero, List.set_cons_succ]
                  refine wpAnyH_take (i := 15) (oi := _) (v := ?v15k31) rfl (by kernel_rfl) (by kernel_rfl) (by kernel_rfl) (fun _ _ _ h => h) (Or.inl ⟨by rfl, ?y15k31⟩) (by assumption) ?r15k31
                  case y15k31 => (intro w' hSw; (try dsimp only at hSw); go_simp; (try with_reducible rfl))
                  try simp only [Act.put, List.getElem_toArray, List.getElem_cons_zero, List.getElem_cons_succ, List.setIfInBounds_toArray, List.set_cons_zero, List.set_cons_succ]
                  refine wpAnyH_ready (rs := [16]) (by kernel_rfl) (by simp) ?_
                  refine AllReadyH.cons (o := _) rfl (fun K hK => ?_) AllReadyH.nil
                  refine wp_store_mid 38 _ _ rfl ob 0 #[.int .i64 m1, .int .i64 m2, .int .i64 m3, .int .i64 m4, .int .i64 m5, .int .i64 m6] rfl rfl (blk_there V2.out rfl) infoHr1 HO.out ?_
                  clear hHeld
                  refine hK.out _ _ (sGs EX _ _ _) (fun hHeld => ?_)
                  clear hK K
                  try simp only [Act.put, List.getElem_toArray, List.getElem_cons_zero, List.getElem_cons_succ, List.setIfInBounds_toArray, List.set_cons_zero, List.set_cons_succ]
                  refine wpAnyH_done (by kernel_rfl) ?_ _
                  exact REST _ _ _ _ _ _ _ _ _ _ _ _ _ _ _ _ _ EX V2
              · have v9 := V2.out
                obtain ⟨y0, y1, y2, y3, y4, y5⟩ : _ ∧ _ ∧ _ ∧ _ ∧ _ ∧ _ := ⟨v9.cell 0, v9.cell 1, v9.cell 2, v9.cell 3, v9.cell 4, v9.cell 5⟩
                have yz := v9.lt
                simp only [List.getElem?_toArray, List.getElem?_cons_zero, List.getElem?_cons_succ] at y0 y1 y2 y3 y4 y5
                clear v9
                go_simp
                clear hHeld y0 y1 y2 y3 y4 y5 yz
                refine hK.out _ _ (sG EX _) (fun hHeld => ?_)
                clear hK K
                try simp only [Act.put, List.getElem_toArray, List.getElem_cons_zero, List.getElem_cons_succ, List.setIfInBounds_toArray, List.set_cons_zero, List.set_cons_succ]
                refine wpAnyH_ready (rs := [4, 6]) (by kernel_rfl) (by simp) ?_
                refine AllReadyH.cons (o := _) rfl (fun K hK => ?_) (AllReadyH.cons (o := _) rfl (fun K hK => ?_) AllReadyH.nil)
                · go_simp
                  refine Calls.mono (C1.out _) ?_
                  rintro e X ⟨rfl, hEX⟩
                  dsimp only
                  replace EX := EX.trans hEX
                  replace V2 := hid (V2.out.ext hEX)
                  clear hHeld hEX
                  refine hK.out _ _ (sG EX _) (fun hHeld => ?_)
                  clear hK K
                  try simp only [Act.put, List.getElem_toArray, List.getElem_cons_zero, List.getElem_cons_succ, List.setIfInBounds_toArray, List.set_cons_zero, List.set_cons_succ]
                  refine wpAnyH_ready (rs := [6]) (by kernel_rfl) (by simp) ?_
                  refine AllReadyH.cons (o := _) rfl (fun K hK => ?_) AllReadyH.nil
                  have v9 := V2.out
                  obtain ⟨y0, y1, y2, y3, y4, y5⟩ : _ ∧ _ ∧ _ ∧ _ ∧ _ ∧ _ := ⟨v9.cell 0, v9.cell 1, v9.cell 2, v9.cell 3, v9.cell 4, v9.cell 5⟩
                  have yz := v9.lt
                  simp only [List.getElem?_toArray, List.getElem?_cons_zero, List.getElem?_cons_succ] at y0 y1 y2 y3 y4 y5
                  clear v9
                  go_simp
                  clear hHeld y0 y1 y2 y3 y4 y5 yz
                  refine hK.out _ _ (sG EX _) (fun hHeld => ?_)
                  clear hK K
                  try simp only [Act.put, List.getElem_toArray, List.getElem_cons_zero, List.getElem_cons_succ, List.setIfInBounds_toArray, List.set_cons_zero, List.set_cons_succ]
                  refine wpAnyH_ready (rs := [9]) (by kernel_rfl) (by simp) ?_
                  refine AllReadyH.cons (o := _) rfl (fun K hK => ?_) AllReadyH.nil
                  go_simp
                  refine Calls.mono (C2.out _) ?_
                  rintro e X ⟨rfl, hEX⟩
                  dsimp only
                  replace EX := EX.trans hEX
                  replace V2 := hid (V2.out.ext hEX)
                  clear hHeld hEX
                  refine hK.out _ _ (sG EX _) (fun hHeld => ?_)
                  clear hK K
                  try simp only [Act.put, List.getElem_toArray, List.getElem_cons_zero, List.getElem_cons_succ, List.setIfInBounds_toArray, List.set_cons_zero, List.set_cons_succ]
                  refine wpAnyH_ready (rs := [14]) (by kernel_rfl) (by simp) ?_
                  refine AllReadyH.cons (o := _) rfl (fun K hK => ?_) AllReadyH.nil
                  go_simp
                  refine Calls.mono (C3.out _) ?_
                  rintro e X ⟨rfl, hEX⟩
                  dsimp only
                  replace EX := EX.trans hEX
                  replace V2 := hid (V2.out.ext hEX)
                  clear hHeld hEX
                  refine hK.out _ _ (sG EX _) (fun hHeld => ?_)
                  clear hK K
                  try simp only [Act.put, List.getElem_toArray, List.getElem_cons_zero, List.getElem_cons_succ, List.setIfInBounds_toArray, List.set_cons_zero, List.set_cons_succ]
                  refine wpAnyH_take (i := 15) (oi := _) (v := ?v15k37) rfl (by kernel_rfl) (by kernel_rfl) (by kernel_rfl) (fun _ _ _ h => h) (Or.inl ⟨by rfl, ?y15k37⟩) (by assumption) ?r15k37
                  case y15k37 => (intro w' hSw; (try dsimp only at hSw); go_simp; (try with_reducible rfl))
                  try simp only [Act.put, List.getElem_toArray, List.getElem_cons_zero, List.getElem_cons_succ, List.setIfInBounds_toArray, List.set_cons_zero, List.set_cons_succ]
                  refine wpAnyH_ready (rs := [16]) (by kernel_rfl) (by simp) ?_
                  refine AllReadyH.cons (o := _) rfl (fun K hK => ?_) AllReadyH.nil
                  refine wp_store_mid 38 _ _ rfl ob 0 #[.int .i64 m1, .int .i64 m2, .int .i64 m3, .int .i64 m4, .int .i64 m5, .int .i64 m6] rfl rfl (blk_there V2.out rfl) infoHr1 HO.out ?_
                  clear hHeld
                  refine hK.out _ _ (sGs EX _ _ _) (fun hHeld => ?_)
                  clear hK K
                  try simp only [Act.put, List.getElem_toArray, List.getElem_cons_zero, List.getElem_cons_succ, List.setIfInBounds_toArray, List.set_cons_zero, List.set_cons_succ]
                  refine wpAnyH_done (by kernel_rfl) ?_ _
                  exact REST _ _ _ _ _ _ _ _ _ _ _ _ _ _ _ _ _ EX V2
                · have v9 := V2.out
                  obtain ⟨y0, y1, y2, y3, y4, y5⟩ : _ ∧ _ ∧ _ ∧ _ ∧ _ ∧ _ := ⟨v9.cell 0, v9.cell 1, v9.cell 2, v9.cell 3, v9.cell 4, v9.cell 5⟩
                  have yz := v9.lt
                  simp only [List.getElem?_toArray, List.getElem?_cons_zero, List.getElem?_cons_succ] at y0 y1 y2 y3 y4 y5
                  clear v9
                  go_simp
                  clear hHeld y0 y1 y2 y3 y4 y5 yz
                  refine hK.out _ _ (sG EX _) (fun hHeld => ?_)
                  clear hK K
                  try simp only [Act.put, List.getElem_toArray, List.getElem_cons_zero, List.getElem_cons_succ, List.setIfInBounds_toArray, List.set_cons_zero, List.set_cons_succ]
                  refine wpAnyH_ready (rs := [4]) (by kernel_rfl) (by simp) ?_
                  refine AllReadyH.cons (o := _) rfl (fun K hK => ?_) AllReadyH.nil
                  go_simp
                  refine Calls.mono (C1.out _) ?_
                  rintro e X ⟨rfl, hEX⟩
                  dsimp only
                  replace EX := EX.trans hEX
                  replace V2 := hid (V2.out.ext hEX)
                  clear hHeld hEX
                  refine hK.out _ _ (sG EX _) (fun hHeld => ?_)
                  clear hK K
                  try simp only [Act.put, List.getElem_toArray, List.getElem_cons_zero, List.getElem_cons_succ, List.setIfInBounds_toArray, List.set_cons_zero, List.set_cons_succ]
                  refine wpAnyH_ready (rs := [9]) (by kernel_rfl) (by simp) ?_
                  refine AllReadyH.cons (o := _) rfl (fun K hK => ?_) AllReadyH.nil
                  go_simp
                  refine Calls.mono (C2.out _) ?_
                  rintro e X ⟨rfl, hEX⟩
                  dsimp only
                  replace EX := EX.trans hEX
                  replace V2 := hid (V2.out.ext hEX)
                  clear hHeld hEX
                  refine hK.out _ _ (sG EX _) (fun hHeld => ?_)
                  clear hK K
                  try simp only [Act.put, List.getElem_toArray, List.getElem_cons_zero, List.getElem_cons_succ, List.setIfInBounds_toArray, List.set_cons_zero, List.set_cons_succ]
                  refine wpAnyH_ready (rs := [14]) (by kernel_rfl) (by simp) ?_
                  refine AllReadyH.cons (o := _) rfl (fun K hK => ?_) AllReadyH.nil
                  go_simp
                  refine Calls.mono (C3.out _) ?_
                  rintro e X ⟨rfl, hEX⟩
                  dsimp only
                  replace EX := EX.trans hEX
                  replace V2 := hid (V2.out.ext hEX)
                  clear hHeld hEX
                  refine hK.out _ _ (sG EX _) (fun hHeld => ?_)
                  clear hK K
                  try simp only [Act.put, List.getElem_toArray, List.getElem_cons_zero, List.getElem_cons_succ, List.setIfInBounds_toArray, List.set_cons_zero, List.set_cons_succ]
                  refine wpAnyH_take (i := 15) (oi := _) (v := ?v15k42) rfl (by kernel_rfl) (by kernel_rfl) (by kernel_rfl) (fun _ _ _ h => h) (Or.inl ⟨by rfl, ?y15k42⟩) (by assumption) ?r15k42
                  case y15k42 => (intro w' hSw; (try dsimp only at hSw); go_simp; (try with_reducible rfl))
                  try simp only [Act.put, List.getElem_toArray, List.getElem_cons_zero, List.getElem_cons_succ, List.setIfInBounds_toArray, List.set_cons_zero, List.set_cons_succ]
                  refine wpAnyH_ready (rs := [16]) (by kernel_rfl) (by simp) ?_
                  refine AllReadyH.cons (o := _) rfl (fun K hK => ?_) AllReadyH.nil
                  refine wp_store_mid 38 _ _ rfl ob 0 #[.int .i64 m1, .int .i64 m2, .int .i64 m3, .int .i64 m4, .int .i64 m5, .int .i64 m6] rfl rfl (blk_there V2.out rfl) infoHr1 HO.out ?_
                  clear hHeld
                  refine hK.out _ _ (sGs EX _ _ _) (fun hHeld => ?_)
                  clear hK K
                  try simp only [Act.put, List.getElem_toArray, List.getElem_cons_zero, List.getElem_cons_succ, List.setIfInBounds_toArray, List.set_cons_zero, List.set_cons_succ]
                  refine wpAnyH_done (by kernel_rfl) ?_ _
                  exact REST _ _ _ _ _ _ _ _ _ _ _ _ _ _ _ _ _ EX V2
            · have v9 := V2.out
              obtain ⟨y0, y1, y2, y3, y4, y5⟩ : _ ∧ _ ∧ _ ∧ _ ∧ _ ∧ _ := ⟨v9.cell 0, v9.cell 1, v9.cell 2, v9.cell 3, v9.cell 4, v9.cell 5⟩
              have yz := v9.lt
              simp only [List.getElem?_toArray, List.getElem?_cons_zero, List.getElem?_cons_succ] at y0 y1 y2 y3 y4 y5
              clear v9
              go_simp
              clear hHeld y0 y1 y2 y3 y4 y5 yz
              refine hK.out _ _ (sG EX _) (fun hHeld => ?_)
              clear hK K
              try simp only [Act.put, List.getElem_toArray, List.getElem_cons_zero, List.getElem_cons_succ, List.setIfInBounds_toArray, List.set_cons_zero, List.set_cons_succ]
              refine wpAnyH_ready (rs := [1, 11]) (by kernel_rfl) (by simp) ?_
              refine AllReadyH.cons (o := _) rfl (fun K hK => ?_) (AllReadyH.cons (o := _) rfl (fun K hK => ?_) AllReadyH.nil)
              · have v9 := V2.out
                obtain ⟨y0, y1, y2, y3, y4, y5⟩ : _ ∧ _ ∧ _ ∧ _ ∧ _ ∧ _ := ⟨v9.cell 0, v9.cell 1, v9.cell 2, v9.cell 3, v9.cell 4, v9.cell 5⟩
                have yz := v9.lt
                simp only [List.getElem?_toArray, List.getElem?_cons_zero, List.getElem?_cons_succ] at y0 y1 y2 y3 y4 y5
                clear v9
                go_simp
                clear hHeld y0 y1 y2 y3 y4 y5 yz
                refine hK.out _ _ (sG EX _) (fun hHeld => ?_)
                clear hK K
                try simp only [Act.put, List.getElem_toArray, List.getElem_cons_zero, List.getElem_cons_succ, List.setIfInBounds_toArray, List.set_cons_zero, List.set_cons_succ]
                refine wpAnyH_ready (rs := [4, 11]) (by kernel_rfl) (by simp) ?_
                refine AllReadyH.cons (o := _) rfl (fun K hK => ?_) (AllReadyH.cons (o := _) rfl (fun K hK => ?_) AllReadyH.nil)
                · go_simp
                  refine Calls.mono (C1.out _) ?_
                  rintro e X ⟨rfl, hEX⟩
                  dsimp only
                  replace EX := EX.trans hEX
                  replace V2 := hid (V2.out.ext hEX)
                  clear hHeld hEX
                  refine hK.out _ _ (sG EX _) (fun hHeld => ?_)
                  clear hK K
                  try simp only [Act.put, List.getElem_toArray, List.getElem_cons_zero, List.getElem_cons_succ, List.setIfInBounds_toArray, List.set_cons_zero, List.set_cons_succ]
                  refine wpAnyH_ready (rs := [9, 11]) (by kernel_rfl) (by simp) ?_
                  refine AllReadyH.cons (o := _) rfl (fun K hK => ?_) (AllReadyH.cons (o := _) rfl (fun K hK => ?_) AllReadyH.nil)
                  · go_simp
                    refine Calls.mono (C2.out _) ?_
                    rintro e X ⟨rfl, hEX⟩
                    dsimp only
                    replace EX := EX.trans hEX
                    replace V2 := hid (V2.out.ext hEX)
                    clear hHeld hEX
                    refine hK.out _ _ (sG EX _) (fun hHeld => ?_)
                    clear hK K
                    try simp only [Act.put, List.getElem_toArray, List.getElem_cons_zero, List.getElem_cons_succ, List.setIfInBounds_toArray, List.set_cons_zero, List.set_cons_succ]
                    refine wpAnyH_ready (rs := [11]) (by kernel_rfl) (by simp) ?_
                    refine AllReadyH.cons (o := _) rfl (fun K hK => ?_) AllReadyH.nil
                    have v9 := V2.out
                    obtain ⟨y0, y1, y2, y3, y4, y5⟩ : _ ∧ _ ∧ _ ∧ _ ∧ _ ∧ _ := ⟨v9.cell 0, v9.cell 1, v9.cell 2, v9.cell 3, v9.cell 4, v9.cell 5⟩
                    have yz := v9.lt
                    simp only [List.getElem?_toArray, List.getElem?_cons_zero, List.getElem?_cons_succ] at y0 y1 y2 y3 y4 y5
                    clear v9
                    go_simp
                    clear hHeld y0 y1 y2 y3 y4 y5 yz
                    refine hK.out _ _ (sG EX _) (fun hHeld => ?_)
                    clear hK K
                    try simp only [Act.put, List.getElem_toArray, List.getElem_cons_zero, List.getElem_cons_succ, List.setIfInBounds_toArray, List.set_cons_zero, List.set_cons_succ]
                    refine wpAnyH_ready (rs := [14]) (by kernel_rfl) (by simp) ?_
                    refine AllReadyH.cons (o := _) rfl (fun K hK => ?_) AllReadyH.nil
                    go_simp
                    refine Calls.mono (C3.out _) ?_
                    rintro e X ⟨rfl, hEX⟩
                    dsimp only
                    replace EX := EX.trans hEX
                    replace V2 := hid (V2.out.ext hEX)
                    clear hHeld hEX
                    refine hK.out _ _ (sG EX _) (fun hHeld => ?_)
                    clear hK K
                    try simp only [Act.put, List.getElem_toArray, List.getElem_cons_zero, List.getElem_cons_succ, List.setIfInBounds_toArray, List.set_cons_zero, List.set_cons_succ]
                    refine wpAnyH_take (i := 15) (oi := _) (v := ?v15k49) rfl (by kernel_rfl) (by kernel_rfl) (by kernel_rfl) (fun _ _ _ h => h) (Or.inl ⟨by rfl, ?y15k49⟩) (by assumption) ?r15k49
                    case y15k49 => (intro w' hSw; (try dsimp only at hSw); go_simp; (try with_reducible rfl))
                    try simp only [Act.put, List.getElem_toArray, List.getElem_cons_zero, List.getElem_cons_succ, List.setIfInBounds_toArray, List.set_cons_zero, List.set_cons_succ]
                    refine wpAnyH_ready (rs := [16]) (by kernel_rfl) (by simp) ?_
                    refine AllReadyH.cons (o := _) rfl (fun K hK => ?_) AllReadyH.nil
                    refine wp_store_mid 38 _ _ rfl ob 0 #[.int .i64 m1, .int .i64 m2, .int .i64 m3, .int .i64 m4, .int .i64 m5, .int .i64 m6] rfl rfl (blk_there V2.out rfl) infoHr1 HO.out ?_
                    clear hHeld
                    refine hK.out _ _ (sGs EX _ _ _) (fun hHeld => ?_)
                    clear hK K
                    try simp only [Act.put, List.getElem_toArray, List.getElem_cons_zero, List.getElem_cons_succ, List.setIfInBounds_toArray, List.set_cons_zero, List.set_cons_succ]
                    refine wpAnyH_done (by kernel_rfl) ?_ _
                    exact REST _ _ _ _ _ _ _ _ _ _ _ _ _ _ _ _ _ EX V2
                  · have v9 := V2.out
                    obtain ⟨y0, y1, y2, y3, y4, y5⟩ : _ ∧ _ ∧ _ ∧ _ ∧ _ ∧ _ := ⟨v9.cell 0, v9.cell 1, v9.cell 2, v9.cell 3, v9.cell 4, v9.cell 5⟩
                    have yz := v9.lt
                    simp only [List.getElem?_toArray, List.getElem?_cons_zero, List.getElem?_cons_succ] at y0 y1 y2 y3 y4 y5
                    clear v9
                    go_simp
                    clear hHeld y0 y1 y2 y3 y4 y5 yz
                    refine hK.out _ _ (sG EX _) (fun hHeld => ?_)
                    clear hK K
                    try simp only [Act.put, List.getElem_toArray, List.getElem_cons_zero, List.getElem_cons_succ, List.setIfInBounds_toArray, List.set_cons_zero, List.set_cons_succ]
                    refine wpAnyH_ready (rs := [9]) (by kernel_rfl) (by simp) ?_
                    refine AllReadyH.cons (o := _) rfl (fun K hK => ?_) AllReadyH.nil
                    go_simp
                    refine Calls.mono (C2.out _) ?_
                    rintro e X ⟨rfl, hEX⟩
                    dsimp only
                    replace EX := EX.trans hEX
                    replace V2 := hid (V2.out.ext hEX)
                    clear hHeld hEX
                    refine hK.out _ _ (sG EX _) (fun hHeld => ?_)
                    clear hK K
                    try simp only [Act.put, List.getElem_toArray, List.getElem_cons_zero, List.getElem_cons_succ, List.setIfInBounds_toArray, List.set_cons_zero, List.set_cons_succ]
                    refine wpAnyH_ready (rs := [14]) (by kernel_rfl) (by simp) ?_
                    refine AllReadyH.cons (o := _) rfl (fun K hK => ?_) AllReadyH.nil
                    go_simp
                    refine Calls.mono (C3.out _) ?_
                    rintro e X ⟨rfl, hEX⟩
                    dsimp only
                    replace EX := EX.trans hEX
                    replace V2 := hid (V2.out.ext hEX)
                    clear hHeld hEX
                    refine hK.out _ _ (sG EX _) (fun hHeld => ?_)
                    clear hK K
                    try simp only [Act.put, List.getElem_toArray, List.getElem_cons_zero, List.getElem_cons_succ, List.setIfInBounds_toArray, List.set_cons_zero, List.set_cons_succ]
                    refine wpAnyH_take (i := 15) (oi := _) (v := ?v15k53) rfl (by kernel_rfl) (by kernel_rfl) (by kernel_rfl) (fun _ _ _ h => h) (Or.inl ⟨by rfl, ?y15k53⟩) (by assumption) ?r15k53
                    case y15k53 => (intro w' hSw; (try dsimp only at hSw); go_simp; (try with_reducible rfl))
                    try simp only [Act.put, List.getElem_toArray, List.getElem_cons_zero, List.getElem_cons_succ, List.setIfInBounds_toArray, List.set_cons_zero, List.set_cons_succ]
                    refine wpAnyH_ready (rs := [16]) (by kernel_rfl) (by simp) ?_
                    refine AllReadyH.cons (o := _) rfl (fun K hK => ?_) AllReadyH.nil
                    refine wp_store_mid 38 _ _ rfl ob 0 #[.int .i64 m1, .int .i64 m2, .int .i64 m3, .int .i64 m4, .int .i64 m5, .int .i64 m6] rfl rfl (blk_there V2.out rfl) infoHr1 HO.out ?_
                    clear hHeld
                    refine hK.out _ _ (sGs EX _ _ _) (fun hHeld => ?_)
                    clear hK K
                    try simp only [Act.put, List.getElem_toArray, List.getElem_cons_zero, List.getElem_cons_succ, List.setIfInBounds_toArray, List.set_cons_zero, List.set_cons_succ]
                    refine wpAnyH_done (by kernel_rfl) ?_ _
                    exact REST _ _ _ _ _ _ _ _ _ _ _ _ _ _ _ _ _ EX V2
                · have v9 := V2.out
                  obtain ⟨y0, y1, y2, y3, y4, y5⟩ : _ ∧ _ ∧ _ ∧ _ ∧ _ ∧ _ := ⟨v9.cell 0, v9.cell 1, v9.cell 2, v9.cell 3, v9.cell 4, v9.cell 5⟩
                  have yz := v9.lt
                  simp only [List.getElem?_toArray, List.getElem?_cons_zero, List.getElem?_cons_succ] at y0 y1 y2 y3 y4 y5
                  clear v9
                  go_simp
                  clear hHeld y0 y1 y2 y3 y4 y5 yz
                  refine hK.out _ _ (sG EX _) (fun hHeld => ?_)
                  clear hK K
                  try simp only [Act.put, List.getElem_toArray, List.getElem_cons_zero, List.getElem_cons_succ, List.setIfInBounds_toArray, List.set_cons_zero, List.set_cons_succ]
                  refine wpAnyH_ready (rs := [4]) (by kernel_rfl) (by simp) ?_
                  refine AllReadyH.cons (o := _) rfl (fun K hK => ?_) AllReadyH.nil
                  go_simp
                  refine Calls.mono (C1.out _) ?_
                  rintro e X ⟨rfl, hEX⟩
                  dsimp only
                  replace EX := EX.trans hEX
                  replace V2 := hid (V2.out.ext hEX)
                  clear hHeld hEX
                  refine hK.out _ _ (sG EX _) (fun hHeld => ?_)
                  clear hK K
                  try simp only [Act.put, List.getElem_toArray, List.getElem_cons_zero, List.getElem_cons_succ, List.setIfInBounds_toArray, List.set_cons_zero, List.set_cons_succ]
                  refine wpAnyH_ready (rs := [9]) (by kernel_rfl) (by simp) ?_
                  refine AllReadyH.cons (o := _) rfl (fun K hK => ?_) AllReadyH.nil
                  go_simp
                  refine Calls.mono (C2.out _) ?_
                  rintro e X ⟨rfl, hEX⟩
                  dsimp only
                  replace EX := EX.trans hEX
                  replace V2 := hid (V2.out.ext hEX)
                  clear hHeld hEX
                  refine hK.out _ _ (sG EX _) (fun hHeld => ?_)
                  clear hK K
                  try simp only [Act.put, List.getElem_toArray, List.getElem_cons_zero, List.getElem_cons_succ, List.setIfInBounds_toArray, List.set_cons_zero, List.set_cons_succ]
                  refine wpAnyH_ready (rs := [14]) (by kernel_rfl) (by simp) ?_
                  refine AllReadyH.cons (o := _) rfl (fun K hK => ?_) AllReadyH.nil
                  go_simp
                  refine Calls.mono (C3.out _) ?_
                  rintro e X ⟨rfl, hEX⟩
                  dsimp only
                  replace EX := EX.trans hEX
                  replace V2 := hid (V2.out.ext hEX)
                  clear hHeld hEX
                  refine hK.out _ _ (sG EX _) (fun hHeld => ?_)
                  clear hK K
                  try simp only [Act.put, List.getElem_toArray, List.getElem_cons_zero, List.getElem_cons_succ, List.setIfInBounds_toArray, List.set_cons_zero, List.set_cons_succ]
                  refine wpAnyH_take (i := 15) (oi := _) (v := ?v15k58) rfl (by kernel_rfl) (by kernel_rfl) (by kernel_rfl) (fun _ _ _ h => h) (Or.inl ⟨by rfl, ?y15k58⟩) (by assumption) ?r15k58
                  case y15k58 => (intro w' hSw; (try dsimp only at hSw); go_simp; (try with_reducible rfl))
                  try simp only [Act.put, List.getElem_toArray, List.getElem_cons_zero, List.getElem_cons_succ, List.setIfInBounds_toArray, List.set_cons_zero, List.set_cons_succ]
                  refine wpAnyH_ready (rs := [16]) (by kernel_rfl) (by simp) ?_
                  refine AllReadyH.cons (o := _) rfl (fun K hK => ?_) AllReadyH.nil
                  refine wp_store_mid 38 _ _ rfl ob 0 #[.int .i64 m1, .int .i64 m2, .int .i64 m3, .int .i64 m4, .int .i64 m5, .int .i64 m6] rfl rfl (blk_there V2.out rfl) infoHr1 HO.out ?_
                  clear hHeld
                  refine hK.out _ _ (sGs EX _ _ _) (fun hHeld => ?_)
                  clear hK K
                  try simp only [Act.put, List.getElem_toArray, List.getElem_cons_zero, List.getElem_cons_succ, List.setIfInBounds_toArray, List.set_cons_zero, List.set_cons_succ]
                  refine wpAnyH_done (by kernel_rfl) ?_ _
                  exact REST _ _ _ _ _ _ _ _ _ _ _ _ _ _ _ _ _ EX V2
              · have v9 := V2.out
                obtain ⟨y0, y1, y2, y3, y4, y5⟩ : _ ∧ _ ∧ _ ∧ _ ∧ _ ∧ _ := ⟨v9.cell 0, v9.cell 1, v9.cell 2, v9.cell 3, v9.cell 4, v9.cell 5⟩
                have yz := v9.lt
                simp only [List.getElem?_toArray, List.getElem?_cons_zero, List.getElem?_cons_succ] at y0 y1 y2 y3 y4 y5
                clear v9
                go_simp
                clear hHeld y0 y1 y2 y3 y4 y5 yz
                refine hK.out _ _ (sG EX _) (fun hHeld => ?_)
                clear hK K
                try simp only [Act.put, List.getElem_toArray, List.getElem_cons_zero, List.getElem_cons_succ, List.setIfInBounds_toArray, List.set_cons_zero, List.set_cons_succ]
                refine wpAnyH_ready (rs := [1]) (by kernel_rfl) (by simp) ?_
                refine AllReadyH.cons (o := _) rfl (fun K hK => ?_) AllReadyH.nil
                have v9 := V2.out
                obtain ⟨y0, y1, y2, y3, y4, y5⟩ : _ ∧ _ ∧ _ ∧ _ ∧ _ ∧ _ := ⟨v9.cell 0, v9.cell 1, v9.cell 2, v9.cell 3, v9.cell 4, v9.cell 5⟩
                have yz := v9.lt
                simp only [List.getElem?_toArray, List.getElem?_cons_zero, List.getElem?_cons_succ] at y0 y1 y2 y3 y4 y5
                clear v9
                go_simp
                clear hHeld y0 y1 y2 y3 y4 y5 yz
                refine hK.out _ _ (sG EX _) (fun hHeld => ?_)
                clear hK K
                try simp only [Act.put, List.getElem_toArray, List.getElem_cons_zero, List.getElem_cons_succ, List.setIfInBounds_toArray, List.set_cons_zero, List.set_cons_succ]
                refine wpAnyH_ready (rs := [4]) (by kernel_rfl) (by simp) ?_
                refine AllReadyH.cons (o := _) rfl (fun K hK => ?_) AllReadyH.nil
                go_simp
                refine Calls.mono (C1.out _) ?_
                rintro e X ⟨rfl, hEX⟩
                dsimp only
                replace EX := EX.trans hEX
                replace V2 := hid (V2.out.ext hEX)
                clear hHeld hEX
                refine hK.out _ _ (sG EX _) (fun hHeld => ?_)
                clear hK K
                try simp only [Act.put, List.getElem_toArray, List.getElem_cons_zero, List.getElem_cons_succ, List.setIfInBounds_toArray, List.set_cons_zero, List.set_cons_succ]
                refine wpAnyH_ready (rs := [9]) (by kernel_rfl) (by simp) ?_
                refine AllReadyH.cons (o := _) rfl (fun K hK => ?_) AllReadyH.nil
                go_simp
                refine Calls.mono (C2.out _) ?_
                rintro e X ⟨rfl, hEX⟩
                dsimp only
                replace EX := EX.trans hEX
                replace V2 := hid (V2.out.ext hEX)
                clear hHeld hEX
                refine hK.out _ _ (sG EX _) (fun hHeld => ?_)
                clear hK K
                try simp only [Act.put, List.getElem_toArray, List.getElem_cons_zero, List.getElem_cons_succ, List.setIfInBounds_toArray, List.set_cons_zero, List.set_cons_succ]
                refine wpAnyH_ready (rs := [14]) (by kernel_rfl) (by simp) ?_
                refine AllReadyH.cons (o := _) rfl (fun K hK => ?_) AllReadyH.nil
                go_simp
                refine Calls.mono (C3.out _) ?_
                rintro e X ⟨rfl, hEX⟩
                dsimp only
                replace EX := EX.trans hEX
                replace V2 := hid (V2.out.ext hEX)
                clear hHeld hEX
                refine hK.out _ _ (sG EX _) (fun hHeld => ?_)
                clear hK K
                try simp only [Act.put, List.getElem_toArray, List.getElem_cons_zero, List.getElem_cons_succ, List.setIfInBounds_toArray, List.set_cons_zero, List.set_cons_succ]
                refine wpAnyH_take (i := 15) (oi := _) (v := ?v15k64) rfl (by kernel_rfl) (by kernel_rfl) (by kernel_rfl) (fun _ _ _ h => h) (Or.inl ⟨by rfl, ?y15k64⟩) (by assumption) ?r15k64
                case y15k64 => (intro w' hSw; (try dsimp only at hSw); go_simp; (try with_reducible rfl))
                try simp only [Act.put, List.getElem_toArray, List.getElem_cons_zero, List.getElem_cons_succ, List.setIfInBounds_toArray, List.set_cons_zero, List.set_cons_succ]
                refine wpAnyH_ready (rs := [16]) (by kernel_rfl) (by simp) ?_
                refine AllReadyH.cons (o := _) rfl (fun K hK => ?_) AllReadyH.nil
                refine wp_store_mid 38 _ _ rfl ob 0 #[.int .i64 m1, .int .i64 m2, .int .i64 m3, .int .i64 m4, .int .i64 m5, .int .i64 m6] rfl rfl (blk_there V2.out rfl) infoHr1 HO.out ?_
                clear hHeld
                refine hK.out _ _ (sGs EX _ _ _) (fun hHeld => ?_)
                clear hK K
                try simp only [Act.put, List.getElem_toArray, List.getElem_cons_zero, List.getElem_cons_succ, List.setIfInBounds_toArray, List.set_cons_zero, List.set_cons_succ]
                refine wpAnyH_done (by kernel_rfl) ?_ _
                exact REST _ _ _ _ _ _ _ _ _ _ _ _ _ _ _ _ _ EX V2
            · have v9 := V2.out
              obtain ⟨y0, y1, y2, y3, y4, y5⟩ : _ ∧ _ ∧ _ ∧ _ ∧ _ ∧ _ := ⟨v9.cell 0, v9.cell 1, v9.cell 2, v9.cell 3, v9.cell 4, v9.cell 5⟩
              have yz := v9.lt
              simp only [List.getElem?_toArray, List.getElem?_cons_zero, List.getElem?_cons_succ] at y0 y1 y2 y3 y4 y5
              clear v9
              go_simp
              clear hHeld y0 y1 y2 y3 y4 y5 yz
              refine hK.out _ _ (sG EX _) (fun hHeld => ?_)
              clear hK K
              try simp only [Act.put, List.getElem_toArray, List.getElem_cons_zero, List.getElem_cons_succ, List.setIfInBounds_toArray, List.set_cons_zero, List.set_cons_succ]
              refine wpAnyH_ready (rs := [1, 6]) (by kernel_rfl) (by simp) ?_
              refine AllReadyH.cons (o := _) rfl (fun K hK => ?_) (AllReadyH.cons (o := _) rfl (fun K hK => ?_) AllReadyH.nil)
              · have v9 := V2.out
                obtain ⟨y0, y1, y2, y3, y4, y5⟩ : _ ∧ _ ∧ _ ∧ _ ∧ _ ∧ _ := ⟨v9.cell 0, v9.cell 1, v9.cell 2, v9.cell 3, v9.cell 4, v9.cell 5⟩
                have yz := v9.lt
                simp only [List.getElem?_toArray, List.getElem?_cons_zero, List.getElem?_cons_succ] at y0 y1 y2 y3 y4 y5
                clear v9
                go_simp
                clear hHeld y0 y1 y2 y3 y4 y5 yz
                refine hK.out _ _ (sG EX _) (fun hHeld => ?_)
                clear hK K
                try simp only [Act.put, List.getElem_toArray, List.getElem_cons_zero, List.getElem_cons_succ, List.setIfInBounds_toArray, List.set_cons_zero, List.set_cons_succ]
                refine wpAnyH_ready (rs := [4, 6]) (by kernel_rfl) (by simp) ?_
                refine AllReadyH.cons (o := _) rfl (fun K hK => ?_) (AllReadyH.cons (o := _) rfl (fun K hK => ?_) AllReadyH.nil)
                · go_simp
                  refine Calls.mono (C1.out _) ?_
                  rintro e X ⟨rfl, hEX⟩
                  dsimp only
                  replace EX := EX.trans hEX
                  replace V2 := hid (V2.out.ext hEX)
                  clear hHeld hEX
                  refine hK.out _ _ (sG EX _) (fun hHeld => ?_)
                  clear hK K
                  try simp only [Act.put, List.getElem_toArray, List.getElem_cons_zero, List.getElem_cons_succ, List.setIfInBounds_toArray, List.set_cons_zero, List.set_cons_succ]
                  refine wpAnyH_ready (rs := [6]) (by kernel_rfl) (by simp) ?_
                  refine AllReadyH.cons (o := _) rfl (fun K hK => ?_) AllReadyH.nil
                  have v9 := V2.out
                  obtain ⟨y0, y1, y2, y3, y4, y5⟩ : _ ∧ _ ∧ _ ∧ _ ∧ _ ∧ _ := ⟨v9.cell 0, v9.cell 1, v9.cell 2, v9.cell 3, v9.cell 4, v9.cell 5⟩
                  have yz := v9.lt
                  simp only [List.getElem?_toArray, List.getElem?_cons_zero, List.getElem?_cons_succ] at y0 y1 y2 y3 y4 y5
                  clear v9
                  go_simp
                  clear hHeld y0 y1 y2 y3 y4 y5 yz
                  refine hK.out _ _ (sG EX _) (fun hHeld => ?_)
                  clear hK K
                  try simp only [Act.put, List.getElem_toArray, List.getElem_cons_zero, List.getElem_cons_succ, List.setIfInBounds_toArray, List.set_cons_zero, List.set_cons_succ]
                  refine wpAnyH_ready (rs := [9]) (by kernel_rfl) (by simp) ?_
                  refine AllReadyH.cons (o := _) rfl (fun K hK => ?_) AllReadyH.nil
                  go_simp
                  refine Calls.mono (C2.out _) ?_
                  rintro e X ⟨rfl, hEX⟩
                  dsimp only
                  replace EX := EX.trans hEX
                  replace V2 := hid (V2.out.ext hEX)
                  clear hHeld hEX
                  refine hK.out _ _ (sG EX _) (fun hHeld => ?_)
                  clear hK K
                  try simp only [Act.put, List.getElem_toArray, List.getElem_cons_zero, List.getElem_cons_succ, List.setIfInBounds_toArray, List.set_cons_zero, List.set_cons_succ]
                  refine wpAnyH_ready (rs := [14]) (by kernel_rfl) (by simp) ?_
                  refine AllReadyH.cons (o := _) rfl (fun K hK => ?_) AllReadyH.nil
                  go_simp
                  refine Calls.mono (C3.out _) ?_
                  rintro e X ⟨rfl, hEX⟩
                  dsimp only
                  replace EX := EX.trans hEX
                  replace V2 := hid (V2.out.ext hEX)
                  clear hHeld hEX
                  refine hK.out _ _ (sG EX _) (fun hHeld => ?_)
                  clear hK K
                  try simp only [Act.put, List.getElem_toArray, List.getElem_cons_zero, List.getElem_cons_succ, List.setIfInBounds_toArray, List.set_cons_zero, List.set_cons_succ]
                  refine wpAnyH_take (i := 15) (oi := _) (v := ?v15k71) rfl (by kernel_rfl) (by kernel_rfl) (by kernel_rfl) (fun _ _ _ h => h) (Or.inl ⟨by rfl, ?y15k71⟩) (by assumption) ?r15k71
                  case y15k71 => (intro w' hSw; (try dsimp only at hSw); go_simp; (try with_reducible rfl))
                  try simp only [Act.put, List.getElem_toArray, List.getElem_cons_zero, List.getElem_cons_succ, List.setIfInBounds_toArray, List.set_cons_zero, List.set_cons_succ]
                  refine wpAnyH_ready (rs := [16]) (by kernel_rfl) (by simp) ?_
                  refine AllReadyH.cons (o := _) rfl (fun K hK => ?_) AllReadyH.nil
                  refine wp_store_mid 38 _ _ rfl ob 0 #[.int .i64 m1, .int .i64 m2, .int .i64 m3, .int .i64 m4, .int .i64 m5, .int .i64 m6] rfl rfl (blk_there V2.out rfl) infoHr1 HO.out ?_
                  clear hHeld
                  refine hK.out _ _ (sGs EX _ _ _) (fun hHeld => ?_)
                  clear hK K
                  try simp only [Act.put, List.getElem_toArray, List.getElem_cons_zero, List.getElem_cons_succ, List.setIfInBounds_toArray, List.set_cons_zero, List.set_cons_succ]
                  refine wpAnyH_done (by kernel_rfl) ?_ _
                  exact REST _ _ _ _ _ _ _ _ _ _ _ _ _ _ _ _ _ EX V2
                · have v9 := V2.out
                  obtain ⟨y0, y1, y2, y3, y4, y5⟩ : _ ∧ _ ∧ _ ∧ _ ∧ _ ∧ _ := ⟨v9.cell 0, v9.cell 1, v9.cell 2, v9.cell 3, v9.cell 4, v9.cell 5⟩
                  have yz := v9.lt
                  simp only [List.getElem?_toArray, List.getElem?_cons_zero, List.getElem?_cons_succ] at y0 y1 y2 y3 y4 y5
                  clear v9
                  go_simp
                  clear hHeld y0 y1 y2 y3 y4 y5 yz
                  refine hK.out _ _ (sG EX _) (fun hHeld => ?_)
                  clear hK K
                  try simp only [Act.put, List.getElem_toArray, List.getElem_cons_zero, List.getElem_cons_succ, List.setIfInBounds_toArray, List.set_cons_zero, List.set_cons_succ]
                  refine wpAnyH_ready (rs := [4]) (by kernel_rfl) (by simp) ?_
                  refine AllReadyH.cons (o := _) rfl (fun K hK => ?_) AllReadyH.nil
                  go_simp
                  refine Calls.mono (C1.out _) ?_
                  rintro e X ⟨rfl, hEX⟩
                  dsimp only
                  replace EX := EX.trans hEX
                  replace V2 := hid (V2.out.ext hEX)
                  clear hHeld hEX
                  refine hK.out _ _ (sG EX _) (fun hHeld => ?_)
                  clear hK K
                  try simp only [Act.put, List.getElem_toArray, List.getElem_cons_zero, List.getElem_cons_succ, List.setIfInBounds_toArray, List.set_cons_zero, List.set_cons_succ]
                  refine wpAnyH_ready (rs := [9]) (by kernel_rfl) (by simp) ?_
                  refine AllReadyH.cons (o := _) rfl (fun K hK => ?_) AllReadyH.nil
                  go_simp
                  refine Calls.mono (C2.out _) ?_
                  rintro e X ⟨rfl, hEX⟩
                  dsimp only
                  replace EX := EX.trans hEX
                  replace V2 := hid (V2.out.ext hEX)
                  clear hHeld hEX
                  refine hK.out _ _ (sG EX _) (fun hHeld => ?_)
                  clear hK K
                  try simp only [Act.put, List.getElem_toArray, List.getElem_cons_zero, List.getElem_cons_succ, List.setIfInBounds_toArray, List.set_cons_zero, List.set_cons_succ]
                  refine wpAnyH_ready (rs := [14]) (by kernel_rfl) (by simp) ?_
                  refine AllReadyH.cons (o := _) rfl (fun K hK => ?_) AllReadyH.nil
                  go_simp
                  refine Calls.mono (C3.out _) ?_
                  rintro e X ⟨rfl, hEX⟩
                  dsimp only
                  replace EX := EX.trans hEX
                  replace V2 := hid (V2.out.ext hEX)
                  clear hHeld hEX
                  refine hK.out _ _ (sG EX _) (fun hHeld => ?_)
                  clear hK K
                  try simp only [Act.put, List.getElem_toArray, List.getElem_cons_zero, List.getElem_cons_succ, List.setIfInBounds_toArray, List.set_cons_zero, List.set_cons_succ]
                  refine wpAnyH_take (i := 15) (oi := _) (v := ?v15k76) rfl (by kernel_rfl) (by kernel_rfl) (by kernel_rfl) (fun _ _ _ h => h) (Or.inl ⟨by rfl, ?y15k76⟩) (by assumption) ?r15k76
                  case y15k76 => (intro w' hSw; (try dsimp only at hSw); go_simp; (try with_reducible rfl))
                  try simp only [Act.put, List.getElem_toArray, List.getElem_cons_zero, List.getElem_cons_succ, List.setIfInBounds_toArray, List.set_cons_zero, List.set_cons_succ]
                  refine wpAnyH_ready (rs := [16]) (by kernel_rfl) (by simp) ?_
                  refine AllReadyH.cons (o := _) rfl (fun K hK => ?_) AllReadyH.nil
                  refine wp_store_mid 38 _ _ rfl ob 0 #[.int .i64 m1, .int .i64 m2, .int .i64 m3, .int .i64 m4, .int .i64 m5, .int .i64 m6] rfl rfl (blk_there V2.out rfl) infoHr1 HO.out ?_
                  clear hHeld
                  refine hK.out _ _ (sGs EX _ _ _) (fun hHeld => ?_)
                  clear hK K
                  try simp only [Act.put, List.getElem_toArray, List.getElem_cons_zero, List.getElem_cons_succ, List.setIfInBounds_toArray, List.set_cons_zero, List.set_cons_succ]
                  refine wpAnyH_done (by kernel_rfl) ?_ _
                  exact REST _ _ _ _ _ _ _ _ _ _ _ _ _ _ _ _ _ EX V2
              · have v9 := V2.out
                obtain ⟨y0, y1, y2, y3, y4, y5⟩ : _ ∧ _ ∧ _ ∧ _ ∧ _ ∧ _ := ⟨v9.cell 0, v9.cell 1, v9.cell 2, v9.cell 3, v9.cell 4, v9.cell 5⟩
                have yz := v9.lt
                simp only [List.getElem?_toArray, List.getElem?_cons_zero, List.getElem?_cons_succ] at y0 y1 y2 y3 y4 y5
                clear v9
                go_simp
                clear hHeld y0 y1 y2 y3 y4 y5 yz
                refine hK.out _ _ (sG EX _) (fun hHeld => ?_)
                clear hK K
                try simp only [Act.put, List.getElem_toArray, List.getElem_cons_zero, List.getElem_cons_succ, List.setIfInBounds_toArray, List.set_cons_zero, List.set_cons_succ]
                refine wpAnyH_ready (rs := [1]) (by kernel_rfl) (by simp) ?_
                refine AllReadyH.cons (o := _) rfl (fun K hK => ?_) AllReadyH.nil
                have v9 := V2.out
                obtain ⟨y0, y1, y2, y3, y4, y5⟩ : _ ∧ _ ∧ _ ∧ _ ∧ _ ∧ _ := ⟨v9.cell 0, v9.cell 1, v9.cell 2, v9.cell 3, v9.cell 4, v9.cell 5⟩
                have yz := v9.lt
                simp only [List.getElem?_toArray, List.getElem?_cons_zero, List.getElem?_cons_succ] at y0 y1 y2 y3 y4 y5
                clear v9
                go_simp
                clear hHeld y0 y1 y2 y3 y4 y5 yz
                refine hK.out _ _ (sG EX _) (fun hHeld => ?_)
                clear hK K
                try simp only [Act.put, List.getElem_toArray, List.getElem_cons_zero, List.getElem_cons_succ, List.setIfInBounds_toArray, List.set_cons_zero, List.set_cons_succ]
                refine wpAnyH_ready (rs := [4]) (by kernel_rfl) (by simp) ?_
                refine AllReadyH.cons (o := _) rfl (fun K hK => ?_) AllReadyH.nil
                go_simp
                refine Calls.mono (C1.out _) ?_
                rintro e X ⟨rfl, hEX⟩
                dsimp only
                replace EX := EX.trans hEX
                replace V2 := hid (V2.out.ext hEX)
                clear hHeld hEX
                refine hK.out _ _ (sG EX _) (fun hHeld => ?_)
                clear hK K
                try simp only [Act.put, List.getElem_toArray, List.getElem_cons_zero, List.getElem_cons_succ, List.setIfInBounds_toArray, List.set_cons_zero, List.set_cons_succ]
                refine wpAnyH_ready (rs := [9]) (by kernel_rfl) (by simp) ?_
                refine AllReadyH.cons (o := _) rfl (fun K hK => ?_) AllReadyH.nil
                go_simp
                refine Calls.mono (C2.out _) ?_
                rintro e X ⟨rfl, hEX⟩
                dsimp only
                replace EX := EX.trans hEX
                replace V2 := hid (V2.out.ext hEX)
                clear hHeld hEX
                refine hK.out _ _ (sG EX _) (fun hHeld => ?_)
                clear hK K
                try simp only [Act.put, List.getElem_toArray, List.getElem_cons_zero, List.getElem_cons_succ, List.setIfInBounds_toArray, List.set_cons_zero, List.set_cons_succ]
                refine wpAnyH_ready (rs := [14]) (by kernel_rfl) (by simp) ?_
                refine AllReadyH.cons (o := _) rfl (fun K hK => ?_) AllReadyH.nil
                go_simp
                refine Calls.mono (C3.out _) ?_
                rintro e X ⟨rfl, hEX⟩
                dsimp only
                replace EX := EX.trans hEX
                replace V2 := hid (V2.out.ext hEX)
                clear hHeld hEX
                refine hK.out _ _ (sG EX _) (fun hHeld => ?_)
                clear hK K
                try simp only [Act.put, List.getElem_toArray, List.getElem_cons_zero, List.getElem_cons_succ, List.setIfInBounds_toArray, List.set_cons_zero, List.set_cons_succ]
                refine wpAnyH_take (i := 15) (oi := _) (v := ?v15k82) rfl (by kernel_rfl) (by kernel_rfl) (by kernel_rfl) (fun _ _ _ h => h) (Or.inl ⟨by rfl, ?y15k82⟩) (by assumption) ?r15k82
                case y15k82 => (intro w' hSw; (try dsimp only at hSw); go_simp; (try with_reducible rfl))
                try simp only [Act.put, List.getElem_toArray, List.getElem_cons_zero, List.getElem_cons_succ, List.setIfInBounds_toArray, List.set_cons_zero, List.set_cons_succ]
                refine wpAnyH_ready (rs := [16]) (by kernel_rfl) (by simp) ?_
                refine AllReadyH.cons (o := _) rfl (fun K hK => ?_) AllReadyH.nil
                refine wp_store_mid 38 _ _ rfl ob 0 #[.int .i64 m1, .int .i64 m2, .int .i64 m3, .int .i64 m4, .int .i64 m5, .int .i64 m6] rfl rfl (blk_there V2.out rfl) infoHr1 HO.out ?_
                clear hHeld
                refine hK.out _ _ (sGs EX _ _ _) (fun hHeld => ?_)
                clear hK K
                try simp only [Act.put, List.getElem_toArray, List.getElem_cons_zero, List.getElem_cons_succ, List.setIfInBounds_toArray, List.set_cons_zero, List.set_cons_succ]
                refine wpAnyH_done (by kernel_rfl) ?_ _
                exact REST _ _ _ _ _ _ _ _ _ _ _ _ _ _ _ _ _ EX V2
          simp only [Act.put, List.getElem_toArray, List.getElem_cons_zero, List.getElem_cons_succ, List.setIfInBounds_toArray, List.set_cons_zero, List.set_cons_succ] at REST
          clear OB HS1
          refine wp_region_held_drew (S := fun w' => (∀ b o, b < wr.heap.size → w'.cell? ⟨b, o, none⟩ = wr.cell? ⟨b, o, none⟩) ∧ wr.heap.size ≤ w'.heap.size ∧ Ext wr w') (by kernel_rfl) ?hS0 (fun hHeld => ?_)
          case hS0 => exact sK (Ext.drew (Ext.refl _))
          have X0 : Ext wr wr.drew := Ext.drew (Ext.refl wr)
          have EX := X0
          obtain ⟨X, hX⟩ : ∃ X, wr.drew = X := ⟨_, rfl⟩
          rw [hX] at EX hHeld ⊢
          clear hX X0
          refine wpAnyH_take (i := 0) (oi := _) (v := ?v0b) rfl (by kernel_rfl) (by kernel_rfl) (by kernel_rfl) (fun _ _ _ h => h) (Or.inl ⟨by rfl, ?y0b⟩) (by assumption) ?r0b
          case y0b => (intro w' hSw; (try dsimp only at hSw); go_simp; (try with_reducible rfl))
          try simp only [Act.put, List.getElem_toArray, List.getElem_cons_zero, List.getElem_cons_succ, List.setIfInBounds_toArray, List.set_cons_zero, List.set_cons_succ]
          refine wpAnyH_take (i := 1) (oi := _) (v := ?v1b) rfl (by kernel_rfl) (by kernel_rfl) (by kernel_rfl) (fun _ _ _ h => h) (Or.inl ⟨by rfl, ?y1b⟩) (by assumption) ?r1b
          case y1b => (intro w' hSw; (try dsimp only at hSw); go_simp; (try with_reducible rfl))
          try simp only [Act.put, List.getElem_toArray, List.getElem_cons_zero, List.getElem_cons_succ, List.setIfInBounds_toArray, List.set_cons_zero, List.set_cons_succ]
          refine wpAnyH_take (i := 2) (oi := _) (v := ?v2b) rfl (by kernel_rfl) (by kernel_rfl) (by kernel_rfl) (fun _ _ _ h => h) (Or.inl ⟨by rfl, ?y2b⟩) (by assumption) ?r2b
          case y2b => (intro w' hSw; (try dsimp only at hSw); go_simp; (try with_reducible rfl))
          try simp only [Act.put, List.getElem_toArray, List.getElem_cons_zero, List.getElem_cons_succ, List.setIfInBounds_toArray, List.set_cons_zero, List.set_cons_succ]
          refine wpAnyH_take (i := 3) (oi := _) (v := ?v3b) rfl (by kernel_rfl) (by kernel_rfl) (by kernel_rfl) (fun _ _ _ h => h) (Or.inl ⟨by rfl, ?y3b⟩) (by assumption) ?r3b
          case y3b => (intro w' hSw; (try dsimp only at hSw); go_simp; (try with_reducible rfl))
          try simp only [Act.put, List.getElem_toArray, List.getElem_cons_zero, List.getElem_cons_succ, List.setIfInBounds_toArray, List.set_cons_zero, List.set_cons_succ]
          refine wpAnyH_take (i := 4) (oi := _) (v := ?v4b) rfl (by kernel_rfl) (by kernel_rfl) (by kernel_rfl) (fun _ _ _ h => h) (Or.inl ⟨by rfl, ?y4b⟩) (by assumption) ?r4b
          case y4b => (intro w' hSw; (try dsimp only at hSw); go_simp; (try with_reducible rfl))
          try simp only [Act.put, List.getElem_toArray, List.getElem_cons_zero, List.getElem_cons_succ, List.setIfInBounds_toArray, List.set_cons_zero, List.set_cons_succ]
          refine wpAnyH_take (i := 5) (oi := _) (v := ?v5b) rfl (by kernel_rfl) (by kernel_rfl) (by kernel_rfl) (fun _ _ _ h => h) (Or.inl ⟨by rfl, ?y5b⟩) (by assumption) ?r5b
          case y5b => (intro w' hSw; (try dsimp only at hSw); go_simp; (try with_reducible rfl))
          try simp only [Act.put, List.getElem_toArray, List.getElem_cons_zero, List.getElem_cons_succ, List.setIfInBounds_toArray, List.set_cons_zero, List.set_cons_succ]
          refine wpAnyH_take (i := 6) (oi := _) (v := ?v6b) rfl (by kernel_rfl) (by kernel_rfl) (by kernel_rfl) (fun _ _ _ h => h) (Or.inl ⟨by rfl, ?y6b⟩) (by assumption) ?r6b
          case y6b => (intro w' hSw; (try dsimp only at hSw); go_simp; (try with_reducible rfl))
          try simp only [Act.put, List.getElem_toArray, List.getElem_cons_zero, List.getElem_cons_succ, List.setIfInBounds_toArray, List.set_cons_zero, List.set_cons_succ]
          refine wpAnyH_ready (rs := [7, 8]) (by kernel_rfl) (by simp) ?_
          refine AllReadyH.cons (o := _) rfl (fun K hK => ?_) (AllReadyH.cons (o := _) rfl (fun K hK => ?_) AllReadyH.nil)
          · go_simp
            refine Calls.mono (HA1.out _ (E2.trans EX)) ?_
            rintro e X ⟨rfl, hEX⟩
            dsimp only
            replace EX := EX.trans hEX
            (try replace OB2 := hid (OB2.out.ext hEX))
            clear hHeld hEX
            refine hK.out _ _ (sK EX) (fun hHeld => ?_)
            clear hK K
            try simp only [Act.put, List.getElem_toArray, List.getElem_cons_zero, List.getElem_cons_succ, List.setIfInBounds_toArray, List.set_cons_zero, List.set_cons_succ]
            refine wpAnyH_ready (rs := [8]) (by kernel_rfl) (by simp) ?_
            refine AllReadyH.cons (o := _) rfl (fun K hK => ?_) AllReadyH.nil
            go_simp
            obtain ⟨Y, hY⟩ := absW EX (.cells (hrCells zeroHr) 38)
            have OB2 := hid (blkNew EX 38 (hrCells zeroHr))
            have LOB2 := EX.size
            replace EX := EX.alloc (.cells (hrCells zeroHr) 38)
            unfold hrCells at EX OB2 hY
            obtain ⟨ob2, hob⟩ : ∃ ob, X.heap.size = ob := ⟨_, rfl⟩
            rw [hY] at EX OB2
            rw [hob] at OB2 LOB2
            unfold zeroHr at hY
            dsimp only at hY
            rw [hY, hob]
            clear hHeld hY hob
            obtain ⟨X, rfl⟩ : ∃ X, X = Y := ⟨_, rfl⟩
            refine hK.out _ _ (sK EX) (fun hHeld => ?_)
            clear hK K
            try simp only [Act.put, List.getElem_toArray, List.getElem_cons_zero, List.getElem_cons_succ, List.setIfInBounds_toArray, List.set_cons_zero, List.set_cons_succ]
            refine wpAnyH_ready (rs := [9]) (by kernel_rfl) (by simp) ?_
            refine AllReadyH.cons (o := _) rfl (fun K hK => ?_) AllReadyH.nil
            refine wp_store_mid 38 _ _ rfl ob2 0 #[.int .i64 (hz).wl, .int .i64 (hz).wh, .int .i64 (hz).rl, .int .i64 (hz).rh, .int .i64 (hz).tl, .int .i64 (hz).th] rfl rfl (blk_there OB2.out rfl) infoHr1 HO9.out ?_
            have OB3 := hid (OB2.out.fill [.int .i64 (hz).wl, .int .i64 (hz).wh, .int .i64 (hz).rl, .int .i64 (hz).rh, .int .i64 (hz).tl, .int .i64 (hz).th] 0)
            have EX2 := ext_setCells EX LOB2 [.int .i64 (hz).wl, .int .i64 (hz).wh, .int .i64 (hz).rl, .int .i64 (hz).rh, .int .i64 (hz).tl, .int .i64 (hz).th] 0
            simp only [fillA, List.setIfInBounds_toArray, List.set_cons_zero, List.set_cons_succ] at OB3
            clear hHeld
            refine hK.out _ _ (sK EX2) (fun hHeld => ?_)
            clear hK K
            try simp only [Act.put, List.getElem_toArray, List.getElem_cons_zero, List.getElem_cons_succ, List.setIfInBounds_toArray, List.set_cons_zero, List.set_cons_succ]
            refine wpAnyH_done (by kernel_rfl) ?_ _
            exact REST _ _ _ _ _ _ _ _ _ _ EX2 LOB2 OB3
          · go_simp
            obtain ⟨Y, hY⟩ := absW EX (.cells (hrCells zeroHr) 38)
            have OB2 := hid (blkNew EX 38 (hrCells zeroHr))
            have LOB2 := EX.size
            replace EX := EX.alloc (.cells (hrCells zeroHr) 38)
            unfold hrCells at EX OB2 hY
            obtain ⟨ob2, hob⟩ : ∃ ob, X.heap.size = ob := ⟨_, rfl⟩
            rw [hY] at EX OB2
            rw [hob] at OB2 LOB2
            unfold zeroHr at hY
            dsimp only at hY
            rw [hY, hob]
            clear hHeld hY hob
            obtain ⟨X, rfl⟩ : ∃ X, X = Y := ⟨_, rfl⟩
            refine hK.out _ _ (sK EX) (fun hHeld => ?_)
            clear hK K
            try simp only [Act.put, List.getElem_toArray, List.getElem_cons_zero, List.getElem_cons_succ, List.setIfInBounds_toArray, List.set_cons_zero, List.set_cons_succ]
            refine wpAnyH_ready (rs := [7]) (by kernel_rfl) (by simp) ?_
            refine AllReadyH.cons (o := _) rfl (fun K hK => ?_) AllReadyH.nil
            go_simp
            refine Calls.mono (HA1.out _ (E2.trans EX)) ?_
            rintro e X ⟨rfl, hEX⟩
            dsimp only
            replace EX := EX.trans hEX
            (try replace OB2 := hid (OB2.out.ext hEX))
            clear hHeld hEX
            refine hK.out _ _ (sK EX) (fun hHeld => ?_)
            clear hK K
            try simp only [Act.put, List.getElem_toArray, List.getElem_cons_zero, List.getElem_cons_succ, List.setIfInBounds_toArray, List.set_cons_zero, List.set_cons_succ]
            refine wpAnyH_ready (rs := [9]) (by kernel_rfl) (by simp) ?_
            refine AllReadyH.cons (o := _) rfl (fun K hK => ?_) AllReadyH.nil
            refine wp_store_mid 38 _ _ rfl ob2 0 #[.int .i64 (hz).wl, .int .i64 (hz).wh, .int .i64 (hz).rl, .int .i64 (hz).rh, .int .i64 (hz).tl, .int .i64 (hz).th] rfl rfl (blk_there OB2.out rfl) infoHr1 HO9.out ?_
            have OB3 := hid (OB2.out.fill [.int .i64 (hz).wl, .int .i64 (hz).wh, .int .i64 (hz).rl, .int .i64 (hz).rh, .int .i64 (hz).tl, .int .i64 (hz).th] 0)
            have EX2 := ext_setCells EX LOB2 [.int .i64 (hz).wl, .int .i64 (hz).wh, .int .i64 (hz).rl, .int .i64 (hz).rh, .int .i64 (hz).tl, .int .i64 (hz).th] 0
            simp only [fillA, List.setIfInBounds_toArray, List.set_cons_zero, List.set_cons_succ] at OB3
            clear hHeld
            refine hK.out _ _ (sK EX2) (fun hHeld => ?_)
            clear hK K
            try simp only [Act.put, List.getElem_toArray, List.getElem_cons_zero, List.getElem_cons_succ, List.setIfInBounds_toArray, List.set_cons_zero, List.set_cons_succ]
            refine wpAnyH_done (by kernel_rfl) ?_ _
            exact REST _ _ _ _ _ _ _ _ _ _ EX2 LOB2 OB3
        · obtain rfl : k = n2 := by omega
          rw [HEN.out] at OB
          have HO := hid (hr_one WM)
          unfold hrCells at HO OB
          have R1 := hid (M1.out.fill [.int .i64 WM.wl, .int .i64 WM.wh, .int .i64 WM.rl, .int .i64 WM.rh, .int .i64 WM.tl, .int .i64 WM.th] 0)
          have RX := hid (ext_setCells E2 (b := w.heap.size + 1) (by omega) [.int .i64 WM.wl, .int .i64 WM.wh, .int .i64 WM.rl, .int .i64 WM.rh, .int .i64 WM.tl, .int .i64 WM.th] 0)
          simp only [fillA, List.setIfInBounds_toArray, List.set_cons_zero, List.set_cons_succ] at R1
          obtain ⟨y0, y1, y2, y3, y4, y5⟩ : _ ∧ _ ∧ _ ∧ _ ∧ _ ∧ _ := ⟨OB.out.cell 0, OB.out.cell 1, OB.out.cell 2, OB.out.cell 3, OB.out.cell 4, OB.out.cell 5⟩
          have yz := OB.out.lt
          simp only [List.getElem?_toArray, List.getElem?_cons_zero, List.getElem?_cons_succ] at y0 y1 y2 y3 y4 y5
          clear HAT HNX HLI HEN HK0 HST HHU
          go_wp2_with (refine wpList_store_mid rfl 38 _ _ rfl (w.heap.size + 1) 0 (#[.int .i64 WM.wl, .int .i64 WM.wh, .int .i64 WM.rl, .int .i64 WM.rh, .int .i64 WM.tl, .int .i64 WM.th]) rfl rfl (blk_there M1.out rfl) infoHr1 HO.out ?_)
          obtain ⟨Z, hZ⟩ : ∃ Z, World.setCells wr (w.heap.size + 1) 0 [.int .i64 WM.wl, .int .i64 WM.wh, .int .i64 WM.rl, .int .i64 WM.rh, .int .i64 WM.tl, .int .i64 WM.th] = Z := ⟨_, rfl⟩
          rw [hZ] at R1 RX
          have hZ2 : World.setCells wr (w.heap.size + 1) 0 (#[.int .i64 WM.wl, .int .i64 WM.wh, .int .i64 WM.rl, .int .i64 WM.rh, .int .i64 WM.tl, .int .i64 WM.th] : Array Value).toList = Z := hZ
          first | rw [hZ2] | rw [hZ]
          clear hZ hZ2 HO
          obtain ⟨r0, r1, r2, r3, r4, r5⟩ : _ ∧ _ ∧ _ ∧ _ ∧ _ ∧ _ := ⟨R1.out.cell 0, R1.out.cell 1, R1.out.cell 2, R1.out.cell 3, R1.out.cell 4, R1.out.cell 5⟩
          simp only [List.getElem?_toArray, List.getElem?_cons_zero, List.getElem?_cons_succ] at r0 r1 r2 r3 r4 r5
          exact bodyPost_ret (v := .tuple #[.agg #[.int .i64 WM.wl, .int .i64 WM.wh, .int .i64 WM.rl, .int .i64 WM.rh, .int .i64 WM.tl, .int .i64 WM.th], .int .i64 0]) (by simp [results, Tryd.results16, go_sem, r0, r1, r2, r3, r4, r5]) rfl ⟨rfl, RX.out⟩
    simp only [Act.put, List.getElem_toArray, List.getElem_cons_zero, List.getElem_cons_succ, List.setIfInBounds_toArray, List.set_cons_zero, List.set_cons_succ] at REST
    refine wp_region_held_drew (S := fun w' => (∀ b o, b < w4.heap.size → w'.cell? ⟨b, o, none⟩ = w4.cell? ⟨b, o, none⟩) ∧ w4.heap.size ≤ w'.heap.size ∧ Ext w4 w') (by kernel_rfl) ?hS0 (fun hHeld => ?_)
    case hS0 => exact sK (Ext.drew (Ext.refl _))
    have X0 : Ext w4 w4.drew := Ext.drew (Ext.refl w4)
    have EX := X0
    obtain ⟨X, hX⟩ : ∃ X, w4.drew = X := ⟨_, rfl⟩
    rw [hX] at EX hHeld ⊢
    clear hX X0
    refine wpAnyH_take (i := 0) (oi := _) (v := ?v0a) rfl (by kernel_rfl) (by kernel_rfl) (by kernel_rfl) (fun _ _ _ h => h) (Or.inl ⟨by rfl, ?y0a⟩) (by assumption) ?r0a
    case y0a => (intro w' hSw; (try dsimp only at hSw); go_simp; (try with_reducible rfl))
    try simp only [Act.put, List.getElem_toArray, List.getElem_cons_zero, List.getElem_cons_succ, List.setIfInBounds_toArray, List.set_cons_zero, List.set_cons_succ]
    refine wpAnyH_take (i := 1) (oi := _) (v := ?v1a) rfl (by kernel_rfl) (by kernel_rfl) (by kernel_rfl) (fun _ _ _ h => h) (Or.inl ⟨by rfl, ?y1a⟩) (by assumption) ?r1a
    case y1a => (intro w' hSw; (try dsimp only at hSw); go_simp; (try with_reducible rfl))
    try simp only [Act.put, List.getElem_toArray, List.getElem_cons_zero, List.getElem_cons_succ, List.setIfInBounds_toArray, List.set_cons_zero, List.set_cons_succ]
    refine wpAnyH_take (i := 2) (oi := _) (v := ?v2a) rfl (by kernel_rfl) (by kernel_rfl) (by kernel_rfl) (fun _ _ _ h => h) (Or.inl ⟨by rfl, ?y2a⟩) (by assumption) ?r2a
    case y2a => (intro w' hSw; (try dsimp only at hSw); go_simp; (try with_reducible rfl))
    try simp only [Act.put, List.getElem_toArray, List.getElem_cons_zero, List.getElem_cons_succ, List.setIfInBounds_toArray, List.set_cons_zero, List.set_cons_succ]
    refine wpAnyH_take (i := 3) (oi := _) (v := ?v3a) rfl (by kernel_rfl) (by kernel_rfl) (by kernel_rfl) (fun _ _ _ h => h) (Or.inl ⟨by rfl, ?y3a⟩) (by assumption) ?r3a
    case y3a => (intro w' hSw; (try dsimp only at hSw); go_simp; (try with_reducible rfl))
    try simp only [Act.put, List.getElem_toArray, List.getElem_cons_zero, List.getElem_cons_succ, List.setIfInBounds_toArray, List.set_cons_zero, List.set_cons_succ]
    refine wpAnyH_take (i := 4) (oi := _) (v := ?v4a) rfl (by kernel_rfl) (by kernel_rfl) (by kernel_rfl) (fun _ _ _ h => h) (Or.inl ⟨by rfl, ?y4a⟩) (by assumption) ?r4a
    case y4a => (intro w' hSw; (try dsimp only at hSw); go_simp; (try with_reducible rfl))
    try simp only [Act.put, List.getElem_toArray, List.getElem_cons_zero, List.getElem_cons_succ, List.setIfInBounds_toArray, List.set_cons_zero, List.set_cons_succ]
    refine wpAnyH_take (i := 5) (oi := _) (v := ?v5a) rfl (by kernel_rfl) (by kernel_rfl) (by kernel_rfl) (fun _ _ _ h => h) (Or.inl ⟨by rfl, ?y5a⟩) (by assumption) ?r5a
    case y5a => (intro w' hSw; (try dsimp only at hSw); go_simp; (try with_reducible rfl))
    try simp only [Act.put, List.getElem_toArray, List.getElem_cons_zero, List.getElem_cons_succ, List.setIfInBounds_toArray, List.set_cons_zero, List.set_cons_succ]
    refine wpAnyH_ready (rs := [6, 7]) (by kernel_rfl) (by simp) ?_
    refine AllReadyH.cons (o := _) rfl (fun K hK => ?_) (AllReadyH.cons (o := _) rfl (fun K hK => ?_) AllReadyH.nil)
    · go_simp
      refine Calls.mono (HA0.out _ (E2.trans EX)) ?_
      rintro e X ⟨rfl, hEX⟩
      dsimp only
      replace EX := EX.trans hEX
      (try replace OB := hid (OB.out.ext hEX))
      clear hHeld hEX
      refine hK.out _ _ (sK EX) (fun hHeld => ?_)
      clear hK K
      try simp only [Act.put, List.getElem_toArray, List.getElem_cons_zero, List.getElem_cons_succ, List.setIfInBounds_toArray, List.set_cons_zero, List.set_cons_succ]
      refine wpAnyH_ready (rs := [7]) (by kernel_rfl) (by simp) ?_
      refine AllReadyH.cons (o := _) rfl (fun K hK => ?_) AllReadyH.nil
      go_simp
      obtain ⟨Y, hY⟩ := absW EX (.cells (hrCells zeroHr) 38)
      have OB := hid (blkNew EX 38 (hrCells zeroHr))
      have LOB := EX.size
      replace EX := EX.alloc (.cells (hrCells zeroHr) 38)
      unfold hrCells at EX OB hY
      obtain ⟨ob, hob⟩ : ∃ ob, X.heap.size = ob := ⟨_, rfl⟩
      rw [hY] at EX OB
      rw [hob] at OB LOB
      unfold zeroHr at hY
      dsimp only at hY
      rw [hY, hob]
      clear hHeld hY hob
      obtain ⟨X, rfl⟩ : ∃ X, X = Y := ⟨_, rfl⟩
      refine hK.out _ _ (sK EX) (fun hHeld => ?_)
      clear hK K
      try simp only [Act.put, List.getElem_toArray, List.getElem_cons_zero, List.getElem_cons_succ, List.setIfInBounds_toArray, List.set_cons_zero, List.set_cons_succ]
      refine wpAnyH_ready (rs := [8]) (by kernel_rfl) (by simp) ?_
      refine AllReadyH.cons (o := _) rfl (fun K hK => ?_) AllReadyH.nil
      refine wp_store_mid 38 _ _ rfl ob 0 #[.int .i64 (wk0).wl, .int .i64 (wk0).wh, .int .i64 (wk0).rl, .int .i64 (wk0).rh, .int .i64 (wk0).tl, .int .i64 (wk0).th] rfl rfl (blk_there OB.out rfl) infoHr1 HO9.out ?_
      have OB2 := hid (OB.out.fill [.int .i64 (wk0).wl, .int .i64 (wk0).wh, .int .i64 (wk0).rl, .int .i64 (wk0).rh, .int .i64 (wk0).tl, .int .i64 (wk0).th] 0)
      have EX2 := ext_setCells EX LOB [.int .i64 (wk0).wl, .int .i64 (wk0).wh, .int .i64 (wk0).rl, .int .i64 (wk0).rh, .int .i64 (wk0).tl, .int .i64 (wk0).th] 0
      simp only [fillA, List.setIfInBounds_toArray, List.set_cons_zero, List.set_cons_succ] at OB2
      clear hHeld
      refine hK.out _ _ (sK EX2) (fun hHeld => ?_)
      clear hK K
      try simp only [Act.put, List.getElem_toArray, List.getElem_cons_zero, List.getElem_cons_succ, List.setIfInBounds_toArray, List.set_cons_zero, List.set_cons_succ]
      refine wpAnyH_done (by kernel_rfl) ?_ _
      exact REST _ _ _ _ _ _ _ _ _ EX2 LOB OB2
    · go_simp
      obtain ⟨Y, hY⟩ := absW EX (.cells (hrCells zeroHr) 38)
      have OB := hid (blkNew EX 38 (hrCells zeroHr))
      have LOB := EX.size
      replace EX := EX.alloc (.cells (hrCells zeroHr) 38)
      unfold hrCells at EX OB hY
      obtain ⟨ob, hob⟩ : ∃ ob, X.heap.size = ob := ⟨_, rfl⟩
      rw [hY] at EX OB
      rw [hob] at OB LOB
      unfold zeroHr at hY
      dsimp only at hY
      rw [hY, hob]
      clear hHeld hY hob
      obtain ⟨X, rfl⟩ : ∃ X, X = Y := ⟨_, rfl⟩
      refine hK.out _ _ (sK EX) (fun hHeld => ?_)
      clear hK K
      try simp only [Act.put, List.getElem_toArray, List.getElem_cons_zero, List.getElem_cons_succ, List.setIfInBounds_toArray, List.set_cons_zero, List.set_cons_succ]
      refine wpAnyH_ready (rs := [6]) (by kernel_rfl) (by simp) ?_
      refine AllReadyH.cons (o := _) rfl (fun K hK => ?_) AllReadyH.nil
      go_simp
      refine Calls.mono (HA0.out _ (E2.trans EX)) ?_
      rintro e X ⟨rfl, hEX⟩
      dsimp only
      replace EX := EX.trans hEX
      (try replace OB := hid (OB.out.ext hEX))
      clear hHeld hEX
      refine hK.out _ _ (sK EX) (fun hHeld => ?_)
      clear hK K
      try simp only [Act.put, List.getElem_toArray, List.getElem_cons_zero, List.getElem_cons_succ, List.setIfInBounds_toArray, List.set_cons_zero, List.set_cons_succ]
      refine wpAnyH_ready (rs := [8]) (by kernel_rfl) (by simp) ?_
      refine AllReadyH.cons (o := _) rfl (fun K hK => ?_) AllReadyH.nil
      refine wp_store_mid 38 _ _ rfl ob 0 #[.int .i64 (wk0).wl, .int .i64 (wk0).wh, .int .i64 (wk0).rl, .int .i64 (wk0).rh, .int .i64 (wk0).tl, .int .i64 (wk0).th] rfl rfl (blk_there OB.out rfl) infoHr1 HO9.out ?_
      have OB2 := hid (OB.out.fill [.int .i64 (wk0).wl, .int .i64 (wk0).wh, .int .i64 (wk0).rl, .int .i64 (wk0).rh, .int .i64 (wk0).tl, .int .i64 (wk0).th] 0)
      have EX2 := ext_setCells EX LOB [.int .i64 (wk0).wl, .int .i64 (wk0).wh, .int .i64 (wk0).rl, .int .i64 (wk0).rh, .int .i64 (wk0).tl, .int .i64 (wk0).th] 0
      simp only [fillA, List.setIfInBounds_toArray, List.set_cons_zero, List.set_cons_succ] at OB2
      clear hHeld
      refine hK.out _ _ (sK EX2) (fun hHeld => ?_)
      clear hK K
      try simp only [Act.put, List.getElem_toArray, List.getElem_cons_zero, List.getElem_cons_succ, List.setIfInBounds_toArray, List.set_cons_zero, List.set_cons_succ]
      refine wpAnyH_done (by kernel_rfl) ?_ _
      exact REST _ _ _ _ _ _ _ _ _ EX2 LOB OB2
end Go.Proofs.YtcpkdnegmblonaaDoor
