/- The spans of an hour in a possible scenario: the specification. -/
import Derived.Test.YtecamnhnjmldcaaGreatDoorBTopOpens24
import Derived.Test.YtecamnhnjmldcaaGreatDoorBTopOpens26
import Derived.Test.YtecamnhnjmldcaaGreatDoorB22
set_option linter.unusedSimpArgs false
set_option linter.unusedVariables false
namespace Go.Proofs.YtecamnhnjmldcaaGreatDoor
open Go.RowKit
set_option maxHeartbeats 400000 in
theorem rOne_any (a : Int) (w : World) :
    Calls Tryz.prog 104 #[.int .i64 a] w fun e w' => e = .returned (.agg #[.int .i64 a, .int .i64 a]) ∧ Ext w w' := by
  go_enter Tryz.func104, Tryz.ntmps104
  go_wp2
  exact bodyPost_ret (v := .agg #[.int .i64 a, .int .i64 a]) (by simp [results, Tryz.results104, go_sem]) rfl ⟨rfl, by (repeat' (first | with_reducible assumption | with_reducible exact Ext.refl _ | with_reducible refine Ext.alloc ?_ _ | with_reducible refine Ext.set ?_ ?_ _ | with_reducible refine Ext.drew ?_ | with_reducible refine Ext.drewN ?_ _ | with_reducible refine Ext.trans ?_ (by assumption) | (dsimp only; omega)))⟩
theorem obs_miss {seen : List Sg} {hs : List Hr} {h : Nat} (hh : h < hs.length) (hn : ∀ t ∈ seen, t.hour.toNat ≠ h) : (obsM seen hs).getD h zeroHr = hs.getD h zeroHr :=
  obsM_all (fun i x => i = h → x = hs.getD i zeroHr) seen hs (fun _ _ _ => rfl) (fun t ht _ e => absurd e (hn t ht)) h hh rfl
theorem obs_hit : ∀ (seen : List Sg) (hs : List Hr) (s : Sg), seen.Pairwise (fun a b => a.hour.toNat ≠ b.hour.toNat) → s ∈ seen → s.hour.toNat < hs.length → (obsM seen hs).getD s.hour.toNat zeroHr = justM s
  | [], _, _, _, h, _ => by cases h
  | t :: ts, hs, s, hp, hs', hl => by
    obtain ⟨h1, h2⟩ := List.pairwise_cons.1 hp
    have e : obsM (t :: ts) hs = obsM ts (hs.set t.hour.toNat (justM t)) := rfl
    rw [e]
    rcases List.mem_cons.1 hs' with rfl | hm
    · rw [obs_miss (by rw [List.length_set]; exact hl) (fun u hu => fun e => h1 u hu e.symm)]
      simp [List.getD, List.getElem?_set_self hl]
    · exact obs_hit ts _ s h2 hm (by rw [List.length_set]; exact hl)
theorem sg_pair {N : Nat} {seen : List Sg} (h : sgsB N seen = true) : seen.Pairwise (fun a b => a.hour.toNat ≠ b.hour.toNat) := by
  have hp := pair_cnt seen (fun t ht => by
    unfold sgsB at h
    rw [Bool.and_eq_true, List.all_eq_true] at h
    have := h.2 t ht
    unfold sgB at this
    simp only [Bool.and_eq_true, decide_eq_true_eq] at this
    exact this.1)
  refine List.Pairwise.imp_of_mem (fun {a b} ha hb hab => ?_) hp
  obtain ⟨x, hx, _⟩ := sg_hour h ha
  obtain ⟨z, hz, _⟩ := sg_hour h hb
  omega
set_option maxHeartbeats 8000000 in
set_option maxRecDepth 100000 in
theorem rAt_any (f : List (List Hr)) (A : Option Addr) (n c : Nat) (seen : List Sg) (SA : Option Addr) (m sc : Nat) (sn hr : Nat) (w : World) (h : FIn w f A n seen SA m) (hfc : fcB f = true) (hsg : sgsB (hoursN f) seen = true) (hsn : sn < n) (hhr : hr < hoursN f) :
    Calls Tryz.prog 101 #[.agg #[.slice A n c], .slice SA m sc, .int .i64 (sn : Int), .int .i64 (hr : Int)] w fun e w' => e = .returned ((obsM seen (f.getD sn [])).getD hr zeroHr).val ∧ Ext w w' := by
  have HONE := hid (fun a W => rOne_any a W)
  have HX := hid h.sc
  have HN := hid h.hn
  have HS := hid h.sg
  have HM := hid h.hl
  have hm2 := h.hm2
  have hl1 := ((fc_ok hfc).2.2.2.2 _ (mem_at f [] sn (by rw [h.hn]; exact hsn))).1
  have HHIT := hid (fun k (hk : k < m) (he : (seen.getD k zeroSg).hour = (hr : Int)) => (show (obsM seen (f.getD sn [])).getD hr zeroHr = justM (seen.getD k zeroSg) from by
    have := obs_hit seen (f.getD sn []) _ (sg_pair hsg) (mem_at seen zeroSg k (by rw [HM.out]; exact hk)) (by rw [he, Int.toNat_natCast, hl1]; exact hhr)
    rw [he, Int.toNat_natCast] at this
    exact this))
  have HMISS := hid (fun (hn : ∀ k, k < m → (seen.getD k zeroSg).hour ≠ (hr : Int)) => (show (obsM seen (f.getD sn [])).getD hr zeroHr = (f.getD sn []).getD hr zeroHr from
    obs_miss (by rw [hl1]; exact hhr) (fun t ht e => by
      obtain ⟨i, hi, rfl⟩ := List.getElem_of_mem ht
      obtain ⟨x, hx, _⟩ := sg_hour hsg ht
      refine hn i (by rw [← HM.out]; exact hi) ?_
      have e2 : seen.getD i zeroSg = seen[i] := by simp [List.getD, List.getElem?_eq_getElem hi]
      rw [e2]
      omega)))
  obtain ⟨b, off, rfl, hb, A', c', hc0, -, hhrs⟩ := HX.out.at_ HN.out hsn
  rw [hl1] at hc0
  obtain ⟨q, qoff, rfl, hq, d0, d1, d2, d3, d4, d5⟩ := hhrs.at_ hl1 hhr
  generalize (f.getD sn []).getD hr zeroHr = hz at *
  generalize (obsM seen (f.getD sn [])).getD hr zeroHr = RV at *
  have B0 := hid (show Blk _ _ _ _ from blk_old (blk_last w (.cells #[.slice (some ⟨b, off, none⟩) n c] 24)) (.cells (hrCells zeroHr) 143))
  have B1 := hid (show Blk _ _ _ _ from blk_last (w.alloc (.cells #[.slice (some ⟨b, off, none⟩) n c] 24)) (.cells (hrCells zeroHr) 143))
  rw [World.size_alloc] at B1
  have HC0 := hid hc0
  obtain ⟨D0, D1, D2, D3, D4, D5⟩ : _ ∧ _ ∧ _ ∧ _ ∧ _ ∧ _ := ⟨hid d0, hid d1, hid d2, hid d3, hid d4, hid d5⟩
  clear h hfc hsg hl1 hhrs d0 d1 d2 d3 d4 d5 hc0 HX
  generalize hoursN f = N at *
  unfold hrCells at *
  go_enter Tryz.func101, Tryz.ntmps101
  go_wp2
  go_loopw [9] (fun i wr => Ext w wr ∧ Hid (Blk wr w.heap.size 24 #[.slice (some ⟨b, off, none⟩) n c]) ∧ Hid (Blk wr (w.heap.size + 1) 143 (hrCells zeroHr)) ∧ ∃ k : Nat, k ≤ m ∧ i = .int .i64 k ∧ Hid (∀ j, j < k → (seen.getD j zeroSg).hour ≠ (hr : Int))) (fun i _ => m - (intOf i).toNat)
  case atStart => exact ⟨by (repeat' (first | with_reducible assumption | with_reducible exact Ext.refl _ | with_reducible refine Ext.alloc ?_ _ | with_reducible refine Ext.set ?_ ?_ _ | with_reducible refine Ext.drew ?_ | with_reducible refine Ext.drewN ?_ _ | with_reducible refine Ext.trans ?_ (by assumption) | (dsimp only; omega))), B0, B1, 0, Nat.zero_le _, rfl, hid (fun j hj => by omega)⟩
  case round =>
    obtain ⟨hE, K0, K1, k, hk, rfl, HA⟩ := hrel
    clear B0 B1
    by_cases hlt : k < m
    · obtain ⟨sb, soff, rfl, hsb, e0, e1, e2, e3⟩ := HS.out.at_ HM.out hlt
      have HH1 := hid (HHIT.out k hlt)
      have HNX := hid (fun (hn : (seen.getD k zeroSg).hour ≠ (hr : Int)) => (show ∀ j, j < k + 1 → (seen.getD j zeroSg).hour ≠ (hr : Int) from fun j hj => by
        by_cases hjk : j = k
        · subst hjk; exact hn
        · exact HA.out j (by omega)))
      generalize seen.getD k zeroSg = s at *
      obtain ⟨sh, sw, sr, st⟩ := s
      unfold justM at HH1
      dsimp only at *
      replace e0 := (hE.cell (p := ⟨sb, _, none⟩) hsb).trans e0
      replace e1 := (hE.cell (p := ⟨sb, _, none⟩) hsb).trans e1
      replace e2 := (hE.cell (p := ⟨sb, _, none⟩) hsb).trans e2
      replace e3 := (hE.cell (p := ⟨sb, _, none⟩) hsb).trans e3
      have qs := Nat.lt_of_lt_of_le hsb hE.size
      clear HHIT HMISS
      by_cases heq : sh = (hr : Int)
      · have hd : (sh == (hr : Int)) = true := by simp [heq]
        have HRV := hid (HH1.out heq)
        clear HH1 HNX HA heq
        go_wp2_with fail
        refine wp_abs (fun X => Blk X wr.heap.size 69 #[.int .i64 sw, .int .i64 sr, .int .i64 st] ∧ Ext wr X) ⟨blk_last _ _, by (repeat' (first | with_reducible assumption | with_reducible exact Ext.refl _ | with_reducible refine Ext.alloc ?_ _ | with_reducible refine Ext.set ?_ ?_ _ | with_reducible refine Ext.drew ?_ | with_reducible refine Ext.drewN ?_ _ | with_reducible refine Ext.trans ?_ (by assumption) | (dsimp only; omega)))⟩ ?_
        rintro U ⟨u1, EU⟩
        obtain ⟨x0, x1, x2⟩ : _ ∧ _ ∧ _ := ⟨u1.cell 0, u1.cell 1, u1.cell 2⟩
        have xz := u1.lt
        simp only [List.getElem?_toArray, List.getElem?_cons_zero, List.getElem?_cons_succ] at x0 x1 x2
        unfold hrCells at K1
        have V2 := hid (show Blk U (w.heap.size + 1) 143 _ from K1.out.ext EU)
        have HEU := hid (hE.trans EU)
        have C1 := hid (fun W => HONE.out sw W)
        have C2 := hid (fun W => HONE.out sr W)
        have C3 := hid (fun W => HONE.out st W)
        have kz1 := K1.out.lt
        obtain ⟨k2, hk2⟩ : ∃ k, w.heap.size + 1 = k := ⟨_, rfl⟩
        obtain ⟨k3, hk3⟩ : ∃ k, wr.heap.size = k := ⟨_, rfl⟩
        have n1 : ¬ k3 = k2 := by omega
        rw [hk2] at V2 ⊢
        rw [hk3] at x0 x1 x2 xz ⊢
        have HK2 := hid hk2
        clear hk2 hk3 kz1 u1 e0 e1 e2 e3 qs K0 K1 hE EU
        refine wp_region_held_drew (S := fun w' => (∀ b o, b < U.heap.size → ¬ b = k2 → w'.cell? ⟨b, o, none⟩ = U.cell? ⟨b, o, none⟩) ∧ U.heap.size ≤ w'.heap.size) (by kernel_rfl) ?hS0 (fun hHeld => ?_)
        case hS0 => exact sG (Ext.drew (Ext.refl _)) _
        have EX : Ext U U.drew := Ext.drew (Ext.refl U)
        replace V2 := hid (V2.out.ext EX)
        obtain ⟨X, hX⟩ : ∃ X, U.drew = X := ⟨_, rfl⟩
        rw [hX] at EX hHeld V2 ⊢
        clear hX
        refine tk1 (i := 0) (v := ?v0a) rfl ?y0a ?r0a
        case y0a => (intro w' hSw; (try dsimp only at hSw); go_simp; (try with_reducible rfl))
        try simp only [Act.put, sq1, sq2, sq3, sq4, sq5, sq6]
        refine tk1 (i := 1) (v := ?v1a) rfl ?y1a ?r1a
        case y1a => (intro w' hSw; (try dsimp only at hSw); go_simp; (try with_reducible rfl))
        try simp only [Act.put, sq1, sq2, sq3, sq4, sq5, sq6]
        refine tk1 (i := 3) (v := ?v3a) rfl ?y3a ?r3a
        case y3a => (intro w' hSw; (try dsimp only at hSw); go_simp; (try with_reducible rfl))
        try simp only [Act.put, sq1, sq2, sq3, sq4, sq5, sq6]
        refine tk1 (i := 4) (v := ?v4a) rfl ?y4a ?r4a
        case y4a => (intro w' hSw; (try dsimp only at hSw); go_simp; (try with_reducible rfl))
        try simp only [Act.put, sq1, sq2, sq3, sq4, sq5, sq6]
        refine tk1 (i := 6) (v := ?v6a) rfl ?y6a ?r6a
        case y6a => (intro w' hSw; (try dsimp only at hSw); go_simp; (try with_reducible rfl))
        try simp only [Act.put, sq1, sq2, sq3, sq4, sq5, sq6]
        refine tk1 (i := 7) (v := ?v7a) rfl ?y7a ?r7a
        case y7a => (intro w' hSw; (try dsimp only at hSw); go_simp; (try with_reducible rfl))
        try simp only [Act.put, sq1, sq2, sq3, sq4, sq5, sq6]
        refine wpAnyH_ready (rs := [2]) (by kernel_rfl) (by simp) ?_
        refine AllReadyH.cons (o := _) rfl (fun K hK => ?_) AllReadyH.nil
        go_simp
        refine Calls.mono (C1.out _) ?_
        rintro e X ⟨rfl, hEX⟩
        dsimp only
        replace EX := EX.trans hEX
        replace V2 := hid (V2.out.ext hEX)
        clear hHeld hEX
        refine hK.out _ _ (sG EX _) (fun hHeld => ?_)
        clear hK K
        try simp only [Act.put, sq1, sq2, sq3, sq4, sq5, sq6]
        refine wpAnyH_ready (rs := [5]) (by kernel_rfl) (by simp) ?_
        refine AllReadyH.cons (o := _) rfl (fun K hK => ?_) AllReadyH.nil
        go_simp
        refine Calls.mono (C2.out _) ?_
        rintro e X ⟨rfl, hEX⟩
        dsimp only
        replace EX := EX.trans hEX
        replace V2 := hid (V2.out.ext hEX)
        clear hHeld hEX
        refine hK.out _ _ (sG EX _) (fun hHeld => ?_)
        clear hK K
        try simp only [Act.put, sq1, sq2, sq3, sq4, sq5, sq6]
        refine wpAnyH_ready (rs := [8]) (by kernel_rfl) (by simp) ?_
        refine AllReadyH.cons (o := _) rfl (fun K hK => ?_) AllReadyH.nil
        go_simp
        refine Calls.mono (C3.out _) ?_
        rintro e X ⟨rfl, hEX⟩
        dsimp only
        replace EX := EX.trans hEX
        replace V2 := hid (V2.out.ext hEX)
        clear hHeld hEX
        refine hK.out _ _ (sG EX _) (fun hHeld => ?_)
        clear hK K
        try simp only [Act.put, sq1, sq2, sq3, sq4, sq5, sq6]
        refine tk1 (i := 9) (v := ?v9b) rfl ?y9b ?r9b
        case y9b => (intro w' hSw; (try dsimp only at hSw); go_simp; (try with_reducible rfl))
        try simp only [Act.put, sq1, sq2, sq3, sq4, sq5, sq6]
        refine wpAnyH_ready (rs := [10]) (by kernel_rfl) (by simp) ?_
        refine AllReadyH.cons (o := _) rfl (fun K hK => ?_) AllReadyH.nil
        have HO := hr_one ⟨sw, sw, sr, sr, st, st⟩
        unfold hrCells at HO
        dsimp only at HO
        refine wp_store_mid 143 _ _ rfl k2 0 #[.int .i64 sw, .int .i64 sw, .int .i64 sr, .int .i64 sr, .int .i64 st, .int .i64 st] rfl rfl (blk_there V2.out rfl) infoHr1 HO ?_
        clear hHeld HO
        have R2 := hid (V2.out.fill [.int .i64 sw, .int .i64 sw, .int .i64 sr, .int .i64 sr, .int .i64 st, .int .i64 st] 0)
        have RX := hid (ext_setCells (HEU.out.trans EX) (b := k2) (by have := HK2.out; omega) [.int .i64 sw, .int .i64 sw, .int .i64 sr, .int .i64 sr, .int .i64 st, .int .i64 st] 0)
        simp only [fillA, List.setIfInBounds_toArray, List.set_cons_zero, List.set_cons_succ] at R2
        refine hK.out _ _ (sGs EX _ _ _) (fun hHeld => ?_)
        clear hK K
        try simp only [Act.put, sq1, sq2, sq3, sq4, sq5, sq6]
        refine wpAnyH_done (by kernel_rfl) ?_ _
        clear hHeld
        obtain ⟨r0, r1, r2, r3, r4, r5⟩ : _ ∧ _ ∧ _ ∧ _ ∧ _ ∧ _ := ⟨R2.out.cell 0, R2.out.cell 1, R2.out.cell 2, R2.out.cell 3, R2.out.cell 4, R2.out.cell 5⟩
        simp only [List.getElem?_toArray, List.getElem?_cons_zero, List.getElem?_cons_succ] at r0 r1 r2 r3 r4 r5
        obtain ⟨Z, hZ⟩ : ∃ Z, World.setCells X k2 0 [.int .i64 sw, .int .i64 sw, .int .i64 sr, .int .i64 sr, .int .i64 st, .int .i64 st] = Z := ⟨_, rfl⟩
        rw [hZ] at r0 r1 r2 r3 r4 r5 RX
        have hZ2 : World.setCells X k2 0 (#[.int .i64 sw, .int .i64 sw, .int .i64 sr, .int .i64 sr, .int .i64 st, .int .i64 st] : Array Value).toList = Z := hZ
        first | rw [hZ2] | rw [hZ]
        clear hZ hZ2 x0 x1 x2 xz C1 C2 C3 HONE V2
        go_wp2
        exact bodyPost_ret (v := .agg #[.int .i64 sw, .int .i64 sw, .int .i64 sr, .int .i64 sr, .int .i64 st, .int .i64 st]) (by simp [results, Tryz.results101, go_sem, r0, r1, r2, r3, r4, r5]) rfl ⟨by rw [HRV.out]; rfl, RX.out⟩
      · have hd : (sh == (hr : Int)) = false := by simp [heq]
        have HN2 := hid (HNX.out heq)
        clear HH1 HNX HA heq
        go_wp2
        go_roundw
        case rel => exact ⟨hE, K0, K1, k + 1, by omega, by go_num, HN2⟩
        case measure => simp [intOf]; omega
    · obtain rfl : k = m := by omega
      have HRV := hid (HMISS.out HA.out)
      have a0 := K0.out.cell 0
      have z0 := K0.out.lt
      have z1 := K1.out.lt
      simp only [List.getElem?_toArray, List.getElem?_cons_zero] at a0
      have c0 := (hE.cell (p := ⟨b, _, none⟩) hb).trans HC0.out
      have d0 := (hE.cell (p := ⟨q, _, none⟩) hq).trans D0.out
      have d1 := (hE.cell (p := ⟨q, _, none⟩) hq).trans D1.out
      have d2 := (hE.cell (p := ⟨q, _, none⟩) hq).trans D2.out
      have d3 := (hE.cell (p := ⟨q, _, none⟩) hq).trans D3.out
      have d4 := (hE.cell (p := ⟨q, _, none⟩) hq).trans D4.out
      have d5 := (hE.cell (p := ⟨q, _, none⟩) hq).trans D5.out
      have q1 := Nat.lt_of_lt_of_le hb hE.size
      have q2 := Nat.lt_of_lt_of_le hq hE.size
      have hsn1 : (sn : Int) < (n : Int) := by omega
      have hhr1 : (hr : Int) < (N : Int) := by omega
      have HO := hid (hr_one hz)
      unfold hrCells at HO K1
      have R1 := hid (K1.out.fill [.int .i64 hz.wl, .int .i64 hz.wh, .int .i64 hz.rl, .int .i64 hz.rh, .int .i64 hz.tl, .int .i64 hz.th] 0)
      have RX := hid (ext_setCells hE (b := w.heap.size + 1) (by omega) [.int .i64 hz.wl, .int .i64 hz.wh, .int .i64 hz.rl, .int .i64 hz.rh, .int .i64 hz.tl, .int .i64 hz.th] 0)
      simp only [fillA, List.setIfInBounds_toArray, List.set_cons_zero, List.set_cons_succ] at R1
      clear HHIT HMISS HA D0 D1 D2 D3 D4 D5 HC0 HONE
      go_wp2_with (refine wpList_store_mid rfl 143 _ _ rfl (w.heap.size + 1) 0 (#[.int .i64 hz.wl, .int .i64 hz.wh, .int .i64 hz.rl, .int .i64 hz.rh, .int .i64 hz.tl, .int .i64 hz.th]) rfl rfl (blk_there K1.out rfl) infoHr1 HO.out ?_)
      obtain ⟨Z, hZ⟩ : ∃ Z, World.setCells wr (w.heap.size + 1) 0 [.int .i64 hz.wl, .int .i64 hz.wh, .int .i64 hz.rl, .int .i64 hz.rh, .int .i64 hz.tl, .int .i64 hz.th] = Z := ⟨_, rfl⟩
      rw [hZ] at R1 RX
      have hZ2 : World.setCells wr (w.heap.size + 1) 0 (#[.int .i64 hz.wl, .int .i64 hz.wh, .int .i64 hz.rl, .int .i64 hz.rh, .int .i64 hz.tl, .int .i64 hz.th] : Array Value).toList = Z := hZ
      first | rw [hZ2] | rw [hZ]
      clear hZ hZ2 HO
      obtain ⟨r0, r1, r2, r3, r4, r5⟩ : _ ∧ _ ∧ _ ∧ _ ∧ _ ∧ _ := ⟨R1.out.cell 0, R1.out.cell 1, R1.out.cell 2, R1.out.cell 3, R1.out.cell 4, R1.out.cell 5⟩
      simp only [List.getElem?_toArray, List.getElem?_cons_zero, List.getElem?_cons_succ] at r0 r1 r2 r3 r4 r5
      exact bodyPost_ret (v := .agg #[.int .i64 hz.wl, .int .i64 hz.wh, .int .i64 hz.rl, .int .i64 hz.rh, .int .i64 hz.tl, .int .i64 hz.th]) (by simp [results, Tryz.results101, go_sem, r0, r1, r2, r3, r4, r5]) rfl ⟨by rw [HRV.out]; rfl, RX.out⟩
end Go.Proofs.YtecamnhnjmldcaaGreatDoor
/- sure and may of the specification. -/
set_option linter.unusedSimpArgs false
set_option linter.unusedVariables false
namespace Go.Proofs.YtecamnhnjmldcaaGreatDoor
open Go.RowKit
def sureS (l : Lm) (h : Hr) : Bool := decide (h.wh ≤ l.wind) && (decide (h.rh ≤ l.rain) && (decide (l.tl ≤ h.tl) && decide (h.th ≤ l.th)))
def mayS (l : Lm) (h : Hr) : Bool := decide (h.wl ≤ l.wind) && (decide (h.rl ≤ l.rain) && (decide (h.tl ≤ l.th) && decide (l.tl ≤ h.th)))
theorem sureS_eq {l : Lm} {h : Hr} (hh : h.tl ≤ h.th) : sureS l h = surB l h := by
  unfold sureS surB spB
  simp [hh]
theorem mayS_eq {l : Lm} {h : Hr} (hh : h.tl ≤ h.th) (hl : l.tl ≤ l.th) : mayS l h = mayB l h := by
  unfold mayS mayB
  have e : decide (max h.tl l.tl ≤ min h.th l.th) = (decide (h.tl ≤ l.th) && decide (l.tl ≤ h.th)) := by
    by_cases a : h.tl ≤ l.th <;> by_cases b : l.tl ≤ h.th <;> simp [a, b] <;> omega
  rw [e]
set_option maxHeartbeats 1000000 in
theorem rsure_any (h : Hr) (l : Lm) (w : World) : Calls Tryz.prog 102 #[h.val, l.val] w fun e w' => e = .returned (.bool (sureS l h)) ∧ Ext w w' := by
  unfold sureS Lm.val Hr.val
  obtain ⟨wi, ra, tl, th⟩ := l
  obtain ⟨wl, wh, rl, rh, hl, hh⟩ := h
  dsimp only
  by_cases h1 : wh ≤ wi
  case neg => go_enter Tryz.func102, Tryz.ntmps102
              go_wp2
              go_ret
              exact ⟨ret_bool (by first | (simp [*]; done) | (simp [*]; omega)), by (repeat' (first | with_reducible assumption | with_reducible exact Ext.refl _ | with_reducible refine Ext.alloc ?_ _ | with_reducible refine Ext.set ?_ ?_ _ | with_reducible refine Ext.drew ?_ | with_reducible refine Ext.drewN ?_ _ | with_reducible refine Ext.trans ?_ (by assumption) | (dsimp only; omega)))⟩
  by_cases h2 : rh ≤ ra
  case neg => go_enter Tryz.func102, Tryz.ntmps102
              go_wp2
              go_ret
              exact ⟨ret_bool (by first | (simp [*]; done) | (simp [*]; omega)), by (repeat' (first | with_reducible assumption | with_reducible exact Ext.refl _ | with_reducible refine Ext.alloc ?_ _ | with_reducible refine Ext.set ?_ ?_ _ | with_reducible refine Ext.drew ?_ | with_reducible refine Ext.drewN ?_ _ | with_reducible refine Ext.trans ?_ (by assumption) | (dsimp only; omega)))⟩
  by_cases h3 : tl ≤ hl
  case neg => go_enter Tryz.func102, Tryz.ntmps102
              go_wp2
              go_ret
              exact ⟨ret_bool (by first | (simp [*]; done) | (simp [*]; omega)), by (repeat' (first | with_reducible assumption | with_reducible exact Ext.refl _ | with_reducible refine Ext.alloc ?_ _ | with_reducible refine Ext.set ?_ ?_ _ | with_reducible refine Ext.drew ?_ | with_reducible refine Ext.drewN ?_ _ | with_reducible refine Ext.trans ?_ (by assumption) | (dsimp only; omega)))⟩
  go_enter Tryz.func102, Tryz.ntmps102
  go_wp2
  go_ret
  exact ⟨ret_bool (by first | (simp [*]; done) | (simp [*]; omega)), by (repeat' (first | with_reducible assumption | with_reducible exact Ext.refl _ | with_reducible refine Ext.alloc ?_ _ | with_reducible refine Ext.set ?_ ?_ _ | with_reducible refine Ext.drew ?_ | with_reducible refine Ext.drewN ?_ _ | with_reducible refine Ext.trans ?_ (by assumption) | (dsimp only; omega)))⟩
set_option maxHeartbeats 1000000 in
theorem rmay_any (h : Hr) (l : Lm) (w : World) : Calls Tryz.prog 103 #[h.val, l.val] w fun e w' => e = .returned (.bool (mayS l h)) ∧ Ext w w' := by
  unfold mayS Lm.val Hr.val
  obtain ⟨wi, ra, tl, th⟩ := l
  obtain ⟨wl, wh, rl, rh, hl, hh⟩ := h
  dsimp only
  by_cases h1 : wl ≤ wi
  case neg => go_enter Tryz.func103, Tryz.ntmps103
              go_wp2
              go_ret
              exact ⟨ret_bool (by first | (simp [*]; done) | (simp [*]; omega)), by (repeat' (first | with_reducible assumption | with_reducible exact Ext.refl _ | with_reducible refine Ext.alloc ?_ _ | with_reducible refine Ext.set ?_ ?_ _ | with_reducible refine Ext.drew ?_ | with_reducible refine Ext.drewN ?_ _ | with_reducible refine Ext.trans ?_ (by assumption) | (dsimp only; omega)))⟩
  by_cases h2 : rl ≤ ra
  case neg => go_enter Tryz.func103, Tryz.ntmps103
              go_wp2
              go_ret
              exact ⟨ret_bool (by first | (simp [*]; done) | (simp [*]; omega)), by (repeat' (first | with_reducible assumption | with_reducible exact Ext.refl _ | with_reducible refine Ext.alloc ?_ _ | with_reducible refine Ext.set ?_ ?_ _ | with_reducible refine Ext.drew ?_ | with_reducible refine Ext.drewN ?_ _ | with_reducible refine Ext.trans ?_ (by assumption) | (dsimp only; omega)))⟩
  by_cases h3 : hl ≤ th
  case neg => go_enter Tryz.func103, Tryz.ntmps103
              go_wp2
              go_ret
              exact ⟨ret_bool (by first | (simp [*]; done) | (simp [*]; omega)), by (repeat' (first | with_reducible assumption | with_reducible exact Ext.refl _ | with_reducible refine Ext.alloc ?_ _ | with_reducible refine Ext.set ?_ ?_ _ | with_reducible refine Ext.drew ?_ | with_reducible refine Ext.drewN ?_ _ | with_reducible refine Ext.trans ?_ (by assumption) | (dsimp only; omega)))⟩
  go_enter Tryz.func103, Tryz.ntmps103
  go_wp2
  go_ret
  exact ⟨ret_bool (by first | (simp [*]; done) | (simp [*]; omega)), by (repeat' (first | with_reducible assumption | with_reducible exact Ext.refl _ | with_reducible refine Ext.alloc ?_ _ | with_reducible refine Ext.set ?_ ?_ _ | with_reducible refine Ext.drew ?_ | with_reducible refine Ext.drewN ?_ _ | with_reducible refine Ext.trans ?_ (by assumption) | (dsimp only; omega)))⟩
end Go.Proofs.YtecamnhnjmldcaaGreatDoor
