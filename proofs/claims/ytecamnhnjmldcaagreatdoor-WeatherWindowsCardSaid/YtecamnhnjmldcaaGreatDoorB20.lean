/- The spans of an hour in a possible scenario: the specification. -/
import Derived.Test.YtecamnhnjmldcaaGreatDoorB17
import Derived.Test.YtecamnhnjmldcaaGreatDoorB19
import Derived.Test.YtecamnhnjmldcaaGreatDoorB15
import Derived.Maps.AppendAt
set_option linter.unusedSimpArgs false
set_option linter.unusedVariables false
namespace Go.Proofs.YtecamnhnjmldcaaGreatDoor
open Go.RowKit
set_option maxHeartbeats 400000 in
theorem rOne_any (a : Int) (w : World) :
    Calls Tryz.prog 104 #[.int .i64 a] w fun e w' => e = .returned (.agg #[.int .i64 a, .int .i64 a]) ∧ Ext w w' := by
  go_enter Tryz.func104, Tryz.ntmps104
  go_wp2
  exact bodyPost_ret (v := .agg #[.int .i64 a, .int .i64 a]) (by simp [results, Tryz.results104, go_sem]) rfl ⟨rfl, by (repeat' (first | with_reducible assumption | with_reducible exact Ext.refl _ | with_reducible refine Ext.alloc ?_ _ | with_reducible refine Ext.set ?_ ?_ _ | with_reducible refine Ext.drew ?_ | with_reducible refine Ext.drewN ?_ _ | with_reducible refine Ext.trans ?_ (by assumption) | (dsimp only; omega)))⟩
theorem obs_miss {seen : List Sg} {hs : List Hr} {h : Nat} (hh : h < hs.length) (hn : ∀ t ∈ seen, t.hour.toNat ≠ h) : (obsM seen hs).getD h zeroHr = hs.getD h zeroHr :=
  obsM_all (fun i x => i = h → x = hs.getD i zeroHr) seen hs (fun _ _ _ => rfl) (fun t ht _ e => absurd e (hn t ht)) h hh rfl
theorem obs_hit : ∀ (seen : List Sg) (hs : List Hr) (s : Sg), seen.Pairwise (fun a b => a.hour.toNat ≠ b.hour.toNat) → s ∈ seen → s.hour.toNat < hs.length → (obsM seen hs).getD s.hour.toNat zeroHr = justM s
  | [], _, _, _, h, _ => by cases h
  | t :: ts, hs, s, hp, hs', hl => by
    obtain ⟨h1, h2⟩ := List.pairwise_cons.1 hp
    have e : obsM (t :: ts) hs = obsM ts (hs.set t.hour.toNat (justM t)) := rfl
    rw [e]
    rcases List.mem_cons.1 hs' with rfl | hm
    · rw [obs_miss (by rw [List.length_set]; exact hl) (fun u hu => fun e => h1 u hu e.symm)]
      simp [List.getD, List.getElem?_set_self hl]
    · exact obs_hit ts _ s h2 hm (by rw [List.length_set]; exact hl)
theorem sg_pair {N : Nat} {seen : List Sg} (h : sgsB N seen = true) : seen.Pairwise (fun a b => a.hour.toNat ≠ b.hour.toNat) := by
  have hp := pair_cnt seen (fun t ht => by
    unfold sgsB at h
    rw [Bool.and_eq_true, List.all_eq_true] at h
    have := h.2 t ht
    unfold sgB at this
    simp only [Bool.and_eq_true, decide_eq_true_eq] at this
    exact this.1)
  refine List.Pairwise.imp_of_mem (fun {a b} ha hb hab => ?_) hp
  obtain ⟨x, hx, _⟩ := sg_hour h ha
  obtain ⟨z, hz, _⟩ := sg_hour h hb
  omega
set_option maxHeartbeats 8000000 in
set_option maxRecDepth 100000 in
theorem rAt_any (f : List (List Hr)) (A : Option Addr) (n c : Nat) (seen : List Sg) (SA : Option Addr) (m sc : Nat) (sn hr : Nat) (w : World) (h : FIn w f A n seen SA m) (hfc : fcB f = true) (hsg : sgsB (hoursN f) seen = true) (hsn : sn < n) (hhr : hr < hoursN f) :
    Calls Tryz.prog 101 #[.agg #[.slice A n c], .slice SA m sc, .int .i64 (sn : Int), .int .i64 (hr : Int)] w fun e w' => e = .returned ((obsM seen (f.getD sn [])).getD hr zeroHr).val ∧ Ext w w' := by
  have HONE := hid (fun a W => rOne_any a W)
  have HX := hid h.sc
  have HN := hid h.hn
  have HS := hid h.sg
  have HM := hid h.hl
  have hm2 := h.hm2
  have hl1 := ((fc_ok hfc).2.2.2.2 _ (mem_at f [] sn (by rw [h.hn]; exact hsn))).1
  have HHIT := hid (fun k (hk : k < m) (he : (seen.getD k zeroSg).hour = (hr : Int)) => (show (obsM seen (f.getD sn [])).getD hr zeroHr = justM (seen.getD k zeroSg) from by
    have := obs_hit seen (f.getD sn []) _ (sg_pair hsg) (mem_at seen zeroSg k (by rw [HM.out]; exact hk)) (by rw [he, Int.toNat_natCast, hl1]; exact hhr)
    rw [he, Int.toNat_natCast] at this
    exact this))
  have HMISS := hid (fun (hn : ∀ k, k < m → (seen.getD k zeroSg).hour ≠ (hr : Int)) => (show (obsM seen (f.getD sn [])).getD hr zeroHr = (f.getD sn []).getD hr zeroHr from
    obs_miss (by rw [hl1]; exact hhr) (fun t ht e => by
      obtain ⟨i, hi, rfl⟩ := List.getElem_of_mem ht
      obtain ⟨x, hx, _⟩ := sg_hour hsg ht
      refine hn i (by rw [← HM.out]; exact hi) ?_
      have e2 : seen.getD i zeroSg = seen[i] := by simp [List.getD, List.getElem?_eq_getElem hi]
      rw [e2]
      omega)))
  obtain ⟨b, off, rfl, hb, A', c', hc0, -, hhrs⟩ := HX.out.at_ HN.out hsn
  rw [hl1] at hc0
  obtain ⟨q, qoff, rfl, hq, d0, d1, d2, d3, d4, d5⟩ := hhrs.at_ hl1 hhr
  generalize (f.getD sn []).getD hr zeroHr = hz at *
  generalize (obsM seen (f.getD sn [])).getD hr zeroHr = RV at *
  have B0 := hid (show Blk _ _ _ _ from blk_old (blk_last w (.cells #[.slice (some ⟨b, off, none⟩) n c] 24)) (.cells (hrCells zeroHr) 143))
  have B1 := hid (show Blk _ _ _ _ from blk_last (w.alloc (.cells #[.slice (some ⟨b, off, none⟩) n c] 24)) (.cells (hrCells zeroHr) 143))
  rw [World.size_alloc] at B1
  have HC0 := hid hc0
  obtain ⟨D0, D1, D2, D3, D4, D5⟩ : _ ∧ _ ∧ _ ∧ _ ∧ _ ∧ _ := ⟨hid d0, hid d1, hid d2, hid d3, hid d4, hid d5⟩
  clear h hfc hsg hl1 hhrs d0 d1 d2 d3 d4 d5 hc0 HX
  generalize hoursN f = N at *
  unfold hrCells at *
  go_enter Tryz.func101, Tryz.ntmps101
  go_wp2
  go_loopw [9] (fun i wr => Ext w wr ∧ Hid (Blk wr w.heap.size 24 #[.slice (some ⟨b, off, none⟩) n c]) ∧ Hid (Blk wr (w.heap.size + 1) 143 (hrCells zeroHr)) ∧ ∃ k : Nat, k ≤ m ∧ i = .int .i64 k ∧ Hid (∀ j, j < k → (seen.getD j zeroSg).hour ≠ (hr : Int))) (fun i _ => m - (intOf i).toNat)
  case atStart => exact ⟨by (repeat' (first | with_reducible assumption | with_reducible exact Ext.refl _ | with_reducible refine Ext.alloc ?_ _ | with_reducible refine Ext.set ?_ ?_ _ | with_reducible refine Ext.drew ?_ | with_reducible refine Ext.drewN ?_ _ | with_reducible refine Ext.trans ?_ (by assumption) | (dsimp only; omega))), B0, B1, 0, Nat.zero_le _, rfl, hid (fun j hj => by omega)⟩
  case round =>
    obtain ⟨hE, K0, K1, k, hk, rfl, HA⟩ := hrel
    clear B0 B1
    by_cases hlt : k < m
    · obtain ⟨sb, soff, rfl, hsb, e0, e1, e2, e3⟩ := HS.out.at_ HM.out hlt
      have HH1 := hid (HHIT.out k hlt)
      have HNX := hid (fun (hn : (seen.getD k zeroSg).hour ≠ (hr : Int)) => (show ∀ j, j < k + 1 → (seen.getD j zeroSg).hour ≠ (hr : Int) from fun j hj => by
        by_cases hjk : j = k
        · subst hjk; exact hn
        · exact HA.out j (by omega)))
      generalize seen.getD k zeroSg = s at *
      obtain ⟨sh, sw, sr, st⟩ := s
      unfold justM at HH1
      dsimp only at *
      replace e0 := (hE.cell (p := ⟨sb, _, none⟩) hsb).trans e0
      replace e1 := (hE.cell (p := ⟨sb, _, none⟩) hsb).trans e1
      replace e2 := (hE.cell (p := ⟨sb, _, none⟩) hsb).trans e2
      replace e3 := (hE.cell (p := ⟨sb, _, none⟩) hsb).trans e3
      have qs := Nat.lt_of_lt_of_le hsb hE.size
      clear HHIT HMISS
      by_cases heq : sh = (hr : Int)
      · have hd : (sh == (hr : Int)) = true := by simp [heq]
        have HRV := hid (HH1.out heq)
        clear HH1 HNX HA heq
        go_wp2_with fail
        refine wp_abs (fun X => Blk X wr.heap.size 69 #[.int .i64 sw, .int .i64 sr, .int .i64 st] ∧ Ext wr X) ⟨blk_last _ _, by (repeat' (first | with_reducible assumption | with_reducible exact Ext.refl _ | with_reducible refine Ext.alloc ?_ _ | with_reducible refine Ext.set ?_ ?_ _ | with_reducible refine Ext.drew ?_ | with_reducible refine Ext.drewN ?_ _ | with_reducible refine Ext.trans ?_ (by assumption) | (dsimp only; omega)))⟩ ?_
        rintro U ⟨u1, EU⟩
        obtain ⟨x0, x1, x2⟩ : _ ∧ _ ∧ _ := ⟨u1.cell 0, u1.cell 1, u1.cell 2⟩
        have xz := u1.lt
        simp only [List.getElem?_toArray, List.getElem?_cons_zero, List.getElem?_cons_succ] at x0 x1 x2
        unfold hrCells at K1
        have V2 := hid (show Blk U (w.heap.size + 1) 143 _ from K1.out.ext EU)
        have HEU := hid (hE.trans EU)
        have C1 := hid (fun W => HONE.out sw W)
        have C2 := hid (fun W => HONE.out sr W)
        have C3 := hid (fun W => HONE.out st W)
        have kz1 := K1.out.lt
        obtain ⟨k2, hk2⟩ : ∃ k, w.heap.size + 1 = k := ⟨_, rfl⟩
        obtain ⟨k3, hk3⟩ : ∃ k, wr.heap.size = k := ⟨_, rfl⟩
        have n1 : ¬ k3 = k2 := by omega
        rw [hk2] at V2 ⊢
        rw [hk3] at x0 x1 x2 xz ⊢
        have HK2 := hid hk2
        clear hk2 hk3 kz1 u1 e0 e1 e2 e3 qs K0 K1 hE EU
        refine wp_region_held_drew (S := fun w' => (∀ b o, b < U.heap.size → ¬ b = k2 → w'.cell? ⟨b, o, none⟩ = U.cell? ⟨b, o, none⟩) ∧ U.heap.size ≤ w'.heap.size) (by kernel_rfl) ?hS0 (fun hHeld => ?_)
        case hS0 => exact sG (Ext.drew (Ext.refl _)) _
        have EX : Ext U U.drew := Ext.drew (Ext.refl U)
        replace V2 := hid (V2.out.ext EX)
        obtain ⟨X, hX⟩ : ∃ X, U.drew = X := ⟨_, rfl⟩
        rw [hX] at EX hHeld V2 ⊢
        clear hX
        refine wpAnyH_take (i := 0) (oi := _) (v := ?v0a) rfl (by kernel_rfl) (by kernel_rfl) (by kernel_rfl) (fun _ _ _ h => h) (Or.inl ⟨by rfl, ?y0a⟩) (by assumption) ?r0a
        case y0a => (intro w' hSw; (try dsimp only at hSw); go_simp; (try with_reducible rfl))
        try simp only [Act.put, List.getElem_toArray, List.getElem_cons_zero, List.getElem_cons_succ, List.setIfInBounds_toArray, List.set_cons_zero, List.set_cons_succ]
        refine wpAnyH_take (i := 1) (oi := _) (v := ?v1a) rfl (by kernel_rfl) (by kernel_rfl) (by kernel_rfl) (fun _ _ _ h => h) (Or.inl ⟨by rfl, ?y1a⟩) (by assumption) ?r1a
        case y1a => (intro w' hSw; (try dsimp only at hSw); go_simp; (try with_reducible rfl))
        try simp only [Act.put, List.getElem_toArray, List.getElem_cons_zero, List.getElem_cons_succ, List.setIfInBounds_toArray, List.set_cons_zero, List.set_cons_succ]
        refine wpAnyH_take (i := 3) (oi := _) (v := ?v3a) rfl (by kernel_rfl) (by kernel_rfl) (by kernel_rfl) (fun _ _ _ h => h) (Or.inl ⟨by rfl, ?y3a⟩) (by assumption) ?r3a
        case y3a => (intro w' hSw; (try dsimp only at hSw); go_simp; (try with_reducible rfl))
        try simp only [Act.put, List.getElem_toArray, List.getElem_cons_zero, List.getElem_cons_succ, List.setIfInBounds_toArray, List.set_cons_zero, List.set_cons_succ]
        refine wpAnyH_take (i := 4) (oi := _) (v := ?v4a) rfl (by kernel_rfl) (by kernel_rfl) (by kernel_rfl) (fun _ _ _ h => h) (Or.inl ⟨by rfl, ?y4a⟩) (by assumption) ?r4a
        case y4a => (intro w' hSw; (try dsimp only at hSw); go_simp; (try with_reducible rfl))
        try simp only [Act.put, List.getElem_toArray, List.getElem_cons_zero, List.getElem_cons_succ, List.setIfInBounds_toArray, List.set_cons_zero, List.set_cons_succ]
        refine wpAnyH_take (i := 6) (oi := _) (v := ?v6a) rfl (by kernel_rfl) (by kernel_rfl) (by kernel_rfl) (fun _ _ _ h => h) (Or.inl ⟨by rfl, ?y6a⟩) (by assumption) ?r6a
        case y6a => (intro w' hSw; (try dsimp only at hSw); go_simp; (try with_reducible rfl))
        try simp only [Act.put, List.getElem_toArray, List.getElem_cons_zero, List.getElem_cons_succ, List.setIfInBounds_toArray, List.set_cons_zero, List.set_cons_succ]
        refine wpAnyH_take (i := 7) (oi := _) (v := ?v7a) rfl (by kernel_rfl) (by kernel_rfl) (by kernel_rfl) (fun _ _ _ h => h) (Or.inl ⟨by rfl, ?y7a⟩) (by assumption) ?r7a
        case y7a => (intro w' hSw; (try dsimp only at hSw); go_simp; (try with_reducible rfl))
        try simp only [Act.put, List.getElem_toArray, List.getElem_cons_zero, List.getElem_cons_succ, List.setIfInBounds_toArray, List.set_cons_zero, List.set_cons_succ]
        refine wpAnyH_ready (rs := [2]) (by kernel_rfl) (by simp) ?_
        refine AllReadyH.cons (o := _) rfl (fun K hK => ?_) AllReadyH.nil
        go_simp
        refine Calls.mono (C1.out _) ?_
        rintro e X ⟨rfl, hEX⟩
        dsimp only
        replace EX := EX.trans hEX
        replace V2 := hid (V2.out.ext hEX)
        clear hHeld hEX
        refine hK.out _ _ (sG EX _) (fun hHeld => ?_)
        clear hK K
        try simp only [Act.put, List.getElem_toArray, List.getElem_cons_zero, List.getElem_cons_succ, List.setIfInBounds_toArray, List.set_cons_zero, List.set_cons_succ]
        refine wpAnyH_ready (rs := [5]) (by kernel_rfl) (by simp) ?_
        refine AllReadyH.cons (o := _) rfl (fun K hK => ?_) AllReadyH.nil
        go_simp
        refine Calls.mono (C2.out _) ?_
        rintro e X ⟨rfl, hEX⟩
        dsimp only
        replace EX := EX.trans hEX
        replace V2 := hid (V2.out.ext hEX)
        clear hHeld hEX
        refine hK.out _ _ (sG EX _) (fun hHeld => ?_)
        clear hK K
        try simp only [Act.put, List.getElem_toArray, List.getElem_cons_zero, List.getElem_cons_succ, List.setIfInBounds_toArray, List.set_cons_zero, List.set_cons_succ]
        refine wpAnyH_ready (rs := [8]) (by kernel_rfl) (by simp) ?_
        refine AllReadyH.cons (o := _) rfl (fun K hK => ?_) AllReadyH.nil
        go_simp
        refine Calls.mono (C3.out _) ?_
        rintro e X ⟨rfl, hEX⟩
        dsimp only
        replace EX := EX.trans hEX
        replace V2 := hid (V2.out.ext hEX)
        clear hHeld hEX
        refine hK.out _ _ (sG EX _) (fun hHeld => ?_)
        clear hK K
        try simp only [Act.put, List.getElem_toArray, List.getElem_cons_zero, List.getElem_cons_succ, List.setIfInBounds_toArray, List.set_cons_zero, List.set_cons_succ]
        refine wpAnyH_take (i := 9) (oi := _) (v := ?v9b) rfl (by kernel_rfl) (by kernel_rfl) (by kernel_rfl) (fun _ _ _ h => h) (Or.inl ⟨by rfl, ?y9b⟩) (by assumption) ?r9b
        case y9b => (intro w' hSw; (try dsimp only at hSw); go_simp; (try with_reducible rfl))
        try simp only [Act.put, List.getElem_toArray, List.getElem_cons_zero, List.getElem_cons_succ, List.setIfInBounds_toArray, List.set_cons_zero, List.set_cons_succ]
        refine wpAnyH_ready (rs := [10]) (by kernel_rfl) (by simp) ?_
        refine AllReadyH.cons (o := _) rfl (fun K hK => ?_) AllReadyH.nil
        have HO := hr_one ⟨sw, sw, sr, sr, st, st⟩
        unfold hrCells at HO
        dsimp only at HO
        refine wp_store_mid 143 _ _ rfl k2 0 #[.int .i64 sw, .int .i64 sw, .int .i64 sr, .int .i64 sr, .int .i64 st, .int .i64 st] rfl rfl (blk_there V2.out rfl) infoHr1 HO ?_
        clear hHeld HO
        have R2 := hid (V2.out.fill [.int .i64 sw, .int .i64 sw, .int .i64 sr, .int .i64 sr, .int .i64 st, .int .i64 st] 0)
        have RX := hid (ext_setCells (HEU.out.trans EX) (b := k2) (by have := HK2.out; omega) [.int .i64 sw, .int .i64 sw, .int .i64 sr, .int .i64 sr, .int .i64 st, .int .i64 st] 0)
        simp only [fillA, List.setIfInBounds_toArray, List.set_cons_zero, List.set_cons_succ] at R2
        refine hK.out _ _ (sGs EX _ _ _) (fun hHeld => ?_)
        clear hK K
        try simp only [Act.put, List.getElem_toArray, List.getElem_cons_zero, List.getElem_cons_succ, List.setIfInBounds_toArray, List.set_cons_zero, List.set_cons_succ]
        refine wpAnyH_done (by kernel_rfl) ?_ _
        clear hHeld
        obtain ⟨r0, r1, r2, r3, r4, r5⟩ : _ ∧ _ ∧ _ ∧ _ ∧ _ ∧ _ := ⟨R2.out.cell 0, R2.out.cell 1, R2.out.cell 2, R2.out.cell 3, R2.out.cell 4, R2.out.cell 5⟩
        simp only [List.getElem?_toArray, List.getElem?_cons_zero, List.getElem?_cons_succ] at r0 r1 r2 r3 r4 r5
        obtain ⟨Z, hZ⟩ : ∃ Z, World.setCells X k2 0 [.int .i64 sw, .int .i64 sw, .int .i64 sr, .int .i64 sr, .int .i64 st, .int .i64 st] = Z := ⟨_, rfl⟩
        rw [hZ] at r0 r1 r2 r3 r4 r5 RX
        have hZ2 : World.setCells X k2 0 (#[.int .i64 sw, .int .i64 sw, .int .i64 sr, .int .i64 sr, .int .i64 st, .int .i64 st] : Array Value).toList = Z := hZ
        first | rw [hZ2] | rw [hZ]
        clear hZ hZ2 x0 x1 x2 xz C1 C2 C3 HONE V2
        go_wp2
        exact bodyPost_ret (v := .agg #[.int .i64 sw, .int .i64 sw, .int .i64 sr, .int .i64 sr, .int .i64 st, .int .i64 st]) (by simp [results, Tryz.results101, go_sem, r0, r1, r2, r3, r4, r5]) rfl ⟨by rw [HRV.out]; rfl, RX.out⟩
      · have hd : (sh == (hr : Int)) = false := by simp [heq]
        have HN2 := hid (HNX.out heq)
        clear HH1 HNX HA heq
        go_wp2
        go_roundw
        case rel => exact ⟨hE, K0, K1, k + 1, by omega, by go_num, HN2⟩
        case measure => simp [intOf]; omega
    · obtain rfl : k = m := by omega
      have HRV := hid (HMISS.out HA.out)
      have a0 := K0.out.cell 0
      have z0 := K0.out.lt
      have z1 := K1.out.lt
      simp only [List.getElem?_toArray, List.getElem?_cons_zero] at a0
      have c0 := (hE.cell (p := ⟨b, _, none⟩) hb).trans HC0.out
      have d0 := (hE.cell (p := ⟨q, _, none⟩) hq).trans D0.out
      have d1 := (hE.cell (p := ⟨q, _, none⟩) hq).trans D1.out
      have d2 := (hE.cell (p := ⟨q, _, none⟩) hq).trans D2.out
      have d3 := (hE.cell (p := ⟨q, _, none⟩) hq).trans D3.out
      have d4 := (hE.cell (p := ⟨q, _, none⟩) hq).trans D4.out
      have d5 := (hE.cell (p := ⟨q, _, none⟩) hq).trans D5.out
      have q1 := Nat.lt_of_lt_of_le hb hE.size
      have q2 := Nat.lt_of_lt_of_le hq hE.size
      have hsn1 : (sn : Int) < (n : Int) := by omega
      have hhr1 : (hr : Int) < (N : Int) := by omega
      have HO := hid (hr_one hz)
      unfold hrCells at HO K1
      have R1 := hid (K1.out.fill [.int .i64 hz.wl, .int .i64 hz.wh, .int .i64 hz.rl, .int .i64 hz.rh, .int .i64 hz.tl, .int .i64 hz.th] 0)
      have RX := hid (ext_setCells hE (b := w.heap.size + 1) (by omega) [.int .i64 hz.wl, .int .i64 hz.wh, .int .i64 hz.rl, .int .i64 hz.rh, .int .i64 hz.tl, .int .i64 hz.th] 0)
      simp only [fillA, List.setIfInBounds_toArray, List.set_cons_zero, List.set_cons_succ] at R1
      clear HHIT HMISS HA D0 D1 D2 D3 D4 D5 HC0 HONE
      go_wp2_with (refine wpList_store_mid rfl 143 _ _ rfl (w.heap.size + 1) 0 (#[.int .i64 hz.wl, .int .i64 hz.wh, .int .i64 hz.rl, .int .i64 hz.rh, .int .i64 hz.tl, .int .i64 hz.th]) rfl rfl (blk_there K1.out rfl) infoHr1 HO.out ?_)
      obtain ⟨Z, hZ⟩ : ∃ Z, World.setCells wr (w.heap.size + 1) 0 [.int .i64 hz.wl, .int .i64 hz.wh, .int .i64 hz.rl, .int .i64 hz.rh, .int .i64 hz.tl, .int .i64 hz.th] = Z := ⟨_, rfl⟩
      rw [hZ] at R1 RX
      have hZ2 : World.setCells wr (w.heap.size + 1) 0 (#[.int .i64 hz.wl, .int .i64 hz.wh, .int .i64 hz.rl, .int .i64 hz.rh, .int .i64 hz.tl, .int .i64 hz.th] : Array Value).toList = Z := hZ
      first | rw [hZ2] | rw [hZ]
      clear hZ hZ2 HO
      obtain ⟨r0, r1, r2, r3, r4, r5⟩ : _ ∧ _ ∧ _ ∧ _ ∧ _ ∧ _ := ⟨R1.out.cell 0, R1.out.cell 1, R1.out.cell 2, R1.out.cell 3, R1.out.cell 4, R1.out.cell 5⟩
      simp only [List.getElem?_toArray, List.getElem?_cons_zero, List.getElem?_cons_succ] at r0 r1 r2 r3 r4 r5
      exact bodyPost_ret (v := .agg #[.int .i64 hz.wl, .int .i64 hz.wh, .int .i64 hz.rl, .int .i64 hz.rh, .int .i64 hz.tl, .int .i64 hz.th]) (by simp [results, Tryz.results101, go_sem, r0, r1, r2, r3, r4, r5]) rfl ⟨by rw [HRV.out]; rfl, RX.out⟩
end Go.Proofs.YtecamnhnjmldcaaGreatDoor
/- sure and may of the specification. -/
set_option linter.unusedSimpArgs false
set_option linter.unusedVariables false
namespace Go.Proofs.YtecamnhnjmldcaaGreatDoor
open Go.RowKit
def sureS (l : Lm) (h : Hr) : Bool := decide (h.wh ≤ l.wind) && (decide (h.rh ≤ l.rain) && (decide (l.tl ≤ h.tl) && decide (h.th ≤ l.th)))
def mayS (l : Lm) (h : Hr) : Bool := decide (h.wl ≤ l.wind) && (decide (h.rl ≤ l.rain) && (decide (h.tl ≤ l.th) && decide (l.tl ≤ h.th)))
theorem sureS_eq {l : Lm} {h : Hr} (hh : h.tl ≤ h.th) : sureS l h = surB l h := by
  unfold sureS surB spB
  simp [hh]
theorem mayS_eq {l : Lm} {h : Hr} (hh : h.tl ≤ h.th) (hl : l.tl ≤ l.th) : mayS l h = mayB l h := by
  unfold mayS mayB
  have e : decide (max h.tl l.tl ≤ min h.th l.th) = (decide (h.tl ≤ l.th) && decide (l.tl ≤ h.th)) := by
    by_cases a : h.tl ≤ l.th <;> by_cases b : l.tl ≤ h.th <;> simp [a, b] <;> omega
  rw [e]
set_option maxHeartbeats 1000000 in
theorem rsure_any (h : Hr) (l : Lm) (w : World) : Calls Tryz.prog 102 #[h.val, l.val] w fun e w' => e = .returned (.bool (sureS l h)) ∧ Ext w w' := by
  unfold sureS Lm.val Hr.val
  obtain ⟨wi, ra, tl, th⟩ := l
  obtain ⟨wl, wh, rl, rh, hl, hh⟩ := h
  dsimp only
  by_cases h1 : wh ≤ wi
  case neg => go_enter Tryz.func102, Tryz.ntmps102
              go_wp2
              go_ret
              exact ⟨ret_bool (by first | (simp [*]; done) | (simp [*]; omega)), by (repeat' (first | with_reducible assumption | with_reducible exact Ext.refl _ | with_reducible refine Ext.alloc ?_ _ | with_reducible refine Ext.set ?_ ?_ _ | with_reducible refine Ext.drew ?_ | with_reducible refine Ext.drewN ?_ _ | with_reducible refine Ext.trans ?_ (by assumption) | (dsimp only; omega)))⟩
  by_cases h2 : rh ≤ ra
  case neg => go_enter Tryz.func102, Tryz.ntmps102
              go_wp2
              go_ret
              exact ⟨ret_bool (by first | (simp [*]; done) | (simp [*]; omega)), by (repeat' (first | with_reducible assumption | with_reducible exact Ext.refl _ | with_reducible refine Ext.alloc ?_ _ | with_reducible refine Ext.set ?_ ?_ _ | with_reducible refine Ext.drew ?_ | with_reducible refine Ext.drewN ?_ _ | with_reducible refine Ext.trans ?_ (by assumption) | (dsimp only; omega)))⟩
  by_cases h3 : tl ≤ hl
  case neg => go_enter Tryz.func102, Tryz.ntmps102
              go_wp2
              go_ret
              exact ⟨ret_bool (by first | (simp [*]; done) | (simp [*]; omega)), by (repeat' (first | with_reducible assumption | with_reducible exact Ext.refl _ | with_reducible refine Ext.alloc ?_ _ | with_reducible refine Ext.set ?_ ?_ _ | with_reducible refine Ext.drew ?_ | with_reducible refine Ext.drewN ?_ _ | with_reducible refine Ext.trans ?_ (by assumption) | (dsimp only; omega)))⟩
  go_enter Tryz.func102, Tryz.ntmps102
  go_wp2
  go_ret
  exact ⟨ret_bool (by first | (simp [*]; done) | (simp [*]; omega)), by (repeat' (first | with_reducible assumption | with_reducible exact Ext.refl _ | with_reducible refine Ext.alloc ?_ _ | with_reducible refine Ext.set ?_ ?_ _ | with_reducible refine Ext.drew ?_ | with_reducible refine Ext.drewN ?_ _ | with_reducible refine Ext.trans ?_ (by assumption) | (dsimp only; omega)))⟩
set_option maxHeartbeats 1000000 in
theorem rmay_any (h : Hr) (l : Lm) (w : World) : Calls Tryz.prog 103 #[h.val, l.val] w fun e w' => e = .returned (.bool (mayS l h)) ∧ Ext w w' := by
  unfold mayS Lm.val Hr.val
  obtain ⟨wi, ra, tl, th⟩ := l
  obtain ⟨wl, wh, rl, rh, hl, hh⟩ := h
  dsimp only
  by_cases h1 : wl ≤ wi
  case neg => go_enter Tryz.func103, Tryz.ntmps103
              go_wp2
              go_ret
              exact ⟨ret_bool (by first | (simp [*]; done) | (simp [*]; omega)), by (repeat' (first | with_reducible assumption | with_reducible exact Ext.refl _ | with_reducible refine Ext.alloc ?_ _ | with_reducible refine Ext.set ?_ ?_ _ | with_reducible refine Ext.drew ?_ | with_reducible refine Ext.drewN ?_ _ | with_reducible refine Ext.trans ?_ (by assumption) | (dsimp only; omega)))⟩
  by_cases h2 : rl ≤ ra
  case neg => go_enter Tryz.func103, Tryz.ntmps103
              go_wp2
              go_ret
              exact ⟨ret_bool (by first | (simp [*]; done) | (simp [*]; omega)), by (repeat' (first | with_reducible assumption | with_reducible exact Ext.refl _ | with_reducible refine Ext.alloc ?_ _ | with_reducible refine Ext.set ?_ ?_ _ | with_reducible refine Ext.drew ?_ | with_reducible refine Ext.drewN ?_ _ | with_reducible refine Ext.trans ?_ (by assumption) | (dsimp only; omega)))⟩
  by_cases h3 : hl ≤ th
  case neg => go_enter Tryz.func103, Tryz.ntmps103
              go_wp2
              go_ret
              exact ⟨ret_bool (by first | (simp [*]; done) | (simp [*]; omega)), by (repeat' (first | with_reducible assumption | with_reducible exact Ext.refl _ | with_reducible refine Ext.alloc ?_ _ | with_reducible refine Ext.set ?_ ?_ _ | with_reducible refine Ext.drew ?_ | with_reducible refine Ext.drewN ?_ _ | with_reducible refine Ext.trans ?_ (by assumption) | (dsimp only; omega)))⟩
  go_enter Tryz.func103, Tryz.ntmps103
  go_wp2
  go_ret
  exact ⟨ret_bool (by first | (simp [*]; done) | (simp [*]; omega)), by (repeat' (first | with_reducible assumption | with_reducible exact Ext.refl _ | with_reducible refine Ext.alloc ?_ _ | with_reducible refine Ext.set ?_ ?_ _ | with_reducible refine Ext.drew ?_ | with_reducible refine Ext.drewN ?_ _ | with_reducible refine Ext.trans ?_ (by assumption) | (dsimp only; omega)))⟩
end Go.Proofs.YtecamnhnjmldcaaGreatDoor
/- row of the specification: whether a possible scenario surely keeps limits in each hour, and whether it may. -/
set_option linter.unusedSimpArgs false
set_option linter.unusedVariables false
namespace Go.Proofs.YtecamnhnjmldcaaGreatDoor
open Go.RowKit
theorem appB2 {ops : Array Oper} {rest : List Oper} {o : Oper} {a : Act} {Q : Exit → Act → World → Prop} (w : World) (hg : o.guard = none) (s x : Operand)
    (hop : o.op = Op.call { callee := Callee.builtin Builtin.append, args := #[s, x], argTypes := #[109, 109] }) (B : Nat) (v : Value) (xs : List Bool) (hs : a.eval s = v) (hown : Ownl 4 1 gBo w B v xs)
    (ad : Addr) (y : Bool) (hx : a.eval x = .slice (some ad) 1 1) (hy : w.cell? ad = some (.bool y)) (hl : xs.length ≤ 1000) (hB : B ≤ w.heap.size)
    (hK : ∀ v' w', Ownl 4 1 gBo w' B v' (xs ++ [y]) → w.grownBy w' v.ownBlock → (v'.ownBlock = v.ownBlock ∨ v'.ownBlock = some w.heap.size) → wpList Tryz.prog ops Q rest (a.put o.dst v') w') : wpList Tryz.prog ops Q (o :: rest) a w := by
  obtain ⟨i0, hi, hz0, hz1, hz2⟩ := info_parts infoBo
  refine wpList_plain hg fun K hK' => ?_
  obtain ⟨v', w', hrun, r1, r2, _, r4⟩ := run_append_own_at (P := Tryz.prog) w B 109 o.type 4 i0 (.bool false) 1 1 Tryz.underlying109 hi hz0 hz1 hz2 rfl (by decide) v xs.length (xs.flatMap gBo) hown ad 1 1 (gBo y) rfl (fun j u hj => by
    cases j with
    | zero =>
      obtain rfl : Value.bool y = u := by simpa [gBo] using hj
      simpa [Addr.add] using hy
    | succ j => simp [gBo] at hj) (oneBo y) (by unfold maxLen; omega) (by omega) hB
  unfold Oper.wp execOp
  simp only [hop, resolve, invoke, builtin, Sem.run_bind, Sem.run_pure, Result.andThen_ok, List.map_toArray, List.map_cons, List.map_nil, hs, hx, hrun]
  exact hK' _ _ (hK v' w' (Ownl.snoc r1) r2 r4)
theorem apart_of {v v' u : Value} {z : Nat} (h : v'.ownBlock = v.ownBlock ∨ v'.ownBlock = some z) (hd : ∀ q, v.ownBlock = some q → u.ownBlock ≠ some q) (hz : ∀ q, u.ownBlock = some q → q ≠ z) : ∀ q, v'.ownBlock = some q → u.ownBlock ≠ some q := by
  intro q hq hu
  rcases h with h | h
  · exact hd q (h ▸ hq) hu
  · rw [h] at hq
    injection hq with hq
    exact hz q hu hq.symm
theorem ne_or {v u : Value} (h : ∀ q, v.ownBlock = some q → u.ownBlock ≠ some q) : u.ownBlock = none ∨ u.ownBlock ≠ v.ownBlock := by
  cases hu : u.ownBlock with
  | none => exact .inl rfl
  | some q => exact .inr (fun e => h q e.symm hu)
/-- What a row says of the first hours. -/
def rowL (p : Hr → Bool) (ob : List Hr) (k : Nat) : List Bool := (List.range k).map fun h => p (ob.getD h zeroHr)
theorem rowL_step (p : Hr → Bool) (ob : List Hr) (k : Nat) : rowL p ob (k + 1) = rowL p ob k ++ [p (ob.getD k zeroHr)] := by
  unfold rowL
  rw [List.range_succ, List.map_append]
  rfl
theorem rowL_len (p : Hr → Bool) (ob : List Hr) (k : Nat) : (rowL p ob k).length = k := by unfold rowL; rw [List.length_map, List.length_range]
set_option maxHeartbeats 4000000 in
set_option maxRecDepth 100000 in
theorem rrow_any (f : List (List Hr)) (A : Option Addr) (n c : Nat) (seen : List Sg) (SA : Option Addr) (m sc : Nat) (sn : Nat) (l : Lm) (w : World) (h : FIn w f A n seen SA m) (hfc : fcB f = true) (hsg : sgsB (hoursN f) seen = true) (hsn : sn < n) :
    Calls Tryz.prog 47 #[.agg #[.slice A n c], .slice SA m sc, .int .i64 (sn : Int), l.val] w fun e w' => ∃ v u, e = .returned (.tuple #[v, u]) ∧ Ownl 4 1 gBo w' w.heap.size v (rowL (sureS l) (obsM seen (f.getD sn [])) (hoursN f)) ∧ Ownl 4 1 gBo w' w.heap.size u (rowL (mayS l) (obsM seen (f.getD sn [])) (hoursN f)) ∧ Ext w w' := by
  have HH := hid (fun (W : World) (hW : Ext w W) => rHours_any A n c f h.hn (by omega) W (h.sc.ext hW))
  have HAT := hid (fun (k : Nat) (hk : k < hoursN f) (W : World) (hW : Ext w W) => rAt_any f A n c seen SA m sc sn k W (h.ext hW) hfc hsg hsn hk)
  have HSU := hid (fun x W => rsure_any x l W)
  have HMA := hid (fun x W => rmay_any x l W)
  have hNN := h.hours
  have HS := hid (fun k => rowL_step (sureS l) (obsM seen (f.getD sn [])) k)
  have HM := hid (fun k => rowL_step (mayS l) (obsM seen (f.getD sn [])) k)
  have HSL := hid (fun k => rowL_len (sureS l) (obsM seen (f.getD sn [])) k)
  have HML := hid (fun k => rowL_len (mayS l) (obsM seen (f.getD sn [])) k)
  have HS0 := hid (show rowL (sureS l) (obsM seen (f.getD sn [])) 0 = [] from rfl)
  have HM0 := hid (show rowL (mayS l) (obsM seen (f.getD sn [])) 0 = [] from rfl)
  clear h hfc hsg hsn
  generalize rowL (sureS l) (obsM seen (f.getD sn [])) = RS at *
  generalize rowL (mayS l) (obsM seen (f.getD sn [])) = RM at *
  generalize obsM seen (f.getD sn []) = OB at *
  generalize sureS l = SS at *
  generalize mayS l = MS at *
  generalize hoursN f = N at *
  unfold Lm.val at *
  obtain ⟨wi, ra, tl, th⟩ := l
  dsimp only at *
  have B0 := hid (show Blk _ _ _ _ from blk_old (blk_last w (.cells #[.slice A n c] 24)) (.cells #[.int .i64 wi, .int .i64 ra, .int .i64 tl, .int .i64 th] 29))
  have B1 := hid (show Blk _ _ _ _ from blk_last (w.alloc (.cells #[.slice A n c] 24)) (.cells #[.int .i64 wi, .int .i64 ra, .int .i64 tl, .int .i64 th] 29))
  rw [World.size_alloc] at B1
  go_enter Tryz.func47, Tryz.ntmps47
  go_wp2
  go_loopw [8, 9, 10] (fun v u i wr => Ext w wr ∧ Hid (Blk wr w.heap.size 24 #[.slice A n c]) ∧ Hid (Blk wr (w.heap.size + 1) 29 #[.int .i64 wi, .int .i64 ra, .int .i64 tl, .int .i64 th]) ∧ ∃ k : Nat, k ≤ N ∧ i = .int .i64 k ∧ Hid (Ownl 4 1 gBo wr (w.heap.size + 2) v (RS k)) ∧ Hid (Ownl 4 1 gBo wr (w.heap.size + 2) u (RM k)) ∧ Hid (∀ q, v.ownBlock = some q → u.ownBlock ≠ some q)) (fun _ _ i _ => N - (intOf i).toNat)
  case atStart => exact ⟨by (repeat' (first | with_reducible assumption | with_reducible exact Ext.refl _ | with_reducible refine Ext.alloc ?_ _ | with_reducible refine Ext.set ?_ ?_ _ | with_reducible refine Ext.drew ?_ | with_reducible refine Ext.drewN ?_ _ | with_reducible refine Ext.trans ?_ (by assumption) | (dsimp only; omega))), B0, B1, 0, Nat.zero_le _, rfl, hid (by rw [HS0.out]; exact Ownl.nil _ _), hid (by rw [HM0.out]; exact Ownl.nil _ _), hid (fun q h => by cases h)⟩
  case round =>
    obtain ⟨E, K0, K1, k, hk, rfl, HV, HU, HD⟩ := hrel
    clear B0 B1
    have a0 := K0.out.cell 0
    obtain ⟨l0, l1, l2, l3⟩ : _ ∧ _ ∧ _ ∧ _ := ⟨K1.out.cell 0, K1.out.cell 1, K1.out.cell 2, K1.out.cell 3⟩
    have z0 := K0.out.lt
    have z1 := K1.out.lt
    simp only [List.getElem?_toArray, List.getElem?_cons_zero, List.getElem?_cons_succ] at a0 l0 l1 l2 l3
    by_cases hlt : k < N
    · go_wp2_with fail
      refine (HH.out _ E).mono ?_
      rintro e w2 ⟨rfl, hE⟩
      replace E := E.trans hE
      replace K0 := hid (K0.out.ext hE)
      replace K1 := hid (K1.out.ext hE)
      replace HV := hid (HV.out.ext hE)
      replace HU := hid (HU.out.ext hE)
      (try replace HX := hid (HX.out.ext hE))
      clear hE a0 l0 l1 l2 l3 z0 z1
      have a0 := K0.out.cell 0
      obtain ⟨l0, l1, l2, l3⟩ : _ ∧ _ ∧ _ ∧ _ := ⟨K1.out.cell 0, K1.out.cell 1, K1.out.cell 2, K1.out.cell 3⟩
      have z0 := K0.out.lt
      have z1 := K1.out.lt
      simp only [List.getElem?_toArray, List.getElem?_cons_zero, List.getElem?_cons_succ] at a0 l0 l1 l2 l3
      have HA1 := hid (HAT.out k hlt)
      have HS1 := hid (HS.out k)
      have HM1 := hid (HM.out k)
      have hl1 := hid (HSL.out k)
      have hl2 := hid (HML.out k)
      generalize OB.getD k zeroHr = x at *
      have HSU1 := hid (HSU.out x)
      have HMA1 := hid (HMA.out x)
      generalize SS x = b1 at *
      generalize MS x = b2 at *
      unfold Hr.val at HA1 HSU1 HMA1
      obtain ⟨wl, wh, rl, rh, hl, hh⟩ := x
      dsimp only at HA1 HSU1 HMA1
      clear HAT HS HM HSL HML HSU HMA HH
      go_wp2_with fail
      refine (HA1.out _ E).mono ?_
      rintro e w3 ⟨rfl, hE⟩
      replace E := E.trans hE
      replace K0 := hid (K0.out.ext hE)
      replace K1 := hid (K1.out.ext hE)
      replace HV := hid (HV.out.ext hE)
      replace HU := hid (HU.out.ext hE)
      (try replace HX := hid (HX.out.ext hE))
      clear hE a0 l0 l1 l2 l3 z0 z1
      have a0 := K0.out.cell 0
      obtain ⟨l0, l1, l2, l3⟩ : _ ∧ _ ∧ _ ∧ _ := ⟨K1.out.cell 0, K1.out.cell 1, K1.out.cell 2, K1.out.cell 3⟩
      have z0 := K0.out.lt
      have z1 := K1.out.lt
      simp only [List.getElem?_toArray, List.getElem?_cons_zero, List.getElem?_cons_succ] at a0 l0 l1 l2 l3
      go_wp2_with fail
      refine (HSU1.out _).mono ?_
      rintro e w4 ⟨rfl, hE⟩
      have HX := hid (show Blk w4 w3.heap.size 143 #[.int .i64 wl, .int .i64 wh, .int .i64 rl, .int .i64 rh, .int .i64 hl, .int .i64 hh] from Blk.ext (blk_last w3 _) hE)
      replace hE := (ext_alloc1 w3 _).trans hE
      replace E := E.trans hE
      replace K0 := hid (K0.out.ext hE)
      replace K1 := hid (K1.out.ext hE)
      replace HV := hid (HV.out.ext hE)
      replace HU := hid (HU.out.ext hE)
      clear hE a0 l0 l1 l2 l3 z0 z1 HSU1 HA1
      have a0 := K0.out.cell 0
      obtain ⟨l0, l1, l2, l3⟩ : _ ∧ _ ∧ _ ∧ _ := ⟨K1.out.cell 0, K1.out.cell 1, K1.out.cell 2, K1.out.cell 3⟩
      have z0 := K0.out.lt
      have z1 := K1.out.lt
      simp only [List.getElem?_toArray, List.getElem?_cons_zero, List.getElem?_cons_succ] at a0 l0 l1 l2 l3
      obtain ⟨g0, g1, g2, g3, g4, g5⟩ : _ ∧ _ ∧ _ ∧ _ ∧ _ ∧ _ := ⟨HX.out.cell 0, HX.out.cell 1, HX.out.cell 2, HX.out.cell 3, HX.out.cell 4, HX.out.cell 5⟩
      have gz := HX.out.lt
      simp only [List.getElem?_toArray, List.getElem?_cons_zero, List.getElem?_cons_succ] at g0 g1 g2 g3 g4 g5
      go_wp2_with (at_builtin; refine Halt.mk ?_)
      unfold Halt
      refine appB2 _ rfl _ _ rfl (w.heap.size + 2) u8 (RS k) rfl (HV.out.ext (ext_alloc1 _ _)) ⟨w4.heap.size, 0, none⟩ b1 rfl (blk_cell (blk_last w4 _) 0) (by rw [hl1.out]; omega) (by have := E.size; simp; omega) ?_
      intro v5 w5 hO5 hg5 hw5
      have VA := hid (HV.out.ext (ext_alloc1 w4 (.cells #[.bool b1] 4)))
      replace E := HV.out.extApp E (by omega) hg5
      replace K0 := hid (HV.out.blkApp K0.out (by omega) hg5)
      replace K1 := hid (HV.out.blkApp K1.out (by omega) hg5)
      replace HX := hid ((HX.out.alloc _).apart hg5 (Apart.own VA.out (by decide)))
      have HD5 := hid (apart_of hw5 HD.out (fun q h => by have := (HU.out.block q h).2; simp; omega))
      replace HU := hid ((HU.out.ext (ext_alloc1 w4 (.cells #[.bool b1] 4))).grown hg5 (ne_or HD.out))
      rw [← HS1.out] at hO5
      replace HV := hid hO5
      clear VA hg5 hw5 hO5 HD a0 l0 l1 l2 l3 z0 z1 g0 g1 g2 g3 g4 g5 gz HS1 hl1
      have a0 := K0.out.cell 0
      obtain ⟨l0, l1, l2, l3⟩ : _ ∧ _ ∧ _ ∧ _ := ⟨K1.out.cell 0, K1.out.cell 1, K1.out.cell 2, K1.out.cell 3⟩
      have z0 := K0.out.lt
      have z1 := K1.out.lt
      simp only [List.getElem?_toArray, List.getElem?_cons_zero, List.getElem?_cons_succ] at a0 l0 l1 l2 l3
      obtain ⟨g0, g1, g2, g3, g4, g5⟩ : _ ∧ _ ∧ _ ∧ _ ∧ _ ∧ _ := ⟨HX.out.cell 0, HX.out.cell 1, HX.out.cell 2, HX.out.cell 3, HX.out.cell 4, HX.out.cell 5⟩
      have gz := HX.out.lt
      simp only [List.getElem?_toArray, List.getElem?_cons_zero, List.getElem?_cons_succ] at g0 g1 g2 g3 g4 g5
      go_wp2_with fail
      refine (HMA1.out _).mono ?_
      rintro e w6 ⟨rfl, hE⟩
      replace E := E.trans hE
      replace K0 := hid (K0.out.ext hE)
      replace K1 := hid (K1.out.ext hE)
      replace HV := hid (HV.out.ext hE)
      replace HU := hid (HU.out.ext hE)
      (try replace HX := hid (HX.out.ext hE))
      clear hE a0 l0 l1 l2 l3 z0 z1
      have a0 := K0.out.cell 0
      obtain ⟨l0, l1, l2, l3⟩ : _ ∧ _ ∧ _ ∧ _ := ⟨K1.out.cell 0, K1.out.cell 1, K1.out.cell 2, K1.out.cell 3⟩
      have z0 := K0.out.lt
      have z1 := K1.out.lt
      simp only [List.getElem?_toArray, List.getElem?_cons_zero, List.getElem?_cons_succ] at a0 l0 l1 l2 l3
      clear HMA1 g0 g1 g2 g3 g4 g5 gz HX
      go_wp2_with (at_builtin; refine Halt.mk ?_)
      unfold Halt
      refine appB2 _ rfl _ _ rfl (w.heap.size + 2) u9 (RM k) rfl (HU.out.ext (ext_alloc1 _ _)) ⟨w6.heap.size, 0, none⟩ b2 rfl (blk_cell (blk_last w6 _) 0) (by rw [hl2.out]; omega) (by have := E.size; simp; omega) ?_
      intro v7 w7 hO7 hg7 hw7
      have HE7 := hid (HU.out.extApp E (by omega) hg7)
      replace K0 := hid (HU.out.blkApp K0.out (by omega) hg7)
      replace K1 := hid (HU.out.blkApp K1.out (by omega) hg7)
      have HD7 := hid (fun q h h2 => apart_of hw7 (fun q h2 h => HD5.out q h h2) (fun q h => by have := (HV.out.block q h).2; simp; omega) q h2 h)
      replace HV := hid ((HV.out.ext (ext_alloc1 w6 (.cells #[.bool b2] 4))).grown hg7 (ne_or (fun q h2 h => HD5.out q h h2)))
      rw [← HM1.out] at hO7
      replace HU := hid hO7
      clear hg7 hw7 hO7 HD5 a0 l0 l1 l2 l3 z0 z1 HM1 hl2 E
      go_wp2
      go_roundw
      case rel => exact ⟨HE7.out, K0, K1, k + 1, by omega, by go_num, HV, HU, HD7⟩
      case measure => simp [intOf]; omega
    · obtain rfl : k = N := by omega
      go_wp2_with fail
      refine (HH.out _ E).mono ?_
      rintro e w2 ⟨rfl, hE⟩
      replace E := E.trans hE
      replace K0 := hid (K0.out.ext hE)
      replace K1 := hid (K1.out.ext hE)
      replace HV := hid (HV.out.ext hE)
      replace HU := hid (HU.out.ext hE)
      (try replace HX := hid (HX.out.ext hE))
      clear hE a0 l0 l1 l2 l3 z0 z1
      have a0 := K0.out.cell 0
      obtain ⟨l0, l1, l2, l3⟩ : _ ∧ _ ∧ _ ∧ _ := ⟨K1.out.cell 0, K1.out.cell 1, K1.out.cell 2, K1.out.cell 3⟩
      have z0 := K0.out.lt
      have z1 := K1.out.lt
      simp only [List.getElem?_toArray, List.getElem?_cons_zero, List.getElem?_cons_succ] at a0 l0 l1 l2 l3
      clear HAT HS HM HSL HML HSU HMA HH
      go_wp2
      go_ret2
      exact ⟨_, _, rfl, HV.out.low (by omega), HU.out.low (by omega), E⟩
end Go.Proofs.YtecamnhnjmldcaaGreatDoor
