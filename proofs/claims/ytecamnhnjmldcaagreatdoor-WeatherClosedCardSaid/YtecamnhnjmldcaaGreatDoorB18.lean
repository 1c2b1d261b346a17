/- Which weathers are possible: the specification. -/
import Derived.Test.YtecamnhnjmldcaaGreatDoorB16
import Derived.Test.YtecamnhnjmldcaaGreatDoorB17
set_option linter.unusedSimpArgs false
set_option linter.unusedVariables false
namespace Go.Proofs.YtecamnhnjmldcaaGreatDoor
open Go.RowKit
def numsN (seen : List Sg) (f : List (List Hr)) : List Nat := (List.range f.length).filter fun i => allowB seen (f.getD i [])
theorem numsM_N (seen : List Sg) (f : List (List Hr)) : numsM seen f = (numsN seen f).map Int.ofNat := rfl
theorem numsN_lt {seen : List Sg} {f : List (List Hr)} {i : Nat} (h : i ∈ numsN seen f) : i < f.length := List.mem_range.1 (List.mem_filter.1 h).1
theorem any_take_snoc' {α : Type} (xs : List α) (p : α → Bool) (d : α) (k : Nat) (h : k < xs.length) : (xs.take (k + 1)).any p = ((xs.take k).any p || p (xs.getD k d)) := by
  rw [List.take_succ_eq_append_getElem h, List.any_append]
  simp [List.getD, List.getElem?_eq_getElem h]
theorem any_of_at' {α : Type} (xs : List α) (p : α → Bool) (d : α) (k : Nat) (h : k < xs.length) (hp : p (xs.getD k d) = true) : xs.any p = true :=
  List.any_eq_true.2 ⟨_, mem_at xs d k h, hp⟩
theorem IntsAt.at1 {w : World} {A : Option Addr} {xs : List Int} (h : IntsAt w A xs) {n k : Nat} (hn : xs.length = n) (hk : k < n) : ∃ b off, A = some ⟨b, off, none⟩ ∧ b < w.heap.size ∧ w.cell? ⟨b, off + k, none⟩ = some (.int .i64 (xs.getD k 0)) := by
  obtain ⟨b, off, hA, hb, hc⟩ := h (by rintro rfl; simp at hn; omega)
  exact ⟨b, off, hA, hb, hc k (by omega)⟩
set_option maxHeartbeats 8000000 in
set_option maxRecDepth 100000 in
theorem rWeather_any (f : List (List Hr)) (A : Option Addr) (n c : Nat) (seen : List Sg) (SA : Option Addr) (m sc : Nat) (skies : List Sk) (KA : Option Addr) (kn kc : Nat) (hkn : skies.length = kn) (hkn2 : kn ≤ 1000) (w : World) (h : FIn w f A n seen SA m) (hfc : fcB f = true) (hsg : sgsB (hoursN f) seen = true) (hks : SksAt w KA skies) :
    Calls Tryz.prog 71 #[.agg #[.slice A n c], .slice SA m sc, .slice KA kn kc] w fun e w' => e = .returned (.bool (weaB f seen skies)) ∧ Ext w w' := by
  have hn0 : 0 < n := by
    have := (fc_ok hfc).2.1
    have := h.hn
    omega
  have HH := hid (fun (W : World) (hW : Ext w W) => rHours_any A n c f h.hn hn0 W (h.sc.ext hW))
  have HP := hid (fun (W : World) (hW : Ext w W) => rpossible_any f A n c seen SA m sc W (h.ext hW) hfc hsg)
  by_cases hlen : kn = hoursN f
  case neg =>
    have HR := hid (show weaB f seen skies = false by unfold weaB; rw [hkn, decide_eq_false hlen]; rfl)
    rw [HR.out]
    clear h hfc hsg hks hkn HP HR
    generalize hoursN f = N at *
    have hne : ((kn : Int) != (N : Int)) = true := by simp; omega
    clear hlen
    go_enter Tryz.func71, Tryz.ntmps71
    go_wp2_with fail
    refine (HH.out _ (by (repeat' (first | with_reducible assumption | with_reducible exact Ext.refl _ | with_reducible refine Ext.alloc ?_ _ | with_reducible refine Ext.set ?_ ?_ _ | with_reducible refine Ext.drew ?_ | with_reducible refine Ext.drewN ?_ _ | with_reducible refine Ext.trans ?_ (by assumption) | (dsimp only; omega))))).mono ?_
    rintro e w2 ⟨rfl, hE⟩
    go_wp2
    go_ret
    exact ⟨rfl, by (repeat' (first | with_reducible assumption | with_reducible exact Ext.refl _ | with_reducible refine Ext.alloc ?_ _ | with_reducible refine Ext.set ?_ ?_ _ | with_reducible refine Ext.drew ?_ | with_reducible refine Ext.drewN ?_ _ | with_reducible refine Ext.trans ?_ (by assumption) | (dsimp only; omega)))⟩
  have HIN := hid (fun s h W => rInside_any s h W)
  have HX := hid h.sc
  have HN := hid h.hn
  have HS := hid h.sg
  have HM := hid h.hl
  have HKS := hid hks
  have HKN := hid hkn
  have hm2 := h.hm2
  have hm := h.hm
  have HLEN := hid (fun x hx => ((fc_ok hfc).2.2.2.2 x hx).1)
  have HHR := hid (fun s (hs : s ∈ seen) => sg_hour hsg hs)
  have hN2 : hoursN f ≤ 48 := (fc_ok hfc).2.2.1
  have HNM := hid (numsM_N seen f)
  have HNL := hid (fun i (hi : i ∈ numsN seen f) => (show i < n by rw [← HN.out]; exact numsN_lt hi))
  have hWB : weaB f seen skies = (seen.all (fun s => decide (skies.getD s.hour.toNat zeroSk = s.sky)) && (numsN seen f).any fun i => (List.range kn).all fun h => insB (skies.getD h zeroSk) ((f.getD i []).getD h zeroHr)) := by
    unfold weaB numsN
    rw [hkn, decide_eq_true hlen]
    rfl
  have hNLn : (numsN seen f).length ≤ n := by
    unfold numsN
    have := List.length_filter_le (fun i => allowB seen (f.getD i [])) (List.range f.length)
    rw [List.length_range] at this
    have := HN.out
    omega
  have HS1 := hid (fun k hk => all_take_snoc seen (fun s => decide (skies.getD s.hour.toNat zeroSk = s.sky)) zeroSg k hk)
  have HS2 := hid (fun k hk hp => all_of_at seen (fun s => decide (skies.getD s.hour.toNat zeroSk = s.sky)) zeroSg k hk hp)
  have HS3 := hid (fun k (h : (seen.take k).all (fun s => decide (skies.getD s.hour.toNat zeroSk = s.sky)) = true) hk => all_true_end h hk)
  have HT1 := hid (fun k hk => any_take_snoc' (numsN seen f) (fun i => (List.range kn).all fun h => insB (skies.getD h zeroSk) ((f.getD i []).getD h zeroHr)) 0 k hk)
  have HT2 := hid (fun k hk hp => any_of_at' (numsN seen f) (fun i => (List.range kn).all fun h => insB (skies.getD h zeroSk) ((f.getD i []).getD h zeroHr)) 0 k hk hp)
  obtain ⟨R, hR⟩ : ∃ R, weaB f seen skies = R := ⟨_, rfl⟩
  rw [hR] at hWB ⊢
  have HR0 := hid (fun (h : seen.all (fun s => decide (skies.getD s.hour.toNat zeroSk = s.sky)) = false) => show R = false by rw [hWB, h]; rfl)
  have HR1 := hid (fun (h : seen.all (fun s => decide (skies.getD s.hour.toNat zeroSk = s.sky)) = true) (h2 : (numsN seen f).any (fun i => (List.range kn).all fun h => insB (skies.getD h zeroSk) ((f.getD i []).getD h zeroHr)) = true) => show R = true by rw [hWB, h, h2]; rfl)
  have HR2 := hid (fun (h2 : (numsN seen f).any (fun i => (List.range kn).all fun h => insB (skies.getD h zeroSk) ((f.getD i []).getD h zeroHr)) = false) => show R = false by rw [hWB, h2, Bool.and_false])
  have B0 := hid (show Blk _ _ _ _ from blk_last w (.cells #[.slice A n c] 24))
  have HNN := hid (show (numsM seen f).length = (numsN seen f).length by rw [HNM.out, List.length_map])
  have HAT := hid (show ∀ i, i < (numsN seen f).length → (numsM seen f).getD i 0 = ((numsN seen f).getD i 0 : Nat) from fun i hi => by
    rw [HNM.out]; simp [List.getD, List.getElem?_eq_getElem hi])
  have HMEM := hid (fun i (hi : i < (numsN seen f).length) => mem_at (numsN seen f) 0 i hi)
  have hne : ((kn : Int) != (hoursN f : Int)) = false := by simp; omega
  have HKH := hid (show hoursN f = kn from hlen.symm)
  clear h hfc hsg hks hkn hR hWB HNM hlen
  generalize hoursN f = N at *
  generalize numsN seen f = NN at *
  generalize numsM seen f = NM at *
  go_enter Tryz.func71, Tryz.ntmps71
  go_wp2_with fail
  refine (HH.out _ (by (repeat' (first | with_reducible assumption | with_reducible exact Ext.refl _ | with_reducible refine Ext.alloc ?_ _ | with_reducible refine Ext.set ?_ ?_ _ | with_reducible refine Ext.drew ?_ | with_reducible refine Ext.drewN ?_ _ | with_reducible refine Ext.trans ?_ (by assumption) | (dsimp only; omega))))).mono ?_
  rintro e w1 ⟨rfl, hE⟩
  have E1 : Ext w w1 := by (repeat' (first | with_reducible assumption | with_reducible exact Ext.refl _ | with_reducible refine Ext.alloc ?_ _ | with_reducible refine Ext.set ?_ ?_ _ | with_reducible refine Ext.drew ?_ | with_reducible refine Ext.drewN ?_ _ | with_reducible refine Ext.trans ?_ (by assumption) | (dsimp only; omega)))
  have K1 := hid (show Blk _ _ _ _ from B0.out.ext hE)
  clear hE B0 HH
  go_wp2
  clear hne
  go_loopw [7] (fun i wr => Ext w wr ∧ Hid (Blk wr w.heap.size 24 #[.slice A n c]) ∧ ∃ k : Nat, k ≤ m ∧ i = .int .i64 k ∧ Hid ((seen.take k).all (fun s => decide (skies.getD s.hour.toNat zeroSk = s.sky)) = true)) (fun i _ => m - (intOf i).toNat)
  case atStart => exact ⟨E1, K1, 0, Nat.zero_le _, rfl, hid rfl⟩
  case round =>
    obtain ⟨hE, K0, k, hk, rfl, HA⟩ := hrel
    clear K1 E1
    by_cases hlt : k < m
    · obtain ⟨sb, soff, rfl, hsb, d0, d1, d2, d3⟩ := HS.out.at_ HM.out hlt
      obtain ⟨hj0, hhe, hjN⟩ := HHR.out _ (mem_at seen zeroSg k (by rw [HM.out]; exact hlt))
      have HST := hid (HS1.out k (by rw [HM.out]; exact hlt))
      have HMI := hid (fun hp => HR0.out (HS2.out k (by rw [HM.out]; exact hlt) hp))
      generalize seen.getD k zeroSg = s at *
      obtain ⟨hr, wi, ra, te⟩ := s
      dsimp only at hhe
      subst hhe
      have hsky : Sg.sky ⟨(hj0 : Int), wi, ra, te⟩ = ⟨wi, ra, te⟩ := rfl
      dsimp only at *
      rw [Int.toNat_natCast, hsky] at HST HMI
      clear hsky
      have hjk : hj0 < kn := by have := HKH.out; omega
      obtain ⟨kb, koff, rfl, hkb, e0, e1, e2⟩ := HKS.out.at_ HKN.out hjk
      generalize skies.getD hj0 zeroSk = x at *
      obtain ⟨xw, xr, xt⟩ := x
      dsimp only at *
      replace d0 := (hE.cell (p := ⟨sb, _, none⟩) hsb).trans d0
      replace d1 := (hE.cell (p := ⟨sb, _, none⟩) hsb).trans d1
      replace d2 := (hE.cell (p := ⟨sb, _, none⟩) hsb).trans d2
      replace d3 := (hE.cell (p := ⟨sb, _, none⟩) hsb).trans d3
      replace e0 := (hE.cell (p := ⟨kb, _, none⟩) hkb).trans e0
      replace e1 := (hE.cell (p := ⟨kb, _, none⟩) hkb).trans e1
      replace e2 := (hE.cell (p := ⟨kb, _, none⟩) hkb).trans e2
      have q1 := Nat.lt_of_lt_of_le hsb hE.size
      have q2 := Nat.lt_of_lt_of_le hkb hE.size
      clear HS1 HS2 HS3 HT1 HT2 HR0 HR1 HR2 HIN HX HP HLEN HHR HNL HAT HMEM
      by_cases h1 : xw = wi
      case neg => have HRR := hid (HMI.out (decide_eq_false (by simp [*])))
                  clear HMI HST HA
                  go_wp2_with fail
                  refine wp_region_held_drew (S := fun w' => (∀ b o, b < wr.heap.size → w'.cell? ⟨b, o, none⟩ = wr.cell? ⟨b, o, none⟩) ∧ wr.heap.size ≤ w'.heap.size ∧ Ext wr w') (by kernel_rfl) ?hS0 (fun hHeld => ?_)
                  case hS0 => exact sK (Ext.drew (Ext.refl _))
                  have X0 : Ext wr wr.drew := Ext.drew (Ext.refl wr)
                  have EX := X0
                  obtain ⟨X, hX⟩ : ∃ X, wr.drew = X := ⟨_, rfl⟩
                  rw [hX] at EX hHeld ⊢
                  clear hX X0
                  refine wpAnyH_take (i := 0) (oi := _) (v := ?v0pa) rfl (by kernel_rfl) (by kernel_rfl) (by kernel_rfl) (fun _ _ _ h => h) (Or.inl ⟨by rfl, ?y0pa⟩) (by assumption) ?r0pa
                  case y0pa => (intro w' hSw; (try dsimp only at hSw); go_simp; (try with_reducible rfl))
                  try simp only [Act.put, List.getElem_toArray, List.getElem_cons_zero, List.getElem_cons_succ, List.setIfInBounds_toArray, List.set_cons_zero, List.set_cons_succ]
                  refine wpAnyH_take (i := 1) (oi := _) (v := ?v1pa) rfl (by kernel_rfl) (by kernel_rfl) (by kernel_rfl) (fun _ _ _ h => h) (Or.inl ⟨by rfl, ?y1pa⟩) (by assumption) ?r1pa
                  case y1pa => (intro w' hSw; (try dsimp only at hSw); go_simp; (try with_reducible rfl))
                  try simp only [Act.put, List.getElem_toArray, List.getElem_cons_zero, List.getElem_cons_succ, List.setIfInBounds_toArray, List.set_cons_zero, List.set_cons_succ]
                  refine wpAnyH_take (i := 2) (oi := _) (v := ?v2pa) rfl (by kernel_rfl) (by kernel_rfl) (by kernel_rfl) (fun _ _ _ h => h) (Or.inl ⟨by rfl, ?y2pa⟩) (by assumption) ?r2pa
                  case y2pa => (intro w' hSw; (try dsimp only at hSw); go_simp; (try with_reducible rfl))
                  try simp only [Act.put, List.getElem_toArray, List.getElem_cons_zero, List.getElem_cons_succ, List.setIfInBounds_toArray, List.set_cons_zero, List.set_cons_succ]
                  refine wpAnyH_take (i := 3) (oi := _) (v := ?v3pa) rfl (by kernel_rfl) (by kernel_rfl) (by kernel_rfl) (fun _ _ _ h => h) (Or.inl ⟨by rfl, ?y3pa⟩) (by assumption) ?r3pa
                  case y3pa => (intro w' hSw; (try dsimp only at hSw); go_simp; (try with_reducible rfl))
                  try simp only [Act.put, List.getElem_toArray, List.getElem_cons_zero, List.getElem_cons_succ, List.setIfInBounds_toArray, List.set_cons_zero, List.set_cons_succ]
                  refine wpAnyH_take (i := 4) (oi := _) (v := ?v4pa) rfl (by kernel_rfl) (by kernel_rfl) (by kernel_rfl) (fun _ _ _ h => h) (Or.inl ⟨by rfl, ?y4pa⟩) (by assumption) ?r4pa
                  case y4pa => (intro w' hSw; (try dsimp only at hSw); go_simp; (try with_reducible rfl))
                  try simp only [Act.put, List.getElem_toArray, List.getElem_cons_zero, List.getElem_cons_succ, List.setIfInBounds_toArray, List.set_cons_zero, List.set_cons_succ]
                  refine wpAnyH_take (i := 5) (oi := _) (v := ?v5pa) rfl (by kernel_rfl) (by kernel_rfl) (by kernel_rfl) (fun _ _ _ h => h) (Or.inl ⟨by rfl, ?y5pa⟩) (by assumption) ?r5pa
                  case y5pa => (intro w' hSw; (try dsimp only at hSw); go_simp; (try with_reducible rfl))
                  try simp only [Act.put, List.getElem_toArray, List.getElem_cons_zero, List.getElem_cons_succ, List.setIfInBounds_toArray, List.set_cons_zero, List.set_cons_succ]
                  refine wpAnyH_take (i := 6) (oi := _) (v := ?v6pa) rfl (by kernel_rfl) (by kernel_rfl) (by kernel_rfl) (fun _ _ _ h => h) (Or.inl ⟨by rfl, ?y6pa⟩) (by assumption) ?r6pa
                  case y6pa => (intro w' hSw; (try dsimp only at hSw); go_simp; (try with_reducible rfl))
                  try simp only [Act.put, List.getElem_toArray, List.getElem_cons_zero, List.getElem_cons_succ, List.setIfInBounds_toArray, List.set_cons_zero, List.set_cons_succ]
                  refine wpAnyH_take (i := 7) (oi := _) (v := ?v7pa) rfl (by kernel_rfl) (by kernel_rfl) (by kernel_rfl) (fun _ _ _ h => h) (Or.inl ⟨by rfl, ?y7pa⟩) (by assumption) ?r7pa
                  case y7pa => (intro w' hSw; (try dsimp only at hSw); go_simp; (try with_reducible rfl))
                  try simp only [Act.put, List.getElem_toArray, List.getElem_cons_zero, List.getElem_cons_succ, List.setIfInBounds_toArray, List.set_cons_zero, List.set_cons_succ]
                  refine wpAnyH_take (i := 8) (oi := _) (v := ?v8pa) rfl (by kernel_rfl) (by kernel_rfl) (by kernel_rfl) (fun _ _ _ h => h) (Or.inl ⟨by rfl, ?y8pa⟩) (by assumption) ?r8pa
                  case y8pa => (intro w' hSw; (try dsimp only at hSw); go_simp; (try with_reducible rfl))
                  try simp only [Act.put, List.getElem_toArray, List.getElem_cons_zero, List.getElem_cons_succ, List.setIfInBounds_toArray, List.set_cons_zero, List.set_cons_succ]
                  refine wpAnyH_take (i := 9) (oi := _) (v := ?v9pa) rfl (by kernel_rfl) (by kernel_rfl) (by kernel_rfl) (fun _ _ _ h => h) (Or.inl ⟨by rfl, ?y9pa⟩) (by assumption) ?r9pa
                  case y9pa => (intro w' hSw; (try dsimp only at hSw); go_simp; (try with_reducible rfl))
                  try simp only [Act.put, List.getElem_toArray, List.getElem_cons_zero, List.getElem_cons_succ, List.setIfInBounds_toArray, List.set_cons_zero, List.set_cons_succ]
                  refine wpAnyH_take (i := 10) (oi := _) (v := ?v10pa) rfl (by kernel_rfl) (by kernel_rfl) (by kernel_rfl) (fun _ _ _ h => h) (Or.inl ⟨by rfl, ?y10pa⟩) (by assumption) ?r10pa
                  case y10pa => (intro w' hSw; (try dsimp only at hSw); go_simp; (try with_reducible rfl))
                  try simp only [Act.put, List.getElem_toArray, List.getElem_cons_zero, List.getElem_cons_succ, List.setIfInBounds_toArray, List.set_cons_zero, List.set_cons_succ]
                  refine wpAnyH_take (i := 11) (oi := _) (v := ?v11pa) rfl (by kernel_rfl) (by kernel_rfl) (by kernel_rfl) (fun _ _ _ h => h) (Or.inl ⟨by rfl, ?y11pa⟩) (by assumption) ?r11pa
                  case y11pa => (intro w' hSw; (try dsimp only at hSw); go_simp; (try with_reducible rfl))
                  try simp only [Act.put, List.getElem_toArray, List.getElem_cons_zero, List.getElem_cons_succ, List.setIfInBounds_toArray, List.set_cons_zero, List.set_cons_succ]
                  refine wpAnyH_take (i := 12) (oi := _) (v := ?v12pa) rfl (by kernel_rfl) (by kernel_rfl) (by kernel_rfl) (fun _ _ _ h => h) (Or.inl ⟨by rfl, ?y12pa⟩) (by assumption) ?r12pa
                  case y12pa => (intro w' hSw; (try dsimp only at hSw); go_simp; (try with_reducible rfl))
                  try simp only [Act.put, List.getElem_toArray, List.getElem_cons_zero, List.getElem_cons_succ, List.setIfInBounds_toArray, List.set_cons_zero, List.set_cons_succ]
                  refine wpAnyH_take (i := 13) (oi := _) (v := ?v13pa) rfl (by kernel_rfl) (by kernel_rfl) (by kernel_rfl) (fun _ _ _ h => h) (Or.inl ⟨by rfl, ?y13pa⟩) (by assumption) ?r13pa
                  case y13pa => (intro w' hSw; (try dsimp only at hSw); go_simp; (try with_reducible rfl))
                  try simp only [Act.put, List.getElem_toArray, List.getElem_cons_zero, List.getElem_cons_succ, List.setIfInBounds_toArray, List.set_cons_zero, List.set_cons_succ]
                  refine wpAnyH_done (by kernel_rfl) ?_ _
                  clear hHeld
                  have HEE := hid (hE.trans EX)
                  go_wp2
                  go_ret
                  exact ⟨ret_bool HRR.out.symm, HEE.out⟩
      by_cases h2 : xr = ra
      case neg => have HRR := hid (HMI.out (decide_eq_false (by simp [*])))
                  clear HMI HST HA
                  go_wp2_with fail
                  refine wp_region_held_drew (S := fun w' => (∀ b o, b < wr.heap.size → w'.cell? ⟨b, o, none⟩ = wr.cell? ⟨b, o, none⟩) ∧ wr.heap.size ≤ w'.heap.size ∧ Ext wr w') (by kernel_rfl) ?hS0 (fun hHeld => ?_)
                  case hS0 => exact sK (Ext.drew (Ext.refl _))
                  have X0 : Ext wr wr.drew := Ext.drew (Ext.refl wr)
                  have EX := X0
                  obtain ⟨X, hX⟩ : ∃ X, wr.drew = X := ⟨_, rfl⟩
                  rw [hX] at EX hHeld ⊢
                  clear hX X0
                  refine wpAnyH_take (i := 0) (oi := _) (v := ?v0pb) rfl (by kernel_rfl) (by kernel_rfl) (by kernel_rfl) (fun _ _ _ h => h) (Or.inl ⟨by rfl, ?y0pb⟩) (by assumption) ?r0pb
                  case y0pb => (intro w' hSw; (try dsimp only at hSw); go_simp; (try with_reducible rfl))
                  try simp only [Act.put, List.getElem_toArray, List.getElem_cons_zero, List.getElem_cons_succ, List.setIfInBounds_toArray, List.set_cons_zero, List.set_cons_succ]
                  refine wpAnyH_take (i := 1) (oi := _) (v := ?v1pb) rfl (by kernel_rfl) (by kernel_rfl) (by kernel_rfl) (fun _ _ _ h => h) (Or.inl ⟨by rfl, ?y1pb⟩) (by assumption) ?r1pb
                  case y1pb => (intro w' hSw; (try dsimp only at hSw); go_simp; (try with_reducible rfl))
                  try simp only [Act.put, List.getElem_toArray, List.getElem_cons_zero, List.getElem_cons_succ, List.setIfInBounds_toArray, List.set_cons_zero, List.set_cons_succ]
                  refine wpAnyH_take (i := 2) (oi := _) (v := ?v2pb) rfl (by kernel_rfl) (by kernel_rfl) (by kernel_rfl) (fun _ _ _ h => h) (Or.inl ⟨by rfl, ?y2pb⟩) (by assumption) ?r2pb
                  case y2pb => (intro w' hSw; (try dsimp only at hSw); go_simp; (try with_reducible rfl))
                  try simp only [Act.put, List.getElem_toArray, List.getElem_cons_zero, List.getElem_cons_succ, List.setIfInBounds_toArray, List.set_cons_zero, List.set_cons_succ]
                  refine wpAnyH_take (i := 3) (oi := _) (v := ?v3pb) rfl (by kernel_rfl) (by kernel_rfl) (by kernel_rfl) (fun _ _ _ h => h) (Or.inl ⟨by rfl, ?y3pb⟩) (by assumption) ?r3pb
                  case y3pb => (intro w' hSw; (try dsimp only at hSw); go_simp; (try with_reducible rfl))
                  try simp only [Act.put, List.getElem_toArray, List.getElem_cons_zero, List.getElem_cons_succ, List.setIfInBounds_toArray, List.set_cons_zero, List.set_cons_succ]
                  refine wpAnyH_take (i := 4) (oi := _) (v := ?v4pb) rfl (by kernel_rfl) (by kernel_rfl) (by kernel_rfl) (fun _ _ _ h => h) (Or.inl ⟨by rfl, ?y4pb⟩) (by assumption) ?r4pb
                  case y4pb => (intro w' hSw; (try dsimp only at hSw); go_simp; (try with_reducible rfl))
                  try simp only [Act.put, List.getElem_toArray, List.getElem_cons_zero, List.getElem_cons_succ, List.setIfInBounds_toArray, List.set_cons_zero, List.set_cons_succ]
                  refine wpAnyH_take (i := 5) (oi := _) (v := ?v5pb) rfl (by kernel_rfl) (by kernel_rfl) (by kernel_rfl) (fun _ _ _ h => h) (Or.inl ⟨by rfl, ?y5pb⟩) (by assumption) ?r5pb
                  case y5pb => (intro w' hSw; (try dsimp only at hSw); go_simp; (try with_reducible rfl))
                  try simp only [Act.put, List.getElem_toArray, List.getElem_cons_zero, List.getElem_cons_succ, List.setIfInBounds_toArray, List.set_cons_zero, List.set_cons_succ]
                  refine wpAnyH_take (i := 6) (oi := _) (v := ?v6pb) rfl (by kernel_rfl) (by kernel_rfl) (by kernel_rfl) (fun _ _ _ h => h) (Or.inl ⟨by rfl, ?y6pb⟩) (by assumption) ?r6pb
                  case y6pb => (intro w' hSw; (try dsimp only at hSw); go_simp; (try with_reducible rfl))
                  try simp only [Act.put, List.getElem_toArray, List.getElem_cons_zero, List.getElem_cons_succ, List.setIfInBounds_toArray, List.set_cons_zero, List.set_cons_succ]
                  refine wpAnyH_take (i := 7) (oi := _) (v := ?v7pb) rfl (by kernel_rfl) (by kernel_rfl) (by kernel_rfl) (fun _ _ _ h => h) (Or.inl ⟨by rfl, ?y7pb⟩) (by assumption) ?r7pb
                  case y7pb => (intro w' hSw; (try dsimp only at hSw); go_simp; (try with_reducible rfl))
                  try simp only [Act.put, List.getElem_toArray, List.getElem_cons_zero, List.getElem_cons_succ, List.setIfInBounds_toArray, List.set_cons_zero, List.set_cons_succ]
                  refine wpAnyH_take (i := 8) (oi := _) (v := ?v8pb) rfl (by kernel_rfl) (by kernel_rfl) (by kernel_rfl) (fun _ _ _ h => h) (Or.inl ⟨by rfl, ?y8pb⟩) (by assumption) ?r8pb
                  case y8pb => (intro w' hSw; (try dsimp only at hSw); go_simp; (try with_reducible rfl))
                  try simp only [Act.put, List.getElem_toArray, List.getElem_cons_zero, List.getElem_cons_succ, List.setIfInBounds_toArray, List.set_cons_zero, List.set_cons_succ]
                  refine wpAnyH_take (i := 9) (oi := _) (v := ?v9pb) rfl (by kernel_rfl) (by kernel_rfl) (by kernel_rfl) (fun _ _ _ h => h) (Or.inl ⟨by rfl, ?y9pb⟩) (by assumption) ?r9pb
                  case y9pb => (intro w' hSw; (try dsimp only at hSw); go_simp; (try with_reducible rfl))
                  try simp only [Act.put, List.getElem_toArray, List.getElem_cons_zero, List.getElem_cons_succ, List.setIfInBounds_toArray, List.set_cons_zero, List.set_cons_succ]
                  refine wpAnyH_take (i := 10) (oi := _) (v := ?v10pb) rfl (by kernel_rfl) (by kernel_rfl) (by kernel_rfl) (fun _ _ _ h => h) (Or.inl ⟨by rfl, ?y10pb⟩) (by assumption) ?r10pb
                  case y10pb => (intro w' hSw; (try dsimp only at hSw); go_simp; (try with_reducible rfl))
                  try simp only [Act.put, List.getElem_toArray, List.getElem_cons_zero, List.getElem_cons_succ, List.setIfInBounds_toArray, List.set_cons_zero, List.set_cons_succ]
                  refine wpAnyH_take (i := 11) (oi := _) (v := ?v11pb) rfl (by kernel_rfl) (by kernel_rfl) (by kernel_rfl) (fun _ _ _ h => h) (Or.inl ⟨by rfl, ?y11pb⟩) (by assumption) ?r11pb
                  case y11pb => (intro w' hSw; (try dsimp only at hSw); go_simp; (try with_reducible rfl))
                  try simp only [Act.put, List.getElem_toArray, List.getElem_cons_zero, List.getElem_cons_succ, List.setIfInBounds_toArray, List.set_cons_zero, List.set_cons_succ]
                  refine wpAnyH_take (i := 12) (oi := _) (v := ?v12pb) rfl (by kernel_rfl) (by kernel_rfl) (by kernel_rfl) (fun _ _ _ h => h) (Or.inl ⟨by rfl, ?y12pb⟩) (by assumption) ?r12pb
                  case y12pb => (intro w' hSw; (try dsimp only at hSw); go_simp; (try with_reducible rfl))
                  try simp only [Act.put, List.getElem_toArray, List.getElem_cons_zero, List.getElem_cons_succ, List.setIfInBounds_toArray, List.set_cons_zero, List.set_cons_succ]
                  refine wpAnyH_take (i := 13) (oi := _) (v := ?v13pb) rfl (by kernel_rfl) (by kernel_rfl) (by kernel_rfl) (fun _ _ _ h => h) (Or.inl ⟨by rfl, ?y13pb⟩) (by assumption) ?r13pb
                  case y13pb => (intro w' hSw; (try dsimp only at hSw); go_simp; (try with_reducible rfl))
                  try simp only [Act.put, List.getElem_toArray, List.getElem_cons_zero, List.getElem_cons_succ, List.setIfInBounds_toArray, List.set_cons_zero, List.set_cons_succ]
                  refine wpAnyH_done (by kernel_rfl) ?_ _
                  clear hHeld
                  have HEE := hid (hE.trans EX)
                  go_wp2
                  go_ret
                  exact ⟨ret_bool HRR.out.symm, HEE.out⟩
      by_cases h3 : xt = te
      case neg => have HRR := hid (HMI.out (decide_eq_false (by simp [*])))
                  clear HMI HST HA
                  go_wp2_with fail
                  refine wp_region_held_drew (S := fun w' => (∀ b o, b < wr.heap.size → w'.cell? ⟨b, o, none⟩ = wr.cell? ⟨b, o, none⟩) ∧ wr.heap.size ≤ w'.heap.size ∧ Ext wr w') (by kernel_rfl) ?hS0 (fun hHeld => ?_)
                  case hS0 => exact sK (Ext.drew (Ext.refl _))
                  have X0 : Ext wr wr.drew := Ext.drew (Ext.refl wr)
                  have EX := X0
                  obtain ⟨X, hX⟩ : ∃ X, wr.drew = X := ⟨_, rfl⟩
                  rw [hX] at EX hHeld ⊢
                  clear hX X0
                  refine wpAnyH_take (i := 0) (oi := _) (v := ?v0pc) rfl (by kernel_rfl) (by kernel_rfl) (by kernel_rfl) (fun _ _ _ h => h) (Or.inl ⟨by rfl, ?y0pc⟩) (by assumption) ?r0pc
                  case y0pc => (intro w' hSw; (try dsimp only at hSw); go_simp; (try with_reducible rfl))
                  try simp only [Act.put, List.getElem_toArray, List.getElem_cons_zero, List.getElem_cons_succ, List.setIfInBounds_toArray, List.set_cons_zero, List.set_cons_succ]
                  refine wpAnyH_take (i := 1) (oi := _) (v := ?v1pc) rfl (by kernel_rfl) (by kernel_rfl) (by kernel_rfl) (fun _ _ _ h => h) (Or.inl ⟨by rfl, ?y1pc⟩) (by assumption) ?r1pc
                  case y1pc => (intro w' hSw; (try dsimp only at hSw); go_simp; (try with_reducible rfl))
                  try simp only [Act.put, List.getElem_toArray, List.getElem_cons_zero, List.getElem_cons_succ, List.setIfInBounds_toArray, List.set_cons_zero, List.set_cons_succ]
                  refine wpAnyH_take (i := 2) (oi := _) (v := ?v2pc) rfl (by kernel_rfl) (by kernel_rfl) (by kernel_rfl) (fun _ _ _ h => h) (Or.inl ⟨by rfl, ?y2pc⟩) (by assumption) ?r2pc
                  case y2pc => (intro w' hSw; (try dsimp only at hSw); go_simp; (try with_reducible rfl))
                  try simp only [Act.put, List.getElem_toArray, List.getElem_cons_zero, List.getElem_cons_succ, List.setIfInBounds_toArray, List.set_cons_zero, List.set_cons_succ]
                  refine wpAnyH_take (i := 3) (oi := _) (v := ?v3pc) rfl (by kernel_rfl) (by kernel_rfl) (by kernel_rfl) (fun _ _ _ h => h) (Or.inl ⟨by rfl, ?y3pc⟩) (by assumption) ?r3pc
                  case y3pc => (intro w' hSw; (try dsimp only at hSw); go_simp; (try with_reducible rfl))
                  try simp only [Act.put, List.getElem_toArray, List.getElem_cons_zero, List.getElem_cons_succ, List.setIfInBounds_toArray, List.set_cons_zero, List.set_cons_succ]
                  refine wpAnyH_take (i := 4) (oi := _) (v := ?v4pc) rfl (by kernel_rfl) (by kernel_rfl) (by kernel_rfl) (fun _ _ _ h => h) (Or.inl ⟨by rfl, ?y4pc⟩) (by assumption) ?r4pc
                  case y4pc => (intro w' hSw; (try dsimp only at hSw); go_simp; (try with_reducible rfl))
                  try simp only [Act.put, List.getElem_toArray, List.getElem_cons_zero, List.getElem_cons_succ, List.setIfInBounds_toArray, List.set_cons_zero, List.set_cons_succ]
                  refine wpAnyH_take (i := 5) (oi := _) (v := ?v5pc) rfl (by kernel_rfl) (by kernel_rfl) (by kernel_rfl) (fun _ _ _ h => h) (Or.inl ⟨by rfl, ?y5pc⟩) (by assumption) ?r5pc
                  case y5pc => (intro w' hSw; (try dsimp only at hSw); go_simp; (try with_reducible rfl))
                  try simp only [Act.put, List.getElem_toArray, List.getElem_cons_zero, List.getElem_cons_succ, List.setIfInBounds_toArray, List.set_cons_zero, List.set_cons_succ]
                  refine wpAnyH_take (i := 6) (oi := _) (v := ?v6pc) rfl (by kernel_rfl) (by kernel_rfl) (by kernel_rfl) (fun _ _ _ h => h) (Or.inl ⟨by rfl, ?y6pc⟩) (by assumption) ?r6pc
                  case y6pc => (intro w' hSw; (try dsimp only at hSw); go_simp; (try with_reducible rfl))
                  try simp only [Act.put, List.getElem_toArray, List.getElem_cons_zero, List.getElem_cons_succ, List.setIfInBounds_toArray, List.set_cons_zero, List.set_cons_succ]
                  refine wpAnyH_take (i := 7) (oi := _) (v := ?v7pc) rfl (by kernel_rfl) (by kernel_rfl) (by kernel_rfl) (fun _ _ _ h => h) (Or.inl ⟨by rfl, ?y7pc⟩) (by assumption) ?r7pc
                  case y7pc => (intro w' hSw; (try dsimp only at hSw); go_simp; (try with_reducible rfl))
                  try simp only [Act.put, List.getElem_toArray, List.getElem_cons_zero, List.getElem_cons_succ, List.setIfInBounds_toArray, List.set_cons_zero, List.set_cons_succ]
                  refine wpAnyH_take (i := 8) (oi := _) (v := ?v8pc) rfl (by kernel_rfl) (by kernel_rfl) (by kernel_rfl) (fun _ _ _ h => h) (Or.inl ⟨by rfl, ?y8pc⟩) (by assumption) ?r8pc
                  case y8pc => (intro w' hSw; (try dsimp only at hSw); go_simp; (try with_reducible rfl))
                  try simp only [Act.put, List.getElem_toArray, List.getElem_cons_zero, List.getElem_cons_succ, List.setIfInBounds_toArray, List.set_cons_zero, List.set_cons_succ]
                  refine wpAnyH_take (i := 9) (oi := _) (v := ?v9pc) rfl (by kernel_rfl) (by kernel_rfl) (by kernel_rfl) (fun _ _ _ h => h) (Or.inl ⟨by rfl, ?y9pc⟩) (by assumption) ?r9pc
                  case y9pc => (intro w' hSw; (try dsimp only at hSw); go_simp; (try with_reducible rfl))
                  try simp only [Act.put, List.getElem_toArray, List.getElem_cons_zero, List.getElem_cons_succ, List.setIfInBounds_toArray, List.set_cons_zero, List.set_cons_succ]
                  refine wpAnyH_take (i := 10) (oi := _) (v := ?v10pc) rfl (by kernel_rfl) (by kernel_rfl) (by kernel_rfl) (fun _ _ _ h => h) (Or.inl ⟨by rfl, ?y10pc⟩) (by assumption) ?r10pc
                  case y10pc => (intro w' hSw; (try dsimp only at hSw); go_simp; (try with_reducible rfl))
                  try simp only [Act.put, List.getElem_toArray, List.getElem_cons_zero, List.getElem_cons_succ, List.setIfInBounds_toArray, List.set_cons_zero, List.set_cons_succ]
                  refine wpAnyH_take (i := 11) (oi := _) (v := ?v11pc) rfl (by kernel_rfl) (by kernel_rfl) (by kernel_rfl) (fun _ _ _ h => h) (Or.inl ⟨by rfl, ?y11pc⟩) (by assumption) ?r11pc
                  case y11pc => (intro w' hSw; (try dsimp only at hSw); go_simp; (try with_reducible rfl))
                  try simp only [Act.put, List.getElem_toArray, List.getElem_cons_zero, List.getElem_cons_succ, List.setIfInBounds_toArray, List.set_cons_zero, List.set_cons_succ]
                  refine wpAnyH_take (i := 12) (oi := _) (v := ?v12pc) rfl (by kernel_rfl) (by kernel_rfl) (by kernel_rfl) (fun _ _ _ h => h) (Or.inl ⟨by rfl, ?y12pc⟩) (by assumption) ?r12pc
                  case y12pc => (intro w' hSw; (try dsimp only at hSw); go_simp; (try with_reducible rfl))
                  try simp only [Act.put, List.getElem_toArray, List.getElem_cons_zero, List.getElem_cons_succ, List.setIfInBounds_toArray, List.set_cons_zero, List.set_cons_succ]
                  refine wpAnyH_take (i := 13) (oi := _) (v := ?v13pc) rfl (by kernel_rfl) (by kernel_rfl) (by kernel_rfl) (fun _ _ _ h => h) (Or.inl ⟨by rfl, ?y13pc⟩) (by assumption) ?r13pc
                  case y13pc => (intro w' hSw; (try dsimp only at hSw); go_simp; (try with_reducible rfl))
                  try simp only [Act.put, List.getElem_toArray, List.getElem_cons_zero, List.getElem_cons_succ, List.setIfInBounds_toArray, List.set_cons_zero, List.set_cons_succ]
                  refine wpAnyH_done (by kernel_rfl) ?_ _
                  clear hHeld
                  have HEE := hid (hE.trans EX)
                  go_wp2
                  go_ret
                  exact ⟨ret_bool HRR.out.symm, HEE.out⟩
      subst h1 h2 h3
      have HN2 := hid (HST.out.trans (by rw [HA.out, decide_eq_true rfl] <;> rfl))
      clear HMI HST HA
      go_wp2_with fail
      refine wp_region_held_drew (S := fun w' => (∀ b o, b < wr.heap.size → w'.cell? ⟨b, o, none⟩ = wr.cell? ⟨b, o, none⟩) ∧ wr.heap.size ≤ w'.heap.size ∧ Ext wr w') (by kernel_rfl) ?hS0 (fun hHeld => ?_)
      case hS0 => exact sK (Ext.drew (Ext.refl _))
      have X0 : Ext wr wr.drew := Ext.drew (Ext.refl wr)
      have EX := X0
      obtain ⟨X, hX⟩ : ∃ X, wr.drew = X := ⟨_, rfl⟩
      rw [hX] at EX hHeld ⊢
      clear hX X0
      refine wpAnyH_take (i := 0) (oi := _) (v := ?v0pd) rfl (by kernel_rfl) (by kernel_rfl) (by kernel_rfl) (fun _ _ _ h => h) (Or.inl ⟨by rfl, ?y0pd⟩) (by assumption) ?r0pd
      case y0pd => (intro w' hSw; (try dsimp only at hSw); go_simp; (try with_reducible rfl))
      try simp only [Act.put, List.getElem_toArray, List.getElem_cons_zero, List.getElem_cons_succ, List.setIfInBounds_toArray, List.set_cons_zero, List.set_cons_succ]
      refine wpAnyH_take (i := 1) (oi := _) (v := ?v1pd) rfl (by kernel_rfl) (by kernel_rfl) (by kernel_rfl) (fun _ _ _ h => h) (Or.inl ⟨by rfl, ?y1pd⟩) (by assumption) ?r1pd
      case y1pd => (intro w' hSw; (try dsimp only at hSw); go_simp; (try with_reducible rfl))
      try simp only [Act.put, List.getElem_toArray, List.getElem_cons_zero, List.getElem_cons_succ, List.setIfInBounds_toArray, List.set_cons_zero, List.set_cons_succ]
      refine wpAnyH_take (i := 2) (oi := _) (v := ?v2pd) rfl (by kernel_rfl) (by kernel_rfl) (by kernel_rfl) (fun _ _ _ h => h) (Or.inl ⟨by rfl, ?y2pd⟩) (by assumption) ?r2pd
      case y2pd => (intro w' hSw; (try dsimp only at hSw); go_simp; (try with_reducible rfl))
      try simp only [Act.put, List.getElem_toArray, List.getElem_cons_zero, List.getElem_cons_succ, List.setIfInBounds_toArray, List.set_cons_zero, List.set_cons_succ]
      refine wpAnyH_take (i := 3) (oi := _) (v := ?v3pd) rfl (by kernel_rfl) (by kernel_rfl) (by kernel_rfl) (fun _ _ _ h => h) (Or.inl ⟨by rfl, ?y3pd⟩) (by assumption) ?r3pd
      case y3pd => (intro w' hSw; (try dsimp only at hSw); go_simp; (try with_reducible rfl))
      try simp only [Act.put, List.getElem_toArray, List.getElem_cons_zero, List.getElem_cons_succ, List.setIfInBounds_toArray, List.set_cons_zero, List.set_cons_succ]
      refine wpAnyH_take (i := 4) (oi := _) (v := ?v4pd) rfl (by kernel_rfl) (by kernel_rfl) (by kernel_rfl) (fun _ _ _ h => h) (Or.inl ⟨by rfl, ?y4pd⟩) (by assumption) ?r4pd
      case y4pd => (intro w' hSw; (try dsimp only at hSw); go_simp; (try with_reducible rfl))
      try simp only [Act.put, List.getElem_toArray, List.getElem_cons_zero, List.getElem_cons_succ, List.setIfInBounds_toArray, List.set_cons_zero, List.set_cons_succ]
      refine wpAnyH_take (i := 5) (oi := _) (v := ?v5pd) rfl (by kernel_rfl) (by kernel_rfl) (by kernel_rfl) (fun _ _ _ h => h) (Or.inl ⟨by rfl, ?y5pd⟩) (by assumption) ?r5pd
      case y5pd => (intro w' hSw; (try dsimp only at hSw); go_simp; (try with_reducible rfl))
      try simp only [Act.put, List.getElem_toArray, List.getElem_cons_zero, List.getElem_cons_succ, List.setIfInBounds_toArray, List.set_cons_zero, List.set_cons_succ]
      refine wpAnyH_take (i := 6) (oi := _) (v := ?v6pd) rfl (by kernel_rfl) (by kernel_rfl) (by kernel_rfl) (fun _ _ _ h => h) (Or.inl ⟨by rfl, ?y6pd⟩) (by assumption) ?r6pd
      case y6pd => (intro w' hSw; (try dsimp only at hSw); go_simp; (try with_reducible rfl))
      try simp only [Act.put, List.getElem_toArray, List.getElem_cons_zero, List.getElem_cons_succ, List.setIfInBounds_toArray, List.set_cons_zero, List.set_cons_succ]
      refine wpAnyH_take (i := 7) (oi := _) (v := ?v7pd) rfl (by kernel_rfl) (by kernel_rfl) (by kernel_rfl) (fun _ _ _ h => h) (Or.inl ⟨by rfl, ?y7pd⟩) (by assumption) ?r7pd
      case y7pd => (intro w' hSw; (try dsimp only at hSw); go_simp; (try with_reducible rfl))
      try simp only [Act.put, List.getElem_toArray, List.getElem_cons_zero, List.getElem_cons_succ, List.setIfInBounds_toArray, List.set_cons_zero, List.set_cons_succ]
      refine wpAnyH_take (i := 8) (oi := _) (v := ?v8pd) rfl (by kernel_rfl) (by kernel_rfl) (by kernel_rfl) (fun _ _ _ h => h) (Or.inl ⟨by rfl, ?y8pd⟩) (by assumption) ?r8pd
      case y8pd => (intro w' hSw; (try dsimp only at hSw); go_simp; (try with_reducible rfl))
      try simp only [Act.put, List.getElem_toArray, List.getElem_cons_zero, List.getElem_cons_succ, List.setIfInBounds_toArray, List.set_cons_zero, List.set_cons_succ]
      refine wpAnyH_take (i := 9) (oi := _) (v := ?v9pd) rfl (by kernel_rfl) (by kernel_rfl) (by kernel_rfl) (fun _ _ _ h => h) (Or.inl ⟨by rfl, ?y9pd⟩) (by assumption) ?r9pd
      case y9pd => (intro w' hSw; (try dsimp only at hSw); go_simp; (try with_reducible rfl))
      try simp only [Act.put, List.getElem_toArray, List.getElem_cons_zero, List.getElem_cons_succ, List.setIfInBounds_toArray, List.set_cons_zero, List.set_cons_succ]
      refine wpAnyH_take (i := 10) (oi := _) (v := ?v10pd) rfl (by kernel_rfl) (by kernel_rfl) (by kernel_rfl) (fun _ _ _ h => h) (Or.inl ⟨by rfl, ?y10pd⟩) (by assumption) ?r10pd
      case y10pd => (intro w' hSw; (try dsimp only at hSw); go_simp; (try with_reducible rfl))
      try simp only [Act.put, List.getElem_toArray, List.getElem_cons_zero, List.getElem_cons_succ, List.setIfInBounds_toArray, List.set_cons_zero, List.set_cons_succ]
      refine wpAnyH_take (i := 11) (oi := _) (v := ?v11pd) rfl (by kernel_rfl) (by kernel_rfl) (by kernel_rfl) (fun _ _ _ h => h) (Or.inl ⟨by rfl, ?y11pd⟩) (by assumption) ?r11pd
      case y11pd => (intro w' hSw; (try dsimp only at hSw); go_simp; (try with_reducible rfl))
      try simp only [Act.put, List.getElem_toArray, List.getElem_cons_zero, List.getElem_cons_succ, List.setIfInBounds_toArray, List.set_cons_zero, List.set_cons_succ]
      refine wpAnyH_take (i := 12) (oi := _) (v := ?v12pd) rfl (by kernel_rfl) (by kernel_rfl) (by kernel_rfl) (fun _ _ _ h => h) (Or.inl ⟨by rfl, ?y12pd⟩) (by assumption) ?r12pd
      case y12pd => (intro w' hSw; (try dsimp only at hSw); go_simp; (try with_reducible rfl))
      try simp only [Act.put, List.getElem_toArray, List.getElem_cons_zero, List.getElem_cons_succ, List.setIfInBounds_toArray, List.set_cons_zero, List.set_cons_succ]
      refine wpAnyH_take (i := 13) (oi := _) (v := ?v13pd) rfl (by kernel_rfl) (by kernel_rfl) (by kernel_rfl) (fun _ _ _ h => h) (Or.inl ⟨by rfl, ?y13pd⟩) (by assumption) ?r13pd
      case y13pd => (intro w' hSw; (try dsimp only at hSw); go_simp; (try with_reducible rfl))
      try simp only [Act.put, List.getElem_toArray, List.getElem_cons_zero, List.getElem_cons_succ, List.setIfInBounds_toArray, List.set_cons_zero, List.set_cons_succ]
      refine wpAnyH_done (by kernel_rfl) ?_ _
      clear hHeld
      have HEE := hid (hE.trans EX)
      have J2 := hid (show Blk _ _ _ _ from K0.out.ext EX)
      go_wp2
      go_roundw
      case rel => exact ⟨HEE.out, J2, k + 1, by omega, by go_num, HN2⟩
      case measure => simp [intOf]; omega
    · obtain rfl : k = m := by omega
      have HAA := hid (HS3.out k HA.out (by rw [HM.out]; exact Nat.le_refl _))
      clear HS1 HS2 HS3 HR0 HA HHR
      have a0 := K0.out.cell 0
      have z0 := K0.out.lt
      simp only [List.getElem?_toArray, List.getElem?_cons_zero] at a0
      go_wp2_with fail
      refine (HP.out _ hE).mono ?_
      rintro e w2 ⟨LA, lc, rfl, hown, hE2⟩
      have E2 := hid (hE.trans hE2)
      have J0 := hid (show Blk _ _ _ _ from K0.out.ext hE2)
      obtain ⟨A3, c3, e3, -, hfl, -⟩ := (hown.form (by decide) (fun _ => rfl) 0)
      injection e3 with e3 e4 e5
      subst e3 e5
      have HLI := hid (flat_ints.1 hfl)
      have HNMl := hid (show NM.length = NN.length from HNN.out)
      obtain ⟨nl, hnl⟩ : ∃ nl, NN.length = nl := ⟨_, rfl⟩
      rw [HNN.out, hnl]
      rw [hnl] at hNLn HNMl HAT HMEM HT1 HT2
      have HNL2 := hid hnl
      have HKH2 := hid (show N = kn from HKH.out)
      clear hown hfl hE hE2 K0 a0 z0 HP HNN e4 hnl HS HM HKH
      have HR1' := hid (HR1.out HAA.out)
      clear HR1 HAA
      go_wp2
      go_loopw [9] (fun i wr => Ext w wr ∧ Ext w2 wr ∧ Hid (Blk wr w.heap.size 24 #[.slice A n c]) ∧ ∃ i0 : Nat, i0 ≤ nl ∧ i = .int .i64 i0 ∧ Hid ((NN.take i0).any (fun i => (List.range kn).all fun h => insB (skies.getD h zeroSk) ((f.getD i []).getD h zeroHr)) = false)) (fun i _ => nl - (intOf i).toNat)
      case atStart => exact ⟨E2.out, Ext.refl _, J0, 0, Nat.zero_le _, rfl, hid rfl⟩
      case round =>
        clear E2 J0
        obtain ⟨hE, hE2, K0, i0, hi0, rfl, HA⟩ := hrel
        by_cases hlt : i0 < nl
        · have HST := hid (HT1.out i0 hlt)
          have HHI := hid (fun hp => HR1'.out (HT2.out i0 hlt hp))
          have hat := HAT.out i0 hlt
          have hnn := HNL.out _ (HMEM.out i0 hlt)
          obtain ⟨lb, loff, rfl, hlb, l0⟩ := HLI.out.at1 HNMl.out hlt
          rw [hat] at l0
          clear hat
          generalize NN.getD i0 0 = x at *
          obtain ⟨b, off, rfl, hb0, A', c', hc0, hcap, hhr⟩ := HX.out.at_ HN.out hnn
          have HL1 := hid (HLEN.out _ (mem_at f [] x (by rw [HN.out]; exact hnn)))
          generalize f.getD x [] = y at *
          rw [HL1.out] at hc0 hcap
          have HC0 := hid hc0
          have HH := hid hhr
          have HL0 := hid l0
          have HAS := hid (range_all_snoc (fun h => insB (skies.getD h zeroSk) (y.getD h zeroHr)))
          generalize hPK : (fun j => (List.range j).all (fun h => insB (skies.getD h zeroSk) (y.getD h zeroHr))) = PK
          have hpk : ∀ j, (List.range j).all (fun h => insB (skies.getD h zeroSk) (y.getD h zeroHr)) = PK j := fun j => by rw [← hPK]
          have hp0 : PK 0 = true := by rw [← hPK]; rfl
          simp only [hpk] at HAS HST HHI
          clear hPK hpk hc0 hhr l0 HT1 HT2 HAT HMEM HNL HR1' HLEN
          have z0 := K0.out.lt
          go_wp2
          go_loopw [10, 11] (fun a i wx => Ext wr wx ∧ ∃ j : Nat, j ≤ kn ∧ i = .int .i64 j ∧ a = .bool (PK j)) (fun _ i _ => kn - (intOf i).toNat)
          case atStart => exact ⟨Ext.refl _, 0, Nat.zero_le _, rfl, by rw [hp0]⟩
          case round =>
            obtain ⟨hE3, j, hj, rfl, rfl⟩ := hrel
            have hEw := hE.trans hE3
            have hEl := hE2.trans hE3
            by_cases hlt2 : j < kn
            · obtain ⟨kb, koff, rfl, hkb, e0, e1, e2⟩ := HKS.out.at_ HKN.out hlt2
              obtain ⟨hb, hoff, rfl, hhb, t0, t1, t2, t3, t4, t5⟩ := HH.out.at_ HL1.out (show j < N by rw [HKH2.out]; exact hlt2)
              have HIS := hid (HAS.out j)
              have HI1 := hid (HIN.out (skies.getD j zeroSk) (y.getD j zeroHr))
              generalize insB (skies.getD j zeroSk) (y.getD j zeroHr) = IB at *
              generalize skies.getD j zeroSk = s at *
              generalize y.getD j zeroHr = hh at *
              unfold Sk.val Hr.val at HI1
              obtain ⟨sw, sr, st⟩ := s
              obtain ⟨wl, wh, rl, rh, tl, th⟩ := hh
              dsimp only at *
              generalize PK j = PJ at *
              have g0 := ((show Blk _ _ _ _ from K0.out.ext hE3) : Blk _ _ _ _).cell 0
              simp only [List.getElem?_toArray, List.getElem?_cons_zero] at g0
              have c0 := (hEw.cell (p := ⟨b, _, none⟩) hb0).trans HC0.out
              have l0 := (hEl.cell (p := ⟨lb, _, none⟩) hlb).trans HL0.out
              replace e0 := (hEw.cell (p := ⟨kb, _, none⟩) hkb).trans e0
              replace e1 := (hEw.cell (p := ⟨kb, _, none⟩) hkb).trans e1
              replace e2 := (hEw.cell (p := ⟨kb, _, none⟩) hkb).trans e2
              replace t0 := (hEw.cell (p := ⟨hb, _, none⟩) hhb).trans t0
              replace t1 := (hEw.cell (p := ⟨hb, _, none⟩) hhb).trans t1
              replace t2 := (hEw.cell (p := ⟨hb, _, none⟩) hhb).trans t2
              replace t3 := (hEw.cell (p := ⟨hb, _, none⟩) hhb).trans t3
              replace t4 := (hEw.cell (p := ⟨hb, _, none⟩) hhb).trans t4
              replace t5 := (hEw.cell (p := ⟨hb, _, none⟩) hhb).trans t5
              have q1 := Nat.lt_of_lt_of_le z0 hE3.size
              have q2 := Nat.lt_of_lt_of_le hb0 hEw.size
              have q3 := Nat.lt_of_lt_of_le hkb hEw.size
              have q4 := Nat.lt_of_lt_of_le hhb hEw.size
              have q5 := Nat.lt_of_lt_of_le hlb hEl.size
              have hjN : j < N := by rw [HKH2.out]; exact hlt2
              clear HAS HIN HST HHI HA HR2 HX HKS HH HL0 HC0 K0 HKH2
              go_wp2_with fail
              cases PJ
              · refine wp_region_held_drew (S := fun w' => (∀ b o, b < wr.heap.size → w'.cell? ⟨b, o, none⟩ = wr.cell? ⟨b, o, none⟩) ∧ wr.heap.size ≤ w'.heap.size ∧ Ext wr w') (by kernel_rfl) ?hS0 (fun hHeld => ?_)
                case hS0 => exact sK (Ext.drew (Ext.refl _))
                have X0 : Ext wr wr.drew := Ext.drew (Ext.refl wr)
                have EX := X0
                obtain ⟨X, hX⟩ : ∃ X, wr.drew = X := ⟨_, rfl⟩
                rw [hX] at EX hHeld ⊢
                clear hX X0
                refine wpAnyH_take (i := 0) (oi := _) (v := ?v0qa) rfl (by kernel_rfl) (by kernel_rfl) (by kernel_rfl) (fun _ _ _ h => h) (Or.inl ⟨by rfl, ?y0qa⟩) (by assumption) ?r0qa
                case y0qa => (intro w' hSw; (try dsimp only at hSw); go_simp; (try with_reducible rfl))
                try simp only [Act.put, List.getElem_toArray, List.getElem_cons_zero, List.getElem_cons_succ, List.setIfInBounds_toArray, List.set_cons_zero, List.set_cons_succ]
                refine wpAnyH_take (i := 1) (oi := _) (v := ?v1qa) rfl (by kernel_rfl) (by kernel_rfl) (by kernel_rfl) (fun _ _ _ h => h) (Or.inl ⟨by rfl, ?y1qa⟩) (by assumption) ?r1qa
                case y1qa => (intro w' hSw; (try dsimp only at hSw); go_simp; (try with_reducible rfl))
                try simp only [Act.put, List.getElem_toArray, List.getElem_cons_zero, List.getElem_cons_succ, List.setIfInBounds_toArray, List.set_cons_zero, List.set_cons_succ]
                refine wpAnyH_take (i := 2) (oi := _) (v := undef) rfl (by kernel_rfl) (by kernel_rfl) (by kernel_rfl) (fun _ _ _ h => h) (Or.inr ⟨by rfl, rfl⟩) (by assumption) ?r2qb
                try simp only [Act.put, List.getElem_toArray, List.getElem_cons_zero, List.getElem_cons_succ, List.setIfInBounds_toArray, List.set_cons_zero, List.set_cons_succ]
                refine wpAnyH_take (i := 3) (oi := _) (v := undef) rfl (by kernel_rfl) (by kernel_rfl) (by kernel_rfl) (fun _ _ _ h => h) (Or.inr ⟨by rfl, rfl⟩) (by assumption) ?r3qb
                try simp only [Act.put, List.getElem_toArray, List.getElem_cons_zero, List.getElem_cons_succ, List.setIfInBounds_toArray, List.set_cons_zero, List.set_cons_succ]
                refine wpAnyH_take (i := 4) (oi := _) (v := undef) rfl (by kernel_rfl) (by kernel_rfl) (by kernel_rfl) (fun _ _ _ h => h) (Or.inr ⟨by rfl, rfl⟩) (by assumption) ?r4qb
                try simp only [Act.put, List.getElem_toArray, List.getElem_cons_zero, List.getElem_cons_succ, List.setIfInBounds_toArray, List.set_cons_zero, List.set_cons_succ]
                refine wpAnyH_take (i := 5) (oi := _) (v := undef) rfl (by kernel_rfl) (by kernel_rfl) (by kernel_rfl) (fun _ _ _ h => h) (Or.inr ⟨by rfl, rfl⟩) (by assumption) ?r5qb
                try simp only [Act.put, List.getElem_toArray, List.getElem_cons_zero, List.getElem_cons_succ, List.setIfInBounds_toArray, List.set_cons_zero, List.set_cons_succ]
                refine wpAnyH_take (i := 6) (oi := _) (v := undef) rfl (by kernel_rfl) (by kernel_rfl) (by kernel_rfl) (fun _ _ _ h => h) (Or.inr ⟨by rfl, rfl⟩) (by assumption) ?r6qb
                try simp only [Act.put, List.getElem_toArray, List.getElem_cons_zero, List.getElem_cons_succ, List.setIfInBounds_toArray, List.set_cons_zero, List.set_cons_succ]
                refine wpAnyH_take (i := 7) (oi := _) (v := undef) rfl (by kernel_rfl) (by kernel_rfl) (by kernel_rfl) (fun _ _ _ h => h) (Or.inr ⟨by rfl, rfl⟩) (by assumption) ?r7qb
                try simp only [Act.put, List.getElem_toArray, List.getElem_cons_zero, List.getElem_cons_succ, List.setIfInBounds_toArray, List.set_cons_zero, List.set_cons_succ]
                refine wpAnyH_take (i := 8) (oi := _) (v := undef) rfl (by kernel_rfl) (by kernel_rfl) (by kernel_rfl) (fun _ _ _ h => h) (Or.inr ⟨by rfl, rfl⟩) (by assumption) ?r8qb
                try simp only [Act.put, List.getElem_toArray, List.getElem_cons_zero, List.getElem_cons_succ, List.setIfInBounds_toArray, List.set_cons_zero, List.set_cons_succ]
                refine wpAnyH_take (i := 9) (oi := _) (v := undef) rfl (by kernel_rfl) (by kernel_rfl) (by kernel_rfl) (fun _ _ _ h => h) (Or.inr ⟨by rfl, rfl⟩) (by assumption) ?r9qb
                try simp only [Act.put, List.getElem_toArray, List.getElem_cons_zero, List.getElem_cons_succ, List.setIfInBounds_toArray, List.set_cons_zero, List.set_cons_succ]
                refine wpAnyH_take (i := 10) (oi := _) (v := undef) rfl (by kernel_rfl) (by kernel_rfl) (by kernel_rfl) (fun _ _ _ h => h) (Or.inr ⟨by rfl, rfl⟩) (by assumption) ?r10qb
                try simp only [Act.put, List.getElem_toArray, List.getElem_cons_zero, List.getElem_cons_succ, List.setIfInBounds_toArray, List.set_cons_zero, List.set_cons_succ]
                refine wpAnyH_take (i := 11) (oi := _) (v := undef) rfl (by kernel_rfl) (by kernel_rfl) (by kernel_rfl) (fun _ _ _ h => h) (Or.inr ⟨by rfl, rfl⟩) (by assumption) ?r11qb
                try simp only [Act.put, List.getElem_toArray, List.getElem_cons_zero, List.getElem_cons_succ, List.setIfInBounds_toArray, List.set_cons_zero, List.set_cons_succ]
                refine wpAnyH_take (i := 12) (oi := _) (v := undef) rfl (by kernel_rfl) (by kernel_rfl) (by kernel_rfl) (fun _ _ _ h => h) (Or.inr ⟨by rfl, rfl⟩) (by assumption) ?r12qb
                try simp only [Act.put, List.getElem_toArray, List.getElem_cons_zero, List.getElem_cons_succ, List.setIfInBounds_toArray, List.set_cons_zero, List.set_cons_succ]
                refine wpAnyH_take (i := 13) (oi := _) (v := undef) rfl (by kernel_rfl) (by kernel_rfl) (by kernel_rfl) (fun _ _ _ h => h) (Or.inr ⟨by rfl, rfl⟩) (by assumption) ?r13qb
                try simp only [Act.put, List.getElem_toArray, List.getElem_cons_zero, List.getElem_cons_succ, List.setIfInBounds_toArray, List.set_cons_zero, List.set_cons_succ]
                refine wpAnyH_take (i := 14) (oi := _) (v := undef) rfl (by kernel_rfl) (by kernel_rfl) (by kernel_rfl) (fun _ _ _ h => h) (Or.inr ⟨by rfl, rfl⟩) (by assumption) ?r14qb
                try simp only [Act.put, List.getElem_toArray, List.getElem_cons_zero, List.getElem_cons_succ, List.setIfInBounds_toArray, List.set_cons_zero, List.set_cons_succ]
                refine wpAnyH_take (i := 15) (oi := _) (v := undef) rfl (by kernel_rfl) (by kernel_rfl) (by kernel_rfl) (fun _ _ _ h => h) (Or.inr ⟨by rfl, rfl⟩) (by assumption) ?r15qb
                try simp only [Act.put, List.getElem_toArray, List.getElem_cons_zero, List.getElem_cons_succ, List.setIfInBounds_toArray, List.set_cons_zero, List.set_cons_succ]
                refine wpAnyH_take (i := 16) (oi := _) (v := undef) rfl (by kernel_rfl) (by kernel_rfl) (by kernel_rfl) (fun _ _ _ h => h) (Or.inr ⟨by rfl, rfl⟩) (by assumption) ?r16qb
                try simp only [Act.put, List.getElem_toArray, List.getElem_cons_zero, List.getElem_cons_succ, List.setIfInBounds_toArray, List.set_cons_zero, List.set_cons_succ]
                refine wpAnyH_take (i := 17) (oi := _) (v := undef) rfl (by kernel_rfl) (by kernel_rfl) (by kernel_rfl) (fun _ _ _ h => h) (Or.inr ⟨by rfl, rfl⟩) (by assumption) ?r17qb
                try simp only [Act.put, List.getElem_toArray, List.getElem_cons_zero, List.getElem_cons_succ, List.setIfInBounds_toArray, List.set_cons_zero, List.set_cons_succ]
                refine wpAnyH_take (i := 18) (oi := _) (v := undef) rfl (by kernel_rfl) (by kernel_rfl) (by kernel_rfl) (fun _ _ _ h => h) (Or.inr ⟨by rfl, rfl⟩) (by assumption) ?r18qb
                try simp only [Act.put, List.getElem_toArray, List.getElem_cons_zero, List.getElem_cons_succ, List.setIfInBounds_toArray, List.set_cons_zero, List.set_cons_succ]
                refine wpAnyH_take (i := 19) (oi := _) (v := ?v19qc) rfl (by kernel_rfl) (by kernel_rfl) (by kernel_rfl) (fun _ _ _ h => h) (Or.inl ⟨by rfl, ?y19qc⟩) (by assumption) ?r19qc
                case y19qc => (intro w' hSw; (try dsimp only at hSw); go_simp; (try with_reducible rfl))
                try simp only [Act.put, List.getElem_toArray, List.getElem_cons_zero, List.getElem_cons_succ, List.setIfInBounds_toArray, List.set_cons_zero, List.set_cons_succ]
                refine wpAnyH_take (i := 20) (oi := _) (v := ?v20qc) rfl (by kernel_rfl) (by kernel_rfl) (by kernel_rfl) (fun _ _ _ h => h) (Or.inl ⟨by rfl, ?y20qc⟩) (by assumption) ?r20qc
                case y20qc => (intro w' hSw; (try dsimp only at hSw); go_simp; (try with_reducible rfl))
                try simp only [Act.put, List.getElem_toArray, List.getElem_cons_zero, List.getElem_cons_succ, List.setIfInBounds_toArray, List.set_cons_zero, List.set_cons_succ]
                refine wpAnyH_done (by kernel_rfl) ?_ _
                clear hHeld
                have HEE := hid (hE3.trans EX)
                go_wp2
                go_roundw
                case rel => exact ⟨HEE.out, j + 1, by omega, by go_num, by rw [HIS.out]; rfl⟩
                case measure => simp [intOf]; omega
              · refine wp_region_held_drew (S := fun w' => (∀ b o, b < wr.heap.size → w'.cell? ⟨b, o, none⟩ = wr.cell? ⟨b, o, none⟩) ∧ wr.heap.size ≤ w'.heap.size ∧ Ext wr w') (by kernel_rfl) ?hS0 (fun hHeld => ?_)
                case hS0 => exact sK (Ext.drew (Ext.refl _))
                have X0 : Ext wr wr.drew := Ext.drew (Ext.refl wr)
                have EX := X0
                obtain ⟨X, hX⟩ : ∃ X, wr.drew = X := ⟨_, rfl⟩
                rw [hX] at EX hHeld ⊢
                clear hX X0
                refine wpAnyH_take (i := 0) (oi := _) (v := ?v0qd) rfl (by kernel_rfl) (by kernel_rfl) (by kernel_rfl) (fun _ _ _ h => h) (Or.inl ⟨by rfl, ?y0qd⟩) (by assumption) ?r0qd
                case y0qd => (intro w' hSw; (try dsimp only at hSw); go_simp; (try with_reducible rfl))
                try simp only [Act.put, List.getElem_toArray, List.getElem_cons_zero, List.getElem_cons_succ, List.setIfInBounds_toArray, List.set_cons_zero, List.set_cons_succ]
                refine wpAnyH_take (i := 1) (oi := _) (v := ?v1qd) rfl (by kernel_rfl) (by kernel_rfl) (by kernel_rfl) (fun _ _ _ h => h) (Or.inl ⟨by rfl, ?y1qd⟩) (by assumption) ?r1qd
                case y1qd => (intro w' hSw; (try dsimp only at hSw); go_simp; (try with_reducible rfl))
                try simp only [Act.put, List.getElem_toArray, List.getElem_cons_zero, List.getElem_cons_succ, List.setIfInBounds_toArray, List.set_cons_zero, List.set_cons_succ]
                refine wpAnyH_take (i := 2) (oi := _) (v := ?v2qd) rfl (by kernel_rfl) (by kernel_rfl) (by kernel_rfl) (fun _ _ _ h => h) (Or.inl ⟨by rfl, ?y2qd⟩) (by assumption) ?r2qd
                case y2qd => (intro w' hSw; (try dsimp only at hSw); go_simp; (try with_reducible rfl))
                try simp only [Act.put, List.getElem_toArray, List.getElem_cons_zero, List.getElem_cons_succ, List.setIfInBounds_toArray, List.set_cons_zero, List.set_cons_succ]
                refine wpAnyH_take (i := 3) (oi := _) (v := ?v3qd) rfl (by kernel_rfl) (by kernel_rfl) (by kernel_rfl) (fun _ _ _ h => h) (Or.inl ⟨by rfl, ?y3qd⟩) (by assumption) ?r3qd
                case y3qd => (intro w' hSw; (try dsimp only at hSw); go_simp; (try with_reducible rfl))
                try simp only [Act.put, List.getElem_toArray, List.getElem_cons_zero, List.getElem_cons_succ, List.setIfInBounds_toArray, List.set_cons_zero, List.set_cons_succ]
                refine wpAnyH_take (i := 4) (oi := _) (v := ?v4qd) rfl (by kernel_rfl) (by kernel_rfl) (by kernel_rfl) (fun _ _ _ h => h) (Or.inl ⟨by rfl, ?y4qd⟩) (by assumption) ?r4qd
                case y4qd => (intro w' hSw; (try dsimp only at hSw); go_simp; (try with_reducible rfl))
                try simp only [Act.put, List.getElem_toArray, List.getElem_cons_zero, List.getElem_cons_succ, List.setIfInBounds_toArray, List.set_cons_zero, List.set_cons_succ]
                refine wpAnyH_take (i := 5) (oi := _) (v := ?v5qd) rfl (by kernel_rfl) (by kernel_rfl) (by kernel_rfl) (fun _ _ _ h => h) (Or.inl ⟨by rfl, ?y5qd⟩) (by assumption) ?r5qd
                case y5qd => (intro w' hSw; (try dsimp only at hSw); go_simp; (try with_reducible rfl))
                try simp only [Act.put, List.getElem_toArray, List.getElem_cons_zero, List.getElem_cons_succ, List.setIfInBounds_toArray, List.set_cons_zero, List.set_cons_succ]
                refine wpAnyH_take (i := 6) (oi := _) (v := ?v6qd) rfl (by kernel_rfl) (by kernel_rfl) (by kernel_rfl) (fun _ _ _ h => h) (Or.inl ⟨by rfl, ?y6qd⟩) (by assumption) ?r6qd
                case y6qd => (intro w' hSw; (try dsimp only at hSw); go_simp; (try with_reducible rfl))
                try simp only [Act.put, List.getElem_toArray, List.getElem_cons_zero, List.getElem_cons_succ, List.setIfInBounds_toArray, List.set_cons_zero, List.set_cons_succ]
                refine wpAnyH_take (i := 7) (oi := _) (v := ?v7qd) rfl (by kernel_rfl) (by kernel_rfl) (by kernel_rfl) (fun _ _ _ h => h) (Or.inl ⟨by rfl, ?y7qd⟩) (by assumption) ?r7qd
                case y7qd => (intro w' hSw; (try dsimp only at hSw); go_simp; (try with_reducible rfl))
                try simp only [Act.put, List.getElem_toArray, List.getElem_cons_zero, List.getElem_cons_succ, List.setIfInBounds_toArray, List.set_cons_zero, List.set_cons_succ]
                refine wpAnyH_take (i := 8) (oi := _) (v := ?v8qd) rfl (by kernel_rfl) (by kernel_rfl) (by kernel_rfl) (fun _ _ _ h => h) (Or.inl ⟨by rfl, ?y8qd⟩) (by assumption) ?r8qd
                case y8qd => (intro w' hSw; (try dsimp only at hSw); go_simp; (try with_reducible rfl))
                try simp only [Act.put, List.getElem_toArray, List.getElem_cons_zero, List.getElem_cons_succ, List.setIfInBounds_toArray, List.set_cons_zero, List.set_cons_succ]
                refine wpAnyH_take (i := 9) (oi := _) (v := ?v9qd) rfl (by kernel_rfl) (by kernel_rfl) (by kernel_rfl) (fun _ _ _ h => h) (Or.inl ⟨by rfl, ?y9qd⟩) (by assumption) ?r9qd
                case y9qd => (intro w' hSw; (try dsimp only at hSw); go_simp; (try with_reducible rfl))
                try simp only [Act.put, List.getElem_toArray, List.getElem_cons_zero, List.getElem_cons_succ, List.setIfInBounds_toArray, List.set_cons_zero, List.set_cons_succ]
                refine wpAnyH_take (i := 10) (oi := _) (v := ?v10qd) rfl (by kernel_rfl) (by kernel_rfl) (by kernel_rfl) (fun _ _ _ h => h) (Or.inl ⟨by rfl, ?y10qd⟩) (by assumption) ?r10qd
                case y10qd => (intro w' hSw; (try dsimp only at hSw); go_simp; (try with_reducible rfl))
                try simp only [Act.put, List.getElem_toArray, List.getElem_cons_zero, List.getElem_cons_succ, List.setIfInBounds_toArray, List.set_cons_zero, List.set_cons_succ]
                refine wpAnyH_take (i := 11) (oi := _) (v := ?v11qd) rfl (by kernel_rfl) (by kernel_rfl) (by kernel_rfl) (fun _ _ _ h => h) (Or.inl ⟨by rfl, ?y11qd⟩) (by assumption) ?r11qd
                case y11qd => (intro w' hSw; (try dsimp only at hSw); go_simp; (try with_reducible rfl))
                try simp only [Act.put, List.getElem_toArray, List.getElem_cons_zero, List.getElem_cons_succ, List.setIfInBounds_toArray, List.set_cons_zero, List.set_cons_succ]
                refine wpAnyH_take (i := 12) (oi := _) (v := ?v12qd) rfl (by kernel_rfl) (by kernel_rfl) (by kernel_rfl) (fun _ _ _ h => h) (Or.inl ⟨by rfl, ?y12qd⟩) (by assumption) ?r12qd
                case y12qd => (intro w' hSw; (try dsimp only at hSw); go_simp; (try with_reducible rfl))
                try simp only [Act.put, List.getElem_toArray, List.getElem_cons_zero, List.getElem_cons_succ, List.setIfInBounds_toArray, List.set_cons_zero, List.set_cons_succ]
                refine wpAnyH_take (i := 13) (oi := _) (v := ?v13qd) rfl (by kernel_rfl) (by kernel_rfl) (by kernel_rfl) (fun _ _ _ h => h) (Or.inl ⟨by rfl, ?y13qd⟩) (by assumption) ?r13qd
                case y13qd => (intro w' hSw; (try dsimp only at hSw); go_simp; (try with_reducible rfl))
                try simp only [Act.put, List.getElem_toArray, List.getElem_cons_zero, List.getElem_cons_succ, List.setIfInBounds_toArray, List.set_cons_zero, List.set_cons_succ]
                refine wpAnyH_take (i := 14) (oi := _) (v := ?v14qd) rfl (by kernel_rfl) (by kernel_rfl) (by kernel_rfl) (fun _ _ _ h => h) (Or.inl ⟨by rfl, ?y14qd⟩) (by assumption) ?r14qd
                case y14qd => (intro w' hSw; (try dsimp only at hSw); go_simp; (try with_reducible rfl))
                try simp only [Act.put, List.getElem_toArray, List.getElem_cons_zero, List.getElem_cons_succ, List.setIfInBounds_toArray, List.set_cons_zero, List.set_cons_succ]
                refine wpAnyH_take (i := 15) (oi := _) (v := ?v15qd) rfl (by kernel_rfl) (by kernel_rfl) (by kernel_rfl) (fun _ _ _ h => h) (Or.inl ⟨by rfl, ?y15qd⟩) (by assumption) ?r15qd
                case y15qd => (intro w' hSw; (try dsimp only at hSw); go_simp; (try with_reducible rfl))
                try simp only [Act.put, List.getElem_toArray, List.getElem_cons_zero, List.getElem_cons_succ, List.setIfInBounds_toArray, List.set_cons_zero, List.set_cons_succ]
                refine wpAnyH_take (i := 16) (oi := _) (v := ?v16qd) rfl (by kernel_rfl) (by kernel_rfl) (by kernel_rfl) (fun _ _ _ h => h) (Or.inl ⟨by rfl, ?y16qd⟩) (by assumption) ?r16qd
                case y16qd => (intro w' hSw; (try dsimp only at hSw); go_simp; (try with_reducible rfl))
                try simp only [Act.put, List.getElem_toArray, List.getElem_cons_zero, List.getElem_cons_succ, List.setIfInBounds_toArray, List.set_cons_zero, List.set_cons_succ]
                refine wpAnyH_take (i := 17) (oi := _) (v := ?v17qd) rfl (by kernel_rfl) (by kernel_rfl) (by kernel_rfl) (fun _ _ _ h => h) (Or.inl ⟨by rfl, ?y17qd⟩) (by assumption) ?r17qd
                case y17qd => (intro w' hSw; (try dsimp only at hSw); go_simp; (try with_reducible rfl))
                try simp only [Act.put, List.getElem_toArray, List.getElem_cons_zero, List.getElem_cons_succ, List.setIfInBounds_toArray, List.set_cons_zero, List.set_cons_succ]
                refine wpAnyH_ready (rs := [18]) (by kernel_rfl) (by simp) ?_
                refine AllReadyH.cons (o := _) rfl (fun K hK => ?_) AllReadyH.nil
                go_simp
                refine Calls.mono (HI1.out _) ?_
                rintro e X1 ⟨rfl, hE1⟩
                dsimp only
                replace EX := EX.trans hE1
                clear hHeld hE1
                refine hK.out _ _ (sK EX) (fun hHeld => ?_)
                clear hK K
                try simp only [Act.put, List.getElem_toArray, List.getElem_cons_zero, List.getElem_cons_succ, List.setIfInBounds_toArray, List.set_cons_zero, List.set_cons_succ]
                refine wpAnyH_take (i := 19) (oi := _) (v := ?v19qe) rfl (by kernel_rfl) (by kernel_rfl) (by kernel_rfl) (fun _ _ _ h => h) (Or.inl ⟨by rfl, ?y19qe⟩) (by assumption) ?r19qe
                case y19qe => (intro w' hSw; (try dsimp only at hSw); go_simp; (try with_reducible rfl))
                try simp only [Act.put, List.getElem_toArray, List.getElem_cons_zero, List.getElem_cons_succ, List.setIfInBounds_toArray, List.set_cons_zero, List.set_cons_succ]
                refine wpAnyH_take (i := 20) (oi := _) (v := ?v20qe) rfl (by kernel_rfl) (by kernel_rfl) (by kernel_rfl) (fun _ _ _ h => h) (Or.inl ⟨by rfl, ?y20qe⟩) (by assumption) ?r20qe
                case y20qe => (intro w' hSw; (try dsimp only at hSw); go_simp; (try with_reducible rfl))
                try simp only [Act.put, List.getElem_toArray, List.getElem_cons_zero, List.getElem_cons_succ, List.setIfInBounds_toArray, List.set_cons_zero, List.set_cons_succ]
                refine wpAnyH_done (by kernel_rfl) ?_ _
                clear hHeld
                have HEE := hid (hE3.trans EX)
                go_wp2
                go_roundw
                case rel => exact ⟨HEE.out, j + 1, by omega, by go_num, by rw [HIS.out]; rfl⟩
                case measure => simp [intOf]; omega
            · obtain rfl : j = kn := by omega
              have J2 := hid (show Blk _ _ _ _ from K0.out.ext hE3)
              have HEw := hid hEw
              have HEl := hid hEl
              clear HAS HH HC0 HL0 K0 z0 hE hE2 hE3 hEw hEl HIN HX HKS
              cases hPJ : PK j
              · have HN2 := hid (HST.out.trans (by rw [HA.out, hPJ] <;> rfl))
                clear HST HA HHI HR2 hPJ
                go_wp2
                go_roundw
                case rel => exact ⟨HEw.out, HEl.out, J2, i0 + 1, by omega, by go_num, HN2⟩
                case measure => simp [intOf]; omega
              · have HRR := hid (HHI.out hPJ)
                clear HST HA HHI HR2 hPJ
                go_wp2
                go_ret
                exact ⟨ret_bool HRR.out.symm, HEw.out⟩
        · obtain rfl : i0 = nl := by omega
          have HRR := hid (HR2.out (by have := HA.out; rw [List.take_of_length_le (by rw [HNL2.out]; exact Nat.le_refl _)] at this; exact this))
          clear HR2 HA HT1 HT2 HR1'
          go_wp2
          go_ret
          exact ⟨ret_bool HRR.out.symm, hE⟩
end Go.Proofs.YtecamnhnjmldcaaGreatDoor
