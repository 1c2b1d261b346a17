/- level of the specification. -/
import Derived.Test.YtggggnjibedgaaaGreatBTopLevel19
import Derived.Test.YtggggnjibedgaaaGreatB14
import Derived.Test.YtggggnjibedgaaaGreatB13
set_option linter.unusedSimpArgs false
set_option linter.unusedVariables false
namespace Go.Proofs.YtggggnjibedgaaaGreat
open Go.RowKit
def lvS (ps : List Po) (lim yrs : Int) (es : List Nat) : Bool := (List.range es.length).all fun i => (List.range es.length).all fun k => !(decide (i < k) && tiltB lim yrs (ps.getD (es.getD i 0) zeroPo) (ps.getD (es.getD k 0) zeroPo))
theorem lvS_bad {ps : List Po} {lim yrs : Int} {es : List Nat} {i k : Nat} (hik : i < k) (hk : k < es.length) (h : tiltB lim yrs (ps.getD (es.getD i 0) zeroPo) (ps.getD (es.getD k 0) zeroPo) = true) : lvS ps lim yrs es = false := by
  unfold lvS
  rw [List.all_eq_false]
  refine ⟨i, List.mem_range.2 (by omega), ?_⟩
  rw [Bool.not_eq_true, List.all_eq_false]
  exact ⟨k, List.mem_range.2 hk, by rw [h, decide_eq_true hik]; decide⟩
theorem lvS_end {ps : List Po} {lim yrs : Int} {es : List Nat} (h : ∀ i, i < es.length → ∀ k, i < k → k < es.length → tiltB lim yrs (ps.getD (es.getD i 0) zeroPo) (ps.getD (es.getD k 0) zeroPo) = false) : lvS ps lim yrs es = true := by
  unfold lvS
  rw [List.all_eq_true]
  intro i hi
  rw [List.all_eq_true]
  intro k hk
  by_cases hik : i < k
  · rw [h i (List.mem_range.1 hi) k hik (List.mem_range.1 hk)]; simp
  · rw [decide_eq_false hik]; rfl
theorem lvS_levB (ps : List Po) (lim yrs : Int) (es : List Nat) : lvS ps lim yrs es = levB (es.map fun e => ps.getD e zeroPo) lim yrs := by
  have hg : ∀ i, i < es.length → (es.map fun e => ps.getD e zeroPo).getD i zeroPo = ps.getD (es.getD i 0) zeroPo := fun i hi => by
    rw [List.getD_eq_getElem?_getD, List.getElem?_map, List.getD_eq_getElem?_getD (l := es), List.getElem?_eq_getElem hi]
    rfl
  rw [Bool.eq_iff_iff]
  unfold lvS levB
  rw [List.length_map]
  simp only [List.all_eq_true, List.mem_range]
  constructor
  · intro h i hi j hj
    have := h j (by omega) i hi
    rw [decide_eq_true hj, Bool.true_and] at this
    rw [hg i hi, hg j (by omega)]
    exact this
  · intro h i hi k hk
    by_cases hik : i < k
    · have := h k hk i hik
      rw [hg i hi, hg k hk] at this
      rw [decide_eq_true hik, Bool.true_and]
      exact this
    · rw [decide_eq_false hik]; rfl
theorem memL_len (x : Nat) : (memL x).length = (elemsL 8 x).length := by unfold memL; rw [List.length_map]
theorem memL_at (x i : Nat) (h : i < (elemsL 8 x).length) : (memL x).getD i 0 = (((elemsL 8 x).getD i 0 : Nat) : Int) := by
  unfold memL
  rw [List.getD_eq_getElem?_getD, List.getElem?_map, List.getD_eq_getElem?_getD (l := elemsL 8 x), List.getElem?_eq_getElem h]
  rfl
theorem elems_len (x : Nat) : (elemsL 8 x).length ≤ 8 := by
  unfold elemsL
  exact Nat.le_trans (List.length_filter_le _ _) (by simp)
set_option maxRecDepth 100000 in
set_option maxHeartbeats 8000000 in
theorem rlevel_any (ps : List Po) (x : Nat) (hx8 : x < 256) (hes : ∀ e ∈ elemsL 8 x, e < ps.length) (A : Option Addr) (n c : Nat) (hn : ps.length = n) (hp : ∀ p ∈ ps, poB p = true) (lim yrs : Int) (hl : 0 ≤ lim ∧ lim ≤ 1000) (hyr : 0 ≤ yrs ∧ yrs ≤ 101) (w : World) (hx : PosAt w A ps) :
    Calls Tryz.prog 92 #[.slice A n c, .int .i64 x, .int .i64 lim, .int .i64 yrs] w fun e w' => e = .returned (.bool (lvS ps lim yrs (elemsL 8 x))) ∧ Ext w w' := by
  have HM := hid (fun W => rmembers_any x hx8 W)
  have HC := hid (fun (i j : Nat) (hi : i < n) (hj : j < n) (W : World) (hE : Ext w W) => rcan_any ps A n c hn hp i j hi hj lim yrs hl hyr W (hx.ext hE))
  have HES := hid (fun i (hi : i < (elemsL 8 x).length) => show (elemsL 8 x).getD i 0 < n by
    rw [← hn]
    apply hes
    simp [List.getD, List.getElem?_eq_getElem hi])
  have HAT := hid (fun i (hi : i < (elemsL 8 x).length) => memL_at x i hi)
  have HLN := hid (memL_len x)
  have h8 := elems_len x
  have HBD := hid (fun i k (hik : i < k) (hk : k < (elemsL 8 x).length) h => lvS_bad (ps := ps) (lim := lim) (yrs := yrs) (es := elemsL 8 x) hik hk h)
  have HEN := hid (fun h => lvS_end (ps := ps) (lim := lim) (yrs := yrs) (es := elemsL 8 x) h)
  obtain ⟨RR, hRR⟩ : ∃ b, lvS ps lim yrs (elemsL 8 x) = b := ⟨_, rfl⟩
  rw [hRR] at HBD HEN ⊢
  clear hRR hx hn hp hes
  generalize memL x = L at *
  generalize elemsL 8 x = es at *
  generalize hTB : (fun i j : Nat => tiltB lim yrs (ps.getD i zeroPo) (ps.getD j zeroPo)) = TB at *
  have hTe : ∀ i j, tiltB lim yrs (ps.getD i zeroPo) (ps.getD j zeroPo) = TB i j := fun i j => by rw [← hTB]
  simp only [hTe] at HC HBD HEN
  clear hTB hTe
  obtain ⟨m, hm⟩ : ∃ m, es.length = m := ⟨_, rfl⟩
  rw [hm] at HES HAT HLN h8 HBD HEN
  clear hm hx8
  go_enter Tryz.func92, Tryz.ntmps92
  go_wp2_with fail
  refine Calls.mono (HM.out _) ?_
  rintro e w2 ⟨LA, lc, rfl, hI, hE2⟩
  have HI := hid hI
  have HX2 := hid hE2
  rw [HLN.out]
  clear hI hE2 HM
  go_wp2
  go_loopw [10] (fun i wr => Ext w wr ∧ Ext w2 wr ∧ ∃ k : Nat, k ≤ m ∧ i = .int .i64 k ∧ Hid (∀ i, i < k → ∀ j, i < j → j < m → TB (es.getD i 0) (es.getD j 0) = false)) (fun i _ => m - (intOf i).toNat)
  case atStart => exact ⟨HX2.out, Ext.refl _, 0, Nat.zero_le _, rfl, hid (fun i hi => by omega)⟩
  case round =>
    obtain ⟨hE, hE2, i, hi, rfl, HA⟩ := hrel
    by_cases hlt : i < m
    · have hi1 : (i : Int) < (m : Int) := by omega
      have hi0 : (0 : Int) ≤ (i : Int) := by omega
      have hw1 : IntKind.i64.wrap ((i : Int) + 1) = ((i + 1 : Nat) : Int) := by rw [IntWalk.i64_in _ (by omega)]; omega
      obtain ⟨wo, hwo⟩ : ∃ wo, wo = wr := ⟨_, rfl⟩
      subst hwo
      go_wp2
      go_loopw [11] (fun u wx => Ext w wx ∧ Ext w2 wx ∧ ∃ k : Nat, i < k ∧ k ≤ m ∧ u = .int .i64 k ∧ Hid (∀ j, i < j → j < k → TB (es.getD i 0) (es.getD j 0) = false)) (fun u _ => m - (intOf u).toNat)
      case atStart => exact ⟨hE, hE2, i + 1, by omega, by omega, by first | rfl | go_num, hid (fun j h1 h2 => by omega)⟩
      case round =>
        obtain ⟨hF, hF2, k, hik, hk, rfl, HB⟩ := hrel
        by_cases hlt2 : k < m
        · obtain ⟨b, off, rfl, hb, hc⟩ := (HI.out.ext hF2) (fun h => by have := HLN.out; rw [h] at this; simp at this; omega)
          have q1 := hc i (by have := HLN.out; omega)
          have q2 := hc k (by have := HLN.out; omega)
          rw [HAT.out i hlt] at q1
          rw [HAT.out k hlt2] at q2
          have HCk := hid (HC.out (es.getD i 0) (es.getD k 0) (HES.out i hlt) (HES.out k hlt2))
          have HBDk := hid (HBD.out i k hik hlt2)
          obtain ⟨tb, htb⟩ : ∃ tb, TB (es.getD i 0) (es.getD k 0) = tb := ⟨_, rfl⟩
          rw [htb] at HCk HBDk
          have HTB := hid htb
          have hk0 : (0 : Int) ≤ (k : Int) := by omega
          have hk1 : (k : Int) < (m : Int) := by omega
          clear hc htb HC HES HAT HBD HEN
          generalize es.getD i 0 = ei at *
          cases tb
          · have HB2 := hid (show ∀ j, i < j → j < k + 1 → TB ei (es.getD j 0) = false from fun j h1 h2 => by
              rcases Nat.lt_succ_iff_lt_or_eq.1 h2 with h | rfl
              · exact HB.out j h1 h
              · exact HTB.out)
            generalize es.getD k 0 = ek at *
            go_wp2_with fail
            refine wp_region_held_drew (S := fun w' => (∀ b o, b < wr.heap.size → w'.cell? ⟨b, o, none⟩ = wr.cell? ⟨b, o, none⟩) ∧ wr.heap.size ≤ w'.heap.size ∧ Ext wr w') (by kernel_rfl) ?hS0 (fun hHeld => ?_)
            case hS0 => exact sK (Ext.drew (Ext.refl _))
            have X0 : Ext wr wr.drew := Ext.drew (Ext.refl wr)
            have EX := X0
            obtain ⟨X, hX⟩ : ∃ X, wr.drew = X := ⟨_, rfl⟩
            rw [hX] at EX hHeld ⊢
            clear hX X0
            refine tk1 (i := 0) (v := ?v0a) rfl ?y0a ?r0a
            case y0a => (intro w' hSw; (try dsimp only at hSw); go_simp; (try with_reducible rfl))
            try simp only [Act.put, sq1, sq2, sq3, sq4, sq5, sq6]
            refine tk1 (i := 1) (v := ?v1a) rfl ?y1a ?r1a
            case y1a => (intro w' hSw; (try dsimp only at hSw); go_simp; (try with_reducible rfl))
            try simp only [Act.put, sq1, sq2, sq3, sq4, sq5, sq6]
            refine tk1 (i := 2) (v := ?v2a) rfl ?y2a ?r2a
            case y2a => (intro w' hSw; (try dsimp only at hSw); go_simp; (try with_reducible rfl))
            try simp only [Act.put, sq1, sq2, sq3, sq4, sq5, sq6]
            refine tk1 (i := 3) (v := ?v3a) rfl ?y3a ?r3a
            case y3a => (intro w' hSw; (try dsimp only at hSw); go_simp; (try with_reducible rfl))
            try simp only [Act.put, sq1, sq2, sq3, sq4, sq5, sq6]
            refine tk1 (i := 4) (v := ?v4a) rfl ?y4a ?r4a
            case y4a => (intro w' hSw; (try dsimp only at hSw); go_simp; (try with_reducible rfl))
            try simp only [Act.put, sq1, sq2, sq3, sq4, sq5, sq6]
            refine tk1 (i := 5) (v := ?v5a) rfl ?y5a ?r5a
            case y5a => (intro w' hSw; (try dsimp only at hSw); go_simp; (try with_reducible rfl))
            try simp only [Act.put, sq1, sq2, sq3, sq4, sq5, sq6]
            refine tk1 (i := 6) (v := ?v6a) rfl ?y6a ?r6a
            case y6a => (intro w' hSw; (try dsimp only at hSw); go_simp; (try with_reducible rfl))
            try simp only [Act.put, sq1, sq2, sq3, sq4, sq5, sq6]
            refine tk1 (i := 7) (v := ?v7a) rfl ?y7a ?r7a
            case y7a => (intro w' hSw; (try dsimp only at hSw); go_simp; (try with_reducible rfl))
            try simp only [Act.put, sq1, sq2, sq3, sq4, sq5, sq6]
            refine tk1 (i := 8) (v := ?v8a) rfl ?y8a ?r8a
            case y8a => (intro w' hSw; (try dsimp only at hSw); go_simp; (try with_reducible rfl))
            try simp only [Act.put, sq1, sq2, sq3, sq4, sq5, sq6]
            refine tk1 (i := 9) (v := ?v9a) rfl ?y9a ?r9a
            case y9a => (intro w' hSw; (try dsimp only at hSw); go_simp; (try with_reducible rfl))
            try simp only [Act.put, sq1, sq2, sq3, sq4, sq5, sq6]
            refine tk1 (i := 10) (v := ?v10a) rfl ?y10a ?r10a
            case y10a => (intro w' hSw; (try dsimp only at hSw); go_simp; (try with_reducible rfl))
            try simp only [Act.put, sq1, sq2, sq3, sq4, sq5, sq6]
            refine wpAnyH_ready (rs := [11]) (by kernel_rfl) (by simp) ?_
            refine AllReadyH.cons (o := _) rfl (fun K hK => ?_) AllReadyH.nil
            go_simp
            refine Calls.mono (HCk.out _ (hF.trans EX)) ?_
            rintro e X ⟨rfl, hEX⟩
            dsimp only
            replace EX := EX.trans hEX
            clear hHeld hEX
            refine hK.out _ _ (sK EX) (fun hHeld => ?_)
            clear hK K
            try simp only [Act.put, sq1, sq2, sq3, sq4, sq5, sq6]
            refine wpAnyH_done (by kernel_rfl) ?_ _
            have HEE := hid (hF.trans EX)
            have HFF := hid (hF2.trans EX)
            clear hHeld EX
            go_wp2
            go_roundw
            case rel => exact ⟨HEE.out, HFF.out, k + 1, by omega, by omega, by go_num, HB2⟩
            case measure => simp [intOf]; omega
          · have HR := hid (HBDk.out rfl)
            generalize es.getD k 0 = ek at *
            go_wp2_with fail
            refine wp_region_held_drew (S := fun w' => (∀ b o, b < wr.heap.size → w'.cell? ⟨b, o, none⟩ = wr.cell? ⟨b, o, none⟩) ∧ wr.heap.size ≤ w'.heap.size ∧ Ext wr w') (by kernel_rfl) ?hS0 (fun hHeld => ?_)
            case hS0 => exact sK (Ext.drew (Ext.refl _))
            have X0 : Ext wr wr.drew := Ext.drew (Ext.refl wr)
            have EX := X0
            obtain ⟨X, hX⟩ : ∃ X, wr.drew = X := ⟨_, rfl⟩
            rw [hX] at EX hHeld ⊢
            clear hX X0
            refine tk1 (i := 0) (v := ?v0b) rfl ?y0b ?r0b
            case y0b => (intro w' hSw; (try dsimp only at hSw); go_simp; (try with_reducible rfl))
            try simp only [Act.put, sq1, sq2, sq3, sq4, sq5, sq6]
            refine tk1 (i := 1) (v := ?v1b) rfl ?y1b ?r1b
            case y1b => (intro w' hSw; (try dsimp only at hSw); go_simp; (try with_reducible rfl))
            try simp only [Act.put, sq1, sq2, sq3, sq4, sq5, sq6]
            refine tk1 (i := 2) (v := ?v2b) rfl ?y2b ?r2b
            case y2b => (intro w' hSw; (try dsimp only at hSw); go_simp; (try with_reducible rfl))
            try simp only [Act.put, sq1, sq2, sq3, sq4, sq5, sq6]
            refine tk1 (i := 3) (v := ?v3b) rfl ?y3b ?r3b
            case y3b => (intro w' hSw; (try dsimp only at hSw); go_simp; (try with_reducible rfl))
            try simp only [Act.put, sq1, sq2, sq3, sq4, sq5, sq6]
            refine tk1 (i := 4) (v := ?v4b) rfl ?y4b ?r4b
            case y4b => (intro w' hSw; (try dsimp only at hSw); go_simp; (try with_reducible rfl))
            try simp only [Act.put, sq1, sq2, sq3, sq4, sq5, sq6]
            refine tk1 (i := 5) (v := ?v5b) rfl ?y5b ?r5b
            case y5b => (intro w' hSw; (try dsimp only at hSw); go_simp; (try with_reducible rfl))
            try simp only [Act.put, sq1, sq2, sq3, sq4, sq5, sq6]
            refine tk1 (i := 6) (v := ?v6b) rfl ?y6b ?r6b
            case y6b => (intro w' hSw; (try dsimp only at hSw); go_simp; (try with_reducible rfl))
            try simp only [Act.put, sq1, sq2, sq3, sq4, sq5, sq6]
            refine tk1 (i := 7) (v := ?v7b) rfl ?y7b ?r7b
            case y7b => (intro w' hSw; (try dsimp only at hSw); go_simp; (try with_reducible rfl))
            try simp only [Act.put, sq1, sq2, sq3, sq4, sq5, sq6]
            refine tk1 (i := 8) (v := ?v8b) rfl ?y8b ?r8b
            case y8b => (intro w' hSw; (try dsimp only at hSw); go_simp; (try with_reducible rfl))
            try simp only [Act.put, sq1, sq2, sq3, sq4, sq5, sq6]
            refine tk1 (i := 9) (v := ?v9b) rfl ?y9b ?r9b
            case y9b => (intro w' hSw; (try dsimp only at hSw); go_simp; (try with_reducible rfl))
            try simp only [Act.put, sq1, sq2, sq3, sq4, sq5, sq6]
            refine tk1 (i := 10) (v := ?v10b) rfl ?y10b ?r10b
            case y10b => (intro w' hSw; (try dsimp only at hSw); go_simp; (try with_reducible rfl))
            try simp only [Act.put, sq1, sq2, sq3, sq4, sq5, sq6]
            refine wpAnyH_ready (rs := [11]) (by kernel_rfl) (by simp) ?_
            refine AllReadyH.cons (o := _) rfl (fun K hK => ?_) AllReadyH.nil
            go_simp
            refine Calls.mono (HCk.out _ (hF.trans EX)) ?_
            rintro e X ⟨rfl, hEX⟩
            dsimp only
            replace EX := EX.trans hEX
            clear hHeld hEX
            refine hK.out _ _ (sK EX) (fun hHeld => ?_)
            clear hK K
            try simp only [Act.put, sq1, sq2, sq3, sq4, sq5, sq6]
            refine wpAnyH_done (by kernel_rfl) ?_ _
            have HEE := hid (hF.trans EX)
            have HFF := hid (hF2.trans EX)
            clear hHeld EX
            go_wp2
            go_ret
            exact ⟨ret_bool HR.out.symm, HEE.out⟩
        · obtain rfl : k = m := by omega
          have HA2 := hid (show ∀ i', i' < i + 1 → ∀ j, i' < j → j < k → TB (es.getD i' 0) (es.getD j 0) = false from fun i' h1 j h2 h3 => by
            rcases Nat.lt_succ_iff_lt_or_eq.1 h1 with h | rfl
            · exact HA.out i' h j h2 h3
            · exact HB.out j h2 h3)
          clear HC HES HAT HBD HEN
          go_wp2
          go_roundw
          case rel => exact ⟨hF, hF2, i + 1, by omega, by go_num, HA2⟩
          case measure => simp [intOf]; omega
    · obtain rfl : i = m := by omega
      have HR := hid (HEN.out HA.out)
      go_wp2
      go_ret
      exact ⟨ret_bool HR.out.symm, hE⟩
end Go.Proofs.YtggggnjibedgaaaGreat
/- Level of the specification. -/
set_option linter.unusedSimpArgs false
set_option linter.unusedVariables false
namespace Go.Proofs.YtggggnjibedgaaaGreat
open Go.RowKit
theorem all_elems : ((List.range 9).all fun n => elemsL 8 (2 ^ n - 1) == List.range n) = true := by decide +kernel
theorem elems_all {n : Nat} (h : n ≤ 8) : elemsL 8 (2 ^ n - 1) = List.range n := eq_of_beq (List.all_eq_true.1 all_elems n (List.mem_range.2 (by omega)))
theorem map_range (ps : List Po) : ((List.range ps.length).map fun e => ps.getD e zeroPo) = ps := by
  refine List.ext_getElem (by simp) fun i h1 h2 => ?_
  simp [List.getD, List.getElem?_eq_getElem h2]
theorem two_pow {n : Nat} (h : n ≤ 8) : 1 ≤ 2 ^ n ∧ 2 ^ n ≤ 256 := ⟨Nat.one_le_two_pow, Nat.pow_le_pow_right (n := 2) (by decide) h⟩
theorem pow_wrap {n : Nat} (h : n ≤ 8) : wrap64 (wrap64 ((2 : Int) ^ n) - 1) = ((2 ^ n - 1 : Nat) : Int) := by
  have h2 := two_pow h
  have e : (2 : Int) ^ n = ((2 ^ n : Nat) : Int) := by simp
  rw [e]
  generalize 2 ^ n = z at *
  unfold wrap64
  omega
set_option maxRecDepth 100000 in
set_option maxHeartbeats 4000000 in
theorem rLevel_any (ps : List Po) (lim : Int) (A : Option Addr) (n c : Nat) (hn : ps.length = n) (hm : n ≤ 1000) (w : World) (hx : PosAt w A ps) :
    Calls Tryz.prog 39 #[.slice A n c, .int .i64 lim] w fun e w' => e = .returned (.tuple #[.int .i64 (lvlV ps lim), .int .i64 (posE ps lim 0)]) ∧ Ext w w' := by
  have HCK := hid (fun (W : World) (hE : Ext w W) => rCheckPosts_any ps lim true A n c hn hm W (hx.ext hE))
  have he : (if posB ps then (if inI lim 0 1000 && true then (0 : Int) else 1) else 94) = posE ps lim 0 := by
    unfold posE
    have : inI 0 0 100 = true := by decide
    rw [this]
  rw [he] at HCK
  clear he
  by_cases h0 : posE ps lim 0 = 0
  · obtain ⟨hb, hl, hy⟩ := posE_ok h0
    have h8 := (posB_ok hb).1
    rw [hn] at h8
    have hap : ∀ p ∈ ps, poB p = true := by
      have ha : ps.all poB = true := by
        unfold posB at hb
        simp only [Bool.and_eq_true] at hb
        exact hb.1.2
      exact List.all_eq_true.1 ha
    have h2p := two_pow h8
    have HL := hid (fun (y : Nat) (hy : y < 100) (W : World) (hE : Ext w W) => by
      have := rlevel_any ps (2 ^ n - 1) (by omega) (fun e h => by rw [elems_all h8] at h; rw [hn]; exact List.mem_range.1 h) A n c hn hap lim ((y : Int) + 1) hl (by omega) W (hx.ext hE)
      rw [elems_all h8, lvS_levB, ← hn, map_range] at this
      rw [hn] at this
      exact this)
    have hv : lvlV ps lim = lvlN ps lim := by unfold lvlV; rw [if_pos h0]
    rw [hv, h0]
    rw [h0] at HCK
    have HA9 := hid (fun k (hk : k < 100) ha hn => lvl_at (ps := ps) (lim := lim) (k := k) hk ha hn)
    have HE9 := hid (fun ha => lvl_end (ps := ps) (lim := lim) ha)
    clear hx hn hb hl hy h0 hv hap
    generalize hLB : (fun y : Int => levB ps lim y) = LB at *
    have hLe : ∀ y, levB ps lim y = LB y := fun y => by rw [← hLB]
    simp only [hLe] at HL HA9 HE9
    clear hLB hLe
    generalize lvlN ps lim = N at *
    have hu : IntKind.u64.wrap (n : Int) = (n : Int) := by rw [IntKind.wrap_u64]; omega
    go_enter Tryz.func39, Tryz.ntmps39
    go_wp2_with (go_at_call 52; refine (HCK.out _ (by (repeat' (first | with_reducible assumption | with_reducible exact Ext.refl _ | with_reducible refine Ext.alloc ?_ _ | with_reducible refine Ext.set ?_ ?_ _ | with_reducible refine Ext.drew ?_ | with_reducible refine Ext.drewN ?_ _ | with_reducible refine Ext.trans ?_ (by assumption) | (dsimp only; omega))))).mono ?_; rintro e w2 ⟨rfl, hE⟩; (first | (have hK := KC.step (n := w.heap.size) (by with_reducible assumption) hE) | (have hK := KC.step (KC.step (n := w.heap.size) (by with_reducible assumption) (ext_alloc1 _ _)) hE) | (have hK := KC.step (KC.refl (n := w.heap.size) (by simp)) hE)); have hC := hK.cell; have hF := hK.fro; have hX := hK.ext)
    have HX2 := hid (show Ext w w2 by (repeat' (first | with_reducible assumption | with_reducible exact Ext.refl _ | with_reducible refine Ext.alloc ?_ _ | with_reducible refine Ext.set ?_ ?_ _ | with_reducible refine Ext.drew ?_ | with_reducible refine Ext.drewN ?_ _ | with_reducible refine Ext.trans ?_ (by assumption) | (dsimp only; omega))))
    go_loopw [7] (fun i wr => Ext w wr ∧ ∃ k : Nat, k ≤ 100 ∧ i = .int .i64 k ∧ Hid (∀ j : Nat, j < k → LB ((j : Int) + 1) = true)) (fun i _ => 100 - (intOf i).toNat)
    case atStart => exact ⟨HX2.out, 0, Nat.zero_le _, rfl, hid (fun j hj => by omega)⟩
    case round =>
      obtain ⟨hE, k, hk, rfl, HA⟩ := hrel
      clear hC hF hX hK
      by_cases hlt : k < 100
      · have hw1 : IntKind.i64.wrap ((k : Int) + 1) = (k : Int) + 1 := IntWalk.i64_in _ (by omega)
        have HLk := hid (fun W e => HL.out k hlt W e)
        have HAk := hid (HA9.out k hlt HA.out)
        clear HL HA9 HE9
        obtain ⟨lb, hlb⟩ : ∃ lb, LB ((k : Int) + 1) = lb := ⟨_, rfl⟩
        rw [hlb] at HLk HAk
        have HLB := hid hlb
        clear hlb
        have hki : (k : Int) < 100 := by omega
        have hpw := pow_wrap h8
        go_wp2_with (simp only [hu])
        rw [hpw]
        refine Calls.mono (HLk.out _ (by (repeat' (first | with_reducible assumption | with_reducible exact Ext.refl _ | with_reducible refine Ext.alloc ?_ _ | with_reducible refine Ext.set ?_ ?_ _ | with_reducible refine Ext.drew ?_ | with_reducible refine Ext.drewN ?_ _ | with_reducible refine Ext.trans ?_ (by assumption) | (dsimp only; omega))))) ?_
        rintro e w3 ⟨rfl, hE3⟩
        cases lb
        · have HR := hid (HAk.out rfl)
          go_wp2
          go_ret2
          exact ⟨by rw [HR.out]; rfl, hE.trans hE3⟩
        · have HA2 := hid (show ∀ j : Nat, j < k + 1 → LB ((j : Int) + 1) = true from fun j hj => by
            rcases Nat.lt_succ_iff_lt_or_eq.1 hj with h | rfl
            · exact HA.out j h
            · exact HLB.out)
          go_wp2
          go_roundw
          case rel => exact ⟨hE.trans hE3, k + 1, by omega, by go_num, HA2⟩
          case measure => simp [intOf]; omega
      · obtain rfl : k = 100 := by omega
        have HR := hid (HE9.out HA.out)
        clear HL HA9 HE9
        go_wp2
        go_ret2
        exact ⟨by rw [HR.out]; rfl, hE⟩
  · have hv : lvlV ps lim = 0 := by unfold lvlV; rw [if_neg h0]
    rw [hv]
    clear hv hx hn
    have hne : (posE ps lim 0 != 0) = true := by simp [h0]
    generalize posE ps lim 0 = E at *
    go_enter Tryz.func39, Tryz.ntmps39
    go_wp2_with (go_at_call 52; refine (HCK.out _ (by (repeat' (first | with_reducible assumption | with_reducible exact Ext.refl _ | with_reducible refine Ext.alloc ?_ _ | with_reducible refine Ext.set ?_ ?_ _ | with_reducible refine Ext.drew ?_ | with_reducible refine Ext.drewN ?_ _ | with_reducible refine Ext.trans ?_ (by assumption) | (dsimp only; omega))))).mono ?_; rintro e w2 ⟨rfl, hE⟩; (first | (have hK := KC.step (n := w.heap.size) (by with_reducible assumption) hE) | (have hK := KC.step (KC.step (n := w.heap.size) (by with_reducible assumption) (ext_alloc1 _ _)) hE) | (have hK := KC.step (KC.refl (n := w.heap.size) (by simp)) hE)); have hC := hK.cell; have hF := hK.fro; have hX := hK.ext)
    go_ret2
    exact ⟨rfl, by (repeat' (first | with_reducible assumption | with_reducible exact Ext.refl _ | with_reducible refine Ext.alloc ?_ _ | with_reducible refine Ext.set ?_ ?_ _ | with_reducible refine Ext.drew ?_ | with_reducible refine Ext.drewN ?_ _ | with_reducible refine Ext.trans ?_ (by assumption) | (dsimp only; omega)))⟩
end Go.Proofs.YtggggnjibedgaaaGreat
/- sooner of the specification. -/
set_option linter.unusedSimpArgs false
set_option linter.unusedVariables false
namespace Go.Proofs.YtggggnjibedgaaaGreat
open Go.RowKit
theorem soon_neq {xs ys : List Int} (h : ¬ xs.length = ys.length) : soonL xs ys = decide (xs.length < ys.length) := by
  unfold soonL; rw [if_neg h]
theorem soon_at {xs ys : List Int} (h : xs.length = ys.length) {k : Nat} (hk : k < xs.length) (ha : ∀ j, j < k → xs.getD j 0 = ys.getD j 0) (hn : xs.getD k 0 ≠ ys.getD k 0) : soonL xs ys = decide (xs.getD k 0 < ys.getD k 0) := by
  unfold soonL
  rw [if_pos h]
  have hf : (List.range xs.length).find? (fun i => !(xs.getD i 0 == ys.getD i 0)) = some k := by
    rw [List.find?_range_eq_some]
    refine ⟨?_, List.mem_range.2 hk, fun j hj => ?_⟩
    · rw [Bool.not_eq_true', beq_eq_false_iff_ne]; exact hn
    · rw [Bool.not_not, beq_iff_eq]; exact ha j hj
  rw [hf]
theorem soon_end {xs ys : List Int} (h : xs.length = ys.length) (ha : ∀ j, j < xs.length → xs.getD j 0 = ys.getD j 0) : soonL xs ys = false := by
  unfold soonL
  rw [if_pos h]
  have hf : (List.range xs.length).find? (fun i => !(xs.getD i 0 == ys.getD i 0)) = none := by
    rw [List.find?_range_eq_none]
    intro j hj
    rw [Bool.not_not, beq_iff_eq]; exact ha j hj
  rw [hf]
set_option maxHeartbeats 1000000 in
theorem rsooner_any (A B : Option Addr) (n1 n2 c1 c2 : Nat) (xs ys : List Int) (hn1 : xs.length = n1) (hn2 : ys.length = n2) (hm1 : n1 ≤ 1000) (w : World) (hx : IntsAt w A xs) (hy : IntsAt w B ys) :
    Calls Tryz.prog 78 #[.slice A n1 c1, .slice B n2 c2] w fun e w' => e = .returned (.bool (soonL xs ys)) ∧ Ext w w' := by
  have HX := hid hx
  have HY := hid hy
  have HN1 := hid hn1
  have HN2 := hid hn2
  obtain ⟨RR, hRR⟩ : ∃ b, soonL xs ys = b := ⟨_, rfl⟩
  rw [hRR]
  have HRR := hid hRR
  clear hx hy hn1 hn2 hRR
  by_cases hl : n1 = n2
  · subst hl
    have HA9 := hid (fun k (hk : k < n1) ha hn => soon_at (xs := xs) (ys := ys) (HN1.out.trans HN2.out.symm) (k := k) (by rw [HN1.out]; exact hk) ha hn)
    have HE9 := hid (fun (ha : ∀ j, j < n1 → xs.getD j 0 = ys.getD j 0) => soon_end (xs := xs) (ys := ys) (HN1.out.trans HN2.out.symm) (by rw [HN1.out]; exact ha))
    go_enter Tryz.func78, Tryz.ntmps78
    go_wp2
    go_loopw [5] (fun i wr => Ext w wr ∧ ∃ k : Nat, k ≤ n1 ∧ i = .int .i64 k ∧ Hid (∀ j, j < k → xs.getD j 0 = ys.getD j 0)) (fun i _ => n1 - (intOf i).toNat)
    case atStart => exact ⟨by (repeat' (first | with_reducible assumption | with_reducible exact Ext.refl _ | with_reducible refine Ext.alloc ?_ _ | with_reducible refine Ext.set ?_ ?_ _ | with_reducible refine Ext.drew ?_ | with_reducible refine Ext.drewN ?_ _ | with_reducible refine Ext.trans ?_ (by assumption) | (dsimp only; omega))), 0, Nat.zero_le _, rfl, hid (fun j hj => by omega)⟩
    case round =>
      obtain ⟨hE, k, hk, rfl, HA⟩ := hrel
      by_cases hlt : k < n1
      · obtain ⟨b, off, rfl, hb, hc⟩ := (HX.out.ext hE) (by intro e; have := HN1.out; rw [e] at this; simp at this; omega)
        obtain ⟨b', off', rfl, hb', hc'⟩ := (HY.out.ext hE) (by intro e; have := HN2.out; rw [e] at this; simp at this; omega)
        have q1 := hc k (by have := HN1.out; omega)
        have q2 := hc' k (by have := HN2.out; omega)
        have hk0 : (0 : Int) ≤ (k : Int) := by omega
        have hk1 : (k : Int) < (n1 : Int) := by omega
        clear hc hc'
        have HAk := hid (HA9.out k hlt HA.out)
        obtain ⟨u, hu⟩ : ∃ u, xs.getD k 0 = u := ⟨_, rfl⟩
        obtain ⟨v, hv⟩ : ∃ v, ys.getD k 0 = v := ⟨_, rfl⟩
        rw [hu] at q1
        rw [hv] at q2
        rw [hu, hv] at HAk
        have HU := hid hu
        have HV := hid hv
        clear hu hv HA9 HE9
        by_cases huv : u = v
        · subst huv
          have HA2 := hid (show ∀ j, j < k + 1 → xs.getD j 0 = ys.getD j 0 from fun j hj => by
            rcases Nat.lt_succ_iff_lt_or_eq.1 hj with h | rfl
            · exact HA.out j h
            · exact HU.out.trans HV.out.symm)
          go_wp2_with fail
          go_quiet (fail)
          go_wp2
          go_roundw
          case rel => exact ⟨hE.drewN _, k + 1, by omega, by go_num, HA2⟩
          case measure => simp [intOf]; omega
        · have hd : decide (u = v) = false := decide_eq_false huv
          have HR := hid (HRR.out.symm.trans (HAk.out huv))
          clear HAk
          by_cases hlt2 : u < v
          · rw [decide_eq_true hlt2] at HR
            go_wp2_with fail
            go_quiet (fail)
            go_wp2_with fail
            go_quiet (fail)
            go_wp2
            go_ret
            exact ⟨ret_bool HR.out.symm, (hE.drewN _).drewN _⟩
          · rw [decide_eq_false hlt2] at HR
            have HF9 := hid (show decide (u < v) = false from decide_eq_false hlt2)
            go_wp2_with fail
            go_quiet (fail)
            go_wp2_with fail
            go_quiet (fail)
            go_wp2
            go_ret
            exact ⟨ret_bool (by first | exact HR.out.symm | exact HF9.out.trans HR.out.symm), (hE.drewN _).drewN _⟩
      · obtain rfl : k = n1 := by omega
        have HR := hid (HRR.out.symm.trans (HE9.out HA.out))
        clear HA9 HE9
        go_wp2
        go_ret
        exact ⟨ret_bool HR.out.symm, by (repeat' (first | with_reducible assumption | with_reducible exact Ext.refl _ | with_reducible refine Ext.alloc ?_ _ | with_reducible refine Ext.set ?_ ?_ _ | with_reducible refine Ext.drew ?_ | with_reducible refine Ext.drewN ?_ _ | with_reducible refine Ext.trans ?_ (by assumption) | (dsimp only; omega)))⟩
  · have HR := hid (HRR.out.symm.trans (soon_neq (by rw [HN1.out, HN2.out]; exact hl)))
    rw [HN1.out, HN2.out] at HR
    have hli : ¬ ((n1 : Int) = (n2 : Int)) := by omega
    by_cases h2 : n1 < n2
    · rw [decide_eq_true h2] at HR
      have h2i : (n1 : Int) < (n2 : Int) := by omega
      go_enter Tryz.func78, Tryz.ntmps78
      go_wp2
      go_ret
      exact ⟨ret_bool (by first | (rw [HR.out]; done) | (rw [HR.out]; simp; done) | (rw [HR.out]; simp; omega)), by (repeat' (first | with_reducible assumption | with_reducible exact Ext.refl _ | with_reducible refine Ext.alloc ?_ _ | with_reducible refine Ext.set ?_ ?_ _ | with_reducible refine Ext.drew ?_ | with_reducible refine Ext.drewN ?_ _ | with_reducible refine Ext.trans ?_ (by assumption) | (dsimp only; omega)))⟩
    · rw [decide_eq_false h2] at HR
      have h2i : ¬ (n1 : Int) < (n2 : Int) := by omega
      go_enter Tryz.func78, Tryz.ntmps78
      go_wp2
      go_ret
      exact ⟨ret_bool (by first | (rw [HR.out]; done) | (rw [HR.out]; simp; done) | (rw [HR.out]; simp; omega)), by (repeat' (first | with_reducible assumption | with_reducible exact Ext.refl _ | with_reducible refine Ext.alloc ?_ _ | with_reducible refine Ext.set ?_ ?_ _ | with_reducible refine Ext.drew ?_ | with_reducible refine Ext.drewN ?_ _ | with_reducible refine Ext.trans ?_ (by assumption) | (dsimp only; omega)))⟩
end Go.Proofs.YtggggnjibedgaaaGreat
/- Prop of the specification. -/
set_option linter.unusedSimpArgs false
set_option linter.unusedVariables false
namespace Go.Proofs.YtggggnjibedgaaaGreat
open Go.RowKit
theorem oth_all : ((List.range 9).all fun n => (List.range (2 ^ n)).all fun s => elemsL 8 ((2 ^ n - 1) - s) == othersL n s) = true := by decide +kernel
theorem elems_oth {n s : Nat} (h : n ≤ 8) (hs : s < 2 ^ n) : elemsL 8 ((2 ^ n - 1) - s) = othersL n s :=
  eq_of_beq (List.all_eq_true.1 (List.all_eq_true.1 oth_all n (List.mem_range.2 (by omega))) s (List.mem_range.2 hs))
theorem notb_all : ((List.range 9).all fun n => (List.range (2 ^ n)).all fun s => bits BinOp.andNot IntKind.i64 (((2 ^ n - 1 : Nat) : Nat) : Int) ((s : Nat) : Int) == ((((2 ^ n - 1) - s : Nat) : Nat) : Int)) = true := by decide +kernel
theorem notb {n s : Nat} (h : n ≤ 8) (hs : s < 2 ^ n) : bits BinOp.andNot IntKind.i64 ((2 ^ n - 1 : Nat) : Int) (s : Int) = (((2 ^ n - 1) - s : Nat) : Int) :=
  eq_of_beq (List.all_eq_true.1 (List.all_eq_true.1 notb_all n (List.mem_range.2 (by omega))) s (List.mem_range.2 hs))
/-- The specification's search: it begins with all. -/
def refS (P : Nat → Bool) (b s : Nat) : Nat := if befB s b && P s then s else b
def refN (P : Nat → Bool) (al k : Nat) : Nat := (List.range k).foldl (refS P) al
theorem refN_succ (P : Nat → Bool) (al k : Nat) : refN P al (k + 1) = refS P (refN P al k) k := by
  unfold refN; rw [List.range_succ, List.foldl_append]; rfl
theorem bef_all_all : ((List.range 9).all fun n => (List.range (2 ^ n)).all fun s => befB s (2 ^ n - 1) == decide (s < 2 ^ n - 1)) = true := by decide +kernel
theorem bef_all {n s : Nat} (h : n ≤ 8) (hs : s < 2 ^ n) : befB s (2 ^ n - 1) = decide (s < 2 ^ n - 1) :=
  eq_of_beq (List.all_eq_true.1 (List.all_eq_true.1 bef_all_all n (List.mem_range.2 (by omega))) s (List.mem_range.2 hs))
theorem fewS_som2 (P : Nat → Bool) (b k : Nat) : fewS P (some b) k = if (befB k b && P k) = true then some k else some b := rfl
theorem fewS_non2 (P : Nat → Bool) (k : Nat) : fewS P none k = if P k = true then some k else none := by
  unfold fewS
  cases h : P k <;> rfl
/-- Both searches find the same: as long as nothing is found the specification keeps all. -/
theorem ref_few {n : Nat} (h : n ≤ 8) (P : Nat → Bool) (hP : P (2 ^ n - 1) = true) : ∀ k, k ≤ 2 ^ n → (k < 2 ^ n → refN P (2 ^ n - 1) k = (fewN P k).getD (2 ^ n - 1)) ∧ (k = 2 ^ n → (fewN P k) = some (refN P (2 ^ n - 1) k)) := by
  have h2 := two_pow h
  have key : ∀ k, k < 2 ^ n → refN P (2 ^ n - 1) k = (fewN P k).getD (2 ^ n - 1) := by
    intro k
    induction k with
    | zero => intro _; rfl
    | succ k ih =>
      intro hk
      rw [refN_succ, fewN_succ, ih (by omega)]
      unfold refS
      cases hf : fewN P k with
      | none =>
        rw [Option.getD_none, fewS_non2, bef_all h (by omega), decide_eq_true (by omega), Bool.true_and]
        by_cases hq : P k = true
        · rw [if_pos hq, if_pos hq]; rfl
        · rw [if_neg hq, if_neg hq]; rfl
      | some b =>
        rw [Option.getD_some, fewS_som2]
        by_cases hq : (befB k b && P k) = true
        · rw [if_pos hq, if_pos hq]; rfl
        · rw [if_neg hq, if_neg hq]; rfl
  intro k hk
  refine ⟨key k, fun hkn => ?_⟩
  subst hkn
  obtain ⟨z, hz⟩ : ∃ z, 2 ^ n = z + 1 := ⟨2 ^ n - 1, by omega⟩
  have e1 : 2 ^ n - 1 = z := by omega
  have hkz := key z (by omega)
  rw [e1] at hkz hP ⊢
  rw [hz, refN_succ, fewN_succ, hkz]
  unfold refS
  have hbz : befB z z = false := by
    have := bef_all (s := z) h (by omega)
    rw [e1] at this
    rw [this]
    exact decide_eq_false (by omega)
  cases hf : fewN P z with
  | none =>
    rw [Option.getD_none, fewS_non2, if_pos hP, hbz]
    rfl
  | some b =>
    rw [Option.getD_some, fewS_som2]
    by_cases hq : (befB z b && P z) = true
    · rw [if_pos hq, if_pos hq]
    · rw [if_neg hq, if_neg hq]
theorem refN_lt {n : Nat} (h : n ≤ 8) (P : Nat → Bool) : ∀ k, k ≤ 2 ^ n → refN P (2 ^ n - 1) k < 2 ^ n := by
  have h2 := two_pow h
  intro k
  induction k with
  | zero => intro _; show 2 ^ n - 1 < 2 ^ n; omega
  | succ k ih =>
    intro hk
    rw [refN_succ]
    unfold refS
    split
    · omega
    · exact ih (by omega)
end Go.Proofs.YtggggnjibedgaaaGreat
