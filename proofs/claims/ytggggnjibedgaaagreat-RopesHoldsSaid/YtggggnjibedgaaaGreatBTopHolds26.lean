/- The specification's Holds and Spare. -/
import Derived.Test.YtggggnjibedgaaaGreatBTopHolds25
import Derived.Test.YtggggnjibedgaaaGreatBTopHolds23
import Derived.Test.YtggggnjibedgaaaGreatB02
import Derived.Test.YtggggnjibedgaaaGreatB16
import Derived.Test.YtggggnjibedgaaaGreatB17
import Derived.WideShapes
set_option linter.unusedSimpArgs false
set_option linter.unusedVariables false
namespace Go.Proofs.YtggggnjibedgaaaGreat
open Go.RowKit
theorem mapSp_range (xs : List Sp) : ((List.range xs.length).map fun e => xs.getD e zeroSp) = xs := by
  refine List.ext_getElem (by simp) fun i h1 h2 => ?_
  simp [List.getD, List.getElem?_eq_getElem h2]
theorem cho_all {xs : List Sp} (h : xs.length ≤ 8) : choL zeroSp xs (2 ^ xs.length - 1) = xs := by
  have e : elemsL 8 (2 ^ xs.length - 1) = elemsL xs.length (2 ^ xs.length - 1) := elems_cut h (by have := Nat.two_pow_pos xs.length; omega)
  unfold choL
  rw [← e, elems_all h, mapSp_range]
set_option maxRecDepth 100000 in
set_option maxHeartbeats 4000000 in
theorem rspare_any (xs : List Sp) (load : Int) (A : Option Addr) (n c : Nat) (hn : xs.length = n) (hm : n ≤ 10000) (hf : n ≤ 6 ∨ 8 < n) (w : World) (hx : SpsAt w A xs) :
    Calls Tryz.prog 26 #[.slice A n c, .int .i64 load] w fun e w' => e = .returned (.tuple #[.int .i64 (spaV xs load), .int .i64 (anE xs load true)]) ∧ Ext w w' := by
  have HC := hid (fun (W : World) (hE : Ext w W) => rCheckLoad_any xs load true A n c hn hm W (hx.ext hE))
  by_cases h0 : anE xs load true = 0
  · obtain ⟨h8, hp, -, -⟩ := anE_ok h0
    have h6 : n ≤ 6 := by omega
    have hv : spaV xs load = sprI load xs := by unfold spaV; rw [if_pos h0]
    have h2p := two_pow (n := n) (by omega)
    have he : ((rspN load xs (2 ^ n - 1) (2 ^ n - 1 + 1) : Nat) : Int) - 1 = sprI load xs := by
      have := rsp_spr load xs (st := 2 ^ n - 1) (by omega) (by rw [hn]; omega)
      rw [this, ← hn, cho_all h8]
    have HL := hid (fun (W : World) (hE : Ext w W) => rspare0_any xs hp (2 ^ n - 1) load A n c hn h6 (by omega) W (hx.ext hE))
    rw [he] at HL
    rw [hv, h0]
    rw [h0] at HC
    have hu : IntKind.u64.wrap (n : Int) = (n : Int) := by rw [IntKind.wrap_u64]; omega
    have hmn : min n 64 = n := by omega
    have HPW := hid (pow_wrap (n := n) (by omega))
    clear hx hn hv h0 h8 hp he h2p hf h6
    generalize sprI load xs = v at *
    generalize 2 ^ n - 1 = al at *
    go_enter Tryz.func26, Tryz.ntmps26
    go_wp2_with fail
    refine Calls.mono (HC.out _ (Ext.refl _)) ?_
    rintro e w2 ⟨rfl, hE⟩
    go_wp2_with (simp only [hu])
    try rw [hmn]
    rw [HPW.out]
    refine Calls.mono (HL.out _ hE) ?_
    rintro e w3 ⟨rfl, hE3⟩
    go_wp2
    go_ret2
    exact ⟨rfl, hE.trans hE3⟩
  · have hv : spaV xs load = 0 := by unfold spaV; rw [if_neg h0]
    rw [hv]
    clear hx hn hv
    have hne : (anE xs load true != 0) = true := by simp [h0]
    generalize anE xs load true = E at *
    go_enter Tryz.func26, Tryz.ntmps26
    go_wp2_with fail
    refine Calls.mono (HC.out _ (Ext.refl _)) ?_
    rintro e w2 ⟨rfl, hE⟩
    go_wp2
    go_ret2
    exact ⟨rfl, hE⟩
set_option maxRecDepth 100000 in
set_option maxHeartbeats 4000000 in
theorem rholds_any (xs : List Sp) (load : Int) (A : Option Addr) (n c : Nat) (hn : xs.length = n) (hm : n ≤ 10000) (w : World) (hx : SpsAt w A xs) :
    Calls Tryz.prog 24 #[.slice A n c, .int .i64 load] w fun e w' => e = .returned (.tuple #[.bool (holV xs load).1, .bool (holV xs load).2, .int .i64 (anE xs load true)]) ∧ Ext w w' := by
  have HC := hid (fun (W : World) (hE : Ext w W) => rCheckLoad_any xs load true A n c hn hm W (hx.ext hE))
  by_cases h0 : anE xs load true = 0
  · obtain ⟨h8, hp, -, -⟩ := anE_ok h0
    have hv : holV xs load = (holdB loF load xs, holdB hiF load xs) := by unfold holV; rw [if_pos h0]
    have h2p := two_pow (n := n) (by omega)
    have hend : ∀ up, endL up xs (2 ^ n - 1) = xs.map (if up then hiF else loF) := fun up => by
      unfold endL
      rw [← hn, cho_all h8]
    have HEN := hid (fun (up : Bool) (W : World) (hE : Ext w W) => rends_any xs (2 ^ n - 1) (by omega) up A n c hn (by omega) W (hx.ext hE))
    have HBE := hid (fun (up : Bool) (A1 : Option Addr) (c1 : Nat) (W : World) (h : IntsAt W A1 (endL up xs (2 ^ n - 1))) => rBears_any (endL up xs (2 ^ n - 1)) (endL_bd hp up _) load A1 (endL up xs (2 ^ n - 1)).length c1 rfl (by
      unfold endL
      rw [List.length_map]
      have := choSp_len xs (2 ^ n - 1)
      omega) W h)
    have HBL := hid (show hldI load (endL false xs (2 ^ n - 1)) = holdB loF load xs by rw [hend]; exact hldI_map loF load xs)
    have HBH := hid (show hldI load (endL true xs (2 ^ n - 1)) = holdB hiF load xs by rw [hend]; exact hldI_map hiF load xs)
    have HE0 := hid (fun W hE => HEN.out false W hE)
    have HE1 := hid (fun W hE => HEN.out true W hE)
    have HB0 := hid (fun A1 c1 W h => HBE.out false A1 c1 W h)
    have HB1 := hid (fun A1 c1 W h => HBE.out true A1 c1 W h)
    rw [HBL.out] at HB0
    rw [HBH.out] at HB1
    rw [hv, h0]
    rw [h0] at HC
    have hu : IntKind.u64.wrap (n : Int) = (n : Int) := by rw [IntKind.wrap_u64]; omega
    have hmn : min n 64 = n := by omega
    have HPW := hid (pow_wrap (n := n) (by omega))
    clear hx hn hv h0 h8 hp hend HEN HBE HBL HBH h2p
    generalize holdB loF load xs = b1 at *
    generalize holdB hiF load xs = b2 at *
    generalize endL false xs (2 ^ n - 1) = L0 at *
    generalize endL true xs (2 ^ n - 1) = L1 at *
    generalize 2 ^ n - 1 = al at *
    go_enter Tryz.func24, Tryz.ntmps24
    go_wp2_with fail
    refine Calls.mono (HC.out _ (Ext.refl _)) ?_
    rintro e w2 ⟨rfl, hE⟩
    go_wp2_with (simp only [hu])
    try rw [hmn]
    rw [HPW.out]
    refine Calls.mono (HE0.out _ hE) ?_
    rintro e w3 ⟨A3, c3, rfl, hI3, hE3⟩
    have HI3 := hid hI3
    have E3 := hid (hE.trans hE3)
    clear hI3
    go_wp2_with fail
    refine Calls.mono (HB0.out _ _ _ HI3.out) ?_
    rintro e w4 ⟨rfl, hE4⟩
    have E4 := hid (E3.out.trans hE4)
    go_wp2_with fail
    refine Calls.mono (HE1.out _ E4.out) ?_
    rintro e w5 ⟨A5, c5, rfl, hI5, hE5⟩
    have HI5 := hid hI5
    have E5 := hid (E4.out.trans hE5)
    clear hI5
    go_wp2_with fail
    refine Calls.mono (HB1.out _ _ _ HI5.out) ?_
    rintro e w6 ⟨rfl, hE6⟩
    have E6 := hid (E5.out.trans hE6)
    go_wp2
    exact bodyPost_ret (v := .tuple #[.bool b1, .bool b2, .int .i64 0]) (by simp [results, Tryz.results24, go_sem]) rfl ⟨rfl, E6.out⟩
  · have hv : holV xs load = (false, false) := by unfold holV; rw [if_neg h0]
    rw [hv]
    clear hx hn hv
    have hne : (anE xs load true != 0) = true := by simp [h0]
    generalize anE xs load true = E at *
    go_enter Tryz.func24, Tryz.ntmps24
    go_wp2_with fail
    refine Calls.mono (HC.out _ (Ext.refl _)) ?_
    rintro e w2 ⟨rfl, hE⟩
    go_wp2
    exact bodyPost_ret (v := .tuple #[.bool false, .bool false, .int .i64 E]) (by simp [results, Tryz.results24, go_sem]) rfl ⟨rfl, hE⟩
end Go.Proofs.YtggggnjibedgaaaGreat
/- The specification's Choose. -/
set_option linter.unusedSimpArgs false
set_option linter.unusedVariables false
namespace Go.Proofs.YtggggnjibedgaaaGreat
open Go.RowKit
def blL (o : Option Nat) : List Int := match o with | some b => memL b | none => []
set_option maxRecDepth 100000 in
set_option maxHeartbeats 8000000 in
theorem rchoose_any (xs : List Sp) (load least : Int) (A : Option Addr) (n c : Nat) (hn : xs.length = n) (hm : n ≤ 10000) (hf : n ≤ 6 ∨ 8 < n) (w : World) (hx : SpsAt w A xs) :
    Calls Tryz.prog 28 #[.slice A n c, .int .i64 load, .int .i64 least] w fun e w' => ∃ A' c', e = .returned (.tuple #[.slice A' (choR xs load least).length c', .int .i64 (choE xs load least)]) ∧ IntsAt w' A' (choR xs load least) ∧ Ext w w' := by
  obtain ⟨tb, htb⟩ : ∃ tb, inI least 0 8 = tb := ⟨_, rfl⟩
  have HC := hid (fun (W : World) (hE : Ext w W) => rCheckLoad_any xs load tb A n c hn hm W (hx.ext hE))
  have HW := hid (fun a b c W => rwithin_any a b c W)
  by_cases h0 : anE xs load tb = 0
  case neg =>
    have he : choE xs load least = anE xs load tb := by unfold choE; rw [htb, if_neg h0]
    have hr : choR xs load least = [] := by unfold choR; rw [htb, if_neg h0]
    rw [he, hr]
    clear hx hn he hr hf
    have hne : (anE xs load tb != 0) = true := by simp [h0]
    generalize anE xs load tb = E at *
    go_enter Tryz.func28, Tryz.ntmps28
    go_wp2_with (first
      | (go_at_call 76; refine (HW.out _ _ _ _).mono ?_; rintro e w2 ⟨rfl, hsm⟩; obtain rfl := hsm.symm; simp only [htb])
      | (go_at_call 46; refine (HC.out _ (by (repeat' (first | with_reducible assumption | with_reducible exact Ext.refl _ | with_reducible refine Ext.alloc ?_ _ | with_reducible refine Ext.set ?_ ?_ _ | with_reducible refine Ext.drew ?_ | with_reducible refine Ext.drewN ?_ _ | with_reducible refine Ext.trans ?_ (by assumption) | (dsimp only; omega))))).mono ?_; rintro e w2 ⟨rfl, hE⟩; (first | (have hK := KC.step (n := w.heap.size) (by with_reducible assumption) hE) | (have hK := KC.step (KC.step (n := w.heap.size) (by with_reducible assumption) (ext_alloc1 _ _)) hE) | (have hK := KC.step (KC.refl (n := w.heap.size) (by simp)) hE)); have hC := hK.cell; have hF := hK.fro; have hX := hK.ext))
    go_ret2
    first | exact ⟨none, 0, rfl, fun h => absurd rfl h, by (repeat' (first | with_reducible assumption | with_reducible exact Ext.refl _ | with_reducible refine Ext.alloc ?_ _ | with_reducible refine Ext.set ?_ ?_ _ | with_reducible refine Ext.drew ?_ | with_reducible refine Ext.drewN ?_ _ | with_reducible refine Ext.trans ?_ (by assumption) | (dsimp only; omega)))⟩ | exact ⟨none, ⟨0, rfl⟩, fun h => absurd rfl h, by (repeat' (first | with_reducible assumption | with_reducible exact Ext.refl _ | with_reducible refine Ext.alloc ?_ _ | with_reducible refine Ext.set ?_ ?_ _ | with_reducible refine Ext.drew ?_ | with_reducible refine Ext.drewN ?_ _ | with_reducible refine Ext.trans ?_ (by assumption) | (dsimp only; omega)))⟩
  obtain ⟨h8, hp, hl, htt⟩ := anE_ok h0
  have h6 : n ≤ 6 := by omega
  have he : choE xs load least = if (choN load least xs).isSome then 0 else 3 := by unfold choE; rw [htb, if_pos h0]
  have hr : choR xs load least = blL (choN load least xs) := by
    unfold choR
    rw [htb, if_pos h0]
    cases choN load least xs <;> rfl
  rw [he, hr]
  have HSP := hid (fun (k : Nat) (hk : k < 2 ^ n) (W : World) (hE : Ext w W) => by
    have h := rspare0_any xs hp k load A n c hn h6 hk W (hx.ext hE)
    rw [rsp_spr load xs (by omega) (by rw [hn]; exact hk)] at h
    exact h)
  have HMM := hid (fun x (hx : x < 256) W => rmembers_any x hx W)
  have HSO := hid (fun (A B : Option Addr) (c1 c2 s t : Nat) (hs : s < 256) (ht : t < 256) (W : World) (h1 : IntsAt W A (memL s)) (h2 : IntsAt W B (memL t)) => by
    have := rsooner_any A B (memL s).length (memL t).length c1 c2 (memL s) (memL t) rfl rfl (by have := memL_len s; have := elems_len s; omega) W h1 h2
    rw [soon_bef hs ht] at this
    exact this)
  have HS := hid (fun k => fewN_succ (choF load least xs) k)
  have HLT := hid (fun k b (h : fewN (choF load least xs) k = some b) => fewN_lt (choF load least xs) k b h)
  have HPK := hid (fun k => show choF load least xs k = decide (least ≤ sprI load (choL zeroSp xs k)) from rfl)
  have HEND := hid (show fewN (choF load least xs) (2 ^ n) = choN load least xs by unfold choN; rw [hn])
  have hpow : 2 ^ n ≤ 2 ^ 8 := Nat.pow_le_pow_right (by decide) (by omega)
  have hpow2 : (2 : Int) ^ n = ((2 ^ n : Nat) : Int) := by simp
  obtain ⟨N, hN⟩ : ∃ N, 2 ^ n = N := ⟨_, rfl⟩
  rw [hN] at hpow hpow2 HSP HEND
  have hN8 : N ≤ 256 := hpow
  have HW2 := hid (show wrap64 ((2 : Int) ^ n) = (N : Int) by rw [hpow2]; unfold wrap64; omega)
  have hmn : min n 64 = n := by omega
  have hu : IntKind.u64.wrap (n : Int) = (n : Int) := by rw [IntKind.wrap_u64]; omega
  rw [h0] at HC
  clear hx hn hp hl htt h0 h8 he hr hf h6 hpow hpow2 hN
  generalize choN load least xs = CN at *
  generalize sprI load = SI at *
  generalize choF load least xs = P at *
  generalize hFN : fewN P = FN at *
  have H0 := hid (show FN 0 = none by rw [← hFN]; rfl)
  clear hFN
  go_enter Tryz.func28, Tryz.ntmps28
  go_wp2_with (first
    | (go_at_call 76; refine (HW.out _ _ _ _).mono ?_; rintro e w2 ⟨rfl, hsm⟩; obtain rfl := hsm.symm; simp only [htb])
    | (go_at_call 46; refine (HC.out _ (by (repeat' (first | with_reducible assumption | with_reducible exact Ext.refl _ | with_reducible refine Ext.alloc ?_ _ | with_reducible refine Ext.set ?_ ?_ _ | with_reducible refine Ext.drew ?_ | with_reducible refine Ext.drewN ?_ _ | with_reducible refine Ext.trans ?_ (by assumption) | (dsimp only; omega))))).mono ?_; rintro e w2 ⟨rfl, hE⟩; (first | (have hK := KC.step (n := w.heap.size) (by with_reducible assumption) hE) | (have hK := KC.step (KC.step (n := w.heap.size) (by with_reducible assumption) (ext_alloc1 _ _)) hE) | (have hK := KC.step (KC.refl (n := w.heap.size) (by simp)) hE)); have hC := hK.cell; have hF := hK.fro; have hX := hK.ext))
  have HX2 := hid (show Ext w w2 by (repeat' (first | with_reducible assumption | with_reducible exact Ext.refl _ | with_reducible refine Ext.alloc ?_ _ | with_reducible refine Ext.set ?_ ?_ _ | with_reducible refine Ext.drew ?_ | with_reducible refine Ext.drewN ?_ _ | with_reducible refine Ext.trans ?_ (by assumption) | (dsimp only; omega))))
  clear hC hF hX hK HC HW hE
  go_loopw [9, 10, 11] (fun v f i wr => Ext w wr ∧ ∃ (k : Nat) (A' : Option Addr) (c' : Nat), k ≤ N ∧ i = .int .i64 k ∧ v = .slice A' (blL (FN k)).length c' ∧ Hid (IntsAt wr A' (blL (FN k))) ∧ f = .bool (FN k).isSome) (fun _ _ i _ => N - (intOf i).toNat)
  case atStart => exact ⟨HX2.out, 0, none, 0, Nat.zero_le _, rfl, by rw [H0.out]; rfl, hid (by rw [H0.out]; exact fun h => absurd rfl h), by rw [H0.out]; rfl⟩
  case round =>
    obtain ⟨hE, k, A', c', hk, rfl, rfl, HI, rfl⟩ := hrel
    clear HX2
    by_cases hlt : k < N
    · have hki : (k : Int) < (N : Int) := by omega
      have HSk := hid (HS.out k)
      have HLk := hid (HLT.out k)
      have HPk := hid (HPK.out k)
      have HSPk := hid (fun W e => HSP.out k hlt W e)
      clear HS HLT HPK HSP HEND H0
      generalize hV : SI (choL zeroSp xs k) = V at *
      clear hV
      generalize FN k = o at *
      have hw3 : wrap64 ((2 : Int) ^ min n 64) = (N : Int) := by rw [hmn]; exact HW2.out
      have hw4 := HW2.out
      clear hmn
      have hk8 : k < 256 := by omega
      go_wp2_with (simp only [hu])
      refine Calls.mono (HMM.out k hk8 _) ?_
      rintro e w4 ⟨A4, c4, rfl, hI4, hE4⟩
      have HI4 := hid hI4
      have HIb := hid (HI.out.ext hE4)
      have HE4 := hid (hE.trans hE4)
      clear hI4 HI hE4 hE hw3 hw4 HW2
      cases o with
      | none =>
        have HSk2 := hid (HSk.out.trans (fewS_none P k))
        clear HSk HLk HSO
        go_wp2_with fail
        refine Calls.mono (HSPk.out _ HE4.out) ?_
        rintro e w7 ⟨rfl, hE7⟩
        have HE7 := hid (HE4.out.trans hE7)
        have HI7 := hid (HI4.out.ext hE7)
        have HIo := hid (HIb.out.ext hE7)
        clear hE7
        by_cases hv : least ≤ V
        · have hp9 : P k = true := by rw [HPk.out]; exact decide_eq_true hv
          have HZ := hid (HSk2.out.trans (by rw [hp9]; rfl : _ = some k))
          clear HPk HSPk
          go_wp2_with fail
          go_roundw
          case rel => exact ⟨HE7.out, k + 1, A4, c4, by omega, by go_num, by rw [HZ.out]; rfl, hid (by rw [HZ.out]; exact HI7.out), by rw [HZ.out]; rfl⟩
          case measure => simp [intOf]; omega
        · have hp9 : P k = false := by rw [HPk.out]; exact decide_eq_false hv
          rw [hp9] at HSk2
          have HZ := hid (HSk2.out.trans rfl)
          clear HPk HSPk
          go_wp2_with fail
          go_roundw
          case rel => exact ⟨HE7.out, k + 1, A', c', by omega, by go_num, by rw [HZ.out]; rfl, hid (by rw [HZ.out]; exact HIo.out), by rw [HZ.out]; rfl⟩
          case measure => simp [intOf]; omega
      | some b =>
        have hb8 : b < 256 := by have := HLk.out b rfl; omega
        obtain ⟨bf, hbf⟩ : ∃ bf, befB k b = bf := ⟨_, rfl⟩
        have HSOk := hid (HSO.out A4 A' c4 c' k b hk8 hb8 w4 HI4.out HIb.out)
        rw [hbf] at HSOk
        clear HSO
        go_wp2_with fail
        refine Calls.mono HSOk.out ?_
        rintro e w5 ⟨rfl, hE5⟩
        have HE5 := hid (HE4.out.trans hE5)
        have HI5 := hid (HI4.out.ext hE5)
        have HIc := hid (HIb.out.ext hE5)
        clear HE4 HI4 HIb hE5
        cases bf
        case false =>
          have HSk2 := hid (HSk.out.trans (fewS_no P hbf))
          go_wp2_with fail
          go_roundw
          case rel => exact ⟨HE5.out, k + 1, A', c', by omega, by go_num, by rw [HSk2.out], hid (by rw [HSk2.out]; exact HIc.out), by rw [HSk2.out]; rfl⟩
          case measure => simp [intOf]; omega
        case true =>
          have HSk2 := hid (HSk.out.trans (fewS_yes P hbf))
          have HIb := HIc
          go_wp2_with fail
          refine Calls.mono (HSPk.out _ HE5.out) ?_
          rintro e w7 ⟨rfl, hE7⟩
          have HE7 := hid (HE5.out.trans hE7)
          have HI7 := hid (HI5.out.ext hE7)
          have HIo := hid (HIb.out.ext hE7)
          clear hE7
          by_cases hv : least ≤ V
          · have hp9 : P k = true := by rw [HPk.out]; exact decide_eq_true hv
            have HZ := hid (HSk2.out.trans (by rw [hp9]; rfl : _ = some k))
            clear HPk HSPk
            go_wp2_with fail
            go_roundw
            case rel => exact ⟨HE7.out, k + 1, A4, c4, by omega, by go_num, by rw [HZ.out]; rfl, hid (by rw [HZ.out]; exact HI7.out), by rw [HZ.out]; rfl⟩
            case measure => simp [intOf]; omega
          · have hp9 : P k = false := by rw [HPk.out]; exact decide_eq_false hv
            rw [hp9] at HSk2
            have HZ := hid (HSk2.out.trans rfl)
            clear HPk HSPk
            go_wp2_with fail
            go_roundw
            case rel => exact ⟨HE7.out, k + 1, A', c', by omega, by go_num, by rw [HZ.out]; rfl, hid (by rw [HZ.out]; exact HIo.out), by rw [HZ.out]; rfl⟩
            case measure => simp [intOf]; omega
    · obtain rfl : k = N := by omega
      rw [HEND.out] at HI ⊢
      have hw3 : wrap64 ((2 : Int) ^ min n 64) = (k : Int) := by rw [hmn]; exact HW2.out
      have hw4 := HW2.out
      clear hmn HS HLT HPK HSP HEND H0 HMM HSO
      cases CN with
      | none =>
        go_wp2_with (simp only [hu])
        go_ret2
        first | exact ⟨none, 0, rfl, fun h => absurd rfl h, hE⟩ | exact ⟨none, ⟨0, rfl⟩, fun h => absurd rfl h, hE⟩
      | some b =>
        go_wp2_with (simp only [hu])
        go_ret2
        first | exact ⟨A', c', rfl, HI.out, hE⟩ | exact ⟨A', ⟨c', rfl⟩, HI.out, hE⟩
end Go.Proofs.YtggggnjibedgaaaGreat
/- append of points to an empty slice. -/
set_option linter.unusedSimpArgs false
set_option linter.unusedVariables false
namespace Go.Proofs.YtggggnjibedgaaaGreat
open Go.RowKit
theorem append_noSp (z : Nat) (A : Option Addr) (c : Nat) (ty : TypeId) (w : World) : (Builtin.append_ #[42, 42] ty #[.slice (some ⟨z, 0, none⟩) 0 0, .slice A 0 c]).run Tryz.prog w = .ok (.slice (some ⟨z, 0, none⟩) 0 0) w := by
  obtain ⟨i0, hi, hz0, hz1, hz2⟩ := info_parts infoSp
  cases A with
  | none => simp [Builtin.append_, run_underlying Tryz.underlying42, sizeOf, typeInfo, hi, Builtin.lenOf, Builtin.firstCells, loadCells, loadCellsFrom, storeCells]
  | some ad => simp [Builtin.append_, run_underlying Tryz.underlying42, sizeOf, typeInfo, hi, Builtin.lenOf, Builtin.firstCells, loadCells, loadCellsFrom, storeCells]
theorem wp_appAllSp {o : Oper} {a : Act} {K : Act → World → Prop} {Q : Exit → Act → World → Prop} (w : World) (s x : Operand)
    (ho : o.op = .call { callee := .builtin .append, args := #[s, x], argTypes := #[42, 42] }) (B z : Nat) (A : Option Addr) (c : Nat) (os : List Sp) (hs : a.eval s = .slice (some ⟨z, 0, none⟩) 0 0) (hz : Blk w z 33 #[]) (hBz : B ≤ z)
    (n : Nat) (hn : os.length = n) (hx : a.eval x = .slice A n c) (hO : SpsAt w A os) (hl : n ≤ 10000)
    (h : ∀ v' w', Ownl 33 2 gSp w' B v' os → w.grownBy w' (some z) → K (a.put o.dst v') w') : o.wp Tryz.prog a w K Q := by
  subst hn
  have hlt := hz.lt
  have h0r : w.ownsRow B 33 2 (.slice (some ⟨z, 0, none⟩) 0 0) 0 [] := ⟨rfl, .inr ⟨z, 0, #[], rfl, hBz, hz, Nat.le_refl _, Nat.zero_le _, rfl, rfl⟩⟩
  by_cases h0 : os = []
  · subst h0
    have hr := append_noSp z A c o.type w
    unfold Oper.wp execOp
    simp only [ho, resolve, invoke, builtin, Sem.run_bind, Sem.run_pure, Result.andThen_ok, List.map_toArray, List.map_cons, List.map_nil, hs, hx, List.length_nil, hr]
    exact h (.slice (some ⟨z, 0, none⟩) 0 0) w h0r ⟨rfl, rfl, rfl, Nat.le_refl _, fun _ _ _ => rfl⟩
  · obtain ⟨b, off, rfl, hb, hc⟩ := hO h0
    obtain ⟨i0, hi, hz0, hz1, hz2⟩ := info_parts infoSp
    refine wp_append_own w s x 42 ho B 33 i0 _ 2 16 Tryz.underlying42 hi hz0 hz1 hz2 rfl (by decide) (.slice (some ⟨z, 0, none⟩) 0 0) 0 [] hs h0r ⟨b, off, none⟩ os.length c (os.flatMap gSp) hx (fm_len gSp 2 (fun _ => rfl) os) (flat_from (s := 2) (g := gSp) (d := zeroSp) (by decide) (fun _ => rfl) (fun k hk r hr => ?_)) (fun u hu => ?_) (by unfold maxLen; omega) (by omega) (by omega) (fun v' w' h1 h2 h3 => ?_)
    · have hkk := hc k hk
      generalize os.getD k zeroSp = y at *
      rw [← Nat.add_assoc]
      (match r, hr with
      | 0, _ => exact hkk.c0
      | 1, _ => exact hkk.c1)
    · obtain ⟨y, -, hy⟩ := List.mem_flatMap.1 hu
      exact oneSp y u hy
    · rw [Nat.zero_add, List.nil_append] at h1
      exact h v' w' h1 h2
theorem wpList_appAllSp {ops : Array Oper} {rest : List Oper} {o : Oper} {a : Act} {Q : Exit → Act → World → Prop} (w : World) (hgd : o.guard = none) (s x : Operand)
    (ho : o.op = .call { callee := .builtin .append, args := #[s, x], argTypes := #[42, 42] }) (B z : Nat) (A : Option Addr) (c : Nat) (os : List Sp) (hs : a.eval s = .slice (some ⟨z, 0, none⟩) 0 0) (hz : Blk w z 33 #[]) (hBz : B ≤ z)
    (n : Nat) (hn : os.length = n) (hx : a.eval x = .slice A n c) (hO : SpsAt w A os) (hl : n ≤ 10000)
    (h : ∀ v' w', Ownl 33 2 gSp w' B v' os → w.grownBy w' (some z) → wpList Tryz.prog ops Q rest (a.put o.dst v') w') : wpList Tryz.prog ops Q (o :: rest) a w :=
  wpList_plain hgd fun _ hK => wp_appAllSp w s x ho B z A c os hs hz hBz n hn hx hO hl fun v' w' h1 h2 => hK _ _ (h v' w' h1 h2)
end Go.Proofs.YtggggnjibedgaaaGreat
/- The law RopesHolds returns true. -/
set_option linter.unusedSimpArgs false
set_option linter.unusedVariables false
namespace Go.Proofs.YtggggnjibedgaaaGreat
open Go.RowKit
set_option maxRecDepth 100000 in
set_option maxHeartbeats 8000000 in
theorem ropesHolds_any (ps : List Sp) (A : Option Addr) (n c : Nat) (hn : ps.length = n) (load least : Int) (w : World) (hx : SpsAt w A ps) :
    Calls Tryz.prog 4 #[.slice A n c, .int .i64 load, .int .i64 least] w fun e w' => e = .returned (.bool true) ∧ Ext w w' := by
  have HWK := hid (fun W => works_any W)
  have HX := hid hx
  have HN := hid hn
  by_cases hb : 20 < n
  · have hbi : (20 : Int) < (n : Int) := by omega
    have hb6 : (6 : Int) < (n : Int) := by omega
    have hb8 : ¬ (n : Int) ≤ 8 := by omega
    clear hx hn
    go_enter Tryz.func4, Tryz.ntmps4
    go_wp2_with (go_at_call 14; refine (HWK.out _).mono ?_; rintro e w2 ⟨rfl, hE⟩; (first | (have hK := KC.step (n := w.heap.size) (by with_reducible assumption) hE) | (have hK := KC.step (KC.step (n := w.heap.size) (by with_reducible assumption) (ext_alloc1 _ _)) hE) | (have hK := KC.step (KC.refl (n := w.heap.size) (by simp)) hE)); have hC := hK.cell; have hF := hK.fro; have hX := hK.ext)
    go_ret
    exact ⟨rfl, by (repeat' (first | with_reducible assumption | with_reducible exact Ext.refl _ | with_reducible refine Ext.alloc ?_ _ | with_reducible refine Ext.set ?_ ?_ _ | with_reducible refine Ext.drew ?_ | with_reducible refine Ext.drewN ?_ _ | with_reducible refine Ext.trans ?_ (by assumption) | (dsimp only; omega)))⟩
  have hbi : ¬ (20 : Int) < (n : Int) := by omega
  by_cases h68 : 6 < n ∧ n ≤ 8
  · have hb6 : (6 : Int) < (n : Int) := by omega
    have hb8 : (n : Int) ≤ 8 := by omega
    clear hx hn
    go_enter Tryz.func4, Tryz.ntmps4
    go_wp2_with (go_at_call 14; refine (HWK.out _).mono ?_; rintro e w2 ⟨rfl, hE⟩; (first | (have hK := KC.step (n := w.heap.size) (by with_reducible assumption) hE) | (have hK := KC.step (KC.step (n := w.heap.size) (by with_reducible assumption) (ext_alloc1 _ _)) hE) | (have hK := KC.step (KC.refl (n := w.heap.size) (by simp)) hE)); have hC := hK.cell; have hF := hK.fro; have hX := hK.ext)
    go_ret
    exact ⟨rfl, by (repeat' (first | with_reducible assumption | with_reducible exact Ext.refl _ | with_reducible refine Ext.alloc ?_ _ | with_reducible refine Ext.set ?_ ?_ _ | with_reducible refine Ext.drew ?_ | with_reducible refine Ext.drewN ?_ _ | with_reducible refine Ext.trans ?_ (by assumption) | (dsimp only; omega)))⟩
  have hf : n ≤ 6 ∨ 8 < n := by omega
  have HPH := hid (fun (A5 : Option Addr) (c5 : Nat) (W : World) (h : SpsAt W A5 ps) => pholds_any ps load A5 n c5 hn (by omega) W h)
  have HRH := hid (fun (W : World) (hE : Ext w W) => rholds_any ps load A n c hn (by omega) W (hx.ext hE))
  have HPS := hid (fun (A5 : Option Addr) (c5 : Nat) (W : World) (h : SpsAt W A5 ps) => pspare_any ps load A5 n c5 hn (by omega) W h)
  have HRS := hid (fun (W : World) (hE : Ext w W) => rspare_any ps load A n c hn (by omega) hf W (hx.ext hE))
  have HPC := hid (fun (A5 : Option Addr) (c5 : Nat) (W : World) (h : SpsAt W A5 ps) => pchoose_any ps load least A5 n c5 hn (by omega) W h)
  have HRC := hid (fun (W : World) (hE : Ext w W) => rchoose_any ps load least A n c hn (by omega) hf W (hx.ext hE))
  have hPR : (choR ps load least).length ≤ 1000 := by
    unfold choR
    split
    · split
      · have h1 := memL_len ((choN load least ps).getD 0)
        have h2 := elems_len ((choN load least ps).getD 0)
        omega
      · simp
    · simp
  unfold PropIs at HPC
  generalize holV ps load = HV at *
  generalize spaV ps load = U at *
  generalize anE ps load true = E1 at *
  generalize choE ps load least = E2 at *
  generalize choR ps load least = PR at *
  obtain ⟨m, hm⟩ : ∃ m, PR.length = m := ⟨_, rfl⟩
  have HSM := hid (fun (A8 A9 : Option Addr) (c8 c9 : Nat) (W : World) (h8 : IntsAt W A8 PR) (h9 : IntsAt W A9 PR) => sameInts_any A8 A9 m m c8 c9 PR PR hm hm (by omega) (by omega) W h8 h9)
  rw [hm] at HPC HRC
  simp only [decide_true] at HSM
  obtain ⟨s1, s2⟩ := HV
  dsimp only at *
  by_cases h6 : 6 < n
  · have hb6 : (6 : Int) < (n : Int) := by omega
    have hb8 : ¬ (n : Int) ≤ 8 := by omega
    clear hx hn hb hf hm hPR h68
    go_enter Tryz.func4, Tryz.ntmps4
    go_wp2_with (at_builtin; refine Halt.mk ?_)
    unfold Halt
    refine wpList_appAllSp _ rfl _ _ rfl w.heap.size w.heap.size A c ps rfl (blk_last w _) (Nat.le_refl _) n HN.out rfl (HX.out.ext (ext_alloc1 _ _)) (by omega) ?_
    intro v5 w5 hO hg
    obtain ⟨A5, c5, hv5, hle5, hp5⟩ := ownSp hO
    have HP5 := hid hp5
    have E5 := hid (show Ext w w5 from Below.grown (ext_alloc1 w (.cells #[] 33)) hg (ext_alloc1 w (.cells #[] 33)).size (fun k ek => by cases ek; exact Nat.le_refl _))
    have hnn := HN.out
    rw [hnn] at hv5 hle5
    subst hv5
    clear hO hg hp5 hnn HX HN
    go_wp2_with fail
    refine Calls.mono (HPH.out A5 c5 _ HP5.out) ?_
    rintro e w6 ⟨rfl, hE6⟩
    have E6 := hid (E5.out.trans hE6)
    have HP6 := hid (HP5.out.ext hE6)
    clear hE6 E5 HP5 HPH
    go_wp2_with fail
    refine Calls.mono (HRH.out _ E6.out) ?_
    rintro e w7 ⟨rfl, hE7⟩
    have E7 := hid (E6.out.trans hE7)
    have HP7 := hid (HP6.out.ext hE7)
    clear hE7 E6 HP6 HRH
    cases s1 <;> cases s2
    all_goals
      go_wp2_with fail
      refine Calls.mono (HPS.out A5 c5 _ HP7.out) ?_
      rintro e w8 ⟨rfl, hE8⟩
      have E8 := hid (E7.out.trans hE8)
      have HP8 := hid (HP7.out.ext hE8)
      clear hE8 E7 HP7 HPS
      go_wp2_with fail
      refine Calls.mono (HRS.out _ E8.out) ?_
      rintro e w9 ⟨rfl, hE9⟩
      have E9 := hid (E8.out.trans hE9)
      have HP9 := hid (HP8.out.ext hE9)
      clear hE9 E8 HP8 HRS
      go_wp2_with fail
      refine Calls.mono (HPC.out A5 c5 _ HP9.out) ?_
      rintro e w10 ⟨A8, c8, rfl, hI8, hl8, hE10⟩
      have E10 := hid (E9.out.trans hE10)
      have HI8 := hid hI8
      clear hE10 E9 HP9 HPC hI8 hl8
      go_wp2_with fail
      refine Calls.mono (HRC.out _ E10.out) ?_
      rintro e w11 ⟨A9, c9, rfl, hI9, hE11⟩
      have E11 := hid (E10.out.trans hE11)
      have HI9 := hid hI9
      have HI89 := hid (HI8.out.ext hE11)
      clear hE11 E10 HRC hI9 HI8
      go_wp2_with fail
      refine Calls.mono (HSM.out A8 A9 c8 c9 _ HI89.out HI9.out) ?_
      rintro e w12 ⟨rfl, hE12⟩
      have E12 := hid (E11.out.trans hE12)
      clear hE12 E11 HI9 HI89 HSM
      go_wp2_with fail
      refine Calls.mono (HWK.out _) ?_
      rintro e w13 ⟨rfl, hE13⟩
      go_wp2
      go_ret
      exact ⟨rfl, E12.out.trans hE13⟩
  · have hb6 : ¬ (6 : Int) < (n : Int) := by omega
    clear hx hn hb hf hm hPR h68
    go_enter Tryz.func4, Tryz.ntmps4
    go_wp2_with (at_builtin; refine Halt.mk ?_)
    unfold Halt
    refine wpList_appAllSp _ rfl _ _ rfl w.heap.size w.heap.size A c ps rfl (blk_last w _) (Nat.le_refl _) n HN.out rfl (HX.out.ext (ext_alloc1 _ _)) (by omega) ?_
    intro v5 w5 hO hg
    obtain ⟨A5, c5, hv5, hle5, hp5⟩ := ownSp hO
    have HP5 := hid hp5
    have E5 := hid (show Ext w w5 from Below.grown (ext_alloc1 w (.cells #[] 33)) hg (ext_alloc1 w (.cells #[] 33)).size (fun k ek => by cases ek; exact Nat.le_refl _))
    have hnn := HN.out
    rw [hnn] at hv5 hle5
    subst hv5
    clear hO hg hp5 hnn HX HN
    go_wp2_with fail
    refine Calls.mono (HPH.out A5 c5 _ HP5.out) ?_
    rintro e w6 ⟨rfl, hE6⟩
    have E6 := hid (E5.out.trans hE6)
    have HP6 := hid (HP5.out.ext hE6)
    clear hE6 E5 HP5 HPH
    go_wp2_with fail
    refine Calls.mono (HRH.out _ E6.out) ?_
    rintro e w7 ⟨rfl, hE7⟩
    have E7 := hid (E6.out.trans hE7)
    have HP7 := hid (HP6.out.ext hE7)
    clear hE7 E6 HP6 HRH
    cases s1 <;> cases s2
    all_goals
      go_wp2_with fail
      refine Calls.mono (HPS.out A5 c5 _ HP7.out) ?_
      rintro e w8 ⟨rfl, hE8⟩
      have E8 := hid (E7.out.trans hE8)
      have HP8 := hid (HP7.out.ext hE8)
      clear hE8 E7 HP7 HPS
      go_wp2_with fail
      refine Calls.mono (HRS.out _ E8.out) ?_
      rintro e w9 ⟨rfl, hE9⟩
      have E9 := hid (E8.out.trans hE9)
      have HP9 := hid (HP8.out.ext hE9)
      clear hE9 E8 HP8 HRS
      go_wp2_with fail
      refine Calls.mono (HPC.out A5 c5 _ HP9.out) ?_
      rintro e w10 ⟨A8, c8, rfl, hI8, hl8, hE10⟩
      have E10 := hid (E9.out.trans hE10)
      have HI8 := hid hI8
      clear hE10 E9 HP9 HPC hI8 hl8
      go_wp2_with fail
      refine Calls.mono (HRC.out _ E10.out) ?_
      rintro e w11 ⟨A9, c9, rfl, hI9, hE11⟩
      have E11 := hid (E10.out.trans hE11)
      have HI9 := hid hI9
      have HI89 := hid (HI8.out.ext hE11)
      clear hE11 E10 HRC hI9 HI8
      go_wp2_with fail
      refine Calls.mono (HSM.out A8 A9 c8 c9 _ HI89.out HI9.out) ?_
      rintro e w12 ⟨rfl, hE12⟩
      have E12 := hid (E11.out.trans hE12)
      clear hE12 E11 HI9 HI89 HSM
      go_wp2_with fail
      refine Calls.mono (HWK.out _) ?_
      rintro e w13 ⟨rfl, hE13⟩
      go_wp2
      go_ret
      exact ⟨rfl, E12.out.trans hE13⟩
end Go.Proofs.YtggggnjibedgaaaGreat
/- Points, and a load with strengths and one more point, as arguments: opened to their cells. -/
set_option linter.unusedSimpArgs false
set_option linter.unusedVariables false
namespace Go.Proofs.YtggggnjibedgaaaGreat
open Go.RowKit
open Go.ChangeShapes Go.WideShapes Go.Deep Go.Joins
theorem cellsLoaded : Tryz.prog.cellsOf 81 = 5 := by kernel_rfl
theorem array5 {α : Type} {cs : Array α} (h : cs.size = 5) : ∃ c0 c1 c2 c3 c4, cs = #[c0, c1, c2, c3, c4] := by
  obtain ⟨l⟩ := cs
  match l, h with
  | [c0, c1, c2, c3, c4], _ => exact ⟨c0, c1, c2, c3, c4, rfl⟩
section
variable {H : Type} {enc : TypeId × Value → H} {w : World} {base : Nat} {spare : Nat → Bool} {held : Bool}
set_option maxRecDepth 100000 in
theorem open_point {fuel : Nat} {cs : List Value} {x : DataW H × List MemPlace} (h : DataW.trod enc Tryz.prog w base spare held fuel 33 cs = some x) : ∃ o : Sp, cs = [.int .i64 o.lo, .int .i64 o.hi] := by
  obtain ⟨_, _, _, _, hlen, i1, j1⟩ := trod_struct2 Tryz.underlying33 h
  rw [cellsSpan] at hlen
  match cs, hlen with
  | [c0, c1], _ =>
    rw [cellsInt] at i1 j1
    simp only [List.drop_zero, List.drop_succ_cons, List.take_succ_cons, List.take_zero] at i1 j1
    obtain ⟨a1, g1, _, _⟩ := DataW.trod_int Tryz.underlying3 i1
    obtain ⟨a2, g2, _, _⟩ := DataW.trod_int Tryz.underlying3 j1
    simp only [List.cons.injEq, and_true] at g1 g2
    subst g1 g2
    exact ⟨⟨a1, a2⟩, rfl⟩
set_option maxRecDepth 100000 in
theorem open_points {fuel : Nat} {cs : List Value} {x : DataW H × List MemPlace} (h : DataW.trod enc Tryz.prog w base spare held fuel 42 cs = some x) :
    ∃ A os c, cs = [.slice A os.length c] ∧ os.length ≤ c ∧ SpsAt w A os ∧ ∀ o : Sp, o ∈ os → True := by
  rcases open_slice Tryz.underlying42 h with ⟨rfl, _⟩ | ⟨a, len, cap, m, n, D, Pl, rfl, hb, hl, hm, hmm, hx, hi⟩
  · exact ⟨none, [], 0, rfl, Nat.le_refl _, fun h => absurd rfl h, fun o ho => by cases ho⟩
  · have hlm : len ≤ m := by rw [hmm]; split <;> omega
    have hel : ∀ i, i < len → ∃ o : Sp, SpAt w a.block (a.off + i * 2) o ∧ a.block < w.heap.size ∧ True := fun i hil => by
      obtain ⟨cs', hc, ht⟩ := hi i (by omega)
      rw [cellsSpan] at hc
      obtain ⟨_, hl2, hat⟩ := World.cells?_some hc
      obtain ⟨o, rfl⟩ := open_point ht
      have hk : ∀ k v, ([.int .i64 o.lo, .int .i64 o.hi] : List Value)[k]? = some v → k < 2 → w.cell? ⟨a.block, a.off + i * 2 + k, none⟩ = some v ∧ a.block < w.heap.size := fun k v hv hk8 => by
        have h0 := (hat k hk8).trans hv
        rw [Go.Deep.add_add] at h0
        have h1 := add_cell h0
        exact ⟨by rw [Nat.add_assoc]; exact h1.1, h1.2⟩
      exact ⟨o, ⟨(hk 0 _ rfl (by omega)).1, (hk 1 _ rfl (by omega)).1⟩, (hk 0 _ rfl (by omega)).2, trivial⟩
    obtain ⟨os, ho, hos⟩ := exists_list zeroSp _ len hel
    subst ho
    refine ⟨some a, os, cap, rfl, hl, fun hne => ?_, fun o ho => ?_⟩
    · have h0 : 0 < os.length := List.length_pos_iff.2 hne
      have hb0 := (hos 0 h0).2.1
      have hsp : a = ⟨a.block, a.off, none⟩ := by
        obtain ⟨cs', hc, ht⟩ := hi 0 (by omega)
        obtain ⟨_, hl2, hat⟩ := World.cells?_some hc
        rw [cellsSpan] at hat hl2
        exact addr_plain hl2 (by omega) hat
      exact ⟨a.block, a.off, by rw [← hsp], hb0, fun k hk => (hos k hk).1⟩
    · obtain ⟨i, hi', rfl⟩ := List.getElem_of_mem ho
      have h9 := (hos i hi').2.2
      have e9 : os.getD i zeroSp = os[i] := by simp [List.getD, List.getElem?_eq_getElem hi']
      first | trivial | (rw [e9] at h9; exact h9)
set_option maxRecDepth 100000 in
theorem open_argPoints {r : Reach} {b0 : Nat} {v : Value} {d : DataW H} {p : List MemPlace} (hv : Value.okWide Tryz.prog w r b0 42 v) (h : DataW.Trod enc Tryz.prog w base spare held 42 v d p) :
    ∃ A os c, v = .slice A (List.length os) c ∧ SpsAt w A os := by
  obtain ⟨a, len, cap, rfl⟩ := okWide_slice Tryz.underlying42 hv
  obtain ⟨fuel, hf⟩ := h
  obtain ⟨A, xs, c, e, -, hs, -⟩ := open_points hf
  have e' : [Value.slice a len cap] = [Value.slice A xs.length c] := e
  simp only [List.cons.injEq, and_true] at e'
  exact ⟨A, xs, c, e', hs⟩
set_option maxRecDepth 100000 in
theorem open_loaded {r : Reach} {b0 : Nat} {v : Value} {d : DataW H} {p : List MemPlace} (hv : Value.okWide Tryz.prog w r b0 81 v) (h : DataW.Trod enc Tryz.prog w base spare held 81 v d p) :
    ∃ (load low : Int) (SA : Option Addr) (xs : List Int) (sc : Nat) (z : Sp), v = .agg #[.int .i64 load, .int .i64 low, .slice SA (List.length xs) sc, .int .i64 z.lo, .int .i64 z.hi] ∧ IntsAt w SA xs := by
  obtain ⟨cs, rfl, hsz⟩ := okWide_struct Tryz.underlying81 hv
  obtain ⟨c0, c1, c2, c3, c4, rfl⟩ := array5 (hsz.trans cellsLoaded)
  obtain ⟨fuel, hf0⟩ := h
  obtain ⟨ys, n', hn', hy, hlen, hyl, hf⟩ := DataW.trod_struct Tryz.underlying81 hf0
  obtain ⟨y0, h0, _⟩ := field_of hyl hf 0 rfl (t := 3) (o := 0) rfl rfl cellsInt
  obtain ⟨y1, h1, _⟩ := field_of hyl hf 1 rfl (t := 3) (o := 1) rfl rfl cellsInt
  obtain ⟨y2, h2, _⟩ := field_of hyl hf 2 rfl (t := 45) (o := 2) rfl rfl cellsSlI
  obtain ⟨y3, h3, _⟩ := field_of hyl hf 3 rfl (t := 33) (o := 3) rfl rfl cellsSpan
  have h0' : DataW.trod enc Tryz.prog w base spare held n' 3 [c0] = some y0 := h0
  have h1' : DataW.trod enc Tryz.prog w base spare held n' 3 [c1] = some y1 := h1
  have h2' : DataW.trod enc Tryz.prog w base spare held n' 45 [c2] = some y2 := h2
  have h3' : DataW.trod enc Tryz.prog w base spare held n' 33 [c3, c4] = some y3 := h3
  obtain ⟨a0, g0, _, _⟩ := DataW.trod_int Tryz.underlying3 h0'
  obtain ⟨a1, g1, _, _⟩ := DataW.trod_int Tryz.underlying3 h1'
  obtain ⟨SA, xs, sc, g2, i2⟩ := open_ints h2'
  obtain ⟨z, g3⟩ := open_point h3'
  simp only [List.cons.injEq, and_true] at g0 g1 g2 g3
  obtain ⟨g3, g4⟩ := g3
  subst g0 g1 g2 g3 g4
  exact ⟨a0, a1, SA, xs, sc, z, rfl, i2⟩
end
end Go.Proofs.YtggggnjibedgaaaGreat
