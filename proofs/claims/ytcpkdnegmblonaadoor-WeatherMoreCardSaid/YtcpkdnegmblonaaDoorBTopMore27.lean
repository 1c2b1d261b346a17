/- The law of one more observation, and of wider limits. -/
import Derived.Test.YtcpkdnegmblonaaDoorBTopMore26
set_option linter.unusedSimpArgs false
set_option linter.unusedVariables false
namespace Go.Proofs.YtcpkdnegmblonaaDoor
open Go.RowKit
theorem noneE'_or (f : List (List Hr)) (seen : List Sg) : noneE' f seen = 0 ∨ noneE' f seen = 3 := by
  unfold noneE'
  split
  · exact .inr rfl
  · exact .inl rfl
def posN (f : List (List Hr)) (seen : List Sg) : List Int := if noneE' f seen = 0 then numsM seen f else []
theorem pos_ints {f : List (List Hr)} {seen : List Sg} (hs : seenE f seen = 0) {A : Option Addr} {n c : Nat} {SA : Option Addr} {m sc : Nat} {w : World} (h : FIn w f A n seen SA m) :
    Calls Tryd.prog 12 #[.agg #[.slice A n c], .slice SA m sc] w fun e w' => ∃ A1 c1, e = .returned (.tuple #[.slice A1 (posN f seen).length c1, .int .i64 (noneE' f seen)]) ∧ IntsAt w' A1 (posN f seen) ∧ Ext w w' := by
  refine (possible_any f A n c seen SA m sc w h).mono ?_
  rintro e w' ⟨A1, n1, c1, rfl, h1, h2, hE⟩
  rw [posE_eq hs] at h1 h2 ⊢
  unfold posN
  by_cases h0 : noneE' f seen = 0
  · rw [if_pos h0]
    obtain ⟨A3, c3, e3, -, hfl, -⟩ := ((h1 h0).form (by decide) (fun _ => rfl) 0)
    injection e3 with e3 e4 e5
    subst e3 e5
    rw [e4]
    exact ⟨A1, c1, rfl, flat_ints.1 hfl, hE⟩
  · rw [if_neg h0, h2 h0]
    exact ⟨A1, c1, rfl, fun h => absurd rfl h, hE⟩
theorem sureV_len {w : World} {f : List (List Hr)} {A : Option Addr} {n : Nat} {seen : List Sg} {SA : Option Addr} {m : Nat} (h : FIn w f A n seen SA m) (l : Lm) : (sureV f seen l).length ≤ 1000 := by
  have h1 := spansM_len (fun h => (scsM seen f).all fun hs => isOpenM surB [⟨0, 0, l⟩] hs h) (hoursN f)
  have h2 := h.hours
  unfold sureV
  split
  · unfold sureM; omega
  · simp
set_option maxHeartbeats 16000000 in
set_option maxRecDepth 100000 in
theorem lmore_good (f : List (List Hr)) (A : Option Addr) (n c : Nat) (seen : List Sg) (SA : Option Addr) (m sc : Nat) (KA : Option Addr) (kn kc : Nat) (l : Lm) (len : Int) (y : Es) (hyw : (Lit.int .i64 y.hour).wf = true) (w : World) (h : AIn w f A n seen SA m) (hg : MoreIn f seen m l len y) :
    Calls Tryd.prog 6 #[.agg #[.slice A n c], .agg #[.slice SA m sc, .slice KA kn kc, .int .i64 l.wind, .int .i64 l.rain, .int .i64 l.tl, .int .i64 l.th, .int .i64 len], .agg (esCells y)] w fun e w' => e = .returned (.bool true) ∧ Ext w w' := by
  obtain ⟨hfar, hse, hlm, hlo, hhi, hyW, hyR, hyT⟩ := hg
  have h0 := h.fin hfar
  have hF := fun (W : World) (hW : Ext w W) => h0.ext hW
  obtain ⟨ln, rfl⟩ : ∃ ln : Nat, len = ln := ⟨len.toNat, by omega⟩
  have g1 : 1 ≤ ln := by omega
  have g2 : ln ≤ 48 := by omega
  have hl2 := wide_ok hlm hyW.1 hyR.1 hyT.1
  have hmw := more_wide (len := ln) hse hlm g1 g2 hyW.1 hyR.1 hyT.1
  have hfc := fcE_ok (seenE_ok hse).1
  have hn0 : 0 < n := by
    have := (fc_ok hfc).2.1
    have := h.hn
    omega
  have hNN := h0.hours
  have hm22 := (farB_not hfar).m22
  have HWK := hid (fun (W : World) (hW : Ext w W) => works_any W (h.wid.ext hW))
  have HLM := hid (fun (W : World) => rLimits_any l W)
  have HF := hid (fun (W : World) (hW : Ext w W) => far_any f A n c h.hn SA m sc W (h.sc.ext hW))
  have HSE := hid (fun (W : World) (hW : Ext w W) => rSeen_any f A n c seen SA m sc W (hF W hW))
  have HHN := hid (fun (W : World) (hW : Ext w W) => rHours_any A n c f h.hn hn0 W (h.sc.ext hW))
  have HPO := hid (fun (W : World) (hW : Ext w W) => pos_ints (c := c) (sc := sc) hse (hF W hW))
  have HKE := hid (fun (W : World) (hW : Ext w W) => keeps_any f A n c seen SA m sc l W (hF W hW))
  have HKE2 := hid (fun (W : World) (hW : Ext w W) => keeps_any f A n c seen SA m sc (wideM l y) W (hF W hW))
  have HGP := hid (fun (W : World) (hW : Ext w W) => gapP_any f A n c seen SA m sc l ln W (hF W hW))
  have HGP2 := hid (fun (W : World) (hW : Ext w W) => gapP_any f A n c seen SA m sc (wideM l y) ln W (hF W hW))
  have HWI := hid (fun (W : World) => wider_any l y hlm hyW hyR hyT W)
  have HWB := hid (fun (A5 : Option Addr) (c5 : Nat) (A7 : Option Addr) (c7 : Nat) (W : World) (h5 : OpensAt W A5 (sureV f seen l)) (h7 : OpensAt W A7 (sureV f seen (wideM l y))) => lwithin_any (sureV f seen l) (sureV f seen (wideM l y)) A5 A7 _ _ c5 c7 rfl rfl (by have := sureV_len h0 l; omega) (by have := sureV_len h0 (wideM l y); omega) (hoursN f) (by omega) W h5 h7)
  unfold KeepsIs at HKE HKE2
  rw [hfar] at HF
  rw [hse] at HSE
  rw [hlm] at HLM
  rw [keepsE_eq hse hlm] at HKE
  rw [keepsE_eq hse hl2] at HKE2
  rw [winE_eq hse hlm g1 g2] at HGP
  rw [winE_eq hse hl2 g1 g2] at HGP2
  rw [hmw.1] at HWB
  have hgap := hmw.2
  -- what is so with one more observation
  have hfin2 : ∀ (W : World) (hW : Ext w W) (A2 : Option Addr) (hs : SgsAt W A2 (seen ++ [y.sg])), FIn W f A n (seen ++ [y.sg]) A2 (m + 1) := fun W hW A2 hs =>
    ⟨h0.hn, h0.hm, h0.hx, by rw [List.length_append, h.hl]; rfl, by omega, (fun s hs' => by
      rcases List.mem_append.1 hs' with h1 | h1
      · exact h.hwf s h1
      · simp at h1; subst h1; exact hyw), h.sc.ext hW, hs, h.wid.ext hW⟩
  have HSE2 := hid (fun (A2 : Option Addr) (c2 : Nat) (W : World) (hW : Ext w W) (hs : SgsAt W A2 (seen ++ [y.sg])) => rSeen_any f A n c (seen ++ [y.sg]) A2 (m + 1) c2 W (hfin2 W hW A2 hs))
  have HPO2 := hid (fun (h2 : seenE f (seen ++ [y.sg]) = 0) (A2 : Option Addr) (c2 : Nat) (W : World) (hW : Ext w W) (hs : SgsAt W A2 (seen ++ [y.sg])) => pos_ints (c := c) (sc := c2) h2 (hfin2 W hW A2 hs))
  have HKE3 := hid (fun (A2 : Option Addr) (c2 : Nat) (W : World) (hW : Ext w W) (hs : SgsAt W A2 (seen ++ [y.sg])) => keeps_any f A n c (seen ++ [y.sg]) A2 (m + 1) c2 l W (hfin2 W hW A2 hs))
  have HGP3 := hid (fun (A2 : Option Addr) (c2 : Nat) (W : World) (hW : Ext w W) (hs : SgsAt W A2 (seen ++ [y.sg])) => gapP_any f A n c (seen ++ [y.sg]) A2 (m + 1) c2 l ln W (hfin2 W hW A2 hs))
  unfold KeepsIs at HKE3
  have HMS := hid (fun (h2 : seenE f (seen ++ [y.sg]) = 0) (hn : noneE' f (seen ++ [y.sg]) = 0) => more_seen (len := ln) hse h2 hlm g1 g2 hn)
  have HK3E := hid (fun (h2 : seenE f (seen ++ [y.sg]) = 0) => keepsE_eq (l := l) h2 hlm)
  have HW3E := hid (fun (h2 : seenE f (seen ++ [y.sg]) = 0) => winE_eq (len := ln) h2 hlm g1 g2)
  have HNE2 := hid (noneE'_or f (seen ++ [y.sg]))
  have hwf2 : (sureV f (seen ++ [y.sg]) l).length ≤ 1000 := by
    have h1 := spansM_len (fun h => (scsM (seen ++ [y.sg]) f).all fun hs => isOpenM surB [⟨0, 0, l⟩] hs h) (hoursN f)
    unfold sureV
    split
    · unfold sureM; omega
    · simp
  have hs1 := sureV_len h0 l
  have HWB2 := hid (fun (A5 : Option Addr) (c5 : Nat) (A9 : Option Addr) (c9 : Nat) (W : World) (h5 : OpensAt W A5 (sureV f seen l)) (h9 : OpensAt W A9 (sureV f (seen ++ [y.sg]) l)) => lwithin_any (sureV f seen l) (sureV f (seen ++ [y.sg]) l) A5 A9 _ _ c5 c9 rfl rfl (by omega) (by omega) (hoursN f) (by omega) W h5 h9)
  have hsgs := h.sg
  have hhl := h.hl
  have hNA : (posN f seen).length ≤ 1000 := by
    unfold posN
    split
    · rw [numsM_scs]; have := scsM_le seen f; have := h0.hn; have := h0.hm; omega
    · simp
  have hNB : (posN f (seen ++ [y.sg])).length ≤ 1000 := by
    unfold posN
    split
    · rw [numsM_scs]; have := scsM_le (seen ++ [y.sg]) f; have := h0.hn; have := h0.hm; omega
    · simp
  have HPN := hid (fun (h1 : noneE' f seen = 0) => show posN f seen = numsM seen f from if_pos h1)
  have HPN2 := hid (fun (h1 : noneE' f (seen ++ [y.sg]) = 0) => show posN f (seen ++ [y.sg]) = numsM (seen ++ [y.sg]) f from if_pos h1)
  have HMS2 := hid (fun (h2 : seenE f (seen ++ [y.sg]) = 0) (hn : noneE' f (seen ++ [y.sg]) = 0) => (show noneE' f seen = 0 ∧ withB (sureV f seen l) (sureV f (seen ++ [y.sg]) l) (hoursN f) = true ∧ gapV f (seen ++ [y.sg]) l ln ≤ gapV f seen l ln ∧ ∀ x ∈ posN f (seen ++ [y.sg]), x ∈ posN f seen from by
    obtain ⟨a, b, c, d⟩ := HMS.out h2 hn
    rw [HPN.out a, HPN2.out hn]
    exact ⟨a, b, c, d⟩))
  have HSG0 := hid hsgs
  have HSL := hid hhl
  have hmm : m ≤ 22 := hm22
  clear h h0 hF hfar hse hlm hl2 hmw hfc hn0 hfin2 hlo hhi HMS HPN HPN2 hsgs hhl
  have hen := noneE'_or f seen
  generalize noneE' f seen = en at *
  generalize hsn : seen ++ [y.sg] = sn2 at *
  have HSN := hid hsn.symm
  clear hsn
  generalize (wideM l y).val = LV at *
  generalize sureV f seen (wideM l y) = S2 at *
  generalize mayV f seen (wideM l y) = M2 at *
  generalize gapV f seen (wideM l y) ln = gp2 at *
  generalize sureV f seen l = S1 at *
  generalize mayV f seen l = M1 at *
  generalize gapV f seen l ln = gp1 at *
  generalize sureV f sn2 l = S3 at *
  generalize mayV f sn2 l = M3 at *
  generalize gapV f sn2 l ln = gp3 at *
  generalize keepsE f sn2 l = ke3 at *
  generalize winE f sn2 l ln = we3 at *
  generalize seenE f sn2 = se2 at *
  generalize noneE' f sn2 = en2 at *
  generalize posN f seen = PA at *
  generalize posN f sn2 = PB at *
  generalize hoursN f = N at *
  unfold Lm.val esCells at *
  obtain ⟨wi, ra, tl, th⟩ := l
  obtain ⟨yh, ys, yr, yt, yw, yn, yp, yl⟩ := y
  unfold Es.sg at HSN
  dsimp only at *
  have hgg : ¬ gp1 < gp2 := by omega
  rcases hen with rfl | rfl
  · go_enter Tryd.func6, Tryd.ntmps6
    have HB0 := hid (show Blk _ _ _ _ from blk_old (blk_old (blk_last w (.cells #[.slice A n c] 24)) (.cells #[.slice SA m sc, .slice KA kn kc, .int .i64 wi, .int .i64 ra, .int .i64 tl, .int .i64 th, .int .i64 (ln : Int)] 46)) (.cells #[.int .i64 yh, .int .i64 ys, .int .i64 yr, .int .i64 yt, .int .i64 yw, .int .i64 yn, .int .i64 yp, .int .i64 yl] 68))
    have HB1 := hid (show Blk _ _ _ _ from blk_old (blk_last (w.alloc (.cells #[.slice A n c] 24)) (.cells #[.slice SA m sc, .slice KA kn kc, .int .i64 wi, .int .i64 ra, .int .i64 tl, .int .i64 th, .int .i64 (ln : Int)] 46)) (.cells #[.int .i64 yh, .int .i64 ys, .int .i64 yr, .int .i64 yt, .int .i64 yw, .int .i64 yn, .int .i64 yp, .int .i64 yl] 68))
    have HB2 := hid (show Blk _ _ _ _ from blk_last ((w.alloc (.cells #[.slice A n c] 24)).alloc (.cells #[.slice SA m sc, .slice KA kn kc, .int .i64 wi, .int .i64 ra, .int .i64 tl, .int .i64 th, .int .i64 (ln : Int)] 46)) (.cells #[.int .i64 yh, .int .i64 ys, .int .i64 yr, .int .i64 yt, .int .i64 yw, .int .i64 yn, .int .i64 yp, .int .i64 yl] 68))
    rw [World.size_alloc] at HB1
    rw [World.size_alloc, World.size_alloc] at HB2
    have E : Ext w (((w.alloc (.cells #[.slice A n c] 24)).alloc (.cells #[.slice SA m sc, .slice KA kn kc, .int .i64 wi, .int .i64 ra, .int .i64 tl, .int .i64 th, .int .i64 (ln : Int)] 46)).alloc (.cells #[.int .i64 yh, .int .i64 ys, .int .i64 yr, .int .i64 yt, .int .i64 yw, .int .i64 yn, .int .i64 yp, .int .i64 yl] 68)) := by (repeat' (first | with_reducible assumption | with_reducible exact Ext.refl _ | with_reducible refine Ext.alloc ?_ _ | with_reducible refine Ext.set ?_ ?_ _ | with_reducible refine Ext.drew ?_ | with_reducible refine Ext.drewN ?_ _ | with_reducible refine Ext.trans ?_ (by assumption) | (dsimp only; omega)))
    go_wp2_with fail
    refine (HF.out _ E).mono ?_
    rintro e w2 ⟨rfl, hE⟩
    replace E := E.trans hE
    replace HB0 := hid (HB0.out.ext hE)
    replace HB1 := hid (HB1.out.ext hE)
    replace HB2 := hid (HB2.out.ext hE)
    clear hE
    (try clear a0 r0 r1 r2 r3 r4 r5 r6 y0 y1 y2 y3 y4 y5 y6 y7 z0 z1 z2)
    have a0 := HB0.out.cell 0
    obtain ⟨r0, r1, r2, r3, r4, r5, r6⟩ : _ ∧ _ ∧ _ ∧ _ ∧ _ ∧ _ ∧ _ := ⟨HB1.out.cell 0, HB1.out.cell 1, HB1.out.cell 2, HB1.out.cell 3, HB1.out.cell 4, HB1.out.cell 5, HB1.out.cell 6⟩
    obtain ⟨y0, y1, y2, y3, y4, y5, y6, y7⟩ : _ ∧ _ ∧ _ ∧ _ ∧ _ ∧ _ ∧ _ ∧ _ := ⟨HB2.out.cell 0, HB2.out.cell 1, HB2.out.cell 2, HB2.out.cell 3, HB2.out.cell 4, HB2.out.cell 5, HB2.out.cell 6, HB2.out.cell 7⟩
    have z0 := HB0.out.lt
    have z1 := HB1.out.lt
    have z2 := HB2.out.lt
    simp only [List.getElem?_toArray, List.getElem?_cons_zero, List.getElem?_cons_succ] at a0 r0 r1 r2 r3 r4 r5 r6 y0 y1 y2 y3 y4 y5 y6 y7
    go_wp2_with fail
    refine (HSE.out _ E).mono ?_
    rintro e w2 ⟨rfl, hE⟩
    replace E := E.trans hE
    replace HB0 := hid (HB0.out.ext hE)
    replace HB1 := hid (HB1.out.ext hE)
    replace HB2 := hid (HB2.out.ext hE)
    clear hE
    (try clear a0 r0 r1 r2 r3 r4 r5 r6 y0 y1 y2 y3 y4 y5 y6 y7 z0 z1 z2)
    have a0 := HB0.out.cell 0
    obtain ⟨r0, r1, r2, r3, r4, r5, r6⟩ : _ ∧ _ ∧ _ ∧ _ ∧ _ ∧ _ ∧ _ := ⟨HB1.out.cell 0, HB1.out.cell 1, HB1.out.cell 2, HB1.out.cell 3, HB1.out.cell 4, HB1.out.cell 5, HB1.out.cell 6⟩
    obtain ⟨y0, y1, y2, y3, y4, y5, y6, y7⟩ : _ ∧ _ ∧ _ ∧ _ ∧ _ ∧ _ ∧ _ ∧ _ := ⟨HB2.out.cell 0, HB2.out.cell 1, HB2.out.cell 2, HB2.out.cell 3, HB2.out.cell 4, HB2.out.cell 5, HB2.out.cell 6, HB2.out.cell 7⟩
    have z0 := HB0.out.lt
    have z1 := HB1.out.lt
    have z2 := HB2.out.lt
    simp only [List.getElem?_toArray, List.getElem?_cons_zero, List.getElem?_cons_succ] at a0 r0 r1 r2 r3 r4 r5 r6 y0 y1 y2 y3 y4 y5 y6 y7
    go_wp2_with fail
    refine (HLM.out _).mono ?_
    rintro e w2 ⟨rfl, hE⟩
    replace E := E.trans hE
    replace HB0 := hid (HB0.out.ext hE)
    replace HB1 := hid (HB1.out.ext hE)
    replace HB2 := hid (HB2.out.ext hE)
    clear hE
    (try clear a0 r0 r1 r2 r3 r4 r5 r6 y0 y1 y2 y3 y4 y5 y6 y7 z0 z1 z2)
    have a0 := HB0.out.cell 0
    obtain ⟨r0, r1, r2, r3, r4, r5, r6⟩ : _ ∧ _ ∧ _ ∧ _ ∧ _ ∧ _ ∧ _ := ⟨HB1.out.cell 0, HB1.out.cell 1, HB1.out.cell 2, HB1.out.cell 3, HB1.out.cell 4, HB1.out.cell 5, HB1.out.cell 6⟩
    obtain ⟨y0, y1, y2, y3, y4, y5, y6, y7⟩ : _ ∧ _ ∧ _ ∧ _ ∧ _ ∧ _ ∧ _ ∧ _ := ⟨HB2.out.cell 0, HB2.out.cell 1, HB2.out.cell 2, HB2.out.cell 3, HB2.out.cell 4, HB2.out.cell 5, HB2.out.cell 6, HB2.out.cell 7⟩
    have z0 := HB0.out.lt
    have z1 := HB1.out.lt
    have z2 := HB2.out.lt
    simp only [List.getElem?_toArray, List.getElem?_cons_zero, List.getElem?_cons_succ] at a0 r0 r1 r2 r3 r4 r5 r6 y0 y1 y2 y3 y4 y5 y6 y7
    clear HF HSE HLM
    go_wp2_with fail
    refine (HHN.out _ E).mono ?_
    rintro e w2 ⟨rfl, hE⟩
    replace E := E.trans hE
    replace HB0 := hid (HB0.out.ext hE)
    replace HB1 := hid (HB1.out.ext hE)
    replace HB2 := hid (HB2.out.ext hE)
    clear hE
    (try clear a0 r0 r1 r2 r3 r4 r5 r6 y0 y1 y2 y3 y4 y5 y6 y7 z0 z1 z2)
    have a0 := HB0.out.cell 0
    obtain ⟨r0, r1, r2, r3, r4, r5, r6⟩ : _ ∧ _ ∧ _ ∧ _ ∧ _ ∧ _ ∧ _ := ⟨HB1.out.cell 0, HB1.out.cell 1, HB1.out.cell 2, HB1.out.cell 3, HB1.out.cell 4, HB1.out.cell 5, HB1.out.cell 6⟩
    obtain ⟨y0, y1, y2, y3, y4, y5, y6, y7⟩ : _ ∧ _ ∧ _ ∧ _ ∧ _ ∧ _ ∧ _ ∧ _ := ⟨HB2.out.cell 0, HB2.out.cell 1, HB2.out.cell 2, HB2.out.cell 3, HB2.out.cell 4, HB2.out.cell 5, HB2.out.cell 6, HB2.out.cell 7⟩
    have z0 := HB0.out.lt
    have z1 := HB1.out.lt
    have z2 := HB2.out.lt
    simp only [List.getElem?_toArray, List.getElem?_cons_zero, List.getElem?_cons_succ] at a0 r0 r1 r2 r3 r4 r5 r6 y0 y1 y2 y3 y4 y5 y6 y7
    clear HHN
    go_wp2_with fail
    refine (HPO.out _ E).mono ?_
    rintro e w2 ⟨A1, c1, rfl, hia, hE⟩
    replace E := E.trans hE
    replace HB0 := hid (HB0.out.ext hE)
    replace HB1 := hid (HB1.out.ext hE)
    replace HB2 := hid (HB2.out.ext hE)
    clear hE
    (try clear a0 r0 r1 r2 r3 r4 r5 r6 y0 y1 y2 y3 y4 y5 y6 y7 z0 z1 z2)
    have a0 := HB0.out.cell 0
    obtain ⟨r0, r1, r2, r3, r4, r5, r6⟩ : _ ∧ _ ∧ _ ∧ _ ∧ _ ∧ _ ∧ _ := ⟨HB1.out.cell 0, HB1.out.cell 1, HB1.out.cell 2, HB1.out.cell 3, HB1.out.cell 4, HB1.out.cell 5, HB1.out.cell 6⟩
    obtain ⟨y0, y1, y2, y3, y4, y5, y6, y7⟩ : _ ∧ _ ∧ _ ∧ _ ∧ _ ∧ _ ∧ _ ∧ _ := ⟨HB2.out.cell 0, HB2.out.cell 1, HB2.out.cell 2, HB2.out.cell 3, HB2.out.cell 4, HB2.out.cell 5, HB2.out.cell 6, HB2.out.cell 7⟩
    have z0 := HB0.out.lt
    have z1 := HB1.out.lt
    have z2 := HB2.out.lt
    simp only [List.getElem?_toArray, List.getElem?_cons_zero, List.getElem?_cons_succ] at a0 r0 r1 r2 r3 r4 r5 r6 y0 y1 y2 y3 y4 y5 y6 y7
    have HIA := hid hia
    clear HPO hia
    go_wp2_with fail
    refine (HKE.out _ E).mono ?_
    rintro e w2 ⟨A5, c5, A6, c6, rfl, ho5, ho6, hE⟩
    (try replace HIA := hid (HIA.out.ext hE))
    (try replace HIB := hid (HIB.out.ext hE))
    (try replace HO5 := hid (HO5.out.ext hE))
    (try replace HO7 := hid (HO7.out.ext hE))
    (try replace HO9 := hid (HO9.out.ext hE))
    (try replace HSG := hid (HSG.out.ext hE))
    replace E := E.trans hE
    replace HB0 := hid (HB0.out.ext hE)
    replace HB1 := hid (HB1.out.ext hE)
    replace HB2 := hid (HB2.out.ext hE)
    clear hE
    (try clear a0 r0 r1 r2 r3 r4 r5 r6 y0 y1 y2 y3 y4 y5 y6 y7 z0 z1 z2)
    have a0 := HB0.out.cell 0
    obtain ⟨r0, r1, r2, r3, r4, r5, r6⟩ : _ ∧ _ ∧ _ ∧ _ ∧ _ ∧ _ ∧ _ := ⟨HB1.out.cell 0, HB1.out.cell 1, HB1.out.cell 2, HB1.out.cell 3, HB1.out.cell 4, HB1.out.cell 5, HB1.out.cell 6⟩
    obtain ⟨y0, y1, y2, y3, y4, y5, y6, y7⟩ : _ ∧ _ ∧ _ ∧ _ ∧ _ ∧ _ ∧ _ ∧ _ := ⟨HB2.out.cell 0, HB2.out.cell 1, HB2.out.cell 2, HB2.out.cell 3, HB2.out.cell 4, HB2.out.cell 5, HB2.out.cell 6, HB2.out.cell 7⟩
    have z0 := HB0.out.lt
    have z1 := HB1.out.lt
    have z2 := HB2.out.lt
    simp only [List.getElem?_toArray, List.getElem?_cons_zero, List.getElem?_cons_succ] at a0 r0 r1 r2 r3 r4 r5 r6 y0 y1 y2 y3 y4 y5 y6 y7
    have HO5 := hid ho5
    clear HKE ho5 ho6
    go_wp2_with fail
    refine (HGP.out _ E).mono ?_
    rintro e w6 ⟨rfl, hE⟩
    (try replace HIA := hid (HIA.out.ext hE))
    (try replace HIB := hid (HIB.out.ext hE))
    (try replace HO5 := hid (HO5.out.ext hE))
    (try replace HO7 := hid (HO7.out.ext hE))
    (try replace HO9 := hid (HO9.out.ext hE))
    (try replace HSG := hid (HSG.out.ext hE))
    replace E := E.trans hE
    replace HB0 := hid (HB0.out.ext hE)
    replace HB1 := hid (HB1.out.ext hE)
    replace HB2 := hid (HB2.out.ext hE)
    clear hE
    (try clear a0 r0 r1 r2 r3 r4 r5 r6 y0 y1 y2 y3 y4 y5 y6 y7 z0 z1 z2)
    have a0 := HB0.out.cell 0
    obtain ⟨r0, r1, r2, r3, r4, r5, r6⟩ : _ ∧ _ ∧ _ ∧ _ ∧ _ ∧ _ ∧ _ := ⟨HB1.out.cell 0, HB1.out.cell 1, HB1.out.cell 2, HB1.out.cell 3, HB1.out.cell 4, HB1.out.cell 5, HB1.out.cell 6⟩
    obtain ⟨y0, y1, y2, y3, y4, y5, y6, y7⟩ : _ ∧ _ ∧ _ ∧ _ ∧ _ ∧ _ ∧ _ ∧ _ := ⟨HB2.out.cell 0, HB2.out.cell 1, HB2.out.cell 2, HB2.out.cell 3, HB2.out.cell 4, HB2.out.cell 5, HB2.out.cell 6, HB2.out.cell 7⟩
    have z0 := HB0.out.lt
    have z1 := HB1.out.lt
    have z2 := HB2.out.lt
    simp only [List.getElem?_toArray, List.getElem?_cons_zero, List.getElem?_cons_succ] at a0 r0 r1 r2 r3 r4 r5 r6 y0 y1 y2 y3 y4 y5 y6 y7
    clear HGP
    go_wp2_with fail
    refine wp_region_held_drew (S := fun w' => (∀ b o, b < w6.heap.size → w'.cell? ⟨b, o, none⟩ = w6.cell? ⟨b, o, none⟩) ∧ w6.heap.size ≤ w'.heap.size ∧ Ext w6 w') (by kernel_rfl) ?hS0 (fun hHeld => ?_)
    case hS0 => exact sK (Ext.drew (Ext.refl _))
    have X0 : Ext w6 w6.drew := Ext.drew (Ext.refl w6)
    have EX := X0
    obtain ⟨X, hX⟩ : ∃ X, w6.drew = X := ⟨_, rfl⟩
    rw [hX] at EX hHeld ⊢
    clear hX X0
    refine wpAnyH_take (i := 0) (oi := _) (v := ?v0au) rfl (by kernel_rfl) (by kernel_rfl) (by kernel_rfl) (fun _ _ _ h => h) (Or.inl ⟨by rfl, ?y0au⟩) (by assumption) ?r0au
    case y0au => (intro w' hSw; (try dsimp only at hSw); go_simp; (try with_reducible rfl))
    try simp only [Act.put, List.getElem_toArray, List.getElem_cons_zero, List.getElem_cons_succ, List.setIfInBounds_toArray, List.set_cons_zero, List.set_cons_succ]
    refine wpAnyH_take (i := 1) (oi := _) (v := ?v1au) rfl (by kernel_rfl) (by kernel_rfl) (by kernel_rfl) (fun _ _ _ h => h) (Or.inl ⟨by rfl, ?y1au⟩) (by assumption) ?r1au
    case y1au => (intro w' hSw; (try dsimp only at hSw); go_simp; (try with_reducible rfl))
    try simp only [Act.put, List.getElem_toArray, List.getElem_cons_zero, List.getElem_cons_succ, List.setIfInBounds_toArray, List.set_cons_zero, List.set_cons_succ]
    refine wpAnyH_take (i := 2) (oi := _) (v := ?v2au) rfl (by kernel_rfl) (by kernel_rfl) (by kernel_rfl) (fun _ _ _ h => h) (Or.inl ⟨by rfl, ?y2au⟩) (by assumption) ?r2au
    case y2au => (intro w' hSw; (try dsimp only at hSw); go_simp; (try with_reducible rfl))
    try simp only [Act.put, List.getElem_toArray, List.getElem_cons_zero, List.getElem_cons_succ, List.setIfInBounds_toArray, List.set_cons_zero, List.set_cons_succ]
    refine wpAnyH_take (i := 3) (oi := _) (v := ?v3au) rfl (by kernel_rfl) (by kernel_rfl) (by kernel_rfl) (fun _ _ _ h => h) (Or.inl ⟨by rfl, ?y3au⟩) (by assumption) ?r3au
    case y3au => (intro w' hSw; (try dsimp only at hSw); go_simp; (try with_reducible rfl))
    try simp only [Act.put, List.getElem_toArray, List.getElem_cons_zero, List.getElem_cons_succ, List.setIfInBounds_toArray, List.set_cons_zero, List.set_cons_succ]
    refine wpAnyH_take (i := 4) (oi := _) (v := ?v4au) rfl (by kernel_rfl) (by kernel_rfl) (by kernel_rfl) (fun _ _ _ h => h) (Or.inl ⟨by rfl, ?y4au⟩) (by assumption) ?r4au
    case y4au => (intro w' hSw; (try dsimp only at hSw); go_simp; (try with_reducible rfl))
    try simp only [Act.put, List.getElem_toArray, List.getElem_cons_zero, List.getElem_cons_succ, List.setIfInBounds_toArray, List.set_cons_zero, List.set_cons_succ]
    refine wpAnyH_take (i := 5) (oi := _) (v := ?v5au) rfl (by kernel_rfl) (by kernel_rfl) (by kernel_rfl) (fun _ _ _ h => h) (Or.inl ⟨by rfl, ?y5au⟩) (by assumption) ?r5au
    case y5au => (intro w' hSw; (try dsimp only at hSw); go_simp; (try with_reducible rfl))
    try simp only [Act.put, List.getElem_toArray, List.getElem_cons_zero, List.getElem_cons_succ, List.setIfInBounds_toArray, List.set_cons_zero, List.set_cons_succ]
    refine wpAnyH_ready (rs := [6]) (by kernel_rfl) (by simp) ?_
    refine AllReadyH.cons (o := _) rfl (fun K hK => ?_) AllReadyH.nil
    go_simp
    refine Calls.mono (HWI.out _) ?_
    rintro e X ⟨rfl, hEX⟩
    dsimp only
    replace EX := EX.trans hEX
    (try replace OB := hid (OB.out.ext hEX))
    (try replace IS := hid (IS.out.ext hEX))
    clear hHeld hEX
    refine hK.out _ _ (sK EX) (fun hHeld => ?_)
    clear hK K
    try simp only [Act.put, List.getElem_toArray, List.getElem_cons_zero, List.getElem_cons_succ, List.setIfInBounds_toArray, List.set_cons_zero, List.set_cons_succ]
    refine wpAnyH_ready (rs := [7]) (by kernel_rfl) (by simp) ?_
    refine AllReadyH.cons (o := _) rfl (fun K hK => ?_) AllReadyH.nil
    go_simp
    refine Calls.mono (HKE2.out _ (E.trans EX)) ?_
    rintro e X ⟨A7, c7, A8, c8, rfl, ho7, ho8, hEX⟩
    dsimp only
    replace EX := EX.trans hEX
    have HO7 := hid ho7
    clear hHeld hEX ho7 ho8 HKE2
    refine hK.out _ _ (sK EX) (fun hHeld => ?_)
    clear hK K
    try simp only [Act.put, List.getElem_toArray, List.getElem_cons_zero, List.getElem_cons_succ, List.setIfInBounds_toArray, List.set_cons_zero, List.set_cons_succ]
    refine wpAnyH_take (i := 8) (oi := _) (v := ?v8bu) rfl (by kernel_rfl) (by kernel_rfl) (by kernel_rfl) (fun _ _ _ h => h) (Or.inl ⟨by rfl, ?y8bu⟩) (by assumption) ?r8bu
    case y8bu => (intro w' hSw; (try dsimp only at hSw); go_simp; (try with_reducible rfl))
    try simp only [Act.put, List.getElem_toArray, List.getElem_cons_zero, List.getElem_cons_succ, List.setIfInBounds_toArray, List.set_cons_zero, List.set_cons_succ]
    refine wpAnyH_take (i := 9) (oi := _) (v := ?v9bu) rfl (by kernel_rfl) (by kernel_rfl) (by kernel_rfl) (fun _ _ _ h => h) (Or.inl ⟨by rfl, ?y9bu⟩) (by assumption) ?r9bu
    case y9bu => (intro w' hSw; (try dsimp only at hSw); go_simp; (try with_reducible rfl))
    try simp only [Act.put, List.getElem_toArray, List.getElem_cons_zero, List.getElem_cons_succ, List.setIfInBounds_toArray, List.set_cons_zero, List.set_cons_succ]
    refine wpAnyH_take (i := 10) (oi := _) (v := ?v10bu) rfl (by kernel_rfl) (by kernel_rfl) (by kernel_rfl) (fun _ _ _ h => h) (Or.inl ⟨by rfl, ?y10bu⟩) (by assumption) ?r10bu
    case y10bu => (intro w' hSw; (try dsimp only at hSw); go_simp; (try with_reducible rfl))
    try simp only [Act.put, List.getElem_toArray, List.getElem_cons_zero, List.getElem_cons_succ, List.setIfInBounds_toArray, List.set_cons_zero, List.set_cons_succ]
    refine wpAnyH_take (i := 11) (oi := _) (v := ?v11bu) rfl (by kernel_rfl) (by kernel_rfl) (by kernel_rfl) (fun _ _ _ h => h) (Or.inl ⟨by rfl, ?y11bu⟩) (by assumption) ?r11bu
    case y11bu => (intro w' hSw; (try dsimp only at hSw); go_simp; (try with_reducible rfl))
    try simp only [Act.put, List.getElem_toArray, List.getElem_cons_zero, List.getElem_cons_succ, List.setIfInBounds_toArray, List.set_cons_zero, List.set_cons_succ]
    refine wpAnyH_take (i := 12) (oi := _) (v := ?v12bu) rfl (by kernel_rfl) (by kernel_rfl) (by kernel_rfl) (fun _ _ _ h => h) (Or.inl ⟨by rfl, ?y12bu⟩) (by assumption) ?r12bu
    case y12bu => (intro w' hSw; (try dsimp only at hSw); go_simp; (try with_reducible rfl))
    try simp only [Act.put, List.getElem_toArray, List.getElem_cons_zero, List.getElem_cons_succ, List.setIfInBounds_toArray, List.set_cons_zero, List.set_cons_succ]
    refine wpAnyH_take (i := 13) (oi := _) (v := ?v13bu) rfl (by kernel_rfl) (by kernel_rfl) (by kernel_rfl) (fun _ _ _ h => h) (Or.inl ⟨by rfl, ?y13bu⟩) (by assumption) ?r13bu
    case y13bu => (intro w' hSw; (try dsimp only at hSw); go_simp; (try with_reducible rfl))
    try simp only [Act.put, List.getElem_toArray, List.getElem_cons_zero, List.getElem_cons_succ, List.setIfInBounds_toArray, List.set_cons_zero, List.set_cons_succ]
    refine wpAnyH_take (i := 14) (oi := _) (v := ?v14bu) rfl (by kernel_rfl) (by kernel_rfl) (by kernel_rfl) (fun _ _ _ h => h) (Or.inl ⟨by rfl, ?y14bu⟩) (by assumption) ?r14bu
    case y14bu => (intro w' hSw; (try dsimp only at hSw); go_simp; (try with_reducible rfl))
    try simp only [Act.put, List.getElem_toArray, List.getElem_cons_zero, List.getElem_cons_succ, List.setIfInBounds_toArray, List.set_cons_zero, List.set_cons_succ]
    refine wpAnyH_done (by kernel_rfl) ?_ _
    have hE := EX
    clear hHeld EX
    (try replace HIA := hid (HIA.out.ext hE))
    (try replace HIB := hid (HIB.out.ext hE))
    (try replace HO5 := hid (HO5.out.ext hE))
    (try replace HO7 := hid (HO7.out.ext hE))
    (try replace HO9 := hid (HO9.out.ext hE))
    (try replace HSG := hid (HSG.out.ext hE))
    replace E := E.trans hE
    replace HB0 := hid (HB0.out.ext hE)
    replace HB1 := hid (HB1.out.ext hE)
    replace HB2 := hid (HB2.out.ext hE)
    clear hE
    (try clear a0 r0 r1 r2 r3 r4 r5 r6 y0 y1 y2 y3 y4 y5 y6 y7 z0 z1 z2)
    have a0 := HB0.out.cell 0
    obtain ⟨r0, r1, r2, r3, r4, r5, r6⟩ : _ ∧ _ ∧ _ ∧ _ ∧ _ ∧ _ ∧ _ := ⟨HB1.out.cell 0, HB1.out.cell 1, HB1.out.cell 2, HB1.out.cell 3, HB1.out.cell 4, HB1.out.cell 5, HB1.out.cell 6⟩
    obtain ⟨y0, y1, y2, y3, y4, y5, y6, y7⟩ : _ ∧ _ ∧ _ ∧ _ ∧ _ ∧ _ ∧ _ ∧ _ := ⟨HB2.out.cell 0, HB2.out.cell 1, HB2.out.cell 2, HB2.out.cell 3, HB2.out.cell 4, HB2.out.cell 5, HB2.out.cell 6, HB2.out.cell 7⟩
    have z0 := HB0.out.lt
    have z1 := HB1.out.lt
    have z2 := HB2.out.lt
    simp only [List.getElem?_toArray, List.getElem?_cons_zero, List.getElem?_cons_succ] at a0 r0 r1 r2 r3 r4 r5 r6 y0 y1 y2 y3 y4 y5 y6 y7
    obtain ⟨w7, rfl⟩ : ∃ w7, w7 = X := ⟨_, rfl⟩
    go_wp2_with fail
    refine wp_region_held_drew (S := fun w' => (∀ b o, b < w7.heap.size → w'.cell? ⟨b, o, none⟩ = w7.cell? ⟨b, o, none⟩) ∧ w7.heap.size ≤ w'.heap.size ∧ Ext w7 w') (by kernel_rfl) ?hS0 (fun hHeld => ?_)
    case hS0 => exact sK (Ext.drew (Ext.refl _))
    have X0 : Ext w7 w7.drew := Ext.drew (Ext.refl w7)
    have EX := X0
    obtain ⟨X, hX⟩ : ∃ X, w7.drew = X := ⟨_, rfl⟩
    rw [hX] at EX hHeld ⊢
    clear hX X0
    refine wpAnyH_take (i := 0) (oi := _) (v := ?v0cu) rfl (by kernel_rfl) (by kernel_rfl) (by kernel_rfl) (fun _ _ _ h => h) (Or.inl ⟨by rfl, ?y0cu⟩) (by assumption) ?r0cu
    case y0cu => (intro w' hSw; (try dsimp only at hSw); go_simp; (try with_reducible rfl))
    try simp only [Act.put, List.getElem_toArray, List.getElem_cons_zero, List.getElem_cons_succ, List.setIfInBounds_toArray, List.set_cons_zero, List.set_cons_succ]
    refine wpAnyH_take (i := 1) (oi := _) (v := ?v1cu) rfl (by kernel_rfl) (by kernel_rfl) (by kernel_rfl) (fun _ _ _ h => h) (Or.inl ⟨by rfl, ?y1cu⟩) (by assumption) ?r1cu
    case y1cu => (intro w' hSw; (try dsimp only at hSw); go_simp; (try with_reducible rfl))
    try simp only [Act.put, List.getElem_toArray, List.getElem_cons_zero, List.getElem_cons_succ, List.setIfInBounds_toArray, List.set_cons_zero, List.set_cons_succ]
    refine wpAnyH_take (i := 2) (oi := _) (v := ?v2cu) rfl (by kernel_rfl) (by kernel_rfl) (by kernel_rfl) (fun _ _ _ h => h) (Or.inl ⟨by rfl, ?y2cu⟩) (by assumption) ?r2cu
    case y2cu => (intro w' hSw; (try dsimp only at hSw); go_simp; (try with_reducible rfl))
    try simp only [Act.put, List.getElem_toArray, List.getElem_cons_zero, List.getElem_cons_succ, List.setIfInBounds_toArray, List.set_cons_zero, List.set_cons_succ]
    refine wpAnyH_take (i := 3) (oi := _) (v := ?v3cu) rfl (by kernel_rfl) (by kernel_rfl) (by kernel_rfl) (fun _ _ _ h => h) (Or.inl ⟨by rfl, ?y3cu⟩) (by assumption) ?r3cu
    case y3cu => (intro w' hSw; (try dsimp only at hSw); go_simp; (try with_reducible rfl))
    try simp only [Act.put, List.getElem_toArray, List.getElem_cons_zero, List.getElem_cons_succ, List.setIfInBounds_toArray, List.set_cons_zero, List.set_cons_succ]
    refine wpAnyH_take (i := 4) (oi := _) (v := ?v4cu) rfl (by kernel_rfl) (by kernel_rfl) (by kernel_rfl) (fun _ _ _ h => h) (Or.inl ⟨by rfl, ?y4cu⟩) (by assumption) ?r4cu
    case y4cu => (intro w' hSw; (try dsimp only at hSw); go_simp; (try with_reducible rfl))
    try simp only [Act.put, List.getElem_toArray, List.getElem_cons_zero, List.getElem_cons_succ, List.setIfInBounds_toArray, List.set_cons_zero, List.set_cons_succ]
    refine wpAnyH_take (i := 5) (oi := _) (v := ?v5cu) rfl (by kernel_rfl) (by kernel_rfl) (by kernel_rfl) (fun _ _ _ h => h) (Or.inl ⟨by rfl, ?y5cu⟩) (by assumption) ?r5cu
    case y5cu => (intro w' hSw; (try dsimp only at hSw); go_simp; (try with_reducible rfl))
    try simp only [Act.put, List.getElem_toArray, List.getElem_cons_zero, List.getElem_cons_succ, List.setIfInBounds_toArray, List.set_cons_zero, List.set_cons_succ]
    refine wpAnyH_take (i := 7) (oi := _) (v := ?v7cu) rfl (by kernel_rfl) (by kernel_rfl) (by kernel_rfl) (fun _ _ _ h => h) (Or.inl ⟨by rfl, ?y7cu⟩) (by assumption) ?r7cu
    case y7cu => (intro w' hSw; (try dsimp only at hSw); go_simp; (try with_reducible rfl))
    try simp only [Act.put, List.getElem_toArray, List.getElem_cons_zero, List.getElem_cons_succ, List.setIfInBounds_toArray, List.set_cons_zero, List.set_cons_succ]
    refine wpAnyH_take (i := 8) (oi := _) (v := ?v8cu) rfl (by kernel_rfl) (by kernel_rfl) (by kernel_rfl) (fun _ _ _ h => h) (Or.inl ⟨by rfl, ?y8cu⟩) (by assumption) ?r8cu
    case y8cu => (intro w' hSw; (try dsimp only at hSw); go_simp; (try with_reducible rfl))
    try simp only [Act.put, List.getElem_toArray, List.getElem_cons_zero, List.getElem_cons_succ, List.setIfInBounds_toArray, List.set_cons_zero, List.set_cons_succ]
    refine wpAnyH_ready (rs := [6]) (by kernel_rfl) (by simp) ?_
    refine AllReadyH.cons (o := _) rfl (fun K hK => ?_) AllReadyH.nil
    go_simp
    refine Calls.mono (HWI.out _) ?_
    rintro e X ⟨rfl, hEX⟩
    dsimp only
    replace EX := EX.trans hEX
    (try replace OB := hid (OB.out.ext hEX))
    (try replace IS := hid (IS.out.ext hEX))
    clear hHeld hEX
    refine hK.out _ _ (sK EX) (fun hHeld => ?_)
    clear hK K
    try simp only [Act.put, List.getElem_toArray, List.getElem_cons_zero, List.getElem_cons_succ, List.setIfInBounds_toArray, List.set_cons_zero, List.set_cons_succ]
    refine wpAnyH_ready (rs := [9]) (by kernel_rfl) (by simp) ?_
    refine AllReadyH.cons (o := _) rfl (fun K hK => ?_) AllReadyH.nil
    go_simp
    refine Calls.mono (HGP2.out _ (E.trans EX)) ?_
    rintro e X ⟨rfl, hEX⟩
    dsimp only
    replace EX := EX.trans hEX
    (try replace OB := hid (OB.out.ext hEX))
    (try replace IS := hid (IS.out.ext hEX))
    clear hHeld hEX
    refine hK.out _ _ (sK EX) (fun hHeld => ?_)
    clear hK K
    try simp only [Act.put, List.getElem_toArray, List.getElem_cons_zero, List.getElem_cons_succ, List.setIfInBounds_toArray, List.set_cons_zero, List.set_cons_succ]
    refine wpAnyH_take (i := 10) (oi := _) (v := ?v10du) rfl (by kernel_rfl) (by kernel_rfl) (by kernel_rfl) (fun _ _ _ h => h) (Or.inl ⟨by rfl, ?y10du⟩) (by assumption) ?r10du
    case y10du => (intro w' hSw; (try dsimp only at hSw); go_simp; (try with_reducible rfl))
    try simp only [Act.put, List.getElem_toArray, List.getElem_cons_zero, List.getElem_cons_succ, List.setIfInBounds_toArray, List.set_cons_zero, List.set_cons_succ]
    refine wpAnyH_take (i := 11) (oi := _) (v := ?v11du) rfl (by kernel_rfl) (by kernel_rfl) (by kernel_rfl) (fun _ _ _ h => h) (Or.inl ⟨by rfl, ?y11du⟩) (by assumption) ?r11du
    case y11du => (intro w' hSw; (try dsimp only at hSw); go_simp; (try with_reducible rfl))
    try simp only [Act.put, List.getElem_toArray, List.getElem_cons_zero, List.getElem_cons_succ, List.setIfInBounds_toArray, List.set_cons_zero, List.set_cons_succ]
    refine wpAnyH_take (i := 12) (oi := _) (v := ?v12du) rfl (by kernel_rfl) (by kernel_rfl) (by kernel_rfl) (fun _ _ _ h => h) (Or.inl ⟨by rfl, ?y12du⟩) (by assumption) ?r12du
    case y12du => (intro w' hSw; (try dsimp only at hSw); go_simp; (try with_reducible rfl))
    try simp only [Act.put, List.getElem_toArray, List.getElem_cons_zero, List.getElem_cons_succ, List.setIfInBounds_toArray, List.set_cons_zero, List.set_cons_succ]
    refine wpAnyH_take (i := 13) (oi := _) (v := ?v13du) rfl (by kernel_rfl) (by kernel_rfl) (by kernel_rfl) (fun _ _ _ h => h) (Or.inl ⟨by rfl, ?y13du⟩) (by assumption) ?r13du
    case y13du => (intro w' hSw; (try dsimp only at hSw); go_simp; (try with_reducible rfl))
    try simp only [Act.put, List.getElem_toArray, List.getElem_cons_zero, List.getElem_cons_succ, List.setIfInBounds_toArray, List.set_cons_zero, List.set_cons_succ]
    refine wpAnyH_take (i := 14) (oi := _) (v := ?v14du) rfl (by kernel_rfl) (by kernel_rfl) (by kernel_rfl) (fun _ _ _ h => h) (Or.inl ⟨by rfl, ?y14du⟩) (by assumption) ?r14du
    case y14du => (intro w' hSw; (try dsimp only at hSw); go_simp; (try with_reducible rfl))
    try simp only [Act.put, List.getElem_toArray, List.getElem_cons_zero, List.getElem_cons_succ, List.setIfInBounds_toArray, List.set_cons_zero, List.set_cons_succ]
    refine wpAnyH_done (by kernel_rfl) ?_ _
    have hE := EX
    clear hHeld EX HWI HGP2
    (try replace HIA := hid (HIA.out.ext hE))
    (try replace HIB := hid (HIB.out.ext hE))
    (try replace HO5 := hid (HO5.out.ext hE))
    (try replace HO7 := hid (HO7.out.ext hE))
    (try replace HO9 := hid (HO9.out.ext hE))
    (try replace HSG := hid (HSG.out.ext hE))
    replace E := E.trans hE
    replace HB0 := hid (HB0.out.ext hE)
    replace HB1 := hid (HB1.out.ext hE)
    replace HB2 := hid (HB2.out.ext hE)
    clear hE
    (try clear a0 r0 r1 r2 r3 r4 r5 r6 y0 y1 y2 y3 y4 y5 y6 y7 z0 z1 z2)
    have a0 := HB0.out.cell 0
    obtain ⟨r0, r1, r2, r3, r4, r5, r6⟩ : _ ∧ _ ∧ _ ∧ _ ∧ _ ∧ _ ∧ _ := ⟨HB1.out.cell 0, HB1.out.cell 1, HB1.out.cell 2, HB1.out.cell 3, HB1.out.cell 4, HB1.out.cell 5, HB1.out.cell 6⟩
    obtain ⟨y0, y1, y2, y3, y4, y5, y6, y7⟩ : _ ∧ _ ∧ _ ∧ _ ∧ _ ∧ _ ∧ _ ∧ _ := ⟨HB2.out.cell 0, HB2.out.cell 1, HB2.out.cell 2, HB2.out.cell 3, HB2.out.cell 4, HB2.out.cell 5, HB2.out.cell 6, HB2.out.cell 7⟩
    have z0 := HB0.out.lt
    have z1 := HB1.out.lt
    have z2 := HB2.out.lt
    simp only [List.getElem?_toArray, List.getElem?_cons_zero, List.getElem?_cons_succ] at a0 r0 r1 r2 r3 r4 r5 r6 y0 y1 y2 y3 y4 y5 y6 y7
    obtain ⟨w8, rfl⟩ : ∃ w8, w8 = X := ⟨_, rfl⟩
    go_wp2_with fail
    refine (HWB.out A5 c5 A7 c7 _ HO5.out HO7.out).mono ?_
    rintro e w9 ⟨rfl, rfl⟩
    clear HWB
    go_wp2_with fail
    have HE09 := hid E
    refine region_restA (fun QQ a => ∀ (X : World) (A2 : Option Addr) (c2 : Nat) (u1 u2 u3 : Value), Ext w9 X → Hid (SgsAt X A2 sn2) → QQ .normal (((((((((a.put (some 182) u1).put (some 183) (.pointer (some ⟨w.heap.size + 1, 0, none⟩))).put (some 184) (.slice SA m sc)).put (some 185) u2).put (some 186) (.pointer (some ⟨w.heap.size + 1 + 1, 0, none⟩))).put (some 187) (.agg #[.int .i64 yh, .int .i64 ys, .int .i64 yr, .int .i64 yt])).put (some 188) u3).put (some 189) (.slice A2 (m + 1) c2)).put (some 20) (.slice A2 (m + 1) c2)) X) ?rst (fun REST => ?_)
    case rst =>
      intro X A2 c2 u1 u2 u3 hE HSG
      simp only [Act.put, List.getElem_toArray, List.getElem_cons_zero, List.getElem_cons_succ, List.setIfInBounds_toArray, List.set_cons_zero, List.set_cons_succ]
      (try replace HIA := hid (HIA.out.ext hE))
      (try replace HIB := hid (HIB.out.ext hE))
      (try replace HO5 := hid (HO5.out.ext hE))
      (try replace HO7 := hid (HO7.out.ext hE))
      (try replace HO9 := hid (HO9.out.ext hE))
      (try replace HSG := hid (HSG.out.ext hE))
      replace E := E.trans hE
      replace HB0 := hid (HB0.out.ext hE)
      replace HB1 := hid (HB1.out.ext hE)
      replace HB2 := hid (HB2.out.ext hE)
      clear hE
      (try clear a0 r0 r1 r2 r3 r4 r5 r6 y0 y1 y2 y3 y4 y5 y6 y7 z0 z1 z2)
      have a0 := HB0.out.cell 0
      obtain ⟨r0, r1, r2, r3, r4, r5, r6⟩ : _ ∧ _ ∧ _ ∧ _ ∧ _ ∧ _ ∧ _ := ⟨HB1.out.cell 0, HB1.out.cell 1, HB1.out.cell 2, HB1.out.cell 3, HB1.out.cell 4, HB1.out.cell 5, HB1.out.cell 6⟩
      obtain ⟨y0, y1, y2, y3, y4, y5, y6, y7⟩ : _ ∧ _ ∧ _ ∧ _ ∧ _ ∧ _ ∧ _ ∧ _ := ⟨HB2.out.cell 0, HB2.out.cell 1, HB2.out.cell 2, HB2.out.cell 3, HB2.out.cell 4, HB2.out.cell 5, HB2.out.cell 6, HB2.out.cell 7⟩
      have z0 := HB0.out.lt
      have z1 := HB1.out.lt
      have z2 := HB2.out.lt
      simp only [List.getElem?_toArray, List.getElem?_cons_zero, List.getElem?_cons_succ] at a0 r0 r1 r2 r3 r4 r5 r6 y0 y1 y2 y3 y4 y5 y6 y7
      go_wp2_with fail
      refine (HSE2.out A2 c2 _ E HSG.out).mono ?_
      rintro e w10 ⟨rfl, hE⟩
      (try replace HIA := hid (HIA.out.ext hE))
      (try replace HIB := hid (HIB.out.ext hE))
      (try replace HO5 := hid (HO5.out.ext hE))
      (try replace HO7 := hid (HO7.out.ext hE))
      (try replace HO9 := hid (HO9.out.ext hE))
      (try replace HSG := hid (HSG.out.ext hE))
      replace E := E.trans hE
      replace HB0 := hid (HB0.out.ext hE)
      replace HB1 := hid (HB1.out.ext hE)
      replace HB2 := hid (HB2.out.ext hE)
      clear hE
      (try clear a0 r0 r1 r2 r3 r4 r5 r6 y0 y1 y2 y3 y4 y5 y6 y7 z0 z1 z2)
      have a0 := HB0.out.cell 0
      obtain ⟨r0, r1, r2, r3, r4, r5, r6⟩ : _ ∧ _ ∧ _ ∧ _ ∧ _ ∧ _ ∧ _ := ⟨HB1.out.cell 0, HB1.out.cell 1, HB1.out.cell 2, HB1.out.cell 3, HB1.out.cell 4, HB1.out.cell 5, HB1.out.cell 6⟩
      obtain ⟨y0, y1, y2, y3, y4, y5, y6, y7⟩ : _ ∧ _ ∧ _ ∧ _ ∧ _ ∧ _ ∧ _ ∧ _ := ⟨HB2.out.cell 0, HB2.out.cell 1, HB2.out.cell 2, HB2.out.cell 3, HB2.out.cell 4, HB2.out.cell 5, HB2.out.cell 6, HB2.out.cell 7⟩
      have z0 := HB0.out.lt
      have z1 := HB1.out.lt
      have z2 := HB2.out.lt
      simp only [List.getElem?_toArray, List.getElem?_cons_zero, List.getElem?_cons_succ] at a0 r0 r1 r2 r3 r4 r5 r6 y0 y1 y2 y3 y4 y5 y6 y7
      by_cases hse2 : se2 = 0
      case neg =>
        have hsb : (se2 != 0) = true := by simp [hse2]
        clear HPO2 HKE3 HGP3 HMS2 HK3E HW3E HSE2 HWB2 hse2
        go_wp2_with fail
        refine (HWK.out _ (by (repeat' (first | with_reducible assumption | with_reducible exact Ext.refl _ | with_reducible refine Ext.alloc ?_ _ | with_reducible refine Ext.set ?_ ?_ _ | with_reducible refine Ext.drew ?_ | with_reducible refine Ext.drewN ?_ _ | with_reducible refine Ext.trans ?_ (by assumption) | (dsimp only; omega))))).mono ?_
        rintro e w9 ⟨rfl, hE9⟩
        have EZ : Ext w w9 := by (repeat' (first | with_reducible assumption | with_reducible exact Ext.refl _ | with_reducible refine Ext.alloc ?_ _ | with_reducible refine Ext.set ?_ ?_ _ | with_reducible refine Ext.drew ?_ | with_reducible refine Ext.drewN ?_ _ | with_reducible refine Ext.trans ?_ (by assumption) | (dsimp only; omega)))
        go_wp2
        go_ret
        exact ⟨rfl, EZ⟩
      have ke := HK3E.out hse2
      have we := HW3E.out hse2
      have HPO3 := hid (HPO2.out hse2)
      have HMS3 := hid (HMS2.out hse2)
      subst hse2 ke we
      clear HPO2 HMS2 HK3E HW3E HSE2
      go_wp2_with fail
      refine (HPO3.out A2 c2 _ E HSG.out).mono ?_
      rintro e w11 ⟨A9, c9, rfl, hib, hE⟩
      (try replace HIA := hid (HIA.out.ext hE))
      (try replace HIB := hid (HIB.out.ext hE))
      (try replace HO5 := hid (HO5.out.ext hE))
      (try replace HO7 := hid (HO7.out.ext hE))
      (try replace HO9 := hid (HO9.out.ext hE))
      (try replace HSG := hid (HSG.out.ext hE))
      replace E := E.trans hE
      replace HB0 := hid (HB0.out.ext hE)
      replace HB1 := hid (HB1.out.ext hE)
      replace HB2 := hid (HB2.out.ext hE)
      clear hE
      (try clear a0 r0 r1 r2 r3 r4 r5 r6 y0 y1 y2 y3 y4 y5 y6 y7 z0 z1 z2)
      have a0 := HB0.out.cell 0
      obtain ⟨r0, r1, r2, r3, r4, r5, r6⟩ : _ ∧ _ ∧ _ ∧ _ ∧ _ ∧ _ ∧ _ := ⟨HB1.out.cell 0, HB1.out.cell 1, HB1.out.cell 2, HB1.out.cell 3, HB1.out.cell 4, HB1.out.cell 5, HB1.out.cell 6⟩
      obtain ⟨y0, y1, y2, y3, y4, y5, y6, y7⟩ : _ ∧ _ ∧ _ ∧ _ ∧ _ ∧ _ ∧ _ ∧ _ := ⟨HB2.out.cell 0, HB2.out.cell 1, HB2.out.cell 2, HB2.out.cell 3, HB2.out.cell 4, HB2.out.cell 5, HB2.out.cell 6, HB2.out.cell 7⟩
      have z0 := HB0.out.lt
      have z1 := HB1.out.lt
      have z2 := HB2.out.lt
      simp only [List.getElem?_toArray, List.getElem?_cons_zero, List.getElem?_cons_succ] at a0 r0 r1 r2 r3 r4 r5 r6 y0 y1 y2 y3 y4 y5 y6 y7
      have HIB := hid hib
      clear hib HPO3
      obtain rfl | rfl := HNE2.out
      case inr =>
        clear HKE3 HGP3 HMS3 HWB2 HNE2
        go_wp2_with fail
        refine (HWK.out _ (by (repeat' (first | with_reducible assumption | with_reducible exact Ext.refl _ | with_reducible refine Ext.alloc ?_ _ | with_reducible refine Ext.set ?_ ?_ _ | with_reducible refine Ext.drew ?_ | with_reducible refine Ext.drewN ?_ _ | with_reducible refine Ext.trans ?_ (by assumption) | (dsimp only; omega))))).mono ?_
        rintro e w9 ⟨rfl, hE9⟩
        have EZ : Ext w w9 := by (repeat' (first | with_reducible assumption | with_reducible exact Ext.refl _ | with_reducible refine Ext.alloc ?_ _ | with_reducible refine Ext.set ?_ ?_ _ | with_reducible refine Ext.drew ?_ | with_reducible refine Ext.drewN ?_ _ | with_reducible refine Ext.trans ?_ (by assumption) | (dsimp only; omega)))
        go_wp2
        go_ret
        exact ⟨rfl, EZ⟩
      obtain ⟨-, hm1, hm2, hm3⟩ := HMS3.out rfl
      rw [hm1] at HWB2
      have hg3 : ¬ gp1 < gp3 := by omega
      have HSUB := hid hm3
      clear HMS3 hm1 hm2 hm3 HNE2
      go_wp2_with fail
      refine (HKE3.out A2 c2 _ E HSG.out).mono ?_
      rintro e w12 ⟨A10, c10, A11, c11, rfl, ho9, ho10, hE⟩
      (try replace HIA := hid (HIA.out.ext hE))
      (try replace HIB := hid (HIB.out.ext hE))
      (try replace HO5 := hid (HO5.out.ext hE))
      (try replace HO7 := hid (HO7.out.ext hE))
      (try replace HO9 := hid (HO9.out.ext hE))
      (try replace HSG := hid (HSG.out.ext hE))
      replace E := E.trans hE
      replace HB0 := hid (HB0.out.ext hE)
      replace HB1 := hid (HB1.out.ext hE)
      replace HB2 := hid (HB2.out.ext hE)
      clear hE
      (try clear a0 r0 r1 r2 r3 r4 r5 r6 y0 y1 y2 y3 y4 y5 y6 y7 z0 z1 z2)
      have a0 := HB0.out.cell 0
      obtain ⟨r0, r1, r2, r3, r4, r5, r6⟩ : _ ∧ _ ∧ _ ∧ _ ∧ _ ∧ _ ∧ _ := ⟨HB1.out.cell 0, HB1.out.cell 1, HB1.out.cell 2, HB1.out.cell 3, HB1.out.cell 4, HB1.out.cell 5, HB1.out.cell 6⟩
      obtain ⟨y0, y1, y2, y3, y4, y5, y6, y7⟩ : _ ∧ _ ∧ _ ∧ _ ∧ _ ∧ _ ∧ _ ∧ _ := ⟨HB2.out.cell 0, HB2.out.cell 1, HB2.out.cell 2, HB2.out.cell 3, HB2.out.cell 4, HB2.out.cell 5, HB2.out.cell 6, HB2.out.cell 7⟩
      have z0 := HB0.out.lt
      have z1 := HB1.out.lt
      have z2 := HB2.out.lt
      simp only [List.getElem?_toArray, List.getElem?_cons_zero, List.getElem?_cons_succ] at a0 r0 r1 r2 r3 r4 r5 r6 y0 y1 y2 y3 y4 y5 y6 y7
      have HO9 := hid ho9
      clear HKE3 ho9 ho10
      go_wp2_with fail
      refine (HGP3.out A2 c2 _ E HSG.out).mono ?_
      rintro e w13 ⟨rfl, hE⟩
      (try replace HIA := hid (HIA.out.ext hE))
      (try replace HIB := hid (HIB.out.ext hE))
      (try replace HO5 := hid (HO5.out.ext hE))
      (try replace HO7 := hid (HO7.out.ext hE))
      (try replace HO9 := hid (HO9.out.ext hE))
      (try replace HSG := hid (HSG.out.ext hE))
      replace E := E.trans hE
      replace HB0 := hid (HB0.out.ext hE)
      replace HB1 := hid (HB1.out.ext hE)
      replace HB2 := hid (HB2.out.ext hE)
      clear hE
      (try clear a0 r0 r1 r2 r3 r4 r5 r6 y0 y1 y2 y3 y4 y5 y6 y7 z0 z1 z2)
      have a0 := HB0.out.cell 0
      obtain ⟨r0, r1, r2, r3, r4, r5, r6⟩ : _ ∧ _ ∧ _ ∧ _ ∧ _ ∧ _ ∧ _ := ⟨HB1.out.cell 0, HB1.out.cell 1, HB1.out.cell 2, HB1.out.cell 3, HB1.out.cell 4, HB1.out.cell 5, HB1.out.cell 6⟩
      obtain ⟨y0, y1, y2, y3, y4, y5, y6, y7⟩ : _ ∧ _ ∧ _ ∧ _ ∧ _ ∧ _ ∧ _ ∧ _ := ⟨HB2.out.cell 0, HB2.out.cell 1, HB2.out.cell 2, HB2.out.cell 3, HB2.out.cell 4, HB2.out.cell 5, HB2.out.cell 6, HB2.out.cell 7⟩
      have z0 := HB0.out.lt
      have z1 := HB1.out.lt
      have z2 := HB2.out.lt
      simp only [List.getElem?_toArray, List.getElem?_cons_zero, List.getElem?_cons_succ] at a0 r0 r1 r2 r3 r4 r5 r6 y0 y1 y2 y3 y4 y5 y6 y7
      clear HGP3
      go_wp2_with fail
      refine (HWB2.out A5 c5 A10 c10 _ HO5.out HO9.out).mono ?_
      rintro e w14 ⟨rfl, rfl⟩
      clear HWB2 HO5 HO7 HO9 HSG HB0 HB1 HB2 a0 r0 r1 r2 r3 r4 r5 r6 y0 y1 y2 y3 y4 y5 y6 y7 z0 z1 z2
      have HNPA := hid (show ∃ na, PA.length = na from ⟨_, rfl⟩)
      have HNPB := hid (show ∃ nb, PB.length = nb from ⟨_, rfl⟩)
      obtain ⟨na, hna⟩ := HNPA.out
      obtain ⟨nb, hnb⟩ := HNPB.out
      rw [hna] at hNA ⊢
      rw [hnb] at hNB ⊢
      have HLA := hid hna
      have HLB := hid hnb
      clear hna hnb HNPA HNPB
      go_wp2
      go_loopw [28] (fun i wr => Ext w wr ∧ Hid (IntsAt wr A1 PA) ∧ Hid (IntsAt wr A9 PB) ∧ ∃ k : Nat, k ≤ nb ∧ i = .int .i64 k) (fun i _ => nb - (intOf i).toNat)
      case atStart => exact ⟨E, HIA, HIB, 0, Nat.zero_le _, rfl⟩
      case round =>
        clear E HIA HIB
        obtain ⟨E, HIA, HIB, k, hk, rfl⟩ := hrel
        by_cases hlt : k < nb
        · have hmem := HSUB.out _ (mem_at PB 0 k (by rw [HLB.out]; exact hlt))
          have HCB := hid (fun (W : World) (hW : Ext wr W) => (HIB.out.ext hW).at1 HLB.out hlt)
          generalize hxb : PB.getD k 0 = xb at *
          clear hxb
          have HS1 := hid (fun j hj => any_take_snoc' PA (fun v => decide (v = xb)) 0 j hj)
          have HANY := hid (show PA.any (fun v => decide (v = xb)) = true from List.any_eq_true.2 ⟨xb, hmem, by simp⟩)
          generalize hFJ : (fun j => (PA.take j).any (fun v => decide (v = xb))) = FJ
          have hfj : ∀ j, (PA.take j).any (fun v => decide (v = xb)) = FJ j := fun j => by rw [← hFJ]
          have HF0 := hid (show FJ 0 = false by rw [← hFJ]; rfl)
          have HFE := hid (show FJ na = true by rw [← hFJ]; dsimp only; rw [List.take_of_length_le (by rw [HLA.out]; exact Nat.le_refl _)]; exact HANY.out)
          simp only [hfj] at HS1
          clear hFJ hfj HANY hmem
          go_wp2
          go_loopw [29, 30] (fun fo i wx => Ext wr wx ∧ ∃ j : Nat, j ≤ na ∧ i = .int .i64 j ∧ fo = .bool (FJ j)) (fun _ i _ => na - (intOf i).toNat)
          case atStart => exact ⟨Ext.refl _, 0, Nat.zero_le _, rfl, by rw [HF0.out]⟩
          case round =>
            obtain ⟨hE2, j, hj, rfl, rfl⟩ := hrel
            by_cases hlt2 : j < na
            · obtain ⟨ab, aoff, rfl, hab, e0⟩ := HIA.out.at1 HLA.out hlt2
              obtain ⟨bb, boff, rfl, hbb, e1⟩ := HCB.out _ hE2
              have HSJ := hid (HS1.out j (by rw [HLA.out]; exact hlt2))
              generalize PA.getD j 0 = xa at *
              generalize FJ j = FB at *
              replace e0 := (hE2.cell (p := ⟨ab, _, none⟩) hab).trans e0
              have qab := Nat.lt_of_lt_of_le hab hE2.size
              clear HS1 HCB HFE HF0 HIA HIB HSUB
              cases FB
              · by_cases hx : xa = xb
                · have hxx : (xa == xb) = true := by simp [hx]
                  have HN2 := hid (HSJ.out.trans (by rw [decide_eq_true hx] <;> rfl))
                  clear HSJ hx
                  go_wp2_with fail
                  refine wp_region_held_drew (S := fun w' => (∀ b o, b < wr.heap.size → w'.cell? ⟨b, o, none⟩ = wr.cell? ⟨b, o, none⟩) ∧ wr.heap.size ≤ w'.heap.size ∧ Ext wr w') (by kernel_rfl) ?hS0 (fun hHeld => ?_)
                  case hS0 => exact sK (Ext.drew (Ext.refl _))
                  have X0 : Ext wr wr.drew := Ext.drew (Ext.refl wr)
                  have EX := X0
                  obtain ⟨X, hX⟩ : ∃ X, wr.drew = X := ⟨_, rfl⟩
                  rw [hX] at EX hHeld ⊢
                  clear hX X0
                  refine wpAnyH_take (i := 0) (oi := _) (v := ?v0la) rfl (by kernel_rfl) (by kernel_rfl) (by kernel_rfl) (fun _ _ _ h => h) (Or.inl ⟨by rfl, ?y0la⟩) (by assumption) ?r0la
                  case y0la => (intro w' hSw; (try dsimp only at hSw); go_simp; (try with_reducible rfl))
                  try simp only [Act.put, List.getElem_toArray, List.getElem_cons_zero, List.getElem_cons_succ, List.setIfInBounds_toArray, List.set_cons_zero, List.set_cons_succ]
                  refine wpAnyH_take (i := 1) (oi := _) (v := ?v1la) rfl (by kernel_rfl) (by kernel_rfl) (by kernel_rfl) (fun _ _ _ h => h) (Or.inl ⟨by rfl, ?y1la⟩) (by assumption) ?r1la
                  case y1la => (intro w' hSw; (try dsimp only at hSw); go_simp; (try with_reducible rfl))
                  try simp only [Act.put, List.getElem_toArray, List.getElem_cons_zero, List.getElem_cons_succ, List.setIfInBounds_toArray, List.set_cons_zero, List.set_cons_succ]
                  refine wpAnyH_take (i := 2) (oi := _) (v := ?v2la) rfl (by kernel_rfl) (by kernel_rfl) (by kernel_rfl) (fun _ _ _ h => h) (Or.inl ⟨by rfl, ?y2la⟩) (by assumption) ?r2la
                  case y2la => (intro w' hSw; (try dsimp only at hSw); go_simp; (try with_reducible rfl))
                  try simp only [Act.put, List.getElem_toArray, List.getElem_cons_zero, List.getElem_cons_succ, List.setIfInBounds_toArray, List.set_cons_zero, List.set_cons_succ]
                  refine wpAnyH_take (i := 3) (oi := _) (v := ?v3la) rfl (by kernel_rfl) (by kernel_rfl) (by kernel_rfl) (fun _ _ _ h => h) (Or.inl ⟨by rfl, ?y3la⟩) (by assumption) ?r3la
                  case y3la => (intro w' hSw; (try dsimp only at hSw); go_simp; (try with_reducible rfl))
                  try simp only [Act.put, List.getElem_toArray, List.getElem_cons_zero, List.getElem_cons_succ, List.setIfInBounds_toArray, List.set_cons_zero, List.set_cons_succ]
                  refine wpAnyH_take (i := 4) (oi := _) (v := ?v4la) rfl (by kernel_rfl) (by kernel_rfl) (by kernel_rfl) (fun _ _ _ h => h) (Or.inl ⟨by rfl, ?y4la⟩) (by assumption) ?r4la
                  case y4la => (intro w' hSw; (try dsimp only at hSw); go_simp; (try with_reducible rfl))
                  try simp only [Act.put, List.getElem_toArray, List.getElem_cons_zero, List.getElem_cons_succ, List.setIfInBounds_toArray, List.set_cons_zero, List.set_cons_succ]
                  refine wpAnyH_take (i := 5) (oi := _) (v := ?v5la) rfl (by kernel_rfl) (by kernel_rfl) (by kernel_rfl) (fun _ _ _ h => h) (Or.inl ⟨by rfl, ?y5la⟩) (by assumption) ?r5la
                  case y5la => (intro w' hSw; (try dsimp only at hSw); go_simp; (try with_reducible rfl))
                  try simp only [Act.put, List.getElem_toArray, List.getElem_cons_zero, List.getElem_cons_succ, List.setIfInBounds_toArray, List.set_cons_zero, List.set_cons_succ]
                  refine wpAnyH_take (i := 6) (oi := _) (v := ?v6la) rfl (by kernel_rfl) (by kernel_rfl) (by kernel_rfl) (fun _ _ _ h => h) (Or.inl ⟨by rfl, ?y6la⟩) (by assumption) ?r6la
                  case y6la => (intro w' hSw; (try dsimp only at hSw); go_simp; (try with_reducible rfl))
                  try simp only [Act.put, List.getElem_toArray, List.getElem_cons_zero, List.getElem_cons_succ, List.setIfInBounds_toArray, List.set_cons_zero, List.set_cons_succ]
                  refine wpAnyH_take (i := 7) (oi := _) (v := ?v7la) rfl (by kernel_rfl) (by kernel_rfl) (by kernel_rfl) (fun _ _ _ h => h) (Or.inl ⟨by rfl, ?y7la⟩) (by assumption) ?r7la
                  case y7la => (intro w' hSw; (try dsimp only at hSw); go_simp; (try with_reducible rfl))
                  try simp only [Act.put, List.getElem_toArray, List.getElem_cons_zero, List.getElem_cons_succ, List.setIfInBounds_toArray, List.set_cons_zero, List.set_cons_succ]
                  refine wpAnyH_take (i := 8) (oi := _) (v := ?v8la) rfl (by kernel_rfl) (by kernel_rfl) (by kernel_rfl) (fun _ _ _ h => h) (Or.inl ⟨by rfl, ?y8la⟩) (by assumption) ?r8la
                  case y8la => (intro w' hSw; (try dsimp only at hSw); go_simp; (try with_reducible rfl))
                  try simp only [Act.put, List.getElem_toArray, List.getElem_cons_zero, List.getElem_cons_succ, List.setIfInBounds_toArray, List.set_cons_zero, List.set_cons_succ]
                  refine wpAnyH_take (i := 9) (oi := _) (v := ?v9la) rfl (by kernel_rfl) (by kernel_rfl) (by kernel_rfl) (fun _ _ _ h => h) (Or.inl ⟨by rfl, ?y9la⟩) (by assumption) ?r9la
                  case y9la => (intro w' hSw; (try dsimp only at hSw); go_simp; (try with_reducible rfl))
                  try simp only [Act.put, List.getElem_toArray, List.getElem_cons_zero, List.getElem_cons_succ, List.setIfInBounds_toArray, List.set_cons_zero, List.set_cons_succ]
                  refine wpAnyH_take (i := 10) (oi := _) (v := ?v10la) rfl (by kernel_rfl) (by kernel_rfl) (by kernel_rfl) (fun _ _ _ h => h) (Or.inl ⟨by rfl, ?y10la⟩) (by assumption) ?r10la
                  case y10la => (intro w' hSw; (try dsimp only at hSw); go_simp; (try with_reducible rfl))
                  try simp only [Act.put, List.getElem_toArray, List.getElem_cons_zero, List.getElem_cons_succ, List.setIfInBounds_toArray, List.set_cons_zero, List.set_cons_succ]
                  refine wpAnyH_take (i := 11) (oi := _) (v := ?v11la) rfl (by kernel_rfl) (by kernel_rfl) (by kernel_rfl) (fun _ _ _ h => h) (Or.inl ⟨by rfl, ?y11la⟩) (by assumption) ?r11la
                  case y11la => (intro w' hSw; (try dsimp only at hSw); go_simp; (try with_reducible rfl))
                  try simp only [Act.put, List.getElem_toArray, List.getElem_cons_zero, List.getElem_cons_succ, List.setIfInBounds_toArray, List.set_cons_zero, List.set_cons_succ]
                  refine wpAnyH_take (i := 12) (oi := _) (v := ?v12la) rfl (by kernel_rfl) (by kernel_rfl) (by kernel_rfl) (fun _ _ _ h => h) (Or.inl ⟨by rfl, ?y12la⟩) (by assumption) ?r12la
                  case y12la => (intro w' hSw; (try dsimp only at hSw); go_simp; (try with_reducible rfl))
                  try simp only [Act.put, List.getElem_toArray, List.getElem_cons_zero, List.getElem_cons_succ, List.setIfInBounds_toArray, List.set_cons_zero, List.set_cons_succ]
                  refine wpAnyH_done (by kernel_rfl) ?_ _
                  clear hHeld
                  have HEE := hid (hE2.trans EX)
                  go_wp2
                  go_roundw
                  case rel => exact ⟨HEE.out, j + 1, by omega, by go_num, by rw [HN2.out]; first | rfl | (simp [hxx]; done)⟩
                  case measure => simp [intOf]; omega
                · have hxx : (xa == xb) = false := by simp [hx]
                  have HN2 := hid (HSJ.out.trans (by rw [decide_eq_false hx] <;> rfl))
                  clear HSJ hx
                  go_wp2_with fail
                  refine wp_region_held_drew (S := fun w' => (∀ b o, b < wr.heap.size → w'.cell? ⟨b, o, none⟩ = wr.cell? ⟨b, o, none⟩) ∧ wr.heap.size ≤ w'.heap.size ∧ Ext wr w') (by kernel_rfl) ?hS0 (fun hHeld => ?_)
                  case hS0 => exact sK (Ext.drew (Ext.refl _))
                  have X0 : Ext wr wr.drew := Ext.drew (Ext.refl wr)
                  have EX := X0
                  obtain ⟨X, hX⟩ : ∃ X, wr.drew = X := ⟨_, rfl⟩
                  rw [hX] at EX hHeld ⊢
                  clear hX X0
                  refine wpAnyH_take (i := 0) (oi := _) (v := ?v0lb) rfl (by kernel_rfl) (by kernel_rfl) (by kernel_rfl) (fun _ _ _ h => h) (Or.inl ⟨by rfl, ?y0lb⟩) (by assumption) ?r0lb
                  case y0lb => (intro w' hSw; (try dsimp only at hSw); go_simp; (try with_reducible rfl))
                  try simp only [Act.put, List.getElem_toArray, List.getElem_cons_zero, List.getElem_cons_succ, List.setIfInBounds_toArray, List.set_cons_zero, List.set_cons_succ]
                  refine wpAnyH_take (i := 1) (oi := _) (v := ?v1lb) rfl (by kernel_rfl) (by kernel_rfl) (by kernel_rfl) (fun _ _ _ h => h) (Or.inl ⟨by rfl, ?y1lb⟩) (by assumption) ?r1lb
                  case y1lb => (intro w' hSw; (try dsimp only at hSw); go_simp; (try with_reducible rfl))
                  try simp only [Act.put, List.getElem_toArray, List.getElem_cons_zero, List.getElem_cons_succ, List.setIfInBounds_toArray, List.set_cons_zero, List.set_cons_succ]
                  refine wpAnyH_take (i := 2) (oi := _) (v := ?v2lb) rfl (by kernel_rfl) (by kernel_rfl) (by kernel_rfl) (fun _ _ _ h => h) (Or.inl ⟨by rfl, ?y2lb⟩) (by assumption) ?r2lb
                  case y2lb => (intro w' hSw; (try dsimp only at hSw); go_simp; (try with_reducible rfl))
                  try simp only [Act.put, List.getElem_toArray, List.getElem_cons_zero, List.getElem_cons_succ, List.setIfInBounds_toArray, List.set_cons_zero, List.set_cons_succ]
                  refine wpAnyH_take (i := 3) (oi := _) (v := ?v3lb) rfl (by kernel_rfl) (by kernel_rfl) (by kernel_rfl) (fun _ _ _ h => h) (Or.inl ⟨by rfl, ?y3lb⟩) (by assumption) ?r3lb
                  case y3lb => (intro w' hSw; (try dsimp only at hSw); go_simp; (try with_reducible rfl))
                  try simp only [Act.put, List.getElem_toArray, List.getElem_cons_zero, List.getElem_cons_succ, List.setIfInBounds_toArray, List.set_cons_zero, List.set_cons_succ]
                  refine wpAnyH_take (i := 4) (oi := _) (v := ?v4lb) rfl (by kernel_rfl) (by kernel_rfl) (by kernel_rfl) (fun _ _ _ h => h) (Or.inl ⟨by rfl, ?y4lb⟩) (by assumption) ?r4lb
                  case y4lb => (intro w' hSw; (try dsimp only at hSw); go_simp; (try with_reducible rfl))
                  try simp only [Act.put, List.getElem_toArray, List.getElem_cons_zero, List.getElem_cons_succ, List.setIfInBounds_toArray, List.set_cons_zero, List.set_cons_succ]
                  refine wpAnyH_take (i := 5) (oi := _) (v := ?v5lb) rfl (by kernel_rfl) (by kernel_rfl) (by kernel_rfl) (fun _ _ _ h => h) (Or.inl ⟨by rfl, ?y5lb⟩) (by assumption) ?r5lb
                  case y5lb => (intro w' hSw; (try dsimp only at hSw); go_simp; (try with_reducible rfl))
                  try simp only [Act.put, List.getElem_toArray, List.getElem_cons_zero, List.getElem_cons_succ, List.setIfInBounds_toArray, List.set_cons_zero, List.set_cons_succ]
                  refine wpAnyH_take (i := 6) (oi := _) (v := ?v6lb) rfl (by kernel_rfl) (by kernel_rfl) (by kernel_rfl) (fun _ _ _ h => h) (Or.inl ⟨by rfl, ?y6lb⟩) (by assumption) ?r6lb
                  case y6lb => (intro w' hSw; (try dsimp only at hSw); go_simp; (try with_reducible rfl))
                  try simp only [Act.put, List.getElem_toArray, List.getElem_cons_zero, List.getElem_cons_succ, List.setIfInBounds_toArray, List.set_cons_zero, List.set_cons_succ]
                  refine wpAnyH_take (i := 7) (oi := _) (v := ?v7lb) rfl (by kernel_rfl) (by kernel_rfl) (by kernel_rfl) (fun _ _ _ h => h) (Or.inl ⟨by rfl, ?y7lb⟩) (by assumption) ?r7lb
                  case y7lb => (intro w' hSw; (try dsimp only at hSw); go_simp; (try with_reducible rfl))
                  try simp only [Act.put, List.getElem_toArray, List.getElem_cons_zero, List.getElem_cons_succ, List.setIfInBounds_toArray, List.set_cons_zero, List.set_cons_succ]
                  refine wpAnyH_take (i := 8) (oi := _) (v := ?v8lb) rfl (by kernel_rfl) (by kernel_rfl) (by kernel_rfl) (fun _ _ _ h => h) (Or.inl ⟨by rfl, ?y8lb⟩) (by assumption) ?r8lb
                  case y8lb => (intro w' hSw; (try dsimp only at hSw); go_simp; (try with_reducible rfl))
                  try simp only [Act.put, List.getElem_toArray, List.getElem_cons_zero, List.getElem_cons_succ, List.setIfInBounds_toArray, List.set_cons_zero, List.set_cons_succ]
                  refine wpAnyH_take (i := 9) (oi := _) (v := ?v9lb) rfl (by kernel_rfl) (by kernel_rfl) (by kernel_rfl) (fun _ _ _ h => h) (Or.inl ⟨by rfl, ?y9lb⟩) (by assumption) ?r9lb
                  case y9lb => (intro w' hSw; (try dsimp only at hSw); go_simp; (try with_reducible rfl))
                  try simp only [Act.put, List.getElem_toArray, List.getElem_cons_zero, List.getElem_cons_succ, List.setIfInBounds_toArray, List.set_cons_zero, List.set_cons_succ]
                  refine wpAnyH_take (i := 10) (oi := _) (v := ?v10lb) rfl (by kernel_rfl) (by kernel_rfl) (by kernel_rfl) (fun _ _ _ h => h) (Or.inl ⟨by rfl, ?y10lb⟩) (by assumption) ?r10lb
                  case y10lb => (intro w' hSw; (try dsimp only at hSw); go_simp; (try with_reducible rfl))
                  try simp only [Act.put, List.getElem_toArray, List.getElem_cons_zero, List.getElem_cons_succ, List.setIfInBounds_toArray, List.set_cons_zero, List.set_cons_succ]
                  refine wpAnyH_take (i := 11) (oi := _) (v := ?v11lb) rfl (by kernel_rfl) (by kernel_rfl) (by kernel_rfl) (fun _ _ _ h => h) (Or.inl ⟨by rfl, ?y11lb⟩) (by assumption) ?r11lb
                  case y11lb => (intro w' hSw; (try dsimp only at hSw); go_simp; (try with_reducible rfl))
                  try simp only [Act.put, List.getElem_toArray, List.getElem_cons_zero, List.getElem_cons_succ, List.setIfInBounds_toArray, List.set_cons_zero, List.set_cons_succ]
                  refine wpAnyH_take (i := 12) (oi := _) (v := ?v12lb) rfl (by kernel_rfl) (by kernel_rfl) (by kernel_rfl) (fun _ _ _ h => h) (Or.inl ⟨by rfl, ?y12lb⟩) (by assumption) ?r12lb
                  case y12lb => (intro w' hSw; (try dsimp only at hSw); go_simp; (try with_reducible rfl))
                  try simp only [Act.put, List.getElem_toArray, List.getElem_cons_zero, List.getElem_cons_succ, List.setIfInBounds_toArray, List.set_cons_zero, List.set_cons_succ]
                  refine wpAnyH_done (by kernel_rfl) ?_ _
                  clear hHeld
                  have HEE := hid (hE2.trans EX)
                  go_wp2
                  go_roundw
                  case rel => exact ⟨HEE.out, j + 1, by omega, by go_num, by rw [HN2.out]; first | rfl | (simp [hxx]; done)⟩
                  case measure => simp [intOf]; omega
              · have HN2 := hid (HSJ.out.trans (by rw [Bool.true_or]))
                clear HSJ
                go_wp2_with fail
                refine wp_region_held_drew (S := fun w' => (∀ b o, b < wr.heap.size → w'.cell? ⟨b, o, none⟩ = wr.cell? ⟨b, o, none⟩) ∧ wr.heap.size ≤ w'.heap.size ∧ Ext wr w') (by kernel_rfl) ?hS0 (fun hHeld => ?_)
                case hS0 => exact sK (Ext.drew (Ext.refl _))
                have X0 : Ext wr wr.drew := Ext.drew (Ext.refl wr)
                have EX := X0
                obtain ⟨X, hX⟩ : ∃ X, wr.drew = X := ⟨_, rfl⟩
                rw [hX] at EX hHeld ⊢
                clear hX X0
                refine wpAnyH_take (i := 0) (oi := _) (v := ?v0lc) rfl (by kernel_rfl) (by kernel_rfl) (by kernel_rfl) (fun _ _ _ h => h) (Or.inl ⟨by rfl, ?y0lc⟩) (by assumption) ?r0lc
                case y0lc => (intro w' hSw; (try dsimp only at hSw); go_simp; (try with_reducible rfl))
                try simp only [Act.put, List.getElem_toArray, List.getElem_cons_zero, List.getElem_cons_succ, List.setIfInBounds_toArray, List.set_cons_zero, List.set_cons_succ]
                refine wpAnyH_take (i := 1) (oi := _) (v := ?v1lc) rfl (by kernel_rfl) (by kernel_rfl) (by kernel_rfl) (fun _ _ _ h => h) (Or.inl ⟨by rfl, ?y1lc⟩) (by assumption) ?r1lc
                case y1lc => (intro w' hSw; (try dsimp only at hSw); go_simp; (try with_reducible rfl))
                try simp only [Act.put, List.getElem_toArray, List.getElem_cons_zero, List.getElem_cons_succ, List.setIfInBounds_toArray, List.set_cons_zero, List.set_cons_succ]
                refine wpAnyH_take (i := 2) (oi := _) (v := undef) rfl (by kernel_rfl) (by kernel_rfl) (by kernel_rfl) (fun _ _ _ h => h) (Or.inr ⟨by rfl, rfl⟩) (by assumption) ?r2ld
                try simp only [Act.put, List.getElem_toArray, List.getElem_cons_zero, List.getElem_cons_succ, List.setIfInBounds_toArray, List.set_cons_zero, List.set_cons_succ]
                refine wpAnyH_take (i := 3) (oi := _) (v := undef) rfl (by kernel_rfl) (by kernel_rfl) (by kernel_rfl) (fun _ _ _ h => h) (Or.inr ⟨by rfl, rfl⟩) (by assumption) ?r3ld
                try simp only [Act.put, List.getElem_toArray, List.getElem_cons_zero, List.getElem_cons_succ, List.setIfInBounds_toArray, List.set_cons_zero, List.set_cons_succ]
                refine wpAnyH_take (i := 4) (oi := _) (v := undef) rfl (by kernel_rfl) (by kernel_rfl) (by kernel_rfl) (fun _ _ _ h => h) (Or.inr ⟨by rfl, rfl⟩) (by assumption) ?r4ld
                try simp only [Act.put, List.getElem_toArray, List.getElem_cons_zero, List.getElem_cons_succ, List.setIfInBounds_toArray, List.set_cons_zero, List.set_cons_succ]
                refine wpAnyH_take (i := 5) (oi := _) (v := undef) rfl (by kernel_rfl) (by kernel_rfl) (by kernel_rfl) (fun _ _ _ h => h) (Or.inr ⟨by rfl, rfl⟩) (by assumption) ?r5ld
                try simp only [Act.put, List.getElem_toArray, List.getElem_cons_zero, List.getElem_cons_succ, List.setIfInBounds_toArray, List.set_cons_zero, List.set_cons_succ]
                refine wpAnyH_take (i := 6) (oi := _) (v := undef) rfl (by kernel_rfl) (by kernel_rfl) (by kernel_rfl) (fun _ _ _ h => h) (Or.inr ⟨by rfl, rfl⟩) (by assumption) ?r6ld
                try simp only [Act.put, List.getElem_toArray, List.getElem_cons_zero, List.getElem_cons_succ, List.setIfInBounds_toArray, List.set_cons_zero, List.set_cons_succ]
                refine wpAnyH_take (i := 7) (oi := _) (v := undef) rfl (by kernel_rfl) (by kernel_rfl) (by kernel_rfl) (fun _ _ _ h => h) (Or.inr ⟨by rfl, rfl⟩) (by assumption) ?r7ld
                try simp only [Act.put, List.getElem_toArray, List.getElem_cons_zero, List.getElem_cons_succ, List.setIfInBounds_toArray, List.set_cons_zero, List.set_cons_succ]
                refine wpAnyH_take (i := 8) (oi := _) (v := undef) rfl (by kernel_rfl) (by kernel_rfl) (by kernel_rfl) (fun _ _ _ h => h) (Or.inr ⟨by rfl, rfl⟩) (by assumption) ?r8ld
                try simp only [Act.put, List.getElem_toArray, List.getElem_cons_zero, List.getElem_cons_succ, List.setIfInBounds_toArray, List.set_cons_zero, List.set_cons_succ]
                refine wpAnyH_take (i := 9) (oi := _) (v := undef) rfl (by kernel_rfl) (by kernel_rfl) (by kernel_rfl) (fun _ _ _ h => h) (Or.inr ⟨by rfl, rfl⟩) (by assumption) ?r9ld
                try simp only [Act.put, List.getElem_toArray, List.getElem_cons_zero, List.getElem_cons_succ, List.setIfInBounds_toArray, List.set_cons_zero, List.set_cons_succ]
                refine wpAnyH_take (i := 10) (oi := _) (v := undef) rfl (by kernel_rfl) (by kernel_rfl) (by kernel_rfl) (fun _ _ _ h => h) (Or.inr ⟨by rfl, rfl⟩) (by assumption) ?r10ld
                try simp only [Act.put, List.getElem_toArray, List.getElem_cons_zero, List.getElem_cons_succ, List.setIfInBounds_toArray, List.set_cons_zero, List.set_cons_succ]
                refine wpAnyH_take (i := 11) (oi := _) (v := ?v11le) rfl (by kernel_rfl) (by kernel_rfl) (by kernel_rfl) (fun _ _ _ h => h) (Or.inl ⟨by rfl, ?y11le⟩) (by assumption) ?r11le
                case y11le => (intro w' hSw; (try dsimp only at hSw); go_simp; (try with_reducible rfl))
                try simp only [Act.put, List.getElem_toArray, List.getElem_cons_zero, List.getElem_cons_succ, List.setIfInBounds_toArray, List.set_cons_zero, List.set_cons_succ]
                refine wpAnyH_take (i := 12) (oi := _) (v := ?v12le) rfl (by kernel_rfl) (by kernel_rfl) (by kernel_rfl) (fun _ _ _ h => h) (Or.inl ⟨by rfl, ?y12le⟩) (by assumption) ?r12le
                case y12le => (intro w' hSw; (try dsimp only at hSw); go_simp; (try with_reducible rfl))
                try simp only [Act.put, List.getElem_toArray, List.getElem_cons_zero, List.getElem_cons_succ, List.setIfInBounds_toArray, List.set_cons_zero, List.set_cons_succ]
                refine wpAnyH_done (by kernel_rfl) ?_ _
                clear hHeld
                have HEE := hid (hE2.trans EX)
                go_wp2
                go_roundw
                case rel => exact ⟨HEE.out, j + 1, by omega, by go_num, by rw [HN2.out]⟩
                case measure => simp [intOf]; omega
            · obtain rfl : j = na := by omega
              rw [HFE.out]
              have HEE := hid (E.trans hE2)
              have HA2 := hid (HIA.out.ext hE2)
              have HB2 := hid (HIB.out.ext hE2)
              clear HS1 HCB HFE HF0 HIA HIB E hE2
              go_wp2
              go_roundw
              case rel => exact ⟨HEE.out, HA2, HB2, k + 1, by omega, by go_num⟩
              case measure => simp [intOf]; omega
        · clear HSUB
          go_wp2_with fail
          refine (HWK.out _ (by (repeat' (first | with_reducible assumption | with_reducible exact Ext.refl _ | with_reducible refine Ext.alloc ?_ _ | with_reducible refine Ext.set ?_ ?_ _ | with_reducible refine Ext.drew ?_ | with_reducible refine Ext.drewN ?_ _ | with_reducible refine Ext.trans ?_ (by assumption) | (dsimp only; omega))))).mono ?_
          rintro e w9 ⟨rfl, hE9⟩
          have EZ : Ext w w9 := by (repeat' (first | with_reducible assumption | with_reducible exact Ext.refl _ | with_reducible refine Ext.alloc ?_ _ | with_reducible refine Ext.set ?_ ?_ _ | with_reducible refine Ext.drew ?_ | with_reducible refine Ext.drewN ?_ _ | with_reducible refine Ext.trans ?_ (by assumption) | (dsimp only; omega)))
          go_wp2
          go_ret
          exact ⟨rfl, EZ⟩
    simp only [Act.put, List.getElem_toArray, List.getElem_cons_zero, List.getElem_cons_succ, List.setIfInBounds_toArray, List.set_cons_zero, List.set_cons_succ] at REST
    refine wp_region_held_drew (S := fun w' => (∀ b o, b < w9.heap.size → w'.cell? ⟨b, o, none⟩ = w9.cell? ⟨b, o, none⟩) ∧ w9.heap.size ≤ w'.heap.size ∧ Ext w9 w') (by kernel_rfl) ?hS0 (fun hHeld => ?_)
    case hS0 => exact sK (Ext.drew (Ext.refl _))
    have X0 : Ext w9 w9.drew := Ext.drew (Ext.refl w9)
    have EX := X0
    obtain ⟨X, hX⟩ : ∃ X, w9.drew = X := ⟨_, rfl⟩
    rw [hX] at EX hHeld ⊢
    clear hX X0
    refine wpAnyH_take (i := 1) (oi := _) (v := ?v1uue) rfl (by kernel_rfl) (by kernel_rfl) (by kernel_rfl) (fun _ _ _ h => h) (Or.inl ⟨by rfl, ?y1uue⟩) (by assumption) ?r1uue
    case y1uue => (intro w' hSw; (try dsimp only at hSw); go_simp; (try with_reducible rfl))
    try simp only [Act.put, List.getElem_toArray, List.getElem_cons_zero, List.getElem_cons_succ, List.setIfInBounds_toArray, List.set_cons_zero, List.set_cons_succ]
    refine wpAnyH_take (i := 2) (oi := _) (v := ?v2uue) rfl (by kernel_rfl) (by kernel_rfl) (by kernel_rfl) (fun _ _ _ h => h) (Or.inl ⟨by rfl, ?y2uue⟩) (by assumption) ?r2uue
    case y2uue => (intro w' hSw; (try dsimp only at hSw); go_simp; (try with_reducible rfl))
    try simp only [Act.put, List.getElem_toArray, List.getElem_cons_zero, List.getElem_cons_succ, List.setIfInBounds_toArray, List.set_cons_zero, List.set_cons_succ]
    refine wpAnyH_take (i := 4) (oi := _) (v := ?v4uue) rfl (by kernel_rfl) (by kernel_rfl) (by kernel_rfl) (fun _ _ _ h => h) (Or.inl ⟨by rfl, ?y4uue⟩) (by assumption) ?r4uue
    case y4uue => (intro w' hSw; (try dsimp only at hSw); go_simp; (try with_reducible rfl))
    try simp only [Act.put, List.getElem_toArray, List.getElem_cons_zero, List.getElem_cons_succ, List.setIfInBounds_toArray, List.set_cons_zero, List.set_cons_succ]
    refine wpAnyH_take (i := 5) (oi := _) (v := ?v5uue) rfl (by kernel_rfl) (by kernel_rfl) (by kernel_rfl) (fun _ _ _ h => h) (Or.inl ⟨by rfl, ?y5uue⟩) (by assumption) ?r5uue
    case y5uue => (intro w' hSw; (try dsimp only at hSw); go_simp; (try with_reducible rfl))
    try simp only [Act.put, List.getElem_toArray, List.getElem_cons_zero, List.getElem_cons_succ, List.setIfInBounds_toArray, List.set_cons_zero, List.set_cons_succ]
    refine wpAnyH_ready (rs := [0, 6]) (by kernel_rfl) (by simp) ?_
    refine AllReadyH.cons (o := _) rfl (fun K hK => ?_) (AllReadyH.cons (o := _) rfl (fun K hK => ?_) AllReadyH.nil)
    · go_simp
      have BZ := hid (show Blk _ _ _ _ from blk_last X (.cells #[] 66))
      have hzX : w9.heap.size ≤ X.heap.size := EX.size
      obtain ⟨z, hz⟩ : ∃ z, X.heap.size = z := ⟨_, rfl⟩
      replace EX := EX.alloc (.cells #[] 66)
      (try replace BY := hid (BY.out.ext (ext_alloc1 X (.cells #[] 66))))
      obtain ⟨X', hX⟩ : ∃ X', X.alloc (.cells #[] 66) = X' := ⟨_, rfl⟩
      (try rw [hX] at BY)
      rw [hX] at EX BZ ⊢
      rw [hz] at BZ hzX ⊢
      obtain ⟨X, rfl⟩ : ∃ Y, Y = X' := ⟨_, rfl⟩
      clear hHeld hX hz
      refine hK.out _ _ (sK EX) (fun hHeld => ?_)
      clear hK K
      try simp only [Act.put, List.getElem_toArray, List.getElem_cons_zero, List.getElem_cons_succ, List.setIfInBounds_toArray, List.set_cons_zero, List.set_cons_succ]
      refine wpAnyH_ready (rs := [3, 6]) (by kernel_rfl) (by simp) ?_
      refine AllReadyH.cons (o := _) rfl (fun K hK => ?_) (AllReadyH.cons (o := _) rfl (fun K hK => ?_) AllReadyH.nil)
      · refine wp_appAllSg _ _ _ rfl w9.heap.size z SA sc seen rfl BZ.out hzX m HSL.out rfl (HSG0.out.ext (HE09.out.trans EX)) (by omega) ?_
        intro v4 X4 hO4 hg4
        have hE4 := EX
        replace EX : Ext w9 X4 := Below.grown EX hg4 EX.size (fun r hr => by injection hr with hr; subst hr; exact hzX)
        have OV := hid hO4
        (try replace BY := hid (show Blk X4 q 66 #[.int .i64 yh, .int .i64 ys, .int .i64 yr, .int .i64 yt] from BY.out.grown hg4 (by intro e; injection e with e; subst e; have h9 := (show X.heap[_]? = _ from BY.out).symm.trans (show X.heap[_]? = _ from BZ.out); simp at h9)))
        clear hHeld hg4 hO4 hE4 BZ
        obtain ⟨X, rfl⟩ : ∃ Y, Y = X4 := ⟨_, rfl⟩
        obtain ⟨A3, c3, rfl, -, -, -⟩ := (OV.out.form (by decide) (fun _ => rfl) zeroSg)
        refine hK.out _ _ (sK EX) (fun hHeld => ?_)
        clear hK K
        try simp only [Act.put, List.getElem_toArray, List.getElem_cons_zero, List.getElem_cons_succ, List.setIfInBounds_toArray, List.set_cons_zero, List.set_cons_succ]
        refine wpAnyH_ready (rs := [6]) (by kernel_rfl) (by simp) ?_
        refine AllReadyH.cons (o := _) rfl (fun K hK => ?_) AllReadyH.nil
        go_simp
        have BY := hid (show Blk _ _ _ _ from blk_last X (.cells #[.int .i64 yh, .int .i64 ys, .int .i64 yr, .int .i64 yt] 66))
        have hyX : w9.heap.size ≤ X.heap.size := EX.size
        obtain ⟨q, hq⟩ : ∃ q, X.heap.size = q := ⟨_, rfl⟩
        replace EX := EX.alloc (.cells #[.int .i64 yh, .int .i64 ys, .int .i64 yr, .int .i64 yt] 66)
        (try replace BZ := hid (BZ.out.ext (ext_alloc1 X (.cells #[.int .i64 yh, .int .i64 ys, .int .i64 yr, .int .i64 yt] 66))))
        (try replace OV := hid (OV.out.ext (ext_alloc1 X (.cells #[.int .i64 yh, .int .i64 ys, .int .i64 yr, .int .i64 yt] 66))))
        obtain ⟨X', hX⟩ : ∃ X', X.alloc (.cells #[.int .i64 yh, .int .i64 ys, .int .i64 yr, .int .i64 yt] 66) = X' := ⟨_, rfl⟩
        (try rw [hX] at BZ)
        (try rw [hX] at OV)
        rw [hX] at EX BY ⊢
        rw [hq] at BY hyX ⊢
        obtain ⟨X, rfl⟩ : ∃ Y, Y = X' := ⟨_, rfl⟩
        clear hHeld hX hq
        refine hK.out _ _ (sK EX) (fun hHeld => ?_)
        clear hK K
        try simp only [Act.put, List.getElem_toArray, List.getElem_cons_zero, List.getElem_cons_succ, List.setIfInBounds_toArray, List.set_cons_zero, List.set_cons_succ]
        refine wpAnyH_ready (rs := [7]) (by kernel_rfl) (by simp) ?_
        refine AllReadyH.cons (o := _) rfl (fun K hK => ?_) AllReadyH.nil
        refine wp_app1Sg _ _ _ rfl w9.heap.size (.slice A3 seen.length c3) seen rfl OV.out q ⟨yh, ys, yr, yt⟩ rfl BY.out (by rw [HSL.out]; omega) EX.size ?_
        intro v5 X5 hO5 hg5
        have hfar := OV.out.block
        replace EX : Ext w9 X5 := Below.grown EX hg5 EX.size (fun r hr => (hfar r hr).1)
        rw [← HSN.out] at hO5
        have hl5 : sn2.length = m + 1 := by rw [HSN.out, List.length_append, HSL.out]; rfl
        obtain ⟨A4, c4, rfl, -, hf4, -⟩ := (hO5.form (by decide) (fun _ => rfl) zeroSg)
        have HSX := hid (flat_sgs.1 hf4)
        rw [hl5]
        clear hHeld hg5 hO5 hf4 hfar OV BY hl5
        refine hK.out _ _ (sK EX) (fun hHeld => ?_)
        clear hK K
        try simp only [Act.put, List.getElem_toArray, List.getElem_cons_zero, List.getElem_cons_succ, List.setIfInBounds_toArray, List.set_cons_zero, List.set_cons_succ]
        refine wpAnyH_take (i := 8) (oi := _) (v := ?v8uuf) rfl (by kernel_rfl) (by kernel_rfl) (by kernel_rfl) (fun _ _ _ h => h) (Or.inl ⟨by rfl, ?y8uuf⟩) (by assumption) ?r8uuf
        case y8uuf => (intro w' hSw; (try dsimp only at hSw); go_simp; (try with_reducible rfl))
        try simp only [Act.put, List.getElem_toArray, List.getElem_cons_zero, List.getElem_cons_succ, List.setIfInBounds_toArray, List.set_cons_zero, List.set_cons_succ]
        refine wpAnyH_done (by kernel_rfl) ?_ _
        exact REST _ _ _ _ _ _ EX HSX
      · go_simp
        have BY := hid (show Blk _ _ _ _ from blk_last X (.cells #[.int .i64 yh, .int .i64 ys, .int .i64 yr, .int .i64 yt] 66))
        have hyX : w9.heap.size ≤ X.heap.size := EX.size
        obtain ⟨q, hq⟩ : ∃ q, X.heap.size = q := ⟨_, rfl⟩
        replace EX := EX.alloc (.cells #[.int .i64 yh, .int .i64 ys, .int .i64 yr, .int .i64 yt] 66)
        (try replace BZ := hid (BZ.out.ext (ext_alloc1 X (.cells #[.int .i64 yh, .int .i64 ys, .int .i64 yr, .int .i64 yt] 66))))
        (try replace OV := hid (OV.out.ext (ext_alloc1 X (.cells #[.int .i64 yh, .int .i64 ys, .int .i64 yr, .int .i64 yt] 66))))
        obtain ⟨X', hX⟩ : ∃ X', X.alloc (.cells #[.int .i64 yh, .int .i64 ys, .int .i64 yr, .int .i64 yt] 66) = X' := ⟨_, rfl⟩
        (try rw [hX] at BZ)
        (try rw [hX] at OV)
        rw [hX] at EX BY ⊢
        rw [hq] at BY hyX ⊢
        obtain ⟨X, rfl⟩ : ∃ Y, Y = X' := ⟨_, rfl⟩
        clear hHeld hX hq
        refine hK.out _ _ (sK EX) (fun hHeld => ?_)
        clear hK K
        try simp only [Act.put, List.getElem_toArray, List.getElem_cons_zero, List.getElem_cons_succ, List.setIfInBounds_toArray, List.set_cons_zero, List.set_cons_succ]
        refine wpAnyH_ready (rs := [3]) (by kernel_rfl) (by simp) ?_
        refine AllReadyH.cons (o := _) rfl (fun K hK => ?_) AllReadyH.nil
        refine wp_appAllSg _ _ _ rfl w9.heap.size z SA sc seen rfl BZ.out hzX m HSL.out rfl (HSG0.out.ext (HE09.out.trans EX)) (by omega) ?_
        intro v4 X4 hO4 hg4
        have hE4 := EX
        replace EX : Ext w9 X4 := Below.grown EX hg4 EX.size (fun r hr => by injection hr with hr; subst hr; exact hzX)
        have OV := hid hO4
        (try replace BY := hid (show Blk X4 q 66 #[.int .i64 yh, .int .i64 ys, .int .i64 yr, .int .i64 yt] from BY.out.grown hg4 (by intro e; injection e with e; subst e; have h9 := (show X.heap[_]? = _ from BY.out).symm.trans (show X.heap[_]? = _ from BZ.out); simp at h9)))
        clear hHeld hg4 hO4 hE4 BZ
        obtain ⟨X, rfl⟩ : ∃ Y, Y = X4 := ⟨_, rfl⟩
        obtain ⟨A3, c3, rfl, -, -, -⟩ := (OV.out.form (by decide) (fun _ => rfl) zeroSg)
        refine hK.out _ _ (sK EX) (fun hHeld => ?_)
        clear hK K
        try simp only [Act.put, List.getElem_toArray, List.getElem_cons_zero, List.getElem_cons_succ, List.setIfInBounds_toArray, List.set_cons_zero, List.set_cons_succ]
        refine wpAnyH_ready (rs := [7]) (by kernel_rfl) (by simp) ?_
        refine AllReadyH.cons (o := _) rfl (fun K hK => ?_) AllReadyH.nil
        refine wp_app1Sg _ _ _ rfl w9.heap.size (.slice A3 seen.length c3) seen rfl OV.out q ⟨yh, ys, yr, yt⟩ rfl BY.out (by rw [HSL.out]; omega) EX.size ?_
        intro v5 X5 hO5 hg5
        have hfar := OV.out.block
        replace EX : Ext w9 X5 := Below.grown EX hg5 EX.size (fun r hr => (hfar r hr).1)
        rw [← HSN.out] at hO5
        have hl5 : sn2.length = m + 1 := by rw [HSN.out, List.length_append, HSL.out]; rfl
        obtain ⟨A4, c4, rfl, -, hf4, -⟩ := (hO5.form (by decide) (fun _ => rfl) zeroSg)
        have HSX := hid (flat_sgs.1 hf4)
        rw [hl5]
        clear hHeld hg5 hO5 hf4 hfar OV BY hl5
        refine hK.out _ _ (sK EX) (fun hHeld => ?_)
        clear hK K
        try simp only [Act.put, List.getElem_toArray, List.getElem_cons_zero, List.getElem_cons_succ, List.setIfInBounds_toArray, List.set_cons_zero, List.set_cons_succ]
        refine wpAnyH_take (i := 8) (oi := _) (v := ?v8uug) rfl (by kernel_rfl) (by kernel_rfl) (by kernel_rfl) (fun _ _ _ h => h) (Or.inl ⟨by rfl, ?y8uug⟩) (by assumption) ?r8uug
        case y8uug => (intro w' hSw; (try dsimp only at hSw); go_simp; (try with_reducible rfl))
        try simp only [Act.put, List.getElem_toArray, List.getElem_cons_zero, List.getElem_cons_succ, List.setIfInBounds_toArray, List.set_cons_zero, List.set_cons_succ]
        refine wpAnyH_done (by kernel_rfl) ?_ _
        exact REST _ _ _ _ _ _ EX HSX
    · go_simp
      have BY := hid (show Blk _ _ _ _ from blk_last X (.cells #[.int .i64 yh, .int .i64 ys, .int .i64 yr, .int .i64 yt] 66))
      have hyX : w9.heap.size ≤ X.heap.size := EX.size
      obtain ⟨q, hq⟩ : ∃ q, X.heap.size = q := ⟨_, rfl⟩
      replace EX := EX.alloc (.cells #[.int .i64 yh, .int .i64 ys, .int .i64 yr, .int .i64 yt] 66)
      (try replace BZ := hid (BZ.out.ext (ext_alloc1 X (.cells #[.int .i64 yh, .int .i64 ys, .int .i64 yr, .int .i64 yt] 66))))
      (try replace OV := hid (OV.out.ext (ext_alloc1 X (.cells #[.int .i64 yh, .int .i64 ys, .int .i64 yr, .int .i64 yt] 66))))
      obtain ⟨X', hX⟩ : ∃ X', X.alloc (.cells #[.int .i64 yh, .int .i64 ys, .int .i64 yr, .int .i64 yt] 66) = X' := ⟨_, rfl⟩
      (try rw [hX] at BZ)
      (try rw [hX] at OV)
      rw [hX] at EX BY ⊢
      rw [hq] at BY hyX ⊢
      obtain ⟨X, rfl⟩ : ∃ Y, Y = X' := ⟨_, rfl⟩
      clear hHeld hX hq
      refine hK.out _ _ (sK EX) (fun hHeld => ?_)
      clear hK K
      try simp only [Act.put, List.getElem_toArray, List.getElem_cons_zero, List.getElem_cons_succ, List.setIfInBounds_toArray, List.set_cons_zero, List.set_cons_succ]
      refine wpAnyH_ready (rs := [0]) (by kernel_rfl) (by simp) ?_
      refine AllReadyH.cons (o := _) rfl (fun K hK => ?_) AllReadyH.nil
      go_simp
      have BZ := hid (show Blk _ _ _ _ from blk_last X (.cells #[] 66))
      have hzX : w9.heap.size ≤ X.heap.size := EX.size
      obtain ⟨z, hz⟩ : ∃ z, X.heap.size = z := ⟨_, rfl⟩
      replace EX := EX.alloc (.cells #[] 66)
      (try replace BY := hid (BY.out.ext (ext_alloc1 X (.cells #[] 66))))
      obtain ⟨X', hX⟩ : ∃ X', X.alloc (.cells #[] 66) = X' := ⟨_, rfl⟩
      (try rw [hX] at BY)
      rw [hX] at EX BZ ⊢
      rw [hz] at BZ hzX ⊢
      obtain ⟨X, rfl⟩ : ∃ Y, Y = X' := ⟨_, rfl⟩
      clear hHeld hX hz
      refine hK.out _ _ (sK EX) (fun hHeld => ?_)
      clear hK K
      try simp only [Act.put, List.getElem_toArray, List.getElem_cons_zero, List.getElem_cons_succ, List.setIfInBounds_toArray, List.set_cons_zero, List.set_cons_succ]
      refine wpAnyH_ready (rs := [3]) (by kernel_rfl) (by simp) ?_
      refine AllReadyH.cons (o := _) rfl (fun K hK => ?_) AllReadyH.nil
      refine wp_appAllSg _ _ _ rfl w9.heap.size z SA sc seen rfl BZ.out hzX m HSL.out rfl (HSG0.out.ext (HE09.out.trans EX)) (by omega) ?_
      intro v4 X4 hO4 hg4
      have hE4 := EX
      replace EX : Ext w9 X4 := Below.grown EX hg4 EX.size (fun r hr => by injection hr with hr; subst hr; exact hzX)
      have OV := hid hO4
      (try replace BY := hid (show Blk X4 q 66 #[.int .i64 yh, .int .i64 ys, .int .i64 yr, .int .i64 yt] from BY.out.grown hg4 (by intro e; injection e with e; subst e; have h9 := (show X.heap[_]? = _ from BY.out).symm.trans (show X.heap[_]? = _ from BZ.out); simp at h9)))
      clear hHeld hg4 hO4 hE4 BZ
      obtain ⟨X, rfl⟩ : ∃ Y, Y = X4 := ⟨_, rfl⟩
      obtain ⟨A3, c3, rfl, -, -, -⟩ := (OV.out.form (by decide) (fun _ => rfl) zeroSg)
      refine hK.out _ _ (sK EX) (fun hHeld => ?_)
      clear hK K
      try simp only [Act.put, List.getElem_toArray, List.getElem_cons_zero, List.getElem_cons_succ, List.setIfInBounds_toArray, List.set_cons_zero, List.set_cons_succ]
      refine wpAnyH_ready (rs := [7]) (by kernel_rfl) (by simp) ?_
      refine AllReadyH.cons (o := _) rfl (fun K hK => ?_) AllReadyH.nil
      refine wp_app1Sg _ _ _ rfl w9.heap.size (.slice A3 seen.length c3) seen rfl OV.out q ⟨yh, ys, yr, yt⟩ rfl BY.out (by rw [HSL.out]; omega) EX.size ?_
      intro v5 X5 hO5 hg5
      have hfar := OV.out.block
      replace EX : Ext w9 X5 := Below.grown EX hg5 EX.size (fun r hr => (hfar r hr).1)
      rw [← HSN.out] at hO5
      have hl5 : sn2.length = m + 1 := by rw [HSN.out, List.length_append, HSL.out]; rfl
      obtain ⟨A4, c4, rfl, -, hf4, -⟩ := (hO5.form (by decide) (fun _ => rfl) zeroSg)
      have HSX := hid (flat_sgs.1 hf4)
      rw [hl5]
      clear hHeld hg5 hO5 hf4 hfar OV BY hl5
      refine hK.out _ _ (sK EX) (fun hHeld => ?_)
      clear hK K
      try simp only [Act.put, List.getElem_toArray, List.getElem_cons_zero, List.getElem_cons_succ, List.setIfInBounds_toArray, List.set_cons_zero, List.set_cons_succ]
      refine wpAnyH_take (i := 8) (oi := _) (v := ?v8uuh) rfl (by kernel_rfl) (by kernel_rfl) (by kernel_rfl) (fun _ _ _ h => h) (Or.inl ⟨by rfl, ?y8uuh⟩) (by assumption) ?r8uuh
      case y8uuh => (intro w' hSw; (try dsimp only at hSw); go_simp; (try with_reducible rfl))
      try simp only [Act.put, List.getElem_toArray, List.getElem_cons_zero, List.getElem_cons_succ, List.setIfInBounds_toArray, List.set_cons_zero, List.set_cons_succ]
      refine wpAnyH_done (by kernel_rfl) ?_ _
      exact REST _ _ _ _ _ _ EX HSX
  · go_enter Tryd.func6, Tryd.ntmps6
    have HB0 := hid (show Blk _ _ _ _ from blk_old (blk_old (blk_last w (.cells #[.slice A n c] 24)) (.cells #[.slice SA m sc, .slice KA kn kc, .int .i64 wi, .int .i64 ra, .int .i64 tl, .int .i64 th, .int .i64 (ln : Int)] 46)) (.cells #[.int .i64 yh, .int .i64 ys, .int .i64 yr, .int .i64 yt, .int .i64 yw, .int .i64 yn, .int .i64 yp, .int .i64 yl] 68))
    have HB1 := hid (show Blk _ _ _ _ from blk_old (blk_last (w.alloc (.cells #[.slice A n c] 24)) (.cells #[.slice SA m sc, .slice KA kn kc, .int .i64 wi, .int .i64 ra, .int .i64 tl, .int .i64 th, .int .i64 (ln : Int)] 46)) (.cells #[.int .i64 yh, .int .i64 ys, .int .i64 yr, .int .i64 yt, .int .i64 yw, .int .i64 yn, .int .i64 yp, .int .i64 yl] 68))
    have HB2 := hid (show Blk _ _ _ _ from blk_last ((w.alloc (.cells #[.slice A n c] 24)).alloc (.cells #[.slice SA m sc, .slice KA kn kc, .int .i64 wi, .int .i64 ra, .int .i64 tl, .int .i64 th, .int .i64 (ln : Int)] 46)) (.cells #[.int .i64 yh, .int .i64 ys, .int .i64 yr, .int .i64 yt, .int .i64 yw, .int .i64 yn, .int .i64 yp, .int .i64 yl] 68))
    rw [World.size_alloc] at HB1
    rw [World.size_alloc, World.size_alloc] at HB2
    have E : Ext w (((w.alloc (.cells #[.slice A n c] 24)).alloc (.cells #[.slice SA m sc, .slice KA kn kc, .int .i64 wi, .int .i64 ra, .int .i64 tl, .int .i64 th, .int .i64 (ln : Int)] 46)).alloc (.cells #[.int .i64 yh, .int .i64 ys, .int .i64 yr, .int .i64 yt, .int .i64 yw, .int .i64 yn, .int .i64 yp, .int .i64 yl] 68)) := by (repeat' (first | with_reducible assumption | with_reducible exact Ext.refl _ | with_reducible refine Ext.alloc ?_ _ | with_reducible refine Ext.set ?_ ?_ _ | with_reducible refine Ext.drew ?_ | with_reducible refine Ext.drewN ?_ _ | with_reducible refine Ext.trans ?_ (by assumption) | (dsimp only; omega)))
    go_wp2_with fail
    refine (HF.out _ E).mono ?_
    rintro e w2 ⟨rfl, hE⟩
    replace E := E.trans hE
    replace HB0 := hid (HB0.out.ext hE)
    replace HB1 := hid (HB1.out.ext hE)
    replace HB2 := hid (HB2.out.ext hE)
    clear hE
    (try clear a0 r0 r1 r2 r3 r4 r5 r6 y0 y1 y2 y3 y4 y5 y6 y7 z0 z1 z2)
    have a0 := HB0.out.cell 0
    obtain ⟨r0, r1, r2, r3, r4, r5, r6⟩ : _ ∧ _ ∧ _ ∧ _ ∧ _ ∧ _ ∧ _ := ⟨HB1.out.cell 0, HB1.out.cell 1, HB1.out.cell 2, HB1.out.cell 3, HB1.out.cell 4, HB1.out.cell 5, HB1.out.cell 6⟩
    obtain ⟨y0, y1, y2, y3, y4, y5, y6, y7⟩ : _ ∧ _ ∧ _ ∧ _ ∧ _ ∧ _ ∧ _ ∧ _ := ⟨HB2.out.cell 0, HB2.out.cell 1, HB2.out.cell 2, HB2.out.cell 3, HB2.out.cell 4, HB2.out.cell 5, HB2.out.cell 6, HB2.out.cell 7⟩
    have z0 := HB0.out.lt
    have z1 := HB1.out.lt
    have z2 := HB2.out.lt
    simp only [List.getElem?_toArray, List.getElem?_cons_zero, List.getElem?_cons_succ] at a0 r0 r1 r2 r3 r4 r5 r6 y0 y1 y2 y3 y4 y5 y6 y7
    go_wp2_with fail
    refine (HSE.out _ E).mono ?_
    rintro e w2 ⟨rfl, hE⟩
    replace E := E.trans hE
    replace HB0 := hid (HB0.out.ext hE)
    replace HB1 := hid (HB1.out.ext hE)
    replace HB2 := hid (HB2.out.ext hE)
    clear hE
    (try clear a0 r0 r1 r2 r3 r4 r5 r6 y0 y1 y2 y3 y4 y5 y6 y7 z0 z1 z2)
    have a0 := HB0.out.cell 0
    obtain ⟨r0, r1, r2, r3, r4, r5, r6⟩ : _ ∧ _ ∧ _ ∧ _ ∧ _ ∧ _ ∧ _ := ⟨HB1.out.cell 0, HB1.out.cell 1, HB1.out.cell 2, HB1.out.cell 3, HB1.out.cell 4, HB1.out.cell 5, HB1.out.cell 6⟩
    obtain ⟨y0, y1, y2, y3, y4, y5, y6, y7⟩ : _ ∧ _ ∧ _ ∧ _ ∧ _ ∧ _ ∧ _ ∧ _ := ⟨HB2.out.cell 0, HB2.out.cell 1, HB2.out.cell 2, HB2.out.cell 3, HB2.out.cell 4, HB2.out.cell 5, HB2.out.cell 6, HB2.out.cell 7⟩
    have z0 := HB0.out.lt
    have z1 := HB1.out.lt
    have z2 := HB2.out.lt
    simp only [List.getElem?_toArray, List.getElem?_cons_zero, List.getElem?_cons_succ] at a0 r0 r1 r2 r3 r4 r5 r6 y0 y1 y2 y3 y4 y5 y6 y7
    go_wp2_with fail
    refine (HLM.out _).mono ?_
    rintro e w2 ⟨rfl, hE⟩
    replace E := E.trans hE
    replace HB0 := hid (HB0.out.ext hE)
    replace HB1 := hid (HB1.out.ext hE)
    replace HB2 := hid (HB2.out.ext hE)
    clear hE
    (try clear a0 r0 r1 r2 r3 r4 r5 r6 y0 y1 y2 y3 y4 y5 y6 y7 z0 z1 z2)
    have a0 := HB0.out.cell 0
    obtain ⟨r0, r1, r2, r3, r4, r5, r6⟩ : _ ∧ _ ∧ _ ∧ _ ∧ _ ∧ _ ∧ _ := ⟨HB1.out.cell 0, HB1.out.cell 1, HB1.out.cell 2, HB1.out.cell 3, HB1.out.cell 4, HB1.out.cell 5, HB1.out.cell 6⟩
    obtain ⟨y0, y1, y2, y3, y4, y5, y6, y7⟩ : _ ∧ _ ∧ _ ∧ _ ∧ _ ∧ _ ∧ _ ∧ _ := ⟨HB2.out.cell 0, HB2.out.cell 1, HB2.out.cell 2, HB2.out.cell 3, HB2.out.cell 4, HB2.out.cell 5, HB2.out.cell 6, HB2.out.cell 7⟩
    have z0 := HB0.out.lt
    have z1 := HB1.out.lt
    have z2 := HB2.out.lt
    simp only [List.getElem?_toArray, List.getElem?_cons_zero, List.getElem?_cons_succ] at a0 r0 r1 r2 r3 r4 r5 r6 y0 y1 y2 y3 y4 y5 y6 y7
    clear HF HSE HLM
    go_wp2_with fail
    refine (HHN.out _ E).mono ?_
    rintro e w2 ⟨rfl, hE⟩
    replace E := E.trans hE
    replace HB0 := hid (HB0.out.ext hE)
    replace HB1 := hid (HB1.out.ext hE)
    replace HB2 := hid (HB2.out.ext hE)
    clear hE
    (try clear a0 r0 r1 r2 r3 r4 r5 r6 y0 y1 y2 y3 y4 y5 y6 y7 z0 z1 z2)
    have a0 := HB0.out.cell 0
    obtain ⟨r0, r1, r2, r3, r4, r5, r6⟩ : _ ∧ _ ∧ _ ∧ _ ∧ _ ∧ _ ∧ _ := ⟨HB1.out.cell 0, HB1.out.cell 1, HB1.out.cell 2, HB1.out.cell 3, HB1.out.cell 4, HB1.out.cell 5, HB1.out.cell 6⟩
    obtain ⟨y0, y1, y2, y3, y4, y5, y6, y7⟩ : _ ∧ _ ∧ _ ∧ _ ∧ _ ∧ _ ∧ _ ∧ _ := ⟨HB2.out.cell 0, HB2.out.cell 1, HB2.out.cell 2, HB2.out.cell 3, HB2.out.cell 4, HB2.out.cell 5, HB2.out.cell 6, HB2.out.cell 7⟩
    have z0 := HB0.out.lt
    have z1 := HB1.out.lt
    have z2 := HB2.out.lt
    simp only [List.getElem?_toArray, List.getElem?_cons_zero, List.getElem?_cons_succ] at a0 r0 r1 r2 r3 r4 r5 r6 y0 y1 y2 y3 y4 y5 y6 y7
    clear HHN
    go_wp2_with fail
    refine (HPO.out _ E).mono ?_
    rintro e w2 ⟨A1, c1, rfl, hia, hE⟩
    replace E := E.trans hE
    replace HB0 := hid (HB0.out.ext hE)
    replace HB1 := hid (HB1.out.ext hE)
    replace HB2 := hid (HB2.out.ext hE)
    clear hE
    (try clear a0 r0 r1 r2 r3 r4 r5 r6 y0 y1 y2 y3 y4 y5 y6 y7 z0 z1 z2)
    have a0 := HB0.out.cell 0
    obtain ⟨r0, r1, r2, r3, r4, r5, r6⟩ : _ ∧ _ ∧ _ ∧ _ ∧ _ ∧ _ ∧ _ := ⟨HB1.out.cell 0, HB1.out.cell 1, HB1.out.cell 2, HB1.out.cell 3, HB1.out.cell 4, HB1.out.cell 5, HB1.out.cell 6⟩
    obtain ⟨y0, y1, y2, y3, y4, y5, y6, y7⟩ : _ ∧ _ ∧ _ ∧ _ ∧ _ ∧ _ ∧ _ ∧ _ := ⟨HB2.out.cell 0, HB2.out.cell 1, HB2.out.cell 2, HB2.out.cell 3, HB2.out.cell 4, HB2.out.cell 5, HB2.out.cell 6, HB2.out.cell 7⟩
    have z0 := HB0.out.lt
    have z1 := HB1.out.lt
    have z2 := HB2.out.lt
    simp only [List.getElem?_toArray, List.getElem?_cons_zero, List.getElem?_cons_succ] at a0 r0 r1 r2 r3 r4 r5 r6 y0 y1 y2 y3 y4 y5 y6 y7
    have HIA := hid hia
    clear HPO hia
    go_wp2_with fail
    refine (HKE.out _ E).mono ?_
    rintro e w2 ⟨A5, c5, A6, c6, rfl, ho5, ho6, hE⟩
    (try replace HIA := hid (HIA.out.ext hE))
    (try replace HIB := hid (HIB.out.ext hE))
    (try replace HO5 := hid (HO5.out.ext hE))
    (try replace HO7 := hid (HO7.out.ext hE))
    (try replace HO9 := hid (HO9.out.ext hE))
    (try replace HSG := hid (HSG.out.ext hE))
    replace E := E.trans hE
    replace HB0 := hid (HB0.out.ext hE)
    replace HB1 := hid (HB1.out.ext hE)
    replace HB2 := hid (HB2.out.ext hE)
    clear hE
    (try clear a0 r0 r1 r2 r3 r4 r5 r6 y0 y1 y2 y3 y4 y5 y6 y7 z0 z1 z2)
    have a0 := HB0.out.cell 0
    obtain ⟨r0, r1, r2, r3, r4, r5, r6⟩ : _ ∧ _ ∧ _ ∧ _ ∧ _ ∧ _ ∧ _ := ⟨HB1.out.cell 0, HB1.out.cell 1, HB1.out.cell 2, HB1.out.cell 3, HB1.out.cell 4, HB1.out.cell 5, HB1.out.cell 6⟩
    obtain ⟨y0, y1, y2, y3, y4, y5, y6, y7⟩ : _ ∧ _ ∧ _ ∧ _ ∧ _ ∧ _ ∧ _ ∧ _ := ⟨HB2.out.cell 0, HB2.out.cell 1, HB2.out.cell 2, HB2.out.cell 3, HB2.out.cell 4, HB2.out.cell 5, HB2.out.cell 6, HB2.out.cell 7⟩
    have z0 := HB0.out.lt
    have z1 := HB1.out.lt
    have z2 := HB2.out.lt
    simp only [List.getElem?_toArray, List.getElem?_cons_zero, List.getElem?_cons_succ] at a0 r0 r1 r2 r3 r4 r5 r6 y0 y1 y2 y3 y4 y5 y6 y7
    have HO5 := hid ho5
    clear HKE ho5 ho6
    go_wp2_with fail
    refine (HGP.out _ E).mono ?_
    rintro e w6 ⟨rfl, hE⟩
    (try replace HIA := hid (HIA.out.ext hE))
    (try replace HIB := hid (HIB.out.ext hE))
    (try replace HO5 := hid (HO5.out.ext hE))
    (try replace HO7 := hid (HO7.out.ext hE))
    (try replace HO9 := hid (HO9.out.ext hE))
    (try replace HSG := hid (HSG.out.ext hE))
    replace E := E.trans hE
    replace HB0 := hid (HB0.out.ext hE)
    replace HB1 := hid (HB1.out.ext hE)
    replace HB2 := hid (HB2.out.ext hE)
    clear hE
    (try clear a0 r0 r1 r2 r3 r4 r5 r6 y0 y1 y2 y3 y4 y5 y6 y7 z0 z1 z2)
    have a0 := HB0.out.cell 0
    obtain ⟨r0, r1, r2, r3, r4, r5, r6⟩ : _ ∧ _ ∧ _ ∧ _ ∧ _ ∧ _ ∧ _ := ⟨HB1.out.cell 0, HB1.out.cell 1, HB1.out.cell 2, HB1.out.cell 3, HB1.out.cell 4, HB1.out.cell 5, HB1.out.cell 6⟩
    obtain ⟨y0, y1, y2, y3, y4, y5, y6, y7⟩ : _ ∧ _ ∧ _ ∧ _ ∧ _ ∧ _ ∧ _ ∧ _ := ⟨HB2.out.cell 0, HB2.out.cell 1, HB2.out.cell 2, HB2.out.cell 3, HB2.out.cell 4, HB2.out.cell 5, HB2.out.cell 6, HB2.out.cell 7⟩
    have z0 := HB0.out.lt
    have z1 := HB1.out.lt
    have z2 := HB2.out.lt
    simp only [List.getElem?_toArray, List.getElem?_cons_zero, List.getElem?_cons_succ] at a0 r0 r1 r2 r3 r4 r5 r6 y0 y1 y2 y3 y4 y5 y6 y7
    clear HGP
    go_wp2_with fail
    refine wp_region_held_drew (S := fun w' => (∀ b o, b < w6.heap.size → w'.cell? ⟨b, o, none⟩ = w6.cell? ⟨b, o, none⟩) ∧ w6.heap.size ≤ w'.heap.size ∧ Ext w6 w') (by kernel_rfl) ?hS0 (fun hHeld => ?_)
    case hS0 => exact sK (Ext.drew (Ext.refl _))
    have X0 : Ext w6 w6.drew := Ext.drew (Ext.refl w6)
    have EX := X0
    obtain ⟨X, hX⟩ : ∃ X, w6.drew = X := ⟨_, rfl⟩
    rw [hX] at EX hHeld ⊢
    clear hX X0
    refine wpAnyH_take (i := 0) (oi := _) (v := ?v0av) rfl (by kernel_rfl) (by kernel_rfl) (by kernel_rfl) (fun _ _ _ h => h) (Or.inl ⟨by rfl, ?y0av⟩) (by assumption) ?r0av
    case y0av => (intro w' hSw; (try dsimp only at hSw); go_simp; (try with_reducible rfl))
    try simp only [Act.put, List.getElem_toArray, List.getElem_cons_zero, List.getElem_cons_succ, List.setIfInBounds_toArray, List.set_cons_zero, List.set_cons_succ]
    refine wpAnyH_take (i := 1) (oi := _) (v := ?v1av) rfl (by kernel_rfl) (by kernel_rfl) (by kernel_rfl) (fun _ _ _ h => h) (Or.inl ⟨by rfl, ?y1av⟩) (by assumption) ?r1av
    case y1av => (intro w' hSw; (try dsimp only at hSw); go_simp; (try with_reducible rfl))
    try simp only [Act.put, List.getElem_toArray, List.getElem_cons_zero, List.getElem_cons_succ, List.setIfInBounds_toArray, List.set_cons_zero, List.set_cons_succ]
    refine wpAnyH_take (i := 2) (oi := _) (v := ?v2av) rfl (by kernel_rfl) (by kernel_rfl) (by kernel_rfl) (fun _ _ _ h => h) (Or.inl ⟨by rfl, ?y2av⟩) (by assumption) ?r2av
    case y2av => (intro w' hSw; (try dsimp only at hSw); go_simp; (try with_reducible rfl))
    try simp only [Act.put, List.getElem_toArray, List.getElem_cons_zero, List.getElem_cons_succ, List.setIfInBounds_toArray, List.set_cons_zero, List.set_cons_succ]
    refine wpAnyH_take (i := 3) (oi := _) (v := ?v3av) rfl (by kernel_rfl) (by kernel_rfl) (by kernel_rfl) (fun _ _ _ h => h) (Or.inl ⟨by rfl, ?y3av⟩) (by assumption) ?r3av
    case y3av => (intro w' hSw; (try dsimp only at hSw); go_simp; (try with_reducible rfl))
    try simp only [Act.put, List.getElem_toArray, List.getElem_cons_zero, List.getElem_cons_succ, List.setIfInBounds_toArray, List.set_cons_zero, List.set_cons_succ]
    refine wpAnyH_take (i := 4) (oi := _) (v := ?v4av) rfl (by kernel_rfl) (by kernel_rfl) (by kernel_rfl) (fun _ _ _ h => h) (Or.inl ⟨by rfl, ?y4av⟩) (by assumption) ?r4av
    case y4av => (intro w' hSw; (try dsimp only at hSw); go_simp; (try with_reducible rfl))
    try simp only [Act.put, List.getElem_toArray, List.getElem_cons_zero, List.getElem_cons_succ, List.setIfInBounds_toArray, List.set_cons_zero, List.set_cons_succ]
    refine wpAnyH_take (i := 5) (oi := _) (v := ?v5av) rfl (by kernel_rfl) (by kernel_rfl) (by kernel_rfl) (fun _ _ _ h => h) (Or.inl ⟨by rfl, ?y5av⟩) (by assumption) ?r5av
    case y5av => (intro w' hSw; (try dsimp only at hSw); go_simp; (try with_reducible rfl))
    try simp only [Act.put, List.getElem_toArray, List.getElem_cons_zero, List.getElem_cons_succ, List.setIfInBounds_toArray, List.set_cons_zero, List.set_cons_succ]
    refine wpAnyH_ready (rs := [6]) (by kernel_rfl) (by simp) ?_
    refine AllReadyH.cons (o := _) rfl (fun K hK => ?_) AllReadyH.nil
    go_simp
    refine Calls.mono (HWI.out _) ?_
    rintro e X ⟨rfl, hEX⟩
    dsimp only
    replace EX := EX.trans hEX
    (try replace OB := hid (OB.out.ext hEX))
    (try replace IS := hid (IS.out.ext hEX))
    clear hHeld hEX
    refine hK.out _ _ (sK EX) (fun hHeld => ?_)
    clear hK K
    try simp only [Act.put, List.getElem_toArray, List.getElem_cons_zero, List.getElem_cons_succ, List.setIfInBounds_toArray, List.set_cons_zero, List.set_cons_succ]
    refine wpAnyH_ready (rs := [7]) (by kernel_rfl) (by simp) ?_
    refine AllReadyH.cons (o := _) rfl (fun K hK => ?_) AllReadyH.nil
    go_simp
    refine Calls.mono (HKE2.out _ (E.trans EX)) ?_
    rintro e X ⟨A7, c7, A8, c8, rfl, ho7, ho8, hEX⟩
    dsimp only
    replace EX := EX.trans hEX
    have HO7 := hid ho7
    clear hHeld hEX ho7 ho8 HKE2
    refine hK.out _ _ (sK EX) (fun hHeld => ?_)
    clear hK K
    try simp only [Act.put, List.getElem_toArray, List.getElem_cons_zero, List.getElem_cons_succ, List.setIfInBounds_toArray, List.set_cons_zero, List.set_cons_succ]
    refine wpAnyH_take (i := 8) (oi := _) (v := ?v8bv) rfl (by kernel_rfl) (by kernel_rfl) (by kernel_rfl) (fun _ _ _ h => h) (Or.inl ⟨by rfl, ?y8bv⟩) (by assumption) ?r8bv
    case y8bv => (intro w' hSw; (try dsimp only at hSw); go_simp; (try with_reducible rfl))
    try simp only [Act.put, List.getElem_toArray, List.getElem_cons_zero, List.getElem_cons_succ, List.setIfInBounds_toArray, List.set_cons_zero, List.set_cons_succ]
    refine wpAnyH_take (i := 9) (oi := _) (v := ?v9bv) rfl (by kernel_rfl) (by kernel_rfl) (by kernel_rfl) (fun _ _ _ h => h) (Or.inl ⟨by rfl, ?y9bv⟩) (by assumption) ?r9bv
    case y9bv => (intro w' hSw; (try dsimp only at hSw); go_simp; (try with_reducible rfl))
    try simp only [Act.put, List.getElem_toArray, List.getElem_cons_zero, List.getElem_cons_succ, List.setIfInBounds_toArray, List.set_cons_zero, List.set_cons_succ]
    refine wpAnyH_take (i := 10) (oi := _) (v := ?v10bv) rfl (by kernel_rfl) (by kernel_rfl) (by kernel_rfl) (fun _ _ _ h => h) (Or.inl ⟨by rfl, ?y10bv⟩) (by assumption) ?r10bv
    case y10bv => (intro w' hSw; (try dsimp only at hSw); go_simp; (try with_reducible rfl))
    try simp only [Act.put, List.getElem_toArray, List.getElem_cons_zero, List.getElem_cons_succ, List.setIfInBounds_toArray, List.set_cons_zero, List.set_cons_succ]
    refine wpAnyH_take (i := 11) (oi := _) (v := ?v11bv) rfl (by kernel_rfl) (by kernel_rfl) (by kernel_rfl) (fun _ _ _ h => h) (Or.inl ⟨by rfl, ?y11bv⟩) (by assumption) ?r11bv
    case y11bv => (intro w' hSw; (try dsimp only at hSw); go_simp; (try with_reducible rfl))
    try simp only [Act.put, List.getElem_toArray, List.getElem_cons_zero, List.getElem_cons_succ, List.setIfInBounds_toArray, List.set_cons_zero, List.set_cons_succ]
    refine wpAnyH_take (i := 12) (oi := _) (v := ?v12bv) rfl (by kernel_rfl) (by kernel_rfl) (by kernel_rfl) (fun _ _ _ h => h) (Or.inl ⟨by rfl, ?y12bv⟩) (by assumption) ?r12bv
    case y12bv => (intro w' hSw; (try dsimp only at hSw); go_simp; (try with_reducible rfl))
    try simp only [Act.put, List.getElem_toArray, List.getElem_cons_zero, List.getElem_cons_succ, List.setIfInBounds_toArray, List.set_cons_zero, List.set_cons_succ]
    refine wpAnyH_take (i := 13) (oi := _) (v := ?v13bv) rfl (by kernel_rfl) (by kernel_rfl) (by kernel_rfl) (fun _ _ _ h => h) (Or.inl ⟨by rfl, ?y13bv⟩) (by assumption) ?r13bv
    case y13bv => (intro w' hSw; (try dsimp only at hSw); go_simp; (try with_reducible rfl))
    try simp only [Act.put, List.getElem_toArray, List.getElem_cons_zero, List.getElem_cons_succ, List.setIfInBounds_toArray, List.set_cons_zero, List.set_cons_succ]
    refine wpAnyH_take (i := 14) (oi := _) (v := ?v14bv) rfl (by kernel_rfl) (by kernel_rfl) (by kernel_rfl) (fun _ _ _ h => h) (Or.inl ⟨by rfl, ?y14bv⟩) (by assumption) ?r14bv
    case y14bv => (intro w' hSw; (try dsimp only at hSw); go_simp; (try with_reducible rfl))
    try simp only [Act.put, List.getElem_toArray, List.getElem_cons_zero, List.getElem_cons_succ, List.setIfInBounds_toArray, List.set_cons_zero, List.set_cons_succ]
    refine wpAnyH_done (by kernel_rfl) ?_ _
    have hE := EX
    clear hHeld EX
    (try replace HIA := hid (HIA.out.ext hE))
    (try replace HIB := hid (HIB.out.ext hE))
    (try replace HO5 := hid (HO5.out.ext hE))
    (try replace HO7 := hid (HO7.out.ext hE))
    (try replace HO9 := hid (HO9.out.ext hE))
    (try replace HSG := hid (HSG.out.ext hE))
    replace E := E.trans hE
    replace HB0 := hid (HB0.out.ext hE)
    replace HB1 := hid (HB1.out.ext hE)
    replace HB2 := hid (HB2.out.ext hE)
    clear hE
    (try clear a0 r0 r1 r2 r3 r4 r5 r6 y0 y1 y2 y3 y4 y5 y6 y7 z0 z1 z2)
    have a0 := HB0.out.cell 0
    obtain ⟨r0, r1, r2, r3, r4, r5, r6⟩ : _ ∧ _ ∧ _ ∧ _ ∧ _ ∧ _ ∧ _ := ⟨HB1.out.cell 0, HB1.out.cell 1, HB1.out.cell 2, HB1.out.cell 3, HB1.out.cell 4, HB1.out.cell 5, HB1.out.cell 6⟩
    obtain ⟨y0, y1, y2, y3, y4, y5, y6, y7⟩ : _ ∧ _ ∧ _ ∧ _ ∧ _ ∧ _ ∧ _ ∧ _ := ⟨HB2.out.cell 0, HB2.out.cell 1, HB2.out.cell 2, HB2.out.cell 3, HB2.out.cell 4, HB2.out.cell 5, HB2.out.cell 6, HB2.out.cell 7⟩
    have z0 := HB0.out.lt
    have z1 := HB1.out.lt
    have z2 := HB2.out.lt
    simp only [List.getElem?_toArray, List.getElem?_cons_zero, List.getElem?_cons_succ] at a0 r0 r1 r2 r3 r4 r5 r6 y0 y1 y2 y3 y4 y5 y6 y7
    obtain ⟨w7, rfl⟩ : ∃ w7, w7 = X := ⟨_, rfl⟩
    go_wp2_with fail
    refine wp_region_held_drew (S := fun w' => (∀ b o, b < w7.heap.size → w'.cell? ⟨b, o, none⟩ = w7.cell? ⟨b, o, none⟩) ∧ w7.heap.size ≤ w'.heap.size ∧ Ext w7 w') (by kernel_rfl) ?hS0 (fun hHeld => ?_)
    case hS0 => exact sK (Ext.drew (Ext.refl _))
    have X0 : Ext w7 w7.drew := Ext.drew (Ext.refl w7)
    have EX := X0
    obtain ⟨X, hX⟩ : ∃ X, w7.drew = X := ⟨_, rfl⟩
    rw [hX] at EX hHeld ⊢
    clear hX X0
    refine wpAnyH_take (i := 0) (oi := _) (v := ?v0cv) rfl (by kernel_rfl) (by kernel_rfl) (by kernel_rfl) (fun _ _ _ h => h) (Or.inl ⟨by rfl, ?y0cv⟩) (by assumption) ?r0cv
    case y0cv => (intro w' hSw; (try dsimp only at hSw); go_simp; (try with_reducible rfl))
    try simp only [Act.put, List.getElem_toArray, List.getElem_cons_zero, List.getElem_cons_succ, List.setIfInBounds_toArray, List.set_cons_zero, List.set_cons_succ]
    refine wpAnyH_take (i := 1) (oi := _) (v := ?v1cv) rfl (by kernel_rfl) (by kernel_rfl) (by kernel_rfl) (fun _ _ _ h => h) (Or.inl ⟨by rfl, ?y1cv⟩) (by assumption) ?r1cv
    case y1cv => (intro w' hSw; (try dsimp only at hSw); go_simp; (try with_reducible rfl))
    try simp only [Act.put, List.getElem_toArray, List.getElem_cons_zero, List.getElem_cons_succ, List.setIfInBounds_toArray, List.set_cons_zero, List.set_cons_succ]
    refine wpAnyH_take (i := 2) (oi := _) (v := ?v2cv) rfl (by kernel_rfl) (by kernel_rfl) (by kernel_rfl) (fun _ _ _ h => h) (Or.inl ⟨by rfl, ?y2cv⟩) (by assumption) ?r2cv
    case y2cv => (intro w' hSw; (try dsimp only at hSw); go_simp; (try with_reducible rfl))
    try simp only [Act.put, List.getElem_toArray, List.getElem_cons_zero, List.getElem_cons_succ, List.setIfInBounds_toArray, List.set_cons_zero, List.set_cons_succ]
    refine wpAnyH_take (i := 3) (oi := _) (v := ?v3cv) rfl (by kernel_rfl) (by kernel_rfl) (by kernel_rfl) (fun _ _ _ h => h) (Or.inl ⟨by rfl, ?y3cv⟩) (by assumption) ?r3cv
    case y3cv => (intro w' hSw; (try dsimp only at hSw); go_simp; (try with_reducible rfl))
    try simp only [Act.put, List.getElem_toArray, List.getElem_cons_zero, List.getElem_cons_succ, List.setIfInBounds_toArray, List.set_cons_zero, List.set_cons_succ]
    refine wpAnyH_take (i := 4) (oi := _) (v := ?v4cv) rfl (by kernel_rfl) (by kernel_rfl) (by kernel_rfl) (fun _ _ _ h => h) (Or.inl ⟨by rfl, ?y4cv⟩) (by assumption) ?r4cv
    case y4cv => (intro w' hSw; (try dsimp only at hSw); go_simp; (try with_reducible rfl))
    try simp only [Act.put, List.getElem_toArray, List.getElem_cons_zero, List.getElem_cons_succ, List.setIfInBounds_toArray, List.set_cons_zero, List.set_cons_succ]
    refine wpAnyH_take (i := 5) (oi := _) (v := ?v5cv) rfl (by kernel_rfl) (by kernel_rfl) (by kernel_rfl) (fun _ _ _ h => h) (Or.inl ⟨by rfl, ?y5cv⟩) (by assumption) ?r5cv
    case y5cv => (intro w' hSw; (try dsimp only at hSw); go_simp; (try with_reducible rfl))
    try simp only [Act.put, List.getElem_toArray, List.getElem_cons_zero, List.getElem_cons_succ, List.setIfInBounds_toArray, List.set_cons_zero, List.set_cons_succ]
    refine wpAnyH_take (i := 7) (oi := _) (v := ?v7cv) rfl (by kernel_rfl) (by kernel_rfl) (by kernel_rfl) (fun _ _ _ h => h) (Or.inl ⟨by rfl, ?y7cv⟩) (by assumption) ?r7cv
    case y7cv => (intro w' hSw; (try dsimp only at hSw); go_simp; (try with_reducible rfl))
    try simp only [Act.put, List.getElem_toArray, List.getElem_cons_zero, List.getElem_cons_succ, List.setIfInBounds_toArray, List.set_cons_zero, List.set_cons_succ]
    refine wpAnyH_take (i := 8) (oi := _) (v := ?v8cv) rfl (by kernel_rfl) (by kernel_rfl) (by kernel_rfl) (fun _ _ _ h => h) (Or.inl ⟨by rfl, ?y8cv⟩) (by assumption) ?r8cv
    case y8cv => (intro w' hSw; (try dsimp only at hSw); go_simp; (try with_reducible rfl))
    try simp only [Act.put, List.getElem_toArray, List.getElem_cons_zero, List.getElem_cons_succ, List.setIfInBounds_toArray, List.set_cons_zero, List.set_cons_succ]
    refine wpAnyH_ready (rs := [6]) (by kernel_rfl) (by simp) ?_
    refine AllReadyH.cons (o := _) rfl (fun K hK => ?_) AllReadyH.nil
    go_simp
    refine Calls.mono (HWI.out _) ?_
    rintro e X ⟨rfl, hEX⟩
    dsimp only
    replace EX := EX.trans hEX
    (try replace OB := hid (OB.out.ext hEX))
    (try replace IS := hid (IS.out.ext hEX))
    clear hHeld hEX
    refine hK.out _ _ (sK EX) (fun hHeld => ?_)
    clear hK K
    try simp only [Act.put, List.getElem_toArray, List.getElem_cons_zero, List.getElem_cons_succ, List.setIfInBounds_toArray, List.set_cons_zero, List.set_cons_succ]
    refine wpAnyH_ready (rs := [9]) (by kernel_rfl) (by simp) ?_
    refine AllReadyH.cons (o := _) rfl (fun K hK => ?_) AllReadyH.nil
    go_simp
    refine Calls.mono (HGP2.out _ (E.trans EX)) ?_
    rintro e X ⟨rfl, hEX⟩
    dsimp only
    replace EX := EX.trans hEX
    (try replace OB := hid (OB.out.ext hEX))
    (try replace IS := hid (IS.out.ext hEX))
    clear hHeld hEX
    refine hK.out _ _ (sK EX) (fun hHeld => ?_)
    clear hK K
    try simp only [Act.put, List.getElem_toArray, List.getElem_cons_zero, List.getElem_cons_succ, List.setIfInBounds_toArray, List.set_cons_zero, List.set_cons_succ]
    refine wpAnyH_take (i := 10) (oi := _) (v := ?v10dv) rfl (by kernel_rfl) (by kernel_rfl) (by kernel_rfl) (fun _ _ _ h => h) (Or.inl ⟨by rfl, ?y10dv⟩) (by assumption) ?r10dv
    case y10dv => (intro w' hSw; (try dsimp only at hSw); go_simp; (try with_reducible rfl))
    try simp only [Act.put, List.getElem_toArray, List.getElem_cons_zero, List.getElem_cons_succ, List.setIfInBounds_toArray, List.set_cons_zero, List.set_cons_succ]
    refine wpAnyH_take (i := 11) (oi := _) (v := ?v11dv) rfl (by kernel_rfl) (by kernel_rfl) (by kernel_rfl) (fun _ _ _ h => h) (Or.inl ⟨by rfl, ?y11dv⟩) (by assumption) ?r11dv
    case y11dv => (intro w' hSw; (try dsimp only at hSw); go_simp; (try with_reducible rfl))
    try simp only [Act.put, List.getElem_toArray, List.getElem_cons_zero, List.getElem_cons_succ, List.setIfInBounds_toArray, List.set_cons_zero, List.set_cons_succ]
    refine wpAnyH_take (i := 12) (oi := _) (v := ?v12dv) rfl (by kernel_rfl) (by kernel_rfl) (by kernel_rfl) (fun _ _ _ h => h) (Or.inl ⟨by rfl, ?y12dv⟩) (by assumption) ?r12dv
    case y12dv => (intro w' hSw; (try dsimp only at hSw); go_simp; (try with_reducible rfl))
    try simp only [Act.put, List.getElem_toArray, List.getElem_cons_zero, List.getElem_cons_succ, List.setIfInBounds_toArray, List.set_cons_zero, List.set_cons_succ]
    refine wpAnyH_take (i := 13) (oi := _) (v := ?v13dv) rfl (by kernel_rfl) (by kernel_rfl) (by kernel_rfl) (fun _ _ _ h => h) (Or.inl ⟨by rfl, ?y13dv⟩) (by assumption) ?r13dv
    case y13dv => (intro w' hSw; (try dsimp only at hSw); go_simp; (try with_reducible rfl))
    try simp only [Act.put, List.getElem_toArray, List.getElem_cons_zero, List.getElem_cons_succ, List.setIfInBounds_toArray, List.set_cons_zero, List.set_cons_succ]
    refine wpAnyH_take (i := 14) (oi := _) (v := ?v14dv) rfl (by kernel_rfl) (by kernel_rfl) (by kernel_rfl) (fun _ _ _ h => h) (Or.inl ⟨by rfl, ?y14dv⟩) (by assumption) ?r14dv
    case y14dv => (intro w' hSw; (try dsimp only at hSw); go_simp; (try with_reducible rfl))
    try simp only [Act.put, List.getElem_toArray, List.getElem_cons_zero, List.getElem_cons_succ, List.setIfInBounds_toArray, List.set_cons_zero, List.set_cons_succ]
    refine wpAnyH_done (by kernel_rfl) ?_ _
    have hE := EX
    clear hHeld EX HWI HGP2
    (try replace HIA := hid (HIA.out.ext hE))
    (try replace HIB := hid (HIB.out.ext hE))
    (try replace HO5 := hid (HO5.out.ext hE))
    (try replace HO7 := hid (HO7.out.ext hE))
    (try replace HO9 := hid (HO9.out.ext hE))
    (try replace HSG := hid (HSG.out.ext hE))
    replace E := E.trans hE
    replace HB0 := hid (HB0.out.ext hE)
    replace HB1 := hid (HB1.out.ext hE)
    replace HB2 := hid (HB2.out.ext hE)
    clear hE
    (try clear a0 r0 r1 r2 r3 r4 r5 r6 y0 y1 y2 y3 y4 y5 y6 y7 z0 z1 z2)
    have a0 := HB0.out.cell 0
    obtain ⟨r0, r1, r2, r3, r4, r5, r6⟩ : _ ∧ _ ∧ _ ∧ _ ∧ _ ∧ _ ∧ _ := ⟨HB1.out.cell 0, HB1.out.cell 1, HB1.out.cell 2, HB1.out.cell 3, HB1.out.cell 4, HB1.out.cell 5, HB1.out.cell 6⟩
    obtain ⟨y0, y1, y2, y3, y4, y5, y6, y7⟩ : _ ∧ _ ∧ _ ∧ _ ∧ _ ∧ _ ∧ _ ∧ _ := ⟨HB2.out.cell 0, HB2.out.cell 1, HB2.out.cell 2, HB2.out.cell 3, HB2.out.cell 4, HB2.out.cell 5, HB2.out.cell 6, HB2.out.cell 7⟩
    have z0 := HB0.out.lt
    have z1 := HB1.out.lt
    have z2 := HB2.out.lt
    simp only [List.getElem?_toArray, List.getElem?_cons_zero, List.getElem?_cons_succ] at a0 r0 r1 r2 r3 r4 r5 r6 y0 y1 y2 y3 y4 y5 y6 y7
    obtain ⟨w8, rfl⟩ : ∃ w8, w8 = X := ⟨_, rfl⟩
    go_wp2_with fail
    refine (HWB.out A5 c5 A7 c7 _ HO5.out HO7.out).mono ?_
    rintro e w9 ⟨rfl, rfl⟩
    clear HWB
    go_wp2_with fail
    have HE09 := hid E
    refine region_restA (fun QQ a => ∀ (X : World) (A2 : Option Addr) (c2 : Nat) (u1 u2 u3 : Value), Ext w9 X → Hid (SgsAt X A2 sn2) → QQ .normal (((((((((a.put (some 182) u1).put (some 183) (.pointer (some ⟨w.heap.size + 1, 0, none⟩))).put (some 184) (.slice SA m sc)).put (some 185) u2).put (some 186) (.pointer (some ⟨w.heap.size + 1 + 1, 0, none⟩))).put (some 187) (.agg #[.int .i64 yh, .int .i64 ys, .int .i64 yr, .int .i64 yt])).put (some 188) u3).put (some 189) (.slice A2 (m + 1) c2)).put (some 20) (.slice A2 (m + 1) c2)) X) ?rsv (fun REST => ?_)
    case rsv =>
      intro X A2 c2 u1 u2 u3 hE HSG
      simp only [Act.put, List.getElem_toArray, List.getElem_cons_zero, List.getElem_cons_succ, List.setIfInBounds_toArray, List.set_cons_zero, List.set_cons_succ]
      (try replace HIA := hid (HIA.out.ext hE))
      (try replace HIB := hid (HIB.out.ext hE))
      (try replace HO5 := hid (HO5.out.ext hE))
      (try replace HO7 := hid (HO7.out.ext hE))
      (try replace HO9 := hid (HO9.out.ext hE))
      (try replace HSG := hid (HSG.out.ext hE))
      replace E := E.trans hE
      replace HB0 := hid (HB0.out.ext hE)
      replace HB1 := hid (HB1.out.ext hE)
      replace HB2 := hid (HB2.out.ext hE)
      clear hE
      (try clear a0 r0 r1 r2 r3 r4 r5 r6 y0 y1 y2 y3 y4 y5 y6 y7 z0 z1 z2)
      have a0 := HB0.out.cell 0
      obtain ⟨r0, r1, r2, r3, r4, r5, r6⟩ : _ ∧ _ ∧ _ ∧ _ ∧ _ ∧ _ ∧ _ := ⟨HB1.out.cell 0, HB1.out.cell 1, HB1.out.cell 2, HB1.out.cell 3, HB1.out.cell 4, HB1.out.cell 5, HB1.out.cell 6⟩
      obtain ⟨y0, y1, y2, y3, y4, y5, y6, y7⟩ : _ ∧ _ ∧ _ ∧ _ ∧ _ ∧ _ ∧ _ ∧ _ := ⟨HB2.out.cell 0, HB2.out.cell 1, HB2.out.cell 2, HB2.out.cell 3, HB2.out.cell 4, HB2.out.cell 5, HB2.out.cell 6, HB2.out.cell 7⟩
      have z0 := HB0.out.lt
      have z1 := HB1.out.lt
      have z2 := HB2.out.lt
      simp only [List.getElem?_toArray, List.getElem?_cons_zero, List.getElem?_cons_succ] at a0 r0 r1 r2 r3 r4 r5 r6 y0 y1 y2 y3 y4 y5 y6 y7
      go_wp2_with fail
      refine (HSE2.out A2 c2 _ E HSG.out).mono ?_
      rintro e w10 ⟨rfl, hE⟩
      (try replace HIA := hid (HIA.out.ext hE))
      (try replace HIB := hid (HIB.out.ext hE))
      (try replace HO5 := hid (HO5.out.ext hE))
      (try replace HO7 := hid (HO7.out.ext hE))
      (try replace HO9 := hid (HO9.out.ext hE))
      (try replace HSG := hid (HSG.out.ext hE))
      replace E := E.trans hE
      replace HB0 := hid (HB0.out.ext hE)
      replace HB1 := hid (HB1.out.ext hE)
      replace HB2 := hid (HB2.out.ext hE)
      clear hE
      (try clear a0 r0 r1 r2 r3 r4 r5 r6 y0 y1 y2 y3 y4 y5 y6 y7 z0 z1 z2)
      have a0 := HB0.out.cell 0
      obtain ⟨r0, r1, r2, r3, r4, r5, r6⟩ : _ ∧ _ ∧ _ ∧ _ ∧ _ ∧ _ ∧ _ := ⟨HB1.out.cell 0, HB1.out.cell 1, HB1.out.cell 2, HB1.out.cell 3, HB1.out.cell 4, HB1.out.cell 5, HB1.out.cell 6⟩
      obtain ⟨y0, y1, y2, y3, y4, y5, y6, y7⟩ : _ ∧ _ ∧ _ ∧ _ ∧ _ ∧ _ ∧ _ ∧ _ := ⟨HB2.out.cell 0, HB2.out.cell 1, HB2.out.cell 2, HB2.out.cell 3, HB2.out.cell 4, HB2.out.cell 5, HB2.out.cell 6, HB2.out.cell 7⟩
      have z0 := HB0.out.lt
      have z1 := HB1.out.lt
      have z2 := HB2.out.lt
      simp only [List.getElem?_toArray, List.getElem?_cons_zero, List.getElem?_cons_succ] at a0 r0 r1 r2 r3 r4 r5 r6 y0 y1 y2 y3 y4 y5 y6 y7
      by_cases hse2 : se2 = 0
      case neg =>
        have hsb : (se2 != 0) = true := by simp [hse2]
        clear HPO2 HKE3 HGP3 HMS2 HK3E HW3E HSE2 HWB2 hse2
        go_wp2_with fail
        refine (HWK.out _ (by (repeat' (first | with_reducible assumption | with_reducible exact Ext.refl _ | with_reducible refine Ext.alloc ?_ _ | with_reducible refine Ext.set ?_ ?_ _ | with_reducible refine Ext.drew ?_ | with_reducible refine Ext.drewN ?_ _ | with_reducible refine Ext.trans ?_ (by assumption) | (dsimp only; omega))))).mono ?_
        rintro e w9 ⟨rfl, hE9⟩
        have EZ : Ext w w9 := by (repeat' (first | with_reducible assumption | with_reducible exact Ext.refl _ | with_reducible refine Ext.alloc ?_ _ | with_reducible refine Ext.set ?_ ?_ _ | with_reducible refine Ext.drew ?_ | with_reducible refine Ext.drewN ?_ _ | with_reducible refine Ext.trans ?_ (by assumption) | (dsimp only; omega)))
        go_wp2
        go_ret
        exact ⟨rfl, EZ⟩
      have ke := HK3E.out hse2
      have we := HW3E.out hse2
      have HPO3 := hid (HPO2.out hse2)
      have HMS3 := hid (HMS2.out hse2)
      subst hse2 ke we
      clear HPO2 HMS2 HK3E HW3E HSE2
      go_wp2_with fail
      refine (HPO3.out A2 c2 _ E HSG.out).mono ?_
      rintro e w11 ⟨A9, c9, rfl, hib, hE⟩
      (try replace HIA := hid (HIA.out.ext hE))
      (try replace HIB := hid (HIB.out.ext hE))
      (try replace HO5 := hid (HO5.out.ext hE))
      (try replace HO7 := hid (HO7.out.ext hE))
      (try replace HO9 := hid (HO9.out.ext hE))
      (try replace HSG := hid (HSG.out.ext hE))
      replace E := E.trans hE
      replace HB0 := hid (HB0.out.ext hE)
      replace HB1 := hid (HB1.out.ext hE)
      replace HB2 := hid (HB2.out.ext hE)
      clear hE
      (try clear a0 r0 r1 r2 r3 r4 r5 r6 y0 y1 y2 y3 y4 y5 y6 y7 z0 z1 z2)
      have a0 := HB0.out.cell 0
      obtain ⟨r0, r1, r2, r3, r4, r5, r6⟩ : _ ∧ _ ∧ _ ∧ _ ∧ _ ∧ _ ∧ _ := ⟨HB1.out.cell 0, HB1.out.cell 1, HB1.out.cell 2, HB1.out.cell 3, HB1.out.cell 4, HB1.out.cell 5, HB1.out.cell 6⟩
      obtain ⟨y0, y1, y2, y3, y4, y5, y6, y7⟩ : _ ∧ _ ∧ _ ∧ _ ∧ _ ∧ _ ∧ _ ∧ _ := ⟨HB2.out.cell 0, HB2.out.cell 1, HB2.out.cell 2, HB2.out.cell 3, HB2.out.cell 4, HB2.out.cell 5, HB2.out.cell 6, HB2.out.cell 7⟩
      have z0 := HB0.out.lt
      have z1 := HB1.out.lt
      have z2 := HB2.out.lt
      simp only [List.getElem?_toArray, List.getElem?_cons_zero, List.getElem?_cons_succ] at a0 r0 r1 r2 r3 r4 r5 r6 y0 y1 y2 y3 y4 y5 y6 y7
      have HIB := hid hib
      clear hib HPO3
      obtain rfl | rfl := HNE2.out
      case inr =>
        clear HKE3 HGP3 HMS3 HWB2 HNE2
        go_wp2_with fail
        refine (HWK.out _ (by (repeat' (first | with_reducible assumption | with_reducible exact Ext.refl _ | with_reducible refine Ext.alloc ?_ _ | with_reducible refine Ext.set ?_ ?_ _ | with_reducible refine Ext.drew ?_ | with_reducible refine Ext.drewN ?_ _ | with_reducible refine Ext.trans ?_ (by assumption) | (dsimp only; omega))))).mono ?_
        rintro e w9 ⟨rfl, hE9⟩
        have EZ : Ext w w9 := by (repeat' (first | with_reducible assumption | with_reducible exact Ext.refl _ | with_reducible refine Ext.alloc ?_ _ | with_reducible refine Ext.set ?_ ?_ _ | with_reducible refine Ext.drew ?_ | with_reducible refine Ext.drewN ?_ _ | with_reducible refine Ext.trans ?_ (by assumption) | (dsimp only; omega)))
        go_wp2
        go_ret
        exact ⟨rfl, EZ⟩
      exact absurd (HMS3.out rfl).1 (by decide)
    simp only [Act.put, List.getElem_toArray, List.getElem_cons_zero, List.getElem_cons_succ, List.setIfInBounds_toArray, List.set_cons_zero, List.set_cons_succ] at REST
    refine wp_region_held_drew (S := fun w' => (∀ b o, b < w9.heap.size → w'.cell? ⟨b, o, none⟩ = w9.cell? ⟨b, o, none⟩) ∧ w9.heap.size ≤ w'.heap.size ∧ Ext w9 w') (by kernel_rfl) ?hS0 (fun hHeld => ?_)
    case hS0 => exact sK (Ext.drew (Ext.refl _))
    have X0 : Ext w9 w9.drew := Ext.drew (Ext.refl w9)
    have EX := X0
    obtain ⟨X, hX⟩ : ∃ X, w9.drew = X := ⟨_, rfl⟩
    rw [hX] at EX hHeld ⊢
    clear hX X0
    refine wpAnyH_take (i := 1) (oi := _) (v := ?v1vve) rfl (by kernel_rfl) (by kernel_rfl) (by kernel_rfl) (fun _ _ _ h => h) (Or.inl ⟨by rfl, ?y1vve⟩) (by assumption) ?r1vve
    case y1vve => (intro w' hSw; (try dsimp only at hSw); go_simp; (try with_reducible rfl))
    try simp only [Act.put, List.getElem_toArray, List.getElem_cons_zero, List.getElem_cons_succ, List.setIfInBounds_toArray, List.set_cons_zero, List.set_cons_succ]
    refine wpAnyH_take (i := 2) (oi := _) (v := ?v2vve) rfl (by kernel_rfl) (by kernel_rfl) (by kernel_rfl) (fun _ _ _ h => h) (Or.inl ⟨by rfl, ?y2vve⟩) (by assumption) ?r2vve
    case y2vve => (intro w' hSw; (try dsimp only at hSw); go_simp; (try with_reducible rfl))
    try simp only [Act.put, List.getElem_toArray, List.getElem_cons_zero, List.getElem_cons_succ, List.setIfInBounds_toArray, List.set_cons_zero, List.set_cons_succ]
    refine wpAnyH_take (i := 4) (oi := _) (v := ?v4vve) rfl (by kernel_rfl) (by kernel_rfl) (by kernel_rfl) (fun _ _ _ h => h) (Or.inl ⟨by rfl, ?y4vve⟩) (by assumption) ?r4vve
    case y4vve => (intro w' hSw; (try dsimp only at hSw); go_simp; (try with_reducible rfl))
    try simp only [Act.put, List.getElem_toArray, List.getElem_cons_zero, List.getElem_cons_succ, List.setIfInBounds_toArray, List.set_cons_zero, List.set_cons_succ]
    refine wpAnyH_take (i := 5) (oi := _) (v := ?v5vve) rfl (by kernel_rfl) (by kernel_rfl) (by kernel_rfl) (fun _ _ _ h => h) (Or.inl ⟨by rfl, ?y5vve⟩) (by assumption) ?r5vve
    case y5vve => (intro w' hSw; (try dsimp only at hSw); go_simp; (try with_reducible rfl))
    try simp only [Act.put, List.getElem_toArray, List.getElem_cons_zero, List.getElem_cons_succ, List.setIfInBounds_toArray, List.set_cons_zero, List.set_cons_succ]
    refine wpAnyH_ready (rs := [0, 6]) (by kernel_rfl) (by simp) ?_
    refine AllReadyH.cons (o := _) rfl (fun K hK => ?_) (AllReadyH.cons (o := _) rfl (fun K hK => ?_) AllReadyH.nil)
    · go_simp
      have BZ := hid (show Blk _ _ _ _ from blk_last X (.cells #[] 66))
      have hzX : w9.heap.size ≤ X.heap.size := EX.size
      obtain ⟨z, hz⟩ : ∃ z, X.heap.size = z := ⟨_, rfl⟩
      replace EX := EX.alloc (.cells #[] 66)
      (try replace BY := hid (BY.out.ext (ext_alloc1 X (.cells #[] 66))))
      obtain ⟨X', hX⟩ : ∃ X', X.alloc (.cells #[] 66) = X' := ⟨_, rfl⟩
      (try rw [hX] at BY)
      rw [hX] at EX BZ ⊢
      rw [hz] at BZ hzX ⊢
      obtain ⟨X, rfl⟩ : ∃ Y, Y = X' := ⟨_, rfl⟩
      clear hHeld hX hz
      refine hK.out _ _ (sK EX) (fun hHeld => ?_)
      clear hK K
      try simp only [Act.put, List.getElem_toArray, List.getElem_cons_zero, List.getElem_cons_succ, List.setIfInBounds_toArray, List.set_cons_zero, List.set_cons_succ]
      refine wpAnyH_ready (rs := [3, 6]) (by kernel_rfl) (by simp) ?_
      refine AllReadyH.cons (o := _) rfl (fun K hK => ?_) (AllReadyH.cons (o := _) rfl (fun K hK => ?_) AllReadyH.nil)
      · refine wp_appAllSg _ _ _ rfl w9.heap.size z SA sc seen rfl BZ.out hzX m HSL.out rfl (HSG0.out.ext (HE09.out.trans EX)) (by omega) ?_
        intro v4 X4 hO4 hg4
        have hE4 := EX
        replace EX : Ext w9 X4 := Below.grown EX hg4 EX.size (fun r hr => by injection hr with hr; subst hr; exact hzX)
        have OV := hid hO4
        (try replace BY := hid (show Blk X4 q 66 #[.int .i64 yh, .int .i64 ys, .int .i64 yr, .int .i64 yt] from BY.out.grown hg4 (by intro e; injection e with e; subst e; have h9 := (show X.heap[_]? = _ from BY.out).symm.trans (show X.heap[_]? = _ from BZ.out); simp at h9)))
        clear hHeld hg4 hO4 hE4 BZ
        obtain ⟨X, rfl⟩ : ∃ Y, Y = X4 := ⟨_, rfl⟩
        obtain ⟨A3, c3, rfl, -, -, -⟩ := (OV.out.form (by decide) (fun _ => rfl) zeroSg)
        refine hK.out _ _ (sK EX) (fun hHeld => ?_)
        clear hK K
        try simp only [Act.put, List.getElem_toArray, List.getElem_cons_zero, List.getElem_cons_succ, List.setIfInBounds_toArray, List.set_cons_zero, List.set_cons_succ]
        refine wpAnyH_ready (rs := [6]) (by kernel_rfl) (by simp) ?_
        refine AllReadyH.cons (o := _) rfl (fun K hK => ?_) AllReadyH.nil
        go_simp
        have BY := hid (show Blk _ _ _ _ from blk_last X (.cells #[.int .i64 yh, .int .i64 ys, .int .i64 yr, .int .i64 yt] 66))
        have hyX : w9.heap.size ≤ X.heap.size := EX.size
        obtain ⟨q, hq⟩ : ∃ q, X.heap.size = q := ⟨_, rfl⟩
        replace EX := EX.alloc (.cells #[.int .i64 yh, .int .i64 ys, .int .i64 yr, .int .i64 yt] 66)
        (try replace BZ := hid (BZ.out.ext (ext_alloc1 X (.cells #[.int .i64 yh, .int .i64 ys, .int .i64 yr, .int .i64 yt] 66))))
        (try replace OV := hid (OV.out.ext (ext_alloc1 X (.cells #[.int .i64 yh, .int .i64 ys, .int .i64 yr, .int .i64 yt] 66))))
        obtain ⟨X', hX⟩ : ∃ X', X.alloc (.cells #[.int .i64 yh, .int .i64 ys, .int .i64 yr, .int .i64 yt] 66) = X' := ⟨_, rfl⟩
        (try rw [hX] at BZ)
        (try rw [hX] at OV)
        rw [hX] at EX BY ⊢
        rw [hq] at BY hyX ⊢
        obtain ⟨X, rfl⟩ : ∃ Y, Y = X' := ⟨_, rfl⟩
        clear hHeld hX hq
        refine hK.out _ _ (sK EX) (fun hHeld => ?_)
        clear hK K
        try simp only [Act.put, List.getElem_toArray, List.getElem_cons_zero, List.getElem_cons_succ, List.setIfInBounds_toArray, List.set_cons_zero, List.set_cons_succ]
        refine wpAnyH_ready (rs := [7]) (by kernel_rfl) (by simp) ?_
        refine AllReadyH.cons (o := _) rfl (fun K hK => ?_) AllReadyH.nil
        refine wp_app1Sg _ _ _ rfl w9.heap.size (.slice A3 seen.length c3) seen rfl OV.out q ⟨yh, ys, yr, yt⟩ rfl BY.out (by rw [HSL.out]; omega) EX.size ?_
        intro v5 X5 hO5 hg5
        have hfar := OV.out.block
        replace EX : Ext w9 X5 := Below.grown EX hg5 EX.size (fun r hr => (hfar r hr).1)
        rw [← HSN.out] at hO5
        have hl5 : sn2.length = m + 1 := by rw [HSN.out, List.length_append, HSL.out]; rfl
        obtain ⟨A4, c4, rfl, -, hf4, -⟩ := (hO5.form (by decide) (fun _ => rfl) zeroSg)
        have HSX := hid (flat_sgs.1 hf4)
        rw [hl5]
        clear hHeld hg5 hO5 hf4 hfar OV BY hl5
        refine hK.out _ _ (sK EX) (fun hHeld => ?_)
        clear hK K
        try simp only [Act.put, List.getElem_toArray, List.getElem_cons_zero, List.getElem_cons_succ, List.setIfInBounds_toArray, List.set_cons_zero, List.set_cons_succ]
        refine wpAnyH_take (i := 8) (oi := _) (v := ?v8vvf) rfl (by kernel_rfl) (by kernel_rfl) (by kernel_rfl) (fun _ _ _ h => h) (Or.inl ⟨by rfl, ?y8vvf⟩) (by assumption) ?r8vvf
        case y8vvf => (intro w' hSw; (try dsimp only at hSw); go_simp; (try with_reducible rfl))
        try simp only [Act.put, List.getElem_toArray, List.getElem_cons_zero, List.getElem_cons_succ, List.setIfInBounds_toArray, List.set_cons_zero, List.set_cons_succ]
        refine wpAnyH_done (by kernel_rfl) ?_ _
        exact REST _ _ _ _ _ _ EX HSX
      · go_simp
        have BY := hid (show Blk _ _ _ _ from blk_last X (.cells #[.int .i64 yh, .int .i64 ys, .int .i64 yr, .int .i64 yt] 66))
        have hyX : w9.heap.size ≤ X.heap.size := EX.size
        obtain ⟨q, hq⟩ : ∃ q, X.heap.size = q := ⟨_, rfl⟩
        replace EX := EX.alloc (.cells #[.int .i64 yh, .int .i64 ys, .int .i64 yr, .int .i64 yt] 66)
        (try replace BZ := hid (BZ.out.ext (ext_alloc1 X (.cells #[.int .i64 yh, .int .i64 ys, .int .i64 yr, .int .i64 yt] 66))))
        (try replace OV := hid (OV.out.ext (ext_alloc1 X (.cells #[.int .i64 yh, .int .i64 ys, .int .i64 yr, .int .i64 yt] 66))))
        obtain ⟨X', hX⟩ : ∃ X', X.alloc (.cells #[.int .i64 yh, .int .i64 ys, .int .i64 yr, .int .i64 yt] 66) = X' := ⟨_, rfl⟩
        (try rw [hX] at BZ)
        (try rw [hX] at OV)
        rw [hX] at EX BY ⊢
        rw [hq] at BY hyX ⊢
        obtain ⟨X, rfl⟩ : ∃ Y, Y = X' := ⟨_, rfl⟩
        clear hHeld hX hq
        refine hK.out _ _ (sK EX) (fun hHeld => ?_)
        clear hK K
        try simp only [Act.put, List.getElem_toArray, List.getElem_cons_zero, List.getElem_cons_succ, List.setIfInBounds_toArray, List.set_cons_zero, List.set_cons_succ]
        refine wpAnyH_ready (rs := [3]) (by kernel_rfl) (by simp) ?_
        refine AllReadyH.cons (o := _) rfl (fun K hK => ?_) AllReadyH.nil
        refine wp_appAllSg _ _ _ rfl w9.heap.size z SA sc seen rfl BZ.out hzX m HSL.out rfl (HSG0.out.ext (HE09.out.trans EX)) (by omega) ?_
        intro v4 X4 hO4 hg4
        have hE4 := EX
        replace EX : Ext w9 X4 := Below.grown EX hg4 EX.size (fun r hr => by injection hr with hr; subst hr; exact hzX)
        have OV := hid hO4
        (try replace BY := hid (show Blk X4 q 66 #[.int .i64 yh, .int .i64 ys, .int .i64 yr, .int .i64 yt] from BY.out.grown hg4 (by intro e; injection e with e; subst e; have h9 := (show X.heap[_]? = _ from BY.out).symm.trans (show X.heap[_]? = _ from BZ.out); simp at h9)))
        clear hHeld hg4 hO4 hE4 BZ
        obtain ⟨X, rfl⟩ : ∃ Y, Y = X4 := ⟨_, rfl⟩
        obtain ⟨A3, c3, rfl, -, -, -⟩ := (OV.out.form (by decide) (fun _ => rfl) zeroSg)
        refine hK.out _ _ (sK EX) (fun hHeld => ?_)
        clear hK K
        try simp only [Act.put, List.getElem_toArray, List.getElem_cons_zero, List.getElem_cons_succ, List.setIfInBounds_toArray, List.set_cons_zero, List.set_cons_succ]
        refine wpAnyH_ready (rs := [7]) (by kernel_rfl) (by simp) ?_
        refine AllReadyH.cons (o := _) rfl (fun K hK => ?_) AllReadyH.nil
        refine wp_app1Sg _ _ _ rfl w9.heap.size (.slice A3 seen.length c3) seen rfl OV.out q ⟨yh, ys, yr, yt⟩ rfl BY.out (by rw [HSL.out]; omega) EX.size ?_
        intro v5 X5 hO5 hg5
        have hfar := OV.out.block
        replace EX : Ext w9 X5 := Below.grown EX hg5 EX.size (fun r hr => (hfar r hr).1)
        rw [← HSN.out] at hO5
        have hl5 : sn2.length = m + 1 := by rw [HSN.out, List.length_append, HSL.out]; rfl
        obtain ⟨A4, c4, rfl, -, hf4, -⟩ := (hO5.form (by decide) (fun _ => rfl) zeroSg)
        have HSX := hid (flat_sgs.1 hf4)
        rw [hl5]
        clear hHeld hg5 hO5 hf4 hfar OV BY hl5
        refine hK.out _ _ (sK EX) (fun hHeld => ?_)
        clear hK K
        try simp only [Act.put, List.getElem_toArray, List.getElem_cons_zero, List.getElem_cons_succ, List.setIfInBounds_toArray, List.set_cons_zero, List.set_cons_succ]
        refine wpAnyH_take (i := 8) (oi := _) (v := ?v8vvg) rfl (by kernel_rfl) (by kernel_rfl) (by kernel_rfl) (fun _ _ _ h => h) (Or.inl ⟨by rfl, ?y8vvg⟩) (by assumption) ?r8vvg
        case y8vvg => (intro w' hSw; (try dsimp only at hSw); go_simp; (try with_reducible rfl))
        try simp only [Act.put, List.getElem_toArray, List.getElem_cons_zero, List.getElem_cons_succ, List.setIfInBounds_toArray, List.set_cons_zero, List.set_cons_succ]
        refine wpAnyH_done (by kernel_rfl) ?_ _
        exact REST _ _ _ _ _ _ EX HSX
    · go_simp
      have BY := hid (show Blk _ _ _ _ from blk_last X (.cells #[.int .i64 yh, .int .i64 ys, .int .i64 yr, .int .i64 yt] 66))
      have hyX : w9.heap.size ≤ X.heap.size := EX.size
      obtain ⟨q, hq⟩ : ∃ q, X.heap.size = q := ⟨_, rfl⟩
      replace EX := EX.alloc (.cells #[.int .i64 yh, .int .i64 ys, .int .i64 yr, .int .i64 yt] 66)
      (try replace BZ := hid (BZ.out.ext (ext_alloc1 X (.cells #[.int .i64 yh, .int .i64 ys, .int .i64 yr, .int .i64 yt] 66))))
      (try replace OV := hid (OV.out.ext (ext_alloc1 X (.cells #[.int .i64 yh, .int .i64 ys, .int .i64 yr, .int .i64 yt] 66))))
      obtain ⟨X', hX⟩ : ∃ X', X.alloc (.cells #[.int .i64 yh, .int .i64 ys, .int .i64 yr, .int .i64 yt] 66) = X' := ⟨_, rfl⟩
      (try rw [hX] at BZ)
      (try rw [hX] at OV)
      rw [hX] at EX BY ⊢
      rw [hq] at BY hyX ⊢
      obtain ⟨X, rfl⟩ : ∃ Y, Y = X' := ⟨_, rfl⟩
      clear hHeld hX hq
      refine hK.out _ _ (sK EX) (fun hHeld => ?_)
      clear hK K
      try simp only [Act.put, List.getElem_toArray, List.getElem_cons_zero, List.getElem_cons_succ, List.setIfInBounds_toArray, List.set_cons_zero, List.set_cons_succ]
      refine wpAnyH_ready (rs := [0]) (by kernel_rfl) (by simp) ?_
      refine AllReadyH.cons (o := _) rfl (fun K hK => ?_) AllReadyH.nil
      go_simp
      have BZ := hid (show Blk _ _ _ _ from blk_last X (.cells #[] 66))
      have hzX : w9.heap.size ≤ X.heap.size := EX.size
      obtain ⟨z, hz⟩ : ∃ z, X.heap.size = z := ⟨_, rfl⟩
      replace EX := EX.alloc (.cells #[] 66)
      (try replace BY := hid (BY.out.ext (ext_alloc1 X (.cells #[] 66))))
      obtain ⟨X', hX⟩ : ∃ X', X.alloc (.cells #[] 66) = X' := ⟨_, rfl⟩
      (try rw [hX] at BY)
      rw [hX] at EX BZ ⊢
      rw [hz] at BZ hzX ⊢
      obtain ⟨X, rfl⟩ : ∃ Y, Y = X' := ⟨_, rfl⟩
      clear hHeld hX hz
      refine hK.out _ _ (sK EX) (fun hHeld => ?_)
      clear hK K
      try simp only [Act.put, List.getElem_toArray, List.getElem_cons_zero, List.getElem_cons_succ, List.setIfInBounds_toArray, List.set_cons_zero, List.set_cons_succ]
      refine wpAnyH_ready (rs := [3]) (by kernel_rfl) (by simp) ?_
      refine AllReadyH.cons (o := _) rfl (fun K hK => ?_) AllReadyH.nil
      refine wp_appAllSg _ _ _ rfl w9.heap.size z SA sc seen rfl BZ.out hzX m HSL.out rfl (HSG0.out.ext (HE09.out.trans EX)) (by omega) ?_
      intro v4 X4 hO4 hg4
      have hE4 := EX
      replace EX : Ext w9 X4 := Below.grown EX hg4 EX.size (fun r hr => by injection hr with hr; subst hr; exact hzX)
      have OV := hid hO4
      (try replace BY := hid (show Blk X4 q 66 #[.int .i64 yh, .int .i64 ys, .int .i64 yr, .int .i64 yt] from BY.out.grown hg4 (by intro e; injection e with e; subst e; have h9 := (show X.heap[_]? = _ from BY.out).symm.trans (show X.heap[_]? = _ from BZ.out); simp at h9)))
      clear hHeld hg4 hO4 hE4 BZ
      obtain ⟨X, rfl⟩ : ∃ Y, Y = X4 := ⟨_, rfl⟩
      obtain ⟨A3, c3, rfl, -, -, -⟩ := (OV.out.form (by decide) (fun _ => rfl) zeroSg)
      refine hK.out _ _ (sK EX) (fun hHeld => ?_)
      clear hK K
      try simp only [Act.put, List.getElem_toArray, List.getElem_cons_zero, List.getElem_cons_succ, List.setIfInBounds_toArray, List.set_cons_zero, List.set_cons_succ]
      refine wpAnyH_ready (rs := [7]) (by kernel_rfl) (by simp) ?_
      refine AllReadyH.cons (o := _) rfl (fun K hK => ?_) AllReadyH.nil
      refine wp_app1Sg _ _ _ rfl w9.heap.size (.slice A3 seen.length c3) seen rfl OV.out q ⟨yh, ys, yr, yt⟩ rfl BY.out (by rw [HSL.out]; omega) EX.size ?_
      intro v5 X5 hO5 hg5
      have hfar := OV.out.block
      replace EX : Ext w9 X5 := Below.grown EX hg5 EX.size (fun r hr => (hfar r hr).1)
      rw [← HSN.out] at hO5
      have hl5 : sn2.length = m + 1 := by rw [HSN.out, List.length_append, HSL.out]; rfl
      obtain ⟨A4, c4, rfl, -, hf4, -⟩ := (hO5.form (by decide) (fun _ => rfl) zeroSg)
      have HSX := hid (flat_sgs.1 hf4)
      rw [hl5]
      clear hHeld hg5 hO5 hf4 hfar OV BY hl5
      refine hK.out _ _ (sK EX) (fun hHeld => ?_)
      clear hK K
      try simp only [Act.put, List.getElem_toArray, List.getElem_cons_zero, List.getElem_cons_succ, List.setIfInBounds_toArray, List.set_cons_zero, List.set_cons_succ]
      refine wpAnyH_take (i := 8) (oi := _) (v := ?v8vvh) rfl (by kernel_rfl) (by kernel_rfl) (by kernel_rfl) (fun _ _ _ h => h) (Or.inl ⟨by rfl, ?y8vvh⟩) (by assumption) ?r8vvh
      case y8vvh => (intro w' hSw; (try dsimp only at hSw); go_simp; (try with_reducible rfl))
      try simp only [Act.put, List.getElem_toArray, List.getElem_cons_zero, List.getElem_cons_succ, List.setIfInBounds_toArray, List.set_cons_zero, List.set_cons_succ]
      refine wpAnyH_done (by kernel_rfl) ?_ _
      exact REST _ _ _ _ _ _ EX HSX
end Go.Proofs.YtcpkdnegmblonaaDoor
