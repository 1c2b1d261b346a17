/- The law of what is open: the specification's answers. -/
import Derived.Test.YtecamnhnjmldcaaGreatDoorBTopOpens39
import Derived.Test.YtecamnhnjmldcaaGreatDoorBTopOpens41
import Derived.Test.YtecamnhnjmldcaaGreatDoorBTopOpens42
import Derived.Test.YtecamnhnjmldcaaGreatDoorBTopOpens43
import Derived.Test.YtecamnhnjmldcaaGreatDoorBTopOpens35
import Derived.Test.YtecamnhnjmldcaaGreatDoorB21
set_option linter.unusedSimpArgs false
set_option linter.unusedVariables false
namespace Go.Proofs.YtecamnhnjmldcaaGreatDoor
open Go.RowKit
def Apt (lo hi s : Nat) : Prop := s < lo ∨ hi ≤ s
theorem Apt.up {lo hi s : Nat} (h : hi ≤ s) : Apt lo hi s := .inr h
theorem Apt.dn {lo hi s : Nat} (h : s < lo) : Apt lo hi s := .inl h
theorem OpsIn.setsN {g : Nat} {ok : Nat → Prop} {xs : List PtX} (hok : ∀ b, ok b → b ≠ g) : ∀ (vs : List Value) (o : Nat) {w : World}, OpsIn w ok xs → OpsIn (w.setCells g o vs) ok xs
  | [], _, _, h => h
  | v :: r, o, _, h => OpsIn.setsN hok r (o + 1) (h.set (p := ⟨g, o, none⟩) hok v)
theorem Ownl.setsN {α : Type} {e : TypeId} {s : Nat} {gg : α → List Value} {B g : Nat} {v : Value} {xs : List α} (hne : v.ownBlock ≠ some g) : ∀ (vs : List Value) (o : Nat) {w : World}, Ownl e s gg w B v xs → Ownl e s gg (w.setCells g o vs) B v xs
  | [], _, _, h => h
  | u :: r, o, _, h => Ownl.setsN hne r (o + 1) (h.otherNe (p := ⟨g, o, none⟩) hne u)
theorem OpsIn.setsB {w : World} {g : Nat} {t : TypeId} {cs : Array Value} {ok : Nat → Prop} {xs : List PtX} (_ : Blk w g t cs) (h : OpsIn w ok xs) (hok : ∀ b, ok b → b ≠ g) (vs : List Value) (o : Nat) : OpsIn (w.setCells g o vs) ok xs := OpsIn.setsN hok vs o h
theorem Ownl.setsB {α : Type} {e : TypeId} {s : Nat} {gg : α → List Value} {w : World} {B g : Nat} {t : TypeId} {cs : Array Value} {v : Value} {xs : List α} (_ : Blk w g t cs) (h : Ownl e s gg w B v xs) (hne : v.ownBlock ≠ some g) (vs : List Value) (o : Nat) : Ownl e s gg (w.setCells g o vs) B v xs := Ownl.setsN hne vs o h
theorem paths_of {w : World} {B n c : Nat} {A : Option Addr} {xs : List PtX} {ps : List Pt} {ok : Nat → Prop} (hm : xs.map (·.1) = ps) (hx : OpsIn w ok xs) (hw : Ownl 64 8 gPt w B (.slice A n c) xs) : PathsAt w A ps := by
  obtain ⟨A2, c2, e, -, hf, -⟩ := hw.form (by decide) (fun _ => rfl) zeroPx
  injection e with e
  subst e
  rw [← hm]
  exact hx.paths hf
theorem rls_of {w : World} {B n c : Nat} {A : Option Addr} {xs : List Rl} (hw : Ownl 79 6 gRl w B (.slice A n c) xs) : RlsAt w A xs := by
  obtain ⟨A2, c2, e, -, hf, -⟩ := hw.form (by decide) (fun _ => rfl) zeroRl
  injection e with e
  subst e
  exact flat_rls.1 hf
theorem sizeOfX {W X : World} (_ : Ext W X) : ∃ n, X.heap.size = n := ⟨_, rfl⟩
theorem infoRl9 : (Tryz.prog.info? 79).map (fun i => (i.zero, i.size, i.bytes)) = some (some (.agg #[.int .i64 0, .int .i64 0, .int .i64 0, .int .i64 0, .int .i64 0, .int .i64 0]), 6, 48) := by kernel_rfl
theorem wp_appAllRl {o : Oper} {a : Act} {K : Act → World → Prop} {Q : Exit → Act → World → Prop} (w : World) (l x : Operand)
    (ho : o.op = .call { callee := .builtin .append, args := #[l, x], argTypes := #[48, 48] }) (B z : Nat) (A : Option Addr) (c : Nat) (os : List Rl) (hs : a.eval l = .slice (some ⟨z, 0, none⟩) 0 0) (hz : Blk w z 79 #[]) (hBz : B ≤ z)
    (n : Nat) (hn : os.length = n) (hx : a.eval x = .slice A n c) (hO : RlsAt w A os) (hl : n ≤ 10000)
    (h : ∀ v' w', Ownl 79 6 gRl w' B v' os → w.grownBy w' (some z) → K (a.put o.dst v') w') : o.wp Tryz.prog a w K Q := by
  subst hn
  obtain ⟨i0, hi, hz0, hz1, hz2⟩ := info_parts infoRl9
  exact wp_appendAllG zeroRl w l x 48 79 ho Tryz.underlying48 hi hz0 hz1 hz2 rfl (by decide) (by decide) (fun _ => rfl) oneRl B z A c os hs hz hBz hx (flat_rls.2 hO) hl h
theorem infoNet1 : (Tryz.prog.info? 47).map (·.size) = some 2 := by kernel_rfl
theorem net_one (m : Int) (A : Option Addr) (n c : Nat) : (#[.int .i64 m, .slice A n c] : Array Value).all (·.oneCell') = true :=
  one_of (vs := [.int .i64 m, .slice A n c]) (by intro v hv; simp only [List.mem_cons, List.not_mem_nil, or_false] at hv; rcases hv with rfl | rfl <;> rfl)
theorem opnS_len (f : List (List Hr)) (seen : List Sg) (m : Int) (ps : List Pt) (rs : List Rl) (path : Int) : (opnS f seen m ps rs path).length ≤ hoursN f := by
  unfold opnS sureM
  split
  · exact spansM_len _ _
  · simp
theorem opnM_len (f : List (List Hr)) (seen : List Sg) (m : Int) (ps : List Pt) (rs : List Rl) (path : Int) : (opnM f seen m ps rs path).length ≤ hoursN f := by
  unfold opnM mayM
  split
  · exact spansM_len _ _
  · simp
/-- The paths of Safe, none if there is an error. -/
def safQ (f : List (List Hr)) (seen : List Sg) (m : Int) (ps : List Pt) (rs : List Rl) : List Pt := if safE f seen m ps rs = 0 then safP rs (scsM seen f) (hoursN f) ps else []
def safMm (f : List (List Hr)) (seen : List Sg) (m : Int) (ps : List Pt) (rs : List Rl) : Int := if safE f seen m ps rs = 0 then m else 0
theorem safP_lenO (rs : List Rl) (ss : List (List Hr)) (N : Nat) (ps : List Pt) : (safP rs ss N ps).length = ps.length := by unfold safP; simp
theorem safP_atO (rs : List Rl) (ss : List (List Hr)) (N : Nat) (ps : List Pt) (k : Nat) (hk : k < ps.length) : ((safP rs ss N ps).getD k zeroPt).opens = safeM (forP rs k) ss N (ps.getD k zeroPt).opens := by
  unfold safP
  simp only [List.getD_eq_getElem?_getD, List.getElem?_mapIdx, List.getElem?_eq_getElem hk]
  rfl
theorem safe_len6 (rs : List Rl) (ss : List (List Hr)) (n : Nat) (os : List (Int × Int)) (h : os.length ≤ 6) : (safeM rs ss n os).length ≤ 6 := by
  unfold safeM
  split
  · exact h
  · exact List.length_take_le _ _
theorem safQ_len {f : List (List Hr)} {seen : List Sg} {m : Int} {ps : List Pt} {rs : List Rl} : (safQ f seen m ps rs).length ≤ ps.length := by
  unfold safQ
  split
  · rw [safP_lenO]; exact Nat.le_refl _
  · simp
theorem safQ_ops {f : List (List Hr)} {seen : List Sg} {m : Int} {ps : List Pt} {rs : List Rl} (k : Nat) (hk : k < (safQ f seen m ps rs).length) : ((safQ f seen m ps rs).getD k zeroPt).opens.length ≤ 1000 := by
  unfold safQ at *
  by_cases h : safE f seen m ps rs = 0
  · rw [if_pos h] at *
    rw [safP_lenO] at hk
    rw [safP_atO rs _ _ ps k hk]
    have := safe_len6 (forP rs k) (scsM seen f) (hoursN f) (ps.getD k zeroPt).opens (vNet_ops (safE_ok h).net _ (mem_at ps zeroPt k hk))
    omega
  · rw [if_neg h] at hk
    simp at hk
/-- What Safe returns, said as one net. -/
theorem SafeIs.net {f : List (List Hr)} {seen : List Sg} {m : Int} {ps : List Pt} {rs : List Rl} {w : World} {e : Ending} {w' : World} (h : SafeIs f seen m ps rs w e w') :
    ∃ A' c', e = .returned (.tuple #[.agg #[.int .i64 (safMm f seen m ps rs), .slice A' (safQ f seen m ps rs).length c'], .int .i64 (safE f seen m ps rs)]) ∧ PathsAt w' A' (safQ f seen m ps rs) ∧ Ext w w' := by
  obtain ⟨m', A', n', c', he, h1, h2, hE⟩ := h
  by_cases h0 : safE f seen m ps rs = 0
  · obtain ⟨rfl, rfl, _, hp⟩ := h1 h0
    refine ⟨A', c', ?_, ?_, hE⟩
    · rw [he]
      unfold safMm safQ
      rw [if_pos h0, if_pos h0, safP_lenO]
    · unfold safQ
      rw [if_pos h0]
      exact hp
  · obtain ⟨rfl, rfl⟩ := h2 h0
    refine ⟨A', c', ?_, ?_, hE⟩
    · rw [he]
      unfold safMm safQ
      rw [if_neg h0, if_neg h0]
      rfl
    · unfold safQ
      rw [if_neg h0]
      exact fun hne => absurd rfl hne
set_option maxHeartbeats 16000000 in
set_option maxRecDepth 100000 in
theorem lopens_any (f : List (List Hr)) (A : Option Addr) (n c : Nat) (seen : List Sg) (SA : Option Addr) (sm sc : Nat) (m : Int) (ps : List Pt) (NA : Option Addr) (nn nc : Nat) (hpn : ps.length = nn) (rs : List Rl) (RA : Option Addr) (rn rc : Nat) (hrn : rs.length = rn) (path : Int)
    (w : World) (h : AIn w f A n seen SA sm) (hp : PathsAt w NA ps) (hr : RlsAt w RA rs) :
    Calls Tryz.prog 4 #[.agg #[.slice A n c], .slice SA sm sc, .agg #[.int .i64 m, .slice NA nn nc, .slice RA rn rc, .int .i64 path]] w fun e w' => e = .returned (.bool true) ∧ Ext w w' := by
  have HWK := hid (fun (W : World) (hW : Ext w W) => works_any W (h.wid.ext hW))
  have HF := hid (fun (W : World) (hW : Ext w W) => far_any f A n c h.hn SA sm sc W (h.sc.ext hW))
  have HFR := hid (fun (W : World) (hW : Ext w W) => lfarRules_any m ps NA nn nc hpn RA rn rc path W (hp.ext hW))
  have HB0 := hid (show Blk _ _ _ _ from blk_old (blk_last w (.cells #[.slice A n c] 24)) (.cells #[.int .i64 m, .slice NA nn nc, .slice RA rn rc, .int .i64 path] 50))
  have HB1 := hid (show Blk _ _ _ _ from blk_last (w.alloc (.cells #[.slice A n c] 24)) (.cells #[.int .i64 m, .slice NA nn nc, .slice RA rn rc, .int .i64 path] 50))
  rw [World.size_alloc] at HB1
  have E : Ext w ((w.alloc (.cells #[.slice A n c] 24)).alloc (.cells #[.int .i64 m, .slice NA nn nc, .slice RA rn rc, .int .i64 path] 50)) := by (repeat' (first | with_reducible assumption | with_reducible exact Ext.refl _ | with_reducible refine Ext.alloc ?_ _ | with_reducible refine Ext.set ?_ ?_ _ | with_reducible refine Ext.drew ?_ | with_reducible refine Ext.drewN ?_ _ | with_reducible refine Ext.trans ?_ (by assumption) | (dsimp only; omega)))
  cases hfar : farB f sm
  case true =>
    rw [hfar] at HF
    clear h hp hr
    go_enter Tryz.func4, Tryz.ntmps4
    go_wp2_with fail
    refine (HF.out _ E).mono ?_
    rintro e w2 ⟨rfl, hE⟩
    replace E := E.trans hE
    replace HB0 := hid (HB0.out.ext hE)
    replace HB1 := hid (HB1.out.ext hE)
    (try replace HSC := hid (HSC.out.ext hE))
    (try replace HSG := hid (HSG.out.ext hE))
    (try replace HP3 := hid (HP3.out.ext hE))
    (try replace HR3 := hid (HR3.out.ext hE))
    (try replace HQ1 := hid (HQ1.out.ext hE))
    (try replace HQ2 := hid (HQ2.out.ext hE))
    (try replace HQ3 := hid (HQ3.out.ext hE))
    (try replace HQ4 := hid (HQ4.out.ext hE))
    (try replace HB7 := hid (HB7.out.ext hE))
    (try replace HB9 := hid (HB9.out.ext hE))
    (try replace HBM := hid (HBM.out.ext hE))
    clear hE
    (try clear a0 z0 zE z1 l0 l1 l2 l3)
    (try clear a7 z7)
    (try clear a9 b9 z9)
    (try clear am bm zm)
    have a0 := HB0.out.cell 0
    have z0 := HB0.out.lt
    obtain ⟨l0, l1, l2, l3⟩ : _ ∧ _ ∧ _ ∧ _ := ⟨HB1.out.cell 0, HB1.out.cell 1, HB1.out.cell 2, HB1.out.cell 3⟩
    have z1 := HB1.out.lt
    have zE := E.size
    simp only [List.getElem?_toArray, List.getElem?_cons_zero, List.getElem?_cons_succ] at a0 l0 l1 l2 l3
    (try (have a7 := HB7.out.cell 0; have z7 := HB7.out.lt; simp only [List.getElem?_toArray, List.getElem?_cons_zero] at a7))
    (try (have a9 := HB9.out.cell 0; have b9 := HB9.out.cell 1; have z9 := HB9.out.lt; simp only [List.getElem?_toArray, List.getElem?_cons_zero, List.getElem?_cons_succ] at a9 b9))
    (try (have am := HBM.out.cell 0; have bm := HBM.out.cell 1; have zm := HBM.out.lt; simp only [List.getElem?_toArray, List.getElem?_cons_zero, List.getElem?_cons_succ] at am bm))
    go_wp2_with fail
    refine (HWK.out _ (by (repeat' (first | with_reducible assumption | with_reducible exact Ext.refl _ | with_reducible refine Ext.alloc ?_ _ | with_reducible refine Ext.set ?_ ?_ _ | with_reducible refine Ext.drew ?_ | with_reducible refine Ext.drewN ?_ _ | with_reducible refine Ext.trans ?_ (by assumption) | (dsimp only; omega))))).mono ?_
    rintro e w9 ⟨rfl, hE9⟩
    have EZ : Ext w w9 := by (repeat' (first | with_reducible assumption | with_reducible exact Ext.refl _ | with_reducible refine Ext.alloc ?_ _ | with_reducible refine Ext.set ?_ ?_ _ | with_reducible refine Ext.drew ?_ | with_reducible refine Ext.drewN ?_ _ | with_reducible refine Ext.trans ?_ (by assumption) | (dsimp only; omega)))
    go_wp2
    go_ret
    exact ⟨rfl, EZ⟩
  rw [hfar] at HF
  have h0 := h.fin hfar
  by_cases hnear : NearOk m ps ∧ rn ≤ 14
  case neg =>
    clear h hp hr h0
    go_enter Tryz.func4, Tryz.ntmps4
    go_wp2_with fail
    refine (HF.out _ E).mono ?_
    rintro e w2 ⟨rfl, hE⟩
    replace E := E.trans hE
    replace HB0 := hid (HB0.out.ext hE)
    replace HB1 := hid (HB1.out.ext hE)
    (try replace HSC := hid (HSC.out.ext hE))
    (try replace HSG := hid (HSG.out.ext hE))
    (try replace HP3 := hid (HP3.out.ext hE))
    (try replace HR3 := hid (HR3.out.ext hE))
    (try replace HQ1 := hid (HQ1.out.ext hE))
    (try replace HQ2 := hid (HQ2.out.ext hE))
    (try replace HQ3 := hid (HQ3.out.ext hE))
    (try replace HQ4 := hid (HQ4.out.ext hE))
    (try replace HB7 := hid (HB7.out.ext hE))
    (try replace HB9 := hid (HB9.out.ext hE))
    (try replace HBM := hid (HBM.out.ext hE))
    clear hE
    (try clear a0 z0 zE z1 l0 l1 l2 l3)
    (try clear a7 z7)
    (try clear a9 b9 z9)
    (try clear am bm zm)
    have a0 := HB0.out.cell 0
    have z0 := HB0.out.lt
    obtain ⟨l0, l1, l2, l3⟩ : _ ∧ _ ∧ _ ∧ _ := ⟨HB1.out.cell 0, HB1.out.cell 1, HB1.out.cell 2, HB1.out.cell 3⟩
    have z1 := HB1.out.lt
    have zE := E.size
    simp only [List.getElem?_toArray, List.getElem?_cons_zero, List.getElem?_cons_succ] at a0 l0 l1 l2 l3
    (try (have a7 := HB7.out.cell 0; have z7 := HB7.out.lt; simp only [List.getElem?_toArray, List.getElem?_cons_zero] at a7))
    (try (have a9 := HB9.out.cell 0; have b9 := HB9.out.cell 1; have z9 := HB9.out.lt; simp only [List.getElem?_toArray, List.getElem?_cons_zero, List.getElem?_cons_succ] at a9 b9))
    (try (have am := HBM.out.cell 0; have bm := HBM.out.cell 1; have zm := HBM.out.lt; simp only [List.getElem?_toArray, List.getElem?_cons_zero, List.getElem?_cons_succ] at am bm))
    go_wp2_with fail
    refine (HFR.out _ E).mono ?_
    rintro e w3 ⟨⟨B, rfl, hB⟩, hE⟩
    cases B
    case false => exact absurd (hB rfl) hnear
    replace E := E.trans hE
    replace HB0 := hid (HB0.out.ext hE)
    replace HB1 := hid (HB1.out.ext hE)
    (try replace HSC := hid (HSC.out.ext hE))
    (try replace HSG := hid (HSG.out.ext hE))
    (try replace HP3 := hid (HP3.out.ext hE))
    (try replace HR3 := hid (HR3.out.ext hE))
    (try replace HQ1 := hid (HQ1.out.ext hE))
    (try replace HQ2 := hid (HQ2.out.ext hE))
    (try replace HQ3 := hid (HQ3.out.ext hE))
    (try replace HQ4 := hid (HQ4.out.ext hE))
    (try replace HB7 := hid (HB7.out.ext hE))
    (try replace HB9 := hid (HB9.out.ext hE))
    (try replace HBM := hid (HBM.out.ext hE))
    clear hE
    (try clear a0 z0 zE z1 l0 l1 l2 l3)
    (try clear a7 z7)
    (try clear a9 b9 z9)
    (try clear am bm zm)
    have a0 := HB0.out.cell 0
    have z0 := HB0.out.lt
    obtain ⟨l0, l1, l2, l3⟩ : _ ∧ _ ∧ _ ∧ _ := ⟨HB1.out.cell 0, HB1.out.cell 1, HB1.out.cell 2, HB1.out.cell 3⟩
    have z1 := HB1.out.lt
    have zE := E.size
    simp only [List.getElem?_toArray, List.getElem?_cons_zero, List.getElem?_cons_succ] at a0 l0 l1 l2 l3
    (try (have a7 := HB7.out.cell 0; have z7 := HB7.out.lt; simp only [List.getElem?_toArray, List.getElem?_cons_zero] at a7))
    (try (have a9 := HB9.out.cell 0; have b9 := HB9.out.cell 1; have z9 := HB9.out.lt; simp only [List.getElem?_toArray, List.getElem?_cons_zero, List.getElem?_cons_succ] at a9 b9))
    (try (have am := HBM.out.cell 0; have bm := HBM.out.cell 1; have zm := HBM.out.lt; simp only [List.getElem?_toArray, List.getElem?_cons_zero, List.getElem?_cons_succ] at am bm))
    clear hB
    go_wp2_with fail
    refine (HWK.out _ (by (repeat' (first | with_reducible assumption | with_reducible exact Ext.refl _ | with_reducible refine Ext.alloc ?_ _ | with_reducible refine Ext.set ?_ ?_ _ | with_reducible refine Ext.drew ?_ | with_reducible refine Ext.drewN ?_ _ | with_reducible refine Ext.trans ?_ (by assumption) | (dsimp only; omega))))).mono ?_
    rintro e w9 ⟨rfl, hE9⟩
    have EZ : Ext w w9 := by (repeat' (first | with_reducible assumption | with_reducible exact Ext.refl _ | with_reducible refine Ext.alloc ?_ _ | with_reducible refine Ext.set ?_ ?_ _ | with_reducible refine Ext.drew ?_ | with_reducible refine Ext.drewN ?_ _ | with_reducible refine Ext.trans ?_ (by assumption) | (dsimp only; omega)))
    go_wp2
    go_ret
    exact ⟨rfl, EZ⟩
  have hn26 : nn ≤ 26 := by have := hnear.1.1; omega
  have hr14 : rn ≤ 14 := hnear.2
  have HIN := hid (fun (A2 : Option Addr) (SA2 : Option Addr) (W : World) (hW : Ext w W) (h1 : ScsAt W A2 f) (h2 : SgsAt W SA2 seen) => (⟨h0.hn, h0.hm, h0.hx, h0.hl, h0.hm2, h0.hwf, h1, h2, h0.wid.ext hW⟩ : FIn W f A2 n seen SA2 sm))
  have HCP := hid (fun (W : World) (hW : Ext w W) => rCopy_any f A n c h0.hn h0.hm (fun x hx => by have := h0.hx x hx; omega) W (h0.sc.ext hW))
  have HCN := hid (fun (W : World) (hW : Ext w W) => rCopyNet_any m ps NA nn nc hpn (by omega) (fun k hk => by have := hnear.1.2 k (by omega); omega) W (hp.ext hW))
  have HO1 := hid (fun (A2 : Option Addr) (c2 : Nat) (SA2 : Option Addr) (sc2 : Nat) (VA : Option Addr) (vc : Nat) (RA2 : Option Addr) (rc2 : Nat) (W : World) (hW : Ext w W) (h1 : ScsAt W A2 f) (h2 : SgsAt W SA2 seen) (h3 : PathsAt W VA ps) (h4 : RlsAt W RA2 rs) => open_any f A2 n c2 seen SA2 sm sc2 m ps VA nn vc hpn (by omega) rs RA2 rn rc2 hrn (by omega) path W (HIN.out A2 SA2 W hW h1 h2) h3 h4)
  have HO2 := hid (fun (W : World) (hW : Ext w W) => rOpen_any f A n c seen SA sm sc m ps NA nn nc hpn (by omega) rs RA rn rc hrn (by omega) path W (h0.ext hW) (hp.ext hW) (hr.ext hW))
  have HS1 := hid (fun (A2 : Option Addr) (c2 : Nat) (SA2 : Option Addr) (sc2 : Nat) (VA : Option Addr) (vc : Nat) (RA2 : Option Addr) (rc2 : Nat) (W : World) (hW : Ext w W) (h1 : ScsAt W A2 f) (h2 : SgsAt W SA2 seen) (h3 : PathsAt W VA ps) (h4 : RlsAt W RA2 rs) => (safe_any f A2 n c2 seen SA2 sm sc2 m ps VA nn vc hpn (by omega) rs RA2 rn rc2 hrn (by omega) W (HIN.out A2 SA2 W hW h1 h2) h3 h4).mono fun e w' hw => SafeIs.net hw)
  have HS2 := hid (fun (W : World) (hW : Ext w W) => (rSafe_any f A n c seen SA sm sc m ps NA nn nc hpn (by omega) rs RA rn rc hrn (by omega) W (h0.ext hW) (hp.ext hW) (hr.ext hW)).mono fun e w' hw => SafeIs.net hw)
  have hN := h0.hours
  have hSl := Nat.le_trans (opnS_len f seen m ps rs path) hN
  have hMl := Nat.le_trans (opnM_len f seen m ps rs path) hN
  have HSS := hid (fun (A5 A6 : Option Addr) (c5 c6 : Nat) (W : World) (h5 : OpensAt W A5 (opnS f seen m ps rs path)) (h6 : OpensAt W A6 (opnS f seen m ps rs path)) => sameSpans_any A5 A6 _ _ c5 c6 (opnS f seen m ps rs path) (opnS f seen m ps rs path) rfl rfl hSl hSl W h5 h6)
  have HSM := hid (fun (A5 A6 : Option Addr) (c5 c6 : Nat) (W : World) (h5 : OpensAt W A5 (opnM f seen m ps rs path)) (h6 : OpensAt W A6 (opnM f seen m ps rs path)) => sameSpans_any A5 A6 _ _ c5 c6 (opnM f seen m ps rs path) (opnM f seen m ps rs path) rfl rfl hMl hMl W h5 h6)
  simp only [decide_true] at HSS HSM
  have hQl := Nat.le_trans (safQ_len (f := f) (seen := seen) (m := m) (ps := ps) (rs := rs)) (show ps.length ≤ 1000 by omega)
  have HSN := hid (fun (A5 A6 : Option Addr) (c5 c6 : Nat) (W : World) (h5 : PathsAt W A5 (safQ f seen m ps rs)) (h6 : PathsAt W A6 (safQ f seen m ps rs)) => sameNet_any (safMm f seen m ps rs) A5 A6 (safQ f seen m ps rs).length c5 c6 (safQ f seen m ps rs) rfl hQl safQ_ops W h5 h6)
  have HSG0 := hid h.sg
  have HSL := hid h.hl
  have hm2 := h0.hm2
  have HR0 := hid hr
  have HRN := hid hrn
  unfold OpenIs at HO1 HO2
  clear h hp hr hrn h0 hfar HIN hSl hMl hN hQl hnear hpn
  generalize opnS f seen m ps rs path = SV at *
  generalize opnM f seen m ps rs path = MV at *
  generalize opnE f seen m ps rs path = oe at *
  generalize safQ f seen m ps rs = SQ at *
  generalize safMm f seen m ps rs = qm at *
  generalize safE f seen m ps rs = se at *
  generalize SV.length = sl at *
  generalize MV.length = ml at *
  generalize SQ.length = ql at *
  go_enter Tryz.func4, Tryz.ntmps4
  go_wp2_with fail
  refine (HF.out _ E).mono ?_
  rintro e w2 ⟨rfl, hE⟩
  replace E := E.trans hE
  replace HB0 := hid (HB0.out.ext hE)
  replace HB1 := hid (HB1.out.ext hE)
  (try replace HSC := hid (HSC.out.ext hE))
  (try replace HSG := hid (HSG.out.ext hE))
  (try replace HP3 := hid (HP3.out.ext hE))
  (try replace HR3 := hid (HR3.out.ext hE))
  (try replace HQ1 := hid (HQ1.out.ext hE))
  (try replace HQ2 := hid (HQ2.out.ext hE))
  (try replace HQ3 := hid (HQ3.out.ext hE))
  (try replace HQ4 := hid (HQ4.out.ext hE))
  (try replace HB7 := hid (HB7.out.ext hE))
  (try replace HB9 := hid (HB9.out.ext hE))
  (try replace HBM := hid (HBM.out.ext hE))
  clear hE
  (try clear a0 z0 zE z1 l0 l1 l2 l3)
  (try clear a7 z7)
  (try clear a9 b9 z9)
  (try clear am bm zm)
  have a0 := HB0.out.cell 0
  have z0 := HB0.out.lt
  obtain ⟨l0, l1, l2, l3⟩ : _ ∧ _ ∧ _ ∧ _ := ⟨HB1.out.cell 0, HB1.out.cell 1, HB1.out.cell 2, HB1.out.cell 3⟩
  have z1 := HB1.out.lt
  have zE := E.size
  simp only [List.getElem?_toArray, List.getElem?_cons_zero, List.getElem?_cons_succ] at a0 l0 l1 l2 l3
  (try (have a7 := HB7.out.cell 0; have z7 := HB7.out.lt; simp only [List.getElem?_toArray, List.getElem?_cons_zero] at a7))
  (try (have a9 := HB9.out.cell 0; have b9 := HB9.out.cell 1; have z9 := HB9.out.lt; simp only [List.getElem?_toArray, List.getElem?_cons_zero, List.getElem?_cons_succ] at a9 b9))
  (try (have am := HBM.out.cell 0; have bm := HBM.out.cell 1; have zm := HBM.out.lt; simp only [List.getElem?_toArray, List.getElem?_cons_zero, List.getElem?_cons_succ] at am bm))
  go_wp2_with fail
  refine (HFR.out _ E).mono ?_
  rintro e w3 ⟨⟨B, rfl, -⟩, hE⟩
  replace E := E.trans hE
  replace HB0 := hid (HB0.out.ext hE)
  replace HB1 := hid (HB1.out.ext hE)
  (try replace HSC := hid (HSC.out.ext hE))
  (try replace HSG := hid (HSG.out.ext hE))
  (try replace HP3 := hid (HP3.out.ext hE))
  (try replace HR3 := hid (HR3.out.ext hE))
  (try replace HQ1 := hid (HQ1.out.ext hE))
  (try replace HQ2 := hid (HQ2.out.ext hE))
  (try replace HQ3 := hid (HQ3.out.ext hE))
  (try replace HQ4 := hid (HQ4.out.ext hE))
  (try replace HB7 := hid (HB7.out.ext hE))
  (try replace HB9 := hid (HB9.out.ext hE))
  (try replace HBM := hid (HBM.out.ext hE))
  clear hE
  (try clear a0 z0 zE z1 l0 l1 l2 l3)
  (try clear a7 z7)
  (try clear a9 b9 z9)
  (try clear am bm zm)
  have a0 := HB0.out.cell 0
  have z0 := HB0.out.lt
  obtain ⟨l0, l1, l2, l3⟩ : _ ∧ _ ∧ _ ∧ _ := ⟨HB1.out.cell 0, HB1.out.cell 1, HB1.out.cell 2, HB1.out.cell 3⟩
  have z1 := HB1.out.lt
  have zE := E.size
  simp only [List.getElem?_toArray, List.getElem?_cons_zero, List.getElem?_cons_succ] at a0 l0 l1 l2 l3
  (try (have a7 := HB7.out.cell 0; have z7 := HB7.out.lt; simp only [List.getElem?_toArray, List.getElem?_cons_zero] at a7))
  (try (have a9 := HB9.out.cell 0; have b9 := HB9.out.cell 1; have z9 := HB9.out.lt; simp only [List.getElem?_toArray, List.getElem?_cons_zero, List.getElem?_cons_succ] at a9 b9))
  (try (have am := HBM.out.cell 0; have bm := HBM.out.cell 1; have zm := HBM.out.lt; simp only [List.getElem?_toArray, List.getElem?_cons_zero, List.getElem?_cons_succ] at am bm))
  clear HF HFR
  cases B
  case true =>
    go_wp2_with fail
    refine (HWK.out _ (by (repeat' (first | with_reducible assumption | with_reducible exact Ext.refl _ | with_reducible refine Ext.alloc ?_ _ | with_reducible refine Ext.set ?_ ?_ _ | with_reducible refine Ext.drew ?_ | with_reducible refine Ext.drewN ?_ _ | with_reducible refine Ext.trans ?_ (by assumption) | (dsimp only; omega))))).mono ?_
    rintro e w9 ⟨rfl, hE9⟩
    have EZ : Ext w w9 := by (repeat' (first | with_reducible assumption | with_reducible exact Ext.refl _ | with_reducible refine Ext.alloc ?_ _ | with_reducible refine Ext.set ?_ ?_ _ | with_reducible refine Ext.drew ?_ | with_reducible refine Ext.drewN ?_ _ | with_reducible refine Ext.trans ?_ (by assumption) | (dsimp only; omega)))
    go_wp2
    go_ret
    exact ⟨rfl, EZ⟩
  go_wp2_with fail
  refine (HCP.out _ E).mono ?_
  rintro e w4 ⟨A2, c2, rfl, hsc, hE⟩
  replace E := E.trans hE
  replace HB0 := hid (HB0.out.ext hE)
  replace HB1 := hid (HB1.out.ext hE)
  (try replace HSC := hid (HSC.out.ext hE))
  (try replace HSG := hid (HSG.out.ext hE))
  (try replace HP3 := hid (HP3.out.ext hE))
  (try replace HR3 := hid (HR3.out.ext hE))
  (try replace HQ1 := hid (HQ1.out.ext hE))
  (try replace HQ2 := hid (HQ2.out.ext hE))
  (try replace HQ3 := hid (HQ3.out.ext hE))
  (try replace HQ4 := hid (HQ4.out.ext hE))
  (try replace HB7 := hid (HB7.out.ext hE))
  (try replace HB9 := hid (HB9.out.ext hE))
  (try replace HBM := hid (HBM.out.ext hE))
  clear hE
  (try clear a0 z0 zE z1 l0 l1 l2 l3)
  (try clear a7 z7)
  (try clear a9 b9 z9)
  (try clear am bm zm)
  have a0 := HB0.out.cell 0
  have z0 := HB0.out.lt
  obtain ⟨l0, l1, l2, l3⟩ : _ ∧ _ ∧ _ ∧ _ := ⟨HB1.out.cell 0, HB1.out.cell 1, HB1.out.cell 2, HB1.out.cell 3⟩
  have z1 := HB1.out.lt
  have zE := E.size
  simp only [List.getElem?_toArray, List.getElem?_cons_zero, List.getElem?_cons_succ] at a0 l0 l1 l2 l3
  (try (have a7 := HB7.out.cell 0; have z7 := HB7.out.lt; simp only [List.getElem?_toArray, List.getElem?_cons_zero] at a7))
  (try (have a9 := HB9.out.cell 0; have b9 := HB9.out.cell 1; have z9 := HB9.out.lt; simp only [List.getElem?_toArray, List.getElem?_cons_zero, List.getElem?_cons_succ] at a9 b9))
  (try (have am := HBM.out.cell 0; have bm := HBM.out.cell 1; have zm := HBM.out.lt; simp only [List.getElem?_toArray, List.getElem?_cons_zero, List.getElem?_cons_succ] at am bm))
  have HSC := hid hsc
  clear hsc HCP
  go_wp2_with (at_builtin; refine Halt.mk ?_)
  unfold Halt
  refine wpList_plain rfl fun _ hK => wp_appAllSg _ _ _ rfl w4.heap.size w4.heap.size SA sc seen rfl (blk_last _ _) (Nat.le_refl _) sm HSL.out rfl ((HSG0.out.ext E).ext (ext_alloc1 _ _)) (by omega) ?_
  intro v5 w5 ho4 hg4
  refine hK _ _ ?_
  have hE : Ext w4 w5 := Below.grown (ext_alloc1 w4 _) hg4 (ext_alloc1 w4 _).size (fun j ej => by injection ej with ej; omega)
  obtain ⟨A3, c3, rfl, -, hf3, -⟩ := ho4.form (by decide) (fun _ => rfl) zeroSg
  have HSG := hid (flat_sgs.1 hf3)
  rw [HSL.out]
  clear ho4 hg4 hf3 hK HSG0
  replace E := E.trans hE
  replace HB0 := hid (HB0.out.ext hE)
  replace HB1 := hid (HB1.out.ext hE)
  (try replace HSC := hid (HSC.out.ext hE))
  (try replace HSG := hid (HSG.out.ext hE))
  (try replace HP3 := hid (HP3.out.ext hE))
  (try replace HR3 := hid (HR3.out.ext hE))
  (try replace HQ1 := hid (HQ1.out.ext hE))
  (try replace HQ2 := hid (HQ2.out.ext hE))
  (try replace HQ3 := hid (HQ3.out.ext hE))
  (try replace HQ4 := hid (HQ4.out.ext hE))
  (try replace HB7 := hid (HB7.out.ext hE))
  (try replace HB9 := hid (HB9.out.ext hE))
  (try replace HBM := hid (HBM.out.ext hE))
  clear hE
  (try clear a0 z0 zE z1 l0 l1 l2 l3)
  (try clear a7 z7)
  (try clear a9 b9 z9)
  (try clear am bm zm)
  have a0 := HB0.out.cell 0
  have z0 := HB0.out.lt
  obtain ⟨l0, l1, l2, l3⟩ : _ ∧ _ ∧ _ ∧ _ := ⟨HB1.out.cell 0, HB1.out.cell 1, HB1.out.cell 2, HB1.out.cell 3⟩
  have z1 := HB1.out.lt
  have zE := E.size
  simp only [List.getElem?_toArray, List.getElem?_cons_zero, List.getElem?_cons_succ] at a0 l0 l1 l2 l3
  (try (have a7 := HB7.out.cell 0; have z7 := HB7.out.lt; simp only [List.getElem?_toArray, List.getElem?_cons_zero] at a7))
  (try (have a9 := HB9.out.cell 0; have b9 := HB9.out.cell 1; have z9 := HB9.out.lt; simp only [List.getElem?_toArray, List.getElem?_cons_zero, List.getElem?_cons_succ] at a9 b9))
  (try (have am := HBM.out.cell 0; have bm := HBM.out.cell 1; have zm := HBM.out.lt; simp only [List.getElem?_toArray, List.getElem?_cons_zero, List.getElem?_cons_succ] at am bm))
  go_wp2_with fail
  refine abs_anyW (G := fun W => Code.wp _ _ _ _ W) (fun X => Blk X w5.heap.size 24 #[.slice A2 n c2] ∧ Ext w5 X) ⟨blk_last _ _, by (repeat' (first | with_reducible assumption | with_reducible exact Ext.refl _ | with_reducible refine Ext.alloc ?_ _ | with_reducible refine Ext.set ?_ ?_ _ | with_reducible refine Ext.drew ?_ | with_reducible refine Ext.drewN ?_ _ | with_reducible refine Ext.trans ?_ (by assumption) | (dsimp only; omega)))⟩ ?_
  rintro U ⟨hb7, hE⟩
  replace E := E.trans hE
  replace HB0 := hid (HB0.out.ext hE)
  replace HB1 := hid (HB1.out.ext hE)
  (try replace HSC := hid (HSC.out.ext hE))
  (try replace HSG := hid (HSG.out.ext hE))
  (try replace HP3 := hid (HP3.out.ext hE))
  (try replace HR3 := hid (HR3.out.ext hE))
  (try replace HQ1 := hid (HQ1.out.ext hE))
  (try replace HQ2 := hid (HQ2.out.ext hE))
  (try replace HQ3 := hid (HQ3.out.ext hE))
  (try replace HQ4 := hid (HQ4.out.ext hE))
  (try replace HB7 := hid (HB7.out.ext hE))
  (try replace HB9 := hid (HB9.out.ext hE))
  (try replace HBM := hid (HBM.out.ext hE))
  clear hE
  (try clear a0 z0 zE z1 l0 l1 l2 l3)
  (try clear a7 z7)
  (try clear a9 b9 z9)
  (try clear am bm zm)
  have a0 := HB0.out.cell 0
  have z0 := HB0.out.lt
  obtain ⟨l0, l1, l2, l3⟩ : _ ∧ _ ∧ _ ∧ _ := ⟨HB1.out.cell 0, HB1.out.cell 1, HB1.out.cell 2, HB1.out.cell 3⟩
  have z1 := HB1.out.lt
  have zE := E.size
  simp only [List.getElem?_toArray, List.getElem?_cons_zero, List.getElem?_cons_succ] at a0 l0 l1 l2 l3
  (try (have a7 := HB7.out.cell 0; have z7 := HB7.out.lt; simp only [List.getElem?_toArray, List.getElem?_cons_zero] at a7))
  (try (have a9 := HB9.out.cell 0; have b9 := HB9.out.cell 1; have z9 := HB9.out.lt; simp only [List.getElem?_toArray, List.getElem?_cons_zero, List.getElem?_cons_succ] at a9 b9))
  (try (have am := HBM.out.cell 0; have bm := HBM.out.cell 1; have zm := HBM.out.lt; simp only [List.getElem?_toArray, List.getElem?_cons_zero, List.getElem?_cons_succ] at am bm))
  have HB7 := hid hb7
  clear hb7
  have hE := Ext.refl U
  replace E := E.trans hE
  replace HB0 := hid (HB0.out.ext hE)
  replace HB1 := hid (HB1.out.ext hE)
  (try replace HSC := hid (HSC.out.ext hE))
  (try replace HSG := hid (HSG.out.ext hE))
  (try replace HP3 := hid (HP3.out.ext hE))
  (try replace HR3 := hid (HR3.out.ext hE))
  (try replace HQ1 := hid (HQ1.out.ext hE))
  (try replace HQ2 := hid (HQ2.out.ext hE))
  (try replace HQ3 := hid (HQ3.out.ext hE))
  (try replace HQ4 := hid (HQ4.out.ext hE))
  (try replace HB7 := hid (HB7.out.ext hE))
  (try replace HB9 := hid (HB9.out.ext hE))
  (try replace HBM := hid (HBM.out.ext hE))
  clear hE
  (try clear a0 z0 zE z1 l0 l1 l2 l3)
  (try clear a7 z7)
  (try clear a9 b9 z9)
  (try clear am bm zm)
  have a0 := HB0.out.cell 0
  have z0 := HB0.out.lt
  obtain ⟨l0, l1, l2, l3⟩ : _ ∧ _ ∧ _ ∧ _ := ⟨HB1.out.cell 0, HB1.out.cell 1, HB1.out.cell 2, HB1.out.cell 3⟩
  have z1 := HB1.out.lt
  have zE := E.size
  simp only [List.getElem?_toArray, List.getElem?_cons_zero, List.getElem?_cons_succ] at a0 l0 l1 l2 l3
  (try (have a7 := HB7.out.cell 0; have z7 := HB7.out.lt; simp only [List.getElem?_toArray, List.getElem?_cons_zero] at a7))
  (try (have a9 := HB9.out.cell 0; have b9 := HB9.out.cell 1; have z9 := HB9.out.lt; simp only [List.getElem?_toArray, List.getElem?_cons_zero, List.getElem?_cons_succ] at a9 b9))
  (try (have am := HBM.out.cell 0; have bm := HBM.out.cell 1; have zm := HBM.out.lt; simp only [List.getElem?_toArray, List.getElem?_cons_zero, List.getElem?_cons_succ] at am bm))
  refine region_rest (fun QQ => ∀ (VA : Option Addr) (vc : Nat) (RA2 : Option Addr) (rc2 q9 : Nat) (Y : World) (u35 : Value), Ext U Y → PathsAt Y VA ps → RlsAt Y RA2 rs → Hid (Blk Y q9 47 #[.int .i64 m, .slice VA nn vc]) → QQ .normal { tmps := #[.agg #[.slice A n c], .slice SA sm sc, .agg #[.int .i64 m, .slice NA nn nc, .slice RA rn rc, .int .i64 path], .pointer (some ⟨w.heap.size, 0, none⟩), undef, .pointer (some ⟨w.heap.size + 1, 0, none⟩), .bool false, .pointer (some ⟨w5.heap.size, 0, none⟩), .slice A3 sm c3, .pointer (some ⟨q9, 0, none⟩), .slice RA2 rn rc2, undef, undef, undef, undef, undef, undef, undef, undef, .agg #[.slice A n c], .slice SA sm sc, .bool false, .bool false, .agg #[.int .i64 m, .slice NA nn nc, .slice RA rn rc, .int .i64 path], .bool false, .bool false, undef, .agg #[.slice A n c], .agg #[.slice A2 n c2], .slice (some ⟨w4.heap.size, 0, none⟩) 0 0, .slice SA sm sc, .slice A3 sm c3, .pointer (some ⟨w.heap.size + 1, 0, none⟩), .agg #[.int .i64 m, .slice NA nn nc], .agg #[.int .i64 m, .slice VA nn vc], u35, .pointer (some ⟨w.heap.size + 1, 2, none⟩), .slice RA rn rc, .slice RA2 rn rc2, undef, undef, undef, undef, undef, undef, undef, undef, undef, undef, undef, undef, undef, undef, undef, undef, undef, undef, undef, undef, undef, undef, undef, undef, undef, undef, undef, undef, undef, undef, undef, undef, undef, undef, undef, undef, undef, undef, undef, undef, undef, undef, undef, undef, undef, undef, undef, undef, undef, undef, undef, undef, undef, undef, undef, undef, undef, undef, undef, undef, undef, undef, undef, undef, undef, undef, undef, undef], defers := [] } Y) ?rest (fun REST => ?_)
  case rest =>
    intro VA vc RA2 rc2 q9 Y u35 hE hpa hra HB9
    replace E := E.trans hE
    replace HB0 := hid (HB0.out.ext hE)
    replace HB1 := hid (HB1.out.ext hE)
    (try replace HSC := hid (HSC.out.ext hE))
    (try replace HSG := hid (HSG.out.ext hE))
    (try replace HP3 := hid (HP3.out.ext hE))
    (try replace HR3 := hid (HR3.out.ext hE))
    (try replace HQ1 := hid (HQ1.out.ext hE))
    (try replace HQ2 := hid (HQ2.out.ext hE))
    (try replace HQ3 := hid (HQ3.out.ext hE))
    (try replace HQ4 := hid (HQ4.out.ext hE))
    (try replace HB7 := hid (HB7.out.ext hE))
    (try replace HB9 := hid (HB9.out.ext hE))
    (try replace HBM := hid (HBM.out.ext hE))
    clear hE
    (try clear a0 z0 zE z1 l0 l1 l2 l3)
    (try clear a7 z7)
    (try clear a9 b9 z9)
    (try clear am bm zm)
    have a0 := HB0.out.cell 0
    have z0 := HB0.out.lt
    obtain ⟨l0, l1, l2, l3⟩ : _ ∧ _ ∧ _ ∧ _ := ⟨HB1.out.cell 0, HB1.out.cell 1, HB1.out.cell 2, HB1.out.cell 3⟩
    have z1 := HB1.out.lt
    have zE := E.size
    simp only [List.getElem?_toArray, List.getElem?_cons_zero, List.getElem?_cons_succ] at a0 l0 l1 l2 l3
    (try (have a7 := HB7.out.cell 0; have z7 := HB7.out.lt; simp only [List.getElem?_toArray, List.getElem?_cons_zero] at a7))
    (try (have a9 := HB9.out.cell 0; have b9 := HB9.out.cell 1; have z9 := HB9.out.lt; simp only [List.getElem?_toArray, List.getElem?_cons_zero, List.getElem?_cons_succ] at a9 b9))
    (try (have am := HBM.out.cell 0; have bm := HBM.out.cell 1; have zm := HBM.out.lt; simp only [List.getElem?_toArray, List.getElem?_cons_zero, List.getElem?_cons_succ] at am bm))
    have HP3 := hid hpa
    have HR3 := hid hra
    clear hpa hra HCN HR0 HRN
    have hE := Ext.refl Y
    replace E := E.trans hE
    replace HB0 := hid (HB0.out.ext hE)
    replace HB1 := hid (HB1.out.ext hE)
    (try replace HSC := hid (HSC.out.ext hE))
    (try replace HSG := hid (HSG.out.ext hE))
    (try replace HP3 := hid (HP3.out.ext hE))
    (try replace HR3 := hid (HR3.out.ext hE))
    (try replace HQ1 := hid (HQ1.out.ext hE))
    (try replace HQ2 := hid (HQ2.out.ext hE))
    (try replace HQ3 := hid (HQ3.out.ext hE))
    (try replace HQ4 := hid (HQ4.out.ext hE))
    (try replace HB7 := hid (HB7.out.ext hE))
    (try replace HB9 := hid (HB9.out.ext hE))
    (try replace HBM := hid (HBM.out.ext hE))
    clear hE
    (try clear a0 z0 zE z1 l0 l1 l2 l3)
    (try clear a7 z7)
    (try clear a9 b9 z9)
    (try clear am bm zm)
    have a0 := HB0.out.cell 0
    have z0 := HB0.out.lt
    obtain ⟨l0, l1, l2, l3⟩ : _ ∧ _ ∧ _ ∧ _ := ⟨HB1.out.cell 0, HB1.out.cell 1, HB1.out.cell 2, HB1.out.cell 3⟩
    have z1 := HB1.out.lt
    have zE := E.size
    simp only [List.getElem?_toArray, List.getElem?_cons_zero, List.getElem?_cons_succ] at a0 l0 l1 l2 l3
    (try (have a7 := HB7.out.cell 0; have z7 := HB7.out.lt; simp only [List.getElem?_toArray, List.getElem?_cons_zero] at a7))
    (try (have a9 := HB9.out.cell 0; have b9 := HB9.out.cell 1; have z9 := HB9.out.lt; simp only [List.getElem?_toArray, List.getElem?_cons_zero, List.getElem?_cons_succ] at a9 b9))
    (try (have am := HBM.out.cell 0; have bm := HBM.out.cell 1; have zm := HBM.out.lt; simp only [List.getElem?_toArray, List.getElem?_cons_zero, List.getElem?_cons_succ] at am bm))
    go_wp2_with fail
    refine (HO1.out A2 c2 A3 c3 VA vc RA2 rc2 _ E HSC.out HSG.out HP3.out HR3.out).mono ?_
    rintro e w6 ⟨A5, c5, A6, c6, rfl, h5, h6, hE⟩
    replace E := E.trans hE
    replace HB0 := hid (HB0.out.ext hE)
    replace HB1 := hid (HB1.out.ext hE)
    (try replace HSC := hid (HSC.out.ext hE))
    (try replace HSG := hid (HSG.out.ext hE))
    (try replace HP3 := hid (HP3.out.ext hE))
    (try replace HR3 := hid (HR3.out.ext hE))
    (try replace HQ1 := hid (HQ1.out.ext hE))
    (try replace HQ2 := hid (HQ2.out.ext hE))
    (try replace HQ3 := hid (HQ3.out.ext hE))
    (try replace HQ4 := hid (HQ4.out.ext hE))
    (try replace HB7 := hid (HB7.out.ext hE))
    (try replace HB9 := hid (HB9.out.ext hE))
    (try replace HBM := hid (HBM.out.ext hE))
    clear hE
    (try clear a0 z0 zE z1 l0 l1 l2 l3)
    (try clear a7 z7)
    (try clear a9 b9 z9)
    (try clear am bm zm)
    have a0 := HB0.out.cell 0
    have z0 := HB0.out.lt
    obtain ⟨l0, l1, l2, l3⟩ : _ ∧ _ ∧ _ ∧ _ := ⟨HB1.out.cell 0, HB1.out.cell 1, HB1.out.cell 2, HB1.out.cell 3⟩
    have z1 := HB1.out.lt
    have zE := E.size
    simp only [List.getElem?_toArray, List.getElem?_cons_zero, List.getElem?_cons_succ] at a0 l0 l1 l2 l3
    (try (have a7 := HB7.out.cell 0; have z7 := HB7.out.lt; simp only [List.getElem?_toArray, List.getElem?_cons_zero] at a7))
    (try (have a9 := HB9.out.cell 0; have b9 := HB9.out.cell 1; have z9 := HB9.out.lt; simp only [List.getElem?_toArray, List.getElem?_cons_zero, List.getElem?_cons_succ] at a9 b9))
    (try (have am := HBM.out.cell 0; have bm := HBM.out.cell 1; have zm := HBM.out.lt; simp only [List.getElem?_toArray, List.getElem?_cons_zero, List.getElem?_cons_succ] at am bm))
    have HQ1 := hid h5
    have HQ2 := hid h6
    clear h5 h6 HO1
    go_wp2_with fail
    refine (HO2.out _ E).mono ?_
    rintro e w7 ⟨A7, c7, A8, c8, rfl, h7, h8, hE⟩
    replace E := E.trans hE
    replace HB0 := hid (HB0.out.ext hE)
    replace HB1 := hid (HB1.out.ext hE)
    (try replace HSC := hid (HSC.out.ext hE))
    (try replace HSG := hid (HSG.out.ext hE))
    (try replace HP3 := hid (HP3.out.ext hE))
    (try replace HR3 := hid (HR3.out.ext hE))
    (try replace HQ1 := hid (HQ1.out.ext hE))
    (try replace HQ2 := hid (HQ2.out.ext hE))
    (try replace HQ3 := hid (HQ3.out.ext hE))
    (try replace HQ4 := hid (HQ4.out.ext hE))
    (try replace HB7 := hid (HB7.out.ext hE))
    (try replace HB9 := hid (HB9.out.ext hE))
    (try replace HBM := hid (HBM.out.ext hE))
    clear hE
    (try clear a0 z0 zE z1 l0 l1 l2 l3)
    (try clear a7 z7)
    (try clear a9 b9 z9)
    (try clear am bm zm)
    have a0 := HB0.out.cell 0
    have z0 := HB0.out.lt
    obtain ⟨l0, l1, l2, l3⟩ : _ ∧ _ ∧ _ ∧ _ := ⟨HB1.out.cell 0, HB1.out.cell 1, HB1.out.cell 2, HB1.out.cell 3⟩
    have z1 := HB1.out.lt
    have zE := E.size
    simp only [List.getElem?_toArray, List.getElem?_cons_zero, List.getElem?_cons_succ] at a0 l0 l1 l2 l3
    (try (have a7 := HB7.out.cell 0; have z7 := HB7.out.lt; simp only [List.getElem?_toArray, List.getElem?_cons_zero] at a7))
    (try (have a9 := HB9.out.cell 0; have b9 := HB9.out.cell 1; have z9 := HB9.out.lt; simp only [List.getElem?_toArray, List.getElem?_cons_zero, List.getElem?_cons_succ] at a9 b9))
    (try (have am := HBM.out.cell 0; have bm := HBM.out.cell 1; have zm := HBM.out.lt; simp only [List.getElem?_toArray, List.getElem?_cons_zero, List.getElem?_cons_succ] at am bm))
    have HQ3 := hid h7
    have HQ4 := hid h8
    clear h7 h8 HO2
    go_wp2_with fail
    refine (HSS.out A5 A7 c5 c7 _ HQ1.out HQ3.out).mono ?_
    rintro e w8 ⟨rfl, hE⟩
    replace E := E.trans hE
    replace HB0 := hid (HB0.out.ext hE)
    replace HB1 := hid (HB1.out.ext hE)
    (try replace HSC := hid (HSC.out.ext hE))
    (try replace HSG := hid (HSG.out.ext hE))
    (try replace HP3 := hid (HP3.out.ext hE))
    (try replace HR3 := hid (HR3.out.ext hE))
    (try replace HQ1 := hid (HQ1.out.ext hE))
    (try replace HQ2 := hid (HQ2.out.ext hE))
    (try replace HQ3 := hid (HQ3.out.ext hE))
    (try replace HQ4 := hid (HQ4.out.ext hE))
    (try replace HB7 := hid (HB7.out.ext hE))
    (try replace HB9 := hid (HB9.out.ext hE))
    (try replace HBM := hid (HBM.out.ext hE))
    clear hE
    (try clear a0 z0 zE z1 l0 l1 l2 l3)
    (try clear a7 z7)
    (try clear a9 b9 z9)
    (try clear am bm zm)
    have a0 := HB0.out.cell 0
    have z0 := HB0.out.lt
    obtain ⟨l0, l1, l2, l3⟩ : _ ∧ _ ∧ _ ∧ _ := ⟨HB1.out.cell 0, HB1.out.cell 1, HB1.out.cell 2, HB1.out.cell 3⟩
    have z1 := HB1.out.lt
    have zE := E.size
    simp only [List.getElem?_toArray, List.getElem?_cons_zero, List.getElem?_cons_succ] at a0 l0 l1 l2 l3
    (try (have a7 := HB7.out.cell 0; have z7 := HB7.out.lt; simp only [List.getElem?_toArray, List.getElem?_cons_zero] at a7))
    (try (have a9 := HB9.out.cell 0; have b9 := HB9.out.cell 1; have z9 := HB9.out.lt; simp only [List.getElem?_toArray, List.getElem?_cons_zero, List.getElem?_cons_succ] at a9 b9))
    (try (have am := HBM.out.cell 0; have bm := HBM.out.cell 1; have zm := HBM.out.lt; simp only [List.getElem?_toArray, List.getElem?_cons_zero, List.getElem?_cons_succ] at am bm))
    clear HSS HQ1 HQ3
    go_wp2_with fail
    refine (HSM.out A6 A8 c6 c8 _ HQ2.out HQ4.out).mono ?_
    rintro e w9 ⟨rfl, hE⟩
    replace E := E.trans hE
    replace HB0 := hid (HB0.out.ext hE)
    replace HB1 := hid (HB1.out.ext hE)
    (try replace HSC := hid (HSC.out.ext hE))
    (try replace HSG := hid (HSG.out.ext hE))
    (try replace HP3 := hid (HP3.out.ext hE))
    (try replace HR3 := hid (HR3.out.ext hE))
    (try replace HQ1 := hid (HQ1.out.ext hE))
    (try replace HQ2 := hid (HQ2.out.ext hE))
    (try replace HQ3 := hid (HQ3.out.ext hE))
    (try replace HQ4 := hid (HQ4.out.ext hE))
    (try replace HB7 := hid (HB7.out.ext hE))
    (try replace HB9 := hid (HB9.out.ext hE))
    (try replace HBM := hid (HBM.out.ext hE))
    clear hE
    (try clear a0 z0 zE z1 l0 l1 l2 l3)
    (try clear a7 z7)
    (try clear a9 b9 z9)
    (try clear am bm zm)
    have a0 := HB0.out.cell 0
    have z0 := HB0.out.lt
    obtain ⟨l0, l1, l2, l3⟩ : _ ∧ _ ∧ _ ∧ _ := ⟨HB1.out.cell 0, HB1.out.cell 1, HB1.out.cell 2, HB1.out.cell 3⟩
    have z1 := HB1.out.lt
    have zE := E.size
    simp only [List.getElem?_toArray, List.getElem?_cons_zero, List.getElem?_cons_succ] at a0 l0 l1 l2 l3
    (try (have a7 := HB7.out.cell 0; have z7 := HB7.out.lt; simp only [List.getElem?_toArray, List.getElem?_cons_zero] at a7))
    (try (have a9 := HB9.out.cell 0; have b9 := HB9.out.cell 1; have z9 := HB9.out.lt; simp only [List.getElem?_toArray, List.getElem?_cons_zero, List.getElem?_cons_succ] at a9 b9))
    (try (have am := HBM.out.cell 0; have bm := HBM.out.cell 1; have zm := HBM.out.lt; simp only [List.getElem?_toArray, List.getElem?_cons_zero, List.getElem?_cons_succ] at am bm))
    clear HSM HQ2 HQ4
    go_wp2_with fail
    refine (HS1.out A2 c2 A3 c3 VA vc RA2 rc2 _ E HSC.out HSG.out HP3.out HR3.out).mono ?_
    rintro e w10 ⟨A9, c9, rfl, h9, hE⟩
    replace E := E.trans hE
    replace HB0 := hid (HB0.out.ext hE)
    replace HB1 := hid (HB1.out.ext hE)
    (try replace HSC := hid (HSC.out.ext hE))
    (try replace HSG := hid (HSG.out.ext hE))
    (try replace HP3 := hid (HP3.out.ext hE))
    (try replace HR3 := hid (HR3.out.ext hE))
    (try replace HQ1 := hid (HQ1.out.ext hE))
    (try replace HQ2 := hid (HQ2.out.ext hE))
    (try replace HQ3 := hid (HQ3.out.ext hE))
    (try replace HQ4 := hid (HQ4.out.ext hE))
    (try replace HB7 := hid (HB7.out.ext hE))
    (try replace HB9 := hid (HB9.out.ext hE))
    (try replace HBM := hid (HBM.out.ext hE))
    clear hE
    (try clear a0 z0 zE z1 l0 l1 l2 l3)
    (try clear a7 z7)
    (try clear a9 b9 z9)
    (try clear am bm zm)
    have a0 := HB0.out.cell 0
    have z0 := HB0.out.lt
    obtain ⟨l0, l1, l2, l3⟩ : _ ∧ _ ∧ _ ∧ _ := ⟨HB1.out.cell 0, HB1.out.cell 1, HB1.out.cell 2, HB1.out.cell 3⟩
    have z1 := HB1.out.lt
    have zE := E.size
    simp only [List.getElem?_toArray, List.getElem?_cons_zero, List.getElem?_cons_succ] at a0 l0 l1 l2 l3
    (try (have a7 := HB7.out.cell 0; have z7 := HB7.out.lt; simp only [List.getElem?_toArray, List.getElem?_cons_zero] at a7))
    (try (have a9 := HB9.out.cell 0; have b9 := HB9.out.cell 1; have z9 := HB9.out.lt; simp only [List.getElem?_toArray, List.getElem?_cons_zero, List.getElem?_cons_succ] at a9 b9))
    (try (have am := HBM.out.cell 0; have bm := HBM.out.cell 1; have zm := HBM.out.lt; simp only [List.getElem?_toArray, List.getElem?_cons_zero, List.getElem?_cons_succ] at am bm))
    have HQ1 := hid h9
    clear h9 HS1 HP3 HR3 HSC HSG HB7 HB9 a7 a9 b9 z7 z9
    go_wp2_with fail
    refine abs_anyW (G := fun W => Calls _ _ _ W _) (fun X => Blk X w10.heap.size 47 #[.int .i64 qm, .slice A9 ql c9] ∧ Ext w10 X) ⟨blk_last _ _, by (repeat' (first | with_reducible assumption | with_reducible exact Ext.refl _ | with_reducible refine Ext.alloc ?_ _ | with_reducible refine Ext.set ?_ ?_ _ | with_reducible refine Ext.drew ?_ | with_reducible refine Ext.drewN ?_ _ | with_reducible refine Ext.trans ?_ (by assumption) | (dsimp only; omega)))⟩ ?_
    rintro U2 ⟨hbm, hE⟩
    replace E := E.trans hE
    replace HB0 := hid (HB0.out.ext hE)
    replace HB1 := hid (HB1.out.ext hE)
    (try replace HSC := hid (HSC.out.ext hE))
    (try replace HSG := hid (HSG.out.ext hE))
    (try replace HP3 := hid (HP3.out.ext hE))
    (try replace HR3 := hid (HR3.out.ext hE))
    (try replace HQ1 := hid (HQ1.out.ext hE))
    (try replace HQ2 := hid (HQ2.out.ext hE))
    (try replace HQ3 := hid (HQ3.out.ext hE))
    (try replace HQ4 := hid (HQ4.out.ext hE))
    (try replace HB7 := hid (HB7.out.ext hE))
    (try replace HB9 := hid (HB9.out.ext hE))
    (try replace HBM := hid (HBM.out.ext hE))
    clear hE
    (try clear a0 z0 zE z1 l0 l1 l2 l3)
    (try clear a7 z7)
    (try clear a9 b9 z9)
    (try clear am bm zm)
    have a0 := HB0.out.cell 0
    have z0 := HB0.out.lt
    obtain ⟨l0, l1, l2, l3⟩ : _ ∧ _ ∧ _ ∧ _ := ⟨HB1.out.cell 0, HB1.out.cell 1, HB1.out.cell 2, HB1.out.cell 3⟩
    have z1 := HB1.out.lt
    have zE := E.size
    simp only [List.getElem?_toArray, List.getElem?_cons_zero, List.getElem?_cons_succ] at a0 l0 l1 l2 l3
    (try (have a7 := HB7.out.cell 0; have z7 := HB7.out.lt; simp only [List.getElem?_toArray, List.getElem?_cons_zero] at a7))
    (try (have a9 := HB9.out.cell 0; have b9 := HB9.out.cell 1; have z9 := HB9.out.lt; simp only [List.getElem?_toArray, List.getElem?_cons_zero, List.getElem?_cons_succ] at a9 b9))
    (try (have am := HBM.out.cell 0; have bm := HBM.out.cell 1; have zm := HBM.out.lt; simp only [List.getElem?_toArray, List.getElem?_cons_zero, List.getElem?_cons_succ] at am bm))
    have HBM := hid hbm
    clear hbm
    refine (HS2.out _ E).mono ?_
    rintro e w11 ⟨A10, c10, rfl, h10, hE⟩
    replace E := E.trans hE
    replace HB0 := hid (HB0.out.ext hE)
    replace HB1 := hid (HB1.out.ext hE)
    (try replace HSC := hid (HSC.out.ext hE))
    (try replace HSG := hid (HSG.out.ext hE))
    (try replace HP3 := hid (HP3.out.ext hE))
    (try replace HR3 := hid (HR3.out.ext hE))
    (try replace HQ1 := hid (HQ1.out.ext hE))
    (try replace HQ2 := hid (HQ2.out.ext hE))
    (try replace HQ3 := hid (HQ3.out.ext hE))
    (try replace HQ4 := hid (HQ4.out.ext hE))
    (try replace HB7 := hid (HB7.out.ext hE))
    (try replace HB9 := hid (HB9.out.ext hE))
    (try replace HBM := hid (HBM.out.ext hE))
    clear hE
    (try clear a0 z0 zE z1 l0 l1 l2 l3)
    (try clear a7 z7)
    (try clear a9 b9 z9)
    (try clear am bm zm)
    have a0 := HB0.out.cell 0
    have z0 := HB0.out.lt
    obtain ⟨l0, l1, l2, l3⟩ : _ ∧ _ ∧ _ ∧ _ := ⟨HB1.out.cell 0, HB1.out.cell 1, HB1.out.cell 2, HB1.out.cell 3⟩
    have z1 := HB1.out.lt
    have zE := E.size
    simp only [List.getElem?_toArray, List.getElem?_cons_zero, List.getElem?_cons_succ] at a0 l0 l1 l2 l3
    (try (have a7 := HB7.out.cell 0; have z7 := HB7.out.lt; simp only [List.getElem?_toArray, List.getElem?_cons_zero] at a7))
    (try (have a9 := HB9.out.cell 0; have b9 := HB9.out.cell 1; have z9 := HB9.out.lt; simp only [List.getElem?_toArray, List.getElem?_cons_zero, List.getElem?_cons_succ] at a9 b9))
    (try (have am := HBM.out.cell 0; have bm := HBM.out.cell 1; have zm := HBM.out.lt; simp only [List.getElem?_toArray, List.getElem?_cons_zero, List.getElem?_cons_succ] at am bm))
    have HQ2 := hid h10
    clear h10 HS2
    go_wp2_with fail
    refine (HSN.out A9 A10 c9 c10 _ (HQ1.out.ext (ext_alloc1 _ _)) (HQ2.out.ext (ext_alloc1 _ _))).mono ?_
    rintro e w12 ⟨rfl, hE2⟩
    have hE := (ext_alloc1 w11 _).trans hE2
    replace E := E.trans hE
    replace HB0 := hid (HB0.out.ext hE)
    replace HB1 := hid (HB1.out.ext hE)
    (try replace HSC := hid (HSC.out.ext hE))
    (try replace HSG := hid (HSG.out.ext hE))
    (try replace HP3 := hid (HP3.out.ext hE))
    (try replace HR3 := hid (HR3.out.ext hE))
    (try replace HQ1 := hid (HQ1.out.ext hE))
    (try replace HQ2 := hid (HQ2.out.ext hE))
    (try replace HQ3 := hid (HQ3.out.ext hE))
    (try replace HQ4 := hid (HQ4.out.ext hE))
    (try replace HB7 := hid (HB7.out.ext hE))
    (try replace HB9 := hid (HB9.out.ext hE))
    (try replace HBM := hid (HBM.out.ext hE))
    clear hE
    (try clear a0 z0 zE z1 l0 l1 l2 l3)
    (try clear a7 z7)
    (try clear a9 b9 z9)
    (try clear am bm zm)
    have a0 := HB0.out.cell 0
    have z0 := HB0.out.lt
    obtain ⟨l0, l1, l2, l3⟩ : _ ∧ _ ∧ _ ∧ _ := ⟨HB1.out.cell 0, HB1.out.cell 1, HB1.out.cell 2, HB1.out.cell 3⟩
    have z1 := HB1.out.lt
    have zE := E.size
    simp only [List.getElem?_toArray, List.getElem?_cons_zero, List.getElem?_cons_succ] at a0 l0 l1 l2 l3
    (try (have a7 := HB7.out.cell 0; have z7 := HB7.out.lt; simp only [List.getElem?_toArray, List.getElem?_cons_zero] at a7))
    (try (have a9 := HB9.out.cell 0; have b9 := HB9.out.cell 1; have z9 := HB9.out.lt; simp only [List.getElem?_toArray, List.getElem?_cons_zero, List.getElem?_cons_succ] at a9 b9))
    (try (have am := HBM.out.cell 0; have bm := HBM.out.cell 1; have zm := HBM.out.lt; simp only [List.getElem?_toArray, List.getElem?_cons_zero, List.getElem?_cons_succ] at am bm))
    clear hE2 HSN HQ1 HQ2
    go_wp2_with fail
    refine (HWK.out _ (by (repeat' (first | with_reducible assumption | with_reducible exact Ext.refl _ | with_reducible refine Ext.alloc ?_ _ | with_reducible refine Ext.set ?_ ?_ _ | with_reducible refine Ext.drew ?_ | with_reducible refine Ext.drewN ?_ _ | with_reducible refine Ext.trans ?_ (by assumption) | (dsimp only; omega))))).mono ?_
    rintro e w9 ⟨rfl, hE9⟩
    have EZ : Ext w w9 := by (repeat' (first | with_reducible assumption | with_reducible exact Ext.refl _ | with_reducible refine Ext.alloc ?_ _ | with_reducible refine Ext.set ?_ ?_ _ | with_reducible refine Ext.drew ?_ | with_reducible refine Ext.drewN ?_ _ | with_reducible refine Ext.trans ?_ (by assumption) | (dsimp only; omega)))
    go_wp2
    go_ret
    exact ⟨rfl, EZ⟩
  refine wp_region_held_drew (S := fun w' => (∀ b o, b < U.heap.size → w'.cell? ⟨b, o, none⟩ = U.cell? ⟨b, o, none⟩) ∧ U.heap.size ≤ w'.heap.size ∧ Ext U w') (by kernel_rfl) ?hS0 (fun hHeld => ?_)
  case hS0 => exact sK (Ext.drew (Ext.refl _))
  have X0 : Ext U U.drew := Ext.drew (Ext.refl U)
  have EX := X0
  obtain ⟨X, hX⟩ : ∃ X, U.drew = X := ⟨_, rfl⟩
  rw [hX] at EX hHeld ⊢
  clear hX X0
  refine tk1 (i := 0) (v := ?v0a) rfl ?y0a ?r0a
  case y0a => (intro w' hSw; (try dsimp only at hSw); go_simp; (try with_reducible rfl))
  try simp only [Act.put, sq1, sq2, sq3, sq4, sq5, sq6]
  refine tk1 (i := 1) (v := ?v1a) rfl ?y1a ?r1a
  case y1a => (intro w' hSw; (try dsimp only at hSw); go_simp; (try with_reducible rfl))
  try simp only [Act.put, sq1, sq2, sq3, sq4, sq5, sq6]
  refine tk1 (i := 4) (v := ?v4a) rfl ?y4a ?r4a
  case y4a => (intro w' hSw; (try dsimp only at hSw); go_simp; (try with_reducible rfl))
  try simp only [Act.put, sq1, sq2, sq3, sq4, sq5, sq6]
  refine tk1 (i := 5) (v := ?v5a) rfl ?y5a ?r5a
  case y5a => (intro w' hSw; (try dsimp only at hSw); go_simp; (try with_reducible rfl))
  try simp only [Act.put, sq1, sq2, sq3, sq4, sq5, sq6]
  refine wpAnyH_ready (rs := [2, 3, 7]) (by kernel_rfl) (by simp) ?_
  refine AllReadyH.cons (o := _) rfl (fun K hK => ?_) (AllReadyH.cons (o := _) rfl (fun K hK => ?_) (AllReadyH.cons (o := _) rfl (fun K hK => ?_) AllReadyH.nil))
  · obtain ⟨lo, hlo⟩ := sizeOfX EX
    go_simp
    refine Calls.mono (HCN.out _ (E.trans EX)) ?_
    rintro e X2 ⟨VA, vc, xs, rfl, hxm, hxo, hxx, hEX⟩
    dsimp only
    rw [hlo] at hxo hxx
    have HXM := hid hxm
    have HW3 := hid hxo
    obtain ⟨hi, hhi⟩ := sizeOfX hEX
    have HX3 := hid (hxx.mono (q := fun b => lo ≤ b ∧ b < hi) (fun b hb => ⟨hb.1, by rw [← hhi]; exact hb.2.1⟩))
    have HWH := hid (show ∀ q, (Value.slice VA nn vc).ownBlock = some q → lo ≤ q ∧ q < hi from fun q hq => by rw [← hhi]; exact hxo.block q hq)
    (try (have hl3 := HZ3.out.lt; rw [hlo] at hl3; have HDZ := hid (Apt.dn (hi := hi) hl3); clear hl3))
    (try (have hl9 := HB9.out.lt; rw [hlo] at hl9; have HD9 := hid (Apt.dn (hi := hi) hl9); clear hl9))
    (try replace HZ3 := hid (HZ3.out.ext hEX))
    (try replace HB9 := hid (HB9.out.ext hEX))
    replace EX := EX.trans hEX
    have HHI := hid (Nat.le_of_eq hhi.symm)
    clear hHeld hEX hxm hxo hxx hlo hhi
    refine hK.out _ _ (sK EX) (fun hHeld => ?_)
    clear hK K
    try simp only [Act.put, sq1, sq2, sq3, sq4, sq5, sq6]
    refine wpAnyH_ready (rs := [3, 7]) (by kernel_rfl) (by simp) ?_
    refine AllReadyH.cons (o := _) rfl (fun K hK => ?_) (AllReadyH.cons (o := _) rfl (fun K hK => ?_) AllReadyH.nil)
    · go_simp
      obtain ⟨Y, hY⟩ := absW EX (.cells #[] 79)
      have HZ3 := hid (blkNew EX 79 #[])
      have LZ3 := EX.size
      (try have HDZ := hid (Apt.up (lo := lo) HHI.out))
      (try replace HB9 := hid (HB9.out.alloc (.cells #[] 79)))
      (try replace HW3 := hid (HW3.out.ext (ext_alloc1 _ (.cells #[] 79))))
      (try replace HX3 := hid (HX3.out.ext (ext_alloc1 _ (.cells #[] 79))))
      (try replace HHI := hid (Nat.le_trans HHI.out (ext_alloc1 _ (.cells #[] 79)).size))
      replace EX := EX.alloc (.cells #[] 79)
      rw [hY] at EX HZ3 ⊢
      (try rw [hY] at HB9)
      (try rw [hY] at HW3 HX3 HHI)
      clear hHeld hY
      refine hK.out _ _ (sK EX) (fun hHeld => ?_)
      clear hK K
      try simp only [Act.put, sq1, sq2, sq3, sq4, sq5, sq6]
      refine wpAnyH_ready (rs := [6, 7]) (by kernel_rfl) (by simp) ?_
      refine AllReadyH.cons (o := _) rfl (fun K hK => ?_) (AllReadyH.cons (o := _) rfl (fun K hK => ?_) AllReadyH.nil)
      · refine wp_appAllRl _ _ _ rfl _ _ RA rc rs rfl HZ3.out (Nat.le_refl _) rn HRN.out rfl (HR0.out.ext (E.trans EX)) (by omega) ?_
        intro v6 w6 ho6 hg6
        have hEX : Ext U w6 := Below.grown EX hg6 EX.size (fun j ej => by injection ej with ej; rw [← ej]; exact LZ3)
        replace HW3 := hid (HW3.out.grown hg6 (Or.inr (fun h => by have h1 := HWH.out _ h; have h2 := HDZ.out; unfold Apt at h2; omega)))
        replace HX3 := hid (HX3.out.grown hg6 (fun b hb h => by injection h with h; have h2 := HDZ.out; unfold Apt at h2; omega))
        (try replace HB9 := hid (HB9.out.grown hg6 (fun h => by
          injection h with h
          have h8 := HZ3.out
          have h9 := HB9.out
          unfold Blk at h8 h9
          rw [h, h8] at h9
          injection h9 with h9
          injection h9 with _ h9 _
          exact absurd h9 (by decide))))
        obtain ⟨RA2, rc2, rfl, -, hf6, -⟩ := ho6.form (by decide) (fun _ => rfl) zeroRl
        rw [HRN.out]
        have HRR := hid (show Ownl 79 6 gRl w6 _ (.slice RA2 rn rc2) rs by rw [HRN.out] at ho6; exact ho6)
        have HHI2 := hid (Nat.le_trans HHI.out hg6.size)
        clear hHeld EX ho6 hg6 hf6 HHI
        have HHI := HHI2
        have EX := hEX
        clear hEX HHI2
        refine hK.out _ _ (sK EX) (fun hHeld => ?_)
        clear hK K
        try simp only [Act.put, sq1, sq2, sq3, sq4, sq5, sq6]
        refine wpAnyH_ready (rs := [7]) (by kernel_rfl) (by simp) ?_
        refine AllReadyH.cons (o := _) rfl (fun K hK => ?_) AllReadyH.nil
        go_simp
        obtain ⟨Y, hY⟩ := absW EX (.cells #[.int .i64 0, .slice none 0 0] 47)
        have HB9 := hid (blkNew EX 47 #[.int .i64 0, .slice none 0 0])
        have L9 := EX.size
        (try have HD9 := hid (Apt.up (lo := lo) HHI.out))
        (try replace HZ3 := hid (HZ3.out.alloc (.cells #[.int .i64 0, .slice none 0 0] 47)))
        (try replace HW3 := hid (HW3.out.ext (ext_alloc1 _ (.cells #[.int .i64 0, .slice none 0 0] 47))))
        (try replace HX3 := hid (HX3.out.ext (ext_alloc1 _ (.cells #[.int .i64 0, .slice none 0 0] 47))))
        (try replace HRR := hid (HRR.out.ext (ext_alloc1 _ (.cells #[.int .i64 0, .slice none 0 0] 47))))
        (try replace HHI := hid (Nat.le_trans HHI.out (ext_alloc1 _ (.cells #[.int .i64 0, .slice none 0 0] 47)).size))
        replace EX := EX.alloc (.cells #[.int .i64 0, .slice none 0 0] 47)
        rw [hY] at EX HB9 ⊢
        (try rw [hY] at HZ3)
        (try rw [hY] at HW3 HX3 HHI)
        (try rw [hY] at HRR)
        clear hHeld hY
        refine hK.out _ _ (sK EX) (fun hHeld => ?_)
        clear hK K
        try simp only [Act.put, sq1, sq2, sq3, sq4, sq5, sq6]
        refine wpAnyH_ready (rs := [8]) (by kernel_rfl) (by simp) ?_
        refine AllReadyH.cons (o := _) rfl (fun K hK => ?_) AllReadyH.nil
        refine wp_store_mid 47 _ _ rfl _ 0 #[.int .i64 m, .slice VA nn vc] rfl rfl (blk_there HB9.out rfl) infoNet1 (net_one m VA nn vc) ?_
        have EX2 := ext_setCells EX L9 [.int .i64 m, .slice VA nn vc] 0
        have HPF := hid (OpsIn.setsB HB9.out HX3.out (fun b hb e => by have hb1 : lo ≤ b := hb.1; have hb2 : b < hi := hb.2; have h2 := HD9.out; unfold Apt at h2; omega) [.int .i64 m, .slice VA nn vc] 0)
        have HWF := hid (Ownl.setsB HB9.out HW3.out (fun h => by have h1 := HWH.out _ h; have h2 := HD9.out; unfold Apt at h2; omega) [.int .i64 m, .slice VA nn vc] 0)
        have HRF := hid (Ownl.setsB HB9.out HRR.out (fun h => by
          obtain ⟨cs9, h8⟩ := HRR.out.kind _ h
          have h9 := HB9.out
          unfold Blk at h9
          rw [h8] at h9
          injection h9 with h9
          injection h9 with _ h9 _
          exact absurd h9 (by decide)) [.int .i64 m, .slice VA nn vc] 0)
        have HBF := hid (HB9.out.fill [.int .i64 m, .slice VA nn vc] 0)
        simp only [fillA, List.setIfInBounds_toArray, List.set_cons_zero, List.set_cons_succ] at HBF
        clear hHeld EX HB9
        have EX := EX2
        clear EX2
        refine hK.out _ _ (sK EX) (fun hHeld => ?_)
        clear hK K
        try simp only [Act.put, sq1, sq2, sq3, sq4, sq5, sq6]
        refine tk1 (i := 9) (v := ?v9k6) rfl ?y9k6 ?r9k6
        case y9k6 => (intro w' hSw; (try dsimp only at hSw); go_simp; (try with_reducible rfl))
        try simp only [Act.put, sq1, sq2, sq3, sq4, sq5, sq6]
        refine wpAnyH_done (by kernel_rfl) ?_ _
        exact REST _ _ _ _ _ _ _ EX (paths_of HXM.out HPF.out HWF.out) (rls_of HRF.out) HBF
      · go_simp
        obtain ⟨Y, hY⟩ := absW EX (.cells #[.int .i64 0, .slice none 0 0] 47)
        have HB9 := hid (blkNew EX 47 #[.int .i64 0, .slice none 0 0])
        have L9 := EX.size
        (try have HD9 := hid (Apt.up (lo := lo) HHI.out))
        (try replace HZ3 := hid (HZ3.out.alloc (.cells #[.int .i64 0, .slice none 0 0] 47)))
        (try replace HW3 := hid (HW3.out.ext (ext_alloc1 _ (.cells #[.int .i64 0, .slice none 0 0] 47))))
        (try replace HX3 := hid (HX3.out.ext (ext_alloc1 _ (.cells #[.int .i64 0, .slice none 0 0] 47))))
        (try replace HRR := hid (HRR.out.ext (ext_alloc1 _ (.cells #[.int .i64 0, .slice none 0 0] 47))))
        (try replace HHI := hid (Nat.le_trans HHI.out (ext_alloc1 _ (.cells #[.int .i64 0, .slice none 0 0] 47)).size))
        replace EX := EX.alloc (.cells #[.int .i64 0, .slice none 0 0] 47)
        rw [hY] at EX HB9 ⊢
        (try rw [hY] at HZ3)
        (try rw [hY] at HW3 HX3 HHI)
        (try rw [hY] at HRR)
        clear hHeld hY
        refine hK.out _ _ (sK EX) (fun hHeld => ?_)
        clear hK K
        try simp only [Act.put, sq1, sq2, sq3, sq4, sq5, sq6]
        refine wpAnyH_ready (rs := [6]) (by kernel_rfl) (by simp) ?_
        refine AllReadyH.cons (o := _) rfl (fun K hK => ?_) AllReadyH.nil
        refine wp_appAllRl _ _ _ rfl _ _ RA rc rs rfl HZ3.out (Nat.le_refl _) rn HRN.out rfl (HR0.out.ext (E.trans EX)) (by omega) ?_
        intro v6 w6 ho6 hg6
        have hEX : Ext U w6 := Below.grown EX hg6 EX.size (fun j ej => by injection ej with ej; rw [← ej]; exact LZ3)
        replace HW3 := hid (HW3.out.grown hg6 (Or.inr (fun h => by have h1 := HWH.out _ h; have h2 := HDZ.out; unfold Apt at h2; omega)))
        replace HX3 := hid (HX3.out.grown hg6 (fun b hb h => by injection h with h; have h2 := HDZ.out; unfold Apt at h2; omega))
        (try replace HB9 := hid (HB9.out.grown hg6 (fun h => by
          injection h with h
          have h8 := HZ3.out
          have h9 := HB9.out
          unfold Blk at h8 h9
          rw [h, h8] at h9
          injection h9 with h9
          injection h9 with _ h9 _
          exact absurd h9 (by decide))))
        obtain ⟨RA2, rc2, rfl, -, hf6, -⟩ := ho6.form (by decide) (fun _ => rfl) zeroRl
        rw [HRN.out]
        have HRR := hid (show Ownl 79 6 gRl w6 _ (.slice RA2 rn rc2) rs by rw [HRN.out] at ho6; exact ho6)
        have HHI2 := hid (Nat.le_trans HHI.out hg6.size)
        clear hHeld EX ho6 hg6 hf6 HHI
        have HHI := HHI2
        have EX := hEX
        clear hEX HHI2
        refine hK.out _ _ (sK EX) (fun hHeld => ?_)
        clear hK K
        try simp only [Act.put, sq1, sq2, sq3, sq4, sq5, sq6]
        refine wpAnyH_ready (rs := [8]) (by kernel_rfl) (by simp) ?_
        refine AllReadyH.cons (o := _) rfl (fun K hK => ?_) AllReadyH.nil
        refine wp_store_mid 47 _ _ rfl _ 0 #[.int .i64 m, .slice VA nn vc] rfl rfl (blk_there HB9.out rfl) infoNet1 (net_one m VA nn vc) ?_
        have EX2 := ext_setCells EX L9 [.int .i64 m, .slice VA nn vc] 0
        have HPF := hid (OpsIn.setsB HB9.out HX3.out (fun b hb e => by have hb1 : lo ≤ b := hb.1; have hb2 : b < hi := hb.2; have h2 := HD9.out; unfold Apt at h2; omega) [.int .i64 m, .slice VA nn vc] 0)
        have HWF := hid (Ownl.setsB HB9.out HW3.out (fun h => by have h1 := HWH.out _ h; have h2 := HD9.out; unfold Apt at h2; omega) [.int .i64 m, .slice VA nn vc] 0)
        have HRF := hid (Ownl.setsB HB9.out HRR.out (fun h => by
          obtain ⟨cs9, h8⟩ := HRR.out.kind _ h
          have h9 := HB9.out
          unfold Blk at h9
          rw [h8] at h9
          injection h9 with h9
          injection h9 with _ h9 _
          exact absurd h9 (by decide)) [.int .i64 m, .slice VA nn vc] 0)
        have HBF := hid (HB9.out.fill [.int .i64 m, .slice VA nn vc] 0)
        simp only [fillA, List.setIfInBounds_toArray, List.set_cons_zero, List.set_cons_succ] at HBF
        clear hHeld EX HB9
        have EX := EX2
        clear EX2
        refine hK.out _ _ (sK EX) (fun hHeld => ?_)
        clear hK K
        try simp only [Act.put, sq1, sq2, sq3, sq4, sq5, sq6]
        refine tk1 (i := 9) (v := ?v9k10) rfl ?y9k10 ?r9k10
        case y9k10 => (intro w' hSw; (try dsimp only at hSw); go_simp; (try with_reducible rfl))
        try simp only [Act.put, sq1, sq2, sq3, sq4, sq5, sq6]
        refine wpAnyH_done (by kernel_rfl) ?_ _
        exact REST _ _ _ _ _ _ _ EX (paths_of HXM.out HPF.out HWF.out) (rls_of HRF.out) HBF
    · go_simp
      obtain ⟨Y, hY⟩ := absW EX (.cells #[.int .i64 0, .slice none 0 0] 47)
      have HB9 := hid (blkNew EX 47 #[.int .i64 0, .slice none 0 0])
      have L9 := EX.size
      (try have HD9 := hid (Apt.up (lo := lo) HHI.out))
      (try replace HZ3 := hid (HZ3.out.alloc (.cells #[.int .i64 0, .slice none 0 0] 47)))
      (try replace HW3 := hid (HW3.out.ext (ext_alloc1 _ (.cells #[.int .i64 0, .slice none 0 0] 47))))
      (try replace HX3 := hid (HX3.out.ext (ext_alloc1 _ (.cells #[.int .i64 0, .slice none 0 0] 47))))
      (try replace HRR := hid (HRR.out.ext (ext_alloc1 _ (.cells #[.int .i64 0, .slice none 0 0] 47))))
      (try replace HHI := hid (Nat.le_trans HHI.out (ext_alloc1 _ (.cells #[.int .i64 0, .slice none 0 0] 47)).size))
      replace EX := EX.alloc (.cells #[.int .i64 0, .slice none 0 0] 47)
      rw [hY] at EX HB9 ⊢
      (try rw [hY] at HZ3)
      (try rw [hY] at HW3 HX3 HHI)
      (try rw [hY] at HRR)
      clear hHeld hY
      refine hK.out _ _ (sK EX) (fun hHeld => ?_)
      clear hK K
      try simp only [Act.put, sq1, sq2, sq3, sq4, sq5, sq6]
      refine wpAnyH_ready (rs := [3]) (by kernel_rfl) (by simp) ?_
      refine AllReadyH.cons (o := _) rfl (fun K hK => ?_) AllReadyH.nil
      go_simp
      obtain ⟨Y, hY⟩ := absW EX (.cells #[] 79)
      have HZ3 := hid (blkNew EX 79 #[])
      have LZ3 := EX.size
      (try have HDZ := hid (Apt.up (lo := lo) HHI.out))
      (try replace HB9 := hid (HB9.out.alloc (.cells #[] 79)))
      (try replace HW3 := hid (HW3.out.ext (ext_alloc1 _ (.cells #[] 79))))
      (try replace HX3 := hid (HX3.out.ext (ext_alloc1 _ (.cells #[] 79))))
      (try replace HHI := hid (Nat.le_trans HHI.out (ext_alloc1 _ (.cells #[] 79)).size))
      replace EX := EX.alloc (.cells #[] 79)
      rw [hY] at EX HZ3 ⊢
      (try rw [hY] at HB9)
      (try rw [hY] at HW3 HX3 HHI)
      clear hHeld hY
      refine hK.out _ _ (sK EX) (fun hHeld => ?_)
      clear hK K
      try simp only [Act.put, sq1, sq2, sq3, sq4, sq5, sq6]
      refine wpAnyH_ready (rs := [6]) (by kernel_rfl) (by simp) ?_
      refine AllReadyH.cons (o := _) rfl (fun K hK => ?_) AllReadyH.nil
      refine wp_appAllRl _ _ _ rfl _ _ RA rc rs rfl HZ3.out (Nat.le_refl _) rn HRN.out rfl (HR0.out.ext (E.trans EX)) (by omega) ?_
      intro v6 w6 ho6 hg6
      have hEX : Ext U w6 := Below.grown EX hg6 EX.size (fun j ej => by injection ej with ej; rw [← ej]; exact LZ3)
      replace HW3 := hid (HW3.out.grown hg6 (Or.inr (fun h => by have h1 := HWH.out _ h; have h2 := HDZ.out; unfold Apt at h2; omega)))
      replace HX3 := hid (HX3.out.grown hg6 (fun b hb h => by injection h with h; have h2 := HDZ.out; unfold Apt at h2; omega))
      (try replace HB9 := hid (HB9.out.grown hg6 (fun h => by
        injection h with h
        have h8 := HZ3.out
        have h9 := HB9.out
        unfold Blk at h8 h9
        rw [h, h8] at h9
        injection h9 with h9
        injection h9 with _ h9 _
        exact absurd h9 (by decide))))
      obtain ⟨RA2, rc2, rfl, -, hf6, -⟩ := ho6.form (by decide) (fun _ => rfl) zeroRl
      rw [HRN.out]
      have HRR := hid (show Ownl 79 6 gRl w6 _ (.slice RA2 rn rc2) rs by rw [HRN.out] at ho6; exact ho6)
      have HHI2 := hid (Nat.le_trans HHI.out hg6.size)
      clear hHeld EX ho6 hg6 hf6 HHI
      have HHI := HHI2
      have EX := hEX
      clear hEX HHI2
      refine hK.out _ _ (sK EX) (fun hHeld => ?_)
      clear hK K
      try simp only [Act.put, sq1, sq2, sq3, sq4, sq5, sq6]
      refine wpAnyH_ready (rs := [8]) (by kernel_rfl) (by simp) ?_
      refine AllReadyH.cons (o := _) rfl (fun K hK => ?_) AllReadyH.nil
      refine wp_store_mid 47 _ _ rfl _ 0 #[.int .i64 m, .slice VA nn vc] rfl rfl (blk_there HB9.out rfl) infoNet1 (net_one m VA nn vc) ?_
      have EX2 := ext_setCells EX L9 [.int .i64 m, .slice VA nn vc] 0
      have HPF := hid (OpsIn.setsB HB9.out HX3.out (fun b hb e => by have hb1 : lo ≤ b := hb.1; have hb2 : b < hi := hb.2; have h2 := HD9.out; unfold Apt at h2; omega) [.int .i64 m, .slice VA nn vc] 0)
      have HWF := hid (Ownl.setsB HB9.out HW3.out (fun h => by have h1 := HWH.out _ h; have h2 := HD9.out; unfold Apt at h2; omega) [.int .i64 m, .slice VA nn vc] 0)
      have HRF := hid (Ownl.setsB HB9.out HRR.out (fun h => by
        obtain ⟨cs9, h8⟩ := HRR.out.kind _ h
        have h9 := HB9.out
        unfold Blk at h9
        rw [h8] at h9
        injection h9 with h9
        injection h9 with _ h9 _
        exact absurd h9 (by decide)) [.int .i64 m, .slice VA nn vc] 0)
      have HBF := hid (HB9.out.fill [.int .i64 m, .slice VA nn vc] 0)
      simp only [fillA, List.setIfInBounds_toArray, List.set_cons_zero, List.set_cons_succ] at HBF
      clear hHeld EX HB9
      have EX := EX2
      clear EX2
      refine hK.out _ _ (sK EX) (fun hHeld => ?_)
      clear hK K
      try simp only [Act.put, sq1, sq2, sq3, sq4, sq5, sq6]
      refine tk1 (i := 9) (v := ?v9k15) rfl ?y9k15 ?r9k15
      case y9k15 => (intro w' hSw; (try dsimp only at hSw); go_simp; (try with_reducible rfl))
      try simp only [Act.put, sq1, sq2, sq3, sq4, sq5, sq6]
      refine wpAnyH_done (by kernel_rfl) ?_ _
      exact REST _ _ _ _ _ _ _ EX (paths_of HXM.out HPF.out HWF.out) (rls_of HRF.out) HBF
  · go_simp
    obtain ⟨Y, hY⟩ := absW EX (.cells #[] 79)
    have HZ3 := hid (blkNew EX 79 #[])
    have LZ3 := EX.size
    (try have HDZ := hid (Apt.up (lo := lo) HHI.out))
    (try replace HB9 := hid (HB9.out.alloc (.cells #[] 79)))
    (try replace HW3 := hid (HW3.out.ext (ext_alloc1 _ (.cells #[] 79))))
    (try replace HX3 := hid (HX3.out.ext (ext_alloc1 _ (.cells #[] 79))))
    (try replace HHI := hid (Nat.le_trans HHI.out (ext_alloc1 _ (.cells #[] 79)).size))
    replace EX := EX.alloc (.cells #[] 79)
    rw [hY] at EX HZ3 ⊢
    (try rw [hY] at HB9)
    (try rw [hY] at HW3 HX3 HHI)
    clear hHeld hY
    refine hK.out _ _ (sK EX) (fun hHeld => ?_)
    clear hK K
    try simp only [Act.put, sq1, sq2, sq3, sq4, sq5, sq6]
    refine wpAnyH_ready (rs := [2, 7]) (by kernel_rfl) (by simp) ?_
    refine AllReadyH.cons (o := _) rfl (fun K hK => ?_) (AllReadyH.cons (o := _) rfl (fun K hK => ?_) AllReadyH.nil)
    · obtain ⟨lo, hlo⟩ := sizeOfX EX
      go_simp
      refine Calls.mono (HCN.out _ (E.trans EX)) ?_
      rintro e X2 ⟨VA, vc, xs, rfl, hxm, hxo, hxx, hEX⟩
      dsimp only
      rw [hlo] at hxo hxx
      have HXM := hid hxm
      have HW3 := hid hxo
      obtain ⟨hi, hhi⟩ := sizeOfX hEX
      have HX3 := hid (hxx.mono (q := fun b => lo ≤ b ∧ b < hi) (fun b hb => ⟨hb.1, by rw [← hhi]; exact hb.2.1⟩))
      have HWH := hid (show ∀ q, (Value.slice VA nn vc).ownBlock = some q → lo ≤ q ∧ q < hi from fun q hq => by rw [← hhi]; exact hxo.block q hq)
      (try (have hl3 := HZ3.out.lt; rw [hlo] at hl3; have HDZ := hid (Apt.dn (hi := hi) hl3); clear hl3))
      (try (have hl9 := HB9.out.lt; rw [hlo] at hl9; have HD9 := hid (Apt.dn (hi := hi) hl9); clear hl9))
      (try replace HZ3 := hid (HZ3.out.ext hEX))
      (try replace HB9 := hid (HB9.out.ext hEX))
      replace EX := EX.trans hEX
      have HHI := hid (Nat.le_of_eq hhi.symm)
      clear hHeld hEX hxm hxo hxx hlo hhi
      refine hK.out _ _ (sK EX) (fun hHeld => ?_)
      clear hK K
      try simp only [Act.put, sq1, sq2, sq3, sq4, sq5, sq6]
      refine wpAnyH_ready (rs := [6, 7]) (by kernel_rfl) (by simp) ?_
      refine AllReadyH.cons (o := _) rfl (fun K hK => ?_) (AllReadyH.cons (o := _) rfl (fun K hK => ?_) AllReadyH.nil)
      · refine wp_appAllRl _ _ _ rfl _ _ RA rc rs rfl HZ3.out (Nat.le_refl _) rn HRN.out rfl (HR0.out.ext (E.trans EX)) (by omega) ?_
        intro v6 w6 ho6 hg6
        have hEX : Ext U w6 := Below.grown EX hg6 EX.size (fun j ej => by injection ej with ej; rw [← ej]; exact LZ3)
        replace HW3 := hid (HW3.out.grown hg6 (Or.inr (fun h => by have h1 := HWH.out _ h; have h2 := HDZ.out; unfold Apt at h2; omega)))
        replace HX3 := hid (HX3.out.grown hg6 (fun b hb h => by injection h with h; have h2 := HDZ.out; unfold Apt at h2; omega))
        (try replace HB9 := hid (HB9.out.grown hg6 (fun h => by
          injection h with h
          have h8 := HZ3.out
          have h9 := HB9.out
          unfold Blk at h8 h9
          rw [h, h8] at h9
          injection h9 with h9
          injection h9 with _ h9 _
          exact absurd h9 (by decide))))
        obtain ⟨RA2, rc2, rfl, -, hf6, -⟩ := ho6.form (by decide) (fun _ => rfl) zeroRl
        rw [HRN.out]
        have HRR := hid (show Ownl 79 6 gRl w6 _ (.slice RA2 rn rc2) rs by rw [HRN.out] at ho6; exact ho6)
        have HHI2 := hid (Nat.le_trans HHI.out hg6.size)
        clear hHeld EX ho6 hg6 hf6 HHI
        have HHI := HHI2
        have EX := hEX
        clear hEX HHI2
        refine hK.out _ _ (sK EX) (fun hHeld => ?_)
        clear hK K
        try simp only [Act.put, sq1, sq2, sq3, sq4, sq5, sq6]
        refine wpAnyH_ready (rs := [7]) (by kernel_rfl) (by simp) ?_
        refine AllReadyH.cons (o := _) rfl (fun K hK => ?_) AllReadyH.nil
        go_simp
        obtain ⟨Y, hY⟩ := absW EX (.cells #[.int .i64 0, .slice none 0 0] 47)
        have HB9 := hid (blkNew EX 47 #[.int .i64 0, .slice none 0 0])
        have L9 := EX.size
        (try have HD9 := hid (Apt.up (lo := lo) HHI.out))
        (try replace HZ3 := hid (HZ3.out.alloc (.cells #[.int .i64 0, .slice none 0 0] 47)))
        (try replace HW3 := hid (HW3.out.ext (ext_alloc1 _ (.cells #[.int .i64 0, .slice none 0 0] 47))))
        (try replace HX3 := hid (HX3.out.ext (ext_alloc1 _ (.cells #[.int .i64 0, .slice none 0 0] 47))))
        (try replace HRR := hid (HRR.out.ext (ext_alloc1 _ (.cells #[.int .i64 0, .slice none 0 0] 47))))
        (try replace HHI := hid (Nat.le_trans HHI.out (ext_alloc1 _ (.cells #[.int .i64 0, .slice none 0 0] 47)).size))
        replace EX := EX.alloc (.cells #[.int .i64 0, .slice none 0 0] 47)
        rw [hY] at EX HB9 ⊢
        (try rw [hY] at HZ3)
        (try rw [hY] at HW3 HX3 HHI)
        (try rw [hY] at HRR)
        clear hHeld hY
        refine hK.out _ _ (sK EX) (fun hHeld => ?_)
        clear hK K
        try simp only [Act.put, sq1, sq2, sq3, sq4, sq5, sq6]
        refine wpAnyH_ready (rs := [8]) (by kernel_rfl) (by simp) ?_
        refine AllReadyH.cons (o := _) rfl (fun K hK => ?_) AllReadyH.nil
        refine wp_store_mid 47 _ _ rfl _ 0 #[.int .i64 m, .slice VA nn vc] rfl rfl (blk_there HB9.out rfl) infoNet1 (net_one m VA nn vc) ?_
        have EX2 := ext_setCells EX L9 [.int .i64 m, .slice VA nn vc] 0
        have HPF := hid (OpsIn.setsB HB9.out HX3.out (fun b hb e => by have hb1 : lo ≤ b := hb.1; have hb2 : b < hi := hb.2; have h2 := HD9.out; unfold Apt at h2; omega) [.int .i64 m, .slice VA nn vc] 0)
        have HWF := hid (Ownl.setsB HB9.out HW3.out (fun h => by have h1 := HWH.out _ h; have h2 := HD9.out; unfold Apt at h2; omega) [.int .i64 m, .slice VA nn vc] 0)
        have HRF := hid (Ownl.setsB HB9.out HRR.out (fun h => by
          obtain ⟨cs9, h8⟩ := HRR.out.kind _ h
          have h9 := HB9.out
          unfold Blk at h9
          rw [h8] at h9
          injection h9 with h9
          injection h9 with _ h9 _
          exact absurd h9 (by decide)) [.int .i64 m, .slice VA nn vc] 0)
        have HBF := hid (HB9.out.fill [.int .i64 m, .slice VA nn vc] 0)
        simp only [fillA, List.setIfInBounds_toArray, List.set_cons_zero, List.set_cons_succ] at HBF
        clear hHeld EX HB9
        have EX := EX2
        clear EX2
        refine hK.out _ _ (sK EX) (fun hHeld => ?_)
        clear hK K
        try simp only [Act.put, sq1, sq2, sq3, sq4, sq5, sq6]
        refine tk1 (i := 9) (v := ?v9k21) rfl ?y9k21 ?r9k21
        case y9k21 => (intro w' hSw; (try dsimp only at hSw); go_simp; (try with_reducible rfl))
        try simp only [Act.put, sq1, sq2, sq3, sq4, sq5, sq6]
        refine wpAnyH_done (by kernel_rfl) ?_ _
        exact REST _ _ _ _ _ _ _ EX (paths_of HXM.out HPF.out HWF.out) (rls_of HRF.out) HBF
      · go_simp
        obtain ⟨Y, hY⟩ := absW EX (.cells #[.int .i64 0, .slice none 0 0] 47)
        have HB9 := hid (blkNew EX 47 #[.int .i64 0, .slice none 0 0])
        have L9 := EX.size
        (try have HD9 := hid (Apt.up (lo := lo) HHI.out))
        (try replace HZ3 := hid (HZ3.out.alloc (.cells #[.int .i64 0, .slice none 0 0] 47)))
        (try replace HW3 := hid (HW3.out.ext (ext_alloc1 _ (.cells #[.int .i64 0, .slice none 0 0] 47))))
        (try replace HX3 := hid (HX3.out.ext (ext_alloc1 _ (.cells #[.int .i64 0, .slice none 0 0] 47))))
        (try replace HRR := hid (HRR.out.ext (ext_alloc1 _ (.cells #[.int .i64 0, .slice none 0 0] 47))))
        (try replace HHI := hid (Nat.le_trans HHI.out (ext_alloc1 _ (.cells #[.int .i64 0, .slice none 0 0] 47)).size))
        replace EX := EX.alloc (.cells #[.int .i64 0, .slice none 0 0] 47)
        rw [hY] at EX HB9 ⊢
        (try rw [hY] at HZ3)
        (try rw [hY] at HW3 HX3 HHI)
        (try rw [hY] at HRR)
        clear hHeld hY
        refine hK.out _ _ (sK EX) (fun hHeld => ?_)
        clear hK K
        try simp only [Act.put, sq1, sq2, sq3, sq4, sq5, sq6]
        refine wpAnyH_ready (rs := [6]) (by kernel_rfl) (by simp) ?_
        refine AllReadyH.cons (o := _) rfl (fun K hK => ?_) AllReadyH.nil
        refine wp_appAllRl _ _ _ rfl _ _ RA rc rs rfl HZ3.out (Nat.le_refl _) rn HRN.out rfl (HR0.out.ext (E.trans EX)) (by omega) ?_
        intro v6 w6 ho6 hg6
        have hEX : Ext U w6 := Below.grown EX hg6 EX.size (fun j ej => by injection ej with ej; rw [← ej]; exact LZ3)
        replace HW3 := hid (HW3.out.grown hg6 (Or.inr (fun h => by have h1 := HWH.out _ h; have h2 := HDZ.out; unfold Apt at h2; omega)))
        replace HX3 := hid (HX3.out.grown hg6 (fun b hb h => by injection h with h; have h2 := HDZ.out; unfold Apt at h2; omega))
        (try replace HB9 := hid (HB9.out.grown hg6 (fun h => by
          injection h with h
          have h8 := HZ3.out
          have h9 := HB9.out
          unfold Blk at h8 h9
          rw [h, h8] at h9
          injection h9 with h9
          injection h9 with _ h9 _
          exact absurd h9 (by decide))))
        obtain ⟨RA2, rc2, rfl, -, hf6, -⟩ := ho6.form (by decide) (fun _ => rfl) zeroRl
        rw [HRN.out]
        have HRR := hid (show Ownl 79 6 gRl w6 _ (.slice RA2 rn rc2) rs by rw [HRN.out] at ho6; exact ho6)
        have HHI2 := hid (Nat.le_trans HHI.out hg6.size)
        clear hHeld EX ho6 hg6 hf6 HHI
        have HHI := HHI2
        have EX := hEX
        clear hEX HHI2
        refine hK.out _ _ (sK EX) (fun hHeld => ?_)
        clear hK K
        try simp only [Act.put, sq1, sq2, sq3, sq4, sq5, sq6]
        refine wpAnyH_ready (rs := [8]) (by kernel_rfl) (by simp) ?_
        refine AllReadyH.cons (o := _) rfl (fun K hK => ?_) AllReadyH.nil
        refine wp_store_mid 47 _ _ rfl _ 0 #[.int .i64 m, .slice VA nn vc] rfl rfl (blk_there HB9.out rfl) infoNet1 (net_one m VA nn vc) ?_
        have EX2 := ext_setCells EX L9 [.int .i64 m, .slice VA nn vc] 0
        have HPF := hid (OpsIn.setsB HB9.out HX3.out (fun b hb e => by have hb1 : lo ≤ b := hb.1; have hb2 : b < hi := hb.2; have h2 := HD9.out; unfold Apt at h2; omega) [.int .i64 m, .slice VA nn vc] 0)
        have HWF := hid (Ownl.setsB HB9.out HW3.out (fun h => by have h1 := HWH.out _ h; have h2 := HD9.out; unfold Apt at h2; omega) [.int .i64 m, .slice VA nn vc] 0)
        have HRF := hid (Ownl.setsB HB9.out HRR.out (fun h => by
          obtain ⟨cs9, h8⟩ := HRR.out.kind _ h
          have h9 := HB9.out
          unfold Blk at h9
          rw [h8] at h9
          injection h9 with h9
          injection h9 with _ h9 _
          exact absurd h9 (by decide)) [.int .i64 m, .slice VA nn vc] 0)
        have HBF := hid (HB9.out.fill [.int .i64 m, .slice VA nn vc] 0)
        simp only [fillA, List.setIfInBounds_toArray, List.set_cons_zero, List.set_cons_succ] at HBF
        clear hHeld EX HB9
        have EX := EX2
        clear EX2
        refine hK.out _ _ (sK EX) (fun hHeld => ?_)
        clear hK K
        try simp only [Act.put, sq1, sq2, sq3, sq4, sq5, sq6]
        refine tk1 (i := 9) (v := ?v9k25) rfl ?y9k25 ?r9k25
        case y9k25 => (intro w' hSw; (try dsimp only at hSw); go_simp; (try with_reducible rfl))
        try simp only [Act.put, sq1, sq2, sq3, sq4, sq5, sq6]
        refine wpAnyH_done (by kernel_rfl) ?_ _
        exact REST _ _ _ _ _ _ _ EX (paths_of HXM.out HPF.out HWF.out) (rls_of HRF.out) HBF
    · go_simp
      obtain ⟨Y, hY⟩ := absW EX (.cells #[.int .i64 0, .slice none 0 0] 47)
      have HB9 := hid (blkNew EX 47 #[.int .i64 0, .slice none 0 0])
      have L9 := EX.size
      (try have HD9 := hid (Apt.up (lo := lo) HHI.out))
      (try replace HZ3 := hid (HZ3.out.alloc (.cells #[.int .i64 0, .slice none 0 0] 47)))
      (try replace HW3 := hid (HW3.out.ext (ext_alloc1 _ (.cells #[.int .i64 0, .slice none 0 0] 47))))
      (try replace HX3 := hid (HX3.out.ext (ext_alloc1 _ (.cells #[.int .i64 0, .slice none 0 0] 47))))
      (try replace HRR := hid (HRR.out.ext (ext_alloc1 _ (.cells #[.int .i64 0, .slice none 0 0] 47))))
      (try replace HHI := hid (Nat.le_trans HHI.out (ext_alloc1 _ (.cells #[.int .i64 0, .slice none 0 0] 47)).size))
      replace EX := EX.alloc (.cells #[.int .i64 0, .slice none 0 0] 47)
      rw [hY] at EX HB9 ⊢
      (try rw [hY] at HZ3)
      (try rw [hY] at HW3 HX3 HHI)
      (try rw [hY] at HRR)
      clear hHeld hY
      refine hK.out _ _ (sK EX) (fun hHeld => ?_)
      clear hK K
      try simp only [Act.put, sq1, sq2, sq3, sq4, sq5, sq6]
      refine wpAnyH_ready (rs := [2]) (by kernel_rfl) (by simp) ?_
      refine AllReadyH.cons (o := _) rfl (fun K hK => ?_) AllReadyH.nil
      obtain ⟨lo, hlo⟩ := sizeOfX EX
      go_simp
      refine Calls.mono (HCN.out _ (E.trans EX)) ?_
      rintro e X2 ⟨VA, vc, xs, rfl, hxm, hxo, hxx, hEX⟩
      dsimp only
      rw [hlo] at hxo hxx
      have HXM := hid hxm
      have HW3 := hid hxo
      obtain ⟨hi, hhi⟩ := sizeOfX hEX
      have HX3 := hid (hxx.mono (q := fun b => lo ≤ b ∧ b < hi) (fun b hb => ⟨hb.1, by rw [← hhi]; exact hb.2.1⟩))
      have HWH := hid (show ∀ q, (Value.slice VA nn vc).ownBlock = some q → lo ≤ q ∧ q < hi from fun q hq => by rw [← hhi]; exact hxo.block q hq)
      (try (have hl3 := HZ3.out.lt; rw [hlo] at hl3; have HDZ := hid (Apt.dn (hi := hi) hl3); clear hl3))
      (try (have hl9 := HB9.out.lt; rw [hlo] at hl9; have HD9 := hid (Apt.dn (hi := hi) hl9); clear hl9))
      (try replace HZ3 := hid (HZ3.out.ext hEX))
      (try replace HB9 := hid (HB9.out.ext hEX))
      replace EX := EX.trans hEX
      have HHI := hid (Nat.le_of_eq hhi.symm)
      clear hHeld hEX hxm hxo hxx hlo hhi
      refine hK.out _ _ (sK EX) (fun hHeld => ?_)
      clear hK K
      try simp only [Act.put, sq1, sq2, sq3, sq4, sq5, sq6]
      refine wpAnyH_ready (rs := [6]) (by kernel_rfl) (by simp) ?_
      refine AllReadyH.cons (o := _) rfl (fun K hK => ?_) AllReadyH.nil
      refine wp_appAllRl _ _ _ rfl _ _ RA rc rs rfl HZ3.out (Nat.le_refl _) rn HRN.out rfl (HR0.out.ext (E.trans EX)) (by omega) ?_
      intro v6 w6 ho6 hg6
      have hEX : Ext U w6 := Below.grown EX hg6 EX.size (fun j ej => by injection ej with ej; rw [← ej]; exact LZ3)
      replace HW3 := hid (HW3.out.grown hg6 (Or.inr (fun h => by have h1 := HWH.out _ h; have h2 := HDZ.out; unfold Apt at h2; omega)))
      replace HX3 := hid (HX3.out.grown hg6 (fun b hb h => by injection h with h; have h2 := HDZ.out; unfold Apt at h2; omega))
      (try replace HB9 := hid (HB9.out.grown hg6 (fun h => by
        injection h with h
        have h8 := HZ3.out
        have h9 := HB9.out
        unfold Blk at h8 h9
        rw [h, h8] at h9
        injection h9 with h9
        injection h9 with _ h9 _
        exact absurd h9 (by decide))))
      obtain ⟨RA2, rc2, rfl, -, hf6, -⟩ := ho6.form (by decide) (fun _ => rfl) zeroRl
      rw [HRN.out]
      have HRR := hid (show Ownl 79 6 gRl w6 _ (.slice RA2 rn rc2) rs by rw [HRN.out] at ho6; exact ho6)
      have HHI2 := hid (Nat.le_trans HHI.out hg6.size)
      clear hHeld EX ho6 hg6 hf6 HHI
      have HHI := HHI2
      have EX := hEX
      clear hEX HHI2
      refine hK.out _ _ (sK EX) (fun hHeld => ?_)
      clear hK K
      try simp only [Act.put, sq1, sq2, sq3, sq4, sq5, sq6]
      refine wpAnyH_ready (rs := [8]) (by kernel_rfl) (by simp) ?_
      refine AllReadyH.cons (o := _) rfl (fun K hK => ?_) AllReadyH.nil
      refine wp_store_mid 47 _ _ rfl _ 0 #[.int .i64 m, .slice VA nn vc] rfl rfl (blk_there HB9.out rfl) infoNet1 (net_one m VA nn vc) ?_
      have EX2 := ext_setCells EX L9 [.int .i64 m, .slice VA nn vc] 0
      have HPF := hid (OpsIn.setsB HB9.out HX3.out (fun b hb e => by have hb1 : lo ≤ b := hb.1; have hb2 : b < hi := hb.2; have h2 := HD9.out; unfold Apt at h2; omega) [.int .i64 m, .slice VA nn vc] 0)
      have HWF := hid (Ownl.setsB HB9.out HW3.out (fun h => by have h1 := HWH.out _ h; have h2 := HD9.out; unfold Apt at h2; omega) [.int .i64 m, .slice VA nn vc] 0)
      have HRF := hid (Ownl.setsB HB9.out HRR.out (fun h => by
        obtain ⟨cs9, h8⟩ := HRR.out.kind _ h
        have h9 := HB9.out
        unfold Blk at h9
        rw [h8] at h9
        injection h9 with h9
        injection h9 with _ h9 _
        exact absurd h9 (by decide)) [.int .i64 m, .slice VA nn vc] 0)
      have HBF := hid (HB9.out.fill [.int .i64 m, .slice VA nn vc] 0)
      simp only [fillA, List.setIfInBounds_toArray, List.set_cons_zero, List.set_cons_succ] at HBF
      clear hHeld EX HB9
      have EX := EX2
      clear EX2
      refine hK.out _ _ (sK EX) (fun hHeld => ?_)
      clear hK K
      try simp only [Act.put, sq1, sq2, sq3, sq4, sq5, sq6]
      refine tk1 (i := 9) (v := ?v9k30) rfl ?y9k30 ?r9k30
      case y9k30 => (intro w' hSw; (try dsimp only at hSw); go_simp; (try with_reducible rfl))
      try simp only [Act.put, sq1, sq2, sq3, sq4, sq5, sq6]
      refine wpAnyH_done (by kernel_rfl) ?_ _
      exact REST _ _ _ _ _ _ _ EX (paths_of HXM.out HPF.out HWF.out) (rls_of HRF.out) HBF
  · go_simp
    obtain ⟨Y, hY⟩ := absW EX (.cells #[.int .i64 0, .slice none 0 0] 47)
    have HB9 := hid (blkNew EX 47 #[.int .i64 0, .slice none 0 0])
    have L9 := EX.size
    (try have HD9 := hid (Apt.up (lo := lo) HHI.out))
    (try replace HZ3 := hid (HZ3.out.alloc (.cells #[.int .i64 0, .slice none 0 0] 47)))
    (try replace HW3 := hid (HW3.out.ext (ext_alloc1 _ (.cells #[.int .i64 0, .slice none 0 0] 47))))
    (try replace HX3 := hid (HX3.out.ext (ext_alloc1 _ (.cells #[.int .i64 0, .slice none 0 0] 47))))
    (try replace HRR := hid (HRR.out.ext (ext_alloc1 _ (.cells #[.int .i64 0, .slice none 0 0] 47))))
    (try replace HHI := hid (Nat.le_trans HHI.out (ext_alloc1 _ (.cells #[.int .i64 0, .slice none 0 0] 47)).size))
    replace EX := EX.alloc (.cells #[.int .i64 0, .slice none 0 0] 47)
    rw [hY] at EX HB9 ⊢
    (try rw [hY] at HZ3)
    (try rw [hY] at HW3 HX3 HHI)
    (try rw [hY] at HRR)
    clear hHeld hY
    refine hK.out _ _ (sK EX) (fun hHeld => ?_)
    clear hK K
    try simp only [Act.put, sq1, sq2, sq3, sq4, sq5, sq6]
    refine wpAnyH_ready (rs := [2, 3]) (by kernel_rfl) (by simp) ?_
    refine AllReadyH.cons (o := _) rfl (fun K hK => ?_) (AllReadyH.cons (o := _) rfl (fun K hK => ?_) AllReadyH.nil)
    · obtain ⟨lo, hlo⟩ := sizeOfX EX
      go_simp
      refine Calls.mono (HCN.out _ (E.trans EX)) ?_
      rintro e X2 ⟨VA, vc, xs, rfl, hxm, hxo, hxx, hEX⟩
      dsimp only
      rw [hlo] at hxo hxx
      have HXM := hid hxm
      have HW3 := hid hxo
      obtain ⟨hi, hhi⟩ := sizeOfX hEX
      have HX3 := hid (hxx.mono (q := fun b => lo ≤ b ∧ b < hi) (fun b hb => ⟨hb.1, by rw [← hhi]; exact hb.2.1⟩))
      have HWH := hid (show ∀ q, (Value.slice VA nn vc).ownBlock = some q → lo ≤ q ∧ q < hi from fun q hq => by rw [← hhi]; exact hxo.block q hq)
      (try (have hl3 := HZ3.out.lt; rw [hlo] at hl3; have HDZ := hid (Apt.dn (hi := hi) hl3); clear hl3))
      (try (have hl9 := HB9.out.lt; rw [hlo] at hl9; have HD9 := hid (Apt.dn (hi := hi) hl9); clear hl9))
      (try replace HZ3 := hid (HZ3.out.ext hEX))
      (try replace HB9 := hid (HB9.out.ext hEX))
      replace EX := EX.trans hEX
      have HHI := hid (Nat.le_of_eq hhi.symm)
      clear hHeld hEX hxm hxo hxx hlo hhi
      refine hK.out _ _ (sK EX) (fun hHeld => ?_)
      clear hK K
      try simp only [Act.put, sq1, sq2, sq3, sq4, sq5, sq6]
      refine wpAnyH_ready (rs := [3]) (by kernel_rfl) (by simp) ?_
      refine AllReadyH.cons (o := _) rfl (fun K hK => ?_) AllReadyH.nil
      go_simp
      obtain ⟨Y, hY⟩ := absW EX (.cells #[] 79)
      have HZ3 := hid (blkNew EX 79 #[])
      have LZ3 := EX.size
      (try have HDZ := hid (Apt.up (lo := lo) HHI.out))
      (try replace HB9 := hid (HB9.out.alloc (.cells #[] 79)))
      (try replace HW3 := hid (HW3.out.ext (ext_alloc1 _ (.cells #[] 79))))
      (try replace HX3 := hid (HX3.out.ext (ext_alloc1 _ (.cells #[] 79))))
      (try replace HHI := hid (Nat.le_trans HHI.out (ext_alloc1 _ (.cells #[] 79)).size))
      replace EX := EX.alloc (.cells #[] 79)
      rw [hY] at EX HZ3 ⊢
      (try rw [hY] at HB9)
      (try rw [hY] at HW3 HX3 HHI)
      clear hHeld hY
      refine hK.out _ _ (sK EX) (fun hHeld => ?_)
      clear hK K
      try simp only [Act.put, sq1, sq2, sq3, sq4, sq5, sq6]
      refine wpAnyH_ready (rs := [6]) (by kernel_rfl) (by simp) ?_
      refine AllReadyH.cons (o := _) rfl (fun K hK => ?_) AllReadyH.nil
      refine wp_appAllRl _ _ _ rfl _ _ RA rc rs rfl HZ3.out (Nat.le_refl _) rn HRN.out rfl (HR0.out.ext (E.trans EX)) (by omega) ?_
      intro v6 w6 ho6 hg6
      have hEX : Ext U w6 := Below.grown EX hg6 EX.size (fun j ej => by injection ej with ej; rw [← ej]; exact LZ3)
      replace HW3 := hid (HW3.out.grown hg6 (Or.inr (fun h => by have h1 := HWH.out _ h; have h2 := HDZ.out; unfold Apt at h2; omega)))
      replace HX3 := hid (HX3.out.grown hg6 (fun b hb h => by injection h with h; have h2 := HDZ.out; unfold Apt at h2; omega))
      (try replace HB9 := hid (HB9.out.grown hg6 (fun h => by
        injection h with h
        have h8 := HZ3.out
        have h9 := HB9.out
        unfold Blk at h8 h9
        rw [h, h8] at h9
        injection h9 with h9
        injection h9 with _ h9 _
        exact absurd h9 (by decide))))
      obtain ⟨RA2, rc2, rfl, -, hf6, -⟩ := ho6.form (by decide) (fun _ => rfl) zeroRl
      rw [HRN.out]
      have HRR := hid (show Ownl 79 6 gRl w6 _ (.slice RA2 rn rc2) rs by rw [HRN.out] at ho6; exact ho6)
      have HHI2 := hid (Nat.le_trans HHI.out hg6.size)
      clear hHeld EX ho6 hg6 hf6 HHI
      have HHI := HHI2
      have EX := hEX
      clear hEX HHI2
      refine hK.out _ _ (sK EX) (fun hHeld => ?_)
      clear hK K
      try simp only [Act.put, sq1, sq2, sq3, sq4, sq5, sq6]
      refine wpAnyH_ready (rs := [8]) (by kernel_rfl) (by simp) ?_
      refine AllReadyH.cons (o := _) rfl (fun K hK => ?_) AllReadyH.nil
      refine wp_store_mid 47 _ _ rfl _ 0 #[.int .i64 m, .slice VA nn vc] rfl rfl (blk_there HB9.out rfl) infoNet1 (net_one m VA nn vc) ?_
      have EX2 := ext_setCells EX L9 [.int .i64 m, .slice VA nn vc] 0
      have HPF := hid (OpsIn.setsB HB9.out HX3.out (fun b hb e => by have hb1 : lo ≤ b := hb.1; have hb2 : b < hi := hb.2; have h2 := HD9.out; unfold Apt at h2; omega) [.int .i64 m, .slice VA nn vc] 0)
      have HWF := hid (Ownl.setsB HB9.out HW3.out (fun h => by have h1 := HWH.out _ h; have h2 := HD9.out; unfold Apt at h2; omega) [.int .i64 m, .slice VA nn vc] 0)
      have HRF := hid (Ownl.setsB HB9.out HRR.out (fun h => by
        obtain ⟨cs9, h8⟩ := HRR.out.kind _ h
        have h9 := HB9.out
        unfold Blk at h9
        rw [h8] at h9
        injection h9 with h9
        injection h9 with _ h9 _
        exact absurd h9 (by decide)) [.int .i64 m, .slice VA nn vc] 0)
      have HBF := hid (HB9.out.fill [.int .i64 m, .slice VA nn vc] 0)
      simp only [fillA, List.setIfInBounds_toArray, List.set_cons_zero, List.set_cons_succ] at HBF
      clear hHeld EX HB9
      have EX := EX2
      clear EX2
      refine hK.out _ _ (sK EX) (fun hHeld => ?_)
      clear hK K
      try simp only [Act.put, sq1, sq2, sq3, sq4, sq5, sq6]
      refine tk1 (i := 9) (v := ?v9k36) rfl ?y9k36 ?r9k36
      case y9k36 => (intro w' hSw; (try dsimp only at hSw); go_simp; (try with_reducible rfl))
      try simp only [Act.put, sq1, sq2, sq3, sq4, sq5, sq6]
      refine wpAnyH_done (by kernel_rfl) ?_ _
      exact REST _ _ _ _ _ _ _ EX (paths_of HXM.out HPF.out HWF.out) (rls_of HRF.out) HBF
    · go_simp
      obtain ⟨Y, hY⟩ := absW EX (.cells #[] 79)
      have HZ3 := hid (blkNew EX 79 #[])
      have LZ3 := EX.size
      (try have HDZ := hid (Apt.up (lo := lo) HHI.out))
      (try replace HB9 := hid (HB9.out.alloc (.cells #[] 79)))
      (try replace HW3 := hid (HW3.out.ext (ext_alloc1 _ (.cells #[] 79))))
      (try replace HX3 := hid (HX3.out.ext (ext_alloc1 _ (.cells #[] 79))))
      (try replace HHI := hid (Nat.le_trans HHI.out (ext_alloc1 _ (.cells #[] 79)).size))
      replace EX := EX.alloc (.cells #[] 79)
      rw [hY] at EX HZ3 ⊢
      (try rw [hY] at HB9)
      (try rw [hY] at HW3 HX3 HHI)
      clear hHeld hY
      refine hK.out _ _ (sK EX) (fun hHeld => ?_)
      clear hK K
      try simp only [Act.put, sq1, sq2, sq3, sq4, sq5, sq6]
      refine wpAnyH_ready (rs := [2]) (by kernel_rfl) (by simp) ?_
      refine AllReadyH.cons (o := _) rfl (fun K hK => ?_) AllReadyH.nil
      obtain ⟨lo, hlo⟩ := sizeOfX EX
      go_simp
      refine Calls.mono (HCN.out _ (E.trans EX)) ?_
      rintro e X2 ⟨VA, vc, xs, rfl, hxm, hxo, hxx, hEX⟩
      dsimp only
      rw [hlo] at hxo hxx
      have HXM := hid hxm
      have HW3 := hid hxo
      obtain ⟨hi, hhi⟩ := sizeOfX hEX
      have HX3 := hid (hxx.mono (q := fun b => lo ≤ b ∧ b < hi) (fun b hb => ⟨hb.1, by rw [← hhi]; exact hb.2.1⟩))
      have HWH := hid (show ∀ q, (Value.slice VA nn vc).ownBlock = some q → lo ≤ q ∧ q < hi from fun q hq => by rw [← hhi]; exact hxo.block q hq)
      (try (have hl3 := HZ3.out.lt; rw [hlo] at hl3; have HDZ := hid (Apt.dn (hi := hi) hl3); clear hl3))
      (try (have hl9 := HB9.out.lt; rw [hlo] at hl9; have HD9 := hid (Apt.dn (hi := hi) hl9); clear hl9))
      (try replace HZ3 := hid (HZ3.out.ext hEX))
      (try replace HB9 := hid (HB9.out.ext hEX))
      replace EX := EX.trans hEX
      have HHI := hid (Nat.le_of_eq hhi.symm)
      clear hHeld hEX hxm hxo hxx hlo hhi
      refine hK.out _ _ (sK EX) (fun hHeld => ?_)
      clear hK K
      try simp only [Act.put, sq1, sq2, sq3, sq4, sq5, sq6]
      refine wpAnyH_ready (rs := [6]) (by kernel_rfl) (by simp) ?_
      refine AllReadyH.cons (o := _) rfl (fun K hK => ?_) AllReadyH.nil
      refine wp_appAllRl _ _ _ rfl _ _ RA rc rs rfl HZ3.out (Nat.le_refl _) rn HRN.out rfl (HR0.out.ext (E.trans EX)) (by omega) ?_
      intro v6 w6 ho6 hg6
      have hEX : Ext U w6 := Below.grown EX hg6 EX.size (fun j ej => by injection ej with ej; rw [← ej]; exact LZ3)
      replace HW3 := hid (HW3.out.grown hg6 (Or.inr (fun h => by have h1 := HWH.out _ h; have h2 := HDZ.out; unfold Apt at h2; omega)))
      replace HX3 := hid (HX3.out.grown hg6 (fun b hb h => by injection h with h; have h2 := HDZ.out; unfold Apt at h2; omega))
      (try replace HB9 := hid (HB9.out.grown hg6 (fun h => by
        injection h with h
        have h8 := HZ3.out
        have h9 := HB9.out
        unfold Blk at h8 h9
        rw [h, h8] at h9
        injection h9 with h9
        injection h9 with _ h9 _
        exact absurd h9 (by decide))))
      obtain ⟨RA2, rc2, rfl, -, hf6, -⟩ := ho6.form (by decide) (fun _ => rfl) zeroRl
      rw [HRN.out]
      have HRR := hid (show Ownl 79 6 gRl w6 _ (.slice RA2 rn rc2) rs by rw [HRN.out] at ho6; exact ho6)
      have HHI2 := hid (Nat.le_trans HHI.out hg6.size)
      clear hHeld EX ho6 hg6 hf6 HHI
      have HHI := HHI2
      have EX := hEX
      clear hEX HHI2
      refine hK.out _ _ (sK EX) (fun hHeld => ?_)
      clear hK K
      try simp only [Act.put, sq1, sq2, sq3, sq4, sq5, sq6]
      refine wpAnyH_ready (rs := [8]) (by kernel_rfl) (by simp) ?_
      refine AllReadyH.cons (o := _) rfl (fun K hK => ?_) AllReadyH.nil
      refine wp_store_mid 47 _ _ rfl _ 0 #[.int .i64 m, .slice VA nn vc] rfl rfl (blk_there HB9.out rfl) infoNet1 (net_one m VA nn vc) ?_
      have EX2 := ext_setCells EX L9 [.int .i64 m, .slice VA nn vc] 0
      have HPF := hid (OpsIn.setsB HB9.out HX3.out (fun b hb e => by have hb1 : lo ≤ b := hb.1; have hb2 : b < hi := hb.2; have h2 := HD9.out; unfold Apt at h2; omega) [.int .i64 m, .slice VA nn vc] 0)
      have HWF := hid (Ownl.setsB HB9.out HW3.out (fun h => by have h1 := HWH.out _ h; have h2 := HD9.out; unfold Apt at h2; omega) [.int .i64 m, .slice VA nn vc] 0)
      have HRF := hid (Ownl.setsB HB9.out HRR.out (fun h => by
        obtain ⟨cs9, h8⟩ := HRR.out.kind _ h
        have h9 := HB9.out
        unfold Blk at h9
        rw [h8] at h9
        injection h9 with h9
        injection h9 with _ h9 _
        exact absurd h9 (by decide)) [.int .i64 m, .slice VA nn vc] 0)
      have HBF := hid (HB9.out.fill [.int .i64 m, .slice VA nn vc] 0)
      simp only [fillA, List.setIfInBounds_toArray, List.set_cons_zero, List.set_cons_succ] at HBF
      clear hHeld EX HB9
      have EX := EX2
      clear EX2
      refine hK.out _ _ (sK EX) (fun hHeld => ?_)
      clear hK K
      try simp only [Act.put, sq1, sq2, sq3, sq4, sq5, sq6]
      refine tk1 (i := 9) (v := ?v9k41) rfl ?y9k41 ?r9k41
      case y9k41 => (intro w' hSw; (try dsimp only at hSw); go_simp; (try with_reducible rfl))
      try simp only [Act.put, sq1, sq2, sq3, sq4, sq5, sq6]
      refine wpAnyH_done (by kernel_rfl) ?_ _
      exact REST _ _ _ _ _ _ _ EX (paths_of HXM.out HPF.out HWF.out) (rls_of HRF.out) HBF
end Go.Proofs.YtecamnhnjmldcaaGreatDoor
