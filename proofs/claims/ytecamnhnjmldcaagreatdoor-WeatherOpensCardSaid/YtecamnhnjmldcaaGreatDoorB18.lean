/- Safe. -/
import Derived.Test.YtecamnhnjmldcaaGreatDoorB17
set_option linter.unusedSimpArgs false
set_option linter.unusedVariables false
namespace Go.Proofs.YtecamnhnjmldcaaGreatDoor
open Go.RowKit
def ruE (n : Nat) (rs : List Rl) : Int := unlessM (rlsB n rs) 53
def safE (f : List (List Hr)) (seen : List Sg) (m : Int) (ps : List Pt) (rs : List Rl) : Int := begM [fcE f, netE m ps, sgE f seen, ruE ps.length rs] seen f
def safP (rs : List Rl) (ss : List (List Hr)) (N : Nat) (ps : List Pt) : List Pt := ps.mapIdx fun i p => withO p (safeM (forP rs i) ss N p.opens)
def safK (rs : List Rl) (ss : List (List Hr)) (N : Nat) (ps : List Pt) (k : Nat) : List Pt := ps.mapIdx fun i p => if i < k then withO p (safeM (forP rs i) ss N p.opens) else p
theorem safK_zero (rs : List Rl) (ss : List (List Hr)) (N : Nat) (ps : List Pt) : safK rs ss N ps 0 = ps := by
  unfold safK
  apply List.ext_getElem?
  intro j
  simp [List.getElem?_mapIdx]
theorem safK_len (rs : List Rl) (ss : List (List Hr)) (N : Nat) (ps : List Pt) (k : Nat) : (safK rs ss N ps k).length = ps.length := by unfold safK; simp
theorem safK_at (rs : List Rl) (ss : List (List Hr)) (N : Nat) (ps : List Pt) (k : Nat) : (safK rs ss N ps k).getD k zeroPt = ps.getD k zeroPt := by
  unfold safK
  simp only [List.getD_eq_getElem?_getD, List.getElem?_mapIdx]
  cases ps[k]? <;> simp
theorem safK_step (rs : List Rl) (ss : List (List Hr)) (N : Nat) (ps : List Pt) (k : Nat) (hk : k < ps.length) : safK rs ss N ps (k + 1) = (safK rs ss N ps k).set k (withO (ps.getD k zeroPt) (safeM (forP rs k) ss N (ps.getD k zeroPt).opens)) := by
  apply List.ext_getElem?
  intro j
  by_cases hjk : k = j
  · subst hjk
    rw [List.getElem?_set_self (by rw [safK_len]; exact hk)]
    unfold safK
    rw [List.getElem?_mapIdx, List.getElem?_eq_getElem hk]
    simp [List.getD, List.getElem?_eq_getElem hk]
  · rw [List.getElem?_set_ne hjk]
    unfold safK
    rw [List.getElem?_mapIdx, List.getElem?_mapIdx]
    cases ps[j]? with
    | none => rfl
    | some p =>
      have e : (j < k + 1) = (j < k) := by simp; omega
      simp [e]
theorem safK_all (rs : List Rl) (ss : List (List Hr)) (N : Nat) (ps : List Pt) : safK rs ss N ps ps.length = safP rs ss N ps := by
  unfold safK safP
  apply List.ext_getElem?
  intro j
  rw [List.getElem?_mapIdx, List.getElem?_mapIdx]
  by_cases hj : j < ps.length
  · rw [List.getElem?_eq_getElem hj]; simp [hj]
  · rw [List.getElem?_eq_none (by omega)]; rfl
def SafeIs (f : List (List Hr)) (seen : List Sg) (m : Int) (ps : List Pt) (rs : List Rl) (w : World) (e : Ending) (w' : World) : Prop :=
  ∃ (m' : Int) (A' : Option Addr) (n' c' : Nat), e = .returned (.tuple #[.agg #[.int .i64 m', .slice A' n' c'], .int .i64 (safE f seen m ps rs)]) ∧
    (safE f seen m ps rs = 0 → m' = m ∧ n' = ps.length ∧ n' ≤ c' ∧ PathsAt w' A' (safP rs (scsM seen f) (hoursN f) ps)) ∧ (safE f seen m ps rs ≠ 0 → m' = 0 ∧ n' = 0) ∧ Ext w w'
theorem forP_sub (rs : List Rl) (path : Int) : ∀ r ∈ forP rs path, r ∈ rs := fun r hr => (List.mem_filter.1 hr).1
structure SafOk (f : List (List Hr)) (seen : List Sg) (m : Int) (ps : List Pt) (rs : List Rl) : Prop where
  fc : fcB f = true
  sg : sgsB (hoursN f) seen = true
  net : vNet m ps = true
  ru : rlsB ps.length rs = true
  ne : numsM seen f ≠ []
theorem safE_ok {f : List (List Hr)} {seen : List Sg} {m : Int} {ps : List Pt} {rs : List Rl} (h : safE f seen m ps rs = 0) : SafOk f seen m ps rs := by
  obtain ⟨h0, hn⟩ := begM_zero h
  obtain ⟨h1, h0⟩ := orM_zero h0
  obtain ⟨h2, h0⟩ := orM_zero h0
  obtain ⟨h3, h0⟩ := orM_zero h0
  obtain ⟨h4, _⟩ := orM_zero h0
  unfold netE at h2
  unfold ruE unlessM at h4
  have hl : vNet m ps = true := by
    cases hb : vNet m ps
    · rw [hb] at h2; simp at h2
    · rfl
  have hr : rlsB ps.length rs = true := by
    cases hb : rlsB ps.length rs
    · rw [hb] at h4; simp at h4
    · rfl
  exact ⟨fcE_ok h1, sgE_ok h3, hl, hr, hn⟩
theorem rlsB_aft {n : Nat} {rs : List Rl} (h : rlsB n rs = true) : ∀ r ∈ rs, 0 ≤ r.after ∧ r.after ≤ 1000 := by
  intro r hr
  unfold rlsB at h
  simp only [Bool.and_eq_true, decide_eq_true_eq, List.all_eq_true] at h
  have h2 := h.2 r hr
  unfold rlB inI at h2
  simp only [Bool.and_eq_true, decide_eq_true_eq] at h2
  omega
theorem vNet_ops {m : Int} {ps : List Pt} (h : vNet m ps = true) : ∀ p ∈ ps, p.opens.length ≤ 6 := by
  intro p hp
  unfold vNet at h
  simp only [Bool.and_eq_true, decide_eq_true_eq, List.all_eq_true] at h
  have h2 := h.2.2.2 p hp
  unfold vPath at h2
  simp only [Bool.and_eq_true, decide_eq_true_eq, List.all_eq_true] at h2
  exact h2.2.2.2.2.1
set_option maxHeartbeats 16000000 in
set_option maxRecDepth 100000 in
theorem safe_any (f : List (List Hr)) (A : Option Addr) (n c : Nat) (seen : List Sg) (SA : Option Addr) (sm sc : Nat) (m : Int) (ps : List Pt) (NA : Option Addr) (nn nc : Nat) (hpn : ps.length = nn) (hpm : nn ≤ 1000) (rs : List Rl) (RA : Option Addr) (rn rc : Nat) (hrn : rs.length = rn) (hrm : rn ≤ 1000)
    (w : World) (h : FIn w f A n seen SA sm) (hp : PathsAt w NA ps) (hr : RlsAt w RA rs) :
    Calls Tryz.prog 21 #[.agg #[.int .i64 m, .slice NA nn nc], .slice RA rn rc, .agg #[.slice A n c], .slice SA sm sc] w (SafeIs f seen m ps rs w) := by
  have HC := hid (fun (W : World) (hW : Ext w W) => (h.ext hW).check c)
  have HS := hid (fun (W : World) (hW : Ext w W) => (h.ext hW).sights c sc)
  have HP := hid (fun (W : World) (hW : Ext w W) => pCheck_any m NA nn nc ps hpn W (hp.ext hW))
  have HR := hid (fun (W : World) (hW : Ext w W) => checkRules_any m NA nn nc hpm rs RA rn rc hrn hrm W (h.wid.ext hW) (hr.ext hW))
  have HB := hid (fun (W : World) (hW : Ext w W) (EA : Option Addr) (hi : IntsAt W EA [fcE f, netE m ps, sgE f seen, ruE ps.length rs]) => (h.ext hW).begin c sc [fcE f, netE m ps, sgE f seen, ruE ps.length rs] EA 4 4 rfl (by decide) (fun h0 => ⟨fcE_ok (orM_zero h0).1, sgE_ok (orM_zero (orM_zero (orM_zero h0).2).2).1⟩) hi)
  obtain ⟨r, hre⟩ : ∃ r, safE f seen m ps rs = r := ⟨_, rfl⟩
  have HRE := hid hre
  change Hid (∀ W, Ext w W → Calls _ _ _ _ fun e w' => e = .returned (.int .i64 (ruE nn rs)) ∧ Ext W w') at HR
  have HFI := hid h
  have HPA := hid hp
  have HRA := hid hr
  have HPN := hid hpn
  have HRN := hid hrn
  unfold SafeIs
  rw [hre]
  unfold safE at hre
  clear h hp hr hrn
  rw [hpn] at HB hre
  generalize fcE f = e1 at *
  generalize netE m ps = e2 at *
  generalize sgE f seen = e3 at *
  generalize ruE nn rs = e4 at *
  have HRE2 := hid hre
  clear hre hpn
  go_enter Tryz.func21, Tryz.ntmps21
  go_wp2_with fail
  refine wp_abs (fun W => Blk W w.heap.size 47 #[.int .i64 m, .slice NA nn nc] ∧ Blk W (w.heap.size + 1) 24 #[.slice A n c] ∧ Blk W (w.heap.size + 1 + 1) 47 #[.int .i64 0, .slice none 0 0] ∧ Ext w W) ⟨?_, ?_, ?_, by (repeat' (first | with_reducible assumption | with_reducible exact Ext.refl _ | with_reducible refine Ext.alloc ?_ _ | with_reducible refine Ext.set ?_ ?_ _ | with_reducible refine Ext.drew ?_ | with_reducible refine Ext.drewN ?_ _ | with_reducible refine Ext.trans ?_ (by assumption) | (dsimp only; omega)))⟩ ?_
  · exact blk_old (blk_old (blk_last _ _) _) _
  · have := blk_last (w.alloc (.cells #[.int .i64 m, .slice NA nn nc] 47)) (.cells #[.slice A n c] 24)
    rw [World.size_alloc] at this
    exact blk_old this _
  · have := blk_last ((w.alloc (.cells #[.int .i64 m, .slice NA nn nc] 47)).alloc (.cells #[.slice A n c] 24)) (.cells #[.int .i64 0, .slice none 0 0] 47)
    rw [World.size_alloc, World.size_alloc] at this
    exact this
  rintro W ⟨b1, b2, b3, HE⟩
  have B1 := hid b1
  have B2 := hid b2
  have B3 := hid b3
  have d0 := b1.cell 0
  have d1 := b1.cell 1
  have z1 := b1.lt
  have f0 := b2.cell 0
  have z2 := b2.lt
  have z3 := b3.lt
  simp only [List.getElem?_toArray, List.getElem?_cons_zero, List.getElem?_cons_succ] at d0 d1 f0
  clear b1 b2 b3
  refine region_rest (fun QQ => ∀ (ob : Nat) (Y : World) (N : Nat) (A1 : Option Addr) (n1 c1 : Nat) (A2 : Option Addr) (n2 c2 : Nat) (u16 : Value), Ext W Y → W.heap.size ≤ ob → Hid (Blk Y ob 100 #[.int .i64 N, .slice A1 n1 c1, .slice A2 n2 c2]) → OutV f seen (begM [e1, e2, e3, e4] seen f) w.heap.size Y N (.slice A1 n1 c1) (.slice A2 n2 c2) →
      QQ .normal { tmps := #[.agg #[.int .i64 m, .slice NA nn nc], .slice RA rn rc, .agg #[.slice A n c], .slice SA sm sc, .pointer (some ⟨w.heap.size, 0, none⟩), undef, .pointer (some ⟨w.heap.size + 1, 0, none⟩), undef, .pointer (some ⟨w.heap.size + 1 + 1, 0, none⟩), .int .i64 0, .pointer (some ⟨ob, 0, none⟩), .int .i64 (begM [e1, e2, e3, e4] seen f), undef, undef,
        .tuple #[.agg #[.int .i64 N, .slice A1 n1 c1, .slice A2 n2 c2], .int .i64 (begM [e1, e2, e3, e4] seen f)], .agg #[.slice A n c], .slice SA sm sc, .agg #[.slice A n c], .int .i64 e1, .agg #[.int .i64 m, .slice NA nn nc], .int .i64 e2, .agg #[.slice A n c], .slice SA sm sc, .int .i64 e3, .agg #[.int .i64 m, .slice NA nn nc], .slice RA rn rc, .int .i64 e4, u16,
        .tuple #[.agg #[.int .i64 N, .slice A1 n1 c1, .slice A2 n2 c2], .int .i64 (begM [e1, e2, e3, e4] seen f)], .agg #[.int .i64 N, .slice A1 n1 c1, .slice A2 n2 c2], .int .i64 (begM [e1, e2, e3, e4] seen f), undef, undef, undef, undef, undef, undef, undef, undef, undef, undef, undef, undef, undef, undef, undef, undef, undef, undef, undef, undef, undef, undef, undef, undef, undef, undef, undef, undef, undef], defers := [] } Y) ?rest (fun REST => ?_)
  case rest =>
    intro ob Y N A1 n1 c1 A2 n2 c2 u16 hEW hob HOB hOV
    rw [HRE2.out] at hOV ⊢
    have HOV := hid hOV
    have hEY := HE.trans hEW
    have sY := hEW.size
    have C1 := hid (show Blk _ _ _ _ from B1.out.ext hEW)
    have C3 := hid (show Blk _ _ _ _ from B3.out.ext hEW)
    have g0 := C1.out.cell 0
    have g1 := C1.out.cell 1
    have g1f := C1.out.fro 1
    have gz := C1.out.lt
    have k0 := C3.out.cell 0
    have k1 := C3.out.cell 1
    have k0f := C3.out.fro 0
    have k1f := C3.out.fro 1
    have kz := C3.out.lt
    simp only [List.getElem?_toArray, List.getElem?_cons_zero, List.getElem?_cons_succ] at g0 g1 k0 k1
    clear hOV HC HS HP HR HB B1 B2 B3 d0 d1 f0 z1 z2 HRE2 hEW
    dsimp only
    by_cases h0 : r = 0
    case neg =>
      have hd : (r != 0) = true := by simp [h0]
      have HH0 := hid h0
      clear h0 HOV HOB
      go_wp2
      exact bodyPost_ret (v := .tuple #[.agg #[.int .i64 0, .slice none 0 0], .int .i64 r]) (by simp [results, Tryz.results21, go_sem, k0, k1]) rfl ⟨0, none, 0, 0, rfl, fun h => absurd h HH0.out, fun _ => ⟨rfl, rfl⟩, by (repeat' (first | with_reducible assumption | with_reducible exact Ext.refl _ | with_reducible refine Ext.alloc ?_ _ | with_reducible refine Ext.set ?_ ?_ _ | with_reducible refine Ext.drew ?_ | with_reducible refine Ext.drewN ?_ _ | with_reducible refine Ext.trans ?_ (by assumption) | (dsimp only; omega)))⟩
    subst h0
    have ok := safE_ok HRE.out
    obtain ⟨rfl, hO1, hO2⟩ := HOV.out.1 rfl
    obtain ⟨A3, c3, e3', -, hsc, -⟩ := hO2.form
    injection e3' with e3' e4' e5'
    subst e3' e4' e5'
    obtain ⟨xs, hxm, hxf, hxo⟩ := px_list HPN.out HPA.out
    have hxl : xs.length = nn := by rw [← HPN.out, ← hxm, List.length_map]
    have HCL := hid (fun (W : World) (hW : Ext w W) => clonePt_any NA nn nc xs hxl (by omega) W (by
      intro hne
      obtain ⟨b, off, hA, hb, hcc⟩ := hxf hne
      exact ⟨b, off, hA, Nat.lt_of_lt_of_le hb hW.size, fun k hk r hr => (hW.cell hb).trans (hcc k hk r hr)⟩))
    have HAFT := hid (rlsB_aft ok.ru)
    have HOPS := hid (vNet_ops ok.net)
    have hfc := fc_ok ok.fc
    have hN48 : hoursN f ≤ 48 := hfc.2.2.1
    have HALL := hid (scsM_all (seen := seen) ok.fc)
    have hssl : (scsM seen f).length ≤ 6 := Nat.le_trans (scsM_le seen f) hfc.1
    have HSC := hid hO2
    have HXM := hid hxm
    have HXO := hid (hxo.ext hEY)
    have HXL := hid hxl
    clear ok hfc hsc hO1 hO2 hxf hxo hxm hxl HOV
    obtain ⟨N, hNN⟩ : ∃ N, hoursN f = N := ⟨_, rfl⟩
    obtain ⟨ss, hSS⟩ : ∃ ss, scsM seen f = ss := ⟨_, rfl⟩
    have HNN := hid hNN
    have HSS := hid hSS
    rw [hNN] at hN48 HALL HOB
    rw [hSS] at HALL hssl HSC HOB
    simp only [hNN, hSS]
    clear hNN hSS
    go_wp2_with fail
    refine Calls.mono (HCL.out _ hEY) ?_
    rintro e w2 ⟨v, rfl, hO, hE2⟩
    obtain ⟨VA, vc, rfl, hvc, -, -⟩ := (hO.form (by decide) (fun _ => rfl) zeroPx)
    rw [HXL.out] at hO hvc ⊢
    have HV := hid hO
    have E2 := hid (hEY.trans hE2)
    have D1 := hid (show Blk _ _ _ _ from C1.out.ext hE2)
    have D3 := hid (show Blk _ _ _ _ from C3.out.ext hE2)
    have DO := hid (show Blk _ _ _ _ from HOB.out.ext hE2)
    have DS := hid (HSC.out.ext hE2)
    have DXO := hid (HXO.out.ext hE2)
    have s2 := hE2.size
    have m1 := D1.out.cell 1
    have m1f := D1.out.fro 1
    have mz := D1.out.lt
    simp only [List.getElem?_toArray, List.getElem?_cons_zero, List.getElem?_cons_succ] at m1
    have R1 := hid (D1.out.setAt 1 (.slice VA nn vc))
    have R3 := hid (D3.out.other (p := ⟨w.heap.size, 1, none⟩) (by dsimp only; omega) (.slice VA nn vc))
    have hobw : ob ≠ w.heap.size := by have := HE.size; omega
    have RO := hid (DO.out.other (p := ⟨w.heap.size, 1, none⟩) (by dsimp only; omega) (.slice VA nn vc))
    have RS := hid (DS.out.apart (grown_set w2 ⟨w.heap.size, 1, none⟩ (.slice VA nn vc)) (Apart.blk D1.out (by decide)) (Apart.blk D1.out (by decide)))
    have RV := hid (HV.out.other (p := ⟨w.heap.size, 1, none⟩) (by dsimp only; omega) (.slice VA nn vc))
    have RX := hid (E2.out.set (p := ⟨w.heap.size, 1, none⟩) (Nat.le_refl _) (.slice VA nn vc))
    simp only [List.setIfInBounds_toArray, List.set_cons_zero, List.set_cons_succ] at R1
    clear HV D1 D3 DO DS hO hE2 C1 C3 HOB HSC HXO g0 g1 g1f gz k0 k1 k0f k1f kz HCL
    dsimp only
    go_wp2_with fail
    have HK0 := hid (safK_zero rs ss N ps)
    go_loopw [42] (fun i wr => Ext w wr ∧ ∃ (k : Nat) (ys : List PtX), k ≤ nn ∧ i = .int .i64 k ∧ Hid (ys.map (·.1) = safK rs ss N ps k) ∧ Hid (Blk wr w.heap.size 47 #[.int .i64 m, .slice VA nn vc]) ∧ Hid (Blk wr (w.heap.size + 1 + 1) 47 #[.int .i64 0, .slice none 0 0]) ∧ Hid (Blk wr ob 100 #[.int .i64 (N : Int), .slice A1 n1 c1, .slice A2 ss.length c2]) ∧
      Hid (OwnSc wr w.heap.size (.slice A2 ss.length c2) ss) ∧ Hid (Ownl 64 8 gPt wr Y.heap.size (.slice VA nn vc) ys) ∧ Hid (OpsIn wr (fun b => (b < w.heap.size ∨ Y.heap.size ≤ b) ∧ (Value.slice VA nn vc).ownBlock ≠ some b) ys)) (fun i _ => nn - (intOf i).toNat)
    case atStart =>
      refine ⟨RX.out, 0, xs, Nat.zero_le _, rfl, hid (by rw [HXM.out, HK0.out]), R1, R3, RO, RS, RV, hid ?_⟩
      refine (DXO.out.set (p := ⟨w.heap.size, 1, none⟩) (fun b hb => by dsimp only; omega) _).mono (fun b hb => ⟨.inl hb, fun hq => ?_⟩)
      have := (RV.out.block b hq).1
      have := hEY.size
      omega
    case round =>
      obtain ⟨hE, k, ys, hk, rfl, HY, K1, K3, KO, KS, KV, KX⟩ := hrel
      clear R1 R3 RO RS RV RX m1 m1f mz DXO E2
      by_cases hlt : k < nn
      · have hyl : ys.length = nn := by rw [← List.length_map (f := (·.1)), HY.out, safK_len, HPN.out]
        obtain ⟨q, qc, hq, hq1, hq2⟩ := KV.out.some_ (by omega)
        injection hq with hqA hqn hqc
        subst hqA hqc
        clear hqn
        have hfl := (KV.out.form (by decide) (fun _ => rfl) zeroPx)
        obtain ⟨A9, c9, hv9, _, hf9, _⟩ := hfl
        injection hv9 with hv9 hlq hcq
        clear hlq hcq
        subst hv9
        obtain ⟨b9, o9, hA9, hb9, hc9⟩ := hf9 (by rintro rfl; simp at hyl; omega)
        injection hA9 with hA9
        injection hA9 with hb9' ho9 hs9
        clear hs9
        subst hb9' ho9
        have h8 := hc9 k (by omega)
        have hop := KX.out k (by omega)
        have hfst : (ys.getD k zeroPx).1 = ps.getD k zeroPt := by
          rw [← safK_at rs ss N ps k, ← HY.out]
          simp only [List.getD_eq_getElem?_getD, List.getElem?_map, List.getElem?_eq_getElem (show k < ys.length by omega)]
          rfl
        have HST := hid (safK_step rs ss N ps k (by rw [HPN.out]; exact hlt))
        have hpo := HOPS.out _ (mem_at ps zeroPt k (by rw [HPN.out]; exact hlt))
        obtain ⟨⟨p, PA, pc⟩, hy⟩ : ∃ y, ys.getD k zeroPx = y := ⟨_, rfl⟩
        have HYK := hid hy
        rw [hy] at h8 hop hfst
        dsimp only at hop hfst
        rw [← hfst] at HST hpo
        have e0 : wr.cell? ⟨q, k * 8, none⟩ = some (.int .i64 p.frm) := by have := h8 0 (by omega); simpa [gPt] using this
        have e1 : wr.cell? ⟨q, k * 8 + 1, none⟩ = some (.int .i64 p.dst) := by have := h8 1 (by omega); simpa [gPt] using this
        have e2 : wr.cell? ⟨q, k * 8 + 2, none⟩ = some (.int .i64 p.grade) := by have := h8 2 (by omega); simpa [gPt] using this
        have e3 : wr.cell? ⟨q, k * 8 + 3, none⟩ = some (.int .i64 p.tl) := by have := h8 3 (by omega); simpa [gPt] using this
        have e4 : wr.cell? ⟨q, k * 8 + 4, none⟩ = some (.int .i64 p.th) := by have := h8 4 (by omega); simpa [gPt] using this
        have e5 : wr.cell? ⟨q, k * 8 + 5, none⟩ = some (.int .i64 p.sl) := by have := h8 5 (by omega); simpa [gPt] using this
        have e6 : wr.cell? ⟨q, k * 8 + 6, none⟩ = some (.int .i64 p.sh) := by have := h8 6 (by omega); simpa [gPt] using this
        have e7 : wr.cell? ⟨q, k * 8 + 7, none⟩ = some (.slice PA p.opens.length pc) := by have := h8 7 (by omega); simpa [gPt] using this
        have HOPN := hid hop.2.1
        have HYL := hid hyl
        have hq3 : Y.heap.size ≤ q := hq1
        have RG := hid (fun (X : World) (hX : Ext w X) => regime_any N A1 n1 c1 A2 ss.length c2 rs RA rn rc HRN.out hrm (k : Int) X (HRA.out.ext hX))
        have SO := hid (fun (A' : Option Addr) (c' : Nat) (X : World) (hX : Ext w X) (hs : ScsAt X A2 ss) (hru : RlsAt X A' (forP rs k)) (ho : OpensAt X PA p.opens) => safeO_any N (by omega) A1 n1 c1 A2 ss.length c2 ss (forP rs k) A' (forP rs k).length c' p PA pc (by omega) X
          ⟨by omega, rfl, by omega, HALL.out, rfl, by have := HRN.out; have h3 : (forP rs k).length ≤ rs.length := List.length_filter_le _ _; omega, fun r hr => HAFT.out r (forP_sub rs k r hr), hs, hru, HFI.out.wid.ext hX⟩ ho)
        have m0 := K1.out.cell 0
        have m1 := K1.out.cell 1
        have mz := K1.out.lt
        have o0 := KO.out.cell 0
        have o1 := KO.out.cell 1
        have o2 := KO.out.cell 2
        have oz := KO.out.lt
        simp only [List.getElem?_toArray, List.getElem?_cons_zero, List.getElem?_cons_succ] at m0 m1 o0 o1 o2
        have hnq1 : ¬ w.heap.size = q := by omega
        have hnq2 : ¬ ob = q := fun h => by
          have hk1 := KV.out.kind q rfl
          obtain ⟨cs9, hk1⟩ := hk1
          have hk2 : wr.heap[ob]? = _ := KO.out
          rw [h, hk1] at hk2
          injection hk2 with hk2
          injection hk2 with _ hk2 _
          exact absurd hk2 (by decide)
        have hnq3 : ¬ wr.heap.size = q := by omega
        clear h8 hop hf9 hc9 hb9 hfst hy hyl
        unfold Pt.val at SO
        generalize p.opens.length = pol at *
        obtain ⟨f1, f2, f3, f4, f5, f6, f7, os⟩ := p
        dsimp only at *
        go_wp2_with fail
        have B13 := blk_last wr (.cells #[.int .i64 f1, .int .i64 f2, .int .i64 f3, .int .i64 f4, .int .i64 f5, .int .i64 f6, .int .i64 f7, .slice PA pol pc] 64)
        have E9 := ext_alloc1 wr (.cells #[.int .i64 f1, .int .i64 f2, .int .i64 f3, .int .i64 f4, .int .i64 f5, .int .i64 f6, .int .i64 f7, .slice PA pol pc] 64)
        obtain ⟨W9, hW9⟩ : ∃ W9, wr.alloc (.cells #[.int .i64 f1, .int .i64 f2, .int .i64 f3, .int .i64 f4, .int .i64 f5, .int .i64 f6, .int .i64 f7, .slice PA pol pc] 64) = W9 := ⟨_, rfl⟩
        rw [hW9] at B13 E9 ⊢
        have HE7 := hid e7
        clear hW9 e0 e1 e2 e3 e4 e5 e6 e7
        have t0 := blk_cell B13 0
        have t1 := blk_cell B13 1
        have t2 := blk_cell B13 2
        have t3 := blk_cell B13 3
        have t4 := blk_cell B13 4
        have t5 := blk_cell B13 5
        have t6 := blk_cell B13 6
        have t7 := blk_cell B13 7
        have tz : wr.heap.size < W9.heap.size := (Array.getElem?_eq_some_iff.1 B13).1
        simp only [List.getElem?_toArray, List.getElem?_cons_zero, List.getElem?_cons_succ] at t0 t1 t2 t3 t4 t5 t6 t7
        have m0' := (E9.cell (p := ⟨w.heap.size, 0, none⟩) mz).trans m0
        have m1' := (E9.cell (p := ⟨w.heap.size, 1, none⟩) mz).trans m1
        have o0' := (E9.cell (p := ⟨ob, 0, none⟩) oz).trans o0
        have o1' := (E9.cell (p := ⟨ob, 1, none⟩) oz).trans o1
        have o2' := (E9.cell (p := ⟨ob, 2, none⟩) oz).trans o2
        have mz' : w.heap.size < W9.heap.size := by omega
        have oz' : ob < W9.heap.size := by omega
        clear m0 m1 o0 o1 o2 B13
        refine wp_region_held_drew (S := fun w' => ∀ b o, b < W9.heap.size → ¬ b = q → w'.cell? ⟨b, o, none⟩ = W9.cell? ⟨b, o, none⟩) (by kernel_rfl) ?hS0 (fun hHeld => ?_)
        case hS0 => exact fun _ _ _ _ => rfl
        have EX : Ext W9 W9.drew := Ext.drew (Ext.refl W9)
        obtain ⟨X, hX⟩ : ∃ X, W9.drew = X := ⟨_, rfl⟩
        rw [hX] at EX hHeld ⊢
        clear hX
        refine tk1 (i := 0) (v := ?v0za) rfl ?y0za ?r0za
        case y0za => (intro w' hSw; (try dsimp only at hSw); go_simp; (try with_reducible rfl))
        try simp only [Act.put, sq1, sq2, sq3, sq4, sq5, sq6]
        refine tk1 (i := 1) (v := ?v1za) rfl ?y1za ?r1za
        case y1za => (intro w' hSw; (try dsimp only at hSw); go_simp; (try with_reducible rfl))
        try simp only [Act.put, sq1, sq2, sq3, sq4, sq5, sq6]
        refine tk1 (i := 2) (v := ?v2za) rfl ?y2za ?r2za
        case y2za => (intro w' hSw; (try dsimp only at hSw); go_simp; (try with_reducible rfl))
        try simp only [Act.put, sq1, sq2, sq3, sq4, sq5, sq6]
        refine tk1 (i := 3) (v := ?v3za) rfl ?y3za ?r3za
        case y3za => (intro w' hSw; (try dsimp only at hSw); go_simp; (try with_reducible rfl))
        try simp only [Act.put, sq1, sq2, sq3, sq4, sq5, sq6]
        refine tk1 (i := 4) (v := ?v4za) rfl ?y4za ?r4za
        case y4za => (intro w' hSw; (try dsimp only at hSw); go_simp; (try with_reducible rfl))
        try simp only [Act.put, sq1, sq2, sq3, sq4, sq5, sq6]
        refine tk1 (i := 5) (v := ?v5za) rfl ?y5za ?r5za
        case y5za => (intro w' hSw; (try dsimp only at hSw); go_simp; (try with_reducible rfl))
        try simp only [Act.put, sq1, sq2, sq3, sq4, sq5, sq6]
        refine tk1 (i := 7) (v := ?v7za) rfl ?y7za ?r7za
        case y7za => (intro w' hSw; (try dsimp only at hSw); go_simp; (try with_reducible rfl))
        try simp only [Act.put, sq1, sq2, sq3, sq4, sq5, sq6]
        refine wpAnyH_ready (rs := [6]) (by kernel_rfl) (by simp) ?_
        refine AllReadyH.cons (o := _) rfl (fun K hK => ?_) AllReadyH.nil
        go_simp
        refine Calls.mono (RG.out _ ((hE.trans E9).trans EX)) ?_
        rintro e X1 ⟨GA, gc, rfl, hGO, hE1⟩
        dsimp only
        have hRU : RlsAt X1 GA (forP rs k) := flat_rls.1 (by
          obtain ⟨A8, c8, hv8, _, hf8, _⟩ := (hGO.form (by decide) (fun _ => rfl) zeroRl)
          injection hv8 with hv8
          subst hv8
          exact hf8)
        have EX1 := EX.trans hE1
        have SO1 := hid (SO.out GA gc X1 ((hE.trans E9).trans EX1) (by
          obtain ⟨A8, c8, hv8, _, hs8, _⟩ := ((KS.out.ext E9).ext EX1).form
          injection hv8 with hv8
          subst hv8
          exact hs8) hRU ((HOPN.out.ext E9).ext EX1))
        clear hHeld hE1 hGO hRU SO RG EX
        refine hK.out _ _ (fun b o hb _ => EX1.cell (p := ⟨b, o, none⟩) hb) (fun hHeld => ?_)
        clear hK K
        try simp only [Act.put, sq1, sq2, sq3, sq4, sq5, sq6]
        refine wpAnyH_ready (rs := [8]) (by kernel_rfl) (by simp) ?_
        refine AllReadyH.cons (o := _) rfl (fun K hK => ?_) AllReadyH.nil
        unfold regCells at SO1 ⊢
        generalize (forP rs k).length = gl at *
        go_simp
        refine Calls.mono SO1.out ?_
        rintro e X2 ⟨SA2, sc2, rfl, hscl, hsop, hsb, hE2⟩
        dsimp only
        have EX2 := EX1.trans hE2
        have hX1 := EX1.size
        have E2w := E9.trans EX2
        have hwr2 := E2w.size
        have KV2 := hid (KV.out.ext E2w)
        have KS2 := hid (KS.out.ext E2w)
        have K12 := hid (show Blk _ _ _ _ from K1.out.ext E2w)
        have K32 := hid (show Blk _ _ _ _ from K3.out.ext E2w)
        have KO2 := hid (show Blk _ _ _ _ from KO.out.ext E2w)
        have KX2 := hid (KX.out.ext E2w)
        have HE2 := hid (hE.trans E2w)
        have v7 := (E2w.cell (p := ⟨q, k * 8 + 7, none⟩) hq2).trans HE7.out
        have hown : X2.ownsRow Y.heap.size 64 8 (.slice (some ⟨q, 0, none⟩) nn vc) ys.length (ys.flatMap gPt) := KV2.out
        have hown2 : X2.ownsRow Y.heap.size 64 8 (.slice (some ⟨q, 0, none⟩) ys.length vc) ys.length (ys.flatMap gPt) := by have h5 := hown; rw [← HYL.out] at h5; exact h5
        have v7f := hown2.frozenAt (k * 8 + 7)
        have KVo := hid (Ownl.opens (show Ownl 64 8 gPt X2 Y.heap.size (.slice (some ⟨q, 0, none⟩) ys.length vc) ys from hown2) (k := k) (by rw [HYL.out]; exact hlt) (safeM (forP rs k) ss N os) SA2 sc2)
        have HSCL := hid hscl
        have HSOP := hid hsop
        have HSB := hid (fun b o sp hA => (show (b < w.heap.size ∨ Y.heap.size ≤ b) ∧ (Value.slice (some ⟨q, 0, none⟩) nn vc).ownBlock ≠ some b from by
          have := hsb b o sp hA
          refine ⟨.inr (by omega), fun h => ?_⟩
          have h' : some q = some b := h
          injection h' with h'
          omega))
        have hk1i : (k : Int) < (nn : Int) := by omega
        have hqX : q < X2.heap.size := by omega
        clear hHeld hE2 hsb hscl hsop hown hown2 HOPN KV KS K1 K3 KO KX SO1
        refine hK.out _ _ (fun b o hb _ => EX2.cell (p := ⟨b, o, none⟩) hb) (fun hHeld => ?_)
        clear hK K
        try simp only [Act.put, sq1, sq2, sq3, sq4, sq5, sq6]
        generalize safeM (forP rs k) ss N os = os2 at *
        generalize hol : os2.length = ol2 at *
        refine tk1 (i := 9) (v := ?v9zb) rfl ?y9zb ?r9zb
        case y9zb => (intro w' hSw; (try dsimp only at hSw); go_simp; (try with_reducible rfl))
        try simp only [Act.put, sq1, sq2, sq3, sq4, sq5, sq6]
        refine tk1 (i := 10) (v := ?v10zb) rfl ?y10zb ?r10zb
        case y10zb => (intro w' hSw; (try dsimp only at hSw); go_simp; (try with_reducible rfl))
        try simp only [Act.put, sq1, sq2, sq3, sq4, sq5, sq6]
        refine wpAnyH_ready (rs := [11]) (by kernel_rfl) (by simp) ?_
        refine AllReadyH.cons (o := _) rfl (fun K hK => ?_) AllReadyH.nil
        have SX2 := hid (fun b o (hb : b < W9.heap.size) => EX2.cell (p := ⟨b, o, none⟩) hb)
        clear EX2 EX1 t0 t1 t2 t3 t4 t5 t6 t7 m0' m1' o0' o1' o2'
        go_simp
        have HOL := hid hol
        have ZKV := hid (show Ownl 64 8 gPt (X2.setCell ⟨q, k * 8 + 7, none⟩ (.slice SA2 ol2 sc2)) Y.heap.size (.slice (some ⟨q, 0, none⟩) nn vc) (ys.set k (withO ⟨f1, f2, f3, f4, f5, f6, f7, os⟩ os2, SA2, sc2)) by
          have h5 := KVo.out.1
          rw [HYK.out, HYL.out] at h5
          exact h5)
        have ZG := hid (show X2.grownBy (X2.setCell ⟨q, k * 8 + 7, none⟩ (.slice SA2 ol2 sc2)) (some q) from grown_set _ _ _)
        have Z1 := hid (K12.out.grown ZG.out (by simp; omega))
        have Z3 := hid (K32.out.grown ZG.out (by simp; omega))
        have ZO := hid (KO2.out.grown ZG.out (by simp; omega))
        have BQ := hid (KV2.out.kind q rfl)
        have ZS := hid (KS2.out.apart ZG.out (fun r hr => by cases hr; obtain ⟨cs9, h9⟩ := BQ.out; exact ⟨cs9, _, h9, by decide⟩) (fun r hr => by cases hr; obtain ⟨cs9, h9⟩ := BQ.out; exact ⟨cs9, _, h9, by decide⟩))
        have ZE := hid (HE2.out.set (p := ⟨q, k * 8 + 7, none⟩) (by dsimp only; omega) (.slice SA2 ol2 sc2))
        have ZX := hid ((KX2.out.put k (withO ⟨f1, f2, f3, f4, f5, f6, f7, os⟩ os2) SA2 sc2 (by rw [show (withO ⟨f1, f2, f3, f4, f5, f6, f7, os⟩ os2).opens = os2 from rfl, HOL.out]; exact HSCL.out) HSOP.out (fun _ => HSB.out)).set (p := ⟨q, k * 8 + 7, none⟩) (fun b hb => fun h => hb.2 (by rw [h]; rfl)) (.slice SA2 ol2 sc2))
        have ZY := hid (show (ys.set k (withO ⟨f1, f2, f3, f4, f5, f6, f7, os⟩ os2, SA2, sc2)).map (·.1) = safK rs ss N ps (k + 1) by rw [HST.out, ← HY.out, List.map_set])
        obtain ⟨Z, hZ⟩ : ∃ Z, X2.setCell ⟨q, k * 8 + 7, none⟩ (.slice SA2 ol2 sc2) = Z := ⟨_, rfl⟩
        rw [hZ] at ZKV ZG Z1 Z3 ZO ZS ZE ZX ⊢
        clear hol
        refine hK.out _ _ (fun b o hb hne => ?_) (fun hHeld => ?_)
        · rw [← hZ]
          exact (World.cell?_setCell_other _ _ _ _ (fun e => hne (by have := congrArg Addr.block e; exact this.symm))).trans (SX2.out b o hb)
        clear hK K
        try simp only [Act.put, sq1, sq2, sq3, sq4, sq5, sq6]
        refine wpAnyH_done (by kernel_rfl) ?_ _
        clear hHeld hZ KVo KV2 KS2 K12 K32 KO2 KX2 HE2 v7 v7f ZG BQ HSB HSOP HSCL
        go_wp2
        go_roundw
        case rel => exact ⟨ZE.out, k + 1, _, by omega, by go_num, ZY, Z1, Z3, ZO, ZS, ZKV, ZX⟩
        case measure => simp [intOf]; omega
      · obtain rfl : k = nn := by omega
        have m0 := K1.out.cell 0
        have m1 := K1.out.cell 1
        have p0 := K3.out.cell 0
        have p1 := K3.out.cell 1
        have p0f := K3.out.fro 0
        have p1f := K3.out.fro 1
        have mz := K1.out.lt
        have pz := K3.out.lt
        simp only [List.getElem?_toArray, List.getElem?_cons_zero, List.getElem?_cons_succ] at m0 m1 p0 p1
        have HFIN := hid (show ys.map (·.1) = safP rs ss N ps from HY.out.trans (by rw [← HPN.out]; exact safK_all rs ss N ps))
        have hYl := HXL.out
        have HYF := hid (fun (Z : World) (hv : Ownl 64 8 gPt Z Y.heap.size (.slice VA k vc) ys) => (show FlatAt 8 gPt zeroPx Z VA ys by
          obtain ⟨A9, c9, hv9, _, hf9, _⟩ := (hv.form (by decide) (fun _ => rfl) zeroPx)
          injection hv9 with hv9
          subst hv9
          exact hf9))
        have hwY : w.heap.size + 1 + 1 < Y.heap.size := by omega
        have ZV := hid (((KV.out.other (p := ⟨w.heap.size + 1 + 1, 0, none⟩) (by dsimp only; omega) (.int .i64 m)).other (p := ⟨w.heap.size + 1 + 1, 1, none⟩) (by dsimp only; omega) (.slice VA k vc)))
        have ZX := hid ((KX.out.set (p := ⟨w.heap.size + 1 + 1, 0, none⟩) (fun b hb => by have := hb.1; dsimp only; omega) (.int .i64 m)).set (p := ⟨w.heap.size + 1 + 1, 1, none⟩) (fun b hb => by have := hb.1; dsimp only; omega) (.slice VA k vc))
        have ZE := hid ((hE.set (p := ⟨w.heap.size + 1 + 1, 0, none⟩) (by dsimp only; omega) (.int .i64 m)).set (p := ⟨w.heap.size + 1 + 1, 1, none⟩) (by dsimp only; omega) (.slice VA k vc))
        have R3 := hid ((K3.out.setAt 0 (.int .i64 m)).setAt 1 (.slice VA k vc))
        simp only [List.setIfInBounds_toArray, List.set_cons_zero, List.set_cons_succ] at R3
        clear K1 K3 KO KS KV KX
        go_wp2
        obtain ⟨Z, hZ⟩ : ∃ Z, (wr.setCell ⟨w.heap.size + 1 + 1, 0, none⟩ (.int .i64 m)).setCell ⟨w.heap.size + 1 + 1, 1, none⟩ (.slice VA k vc) = Z := ⟨_, rfl⟩
        rw [hZ] at ZV ZX ZE R3 ⊢
        clear hZ
        have r0 := R3.out.cell 0
        have r1 := R3.out.cell 1
        simp only [List.getElem?_toArray, List.getElem?_cons_zero, List.getElem?_cons_succ] at r0 r1
        exact bodyPost_ret (v := .tuple #[.agg #[.int .i64 m, .slice VA k vc], .int .i64 0]) (by simp [results, Tryz.results21, go_sem, r0, r1]) rfl ⟨m, VA, k, vc, rfl, ⟨rfl, HPN.out.symm, hvc, by rw [HNN.out, HSS.out, ← HFIN.out]; exact ZX.out.paths (HYF.out _ ZV.out)⟩, ZE.out⟩
  refine wp_region_held_drew (S := fun w' => (∀ b o, b < W.heap.size → w'.cell? ⟨b, o, none⟩ = W.cell? ⟨b, o, none⟩) ∧ W.heap.size ≤ w'.heap.size ∧ Ext W w') (by kernel_rfl) ?hS0 (fun hHeld => ?_)
  case hS0 => exact sK (Ext.drew (Ext.refl _))
  have X0 : Ext W W.drew := Ext.drew (Ext.refl W)
  have EX := X0
  obtain ⟨X, hX⟩ : ∃ X, W.drew = X := ⟨_, rfl⟩
  rw [hX] at EX hHeld ⊢
  clear hX X0
  refine tk1 (i := 0) (v := ?v0a) rfl ?y0a ?r0a
  case y0a => (intro w' hSw; (try dsimp only at hSw); go_simp; (try with_reducible rfl))
  try simp only [Act.put, sq1, sq2, sq3, sq4, sq5, sq6]
  refine tk1 (i := 1) (v := ?v1a) rfl ?y1a ?r1a
  case y1a => (intro w' hSw; (try dsimp only at hSw); go_simp; (try with_reducible rfl))
  try simp only [Act.put, sq1, sq2, sq3, sq4, sq5, sq6]
  refine tk1 (i := 2) (v := ?v2a) rfl ?y2a ?r2a
  case y2a => (intro w' hSw; (try dsimp only at hSw); go_simp; (try with_reducible rfl))
  try simp only [Act.put, sq1, sq2, sq3, sq4, sq5, sq6]
  refine tk1 (i := 4) (v := ?v4a) rfl ?y4a ?r4a
  case y4a => (intro w' hSw; (try dsimp only at hSw); go_simp; (try with_reducible rfl))
  try simp only [Act.put, sq1, sq2, sq3, sq4, sq5, sq6]
  refine tk1 (i := 6) (v := ?v6a) rfl ?y6a ?r6a
  case y6a => (intro w' hSw; (try dsimp only at hSw); go_simp; (try with_reducible rfl))
  try simp only [Act.put, sq1, sq2, sq3, sq4, sq5, sq6]
  refine tk1 (i := 7) (v := ?v7a) rfl ?y7a ?r7a
  case y7a => (intro w' hSw; (try dsimp only at hSw); go_simp; (try with_reducible rfl))
  try simp only [Act.put, sq1, sq2, sq3, sq4, sq5, sq6]
  refine tk1 (i := 9) (v := ?v9a) rfl ?y9a ?r9a
  case y9a => (intro w' hSw; (try dsimp only at hSw); go_simp; (try with_reducible rfl))
  try simp only [Act.put, sq1, sq2, sq3, sq4, sq5, sq6]
  refine tk1 (i := 10) (v := ?v10a) rfl ?y10a ?r10a
  case y10a => (intro w' hSw; (try dsimp only at hSw); go_simp; (try with_reducible rfl))
  try simp only [Act.put, sq1, sq2, sq3, sq4, sq5, sq6]
  refine wpAnyH_ready (rs := [3, 17]) (by kernel_rfl) (by simp) ?_
  refine AllReadyH.cons (o := _) rfl (fun K hK => ?_) (AllReadyH.cons (o := _) rfl (fun K hK => ?_) AllReadyH.nil)
  · go_simp
    refine Calls.mono (HC.out _ (HE.trans EX)) ?_
    rintro e X ⟨rfl, hEX⟩
    dsimp only
    replace EX := EX.trans hEX
    (try replace OB := hid (OB.out.ext hEX))
    (try replace IS := hid (IS.out.ext hEX))
    clear hHeld hEX
    refine hK.out _ _ (sK EX) (fun hHeld => ?_)
    clear hK K
    try simp only [Act.put, sq1, sq2, sq3, sq4, sq5, sq6]
    refine wpAnyH_ready (rs := [5, 17]) (by kernel_rfl) (by simp) ?_
    refine AllReadyH.cons (o := _) rfl (fun K hK => ?_) (AllReadyH.cons (o := _) rfl (fun K hK => ?_) AllReadyH.nil)
    · go_simp
      refine Calls.mono (HP.out _ (HE.trans EX)) ?_
      rintro e X ⟨rfl, hEX⟩
      dsimp only
      replace EX := EX.trans hEX
      (try replace OB := hid (OB.out.ext hEX))
      (try replace IS := hid (IS.out.ext hEX))
      clear hHeld hEX
      refine hK.out _ _ (sK EX) (fun hHeld => ?_)
      clear hK K
      try simp only [Act.put, sq1, sq2, sq3, sq4, sq5, sq6]
      refine wpAnyH_ready (rs := [8, 17]) (by kernel_rfl) (by simp) ?_
      refine AllReadyH.cons (o := _) rfl (fun K hK => ?_) (AllReadyH.cons (o := _) rfl (fun K hK => ?_) AllReadyH.nil)
      · go_simp
        refine Calls.mono (HS.out _ (HE.trans EX)) ?_
        rintro e X ⟨rfl, hEX⟩
        dsimp only
        replace EX := EX.trans hEX
        (try replace OB := hid (OB.out.ext hEX))
        (try replace IS := hid (IS.out.ext hEX))
        clear hHeld hEX
        refine hK.out _ _ (sK EX) (fun hHeld => ?_)
        clear hK K
        try simp only [Act.put, sq1, sq2, sq3, sq4, sq5, sq6]
        refine wpAnyH_ready (rs := [11, 17]) (by kernel_rfl) (by simp) ?_
        refine AllReadyH.cons (o := _) rfl (fun K hK => ?_) (AllReadyH.cons (o := _) rfl (fun K hK => ?_) AllReadyH.nil)
        · go_simp
          refine Calls.mono (HR.out _ (HE.trans EX)) ?_
          rintro e X ⟨rfl, hEX⟩
          dsimp only
          replace EX := EX.trans hEX
          (try replace OB := hid (OB.out.ext hEX))
          (try replace IS := hid (IS.out.ext hEX))
          clear hHeld hEX
          refine hK.out _ _ (sK EX) (fun hHeld => ?_)
          clear hK K
          try simp only [Act.put, sq1, sq2, sq3, sq4, sq5, sq6]
          refine wpAnyH_ready (rs := [12, 17]) (by kernel_rfl) (by simp) ?_
          refine AllReadyH.cons (o := _) rfl (fun K hK => ?_) (AllReadyH.cons (o := _) rfl (fun K hK => ?_) AllReadyH.nil)
          · go_simp
            obtain ⟨Y, hY⟩ := absW EX (.cells #[.int .i64 e1, .int .i64 e2, .int .i64 e3, .int .i64 e4] 36)
            have IS := hid (intsNew EX [e1, e2, e3, e4] #[.int .i64 e1, .int .i64 e2, .int .i64 e3, .int .i64 e4] rfl)
            (try replace OB := hid (OB.out.alloc (.cells #[.int .i64 e1, .int .i64 e2, .int .i64 e3, .int .i64 e4] 36)))
            replace EX := EX.alloc (.cells #[.int .i64 e1, .int .i64 e2, .int .i64 e3, .int .i64 e4] 36)
            rw [hY] at EX IS ⊢
            (try rw [hY] at OB)
            clear hHeld hY
            refine hK.out _ _ (sK EX) (fun hHeld => ?_)
            clear hK K
            try simp only [Act.put, sq1, sq2, sq3, sq4, sq5, sq6]
            refine wpAnyH_ready (rs := [13, 17]) (by kernel_rfl) (by simp) ?_
            refine AllReadyH.cons (o := _) rfl (fun K hK => ?_) (AllReadyH.cons (o := _) rfl (fun K hK => ?_) AllReadyH.nil)
            · go_simp
              refine Calls.mono (HB.out _ (HE.trans EX) _ IS.out) ?_
              rintro e X ⟨N, A1, n1, c1, A2, n2, c2, rfl, hOV, hEX⟩
              dsimp only
              have OV := hid (show OutV f seen _ w.heap.size _ N _ _ from hOV.low (HE.trans EX).size)
              replace EX := EX.trans hEX
              (try replace OB := hid (OB.out.ext hEX))
              clear hHeld hEX hOV IS
              refine hK.out _ _ (sK EX) (fun hHeld => ?_)
              clear hK K
              try simp only [Act.put, sq1, sq2, sq3, sq4, sq5, sq6]
              refine tk1 (i := 14) (v := ?v14m6) rfl ?y14m6 ?r14m6
              case y14m6 => (intro w' hSw; (try dsimp only at hSw); go_simp; (try with_reducible rfl))
              try simp only [Act.put, sq1, sq2, sq3, sq4, sq5, sq6]
              refine tk1 (i := 15) (v := ?v15m6) rfl ?y15m6 ?r15m6
              case y15m6 => (intro w' hSw; (try dsimp only at hSw); go_simp; (try with_reducible rfl))
              try simp only [Act.put, sq1, sq2, sq3, sq4, sq5, sq6]
              refine tk1 (i := 16) (v := ?v16m6) rfl ?y16m6 ?r16m6
              case y16m6 => (intro w' hSw; (try dsimp only at hSw); go_simp; (try with_reducible rfl))
              try simp only [Act.put, sq1, sq2, sq3, sq4, sq5, sq6]
              refine wpAnyH_ready (rs := [17]) (by kernel_rfl) (by simp) ?_
              refine AllReadyH.cons (o := _) rfl (fun K hK => ?_) AllReadyH.nil
              go_simp
              obtain ⟨Y, hY⟩ := absW EX (.cells #[.int .i64 0, .slice none 0 0, .slice none 0 0] 100)
              have OB := hid (blkNew EX 100 #[.int .i64 0, .slice none 0 0, .slice none 0 0])
              have LOB := EX.size
              replace EX := EX.alloc (.cells #[.int .i64 0, .slice none 0 0, .slice none 0 0] 100)
              (try replace IS := hid (IS.out.ext (ext_alloc1 _ (.cells #[.int .i64 0, .slice none 0 0, .slice none 0 0] 100))))
              (try replace OV := hid (OV.out.ext (ext_alloc1 _ (.cells #[.int .i64 0, .slice none 0 0, .slice none 0 0] 100))))
              rw [hY] at EX OB ⊢
              (try rw [hY] at IS)
              (try rw [hY] at OV)
              clear hHeld hY
              refine hK.out _ _ (sK EX) (fun hHeld => ?_)
              clear hK K
              try simp only [Act.put, sq1, sq2, sq3, sq4, sq5, sq6]
              refine wpAnyH_ready (rs := [18]) (by kernel_rfl) (by simp) ?_
              refine AllReadyH.cons (o := _) rfl (fun K hK => ?_) AllReadyH.nil
              refine wp_store_mid 100 _ _ rfl _ 0 #[.int .i64 (N : Int), .slice A1 n1 c1, .slice A2 n2 c2] rfl rfl (blk_there OB.out rfl) infoOut (out_one N A1 n1 c1 A2 n2 c2) ?_
              have OB2 := hid (Blk.fill3 OB.out (.int .i64 (N : Int)) (.slice A1 n1 c1) (.slice A2 n2 c2))
              have EX2 := ext_setCells EX LOB [.int .i64 (N : Int), .slice A1 n1 c1, .slice A2 n2 c2] 0
              have OV2 := hid (OV.out.apart (grown_setCells [.int .i64 (N : Int), .slice A1 n1 c1, .slice A2 n2 c2] 0) (Apart.blk OB.out (by decide)) (Apart.blk OB.out (by decide)) (Apart.blk OB.out (by decide)))
              clear hHeld
              refine hK.out _ _ (sK EX2) (fun hHeld => ?_)
              clear hK K
              try simp only [Act.put, sq1, sq2, sq3, sq4, sq5, sq6]
              refine tk1 (i := 19) (v := ?v19et7) rfl ?y19et7 ?r19et7
              case y19et7 => (intro w' hSw; (try dsimp only at hSw); go_simp; (try with_reducible rfl))
              try simp only [Act.put, sq1, sq2, sq3, sq4, sq5, sq6]
              refine wpAnyH_done (by kernel_rfl) ?_ _
              exact REST _ _ N A1 n1 c1 A2 n2 c2 _ EX2 LOB OB2 OV2.out
            · go_simp
              obtain ⟨Y, hY⟩ := absW EX (.cells #[.int .i64 0, .slice none 0 0, .slice none 0 0] 100)
              have OB := hid (blkNew EX 100 #[.int .i64 0, .slice none 0 0, .slice none 0 0])
              have LOB := EX.size
              replace EX := EX.alloc (.cells #[.int .i64 0, .slice none 0 0, .slice none 0 0] 100)
              (try replace IS := hid (IS.out.ext (ext_alloc1 _ (.cells #[.int .i64 0, .slice none 0 0, .slice none 0 0] 100))))
              (try replace OV := hid (OV.out.ext (ext_alloc1 _ (.cells #[.int .i64 0, .slice none 0 0, .slice none 0 0] 100))))
              rw [hY] at EX OB ⊢
              (try rw [hY] at IS)
              (try rw [hY] at OV)
              clear hHeld hY
              refine hK.out _ _ (sK EX) (fun hHeld => ?_)
              clear hK K
              try simp only [Act.put, sq1, sq2, sq3, sq4, sq5, sq6]
              refine wpAnyH_ready (rs := [13]) (by kernel_rfl) (by simp) ?_
              refine AllReadyH.cons (o := _) rfl (fun K hK => ?_) AllReadyH.nil
              go_simp
              refine Calls.mono (HB.out _ (HE.trans EX) _ IS.out) ?_
              rintro e X ⟨N, A1, n1, c1, A2, n2, c2, rfl, hOV, hEX⟩
              dsimp only
              have OV := hid (show OutV f seen _ w.heap.size _ N _ _ from hOV.low (HE.trans EX).size)
              replace EX := EX.trans hEX
              (try replace OB := hid (OB.out.ext hEX))
              clear hHeld hEX hOV IS
              refine hK.out _ _ (sK EX) (fun hHeld => ?_)
              clear hK K
              try simp only [Act.put, sq1, sq2, sq3, sq4, sq5, sq6]
              refine tk1 (i := 14) (v := ?v14a8) rfl ?y14a8 ?r14a8
              case y14a8 => (intro w' hSw; (try dsimp only at hSw); go_simp; (try with_reducible rfl))
              try simp only [Act.put, sq1, sq2, sq3, sq4, sq5, sq6]
              refine tk1 (i := 15) (v := ?v15a8) rfl ?y15a8 ?r15a8
              case y15a8 => (intro w' hSw; (try dsimp only at hSw); go_simp; (try with_reducible rfl))
              try simp only [Act.put, sq1, sq2, sq3, sq4, sq5, sq6]
              refine tk1 (i := 16) (v := ?v16a8) rfl ?y16a8 ?r16a8
              case y16a8 => (intro w' hSw; (try dsimp only at hSw); go_simp; (try with_reducible rfl))
              try simp only [Act.put, sq1, sq2, sq3, sq4, sq5, sq6]
              refine wpAnyH_ready (rs := [18]) (by kernel_rfl) (by simp) ?_
              refine AllReadyH.cons (o := _) rfl (fun K hK => ?_) AllReadyH.nil
              refine wp_store_mid 100 _ _ rfl _ 0 #[.int .i64 (N : Int), .slice A1 n1 c1, .slice A2 n2 c2] rfl rfl (blk_there OB.out rfl) infoOut (out_one N A1 n1 c1 A2 n2 c2) ?_
              have OB2 := hid (Blk.fill3 OB.out (.int .i64 (N : Int)) (.slice A1 n1 c1) (.slice A2 n2 c2))
              have EX2 := ext_setCells EX LOB [.int .i64 (N : Int), .slice A1 n1 c1, .slice A2 n2 c2] 0
              have OV2 := hid (OV.out.apart (grown_setCells [.int .i64 (N : Int), .slice A1 n1 c1, .slice A2 n2 c2] 0) (Apart.blk OB.out (by decide)) (Apart.blk OB.out (by decide)) (Apart.blk OB.out (by decide)))
              clear hHeld
              refine hK.out _ _ (sK EX2) (fun hHeld => ?_)
              clear hK K
              try simp only [Act.put, sq1, sq2, sq3, sq4, sq5, sq6]
              refine tk1 (i := 19) (v := ?v19ea8) rfl ?y19ea8 ?r19ea8
              case y19ea8 => (intro w' hSw; (try dsimp only at hSw); go_simp; (try with_reducible rfl))
              try simp only [Act.put, sq1, sq2, sq3, sq4, sq5, sq6]
              refine wpAnyH_done (by kernel_rfl) ?_ _
              exact REST _ _ N A1 n1 c1 A2 n2 c2 _ EX2 LOB OB2 OV2.out
          · go_simp
            obtain ⟨Y, hY⟩ := absW EX (.cells #[.int .i64 0, .slice none 0 0, .slice none 0 0] 100)
            have OB := hid (blkNew EX 100 #[.int .i64 0, .slice none 0 0, .slice none 0 0])
            have LOB := EX.size
            replace EX := EX.alloc (.cells #[.int .i64 0, .slice none 0 0, .slice none 0 0] 100)
            (try replace IS := hid (IS.out.ext (ext_alloc1 _ (.cells #[.int .i64 0, .slice none 0 0, .slice none 0 0] 100))))
            (try replace OV := hid (OV.out.ext (ext_alloc1 _ (.cells #[.int .i64 0, .slice none 0 0, .slice none 0 0] 100))))
            rw [hY] at EX OB ⊢
            (try rw [hY] at IS)
            (try rw [hY] at OV)
            clear hHeld hY
            refine hK.out _ _ (sK EX) (fun hHeld => ?_)
            clear hK K
            try simp only [Act.put, sq1, sq2, sq3, sq4, sq5, sq6]
            refine wpAnyH_ready (rs := [12]) (by kernel_rfl) (by simp) ?_
            refine AllReadyH.cons (o := _) rfl (fun K hK => ?_) AllReadyH.nil
            go_simp
            obtain ⟨Y, hY⟩ := absW EX (.cells #[.int .i64 e1, .int .i64 e2, .int .i64 e3, .int .i64 e4] 36)
            have IS := hid (intsNew EX [e1, e2, e3, e4] #[.int .i64 e1, .int .i64 e2, .int .i64 e3, .int .i64 e4] rfl)
            (try replace OB := hid (OB.out.alloc (.cells #[.int .i64 e1, .int .i64 e2, .int .i64 e3, .int .i64 e4] 36)))
            replace EX := EX.alloc (.cells #[.int .i64 e1, .int .i64 e2, .int .i64 e3, .int .i64 e4] 36)
            rw [hY] at EX IS ⊢
            (try rw [hY] at OB)
            clear hHeld hY
            refine hK.out _ _ (sK EX) (fun hHeld => ?_)
            clear hK K
            try simp only [Act.put, sq1, sq2, sq3, sq4, sq5, sq6]
            refine wpAnyH_ready (rs := [13]) (by kernel_rfl) (by simp) ?_
            refine AllReadyH.cons (o := _) rfl (fun K hK => ?_) AllReadyH.nil
            go_simp
            refine Calls.mono (HB.out _ (HE.trans EX) _ IS.out) ?_
            rintro e X ⟨N, A1, n1, c1, A2, n2, c2, rfl, hOV, hEX⟩
            dsimp only
            have OV := hid (show OutV f seen _ w.heap.size _ N _ _ from hOV.low (HE.trans EX).size)
            replace EX := EX.trans hEX
            (try replace OB := hid (OB.out.ext hEX))
            clear hHeld hEX hOV IS
            refine hK.out _ _ (sK EX) (fun hHeld => ?_)
            clear hK K
            try simp only [Act.put, sq1, sq2, sq3, sq4, sq5, sq6]
            refine tk1 (i := 14) (v := ?v14a9) rfl ?y14a9 ?r14a9
            case y14a9 => (intro w' hSw; (try dsimp only at hSw); go_simp; (try with_reducible rfl))
            try simp only [Act.put, sq1, sq2, sq3, sq4, sq5, sq6]
            refine tk1 (i := 15) (v := ?v15a9) rfl ?y15a9 ?r15a9
            case y15a9 => (intro w' hSw; (try dsimp only at hSw); go_simp; (try with_reducible rfl))
            try simp only [Act.put, sq1, sq2, sq3, sq4, sq5, sq6]
            refine tk1 (i := 16) (v := ?v16a9) rfl ?y16a9 ?r16a9
            case y16a9 => (intro w' hSw; (try dsimp only at hSw); go_simp; (try with_reducible rfl))
            try simp only [Act.put, sq1, sq2, sq3, sq4, sq5, sq6]
            refine wpAnyH_ready (rs := [18]) (by kernel_rfl) (by simp) ?_
            refine AllReadyH.cons (o := _) rfl (fun K hK => ?_) AllReadyH.nil
            refine wp_store_mid 100 _ _ rfl _ 0 #[.int .i64 (N : Int), .slice A1 n1 c1, .slice A2 n2 c2] rfl rfl (blk_there OB.out rfl) infoOut (out_one N A1 n1 c1 A2 n2 c2) ?_
            have OB2 := hid (Blk.fill3 OB.out (.int .i64 (N : Int)) (.slice A1 n1 c1) (.slice A2 n2 c2))
            have EX2 := ext_setCells EX LOB [.int .i64 (N : Int), .slice A1 n1 c1, .slice A2 n2 c2] 0
            have OV2 := hid (OV.out.apart (grown_setCells [.int .i64 (N : Int), .slice A1 n1 c1, .slice A2 n2 c2] 0) (Apart.blk OB.out (by decide)) (Apart.blk OB.out (by decide)) (Apart.blk OB.out (by decide)))
            clear hHeld
            refine hK.out _ _ (sK EX2) (fun hHeld => ?_)
            clear hK K
            try simp only [Act.put, sq1, sq2, sq3, sq4, sq5, sq6]
            refine tk1 (i := 19) (v := ?v19ea9) rfl ?y19ea9 ?r19ea9
            case y19ea9 => (intro w' hSw; (try dsimp only at hSw); go_simp; (try with_reducible rfl))
            try simp only [Act.put, sq1, sq2, sq3, sq4, sq5, sq6]
            refine wpAnyH_done (by kernel_rfl) ?_ _
            exact REST _ _ N A1 n1 c1 A2 n2 c2 _ EX2 LOB OB2 OV2.out
        · go_simp
          obtain ⟨Y, hY⟩ := absW EX (.cells #[.int .i64 0, .slice none 0 0, .slice none 0 0] 100)
          have OB := hid (blkNew EX 100 #[.int .i64 0, .slice none 0 0, .slice none 0 0])
          have LOB := EX.size
          replace EX := EX.alloc (.cells #[.int .i64 0, .slice none 0 0, .slice none 0 0] 100)
          (try replace IS := hid (IS.out.ext (ext_alloc1 _ (.cells #[.int .i64 0, .slice none 0 0, .slice none 0 0] 100))))
          (try replace OV := hid (OV.out.ext (ext_alloc1 _ (.cells #[.int .i64 0, .slice none 0 0, .slice none 0 0] 100))))
          rw [hY] at EX OB ⊢
          (try rw [hY] at IS)
          (try rw [hY] at OV)
          clear hHeld hY
          refine hK.out _ _ (sK EX) (fun hHeld => ?_)
          clear hK K
          try simp only [Act.put, sq1, sq2, sq3, sq4, sq5, sq6]
          refine wpAnyH_ready (rs := [11]) (by kernel_rfl) (by simp) ?_
          refine AllReadyH.cons (o := _) rfl (fun K hK => ?_) AllReadyH.nil
          go_simp
          refine Calls.mono (HR.out _ (HE.trans EX)) ?_
          rintro e X ⟨rfl, hEX⟩
          dsimp only
          replace EX := EX.trans hEX
          (try replace OB := hid (OB.out.ext hEX))
          (try replace IS := hid (IS.out.ext hEX))
          clear hHeld hEX
          refine hK.out _ _ (sK EX) (fun hHeld => ?_)
          clear hK K
          try simp only [Act.put, sq1, sq2, sq3, sq4, sq5, sq6]
          refine wpAnyH_ready (rs := [12]) (by kernel_rfl) (by simp) ?_
          refine AllReadyH.cons (o := _) rfl (fun K hK => ?_) AllReadyH.nil
          go_simp
          obtain ⟨Y, hY⟩ := absW EX (.cells #[.int .i64 e1, .int .i64 e2, .int .i64 e3, .int .i64 e4] 36)
          have IS := hid (intsNew EX [e1, e2, e3, e4] #[.int .i64 e1, .int .i64 e2, .int .i64 e3, .int .i64 e4] rfl)
          (try replace OB := hid (OB.out.alloc (.cells #[.int .i64 e1, .int .i64 e2, .int .i64 e3, .int .i64 e4] 36)))
          replace EX := EX.alloc (.cells #[.int .i64 e1, .int .i64 e2, .int .i64 e3, .int .i64 e4] 36)
          rw [hY] at EX IS ⊢
          (try rw [hY] at OB)
          clear hHeld hY
          refine hK.out _ _ (sK EX) (fun hHeld => ?_)
          clear hK K
          try simp only [Act.put, sq1, sq2, sq3, sq4, sq5, sq6]
          refine wpAnyH_ready (rs := [13]) (by kernel_rfl) (by simp) ?_
          refine AllReadyH.cons (o := _) rfl (fun K hK => ?_) AllReadyH.nil
          go_simp
          refine Calls.mono (HB.out _ (HE.trans EX) _ IS.out) ?_
          rintro e X ⟨N, A1, n1, c1, A2, n2, c2, rfl, hOV, hEX⟩
          dsimp only
          have OV := hid (show OutV f seen _ w.heap.size _ N _ _ from hOV.low (HE.trans EX).size)
          replace EX := EX.trans hEX
          (try replace OB := hid (OB.out.ext hEX))
          clear hHeld hEX hOV IS
          refine hK.out _ _ (sK EX) (fun hHeld => ?_)
          clear hK K
          try simp only [Act.put, sq1, sq2, sq3, sq4, sq5, sq6]
          refine tk1 (i := 14) (v := ?v14a10) rfl ?y14a10 ?r14a10
          case y14a10 => (intro w' hSw; (try dsimp only at hSw); go_simp; (try with_reducible rfl))
          try simp only [Act.put, sq1, sq2, sq3, sq4, sq5, sq6]
          refine tk1 (i := 15) (v := ?v15a10) rfl ?y15a10 ?r15a10
          case y15a10 => (intro w' hSw; (try dsimp only at hSw); go_simp; (try with_reducible rfl))
          try simp only [Act.put, sq1, sq2, sq3, sq4, sq5, sq6]
          refine tk1 (i := 16) (v := ?v16a10) rfl ?y16a10 ?r16a10
          case y16a10 => (intro w' hSw; (try dsimp only at hSw); go_simp; (try with_reducible rfl))
          try simp only [Act.put, sq1, sq2, sq3, sq4, sq5, sq6]
          refine wpAnyH_ready (rs := [18]) (by kernel_rfl) (by simp) ?_
          refine AllReadyH.cons (o := _) rfl (fun K hK => ?_) AllReadyH.nil
          refine wp_store_mid 100 _ _ rfl _ 0 #[.int .i64 (N : Int), .slice A1 n1 c1, .slice A2 n2 c2] rfl rfl (blk_there OB.out rfl) infoOut (out_one N A1 n1 c1 A2 n2 c2) ?_
          have OB2 := hid (Blk.fill3 OB.out (.int .i64 (N : Int)) (.slice A1 n1 c1) (.slice A2 n2 c2))
          have EX2 := ext_setCells EX LOB [.int .i64 (N : Int), .slice A1 n1 c1, .slice A2 n2 c2] 0
          have OV2 := hid (OV.out.apart (grown_setCells [.int .i64 (N : Int), .slice A1 n1 c1, .slice A2 n2 c2] 0) (Apart.blk OB.out (by decide)) (Apart.blk OB.out (by decide)) (Apart.blk OB.out (by decide)))
          clear hHeld
          refine hK.out _ _ (sK EX2) (fun hHeld => ?_)
          clear hK K
          try simp only [Act.put, sq1, sq2, sq3, sq4, sq5, sq6]
          refine tk1 (i := 19) (v := ?v19ea10) rfl ?y19ea10 ?r19ea10
          case y19ea10 => (intro w' hSw; (try dsimp only at hSw); go_simp; (try with_reducible rfl))
          try simp only [Act.put, sq1, sq2, sq3, sq4, sq5, sq6]
          refine wpAnyH_done (by kernel_rfl) ?_ _
          exact REST _ _ N A1 n1 c1 A2 n2 c2 _ EX2 LOB OB2 OV2.out
      · go_simp
        obtain ⟨Y, hY⟩ := absW EX (.cells #[.int .i64 0, .slice none 0 0, .slice none 0 0] 100)
        have OB := hid (blkNew EX 100 #[.int .i64 0, .slice none 0 0, .slice none 0 0])
        have LOB := EX.size
        replace EX := EX.alloc (.cells #[.int .i64 0, .slice none 0 0, .slice none 0 0] 100)
        (try replace IS := hid (IS.out.ext (ext_alloc1 _ (.cells #[.int .i64 0, .slice none 0 0, .slice none 0 0] 100))))
        (try replace OV := hid (OV.out.ext (ext_alloc1 _ (.cells #[.int .i64 0, .slice none 0 0, .slice none 0 0] 100))))
        rw [hY] at EX OB ⊢
        (try rw [hY] at IS)
        (try rw [hY] at OV)
        clear hHeld hY
        refine hK.out _ _ (sK EX) (fun hHeld => ?_)
        clear hK K
        try simp only [Act.put, sq1, sq2, sq3, sq4, sq5, sq6]
        refine wpAnyH_ready (rs := [8]) (by kernel_rfl) (by simp) ?_
        refine AllReadyH.cons (o := _) rfl (fun K hK => ?_) AllReadyH.nil
        go_simp
        refine Calls.mono (HS.out _ (HE.trans EX)) ?_
        rintro e X ⟨rfl, hEX⟩
        dsimp only
        replace EX := EX.trans hEX
        (try replace OB := hid (OB.out.ext hEX))
        (try replace IS := hid (IS.out.ext hEX))
        clear hHeld hEX
        refine hK.out _ _ (sK EX) (fun hHeld => ?_)
        clear hK K
        try simp only [Act.put, sq1, sq2, sq3, sq4, sq5, sq6]
        refine wpAnyH_ready (rs := [11]) (by kernel_rfl) (by simp) ?_
        refine AllReadyH.cons (o := _) rfl (fun K hK => ?_) AllReadyH.nil
        go_simp
        refine Calls.mono (HR.out _ (HE.trans EX)) ?_
        rintro e X ⟨rfl, hEX⟩
        dsimp only
        replace EX := EX.trans hEX
        (try replace OB := hid (OB.out.ext hEX))
        (try replace IS := hid (IS.out.ext hEX))
        clear hHeld hEX
        refine hK.out _ _ (sK EX) (fun hHeld => ?_)
        clear hK K
        try simp only [Act.put, sq1, sq2, sq3, sq4, sq5, sq6]
        refine wpAnyH_ready (rs := [12]) (by kernel_rfl) (by simp) ?_
        refine AllReadyH.cons (o := _) rfl (fun K hK => ?_) AllReadyH.nil
        go_simp
        obtain ⟨Y, hY⟩ := absW EX (.cells #[.int .i64 e1, .int .i64 e2, .int .i64 e3, .int .i64 e4] 36)
        have IS := hid (intsNew EX [e1, e2, e3, e4] #[.int .i64 e1, .int .i64 e2, .int .i64 e3, .int .i64 e4] rfl)
        (try replace OB := hid (OB.out.alloc (.cells #[.int .i64 e1, .int .i64 e2, .int .i64 e3, .int .i64 e4] 36)))
        replace EX := EX.alloc (.cells #[.int .i64 e1, .int .i64 e2, .int .i64 e3, .int .i64 e4] 36)
        rw [hY] at EX IS ⊢
        (try rw [hY] at OB)
        clear hHeld hY
        refine hK.out _ _ (sK EX) (fun hHeld => ?_)
        clear hK K
        try simp only [Act.put, sq1, sq2, sq3, sq4, sq5, sq6]
        refine wpAnyH_ready (rs := [13]) (by kernel_rfl) (by simp) ?_
        refine AllReadyH.cons (o := _) rfl (fun K hK => ?_) AllReadyH.nil
        go_simp
        refine Calls.mono (HB.out _ (HE.trans EX) _ IS.out) ?_
        rintro e X ⟨N, A1, n1, c1, A2, n2, c2, rfl, hOV, hEX⟩
        dsimp only
        have OV := hid (show OutV f seen _ w.heap.size _ N _ _ from hOV.low (HE.trans EX).size)
        replace EX := EX.trans hEX
        (try replace OB := hid (OB.out.ext hEX))
        clear hHeld hEX hOV IS
        refine hK.out _ _ (sK EX) (fun hHeld => ?_)
        clear hK K
        try simp only [Act.put, sq1, sq2, sq3, sq4, sq5, sq6]
        refine tk1 (i := 14) (v := ?v14a11) rfl ?y14a11 ?r14a11
        case y14a11 => (intro w' hSw; (try dsimp only at hSw); go_simp; (try with_reducible rfl))
        try simp only [Act.put, sq1, sq2, sq3, sq4, sq5, sq6]
        refine tk1 (i := 15) (v := ?v15a11) rfl ?y15a11 ?r15a11
        case y15a11 => (intro w' hSw; (try dsimp only at hSw); go_simp; (try with_reducible rfl))
        try simp only [Act.put, sq1, sq2, sq3, sq4, sq5, sq6]
        refine tk1 (i := 16) (v := ?v16a11) rfl ?y16a11 ?r16a11
        case y16a11 => (intro w' hSw; (try dsimp only at hSw); go_simp; (try with_reducible rfl))
        try simp only [Act.put, sq1, sq2, sq3, sq4, sq5, sq6]
        refine wpAnyH_ready (rs := [18]) (by kernel_rfl) (by simp) ?_
        refine AllReadyH.cons (o := _) rfl (fun K hK => ?_) AllReadyH.nil
        refine wp_store_mid 100 _ _ rfl _ 0 #[.int .i64 (N : Int), .slice A1 n1 c1, .slice A2 n2 c2] rfl rfl (blk_there OB.out rfl) infoOut (out_one N A1 n1 c1 A2 n2 c2) ?_
        have OB2 := hid (Blk.fill3 OB.out (.int .i64 (N : Int)) (.slice A1 n1 c1) (.slice A2 n2 c2))
        have EX2 := ext_setCells EX LOB [.int .i64 (N : Int), .slice A1 n1 c1, .slice A2 n2 c2] 0
        have OV2 := hid (OV.out.apart (grown_setCells [.int .i64 (N : Int), .slice A1 n1 c1, .slice A2 n2 c2] 0) (Apart.blk OB.out (by decide)) (Apart.blk OB.out (by decide)) (Apart.blk OB.out (by decide)))
        clear hHeld
        refine hK.out _ _ (sK EX2) (fun hHeld => ?_)
        clear hK K
        try simp only [Act.put, sq1, sq2, sq3, sq4, sq5, sq6]
        refine tk1 (i := 19) (v := ?v19ea11) rfl ?y19ea11 ?r19ea11
        case y19ea11 => (intro w' hSw; (try dsimp only at hSw); go_simp; (try with_reducible rfl))
        try simp only [Act.put, sq1, sq2, sq3, sq4, sq5, sq6]
        refine wpAnyH_done (by kernel_rfl) ?_ _
        exact REST _ _ N A1 n1 c1 A2 n2 c2 _ EX2 LOB OB2 OV2.out
    · go_simp
      obtain ⟨Y, hY⟩ := absW EX (.cells #[.int .i64 0, .slice none 0 0, .slice none 0 0] 100)
      have OB := hid (blkNew EX 100 #[.int .i64 0, .slice none 0 0, .slice none 0 0])
      have LOB := EX.size
      replace EX := EX.alloc (.cells #[.int .i64 0, .slice none 0 0, .slice none 0 0] 100)
      (try replace IS := hid (IS.out.ext (ext_alloc1 _ (.cells #[.int .i64 0, .slice none 0 0, .slice none 0 0] 100))))
      (try replace OV := hid (OV.out.ext (ext_alloc1 _ (.cells #[.int .i64 0, .slice none 0 0, .slice none 0 0] 100))))
      rw [hY] at EX OB ⊢
      (try rw [hY] at IS)
      (try rw [hY] at OV)
      clear hHeld hY
      refine hK.out _ _ (sK EX) (fun hHeld => ?_)
      clear hK K
      try simp only [Act.put, sq1, sq2, sq3, sq4, sq5, sq6]
      refine wpAnyH_ready (rs := [5]) (by kernel_rfl) (by simp) ?_
      refine AllReadyH.cons (o := _) rfl (fun K hK => ?_) AllReadyH.nil
      go_simp
      refine Calls.mono (HP.out _ (HE.trans EX)) ?_
      rintro e X ⟨rfl, hEX⟩
      dsimp only
      replace EX := EX.trans hEX
      (try replace OB := hid (OB.out.ext hEX))
      (try replace IS := hid (IS.out.ext hEX))
      clear hHeld hEX
      refine hK.out _ _ (sK EX) (fun hHeld => ?_)
      clear hK K
      try simp only [Act.put, sq1, sq2, sq3, sq4, sq5, sq6]
      refine wpAnyH_ready (rs := [8]) (by kernel_rfl) (by simp) ?_
      refine AllReadyH.cons (o := _) rfl (fun K hK => ?_) AllReadyH.nil
      go_simp
      refine Calls.mono (HS.out _ (HE.trans EX)) ?_
      rintro e X ⟨rfl, hEX⟩
      dsimp only
      replace EX := EX.trans hEX
      (try replace OB := hid (OB.out.ext hEX))
      (try replace IS := hid (IS.out.ext hEX))
      clear hHeld hEX
      refine hK.out _ _ (sK EX) (fun hHeld => ?_)
      clear hK K
      try simp only [Act.put, sq1, sq2, sq3, sq4, sq5, sq6]
      refine wpAnyH_ready (rs := [11]) (by kernel_rfl) (by simp) ?_
      refine AllReadyH.cons (o := _) rfl (fun K hK => ?_) AllReadyH.nil
      go_simp
      refine Calls.mono (HR.out _ (HE.trans EX)) ?_
      rintro e X ⟨rfl, hEX⟩
      dsimp only
      replace EX := EX.trans hEX
      (try replace OB := hid (OB.out.ext hEX))
      (try replace IS := hid (IS.out.ext hEX))
      clear hHeld hEX
      refine hK.out _ _ (sK EX) (fun hHeld => ?_)
      clear hK K
      try simp only [Act.put, sq1, sq2, sq3, sq4, sq5, sq6]
      refine wpAnyH_ready (rs := [12]) (by kernel_rfl) (by simp) ?_
      refine AllReadyH.cons (o := _) rfl (fun K hK => ?_) AllReadyH.nil
      go_simp
      obtain ⟨Y, hY⟩ := absW EX (.cells #[.int .i64 e1, .int .i64 e2, .int .i64 e3, .int .i64 e4] 36)
      have IS := hid (intsNew EX [e1, e2, e3, e4] #[.int .i64 e1, .int .i64 e2, .int .i64 e3, .int .i64 e4] rfl)
      (try replace OB := hid (OB.out.alloc (.cells #[.int .i64 e1, .int .i64 e2, .int .i64 e3, .int .i64 e4] 36)))
      replace EX := EX.alloc (.cells #[.int .i64 e1, .int .i64 e2, .int .i64 e3, .int .i64 e4] 36)
      rw [hY] at EX IS ⊢
      (try rw [hY] at OB)
      clear hHeld hY
      refine hK.out _ _ (sK EX) (fun hHeld => ?_)
      clear hK K
      try simp only [Act.put, sq1, sq2, sq3, sq4, sq5, sq6]
      refine wpAnyH_ready (rs := [13]) (by kernel_rfl) (by simp) ?_
      refine AllReadyH.cons (o := _) rfl (fun K hK => ?_) AllReadyH.nil
      go_simp
      refine Calls.mono (HB.out _ (HE.trans EX) _ IS.out) ?_
      rintro e X ⟨N, A1, n1, c1, A2, n2, c2, rfl, hOV, hEX⟩
      dsimp only
      have OV := hid (show OutV f seen _ w.heap.size _ N _ _ from hOV.low (HE.trans EX).size)
      replace EX := EX.trans hEX
      (try replace OB := hid (OB.out.ext hEX))
      clear hHeld hEX hOV IS
      refine hK.out _ _ (sK EX) (fun hHeld => ?_)
      clear hK K
      try simp only [Act.put, sq1, sq2, sq3, sq4, sq5, sq6]
      refine tk1 (i := 14) (v := ?v14a12) rfl ?y14a12 ?r14a12
      case y14a12 => (intro w' hSw; (try dsimp only at hSw); go_simp; (try with_reducible rfl))
      try simp only [Act.put, sq1, sq2, sq3, sq4, sq5, sq6]
      refine tk1 (i := 15) (v := ?v15a12) rfl ?y15a12 ?r15a12
      case y15a12 => (intro w' hSw; (try dsimp only at hSw); go_simp; (try with_reducible rfl))
      try simp only [Act.put, sq1, sq2, sq3, sq4, sq5, sq6]
      refine tk1 (i := 16) (v := ?v16a12) rfl ?y16a12 ?r16a12
      case y16a12 => (intro w' hSw; (try dsimp only at hSw); go_simp; (try with_reducible rfl))
      try simp only [Act.put, sq1, sq2, sq3, sq4, sq5, sq6]
      refine wpAnyH_ready (rs := [18]) (by kernel_rfl) (by simp) ?_
      refine AllReadyH.cons (o := _) rfl (fun K hK => ?_) AllReadyH.nil
      refine wp_store_mid 100 _ _ rfl _ 0 #[.int .i64 (N : Int), .slice A1 n1 c1, .slice A2 n2 c2] rfl rfl (blk_there OB.out rfl) infoOut (out_one N A1 n1 c1 A2 n2 c2) ?_
      have OB2 := hid (Blk.fill3 OB.out (.int .i64 (N : Int)) (.slice A1 n1 c1) (.slice A2 n2 c2))
      have EX2 := ext_setCells EX LOB [.int .i64 (N : Int), .slice A1 n1 c1, .slice A2 n2 c2] 0
      have OV2 := hid (OV.out.apart (grown_setCells [.int .i64 (N : Int), .slice A1 n1 c1, .slice A2 n2 c2] 0) (Apart.blk OB.out (by decide)) (Apart.blk OB.out (by decide)) (Apart.blk OB.out (by decide)))
      clear hHeld
      refine hK.out _ _ (sK EX2) (fun hHeld => ?_)
      clear hK K
      try simp only [Act.put, sq1, sq2, sq3, sq4, sq5, sq6]
      refine tk1 (i := 19) (v := ?v19ea12) rfl ?y19ea12 ?r19ea12
      case y19ea12 => (intro w' hSw; (try dsimp only at hSw); go_simp; (try with_reducible rfl))
      try simp only [Act.put, sq1, sq2, sq3, sq4, sq5, sq6]
      refine wpAnyH_done (by kernel_rfl) ?_ _
      exact REST _ _ N A1 n1 c1 A2 n2 c2 _ EX2 LOB OB2 OV2.out
  · go_simp
    obtain ⟨Y, hY⟩ := absW EX (.cells #[.int .i64 0, .slice none 0 0, .slice none 0 0] 100)
    have OB := hid (blkNew EX 100 #[.int .i64 0, .slice none 0 0, .slice none 0 0])
    have LOB := EX.size
    replace EX := EX.alloc (.cells #[.int .i64 0, .slice none 0 0, .slice none 0 0] 100)
    (try replace IS := hid (IS.out.ext (ext_alloc1 _ (.cells #[.int .i64 0, .slice none 0 0, .slice none 0 0] 100))))
    (try replace OV := hid (OV.out.ext (ext_alloc1 _ (.cells #[.int .i64 0, .slice none 0 0, .slice none 0 0] 100))))
    rw [hY] at EX OB ⊢
    (try rw [hY] at IS)
    (try rw [hY] at OV)
    clear hHeld hY
    refine hK.out _ _ (sK EX) (fun hHeld => ?_)
    clear hK K
    try simp only [Act.put, sq1, sq2, sq3, sq4, sq5, sq6]
    refine wpAnyH_ready (rs := [3]) (by kernel_rfl) (by simp) ?_
    refine AllReadyH.cons (o := _) rfl (fun K hK => ?_) AllReadyH.nil
    go_simp
    refine Calls.mono (HC.out _ (HE.trans EX)) ?_
    rintro e X ⟨rfl, hEX⟩
    dsimp only
    replace EX := EX.trans hEX
    (try replace OB := hid (OB.out.ext hEX))
    (try replace IS := hid (IS.out.ext hEX))
    clear hHeld hEX
    refine hK.out _ _ (sK EX) (fun hHeld => ?_)
    clear hK K
    try simp only [Act.put, sq1, sq2, sq3, sq4, sq5, sq6]
    refine wpAnyH_ready (rs := [5]) (by kernel_rfl) (by simp) ?_
    refine AllReadyH.cons (o := _) rfl (fun K hK => ?_) AllReadyH.nil
    go_simp
    refine Calls.mono (HP.out _ (HE.trans EX)) ?_
    rintro e X ⟨rfl, hEX⟩
    dsimp only
    replace EX := EX.trans hEX
    (try replace OB := hid (OB.out.ext hEX))
    (try replace IS := hid (IS.out.ext hEX))
    clear hHeld hEX
    refine hK.out _ _ (sK EX) (fun hHeld => ?_)
    clear hK K
    try simp only [Act.put, sq1, sq2, sq3, sq4, sq5, sq6]
    refine wpAnyH_ready (rs := [8]) (by kernel_rfl) (by simp) ?_
    refine AllReadyH.cons (o := _) rfl (fun K hK => ?_) AllReadyH.nil
    go_simp
    refine Calls.mono (HS.out _ (HE.trans EX)) ?_
    rintro e X ⟨rfl, hEX⟩
    dsimp only
    replace EX := EX.trans hEX
    (try replace OB := hid (OB.out.ext hEX))
    (try replace IS := hid (IS.out.ext hEX))
    clear hHeld hEX
    refine hK.out _ _ (sK EX) (fun hHeld => ?_)
    clear hK K
    try simp only [Act.put, sq1, sq2, sq3, sq4, sq5, sq6]
    refine wpAnyH_ready (rs := [11]) (by kernel_rfl) (by simp) ?_
    refine AllReadyH.cons (o := _) rfl (fun K hK => ?_) AllReadyH.nil
    go_simp
    refine Calls.mono (HR.out _ (HE.trans EX)) ?_
    rintro e X ⟨rfl, hEX⟩
    dsimp only
    replace EX := EX.trans hEX
    (try replace OB := hid (OB.out.ext hEX))
    (try replace IS := hid (IS.out.ext hEX))
    clear hHeld hEX
    refine hK.out _ _ (sK EX) (fun hHeld => ?_)
    clear hK K
    try simp only [Act.put, sq1, sq2, sq3, sq4, sq5, sq6]
    refine wpAnyH_ready (rs := [12]) (by kernel_rfl) (by simp) ?_
    refine AllReadyH.cons (o := _) rfl (fun K hK => ?_) AllReadyH.nil
    go_simp
    obtain ⟨Y, hY⟩ := absW EX (.cells #[.int .i64 e1, .int .i64 e2, .int .i64 e3, .int .i64 e4] 36)
    have IS := hid (intsNew EX [e1, e2, e3, e4] #[.int .i64 e1, .int .i64 e2, .int .i64 e3, .int .i64 e4] rfl)
    (try replace OB := hid (OB.out.alloc (.cells #[.int .i64 e1, .int .i64 e2, .int .i64 e3, .int .i64 e4] 36)))
    replace EX := EX.alloc (.cells #[.int .i64 e1, .int .i64 e2, .int .i64 e3, .int .i64 e4] 36)
    rw [hY] at EX IS ⊢
    (try rw [hY] at OB)
    clear hHeld hY
    refine hK.out _ _ (sK EX) (fun hHeld => ?_)
    clear hK K
    try simp only [Act.put, sq1, sq2, sq3, sq4, sq5, sq6]
    refine wpAnyH_ready (rs := [13]) (by kernel_rfl) (by simp) ?_
    refine AllReadyH.cons (o := _) rfl (fun K hK => ?_) AllReadyH.nil
    go_simp
    refine Calls.mono (HB.out _ (HE.trans EX) _ IS.out) ?_
    rintro e X ⟨N, A1, n1, c1, A2, n2, c2, rfl, hOV, hEX⟩
    dsimp only
    have OV := hid (show OutV f seen _ w.heap.size _ N _ _ from hOV.low (HE.trans EX).size)
    replace EX := EX.trans hEX
    (try replace OB := hid (OB.out.ext hEX))
    clear hHeld hEX hOV IS
    refine hK.out _ _ (sK EX) (fun hHeld => ?_)
    clear hK K
    try simp only [Act.put, sq1, sq2, sq3, sq4, sq5, sq6]
    refine tk1 (i := 14) (v := ?v14a13) rfl ?y14a13 ?r14a13
    case y14a13 => (intro w' hSw; (try dsimp only at hSw); go_simp; (try with_reducible rfl))
    try simp only [Act.put, sq1, sq2, sq3, sq4, sq5, sq6]
    refine tk1 (i := 15) (v := ?v15a13) rfl ?y15a13 ?r15a13
    case y15a13 => (intro w' hSw; (try dsimp only at hSw); go_simp; (try with_reducible rfl))
    try simp only [Act.put, sq1, sq2, sq3, sq4, sq5, sq6]
    refine tk1 (i := 16) (v := ?v16a13) rfl ?y16a13 ?r16a13
    case y16a13 => (intro w' hSw; (try dsimp only at hSw); go_simp; (try with_reducible rfl))
    try simp only [Act.put, sq1, sq2, sq3, sq4, sq5, sq6]
    refine wpAnyH_ready (rs := [18]) (by kernel_rfl) (by simp) ?_
    refine AllReadyH.cons (o := _) rfl (fun K hK => ?_) AllReadyH.nil
    refine wp_store_mid 100 _ _ rfl _ 0 #[.int .i64 (N : Int), .slice A1 n1 c1, .slice A2 n2 c2] rfl rfl (blk_there OB.out rfl) infoOut (out_one N A1 n1 c1 A2 n2 c2) ?_
    have OB2 := hid (Blk.fill3 OB.out (.int .i64 (N : Int)) (.slice A1 n1 c1) (.slice A2 n2 c2))
    have EX2 := ext_setCells EX LOB [.int .i64 (N : Int), .slice A1 n1 c1, .slice A2 n2 c2] 0
    have OV2 := hid (OV.out.apart (grown_setCells [.int .i64 (N : Int), .slice A1 n1 c1, .slice A2 n2 c2] 0) (Apart.blk OB.out (by decide)) (Apart.blk OB.out (by decide)) (Apart.blk OB.out (by decide)))
    clear hHeld
    refine hK.out _ _ (sK EX2) (fun hHeld => ?_)
    clear hK K
    try simp only [Act.put, sq1, sq2, sq3, sq4, sq5, sq6]
    refine tk1 (i := 19) (v := ?v19ea13) rfl ?y19ea13 ?r19ea13
    case y19ea13 => (intro w' hSw; (try dsimp only at hSw); go_simp; (try with_reducible rfl))
    try simp only [Act.put, sq1, sq2, sq3, sq4, sq5, sq6]
    refine wpAnyH_done (by kernel_rfl) ?_ _
    exact REST _ _ N A1 n1 c1 A2 n2 c2 _ EX2 LOB OB2 OV2.out
end Go.Proofs.YtecamnhnjmldcaaGreatDoor
