/- Safe of the specification. -/
import Derived.Test.YtecamnhnjmldcaaGreatDoorBTopOpens39
import Derived.Test.YtecamnhnjmldcaaGreatDoorBTopOpens40
import Derived.Test.YtecamnhnjmldcaaGreatDoorBTopOpens38
set_option linter.unusedSimpArgs false
set_option linter.unusedVariables false
namespace Go.Proofs.YtecamnhnjmldcaaGreatDoor
open Go.RowKit
def OwnM (w : World) (B q : Nat) (p : Nat → Bool) : Prop := Ownl 4 1 gBo w B (.slice (some ⟨q, 0, none⟩) 2881 2881) (tabL 2881 p)
theorem OwnM.at_ {w : World} {B q t : Nat} {p : Nat → Bool} (h : OwnM w B q p) (ht : t < 2881) : w.cell? ⟨q, t, none⟩ = some (.bool (p t)) ∧ q < w.heap.size ∧ B ≤ q := own_at h ht
theorem OwnM.fro {w : World} {B q : Nat} {p : Nat → Bool} (h : OwnM w B q p) (t : Nat) : w.frozen? ⟨q, t, none⟩ = false := own_fro h t
theorem OwnM.ext {w w' : World} {B q : Nat} {p : Nat → Bool} (h : OwnM w B q p) (e : Ext w w') : OwnM w' B q p := Ownl.ext h e
theorem OwnM.step {w : World} {B q t : Nat} {P : Nat → Bool} (h : OwnM w B q (fun x => if x < t then P x else false)) (ht : t < 2881) (v : Bool) (hv : v = P t) : OwnM (w.setCell ⟨q, t, none⟩ (.bool v)) B q (fun x => if x < t + 1 then P x else false) := by
  have h2 := own_put h ht v
  rw [tab_next 2881 t P (fun _ => false) v hv] at h2
  exact h2
theorem OwnM.fin {w : World} {B q : Nat} {P : Nat → Bool} (h : OwnM w B q (fun x => if x < 2881 then P x else false)) : BosAt w (some ⟨q, 0, none⟩) (tabL 2881 P) := by
  have h2 := h
  unfold OwnM at h2
  rw [tab_end 2881 P (fun _ => false)] at h2
  obtain ⟨A2, c2, e, _, hf, _⟩ := h2.form (by decide) (fun _ => rfl) false
  injection e with e1
  subst e1
  exact flat_bos.1 hf
theorem OwnM.new (X : World) (P : Nat → Bool) : ∃ Y, (Instr.makeSlice 109 (.int .i64 2881) (.int .i64 2881)).run Tryz.prog X = .ok (.slice (some ⟨X.heap.size, 0, none⟩) 2881 2881) Y ∧ OwnM Y X.heap.size X.heap.size (fun x => if x < 0 then P x else false) ∧ Ext X Y := by
  obtain ⟨Y, h1, h2, h3⟩ := mk_bools X 2881 X.heap.size (by decide) (Nat.le_refl _)
  refine ⟨Y, h1, ?_, h3⟩
  rw [← tab_zero 2881 P (fun _ => false)] at h2
  exact h2
/-- The longest spans of the minutes in which a path opens. -/
def mnL (rs : List Rl) (rn : Nat) (seen : List Sg) (f : List (List Hr)) (os : List (Int × Int)) (k : Nat) : List (Int × Int) := spansM (fun i => (tabL 2881 (mnP rs rn seen f os k)).getD i false) 2881
theorem mnL_any (rs : List Rl) (rn : Nat) (seen : List Sg) (f : List (List Hr)) (os : List (Int × Int)) (k q : Nat) (W : World) (hx : BosAt W (some ⟨q, 0, none⟩) (tabL 2881 (mnP rs rn seen f os k))) :
    Calls Tryz.prog 48 #[.slice (some ⟨q, 0, none⟩) 2881 2881] W fun e w' => ∃ A' c', e = .returned (.slice A' (mnL rs rn seen f os k).length c') ∧ Ownl 27 2 gSp w' W.heap.size (.slice A' (mnL rs rn seen f os k).length c') (mnL rs rn seen f os k) ∧ Ext W w' :=
  rspans_any (tabL 2881 (mnP rs rn seen f os k)) _ 2881 2881 (tabL_len _ _) (by decide) W hx
set_option maxHeartbeats 16000000 in
set_option maxRecDepth 100000 in
theorem rSafe_any (f : List (List Hr)) (A : Option Addr) (n c : Nat) (seen : List Sg) (SA : Option Addr) (sm sc : Nat) (m : Int) (ps : List Pt) (NA : Option Addr) (nn nc : Nat) (hpn : ps.length = nn) (hpm : nn ≤ 1000) (rs : List Rl) (RA : Option Addr) (rn rc : Nat) (hrn : rs.length = rn) (hrm : rn ≤ 1000)
    (w : World) (h : FIn w f A n seen SA sm) (hp : PathsAt w NA ps) (hr : RlsAt w RA rs) :
    Calls Tryz.prog 22 #[.agg #[.int .i64 m, .slice NA nn nc], .slice RA rn rc, .agg #[.slice A n c], .slice SA sm sc] w (SafeIs f seen m ps rs w) := by
  have HCR := hid (fun (W : World) (hW : Ext w W) => by
    have := rchkRules_any f A n c seen SA sm sc m ps NA nn nc hpn hpm rs RA rn rc hrn hrm true W (h.ext hW) (hp.ext hW) (hr.ext hW)
    rw [rcrE_safe] at this
    exact this)
  have K0 := hid (show Blk _ _ _ _ from blk_old (blk_old (blk_last w (.cells #[.int .i64 m, .slice NA nn nc] 47)) (.cells #[.slice A n c] 24)) (.cells #[.int .i64 0, .slice none 0 0] 47))
  have K1 := hid (show Blk _ _ _ _ from blk_old (blk_last (w.alloc (.cells #[.int .i64 m, .slice NA nn nc] 47)) (.cells #[.slice A n c] 24)) (.cells #[.int .i64 0, .slice none 0 0] 47))
  have K2 := hid (show Blk _ _ _ _ from blk_last ((w.alloc (.cells #[.int .i64 m, .slice NA nn nc] 47)).alloc (.cells #[.slice A n c] 24)) (.cells #[.int .i64 0, .slice none 0 0] 47))
  rw [World.size_alloc] at K1
  rw [World.size_alloc, World.size_alloc] at K2
  have E : Ext w (((w.alloc (.cells #[.int .i64 m, .slice NA nn nc] 47)).alloc (.cells #[.slice A n c] 24)).alloc (.cells #[.int .i64 0, .slice none 0 0] 47)) := by (repeat' (first | with_reducible assumption | with_reducible exact Ext.refl _ | with_reducible refine Ext.alloc ?_ _ | with_reducible refine Ext.set ?_ ?_ _ | with_reducible refine Ext.drew ?_ | with_reducible refine Ext.drewN ?_ _ | with_reducible refine Ext.trans ?_ (by assumption) | (dsimp only; omega)))
  unfold SafeIs
  by_cases hs0 : safE f seen m ps rs = 0
  case neg =>
    have hsb : (safE f seen m ps rs != 0) = true := by simp [hs0]
    generalize safE f seen m ps rs = se at *
    clear h hp hr
    go_enter Tryz.func22, Tryz.ntmps22
    go_wp2_with fail
    refine (HCR.out _ E).mono ?_
    rintro e w2 ⟨rfl, hE⟩
    replace E := E.trans hE
    replace K0 := hid (K0.out.ext hE)
    replace K1 := hid (K1.out.ext hE)
    replace K2 := hid (K2.out.ext hE)
    (try replace K3 := hid (K3.out.ext hE))
    (try replace KV := hid (KV.out.ext hE))
    (try replace KX := hid (KX.out.ext hE))
    (try replace HV := hid (HV.out.ext hE))
    (try replace O1 := hid (O1.out.ext hE))
    (try replace HLE := hid (Nat.le_trans HLE.out hE.size))
    clear hE
    (try clear a0 a1 l0 y0 y1 z0 z1 z2 zE)
    (try clear g0 g1 gz)
    obtain ⟨a0, a1⟩ : _ ∧ _ := ⟨K0.out.cell 0, K0.out.cell 1⟩
    have l0 := K1.out.cell 0
    obtain ⟨y0, y1⟩ : _ ∧ _ := ⟨K2.out.cell 0, K2.out.cell 1⟩
    have z0 := K0.out.lt
    have z1 := K1.out.lt
    have z2 := K2.out.lt
    have zE := E.size
    simp only [List.getElem?_toArray, List.getElem?_cons_zero, List.getElem?_cons_succ] at a0 a1 l0 y0 y1
    (try (obtain ⟨g0, g1⟩ : _ ∧ _ := ⟨K3.out.cell 0, K3.out.cell 1⟩; have gz := K3.out.lt; simp only [List.getElem?_toArray, List.getElem?_cons_zero, List.getElem?_cons_succ] at g0 g1))
    obtain ⟨y0f, y1f⟩ : _ ∧ _ := ⟨K2.out.fro 0, K2.out.fro 1⟩
    have R := (K2.out.setAt 0 (.int .i64 0)).setAt 1 (.slice none 0 0)
    have QE := hid ((E.set (p := ⟨w.heap.size + 1 + 1, 0, none⟩) (by dsimp only; omega) (.int .i64 0)).set (p := ⟨w.heap.size + 1 + 1, 1, none⟩) (by dsimp only; omega) (.slice none 0 0))
    simp only [List.setIfInBounds_toArray, List.set_cons_zero, List.set_cons_succ] at R
    obtain ⟨r0, r1⟩ : _ ∧ _ := ⟨R.cell 0, R.cell 1⟩
    simp only [List.getElem?_toArray, List.getElem?_cons_zero, List.getElem?_cons_succ] at r0 r1
    clear R
    go_wp2
    exact bodyPost_ret (v := .tuple #[.agg #[.int .i64 0, .slice none 0 0], .int .i64 se]) (by simp [results, Tryz.results22, go_sem, r0, r1]) rfl ⟨0, none, 0, 0, rfl, fun h => absurd h hs0, fun _ => ⟨rfl, rfl⟩, QE.out⟩
  have ok := safE_ok hs0
  rw [hs0] at HCR ⊢
  have HCP := hid (fun (W : World) (hW : Ext w W) => rCopyNet_any m ps NA nn nc hpn hpm (fun k hk => by have := vNet_ops ok.net _ (mem_at ps zeroPt k (by omega)); omega) W (hp.ext hW))
  have HRU := hid (fun (k : Nat) (W : World) (hW : Ext w W) => rruled_any rs RA rn rc hrn hrm (k : Int) W (hr.ext hW))
  have HHR := hid (fun (k : Nat) (W : World) (hW : Ext w W) => rhours_any f A n c seen SA sm sc rs RA rn rc hrn hrm (rlsB_aft ok.ru) (k : Int) W (h.ext hW) (hr.ext hW) ok.fc ok.sg)
  have HMS := hid (fun (k : Nat) (hru : ruM rs (k : Int) = true) => show safeM (forP rs (k : Int)) (scsM seen f) (hoursN f) (ps.getD k zeroPt).opens = (mnL rs rn seen f (ps.getD k zeroPt).opens k).take 6 from mn_safe ok.fc ok.sg rn hrn k _ hru 2881 (by have := (fc_ok ok.fc).2.2.1; omega))
  have HML := hid (fun (k q : Nat) (W : World) (hx : BosAt W (some ⟨q, 0, none⟩) (tabL 2881 (mnP rs rn seen f (ps.getD k zeroPt).opens k))) => mnL_any rs rn seen f (ps.getD k zeroPt).opens k q W hx)
  have HLL := hid (fun k => show (mnL rs rn seen f (ps.getD k zeroPt).opens k).length ≤ 2881 from spansM_len _ _)
  have HPP := hid (fun (k t : Nat) => show mnP rs rn seen f (ps.getD k zeroPt).opens k t = ((decide (t / 60 < hoursN f) && hrA rs (k : Int) rn seen f (t / 60)) && isInM (t : Int) (ps.getD k zeroPt).opens) from rfl)
  have HSM := hid (fun (k : Nat) (hk : k < nn) (hru : ruM rs (k : Int) = false) => safK_same (rs := rs) (ss := scsM seen f) (N := hoursN f) (ps := ps) (k := k) (by omega) hru)
  have HST := hid (fun (k : Nat) (hk : k < nn) => safK_step rs (scsM seen f) (hoursN f) ps k (by omega))
  have HK0 := hid (safK_zero rs (scsM seen f) (hoursN f) ps)
  have HKE := hid (show safK rs (scsM seen f) (hoursN f) ps nn = safP rs (scsM seen f) (hoursN f) ps by rw [← hpn]; exact safK_all _ _ _ _)
  have HKL := hid (fun k => safK_len rs (scsM seen f) (hoursN f) ps k)
  have HKA := hid (fun k => safK_at rs (scsM seen f) (hoursN f) ps k)
  have HPO := hid (fun (k : Nat) (hk : k < nn) => show (ps.getD k zeroPt).opens.length ≤ 6 from vNet_ops ok.net _ (mem_at ps zeroPt k (by omega)))
  have HNP := hid hp
  have HPN := hid hpn
  have hN48 : hoursN f ≤ 48 := (fc_ok ok.fc).2.2.1
  have HIN := hid (fun (os : List (Int × Int)) (h6 : os.length ≤ 6) (B5 : Option Addr) (c5 : Nat) (x : Int) (W : World) (ho : OpensAt W B5 os) => rinside_any os B5 _ c5 rfl (by omega) x W ho)
  clear h hp hr hrn hpn ok hs0
  generalize hFM : (fun k : Nat => mnL rs rn seen f (ps.getD k zeroPt).opens k) = LL
  have eL : ∀ k : Nat, mnL rs rn seen f (ps.getD k zeroPt).opens k = LL k := fun k => by rw [← hFM]
  generalize hFP : (fun k : Nat => mnP rs rn seen f (ps.getD k zeroPt).opens k) = PP
  have eP : ∀ k : Nat, mnP rs rn seen f (ps.getD k zeroPt).opens k = PP k := fun k => by rw [← hFP]
  simp only [eL, eP] at HMS HML HLL HPP
  clear hFM hFP eL eP
  generalize safK rs (scsM seen f) (hoursN f) ps = SK at *
  generalize safP rs (scsM seen f) (hoursN f) ps = SP at *
  generalize scsM seen f = ss at *
  generalize hFA : (fun k : Nat => hrA rs (k : Int) rn seen f) = HA
  have eA : ∀ k : Nat, hrA rs (k : Int) rn seen f = HA k := fun k => by rw [← hFA]
  simp only [eA] at HHR HPP
  clear hFA eA
  generalize hoursN f = N at *
  go_enter Tryz.func22, Tryz.ntmps22
  go_wp2_with fail
  refine (HCR.out _ E).mono ?_
  rintro e w2 ⟨rfl, hE⟩
  replace E := E.trans hE
  replace K0 := hid (K0.out.ext hE)
  replace K1 := hid (K1.out.ext hE)
  replace K2 := hid (K2.out.ext hE)
  (try replace K3 := hid (K3.out.ext hE))
  (try replace KV := hid (KV.out.ext hE))
  (try replace KX := hid (KX.out.ext hE))
  (try replace HV := hid (HV.out.ext hE))
  (try replace O1 := hid (O1.out.ext hE))
  (try replace HLE := hid (Nat.le_trans HLE.out hE.size))
  clear hE
  (try clear a0 a1 l0 y0 y1 z0 z1 z2 zE)
  (try clear g0 g1 gz)
  obtain ⟨a0, a1⟩ : _ ∧ _ := ⟨K0.out.cell 0, K0.out.cell 1⟩
  have l0 := K1.out.cell 0
  obtain ⟨y0, y1⟩ : _ ∧ _ := ⟨K2.out.cell 0, K2.out.cell 1⟩
  have z0 := K0.out.lt
  have z1 := K1.out.lt
  have z2 := K2.out.lt
  have zE := E.size
  simp only [List.getElem?_toArray, List.getElem?_cons_zero, List.getElem?_cons_succ] at a0 a1 l0 y0 y1
  (try (obtain ⟨g0, g1⟩ : _ ∧ _ := ⟨K3.out.cell 0, K3.out.cell 1⟩; have gz := K3.out.lt; simp only [List.getElem?_toArray, List.getElem?_cons_zero, List.getElem?_cons_succ] at g0 g1))
  clear HCR
  have hw2 : w.heap.size + 3 ≤ w2.heap.size := by omega
  go_wp2_with fail
  refine (HCP.out _ E).mono ?_
  rintro e w3 ⟨VA, vc, xs, rfl, hxm, hxo, hxx, hE⟩
  have hbc := hE.size
  replace E := E.trans hE
  replace K0 := hid (K0.out.ext hE)
  replace K1 := hid (K1.out.ext hE)
  replace K2 := hid (K2.out.ext hE)
  (try replace K3 := hid (K3.out.ext hE))
  (try replace KV := hid (KV.out.ext hE))
  (try replace KX := hid (KX.out.ext hE))
  (try replace HV := hid (HV.out.ext hE))
  (try replace O1 := hid (O1.out.ext hE))
  (try replace HLE := hid (Nat.le_trans HLE.out hE.size))
  clear hE
  (try clear a0 a1 l0 y0 y1 z0 z1 z2 zE)
  (try clear g0 g1 gz)
  obtain ⟨a0, a1⟩ : _ ∧ _ := ⟨K0.out.cell 0, K0.out.cell 1⟩
  have l0 := K1.out.cell 0
  obtain ⟨y0, y1⟩ : _ ∧ _ := ⟨K2.out.cell 0, K2.out.cell 1⟩
  have z0 := K0.out.lt
  have z1 := K1.out.lt
  have z2 := K2.out.lt
  have zE := E.size
  simp only [List.getElem?_toArray, List.getElem?_cons_zero, List.getElem?_cons_succ] at a0 a1 l0 y0 y1
  (try (obtain ⟨g0, g1⟩ : _ ∧ _ := ⟨K3.out.cell 0, K3.out.cell 1⟩; have gz := K3.out.lt; simp only [List.getElem?_toArray, List.getElem?_cons_zero, List.getElem?_cons_succ] at g0 g1))
  clear HCP
  have HXM := hid hxm
  have HXO := hid (hxo.low hw2)
  have HXX := hid (hxx.mono (q := fun b => w.heap.size + 3 ≤ b ∧ b < w3.heap.size ∧ (Value.slice VA nn vc).ownBlock ≠ some b) (fun b hb => ⟨by omega, hb.2.1, hb.2.2⟩))
  clear hxm hxo hxx
  go_wp2
  refine abs_anyW (G := fun W => Code.wp _ _ _ _ W) (fun X => Blk X w3.heap.size 47 #[.int .i64 m, .slice VA nn vc] ∧ Ext w3 X) ⟨blk_last _ _, by (repeat' (first | with_reducible assumption | with_reducible exact Ext.refl _ | with_reducible refine Ext.alloc ?_ _ | with_reducible refine Ext.set ?_ ?_ _ | with_reducible refine Ext.drew ?_ | with_reducible refine Ext.drewN ?_ _ | with_reducible refine Ext.trans ?_ (by assumption) | (dsimp only; omega)))⟩ ?_
  rintro U ⟨k3, hE⟩
  replace HXO := hid (HXO.out.ext hE)
  have hbk := HXO.out.block
  replace HXX := hid ((HXX.out.ext hE).mono (q := fun b => w.heap.size + 3 ≤ b ∧ b < U.heap.size ∧ (Value.slice VA nn vc).ownBlock ≠ some b) (fun b hb => ⟨hb.1, Nat.lt_of_lt_of_le hb.2.1 hE.size, hb.2.2⟩))
  have K3 := hid k3
  have hq3 : w.heap.size + 3 ≤ w3.heap.size := by omega
  obtain ⟨qo, hqo⟩ : ∃ qo, w3.heap.size = qo := ⟨_, rfl⟩
  replace E := E.trans hE
  replace K0 := hid (K0.out.ext hE)
  replace K1 := hid (K1.out.ext hE)
  replace K2 := hid (K2.out.ext hE)
  (try replace K3 := hid (K3.out.ext hE))
  (try replace KV := hid (KV.out.ext hE))
  (try replace KX := hid (KX.out.ext hE))
  (try replace HV := hid (HV.out.ext hE))
  (try replace O1 := hid (O1.out.ext hE))
  (try replace HLE := hid (Nat.le_trans HLE.out hE.size))
  clear hE
  (try clear a0 a1 l0 y0 y1 z0 z1 z2 zE)
  (try clear g0 g1 gz)
  obtain ⟨a0, a1⟩ : _ ∧ _ := ⟨K0.out.cell 0, K0.out.cell 1⟩
  have l0 := K1.out.cell 0
  obtain ⟨y0, y1⟩ : _ ∧ _ := ⟨K2.out.cell 0, K2.out.cell 1⟩
  have z0 := K0.out.lt
  have z1 := K1.out.lt
  have z2 := K2.out.lt
  have zE := E.size
  simp only [List.getElem?_toArray, List.getElem?_cons_zero, List.getElem?_cons_succ] at a0 a1 l0 y0 y1
  (try (obtain ⟨g0, g1⟩ : _ ∧ _ := ⟨K3.out.cell 0, K3.out.cell 1⟩; have gz := K3.out.lt; simp only [List.getElem?_toArray, List.getElem?_cons_zero, List.getElem?_cons_succ] at g0 g1))
  rw [hqo] at K3 hq3 gz g0 g1 ⊢
  have HQO := hid (show ∀ q, (Value.slice VA nn vc).ownBlock = some q → q ≠ qo from fun q hq e => by
    obtain ⟨cs9, h9⟩ := HXO.out.kind q hq
    have h8 : U.heap[qo]? = _ := K3.out
    rw [← e, h9] at h8
    injection h8 with h8
    injection h8 with _ h8 _
    exact absurd h8 (by decide))
  clear hqo k3 hbk hbc hw2
  go_loopw [12] (fun i wr => Ext w wr ∧ Hid (Blk wr w.heap.size 47 #[.int .i64 m, .slice NA nn nc]) ∧ Hid (Blk wr (w.heap.size + 1) 24 #[.slice A n c]) ∧ Hid (Blk wr (w.heap.size + 1 + 1) 47 #[.int .i64 0, .slice none 0 0]) ∧ Hid (Blk wr qo 47 #[.int .i64 m, .slice VA nn vc]) ∧
    ∃ (k : Nat) (ys : List PtX), k ≤ nn ∧ i = .int .i64 k ∧ Hid (ys.map (·.1) = SK k) ∧ Hid (Ownl 64 8 gPt wr (w.heap.size + 3) (.slice VA nn vc) ys) ∧ Hid (OpsIn wr (fun b => w.heap.size + 3 ≤ b ∧ b < wr.heap.size ∧ (Value.slice VA nn vc).ownBlock ≠ some b) ys)) (fun i _ => nn - (intOf i).toNat)
  case atStart => exact ⟨E, K0, K1, K2, K3, 0, xs, Nat.zero_le _, rfl, hid (by rw [HXM.out, HK0.out]), HXO, HXX⟩
  case round =>
    clear E K0 K1 K2 K3 HXO HXX HXM HK0 a0 a1 l0 y0 y1 z0 z1 z2 zE g0 g1 gz
    obtain ⟨wo, rfl⟩ : ∃ wo, wo = wr := ⟨_, rfl⟩
    obtain ⟨E, K0, K1, K2, K3, k, ys, hk, rfl, HY, KV, KX⟩ := hrel
    have HLE := hid (Nat.le_refl wo.heap.size)
    (try clear a0 a1 l0 y0 y1 z0 z1 z2 zE)
    (try clear g0 g1 gz)
    obtain ⟨a0, a1⟩ : _ ∧ _ := ⟨K0.out.cell 0, K0.out.cell 1⟩
    have l0 := K1.out.cell 0
    obtain ⟨y0, y1⟩ : _ ∧ _ := ⟨K2.out.cell 0, K2.out.cell 1⟩
    have z0 := K0.out.lt
    have z1 := K1.out.lt
    have z2 := K2.out.lt
    have zE := E.size
    simp only [List.getElem?_toArray, List.getElem?_cons_zero, List.getElem?_cons_succ] at a0 a1 l0 y0 y1
    (try (obtain ⟨g0, g1⟩ : _ ∧ _ := ⟨K3.out.cell 0, K3.out.cell 1⟩; have gz := K3.out.lt; simp only [List.getElem?_toArray, List.getElem?_cons_zero, List.getElem?_cons_succ] at g0 g1))
    by_cases hlt : k < nn
    · have HRU1 := hid (HRU.out k wo E)
      have hk0 : (0 : Int) ≤ (k : Int) := by omega
      have hk1 : (k : Int) < (nn : Int) := by omega
      go_wp2_with fail
      refine (HRU1.out).mono ?_
      rintro e w5 ⟨rfl, rfl⟩
      clear HRU1 HRU
      cases hru : ruM rs (k : Int)
      · have HYY := hid (HY.out.trans (HSM.out k hlt hru).symm)
        clear HHR HMS HML HLL HPP HSM HST hru
        go_wp2
        go_roundw
        case rel => exact ⟨E, K0, K1, K2, K3, k + 1, ys, by omega, by go_num, HYY, KV, KX⟩
        case measure => simp [intOf]; omega
      · have HST1 := hid (HST.out k hlt)
        rw [HMS.out k hru] at HST1
        have HML1 := hid (HML.out k)
        have HLL1 := hid (HLL.out k)
        have HPP1 := hid (HPP.out k)
        have HHR1 := hid (HHR.out k)
        clear HHR HMS HML HLL HPP HSM HST hru HKE
        generalize LL k = L at *
        generalize PP k = P at *
        generalize HA k = ha at *
        go_wp2_with fail
        refine (HHR1.out _ E).mono ?_
        rintro e w6 ⟨v, u, rfl, ho1, -, hE⟩
        obtain ⟨A7, c7, rfl, -, -, -⟩ := (ho1.form (by decide) (fun _ => rfl) false)
        rw [tabL_len] at ho1 ⊢
        replace E := E.trans hE
        replace K0 := hid (K0.out.ext hE)
        replace K1 := hid (K1.out.ext hE)
        replace K2 := hid (K2.out.ext hE)
        (try replace K3 := hid (K3.out.ext hE))
        (try replace KV := hid (KV.out.ext hE))
        (try replace KX := hid (KX.out.ext hE))
        (try replace HV := hid (HV.out.ext hE))
        (try replace O1 := hid (O1.out.ext hE))
        (try replace HLE := hid (Nat.le_trans HLE.out hE.size))
        clear hE
        (try clear a0 a1 l0 y0 y1 z0 z1 z2 zE)
        (try clear g0 g1 gz)
        obtain ⟨a0, a1⟩ : _ ∧ _ := ⟨K0.out.cell 0, K0.out.cell 1⟩
        have l0 := K1.out.cell 0
        obtain ⟨y0, y1⟩ : _ ∧ _ := ⟨K2.out.cell 0, K2.out.cell 1⟩
        have z0 := K0.out.lt
        have z1 := K1.out.lt
        have z2 := K2.out.lt
        have zE := E.size
        simp only [List.getElem?_toArray, List.getElem?_cons_zero, List.getElem?_cons_succ] at a0 a1 l0 y0 y1
        (try (obtain ⟨g0, g1⟩ : _ ∧ _ := ⟨K3.out.cell 0, K3.out.cell 1⟩; have gz := K3.out.lt; simp only [List.getElem?_toArray, List.getElem?_cons_zero, List.getElem?_cons_succ] at g0 g1))
        have HV := hid ho1
        clear ho1 HHR1
        obtain ⟨Y, hmk, hOM, hE⟩ := OwnM.new w6 P
        have O1 := hid hOM
        have hq6 : w6.heap.size < Y.heap.size := (hOM.at_ (t := 0) (by decide)).2.1
        have HQ6 := hid (show w5.heap.size ≤ w6.heap.size from HLE.out)
        have HQV := hid (fun q (hq : (Value.slice VA nn vc).ownBlock = some q) => show q < w6.heap.size from (KV.out.block q hq).2)
        have HQW := hid (fun q (hq : (Value.slice A7 N c7).ownBlock = some q) => show q < w6.heap.size from (HV.out.block q hq).2)
        have hqo6 : qo < w6.heap.size := gz
        have hw6 : w.heap.size + 1 + 1 < w6.heap.size := z2
        clear hOM
        obtain ⟨qm, hqm⟩ : ∃ qm, w6.heap.size = qm := ⟨_, rfl⟩
        rw [hqm] at O1 hq6 HQ6 HQV HQW hqo6 hw6
        go_wp2
        (try rw [hqm])
        clear hmk hqm HLE
        replace E := E.trans hE
        replace K0 := hid (K0.out.ext hE)
        replace K1 := hid (K1.out.ext hE)
        replace K2 := hid (K2.out.ext hE)
        (try replace K3 := hid (K3.out.ext hE))
        (try replace KV := hid (KV.out.ext hE))
        (try replace KX := hid (KX.out.ext hE))
        (try replace HV := hid (HV.out.ext hE))
        (try replace O1 := hid (O1.out.ext hE))
        (try replace HLE := hid (Nat.le_trans HLE.out hE.size))
        clear hE
        (try clear a0 a1 l0 y0 y1 z0 z1 z2 zE)
        (try clear g0 g1 gz)
        obtain ⟨a0, a1⟩ : _ ∧ _ := ⟨K0.out.cell 0, K0.out.cell 1⟩
        have l0 := K1.out.cell 0
        obtain ⟨y0, y1⟩ : _ ∧ _ := ⟨K2.out.cell 0, K2.out.cell 1⟩
        have z0 := K0.out.lt
        have z1 := K1.out.lt
        have z2 := K2.out.lt
        have zE := E.size
        simp only [List.getElem?_toArray, List.getElem?_cons_zero, List.getElem?_cons_succ] at a0 a1 l0 y0 y1
        (try (obtain ⟨g0, g1⟩ : _ ∧ _ := ⟨K3.out.cell 0, K3.out.cell 1⟩; have gz := K3.out.lt; simp only [List.getElem?_toArray, List.getElem?_cons_zero, List.getElem?_cons_succ] at g0 g1))
        go_loopw [16] (fun i wr => Ext w wr ∧ Hid (Blk wr w.heap.size 47 #[.int .i64 m, .slice NA nn nc]) ∧ Hid (Blk wr (w.heap.size + 1) 24 #[.slice A n c]) ∧ Hid (Blk wr (w.heap.size + 1 + 1) 47 #[.int .i64 0, .slice none 0 0]) ∧ Hid (Blk wr qo 47 #[.int .i64 m, .slice VA nn vc]) ∧
          Hid (Ownl 64 8 gPt wr (w.heap.size + 3) (.slice VA nn vc) ys) ∧ Hid (OpsIn wr (fun b => w.heap.size + 3 ≤ b ∧ b < w5.heap.size ∧ (Value.slice VA nn vc).ownBlock ≠ some b) ys) ∧ Hid (Ownl 4 1 gBo wr w5.heap.size (.slice A7 N c7) (tabL N ha)) ∧
          ∃ t : Nat, t ≤ 2881 ∧ i = .int .i64 t ∧ Hid (OwnM wr qm qm (fun x => if x < t then P x else false))) (fun i _ => 2881 - (intOf i).toNat)
        case atStart => exact ⟨E, K0, K1, K2, K3, KV, KX, HV, 0, Nat.zero_le _, rfl, O1⟩
        case round =>
          clear E K0 K1 K2 K3 KV KX HV O1 hq6 a0 a1 l0 y0 y1 z0 z1 z2 zE g0 g1 gz
          obtain ⟨E, K0, K1, K2, K3, KV, KX, HV, t, ht, rfl, O1⟩ := hrel
          (try clear a0 a1 l0 y0 y1 z0 z1 z2 zE)
          (try clear g0 g1 gz)
          obtain ⟨a0, a1⟩ : _ ∧ _ := ⟨K0.out.cell 0, K0.out.cell 1⟩
          have l0 := K1.out.cell 0
          obtain ⟨y0, y1⟩ : _ ∧ _ := ⟨K2.out.cell 0, K2.out.cell 1⟩
          have z0 := K0.out.lt
          have z1 := K1.out.lt
          have z2 := K2.out.lt
          have zE := E.size
          simp only [List.getElem?_toArray, List.getElem?_cons_zero, List.getElem?_cons_succ] at a0 a1 l0 y0 y1
          (try (obtain ⟨g0, g1⟩ : _ ∧ _ := ⟨K3.out.cell 0, K3.out.cell 1⟩; have gz := K3.out.lt; simp only [List.getElem?_toArray, List.getElem?_cons_zero, List.getElem?_cons_succ] at g0 g1))
          by_cases hlt3 : t < 2881
          · obtain ⟨c1, hqm1, -⟩ := O1.out.at_ hlt3
            have fr1 := O1.out.fro t
            have hq : ((t : Int)).tdiv 60 = ((t / 60 : Nat) : Int) := by rw [Int.tdiv_eq_ediv_of_nonneg (by omega)]; omega
            have hub : t / 60 ≤ 2000 := by omega
            have HPPt := hid (HPP1.out t)
            have ht0 : (0 : Int) ≤ (t : Int) := by omega
            have ht1 : (t : Int) < 2881 := by omega
            generalize hu : t / 60 = u at *
            by_cases hun : u < N
            · have HVo := HV.out
              obtain ⟨q7, r7, e7, hb7, hl7⟩ := HVo.some_ (by rw [tabL_len]; omega)
              injection e7 with e7 e7l e7c
              subst e7
              obtain ⟨c3, -, -⟩ := own_at HVo hun
              clear HVo e7l e7c
              cases hau : ha u
              · have hv : false = P t := by rw [HPPt.out, hau]; simp
                rw [hau] at c3
                clear hau
                have E5 := hid (E.set (p := ⟨qm, t, none⟩) (by dsimp only; omega) (.bool (false)))
                have C0 := hid (K0.out.other (p := ⟨qm, t, none⟩) (by dsimp only; omega) (.bool (false)))
                have C1 := hid (K1.out.other (p := ⟨qm, t, none⟩) (by dsimp only; omega) (.bool (false)))
                have C2 := hid (K2.out.other (p := ⟨qm, t, none⟩) (by dsimp only; omega) (.bool (false)))
                have C3 := hid (K3.out.other (p := ⟨qm, t, none⟩) (by dsimp only; omega) (.bool (false)))
                have CV := hid (KV.out.otherNe (p := ⟨qm, t, none⟩) (fun h => absurd (HQV.out _ h) (Nat.lt_irrefl _)) (.bool (false)))
                have CH := hid (HV.out.otherNe (p := ⟨qm, t, none⟩) (fun h => absurd (HQW.out _ h) (Nat.lt_irrefl _)) (.bool (false)))
                have CX := hid (KX.out.set (p := ⟨qm, t, none⟩) (fun b hb => by have := hb.2.1; have := HQ6.out; dsimp only; omega) (.bool (false)))
                have CO := hid (O1.out.step hlt3 (false) hv)
                clear hv K0 K1 K2 K3 KV HV KX O1 a0 a1 l0 y0 y1 g0 g1 HPPt
                go_wp2
                go_roundw
                case rel => exact ⟨E5.out, C0, C1, C2, C3, CV, CX, CH, t + 1, by omega, by go_num, CO⟩
                case measure => simp [intOf]; omega
              · rw [hau] at c3
                rw [hau, decide_eq_true hun] at HPPt
                clear hau
                obtain ⟨b1, f1, B5, g5, hA1, hb1, hpt⟩ := PathsAt.at_ (HNP.out.ext E) HPN.out hlt
                subst hA1
                obtain ⟨-, -, -, -, -, -, -, d7, -, hop⟩ := hpt
                have HI1 := hid (HIN.out _ (HPO.out k hlt) B5 g5 (t : Int) _ hop)
                generalize (ps.getD k zeroPt).opens.length = pol at *
                generalize isInM (t : Int) (ps.getD k zeroPt).opens = x3 at *
                clear hop
                go_wp2_with fail
                refine (HI1.out).mono ?_
                rintro e wz ⟨rfl, hE⟩
                replace E := E.trans hE
                replace K0 := hid (K0.out.ext hE)
                replace K1 := hid (K1.out.ext hE)
                replace K2 := hid (K2.out.ext hE)
                (try replace K3 := hid (K3.out.ext hE))
                (try replace KV := hid (KV.out.ext hE))
                (try replace KX := hid (KX.out.ext hE))
                (try replace HV := hid (HV.out.ext hE))
                (try replace O1 := hid (O1.out.ext hE))
                (try replace HLE := hid (Nat.le_trans HLE.out hE.size))
                clear hE
                (try clear a0 a1 l0 y0 y1 z0 z1 z2 zE)
                (try clear g0 g1 gz)
                obtain ⟨a0, a1⟩ : _ ∧ _ := ⟨K0.out.cell 0, K0.out.cell 1⟩
                have l0 := K1.out.cell 0
                obtain ⟨y0, y1⟩ : _ ∧ _ := ⟨K2.out.cell 0, K2.out.cell 1⟩
                have z0 := K0.out.lt
                have z1 := K1.out.lt
                have z2 := K2.out.lt
                have zE := E.size
                simp only [List.getElem?_toArray, List.getElem?_cons_zero, List.getElem?_cons_succ] at a0 a1 l0 y0 y1
                (try (obtain ⟨g0, g1⟩ : _ ∧ _ := ⟨K3.out.cell 0, K3.out.cell 1⟩; have gz := K3.out.lt; simp only [List.getElem?_toArray, List.getElem?_cons_zero, List.getElem?_cons_succ] at g0 g1))
                clear HI1 d7 c1 c3 fr1
                obtain ⟨c1, hqm2, -⟩ := O1.out.at_ hlt3
                have fr1 := O1.out.fro t
                have hv : x3 = P t := by rw [HPPt.out]; rfl
                have E5 := hid (E.set (p := ⟨qm, t, none⟩) (by dsimp only; omega) (.bool (x3)))
                have C0 := hid (K0.out.other (p := ⟨qm, t, none⟩) (by dsimp only; omega) (.bool (x3)))
                have C1 := hid (K1.out.other (p := ⟨qm, t, none⟩) (by dsimp only; omega) (.bool (x3)))
                have C2 := hid (K2.out.other (p := ⟨qm, t, none⟩) (by dsimp only; omega) (.bool (x3)))
                have C3 := hid (K3.out.other (p := ⟨qm, t, none⟩) (by dsimp only; omega) (.bool (x3)))
                have CV := hid (KV.out.otherNe (p := ⟨qm, t, none⟩) (fun h => absurd (HQV.out _ h) (Nat.lt_irrefl _)) (.bool (x3)))
                have CH := hid (HV.out.otherNe (p := ⟨qm, t, none⟩) (fun h => absurd (HQW.out _ h) (Nat.lt_irrefl _)) (.bool (x3)))
                have CX := hid (KX.out.set (p := ⟨qm, t, none⟩) (fun b hb => by have := hb.2.1; have := HQ6.out; dsimp only; omega) (.bool (x3)))
                have CO := hid (O1.out.step hlt3 (x3) hv)
                clear hv K0 K1 K2 K3 KV HV KX O1 a0 a1 l0 y0 y1 g0 g1 HPPt
                go_wp2
                go_roundw
                case rel => exact ⟨E5.out, C0, C1, C2, C3, CV, CX, CH, t + 1, by omega, by go_num, CO⟩
                case measure => simp [intOf]; omega
            · have hv : false = P t := by rw [HPPt.out, decide_eq_false hun]; rfl
              have E5 := hid (E.set (p := ⟨qm, t, none⟩) (by dsimp only; omega) (.bool (false)))
              have C0 := hid (K0.out.other (p := ⟨qm, t, none⟩) (by dsimp only; omega) (.bool (false)))
              have C1 := hid (K1.out.other (p := ⟨qm, t, none⟩) (by dsimp only; omega) (.bool (false)))
              have C2 := hid (K2.out.other (p := ⟨qm, t, none⟩) (by dsimp only; omega) (.bool (false)))
              have C3 := hid (K3.out.other (p := ⟨qm, t, none⟩) (by dsimp only; omega) (.bool (false)))
              have CV := hid (KV.out.otherNe (p := ⟨qm, t, none⟩) (fun h => absurd (HQV.out _ h) (Nat.lt_irrefl _)) (.bool (false)))
              have CH := hid (HV.out.otherNe (p := ⟨qm, t, none⟩) (fun h => absurd (HQW.out _ h) (Nat.lt_irrefl _)) (.bool (false)))
              have CX := hid (KX.out.set (p := ⟨qm, t, none⟩) (fun b hb => by have := hb.2.1; have := HQ6.out; dsimp only; omega) (.bool (false)))
              have CO := hid (O1.out.step hlt3 (false) hv)
              clear hv K0 K1 K2 K3 KV HV KX O1 a0 a1 l0 y0 y1 g0 g1 HPPt
              go_wp2
              go_roundw
              case rel => exact ⟨E5.out, C0, C1, C2, C3, CV, CX, CH, t + 1, by omega, by go_num, CO⟩
              case measure => simp [intOf]; omega
          · obtain rfl : t = 2881 := by omega
            have hqmw : qm < wr.heap.size := (O1.out.at_ (t := 0) (by decide)).2.1
            have HBO := hid (HML1.out qm wr (O1.out.fin))
            clear HML1 HPP1 O1 HIN HV
            go_wp2_with fail
            refine (HBO.out).mono ?_
            rintro e w8 ⟨A5, c5, rfl, hol, hE⟩
            obtain ⟨A9, c9, e9, hc5, hf5, hb5⟩ := hol.form (by decide) (fun _ => rfl) (0, 0)
            injection e9 with e9 e9l e9c
            subst e9 e9c
            have hbl5 := hol.block
            have hwr8 := hE.size
            clear HBO
            replace E := E.trans hE
            replace K0 := hid (K0.out.ext hE)
            replace K1 := hid (K1.out.ext hE)
            replace K2 := hid (K2.out.ext hE)
            (try replace K3 := hid (K3.out.ext hE))
            (try replace KV := hid (KV.out.ext hE))
            (try replace KX := hid (KX.out.ext hE))
            (try replace HV := hid (HV.out.ext hE))
            (try replace O1 := hid (O1.out.ext hE))
            (try replace HLE := hid (Nat.le_trans HLE.out hE.size))
            clear hE
            (try clear a0 a1 l0 y0 y1 z0 z1 z2 zE)
            (try clear g0 g1 gz)
            obtain ⟨a0, a1⟩ : _ ∧ _ := ⟨K0.out.cell 0, K0.out.cell 1⟩
            have l0 := K1.out.cell 0
            obtain ⟨y0, y1⟩ : _ ∧ _ := ⟨K2.out.cell 0, K2.out.cell 1⟩
            have z0 := K0.out.lt
            have z1 := K1.out.lt
            have z2 := K2.out.lt
            have zE := E.size
            simp only [List.getElem?_toArray, List.getElem?_cons_zero, List.getElem?_cons_succ] at a0 a1 l0 y0 y1
            (try (obtain ⟨g0, g1⟩ : _ ∧ _ := ⟨K3.out.cell 0, K3.out.cell 1⟩; have gz := K3.out.lt; simp only [List.getElem?_toArray, List.getElem?_cons_zero, List.getElem?_cons_succ] at g0 g1))
            have HOL := hid ((flat_spans.1 hf5).take 6)
            have hyl : ys.length = nn := by rw [← List.length_map (f := (·.1)), HY.out, HKL.out, HPN.out]
            obtain ⟨q, qc, hq, hq1, hq2⟩ := KV.out.some_ (by omega)
            injection hq with hqA hqn hqc
            subst hqA hqc
            have hqm2 := HQV.out q rfl
            have hnq3 : ¬ qo = q := fun e => HQO.out q rfl e.symm
            have hL28 := HLL1.out
            obtain ⟨ml, hml⟩ : ∃ ml, min L.length 6 = ml := ⟨_, rfl⟩
            have htl : (L.take 6).length = ml := by rw [List.length_take, ← hml]; omega
            have g6 : (if (6 : Int) < (L.length : Int) then (6 : Int) else (L.length : Int)) = (ml : Int) := by split <;> omega
            have hml2 : ml ≤ c5 := by omega
            have HA5 := hid (fun b o sp (hA : A5 = some ⟨b, o, sp⟩) => show w.heap.size + 3 ≤ b ∧ b < w8.heap.size ∧ (Value.slice (some ⟨q, 0, none⟩) nn vc).ownBlock ≠ some b from by
              have h1 := hb5 b o sp hA
              subst hA
              have h2 := (hbl5 b rfl).2
              refine ⟨by omega, h2, fun e => ?_⟩
              have e' : some q = some b := e
              injection e' with e'
              omega)
            have HYL := hid hyl
            have HTL := hid htl
            have HB5 := hid hb5
            clear hqn e9l hml hyl htl hL28 hol hf5 hb5 hbl5
            go_wp2_with fail
            refine wp_region_held_drew (S := fun w' => ∀ b o, b < w8.heap.size → ¬ b = q → w'.cell? ⟨b, o, none⟩ = w8.cell? ⟨b, o, none⟩) (by kernel_rfl) ?hS0 (fun hHeld => ?_)
            case hS0 => exact fun _ _ _ _ => rfl
            have EX : Ext w8 w8.drew := Ext.drew (Ext.refl w8)
            obtain ⟨X, hX⟩ : ∃ X, w8.drew = X := ⟨_, rfl⟩
            rw [hX] at EX hHeld ⊢
            clear hX
            refine tk1 (i := 0) (v := ?v0z) rfl ?y0z ?r0z
            case y0z => (intro w' hSw; (try dsimp only at hSw); go_simp; (try with_reducible rfl))
            try simp only [Act.put, sq1, sq2, sq3, sq4, sq5, sq6]
            refine tk1 (i := 1) (v := ?v1z) rfl ?y1z ?r1z
            case y1z => (intro w' hSw; (try dsimp only at hSw); go_simp; (try with_reducible rfl))
            try simp only [Act.put, sq1, sq2, sq3, sq4, sq5, sq6]
            refine tk1 (i := 2) (v := ?v2z) rfl ?y2z ?r2z
            case y2z => (intro w' hSw; (try dsimp only at hSw); go_simp; (try with_reducible rfl))
            try simp only [Act.put, sq1, sq2, sq3, sq4, sq5, sq6]
            refine tk1 (i := 3) (v := ?v3z) rfl ?y3z ?r3z
            case y3z => (intro w' hSw; (try dsimp only at hSw); go_simp; (try with_reducible rfl))
            try simp only [Act.put, sq1, sq2, sq3, sq4, sq5, sq6]
            refine tk1 (i := 4) (v := ?v4z) rfl ?y4z ?r4z
            case y4z => (intro w' hSw; (try dsimp only at hSw); go_simp; (try with_reducible rfl))
            try simp only [Act.put, sq1, sq2, sq3, sq4, sq5, sq6]
            refine tk1 (i := 5) (v := ?v5z) rfl ?y5z ?r5z
            case y5z => (intro w' hSw; (try dsimp only at hSw); go_simp; (try with_reducible rfl))
            try simp only [Act.put, sq1, sq2, sq3, sq4, sq5, sq6]
            refine tk1 (i := 6) (v := ?v6z) rfl ?y6z ?r6z
            case y6z => (intro w' hSw; (try dsimp only at hSw); go_simp; (try with_reducible rfl))
            try simp only [Act.put, sq1, sq2, sq3, sq4, sq5, sq6]
            refine tk1 (i := 7) (v := ?v7z) rfl ?y7z ?r7z
            case y7z => (intro w' hSw; (try dsimp only at hSw); go_simp; (try with_reducible rfl))
            try simp only [Act.put, sq1, sq2, sq3, sq4, sq5, sq6]
            refine tk1 (i := 8) (v := ?v8z) rfl ?y8z ?r8z
            case y8z => (intro w' hSw; (try dsimp only at hSw); go_simp; (try with_reducible rfl))
            try simp only [Act.put, sq1, sq2, sq3, sq4, sq5, sq6]
            refine tk1 (i := 9) (v := ?v9z) rfl ?y9z ?r9z
            case y9z => (intro w' hSw; (try dsimp only at hSw); go_simp; (try with_reducible rfl))
            try simp only [Act.put, sq1, sq2, sq3, sq4, sq5, sq6]
            have hE := EX
            have SX := hid EX
            have hX8 := EX.size
            replace E := E.trans hE
            replace K0 := hid (K0.out.ext hE)
            replace K1 := hid (K1.out.ext hE)
            replace K2 := hid (K2.out.ext hE)
            (try replace K3 := hid (K3.out.ext hE))
            (try replace KV := hid (KV.out.ext hE))
            (try replace KX := hid (KX.out.ext hE))
            (try replace HV := hid (HV.out.ext hE))
            (try replace O1 := hid (O1.out.ext hE))
            (try replace HLE := hid (Nat.le_trans HLE.out hE.size))
            clear hE
            (try clear a0 a1 l0 y0 y1 z0 z1 z2 zE)
            (try clear g0 g1 gz)
            obtain ⟨a0, a1⟩ : _ ∧ _ := ⟨K0.out.cell 0, K0.out.cell 1⟩
            have l0 := K1.out.cell 0
            obtain ⟨y0, y1⟩ : _ ∧ _ := ⟨K2.out.cell 0, K2.out.cell 1⟩
            have z0 := K0.out.lt
            have z1 := K1.out.lt
            have z2 := K2.out.lt
            have zE := E.size
            simp only [List.getElem?_toArray, List.getElem?_cons_zero, List.getElem?_cons_succ] at a0 a1 l0 y0 y1
            (try (obtain ⟨g0, g1⟩ : _ ∧ _ := ⟨K3.out.cell 0, K3.out.cell 1⟩; have gz := K3.out.lt; simp only [List.getElem?_toArray, List.getElem?_cons_zero, List.getElem?_cons_succ] at g0 g1))
            have hyl := HYL.out
            have htl := HTL.out
            have hown2 : X.ownsRow (w.heap.size + 3) 64 8 (.slice (some ⟨q, 0, none⟩) ys.length vc) ys.length (ys.flatMap gPt) := by have h5 := KV.out; unfold Ownl at h5; rw [← hyl] at h5; exact h5
            have v7f := hown2.frozenAt (k * 8 + 7)
            have KVo := hid (Ownl.opens (show Ownl 64 8 gPt X (w.heap.size + 3) (.slice (some ⟨q, 0, none⟩) ys.length vc) ys from hown2) (k := k) (by omega) (L.take 6) A5 c5).1
            have hfst : (ys.getD k zeroPx).1 = ps.getD k zeroPt := by
              rw [← HKA.out k, ← HY.out]
              simp only [List.getD_eq_getElem?_getD, List.getElem?_map, List.getElem?_eq_getElem (show k < ys.length by omega)]
              rfl
            have v7 : ∃ v7, X.cell? ⟨q, k * 8 + 7, none⟩ = some v7 := by
              have h5 := hown2.cellAt (k * 8 + 7) (by omega)
              rw [fm_at gPt 8 (fun _ => rfl) zeroPx ys k 7 (by omega) (by decide)] at h5
              exact ⟨_, h5⟩
            obtain ⟨v7, v7e⟩ := v7
            rw [hfst, htl] at KVo
            have HZX := hid (KX.out.mono (q := fun b => w.heap.size + 3 ≤ b ∧ b < X.heap.size ∧ (Value.slice (some ⟨q, 0, none⟩) nn vc).ownBlock ≠ some b) (fun b hb => ⟨hb.1, by have h3 := hb.2.1; have h4 := HQ6.out; omega, hb.2.2⟩))
            have HZY := hid (show (ys.set k (withO (ps.getD k zeroPt) (L.take 6), A5, c5)).map (·.1) = SK (k + 1) by rw [HST1.out, ← HY.out, List.map_set])
            clear KX HST1 HLL1 hown2 hfst hyl htl HY
            refine wpAnyH_ready (rs := [10]) (by kernel_rfl) (by simp) ?_
            refine AllReadyH.cons (o := _) rfl (fun K hK => ?_) AllReadyH.nil
            go_simp
            have ZKV := hid (show Ownl 64 8 gPt (X.setCell ⟨q, k * 8 + 7, none⟩ (.slice A5 ml c5)) (w.heap.size + 3) (.slice (some ⟨q, 0, none⟩) nn vc) (ys.set k (withO (ps.getD k zeroPt) (L.take 6), A5, c5)) from by
              have h5 := KVo.out
              rw [HYL.out] at h5
              exact h5)
            have Z0 := hid (K0.out.other (p := ⟨q, k * 8 + 7, none⟩) (by dsimp only; omega) (.slice A5 ml c5))
            have Z1 := hid (K1.out.other (p := ⟨q, k * 8 + 7, none⟩) (by dsimp only; omega) (.slice A5 ml c5))
            have Z2 := hid (K2.out.other (p := ⟨q, k * 8 + 7, none⟩) (by dsimp only; omega) (.slice A5 ml c5))
            have Z3 := hid (K3.out.other (p := ⟨q, k * 8 + 7, none⟩) (by dsimp only; omega) (.slice A5 ml c5))
            have ZE := hid (E.set (p := ⟨q, k * 8 + 7, none⟩) (by dsimp only; omega) (.slice A5 ml c5))
            have ZX := hid ((HZX.out.put k (withO (ps.getD k zeroPt) (L.take 6)) A5 c5 (by rw [show (withO (ps.getD k zeroPt) (L.take 6)).opens = L.take 6 from rfl, HTL.out]; exact hml2) (HOL.out.ext SX.out) (fun _ b o sp hA => by have h9 := HA5.out b o sp hA; exact ⟨h9.1, Nat.lt_of_lt_of_le h9.2.1 hX8, h9.2.2⟩)).set (p := ⟨q, k * 8 + 7, none⟩) (fun b hb => fun h => hb.2.2 (by rw [h]; rfl)) (.slice A5 ml c5))
            have hZs : (X.setCell ⟨q, k * 8 + 7, none⟩ (.slice A5 ml c5)).heap.size = X.heap.size := by simp
            obtain ⟨Z, hZ⟩ : ∃ Z, X.setCell ⟨q, k * 8 + 7, none⟩ (.slice A5 ml c5) = Z := ⟨_, rfl⟩
            rw [hZ] at ZKV Z0 Z1 Z2 Z3 ZE ZX hZs ⊢
            rw [← hZs] at ZX
            refine hK.out _ _ (fun b o hb hne => ?_) (fun hHeld => ?_)
            · rw [← hZ]
              exact (World.cell?_setCell_other _ _ _ _ (fun e => hne (by have := congrArg Addr.block e; exact this.symm))).trans (SX.out.cell (p := ⟨b, o, none⟩) hb)
            clear hK K
            try simp only [Act.put, sq1, sq2, sq3, sq4, sq5, sq6]
            refine wpAnyH_done (by kernel_rfl) ?_ _
            clear hHeld K0 K1 K2 K3 KV E a0 a1 l0 y0 y1 g0 g1 hZ hZs SX HZX KVo v7e v7f
            go_wp2
            go_roundw
            case rel => exact ⟨ZE.out, Z0, Z1, Z2, Z3, k + 1, _, by omega, by go_num, HZY, ZKV, ZX⟩
            case measure => simp [intOf]; omega
    · obtain rfl : k = nn := by omega
      have HPA := hid (show PathsAt wo VA SP from by
        obtain ⟨A8, c8, e8, -, hf8, -⟩ := KV.out.form (by decide) (fun _ => rfl) zeroPx
        injection e8 with e8
        subst e8
        have := KX.out.paths hf8
        rw [HY.out, HKE.out] at this
        exact this)
      obtain ⟨y0f, y1f⟩ : _ ∧ _ := ⟨K2.out.fro 0, K2.out.fro 1⟩
      have hcap : k ≤ vc := by
        obtain ⟨A8, c8, e8, hc8, -, -⟩ := KV.out.form (by decide) (fun _ => rfl) zeroPx
        injection e8 with e8 e8l e8c
        omega
      have R := (K2.out.setAt 0 (.int .i64 m)).setAt 1 (.slice VA k vc)
      have QE := hid ((E.set (p := ⟨w.heap.size + 1 + 1, 0, none⟩) (by dsimp only; omega) (.int .i64 m)).set (p := ⟨w.heap.size + 1 + 1, 1, none⟩) (by dsimp only; omega) (.slice VA k vc))
      have QP := hid (show PathsAt ((wo.setCell ⟨w.heap.size + 1 + 1, 0, none⟩ (.int .i64 m)).setCell ⟨w.heap.size + 1 + 1, 1, none⟩ (.slice VA k vc)) VA SP from by
        have kv := (KV.out.other (p := ⟨w.heap.size + 1 + 1, 0, none⟩) (by dsimp only; omega) (.int .i64 m)).other (p := ⟨w.heap.size + 1 + 1, 1, none⟩) (by dsimp only; omega) (.slice VA k vc)
        have kx := (KX.out.set (p := ⟨w.heap.size + 1 + 1, 0, none⟩) (fun b hb => by dsimp only; omega) (.int .i64 m)).set (p := ⟨w.heap.size + 1 + 1, 1, none⟩) (fun b hb => by dsimp only; omega) (.slice VA k vc)
        obtain ⟨A8, c8, e8, -, hf8, -⟩ := kv.form (by decide) (fun _ => rfl) zeroPx
        injection e8 with e8
        subst e8
        have := kx.paths hf8
        rw [HY.out, HKE.out] at this
        exact this)
      simp only [List.setIfInBounds_toArray, List.set_cons_zero, List.set_cons_succ] at R
      obtain ⟨r0, r1⟩ : _ ∧ _ := ⟨R.cell 0, R.cell 1⟩
      simp only [List.getElem?_toArray, List.getElem?_cons_zero, List.getElem?_cons_succ] at r0 r1
      have HPN2 := hid (show k = ps.length from HPN.out.symm)
      clear R HPA HHR HMS HML HLL HPP HSM HST KV KX HY
      go_wp2
      exact bodyPost_ret (v := .tuple #[.agg #[.int .i64 m, .slice VA k vc], .int .i64 0]) (by simp [results, Tryz.results22, go_sem, r0, r1]) rfl ⟨m, VA, k, vc, rfl, fun _ => ⟨rfl, HPN2.out, hcap, QP.out⟩, fun h => absurd rfl h, QE.out⟩
end Go.Proofs.YtecamnhnjmldcaaGreatDoor
