/- What holds for paths in a possible weather (no walk). -/
import Derived.Test.YtecamnhnjmldcaaGreatDoorBTopClosed24
import Derived.Test.YtecamnhnjmldcaaGreatDoorBTopClosed27
import Derived.Test.YtecamnhnjmldcaaGreatDoorBTopClosed28
import Derived.Test.YtecamnhnjmldcaaGreatDoorBTopClosed25
import Derived.Test.YtecamnhnjmldcaaGreatDoorB15
import Derived.Test.YtecamnhnjmldcaaGreatDoorB05
set_option linter.unusedSimpArgs false
set_option linter.unusedVariables false
namespace Go.Proofs.YtecamnhnjmldcaaGreatDoor
open Go.RowKit
theorem kept_and (s : Sk) (a b : Lm) : keptB s (andL a b) = (keptB s a && keptB s b) := by
  unfold keptB andL inI
  rw [Bool.eq_iff_iff]
  simp only [Bool.and_eq_true, decide_eq_true_eq]
  omega
theorem kept_ask (s : Sk) (hour op : Int) : ∀ (rs : List Rl) (l : Lm), keptB s (rs.foldl (fun l r => if op - r.after ≤ hour then andL l r.lim else l) l) = (keptB s l && rs.all (fun r => !decide (op - r.after ≤ hour) || keptB s r.lim))
  | [], l => by simp
  | r :: rs, l => by
    simp only [List.foldl_cons, List.all_cons]
    rw [kept_ask s hour op rs]
    by_cases h : op - r.after ≤ hour
    · rw [if_pos h, kept_and, decide_eq_true h]
      cases keptB s l <;> cases keptB s r.lim <;> rfl
    · rw [if_neg h, decide_eq_false h]
      cases keptB s l <;> rfl
/-- Open by the rules: in each hour up to this one what they ask of it together is kept. -/
theorem isOp_ask (rs : List Rl) (sk : List Sk) (path : Int) (op : Nat) (hw : ∀ j, j < op + 1 → keptB (sk.getD j zeroSk) wideL = true) :
    isOpB rs sk path op = (List.range (op + 1)).all (fun j => keptB (sk.getD j zeroSk) (askM (forP rs path) j op)) := by
  rw [Bool.eq_iff_iff]
  unfold isOpB
  rw [List.all_eq_true, List.all_eq_true]
  constructor
  · intro h j hj
    have hj' := List.mem_range.1 hj
    show keptB _ (askM _ _ _) = true
    unfold askM
    rw [kept_ask, hw j hj', Bool.true_and, List.all_eq_true]
    intro r hr
    obtain ⟨h1, h2⟩ := List.mem_filter.1 hr
    have h3 := h r h1
    unfold ioR at h3
    rw [h2, Bool.not_true, Bool.false_or, List.all_eq_true] at h3
    exact h3 j hj
  · intro h r hr
    unfold ioR
    by_cases hp : r.path = path
    · rw [decide_eq_true hp, Bool.not_true, Bool.false_or, List.all_eq_true]
      intro j hj
      have h1 := h j hj
      unfold askM at h1
      rw [kept_ask, Bool.and_eq_true, List.all_eq_true] at h1
      exact h1.2 r (List.mem_filter.2 ⟨hr, decide_eq_true hp⟩)
    · rw [decide_eq_false hp]; rfl
theorem kept_wide {s : Sk} {h : Hr} (hi : insB s h = true) (hv : hrB h = true) : keptB s wideL = true := by
  unfold insB inI at hi
  unfold hrB spB at hv
  unfold keptB inI wideL
  simp only [Bool.and_eq_true, decide_eq_true_eq] at *
  omega
structure ClosedOk (f : List (List Hr)) (seen : List Sg) (skies : List Sk) (rs : List Rl) : Prop where
  len : skies.length = hoursN f
  sure : ∀ (path : Int) (op : Nat), op < hoursN f → isInM op (sureM (forP rs path) (scsM seen f) (hoursN f)) = true → isOpB rs skies path op = true
  may : ∀ (path : Int) (op : Nat), op < hoursN f → isOpB rs skies path op = true → isInM op (mayM (forP rs path) (scsM seen f) (hoursN f)) = true
  safe : ∀ (path : Int) (os : List (Int × Int)) (op t : Nat), op < hoursN f → 60 * op ≤ t → t < 60 * op + 60 → isInM t (safeM (forP rs path) (scsM seen f) (hoursN f) os) = true → isOpB rs skies path op = true ∧ isInM t os = true
theorem isIn_take {x : Int} {k : Nat} {l : List (Int × Int)} (h : isInM x (l.take k) = true) : isInM x l = true := by
  unfold isInM at *
  rw [List.any_eq_true] at *
  obtain ⟨s, hs, hx⟩ := h
  exact ⟨s, List.mem_of_mem_take hs, hx⟩
theorem closed_ok {f : List (List Hr)} {seen : List Sg} {skies : List Sk} (rs : List Rl) (hfc : fcB f = true) (hsg : sgsB (hoursN f) seen = true) (hw : weaB f seen skies = true) : ClosedOk f seen skies rs := by
  obtain ⟨hlen, hs, hm, hl, hin⟩ := wea_scen hfc hw
  have hv := scs_hr hfc hsg hm
  have hwd : ∀ j, j < hoursN f → keptB (skies.getD j zeroSk) wideL = true := fun j hj => kept_wide (hin j hj) (hv j hj)
  have hsure : ∀ (path : Int) (op : Nat), op < hoursN f → isInM op (sureM (forP rs path) (scsM seen f) (hoursN f)) = true → isOpB rs skies path op = true := fun path op hop h => by
    unfold sureM at h
    rw [spans_at _ _ _ hop] at h
    have h1 := List.all_eq_true.1 h hs hm
    unfold isOpenM at h1
    rw [isOp_ask rs skies path op (fun j hj => hwd j (by omega)), List.all_eq_true]
    intro j hj
    exact sur_kept (hin j (by have := List.mem_range.1 hj; omega)) (List.all_eq_true.1 h1 j hj)
  refine ⟨hlen, hsure, fun path op hop h => ?_, fun path os op t hop h1 h2 h => ?_⟩
  · unfold mayM
    rw [spans_at _ _ _ hop]
    refine List.any_eq_true.2 ⟨hs, hm, ?_⟩
    rw [isOp_ask rs skies path op (fun j hj => hwd j (by omega)), List.all_eq_true] at h
    unfold isOpenM
    refine List.all_eq_true.2 fun j hj => ?_
    exact kept_may (hin j (by have := List.mem_range.1 hj; omega)) (h j hj)
  · unfold safeM at h
    by_cases he : forP rs path = []
    · rw [if_pos he] at h
      refine ⟨?_, h⟩
      rw [isOp_ask rs skies path op (fun j hj => hwd j (by omega)), List.all_eq_true]
      intro j hj
      rw [he]
      exact hwd j (by have := List.mem_range.1 hj; omega)
    · rw [if_neg he] at h
      have h3 := isIn_take h
      rw [spans_at _ _ _ (by omega), Bool.and_eq_true] at h3
      obtain ⟨h4, h5⟩ := h3
      rw [show t / 60 = op by omega] at h5
      exact ⟨hsure path op hop h5, h4⟩
theorem safeM_len (rs : List Rl) (ss : List (List Hr)) (n : Nat) (os : List (Int × Int)) (h : os.length ≤ 6) : (safeM rs ss n os).length ≤ 6 := by
  unfold safeM
  split
  · exact h
  · exact List.length_take_le _ _
theorem opnE_zero {f : List (List Hr)} {seen : List Sg} {m : Int} {ps : List Pt} {rs : List Rl} (h : safE f seen m ps rs = 0) (i : Nat) (hi : i < ps.length) : opnE f seen m ps rs i = 0 := by
  obtain ⟨h0, hn⟩ := begM_zero h
  obtain ⟨h1, h0⟩ := orM_zero h0
  obtain ⟨h2, h0⟩ := orM_zero h0
  obtain ⟨h3, h0⟩ := orM_zero h0
  obtain ⟨h4, _⟩ := orM_zero h0
  have h5 : paE ps.length i = 0 := by
    unfold paE inI unlessM
    rw [decide_eq_true (show (0 : Int) ≤ (i : Int) by omega), decide_eq_true (show (i : Int) ≤ (ps.length : Int) - 1 by omega)]
    rfl
  unfold opnE begM
  rw [h1, h2, h3, h4, h5, if_pos (show orM [0, 0, 0, 0, 0] = 0 from rfl), if_neg hn]
end Go.Proofs.YtecamnhnjmldcaaGreatDoor
/- Far: what it says of a net if it says no. -/
set_option linter.unusedSimpArgs false
set_option linter.unusedVariables false
namespace Go.Proofs.YtecamnhnjmldcaaGreatDoor
open Go.RowKit
theorem PathsAt.at_ {w : World} {A : Option Addr} {ps : List Pt} {n k : Nat} (hp : PathsAt w A ps) (hn : ps.length = n) (hk : k < n) : ∃ b off A' c', A = some ⟨b, off, none⟩ ∧ b < w.heap.size ∧ PtAt w b (off + k * 8) (ps.getD k zeroPt) A' c' := by
  obtain ⟨b, off, h1, h2, h3⟩ := hp (by rintro rfl; simp at hn; omega)
  obtain ⟨A', c', h⟩ := h3 k (by omega)
  exact ⟨b, off, A', c', h1, h2, h⟩
/-- A net that is not far. -/
def NearOk (m : Int) (ps : List Pt) : Prop := ps.length ≤ 26 ∧ ∀ k, k < ps.length → (ps.getD k zeroPt).opens.length ≤ 8
set_option maxRecDepth 100000 in
set_option maxHeartbeats 1000000 in
theorem far2_any (m : Int) (A : Option Addr) (n c : Nat) (ps : List Pt) (hn : ps.length = n) (w : World) (hp : PathsAt w A ps) :
    Calls Tryz.prog 57 #[.agg #[.int .i64 m, .slice A n c]] w fun e w' => (∃ B, e = .returned (.bool B) ∧ (B = false → NearOk m ps)) ∧ Ext w w' := by
  have HC := hid (fun (W : World) (hW : Ext w W) => rNetChk_any m A n c ps hn W (hp.ext hW))
  have HP := hid hp
  have HN := hid hn
  clear hp hn
  by_cases h1 : n ≤ 26
  case neg =>
    go_enter Tryz.func57, Tryz.ntmps57
    go_wp2
    go_ret
    exact ⟨⟨_, rfl, fun h => by cases h⟩, by (repeat' (first | with_reducible assumption | with_reducible exact Ext.refl _ | with_reducible refine Ext.alloc ?_ _ | with_reducible refine Ext.set ?_ ?_ _ | with_reducible refine Ext.drew ?_ | with_reducible refine Ext.drewN ?_ _ | with_reducible refine Ext.trans ?_ (by assumption) | (dsimp only; omega)))⟩
  have B0 := hid (heap_alloc_new w (.cells #[.int .i64 m, .slice A n c] 47))
  revert HC
  generalize checkE m ps = ce
  intro HC
  go_enter Tryz.func57, Tryz.ntmps57
  go_wp2
  go_loopw [3] (fun i wr => Ext w wr ∧ Hid (wr.heap[w.heap.size]? = some (.cells #[.int .i64 m, .slice A n c] 47 (0, 0))) ∧ ∃ k : Nat, k ≤ n ∧ i = .int .i64 k ∧ Hid (∀ j, j < k → (ps.getD j zeroPt).opens.length ≤ 8)) (fun i _ => n - (intOf i).toNat)
  case atStart => exact ⟨by (repeat' (first | with_reducible assumption | with_reducible exact Ext.refl _ | with_reducible refine Ext.alloc ?_ _ | with_reducible refine Ext.set ?_ ?_ _ | with_reducible refine Ext.drew ?_ | with_reducible refine Ext.drewN ?_ _ | with_reducible refine Ext.trans ?_ (by assumption) | (dsimp only; omega))), B0, 0, Nat.zero_le _, rfl, hid (fun j hj => by omega)⟩
  case round =>
    clear B0
    obtain ⟨hE, HB, k, hk, rfl, HJ⟩ := hrel
    have c0 := blk_cell HB.out 0
    have c1 := blk_cell HB.out 1
    have hs := (Array.getElem?_eq_some_iff.1 HB.out).1
    simp only [List.getElem?_toArray, List.getElem?_cons_zero, List.getElem?_cons_succ] at c0 c1
    by_cases hlt : k < n
    · obtain ⟨b, off, A', c', rfl, hb, hpt⟩ := (HP.out.ext hE).at_ HN.out hlt
      have hk0 : (0 : Int) ≤ (k : Int) := by omega
      have hk1 : (k : Int) < (n : Int) := by omega
      have HJ2 := hid (fun (h : (ps.getD k zeroPt).opens.length ≤ 8) => (show ∀ j, j < k + 1 → (ps.getD j zeroPt).opens.length ≤ 8 from fun j hj => by
        by_cases hjk : j < k
        · exact HJ.out j hjk
        · obtain rfl : j = k := by omega
          exact h))
      obtain ⟨p, hpq⟩ : ∃ p, ps.getD k zeroPt = p := ⟨_, rfl⟩
      rw [hpq] at hpt HJ2
      clear hpq
      obtain ⟨d0, d1, d2, d3, d4, d5, d6, d7, hcap, hop⟩ := hpt
      obtain ⟨f, d, g, tl, th, sl, sh, os⟩ := p
      dsimp only at d0 d1 d2 d3 d4 d5 d6 d7 hcap hop HJ2
      clear hop hcap
      by_cases h8 : os.length ≤ 8
      · have HJ3 := hid (HJ2.out h8)
        go_wp2
        go_roundw
        case rel => exact ⟨hE, HB, k + 1, by omega, by go_num, HJ3⟩
        case measure => simp [intOf]; omega
      · go_wp2
        go_ret
        exact ⟨⟨_, rfl, fun h => by first | (cases h; done) | (simp at h; omega)⟩, hE⟩
    · have HNR := hid (show NearOk m ps from ⟨by have := HN.out; omega, fun j hj => HJ.out j (by have := HN.out; omega)⟩)
      by_cases hce : ce = 0
      · subst hce
        by_cases h6 : 6 < m
        · go_wp2_with fail
          refine (HC.out _ hE).mono ?_
          rintro e w2 ⟨rfl, hE2⟩
          have HB2 := hid (blk_ext HB.out hE2)
          have hE3 := hE.trans hE2
          clear c0 c1 hE2 HB hs
          have c0 := blk_cell HB2.out 0
          have c1 := blk_cell HB2.out 1
          have hs := (Array.getElem?_eq_some_iff.1 HB2.out).1
          simp only [List.getElem?_toArray, List.getElem?_cons_zero, List.getElem?_cons_succ] at c0 c1
          go_wp2
          go_ret
          exact ⟨⟨_, rfl, fun _ => HNR.out⟩, hE3⟩
        · by_cases h10 : 10 < n
          · go_wp2_with fail
            refine (HC.out _ hE).mono ?_
            rintro e w2 ⟨rfl, hE2⟩
            have HB2 := hid (blk_ext HB.out hE2)
            have hE3 := hE.trans hE2
            clear c0 c1 hE2 HB hs
            have c0 := blk_cell HB2.out 0
            have c1 := blk_cell HB2.out 1
            have hs := (Array.getElem?_eq_some_iff.1 HB2.out).1
            simp only [List.getElem?_toArray, List.getElem?_cons_zero, List.getElem?_cons_succ] at c0 c1
            go_wp2
            go_ret
            exact ⟨⟨_, rfl, fun _ => HNR.out⟩, hE3⟩
          · go_wp2_with fail
            refine (HC.out _ hE).mono ?_
            rintro e w2 ⟨rfl, hE2⟩
            have HB2 := hid (blk_ext HB.out hE2)
            have hE3 := hE.trans hE2
            clear c0 c1 hE2 HB hs
            have c0 := blk_cell HB2.out 0
            have c1 := blk_cell HB2.out 1
            have hs := (Array.getElem?_eq_some_iff.1 HB2.out).1
            simp only [List.getElem?_toArray, List.getElem?_cons_zero, List.getElem?_cons_succ] at c0 c1
            go_wp2
            go_ret
            exact ⟨⟨_, rfl, fun _ => HNR.out⟩, hE3⟩
      · go_wp2_with fail
        refine (HC.out _ hE).mono ?_
        rintro e w2 ⟨rfl, hE2⟩
        have HB2 := hid (blk_ext HB.out hE2)
        have hE3 := hE.trans hE2
        clear c0 c1 hE2 HB hs
        have c0 := blk_cell HB2.out 0
        have c1 := blk_cell HB2.out 1
        have hs := (Array.getElem?_eq_some_iff.1 HB2.out).1
        simp only [List.getElem?_toArray, List.getElem?_cons_zero, List.getElem?_cons_succ] at c0 c1
        go_wp2
        go_ret
        exact ⟨⟨_, rfl, fun _ => HNR.out⟩, hE3⟩
end Go.Proofs.YtecamnhnjmldcaaGreatDoor
/- FarRules: what it says of a net and rules if it says no. -/
set_option linter.unusedSimpArgs false
set_option linter.unusedVariables false
namespace Go.Proofs.YtecamnhnjmldcaaGreatDoor
open Go.RowKit
set_option maxHeartbeats 2000000 in
set_option maxRecDepth 100000 in
theorem lfarRules_any (m : Int) (ps : List Pt) (NA : Option Addr) (nn nc : Nat) (hpn : ps.length = nn) (RA : Option Addr) (rn rc : Nat) (path : Int) (w : World) (hp : PathsAt w NA ps) :
    Calls Tryz.prog 17 #[.agg #[.int .i64 m, .slice NA nn nc, .slice RA rn rc, .int .i64 path]] w fun e w' => (∃ B, e = .returned (.bool B) ∧ (B = false → NearOk m ps ∧ rn ≤ 14)) ∧ Ext w w' := by
  have HF := hid (fun (W : World) (hW : Ext w W) => far2_any m NA nn nc ps hpn W (hp.ext hW))
  have B0 := hid (show Blk _ _ _ _ from blk_last w (.cells #[.int .i64 m, .slice NA nn nc, .slice RA rn rc, .int .i64 path] 50))
  clear hp
  go_enter Tryz.func17, Tryz.ntmps17
  go_wp2_with fail
  refine (HF.out _ (by (repeat' (first | with_reducible assumption | with_reducible exact Ext.refl _ | with_reducible refine Ext.alloc ?_ _ | with_reducible refine Ext.set ?_ ?_ _ | with_reducible refine Ext.drew ?_ | with_reducible refine Ext.drewN ?_ _ | with_reducible refine Ext.trans ?_ (by assumption) | (dsimp only; omega))))).mono ?_
  rintro e w2 ⟨⟨B, rfl, hB⟩, hE⟩
  have E : Ext w w2 := by (repeat' (first | with_reducible assumption | with_reducible exact Ext.refl _ | with_reducible refine Ext.alloc ?_ _ | with_reducible refine Ext.set ?_ ?_ _ | with_reducible refine Ext.drew ?_ | with_reducible refine Ext.drewN ?_ _ | with_reducible refine Ext.trans ?_ (by assumption) | (dsimp only; omega)))
  have K0 := hid (B0.out.ext hE)
  obtain ⟨a0, a1, a2, a3⟩ : _ ∧ _ ∧ _ ∧ _ := ⟨K0.out.cell 0, K0.out.cell 1, K0.out.cell 2, K0.out.cell 3⟩
  have z0 := K0.out.lt
  simp only [List.getElem?_toArray, List.getElem?_cons_zero, List.getElem?_cons_succ] at a0 a1 a2 a3
  have HB := hid hB
  clear hB HF B0 hE
  cases B
  · by_cases h14 : rn ≤ 14
    · have hd : decide ((14 : Int) < (rn : Int)) = false := decide_eq_false (by omega)
      go_wp2
      go_ret
      exact ⟨⟨_, rfl, fun _ => ⟨HB.out (by first | rfl | trivial), h14⟩⟩, E⟩
    · go_wp2
      go_ret
      exact ⟨⟨_, rfl, fun h => by first | (cases h; done) | (simp at h; omega)⟩, E⟩
  · go_wp2
    go_ret
    exact ⟨⟨_, rfl, fun h => by cases h⟩, E⟩
end Go.Proofs.YtecamnhnjmldcaaGreatDoor
/- inside: an hour in some spans. -/
set_option linter.unusedSimpArgs false
set_option linter.unusedVariables false
namespace Go.Proofs.YtecamnhnjmldcaaGreatDoor
open Go.RowKit
set_option maxHeartbeats 2000000 in
set_option maxRecDepth 100000 in
theorem linside_any (l : List (Int × Int)) (A : Option Addr) (n c : Nat) (hn : l.length = n) (hm : n ≤ 10000) (x : Int) (w : World) (hx : OpensAt w A l) :
    Calls Tryz.prog 27 #[.slice A n c, .int .i64 x] w fun e w' => e = .returned (.bool (isInM x l)) ∧ w' = w := by
  have HX := hid hx
  have HN := hid hn
  have HS := hid (fun k hk => any_take_snoc l (fun s => inI x s.1 s.2) (0, 0) k hk)
  have HY := hid (fun k hk hp => any_of_at l (fun s => inI x s.1 s.2) (0, 0) k hk hp)
  have HE := hid (fun k (h : (l.take k).any (fun s => inI x s.1 s.2) = false) hk => any_false_end h hk)
  have HR := hid (show isInM x l = l.any (fun s => inI x s.1 s.2) from rfl)
  obtain ⟨R, hR⟩ : ∃ R, isInM x l = R := ⟨_, rfl⟩
  rw [hR] at HR ⊢
  clear hx hn hR
  go_enter Tryz.func27, Tryz.ntmps27
  go_wp2
  go_loop [5] (fun i => ∃ k : Nat, k ≤ n ∧ i = .int .i64 k ∧ Hid ((l.take k).any (fun s => inI x s.1 s.2) = false)) (fun i => n - (intOf i).toNat)
  case atStart => exact ⟨0, Nat.zero_le _, rfl, hid rfl⟩
  case round =>
    obtain ⟨k, hk, rfl, HA⟩ := hrel
    by_cases hlt : k < n
    · obtain ⟨b, off, rfl, hb, c0, c1⟩ := HX.out.at_ HN.out hlt
      have HS1 := hid (HS.out k (by rw [HN.out]; exact hlt))
      have HY1 := hid (HY.out k (by rw [HN.out]; exact hlt))
      generalize l.getD k (0, 0) = s at *
      obtain ⟨lo, hi⟩ := s
      dsimp only at *
      unfold inI at HS1 HY1
      clear HS HY HE HX
      by_cases h1 : lo ≤ x
      · by_cases h2 : x ≤ hi
        · have HRR := hid (HR.out.trans (HY1.out (by simp [h1, h2])))
          clear HS1 HY1 HR HA
          go_wp2
          go_ret
          exact ⟨ret_bool HRR.out.symm, rfl⟩
        · have HN2 := hid (show (l.take (k + 1)).any (fun s => inI x s.1 s.2) = false from HS1.out.trans (by rw [show ((l.take k).any fun s => decide (s.1 ≤ x) && decide (x ≤ s.2)) = false from HA.out]; simp [h2]))
          clear HS1 HY1 HR HA
          go_wp2
          go_round
          case rel => exact ⟨k + 1, by omega, by go_num, HN2⟩
          case measure => simp [intOf]; omega
      · have HN2 := hid (show (l.take (k + 1)).any (fun s => inI x s.1 s.2) = false from HS1.out.trans (by rw [show ((l.take k).any fun s => decide (s.1 ≤ x) && decide (x ≤ s.2)) = false from HA.out]; simp [h1]))
        clear HS1 HY1 HR HA
        go_wp2
        go_round
        case rel => exact ⟨k + 1, by omega, by go_num, HN2⟩
        case measure => simp [intOf]; omega
    · obtain rfl : k = n := by omega
      have HRR := hid (HR.out.trans (HE.out k HA.out (by rw [HN.out]; exact Nat.le_refl _)))
      clear HS HY HE HR HA HX
      go_wp2
      go_ret
      exact ⟨ret_bool HRR.out.symm, rfl⟩
end Go.Proofs.YtecamnhnjmldcaaGreatDoor
