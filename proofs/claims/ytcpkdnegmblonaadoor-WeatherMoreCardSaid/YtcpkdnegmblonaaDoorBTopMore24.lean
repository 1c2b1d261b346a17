/- What holds in each hour of a possible weather (no program). -/
import Derived.Test.YtcpkdnegmblonaaDoorBTopMore22
import Derived.Test.YtcpkdnegmblonaaDoorBTopMore23
import Derived.Test.YtcpkdnegmblonaaDoorB16
import Derived.Test.YtcpkdnegmblonaaDoorB06
import Derived.Test.YtcpkdnegmblonaaDoorB09
import Derived.Test.YtcpkdnegmblonaaDoorB13
set_option linter.unusedSimpArgs false
set_option linter.unusedVariables false
namespace Go.Proofs.YtcpkdnegmblonaaDoor
open Go.RowKit
theorem obsM_all (P : Nat → Hr → Prop) : ∀ (seen : List Sg) (hs : List Hr), (∀ h, h < hs.length → P h (hs.getD h zeroHr)) → (∀ s ∈ seen, s.hour.toNat < hs.length → P s.hour.toNat (justM s)) → ∀ h, h < hs.length → P h ((obsM seen hs).getD h zeroHr)
  | [], hs, h1, _, h, hh => h1 h hh
  | s :: ss, hs, h1, h2, h, hh => by
    have e : obsM (s :: ss) hs = obsM ss (hs.set s.hour.toNat (justM s)) := rfl
    rw [e]
    refine obsM_all P ss _ (fun i hi => ?_) (fun t ht hl => h2 t (by simp [ht]) (by rw [List.length_set] at hl; exact hl)) h (by rw [List.length_set]; exact hh)
    rw [List.length_set] at hi
    by_cases hie : i = s.hour.toNat
    · subst hie
      have e2 : (hs.set s.hour.toNat (justM s)).getD s.hour.toNat zeroHr = justM s := by
        simp [List.getD, List.getElem?_set_self hi]
      rw [e2]
      exact h2 s (by simp) hi
    · have e2 : (hs.set s.hour.toNat (justM s)).getD i zeroHr = hs.getD i zeroHr := by
        have hne : s.hour.toNat ≠ i := fun h => hie h.symm
        simp [List.getD, List.getElem?_set_ne hne]
      rw [e2]
      exact h1 i hi
/-- All hours of the scenarios of an outlook are valid. -/
theorem scs_hr {f : List (List Hr)} {seen : List Sg} (hfc : fcB f = true) (hsg : sgsB (hoursN f) seen = true) {hs : List Hr} (hm : hs ∈ scsM seen f) : ∀ i, i < hoursN f → hrB (hs.getD i zeroHr) = true := by
  unfold scsM at hm
  obtain ⟨y, hy, rfl⟩ := List.mem_map.1 hm
  have hy1 := (List.mem_filter.1 hy).1
  obtain ⟨hl, ha⟩ := (fc_ok hfc).2.2.2.2 y hy1
  intro i hi
  refine obsM_all (fun _ h => hrB h = true) seen y (fun h hh => ?_) (fun s hs _ => ?_) i (by rw [hl]; exact hi)
  · exact List.all_eq_true.1 ha _ (mem_at y zeroHr h hh)
  · unfold sgsB at hsg
    rw [Bool.and_eq_true, List.all_eq_true] at hsg
    have := hsg.2 s hs
    unfold sgB at this
    simp only [Bool.and_eq_true] at this
    exact this.2.2
/-- The spans of what is so: which numbers are in them. -/
theorem spans_in (p : Nat → Bool) : ∀ k, (∀ s ∈ spansM p k, 0 ≤ s.1 ∧ s.1 ≤ s.2 ∧ s.2 < (k : Int)) ∧ ∀ i : Nat, isInM i (spansM p k) = (decide (i < k) && p i)
  | 0 => by
    refine ⟨fun s hs => by simp [spansM] at hs, fun i => ?_⟩
    simp [spansM, isInM]
  | k + 1 => by
    obtain ⟨h1, h2⟩ := spans_in p k
    rw [spansM_step]
    by_cases hp : p k = true
    · rw [if_pos hp]
      have hall : ∀ i : Nat, (decide (i < k + 1) && p i) = (isInM i (spansM p k) || decide (i = k)) := fun i => by
        rw [h2 i]
        by_cases hik : i = k
        · subst hik; simp [hp]
        · rw [decide_eq_false hik, Bool.or_false, show decide (i < k + 1) = decide (i < k) from decide_eq_decide.2 (by omega)]
      generalize spansM p k = acc at *
      unfold spStep
      cases hl : acc.getLast? with
      | none =>
        have hnil : acc = [] := List.getLast?_eq_none_iff.1 hl
        subst hnil
        refine ⟨fun s hs => ?_, fun i => ?_⟩
        · simp at hs; subst hs; dsimp only; omega
        · rw [hall i]
          unfold isInM inI
          rw [Bool.eq_iff_iff]
          simp
          omega
      | some s =>
        obtain ⟨lo, hi⟩ := s
        dsimp only
        obtain ⟨pre, hpre⟩ := List.getLast?_eq_some_iff.1 hl
        subst hpre
        have hlast := h1 (lo, hi) (by simp)
        dsimp only at hlast
        by_cases hj : hi = (k : Int) - 1
        · rw [if_pos hj, List.dropLast_concat]
          refine ⟨fun s hs => ?_, fun i => ?_⟩
          · rcases List.mem_append.1 hs with h | h
            · have := h1 s (List.mem_append_left _ h); omega
            · simp at h; subst h; dsimp only; omega
          · rw [hall i]
            unfold isInM inI
            rw [List.any_append, List.any_append, Bool.eq_iff_iff]
            generalize (pre.any fun s => decide (s.1 ≤ (i : Int)) && decide ((i : Int) ≤ s.2)) = B
            simp only [List.any_cons, List.any_nil, Bool.or_false, Bool.or_eq_true, Bool.and_eq_true, decide_eq_true_eq]
            cases B
            · simp only [Bool.false_eq_true, false_or]; omega
            · simp
        · rw [if_neg hj]
          refine ⟨fun s hs => ?_, fun i => ?_⟩
          · rcases List.mem_append.1 hs with h | h
            · have := h1 s h; omega
            · simp at h; subst h; dsimp only; omega
          · rw [hall i]
            unfold isInM inI
            rw [List.any_append, Bool.eq_iff_iff]
            generalize ((pre ++ [(lo, hi)]).any fun s => decide (s.1 ≤ (i : Int)) && decide ((i : Int) ≤ s.2)) = B
            simp only [List.any_cons, List.any_nil, Bool.or_false, Bool.or_eq_true, Bool.and_eq_true, decide_eq_true_eq]
            cases B
            · simp only [Bool.false_eq_true, false_or]; omega
            · simp
    · rw [if_neg hp]
      refine ⟨fun s hs => by have := h1 s hs; omega, fun i => ?_⟩
      rw [h2 i]
      have hpf : p k = false := by simpa using hp
      by_cases hik : i = k
      · subst hik; simp [hpf]
      · rw [show decide (i < k + 1) = decide (i < k) from decide_eq_decide.2 (by omega)]
theorem spans_at (p : Nat → Bool) (n i : Nat) (hi : i < n) : isInM i (spansM p n) = p i := by
  rw [(spans_in p n).2 i, decide_eq_true hi, Bool.true_and]
theorem ask_one (l : Lm) (hour op : Nat) : askM [⟨0, 0, l⟩] hour op = if op ≤ hour then andL wideL l else wideL := by
  show (if (op : Int) - 0 ≤ (hour : Int) then andL wideL l else wideL) = _
  by_cases h : op ≤ hour
  · rw [if_pos h, if_pos (by omega)]
  · rw [if_neg h, if_neg (by omega)]
theorem sur_and {l : Lm} {h : Hr} (hs : surB (andL wideL l) h = true) : surB l h = true := by
  unfold surB spB andL wideL at hs
  unfold surB spB
  simp only [Bool.and_eq_true, decide_eq_true_eq] at *
  omega
theorem may_wide {h : Hr} (hv : hrB h = true) : mayB wideL h = true := by
  unfold hrB spB at hv
  unfold mayB wideL
  simp only [Bool.and_eq_true, decide_eq_true_eq] at *
  omega
theorem may_and {l : Lm} {h : Hr} (hv : hrB h = true) (hl : lmB l = true) (hm : mayB l h = true) : mayB (andL wideL l) h = true := by
  unfold hrB spB at hv
  unfold lmB inI spB at hl
  unfold mayB at hm
  unfold mayB andL wideL
  simp only [Bool.and_eq_true, decide_eq_true_eq] at *
  omega
theorem sure_one {l : Lm} {ss : List (List Hr)} {n i : Nat} (hi : i < n) (h : isInM i (sureM [⟨0, 0, l⟩] ss n) = true) {hs : List Hr} (hm : hs ∈ ss) : surB l (hs.getD i zeroHr) = true := by
  unfold sureM at h
  rw [spans_at _ _ _ hi] at h
  have h1 := List.all_eq_true.1 h hs hm
  unfold isOpenM at h1
  have h2 := List.all_eq_true.1 h1 i (List.mem_range.2 (by omega))
  rw [ask_one, if_pos (Nat.le_refl _)] at h2
  exact sur_and h2
theorem may_one {l : Lm} {ss : List (List Hr)} {n i : Nat} (hi : i < n) (hl : lmB l = true) {hs : List Hr} (hm : hs ∈ ss) (hv : ∀ j, j < n → hrB (hs.getD j zeroHr) = true) (hk : mayB l (hs.getD i zeroHr) = true) : isInM i (mayM [⟨0, 0, l⟩] ss n) = true := by
  unfold mayM
  rw [spans_at _ _ _ hi]
  refine List.any_eq_true.2 ⟨hs, hm, ?_⟩
  unfold isOpenM
  refine List.all_eq_true.2 fun j hj => ?_
  have hj := List.mem_range.1 hj
  rw [ask_one]
  by_cases h : i ≤ j
  · obtain rfl : j = i := by omega
    rw [if_pos (Nat.le_refl _)]
    exact may_and (hv _ hi) hl hk
  · rw [if_neg h]
    exact may_wide (hv _ (by omega))
/-- All that is in an hour is in another one. -/
def SubH (a b : Hr) : Prop := b.wl ≤ a.wl ∧ a.wh ≤ b.wh ∧ b.rl ≤ a.rl ∧ a.rh ≤ b.rh ∧ b.tl ≤ a.tl ∧ a.th ≤ b.th
end Go.Proofs.YtcpkdnegmblonaaDoor
/- inside: an hour in some spans. -/
set_option linter.unusedSimpArgs false
set_option linter.unusedVariables false
namespace Go.Proofs.YtcpkdnegmblonaaDoor
open Go.RowKit
set_option maxHeartbeats 2000000 in
set_option maxRecDepth 100000 in
theorem linside_any (l : List (Int × Int)) (A : Option Addr) (n c : Nat) (hn : l.length = n) (hm : n ≤ 10000) (x : Int) (w : World) (hx : OpensAt w A l) :
    Calls Tryd.prog 22 #[.slice A n c, .int .i64 x] w fun e w' => e = .returned (.bool (isInM x l)) ∧ w' = w := by
  have HX := hid hx
  have HN := hid hn
  have HS := hid (fun k hk => any_take_snoc l (fun s => inI x s.1 s.2) (0, 0) k hk)
  have HY := hid (fun k hk hp => any_of_at l (fun s => inI x s.1 s.2) (0, 0) k hk hp)
  have HE := hid (fun k (h : (l.take k).any (fun s => inI x s.1 s.2) = false) hk => any_false_end h hk)
  have HR := hid (show isInM x l = l.any (fun s => inI x s.1 s.2) from rfl)
  obtain ⟨R, hR⟩ : ∃ R, isInM x l = R := ⟨_, rfl⟩
  rw [hR] at HR ⊢
  clear hx hn hR
  go_enter Tryd.func22, Tryd.ntmps22
  go_wp2
  go_loop [5] (fun i => ∃ k : Nat, k ≤ n ∧ i = .int .i64 k ∧ Hid ((l.take k).any (fun s => inI x s.1 s.2) = false)) (fun i => n - (intOf i).toNat)
  case atStart => exact ⟨0, Nat.zero_le _, rfl, hid rfl⟩
  case round =>
    obtain ⟨k, hk, rfl, HA⟩ := hrel
    by_cases hlt : k < n
    · obtain ⟨b, off, rfl, hb, c0, c1⟩ := HX.out.at_ HN.out hlt
      have HS1 := hid (HS.out k (by rw [HN.out]; exact hlt))
      have HY1 := hid (HY.out k (by rw [HN.out]; exact hlt))
      generalize l.getD k (0, 0) = s at *
      obtain ⟨lo, hi⟩ := s
      dsimp only at *
      unfold inI at HS1 HY1
      clear HS HY HE HX
      by_cases h1 : lo ≤ x
      · by_cases h2 : x ≤ hi
        · have HRR := hid (HR.out.trans (HY1.out (by simp [h1, h2])))
          clear HS1 HY1 HR HA
          go_wp2
          go_ret
          exact ⟨ret_bool HRR.out.symm, rfl⟩
        · have HN2 := hid (show (l.take (k + 1)).any (fun s => inI x s.1 s.2) = false from HS1.out.trans (by rw [show ((l.take k).any fun s => decide (s.1 ≤ x) && decide (x ≤ s.2)) = false from HA.out]; simp [h2]))
          clear HS1 HY1 HR HA
          go_wp2
          go_round
          case rel => exact ⟨k + 1, by omega, by go_num, HN2⟩
          case measure => simp [intOf]; omega
      · have HN2 := hid (show (l.take (k + 1)).any (fun s => inI x s.1 s.2) = false from HS1.out.trans (by rw [show ((l.take k).any fun s => decide (s.1 ≤ x) && decide (x ≤ s.2)) = false from HA.out]; simp [h1]))
        clear HS1 HY1 HR HA
        go_wp2
        go_round
        case rel => exact ⟨k + 1, by omega, by go_num, HN2⟩
        case measure => simp [intOf]; omega
    · obtain rfl : k = n := by omega
      have HRR := hid (HR.out.trans (HE.out k HA.out (by rw [HN.out]; exact Nat.le_refl _)))
      clear HS HY HE HR HA HX
      go_wp2
      go_ret
      exact ⟨ret_bool HRR.out.symm, rfl⟩
end Go.Proofs.YtcpkdnegmblonaaDoor
/- What a region leaves alone that stores into one block. -/
set_option linter.unusedSimpArgs false
set_option linter.unusedVariables false
namespace Go.Proofs.YtcpkdnegmblonaaDoor
open Go.RowKit
theorem sG {U X : World} (e : Ext U X) (G : Nat) : (∀ b o, b < U.heap.size → ¬ b = G → X.cell? ⟨b, o, none⟩ = U.cell? ⟨b, o, none⟩) ∧ U.heap.size ≤ X.heap.size := ⟨fun _ _ hb _ => e.cell hb, e.size⟩
theorem cell_setCells_other {G : Nat} : ∀ (vs : List Value) (o : Nat) (X : World) (b p : Nat), ¬ b = G → (X.setCells G o vs).cell? ⟨b, p, none⟩ = X.cell? ⟨b, p, none⟩
  | [], _, _, _, _, _ => rfl
  | v :: r, o, X, b, p, h => by
    show ((X.setCell ⟨G, o, none⟩ v).setCells G (o + 1) r).cell? _ = _
    rw [cell_setCells_other r (o + 1) _ b p h]
    exact World.cell?_setCell_other X ⟨G, o, none⟩ ⟨b, p, none⟩ v (fun e => by injection e with e; first | exact h e | exact h e.symm)
theorem size_setCells {G : Nat} : ∀ (vs : List Value) (o : Nat) (X : World), (X.setCells G o vs).heap.size = X.heap.size
  | [], _, _ => rfl
  | v :: r, o, X => by
    show ((X.setCell ⟨G, o, none⟩ v).setCells G (o + 1) r).heap.size = _
    rw [size_setCells r (o + 1)]
    simp
theorem sGs {U X : World} (e : Ext U X) (G o : Nat) (vs : List Value) : (∀ b p, b < U.heap.size → ¬ b = G → (X.setCells G o vs).cell? ⟨b, p, none⟩ = U.cell? ⟨b, p, none⟩) ∧ U.heap.size ≤ (X.setCells G o vs).heap.size :=
  ⟨fun b p hb hn => (cell_setCells_other vs o X b p hn).trans (e.cell hb), by rw [size_setCells]; exact e.size⟩
end Go.Proofs.YtcpkdnegmblonaaDoor
/- wider and within. -/
set_option linter.unusedSimpArgs false
set_option linter.unusedVariables false
namespace Go.Proofs.YtcpkdnegmblonaaDoor
open Go.RowKit
theorem infoLm2 : (Tryd.prog.info? 44).map (·.size) = some 4 := by kernel_rfl
/-- One more observation, and by how much limits are wider. -/
structure Es where
  hour : Int
  sw : Int
  sr : Int
  st : Int
  wind : Int
  rain : Int
  temp : Int
  less : Int
def esCells (y : Es) : Array Value := #[.int .i64 y.hour, .int .i64 y.sw, .int .i64 y.sr, .int .i64 y.st, .int .i64 y.wind, .int .i64 y.rain, .int .i64 y.temp, .int .i64 y.less]
def wideM (l : Lm) (y : Es) : Lm := ⟨min 200 (l.wind + y.wind), min 100 (l.rain + y.rain), max (-50) (l.tl - y.temp), min 50 (l.th + y.temp)⟩
set_option maxRecDepth 100000 in
set_option maxHeartbeats 4000000 in
theorem wider_any (l : Lm) (y : Es) (hl : lmB l = true) (h1 : 0 ≤ y.wind ∧ y.wind ≤ 1000) (h2 : 0 ≤ y.rain ∧ y.rain ≤ 1000) (h3 : 0 ≤ y.temp ∧ y.temp ≤ 1000) (w : World) :
    Calls Tryd.prog 30 #[l.val, .agg (esCells y)] w fun e w' => e = .returned (wideM l y).val ∧ Ext w w' := by
  unfold lmB inI spB at hl
  simp only [Bool.and_eq_true, decide_eq_true_eq] at hl
  obtain ⟨wi, ra, tl, th⟩ := l
  obtain ⟨yh, ys, yr, yt, yw, yn, yp, yl⟩ := y
  unfold wideM Lm.val esCells
  dsimp only at *
  obtain ⟨a1, g1'⟩ : ∃ a, min 200 (wi + yw) = a := ⟨_, rfl⟩
  obtain ⟨a2, g2'⟩ : ∃ a, min 100 (ra + yn) = a := ⟨_, rfl⟩
  obtain ⟨a3, g3'⟩ : ∃ a, max (-50) (tl - yp) = a := ⟨_, rfl⟩
  obtain ⟨a4, g4'⟩ : ∃ a, min 50 (th + yp) = a := ⟨_, rfl⟩
  rw [g1', g2', g3', g4']
  have g1 : (if wi + yw < 200 then wi + yw else 200) = a1 := by rw [← g1']; omega
  have g2 : (if ra + yn < 100 then ra + yn else 100) = a2 := by rw [← g2']; omega
  have g3 : (if -50 < tl - yp then tl - yp else -50) = a3 := by rw [← g3']; omega
  have g4 : (if th + yp < 50 then th + yp else 50) = a4 := by rw [← g4']; omega
  have w1 : IntKind.i64.wrap (wi + yw) = wi + yw := IntWalk.i64_in _ (by omega)
  have w2 : IntKind.i64.wrap (ra + yn) = ra + yn := IntWalk.i64_in _ (by omega)
  have w3 : IntKind.i64.wrap (tl - yp) = tl - yp := IntWalk.i64_in _ (by omega)
  have w4 : IntKind.i64.wrap (th + yp) = th + yp := IntWalk.i64_in _ (by omega)
  have HSP := hid (fun W => lspan_any a3 a4 W)
  clear g1' g2' g3' g4' hl h1 h2 h3
  go_enter Tryd.func30, Tryd.ntmps30
  go_wp2_with fail
  refine wp_abs (fun X => Blk X w.heap.size 44 #[.int .i64 wi, .int .i64 ra, .int .i64 tl, .int .i64 th] ∧ Blk X (w.heap.size + 1) 68 #[.int .i64 yh, .int .i64 ys, .int .i64 yr, .int .i64 yt, .int .i64 yw, .int .i64 yn, .int .i64 yp, .int .i64 yl] ∧ Blk X (w.heap.size + 1 + 1) 44 #[.int .i64 0, .int .i64 0, .int .i64 0, .int .i64 0] ∧ Ext w X) ⟨blk_old (blk_old (blk_last _ _) _) _, ?_, ?_, by (repeat' (first | with_reducible assumption | with_reducible exact Ext.refl _ | with_reducible refine Ext.alloc ?_ _ | with_reducible refine Ext.set ?_ ?_ _ | with_reducible refine Ext.drew ?_ | with_reducible refine Ext.drewN ?_ _ | with_reducible refine Ext.trans ?_ (by assumption) | (dsimp only; omega)))⟩ ?_
  · have := blk_last (w.alloc (.cells #[.int .i64 wi, .int .i64 ra, .int .i64 tl, .int .i64 th] 44)) (.cells #[.int .i64 yh, .int .i64 ys, .int .i64 yr, .int .i64 yt, .int .i64 yw, .int .i64 yn, .int .i64 yp, .int .i64 yl] 68)
    rw [World.size_alloc] at this
    exact blk_old this _
  · have := blk_last ((w.alloc (.cells #[.int .i64 wi, .int .i64 ra, .int .i64 tl, .int .i64 th] 44)).alloc (.cells #[.int .i64 yh, .int .i64 ys, .int .i64 yr, .int .i64 yt, .int .i64 yw, .int .i64 yn, .int .i64 yp, .int .i64 yl] 68)) (.cells #[.int .i64 0, .int .i64 0, .int .i64 0, .int .i64 0] 44)
    rw [World.size_alloc, World.size_alloc] at this
    exact this
  rintro U ⟨b0, b1, b2, HE⟩
  obtain ⟨x0, x1, x2, x3⟩ : _ ∧ _ ∧ _ ∧ _ := ⟨b0.cell 0, b0.cell 1, b0.cell 2, b0.cell 3⟩
  obtain ⟨y4, y5, y6⟩ : _ ∧ _ ∧ _ := ⟨b1.cell 4, b1.cell 5, b1.cell 6⟩
  have z0 := b0.lt
  have z1 := b1.lt
  simp only [List.getElem?_toArray, List.getElem?_cons_zero, List.getElem?_cons_succ] at x0 x1 x2 x3 y4 y5 y6
  have V2 := hid b2
  have HEU := hid HE
  clear b0 b1 b2 HE
  generalize hk2 : w.heap.size + 1 + 1 = k2 at *
  have n0 : ¬ w.heap.size = k2 := by omega
  have n1 : ¬ w.heap.size + 1 = k2 := by omega
  have HK2 := hid hk2
  clear hk2
  refine wp_region_held_drew (S := fun w' => (∀ b o, b < U.heap.size → ¬ b = k2 → w'.cell? ⟨b, o, none⟩ = U.cell? ⟨b, o, none⟩) ∧ U.heap.size ≤ w'.heap.size) (by kernel_rfl) ?hS0 (fun hHeld => ?_)
  case hS0 => exact sG (Ext.drew (Ext.refl _)) _
  have EX : Ext U U.drew := Ext.drew (Ext.refl U)
  replace V2 := hid (show Blk U.drew (k2) 44 #[.int .i64 0, .int .i64 0, .int .i64 0, .int .i64 0] from V2.out.ext EX)
  obtain ⟨X, hX⟩ : ∃ X, U.drew = X := ⟨_, rfl⟩
  rw [hX] at EX hHeld V2 ⊢
  clear hX
  refine wpAnyH_take (i := 0) (oi := _) (v := ?v0a) rfl (by kernel_rfl) (by kernel_rfl) (by kernel_rfl) (fun _ _ _ h => h) (Or.inl ⟨by rfl, ?y0a⟩) (by assumption) ?r0a
  case y0a => (intro w' hSw; (try dsimp only at hSw); go_simp; (try with_reducible rfl))
  try simp only [Act.put, List.getElem_toArray, List.getElem_cons_zero, List.getElem_cons_succ, List.setIfInBounds_toArray, List.set_cons_zero, List.set_cons_succ]
  refine wpAnyH_take (i := 1) (oi := _) (v := ?v1a) rfl (by kernel_rfl) (by kernel_rfl) (by kernel_rfl) (fun _ _ _ h => h) (Or.inl ⟨by rfl, ?y1a⟩) (by assumption) ?r1a
  case y1a => (intro w' hSw; (try dsimp only at hSw); go_simp; (try with_reducible rfl))
  try simp only [Act.put, List.getElem_toArray, List.getElem_cons_zero, List.getElem_cons_succ, List.setIfInBounds_toArray, List.set_cons_zero, List.set_cons_succ]
  refine wpAnyH_take (i := 2) (oi := _) (v := ?v2a) rfl (by kernel_rfl) (by kernel_rfl) (by kernel_rfl) (fun _ _ _ h => h) (Or.inl ⟨by rfl, ?y2a⟩) (by assumption) ?r2a
  case y2a => (intro w' hSw; (try dsimp only at hSw); go_simp; (try with_reducible rfl))
  try simp only [Act.put, List.getElem_toArray, List.getElem_cons_zero, List.getElem_cons_succ, List.setIfInBounds_toArray, List.set_cons_zero, List.set_cons_succ]
  refine wpAnyH_take (i := 3) (oi := _) (v := ?v3a) rfl (by kernel_rfl) (by kernel_rfl) (by kernel_rfl) (fun _ _ _ h => h) (Or.inl ⟨by rfl, ?y3a⟩) (by assumption) ?r3a
  case y3a => (intro w' hSw; (try dsimp only at hSw); go_simp; (try with_reducible rfl))
  try simp only [Act.put, List.getElem_toArray, List.getElem_cons_zero, List.getElem_cons_succ, List.setIfInBounds_toArray, List.set_cons_zero, List.set_cons_succ]
  refine wpAnyH_take (i := 4) (oi := _) (v := ?v4a) rfl (by kernel_rfl) (by kernel_rfl) (by kernel_rfl) (fun _ _ _ h => h) (Or.inl ⟨by rfl, ?y4a⟩) (by assumption) ?r4a
  case y4a => (intro w' hSw; (try dsimp only at hSw); go_simp; (try with_reducible rfl))
  try simp only [Act.put, List.getElem_toArray, List.getElem_cons_zero, List.getElem_cons_succ, List.setIfInBounds_toArray, List.set_cons_zero, List.set_cons_succ]
  refine wpAnyH_take (i := 5) (oi := _) (v := ?v5a) rfl (by kernel_rfl) (by kernel_rfl) (by kernel_rfl) (fun _ _ _ h => h) (Or.inl ⟨by rfl, ?y5a⟩) (by assumption) ?r5a
  case y5a => (intro w' hSw; (try dsimp only at hSw); go_simp; (try with_reducible rfl))
  try simp only [Act.put, List.getElem_toArray, List.getElem_cons_zero, List.getElem_cons_succ, List.setIfInBounds_toArray, List.set_cons_zero, List.set_cons_succ]
  refine wpAnyH_take (i := 6) (oi := _) (v := ?v6a) rfl (by kernel_rfl) (by kernel_rfl) (by kernel_rfl) (fun _ _ _ h => h) (Or.inl ⟨by rfl, ?y6a⟩) (by assumption) ?r6a
  case y6a => (intro w' hSw; (try dsimp only at hSw); go_simp; (try with_reducible rfl))
  try simp only [Act.put, List.getElem_toArray, List.getElem_cons_zero, List.getElem_cons_succ, List.setIfInBounds_toArray, List.set_cons_zero, List.set_cons_succ]
  refine wpAnyH_take (i := 7) (oi := _) (v := ?v7a) rfl (by kernel_rfl) (by kernel_rfl) (by kernel_rfl) (fun _ _ _ h => h) (Or.inl ⟨by rfl, ?y7a⟩) (by assumption) ?r7a
  case y7a => (intro w' hSw; (try dsimp only at hSw); go_simp; (try with_reducible rfl))
  try simp only [Act.put, List.getElem_toArray, List.getElem_cons_zero, List.getElem_cons_succ, List.setIfInBounds_toArray, List.set_cons_zero, List.set_cons_succ]
  refine wpAnyH_take (i := 8) (oi := _) (v := ?v8a) rfl (by kernel_rfl) (by kernel_rfl) (by kernel_rfl) (fun _ _ _ h => h) (Or.inl ⟨by rfl, ?y8a⟩) (by assumption) ?r8a
  case y8a => (intro w' hSw; (try dsimp only at hSw); go_simp; (try with_reducible rfl))
  try simp only [Act.put, List.getElem_toArray, List.getElem_cons_zero, List.getElem_cons_succ, List.setIfInBounds_toArray, List.set_cons_zero, List.set_cons_succ]
  refine wpAnyH_take (i := 9) (oi := _) (v := ?v9a) rfl (by kernel_rfl) (by kernel_rfl) (by kernel_rfl) (fun _ _ _ h => h) (Or.inl ⟨by rfl, ?y9a⟩) (by assumption) ?r9a
  case y9a => (intro w' hSw; (try dsimp only at hSw); go_simp; (try with_reducible rfl))
  try simp only [Act.put, List.getElem_toArray, List.getElem_cons_zero, List.getElem_cons_succ, List.setIfInBounds_toArray, List.set_cons_zero, List.set_cons_succ]
  refine wpAnyH_take (i := 10) (oi := _) (v := ?v10a) rfl (by kernel_rfl) (by kernel_rfl) (by kernel_rfl) (fun _ _ _ h => h) (Or.inl ⟨by rfl, ?y10a⟩) (by assumption) ?r10a
  case y10a => (intro w' hSw; (try dsimp only at hSw); go_simp; (try with_reducible rfl))
  try simp only [Act.put, List.getElem_toArray, List.getElem_cons_zero, List.getElem_cons_succ, List.setIfInBounds_toArray, List.set_cons_zero, List.set_cons_succ]
  refine wpAnyH_take (i := 11) (oi := _) (v := ?v11a) rfl (by kernel_rfl) (by kernel_rfl) (by kernel_rfl) (fun _ _ _ h => h) (Or.inl ⟨by rfl, ?y11a⟩) (by assumption) ?r11a
  case y11a => (intro w' hSw; (try dsimp only at hSw); go_simp; (try with_reducible rfl))
  try simp only [Act.put, List.getElem_toArray, List.getElem_cons_zero, List.getElem_cons_succ, List.setIfInBounds_toArray, List.set_cons_zero, List.set_cons_succ]
  refine wpAnyH_take (i := 12) (oi := _) (v := ?v12a) rfl (by kernel_rfl) (by kernel_rfl) (by kernel_rfl) (fun _ _ _ h => h) (Or.inl ⟨by rfl, ?y12a⟩) (by assumption) ?r12a
  case y12a => (intro w' hSw; (try dsimp only at hSw); go_simp; (try with_reducible rfl))
  try simp only [Act.put, List.getElem_toArray, List.getElem_cons_zero, List.getElem_cons_succ, List.setIfInBounds_toArray, List.set_cons_zero, List.set_cons_succ]
  refine wpAnyH_take (i := 13) (oi := _) (v := ?v13a) rfl (by kernel_rfl) (by kernel_rfl) (by kernel_rfl) (fun _ _ _ h => h) (Or.inl ⟨by rfl, ?y13a⟩) (by assumption) ?r13a
  case y13a => (intro w' hSw; (try dsimp only at hSw); go_simp; (try with_reducible rfl))
  try simp only [Act.put, List.getElem_toArray, List.getElem_cons_zero, List.getElem_cons_succ, List.setIfInBounds_toArray, List.set_cons_zero, List.set_cons_succ]
  refine wpAnyH_take (i := 14) (oi := _) (v := ?v14a) rfl (by kernel_rfl) (by kernel_rfl) (by kernel_rfl) (fun _ _ _ h => h) (Or.inl ⟨by rfl, ?y14a⟩) (by assumption) ?r14a
  case y14a => (intro w' hSw; (try dsimp only at hSw); go_simp; (try with_reducible rfl))
  try simp only [Act.put, List.getElem_toArray, List.getElem_cons_zero, List.getElem_cons_succ, List.setIfInBounds_toArray, List.set_cons_zero, List.set_cons_succ]
  refine wpAnyH_take (i := 15) (oi := _) (v := ?v15a) rfl (by kernel_rfl) (by kernel_rfl) (by kernel_rfl) (fun _ _ _ h => h) (Or.inl ⟨by rfl, ?y15a⟩) (by assumption) ?r15a
  case y15a => (intro w' hSw; (try dsimp only at hSw); go_simp; (try with_reducible rfl))
  try simp only [Act.put, List.getElem_toArray, List.getElem_cons_zero, List.getElem_cons_succ, List.setIfInBounds_toArray, List.set_cons_zero, List.set_cons_succ]
  refine wpAnyH_take (i := 16) (oi := _) (v := ?v16a) rfl (by kernel_rfl) (by kernel_rfl) (by kernel_rfl) (fun _ _ _ h => h) (Or.inl ⟨by rfl, ?y16a⟩) (by assumption) ?r16a
  case y16a => (intro w' hSw; (try dsimp only at hSw); go_simp; (try with_reducible rfl))
  try simp only [Act.put, List.getElem_toArray, List.getElem_cons_zero, List.getElem_cons_succ, List.setIfInBounds_toArray, List.set_cons_zero, List.set_cons_succ]
  refine wpAnyH_take (i := 17) (oi := _) (v := ?v17a) rfl (by kernel_rfl) (by kernel_rfl) (by kernel_rfl) (fun _ _ _ h => h) (Or.inl ⟨by rfl, ?y17a⟩) (by assumption) ?r17a
  case y17a => (intro w' hSw; (try dsimp only at hSw); go_simp; (try with_reducible rfl))
  try simp only [Act.put, List.getElem_toArray, List.getElem_cons_zero, List.getElem_cons_succ, List.setIfInBounds_toArray, List.set_cons_zero, List.set_cons_succ]
  refine wpAnyH_take (i := 18) (oi := _) (v := ?v18a) rfl (by kernel_rfl) (by kernel_rfl) (by kernel_rfl) (fun _ _ _ h => h) (Or.inl ⟨by rfl, ?y18a⟩) (by assumption) ?r18a
  case y18a => (intro w' hSw; (try dsimp only at hSw); go_simp; (try with_reducible rfl))
  try simp only [Act.put, List.getElem_toArray, List.getElem_cons_zero, List.getElem_cons_succ, List.setIfInBounds_toArray, List.set_cons_zero, List.set_cons_succ]
  refine wpAnyH_take (i := 19) (oi := _) (v := ?v19a) rfl (by kernel_rfl) (by kernel_rfl) (by kernel_rfl) (fun _ _ _ h => h) (Or.inl ⟨by rfl, ?y19a⟩) (by assumption) ?r19a
  case y19a => (intro w' hSw; (try dsimp only at hSw); go_simp; (try with_reducible rfl))
  try simp only [Act.put, List.getElem_toArray, List.getElem_cons_zero, List.getElem_cons_succ, List.setIfInBounds_toArray, List.set_cons_zero, List.set_cons_succ]
  refine wpAnyH_take (i := 20) (oi := _) (v := ?v20a) rfl (by kernel_rfl) (by kernel_rfl) (by kernel_rfl) (fun _ _ _ h => h) (Or.inl ⟨by rfl, ?y20a⟩) (by assumption) ?r20a
  case y20a => (intro w' hSw; (try dsimp only at hSw); go_simp; (try with_reducible rfl))
  try simp only [Act.put, List.getElem_toArray, List.getElem_cons_zero, List.getElem_cons_succ, List.setIfInBounds_toArray, List.set_cons_zero, List.set_cons_succ]
  refine wpAnyH_take (i := 21) (oi := _) (v := ?v21a) rfl (by kernel_rfl) (by kernel_rfl) (by kernel_rfl) (fun _ _ _ h => h) (Or.inl ⟨by rfl, ?y21a⟩) (by assumption) ?r21a
  case y21a => (intro w' hSw; (try dsimp only at hSw); go_simp; (try with_reducible rfl))
  try simp only [Act.put, List.getElem_toArray, List.getElem_cons_zero, List.getElem_cons_succ, List.setIfInBounds_toArray, List.set_cons_zero, List.set_cons_succ]
  refine wpAnyH_take (i := 22) (oi := _) (v := ?v22a) rfl (by kernel_rfl) (by kernel_rfl) (by kernel_rfl) (fun _ _ _ h => h) (Or.inl ⟨by rfl, ?y22a⟩) (by assumption) ?r22a
  case y22a => (intro w' hSw; (try dsimp only at hSw); go_simp; (try with_reducible rfl))
  try simp only [Act.put, List.getElem_toArray, List.getElem_cons_zero, List.getElem_cons_succ, List.setIfInBounds_toArray, List.set_cons_zero, List.set_cons_succ]
  refine wpAnyH_take (i := 23) (oi := _) (v := ?v23a) rfl (by kernel_rfl) (by kernel_rfl) (by kernel_rfl) (fun _ _ _ h => h) (Or.inl ⟨by rfl, ?y23a⟩) (by assumption) ?r23a
  case y23a => (intro w' hSw; (try dsimp only at hSw); go_simp; (try with_reducible rfl))
  try simp only [Act.put, List.getElem_toArray, List.getElem_cons_zero, List.getElem_cons_succ, List.setIfInBounds_toArray, List.set_cons_zero, List.set_cons_succ]
  refine wpAnyH_take (i := 24) (oi := _) (v := ?v24a) rfl (by kernel_rfl) (by kernel_rfl) (by kernel_rfl) (fun _ _ _ h => h) (Or.inl ⟨by rfl, ?y24a⟩) (by assumption) ?r24a
  case y24a => (intro w' hSw; (try dsimp only at hSw); go_simp; (try with_reducible rfl))
  try simp only [Act.put, List.getElem_toArray, List.getElem_cons_zero, List.getElem_cons_succ, List.setIfInBounds_toArray, List.set_cons_zero, List.set_cons_succ]
  refine wpAnyH_take (i := 25) (oi := _) (v := ?v25a) rfl (by kernel_rfl) (by kernel_rfl) (by kernel_rfl) (fun _ _ _ h => h) (Or.inl ⟨by rfl, ?y25a⟩) (by assumption) ?r25a
  case y25a => (intro w' hSw; (try dsimp only at hSw); go_simp; (try with_reducible rfl))
  try simp only [Act.put, List.getElem_toArray, List.getElem_cons_zero, List.getElem_cons_succ, List.setIfInBounds_toArray, List.set_cons_zero, List.set_cons_succ]
  refine wpAnyH_ready (rs := [26]) (by kernel_rfl) (by simp) ?_
  refine AllReadyH.cons (o := _) rfl (fun K hK => ?_) AllReadyH.nil
  go_simp
  refine Calls.mono (HSP.out _) ?_
  rintro e X ⟨rfl, hEX⟩
  dsimp only
  replace EX := EX.trans hEX
  replace V2 := hid (V2.out.ext hEX)
  clear hHeld hEX
  refine hK.out _ _ (sG EX _) (fun hHeld => ?_)
  clear hK K
  try simp only [Act.put, List.getElem_toArray, List.getElem_cons_zero, List.getElem_cons_succ, List.setIfInBounds_toArray, List.set_cons_zero, List.set_cons_succ]
  refine wpAnyH_take (i := 27) (oi := _) (v := ?v27b) rfl (by kernel_rfl) (by kernel_rfl) (by kernel_rfl) (fun _ _ _ h => h) (Or.inl ⟨by rfl, ?y27b⟩) (by assumption) ?r27b
  case y27b => (intro w' hSw; (try dsimp only at hSw); go_simp; (try with_reducible rfl))
  try simp only [Act.put, List.getElem_toArray, List.getElem_cons_zero, List.getElem_cons_succ, List.setIfInBounds_toArray, List.set_cons_zero, List.set_cons_succ]
  refine wpAnyH_ready (rs := [28]) (by kernel_rfl) (by simp) ?_
  refine AllReadyH.cons (o := _) rfl (fun K hK => ?_) AllReadyH.nil
  have HO := lm_one a1 a2 a3 a4
  refine wp_store_mid 44 _ _ rfl (k2) 0 #[.int .i64 a1, .int .i64 a2, .int .i64 a3, .int .i64 a4] rfl rfl (blk_there V2.out rfl) infoLm2 HO ?_
  clear hHeld HO
  have R2 := hid (V2.out.fill [.int .i64 a1, .int .i64 a2, .int .i64 a3, .int .i64 a4] 0)
  have RX := hid (ext_setCells (HEU.out.trans EX) (b := k2) (by have := HK2.out; omega) [.int .i64 a1, .int .i64 a2, .int .i64 a3, .int .i64 a4] 0)
  simp only [fillA, List.setIfInBounds_toArray, List.set_cons_zero, List.set_cons_succ] at R2
  refine hK.out _ _ (sGs EX _ _ _) (fun hHeld => ?_)
  clear hK K
  try simp only [Act.put, List.getElem_toArray, List.getElem_cons_zero, List.getElem_cons_succ, List.setIfInBounds_toArray, List.set_cons_zero, List.set_cons_succ]
  refine wpAnyH_done (by kernel_rfl) ?_ _
  clear hHeld
  obtain ⟨r0, r1, r2, r3⟩ : _ ∧ _ ∧ _ ∧ _ := ⟨R2.out.cell 0, R2.out.cell 1, R2.out.cell 2, R2.out.cell 3⟩
  simp only [List.getElem?_toArray, List.getElem?_cons_zero, List.getElem?_cons_succ] at r0 r1 r2 r3
  obtain ⟨Z, hZ⟩ : ∃ Z, World.setCells X (k2) 0 [.int .i64 a1, .int .i64 a2, .int .i64 a3, .int .i64 a4] = Z := ⟨_, rfl⟩
  rw [hZ] at r0 r1 r2 r3 RX
  have hZ2 : World.setCells X (k2) 0 (#[.int .i64 a1, .int .i64 a2, .int .i64 a3, .int .i64 a4] : Array Value).toList = Z := hZ
  first | rw [hZ2] | rw [hZ]
  clear hZ hZ2 g1 g2 g3 g4 w1 w2 w3 w4 HSP x0 x1 x2 x3 y4 y5 y6
  go_wp2
  exact bodyPost_ret (v := .agg #[.int .i64 a1, .int .i64 a2, .int .i64 a3, .int .i64 a4]) (by simp [results, Tryd.results30, go_sem, r0, r1, r2, r3]) rfl ⟨rfl, RX.out⟩
/-- All hours below n in some spans are in other ones. -/
def withB (a b : List (Int × Int)) (n : Nat) : Bool := (List.range n).all fun h => !isInM h a || isInM h b
set_option maxHeartbeats 2000000 in
set_option maxRecDepth 100000 in
theorem lwithin_any (a b : List (Int × Int)) (A B : Option Addr) (n m c d : Nat) (hn : a.length = n) (hm : b.length = m) (hn2 : n ≤ 10000) (hm2 : m ≤ 10000) (N : Nat) (hN : N ≤ 10000) (w : World) (ha : OpensAt w A a) (hb : OpensAt w B b) :
    Calls Tryd.prog 31 #[.slice A n c, .slice B m d, .int .i64 (N : Int)] w fun e w' => e = .returned (.bool (withB a b N)) ∧ w' = w := by
  have HA := hid (fun x => linside_any a A n c hn hn2 x w ha)
  have HB := hid (fun x => linside_any b B m d hm hm2 x w hb)
  have HST := hid (fun k => show (List.range (k + 1)).all (fun h => !isInM h a || isInM h b) = ((List.range k).all (fun h => !isInM h a || isInM h b) && (!isInM k a || isInM k b)) by rw [List.range_succ, List.all_append]; simp)
  have HMI := hid (fun k (hk : k < N) (hp : (!isInM k a || isInM k b) = false) => show (List.range N).all (fun h => !isInM h a || isInM h b) = false by rw [List.all_eq_false]; exact ⟨k, List.mem_range.2 hk, by rw [hp]; decide⟩)
  unfold withB
  clear ha hb hn hm
  generalize hF : (fun k => (List.range k).all (fun h => !isInM h a || isInM h b)) = F
  have hf : ∀ k, (List.range k).all (fun h => !isInM h a || isInM h b) = F k := fun k => by rw [← hF]
  have hF0 : F 0 = true := by rw [← hF]; rfl
  simp only [hf] at HST HMI ⊢
  clear hF hf
  have HF0 := hid hF0
  clear hF0
  go_enter Tryd.func31, Tryd.ntmps31
  go_wp2
  go_loop [7] (fun i => ∃ k : Nat, k ≤ N ∧ i = .int .i64 k ∧ Hid (F k = true)) (fun i => N - (intOf i).toNat)
  case atStart => exact ⟨0, Nat.zero_le _, rfl, HF0⟩
  case round =>
    obtain ⟨k, hk, rfl, HK⟩ := hrel
    by_cases hlt : k < N
    · have HA1 := hid (HA.out k)
      have HB1 := hid (HB.out k)
      have HS1 := hid (HST.out k)
      have HM1 := hid (HMI.out k hlt)
      generalize isInM k a = x at *
      generalize isInM k b = y at *
      clear HA HB HST HMI
      go_wp2_with fail
      refine HA1.out.mono ?_
      rintro e w2 ⟨rfl, hw⟩
      subst hw
      cases x
      · have HN2 := hid (HS1.out.trans (by rw [HK.out] <;> rfl))
        clear HS1 HM1
        go_wp2
        go_round
        case rel => exact ⟨k + 1, by omega, by go_num, HN2⟩
        case measure => simp [intOf]; omega
      · go_wp2_with fail
        refine HB1.out.mono ?_
        rintro e w2 ⟨rfl, hw⟩
        subst hw
        cases y
        · have HR := hid (HM1.out rfl)
          clear HS1 HM1
          go_wp2
          go_ret
          exact ⟨ret_bool HR.out.symm, rfl⟩
        · have HN2 := hid (HS1.out.trans (by rw [HK.out] <;> rfl))
          clear HS1 HM1
          go_wp2
          go_round
          case rel => exact ⟨k + 1, by omega, by go_num, HN2⟩
          case measure => simp [intOf]; omega
    · obtain rfl : k = N := by omega
      go_wp2
      go_ret
      exact ⟨ret_bool HK.out.symm, rfl⟩
end Go.Proofs.YtcpkdnegmblonaaDoor
