/- tie: a rope for each guide who has clients. -/
import Derived.Test.YtggggnjibedgaaaGreatB04
import Derived.Test.YtggggnjibedgaaaGreatB01
set_option linter.unusedSimpArgs false
set_option linter.unusedVariables false
namespace Go.Proofs.YtggggnjibedgaaaGreat
open Go.RowKit
theorem fitS_lt (o : Ou) : ∀ x ∈ fitS o, x < o.ros.length := fun x hx => by
  have := sortM_mem _ _ _ _ hx
  unfold fitL at this
  exact List.mem_range.1 (List.mem_filter.1 this).1
theorem ordG_mem (n : Nat) (gs : List Nat) : ∀ g ∈ ordG n gs, g < n := fun g hg => by
  have := sortM_mem _ _ _ _ hg
  exact List.mem_range.1 (List.mem_filter.1 this).1
/-- Whether the first k guides have ropes that are long enough. -/
def okK (o : Ou) (gs or ft : List Nat) (k : Nat) : Bool := (List.range k).all fun i => decide (o.spc * cntN gs (or.getD i 0) ≤ lenR o (ft.getD i 0))
theorem okK_succ (o : Ou) (gs or ft : List Nat) (k : Nat) : okK o gs or ft (k + 1) = (okK o gs or ft k && decide (o.spc * cntN gs (or.getD k 0) ≤ lenR o (ft.getD k 0))) := by
  unfold okK; rw [List.range_succ, List.all_append]; simp
theorem okK_bad (o : Ou) (gs or ft : List Nat) (k : Nat) (h : k < or.length) (hb : ¬ o.spc * cntN gs (or.getD k 0) ≤ lenR o (ft.getD k 0)) : okK o gs or ft or.length = false := by
  unfold okK
  rw [List.all_eq_false]
  exact ⟨k, List.mem_range.2 h, by simpa using hb⟩
/-- The ropes that the first k guides of the order have. -/
def ropK (n : Nat) (or ft : List Nat) (k : Nat) : List Int := (List.range n).map fun g => if (or.take k).contains g then ((ft.getD (or.idxOf g) 0 : Nat) : Int) else -1
theorem ropK_len (n : Nat) (or ft : List Nat) (k : Nat) : (ropK n or ft k).length = n := by unfold ropK; simp
theorem ropK_zero (n : Nat) (or ft : List Nat) : ropK n or ft 0 = List.replicate n (-1) := by
  unfold ropK
  apply List.ext_getElem
  · simp
  · intro i h1 h2
    simp
theorem ordG_nodup (n : Nat) (gs : List Nat) : (ordG n gs).Nodup := (sortM_perm _ _ _).nodup_iff.2 ((List.nodup_range).filter _)
theorem ropK_succ (n : Nat) (or ft : List Nat) (hnd : or.Nodup) (k : Nat) (hk : k < or.length) : ropK n or ft (k + 1) = (ropK n or ft k).set (or.getD k 0) ((ft.getD k 0 : Nat) : Int) := by
  have e : or.getD k 0 = or[k] := by simp [List.getD, List.getElem?_eq_getElem hk]
  rw [e]
  unfold ropK
  apply List.ext_getElem
  · simp
  · intro i h1 h2
    rw [List.getElem_set]
    simp only [List.getElem_map, List.getElem_range]
    rw [List.take_succ_eq_append_getElem hk]
    by_cases hg : or[k] = i
    · subst hg
      have hx : or.idxOf or[k] = k := by rw [List.Nodup.idxOf_getElem hnd]
      have hm : or[k] ∈ or.take (k + 1) := by rw [List.take_succ_eq_append_getElem hk]; exact List.mem_append_right _ (List.mem_singleton.2 rfl)
      rw [← List.take_succ_eq_append_getElem hk]
      simp [hx, hm]
    · rw [if_neg hg]
      have : ((or.take k ++ [or[k]]).contains i) = ((or.take k).contains i) := by
        rw [Bool.eq_iff_iff]
        simp only [List.contains_iff_mem, List.mem_append, List.mem_singleton]
        constructor
        · rintro (h | h)
          · exact h
          · exact absurd h.symm hg
        · exact Or.inl
      rw [this]
theorem tieL_eq (o : Ou) (gs : List Nat) : tieL o gs = if (ordG o.gds.length gs).length ≤ (fitS o).length ∧ okK o gs (ordG o.gds.length gs) (fitS o) (ordG o.gds.length gs).length = true then some (ropK o.gds.length (ordG o.gds.length gs) (fitS o) (ordG o.gds.length gs).length) else none := by
  have h : ropK o.gds.length (ordG o.gds.length gs) (fitS o) (ordG o.gds.length gs).length = (List.range o.gds.length).map fun g => if (ordG o.gds.length gs).contains g then (((fitS o).getD ((ordG o.gds.length gs).idxOf g) 0 : Nat) : Int) else -1 := by
    unfold ropK; rw [List.take_length]
  rw [h]
  rfl
/-- What tie returns. -/
def TieIs (r : Option (List Int)) (w : World) (e : Ending) (w' : World) : Prop :=
  match r with
  | none => e = .returned (.tuple #[.slice none 0 0, .bool false]) ∧ Ext w w'
  | some rs => ∃ b cap, e = .returned (.tuple #[.slice (some ⟨b, 0, none⟩) rs.length cap, .bool true]) ∧ RowI w' b cap rs ∧ Ext w w'
end Go.Proofs.YtggggnjibedgaaaGreat
/- The small functions of package ropes, and of its specification. -/
set_option linter.unusedSimpArgs false
set_option linter.unusedVariables false
namespace Go.Proofs.YtggggnjibedgaaaGreat
open Go.RowKit
set_option maxHeartbeats 400000 in
theorem within_any (a b c : Int) (w : World) :
    Calls Tryz.prog 72 #[.int .i64 a, .int .i64 b, .int .i64 c] w fun e w' => e = .returned (.bool (inI a b c)) ∧ w' = w := by
  unfold inI
  go_enter Tryz.func72, Tryz.ntmps72
  go_wp2
  all_goals (go_ret; exact ⟨ret_bool (by first | (simp [*]; done) | (simp [*]; omega)), rfl⟩)
set_option maxHeartbeats 400000 in
theorem rwithin_any (a b c : Int) (w : World) :
    Calls Tryz.prog 76 #[.int .i64 a, .int .i64 b, .int .i64 c] w fun e w' => e = .returned (.bool (inI a b c)) ∧ w' = w := by
  unfold inI
  go_enter Tryz.func76, Tryz.ntmps76
  go_wp2
  all_goals (go_ret; exact ⟨ret_bool (by first | (simp [*]; done) | (simp [*]; omega)), rfl⟩)
set_option maxHeartbeats 400000 in
theorem spanW_any (s : Sp) (b c : Int) (w : World) :
    Calls Tryz.prog 104 #[s.val, .int .i64 b, .int .i64 c] w fun e w' => e = .returned (.bool (spB s.lo s.hi b c)) ∧ Ext w w' := by
  unfold spB Sp.val
  obtain ⟨l, h⟩ := s
  dsimp only
  go_enter Tryz.func104, Tryz.ntmps104
  go_wp2
  all_goals (go_ret; exact ⟨ret_bool (by first | (simp [*]; done) | (simp [*]; omega)), by (repeat' (first | with_reducible assumption | with_reducible exact Ext.refl _ | with_reducible refine Ext.alloc ?_ _ | with_reducible refine Ext.set ?_ ?_ _ | with_reducible refine Ext.drew ?_ | with_reducible refine Ext.drewN ?_ _ | with_reducible refine Ext.trans ?_ (by assumption) | (dsimp only; omega)))⟩)
set_option maxHeartbeats 400000 in
theorem rspan_any (s : Sp) (b c : Int) (w : World) :
    Calls Tryz.prog 97 #[s.val, .int .i64 b, .int .i64 c] w fun e w' => e = .returned (.bool (spB s.lo s.hi b c)) ∧ Ext w w' := by
  unfold spB Sp.val
  obtain ⟨l, h⟩ := s
  dsimp only
  go_enter Tryz.func97, Tryz.ntmps97
  go_wp2
  all_goals (go_ret; exact ⟨ret_bool (by first | (simp [*]; done) | (simp [*]; omega)), by (repeat' (first | with_reducible assumption | with_reducible exact Ext.refl _ | with_reducible refine Ext.alloc ?_ _ | with_reducible refine Ext.set ?_ ?_ _ | with_reducible refine Ext.drew ?_ | with_reducible refine Ext.drewN ?_ _ | with_reducible refine Ext.trans ?_ (by assumption) | (dsimp only; omega)))⟩)
set_option maxHeartbeats 400000 in
theorem isDay_any (a : Int) (w : World) :
    Calls Tryz.prog 136 #[.int .i64 a] w fun e w' => e = .returned (.bool (inI a 0 99999)) ∧ w' = w := by
  have HU := hid (fun W => within_any a 0 99999 W)
  go_enter Tryz.func136, Tryz.ntmps136
  go_wp2_with (go_at_call 72; refine (HU.out _).mono ?_; rintro e w' ⟨rfl, rfl⟩)
  go_ret
  exact ⟨rfl, rfl⟩
set_option maxHeartbeats 400000 in
theorem isGrade_any (a : Int) (w : World) :
    Calls Tryz.prog 143 #[.int .i64 a] w fun e w' => e = .returned (.bool (inI a 1 6)) ∧ w' = w := by
  have HU := hid (fun W => within_any a 1 6 W)
  go_enter Tryz.func143, Tryz.ntmps143
  go_wp2_with (go_at_call 72; refine (HU.out _).mono ?_; rintro e w' ⟨rfl, rfl⟩)
  go_ret
  exact ⟨rfl, rfl⟩
set_option maxHeartbeats 400000 in
theorem factor_any (h o : Int) (h1 : 0 ≤ h) (h2 : h ≤ 100000) (o1 : 1 ≤ o) (o2 : o ≤ 100000) (w : World) :
    Calls Tryz.prog 100 #[.int .i64 h, .int .i64 o] w fun e w' => e = .returned (.int .i64 (facN h o)) ∧ w' = w := by
  have hq1 : 0 ≤ (100 * h + o - 1) / o := Int.ediv_nonneg (by omega) (by omega)
  have hq2 : (100 * h + o - 1) / o ≤ 100 * h + o - 1 := Int.ediv_le_self _ (by omega)
  have ht : (100 * h + o - 1).tdiv o = (100 * h + o - 1) / o := Int.tdiv_eq_ediv_of_nonneg (by omega)
  unfold facN
  generalize hq : (100 * h + o - 1) / o = q at *
  go_enter Tryz.func100, Tryz.ntmps100
  go_wp2
  all_goals (go_ret; exact ⟨ret_int (by omega), rfl⟩)
end Go.Proofs.YtggggnjibedgaaaGreat
/- all, over points, wears, falls, guides, clients, posts and ropes. -/
set_option linter.unusedSimpArgs false
set_option linter.unusedVariables false
namespace Go.Proofs.YtggggnjibedgaaaGreat
open Go.RowKit
set_option maxRecDepth 100000 in
set_option maxHeartbeats 1000000 in
theorem allSp_any (fn : Nat) (caps : Array Value) (eg : ∀ args w, (callFunc fn args).run Tryz.prog w = .ok (.enter fn args) w) (xs : List Sp) (p : Sp → Bool) (A : Option Addr) (n c : Nat) (hn : xs.length = n) (hm : n ≤ 10000) (w : World) (hx : SpsAt w A xs)
    (hf : ∀ (x : Sp) (W : World), Ext w W → x ∈ xs → Calls Tryz.prog fn (#[x.val] ++ caps) W fun e W' => e = .returned (.bool (p x)) ∧ Ext W W') :
    Calls Tryz.prog 105 #[.slice A n c, .func (.func fn) #[] caps] w fun e w' => e = .returned (.bool (xs.all p)) ∧ Ext w w' := by
  have HFF := hid hf
  have HX := hid hx
  have HN := hid hn
  have HEG := hid eg
  clear hf hx hn eg
  go_enter Tryz.func105, Tryz.ntmps105
  go_wp2
  go_loopw [9] (fun i wr => Ext w wr ∧ ∃ k : Nat, k ≤ n ∧ i = .int .i64 k ∧ (xs.take k).all p = true) (fun i _ => n - (intOf i).toNat)
  case atStart => exact ⟨by (repeat' (first | with_reducible assumption | with_reducible exact Ext.refl _ | with_reducible refine Ext.alloc ?_ _ | with_reducible refine Ext.set ?_ ?_ _ | with_reducible refine Ext.drew ?_ | with_reducible refine Ext.drewN ?_ _ | with_reducible refine Ext.trans ?_ (by assumption) | (dsimp only; omega))), 0, Nat.zero_le _, rfl, rfl⟩
  case round =>
    obtain ⟨hE, k, hk, rfl, ha⟩ := hrel
    have HA := hid ha
    clear ha
    by_cases hlt : k < n
    · obtain ⟨b, off, rfl, hb, hck⟩ := (HX.out.ext hE).at_ HN.out hlt
      have HS := hid (all_take_snoc xs p zeroSp k (by rw [HN.out]; omega))
      have HY := hid (all_of_at xs p zeroSp k (by rw [HN.out]; omega))
      have HM := hid (mem_at xs zeroSp k (by rw [HN.out]; omega))
      clear HX
      generalize xs.getD k zeroSp = x at *
      obtain ⟨c0, c1⟩ := hck
      go_wp2_with fail
      rw [HEG.out]
      refine Calls.mono (HFF.out x _ ?ext HM.out) ?_
      case ext => (repeat' (first | with_reducible assumption | with_reducible exact Ext.refl _ | with_reducible refine Ext.alloc ?_ _ | with_reducible refine Ext.set ?_ ?_ _ | with_reducible refine Ext.drew ?_ | with_reducible refine Ext.drewN ?_ _ | with_reducible refine Ext.trans ?_ (by assumption) | (dsimp only; omega)))
      rintro e w2 ⟨rfl, hE2⟩
      rcases Bool.eq_false_or_eq_true (p x) with hp | hp
      · rw [hp]
        have HP := hid (HS.out.trans (by rw [HA.out, hp]))
        clear hp
        go_wp2
        go_roundw
        case rel => exact ⟨by (repeat' (first | with_reducible assumption | with_reducible exact Ext.refl _ | with_reducible refine Ext.alloc ?_ _ | with_reducible refine Ext.set ?_ ?_ _ | with_reducible refine Ext.drew ?_ | with_reducible refine Ext.drewN ?_ _ | with_reducible refine Ext.trans ?_ (by assumption) | (dsimp only; omega))), k + 1, by omega, by go_num, HP.out⟩
        case measure => simp [intOf]; omega
      · rw [hp]
        have HP := hid (HY.out hp)
        clear hp
        go_wp2
        go_ret
        exact ⟨ret_bool HP.out.symm, by (repeat' (first | with_reducible assumption | with_reducible exact Ext.refl _ | with_reducible refine Ext.alloc ?_ _ | with_reducible refine Ext.set ?_ ?_ _ | with_reducible refine Ext.drew ?_ | with_reducible refine Ext.drewN ?_ _ | with_reducible refine Ext.trans ?_ (by assumption) | (dsimp only; omega)))⟩
    · have HP := hid (all_true_end HA.out (by rw [HN.out]; omega))
      go_wp2
      go_ret
      exact ⟨ret_bool HP.out.symm, by (repeat' (first | with_reducible assumption | with_reducible exact Ext.refl _ | with_reducible refine Ext.alloc ?_ _ | with_reducible refine Ext.set ?_ ?_ _ | with_reducible refine Ext.drew ?_ | with_reducible refine Ext.drewN ?_ _ | with_reducible refine Ext.trans ?_ (by assumption) | (dsimp only; omega)))⟩
set_option maxRecDepth 100000 in
set_option maxHeartbeats 1000000 in
theorem allWr_any (fn : Nat) (caps : Array Value) (eg : ∀ args w, (callFunc fn args).run Tryz.prog w = .ok (.enter fn args) w) (xs : List Wr) (p : Wr → Bool) (A : Option Addr) (n c : Nat) (hn : xs.length = n) (hm : n ≤ 10000) (w : World) (hx : WrsAt w A xs)
    (hf : ∀ (x : Wr) (W : World), Ext w W → x ∈ xs → Calls Tryz.prog fn (#[x.val] ++ caps) W fun e W' => e = .returned (.bool (p x)) ∧ Ext W W') :
    Calls Tryz.prog 132 #[.slice A n c, .func (.func fn) #[] caps] w fun e w' => e = .returned (.bool (xs.all p)) ∧ Ext w w' := by
  have HFF := hid hf
  have HX := hid hx
  have HN := hid hn
  have HEG := hid eg
  clear hf hx hn eg
  go_enter Tryz.func132, Tryz.ntmps132
  go_wp2
  go_loopw [9] (fun i wr => Ext w wr ∧ ∃ k : Nat, k ≤ n ∧ i = .int .i64 k ∧ (xs.take k).all p = true) (fun i _ => n - (intOf i).toNat)
  case atStart => exact ⟨by (repeat' (first | with_reducible assumption | with_reducible exact Ext.refl _ | with_reducible refine Ext.alloc ?_ _ | with_reducible refine Ext.set ?_ ?_ _ | with_reducible refine Ext.drew ?_ | with_reducible refine Ext.drewN ?_ _ | with_reducible refine Ext.trans ?_ (by assumption) | (dsimp only; omega))), 0, Nat.zero_le _, rfl, rfl⟩
  case round =>
    obtain ⟨hE, k, hk, rfl, ha⟩ := hrel
    have HA := hid ha
    clear ha
    by_cases hlt : k < n
    · obtain ⟨b, off, rfl, hb, hck⟩ := (HX.out.ext hE).at_ HN.out hlt
      have HS := hid (all_take_snoc xs p zeroWr k (by rw [HN.out]; omega))
      have HY := hid (all_of_at xs p zeroWr k (by rw [HN.out]; omega))
      have HM := hid (mem_at xs zeroWr k (by rw [HN.out]; omega))
      clear HX
      generalize xs.getD k zeroWr = x at *
      obtain ⟨c0, c1⟩ := hck
      go_wp2_with fail
      rw [HEG.out]
      refine Calls.mono (HFF.out x _ ?ext HM.out) ?_
      case ext => (repeat' (first | with_reducible assumption | with_reducible exact Ext.refl _ | with_reducible refine Ext.alloc ?_ _ | with_reducible refine Ext.set ?_ ?_ _ | with_reducible refine Ext.drew ?_ | with_reducible refine Ext.drewN ?_ _ | with_reducible refine Ext.trans ?_ (by assumption) | (dsimp only; omega)))
      rintro e w2 ⟨rfl, hE2⟩
      rcases Bool.eq_false_or_eq_true (p x) with hp | hp
      · rw [hp]
        have HP := hid (HS.out.trans (by rw [HA.out, hp]))
        clear hp
        go_wp2
        go_roundw
        case rel => exact ⟨by (repeat' (first | with_reducible assumption | with_reducible exact Ext.refl _ | with_reducible refine Ext.alloc ?_ _ | with_reducible refine Ext.set ?_ ?_ _ | with_reducible refine Ext.drew ?_ | with_reducible refine Ext.drewN ?_ _ | with_reducible refine Ext.trans ?_ (by assumption) | (dsimp only; omega))), k + 1, by omega, by go_num, HP.out⟩
        case measure => simp [intOf]; omega
      · rw [hp]
        have HP := hid (HY.out hp)
        clear hp
        go_wp2
        go_ret
        exact ⟨ret_bool HP.out.symm, by (repeat' (first | with_reducible assumption | with_reducible exact Ext.refl _ | with_reducible refine Ext.alloc ?_ _ | with_reducible refine Ext.set ?_ ?_ _ | with_reducible refine Ext.drew ?_ | with_reducible refine Ext.drewN ?_ _ | with_reducible refine Ext.trans ?_ (by assumption) | (dsimp only; omega)))⟩
    · have HP := hid (all_true_end HA.out (by rw [HN.out]; omega))
      go_wp2
      go_ret
      exact ⟨ret_bool HP.out.symm, by (repeat' (first | with_reducible assumption | with_reducible exact Ext.refl _ | with_reducible refine Ext.alloc ?_ _ | with_reducible refine Ext.set ?_ ?_ _ | with_reducible refine Ext.drew ?_ | with_reducible refine Ext.drewN ?_ _ | with_reducible refine Ext.trans ?_ (by assumption) | (dsimp only; omega)))⟩
set_option maxRecDepth 100000 in
set_option maxHeartbeats 1000000 in
theorem allFl_any (fn : Nat) (caps : Array Value) (eg : ∀ args w, (callFunc fn args).run Tryz.prog w = .ok (.enter fn args) w) (xs : List Fl) (p : Fl → Bool) (A : Option Addr) (n c : Nat) (hn : xs.length = n) (hm : n ≤ 10000) (w : World) (hx : FlsAt w A xs)
    (hf : ∀ (x : Fl) (W : World), Ext w W → x ∈ xs → Calls Tryz.prog fn (#[x.val] ++ caps) W fun e W' => e = .returned (.bool (p x)) ∧ Ext W W') :
    Calls Tryz.prog 137 #[.slice A n c, .func (.func fn) #[] caps] w fun e w' => e = .returned (.bool (xs.all p)) ∧ Ext w w' := by
  have HFF := hid hf
  have HX := hid hx
  have HN := hid hn
  have HEG := hid eg
  clear hf hx hn eg
  go_enter Tryz.func137, Tryz.ntmps137
  go_wp2
  go_loopw [9] (fun i wr => Ext w wr ∧ ∃ k : Nat, k ≤ n ∧ i = .int .i64 k ∧ (xs.take k).all p = true) (fun i _ => n - (intOf i).toNat)
  case atStart => exact ⟨by (repeat' (first | with_reducible assumption | with_reducible exact Ext.refl _ | with_reducible refine Ext.alloc ?_ _ | with_reducible refine Ext.set ?_ ?_ _ | with_reducible refine Ext.drew ?_ | with_reducible refine Ext.drewN ?_ _ | with_reducible refine Ext.trans ?_ (by assumption) | (dsimp only; omega))), 0, Nat.zero_le _, rfl, rfl⟩
  case round =>
    obtain ⟨hE, k, hk, rfl, ha⟩ := hrel
    have HA := hid ha
    clear ha
    by_cases hlt : k < n
    · obtain ⟨b, off, rfl, hb, hck⟩ := (HX.out.ext hE).at_ HN.out hlt
      have HS := hid (all_take_snoc xs p zeroFl k (by rw [HN.out]; omega))
      have HY := hid (all_of_at xs p zeroFl k (by rw [HN.out]; omega))
      have HM := hid (mem_at xs zeroFl k (by rw [HN.out]; omega))
      clear HX
      generalize xs.getD k zeroFl = x at *
      obtain ⟨c0, c1, c2, c3, c4⟩ := hck
      go_wp2_with fail
      rw [HEG.out]
      refine Calls.mono (HFF.out x _ ?ext HM.out) ?_
      case ext => (repeat' (first | with_reducible assumption | with_reducible exact Ext.refl _ | with_reducible refine Ext.alloc ?_ _ | with_reducible refine Ext.set ?_ ?_ _ | with_reducible refine Ext.drew ?_ | with_reducible refine Ext.drewN ?_ _ | with_reducible refine Ext.trans ?_ (by assumption) | (dsimp only; omega)))
      rintro e w2 ⟨rfl, hE2⟩
      rcases Bool.eq_false_or_eq_true (p x) with hp | hp
      · rw [hp]
        have HP := hid (HS.out.trans (by rw [HA.out, hp]))
        clear hp
        go_wp2
        go_roundw
        case rel => exact ⟨by (repeat' (first | with_reducible assumption | with_reducible exact Ext.refl _ | with_reducible refine Ext.alloc ?_ _ | with_reducible refine Ext.set ?_ ?_ _ | with_reducible refine Ext.drew ?_ | with_reducible refine Ext.drewN ?_ _ | with_reducible refine Ext.trans ?_ (by assumption) | (dsimp only; omega))), k + 1, by omega, by go_num, HP.out⟩
        case measure => simp [intOf]; omega
      · rw [hp]
        have HP := hid (HY.out hp)
        clear hp
        go_wp2
        go_ret
        exact ⟨ret_bool HP.out.symm, by (repeat' (first | with_reducible assumption | with_reducible exact Ext.refl _ | with_reducible refine Ext.alloc ?_ _ | with_reducible refine Ext.set ?_ ?_ _ | with_reducible refine Ext.drew ?_ | with_reducible refine Ext.drewN ?_ _ | with_reducible refine Ext.trans ?_ (by assumption) | (dsimp only; omega)))⟩
    · have HP := hid (all_true_end HA.out (by rw [HN.out]; omega))
      go_wp2
      go_ret
      exact ⟨ret_bool HP.out.symm, by (repeat' (first | with_reducible assumption | with_reducible exact Ext.refl _ | with_reducible refine Ext.alloc ?_ _ | with_reducible refine Ext.set ?_ ?_ _ | with_reducible refine Ext.drew ?_ | with_reducible refine Ext.drewN ?_ _ | with_reducible refine Ext.trans ?_ (by assumption) | (dsimp only; omega)))⟩
set_option maxRecDepth 100000 in
set_option maxHeartbeats 1000000 in
theorem allGd_any (fn : Nat) (caps : Array Value) (eg : ∀ args w, (callFunc fn args).run Tryz.prog w = .ok (.enter fn args) w) (xs : List Gd) (p : Gd → Bool) (A : Option Addr) (n c : Nat) (hn : xs.length = n) (hm : n ≤ 10000) (w : World) (hx : GdsAt w A xs)
    (hf : ∀ (x : Gd) (W : World), Ext w W → x ∈ xs → Calls Tryz.prog fn (#[x.val] ++ caps) W fun e W' => e = .returned (.bool (p x)) ∧ Ext W W') :
    Calls Tryz.prog 146 #[.slice A n c, .func (.func fn) #[] caps] w fun e w' => e = .returned (.bool (xs.all p)) ∧ Ext w w' := by
  have HFF := hid hf
  have HX := hid hx
  have HN := hid hn
  have HEG := hid eg
  clear hf hx hn eg
  go_enter Tryz.func146, Tryz.ntmps146
  go_wp2
  go_loopw [9] (fun i wr => Ext w wr ∧ ∃ k : Nat, k ≤ n ∧ i = .int .i64 k ∧ (xs.take k).all p = true) (fun i _ => n - (intOf i).toNat)
  case atStart => exact ⟨by (repeat' (first | with_reducible assumption | with_reducible exact Ext.refl _ | with_reducible refine Ext.alloc ?_ _ | with_reducible refine Ext.set ?_ ?_ _ | with_reducible refine Ext.drew ?_ | with_reducible refine Ext.drewN ?_ _ | with_reducible refine Ext.trans ?_ (by assumption) | (dsimp only; omega))), 0, Nat.zero_le _, rfl, rfl⟩
  case round =>
    obtain ⟨hE, k, hk, rfl, ha⟩ := hrel
    have HA := hid ha
    clear ha
    by_cases hlt : k < n
    · obtain ⟨b, off, rfl, hb, hck⟩ := (HX.out.ext hE).at_ HN.out hlt
      have HS := hid (all_take_snoc xs p zeroGd k (by rw [HN.out]; omega))
      have HY := hid (all_of_at xs p zeroGd k (by rw [HN.out]; omega))
      have HM := hid (mem_at xs zeroGd k (by rw [HN.out]; omega))
      clear HX
      generalize xs.getD k zeroGd = x at *
      obtain ⟨c0, c1, c2⟩ := hck
      go_wp2_with fail
      rw [HEG.out]
      refine Calls.mono (HFF.out x _ ?ext HM.out) ?_
      case ext => (repeat' (first | with_reducible assumption | with_reducible exact Ext.refl _ | with_reducible refine Ext.alloc ?_ _ | with_reducible refine Ext.set ?_ ?_ _ | with_reducible refine Ext.drew ?_ | with_reducible refine Ext.drewN ?_ _ | with_reducible refine Ext.trans ?_ (by assumption) | (dsimp only; omega)))
      rintro e w2 ⟨rfl, hE2⟩
      rcases Bool.eq_false_or_eq_true (p x) with hp | hp
      · rw [hp]
        have HP := hid (HS.out.trans (by rw [HA.out, hp]))
        clear hp
        go_wp2
        go_roundw
        case rel => exact ⟨by (repeat' (first | with_reducible assumption | with_reducible exact Ext.refl _ | with_reducible refine Ext.alloc ?_ _ | with_reducible refine Ext.set ?_ ?_ _ | with_reducible refine Ext.drew ?_ | with_reducible refine Ext.drewN ?_ _ | with_reducible refine Ext.trans ?_ (by assumption) | (dsimp only; omega))), k + 1, by omega, by go_num, HP.out⟩
        case measure => simp [intOf]; omega
      · rw [hp]
        have HP := hid (HY.out hp)
        clear hp
        go_wp2
        go_ret
        exact ⟨ret_bool HP.out.symm, by (repeat' (first | with_reducible assumption | with_reducible exact Ext.refl _ | with_reducible refine Ext.alloc ?_ _ | with_reducible refine Ext.set ?_ ?_ _ | with_reducible refine Ext.drew ?_ | with_reducible refine Ext.drewN ?_ _ | with_reducible refine Ext.trans ?_ (by assumption) | (dsimp only; omega)))⟩
    · have HP := hid (all_true_end HA.out (by rw [HN.out]; omega))
      go_wp2
      go_ret
      exact ⟨ret_bool HP.out.symm, by (repeat' (first | with_reducible assumption | with_reducible exact Ext.refl _ | with_reducible refine Ext.alloc ?_ _ | with_reducible refine Ext.set ?_ ?_ _ | with_reducible refine Ext.drew ?_ | with_reducible refine Ext.drewN ?_ _ | with_reducible refine Ext.trans ?_ (by assumption) | (dsimp only; omega)))⟩
set_option maxRecDepth 100000 in
set_option maxHeartbeats 1000000 in
theorem allPo_any (fn : Nat) (caps : Array Value) (eg : ∀ args w, (callFunc fn args).run Tryz.prog w = .ok (.enter fn args) w) (xs : List Po) (p : Po → Bool) (A : Option Addr) (n c : Nat) (hn : xs.length = n) (hm : n ≤ 10000) (w : World) (hx : PosAt w A xs)
    (hf : ∀ (x : Po) (W : World), Ext w W → x ∈ xs → Calls Tryz.prog fn (#[x.val] ++ caps) W fun e W' => e = .returned (.bool (p x)) ∧ Ext W W') :
    Calls Tryz.prog 125 #[.slice A n c, .func (.func fn) #[] caps] w fun e w' => e = .returned (.bool (xs.all p)) ∧ Ext w w' := by
  have HFF := hid hf
  have HX := hid hx
  have HN := hid hn
  have HEG := hid eg
  clear hf hx hn eg
  go_enter Tryz.func125, Tryz.ntmps125
  go_wp2
  go_loopw [9] (fun i wr => Ext w wr ∧ ∃ k : Nat, k ≤ n ∧ i = .int .i64 k ∧ (xs.take k).all p = true) (fun i _ => n - (intOf i).toNat)
  case atStart => exact ⟨by (repeat' (first | with_reducible assumption | with_reducible exact Ext.refl _ | with_reducible refine Ext.alloc ?_ _ | with_reducible refine Ext.set ?_ ?_ _ | with_reducible refine Ext.drew ?_ | with_reducible refine Ext.drewN ?_ _ | with_reducible refine Ext.trans ?_ (by assumption) | (dsimp only; omega))), 0, Nat.zero_le _, rfl, rfl⟩
  case round =>
    obtain ⟨hE, k, hk, rfl, ha⟩ := hrel
    have HA := hid ha
    clear ha
    by_cases hlt : k < n
    · obtain ⟨b, off, rfl, hb, hck⟩ := (HX.out.ext hE).at_ HN.out hlt
      have HS := hid (all_take_snoc xs p zeroPo k (by rw [HN.out]; omega))
      have HY := hid (all_of_at xs p zeroPo k (by rw [HN.out]; omega))
      have HM := hid (mem_at xs zeroPo k (by rw [HN.out]; omega))
      clear HX
      generalize xs.getD k zeroPo = x at *
      obtain ⟨c0, c1, c2⟩ := hck
      go_wp2_with fail
      rw [HEG.out]
      refine Calls.mono (HFF.out x _ ?ext HM.out) ?_
      case ext => (repeat' (first | with_reducible assumption | with_reducible exact Ext.refl _ | with_reducible refine Ext.alloc ?_ _ | with_reducible refine Ext.set ?_ ?_ _ | with_reducible refine Ext.drew ?_ | with_reducible refine Ext.drewN ?_ _ | with_reducible refine Ext.trans ?_ (by assumption) | (dsimp only; omega)))
      rintro e w2 ⟨rfl, hE2⟩
      rcases Bool.eq_false_or_eq_true (p x) with hp | hp
      · rw [hp]
        have HP := hid (HS.out.trans (by rw [HA.out, hp]))
        clear hp
        go_wp2
        go_roundw
        case rel => exact ⟨by (repeat' (first | with_reducible assumption | with_reducible exact Ext.refl _ | with_reducible refine Ext.alloc ?_ _ | with_reducible refine Ext.set ?_ ?_ _ | with_reducible refine Ext.drew ?_ | with_reducible refine Ext.drewN ?_ _ | with_reducible refine Ext.trans ?_ (by assumption) | (dsimp only; omega))), k + 1, by omega, by go_num, HP.out⟩
        case measure => simp [intOf]; omega
      · rw [hp]
        have HP := hid (HY.out hp)
        clear hp
        go_wp2
        go_ret
        exact ⟨ret_bool HP.out.symm, by (repeat' (first | with_reducible assumption | with_reducible exact Ext.refl _ | with_reducible refine Ext.alloc ?_ _ | with_reducible refine Ext.set ?_ ?_ _ | with_reducible refine Ext.drew ?_ | with_reducible refine Ext.drewN ?_ _ | with_reducible refine Ext.trans ?_ (by assumption) | (dsimp only; omega)))⟩
    · have HP := hid (all_true_end HA.out (by rw [HN.out]; omega))
      go_wp2
      go_ret
      exact ⟨ret_bool HP.out.symm, by (repeat' (first | with_reducible assumption | with_reducible exact Ext.refl _ | with_reducible refine Ext.alloc ?_ _ | with_reducible refine Ext.set ?_ ?_ _ | with_reducible refine Ext.drew ?_ | with_reducible refine Ext.drewN ?_ _ | with_reducible refine Ext.trans ?_ (by assumption) | (dsimp only; omega)))⟩
set_option maxRecDepth 100000 in
set_option maxHeartbeats 1000000 in
theorem allIn_any (fn : Nat) (caps : Array Value) (eg : ∀ args w, (callFunc fn args).run Tryz.prog w = .ok (.enter fn args) w) (xs : List Int) (p : Int → Bool) (A : Option Addr) (n c : Nat) (hn : xs.length = n) (hm : n ≤ 10000) (w : World) (hx : IntsAt w A xs)
    (hf : ∀ (x : Int) (W : World), Ext w W → x ∈ xs → Calls Tryz.prog fn (#[.int .i64 x] ++ caps) W fun e W' => e = .returned (.bool (p x)) ∧ Ext W W') :
    Calls Tryz.prog 147 #[.slice A n c, .func (.func fn) #[] caps] w fun e w' => e = .returned (.bool (xs.all p)) ∧ Ext w w' := by
  have HFF := hid hf
  have HX := hid hx
  have HN := hid hn
  have HEG := hid eg
  clear hf hx hn eg
  go_enter Tryz.func147, Tryz.ntmps147
  go_wp2
  go_loopw [9] (fun i wr => Ext w wr ∧ ∃ k : Nat, k ≤ n ∧ i = .int .i64 k ∧ (xs.take k).all p = true) (fun i _ => n - (intOf i).toNat)
  case atStart => exact ⟨by (repeat' (first | with_reducible assumption | with_reducible exact Ext.refl _ | with_reducible refine Ext.alloc ?_ _ | with_reducible refine Ext.set ?_ ?_ _ | with_reducible refine Ext.drew ?_ | with_reducible refine Ext.drewN ?_ _ | with_reducible refine Ext.trans ?_ (by assumption) | (dsimp only; omega))), 0, Nat.zero_le _, rfl, rfl⟩
  case round =>
    obtain ⟨hE, k, hk, rfl, ha⟩ := hrel
    have HA := hid ha
    clear ha
    by_cases hlt : k < n
    · obtain ⟨b, off, rfl, hb, hck⟩ := (HX.out.ext hE).at_ HN.out hlt
      have HS := hid (all_take_snoc xs p 0 k (by rw [HN.out]; omega))
      have HY := hid (all_of_at xs p 0 k (by rw [HN.out]; omega))
      have HM := hid (mem_at xs 0 k (by rw [HN.out]; omega))
      clear HX
      generalize xs.getD k 0 = x at *
      obtain c0 := hck
      go_wp2_with fail
      rw [HEG.out]
      refine Calls.mono (HFF.out x _ ?ext HM.out) ?_
      case ext => (repeat' (first | with_reducible assumption | with_reducible exact Ext.refl _ | with_reducible refine Ext.alloc ?_ _ | with_reducible refine Ext.set ?_ ?_ _ | with_reducible refine Ext.drew ?_ | with_reducible refine Ext.drewN ?_ _ | with_reducible refine Ext.trans ?_ (by assumption) | (dsimp only; omega)))
      rintro e w2 ⟨rfl, hE2⟩
      rcases Bool.eq_false_or_eq_true (p x) with hp | hp
      · rw [hp]
        have HP := hid (HS.out.trans (by rw [HA.out, hp]))
        clear hp
        go_wp2
        go_roundw
        case rel => exact ⟨by (repeat' (first | with_reducible assumption | with_reducible exact Ext.refl _ | with_reducible refine Ext.alloc ?_ _ | with_reducible refine Ext.set ?_ ?_ _ | with_reducible refine Ext.drew ?_ | with_reducible refine Ext.drewN ?_ _ | with_reducible refine Ext.trans ?_ (by assumption) | (dsimp only; omega))), k + 1, by omega, by go_num, HP.out⟩
        case measure => simp [intOf]; omega
      · rw [hp]
        have HP := hid (HY.out hp)
        clear hp
        go_wp2
        go_ret
        exact ⟨ret_bool HP.out.symm, by (repeat' (first | with_reducible assumption | with_reducible exact Ext.refl _ | with_reducible refine Ext.alloc ?_ _ | with_reducible refine Ext.set ?_ ?_ _ | with_reducible refine Ext.drew ?_ | with_reducible refine Ext.drewN ?_ _ | with_reducible refine Ext.trans ?_ (by assumption) | (dsimp only; omega)))⟩
    · have HP := hid (all_true_end HA.out (by rw [HN.out]; omega))
      go_wp2
      go_ret
      exact ⟨ret_bool HP.out.symm, by (repeat' (first | with_reducible assumption | with_reducible exact Ext.refl _ | with_reducible refine Ext.alloc ?_ _ | with_reducible refine Ext.set ?_ ?_ _ | with_reducible refine Ext.drew ?_ | with_reducible refine Ext.drewN ?_ _ | with_reducible refine Ext.trans ?_ (by assumption) | (dsimp only; omega)))⟩
set_option maxRecDepth 100000 in
set_option maxHeartbeats 1000000 in
theorem allRo_any (fn : Nat) (caps : Array Value) (eg : ∀ args w, (callFunc fn args).run Tryz.prog w = .ok (.enter fn args) w) (xs : List Ro) (p : Ro → Bool) (A : Option Addr) (n c : Nat) (hn : xs.length = n) (hm : n ≤ 10000) (w : World) (hx : RosAt w A xs)
    (hf : ∀ (x : Ro) (B : Option Addr) (d : Nat) (W : World), Ext w W → x ∈ xs → FlsAt W B x.falls → Calls Tryz.prog fn (#[x.val B d] ++ caps) W fun e W' => e = .returned (.bool (p x)) ∧ Ext W W') :
    Calls Tryz.prog 115 #[.slice A n c, .func (.func fn) #[] caps] w fun e w' => e = .returned (.bool (xs.all p)) ∧ Ext w w' := by
  have HFF := hid hf
  have HX := hid hx
  have HN := hid hn
  have HEG := hid eg
  clear hf hx hn eg
  go_enter Tryz.func115, Tryz.ntmps115
  go_wp2
  go_loopw [9] (fun i wr => Ext w wr ∧ ∃ k : Nat, k ≤ n ∧ i = .int .i64 k ∧ (xs.take k).all p = true) (fun i _ => n - (intOf i).toNat)
  case atStart => exact ⟨by (repeat' (first | with_reducible assumption | with_reducible exact Ext.refl _ | with_reducible refine Ext.alloc ?_ _ | with_reducible refine Ext.set ?_ ?_ _ | with_reducible refine Ext.drew ?_ | with_reducible refine Ext.drewN ?_ _ | with_reducible refine Ext.trans ?_ (by assumption) | (dsimp only; omega))), 0, Nat.zero_le _, rfl, rfl⟩
  case round =>
    obtain ⟨hE, k, hk, rfl, ha⟩ := hrel
    have HA := hid ha
    clear ha
    by_cases hlt : k < n
    · obtain ⟨b, off, rfl, hb, hck⟩ := (HX.out.ext hE).at_ HN.out hlt
      have HS := hid (all_take_snoc xs p zeroRo k (by rw [HN.out]; omega))
      have HY := hid (all_of_at xs p zeroRo k (by rw [HN.out]; omega))
      have HM := hid (mem_at xs zeroRo k (by rw [HN.out]; omega))
      clear HX
      generalize xs.getD k zeroRo = x at *
      obtain ⟨B, d, c0, c1, c2, c3, hcd, hfl⟩ := hck
      have HFL := hid hfl
      have HCD := hid hcd
      clear hfl hcd
      go_wp2_with fail
      rw [HEG.out]
      refine Calls.mono (HFF.out x B d _ ?ext HM.out (HFL.out.ext (by (repeat' (first | with_reducible assumption | with_reducible exact Ext.refl _ | with_reducible refine Ext.alloc ?_ _ | with_reducible refine Ext.set ?_ ?_ _ | with_reducible refine Ext.drew ?_ | with_reducible refine Ext.drewN ?_ _ | with_reducible refine Ext.trans ?_ (by assumption) | (dsimp only; omega)))))) ?_
      case ext => (repeat' (first | with_reducible assumption | with_reducible exact Ext.refl _ | with_reducible refine Ext.alloc ?_ _ | with_reducible refine Ext.set ?_ ?_ _ | with_reducible refine Ext.drew ?_ | with_reducible refine Ext.drewN ?_ _ | with_reducible refine Ext.trans ?_ (by assumption) | (dsimp only; omega)))
      rintro e w2 ⟨rfl, hE2⟩
      rcases Bool.eq_false_or_eq_true (p x) with hp | hp
      · rw [hp]
        have HP := hid (HS.out.trans (by rw [HA.out, hp]))
        clear hp
        go_wp2
        go_roundw
        case rel => exact ⟨by (repeat' (first | with_reducible assumption | with_reducible exact Ext.refl _ | with_reducible refine Ext.alloc ?_ _ | with_reducible refine Ext.set ?_ ?_ _ | with_reducible refine Ext.drew ?_ | with_reducible refine Ext.drewN ?_ _ | with_reducible refine Ext.trans ?_ (by assumption) | (dsimp only; omega))), k + 1, by omega, by go_num, HP.out⟩
        case measure => simp [intOf]; omega
      · rw [hp]
        have HP := hid (HY.out hp)
        clear hp
        go_wp2
        go_ret
        exact ⟨ret_bool HP.out.symm, by (repeat' (first | with_reducible assumption | with_reducible exact Ext.refl _ | with_reducible refine Ext.alloc ?_ _ | with_reducible refine Ext.set ?_ ?_ _ | with_reducible refine Ext.drew ?_ | with_reducible refine Ext.drewN ?_ _ | with_reducible refine Ext.trans ?_ (by assumption) | (dsimp only; omega)))⟩
    · have HP := hid (all_true_end HA.out (by rw [HN.out]; omega))
      go_wp2
      go_ret
      exact ⟨ret_bool HP.out.symm, by (repeat' (first | with_reducible assumption | with_reducible exact Ext.refl _ | with_reducible refine Ext.alloc ?_ _ | with_reducible refine Ext.set ?_ ?_ _ | with_reducible refine Ext.drew ?_ | with_reducible refine Ext.drewN ?_ _ | with_reducible refine Ext.trans ?_ (by assumption) | (dsimp only; omega)))⟩

end Go.Proofs.YtggggnjibedgaaaGreat
