/- Windows, rows and scenarios: what their first ones and longest stretches are (no program). -/
import Derived.Test.YtecamnhnjmldcaaGreatDoorB19
import Derived.Test.YtecamnhnjmldcaaGreatDoorB14
import Derived.Test.YtecamnhnjmldcaaGreatDoorB08
set_option linter.unusedSimpArgs false
set_option linter.unusedVariables false
namespace Go.Proofs.YtecamnhnjmldcaaGreatDoor
open Go.RowKit
theorem all_part {α : Type} (xs : List α) (d : α) (p : α → Bool) (i len : Nat) (h : i + len ≤ xs.length) : ((xs.drop i).take len).all p = true ↔ ∀ j, j < len → p (xs.getD (i + j) d) = true := by
  rw [List.all_eq_true]
  constructor
  · intro ha j hj
    refine ha _ ?_
    have hlt : j < ((xs.drop i).take len).length := by rw [List.length_take, List.length_drop]; omega
    have e : ((xs.drop i).take len)[j] = xs.getD (i + j) d := by
      rw [List.getElem_take, List.getElem_drop]
      simp [List.getD, List.getElem?_eq_getElem (show i + j < xs.length by omega)]
    rw [← e]
    exact List.getElem_mem hlt
  · intro ha x hx
    obtain ⟨j, hj, rfl⟩ := List.getElem_of_mem hx
    have hj2 : j < len := by rw [List.length_take] at hj; omega
    rw [List.getElem_take, List.getElem_drop]
    have := ha j hj2
    simpa [List.getD, List.getElem?_eq_getElem (show i + j < xs.length by omega)] using this
/-- A window of hours begins. -/
def WinAt (p : Nat → Bool) (len x : Nat) : Prop := ∀ j, j < len → p (x + j) = true
theorem nextM_spec (kept : Hr → Bool) (len n : Nat) (hs : List Hr) (hlen : 1 ≤ len) (hn : hs.length = n) : ∀ k h, n + 1 ≤ k + h →
    (nextM kept len n hs k h = n ∧ ∀ x, h ≤ x → x + len ≤ n → ¬ WinAt (fun i => kept (hs.getD i zeroHr)) len x) ∨
    (h ≤ nextM kept len n hs k h ∧ nextM kept len n hs k h + len ≤ n ∧ WinAt (fun i => kept (hs.getD i zeroHr)) len (nextM kept len n hs k h) ∧ ∀ x, h ≤ x → x < nextM kept len n hs k h → ¬ WinAt (fun i => kept (hs.getD i zeroHr)) len x)
  | 0, h, hk => .inl ⟨rfl, fun x h1 h2 => by omega⟩
  | k + 1, h, hk => by
    by_cases hlt : n < h + len
    · rw [nextM_out hlt]
      exact .inl ⟨rfl, fun x h1 h2 => by omega⟩
    · have hap := all_part hs zeroHr kept h len (by omega)
      cases ha : ((hs.drop h).take len).all kept
      · rw [nextM_miss hlt ha]
        have hnw : ¬ WinAt (fun i => kept (hs.getD i zeroHr)) len h := fun hw => by
          have := hap.2 hw
          rw [ha] at this; cases this
        rcases nextM_spec kept len n hs hlen hn k (h + 1) (by omega) with ⟨h1, h2⟩ | ⟨h1, h2, h3, h4⟩
        · refine .inl ⟨h1, fun x hx hx2 => ?_⟩
          by_cases hxe : x = h
          · rw [hxe]; exact hnw
          · exact h2 x (by omega) hx2
        · refine .inr ⟨by omega, h2, h3, fun x hx hx2 => ?_⟩
          by_cases hxe : x = h
          · rw [hxe]; exact hnw
          · exact h4 x (by omega) hx2
      · rw [nextM_hit hlt ha]
        exact .inr ⟨Nat.le_refl _, by omega, hap.1 ha, fun x hx hx2 => by omega⟩
theorem nxtM_spec (kept : Hr → Bool) (len n : Nat) (hs : List Hr) (hlen : 1 ≤ len) (hn : hs.length = n) (h : Nat) :
    (nxtM kept len n hs h = n ∧ ∀ x, h ≤ x → x + len ≤ n → ¬ WinAt (fun i => kept (hs.getD i zeroHr)) len x) ∨
    (h ≤ nxtM kept len n hs h ∧ nxtM kept len n hs h + len ≤ n ∧ WinAt (fun i => kept (hs.getD i zeroHr)) len (nxtM kept len n hs h) ∧ ∀ x, h ≤ x → x < nxtM kept len n hs h → ¬ WinAt (fun i => kept (hs.getD i zeroHr)) len x) :=
  nextM_spec kept len n hs hlen hn (n + 1 - h) h (by omega)
theorem begF_spec (l : List Bool) (len : Nat) (hlen : 1 ≤ len) : ∀ k h, l.length + 1 ≤ k + h →
    (begF l len k h = -1 ∧ ∀ x, h ≤ x → x + len ≤ l.length → ¬ WinAt (fun i => l.getD i false) len x) ∨
    (∃ b : Nat, begF l len k h = (b : Int) ∧ h ≤ b ∧ b + len ≤ l.length ∧ WinAt (fun i => l.getD i false) len b ∧ ∀ x, h ≤ x → x < b → ¬ WinAt (fun i => l.getD i false) len x)
  | 0, h, hk => .inl ⟨rfl, fun x h1 h2 => by omega⟩
  | k + 1, h, hk => by
    by_cases hlt : l.length < h + len
    · rw [begF_out hlt]
      exact .inl ⟨rfl, fun x h1 h2 => by omega⟩
    · have hap := all_part l false id h len (by omega)
      cases ha : ((l.drop h).take len).all id
      · rw [begF_miss hlt ha]
        have hnw : ¬ WinAt (fun i => l.getD i false) len h := fun hw => by
          have := hap.2 hw
          rw [ha] at this; cases this
        rcases begF_spec l len hlen k (h + 1) (by omega) with ⟨h1, h2⟩ | ⟨b, h0, h1, h2, h3, h4⟩
        · refine .inl ⟨h1, fun x hx hx2 => ?_⟩
          by_cases hxe : x = h
          · rw [hxe]; exact hnw
          · exact h2 x (by omega) hx2
        · refine .inr ⟨b, h0, by omega, h2, h3, fun x hx hx2 => ?_⟩
          by_cases hxe : x = h
          · rw [hxe]; exact hnw
          · exact h4 x (by omega) hx2
      · rw [begF_hit hlt ha]
        exact .inr ⟨h, rfl, Nat.le_refl _, by omega, hap.1 ha, fun x hx hx2 => by omega⟩
theorem begV_spec (l : List Bool) (len : Nat) (hlen : 1 ≤ len) :
    (begV l len = -1 ∧ ∀ x, x + len ≤ l.length → ¬ WinAt (fun i => l.getD i false) len x) ∨
    (∃ b : Nat, begV l len = (b : Int) ∧ b + len ≤ l.length ∧ WinAt (fun i => l.getD i false) len b ∧ ∀ x, x < b → ¬ WinAt (fun i => l.getD i false) len x) := by
  rcases begF_spec l len hlen (l.length + 1) 0 (by omega) with ⟨h1, h2⟩ | ⟨b, h0, h1, h2, h3, h4⟩
  · exact .inl ⟨h1, fun x hx => h2 x (Nat.zero_le _) hx⟩
  · exact .inr ⟨b, h0, h2, h3, fun x hx => h4 x (Nat.zero_le _) hx⟩
theorem sur_kept {s : Sk} {h : Hr} {l : Lm} (hi : insB s h = true) (hs : surB l h = true) : keptB s l = true := by
  unfold insB inI at hi
  unfold surB spB at hs
  unfold keptB inI
  simp only [Bool.and_eq_true, decide_eq_true_eq] at *
  omega
theorem kept_may {s : Sk} {h : Hr} {l : Lm} (hi : insB s h = true) (hk : keptB s l = true) : mayB l h = true := by
  unfold insB inI at hi
  unfold mayB
  unfold keptB inI at hk
  simp only [Bool.and_eq_true, decide_eq_true_eq] at *
  omega
theorem just_ins (s : Sg) : insB s.sky (justM s) = true := by
  unfold insB justM inI Sg.sky
  simp
theorem obsM_ins (sk : Nat → Sk) : ∀ (seen : List Sg) (hs : List Hr), (∀ h, h < hs.length → insB (sk h) (hs.getD h zeroHr) = true) → (∀ s ∈ seen, s.hour.toNat < hs.length → insB (sk s.hour.toNat) (justM s) = true) → ∀ h, h < hs.length → insB (sk h) ((obsM seen hs).getD h zeroHr) = true
  | [], hs, h1, _, h, hh => h1 h hh
  | s :: ss, hs, h1, h2, h, hh => by
    have e : obsM (s :: ss) hs = obsM ss (hs.set s.hour.toNat (justM s)) := rfl
    rw [e]
    refine obsM_ins sk ss _ (fun i hi => ?_) (fun t ht hl => h2 t (by simp [ht]) (by rw [List.length_set] at hl; exact hl)) h (by rw [List.length_set]; exact hh)
    rw [List.length_set] at hi
    by_cases hie : i = s.hour.toNat
    · subst hie
      have e2 : (hs.set s.hour.toNat (justM s)).getD s.hour.toNat zeroHr = justM s := by
        simp [List.getD, List.getElem?_set_self hi]
      rw [e2]
      exact h2 s (by simp) hi
    · have e2 : (hs.set s.hour.toNat (justM s)).getD i zeroHr = hs.getD i zeroHr := by
        have hne : s.hour.toNat ≠ i := fun h => hie h.symm
        simp [List.getD, List.getElem?_set_ne hne]
      rw [e2]
      exact h1 i hi
/-- A possible weather is one of a scenario. -/
theorem wea_scen {f : List (List Hr)} {seen : List Sg} {skies : List Sk} (hfc : fcB f = true) (h : weaB f seen skies = true) :
    skies.length = hoursN f ∧ ∃ hs ∈ scsM seen f, hs.length = hoursN f ∧ ∀ i, i < hoursN f → insB (skies.getD i zeroSk) (hs.getD i zeroHr) = true := by
  unfold weaB at h
  simp only [Bool.and_eq_true, decide_eq_true_eq] at h
  obtain ⟨h1, h2, h3⟩ := h
  refine ⟨h1, ?_⟩
  obtain ⟨i, hi, h4⟩ := List.any_eq_true.1 h3
  obtain ⟨hi1, hi2⟩ := List.mem_filter.1 hi
  have hil := List.mem_range.1 hi1
  have hm : f.getD i [] ∈ f := mem_at f [] i hil
  have hl : (f.getD i []).length = hoursN f := ((fc_ok hfc).2.2.2.2 _ hm).1
  refine ⟨obsM seen (f.getD i []), ?_, by rw [obsM_len]; exact hl, ?_⟩
  · unfold scsM
    exact List.mem_map.2 ⟨_, List.mem_filter.2 ⟨hm, hi2⟩, rfl⟩
  · intro j hj
    refine obsM_ins (fun k => skies.getD k zeroSk) seen _ (fun k hk => ?_) (fun s hs hl2 => ?_) j (by rw [hl]; exact hj)
    · exact List.all_eq_true.1 h4 k (List.mem_range.2 (by rw [h1, ← hl]; exact hk))
    · have := List.all_eq_true.1 h2 s hs
      rw [decide_eq_true_eq] at this
      rw [this]
      exact just_ins s
theorem foldl_min_le {α : Type} (g : α → Nat) : ∀ (xs : List α) (m : Nat), xs.foldl (fun a x => min a (g x)) m ≤ m ∧ ∀ x ∈ xs, xs.foldl (fun a x => min a (g x)) m ≤ g x
  | [], m => ⟨Nat.le_refl _, fun x h => by simp at h⟩
  | y :: ys, m => by
    have ih := foldl_min_le g ys (min m (g y))
    rw [List.foldl_cons]
    refine ⟨by omega, fun x hx => ?_⟩
    rcases List.mem_cons.1 hx with rfl | hx
    · omega
    · exact ih.2 x hx
theorem foldl_max_ge {α : Type} (g : α → Nat) : ∀ (xs : List α) (m : Nat), m ≤ xs.foldl (fun a x => max a (g x)) m ∧ ∀ x ∈ xs, g x ≤ xs.foldl (fun a x => max a (g x)) m
  | [], m => ⟨Nat.le_refl _, fun x h => by simp at h⟩
  | y :: ys, m => by
    have ih := foldl_max_ge g ys (max m (g y))
    rw [List.foldl_cons]
    refine ⟨by omega, fun x hx => ?_⟩
    rcases List.mem_cons.1 hx with rfl | hx
    · omega
    · exact ih.2 x hx
theorem gap1M_ge (kept : Hr → Bool) (len n : Nat) (hs : List Hr) (m : Nat) : m ≤ gap1M kept len n hs m ∧ ∀ h, h < n → min (nxtM kept len n hs h + len - 1) n - h ≤ gap1M kept len n hs m := by
  have := foldl_max_ge (fun h => min (nxtM kept len n hs h + len - 1) n - h) (List.range n) m
  exact ⟨this.1, fun h hh => this.2 h (List.mem_range.2 hh)⟩
theorem gapM_ge (kept : Hr → Bool) (len n : Nat) : ∀ (ss : List (List Hr)) (m : Nat), m ≤ ss.foldl (fun m hs => gap1M kept len n hs m) m ∧ ∀ hs ∈ ss, ∀ h, h < n → min (nxtM kept len n hs h + len - 1) n - h ≤ ss.foldl (fun m hs => gap1M kept len n hs m) m
  | [], m => ⟨Nat.le_refl _, fun x h => by simp at h⟩
  | y :: ys, m => by
    have ih := gapM_ge kept len n ys (gap1M kept len n y m)
    have h1 := gap1M_ge kept len n y m
    rw [List.foldl_cons]
    refine ⟨by omega, fun x hx h hh => ?_⟩
    rcases List.mem_cons.1 hx with rfl | hx
    · have := h1.2 h hh; omega
    · exact ih.2 x hx h hh
theorem lack1_bd {l : List Bool} {len a G : Nat} : ∀ k m, m ≤ G → (∀ d, d < k → begV ((l.drop a).take (d + 1)) len < 0 → d + 1 ≤ G) → lack1 l len a k m ≤ G
  | 0, m, hm, _ => hm
  | k + 1, m, hm, h => by
    rw [lack1_step]
    have ih := lack1_bd k m hm (fun d hd => h d (by omega))
    split
    · rename_i hb
      have := h k (by omega) hb
      omega
    · exact ih
theorem lackK_bd {l : List Bool} {len G : Nat} : ∀ k, k ≤ l.length → (∀ a, a < k → ∀ d, a + d < l.length → begV ((l.drop a).take (d + 1)) len < 0 → d + 1 ≤ G) → lackK l len k ≤ G
  | 0, _, _ => Nat.zero_le _
  | k + 1, hk, h => by
    rw [lackK_step]
    exact lack1_bd _ _ (lackK_bd k (by omega) (fun a ha => h a (by omega))) (fun d hd hb => h k (by omega) d (by omega) hb)
end Go.Proofs.YtecamnhnjmldcaaGreatDoor
/- maybeOpen. -/
set_option linter.unusedSimpArgs false
set_option linter.unusedVariables false
namespace Go.Proofs.YtecamnhnjmldcaaGreatDoor
open Go.RowKit
set_option maxRecDepth 100000 in
set_option maxHeartbeats 1000000 in
theorem indexSc_any (fn : Nat) (caps : Array Value) (eg : ∀ args w, (callFunc fn args).run Tryz.prog w = .ok (.enter fn args) w) (xs : List (List Hr)) (p : List Hr → Bool) (A : Option Addr) (n c : Nat) (hn : xs.length = n) (hm : n ≤ 10000) (w : World) (hx : ScsAt w A xs)
    (hf : ∀ (x : List Hr) (A' : Option Addr) (c' : Nat) (W : World), Ext w W → x ∈ xs → x.length ≤ c' → HrsAt W A' x → Calls Tryz.prog fn (#[.agg #[.slice A' x.length c']] ++ caps) W fun e W' => e = .returned (.bool (p x)) ∧ Ext W W') :
    Calls Tryz.prog 137 #[.slice A n c, .func (.func fn) #[] caps] w (Found (xs.any p) w) := by
  have HFF := hid hf
  have HX := hid hx
  have HN := hid hn
  have HEG := hid eg
  clear hf hx hn eg
  go_enter Tryz.func137, Tryz.ntmps137
  go_wp2
  go_loopw [8] (fun i wr => Ext w wr ∧ ∃ k : Nat, k ≤ n ∧ i = .int .i64 k ∧ (xs.take k).any p = false) (fun i _ => n - (intOf i).toNat)
  case atStart => exact ⟨by (repeat' (first | with_reducible assumption | with_reducible exact Ext.refl _ | with_reducible refine Ext.alloc ?_ _ | with_reducible refine Ext.set ?_ ?_ _ | with_reducible refine Ext.drew ?_ | with_reducible refine Ext.drewN ?_ _ | with_reducible refine Ext.trans ?_ (by assumption) | (dsimp only; omega))), 0, Nat.zero_le _, rfl, rfl⟩
  case round =>
    obtain ⟨hE, k, hk, rfl, ha⟩ := hrel
    have HA := hid ha
    clear ha
    by_cases hlt : k < n
    · obtain ⟨b, off, rfl, hb, hck⟩ := (HX.out.ext hE).at_ HN.out hlt
      have HS := hid (any_take_snoc xs p [] k (by rw [HN.out]; omega))
      have HY := hid (any_of_at xs p [] k (by rw [HN.out]; omega))
      have HM := hid (mem_at xs [] k (by rw [HN.out]; omega))
      clear HX
      generalize xs.getD k [] = x at *
      obtain ⟨A', c', hck, hcap, hhr⟩ := hck
      have HH := hid hhr
      have HC := hid hcap
      clear hcap hhr
      go_wp2_with fail
      rw [HEG.out]
      refine Calls.mono (HFF.out x A' c' _ ?ext HM.out HC.out (HH.out.ext ?hx)) ?_
      case hx => (repeat' (first | with_reducible assumption | with_reducible exact Ext.refl _ | with_reducible refine Ext.alloc ?_ _ | with_reducible refine Ext.set ?_ ?_ _ | with_reducible refine Ext.drew ?_ | with_reducible refine Ext.drewN ?_ _ | with_reducible refine Ext.trans ?_ (by assumption) | (dsimp only; omega)))
      case ext => (repeat' (first | with_reducible assumption | with_reducible exact Ext.refl _ | with_reducible refine Ext.alloc ?_ _ | with_reducible refine Ext.set ?_ ?_ _ | with_reducible refine Ext.drew ?_ | with_reducible refine Ext.drewN ?_ _ | with_reducible refine Ext.trans ?_ (by assumption) | (dsimp only; omega)))
      rintro e w2 ⟨rfl, hE2⟩
      rcases Bool.eq_false_or_eq_true (p x) with hp | hp
      · rw [hp]
        have HP := hid (HY.out hp)
        clear hp
        go_wp2
        go_ret
        exact Found.mk _ (by rw [HP.out]; simp) (by (repeat' (first | with_reducible assumption | with_reducible exact Ext.refl _ | with_reducible refine Ext.alloc ?_ _ | with_reducible refine Ext.set ?_ ?_ _ | with_reducible refine Ext.drew ?_ | with_reducible refine Ext.drewN ?_ _ | with_reducible refine Ext.trans ?_ (by assumption) | (dsimp only; omega))))
      · rw [hp]
        have HP := hid (HS.out.trans (by rw [HA.out, hp]))
        clear hp
        go_wp2
        go_roundw
        case rel => exact ⟨by (repeat' (first | with_reducible assumption | with_reducible exact Ext.refl _ | with_reducible refine Ext.alloc ?_ _ | with_reducible refine Ext.set ?_ ?_ _ | with_reducible refine Ext.drew ?_ | with_reducible refine Ext.drewN ?_ _ | with_reducible refine Ext.trans ?_ (by assumption) | (dsimp only; omega))), k + 1, by omega, by go_num, HP.out⟩
        case measure => simp [intOf]; omega
    · have HP := hid (any_false_end HA.out (by rw [HN.out]; omega))
      go_wp2
      go_ret
      exact Found.mk _ (by rw [HP.out]; rfl) (by (repeat' (first | with_reducible assumption | with_reducible exact Ext.refl _ | with_reducible refine Ext.alloc ?_ _ | with_reducible refine Ext.set ?_ ?_ _ | with_reducible refine Ext.drew ?_ | with_reducible refine Ext.drewN ?_ _ | with_reducible refine Ext.trans ?_ (by assumption) | (dsimp only; omega))))
set_option maxHeartbeats 1000000 in
theorem containsSc_any (fn : Nat) (caps : Array Value) (eg : ∀ args w, (callFunc fn args).run Tryz.prog w = .ok (.enter fn args) w) (xs : List (List Hr)) (p : List Hr → Bool) (A : Option Addr) (n c : Nat) (hn : xs.length = n) (hm : n ≤ 10000) (w : World) (hx : ScsAt w A xs)
    (hf : ∀ (x : List Hr) (A' : Option Addr) (c' : Nat) (W : World), Ext w W → x ∈ xs → x.length ≤ c' → HrsAt W A' x → Calls Tryz.prog fn (#[.agg #[.slice A' x.length c']] ++ caps) W fun e W' => e = .returned (.bool (p x)) ∧ Ext W W') :
    Calls Tryz.prog 96 #[.slice A n c, .func (.func fn) #[] caps] w fun e w' => e = .returned (.bool (xs.any p)) ∧ Ext w w' := by
  have HC := hid (indexSc_any fn caps eg xs p A n c hn hm w hx hf)
  clear hf hn hx eg
  go_enter Tryz.func96, Tryz.ntmps96
  go_wp2_with fail
  refine HC.out.mono ?_
  rintro e w2 ⟨⟨r, rfl, hr⟩, hE2⟩
  have HR := hid hr
  clear hr HC
  go_wp2
  go_ret
  exact ⟨ret_bool HR.out, hE2⟩
section
variable (N : Nat) (A1 : Option Addr) (n1 c1 : Nat) (A2 : Option Addr) (n2 c2 : Nat) (ss : List (List Hr)) (rs : List Rl) (RA : Option Addr) (rn rc : Nat)
set_option maxHeartbeats 2000000 in
theorem may11_any (x : List Hr) (A : Option Addr) (c : Nat) (hxl : x.length = N) (hc : N ≤ c) (op : Nat) (hop : op < N) (q1 q2 : Nat) (w : World) (h : RIn w N A2 n2 ss rs RA rn) (hx : HrsAt w A x)
    (b1 : Blk w q1 106 (regCells N (.slice A1 n1 c1) (.slice A2 n2 c2) (.slice RA rn rc))) (b2 : Blk w q2 3 #[.int .i64 (op : Int)]) :
    Calls Tryz.prog 97 #[.agg #[.slice A N c], .pointer (some ⟨q1, 0, none⟩), .pointer (some ⟨q2, 0, none⟩)] w fun e w' => e = .returned (.bool (isOpenM mayB rs x op)) ∧ Ext w w' := by
  have HO := hid (fun (W : World) (hW : Ext w W) => isOpen_any 98 mayB maybeF N h.hN _ _ A1 n1 c1 rfl A2 n2 c2 rfl rs RA rn rc h.hrn h.hrm h.haft x A c hxl hc op hop W (h.wid.ext hW) (h.ru.ext hW) (hx.ext hW))
  unfold regCells at *
  obtain ⟨a0, a1, a2, a3⟩ : _ ∧ _ ∧ _ ∧ _ := ⟨b1.cell 0, b1.cell 1, b1.cell 2, b1.cell 3⟩
  have e0 := b2.cell 0
  have z1 := b1.lt
  have z2 := b2.lt
  simp only [List.getElem?_toArray, List.getElem?_cons_zero, List.getElem?_cons_succ] at a0 a1 a2 a3 e0
  clear h hx b1 b2
  go_enter Tryz.func97, Tryz.ntmps97
  go_wp2_with (go_at_call 93; refine (HO.out _ (by (repeat' (first | with_reducible assumption | with_reducible exact Ext.refl _ | with_reducible refine Ext.alloc ?_ _ | with_reducible refine Ext.set ?_ ?_ _ | with_reducible refine Ext.drew ?_ | with_reducible refine Ext.drewN ?_ _ | with_reducible refine Ext.trans ?_ (by assumption) | (dsimp only; omega))))).mono ?_; rintro e w2 ⟨rfl, hE⟩)
  go_ret
  exact ⟨rfl, by (repeat' (first | with_reducible assumption | with_reducible exact Ext.refl _ | with_reducible refine Ext.alloc ?_ _ | with_reducible refine Ext.set ?_ ?_ _ | with_reducible refine Ext.drew ?_ | with_reducible refine Ext.drewN ?_ _ | with_reducible refine Ext.trans ?_ (by assumption) | (dsimp only; omega)))⟩
set_option maxHeartbeats 2000000 in
theorem may1_any (op : Nat) (hop : op < N) (q1 : Nat) (w : World) (h : RIn w N A2 n2 ss rs RA rn)
    (b1 : Blk w q1 106 (regCells N (.slice A1 n1 c1) (.slice A2 n2 c2) (.slice RA rn rc))) :
    Calls Tryz.prog 95 #[.int .i64 (op : Int), .pointer (some ⟨q1, 0, none⟩)] w fun e w' => e = .returned (.bool (ss.any fun x => isOpenM mayB rs x op)) ∧ Ext w w' := by
  have HA := hid (fun (W : World) (hW : Ext w W) (b2 : Blk W w.heap.size 3 #[.int .i64 (op : Int)]) => containsSc_any 97 #[.pointer (some ⟨q1, 0, none⟩), .pointer (some ⟨w.heap.size, 0, none⟩)] (fun _ _ => by kernel_rfl) ss (fun x => isOpenM mayB rs x op) A2 n2 c2 h.hn (by have := h.hn2; omega) W (h.sc.ext hW)
    (fun x A' c' W' h1 h2 h3 h4 => by
      have hxl := h.hall x h2
      rw [hxl] at h3 ⊢
      exact may11_any N A1 n1 c1 A2 n2 c2 ss rs RA rn rc x A' c' hxl h3 op hop q1 w.heap.size W' ((h.ext hW).ext h1) h4 ((b1.ext hW).ext h1) (b2.ext h1)))
  unfold regCells at *
  have a2 := b1.cell 2
  have z1 := b1.lt
  have B2 := hid (show Blk _ _ _ _ from blk_last w (.cells #[.int .i64 (op : Int)] 3))
  simp only [List.getElem?_toArray, List.getElem?_cons_zero, List.getElem?_cons_succ] at a2
  clear h b1
  generalize (ss.any fun x => isOpenM mayB rs x op) = B at *
  go_enter Tryz.func95, Tryz.ntmps95
  go_wp2_with (go_at_call 96; refine (HA.out _ (by (repeat' (first | with_reducible assumption | with_reducible exact Ext.refl _ | with_reducible refine Ext.alloc ?_ _ | with_reducible refine Ext.set ?_ ?_ _ | with_reducible refine Ext.drew ?_ | with_reducible refine Ext.drewN ?_ _ | with_reducible refine Ext.trans ?_ (by assumption) | (dsimp only; omega)))) B2.out).mono ?_; rintro e w2 ⟨rfl, hE⟩)
  go_ret
  exact ⟨rfl, by (repeat' (first | with_reducible assumption | with_reducible exact Ext.refl _ | with_reducible refine Ext.alloc ?_ _ | with_reducible refine Ext.set ?_ ?_ _ | with_reducible refine Ext.drew ?_ | with_reducible refine Ext.drewN ?_ _ | with_reducible refine Ext.trans ?_ (by assumption) | (dsimp only; omega)))⟩
set_option maxHeartbeats 2000000 in
theorem maybe2_any (w : World) (h : RIn w N A2 n2 ss rs RA rn) :
    Calls Tryz.prog 44 #[.agg (regCells N (.slice A1 n1 c1) (.slice A2 n2 c2) (.slice RA rn rc))] w fun e w' => ∃ A c, e = .returned (.slice A (mayM rs ss N).length c) ∧ Ownl 27 2 gSp w' w.heap.size (.slice A (mayM rs ss N).length c) (mayM rs ss N) ∧ Ext w w' := by
  have HS := hid (fun (W : World) (hW : Ext w W) (b1 : Blk W w.heap.size 106 (regCells N (.slice A1 n1 c1) (.slice A2 n2 c2) (.slice RA rn rc))) => spans_any 95 #[.pointer (some ⟨w.heap.size, 0, none⟩)] (fun _ _ => by kernel_rfl) N (by have := h.hN; omega) (fun op => ss.any fun x => isOpenM mayB rs x op) W
    (fun i W' h1 hi => may1_any N A1 n1 c1 A2 n2 c2 ss rs RA rn rc i hi w.heap.size W' ((h.ext hW).ext h1) (b1.ext h1)))
  change Hid (∀ (W : World), Ext w W → Blk W w.heap.size 106 (regCells N (.slice A1 n1 c1) (.slice A2 n2 c2) (.slice RA rn rc)) → Calls _ _ _ W fun e w' => ∃ A c, e = .returned (.slice A (mayM rs ss N).length c) ∧ Ownl 27 2 gSp w' W.heap.size (.slice A (mayM rs ss N).length c) (mayM rs ss N) ∧ Ext W w') at HS
  generalize mayM rs ss N = sp at *
  have B1 := hid (show Blk _ _ _ _ from blk_last w (.cells (regCells N (.slice A1 n1 c1) (.slice A2 n2 c2) (.slice RA rn rc)) 106))
  unfold regCells at *
  clear h
  go_enter Tryz.func44, Tryz.ntmps44
  go_wp2_with fail
  refine Calls.mono (HS.out _ (by (repeat' (first | with_reducible assumption | with_reducible exact Ext.refl _ | with_reducible refine Ext.alloc ?_ _ | with_reducible refine Ext.set ?_ ?_ _ | with_reducible refine Ext.drew ?_ | with_reducible refine Ext.drewN ?_ _ | with_reducible refine Ext.trans ?_ (by assumption) | (dsimp only; omega)))) B1.out) ?_
  rintro e w2 ⟨A, c, rfl, ho, hE⟩
  have HO := hid (ho.low (show w.heap.size ≤ _ by simp))
  have HE := hid (show Ext w w2 by (repeat' (first | with_reducible assumption | with_reducible exact Ext.refl _ | with_reducible refine Ext.alloc ?_ _ | with_reducible refine Ext.set ?_ ?_ _ | with_reducible refine Ext.drew ?_ | with_reducible refine Ext.drewN ?_ _ | with_reducible refine Ext.trans ?_ (by assumption) | (dsimp only; omega))))
  clear ho hE
  dsimp only
  go_wp2
  go_ret
  exact ⟨A, c, rfl, HO.out, HE.out⟩
end
end Go.Proofs.YtecamnhnjmldcaaGreatDoor
