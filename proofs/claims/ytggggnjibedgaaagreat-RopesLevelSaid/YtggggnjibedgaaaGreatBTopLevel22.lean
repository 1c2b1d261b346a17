/- The law RopesLevel returns true. -/
import Derived.Test.YtggggnjibedgaaaGreatBTopLevel21
import Derived.Test.YtggggnjibedgaaaGreatBTopLevel19
import Derived.Test.YtggggnjibedgaaaGreatB14
import Derived.Test.YtggggnjibedgaaaGreatB16
import Derived.Deep.QuietTactic
import Derived.BigQuiet
import Derived.Deep.DeepCutAuto
import Derived.Deep.CutRange
set_option linter.unusedSimpArgs false
set_option linter.unusedVariables false
namespace Go.Proofs.YtggggnjibedgaaaGreat
open Go.RowKit
set_option maxRecDepth 100000 in
set_option maxHeartbeats 32000000 in
theorem ropesLevel_any (ps : List Po) (A : Option Addr) (n c : Nat) (hn : ps.length = n) (hc : n ≤ c) (lim yrs st : Int) (hst : st ≤ 9223372036854775807) (xs : List Int) (SA : Option Addr) (sn sc : Nat) (hsn : xs.length = sn)
    (w : World) (hx : PosAt w A ps) (hs : IntsAt w SA xs) :
    Calls Tryz.prog 12 #[.slice A n c, .agg #[.int .i64 lim, .int .i64 yrs, .int .i64 st, .slice SA sn sc]] w fun e w' => e = .returned (.bool true) ∧ Ext w w' := by
  have HWK := hid (fun W => works_any W)
  have HX := hid hx
  have HS := hid hs
  have HN := hid hn
  have HSN := hid hsn
  by_cases hb : 20 < n
  · have hbi : (20 : Int) < (n : Int) := by omega
    clear hx hs hn hsn
    as_aux_lemma =>
    go_enter Tryz.func12, Tryz.ntmps12
    go_wp2_with (go_at_call 14; refine (HWK.out _).mono ?_; rintro e w2 ⟨rfl, hE⟩; (first | (have hK := KC.step (n := w.heap.size + 1) (by with_reducible assumption) hE) | (have hK := KC.step (KC.step (n := w.heap.size + 1) (by with_reducible assumption) (ext_alloc1 _ _)) hE) | (have hK := KC.step (KC.refl (n := w.heap.size + 1) (by simp)) hE)); have hC := hK.cell; have hF := hK.fro; have hX := hK.ext)
    go_ret
    exact ⟨rfl, by (repeat' (first | with_reducible assumption | with_reducible exact Ext.refl _ | with_reducible refine Ext.alloc ?_ _ | with_reducible refine Ext.set ?_ ?_ _ | with_reducible refine Ext.drew ?_ | with_reducible refine Ext.drewN ?_ _ | with_reducible refine Ext.trans ?_ (by assumption) | (dsimp only; omega)))⟩
  have hbi : ¬ (20 : Int) < (n : Int) := by omega
  have HCL := hid (fun (told : Bool) (W : World) (hE : Ext w W) => rCheckPosts_any ps lim told A n c hn (by omega) W (hx.ext hE))
  by_cases hy0 : 0 ≤ yrs
  case neg =>
    have HC := hid (fun (W : World) (hE : Ext w W) => HCL.out false W hE)
    obtain ⟨E, hE0⟩ : ∃ E, (if posB ps then (if inI lim 0 1000 && false then (0 : Int) else 1) else 94) = E := ⟨_, rfl⟩
    rw [hE0] at HC
    have hne : (E != 0) = true := by
      rw [← hE0]
      cases posB ps <;> simp
    clear HCL hE0 hx hs hn hsn
    as_aux_lemma =>
    go_enter Tryz.func12, Tryz.ntmps12
    go_wp2_with (first
      | (go_at_call 52; refine (HC.out _ (by (repeat' (first | with_reducible assumption | with_reducible exact Ext.refl _ | with_reducible refine Ext.alloc ?_ _ | with_reducible refine Ext.set ?_ ?_ _ | with_reducible refine Ext.drew ?_ | with_reducible refine Ext.drewN ?_ _ | with_reducible refine Ext.trans ?_ (by assumption) | (dsimp only; omega))))).mono ?_; rintro e w2 ⟨rfl, hE⟩; (first | (have hK := KC.step (n := w.heap.size + 1) (by with_reducible assumption) hE) | (have hK := KC.step (KC.step (n := w.heap.size + 1) (by with_reducible assumption) (ext_alloc1 _ _)) hE) | (have hK := KC.step (KC.refl (n := w.heap.size + 1) (by simp)) hE)); have hC := hK.cell; have hF := hK.fro; have hX := hK.ext)
      | (go_at_call 14; refine (HWK.out _).mono ?_; rintro e w2 ⟨rfl, hE⟩; (first | (have hK := KC.step (n := w.heap.size + 1) (by with_reducible assumption) hE) | (have hK := KC.step (KC.step (n := w.heap.size + 1) (by with_reducible assumption) (ext_alloc1 _ _)) hE) | (have hK := KC.step (KC.refl (n := w.heap.size + 1) (by simp)) hE)); have hC := hK.cell; have hF := hK.fro; have hX := hK.ext))
    go_ret
    exact ⟨rfl, by (repeat' (first | with_reducible assumption | with_reducible exact Ext.refl _ | with_reducible refine Ext.alloc ?_ _ | with_reducible refine Ext.set ?_ ?_ _ | with_reducible refine Ext.drew ?_ | with_reducible refine Ext.drewN ?_ _ | with_reducible refine Ext.trans ?_ (by assumption) | (dsimp only; omega)))⟩
  by_cases hy1 : yrs ≤ 100
  case neg =>
    have HC := hid (fun (W : World) (hE : Ext w W) => HCL.out false W hE)
    obtain ⟨E, hE0⟩ : ∃ E, (if posB ps then (if inI lim 0 1000 && false then (0 : Int) else 1) else 94) = E := ⟨_, rfl⟩
    rw [hE0] at HC
    have hne : (E != 0) = true := by
      rw [← hE0]
      cases posB ps <;> simp
    clear HCL hE0 hx hs hn hsn
    as_aux_lemma =>
    go_enter Tryz.func12, Tryz.ntmps12
    go_wp2_with (first
      | (go_at_call 52; refine (HC.out _ (by (repeat' (first | with_reducible assumption | with_reducible exact Ext.refl _ | with_reducible refine Ext.alloc ?_ _ | with_reducible refine Ext.set ?_ ?_ _ | with_reducible refine Ext.drew ?_ | with_reducible refine Ext.drewN ?_ _ | with_reducible refine Ext.trans ?_ (by assumption) | (dsimp only; omega))))).mono ?_; rintro e w2 ⟨rfl, hE⟩; (first | (have hK := KC.step (n := w.heap.size + 1) (by with_reducible assumption) hE) | (have hK := KC.step (KC.step (n := w.heap.size + 1) (by with_reducible assumption) (ext_alloc1 _ _)) hE) | (have hK := KC.step (KC.refl (n := w.heap.size + 1) (by simp)) hE)); have hC := hK.cell; have hF := hK.fro; have hX := hK.ext)
      | (go_at_call 14; refine (HWK.out _).mono ?_; rintro e w2 ⟨rfl, hE⟩; (first | (have hK := KC.step (n := w.heap.size + 1) (by with_reducible assumption) hE) | (have hK := KC.step (KC.step (n := w.heap.size + 1) (by with_reducible assumption) (ext_alloc1 _ _)) hE) | (have hK := KC.step (KC.refl (n := w.heap.size + 1) (by simp)) hE)); have hC := hK.cell; have hF := hK.fro; have hX := hK.ext))
    go_ret
    exact ⟨rfl, by (repeat' (first | with_reducible assumption | with_reducible exact Ext.refl _ | with_reducible refine Ext.alloc ?_ _ | with_reducible refine Ext.set ?_ ?_ _ | with_reducible refine Ext.drew ?_ | with_reducible refine Ext.drewN ?_ _ | with_reducible refine Ext.trans ?_ (by assumption) | (dsimp only; omega)))⟩
  have HC := hid (fun (W : World) (hE : Ext w W) => HCL.out true W hE)
  have heq : (if posB ps then (if inI lim 0 1000 && true then (0 : Int) else 1) else 94) = posE ps lim yrs := by
    unfold posE
    have : inI yrs 0 100 = true := by unfold inI; simp [hy0, hy1]
    rw [this]
  rw [heq] at HC
  clear heq HCL
  by_cases h0 : posE ps lim yrs = 0
  case neg =>
    have hne : (posE ps lim yrs != 0) = true := by simp [h0]
    clear hx hs hn hsn
    generalize posE ps lim yrs = E at *
    as_aux_lemma =>
    go_enter Tryz.func12, Tryz.ntmps12
    go_wp2_with (first
      | (go_at_call 52; refine (HC.out _ (by (repeat' (first | with_reducible assumption | with_reducible exact Ext.refl _ | with_reducible refine Ext.alloc ?_ _ | with_reducible refine Ext.set ?_ ?_ _ | with_reducible refine Ext.drew ?_ | with_reducible refine Ext.drewN ?_ _ | with_reducible refine Ext.trans ?_ (by assumption) | (dsimp only; omega))))).mono ?_; rintro e w2 ⟨rfl, hE⟩; (first | (have hK := KC.step (n := w.heap.size + 1) (by with_reducible assumption) hE) | (have hK := KC.step (KC.step (n := w.heap.size + 1) (by with_reducible assumption) (ext_alloc1 _ _)) hE) | (have hK := KC.step (KC.refl (n := w.heap.size + 1) (by simp)) hE)); have hC := hK.cell; have hF := hK.fro; have hX := hK.ext)
      | (go_at_call 14; refine (HWK.out _).mono ?_; rintro e w2 ⟨rfl, hE⟩; (first | (have hK := KC.step (n := w.heap.size + 1) (by with_reducible assumption) hE) | (have hK := KC.step (KC.step (n := w.heap.size + 1) (by with_reducible assumption) (ext_alloc1 _ _)) hE) | (have hK := KC.step (KC.refl (n := w.heap.size + 1) (by simp)) hE)); have hC := hK.cell; have hF := hK.fro; have hX := hK.ext))
    go_ret
    exact ⟨rfl, by (repeat' (first | with_reducible assumption | with_reducible exact Ext.refl _ | with_reducible refine Ext.alloc ?_ _ | with_reducible refine Ext.set ?_ ?_ _ | with_reducible refine Ext.drew ?_ | with_reducible refine Ext.drewN ?_ _ | with_reducible refine Ext.trans ?_ (by assumption) | (dsimp only; omega)))⟩
  rw [h0] at HC
  by_cases h1 : sn = n
  case neg =>
    have h1i : ¬ ((sn : Int) = (n : Int)) := by omega
    clear hx hs hn hsn
    as_aux_lemma =>
    go_enter Tryz.func12, Tryz.ntmps12
    go_wp2_with (first
      | (go_at_call 52; refine (HC.out _ (by (repeat' (first | with_reducible assumption | with_reducible exact Ext.refl _ | with_reducible refine Ext.alloc ?_ _ | with_reducible refine Ext.set ?_ ?_ _ | with_reducible refine Ext.drew ?_ | with_reducible refine Ext.drewN ?_ _ | with_reducible refine Ext.trans ?_ (by assumption) | (dsimp only; omega))))).mono ?_; rintro e w2 ⟨rfl, hE⟩; (first | (have hK := KC.step (n := w.heap.size + 1) (by with_reducible assumption) hE) | (have hK := KC.step (KC.step (n := w.heap.size + 1) (by with_reducible assumption) (ext_alloc1 _ _)) hE) | (have hK := KC.step (KC.refl (n := w.heap.size + 1) (by simp)) hE)); have hC := hK.cell; have hF := hK.fro; have hX := hK.ext)
      | (go_at_call 14; refine (HWK.out _).mono ?_; rintro e w2 ⟨rfl, hE⟩; (first | (have hK := KC.step (n := w.heap.size + 1) (by with_reducible assumption) hE) | (have hK := KC.step (KC.step (n := w.heap.size + 1) (by with_reducible assumption) (ext_alloc1 _ _)) hE) | (have hK := KC.step (KC.refl (n := w.heap.size + 1) (by simp)) hE)); have hC := hK.cell; have hF := hK.fro; have hX := hK.ext))
    go_ret
    exact ⟨rfl, by (repeat' (first | with_reducible assumption | with_reducible exact Ext.refl _ | with_reducible refine Ext.alloc ?_ _ | with_reducible refine Ext.set ?_ ?_ _ | with_reducible refine Ext.drew ?_ | with_reducible refine Ext.drewN ?_ _ | with_reducible refine Ext.trans ?_ (by assumption) | (dsimp only; omega)))⟩
  have h1s := h1.symm
  subst h1s
  clear h1
  by_cases hs0 : st < 0
  · clear hx hs hn hsn
    as_aux_lemma =>
    go_enter Tryz.func12, Tryz.ntmps12
    go_wp2_with (first
      | (go_at_call 52; refine (HC.out _ (by (repeat' (first | with_reducible assumption | with_reducible exact Ext.refl _ | with_reducible refine Ext.alloc ?_ _ | with_reducible refine Ext.set ?_ ?_ _ | with_reducible refine Ext.drew ?_ | with_reducible refine Ext.drewN ?_ _ | with_reducible refine Ext.trans ?_ (by assumption) | (dsimp only; omega))))).mono ?_; rintro e w2 ⟨rfl, hE⟩; (first | (have hK := KC.step (n := w.heap.size + 1) (by with_reducible assumption) hE) | (have hK := KC.step (KC.step (n := w.heap.size + 1) (by with_reducible assumption) (ext_alloc1 _ _)) hE) | (have hK := KC.step (KC.refl (n := w.heap.size + 1) (by simp)) hE)); have hC := hK.cell; have hF := hK.fro; have hX := hK.ext)
      | (go_at_call 14; refine (HWK.out _).mono ?_; rintro e w2 ⟨rfl, hE⟩; (first | (have hK := KC.step (n := w.heap.size + 1) (by with_reducible assumption) hE) | (have hK := KC.step (KC.step (n := w.heap.size + 1) (by with_reducible assumption) (ext_alloc1 _ _)) hE) | (have hK := KC.step (KC.refl (n := w.heap.size + 1) (by simp)) hE)); have hC := hK.cell; have hF := hK.fro; have hX := hK.ext))
    go_ret
    exact ⟨rfl, by (repeat' (first | with_reducible assumption | with_reducible exact Ext.refl _ | with_reducible refine Ext.alloc ?_ _ | with_reducible refine Ext.set ?_ ?_ _ | with_reducible refine Ext.drew ?_ | with_reducible refine Ext.drewN ?_ _ | with_reducible refine Ext.trans ?_ (by assumption) | (dsimp only; omega)))⟩
  obtain ⟨S, rfl⟩ : ∃ S : Nat, st = (S : Int) := ⟨st.toNat, by omega⟩
  have HST := hid (show S < 9223372036854775808 by omega)
  obtain ⟨hbp, hl, hyr⟩ := posE_ok h0
  have h8 := (posB_ok hbp).1
  have hap : ∀ p ∈ ps, poB p = true := by
    have ha : ps.all poB = true := by
      unfold posB at hbp
      simp only [Bool.and_eq_true] at hbp
      exact hbp.1.2
    exact List.all_eq_true.1 ha
  have hpe : ∀ y : Int, 0 ≤ y → y ≤ 100 → posE ps lim y = 0 := fun y a b => by
    unfold posE inI
    rw [if_pos hbp]
    simp [hl.1, hl.2, a, b]
  have hN100 := lvlN_le ps lim
  obtain ⟨y2, hy2⟩ : ∃ y2 : Int, min 100 (((lvlN ps lim : Nat) : Int) + 1) = y2 := ⟨_, rfl⟩
  have hy2b : 0 ≤ y2 ∧ y2 ≤ 100 := by omega
  have HLV := hid (fun (W : World) (hE : Ext w W) => plevel_any ps lim A n c hn (by omega) hc W (hx.ext hE))
  have HP1 := hid (fun (W : World) (hE : Ext w W) => prop_any ps lim yrs A n c hn (by omega) W (hx.ext hE))
  have HP2 := hid (fun (W : World) (hE : Ext w W) => prop_any ps lim y2 A n c hn (by omega) W (hx.ext hE))
  have hv1 : lvlV ps lim = lvlN ps lim := by unfold lvlV; rw [if_pos (hpe 0 (by decide) (by decide))]
  have hv2 : propR ps lim yrs = memL (prpN ps lim yrs) := by unfold propR; rw [if_pos h0]; rfl
  have hv3 : propR ps lim y2 = memL (prpN ps lim y2) := by unfold propR; rw [if_pos (hpe y2 hy2b.1 hy2b.2)]; rfl
  rw [hv1, hpe 0 (by decide) (by decide)] at HLV
  rw [hv2, h0] at HP1
  rw [hv3, hpe y2 hy2b.1 hy2b.2] at HP2
  unfold PropIs at HP1 HP2
  obtain ⟨q1, q2, q3⟩ := prp_parts h8 lim yrs
  obtain ⟨es1, es2, es3⟩ := prp_es h8 q1
  rw [hn] at h8 q1 es1
  have hz1 := prp_zero hbp hl.1 hyr.1 hyr.2
  have hz2 := prp_zero hbp hl.1 hy2b.1 hy2b.2
  have hlen1 : (memL (prpN ps lim yrs)).length = (elemsL 8 (prpN ps lim yrs)).length := memL_len _
  have hpc1 : (elemsL 8 (prpN ps lim yrs)).length = pcN (prpN ps lim yrs) := eq_of_beq (List.all_eq_true.1 pc_elems _ (List.mem_range.2 (lt256 h8 q1)))
  have hpc2 : (memL (prpN ps lim y2)).length = pcN (prpN ps lim y2) := by
    rw [memL_len]
    exact eq_of_beq (List.all_eq_true.1 pc_elems _ (List.mem_range.2 (lt256 (by omega) (prp_parts (show ps.length ≤ 8 by omega) lim y2).1)))
  have hcnd1 : (elemsL 8 (prpN ps lim yrs)).length = 0 ↔ yrs ≤ lvlN ps lim := by rw [hpc1]; exact hz1
  have hcnd2 : (memL (prpN ps lim y2)).length = 0 ↔ lvlN ps lim = 100 := by rw [hpc2, hz2]; omega
  have HES := hid (show ∀ k, k < (elemsL 8 (prpN ps lim yrs)).length → (memL (prpN ps lim yrs)).getD k 0 = (((elemsL 8 (prpN ps lim yrs)).getD k 0 : Nat) : Int) ∧ (elemsL 8 (prpN ps lim yrs)).getD k 0 < n from fun k hk => ⟨memL_at _ k hk, es1 k hk⟩)
  have HAS := hid es2
  have HSU := hid (fun k (h : k < (elemsL 8 (prpN ps lim yrs)).length) => sum_succ _ h)
  have HSB := hid (sum_le (es := elemsL 8 (prpN ps lim yrs)) (fun k hk => Nat.lt_of_lt_of_le (es1 k hk) h8))
  have HSE := hid es3
  have hm8 := elems_len (prpN ps lim yrs)
  -- the posts' tilts
  have HT1 := hid (lev_iff.1 (lvl_upto hbp hl.1 (y := (lvlN ps lim : Nat)) (by omega) (Int.le_refl _)))
  have HT2 := hid (lev_oth.1 q2)
  have HT3 := hid (fun (h : ∀ i k, i < k → k < ps.length → hasB S i = false → hasB S k = false → tiltB lim yrs (ps.getD i zeroPo) (ps.getD k zeroPo) = false) =>
    show (elemsL 8 (prpN ps lim yrs)).length ≤ sizN n S from by
      rw [hpc1, ← siz_pc S h8]
      refine q3 (S % 2 ^ n) (by rw [hn]; exact Nat.mod_lt _ (Nat.two_pow_pos _)) (lev_oth.2 fun i k hik hk a b => ?_)
      rw [has_mod, decide_eq_true (show i < n by omega), Bool.true_and] at a
      rw [has_mod, decide_eq_true (show k < n by omega), Bool.true_and] at b
      exact h i k hik hk a b)
  have HPB := hid (fun k (h : k < ps.length) => hap _ (mem_at ps zeroPo k h))
  have HSZ := hid (fun W => lsize_any S n HST.out (by omega) W)
  have hb256 := lt256 h8 q1
  rw [hlen1] at HP1
  obtain ⟨m2, hm2⟩ : ∃ m2, (memL (prpN ps lim y2)).length = m2 := ⟨_, rfl⟩
  rw [hm2] at HP2 hcnd2
  have hL1 : (memL (prpN ps lim yrs)).length = (elemsL 8 (prpN ps lim yrs)).length := hlen1
  clear hx hs hn hsn hb hbi q1 q2 q3 es1 es2 es3 hz1 hz2 hlen1 hpc1 hpc2 hm2 hv1 hv2 hv3 h0 hpe hap hbp
  have B0 := hid (Blk.new w 92 #[.int .i64 lim, .int .i64 yrs, .int .i64 (S : Int), .slice SA n sc])
  generalize prpN ps lim y2 = b2 at *
  generalize prpN ps lim yrs = b at *
  generalize elemsL 8 b = es at *
  generalize memL b = L at *
  generalize memL b2 = L2 at *
  generalize lvlN ps lim = N at *
  obtain ⟨m, hm⟩ : ∃ m, es.length = m := ⟨_, rfl⟩
  rw [hm] at HP1 HES HAS HSU HSB HSE HT3 hcnd1 hm8 hL1
  clear hm
  have hyc : yrs ≤ (N : Int) → m = 0 := hcnd1.2
  have hym : m = 0 → yrs ≤ (N : Int) := hcnd1.1
  have HL1 := hid hL1
  clear hcnd1 hL1 hst hs0
  go_enter Tryz.func12, Tryz.ntmps12
  go_wp2_with (go_at_call 52; refine (HC.out _ (by (repeat' (first | with_reducible assumption | with_reducible exact Ext.refl _ | with_reducible refine Ext.alloc ?_ _ | with_reducible refine Ext.set ?_ ?_ _ | with_reducible refine Ext.drew ?_ | with_reducible refine Ext.drewN ?_ _ | with_reducible refine Ext.trans ?_ (by assumption) | (dsimp only; omega))))).mono ?_; rintro e w2 ⟨rfl, hE⟩; (first | (have hK := KC.step (n := w.heap.size + 1) (by with_reducible assumption) hE) | (have hK := KC.step (KC.step (n := w.heap.size + 1) (by with_reducible assumption) (ext_alloc1 _ _)) hE) | (have hK := KC.step (KC.refl (n := w.heap.size + 1) (by simp)) hE)); have hC := hK.cell; have hF := hK.fro; have hX := hK.ext)
  go_loopw [5] (fun i wr => Ext w wr ∧ Hid (Blk wr w.heap.size 92 #[.int .i64 lim, .int .i64 yrs, .int .i64 (S : Int), .slice SA n sc]) ∧
    ∃ k : Nat, k ≤ n ∧ i = .int .i64 k ∧ Hid (∀ j, j < k → (ps.getD j zeroPo).sl ≤ xs.getD j 0 ∧ xs.getD j 0 ≤ (ps.getD j zeroPo).sh)) (fun i _ => n - (intOf i).toNat)
  case atStart => exact ⟨by (repeat' (first | with_reducible assumption | with_reducible exact Ext.refl _ | with_reducible refine Ext.alloc ?_ _ | with_reducible refine Ext.set ?_ ?_ _ | with_reducible refine Ext.drew ?_ | with_reducible refine Ext.drewN ?_ _ | with_reducible refine Ext.trans ?_ (by assumption) | (dsimp only; omega))), hid (B0.out.ext (by (repeat' (first | with_reducible assumption | with_reducible exact Ext.refl _ | with_reducible refine Ext.alloc ?_ _ | with_reducible refine Ext.set ?_ ?_ _ | with_reducible refine Ext.drew ?_ | with_reducible refine Ext.drewN ?_ _ | with_reducible refine Ext.trans ?_ (by assumption) | (dsimp only; omega))))), 0, Nat.zero_le _, rfl, hid (fun j hj => by omega)⟩
  case round =>
    obtain ⟨E1, K0, k, hk, rfl, HA⟩ := hrel
    clear B0
    have a3 := K0.out.cell 3
    have z0 := K0.out.lt
    simp only [List.getElem?_toArray, List.getElem?_cons_zero, List.getElem?_cons_succ] at a3
    by_cases hlt : k < n
    · obtain ⟨b', off, rfl, hb, c0, c1, c2⟩ := (HX.out.ext E1).at_ HN.out hlt
      obtain ⟨b'', off', rfl, hb', q1⟩ := (HS.out.ext E1).at_ HSN.out hlt
      have hk0 : (0 : Int) ≤ (k : Int) := by omega
      have hk1 : (k : Int) < (n : Int) := by omega
      have HA2 := hid (fun (h1 : (ps.getD k zeroPo).sl ≤ xs.getD k 0) (h2 : xs.getD k 0 ≤ (ps.getD k zeroPo).sh) => show ∀ j, j < k + 1 → (ps.getD j zeroPo).sl ≤ xs.getD j 0 ∧ xs.getD j 0 ≤ (ps.getD j zeroPo).sh from fun j hj => by
        rcases Nat.lt_succ_iff_lt_or_eq.1 hj with h | rfl
        · exact HA.out j h
        · exact ⟨h1, h2⟩)
      clear HA HLV HP1 HP2 HES HAS HSU HSB HSE HT1 HT2 HT3 HPB HSZ
      generalize hu : ps.getD k zeroPo = u at *
      generalize hv : xs.getD k 0 = v at *
      clear hu hv
      obtain ⟨pos, lo, hi⟩ := u
      dsimp only at *
      as_aux_lemma =>
      by_cases v1 : v < lo
      · go_wp2_with fail
        go_quiet (fail)
        go_wp2_with fail
        refine Calls.mono (HWK.out _) ?_
        rintro e w9 ⟨rfl, hE9⟩
        go_wp2
        go_ret
        exact ⟨rfl, (E1.drewN _).trans hE9⟩
      have d1 : decide (v < lo) = false := decide_eq_false v1
      by_cases v2 : hi < v
      · go_wp2_with fail
        go_quiet (fail)
        go_wp2_with fail
        refine Calls.mono (HWK.out _) ?_
        rintro e w9 ⟨rfl, hE9⟩
        go_wp2
        go_ret
        exact ⟨rfl, (E1.drewN _).trans hE9⟩
      have d2 : decide (hi < v) = false := decide_eq_false v2
      have HA3 := hid (HA2.out (by omega) (by omega))
      have K1 := hid (K0.out.ext ((Ext.refl wr).drewN 1))
      clear HA2
      go_wp2_with fail
      go_quiet (fail)
      go_wp2
      go_roundw
      case rel => exact ⟨E1.drewN _, hid (K0.out.ext ((Ext.refl wr).drewN _)), k + 1, by omega, by go_num, HA3⟩
      case measure => simp [intOf]; omega
    obtain rfl : k = n := by omega
    have HIN := hid (show ∀ j, j < k → (ps.getD j zeroPo).sl ≤ xs.getD j 0 ∧ xs.getD j 0 ≤ (ps.getD j zeroPo).sh from HA.out)
    clear HA
    have a0 := K0.out.cell 0
    have a1 := K0.out.cell 1
    simp only [List.getElem?_toArray, List.getElem?_cons_zero, List.getElem?_cons_succ] at a0 a1
    go_wp2_with fail
    refine Calls.mono (HLV.out _ E1) ?_
    rintro e w2 ⟨rfl, hE2⟩
    have E2 := hid (E1.trans hE2)
    have K2 := hid (K0.out.ext hE2)
    clear a0 a1 a3 z0 K0 HLV hE2
    have a0 := K2.out.cell 0
    have a1 := K2.out.cell 1
    have z0 := K2.out.lt
    simp only [List.getElem?_toArray, List.getElem?_cons_zero, List.getElem?_cons_succ] at a0 a1
    go_wp2_with fail
    refine Calls.mono (HP1.out _ E2.out) ?_
    rintro e w3 ⟨A8, c8, rfl, hI8, hl8, hE3⟩
    have E3 := hid (E2.out.trans hE3)
    have K3 := hid (K2.out.ext hE3)
    have HI3 := hid hI8
    clear a0 a1 z0 K2 HP1 hE3 E2 hI8 hl8
    have a0 := K3.out.cell 0
    have z0 := K3.out.lt
    simp only [List.getElem?_toArray, List.getElem?_cons_zero, List.getElem?_cons_succ] at a0
    have hy2e : (if 100 ≤ (N : Int) + 1 then (100 : Int) else (N : Int) + 1) = y2 := by rw [← hy2]; split <;> omega
    have hwN : IntKind.i64.wrap ((N : Int) + 1) = (N : Int) + 1 := IntWalk.i64_in _ (by omega)
    go_wp2_with fail
    refine Calls.mono (HP2.out _ E3.out) ?_
    rintro e w4 ⟨A9, c9, rfl, -, -, hE4⟩
    have E4 := hid (E3.out.trans hE4)
    have K4 := hid (K3.out.ext hE4)
    have HI4 := hid (HI3.out.ext hE4)
    clear a0 z0 K3 HP2 hE4 E3 HI3 hy2e hwN
    have hn0 : ¬ ((N : Int) < 0) := by omega
    have hn1 : ¬ ((100 : Int) < (N : Int)) := by omega
    go_upto_region 11 with fail
    go_cut [135] from 110 to 134 (fun s135 wx => s135 = .bool false ∧ wx = w4)
    case first =>
      as_aux_lemma =>
      by_cases hN : N = 100
      · have e1 : ((m2 : Nat) : Int) = 0 := by have := hcnd2.2 hN; omega
        have e2 : ((N : Nat) : Int) = 100 := by omega
        go_wp2_with fail
        go_meet
        exact ⟨by first | rfl | (simp; done) | (simp [e1, e2]; done), rfl⟩
      · have e1 : ¬ ((m2 : Nat) : Int) = 0 := by intro h; exact hN (hcnd2.1 (by omega))
        have e2 : ¬ ((N : Nat) : Int) = 100 := by omega
        have b1 : (((m2 : Nat) : Int) == 0) = false := beq_eq_false_iff_ne.2 e1
        have b2 : (((N : Nat) : Int) == 100) = false := beq_eq_false_iff_ne.2 e2
        go_wp2_with fail
        go_meet
        exact ⟨by first | rfl | (simp; done) | (simp [b1, b2]; done) | (simp [b1, b2]; omega), rfl⟩
    case rest =>
    obtain ⟨rfl, rfl⟩ := hcut
    clear hcnd2 hn0 hn1 hy2 hy2b
    go_wp2_with fail
    clear E1
    go_loopw [12, 13] (fun s i wx => Ext w wx ∧ Hid (Blk wx w.heap.size 92 #[.int .i64 lim, .int .i64 yrs, .int .i64 (S : Int), .slice SA k sc]) ∧ Hid (IntsAt wx A8 L) ∧
      ∃ j : Nat, j ≤ m ∧ i = .int .i64 j ∧ s = .int .i64 (sumN es j : Nat)) (fun _ i _ => m - (intOf i).toNat)
    case atStart => exact ⟨E4.out, K4, HI4, 0, Nat.zero_le _, rfl, rfl⟩
    case round =>
      obtain ⟨E5, K5, I5, j, hj, rfl, rfl⟩ := hrel
      clear E4 K4 HI4
      by_cases hlt : j < m
      · have hji : (j : Int) < (m : Int) := by omega
        have hj0 : (0 : Int) ≤ (j : Int) := by omega
        obtain ⟨bb, off, rfl, hb, c0⟩ := I5.out.at_ HL1.out hlt
        obtain ⟨he1, he2⟩ := HES.out j hlt
        rw [he1] at c0
        have hsu := HSU.out j hlt
        have hsb := HSB.out j (by omega)
        have hsb2 := HSB.out (j + 1) (by omega)
        have hp7 : 2 ^ es.getD j 0 ≤ 2 ^ 7 := Nat.pow_le_pow_right (by decide) (by omega)
        have hA := HAS.out (j - 1) j
        have hI9 := hid (fun (i : Nat) (hi : i < m) => I5.out.at_ HL1.out hi)
        have hHE := hid (fun (i : Nat) (hi : i < m) => (HES.out i hi).1)
        have I5h := I5
        clear I5 HES HSU HSB HSE HT1 HT2 HT3 HPB HSZ HAS HIN
        generalize hej : es.getD j 0 = ee at *
        generalize hs2 : sumN es (j + 1) = s2 at *
        generalize sumN es j = s1 at *
        have HZ0 := hid (show decide ((ee : Int) < 0) = false from decide_eq_false (by omega))
        have HZ1 := hid (show decide ((k : Int) ≤ (ee : Int)) = false from decide_eq_false (by omega))
        have HZ1' := hid (show decide (k ≤ ee) = false from decide_eq_false (by omega))
        have hsh : ((s2 : Nat) : Int) = (s1 : Int) + 2 ^ ee := by rw [hsu]; simp
        have hp7i : ((2 : Int) ^ ee) ≤ 128 ∧ (0 : Int) ≤ 2 ^ ee := by
          have e9 : ((2 : Int) ^ ee) = ((2 ^ ee : Nat) : Int) := by simp
          have h9 : (2 : Nat) ^ ee ≤ 128 := Nat.le_trans hp7 (by decide)
          rw [e9]
          exact ⟨Int.ofNat_le.2 h9, Int.natCast_nonneg _⟩
        have HQ := hid (And.intro hsh (And.intro hp7i (And.intro hsb hsb2)))
        clear hsh hp7i hp7 hsb hsb2 hsu he1
        have h64 : min ee 64 = ee := by omega
        by_cases hj9 : j = 0
        · have HZ := hid (show decide ((0 : Int) < (j : Int)) = false from decide_eq_false (by omega))
          have HZ2 := hid (show decide (0 < j) = false from decide_eq_false (by omega))
          clear hj9 hI9 hHE hA
          go_wp2_with fail
          as_aux_lemma =>
          -- <q1
          refine wp_region_held_drew (S := fun w' => (∀ b o, b < wr.heap.size → w'.cell? ⟨b, o, none⟩ = wr.cell? ⟨b, o, none⟩) ∧ wr.heap.size ≤ w'.heap.size ∧ Ext wr w') (by kernel_rfl) ?hS0 (fun hHeld => ?_)
          case hS0 => exact sK (Ext.drew (Ext.refl _))
          have X0 : Ext wr wr.drew := Ext.drew (Ext.refl wr)
          have EX := X0
          obtain ⟨X, hX⟩ : ∃ X, wr.drew = X := ⟨_, rfl⟩
          rw [hX] at EX hHeld ⊢
          clear hX X0
          refine tk1 (i := 0) (v := ?v0a) rfl ?y0a ?r0a
          case y0a => (intro w' hSw; (try dsimp only at hSw); go_simp; (try with_reducible rfl))
          try simp only [Act.put, sq1, sq2, sq3, sq4, sq5, sq6]
          refine tk1 (i := 1) (v := ?v1a) rfl ?y1a ?r1a
          case y1a => (intro w' hSw; (try dsimp only at hSw); go_simp; (try with_reducible rfl))
          try simp only [Act.put, sq1, sq2, sq3, sq4, sq5, sq6]
          refine tk1 (i := 2) (v := ?v2a) rfl ?y2a ?r2a
          case y2a => (intro w' hSw; (try dsimp only at hSw); go_simp; (try with_reducible rfl))
          try simp only [Act.put, sq1, sq2, sq3, sq4, sq5, sq6]
          refine tk1 (i := 3) (v := ?v3a) rfl ?y3a ?r3a
          case y3a => (intro w' hSw; (try dsimp only at hSw); go_simp; (try with_reducible rfl))
          try simp only [Act.put, sq1, sq2, sq3, sq4, sq5, sq6]
          refine tk1 (i := 4) (v := ?v4a) rfl ?y4a ?r4a
          case y4a => (intro w' hSw; (try dsimp only at hSw); go_simp; (try simp only [HZ0.out]); (try with_reducible rfl))
          try simp only [Act.put, sq1, sq2, sq3, sq4, sq5, sq6]
          refine tk1 (i := 5) (v := ?v5a) rfl ?y5a ?r5a
          case y5a => (intro w' hSw; (try dsimp only at hSw); go_simp; (try with_reducible rfl))
          try simp only [Act.put, sq1, sq2, sq3, sq4, sq5, sq6]
          refine tk1 (i := 6) (v := ?v6a) rfl ?y6a ?r6a
          case y6a => (intro w' hSw; (try dsimp only at hSw); go_simp; (try with_reducible rfl))
          try simp only [Act.put, sq1, sq2, sq3, sq4, sq5, sq6]
          refine tk1 (i := 7) (v := ?v7a) rfl ?y7a ?r7a
          case y7a => (intro w' hSw; (try dsimp only at hSw); go_simp; (try with_reducible rfl))
          try simp only [Act.put, sq1, sq2, sq3, sq4, sq5, sq6]
          refine tk1 (i := 8) (v := ?v8a) rfl ?y8a ?r8a
          case y8a => (intro w' hSw; (try dsimp only at hSw); go_simp; (try with_reducible rfl))
          try simp only [Act.put, sq1, sq2, sq3, sq4, sq5, sq6]
          refine tk1 (i := 9) (v := ?v9a) rfl ?y9a ?r9a
          case y9a => (intro w' hSw; (try dsimp only at hSw); go_simp; (try with_reducible rfl))
          try simp only [Act.put, sq1, sq2, sq3, sq4, sq5, sq6]
          refine tk1 (i := 10) (v := ?v10a) rfl ?y10a ?r10a
          case y10a => (intro w' hSw; (try dsimp only at hSw); go_simp; (try with_reducible rfl))
          try simp only [Act.put, sq1, sq2, sq3, sq4, sq5, sq6]
          refine tk1 (i := 11) (v := ?v11a) rfl ?y11a ?r11a
          case y11a => (intro w' hSw; (try dsimp only at hSw); go_simp; (try with_reducible rfl))
          try simp only [Act.put, sq1, sq2, sq3, sq4, sq5, sq6]
          refine tk1 (i := 12) (v := ?v12a) rfl ?y12a ?r12a
          case y12a => (intro w' hSw; (try dsimp only at hSw); go_simp; (try simp only [HZ1.out, HZ1'.out]); (try with_reducible rfl))
          try simp only [Act.put, sq1, sq2, sq3, sq4, sq5, sq6]
          refine tk1 (i := 13) (v := ?v13a) rfl ?y13a ?r13a
          case y13a => (intro w' hSw; (try dsimp only at hSw); go_simp; (try with_reducible rfl))
          try simp only [Act.put, sq1, sq2, sq3, sq4, sq5, sq6]
          refine tk1 (i := 14) (v := ?v14a) rfl ?y14a ?r14a
          case y14a => (intro w' hSw; (try dsimp only at hSw); go_simp; (try with_reducible rfl))
          try simp only [Act.put, sq1, sq2, sq3, sq4, sq5, sq6]
          refine tk1 (i := 15) (v := ?v15a) rfl ?y15a ?r15a
          case y15a => (intro w' hSw; (try dsimp only at hSw); go_simp; (try with_reducible rfl))
          try simp only [Act.put, sq1, sq2, sq3, sq4, sq5, sq6]
          refine tk1 (i := 16) (v := ?v16a) rfl ?y16a ?r16a
          case y16a => (intro w' hSw; (try dsimp only at hSw); go_simp; (try simp only [HZ.out, HZ2.out]); (try with_reducible rfl))
          try simp only [Act.put, sq1, sq2, sq3, sq4, sq5, sq6]
          refine tk1 (i := 17) (v := ?v17a) rfl ?y17a ?r17a
          case y17a => (intro w' hSw; (try dsimp only at hSw); go_simp; (try with_reducible rfl))
          try simp only [Act.put, sq1, sq2, sq3, sq4, sq5, sq6]
          refine tku1 (i := 18) rfl ?r18a
          try simp only [Act.put, sq1, sq2, sq3, sq4, sq5, sq6]
          refine tku1 (i := 19) rfl ?r19a
          try simp only [Act.put, sq1, sq2, sq3, sq4, sq5, sq6]
          refine tku1 (i := 20) rfl ?r20a
          try simp only [Act.put, sq1, sq2, sq3, sq4, sq5, sq6]
          refine tku1 (i := 21) rfl ?r21a
          try simp only [Act.put, sq1, sq2, sq3, sq4, sq5, sq6]
          refine tku1 (i := 22) rfl ?r22a
          try simp only [Act.put, sq1, sq2, sq3, sq4, sq5, sq6]
          refine tku1 (i := 23) rfl ?r23a
          try simp only [Act.put, sq1, sq2, sq3, sq4, sq5, sq6]
          refine tku1 (i := 24) rfl ?r24a
          try simp only [Act.put, sq1, sq2, sq3, sq4, sq5, sq6]
          refine tku1 (i := 25) rfl ?r25a
          try simp only [Act.put, sq1, sq2, sq3, sq4, sq5, sq6]
          refine tku1 (i := 26) rfl ?r26a
          try simp only [Act.put, sq1, sq2, sq3, sq4, sq5, sq6]
          refine tku1 (i := 27) rfl ?r27a
          try simp only [Act.put, sq1, sq2, sq3, sq4, sq5, sq6]
          refine tk1 (i := 28) (v := ?v28a) rfl ?y28a ?r28a
          case y28a => (intro w' hSw; (try dsimp only at hSw); go_simp; (try with_reducible rfl))
          try simp only [Act.put, sq1, sq2, sq3, sq4, sq5, sq6]
          refine tk1 (i := 29) (v := ?v29a) rfl ?y29a ?r29a
          case y29a => (intro w' hSw; (try dsimp only at hSw); go_simp; (try with_reducible rfl))
          try simp only [Act.put, sq1, sq2, sq3, sq4, sq5, sq6]
          refine wpAnyH_done (by kernel_rfl) ?_ _
          have EX2 := hid EX
          have c0X := (EX.cell (p := ⟨bb, off + j, none⟩) hb).trans c0
          have hbX : bb < X.heap.size := Nat.lt_of_lt_of_le hb EX.size
          clear hHeld EX
          go_wp2_with fail
          go_roundw
          case rel =>
            obtain ⟨e1, e2, e3, e4⟩ := HQ.out
            have h9 : s2 ≤ 2000 := by clear e1 e2; omega
            have hww : wrap64 ((s1 : Int) + 2 ^ ee) = (s2 : Int) := by rw [← e1]; exact wrap_in ⟨Int.natCast_nonneg _, Int.ofNat_le.2 (Nat.le_trans h9 (by decide))⟩
            have hw2 : wrap64 ((2 : Int) ^ ee) = (2 : Int) ^ ee := wrap_in ⟨e2.2, Int.le_trans e2.1 (by decide)⟩
            exact ⟨E5.trans EX2.out, hid (K5.out.ext EX2.out), hid (I5h.out.ext EX2.out), j + 1, by omega, by go_num, by rw [hs2, hw2, hww]⟩
          case measure => simp [intOf]; omega
          -- q1>
        · obtain ⟨q, hq⟩ : ∃ q, q + 1 = j := ⟨j - 1, by omega⟩
          have hA9 := hA (by omega) hlt
          obtain ⟨bb', off', hAe, hb', c0'⟩ := hI9.out q (by omega)
          cases hAe
          rw [hHE.out q (by omega)] at c0'
          have hq1 : j - 1 = q := by omega
          rw [hq1] at hA9
          generalize es.getD q 0 = e0 at *
          have hw1 : IntKind.i64.wrap ((j : Int) - 1) = (q : Int) := by rw [IntWalk.i64_in _ (by omega)]; omega
          have hp0 : (0 : Int) ≤ (q : Int) := by omega
          have hp1 : (q : Int) < (m : Int) := by omega
          have HZ := hid (show decide ((0 : Int) < (j : Int)) = true from decide_eq_true (by omega))
          have HZ2 := hid (show decide (0 < j) = true from decide_eq_true (by omega))
          have D2 := hid (show decide ((ee : Int) ≤ (e0 : Int)) = false from decide_eq_false (by omega))
          have D3 := hid (show decide (ee ≤ e0) = false from decide_eq_false (by omega))
          clear hj9 hI9 hHE hA hq hq1
          go_wp2_with fail
          as_aux_lemma =>
          -- <q2
          refine wp_region_held_drew (S := fun w' => (∀ b o, b < wr.heap.size → w'.cell? ⟨b, o, none⟩ = wr.cell? ⟨b, o, none⟩) ∧ wr.heap.size ≤ w'.heap.size ∧ Ext wr w') (by kernel_rfl) ?hS0 (fun hHeld => ?_)
          case hS0 => exact sK (Ext.drew (Ext.refl _))
          have X0 : Ext wr wr.drew := Ext.drew (Ext.refl wr)
          have EX := X0
          obtain ⟨X, hX⟩ : ∃ X, wr.drew = X := ⟨_, rfl⟩
          rw [hX] at EX hHeld ⊢
          clear hX X0
          refine tk1 (i := 0) (v := ?v0b) rfl ?y0b ?r0b
          case y0b => (intro w' hSw; (try dsimp only at hSw); go_simp; (try with_reducible rfl))
          try simp only [Act.put, sq1, sq2, sq3, sq4, sq5, sq6]
          refine tk1 (i := 1) (v := ?v1b) rfl ?y1b ?r1b
          case y1b => (intro w' hSw; (try dsimp only at hSw); go_simp; (try with_reducible rfl))
          try simp only [Act.put, sq1, sq2, sq3, sq4, sq5, sq6]
          refine tk1 (i := 2) (v := ?v2b) rfl ?y2b ?r2b
          case y2b => (intro w' hSw; (try dsimp only at hSw); go_simp; (try with_reducible rfl))
          try simp only [Act.put, sq1, sq2, sq3, sq4, sq5, sq6]
          refine tk1 (i := 3) (v := ?v3b) rfl ?y3b ?r3b
          case y3b => (intro w' hSw; (try dsimp only at hSw); go_simp; (try with_reducible rfl))
          try simp only [Act.put, sq1, sq2, sq3, sq4, sq5, sq6]
          refine tk1 (i := 4) (v := ?v4b) rfl ?y4b ?r4b
          case y4b => (intro w' hSw; (try dsimp only at hSw); go_simp; (try simp only [HZ0.out]); (try with_reducible rfl))
          try simp only [Act.put, sq1, sq2, sq3, sq4, sq5, sq6]
          refine tk1 (i := 5) (v := ?v5b) rfl ?y5b ?r5b
          case y5b => (intro w' hSw; (try dsimp only at hSw); go_simp; (try with_reducible rfl))
          try simp only [Act.put, sq1, sq2, sq3, sq4, sq5, sq6]
          refine tk1 (i := 6) (v := ?v6b) rfl ?y6b ?r6b
          case y6b => (intro w' hSw; (try dsimp only at hSw); go_simp; (try with_reducible rfl))
          try simp only [Act.put, sq1, sq2, sq3, sq4, sq5, sq6]
          refine tk1 (i := 7) (v := ?v7b) rfl ?y7b ?r7b
          case y7b => (intro w' hSw; (try dsimp only at hSw); go_simp; (try with_reducible rfl))
          try simp only [Act.put, sq1, sq2, sq3, sq4, sq5, sq6]
          refine tk1 (i := 8) (v := ?v8b) rfl ?y8b ?r8b
          case y8b => (intro w' hSw; (try dsimp only at hSw); go_simp; (try with_reducible rfl))
          try simp only [Act.put, sq1, sq2, sq3, sq4, sq5, sq6]
          refine tk1 (i := 9) (v := ?v9b) rfl ?y9b ?r9b
          case y9b => (intro w' hSw; (try dsimp only at hSw); go_simp; (try with_reducible rfl))
          try simp only [Act.put, sq1, sq2, sq3, sq4, sq5, sq6]
          refine tk1 (i := 10) (v := ?v10b) rfl ?y10b ?r10b
          case y10b => (intro w' hSw; (try dsimp only at hSw); go_simp; (try with_reducible rfl))
          try simp only [Act.put, sq1, sq2, sq3, sq4, sq5, sq6]
          refine tk1 (i := 11) (v := ?v11b) rfl ?y11b ?r11b
          case y11b => (intro w' hSw; (try dsimp only at hSw); go_simp; (try with_reducible rfl))
          try simp only [Act.put, sq1, sq2, sq3, sq4, sq5, sq6]
          refine tk1 (i := 12) (v := ?v12b) rfl ?y12b ?r12b
          case y12b => (intro w' hSw; (try dsimp only at hSw); go_simp; (try simp only [HZ1.out, HZ1'.out]); (try with_reducible rfl))
          try simp only [Act.put, sq1, sq2, sq3, sq4, sq5, sq6]
          refine tk1 (i := 13) (v := ?v13b) rfl ?y13b ?r13b
          case y13b => (intro w' hSw; (try dsimp only at hSw); go_simp; (try with_reducible rfl))
          try simp only [Act.put, sq1, sq2, sq3, sq4, sq5, sq6]
          refine tk1 (i := 14) (v := ?v14b) rfl ?y14b ?r14b
          case y14b => (intro w' hSw; (try dsimp only at hSw); go_simp; (try with_reducible rfl))
          try simp only [Act.put, sq1, sq2, sq3, sq4, sq5, sq6]
          refine tk1 (i := 15) (v := ?v15b) rfl ?y15b ?r15b
          case y15b => (intro w' hSw; (try dsimp only at hSw); go_simp; (try with_reducible rfl))
          try simp only [Act.put, sq1, sq2, sq3, sq4, sq5, sq6]
          refine tk1 (i := 16) (v := ?v16b) rfl ?y16b ?r16b
          case y16b => (intro w' hSw; (try dsimp only at hSw); go_simp; (try simp only [HZ.out, HZ2.out]); (try with_reducible rfl))
          try simp only [Act.put, sq1, sq2, sq3, sq4, sq5, sq6]
          refine tk1 (i := 17) (v := ?v17b) rfl ?y17b ?r17b
          case y17b => (intro w' hSw; (try dsimp only at hSw); go_simp; (try with_reducible rfl))
          try simp only [Act.put, sq1, sq2, sq3, sq4, sq5, sq6]
          refine tk1 (i := 18) (v := ?v18b) rfl ?y18b ?r18b
          case y18b => (intro w' hSw; (try dsimp only at hSw); go_simp; (try with_reducible rfl))
          try simp only [Act.put, sq1, sq2, sq3, sq4, sq5, sq6]
          refine tk1 (i := 19) (v := ?v19b) rfl ?y19b ?r19b
          case y19b => (intro w' hSw; (try dsimp only at hSw); go_simp; (try with_reducible rfl))
          try simp only [Act.put, sq1, sq2, sq3, sq4, sq5, sq6]
          refine tk1 (i := 20) (v := ?v20b) rfl ?y20b ?r20b
          case y20b => (intro w' hSw; (try dsimp only at hSw); go_simp; (try with_reducible rfl))
          try simp only [Act.put, sq1, sq2, sq3, sq4, sq5, sq6]
          refine tk1 (i := 21) (v := ?v21b) rfl ?y21b ?r21b
          case y21b => (intro w' hSw; (try dsimp only at hSw); go_simp; (try with_reducible rfl))
          try simp only [Act.put, sq1, sq2, sq3, sq4, sq5, sq6]
          refine tk1 (i := 22) (v := ?v22b) rfl ?y22b ?r22b
          case y22b => (intro w' hSw; (try dsimp only at hSw); go_simp; (try with_reducible rfl))
          try simp only [Act.put, sq1, sq2, sq3, sq4, sq5, sq6]
          refine tk1 (i := 23) (v := ?v23b) rfl ?y23b ?r23b
          case y23b => (intro w' hSw; (try dsimp only at hSw); go_simp; (try with_reducible rfl))
          try simp only [Act.put, sq1, sq2, sq3, sq4, sq5, sq6]
          refine tk1 (i := 24) (v := ?v24b) rfl ?y24b ?r24b
          case y24b => (intro w' hSw; (try dsimp only at hSw); go_simp; (try simp only [hw1]); (try with_reducible rfl))
          try simp only [Act.put, sq1, sq2, sq3, sq4, sq5, sq6]
          refine tk1 (i := 25) (v := ?v25b) rfl ?y25b ?r25b
          case y25b => (intro w' hSw; (try dsimp only at hSw); go_simp; (try with_reducible rfl))
          try simp only [Act.put, sq1, sq2, sq3, sq4, sq5, sq6]
          refine tk1 (i := 26) (v := ?v26b) rfl ?y26b ?r26b
          case y26b => (intro w' hSw; (try dsimp only at hSw); go_simp; (try with_reducible rfl))
          try simp only [Act.put, sq1, sq2, sq3, sq4, sq5, sq6]
          refine tk1 (i := 27) (v := ?v27b) rfl ?y27b ?r27b
          case y27b => (intro w' hSw; (try dsimp only at hSw); go_simp; (try simp only [D2.out, D3.out]); (try with_reducible rfl))
          try simp only [Act.put, sq1, sq2, sq3, sq4, sq5, sq6]
          refine tk1 (i := 28) (v := ?v28b) rfl ?y28b ?r28b
          case y28b => (intro w' hSw; (try dsimp only at hSw); go_simp; (try with_reducible rfl))
          try simp only [Act.put, sq1, sq2, sq3, sq4, sq5, sq6]
          refine tk1 (i := 29) (v := ?v29b) rfl ?y29b ?r29b
          case y29b => (intro w' hSw; (try dsimp only at hSw); go_simp; (try with_reducible rfl))
          try simp only [Act.put, sq1, sq2, sq3, sq4, sq5, sq6]
          refine wpAnyH_done (by kernel_rfl) ?_ _
          have EX2 := hid EX
          have c0X := (EX.cell (p := ⟨bb, off + j, none⟩) hb).trans c0
          have hbX : bb < X.heap.size := Nat.lt_of_lt_of_le hb EX.size
          clear hHeld EX
          go_wp2_with fail
          go_roundw
          case rel =>
            obtain ⟨e1, e2, e3, e4⟩ := HQ.out
            have h9 : s2 ≤ 2000 := by clear e1 e2; omega
            have hww : wrap64 ((s1 : Int) + 2 ^ ee) = (s2 : Int) := by rw [← e1]; exact wrap_in ⟨Int.natCast_nonneg _, Int.ofNat_le.2 (Nat.le_trans h9 (by decide))⟩
            have hw2 : wrap64 ((2 : Int) ^ ee) = (2 : Int) ^ ee := wrap_in ⟨e2.2, Int.le_trans e2.1 (by decide)⟩
            exact ⟨E5.trans EX2.out, hid (K5.out.ext EX2.out), hid (I5h.out.ext EX2.out), j + 1, by omega, by go_num, by rw [hs2, hw2, hww]⟩
          case measure => simp [intOf]; omega
          -- q2>
      · obtain rfl : j = m := by omega
        have hse := HSE.out
        rw [hse]
        clear hse HES HSU HSB HAS I5 HL1 HSE
        have a1 := K5.out.cell 1
        have z0 := K5.out.lt
        simp only [List.getElem?_toArray, List.getElem?_cons_zero, List.getElem?_cons_succ] at a1
        go_upto_region 20 with fail
        go_cut [199] from 180 to 198 (fun s199 wx => s199 = .bool false ∧ wx = wr)
        case first =>
          as_aux_lemma =>
          by_cases hyN : yrs ≤ (N : Int)
          · have hj0 := hyc hyN
            subst hj0
            have hyN2 : ¬ (N : Int) < yrs := by omega
            go_wp2_with fail
            go_meet
            exact ⟨by first | rfl | (simp; done) | (simp [hyN2]; done) | (simp; omega), rfl⟩
          · have hjp : ¬ ((j : Int) = 0) := fun h => hyN (hym (by omega))
            have hjq : (0 : Int) < (j : Int) := by omega
            go_wp2_with fail
            go_meet
            exact ⟨by first | rfl | (simp; done) | (simp [hyN, hjp]; done) | (simp; omega), rfl⟩
        case rest =>
        obtain ⟨rfl, rfl⟩ := hcut
        clear a1 z0 hyc hym hm8
        go_wp2_with fail
        have hB63 : b < 9223372036854775808 := by omega
        have HPR := hid (fun W hx9 hs9 => lv_pair (ps := ps) (xs := xs) (A := A) (SA := SA) (k := k) (N := N) (b := b) (S := S) (lim := lim) (yrs := yrs) HN.out HSN.out h8 hl hyr hN100 hB63 HST.out HPB.out HIN.out HT1.out HT2.out W hx9 hs9)
        have E6 := hid E5
        clear E5 hB63 hb256 hE hK hC hF hX HC HIN HPB HT1 HT2
        go_loopw [14, 15] (fun r i wx => Ext w wx ∧ Hid (Blk wx w.heap.size 92 #[.int .i64 lim, .int .i64 yrs, .int .i64 (S : Int), .slice SA k sc]) ∧
          ∃ (r0 : Bool) (i0 : Nat), i0 ≤ k ∧ i = .int .i64 i0 ∧ r = .bool r0 ∧ Hid (r0 = true → ∀ i' k', i' < i0 → i' < k' → k' < ps.length → hasB S i' = false → hasB S k' = false → tiltB lim yrs (ps.getD i' zeroPo) (ps.getD k' zeroPo) = false)) (fun _ i _ => k - (intOf i).toNat)
        case atStart => exact ⟨E6.out, K5, true, 0, Nat.zero_le _, rfl, rfl, hid (fun _ i' k' h => by omega)⟩
        case round =>
          obtain ⟨E7, K7, r0, i0, hi0, rfl, rfl, HR⟩ := hrel
          obtain ⟨w5, hw5⟩ : ∃ x, x = wr := ⟨_, rfl⟩
          subst hw5
          clear E6 K5
          by_cases hlt : i0 < k
          · have hii : (i0 : Int) < (k : Int) := by omega
            go_wp2_with fail
            have E8 := hid E7
            clear E7
            go_loopw [14, 16] (fun r i wx => Ext w wx ∧ Hid (Blk wx w.heap.size 92 #[.int .i64 lim, .int .i64 yrs, .int .i64 (S : Int), .slice SA k sc]) ∧
              ∃ (r1 : Bool) (j0 : Nat), i0 + 1 ≤ j0 ∧ j0 ≤ k ∧ i = .int .i64 j0 ∧ r = .bool r1 ∧ Hid (r1 = true → r0 = true ∧ ∀ k', i0 < k' → k' < j0 → hasB S i0 = false → hasB S k' = false → tiltB lim yrs (ps.getD i0 zeroPo) (ps.getD k' zeroPo) = false)) (fun _ i _ => k - (intOf i).toNat)
            case atStart => exact ⟨E8.out, K7, r0, i0 + 1, Nat.le_refl _, by omega, by go_num, rfl, hid (fun h => ⟨h, fun k' h1 h2 => by omega⟩)⟩
            case round =>
              obtain ⟨E9, K9, r1, j0, hj1, hj0, rfl, rfl, HR1⟩ := hrel
              clear E8 K7
              by_cases hlt2 : j0 < k
              · have HR2 := hid (fun (h : r1 = true) (h2 : hasB S i0 = false → hasB S j0 = false → tiltB lim yrs (ps.getD i0 zeroPo) (ps.getD j0 zeroPo) = false) =>
                  show r0 = true ∧ ∀ k', i0 < k' → k' < j0 + 1 → hasB S i0 = false → hasB S k' = false → tiltB lim yrs (ps.getD i0 zeroPo) (ps.getD k' zeroPo) = false from
                  ⟨(HR1.out h).1, fun k' a1 a2 a3 a4 => by
                    rcases Nat.lt_succ_iff_lt_or_eq.1 a2 with h9 | rfl
                    · exact (HR1.out h).2 k' a1 h9 a3 a4
                    · exact h2 a3 a4⟩)
                obtain ⟨bb, off, sb, so, xp, xl, xh, yp, yl, yh, v, v', BO, CO, V1, V2, y1, y2', y3, y4, rfl, rfl, ⟨hb, c0, c1, c2, d0, d1, d2⟩, ⟨hsb, s0, s1⟩, ⟨hi00, hii, hj00, hji, h64i, h64j⟩, ⟨hsh1, hsh2, hbb⟩, ⟨hsh3, hsh4, hss⟩, HE1, HE2, HV1, HV2, HTL⟩ :=
                  HPR.out wr (HX.out.ext E9) (HS.out.ext E9) i0 j0 (by omega) hlt2
                clear HR1 HX HS HT3 HPR
                -- <c29
                go_upto_region 29 with fail
                go_cut [17, 18] from 214 to 221 (fun s17 s18 wx => ∃ p q : Nat, s17 = .pointer (some ⟨p, 0, none⟩) ∧ s18 = .pointer (some ⟨q, 0, none⟩) ∧ Ext wr wx ∧ Hid (Blk wx p 95 #[.int .i64 xp, .int .i64 xl, .int .i64 xh]) ∧ Hid (Blk wx q 95 #[.int .i64 yp, .int .i64 yl, .int .i64 yh]))
                case first =>
                  as_aux_lemma =>
                  -- <f29
                  go_wp2_with fail
                  refine wp_region_held_drew (S := fun w' => (∀ b o, b < wr.heap.size → w'.cell? ⟨b, o, none⟩ = wr.cell? ⟨b, o, none⟩) ∧ wr.heap.size ≤ w'.heap.size ∧ Ext wr w') (by kernel_rfl) ?hS0 (fun hHeld => ?_)
                  case hS0 => exact sK (Ext.drew (Ext.refl _))
                  have X0 : Ext wr wr.drew := Ext.drew (Ext.refl wr)
                  have EX := X0
                  obtain ⟨X, hX⟩ : ∃ X, wr.drew = X := ⟨_, rfl⟩
                  rw [hX] at EX hHeld ⊢
                  clear hX X0
                  refine tk1 (i := 0) (v := ?v0r) rfl ?y0r ?r0r
                  case y0r => (intro w' hSw; (try dsimp only at hSw); go_simp; (try with_reducible rfl))
                  try simp only [Act.put, sq1, sq2, sq3, sq4, sq5, sq6]
                  refine tk1 (i := 1) (v := ?v1r) rfl ?y1r ?r1r
                  case y1r => (intro w' hSw; (try dsimp only at hSw); go_simp; (try with_reducible rfl))
                  try simp only [Act.put, sq1, sq2, sq3, sq4, sq5, sq6]
                  refine tk1 (i := 2) (v := ?v2r) rfl ?y2r ?r2r
                  case y2r => (intro w' hSw; (try dsimp only at hSw); go_simp; (try with_reducible rfl))
                  try simp only [Act.put, sq1, sq2, sq3, sq4, sq5, sq6]
                  refine tk1 (i := 3) (v := ?v3r) rfl ?y3r ?r3r
                  case y3r => (intro w' hSw; (try dsimp only at hSw); go_simp; (try with_reducible rfl))
                  try simp only [Act.put, sq1, sq2, sq3, sq4, sq5, sq6]
                  refine tk1 (i := 4) (v := ?v4r) rfl ?y4r ?r4r
                  case y4r => (intro w' hSw; (try dsimp only at hSw); go_simp; (try with_reducible rfl))
                  try simp only [Act.put, sq1, sq2, sq3, sq4, sq5, sq6]
                  refine tk1 (i := 5) (v := ?v5r) rfl ?y5r ?r5r
                  case y5r => (intro w' hSw; (try dsimp only at hSw); go_simp; (try with_reducible rfl))
                  try simp only [Act.put, sq1, sq2, sq3, sq4, sq5, sq6]
                  refine tk1 (i := 6) (v := ?v6r) rfl ?y6r ?r6r
                  case y6r => (intro w' hSw; (try dsimp only at hSw); go_simp; (try with_reducible rfl))
                  try simp only [Act.put, sq1, sq2, sq3, sq4, sq5, sq6]
                  refine tk1 (i := 7) (v := ?v7r) rfl ?y7r ?r7r
                  case y7r => (intro w' hSw; (try dsimp only at hSw); go_simp; (try with_reducible rfl))
                  try simp only [Act.put, sq1, sq2, sq3, sq4, sq5, sq6]
                  refine wpAnyH_ready (rs := [8, 9]) (by kernel_rfl) (by simp) ?_
                  refine AllReadyH.cons (o := _) rfl (fun K hK => ?_) (AllReadyH.cons (o := _) rfl (fun K hK => ?_) AllReadyH.nil)
                  · go_simp
                    obtain ⟨p, hp⟩ : ∃ u, X.heap.size = u := ⟨_, rfl⟩
                    (try have lpq := hid (show p < q by have := sp.out; omega))
                    (try have lqp := hid (show q < p by have := sq.out; omega))
                    (try replace DP := hid (DP.out.alloc (.cells #[.int .i64 0, .int .i64 0, .int .i64 0] 95)))
                    (try replace DQ := hid (DQ.out.alloc (.cells #[.int .i64 0, .int .i64 0, .int .i64 0] 95)))
                    have DP := hid (Blk.new X 95 #[.int .i64 0, .int .i64 0, .int .i64 0])
                    have lp : wr.heap.size ≤ p := by rw [← hp]; exact EX.size
                    replace EX := EX.alloc (.cells #[.int .i64 0, .int .i64 0, .int .i64 0] 95)
                    rw [hp] at DP ⊢
                    clear hHeld
                    refine hK.out _ _ (sK EX) (fun hHeld => ?_)
                    clear hK K
                    try simp only [Act.put, sq1, sq2, sq3, sq4, sq5, sq6]
                    have sp := hid (show (X.alloc (.cells #[.int .i64 0, .int .i64 0, .int .i64 0] 95)).heap.size = p + 1 by simp [hp])
                    obtain ⟨Y, hY⟩ : ∃ Y, X.alloc (.cells #[.int .i64 0, .int .i64 0, .int .i64 0] 95) = Y := ⟨_, rfl⟩
                    rw [hY] at EX hHeld sp ⊢
                    (try rw [hY] at DP)
                    (try rw [hY] at DQ)
                    clear hY hp
                    obtain ⟨X, rfl⟩ : ∃ X, X = Y := ⟨Y, rfl⟩
                    refine wpAnyH_ready (rs := [9]) (by kernel_rfl) (by simp) ?_
                    refine AllReadyH.cons (o := _) rfl (fun K hK => ?_) AllReadyH.nil
                    go_simp
                    obtain ⟨q, hq⟩ : ∃ u, X.heap.size = u := ⟨_, rfl⟩
                    (try have lpq := hid (show p < q by have := sp.out; omega))
                    (try have lqp := hid (show q < p by have := sq.out; omega))
                    (try replace DP := hid (DP.out.alloc (.cells #[.int .i64 0, .int .i64 0, .int .i64 0] 95)))
                    (try replace DQ := hid (DQ.out.alloc (.cells #[.int .i64 0, .int .i64 0, .int .i64 0] 95)))
                    have DQ := hid (Blk.new X 95 #[.int .i64 0, .int .i64 0, .int .i64 0])
                    have lq : wr.heap.size ≤ q := by rw [← hq]; exact EX.size
                    replace EX := EX.alloc (.cells #[.int .i64 0, .int .i64 0, .int .i64 0] 95)
                    rw [hq] at DQ ⊢
                    clear hHeld
                    refine hK.out _ _ (sK EX) (fun hHeld => ?_)
                    clear hK K
                    try simp only [Act.put, sq1, sq2, sq3, sq4, sq5, sq6]
                    have sq := hid (show (X.alloc (.cells #[.int .i64 0, .int .i64 0, .int .i64 0] 95)).heap.size = q + 1 by simp [hq])
                    obtain ⟨Y, hY⟩ : ∃ Y, X.alloc (.cells #[.int .i64 0, .int .i64 0, .int .i64 0] 95) = Y := ⟨_, rfl⟩
                    rw [hY] at EX hHeld sq ⊢
                    (try rw [hY] at DP)
                    (try rw [hY] at DQ)
                    clear hY hq
                    obtain ⟨X, rfl⟩ : ∃ X, X = Y := ⟨Y, rfl⟩
                    have hpq : ¬ p = q := by first | (have := lpq.out; omega) | (have := lqp.out; omega)
                    refine wpAnyH_ready (rs := [10]) (by kernel_rfl) (by simp) ?_
                    refine AllReadyH.cons (o := _) rfl (fun K hK => ?_) AllReadyH.nil
                    refine wp_store_mid 95 _ _ rfl p 0 (#[.int .i64 xp, .int .i64 xl, .int .i64 xh]) rfl rfl (blk_there DP.out rfl) infoPoS (by simp [Value.oneCell']) ?_
                    have E2 := ext_setCells EX lp [.int .i64 xp, .int .i64 xl, .int .i64 xh] 0
                    have P2 := DP.out.fill [.int .i64 xp, .int .i64 xl, .int .i64 xh] 0
                    have Q2 := DQ.out.others (fun h => hpq h.symm) [.int .i64 xp, .int .i64 xl, .int .i64 xh] 0
                    simp only [fillA, List.setIfInBounds_toArray, List.set_cons_zero, List.set_cons_succ] at P2
                    clear hHeld EX DP DQ
                    refine hK.out _ _ (sK E2) (fun hHeld => ?_)
                    clear hK K
                    try simp only [Act.put, sq1, sq2, sq3, sq4, sq5, sq6]
                    obtain ⟨Y, hY⟩ : ∃ Y, X.setCells p 0 [.int .i64 xp, .int .i64 xl, .int .i64 xh] = Y := ⟨_, rfl⟩
                    rw [hY] at E2 P2 Q2 hHeld ⊢
                    clear hY
                    refine wpAnyH_ready (rs := [11]) (by kernel_rfl) (by simp) ?_
                    refine AllReadyH.cons (o := _) rfl (fun K hK => ?_) AllReadyH.nil
                    refine wp_store_mid 95 _ _ rfl q 0 (#[.int .i64 yp, .int .i64 yl, .int .i64 yh]) rfl rfl (blk_there Q2 rfl) infoPoS (by simp [Value.oneCell']) ?_
                    have E3 := ext_setCells E2 lq [.int .i64 yp, .int .i64 yl, .int .i64 yh] 0
                    have Q3 := Q2.fill [.int .i64 yp, .int .i64 yl, .int .i64 yh] 0
                    have P3 := P2.others hpq [.int .i64 yp, .int .i64 yl, .int .i64 yh] 0
                    simp only [fillA, List.setIfInBounds_toArray, List.set_cons_zero, List.set_cons_succ] at Q3
                    clear hHeld E2 P2 Q2
                    refine hK.out _ _ (sK E3) (fun hHeld => ?_)
                    clear hK K
                    try simp only [Act.put, sq1, sq2, sq3, sq4, sq5, sq6]
                    obtain ⟨Z, hZ⟩ : ∃ Z, Y.setCells q 0 [.int .i64 yp, .int .i64 yl, .int .i64 yh] = Z := ⟨_, rfl⟩
                    rw [hZ] at E3 P3 Q3 hHeld ⊢
                    clear hZ
                    clear hHeld
                    refine wpAnyH_done (by kernel_rfl) ?_ _
                    go_wp2_with fail
                    go_meet
                    exact ⟨p, q, rfl, rfl, E3, hid P3, hid Q3⟩
                  · go_simp
                    obtain ⟨q, hq⟩ : ∃ u, X.heap.size = u := ⟨_, rfl⟩
                    (try have lpq := hid (show p < q by have := sp.out; omega))
                    (try have lqp := hid (show q < p by have := sq.out; omega))
                    (try replace DP := hid (DP.out.alloc (.cells #[.int .i64 0, .int .i64 0, .int .i64 0] 95)))
                    (try replace DQ := hid (DQ.out.alloc (.cells #[.int .i64 0, .int .i64 0, .int .i64 0] 95)))
                    have DQ := hid (Blk.new X 95 #[.int .i64 0, .int .i64 0, .int .i64 0])
                    have lq : wr.heap.size ≤ q := by rw [← hq]; exact EX.size
                    replace EX := EX.alloc (.cells #[.int .i64 0, .int .i64 0, .int .i64 0] 95)
                    rw [hq] at DQ ⊢
                    clear hHeld
                    refine hK.out _ _ (sK EX) (fun hHeld => ?_)
                    clear hK K
                    try simp only [Act.put, sq1, sq2, sq3, sq4, sq5, sq6]
                    have sq := hid (show (X.alloc (.cells #[.int .i64 0, .int .i64 0, .int .i64 0] 95)).heap.size = q + 1 by simp [hq])
                    obtain ⟨Y, hY⟩ : ∃ Y, X.alloc (.cells #[.int .i64 0, .int .i64 0, .int .i64 0] 95) = Y := ⟨_, rfl⟩
                    rw [hY] at EX hHeld sq ⊢
                    (try rw [hY] at DP)
                    (try rw [hY] at DQ)
                    clear hY hq
                    obtain ⟨X, rfl⟩ : ∃ X, X = Y := ⟨Y, rfl⟩
                    refine wpAnyH_ready (rs := [8]) (by kernel_rfl) (by simp) ?_
                    refine AllReadyH.cons (o := _) rfl (fun K hK => ?_) AllReadyH.nil
                    go_simp
                    obtain ⟨p, hp⟩ : ∃ u, X.heap.size = u := ⟨_, rfl⟩
                    (try have lpq := hid (show p < q by have := sp.out; omega))
                    (try have lqp := hid (show q < p by have := sq.out; omega))
                    (try replace DP := hid (DP.out.alloc (.cells #[.int .i64 0, .int .i64 0, .int .i64 0] 95)))
                    (try replace DQ := hid (DQ.out.alloc (.cells #[.int .i64 0, .int .i64 0, .int .i64 0] 95)))
                    have DP := hid (Blk.new X 95 #[.int .i64 0, .int .i64 0, .int .i64 0])
                    have lp : wr.heap.size ≤ p := by rw [← hp]; exact EX.size
                    replace EX := EX.alloc (.cells #[.int .i64 0, .int .i64 0, .int .i64 0] 95)
                    rw [hp] at DP ⊢
                    clear hHeld
                    refine hK.out _ _ (sK EX) (fun hHeld => ?_)
                    clear hK K
                    try simp only [Act.put, sq1, sq2, sq3, sq4, sq5, sq6]
                    have sp := hid (show (X.alloc (.cells #[.int .i64 0, .int .i64 0, .int .i64 0] 95)).heap.size = p + 1 by simp [hp])
                    obtain ⟨Y, hY⟩ : ∃ Y, X.alloc (.cells #[.int .i64 0, .int .i64 0, .int .i64 0] 95) = Y := ⟨_, rfl⟩
                    rw [hY] at EX hHeld sp ⊢
                    (try rw [hY] at DP)
                    (try rw [hY] at DQ)
                    clear hY hp
                    obtain ⟨X, rfl⟩ : ∃ X, X = Y := ⟨Y, rfl⟩
                    have hpq : ¬ p = q := by first | (have := lpq.out; omega) | (have := lqp.out; omega)
                    refine wpAnyH_ready (rs := [10]) (by kernel_rfl) (by simp) ?_
                    refine AllReadyH.cons (o := _) rfl (fun K hK => ?_) AllReadyH.nil
                    refine wp_store_mid 95 _ _ rfl p 0 (#[.int .i64 xp, .int .i64 xl, .int .i64 xh]) rfl rfl (blk_there DP.out rfl) infoPoS (by simp [Value.oneCell']) ?_
                    have E2 := ext_setCells EX lp [.int .i64 xp, .int .i64 xl, .int .i64 xh] 0
                    have P2 := DP.out.fill [.int .i64 xp, .int .i64 xl, .int .i64 xh] 0
                    have Q2 := DQ.out.others (fun h => hpq h.symm) [.int .i64 xp, .int .i64 xl, .int .i64 xh] 0
                    simp only [fillA, List.setIfInBounds_toArray, List.set_cons_zero, List.set_cons_succ] at P2
                    clear hHeld EX DP DQ
                    refine hK.out _ _ (sK E2) (fun hHeld => ?_)
                    clear hK K
                    try simp only [Act.put, sq1, sq2, sq3, sq4, sq5, sq6]
                    obtain ⟨Y, hY⟩ : ∃ Y, X.setCells p 0 [.int .i64 xp, .int .i64 xl, .int .i64 xh] = Y := ⟨_, rfl⟩
                    rw [hY] at E2 P2 Q2 hHeld ⊢
                    clear hY
                    refine wpAnyH_ready (rs := [11]) (by kernel_rfl) (by simp) ?_
                    refine AllReadyH.cons (o := _) rfl (fun K hK => ?_) AllReadyH.nil
                    refine wp_store_mid 95 _ _ rfl q 0 (#[.int .i64 yp, .int .i64 yl, .int .i64 yh]) rfl rfl (blk_there Q2 rfl) infoPoS (by simp [Value.oneCell']) ?_
                    have E3 := ext_setCells E2 lq [.int .i64 yp, .int .i64 yl, .int .i64 yh] 0
                    have Q3 := Q2.fill [.int .i64 yp, .int .i64 yl, .int .i64 yh] 0
                    have P3 := P2.others hpq [.int .i64 yp, .int .i64 yl, .int .i64 yh] 0
                    simp only [fillA, List.setIfInBounds_toArray, List.set_cons_zero, List.set_cons_succ] at Q3
                    clear hHeld E2 P2 Q2
                    refine hK.out _ _ (sK E3) (fun hHeld => ?_)
                    clear hK K
                    try simp only [Act.put, sq1, sq2, sq3, sq4, sq5, sq6]
                    obtain ⟨Z, hZ⟩ : ∃ Z, Y.setCells q 0 [.int .i64 yp, .int .i64 yl, .int .i64 yh] = Z := ⟨_, rfl⟩
                    rw [hZ] at E3 P3 Q3 hHeld ⊢
                    clear hZ
                    clear hHeld
                    refine wpAnyH_done (by kernel_rfl) ?_ _
                    go_wp2_with fail
                    go_meet
                    exact ⟨p, q, rfl, rfl, E3, hid P3, hid Q3⟩
                  -- f29>
                case rest =>
                -- <r29
                obtain ⟨p, q, rfl, rfl, E10, P10, Q10⟩ := hcut
                obtain ⟨wz, hwz⟩ : ∃ z, z = wc := ⟨_, rfl⟩
                subst hwz
                have K10 := hid (K9.out.ext E10)
                have t0 := (E10.cell (p := ⟨sb, so + i0, none⟩) hsb).trans s0
                have t1 := (E10.cell (p := ⟨sb, so + j0, none⟩) hsb).trans s1
                have hsz := Nat.lt_of_lt_of_le hsb E10.size
                have E11 := hid (E9.trans E10)
                clear c0 c1 c2 d0 d1 d2 s0 s1 hsb hb K9 E9 E10
                obtain ⟨p0, p1, p2, zp⟩ := blk3 P10.out
                obtain ⟨q0, q1, q2, zq⟩ := blk3 Q10.out
                obtain ⟨a0, a1, -, a3, z0⟩ := blk4 K10.out
                -- <c30
                go_upto_region 30 with fail
                go_cut [269] from 222 to 268 (fun s269 wx => s269 = .bool false ∧ Ext wz wx)
                case first =>
                  as_aux_lemma =>
                  -- <f30
                  have hu1 : min (IntKind.u64.wrap (i0 : Int)).toNat 64 = i0 := by rw [IntWalk.u64_in _ (by omega)]; omega
                  have hv1 : (IntKind.u64.wrap (i0 : Int)).toNat = i0 := by rw [IntWalk.u64_in _ (by omega)]; omega
                  have hv2 : (IntKind.u64.wrap (j0 : Int)).toNat = j0 := by rw [IntWalk.u64_in _ (by omega)]; omega
                  have hu2 : min (IntKind.u64.wrap (j0 : Int)).toNat 64 = j0 := by rw [IntWalk.u64_in _ (by omega)]; omega
                  go_wp2_with fail
                  refine wp_region_held_drew (S := fun w' => (∀ b o, b < wz.heap.size → w'.cell? ⟨b, o, none⟩ = wz.cell? ⟨b, o, none⟩) ∧ wz.heap.size ≤ w'.heap.size ∧ Ext wz w') (by kernel_rfl) ?hS0 (fun hHeld => ?_)
                  case hS0 => exact sK (Ext.drew (Ext.refl _))
                  have X0 : Ext wz wz.drew := Ext.drew (Ext.refl wz)
                  have EX := X0
                  obtain ⟨X, hX⟩ : ∃ X, wz.drew = X := ⟨_, rfl⟩
                  rw [hX] at EX hHeld ⊢
                  clear hX X0
                  refine tk1 (i := 0) (v := ?v0s) rfl ?y0s ?r0s
                  case y0s => (intro w' hSw; (try dsimp only at hSw); go_simp; (try with_reducible rfl))
                  try simp only [Act.put, sq1, sq2, sq3, sq4, sq5, sq6]
                  refine tk1 (i := 1) (v := ?v1s) rfl ?y1s ?r1s
                  case y1s => (intro w' hSw; (try dsimp only at hSw); go_simp; (try with_reducible rfl))
                  try simp only [Act.put, sq1, sq2, sq3, sq4, sq5, sq6]
                  refine tk1 (i := 2) (v := ?v2s) rfl ?y2s ?r2s
                  case y2s => (intro w' hSw; (try dsimp only at hSw); go_simp; (try with_reducible rfl))
                  try simp only [Act.put, sq1, sq2, sq3, sq4, sq5, sq6]
                  refine tk1 (i := 3) (v := ?v3s) rfl ?y3s ?r3s
                  case y3s => (intro w' hSw; (try dsimp only at hSw); go_simp; (try with_reducible rfl))
                  try simp only [Act.put, sq1, sq2, sq3, sq4, sq5, sq6]
                  refine tk1 (i := 4) (v := ?v4s) rfl ?y4s ?r4s
                  case y4s => (intro w' hSw; (try dsimp only at hSw); go_simp; (try with_reducible rfl))
                  try simp only [Act.put, sq1, sq2, sq3, sq4, sq5, sq6]
                  refine tk1 (i := 5) (v := ?v5s) rfl ?y5s ?r5s
                  case y5s => (intro w' hSw; (try dsimp only at hSw); go_simp; (try with_reducible rfl))
                  try simp only [Act.put, sq1, sq2, sq3, sq4, sq5, sq6]
                  refine tk1 (i := 6) (v := ?v6s) rfl ?y6s ?r6s
                  case y6s => (intro w' hSw; (try dsimp only at hSw); go_simp; (try with_reducible rfl))
                  try simp only [Act.put, sq1, sq2, sq3, sq4, sq5, sq6]
                  refine tk1 (i := 7) (v := ?v7s) rfl ?y7s ?r7s
                  case y7s => (intro w' hSw; (try dsimp only at hSw); go_simp; (try with_reducible rfl))
                  try simp only [Act.put, sq1, sq2, sq3, sq4, sq5, sq6]
                  refine tk1 (i := 8) (v := ?v8s) rfl ?y8s ?r8s
                  case y8s => (intro w' hSw; (try dsimp only at hSw); go_simp; (try with_reducible rfl))
                  try simp only [Act.put, sq1, sq2, sq3, sq4, sq5, sq6]
                  refine tk1 (i := 9) (v := ?v9s) rfl ?y9s ?r9s
                  case y9s => (intro w' hSw; (try dsimp only at hSw); go_simp; (try with_reducible rfl))
                  try simp only [Act.put, sq1, sq2, sq3, sq4, sq5, sq6]
                  refine tk1 (i := 10) (v := ?v10s) rfl ?y10s ?r10s
                  case y10s => (intro w' hSw; (try dsimp only at hSw); go_simp; (try with_reducible rfl))
                  try simp only [Act.put, sq1, sq2, sq3, sq4, sq5, sq6]
                  refine tk1 (i := 11) (v := ?v11s) rfl ?y11s ?r11s
                  case y11s => (intro w' hSw; (try dsimp only at hSw); go_simp; (try with_reducible rfl))
                  try simp only [Act.put, sq1, sq2, sq3, sq4, sq5, sq6]
                  refine tk1 (i := 12) (v := ?v12s) rfl ?y12s ?r12s
                  case y12s => (intro w' hSw; (try dsimp only at hSw); go_simp; (try with_reducible rfl))
                  try simp only [Act.put, sq1, sq2, sq3, sq4, sq5, sq6]
                  refine tk1 (i := 13) (v := ?v13s) rfl ?y13s ?r13s
                  case y13s => (intro w' hSw; (try dsimp only at hSw); go_simp; (try with_reducible rfl))
                  try simp only [Act.put, sq1, sq2, sq3, sq4, sq5, sq6]
                  refine tk1 (i := 14) (v := ?v14s) rfl ?y14s ?r14s
                  case y14s => (intro w' hSw; (try dsimp only at hSw); go_simp; (try with_reducible rfl))
                  try simp only [Act.put, sq1, sq2, sq3, sq4, sq5, sq6]
                  refine wpAnyH_ready (rs := [15]) (by kernel_rfl) (by simp) ?_
                  refine AllReadyH.cons (o := _) rfl (fun K hK => ?_) AllReadyH.nil
                  go_simp
                  refine Calls.mono (HE1.out _) ?_
                  rintro e w2 ⟨rfl, hE9⟩
                  dsimp only
                  have EX3 := EX.trans hE9
                  clear hHeld EX hE9
                  refine hK.out _ _ (sK EX3) (fun hHeld => ?_)
                  clear hK K
                  try simp only [Act.put, sq1, sq2, sq3, sq4, sq5, sq6]
                  refine tk1 (i := 16) (v := ?v16s) rfl ?y16s ?r16s
                  case y16s => (intro w' hSw; (try dsimp only at hSw); go_simp; (try with_reducible rfl))
                  try simp only [Act.put, sq1, sq2, sq3, sq4, sq5, sq6]
                  refine tk1 (i := 17) (v := ?v17s) rfl ?y17s ?r17s
                  case y17s => (intro w' hSw; (try dsimp only at hSw); go_simp; (try with_reducible rfl))
                  try simp only [Act.put, sq1, sq2, sq3, sq4, sq5, sq6]
                  refine tk1 (i := 18) (v := ?v18s) rfl ?y18s ?r18s
                  case y18s => (intro w' hSw; (try dsimp only at hSw); go_simp; (try with_reducible rfl))
                  try simp only [Act.put, sq1, sq2, sq3, sq4, sq5, sq6]
                  refine tk1 (i := 19) (v := ?v19s) rfl ?y19s ?r19s
                  case y19s => (intro w' hSw; (try dsimp only at hSw); go_simp; (try with_reducible rfl))
                  try simp only [Act.put, sq1, sq2, sq3, sq4, sq5, sq6]
                  refine tk1 (i := 20) (v := ?v20s) rfl ?y20s ?r20s
                  case y20s => (intro w' hSw; (try dsimp only at hSw); go_simp; (try with_reducible rfl))
                  try simp only [Act.put, sq1, sq2, sq3, sq4, sq5, sq6]
                  refine tk1 (i := 21) (v := ?v21s) rfl ?y21s ?r21s
                  case y21s => (intro w' hSw; (try dsimp only at hSw); go_simp; (try with_reducible rfl))
                  try simp only [Act.put, sq1, sq2, sq3, sq4, sq5, sq6]
                  refine tk1 (i := 22) (v := ?v22s) rfl ?y22s ?r22s
                  case y22s => (intro w' hSw; (try dsimp only at hSw); go_simp; (try with_reducible rfl))
                  try simp only [Act.put, sq1, sq2, sq3, sq4, sq5, sq6]
                  refine tk1 (i := 23) (v := ?v23s) rfl ?y23s ?r23s
                  case y23s => (intro w' hSw; (try dsimp only at hSw); go_simp; (try with_reducible rfl))
                  try simp only [Act.put, sq1, sq2, sq3, sq4, sq5, sq6]
                  refine tk1 (i := 24) (v := ?v24s) rfl ?y24s ?r24s
                  case y24s => (intro w' hSw; (try dsimp only at hSw); go_simp; (try with_reducible rfl))
                  try simp only [Act.put, sq1, sq2, sq3, sq4, sq5, sq6]
                  refine tk1 (i := 25) (v := ?v25s) rfl ?y25s ?r25s
                  case y25s => (intro w' hSw; (try dsimp only at hSw); go_simp; (try with_reducible rfl))
                  try simp only [Act.put, sq1, sq2, sq3, sq4, sq5, sq6]
                  refine tk1 (i := 26) (v := ?v26s) rfl ?y26s ?r26s
                  case y26s => (intro w' hSw; (try dsimp only at hSw); go_simp; (try with_reducible rfl))
                  try simp only [Act.put, sq1, sq2, sq3, sq4, sq5, sq6]
                  refine tk1 (i := 27) (v := .bool BO) rfl ?y27s ?r27s
                  case y27s =>
                    intro w' hSw
                    (try dsimp only at hSw)
                    go_simp
                    all_goals first | (rw [hu1, hu2, hsh1, hsh2, hbb]; done) | (simp only [hu1, hu2, hv1, hv2, h64i, h64j, hsh1, hsh2, hbb]; done) | (rw [hv1, hv2, hsh1, hsh2, hbb]; done) | (rw [hv2, hsh2, hbb]; done) | (rw [hv1, hsh1, hbb]; done)
                  try simp only [Act.put, sq1, sq2, sq3, sq4, sq5, sq6]
                  refine tk1 (i := 28) (v := ?v28s) rfl ?y28s ?r28s
                  case y28s => (intro w' hSw; (try dsimp only at hSw); go_simp; (try with_reducible rfl))
                  try simp only [Act.put, sq1, sq2, sq3, sq4, sq5, sq6]
                  cases BO
                  case false =>
                    refine tku1 (i := 29) rfl ?r29s
                    try simp only [Act.put, sq1, sq2, sq3, sq4, sq5, sq6]
                    refine tku1 (i := 30) rfl ?r30s
                    try simp only [Act.put, sq1, sq2, sq3, sq4, sq5, sq6]
                    refine tku1 (i := 31) rfl ?r31s
                    try simp only [Act.put, sq1, sq2, sq3, sq4, sq5, sq6]
                    refine tku1 (i := 32) rfl ?r32s
                    try simp only [Act.put, sq1, sq2, sq3, sq4, sq5, sq6]
                    refine tku1 (i := 33) rfl ?r33s
                    try simp only [Act.put, sq1, sq2, sq3, sq4, sq5, sq6]
                    refine tku1 (i := 34) rfl ?r34s
                    try simp only [Act.put, sq1, sq2, sq3, sq4, sq5, sq6]
                    refine tku1 (i := 35) rfl ?r35s
                    try simp only [Act.put, sq1, sq2, sq3, sq4, sq5, sq6]
                    refine tku1 (i := 36) rfl ?r36s
                    try simp only [Act.put, sq1, sq2, sq3, sq4, sq5, sq6]
                    refine tku1 (i := 37) rfl ?r37s
                    try simp only [Act.put, sq1, sq2, sq3, sq4, sq5, sq6]
                    refine tku1 (i := 38) rfl ?r38s
                    try simp only [Act.put, sq1, sq2, sq3, sq4, sq5, sq6]
                    refine tku1 (i := 39) rfl ?r39s
                    try simp only [Act.put, sq1, sq2, sq3, sq4, sq5, sq6]
                    refine tku1 (i := 40) rfl ?r40s
                    try simp only [Act.put, sq1, sq2, sq3, sq4, sq5, sq6]
                    refine tku1 (i := 41) rfl ?r41s
                    try simp only [Act.put, sq1, sq2, sq3, sq4, sq5, sq6]
                    refine tku1 (i := 42) rfl ?r42s
                    try simp only [Act.put, sq1, sq2, sq3, sq4, sq5, sq6]
                    refine tku1 (i := 43) rfl ?r43s
                    try simp only [Act.put, sq1, sq2, sq3, sq4, sq5, sq6]
                    refine tku1 (i := 44) rfl ?r44s
                    try simp only [Act.put, sq1, sq2, sq3, sq4, sq5, sq6]
                    refine tku1 (i := 45) rfl ?r45s
                    try simp only [Act.put, sq1, sq2, sq3, sq4, sq5, sq6]
                    refine tk1 (i := 46) (v := ?v46s) rfl ?y46s ?r46s
                    case y46s => (intro w' hSw; (try dsimp only at hSw); go_simp; (try with_reducible rfl))
                    try simp only [Act.put, sq1, sq2, sq3, sq4, sq5, sq6]
                    refine tk1 (i := 47) (v := ?v47s) rfl ?y47s ?r47s
                    case y47s => (intro w' hSw; (try dsimp only at hSw); go_simp; (try with_reducible rfl))
                    try simp only [Act.put, sq1, sq2, sq3, sq4, sq5, sq6]
                    refine wpAnyH_done (by kernel_rfl) ?_ _
                    clear hHeld
                    go_wp2_with fail
                    go_meet
                    exact ⟨rfl, EX3⟩
                  case true =>
                    replace HE2 := hid (HE2.out rfl)
                    refine tk1 (i := 29) (v := ?v29u) rfl ?y29u ?r29u
                    case y29u => (intro w' hSw; (try dsimp only at hSw); go_simp; (try with_reducible rfl))
                    try simp only [Act.put, sq1, sq2, sq3, sq4, sq5, sq6]
                    refine tk1 (i := 30) (v := ?v30u) rfl ?y30u ?r30u
                    case y30u => (intro w' hSw; (try dsimp only at hSw); go_simp; (try with_reducible rfl))
                    try simp only [Act.put, sq1, sq2, sq3, sq4, sq5, sq6]
                    refine tk1 (i := 31) (v := ?v31u) rfl ?y31u ?r31u
                    case y31u => (intro w' hSw; (try dsimp only at hSw); go_simp; (try with_reducible rfl))
                    try simp only [Act.put, sq1, sq2, sq3, sq4, sq5, sq6]
                    refine tk1 (i := 32) (v := ?v32u) rfl ?y32u ?r32u
                    case y32u => (intro w' hSw; (try dsimp only at hSw); go_simp; (try with_reducible rfl))
                    try simp only [Act.put, sq1, sq2, sq3, sq4, sq5, sq6]
                    refine tk1 (i := 33) (v := ?v33u) rfl ?y33u ?r33u
                    case y33u => (intro w' hSw; (try dsimp only at hSw); go_simp; (try with_reducible rfl))
                    try simp only [Act.put, sq1, sq2, sq3, sq4, sq5, sq6]
                    refine tk1 (i := 34) (v := ?v34u) rfl ?y34u ?r34u
                    case y34u => (intro w' hSw; (try dsimp only at hSw); go_simp; (try with_reducible rfl))
                    try simp only [Act.put, sq1, sq2, sq3, sq4, sq5, sq6]
                    refine tk1 (i := 35) (v := ?v35u) rfl ?y35u ?r35u
                    case y35u => (intro w' hSw; (try dsimp only at hSw); go_simp; (try with_reducible rfl))
                    try simp only [Act.put, sq1, sq2, sq3, sq4, sq5, sq6]
                    refine tk1 (i := 36) (v := ?v36u) rfl ?y36u ?r36u
                    case y36u => (intro w' hSw; (try dsimp only at hSw); go_simp; (try with_reducible rfl))
                    try simp only [Act.put, sq1, sq2, sq3, sq4, sq5, sq6]
                    refine tk1 (i := 37) (v := ?v37u) rfl ?y37u ?r37u
                    case y37u => (intro w' hSw; (try dsimp only at hSw); go_simp; (try with_reducible rfl))
                    try simp only [Act.put, sq1, sq2, sq3, sq4, sq5, sq6]
                    refine tk1 (i := 38) (v := ?v38u) rfl ?y38u ?r38u
                    case y38u => (intro w' hSw; (try dsimp only at hSw); go_simp; (try with_reducible rfl))
                    try simp only [Act.put, sq1, sq2, sq3, sq4, sq5, sq6]
                    refine tk1 (i := 39) (v := ?v39u) rfl ?y39u ?r39u
                    case y39u => (intro w' hSw; (try dsimp only at hSw); go_simp; (try with_reducible rfl))
                    try simp only [Act.put, sq1, sq2, sq3, sq4, sq5, sq6]
                    refine tk1 (i := 40) (v := ?v40u) rfl ?y40u ?r40u
                    case y40u => (intro w' hSw; (try dsimp only at hSw); go_simp; (try with_reducible rfl))
                    try simp only [Act.put, sq1, sq2, sq3, sq4, sq5, sq6]
                    refine tk1 (i := 41) (v := ?v41u) rfl ?y41u ?r41u
                    case y41u => (intro w' hSw; (try dsimp only at hSw); go_simp; (try with_reducible rfl))
                    try simp only [Act.put, sq1, sq2, sq3, sq4, sq5, sq6]
                    refine tk1 (i := 42) (v := ?v42u) rfl ?y42u ?r42u
                    case y42u => (intro w' hSw; (try dsimp only at hSw); go_simp; (try with_reducible rfl))
                    try simp only [Act.put, sq1, sq2, sq3, sq4, sq5, sq6]
                    refine tk1 (i := 43) (v := ?v43u) rfl ?y43u ?r43u
                    case y43u => (intro w' hSw; (try dsimp only at hSw); go_simp; (try with_reducible rfl))
                    try simp only [Act.put, sq1, sq2, sq3, sq4, sq5, sq6]
                    refine tk1 (i := 44) (v := ?v44u) rfl ?y44u ?r44u
                    case y44u => (intro w' hSw; (try dsimp only at hSw); go_simp; (try with_reducible rfl))
                    try simp only [Act.put, sq1, sq2, sq3, sq4, sq5, sq6]
                    refine wpAnyH_ready (rs := [45]) (by kernel_rfl) (by simp) ?_
                    refine AllReadyH.cons (o := _) rfl (fun K hK => ?_) AllReadyH.nil
                    go_simp
                    refine Calls.mono (HE2.out _) ?_
                    rintro e w3 ⟨rfl, hE9⟩
                    dsimp only
                    have EX4 := EX3.trans hE9
                    clear hHeld EX3 hE9
                    refine hK.out _ _ (sK EX4) (fun hHeld => ?_)
                    clear hK K
                    try simp only [Act.put, sq1, sq2, sq3, sq4, sq5, sq6]
                    refine tk1 (i := 46) (v := ?v46u) rfl ?y46u ?r46u
                    case y46u => (intro w' hSw; (try dsimp only at hSw); go_simp; (try with_reducible rfl))
                    try simp only [Act.put, sq1, sq2, sq3, sq4, sq5, sq6]
                    refine tk1 (i := 47) (v := ?v47u) rfl ?y47u ?r47u
                    case y47u => (intro w' hSw; (try dsimp only at hSw); go_simp; (try with_reducible rfl))
                    try simp only [Act.put, sq1, sq2, sq3, sq4, sq5, sq6]
                    refine wpAnyH_done (by kernel_rfl) ?_ _
                    clear hHeld
                    go_wp2_with fail
                    go_meet
                    exact ⟨rfl, EX4⟩
                  -- f30>
                case rest =>
                obtain ⟨rfl, E12⟩ := hcut
                obtain ⟨w8, hw8⟩ : ∃ z, z = wc := ⟨_, rfl⟩
                subst hw8
                have K12 := hid (K10.out.ext E12)
                have P12 := hid (P10.out.ext E12)
                have Q12 := hid (Q10.out.ext E12)
                have E13 := hid (E11.out.trans E12)
                clear p0 p1 p2 q0 q1 q2 zp zq a0 a1 a3 z0 t0 t1 hsz E12 E11 K10 P10 Q10 HE1 HE2 hbb hsh1 hsh2
                obtain ⟨p0, p1, p2, zp⟩ := blk3 P12.out
                obtain ⟨q0, q1, q2, zq⟩ := blk3 Q12.out
                obtain ⟨a0, a1, a2, -, z0⟩ := blk4 K12.out
                go_upto_if 282 with fail
                as_aux_lemma =>
                -- <f33
                cases CO
                case false =>
                  have HG := hid (show r1 = true → r1 = true ∧ (hasB S i0 = false → hasB S j0 = false → tiltB lim yrs (ps.getD i0 zeroPo) (ps.getD j0 zeroPo) = false) from fun h => ⟨h, fun a c => by have := HTL.out.2 a c; cases this⟩)
                  clear HTL HV1 HV2
                  go_wp2_with fail
                  go_roundw
                  case rel => exact ⟨E13.out, K12, r1, j0 + 1, by omega, by omega, by go_num, rfl, hid (fun h => HR2.out (HG.out h).1 (HG.out h).2)⟩
                  case measure => simp [intOf]; omega
                case true =>
                  cases r1
                  case false =>
                    clear HTL HV1 HV2
                    go_wp2_with fail
                    go_roundw
                    case rel => exact ⟨E13.out, K12, false, j0 + 1, by omega, by omega, by go_num, rfl, hid (fun h => Bool.noConfusion h)⟩
                    case measure => simp [intOf]; omega
                  case true =>
                    have HG := hid (show V1 = false → V2 = false → tiltB lim yrs (ps.getD i0 zeroPo) (ps.getD j0 zeroPo) = false from HTL.out.1)
                    clear HTL
                    go_wp2_with fail
                    refine Calls.mono (HV1.out _) ?_
                    rintro e w9 ⟨rfl, hE9⟩
                    have p0' := (hE9.cell (p := ⟨p, 0, none⟩) zp).trans p0
                    have p1' := (hE9.cell (p := ⟨p, 1, none⟩) zp).trans p1
                    have p2' := (hE9.cell (p := ⟨p, 2, none⟩) zp).trans p2
                    have q0' := (hE9.cell (p := ⟨q, 0, none⟩) zq).trans q0
                    have q1' := (hE9.cell (p := ⟨q, 1, none⟩) zq).trans q1
                    have q2' := (hE9.cell (p := ⟨q, 2, none⟩) zq).trans q2
                    have a0' := (hE9.cell (p := ⟨w.heap.size, 0, none⟩) z0).trans a0
                    have a1' := (hE9.cell (p := ⟨w.heap.size, 1, none⟩) z0).trans a1
                    have zp' := Nat.lt_of_lt_of_le zp hE9.size
                    have zq' := Nat.lt_of_lt_of_le zq hE9.size
                    have z0' := Nat.lt_of_lt_of_le z0 hE9.size
                    clear p0 p1 p2 q0 q1 q2 a0 a1 a2 zp zq z0
                    cases V1
                    case true =>
                      go_wp2_with fail
                      go_roundw
                      case rel => exact ⟨E13.out.trans (hE9), hid (K12.out.ext (hE9)), false, j0 + 1, by omega, by omega, by go_num, rfl, hid (fun h => Bool.noConfusion h)⟩
                      case measure => simp [intOf]; omega
                    case false =>
                      go_wp2_with fail
                      refine Calls.mono (HV2.out _) ?_
                      rintro e w10 ⟨rfl, hE10⟩
                      clear p0' p1' p2' q0' q1' q2' a0' a1' zp' zq' z0'
                      cases V2
                      case true =>
                        go_wp2_with fail
                        go_roundw
                        case rel => exact ⟨E13.out.trans (hE9.trans hE10), hid (K12.out.ext (hE9.trans hE10)), false, j0 + 1, by omega, by omega, by go_num, rfl, hid (fun h => Bool.noConfusion h)⟩
                        case measure => simp [intOf]; omega
                      case false =>
                        go_wp2_with fail
                        go_roundw
                        case rel => exact ⟨E13.out.trans (hE9.trans hE10), hid (K12.out.ext (hE9.trans hE10)), true, j0 + 1, by omega, by omega, by go_num, rfl, hid (fun _ => HR2.out (by first | rfl | trivial) (fun _ _ => HG.out (by first | rfl | trivial) (by first | rfl | trivial)))⟩
                        case measure => simp [intOf]; omega
                -- f33>
                -- c30>
                -- r29>
                -- c29>
              ·
                as_aux_lemma =>
                -- <e4
                have hjk : j0 = k := by omega
                have HR9 := hid (show r1 = true → ∀ i' k', i' < i0 + 1 → i' < k' → k' < ps.length → hasB S i' = false → hasB S k' = false → tiltB lim yrs (ps.getD i' zeroPo) (ps.getD k' zeroPo) = false from fun h i' k' a1 a2 a3 a4 a5 => by
                  rcases Nat.lt_succ_iff_lt_or_eq.1 a1 with h9 | rfl
                  · exact HR.out (HR1.out h).1 i' k' h9 a2 a3 a4 a5
                  · exact (HR1.out h).2 k' a2 (by rw [HN.out] at a3; omega) a4 a5)
                subst hjk
                clear HR HR1 HPR
                go_wp2_with fail
                go_roundw
                case rel => exact ⟨E9, K9, r1, i0 + 1, by omega, by go_num, rfl, HR9⟩
                case measure => simp [intOf]; omega
                -- e4>
          ·
            as_aux_lemma =>
            -- <e3
            have hik : i0 = k := by omega
            have HR9 := hid (fun (h : r0 = true) => HT3.out fun i' k' a1 a2 a3 a4 => HR.out h i' k' (by rw [HN.out] at a2; omega) a1 a2 a3 a4)
            subst hik
            obtain ⟨-, -, a2, -, z0⟩ := blk4 K7.out
            clear HR HPR HT3
            cases r0
            case false =>
              clear HR9
              go_wp2_with fail
              refine Calls.mono (HWK.out _) ?_
              rintro e w9 ⟨rfl, hE9⟩
              go_wp2
              go_ret
              exact ⟨rfl, E7.trans hE9⟩
            case true =>
              have hle := HR9.out rfl
              clear HR9
              generalize sizN i0 S = Z at *
              have hlei : ((j : Nat) : Int) ≤ (Z : Int) := by omega
              go_wp2_with fail
              refine Calls.mono (HSZ.out _) ?_
              rintro e w9 ⟨rfl, rfl⟩
              go_wp2_with fail
              refine Calls.mono (HWK.out _) ?_
              rintro e w10 ⟨rfl, hE9⟩
              go_wp2
              go_ret
              exact ⟨rfl, E7.trans hE9⟩
            -- e3>
end Go.Proofs.YtggggnjibedgaaaGreat
