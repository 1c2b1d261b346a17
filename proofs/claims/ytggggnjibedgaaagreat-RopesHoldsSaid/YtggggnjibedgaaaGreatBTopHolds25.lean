/- Bears of the specification. -/
import Derived.Test.YtggggnjibedgaaaGreatBTopHolds24
import Derived.Test.YtggggnjibedgaaaGreatB02
import Derived.Test.YtggggnjibedgaaaGreatB05
import Derived.Test.YtggggnjibedgaaaGreatB01
import Derived.Test.YtggggnjibedgaaaGreatBTopHolds20
set_option linter.unusedSimpArgs false
set_option linter.unusedVariables false
namespace Go.Proofs.YtggggnjibedgaaaGreat
open Go.RowKit
def kepK (m load : Int) (xs : List Int) (k : Nat) : List Int := (xs.take k).filter fun s => decide (load ≤ m * s)
theorem kepK_succ (m load : Int) (xs : List Int) (k : Nat) (h : k < xs.length) : kepK m load xs (k + 1) = if load ≤ m * xs.getD k 0 then kepK m load xs k ++ [xs.getD k 0] else kepK m load xs k := by
  unfold kepK
  rw [List.take_succ_eq_append_getElem h, List.filter_append]
  have e : xs.getD k 0 = xs[k] := by simp [List.getD, List.getElem?_eq_getElem h]
  rw [e]
  by_cases hp : load ≤ m * xs[k]
  · rw [if_pos hp]; simp [hp]
  · rw [if_neg hp]; simp [hp]
theorem kepK_len (m load : Int) (xs : List Int) (k : Nat) : (kepK m load xs k).length ≤ k := by
  unfold kepK
  exact Nat.le_trans (List.length_filter_le _ _) (by rw [List.length_take]; omega)
theorem hldN_stab (load : Int) : ∀ (N : Nat) (zs : List Int), zs.length ≤ N → ∀ k, zs.length ≤ k → hldN load k zs = hldN load zs.length zs := by
  intro N
  induction N with
  | zero =>
    intro zs h k hk
    have h0 : zs = [] := List.length_eq_zero_iff.1 (by omega)
    subst h0
    cases k with
    | zero => rfl
    | succ k => unfold hldN; rfl
  | succ N ih =>
    intro zs h k hk
    obtain ⟨l, hl⟩ : ∃ l, zs.length = l := ⟨_, rfl⟩
    rw [hl]
    cases k with
    | zero =>
      have : l = 0 := by omega
      rw [this]
    | succ k =>
      have hks := keepI_le load zs
      cases l with
      | zero =>
        unfold hldN
        rw [if_pos (by omega)]
      | succ l =>
        unfold hldN
        by_cases hq : (keepI load zs).length = zs.length
        · rw [if_pos hq, if_pos hq]
        · rw [if_neg hq, if_neg hq, ih _ (by omega) k (by omega), ih _ (by omega) l (by omega)]
theorem hldN_stop {load : Int} {ys : List Int} {m : Nat} (hm : ys.length = m) (hq : (keepI load ys).length = m) : hldN load m ys = decide (0 < m) := by
  subst hm
  obtain ⟨l, hl⟩ : ∃ l, ys.length = l := ⟨_, rfl⟩
  rw [hl] at hq ⊢
  cases l with
  | zero => unfold hldN; rw [hl]
  | succ l => unfold hldN; rw [if_pos (by rw [hq, hl]), hl]
theorem hldN_next {load : Int} {ys : List Int} {m : Nat} (hm : ys.length = m) (hq : (keepI load ys).length ≠ m) : hldN load m ys = hldN load (keepI load ys).length (keepI load ys) := by
  have hks := keepI_le load ys
  cases m with
  | zero => omega
  | succ l =>
    have e : hldN load (l + 1) ys = hldN load l (keepI load ys) := by
      unfold hldN
      rw [if_neg (by rw [hm]; exact hq)]
      cases l <;> rfl
    rw [e, hldN_stab load l _ (by omega) l (by omega)]
def vLen (v : Value) : Nat := match v with | .slice _ n _ => n | _ => 0
set_option maxRecDepth 100000 in
set_option maxHeartbeats 8000000 in
theorem rBears_any (xs : List Int) (h0 : ∀ s ∈ xs, 0 ≤ s ∧ s ≤ 5000) (load : Int) (A : Option Addr) (n c : Nat) (hn : xs.length = n) (hm : n ≤ 1000) (w : World) (hA : IntsAt w A xs) :
    Calls Tryz.prog 47 #[.slice A n c, .int .i64 load] w fun e w' => e = .returned (.bool (hldI load xs)) ∧ Ext w w' := by
  have HN := hid hn
  have H0 := hid (show hldN load n xs = hldI load xs by unfold hldI; rw [hn])
  have HAA := hid hA
  have HXX := hid h0
  clear hn hA h0
  generalize hldI load xs = R at *
  go_enter Tryz.func47, Tryz.ntmps47
  go_wp2
  go_loopw [5] (fun v wr => Ext w wr ∧ ∃ (ys : List Int) (m : Nat) (A' : Option Addr) (c' : Nat), v = .slice A' m c' ∧ Hid (ys.length = m) ∧ m ≤ 1000 ∧ Hid (IntsAt wr A' ys) ∧ Hid (∀ s ∈ ys, 0 ≤ s ∧ s ≤ 5000) ∧ Hid (hldN load m ys = R)) (fun v _ => vLen v)
  case atStart => exact ⟨by (repeat' (first | with_reducible assumption | with_reducible exact Ext.refl _ | with_reducible refine Ext.alloc ?_ _ | with_reducible refine Ext.set ?_ ?_ _ | with_reducible refine Ext.drew ?_ | with_reducible refine Ext.drewN ?_ _ | with_reducible refine Ext.trans ?_ (by assumption) | (dsimp only; omega))), xs, n, A, c, rfl, HN, hm, hid (HAA.out.ext (by (repeat' (first | with_reducible assumption | with_reducible exact Ext.refl _ | with_reducible refine Ext.alloc ?_ _ | with_reducible refine Ext.set ?_ ?_ _ | with_reducible refine Ext.drew ?_ | with_reducible refine Ext.drewN ?_ _ | with_reducible refine Ext.trans ?_ (by assumption) | (dsimp only; omega))))), HXX, H0⟩
  case round =>
    obtain ⟨hE, ys, m, A', c', rfl, HM, hm', HY, HB, HR⟩ := hrel
    clear HN H0 HAA HXX
    have HS := hid (fun h => (hldN_stop (load := load) HM.out h).symm.trans HR.out)
    have HNX := hid (fun h => (hldN_next (load := load) HM.out h).symm.trans HR.out)
    have HB2 := hid (show ∀ s ∈ keepI load ys, 0 ≤ s ∧ s ≤ 5000 from fun s h => HB.out s (List.mem_filter.1 h).1)
    have HKS := hid (fun k (h : k < m) => kepK_succ (m : Int) load ys k (by rw [HM.out]; exact h))
    have HKL := hid (fun k => kepK_len (m : Int) load ys k)
    have HK0 := hid (show kepK (m : Int) load ys 0 = [] from rfl)
    have HKE := hid (show kepK (m : Int) load ys m = keepI load ys by unfold kepK keepI; rw [List.take_of_length_le (by rw [HM.out]; exact Nat.le_refl _), HM.out])
    have HYB := hid (fun k (h : k < m) => HB.out (ys.getD k 0) (mem_at ys 0 k (by rw [HM.out]; exact h)))
    clear HR HB
    generalize kepK (m : Int) load ys = KK at *
    generalize keepI load ys = zs at *
    obtain ⟨wo, hwo⟩ : ∃ wo, wo = wr := ⟨_, rfl⟩
    subst hwo
    have hwo2 : w.heap.size ≤ wo.heap.size := hE.size
    go_wp2
    go_loopw [6, 7] (fun v i wx => Ext wo wx ∧ ∃ (k : Nat) (B : Option Addr) (d : Nat), k ≤ m ∧ i = .int .i64 k ∧ v = .slice B (KK k).length d ∧ Hid (Ownl 3 1 gIn wx wo.heap.size (.slice B (KK k).length d) (KK k))) (fun _ i _ => m - (intOf i).toNat)
    case atStart => exact ⟨Ext.refl _, 0, none, 0, Nat.zero_le _, rfl, by rw [HK0.out]; rfl, hid (by rw [HK0.out]; exact Ownl.nil _ _)⟩
    case round =>
      obtain ⟨hF, k, B, d, hk, rfl, rfl, HV⟩ := hrel
      have hwr : wo.heap.size ≤ wr.heap.size := hF.size
      by_cases hlt : k < m
      · obtain ⟨b, off, rfl, hb, c0⟩ := (HY.out.ext hF).at_ HM.out hlt
        have HSk := hid (HKS.out k hlt)
        have hk1 : (KK k).length ≤ 1000 := by have := HKL.out k; omega
        have hx := HYB.out k hlt
        have hk0 : (0 : Int) ≤ (k : Int) := by omega
        have hki : (k : Int) < (m : Int) := by omega
        clear HKS HKL HYB HS HNX HB2 HKE HK0
        generalize ys.getD k 0 = x at *
        have hmul : 0 ≤ (m : Int) * x ∧ (m : Int) * x ≤ 5000000 := ⟨Int.mul_nonneg (by omega) hx.1, by
          have := Int.mul_le_mul (show (m : Int) ≤ 1000 by omega) hx.2 hx.1 (by omega : (0:Int) ≤ 1000); omega⟩
        have hw1 : IntKind.i64.wrap ((m : Int) * x) = (m : Int) * x := IntWalk.i64_in _ (by omega)
        by_cases hp : load ≤ (m : Int) * x
        · rw [if_pos hp] at HSk
          generalize KK k = acc at *
          go_wp2_with (at_builtin; refine Halt.mk ?_)
          unfold Halt
          have BN := hid (show Blk (wr.alloc (.cells #[.int .i64 x] 3)) wr.heap.size 3 #[.int .i64 x] from blk_last _ _)
          refine wpList_app1In _ rfl _ _ rfl wo.heap.size (.slice B acc.length d) acc rfl (HV.out.ext (ext_alloc1 _ _)) wr.heap.size x rfl BN.out (by omega) (by simp; omega) ?_
          intro v4 w4 hO hg _
          have E4 := hid (HV.out.extApp hF (Nat.le_refl _) hg)
          obtain ⟨A4, c4, rfl, -, -⟩ := ownIn hO
          have V4 := hid hO
          clear hO hg HV BN
          go_wp2
          go_roundw
          case rel => exact ⟨E4.out, k + 1, A4, c4, by omega, by go_num, by rw [HSk.out]; first | rfl | simp, hid (by rw [HSk.out]; exact V4.out)⟩
          case measure => simp [intOf]; omega
        · rw [if_neg hp] at HSk
          go_wp2
          go_roundw
          case rel => exact ⟨hF, k + 1, B, d, by omega, by go_num, by rw [HSk.out], hid (by rw [HSk.out]; exact HV.out)⟩
          case measure => simp [intOf]; omega
      · obtain rfl : k = m := by omega
        rw [HKE.out] at HV ⊢
        obtain ⟨q, hq⟩ : ∃ q, zs.length = q := ⟨_, rfl⟩
        have hql : q ≤ k := by have := HKL.out k; rw [HKE.out] at this; omega
        obtain ⟨A6, c6, h6, -, hs6⟩ := ownIn HV.out
        have hA6 : B = A6 := by injection h6
        subst hA6
        have HS6 := hid hs6
        rw [hq] at HS HNX ⊢
        have HQ := hid hq
        have E5 := hid (hE.trans hF)
        clear hs6 h6 hq HV HKS HKL HYB HKE HK0
        by_cases hqm : q = k
        · subst hqm
          have HF := hid (HS.out rfl)
          go_wp2
          go_ret
          exact ⟨ret_bool (by first | (rw [← HF.out]; done) | (rw [← HF.out]; simp; done) | (rw [← HF.out]; simp; omega)), E5.out⟩
        · have HF := hid (HNX.out hqm)
          have hqi : ¬ ((q : Int) = (k : Int)) := by omega
          go_wp2
          go_roundw
          case rel => exact ⟨E5.out, zs, q, B, d, rfl, HQ, by omega, HS6, HB2, HF⟩
          case measure =>
            show q < k
            omega
end Go.Proofs.YtggggnjibedgaaaGreat
/- The ends of the points of a set, and the number of its elements: the specification. -/
set_option linter.unusedSimpArgs false
set_option linter.unusedVariables false
namespace Go.Proofs.YtggggnjibedgaaaGreat
open Go.RowKit
theorem and_zero {y : Nat} (h : y < 9223372036854775808) : (bits BinOp.and IntKind.i64 (y : Int) 1 == 0) = !(y % 2 == 1) := by
  rw [and_one h]
  have l : y % 2 < 2 := Nat.mod_lt _ (by decide)
  by_cases h1 : y % 2 = 1
  · rw [h1]; rfl
  · have h0 : y % 2 = 0 := by omega
    rw [h0]; rfl
def endL (up : Bool) (xs : List Sp) (s : Nat) : List Int := (choL zeroSp xs s).map (if up then hiF else loF)
def endK (f : Sp → Int) (xs : List Sp) (s k : Nat) : List Int := (choK zeroSp xs s k).map f
theorem endK_succ (f : Sp → Int) (xs : List Sp) (s k : Nat) : endK f xs s (k + 1) = if hasB s k then endK f xs s k ++ [f (xs.getD k zeroSp)] else endK f xs s k := by
  unfold endK
  rw [choK_succ]
  cases hasB s k <;> simp
theorem endK_len (f : Sp → Int) (xs : List Sp) (s k : Nat) : (endK f xs s k).length ≤ k := by
  unfold endK
  rw [List.length_map]
  exact choK_len _ _ _ _
set_option maxRecDepth 100000 in
set_option maxHeartbeats 4000000 in
theorem rends_any (xs : List Sp) (s : Nat) (hs : s < 256) (up : Bool) (A : Option Addr) (n c : Nat) (hn : xs.length = n) (hm : n ≤ 8) (w : World) (hx : SpsAt w A xs) :
    Calls Tryz.prog 69 #[.slice A n c, .int .i64 s, .bool up] w fun e w' => ∃ A1 c1, e = .returned (.slice A1 (endL up xs s).length c1) ∧ IntsAt w' A1 (endL up xs s) ∧ Ext w w' := by
  have HX := hid hx
  have HN := hid hn
  have HDV := hid (fun i : Nat => shr_int s i)
  have HON := hid (fun i : Nat => show (bits BinOp.and IntKind.i64 ((s >>> i : Nat) : Int) 1 == 0) = !hasB s i from and_zero (by have := shr_le s i; omega))
  have HS := hid (fun k => endK_succ (if up then hiF else loF) xs s k)
  have HK := hid (fun k => endK_len (if up then hiF else loF) xs s k)
  have H0 := hid (show endK (if up then hiF else loF) xs s 0 = [] from rfl)
  have HEN := hid (show endL up xs s = endK (if up then hiF else loF) xs s n by rw [← hn]; rfl)
  clear hx hn hs
  rw [HEN.out]
  generalize endK (if up then hiF else loF) xs s = NK at *
  generalize hasB s = hb at *
  generalize hSF : (fun i => s >>> i) = SF at *
  have hSe : ∀ i, s >>> i = SF i := fun i => by rw [← hSF]
  simp only [hSe] at HDV HON
  clear hSF hSe HEN
  cases up
  case false =>
    go_enter Tryz.func69, Tryz.ntmps69
    go_wp2
    go_loopw [7, 8] (fun v i wr => Ext w wr ∧ ∃ (k : Nat) (A1 : Option Addr) (c1 : Nat), k ≤ n ∧ i = .int .i64 k ∧ v = .slice A1 (NK k).length c1 ∧ Hid (Ownl 3 1 gIn wr w.heap.size (.slice A1 (NK k).length c1) (NK k))) (fun _ i _ => n - (intOf i).toNat)
    case atStart => exact ⟨by (repeat' (first | with_reducible assumption | with_reducible exact Ext.refl _ | with_reducible refine Ext.alloc ?_ _ | with_reducible refine Ext.set ?_ ?_ _ | with_reducible refine Ext.drew ?_ | with_reducible refine Ext.drewN ?_ _ | with_reducible refine Ext.trans ?_ (by assumption) | (dsimp only; omega))), 0, none, 0, Nat.zero_le _, rfl, by rw [H0.out]; rfl, hid (by rw [H0.out]; exact Ownl.nil _ _)⟩
    case round =>
      obtain ⟨hE, k, A2, c2, hk, rfl, rfl, HV⟩ := hrel
      have hwr : w.heap.size ≤ wr.heap.size := hE.size
      by_cases hlt : k < n
      · have hu : IntKind.u64.wrap (k : Int) = (k : Int) := by rw [IntKind.wrap_u64]; omega
        have hd := HDV.out k
        have hon := HON.out k
        have HST := hid (HS.out k)
        have hkl := HK.out k
        obtain ⟨bb, off, rfl, hbb, d0, d1⟩ := (HX.out.ext hE).at_ HN.out hlt
        have hki : (k : Int) < (n : Int) := by omega
        have hk0 : (0 : Int) ≤ (k : Int) := by omega
        clear HDV HON HS HK H0 HX
        generalize xs.getD k zeroSp = x at *
        unfold hiF loF at HST
        obtain ⟨lo, hi⟩ := x
        dsimp only at d0 d1 HST
        generalize SF k = y at *
        generalize hb k = bk at *
        cases bk
        · rw [if_neg (by decide)] at HST
          go_wp2_with (first | simp only [hu] | simp only [hd])
          go_roundw
          case rel => exact ⟨hE, k + 1, A2, c2, by omega, by go_num, by rw [HST.out], hid (by rw [HST.out]; exact HV.out)⟩
          case measure => simp [intOf]; omega
        · rw [if_pos rfl] at HST
          generalize NK k = acc at *
          go_wp2_with (first | (at_builtin; refine Halt.mk ?_) | simp only [hu] | simp only [hd])
          unfold Halt
          have BN := hid (show Blk (wr.alloc (.cells #[.int .i64 lo] 3)) wr.heap.size 3 #[.int .i64 lo] from blk_last _ _)
          refine wpList_app1In _ rfl _ _ rfl w.heap.size (.slice A2 acc.length c2) acc rfl (HV.out.ext (ext_alloc1 _ _)) wr.heap.size lo rfl BN.out (by omega) (by simp; omega) ?_
          intro v4 w4 hO hg _
          have E4 := hid (HV.out.extApp hE (Nat.le_refl _) hg)
          obtain ⟨A4, c4, rfl, -, -⟩ := ownIn hO
          have V4 := hid hO
          clear hO hg HV BN
          go_wp2
          go_roundw
          case rel => exact ⟨E4.out, k + 1, A4, c4, by omega, by go_num, by rw [HST.out]; first | rfl | simp, hid (by rw [HST.out]; exact V4.out)⟩
          case measure => simp [intOf]; omega
      · obtain rfl : k = n := by omega
        go_wp2
        go_ret
        obtain ⟨A3, c3, e3, l3, h3⟩ := ownIn HV.out
        cases e3
        first | exact ⟨A2, c2, rfl, h3, hE⟩ | exact ⟨A2, ⟨c2, rfl⟩, h3, hE⟩
  case true =>
    go_enter Tryz.func69, Tryz.ntmps69
    go_wp2
    go_loopw [7, 8] (fun v i wr => Ext w wr ∧ ∃ (k : Nat) (A1 : Option Addr) (c1 : Nat), k ≤ n ∧ i = .int .i64 k ∧ v = .slice A1 (NK k).length c1 ∧ Hid (Ownl 3 1 gIn wr w.heap.size (.slice A1 (NK k).length c1) (NK k))) (fun _ i _ => n - (intOf i).toNat)
    case atStart => exact ⟨by (repeat' (first | with_reducible assumption | with_reducible exact Ext.refl _ | with_reducible refine Ext.alloc ?_ _ | with_reducible refine Ext.set ?_ ?_ _ | with_reducible refine Ext.drew ?_ | with_reducible refine Ext.drewN ?_ _ | with_reducible refine Ext.trans ?_ (by assumption) | (dsimp only; omega))), 0, none, 0, Nat.zero_le _, rfl, by rw [H0.out]; rfl, hid (by rw [H0.out]; exact Ownl.nil _ _)⟩
    case round =>
      obtain ⟨hE, k, A2, c2, hk, rfl, rfl, HV⟩ := hrel
      have hwr : w.heap.size ≤ wr.heap.size := hE.size
      by_cases hlt : k < n
      · have hu : IntKind.u64.wrap (k : Int) = (k : Int) := by rw [IntKind.wrap_u64]; omega
        have hd := HDV.out k
        have hon := HON.out k
        have HST := hid (HS.out k)
        have hkl := HK.out k
        obtain ⟨bb, off, rfl, hbb, d0, d1⟩ := (HX.out.ext hE).at_ HN.out hlt
        have hki : (k : Int) < (n : Int) := by omega
        have hk0 : (0 : Int) ≤ (k : Int) := by omega
        clear HDV HON HS HK H0 HX
        generalize xs.getD k zeroSp = x at *
        unfold hiF loF at HST
        obtain ⟨lo, hi⟩ := x
        dsimp only at d0 d1 HST
        generalize SF k = y at *
        generalize hb k = bk at *
        cases bk
        · rw [if_neg (by decide)] at HST
          go_wp2_with (first | simp only [hu] | simp only [hd])
          go_roundw
          case rel => exact ⟨hE, k + 1, A2, c2, by omega, by go_num, by rw [HST.out], hid (by rw [HST.out]; exact HV.out)⟩
          case measure => simp [intOf]; omega
        · rw [if_pos rfl] at HST
          generalize NK k = acc at *
          go_wp2_with (first | (at_builtin; refine Halt.mk ?_) | simp only [hu] | simp only [hd])
          unfold Halt
          have BN := hid (show Blk (wr.alloc (.cells #[.int .i64 hi] 3)) wr.heap.size 3 #[.int .i64 hi] from blk_last _ _)
          refine wpList_app1In _ rfl _ _ rfl w.heap.size (.slice A2 acc.length c2) acc rfl (HV.out.ext (ext_alloc1 _ _)) wr.heap.size hi rfl BN.out (by omega) (by simp; omega) ?_
          intro v4 w4 hO hg _
          have E4 := hid (HV.out.extApp hE (Nat.le_refl _) hg)
          obtain ⟨A4, c4, rfl, -, -⟩ := ownIn hO
          have V4 := hid hO
          clear hO hg HV BN
          go_wp2
          go_roundw
          case rel => exact ⟨E4.out, k + 1, A4, c4, by omega, by go_num, by rw [HST.out]; first | rfl | simp, hid (by rw [HST.out]; exact V4.out)⟩
          case measure => simp [intOf]; omega
      · obtain rfl : k = n := by omega
        go_wp2
        go_ret
        obtain ⟨A3, c3, e3, l3, h3⟩ := ownIn HV.out
        cases e3
        first | exact ⟨A2, c2, rfl, h3, hE⟩ | exact ⟨A2, ⟨c2, rfl⟩, h3, hE⟩
end Go.Proofs.YtggggnjibedgaaaGreat
/- The number of a set's elements: the specification. -/
set_option linter.unusedSimpArgs false
set_option linter.unusedVariables false
namespace Go.Proofs.YtggggnjibedgaaaGreat
open Go.RowKit
theorem cnt_end_all : ((List.range 256).all fun x => (List.range 9).all fun k => !(x >>> k == 0) || (sizN k x == pcN x)) = true := by decide +kernel
theorem cnt_end {x k : Nat} (hx : x < 256) (hk : k ≤ 8) (h : x >>> k = 0) : sizN k x = pcN x := by
  have := List.all_eq_true.1 (List.all_eq_true.1 cnt_end_all x (List.mem_range.2 hx)) k (List.mem_range.2 (by omega))
  rw [h] at this
  simpa using this
theorem cnt_lt_all : ((List.range 256).all fun x => x >>> 8 == 0) = true := by decide +kernel
theorem cnt_lt {x k : Nat} (hx : x < 256) (hk : k ≤ 8) (h : 0 < x >>> k) : k < 8 := by
  rcases Nat.lt_or_ge k 8 with h1 | h1
  · exact h1
  · have : k = 8 := by omega
    subst this
    have := eq_of_beq (List.all_eq_true.1 cnt_lt_all x (List.mem_range.2 hx))
    omega
theorem shr_half (x k : Nat) : ((x >>> k : Nat) : Int) / 2 = ((x >>> (k + 1) : Nat) : Int) := by
  rw [Nat.shiftRight_eq_div_pow, Nat.shiftRight_eq_div_pow, Nat.pow_succ, ← Nat.div_div_eq_div_mul]
  omega
set_option maxHeartbeats 2000000 in
theorem rcount_any (x : Nat) (hx : x < 256) (w : World) : Calls Tryz.prog 110 #[.int .i64 x] w fun e w' => e = .returned (.int .i64 (pcN x)) ∧ w' = w := by
  have HE := hid (fun k (hk : k ≤ 8) h => cnt_end (k := k) hx hk h)
  have HLT := hid (fun k (hk : k ≤ 8) h => cnt_lt (k := k) hx hk h)
  have HH := hid (fun k => shr_half x k)
  have HA := hid (fun k => and_one (show x >>> k < 9223372036854775808 by have := shr_le x k; omega))
  have HB := hid (fun k => shr_le x k)
  have HS := hid (fun k => siz_succ k x)
  have HL := hid (fun k => siz_le k x)
  have H0 := hid (show sizN 0 x = 0 from rfl)
  have H1 := hid (show x >>> 0 = x from rfl)
  generalize pcN x = R at *
  generalize hZ : (fun k => sizN k x) = Z at *
  have hZe : ∀ k, sizN k x = Z k := fun k => by rw [← hZ]
  simp only [hZe] at HE HS HL H0
  generalize hSF : (fun i => x >>> i) = SF at *
  have hSe : ∀ i, x >>> i = SF i := fun i => by rw [← hSF]
  simp only [hSe] at HE HLT HH HA HB HS H1
  clear hZ hZe hSF hSe
  go_enter Tryz.func110, Tryz.ntmps110
  go_wp2
  go_loopw [0, 3] (fun s v wr => wr = w ∧ ∃ k : Nat, k ≤ 8 ∧ s = .int .i64 (SF k : Nat) ∧ v = .int .i64 (Z k : Nat)) (fun s _ _ => (intOf s).toNat)
  case atStart => exact ⟨rfl, 0, Nat.zero_le _, by rw [H1.out], by rw [H0.out]; rfl⟩
  case round =>
    obtain ⟨rfl, k, hk, rfl, rfl⟩ := hrel
    have hh := HH.out k
    have ha := HA.out k
    have hb := HB.out k
    have hs := HS.out k
    have hl := HL.out k
    have he := HE.out k hk
    have ht := HLT.out k hk
    clear HE HLT HH HA HB HS HL H0 H1
    generalize hz2 : Z (k + 1) = z2 at *
    generalize Z k = z1 at *
    generalize hy2 : SF (k + 1) = y2 at *
    generalize SF k = y at *
    by_cases h0 : 0 < y
    · have hyi : (0 : Int) < (y : Int) := by omega
      have hk8 := ht h0
      have hm2 : y % 2 < 2 := Nat.mod_lt _ (by decide)
      have hz3 : ((z2 : Nat) : Int) = (z1 : Int) + ((y % 2 : Nat) : Int) := by omega
      have hlt2 : y2 < y := by omega
      have hyb : y2 < 256 := by omega
      clear he ht
      go_wp2_with (first | simp only [ha] | simp only [hh])
      go_roundw
      case rel =>
        refine ⟨by first | trivial | rfl, k + 1, by omega, ?_, ?_⟩
        · rw [hy2]; try (first | rfl | (rw [hh]; done) | (rw [← hh]; done) | (simp; done))
        · rw [hz2, hz3]; try (first | rfl | (simp; done) | go_num)
      case measure => simp [intOf]; omega
    · have h9 : y = 0 := by omega
      have hR := he h9
      subst h9
      clear ht
      go_wp2
      go_ret
      exact ⟨by first | rfl | rw [hR], by first | trivial | rfl⟩
end Go.Proofs.YtggggnjibedgaaaGreat
/- The specification's least number of missing points is the program's: no program. -/
set_option linter.unusedSimpArgs false
set_option linter.unusedVariables false
namespace Go.Proofs.YtggggnjibedgaaaGreat
open Go.RowKit
def depN (n st s : Nat) : Nat := (List.range (elemsL n st).length).foldl (fun a j => if hasB s j then a + 2 ^ (elemsL n st).getD j 0 else a) 0
def extN (n st so : Nat) : Nat := (List.range (elemsL n st).length).foldl (fun a j => if hasB so ((elemsL n st).getD j 0) then a + 2 ^ j else a) 0
theorem dep_all : ((List.range 7).all fun n => (List.range (2 ^ n)).all fun st => (List.range (2 ^ (elemsL n st).length)).all fun s =>
    (depN n st s &&& st == depN n st s) && (pcN (depN n st s) == pcN s) && (elemsL n (st - depN n st s) == (othersL (elemsL n st).length s).map fun j => (elemsL n st).getD j 0) && decide (depN n st s ≤ st)) = true := by decide +kernel
theorem ext_all : ((List.range 7).all fun n => (List.range (2 ^ n)).all fun st => (List.range (2 ^ n)).all fun so =>
    !(so &&& st == so) || (decide (extN n st so < 2 ^ (elemsL n st).length) && (depN n st (extN n st so) == so))) = true := by decide +kernel
theorem lenE_all : ((List.range 7).all fun n => (List.range (2 ^ n)).all fun st => decide ((elemsL n st).length ≤ n)) = true := by decide +kernel
theorem cut_all : ((List.range 9).all fun m => (List.range (2 ^ m)).all fun b => elemsL 8 b == elemsL m b) = true := by decide +kernel
theorem elems_cut {m b : Nat} (hm : m ≤ 8) (hb : b < 2 ^ m) : elemsL 8 b = elemsL m b := eq_of_beq (List.all_eq_true.1 (List.all_eq_true.1 cut_all m (List.mem_range.2 (by omega))) b (List.mem_range.2 hb))
theorem dep_ok {n st s : Nat} (hn : n ≤ 6) (hst : st < 2 ^ n) (hs : s < 2 ^ (elemsL n st).length) :
    depN n st s &&& st = depN n st s ∧ pcN (depN n st s) = pcN s ∧ elemsL n (st - depN n st s) = (othersL (elemsL n st).length s).map (fun j => (elemsL n st).getD j 0) ∧ depN n st s ≤ st := by
  have h := List.all_eq_true.1 (List.all_eq_true.1 (List.all_eq_true.1 dep_all n (List.mem_range.2 (by omega))) st (List.mem_range.2 hst)) s (List.mem_range.2 hs)
  simp only [Bool.and_eq_true, decide_eq_true_eq] at h
  exact ⟨eq_of_beq h.1.1.1, eq_of_beq h.1.1.2, eq_of_beq h.1.2, h.2⟩
theorem ext_ok {n st so : Nat} (hn : n ≤ 6) (hst : st < 2 ^ n) (hso : so < 2 ^ n) (hsub : so &&& st = so) : extN n st so < 2 ^ (elemsL n st).length ∧ depN n st (extN n st so) = so := by
  have h := List.all_eq_true.1 (List.all_eq_true.1 (List.all_eq_true.1 ext_all n (List.mem_range.2 (by omega))) st (List.mem_range.2 hst)) so (List.mem_range.2 hso)
  have hb : (so &&& st == so) = true := by rw [hsub]; exact beq_self_eq_true so
  rw [hb] at h
  simp only [Bool.not_true, Bool.false_or, Bool.and_eq_true, decide_eq_true_eq] at h
  exact ⟨h.1, eq_of_beq h.2⟩
theorem othL_cho {α : Type} (d : α) (xs : List α) {st s : Nat} (hn : xs.length ≤ 6) (hst : st < 2 ^ xs.length) (hs : s < 2 ^ (elemsL xs.length st).length) :
    othL d (choL d xs st) s = choL d xs (st - depN xs.length st s) := by
  obtain ⟨-, -, h3, -⟩ := dep_ok hn hst hs
  have hl : (choL d xs st).length = (elemsL xs.length st).length := by unfold choL; rw [List.length_map]
  unfold othL
  rw [hl]
  have e : choL d xs (st - depN xs.length st s) = (elemsL xs.length (st - depN xs.length st s)).map fun i => xs.getD i d := rfl
  rw [e, h3, List.map_map]
  refine List.map_congr_left fun j hj => ?_
  have hj' : j < (elemsL xs.length st).length := by
    unfold othersL at hj
    exact List.mem_range.1 (List.mem_filter.1 hj).1
  unfold choL
  simp [List.getD, List.getElem?_map, List.getElem?_eq_getElem hj']
/-- What the specification asks of missing points, of a set. -/
def misB (load : Int) (xs : List Sp) (st so : Nat) : Bool := (so &&& st == so) && !holdB loF load (choL zeroSp xs (st - so))
def rspS (load : Int) (xs : List Sp) (st least so : Nat) : Nat := if (misB load xs st so && decide (pcN so < least)) = true then pcN so else least
def rspN (load : Int) (xs : List Sp) (st k : Nat) : Nat := (List.range k).foldl (rspS load xs st) (xs.length + 1)
theorem rsp_succ (load : Int) (xs : List Sp) (st k : Nat) : rspN load xs st (k + 1) = rspS load xs st (rspN load xs st k) k := by
  unfold rspN; rw [List.range_succ, List.foldl_append]; rfl
theorem rsp_least (load : Int) (xs : List Sp) (st : Nat) : ∀ k, (rspN load xs st k = xs.length + 1 ∨ ∃ so, so < k ∧ misB load xs st so = true ∧ pcN so = rspN load xs st k) ∧ (∀ so, so < k → misB load xs st so = true → rspN load xs st k ≤ pcN so) := by
  intro k
  induction k with
  | zero => exact ⟨.inl rfl, fun so h => by omega⟩
  | succ k ih =>
    obtain ⟨ih1, ih2⟩ := ih
    rw [rsp_succ]
    unfold rspS
    by_cases hq : (misB load xs st k && decide (pcN k < rspN load xs st k)) = true
    · rw [if_pos hq]
      simp only [Bool.and_eq_true, decide_eq_true_eq] at hq
      refine ⟨.inr ⟨k, by omega, hq.1, rfl⟩, fun so hso hm => ?_⟩
      rcases Nat.lt_succ_iff_lt_or_eq.1 hso with h | rfl
      · have := ih2 so h hm; omega
      · exact Nat.le_refl _
    · rw [if_neg hq]
      refine ⟨?_, fun so hso hm => ?_⟩
      · rcases ih1 with h | ⟨so, h1, h2, h3⟩
        · exact .inl h
        · exact .inr ⟨so, by omega, h2, h3⟩
      · rcases Nat.lt_succ_iff_lt_or_eq.1 hso with h | rfl
        · exact ih2 so h hm
        · rw [hm, Bool.true_and, decide_eq_true_eq] at hq
          omega
theorem hold_none (f : Sp → Int) (load : Int) : holdB f load [] = false := rfl
theorem oth_full : ((List.range 9).all fun n => othersL n (2 ^ n - 1) == []) = true := by decide +kernel
/-- The specification's spare of a set is the program's of the points that it chooses. -/
theorem rsp_spr (load : Int) (xs : List Sp) {st : Nat} (hn : xs.length ≤ 6) (hst : st < 2 ^ xs.length) : ((rspN load xs st (st + 1) : Nat) : Int) - 1 = sprI load (choL zeroSp xs st) := by
  have hl : (choL zeroSp xs st).length = (elemsL xs.length st).length := by unfold choL; rw [List.length_map]
  have hm : (elemsL xs.length st).length ≤ xs.length := of_decide_eq_true (List.all_eq_true.1 (List.all_eq_true.1 lenE_all xs.length (List.mem_range.2 (by omega))) st (List.mem_range.2 hst))
  unfold sprI
  rw [hl]
  generalize hmm : (elemsL xs.length st).length = m at *
  have hP : sprF load (choL zeroSp xs st) (2 ^ m - 1) = true := by
    unfold sprF othL
    have : othersL m (2 ^ m - 1) = [] := eq_of_beq (List.all_eq_true.1 oth_full m (List.mem_range.2 (by omega)))
    rw [hl, this]
    rfl
  have hF := few_least (sprF load (choL zeroSp xs st)) (2 ^ m)
  have hpos : 0 < 2 ^ m := Nat.two_pow_pos m
  cases hf : fewN (sprF load (choL zeroSp xs st)) (2 ^ m) with
  | none =>
    have := hF.2 hf (2 ^ m - 1) (by omega)
    rw [hP] at this
    cases this
  | some b =>
    obtain ⟨b1, b2⟩ := hF.1 b hf
    have hb := fewN_lt _ _ _ hf
    rw [Option.getD_some]
    obtain ⟨r1, r2⟩ := rsp_least load xs st (st + 1)
    have key : ∀ s, s < 2 ^ m → misB load xs st (depN xs.length st s) = sprF load (choL zeroSp xs st) s ∧ pcN (depN xs.length st s) = pcN s ∧ depN xs.length st s ≤ st := fun s hs => by
      rw [← hmm] at hs
      obtain ⟨d1, d2, d3, d4⟩ := dep_ok hn hst hs
      refine ⟨?_, d2, d4⟩
      unfold misB sprF
      rw [othL_cho zeroSp xs hn hst hs, d1, beq_self_eq_true, Bool.true_and]
    obtain ⟨k1, k2, k3⟩ := key b hb
    have hle : rspN load xs st (st + 1) ≤ pcN b := by rw [← k2]; exact r2 _ (by omega) (by rw [k1]; exact b1)
    have hbm : pcN b ≤ m := by
      have h8 : b < 256 := Nat.lt_of_lt_of_le hb (Nat.pow_le_pow_right (n := 2) (by decide) (show m ≤ 8 by omega))
      have e1 := eq_of_beq (List.all_eq_true.1 pc_elems b (List.mem_range.2 h8))
      rw [← e1]
      have e2 : elemsL 8 b = elemsL m b := elems_cut (by omega) hb
      rw [e2]
      unfold elemsL
      exact Nat.le_trans (List.length_filter_le _ _) (by simp)
    have hge : pcN b ≤ rspN load xs st (st + 1) := by
      rcases r1 with h | ⟨so, h1, h2, h3⟩
      · omega
      · rw [← h3]
        have hsub : so &&& st = so := by
          unfold misB at h2
          simp only [Bool.and_eq_true] at h2
          exact eq_of_beq h2.1
        obtain ⟨e1, e2⟩ := ext_ok hn hst (by omega) hsub
        rw [hmm] at e1
        obtain ⟨l1, l2, l3⟩ := key _ e1
        rw [e2] at l1 l2
        rw [l2]
        exact b2 _ e1 (by rw [← l1]; exact h2)
    omega
end Go.Proofs.YtggggnjibedgaaaGreat
/- The specification's spare of a set. -/
set_option linter.unusedSimpArgs false
set_option linter.unusedVariables false
namespace Go.Proofs.YtggggnjibedgaaaGreat
open Go.RowKit
theorem andz_all : ((List.range 64).all fun a => (List.range 64).all fun b => (bits BinOp.andNot IntKind.i64 ((a : Nat) : Int) ((b : Nat) : Int) == 0) == (a &&& b == a)) = true := by decide +kernel
theorem andz {a b : Nat} (ha : a < 64) (hb : b < 64) : (bits BinOp.andNot IntKind.i64 (a : Int) (b : Int) == 0) = (a &&& b == a) := eq_of_beq (List.all_eq_true.1 (List.all_eq_true.1 andz_all a (List.mem_range.2 ha)) b (List.mem_range.2 hb))
theorem ands_all : ((List.range 64).all fun a => (List.range 64).all fun b => !(a &&& b == a) || (bits BinOp.andNot IntKind.i64 ((b : Nat) : Int) ((a : Nat) : Int) == ((b - a : Nat) : Int))) = true := by decide +kernel
theorem ands {a b : Nat} (ha : a < 64) (hb : b < 64) (h : (a &&& b == a) = true) : bits BinOp.andNot IntKind.i64 (b : Int) (a : Int) = ((b - a : Nat) : Int) := by
  have := List.all_eq_true.1 (List.all_eq_true.1 ands_all a (List.mem_range.2 ha)) b (List.mem_range.2 hb)
  rw [h] at this
  exact eq_of_beq (by simpa using this)
theorem rsp_le (load : Int) (xs : List Sp) (st : Nat) : ∀ k, rspN load xs st k ≤ xs.length + 1 := by
  intro k
  induction k with
  | zero => exact Nat.le_refl _
  | succ k ih =>
    rw [rsp_succ]
    unfold rspS
    split
    · rename_i h
      simp only [Bool.and_eq_true, decide_eq_true_eq] at h
      omega
    · exact ih
theorem endL_lo (xs : List Sp) (s : Nat) : endL false xs s = (choL zeroSp xs s).map loF := rfl
theorem endL_bd {xs : List Sp} (hp : ∀ x ∈ xs, ptB x = true) (up : Bool) (s : Nat) : ∀ z ∈ endL up xs s, 0 ≤ z ∧ z ≤ 5000 := by
  intro z hz
  unfold endL at hz
  obtain ⟨x, hx, rfl⟩ := List.mem_map.1 hz
  have := pt_bd (hp x (choSp_mem hx))
  cases up
  · exact this.1
  · exact this.2
set_option maxRecDepth 100000 in
set_option maxHeartbeats 4000000 in
theorem rspare0_any (xs : List Sp) (hp : ∀ x ∈ xs, ptB x = true) (st : Nat) (load : Int) (A : Option Addr) (n c : Nat) (hn : xs.length = n) (hm : n ≤ 6) (hst : st < 2 ^ n) (w : World) (hx : SpsAt w A xs) :
    Calls Tryz.prog 71 #[.slice A n c, .int .i64 st, .int .i64 load] w fun e w' => e = .returned (.int .i64 (((rspN load xs st (st + 1) : Nat) : Int) - 1)) ∧ Ext w w' := by
  have h64 : 2 ^ n ≤ 2 ^ 6 := Nat.pow_le_pow_right (n := 2) (by decide) hm
  have HEN := hid (fun (s : Nat) (hs : s < 256) (W : World) (hE : Ext w W) => rends_any xs s hs false A n c hn (by omega) W (hx.ext hE))
  have HBE := hid (fun (s : Nat) (A1 : Option Addr) (c1 : Nat) (W : World) (h : IntsAt W A1 (endL false xs s)) => rBears_any (endL false xs s) (endL_bd hp false s) load A1 (endL false xs s).length c1 rfl (by
    unfold endL
    rw [List.length_map]
    have := choSp_len xs s
    omega) W h)
  have HLE := hid (fun k => rsp_le load xs st k)
  have HS := hid (fun k => rsp_succ load xs st k)
  have H0 := hid (show rspN load xs st 0 = n + 1 by rw [← hn]; rfl)
  have HCT := hid (fun (k : Nat) (hk : k < 256) W => rcount_any k hk W)
  have hst64 : st < 64 := by omega
  rw [hn] at HLE
  clear hx hn hp h64 hst
  go_enter Tryz.func71, Tryz.ntmps71
  go_wp2
  go_loopw [7, 8] (fun v i wr => Ext w wr ∧ ∃ k : Nat, k ≤ st + 1 ∧ i = .int .i64 k ∧ v = .int .i64 (rspN load xs st k : Nat)) (fun _ i _ => st + 1 - (intOf i).toNat)
  case atStart => exact ⟨by (repeat' (first | with_reducible assumption | with_reducible exact Ext.refl _ | with_reducible refine Ext.alloc ?_ _ | with_reducible refine Ext.set ?_ ?_ _ | with_reducible refine Ext.drew ?_ | with_reducible refine Ext.drewN ?_ _ | with_reducible refine Ext.trans ?_ (by assumption) | (dsimp only; omega))), 0, Nat.zero_le _, rfl, by rw [H0.out]; first | rfl | go_num | (simp; done)⟩
  case round =>
    obtain ⟨hE, k, hk, rfl, rfl⟩ := hrel
    by_cases hlt : k < st + 1
    · have hki : (k : Int) ≤ (st : Int) := by omega
      have hz := andz (a := k) (b := st) (by omega) hst64
      have hs := HS.out k
      have hle := HLE.out k
      have hle2 := HLE.out (k + 1)
      have HCk := hid (fun W => HCT.out k (by omega) W)
      have HENk := hid (fun W hE => HEN.out (st - k) (by omega) W hE)
      have HBEk := hid (fun A1 c1 W h => HBE.out (st - k) A1 c1 W h)
      have hsb := fun h => ands (a := k) (b := st) (by omega) hst64 h
      rw [endL_lo, hldI_map] at HBEk
      unfold rspS misB at hs
      clear HS HLE HCT HEN HBE H0
      rw [endL_lo] at HENk
      generalize holdB loF load (choL zeroSp xs (st - k)) = HB at *
      generalize (choL zeroSp xs (st - k)).map loF = LL at *
      generalize hz2 : rspN load xs st (k + 1) = z2 at *
      generalize rspN load xs st k = z1 at *
      generalize pcN k = pk at *
      obtain ⟨SB, hSB⟩ : ∃ b, (k &&& st == k) = b := ⟨_, rfl⟩
      rw [hSB] at hz hs hsb
      clear hSB
      cases SB
      case false =>
        have hz3 : z2 = z1 := by rw [hs]; rfl
        clear hs hsb HCk HENk HBEk
        go_wp2_with fail
        go_roundw
        case rel => exact ⟨hE, k + 1, by omega, by go_num, by rw [hz2, hz3]⟩
        case measure => simp [intOf]; omega
      case true =>
        have hsub := hsb rfl
        clear hsb
        by_cases hpk : pk < z1
        · have hpi : ((pk : Nat) : Int) < (z1 : Int) := by omega
          have hpd : decide (pk < z1) = true := decide_eq_true hpk
          have hdd := Nat.sub_le st k
          generalize st - k = dd at *
          cases HB
          case false =>
            have hz3 : z2 = pk := by rw [hs, hpd]; rfl
            clear hs
            go_wp2_with (first
              | (go_at_call 110; refine (HCk.out _).mono ?_; rintro e w2 ⟨rfl, hsm⟩; obtain rfl := hsm.symm)
              | (go_at_call 69; refine (HENk.out _ hE).mono ?_; rintro e w3 ⟨A1, c1, rfl, hI, hE3⟩; have HI := hid hI; clear hI)
              | (go_at_call 47; refine (HBEk.out _ _ _ HI.out).mono ?_; rintro e w4 ⟨rfl, hE4⟩)
              | simp only [hsub])
            go_roundw
            case rel => exact ⟨(hE.trans hE3).trans hE4, k + 1, by omega, by go_num, by rw [hz2, hz3]⟩
            case measure => simp [intOf]; omega
          case true =>
            have hz3 : z2 = z1 := by rw [hs]; rfl
            clear hs
            go_wp2_with (first
              | (go_at_call 110; refine (HCk.out _).mono ?_; rintro e w2 ⟨rfl, hsm⟩; obtain rfl := hsm.symm)
              | (go_at_call 69; refine (HENk.out _ hE).mono ?_; rintro e w3 ⟨A1, c1, rfl, hI, hE3⟩; have HI := hid hI; clear hI)
              | (go_at_call 47; refine (HBEk.out _ _ _ HI.out).mono ?_; rintro e w4 ⟨rfl, hE4⟩)
              | simp only [hsub])
            go_roundw
            case rel => exact ⟨(hE.trans hE3).trans hE4, k + 1, by omega, by go_num, by rw [hz2, hz3]⟩
            case measure => simp [intOf]; omega
        · have hpi : ¬ ((pk : Nat) : Int) < (z1 : Int) := by omega
          have hpd : decide (pk < z1) = false := decide_eq_false hpk
          have hz3 : z2 = z1 := by rw [hs, hpd, Bool.and_false]; rfl
          clear hs HENk HBEk
          go_wp2_with (first
            | (go_at_call 110; refine (HCk.out _).mono ?_; rintro e w2 ⟨rfl, hsm⟩; obtain rfl := hsm.symm)
            | simp only [hsub])
          go_roundw
          case rel => exact ⟨hE, k + 1, by omega, by go_num, by rw [hz2, hz3]⟩
          case measure => simp [intOf]; omega
    · obtain rfl : k = st + 1 := by omega
      have hle := HLE.out (st + 1)
      have hki : ¬ ((st + 1 : Nat) : Int) ≤ (st : Int) := by omega
      clear HS HLE H0 HEN HBE HCT
      obtain ⟨z, hz⟩ : ∃ z, rspN load xs st (st + 1) = z := ⟨_, rfl⟩
      rw [hz] at hle ⊢
      have HZ9 := hid hz
      clear hz
      have hw1 : IntKind.i64.wrap ((z : Int) - 1) = (z : Int) - 1 := IntWalk.i64_in _ (by omega)
      go_wp2
      go_ret
      exact ⟨ret_int (by rw [HZ9.out]), hE⟩
end Go.Proofs.YtggggnjibedgaaaGreat
