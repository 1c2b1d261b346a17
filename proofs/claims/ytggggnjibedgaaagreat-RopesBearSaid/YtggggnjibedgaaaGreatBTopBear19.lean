/- The facts of the law of the anchors: no walk. -/
import Derived.Test.YtggggnjibedgaaaGreatBTopBear18
import Derived.Test.YtggggnjibedgaaaGreatB02
import Derived.Test.YtggggnjibedgaaaGreatB05
import Derived.Test.YtggggnjibedgaaaGreatB01
import Derived.Test.YtggggnjibedgaaaGreatB14
import Derived.Great.BuildSlice
set_option linter.unusedSimpArgs false
set_option linter.unusedVariables false
namespace Go.Proofs.YtggggnjibedgaaaGreat
open Go.RowKit
/-- The strengths lie within the points. -/
def inSps (ps : List Sp) (xs : List Int) : Prop := xs.length = ps.length ∧ ∀ i, i < ps.length → (ps.getD i zeroSp).lo ≤ xs.getD i 0 ∧ xs.getD i 0 ≤ (ps.getD i zeroSp).hi
theorem holV_ok {ps : List Sp} {load : Int} (h : anE ps load true = 0) : holV ps load = (hldI load (ps.map loF), hldI load (ps.map hiF)) := by
  unfold holV
  rw [if_pos h, hldI_map, hldI_map]
theorem pts_lo {ps : List Sp} (h : ∀ x ∈ ps, ptB x = true) : ∀ s ∈ ps.map loF, 0 ≤ s := by
  intro s hs
  obtain ⟨x, hx, rfl⟩ := List.mem_map.1 hs
  exact (pt_bd (h x hx)).1.1
theorem pts_hi {ps : List Sp} (h : ∀ x ∈ ps, ptB x = true) : ∀ s ∈ ps.map hiF, 0 ≤ s := by
  intro s hs
  obtain ⟨x, hx, rfl⟩ := List.mem_map.1 hs
  exact (pt_bd (h x hx)).2.1
theorem getD_lo (ps : List Sp) (i : Nat) (h : i < ps.length) : (ps.map loF).getD i 0 = (ps.getD i zeroSp).lo := by
  simp [List.getD_eq_getElem?_getD, h, loF]
theorem getD_hi (ps : List Sp) (i : Nat) (h : i < ps.length) : (ps.map hiF).getD i 0 = (ps.getD i zeroSp).hi := by
  simp [List.getD_eq_getElem?_getD, h, hiF]
theorem inSps_bd {ps : List Sp} {xs : List Int} (h : inSps ps xs) (hp : ∀ x ∈ ps, ptB x = true) : ∀ s ∈ xs, 0 ≤ s ∧ s ≤ 5000 := by
  intro s hs
  obtain ⟨i, hi, rfl⟩ := List.getElem_of_mem hs
  have hl : i < ps.length := by have := h.1; omega
  have h1 := h.2 i hl
  have h2 : xs.getD i 0 = xs[i] := by simp [List.getD_eq_getElem?_getD, hi]
  have h3 : ps.getD i zeroSp ∈ ps := by
    have : ps.getD i zeroSp = ps[i] := by simp [List.getD_eq_getElem?_getD, hl]
    rw [this]; exact List.getElem_mem hl
  have h4 := pt_bd (hp _ h3)
  rw [h2] at h1
  omega
/-- What surely holds holds, and what holds may hold. -/
theorem bear_now {ps : List Sp} {xs : List Int} {load : Int} (h0 : anE ps load true = 0) (h : inSps ps xs) :
    ((holV ps load).1 = true → hldI load xs = true) ∧ (hldI load xs = true → (holV ps load).2 = true) := by
  obtain ⟨-, hp, -, -⟩ := anE_ok h0
  have hb := inSps_bd h hp
  rw [holV_ok h0]
  have hl1 : (ps.map loF).length = xs.length := by rw [List.length_map]; exact h.1.symm
  have hl2 : xs.length = (ps.map hiF).length := by rw [List.length_map]; exact h.1
  constructor
  · intro hh
    refine hld_mono (pts_lo hp) (fun s hs => (hb s hs).1) hl1 (fun i hi => ?_) hh
    rw [List.length_map] at hi
    rw [getD_lo ps i hi]
    exact (h.2 i hi).1
  · intro hh
    refine hld_mono (fun s hs => (hb s hs).1) (pts_hi hp) hl2 (fun i hi => ?_) hh
    have hi' : i < ps.length := by have := h.1; omega
    rw [getD_hi ps i hi']
    exact (h.2 i hi').2
/-- A lower load: no anchor less holds it. -/
theorem bear_low {ps : List Sp} {load low : Int} (h0 : anE ps load true = 0) (h1 : 1 ≤ low) (h2 : low ≤ load) :
    anE ps low true = 0 ∧ ((holV ps load).1 = true → (holV ps low).1 = true) ∧ ((holV ps load).2 = true → (holV ps low).2 = true) := by
  obtain ⟨h8, hp, hb, -⟩ := anE_ok h0
  have hE : anE ps low true = 0 := by
    unfold anE
    have : ptsB ps = true := by unfold ptsB; simp only [Bool.and_eq_true, decide_eq_true_eq, List.all_eq_true]; exact ⟨h8, hp⟩
    rw [if_pos this]
    have : (inI low 1 5000 && true) = true := by unfold inI; simp only [Bool.and_eq_true, decide_eq_true_eq]; exact ⟨⟨by omega, by omega⟩, trivial⟩
    rw [if_pos this]
  rw [holV_ok h0, holV_ok hE]
  exact ⟨hE, fun h => hld_lower (pts_lo hp) h2 h, fun h => hld_lower (pts_hi hp) h2 h⟩
/-- One more point: no anchor less holds the load. -/
theorem bear_more {ps : List Sp} {z : Sp} {load : Int} (h0 : anE ps load true = 0) (hz : ptsB (ps ++ [z]) = true) :
    anE (ps ++ [z]) load true = 0 ∧ ((holV ps load).1 = true → (holV (ps ++ [z]) load).1 = true) ∧ ((holV ps load).2 = true → (holV (ps ++ [z]) load).2 = true) := by
  obtain ⟨h8, hp, hb, -⟩ := anE_ok h0
  have hE : anE (ps ++ [z]) load true = 0 := by
    unfold anE
    rw [if_pos hz]
    have : (inI load 1 5000 && true) = true := by unfold inI; simp only [Bool.and_eq_true, decide_eq_true_eq]; exact ⟨⟨by omega, by omega⟩, trivial⟩
    rw [if_pos this]
  have hzp : ptB z = true := by
    unfold ptsB at hz
    simp only [Bool.and_eq_true, decide_eq_true_eq, List.all_eq_true] at hz
    exact hz.2 z (by simp)
  have hzb := pt_bd hzp
  rw [holV_ok h0, holV_ok hE, List.map_append, List.map_append]
  exact ⟨hE, fun h => hld_more (pts_lo hp) hzb.1.1 h, fun h => hld_more (pts_hi hp) hzb.2.1 h⟩
end Go.Proofs.YtggggnjibedgaaaGreat
/- Bears of the specification. -/
set_option linter.unusedSimpArgs false
set_option linter.unusedVariables false
namespace Go.Proofs.YtggggnjibedgaaaGreat
open Go.RowKit
def kepK (m load : Int) (xs : List Int) (k : Nat) : List Int := (xs.take k).filter fun s => decide (load ≤ m * s)
theorem kepK_succ (m load : Int) (xs : List Int) (k : Nat) (h : k < xs.length) : kepK m load xs (k + 1) = if load ≤ m * xs.getD k 0 then kepK m load xs k ++ [xs.getD k 0] else kepK m load xs k := by
  unfold kepK
  rw [List.take_succ_eq_append_getElem h, List.filter_append]
  have e : xs.getD k 0 = xs[k] := by simp [List.getD, List.getElem?_eq_getElem h]
  rw [e]
  by_cases hp : load ≤ m * xs[k]
  · rw [if_pos hp]; simp [hp]
  · rw [if_neg hp]; simp [hp]
theorem kepK_len (m load : Int) (xs : List Int) (k : Nat) : (kepK m load xs k).length ≤ k := by
  unfold kepK
  exact Nat.le_trans (List.length_filter_le _ _) (by rw [List.length_take]; omega)
theorem hldN_stab (load : Int) : ∀ (N : Nat) (zs : List Int), zs.length ≤ N → ∀ k, zs.length ≤ k → hldN load k zs = hldN load zs.length zs := by
  intro N
  induction N with
  | zero =>
    intro zs h k hk
    have h0 : zs = [] := List.length_eq_zero_iff.1 (by omega)
    subst h0
    cases k with
    | zero => rfl
    | succ k => unfold hldN; rfl
  | succ N ih =>
    intro zs h k hk
    obtain ⟨l, hl⟩ : ∃ l, zs.length = l := ⟨_, rfl⟩
    rw [hl]
    cases k with
    | zero =>
      have : l = 0 := by omega
      rw [this]
    | succ k =>
      have hks := keepI_le load zs
      cases l with
      | zero =>
        unfold hldN
        rw [if_pos (by omega)]
      | succ l =>
        unfold hldN
        by_cases hq : (keepI load zs).length = zs.length
        · rw [if_pos hq, if_pos hq]
        · rw [if_neg hq, if_neg hq, ih _ (by omega) k (by omega), ih _ (by omega) l (by omega)]
theorem hldN_stop {load : Int} {ys : List Int} {m : Nat} (hm : ys.length = m) (hq : (keepI load ys).length = m) : hldN load m ys = decide (0 < m) := by
  subst hm
  obtain ⟨l, hl⟩ : ∃ l, ys.length = l := ⟨_, rfl⟩
  rw [hl] at hq ⊢
  cases l with
  | zero => unfold hldN; rw [hl]
  | succ l => unfold hldN; rw [if_pos (by rw [hq, hl]), hl]
theorem hldN_next {load : Int} {ys : List Int} {m : Nat} (hm : ys.length = m) (hq : (keepI load ys).length ≠ m) : hldN load m ys = hldN load (keepI load ys).length (keepI load ys) := by
  have hks := keepI_le load ys
  cases m with
  | zero => omega
  | succ l =>
    have e : hldN load (l + 1) ys = hldN load l (keepI load ys) := by
      unfold hldN
      rw [if_neg (by rw [hm]; exact hq)]
      cases l <;> rfl
    rw [e, hldN_stab load l _ (by omega) l (by omega)]
def vLen (v : Value) : Nat := match v with | .slice _ n _ => n | _ => 0
set_option maxRecDepth 100000 in
set_option maxHeartbeats 8000000 in
theorem rBears_any (xs : List Int) (h0 : ∀ s ∈ xs, 0 ≤ s ∧ s ≤ 5000) (load : Int) (A : Option Addr) (n c : Nat) (hn : xs.length = n) (hm : n ≤ 1000) (w : World) (hA : IntsAt w A xs) :
    Calls Tryz.prog 47 #[.slice A n c, .int .i64 load] w fun e w' => e = .returned (.bool (hldI load xs)) ∧ Ext w w' := by
  have HN := hid hn
  have H0 := hid (show hldN load n xs = hldI load xs by unfold hldI; rw [hn])
  have HAA := hid hA
  have HXX := hid h0
  clear hn hA h0
  generalize hldI load xs = R at *
  go_enter Tryz.func47, Tryz.ntmps47
  go_wp2
  go_loopw [5] (fun v wr => Ext w wr ∧ ∃ (ys : List Int) (m : Nat) (A' : Option Addr) (c' : Nat), v = .slice A' m c' ∧ Hid (ys.length = m) ∧ m ≤ 1000 ∧ Hid (IntsAt wr A' ys) ∧ Hid (∀ s ∈ ys, 0 ≤ s ∧ s ≤ 5000) ∧ Hid (hldN load m ys = R)) (fun v _ => vLen v)
  case atStart => exact ⟨by (repeat' (first | with_reducible assumption | with_reducible exact Ext.refl _ | with_reducible refine Ext.alloc ?_ _ | with_reducible refine Ext.set ?_ ?_ _ | with_reducible refine Ext.drew ?_ | with_reducible refine Ext.drewN ?_ _ | with_reducible refine Ext.trans ?_ (by assumption) | (dsimp only; omega))), xs, n, A, c, rfl, HN, hm, hid (HAA.out.ext (by (repeat' (first | with_reducible assumption | with_reducible exact Ext.refl _ | with_reducible refine Ext.alloc ?_ _ | with_reducible refine Ext.set ?_ ?_ _ | with_reducible refine Ext.drew ?_ | with_reducible refine Ext.drewN ?_ _ | with_reducible refine Ext.trans ?_ (by assumption) | (dsimp only; omega))))), HXX, H0⟩
  case round =>
    obtain ⟨hE, ys, m, A', c', rfl, HM, hm', HY, HB, HR⟩ := hrel
    clear HN H0 HAA HXX
    have HS := hid (fun h => (hldN_stop (load := load) HM.out h).symm.trans HR.out)
    have HNX := hid (fun h => (hldN_next (load := load) HM.out h).symm.trans HR.out)
    have HB2 := hid (show ∀ s ∈ keepI load ys, 0 ≤ s ∧ s ≤ 5000 from fun s h => HB.out s (List.mem_filter.1 h).1)
    have HKS := hid (fun k (h : k < m) => kepK_succ (m : Int) load ys k (by rw [HM.out]; exact h))
    have HKL := hid (fun k => kepK_len (m : Int) load ys k)
    have HK0 := hid (show kepK (m : Int) load ys 0 = [] from rfl)
    have HKE := hid (show kepK (m : Int) load ys m = keepI load ys by unfold kepK keepI; rw [List.take_of_length_le (by rw [HM.out]; exact Nat.le_refl _), HM.out])
    have HYB := hid (fun k (h : k < m) => HB.out (ys.getD k 0) (mem_at ys 0 k (by rw [HM.out]; exact h)))
    clear HR HB
    generalize kepK (m : Int) load ys = KK at *
    generalize keepI load ys = zs at *
    obtain ⟨wo, hwo⟩ : ∃ wo, wo = wr := ⟨_, rfl⟩
    subst hwo
    have hwo2 : w.heap.size ≤ wo.heap.size := hE.size
    go_wp2
    go_loopw [6, 7] (fun v i wx => Ext wo wx ∧ ∃ (k : Nat) (B : Option Addr) (d : Nat), k ≤ m ∧ i = .int .i64 k ∧ v = .slice B (KK k).length d ∧ Hid (Ownl 3 1 gIn wx wo.heap.size (.slice B (KK k).length d) (KK k))) (fun _ i _ => m - (intOf i).toNat)
    case atStart => exact ⟨Ext.refl _, 0, none, 0, Nat.zero_le _, rfl, by rw [HK0.out]; rfl, hid (by rw [HK0.out]; exact Ownl.nil _ _)⟩
    case round =>
      obtain ⟨hF, k, B, d, hk, rfl, rfl, HV⟩ := hrel
      have hwr : wo.heap.size ≤ wr.heap.size := hF.size
      by_cases hlt : k < m
      · obtain ⟨b, off, rfl, hb, c0⟩ := (HY.out.ext hF).at_ HM.out hlt
        have HSk := hid (HKS.out k hlt)
        have hk1 : (KK k).length ≤ 1000 := by have := HKL.out k; omega
        have hx := HYB.out k hlt
        have hk0 : (0 : Int) ≤ (k : Int) := by omega
        have hki : (k : Int) < (m : Int) := by omega
        clear HKS HKL HYB HS HNX HB2 HKE HK0
        generalize ys.getD k 0 = x at *
        have hmul : 0 ≤ (m : Int) * x ∧ (m : Int) * x ≤ 5000000 := ⟨Int.mul_nonneg (by omega) hx.1, by
          have := Int.mul_le_mul (show (m : Int) ≤ 1000 by omega) hx.2 hx.1 (by omega : (0:Int) ≤ 1000); omega⟩
        have hw1 : IntKind.i64.wrap ((m : Int) * x) = (m : Int) * x := IntWalk.i64_in _ (by omega)
        by_cases hp : load ≤ (m : Int) * x
        · rw [if_pos hp] at HSk
          generalize KK k = acc at *
          go_wp2_with (at_builtin; refine Halt.mk ?_)
          unfold Halt
          have BN := hid (show Blk (wr.alloc (.cells #[.int .i64 x] 3)) wr.heap.size 3 #[.int .i64 x] from blk_last _ _)
          refine wpList_app1In _ rfl _ _ rfl wo.heap.size (.slice B acc.length d) acc rfl (HV.out.ext (ext_alloc1 _ _)) wr.heap.size x rfl BN.out (by omega) (by simp; omega) ?_
          intro v4 w4 hO hg _
          have E4 := hid (HV.out.extApp hF (Nat.le_refl _) hg)
          obtain ⟨A4, c4, rfl, -, -⟩ := ownIn hO
          have V4 := hid hO
          clear hO hg HV BN
          go_wp2
          go_roundw
          case rel => exact ⟨E4.out, k + 1, A4, c4, by omega, by go_num, by rw [HSk.out]; first | rfl | simp, hid (by rw [HSk.out]; exact V4.out)⟩
          case measure => simp [intOf]; omega
        · rw [if_neg hp] at HSk
          go_wp2
          go_roundw
          case rel => exact ⟨hF, k + 1, B, d, by omega, by go_num, by rw [HSk.out], hid (by rw [HSk.out]; exact HV.out)⟩
          case measure => simp [intOf]; omega
      · obtain rfl : k = m := by omega
        rw [HKE.out] at HV ⊢
        obtain ⟨q, hq⟩ : ∃ q, zs.length = q := ⟨_, rfl⟩
        have hql : q ≤ k := by have := HKL.out k; rw [HKE.out] at this; omega
        obtain ⟨A6, c6, h6, -, hs6⟩ := ownIn HV.out
        have hA6 : B = A6 := by injection h6
        subst hA6
        have HS6 := hid hs6
        rw [hq] at HS HNX ⊢
        have HQ := hid hq
        have E5 := hid (hE.trans hF)
        clear hs6 h6 hq HV HKS HKL HYB HKE HK0
        by_cases hqm : q = k
        · subst hqm
          have HF := hid (HS.out rfl)
          go_wp2
          go_ret
          exact ⟨ret_bool (by first | (rw [← HF.out]; done) | (rw [← HF.out]; simp; done) | (rw [← HF.out]; simp; omega)), E5.out⟩
        · have HF := hid (HNX.out hqm)
          have hqi : ¬ ((q : Int) = (k : Int)) := by omega
          go_wp2
          go_roundw
          case rel => exact ⟨E5.out, zs, q, B, d, rfl, HQ, by omega, HS6, HB2, HF⟩
          case measure =>
            show q < k
            omega
end Go.Proofs.YtggggnjibedgaaaGreat
/- append of points to an empty slice. -/
set_option linter.unusedSimpArgs false
set_option linter.unusedVariables false
namespace Go.Proofs.YtggggnjibedgaaaGreat
open Go.RowKit
theorem append_noSp (z : Nat) (A : Option Addr) (c : Nat) (ty : TypeId) (w : World) : (Builtin.append_ #[42, 42] ty #[.slice (some ⟨z, 0, none⟩) 0 0, .slice A 0 c]).run Tryz.prog w = .ok (.slice (some ⟨z, 0, none⟩) 0 0) w := by
  obtain ⟨i0, hi, hz0, hz1, hz2⟩ := info_parts infoSp
  cases A with
  | none => simp [Builtin.append_, run_underlying Tryz.underlying42, sizeOf, typeInfo, hi, Builtin.lenOf, Builtin.firstCells, loadCells, loadCellsFrom, storeCells]
  | some ad => simp [Builtin.append_, run_underlying Tryz.underlying42, sizeOf, typeInfo, hi, Builtin.lenOf, Builtin.firstCells, loadCells, loadCellsFrom, storeCells]
theorem wp_appAllSp {o : Oper} {a : Act} {K : Act → World → Prop} {Q : Exit → Act → World → Prop} (w : World) (s x : Operand)
    (ho : o.op = .call { callee := .builtin .append, args := #[s, x], argTypes := #[42, 42] }) (B z : Nat) (A : Option Addr) (c : Nat) (os : List Sp) (hs : a.eval s = .slice (some ⟨z, 0, none⟩) 0 0) (hz : Blk w z 33 #[]) (hBz : B ≤ z)
    (n : Nat) (hn : os.length = n) (hx : a.eval x = .slice A n c) (hO : SpsAt w A os) (hl : n ≤ 10000)
    (h : ∀ v' w', Ownl 33 2 gSp w' B v' os → w.grownBy w' (some z) → K (a.put o.dst v') w') : o.wp Tryz.prog a w K Q := by
  subst hn
  have hlt := hz.lt
  have h0r : w.ownsRow B 33 2 (.slice (some ⟨z, 0, none⟩) 0 0) 0 [] := ⟨rfl, .inr ⟨z, 0, #[], rfl, hBz, hz, Nat.le_refl _, Nat.zero_le _, rfl, rfl⟩⟩
  by_cases h0 : os = []
  · subst h0
    have hr := append_noSp z A c o.type w
    unfold Oper.wp execOp
    simp only [ho, resolve, invoke, builtin, Sem.run_bind, Sem.run_pure, Result.andThen_ok, List.map_toArray, List.map_cons, List.map_nil, hs, hx, List.length_nil, hr]
    exact h (.slice (some ⟨z, 0, none⟩) 0 0) w h0r ⟨rfl, rfl, rfl, Nat.le_refl _, fun _ _ _ => rfl⟩
  · obtain ⟨b, off, rfl, hb, hc⟩ := hO h0
    obtain ⟨i0, hi, hz0, hz1, hz2⟩ := info_parts infoSp
    refine wp_append_own w s x 42 ho B 33 i0 _ 2 16 Tryz.underlying42 hi hz0 hz1 hz2 rfl (by decide) (.slice (some ⟨z, 0, none⟩) 0 0) 0 [] hs h0r ⟨b, off, none⟩ os.length c (os.flatMap gSp) hx (fm_len gSp 2 (fun _ => rfl) os) (flat_from (s := 2) (g := gSp) (d := zeroSp) (by decide) (fun _ => rfl) (fun k hk r hr => ?_)) (fun u hu => ?_) (by unfold maxLen; omega) (by omega) (by omega) (fun v' w' h1 h2 h3 => ?_)
    · have hkk := hc k hk
      generalize os.getD k zeroSp = y at *
      rw [← Nat.add_assoc]
      (match r, hr with
      | 0, _ => exact hkk.c0
      | 1, _ => exact hkk.c1)
    · obtain ⟨y, -, hy⟩ := List.mem_flatMap.1 hu
      exact oneSp y u hy
    · rw [Nat.zero_add, List.nil_append] at h1
      exact h v' w' h1 h2
theorem wpList_appAllSp {ops : Array Oper} {rest : List Oper} {o : Oper} {a : Act} {Q : Exit → Act → World → Prop} (w : World) (hgd : o.guard = none) (s x : Operand)
    (ho : o.op = .call { callee := .builtin .append, args := #[s, x], argTypes := #[42, 42] }) (B z : Nat) (A : Option Addr) (c : Nat) (os : List Sp) (hs : a.eval s = .slice (some ⟨z, 0, none⟩) 0 0) (hz : Blk w z 33 #[]) (hBz : B ≤ z)
    (n : Nat) (hn : os.length = n) (hx : a.eval x = .slice A n c) (hO : SpsAt w A os) (hl : n ≤ 10000)
    (h : ∀ v' w', Ownl 33 2 gSp w' B v' os → w.grownBy w' (some z) → wpList Tryz.prog ops Q rest (a.put o.dst v') w') : wpList Tryz.prog ops Q (o :: rest) a w :=
  wpList_plain hgd fun _ hK => wp_appAllSp w s x ho B z A c os hs hz hBz n hn hx hO hl fun v' w' h1 h2 => hK _ _ (h v' w' h1 h2)
end Go.Proofs.YtggggnjibedgaaaGreat
/- What a region of the anchors' law lays: an empty slice, all points appended to it, a slice of one point, and that appended. -/
set_option linter.unusedSimpArgs false
set_option linter.unusedVariables false
namespace Go.Proofs.YtggggnjibedgaaaGreat
open Go.RowKit
theorem wp_frame_eq {P : Program} {md : Region.Mode} {ops : Array Oper} {Q : Exit → Act → World → Prop} {S : World → Prop} {fuel : Nat} {listed : Array Bool} {a : Act} {w : World}
    (h : ∀ fr, a = fr → wpAnyH P md ops Q S fuel listed fr w) : wpAnyH P md ops Q S fuel listed a w := h a rfl
theorem put_size (a : Act) (d : Option Tmp) (v : Value) : (a.put d v).tmps.size = a.tmps.size := by
  cases d with
  | none => rfl
  | some d => simp [Act.put]
theorem eval_at {a : Act} {d : Tmp} (h : d < a.tmps.size) (v : Value) : (a.put (some d) v).eval (.tmp d) = v := by
  simp [Act.put, Act.eval, h]
theorem wp_build0 {P : Program} {o : Oper} {a : Act} {w : World} {K : Act → World → Prop} {Q : Exit → Act → World → Prop} (t e : TypeId) (ho : o.op = .buildSlice t 0 #[])
    (ie : TypeInfo) (z : Value) (hu : P.underlying t = some (.slice e)) (hie : P.info? e = some ie) (hz : ie.zero = some z)
    (h : K (a.put o.dst (.slice (some ⟨w.heap.size, 0, none⟩) 0 0)) (w.alloc (.cells #[] e))) : o.wp P a w K Q := by
  have hr : (Instr.buildSlice t 0 #[]).run P w = .ok (.slice (some ⟨w.heap.size, 0, none⟩) 0 0) (w.alloc (.cells #[] e)) := by
    simp [Instr.buildSlice, run_underlying hu, sizeOf, typeInfo, zeroValue, hie, hz, newRow, show Array.range 0 = #[] from rfl, Instr.fill, newObj, Sem.run_bind, Sem.run]
  unfold Oper.wp execOp
  simp only [ho, List.map_toArray, List.map_nil, Sem.run_bind, hr, Result.andThen_ok]
  exact h
theorem wp_app1Sp {o : Oper} {a : Act} {K : Act → World → Prop} {Q : Exit → Act → World → Prop} (w : World) (s x : Operand)
    (hop : o.op = Op.call { callee := Callee.builtin Builtin.append, args := #[s, x], argTypes := #[42, 42] }) (B : Nat) (v : Value) (xs : List Sp) (hs : a.eval s = v) (hown : Ownl 33 2 gSp w B v xs)
    (z : Nat) (y : Sp) (hx : a.eval x = .slice (some ⟨z, 0, none⟩) 1 1) (hy : Blk w z 33 #[.int .i64 y.lo, .int .i64 y.hi]) (hl : xs.length ≤ 10000) (hB : B ≤ w.heap.size)
    (hK : ∀ v' w', Ownl 33 2 gSp w' B v' (xs ++ [y]) → w.grownBy w' v.ownBlock → K (a.put o.dst v') w') : o.wp Tryz.prog a w K Q := by
  obtain ⟨i0, hi, hz0, hz1, hz2⟩ := info_parts infoSp
  refine wp_append_own w s x 42 hop B 33 i0 _ 2 16 Tryz.underlying42 hi hz0 hz1 hz2 rfl (by decide) v xs.length (xs.flatMap gSp) hs hown ⟨z, 0, none⟩ 1 1 (gSp y) hx rfl ?_ (oneSp y) (by unfold maxLen; omega) (by omega) hB (fun v' w' h1 h2 _ => hK v' w' (Ownl.snoc h1) h2)
  intro j u hj
  rw [addr_add, Nat.zero_add, hy.cell]
  match j, hj with
  | 0, hj => exact hj
  | 1, hj => exact hj
  | j + 2, hj => simp [gSp] at hj
theorem fillSp (a b : Int) : Instr.fill (fun i => some (i * 2, 2)) ((Array.range (1 * 2)).map ((Value.agg #[.int .i64 0, .int .i64 0]).cells[· % (Value.agg #[.int .i64 0, .int .i64 0]).cells.size]!)) [(0, .agg #[.int .i64 a, .int .i64 b])] = some #[.int .i64 a, .int .i64 b] := by
  kernel_rfl
/-- What the region has laid so far. -/
structure BeF (V : World) (B : Nat) (T : TypeId) (cs : Array Value) (ps : List Sp) (zl zh : Int) (p0 p2 p5 : Bool) (z0 z1 : Nat) (v : Value) (X : World) : Prop where
  e : Ext V X
  kv : B < V.heap.size
  b : Blk X B T cs
  k0 : p0 = true → p2 = false → V.heap.size ≤ z0 ∧ Blk X z0 33 #[]
  k2 : p2 = true → Ownl 33 2 gSp X V.heap.size v ps
  k5 : p5 = true → V.heap.size ≤ z1 ∧ Blk X z1 33 #[.int .i64 zl, .int .i64 zh]
section
variable {V X Y : World} {B : Nat} {T : TypeId} {cs : Array Value} {ps : List Sp} {zl zh : Int} {p0 p2 p5 : Bool} {z0 z1 : Nat} {v : Value}
theorem BeF.ext (h : BeF V B T cs ps zl zh p0 p2 p5 z0 z1 v X) (e : Ext X Y) : BeF V B T cs ps zl zh p0 p2 p5 z0 z1 v Y :=
  ⟨h.e.trans e, h.kv, h.b.ext e, fun a b => ⟨(h.k0 a b).1, (h.k0 a b).2.ext e⟩, fun a => (h.k2 a).ext e, fun a => ⟨(h.k5 a).1, (h.k5 a).2.ext e⟩⟩
theorem BeF.al0 (h : BeF V B T cs ps zl zh false false p5 z0 z1 v X) : BeF V B T cs ps zl zh true false p5 X.heap.size z1 v (X.alloc (.cells #[] 33)) := by
  have h2 := h.ext (ext_alloc1 X (.cells #[] 33))
  exact ⟨h2.e, h2.kv, h2.b, fun _ _ => ⟨h.e.size, Blk.new X _ _⟩, h2.k2, h2.k5⟩
theorem BeF.al5 (h : BeF V B T cs ps zl zh p0 p2 false z0 z1 v X) : BeF V B T cs ps zl zh p0 p2 true z0 X.heap.size v (X.alloc (.cells #[.int .i64 zl, .int .i64 zh] 33)) := by
  have h2 := h.ext (ext_alloc1 X (.cells #[.int .i64 zl, .int .i64 zh] 33))
  exact ⟨h2.e, h2.kv, h2.b, h2.k0, h2.k2, fun _ => ⟨h.e.size, Blk.new X _ _⟩⟩
theorem BeF.app (h : BeF V B T cs ps zl zh true false p5 z0 z1 v X) {v' : Value} (hg : X.grownBy Y (some z0)) (ho : Ownl 33 2 gSp Y V.heap.size v' ps) : BeF V B T cs ps zl zh true true p5 z0 z1 v' Y := by
  obtain ⟨q1, q2⟩ := h.k0 rfl rfl
  have hkv := h.kv
  refine ⟨Below.grown h.e hg h.e.size (fun k ek => by cases ek; exact q1), h.kv, h.b.grown hg (fun x => by cases x; omega), fun _ x => Bool.noConfusion x, fun _ => ho, fun a => ⟨(h.k5 a).1, (h.k5 a).2.grown hg (fun x => ?_)⟩⟩
  cases x
  have h1 : X.heap[z0]? = some (.cells #[] 33 (0, 0)) := q2
  have h2 : X.heap[z0]? = some (.cells #[.int .i64 zl, .int .i64 zh] 33 (0, 0)) := (h.k5 a).2
  rw [h1] at h2
  injection h2 with h3
  injection h3 with h4 h5
  cases h4
theorem BeF.fin (h : BeF V B T cs ps zl zh true true true z0 z1 v X) (hg : X.grownBy Y v.ownBlock) : Ext V Y ∧ Blk Y B T cs := by
  have hb := fun q (hq : v.ownBlock = some q) => (Ownl.block (h.k2 rfl) q hq).1
  have hkv := h.kv
  exact ⟨Below.grown h.e hg h.e.size (fun k ek => hb k ek), h.b.grown hg (fun x => by have := hb _ x.symm; omega)⟩
end
end Go.Proofs.YtggggnjibedgaaaGreat
