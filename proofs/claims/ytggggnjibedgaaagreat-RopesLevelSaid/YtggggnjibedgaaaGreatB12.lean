/- teams: all teams and their ropes, yielded. -/
import Derived.Test.YtggggnjibedgaaaGreatB11
import Derived.Test.YtggggnjibedgaaaGreatB01
import Derived.Test.YtggggnjibedgaaaGreatB02
import Derived.RangeFuncNested
import Derived.RangeFuncBound
import Derived.RangeFuncCalls
import Derived.RangeFuncLeaves
import Derived.Deep.RegionHeld3
import Derived.OwnWalkIn
import Derived.TacticsInMore
import Derived.LoopNIn
import Derived.LoopIn
import Derived.Test.YtggggnjibedgaaaGreatB10
set_option linter.unusedSimpArgs false
set_option linter.unusedVariables false
namespace Go.Proofs.YtggggnjibedgaaaGreat
open Go.RowKit
attribute [local go_sem] Oper.semAt_some
def VLed (o : Ou) (S : Nat) (gs : List Nat) (args : Array Value) (W : World) : Prop :=
  ∃ Bf, S ≤ Bf ∧ args = #[.slice (some ⟨Bf, 0, none⟩) gs.length o.cls.length] ∧ Buf S Bf o.cls.length gs W ∧ gs.length = o.cls.length ∧ ∀ g ∈ gs, g < o.gds.length
theorem led_gives (o : Ou) (A : OA) (F : Option Addr) (fn fc n : Nat) (hm : o.cls.length ≤ 1000) (hn : o.gds.length ≤ 1000) (hc : ∀ x ∈ o.cls, 0 ≤ x ∧ x ≤ 1000) :
    GivesG n (n - 1) 118 (fun y => #[ouV o A F fn fc, y]) (fun W => GdsAt W A.gA o.gds ∧ IntsAt W A.cA o.cls) (VLed o) (ledL o o.cls.length []) := by
  intro l J W hR hS hY h0
  refine callsIn_wide.2 (led_any o A F fn fc l (n - 1) J hm hn hc W ⟨fun p X h => (hR p X h).1, fun p X h => (hR p X h).2, hS⟩ ?_ h0)
  intro Bf hBf pre x W1 hx1 hx2 hj hb
  exact hY pre x _ W1 hj ⟨Bf, hBf, rfl, hb, hx1, hx2⟩
/-- The teams of the first of the ways. -/
def tmsK (o : Ou) (pre : List (List Nat)) : List (List Nat × List Int) := pre.filterMap fun gs => (tieL o gs).map fun r => (gs, r)
theorem tmsK_snoc (o : Ou) (pre : List (List Nat)) (x : List Nat) : tmsK o (pre ++ [x]) = tmsK o pre ++ (match tieL o x with | none => [] | some r => [(x, r)]) := by
  unfold tmsK
  rw [List.filterMap_append]
  cases h : tieL o x <;> simp [h]
theorem tieL_len (o : Ou) (gs : List Nat) (rs : List Int) (h : tieL o gs = some rs) : rs.length = o.gds.length := by
  unfold tieL at h
  dsimp only at h
  split at h
  · injection h with h
    rw [← h]
    simp
  · cases h
def VTms (S : Nat) (t : List Nat × List Int) (args : Array Value) (W : World) : Prop :=
  ∃ v q cap, args = #[v, .slice (some ⟨q, 0, none⟩) t.2.length cap] ∧ RowI W q cap t.2 ∧ t.2.length ≤ 12
structure TmR (o : Ou) (A : OA) (F : Option Addr) (W : World) : Prop where
  gds : GdsAt W A.gA o.gds
  cls : IntsAt W A.cA o.cls
  fit : IntsAt W F (nI (fitS o))
  ros : RosAt W A.rA o.ros
set_option maxRecDepth 100000 in
set_option maxHeartbeats 8000000 in
theorem teams_gives (o : Ou) (A : OA) (F : Option Addr) (fc n : Nat) (h3 : 3 ≤ n) (hm : o.cls.length < 20) (h0c : 0 < o.cls.length) (hn : o.gds.length ≤ 12) (hc : ∀ x ∈ o.cls, 0 ≤ x ∧ x ≤ 1000)
    (hr : ∀ r ∈ o.ros, 0 ≤ r.len ∧ r.len ≤ 1000) (hl : o.ros.length ≤ 1000) (hs : 0 ≤ o.spc ∧ o.spc ≤ 1000) :
    GivesG n (n - 1 - 1 - 1) 82 (fun y => #[ouV o A F (fitS o).length fc, y]) (TmR o A F) VTms (tmsL o) := by
  intro l J W hR hS hY h0
  have HTI := hid (fun (gs : List Nat) (S Bf : Nat) (pre : List (List Nat × List Int)) (W1 : World) (hj : J pre W1) (hb : Buf S Bf o.cls.length gs W1) (h1 : gs.length = o.cls.length) (h2 : ∀ g ∈ gs, g < o.gds.length) =>
    tie_any o A F fc gs (some ⟨Bf, 0, none⟩) o.cls.length ⟨h2, by omega, by omega, hn, hr, hl, hs⟩ W1 (hR _ _ hj).fit (hR _ _ hj).ros hb.ints)
  have HLG := hid (led_gives o A F (fitS o).length fc (n - 1) (by omega) (by omega) hc)
  have HST := hid hS
  have HRR := hid hR
  have HY := hid hY
  have HJ0 := hid h0
  clear hR hS hY h0 hr hl hs hc
  refine callsIn_of_wp_marks Tryz.func82 rfl trivial ?_ rfl
  simp only [Tryz.ntmps82, List.size_toArray, List.length_cons, List.length_nil, Nat.reduceAdd, Nat.reduceSub, Array.replicate_succ, Array.replicate_zero, List.push_toArray, List.append_toArray, List.nil_append, List.cons_append]
  unfold ouV at *
  gi_wp2_with fail
  have Z := blks2 W (.cells #[.int .i64 o.day, .int .i64 o.grade, .int .i64 o.spc, .slice A.gA o.gds.length A.gc, .slice A.cA o.cls.length A.cc, .int .i64 o.md.shelf, .int .i64 o.md.use, .int .i64 o.md.bears, .slice A.wA o.md.wears.length A.wc, .slice A.rA o.ros.length A.rc, .slice F (fitS o).length fc] 126) (.cells #[.func (.yield l) #[] #[]] 48)
  have Z1 := hid (show Blk _ _ _ _ from Z.1)
  have Z2 := hid (show Blk _ _ _ _ from Z.2)
  clear Z
  have G1 := (World.grownBy_alloc W (.cells #[.int .i64 o.day, .int .i64 o.grade, .int .i64 o.spc, .slice A.gA o.gds.length A.gc, .slice A.cA o.cls.length A.cc, .int .i64 o.md.shelf, .int .i64 o.md.use, .int .i64 o.md.bears, .slice A.wA o.md.wears.length A.wc, .slice A.rA o.ros.length A.rc, .slice F (fitS o).length fc] 126) none).trans (World.grownBy_alloc _ (.cells #[.func (.yield l) #[] #[]] 48) none)
  have J1 := hid (show J (tmsK o []) _ from HST.out _ _ _ _ HJ0.out G1 (fun r e => by cases e))
  obtain ⟨U, hU⟩ : ∃ U, (W.alloc (.cells #[.int .i64 o.day, .int .i64 o.grade, .int .i64 o.spc, .slice A.gA o.gds.length A.gc, .slice A.cA o.cls.length A.cc, .int .i64 o.md.shelf, .int .i64 o.md.use, .int .i64 o.md.bears, .slice A.wA o.md.wears.length A.wc, .slice A.rA o.ros.length A.rc, .slice F (fitS o).length fc] 126)).alloc (.cells #[.func (.yield l) #[] #[]] 48) = U := ⟨_, rfl⟩
  have hz : U.heap.size = W.heap.size + 2 := by rw [← hU]; simp
  rw [hU] at Z1 Z2 J1 ⊢
  clear G1 hU HJ0
  refine range_gives2 (xs := ledL o o.cls.length []) (V := VLed o) (by omega) rfl (enters_of Tryz.func118 (by kernel_rfl) rfl) HLG.out
    (fun pre X => J (tmsK o pre) X ∧ Blk X W.heap.size 126 #[.int .i64 o.day, .int .i64 o.grade, .int .i64 o.spc, .slice A.gA o.gds.length A.gc, .slice A.cA o.cls.length A.cc, .int .i64 o.md.shelf, .int .i64 o.md.use, .int .i64 o.md.bears, .slice A.wA o.md.wears.length A.wc, .slice A.rA o.ros.length A.rc, .slice F (fitS o).length fc] ∧ Blk X (W.heap.size + 1) 48 #[.func (.yield l) #[] #[]])
    ?hI ?hV ?hVn (fun pre X h => ⟨(HRR.out _ _ h.1).gds, (HRR.out _ _ h.1).cls⟩) ⟨J1.out, Z1.out, Z2.out⟩ (fun args => { tmps := #[.agg #[.int .i64 o.day, .int .i64 o.grade, .int .i64 o.spc, .slice A.gA o.gds.length A.gc, .slice A.cA o.cls.length A.cc, .int .i64 o.md.shelf, .int .i64 o.md.use, .int .i64 o.md.bears, .slice A.wA o.md.wears.length A.wc, .slice A.rA o.ros.length A.rc, .slice F (fitS o).length fc], .func (.yield l) #[] #[], .pointer (some ⟨W.heap.size, 0, none⟩), .pointer (some ⟨W.heap.size + 1, 0, none⟩), args.getD 0 undef, undef, undef, .agg #[.int .i64 o.day, .int .i64 o.grade, .int .i64 o.spc, .slice A.gA o.gds.length A.gc, .slice A.cA o.cls.length A.cc, .int .i64 o.md.shelf, .int .i64 o.md.use, .int .i64 o.md.bears, .slice A.wA o.md.wears.length A.wc, .slice A.rA o.ros.length A.rc, .slice F (fitS o).length fc], .func (.func 118) #[.agg #[.int .i64 o.day, .int .i64 o.grade, .int .i64 o.spc, .slice A.gA o.gds.length A.gc, .slice A.cA o.cls.length A.cc, .int .i64 o.md.shelf, .int .i64 o.md.use, .int .i64 o.md.bears, .slice A.wA o.md.wears.length A.wc, .slice A.rA o.ros.length A.rc, .slice F (fitS o).length fc]] #[], args.getD 0 undef, undef, undef, undef, undef, undef, undef, undef, undef, undef, undef, undef, undef, undef, undef], defers := [] }) ?ass ?body ?done
  case hI =>
    rintro pre W1 W2 row ⟨q1, q2, q3⟩ hg hrow
    exact ⟨HST.out _ _ _ _ q1 hg (fun r e => by have := hrow r e; omega), q2.grown hg (fun e => by have := hrow _ e.symm; omega), q3.grown hg (fun e => by have := hrow _ e.symm; omega)⟩
  case hV =>
    rintro S x args W1 q L o2 ⟨Bf, q1, q2, q3, q4, q5⟩ hq
    refine ⟨Bf, q1, q2, q3.grown (grownBy_putObj' W1 q o2) ?_, q4, q5⟩
    intro e
    injection e with e
    subst e
    obtain ⟨cs, hc⟩ := q3.cells
    rw [hc] at hq
    cases hq
  case hVn =>
    rintro S x args W1 ⟨Bf, q1, rfl, q3⟩
    rfl
  case ass =>
    intro l2 args X K hs hK
    obtain ⟨v, rfl⟩ : ∃ v, args = #[v] := by
      rcases args with ⟨ls⟩
      match ls, hs with
      | [v], _ => exact ⟨v, rfl⟩
    have HK := hid hK
    clear hK
    gi_wp2
    exact HK.out
  case body =>
    rintro l2 pre x args X hl2 ⟨Bf, hB1, rfl, hb, hx1, hx2⟩ ⟨hj, hb0, hb1⟩ hXz
    have HT := hid (HTI.out x _ Bf _ X hj hb hx1 hx2)
    have HS := hid (tmsK_snoc o pre x)
    have HJ := hid hj
    have HB0 := hid hb0
    have HB1 := hid hb1
    obtain ⟨x0, x1, x2, x3, x4, x5, x6, x7, x8, x9, x10⟩ : _ ∧ _ ∧ _ ∧ _ ∧ _ ∧ _ ∧ _ ∧ _ ∧ _ ∧ _ ∧ _ := ⟨hb0.cell 0, hb0.cell 1, hb0.cell 2, hb0.cell 3, hb0.cell 4, hb0.cell 5, hb0.cell 6, hb0.cell 7, hb0.cell 8, hb0.cell 9, hb0.cell 10⟩
    have xz := hb0.lt
    simp only [List.getElem?_toArray, List.getElem?_cons_zero, List.getElem?_cons_succ] at x0 x1 x2 x3 x4 x5 x6 x7 x8 x9 x10
    clear hj hb hb0 hb1 HTI HLG J1 Z1 Z2
    rw [hx1] at HT ⊢
    have hgd : (#[Value.slice (some ⟨Bf, 0, none⟩) o.cls.length o.cls.length] : Array Value).getD 0 undef = .slice (some ⟨Bf, 0, none⟩) o.cls.length o.cls.length := rfl
    rw [hgd]
    clear hgd
    gi_wp2_with fail
    refine ⟨trivial, fun hh => absurd hh (by simp [Fence.wide]), ?_⟩
    refine (CallsIn.inRound l2 (callsIn_wide.2 HT.out)).mono ?_
    intro e w6 hTI
    clear HT x0 x1 x2 x3 x4 x5 x6 x7 x8 x9 x10 xz
    have HTL := hid (fun rs => tieL_len o x rs)
    generalize tieL o x = r at HS hTI HTL
    cases r with
    | none =>
      obtain ⟨rfl, hE6⟩ := hTI
      have J6 := hid (show J (tmsK o (pre ++ [x])) w6 by rw [HS.out, List.append_nil]; exact HST.out _ _ _ _ HJ.out (ext_grown hE6) (fun r e => by cases e))
      have A6 := hid (KeepsAll.ext (S := W.heap.size) hE6)
      have X0 := hid (HB0.out.ext hE6)
      have X1 := hid (HB1.out.ext hE6)
      clear hE6 HS HJ HB0 HB1 HTL
      gi_wp2_with fail
      refine ⟨(fun f hf => by cases hf), ?_⟩
      gi_wp2_with fail
      first | exact ⟨A6.out.from (by omega), A6.out.mono (by omega), J6.out, X0.out, X1.out⟩ | exact ⟨rfl, A6.out.from (by omega), A6.out.mono (by omega), J6.out, X0.out, X1.out⟩
    | some rs =>
      obtain ⟨q, cap, rfl, hq, hE6⟩ := hTI
      have J6 := HST.out _ _ _ _ HJ.out (ext_grown hE6) (fun r e => by cases e)
      have A6 := hid (KeepsAll.ext (S := W.heap.size) hE6)
      have hb0 := HB0.out.ext hE6
      have hb1 := HB1.out.ext hE6
      obtain ⟨fnn, tmps, assign, body, hy, hR⟩ := HY.out (tmsK o pre) (x, rs) _ w6 J6 ⟨.slice (some ⟨Bf, 0, none⟩) o.cls.length o.cls.length, q, cap, rfl, hq, show rs.length ≤ 12 by have := HTL.out rs rfl; omega⟩
      have HR := hid hR
      have X0 := hid hb0
      have X1 := hid hb1
      have y0 := hb1.cell 0
      have yz := hb1.lt
      simp only [List.getElem?_toArray, List.getElem?_cons_zero] at y0
      dsimp only at hy
      clear hE6 HJ HB0 HB1 hR J6 HTL hb0 hb1 hq HY
      gi_wp2_with fail
      refine ⟨fun hh => absurd hh (by simp [Fence.wide]), ?_⟩
      refine RoundIn.mono (F := Fence.wide.inRound l2) HR.out ?_
      rintro e W7 ⟨rfl, hJ7, hA7⟩
      have J7 := hid (show J (tmsK o (pre ++ [x])) W7 by rw [HS.out]; exact hJ7)
      have A7 := hid (A6.out.trans hA7)
      have Y0 := hid (hA7.blk (by omega) X0.out)
      have Y1 := hid (hA7.blk (by omega) X1.out)
      clear hJ7 hA7 HR hy X0 X1 y0 yz HS A6
      gi_wp2_with fail
      first | exact ⟨A7.out.from (by omega), A7.out.mono (by omega), J7.out, Y0.out, Y1.out⟩ | exact ⟨rfl, A7.out.from (by omega), A7.out.mono (by omega), J7.out, Y0.out, Y1.out⟩
  case done =>
    rintro D X hD ⟨hj, -, -⟩ hDk
    have HD := hid hDk
    have HJ := hid (show J (tmsL o) X from hj)
    clear hj hDk HTI HLG J1 Z1 Z2
    gi_wp2_with fail
    refine ⟨by simp, .inl ⟨_, _, rfl, run_takeDeferred HD.out, ?_⟩⟩
    refine ⟨_, results_none rfl _ _ _, ?_⟩
    exact ⟨⟨_, rfl⟩, HST.out _ _ _ _ HJ.out (grownBy_putObj' X _ _) (fun r e => by injection e with e; omega)⟩
theorem VTms.put {S : Nat} {t : List Nat × List Int} {args : Array Value} {W : World} {q : Nat} {L : Loop} {o : Obj} (h : VTms S t args W) (hq : W.heap[q]? = some (.loop L)) : VTms S t args (W.putObj q o) := by
  obtain ⟨v, b, cap, q1, q2, q3⟩ := h
  refine ⟨v, b, cap, q1, q2.grown (grownBy_putObj' W q o) ?_, q3⟩
  intro e
  injection e with e
  subst e
  obtain ⟨_, cur, hc, _⟩ := q2
  rw [hc] at hq
  cases hq
end Go.Proofs.YtggggnjibedgaaaGreat
/- How many guides have ropes. -/
set_option linter.unusedSimpArgs false
set_option linter.unusedVariables false
namespace Go.Proofs.YtggggnjibedgaaaGreat
open Go.RowKit
def keeK (xs : List Int) (p : Int → Bool) (k : Nat) : List Int := (xs.take k).filter p
theorem keeK_succ (xs : List Int) (p : Int → Bool) (k : Nat) (h : k < xs.length) : keeK xs p (k + 1) = if p (xs.getD k 0) then keeK xs p k ++ [xs.getD k 0] else keeK xs p k := by
  unfold keeK
  rw [List.take_succ_eq_append_getElem h, List.filter_append]
  have e : xs.getD k 0 = xs[k] := by simp [List.getD, List.getElem?_eq_getElem h]
  rw [e]
  cases hp : p xs[k] <;> simp [hp]
theorem keeK_len (xs : List Int) (p : Int → Bool) (k : Nat) : (keeK xs p k).length ≤ k := by
  unfold keeK
  exact Nat.le_trans (List.length_filter_le _ _) (by rw [List.length_take]; omega)
set_option maxRecDepth 100000 in
set_option maxHeartbeats 4000000 in
theorem keepIn_any (fn : Nat) (caps : Array Value) (eg : ∀ args w, (callFunc fn args).run Tryz.prog w = .ok (.enter fn args) w) (xs : List Int) (p : Int → Bool) (A : Option Addr) (n c : Nat) (hn : xs.length = n) (hm : n ≤ 1000) (w : World) (hx : IntsAt w A xs)
    (hf : ∀ (x : Int) (W : World), Ext w W → Calls Tryz.prog fn (#[.int .i64 x] ++ caps) W fun e W' => e = .returned (.bool (p x)) ∧ Ext W W') :
    Calls Tryz.prog 120 #[.slice A n c, .func (.func fn) #[] caps] w fun e w' => ∃ B d, e = .returned (.slice B (xs.filter p).length d) ∧ Ownl 3 1 gIn w' w.heap.size (.slice B (xs.filter p).length d) (xs.filter p) ∧ Ext w w' := by
  have HFF := hid hf
  have HX := hid hx
  have HN := hid hn
  have HEG := hid eg
  have HS := hid (fun k (h : k < n) => keeK_succ xs p k (by omega))
  have HL := hid (fun k => keeK_len xs p k)
  have H0 := hid (show keeK xs p 0 = [] from rfl)
  have HE := hid (show keeK xs p n = xs.filter p by unfold keeK; rw [List.take_of_length_le (by omega)])
  clear hf hx hn eg
  generalize xs.filter p = RL at *
  generalize keeK xs p = KK at *
  go_enter Tryz.func120, Tryz.ntmps120
  go_wp2
  go_loopw [5, 10] (fun v i wr => Ext w wr ∧ ∃ (k : Nat) (B : Option Addr) (d : Nat), k ≤ n ∧ i = .int .i64 k ∧ v = .slice B (KK k).length d ∧ Hid (Ownl 3 1 gIn wr w.heap.size (.slice B (KK k).length d) (KK k))) (fun _ i _ => n - (intOf i).toNat)
  case atStart => exact ⟨by (repeat' (first | with_reducible assumption | with_reducible exact Ext.refl _ | with_reducible refine Ext.alloc ?_ _ | with_reducible refine Ext.set ?_ ?_ _ | with_reducible refine Ext.drew ?_ | with_reducible refine Ext.drewN ?_ _ | with_reducible refine Ext.trans ?_ (by assumption) | (dsimp only; omega))), 0, none, 0, Nat.zero_le _, rfl, by rw [H0.out]; rfl, hid (by rw [H0.out]; exact Ownl.nil _ _)⟩
  case round =>
    obtain ⟨hE, k, B, d, hk, rfl, rfl, HV⟩ := hrel
    have hwr : w.heap.size ≤ wr.heap.size := hE.size
    by_cases hlt : k < n
    · obtain ⟨b, off, rfl, hb, c0⟩ := (HX.out.ext hE).at_ HN.out hlt
      have HSk := hid (HS.out k hlt)
      have hk1 : (KK k).length ≤ 1000 := by have := HL.out k; omega
      clear HS HL HX
      generalize xs.getD k 0 = x at *
      go_wp2_with fail
      rw [HEG.out]
      refine Calls.mono (HFF.out x _ hE) ?_
      rintro e w2 ⟨rfl, hE2⟩
      have EE := hid (hE.trans hE2)
      have VV := hid (HV.out.ext hE2)
      have hw2 : w.heap.size ≤ w2.heap.size := EE.out.size
      cases hp : p x
      · rw [hp, if_neg (by decide)] at HSk
        clear hp
        go_wp2
        go_roundw
        case rel => exact ⟨EE.out, k + 1, B, d, by omega, by go_num, by rw [HSk.out], hid (by rw [HSk.out]; exact VV.out)⟩
        case measure => simp [intOf]; omega
      · rw [hp, if_pos rfl] at HSk
        clear hp
        generalize KK k = acc at *
        go_wp2_with (at_builtin; refine Halt.mk ?_)
        unfold Halt
        have BN := hid (show Blk (w2.alloc (.cells #[.int .i64 x] 3)) w2.heap.size 3 #[.int .i64 x] from blk_last _ _)
        refine wpList_app1In _ rfl _ _ rfl w.heap.size (.slice B acc.length d) acc rfl (VV.out.ext (ext_alloc1 _ _)) w2.heap.size x rfl BN.out (by omega) (by simp; omega) ?_
        intro v4 w4 hO hg _
        have E4 := hid (VV.out.extApp EE.out (Nat.le_refl _) hg)
        obtain ⟨A4, c4, rfl, -, -⟩ := ownIn hO
        have V4 := hid hO
        clear hO hg HV VV BN
        go_wp2
        go_roundw
        case rel => exact ⟨E4.out, k + 1, A4, c4, by omega, by go_num, by rw [HSk.out]; simp, hid (by rw [HSk.out]; exact V4.out)⟩
        case measure => simp [intOf]; omega
    · obtain rfl : k = n := by omega
      rw [HE.out] at HV ⊢
      go_wp2
      go_ret
      exact ⟨B, d, rfl, HV.out, hE⟩
set_option maxHeartbeats 1000000 in
theorem leads1_any (x : Int) (w : World) : Calls Tryz.prog 121 #[.int .i64 x] w fun e w' => e = .returned (.bool (!(x == -1))) ∧ Ext w w' := by
  go_enter Tryz.func121, Tryz.ntmps121
  go_wp2
  all_goals (go_ret; exact ⟨ret_bool (by first | rfl | (simp [bne]; done) | (simp; omega)), by (repeat' (first | with_reducible assumption | with_reducible exact Ext.refl _ | with_reducible refine Ext.alloc ?_ _ | with_reducible refine Ext.set ?_ ?_ _ | with_reducible refine Ext.drew ?_ | with_reducible refine Ext.drewN ?_ _ | with_reducible refine Ext.trans ?_ (by assumption) | (dsimp only; omega)))⟩)
set_option maxHeartbeats 1000000 in
theorem leaders_any (rs : List Int) (A : Option Addr) (n c : Nat) (hn : rs.length = n) (hm : n ≤ 1000) (w : World) (hx : IntsAt w A rs) :
    Calls Tryz.prog 83 #[.slice A n c] w fun e w' => e = .returned (.int .i64 (leadN rs)) ∧ Ext w w' := by
  have HK := hid (keepIn_any 121 #[] (fun _ _ => by kernel_rfl) rs (fun r => !(r == -1)) A n c hn hm w hx (fun x W _ => leads1_any x W))
  unfold leadN
  generalize rs.filter (fun r => !(r == -1)) = L at *
  clear hx hn
  go_enter Tryz.func83, Tryz.ntmps83
  go_wp2_with (go_at_call 120; refine HK.out.mono ?_; rintro e w2 ⟨B, d, rfl, hO, hE⟩; have HO := hid hO; clear hO)
  go_ret
  exact ⟨rfl, by (repeat' (first | with_reducible assumption | with_reducible exact Ext.refl _ | with_reducible refine Ext.alloc ?_ _ | with_reducible refine Ext.set ?_ ?_ _ | with_reducible refine Ext.drew ?_ | with_reducible refine Ext.drewN ?_ _ | with_reducible refine Ext.trans ?_ (by assumption) | (dsimp only; omega)))⟩
end Go.Proofs.YtggggnjibedgaaaGreat
/- A region that draws its order, in a round of a range over a function: by the held walk of the plain logic. -/
set_option linter.unusedSimpArgs false
set_option linter.unusedVariables false
namespace Go.Proofs.YtggggnjibedgaaaGreat
open Go.RowKit
section
variable {P : Program} {ops : Array Oper} {Q : Exit → Act → World → Prop} {l n : Nat}

theorem rowsIn_round {row : String} {args : Array Value} {w : World} {R : Value → World → Prop} (h : Rows P row args w R) : RowsIn (Fence.wide.inRound l) n P row args w R :=
  fun c cs _ => let ⟨v, w', r, s⟩ := h c cs; ⟨v, w', r, stepsIn_wide.2 s⟩

theorem oper_in {o : Oper} {a : Act} {w : World} {K K' : Act → World → Prop} (hnd : ∀ c, o.op ≠ .defer c) (hK : ∀ a w, K a w → K' a w) (h : o.wp P a w K Q) : o.wpIn (Fence.wide.inRound l) n P a w K' Q := by
  refine ⟨fun _ _ => trivial, ?_⟩
  unfold Oper.wp at h
  rw [Oper.semAt_eq _ _ _ hnd]
  revert h
  generalize (execOp a.eval o).run P w = r
  intro h
  match r, h with
  | .ok (.value v) w', h => exact hK _ _ h
  | .ok .skip w', h => exact hK _ _ h
  | .ok (.defer d) w', h => exact hK _ _ h
  | .ok (.enter f args) w', h =>
    refine ⟨fun hh => by simp [Fence.wide, Fence.inRound] at hh, ?_⟩
    refine CallsIn.inRound l (callsIn_wide.2 (Calls.mono h ?_))
    intro e w'' he
    cases e with
    | returned v => exact hK _ _ he
    | panicked c => exact he
    | outgrown => exact he
  | .ok (.row row args) w', h => exact ⟨fun hh => by simp [Fence.wide, Fence.inRound] at hh, rowsIn_round (Rows.mono h fun _ _ hh => hK _ _ hh)⟩
  | .halt (.panic v) w', h => exact h

theorem ops_in (hQ : ¬ LetsOut Q) (hnd : ∀ o, o ∈ ops → ∀ c, o.op ≠ .defer c) : ∀ (list : List Nat) (a : Act) (w : World), wpOps P ops Q list a w → wpOpsIn (Fence.wide.inRound l) n P ops Q list a w
  | [], _, _, h => h
  | i :: rest, a, w, h => by
    unfold wpOps at h
    unfold wpOpsIn
    cases ho : ops[i]? with
    | none =>
      rw [ho] at h
      exact ops_in hQ hnd rest a w h
    | some o =>
      rw [ho] at h
      dsimp only at h ⊢
      by_cases hw : Region.wanted o (yielded ops a.tmps) = true
      · rw [if_pos hw] at h ⊢
        rcases h with h | ⟨_, h⟩
        · exact oper_in (hnd o (Array.mem_of_getElem? ho)) (fun a w hh => ops_in hQ hnd rest a w hh) h
        · exact absurd h hQ
      · rw [if_neg hw] at h ⊢
        exact ⟨fun _ _ => trivial, ops_in hQ hnd rest _ w h⟩

def noDefer (ops : Array Oper) : Bool := ops.all fun o => match o.op with | .defer _ => false | _ => true
theorem noDefer_spec (h : noDefer ops = true) : ∀ o, o ∈ ops → ∀ c, o.op ≠ .defer c := by
  intro o ho c hc
  unfold noDefer at h
  rw [Array.all_eq_true_iff_forall_mem] at h
  have := h o ho
  simp [hc] at this

/-- The beginning of the held walk, in a round. -/
theorem wpIn_region_held {S : World → Prop} {id : Nat} {a : Act} {w : World} (hm : P.follows .mixedOrders = true) (hd : noDefer ops = true) (hQ : ¬ LetsOut Q) (hS : S w.drew)
    (h : S w.drew → wpAnyH P .any ops Q S ops.size (Array.replicate ops.size false) a w.drew) : (Code.region id ops true).wpIn (Fence.wide.inRound l) n P Q a w :=
  wpIn_region_draw fun t => by
    simp only [Region.schedule, hm, Bool.true_or, if_true]
    exact ops_in hQ (noDefer_spec hd) _ a _ (wpAny_sound ops.size t _ a _ (wpAny_of_held _ _ _ _ (h hS)))
end
end Go.Proofs.YtggggnjibedgaaaGreat
/- Guides: the fewest guides with clients. -/
set_option linter.unusedSimpArgs false
set_option linter.unusedVariables false
namespace Go.Proofs.YtggggnjibedgaaaGreat
open Go.RowKit
attribute [local go_sem] Oper.semAt_some
/-- The fewest guides of the first teams. -/
def fewK (o : Ou) (pre : List (List Nat × List Int)) : Int := pre.foldl (fun a t => min a (leadN t.2)) (o.gds.length : Nat)
theorem fewK_snoc (o : Ou) (pre : List (List Nat × List Int)) (t : List Nat × List Int) : fewK o (pre ++ [t]) = min (fewK o pre) (leadN t.2) := by
  unfold fewK
  rw [List.foldl_append]
  rfl
section
variable {α : Type} {g : Operand} {p p' : Tmp} {assign body : Code} {Q : Exit → Act → World → Prop} {a : Act} {w : World}
/-- The range, where the second of two values goes into one slot. -/
theorem range_two {n m gf : Nat} {rv : Value} {R : World → Prop} {V : Nat → α → Array Value → World → Prop} {xs : List α} {rid : Nat} {q : Tmp} {ty : TypeId} {pos : String} {aft : Array Edge} (h1 : 1 ≤ n) (hg : a.eval g = .func (.func gf) #[rv] #[]) (eg : ∀ args w, (callFunc gf args).run Tryz.prog w = .ok (.enter gf args) w)
    (hp : p' < a.tmps.size) (hseq : GivesG (n - 1) m gf (fun y => #[rv, y]) R V xs) (I : List α → World → Prop)
    (hI : ∀ pre W1 W2 row, I pre W1 → W1.grownBy W2 row → (∀ r, row = some r → w.heap.size ≤ r) → I pre W2)
    (hV : ∀ S x args W1 q L o, V S x args W1 → W1.heap[q]? = some (Obj.loop L) → V S x args (W1.putObj q o)) (hVn : ∀ S x args W1, V S x args W1 → args.size = 2)
    (hT : ∀ pre W, I pre W → R W) (h0 : I [] w)
    (hbody : ∀ (l : Nat) (pre : List α) (x : α) (v u : Value) (W : World), w.heap.size ≤ l → V (w.heap.size + 2) x #[v, u] W → I pre W → w.heap.size + 2 ≤ W.heap.size →
      body.wpIn (Fence.wide.inRound l) m Tryz.prog (fun e _ W' => e = .normal ∧ KeepsFrom w.heap.size W W' ∧ KeepsAll (w.heap.size + 2) W W' ∧ I (pre ++ [x]) W') { tmps := ((a.tmps.setIfInBounds p v).setIfInBounds p' u).setIfInBounds q u, defers := [] } W)
    (hdone : ∀ (D : Nat) (W : World), w.heap.size ≤ D → I xs W → W.heap[D]? = some (.deferred (some [])) → Q .normal { a with defers := { target := .collected D, args := #[] } :: a.defers } W) :
    (Code.rangeFunc g #[p, p'] (Code.region rid #[{ dst := some q, op := Op.assign (Operand.tmp p'), type := ty, pos := pos, after := aft, guard := none }] false) body).wpIn Fence.wide n Tryz.prog Q a w := by
  refine range_gives2 (V := V) (xs := xs) h1 hg eg hseq I hI hV hVn hT h0 (fun args => { tmps := ((a.tmps.setIfInBounds p (args.getD 0 undef)).setIfInBounds p' (args.getD 1 undef)).setIfInBounds q (args.getD 1 undef), defers := [] }) ?_ ?_ hdone
  · intro l args W K hs hK
    obtain ⟨v, u, rfl⟩ : ∃ v u, args = #[v, u] := by
      rcases args with ⟨ls⟩
      match ls, hs with
      | [v, u], _ => exact ⟨v, u, rfl⟩
    have hz : ((a.tmps.setIfInBounds p v).setIfInBounds p' u).getD p' undef = u := by simp [hp]
    have HK := hid hK
    clear hK
    gi_wp2
    exact HK.out
  · intro l pre x args W hl hv hi hz
    have hs := hVn _ _ _ _ hv
    obtain ⟨v, u, rfl⟩ : ∃ v u, args = #[v, u] := by
      rcases args with ⟨ls⟩
      match ls, hs with
      | [v, u], _ => exact ⟨v, u, rfl⟩
    exact hbody l pre x v u W hl hv hi hz
end
set_option maxRecDepth 100000 in
set_option maxHeartbeats 8000000 in
theorem guides_any (o : Ou) (A : OA) (h1 : o.gds.length ≤ 12) (h2 : o.cls.length < 20) (h2c : 0 < o.cls.length) (h3 : o.ros.length ≤ 1000) (h4 : o.md.wears.length ≤ 1000) (h5 : ∀ r ∈ o.ros, r.falls.length ≤ 1000)
    (hc : ∀ x ∈ o.cls, 0 ≤ x ∧ x ≤ 1000) (hr : ∀ r ∈ o.ros, 0 ≤ r.len ∧ r.len ≤ 1000) (hs : 0 ≤ o.spc ∧ o.spc ≤ 1000) (w : World) (hx : OuAt w o A) :
    Calls Tryz.prog 34 #[o.val A] w fun e w' => e = .returned (.tuple #[.int .i64 (if gdsE o = 0 then gdsN o else 0), .int .i64 (gdsE o)]) ∧ Ext w w' := by
  have HX := hid hx
  have HBG := hid (fun (W1 : World) (hE : Ext w W1) => begin_any o A (by omega) (by omega) h3 h4 h5 W1 (hx.ext hE))
  have HTG := hid (fun (F : Option Addr) (fc n : Nat) (hn : 3 ≤ n) => teams_gives o A F fc n hn h2 h2c h1 hc hr h3 hs)
  clear hx hc hr hs h5
  obtain ⟨RE, hRE⟩ : ∃ r, gdsE o = r := ⟨_, rfl⟩
  obtain ⟨RV, hRV⟩ : ∃ r, (if gdsE o = 0 then gdsN o else 0) = r := ⟨_, rfl⟩
  rw [hRV, hRE]
  have HRE := hid hRE
  have HRV := hid hRV
  clear hRE hRV
  refine (callsIn_wide (n := 9)).1 ?_
  refine callsIn_of_wp_marks Tryz.func34 rfl trivial ?_ rfl
  simp only [Tryz.ntmps34, List.size_toArray, List.length_cons, List.length_nil, Nat.reduceAdd, Nat.reduceSub, Array.replicate_succ, Array.replicate_zero, List.push_toArray, List.append_toArray, List.nil_append, List.cons_append]
  unfold Ou.val at *
  gi_wp2_with fail
  obtain ⟨W1, hW1⟩ : ∃ W1, w.alloc (.cells #[.int .i64 o.day, .int .i64 o.grade, .int .i64 o.spc, .slice A.gA o.gds.length A.gc, .slice A.cA o.cls.length A.cc, .int .i64 o.md.shelf, .int .i64 o.md.use, .int .i64 o.md.bears, .slice A.wA o.md.wears.length A.wc, .slice A.rA o.ros.length A.rc] 53) = W1 := ⟨_, rfl⟩
  have E1 : Ext w W1 := by rw [← hW1]; exact ext_alloc1 _ _
  rw [hW1]
  clear hW1
  refine ⟨trivial, (callsIn_wide.2 (HBG.out W1 E1)).mono ?_⟩
  rintro e w2 ⟨v, rfl, hE2, hbad, hgood⟩
  have X2 := hid (E1.trans hE2)
  by_cases h0 : outE o = 0
  · obtain ⟨F, c, rfl, hF, -⟩ := hgood h0
    have HF := hid hF
    have HG0 := hid (show RE = if tmsL o = [] then 3 else 0 by rw [← HRE.out]; unfold gdsE; rw [if_pos h0])
    rw [h0]
    clear hgood hbad hF hE2 HBG h0
    unfold ouV at *
    have HTE := hid (HTG.out F c 8 (by omega))
    unfold ouV at HTE
    clear HTG
    have Z := blks3 w2 (.cells #[.int .i64 o.day, .int .i64 o.grade, .int .i64 o.spc, .slice A.gA o.gds.length A.gc, .slice A.cA o.cls.length A.cc, .int .i64 o.md.shelf, .int .i64 o.md.use, .int .i64 o.md.bears, .slice A.wA o.md.wears.length A.wc, .slice A.rA o.ros.length A.rc, .slice F (fitS o).length c] 126) (.cells #[.int .i64 (o.gds.length : Nat)] 3) (.cells #[.bool false] 4)
    have Z1 := hid (show Blk _ _ _ _ from Z.2.1)
    have Z2 := hid (show Blk _ _ _ _ from Z.2.2)
    clear Z
    have XU : Ext w2 (((w2.alloc (.cells #[.int .i64 o.day, .int .i64 o.grade, .int .i64 o.spc, .slice A.gA o.gds.length A.gc, .slice A.cA o.cls.length A.cc, .int .i64 o.md.shelf, .int .i64 o.md.use, .int .i64 o.md.bears, .slice A.wA o.md.wears.length A.wc, .slice A.rA o.ros.length A.rc, .slice F (fitS o).length c] 126)).alloc (.cells #[.int .i64 (o.gds.length : Nat)] 3)).alloc (.cells #[.bool false] 4)) := by (repeat' (first | with_reducible assumption | with_reducible exact Ext.refl _ | with_reducible refine Ext.alloc ?_ _ | with_reducible refine Ext.set ?_ ?_ _ | with_reducible refine Ext.drew ?_ | with_reducible refine Ext.drewN ?_ _ | with_reducible refine Ext.trans ?_ (by assumption) | (dsimp only; omega)))
    gi_wp2_with fail
    obtain ⟨U, hU⟩ : ∃ U, ((w2.alloc (.cells #[.int .i64 o.day, .int .i64 o.grade, .int .i64 o.spc, .slice A.gA o.gds.length A.gc, .slice A.cA o.cls.length A.cc, .int .i64 o.md.shelf, .int .i64 o.md.use, .int .i64 o.md.bears, .slice A.wA o.md.wears.length A.wc, .slice A.rA o.ros.length A.rc, .slice F (fitS o).length c] 126)).alloc (.cells #[.int .i64 (o.gds.length : Nat)] 3)).alloc (.cells #[.bool false] 4) = U := ⟨_, rfl⟩
    have hz : U.heap.size = w2.heap.size + 3 := by rw [← hU]; simp
    rw [hU] at Z1 Z2 XU ⊢
    clear hU
    have HXU := hid XU
    clear XU
    refine range_two (xs := tmsL o) (V := VTms) (by omega) rfl (enters_of Tryz.func82 (by kernel_rfl) rfl) (by simp) HTE.out
      (fun pre X => Ext w2 X ∧ Blk X (w2.heap.size + 1) 3 #[.int .i64 (fewK o pre)] ∧ Blk X (w2.heap.size + 1 + 1) 4 #[.bool (!pre.isEmpty)])
      ?hI (fun S x args W1 q L o2 h hq => h.put hq) ?hVn ?hT ⟨HXU.out, Z1.out, Z2.out⟩ ?body ?done
    case hI =>
      rintro pre X1 X2 row ⟨q1, q2, q3⟩ hg hrow
      exact ⟨Below.grown q1 hg q1.size (fun k e => by have := hrow k e; omega), q2.grown hg (fun e => by have := hrow _ e.symm; omega), q3.grown hg (fun e => by have := hrow _ e.symm; omega)⟩
    case hVn =>
      rintro S x args X1 ⟨v, q, cap, rfl, q3⟩
      rfl
    case hT =>
      rintro pre X ⟨q1, q2, q3⟩
      have hxx := HX.out.ext (X2.out.trans q1)
      exact ⟨hxx.gs, hxx.cs, HF.out.ext q1, hxx.rs⟩
    case body =>
      rintro l2 pre ⟨gs, rs⟩ v u X hl2 ⟨v', q, cap, hvu, hrow, hx12⟩ ⟨q1, q2, q3⟩ hXz
      obtain ⟨rfl, rfl⟩ : v = v' ∧ u = .slice (some ⟨q, 0, none⟩) rs.length cap := by simpa using hvu
      have hx12' : rs.length ≤ 12 := hx12
      have HLD := hid (fun (Y : World) (h : IntsAt Y (some ⟨q, 0, none⟩) rs) => leaders_any rs (some ⟨q, 0, none⟩) rs.length cap rfl (by omega) Y h)
      have HRW := hid (show RowI X q cap rs from hrow)
      have HFS := hid (fewK_snoc o pre (gs, rs))
      have HQ1 := hid q1
      have HQ2 := hid q2
      have HQ3 := hid q3
      clear hvu hrow hx12 q1 q2 q3 HTE Z1 Z2 HXU HF HX HG0 HRE HRV
      simp only [List.setIfInBounds_toArray, List.set_cons_zero, List.set_cons_succ]
      gi_wp2_with fail
      have hq2 := HQ2.out.ext (Ext.drew (Ext.refl X))
      have c6 := hq2.cell 0
      have z6 := hq2.lt
      simp only [List.getElem?_toArray, List.getElem?_cons_zero] at c6
      have HLD0 := hid (HLD.out X.drew (HRW.out.ext (Ext.drew (Ext.refl X))).ints)
      have HFS := hid (show fewK o (pre ++ [(gs, rs)]) = min (fewK o pre) (leadN rs) from HFS.out)
      obtain ⟨LN, hLN⟩ : ∃ n, leadN rs = n := ⟨_, rfl⟩
      rw [hLN] at HLD0 HFS
      clear hLN hq2 HLD
      generalize fewK o pre = FK at *
      refine wpIn_region_held (S := fun _ => True) (by kernel_rfl) (by kernel_rfl) (fun ⟨_, _, h⟩ => by cases h.1) ?hS0 (fun hHeld => ?_)
      case hS0 => exact trivial
      refine tk1 (i := 1) (v := ?v1a) rfl ?y1a ?r1a
      case y1a => (intro w' hSw; (try dsimp only at hSw); go_simp; (try with_reducible rfl))
      try simp only [Act.put, sq1, sq2, sq3, sq4, sq5, sq6]
      refine wpAnyH_ready (rs := [0, 2]) (by kernel_rfl) (by simp) ?_
      refine AllReadyH.cons (o := _) rfl (fun K hK => ?_) (AllReadyH.cons (o := _) rfl (fun K hK => ?_) AllReadyH.nil)
      · go_simp
        clear hHeld
        refine hK.out _ _ trivial (fun hHeld => ?_)
        clear hK K
        try simp only [Act.put, sq1, sq2, sq3, sq4, sq5, sq6]
        refine wpAnyH_ready (rs := [2]) (by kernel_rfl) (by simp) ?_
        refine AllReadyH.cons (o := _) rfl (fun K hK => ?_) AllReadyH.nil
        go_simp
        refine Calls.mono HLD0.out ?_
        rintro e w6 ⟨rfl, hE6⟩
        dsimp only
        have hE7 : Ext X w6 := (Ext.drew (Ext.refl X)).trans hE6
        have HE7 := hid hE7
        have hb6 := HQ2.out.ext hE7
        have hb7 := HQ3.out.ext hE7
        have d6 := hb6.cell 0
        have d7 := hb7.cell 0
        have e6 := hb6.fro 0
        have e7 := hb7.fro 0
        have y6 := hb6.lt
        have y7 := hb7.lt
        simp only [List.getElem?_toArray, List.getElem?_cons_zero] at d6 d7
        have HB6 := hid hb6
        have HB7 := hid hb7
        clear hHeld hE6 hE7 hb6 hb7
        refine hK.out _ _ trivial (fun hHeld => ?_)
        clear hK K
        try simp only [Act.put, sq1, sq2, sq3, sq4, sq5, sq6]
        refine tk1 (i := 3) (v := ?v3b) rfl ?y3b ?r3b
        case y3b => (intro w' hSw; (try dsimp only at hSw); go_simp; (try with_reducible rfl))
        try simp only [Act.put, sq1, sq2, sq3, sq4, sq5, sq6]
        have m6 := HB6.out.set (.int .i64 (min FK LN))
        have m7 := HB7.out.other (p := ⟨w2.heap.size + 1, 0, none⟩) (by dsimp only; omega) (.int .i64 (min FK LN))
        have f7 := m7.fro 0
        have c7 := m7.cell 0
        have z7 := m7.lt
        simp only [List.getElem?_toArray, List.getElem?_cons_zero] at c7
        have E8 := hid (((HQ1.out.trans HE7.out).set (p := ⟨w2.heap.size + 1, 0, none⟩) (by dsimp only; omega) (.int .i64 (min FK LN))).set (p := ⟨w2.heap.size + 1 + 1, 0, none⟩) (by dsimp only; omega) (.bool true))
        have M6 := hid (m6.other (p := ⟨w2.heap.size + 1 + 1, 0, none⟩) (by dsimp only; omega) (.bool true))
        have M7 := hid (m7.set (.bool true))
        have A8 := hid (((KeepsAll.ext (S := U.heap.size + 2) HE7.out).trans (KeepsAll.set _ w6 ⟨w2.heap.size + 1, 0, none⟩ (.int .i64 (min FK LN)) (by dsimp only; omega))).trans (KeepsAll.set _ _ ⟨w2.heap.size + 1 + 1, 0, none⟩ (.bool true) (by dsimp only; omega)))
        have F8 := hid (((KeepsAll.ext (S := U.heap.size) HE7.out).trans (KeepsAll.set _ w6 ⟨w2.heap.size + 1, 0, none⟩ (.int .i64 (min FK LN)) (by dsimp only; omega))).trans (KeepsAll.set _ _ ⟨w2.heap.size + 1 + 1, 0, none⟩ (.bool true) (by dsimp only; omega)))
        clear m6 m7
        refine wpAnyH_ready (rs := [4]) (by kernel_rfl) (by simp) ?_
        refine AllReadyH.cons (o := _) rfl (fun K hK => ?_) AllReadyH.nil
        go_simp
        clear hHeld
        refine hK.out _ _ trivial (fun hHeld => ?_)
        clear hK K
        try simp only [Act.put, sq1, sq2, sq3, sq4, sq5, sq6]
        refine wpAnyH_ready (rs := [5]) (by kernel_rfl) (by simp) ?_
        refine AllReadyH.cons (o := _) rfl (fun K hK => ?_) AllReadyH.nil
        go_simp
        clear hHeld
        refine hK.out _ _ trivial (fun hHeld => ?_)
        clear hK K
        try simp only [Act.put, sq1, sq2, sq3, sq4, sq5, sq6]
        clear hHeld
        refine wpAnyH_done (by kernel_rfl) ?_ _
        gi_wp2_with fail
        rw [hz] at A8 F8
        refine ⟨F8.out.from (Nat.le_refl _), A8.out, E8.out, ?_, ?_⟩
        · rw [HFS.out]
          exact M6.out
        · have hbe : (!(pre ++ [(gs, rs)]).isEmpty) = true := by cases pre <;> rfl
          rw [hbe]
          exact M7.out
      · go_simp
        refine Calls.mono HLD0.out ?_
        rintro e w6 ⟨rfl, hE6⟩
        dsimp only
        have hE7 : Ext X w6 := (Ext.drew (Ext.refl X)).trans hE6
        have HE7 := hid hE7
        have hb6 := HQ2.out.ext hE7
        have hb7 := HQ3.out.ext hE7
        have d6 := hb6.cell 0
        have d7 := hb7.cell 0
        have e6 := hb6.fro 0
        have e7 := hb7.fro 0
        have y6 := hb6.lt
        have y7 := hb7.lt
        simp only [List.getElem?_toArray, List.getElem?_cons_zero] at d6 d7
        have HB6 := hid hb6
        have HB7 := hid hb7
        clear hHeld hE6 hE7 hb6 hb7
        refine hK.out _ _ trivial (fun hHeld => ?_)
        clear hK K
        try simp only [Act.put, sq1, sq2, sq3, sq4, sq5, sq6]
        refine wpAnyH_ready (rs := [0]) (by kernel_rfl) (by simp) ?_
        refine AllReadyH.cons (o := _) rfl (fun K hK => ?_) AllReadyH.nil
        go_simp
        clear hHeld
        refine hK.out _ _ trivial (fun hHeld => ?_)
        clear hK K
        try simp only [Act.put, sq1, sq2, sq3, sq4, sq5, sq6]
        refine tk1 (i := 3) (v := ?v3c) rfl ?y3c ?r3c
        case y3c => (intro w' hSw; (try dsimp only at hSw); go_simp; (try with_reducible rfl))
        try simp only [Act.put, sq1, sq2, sq3, sq4, sq5, sq6]
        have m6 := HB6.out.set (.int .i64 (min FK LN))
        have m7 := HB7.out.other (p := ⟨w2.heap.size + 1, 0, none⟩) (by dsimp only; omega) (.int .i64 (min FK LN))
        have f7 := m7.fro 0
        have c7 := m7.cell 0
        have z7 := m7.lt
        simp only [List.getElem?_toArray, List.getElem?_cons_zero] at c7
        have E8 := hid (((HQ1.out.trans HE7.out).set (p := ⟨w2.heap.size + 1, 0, none⟩) (by dsimp only; omega) (.int .i64 (min FK LN))).set (p := ⟨w2.heap.size + 1 + 1, 0, none⟩) (by dsimp only; omega) (.bool true))
        have M6 := hid (m6.other (p := ⟨w2.heap.size + 1 + 1, 0, none⟩) (by dsimp only; omega) (.bool true))
        have M7 := hid (m7.set (.bool true))
        have A8 := hid (((KeepsAll.ext (S := U.heap.size + 2) HE7.out).trans (KeepsAll.set _ w6 ⟨w2.heap.size + 1, 0, none⟩ (.int .i64 (min FK LN)) (by dsimp only; omega))).trans (KeepsAll.set _ _ ⟨w2.heap.size + 1 + 1, 0, none⟩ (.bool true) (by dsimp only; omega)))
        have F8 := hid (((KeepsAll.ext (S := U.heap.size) HE7.out).trans (KeepsAll.set _ w6 ⟨w2.heap.size + 1, 0, none⟩ (.int .i64 (min FK LN)) (by dsimp only; omega))).trans (KeepsAll.set _ _ ⟨w2.heap.size + 1 + 1, 0, none⟩ (.bool true) (by dsimp only; omega)))
        clear m6 m7
        refine wpAnyH_ready (rs := [4]) (by kernel_rfl) (by simp) ?_
        refine AllReadyH.cons (o := _) rfl (fun K hK => ?_) AllReadyH.nil
        go_simp
        clear hHeld
        refine hK.out _ _ trivial (fun hHeld => ?_)
        clear hK K
        try simp only [Act.put, sq1, sq2, sq3, sq4, sq5, sq6]
        refine wpAnyH_ready (rs := [5]) (by kernel_rfl) (by simp) ?_
        refine AllReadyH.cons (o := _) rfl (fun K hK => ?_) AllReadyH.nil
        go_simp
        clear hHeld
        refine hK.out _ _ trivial (fun hHeld => ?_)
        clear hK K
        try simp only [Act.put, sq1, sq2, sq3, sq4, sq5, sq6]
        clear hHeld
        refine wpAnyH_done (by kernel_rfl) ?_ _
        gi_wp2_with fail
        rw [hz] at A8 F8
        refine ⟨F8.out.from (Nat.le_refl _), A8.out, E8.out, ?_, ?_⟩
        · rw [HFS.out]
          exact M6.out
        · have hbe : (!(pre ++ [(gs, rs)]).isEmpty) = true := by cases pre <;> rfl
          rw [hbe]
          exact M7.out
    case done =>
      rintro D X hD ⟨q1, q2, q3⟩ hDk
      have HD := hid hDk
      have HQ := hid q1
      have HF2 := hid (show RV = if tmsL o = [] then 0 else fewK o (tmsL o) by
        rw [← HRV.out, HRE.out, HG0.out]
        by_cases h : tmsL o = [] <;> simp [h, fewK, gdsN])
      have c1 := q2.cell 0
      have c2 := q3.cell 0
      have z1 := q2.lt
      have z2 := q3.lt
      simp only [List.getElem?_toArray, List.getElem?_cons_zero] at c1 c2
      clear q1 q2 q3 hDk HTE Z1 Z2 HF HX
      by_cases h : tmsL o = []
      · rw [if_pos h] at HG0 HF2
        rw [h] at c1 c2
        simp only [List.isEmpty_nil, Bool.not_true] at c2
        gi_wp2_with fail
        refine ⟨by simp, .inl ⟨_, _, rfl, run_takeDeferred HD.out, ?_⟩⟩
        refine ⟨.tuple #[.int .i64 0, .int .i64 3], by simp [results, Tryz.results34, go_sem], ?_⟩
        rw [HG0.out, HF2.out]
        exact ⟨rfl, ext_putObj (X2.out.trans HQ.out) (by have := X2.out.size; omega)⟩
      · rw [if_neg h] at HG0 HF2
        have hb : (!(tmsL o).isEmpty) = true := by cases hh : tmsL o with | nil => exact absurd hh h | cons a b => rfl
        rw [hb] at c2
        clear hb h
        gi_wp2_with fail
        refine ⟨by simp, .inl ⟨_, _, rfl, run_takeDeferred HD.out, ?_⟩⟩
        refine ⟨.tuple #[.int .i64 (fewK o (tmsL o)), .int .i64 0], by simp [results, Tryz.results34, go_sem], ?_⟩
        rw [HG0.out, HF2.out]
        exact ⟨rfl, ext_putObj (X2.out.trans HQ.out) (by have := X2.out.size; omega)⟩
  · obtain rfl := hbad h0
    have HG0 := hid (show RE = outE o by rw [← HRE.out]; unfold gdsE; rw [if_neg h0])
    have HG1 := hid (show RV = 0 by rw [← HRV.out, HRE.out, HG0.out, if_neg h0])
    clear hgood hbad hE2 HBG HTG
    obtain ⟨E, hE⟩ : ∃ E, outE o = E := ⟨_, rfl⟩
    rw [hE] at h0 HG0 ⊢
    clear hE
    have h0' : (E == 0) = false := by simp; exact h0
    gi_wp2_with fail
    refine ⟨.tuple #[.int .i64 0, .int .i64 E], by simp [results, Tryz.results34, go_sem], ?_⟩
    rw [HG0.out, HG1.out]
    exact ⟨rfl, X2.out.alloc _⟩
end Go.Proofs.YtggggnjibedgaaaGreat
