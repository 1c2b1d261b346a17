/- The cheapest batch that is enough. -/
import Derived.Test.YtcfijidlbimckaaDoorCheap
import Derived.RegionIn
set_option linter.unusedSimpArgs false
set_option linter.unusedVariables false
namespace Go.Proofs.YtcfijidlbimckaaDoor
open Go.RowKit
attribute [local go_sem] Oper.semAt_some
def cheapS (d : Wat) (p q : Nat) : Bool := cheapB (fuelN d.spr (bitsL p)) (pc p) (fuelN d.spr (bitsL q)) (pc q)
def pickS (d : Wat) (en : Nat → Bool) (o : Option Nat) (p : Nat) : Option Nat := match o with
  | none => if en p = true then some p else none
  | some q => if en p = true ∧ cheapS d p q = true then some p else some q
def bestS (d : Wat) (en : Nat → Bool) (ps : List Nat) : Option Nat := ps.foldl (pickS d en) none
theorem bestS_snoc (d : Wat) (en : Nat → Bool) (pre : List Nat) (x : Nat) : bestS d en (pre ++ [x]) = pickS d en (bestS d en pre) x := by unfold bestS; rw [List.foldl_append]; rfl
theorem bestS_mem (d : Wat) (en : Nat → Bool) : ∀ (ps : List Nat) (o : Option Nat), (∀ p, o = some p → p < 256) → (∀ p ∈ ps, p < 256) → ∀ p, ps.foldl (pickS d en) o = some p → p < 256
  | [], o, h, _, p, hp => h p hp
  | x :: ps, o, h, hx, p, hp => bestS_mem d en ps (pickS d en o x) (fun q hq => by
      have hx' := hx x (by simp)
      unfold pickS at hq
      cases o with
      | none =>
        dsimp only at hq
        split at hq
        · injection hq with hq; omega
        · cases hq
      | some r =>
        dsimp only at hq
        split at hq
        · injection hq with hq; omega
        · injection hq with hq
          exact hq ▸ h r rfl) (fun q hq => hx q (by simp [hq])) p hp
/-- The best batch so far as cells. -/
def ocells (d : Wat) (o : Option Nat) : Array Value := match o with
  | none => #[.int .u64 0, .int .i64 0, .int .i64 0]
  | some p => bcells d p
structure ChInv (d : Wat) (w : World) (fc : Array Value) (cl : Value) (o : Option Nat) (W : World) : Prop where
  ext : Ext w W
  b0 : Blk W w.heap.size 72 fc
  b1 : Blk W (w.heap.size + 1) 81 #[cl]
  b2 : Blk W (w.heap.size + 1 + 1) 79 #[.int .u64 0, .int .i64 0, .int .i64 0]
  b3 : Blk W (w.heap.size + 1 + 1 + 1) 79 (ocells d o)
  b4 : Blk W (w.heap.size + 1 + 1 + 1 + 1) 4 #[.bool o.isSome]
theorem ChInv.step {d : Wat} {w W W' : World} {fc : Array Value} {cl : Value} {o : Option Nat} (h : ChInv d w fc cl o W) (e : Ext W W') : ChInv d w fc cl o W' := ⟨h.ext.trans e, h.b0.ext e, h.b1.ext e, h.b2.ext e, h.b3.ext e, h.b4.ext e⟩

theorem ChInv.put {d : Wat} {w W : World} {fc : Array Value} {cl : Value} {o : Option Nat} (h : ChInv d w fc cl o W) (x : Nat) {u0 u1 u2 : Value} (hx : ocells d (some x) = #[u0, u1, u2]) :
    ChInv d w fc cl (some x) ((((W.setCell ⟨w.heap.size + 1 + 1 + 1, 0, none⟩ u0).setCell ⟨w.heap.size + 1 + 1 + 1, 1, none⟩ u1).setCell ⟨w.heap.size + 1 + 1 + 1, 2, none⟩ u2).setCell ⟨w.heap.size + 1 + 1 + 1 + 1, 0, none⟩ (.bool true)) := by
  obtain ⟨h0, h1, h2, h3, h4, h5⟩ := h
  refine ⟨(((h0.set (by dsimp only; omega) _).set (by dsimp only; omega) _).set (by dsimp only; omega) _).set (by dsimp only; omega) _,
    (((h1.other (by dsimp only; omega) _).other (by dsimp only; omega) _).other (by dsimp only; omega) _).other (by dsimp only; omega) _,
    (((h2.other (by dsimp only; omega) _).other (by dsimp only; omega) _).other (by dsimp only; omega) _).other (by dsimp only; omega) _,
    (((h3.other (by dsimp only; omega) _).other (by dsimp only; omega) _).other (by dsimp only; omega) _).other (by dsimp only; omega) _, ?_,
    (((h5.other (by dsimp only; omega) _).other (by dsimp only; omega) _).other (by dsimp only; omega) _).set _⟩
  refine Blk.other ?_ (by dsimp only; omega) _
  have h6 := ((h4.setAt 0 u0).setAt 1 u1).setAt 2 u2
  rw [hx]
  have h7 : (((ocells d o).setIfInBounds 0 u0).setIfInBounds 1 u1).setIfInBounds 2 u2 = #[u0, u1, u2] := by
    cases o <;> simp [ocells, bcells]
  rwa [h7] at h6
set_option maxRecDepth 100000 in
set_option maxHeartbeats 4000000 in
theorem cheapest_any (d : Wat) (A : WA) (T : Value) (S : Nat) (hok : WOk d) (hS : S < 2 ^ d.spr.length) (en : Nat → Bool) (caps : Array Value) (w : World) (hT : TabW w) (hW : WIn w d A)
    (hen : ∀ p W, p < 2 ^ d.spr.length → Ext w W → Calls Tryd.prog 50 (#[bval d p] ++ caps) W fun e W' => e = .returned (.bool (en p)) ∧ Ext W W') :
    Calls Tryd.prog 51 #[fval d A T, .int .u64 S, .func (.func 50) #[] caps] w fun e w' =>
      e = .returned (.tuple #[.agg (ocells d (bestS d en (subsL S))), .bool (bestS d en (subsL S)).isSome]) ∧ Ext w w' := by
  have hS256 : S < 256 := by have := hok.p2; omega
  have hp2 := hok.p2
  have HBA := hid (fun p (hp : p < 2 ^ d.spr.length) (W : World) (hE : Ext w W) => batch_any d A T p hok hp W (hT.ext hE) (hW.ext hE))
  have HEN := hid hen
  have HTW := hid hT
  have HSU := hid (fun p (hp : p ∈ subsL S) => (show p < 2 ^ d.spr.length by
    have h := (mem_subsL hS256).1 hp
    rw [← h]
    exact Nat.lt_of_le_of_lt Nat.and_le_right hS))
  have HSN := hid (bestS_snoc d en)
  have HLT := hid (fun pre (hp : ∀ p ∈ pre, p < 256) q (hq : bestS d en pre = some q) => bestS_mem d en pre none (fun _ h => by cases h) hp q hq)
  unfold fval at *
  obtain ⟨fc, hfc⟩ : ∃ fc, fcells d A T = fc := ⟨_, rfl⟩
  rw [hfc] at HBA ⊢
  obtain ⟨f0, f1, f2, f3, f4, f5, rfl⟩ : ∃ f0 f1 f2 f3 f4 f5, fc = #[f0, f1, f2, f3, f4, f5] := by rw [← hfc]; exact ⟨_, _, _, _, _, _, rfl⟩
  have HO0 := hid (show ocells d none = #[.int .u64 0, .int .i64 0, .int .i64 0] from rfl)
  have HON := hid (show bestS d en [] = none from rfl)
  generalize 2 ^ d.spr.length = n2 at *
  clear hT hW hen hok hS hfc
  refine (callsIn_wide (n := 6)).1 ?_
  refine callsIn_of_wp_marks Tryd.func51 rfl trivial ?_ rfl
  simp only [Tryd.ntmps51, List.size_toArray, List.length_cons, List.length_nil, Nat.reduceAdd, Nat.reduceSub, Array.replicate_succ, Array.replicate_zero, List.push_toArray, List.append_toArray, List.nil_append, List.cons_append]
  gi_wp2
  obtain ⟨q0, q1, q2, q3, q4⟩ := blks5 w (.cells #[f0, f1, f2, f3, f4, f5] 72) (.cells #[.func (.func 50) #[] caps] 81) (.cells #[.int .u64 0, .int .i64 0, .int .i64 0] 79) (.cells #[.int .u64 0, .int .i64 0, .int .i64 0] 79) (.cells #[.bool false] 4)
  obtain ⟨W0, hW0⟩ : ∃ W0, ((((w.alloc (.cells #[f0, f1, f2, f3, f4, f5] 72)).alloc (.cells #[.func (.func 50) #[] caps] 81)).alloc (.cells #[.int .u64 0, .int .i64 0, .int .i64 0] 79)).alloc (.cells #[.int .u64 0, .int .i64 0, .int .i64 0] 79)).alloc (.cells #[.bool false] 4) = W0 := ⟨_, rfl⟩
  have E0 : Ext w W0 := by rw [← hW0]; (repeat' (first | with_reducible assumption | with_reducible exact Ext.refl _ | with_reducible refine Ext.alloc ?_ _ | with_reducible refine Ext.set ?_ ?_ _ | with_reducible refine Ext.drew ?_ | with_reducible refine Ext.drewN ?_ _ | with_reducible refine Ext.trans ?_ (by assumption) | (dsimp only; omega)))
  have hz0 : W0.heap.size = w.heap.size + 5 := by rw [← hW0]; simp
  rw [hW0] at q0 q1 q2 q3 q4 ⊢
  have HI0 := hid (show ChInv d w #[f0, f1, f2, f3, f4, f5] (.func (.func 50) #[] caps) (bestS d en []) W0 from ⟨E0, q0, q1, q2, by rw [HON.out, HO0.out]; exact q3, by rw [HON.out]; exact q4⟩)
  have hzge : w.heap.size + 5 ≤ W0.heap.size := by omega
  clear q0 q1 q2 q3 q4 hW0 hz0
  refine range_slot (enc := encU) (xs := subsL S) (by omega) rfl (enters_of Tryd.func59 (by kernel_rfl) rfl) (by simp) (subsets_gives _ (by omega) S hS256)
    (fun pre W => ChInv d w #[f0, f1, f2, f3, f4, f5] (.func (.func 50) #[] caps) (bestS d en pre) W)
    ?stays (fun pre W h => HTW.out.ext h.ext) HI0.out ?body ?done
  case stays =>
    rintro pre X Y row ⟨h1, h2, h3, h4, h5, h6⟩ hg hr
    exact ⟨own_ext E0.size h1 hg hr, h2.own hg hr, h3.own hg hr, h4.own hg hr, h5.own hg hr, h6.own hg hr⟩
  case body =>
    rintro l pre x suf W hl2 hxs hI
    have hxn : x < n2 := HSU.out x (by rw [hxs]; simp)
    have hpm : ∀ i ∈ pre, i < 256 := fun i hi => Nat.lt_of_lt_of_le (HSU.out i (by rw [hxs]; simp [hi])) hp2
    have HLO := hid (HLT.out pre hpm)
    have HPK := hid (HSN.out pre x)
    have HEX := hid (fun W hE => HEN.out x W hxn hE)
    have HBX := hid (fun W hE => HBA.out x hxn W hE)
    have hx256 : x < 256 := by omega
    clear hxs hpm HI0
    generalize bestS d en (pre ++ [x]) = o1 at *
    generalize bestS d en pre = o at *
    unfold pickS at HPK
    generalize hex : en x = ex at *
    have HOX := hid (show ocells d (some x) = bcells d x from rfl)
    unfold bval bcells at HEX HBX
    unfold bcells at HOX
    have HI := hid hI
    have c0 := hI.b0.cell 0
    have c1 := hI.b0.cell 1
    have c2 := hI.b0.cell 2
    have c3 := hI.b0.cell 3
    have c4 := hI.b0.cell 4
    have c5 := hI.b0.cell 5
    have z0 := hI.b0.lt
    have E2 := hI.ext
    simp only [List.getElem?_toArray, List.getElem?_cons_zero, List.getElem?_cons_succ] at c0 c1 c2 c3 c4 c5
    clear hI hex
    simp only [encU, List.setIfInBounds_toArray, List.set_cons_zero, List.set_cons_succ]
    gi_wp2_with fail
    refine ⟨trivial, CallsIn.inRound l ((callsIn_wide.2 (HBX.out _ E2)).mono ?_)⟩
    rintro e w2 ⟨rfl, hE2⟩
    have HI2 := hid (HI.out.step (hE2.trans (ext_alloc1 w2 (.cells #[.int .u64 x, .int .i64 (litN d.spr (bitsL x)), .int .i64 (fuelN d.spr (bitsL x))] 79))))
    have BX := hid (Blk.new w2 79 #[.int .u64 x, .int .i64 (litN d.spr (bitsL x)), .int .i64 (fuelN d.spr (bitsL x))])
    have KK := hid (keepsFrom_ext W0.heap.size (hE2.trans (ext_alloc1 w2 (.cells #[.int .u64 x, .int .i64 (litN d.spr (bitsL x)), .int .i64 (fuelN d.spr (bitsL x))] 79))))
    have zq : w.heap.size + 1 + 1 + 1 + 1 < w2.heap.size := by have := HI.out.b4.lt; have := hE2.size; omega
    have z1 : w.heap.size + 1 < w2.heap.size := by omega
    have z3 : w.heap.size + 1 + 1 + 1 < w2.heap.size := by omega
    have d1 := (HI.out.step hE2).b1.cell 0
    simp only [List.getElem?_toArray, List.getElem?_cons_zero] at d1
    clear c0 c1 c2 c3 c4 c5 z0 E2 hE2 HBX
    generalize litN d.spr (bitsL x) = lx at *
    generalize hfx : fuelN d.spr (bitsL x) = fx at *
    gi_wp2_with fail
    refine ⟨trivial, CallsIn.inRound l ((callsIn_wide.2 (HEX.out _ HI2.out.ext)).mono ?_)⟩
    rintro e w3 ⟨rfl, hE3⟩
    obtain ⟨q, hq⟩ : ∃ q, w2.heap.size = q := ⟨_, rfl⟩
    have HI3 := hid (HI2.out.step hE3)
    have BX3 := hid (BX.out.ext hE3)
    have K3 := hid (KK.out.trans (keepsFrom_ext W0.heap.size hE3))
    rw [hq] at BX3 zq ⊢
    clear hq hE3 HI2 BX KK z1 z3 d1 HI
    have x0 := BX3.out.cell 0
    have x1 := BX3.out.cell 1
    have x2 := BX3.out.cell 2
    have zx := BX3.out.lt
    have d4 := HI3.out.b4.cell 0
    have fz4 := HI3.out.b4.fro 0
    have g0 := HI3.out.b3.fro 0
    have g1 := HI3.out.b3.fro 1
    have g2 := HI3.out.b3.fro 2
    have z3 := HI3.out.b3.lt
    have z4 := HI3.out.b4.lt
    have HB3 := hid HI3.out.b3
    simp only [List.getElem?_toArray, List.getElem?_cons_zero, List.getElem?_cons_succ] at x0 x1 x2 d4
    cases ex
    case false =>
      have HPO := hid (show o1 = o by rw [HPK.out]; cases o <;> simp)
      gi_wp2
      all_goals first
        | (rename_i hh _; exact absurd hh (by simp [undef]))
        | (refine ⟨trivial, ?_⟩; gi_wp2; exact ⟨K3.out, by rw [HPO.out]; exact HI3.out⟩)
    cases o with
    | none =>
      have HPO := hid (show o1 = some x by rw [HPK.out]; simp)
      simp only [Option.isSome_none] at d4
      rw [HO0.out] at HB3
      have y0 := HB3.out.cell 0
      have y1 := HB3.out.cell 1
      have y2 := HB3.out.cell 2
      simp only [List.getElem?_toArray, List.getElem?_cons_zero, List.getElem?_cons_succ] at y0 y1 y2
      gi_wp2
      refine ⟨trivial, ?_⟩
      gi_wp2
      exact ⟨K3.out.trans ((((keepsFrom_set _ _ _ _).trans (keepsFrom_set _ _ _ _)).trans (keepsFrom_set _ _ _ _)).trans (keepsFrom_set _ _ _ _)), by rw [HPO.out]; exact HI3.out.put x HOX.out⟩
    | some r =>
      have hr := HLO.out r rfl
      simp only [Option.isSome_some] at d4
      have HRC := hid (show ocells d (some r) = #[.int .u64 r, .int .i64 (litN d.spr (bitsL r)), .int .i64 (fuelN d.spr (bitsL r))] from rfl)
      have HCP := hid (show cheapS d x r = cheapB (fuelN d.spr (bitsL x)) (pc x) (fuelN d.spr (bitsL r)) (pc r) from rfl)
      rw [hfx] at HCP
      rw [HRC.out] at HB3
      have HIC := hid (fun lr W => isCheaper_any x r lx fx lr (fuelN d.spr (bitsL r)) hx256 hr W)
      rw [← HCP.out] at HIC
      clear HCP hfx
      generalize litN d.spr (bitsL r) = lr at *
      generalize fuelN d.spr (bitsL r) = fr at *
      have y0 := HB3.out.cell 0
      have y1 := HB3.out.cell 1
      have y2 := HB3.out.cell 2
      simp only [List.getElem?_toArray, List.getElem?_cons_zero, List.getElem?_cons_succ] at y0 y1 y2
      replace HPK := hid (show o1 = if true = true ∧ cheapS d x r = true then some x else some r from HPK.out)
      generalize cheapS d x r = cb at *
      gi_wp2_with fail
      refine ⟨trivial, CallsIn.inRound l ((callsIn_wide.2 (HIC.out _ _)).mono ?_)⟩
      rintro e w4 ⟨rfl, hE4⟩
      have HI4 := hid (HI3.out.step hE4)
      have BX4 := hid (BX3.out.ext hE4)
      have K4 := hid (K3.out.trans (keepsFrom_ext W0.heap.size hE4))
      clear x0 x1 x2 zx d4 fz4 g0 g1 g2 z3 z4 HB3 y0 y1 y2 hE4 HI3 BX3 K3
      have x0 := BX4.out.cell 0
      have x1 := BX4.out.cell 1
      have x2 := BX4.out.cell 2
      have zx := BX4.out.lt
      have fz4 := HI4.out.b4.fro 0
      have d4 := HI4.out.b4.cell 0
      have g0 := HI4.out.b3.fro 0
      have g1 := HI4.out.b3.fro 1
      have g2 := HI4.out.b3.fro 2
      have z3 := HI4.out.b3.lt
      have z4 := HI4.out.b4.lt
      have HB4 := hid HI4.out.b3
      rw [HRC.out] at HB4
      have y0 := HB4.out.cell 0
      have y1 := HB4.out.cell 1
      have y2 := HB4.out.cell 2
      simp only [List.getElem?_toArray, List.getElem?_cons_zero, List.getElem?_cons_succ] at x0 x1 x2 y0 y1 y2 d4
      cases cb
      · have HPO := hid (show o1 = some r by rw [HPK.out]; simp)
        gi_wp2
        exact ⟨K4.out, by rw [HPO.out]; exact HI4.out⟩
      · have HPO := hid (show o1 = some x by rw [HPK.out]; simp)
        gi_wp2
        exact ⟨K4.out.trans ((((keepsFrom_set _ _ _ _).trans (keepsFrom_set _ _ _ _)).trans (keepsFrom_set _ _ _ _)).trans (keepsFrom_set _ _ _ _)), by rw [HPO.out]; exact HI4.out.put x HOX.out⟩
  case done =>
    intro D W hD hI hDk
    have HI := hid hI
    have HD := hid hDk
    generalize hb : bestS d en (subsL S) = o at *
    obtain ⟨u0, u1, u2, hu⟩ : ∃ (u0 : Nat) (u1 u2 : Int), ocells d o = #[.int .u64 u0, .int .i64 u1, .int .i64 u2] := by
      cases o with
      | none => exact ⟨0, 0, 0, rfl⟩
      | some p => exact ⟨p, _, _, rfl⟩
    have HU := hid hu
    have HBO := hid hb
    clear hI hDk hb
    have HB3 := hid HI.out.b3
    rw [hu] at HB3
    clear hu
    have HB2 := hid HI.out.b2
    have HE := hid HI.out.ext
    have d4 := HI.out.b4.cell 0
    have z4 := HI.out.b4.lt
    have z3 := HI.out.b3.lt
    have z2 := HI.out.b2.lt
    have y0 := HB3.out.cell 0
    have y1 := HB3.out.cell 1
    have y2 := HB3.out.cell 2
    have r0 := HB2.out.cell 0
    have r1 := HB2.out.cell 1
    have r2 := HB2.out.cell 2
    have g0 := HB2.out.fro 0
    have g1 := HB2.out.fro 1
    have g2 := HB2.out.fro 2
    have n3 : ¬ w.heap.size + 1 + 1 + 1 = w.heap.size + 1 + 1 := by omega
    have n4 : ¬ w.heap.size + 1 + 1 + 1 + 1 = w.heap.size + 1 + 1 := by omega
    have hDq : w.heap.size + 5 ≤ D := by omega
    obtain ⟨q, hq⟩ : ∃ q, w.heap.size + 1 + 1 = q := ⟨_, rfl⟩
    obtain ⟨q3, hq3⟩ : ∃ q, w.heap.size + 1 + 1 + 1 = q := ⟨_, rfl⟩
    obtain ⟨q4, hq4⟩ : ∃ q, w.heap.size + 1 + 1 + 1 + 1 = q := ⟨_, rfl⟩
    have hqD : q < D := by omega
    have hwq : w.heap.size ≤ q := by omega
    rw [hq4] at d4 z4 n4 ⊢
    rw [hq3] at y0 y1 y2 z3 n3 ⊢
    rw [hq] at r0 r1 r2 g0 g1 g2 z2 n3 n4 HB2 ⊢
    clear hq hq3 hq4 HI HB3 HI0
    obtain ⟨ob, hob⟩ : ∃ ob, o.isSome = ob := ⟨_, rfl⟩
    rw [hob] at d4
    have HOB := hid hob
    clear hob
    simp only [List.getElem?_toArray, List.getElem?_cons_zero, List.getElem?_cons_succ] at d4 y0 y1 y2 r0 r1 r2
    gi_wp2_with fail
    gi_region
    all_goals
      gi_wp2
      have E9 : Ext w (((W.setCell ⟨q, 0, none⟩ (.int .u64 u0)).setCell ⟨q, 1, none⟩ (.int .i64 u1)).setCell ⟨q, 2, none⟩ (.int .i64 u2)).drew := (((HE.out.set hwq _).set hwq _).set hwq _).drew
      have B9 := ((HB2.out.setAt 0 (.int .u64 u0)).setAt 1 (.int .i64 u1)).setAt 2 (.int .i64 u2)
      have D9 := (Below.heap_setCell ((W.setCell ⟨q, 0, none⟩ (.int .u64 u0)).setCell ⟨q, 1, none⟩ (.int .i64 u1)) ⟨q, 2, none⟩ (.int .i64 u2) D (by dsimp only; omega)).trans ((Below.heap_setCell (W.setCell ⟨q, 0, none⟩ (.int .u64 u0)) ⟨q, 1, none⟩ (.int .i64 u1) D (by dsimp only; omega)).trans ((Below.heap_setCell W ⟨q, 0, none⟩ (.int .u64 u0) D (by dsimp only; omega)).trans HD.out))
      obtain ⟨W9, hW9⟩ : ∃ W9, (((W.setCell ⟨q, 0, none⟩ (.int .u64 u0)).setCell ⟨q, 1, none⟩ (.int .i64 u1)).setCell ⟨q, 2, none⟩ (.int .i64 u2)).drew = W9 := ⟨_, rfl⟩
      have B9' : Blk W9 q 79 #[.int .u64 u0, .int .i64 u1, .int .i64 u2] := by
        rw [← hW9]
        simp only [List.setIfInBounds_toArray, List.set_cons_zero, List.set_cons_succ] at B9
        exact B9
      have D9' : W9.heap[D]? = some (.deferred (some [])) := by rw [← hW9]; exact D9
      rw [hW9] at E9 ⊢
      clear hW9 B9 D9
      refine ⟨by simp, .inl ⟨_, _, rfl, run_takeDeferred D9', ?_⟩⟩
      have P9 := B9'.putObj (D := D) (by omega) (.deferred none)
      have p0 := P9.cell 0
      have p1 := P9.cell 1
      have p2 := P9.cell 2
      simp only [List.getElem?_toArray, List.getElem?_cons_zero, List.getElem?_cons_succ] at p0 p1 p2
      have EP := hid (ext_putObj (D := D) (o := .deferred none) E9 (by omega))
      obtain ⟨WP, hWP⟩ : ∃ WP, W9.putObj D (.deferred none) = WP := ⟨_, rfl⟩
      rw [hWP] at p0 p1 p2 EP ⊢
      refine ⟨.tuple #[.agg #[.int .u64 u0, .int .i64 u1, .int .i64 u2], .bool ob], by simp [results, Tryd.results51, go_sem, p0, p1, p2], ?_, EP.out⟩
      rw [HBO.out, HU.out, HOB.out]
end Go.Proofs.YtcfijidlbimckaaDoor
