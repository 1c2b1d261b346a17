/- The law RopesPosts returns true. -/
import Derived.Test.YtdhljpngkeobcaaGreatBTopPosts24
import Derived.Test.YtdhljpngkeobcaaGreatB16
import Derived.Test.YtdhljpngkeobcaaGreatB20
import Derived.WideShapes
set_option linter.unusedSimpArgs false
set_option linter.unusedVariables false
namespace Go.Proofs.YtdhljpngkeobcaaGreat
open Go.RowKit
set_option maxRecDepth 100000 in
set_option maxHeartbeats 8000000 in
theorem ropesPosts_any (ps : List Po) (A : Option Addr) (n c : Nat) (hn : ps.length = n) (lim yrs : Int) (w : World) (hx : PosAt w A ps) :
    Calls Tryz.prog 6 #[.slice A n c, .int .i64 lim, .int .i64 yrs] w fun e w' => e = .returned (.bool true) ∧ Ext w w' := by
  have HWK := hid (fun W => works_any W)
  have HX := hid hx
  have HN := hid hn
  by_cases hb : 20 < n
  · have hbi : (20 : Int) < (n : Int) := by omega
    clear hx hn
    go_enter Tryz.func6, Tryz.ntmps6
    go_wp2_with (go_at_call 14; refine (HWK.out _).mono ?_; rintro e w2 ⟨rfl, hE⟩; (first | (have hK := KC.step (n := w.heap.size) (by with_reducible assumption) hE) | (have hK := KC.step (KC.step (n := w.heap.size) (by with_reducible assumption) (ext_alloc1 _ _)) hE) | (have hK := KC.step (KC.refl (n := w.heap.size) (by simp)) hE)); have hC := hK.cell; have hF := hK.fro; have hX := hK.ext)
    go_ret
    exact ⟨rfl, by (repeat' (first | with_reducible assumption | with_reducible exact Ext.refl _ | with_reducible refine Ext.alloc ?_ _ | with_reducible refine Ext.set ?_ ?_ _ | with_reducible refine Ext.drew ?_ | with_reducible refine Ext.drewN ?_ _ | with_reducible refine Ext.trans ?_ (by assumption) | (dsimp only; omega)))⟩
  have hbi : ¬ (20 : Int) < (n : Int) := by omega
  have HPL := hid (fun (A5 : Option Addr) (c5 : Nat) (hc : n ≤ c5) (W : World) (h : PosAt W A5 ps) => plevel_any ps lim A5 n c5 hn (by omega) hc W h)
  have HRL := hid (fun (W : World) (hE : Ext w W) => rLevel_any ps lim A n c hn (by omega) W (hx.ext hE))
  have HPP := hid (fun (A5 : Option Addr) (c5 : Nat) (W : World) (h : PosAt W A5 ps) => prop_any ps lim yrs A5 n c5 hn (by omega) W h)
  have HRP := hid (fun (W : World) (hE : Ext w W) => rProp_any ps lim yrs A n c hn (by omega) W (hx.ext hE))
  have hPR : (propR ps lim yrs).length ≤ 1000 := by
    unfold propR
    split
    · unfold propL
      rw [List.length_map]
      have := elems_len ((propN ps lim yrs).getD 0)
      omega
    · simp
  unfold PropIs at HPP
  clear hx hn hb
  generalize lvlV ps lim = U at *
  generalize posE ps lim 0 = E1 at *
  generalize posE ps lim yrs = E2 at *
  generalize propR ps lim yrs = PR at *
  obtain ⟨m, hm⟩ : ∃ m, PR.length = m := ⟨_, rfl⟩
  have HSM := hid (fun (A8 A9 : Option Addr) (c8 c9 : Nat) (W : World) (h8 : IntsAt W A8 PR) (h9 : IntsAt W A9 PR) => sameInts_any A8 A9 m m c8 c9 PR PR hm hm (by omega) (by omega) W h8 h9)
  rw [hm] at HPP HRP
  simp only [decide_true] at HSM
  clear hm hPR
  go_enter Tryz.func6, Tryz.ntmps6
  go_wp2_with (at_builtin; refine Halt.mk ?_)
  unfold Halt
  refine wpList_appAllPo _ rfl _ _ rfl w.heap.size w.heap.size A c ps rfl (blk_last w _) (Nat.le_refl _) n HN.out rfl (HX.out.ext (ext_alloc1 _ _)) (by omega) ?_
  intro v5 w5 hO hg
  obtain ⟨A5, c5, hv5, hle5, hp5⟩ := ownPo hO
  have HP5 := hid hp5
  have E5 := hid (show Ext w w5 from Below.grown (ext_alloc1 w (.cells #[] 95)) hg (ext_alloc1 w (.cells #[] 95)).size (fun k ek => by cases ek; exact Nat.le_refl _))
  have hnn := HN.out
  rw [hnn] at hv5 hle5
  subst hv5
  clear hO hg hp5 hnn HX HN
  go_wp2_with fail
  refine Calls.mono (HPL.out A5 c5 hle5 _ HP5.out) ?_
  rintro e w6 ⟨rfl, hE6⟩
  have E6 := hid (E5.out.trans hE6)
  have HP6 := hid (HP5.out.ext hE6)
  clear hE6 E5 HP5 HPL
  go_wp2_with fail
  refine Calls.mono (HRL.out _ E6.out) ?_
  rintro e w7 ⟨rfl, hE7⟩
  have E7 := hid (E6.out.trans hE7)
  have HP7 := hid (HP6.out.ext hE7)
  clear hE7 E6 HP6 HRL
  go_wp2_with fail
  refine Calls.mono (HPP.out A5 c5 _ HP7.out) ?_
  rintro e w8 ⟨A8, c8, rfl, hI8, hl8, hE8⟩
  have E8 := hid (E7.out.trans hE8)
  have HI8 := hid hI8
  clear hE8 E7 HP7 HPP hI8 hl8
  go_wp2_with fail
  refine Calls.mono (HRP.out _ E8.out) ?_
  rintro e w9 ⟨A9, c9, rfl, hI9, hE9⟩
  have E9 := hid (E8.out.trans hE9)
  have HI9 := hid hI9
  have HI89 := hid (HI8.out.ext hE9)
  clear hE9 E8 HRP hI9 HI8
  go_wp2_with fail
  refine Calls.mono (HSM.out A8 A9 c8 c9 _ HI89.out HI9.out) ?_
  rintro e w10 ⟨rfl, hE10⟩
  have E10 := hid (E9.out.trans hE10)
  clear hE10 E9 HI9 HI89 HSM
  go_wp2_with fail
  refine Calls.mono (HWK.out _) ?_
  rintro e w11 ⟨rfl, hE11⟩
  go_wp2
  go_ret
  exact ⟨rfl, E10.out.trans hE11⟩
end Go.Proofs.YtdhljpngkeobcaaGreat
/- Posts as an argument: opened to their cells. -/
set_option linter.unusedSimpArgs false
set_option linter.unusedVariables false
namespace Go.Proofs.YtdhljpngkeobcaaGreat
open Go.RowKit
open Go.ChangeShapes Go.WideShapes Go.Deep Go.Joins
theorem cellsPost : Tryz.prog.cellsOf 95 = 3 := by kernel_rfl
section
variable {H : Type} {enc : TypeId × Value → H} {w : World} {base : Nat} {spare : Nat → Bool} {held : Bool}
set_option maxRecDepth 100000 in
theorem open_post {fuel : Nat} {cs : List Value} {x : DataW H × List MemPlace} (h : DataW.trod enc Tryz.prog w base spare held fuel 95 cs = some x) : ∃ o : Po, cs = [.int .i64 o.pos, .int .i64 o.sl, .int .i64 o.sh] := by
  obtain ⟨ys, n', hn', hy, hlen, hyl, hf⟩ := DataW.trod_struct Tryz.underlying95 h
  obtain ⟨y0, h0, _⟩ := field_of hyl hf 0 rfl (t := 3) (o := 0) rfl rfl cellsInt
  obtain ⟨y1, h1, _⟩ := field_of hyl hf 1 rfl (t := 33) (o := 1) rfl rfl cellsSpan
  rw [cellsPost] at hlen
  match cs, hlen with
  | [c0, c1, c2], _ =>
    simp only [List.drop_zero, List.drop_succ_cons, List.take_succ_cons, List.take_zero] at h0 h1
    obtain ⟨a0, g0, _, _⟩ := DataW.trod_int Tryz.underlying3 h0
    obtain ⟨_, _, _, _, _, i1, j1⟩ := trod_struct2 Tryz.underlying33 h1
    rw [cellsInt] at i1 j1
    simp only [List.drop_zero, List.drop_succ_cons, List.take_succ_cons, List.take_zero] at i1 j1
    obtain ⟨a1, g1, _, _⟩ := DataW.trod_int Tryz.underlying3 i1
    obtain ⟨a2, g2, _, _⟩ := DataW.trod_int Tryz.underlying3 j1
    simp only [List.cons.injEq, and_true] at g0 g1 g2
    subst g0 g1 g2
    exact ⟨⟨a0, a1, a2⟩, rfl⟩
set_option maxRecDepth 100000 in
theorem open_posts {fuel : Nat} {cs : List Value} {x : DataW H × List MemPlace} (h : DataW.trod enc Tryz.prog w base spare held fuel 61 cs = some x) :
    ∃ A os c, cs = [.slice A os.length c] ∧ os.length ≤ c ∧ PosAt w A os ∧ ∀ o : Po, o ∈ os → True := by
  rcases open_slice Tryz.underlying61 h with ⟨rfl, _⟩ | ⟨a, len, cap, m, n, D, Pl, rfl, hb, hl, hm, hmm, hx, hi⟩
  · exact ⟨none, [], 0, rfl, Nat.le_refl _, fun h => absurd rfl h, fun o ho => by cases ho⟩
  · have hlm : len ≤ m := by rw [hmm]; split <;> omega
    have hel : ∀ i, i < len → ∃ o : Po, PoAt w a.block (a.off + i * 3) o ∧ a.block < w.heap.size ∧ True := fun i hil => by
      obtain ⟨cs', hc, ht⟩ := hi i (by omega)
      rw [cellsPost] at hc
      obtain ⟨_, hl2, hat⟩ := World.cells?_some hc
      obtain ⟨o, rfl⟩ := open_post ht
      have hk : ∀ k v, ([.int .i64 o.pos, .int .i64 o.sl, .int .i64 o.sh] : List Value)[k]? = some v → k < 3 → w.cell? ⟨a.block, a.off + i * 3 + k, none⟩ = some v ∧ a.block < w.heap.size := fun k v hv hk8 => by
        have h0 := (hat k hk8).trans hv
        rw [Go.Deep.add_add] at h0
        have h1 := add_cell h0
        exact ⟨by rw [Nat.add_assoc]; exact h1.1, h1.2⟩
      exact ⟨o, ⟨(hk 0 _ rfl (by omega)).1, (hk 1 _ rfl (by omega)).1, (hk 2 _ rfl (by omega)).1⟩, (hk 0 _ rfl (by omega)).2, trivial⟩
    obtain ⟨os, ho, hos⟩ := exists_list zeroPo _ len hel
    subst ho
    refine ⟨some a, os, cap, rfl, hl, fun hne => ?_, fun o ho => ?_⟩
    · have h0 : 0 < os.length := List.length_pos_iff.2 hne
      have hb0 := (hos 0 h0).2.1
      have hsp : a = ⟨a.block, a.off, none⟩ := by
        obtain ⟨cs', hc, ht⟩ := hi 0 (by omega)
        obtain ⟨_, hl2, hat⟩ := World.cells?_some hc
        rw [cellsPost] at hat hl2
        exact addr_plain hl2 (by omega) hat
      exact ⟨a.block, a.off, by rw [← hsp], hb0, fun k hk => (hos k hk).1⟩
    · obtain ⟨i, hi', rfl⟩ := List.getElem_of_mem ho
      have h9 := (hos i hi').2.2
      have e9 : os.getD i zeroPo = os[i] := by simp [List.getD, List.getElem?_eq_getElem hi']
      first | trivial | (rw [e9] at h9; exact h9)
theorem cellsSlP : Tryz.prog.cellsOf 61 = 1 := by kernel_rfl
set_option maxRecDepth 100000 in
theorem open_argPosts {r : Reach} {b0 : Nat} {v : Value} {d : DataW H} {p : List MemPlace} (hv : Value.okWide Tryz.prog w r b0 61 v) (h : DataW.Trod enc Tryz.prog w base spare held 61 v d p) :
    ∃ A os c, v = .slice A (List.length os) c ∧ PosAt w A os := by
  obtain ⟨a, len, cap, rfl⟩ := okWide_slice Tryz.underlying61 hv
  obtain ⟨fuel, hf⟩ := h
  obtain ⟨A, xs, c, e, -, hs, -⟩ := open_posts hf
  have e' : [Value.slice a len cap] = [Value.slice A xs.length c] := e
  simp only [List.cons.injEq, and_true] at e'
  exact ⟨A, xs, c, e', hs⟩
end
end Go.Proofs.YtdhljpngkeobcaaGreat
