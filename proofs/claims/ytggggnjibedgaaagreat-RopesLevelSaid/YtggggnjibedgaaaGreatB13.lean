/- The program's Damage. -/
import Derived.Test.YtggggnjibedgaaaGreatB08
import Derived.Test.YtggggnjibedgaaaGreatB07
import Derived.Test.YtggggnjibedgaaaGreatB02
import Derived.Test.YtggggnjibedgaaaGreatB05
import Derived.Test.YtggggnjibedgaaaGreatB01
set_option linter.unusedSimpArgs false
set_option linter.unusedVariables false
namespace Go.Proofs.YtggggnjibedgaaaGreat
open Go.RowKit
def dmgV (m : Md) (r : Ro) (D : Int) : Int × Int := if dayE m r D = 0 then dmgL m.wears D r.falls else (0, 0)
theorem dayE_ok {m : Md} {r : Ro} {D : Int} (h : dayE m r D = 0) : mdB m = true ∧ roB r = true := by
  unfold dayE at h
  split at h
  · rename_i h1
    split at h
    · rename_i h2
      first | exact ⟨h1, h2⟩ | (constructor <;> simp_all)
    · cases h
  · cases h
set_option maxRecDepth 100000 in
set_option maxHeartbeats 4000000 in
theorem pdamage_any (m : Md) (r : Ro) (A : Option Addr) (c : Nat) (B : Option Addr) (d : Nat) (D : Int) (hm : m.wears.length ≤ 1000) (hr : r.falls.length ≤ 1000) (w : World) (hx : WrsAt w A m.wears) (hy : FlsAt w B r.falls) :
    Calls Tryz.prog 17 #[m.val A c, r.val B d, .int .i64 D] w fun e w' => e = .returned (.tuple #[.agg #[.int .i64 (dmgV m r D).1, .int .i64 (dmgV m r D).2], .int .i64 (dayE m r D)]) ∧ Ext w w' := by
  have HT := hid (fun (W : World) (hE : Ext w W) => takeOn_any m r A c B d D hm hr W (hx.ext hE) (hy.ext hE))
  have HD := hid (fun (a : mdB m = true) (b : roB r = true) (W : World) (hE : Ext w W) => damage_any m r A c B d D a b W (hx.ext hE) (hy.ext hE))
  clear hx hy
  by_cases h0 : dayE m r D = 0
  · have hv : dmgV m r D = dmgL m.wears D r.falls := by unfold dmgV; rw [if_pos h0]
    obtain ⟨h1, h2⟩ := dayE_ok h0
    replace HD := hid (HD.out h1 h2)
    rw [hv, h0]
    simp only [h0, if_pos] at HT
    clear hv h0 h1 h2
    generalize dmgL m.wears D r.falls = V at *
    unfold cordV at *
    obtain ⟨sh, us, be, ws⟩ := m
    obtain ⟨ma, fi, le, fs⟩ := r
    unfold Md.val Ro.val at *
    dsimp only at *
    generalize ws.length = n at *
    generalize fs.length = k at *
    have Z := blks3 w (.cells #[.int .i64 sh, .int .i64 us, .int .i64 be, .slice A n c] 24) (.cells #[.int .i64 ma, .int .i64 fi, .int .i64 le, .slice B k d] 27) (.cells #[.int .i64 0, .int .i64 0] 33)
    have Z3 := hid (show Blk _ _ _ _ from Z.2.2)
    clear Z
    go_enter Tryz.func17, Tryz.ntmps17
    go_wp2_with fail
    refine Calls.mono (HT.out _ (by (repeat' (first | with_reducible assumption | with_reducible exact Ext.refl _ | with_reducible refine Ext.alloc ?_ _ | with_reducible refine Ext.set ?_ ?_ _ | with_reducible refine Ext.drew ?_ | with_reducible refine Ext.drewN ?_ _ | with_reducible refine Ext.trans ?_ (by assumption) | (dsimp only; omega))))) ?_
    rintro e w2 ⟨rfl, hE⟩
    have T3 := hid (Z3.out.ext hE)
    have TE := hid (show Ext w w2 by (repeat' (first | with_reducible assumption | with_reducible exact Ext.refl _ | with_reducible refine Ext.alloc ?_ _ | with_reducible refine Ext.set ?_ ?_ _ | with_reducible refine Ext.drew ?_ | with_reducible refine Ext.drewN ?_ _ | with_reducible refine Ext.trans ?_ (by assumption) | (dsimp only; omega))))
    have x0 := T3.out.cell 0
    have x1 := T3.out.cell 1
    have y0 := T3.out.fro 0
    have y1 := T3.out.fro 1
    have xz := T3.out.lt
    simp only [List.getElem?_toArray, List.getElem?_cons_zero, List.getElem?_cons_succ] at x0 x1
    clear Z3 hE HT
    go_wp2_with fail
    have tE := TE.out
    refine Calls.mono (HD.out _ (by (repeat' (first | with_reducible assumption | with_reducible exact Ext.refl _ | with_reducible refine Ext.alloc ?_ _ | with_reducible refine Ext.set ?_ ?_ _ | with_reducible refine Ext.drew ?_ | with_reducible refine Ext.drewN ?_ _ | with_reducible refine Ext.trans ?_ (by assumption) | (dsimp only; omega))))) ?_
    rintro e w3 ⟨rfl, hE3⟩
    have E3 : Ext w2 w3 := by (repeat' (first | with_reducible assumption | with_reducible exact Ext.refl _ | with_reducible refine Ext.alloc ?_ _ | with_reducible refine Ext.set ?_ ?_ _ | with_reducible refine Ext.drew ?_ | with_reducible refine Ext.drewN ?_ _ | with_reducible refine Ext.trans ?_ (by assumption) | (dsimp only; omega)))
    have S3 := hid (T3.out.ext E3)
    have SE := hid (TE.out.trans E3)
    clear x0 x1 y0 y1 xz T3 TE hE3 E3 tE
    obtain ⟨x0, x1⟩ : _ ∧ _ := ⟨S3.out.cell 0, S3.out.cell 1⟩
    have y0 := S3.out.fro 0
    have y1 := S3.out.fro 1
    have xz := S3.out.lt
    simp only [List.getElem?_toArray, List.getElem?_cons_zero, List.getElem?_cons_succ] at x0 x1
    go_wp2_with fail
    have sE := SE.out
    refine body_abs (fun X => Blk X (w.heap.size + 1 + 1) 33 #[.int .i64 V.1, .int .i64 V.2] ∧ Ext w X) ⟨Blk.st2 S3.out _ _, by (repeat' (first | with_reducible assumption | with_reducible exact Ext.refl _ | with_reducible refine Ext.alloc ?_ _ | with_reducible refine Ext.set ?_ ?_ _ | with_reducible refine Ext.drew ?_ | with_reducible refine Ext.drewN ?_ _ | with_reducible refine Ext.trans ?_ (by assumption) | (dsimp only; omega)))⟩ ?_
    rintro X ⟨hB, XE⟩
    have r0 := hB.cell 0
    have r1 := hB.cell 1
    simp only [List.getElem?_toArray, List.getElem?_cons_zero, List.getElem?_cons_succ] at r0 r1
    exact bodyPost_ret (v := .tuple #[.agg #[.int .i64 V.1, .int .i64 V.2], .int .i64 0]) (by simp [results, Tryz.results17, go_sem, r0, r1]) rfl ⟨rfl, XE⟩
  · have hv : dmgV m r D = (0, 0) := by unfold dmgV; rw [if_neg h0]
    rw [hv]
    simp only [h0, if_false] at HT
    clear hv HD
    obtain ⟨E, hE0⟩ : ∃ E, dayE m r D = E := ⟨_, rfl⟩
    rw [hE0] at h0 HT ⊢
    clear hE0
    unfold zeroC at *
    obtain ⟨sh, us, be, ws⟩ := m
    obtain ⟨ma, fi, le, fs⟩ := r
    unfold Md.val Ro.val at *
    dsimp only at *
    generalize ws.length = n at *
    generalize fs.length = k at *
    have h0' : (E == 0) = false := by simp; exact h0
    have Z := blks3 w (.cells #[.int .i64 sh, .int .i64 us, .int .i64 be, .slice A n c] 24) (.cells #[.int .i64 ma, .int .i64 fi, .int .i64 le, .slice B k d] 27) (.cells #[.int .i64 0, .int .i64 0] 33)
    have Z3 := hid (show Blk _ _ _ _ from Z.2.2)
    clear Z
    go_enter Tryz.func17, Tryz.ntmps17
    go_wp2_with fail
    refine Calls.mono (HT.out _ (by (repeat' (first | with_reducible assumption | with_reducible exact Ext.refl _ | with_reducible refine Ext.alloc ?_ _ | with_reducible refine Ext.set ?_ ?_ _ | with_reducible refine Ext.drew ?_ | with_reducible refine Ext.drewN ?_ _ | with_reducible refine Ext.trans ?_ (by assumption) | (dsimp only; omega))))) ?_
    rintro e w2 ⟨rfl, hE⟩
    have T3 := hid (Z3.out.ext hE)
    have TE := hid (show Ext w w2 by (repeat' (first | with_reducible assumption | with_reducible exact Ext.refl _ | with_reducible refine Ext.alloc ?_ _ | with_reducible refine Ext.set ?_ ?_ _ | with_reducible refine Ext.drew ?_ | with_reducible refine Ext.drewN ?_ _ | with_reducible refine Ext.trans ?_ (by assumption) | (dsimp only; omega))))
    have x0 := T3.out.cell 0
    have x1 := T3.out.cell 1
    have y0 := T3.out.fro 0
    have y1 := T3.out.fro 1
    have xz := T3.out.lt
    simp only [List.getElem?_toArray, List.getElem?_cons_zero, List.getElem?_cons_succ] at x0 x1
    clear Z3 hE HT
    go_wp2_with fail
    have tE := TE.out
    refine body_abs (fun X => Blk X (w.heap.size + 1 + 1) 33 #[.int .i64 0, .int .i64 0] ∧ Ext w X) ⟨(Blk.st2 T3.out _ _).ext (ext_alloc1 _ _), by (repeat' (first | with_reducible assumption | with_reducible exact Ext.refl _ | with_reducible refine Ext.alloc ?_ _ | with_reducible refine Ext.set ?_ ?_ _ | with_reducible refine Ext.drew ?_ | with_reducible refine Ext.drewN ?_ _ | with_reducible refine Ext.trans ?_ (by assumption) | (dsimp only; omega)))⟩ ?_
    rintro X ⟨hB, XE⟩
    have r0 := hB.cell 0
    have r1 := hB.cell 1
    simp only [List.getElem?_toArray, List.getElem?_cons_zero, List.getElem?_cons_succ] at r0 r1
    exact bodyPost_ret (v := .tuple #[.agg #[.int .i64 0, .int .i64 0], .int .i64 E]) (by simp [results, Tryz.results17, go_sem, r0, r1]) rfl ⟨rfl, XE⟩
end Go.Proofs.YtggggnjibedgaaaGreat
/- What a set chooses of points and of posts, and the others. -/
set_option linter.unusedSimpArgs false
set_option linter.unusedVariables false
namespace Go.Proofs.YtggggnjibedgaaaGreat
open Go.RowKit
def choK {α : Type} (d : α) (xs : List α) (s k : Nat) : List α := (elemsL k s).map fun i => xs.getD i d
def othK {α : Type} (d : α) (xs : List α) (s k : Nat) : List α := (othersL k s).map fun i => xs.getD i d
theorem choK_succ {α : Type} (d : α) (xs : List α) (s k : Nat) : choK d xs s (k + 1) = if hasB s k then choK d xs s k ++ [xs.getD k d] else choK d xs s k := by
  unfold choK elemsL
  rw [List.range_succ, List.filter_append, List.map_append]
  cases h : hasB s k <;> simp [h]
theorem othK_succ {α : Type} (d : α) (xs : List α) (s k : Nat) : othK d xs s (k + 1) = if hasB s k then othK d xs s k else othK d xs s k ++ [xs.getD k d] := by
  unfold othK othersL
  rw [List.range_succ, List.filter_append, List.map_append]
  cases h : hasB s k <;> simp [h]
theorem choK_len {α : Type} (d : α) (xs : List α) (s k : Nat) : (choK d xs s k).length ≤ k := by
  unfold choK elemsL
  rw [List.length_map]
  exact Nat.le_trans (List.length_filter_le _ _) (by simp)
theorem othK_len {α : Type} (d : α) (xs : List α) (s k : Nat) : (othK d xs s k).length ≤ k := by
  unfold othK othersL
  rw [List.length_map]
  exact Nat.le_trans (List.length_filter_le _ _) (by simp)
set_option maxRecDepth 100000 in
set_option maxHeartbeats 4000000 in
theorem splitPo_any (xs : List Po) (s : Nat) (hs : s < 256) (A : Option Addr) (n c : Nat) (hn : xs.length = n) (hm : n ≤ 8) (w : World) (hx : PosAt w A xs) :
    Calls Tryz.prog 129 #[.slice A n c, .int .i64 s] w fun e w' => ∃ A1 c1 A2 c2, e = .returned (.tuple #[.slice A1 (choL zeroPo xs s).length c1, .slice A2 (othL zeroPo xs s).length c2]) ∧ PosAt w' A1 (choL zeroPo xs s) ∧ PosAt w' A2 (othL zeroPo xs s) ∧ (choL zeroPo xs s).length ≤ c1 ∧ (othL zeroPo xs s).length ≤ c2 ∧ Ext w w' := by
  have HX := hid hx
  have HN := hid hn
  have HH := hid (fun i (hi : i < 8) W => has_any s i hs hi W)
  have HC := hid (fun k => choK_succ zeroPo xs s k)
  have HO := hid (fun k => othK_succ zeroPo xs s k)
  have HC0 := hid (show choK zeroPo xs s 0 = [] from rfl)
  have HO0 := hid (show othK zeroPo xs s 0 = [] from rfl)
  have HLC := hid (fun k => choK_len zeroPo xs s k)
  have HLO := hid (fun k => othK_len zeroPo xs s k)
  have HCE := hid (show choK zeroPo xs s n = choL zeroPo xs s by rw [← hn]; rfl)
  have HOE := hid (show othK zeroPo xs s n = othL zeroPo xs s by rw [← hn]; rfl)
  clear hx hn
  generalize choL zeroPo xs s = CL at *
  generalize othL zeroPo xs s = OL at *
  generalize choK zeroPo xs s = CK at *
  generalize othK zeroPo xs s = OK at *
  go_enter Tryz.func129, Tryz.ntmps129
  go_wp2
  go_loopw [4, 5, 10] (fun v u i wr => Ext w wr ∧ ∃ (k : Nat) (A1 : Option Addr) (c1 : Nat) (A2 : Option Addr) (c2 : Nat), k ≤ n ∧ i = .int .i64 k ∧ v = .slice A1 (CK k).length c1 ∧ u = .slice A2 (OK k).length c2 ∧ Hid (Ownl 95 3 gPo wr w.heap.size (.slice A1 (CK k).length c1) (CK k)) ∧ Hid (Ownl 95 3 gPo wr w.heap.size (.slice A2 (OK k).length c2) (OK k)) ∧
      Hid (∀ q, (Value.slice A1 (CK k).length c1).ownBlock = some q → (Value.slice A2 (OK k).length c2).ownBlock ≠ some q)) (fun _ _ i _ => n - (intOf i).toNat)
  case atStart => exact ⟨by (repeat' (first | with_reducible assumption | with_reducible exact Ext.refl _ | with_reducible refine Ext.alloc ?_ _ | with_reducible refine Ext.set ?_ ?_ _ | with_reducible refine Ext.drew ?_ | with_reducible refine Ext.drewN ?_ _ | with_reducible refine Ext.trans ?_ (by assumption) | (dsimp only; omega))), 0, none, 0, none, 0, Nat.zero_le _, rfl, by rw [HC0.out]; rfl, by rw [HO0.out]; rfl, hid (by rw [HC0.out]; exact Ownl.nil _ _), hid (by rw [HO0.out]; exact Ownl.nil _ _), hid (fun q h => by cases h)⟩
  case round =>
    obtain ⟨hE, k, A1, c1, A2, c2, hk, rfl, rfl, rfl, HV, HU, HD⟩ := hrel
    have hwr : w.heap.size ≤ wr.heap.size := hE.size
    by_cases hlt : k < n
    · obtain ⟨b, off, rfl, hb, hck⟩ := (HX.out.ext hE).at_ HN.out hlt
      have HSC := hid (HC.out k)
      have HSO := hid (HO.out k)
      have hk1 : (CK k).length ≤ 8 := by have := HLC.out k; omega
      have hk2 : (OK k).length ≤ 8 := by have := HLO.out k; omega
      have HHk := hid (fun W => HH.out k (by omega) W)
      clear HC HO HLC HLO HH HX
      generalize xs.getD k zeroPo = x at *
      obtain ⟨d0, d1, d2⟩ := hck
      generalize hasB s k = bb at *
      cases bb
      · rw [if_neg (by decide)] at HSC
        rw [if_neg (by decide)] at HSO
        generalize CK k = accC at *
        generalize OK k = accO at *
        go_wp2_with (first | (go_at_call 114; refine (HHk.out _).mono ?_; rintro e w2 ⟨rfl, hsm⟩; obtain rfl := hsm.symm) | (at_builtin; refine Halt.mk ?_))
        unfold Halt
        obtain ⟨wy, hwy⟩ : ∃ wy, wr.alloc (.cells #[.int .i64 x.pos, .int .i64 x.sl, .int .i64 x.sh] 95) = wy := ⟨_, rfl⟩
        have EY := hid (show Ext wr wy by rw [← hwy]; exact ext_alloc1 _ _)
        rw [hwy]
        have BN := hid (show Blk (wy.alloc (.cells #[.int .i64 x.pos, .int .i64 x.sl, .int .i64 x.sh] 95)) wy.heap.size 95 #[.int .i64 x.pos, .int .i64 x.sl, .int .i64 x.sh] from blk_last _ _)
        have hy1 : wr.heap.size + 1 = wy.heap.size := by rw [← hwy]; simp
        try rw [hy1]
        refine wpList_app1Po _ rfl _ _ rfl w.heap.size (.slice A2 accO.length c2) accO rfl ((HU.out.ext EY.out).ext (ext_alloc1 _ _)) wy.heap.size x rfl BN.out (by omega) (by simp; omega) ?_
        intro v4 w4 hO hg hw
        have E4 := hid ((HU.out.ext EY.out).extApp (hE.trans EY.out) (Nat.le_refl _) hg)
        have V4 := hid (((HV.out.ext EY.out).ext (ext_alloc1 _ _)).apart hg HD.out)
        have D4 := hid (fun q h h2 => apart_of hw (fun q h2 h => HD.out q h h2) (fun q h => by have := (HV.out.block q h).2; simp; omega) q h2 h)
        obtain ⟨A4, c4, rfl, -, -⟩ := ownPo hO
        have U4 := hid hO
        clear hO hg HV HU BN hw HD
        go_wp2
        go_roundw
        case rel => exact ⟨E4.out, k + 1, A1, c1, A4, c4, by omega, by go_num, by rw [HSC.out]; first | done | simp, by rw [HSO.out]; first | done | simp, hid (by rw [HSC.out]; exact V4.out), hid (by rw [HSO.out]; exact U4.out), hid (by rw [HSC.out, HSO.out]; exact D4.out)⟩
        case measure => simp [intOf]; omega
      · rw [if_pos rfl] at HSC
        rw [if_pos rfl] at HSO
        generalize CK k = accC at *
        generalize OK k = accO at *
        go_wp2_with (first | (go_at_call 114; refine (HHk.out _).mono ?_; rintro e w2 ⟨rfl, hsm⟩; obtain rfl := hsm.symm) | (at_builtin; refine Halt.mk ?_))
        unfold Halt
        obtain ⟨wy, hwy⟩ : ∃ wy, wr.alloc (.cells #[.int .i64 x.pos, .int .i64 x.sl, .int .i64 x.sh] 95) = wy := ⟨_, rfl⟩
        have EY := hid (show Ext wr wy by rw [← hwy]; exact ext_alloc1 _ _)
        rw [hwy]
        have BN := hid (show Blk (wy.alloc (.cells #[.int .i64 x.pos, .int .i64 x.sl, .int .i64 x.sh] 95)) wy.heap.size 95 #[.int .i64 x.pos, .int .i64 x.sl, .int .i64 x.sh] from blk_last _ _)
        have hy1 : wr.heap.size + 1 = wy.heap.size := by rw [← hwy]; simp
        try rw [hy1]
        refine wpList_app1Po _ rfl _ _ rfl w.heap.size (.slice A1 accC.length c1) accC rfl ((HV.out.ext EY.out).ext (ext_alloc1 _ _)) wy.heap.size x rfl BN.out (by omega) (by simp; omega) ?_
        intro v4 w4 hO hg hw
        have E4 := hid ((HV.out.ext EY.out).extApp (hE.trans EY.out) (Nat.le_refl _) hg)
        have U4 := hid (((HU.out.ext EY.out).ext (ext_alloc1 _ _)).apart hg (fun q h h2 => HD.out q h2 h))
        have D4 := hid (apart_of hw HD.out (fun q h => by have := (HU.out.block q h).2; simp; omega))
        obtain ⟨A4, c4, rfl, -, -⟩ := ownPo hO
        have V4 := hid hO
        clear hO hg HV HU BN hw HD
        go_wp2
        go_roundw
        case rel => exact ⟨E4.out, k + 1, A4, c4, A2, c2, by omega, by go_num, by rw [HSC.out]; first | done | simp, by rw [HSO.out]; first | done | simp, hid (by rw [HSC.out]; exact V4.out), hid (by rw [HSO.out]; exact U4.out), hid (by rw [HSC.out, HSO.out]; exact D4.out)⟩
        case measure => simp [intOf]; omega
    · obtain rfl : k = n := by omega
      obtain ⟨A3, c3, e3, l3, h3⟩ := ownPo HV.out
      obtain ⟨A4, c4, e4, l4, h4⟩ := ownPo HU.out
      cases e3
      cases e4
      have L3 := hid l3
      have L4 := hid l4
      have H3 := hid h3
      have H4 := hid h4
      rw [HCE.out] at H3 L3 ⊢
      rw [HOE.out] at H4 L4 ⊢
      clear h3 h4 l3 l4 HV HU HD HC HO HLC HLO HH HX
      go_wp2
      go_ret2
      exact ⟨A1, c1, A2, c2, rfl, H3.out, H4.out, L3.out, L4.out, hE⟩
end Go.Proofs.YtggggnjibedgaaaGreat
/- The fewest elements that are enough. -/
set_option linter.unusedSimpArgs false
set_option linter.unusedVariables false
namespace Go.Proofs.YtggggnjibedgaaaGreat
open Go.RowKit
theorem fewN_lt (P : Nat → Bool) : ∀ k b, fewN P k = some b → b < k
  | 0, b, h => by cases h
  | k + 1, b, h => by
    rw [fewN_succ] at h
    unfold fewS at h
    by_cases hc : (firstO k (fewN P k) && P k) = true
    · rw [if_pos hc] at h
      injection h with h
      omega
    · rw [if_neg hc] at h
      have := fewN_lt P k b h
      omega
theorem firstO_some (k b : Nat) : firstO k (some b) = befB k b := rfl
theorem fewS_none (P : Nat → Bool) (k : Nat) : fewS P none k = bif P k then some k else none := by unfold fewS firstO; cases P k <;> rfl
theorem fewS_no (P : Nat → Bool) {k b : Nat} (h : befB k b = false) : fewS P (some b) k = some b := by unfold fewS; rw [firstO_some, h]; rfl
theorem fewS_yes (P : Nat → Bool) {k b : Nat} (h : befB k b = true) : fewS P (some b) k = bif P k then some k else some b := by unfold fewS; rw [firstO_some, h]; cases P k <;> rfl
set_option maxRecDepth 100000 in
set_option maxHeartbeats 4000000 in
theorem fewestPo_any (fn : Nat) (caps : Array Value) (eg : ∀ args w, (callFunc fn args).run Tryz.prog w = .ok (.enter fn args) w) (xs : List Po) (P : Nat → Bool) (A : Option Addr) (n c : Nat) (hn : xs.length = n) (hm : n ≤ 8) (w : World) (hx : PosAt w A xs)
    (hf : ∀ (s : Nat) (A1 : Option Addr) (c1 : Nat) (A2 : Option Addr) (c2 : Nat) (W : World), s < 256 → Ext w W → PosAt W A1 (choL zeroPo xs s) → PosAt W A2 (othL zeroPo xs s) → (choL zeroPo xs s).length ≤ c1 → (othL zeroPo xs s).length ≤ c2 →
      Calls Tryz.prog fn (#[.slice A1 (choL zeroPo xs s).length c1, .slice A2 (othL zeroPo xs s).length c2] ++ caps) W fun e W' => e = .returned (.bool (P s)) ∧ Ext W W') :
    Calls Tryz.prog 93 #[.slice A n c, .func (.func fn) #[] caps] w fun e w' => e = .returned (.tuple #[.int .i64 ((fewN P (2 ^ n)).getD 0 : Nat), .bool (fewN P (2 ^ n)).isSome]) ∧ Ext w w' := by
  have HFF := hid hf
  have HEG := hid eg
  have HSP := hid (fun (s : Nat) (hs : s < 256) (W : World) (hE : Ext w W) => splitPo_any xs s hs A n c hn hm W (hx.ext hE))
  have HBF := hid (fun (s t : Nat) (hs : s < 256) (ht : t < 256) (W : World) => isBefore_any s t hs ht W)
  have HS := hid (fun k => fewN_succ P k)
  have HLT := hid (fun k b (h : fewN P k = some b) => fewN_lt P k b h)
  have H0 := hid (show fewN P 0 = none from rfl)
  have hpow : 2 ^ n ≤ 2 ^ 8 := Nat.pow_le_pow_right (by decide) hm
  have hpow2 : (2 : Int) ^ n = ((2 ^ n : Nat) : Int) := by simp
  obtain ⟨N, hN⟩ : ∃ N, 2 ^ n = N := ⟨_, rfl⟩
  rw [hN] at hpow hpow2 ⊢
  have hw1 : IntKind.i64.wrap ((2 : Int) ^ n) = (N : Int) := by rw [hpow2]; exact IntWalk.i64_in _ (by omega)
  have hw2 : wrap64 ((2 : Int) ^ n) = (N : Int) := by rw [hpow2]; unfold wrap64; omega
  have hn64 : n < 64 := by omega
  clear hf hx hn eg
  generalize choL zeroPo xs = CL at *
  generalize othL zeroPo xs = OL at *
  generalize fewN P = FN at *
  go_enter Tryz.func93, Tryz.ntmps93
  go_wp2_with (simp only [hw1, hw2])
  go_loopw [6, 7, 13] (fun v f i wr => Ext w wr ∧ ∃ k : Nat, k ≤ N ∧ i = .int .i64 k ∧ v = .int .i64 ((FN k).getD 0 : Nat) ∧ f = .bool (FN k).isSome) (fun _ _ i _ => N - (intOf i).toNat)
  case atStart => exact ⟨by (repeat' (first | with_reducible assumption | with_reducible exact Ext.refl _ | with_reducible refine Ext.alloc ?_ _ | with_reducible refine Ext.set ?_ ?_ _ | with_reducible refine Ext.drew ?_ | with_reducible refine Ext.drewN ?_ _ | with_reducible refine Ext.trans ?_ (by assumption) | (dsimp only; omega))), 0, Nat.zero_le _, rfl, by rw [H0.out]; rfl, by rw [H0.out]; rfl⟩
  case round =>
    obtain ⟨hE, k, hk, rfl, rfl, rfl⟩ := hrel
    by_cases hlt : k < N
    · have HSk := hid (HS.out k)
      have HLk := hid (HLT.out k)
      have hk8 : k < 256 := by omega
      have HSPk := hid (fun W hE => HSP.out k hk8 W hE)
      have HFFk := hid (fun A1 c1 A2 c2 W => HFF.out k A1 c1 A2 c2 W hk8)
      clear HS HLT HSP HFF
      generalize FN k = o at *
      cases o with
      | none =>
        rw [fewS_none] at HSk
        go_wp2_with (first
          | (go_at_call 111; refine (HBk.out _).mono ?_; rintro e w2 ⟨rfl, hsm⟩; obtain rfl := hsm.symm)
          | (go_at_call 129; refine (HSPk.out _ hE).mono ?_; rintro e w2 ⟨A1, c1, A2, c2, rfl, h1, h2, h3, h4, hE2⟩; have H1 := hid h1; have H2 := hid h2; have H3 := hid h3; have H4 := hid h4; clear h1 h2 h3 h4; refine Halt.mk ?_))
        unfold Halt
        have EW := hid (hE.trans hE2)
        go_wp2_with fail
        rw [HEG.out]
        refine Calls.mono (HFFk.out A1 c1 A2 c2 _ EW.out H1.out H2.out H3.out H4.out) ?_
        rintro e w3 ⟨rfl, hE3⟩
        have EZ := hid (EW.out.trans hE3)
        generalize P k = pk at *
        cases pk
        · go_wp2
          go_roundw
          case rel => exact ⟨EZ.out, k + 1, by omega, by go_num, by rw [HSk.out]; rfl, by rw [HSk.out]; rfl⟩
          case measure => simp [intOf]; omega
        · go_wp2
          go_roundw
          case rel => exact ⟨EZ.out, k + 1, by omega, by go_num, by rw [HSk.out]; rfl, by rw [HSk.out]; rfl⟩
          case measure => simp [intOf]; omega
      | some b =>
        have hb8 : b < 256 := by have := HLk.out b rfl; omega
        have HBk := hid (fun W => HBF.out k b hk8 hb8 W)
        clear HBF HLk
        obtain ⟨bb, hbb⟩ : ∃ bb, befB k b = bb := ⟨_, rfl⟩
        rw [hbb] at HBk
        cases bb
        · rw [fewS_no P hbb] at HSk
          clear hbb
          go_wp2_with (go_at_call 111; refine (HBk.out _).mono ?_; rintro e w2 ⟨rfl, hsm⟩; obtain rfl := hsm.symm)
          go_roundw
          case rel => exact ⟨hE, k + 1, by omega, by go_num, by rw [HSk.out]; rfl, by rw [HSk.out]; rfl⟩
          case measure => simp [intOf]; omega
        · rw [fewS_yes P hbb] at HSk
          clear hbb
          go_wp2_with (first
            | (go_at_call 111; refine (HBk.out _).mono ?_; rintro e w2 ⟨rfl, hsm⟩; obtain rfl := hsm.symm)
            | (go_at_call 129; refine (HSPk.out _ hE).mono ?_; rintro e w2 ⟨A1, c1, A2, c2, rfl, h1, h2, h3, h4, hE2⟩; have H1 := hid h1; have H2 := hid h2; have H3 := hid h3; have H4 := hid h4; clear h1 h2 h3 h4; refine Halt.mk ?_))
          unfold Halt
          have EW := hid (hE.trans hE2)
          go_wp2_with fail
          rw [HEG.out]
          refine Calls.mono (HFFk.out A1 c1 A2 c2 _ EW.out H1.out H2.out H3.out H4.out) ?_
          rintro e w3 ⟨rfl, hE3⟩
          have EZ := hid (EW.out.trans hE3)
          generalize P k = pk at *
          cases pk
          · go_wp2
            go_roundw
            case rel => exact ⟨EZ.out, k + 1, by omega, by go_num, by rw [HSk.out]; rfl, by rw [HSk.out]; rfl⟩
            case measure => simp [intOf]; omega
          · go_wp2
            go_roundw
            case rel => exact ⟨EZ.out, k + 1, by omega, by go_num, by rw [HSk.out]; rfl, by rw [HSk.out]; rfl⟩
            case measure => simp [intOf]; omega
    · obtain rfl : k = N := by omega
      go_wp2
      go_ret2
      exact ⟨rfl, hE⟩
end Go.Proofs.YtggggnjibedgaaaGreat
/- Whether no two posts can tilt too much: the code. -/
set_option linter.unusedSimpArgs false
set_option linter.unusedVariables false
namespace Go.Proofs.YtggggnjibedgaaaGreat
open Go.RowKit
set_option maxHeartbeats 1000000 in
theorem apart_any (a b : Po) (h : (0 ≤ a.sl ∧ a.sl ≤ 1000 ∧ 0 ≤ a.sh ∧ a.sh ≤ 1000) ∧ (0 ≤ b.sl ∧ b.sl ≤ 1000 ∧ 0 ≤ b.sh ∧ b.sh ≤ 1000)) (w : World) :
    Calls Tryz.prog 127 #[a.val, b.val] w fun e w' => e = .returned (.int .i64 (apartN a b)) ∧ Ext w w' := by
  unfold apartN Po.val
  obtain ⟨ap, al, ah⟩ := a
  obtain ⟨bp, bl, bh⟩ := b
  dsimp only at *
  have h1 : IntKind.i64.wrap (ah - bl) = ah - bl := IntWalk.i64_in _ (by omega)
  have h2 : IntKind.i64.wrap (bh - al) = bh - al := IntWalk.i64_in _ (by omega)
  go_enter Tryz.func127, Tryz.ntmps127
  go_wp2
  all_goals (go_ret; exact ⟨ret_int (by omega), by (repeat' (first | with_reducible assumption | with_reducible exact Ext.refl _ | with_reducible refine Ext.alloc ?_ _ | with_reducible refine Ext.set ?_ ?_ _ | with_reducible refine Ext.drew ?_ | with_reducible refine Ext.drewN ?_ _ | with_reducible refine Ext.trans ?_ (by assumption) | (dsimp only; omega)))⟩)
theorem levB_step (ps : List Po) (lim yrs : Int) (k : Nat) (h : k < ps.length) (hb : ((List.range k).all fun j => !tiltB lim yrs (ps.getD j zeroPo) (ps.getD k zeroPo)) = false) : levB ps lim yrs = false := by
  unfold levB
  rw [List.all_eq_false]
  exact ⟨k, List.mem_range.2 h, by rw [hb]; decide⟩
def levK (ps : List Po) (lim yrs : Int) (k : Nat) : Bool := (List.range k).all fun i => (List.range i).all fun j => !tiltB lim yrs (ps.getD j zeroPo) (ps.getD i zeroPo)
def tilK (ps : List Po) (lim yrs : Int) (i k : Nat) : Bool := (List.range k).all fun j => !tiltB lim yrs (ps.getD j zeroPo) (ps.getD i zeroPo)
theorem levK_succ (ps : List Po) (lim yrs : Int) (k : Nat) : levK ps lim yrs (k + 1) = (levK ps lim yrs k && tilK ps lim yrs k k) := by
  unfold levK tilK; rw [List.range_succ, List.all_append]; simp
theorem tilK_succ (ps : List Po) (lim yrs : Int) (i k : Nat) : tilK ps lim yrs i (k + 1) = (tilK ps lim yrs i k && !tiltB lim yrs (ps.getD k zeroPo) (ps.getD i zeroPo)) := by
  unfold tilK; rw [List.range_succ, List.all_append]; simp
theorem levB_no (ps : List Po) (lim yrs : Int) (i j : Nat) (hi : i < ps.length) (hj : j < i) (h : tiltB lim yrs (ps.getD j zeroPo) (ps.getD i zeroPo) = true) : levB ps lim yrs = false := by
  refine levB_step ps lim yrs i hi ?_
  rw [List.all_eq_false]
  exact ⟨j, List.mem_range.2 hj, by rw [h]; decide⟩
def PoOk (p : Po) : Prop := (0 ≤ p.pos ∧ p.pos ≤ 1000000) ∧ (0 ≤ p.sl ∧ p.sl ≤ 1000) ∧ (p.sl ≤ p.sh ∧ p.sh ≤ 1000)
set_option maxRecDepth 100000 in
set_option maxHeartbeats 4000000 in
theorem isLevel_any (ps : List Po) (lim yrs : Int) (A : Option Addr) (n c : Nat) (hn : ps.length = n) (hm : n ≤ 1000) (hc : n ≤ c) (hp : ∀ p ∈ ps, PoOk p) (hl : 0 ≤ lim ∧ lim ≤ 10000) (hy : 0 ≤ yrs ∧ yrs ≤ 10000) (w : World) (hx : PosAt w A ps) :
    Calls Tryz.prog 91 #[.slice A n c, .int .i64 lim, .int .i64 yrs] w fun e w' => e = .returned (.bool (levB ps lim yrs)) ∧ Ext w w' := by
  have HX := hid hx
  have HN := hid hn
  have HP := hid (fun k (h : k < n) => hp (ps.getD k zeroPo) (mem_at ps zeroPo k (by rw [hn]; exact h)))
  have HA := hid (fun a b h W => apart_any a b h W)
  have HL := hid (fun k => levK_succ ps lim yrs k)
  have HT := hid (fun i k => tilK_succ ps lim yrs i k)
  have HNO := hid (fun i j (hi : i < n) hj h => levB_no ps lim yrs i j (by rw [hn]; exact hi) hj h)
  have HEND := hid (show levK ps lim yrs n = levB ps lim yrs by rw [← hn]; rfl)
  have HL0 := hid (show levK ps lim yrs 0 = true from rfl)
  have HT0 := hid (fun i => show tilK ps lim yrs i 0 = true from rfl)
  clear hx hn hp
  obtain ⟨LB, hLB⟩ : ∃ LB, levB ps lim yrs = LB := ⟨_, rfl⟩
  rw [hLB] at HEND HNO ⊢
  clear hLB
  go_enter Tryz.func91, Tryz.ntmps91
  go_wp2
  go_loopw [13] (fun i wr => Ext w wr ∧ ∃ k : Nat, k ≤ n ∧ i = .int .i64 k ∧ Hid (levK ps lim yrs k = true)) (fun i _ => n - (intOf i).toNat)
  case atStart => exact ⟨by (repeat' (first | with_reducible assumption | with_reducible exact Ext.refl _ | with_reducible refine Ext.alloc ?_ _ | with_reducible refine Ext.set ?_ ?_ _ | with_reducible refine Ext.drew ?_ | with_reducible refine Ext.drewN ?_ _ | with_reducible refine Ext.trans ?_ (by assumption) | (dsimp only; omega))), 0, Nat.zero_le _, rfl, HL0⟩
  case round =>
    obtain ⟨hE, k, hk, rfl, HK⟩ := hrel
    by_cases hlt : k < n
    · obtain ⟨b, off, rfl, hb, d0, d1, d2⟩ := HX.out.at_ HN.out hlt
      have HPk := hid (HP.out k hlt)
      have hkc : k ≤ c := by omega
      obtain ⟨r, hr⟩ : ∃ r, ps.getD k zeroPo = r := ⟨_, rfl⟩
      rw [hr] at d0 d1 d2 HPk
      have HR := hid hr
      clear hr
      obtain ⟨wo, hwo⟩ : ∃ wo, wo = wr := ⟨_, rfl⟩
      have hb' := Nat.lt_of_lt_of_le hb hE.size
      replace d0 := (hE.cell (p := ⟨b, _, none⟩) hb).trans d0
      replace d1 := (hE.cell (p := ⟨b, _, none⟩) hb).trans d1
      replace d2 := (hE.cell (p := ⟨b, _, none⟩) hb).trans d2
      have HTk := hid (fun j => HT.out k j)
      have HT0k := hid (HT0.out k)
      have HNOk := hid (fun j hj h => HNO.out k j hlt hj h)
      have HLk := hid (HL.out k)
      rw [HR.out] at HTk HNOk
      have BR := hid (show Blk (wr.alloc (.cells #[.int .i64 r.pos, .int .i64 r.sl, .int .i64 r.sh] 95)) wr.heap.size 95 #[.int .i64 r.pos, .int .i64 r.sl, .int .i64 r.sh] from blk_last _ _)
      have EB := hid (ext_alloc1 wr (.cells #[.int .i64 r.pos, .int .i64 r.sl, .int .i64 r.sh] 95))
      clear HT HT0 HNO HL HR
      go_wp2
      generalize tilK ps lim yrs k = TK at *
      go_loopw [22] (fun i wx => Ext wr wx ∧ Hid (Blk wx wr.heap.size 95 #[.int .i64 r.pos, .int .i64 r.sl, .int .i64 r.sh]) ∧ ∃ j : Nat, j ≤ k ∧ i = .int .i64 j ∧ Hid (TK j = true)) (fun i _ => k - (intOf i).toNat)
      case atStart => exact ⟨EB.out, BR, 0, Nat.zero_le _, rfl, HT0k⟩
      case round =>
        subst hwo
        obtain ⟨hE2, BX, j, hj, rfl, HJ⟩ := hrel
        have hEw := hE.trans hE2
        by_cases hlt2 : j < k
        · obtain ⟨b2, off2, he2, hb2, e0, e1, e2⟩ := HX.out.at_ HN.out (show j < n by omega)
          cases he2
          have HPj := hid (HP.out j (by omega))
          have HTj := hid (HTk.out j)
          have HNj := hid (HNOk.out j hlt2)
          clear HTk HNOk HP HX
          obtain ⟨l, hl'⟩ : ∃ l, ps.getD j zeroPo = l := ⟨_, rfl⟩
          rw [hl'] at e0 e1 e2 HPj HTj HNj
          clear hl'
          have hb3 := Nat.lt_of_lt_of_le hb2 hEw.size
          replace e0 := (hEw.cell (p := ⟨b, _, none⟩) hb2).trans e0
          replace e1 := (hEw.cell (p := ⟨b, _, none⟩) hb2).trans e1
          replace e2 := (hEw.cell (p := ⟨b, _, none⟩) hb2).trans e2
          have HAl := hid (fun W => HA.out l r (by have := HPj.out; have := HPk.out; unfold PoOk at *; omega) W)
          unfold Po.val at HAl
          have q1 : 0 ≤ apartN l r ∧ apartN l r ≤ 1000 := by
            have := HPj.out; have := HPk.out; unfold PoOk apartN at *; omega
          have q2 : -1000000 ≤ r.pos - l.pos ∧ r.pos - l.pos ≤ 1000000 := by
            have := HPj.out; have := HPk.out; unfold PoOk at *; omega
          have hta : tiltB lim yrs l r = decide (1000 * yrs * apartN l r > lim * (r.pos - l.pos)) := rfl
          rw [hta] at HTj HNj
          clear hta HA
          generalize apartN l r = ap at *
          obtain ⟨lp, ls, lh⟩ := l
          obtain ⟨rp, rs, rh⟩ := r
          dsimp only at *
          have hlk : (j : Int) < (k : Int) := by omega
          have m1 : IntKind.i64.wrap (1000 * yrs) = 1000 * yrs := IntWalk.i64_in _ (by omega)
          have p1 : 0 ≤ 1000 * yrs * ap ∧ 1000 * yrs * ap ≤ 10000000000 := ⟨Int.mul_nonneg (by omega) q1.1, by
            have := Int.mul_le_mul (show 1000 * yrs ≤ 10000000 by omega) q1.2 q1.1 (by omega : (0:Int) ≤ 10000000); omega⟩
          have m2 : IntKind.i64.wrap (1000 * yrs * ap) = 1000 * yrs * ap := IntWalk.i64_in _ (by omega)
          have m3 : IntKind.i64.wrap (rp - lp) = rp - lp := IntWalk.i64_in _ (by omega)
          have p2 : -10000000000 ≤ lim * (rp - lp) ∧ lim * (rp - lp) ≤ 10000000000 := by
            have a1 := Int.mul_le_mul_of_nonneg_left q2.1 hl.1
            have a2 := Int.mul_le_mul_of_nonneg_left q2.2 hl.1
            generalize lim * (rp - lp) = z at *
            omega
          have m4 : IntKind.i64.wrap (lim * (rp - lp)) = lim * (rp - lp) := IntWalk.i64_in _ (by omega)
          obtain ⟨x0, x1, x2⟩ : _ ∧ _ ∧ _ := ⟨BX.out.cell 0, BX.out.cell 1, BX.out.cell 2⟩
          have xz := BX.out.lt
          simp only [List.getElem?_toArray, List.getElem?_cons_zero, List.getElem?_cons_succ] at x0 x1 x2
          clear d0 d1 d2 q1 q2
          go_wp2_with fail
          refine wp_absW (fun X => Blk X wr.heap.size 95 #[.int .i64 lp, .int .i64 ls, .int .i64 lh] ∧ Ext wr X) ⟨blk_last _ _, by (repeat' (first | with_reducible assumption | with_reducible exact Ext.refl _ | with_reducible refine Ext.alloc ?_ _ | with_reducible refine Ext.set ?_ ?_ _ | with_reducible refine Ext.drew ?_ | with_reducible refine Ext.drewN ?_ _ | with_reducible refine Ext.trans ?_ (by assumption) | (dsimp only; omega)))⟩ ?_
          rintro U ⟨u1, EU⟩
          obtain ⟨y0, y1, y2⟩ : _ ∧ _ ∧ _ := ⟨u1.cell 0, u1.cell 1, u1.cell 2⟩
          have yz := u1.lt
          have xz' := Nat.lt_of_lt_of_le xz EU.size
          simp only [List.getElem?_toArray, List.getElem?_cons_zero, List.getElem?_cons_succ] at y0 y1 y2
          replace x0 := (EU.cell (p := ⟨wo.heap.size, 0, none⟩) xz).trans x0
          replace x1 := (EU.cell (p := ⟨wo.heap.size, 1, none⟩) xz).trans x1
          replace x2 := (EU.cell (p := ⟨wo.heap.size, 2, none⟩) xz).trans x2
          have HEU := hid EU
          clear EU u1 e0 e1 e2
          refine wp_region_held_drew (S := fun w' => (∀ b o, b < U.heap.size → w'.cell? ⟨b, o, none⟩ = U.cell? ⟨b, o, none⟩) ∧ U.heap.size ≤ w'.heap.size ∧ Ext U w') (by kernel_rfl) ?hS0 (fun hHeld => ?_)
          case hS0 => exact sK (Ext.drew (Ext.refl _))
          have X0 : Ext U U.drew := Ext.drew (Ext.refl U)
          refine tk1 (i := 0) (v := ?v0a) rfl ?y0a ?r0a
          case y0a => (intro w' hSw; (try dsimp only at hSw); go_simp; (try with_reducible rfl))
          try simp only [Act.put, sq1, sq2, sq3, sq4, sq5, sq6]
          refine tk1 (i := 1) (v := ?v1a) rfl ?y1a ?r1a
          case y1a => (intro w' hSw; (try dsimp only at hSw); go_simp; (try with_reducible rfl))
          try simp only [Act.put, sq1, sq2, sq3, sq4, sq5, sq6]
          refine tk1 (i := 2) (v := ?v2a) rfl ?y2a ?r2a
          case y2a => (intro w' hSw; (try dsimp only at hSw); go_simp; (try with_reducible rfl))
          try simp only [Act.put, sq1, sq2, sq3, sq4, sq5, sq6]
          refine tk1 (i := 3) (v := ?v3a) rfl ?y3a ?r3a
          case y3a => (intro w' hSw; (try dsimp only at hSw); go_simp; (try with_reducible rfl))
          try simp only [Act.put, sq1, sq2, sq3, sq4, sq5, sq6]
          refine tk1 (i := 6) (v := ?v6a) rfl ?y6a ?r6a
          case y6a => (intro w' hSw; (try dsimp only at hSw); go_simp; (try with_reducible rfl))
          try simp only [Act.put, sq1, sq2, sq3, sq4, sq5, sq6]
          refine tk1 (i := 7) (v := ?v7a) rfl ?y7a ?r7a
          case y7a => (intro w' hSw; (try dsimp only at hSw); go_simp; (try with_reducible rfl))
          try simp only [Act.put, sq1, sq2, sq3, sq4, sq5, sq6]
          refine tk1 (i := 8) (v := ?v8a) rfl ?y8a ?r8a
          case y8a => (intro w' hSw; (try dsimp only at hSw); go_simp; (try with_reducible rfl))
          try simp only [Act.put, sq1, sq2, sq3, sq4, sq5, sq6]
          refine tk1 (i := 9) (v := ?v9a) rfl ?y9a ?r9a
          case y9a => (intro w' hSw; (try dsimp only at hSw); go_simp; (try with_reducible rfl))
          try simp only [Act.put, sq1, sq2, sq3, sq4, sq5, sq6]
          refine tk1 (i := 10) (v := ?v10a) rfl ?y10a ?r10a
          case y10a => (intro w' hSw; (try dsimp only at hSw); go_simp; (try with_reducible rfl))
          try simp only [Act.put, sq1, sq2, sq3, sq4, sq5, sq6]
          refine tk1 (i := 11) (v := ?v11a) rfl ?y11a ?r11a
          case y11a => (intro w' hSw; (try dsimp only at hSw); go_simp; (try with_reducible rfl))
          try simp only [Act.put, sq1, sq2, sq3, sq4, sq5, sq6]
          refine tk1 (i := 12) (v := ?v12a) rfl ?y12a ?r12a
          case y12a => (intro w' hSw; (try dsimp only at hSw); go_simp; (try with_reducible rfl))
          try simp only [Act.put, sq1, sq2, sq3, sq4, sq5, sq6]
          refine wpAnyH_ready (rs := [4]) (by kernel_rfl) (by simp) ?_
          refine AllReadyH.cons (o := _) rfl (fun K hK => ?_) AllReadyH.nil
          go_simp
          refine Calls.mono (HAl.out _) ?_
          rintro e w2 ⟨rfl, hE3⟩
          dsimp only
          have X2 := X0.trans hE3
          clear hHeld
          refine hK.out _ _ (sK X2) (fun hHeld => ?_)
          clear hK K
          try simp only [Act.put, sq1, sq2, sq3, sq4, sq5, sq6]
          refine tk1 (i := 5) (v := ?v5b) rfl ?y5b ?r5b
          case y5b => (intro w' hSw; (try dsimp only at hSw); go_simp; (try simp only [m2]); (try with_reducible rfl))
          try simp only [Act.put, sq1, sq2, sq3, sq4, sq5, sq6]
          refine tk1 (i := 13) (v := ?v13b) rfl ?y13b ?r13b
          case y13b => (intro w' hSw; (try dsimp only at hSw); go_simp; (try with_reducible rfl))
          try simp only [Act.put, sq1, sq2, sq3, sq4, sq5, sq6]
          clear hHeld
          refine wpAnyH_done (by kernel_rfl) ?_ _
          have EE := hid (hE2.trans (HEU.out.trans X2))
          have BX2 := hid (BX.out.ext (HEU.out.trans X2))
          clear HAl x0 x1 x2 y0 y1 y2 X0 X2 hE3
          by_cases hgt : 1000 * yrs * ap > lim * (rp - lp)
          · have HF := hid (HNj.out (decide_eq_true hgt))
            have hgt2 : lim * (rp - lp) < 1000 * yrs * ap := hgt
            go_wp2
            go_ret
            exact ⟨ret_bool HF.out.symm, hE.trans EE.out⟩
          · rw [decide_eq_false hgt] at HTj
            have HTT := hid (HTj.out.trans (by rw [HJ.out]))
            have hgt2 : ¬ lim * (rp - lp) < 1000 * yrs * ap := hgt
            go_wp2
            go_roundw
            case rel => exact ⟨EE.out, BX2, j + 1, by omega, by go_num, HTT⟩
            case measure => simp [intOf]; omega
        · obtain rfl : j = k := by omega
          rw [HJ.out] at HLk
          clear d0 d1 d2
          go_wp2
          go_roundw
          case rel => exact ⟨hEw, j + 1, by omega, by go_num, hid (by rw [HLk.out, HK.out]; rfl)⟩
          case measure => simp [intOf]; omega
    · obtain rfl : k = n := by omega
      rw [HK.out] at HEND
      go_wp2
      go_ret
      exact ⟨ret_bool HEND.out, hE⟩
end Go.Proofs.YtggggnjibedgaaaGreat
