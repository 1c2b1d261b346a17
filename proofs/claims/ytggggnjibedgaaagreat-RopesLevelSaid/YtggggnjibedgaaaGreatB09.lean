/- The order of the ropes; the stable sort of nothing. -/
import Derived.Test.YtggggnjibedgaaaGreatB05
import Derived.Test.YtggggnjibedgaaaGreatB08
import Derived.Deep.MidRow
import Derived.Test.YtggggnjibedgaaaGreatB06
import Derived.Test.YtggggnjibedgaaaGreatB01
set_option linter.unusedSimpArgs false
set_option linter.unusedVariables false
namespace Go.Proofs.YtggggnjibedgaaaGreat
open Go.RowKit
set_option maxHeartbeats 2000000 in
theorem newOut1_any (q n3 rc : Nat) (rA : Option Addr) (ros : List Ro) (hn : ros.length = n3) (hl : ∀ r ∈ ros, 0 ≤ r.len ∧ r.len ≤ 1000) (x y : Nat) (hx : x < n3) (hy : y < n3) (w : World) (hq : q < w.heap.size) (c9 : w.cell? ⟨q, 9, none⟩ = some (.slice rA n3 rc)) (hr : RosAt w rA ros) :
    Calls Tryz.prog 149 #[.int .i64 x, .int .i64 y, .pointer (some ⟨q, 0, none⟩)] w fun e w' => e = .returned (.int .i64 ((ros.getD y zeroRo).len - (ros.getD x zeroRo).len)) ∧ ∃ k, w' = w.drewN k := by
  obtain ⟨b, off, rfl, hb, A1, d1, -, -, e1, -⟩ := hr.at_ hn hx
  obtain ⟨b', off', he', hb', A2, d2, -, -, e2, -⟩ := hr.at_ hn hy
  cases he'
  have bx := hl _ (mem_at ros zeroRo x (by omega))
  have by' := hl _ (mem_at ros zeroRo y (by omega))
  clear hr hl
  generalize (ros.getD x zeroRo).len = dx at *
  generalize (ros.getD y zeroRo).len = dy at *
  have hw : IntKind.i64.wrap (dy - dx) = dy - dx := IntWalk.i64_in _ (by omega)
  have hx1 : (x : Int) < (n3 : Int) := by omega
  have hy1 : (y : Int) < (n3 : Int) := by omega
  go_enter Tryz.func149, Tryz.ntmps149
  go_wp2_with fail
  refine wp_region_held_drew (S := fun w' => (∀ b o, b < w.heap.size → w'.cell? ⟨b, o, none⟩ = w.cell? ⟨b, o, none⟩) ∧ w.heap.size ≤ w'.heap.size ∧ Ext w w') (by kernel_rfl) ?hS0 (fun hHeld => ?_)
  case hS0 => exact sK (Ext.drew (Ext.refl _))
  have X0 : Ext w w.drew := Ext.drew (Ext.refl w)
  refine tk1 (i := 0) (v := ?v0a) rfl ?y0a ?r0a
  case y0a => (intro w' hSw; (try dsimp only at hSw); go_simp; (try with_reducible rfl))
  try simp only [Act.put, sq1, sq2, sq3, sq4, sq5, sq6]
  refine tk1 (i := 1) (v := ?v1a) rfl ?y1a ?r1a
  case y1a => (intro w' hSw; (try dsimp only at hSw); go_simp; (try with_reducible rfl))
  try simp only [Act.put, sq1, sq2, sq3, sq4, sq5, sq6]
  refine tk1 (i := 2) (v := ?v2a) rfl ?y2a ?r2a
  case y2a => (intro w' hSw; (try dsimp only at hSw); go_simp; (try with_reducible rfl))
  try simp only [Act.put, sq1, sq2, sq3, sq4, sq5, sq6]
  refine tk1 (i := 3) (v := ?v3a) rfl ?y3a ?r3a
  case y3a => (intro w' hSw; (try dsimp only at hSw); go_simp; (try with_reducible rfl))
  try simp only [Act.put, sq1, sq2, sq3, sq4, sq5, sq6]
  refine tk1 (i := 4) (v := ?v4a) rfl ?y4a ?r4a
  case y4a => (intro w' hSw; (try dsimp only at hSw); go_simp; (try with_reducible rfl))
  try simp only [Act.put, sq1, sq2, sq3, sq4, sq5, sq6]
  refine tk1 (i := 5) (v := ?v5a) rfl ?y5a ?r5a
  case y5a => (intro w' hSw; (try dsimp only at hSw); go_simp; (try with_reducible rfl))
  try simp only [Act.put, sq1, sq2, sq3, sq4, sq5, sq6]
  refine tk1 (i := 6) (v := ?v6a) rfl ?y6a ?r6a
  case y6a => (intro w' hSw; (try dsimp only at hSw); go_simp; (try with_reducible rfl))
  try simp only [Act.put, sq1, sq2, sq3, sq4, sq5, sq6]
  refine tk1 (i := 7) (v := ?v7a) rfl ?y7a ?r7a
  case y7a => (intro w' hSw; (try dsimp only at hSw); go_simp; (try with_reducible rfl))
  try simp only [Act.put, sq1, sq2, sq3, sq4, sq5, sq6]
  refine tk1 (i := 8) (v := ?v8a) rfl ?y8a ?r8a
  case y8a => (intro w' hSw; (try dsimp only at hSw); go_simp; (try with_reducible rfl))
  try simp only [Act.put, sq1, sq2, sq3, sq4, sq5, sq6]
  refine tk1 (i := 9) (v := ?v9a) rfl ?y9a ?r9a
  case y9a => (intro w' hSw; (try dsimp only at hSw); go_simp; (try with_reducible rfl))
  try simp only [Act.put, sq1, sq2, sq3, sq4, sq5, sq6]
  refine tk1 (i := 10) (v := ?v10a) rfl ?y10a ?r10a
  case y10a => (intro w' hSw; (try dsimp only at hSw); go_simp; (try with_reducible rfl))
  try simp only [Act.put, sq1, sq2, sq3, sq4, sq5, sq6]
  refine tk1 (i := 11) (v := ?v11a) rfl ?y11a ?r11a
  case y11a => (intro w' hSw; (try dsimp only at hSw); go_simp; (try with_reducible rfl))
  try simp only [Act.put, sq1, sq2, sq3, sq4, sq5, sq6]
  refine tk1 (i := 12) (v := ?v12a) rfl ?y12a ?r12a
  case y12a => (intro w' hSw; (try dsimp only at hSw); go_simp; (try with_reducible rfl))
  try simp only [Act.put, sq1, sq2, sq3, sq4, sq5, sq6]
  refine tk1 (i := 13) (v := ?v13a) rfl ?y13a ?r13a
  case y13a => (intro w' hSw; (try dsimp only at hSw); go_simp; (try with_reducible rfl))
  try simp only [Act.put, sq1, sq2, sq3, sq4, sq5, sq6]
  refine tk1 (i := 14) (v := ?v14b) rfl ?y14b ?r14b
  case y14b => (intro w' hSw; (try dsimp only at hSw); go_simp; (try simp only [hw]); (try with_reducible rfl))
  try simp only [Act.put, sq1, sq2, sq3, sq4, sq5, sq6]
  refine tk1 (i := 15) (v := ?v15b) rfl ?y15b ?r15b
  case y15b => (intro w' hSw; (try dsimp only at hSw); go_simp; (try with_reducible rfl))
  try simp only [Act.put, sq1, sq2, sq3, sq4, sq5, sq6]
  refine wpAnyH_done (by kernel_rfl) ?_ _
  clear hHeld
  go_wp2
  go_ret
  exact ⟨rfl, 1, rfl⟩
set_option maxRecDepth 100000 in
set_option maxHeartbeats 2000000 in
theorem stable_nil (A : Option Addr) (c : Nat) (v : Value) (w : World) :
    Calls Tryz.prog 148 #[.slice A 0 c, v] w fun e w' => e = .returned (.tuple #[]) ∧ w' = w := by
  have hi : ∀ W : World, Calls Tryz.prog 164 #[.slice A 0 c, .int .i64 0, .int .i64 0, v] W fun e w' => e = .returned (.tuple #[]) ∧ w' = W := by
    intro W
    go_enter Tryz.func164, Tryz.ntmps164
    go_wp2
    go_loopw [8] (fun u wr => u = .int .i64 1 ∧ wr = W) (fun _ _ => 0)
    case atStart => exact ⟨rfl, rfl⟩
    case round =>
      obtain ⟨rfl, hwr⟩ := hrel
      obtain rfl := hwr.symm
      clear hwr
      go_wp2
      go_end0
      exact ⟨rfl, rfl⟩
  have HI := hid hi
  clear hi
  have hs : ∀ W : World, Calls Tryz.prog 158 #[.slice A 0 c, .int .i64 0, v] W fun e w' => e = .returned (.tuple #[]) ∧ w' = W := by
    intro W
    go_enter Tryz.func158, Tryz.ntmps158
    go_wp2
    go_loopw [7, 8] (fun u v wr => u = .int .i64 0 ∧ v = .int .i64 20 ∧ wr = W) (fun _ _ _ => 0)
    case atStart => exact ⟨rfl, rfl, rfl⟩
    case round =>
      obtain ⟨rfl, rfl, hwr⟩ := hrel
      obtain rfl := hwr.symm
      clear hwr
      go_wp2_with (go_at_call 164; refine (HI.out _).mono ?_; rintro e w2 ⟨rfl, hsm⟩; obtain rfl := hsm.symm; clear hsm)
      go_loopw [6] (fun u wx => u = .int .i64 20 ∧ wx = W) (fun _ _ => 0)
      case atStart => exact ⟨rfl, rfl⟩
      case round =>
        obtain ⟨rfl, hwx⟩ := hrel
        obtain rfl := hwx.symm
        clear hwx
        go_wp2
        go_end0
        exact ⟨rfl, rfl⟩
  have HS := hid hs
  clear hs HI
  go_enter Tryz.func148, Tryz.ntmps148
  go_wp2_with (go_at_call 158; refine (HS.out _).mono ?_; rintro e w2 ⟨rfl, hsm⟩; obtain rfl := hsm.symm; clear hsm)
  go_end0
  exact ⟨rfl, rfl⟩
end Go.Proofs.YtggggnjibedgaaaGreat
/- A checked outing: the ropes that surely are fit, the longest first. -/
set_option linter.unusedSimpArgs false
set_option linter.unusedVariables false
namespace Go.Proofs.YtggggnjibedgaaaGreat
open Go.RowKit
def fitK (o : Ou) (k : Nat) : List Nat := (List.range k).filter fun i => sureB o.md (o.ros.getD i zeroRo) o.day
theorem fitK_succ (o : Ou) (k : Nat) : fitK o (k + 1) = if sureB o.md (o.ros.getD k zeroRo) o.day then fitK o k ++ [k] else fitK o k := by
  unfold fitK
  rw [List.range_succ, List.filter_append]
  generalize hb : sureB o.md (o.ros.getD k zeroRo) o.day = bb
  rw [List.filter_cons, hb]
  cases bb <;> simp
theorem fitK_len (o : Ou) (k : Nat) : (fitK o k).length ≤ k := by
  unfold fitK
  exact Nat.le_trans (List.length_filter_le _ _) (by simp)
theorem nI_snoc (xs : List Nat) (k : Nat) : nI (xs ++ [k]) = nI xs ++ [(k : Int)] := by unfold nI; simp
theorem grown_setCells {w : World} {b : Nat} : ∀ (vs : List Value) (o : Nat), w.grownBy (w.setCells b o vs) (some b) := by
  intro vs
  induction vs generalizing w with
  | nil => intro o; exact ⟨rfl, rfl, rfl, Nat.le_refl _, fun _ _ _ => rfl⟩
  | cons v r ih => intro o; exact (grown_set w ⟨b, o, none⟩ v).trans (ih (o + 1))
theorem ints_grown {W Z : World} {F : Option Addr} {L : List Int} {B : Nat} (h : IntsAt W F L) (hg : W.grownBy Z (some B)) (hne : L ≠ [] → ∀ b q sp, F = some ⟨b, q, sp⟩ → b ≠ B) : IntsAt Z F L := fun hL => by
  obtain ⟨b, off, hA, hb, hc⟩ := h hL
  have hbB := hne hL b off none hA
  have hk := hg.block b hb (by simp; exact hbB)
  refine ⟨b, off, hA, Nat.lt_of_lt_of_le hb hg.size, fun k hkk => ?_⟩
  rw [← hc k hkk]
  simp only [World.cell?, hk]
theorem infoOut : (Tryz.prog.info? 126).map (·.size) = some 11 := by kernel_rfl
set_option maxRecDepth 100000 in
set_option maxHeartbeats 8000000 in
theorem newOuting_any (o : Ou) (A : OA) (hm : mdB o.md = true) (hr : ∀ r ∈ o.ros, roB r = true) (hl : o.ros.length < 20) (w : World) (hx : OuAt w o A) :
    Calls Tryz.prog 117 #[o.val A] w fun e w' => ∃ F c, e = .returned (ouV o A F (fitS o).length c) ∧ IntsAt w' F (nI (fitS o)) ∧ Ext w w' ∧ (nI (fitS o) ≠ [] → ∀ b q sp, F = some ⟨b, q, sp⟩ → w.heap.size ≤ b) := by
  have HRX := hid hx.rs
  have HSF := hid (fun k (h : k < o.ros.length) (B : Option Addr) (d : Nat) (W : World) (hE : Ext w W) (hy : FlsAt W B (o.ros.getD k zeroRo).falls) =>
    isSurelyFit_any o.md (o.ros.getD k zeroRo) A.wA A.wc B d o.day hm (hr _ (mem_at o.ros zeroRo k h)) W (hx.ws.ext hE) hy)
  have HKS := hid (fun k => fitK_succ o k)
  have HKL := hid (fun k => fitK_len o k)
  have HLB := hid (fun (r : Ro) (hrm : r ∈ o.ros) => show 0 ≤ r.len ∧ r.len ≤ 1000 by have := (roB_parts (hr r hrm)).2.2.1; omega)
  have HFS := hid (show fitS o = sortM (lenR o) o.ros.length (fitL o) from rfl)
  have HFK := hid (show fitK o o.ros.length = fitL o from rfl)
  have HF0 := hid (show nI (fitK o 0) = [] from rfl)
  have HFB := hid (fun x (h : x ∈ fitL o) => List.mem_range.1 (List.mem_filter.1 h).1)
  have HLR := hid (fun i => show lenR o i = (o.ros.getD i zeroRo).len from rfl)
  have HSL := hid (show (fitS o).length = (fitL o).length from sortM_len _ _ _)
  clear hx hm hr
  unfold ouV Ou.val cordV at *
  generalize fitS o = FS at *
  generalize fitL o = FL at *
  generalize fitK o = FK at *
  generalize lenR o = LR at *
  obtain ⟨day, gra, sp, gds, cls, ⟨sh, us, be, ws⟩, ros⟩ := o
  obtain ⟨gA, gc, cA, cc, wA, wc, rA, rc⟩ := A
  dsimp only at *
  generalize gds.length = n1 at *
  generalize cls.length = n2 at *
  generalize ws.length = n4 at *
  obtain ⟨n3, hn3⟩ : ∃ n, ros.length = n := ⟨_, rfl⟩
  rw [hn3] at hl HSF HFK HFB HFS ⊢
  have HN3 := hid hn3
  clear hn3
  have Z := blks3 w (.cells #[.int .i64 day, .int .i64 gra, .int .i64 sp, .slice gA n1 gc, .slice cA n2 cc, .int .i64 sh, .int .i64 us, .int .i64 be, .slice wA n4 wc, .slice rA n3 rc] 53) (.cells #[.int .i64 0, .int .i64 0, .int .i64 0, .slice none 0 0, .slice none 0 0, .int .i64 0, .int .i64 0, .int .i64 0, .slice none 0 0, .slice none 0 0, .slice none 0 0] 126) (.cells #[.int .i64 day, .int .i64 gra, .int .i64 sp, .slice gA n1 gc, .slice cA n2 cc, .int .i64 sh, .int .i64 us, .int .i64 be, .slice wA n4 wc, .slice rA n3 rc, .slice none 0 0] 126)
  have Z2 := hid (show Blk _ _ _ _ from Z.2.1)
  have Z3 := hid (show Blk _ _ _ _ from Z.2.2)
  clear Z
  go_enter Tryz.func117, Tryz.ntmps117
  go_wp2
  go_loopw [12] (fun i wr => Ext w wr ∧ Hid (Blk wr (w.heap.size + 1) 126 #[.int .i64 0, .int .i64 0, .int .i64 0, .slice none 0 0, .slice none 0 0, .int .i64 0, .int .i64 0, .int .i64 0, .slice none 0 0, .slice none 0 0, .slice none 0 0]) ∧
      ∃ (k : Nat) (F : Option Addr) (c : Nat), k ≤ n3 ∧ i = .int .i64 k ∧ Hid (Blk wr (w.heap.size + 1 + 1) 126 #[.int .i64 day, .int .i64 gra, .int .i64 sp, .slice gA n1 gc, .slice cA n2 cc, .int .i64 sh, .int .i64 us, .int .i64 be, .slice wA n4 wc, .slice rA n3 rc, .slice F (FK k).length c]) ∧
        Hid (Ownl 3 1 gIn wr (w.heap.size + 1 + 1 + 1) (.slice F (FK k).length c) (nI (FK k)))) (fun i _ => n3 - (intOf i).toNat)
  case atStart =>
    have h0 : FK 0 = [] := by have := HF0.out; unfold nI at this; simpa using this
    exact ⟨by (repeat' (first | with_reducible assumption | with_reducible exact Ext.refl _ | with_reducible refine Ext.alloc ?_ _ | with_reducible refine Ext.set ?_ ?_ _ | with_reducible refine Ext.drew ?_ | with_reducible refine Ext.drewN ?_ _ | with_reducible refine Ext.trans ?_ (by assumption) | (dsimp only; omega))), Z2, 0, none, 0, Nat.zero_le _, rfl, by rw [h0]; exact Z3, by rw [h0]; exact hid (Ownl.nil _ _)⟩
  case round =>
    obtain ⟨hE, K2, k, F, c, hk, rfl, K3, HV⟩ := hrel
    clear Z2 Z3 HF0
    obtain ⟨x0, x1, x2, x3, x4, x5, x6, x7, x8, x9, x10⟩ : _ ∧ _ ∧ _ ∧ _ ∧ _ ∧ _ ∧ _ ∧ _ ∧ _ ∧ _ ∧ _ := ⟨K3.out.cell 0, K3.out.cell 1, K3.out.cell 2, K3.out.cell 3, K3.out.cell 4, K3.out.cell 5, K3.out.cell 6, K3.out.cell 7, K3.out.cell 8, K3.out.cell 9, K3.out.cell 10⟩
    have xz := K3.out.lt
    simp only [List.getElem?_toArray, List.getElem?_cons_zero, List.getElem?_cons_succ] at x0 x1 x2 x3 x4 x5 x6 x7 x8 x9 x10
    by_cases hlt : k < n3
    · obtain ⟨b, off, rfl, hb, FB, fd, l0, l1, l2, l3, hcap, hfl⟩ := (HRX.out.ext hE).at_ HN3.out hlt
      have HSFk := hid (HSF.out k hlt FB fd)
      have HSk := hid (HKS.out k)
      have hfk := HKL.out k
      have HFL := hid hfl
      clear hfl HSF HKS HKL HLB HFS HFK HFB HLR HSL HRX HN3
      generalize ros.getD k zeroRo = rr at *
      generalize sureB ⟨sh, us, be, ws⟩ rr day = SB at *
      obtain ⟨ma, fi, le, fs⟩ := rr
      dsimp only at *
      generalize fs.length = fn at *
      have EA := hid (ext_alloc1 wr (.cells #[.int .i64 ma, .int .i64 fi, .int .i64 le, .slice FB fn fd] 27))
      go_wp2_with fail
      refine (HSFk.out _ (hE.trans EA.out) (HFL.out.ext EA.out)).mono ?_
      rintro e w2 ⟨rfl, hE2⟩
      have X2 := EA.out.trans hE2
      have E2 := hid (hE.trans X2)
      have L2 := hid (show Blk w2 (w.heap.size + 1) 126 _ from K2.out.ext X2)
      have L3 := hid (show Blk w2 (w.heap.size + 1 + 1) 126 _ from K3.out.ext X2)
      have LV := hid (HV.out.ext X2)
      clear X2 hE2 K2 K3 HV EA HFL HSFk x0 x1 x2 x3 x4 x5 x6 x7 x8 x9 x10 xz l0 l1 l2 l3 hE
      cases SB
      · rw [if_neg (by decide)] at HSk
        go_wp2
        go_roundw
        case rel => exact ⟨E2.out, L2, k + 1, F, c, by omega, by go_num, by rw [HSk.out]; exact L3, by rw [HSk.out]; exact LV⟩
        case measure => simp [intOf]; omega
      · rw [if_pos rfl] at HSk
        have y10 := L3.out.cell 10
        have yf := L3.out.fro 10
        have yz := L3.out.lt
        have hw2 := E2.out.size
        simp only [List.getElem?_toArray, List.getElem?_cons_zero, List.getElem?_cons_succ] at y10
        generalize FK k = acc at *
        go_wp2_with (at_builtin; refine Halt.mk ?_)
        unfold Halt
        have BN := hid (show Blk (w2.alloc (.cells #[.int .i64 (k : Int)] 3)) w2.heap.size 3 #[.int .i64 (k : Int)] from blk_last _ _)
        have hnl := nI_len acc
        refine wpList_app1In _ rfl _ _ rfl (w.heap.size + 1 + 1 + 1) (.slice F acc.length c) (nI acc) rfl (LV.out.ext (ext_alloc1 _ _)) w2.heap.size (k : Int) rfl BN.out (by omega) (by simp; omega) ?_
        intro v4 w4 hO hg _
        have E4 := hid (LV.out.extApp E2.out (by omega) hg)
        have M2 := hid (LV.out.blkApp L2.out (by omega) hg)
        have M3 := hid (LV.out.blkApp L3.out (by omega) hg)
        obtain ⟨A4, c4, e4, -, -⟩ := ownIn hO
        rw [← nI_snoc] at hO e4
        rw [nI_len] at e4
        subst e4
        obtain ⟨a2, ha2⟩ : ∃ a2, acc ++ [k] = a2 := ⟨_, rfl⟩
        rw [ha2] at hO HSk ⊢
        have V4 := hid hO
        have z10 := M3.out.cell 10
        have zf := M3.out.fro 10
        have zz := M3.out.lt
        simp only [List.getElem?_toArray, List.getElem?_cons_zero, List.getElem?_cons_succ] at z10
        have N2 := hid (show Blk (w4.setCell ⟨w.heap.size + 1 + 1, 10, none⟩ (.slice A4 a2.length c4)) (w.heap.size + 1) 126 _ from M2.out.other (by dsimp only; omega) _)
        have N3 := hid (show Blk (w4.setCell ⟨w.heap.size + 1 + 1, 10, none⟩ (.slice A4 a2.length c4)) (w.heap.size + 1 + 1) 126 #[.int .i64 day, .int .i64 gra, .int .i64 sp, .slice gA n1 gc, .slice cA n2 cc, .int .i64 sh, .int .i64 us, .int .i64 be, .slice wA n4 wc, .slice (some ⟨b, off, none⟩) n3 rc, .slice A4 a2.length c4] from by
          have h := M3.out.setAt 10 (.slice A4 a2.length c4)
          simp only [List.setIfInBounds_toArray, List.set_cons_zero, List.set_cons_succ] at h
          exact h)
        have NV := hid (V4.out.other (p := ⟨w.heap.size + 1 + 1, 10, none⟩) (by dsimp only; omega) (.slice A4 a2.length c4))
        have NE := hid (E4.out.set (p := ⟨w.heap.size + 1 + 1, 10, none⟩) (by dsimp only; omega) (.slice A4 a2.length c4))
        clear hO hg LV L2 L3 M2 M3 V4 E4 BN y10 yf yz hw2 E2 hnl
        go_wp2
        go_roundw
        case rel => exact ⟨NE.out, N2, k + 1, A4, c4, by omega, by go_num, by rw [HSk.out]; exact N3, by rw [HSk.out]; exact NV⟩
        case measure => simp [intOf]; omega
    · obtain rfl : k = n3 := by omega
      have HFK2 := hid (show FL.length ≤ k ∧ k < 20 from ⟨by have := HKL.out k; rw [HFK.out] at this; exact this, hl⟩)
      rw [HFK.out] at K3 HV x10
      have HE := hid hE
      clear HSF HKS HKL HFK hE
      by_cases hnil : FL = []
      · subst hnil
        have hfs : FS = [] := List.length_eq_zero_iff.1 HSL.out
        subst hfs
        have hz : ([] : List Nat).length = 0 := rfl
        rw [hz] at K3 x10
        have T2 := K2
        have TI := hid (show IntsAt wr F (nI []) from fun h => absurd rfl h)
        go_wp2_with fail
        refine (stable_nil F c _ _).mono ?_
        rintro e w5 ⟨rfl, hsm⟩
        obtain rfl := hsm.symm
        clear hsm
        dsimp only
        iterate 9 (first | go_values | go_skip | go_guarded | go_step | go_upon)
        refine wpList_store_mid rfl 126 _ _ rfl (w.heap.size + 1) 0 #[.int .i64 day, .int .i64 gra, .int .i64 sp, .slice gA n1 gc, .slice cA n2 cc, .int .i64 sh, .int .i64 us, .int .i64 be, .slice wA n4 wc, .slice rA k rc, .slice F 0 c] rfl rfl (blk_there T2.out rfl) infoOut (one_of (by simp [Value.oneCell'])) ?_
        go_wp2
        have R := hid (T2.out.fill [.int .i64 day, .int .i64 gra, .int .i64 sp, .slice gA n1 gc, .slice cA n2 cc, .int .i64 sh, .int .i64 us, .int .i64 be, .slice wA n4 wc, .slice rA k rc, .slice F 0 c] 0)
        have RE := hid (ext_setCells (a := w) HE.out (b := w.heap.size + 1) (by omega) [.int .i64 day, .int .i64 gra, .int .i64 sp, .slice gA n1 gc, .slice cA n2 cc, .int .i64 sh, .int .i64 us, .int .i64 be, .slice wA n4 wc, .slice rA k rc, .slice F 0 c] 0)
        have RI := hid (show IntsAt (wr.setCells (w.heap.size + 1) 0 [.int .i64 day, .int .i64 gra, .int .i64 sp, .slice gA n1 gc, .slice cA n2 cc, .int .i64 sh, .int .i64 us, .int .i64 be, .slice wA n4 wc, .slice rA k rc, .slice F 0 c]) F (nI []) from fun h => absurd rfl h)
        obtain ⟨Z, hZ⟩ : ∃ Z, World.setCells wr (w.heap.size + 1) 0 [.int .i64 day, .int .i64 gra, .int .i64 sp, .slice gA n1 gc, .slice cA n2 cc, .int .i64 sh, .int .i64 us, .int .i64 be, .slice wA n4 wc, .slice rA k rc, .slice F 0 c] = Z := ⟨_, rfl⟩
        rw [hZ] at R RE RI
        have hZ2 : World.setCells wr (w.heap.size + 1) 0 (#[.int .i64 day, .int .i64 gra, .int .i64 sp, .slice gA n1 gc, .slice cA n2 cc, .int .i64 sh, .int .i64 us, .int .i64 be, .slice wA n4 wc, .slice rA k rc, .slice F 0 c] : Array Value).toList = Z := hZ
        first | rw [hZ2] | rw [hZ]
        clear hZ hZ2
        simp only [fillA, List.setIfInBounds_toArray, List.set_cons_zero, List.set_cons_succ] at R
        have hB := R.out
        have XE := RE.out
        have XI := RI.out
        obtain ⟨r0, r1, r2, r3, r4, r5, r6, r7, r8, r9, r10⟩ : _ ∧ _ ∧ _ ∧ _ ∧ _ ∧ _ ∧ _ ∧ _ ∧ _ ∧ _ ∧ _ := ⟨hB.cell 0, hB.cell 1, hB.cell 2, hB.cell 3, hB.cell 4, hB.cell 5, hB.cell 6, hB.cell 7, hB.cell 8, hB.cell 9, hB.cell 10⟩
        simp only [List.getElem?_toArray, List.getElem?_cons_zero, List.getElem?_cons_succ] at r0 r1 r2 r3 r4 r5 r6 r7 r8 r9 r10
        exact bodyPost_ret (v := .agg #[.int .i64 day, .int .i64 gra, .int .i64 sp, .slice gA n1 gc, .slice cA n2 cc, .int .i64 sh, .int .i64 us, .int .i64 be, .slice wA n4 wc, .slice rA k rc, .slice F 0 c]) (by simp [results, Tryz.results117, go_sem, r0, r1, r2, r3, r4, r5, r6, r7, r8, r9, r10]) rfl ⟨F, c, rfl, XI, XE, fun h => absurd rfl h⟩
      · have hpos : 0 < FL.length := List.length_pos_iff.2 hnil
        have hHV := HV.out
        rcases hHV.2 with ⟨e2, e3⟩ | ⟨b, cap, cur, a1, a2, a3, -⟩
        · rw [nI_len] at e3; omega
        rw [nI_len] at a1
        cases a1
        have hro := RowI.of_own (d := nI FL) (by rw [nI_len]; exact hHV)
        have hflen : FL.length < 20 := by
          have h1 := HFK2.out
          omega
        have hn0 : 0 < k := by
          have h1 := HFK2.out
          omega
        have HST := hid (stable_any 149 #[.pointer (some ⟨w.heap.size + 1 + 1, 0, none⟩)] (fun _ _ => by kernel_rfl) k hn0 LR FL HFB.out b c hflen wr hro
          (fun W hg x y hx hy => by
            have q3 := K3.out.grown hg (by simp; omega)
            have q9 := q3.cell 9
            simp only [List.getElem?_toArray, List.getElem?_cons_zero, List.getElem?_cons_succ] at q9
            have hq := newOut1_any (w.heap.size + 1 + 1) k rc rA ros HN3.out HLB.out x y hx hy W q3.lt q9 (HRX.out.ext (Below.grown HE.out hg HE.out.size (fun j e => by injection e with e; subst e; omega)))
            rw [← HLR.out x, ← HLR.out y] at hq
            exact hq))
        rw [← HFS.out] at HST
        have ha2 := a2
        obtain ⟨nl, hnl⟩ : ∃ nl, FL.length = nl := ⟨_, rfl⟩
        rw [hnl] at HST K3 x10 HSL
        have HLN := hid HSL.out
        clear hro hHV a3 HV HFB HFS HLB HLR HN3 hnil hpos hflen hn0 HFK2 hnl
        go_wp2_with fail
        refine HST.out.mono ?_
        rintro e w5 ⟨rfl, hrow5, hg5⟩
        have T2 := hid (show Blk w5 (w.heap.size + 1) 126 _ from K2.out.grown hg5 (by simp; omega))
        have T3 := hid (show Blk w5 (w.heap.size + 1 + 1) 126 _ from K3.out.grown hg5 (by simp; omega))
        have TE := hid (show Ext w w5 from Below.grown HE.out hg5 HE.out.size (fun j e => by injection e with e; subst e; omega))
        have TI := hid hrow5
        have HBW := hid (show w.heap.size + 1 + 1 + 1 ≤ b from a2)
        clear hrow5 hg5 K2 K3 HE HST x0 x1 x2 x3 x4 x5 x6 x7 x8 x9 x10 xz
        obtain ⟨x0, x1, x2, x3, x4, x5, x6, x7, x8, x9, x10⟩ : _ ∧ _ ∧ _ ∧ _ ∧ _ ∧ _ ∧ _ ∧ _ ∧ _ ∧ _ ∧ _ := ⟨T3.out.cell 0, T3.out.cell 1, T3.out.cell 2, T3.out.cell 3, T3.out.cell 4, T3.out.cell 5, T3.out.cell 6, T3.out.cell 7, T3.out.cell 8, T3.out.cell 9, T3.out.cell 10⟩
        have xz := T3.out.lt
        simp only [List.getElem?_toArray, List.getElem?_cons_zero, List.getElem?_cons_succ] at x0 x1 x2 x3 x4 x5 x6 x7 x8 x9 x10
        dsimp only
        iterate 9 (first | go_values | go_skip | go_guarded | go_step | go_upon)
        refine wpList_store_mid rfl 126 _ _ rfl (w.heap.size + 1) 0 #[.int .i64 day, .int .i64 gra, .int .i64 sp, .slice gA n1 gc, .slice cA n2 cc, .int .i64 sh, .int .i64 us, .int .i64 be, .slice wA n4 wc, .slice rA k rc, .slice (some ⟨b, 0, none⟩) nl c] rfl rfl (blk_there T2.out rfl) infoOut (one_of (by simp [Value.oneCell'])) ?_
        go_wp2
        have R := hid (T2.out.fill [.int .i64 day, .int .i64 gra, .int .i64 sp, .slice gA n1 gc, .slice cA n2 cc, .int .i64 sh, .int .i64 us, .int .i64 be, .slice wA n4 wc, .slice rA k rc, .slice (some ⟨b, 0, none⟩) nl c] 0)
        have RE := hid (ext_setCells (a := w) TE.out (b := w.heap.size + 1) (by omega) [.int .i64 day, .int .i64 gra, .int .i64 sp, .slice gA n1 gc, .slice cA n2 cc, .int .i64 sh, .int .i64 us, .int .i64 be, .slice wA n4 wc, .slice rA k rc, .slice (some ⟨b, 0, none⟩) nl c] 0)
        have RI := hid (show IntsAt (w5.setCells (w.heap.size + 1) 0 [.int .i64 day, .int .i64 gra, .int .i64 sp, .slice gA n1 gc, .slice cA n2 cc, .int .i64 sh, .int .i64 us, .int .i64 be, .slice wA n4 wc, .slice rA k rc, .slice (some ⟨b, 0, none⟩) nl c]) (some ⟨b, 0, none⟩) (nI FS) from (TI.out.grown (grown_setCells _ 0) (by have := HBW.out; simp; omega)).ints)
        obtain ⟨Z, hZ⟩ : ∃ Z, World.setCells w5 (w.heap.size + 1) 0 [.int .i64 day, .int .i64 gra, .int .i64 sp, .slice gA n1 gc, .slice cA n2 cc, .int .i64 sh, .int .i64 us, .int .i64 be, .slice wA n4 wc, .slice rA k rc, .slice (some ⟨b, 0, none⟩) nl c] = Z := ⟨_, rfl⟩
        rw [hZ] at R RE RI
        have hZ2 : World.setCells w5 (w.heap.size + 1) 0 (#[.int .i64 day, .int .i64 gra, .int .i64 sp, .slice gA n1 gc, .slice cA n2 cc, .int .i64 sh, .int .i64 us, .int .i64 be, .slice wA n4 wc, .slice rA k rc, .slice (some ⟨b, 0, none⟩) nl c] : Array Value).toList = Z := hZ
        first | rw [hZ2] | rw [hZ]
        clear hZ hZ2
        simp only [fillA, List.setIfInBounds_toArray, List.set_cons_zero, List.set_cons_succ] at R
        have hB := R.out
        have XE := RE.out
        have XI := RI.out
        obtain ⟨r0, r1, r2, r3, r4, r5, r6, r7, r8, r9, r10⟩ : _ ∧ _ ∧ _ ∧ _ ∧ _ ∧ _ ∧ _ ∧ _ ∧ _ ∧ _ ∧ _ := ⟨hB.cell 0, hB.cell 1, hB.cell 2, hB.cell 3, hB.cell 4, hB.cell 5, hB.cell 6, hB.cell 7, hB.cell 8, hB.cell 9, hB.cell 10⟩
        simp only [List.getElem?_toArray, List.getElem?_cons_zero, List.getElem?_cons_succ] at r0 r1 r2 r3 r4 r5 r6 r7 r8 r9 r10
        exact bodyPost_ret (v := .agg #[.int .i64 day, .int .i64 gra, .int .i64 sp, .slice gA n1 gc, .slice cA n2 cc, .int .i64 sh, .int .i64 us, .int .i64 be, .slice wA n4 wc, .slice rA k rc, .slice (some ⟨b, 0, none⟩) nl c]) (by simp [results, Tryz.results117, go_sem, r0, r1, r2, r3, r4, r5, r6, r7, r8, r9, r10]) rfl ⟨some ⟨b, 0, none⟩, c, by rw [HLN.out], XI, XE, fun _ b' q' sp' he => by cases he; have := HBW.out; omega⟩
end Go.Proofs.YtggggnjibedgaaaGreat
/- Which outings are valid: the code. -/
set_option linter.unusedSimpArgs false
set_option linter.unusedVariables false
namespace Go.Proofs.YtggggnjibedgaaaGreat
open Go.RowKit
set_option maxHeartbeats 1000000 in
theorem isGuide_any (x : Gd) (w : World) : Calls Tryz.prog 142 #[x.val] w fun e w' => e = .returned (.bool (gdB x)) ∧ Ext w w' := by
  unfold gdB Gd.val
  have HW := hid (fun a b c W => within_any a b c W)
  have HD := hid (fun a W => isDay_any a W)
  have HG := hid (fun a W => isGrade_any a W)
  obtain ⟨g, t, p⟩ := x
  dsimp only
  obtain ⟨b1, h1⟩ : ∃ b, inI g 1 6 = b := ⟨_, rfl⟩
  obtain ⟨b2, h2⟩ : ∃ b, inI t 0 99999 = b := ⟨_, rfl⟩
  obtain ⟨b3, h3⟩ : ∃ b, inI p 0 20 = b := ⟨_, rfl⟩
  rw [h1, h2, h3]
  cases b1
  case false => go_enter Tryz.func142, Tryz.ntmps142
                go_wp2_with (first
                  | (go_at_call 72; refine (HW.out _ _ _ _).mono ?_; rintro e w2 ⟨rfl, rfl⟩; simp only [h3])
                  | (go_at_call 136; refine (HD.out _ _).mono ?_; rintro e w2 ⟨rfl, rfl⟩; simp only [h2])
                  | (go_at_call 143; refine (HG.out _ _).mono ?_; rintro e w2 ⟨rfl, rfl⟩; simp only [h1]))
                go_ret
                exact ⟨ret_bool (by simp), by (repeat' (first | with_reducible assumption | with_reducible exact Ext.refl _ | with_reducible refine Ext.alloc ?_ _ | with_reducible refine Ext.set ?_ ?_ _ | with_reducible refine Ext.drew ?_ | with_reducible refine Ext.drewN ?_ _ | with_reducible refine Ext.trans ?_ (by assumption) | (dsimp only; omega)))⟩
  cases b2
  case false => go_enter Tryz.func142, Tryz.ntmps142
                go_wp2_with (first
                  | (go_at_call 72; refine (HW.out _ _ _ _).mono ?_; rintro e w2 ⟨rfl, rfl⟩; simp only [h3])
                  | (go_at_call 136; refine (HD.out _ _).mono ?_; rintro e w2 ⟨rfl, rfl⟩; simp only [h2])
                  | (go_at_call 143; refine (HG.out _ _).mono ?_; rintro e w2 ⟨rfl, rfl⟩; simp only [h1]))
                go_ret
                exact ⟨ret_bool (by simp), by (repeat' (first | with_reducible assumption | with_reducible exact Ext.refl _ | with_reducible refine Ext.alloc ?_ _ | with_reducible refine Ext.set ?_ ?_ _ | with_reducible refine Ext.drew ?_ | with_reducible refine Ext.drewN ?_ _ | with_reducible refine Ext.trans ?_ (by assumption) | (dsimp only; omega)))⟩
  go_enter Tryz.func142, Tryz.ntmps142
  go_wp2_with (first
    | (go_at_call 72; refine (HW.out _ _ _ _).mono ?_; rintro e w2 ⟨rfl, rfl⟩; simp only [h3])
    | (go_at_call 136; refine (HD.out _ _).mono ?_; rintro e w2 ⟨rfl, rfl⟩; simp only [h2])
    | (go_at_call 143; refine (HG.out _ _).mono ?_; rintro e w2 ⟨rfl, rfl⟩; simp only [h1]))
  go_ret
  exact ⟨ret_bool (by simp), by (repeat' (first | with_reducible assumption | with_reducible exact Ext.refl _ | with_reducible refine Ext.alloc ?_ _ | with_reducible refine Ext.set ?_ ?_ _ | with_reducible refine Ext.drew ?_ | with_reducible refine Ext.drewN ?_ _ | with_reducible refine Ext.trans ?_ (by assumption) | (dsimp only; omega)))⟩
set_option maxHeartbeats 1000000 in
theorem isClient_any (x : Int) (w : World) : Calls Tryz.prog 144 #[.int .i64 x] w fun e w' => e = .returned (.bool (clB x)) ∧ Ext w w' := by
  unfold clB
  have HW := hid (fun W => within_any x 1 20 W)
  go_enter Tryz.func144, Tryz.ntmps144
  go_wp2_with (go_at_call 72; refine (HW.out _).mono ?_; rintro e w2 ⟨rfl, rfl⟩)
  go_ret
  exact ⟨rfl, by (repeat' (first | with_reducible assumption | with_reducible exact Ext.refl _ | with_reducible refine Ext.alloc ?_ _ | with_reducible refine Ext.set ?_ ?_ _ | with_reducible refine Ext.drew ?_ | with_reducible refine Ext.drewN ?_ _ | with_reducible refine Ext.trans ?_ (by assumption) | (dsimp only; omega)))⟩
set_option maxHeartbeats 1000000 in
theorem isMade_any (x : Ro) (B : Option Addr) (d : Nat) (D : Int) (q : Nat) (w : World) (hq : q < w.heap.size) (c0 : w.cell? ⟨q, 0, none⟩ = some (.int .i64 D)) :
    Calls Tryz.prog 145 #[x.val B d, .pointer (some ⟨q, 0, none⟩)] w fun e w' => e = .returned (.bool (decide (x.made ≤ D))) ∧ Ext w w' := by
  unfold Ro.val
  obtain ⟨ma, fi, le, fs⟩ := x
  dsimp only
  generalize fs.length = k
  go_enter Tryz.func145, Tryz.ntmps145
  go_wp2
  all_goals (go_ret; exact ⟨ret_bool (by first | rfl | first | (simp [*]; done) | (simp [*]; omega)), by (repeat' (first | with_reducible assumption | with_reducible exact Ext.refl _ | with_reducible refine Ext.alloc ?_ _ | with_reducible refine Ext.set ?_ ?_ _ | with_reducible refine Ext.drew ?_ | with_reducible refine Ext.drewN ?_ _ | with_reducible refine Ext.trans ?_ (by assumption) | (dsimp only; omega)))⟩)
set_option maxHeartbeats 4000000 in
theorem isOuting_any (o : Ou) (A : OA) (h1 : o.gds.length ≤ 1000) (h2 : o.cls.length ≤ 1000) (h3 : o.ros.length ≤ 1000) (w : World) (hx : OuAt w o A) :
    Calls Tryz.prog 116 #[o.val A] w fun e w' => e = .returned (.bool (ouB o)) ∧ Ext w w' := by
  have HG := hid (fun (W : World) (hE : Ext w W) => allGd_any 142 #[] (fun _ _ => by kernel_rfl) o.gds gdB A.gA o.gds.length A.gc rfl (by omega) W (hx.gs.ext hE) (fun x W' _ _ => isGuide_any x W'))
  have HC := hid (fun (W : World) (hE : Ext w W) => allIn_any 144 #[] (fun _ _ => by kernel_rfl) o.cls clB A.cA o.cls.length A.cc rfl (by omega) W (hx.cs.ext hE) (fun x W' _ _ => isClient_any x W'))
  have HR := hid (fun (W : World) (hE : Ext w W) (z : w.heap.size < W.heap.size) (c0 : W.cell? ⟨w.heap.size, 0, none⟩ = some (.int .i64 o.day)) =>
    allRo_any 145 #[.pointer (some ⟨w.heap.size, 0, none⟩)] (fun _ _ => by kernel_rfl) o.ros (fun r => decide (r.made ≤ o.day)) A.rA o.ros.length A.rc rfl (by omega) W (hx.rs.ext hE)
      (fun x B d W' hW _ _ => isMade_any x B d o.day w.heap.size W' (Nat.lt_of_lt_of_le z hW.size) ((hW.cell (p := ⟨w.heap.size, 0, none⟩) z).trans c0)))
  have HW := hid (fun a b c W => within_any a b c W)
  have HD := hid (fun a W => isDay_any a W)
  have HGr := hid (fun a W => isGrade_any a W)
  unfold ouB Ou.val
  clear hx h1 h2 h3
  obtain ⟨day, gr, sp, gds, cls, ⟨sh, us, be, ws⟩, ros⟩ := o
  obtain ⟨gA, gc, cA, cc, wA, wc, rA, rc⟩ := A
  dsimp only at *
  generalize gds.all gdB = b5 at *
  generalize cls.all clB = b7 at *
  generalize (ros.all fun r => decide (r.made ≤ day)) = b9 at *
  generalize gds.length = n1 at *
  generalize cls.length = n2 at *
  generalize ros.length = n3 at *
  generalize ws.length = n4 at *
  obtain ⟨b1, h1⟩ : ∃ b, inI day 0 99999 = b := ⟨_, rfl⟩
  obtain ⟨b2, h2⟩ : ∃ b, inI gr 1 6 = b := ⟨_, rfl⟩
  obtain ⟨b3, h3⟩ : ∃ b, inI sp 1 100 = b := ⟨_, rfl⟩
  rw [h1, h2, h3]
  cases b1
  case false => go_enter Tryz.func116, Tryz.ntmps116
                go_wp2_with (first
                  | (go_at_call 72; refine (HW.out _ _ _ _).mono ?_; rintro e w2 ⟨rfl, rfl⟩; simp only [h3])
                  | (go_at_call 136; refine (HD.out _ _).mono ?_; rintro e w2 ⟨rfl, rfl⟩; simp only [h1])
                  | (go_at_call 143; refine (HGr.out _ _).mono ?_; rintro e w2 ⟨rfl, rfl⟩; simp only [h2])
                  | (go_at_call 146; refine (HG.out _ (by (repeat' (first | with_reducible assumption | with_reducible exact Ext.refl _ | with_reducible refine Ext.alloc ?_ _ | with_reducible refine Ext.set ?_ ?_ _ | with_reducible refine Ext.drew ?_ | with_reducible refine Ext.drewN ?_ _ | with_reducible refine Ext.trans ?_ (by assumption) | (dsimp only; omega))))).mono ?_; rintro e w2 ⟨rfl, hE⟩; (first | (have hK := KC.step (n := w.heap.size + 1) (by with_reducible assumption) hE) | (have hK := KC.step (KC.step (n := w.heap.size + 1) (by with_reducible assumption) (ext_alloc1 _ _)) hE) | (have hK := KC.step (KC.refl (n := w.heap.size + 1) (by simp)) hE)); have hC := hK.cell; have hF := hK.fro; have hX := hK.ext)
                  | (go_at_call 147; refine (HC.out _ (by (repeat' (first | with_reducible assumption | with_reducible exact Ext.refl _ | with_reducible refine Ext.alloc ?_ _ | with_reducible refine Ext.set ?_ ?_ _ | with_reducible refine Ext.drew ?_ | with_reducible refine Ext.drewN ?_ _ | with_reducible refine Ext.trans ?_ (by assumption) | (dsimp only; omega))))).mono ?_; rintro e w2 ⟨rfl, hE⟩; (first | (have hK := KC.step (n := w.heap.size + 1) (by with_reducible assumption) hE) | (have hK := KC.step (KC.step (n := w.heap.size + 1) (by with_reducible assumption) (ext_alloc1 _ _)) hE) | (have hK := KC.step (KC.refl (n := w.heap.size + 1) (by simp)) hE)); have hC := hK.cell; have hF := hK.fro; have hX := hK.ext)
                  | (go_at_call 115; refine (HR.out _ (by (repeat' (first | with_reducible assumption | with_reducible exact Ext.refl _ | with_reducible refine Ext.alloc ?_ _ | with_reducible refine Ext.set ?_ ?_ _ | with_reducible refine Ext.drew ?_ | with_reducible refine Ext.drewN ?_ _ | with_reducible refine Ext.trans ?_ (by assumption) | (dsimp only; omega)))) (by first | (have := hK.size; omega) | (simp; done) | (simp; omega)) (by first | (rw [hC _ _ (by omega)]; go_simp; done) | (go_simp; done))).mono ?_; rintro e w2 ⟨rfl, hE⟩; (first | (have hK := KC.step (n := w.heap.size + 1) (by with_reducible assumption) hE) | (have hK := KC.step (KC.step (n := w.heap.size + 1) (by with_reducible assumption) (ext_alloc1 _ _)) hE) | (have hK := KC.step (KC.refl (n := w.heap.size + 1) (by simp)) hE)); have hC := hK.cell; have hF := hK.fro; have hX := hK.ext))
                go_ret
                exact ⟨ret_bool (by simp [*]), by (repeat' (first | with_reducible assumption | with_reducible exact Ext.refl _ | with_reducible refine Ext.alloc ?_ _ | with_reducible refine Ext.set ?_ ?_ _ | with_reducible refine Ext.drew ?_ | with_reducible refine Ext.drewN ?_ _ | with_reducible refine Ext.trans ?_ (by assumption) | (dsimp only; omega)))⟩
  cases b2
  case false => go_enter Tryz.func116, Tryz.ntmps116
                go_wp2_with (first
                  | (go_at_call 72; refine (HW.out _ _ _ _).mono ?_; rintro e w2 ⟨rfl, rfl⟩; simp only [h3])
                  | (go_at_call 136; refine (HD.out _ _).mono ?_; rintro e w2 ⟨rfl, rfl⟩; simp only [h1])
                  | (go_at_call 143; refine (HGr.out _ _).mono ?_; rintro e w2 ⟨rfl, rfl⟩; simp only [h2])
                  | (go_at_call 146; refine (HG.out _ (by (repeat' (first | with_reducible assumption | with_reducible exact Ext.refl _ | with_reducible refine Ext.alloc ?_ _ | with_reducible refine Ext.set ?_ ?_ _ | with_reducible refine Ext.drew ?_ | with_reducible refine Ext.drewN ?_ _ | with_reducible refine Ext.trans ?_ (by assumption) | (dsimp only; omega))))).mono ?_; rintro e w2 ⟨rfl, hE⟩; (first | (have hK := KC.step (n := w.heap.size + 1) (by with_reducible assumption) hE) | (have hK := KC.step (KC.step (n := w.heap.size + 1) (by with_reducible assumption) (ext_alloc1 _ _)) hE) | (have hK := KC.step (KC.refl (n := w.heap.size + 1) (by simp)) hE)); have hC := hK.cell; have hF := hK.fro; have hX := hK.ext)
                  | (go_at_call 147; refine (HC.out _ (by (repeat' (first | with_reducible assumption | with_reducible exact Ext.refl _ | with_reducible refine Ext.alloc ?_ _ | with_reducible refine Ext.set ?_ ?_ _ | with_reducible refine Ext.drew ?_ | with_reducible refine Ext.drewN ?_ _ | with_reducible refine Ext.trans ?_ (by assumption) | (dsimp only; omega))))).mono ?_; rintro e w2 ⟨rfl, hE⟩; (first | (have hK := KC.step (n := w.heap.size + 1) (by with_reducible assumption) hE) | (have hK := KC.step (KC.step (n := w.heap.size + 1) (by with_reducible assumption) (ext_alloc1 _ _)) hE) | (have hK := KC.step (KC.refl (n := w.heap.size + 1) (by simp)) hE)); have hC := hK.cell; have hF := hK.fro; have hX := hK.ext)
                  | (go_at_call 115; refine (HR.out _ (by (repeat' (first | with_reducible assumption | with_reducible exact Ext.refl _ | with_reducible refine Ext.alloc ?_ _ | with_reducible refine Ext.set ?_ ?_ _ | with_reducible refine Ext.drew ?_ | with_reducible refine Ext.drewN ?_ _ | with_reducible refine Ext.trans ?_ (by assumption) | (dsimp only; omega)))) (by first | (have := hK.size; omega) | (simp; done) | (simp; omega)) (by first | (rw [hC _ _ (by omega)]; go_simp; done) | (go_simp; done))).mono ?_; rintro e w2 ⟨rfl, hE⟩; (first | (have hK := KC.step (n := w.heap.size + 1) (by with_reducible assumption) hE) | (have hK := KC.step (KC.step (n := w.heap.size + 1) (by with_reducible assumption) (ext_alloc1 _ _)) hE) | (have hK := KC.step (KC.refl (n := w.heap.size + 1) (by simp)) hE)); have hC := hK.cell; have hF := hK.fro; have hX := hK.ext))
                go_ret
                exact ⟨ret_bool (by simp [*]), by (repeat' (first | with_reducible assumption | with_reducible exact Ext.refl _ | with_reducible refine Ext.alloc ?_ _ | with_reducible refine Ext.set ?_ ?_ _ | with_reducible refine Ext.drew ?_ | with_reducible refine Ext.drewN ?_ _ | with_reducible refine Ext.trans ?_ (by assumption) | (dsimp only; omega)))⟩
  cases b3
  case false => go_enter Tryz.func116, Tryz.ntmps116
                go_wp2_with (first
                  | (go_at_call 72; refine (HW.out _ _ _ _).mono ?_; rintro e w2 ⟨rfl, rfl⟩; simp only [h3])
                  | (go_at_call 136; refine (HD.out _ _).mono ?_; rintro e w2 ⟨rfl, rfl⟩; simp only [h1])
                  | (go_at_call 143; refine (HGr.out _ _).mono ?_; rintro e w2 ⟨rfl, rfl⟩; simp only [h2])
                  | (go_at_call 146; refine (HG.out _ (by (repeat' (first | with_reducible assumption | with_reducible exact Ext.refl _ | with_reducible refine Ext.alloc ?_ _ | with_reducible refine Ext.set ?_ ?_ _ | with_reducible refine Ext.drew ?_ | with_reducible refine Ext.drewN ?_ _ | with_reducible refine Ext.trans ?_ (by assumption) | (dsimp only; omega))))).mono ?_; rintro e w2 ⟨rfl, hE⟩; (first | (have hK := KC.step (n := w.heap.size + 1) (by with_reducible assumption) hE) | (have hK := KC.step (KC.step (n := w.heap.size + 1) (by with_reducible assumption) (ext_alloc1 _ _)) hE) | (have hK := KC.step (KC.refl (n := w.heap.size + 1) (by simp)) hE)); have hC := hK.cell; have hF := hK.fro; have hX := hK.ext)
                  | (go_at_call 147; refine (HC.out _ (by (repeat' (first | with_reducible assumption | with_reducible exact Ext.refl _ | with_reducible refine Ext.alloc ?_ _ | with_reducible refine Ext.set ?_ ?_ _ | with_reducible refine Ext.drew ?_ | with_reducible refine Ext.drewN ?_ _ | with_reducible refine Ext.trans ?_ (by assumption) | (dsimp only; omega))))).mono ?_; rintro e w2 ⟨rfl, hE⟩; (first | (have hK := KC.step (n := w.heap.size + 1) (by with_reducible assumption) hE) | (have hK := KC.step (KC.step (n := w.heap.size + 1) (by with_reducible assumption) (ext_alloc1 _ _)) hE) | (have hK := KC.step (KC.refl (n := w.heap.size + 1) (by simp)) hE)); have hC := hK.cell; have hF := hK.fro; have hX := hK.ext)
                  | (go_at_call 115; refine (HR.out _ (by (repeat' (first | with_reducible assumption | with_reducible exact Ext.refl _ | with_reducible refine Ext.alloc ?_ _ | with_reducible refine Ext.set ?_ ?_ _ | with_reducible refine Ext.drew ?_ | with_reducible refine Ext.drewN ?_ _ | with_reducible refine Ext.trans ?_ (by assumption) | (dsimp only; omega)))) (by first | (have := hK.size; omega) | (simp; done) | (simp; omega)) (by first | (rw [hC _ _ (by omega)]; go_simp; done) | (go_simp; done))).mono ?_; rintro e w2 ⟨rfl, hE⟩; (first | (have hK := KC.step (n := w.heap.size + 1) (by with_reducible assumption) hE) | (have hK := KC.step (KC.step (n := w.heap.size + 1) (by with_reducible assumption) (ext_alloc1 _ _)) hE) | (have hK := KC.step (KC.refl (n := w.heap.size + 1) (by simp)) hE)); have hC := hK.cell; have hF := hK.fro; have hX := hK.ext))
                go_ret
                exact ⟨ret_bool (by simp [*]), by (repeat' (first | with_reducible assumption | with_reducible exact Ext.refl _ | with_reducible refine Ext.alloc ?_ _ | with_reducible refine Ext.set ?_ ?_ _ | with_reducible refine Ext.drew ?_ | with_reducible refine Ext.drewN ?_ _ | with_reducible refine Ext.trans ?_ (by assumption) | (dsimp only; omega)))⟩
  by_cases h4 : n1 ≤ 4
  case neg => go_enter Tryz.func116, Tryz.ntmps116
              go_wp2_with (first
                | (go_at_call 72; refine (HW.out _ _ _ _).mono ?_; rintro e w2 ⟨rfl, rfl⟩; simp only [h3])
                | (go_at_call 136; refine (HD.out _ _).mono ?_; rintro e w2 ⟨rfl, rfl⟩; simp only [h1])
                | (go_at_call 143; refine (HGr.out _ _).mono ?_; rintro e w2 ⟨rfl, rfl⟩; simp only [h2])
                | (go_at_call 146; refine (HG.out _ (by (repeat' (first | with_reducible assumption | with_reducible exact Ext.refl _ | with_reducible refine Ext.alloc ?_ _ | with_reducible refine Ext.set ?_ ?_ _ | with_reducible refine Ext.drew ?_ | with_reducible refine Ext.drewN ?_ _ | with_reducible refine Ext.trans ?_ (by assumption) | (dsimp only; omega))))).mono ?_; rintro e w2 ⟨rfl, hE⟩; (first | (have hK := KC.step (n := w.heap.size + 1) (by with_reducible assumption) hE) | (have hK := KC.step (KC.step (n := w.heap.size + 1) (by with_reducible assumption) (ext_alloc1 _ _)) hE) | (have hK := KC.step (KC.refl (n := w.heap.size + 1) (by simp)) hE)); have hC := hK.cell; have hF := hK.fro; have hX := hK.ext)
                | (go_at_call 147; refine (HC.out _ (by (repeat' (first | with_reducible assumption | with_reducible exact Ext.refl _ | with_reducible refine Ext.alloc ?_ _ | with_reducible refine Ext.set ?_ ?_ _ | with_reducible refine Ext.drew ?_ | with_reducible refine Ext.drewN ?_ _ | with_reducible refine Ext.trans ?_ (by assumption) | (dsimp only; omega))))).mono ?_; rintro e w2 ⟨rfl, hE⟩; (first | (have hK := KC.step (n := w.heap.size + 1) (by with_reducible assumption) hE) | (have hK := KC.step (KC.step (n := w.heap.size + 1) (by with_reducible assumption) (ext_alloc1 _ _)) hE) | (have hK := KC.step (KC.refl (n := w.heap.size + 1) (by simp)) hE)); have hC := hK.cell; have hF := hK.fro; have hX := hK.ext)
                | (go_at_call 115; refine (HR.out _ (by (repeat' (first | with_reducible assumption | with_reducible exact Ext.refl _ | with_reducible refine Ext.alloc ?_ _ | with_reducible refine Ext.set ?_ ?_ _ | with_reducible refine Ext.drew ?_ | with_reducible refine Ext.drewN ?_ _ | with_reducible refine Ext.trans ?_ (by assumption) | (dsimp only; omega)))) (by first | (have := hK.size; omega) | (simp; done) | (simp; omega)) (by first | (rw [hC _ _ (by omega)]; go_simp; done) | (go_simp; done))).mono ?_; rintro e w2 ⟨rfl, hE⟩; (first | (have hK := KC.step (n := w.heap.size + 1) (by with_reducible assumption) hE) | (have hK := KC.step (KC.step (n := w.heap.size + 1) (by with_reducible assumption) (ext_alloc1 _ _)) hE) | (have hK := KC.step (KC.refl (n := w.heap.size + 1) (by simp)) hE)); have hC := hK.cell; have hF := hK.fro; have hX := hK.ext))
              go_ret
              exact ⟨ret_bool (by simp [*]), by (repeat' (first | with_reducible assumption | with_reducible exact Ext.refl _ | with_reducible refine Ext.alloc ?_ _ | with_reducible refine Ext.set ?_ ?_ _ | with_reducible refine Ext.drew ?_ | with_reducible refine Ext.drewN ?_ _ | with_reducible refine Ext.trans ?_ (by assumption) | (dsimp only; omega)))⟩
  cases b5
  case false => go_enter Tryz.func116, Tryz.ntmps116
                go_wp2_with (first
                  | (go_at_call 72; refine (HW.out _ _ _ _).mono ?_; rintro e w2 ⟨rfl, rfl⟩; simp only [h3])
                  | (go_at_call 136; refine (HD.out _ _).mono ?_; rintro e w2 ⟨rfl, rfl⟩; simp only [h1])
                  | (go_at_call 143; refine (HGr.out _ _).mono ?_; rintro e w2 ⟨rfl, rfl⟩; simp only [h2])
                  | (go_at_call 146; refine (HG.out _ (by (repeat' (first | with_reducible assumption | with_reducible exact Ext.refl _ | with_reducible refine Ext.alloc ?_ _ | with_reducible refine Ext.set ?_ ?_ _ | with_reducible refine Ext.drew ?_ | with_reducible refine Ext.drewN ?_ _ | with_reducible refine Ext.trans ?_ (by assumption) | (dsimp only; omega))))).mono ?_; rintro e w2 ⟨rfl, hE⟩; (first | (have hK := KC.step (n := w.heap.size + 1) (by with_reducible assumption) hE) | (have hK := KC.step (KC.step (n := w.heap.size + 1) (by with_reducible assumption) (ext_alloc1 _ _)) hE) | (have hK := KC.step (KC.refl (n := w.heap.size + 1) (by simp)) hE)); have hC := hK.cell; have hF := hK.fro; have hX := hK.ext)
                  | (go_at_call 147; refine (HC.out _ (by (repeat' (first | with_reducible assumption | with_reducible exact Ext.refl _ | with_reducible refine Ext.alloc ?_ _ | with_reducible refine Ext.set ?_ ?_ _ | with_reducible refine Ext.drew ?_ | with_reducible refine Ext.drewN ?_ _ | with_reducible refine Ext.trans ?_ (by assumption) | (dsimp only; omega))))).mono ?_; rintro e w2 ⟨rfl, hE⟩; (first | (have hK := KC.step (n := w.heap.size + 1) (by with_reducible assumption) hE) | (have hK := KC.step (KC.step (n := w.heap.size + 1) (by with_reducible assumption) (ext_alloc1 _ _)) hE) | (have hK := KC.step (KC.refl (n := w.heap.size + 1) (by simp)) hE)); have hC := hK.cell; have hF := hK.fro; have hX := hK.ext)
                  | (go_at_call 115; refine (HR.out _ (by (repeat' (first | with_reducible assumption | with_reducible exact Ext.refl _ | with_reducible refine Ext.alloc ?_ _ | with_reducible refine Ext.set ?_ ?_ _ | with_reducible refine Ext.drew ?_ | with_reducible refine Ext.drewN ?_ _ | with_reducible refine Ext.trans ?_ (by assumption) | (dsimp only; omega)))) (by first | (have := hK.size; omega) | (simp; done) | (simp; omega)) (by first | (rw [hC _ _ (by omega)]; go_simp; done) | (go_simp; done))).mono ?_; rintro e w2 ⟨rfl, hE⟩; (first | (have hK := KC.step (n := w.heap.size + 1) (by with_reducible assumption) hE) | (have hK := KC.step (KC.step (n := w.heap.size + 1) (by with_reducible assumption) (ext_alloc1 _ _)) hE) | (have hK := KC.step (KC.refl (n := w.heap.size + 1) (by simp)) hE)); have hC := hK.cell; have hF := hK.fro; have hX := hK.ext))
                go_ret
                exact ⟨ret_bool (by simp [*]), by (repeat' (first | with_reducible assumption | with_reducible exact Ext.refl _ | with_reducible refine Ext.alloc ?_ _ | with_reducible refine Ext.set ?_ ?_ _ | with_reducible refine Ext.drew ?_ | with_reducible refine Ext.drewN ?_ _ | with_reducible refine Ext.trans ?_ (by assumption) | (dsimp only; omega)))⟩
  by_cases h6 : n2 ≤ 6
  case neg => go_enter Tryz.func116, Tryz.ntmps116
              go_wp2_with (first
                | (go_at_call 72; refine (HW.out _ _ _ _).mono ?_; rintro e w2 ⟨rfl, rfl⟩; simp only [h3])
                | (go_at_call 136; refine (HD.out _ _).mono ?_; rintro e w2 ⟨rfl, rfl⟩; simp only [h1])
                | (go_at_call 143; refine (HGr.out _ _).mono ?_; rintro e w2 ⟨rfl, rfl⟩; simp only [h2])
                | (go_at_call 146; refine (HG.out _ (by (repeat' (first | with_reducible assumption | with_reducible exact Ext.refl _ | with_reducible refine Ext.alloc ?_ _ | with_reducible refine Ext.set ?_ ?_ _ | with_reducible refine Ext.drew ?_ | with_reducible refine Ext.drewN ?_ _ | with_reducible refine Ext.trans ?_ (by assumption) | (dsimp only; omega))))).mono ?_; rintro e w2 ⟨rfl, hE⟩; (first | (have hK := KC.step (n := w.heap.size + 1) (by with_reducible assumption) hE) | (have hK := KC.step (KC.step (n := w.heap.size + 1) (by with_reducible assumption) (ext_alloc1 _ _)) hE) | (have hK := KC.step (KC.refl (n := w.heap.size + 1) (by simp)) hE)); have hC := hK.cell; have hF := hK.fro; have hX := hK.ext)
                | (go_at_call 147; refine (HC.out _ (by (repeat' (first | with_reducible assumption | with_reducible exact Ext.refl _ | with_reducible refine Ext.alloc ?_ _ | with_reducible refine Ext.set ?_ ?_ _ | with_reducible refine Ext.drew ?_ | with_reducible refine Ext.drewN ?_ _ | with_reducible refine Ext.trans ?_ (by assumption) | (dsimp only; omega))))).mono ?_; rintro e w2 ⟨rfl, hE⟩; (first | (have hK := KC.step (n := w.heap.size + 1) (by with_reducible assumption) hE) | (have hK := KC.step (KC.step (n := w.heap.size + 1) (by with_reducible assumption) (ext_alloc1 _ _)) hE) | (have hK := KC.step (KC.refl (n := w.heap.size + 1) (by simp)) hE)); have hC := hK.cell; have hF := hK.fro; have hX := hK.ext)
                | (go_at_call 115; refine (HR.out _ (by (repeat' (first | with_reducible assumption | with_reducible exact Ext.refl _ | with_reducible refine Ext.alloc ?_ _ | with_reducible refine Ext.set ?_ ?_ _ | with_reducible refine Ext.drew ?_ | with_reducible refine Ext.drewN ?_ _ | with_reducible refine Ext.trans ?_ (by assumption) | (dsimp only; omega)))) (by first | (have := hK.size; omega) | (simp; done) | (simp; omega)) (by first | (rw [hC _ _ (by omega)]; go_simp; done) | (go_simp; done))).mono ?_; rintro e w2 ⟨rfl, hE⟩; (first | (have hK := KC.step (n := w.heap.size + 1) (by with_reducible assumption) hE) | (have hK := KC.step (KC.step (n := w.heap.size + 1) (by with_reducible assumption) (ext_alloc1 _ _)) hE) | (have hK := KC.step (KC.refl (n := w.heap.size + 1) (by simp)) hE)); have hC := hK.cell; have hF := hK.fro; have hX := hK.ext))
              go_ret
              exact ⟨ret_bool (by simp [*]), by (repeat' (first | with_reducible assumption | with_reducible exact Ext.refl _ | with_reducible refine Ext.alloc ?_ _ | with_reducible refine Ext.set ?_ ?_ _ | with_reducible refine Ext.drew ?_ | with_reducible refine Ext.drewN ?_ _ | with_reducible refine Ext.trans ?_ (by assumption) | (dsimp only; omega)))⟩
  cases b7
  case false => go_enter Tryz.func116, Tryz.ntmps116
                go_wp2_with (first
                  | (go_at_call 72; refine (HW.out _ _ _ _).mono ?_; rintro e w2 ⟨rfl, rfl⟩; simp only [h3])
                  | (go_at_call 136; refine (HD.out _ _).mono ?_; rintro e w2 ⟨rfl, rfl⟩; simp only [h1])
                  | (go_at_call 143; refine (HGr.out _ _).mono ?_; rintro e w2 ⟨rfl, rfl⟩; simp only [h2])
                  | (go_at_call 146; refine (HG.out _ (by (repeat' (first | with_reducible assumption | with_reducible exact Ext.refl _ | with_reducible refine Ext.alloc ?_ _ | with_reducible refine Ext.set ?_ ?_ _ | with_reducible refine Ext.drew ?_ | with_reducible refine Ext.drewN ?_ _ | with_reducible refine Ext.trans ?_ (by assumption) | (dsimp only; omega))))).mono ?_; rintro e w2 ⟨rfl, hE⟩; (first | (have hK := KC.step (n := w.heap.size + 1) (by with_reducible assumption) hE) | (have hK := KC.step (KC.step (n := w.heap.size + 1) (by with_reducible assumption) (ext_alloc1 _ _)) hE) | (have hK := KC.step (KC.refl (n := w.heap.size + 1) (by simp)) hE)); have hC := hK.cell; have hF := hK.fro; have hX := hK.ext)
                  | (go_at_call 147; refine (HC.out _ (by (repeat' (first | with_reducible assumption | with_reducible exact Ext.refl _ | with_reducible refine Ext.alloc ?_ _ | with_reducible refine Ext.set ?_ ?_ _ | with_reducible refine Ext.drew ?_ | with_reducible refine Ext.drewN ?_ _ | with_reducible refine Ext.trans ?_ (by assumption) | (dsimp only; omega))))).mono ?_; rintro e w2 ⟨rfl, hE⟩; (first | (have hK := KC.step (n := w.heap.size + 1) (by with_reducible assumption) hE) | (have hK := KC.step (KC.step (n := w.heap.size + 1) (by with_reducible assumption) (ext_alloc1 _ _)) hE) | (have hK := KC.step (KC.refl (n := w.heap.size + 1) (by simp)) hE)); have hC := hK.cell; have hF := hK.fro; have hX := hK.ext)
                  | (go_at_call 115; refine (HR.out _ (by (repeat' (first | with_reducible assumption | with_reducible exact Ext.refl _ | with_reducible refine Ext.alloc ?_ _ | with_reducible refine Ext.set ?_ ?_ _ | with_reducible refine Ext.drew ?_ | with_reducible refine Ext.drewN ?_ _ | with_reducible refine Ext.trans ?_ (by assumption) | (dsimp only; omega)))) (by first | (have := hK.size; omega) | (simp; done) | (simp; omega)) (by first | (rw [hC _ _ (by omega)]; go_simp; done) | (go_simp; done))).mono ?_; rintro e w2 ⟨rfl, hE⟩; (first | (have hK := KC.step (n := w.heap.size + 1) (by with_reducible assumption) hE) | (have hK := KC.step (KC.step (n := w.heap.size + 1) (by with_reducible assumption) (ext_alloc1 _ _)) hE) | (have hK := KC.step (KC.refl (n := w.heap.size + 1) (by simp)) hE)); have hC := hK.cell; have hF := hK.fro; have hX := hK.ext))
                go_ret
                exact ⟨ret_bool (by simp [*]), by (repeat' (first | with_reducible assumption | with_reducible exact Ext.refl _ | with_reducible refine Ext.alloc ?_ _ | with_reducible refine Ext.set ?_ ?_ _ | with_reducible refine Ext.drew ?_ | with_reducible refine Ext.drewN ?_ _ | with_reducible refine Ext.trans ?_ (by assumption) | (dsimp only; omega)))⟩
  by_cases h8 : n3 ≤ 6
  case neg => go_enter Tryz.func116, Tryz.ntmps116
              go_wp2_with (first
                | (go_at_call 72; refine (HW.out _ _ _ _).mono ?_; rintro e w2 ⟨rfl, rfl⟩; simp only [h3])
                | (go_at_call 136; refine (HD.out _ _).mono ?_; rintro e w2 ⟨rfl, rfl⟩; simp only [h1])
                | (go_at_call 143; refine (HGr.out _ _).mono ?_; rintro e w2 ⟨rfl, rfl⟩; simp only [h2])
                | (go_at_call 146; refine (HG.out _ (by (repeat' (first | with_reducible assumption | with_reducible exact Ext.refl _ | with_reducible refine Ext.alloc ?_ _ | with_reducible refine Ext.set ?_ ?_ _ | with_reducible refine Ext.drew ?_ | with_reducible refine Ext.drewN ?_ _ | with_reducible refine Ext.trans ?_ (by assumption) | (dsimp only; omega))))).mono ?_; rintro e w2 ⟨rfl, hE⟩; (first | (have hK := KC.step (n := w.heap.size + 1) (by with_reducible assumption) hE) | (have hK := KC.step (KC.step (n := w.heap.size + 1) (by with_reducible assumption) (ext_alloc1 _ _)) hE) | (have hK := KC.step (KC.refl (n := w.heap.size + 1) (by simp)) hE)); have hC := hK.cell; have hF := hK.fro; have hX := hK.ext)
                | (go_at_call 147; refine (HC.out _ (by (repeat' (first | with_reducible assumption | with_reducible exact Ext.refl _ | with_reducible refine Ext.alloc ?_ _ | with_reducible refine Ext.set ?_ ?_ _ | with_reducible refine Ext.drew ?_ | with_reducible refine Ext.drewN ?_ _ | with_reducible refine Ext.trans ?_ (by assumption) | (dsimp only; omega))))).mono ?_; rintro e w2 ⟨rfl, hE⟩; (first | (have hK := KC.step (n := w.heap.size + 1) (by with_reducible assumption) hE) | (have hK := KC.step (KC.step (n := w.heap.size + 1) (by with_reducible assumption) (ext_alloc1 _ _)) hE) | (have hK := KC.step (KC.refl (n := w.heap.size + 1) (by simp)) hE)); have hC := hK.cell; have hF := hK.fro; have hX := hK.ext)
                | (go_at_call 115; refine (HR.out _ (by (repeat' (first | with_reducible assumption | with_reducible exact Ext.refl _ | with_reducible refine Ext.alloc ?_ _ | with_reducible refine Ext.set ?_ ?_ _ | with_reducible refine Ext.drew ?_ | with_reducible refine Ext.drewN ?_ _ | with_reducible refine Ext.trans ?_ (by assumption) | (dsimp only; omega)))) (by first | (have := hK.size; omega) | (simp; done) | (simp; omega)) (by first | (rw [hC _ _ (by omega)]; go_simp; done) | (go_simp; done))).mono ?_; rintro e w2 ⟨rfl, hE⟩; (first | (have hK := KC.step (n := w.heap.size + 1) (by with_reducible assumption) hE) | (have hK := KC.step (KC.step (n := w.heap.size + 1) (by with_reducible assumption) (ext_alloc1 _ _)) hE) | (have hK := KC.step (KC.refl (n := w.heap.size + 1) (by simp)) hE)); have hC := hK.cell; have hF := hK.fro; have hX := hK.ext))
              go_ret
              exact ⟨ret_bool (by simp [*]), by (repeat' (first | with_reducible assumption | with_reducible exact Ext.refl _ | with_reducible refine Ext.alloc ?_ _ | with_reducible refine Ext.set ?_ ?_ _ | with_reducible refine Ext.drew ?_ | with_reducible refine Ext.drewN ?_ _ | with_reducible refine Ext.trans ?_ (by assumption) | (dsimp only; omega)))⟩
  go_enter Tryz.func116, Tryz.ntmps116
  go_wp2_with (first
    | (go_at_call 72; refine (HW.out _ _ _ _).mono ?_; rintro e w2 ⟨rfl, rfl⟩; simp only [h3])
    | (go_at_call 136; refine (HD.out _ _).mono ?_; rintro e w2 ⟨rfl, rfl⟩; simp only [h1])
    | (go_at_call 143; refine (HGr.out _ _).mono ?_; rintro e w2 ⟨rfl, rfl⟩; simp only [h2])
    | (go_at_call 146; refine (HG.out _ (by (repeat' (first | with_reducible assumption | with_reducible exact Ext.refl _ | with_reducible refine Ext.alloc ?_ _ | with_reducible refine Ext.set ?_ ?_ _ | with_reducible refine Ext.drew ?_ | with_reducible refine Ext.drewN ?_ _ | with_reducible refine Ext.trans ?_ (by assumption) | (dsimp only; omega))))).mono ?_; rintro e w2 ⟨rfl, hE⟩; (first | (have hK := KC.step (n := w.heap.size + 1) (by with_reducible assumption) hE) | (have hK := KC.step (KC.step (n := w.heap.size + 1) (by with_reducible assumption) (ext_alloc1 _ _)) hE) | (have hK := KC.step (KC.refl (n := w.heap.size + 1) (by simp)) hE)); have hC := hK.cell; have hF := hK.fro; have hX := hK.ext)
    | (go_at_call 147; refine (HC.out _ (by (repeat' (first | with_reducible assumption | with_reducible exact Ext.refl _ | with_reducible refine Ext.alloc ?_ _ | with_reducible refine Ext.set ?_ ?_ _ | with_reducible refine Ext.drew ?_ | with_reducible refine Ext.drewN ?_ _ | with_reducible refine Ext.trans ?_ (by assumption) | (dsimp only; omega))))).mono ?_; rintro e w2 ⟨rfl, hE⟩; (first | (have hK := KC.step (n := w.heap.size + 1) (by with_reducible assumption) hE) | (have hK := KC.step (KC.step (n := w.heap.size + 1) (by with_reducible assumption) (ext_alloc1 _ _)) hE) | (have hK := KC.step (KC.refl (n := w.heap.size + 1) (by simp)) hE)); have hC := hK.cell; have hF := hK.fro; have hX := hK.ext)
    | (go_at_call 115; refine (HR.out _ (by (repeat' (first | with_reducible assumption | with_reducible exact Ext.refl _ | with_reducible refine Ext.alloc ?_ _ | with_reducible refine Ext.set ?_ ?_ _ | with_reducible refine Ext.drew ?_ | with_reducible refine Ext.drewN ?_ _ | with_reducible refine Ext.trans ?_ (by assumption) | (dsimp only; omega)))) (by first | (have := hK.size; omega) | (simp; done) | (simp; omega)) (by first | (rw [hC _ _ (by omega)]; go_simp; done) | (go_simp; done))).mono ?_; rintro e w2 ⟨rfl, hE⟩; (first | (have hK := KC.step (n := w.heap.size + 1) (by with_reducible assumption) hE) | (have hK := KC.step (KC.step (n := w.heap.size + 1) (by with_reducible assumption) (ext_alloc1 _ _)) hE) | (have hK := KC.step (KC.refl (n := w.heap.size + 1) (by simp)) hE)); have hC := hK.cell; have hF := hK.fro; have hX := hK.ext))
  go_ret
  exact ⟨ret_bool (by simp [*]), by (repeat' (first | with_reducible assumption | with_reducible exact Ext.refl _ | with_reducible refine Ext.alloc ?_ _ | with_reducible refine Ext.set ?_ ?_ _ | with_reducible refine Ext.drew ?_ | with_reducible refine Ext.drewN ?_ _ | with_reducible refine Ext.trans ?_ (by assumption) | (dsimp only; omega)))⟩
end Go.Proofs.YtggggnjibedgaaaGreat
