/- beginWindows. -/
import Derived.Test.YtecamnhnjmldcaaGreatDoorB11
set_option linter.unusedSimpArgs false
set_option linter.unusedVariables false
namespace Go.Proofs.YtecamnhnjmldcaaGreatDoor
open Go.RowKit
def lmE (l : Lm) : Int := unlessM (lmB l) 52
def lgE (len : Int) : Int := unlessM (inI len 1 48) 1
def winE (f : List (List Hr)) (seen : List Sg) (l : Lm) (len : Int) : Int := begM [fcE f, sgE f seen, lmE l, lgE len] seen f
def winI (N : Nat) (nv sv : Value) (l : Lm) (len : Int) : Array Value := #[.int .i64 (N : Int), nv, sv, .int .i64 l.wind, .int .i64 l.rain, .int .i64 l.tl, .int .i64 l.th, .int .i64 len]
def WinIs (f : List (List Hr)) (seen : List Sg) (l : Lm) (len : Int) (w : World) (e : Ending) (w' : World) : Prop :=
  ∃ N A1 n1 c1 A2 n2 c2, e = .returned (.tuple #[.agg (winI N (.slice A1 n1 c1) (.slice A2 n2 c2) l len), .int .i64 (winE f seen l len)]) ∧ OutV f seen (winE f seen l len) w.heap.size w' N (.slice A1 n1 c1) (.slice A2 n2 c2) ∧ Ext w w'
theorem infoWin : (Tryz.prog.info? 117).map (·.size) = some 8 := by kernel_rfl
theorem win_one (N : Nat) (A1 : Option Addr) (n1 c1 : Nat) (A2 : Option Addr) (n2 c2 : Nat) (a b c d e : Int) : (#[.int .i64 (N : Int), .slice A1 n1 c1, .slice A2 n2 c2, .int .i64 a, .int .i64 b, .int .i64 c, .int .i64 d, .int .i64 e] : Array Value).all (·.oneCell') = true :=
  one_of (vs := [.int .i64 (N : Int), .slice A1 n1 c1, .slice A2 n2 c2, .int .i64 a, .int .i64 b, .int .i64 c, .int .i64 d, .int .i64 e]) (by intro v hv; simp only [List.mem_cons, List.not_mem_nil, or_false] at hv; rcases hv with rfl | rfl | rfl | rfl | rfl | rfl | rfl | rfl <;> rfl)
set_option maxHeartbeats 8000000 in
set_option maxRecDepth 100000 in
theorem beginWin_any (f : List (List Hr)) (A : Option Addr) (n c : Nat) (seen : List Sg) (SA : Option Addr) (m sc : Nat) (l : Lm) (len : Int) (w : World) (h : FIn w f A n seen SA m) :
    Calls Tryz.prog 49 #[.agg #[.slice A n c], .slice SA m sc, l.val, .int .i64 len] w (WinIs f seen l len w) := by
  have HC := hid (fun (W : World) (hW : Ext w W) => (h.ext hW).check c)
  have HS := hid (fun (W : World) (hW : Ext w W) => (h.ext hW).sights c sc)
  have HL := hid (fun (W : World) (hW : Ext w W) => checkLimits_any l W (h.wid.ext hW))
  have HG := hid (fun (W : World) => vArg_any (inI len 1 48) W)
  have HIN := hid (fun (W : World) => vWithin_any len 1 48 W)
  have HB := hid (fun (W : World) (hW : Ext w W) (EA : Option Addr) (hi : IntsAt W EA [fcE f, sgE f seen, lmE l, lgE len]) => (h.ext hW).begin c sc [fcE f, sgE f seen, lmE l, lgE len] EA 4 4 rfl (by decide) (fun h0 => ⟨fcE_ok (orM_zero h0).1, sgE_ok (orM_zero (orM_zero h0).2).1⟩) hi)
  clear h
  unfold WinIs winE
  change Hid (∀ W, Ext w W → Calls _ _ _ _ fun e w' => e = .returned (.int .i64 (lmE l)) ∧ Ext W w') at HL
  change Hid (∀ W, Calls _ _ _ _ fun e w' => e = .returned (.int .i64 (lgE len)) ∧ w' = W) at HG
  generalize fcE f = e1 at *
  generalize sgE f seen = e2 at *
  generalize lmE l = e3 at *
  generalize lgE len = e4 at *
  generalize inI len 1 48 = bl at *
  unfold winI Lm.val at *
  obtain ⟨wi, ra, tl, th⟩ := l
  dsimp only at *
  go_enter Tryz.func49, Tryz.ntmps49
  go_wp2_with (go_at_call 105; refine (HIN.out _).mono ?_; rintro e w2 ⟨rfl, rfl⟩)
  refine wp_abs (fun W => Blk W w.heap.size 24 #[.slice A n c] ∧ Blk W (w.heap.size + 1) 29 #[.int .i64 wi, .int .i64 ra, .int .i64 tl, .int .i64 th] ∧ Blk W (w.heap.size + 1 + 1) 117 #[.int .i64 0, .slice none 0 0, .slice none 0 0, .int .i64 0, .int .i64 0, .int .i64 0, .int .i64 0, .int .i64 0] ∧ Ext w W) ⟨?_, ?_, ?_, by (repeat' (first | with_reducible assumption | with_reducible exact Ext.refl _ | with_reducible refine Ext.alloc ?_ _ | with_reducible refine Ext.set ?_ ?_ _ | with_reducible refine Ext.drew ?_ | with_reducible refine Ext.drewN ?_ _ | with_reducible refine Ext.trans ?_ (by assumption) | (dsimp only; omega)))⟩ ?_
  · exact blk_old (blk_old (blk_last _ _) _) _
  · have := blk_last (w.alloc (.cells #[.slice A n c] 24)) (.cells #[.int .i64 wi, .int .i64 ra, .int .i64 tl, .int .i64 th] 29)
    rw [World.size_alloc] at this
    exact blk_old this _
  · have := blk_last ((w.alloc (.cells #[.slice A n c] 24)).alloc (.cells #[.int .i64 wi, .int .i64 ra, .int .i64 tl, .int .i64 th] 29)) (.cells #[.int .i64 0, .slice none 0 0, .slice none 0 0, .int .i64 0, .int .i64 0, .int .i64 0, .int .i64 0, .int .i64 0] 117)
    rw [World.size_alloc, World.size_alloc] at this
    exact this
  rintro W ⟨b1, b2, b3, HE⟩
  have B3 := hid b3
  have B2 := hid b2
  have B1 := hid b1
  have d0 := b1.cell 0
  have z1 := b1.lt
  have f0 := b2.cell 0
  have f1 := b2.cell 1
  have f2 := b2.cell 2
  have f3 := b2.cell 3
  have z2 := b2.lt
  have z3 := b3.lt
  simp only [List.getElem?_toArray, List.getElem?_cons_zero, List.getElem?_cons_succ] at d0 f0 f1 f2 f3
  clear b1 b2 b3
  refine region_rest (fun QQ => ∀ (ob : Nat) (Y : World) (N : Nat) (A1 : Option Addr) (n1 c1 : Nat) (A2 : Option Addr) (n2 c2 : Nat) (u16 : Value), Ext W Y → W.heap.size ≤ ob → Hid (Blk Y ob 100 #[.int .i64 N, .slice A1 n1 c1, .slice A2 n2 c2]) → OutV f seen (begM [e1, e2, e3, e4] seen f) w.heap.size Y N (.slice A1 n1 c1) (.slice A2 n2 c2) →
      QQ .normal { tmps := #[.agg #[.slice A n c], .slice SA m sc, .agg #[.int .i64 wi, .int .i64 ra, .int .i64 tl, .int .i64 th], .int .i64 len, .pointer (some ⟨w.heap.size, 0, none⟩), undef, .pointer (some ⟨w.heap.size + 1, 0, none⟩), undef, .pointer (some ⟨w.heap.size + 1 + 1, 0, none⟩), .int .i64 0, .bool bl, .pointer (some ⟨ob, 0, none⟩), .int .i64 (begM [e1, e2, e3, e4] seen f), .int .i64 len, .bool bl,
        .tuple #[.agg #[.int .i64 N, .slice A1 n1 c1, .slice A2 n2 c2], .int .i64 (begM [e1, e2, e3, e4] seen f)], .agg #[.slice A n c], .slice SA m sc, .agg #[.slice A n c], .int .i64 e1, .agg #[.slice A n c], .slice SA m sc, .int .i64 e2, .agg #[.int .i64 wi, .int .i64 ra, .int .i64 tl, .int .i64 th], .int .i64 e3, .bool bl, .int .i64 e4, u16,
        .tuple #[.agg #[.int .i64 N, .slice A1 n1 c1, .slice A2 n2 c2], .int .i64 (begM [e1, e2, e3, e4] seen f)], .agg #[.int .i64 N, .slice A1 n1 c1, .slice A2 n2 c2], .int .i64 (begM [e1, e2, e3, e4] seen f), undef, undef, undef, undef, undef, undef], defers := [] } Y) ?rest (fun REST => ?_)
  case rest =>
    intro ob Y N A1 n1 c1 A2 n2 c2 u16 hEW hob HOB hOV
    have HOV := hid hOV
    have hEY := HE.trans hEW
    have o0 := HOB.out.cell 0
    have o1 := HOB.out.cell 1
    have o2 := HOB.out.cell 2
    have oz := HOB.out.lt
    have C2 := hid (show Blk _ _ _ _ from B2.out.ext hEW)
    have C3 := hid (show Blk _ _ _ _ from B3.out.ext hEW)
    have g0 := C2.out.cell 0
    have g1 := C2.out.cell 1
    have g2 := C2.out.cell 2
    have g3 := C2.out.cell 3
    have gz := C2.out.lt
    simp only [List.getElem?_toArray, List.getElem?_cons_zero, List.getElem?_cons_succ] at o0 o1 o2 g0 g1 g2 g3
    clear hOV HC HS HL HG HIN HB B1 B2 B3 d0 f0 f1 f2 f3 z1 z2 z3 hEW
    have HO1 := hid (win_one N A1 n1 c1 A2 n2 c2 wi ra tl th len)
    go_wp2_with (refine wpList_store_mid rfl 117 _ _ rfl (w.heap.size + 1 + 1) 0 #[.int .i64 (N : Int), .slice A1 n1 c1, .slice A2 n2 c2, .int .i64 wi, .int .i64 ra, .int .i64 tl, .int .i64 th, .int .i64 len] rfl rfl (blk_there C3.out rfl) infoWin HO1.out ?_)
    have R := hid (C3.out.fill [.int .i64 (N : Int), .slice A1 n1 c1, .slice A2 n2 c2, .int .i64 wi, .int .i64 ra, .int .i64 tl, .int .i64 th, .int .i64 len] 0)
    have hob2 := ext_setCells hEY (b := w.heap.size + 1 + 1) (by omega) [.int .i64 (N : Int), .slice A1 n1 c1, .slice A2 n2 c2, .int .i64 wi, .int .i64 ra, .int .i64 tl, .int .i64 th, .int .i64 len] 0
    have OV2 := hid (HOV.out.apart (grown_setCells [.int .i64 (N : Int), .slice A1 n1 c1, .slice A2 n2 c2, .int .i64 wi, .int .i64 ra, .int .i64 tl, .int .i64 th, .int .i64 len] 0) (Apart.blk C3.out (by decide)) (Apart.blk C3.out (by decide)) (Apart.blk C3.out (by decide)))
    obtain ⟨Z, hZ⟩ : ∃ Z, Y.setCells (w.heap.size + 1 + 1) 0 [.int .i64 (N : Int), .slice A1 n1 c1, .slice A2 n2 c2, .int .i64 wi, .int .i64 ra, .int .i64 tl, .int .i64 th, .int .i64 len] = Z := ⟨_, rfl⟩
    rw [hZ] at R hob2 OV2
    have hZ2 : Y.setCells (w.heap.size + 1 + 1) 0 (#[.int .i64 (N : Int), .slice A1 n1 c1, .slice A2 n2 c2, .int .i64 wi, .int .i64 ra, .int .i64 tl, .int .i64 th, .int .i64 len] : Array Value).toList = Z := hZ
    first | rw [hZ2] | rw [hZ]
    clear hZ hZ2
    simp only [fillA, List.setIfInBounds_toArray, List.set_cons_zero, List.set_cons_succ] at R
    obtain ⟨r0, r1, r2, r3, r4, r5, r6, r7⟩ : _ ∧ _ ∧ _ ∧ _ ∧ _ ∧ _ ∧ _ ∧ _ := ⟨R.out.cell 0, R.out.cell 1, R.out.cell 2, R.out.cell 3, R.out.cell 4, R.out.cell 5, R.out.cell 6, R.out.cell 7⟩
    simp only [List.getElem?_toArray, List.getElem?_cons_zero, List.getElem?_cons_succ] at r0 r1 r2 r3 r4 r5 r6 r7
    exact bodyPost_ret (v := .tuple #[.agg #[.int .i64 (N : Int), .slice A1 n1 c1, .slice A2 n2 c2, .int .i64 wi, .int .i64 ra, .int .i64 tl, .int .i64 th, .int .i64 len], .int .i64 (begM [e1, e2, e3, e4] seen f)]) (by simp [results, Tryz.results49, go_sem, r0, r1, r2, r3, r4, r5, r6, r7]) rfl ⟨N, A1, n1, c1, A2, n2, c2, rfl, OV2.out, hob2⟩
  refine wp_region_held_drew (S := fun w' => (∀ b o, b < W.heap.size → w'.cell? ⟨b, o, none⟩ = W.cell? ⟨b, o, none⟩) ∧ W.heap.size ≤ w'.heap.size ∧ Ext W w') (by kernel_rfl) ?hS0 (fun hHeld => ?_)
  case hS0 => exact sK (Ext.drew (Ext.refl _))
  have X0 : Ext W W.drew := Ext.drew (Ext.refl W)
  have EX := X0
  obtain ⟨X, hX⟩ : ∃ X, W.drew = X := ⟨_, rfl⟩
  rw [hX] at EX hHeld ⊢
  clear hX X0
  refine tk1 (i := 0) (v := ?v0a) rfl ?y0a ?r0a
  case y0a => (intro w' hSw; (try dsimp only at hSw); go_simp; (try with_reducible rfl))
  try simp only [Act.put, sq1, sq2, sq3, sq4, sq5, sq6]
  refine tk1 (i := 1) (v := ?v1a) rfl ?y1a ?r1a
  case y1a => (intro w' hSw; (try dsimp only at hSw); go_simp; (try with_reducible rfl))
  try simp only [Act.put, sq1, sq2, sq3, sq4, sq5, sq6]
  refine tk1 (i := 2) (v := ?v2a) rfl ?y2a ?r2a
  case y2a => (intro w' hSw; (try dsimp only at hSw); go_simp; (try with_reducible rfl))
  try simp only [Act.put, sq1, sq2, sq3, sq4, sq5, sq6]
  refine tk1 (i := 4) (v := ?v4a) rfl ?y4a ?r4a
  case y4a => (intro w' hSw; (try dsimp only at hSw); go_simp; (try with_reducible rfl))
  try simp only [Act.put, sq1, sq2, sq3, sq4, sq5, sq6]
  refine tk1 (i := 5) (v := ?v5a) rfl ?y5a ?r5a
  case y5a => (intro w' hSw; (try dsimp only at hSw); go_simp; (try with_reducible rfl))
  try simp only [Act.put, sq1, sq2, sq3, sq4, sq5, sq6]
  refine tk1 (i := 7) (v := ?v7a) rfl ?y7a ?r7a
  case y7a => (intro w' hSw; (try dsimp only at hSw); go_simp; (try with_reducible rfl))
  try simp only [Act.put, sq1, sq2, sq3, sq4, sq5, sq6]
  refine tk1 (i := 9) (v := ?v9a) rfl ?y9a ?r9a
  case y9a => (intro w' hSw; (try dsimp only at hSw); go_simp; (try with_reducible rfl))
  try simp only [Act.put, sq1, sq2, sq3, sq4, sq5, sq6]
  refine wpAnyH_ready (rs := [3, 16]) (by kernel_rfl) (by simp) ?_
  refine AllReadyH.cons (o := _) rfl (fun K hK => ?_) (AllReadyH.cons (o := _) rfl (fun K hK => ?_) AllReadyH.nil)
  · go_simp
    refine Calls.mono (HC.out _ (HE.trans EX)) ?_
    rintro e X ⟨rfl, hEX⟩
    dsimp only
    replace EX := EX.trans hEX
    (try replace OB := hid (OB.out.ext hEX))
    (try replace IS := hid (IS.out.ext hEX))
    clear hHeld hEX
    refine hK.out _ _ (sK EX) (fun hHeld => ?_)
    clear hK K
    try simp only [Act.put, sq1, sq2, sq3, sq4, sq5, sq6]
    refine wpAnyH_ready (rs := [6, 16]) (by kernel_rfl) (by simp) ?_
    refine AllReadyH.cons (o := _) rfl (fun K hK => ?_) (AllReadyH.cons (o := _) rfl (fun K hK => ?_) AllReadyH.nil)
    · go_simp
      refine Calls.mono (HS.out _ (HE.trans EX)) ?_
      rintro e X ⟨rfl, hEX⟩
      dsimp only
      replace EX := EX.trans hEX
      (try replace OB := hid (OB.out.ext hEX))
      (try replace IS := hid (IS.out.ext hEX))
      clear hHeld hEX
      refine hK.out _ _ (sK EX) (fun hHeld => ?_)
      clear hK K
      try simp only [Act.put, sq1, sq2, sq3, sq4, sq5, sq6]
      refine wpAnyH_ready (rs := [8, 16]) (by kernel_rfl) (by simp) ?_
      refine AllReadyH.cons (o := _) rfl (fun K hK => ?_) (AllReadyH.cons (o := _) rfl (fun K hK => ?_) AllReadyH.nil)
      · go_simp
        refine Calls.mono (HL.out _ (HE.trans EX)) ?_
        rintro e X ⟨rfl, hEX⟩
        dsimp only
        replace EX := EX.trans hEX
        (try replace OB := hid (OB.out.ext hEX))
        (try replace IS := hid (IS.out.ext hEX))
        clear hHeld hEX
        refine hK.out _ _ (sK EX) (fun hHeld => ?_)
        clear hK K
        try simp only [Act.put, sq1, sq2, sq3, sq4, sq5, sq6]
        refine wpAnyH_ready (rs := [10, 16]) (by kernel_rfl) (by simp) ?_
        refine AllReadyH.cons (o := _) rfl (fun K hK => ?_) (AllReadyH.cons (o := _) rfl (fun K hK => ?_) AllReadyH.nil)
        · go_simp
          refine Calls.mono (HG.out _) ?_
          rintro e X ⟨rfl, rfl⟩
          dsimp only
          clear hHeld
          refine hK.out _ _ (sK EX) (fun hHeld => ?_)
          clear hK K
          try simp only [Act.put, sq1, sq2, sq3, sq4, sq5, sq6]
          refine wpAnyH_ready (rs := [11, 16]) (by kernel_rfl) (by simp) ?_
          refine AllReadyH.cons (o := _) rfl (fun K hK => ?_) (AllReadyH.cons (o := _) rfl (fun K hK => ?_) AllReadyH.nil)
          · go_simp
            obtain ⟨Y, hY⟩ := absW EX (.cells #[.int .i64 e1, .int .i64 e2, .int .i64 e3, .int .i64 e4] 36)
            have IS := hid (intsNew EX [e1, e2, e3, e4] #[.int .i64 e1, .int .i64 e2, .int .i64 e3, .int .i64 e4] rfl)
            (try replace OB := hid (OB.out.alloc (.cells #[.int .i64 e1, .int .i64 e2, .int .i64 e3, .int .i64 e4] 36)))
            replace EX := EX.alloc (.cells #[.int .i64 e1, .int .i64 e2, .int .i64 e3, .int .i64 e4] 36)
            rw [hY] at EX IS ⊢
            (try rw [hY] at OB)
            clear hHeld hY
            refine hK.out _ _ (sK EX) (fun hHeld => ?_)
            clear hK K
            try simp only [Act.put, sq1, sq2, sq3, sq4, sq5, sq6]
            refine wpAnyH_ready (rs := [12, 16]) (by kernel_rfl) (by simp) ?_
            refine AllReadyH.cons (o := _) rfl (fun K hK => ?_) (AllReadyH.cons (o := _) rfl (fun K hK => ?_) AllReadyH.nil)
            · go_simp
              refine Calls.mono (HB.out _ (HE.trans EX) _ IS.out) ?_
              rintro e X ⟨N, A1, n1, c1, A2, n2, c2, rfl, hOV, hEX⟩
              dsimp only
              have OV := hid (show OutV f seen _ w.heap.size _ N _ _ from hOV.low (HE.trans EX).size)
              replace EX := EX.trans hEX
              (try replace OB := hid (OB.out.ext hEX))
              clear hHeld hEX hOV IS
              refine hK.out _ _ (sK EX) (fun hHeld => ?_)
              clear hK K
              try simp only [Act.put, sq1, sq2, sq3, sq4, sq5, sq6]
              refine tk1 (i := 13) (v := ?v13m6) rfl ?y13m6 ?r13m6
              case y13m6 => (intro w' hSw; (try dsimp only at hSw); go_simp; (try with_reducible rfl))
              try simp only [Act.put, sq1, sq2, sq3, sq4, sq5, sq6]
              refine tk1 (i := 14) (v := ?v14m6) rfl ?y14m6 ?r14m6
              case y14m6 => (intro w' hSw; (try dsimp only at hSw); go_simp; (try with_reducible rfl))
              try simp only [Act.put, sq1, sq2, sq3, sq4, sq5, sq6]
              refine tk1 (i := 15) (v := ?v15m6) rfl ?y15m6 ?r15m6
              case y15m6 => (intro w' hSw; (try dsimp only at hSw); go_simp; (try with_reducible rfl))
              try simp only [Act.put, sq1, sq2, sq3, sq4, sq5, sq6]
              refine wpAnyH_ready (rs := [16]) (by kernel_rfl) (by simp) ?_
              refine AllReadyH.cons (o := _) rfl (fun K hK => ?_) AllReadyH.nil
              go_simp
              obtain ⟨Y, hY⟩ := absW EX (.cells #[.int .i64 0, .slice none 0 0, .slice none 0 0] 100)
              have OB := hid (blkNew EX 100 #[.int .i64 0, .slice none 0 0, .slice none 0 0])
              have LOB := EX.size
              replace EX := EX.alloc (.cells #[.int .i64 0, .slice none 0 0, .slice none 0 0] 100)
              (try replace IS := hid (IS.out.ext (ext_alloc1 _ (.cells #[.int .i64 0, .slice none 0 0, .slice none 0 0] 100))))
              (try replace OV := hid (OV.out.ext (ext_alloc1 _ (.cells #[.int .i64 0, .slice none 0 0, .slice none 0 0] 100))))
              rw [hY] at EX OB ⊢
              (try rw [hY] at IS)
              (try rw [hY] at OV)
              clear hHeld hY
              refine hK.out _ _ (sK EX) (fun hHeld => ?_)
              clear hK K
              try simp only [Act.put, sq1, sq2, sq3, sq4, sq5, sq6]
              refine wpAnyH_ready (rs := [17]) (by kernel_rfl) (by simp) ?_
              refine AllReadyH.cons (o := _) rfl (fun K hK => ?_) AllReadyH.nil
              refine wp_store_mid 100 _ _ rfl _ 0 #[.int .i64 (N : Int), .slice A1 n1 c1, .slice A2 n2 c2] rfl rfl (blk_there OB.out rfl) infoOut (out_one N A1 n1 c1 A2 n2 c2) ?_
              have OB2 := hid (Blk.fill3 OB.out (.int .i64 (N : Int)) (.slice A1 n1 c1) (.slice A2 n2 c2))
              have EX2 := ext_setCells EX LOB [.int .i64 (N : Int), .slice A1 n1 c1, .slice A2 n2 c2] 0
              have OV2 := hid (OV.out.apart (grown_setCells [.int .i64 (N : Int), .slice A1 n1 c1, .slice A2 n2 c2] 0) (Apart.blk OB.out (by decide)) (Apart.blk OB.out (by decide)) (Apart.blk OB.out (by decide)))
              clear hHeld
              refine hK.out _ _ (sK EX2) (fun hHeld => ?_)
              clear hK K
              try simp only [Act.put, sq1, sq2, sq3, sq4, sq5, sq6]
              refine tk1 (i := 18) (v := ?v18et7) rfl ?y18et7 ?r18et7
              case y18et7 => (intro w' hSw; (try dsimp only at hSw); go_simp; (try with_reducible rfl))
              try simp only [Act.put, sq1, sq2, sq3, sq4, sq5, sq6]
              refine wpAnyH_done (by kernel_rfl) ?_ _
              exact REST _ _ N A1 n1 c1 A2 n2 c2 _ EX2 LOB OB2 OV2.out
            · go_simp
              obtain ⟨Y, hY⟩ := absW EX (.cells #[.int .i64 0, .slice none 0 0, .slice none 0 0] 100)
              have OB := hid (blkNew EX 100 #[.int .i64 0, .slice none 0 0, .slice none 0 0])
              have LOB := EX.size
              replace EX := EX.alloc (.cells #[.int .i64 0, .slice none 0 0, .slice none 0 0] 100)
              (try replace IS := hid (IS.out.ext (ext_alloc1 _ (.cells #[.int .i64 0, .slice none 0 0, .slice none 0 0] 100))))
              (try replace OV := hid (OV.out.ext (ext_alloc1 _ (.cells #[.int .i64 0, .slice none 0 0, .slice none 0 0] 100))))
              rw [hY] at EX OB ⊢
              (try rw [hY] at IS)
              (try rw [hY] at OV)
              clear hHeld hY
              refine hK.out _ _ (sK EX) (fun hHeld => ?_)
              clear hK K
              try simp only [Act.put, sq1, sq2, sq3, sq4, sq5, sq6]
              refine wpAnyH_ready (rs := [12]) (by kernel_rfl) (by simp) ?_
              refine AllReadyH.cons (o := _) rfl (fun K hK => ?_) AllReadyH.nil
              go_simp
              refine Calls.mono (HB.out _ (HE.trans EX) _ IS.out) ?_
              rintro e X ⟨N, A1, n1, c1, A2, n2, c2, rfl, hOV, hEX⟩
              dsimp only
              have OV := hid (show OutV f seen _ w.heap.size _ N _ _ from hOV.low (HE.trans EX).size)
              replace EX := EX.trans hEX
              (try replace OB := hid (OB.out.ext hEX))
              clear hHeld hEX hOV IS
              refine hK.out _ _ (sK EX) (fun hHeld => ?_)
              clear hK K
              try simp only [Act.put, sq1, sq2, sq3, sq4, sq5, sq6]
              refine tk1 (i := 13) (v := ?v13a8) rfl ?y13a8 ?r13a8
              case y13a8 => (intro w' hSw; (try dsimp only at hSw); go_simp; (try with_reducible rfl))
              try simp only [Act.put, sq1, sq2, sq3, sq4, sq5, sq6]
              refine tk1 (i := 14) (v := ?v14a8) rfl ?y14a8 ?r14a8
              case y14a8 => (intro w' hSw; (try dsimp only at hSw); go_simp; (try with_reducible rfl))
              try simp only [Act.put, sq1, sq2, sq3, sq4, sq5, sq6]
              refine tk1 (i := 15) (v := ?v15a8) rfl ?y15a8 ?r15a8
              case y15a8 => (intro w' hSw; (try dsimp only at hSw); go_simp; (try with_reducible rfl))
              try simp only [Act.put, sq1, sq2, sq3, sq4, sq5, sq6]
              refine wpAnyH_ready (rs := [17]) (by kernel_rfl) (by simp) ?_
              refine AllReadyH.cons (o := _) rfl (fun K hK => ?_) AllReadyH.nil
              refine wp_store_mid 100 _ _ rfl _ 0 #[.int .i64 (N : Int), .slice A1 n1 c1, .slice A2 n2 c2] rfl rfl (blk_there OB.out rfl) infoOut (out_one N A1 n1 c1 A2 n2 c2) ?_
              have OB2 := hid (Blk.fill3 OB.out (.int .i64 (N : Int)) (.slice A1 n1 c1) (.slice A2 n2 c2))
              have EX2 := ext_setCells EX LOB [.int .i64 (N : Int), .slice A1 n1 c1, .slice A2 n2 c2] 0
              have OV2 := hid (OV.out.apart (grown_setCells [.int .i64 (N : Int), .slice A1 n1 c1, .slice A2 n2 c2] 0) (Apart.blk OB.out (by decide)) (Apart.blk OB.out (by decide)) (Apart.blk OB.out (by decide)))
              clear hHeld
              refine hK.out _ _ (sK EX2) (fun hHeld => ?_)
              clear hK K
              try simp only [Act.put, sq1, sq2, sq3, sq4, sq5, sq6]
              refine tk1 (i := 18) (v := ?v18ea8) rfl ?y18ea8 ?r18ea8
              case y18ea8 => (intro w' hSw; (try dsimp only at hSw); go_simp; (try with_reducible rfl))
              try simp only [Act.put, sq1, sq2, sq3, sq4, sq5, sq6]
              refine wpAnyH_done (by kernel_rfl) ?_ _
              exact REST _ _ N A1 n1 c1 A2 n2 c2 _ EX2 LOB OB2 OV2.out
          · go_simp
            obtain ⟨Y, hY⟩ := absW EX (.cells #[.int .i64 0, .slice none 0 0, .slice none 0 0] 100)
            have OB := hid (blkNew EX 100 #[.int .i64 0, .slice none 0 0, .slice none 0 0])
            have LOB := EX.size
            replace EX := EX.alloc (.cells #[.int .i64 0, .slice none 0 0, .slice none 0 0] 100)
            (try replace IS := hid (IS.out.ext (ext_alloc1 _ (.cells #[.int .i64 0, .slice none 0 0, .slice none 0 0] 100))))
            (try replace OV := hid (OV.out.ext (ext_alloc1 _ (.cells #[.int .i64 0, .slice none 0 0, .slice none 0 0] 100))))
            rw [hY] at EX OB ⊢
            (try rw [hY] at IS)
            (try rw [hY] at OV)
            clear hHeld hY
            refine hK.out _ _ (sK EX) (fun hHeld => ?_)
            clear hK K
            try simp only [Act.put, sq1, sq2, sq3, sq4, sq5, sq6]
            refine wpAnyH_ready (rs := [11]) (by kernel_rfl) (by simp) ?_
            refine AllReadyH.cons (o := _) rfl (fun K hK => ?_) AllReadyH.nil
            go_simp
            obtain ⟨Y, hY⟩ := absW EX (.cells #[.int .i64 e1, .int .i64 e2, .int .i64 e3, .int .i64 e4] 36)
            have IS := hid (intsNew EX [e1, e2, e3, e4] #[.int .i64 e1, .int .i64 e2, .int .i64 e3, .int .i64 e4] rfl)
            (try replace OB := hid (OB.out.alloc (.cells #[.int .i64 e1, .int .i64 e2, .int .i64 e3, .int .i64 e4] 36)))
            replace EX := EX.alloc (.cells #[.int .i64 e1, .int .i64 e2, .int .i64 e3, .int .i64 e4] 36)
            rw [hY] at EX IS ⊢
            (try rw [hY] at OB)
            clear hHeld hY
            refine hK.out _ _ (sK EX) (fun hHeld => ?_)
            clear hK K
            try simp only [Act.put, sq1, sq2, sq3, sq4, sq5, sq6]
            refine wpAnyH_ready (rs := [12]) (by kernel_rfl) (by simp) ?_
            refine AllReadyH.cons (o := _) rfl (fun K hK => ?_) AllReadyH.nil
            go_simp
            refine Calls.mono (HB.out _ (HE.trans EX) _ IS.out) ?_
            rintro e X ⟨N, A1, n1, c1, A2, n2, c2, rfl, hOV, hEX⟩
            dsimp only
            have OV := hid (show OutV f seen _ w.heap.size _ N _ _ from hOV.low (HE.trans EX).size)
            replace EX := EX.trans hEX
            (try replace OB := hid (OB.out.ext hEX))
            clear hHeld hEX hOV IS
            refine hK.out _ _ (sK EX) (fun hHeld => ?_)
            clear hK K
            try simp only [Act.put, sq1, sq2, sq3, sq4, sq5, sq6]
            refine tk1 (i := 13) (v := ?v13a9) rfl ?y13a9 ?r13a9
            case y13a9 => (intro w' hSw; (try dsimp only at hSw); go_simp; (try with_reducible rfl))
            try simp only [Act.put, sq1, sq2, sq3, sq4, sq5, sq6]
            refine tk1 (i := 14) (v := ?v14a9) rfl ?y14a9 ?r14a9
            case y14a9 => (intro w' hSw; (try dsimp only at hSw); go_simp; (try with_reducible rfl))
            try simp only [Act.put, sq1, sq2, sq3, sq4, sq5, sq6]
            refine tk1 (i := 15) (v := ?v15a9) rfl ?y15a9 ?r15a9
            case y15a9 => (intro w' hSw; (try dsimp only at hSw); go_simp; (try with_reducible rfl))
            try simp only [Act.put, sq1, sq2, sq3, sq4, sq5, sq6]
            refine wpAnyH_ready (rs := [17]) (by kernel_rfl) (by simp) ?_
            refine AllReadyH.cons (o := _) rfl (fun K hK => ?_) AllReadyH.nil
            refine wp_store_mid 100 _ _ rfl _ 0 #[.int .i64 (N : Int), .slice A1 n1 c1, .slice A2 n2 c2] rfl rfl (blk_there OB.out rfl) infoOut (out_one N A1 n1 c1 A2 n2 c2) ?_
            have OB2 := hid (Blk.fill3 OB.out (.int .i64 (N : Int)) (.slice A1 n1 c1) (.slice A2 n2 c2))
            have EX2 := ext_setCells EX LOB [.int .i64 (N : Int), .slice A1 n1 c1, .slice A2 n2 c2] 0
            have OV2 := hid (OV.out.apart (grown_setCells [.int .i64 (N : Int), .slice A1 n1 c1, .slice A2 n2 c2] 0) (Apart.blk OB.out (by decide)) (Apart.blk OB.out (by decide)) (Apart.blk OB.out (by decide)))
            clear hHeld
            refine hK.out _ _ (sK EX2) (fun hHeld => ?_)
            clear hK K
            try simp only [Act.put, sq1, sq2, sq3, sq4, sq5, sq6]
            refine tk1 (i := 18) (v := ?v18ea9) rfl ?y18ea9 ?r18ea9
            case y18ea9 => (intro w' hSw; (try dsimp only at hSw); go_simp; (try with_reducible rfl))
            try simp only [Act.put, sq1, sq2, sq3, sq4, sq5, sq6]
            refine wpAnyH_done (by kernel_rfl) ?_ _
            exact REST _ _ N A1 n1 c1 A2 n2 c2 _ EX2 LOB OB2 OV2.out
        · go_simp
          obtain ⟨Y, hY⟩ := absW EX (.cells #[.int .i64 0, .slice none 0 0, .slice none 0 0] 100)
          have OB := hid (blkNew EX 100 #[.int .i64 0, .slice none 0 0, .slice none 0 0])
          have LOB := EX.size
          replace EX := EX.alloc (.cells #[.int .i64 0, .slice none 0 0, .slice none 0 0] 100)
          (try replace IS := hid (IS.out.ext (ext_alloc1 _ (.cells #[.int .i64 0, .slice none 0 0, .slice none 0 0] 100))))
          (try replace OV := hid (OV.out.ext (ext_alloc1 _ (.cells #[.int .i64 0, .slice none 0 0, .slice none 0 0] 100))))
          rw [hY] at EX OB ⊢
          (try rw [hY] at IS)
          (try rw [hY] at OV)
          clear hHeld hY
          refine hK.out _ _ (sK EX) (fun hHeld => ?_)
          clear hK K
          try simp only [Act.put, sq1, sq2, sq3, sq4, sq5, sq6]
          refine wpAnyH_ready (rs := [10]) (by kernel_rfl) (by simp) ?_
          refine AllReadyH.cons (o := _) rfl (fun K hK => ?_) AllReadyH.nil
          go_simp
          refine Calls.mono (HG.out _) ?_
          rintro e X ⟨rfl, rfl⟩
          dsimp only
          clear hHeld
          refine hK.out _ _ (sK EX) (fun hHeld => ?_)
          clear hK K
          try simp only [Act.put, sq1, sq2, sq3, sq4, sq5, sq6]
          refine wpAnyH_ready (rs := [11]) (by kernel_rfl) (by simp) ?_
          refine AllReadyH.cons (o := _) rfl (fun K hK => ?_) AllReadyH.nil
          go_simp
          obtain ⟨Y, hY⟩ := absW EX (.cells #[.int .i64 e1, .int .i64 e2, .int .i64 e3, .int .i64 e4] 36)
          have IS := hid (intsNew EX [e1, e2, e3, e4] #[.int .i64 e1, .int .i64 e2, .int .i64 e3, .int .i64 e4] rfl)
          (try replace OB := hid (OB.out.alloc (.cells #[.int .i64 e1, .int .i64 e2, .int .i64 e3, .int .i64 e4] 36)))
          replace EX := EX.alloc (.cells #[.int .i64 e1, .int .i64 e2, .int .i64 e3, .int .i64 e4] 36)
          rw [hY] at EX IS ⊢
          (try rw [hY] at OB)
          clear hHeld hY
          refine hK.out _ _ (sK EX) (fun hHeld => ?_)
          clear hK K
          try simp only [Act.put, sq1, sq2, sq3, sq4, sq5, sq6]
          refine wpAnyH_ready (rs := [12]) (by kernel_rfl) (by simp) ?_
          refine AllReadyH.cons (o := _) rfl (fun K hK => ?_) AllReadyH.nil
          go_simp
          refine Calls.mono (HB.out _ (HE.trans EX) _ IS.out) ?_
          rintro e X ⟨N, A1, n1, c1, A2, n2, c2, rfl, hOV, hEX⟩
          dsimp only
          have OV := hid (show OutV f seen _ w.heap.size _ N _ _ from hOV.low (HE.trans EX).size)
          replace EX := EX.trans hEX
          (try replace OB := hid (OB.out.ext hEX))
          clear hHeld hEX hOV IS
          refine hK.out _ _ (sK EX) (fun hHeld => ?_)
          clear hK K
          try simp only [Act.put, sq1, sq2, sq3, sq4, sq5, sq6]
          refine tk1 (i := 13) (v := ?v13a10) rfl ?y13a10 ?r13a10
          case y13a10 => (intro w' hSw; (try dsimp only at hSw); go_simp; (try with_reducible rfl))
          try simp only [Act.put, sq1, sq2, sq3, sq4, sq5, sq6]
          refine tk1 (i := 14) (v := ?v14a10) rfl ?y14a10 ?r14a10
          case y14a10 => (intro w' hSw; (try dsimp only at hSw); go_simp; (try with_reducible rfl))
          try simp only [Act.put, sq1, sq2, sq3, sq4, sq5, sq6]
          refine tk1 (i := 15) (v := ?v15a10) rfl ?y15a10 ?r15a10
          case y15a10 => (intro w' hSw; (try dsimp only at hSw); go_simp; (try with_reducible rfl))
          try simp only [Act.put, sq1, sq2, sq3, sq4, sq5, sq6]
          refine wpAnyH_ready (rs := [17]) (by kernel_rfl) (by simp) ?_
          refine AllReadyH.cons (o := _) rfl (fun K hK => ?_) AllReadyH.nil
          refine wp_store_mid 100 _ _ rfl _ 0 #[.int .i64 (N : Int), .slice A1 n1 c1, .slice A2 n2 c2] rfl rfl (blk_there OB.out rfl) infoOut (out_one N A1 n1 c1 A2 n2 c2) ?_
          have OB2 := hid (Blk.fill3 OB.out (.int .i64 (N : Int)) (.slice A1 n1 c1) (.slice A2 n2 c2))
          have EX2 := ext_setCells EX LOB [.int .i64 (N : Int), .slice A1 n1 c1, .slice A2 n2 c2] 0
          have OV2 := hid (OV.out.apart (grown_setCells [.int .i64 (N : Int), .slice A1 n1 c1, .slice A2 n2 c2] 0) (Apart.blk OB.out (by decide)) (Apart.blk OB.out (by decide)) (Apart.blk OB.out (by decide)))
          clear hHeld
          refine hK.out _ _ (sK EX2) (fun hHeld => ?_)
          clear hK K
          try simp only [Act.put, sq1, sq2, sq3, sq4, sq5, sq6]
          refine tk1 (i := 18) (v := ?v18ea10) rfl ?y18ea10 ?r18ea10
          case y18ea10 => (intro w' hSw; (try dsimp only at hSw); go_simp; (try with_reducible rfl))
          try simp only [Act.put, sq1, sq2, sq3, sq4, sq5, sq6]
          refine wpAnyH_done (by kernel_rfl) ?_ _
          exact REST _ _ N A1 n1 c1 A2 n2 c2 _ EX2 LOB OB2 OV2.out
      · go_simp
        obtain ⟨Y, hY⟩ := absW EX (.cells #[.int .i64 0, .slice none 0 0, .slice none 0 0] 100)
        have OB := hid (blkNew EX 100 #[.int .i64 0, .slice none 0 0, .slice none 0 0])
        have LOB := EX.size
        replace EX := EX.alloc (.cells #[.int .i64 0, .slice none 0 0, .slice none 0 0] 100)
        (try replace IS := hid (IS.out.ext (ext_alloc1 _ (.cells #[.int .i64 0, .slice none 0 0, .slice none 0 0] 100))))
        (try replace OV := hid (OV.out.ext (ext_alloc1 _ (.cells #[.int .i64 0, .slice none 0 0, .slice none 0 0] 100))))
        rw [hY] at EX OB ⊢
        (try rw [hY] at IS)
        (try rw [hY] at OV)
        clear hHeld hY
        refine hK.out _ _ (sK EX) (fun hHeld => ?_)
        clear hK K
        try simp only [Act.put, sq1, sq2, sq3, sq4, sq5, sq6]
        refine wpAnyH_ready (rs := [8]) (by kernel_rfl) (by simp) ?_
        refine AllReadyH.cons (o := _) rfl (fun K hK => ?_) AllReadyH.nil
        go_simp
        refine Calls.mono (HL.out _ (HE.trans EX)) ?_
        rintro e X ⟨rfl, hEX⟩
        dsimp only
        replace EX := EX.trans hEX
        (try replace OB := hid (OB.out.ext hEX))
        (try replace IS := hid (IS.out.ext hEX))
        clear hHeld hEX
        refine hK.out _ _ (sK EX) (fun hHeld => ?_)
        clear hK K
        try simp only [Act.put, sq1, sq2, sq3, sq4, sq5, sq6]
        refine wpAnyH_ready (rs := [10]) (by kernel_rfl) (by simp) ?_
        refine AllReadyH.cons (o := _) rfl (fun K hK => ?_) AllReadyH.nil
        go_simp
        refine Calls.mono (HG.out _) ?_
        rintro e X ⟨rfl, rfl⟩
        dsimp only
        clear hHeld
        refine hK.out _ _ (sK EX) (fun hHeld => ?_)
        clear hK K
        try simp only [Act.put, sq1, sq2, sq3, sq4, sq5, sq6]
        refine wpAnyH_ready (rs := [11]) (by kernel_rfl) (by simp) ?_
        refine AllReadyH.cons (o := _) rfl (fun K hK => ?_) AllReadyH.nil
        go_simp
        obtain ⟨Y, hY⟩ := absW EX (.cells #[.int .i64 e1, .int .i64 e2, .int .i64 e3, .int .i64 e4] 36)
        have IS := hid (intsNew EX [e1, e2, e3, e4] #[.int .i64 e1, .int .i64 e2, .int .i64 e3, .int .i64 e4] rfl)
        (try replace OB := hid (OB.out.alloc (.cells #[.int .i64 e1, .int .i64 e2, .int .i64 e3, .int .i64 e4] 36)))
        replace EX := EX.alloc (.cells #[.int .i64 e1, .int .i64 e2, .int .i64 e3, .int .i64 e4] 36)
        rw [hY] at EX IS ⊢
        (try rw [hY] at OB)
        clear hHeld hY
        refine hK.out _ _ (sK EX) (fun hHeld => ?_)
        clear hK K
        try simp only [Act.put, sq1, sq2, sq3, sq4, sq5, sq6]
        refine wpAnyH_ready (rs := [12]) (by kernel_rfl) (by simp) ?_
        refine AllReadyH.cons (o := _) rfl (fun K hK => ?_) AllReadyH.nil
        go_simp
        refine Calls.mono (HB.out _ (HE.trans EX) _ IS.out) ?_
        rintro e X ⟨N, A1, n1, c1, A2, n2, c2, rfl, hOV, hEX⟩
        dsimp only
        have OV := hid (show OutV f seen _ w.heap.size _ N _ _ from hOV.low (HE.trans EX).size)
        replace EX := EX.trans hEX
        (try replace OB := hid (OB.out.ext hEX))
        clear hHeld hEX hOV IS
        refine hK.out _ _ (sK EX) (fun hHeld => ?_)
        clear hK K
        try simp only [Act.put, sq1, sq2, sq3, sq4, sq5, sq6]
        refine tk1 (i := 13) (v := ?v13a11) rfl ?y13a11 ?r13a11
        case y13a11 => (intro w' hSw; (try dsimp only at hSw); go_simp; (try with_reducible rfl))
        try simp only [Act.put, sq1, sq2, sq3, sq4, sq5, sq6]
        refine tk1 (i := 14) (v := ?v14a11) rfl ?y14a11 ?r14a11
        case y14a11 => (intro w' hSw; (try dsimp only at hSw); go_simp; (try with_reducible rfl))
        try simp only [Act.put, sq1, sq2, sq3, sq4, sq5, sq6]
        refine tk1 (i := 15) (v := ?v15a11) rfl ?y15a11 ?r15a11
        case y15a11 => (intro w' hSw; (try dsimp only at hSw); go_simp; (try with_reducible rfl))
        try simp only [Act.put, sq1, sq2, sq3, sq4, sq5, sq6]
        refine wpAnyH_ready (rs := [17]) (by kernel_rfl) (by simp) ?_
        refine AllReadyH.cons (o := _) rfl (fun K hK => ?_) AllReadyH.nil
        refine wp_store_mid 100 _ _ rfl _ 0 #[.int .i64 (N : Int), .slice A1 n1 c1, .slice A2 n2 c2] rfl rfl (blk_there OB.out rfl) infoOut (out_one N A1 n1 c1 A2 n2 c2) ?_
        have OB2 := hid (Blk.fill3 OB.out (.int .i64 (N : Int)) (.slice A1 n1 c1) (.slice A2 n2 c2))
        have EX2 := ext_setCells EX LOB [.int .i64 (N : Int), .slice A1 n1 c1, .slice A2 n2 c2] 0
        have OV2 := hid (OV.out.apart (grown_setCells [.int .i64 (N : Int), .slice A1 n1 c1, .slice A2 n2 c2] 0) (Apart.blk OB.out (by decide)) (Apart.blk OB.out (by decide)) (Apart.blk OB.out (by decide)))
        clear hHeld
        refine hK.out _ _ (sK EX2) (fun hHeld => ?_)
        clear hK K
        try simp only [Act.put, sq1, sq2, sq3, sq4, sq5, sq6]
        refine tk1 (i := 18) (v := ?v18ea11) rfl ?y18ea11 ?r18ea11
        case y18ea11 => (intro w' hSw; (try dsimp only at hSw); go_simp; (try with_reducible rfl))
        try simp only [Act.put, sq1, sq2, sq3, sq4, sq5, sq6]
        refine wpAnyH_done (by kernel_rfl) ?_ _
        exact REST _ _ N A1 n1 c1 A2 n2 c2 _ EX2 LOB OB2 OV2.out
    · go_simp
      obtain ⟨Y, hY⟩ := absW EX (.cells #[.int .i64 0, .slice none 0 0, .slice none 0 0] 100)
      have OB := hid (blkNew EX 100 #[.int .i64 0, .slice none 0 0, .slice none 0 0])
      have LOB := EX.size
      replace EX := EX.alloc (.cells #[.int .i64 0, .slice none 0 0, .slice none 0 0] 100)
      (try replace IS := hid (IS.out.ext (ext_alloc1 _ (.cells #[.int .i64 0, .slice none 0 0, .slice none 0 0] 100))))
      (try replace OV := hid (OV.out.ext (ext_alloc1 _ (.cells #[.int .i64 0, .slice none 0 0, .slice none 0 0] 100))))
      rw [hY] at EX OB ⊢
      (try rw [hY] at IS)
      (try rw [hY] at OV)
      clear hHeld hY
      refine hK.out _ _ (sK EX) (fun hHeld => ?_)
      clear hK K
      try simp only [Act.put, sq1, sq2, sq3, sq4, sq5, sq6]
      refine wpAnyH_ready (rs := [6]) (by kernel_rfl) (by simp) ?_
      refine AllReadyH.cons (o := _) rfl (fun K hK => ?_) AllReadyH.nil
      go_simp
      refine Calls.mono (HS.out _ (HE.trans EX)) ?_
      rintro e X ⟨rfl, hEX⟩
      dsimp only
      replace EX := EX.trans hEX
      (try replace OB := hid (OB.out.ext hEX))
      (try replace IS := hid (IS.out.ext hEX))
      clear hHeld hEX
      refine hK.out _ _ (sK EX) (fun hHeld => ?_)
      clear hK K
      try simp only [Act.put, sq1, sq2, sq3, sq4, sq5, sq6]
      refine wpAnyH_ready (rs := [8]) (by kernel_rfl) (by simp) ?_
      refine AllReadyH.cons (o := _) rfl (fun K hK => ?_) AllReadyH.nil
      go_simp
      refine Calls.mono (HL.out _ (HE.trans EX)) ?_
      rintro e X ⟨rfl, hEX⟩
      dsimp only
      replace EX := EX.trans hEX
      (try replace OB := hid (OB.out.ext hEX))
      (try replace IS := hid (IS.out.ext hEX))
      clear hHeld hEX
      refine hK.out _ _ (sK EX) (fun hHeld => ?_)
      clear hK K
      try simp only [Act.put, sq1, sq2, sq3, sq4, sq5, sq6]
      refine wpAnyH_ready (rs := [10]) (by kernel_rfl) (by simp) ?_
      refine AllReadyH.cons (o := _) rfl (fun K hK => ?_) AllReadyH.nil
      go_simp
      refine Calls.mono (HG.out _) ?_
      rintro e X ⟨rfl, rfl⟩
      dsimp only
      clear hHeld
      refine hK.out _ _ (sK EX) (fun hHeld => ?_)
      clear hK K
      try simp only [Act.put, sq1, sq2, sq3, sq4, sq5, sq6]
      refine wpAnyH_ready (rs := [11]) (by kernel_rfl) (by simp) ?_
      refine AllReadyH.cons (o := _) rfl (fun K hK => ?_) AllReadyH.nil
      go_simp
      obtain ⟨Y, hY⟩ := absW EX (.cells #[.int .i64 e1, .int .i64 e2, .int .i64 e3, .int .i64 e4] 36)
      have IS := hid (intsNew EX [e1, e2, e3, e4] #[.int .i64 e1, .int .i64 e2, .int .i64 e3, .int .i64 e4] rfl)
      (try replace OB := hid (OB.out.alloc (.cells #[.int .i64 e1, .int .i64 e2, .int .i64 e3, .int .i64 e4] 36)))
      replace EX := EX.alloc (.cells #[.int .i64 e1, .int .i64 e2, .int .i64 e3, .int .i64 e4] 36)
      rw [hY] at EX IS ⊢
      (try rw [hY] at OB)
      clear hHeld hY
      refine hK.out _ _ (sK EX) (fun hHeld => ?_)
      clear hK K
      try simp only [Act.put, sq1, sq2, sq3, sq4, sq5, sq6]
      refine wpAnyH_ready (rs := [12]) (by kernel_rfl) (by simp) ?_
      refine AllReadyH.cons (o := _) rfl (fun K hK => ?_) AllReadyH.nil
      go_simp
      refine Calls.mono (HB.out _ (HE.trans EX) _ IS.out) ?_
      rintro e X ⟨N, A1, n1, c1, A2, n2, c2, rfl, hOV, hEX⟩
      dsimp only
      have OV := hid (show OutV f seen _ w.heap.size _ N _ _ from hOV.low (HE.trans EX).size)
      replace EX := EX.trans hEX
      (try replace OB := hid (OB.out.ext hEX))
      clear hHeld hEX hOV IS
      refine hK.out _ _ (sK EX) (fun hHeld => ?_)
      clear hK K
      try simp only [Act.put, sq1, sq2, sq3, sq4, sq5, sq6]
      refine tk1 (i := 13) (v := ?v13a12) rfl ?y13a12 ?r13a12
      case y13a12 => (intro w' hSw; (try dsimp only at hSw); go_simp; (try with_reducible rfl))
      try simp only [Act.put, sq1, sq2, sq3, sq4, sq5, sq6]
      refine tk1 (i := 14) (v := ?v14a12) rfl ?y14a12 ?r14a12
      case y14a12 => (intro w' hSw; (try dsimp only at hSw); go_simp; (try with_reducible rfl))
      try simp only [Act.put, sq1, sq2, sq3, sq4, sq5, sq6]
      refine tk1 (i := 15) (v := ?v15a12) rfl ?y15a12 ?r15a12
      case y15a12 => (intro w' hSw; (try dsimp only at hSw); go_simp; (try with_reducible rfl))
      try simp only [Act.put, sq1, sq2, sq3, sq4, sq5, sq6]
      refine wpAnyH_ready (rs := [17]) (by kernel_rfl) (by simp) ?_
      refine AllReadyH.cons (o := _) rfl (fun K hK => ?_) AllReadyH.nil
      refine wp_store_mid 100 _ _ rfl _ 0 #[.int .i64 (N : Int), .slice A1 n1 c1, .slice A2 n2 c2] rfl rfl (blk_there OB.out rfl) infoOut (out_one N A1 n1 c1 A2 n2 c2) ?_
      have OB2 := hid (Blk.fill3 OB.out (.int .i64 (N : Int)) (.slice A1 n1 c1) (.slice A2 n2 c2))
      have EX2 := ext_setCells EX LOB [.int .i64 (N : Int), .slice A1 n1 c1, .slice A2 n2 c2] 0
      have OV2 := hid (OV.out.apart (grown_setCells [.int .i64 (N : Int), .slice A1 n1 c1, .slice A2 n2 c2] 0) (Apart.blk OB.out (by decide)) (Apart.blk OB.out (by decide)) (Apart.blk OB.out (by decide)))
      clear hHeld
      refine hK.out _ _ (sK EX2) (fun hHeld => ?_)
      clear hK K
      try simp only [Act.put, sq1, sq2, sq3, sq4, sq5, sq6]
      refine tk1 (i := 18) (v := ?v18ea12) rfl ?y18ea12 ?r18ea12
      case y18ea12 => (intro w' hSw; (try dsimp only at hSw); go_simp; (try with_reducible rfl))
      try simp only [Act.put, sq1, sq2, sq3, sq4, sq5, sq6]
      refine wpAnyH_done (by kernel_rfl) ?_ _
      exact REST _ _ N A1 n1 c1 A2 n2 c2 _ EX2 LOB OB2 OV2.out
  · go_simp
    obtain ⟨Y, hY⟩ := absW EX (.cells #[.int .i64 0, .slice none 0 0, .slice none 0 0] 100)
    have OB := hid (blkNew EX 100 #[.int .i64 0, .slice none 0 0, .slice none 0 0])
    have LOB := EX.size
    replace EX := EX.alloc (.cells #[.int .i64 0, .slice none 0 0, .slice none 0 0] 100)
    (try replace IS := hid (IS.out.ext (ext_alloc1 _ (.cells #[.int .i64 0, .slice none 0 0, .slice none 0 0] 100))))
    (try replace OV := hid (OV.out.ext (ext_alloc1 _ (.cells #[.int .i64 0, .slice none 0 0, .slice none 0 0] 100))))
    rw [hY] at EX OB ⊢
    (try rw [hY] at IS)
    (try rw [hY] at OV)
    clear hHeld hY
    refine hK.out _ _ (sK EX) (fun hHeld => ?_)
    clear hK K
    try simp only [Act.put, sq1, sq2, sq3, sq4, sq5, sq6]
    refine wpAnyH_ready (rs := [3]) (by kernel_rfl) (by simp) ?_
    refine AllReadyH.cons (o := _) rfl (fun K hK => ?_) AllReadyH.nil
    go_simp
    refine Calls.mono (HC.out _ (HE.trans EX)) ?_
    rintro e X ⟨rfl, hEX⟩
    dsimp only
    replace EX := EX.trans hEX
    (try replace OB := hid (OB.out.ext hEX))
    (try replace IS := hid (IS.out.ext hEX))
    clear hHeld hEX
    refine hK.out _ _ (sK EX) (fun hHeld => ?_)
    clear hK K
    try simp only [Act.put, sq1, sq2, sq3, sq4, sq5, sq6]
    refine wpAnyH_ready (rs := [6]) (by kernel_rfl) (by simp) ?_
    refine AllReadyH.cons (o := _) rfl (fun K hK => ?_) AllReadyH.nil
    go_simp
    refine Calls.mono (HS.out _ (HE.trans EX)) ?_
    rintro e X ⟨rfl, hEX⟩
    dsimp only
    replace EX := EX.trans hEX
    (try replace OB := hid (OB.out.ext hEX))
    (try replace IS := hid (IS.out.ext hEX))
    clear hHeld hEX
    refine hK.out _ _ (sK EX) (fun hHeld => ?_)
    clear hK K
    try simp only [Act.put, sq1, sq2, sq3, sq4, sq5, sq6]
    refine wpAnyH_ready (rs := [8]) (by kernel_rfl) (by simp) ?_
    refine AllReadyH.cons (o := _) rfl (fun K hK => ?_) AllReadyH.nil
    go_simp
    refine Calls.mono (HL.out _ (HE.trans EX)) ?_
    rintro e X ⟨rfl, hEX⟩
    dsimp only
    replace EX := EX.trans hEX
    (try replace OB := hid (OB.out.ext hEX))
    (try replace IS := hid (IS.out.ext hEX))
    clear hHeld hEX
    refine hK.out _ _ (sK EX) (fun hHeld => ?_)
    clear hK K
    try simp only [Act.put, sq1, sq2, sq3, sq4, sq5, sq6]
    refine wpAnyH_ready (rs := [10]) (by kernel_rfl) (by simp) ?_
    refine AllReadyH.cons (o := _) rfl (fun K hK => ?_) AllReadyH.nil
    go_simp
    refine Calls.mono (HG.out _) ?_
    rintro e X ⟨rfl, rfl⟩
    dsimp only
    clear hHeld
    refine hK.out _ _ (sK EX) (fun hHeld => ?_)
    clear hK K
    try simp only [Act.put, sq1, sq2, sq3, sq4, sq5, sq6]
    refine wpAnyH_ready (rs := [11]) (by kernel_rfl) (by simp) ?_
    refine AllReadyH.cons (o := _) rfl (fun K hK => ?_) AllReadyH.nil
    go_simp
    obtain ⟨Y, hY⟩ := absW EX (.cells #[.int .i64 e1, .int .i64 e2, .int .i64 e3, .int .i64 e4] 36)
    have IS := hid (intsNew EX [e1, e2, e3, e4] #[.int .i64 e1, .int .i64 e2, .int .i64 e3, .int .i64 e4] rfl)
    (try replace OB := hid (OB.out.alloc (.cells #[.int .i64 e1, .int .i64 e2, .int .i64 e3, .int .i64 e4] 36)))
    replace EX := EX.alloc (.cells #[.int .i64 e1, .int .i64 e2, .int .i64 e3, .int .i64 e4] 36)
    rw [hY] at EX IS ⊢
    (try rw [hY] at OB)
    clear hHeld hY
    refine hK.out _ _ (sK EX) (fun hHeld => ?_)
    clear hK K
    try simp only [Act.put, sq1, sq2, sq3, sq4, sq5, sq6]
    refine wpAnyH_ready (rs := [12]) (by kernel_rfl) (by simp) ?_
    refine AllReadyH.cons (o := _) rfl (fun K hK => ?_) AllReadyH.nil
    go_simp
    refine Calls.mono (HB.out _ (HE.trans EX) _ IS.out) ?_
    rintro e X ⟨N, A1, n1, c1, A2, n2, c2, rfl, hOV, hEX⟩
    dsimp only
    have OV := hid (show OutV f seen _ w.heap.size _ N _ _ from hOV.low (HE.trans EX).size)
    replace EX := EX.trans hEX
    (try replace OB := hid (OB.out.ext hEX))
    clear hHeld hEX hOV IS
    refine hK.out _ _ (sK EX) (fun hHeld => ?_)
    clear hK K
    try simp only [Act.put, sq1, sq2, sq3, sq4, sq5, sq6]
    refine tk1 (i := 13) (v := ?v13a13) rfl ?y13a13 ?r13a13
    case y13a13 => (intro w' hSw; (try dsimp only at hSw); go_simp; (try with_reducible rfl))
    try simp only [Act.put, sq1, sq2, sq3, sq4, sq5, sq6]
    refine tk1 (i := 14) (v := ?v14a13) rfl ?y14a13 ?r14a13
    case y14a13 => (intro w' hSw; (try dsimp only at hSw); go_simp; (try with_reducible rfl))
    try simp only [Act.put, sq1, sq2, sq3, sq4, sq5, sq6]
    refine tk1 (i := 15) (v := ?v15a13) rfl ?y15a13 ?r15a13
    case y15a13 => (intro w' hSw; (try dsimp only at hSw); go_simp; (try with_reducible rfl))
    try simp only [Act.put, sq1, sq2, sq3, sq4, sq5, sq6]
    refine wpAnyH_ready (rs := [17]) (by kernel_rfl) (by simp) ?_
    refine AllReadyH.cons (o := _) rfl (fun K hK => ?_) AllReadyH.nil
    refine wp_store_mid 100 _ _ rfl _ 0 #[.int .i64 (N : Int), .slice A1 n1 c1, .slice A2 n2 c2] rfl rfl (blk_there OB.out rfl) infoOut (out_one N A1 n1 c1 A2 n2 c2) ?_
    have OB2 := hid (Blk.fill3 OB.out (.int .i64 (N : Int)) (.slice A1 n1 c1) (.slice A2 n2 c2))
    have EX2 := ext_setCells EX LOB [.int .i64 (N : Int), .slice A1 n1 c1, .slice A2 n2 c2] 0
    have OV2 := hid (OV.out.apart (grown_setCells [.int .i64 (N : Int), .slice A1 n1 c1, .slice A2 n2 c2] 0) (Apart.blk OB.out (by decide)) (Apart.blk OB.out (by decide)) (Apart.blk OB.out (by decide)))
    clear hHeld
    refine hK.out _ _ (sK EX2) (fun hHeld => ?_)
    clear hK K
    try simp only [Act.put, sq1, sq2, sq3, sq4, sq5, sq6]
    refine tk1 (i := 18) (v := ?v18ea13) rfl ?y18ea13 ?r18ea13
    case y18ea13 => (intro w' hSw; (try dsimp only at hSw); go_simp; (try with_reducible rfl))
    try simp only [Act.put, sq1, sq2, sq3, sq4, sq5, sq6]
    refine wpAnyH_done (by kernel_rfl) ?_ _
    exact REST _ _ N A1 n1 c1 A2 n2 c2 _ EX2 LOB OB2 OV2.out
end Go.Proofs.YtecamnhnjmldcaaGreatDoor
