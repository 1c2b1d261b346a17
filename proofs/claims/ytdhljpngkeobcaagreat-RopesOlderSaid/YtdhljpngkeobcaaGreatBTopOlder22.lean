/- The program's last day, and Until. -/
import Derived.Test.YtdhljpngkeobcaaGreatB08
import Derived.Test.YtdhljpngkeobcaaGreatB19
import Derived.Test.YtdhljpngkeobcaaGreatB02
import Derived.Test.YtdhljpngkeobcaaGreatB01
set_option linter.unusedSimpArgs false
set_option linter.unusedVariables false
namespace Go.Proofs.YtdhljpngkeobcaaGreat
open Go.RowKit
set_option maxRecDepth 100000 in
set_option maxHeartbeats 2000000 in
theorem latest_any (m : Md) (r : Ro) (A : Option Addr) (c : Nat) (B : Option Addr) (d : Nat) (hr : r.falls.length ≤ 1000) (w : World) (hy : FlsAt w B r.falls) :
    Calls Tryz.prog 62 #[cordV m r A c B d] w fun e w' => e = .returned (.int .i64 (lateN r)) ∧ Ext w w' := by
  have HX := hid hy
  unfold cordV
  obtain ⟨sh, us, be, ws⟩ := m
  obtain ⟨ma, fi, le, fs⟩ := r
  dsimp only at *
  generalize ws.length = nw at *
  obtain ⟨n, hn⟩ : ∃ n, fs.length = n := ⟨_, rfl⟩
  rw [hn] at hr ⊢
  have HN := hid hn
  have HE := hid (fun j (hj : n ≤ j) => show (fs.take j).foldl (fun n f => max n f.day) (max ma fi) = lateN ⟨ma, fi, le, fs⟩ by
    rw [List.take_of_length_le (by omega)]; rfl)
  have HS0 := hid (fun j (hj : j < fs.length) => foldl_take_snoc fs (fun (n : Int) f => max n f.day) (max ma fi) zeroFl j hj)
  generalize lateN ⟨ma, fi, le, fs⟩ = R at *
  obtain ⟨m0, hm0⟩ : ∃ m0, max ma fi = m0 := ⟨_, rfl⟩
  rw [hm0] at HE HS0
  have HM := hid hm0
  clear hy hn hm0
  go_enter Tryz.func62, Tryz.ntmps62
  go_wp2
  all_goals (
    go_loopw [3, 17] (fun v i wr => Ext w wr ∧ ∃ j : Nat, j ≤ n ∧ i = .int .i64 j ∧ v = .int .i64 ((fs.take j).foldl (fun n f => max n f.day) m0)) (fun _ i _ => n - (intOf i).toNat)
    case atStart => exact ⟨by (repeat' (first | with_reducible assumption | with_reducible exact Ext.refl _ | with_reducible refine Ext.alloc ?_ _ | with_reducible refine Ext.set ?_ ?_ _ | with_reducible refine Ext.drew ?_ | with_reducible refine Ext.drewN ?_ _ | with_reducible refine Ext.trans ?_ (by assumption) | (dsimp only; omega))), 0, Nat.zero_le _, rfl, by first | (rw [← HM.out]; done) | (rw [← HM.out]; first | (simp; done) | (simp; omega))⟩
    case round =>
      obtain ⟨hE, j, hj, rfl, rfl⟩ := hrel
      by_cases hlt : j < n
      · obtain ⟨b, off, rfl, hb, hck⟩ := (HX.out.ext hE).at_ HN.out hlt
        have HS := hid (HS0.out j (by rw [HN.out]; omega))
        have hj0 : (0 : Int) ≤ (j : Int) := by omega
        have hj1 : (j : Int) < (n : Int) := by omega
        clear HX HS0 HE
        generalize fs.getD j zeroFl = x at *
        obtain ⟨fd, hl, hh, ol, oh⟩ := x
        obtain ⟨c0, c1, c2, c3, c4⟩ := hck
        dsimp only at *
        generalize (fs.take j).foldl (fun n f => max n f.day) m0 = y at *
        go_wp2
        all_goals (
          go_roundw
          case rel => exact ⟨by (repeat' (first | with_reducible assumption | with_reducible exact Ext.refl _ | with_reducible refine Ext.alloc ?_ _ | with_reducible refine Ext.set ?_ ?_ _ | with_reducible refine Ext.drew ?_ | with_reducible refine Ext.drewN ?_ _ | with_reducible refine Ext.trans ?_ (by assumption) | (dsimp only; omega))), j + 1, by omega, by go_num, by first | (rw [HS.out]; done) | (rw [HS.out]; first | (simp; done) | (simp; omega))⟩
          case measure => simp [intOf]; omega)
      · have HP := hid (HE.out j (by omega))
        clear HS0 HE
        generalize (fs.take j).foldl (fun n f => max n f.day) m0 = y at *
        go_wp2
        go_ret
        exact ⟨ret_int HP.out, by (repeat' (first | with_reducible assumption | with_reducible exact Ext.refl _ | with_reducible refine Ext.alloc ?_ _ | with_reducible refine Ext.set ?_ ?_ _ | with_reducible refine Ext.drew ?_ | with_reducible refine Ext.drewN ?_ _ | with_reducible refine Ext.trans ?_ (by assumption) | (dsimp only; omega)))⟩)
theorem takE_ok {m : Md} {r : Ro} (h : takE m r = 0) : mdB m = true ∧ roB r = true := by
  unfold takE at h
  cases h1 : mdB m <;> cases h2 : roB r <;> simp [h1, h2] at h ⊢
def untV (m : Md) (r : Ro) : Int := if takE m r = 0 then untN m r else 0
set_option maxRecDepth 100000 in
set_option maxHeartbeats 4000000 in
theorem puntil_any (m : Md) (r : Ro) (A : Option Addr) (c : Nat) (B : Option Addr) (d : Nat) (hm : m.wears.length ≤ 1000) (hr : r.falls.length ≤ 1000) (w : World) (hx : WrsAt w A m.wears) (hy : FlsAt w B r.falls) :
    Calls Tryz.prog 21 #[m.val A c, r.val B d] w fun e w' => e = .returned (.tuple #[.int .i64 (untV m r), .int .i64 (takE m r)]) ∧ Ext w w' := by
  have HT := hid (fun (W : World) (hE : Ext w W) => take_any m r A c B d hm hr W (hx.ext hE) (hy.ext hE))
  have HL := hid (fun (W : World) (hE : Ext w W) => latest_any m r A c B d hr W (hy.ext hE))
  have HS := hid (fun (a : mdB m = true) (b : roB r = true) D (W : World) (hE : Ext w W) => isSurelyFit_any m r A c B d D a b W (hx.ext hE) (hy.ext hE))
  have HX := hid (fun (a : mdB m = true) (b : roB r = true) (W : World) => expiry_any m r A c B d a b W)
  clear hx hy
  by_cases h0 : takE m r = 0
  · have hv : untV m r = untN m r := by unfold untV; rw [if_pos h0]
    obtain ⟨h1, h2⟩ := takE_ok h0
    have HS2 := hid (HS.out h1 h2 (lateN r))
    replace HX := hid (HX.out h1 h2)
    have HU := hid (show untN m r = if sureB m r (lateN r) then min (expN m r) 99999 else -1 from rfl)
    rw [hv, h0]
    simp only [h0, if_pos] at HT
    clear hv h0 h1 h2 HS
    generalize untN m r = U at *
    generalize sureB m r (lateN r) = sb at *
    generalize lateN r = LN at *
    generalize expN m r = EN at *
    unfold cordV at *
    obtain ⟨sh, us, be, ws⟩ := m
    obtain ⟨ma, fi, le, fs⟩ := r
    unfold Md.val Ro.val at *
    dsimp only at *
    generalize ws.length = n at *
    generalize fs.length = k at *
    go_enter Tryz.func21, Tryz.ntmps21
    go_wp2_with fail
    refine Calls.mono (HT.out _ (by (repeat' (first | with_reducible assumption | with_reducible exact Ext.refl _ | with_reducible refine Ext.alloc ?_ _ | with_reducible refine Ext.set ?_ ?_ _ | with_reducible refine Ext.drew ?_ | with_reducible refine Ext.drewN ?_ _ | with_reducible refine Ext.trans ?_ (by assumption) | (dsimp only; omega))))) ?_
    rintro e w2 ⟨rfl, hE⟩
    have TE := hid (show Ext w w2 by (repeat' (first | with_reducible assumption | with_reducible exact Ext.refl _ | with_reducible refine Ext.alloc ?_ _ | with_reducible refine Ext.set ?_ ?_ _ | with_reducible refine Ext.drew ?_ | with_reducible refine Ext.drewN ?_ _ | with_reducible refine Ext.trans ?_ (by assumption) | (dsimp only; omega))))
    clear hE HT
    go_wp2_with fail
    refine wp_absW (fun X => Blk X w2.heap.size 102 #[.int .i64 sh, .int .i64 us, .int .i64 be, .slice A n c, .int .i64 ma, .int .i64 fi, .int .i64 le, .slice B k d] ∧ Ext w X) ⟨blk_last _ _, TE.out.alloc _⟩ ?_
    rintro W ⟨u1, hE⟩
    have HE := hid hE
    have U1 := hid u1
    clear hE TE
    obtain ⟨k0, k1, k2, k3, k4, k5, k6, k7⟩ : _ ∧ _ ∧ _ ∧ _ ∧ _ ∧ _ ∧ _ ∧ _ := ⟨u1.cell 0, u1.cell 1, u1.cell 2, u1.cell 3, u1.cell 4, u1.cell 5, u1.cell 6, u1.cell 7⟩
    have kz := u1.lt
    simp only [List.getElem?_toArray, List.getElem?_cons_zero, List.getElem?_cons_succ] at k0 k1 k2 k3 k4 k5 k6 k7
    clear u1
    refine wp_region_held_drew (S := fun w' => (∀ b o, b < W.heap.size → w'.cell? ⟨b, o, none⟩ = W.cell? ⟨b, o, none⟩) ∧ W.heap.size ≤ w'.heap.size ∧ Ext W w') (by kernel_rfl) ?hS0 (fun hHeld => ?_)
    case hS0 => exact sK (Ext.drew (Ext.refl _))
    have X0 : Ext W W.drew := Ext.drew (Ext.refl W)
    refine tk1 (i := 0) (v := ?v0a) rfl ?y0a ?r0a
    case y0a => (intro w' hSw; (try dsimp only at hSw); go_simp; (try with_reducible rfl))
    try simp only [Act.put, sq1, sq2, sq3, sq4, sq5, sq6]
    refine tk1 (i := 1) (v := ?v1a) rfl ?y1a ?r1a
    case y1a => (intro w' hSw; (try dsimp only at hSw); go_simp; (try with_reducible rfl))
    try simp only [Act.put, sq1, sq2, sq3, sq4, sq5, sq6]
    refine wpAnyH_ready (rs := [2]) (by kernel_rfl) (by simp) ?_
    refine AllReadyH.cons (o := _) rfl (fun K hK => ?_) AllReadyH.nil
    go_simp
    refine Calls.mono (HL.out _ (HE.out.trans X0)) ?_
    rintro e w1 ⟨rfl, hE1⟩
    dsimp only
    have X1 := X0.trans hE1
    clear hHeld
    refine hK.out _ _ (sK X1) (fun hHeld => ?_)
    clear hK K
    try simp only [Act.put, sq1, sq2, sq3, sq4, sq5, sq6]
    refine wpAnyH_ready (rs := [3]) (by kernel_rfl) (by simp) ?_
    refine AllReadyH.cons (o := _) rfl (fun K hK => ?_) AllReadyH.nil
    go_simp
    refine Calls.mono (HS2.out _ (HE.out.trans X1)) ?_
    rintro e w2 ⟨rfl, hE2⟩
    dsimp only
    have X2 := X1.trans hE2
    clear hHeld
    refine hK.out _ _ (sK X2) (fun hHeld => ?_)
    clear hK K
    try simp only [Act.put, sq1, sq2, sq3, sq4, sq5, sq6]
    refine tk1 (i := 4) (v := ?v4c) rfl ?y4c ?r4c
    case y4c => (intro w' hSw; (try dsimp only at hSw); go_simp; (try with_reducible rfl))
    try simp only [Act.put, sq1, sq2, sq3, sq4, sq5, sq6]
    refine wpAnyH_done (by kernel_rfl) ?_ _
    have HX2 := hid (HE.out.trans X2)
    have u2 := U1.out.ext X2
    clear hHeld k0 k1 k2 k3 k4 k5 k6 k7 kz
    obtain ⟨k0, k1, k2, k3, k4, k5, k6, k7⟩ : _ ∧ _ ∧ _ ∧ _ ∧ _ ∧ _ ∧ _ ∧ _ := ⟨u2.cell 0, u2.cell 1, u2.cell 2, u2.cell 3, u2.cell 4, u2.cell 5, u2.cell 6, u2.cell 7⟩
    simp only [List.getElem?_toArray, List.getElem?_cons_zero, List.getElem?_cons_succ] at k0 k1 k2 k3 k4 k5 k6 k7
    clear u2 X0 X1 X2 hE1 hE2
    cases sb
    case false =>
      simp only [Bool.false_eq_true, if_false] at HU
      go_wp2
      go_ret2
      exact ⟨by rw [HU.out]; rfl, HX2.out⟩
    simp only [if_pos] at HU
    go_wp2_with fail
    refine Calls.mono (HX.out _) ?_
    rintro e w9 ⟨rfl, hE⟩
    have HX9 := hid (HX2.out.trans hE)
    clear hE
    go_wp2
    all_goals (go_ret2; exact ⟨by first | (rw [HU.out]; done) | (rw [HU.out]; first | (simp; done) | (simp; omega)), HX9.out⟩)
  · have hv : untV m r = 0 := by unfold untV; rw [if_neg h0]
    rw [hv]
    simp only [h0, if_false] at HT
    clear hv HS HX HL
    obtain ⟨E, hE0⟩ : ∃ E, takE m r = E := ⟨_, rfl⟩
    rw [hE0] at h0 HT ⊢
    clear hE0
    unfold zeroC at *
    obtain ⟨sh, us, be, ws⟩ := m
    obtain ⟨ma, fi, le, fs⟩ := r
    unfold Md.val Ro.val at *
    dsimp only at *
    generalize ws.length = n at *
    generalize fs.length = k at *
    have h0' : (E == 0) = false := by simp; exact h0
    go_enter Tryz.func21, Tryz.ntmps21
    go_wp2_with fail
    refine Calls.mono (HT.out _ (by (repeat' (first | with_reducible assumption | with_reducible exact Ext.refl _ | with_reducible refine Ext.alloc ?_ _ | with_reducible refine Ext.set ?_ ?_ _ | with_reducible refine Ext.drew ?_ | with_reducible refine Ext.drewN ?_ _ | with_reducible refine Ext.trans ?_ (by assumption) | (dsimp only; omega))))) ?_
    rintro e w2 ⟨rfl, hE⟩
    have TE := hid (show Ext w w2 by (repeat' (first | with_reducible assumption | with_reducible exact Ext.refl _ | with_reducible refine Ext.alloc ?_ _ | with_reducible refine Ext.set ?_ ?_ _ | with_reducible refine Ext.drew ?_ | with_reducible refine Ext.drewN ?_ _ | with_reducible refine Ext.trans ?_ (by assumption) | (dsimp only; omega))))
    clear hE HT
    go_wp2_with fail
    go_ret2
    exact ⟨rfl, TE.out.alloc _⟩
end Go.Proofs.YtdhljpngkeobcaaGreat
/- Copies of models and ropes. -/
set_option linter.unusedSimpArgs false
set_option linter.unusedVariables false
namespace Go.Proofs.YtdhljpngkeobcaaGreat
open Go.RowKit
def gFl (x : Fl) : List Value := [.int .i64 x.day, .int .i64 x.hl, .int .i64 x.hh, .int .i64 x.ol, .int .i64 x.oh]
theorem infoFl : (Tryz.prog.info? 75).map (fun i => (i.zero, i.size, i.bytes)) = some (some (.agg #[.int .i64 0, .int .i64 0, .int .i64 0, .int .i64 0, .int .i64 0]), 5, 40) := by kernel_rfl
theorem oneFl : ∀ y : Fl, ∀ u ∈ gFl y, u.oneCell' = true := by
  intro y u hu
  simp only [gFl, List.mem_cons, List.not_mem_nil, or_false] at hu
  rcases hu with rfl | rfl | rfl | rfl | rfl <;> rfl
theorem append_noFl (z : Nat) (A : Option Addr) (c : Nat) (ty : TypeId) (w : World) : (Builtin.append_ #[25, 25] ty #[.slice (some ⟨z, 0, none⟩) 0 0, .slice A 0 c]).run Tryz.prog w = .ok (.slice (some ⟨z, 0, none⟩) 0 0) w := by
  obtain ⟨i0, hi, hz0, hz1, hz2⟩ := info_parts infoFl
  cases A with
  | none => simp [Builtin.append_, run_underlying Tryz.underlying25, sizeOf, typeInfo, hi, Builtin.lenOf, Builtin.firstCells, loadCells, loadCellsFrom, storeCells]
  | some ad => simp [Builtin.append_, run_underlying Tryz.underlying25, sizeOf, typeInfo, hi, Builtin.lenOf, Builtin.firstCells, loadCells, loadCellsFrom, storeCells]
theorem wp_appAllFl {o : Oper} {a : Act} {K : Act → World → Prop} {Q : Exit → Act → World → Prop} (w : World) (s x : Operand)
    (ho : o.op = .call { callee := .builtin .append, args := #[s, x], argTypes := #[25, 25] }) (B z : Nat) (A : Option Addr) (c : Nat) (os : List Fl) (hs : a.eval s = .slice (some ⟨z, 0, none⟩) 0 0) (hz : Blk w z 75 #[]) (hBz : B ≤ z)
    (n : Nat) (hn : os.length = n) (hx : a.eval x = .slice A n c) (hO : FlsAt w A os) (hl : n ≤ 10000)
    (h : ∀ v' w', Ownl 75 5 gFl w' B v' os → w.grownBy w' (some z) → K (a.put o.dst v') w') : o.wp Tryz.prog a w K Q := by
  subst hn
  have hlt := hz.lt
  have h0r : w.ownsRow B 75 5 (.slice (some ⟨z, 0, none⟩) 0 0) 0 [] := ⟨rfl, .inr ⟨z, 0, #[], rfl, hBz, hz, Nat.le_refl _, Nat.zero_le _, rfl, rfl⟩⟩
  by_cases h0 : os = []
  · subst h0
    have hr := append_noFl z A c o.type w
    unfold Oper.wp execOp
    simp only [ho, resolve, invoke, builtin, Sem.run_bind, Sem.run_pure, Result.andThen_ok, List.map_toArray, List.map_cons, List.map_nil, hs, hx, List.length_nil, hr]
    exact h (.slice (some ⟨z, 0, none⟩) 0 0) w h0r ⟨rfl, rfl, rfl, Nat.le_refl _, fun _ _ _ => rfl⟩
  · obtain ⟨b, off, rfl, hb, hc⟩ := hO h0
    obtain ⟨i0, hi, hz0, hz1, hz2⟩ := info_parts infoFl
    refine wp_append_own w s x 25 ho B 75 i0 _ 5 40 Tryz.underlying25 hi hz0 hz1 hz2 rfl (by decide) (.slice (some ⟨z, 0, none⟩) 0 0) 0 [] hs h0r ⟨b, off, none⟩ os.length c (os.flatMap gFl) hx (fm_len gFl 5 (fun _ => rfl) os) (flat_from (s := 5) (g := gFl) (d := zeroFl) (by decide) (fun _ => rfl) (fun k hk r hr => ?_)) (fun u hu => ?_) (by unfold maxLen; omega) (by omega) (by omega) (fun v' w' h1 h2 h3 => ?_)
    · have hkk := hc k hk
      generalize os.getD k zeroFl = y at *
      rw [← Nat.add_assoc]
      (match r, hr with
      | 0, _ => exact hkk.c0
      | 1, _ => exact hkk.c1
      | 2, _ => exact hkk.c2
      | 3, _ => exact hkk.c3
      | 4, _ => exact hkk.c4)
    · obtain ⟨y, -, hy⟩ := List.mem_flatMap.1 hu
      exact oneFl y u hy
    · rw [Nat.zero_add, List.nil_append] at h1
      exact h v' w' h1 h2
theorem wpList_appAllFl {ops : Array Oper} {rest : List Oper} {o : Oper} {a : Act} {Q : Exit → Act → World → Prop} (w : World) (hgd : o.guard = none) (s x : Operand)
    (ho : o.op = .call { callee := .builtin .append, args := #[s, x], argTypes := #[25, 25] }) (B z : Nat) (A : Option Addr) (c : Nat) (os : List Fl) (hs : a.eval s = .slice (some ⟨z, 0, none⟩) 0 0) (hz : Blk w z 75 #[]) (hBz : B ≤ z)
    (n : Nat) (hn : os.length = n) (hx : a.eval x = .slice A n c) (hO : FlsAt w A os) (hl : n ≤ 10000)
    (h : ∀ v' w', Ownl 75 5 gFl w' B v' os → w.grownBy w' (some z) → wpList Tryz.prog ops Q rest (a.put o.dst v') w') : wpList Tryz.prog ops Q (o :: rest) a w :=
  wpList_plain hgd fun _ hK => wp_appAllFl w s x ho B z A c os hs hz hBz n hn hx hO hl fun v' w' h1 h2 => hK _ _ (h v' w' h1 h2)
theorem flatFl {w : World} {A : Option Addr} {xs : List Fl} (h : FlatAt 5 gFl zeroFl w A xs) : FlsAt w A xs := fun hne => by
  obtain ⟨b, off, hA, hb, hc⟩ := h hne
  exact ⟨b, off, hA, hb, fun k hk => ⟨hc k hk 0 (by omega), hc k hk 1 (by omega), hc k hk 2 (by omega), hc k hk 3 (by omega), hc k hk 4 (by omega)⟩⟩
theorem ownFl {w : World} {B : Nat} {v : Value} {xs : List Fl} (h : Ownl 75 5 gFl w B v xs) : ∃ A c, v = .slice A xs.length c ∧ xs.length ≤ c ∧ FlsAt w A xs := by
  obtain ⟨A, c, h1, h2, h3, -⟩ := h.form (by decide) (fun _ => rfl) zeroFl
  exact ⟨A, c, h1, h2, flatFl h3⟩
theorem wpList_app1Fl {ops : Array Oper} {rest : List Oper} {o : Oper} {a : Act} {Q : Exit → Act → World → Prop} (w : World) (hg : o.guard = none) (s x : Operand)
    (hop : o.op = Op.call { callee := Callee.builtin Builtin.append, args := #[s, x], argTypes := #[25, 25] }) (B : Nat) (v : Value) (xs : List Fl) (hs : a.eval s = v) (hown : Ownl 75 5 gFl w B v xs)
    (z : Nat) (y : Fl) (hx : a.eval x = .slice (some ⟨z, 0, none⟩) 1 1) (hy : Blk w z 75 #[.int .i64 y.day, .int .i64 y.hl, .int .i64 y.hh, .int .i64 y.ol, .int .i64 y.oh]) (hl : xs.length ≤ 10000) (hB : B ≤ w.heap.size)
    (hK : ∀ v' w', Ownl 75 5 gFl w' B v' (xs ++ [y]) → w.grownBy w' v.ownBlock → (v'.ownBlock = v.ownBlock ∨ v'.ownBlock = some w.heap.size) → wpList Tryz.prog ops Q rest (a.put o.dst v') w') : wpList Tryz.prog ops Q (o :: rest) a w := by
  obtain ⟨i0, hi, hz0, hz1, hz2⟩ := info_parts infoFl
  refine wpList_append_own_at (w := w) hg s x 25 hop B 75 i0 _ 5 40 Tryz.underlying25 hi hz0 hz1 hz2 rfl (by decide) v xs.length (xs.flatMap gFl) hs hown ⟨z, 0, none⟩ 1 1 (gFl y) hx rfl ?_ (oneFl y) (by unfold maxLen; omega) (by omega) hB (fun v' w' h1 h2 _ h4 => hK v' w' (Ownl.snoc h1) h2 h4)
  intro j u hj
  rw [addr_add, Nat.zero_add, hy.cell]
  match j, hj with
  | 0, hj => exact hj
  | 1, hj => exact hj
  | 2, hj => exact hj
  | 3, hj => exact hj
  | 4, hj => exact hj
  | j + 5, hj => simp [gFl] at hj
def gWr (x : Wr) : List Value := [.int .i64 x.fac, .int .i64 x.dmg]
theorem infoWr : (Tryz.prog.info? 148).map (fun i => (i.zero, i.size, i.bytes)) = some (some (.agg #[.int .i64 0, .int .i64 0]), 2, 16) := by kernel_rfl
theorem oneWr : ∀ y : Wr, ∀ u ∈ gWr y, u.oneCell' = true := by
  intro y u hu
  simp only [gWr, List.mem_cons, List.not_mem_nil, or_false] at hu
  rcases hu with rfl | rfl <;> rfl
theorem append_noWr (z : Nat) (A : Option Addr) (c : Nat) (ty : TypeId) (w : World) : (Builtin.append_ #[22, 22] ty #[.slice (some ⟨z, 0, none⟩) 0 0, .slice A 0 c]).run Tryz.prog w = .ok (.slice (some ⟨z, 0, none⟩) 0 0) w := by
  obtain ⟨i0, hi, hz0, hz1, hz2⟩ := info_parts infoWr
  cases A with
  | none => simp [Builtin.append_, run_underlying Tryz.underlying22, sizeOf, typeInfo, hi, Builtin.lenOf, Builtin.firstCells, loadCells, loadCellsFrom, storeCells]
  | some ad => simp [Builtin.append_, run_underlying Tryz.underlying22, sizeOf, typeInfo, hi, Builtin.lenOf, Builtin.firstCells, loadCells, loadCellsFrom, storeCells]
theorem wp_appAllWr {o : Oper} {a : Act} {K : Act → World → Prop} {Q : Exit → Act → World → Prop} (w : World) (s x : Operand)
    (ho : o.op = .call { callee := .builtin .append, args := #[s, x], argTypes := #[22, 22] }) (B z : Nat) (A : Option Addr) (c : Nat) (os : List Wr) (hs : a.eval s = .slice (some ⟨z, 0, none⟩) 0 0) (hz : Blk w z 148 #[]) (hBz : B ≤ z)
    (n : Nat) (hn : os.length = n) (hx : a.eval x = .slice A n c) (hO : WrsAt w A os) (hl : n ≤ 10000)
    (h : ∀ v' w', Ownl 148 2 gWr w' B v' os → w.grownBy w' (some z) → K (a.put o.dst v') w') : o.wp Tryz.prog a w K Q := by
  subst hn
  have hlt := hz.lt
  have h0r : w.ownsRow B 148 2 (.slice (some ⟨z, 0, none⟩) 0 0) 0 [] := ⟨rfl, .inr ⟨z, 0, #[], rfl, hBz, hz, Nat.le_refl _, Nat.zero_le _, rfl, rfl⟩⟩
  by_cases h0 : os = []
  · subst h0
    have hr := append_noWr z A c o.type w
    unfold Oper.wp execOp
    simp only [ho, resolve, invoke, builtin, Sem.run_bind, Sem.run_pure, Result.andThen_ok, List.map_toArray, List.map_cons, List.map_nil, hs, hx, List.length_nil, hr]
    exact h (.slice (some ⟨z, 0, none⟩) 0 0) w h0r ⟨rfl, rfl, rfl, Nat.le_refl _, fun _ _ _ => rfl⟩
  · obtain ⟨b, off, rfl, hb, hc⟩ := hO h0
    obtain ⟨i0, hi, hz0, hz1, hz2⟩ := info_parts infoWr
    refine wp_append_own w s x 22 ho B 148 i0 _ 2 16 Tryz.underlying22 hi hz0 hz1 hz2 rfl (by decide) (.slice (some ⟨z, 0, none⟩) 0 0) 0 [] hs h0r ⟨b, off, none⟩ os.length c (os.flatMap gWr) hx (fm_len gWr 2 (fun _ => rfl) os) (flat_from (s := 2) (g := gWr) (d := zeroWr) (by decide) (fun _ => rfl) (fun k hk r hr => ?_)) (fun u hu => ?_) (by unfold maxLen; omega) (by omega) (by omega) (fun v' w' h1 h2 h3 => ?_)
    · have hkk := hc k hk
      generalize os.getD k zeroWr = y at *
      rw [← Nat.add_assoc]
      (match r, hr with
      | 0, _ => exact hkk.c0
      | 1, _ => exact hkk.c1)
    · obtain ⟨y, -, hy⟩ := List.mem_flatMap.1 hu
      exact oneWr y u hy
    · rw [Nat.zero_add, List.nil_append] at h1
      exact h v' w' h1 h2
theorem wpList_appAllWr {ops : Array Oper} {rest : List Oper} {o : Oper} {a : Act} {Q : Exit → Act → World → Prop} (w : World) (hgd : o.guard = none) (s x : Operand)
    (ho : o.op = .call { callee := .builtin .append, args := #[s, x], argTypes := #[22, 22] }) (B z : Nat) (A : Option Addr) (c : Nat) (os : List Wr) (hs : a.eval s = .slice (some ⟨z, 0, none⟩) 0 0) (hz : Blk w z 148 #[]) (hBz : B ≤ z)
    (n : Nat) (hn : os.length = n) (hx : a.eval x = .slice A n c) (hO : WrsAt w A os) (hl : n ≤ 10000)
    (h : ∀ v' w', Ownl 148 2 gWr w' B v' os → w.grownBy w' (some z) → wpList Tryz.prog ops Q rest (a.put o.dst v') w') : wpList Tryz.prog ops Q (o :: rest) a w :=
  wpList_plain hgd fun _ hK => wp_appAllWr w s x ho B z A c os hs hz hBz n hn hx hO hl fun v' w' h1 h2 => hK _ _ (h v' w' h1 h2)
theorem flatWr {w : World} {A : Option Addr} {xs : List Wr} (h : FlatAt 2 gWr zeroWr w A xs) : WrsAt w A xs := fun hne => by
  obtain ⟨b, off, hA, hb, hc⟩ := h hne
  exact ⟨b, off, hA, hb, fun k hk => ⟨hc k hk 0 (by omega), hc k hk 1 (by omega)⟩⟩
theorem ownWr {w : World} {B : Nat} {v : Value} {xs : List Wr} (h : Ownl 148 2 gWr w B v xs) : ∃ A c, v = .slice A xs.length c ∧ xs.length ≤ c ∧ WrsAt w A xs := by
  obtain ⟨A, c, h1, h2, h3, -⟩ := h.form (by decide) (fun _ => rfl) zeroWr
  exact ⟨A, c, h1, h2, flatWr h3⟩
end Go.Proofs.YtdhljpngkeobcaaGreat
/- CopyRope and CopyModel of the specification. -/
set_option linter.unusedSimpArgs false
set_option linter.unusedVariables false
namespace Go.Proofs.YtdhljpngkeobcaaGreat
open Go.RowKit
theorem Blk.st4 {W : World} {b : Nat} {t : TypeId} {x0 x1 x2 x3 : Value} (h : Blk W b t #[x0, x1, x2, x3]) (y0 y1 y2 y3 : Value) :
    Blk ((((W.setCell ⟨b, 0, none⟩ y0).setCell ⟨b, 1, none⟩ y1).setCell ⟨b, 2, none⟩ y2).setCell ⟨b, 3, none⟩ y3) b t #[y0, y1, y2, y3] := by
  have h3 := (((h.setAt 0 y0).setAt 1 y1).setAt 2 y2).setAt 3 y3
  simp only [List.setIfInBounds_toArray, List.set_cons_zero, List.set_cons_succ] at h3
  exact h3
set_option maxRecDepth 100000 in
set_option maxHeartbeats 4000000 in
theorem copyRope_any (r : Ro) (A : Option Addr) (c : Nat) (hm : r.falls.length ≤ 10000) (w : World) (hx : FlsAt w A r.falls) :
    Calls Tryz.prog 16 #[r.val A c] w fun e w' => ∃ A' c', e = .returned (r.val A' c') ∧ Ownl 75 5 gFl w' w.heap.size (.slice A' r.falls.length c') r.falls ∧ Ext w w' := by
  have HX := hid hx
  have HRR := hid (show ∀ (A' : Option Addr) (c' : Nat) (w' : World), Ownl 75 5 gFl w' w.heap.size (.slice A' r.falls.length c') r.falls → Ext w w' → ∃ A'' c'', Ending.returned (r.val A' c') = .returned (r.val A'' c'') ∧ Ownl 75 5 gFl w' w.heap.size (.slice A'' r.falls.length c'') r.falls ∧ Ext w w' from fun A' c' w' h2 h3 => ⟨A', c', rfl, h2, h3⟩)
  generalize hQ : (fun (e : Ending) (w' : World) => ∃ A' c', e = .returned (r.val A' c') ∧ Ownl 75 5 gFl w' w.heap.size (.slice A' r.falls.length c') r.falls ∧ Ext w w') = QQ
  have hQe : ∀ e w', QQ e w' = (∃ A' c', e = .returned (r.val A' c') ∧ Ownl 75 5 gFl w' w.heap.size (.slice A' r.falls.length c') r.falls ∧ Ext w w') := fun e w' => by rw [← hQ]
  simp only [← hQe] at HRR
  clear hQ hQe hx
  unfold Ro.val at *
  obtain ⟨ma, fi, le, fs⟩ := r
  dsimp only at *
  obtain ⟨n, hn⟩ : ∃ n, fs.length = n := ⟨_, rfl⟩
  rw [hn] at hm HRR ⊢
  have HN := hid hn
  clear hn
  have t0 := blks2 w (.cells #[.int .i64 ma, .int .i64 fi, .int .i64 le, .slice A n c] 27) (.cells #[.int .i64 0, .int .i64 0, .int .i64 0, .slice none 0 0] 27)
  have B0 := hid (show Blk _ _ _ _ from t0.1)
  have B1 := hid (show Blk _ _ _ _ from t0.2)
  clear t0
  go_enter Tryz.func16, Tryz.ntmps16
  go_wp2_with (at_builtin; refine Halt.mk ?_)
  unfold Halt
  have EW := hid (show Ext w ((w.alloc (.cells #[.int .i64 ma, .int .i64 fi, .int .i64 le, .slice A n c] 27)).alloc (.cells #[.int .i64 0, .int .i64 0, .int .i64 0, .slice none 0 0] 27)) from (ext_alloc1 _ _).trans (ext_alloc1 _ _))
  have hsz : ((w.alloc (.cells #[.int .i64 ma, .int .i64 fi, .int .i64 le, .slice A n c] 27)).alloc (.cells #[.int .i64 0, .int .i64 0, .int .i64 0, .slice none 0 0] 27)).heap.size = w.heap.size + 1 + 1 := by simp
  obtain ⟨W, hW⟩ : ∃ W, (w.alloc (.cells #[.int .i64 ma, .int .i64 fi, .int .i64 le, .slice A n c] 27)).alloc (.cells #[.int .i64 0, .int .i64 0, .int .i64 0, .slice none 0 0] 27) = W := ⟨_, rfl⟩
  rw [hW] at EW hsz B0 B1 ⊢
  clear hW
  refine wpList_appAllFl _ rfl _ _ rfl (w.heap.size + 1 + 1) (w.heap.size + 1 + 1) A c fs rfl (by rw [← hsz]; exact blk_last W _) (Nat.le_refl _) n HN.out rfl ((HX.out.ext EW.out).ext (ext_alloc1 _ _)) hm ?_
  intro v5 w5 hO hg
  obtain ⟨A5, c5, hv5, hle5, -⟩ := ownFl hO
  have hnn := HN.out
  rw [hnn] at hv5
  subst hv5
  have HO := hid hO
  have E5 := hid (show Ext w w5 from Below.grown (EW.out.alloc (.cells #[] 75)) hg (EW.out.alloc _).size (fun k ek => by cases ek; omega))
  have K0 := hid ((B0.out.alloc (.cells #[] 75)).grown hg (by simp; omega))
  have K1 := hid ((B1.out.alloc (.cells #[] 75)).grown hg (by first | (simp; done) | (simp; omega)))
  clear hO hg B0 B1 EW hnn
  obtain ⟨a0, a1, a2, a3⟩ : _ ∧ _ ∧ _ ∧ _ := ⟨K0.out.cell 0, K0.out.cell 1, K0.out.cell 2, K0.out.cell 3⟩
  obtain ⟨p0, p1, p2, p3⟩ : _ ∧ _ ∧ _ ∧ _ := ⟨K0.out.fro 0, K0.out.fro 1, K0.out.fro 2, K0.out.fro 3⟩
  obtain ⟨b0, b1, b2, b3⟩ : _ ∧ _ ∧ _ ∧ _ := ⟨K1.out.cell 0, K1.out.cell 1, K1.out.cell 2, K1.out.cell 3⟩
  obtain ⟨q0, q1, q2, q3⟩ : _ ∧ _ ∧ _ ∧ _ := ⟨K1.out.fro 0, K1.out.fro 1, K1.out.fro 2, K1.out.fro 3⟩
  have z0 := K0.out.lt
  have z1 := K1.out.lt
  simp only [List.getElem?_toArray, List.getElem?_cons_zero, List.getElem?_cons_succ] at a0 a1 a2 a3 b0 b1 b2 b3
  go_wp2_with fail
  refine body_abs (fun X => Blk X (w.heap.size + 1) 27 #[.int .i64 ma, .int .i64 fi, .int .i64 le, .slice A5 n c5] ∧ Ownl 75 5 gFl X (w.heap.size + 1 + 1) (.slice A5 n c5) fs ∧ Ext w X) ⟨?hb, ?ho, ?he⟩ ?_
  case hb => exact Blk.st4 (K1.out.other (p := ⟨w.heap.size, 3, none⟩) (by dsimp only; omega) _) _ _ _ _
  case ho => exact ((((HO.out.other (p := ⟨w.heap.size, 3, none⟩) (by dsimp only; omega) _).other (p := ⟨w.heap.size + 1, 0, none⟩) (by dsimp only; omega) _).other (p := ⟨w.heap.size + 1, 1, none⟩) (by dsimp only; omega) _).other (p := ⟨w.heap.size + 1, 2, none⟩) (by dsimp only; omega) _).other (p := ⟨w.heap.size + 1, 3, none⟩) (by dsimp only; omega) _
  case he => exact ((((E5.out.set (p := ⟨w.heap.size, 3, none⟩) (by dsimp only; omega) _).set (p := ⟨w.heap.size + 1, 0, none⟩) (by dsimp only; omega) _).set (p := ⟨w.heap.size + 1, 1, none⟩) (by dsimp only; omega) _).set (p := ⟨w.heap.size + 1, 2, none⟩) (by dsimp only; omega) _).set (p := ⟨w.heap.size + 1, 3, none⟩) (by dsimp only; omega) _
  rintro X ⟨hB, hOX, XE⟩
  have r0 := hB.cell 0
  have r1 := hB.cell 1
  have r2 := hB.cell 2
  have r3 := hB.cell 3
  simp only [List.getElem?_toArray, List.getElem?_cons_zero, List.getElem?_cons_succ] at r0 r1 r2 r3
  exact bodyPost_ret (v := .agg #[.int .i64 ma, .int .i64 fi, .int .i64 le, .slice A5 n c5]) (by simp [results, Tryz.results16, go_sem, r0, r1, r2, r3]) rfl (HRR.out A5 c5 X (hOX.low (by omega)) XE)
set_option maxRecDepth 100000 in
set_option maxHeartbeats 4000000 in
theorem copyModel_any (m : Md) (A : Option Addr) (c : Nat) (hm : m.wears.length ≤ 10000) (w : World) (hx : WrsAt w A m.wears) :
    Calls Tryz.prog 15 #[m.val A c] w fun e w' => ∃ A' c', e = .returned (m.val A' c') ∧ Ownl 148 2 gWr w' w.heap.size (.slice A' m.wears.length c') m.wears ∧ Ext w w' := by
  have HX := hid hx
  have HRR := hid (show ∀ (A' : Option Addr) (c' : Nat) (w' : World), Ownl 148 2 gWr w' w.heap.size (.slice A' m.wears.length c') m.wears → Ext w w' → ∃ A'' c'', Ending.returned (m.val A' c') = .returned (m.val A'' c'') ∧ Ownl 148 2 gWr w' w.heap.size (.slice A'' m.wears.length c'') m.wears ∧ Ext w w' from fun A' c' w' h2 h3 => ⟨A', c', rfl, h2, h3⟩)
  generalize hQ : (fun (e : Ending) (w' : World) => ∃ A' c', e = .returned (m.val A' c') ∧ Ownl 148 2 gWr w' w.heap.size (.slice A' m.wears.length c') m.wears ∧ Ext w w') = QQ
  have hQe : ∀ e w', QQ e w' = (∃ A' c', e = .returned (m.val A' c') ∧ Ownl 148 2 gWr w' w.heap.size (.slice A' m.wears.length c') m.wears ∧ Ext w w') := fun e w' => by rw [← hQ]
  simp only [← hQe] at HRR
  clear hQ hQe hx
  unfold Md.val at *
  obtain ⟨ma, fi, le, fs⟩ := m
  dsimp only at *
  obtain ⟨n, hn⟩ : ∃ n, fs.length = n := ⟨_, rfl⟩
  rw [hn] at hm HRR ⊢
  have HN := hid hn
  clear hn
  have t0 := blks2 w (.cells #[.int .i64 ma, .int .i64 fi, .int .i64 le, .slice A n c] 24) (.cells #[.int .i64 0, .int .i64 0, .int .i64 0, .slice none 0 0] 24)
  have B0 := hid (show Blk _ _ _ _ from t0.1)
  have B1 := hid (show Blk _ _ _ _ from t0.2)
  clear t0
  go_enter Tryz.func15, Tryz.ntmps15
  go_wp2_with (at_builtin; refine Halt.mk ?_)
  unfold Halt
  have EW := hid (show Ext w ((w.alloc (.cells #[.int .i64 ma, .int .i64 fi, .int .i64 le, .slice A n c] 24)).alloc (.cells #[.int .i64 0, .int .i64 0, .int .i64 0, .slice none 0 0] 24)) from (ext_alloc1 _ _).trans (ext_alloc1 _ _))
  have hsz : ((w.alloc (.cells #[.int .i64 ma, .int .i64 fi, .int .i64 le, .slice A n c] 24)).alloc (.cells #[.int .i64 0, .int .i64 0, .int .i64 0, .slice none 0 0] 24)).heap.size = w.heap.size + 1 + 1 := by simp
  obtain ⟨W, hW⟩ : ∃ W, (w.alloc (.cells #[.int .i64 ma, .int .i64 fi, .int .i64 le, .slice A n c] 24)).alloc (.cells #[.int .i64 0, .int .i64 0, .int .i64 0, .slice none 0 0] 24) = W := ⟨_, rfl⟩
  rw [hW] at EW hsz B0 B1 ⊢
  clear hW
  refine wpList_appAllWr _ rfl _ _ rfl (w.heap.size + 1 + 1) (w.heap.size + 1 + 1) A c fs rfl (by rw [← hsz]; exact blk_last W _) (Nat.le_refl _) n HN.out rfl ((HX.out.ext EW.out).ext (ext_alloc1 _ _)) hm ?_
  intro v5 w5 hO hg
  obtain ⟨A5, c5, hv5, hle5, -⟩ := ownWr hO
  have hnn := HN.out
  rw [hnn] at hv5
  subst hv5
  have HO := hid hO
  have E5 := hid (show Ext w w5 from Below.grown (EW.out.alloc (.cells #[] 148)) hg (EW.out.alloc _).size (fun k ek => by cases ek; omega))
  have K0 := hid ((B0.out.alloc (.cells #[] 148)).grown hg (by simp; omega))
  have K1 := hid ((B1.out.alloc (.cells #[] 148)).grown hg (by first | (simp; done) | (simp; omega)))
  clear hO hg B0 B1 EW hnn
  obtain ⟨a0, a1, a2, a3⟩ : _ ∧ _ ∧ _ ∧ _ := ⟨K0.out.cell 0, K0.out.cell 1, K0.out.cell 2, K0.out.cell 3⟩
  obtain ⟨p0, p1, p2, p3⟩ : _ ∧ _ ∧ _ ∧ _ := ⟨K0.out.fro 0, K0.out.fro 1, K0.out.fro 2, K0.out.fro 3⟩
  obtain ⟨b0, b1, b2, b3⟩ : _ ∧ _ ∧ _ ∧ _ := ⟨K1.out.cell 0, K1.out.cell 1, K1.out.cell 2, K1.out.cell 3⟩
  obtain ⟨q0, q1, q2, q3⟩ : _ ∧ _ ∧ _ ∧ _ := ⟨K1.out.fro 0, K1.out.fro 1, K1.out.fro 2, K1.out.fro 3⟩
  have z0 := K0.out.lt
  have z1 := K1.out.lt
  simp only [List.getElem?_toArray, List.getElem?_cons_zero, List.getElem?_cons_succ] at a0 a1 a2 a3 b0 b1 b2 b3
  go_wp2_with fail
  refine body_abs (fun X => Blk X (w.heap.size + 1) 24 #[.int .i64 ma, .int .i64 fi, .int .i64 le, .slice A5 n c5] ∧ Ownl 148 2 gWr X (w.heap.size + 1 + 1) (.slice A5 n c5) fs ∧ Ext w X) ⟨?hb, ?ho, ?he⟩ ?_
  case hb => exact Blk.st4 (K1.out.other (p := ⟨w.heap.size, 3, none⟩) (by dsimp only; omega) _) _ _ _ _
  case ho => exact ((((HO.out.other (p := ⟨w.heap.size, 3, none⟩) (by dsimp only; omega) _).other (p := ⟨w.heap.size + 1, 0, none⟩) (by dsimp only; omega) _).other (p := ⟨w.heap.size + 1, 1, none⟩) (by dsimp only; omega) _).other (p := ⟨w.heap.size + 1, 2, none⟩) (by dsimp only; omega) _).other (p := ⟨w.heap.size + 1, 3, none⟩) (by dsimp only; omega) _
  case he => exact ((((E5.out.set (p := ⟨w.heap.size, 3, none⟩) (by dsimp only; omega) _).set (p := ⟨w.heap.size + 1, 0, none⟩) (by dsimp only; omega) _).set (p := ⟨w.heap.size + 1, 1, none⟩) (by dsimp only; omega) _).set (p := ⟨w.heap.size + 1, 2, none⟩) (by dsimp only; omega) _).set (p := ⟨w.heap.size + 1, 3, none⟩) (by dsimp only; omega) _
  rintro X ⟨hB, hOX, XE⟩
  have r0 := hB.cell 0
  have r1 := hB.cell 1
  have r2 := hB.cell 2
  have r3 := hB.cell 3
  simp only [List.getElem?_toArray, List.getElem?_cons_zero, List.getElem?_cons_succ] at r0 r1 r2 r3
  exact bodyPost_ret (v := .agg #[.int .i64 ma, .int .i64 fi, .int .i64 le, .slice A5 n c5]) (by simp [results, Tryz.results15, go_sem, r0, r1, r2, r3]) rfl (HRR.out A5 c5 X (hOX.low (by omega)) XE)
end Go.Proofs.YtdhljpngkeobcaaGreat
