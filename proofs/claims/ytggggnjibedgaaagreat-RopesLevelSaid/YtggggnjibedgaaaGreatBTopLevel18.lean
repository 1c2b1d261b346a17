/- Elements that are valid and in order, taken one after the other: no program. -/
import Derived.Test.YtggggnjibedgaaaGreatB07
import Derived.Test.YtggggnjibedgaaaGreatB01
set_option linter.unusedSimpArgs false
set_option linter.unusedVariables false
namespace Go.Proofs.YtggggnjibedgaaaGreat
open Go.RowKit
def prK {α : Type} (p : α → Bool) (r : α → α → Bool) (d : α) (xs : List α) (k : Nat) : Bool := (xs.take k).all p && ordK r d xs (k - 1)
theorem prK_zero {α : Type} (p : α → Bool) (r : α → α → Bool) (d : α) (xs : List α) : prK p r d xs 0 = true := rfl
theorem prK_one {α : Type} (p : α → Bool) (r : α → α → Bool) (d : α) (xs : List α) (h : 0 < xs.length) (hp : p (xs.getD 0 d) = true) : prK p r d xs 1 = true := by
  unfold prK
  rw [all_take_snoc xs p d 0 h, hp]
  rfl
theorem prK_succ {α : Type} (p : α → Bool) (r : α → α → Bool) (d : α) (xs : List α) (j k : Nat) (hj : j + 1 = k) (h : k < xs.length) (ha : prK p r d xs k = true) (hp : p (xs.getD k d) = true) (hr : r (xs.getD j d) (xs.getD k d) = true) : prK p r d xs (k + 1) = true := by
  subst hj
  unfold prK at *
  rw [Bool.and_eq_true] at ha
  have h2 := ha.2
  rw [show j + 1 - 1 = j by omega] at h2
  rw [all_take_snoc xs p d (j + 1) h, ha.1, hp, show j + 1 + 1 - 1 = j + 1 by omega, ordK_succ, h2, hr]
  rfl
theorem prK_bad1 {α : Type} {p : α → Bool} {r : α → α → Bool} {d : α} {xs : List α} {k : Nat} (h : k < xs.length) (hp : p (xs.getD k d) = false) : (xs.all p && ordB r d xs) = false := by
  rw [all_of_at xs p d k h hp]; rfl
theorem prK_bad2 {α : Type} {p : α → Bool} {r : α → α → Bool} {d : α} {xs : List α} {j k : Nat} (hj : j + 1 = k) (h : k < xs.length) (hr : r (xs.getD j d) (xs.getD k d) = false) : (xs.all p && ordB r d xs) = false := by
  subst hj
  rw [ordK_bad r d xs j h hr, Bool.and_false]
theorem prK_end {α : Type} {p : α → Bool} {r : α → α → Bool} {d : α} {xs : List α} {k : Nat} (h : xs.length = k) (ha : prK p r d xs k = true) : (xs.all p && ordB r d xs) = true := by
  unfold prK at ha
  rw [Bool.and_eq_true] at ha
  rw [all_true_end ha.1 (by omega), ordK_end r d xs (k - 1) (by omega) ha.2]
  rfl
theorem mdB_eq (m : Md) : mdB m = (inI m.shelf 1 10000 && inI m.use 1 10000 && inI m.bears 0 100 && decide (m.wears.length ≤ 6) && (m.wears.all wrB && ordB wrO zeroWr m.wears)) := by
  unfold mdB
  rw [Bool.and_assoc (_ && _) (m.wears.all wrB)]
/-- The falls as the specification looks at them. -/
def fl2 (first : Int) (f : Fl) : Bool := inI f.day first 99999 && (spB f.hl f.hh 1 1000 && spB f.ol f.oh 1 1000)
theorem roB_eq (r : Ro) : roB r = (inI r.made 0 99999 && (r.first == -1 || inI r.first r.made 99999) && inI r.len 1 100 && decide (r.falls.length ≤ 10) && !(r.first == -1 && decide (0 < r.falls.length)) && (r.falls.all (fl2 r.first) && ordB flO zeroFl r.falls)) := by
  unfold roB
  rw [Bool.and_assoc (_ && _) (r.falls.all _)]
  by_cases hf : r.first = -1
  · cases h : r.falls with
    | nil => simp [hf]
    | cons a t => simp [hf, flB]
  · have e : flB r.first = fl2 r.first := by
      funext f
      unfold flB fl2
      have : (r.first == -1) = false := by simp [hf]
      rw [this]
      simp [Bool.and_assoc]
    have h2 : (r.first == -1) = false := by simp [hf]
    rw [e, h2]
    simp
end Go.Proofs.YtggggnjibedgaaaGreat
/- Which posts are valid: the specification. -/
set_option linter.unusedSimpArgs false
set_option linter.unusedVariables false
namespace Go.Proofs.YtggggnjibedgaaaGreat
open Go.RowKit
theorem posB_eq (ps : List Po) : posB ps = (decide (ps.length ≤ 8) && (ps.all poB && ordB poO zeroPo ps)) := by
  unfold posB
  rw [Bool.and_assoc]
set_option maxRecDepth 100000 in
set_option maxHeartbeats 8000000 in
theorem rArePosts_any (ps : List Po) (A : Option Addr) (n c : Nat) (hn : ps.length = n) (hm : n ≤ 1000) (w : World) (hx : PosAt w A ps) :
    Calls Tryz.prog 98 #[.slice A n c] w fun e w' => e = .returned (.bool (posB ps)) ∧ Ext w w' := by
  have HX := hid hx
  have HN := hid hn
  have HW := hid (fun a b c W => rwithin_any a b c W)
  have HSP := hid (fun s b c W => rspan_any s b c W)
  rw [posB_eq, hn]
  have HB1 := hid (fun k (h : k < ps.length) (hp : poB (ps.getD k zeroPo) = false) => prK_bad1 (r := poO) h hp)
  have HB2 := hid (fun j k (hj : j + 1 = k) (h : k < ps.length) (hr : poO (ps.getD j zeroPo) (ps.getD k zeroPo) = false) => prK_bad2 (p := poB) hj h hr)
  have HS1 := hid (fun (h : 0 < ps.length) (hp : poB (ps.getD 0 zeroPo) = true) => prK_one poB poO zeroPo ps h hp)
  have HS := hid (fun j k (hj : j + 1 = k) (h : k < ps.length) ha hp hr => prK_succ poB poO zeroPo ps j k hj h ha hp hr)
  have HE := hid (fun k (h : ps.length = k) ha => prK_end (p := poB) (r := poO) (d := zeroPo) (xs := ps) (k := k) h ha)
  have H0 := hid (prK_zero poB poO zeroPo ps)
  clear hx hn
  generalize (ps.all poB && ordB poO zeroPo ps) = R at *
  generalize hPK : (fun k => prK poB poO zeroPo ps k) = PK at *
  have hPe : ∀ k, prK poB poO zeroPo ps k = PK k := fun k => by rw [← hPK]
  simp only [hPe] at HS1 HS HE H0
  clear hPK hPe
  obtain ⟨RR, hRR⟩ : ∃ b, (decide (n ≤ 8) && R) = b := ⟨_, rfl⟩
  rw [hRR]
  have HRR0 := hid hRR
  clear hRR
  go_enter Tryz.func98, Tryz.ntmps98
  go_wp2
  go_loopw [3] (fun i wr => Ext w wr ∧ ∃ k : Nat, k ≤ n ∧ i = .int .i64 k ∧ Hid (PK k = true)) (fun i _ => n - (intOf i).toNat)
  case atStart => exact ⟨by (repeat' (first | with_reducible assumption | with_reducible exact Ext.refl _ | with_reducible refine Ext.alloc ?_ _ | with_reducible refine Ext.set ?_ ?_ _ | with_reducible refine Ext.drew ?_ | with_reducible refine Ext.drewN ?_ _ | with_reducible refine Ext.trans ?_ (by assumption) | (dsimp only; omega))), 0, Nat.zero_le _, rfl, H0⟩
  case round =>
    obtain ⟨E, k, hk, rfl, HA⟩ := hrel
    clear H0
    by_cases hlt : k < n
    · obtain ⟨b, off, rfl, hb, hck⟩ := (HX.out.ext E).at_ HN.out hlt
      have hkl : k < ps.length := by rw [HN.out]; exact hlt
      have hk0 : (0 : Int) ≤ (k : Int) := by omega
      have hk1 : (k : Int) < (n : Int) := by omega
      have HB1k := hid (HB1.out k hkl)
      have HWB := hid (show poB (ps.getD k zeroPo) = (inI (ps.getD k zeroPo).pos 0 100000 && spB (ps.getD k zeroPo).sl (ps.getD k zeroPo).sh 0 100) from rfl)
      obtain ⟨x1, hx1⟩ : ∃ b, inI (ps.getD k zeroPo).pos 0 100000 = b := ⟨_, rfl⟩
      obtain ⟨x2, hx2⟩ : ∃ b, spB (ps.getD k zeroPo).sl (ps.getD k zeroPo).sh 0 100 = b := ⟨_, rfl⟩
      rw [hx1, hx2] at HWB
      by_cases hk9 : k = 0
      · have HS9 := hid (show poB (ps.getD k zeroPo) = true → PK (k + 1) = true by subst hk9; exact HS1.out hkl)
        have HZ := hid (show decide ((0 : Int) < (k : Int)) = false from decide_eq_false (by omega))
        have HZ2 := hid (show decide (0 < k) = false from decide_eq_false (by omega))
        clear HS1 HS HB1 HB2 HE HA hk9
        generalize ps.getD k zeroPo = x at *
        obtain ⟨fd, sl, sh⟩ := x
        obtain ⟨c0, c1, c2⟩ := hck
        dsimp only at *
        have HF1 := hid (fun W : World => by have := HW.out fd 0 100000 W; rw [hx1] at this; exact this)
        have HF2 := hid (fun W : World => by have := HSP.out ⟨sl, sh⟩ 0 100 W; dsimp only at this; rw [hx2] at this; unfold Sp.val at this; exact this)
        clear hx1 hx2 HX HW HSP
        go_wp2_with fail
        refine wp_region_held_drew (S := fun w' => (∀ b o, b < wr.heap.size → w'.cell? ⟨b, o, none⟩ = wr.cell? ⟨b, o, none⟩) ∧ wr.heap.size ≤ w'.heap.size ∧ Ext wr w') (by kernel_rfl) ?hS0 (fun hHeld => ?_)
        case hS0 => exact sK (Ext.drew (Ext.refl _))
        have X0 : Ext wr wr.drew := Ext.drew (Ext.refl wr)
        have EX := X0
        obtain ⟨X, hX⟩ : ∃ X, wr.drew = X := ⟨_, rfl⟩
        rw [hX] at EX hHeld ⊢
        clear hX X0
        refine tk1 (i := 0) (v := ?v0au) rfl ?y0au ?r0au
        case y0au => (intro w' hSw; (try dsimp only at hSw); go_simp; (try with_reducible rfl))
        try simp only [Act.put, sq1, sq2, sq3, sq4, sq5, sq6]
        refine tk1 (i := 1) (v := ?v1au) rfl ?y1au ?r1au
        case y1au => (intro w' hSw; (try dsimp only at hSw); go_simp; (try with_reducible rfl))
        try simp only [Act.put, sq1, sq2, sq3, sq4, sq5, sq6]
        refine tk1 (i := 2) (v := ?v2au) rfl ?y2au ?r2au
        case y2au => (intro w' hSw; (try dsimp only at hSw); go_simp; (try with_reducible rfl))
        try simp only [Act.put, sq1, sq2, sq3, sq4, sq5, sq6]
        refine tk1 (i := 3) (v := ?v3au) rfl ?y3au ?r3au
        case y3au => (intro w' hSw; (try dsimp only at hSw); go_simp; (try with_reducible rfl))
        try simp only [Act.put, sq1, sq2, sq3, sq4, sq5, sq6]
        refine tk1 (i := 4) (v := ?v4au) rfl ?y4au ?r4au
        case y4au => (intro w' hSw; (try dsimp only at hSw); go_simp; (try with_reducible rfl))
        try simp only [Act.put, sq1, sq2, sq3, sq4, sq5, sq6]
        refine wpAnyH_ready (rs := [5]) (by kernel_rfl) (by simp) ?_
        refine AllReadyH.cons (o := _) rfl (fun K hK => ?_) AllReadyH.nil
        go_simp
        refine Calls.mono (HF1.out _) ?_
        rintro e X9 ⟨rfl, hEX⟩
        obtain rfl := hEX.symm
        dsimp only
        clear hHeld
        refine hK.out _ _ (sK EX) (fun hHeld => ?_)
        clear hK K
        try simp only [Act.put, sq1, sq2, sq3, sq4, sq5, sq6]
        cases x1
        case false =>
          have HR9 := hid (HB1k.out HWB.out)
          refine tk1 (i := 6) (v := ?v6bu) rfl ?y6bu ?r6bu
          case y6bu => (intro w' hSw; (try dsimp only at hSw); go_simp; (try with_reducible rfl))
          try simp only [Act.put, sq1, sq2, sq3, sq4, sq5, sq6]
          refine tk1 (i := 7) (v := ?v7bu) rfl ?y7bu ?r7bu
          case y7bu => (intro w' hSw; (try dsimp only at hSw); go_simp; (try with_reducible rfl))
          try simp only [Act.put, sq1, sq2, sq3, sq4, sq5, sq6]
          refine tku1 (i := 8) rfl ?r8bu
          try simp only [Act.put, sq1, sq2, sq3, sq4, sq5, sq6]
          refine tku1 (i := 9) rfl ?r9bu
          try simp only [Act.put, sq1, sq2, sq3, sq4, sq5, sq6]
          refine tku1 (i := 10) rfl ?r10bu
          try simp only [Act.put, sq1, sq2, sq3, sq4, sq5, sq6]
          refine tku1 (i := 11) rfl ?r11bu
          try simp only [Act.put, sq1, sq2, sq3, sq4, sq5, sq6]
          refine tku1 (i := 12) rfl ?r12bu
          try simp only [Act.put, sq1, sq2, sq3, sq4, sq5, sq6]
          refine tku1 (i := 13) rfl ?r13bu
          try simp only [Act.put, sq1, sq2, sq3, sq4, sq5, sq6]
          refine tku1 (i := 14) rfl ?r14bu
          try simp only [Act.put, sq1, sq2, sq3, sq4, sq5, sq6]
          refine tku1 (i := 15) rfl ?r15bu
          try simp only [Act.put, sq1, sq2, sq3, sq4, sq5, sq6]
          refine tku1 (i := 16) rfl ?r16bu
          try simp only [Act.put, sq1, sq2, sq3, sq4, sq5, sq6]
          refine tku1 (i := 17) rfl ?r17bu
          try simp only [Act.put, sq1, sq2, sq3, sq4, sq5, sq6]
          refine tku1 (i := 18) rfl ?r18bu
          try simp only [Act.put, sq1, sq2, sq3, sq4, sq5, sq6]
          refine tku1 (i := 19) rfl ?r19bu
          try simp only [Act.put, sq1, sq2, sq3, sq4, sq5, sq6]
          refine tku1 (i := 20) rfl ?r20bu
          try simp only [Act.put, sq1, sq2, sq3, sq4, sq5, sq6]
          refine tku1 (i := 21) rfl ?r21bu
          try simp only [Act.put, sq1, sq2, sq3, sq4, sq5, sq6]
          refine tku1 (i := 22) rfl ?r22bu
          try simp only [Act.put, sq1, sq2, sq3, sq4, sq5, sq6]
          refine tku1 (i := 23) rfl ?r23bu
          try simp only [Act.put, sq1, sq2, sq3, sq4, sq5, sq6]
          refine tk1 (i := 24) (v := ?v24bu) rfl ?y24bu ?r24bu
          case y24bu => (intro w' hSw; (try dsimp only at hSw); go_simp; (try with_reducible rfl))
          try simp only [Act.put, sq1, sq2, sq3, sq4, sq5, sq6]
          refine tk1 (i := 25) (v := ?v25bu) rfl ?y25bu ?r25bu
          case y25bu => (intro w' hSw; (try dsimp only at hSw); go_simp; (try with_reducible rfl))
          try simp only [Act.put, sq1, sq2, sq3, sq4, sq5, sq6]
          refine tku1 (i := 26) rfl ?r26bu
          try simp only [Act.put, sq1, sq2, sq3, sq4, sq5, sq6]
          refine tku1 (i := 27) rfl ?r27bu
          try simp only [Act.put, sq1, sq2, sq3, sq4, sq5, sq6]
          refine tku1 (i := 28) rfl ?r28bu
          try simp only [Act.put, sq1, sq2, sq3, sq4, sq5, sq6]
          refine tku1 (i := 29) rfl ?r29bu
          try simp only [Act.put, sq1, sq2, sq3, sq4, sq5, sq6]
          refine tku1 (i := 30) rfl ?r30bu
          try simp only [Act.put, sq1, sq2, sq3, sq4, sq5, sq6]
          refine tku1 (i := 31) rfl ?r31bu
          try simp only [Act.put, sq1, sq2, sq3, sq4, sq5, sq6]
          refine tku1 (i := 32) rfl ?r32bu
          try simp only [Act.put, sq1, sq2, sq3, sq4, sq5, sq6]
          refine tk1 (i := 33) (v := ?v33bu) rfl ?y33bu ?r33bu
          case y33bu => (intro w' hSw; (try dsimp only at hSw); go_simp; (try with_reducible rfl))
          try simp only [Act.put, sq1, sq2, sq3, sq4, sq5, sq6]
          refine wpAnyH_done (by kernel_rfl) ?_ _
          have HEE := hid (E.trans EX)
          clear hHeld EX
          go_wp2
          go_ret
          exact ⟨ret_bool (by rw [← HRR0.out, HR9.out, Bool.and_false]), HEE.out⟩
        refine tk1 (i := 6) (v := ?v6b) rfl ?y6b ?r6b
        case y6b => (intro w' hSw; (try dsimp only at hSw); go_simp; (try with_reducible rfl))
        try simp only [Act.put, sq1, sq2, sq3, sq4, sq5, sq6]
        refine tk1 (i := 7) (v := ?v7b) rfl ?y7b ?r7b
        case y7b => (intro w' hSw; (try dsimp only at hSw); go_simp; (try with_reducible rfl))
        try simp only [Act.put, sq1, sq2, sq3, sq4, sq5, sq6]
        refine tk1 (i := 8) (v := ?v8b) rfl ?y8b ?r8b
        case y8b => (intro w' hSw; (try dsimp only at hSw); go_simp; (try with_reducible rfl))
        try simp only [Act.put, sq1, sq2, sq3, sq4, sq5, sq6]
        refine tk1 (i := 9) (v := ?v9b) rfl ?y9b ?r9b
        case y9b => (intro w' hSw; (try dsimp only at hSw); go_simp; (try simp only [HZ.out, HZ2.out]); (try with_reducible rfl))
        try simp only [Act.put, sq1, sq2, sq3, sq4, sq5, sq6]
        refine tk1 (i := 10) (v := ?v10b) rfl ?y10b ?r10b
        case y10b => (intro w' hSw; (try dsimp only at hSw); go_simp; (try with_reducible rfl))
        try simp only [Act.put, sq1, sq2, sq3, sq4, sq5, sq6]
        refine tku1 (i := 11) rfl ?r11b
        try simp only [Act.put, sq1, sq2, sq3, sq4, sq5, sq6]
        refine tku1 (i := 12) rfl ?r12b
        try simp only [Act.put, sq1, sq2, sq3, sq4, sq5, sq6]
        refine tku1 (i := 13) rfl ?r13b
        try simp only [Act.put, sq1, sq2, sq3, sq4, sq5, sq6]
        refine tku1 (i := 14) rfl ?r14b
        try simp only [Act.put, sq1, sq2, sq3, sq4, sq5, sq6]
        refine tku1 (i := 15) rfl ?r15b
        try simp only [Act.put, sq1, sq2, sq3, sq4, sq5, sq6]
        refine tku1 (i := 16) rfl ?r16b
        try simp only [Act.put, sq1, sq2, sq3, sq4, sq5, sq6]
        refine tku1 (i := 17) rfl ?r17b
        try simp only [Act.put, sq1, sq2, sq3, sq4, sq5, sq6]
        refine tku1 (i := 18) rfl ?r18b
        try simp only [Act.put, sq1, sq2, sq3, sq4, sq5, sq6]
        refine tku1 (i := 19) rfl ?r19b
        try simp only [Act.put, sq1, sq2, sq3, sq4, sq5, sq6]
        refine tku1 (i := 20) rfl ?r20b
        try simp only [Act.put, sq1, sq2, sq3, sq4, sq5, sq6]
        refine tku1 (i := 21) rfl ?r21b
        try simp only [Act.put, sq1, sq2, sq3, sq4, sq5, sq6]
        refine tku1 (i := 22) rfl ?r22b
        try simp only [Act.put, sq1, sq2, sq3, sq4, sq5, sq6]
        refine tk1 (i := 23) (v := ?v23b) rfl ?y23b ?r23b
        case y23b => (intro w' hSw; (try dsimp only at hSw); go_simp; (try with_reducible rfl))
        try simp only [Act.put, sq1, sq2, sq3, sq4, sq5, sq6]
        refine tk1 (i := 24) (v := ?v24b) rfl ?y24b ?r24b
        case y24b => (intro w' hSw; (try dsimp only at hSw); go_simp; (try with_reducible rfl))
        try simp only [Act.put, sq1, sq2, sq3, sq4, sq5, sq6]
        refine tk1 (i := 25) (v := ?v25b) rfl ?y25b ?r25b
        case y25b => (intro w' hSw; (try dsimp only at hSw); go_simp; (try with_reducible rfl))
        try simp only [Act.put, sq1, sq2, sq3, sq4, sq5, sq6]
        refine tk1 (i := 26) (v := ?v26fv) rfl ?y26fv ?r26fv
        case y26fv => (intro w' hSw; (try dsimp only at hSw); go_simp; (try with_reducible rfl))
        try simp only [Act.put, sq1, sq2, sq3, sq4, sq5, sq6]
        refine tk1 (i := 27) (v := ?v27fv) rfl ?y27fv ?r27fv
        case y27fv => (intro w' hSw; (try dsimp only at hSw); go_simp; (try with_reducible rfl))
        try simp only [Act.put, sq1, sq2, sq3, sq4, sq5, sq6]
        refine tk1 (i := 28) (v := ?v28fv) rfl ?y28fv ?r28fv
        case y28fv => (intro w' hSw; (try dsimp only at hSw); go_simp; (try with_reducible rfl))
        try simp only [Act.put, sq1, sq2, sq3, sq4, sq5, sq6]
        refine tk1 (i := 29) (v := ?v29fv) rfl ?y29fv ?r29fv
        case y29fv => (intro w' hSw; (try dsimp only at hSw); go_simp; (try with_reducible rfl))
        try simp only [Act.put, sq1, sq2, sq3, sq4, sq5, sq6]
        refine tk1 (i := 30) (v := ?v30fv) rfl ?y30fv ?r30fv
        case y30fv => (intro w' hSw; (try dsimp only at hSw); go_simp; (try with_reducible rfl))
        try simp only [Act.put, sq1, sq2, sq3, sq4, sq5, sq6]
        refine wpAnyH_ready (rs := [31]) (by kernel_rfl) (by simp) ?_
        refine AllReadyH.cons (o := _) rfl (fun K hK => ?_) AllReadyH.nil
        go_simp
        refine Calls.mono (HF2.out _) ?_
        rintro e X ⟨rfl, hEX⟩
        dsimp only
        replace EX := EX.trans hEX
        clear hHeld hEX
        refine hK.out _ _ (sK EX) (fun hHeld => ?_)
        clear hK K
        try simp only [Act.put, sq1, sq2, sq3, sq4, sq5, sq6]
        cases x2
        case false =>
          have HR9 := hid (HB1k.out (by rw [HWB.out]; rfl))
          refine tk1 (i := 32) (v := ?v32gv) rfl ?y32gv ?r32gv
          case y32gv => (intro w' hSw; (try dsimp only at hSw); go_simp; (try with_reducible rfl))
          try simp only [Act.put, sq1, sq2, sq3, sq4, sq5, sq6]
          refine tk1 (i := 33) (v := ?v33gv) rfl ?y33gv ?r33gv
          case y33gv => (intro w' hSw; (try dsimp only at hSw); go_simp; (try with_reducible rfl))
          try simp only [Act.put, sq1, sq2, sq3, sq4, sq5, sq6]
          refine wpAnyH_done (by kernel_rfl) ?_ _
          have HEE := hid (E.trans EX)
          clear hHeld EX
          go_wp2
          go_ret
          exact ⟨ret_bool (by rw [← HRR0.out, HR9.out, Bool.and_false]), HEE.out⟩
        have HR9 := hid (HS9.out (by rw [HWB.out]; rfl))
        refine tk1 (i := 32) (v := ?v32hv) rfl ?y32hv ?r32hv
        case y32hv => (intro w' hSw; (try dsimp only at hSw); go_simp; (try with_reducible rfl))
        try simp only [Act.put, sq1, sq2, sq3, sq4, sq5, sq6]
        refine tk1 (i := 33) (v := ?v33hv) rfl ?y33hv ?r33hv
        case y33hv => (intro w' hSw; (try dsimp only at hSw); go_simp; (try with_reducible rfl))
        try simp only [Act.put, sq1, sq2, sq3, sq4, sq5, sq6]
        refine wpAnyH_done (by kernel_rfl) ?_ _
        have HEE := hid (E.trans EX)
        clear hHeld EX
        go_wp2
        go_roundw
        case rel => exact ⟨HEE.out, k + 1, by omega, by go_num, HR9⟩
        case measure => simp [intOf]; omega
      · obtain ⟨p, hp⟩ : ∃ p, p + 1 = k := ⟨k - 1, by omega⟩
        have hpl : p < n := by omega
        obtain ⟨b', off', hAe, hb', hck'⟩ := (HX.out.ext E).at_ HN.out hpl
        cases hAe
        have hw1 : IntKind.i64.wrap ((k : Int) - 1) = (p : Int) := by rw [IntWalk.i64_in _ (by omega)]; omega
        have hp0 : (0 : Int) ≤ (p : Int) := by omega
        have hp1 : (p : Int) < (n : Int) := by omega
        have HZ := hid (show decide ((0 : Int) < (k : Int)) = true from decide_eq_true (by omega))
        have HZ2 := hid (show decide (0 < k) = true from decide_eq_true (by omega))
        have HS8 := hid (HS.out p k hp hkl HA.out)
        have HB9 := hid (HB2.out p k hp hkl)
        clear HS1 HS HB1 HB2 HE HA
        generalize ps.getD k zeroPo = x at *
        generalize ps.getD p zeroPo = y at *
        obtain ⟨yd, y1, y2⟩ := y
        obtain ⟨d0, -, -⟩ := hck'
        obtain ⟨fd, sl, sh⟩ := x
        obtain ⟨c0, c1, c2⟩ := hck
        dsimp only at *
        have HF1 := hid (fun W : World => by have := HW.out fd 0 100000 W; rw [hx1] at this; exact this)
        have HF2 := hid (fun W : World => by have := HSP.out ⟨sl, sh⟩ 0 100 W; dsimp only at this; rw [hx2] at this; unfold Sp.val at this; exact this)
        clear hx1 hx2 HX HW HSP
        unfold poO at HS8 HB9
        dsimp only at *
        clear hp
        go_wp2_with fail
        refine wp_region_held_drew (S := fun w' => (∀ b o, b < wr.heap.size → w'.cell? ⟨b, o, none⟩ = wr.cell? ⟨b, o, none⟩) ∧ wr.heap.size ≤ w'.heap.size ∧ Ext wr w') (by kernel_rfl) ?hS0 (fun hHeld => ?_)
        case hS0 => exact sK (Ext.drew (Ext.refl _))
        have X0 : Ext wr wr.drew := Ext.drew (Ext.refl wr)
        have EX := X0
        obtain ⟨X, hX⟩ : ∃ X, wr.drew = X := ⟨_, rfl⟩
        rw [hX] at EX hHeld ⊢
        clear hX X0
        refine tk1 (i := 0) (v := ?v0ak) rfl ?y0ak ?r0ak
        case y0ak => (intro w' hSw; (try dsimp only at hSw); go_simp; (try with_reducible rfl))
        try simp only [Act.put, sq1, sq2, sq3, sq4, sq5, sq6]
        refine tk1 (i := 1) (v := ?v1ak) rfl ?y1ak ?r1ak
        case y1ak => (intro w' hSw; (try dsimp only at hSw); go_simp; (try with_reducible rfl))
        try simp only [Act.put, sq1, sq2, sq3, sq4, sq5, sq6]
        refine tk1 (i := 2) (v := ?v2ak) rfl ?y2ak ?r2ak
        case y2ak => (intro w' hSw; (try dsimp only at hSw); go_simp; (try with_reducible rfl))
        try simp only [Act.put, sq1, sq2, sq3, sq4, sq5, sq6]
        refine tk1 (i := 3) (v := ?v3ak) rfl ?y3ak ?r3ak
        case y3ak => (intro w' hSw; (try dsimp only at hSw); go_simp; (try with_reducible rfl))
        try simp only [Act.put, sq1, sq2, sq3, sq4, sq5, sq6]
        refine tk1 (i := 4) (v := ?v4ak) rfl ?y4ak ?r4ak
        case y4ak => (intro w' hSw; (try dsimp only at hSw); go_simp; (try with_reducible rfl))
        try simp only [Act.put, sq1, sq2, sq3, sq4, sq5, sq6]
        refine wpAnyH_ready (rs := [5]) (by kernel_rfl) (by simp) ?_
        refine AllReadyH.cons (o := _) rfl (fun K hK => ?_) AllReadyH.nil
        go_simp
        refine Calls.mono (HF1.out _) ?_
        rintro e X9 ⟨rfl, hEX⟩
        obtain rfl := hEX.symm
        dsimp only
        clear hHeld
        refine hK.out _ _ (sK EX) (fun hHeld => ?_)
        clear hK K
        try simp only [Act.put, sq1, sq2, sq3, sq4, sq5, sq6]
        cases x1
        case false =>
          have HR9 := hid (HB1k.out HWB.out)
          refine tk1 (i := 6) (v := ?v6bx) rfl ?y6bx ?r6bx
          case y6bx => (intro w' hSw; (try dsimp only at hSw); go_simp; (try with_reducible rfl))
          try simp only [Act.put, sq1, sq2, sq3, sq4, sq5, sq6]
          refine tk1 (i := 7) (v := ?v7bx) rfl ?y7bx ?r7bx
          case y7bx => (intro w' hSw; (try dsimp only at hSw); go_simp; (try with_reducible rfl))
          try simp only [Act.put, sq1, sq2, sq3, sq4, sq5, sq6]
          refine tku1 (i := 8) rfl ?r8bx
          try simp only [Act.put, sq1, sq2, sq3, sq4, sq5, sq6]
          refine tku1 (i := 9) rfl ?r9bx
          try simp only [Act.put, sq1, sq2, sq3, sq4, sq5, sq6]
          refine tku1 (i := 10) rfl ?r10bx
          try simp only [Act.put, sq1, sq2, sq3, sq4, sq5, sq6]
          refine tku1 (i := 11) rfl ?r11bx
          try simp only [Act.put, sq1, sq2, sq3, sq4, sq5, sq6]
          refine tku1 (i := 12) rfl ?r12bx
          try simp only [Act.put, sq1, sq2, sq3, sq4, sq5, sq6]
          refine tku1 (i := 13) rfl ?r13bx
          try simp only [Act.put, sq1, sq2, sq3, sq4, sq5, sq6]
          refine tku1 (i := 14) rfl ?r14bx
          try simp only [Act.put, sq1, sq2, sq3, sq4, sq5, sq6]
          refine tku1 (i := 15) rfl ?r15bx
          try simp only [Act.put, sq1, sq2, sq3, sq4, sq5, sq6]
          refine tku1 (i := 16) rfl ?r16bx
          try simp only [Act.put, sq1, sq2, sq3, sq4, sq5, sq6]
          refine tku1 (i := 17) rfl ?r17bx
          try simp only [Act.put, sq1, sq2, sq3, sq4, sq5, sq6]
          refine tku1 (i := 18) rfl ?r18bx
          try simp only [Act.put, sq1, sq2, sq3, sq4, sq5, sq6]
          refine tku1 (i := 19) rfl ?r19bx
          try simp only [Act.put, sq1, sq2, sq3, sq4, sq5, sq6]
          refine tku1 (i := 20) rfl ?r20bx
          try simp only [Act.put, sq1, sq2, sq3, sq4, sq5, sq6]
          refine tku1 (i := 21) rfl ?r21bx
          try simp only [Act.put, sq1, sq2, sq3, sq4, sq5, sq6]
          refine tku1 (i := 22) rfl ?r22bx
          try simp only [Act.put, sq1, sq2, sq3, sq4, sq5, sq6]
          refine tku1 (i := 23) rfl ?r23bx
          try simp only [Act.put, sq1, sq2, sq3, sq4, sq5, sq6]
          refine tk1 (i := 24) (v := ?v24bx) rfl ?y24bx ?r24bx
          case y24bx => (intro w' hSw; (try dsimp only at hSw); go_simp; (try with_reducible rfl))
          try simp only [Act.put, sq1, sq2, sq3, sq4, sq5, sq6]
          refine tk1 (i := 25) (v := ?v25bx) rfl ?y25bx ?r25bx
          case y25bx => (intro w' hSw; (try dsimp only at hSw); go_simp; (try with_reducible rfl))
          try simp only [Act.put, sq1, sq2, sq3, sq4, sq5, sq6]
          refine tku1 (i := 26) rfl ?r26bx
          try simp only [Act.put, sq1, sq2, sq3, sq4, sq5, sq6]
          refine tku1 (i := 27) rfl ?r27bx
          try simp only [Act.put, sq1, sq2, sq3, sq4, sq5, sq6]
          refine tku1 (i := 28) rfl ?r28bx
          try simp only [Act.put, sq1, sq2, sq3, sq4, sq5, sq6]
          refine tku1 (i := 29) rfl ?r29bx
          try simp only [Act.put, sq1, sq2, sq3, sq4, sq5, sq6]
          refine tku1 (i := 30) rfl ?r30bx
          try simp only [Act.put, sq1, sq2, sq3, sq4, sq5, sq6]
          refine tku1 (i := 31) rfl ?r31bx
          try simp only [Act.put, sq1, sq2, sq3, sq4, sq5, sq6]
          refine tku1 (i := 32) rfl ?r32bx
          try simp only [Act.put, sq1, sq2, sq3, sq4, sq5, sq6]
          refine tk1 (i := 33) (v := ?v33bx) rfl ?y33bx ?r33bx
          case y33bx => (intro w' hSw; (try dsimp only at hSw); go_simp; (try with_reducible rfl))
          try simp only [Act.put, sq1, sq2, sq3, sq4, sq5, sq6]
          refine wpAnyH_done (by kernel_rfl) ?_ _
          have HEE := hid (E.trans EX)
          clear hHeld EX
          go_wp2
          go_ret
          exact ⟨ret_bool (by rw [← HRR0.out, HR9.out, Bool.and_false]), HEE.out⟩
        refine tk1 (i := 6) (v := ?v6c) rfl ?y6c ?r6c
        case y6c => (intro w' hSw; (try dsimp only at hSw); go_simp; (try with_reducible rfl))
        try simp only [Act.put, sq1, sq2, sq3, sq4, sq5, sq6]
        refine tk1 (i := 7) (v := ?v7c) rfl ?y7c ?r7c
        case y7c => (intro w' hSw; (try dsimp only at hSw); go_simp; (try with_reducible rfl))
        try simp only [Act.put, sq1, sq2, sq3, sq4, sq5, sq6]
        refine tk1 (i := 8) (v := ?v8c) rfl ?y8c ?r8c
        case y8c => (intro w' hSw; (try dsimp only at hSw); go_simp; (try with_reducible rfl))
        try simp only [Act.put, sq1, sq2, sq3, sq4, sq5, sq6]
        refine tk1 (i := 9) (v := ?v9c) rfl ?y9c ?r9c
        case y9c => (intro w' hSw; (try dsimp only at hSw); go_simp; (try simp only [HZ.out, HZ2.out]); (try with_reducible rfl))
        try simp only [Act.put, sq1, sq2, sq3, sq4, sq5, sq6]
        refine tk1 (i := 10) (v := ?v10c) rfl ?y10c ?r10c
        case y10c => (intro w' hSw; (try dsimp only at hSw); go_simp; (try with_reducible rfl))
        try simp only [Act.put, sq1, sq2, sq3, sq4, sq5, sq6]
        refine tk1 (i := 11) (v := ?v11c) rfl ?y11c ?r11c
        case y11c => (intro w' hSw; (try dsimp only at hSw); go_simp; (try with_reducible rfl))
        try simp only [Act.put, sq1, sq2, sq3, sq4, sq5, sq6]
        refine tk1 (i := 12) (v := ?v12c) rfl ?y12c ?r12c
        case y12c => (intro w' hSw; (try dsimp only at hSw); go_simp; (try with_reducible rfl))
        try simp only [Act.put, sq1, sq2, sq3, sq4, sq5, sq6]
        refine tk1 (i := 13) (v := ?v13c) rfl ?y13c ?r13c
        case y13c => (intro w' hSw; (try dsimp only at hSw); go_simp; (try with_reducible rfl))
        try simp only [Act.put, sq1, sq2, sq3, sq4, sq5, sq6]
        refine tk1 (i := 14) (v := ?v14c) rfl ?y14c ?r14c
        case y14c => (intro w' hSw; (try dsimp only at hSw); go_simp; (try with_reducible rfl))
        try simp only [Act.put, sq1, sq2, sq3, sq4, sq5, sq6]
        refine tk1 (i := 15) (v := ?v15c) rfl ?y15c ?r15c
        case y15c => (intro w' hSw; (try dsimp only at hSw); go_simp; (try with_reducible rfl))
        try simp only [Act.put, sq1, sq2, sq3, sq4, sq5, sq6]
        refine tk1 (i := 16) (v := ?v16c) rfl ?y16c ?r16c
        case y16c => (intro w' hSw; (try dsimp only at hSw); go_simp; (try with_reducible rfl))
        try simp only [Act.put, sq1, sq2, sq3, sq4, sq5, sq6]
        refine tk1 (i := 17) (v := ?v17c) rfl ?y17c ?r17c
        case y17c => (intro w' hSw; (try dsimp only at hSw); go_simp; (try with_reducible rfl))
        try simp only [Act.put, sq1, sq2, sq3, sq4, sq5, sq6]
        refine tk1 (i := 18) (v := ?v18c) rfl ?y18c ?r18c
        case y18c => (intro w' hSw; (try dsimp only at hSw); go_simp; (try simp only [hw1]); (try with_reducible rfl))
        try simp only [Act.put, sq1, sq2, sq3, sq4, sq5, sq6]
        by_cases hq1 : fd ≤ yd
        · have HR9 := hid (HB9.out (decide_eq_false (by omega)))
          refine tk1 (i := 19) (v := ?v19d) rfl ?y19d ?r19d
          case y19d => (intro w' hSw; (try dsimp only at hSw); go_simp; (try with_reducible rfl))
          try simp only [Act.put, sq1, sq2, sq3, sq4, sq5, sq6]
          refine tk1 (i := 20) (v := ?v20d) rfl ?y20d ?r20d
          case y20d => (intro w' hSw; (try dsimp only at hSw); go_simp; (try with_reducible rfl))
          try simp only [Act.put, sq1, sq2, sq3, sq4, sq5, sq6]
          refine tk1 (i := 21) (v := ?v21d) rfl ?y21d ?r21d
          case y21d => (intro w' hSw; (try dsimp only at hSw); go_simp; (try with_reducible rfl))
          try simp only [Act.put, sq1, sq2, sq3, sq4, sq5, sq6]
          refine tk1 (i := 22) (v := ?v22d) rfl ?y22d ?r22d
          case y22d => (intro w' hSw; (try dsimp only at hSw); go_simp; (try with_reducible rfl))
          try simp only [Act.put, sq1, sq2, sq3, sq4, sq5, sq6]
          refine tk1 (i := 23) (v := ?v23d) rfl ?y23d ?r23d
          case y23d => (intro w' hSw; (try dsimp only at hSw); go_simp; (try with_reducible rfl))
          try simp only [Act.put, sq1, sq2, sq3, sq4, sq5, sq6]
          refine tk1 (i := 24) (v := ?v24d) rfl ?y24d ?r24d
          case y24d => (intro w' hSw; (try dsimp only at hSw); go_simp; (try with_reducible rfl))
          try simp only [Act.put, sq1, sq2, sq3, sq4, sq5, sq6]
          refine tk1 (i := 25) (v := ?v25d) rfl ?y25d ?r25d
          case y25d => (intro w' hSw; (try dsimp only at hSw); go_simp; (try with_reducible rfl))
          try simp only [Act.put, sq1, sq2, sq3, sq4, sq5, sq6]
          refine tku1 (i := 26) rfl ?r26d
          try simp only [Act.put, sq1, sq2, sq3, sq4, sq5, sq6]
          refine tku1 (i := 27) rfl ?r27d
          try simp only [Act.put, sq1, sq2, sq3, sq4, sq5, sq6]
          refine tku1 (i := 28) rfl ?r28d
          try simp only [Act.put, sq1, sq2, sq3, sq4, sq5, sq6]
          refine tku1 (i := 29) rfl ?r29d
          try simp only [Act.put, sq1, sq2, sq3, sq4, sq5, sq6]
          refine tku1 (i := 30) rfl ?r30d
          try simp only [Act.put, sq1, sq2, sq3, sq4, sq5, sq6]
          refine tku1 (i := 31) rfl ?r31d
          try simp only [Act.put, sq1, sq2, sq3, sq4, sq5, sq6]
          refine tku1 (i := 32) rfl ?r32d
          try simp only [Act.put, sq1, sq2, sq3, sq4, sq5, sq6]
          refine tk1 (i := 33) (v := ?v33d) rfl ?y33d ?r33d
          case y33d => (intro w' hSw; (try dsimp only at hSw); go_simp; (try with_reducible rfl))
          try simp only [Act.put, sq1, sq2, sq3, sq4, sq5, sq6]
          refine wpAnyH_done (by kernel_rfl) ?_ _
          have HEE := hid (E.trans EX)
          clear hHeld EX
          go_wp2
          go_ret
          exact ⟨ret_bool (by rw [← HRR0.out, HR9.out, Bool.and_false]), HEE.out⟩
        have HS9 := hid (fun h => HS8.out h (decide_eq_true (show yd < fd by omega)))
        refine tk1 (i := 19) (v := ?v19e) rfl ?y19e ?r19e
        case y19e => (intro w' hSw; (try dsimp only at hSw); go_simp; (try with_reducible rfl))
        try simp only [Act.put, sq1, sq2, sq3, sq4, sq5, sq6]
        refine tk1 (i := 20) (v := ?v20e) rfl ?y20e ?r20e
        case y20e => (intro w' hSw; (try dsimp only at hSw); go_simp; (try with_reducible rfl))
        try simp only [Act.put, sq1, sq2, sq3, sq4, sq5, sq6]
        refine tk1 (i := 21) (v := ?v21e) rfl ?y21e ?r21e
        case y21e => (intro w' hSw; (try dsimp only at hSw); go_simp; (try with_reducible rfl))
        try simp only [Act.put, sq1, sq2, sq3, sq4, sq5, sq6]
        refine tk1 (i := 22) (v := ?v22e) rfl ?y22e ?r22e
        case y22e => (intro w' hSw; (try dsimp only at hSw); go_simp; (try with_reducible rfl))
        try simp only [Act.put, sq1, sq2, sq3, sq4, sq5, sq6]
        refine tk1 (i := 23) (v := ?v23e) rfl ?y23e ?r23e
        case y23e => (intro w' hSw; (try dsimp only at hSw); go_simp; (try with_reducible rfl))
        try simp only [Act.put, sq1, sq2, sq3, sq4, sq5, sq6]
        refine tk1 (i := 24) (v := ?v24e) rfl ?y24e ?r24e
        case y24e => (intro w' hSw; (try dsimp only at hSw); go_simp; (try with_reducible rfl))
        try simp only [Act.put, sq1, sq2, sq3, sq4, sq5, sq6]
        refine tk1 (i := 25) (v := ?v25e) rfl ?y25e ?r25e
        case y25e => (intro w' hSw; (try dsimp only at hSw); go_simp; (try with_reducible rfl))
        try simp only [Act.put, sq1, sq2, sq3, sq4, sq5, sq6]
        refine tk1 (i := 26) (v := ?v26fz) rfl ?y26fz ?r26fz
        case y26fz => (intro w' hSw; (try dsimp only at hSw); go_simp; (try with_reducible rfl))
        try simp only [Act.put, sq1, sq2, sq3, sq4, sq5, sq6]
        refine tk1 (i := 27) (v := ?v27fz) rfl ?y27fz ?r27fz
        case y27fz => (intro w' hSw; (try dsimp only at hSw); go_simp; (try with_reducible rfl))
        try simp only [Act.put, sq1, sq2, sq3, sq4, sq5, sq6]
        refine tk1 (i := 28) (v := ?v28fz) rfl ?y28fz ?r28fz
        case y28fz => (intro w' hSw; (try dsimp only at hSw); go_simp; (try with_reducible rfl))
        try simp only [Act.put, sq1, sq2, sq3, sq4, sq5, sq6]
        refine tk1 (i := 29) (v := ?v29fz) rfl ?y29fz ?r29fz
        case y29fz => (intro w' hSw; (try dsimp only at hSw); go_simp; (try with_reducible rfl))
        try simp only [Act.put, sq1, sq2, sq3, sq4, sq5, sq6]
        refine tk1 (i := 30) (v := ?v30fz) rfl ?y30fz ?r30fz
        case y30fz => (intro w' hSw; (try dsimp only at hSw); go_simp; (try with_reducible rfl))
        try simp only [Act.put, sq1, sq2, sq3, sq4, sq5, sq6]
        refine wpAnyH_ready (rs := [31]) (by kernel_rfl) (by simp) ?_
        refine AllReadyH.cons (o := _) rfl (fun K hK => ?_) AllReadyH.nil
        go_simp
        refine Calls.mono (HF2.out _) ?_
        rintro e X ⟨rfl, hEX⟩
        dsimp only
        replace EX := EX.trans hEX
        clear hHeld hEX
        refine hK.out _ _ (sK EX) (fun hHeld => ?_)
        clear hK K
        try simp only [Act.put, sq1, sq2, sq3, sq4, sq5, sq6]
        cases x2
        case false =>
          have HR9 := hid (HB1k.out (by rw [HWB.out]; rfl))
          refine tk1 (i := 32) (v := ?v32gz) rfl ?y32gz ?r32gz
          case y32gz => (intro w' hSw; (try dsimp only at hSw); go_simp; (try with_reducible rfl))
          try simp only [Act.put, sq1, sq2, sq3, sq4, sq5, sq6]
          refine tk1 (i := 33) (v := ?v33gz) rfl ?y33gz ?r33gz
          case y33gz => (intro w' hSw; (try dsimp only at hSw); go_simp; (try with_reducible rfl))
          try simp only [Act.put, sq1, sq2, sq3, sq4, sq5, sq6]
          refine wpAnyH_done (by kernel_rfl) ?_ _
          have HEE := hid (E.trans EX)
          clear hHeld EX
          go_wp2
          go_ret
          exact ⟨ret_bool (by rw [← HRR0.out, HR9.out, Bool.and_false]), HEE.out⟩
        have HR9 := hid (HS9.out (by rw [HWB.out]; rfl))
        refine tk1 (i := 32) (v := ?v32hz) rfl ?y32hz ?r32hz
        case y32hz => (intro w' hSw; (try dsimp only at hSw); go_simp; (try with_reducible rfl))
        try simp only [Act.put, sq1, sq2, sq3, sq4, sq5, sq6]
        refine tk1 (i := 33) (v := ?v33hz) rfl ?y33hz ?r33hz
        case y33hz => (intro w' hSw; (try dsimp only at hSw); go_simp; (try with_reducible rfl))
        try simp only [Act.put, sq1, sq2, sq3, sq4, sq5, sq6]
        refine wpAnyH_done (by kernel_rfl) ?_ _
        have HEE := hid (E.trans EX)
        clear hHeld EX
        go_wp2
        go_roundw
        case rel => exact ⟨HEE.out, k + 1, by omega, by go_num, HR9⟩
        case measure => simp [intOf]; omega
    · have HP := hid (HE.out k (by rw [HN.out]; omega) HA.out)
      by_cases h8 : n ≤ 8
      · have h8i : (n : Int) ≤ 8 := by omega
        go_wp2
        go_ret
        exact ⟨ret_bool (by rw [← HRR0.out]; simp [HP.out, h8]), E⟩
      · have h8i : ¬ (n : Int) ≤ 8 := by omega
        have h8f := hid (show decide (n ≤ 8) = false from decide_eq_false h8)
        go_wp2
        go_ret
        exact ⟨ret_bool (by first | (rw [← HRR0.out, h8f.out]; done) | (rw [← HRR0.out, h8f.out]; simp; done) | (rw [← HRR0.out, h8f.out]; simp; omega)), E⟩
end Go.Proofs.YtggggnjibedgaaaGreat
