/- What a set chooses of points, and the fewest points that are enough. -/
import Derived.Test.YtggggnjibedgaaaGreatB13
import Derived.Test.YtggggnjibedgaaaGreatB01
import Derived.Test.YtggggnjibedgaaaGreatB02
import Derived.Test.YtggggnjibedgaaaGreatB05
set_option linter.unusedSimpArgs false
set_option linter.unusedVariables false
namespace Go.Proofs.YtggggnjibedgaaaGreat
open Go.RowKit
set_option maxRecDepth 100000 in
set_option maxHeartbeats 4000000 in
theorem splitSp_any (xs : List Sp) (s : Nat) (hs : s < 256) (A : Option Addr) (n c : Nat) (hn : xs.length = n) (hm : n ≤ 8) (w : World) (hx : SpsAt w A xs) :
    Calls Tryz.prog 112 #[.slice A n c, .int .i64 s] w fun e w' => ∃ A1 c1 A2 c2, e = .returned (.tuple #[.slice A1 (choL zeroSp xs s).length c1, .slice A2 (othL zeroSp xs s).length c2]) ∧ SpsAt w' A1 (choL zeroSp xs s) ∧ SpsAt w' A2 (othL zeroSp xs s) ∧ (choL zeroSp xs s).length ≤ c1 ∧ (othL zeroSp xs s).length ≤ c2 ∧ Ext w w' := by
  have HX := hid hx
  have HN := hid hn
  have HH := hid (fun i (hi : i < 8) W => has_any s i hs hi W)
  have HC := hid (fun k => choK_succ zeroSp xs s k)
  have HO := hid (fun k => othK_succ zeroSp xs s k)
  have HC0 := hid (show choK zeroSp xs s 0 = [] from rfl)
  have HO0 := hid (show othK zeroSp xs s 0 = [] from rfl)
  have HLC := hid (fun k => choK_len zeroSp xs s k)
  have HLO := hid (fun k => othK_len zeroSp xs s k)
  have HCE := hid (show choK zeroSp xs s n = choL zeroSp xs s by rw [← hn]; rfl)
  have HOE := hid (show othK zeroSp xs s n = othL zeroSp xs s by rw [← hn]; rfl)
  clear hx hn
  generalize choL zeroSp xs s = CL at *
  generalize othL zeroSp xs s = OL at *
  generalize choK zeroSp xs s = CK at *
  generalize othK zeroSp xs s = OK at *
  go_enter Tryz.func112, Tryz.ntmps112
  go_wp2
  go_loopw [4, 5, 10] (fun v u i wr => Ext w wr ∧ ∃ (k : Nat) (A1 : Option Addr) (c1 : Nat) (A2 : Option Addr) (c2 : Nat), k ≤ n ∧ i = .int .i64 k ∧ v = .slice A1 (CK k).length c1 ∧ u = .slice A2 (OK k).length c2 ∧ Hid (Ownl 33 2 gSp wr w.heap.size (.slice A1 (CK k).length c1) (CK k)) ∧ Hid (Ownl 33 2 gSp wr w.heap.size (.slice A2 (OK k).length c2) (OK k)) ∧
      Hid (∀ q, (Value.slice A1 (CK k).length c1).ownBlock = some q → (Value.slice A2 (OK k).length c2).ownBlock ≠ some q)) (fun _ _ i _ => n - (intOf i).toNat)
  case atStart => exact ⟨by (repeat' (first | with_reducible assumption | with_reducible exact Ext.refl _ | with_reducible refine Ext.alloc ?_ _ | with_reducible refine Ext.set ?_ ?_ _ | with_reducible refine Ext.drew ?_ | with_reducible refine Ext.drewN ?_ _ | with_reducible refine Ext.trans ?_ (by assumption) | (dsimp only; omega))), 0, none, 0, none, 0, Nat.zero_le _, rfl, by rw [HC0.out]; rfl, by rw [HO0.out]; rfl, hid (by rw [HC0.out]; exact Ownl.nil _ _), hid (by rw [HO0.out]; exact Ownl.nil _ _), hid (fun q h => by cases h)⟩
  case round =>
    obtain ⟨hE, k, A1, c1, A2, c2, hk, rfl, rfl, rfl, HV, HU, HD⟩ := hrel
    have hwr : w.heap.size ≤ wr.heap.size := hE.size
    by_cases hlt : k < n
    · obtain ⟨b, off, rfl, hb, hck⟩ := (HX.out.ext hE).at_ HN.out hlt
      have HSC := hid (HC.out k)
      have HSO := hid (HO.out k)
      have hk1 : (CK k).length ≤ 8 := by have := HLC.out k; omega
      have hk2 : (OK k).length ≤ 8 := by have := HLO.out k; omega
      have HHk := hid (fun W => HH.out k (by omega) W)
      clear HC HO HLC HLO HH HX
      generalize xs.getD k zeroSp = x at *
      obtain ⟨d0, d1⟩ := hck
      generalize hasB s k = bb at *
      cases bb
      · rw [if_neg (by decide)] at HSC
        rw [if_neg (by decide)] at HSO
        generalize CK k = accC at *
        generalize OK k = accO at *
        go_wp2_with (first | (go_at_call 114; refine (HHk.out _).mono ?_; rintro e w2 ⟨rfl, hsm⟩; obtain rfl := hsm.symm) | (at_builtin; refine Halt.mk ?_))
        unfold Halt
        obtain ⟨wy, hwy⟩ : ∃ wy, wr.alloc (.cells #[.int .i64 x.lo, .int .i64 x.hi] 33) = wy := ⟨_, rfl⟩
        have EY := hid (show Ext wr wy by rw [← hwy]; exact ext_alloc1 _ _)
        rw [hwy]
        have BN := hid (show Blk (wy.alloc (.cells #[.int .i64 x.lo, .int .i64 x.hi] 33)) wy.heap.size 33 #[.int .i64 x.lo, .int .i64 x.hi] from blk_last _ _)
        have hy1 : wr.heap.size + 1 = wy.heap.size := by rw [← hwy]; simp
        try rw [hy1]
        refine wpList_app1Sp _ rfl _ _ rfl w.heap.size (.slice A2 accO.length c2) accO rfl ((HU.out.ext EY.out).ext (ext_alloc1 _ _)) wy.heap.size x rfl BN.out (by omega) (by simp; omega) ?_
        intro v4 w4 hO hg hw
        have E4 := hid ((HU.out.ext EY.out).extApp (hE.trans EY.out) (Nat.le_refl _) hg)
        have V4 := hid (((HV.out.ext EY.out).ext (ext_alloc1 _ _)).apart hg HD.out)
        have D4 := hid (fun q h h2 => apart_of hw (fun q h2 h => HD.out q h h2) (fun q h => by have := (HV.out.block q h).2; simp; omega) q h2 h)
        obtain ⟨A4, c4, rfl, -, -⟩ := ownSp hO
        have U4 := hid hO
        clear hO hg HV HU BN hw HD
        go_wp2
        go_roundw
        case rel => exact ⟨E4.out, k + 1, A1, c1, A4, c4, by omega, by go_num, by rw [HSC.out]; first | done | simp, by rw [HSO.out]; first | done | simp, hid (by rw [HSC.out]; exact V4.out), hid (by rw [HSO.out]; exact U4.out), hid (by rw [HSC.out, HSO.out]; exact D4.out)⟩
        case measure => simp [intOf]; omega
      · rw [if_pos rfl] at HSC
        rw [if_pos rfl] at HSO
        generalize CK k = accC at *
        generalize OK k = accO at *
        go_wp2_with (first | (go_at_call 114; refine (HHk.out _).mono ?_; rintro e w2 ⟨rfl, hsm⟩; obtain rfl := hsm.symm) | (at_builtin; refine Halt.mk ?_))
        unfold Halt
        obtain ⟨wy, hwy⟩ : ∃ wy, wr.alloc (.cells #[.int .i64 x.lo, .int .i64 x.hi] 33) = wy := ⟨_, rfl⟩
        have EY := hid (show Ext wr wy by rw [← hwy]; exact ext_alloc1 _ _)
        rw [hwy]
        have BN := hid (show Blk (wy.alloc (.cells #[.int .i64 x.lo, .int .i64 x.hi] 33)) wy.heap.size 33 #[.int .i64 x.lo, .int .i64 x.hi] from blk_last _ _)
        have hy1 : wr.heap.size + 1 = wy.heap.size := by rw [← hwy]; simp
        try rw [hy1]
        refine wpList_app1Sp _ rfl _ _ rfl w.heap.size (.slice A1 accC.length c1) accC rfl ((HV.out.ext EY.out).ext (ext_alloc1 _ _)) wy.heap.size x rfl BN.out (by omega) (by simp; omega) ?_
        intro v4 w4 hO hg hw
        have E4 := hid ((HV.out.ext EY.out).extApp (hE.trans EY.out) (Nat.le_refl _) hg)
        have U4 := hid (((HU.out.ext EY.out).ext (ext_alloc1 _ _)).apart hg (fun q h h2 => HD.out q h2 h))
        have D4 := hid (apart_of hw HD.out (fun q h => by have := (HU.out.block q h).2; simp; omega))
        obtain ⟨A4, c4, rfl, -, -⟩ := ownSp hO
        have V4 := hid hO
        clear hO hg HV HU BN hw HD
        go_wp2
        go_roundw
        case rel => exact ⟨E4.out, k + 1, A4, c4, A2, c2, by omega, by go_num, by rw [HSC.out]; first | done | simp, by rw [HSO.out]; first | done | simp, hid (by rw [HSC.out]; exact V4.out), hid (by rw [HSO.out]; exact U4.out), hid (by rw [HSC.out, HSO.out]; exact D4.out)⟩
        case measure => simp [intOf]; omega
    · obtain rfl : k = n := by omega
      obtain ⟨A3, c3, e3, l3, h3⟩ := ownSp HV.out
      obtain ⟨A4, c4, e4, l4, h4⟩ := ownSp HU.out
      cases e3
      cases e4
      have L3 := hid l3
      have L4 := hid l4
      have H3 := hid h3
      have H4 := hid h4
      rw [HCE.out] at H3 L3 ⊢
      rw [HOE.out] at H4 L4 ⊢
      clear h3 h4 l3 l4 HV HU HD HC HO HLC HLO HH HX
      go_wp2
      go_ret2
      exact ⟨A1, c1, A2, c2, rfl, H3.out, H4.out, L3.out, L4.out, hE⟩
set_option maxRecDepth 100000 in
set_option maxHeartbeats 4000000 in
theorem fewestSp_any (fn : Nat) (caps : Array Value) (eg : ∀ args w, (callFunc fn args).run Tryz.prog w = .ok (.enter fn args) w) (xs : List Sp) (P : Nat → Bool) (A : Option Addr) (n c : Nat) (hn : xs.length = n) (hm : n ≤ 8) (w : World) (hx : SpsAt w A xs)
    (hf : ∀ (s : Nat) (A1 : Option Addr) (c1 : Nat) (A2 : Option Addr) (c2 : Nat) (W : World), s < 256 → Ext w W → SpsAt W A1 (choL zeroSp xs s) → SpsAt W A2 (othL zeroSp xs s) → (choL zeroSp xs s).length ≤ c1 → (othL zeroSp xs s).length ≤ c2 →
      Calls Tryz.prog fn (#[.slice A1 (choL zeroSp xs s).length c1, .slice A2 (othL zeroSp xs s).length c2] ++ caps) W fun e W' => e = .returned (.bool (P s)) ∧ Ext W W') :
    Calls Tryz.prog 73 #[.slice A n c, .func (.func fn) #[] caps] w fun e w' => e = .returned (.tuple #[.int .i64 ((fewN P (2 ^ n)).getD 0 : Nat), .bool (fewN P (2 ^ n)).isSome]) ∧ Ext w w' := by
  have HFF := hid hf
  have HEG := hid eg
  have HSP := hid (fun (s : Nat) (hs : s < 256) (W : World) (hE : Ext w W) => splitSp_any xs s hs A n c hn hm W (hx.ext hE))
  have HBF := hid (fun (s t : Nat) (hs : s < 256) (ht : t < 256) (W : World) => isBefore_any s t hs ht W)
  have HS := hid (fun k => fewN_succ P k)
  have HLT := hid (fun k b (h : fewN P k = some b) => fewN_lt P k b h)
  have H0 := hid (show fewN P 0 = none from rfl)
  have hpow : 2 ^ n ≤ 2 ^ 8 := Nat.pow_le_pow_right (by decide) hm
  have hpow2 : (2 : Int) ^ n = ((2 ^ n : Nat) : Int) := by simp
  obtain ⟨N, hN⟩ : ∃ N, 2 ^ n = N := ⟨_, rfl⟩
  rw [hN] at hpow hpow2 ⊢
  have hw1 : IntKind.i64.wrap ((2 : Int) ^ n) = (N : Int) := by rw [hpow2]; exact IntWalk.i64_in _ (by omega)
  have hw2 : wrap64 ((2 : Int) ^ n) = (N : Int) := by rw [hpow2]; unfold wrap64; omega
  have hn64 : n < 64 := by omega
  clear hf hx hn eg
  generalize choL zeroSp xs = CL at *
  generalize othL zeroSp xs = OL at *
  generalize fewN P = FN at *
  go_enter Tryz.func73, Tryz.ntmps73
  go_wp2_with (simp only [hw1, hw2])
  go_loopw [6, 7, 13] (fun v f i wr => Ext w wr ∧ ∃ k : Nat, k ≤ N ∧ i = .int .i64 k ∧ v = .int .i64 ((FN k).getD 0 : Nat) ∧ f = .bool (FN k).isSome) (fun _ _ i _ => N - (intOf i).toNat)
  case atStart => exact ⟨by (repeat' (first | with_reducible assumption | with_reducible exact Ext.refl _ | with_reducible refine Ext.alloc ?_ _ | with_reducible refine Ext.set ?_ ?_ _ | with_reducible refine Ext.drew ?_ | with_reducible refine Ext.drewN ?_ _ | with_reducible refine Ext.trans ?_ (by assumption) | (dsimp only; omega))), 0, Nat.zero_le _, rfl, by rw [H0.out]; rfl, by rw [H0.out]; rfl⟩
  case round =>
    obtain ⟨hE, k, hk, rfl, rfl, rfl⟩ := hrel
    by_cases hlt : k < N
    · have HSk := hid (HS.out k)
      have HLk := hid (HLT.out k)
      have hk8 : k < 256 := by omega
      have HSPk := hid (fun W hE => HSP.out k hk8 W hE)
      have HFFk := hid (fun A1 c1 A2 c2 W => HFF.out k A1 c1 A2 c2 W hk8)
      clear HS HLT HSP HFF
      generalize FN k = o at *
      cases o with
      | none =>
        rw [fewS_none] at HSk
        go_wp2_with (first
          | (go_at_call 111; refine (HBk.out _).mono ?_; rintro e w2 ⟨rfl, hsm⟩; obtain rfl := hsm.symm)
          | (go_at_call 112; refine (HSPk.out _ hE).mono ?_; rintro e w2 ⟨A1, c1, A2, c2, rfl, h1, h2, h3, h4, hE2⟩; have H1 := hid h1; have H2 := hid h2; have H3 := hid h3; have H4 := hid h4; clear h1 h2 h3 h4; refine Halt.mk ?_))
        unfold Halt
        have EW := hid (hE.trans hE2)
        go_wp2_with fail
        rw [HEG.out]
        refine Calls.mono (HFFk.out A1 c1 A2 c2 _ EW.out H1.out H2.out H3.out H4.out) ?_
        rintro e w3 ⟨rfl, hE3⟩
        have EZ := hid (EW.out.trans hE3)
        generalize P k = pk at *
        cases pk
        · go_wp2
          go_roundw
          case rel => exact ⟨EZ.out, k + 1, by omega, by go_num, by rw [HSk.out]; rfl, by rw [HSk.out]; rfl⟩
          case measure => simp [intOf]; omega
        · go_wp2
          go_roundw
          case rel => exact ⟨EZ.out, k + 1, by omega, by go_num, by rw [HSk.out]; rfl, by rw [HSk.out]; rfl⟩
          case measure => simp [intOf]; omega
      | some b =>
        have hb8 : b < 256 := by have := HLk.out b rfl; omega
        have HBk := hid (fun W => HBF.out k b hk8 hb8 W)
        clear HBF HLk
        obtain ⟨bb, hbb⟩ : ∃ bb, befB k b = bb := ⟨_, rfl⟩
        rw [hbb] at HBk
        cases bb
        · rw [fewS_no P hbb] at HSk
          clear hbb
          go_wp2_with (go_at_call 111; refine (HBk.out _).mono ?_; rintro e w2 ⟨rfl, hsm⟩; obtain rfl := hsm.symm)
          go_roundw
          case rel => exact ⟨hE, k + 1, by omega, by go_num, by rw [HSk.out]; rfl, by rw [HSk.out]; rfl⟩
          case measure => simp [intOf]; omega
        · rw [fewS_yes P hbb] at HSk
          clear hbb
          go_wp2_with (first
            | (go_at_call 111; refine (HBk.out _).mono ?_; rintro e w2 ⟨rfl, hsm⟩; obtain rfl := hsm.symm)
            | (go_at_call 112; refine (HSPk.out _ hE).mono ?_; rintro e w2 ⟨A1, c1, A2, c2, rfl, h1, h2, h3, h4, hE2⟩; have H1 := hid h1; have H2 := hid h2; have H3 := hid h3; have H4 := hid h4; clear h1 h2 h3 h4; refine Halt.mk ?_))
          unfold Halt
          have EW := hid (hE.trans hE2)
          go_wp2_with fail
          rw [HEG.out]
          refine Calls.mono (HFFk.out A1 c1 A2 c2 _ EW.out H1.out H2.out H3.out H4.out) ?_
          rintro e w3 ⟨rfl, hE3⟩
          have EZ := hid (EW.out.trans hE3)
          generalize P k = pk at *
          cases pk
          · go_wp2
            go_roundw
            case rel => exact ⟨EZ.out, k + 1, by omega, by go_num, by rw [HSk.out]; rfl, by rw [HSk.out]; rfl⟩
            case measure => simp [intOf]; omega
          · go_wp2
            go_roundw
            case rel => exact ⟨EZ.out, k + 1, by omega, by go_num, by rw [HSk.out]; rfl, by rw [HSk.out]; rfl⟩
            case measure => simp [intOf]; omega
    · obtain rfl : k = N := by omega
      go_wp2
      go_ret2
      exact ⟨rfl, hE⟩
end Go.Proofs.YtggggnjibedgaaaGreat
/- keep over points. -/
set_option linter.unusedSimpArgs false
set_option linter.unusedVariables false
namespace Go.Proofs.YtggggnjibedgaaaGreat
open Go.RowKit
def keeS (xs : List Sp) (p : Sp → Bool) (k : Nat) : List Sp := (xs.take k).filter p
theorem keeS_succ (xs : List Sp) (p : Sp → Bool) (k : Nat) (h : k < xs.length) : keeS xs p (k + 1) = if p (xs.getD k zeroSp) then keeS xs p k ++ [xs.getD k zeroSp] else keeS xs p k := by
  unfold keeS
  rw [List.take_succ_eq_append_getElem h, List.filter_append]
  have e : xs.getD k zeroSp = xs[k] := by simp [List.getD, List.getElem?_eq_getElem h]
  rw [e]
  cases hp : p xs[k] <;> simp [hp]
theorem keeS_len (xs : List Sp) (p : Sp → Bool) (k : Nat) : (keeS xs p k).length ≤ k := by
  unfold keeS
  exact Nat.le_trans (List.length_filter_le _ _) (by rw [List.length_take]; omega)
set_option maxRecDepth 100000 in
set_option maxHeartbeats 4000000 in
theorem keepSp_any (fn : Nat) (caps : Array Value) (eg : ∀ args w, (callFunc fn args).run Tryz.prog w = .ok (.enter fn args) w) (xs : List Sp) (p : Sp → Bool) (A : Option Addr) (n c : Nat) (hn : xs.length = n) (hm : n ≤ 1000) (w : World) (hx : SpsAt w A xs)
    (hf : ∀ (x : Sp) (W : World), Ext w W → x ∈ xs → Calls Tryz.prog fn (#[x.val] ++ caps) W fun e W' => e = .returned (.bool (p x)) ∧ Ext W W') :
    Calls Tryz.prog 106 #[.slice A n c, .func (.func fn) #[] caps] w fun e w' => ∃ B d, e = .returned (.slice B (xs.filter p).length d) ∧ Ownl 33 2 gSp w' w.heap.size (.slice B (xs.filter p).length d) (xs.filter p) ∧ Ext w w' := by
  have HFF := hid (fun k (h : k < n) (W : World) (hE : Ext w W) => hf (xs.getD k zeroSp) W hE (mem_at xs zeroSp k (by omega)))
  have HX := hid hx
  have HN := hid hn
  have HEG := hid eg
  have HS := hid (fun k (h : k < n) => keeS_succ xs p k (by omega))
  have HL := hid (fun k => keeS_len xs p k)
  have H0 := hid (show keeS xs p 0 = [] from rfl)
  have HE := hid (show keeS xs p n = xs.filter p by unfold keeS; rw [List.take_of_length_le (by omega)])
  clear hf hx hn eg
  generalize xs.filter p = RL at *
  generalize keeS xs p = KK at *
  go_enter Tryz.func106, Tryz.ntmps106
  go_wp2
  go_loopw [5, 10] (fun v i wr => Ext w wr ∧ ∃ (k : Nat) (B : Option Addr) (d : Nat), k ≤ n ∧ i = .int .i64 k ∧ v = .slice B (KK k).length d ∧ Hid (Ownl 33 2 gSp wr w.heap.size (.slice B (KK k).length d) (KK k))) (fun _ i _ => n - (intOf i).toNat)
  case atStart => exact ⟨by (repeat' (first | with_reducible assumption | with_reducible exact Ext.refl _ | with_reducible refine Ext.alloc ?_ _ | with_reducible refine Ext.set ?_ ?_ _ | with_reducible refine Ext.drew ?_ | with_reducible refine Ext.drewN ?_ _ | with_reducible refine Ext.trans ?_ (by assumption) | (dsimp only; omega))), 0, none, 0, Nat.zero_le _, rfl, by rw [H0.out]; rfl, hid (by rw [H0.out]; exact Ownl.nil _ _)⟩
  case round =>
    obtain ⟨hE, k, B, d, hk, rfl, rfl, HV⟩ := hrel
    have hwr : w.heap.size ≤ wr.heap.size := hE.size
    by_cases hlt : k < n
    · obtain ⟨b, off, rfl, hb, c0, c1⟩ := (HX.out.ext hE).at_ HN.out hlt
      have HSk := hid (HS.out k hlt)
      have HFk := hid (fun W e => HFF.out k hlt W e)
      have hk1 : (KK k).length ≤ 1000 := by have := HL.out k; omega
      clear HS HL HX HFF
      generalize xs.getD k zeroSp = x at *
      obtain ⟨px, hpx⟩ : ∃ b, p x = b := ⟨_, rfl⟩
      rw [hpx] at HSk HFk
      clear hpx
      unfold Sp.val at HFk
      obtain ⟨lo, hi⟩ := x
      dsimp only at *
      have BX := hid (Blk.new wr 33 #[.int .i64 lo, .int .i64 hi])
      have EB := hid (ext_alloc1 wr (.cells #[.int .i64 lo, .int .i64 hi] 33))
      go_wp2_with fail
      rw [HEG.out]
      refine Calls.mono (HFk.out _ (hE.trans EB.out)) ?_
      rintro e w2 ⟨rfl, hE2⟩
      have EE := hid ((hE.trans EB.out).trans hE2)
      have VV := hid ((HV.out.ext EB.out).ext hE2)
      have BY := hid (BX.out.ext hE2)
      have hw2 : w.heap.size ≤ w2.heap.size := EE.out.size
      cases px
      · rw [if_neg (by decide)] at HSk
        go_wp2
        go_roundw
        case rel => exact ⟨EE.out, k + 1, B, d, by omega, by go_num, by rw [HSk.out], hid (by rw [HSk.out]; exact VV.out)⟩
        case measure => simp [intOf]; omega
      · rw [if_pos rfl] at HSk
        generalize KK k = acc at *
        have y0 := BY.out.cell 0
        have y1 := BY.out.cell 1
        simp only [List.getElem?_toArray, List.getElem?_cons_zero, List.getElem?_cons_succ] at y0 y1
        go_wp2_with (at_builtin; refine Halt.mk ?_)
        unfold Halt
        have BN := hid (Blk.new w2 33 #[.int .i64 lo, .int .i64 hi])
        refine wpList_app1Sp _ rfl _ _ rfl w.heap.size (.slice B acc.length d) acc rfl (VV.out.ext (ext_alloc1 _ _)) w2.heap.size ⟨lo, hi⟩ rfl BN.out (by omega) (by simp; omega) ?_
        intro v4 w4 hO hg _
        have E4 := hid (VV.out.extApp EE.out (Nat.le_refl _) hg)
        obtain ⟨A4, c4, rfl, -, -⟩ := ownSp hO
        have V4 := hid hO
        clear hO hg HV VV BN
        go_wp2
        go_roundw
        case rel => exact ⟨E4.out, k + 1, A4, c4, by omega, by go_num, by rw [HSk.out]; first | rfl | simp, hid (by rw [HSk.out]; exact V4.out)⟩
        case measure => simp [intOf]; omega
    · obtain rfl : k = n := by omega
      rw [HE.out] at HV ⊢
      go_wp2
      go_ret
      exact ⟨B, d, rfl, HV.out, hE⟩
end Go.Proofs.YtggggnjibedgaaaGreat
/- ArePoints and CheckLoad of the specification. -/
set_option linter.unusedSimpArgs false
set_option linter.unusedVariables false
namespace Go.Proofs.YtggggnjibedgaaaGreat
open Go.RowKit
def ptB (s : Sp) : Bool := spB s.lo s.hi 0 5000
def ptsB (xs : List Sp) : Bool := decide (xs.length ≤ 8) && xs.all ptB
def anE (xs : List Sp) (load : Int) (told : Bool) : Int := if ptsB xs then (if inI load 1 5000 && told then 0 else 1) else 92
set_option maxRecDepth 100000 in
set_option maxHeartbeats 2000000 in
theorem rArePoints_any (xs : List Sp) (A : Option Addr) (n c : Nat) (hn : xs.length = n) (hm : n ≤ 10000) (w : World) (hx : SpsAt w A xs) :
    Calls Tryz.prog 48 #[.slice A n c] w fun e w' => e = .returned (.bool (ptsB xs)) ∧ Ext w w' := by
  have HX := hid hx
  have HN := hid hn
  have HSP := hid (fun s b c W => rspan_any s b c W)
  have HST := hid (fun k (h : k < n) => all_take_snoc xs ptB zeroSp k (by omega))
  have HBD := hid (fun k (h : k < n) (hp : ptB (xs.getD k zeroSp) = false) => all_of_at xs ptB zeroSp k (by omega) hp)
  have HEN := hid (fun (h : (xs.take n).all ptB = true) => all_true_end h (by omega))
  obtain ⟨RR, hRR⟩ : ∃ b, ptsB xs = b := ⟨_, rfl⟩
  have HRR := hid hRR
  rw [hRR]
  unfold ptsB at HRR
  rw [hn] at HRR
  clear hx hn hRR
  go_enter Tryz.func48, Tryz.ntmps48
  go_wp2
  go_loopw [3] (fun i wr => Ext w wr ∧ ∃ k : Nat, k ≤ n ∧ i = .int .i64 k ∧ Hid ((xs.take k).all ptB = true)) (fun i _ => n - (intOf i).toNat)
  case atStart => exact ⟨by (repeat' (first | with_reducible assumption | with_reducible exact Ext.refl _ | with_reducible refine Ext.alloc ?_ _ | with_reducible refine Ext.set ?_ ?_ _ | with_reducible refine Ext.drew ?_ | with_reducible refine Ext.drewN ?_ _ | with_reducible refine Ext.trans ?_ (by assumption) | (dsimp only; omega))), 0, Nat.zero_le _, rfl, hid rfl⟩
  case round =>
    obtain ⟨hE, k, hk, rfl, HA⟩ := hrel
    by_cases hlt : k < n
    · obtain ⟨b, off, rfl, hb, c0, c1⟩ := (HX.out.ext hE).at_ HN.out hlt
      have HSk := hid (HST.out k hlt)
      have HBk := hid (HBD.out k hlt)
      have hk0 : (0 : Int) ≤ (k : Int) := by omega
      have hk1 : (k : Int) < (n : Int) := by omega
      clear HST HBD HEN HX
      generalize xs.getD k zeroSp = x at *
      have HF := hid (fun W => HSP.out x 0 5000 W)
      obtain ⟨b1, hb1⟩ : ∃ b, ptB x = b := ⟨_, rfl⟩
      rw [hb1] at HSk HBk
      unfold ptB at hb1
      rw [hb1] at HF
      unfold Sp.val at HF
      clear hb1 HSP
      obtain ⟨lo, hi⟩ := x
      dsimp only at *
      cases b1
      · have HR := hid (HBk.out rfl)
        go_wp2_with (go_at_call 97; refine (HF.out _).mono ?_; rintro e w2 ⟨rfl, hE2⟩)
        go_ret
        exact ⟨ret_bool (by first | (rw [← HRR.out, HR.out]; done) | (rw [← HRR.out, HR.out]; exact (Bool.and_false _).symm)), hE.trans hE2⟩
      · have HS2 := hid (HSk.out.trans (by rw [HA.out] <;> rfl))
        go_wp2_with (go_at_call 97; refine (HF.out _).mono ?_; rintro e w2 ⟨rfl, hE2⟩)
        go_roundw
        case rel => exact ⟨hE.trans hE2, k + 1, by omega, by go_num, HS2⟩
        case measure => simp [intOf]; omega
    · obtain rfl : k = n := by omega
      have HP := hid (HEN.out HA.out)
      by_cases h8 : k ≤ 8
      · have h8i : (k : Int) ≤ 8 := by omega
        have HD := hid (show decide (k ≤ 8) = true from decide_eq_true h8)
        go_wp2
        go_ret
        exact ⟨ret_bool (by first | (rw [← HRR.out, HP.out, HD.out]; done) | (rw [← HRR.out, HP.out, HD.out]; first | rfl | (simp; done) | (simp; omega))), hE⟩
      · have h8i : ¬ (k : Int) ≤ 8 := by omega
        have HD := hid (show decide (k ≤ 8) = false from decide_eq_false h8)
        go_wp2
        go_ret
        exact ⟨ret_bool (by first | (rw [← HRR.out, HP.out, HD.out]; done) | (rw [← HRR.out, HP.out, HD.out]; first | rfl | (simp; done) | (simp; omega))), hE⟩
set_option maxRecDepth 100000 in
set_option maxHeartbeats 2000000 in
theorem rCheckLoad_any (xs : List Sp) (load : Int) (told : Bool) (A : Option Addr) (n c : Nat) (hn : xs.length = n) (hm : n ≤ 10000) (w : World) (hx : SpsAt w A xs) :
    Calls Tryz.prog 46 #[.slice A n c, .int .i64 load, .bool told] w fun e w' => e = .returned (.int .i64 (anE xs load told)) ∧ Ext w w' := by
  have HA := hid (fun (W : World) (hE : Ext w W) => rArePoints_any xs A n c hn hm W (hx.ext hE))
  have HW := hid (fun a b c W => rwithin_any a b c W)
  unfold anE
  clear hx hn
  generalize ptsB xs = b1 at *
  obtain ⟨b2, h2⟩ : ∃ b, inI load 1 5000 = b := ⟨_, rfl⟩
  rw [h2]
  obtain ⟨RR, hRR⟩ : ∃ v, (if b1 then (if b2 && told then (0 : Int) else 1) else 92) = v := ⟨_, rfl⟩
  rw [hRR]
  have HRR := hid hRR
  clear hRR
  cases b1
  case false =>
    go_enter Tryz.func46, Tryz.ntmps46
    go_wp2_with (go_at_call 48; refine (HA.out _ (by (repeat' (first | with_reducible assumption | with_reducible exact Ext.refl _ | with_reducible refine Ext.alloc ?_ _ | with_reducible refine Ext.set ?_ ?_ _ | with_reducible refine Ext.drew ?_ | with_reducible refine Ext.drewN ?_ _ | with_reducible refine Ext.trans ?_ (by assumption) | (dsimp only; omega))))).mono ?_; rintro e w2 ⟨rfl, hE⟩; (first | (have hK := KC.step (n := w.heap.size) (by with_reducible assumption) hE) | (have hK := KC.step (KC.step (n := w.heap.size) (by with_reducible assumption) (ext_alloc1 _ _)) hE) | (have hK := KC.step (KC.refl (n := w.heap.size) (by simp)) hE)); have hC := hK.cell; have hF := hK.fro; have hX := hK.ext)
    go_ret
    exact ⟨ret_int (by rw [← HRR.out]; simp), by (repeat' (first | with_reducible assumption | with_reducible exact Ext.refl _ | with_reducible refine Ext.alloc ?_ _ | with_reducible refine Ext.set ?_ ?_ _ | with_reducible refine Ext.drew ?_ | with_reducible refine Ext.drewN ?_ _ | with_reducible refine Ext.trans ?_ (by assumption) | (dsimp only; omega)))⟩
  cases b2 <;> cases told <;>
  (go_enter Tryz.func46, Tryz.ntmps46
   go_wp2_with (first
     | (go_at_call 48; refine (HA.out _ (by (repeat' (first | with_reducible assumption | with_reducible exact Ext.refl _ | with_reducible refine Ext.alloc ?_ _ | with_reducible refine Ext.set ?_ ?_ _ | with_reducible refine Ext.drew ?_ | with_reducible refine Ext.drewN ?_ _ | with_reducible refine Ext.trans ?_ (by assumption) | (dsimp only; omega))))).mono ?_; rintro e w2 ⟨rfl, hE⟩; (first | (have hK := KC.step (n := w.heap.size) (by with_reducible assumption) hE) | (have hK := KC.step (KC.step (n := w.heap.size) (by with_reducible assumption) (ext_alloc1 _ _)) hE) | (have hK := KC.step (KC.refl (n := w.heap.size) (by simp)) hE)); have hC := hK.cell; have hF := hK.fro; have hX := hK.ext)
     | (go_at_call 76; refine (HW.out _ _ _ _).mono ?_; rintro e w2 ⟨rfl, rfl⟩; simp only [h2]))
   go_ret
   exact ⟨ret_int (by rw [← HRR.out]; simp), by (repeat' (first | with_reducible assumption | with_reducible exact Ext.refl _ | with_reducible refine Ext.alloc ?_ _ | with_reducible refine Ext.set ?_ ?_ _ | with_reducible refine Ext.drew ?_ | with_reducible refine Ext.drewN ?_ _ | with_reducible refine Ext.trans ?_ (by assumption) | (dsimp only; omega)))⟩)
end Go.Proofs.YtggggnjibedgaaaGreat
