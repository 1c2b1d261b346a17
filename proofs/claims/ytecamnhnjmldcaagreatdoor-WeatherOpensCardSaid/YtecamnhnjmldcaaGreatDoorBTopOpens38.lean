/- spans of the specification. -/
import Derived.Test.YtecamnhnjmldcaaGreatDoorBTopOpens27
import Derived.Test.YtecamnhnjmldcaaGreatDoorB22
import Derived.Test.YtecamnhnjmldcaaGreatDoorB13
set_option linter.unusedSimpArgs false
set_option linter.unusedVariables false
namespace Go.Proofs.YtecamnhnjmldcaaGreatDoor
open Go.RowKit
set_option maxRecDepth 100000 in
set_option maxHeartbeats 4000000 in
theorem rspans_any (l : List Bool) (A : Option Addr) (n c : Nat) (hln : l.length = n) (hn : n ≤ 9000) (w : World) (hx : BosAt w A l) :
    Calls Tryz.prog 48 #[.slice A n c] w fun e w' => ∃ A' c', e = .returned (.slice A' (spansM (fun i => l.getD i false) n).length c') ∧ Ownl 27 2 gSp w' w.heap.size (.slice A' (spansM (fun i => l.getD i false) n).length c') (spansM (fun i => l.getD i false) n) ∧ Ext w w' := by
  have HX := hid hx
  have HLN := hid hln
  have HONE := hid (fun (k : Nat) W => rOne_any (k : Int) W)
  generalize hp : (fun i => l.getD i false) = p
  have HP := hid (fun i => show l.getD i false = p i by rw [← hp])
  clear hx hln hp
  go_enter Tryz.func48, Tryz.ntmps48
  go_wp2
  go_loopw [3, 4] (fun v i wr => Ext w wr ∧ ∃ (k : Nat) (A : Option Addr) (c : Nat), k ≤ n ∧ i = .int .i64 k ∧ v = .slice A (spansM p k).length c ∧ Hid (Ownl 27 2 gSp wr w.heap.size (.slice A (spansM p k).length c) (spansM p k))) (fun _ i _ => n - (intOf i).toNat)
  case atStart => exact ⟨by (repeat' (first | with_reducible assumption | with_reducible exact Ext.refl _ | with_reducible refine Ext.alloc ?_ _ | with_reducible refine Ext.set ?_ ?_ _ | with_reducible refine Ext.drew ?_ | with_reducible refine Ext.drewN ?_ _ | with_reducible refine Ext.trans ?_ (by assumption) | (dsimp only; omega))), 0, none, 0, Nat.zero_le _, rfl, rfl, hid (Ownl.nil _ _)⟩
  case round =>
    obtain ⟨hE, k, A9, c, hk, rfl, rfl, HV⟩ := hrel
    by_cases hlt : k < n
    · have HST := hid (spansM_step p k)
      have HLE := hid (spansM_len p k)
      obtain ⟨b, off, rfl, hb0, e0⟩ := (HX.out.ext hE).at_ HLN.out hlt
      unfold BoAt at e0
      rw [HP.out] at e0
      have hk0 : (0 : Int) ≤ (k : Int) := by omega
      have hk1 : (k : Int) < (n : Int) := by omega
      generalize spansM p k = acc at *
      have HONE1 := hid (HONE.out k)
      clear HONE HX HLN
      cases hp : p k
      · rw [hp, if_neg (by decide)] at HST
        rw [hp] at e0
        clear hp
        go_wp2
        go_roundw
        case rel => exact ⟨hE, k + 1, A9, c, by omega, by go_num, by rw [HST.out], hid (by rw [HST.out]; exact HV.out)⟩
        case measure => simp [intOf]; omega
      · rw [hp, if_pos rfl] at HST
        rw [hp] at e0
        clear hp
        rcases Nat.eq_zero_or_pos acc.length with h0 | h0
        · have hnil : acc = [] := List.length_eq_zero_iff.1 h0
          subst hnil
          rw [spStep_nil] at HST
          simp only [List.length_nil] at HV ⊢
          clear h0 HLE
          go_wp2_with fail
          refine (HONE1.out _).mono ?_
          rintro e w3 ⟨rfl, hE3⟩
          have V3 := hid (HV.out.ext hE3)
          have E3 := hid (hE.trans hE3)
          have s3 := hE.trans hE3
          have s4 := s3.size
          clear HV hE3 s3 HONE1 e0
          go_wp2_with (at_builtin; refine Halt.mk ?_)
          unfold Halt
          have BN := hid (show Blk (w3.alloc (.cells #[.int .i64 (k : Int), .int .i64 (k : Int)] 27)) w3.heap.size 27 #[.int .i64 (k : Int), .int .i64 (k : Int)] from blk_last _ _)
          refine wpList_app1Sp _ rfl _ _ rfl w.heap.size (.slice A9 0 c) [] rfl (V3.out.ext (ext_alloc1 _ _)) w3.heap.size ((k : Int), (k : Int)) rfl BN.out (by simp) (by simp; omega) ?_
          intro v4 w4 hO hg
          have E4 := hid (V3.out.extApp E3.out (Nat.le_refl _) hg)
          obtain ⟨A4, c4, rfl, -, -, -⟩ := (hO.form (by decide) (fun _ => rfl) (0, 0))
          have V4 := hid hO
          clear hO hg V3 E3 BN
          go_wp2
          go_roundw
          case rel => exact ⟨E4.out, k + 1, A4, c4, by omega, by go_num, by rw [HST.out]; simp, hid (by rw [HST.out]; exact V4.out)⟩
          case measure => simp [intOf]; omega
        · obtain ⟨L, hL⟩ : ∃ L, acc.length = L + 1 := ⟨acc.length - 1, by omega⟩
          have HLA := hid hL
          obtain ⟨q, qc, hq, hq1, hq2⟩ := HV.out.some_ h0
          injection hq with hA _ hc
          subst hA hc
          have h' : wr.ownsRow w.heap.size 27 2 (.slice (some ⟨q, 0, none⟩) acc.length c) acc.length (acc.flatMap gSp) := HV.out
          have ca := h'.cellAt (L * 2 + 1) (by omega)
          have cf := h'.frozenAt (L * 2 + 1)
          rw [fm_at gSp 2 (fun _ => rfl) (0, 0) acc L 1 (by omega) (by decide)] at ca
          have ca2 : wr.cell? ⟨q, L * 2 + 1, none⟩ = some (.int .i64 (acc.getD L (0, 0)).2) := ca
          have HJ := hid (fun hj => spStep_join acc L k hL hj)
          have HNW := hid (fun hj => spStep_new acc L k hL hj)
          have HHI := hid (fun y => Ownl.high HV.out (k := L) (by omega) y)
          clear ca h' h0
          obtain ⟨hh, hhe⟩ : ∃ hh, (acc.getD L (0, 0)).2 = hh := ⟨_, rfl⟩
          rw [hhe] at ca2 HJ HNW
          clear hhe
          have HLE2 := hid (show acc.length ≤ k from HLE.out)
          have hLa : acc.length ≤ 9000 := by have := HLE2.out; omega
          have hL9 : L ≤ 9000 := by have := HLE2.out; omega
          have hL10 : (L : Int) ≤ 9000 := by omega
          rw [hL] at HV HHI ⊢
          clear hL HLE
          by_cases hj : hh = (k : Int) - 1
          · have hd : (hh == (k : Int) - 1) = true := by simp [hj]
            have HS2 := hid (HST.out.trans (HJ.out hj))
            have V5 := hid (HHI.out (k : Int)).1
            have G5 := hid (HHI.out (k : Int)).2
            have XE := hid (hE.set (p := ⟨q, L * 2 + 1, none⟩) hq1 (.int .i64 (k : Int)))
            clear HJ HNW HHI HST hj
            go_wp2
            go_roundw
            case rel => exact ⟨XE.out, k + 1, some ⟨q, 0, none⟩, c, by omega, by go_num, by rw [HS2.out, List.length_set, HLA.out], hid (by rw [HS2.out, List.length_set, HLA.out]; have hv := V5.out; exact hv)⟩
            case measure => simp [intOf]; omega
          · have hd : (hh == (k : Int) - 1) = false := beq_eq_false_iff_ne.2 hj
            have HS2 := HNW.out hj
            rw [HS2] at HST
            clear HJ HNW HHI HS2 hj
            go_wp2_with fail
            refine (HONE1.out _).mono ?_
            rintro e w3 ⟨rfl, hE3⟩
            clear ca2 cf
            have V3 := hid (HV.out.ext hE3)
            have E3 := hid (hE.trans hE3)
            have s3 := hE.trans hE3
            have s4 := s3.size
            clear HV hE3 s3 HONE1 e0
            go_wp2_with (at_builtin; refine Halt.mk ?_)
            unfold Halt
            have BN := hid (show Blk (w3.alloc (.cells #[.int .i64 (k : Int), .int .i64 (k : Int)] 27)) w3.heap.size 27 #[.int .i64 (k : Int), .int .i64 (k : Int)] from blk_last _ _)
            refine wpList_app1Sp _ rfl _ _ rfl w.heap.size (.slice (some ⟨q, 0, none⟩) (L + 1) c) acc rfl (V3.out.ext (ext_alloc1 _ _)) w3.heap.size ((k : Int), (k : Int)) rfl BN.out (by omega) (by simp; omega) ?_
            intro v4 w4 hO hg
            have E4 := hid (V3.out.extApp E3.out (Nat.le_refl _) hg)
            obtain ⟨A4, c4, rfl, -, -, -⟩ := (hO.form (by decide) (fun _ => rfl) (0, 0))
            have V4 := hid hO
            clear hO hg V3 E3 BN
            go_wp2
            go_roundw
            case rel => exact ⟨E4.out, k + 1, A4, c4, by omega, by go_num, by rw [HST.out]; simp, hid (by rw [HST.out]; exact V4.out)⟩
            case measure => simp [intOf]; omega
    · obtain rfl : k = n := by omega
      go_wp2
      go_ret
      exact ⟨A9, c, rfl, HV.out, hE⟩
end Go.Proofs.YtecamnhnjmldcaaGreatDoor
