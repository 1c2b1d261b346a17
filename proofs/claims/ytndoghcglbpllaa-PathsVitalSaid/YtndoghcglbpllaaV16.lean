/- table. -/
import Derived.Test.YtndoghcglbpllaaV11
import Derived.Test.YtndoghcglbpllaaV15
import Derived.Test.YtndoghcglbpllaaV09
set_option linter.unusedSimpArgs false
set_option linter.unusedVariables false
namespace Go.Proofs.Ytndoghcglbpllaa
open Go.RowKit
set_option maxRecDepth 100000 in
set_option maxHeartbeats 4000000 in
theorem table_any (hi : Bool) (mm : Nat) (hm1 : 1 ≤ mm) (hm2 : mm ≤ 12) (g l pl ph : Int) (ha : PaOk l pl ph) (A : Option Addr) (n c : Nat) (ps : List Pt) (hn : ps.length = n) (hN : NOk mm ps) (hO : ∀ i, i < ps.length → ∀ o, o ∈ (ps.getD i zeroPt).opens → 0 ≤ o.1 ∧ o.1 ≤ o.2 ∧ o.2 ≤ 2880)
    (fr : Nat) (hfr : fr < mm) (start : Int) (h0 : 0 ≤ start) (h1 : start ≤ 2880) (but : Int) (w : World) (hp : PathsAt w A ps) :
    Calls Try.prog 56 #[.agg #[.int .i64 (mm : Int), .slice A n c], .agg #[.int .i64 g, .int .i64 l, .int .i64 pl, .int .i64 ph], .int .i64 (fr : Int), .int .i64 start, .bool hi, .int .i64 but] w
      (NewRow ((ipRows (selB hi) g l pl ph ps but mm fr start mm).map phi) w) := by
  have hs : SelGe (selB hi) := fun a b ha hb => by have := selB_pos hi ha hb; omega
  have h24 : n ≤ 24 := by have := hN.len; omega
  have HCAN := hid (fun (i : Nat) (hi' : i < n) (W : World) (hE : Ext w W) => rCan_any (mm : Int) g l pl ph A n c ps hn i hi' (by omega) W (hp.ext hE))
  have HSTP := hid (fun (i : Nat) (hi' : i < n) (t : Int) (ht : 0 ≤ t) (W : World) (hE : Ext w W) => rStep_any hi (mm : Int) g l pl ph ha A n c ps hn i hi' (hN.ok i (by omega)) (hO i (by omega)) t ht W (hp.ext hE))
  have HBD := hid (fun k i (hi' : i ≤ ps.length) => ipTo_bd (g := g) (but := but) hs ha hN (ipRows_bd (g := g) (but := but) hs ha hN (from_ := fr) h0 (by omega : start ≤ 2881) k) i hi')
  have HP := hid hp
  have HN := hid hn
  have HNO := hid hN
  have HPA := hid ha
  have HS := hid hs
  have hmk : ∀ W : World, (Instr.makeSlice 29 (.int .i64 (mm : Int)) (.int .i64 (mm : Int))).run Try.prog W = .ok (.slice (some ⟨W.heap.size, 0, none⟩) mm mm) (W.alloc (.cells (fillTo 0 mm 1073741824).toArray 3)) := fun W => by
    rw [run_make_row' 29 3 (.int .i64 0) 8 Try.underlying29 info3 rfl .i64 .i64 mm (by omega) (by omega) W, made_fill]
  have t0 := three_blocks w (.cells #[.int .i64 (mm : Int), .slice A n c] 24) (.cells #[.int .i64 g, .int .i64 l, .int .i64 pl, .int .i64 ph] 28) (.cells (fillTo 0 mm 1073741824).toArray 3)
  have B0 := hid t0.1
  have B1 := hid t0.2.1
  have B2 := hid t0.2.2
  have hfi0 : (0 : Int) ≤ (fr : Int) := by omega
  have hfi1 : (fr : Int) < (mm : Int) := by omega
  clear hp hn hN hO ha hs t0
  generalize hf0 : fillTo 0 mm 1073741824 = f0 at *
  have HF0 := hid hf0
  clear hf0
  go_enter Try.func56, Try.ntmps56
  go_wp2
  go_loopw [14] (fun i wr => Ext w wr ∧ Hid (wr.heap[w.heap.size]? = some (.cells #[.int .i64 (mm : Int), .slice A n c] 24 (0, 0))) ∧ Hid (wr.heap[w.heap.size + 1]? = some (.cells #[.int .i64 g, .int .i64 l, .int .i64 pl, .int .i64 ph] 28 (0, 0))) ∧
    ∃ k : Nat, k ≤ mm ∧ i = .int .i64 k ∧ Hid (wr.heap[w.heap.size + 1 + 1]? = some (.cells (fillTo k mm 1073741824).toArray 3 (0, 0)))) (fun i _ => mm - (intOf i).toNat)
  case atStart => exact ⟨by (repeat' (first | with_reducible assumption | with_reducible exact Ext.refl _ | with_reducible refine Ext.alloc ?_ _ | with_reducible refine Ext.set ?_ ?_ _ | with_reducible refine Ext.drew ?_ | with_reducible refine Ext.drewN ?_ _ | with_reducible refine Ext.trans ?_ (by assumption) | (dsimp only; omega))), B0, B1, 0, Nat.zero_le _, rfl, by rw [HF0.out]; exact B2⟩
  case round =>
    clear B0 B1 B2 hmk HF0
    obtain ⟨hE, C0, C1, k, hk, rfl, C2⟩ := hrel
    have a0 := blk_cell C0.out 0
    simp only [List.getElem?_toArray, List.getElem?_cons_zero, List.getElem?_cons_succ] at a0
    have z0 := (Array.getElem?_eq_some_iff.1 C0.out).1
    have z2 := (Array.getElem?_eq_some_iff.1 C2.out).1
    by_cases hlt : k < mm
    · have hk0 : (0 : Int) ≤ (k : Int) := by omega
      have hk1 : (k : Int) < (mm : Int) := by omega
      have b0 := blk_cell C2.out k
      rw [List.getElem?_toArray, fill_get0 k mm _ hlt] at b0
      have f0' := blk_fro C2.out k
      have C2' := hid (heap_setCell_same wr (w.heap.size + 1 + 1) k _ _ (.int .i64 1073741824) C2.out)
      rw [List.setIfInBounds_toArray, fill_set k mm _ hlt] at C2'
      have C0' := hid ((Below.heap_setCell wr ⟨w.heap.size + 1 + 1, k, none⟩ (.int .i64 1073741824) w.heap.size (by dsimp only; omega)).trans C0.out)
      have C1' := hid ((Below.heap_setCell wr ⟨w.heap.size + 1 + 1, k, none⟩ (.int .i64 1073741824) (w.heap.size + 1) (by dsimp only; omega)).trans C1.out)
      go_wp2
      go_roundw
      case rel => exact ⟨hE.set (by dsimp only; omega) _, C0', C1', k + 1, by omega, by go_num, C2'⟩
      case measure => (simp [intOf] <;> omega)
    obtain rfl : k = mm := by omega
    have hrow0 := (row_fill C2.out (by unfold maxLen; omega)).set fr start
    have hmap : (List.replicate k (1073741824 : Int)).set fr start = (ipRows (selB hi) g l pl ph ps but k fr start 0).map phi := by
      rw [ipRows, List.map_set, List.map_replicate]
      congr 1
      unfold phi
      rw [if_neg (by omega)]
    rw [hmap] at hrow0
    have HROW := hid hrow0
    have rfr := (row_fill C2.out (by unfold maxLen; omega)).fro fr
    have rce := (row_fill C2.out (by unfold maxLen; omega)).cell (k := fr) (by simp; omega)
    have C0' := hid ((Below.heap_setCell wr ⟨w.heap.size + 1 + 1, fr, none⟩ (.int .i64 start) w.heap.size (by dsimp only; omega)).trans C0.out)
    have C1' := hid ((Below.heap_setCell wr ⟨w.heap.size + 1 + 1, fr, none⟩ (.int .i64 start) (w.heap.size + 1) (by dsimp only; omega)).trans C1.out)
    have E1 : Ext w (wr.setCell ⟨w.heap.size + 1 + 1, fr, none⟩ (.int .i64 start)) := hE.set (by dsimp only; omega) _
    obtain ⟨G, hG⟩ : ∃ G, w.heap.size + 1 + 1 = G := ⟨_, rfl⟩
    have hGw : w.heap.size + 2 ≤ G := by omega
    rw [hG] at HROW rfr rce C0' C1' E1 z2
    rw [hG]
    clear hrow0 hmap C0 C1 C2 hG
    obtain ⟨wo, rfl⟩ : ∃ wo, wo = wr := ⟨_, rfl⟩
    obtain ⟨mm, hmm⟩ : ∃ mm, k = mm := ⟨_, rfl⟩
    subst hmm
    go_wp2
    go_loopw [15] (fun i wr => Ext w wr ∧ Hid (wr.heap[w.heap.size]? = some (.cells #[.int .i64 (k : Int), .slice A n c] 24 (0, 0))) ∧ Hid (wr.heap[w.heap.size + 1]? = some (.cells #[.int .i64 g, .int .i64 l, .int .i64 pl, .int .i64 ph] 28 (0, 0))) ∧
      ∃ q : Nat, q ≤ k ∧ i = .int .i64 q ∧ Hid (RowAt wr G k ((ipRows (selB hi) g l pl ph ps but k fr start q).map phi))) (fun i _ => k - (intOf i).toNat)
    case atStart => exact ⟨E1, C0', C1', 0, Nat.zero_le _, rfl, HROW⟩
    case round =>
      clear C0' C1' HROW E1 rfr rce a0 z0 z2 hE
      obtain ⟨hE, C0, C1, q, hq, rfl, R⟩ := hrel
      have a0 := blk_cell C0.out 0
      have a1 := blk_cell C0.out 1
      simp only [List.getElem?_toArray, List.getElem?_cons_zero, List.getElem?_cons_succ] at a0 a1
      have z0 := (Array.getElem?_eq_some_iff.1 C0.out).1
      have hlen := ipRows_len (sel := selB hi) (g := g) (l := l) (pl := pl) (ph := ph) (ps := ps) (but := but) (m := k) fr start
      by_cases hltq : q < k
      · obtain ⟨wi, rfl⟩ : ∃ wi, wi = wr := ⟨_, rfl⟩
        have HQ := hid (show ipRows (selB hi) g l pl ph ps but k fr start (q + 1) = ipTo (selB hi) g l pl ph ps but (ipRows (selB hi) g l pl ph ps but k fr start q) ps.length from rfl)
        have HQ0 := hid (show ipTo (selB hi) g l pl ph ps but (ipRows (selB hi) g l pl ph ps but k fr start q) 0 = ipRows (selB hi) g l pl ph ps but k fr start q from rfl)
        have hq1 : (q : Int) < (k : Int) := by omega
        go_wp2
        go_loopw [16] (fun i wr => Ext w wr ∧ Hid (wr.heap[w.heap.size]? = some (.cells #[.int .i64 (k : Int), .slice A n c] 24 (0, 0))) ∧ Hid (wr.heap[w.heap.size + 1]? = some (.cells #[.int .i64 g, .int .i64 l, .int .i64 pl, .int .i64 ph] 28 (0, 0))) ∧
          ∃ i' : Nat, i' ≤ n ∧ i = .int .i64 i' ∧ Hid (RowAt wr G k ((ipTo (selB hi) g l pl ph ps but (ipRows (selB hi) g l pl ph ps but k fr start q) i').map phi))) (fun i _ => n - (intOf i).toNat)
        case atStart => exact ⟨hE, C0, C1, 0, Nat.zero_le _, rfl, by rw [HQ0.out]; exact R⟩
        case round =>
          clear C0 C1 R hE a0 a1 z0 HQ0
          obtain ⟨hE, K0, K1, i, hi', rfl, R⟩ := hrel
          have a0 := blk_cell K0.out 0
          have a1 := blk_cell K0.out 1
          have b0 := blk_cell K1.out 0
          have b1 := blk_cell K1.out 1
          have b2 := blk_cell K1.out 2
          have b3 := blk_cell K1.out 3
          simp only [List.getElem?_toArray, List.getElem?_cons_zero, List.getElem?_cons_succ] at a0 a1 b0 b1 b2 b3
          have z0 := (Array.getElem?_eq_some_iff.1 K0.out).1
          have z1 := (Array.getElem?_eq_some_iff.1 K1.out).1
          by_cases hlt : i < n
          · have hbd := HBD.out q i (by have := HN.out; omega)
            have HIP := hid (ipTo_succ (selB hi) g l pl ph ps but (ipRows (selB hi) g l pl ph ps but k fr start q) i)
            have HSK := hid (fun h => ip_skip (sel := selB hi) (g := g) (l := l) (pl := pl) (ph := ph) (ps := ps) (but := but) (acc := ipTo (selB hi) g l pl ph ps but (ipRows (selB hi) g l pl ph ps but k fr start q) i) (i := i) h)
            have hfrm := HNO.out.frm i (by have := HN.out; omega)
            have hdst := HNO.out.dst i (by have := HN.out; omega)
            have hok := HNO.out.ok i (by have := HN.out; omega)
            have HNV := hid (fun hD h => ip_never HS.out (g := g) HPA.out (ps := ps) (but := but) (acc := ipTo (selB hi) g l pl ph ps but (ipRows (selB hi) g l pl ph ps but k fr start q) i) (i := i) hok hD h)
            have HYS := hid (fun h1 h2 => ip_yes (sel := selB hi) (g := g) (l := l) (pl := pl) (ph := ph) (ps := ps) (but := but) (acc := ipTo (selB hi) g l pl ph ps but (ipRows (selB hi) g l pl ph ps but k fr start q) i) (i := i) h1 h2)
            have HCI := hid (HCAN.out i hlt)
            have HSI := hid (fun (t : Int) (ht : 0 ≤ t) => HSTP.out i hlt t ht)
            have HAB := hid (fun (t : Int) (ht : 0 ≤ t) => arrive_bd HS.out HPA.out hok ht)
            obtain ⟨acc, hacc⟩ : ∃ acc, ipTo (selB hi) g l pl ph ps but (ipRows (selB hi) g l pl ph ps but k fr start q) i = acc := ⟨_, rfl⟩
            rw [hacc] at hbd HIP HSK HNV HYS R
            clear hacc
            obtain ⟨b, off, A', c', rfl, hb, hpt⟩ := (HP.out.ext hE).at_ HN.out hlt
            have hk0 : (0 : Int) ≤ (i : Int) := by omega
            have hk1 : (i : Int) < (n : Int) := by omega
            obtain ⟨p, hpq⟩ : ∃ p, ps.getD i zeroPt = p := ⟨_, rfl⟩
            rw [hpq] at hpt hfrm hdst HSK HNV HYS HCI HSI HAB
            clear hpq hok
            obtain ⟨d0, d1, d2, d3, d4, d5, d6, d7, hcap, hop⟩ := hpt
            obtain ⟨ff, dd, gg, tl, th, sl, sh, os⟩ := p
            dsimp only at d0 d1 d2 d3 d4 d5 d6 d7 hfrm hdst HSK HNV HYS HCI
            obtain ⟨f, rfl⟩ : ∃ f : Nat, ff = f := ⟨ff.toNat, by omega⟩
            obtain ⟨d, rfl⟩ : ∃ d : Nat, dd = d := ⟨dd.toNat, by omega⟩
            rw [Int.toNat_natCast] at HNV HYS
            simp only [Int.toNat_natCast] at HNV HYS
            clear hop hcap
            have hf0 : (0 : Int) ≤ (f : Int) := by omega
            have hf1 : (f : Int) < (k : Int) := by omega
            have hd0 : (0 : Int) ≤ (d : Int) := by omega
            have hd1 : (d : Int) < (k : Int) := by omega
            have hFb := hbd.2 f (by omega)
            have hDb' := hbd.2 d (by omega)
            have hal : acc.length = k := hbd.1
            have rf := R.out.cell (k := f) (by rw [List.length_map]; omega)
            have rd := R.out.cell (k := d) (by rw [List.length_map]; omega)
            rw [map_getD _ _ (by omega)] at rf rd
            obtain ⟨F0, hF0⟩ : ∃ x, acc.getD f 0 = x := ⟨_, rfl⟩
            obtain ⟨D0, hD0⟩ : ∃ x, acc.getD d 0 = x := ⟨_, rfl⟩
            rw [hF0] at rf hFb HNV HYS
            rw [hD0] at rd hDb' HNV HYS
            have hF0x := hF0
            have hD0x := hD0
            clear hF0 hD0
            have hDb := hDb'.2
            have gl := R.out.lt
            have X0 := hid (heap_alloc_new wr (.cells #[.int .i64 (f : Int), .int .i64 (d : Int), .int .i64 gg, .int .i64 tl, .int .i64 th, .int .i64 sl, .int .i64 sh, .slice A' os.length c'] 56))
            have n1 : ¬ G = wr.heap.size := by omega
            have n1' : ¬ wr.heap.size = G := by omega
            have n2 : ¬ w.heap.size = G := by omega
            have n3 : ¬ w.heap.size + 1 = G := by omega
            by_cases hib : (i : Int) = but
            · subst hib
              have hne : decide ((i : Int) = (i : Int)) = true := by simp
              rw [HSK.out (.inl rfl)] at HIP
              obtain ⟨w2, hw2⟩ : ∃ w2, wr.alloc (.cells #[.int .i64 (f : Int), .int .i64 (d : Int), .int .i64 gg, .int .i64 tl, .int .i64 th, .int .i64 sl, .int .i64 sh, .slice A' os.length c'] 56) = w2 := ⟨_, rfl⟩
              have E2 : Ext w w2 := by rw [← hw2]; exact hE.alloc _
              have eX : Ext wr w2 := by rw [← hw2]; exact ext_alloc1 _ _
              have C0 := hid (blk_ext K0.out eX)
              have C1 := hid (blk_ext K1.out eX)
              have R2 := hid (R.out.ext eX)
              have R4 := hid (show RowAt w2 G k ((ipTo (selB hi) g l pl ph ps (i : Int) (ipRows (selB hi) g l pl ph ps (i : Int) k fr start q) (i + 1)).map phi) by rw [HIP.out]; exact R2.out)
              go_wp2
              go_roundw
              case rel => exact ⟨E2, C0, C1, i + 1, by omega, by go_num, R4⟩
              case measure => (simp [intOf] <;> omega)
            · have hne : decide ((i : Int) = but) = false := decide_eq_false hib
              go_wp2_with fail
              refine (HCI.out _ (hE.alloc _)).mono ?_
              rintro e w2 ⟨rfl, hE2⟩
              have E2 : Ext w w2 := (hE.alloc _).trans hE2
              have eX := (ext_alloc1 wr (.cells #[.int .i64 (f : Int), .int .i64 (d : Int), .int .i64 gg, .int .i64 tl, .int .i64 th, .int .i64 sl, .int .i64 sh, .slice A' os.length c'] 56)).trans hE2
              have C0 := hid (blk_ext K0.out eX)
              have C1 := hid (blk_ext K1.out eX)
              have X2 := hid (blk_ext X0.out hE2)
              have R2 := hid (R.out.ext eX)
              clear hE2 eX a0 a1 b0 b1 b2 b3 z0 z1 rf rd d0 d1 d2 d3 d4 d5 d6 d7 X0 R K0 K1
              have a0 := blk_cell C0.out 0
              have a1 := blk_cell C0.out 1
              have b0 := blk_cell C1.out 0
              have b1 := blk_cell C1.out 1
              have b2 := blk_cell C1.out 2
              have b3 := blk_cell C1.out 3
              have x0 := blk_cell X2.out 0
              have x1 := blk_cell X2.out 1
              simp only [List.getElem?_toArray, List.getElem?_cons_zero, List.getElem?_cons_succ] at a0 a1 b0 b1 b2 b3 x0 x1
              have z0 := (Array.getElem?_eq_some_iff.1 C0.out).1
              have z1 := (Array.getElem?_eq_some_iff.1 C1.out).1
              have zx := (Array.getElem?_eq_some_iff.1 X2.out).1
              have rf := R2.out.cell (k := f) (by rw [List.length_map]; omega)
              have rd := R2.out.cell (k := d) (by rw [List.length_map]; omega)
              rw [map_getD _ _ (by omega)] at rf rd
              rw [show acc.getD f 0 = F0 from hF0x] at rf
              rw [show acc.getD d 0 = D0 from hD0x] at rd
              by_cases hg : gg ≤ g
              case neg =>
                have hgd : decide (gg ≤ g) = false := decide_eq_false hg
                rw [HSK.out (.inr (by omega))] at HIP
                rw [hgd]
                have R4 := hid (show RowAt w2 G k ((ipTo (selB hi) g l pl ph ps but (ipRows (selB hi) g l pl ph ps but k fr start q) (i + 1)).map phi) by rw [HIP.out]; exact R2.out)
                go_wp2
                go_roundw
                case rel => exact ⟨E2, C0, C1, i + 1, by omega, by go_num, R4⟩
                case measure => (simp [intOf] <;> omega)
              have hgd : decide (gg ≤ g) = true := decide_eq_true hg
              rw [hgd]
              by_cases hF9 : F0 = 2881
              · rw [HNV.out hDb hF9] at HIP
                have hph : phi F0 = 1073741824 := by rw [hF9]; rfl
                rw [hph] at rf
                have R4 := hid (show RowAt w2 G k ((ipTo (selB hi) g l pl ph ps but (ipRows (selB hi) g l pl ph ps but k fr start q) (i + 1)).map phi) by rw [HIP.out]; exact R2.out)
                go_wp2
                go_roundw
                case rel => exact ⟨E2, C0, C1, i + 1, by omega, by go_num, R4⟩
                case measure => (simp [intOf] <;> omega)
              rw [HYS.out hib hg] at HIP
              have hph : phi F0 = F0 := by unfold phi; rw [if_neg hF9]
              rw [hph] at rf
              have hF8 : F0 < 1073741824 := by omega
              have hAb := (HAB.out F0 hFb.1).2
              have HST := hid (HSI.out F0 hFb.1)
              have hstv : stepV (selB hi) l pl ph ⟨(f : Int), (d : Int), gg, tl, th, sl, sh, os⟩ F0 = phi (arrive (selB hi) l pl ph ⟨(f : Int), (d : Int), gg, tl, th, sl, sh, os⟩ F0) := rfl
              rw [hstv] at HST
              obtain ⟨AR, hAR⟩ : ∃ AR, arrive (selB hi) l pl ph ⟨(f : Int), (d : Int), gg, tl, th, sl, sh, os⟩ F0 = AR := ⟨_, rfl⟩
              rw [hAR] at HST HIP hAb
              clear hstv hAR HSI HAB HSK HNV HYS HCI
              go_wp2_with fail
              refine wp_region_held_drew (S := fun w' => (∀ b o, b < w2.heap.size → ¬ b = G → w'.cell? ⟨b, o, none⟩ = w2.cell? ⟨b, o, none⟩) ∧ w2.heap.size ≤ w'.heap.size) (by kernel_rfl) ?hS0 (fun hHeld => ?_)
              case hS0 => exact ⟨fun _ _ _ _ => rfl, Nat.le_refl _⟩
              refine wpAnyH_take (i := 0) (oi := _) (v := ?v0a) rfl (by kernel_rfl) (by kernel_rfl) (by kernel_rfl) (fun _ _ _ h => h) (Or.inl ⟨by rfl, ?y0a⟩) (by assumption) ?r0a
              case y0a => (intro w' hSw; (try dsimp only at hSw); go_simp; (try with_reducible rfl))
              try simp only [Act.put, List.getElem_toArray, List.getElem_cons_zero, List.getElem_cons_succ, List.setIfInBounds_toArray, List.set_cons_zero, List.set_cons_succ]
              refine wpAnyH_take (i := 1) (oi := _) (v := ?v1a) rfl (by kernel_rfl) (by kernel_rfl) (by kernel_rfl) (fun _ _ _ h => h) (Or.inl ⟨by rfl, ?y1a⟩) (by assumption) ?r1a
              case y1a => (intro w' hSw; (try dsimp only at hSw); go_simp; (try with_reducible rfl))
              try simp only [Act.put, List.getElem_toArray, List.getElem_cons_zero, List.getElem_cons_succ, List.setIfInBounds_toArray, List.set_cons_zero, List.set_cons_succ]
              refine wpAnyH_take (i := 2) (oi := _) (v := ?v2a) rfl (by kernel_rfl) (by kernel_rfl) (by kernel_rfl) (fun _ _ _ h => h) (Or.inl ⟨by rfl, ?y2a⟩) (by assumption) ?r2a
              case y2a => (intro w' hSw; (try dsimp only at hSw); go_simp; (try with_reducible rfl))
              try simp only [Act.put, List.getElem_toArray, List.getElem_cons_zero, List.getElem_cons_succ, List.setIfInBounds_toArray, List.set_cons_zero, List.set_cons_succ]
              refine wpAnyH_take (i := 3) (oi := _) (v := ?v3a) rfl (by kernel_rfl) (by kernel_rfl) (by kernel_rfl) (fun _ _ _ h => h) (Or.inl ⟨by rfl, ?y3a⟩) (by assumption) ?r3a
              case y3a => (intro w' hSw; (try dsimp only at hSw); go_simp; (try with_reducible rfl))
              try simp only [Act.put, List.getElem_toArray, List.getElem_cons_zero, List.getElem_cons_succ, List.setIfInBounds_toArray, List.set_cons_zero, List.set_cons_succ]
              refine wpAnyH_take (i := 4) (oi := _) (v := ?v4a) rfl (by kernel_rfl) (by kernel_rfl) (by kernel_rfl) (fun _ _ _ h => h) (Or.inl ⟨by rfl, ?y4a⟩) (by assumption) ?r4a
              case y4a => (intro w' hSw; (try dsimp only at hSw); go_simp; (try with_reducible rfl))
              try simp only [Act.put, List.getElem_toArray, List.getElem_cons_zero, List.getElem_cons_succ, List.setIfInBounds_toArray, List.set_cons_zero, List.set_cons_succ]
              refine wpAnyH_take (i := 5) (oi := _) (v := ?v5a) rfl (by kernel_rfl) (by kernel_rfl) (by kernel_rfl) (fun _ _ _ h => h) (Or.inl ⟨by rfl, ?y5a⟩) (by assumption) ?r5a
              case y5a => (intro w' hSw; (try dsimp only at hSw); go_simp; (try with_reducible rfl))
              try simp only [Act.put, List.getElem_toArray, List.getElem_cons_zero, List.getElem_cons_succ, List.setIfInBounds_toArray, List.set_cons_zero, List.set_cons_succ]
              refine wpAnyH_take (i := 6) (oi := _) (v := ?v6a) rfl (by kernel_rfl) (by kernel_rfl) (by kernel_rfl) (fun _ _ _ h => h) (Or.inl ⟨by rfl, ?y6a⟩) (by assumption) ?r6a
              case y6a => (intro w' hSw; (try dsimp only at hSw); go_simp; (try with_reducible rfl))
              try simp only [Act.put, List.getElem_toArray, List.getElem_cons_zero, List.getElem_cons_succ, List.setIfInBounds_toArray, List.set_cons_zero, List.set_cons_succ]
              refine wpAnyH_take (i := 8) (oi := _) (v := ?v8a) rfl (by kernel_rfl) (by kernel_rfl) (by kernel_rfl) (fun _ _ _ h => h) (Or.inl ⟨by rfl, ?y8a⟩) (by assumption) ?r8a
              case y8a => (intro w' hSw; (try dsimp only at hSw); go_simp; (try with_reducible rfl))
              try simp only [Act.put, List.getElem_toArray, List.getElem_cons_zero, List.getElem_cons_succ, List.setIfInBounds_toArray, List.set_cons_zero, List.set_cons_succ]
              refine wpAnyH_take (i := 9) (oi := _) (v := ?v9a) rfl (by kernel_rfl) (by kernel_rfl) (by kernel_rfl) (fun _ _ _ h => h) (Or.inl ⟨by rfl, ?y9a⟩) (by assumption) ?r9a
              case y9a => (intro w' hSw; (try dsimp only at hSw); go_simp; (try with_reducible rfl))
              try simp only [Act.put, List.getElem_toArray, List.getElem_cons_zero, List.getElem_cons_succ, List.setIfInBounds_toArray, List.set_cons_zero, List.set_cons_succ]
              refine wpAnyH_take (i := 10) (oi := _) (v := ?v10a) rfl (by kernel_rfl) (by kernel_rfl) (by kernel_rfl) (fun _ _ _ h => h) (Or.inl ⟨by rfl, ?y10a⟩) (by assumption) ?r10a
              case y10a => (intro w' hSw; (try dsimp only at hSw); go_simp; (try with_reducible rfl))
              try simp only [Act.put, List.getElem_toArray, List.getElem_cons_zero, List.getElem_cons_succ, List.setIfInBounds_toArray, List.set_cons_zero, List.set_cons_succ]
              refine wpAnyH_take (i := 11) (oi := _) (v := ?v11a) rfl (by kernel_rfl) (by kernel_rfl) (by kernel_rfl) (fun _ _ _ h => h) (Or.inl ⟨by rfl, ?y11a⟩) (by assumption) ?r11a
              case y11a => (intro w' hSw; (try dsimp only at hSw); go_simp; (try with_reducible rfl))
              try simp only [Act.put, List.getElem_toArray, List.getElem_cons_zero, List.getElem_cons_succ, List.setIfInBounds_toArray, List.set_cons_zero, List.set_cons_succ]
              refine wpAnyH_take (i := 12) (oi := _) (v := ?v12a) rfl (by kernel_rfl) (by kernel_rfl) (by kernel_rfl) (fun _ _ _ h => h) (Or.inl ⟨by rfl, ?y12a⟩) (by assumption) ?r12a
              case y12a => (intro w' hSw; (try dsimp only at hSw); go_simp; (try with_reducible rfl))
              try simp only [Act.put, List.getElem_toArray, List.getElem_cons_zero, List.getElem_cons_succ, List.setIfInBounds_toArray, List.set_cons_zero, List.set_cons_succ]
              refine wpAnyH_take (i := 13) (oi := _) (v := ?v13a) rfl (by kernel_rfl) (by kernel_rfl) (by kernel_rfl) (fun _ _ _ h => h) (Or.inl ⟨by rfl, ?y13a⟩) (by assumption) ?r13a
              case y13a => (intro w' hSw; (try dsimp only at hSw); go_simp; (try with_reducible rfl))
              try simp only [Act.put, List.getElem_toArray, List.getElem_cons_zero, List.getElem_cons_succ, List.setIfInBounds_toArray, List.set_cons_zero, List.set_cons_succ]
              refine wpAnyH_take (i := 14) (oi := _) (v := ?v14a) rfl (by kernel_rfl) (by kernel_rfl) (by kernel_rfl) (fun _ _ _ h => h) (Or.inl ⟨by rfl, ?y14a⟩) (by assumption) ?r14a
              case y14a => (intro w' hSw; (try dsimp only at hSw); go_simp; (try with_reducible rfl))
              try simp only [Act.put, List.getElem_toArray, List.getElem_cons_zero, List.getElem_cons_succ, List.setIfInBounds_toArray, List.set_cons_zero, List.set_cons_succ]
              refine wpAnyH_take (i := 16) (oi := _) (v := ?v16a) rfl (by kernel_rfl) (by kernel_rfl) (by kernel_rfl) (fun _ _ _ h => h) (Or.inl ⟨by rfl, ?y16a⟩) (by assumption) ?r16a
              case y16a => (intro w' hSw; (try dsimp only at hSw); go_simp; (try with_reducible rfl))
              try simp only [Act.put, List.getElem_toArray, List.getElem_cons_zero, List.getElem_cons_succ, List.setIfInBounds_toArray, List.set_cons_zero, List.set_cons_succ]
              refine wpAnyH_ready (rs := [7, 15]) (by kernel_rfl) (by simp) ?_
              refine AllReadyH.cons (o := _) rfl (fun K hK => ?_) (AllReadyH.cons (o := _) rfl (fun K hK => ?_) AllReadyH.nil)
              · clear hHeld
                go_simp
                refine hK.out _ _ ⟨fun _ _ _ _ => rfl, Nat.le_refl _⟩ (fun hHeld => ?_)
                clear hK K
                try simp only [Act.put, List.getElem_toArray, List.getElem_cons_zero, List.getElem_cons_succ, List.setIfInBounds_toArray, List.set_cons_zero, List.set_cons_succ]
                clear hHeld
                refine wpAnyH_ready (rs := [15]) (by kernel_rfl) (by simp) ?_
                refine AllReadyH.cons (o := _) rfl (fun K hK => ?_) AllReadyH.nil
                go_simp
                refine hK.out _ _ ⟨fun _ _ _ _ => rfl, Nat.le_refl _⟩ (fun hHeld => ?_)
                clear hK K
                try simp only [Act.put, List.getElem_toArray, List.getElem_cons_zero, List.getElem_cons_succ, List.setIfInBounds_toArray, List.set_cons_zero, List.set_cons_succ]
                refine wpAnyH_ready (rs := [17]) (by kernel_rfl) (by simp) ?_
                refine AllReadyH.cons (o := _) rfl (fun K hK => ?_) AllReadyH.nil
                go_simp
                refine (HST.out _ (E2.drew)).mono ?_
                rintro e w3 ⟨rfl, hE3⟩
                dsimp only
                have hx3 : Ext w2 w3 := (Ext.drew (Ext.refl w2)).trans hE3
                clear hHeld hE3
                refine hK.out _ _ ⟨kx (w1 := w2) (W := w2) (fun _ _ _ _ => rfl) (Nat.le_refl _) hx3, (hx3).size⟩ (fun hHeld => ?_)
                clear hK K
                try simp only [Act.put, List.getElem_toArray, List.getElem_cons_zero, List.getElem_cons_succ, List.setIfInBounds_toArray, List.set_cons_zero, List.set_cons_succ]
                refine wpAnyH_take (i := 18) (oi := _) (v := ?v18b) rfl (by kernel_rfl) (by kernel_rfl) (by kernel_rfl) (fun _ _ _ h => h) (Or.inl ⟨by rfl, ?y18b⟩) (by assumption) ?r18b
                case y18b => (intro w' hSw; (try dsimp only at hSw); go_simp; (try with_reducible rfl))
                try simp only [Act.put, List.getElem_toArray, List.getElem_cons_zero, List.getElem_cons_succ, List.setIfInBounds_toArray, List.set_cons_zero, List.set_cons_succ]
                refine wpAnyH_take (i := 19) (oi := _) (v := ?v19b) rfl (by kernel_rfl) (by kernel_rfl) (by kernel_rfl) (fun _ _ _ h => h) (Or.inl ⟨by rfl, ?y19b⟩) (by assumption) ?r19b
                case y19b => (intro w' hSw; (try dsimp only at hSw); go_simp; (try with_reducible rfl))
                try simp only [Act.put, List.getElem_toArray, List.getElem_cons_zero, List.getElem_cons_succ, List.setIfInBounds_toArray, List.set_cons_zero, List.set_cons_succ]
                have R3 := R2.out.ext hx3
                have rc3 := R3.cell (k := d) (by rw [List.length_map]; omega)
                have rf3 := R3.fro d
                have rl3 := R3.lt
                clear hHeld
                refine wpAnyH_ready (rs := [20]) (by kernel_rfl) (by simp) ?_
                refine AllReadyH.cons (o := _) rfl (fun K hK => ?_) AllReadyH.nil
                go_simp
                refine hK.out _ _ ⟨kx_set (kx (w1 := w2) (W := w2) (fun _ _ _ _ => rfl) (Nat.le_refl _) hx3) _ _, by simpa using hx3.size⟩ (fun hHeld => ?_)
                clear hHeld
                clear hK K
                try simp only [Act.put, List.getElem_toArray, List.getElem_cons_zero, List.getElem_cons_succ, List.setIfInBounds_toArray, List.set_cons_zero, List.set_cons_succ]
                refine wpAnyH_done (by kernel_rfl) ?_ _
                rw [min_if, ← phi_min hDb hAb]
                have R4 := hid (show RowAt (w3.setCell ⟨G, d, none⟩ (.int .i64 (phi (min D0 AR)))) G k ((ipTo (selB hi) g l pl ph ps but (ipRows (selB hi) g l pl ph ps but k fr start q) (i + 1)).map phi) by rw [HIP.out, ← map_set]; exact R3.set d _)
                have B0' := hid ((Below.heap_setCell w3 ⟨G, d, none⟩ (.int .i64 (phi (min D0 AR))) w.heap.size (by dsimp only; omega)).trans (blk_ext C0.out hx3))
                have B1' := hid ((Below.heap_setCell w3 ⟨G, d, none⟩ (.int .i64 (phi (min D0 AR))) (w.heap.size + 1) (by dsimp only; omega)).trans (blk_ext C1.out hx3))
                have E3 : Ext w (w3.setCell ⟨G, d, none⟩ (.int .i64 (phi (min D0 AR)))) := (E2.trans hx3).set (by dsimp only; omega) _
                clear rc3 rf3 R3
                go_wp2
                go_roundw
                case rel => exact ⟨E3, B0', B1', i + 1, by omega, by go_num, R4⟩
                case measure => (simp [intOf] <;> omega)
              · clear hHeld
                go_simp
                refine hK.out _ _ ⟨fun _ _ _ _ => rfl, Nat.le_refl _⟩ (fun hHeld => ?_)
                clear hK K
                try simp only [Act.put, List.getElem_toArray, List.getElem_cons_zero, List.getElem_cons_succ, List.setIfInBounds_toArray, List.set_cons_zero, List.set_cons_succ]
                clear hHeld
                refine wpAnyH_ready (rs := [7, 17]) (by kernel_rfl) (by simp) ?_
                refine AllReadyH.cons (o := _) rfl (fun K hK => ?_) (AllReadyH.cons (o := _) rfl (fun K hK => ?_) AllReadyH.nil)
                · go_simp
                  refine hK.out _ _ ⟨fun _ _ _ _ => rfl, Nat.le_refl _⟩ (fun hHeld => ?_)
                  clear hK K
                  try simp only [Act.put, List.getElem_toArray, List.getElem_cons_zero, List.getElem_cons_succ, List.setIfInBounds_toArray, List.set_cons_zero, List.set_cons_succ]
                  refine wpAnyH_ready (rs := [17]) (by kernel_rfl) (by simp) ?_
                  refine AllReadyH.cons (o := _) rfl (fun K hK => ?_) AllReadyH.nil
                  go_simp
                  refine (HST.out _ (E2.drew)).mono ?_
                  rintro e w3 ⟨rfl, hE3⟩
                  dsimp only
                  have hx3 : Ext w2 w3 := (Ext.drew (Ext.refl w2)).trans hE3
                  clear hHeld hE3
                  refine hK.out _ _ ⟨kx (w1 := w2) (W := w2) (fun _ _ _ _ => rfl) (Nat.le_refl _) hx3, (hx3).size⟩ (fun hHeld => ?_)
                  clear hK K
                  try simp only [Act.put, List.getElem_toArray, List.getElem_cons_zero, List.getElem_cons_succ, List.setIfInBounds_toArray, List.set_cons_zero, List.set_cons_succ]
                  refine wpAnyH_take (i := 18) (oi := _) (v := ?v18c) rfl (by kernel_rfl) (by kernel_rfl) (by kernel_rfl) (fun _ _ _ h => h) (Or.inl ⟨by rfl, ?y18c⟩) (by assumption) ?r18c
                  case y18c => (intro w' hSw; (try dsimp only at hSw); go_simp; (try with_reducible rfl))
                  try simp only [Act.put, List.getElem_toArray, List.getElem_cons_zero, List.getElem_cons_succ, List.setIfInBounds_toArray, List.set_cons_zero, List.set_cons_succ]
                  refine wpAnyH_take (i := 19) (oi := _) (v := ?v19c) rfl (by kernel_rfl) (by kernel_rfl) (by kernel_rfl) (fun _ _ _ h => h) (Or.inl ⟨by rfl, ?y19c⟩) (by assumption) ?r19c
                  case y19c => (intro w' hSw; (try dsimp only at hSw); go_simp; (try with_reducible rfl))
                  try simp only [Act.put, List.getElem_toArray, List.getElem_cons_zero, List.getElem_cons_succ, List.setIfInBounds_toArray, List.set_cons_zero, List.set_cons_succ]
                  have R3 := R2.out.ext hx3
                  have rc3 := R3.cell (k := d) (by rw [List.length_map]; omega)
                  have rf3 := R3.fro d
                  have rl3 := R3.lt
                  clear hHeld
                  refine wpAnyH_ready (rs := [20]) (by kernel_rfl) (by simp) ?_
                  refine AllReadyH.cons (o := _) rfl (fun K hK => ?_) AllReadyH.nil
                  go_simp
                  refine hK.out _ _ ⟨kx_set (kx (w1 := w2) (W := w2) (fun _ _ _ _ => rfl) (Nat.le_refl _) hx3) _ _, by simpa using hx3.size⟩ (fun hHeld => ?_)
                  clear hHeld
                  clear hK K
                  try simp only [Act.put, List.getElem_toArray, List.getElem_cons_zero, List.getElem_cons_succ, List.setIfInBounds_toArray, List.set_cons_zero, List.set_cons_succ]
                  refine wpAnyH_done (by kernel_rfl) ?_ _
                  rw [min_if, ← phi_min hDb hAb]
                  have R4 := hid (show RowAt (w3.setCell ⟨G, d, none⟩ (.int .i64 (phi (min D0 AR)))) G k ((ipTo (selB hi) g l pl ph ps but (ipRows (selB hi) g l pl ph ps but k fr start q) (i + 1)).map phi) by rw [HIP.out, ← map_set]; exact R3.set d _)
                  have B0' := hid ((Below.heap_setCell w3 ⟨G, d, none⟩ (.int .i64 (phi (min D0 AR))) w.heap.size (by dsimp only; omega)).trans (blk_ext C0.out hx3))
                  have B1' := hid ((Below.heap_setCell w3 ⟨G, d, none⟩ (.int .i64 (phi (min D0 AR))) (w.heap.size + 1) (by dsimp only; omega)).trans (blk_ext C1.out hx3))
                  have E3 : Ext w (w3.setCell ⟨G, d, none⟩ (.int .i64 (phi (min D0 AR)))) := (E2.trans hx3).set (by dsimp only; omega) _
                  clear rc3 rf3 R3
                  go_wp2
                  go_roundw
                  case rel => exact ⟨E3, B0', B1', i + 1, by omega, by go_num, R4⟩
                  case measure => (simp [intOf] <;> omega)
                · go_simp
                  have hHeld := True.intro
                  refine (HST.out _ (E2.drew)).mono ?_
                  rintro e w3 ⟨rfl, hE3⟩
                  dsimp only
                  have hx3 : Ext w2 w3 := (Ext.drew (Ext.refl w2)).trans hE3
                  clear hHeld hE3
                  refine hK.out _ _ ⟨kx (w1 := w2) (W := w2) (fun _ _ _ _ => rfl) (Nat.le_refl _) hx3, (hx3).size⟩ (fun hHeld => ?_)
                  clear hK K
                  try simp only [Act.put, List.getElem_toArray, List.getElem_cons_zero, List.getElem_cons_succ, List.setIfInBounds_toArray, List.set_cons_zero, List.set_cons_succ]
                  have rd3 := (R2.out.ext hx3).cell (k := d) (by rw [List.length_map]; omega)
                  rw [map_getD _ _ (by omega), hD0x] at rd3
                  have gl3 : G < w3.heap.size := (R2.out.ext hx3).lt
                  clear hHeld
                  refine wpAnyH_ready (rs := [7]) (by kernel_rfl) (by simp) ?_
                  refine AllReadyH.cons (o := _) rfl (fun K hK => ?_) AllReadyH.nil
                  go_simp
                  refine hK.out _ _ ⟨kx (w1 := w2) (W := w2) (fun _ _ _ _ => rfl) (Nat.le_refl _) hx3, (hx3).size⟩ (fun hHeld => ?_)
                  clear hK K
                  try simp only [Act.put, List.getElem_toArray, List.getElem_cons_zero, List.getElem_cons_succ, List.setIfInBounds_toArray, List.set_cons_zero, List.set_cons_succ]
                  clear rd3
                  refine wpAnyH_take (i := 18) (oi := _) (v := ?v18d) rfl (by kernel_rfl) (by kernel_rfl) (by kernel_rfl) (fun _ _ _ h => h) (Or.inl ⟨by rfl, ?y18d⟩) (by assumption) ?r18d
                  case y18d => (intro w' hSw; (try dsimp only at hSw); go_simp; (try with_reducible rfl))
                  try simp only [Act.put, List.getElem_toArray, List.getElem_cons_zero, List.getElem_cons_succ, List.setIfInBounds_toArray, List.set_cons_zero, List.set_cons_succ]
                  refine wpAnyH_take (i := 19) (oi := _) (v := ?v19d) rfl (by kernel_rfl) (by kernel_rfl) (by kernel_rfl) (fun _ _ _ h => h) (Or.inl ⟨by rfl, ?y19d⟩) (by assumption) ?r19d
                  case y19d => (intro w' hSw; (try dsimp only at hSw); go_simp; (try with_reducible rfl))
                  try simp only [Act.put, List.getElem_toArray, List.getElem_cons_zero, List.getElem_cons_succ, List.setIfInBounds_toArray, List.set_cons_zero, List.set_cons_succ]
                  have R3 := R2.out.ext hx3
                  have rc3 := R3.cell (k := d) (by rw [List.length_map]; omega)
                  have rf3 := R3.fro d
                  have rl3 := R3.lt
                  clear hHeld
                  refine wpAnyH_ready (rs := [20]) (by kernel_rfl) (by simp) ?_
                  refine AllReadyH.cons (o := _) rfl (fun K hK => ?_) AllReadyH.nil
                  go_simp
                  refine hK.out _ _ ⟨kx_set (kx (w1 := w2) (W := w2) (fun _ _ _ _ => rfl) (Nat.le_refl _) hx3) _ _, by simpa using hx3.size⟩ (fun hHeld => ?_)
                  clear hHeld
                  clear hK K
                  try simp only [Act.put, List.getElem_toArray, List.getElem_cons_zero, List.getElem_cons_succ, List.setIfInBounds_toArray, List.set_cons_zero, List.set_cons_succ]
                  refine wpAnyH_done (by kernel_rfl) ?_ _
                  rw [min_if, ← phi_min hDb hAb]
                  have R4 := hid (show RowAt (w3.setCell ⟨G, d, none⟩ (.int .i64 (phi (min D0 AR)))) G k ((ipTo (selB hi) g l pl ph ps but (ipRows (selB hi) g l pl ph ps but k fr start q) (i + 1)).map phi) by rw [HIP.out, ← map_set]; exact R3.set d _)
                  have B0' := hid ((Below.heap_setCell w3 ⟨G, d, none⟩ (.int .i64 (phi (min D0 AR))) w.heap.size (by dsimp only; omega)).trans (blk_ext C0.out hx3))
                  have B1' := hid ((Below.heap_setCell w3 ⟨G, d, none⟩ (.int .i64 (phi (min D0 AR))) (w.heap.size + 1) (by dsimp only; omega)).trans (blk_ext C1.out hx3))
                  have E3 : Ext w (w3.setCell ⟨G, d, none⟩ (.int .i64 (phi (min D0 AR)))) := (E2.trans hx3).set (by dsimp only; omega) _
                  clear rc3 rf3 R3
                  go_wp2
                  go_roundw
                  case rel => exact ⟨E3, B0', B1', i + 1, by omega, by go_num, R4⟩
                  case measure => (simp [intOf] <;> omega)
          · obtain rfl : i = n := by omega
            have R4 := hid (show RowAt wr G k ((ipRows (selB hi) g l pl ph ps but k fr start (q + 1)).map phi) by rw [HQ.out, HN.out]; exact R.out)
            go_wp2
            go_roundw
            case rel => exact ⟨hE, K0, K1, q + 1, by omega, by go_num, R4⟩
            case measure => (simp [intOf] <;> omega)
      · obtain rfl : q = k := by omega
        have hlm : ((ipRows (selB hi) g l pl ph ps but q fr start q).map phi).length = q := by rw [List.length_map]; exact hlen q
        go_wp2
        go_ret
        exact NewRow.mk (by rw [hlm]; rfl) R.out (by omega) hE
end Go.Proofs.Ytndoghcglbpllaa
/- shown. -/
set_option linter.unusedSimpArgs false
set_option linter.unusedVariables false
namespace Go.Proofs.Ytndoghcglbpllaa
open Go.RowKit
/-- Arrivals as they are shown. -/
def shw (x : Int) : Int := if 1073741824 ≤ x then -1 else x
theorem shw_phi (x : Int) (h : x ≤ 2881) : shw (phi x) = orN x := by
  unfold shw phi orN
  split <;> split <;> omega
theorem shw_step (xs : List Int) (k : Nat) (h : k < xs.length) (hge : 1073741824 ≤ xs.getD k 0) : ((xs.take k).map shw ++ xs.drop k).set k (-1) = (xs.take (k + 1)).map shw ++ xs.drop (k + 1) := by
  have hx : xs.getD k 0 = xs[k] := by simp [List.getD, List.getElem?_eq_getElem h]
  rw [List.take_succ_eq_append_getElem h, List.map_append, List.drop_eq_getElem_cons h, List.set_append_right _ _ (by simp; omega)]
  have hl : ((xs.take k).map shw).length = k := by simp; omega
  rw [hl, Nat.sub_self, List.set_cons_zero, List.append_assoc]
  rw [hx] at hge
  simp [shw, hge]
theorem shw_same (xs : List Int) (k : Nat) (h : k < xs.length) (hlt : ¬ 1073741824 ≤ xs.getD k 0) : (xs.take k).map shw ++ xs.drop k = (xs.take (k + 1)).map shw ++ xs.drop (k + 1) := by
  have hx : xs.getD k 0 = xs[k] := by simp [List.getD, List.getElem?_eq_getElem h]
  rw [List.take_succ_eq_append_getElem h, List.map_append, List.drop_eq_getElem_cons h, List.append_assoc]
  rw [hx] at hlt
  simp [shw, hlt]
theorem shw_get (xs : List Int) (k : Nat) (h : k < xs.length) : ((xs.take k).map shw ++ xs.drop k).getD k 0 = xs.getD k 0 := by
  have hl : ((xs.take k).map shw).length = k := by simp; omega
  rw [List.getD_eq_getElem?_getD, List.getElem?_append_right (by omega), hl, Nat.sub_self, List.getElem?_drop, List.getD_eq_getElem?_getD]
  rfl
theorem shw_len (xs : List Int) (k : Nat) (h : k ≤ xs.length) : ((xs.take k).map shw ++ xs.drop k).length = xs.length := by simp; omega
end Go.Proofs.Ytndoghcglbpllaa
