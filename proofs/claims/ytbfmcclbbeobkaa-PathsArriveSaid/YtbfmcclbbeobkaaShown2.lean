/- shown. -/
import Derived.Test.YtbfmcclbbeobkaaShown
set_option linter.unusedSimpArgs false
set_option linter.unusedVariables false
namespace Go.Proofs.Ytbfmcclbbeobkaa
open Go.RowKit
set_option maxHeartbeats 1000000 in
theorem shown_any (b cap : Nat) (xs : List Int) (n : Nat) (hn : xs.length = n) (hp : 0 < n) (hm : n ≤ 1000) (w : World) (h : RowAt w b cap xs) :
    Calls Try.prog 55 #[.slice (some ⟨b, 0, none⟩) n cap] w (NewRow (xs.map shw) w) := by
  subst hn
  have hb := h.lt
  have hcell : ∀ j u, (ints xs)[j]? = some u → w.cell? (Addr.add ⟨b, 0, none⟩ j) = some u := by
    intro j u hj
    have hjl : j < xs.length := by
      have := (List.getElem?_eq_some_iff.1 hj).1
      simpa [ints] using this
    rw [ints_getD xs j hjl] at hj
    injection hj with hj
    subst hj
    rw [show Addr.add ⟨b, 0, none⟩ j = ⟨b, j, none⟩ from by unfold Addr.add; split <;> simp_all]
    exact h.cell hjl
  have H := hid hcell
  clear hcell h
  obtain ⟨i0, hi, hz0, hz1, hz2⟩ := info_parts info3
  have HI := hid hi
  have HZ0 := hid hz0
  have HZ1 := hid hz1
  have HZ2 := hid hz2
  clear hi hz0 hz1 hz2
  go_enter Try.func55, Try.ntmps55
  have h0 : (w.alloc (.cells #[] 3)).ownsRow w.heap.size 3 1 (.slice (some ⟨w.heap.size, 0, none⟩) 0 0) 0 [] := ⟨rfl, .inr ⟨w.heap.size, 0, #[], rfl, Nat.le_refl _, heap_alloc_new w _, Nat.le_refl _, Nat.zero_le _, rfl, rfl⟩⟩
  have H0 := hid h0
  clear h0
  go_wp2_with (at_builtin; refine wpList_append_own _ rfl _ _ 29 rfl w.heap.size 3 i0 (.int .i64 0) 1 8 Try.underlying29 HI.out HZ0.out HZ1.out HZ2.out rfl (by decide) _ _ _ rfl H0.out ⟨b, 0, none⟩ xs.length _ (ints xs) rfl (by simp [ints]) (fun j u hj => (World.cell?_alloc_lt w _ _ (by rw [addBlock]; exact hb)).trans (H.out j u hj)) (ints_one xs) (by unfold maxLen; omega) (by omega) (by simp) ?_; intro v' w2 hown hgrow _; simp only [List.nil_append, Nat.zero_add] at hown; obtain ⟨g, cap, rfl, hg, hrow⟩ := row_of_own hown hp; have hE := hid (ext_of_grown (ext_alloc1 _ _) hgrow (fun k hk => by have hk' : some w.heap.size = some k := hk; injection hk' with hk'; omega)); have hG := hid hg; have hR := hid hrow; clear hown hgrow hg hrow)
  go_loopw [4] (fun i wr => Ext w wr ∧ ∃ k : Nat, k ≤ xs.length ∧ i = .int .i64 k ∧ Hid (RowAt wr g cap ((xs.take k).map shw ++ xs.drop k))) (fun i _ => xs.length - (intOf i).toNat)
  case atStart => exact ⟨hE.out, 0, Nat.zero_le _, rfl, by simpa using hR⟩
  case round =>
    clear hR hE H H0
    obtain ⟨hE, k, hk, rfl, R⟩ := hrel
    have gl := R.out.lt
    by_cases hlt : k < xs.length
    · have hl := shw_len xs k (by omega)
      have c0 := R.out.cell (k := k) (by omega)
      have f0 := R.out.fro k
      rw [shw_get xs k (by omega)] at c0
      have HS := hid (shw_step xs k (by omega))
      have HQ := hid (shw_same xs k (by omega))
      have hk0 : (0 : Int) ≤ (k : Int) := by omega
      have hk1 : (k : Int) < (xs.length : Int) := by omega
      have hgw := hG.out
      obtain ⟨x, hx⟩ : ∃ x, xs.getD k 0 = x := ⟨_, rfl⟩
      rw [hx] at c0 HS HQ
      clear hl hx
      by_cases hx : 1073741824 ≤ x
      · have RS := hid (show RowAt (wr.setCell ⟨g, k, none⟩ (.int .i64 (-1))) g cap ((xs.take (k + 1)).map shw ++ xs.drop (k + 1)) by rw [← HS.out hx]; exact R.out.set k (-1))
        go_wp2
        go_roundw
        case rel => exact ⟨hE.set (by dsimp only; omega) _, k + 1, by omega, by go_num, RS⟩
        case measure => (simp [intOf] <;> omega)
      · have hxb : decide (1073741824 ≤ x) = false := decide_eq_false hx
        have RS := hid (show RowAt wr g cap ((xs.take (k + 1)).map shw ++ xs.drop (k + 1)) by rw [← HQ.out hx]; exact R.out)
        clear HQ HS
        go_wp2
        go_roundw
        case rel => exact ⟨hE, k + 1, by omega, by go_num, RS⟩
        case measure => (simp [intOf] <;> omega)
    · obtain rfl : k = xs.length := by omega
      have RS := hid (show RowAt wr g cap (xs.map shw) by have := R.out; rwa [List.take_of_length_le (by omega), List.drop_eq_nil_of_le (by omega), List.append_nil] at this)
      go_wp2
      go_ret
      exact NewRow.mk (by rw [List.length_map]; rfl) RS.out hG.out hE
end Go.Proofs.Ytbfmcclbbeobkaa
