/- Layer 7, the reference: Valid: a contract. -/
import Derived.Test.YtoppkgmgjahloaaSpValid
namespace Go.Proofs.Ytoppkgmgjahloaa
open Go.RowKit

set_option maxRecDepth 100000 in
set_option maxHeartbeats 8000000 in
theorem refValid_any (l : List Sp.Ref) (A : Option Addr) (n cap : Nat) (W : World) (h : Refs W W.heap.size A n l) (hn : n ≤ cap ∧ cap ≤ 9223372036854775807) :
    Calls Try.prog 12 #[.slice A n cap] W (BoolPost (decide (Sp.Ok l)) W) := by
  have hl := h.len
  have HR := hide h
  have hn' : (n : Int) ≤ 9223372036854775807 := by omega
  clear h
  go_enter Try.func12, Try.ntmps12
  go_wp2_with fail
  go_loopw [9] (fun s9 wr => ∃ k : Nat, s9 = .int .i64 (k : Int) ∧ k ≤ n ∧ Hid (Below W.heap.size W wr) ∧ Hid (Sp.Clean (l.take k))) (fun s9 _ => n - (intOf s9).toNat)
  case atStart => exact ⟨0, rfl, by omega, hide (Below.refl _ _), hide (by rw [List.take_zero]; exact Sp.clean_nil)⟩
  case round =>
    obtain ⟨k, rfl, hk, HB, HC⟩ := hrel
    by_cases hlt : k < n
    · have hlt' : (k : Int) < (n : Int) := by omega
      have hkc : (k : Int) ≤ (cap : Int) := by omega
      obtain ⟨b, o, hkl, rfl, hb, c0, c1⟩ := (HR.out.below HB.out).at_ hlt
      obtain ⟨x, hx⟩ : ∃ x, l[k] = x := ⟨_, rfl⟩
      have HX := hide hx
      rw [hx] at c0 c1
      obtain ⟨w3, hw3, g, hg, w4, hw4, OZ, ON, hb4, hs4⟩ := start_slot wr x
      have hWg : W.heap.size ≤ g := by have := HB.out.size; omega
      have HB4 := hide (HB.out.trans (hb4.mono hWg))
      have n0 : w4.cell? ⟨g, 0, none⟩ = some (.int .u64 x.id) := ON.cell 0
      have HN := hide ON
      clear hx hb4 hs4 ON
      by_cases h0 : x.id = 0
      · have e0 : (x.id == 0) = true := by simpa using h0
        have HF : Hid (decide (Sp.Ok l) = false) := hide (decide_eq_false (fun h => Sp.not_zero hkl (by rw [HX.out]; exact h0) h.2))
        clear h0
        go_wp2_with (first | (refine wpList_val (by rfl) (exec_load_ref rfl rfl c0 c1) ?_) | (refine store_ref rfl _ _ rfl rfl (c := x) rfl OZ rfl ?_; rw [hw4]) | fail)
        go_ret
        exact ⟨ret_bool HF.out.symm, HB4.out⟩
      · have e0 : (x.id == 0) = false := by simpa using h0
        have H0 := hide h0
        clear h0
        go_wp2_with (first | (refine wpList_val (by rfl) (exec_load_ref rfl rfl c0 c1) ?_) | (refine store_ref rfl _ _ rfl rfl (c := x) rfl OZ rfl ?_; rw [hw4]) | fail)
        clear OZ hw3 hw4 hg c0 c1 n0
        have hg4 := HN.out.lt
        go_loopw [21] (fun s21 wr => ∃ j : Nat, s21 = .int .i64 (j : Int) ∧ j ≤ k ∧ Hid (Obl wr g 44 #[.int .u64 x.id, .bool x.sh]) ∧ Hid (Below W.heap.size W wr) ∧ Hid (∀ i (hi : i < l.length), i < j → Sp.ex x l[i] = false)) (fun s21 _ => k - (intOf s21).toNat)
        case atStart => exact ⟨0, rfl, by omega, HN, HB4, hide (fun i _ hi => by omega)⟩
        case round =>
          clear HN HB4 HB
          obtain ⟨j, rfl, hj, HN, HB, HA⟩ := hrel
          by_cases hjk : j < k
          · have hjk' : (j : Int) < (k : Int) := by omega
            obtain ⟨b', o', hjl, hA, hb', d0, d1⟩ := (HR.out.below HB.out).at_ (i := j) (by omega)
            simp only [Option.some.injEq, Addr.mk.injEq, and_true] at hA
            obtain ⟨rfl, rfl⟩ := hA
            obtain ⟨y, hy⟩ : ∃ y, l[j] = y := ⟨_, rfl⟩
            have HY := hide hy
            rw [hy] at d0 d1
            obtain ⟨w5, hw5, g2, hg2, w6, hw6, OZ2, ON2, hb6, hs6⟩ := start_slot wr y
            have hgg : g < g2 := by have := HN.out.lt; omega
            have ON := HN.out.below hb6 hgg
            have HB6 := hide (HB.out.trans (hb6.mono (by omega)))
            have n0 := ON.cell 0
            have n1 := ON.cell 1
            have m0 := ON2.cell 0
            have m1 := ON2.cell 1
            simp at n0 n1 m0 m1
            have HN6 := hide ON
            clear hy hb6 hs6 ON ON2 HN HB
            cases hex : Sp.ex x y with
            | true =>
              have HF : Hid (decide (Sp.Ok l) = false) := hide (decide_eq_false (fun h => Sp.not_ex hkl (j := j) hjk (by rw [HX.out, HY.out]; exact hex) h.2))
              have he : x.id = y.id ∧ (x.sh = false ∨ (x.sh = true ∧ y.sh = false)) := by
                unfold Sp.ex at hex
                cases h1 : x.sh <;> cases h2 : y.sh <;> simp_all
              clear hex
              obtain ⟨hid, hsh⟩ := he
              rw [← hid] at m0
              clear hid
              have e1 : (x.id == x.id) = true := by simp
              rcases hsh with hs | ⟨hs, ht⟩
              · rw [hs] at n1
                clear hs
                go_wp2_with (first | (refine wpList_val (by rfl) (exec_load_ref rfl rfl d0 d1) ?_) | (refine store_ref rfl _ _ rfl rfl (c := y) rfl OZ2 rfl ?_; rw [hw6]) | fail)
                go_ret
                exact ⟨ret_bool HF.out.symm, HB6.out⟩
              · rw [hs] at n1
                rw [ht] at m1
                clear hs ht
                go_wp2_with (first | (refine wpList_val (by rfl) (exec_load_ref rfl rfl d0 d1) ?_) | (refine store_ref rfl _ _ rfl rfl (c := y) rfl OZ2 rfl ?_; rw [hw6]) | fail)
                go_ret
                exact ⟨ret_bool HF.out.symm, HB6.out⟩
            | false =>
              have HA2 : Hid (∀ i (hi : i < l.length), i < j + 1 → Sp.ex x l[i] = false) := hide (fun i hi hij => by
                rcases Nat.lt_or_ge i j with h' | h'
                · exact HA.out i hi h'
                · obtain rfl : i = j := by omega
                  rw [HY.out]
                  exact hex)
              by_cases hid : x.id = y.id
              · have hsh : x.sh = true ∧ y.sh = true := by
                  unfold Sp.ex at hex
                  cases h1 : x.sh <;> cases h2 : y.sh <;> simp_all
                obtain ⟨hs, ht⟩ := hsh
                rw [← hid] at m0
                rw [hs] at n1
                rw [ht] at m1
                have e1 : (x.id == x.id) = true := by simp
                clear hid hs ht hex HA
                go_wp2_with (first | (refine wpList_val (by rfl) (exec_load_ref rfl rfl d0 d1) ?_) | (refine store_ref rfl _ _ rfl rfl (c := y) rfl OZ2 rfl ?_; rw [hw6]) | fail)
                go_roundw
                case rel => exact ⟨j + 1, by go_num, by omega, HN6, HB6, HA2⟩
                case measure => simp [intOf]; omega
              · have e1 : (x.id == y.id) = false := by simpa using hid
                clear hid hex HA
                go_wp2_with (first | (refine wpList_val (by rfl) (exec_load_ref rfl rfl d0 d1) ?_) | (refine store_ref rfl _ _ rfl rfl (c := y) rfl OZ2 rfl ?_; rw [hw6]) | fail)
                go_roundw
                case rel => exact ⟨j + 1, by go_num, by omega, HN6, HB6, HA2⟩
                case measure => simp [intOf]; omega
          · obtain rfl : j = k := by omega
            have HC2 : Hid (Sp.Clean (l.take (j + 1))) := hide (Sp.clean_step hkl HC.out (by rw [HX.out]; exact H0.out) (fun q hq => by
              obtain ⟨i, hi, rfl⟩ := List.getElem_of_mem hq
              rw [List.length_take] at hi
              rw [List.getElem_take, HX.out]
              exact HA.out i (by omega) (by omega)))
            clear HA HC
            go_wp2_with fail
            go_roundw
            case rel => exact ⟨j + 1, by go_num, by omega, HB, HC2⟩
            case measure => simp [intOf]; omega
    · obtain rfl : k = n := by omega
      have HF : Hid (decide (Sp.Ok l) = decide ((k : Int) ≤ 16)) := hide (by
        have hc := Sp.clean_all hl HC.out
        by_cases h16 : k ≤ 16
        · rw [decide_eq_true (show (k : Int) ≤ 16 by omega)]
          exact decide_eq_true ⟨by omega, hc⟩
        · rw [decide_eq_false (show ¬ (k : Int) ≤ 16 by omega)]
          exact decide_eq_false (fun h => by have := h.1; omega))
      go_wp2_with fail
      go_ret
      exact ⟨ret_bool HF.out.symm, HB.out⟩
end Go.Proofs.Ytoppkgmgjahloaa
