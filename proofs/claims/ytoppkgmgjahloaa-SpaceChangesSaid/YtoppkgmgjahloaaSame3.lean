/- The reference of identifiers: Same: a contract. -/
import Derived.Test.YtoppkgmgjahloaaAgg
import Derived.Deep.QuietTactic
import Derived.BigQuiet
namespace Go.Proofs.Ytoppkgmgjahloaa
open Go.RowKit

set_option maxHeartbeats 400000 in
theorem refSame3_any (A B : Option Addr) (n m c d : Nat) (l r : List Int) (w : World) (C : Nat) (ha : Nums .u64 w C A n l) (hb : Nums .u64 w C B m r) (hn : n ≤ 9223372036854775807) (hm : m ≤ 9223372036854775807) :
    Calls Try.prog 13 #[.slice A n c, .slice B m d] w fun e w' => e = .returned (.bool (decide (l = r))) ∧ Below w.heap.size w w' := by
  by_cases hnm : n = m
  · subst hnm
    have e1 : ((n : Int) != (n : Int)) = false := by simp
    go_enter Try.func13, Try.ntmps13
    go_wp2_with fail
    go_loopw [13] (fun s13 wr => ∃ k : Nat, s13 = .int .i64 (k : Int) ∧ k ≤ n ∧ Hid (l.take k = r.take k) ∧ ∃ q, wr = w.drewN q) (fun s13 _ => n - (intOf s13).toNat)
    case atStart => exact ⟨0, rfl, by omega, hide rfl, 0, rfl⟩
    case round =>
      obtain ⟨k, rfl, hk, Hk, q, rfl⟩ := hrel
      by_cases hlt : k < n
      · obtain ⟨ba, oa, hla, rfl, _, hca⟩ := ha.at_ hlt
        obtain ⟨bb, ob, hlb, rfl, _, hcb⟩ := hb.at_ hlt
        by_cases he : l[k] = r[k]
        · have hcmp : (l[k] == r[k]) = true := by simpa using he
          have hcmp' : (l[k] != r[k]) = false := by simpa using he
          have Hk2 : Hid (l.take (k + 1) = r.take (k + 1)) := hide (by
            rw [List.take_succ_eq_append_getElem hla, List.take_succ_eq_append_getElem hlb, Hk.out, he])
          clear he
          go_wp2_with fail
          go_quiet (fail)
          go_wp2
          go_roundw
          case rel => exact ⟨k + 1, by go_num, by omega, Hk2, _, rfl⟩
          case measure => simp [intOf]; omega
        · have hcmp : (l[k] == r[k]) = false := by simpa using he
          have hcmp' : (l[k] != r[k]) = true := by simpa using he
          have hne := hide (nums_ne hla hlb he)
          clear he
          go_wp2_with fail
          go_quiet (fail)
          go_wp2
          go_ret
          exact ⟨ret_bool (decide_eq_false hne.out).symm, ⟨rfl, rfl, rfl, Nat.le_refl _, fun _ _ => rfl⟩⟩
      · obtain rfl : k = n := by omega
        go_wp2
        go_ret
        have hlr : l = r := by
          have := Hk.out
          rwa [List.take_of_length_le (by rw [ha.len]; exact Nat.le_refl _), List.take_of_length_le (by rw [hb.len]; exact Nat.le_refl _)] at this
        exact ⟨ret_bool (decide_eq_true hlr).symm, ⟨rfl, rfl, rfl, Nat.le_refl _, fun _ _ => rfl⟩⟩
  · have e1 : ((n : Int) != (m : Int)) = true := by simp; omega
    have e2 : ((n : Int) == (m : Int)) = false := by simp; omega
    have hlr : ¬ l = r := fun e => hnm (by rw [← ha.len, ← hb.len, e])
    go_enter Try.func13, Try.ntmps13
    go_wp2
    go_ret
    exact ⟨ret_bool (decide_eq_false hlr).symm, Below.refl _ _⟩
end Go.Proofs.Ytoppkgmgjahloaa
