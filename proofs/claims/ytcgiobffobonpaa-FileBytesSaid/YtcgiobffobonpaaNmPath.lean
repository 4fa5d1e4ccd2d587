/- The reference of name spaces: which paths, which entries are right: contracts that leave the answer open. -/
import Derived.Test.YtcgiobffobonpaaObKinds4
import Derived.Test.YtcgiobffobonpaaObOwn
namespace Go.Proofs.Ytcgiobffobonpaa
open Go.RowKit

/-- A counter from lo to n. -/
def AtPlace (lo n : Nat) (s : Value) : Prop := ∃ k : Nat, s = .int .i64 (k : Int) ∧ lo ≤ k ∧ k ≤ n
set_option maxRecDepth 100000 in
set_option maxHeartbeats 8000000 in
theorem path_any (s : ByteArray) (W : World) (hs : s.size ≤ 9223372036854775807) : Calls Try.prog 64 #[.string s] W (BoolSame W) := by
  have hs' : (s.size : Int) ≤ 9223372036854775807 := by omega
  by_cases h2 : s.size < 2
  · have h2' : (s.size : Int) < 2 := by omega
    go_enter Try.func64, Try.ntmps64
    go_wp2_with fail
    go_ret
    exact ⟨false, rfl, rfl⟩
  · have h2' : ¬ (s.size : Int) < 2 := by omega
    by_cases h3 : 128 < s.size
    · have h3' : (128 : Int) < (s.size : Int) := by omega
      go_enter Try.func64, Try.ntmps64
      go_wp2_with fail
      go_ret
      exact ⟨false, rfl, rfl⟩
    · have h3' : ¬ (128 : Int) < (s.size : Int) := by omega
      have hp0 : 0 < s.size := by omega
      have hp1 : (0 : Int) < (s.size : Int) := by omega
      have hl1 : s.size - 1 < s.size := by omega
      by_cases f47 : (s[0].toNat : Int) = 47
      case neg =>
        have f47' : ((s[0].toNat : Int) == 47) = false := by simpa using f47
        have f47'' : ((s[0].toNat : Int) != 47) = true := by simpa using f47
        go_enter Try.func64, Try.ntmps64
        go_wp2_with fail
        go_ret
        exact ⟨_, rfl, rfl⟩
      by_cases l47 : (s[s.size - 1].toNat : Int) = 47
      case pos =>
        have l47' : ((s[s.size - 1].toNat : Int) == 47) = true := by simpa using l47
        go_enter Try.func64, Try.ntmps64
        go_wp2_with fail
        go_ret
        exact ⟨_, rfl, rfl⟩
      have l47' : ((s[s.size - 1].toNat : Int) == 47) = false := by simpa using l47
      go_enter Try.func64, Try.ntmps64
      go_wp2_with fail
      go_loop [3] (fun s3 => AtPlace 1 s.size s3) (fun s3 => s.size - (intOf s3).toNat)
      case atStart => exact ⟨1, rfl, by omega, by omega⟩
      case round =>
        obtain ⟨k, rfl, hk1, hk⟩ := hrel
        by_cases hlt : k < s.size
        · have hlt' : (k : Int) < (s.size : Int) := by omega
          have hk1' : (1 : Int) ≤ (k : Int) := by omega
          have hc := u8_lt s[k]
          have hk1m : k - 1 < s.size := by omega
          have hcp := u8_lt s[k - 1]
          by_cases h47 : (s[k].toNat : Int) = 47
          · have e47 : ((s[k].toNat : Int) == 47) = true := by simpa using h47
            by_cases p47 : (s[k - 1].toNat : Int) = 47
            · have q47 : ((s[k - 1].toNat : Int) == 47) = true := by simpa using p47
              go_wp2_with fail
              go_ret
              exact ⟨_, rfl, rfl⟩
            · have q47 : ((s[k - 1].toNat : Int) == 47) = false := by simpa using p47
              go_wp2_with fail
              go_round
              case rel => exact ⟨k + 1, by go_num, by omega, by omega⟩
              case measure => simp [intOf]; omega
          have e47 : ((s[k].toNat : Int) == 47) = false := by simpa using h47
          go_wp2_with fail
          all_goals first | (go_ret; exact ⟨_, rfl, rfl⟩) | (go_round; (case rel => exact ⟨k + 1, by go_num, by omega, by omega⟩); (case measure => (simp [intOf]; omega)))
        · obtain rfl : k = s.size := by omega
          go_wp2_with fail
          go_ret
          exact ⟨true, rfl, rfl⟩
end Go.Proofs.Ytcgiobffobonpaa
