/- Layer 1, hashes: contracts of pack.Hash and of the document's own answer: both are FNV-1a of the bytes. -/
import Derived.Test.YtgjomhcnncdfkaaPackPut
namespace Go.Proofs.Ytgjomhcnncdfkaa
open Go.RowKit

theorem hstep_walk (h : Nat) (c : UInt8) (hh : h < 18446744073709551616) : IntKind.u64.wrap (bits .xor .u64 (h : Int) (IntKind.u64.wrap (c.toNat : Int)) * 1099511628211) = (Pk.hstep h c : Int) := by
  have := c.toNat_lt
  rw [show IntKind.u64.wrap (c.toNat : Int) = (c.toNat : Int) by rw [IntKind.wrap_u64]; omega, u64_xor_nat _ _ hh (by omega), IntKind.wrap_u64]
  unfold Pk.hstep
  omega

theorem hash_take {l : List UInt8} {k : Nat} (hk : k < l.length) : Pk.hash (l.take (k + 1)) = Pk.hstep (Pk.hash (l.take k)) l[k] := by
  rw [List.take_succ_eq_append_getElem hk, Pk.hash_snoc]

theorem hash_any (A : Option Addr) (n c : Nat) (l : List UInt8) (w : World) (B : Nat) (hr : Bytes w B A n l) (hl : n ≤ 1099511627776) :
    Calls Try.prog 13 #[.slice A n c] w fun e w' => e = .returned (.int .u64 (Pk.hash l)) ∧ w = w' := by
  go_enter Try.func13, Try.ntmps13
  go_wp2_with fail
  go_loop [3, 8] (fun s3 s8 => ∃ k : Nat, k ≤ n ∧ s8 = .int .i64 k ∧ s3 = .int .u64 ((Pk.hash (l.take k) : Nat) : Int)) (fun _ s8 => n - (intOf s8).toNat)
  case atStart => exact ⟨0, by omega, rfl, by simp [Pk.hash, Pk.hfrom, Pk.hseed]⟩
  case round =>
    obtain ⟨k, hk, rfl, rfl⟩ := hrel
    have hlt := Pk.hash_lt (l.take k)
    by_cases hkn : k < n
    · obtain ⟨b, o, hkl, hA, hb, hc⟩ := hr.at_ hkn
      subst hA
      have Hst := hide (hash_take hkl)
      have Hw := hide (hstep_walk (Pk.hash (l.take k)) l[k] hlt)
      generalize Pk.hash (l.take k) = h at *
      go_wp2
      go_round
      case rel => exact ⟨k + 1, by omega, by go_num, by rw [Hst.out, ← Hw.out]⟩
      case measure => simp [intOf]; omega
    · go_wp2
      go_ret
      refine ⟨?_, rfl⟩
      rw [List.take_of_length_le (by rw [hr.len]; omega)]
      rfl

theorem refHash_any (A : Option Addr) (n c : Nat) (l : List UInt8) (w : World) (B : Nat) (hr : Bytes w B A n l) (hl : n ≤ 1099511627776) :
    Calls Try.prog 14 #[.slice A n c] w fun e w' => e = .returned (.int .u64 (Pk.hash l)) ∧ w = w' := by
  go_enter Try.func14, Try.ntmps14
  go_wp2_with fail
  go_loop [3, 8] (fun s3 s8 => ∃ k : Nat, k ≤ n ∧ s8 = .int .i64 k ∧ s3 = .int .u64 ((Pk.hash (l.take k) : Nat) : Int)) (fun _ s8 => n - (intOf s8).toNat)
  case atStart => exact ⟨0, by omega, rfl, by simp [Pk.hash, Pk.hfrom, Pk.hseed]⟩
  case round =>
    obtain ⟨k, hk, rfl, rfl⟩ := hrel
    have hlt := Pk.hash_lt (l.take k)
    by_cases hkn : k < n
    · obtain ⟨b, o, hkl, hA, hb, hc⟩ := hr.at_ hkn
      subst hA
      have Hst := hide (hash_take hkl)
      have Hw := hide (hstep_walk (Pk.hash (l.take k)) l[k] hlt)
      generalize Pk.hash (l.take k) = h at *
      go_wp2
      go_round
      case rel => exact ⟨k + 1, by omega, by go_num, by rw [Hst.out, ← Hw.out]⟩
      case measure => simp [intOf]; omega
    · go_wp2
      go_ret
      refine ⟨?_, rfl⟩
      rw [List.take_of_length_le (by rw [hr.len]; omega)]
      rfl
end Go.Proofs.Ytgjomhcnncdfkaa
