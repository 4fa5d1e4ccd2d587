/- Layer 1, what is got: contracts of pack.GetInt, GetBytes, and of the document's own answers. -/
import Derived.Test.YtgjomhcnncdfkaaPackPut
import Derived.WalkMore
namespace Go.Proofs.Ytgjomhcnncdfkaa
open Go.RowKit

namespace Pk
/-- The three results of GetInt, as numbers. -/
def res : Nat ⊕ (Int × Nat) → Int → Int × Int × Int
  | .inl e, _ => (0, 0, e)
  | .inr (n, t), p => (n, p + t, 0)
def getInt (l : List UInt8) (p : Int) : Int × Int × Int := if p < 0 ∨ (l.length : Int) < p then (0, 0, 2) else res (dec 0 0 (l.drop p.toNat)) p

theorem dec_cons (k acc : Nat) (c : UInt8) (r : List UInt8) : dec k acc (c :: r) = if k = 9 ∧ 1 < c.toNat then .inl 5
    else if 128 ≤ c.toNat then dec (k + 1) (acc + c.toNat % 128 * 128 ^ k) r
    else if 0 < k ∧ c.toNat = 0 then .inl 5
    else .inr (unzig (acc + c.toNat % 128 * 128 ^ k), k + 1) := rfl
end Pk

theorem tuple3_ret {a b c a' b' c' : Int} (h : (a, b, c) = (a', b', c')) : Ending.returned (.tuple #[.int .i64 a, .int .i64 b, .int .i64 c]) = Ending.returned (.tuple #[.int .i64 a', .int .i64 b', .int .i64 c']) := by
  simp only [Prod.mk.injEq] at h
  obtain ⟨rfl, rfl, rfl⟩ := h
  rfl

theorem compl_i64 (m : Nat) (h : m < 9223372036854775808) : bits .xor .i64 (-1) (m : Int) = -(m : Int) - 1 := by
  have e : bits .xor .i64 (-1) (m : Int) = IntKind.i64.wrap ((18446744073709551615 - m : Nat) : Int) := by
    show IntKind.i64.wrap ((BitVec.ofInt 64 (-1) ^^^ BitVec.ofInt 64 (m : Int)).toNat : Int) = _
    have h1 : (BitVec.ofInt 64 (-1)).toNat = 18446744073709551615 := by decide
    have h2 : (BitVec.ofInt 64 (m : Int)).toNat = m := ofInt_u64 m (by omega)
    rw [BitVec.toNat_xor, h1, h2, nat_compl m (by omega)]
  rw [e, IntKind.wrap_i64]
  omega

theorem fromUnsigned_any (u : Nat) (w : World) (h : u < 18446744073709551616) :
    Calls Try.prog 21 #[.int .u64 (u : Int)] w fun e w' => e = .returned (.int .i64 (Pk.unzig u)) ∧ w = w' := by
  have ha : bits .and .u64 (u : Int) 1 = ((u % 2 : Nat) : Int) := by
    rw [show (1 : Int) = ((1 : Nat) : Int) from rfl, u64_and_nat _ _ h (by omega), nat_mask1]
  have hc := hide (compl_i64 (u / 2) (by omega))
  rcases (show u % 2 = 1 ∨ u % 2 = 0 by omega) with h1 | h1
  all_goals
    go_enter Try.func21, Try.ntmps21
    go_wp2
    go_ret
    refine ⟨?_, rfl⟩
    unfold Pk.unzig
    simp only [h1]
    first
      | exact congrArg (fun x => Ending.returned (.int .i64 x)) hc.out
      | rfl

theorem pow_7 (k : Nat) : 2 ^ (7 * k) = 128 ^ k := by rw [Nat.pow_mul]
theorem group_lt {acc x k : Nat} (hacc : acc < 128 ^ k) (hk : k ≤ 9) (h9 : k = 9 → x ≤ 1) : x % 128 * 128 ^ k < 18446744073709551616 ∧ acc + x % 128 * 128 ^ k < 18446744073709551616 := by
  by_cases h : k = 9
  · subst h
    have := h9 rfl
    have : x % 128 * 128 ^ 9 ≤ 1 * 128 ^ 9 := Nat.mul_le_mul_right _ (by omega)
    omega
  · have hp : 128 ^ k ≤ 128 ^ 8 := Nat.pow_le_pow_right (by omega) (by omega)
    have : x % 128 * 128 ^ k ≤ 127 * 128 ^ 8 := Nat.mul_le_mul (by omega) hp
    omega
theorem or_group {acc x k : Nat} (hacc : acc < 128 ^ k) (hk : k ≤ 9) (hx : x < 256) (h9 : k = 9 → x ≤ 1) :
    bits .or .u64 (acc : Int) (IntKind.u64.wrap (IntKind.u64.wrap (bits .and .u8 (x : Int) 127) * 2 ^ (7 * k))) = ((acc + x % 128 * 128 ^ k : Nat) : Int) := by
  have hl := group_lt hacc hk h9
  have e1 : bits .and .u8 (x : Int) 127 = ((x % 128 : Nat) : Int) := by rw [show (127 : Int) = ((127 : Nat) : Int) from rfl, u8_and_nat _ _ hx (by omega), nat_mask7]
  have e2 : IntKind.u64.wrap ((x % 128 : Nat) : Int) = ((x % 128 : Nat) : Int) := by rw [IntKind.wrap_u64]; omega
  have e3 : ((x % 128 : Nat) : Int) * 2 ^ (7 * k) = ((x % 128 * 128 ^ k : Nat) : Int) := by rw [← pow_7]; simp
  have e4 : IntKind.u64.wrap ((x % 128 * 128 ^ k : Nat) : Int) = ((x % 128 * 128 ^ k : Nat) : Int) := by rw [IntKind.wrap_u64]; omega
  rw [e1, e2, e3, e4, u64_or_nat _ _ (by omega) hl.1, Nat.or_comm, nat_join (7 * k) _ _ (by rw [pow_7]; exact Nat.mul_mod_left _ _) (by rw [pow_7]; exact hacc), Nat.add_comm]

set_option maxRecDepth 100000 in
set_option maxHeartbeats 800000 in
theorem getInt_any (A : Option Addr) (n c : Nat) (l : List UInt8) (p : Int) (w : World) (B : Nat) (hr : Bytes w B A n l) (hn : n ≤ 1048576) (h1 : -9223372036854775808 ≤ p) (h2 : p ≤ 9223372036854775807) :
    Calls Try.prog 15 #[.slice A n c, .int .i64 p] w fun e w' => e = .returned (.tuple #[.int .i64 (Pk.getInt l p).1, .int .i64 (Pk.getInt l p).2.1, .int .i64 (Pk.getInt l p).2.2]) ∧ w = w' := by
  rcases (show p < 0 ∨ (0 ≤ p ∧ (n : Int) < p) ∨ (0 ≤ p ∧ p ≤ n) by omega) with h | ⟨h, h'⟩ | ⟨h, h'⟩
  · have hd : decide (p < 0) = true := by simp; omega
    go_enter Try.func15, Try.ntmps15
    go_wp2
    go_step3
    go_wp2
    rw [Exit.noGoto_ret]
    go_ret3
    exact ⟨tuple3_ret (by unfold Pk.getInt; rw [if_pos (Or.inl h)]), rfl⟩
  · have hd : decide (p < 0) = false := by simp; omega
    have hd' : decide ((n : Int) < p) = true := by simp; omega
    go_enter Try.func15, Try.ntmps15
    go_wp2
    go_step3
    go_wp2
    rw [Exit.noGoto_ret]
    go_ret3
    exact ⟨tuple3_ret (by unfold Pk.getInt; rw [if_pos (Or.inr (by rw [hr.len]; exact h'))]), rfl⟩
  · obtain ⟨q, rfl⟩ := Int.eq_ofNat_of_zero_le h
    have hd : decide ((q : Int) < 0) = false := by simp
    have hd' : decide (n < q) = false := by simp; omega
    have Hres : Hid (Pk.getInt l q = Pk.res (Pk.dec 0 0 (l.drop q)) q) := hide (by unfold Pk.getInt; rw [if_neg (by rw [hr.len]; omega)]; rfl)
    go_enter Try.func15, Try.ntmps15
    go_wp2_with fail
    go_step3
    go_wp2_with fail
    go_step3
    go_wp2_with fail
    go_loop [7, 8, 9] (fun s7 s8 s9 => ∃ k acc : Nat, s7 = .int .u64 (acc : Int) ∧ s8 = .int .i64 ((q : Int) + (k : Int)) ∧ s9 = .int .i64 (7 * (k : Int)) ∧ k ≤ 9 ∧ q + k ≤ n ∧ acc < 128 ^ k ∧ Hid (Pk.dec k acc (l.drop (q + k)) = Pk.dec 0 0 (l.drop q))) (fun _ _ s9 => 70 - (intOf s9).toNat)
    case atStart => exact ⟨0, 0, rfl, by simp, rfl, by omega, by omega, by simp, hide rfl⟩
    case round =>
      obtain ⟨k, acc, rfl, rfl, rfl, hk9, hkn, hacc, Hrest⟩ := hrel
      have Hacc := hide hacc
      clear hacc
      by_cases hend : q + k = n
      · have ht : ((q : Int) + (k : Int) == (n : Int)) = true := by simp; omega
        have Hend := hide hend
        clear hend
        go_wp2
        go_ret3
        refine ⟨tuple3_ret ?_, rfl⟩
        rw [Hres.out, ← Hrest.out, List.drop_eq_nil_of_le (by rw [hr.len]; have := Hend.out; omega)]
        rfl
      · have ht : ((q : Int) + (k : Int) == (n : Int)) = false := by simp; omega
        obtain ⟨b, o, hl, hA, hb, hc⟩ := hr.at_ (k := q + k) (by omega)
        subst hA
        have Hdrop : Hid (l.drop (q + k) = l[q + k] :: l.drop (q + (k + 1))) := hide (by rw [List.drop_eq_getElem_cons hl]; rfl)
        have hx8 := l[q + k].toNat_lt
        have hq : q + k < n := by omega
        clear hend
        generalize l[q + k] = cb at *
        generalize hx : cb.toNat = x at *
        have Hx := hide hx
        clear hx
        by_cases h9 : k = 9 ∧ 1 < x
        · obtain ⟨rfl, h1x⟩ := h9
          go_wp2
          go_ret3
          refine ⟨tuple3_ret ?_, rfl⟩
          rw [Hres.out, ← Hrest.out, Hdrop.out, Pk.dec_cons, if_pos ⟨rfl, by rw [Hx.out]; exact h1x⟩]
          rfl
        · have hk1 : k = 9 → x ≤ 1 := by omega
          have hor := or_group Hacc.out hk9 hx8 hk1
          have hU := (group_lt Hacc.out hk9 hk1).2
          have hU2 : 128 ≤ x → acc + x % 128 * 128 ^ k < 128 ^ (k + 1) := fun _ => by
            have := Hacc.out
            have h2 : x % 128 * 128 ^ k ≤ 127 * 128 ^ k := Nat.mul_le_mul_right _ (by omega)
            rw [Nat.pow_succ]
            omega
          have Hd := hide (Pk.dec_cons k acc cb (l.drop (q + (k + 1))))
          rw [Hx.out] at Hd
          rw [Hdrop.out] at Hrest
          generalize acc + x % 128 * 128 ^ k = U at *
          have HU2 := hide hU2
          clear hU2 hk1
          rcases (show (9 ≤ k ∧ x ≤ 1) ∨ k < 9 by omega) with ⟨hk8, hx1⟩ | hk8
          all_goals
            have h63 : (7 * (k : Int) == 63) = true ∨ (7 * (k : Int) == 63) = false := by cases h : (7 * (k : Int) == 63) <;> simp
            rcases h63 with h63 | h63
            all_goals first
              | (exfalso; simp at h63; omega)
              | skip
          all_goals
            by_cases h128 : 128 ≤ x
            · first
              | (exfalso; omega)
              | (go_wp2
                 go_round
                 case rel =>
                   have hd2 := Hd.out
                   rw [if_neg h9, if_pos h128] at hd2
                   exact ⟨k + 1, U, rfl, by go_num, by go_num, by omega, by omega, HU2.out h128, hide (by rw [← hd2]; exact Hrest.out)⟩
                 case measure => simp [intOf]; omega)
            · by_cases hz : 0 < k ∧ x = 0
              · have hx0 : ((x : Int) == 0) = true := by simp; omega
                have hk0 : decide (0 < 7 * (k : Int)) = true := by simp; omega
                have hd2 := Hd.out
                rw [if_neg h9, if_neg h128, if_pos hz] at hd2
                have Hd2 := hide hd2
                clear hd2 hz
                go_wp2
                all_goals
                  go_ret3
                  refine ⟨tuple3_ret ?_, rfl⟩
                  rw [Hres.out, ← Hrest.out, Hd2.out]
                  rfl
              · have hd2 := Hd.out
                rw [if_neg h9, if_neg h128, if_neg hz] at hd2
                have Hd2 := hide hd2
                clear hd2
                by_cases hxz : x = 0
                · have hx0 : ((x : Int) == 0) = true := by simp; omega
                  have hk0 : decide (0 < 7 * (k : Int)) = false := by simp; omega
                  clear hz hxz
                  go_wp2_with (go_at_call 21; refine (fromUnsigned_any U _ hU).mono ?_; rintro e w' ⟨rfl, rfl⟩)
                  all_goals
                    rw [Exit.noGoto_ret]
                    go_ret3
                    refine ⟨tuple3_ret ?_, rfl⟩
                    rw [Hres.out, ← Hrest.out, Hd2.out]
                    simp only [Pk.res, Prod.mk.injEq, true_and, and_true]
                    omega
                · have hx0 : ((x : Int) == 0) = false := by simp; omega
                  clear hz hxz
                  go_wp2_with (go_at_call 21; refine (fromUnsigned_any U _ hU).mono ?_; rintro e w' ⟨rfl, rfl⟩)
                  all_goals
                    rw [Exit.noGoto_ret]
                    go_ret3
                    refine ⟨tuple3_ret ?_, rfl⟩
                    rw [Hres.out, ← Hrest.out, Hd2.out]
                    simp only [Pk.res, Prod.mk.injEq, true_and, and_true]
                    omega

theorem or_group' {acc x k : Nat} (hacc : acc < 128 ^ k) (hk : k ≤ 9) (hx : x < 256) (h9 : k = 9 → x ≤ 1) :
    bits .or .u64 (acc : Int) (IntKind.u64.wrap (bits .and .u64 (x : Int) 127 * 2 ^ (7 * k))) = ((acc + x % 128 * 128 ^ k : Nat) : Int) := by
  have hl := group_lt hacc hk h9
  have e1 : bits .and .u64 (x : Int) 127 = ((x % 128 : Nat) : Int) := by rw [show (127 : Int) = ((127 : Nat) : Int) from rfl, u64_and_nat _ _ (by omega) (by omega), nat_mask7]
  have e3 : ((x % 128 : Nat) : Int) * 2 ^ (7 * k) = ((x % 128 * 128 ^ k : Nat) : Int) := by rw [← pow_7]; simp
  have e4 : IntKind.u64.wrap ((x % 128 * 128 ^ k : Nat) : Int) = ((x % 128 * 128 ^ k : Nat) : Int) := by rw [IntKind.wrap_u64]; omega
  rw [e1, e3, e4, u64_or_nat _ _ (by omega) hl.1, Nat.or_comm, nat_join (7 * k) _ _ (by rw [pow_7]; exact Nat.mul_mod_left _ _) (by rw [pow_7]; exact hacc), Nat.add_comm]

theorem unzig_odd {U : Nat} (hU : U < 18446744073709551616) (h : U % 2 = 1) : bits .xor .i64 (-1) ((U : Int) / 2) = Pk.unzig U := by
  rw [show (U : Int) / 2 = ((U / 2 : Nat) : Int) by omega, compl_i64 _ (by omega)]
  unfold Pk.unzig
  rw [if_pos h]
theorem unzig_even {U : Nat} (h : U % 2 = 0) : (U : Int) / 2 = Pk.unzig U := by
  unfold Pk.unzig
  rw [if_neg (by omega)]
  omega

set_option maxRecDepth 100000 in
set_option maxHeartbeats 1600000 in
theorem refGetInt_any (A : Option Addr) (n c : Nat) (l : List UInt8) (p : Int) (w : World) (B : Nat) (hr : Bytes w B A n l) (hn : n ≤ 1048576) (h1 : -9223372036854775808 ≤ p) (h2 : p ≤ 9223372036854775807) :
    Calls Try.prog 16 #[.slice A n c, .int .i64 p] w fun e w' => e = .returned (.tuple #[.int .i64 (Pk.getInt l p).1, .int .i64 (Pk.getInt l p).2.1, .int .i64 (Pk.getInt l p).2.2]) ∧ w = w' := by
  rcases (show p < 0 ∨ (0 ≤ p ∧ (n : Int) < p) ∨ (0 ≤ p ∧ p ≤ n) by omega) with h | ⟨h, h'⟩ | ⟨h, h'⟩
  · have hd : decide (p < 0) = true := by simp; omega
    go_enter Try.func16, Try.ntmps16
    go_wp2
    go_ret3
    exact ⟨tuple3_ret (by unfold Pk.getInt; rw [if_pos (Or.inl h)]), rfl⟩
  · have hd : decide (p < 0) = false := by simp; omega
    have hd' : decide ((n : Int) < p) = true := by simp; omega
    go_enter Try.func16, Try.ntmps16
    go_wp2
    go_ret3
    exact ⟨tuple3_ret (by unfold Pk.getInt; rw [if_pos (Or.inr (by rw [hr.len]; exact h'))]), rfl⟩
  · obtain ⟨q, rfl⟩ := Int.eq_ofNat_of_zero_le h
    have hd : decide ((q : Int) < 0) = false := by simp
    have hd' : decide (n < q) = false := by simp; omega
    have Hres : Hid (Pk.getInt l q = Pk.res (Pk.dec 0 0 (l.drop q)) q) := hide (by unfold Pk.getInt; rw [if_neg (by rw [hr.len]; omega)]; rfl)
    go_enter Try.func16, Try.ntmps16
    go_wp2_with fail
    go_loop [7, 8] (fun s7 s8 => ∃ k acc : Nat, s7 = .int .u64 (acc : Int) ∧ s8 = .int .i64 (k : Int) ∧ k ≤ 9 ∧ q + k ≤ n ∧ acc < 128 ^ k ∧ Hid (Pk.dec k acc (l.drop (q + k)) = Pk.dec 0 0 (l.drop q))) (fun _ s8 => 10 - (intOf s8).toNat)
    case atStart => exact ⟨0, 0, rfl, rfl, by omega, by omega, by simp, hide rfl⟩
    case round =>
      obtain ⟨k, acc, rfl, rfl, hk9, hkn, hacc, Hrest⟩ := hrel
      have Hacc := hide hacc
      clear hacc
      by_cases hend : q + k = n
      · have ht : decide ((n : Int) ≤ (q : Int) + (k : Int)) = true := by simp; omega
        have Hend := hide hend
        clear hend
        go_wp2
        go_ret3
        refine ⟨tuple3_ret ?_, rfl⟩
        rw [Hres.out, ← Hrest.out, List.drop_eq_nil_of_le (by rw [hr.len]; have := Hend.out; omega)]
        rfl
      · have ht : decide ((n : Int) ≤ (q : Int) + (k : Int)) = false := by simp; omega
        obtain ⟨b, o, hl, hA, hb, hc⟩ := hr.at_ (k := q + k) (by omega)
        subst hA
        have Hdrop : Hid (l.drop (q + k) = l[q + k] :: l.drop (q + (k + 1))) := hide (by rw [List.drop_eq_getElem_cons hl]; rfl)
        have hx8 := l[q + k].toNat_lt
        have hq : q + k < n := by omega
        clear hend
        generalize l[q + k] = cb at *
        generalize hx : cb.toNat = x at *
        have Hx := hide hx
        clear hx
        have hxw : IntKind.u64.wrap (x : Int) = (x : Int) := by rw [IntKind.wrap_u64]; omega
        by_cases h9 : k = 9 ∧ 1 < x
        · obtain ⟨rfl, h1x⟩ := h9
          go_wp2
          go_ret3
          refine ⟨tuple3_ret ?_, rfl⟩
          rw [Hres.out, ← Hrest.out, Hdrop.out, Pk.dec_cons, if_pos ⟨rfl, by rw [Hx.out]; exact h1x⟩]
          rfl
        · have hk1 : k = 9 → x ≤ 1 := by omega
          have hor := or_group' Hacc.out hk9 hx8 hk1
          have hU := (group_lt Hacc.out hk9 hk1).2
          have hU2 : 128 ≤ x → acc + x % 128 * 128 ^ k < 128 ^ (k + 1) := fun _ => by
            have := Hacc.out
            have h2 : x % 128 * 128 ^ k ≤ 127 * 128 ^ k := Nat.mul_le_mul_right _ (by omega)
            rw [Nat.pow_succ]
            omega
          have Hd := hide (Pk.dec_cons k acc cb (l.drop (q + (k + 1))))
          rw [Hx.out] at Hd
          rw [Hdrop.out] at Hrest
          generalize acc + x % 128 * 128 ^ k = U at *
          have HU2 := hide hU2
          clear hU2 hk1
          have h63 : ((k : Int) == 9) = true ∧ 9 ≤ k ∧ x ≤ 1 ∨ ((k : Int) == 9) = false ∧ k < 9 := by
            rcases (show (9 ≤ k ∧ x ≤ 1) ∨ k < 9 by omega) with h | h
            · exact .inl ⟨by simp; omega, h⟩
            · exact .inr ⟨by simp; omega, h⟩
          rcases h63 with ⟨h63, hk8, hx1⟩ | ⟨h63, hk8⟩
          all_goals
            by_cases h128 : 128 ≤ x
            · first
              | (exfalso; omega)
              | (go_wp2
                 go_round
                 case rel =>
                   have hd2 := Hd.out
                   rw [if_neg h9, if_pos h128] at hd2
                   exact ⟨k + 1, U, rfl, by go_num, by omega, by omega, HU2.out h128, hide (by rw [← hd2]; exact Hrest.out)⟩
                 case measure => simp [intOf]; omega)
            · by_cases hz : 0 < k ∧ x = 0
              · have hx0 : ((x : Int) == 0) = true := by simp; omega
                have hk0 : decide (0 < k) = true := by simp; omega
                have hd2 := Hd.out
                rw [if_neg h9, if_neg h128, if_pos hz] at hd2
                have Hd2 := hide hd2
                clear hd2 hz
                go_wp2
                all_goals
                  go_ret3
                  refine ⟨tuple3_ret ?_, rfl⟩
                  rw [Hres.out, ← Hrest.out, Hd2.out]
                  rfl
              · have hd2 := Hd.out
                rw [if_neg h9, if_neg h128, if_neg hz] at hd2
                have Hd2 := hide hd2
                clear hd2
                have ha : bits .and .u64 (U : Int) 1 = ((U % 2 : Nat) : Int) := by
                  rw [show (1 : Int) = ((1 : Nat) : Int) from rfl, u64_and_nat _ _ hU (by omega), nat_mask1]
                have hz' : ((x : Int) == 0) = true ∧ decide (0 < k) = false ∨ ((x : Int) == 0) = false := by
                  by_cases h : x = 0
                  · exact .inl ⟨by simp; omega, by simp; omega⟩
                  · exact .inr (by simp; omega)
                have Hodd : Hid (U % 2 = 1 → bits .xor .i64 (-1) ((U : Int) / 2) = Pk.unzig U) := hide (unzig_odd hU)
                have Heven : Hid (U % 2 = 0 → (U : Int) / 2 = Pk.unzig U) := hide unzig_even
                clear hz
                rcases (show U % 2 = 1 ∨ U % 2 = 0 by omega) with hu2 | hu2
                all_goals
                  rcases hz' with ⟨hx0, hk0⟩ | hx0
                  all_goals
                    go_wp2
                    all_goals
                      go_ret3
                      refine ⟨tuple3_ret ?_, rfl⟩
                      rw [Hres.out, ← Hrest.out, Hd2.out]
                      simp only [Pk.res, Prod.mk.injEq, and_true]
                      exact ⟨by first | exact Hodd.out hu2 | exact Heven.out hu2, by omega⟩
end Go.Proofs.Ytgjomhcnncdfkaa
