/- Layer 3, identifiers: contracts of the plain functions. -/
import Derived.Test.YtgdhlghklnlahaaDoorStr
import Derived.Laws.BitsAllLaws
namespace Go.Proofs.YtgdhlghklnlahaaDoor
open Go.RowKit

namespace Id
def ogn (n b : Int) : Bool := (decide (0 ≤ n) && decide (n ≤ 127)) && (decide (0 ≤ b) && decide (b ≤ 65535))
def okS (s : Int) : Bool := decide (1 ≤ s) && decide (s ≤ 1099511627775)
/-- An identifier and an error. -/
def mk (n b s : Int) : Int × Nat := if ogn n b && okS s then (n * 72057594037927936 + b * 1099511627776 + s, 0) else (0, 2)
theorem ogn_iff {n b : Int} : ogn n b = true ↔ (0 ≤ n ∧ n ≤ 127) ∧ 0 ≤ b ∧ b ≤ 65535 := by simp [ogn]
theorem okS_iff {s : Int} : okS s = true ↔ 1 ≤ s ∧ s ≤ 1099511627775 := by simp [okS]
theorem mk_ok {n b s : Int} (h1 : ogn n b = true) (h2 : okS s = true) : mk n b s = (n * 72057594037927936 + b * 1099511627776 + s, 0) := by unfold mk; rw [h1, h2]; rfl
theorem mk_no1 {n b s : Int} (h1 : ogn n b = false) : mk n b s = (0, 2) := by unfold mk; rw [h1]; rfl
theorem mk_no2 {n b s : Int} (h2 : okS s = false) : mk n b s = (0, 2) := by unfold mk; rw [h2, Bool.and_false]; rfl
/-- Can be made. -/
def valid (id : Nat) : Bool := ogn ((id / 72057594037927936 : Nat) : Int) ((id / 1099511627776 % 65536 : Nat) : Int) && okS ((id % 1099511627776 : Nat) : Int)
theorem valid_mk (id : Nat) : valid id = decide ((mk ((id / 72057594037927936 : Nat) : Int) ((id / 1099511627776 % 65536 : Nat) : Int) ((id % 1099511627776 : Nat) : Int)).2 = 0) := by
  unfold valid mk
  split
  · rename_i h; rw [h]; rfl
  · rename_i h; simp at h ⊢; exact h
end Id

theorem id_bits {n b s : Int} (hb : (0 ≤ n ∧ n ≤ 127) ∧ 0 ≤ b ∧ b ≤ 65535) (hs : 1 ≤ s ∧ s ≤ 1099511627775) :
    bits .or .u64 (bits .or .u64 (IntKind.u64.wrap (IntKind.u64.wrap n * 72057594037927936)) (IntKind.u64.wrap (IntKind.u64.wrap b * 1099511627776))) (IntKind.u64.wrap s) = n * 72057594037927936 + b * 1099511627776 + s := by
  obtain ⟨⟨n1, n2⟩, b1, b2⟩ := hb
  obtain ⟨s1, s2⟩ := hs
  obtain ⟨N, rfl⟩ := Int.eq_ofNat_of_zero_le n1
  obtain ⟨B, rfl⟩ := Int.eq_ofNat_of_zero_le b1
  obtain ⟨S, rfl⟩ := Int.eq_ofNat_of_zero_le (show 0 ≤ s by omega)
  have e1 : IntKind.u64.wrap (IntKind.u64.wrap (N : Int) * 72057594037927936) = ((N * 72057594037927936 : Nat) : Int) := by rw [IntKind.wrap_u64, IntKind.wrap_u64]; omega
  have e2 : IntKind.u64.wrap (IntKind.u64.wrap (B : Int) * 1099511627776) = ((B * 1099511627776 : Nat) : Int) := by rw [IntKind.wrap_u64, IntKind.wrap_u64]; omega
  have e3 : IntKind.u64.wrap (S : Int) = (S : Int) := by rw [IntKind.wrap_u64]; omega
  rw [e1, e2, e3, u64_or_nat _ _ (by omega) (by omega), nat_join 56 _ _ (by omega) (by omega), u64_or_nat _ _ (by omega) (by omega), nat_join 40 _ _ (by omega) (by omega)]
  omega

theorem id_bits' {n b s : Int} (hb : (0 ≤ n ∧ n ≤ 127) ∧ 0 ≤ b ∧ b ≤ 65535) (hs : 1 ≤ s ∧ s ≤ 1099511627775) :
    bits .or .u64 (bits .or .u64 (n * 72057594037927936) (b * 1099511627776)) s = n * 72057594037927936 + b * 1099511627776 + s := by
  have := id_bits hb hs
  have e1 : IntKind.u64.wrap (IntKind.u64.wrap n * 72057594037927936) = n * 72057594037927936 := by rw [IntKind.wrap_u64, IntKind.wrap_u64]; omega
  have e2 : IntKind.u64.wrap (IntKind.u64.wrap b * 1099511627776) = b * 1099511627776 := by rw [IntKind.wrap_u64, IntKind.wrap_u64]; omega
  have e3 : IntKind.u64.wrap s = s := by rw [IntKind.wrap_u64]; omega
  rwa [e1, e2, e3] at this

theorem within_any (x a b : Int) (w : World) : Calls Tryd.prog 32 #[.int .i64 x, .int .i64 a, .int .i64 b] w fun e w' => e = .returned (.bool (decide (a ≤ x) && decide (x ≤ b))) ∧ w = w' := by
  by_cases h1 : a ≤ x
  · go_enter Tryd.func32, Tryd.ntmps32
    go_wp2
    go_ret
    exact ⟨by simp [h1], rfl⟩
  · go_enter Tryd.func32, Tryd.ntmps32
    go_wp2
    go_ret
    exact ⟨by rw [decide_eq_false (show ¬ a ≤ x by omega)]; rfl, rfl⟩

theorem origin_any (n b : Int) (w : World) : Calls Tryd.prog 31 #[.int .i64 n, .int .i64 b] w fun e w' => e = .returned (.bool (Id.ogn n b)) ∧ w = w' := by
  cases h : decide (0 ≤ n) && decide (n ≤ 127) with
  | true =>
    have H := hide h
    clear h
    go_enter Tryd.func31, Tryd.ntmps31
    go_wp2_with fail
    refine (within_any _ _ _ _).mono ?_
    rintro e w1 ⟨rfl, rfl⟩
    rw [H.out]
    go_wp2_with fail
    refine (within_any _ _ _ _).mono ?_
    rintro e w1 ⟨rfl, rfl⟩
    go_wp2
    go_ret
    exact ⟨by unfold Id.ogn; rw [H.out]; rfl, rfl⟩
  | false =>
    have H := hide h
    clear h
    go_enter Tryd.func31, Tryd.ntmps31
    go_wp2_with fail
    refine (within_any _ _ _ _).mono ?_
    rintro e w1 ⟨rfl, rfl⟩
    rw [H.out]
    go_wp2
    go_ret
    exact ⟨by unfold Id.ogn; rw [H.out]; rfl, rfl⟩

/-- An identifier and an error code. -/
def MkPost (r : Int × Nat) (w : World) (e : Ending) (w' : World) : Prop := e = .returned (.tuple #[.int .u64 r.1, .int .i64 (r.2 : Int)]) ∧ w = w'
theorem MkPost.of {r : Int × Nat} {v : Int} {er : Nat} {w w' : World} {e : Ending} (hr : r = (v, er)) (he : e = .returned (.tuple #[.int .u64 v, .int .i64 (er : Int)])) (hb : w = w') : MkPost r w e w' := by
  subst hr; exact ⟨he, hb⟩
theorem MkPost.at_ {r : Int × Nat} {v : Int} {er : Nat} {w w' : World} {e : Ending} (h : MkPost r w e w') (hr : r = (v, er)) : e = .returned (.tuple #[.int .u64 v, .int .i64 (er : Int)]) ∧ w = w' := by
  subst hr; exact h

theorem build_any (n b s : Int) (w : World) : Calls Tryd.prog 24 #[.int .i64 n, .int .i64 b, .int .i64 s] w (MkPost (Id.mk n b s) w) := by
  cases h : Id.ogn n b with
  | false =>
    have Hr := hide (Id.mk_no1 (s := s) h)
    have H := hide h
    clear h
    go_enter Tryd.func24, Tryd.ntmps24
    go_wp2_with fail
    refine (origin_any _ _ _).mono ?_
    rintro e w1 ⟨rfl, rfl⟩
    rw [H.out]
    go_wp2
    go_ret2
    exact MkPost.of Hr.out rfl rfl
  | true =>
    cases h2 : Id.okS s with
    | false =>
      have Hr := hide (Id.mk_no2 (n := n) (b := b) h2)
      have H := hide h
      have H2 : Hid ((decide (1 ≤ s) && decide (s ≤ 1099511627775)) = false) := hide h2
      clear h h2
      go_enter Tryd.func24, Tryd.ntmps24
      go_wp2_with fail
      refine (origin_any _ _ _).mono ?_
      rintro e w1 ⟨rfl, rfl⟩
      rw [H.out]
      go_wp2_with fail
      refine (within_any _ _ _ _).mono ?_
      rintro e w1 ⟨rfl, rfl⟩
      rw [H2.out]
      go_wp2
      go_ret2
      exact MkPost.of Hr.out rfl rfl
    | true =>
      have Hr := hide (Id.mk_ok h h2)
      have hb := hide (Id.ogn_iff.1 h)
      have hs := hide (Id.okS_iff.1 h2)
      have H := hide h
      have H2 : Hid ((decide (1 ≤ s) && decide (s ≤ 1099511627775)) = true) := hide h2
      clear h h2
      go_enter Tryd.func24, Tryd.ntmps24
      go_wp2_with fail
      refine (origin_any _ _ _).mono ?_
      rintro e w1 ⟨rfl, rfl⟩
      rw [H.out]
      go_wp2_with fail
      refine (within_any _ _ _ _).mono ?_
      rintro e w1 ⟨rfl, rfl⟩
      rw [H2.out]
      go_wp2
      go_ret2
      exact MkPost.of Hr.out (by simp only [id_bits hb.out hs.out]; rfl) rfl

theorem make_any (n b s : Int) (w : World) : Calls Tryd.prog 9 #[.int .i64 n, .int .i64 b, .int .i64 s] w (MkPost (Id.mk n b s) w) := by
  have HB := hide (build_any n b s)
  generalize Id.mk n b s = r at *
  obtain ⟨v, er⟩ := r
  go_enter Tryd.func9, Tryd.ntmps9
  go_wp2_with fail
  refine (HB.out _).mono ?_
  rintro e w1 ⟨rfl, rfl⟩
  go_wp2
  go_ret2
  exact MkPost.of rfl rfl rfl

theorem refMake_any (n b s : Int) (w : World) : Calls Tryd.prog 10 #[.int .i64 n, .int .i64 b, .int .i64 s] w (MkPost (Id.mk n b s) w) := by
  by_cases h : ((0 ≤ n ∧ n ≤ 127) ∧ 0 ≤ b ∧ b ≤ 65535) ∧ 1 ≤ s ∧ s ≤ 1099511627775
  · have Hr := hide (Id.mk_ok (Id.ogn_iff.2 h.1) (Id.okS_iff.2 h.2))
    have hb := hide h.1
    have hs := hide h.2
    obtain ⟨⟨⟨h1, h2⟩, h3, h4⟩, h5, h6⟩ := h
    go_enter Tryd.func10, Tryd.ntmps10
    go_wp2
    go_ret2
    exact MkPost.of Hr.out (by simp only [id_bits' hb.out hs.out]; rfl) rfl
  · have Hr : Hid (Id.mk n b s = (0, 2)) := hide (by
      unfold Id.mk
      rw [if_neg]
      intro hh
      simp only [Bool.and_eq_true] at hh
      exact h ⟨Id.ogn_iff.1 hh.1, Id.okS_iff.1 hh.2⟩)
    have hc : n < 0 ∨ (0 ≤ n ∧ 127 < n) ∨ (0 ≤ n ∧ n ≤ 127 ∧ b < 0) ∨ (0 ≤ n ∧ n ≤ 127 ∧ 0 ≤ b ∧ 65535 < b) ∨ (0 ≤ n ∧ n ≤ 127 ∧ 0 ≤ b ∧ b ≤ 65535 ∧ s < 1) ∨ (0 ≤ n ∧ n ≤ 127 ∧ 0 ≤ b ∧ b ≤ 65535 ∧ 1 ≤ s ∧ 1099511627775 < s) := by omega
    clear h
    rcases hc with h1 | ⟨h1, h2⟩ | ⟨h1, h2, h3⟩ | ⟨h1, h2, h3, h4⟩ | ⟨h1, h2, h3, h4, h5⟩ | ⟨h1, h2, h3, h4, h5, h6⟩
    all_goals
      go_enter Tryd.func10, Tryd.ntmps10
      go_wp2
      go_ret2
      exact MkPost.of Hr.out rfl rfl

theorem nat_eq (a b : Nat) : ((a : Int) == (b : Int)) = decide (a = b) := by
  by_cases h : a = b
  · subst h; simp
  · rw [decide_eq_false h]; simp; omega
/-- The parts of an identifier. -/
def SplitPost (id : Nat) (w : World) (e : Ending) (w' : World) : Prop := e = .returned (.tuple #[.int .i64 ((id / 72057594037927936 : Nat) : Int), .int .i64 ((id / 1099511627776 % 65536 : Nat) : Int), .int .i64 ((id % 1099511627776 : Nat) : Int)]) ∧ w = w'
theorem nat_mask16 (x : Nat) : x &&& 65535 = x % 65536 := Nat.and_two_pow_sub_one_eq_mod x 16
theorem nat_mask40 (x : Nat) : x &&& 1099511627775 = x % 1099511627776 := Nat.and_two_pow_sub_one_eq_mod x 40
theorem split_bits (id : Nat) (h : id < 18446744073709551616) : bits .and .u64 ((id : Int) / 1099511627776) 65535 = ((id / 1099511627776 % 65536 : Nat) : Int) ∧ bits .and .u64 (id : Int) 1099511627775 = ((id % 1099511627776 : Nat) : Int) := by
  constructor
  · rw [show (id : Int) / 1099511627776 = ((id / 1099511627776 : Nat) : Int) by omega, show (65535 : Int) = ((65535 : Nat) : Int) from rfl, u64_and_nat _ _ (by omega) (by omega), nat_mask16]
  · rw [show (1099511627775 : Int) = ((1099511627775 : Nat) : Int) from rfl, u64_and_nat _ _ (by omega) (by omega), nat_mask40]
theorem split_any (id : Nat) (w : World) (h : id < 18446744073709551616) : Calls Tryd.prog 11 #[.int .u64 (id : Int)] w (SplitPost id w) := by
  obtain ⟨e1, e2⟩ := split_bits id h
  go_enter Tryd.func11, Tryd.ntmps11
  go_wp2
  go_ret3
  exact ⟨rfl, rfl⟩
theorem refSplit_any (id : Nat) (w : World) (h : id < 18446744073709551616) : Calls Tryd.prog 12 #[.int .u64 (id : Int)] w (SplitPost id w) := by
  obtain ⟨e1, e2⟩ := split_bits id h
  go_enter Tryd.func12, Tryd.ntmps12
  go_wp2
  go_ret3
  exact ⟨rfl, rfl⟩

theorem valid_any (id : Nat) (w : World) (h : id < 18446744073709551616) : Calls Tryd.prog 15 #[.int .u64 (id : Int)] w fun e w' => e = .returned (.bool (Id.valid id)) ∧ w = w' := by
  have Hv := hide (Id.valid_mk id)
  have HM := hide (make_any ((id / 72057594037927936 : Nat) : Int) ((id / 1099511627776 % 65536 : Nat) : Int) ((id % 1099511627776 : Nat) : Int))
  generalize Id.mk ((id / 72057594037927936 : Nat) : Int) ((id / 1099511627776 % 65536 : Nat) : Int) ((id % 1099511627776 : Nat) : Int) = r at *
  obtain ⟨v, er⟩ := r
  go_enter Tryd.func15, Tryd.ntmps15
  go_wp2_with fail
  refine (split_any id _ h).mono ?_
  rintro e w1 ⟨rfl, rfl⟩
  go_wp2_with fail
  refine (HM.out _).mono ?_
  rintro e w1 ⟨rfl, rfl⟩
  go_wp2
  go_ret
  exact ⟨ret_bool ((nat_eq er 0).trans Hv.out.symm), rfl⟩
theorem refValid_any (id : Nat) (w : World) (h : id < 18446744073709551616) : Calls Tryd.prog 16 #[.int .u64 (id : Int)] w fun e w' => e = .returned (.bool (Id.valid id)) ∧ w = w' := by
  have Hv := hide (Id.valid_mk id)
  have HM := hide (refMake_any ((id / 72057594037927936 : Nat) : Int) ((id / 1099511627776 % 65536 : Nat) : Int) ((id % 1099511627776 : Nat) : Int))
  generalize Id.mk ((id / 72057594037927936 : Nat) : Int) ((id / 1099511627776 % 65536 : Nat) : Int) ((id % 1099511627776 : Nat) : Int) = r at *
  obtain ⟨v, er⟩ := r
  go_enter Tryd.func16, Tryd.ntmps16
  go_wp2_with fail
  refine (refSplit_any id _ h).mono ?_
  rintro e w1 ⟨rfl, rfl⟩
  go_wp2_with fail
  refine (HM.out _).mono ?_
  rintro e w1 ⟨rfl, rfl⟩
  go_wp2
  go_ret
  exact ⟨ret_bool ((nat_eq er 0).trans Hv.out.symm), rfl⟩
end Go.Proofs.YtgdhlghklnlahaaDoor
