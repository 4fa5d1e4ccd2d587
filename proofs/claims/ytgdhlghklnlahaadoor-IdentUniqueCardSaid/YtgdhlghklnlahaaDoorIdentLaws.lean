/- Layer 3: the walks of IdentParts and IdentBack. -/
import Derived.Test.YtgdhlghklnlahaaDoorIdentRefParse
namespace Go.Proofs.YtgdhlghklnlahaaDoor
open Go.RowKit

namespace Id
theorem num_itoa (k : Nat) (h : k ≤ 9223372036854775807) : num (Lib.itoa (k : Int)) = ((k : Int), 0) := by
  unfold num
  have hn : Wd.number (Lib.itoa (k : Int)) = ((k : Int), 0) := Wd.number_itoa (by omega) (by omega)
  have hg : Wd.neg (Lib.itoa (k : Int)) = false := by
    unfold Lib.itoa
    rw [if_neg (by omega), Int.toNat_natCast]
    obtain ⟨e1, -, e3, -⟩ := Wd.decDigits_spec k
    cases hd : Lib.decDigits k with
    | nil => exact absurd hd e3
    | cons c r =>
      rw [hd] at e1
      simp only [List.all_cons, Bool.and_eq_true] at e1
      have := Wd.dig_iff.1 e1.1
      rw [Wd.neg_cons]
      have hc : c ≠ 45 := by rintro rfl; revert this; decide
      simpa using hc
  rw [hg, hn]; rfl
theorem itoa_46 (k : Nat) : ∀ c ∈ Lib.itoa (k : Int), Ct.no 46 c = true := by
  intro c hc
  unfold Lib.itoa at hc
  rw [if_neg (by omega), Int.toNat_natCast] at hc
  obtain ⟨e1, -, -, -⟩ := Wd.decDigits_spec k
  have := Wd.dig_iff.1 (List.all_eq_true.1 e1 c hc)
  have hne : c ≠ 46 := by rintro rfl; revert this; decide
  simp [Ct.no, hne]
theorem cut_at (a r : List UInt8) (h : ∀ c ∈ a, Ct.no 46 c = true) : (a ++ 46 :: r).takeWhile (Ct.no 46) = a ∧ Ct.after 46 (a ++ 46 :: r) = r := by
  unfold Ct.after
  rw [List.takeWhile_append_of_pos h, List.dropWhile_append_of_pos h]
  have : Ct.no 46 46 = false := by decide
  simp [this]
theorem parse_text (id : Nat) (h : id < 18446744073709551616) : parse (text id) = mk ((id / 72057594037927936 : Nat) : Int) ((id / 1099511627776 % 65536 : Nat) : Int) ((id % 1099511627776 : Nat) : Int) := by
  have ht : text id = Lib.itoa ((id / 72057594037927936 : Nat) : Int) ++ 46 :: (Lib.itoa ((id / 1099511627776 % 65536 : Nat) : Int) ++ 46 :: Lib.itoa ((id % 1099511627776 : Nat) : Int)) := by
    unfold text; simp
  unfold parse
  rw [ht]
  obtain ⟨h1, h2⟩ := cut_at _ (Lib.itoa ((id / 1099511627776 % 65536 : Nat) : Int) ++ 46 :: Lib.itoa ((id % 1099511627776 : Nat) : Int)) (itoa_46 (id / 72057594037927936))
  obtain ⟨h3, h4⟩ := cut_at _ (Lib.itoa ((id % 1099511627776 : Nat) : Int)) (itoa_46 (id / 1099511627776 % 65536))
  rw [h1, h2, h3, h4, num_itoa _ (by omega), num_itoa _ (by omega), num_itoa _ (by omega)]
  unfold three
  simp
end Id

set_option maxRecDepth 100000 in
set_option maxHeartbeats 2000000 in
theorem identParts_any (n b sr : Int) (id : Nat) (s : ByteArray) (w : World) (hid : id < 18446744073709551616) (hs : s.size ≤ 9223372036854775807) (hL : Laid w) :
    Calls Tryd.prog 3 #[.int .i64 n, .int .i64 b, .int .i64 sr, .int .u64 (id : Int), .string s] w fun e w' => e = .returned (.bool true) ∧ Below w.heap.size w w' := by
  have HL := hide hL
  clear hL
  by_cases hg : 100 < s.size
  · have d1 : decide ((100 : Int) < (s.size : Int)) = true := by simp; omega
    clear hg
    go_enter Tryd.func3, Tryd.ntmps3
    go_wp2_with fail
    refine (sane3_any _ HL.out.tab).mono ?_
    rintro e w1 ⟨rfl, hb1⟩
    go_wp2
    go_ret
    exact ⟨rfl, hb1⟩
  · have d1 : decide ((100 : Int) < (s.size : Int)) = false := by simp; omega
    have hs' : s.size ≤ 1048576 := by omega
    clear hg
    have M1 := hide (make_any n b sr)
    have M2 := hide (refMake_any n b sr)
    generalize Id.mk n b sr = m at *
    obtain ⟨v, er⟩ := m
    have ee : ((er : Int) == (er : Int)) = true := by simp
    have ev : (v == v) = true := by simp
    go_enter Tryd.func3, Tryd.ntmps3
    go_wp2_with fail
    refine (sane3_any _ HL.out.tab).mono ?_
    rintro e w1 ⟨rfl, hb1⟩
    go_wp2_with fail
    refine (M1.out _).mono ?_
    rintro e w2 ⟨rfl, rfl⟩
    go_wp2_with fail
    refine (M2.out _).mono ?_
    rintro e w2 ⟨rfl, rfl⟩
    go_wp2_with fail
    refine (split_any id _ hid).mono ?_
    rintro e w2 ⟨rfl, rfl⟩
    go_wp2_with fail
    refine (refSplit_any id _ hid).mono ?_
    rintro e w2 ⟨rfl, rfl⟩
    go_wp2_with fail
    refine (parse_any s _ hs' (HL.out.below hb1)).mono ?_
    rintro e w2 ⟨v1, er1, hp1, rfl, hb2⟩
    have hb12 := hb1.trans (hb2.mono hb1.size)
    go_wp2_with fail
    refine (refParse_any s _ hs').mono ?_
    rintro e w3 ⟨v2, er2, hp2, rfl, hb3⟩
    have hb13 := hb12.trans (hb3.mono hb12.size)
    rw [hp1] at hp2
    simp only [Prod.mk.injEq] at hp2
    obtain ⟨rfl, rfl⟩ := hp2
    clear hp1
    have ee1 : ((er1 : Int) == (er1 : Int)) = true := by simp
    have ev1 : (v1 == v1) = true := by simp
    have HL3 := hide (HL.out.below hb13)
    go_wp2_with fail
    refine (valid_any id _ hid).mono ?_
    rintro e w4 ⟨rfl, rfl⟩
    go_wp2_with fail
    refine (refValid_any id _ hid).mono ?_
    rintro e w4 ⟨rfl, rfl⟩
    have evv : (Id.valid id == Id.valid id) = true := by simp
    generalize Id.valid id = vb at *
    go_wp2_with fail
    refine (idFormat_any id _ hid HL3.out.tab).mono ?_
    rintro e w4 ⟨rfl, hb4⟩
    have hb14 := hb13.trans (hb4.mono hb13.size)
    go_wp2_with fail
    refine (refIdFormat_any id _ hid).mono ?_
    rintro e w5 ⟨rfl, hb5⟩
    have hb15 := hb14.trans (hb5.mono hb14.size)
    have ei : (Id.text id == Id.text id) = true := by simp
    go_wp2
    go_ret
    exact ⟨rfl, hb15⟩

set_option maxRecDepth 100000 in
set_option maxHeartbeats 2000000 in
theorem identBack_any (n b sr : Nat) (w : World) (hn : n < 18446744073709551616) (hb : b < 18446744073709551616) (hs : sr < 18446744073709551616) (hL : Laid w) :
    Calls Tryd.prog 5 #[.int .u64 (n : Int), .int .u64 (b : Int), .int .u64 (sr : Int)] w fun e w' => e = .returned (.bool true) ∧ Below w.heap.size w w' := by
  have HL := hide hL
  clear hL
  go_enter Tryd.func5, Tryd.ntmps5
  go_wp2_with fail
  refine (sane3_any _ HL.out.tab).mono ?_
  rintro e w1 ⟨rfl, hb1⟩
  go_wp2_with fail
  obtain ⟨N, hN, hN2⟩ : ∃ N : Nat, (n : Int) % 128 = (N : Int) ∧ N < 128 := ⟨n % 128, by omega, by omega⟩
  obtain ⟨B, hB, hB2⟩ : ∃ B : Nat, (b : Int) % 65536 = (B : Int) ∧ B < 65536 := ⟨b % 65536, by omega, by omega⟩
  obtain ⟨S, hS, hS1, hS2⟩ : ∃ S : Nat, 1 + (sr : Int) % 1099511627775 = (S : Int) ∧ 1 ≤ S ∧ S ≤ 1099511627775 := ⟨1 + sr % 1099511627775, by omega, by omega, by omega⟩
  rw [hN, hB, hS]
  clear hN hB hS
  obtain ⟨I, hI⟩ : ∃ I : Nat, N * 72057594037927936 + B * 1099511627776 + S = I := ⟨_, rfl⟩
  have hmk : Hid (Id.mk (N : Int) (B : Int) (S : Int) = ((I : Int), 0)) := hide (by
    rw [Id.mk_ok (Id.ogn_iff.2 ⟨by omega, by omega⟩) (Id.okS_iff.2 ⟨by omega, by omega⟩)]
    simp only [Prod.mk.injEq, and_true]
    omega)
  have i1 : I / 72057594037927936 = N := by omega
  have i2 : I / 1099511627776 % 65536 = B := by omega
  have i3 : I % 1099511627776 = S := by omega
  have hI63 : I < 9223372036854775808 := by omega
  have hI0 : 0 < I := by omega
  have HP : Hid (Id.parse (Id.text I) = ((I : Int), 0)) := hide (by rw [Id.parse_text I (by omega), i1, i2, i3]; exact hmk.out)
  have HV : Hid (Id.valid I = true) := hide (by rw [Id.valid_mk, i1, i2, i3, hmk.out]; rfl)
  have Hsp : Hid (∀ w, Calls Tryd.prog 11 #[.int .u64 (I : Int)] w fun e w' => e = .returned (.tuple #[.int .i64 (N : Int), .int .i64 (B : Int), .int .i64 (S : Int)]) ∧ w = w') := hide (fun w => by
    have := split_any I w (by omega)
    unfold SplitPost at this
    rwa [i1, i2, i3] at this)
  have htl := Id.text_le I (by omega)
  have hts : (⟨(Id.text I).toArray⟩ : ByteArray).size ≤ 1048576 := by rw [ba_size]; omega
  clear hI i1 i2 i3 htl
  refine (make_any _ _ _ _).mono ?_
  intro e w2 hp
  obtain ⟨rfl, rfl⟩ := hp.at_ hmk.out
  clear hp
  go_wp2_with fail
  refine (Hsp.out _).mono ?_
  rintro e w2 ⟨rfl, rfl⟩
  go_wp2_with fail
  refine (idFormat_any I _ (by omega) (HL.out.below hb1).tab).mono ?_
  rintro e w2 ⟨rfl, hb2⟩
  have hb12 := hb1.trans (hb2.mono hb1.size)
  go_wp2_with fail
  refine (parse_any ⟨(Id.text I).toArray⟩ _ hts (HL.out.below hb12)).mono ?_
  rintro e w3 ⟨v, er, hp, rfl, hb3⟩
  simp only at hp
  rw [HP.out] at hp
  simp only [Prod.mk.injEq] at hp
  obtain ⟨rfl, rfl⟩ := hp
  have hb13 := hb12.trans (hb3.mono hb12.size)
  have t1 : ((N : Int) == (N : Int)) = true := by simp
  have t2 : ((B : Int) == (B : Int)) = true := by simp
  have t3 : ((S : Int) == (S : Int)) = true := by simp
  have t4 : ((I : Int) == (I : Int)) = true := by simp
  have t5 : decide ((0 : Int) < (I : Int)) = true := by simp; omega
  go_wp2_with fail
  refine (valid_any I _ (by omega)).mono ?_
  rintro e w4 ⟨rfl, rfl⟩
  rw [HV.out]
  go_wp2
  go_ret
  exact ⟨rfl, hb13⟩
end Go.Proofs.YtgdhlghklnlahaaDoor
