/- Layer 1, what is put: contracts of pack.PutInt, PutBytes and their helpers, and of the document's own answers. -/
import Derived.Test.YtgjomhcnncdfkaaProg
import Derived.Test.YtgjomhcnncdfkaaPackMath
import Derived.Test.YtgjomhcnncdfkaaLib
import Derived.Laws.Bits64
import Derived.Laws.BitsAllLaws
import Derived.KernelRfl
namespace Go.Proofs.Ytgjomhcnncdfkaa
open Go.RowKit

theorem byteTy : ElemTy Try.prog 22 5 1 1 := by
  obtain ⟨i0, hi, hz0, hz1, hz2⟩ := info_parts (show (Try.prog.info? 5).map (fun i => (i.zero, i.size, i.bytes)) = some (some (.int .u8 0), 1, 1) by kernel_rfl)
  exact ⟨i0, _, Try.underlying22, hi, hz0, hz1, hz2, rfl, by omega⟩

theorem nat_compl (m : Nat) (h : m < 18446744073709551616) : 18446744073709551615 ^^^ m = 18446744073709551615 - m := by
  have h2 : (18446744073709551615 : Nat) = 2 ^ 64 - 1 := by omega
  apply Nat.eq_of_testBit_eq
  intro i
  rw [Nat.testBit_xor, h2, Nat.testBit_two_pow_sub_one, show 2 ^ 64 - 1 - m = 2 ^ 64 - (m + 1) by omega, Nat.testBit_two_pow_sub_succ (by omega)]
  by_cases hi : i < 64
  · simp [hi]
  · have : m.testBit i = false := Nat.testBit_lt_two_pow (Nat.lt_of_lt_of_le h (by
      have : 2 ^ 64 ≤ 2 ^ i := Nat.pow_le_pow_right (by omega) (by omega)
      omega))
    simp [hi, this]
theorem compl_u64 (m : Nat) (h : m < 18446744073709551616) : bits .xor .u64 IntKind.u64.max (m : Int) = ((18446744073709551615 - m : Nat) : Int) := by
  have e : IntKind.u64.max = ((18446744073709551615 : Nat) : Int) := by rfl
  rw [e, u64_xor_nat _ _ (by omega) h, nat_compl m h]

theorem zig_neg {n : Int} (h1 : -9223372036854775808 ≤ n) (h0 : n < 0) : bits .xor .u64 IntKind.u64.max (IntKind.u64.wrap (IntKind.u64.wrap n * 2)) = (Pk.zig n : Int) := by
  have e : IntKind.u64.wrap (IntKind.u64.wrap n * 2) = ((18446744073709551616 + 2 * n).toNat : Int) := by
    rw [IntKind.wrap_u64, IntKind.wrap_u64]; omega
  rw [e, compl_u64 _ (by omega)]
  unfold Pk.zig
  rw [if_pos h0]
  omega
theorem zig_pos {n : Int} (h0 : 0 ≤ n) : n * 2 = (Pk.zig n : Int) := by
  unfold Pk.zig
  rw [if_neg (by omega)]
  omega

/-- What a test of layer 1 is told of the numbers that come in. -/
theorem toUnsigned_any (n : Int) (w : World) (h1 : -9223372036854775808 ≤ n) (h2 : n ≤ 9223372036854775807) :
    Calls Try.prog 22 #[.int .i64 n] w fun e w' => e = .returned (.int .u64 (Pk.zig n)) ∧ w = w' := by
  rcases (show n < 0 ∨ 0 ≤ n by omega) with h0 | h0
  · go_enter Try.func22, Try.ntmps22
    go_wp2
    go_ret
    exact ⟨by rw [← zig_neg h1 h0]; rfl, rfl⟩
  · go_enter Try.func22, Try.ntmps22
    go_wp2
    go_ret
    exact ⟨by rw [← zig_pos h0]; rfl, rfl⟩

theorem low_byte (u : Nat) (h : u < 128) : IntKind.u8.wrap (u : Int) = ((UInt8.ofNat u).toNat : Int) := by
  rw [IntKind.wrap_u8', Pk.toNat_ofNat (by omega)]; omega
theorem high_byte (u : Nat) (h : u < 18446744073709551616) : bits .or .u8 128 (bits .and .u64 (u : Int) 127 % 256) = ((UInt8.ofNat (u % 128 + 128)).toNat : Int) := by
  have e1 : bits .and .u64 (u : Int) 127 = ((u % 128 : Nat) : Int) := by
    rw [show (127 : Int) = ((127 : Nat) : Int) from rfl, u64_and_nat _ _ h (by omega), nat_mask7]
  have e2 : ((u % 128 : Nat) : Int) % 256 = ((u % 128 : Nat) : Int) := by omega
  rw [e1, e2, show (128 : Int) = ((128 : Nat) : Int) from rfl, u8_or_nat _ _ (by omega) (by omega), Pk.toNat_ofNat (by omega)]
  congr 1
  rw [nat_join 7 128 (u % 128) (by decide) (by omega)]
  omega

set_option maxHeartbeats 400000 in
theorem appendInt_any (A : Option Addr) (n c : Nat) (l : List UInt8) (x : Int) (w : World) (base : Nat) (h1 : -9223372036854775808 ≤ x) (h2 : x ≤ 9223372036854775807)
    (hown : w.ownsRow base 5 1 (.slice A n c) n (bv l)) (hbase : base ≤ w.heap.size) (hn : n ≤ 1099511627776) :
    Calls Try.prog 19 #[.slice A n c, .int .i64 x] w fun e w' => ∃ A' c', e = .returned (.slice A' (n + (Pk.enc (Pk.zig x)).length) c') ∧
      w'.ownsRow base 5 1 (.slice A' (n + (Pk.enc (Pk.zig x)).length) c') (n + (Pk.enc (Pk.zig x)).length) (bv (l ++ Pk.enc (Pk.zig x))) ∧ Below base w w' := by
  have hz := Pk.zig_lt h1 h2
  have hlen := Pk.enc_len10 hz
  generalize hu : Pk.zig x = u at *
  have Hu := hide hu
  clear hu
  go_enter Try.func19, Try.ntmps19
  go_wp2_with fail
  refine (toUnsigned_any x _ h1 h2).mono ?_
  rintro e w' ⟨rfl, rfl⟩
  rw [Hu.out]
  go_wp2_with fail
  go_loopw [0, 5] (fun s0 s5 wr => ∃ A' c' d u', s0 = .slice A' (n + d.length) c' ∧ s5 = .int .u64 ((u' : Nat) : Int) ∧ wr.ownsRow base 5 1 (.slice A' (n + d.length) c') (n + d.length) (bv (l ++ d)) ∧
      d ++ Pk.enc u' = Pk.enc u ∧ u' < 18446744073709551616 ∧ Below base w wr) (fun _ s5 _ => (intOf s5).toNat)
  case atStart => exact ⟨A, c, [], u, rfl, rfl, by simpa using hown, rfl, hz, Below.refl _ _⟩
  case round =>
    obtain ⟨A', c', d, u', rfl, rfl, hown', hd, hu', hbel⟩ := hrel
    have hB : base ≤ wr.heap.size := Nat.le_trans hbase hbel.size
    have hdl : d.length + (Pk.enc u').length ≤ 10 := by rw [← List.length_append, hd]; exact hlen
    have hep := Pk.enc_pos u'
    have Hd := hide hd
    clear hd hown hlen hep
    by_cases hs : u' < 128
    · go_wp2_with (at_builtin; refine wpList_append_rd rfl (.tmp 19) (.tmp 22) _ rfl byteTy rfl (hown'.alloc _) rfl (Row.new _ _ _) (by simp [Value.oneCell']) (by unfold maxLen; omega) (by omega) (by simp; omega) ?_; intro A2 c2 w2 hown2 hgrow2 hat2)
      go_ret
      have hb2 : Below base w w2 := below_own (hbel.alloc hB _) (hown'.alloc _) hgrow2 (by simp; omega)
      rw [show Value.int IntKind.u8 (u' : Int) = .int .u8 ((UInt8.ofNat u').toNat : Int) by rw [Pk.toNat_ofNat (by omega)]] at hown2
      have hfin : d ++ [UInt8.ofNat u'] = Pk.enc u := by rw [← Hd.out, Pk.enc_small hs]
      have hl : n + (Pk.enc u).length = n + d.length + 1 := by rw [← hfin]; simp; omega
      rw [hl, ← hfin]
      refine ⟨A2, c2, rfl, ?_, hb2⟩
      rw [← List.append_assoc, bv_append (l ++ d)]
      exact hown2
    · go_wp2_with (at_builtin; refine wpList_append_rd rfl (.tmp 10) (.tmp 15) _ rfl byteTy rfl (hown'.alloc _) rfl (Row.new _ _ _) (by simp [Value.oneCell']) (by unfold maxLen; omega) (by omega) (by simp; omega) ?_; intro A2 c2 w2 hown2 hgrow2 hat2)
      have hb2 : Below base w w2 := below_own (hbel.alloc hB _) (hown'.alloc _) hgrow2 (by simp; omega)
      go_roundw
      case rel =>
        rw [high_byte u' hu'] at hown2
        refine ⟨A2, c2, d ++ [UInt8.ofNat (u' % 128 + 128)], u' / 128, by simp [Nat.add_assoc], by go_num, ?_, ?_, by omega, hb2⟩
        · rw [← List.append_assoc, bv_append (l ++ d)]
          rw [List.length_append, List.length_singleton, ← Nat.add_assoc]
          exact hown2
        · rw [List.append_assoc, ← Hd.out, Pk.enc_big hs]; rfl
      case measure => simp [intOf]; omega

/-- A copy of b with room. -/
theorem copyWithRoom_any (A : Option Addr) (n c : Nat) (l : List UInt8) (room : Int) (w : World) (h1 : 0 ≤ room) (h2 : room ≤ 1099511627776) (hr : Bytes w w.heap.size A n l) (hl : n ≤ 1099511627776) :
    Calls Try.prog 20 #[.slice A n c, .int .i64 room] w fun e w' => ∃ A' c', e = .returned (.slice A' n c') ∧
      w'.ownsRow w.heap.size 5 1 (.slice A' n c') n (bv l) ∧ Below w.heap.size w w' := by
  obtain ⟨k, rfl⟩ := Int.eq_ofNat_of_zero_le h1
  go_enter Try.func20, Try.ntmps20
  go_wp2_with (first
    | (at_make; refine wpList_make_rd rfl _ _ _ rfl byteTy _ _ _ (n + k) rfl rfl (by omega) (by omega) (by unfold maxLen; omega) ?_; intro w1 hown1 hgrow1; have hb1 : Below w.heap.size w w1 := (Below.refl _ _).grown hgrow1 (Nat.le_refl _) (by simp))
    | (at_builtin; refine wpList_append_rd rfl (.tmp 9) (.tmp 10) _ rfl byteTy rfl hown1 rfl (hr.below hb1).row (bv_one l) (by unfold maxLen; omega) (by omega) hb1.size ?_; intro A2 c2 w2 hown2 hgrow2 hat2))
  go_ret
  simp only [Nat.zero_add, List.nil_append] at hown2
  exact ⟨A2, c2, by simp, hown2, below_own hb1 hown1 hgrow2 hb1.size⟩

set_option maxHeartbeats 400000 in
theorem putInt_any (A : Option Addr) (n c : Nat) (l : List UInt8) (x : Int) (w : World) (h1 : -9223372036854775808 ≤ x) (h2 : x ≤ 9223372036854775807) (hr : Bytes w w.heap.size A n l) (hl : n ≤ 1048576) :
    Calls Try.prog 9 #[.slice A n c, .int .i64 x] w fun e w' => ∃ A' n' c', e = .returned (.slice A' n' c') ∧ n' = n + (Pk.enc (Pk.zig x)).length ∧
      w'.ownsRow w.heap.size 5 1 (.slice A' n' c') n' (bv (l ++ Pk.enc (Pk.zig x))) ∧ Below w.heap.size w w' := by
  go_enter Try.func9, Try.ntmps9
  go_wp2_with fail
  refine (copyWithRoom_any A n c l 10 _ (by omega) (by omega) hr (by omega)).mono ?_
  rintro e w1 ⟨A1, c1, rfl, hown1, hb1⟩
  go_wp2_with fail
  refine (appendInt_any A1 n c1 l x _ w.heap.size h1 h2 hown1 hb1.size (by omega)).mono ?_
  rintro e w2 ⟨A2, c2, rfl, hown2, hb2⟩
  go_wp2
  go_ret
  exact ⟨A2, _, c2, rfl, rfl, hown2, hb1.trans hb2⟩

set_option maxHeartbeats 400000 in
theorem putBytes_any (A D : Option Addr) (n c m d : Nat) (l dl : List UInt8) (w : World) (hr : Bytes w w.heap.size A n l) (hd : Bytes w w.heap.size D m dl) (hl : n ≤ 1048576) (hm : m ≤ 1048576) :
    Calls Try.prog 11 #[.slice A n c, .slice D m d] w fun e w' => ∃ A' n' c', e = .returned (.slice A' n' c') ∧ n' = n + (Pk.enc (Pk.zig m)).length + m ∧
      w'.ownsRow w.heap.size 5 1 (.slice A' n' c') n' (bv (l ++ Pk.enc (Pk.zig m) ++ dl)) ∧ Below w.heap.size w w' := by
  have hlen := Pk.enc_len10 (Pk.zig_lt (n := m) (by omega) (by omega))
  go_enter Try.func11, Try.ntmps11
  go_wp2_with fail
  refine (copyWithRoom_any A n c l (10 + m) _ (by omega) (by omega) hr (by omega)).mono ?_
  rintro e w1 ⟨A1, c1, rfl, hown1, hb1⟩
  go_wp2_with fail
  refine (appendInt_any A1 n c1 l m _ w.heap.size (by omega) (by omega) hown1 hb1.size (by omega)).mono ?_
  rintro e w2 ⟨A2, c2, rfl, hown2, hb2⟩
  have hb12 := hb1.trans hb2
  go_wp2_with (at_builtin; refine wpList_append_rd rfl (.tmp 15) (.tmp 16) _ rfl byteTy rfl hown2 rfl (hd.below hb12).row (bv_one dl) (by unfold maxLen; omega) (by omega) hb12.size ?_; intro A3 c3 w3 hown3 hgrow3 hat3)
  go_ret
  exact ⟨A3, _, c3, rfl, rfl, by rw [bv_append (_ ++ _)]; exact hown3, below_own hb12 hown2 hgrow3 hb12.size⟩

theorem high_byte' (u : Nat) : bits .or .u8 ((u : Int) % 256) 128 = ((UInt8.ofNat (u % 128 + 128)).toNat : Int) := by
  rw [show (u : Int) % 256 = ((u % 256 : Nat) : Int) by omega, show (128 : Int) = ((128 : Nat) : Int) from rfl, u8_or_nat _ _ (by omega) (by omega), Pk.toNat_ofNat (by omega)]
  congr 1
  have e : u % 256 = u / 128 % 2 * 128 ||| u % 128 := by
    rw [nat_join 7 _ _ (by omega) (by omega)]; omega
  rw [e, Nat.or_assoc, Nat.or_comm (u % 128), ← Nat.or_assoc]
  have e2 : u / 128 % 2 * 128 ||| 128 = 128 := by
    rcases (show u / 128 % 2 = 0 ∨ u / 128 % 2 = 1 by omega) with h | h <;> rw [h] <;> decide
  rw [e2, nat_join 7 128 (u % 128) (by decide) (by omega)]
  omega

set_option maxRecDepth 100000 in
set_option maxHeartbeats 800000 in
theorem refPutInt_any (A : Option Addr) (n c : Nat) (l : List UInt8) (x : Int) (w : World) (h1 : -9223372036854775808 ≤ x) (h2 : x ≤ 9223372036854775807) (hr : Bytes w w.heap.size A n l) (hl : n ≤ 1048576) :
    Calls Try.prog 10 #[.slice A n c, .int .i64 x] w fun e w' => ∃ A' n' c', e = .returned (.slice A' n' c') ∧ n' = n + (Pk.enc (Pk.zig x)).length ∧
      w'.ownsRow w.heap.size 5 1 (.slice A' n' c') n' (bv (l ++ Pk.enc (Pk.zig x))) ∧ Below w.heap.size w w' := by
  have hz := Pk.zig_lt h1 h2
  have hlen := Pk.enc_len10 hz
  have Hneg : Hid (x < 0 → bits .xor .u64 IntKind.u64.max (IntKind.u64.wrap (IntKind.u64.wrap x * 2)) = (Pk.zig x : Int)) := hide (fun h0 => zig_neg h1 h0)
  have Hpos : Hid (0 ≤ x → x * 2 = (Pk.zig x : Int)) := hide (fun h0 => zig_pos h0)
  generalize Pk.zig x = u at *
  have hn0 := World.ownsRow_nil w w.heap.size 5 1
  rcases (show x < 0 ∨ 0 ≤ x by omega) with h0 | h0
  all_goals
    go_enter Try.func10, Try.ntmps10
    go_wp2_with (at_builtin; refine wpList_append_rd rfl (.const (.slice none 0 0)) (.tmp 7) _ rfl byteTy rfl hn0 rfl hr.row (bv_one l) (by unfold maxLen; omega) (by omega) (Nat.le_refl _) ?_; intro A1 c1 w1 hown1 hgrow1 hat1)
    have hb1 := below_own (Below.refl _ _) hn0 hgrow1 (Nat.le_refl _)
    simp only [Nat.zero_add, List.nil_append] at hown1
    go_loopw [5, 6] (fun s5 s6 wr => ∃ A' c' d u', s5 = .slice A' (n + d.length) c' ∧ s6 = .int .u64 ((u' : Nat) : Int) ∧ wr.ownsRow w.heap.size 5 1 (.slice A' (n + d.length) c') (n + d.length) (bv (l ++ d)) ∧
        d ++ Pk.enc u' = Pk.enc u ∧ u' < 18446744073709551616 ∧ Below w.heap.size w wr) (fun _ s6 _ => (intOf s6).toNat)
    case atStart => exact ⟨A1, c1, [], u, by simp, by first | rw [Hneg.out h0] | rw [Hpos.out h0], by simpa using hown1, rfl, hz, hb1⟩
    case round =>
      obtain ⟨A', c', d, u', rfl, rfl, hown', hd, hu', hbel⟩ := hrel
      have hB : w.heap.size ≤ wr.heap.size := hbel.size
      have hdl : d.length + (Pk.enc u').length ≤ 10 := by rw [← List.length_append, hd]; exact hlen
      have hep := Pk.enc_pos u'
      have Hd := hide hd
      clear hd hown1 hn0 hgrow1 hat1 hlen hep h0
      by_cases hs : u' < 128
      · go_wp2_with (at_builtin; refine wpList_append_rd rfl (.tmp 26) (.tmp 29) _ rfl byteTy rfl (hown'.alloc _) rfl (Row.new _ _ _) (by simp [Value.oneCell']) (by unfold maxLen; omega) (by omega) (by simp; omega) ?_; intro A2 c2 w2 hown2 hgrow2 hat2)
        go_ret
        have hb2 : Below w.heap.size w w2 := below_own (hbel.alloc hB _) (hown'.alloc _) hgrow2 (by simp; omega)
        rw [show Value.int IntKind.u8 (u' : Int) = .int .u8 ((UInt8.ofNat u').toNat : Int) by rw [Pk.toNat_ofNat (by omega)]] at hown2
        have hfin : d ++ [UInt8.ofNat u'] = Pk.enc u := by rw [← Hd.out, Pk.enc_small hs]
        rw [← hfin]
        refine ⟨A2, _, c2, rfl, by simp; omega, ?_, hb2⟩
        rw [← List.append_assoc, bv_append (l ++ d)]
        exact hown2
      · go_wp2_with (at_builtin; refine wpList_append_rd rfl (.tmp 18) (.tmp 22) _ rfl byteTy rfl (hown'.alloc _) rfl (Row.new _ _ _) (by simp [Value.oneCell']) (by unfold maxLen; omega) (by omega) (by simp; omega) ?_; intro A2 c2 w2 hown2 hgrow2 hat2)
        have hb2 : Below w.heap.size w w2 := below_own (hbel.alloc hB _) (hown'.alloc _) hgrow2 (by simp; omega)
        go_roundw
        case rel =>
          rw [high_byte' u'] at hown2
          refine ⟨A2, c2, d ++ [UInt8.ofNat (u' % 128 + 128)], u' / 128, by simp [Nat.add_assoc], by go_num, ?_, ?_, by omega, hb2⟩
          · rw [← List.append_assoc, bv_append (l ++ d)]
            rw [List.length_append, List.length_singleton, ← Nat.add_assoc]
            exact hown2
          · rw [List.append_assoc, ← Hd.out, Pk.enc_big hs]; rfl
        case measure => simp [intOf]; omega

set_option maxHeartbeats 400000 in
theorem refPutBytes_any (A D : Option Addr) (n c m d : Nat) (l dl : List UInt8) (w : World) (hr : Bytes w w.heap.size A n l) (hd : Bytes w w.heap.size D m dl) (hl : n ≤ 1048576) (hm : m ≤ 1048576) :
    Calls Try.prog 12 #[.slice A n c, .slice D m d] w fun e w' => ∃ A' n' c', e = .returned (.slice A' n' c') ∧ n' = n + (Pk.enc (Pk.zig m)).length + m ∧
      w'.ownsRow w.heap.size 5 1 (.slice A' n' c') n' (bv (l ++ Pk.enc (Pk.zig m) ++ dl)) ∧ Below w.heap.size w w' := by
  have hlen := Pk.enc_len10 (Pk.zig_lt (n := m) (by omega) (by omega))
  go_enter Try.func12, Try.ntmps12
  go_wp2_with fail
  refine (refPutInt_any A n c l m _ (by omega) (by omega) hr (by omega)).mono ?_
  rintro e w2 ⟨A2, n2, c2, rfl, hn2, hown2, hb2⟩
  have Hn2 := hide hn2
  have hn2' : n2 ≤ 1048600 := by omega
  clear hn2
  go_wp2_with (at_builtin; refine wpList_append_rd rfl (.tmp 8) (.tmp 9) _ rfl byteTy rfl hown2 rfl (hd.below hb2).row (bv_one dl) (by unfold maxLen; omega) (by omega) hb2.size ?_; intro A3 c3 w3 hown3 hgrow3 hat3)
  go_ret
  exact ⟨A3, _, c3, rfl, by rw [Hn2.out], by rw [bv_append (_ ++ _)]; exact hown3, below_own hb2 hown2 hgrow3 hb2.size⟩
end Go.Proofs.Ytgjomhcnncdfkaa
