/- PackBack: what was put is got again, whatever comes before and after it. No condition. -/
import Derived.Test.YtgjomhcnncdfkaaPackGetB
import Derived.Test.YtgjomhcnncdfkaaPackPuts
namespace Go.Proofs.Ytgjomhcnncdfkaa
open Go.RowKit

namespace Pk
theorem getInt_put (pre rest : List UInt8) (n : Int) (h1 : -9223372036854775808 ≤ n) (h2 : n ≤ 9223372036854775807) : getInt (pre ++ (enc (zig n) ++ rest)) pre.length = (n, (pre.length : Int) + ((enc (zig n)).length : Int), 0) := by
  have hz := zig_lt h1 h2
  unfold getInt
  rw [if_neg (by simp; omega), Int.toNat_natCast, List.drop_left, dec_enc _ 0 0 rest (by omega) (by simpa using hz) (by omega)]
  simp [res, unzig_zig]
theorem getBytes_put (pre dl rest : List UInt8) (hd : dl.length ≤ 9223372036854775807) : getBytes (pre ++ (enc (zig dl.length) ++ (dl ++ rest))) pre.length = (dl, (pre.length : Int) + ((enc (zig dl.length)).length : Int) + (dl.length : Int), 0) := by
  unfold getBytes
  rw [getInt_put pre (dl ++ rest) dl.length (by omega) (by omega)]
  simp only [getB]
  rw [if_neg (by simp), if_neg (by omega), if_neg (by simp; omega)]
  have e : ((pre.length : Int) + ((enc (zig dl.length)).length : Int)).toNat = (pre ++ enc (zig dl.length)).length := by simp; omega
  rw [e, ← List.append_assoc, List.drop_left, Int.toNat_natCast, List.take_left]
end Pk

theorem getBytes_is {A : Option Addr} {n c : Nat} {l : List UInt8} {p : Int} {w : World} {r : List UInt8} {t e : Int} (hG : Pk.getBytes l p = (r, t, e)) (hr : Bytes w w.heap.size A n l) (hc : n ≤ c) (hcm : c ≤ 9223372036854775807) (hn : n ≤ 1048576) (h1 : -9223372036854775808 ≤ p) (h2 : p ≤ 9223372036854775807) :
    Calls Try.prog 17 #[.slice A n c, .int .i64 p] w fun x w' => ∃ R m d, x = .returned (.tuple #[.slice R m d, .int .i64 t, .int .i64 e]) ∧ Bytes w' w'.heap.size R m r ∧ Later w w' := by
  refine (getBytes_any A n c l p w hr hc hcm hn h1 h2).mono ?_
  rintro x w' ⟨R, m, d, rfl, -, -, hb, hl⟩
  rw [hG] at hb ⊢
  exact ⟨R, m, d, rfl, hb, hl⟩
theorem getInt_is {A : Option Addr} {n c : Nat} {l : List UInt8} {p : Int} {w : World} {m t e : Int} (hG : Pk.getInt l p = (m, t, e)) (hr : Bytes w w.heap.size A n l) (hn : n ≤ 1048576) (h1 : -9223372036854775808 ≤ p) (h2 : p ≤ 9223372036854775807) :
    Calls Try.prog 15 #[.slice A n c, .int .i64 p] w fun x w' => x = .returned (.tuple #[.int .i64 m, .int .i64 t, .int .i64 e]) ∧ w = w' := by
  have := getInt_any A n c l p w w.heap.size hr hn h1 h2
  rw [hG] at this
  exact this

theorem own_max {w : World} {base : Nat} {e : TypeId} {size n c : Nat} {A : Option Addr} {xs : List Value} (h : w.ownsRow base e size (.slice A n c) n xs) : c ≤ 9223372036854775807 := by
  rcases h.2 with ⟨h, _⟩ | ⟨g, cap, _, h, _, _, _, hm, _⟩
  · cases h; omega
  · cases h; unfold maxLen at hm; omega

set_option maxHeartbeats 1000000 in
theorem packBack_any (A D E : Option Addr) (n c m d k f : Nat) (l dl ml : List UInt8) (x : Int) (w : World) (h1 : -9223372036854775808 ≤ x) (h2 : x ≤ 9223372036854775807)
    (hr : Bytes w w.heap.size A n l) (hd : Bytes w w.heap.size D m dl) (he : Bytes w w.heap.size E k ml) (hn : n ≤ 9223372036854775807) (hm : m ≤ 9223372036854775807) (hk : k ≤ 9223372036854775807) :
    Calls Try.prog 5 #[.slice A n c, .int .i64 x, .slice D m d, .slice E k f] w fun e w' => e = .returned (.bool true) ∧ Below w.heap.size w w' := by
  rcases (show 100 < n ∨ (n ≤ 100 ∧ 300 < m) ∨ (n ≤ 100 ∧ m ≤ 300 ∧ 100 < k) ∨ (n ≤ 100 ∧ m ≤ 300 ∧ k ≤ 100) by omega) with h | ⟨h, h'⟩ | ⟨h, h', h''⟩ | ⟨h, h', h''⟩
  · have hd1 : decide ((100 : Int) < (n : Int)) = true := by simp; omega
    go_enter Try.func5, Try.ntmps5
    go_wp2_with fail
    refine (sane_any _).mono ?_
    rintro e w1 ⟨rfl, hb1⟩
    go_wp2_with fail
    go_ret
    exact ⟨rfl, hb1⟩
  · have hd1 : decide ((100 : Int) < (n : Int)) = false := by simp; omega
    have hd2 : decide ((300 : Int) < (m : Int)) = true := by simp; omega
    go_enter Try.func5, Try.ntmps5
    go_wp2_with fail
    refine (sane_any _).mono ?_
    rintro e w1 ⟨rfl, hb1⟩
    go_wp2_with fail
    go_ret
    exact ⟨rfl, hb1⟩
  · have hd1 : decide ((100 : Int) < (n : Int)) = false := by simp; omega
    have hd2 : decide ((300 : Int) < (m : Int)) = false := by simp; omega
    have hd3 : decide ((100 : Int) < (k : Int)) = true := by simp; omega
    go_enter Try.func5, Try.ntmps5
    go_wp2_with fail
    refine (sane_any _).mono ?_
    rintro e w1 ⟨rfl, hb1⟩
    go_wp2_with fail
    go_ret
    exact ⟨rfl, hb1⟩
  · have hd1 : decide ((100 : Int) < (n : Int)) = false := by simp; omega
    have hd2 : decide ((300 : Int) < (m : Int)) = false := by simp; omega
    have hd3 : decide ((100 : Int) < (k : Int)) = false := by simp; omega
    have hz := Pk.zig_lt h1 h2
    have hl1 := Pk.enc_len10 hz
    have hl2 := Pk.enc_len10 (Pk.zig_lt (n := (m : Int)) (by omega) (by omega))
    have hlenl := hr.len
    have hlend := hd.len
    obtain ⟨e1, hE1⟩ : ∃ e1, e1 = (Pk.enc (Pk.zig x)).length := ⟨_, rfl⟩
    obtain ⟨e2, hE2⟩ : ∃ e2, e2 = (Pk.enc (Pk.zig m)).length := ⟨_, rfl⟩
    have hG1 : Pk.getInt (l ++ Pk.enc (Pk.zig x) ++ Pk.enc (Pk.zig m) ++ dl ++ ml) n = (x, (n : Int) + (e1 : Int), 0) := by
      rw [hE1, ← hlenl, List.append_assoc, List.append_assoc, List.append_assoc]
      exact Pk.getInt_put l _ x h1 h2
    have hG2 : Pk.getBytes (l ++ Pk.enc (Pk.zig x) ++ Pk.enc (Pk.zig m) ++ dl ++ ml) ((n : Int) + (e1 : Int)) = (dl, (n : Int) + (e1 : Int) + (e2 : Int) + (m : Int), 0) := by
      have := Pk.getBytes_put (l ++ Pk.enc (Pk.zig x)) dl ml (by omega)
      rw [hlend] at this
      simp only [List.length_append, hlenl, Int.natCast_add, ← hE1, ← hE2] at this
      rw [← this]
      simp only [List.append_assoc]
    have HE1 := hide hE1
    have HE2 := hide hE2
    have HG1 := hide hG1
    have HG2 := hide hG2
    rw [← hE1] at hl1
    rw [← hE2] at hl2
    clear hG1 hG2 hlenl hlend hE1 hE2
    have hat : ((n : Int) + (e1 : Int) + (e2 : Int) + (m : Int) == (n : Int) + (e1 : Int) + (e2 : Int) + (m : Int) + (k : Int) - (k : Int)) = true := by simp
    have hown0 := World.ownsRow_nil
    go_enter Try.func5, Try.ntmps5
    go_wp2_with fail
    refine (sane_any _).mono ?_
    rintro e w1 ⟨rfl, hb1⟩
    have hr1 := (hr.below hb1).mono hb1.size
    have hd1' := (hd.below hb1).mono hb1.size
    have he1 := (he.below hb1).mono hb1.size
    clear hr hd he
    go_wp2_with fail
    refine (putInt_any A n c l x _ h1 h2 hr1 (by omega)).mono ?_
    rintro e w2 ⟨A2, n2, c2, rfl, hn2, hown2, hb2⟩
    rw [← HE1.out] at hn2
    subst hn2
    go_wp2_with fail
    refine (putBytes_any A2 D (n + e1) c2 m d (l ++ Pk.enc (Pk.zig x)) dl _ (Bytes.of_own hown2) ((hd1'.below hb2).mono hb2.size) (by omega) (by omega)).mono ?_
    rintro e w3 ⟨A3, n3, c3, rfl, hn3, hown3, hb3⟩
    rw [← HE2.out] at hn3
    subst hn3
    have hl13 : Below w1.heap.size w1 w3 := Later.trans hb2 hb3
    have hnil := World.ownsRow_nil w3 w3.heap.size 5 1
    go_wp2_with (first
      | (at_builtin; refine wpList_append_rd rfl (.const (.slice none 0 0)) (.tmp 34) _ rfl byteTy rfl hnil rfl (Row.of_own hown3) (bv_one _) (by unfold maxLen; omega) (by omega) (Nat.le_refl _) ?_; intro A4 c4 w4 hown4 hgrow4 hat4; have hb4 := below_own (Below.refl _ _) hnil hgrow4 (Nat.le_refl _); simp only [Nat.zero_add, List.nil_append] at hown4)
      | (at_builtin; refine wpList_append_rd rfl (.tmp 35) (.tmp 36) _ rfl byteTy rfl hown4 rfl ((he1.below hl13).belowLe hb4 hl13.size).row (bv_one _) (by unfold maxLen; omega) (by omega) hb4.size ?_; intro A5 c5 w5 hown5 hgrow5 hat5; have hb5 := below_own hb4 hown4 hgrow5 hb4.size))
    rw [← bv_append] at hown5
    have hX := Bytes.of_own hown5
    have hl15 : Below w1.heap.size w1 w5 := Later.trans hl13 hb5
    refine (getInt_is HG1.out hX (by omega) (by omega) (by omega)).mono ?_
    rintro e w' ⟨rfl, rfl⟩
    go_wp2_with fail
    refine (getBytes_is HG2.out hX (own_cap hown5) (own_max hown5) (by omega) (by omega) (by omega)).mono ?_
    rintro e w6 ⟨R, rn, rc, rfl, hR, hl6⟩
    have hl16 : Below w1.heap.size w1 w6 := Later.trans hl15 hl6
    have hcx := string_conv w6 (c := rc) hR
    have hcy := string_conv w6 (c := d) (hd1'.below hl16)
    go_wp2_with fail
    go_ret
    exact ⟨rfl, hb1.trans (Below.mono hl16 hb1.size)⟩
end Go.Proofs.Ytgjomhcnncdfkaa
