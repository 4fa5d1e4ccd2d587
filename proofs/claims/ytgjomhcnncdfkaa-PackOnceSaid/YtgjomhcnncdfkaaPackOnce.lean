/- PackOnce: every number has one form only: what is read has the bytes that are put for it, and no beginning of them is a number. No condition. -/
import Derived.Test.YtgjomhcnncdfkaaPackBack
namespace Go.Proofs.Ytgjomhcnncdfkaa
open Go.RowKit

namespace Pk
theorem getInt_take (l : List UInt8) (m t : Int) (h : getInt l 0 = (m, t, 0)) : 0 < t ∧ t ≤ l.length ∧ enc (zig m) = l.take t.toNat ∧ -9223372036854775808 ≤ m ∧ m ≤ 9223372036854775807 := by
  unfold getInt at h
  rw [if_neg (by simp)] at h
  cases hd : dec 0 0 (l.drop (0 : Int).toNat) with
  | inl e =>
    rw [hd] at h
    simp only [res, Prod.mk.injEq] at h
    have he : ∀ (l : List UInt8) (k acc : Nat), dec k acc l = .inl e → e = 4 ∨ e = 5 := by
      intro l
      induction l with
      | nil => intro k acc h; simp only [dec, Sum.inl.injEq] at h; omega
      | cons c r ih =>
        intro k acc h
        rw [dec_cons] at h
        split at h
        · simp only [Sum.inl.injEq] at h; omega
        · split at h
          · exact ih _ _ h
          · split at h
            · simp only [Sum.inl.injEq] at h; omega
            · cases h
    have := he _ _ _ hd
    omega
  | inr r =>
    obtain ⟨n, k⟩ := r
    rw [hd] at h
    simp only [res, Prod.mk.injEq] at h
    obtain ⟨rfl, rfl, -⟩ := h
    obtain ⟨u, h1, h2, h3, h4, -, h6⟩ := enc_dec _ _ _ _ _ hd (by simp)
    have hp := enc_pos u
    have hu := h6 (by omega)
    simp only [Int.toNat_zero, List.drop_zero, Nat.zero_add, Nat.pow_zero, Nat.mul_one] at h1 h2 h3 h4 hu
    subst h1 h2
    rw [zig_unzig]
    refine ⟨by omega, by omega, by rw [← h4]; simp, ?_, ?_⟩
    · unfold unzig; split <;> omega
    · unfold unzig; split <;> omega

theorem getInt_short (n : Int) (j : Nat) (h1 : -9223372036854775808 ≤ n) (h2 : n ≤ 9223372036854775807) (hj : j < (enc (zig n)).length) : getInt ((enc (zig n)).take j) 0 = (0, 0, 4) := by
  unfold getInt
  rw [if_neg (by simp)]
  have := dec_short (zig n) 0 0 j (by omega) (by have := zig_lt h1 h2; omega) (by omega) hj
  simp only [Int.toNat_zero, List.drop_zero, this, res]
  rfl
end Pk

theorem Bytes.take_ {w : World} {B n : Nat} {A : Option Addr} {l : List UInt8} (h : Bytes w B A n l) (hA : 0 < n) {k : Nat} (hk : k ≤ n) : Bytes w B A k (l.take k) := by
  refine ⟨by rw [List.length_take, h.len]; omega, by rw [bv_length, List.length_take, h.len]; omega, fun hn => absurd (h.row.2.1 hn) (by omega), ?_⟩
  have := h.row.rd.take_ k
  simpa only [bv, List.map_take] using this

set_option maxRecDepth 100000 in
set_option maxHeartbeats 1000000 in
theorem packOnce_any (A : Option Addr) (n c : Nat) (l : List UInt8) (x y : Int) (w : World) (h1 : -9223372036854775808 ≤ x) (h2 : x ≤ 9223372036854775807) (hy : 0 ≤ y) (hy' : y < 256)
    (hr : Bytes w w.heap.size A n l) (hc : n ≤ c) (_hcm : c ≤ 9223372036854775807) :
    Calls Try.prog 6 #[.slice A n c, .int .i64 x, .int .u8 y] w fun e w' => e = .returned (.bool true) ∧ Below w.heap.size w w' := by
  rcases (show 100 < n ∨ n ≤ 100 by omega) with h | h
  · have hd1 : decide ((100 : Int) < (n : Int)) = true := by simp; omega
    go_enter Try.func6, Try.ntmps6
    go_wp2_with fail
    refine (sane_any _).mono ?_
    rintro e w1 ⟨rfl, hb1⟩
    go_wp2_with fail
    go_ret
    exact ⟨rfl, hb1⟩
  have hd1 : decide ((100 : Int) < (n : Int)) = false := by simp; omega
  obtain ⟨b, rfl⟩ := Int.eq_ofNat_of_zero_le hy
  have hz := Pk.zig_lt h1 h2
  have hl10 := Pk.enc_len10 hz
  have hl0 := Pk.enc_pos (Pk.zig x)
  have hG : Pk.getInt l 0 = Pk.getInt l 0 := rfl
  have hT := Pk.getInt_take l
  generalize hg : Pk.getInt l 0 = g at hG hT
  obtain ⟨m, t, er⟩ := g
  have Hg := hide hg
  clear hg hG
  by_cases he : er = 0
  · subst he
    obtain ⟨ht0, htn, htk, hmr⟩ := hT m t rfl
    rw [hr.len] at htn
    have Htk := hide htk
    clear htk hT
    obtain ⟨k, rfl⟩ := Int.eq_ofNat_of_zero_le (show 0 ≤ t by omega)
    rw [Int.toNat_natCast] at Htk
    have hkc : k ≤ c := by omega
    have hnk : decide (n < k) = false := by simp; omega
    go_enter Try.func6, Try.ntmps6
    go_wp2_with fail
    refine (sane_any _).mono ?_
    rintro e w1 ⟨rfl, hb1⟩
    have hr1 := (hr.below hb1).mono hb1.size
    go_wp2_with fail
    refine (getInt_is Hg.out hr1 (by omega) (by omega) (by omega)).mono ?_
    rintro e w' ⟨rfl, rfl⟩
    go_wp2_with fail
    have hst : StrOf w1.drew A k c (l.take k) := StrOf.of ((hr1.take_ (by omega) (by omega)).drew)
    refine region_G (by kernel_rfl) ?_
    refine take_ 0 rfl (by kernel_rfl) (fun _ _ _ h => h) (by rfl) (by intro w' hg; go_simp; try with_reducible rfl) ?_
    refine take_ 1 rfl (by kernel_rfl) (fun _ _ _ h => h) (by rfl) (by intro w' hg; go_simp; try with_reducible rfl) ?_
    refine take_ 2 rfl (by kernel_rfl) (fun _ _ _ h => h) (by rfl) (by intro w' hg; go_simp; try with_reducible rfl) ?_
    refine take_ 3 rfl (by kernel_rfl) (fun _ _ _ h => h) (by kernel_rfl) (by intro w' hg; go_simp; try with_reducible rfl) ?_
    refine take_ 4 rfl (by kernel_rfl) (fun _ _ _ h => h) (by kernel_rfl) (by intro w' hg; go_simp; try with_reducible rfl) ?_
    refine take_ 5 rfl (by kernel_rfl) (fun _ _ _ h => h) (by kernel_rfl) (by intro w' hg; go_simp; try with_reducible rfl) ?_
    refine take_ 6 rfl (by kernel_rfl) (fun _ _ _ h => h) (by kernel_rfl) (by intro w' hg; go_simp; try with_reducible rfl) ?_
    refine take_ 7 rfl (by kernel_rfl) (fun _ _ _ h => h) (by kernel_rfl) (by intro w' hg; go_simp; try with_reducible rfl) ?_
    refine take_ 8 rfl (by kernel_rfl) (fun _ _ _ h => h) (by kernel_rfl) (by intro w' hg; go_simp; try with_reducible rfl) ?_
    refine take_ 11 rfl (by kernel_rfl) (fun _ _ _ h => h) (by kernel_rfl) (by intro w' hg; go_simp; try with_reducible rfl) ?_
    refine take_ 12 rfl (by kernel_rfl) (fun _ _ _ h => h) (by kernel_rfl) (by intro w' hg; go_simp; try with_reducible rfl) ?_
    refine take_ 13 rfl (by kernel_rfl) (fun _ _ _ h => h) (by kernel_rfl) (by intro w' hg; go_simp; try with_reducible rfl) ?_
    refine take_ 14 rfl (by kernel_rfl) (fun _ _ _ h => h) (by kernel_rfl) (by intro w' hg; have hc3 := hst _ hg; go_simp; try with_reducible rfl) ?_
    refine only_ 9 rfl (by kernel_rfl) (by kernel_rfl) ?_
    intro K hK
    go_simp
    refine (putInt_later none 0 0 [] m _ hmr.1 hmr.2 w1.heap.size Bytes.nil (by exact Nat.le_refl _) (by omega)).mono ?_
    rintro e u2 ⟨A2, n2, c2, rfl, hs2, hl2⟩
    rw [List.nil_append, Htk.out] at hs2
    refine hK _ _ hl2 ?_
    clear hK K
    refine take_ 10 rfl (by kernel_rfl) (fun _ _ _ h => h) (by kernel_rfl) (by intro w' hg; have hc2 := hs2 _ hg; go_simp; try with_reducible rfl) ?_
    refine take_ 15 rfl (by kernel_rfl) (fun _ _ _ h => h) (by kernel_rfl) (by intro w' hg; go_simp; try with_reducible rfl) ?_
    refine take_ 16 rfl (by kernel_rfl) (fun _ _ _ h => h) (by kernel_rfl) (by intro w' hg; go_simp; try with_reducible rfl) ?_
    refine take_ 17 rfl (by kernel_rfl) (fun _ _ _ h => h) (by rfl) (by intro w' hg; go_simp; try with_reducible rfl) ?_
    refine done_ (by kernel_rfl) ?_
    go_simp
    go_wp2_with fail
    refine (putInt_any none 0 0 [] x _ h1 h2 Bytes.nil (by omega)).mono ?_
    rintro e w5 ⟨A5, n5, c5, rfl, hn5, hown5, hb5⟩
    have hX := Bytes.of_own hown5
    have hc5 := own_cap hown5
    have hm5 := own_max hown5
    rw [Nat.zero_add] at hn5
    rw [← hn5] at hl10 hl0
    have hdn : ((n5 : Int) == 0) = false := by simp; omega
    have hd10 : decide ((10 : Int) < (n5 : Int)) = false := by simp; omega
    have hmod : b % n5 < n5 := Nat.mod_lt _ hl0
    have hmc : b % n5 ≤ c5 := by omega
    have hX2 := hX.take_ hl0 (Nat.le_of_lt hmod)
    have Hsh := hide (Pk.getInt_short x (b % n5) h1 h2 (by omega))
    rw [List.nil_append] at hX2
    clear hn5 hown5
    go_wp2_with fail
    refine (getInt_is Hsh.out hX2 (by omega) (by omega) (by omega)).mono ?_
    rintro e w' ⟨rfl, rfl⟩
    go_wp2_with fail
    go_ret
    exact ⟨rfl, hb1.trans (Below.mono ((Below.refl _ _).drew.trans (Later.trans hl2 hb5)) hb1.size)⟩
  · have hne : (er == 0) = false := by simpa using he
    clear hT he
    go_enter Try.func6, Try.ntmps6
    go_wp2_with fail
    refine (sane_any _).mono ?_
    rintro e w1 ⟨rfl, hb1⟩
    have hr1 := (hr.below hb1).mono hb1.size
    go_wp2_with fail
    refine (getInt_is Hg.out hr1 (by omega) (by omega) (by omega)).mono ?_
    rintro e w' ⟨rfl, rfl⟩
    go_wp2_with fail
    refine region_G (by kernel_rfl) ?_
    refine take_ 0 rfl (by kernel_rfl) (fun _ _ _ h => h) (by rfl) (by intro w' hg; go_simp; try with_reducible rfl) ?_
    refine take_ 1 rfl (by kernel_rfl) (fun _ _ _ h => h) (by rfl) (by intro w' hg; go_simp; try with_reducible rfl) ?_
    refine take_ 2 rfl (by kernel_rfl) (fun _ _ _ h => h) (by rfl) (by intro w' hg; go_simp; try with_reducible rfl) ?_
    refine skip_ 3 rfl (by kernel_rfl) (fun _ _ _ h => h) (by kernel_rfl) ?_
    refine skip_ 4 rfl (by kernel_rfl) (fun _ _ _ h => h) (by kernel_rfl) ?_
    refine skip_ 5 rfl (by kernel_rfl) (fun _ _ _ h => h) (by kernel_rfl) ?_
    refine skip_ 6 rfl (by kernel_rfl) (fun _ _ _ h => h) (by kernel_rfl) ?_
    refine skip_ 7 rfl (by kernel_rfl) (fun _ _ _ h => h) (by kernel_rfl) ?_
    refine skip_ 8 rfl (by kernel_rfl) (fun _ _ _ h => h) (by kernel_rfl) ?_
    refine skip_ 9 rfl (by kernel_rfl) (fun _ _ _ h => h) (by kernel_rfl) ?_
    refine skip_ 10 rfl (by kernel_rfl) (fun _ _ _ h => h) (by kernel_rfl) ?_
    refine skip_ 11 rfl (by kernel_rfl) (fun _ _ _ h => h) (by kernel_rfl) ?_
    refine skip_ 12 rfl (by kernel_rfl) (fun _ _ _ h => h) (by kernel_rfl) ?_
    refine skip_ 13 rfl (by kernel_rfl) (fun _ _ _ h => h) (by kernel_rfl) ?_
    refine skip_ 14 rfl (by kernel_rfl) (fun _ _ _ h => h) (by kernel_rfl) ?_
    refine skip_ 15 rfl (by kernel_rfl) (fun _ _ _ h => h) (by kernel_rfl) ?_
    refine skip_ 16 rfl (by kernel_rfl) (fun _ _ _ h => h) (by kernel_rfl) ?_
    refine take_ 17 rfl (by kernel_rfl) (fun _ _ _ h => h) (by rfl) (by intro w' hg; go_simp; try with_reducible rfl) ?_
    refine done_ (by kernel_rfl) ?_
    go_simp
    go_wp2_with fail
    refine (putInt_any none 0 0 [] x _ h1 h2 Bytes.nil (by omega)).mono ?_
    rintro e w5 ⟨A5, n5, c5, rfl, hn5, hown5, hb5⟩
    have hX := Bytes.of_own hown5
    have hc5 := own_cap hown5
    have hm5 := own_max hown5
    rw [Nat.zero_add] at hn5
    rw [← hn5] at hl10 hl0
    have hdn : ((n5 : Int) == 0) = false := by simp; omega
    have hd10 : decide ((10 : Int) < (n5 : Int)) = false := by simp; omega
    have hmod : b % n5 < n5 := Nat.mod_lt _ hl0
    have hmc : b % n5 ≤ c5 := by omega
    have hX2 := hX.take_ hl0 (Nat.le_of_lt hmod)
    have Hsh := hide (Pk.getInt_short x (b % n5) h1 h2 (by omega))
    rw [List.nil_append] at hX2
    clear hn5 hown5
    go_wp2_with fail
    refine (getInt_is Hsh.out hX2 (by omega) (by omega) (by omega)).mono ?_
    rintro e w' ⟨rfl, rfl⟩
    go_wp2_with fail
    go_ret
    exact ⟨rfl, hb1.trans (Below.mono ((Below.refl _ _).drew.trans hb5) hb1.size)⟩
end Go.Proofs.Ytgjomhcnncdfkaa
