/- The plain mathematics of layer 1: zigzag numbers in groups of seven bits; nothing of the program. -/
import Init
namespace Go.Proofs.Ytgjomhcnncdfkaa
namespace Pk

def zig (n : Int) : Nat := if n < 0 then (-2 * n - 1).toNat else (2 * n).toNat
def unzig (u : Nat) : Int := if u % 2 = 1 then -((u / 2 : Nat) : Int) - 1 else ((u / 2 : Nat) : Int)

theorem unzig_zig (n : Int) : unzig (zig n) = n := by
  unfold unzig zig
  split <;> split <;> omega
theorem zig_unzig (u : Nat) : zig (unzig u) = u := by
  unfold unzig zig
  split <;> split <;> omega

def enc (u : Nat) : List UInt8 := if u < 128 then [UInt8.ofNat u] else UInt8.ofNat (u % 128 + 128) :: enc (u / 128)
termination_by u
decreasing_by omega

theorem enc_small {u : Nat} (h : u < 128) : enc u = [UInt8.ofNat u] := by rw [enc]; simp [h]
theorem enc_big {u : Nat} (h : ¬ u < 128) : enc u = UInt8.ofNat (u % 128 + 128) :: enc (u / 128) := by rw [enc]; simp [h]

theorem enc_len_le (k : Nat) : ∀ u, u < 128 ^ k * 128 → (enc u).length ≤ k + 1 := by
  induction k with
  | zero => intro u h; rw [enc_small (by omega)]; simp
  | succ k ih =>
    intro u h
    by_cases hu : u < 128
    · rw [enc_small hu]; simp
    · rw [enc_big hu]
      have := ih (u / 128) (by rw [Nat.pow_succ] at h; omega)
      simp; omega
theorem enc_len10 {u : Nat} (h : u < 18446744073709551616) : (enc u).length ≤ 10 := enc_len_le 9 u (by omega)
theorem enc_pos (u : Nat) : 0 < (enc u).length := by
  by_cases h : u < 128
  · rw [enc_small h]; simp
  · rw [enc_big h]; simp
theorem enc_mono : ∀ (v u : Nat), u ≤ v → (enc u).length ≤ (enc v).length := by
  intro v
  induction v using Nat.strongRecOn with
  | _ v ih =>
    intro u h
    by_cases hu : u < 128
    · rw [enc_small hu]; have := enc_pos v; simp only [List.length_singleton]; omega
    · rw [enc_big hu, enc_big (u := v) (by omega)]
      have := ih (v / 128) (by omega) (u / 128) (Nat.div_le_div_right h)
      simpa using this
theorem enc_one (u : Nat) : (enc u).length = 1 ↔ u < 128 := by
  by_cases h : u < 128
  · rw [enc_small h]; simp [h]
  · rw [enc_big h]
    have := enc_pos (u / 128)
    simp only [List.length_cons]
    omega

/-- What is read from bytes on: the k-th group comes next, 'acc' is what the groups before it make. Error: the number of the error, or the number and how many bytes it took. -/
def dec (k acc : Nat) : List UInt8 → Nat ⊕ (Int × Nat)
  | [] => .inl 4
  | c :: r =>
    if k = 9 ∧ 1 < c.toNat then .inl 5
    else if 128 ≤ c.toNat then dec (k + 1) (acc + c.toNat % 128 * 128 ^ k) r
    else if 0 < k ∧ c.toNat = 0 then .inl 5
    else .inr (unzig (acc + c.toNat % 128 * 128 ^ k), k + 1)

theorem toNat_ofNat {n : Nat} (h : n < 256) : (UInt8.ofNat n).toNat = n := by simp [UInt8.toNat_ofNat']; omega

theorem dec_enc : ∀ (u k acc : Nat) (rest : List UInt8), k ≤ 9 → (u * 128 ^ k < 18446744073709551616) → (0 < k → 0 < u) →
    dec k acc (enc u ++ rest) = .inr (unzig (acc + u * 128 ^ k), k + (enc u).length) := by
  intro u
  induction u using Nat.strongRecOn with
  | _ u ih =>
    intro k acc rest hk hb h0
    by_cases hu : u < 128
    · rw [enc_small hu]
      have e : (UInt8.ofNat u).toNat = u := toNat_ofNat (by omega)
      have h9 : ¬ (k = 9 ∧ 1 < u) := by
        rintro ⟨rfl, h⟩
        have : (2 : Nat) * 128 ^ 9 ≤ u * 128 ^ 9 := Nat.mul_le_mul_right _ h
        omega
      simp only [List.cons_append, List.nil_append, dec, e, if_neg h9]
      rw [if_neg (by omega), if_neg (by omega), Nat.mod_eq_of_lt hu]
      simp
    · rw [enc_big hu]
      have e : (UInt8.ofNat (u % 128 + 128)).toNat = u % 128 + 128 := toNat_ofNat (by omega)
      have hk9 : k ≠ 9 := by
        rintro rfl
        have : (128 : Nat) * 128 ^ 9 ≤ u * 128 ^ 9 := Nat.mul_le_mul_right _ (by omega)
        omega
      simp only [List.cons_append, dec, e]
      rw [if_neg (by omega), if_pos (by omega), ih (u / 128) (by omega) (k + 1) _ rest (by omega) ?_ (by omega)]
      · have h1 : (u % 128 + 128) % 128 = u % 128 := by omega
        rw [h1]
        have h2 : acc + u % 128 * 128 ^ k + u / 128 * 128 ^ (k + 1) = acc + u * 128 ^ k := by
          rw [Nat.pow_succ, Nat.mul_comm (128 ^ k) 128, ← Nat.mul_assoc, Nat.add_assoc, ← Nat.add_mul]
          congr 2; omega
        rw [h2]
        simp; omega
      · rw [Nat.pow_succ, Nat.mul_comm (128 ^ k) 128, ← Nat.mul_assoc]
        have : u / 128 * 128 * 128 ^ k ≤ u * 128 ^ k := Nat.mul_le_mul_right _ (by omega)
        omega

/-- What was read has the very bytes that are put for it. -/
theorem enc_dec : ∀ (l : List UInt8) (k acc : Nat) (n : Int) (t : Nat), dec k acc l = .inr (n, t) → acc < 128 ^ k →
    ∃ u, n = unzig (acc + u * 128 ^ k) ∧ t = k + (enc u).length ∧ (enc u).length ≤ l.length ∧ l.take (enc u).length = enc u ∧ (0 < k → 0 < u) ∧ (k ≤ 9 → u * 128 ^ k < 18446744073709551616) := by
  intro l
  induction l with
  | nil => intro k acc n t h; simp [dec] at h
  | cons c r ih =>
    intro k acc n t h ha
    rw [dec] at h
    split at h
    · cases h
    · rename_i h9
      split at h
      · rename_i hc
        have hlt := c.toNat_lt
        obtain ⟨u, h1, h2, h3, h4, h5, h6⟩ := ih (k + 1) _ n t h (by
          rw [Nat.pow_succ, Nat.mul_comm (128 ^ k) 128]
          have : c.toNat % 128 * 128 ^ k ≤ 127 * 128 ^ k := Nat.mul_le_mul_right _ (by omega)
          omega)
        have hu := h5 (by omega)
        have hd : (c.toNat % 128 + u * 128) / 128 = u := by omega
        have hm : (c.toNat % 128 + u * 128) % 128 + 128 = c.toNat := by omega
        have he : enc (c.toNat % 128 + u * 128) = c :: enc u := by
          rw [enc_big (by omega), hd, hm]
          simp
        refine ⟨c.toNat % 128 + u * 128, ?_, ?_, ?_, ?_, by omega, ?_⟩
        · rw [h1, Nat.pow_succ, Nat.mul_comm (128 ^ k) 128, ← Nat.mul_assoc, Nat.add_assoc, ← Nat.add_mul]
        · rw [he, h2]; simp; omega
        · rw [he]; simpa using h3
        · rw [he]; simpa using h4
        · intro hk
          have hk' : k + 1 ≤ 9 := by
            rcases Nat.lt_or_ge k 9 with h | h
            · omega
            · have : k = 9 := by omega
              subst this
              omega
          have h7 := h6 hk'
          have h8 : (c.toNat % 128 + u * 128) * 128 ^ k < (u + 1) * 128 ^ (k + 1) := by
            rw [Nat.pow_succ, Nat.mul_comm (128 ^ k) 128, ← Nat.mul_assoc]
            exact Nat.mul_lt_mul_of_pos_right (by omega) (Nat.pow_pos (by omega))
          have h9 : u * 128 ^ (k + 1) % 128 ^ (k + 1) = 0 := Nat.mul_mod_left _ _
          have h10 : (18446744073709551616 : Nat) % 128 ^ (k + 1) = 0 := by
            have : k = 0 ∨ k = 1 ∨ k = 2 ∨ k = 3 ∨ k = 4 ∨ k = 5 ∨ k = 6 ∨ k = 7 ∨ k = 8 := by omega
            rcases this with rfl | rfl | rfl | rfl | rfl | rfl | rfl | rfl | rfl <;> decide
          have hp : 0 < 128 ^ (k + 1) := Nat.pow_pos (by omega)
          obtain ⟨q, hq⟩ := Nat.dvd_of_mod_eq_zero h10
          rw [hq] at h7 ⊢
          have : u < q := by
            rw [Nat.mul_comm (128 ^ (k + 1)) q] at h7
            exact Nat.lt_of_mul_lt_mul_right h7
          have : (u + 1) * 128 ^ (k + 1) ≤ 128 ^ (k + 1) * q := by rw [Nat.mul_comm]; exact Nat.mul_le_mul_left _ this
          omega
      · rename_i hc
        split at h
        · cases h
        · rename_i h0
          have hlt := c.toNat_lt
          have he : enc c.toNat = [c] := by rw [enc_small (by omega)]; simp
          have hm : c.toNat % 128 = c.toNat := by omega
          simp only [Sum.inr.injEq, Prod.mk.injEq, hm] at h
          refine ⟨c.toNat, h.1.symm, ?_, ?_, ?_, by omega, ?_⟩
          · rw [he, ← h.2]; simp
          · rw [he]; simp
          · rw [he]; simp
          · intro hk
            have hp : 128 ^ k ≤ 128 ^ 9 := Nat.pow_le_pow_right (by omega) hk
            by_cases hk9 : k = 9
            · subst hk9
              have : c.toNat * 128 ^ 9 ≤ 1 * 128 ^ 9 := Nat.mul_le_mul_right _ (by omega)
              omega
            · have hp : 128 ^ k ≤ 128 ^ 8 := Nat.pow_le_pow_right (by omega) (by omega)
              have : c.toNat * 128 ^ k ≤ 127 * 128 ^ 8 := Nat.mul_le_mul (by omega) hp
              omega

/-- No beginning of a number is a number: something lacks. -/
theorem dec_short : ∀ (u k acc j : Nat), k ≤ 9 → (u * 128 ^ k < 18446744073709551616) → (0 < k → 0 < u) → j < (enc u).length → dec k acc ((enc u).take j) = .inl 4 := by
  intro u
  induction u using Nat.strongRecOn with
  | _ u ih =>
    intro k acc j hk hb h0 hj
    cases j with
    | zero => simp [dec]
    | succ j =>
      by_cases hu : u < 128
      · rw [enc_small hu] at hj; simp at hj
      · rw [enc_big hu] at hj ⊢
        have e : (UInt8.ofNat (u % 128 + 128)).toNat = u % 128 + 128 := toNat_ofNat (by omega)
        have hk9 : k ≠ 9 := by
          rintro rfl
          have : (128 : Nat) * 128 ^ 9 ≤ u * 128 ^ 9 := Nat.mul_le_mul_right _ (by omega)
          omega
        simp only [List.take_succ_cons, dec, e]
        rw [if_neg (by omega), if_pos (by omega)]
        refine ih (u / 128) (by omega) (k + 1) _ j (by omega) ?_ (by omega) (by simpa using hj)
        rw [Nat.pow_succ, Nat.mul_comm (128 ^ k) 128, ← Nat.mul_assoc]
        have : u / 128 * 128 * 128 ^ k ≤ u * 128 ^ k := Nat.mul_le_mul_right _ (by omega)
        omega

theorem zig_lt {n : Int} (h1 : -9223372036854775808 ≤ n) (h2 : n ≤ 9223372036854775807) : zig n < 18446744073709551616 := by
  unfold zig; split <;> omega
theorem zig_half (n : Int) : zig (n.tdiv 2) ≤ zig n := by
  unfold zig
  rcases (show n < 0 ∨ 0 ≤ n by omega) with h | h
  · obtain ⟨m, rfl⟩ : ∃ m : Nat, n = -(m : Int) := ⟨n.natAbs, by omega⟩
    have e : (m : Int).tdiv 2 = ((m / 2 : Nat) : Int) := by rw [Int.tdiv_eq_ediv_of_nonneg (by omega)]; omega
    rw [Int.neg_tdiv, e]
    (repeat' split) <;> omega
  · obtain ⟨m, rfl⟩ := Int.eq_ofNat_of_zero_le h
    have e : (m : Int).tdiv 2 = ((m / 2 : Nat) : Int) := by rw [Int.tdiv_eq_ediv_of_nonneg (by omega)]; omega
    rw [e]
    (repeat' split) <;> omega

/-- FNV-1a: one byte, and many. -/
def hstep (h : Nat) (c : UInt8) : Nat := (h ^^^ c.toNat) * 1099511628211 % 18446744073709551616
def hfrom : Nat → List UInt8 → Nat
  | h, [] => h
  | h, c :: r => hfrom (hstep h c) r
def hseed : Nat := 14695981039346656037
def hash (l : List UInt8) : Nat := hfrom hseed l
theorem hfrom_append : ∀ (a b : List UInt8) (h : Nat), hfrom h (a ++ b) = hfrom (hfrom h a) b
  | [], _, _ => by simp only [List.nil_append, hfrom]
  | c :: a, b, h => by simp only [List.cons_append, hfrom]; exact hfrom_append a b _
theorem hash_snoc (l : List UInt8) (c : UInt8) : hash (l ++ [c]) = hstep (hash l) c := by
  unfold hash; rw [hfrom_append]; simp only [hfrom]
theorem hstep_lt (h : Nat) (c : UInt8) : hstep h c < 18446744073709551616 := by
  unfold hstep; exact Nat.mod_lt _ (by omega)
theorem hfrom_lt : ∀ (l : List UInt8) (h : Nat), h < 18446744073709551616 → hfrom h l < 18446744073709551616
  | [], _, hh => by simpa only [hfrom] using hh
  | c :: l, h, _ => by simp only [hfrom]; exact hfrom_lt l _ (hstep_lt h c)
theorem hash_lt (l : List UInt8) : hash l < 18446744073709551616 := hfrom_lt l _ (by unfold hseed; omega)
end Pk
end Go.Proofs.Ytgjomhcnncdfkaa
