/- Layer 14: signals: which can be pending, what raising one changes. Plain mathematics. -/
import Derived.Test.YthaolmcppfjedaaPrMem
namespace Go.Proofs.Ythaolmcppfjedaa
open Go.RowKit

/-- A signal's bit, and it set. -/
def sgBit (s : Int) : Int := wrap64 (2 ^ s.toNat)
def sgOr (p s : Int) : Int := bits .or .i64 p (sgBit s)
/-- The process after a signal. -/
def Ob.raise (o : Ob) (s : Int) : Ob := if s = 9 then (if o.state = 1 then { o with state := 2, status := -9 } else o) else { o with pending := sgOr o.pending s }
/-- The error of raising: 2: no signal; 6: neither alive nor dying. -/
def Ob.raiseErr (o : Ob) (s : Int) : Int := if 1 ≤ s ∧ s ≤ 31 then (if o.state = 1 ∨ o.state = 2 then 0 else 6) else 2
def Ob.taken (o : Ob) : Ob := { o with pending := 0 }
theorem AlikeP.raise {a b : Ob} (h : AlikeP a b) (s : Int) : AlikeP (a.raise s) (b.raise s) := by
  unfold Ob.raise
  rw [h.state, h.pending]
  by_cases h9 : s = 9
  · rw [if_pos h9, if_pos h9]
    by_cases h1 : b.state = 1
    · rw [if_pos h1, if_pos h1]; exact ⟨rfl, h.2, h.3, h.4, rfl, h.6, rfl⟩
    · rw [if_neg h1, if_neg h1]; exact h
  · rw [if_neg h9, if_neg h9]; exact ⟨rfl, h.2, h.3, h.4, rfl, h.6, h.7⟩
theorem AlikeP.taken {a b : Ob} (h : AlikeP a b) : AlikeP a.taken b.taken := ⟨h.1, h.2, h.3, h.4, rfl, h.6, h.7⟩
theorem AlikeP.raiseErr {a b : Ob} (h : AlikeP a b) (s : Int) : a.raiseErr s = b.raiseErr s := by unfold Ob.raiseErr; rw [h.state]
theorem HoldsP.raise {w : World} {B : Nat} {o : Ob} {X : Cont} (h : HoldsP w B o X) (s : Int) : HoldsP w B (o.raise s) X := by
  unfold Ob.raise
  split
  · split
    · exact ⟨h.1, h.2, h.3, h.4, h.5⟩
    · exact h
  · exact ⟨h.1, h.2, h.3, h.4, h.5⟩
theorem HoldsP.taken {w : World} {B : Nat} {o : Ob} {X : Cont} (h : HoldsP w B o X) : HoldsP w B o.taken X := ⟨h.1, h.2, h.3, h.4, h.5⟩
/-- Which signals can be pending, as the package says it, and as the reference does. -/
def sgValid (p : Int) : Prop := bits .andNot .i64 p 4294966782 = 0
instance (p : Int) : Decidable (sgValid p) := by unfold sgValid; infer_instance
theorem mask_bits : ∀ i : Fin 32, (4294966782 : Nat).testBit i.val = decide (i.val ≠ 0 ∧ i.val ≠ 9) := by decide
theorem wrap_zero {n : Nat} (h : n < 18446744073709551616) : IntKind.i64.wrap (n : Int) = 0 ↔ n = 0 := by rw [IntKind.wrap_i64]; omega
theorem sub_mask (N : Nat) : N &&& 4294966782 = N ↔ N < 4294967296 ∧ N % 2 = 0 ∧ N / 512 % 2 = 0 := by
  constructor
  · intro h
    have hle : N ≤ 4294966782 := by rw [← h]; exact Nat.and_le_right
    have b0 : N.testBit 0 = false := by rw [← h, Nat.testBit_and]; simp
    have b9 : N.testBit 9 = false := by rw [← h, Nat.testBit_and]; simp [show (4294966782 : Nat).testBit 9 = false by decide]
    refine ⟨by omega, ?_, ?_⟩
    · rw [Nat.testBit_zero] at b0; simpa using b0
    · rw [Nat.testBit_eq_decide_div_mod_eq] at b9; simpa using b9
  · rintro ⟨h1, h2, h3⟩
    apply Nat.eq_of_testBit_eq
    intro i
    rw [Nat.testBit_and]
    by_cases hi : i < 32
    · rw [mask_bits ⟨i, hi⟩]
      by_cases h0 : i = 0
      · subst h0; rw [Nat.testBit_zero]; simp [h2]
      · by_cases h9 : i = 9
        · subst h9; rw [Nat.testBit_eq_decide_div_mod_eq]; simp [h3]
        · simp [h0, h9]
    · rw [Nat.testBit_lt_two_pow (x := N) (i := i) (Nat.lt_of_lt_of_le h1 (Nat.pow_le_pow_right (n := 2) (by decide) (by omega : 32 ≤ i)))]; rfl
theorem bits_and1 (x : Int) : bits .and .i64 x 1 = x % 2 := by
  unfold bits
  have h : (BitVec.ofInt 64 x &&& BitVec.ofInt 64 1).toNat = (x % 2).toNat := by
    rw [BitVec.toNat_and, show (BitVec.ofInt 64 1).toNat = 1 from rfl, Nat.and_one_is_mod, BitVec.toNat_ofInt]
    omega
  show IntKind.i64.wrap ((BitVec.ofInt 64 x &&& BitVec.ofInt 64 1).toNat : Int) = _
  rw [h, IntKind.wrap_i64]
  omega
theorem sgValid_iff {p : Int} (h : -9223372036854775808 ≤ p ∧ p ≤ 9223372036854775807) : sgValid p ↔ 0 ≤ p ∧ p < 4294967296 ∧ bits .and .i64 p 1 = 0 ∧ bits .and .i64 (p / 512) 1 = 0 := by
  rw [bits_and1, bits_and1]
  unfold sgValid bits
  show IntKind.i64.wrap ((BitVec.ofInt 64 p &&& ~~~ BitVec.ofInt 64 4294966782).toNat : Int) = 0 ↔ _
  rw [wrap_zero (BitVec.isLt _)]
  have hN : (BitVec.ofInt 64 p).toNat = (p % 18446744073709551616).toNat := by rw [BitVec.toNat_ofInt]; rfl
  have key : (BitVec.ofInt 64 p &&& ~~~ BitVec.ofInt 64 4294966782).toNat = 0 ↔ (BitVec.ofInt 64 p).toNat &&& 4294966782 = (BitVec.ofInt 64 p).toNat := by
    generalize BitVec.ofInt 64 p = a
    have hc : (BitVec.ofInt 64 4294966782) = (4294966782#64) := by decide
    rw [hc]
    constructor
    · intro h0
      have hz : a &&& ~~~ 4294966782#64 = 0#64 := BitVec.eq_of_toNat_eq (by rw [h0]; rfl)
      have : a &&& 4294966782#64 = a := by
        apply BitVec.eq_of_getLsbD_eq
        intro i hi
        have := congrArg (fun v => v.getLsbD i) hz
        simp only [BitVec.getLsbD_and, BitVec.getLsbD_not, hi, decide_true, Bool.true_and, BitVec.getLsbD_zero] at this
        rw [BitVec.getLsbD_and]
        cases ha : a.getLsbD i <;> simp_all
      have := congrArg BitVec.toNat this
      rwa [BitVec.toNat_and] at this
    · intro h0
      have ha : a &&& 4294966782#64 = a := BitVec.eq_of_toNat_eq (by rw [BitVec.toNat_and]; exact h0)
      rw [← ha]
      have : a &&& 4294966782#64 &&& ~~~ 4294966782#64 = 0#64 := by
        rw [BitVec.and_assoc]; simp
      rw [this]; rfl
  rw [key, sub_mask, hN]
  omega
end Go.Proofs.Ythaolmcppfjedaa
