/- Layer 2, plain mathematics of decimal numbers. Nothing of the program. -/
import Derived.Lib.ParseIntB
import Derived.Lib.ItoaNum
import Derived.Lib.Strings
import Derived.Test.YtddbohnappogkaaStr
namespace Go.Proofs.Ytddbohnappogkaa
namespace Wd

def dig (c : UInt8) : Bool := decide (48 ≤ c.toNat) && decide (c.toNat ≤ 57)
theorem dig_iff {c : UInt8} : dig c = true ↔ 48 ≤ c.toNat ∧ c.toNat ≤ 57 := by simp [dig]
/-- What digits spell behind a number. -/
def valF (acc : Nat) : List UInt8 → Nat
  | [] => acc
  | c :: r => valF (acc * 10 + (c.toNat - 48)) r
def val (l : List UInt8) : Nat := valF 0 l
theorem valF_snoc (acc : Nat) (l : List UInt8) (c : UInt8) : valF acc (l ++ [c]) = valF acc l * 10 + (c.toNat - 48) := by
  induction l generalizing acc with
  | nil => rfl
  | cons d l ih => exact ih _
theorem val_snoc (l : List UInt8) (c : UInt8) : val (l ++ [c]) = val l * 10 + (c.toNat - 48) := valF_snoc 0 l c
theorem valF_ge (acc : Nat) (l : List UInt8) : acc ≤ valF acc l := by
  induction l generalizing acc with
  | nil => exact Nat.le_refl _
  | cons c l ih => have := ih (acc * 10 + (c.toNat - 48)); unfold valF; omega

/-- What is behind a sign. -/
def body (l : List UInt8) : List UInt8 := Lib.trimPrefix l [45]
def neg (l : List UInt8) : Bool := Lib.hasPrefix l [45]
theorem neg_cons (c : UInt8) (r : List UInt8) : neg (c :: r) = decide (c = 45) := by
  by_cases hc : c = 45
  · subst hc; rfl
  · have h1 : ((45 : UInt8) == c) = false := by simpa using fun e => hc e.symm
    show ((45 : UInt8) == c && _) = _
    rw [h1, decide_eq_false hc]; rfl
theorem neg_nil : neg [] = false := rfl
theorem body_neg {l : List UInt8} (h : neg l = true) : body l = l.drop 1 := by
  have h' : Lib.hasPrefix l [45] = true := h
  unfold body Lib.trimPrefix
  rw [if_pos h']; rfl
theorem body_pos {l : List UInt8} (h : neg l = false) : body l = l := by
  unfold body Lib.trimPrefix
  rw [if_neg (by unfold neg at h; simp [h])]
/-- The decimal form of a number, however great. -/
def isNum (l : List UInt8) : Bool := decide (l = [48]) || ((body l).all dig && (decide (body l ≠ []) && decide ((body l).head? ≠ some 48)))
/-- A number and an error. -/
def number (l : List UInt8) : Int × Nat :=
  if isNum l then (if neg l then (if val (body l) ≤ 9223372036854775808 then (-(val (body l) : Int), 0) else (0, 2)) else (if val (body l) < 9223372036854775808 then ((val (body l) : Int), 0) else (0, 2))) else (0, 5)

theorem isNum_zero : isNum [48] = true := by decide
theorem isNum_dig {l : List UInt8} (h : isNum l = true) : (body l).all dig = true ∧ body l ≠ [] := by
  unfold isNum at h
  simp only [Bool.or_eq_true, Bool.and_eq_true, decide_eq_true_eq] at h
  rcases h with h | ⟨h1, h2, _⟩
  · subst h; decide
  · exact ⟨h1, h2⟩

theorem parse_dig (l : List UInt8) (acc : Nat) (h : l.all dig = true) (hacc : acc ≤ 18446744073709551615) :
    Lib.parseUintM 18446744073709551615 acc l = if valF acc l ≤ 18446744073709551615 then .ok (valF acc l) else .range := by
  induction l generalizing acc with
  | nil => unfold Lib.parseUintM valF; rw [if_pos hacc]
  | cons c l ih =>
    simp only [List.all_cons, Bool.and_eq_true] at h
    have hc := dig_iff.1 h.1
    have hge := valF_ge (acc * 10 + (c.toNat - 48)) l
    unfold Lib.parseUintM valF
    rw [if_pos hc]
    by_cases h1 : 1844674407370955162 ≤ acc
    · rw [if_pos h1, if_neg (by omega)]
    · rw [if_neg h1]
      by_cases h2 : 18446744073709551615 < acc * 10 + (c.toNat - 48)
      · rw [if_pos h2, if_neg (by omega)]
      · rw [if_neg h2]
        exact ih _ h.2 (by omega)

theorem parse_num {l : List UInt8} (h : isNum l = true) :
    (if neg l then (if val (body l) ≤ 9223372036854775808 then Lib.parseIntB 64 l = .ok (-(val (body l) : Int)) else Lib.parseIntB 64 l = .range) else (if val (body l) < 9223372036854775808 then Lib.parseIntB 64 l = .ok (val (body l) : Int) else Lib.parseIntB 64 l = .range)) := by
  obtain ⟨h1, h2⟩ := isNum_dig h
  have key : ∀ d : List UInt8, d.all dig = true → d ≠ [] → Lib.parseUintB 64 d = if val d ≤ 18446744073709551615 then .ok (val d) else .range := by
    intro d hd hne
    unfold Lib.parseUintB
    rw [if_neg hne]
    exact parse_dig d 0 hd (by omega)
  rcases l with _ | ⟨c, r⟩
  · exact absurd rfl (show ([] : List UInt8) ≠ [] from h2)
  · by_cases hc : c = 45
    · subst hc
      have hn : neg (45 :: r) = true := by rw [neg_cons]; rfl
      have hb : body (45 :: r) = r := body_neg hn
      rw [hb] at h1 h2
      rw [if_pos hn, hb]
      have hp := key r h1 h2
      unfold Lib.parseIntB
      simp only [show ((45 : UInt8).toNat = 43 ∨ (45 : UInt8).toNat = 45) from .inr rfl, if_true, hp]
      by_cases hv : val r ≤ 9223372036854775808
      · rw [if_pos hv, if_pos (by omega)]
        have : ¬ 2 ^ (64 - 1) < val r := by omega
        simp [this]
      · rw [if_neg hv]
        by_cases hv2 : val r ≤ 18446744073709551615
        · rw [if_pos hv2]
          have : 2 ^ (64 - 1) < val r := by omega
          simp [this]
        · rw [if_neg hv2]
    · have hn : neg (c :: r) = false := by rw [neg_cons]; simpa using hc
      have hb : body (c :: r) = c :: r := body_pos hn
      rw [hb] at h1 h2
      rw [if_neg (by simp [hn]), hb]
      have hcd : dig c = true := by simp only [List.all_cons, Bool.and_eq_true] at h1; exact h1.1
      have hcd' := dig_iff.1 hcd
      have hp := key (c :: r) h1 h2
      unfold Lib.parseIntB
      have hno : ¬ (c.toNat = 43 ∨ c.toNat = 45) := by omega
      have h45 : ¬ c.toNat = 45 := by omega
      simp only [hno, if_false, hp]
      by_cases hv : val (c :: r) < 9223372036854775808
      · rw [if_pos hv, if_pos (by omega)]
        have : ¬ 2 ^ (64 - 1) ≤ val (c :: r) := by omega
        simp [this, h45]
      · rw [if_neg hv]
        by_cases hv2 : val (c :: r) ≤ 18446744073709551615
        · rw [if_pos hv2]
          have : 2 ^ (64 - 1) ≤ val (c :: r) := by omega
          simp [this, h45]
        · rw [if_neg hv2]

/-- How Number's answer follows from the parse. -/
theorem number_parse {l : List UInt8} (h : isNum l = true) : (∃ v, Lib.parseIntB 64 l = .ok v ∧ number l = (v, 0)) ∨ (Lib.parseIntB 64 l = .range ∧ number l = (0, 2)) := by
  have hp := parse_num h
  unfold number
  rw [if_pos h]
  by_cases hn : neg l = true
  · rw [if_pos hn] at hp ⊢
    by_cases hv : val (body l) ≤ 9223372036854775808
    · rw [if_pos hv] at hp ⊢; exact .inl ⟨_, hp, rfl⟩
    · rw [if_neg hv] at hp ⊢; exact .inr ⟨hp, rfl⟩
  · rw [if_neg hn] at hp ⊢
    by_cases hv : val (body l) < 9223372036854775808
    · rw [if_pos hv] at hp ⊢; exact .inl ⟨_, hp, rfl⟩
    · rw [if_neg hv] at hp ⊢; exact .inr ⟨hp, rfl⟩
theorem number_no {l : List UInt8} (h : isNum l = false) : number l = (0, 5) := by unfold number; rw [if_neg (by simp [h])]

/-- Digits come back. -/
theorem decDigits_spec (u : Nat) : (Lib.decDigits u).all dig = true ∧ val (Lib.decDigits u) = u ∧ Lib.decDigits u ≠ [] ∧ (u ≠ 0 → (Lib.decDigits u).head? ≠ some 48) := by
  induction u using Nat.strongRecOn with
  | _ u ih =>
    have hd : ∀ k, k < 10 → (UInt8.ofNat (48 + k)).toNat = 48 + k := fun k hk => by simp [UInt8.toNat_ofNat']; omega
    by_cases h : u < 10
    · rw [Lib.decDigits, dif_pos h]
      have hu := hd u h
      have hdg : dig (UInt8.ofNat (48 + u)) = true := by rw [dig_iff, hu]; omega
      have hvl : val [UInt8.ofNat (48 + u)] = u := by
        show 0 * 10 + ((UInt8.ofNat (48 + u)).toNat - 48) = u
        rw [hu]; omega
      refine ⟨by rw [List.all_cons, hdg]; rfl, hvl, by simp, fun h0 => ?_⟩
      simp only [List.head?_cons, ne_eq, Option.some.injEq]
      intro e
      have := congrArg UInt8.toNat e
      rw [hu] at this
      have : (48 : UInt8).toNat = 48 := rfl
      omega
    · rw [Lib.decDigits, dif_neg h]
      obtain ⟨h1, h2, h3, h4⟩ := ih (u / 10) (by omega)
      have hu := hd (u % 10) (by omega)
      have hdg : dig (UInt8.ofNat (48 + u % 10)) = true := by rw [dig_iff, hu]; omega
      refine ⟨by rw [List.all_append, h1, List.all_cons, hdg]; rfl, by rw [val_snoc, h2, hu]; omega, by simp, fun _ => ?_⟩
      have h4' := h4 (by omega)
      cases hl : Lib.decDigits (u / 10) with
      | nil => exact absurd hl h3
      | cons c r => rw [hl] at h4'; exact h4'
theorem number_itoa {n : Int} (h1 : -9223372036854775808 ≤ n) (h2 : n ≤ 9223372036854775807) : number (Lib.itoa n) = (n, 0) := by
  unfold Lib.itoa
  by_cases h : n < 0
  · rw [if_pos h]
    obtain ⟨e1, e2, e3, e4⟩ := decDigits_spec n.natAbs
    have hn : neg (45 :: Lib.decDigits n.natAbs) = true := by rw [neg_cons]; rfl
    have hb : body (45 :: Lib.decDigits n.natAbs) = Lib.decDigits n.natAbs := body_neg hn
    have hi : isNum (45 :: Lib.decDigits n.natAbs) = true := by
      unfold isNum
      rw [hb, e1]
      simp [e3, e4 (by omega)]
    unfold number
    rw [if_pos hi, if_pos hn, hb, e2, if_pos (by omega)]
    simp only [Prod.mk.injEq, and_true]
    omega
  · rw [if_neg h]
    obtain ⟨e1, e2, e3, e4⟩ := decDigits_spec n.toNat
    have hn : neg (Lib.decDigits n.toNat) = false := by
      cases hd : Lib.decDigits n.toNat with
      | nil => rfl
      | cons c r =>
        rw [neg_cons]
        rw [hd] at e1
        simp only [List.all_cons, Bool.and_eq_true] at e1
        have := dig_iff.1 e1.1
        have hc : c ≠ 45 := by rintro rfl; revert this; decide
        simpa using hc
    have hb : body (Lib.decDigits n.toNat) = Lib.decDigits n.toNat := body_pos hn
    have hi : isNum (Lib.decDigits n.toNat) = true := by
      by_cases h0 : n.toNat = 0
      · rw [h0]
        have : Lib.decDigits 0 = [48] := by rw [Lib.decDigits, dif_pos (by omega)]; rfl
        rw [this]; exact isNum_zero
      · unfold isNum
        rw [hb, e1]
        simp [e3, e4 h0]
    unfold number
    rw [if_pos hi, if_neg (by simp [hn]), hb, e2, if_pos (by omega)]
    simp only [Prod.mk.injEq, and_true]
    omega
theorem dec_le : ∀ (k u : Nat), u < 10 ^ (k + 1) → (Lib.decDigits u).length ≤ k + 1 := by
  intro k
  induction k with
  | zero => intro u hu; rw [Lib.decDigits, dif_pos (by simpa using hu)]; simp
  | succ k ih =>
    intro u hu
    by_cases h : u < 10
    · rw [Lib.decDigits, dif_pos h]; simp
    · rw [Lib.decDigits, dif_neg h, List.length_append, List.length_singleton]
      have := ih (u / 10) (by rw [Nat.pow_succ] at hu; omega)
      omega
theorem itoa_le {n : Int} (h1 : -9223372036854775808 ≤ n) (h2 : n ≤ 9223372036854775807) : (Lib.itoa n).length ≤ 30 := by
  unfold Lib.itoa
  split
  · have := dec_le 19 n.natAbs (by omega)
    simp only [List.length_cons]; omega
  · have := dec_le 19 n.toNat (by omega)
    omega
/-- A digit more in front. -/
theorem dec_step (u : Nat) : (u / 10 = 0 → Lib.decDigits u = [UInt8.ofNat (48 + u % 10)]) ∧ (u / 10 ≠ 0 → Lib.decDigits u = Lib.decDigits (u / 10) ++ [UInt8.ofNat (48 + u % 10)]) := by
  constructor
  · intro h
    rw [Lib.decDigits, dif_pos (by omega), show u % 10 = u by omega]
  · intro h
    rw [Lib.decDigits, dif_neg (by omega)]
theorem dig_nat (u : Nat) : (UInt8.ofNat (48 + u % 10)).toNat = 48 + u % 10 := by simp [UInt8.toNat_ofNat']; omega
end Wd
end Go.Proofs.Ytddbohnappogkaa
