/- Layer 7, plain mathematics of address spaces. Nothing of the program. -/
import Derived.Test.YtdglcpepgodcpaaDoorAgg
namespace Go.Proofs.YtdglcpepgodcpaaDoor
open Go.RowKit
namespace Sp

/-- A page of an address space. -/
structure Ref where
  id : Int
  sh : Bool
deriving DecidableEq
/-- Two pages that cannot be in one address space. -/
def ex (p q : Ref) : Bool := (p.id == q.id) && !(p.sh && q.sh)
def Clean (l : List Ref) : Prop := (∀ p ∈ l, p.id ≠ 0) ∧ l.Pairwise fun q p => ex p q = false
def Ok (l : List Ref) : Prop := l.length ≤ 16 ∧ Clean l
instance (l : List Ref) : Decidable (Clean l) := by unfold Clean; infer_instance
instance (l : List Ref) : Decidable (Ok l) := by unfold Ok; infer_instance

theorem clean_nil : Clean [] := ⟨by simp, List.Pairwise.nil⟩
theorem clean_take {l : List Ref} (h : Clean l) (k : Nat) : Clean (l.take k) := ⟨fun p hp => h.1 p (List.mem_of_mem_take hp), h.2.sublist (List.take_sublist k l)⟩
theorem clean_append {a b : List Ref} : Clean (a ++ b) ↔ Clean a ∧ Clean b ∧ ∀ q ∈ a, ∀ p ∈ b, ex p q = false := by
  unfold Clean
  rw [List.pairwise_append]
  constructor
  · rintro ⟨h1, h2, h3, h4⟩
    exact ⟨⟨fun p hp => h1 p (by simp [hp]), h2⟩, ⟨fun p hp => h1 p (by simp [hp]), h3⟩, h4⟩
  · rintro ⟨⟨h1, h2⟩, ⟨h3, h4⟩, h5⟩
    exact ⟨fun p hp => (List.mem_append.1 hp).elim (h1 p) (h3 p), h2, h4, h5⟩
theorem clean_one {p : Ref} : Clean [p] ↔ p.id ≠ 0 := by simp [Clean]
theorem clean_snoc {a : List Ref} {p : Ref} : Clean (a ++ [p]) ↔ Clean a ∧ p.id ≠ 0 ∧ ∀ q ∈ a, ex p q = false := by
  rw [clean_append, clean_one]; simp
theorem clean_step {l : List Ref} {k : Nat} (hk : k < l.length) (h : Clean (l.take k)) (h0 : l[k].id ≠ 0) (hx : ∀ q ∈ l.take k, ex l[k] q = false) : Clean (l.take (k + 1)) := by
  rw [List.take_succ_eq_append_getElem hk]
  exact clean_snoc.2 ⟨h, h0, hx⟩
theorem not_zero {l : List Ref} {k : Nat} (hk : k < l.length) (h0 : l[k].id = 0) : ¬ Clean l := fun h => h.1 _ (List.getElem_mem hk) h0
theorem not_ex {l : List Ref} {k j : Nat} (hk : k < l.length) (hj : j < k) (hx : ex l[k] (l[j]'(by omega)) = true) : ¬ Clean l := fun h => by
  have := List.pairwise_iff_getElem.1 h.2 j k (by omega) hk hj
  rw [hx] at this
  cases this
theorem clean_all {l : List Ref} {n : Nat} (hn : l.length = n) (h : Clean (l.take n)) : Clean l := by rwa [List.take_of_length_le (by omega)] at h

/-- The place of an address: which error. -/
def find (l : List Ref) (a : Int) : Int × Int × Int :=
  if Ok l then (if 0 ≤ a ∧ a < 16 * (l.length : Int) then ((l.getD (a / 16).toNat ⟨0, false⟩).id, a % 16, 0) else (0, 0, 11)) else (0, 0, 1)
def shared (ids : List Int) : List Ref := ids.map fun i => ⟨i, true⟩
def priv (l : List Ref) : List Int := (l.filter fun p => !p.sh).map (·.id)
def private_ (l : List Ref) : List Int := if Ok l then priv l else []
/-- Other identifiers for the private pages. -/
def swap : List Ref → List Int → List Ref
  | [], _ => []
  | p :: l, ids => if p.sh then p :: swap l ids else ⟨ids.headD 0, false⟩ :: swap l ids.tail
theorem shared_length (ids : List Int) : (shared ids).length = ids.length := by simp [shared]
theorem priv_length_le (l : List Ref) : (priv l).length ≤ l.length := by
  unfold priv
  rw [List.length_map]
  exact List.length_filter_le _ _
theorem priv_snoc (l : List Ref) (p : Ref) : priv (l ++ [p]) = if p.sh then priv l else priv l ++ [p.id] := by
  unfold priv
  rw [List.filter_append]
  cases h : p.sh <;> simp [h]
theorem priv_take_le {l : List Ref} (k : Nat) : (priv (l.take k)).length ≤ (priv l).length := by
  unfold priv
  rw [List.length_map, List.length_map]
  exact (List.Sublist.filter _ (List.take_sublist k l)).length_le
theorem priv_take_lt {l : List Ref} {k : Nat} (hk : k < l.length) (h : l[k].sh = false) : (priv (l.take k)).length < (priv l).length := by
  have h1 := priv_take_le (l := l) (k + 1)
  rw [List.take_succ_eq_append_getElem hk, priv_snoc, h] at h1
  simp at h1
  omega
theorem swap_length (l : List Ref) (ids : List Int) : (swap l ids).length = l.length := by
  induction l generalizing ids with
  | nil => rfl
  | cons p l ih => unfold swap; split <;> simp [ih]
theorem swap_snoc (l : List Ref) (p : Ref) (ids : List Int) : swap (l ++ [p]) ids = swap l ids ++ [if p.sh then p else ⟨(ids.drop (priv l).length).headD 0, false⟩] := by
  induction l generalizing ids with
  | nil => cases h : p.sh <;> simp [swap, h, priv]
  | cons q l ih =>
    rw [List.cons_append]
    unfold swap
    cases hq : q.sh
    · simp only [Bool.false_eq_true, if_false]
      rw [ih, List.cons_append]
      congr 3
      have : (priv (q :: l)).length = (priv l).length + 1 := by simp [priv, hq]
      rw [this]
      cases ids with
      | nil => simp
      | cons i ids => rw [List.tail_cons, List.drop_succ_cons]
    · simp only [if_true]
      rw [ih, List.cons_append]
      have : priv (q :: l) = priv l := by simp [priv, hq]
      rw [this]
theorem swap_take {l : List Ref} {k : Nat} (hk : k < l.length) (ids : List Int) : swap (l.take (k + 1)) ids = swap (l.take k) ids ++ [if l[k].sh then l[k] else ⟨(ids.drop (priv (l.take k)).length).headD 0, false⟩] := by
  rw [List.take_succ_eq_append_getElem hk, swap_snoc]
theorem swap_getElem (l : List Ref) (ids : List Int) {k : Nat} (hk : k < l.length) : ((swap l ids)[k]'(by rw [swap_length]; exact hk)).sh = l[k].sh ∧ (l[k].sh = true → (swap l ids)[k]'(by rw [swap_length]; exact hk) = l[k]) := by
  induction l generalizing ids k with
  | nil => simp at hk
  | cons p l ih =>
    rcases k with _ | k
    · cases h : p.sh <;> simp [swap, h]
    · cases h : p.sh
      · simp only [swap, h, Bool.false_eq_true, if_false, List.getElem_cons_succ]
        exact ih _ (by simpa using hk)
      · simp only [swap, h, if_true, List.getElem_cons_succ]
        exact ih _ (by simpa using hk)

/-- What attaching answers: the pages, the address, the error. -/
def attach (l : List Ref) (ids : List Int) : List Ref × Int × Int :=
  if Ok l then (if ids.length = 0 then ([], 0, 2) else if 16 < l.length + ids.length then ([], 0, 3) else if Ok (l ++ shared ids) then (l ++ shared ids, 16 * (l.length : Int), 0) else ([], 0, 1)) else ([], 0, 1)
def replace (l : List Ref) (ids : List Int) : List Ref × Int :=
  if Ok l then (if ids.length = (priv l).length then (if Ok (swap l ids) then (swap l ids, 0) else ([], 1)) else ([], 2)) else ([], 1)
end Sp
end Go.Proofs.YtdglcpepgodcpaaDoor
