/- Layer 10, plain mathematics of tables. -/
import Derived.Test.YtdglcpepgodcpaaDoorTbMem
namespace Go.Proofs.YtdglcpepgodcpaaDoor
open Go.RowKit
namespace Tb
def Slot.Ok (s : Slot) : Prop := if s.kind = 0 then s = Slot.zero else 0 < s.kind ∧ s.kind ≤ 8 ∧ s.target ≠ 0 ∧ (s.desc ≠ 0 ↔ s.kind = 1) ∧ (s.fin = 0 ∨ s.fin = 1 ∧ s.kind = 4)
instance (s : Slot) : Decidable s.Ok := by unfold Slot.Ok; infer_instance
theorem Slot.zero_ok : Slot.zero.Ok := by decide
def one : Slot := ⟨7, 0, 1, 0⟩
def lastOf (t : List Slot) : Slot := t.getD (t.length - 1) one
def Valid (t : List Slot) : Prop := t.length ≤ 16 ∧ (∀ s ∈ t, s.Ok) ∧ (lastOf t).kind ≠ 0
instance (t : List Slot) : Decidable (Valid t) := by unfold Valid; infer_instance
theorem valid_nil : Valid [] := by decide
theorem lastOf_eq {t : List Slot} {n : Nat} (h : t.length = n) (h0 : 0 < n) : lastOf t = t[n - 1]'(by omega) := by
  subst h
  unfold lastOf
  rw [List.getD_eq_getElem?_getD, List.getElem?_eq_getElem (by omega)]
  rfl
theorem lastOf_snoc (t : List Slot) (s : Slot) : lastOf (t ++ [s]) = s := by simp [lastOf]

/-- The first place that is free. -/
def free (t : List Slot) : Nat := t.findIdx fun s => s.kind == 0
theorem free_le (t : List Slot) : free t ≤ t.length := List.findIdx_le_length
theorem free_eq {t : List Slot} {k : Nat} (hk : k < t.length) (h0 : t[k].kind = 0) (h : ∀ j (hj : j < t.length), j < k → t[j].kind ≠ 0) : free t = k := by
  unfold free
  rw [List.findIdx_eq hk]
  exact ⟨by simpa using h0, fun j hj => by simpa using h j (by omega) hj⟩
theorem free_none {t : List Slot} (h : ∀ j (hj : j < t.length), t[j].kind ≠ 0) : free t = t.length := by
  unfold free
  rw [List.findIdx_eq_length]
  intro x hx
  obtain ⟨j, hj, rfl⟩ := List.getElem_of_mem hx
  simpa using h j hj
theorem free_kind {t : List Slot} (h : free t < t.length) : (t[free t]).kind = 0 := by
  have := List.findIdx_getElem (p := fun s : Slot => s.kind == 0) (xs := t) (w := h)
  exact beq_iff_eq.1 this
theorem free_before {t : List Slot} {j : Nat} (h : j < free t) : (t[j]'(by have := free_le t; omega)).kind ≠ 0 := by
  have := List.not_of_lt_findIdx (p := fun s : Slot => s.kind == 0) (xs := t) (i := j) h
  simpa using this

def putL (t : List Slot) (s : Slot) : List Slot := if free t < t.length then t.set (free t) s else t ++ [s]
/-- A table with one more slot, its place, the error. -/
def put (t : List Slot) (s : Slot) : List Slot × Int × Int :=
  if Valid t ∧ s.Ok ∧ s.kind ≠ 0 then (if free t < 16 then (putL t s, (free t : Int), 0) else ([], 0, 3)) else ([], 0, 1)
/-- The slot of a descriptor, the error. -/
def get (t : List Slot) (i : Int) : Slot × Int :=
  if 0 ≤ i ∧ i < (t.length : Int) ∧ (t.getD i.toNat Slot.zero).kind ≠ 0 then (t.getD i.toNat Slot.zero, 0) else (Slot.zero, 6)
def trim (t : List Slot) : List Slot := (t.reverse.dropWhile fun s => s.kind == 0).reverse
theorem trim_take {t : List Slot} {m : Nat} (hm : m ≤ t.length) (h : ∀ j (hj : j < t.length), m ≤ j → t[j].kind = 0) (hl : (lastOf (t.take m)).kind ≠ 0) : trim t = t.take m := by
  have e : t = t.take m ++ t.drop m := (List.take_append_drop m t).symm
  have hz : ∀ x ∈ (t.drop m).reverse, (x.kind == 0) = true := by
    intro x hx
    rw [List.mem_reverse] at hx
    obtain ⟨j, hj, rfl⟩ := List.getElem_of_mem hx
    rw [List.getElem_drop]
    simpa using h (m + j) (by rw [List.length_drop] at hj; omega) (by omega)
  unfold trim
  rw [show t.reverse = (t.drop m).reverse ++ (t.take m).reverse by rw [← List.reverse_append, ← e], List.dropWhile_append_of_pos hz]
  rcases Nat.eq_zero_or_pos m with h0 | h0
  · subst h0; simp
  · have hlen : (t.take m).length = m := by rw [List.length_take]; omega
    have hk := lastOf_eq hlen h0
    rw [hk] at hl
    obtain ⟨a, x, hax⟩ : ∃ a x, t.take m = a ++ [x] := ⟨_, _, (List.dropLast_concat_getLast (l := t.take m) (by intro hn; rw [hn] at hlen; simp at hlen; omega)).symm⟩
    have hx : x.kind ≠ 0 := by
      have : lastOf (t.take m) = x := by rw [hax, lastOf_snoc]
      rw [hk] at this
      rwa [this] at hl
    rw [hax, List.reverse_append]
    simp only [List.reverse_cons, List.reverse_nil, List.nil_append, List.singleton_append]
    rw [List.dropWhile_cons_of_neg (by simpa using hx)]
    simp
/-- A table without the slot of a descriptor, the error. -/
def clear (t : List Slot) (i : Int) : List Slot × Int :=
  if Valid t then (if (get t i).2 = 0 then (trim (t.set i.toNat Slot.zero), 0) else ([], (get t i).2)) else ([], 1)
/-- The holder of a slot: its identifier and its kind. -/
def holder (s : Slot) : Int × Int :=
  if s.Ok then (if s.kind = 1 then (s.desc, 4) else if s.kind = 2 ∨ s.kind = 3 then (s.target, 5) else if s.kind = 4 then (s.target, 7) else if s.kind = 5 then (s.target, 6) else (0, 0)) else (0, 0)
end Tb
end Go.Proofs.YtdglcpepgodcpaaDoor
