/- A list of numbers without its first one. Nothing of the program. -/
import Derived.Test.YteaippnffmhhnaaAgg
namespace Go.Proofs.Yteaippnffmhhnaa
open Go.RowKit

theorem Nums.tail {k : IntKind} {w : World} {B b o n : Nat} {l : List Int} (h : Nums k w B (some ⟨b, o, none⟩) (n + 1) l) : Nums k w B (some ⟨b, o + 1, none⟩) n (l.drop 1) := by
  have hl := h.1
  refine ⟨by rw [List.length_drop]; omega, ⟨by rw [nv_length, List.length_drop]; omega, by simp, ?_⟩⟩
  have := h.2.rd.drop_ 1
  simpa [nv] using this
theorem Nums.next {k : IntKind} {w : World} {B b o n c : Nat} {l : List Int} (h : Nums k w B (some ⟨b, o, none⟩) (n + 1) l) (hc : n + 1 ≤ c) : Nums k w B (if c = 1 then some ⟨b, o, none⟩ else some ⟨b, o + 1, none⟩) n (l.drop 1) := by
  by_cases h1 : c = 1
  · have h0 : n = 0 := by omega
    subst h0
    have : l.drop 1 = [] := List.eq_nil_of_length_eq_zero (by rw [List.length_drop]; have := h.1; omega)
    rw [this]
    exact Nums.nil
  · rw [if_neg h1]
    exact h.tail
end Go.Proofs.Yteaippnffmhhnaa
