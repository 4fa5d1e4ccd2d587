/- Address spaces, identifiers that came in. -/
import Derived.Test.YtoppkgmgjahloaaSpMem
import Derived.Test.YtoppkgmgjahloaaCameB
namespace Go.Proofs.Ytoppkgmgjahloaa
open Go.ChangeShapes Go.WideShapes Go.ChangeAt Go.RowKit

theorem u64Cells : Try.prog.cellsOf 28 = 1 := by kernel_rfl
theorem boolCells : Try.prog.cellsOf 4 = 1 := by kernel_rfl
theorem refCells : Try.prog.cellsOf 44 = 2 := by kernel_rfl
/-- A slice of identifiers that came in. -/
theorem ids_came {H : Type} {enc : TypeId × Value → H} {W : World} {base : Nat} {sp : Nat → Bool} {held : Bool} {fuel : Nat} {A : Option Addr} {n c : Nat} {x : DataW H × List MemPlace}
    (h : DataW.trod enc Try.prog W base sp held fuel 34 [.slice A n c] = some x) : ∃ l, Nums .u64 W W.heap.size A n l ∧ (∀ v ∈ l, (Lit.int .u64 v).wf = true) ∧ n ≤ c ∧ c ≤ 9223372036854775807 := slice_came Try.underlying34 Try.underlying28 u64Cells h
/-- A page that came in. -/
theorem ref_came {H : Type} {enc : TypeId × Value → H} {W : World} {base : Nat} {sp : Nat → Bool} {held : Bool} {fuel : Nat} {cs : List Value} {x : DataW H × List MemPlace}
    (h : DataW.trod enc Try.prog W base sp held fuel 44 cs = some x) : ∃ y : Sp.Ref, (cs[0]? = some (.int .u64 y.id) ∧ cs[1]? = some (.bool y.sh)) ∧ (Lit.int .u64 y.id).wf = true := by
  obtain ⟨y0, y1, n, _, _, h0, h1⟩ := Go.ChangeShapes.trod_struct2 Try.underlying44 h
  obtain ⟨n0, e0, rfl, b0⟩ := DataW.trod_int Try.underlying28 h0
  obtain ⟨n1, e1, rfl⟩ := DataW.trod_bool Try.underlying4 h1
  have c0 := congrArg (·[0]?) e0
  have c1 := congrArg (·[0]?) e1
  simp only [u64Cells, boolCells, List.getElem?_take, List.getElem?_drop, List.getElem?_cons_zero, Nat.zero_lt_one, if_true] at c0 c1
  exact ⟨⟨n0, n1⟩, ⟨by simpa using c0, by simpa using c1⟩, b0⟩
/-- An address space that came in. -/
theorem refs_came {H : Type} {enc : TypeId × Value → H} {W : World} {base : Nat} {sp : Nat → Bool} {held : Bool} {fuel : Nat} {v : Value} {x : DataW H × List MemPlace}
    (h : DataW.trod enc Try.prog W base sp held fuel 22 [v] = some x) : ∃ A n c l, v = .slice A n c ∧ Refs W W.heap.size A n l ∧ (n ≤ c ∧ c ≤ 9223372036854775807) ∧ ∀ y ∈ l, (Lit.int .u64 y.id).wf = true := by
  rcases DataW.trod_slice Try.underlying22 h with ⟨hcs, _⟩ | ⟨a, len, cap, elems, rest, m, _, hcs, _, _, hl, hm, hlen, hel, _⟩
  · simp only [List.cons.injEq, and_true] at hcs
    exact ⟨none, 0, 0, [], hcs, Refs.nil, by omega, by simp⟩
  · simp only [List.cons.injEq, and_true] at hcs
    unfold maxLen at hm
    have each : ∀ i, i < len → ∃ y : Sp.Ref, (W.cell? ((a.add (i * 2)).add 0) = some (.int .u64 y.id) ∧ W.cell? ((a.add (i * 2)).add 1) = some (.bool y.sh)) ∧ (Lit.int .u64 y.id).wf = true := by
      intro i hi
      have he := hel i hi
      rw [refCells, List.getElem?_eq_getElem (by omega)] at he
      obtain ⟨cs, h1, h2⟩ := Option.bind_eq_some_iff.1 he
      obtain ⟨_, hl2, hcell⟩ := World.cells?_some h1
      obtain ⟨y, ⟨c0, c1⟩, hy⟩ := ref_came h2
      exact ⟨y, ⟨(hcell 0 (by omega)).trans c0, (hcell 1 (by omega)).trans c1⟩, hy⟩
    haveI : Inhabited Sp.Ref := ⟨⟨0, false⟩⟩
    obtain ⟨Y, hY⟩ := Go.Deep.choose_lt each
    refine ⟨some a, len, cap, (List.range len).map Y, hcs, ⟨by simp, by rw [rv_length]; simp, by simp, fun hne => ?_⟩, by omega, ?_⟩
    · have h0 : 0 < len := by
        rcases Nat.eq_zero_or_pos len with h0 | h0
        · subst h0; simp [rv] at hne
        · exact h0
      have hc0 := (hY 0 h0).1.1
      obtain ⟨b, o, spot⟩ := a
      have hspot : spot = none := by simpa [Addr.add] using World.cell?_spot hc0
      subst hspot
      have hlt := World.block_lt_of_cell? W _ hc0
      rw [add_spot, add_spot] at hlt
      refine ⟨b, o, rfl, hlt, fun j u hu => ?_⟩
      have hj : j < len * 2 := by
        have := (List.getElem?_eq_some_iff.1 hu).1
        rw [rv_length] at this
        simpa using this
      have hi : j / 2 < len := by omega
      have hil : j / 2 < ((List.range len).map Y).length := by simpa using hi
      obtain ⟨i0, i1⟩ := rv_at hil
      obtain ⟨⟨c0, c1⟩, _⟩ := hY (j / 2) hi
      rw [add_spot, add_spot] at c0 c1
      have hg : ((List.range len).map Y)[j / 2] = Y (j / 2) := by simp
      rw [hg] at i0 i1
      rcases (show j = j / 2 * 2 ∨ j = j / 2 * 2 + 1 by omega) with e | e
      · rw [e, i0] at hu
        rw [e, show o + j / 2 * 2 = o + j / 2 * 2 + 0 by omega]
        exact c0.trans hu
      · rw [e, i1] at hu
        rw [e, ← Nat.add_assoc]
        exact c1.trans hu
    · intro y hy
      simp only [List.mem_map, List.mem_range] at hy
      obtain ⟨i, hi, rfl⟩ := hy
      exact (hY i hi).2
theorem space_came {H : Type} {enc : TypeId × Value → H} {W : World} {base : Nat} {sp : Nat → Bool} {held : Bool} {fuel : Nat} {A : Option Addr} {n c : Nat} {x : DataW H × List MemPlace}
    (h : DataW.trod enc Try.prog W base sp held fuel 22 [.slice A n c] = some x) : ∃ l, Refs W W.heap.size A n l ∧ (∀ y ∈ l, (Lit.int .u64 y.id).wf = true) ∧ n ≤ c ∧ c ≤ 9223372036854775807 := by
  obtain ⟨A', n', c', l, e, h1, h2, h3⟩ := refs_came h
  cases e
  exact ⟨l, h1, h3, h2⟩
end Go.Proofs.Ytoppkgmgjahloaa
