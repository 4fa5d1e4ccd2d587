/- Layer 2: what the rows of this seat list of package-level variables, as the walks read it; a start that holds it. -/
import Derived.Test.YtabnokcejoaknaaDoorRows
import Derived.Test.YtabnokcejoaknaaDoorNum
import Derived.Deep.DeepHandedRow
import Derived.Deep.DeepWitnessRowRef
import Derived.Deep.Strs
import Derived.Lib.LaidTab
import Derived.LaidMore
import Derived.MakeChecks
import Derived.OpenShut
import Derived.ProofKit
import Derived.ChangeMaps5
namespace Go.Proofs.YtabnokcejoaknaaDoor
open Go.ChangeShapes Go.WideShapes Go.ChangeAt Go.RowKit

theorem cardOwn : ownKnob Tryd.prog.godebug = none := by kernel_rfl
theorem cardOut : laidOutB Tryd.prog = true := by kernel_rfl
theorem errStar : "*" ++ "errors.errorString" = "*errors.errorString" := by decide
theorem errRow (u : TypeId) (h : Tryd.prog.typeName? 3 u = some "*errors.errorString") : u = 96 :=
  typeName_ptr_named (nm := "errors.errorString") (by rw [errStar]; kernel_rfl) (by kernel_rfl) (by decide) u (by rw [errStar]; exact h)
theorem tabType : (Tryd.prog.globals[3]?).map (·.type) = some 89 := by kernel_rfl
theorem rangeType : (Tryd.prog.globals[2]?).map (·.type) = some 52 := by kernel_rfl
theorem tabCells : Tryd.prog.cellsOf 89 = 20 := by kernel_rfl
theorem u64Cells : Tryd.prog.cellsOf 55 = 1 := by kernel_rfl
theorem strCells1 : Tryd.prog.cellsOf 9 = 1 := by kernel_rfl
theorem errCells : Tryd.prog.cellsOf 98 = 1 := by kernel_rfl

theorem laid_of {W : World} (h : laidMetH Tryd.prog Rows.wordsSplitRow.laid W) : Laid W := by
  rw [MakeChecks.laidMetH_plain _ _ _ (by kernel_rfl)] at h
  have h3 := h.tail.tail
  refine ⟨?_, Lib.tabIs_of_head gTab tabType Tryd.underlying89 Tryd.underlying55 u64Cells tabCells h3⟩
  obtain ⟨a, s, hv, _⟩ := laid_sentinel h3.tail gRange rangeType Tryd.underlying52 errRow Tryd.underlying96 Tryd.underlying98 rfl rfl Tryd.underlying9 errCells strCells1
  exact ⟨_, _, hv⟩

/-- The heap that start-up leaves. -/
noncomputable def doorW (os : Os) : World := World.doorLaid Tryd.prog 62 os
theorem door_met (os : Os) (args : Array Value) : laidMet Tryd.prog Rows.wordsSplitRow.laid (((doorW os).forCall (fun _ _ => 0) ⟨#[], args, []⟩).memory) :=
  laidMet_of_run' 8 (by kernel_rfl) (by kernel_rfl)

/-- A slice of strings that came in. -/
theorem strs_came {H : Type} {enc : TypeId × Value → H} {W : World} {base : Nat} {sp : Nat → Bool} {held : Bool} {fuel : Nat} {A : Option Addr} {n c : Nat} {x : DataW H × List MemPlace}
    (h : DataW.trod enc Tryd.prog W base sp held fuel 23 [.slice A n c] = some x) : ∃ l, Strs W W.heap.size A n l ∧ n ≤ 9223372036854775807 ∧ ∀ y ∈ l, y.length ≤ 9223372036854775807 := by
  rcases Go.Deep.open_strs Tryd.underlying23 Tryd.underlying9 strCells1 h with ⟨hcs, _⟩ | ⟨a, len, cap, m, Sx, hcs, _, hl, hm, hmm, _, hx⟩
  · simp only [List.cons.injEq, Value.slice.injEq, and_true] at hcs
    obtain ⟨rfl, rfl, rfl⟩ := hcs
    exact ⟨[], Strs.nil, by omega, by simp⟩
  · simp only [List.cons.injEq, Value.slice.injEq, and_true] at hcs
    obtain ⟨rfl, rfl, rfl⟩ := hcs
    have hlm : n ≤ m := by rw [hmm]; split <;> omega
    unfold maxLen at hm
    refine ⟨(List.range n).map fun i => (Sx i).data.toList, ⟨by simp, by simp [sv], by simp, fun hne => ?_⟩, by omega, ?_⟩
    · have h0 : 0 < n := by
        rcases Nat.eq_zero_or_pos n with h0 | h0
        · subst h0; simp [sv] at hne
        · exact h0
      have hc0 := (hx 0 (by omega)).1
      obtain ⟨b, o, spot⟩ := a
      have hspot : spot = none := by simpa [Addr.add] using World.cell?_spot hc0
      subst hspot
      have hlt := World.block_lt_of_cell? W _ hc0
      rw [add_spot] at hlt
      refine ⟨b, o, rfl, hlt, fun j u hu => ?_⟩
      have hj : j < n := by
        have := (List.getElem?_eq_some_iff.1 hu).1
        simpa [sv] using this
      have := (hx j (by omega)).1
      rw [add_spot] at this
      rw [this]
      rw [sv, List.map_map, List.getElem?_map, List.getElem?_range hj] at hu
      simp only [Option.map_some, Function.comp, Option.some.injEq] at hu
      rw [← hu, Lib.mk_data]
    · intro y hy
      simp only [List.mem_map, List.mem_range] at hy
      obtain ⟨i, hi, rfl⟩ := hy
      have := (hx i (by omega)).2
      unfold maxLen at this
      rw [← Lib.size_eq]
      omega
end Go.Proofs.YtabnokcejoaknaaDoor
