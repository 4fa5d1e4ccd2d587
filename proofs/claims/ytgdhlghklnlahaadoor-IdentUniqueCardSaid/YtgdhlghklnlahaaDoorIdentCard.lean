/- Layer 3: what the rows of this seat list of package-level variables, as the walks read it; a start that holds it. -/
import Derived.Test.YtgdhlghklnlahaaDoorRows
import Derived.Test.YtgdhlghklnlahaaDoorNum
import Derived.Deep.DeepHandedRow
import Derived.Deep.DeepWitnessRowRef
import Derived.Deep.Strs
import Derived.Lib.LaidTab
import Derived.Lib.SmallJoins
import Derived.LaidMore
import Derived.MakeChecks
import Derived.OpenShut
import Derived.ProofKit
import Derived.ChangeMaps5
namespace Go.Proofs.YtgdhlghklnlahaaDoor
open Go.ChangeShapes Go.WideShapes Go.ChangeAt Go.RowKit

theorem cardOwn : ownKnob Tryd.prog.godebug = none := by kernel_rfl
theorem cardOut : laidOutB Tryd.prog = true := by kernel_rfl
theorem errStar : "*" ++ "errors.errorString" = "*errors.errorString" := by decide
theorem errRow (u : TypeId) (h : Tryd.prog.typeName? 3 u = some "*errors.errorString") : u = 104 :=
  typeName_ptr_named (nm := "errors.errorString") (by rw [errStar]; kernel_rfl) (by kernel_rfl) (by decide) u (by rw [errStar]; exact h)
theorem tabType : (Tryd.prog.globals[1]?).map (·.type) = some 85 := by kernel_rfl
theorem rangeType : (Tryd.prog.globals[3]?).map (·.type) = some 71 := by kernel_rfl
theorem tabCells : Tryd.prog.cellsOf 85 = 20 := by kernel_rfl
theorem u64Cells : Tryd.prog.cellsOf 22 = 1 := by kernel_rfl
theorem u8Cells : Tryd.prog.cellsOf 5 = 1 := by kernel_rfl
theorem strCells1 : Tryd.prog.cellsOf 9 = 1 := by kernel_rfl
theorem errCells : Tryd.prog.cellsOf 106 = 1 := by kernel_rfl

theorem laid_of {W : World} (h : laidMetH Tryd.prog Rows.identPartsRow.laid W) : Laid W := by
  rw [MakeChecks.laidMetH_plain _ _ _ (by kernel_rfl)] at h
  have h3 := h.tail.tail
  refine ⟨?_, Lib.tabIs_of_head gTab tabType Tryd.underlying85 Tryd.underlying22 u64Cells tabCells h3⟩
  obtain ⟨a, s, hv, _⟩ := laid_sentinel h3.tail gRange rangeType Tryd.underlying71 errRow Tryd.underlying104 Tryd.underlying106 rfl rfl Tryd.underlying9 errCells strCells1
  exact ⟨_, _, hv⟩
theorem laid_ofT {W : World} (h : laidMetH Tryd.prog Rows.identGivesRow.laid W) : LaidT W := by
  rw [MakeChecks.laidMetH_plain _ _ _ (by kernel_rfl)] at h
  have h3 := h.tail.tail
  exact Lib.tabIs_of_head gTab tabType Tryd.underlying85 Tryd.underlying22 u64Cells tabCells h3

/-- The heap that start-up leaves. -/
noncomputable def doorW (os : Os) : World := World.doorLaid Tryd.prog 62 os
theorem door_met (os : Os) (args : Array Value) : laidMet Tryd.prog Rows.identPartsRow.laid (((doorW os).forCall (fun _ _ => 0) ⟨#[], args, []⟩).memory) :=
  laidMet_of_run' 8 (by kernel_rfl) (by kernel_rfl)
theorem door_metT (os : Os) (args : Array Value) : laidMet Tryd.prog Rows.identGivesRow.laid (((doorW os).forCall (fun _ _ => 0) ⟨#[], args, []⟩).memory) :=
  laidMet_of_run' 8 (by kernel_rfl) (by kernel_rfl)

/-- A slice of bytes that came in. -/
theorem bytes_came {H : Type} {enc : TypeId × Value → H} {W : World} {base : Nat} {sp : Nat → Bool} {held : Bool} {fuel : Nat} {A : Option Addr} {n c : Nat} {x : DataW H × List MemPlace}
    (h : DataW.trod enc Tryd.prog W base sp held fuel 44 [.slice A n c] = some x) : ∃ l, Bytes W W.heap.size A n l ∧ n ≤ 9223372036854775807 := by
  rcases Go.ChangeShapes.open_ints Tryd.underlying44 Tryd.underlying5 u8Cells h with ⟨hcs, _⟩ | ⟨a, len, cap, zs, hcs, _, hl, hm, hz, _, hcell, hwf⟩
  · simp only [List.cons.injEq, Value.slice.injEq, and_true] at hcs
    obtain ⟨rfl, rfl, rfl⟩ := hcs
    exact ⟨[], Bytes.nil, by omega⟩
  · simp only [List.cons.injEq, Value.slice.injEq, and_true] at hcs
    obtain ⟨rfl, rfl, rfl⟩ := hcs
    have hlz : n ≤ zs.length := by rw [hz]; split <;> omega
    unfold maxLen at hm
    have hr : IsRow .u8 W (some a) n zs.length zs := .inr ⟨a, rfl, hlz, by rw [hz]; unfold maxLen; split <;> omega, rfl, hcell, hwf⟩
    obtain ⟨l, hl⟩ := hr.bytes
    exact ⟨l, hl, by omega⟩
end Go.Proofs.YtgdhlghklnlahaaDoor
