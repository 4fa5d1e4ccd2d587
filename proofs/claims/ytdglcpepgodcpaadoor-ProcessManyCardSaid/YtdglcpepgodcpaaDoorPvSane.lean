/- Layer 16, the sanity check. (Written by tools/mkpvmany.py.) -/
import Derived.Test.YtdglcpepgodcpaaDoorPvMany
namespace Go.Proofs.YtdglcpepgodcpaaDoor
open Go.RowKit

/-- Two objects laid one after the other. -/
theorem laid_obob (a b : Ob) (w : World) : ∃ w2, (w.alloc (.cells #[.int .u64 0, .int .i64 0, .int .i64 0, .int .i64 0, .int .u64 0, .slice none 0 0, .slice none 0 0, .slice none 0 0, .int .i64 0, .int .i64 0, .int .i64 0, .int .i64 0, .int .i64 0, .int .i64 0, .int .i64 0, .int .i64 0, .int .i64 0, .int .i64 0,
  .slice none 0 0, .slice none 0 0, .int .i64 0, .int .i64 0, .int .i64 0, .slice none 0 0, .slice none 0 0, .int .i64 0, .int .u64 0, .int .i64 0, .int .i64 0, .slice none 0 0, .slice none 0 0, .slice none 0 0, .int .i64 0, .int .i64 0, .int .i64 0, .slice none 0 0] 42)).alloc (.cells #[.int .u64 0, .int .i64 0, .int .i64 0, .int .i64 0, .int .u64 0, .slice none 0 0, .slice none 0 0, .slice none 0 0, .int .i64 0, .int .i64 0, .int .i64 0, .int .i64 0, .int .i64 0, .int .i64 0, .int .i64 0, .int .i64 0, .int .i64 0, .int .i64 0,
  .slice none 0 0, .slice none 0 0, .int .i64 0, .int .i64 0, .int .i64 0, .slice none 0 0, .slice none 0 0, .int .i64 0, .int .u64 0, .int .i64 0, .int .i64 0, .slice none 0 0, .slice none 0 0, .slice none 0 0, .int .i64 0, .int .i64 0, .int .i64 0, .slice none 0 0] 42) = w2 ∧
    ∃ g, w.heap.size = g ∧ ∃ w3, w2.setRow g (oc a) = w3 ∧ ∃ w4, w3.setRow (g + 1) (oc b) = w4 ∧ Obl w2 g 42 (oc Ob.zero) ∧ Obl w3 (g + 1) 42 (oc Ob.zero) ∧ Obl w4 g 42 (oc a) ∧ Obl w4 (g + 1) 42 (oc b) ∧ Below w.heap.size w w4 ∧ w4.heap.size = g + 2 := by
  obtain ⟨w1, h1, Y, hb, hs⟩ := start_z w
  obtain ⟨w2, h2, Z, hb2, hs2⟩ := start_z w1
  rw [hs] at Z
  have Y2 := Y.below hb2 Y.lt
  refine ⟨w2, by rw [h1]; exact h2, _, rfl, _, rfl, _, rfl, Y2, Z.row_other (by omega) _, (Y2.row_same _).row_other (by omega) _, (Z.row_other (by omega) _).row_same _, below_row (below_row (hb.trans (hb2.mono hb.size)) (Nat.le_refl _) _) (by omega) _, ?_⟩
  simp [World.setRow]
  omega
theorem built_prc0 : Tryd.prog.built 29 [] = some (prc none 0 0 none 0 0 0) := by kernel_rfl
theorem kids4 : KidsOk [4] := by unfold KidsOk; decide
theorem kids0 : KidsOk [] := by unfold KidsOk; decide
end Go.Proofs.YtdglcpepgodcpaaDoor
