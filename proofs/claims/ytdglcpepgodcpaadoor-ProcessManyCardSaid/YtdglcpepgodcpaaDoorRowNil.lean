/- A row of the call's own that is empty, but not nil. -/
import Derived.Test.YtdglcpepgodcpaaDoorRowMem
namespace Go.Proofs.YtdglcpepgodcpaaDoor
open Go.RowKit

theorem own_empty (w : World) {base : Nat} (t : TypeId) (size : Nat) (hb : base ≤ w.heap.size) : (w.alloc (.cells #[] t)).ownsRow base t size (.slice (some ⟨w.heap.size, 0, none⟩) 0 0) 0 [] :=
  ⟨by simp, .inr ⟨w.heap.size, 0, #[], rfl, hb, heap_alloc_new w _, Nat.le_refl _, by unfold maxLen; omega, by simp, by simp⟩⟩
end Go.Proofs.YtdglcpepgodcpaaDoor
