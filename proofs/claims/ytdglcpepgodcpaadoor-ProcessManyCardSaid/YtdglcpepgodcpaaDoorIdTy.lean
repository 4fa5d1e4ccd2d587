/- The type of slices of identifiers. -/
import Derived.Test.YtdglcpepgodcpaaDoorAgg
namespace Go.Proofs.YtdglcpepgodcpaaDoor
open Go.RowKit

theorem idTy : ElemTy Tryd.prog 25 24 1 8 := by
  obtain ⟨i0, hi, hz0, hz1, hz2⟩ := info_parts (show (Tryd.prog.info? 24).map (fun i => (i.zero, i.size, i.bytes)) = some (some (.int .u64 0), 1, 8) by kernel_rfl)
  exact ⟨i0, _, Tryd.underlying25, hi, hz0, hz1, hz2, rfl, by omega⟩
end Go.Proofs.YtdglcpepgodcpaaDoor
