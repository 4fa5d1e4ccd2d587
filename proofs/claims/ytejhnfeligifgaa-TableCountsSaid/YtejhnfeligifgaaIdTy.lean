/- The type of slices of identifiers. -/
import Derived.Test.YtejhnfeligifgaaAgg
namespace Go.Proofs.Ytejhnfeligifgaa
open Go.RowKit

theorem idTy : ElemTy Try.prog 46 23 1 8 := by
  obtain ⟨i0, hi, hz0, hz1, hz2⟩ := info_parts (show (Try.prog.info? 23).map (fun i => (i.zero, i.size, i.bytes)) = some (some (.int .u64 0), 1, 8) by kernel_rfl)
  exact ⟨i0, _, Try.underlying46, hi, hz0, hz1, hz2, rfl, by omega⟩
end Go.Proofs.Ytejhnfeligifgaa
