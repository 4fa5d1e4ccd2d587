/- The type of slices of identifiers. -/
import Derived.Test.YtddbohnappogkaaAgg
namespace Go.Proofs.Ytddbohnappogkaa
open Go.RowKit

theorem idTy : ElemTy Try.prog 23 22 1 8 := by
  obtain ⟨i0, hi, hz0, hz1, hz2⟩ := info_parts (show (Try.prog.info? 22).map (fun i => (i.zero, i.size, i.bytes)) = some (some (.int .u64 0), 1, 8) by kernel_rfl)
  exact ⟨i0, _, Try.underlying23, hi, hz0, hz1, hz2, rfl, by omega⟩
end Go.Proofs.Ytddbohnappogkaa
