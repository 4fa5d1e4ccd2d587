/- The type of slices of strings: for seats that have it. -/
import Derived.Test.YtdglcpepgodcpaaDoorStr
namespace Go.Proofs.YtdglcpepgodcpaaDoor
open Go.RowKit

theorem strTy : ElemTy Tryd.prog 27 9 1 16 := by
  obtain ⟨i0, hi, hz0, hz1, hz2⟩ := info_parts (show (Tryd.prog.info? 9).map (fun i => (i.zero, i.size, i.bytes)) = some (some (.string ⟨#[]⟩), 1, 16) by kernel_rfl)
  exact ⟨i0, _, Tryd.underlying27, hi, hz0, hz1, hz2, rfl, by omega⟩
end Go.Proofs.YtdglcpepgodcpaaDoor
