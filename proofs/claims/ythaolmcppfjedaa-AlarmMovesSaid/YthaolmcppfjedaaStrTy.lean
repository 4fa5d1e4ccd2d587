/- The type of slices of strings: for seats that have it. -/
import Derived.Test.YthaolmcppfjedaaStr
namespace Go.Proofs.Ythaolmcppfjedaa
open Go.RowKit

theorem strTy : ElemTy Try.prog 25 9 1 16 := by
  obtain ⟨i0, hi, hz0, hz1, hz2⟩ := info_parts (show (Try.prog.info? 9).map (fun i => (i.zero, i.size, i.bytes)) = some (some (.string ⟨#[]⟩), 1, 16) by kernel_rfl)
  exact ⟨i0, _, Try.underlying25, hi, hz0, hz1, hz2, rfl, by omega⟩
end Go.Proofs.Ythaolmcppfjedaa
