/- slices.Clone of bytes: a contract. -/
import Derived.Test.YtdglcpepgodcpaaDoorRowNil
import Derived.Test.YtdglcpepgodcpaaDoorStr
import Derived.Lib.Strings
namespace Go.Proofs.YtdglcpepgodcpaaDoor
open Go.RowKit

/-- A copy of bytes. -/
def CloneB (n : Nat) (l : List UInt8) (w : World) (e : Ending) (w' : World) : Prop := ∃ A c, e = .returned (.slice A n c) ∧ w'.ownsRow w.heap.size 5 1 (.slice A n c) n (bv l) ∧ Below w.heap.size w w'
end Go.Proofs.YtdglcpepgodcpaaDoor
