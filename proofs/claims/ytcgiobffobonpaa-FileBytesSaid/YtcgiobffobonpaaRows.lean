/-
  No cell of these rows narrows 'for every input' (looked for: loops, veiled, ifaces, maps, wideKeys, modest, calm, conditions, laid).
  DERIVED. THE GIVEN ROWS OF THIS SEAT. 3 by the template 'for every input the law returns true; each argument reads behind the call as it read before'; 0 by the template 'total and deterministic' (their statements: YtcgiobffobonpaaTotals.lean).
  GIVEN WITH THE SEED: the statements are not yours to turn. If you find one false, say at which input.
  Laid BY PROGRAM, IN A SANDBOX (cutbox-rows.mjs): the forced cells as the released guide's own fill.sh prints them over the translation 00f747bfe0b6f50e… (all of the seat's roots in one cut). By AI agents, Wed Nov 11 2026. No macro, syntax, notation, axiom, sorry.
-/
import Derived.Test.YtcgiobffobonpaaChecked
import GoSem.Claim
import GoSem.ClaimJoined
import GoSem.ClaimMapViews
import Derived.JoinedTies
import Derived.KernelRfl
namespace Go.Proofs.Ytcgiobffobonpaa
/- THE CELL 'sum', in the pinned program and in every row, IS THE sha256 OF THE DUMP (.gsa) THAT YtcgiobffobonpaaProg.lean LOADS. Nothing in Lean hashes anything: it is a label: what it is worth is what the hold of that sum in a sandbox is worth. -/
noncomputable def Try.pinned : Pinned := { name := "ytcgiobffobonpaa", sum := "00f747bfe0b6f50e28133bf6dad48b9c0a5140336f8986fdfe845cf1e98700ad", checked := Try.checked }
namespace Rows
def none {H : Type} : Left H := { results := [], args := [] }

/-- 'clusterkernellaw08.FileBytes': WHATEVER THE INPUT: true; the input reads as it did. -/
def fileBytesSpec : ChangeSpec := { name := "fileBytes", fn := fun _ => fun
  | [d1, d2, d3, d4, d5, d6] => { results := [.lit (.bool true)], args := [d1, d2, d3, d4, d5, d6] }
  | _ => none }
def fileBytesRow : OpenClaim := { program := "ytcgiobffobonpaa", sum := "00f747bfe0b6f50e28133bf6dad48b9c0a5140336f8986fdfe845cf1e98700ad", func := "clusterkernel/clusterkernellaw08.FileBytes", spec := "fileBytes", apart := false }
def FileBytesSaid : Prop := fileBytesRow.holds Try.pinned (OpenSpec.ofChange fileBytesSpec)

/-- ITS FALSE NEIGHBOUR: 'it returns false'. Refute it at one input. -/
def fileBytesWrong : ChangeSpec := { name := "fileBytes", fn := fun _ => fun
  | [d1, d2, d3, d4, d5, d6] => { results := [.lit (.bool false)], args := [d1, d2, d3, d4, d5, d6] }
  | _ => none }
def FileBytesWrongFalsely : Prop := fileBytesRow.holds Try.pinned (OpenSpec.ofChange fileBytesWrong)

/-- 'clusterkernellaw08.FileKeeps': WHATEVER THE INPUT: true; the input reads as it did. -/
def fileKeepsSpec : ChangeSpec := { name := "fileKeeps", fn := fun _ => fun
  | [d1, d2, d3, d4] => { results := [.lit (.bool true)], args := [d1, d2, d3, d4] }
  | _ => none }
def fileKeepsRow : OpenClaim := { program := "ytcgiobffobonpaa", sum := "00f747bfe0b6f50e28133bf6dad48b9c0a5140336f8986fdfe845cf1e98700ad", func := "clusterkernel/clusterkernellaw08.FileKeeps", spec := "fileKeeps", apart := false }
def FileKeepsSaid : Prop := fileKeepsRow.holds Try.pinned (OpenSpec.ofChange fileKeepsSpec)

/-- ITS FALSE NEIGHBOUR: 'it returns false'. Refute it at one input. -/
def fileKeepsWrong : ChangeSpec := { name := "fileKeeps", fn := fun _ => fun
  | [d1, d2, d3, d4] => { results := [.lit (.bool false)], args := [d1, d2, d3, d4] }
  | _ => none }
def FileKeepsWrongFalsely : Prop := fileKeepsRow.holds Try.pinned (OpenSpec.ofChange fileKeepsWrong)

/-- 'clusterkernellaw08.FileModel': WHATEVER THE INPUT: true; the input reads as it did. -/
def fileModelSpec : ChangeSpec := { name := "fileModel", fn := fun _ => fun
  | [d1, d2] => { results := [.lit (.bool true)], args := [d1, d2] }
  | _ => none }
def fileModelRow : OpenClaim := { program := "ytcgiobffobonpaa", sum := "00f747bfe0b6f50e28133bf6dad48b9c0a5140336f8986fdfe845cf1e98700ad", func := "clusterkernel/clusterkernellaw08.FileModel", spec := "fileModel", apart := false }
def FileModelSaid : Prop := fileModelRow.holds Try.pinned (OpenSpec.ofChange fileModelSpec)

/-- ITS FALSE NEIGHBOUR: 'it returns false'. Refute it at one input. -/
def fileModelWrong : ChangeSpec := { name := "fileModel", fn := fun _ => fun
  | [d1, d2] => { results := [.lit (.bool false)], args := [d1, d2] }
  | _ => none }
def FileModelWrongFalsely : Prop := fileModelRow.holds Try.pinned (OpenSpec.ofChange fileModelWrong)

/- THE SECOND FORM. 'bulk': how many values and letters a reading holds, each counted each time it is reached (what is shared counts as often as it is met; a slice's spare places count too). A statement '..UptoSaid' is the law's where the arguments, and the package variables that the reading takes, are together of bulk at most 1048576: NARROWER than '..Said'. Prove '..Said' where nothing that the law and all that it calls make is longer than what came in: it says more and counts as full. Else prove '..UptoSaid'. A law counts once. -/
mutual
def uptoBulk {H : Type} : DataW H → Nat
  | .lit (.string bytes) => bytes.length + 1
  | .lit _ => 1
  | .nil => 1
  | .ptr d => uptoBulk d + 1
  | .slice elems spare => uptoBulkAll elems + uptoBulkAll spare + 1
  | .agg parts => uptoBulkAll parts + 1
  | .iface _ d => uptoBulk d + 1
  | .map entries => uptoBulkEntries entries + 1
  | .held _ => 1
def uptoBulkAll {H : Type} : List (DataW H) → Nat
  | [] => 0
  | d :: r => uptoBulk d + uptoBulkAll r
def uptoBulkEntries {H : Type} : List (Lit × DataW H) → Nat
  | [] => 0
  | x :: r => uptoBulkEntry x + uptoBulkEntries r
def uptoBulkEntry {H : Type} : Lit × DataW H → Nat
  | (.string bytes, d) => bytes.length + uptoBulk d + 1
  | (_, d) => uptoBulk d + 1
 end
def uptoSmall : (H : Type) → List (DataW H) → Bool := fun _ ds => decide (uptoBulkAll ds ≤ 1048576)
def OpenSpec.upto (s : _root_.Go.ChangeSpec) : _root_.Go.OpenSpec := { _root_.Go.OpenSpec.ofChange s with cond := some uptoSmall }

/-- 'clusterkernellaw08.FileBytes', WHERE WHAT IT READS IS OF BULK AT MOST 1048576: true; the input reads as it did. -/
def fileBytesUptoRow : OpenClaim := { program := "ytcgiobffobonpaa", sum := "00f747bfe0b6f50e28133bf6dad48b9c0a5140336f8986fdfe845cf1e98700ad", func := "clusterkernel/clusterkernellaw08.FileBytes", spec := "fileBytes", apart := false, narrowed := true }
def FileBytesUptoSaid : Prop := fileBytesUptoRow.holds Try.pinned (OpenSpec.upto fileBytesSpec)

/-- 'clusterkernellaw08.FileKeeps', WHERE WHAT IT READS IS OF BULK AT MOST 1048576: true; the input reads as it did. -/
def fileKeepsUptoRow : OpenClaim := { program := "ytcgiobffobonpaa", sum := "00f747bfe0b6f50e28133bf6dad48b9c0a5140336f8986fdfe845cf1e98700ad", func := "clusterkernel/clusterkernellaw08.FileKeeps", spec := "fileKeeps", apart := false, narrowed := true }
def FileKeepsUptoSaid : Prop := fileKeepsUptoRow.holds Try.pinned (OpenSpec.upto fileKeepsSpec)

/-- 'clusterkernellaw08.FileModel', WHERE WHAT IT READS IS OF BULK AT MOST 1048576: true; the input reads as it did. -/
def fileModelUptoRow : OpenClaim := { program := "ytcgiobffobonpaa", sum := "00f747bfe0b6f50e28133bf6dad48b9c0a5140336f8986fdfe845cf1e98700ad", func := "clusterkernel/clusterkernellaw08.FileModel", spec := "fileModel", apart := false, narrowed := true }
def FileModelUptoSaid : Prop := fileModelUptoRow.holds Try.pinned (OpenSpec.upto fileModelSpec)

end Rows
end Go.Proofs.Ytcgiobffobonpaa
