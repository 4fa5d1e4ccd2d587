/-
  No cell of these rows narrows 'for every input' (looked for: loops, veiled, ifaces, maps, wideKeys, modest, calm, conditions, laid).
  DERIVED. THE GIVEN ROWS OF THIS SEAT. 3 by the template 'for every input the law returns true; each argument reads behind the call as it read before'; 0 by the template 'total and deterministic' (their statements: YtpibdfgcfhopaaaTotals.lean).
  GIVEN WITH THE SEED: the statements are not yours to turn. If you find one false, say at which input.
  Laid BY PROGRAM, IN A SANDBOX (cutbox-rows.mjs): the forced cells as the released guide's own fill.sh prints them over the translation 4f3f4f6fefbfc7c8… (all of the seat's roots in one cut). By AI agents, Wed Nov 11 2026. No macro, syntax, notation, axiom, sorry.
-/
import Derived.Test.YtpibdfgcfhopaaaChecked
import GoSem.Claim
import GoSem.ClaimJoined
import GoSem.ClaimMapViews
import Derived.JoinedTies
import Derived.KernelRfl
namespace Go.Proofs.Ytpibdfgcfhopaaa
/- THE CELL 'sum', in the pinned program and in every row, IS THE sha256 OF THE DUMP (.gsa) THAT YtpibdfgcfhopaaaProg.lean LOADS. Nothing in Lean hashes anything: it is a label: what it is worth is what the hold of that sum in a sandbox is worth. -/
noncomputable def Try.pinned : Pinned := { name := "ytpibdfgcfhopaaa", sum := "4f3f4f6fefbfc7c8c502d67e26d0287caa9c0ba7fe1af09997c43c9ecd60dbb2", checked := Try.checked }
namespace Rows
def none {H : Type} : Left H := { results := [], args := [] }

/-- 'clusterkernellaw11.PipeMoves': WHATEVER THE INPUT: true; the input reads as it did. -/
def pipeMovesSpec : ChangeSpec := { name := "pipeMoves", fn := fun _ => fun
  | [d1, d2, d3, d4] => { results := [.lit (.bool true)], args := [d1, d2, d3, d4] }
  | _ => none }
def pipeMovesRow : OpenClaim := { program := "ytpibdfgcfhopaaa", sum := "4f3f4f6fefbfc7c8c502d67e26d0287caa9c0ba7fe1af09997c43c9ecd60dbb2", func := "clusterkernel/clusterkernellaw11.PipeMoves", spec := "pipeMoves", apart := false }
def PipeMovesSaid : Prop := pipeMovesRow.holds Try.pinned (OpenSpec.ofChange pipeMovesSpec)

/-- ITS FALSE NEIGHBOUR: 'it returns false'. Refute it at one input. -/
def pipeMovesWrong : ChangeSpec := { name := "pipeMoves", fn := fun _ => fun
  | [d1, d2, d3, d4] => { results := [.lit (.bool false)], args := [d1, d2, d3, d4] }
  | _ => none }
def PipeMovesWrongFalsely : Prop := pipeMovesRow.holds Try.pinned (OpenSpec.ofChange pipeMovesWrong)

/-- 'clusterkernellaw11.PipeOrder': WHATEVER THE INPUT: true; the input reads as it did. -/
def pipeOrderSpec : ChangeSpec := { name := "pipeOrder", fn := fun _ => fun
  | [d1, d2] => { results := [.lit (.bool true)], args := [d1, d2] }
  | _ => none }
def pipeOrderRow : OpenClaim := { program := "ytpibdfgcfhopaaa", sum := "4f3f4f6fefbfc7c8c502d67e26d0287caa9c0ba7fe1af09997c43c9ecd60dbb2", func := "clusterkernel/clusterkernellaw11.PipeOrder", spec := "pipeOrder", apart := false }
def PipeOrderSaid : Prop := pipeOrderRow.holds Try.pinned (OpenSpec.ofChange pipeOrderSpec)

/-- ITS FALSE NEIGHBOUR: 'it returns false'. Refute it at one input. -/
def pipeOrderWrong : ChangeSpec := { name := "pipeOrder", fn := fun _ => fun
  | [d1, d2] => { results := [.lit (.bool false)], args := [d1, d2] }
  | _ => none }
def PipeOrderWrongFalsely : Prop := pipeOrderRow.holds Try.pinned (OpenSpec.ofChange pipeOrderWrong)

/-- 'clusterkernellaw11.PipeCloses': WHATEVER THE INPUT: true; the input reads as it did. -/
def pipeClosesSpec : ChangeSpec := { name := "pipeCloses", fn := fun _ => fun
  | [d1, d2] => { results := [.lit (.bool true)], args := [d1, d2] }
  | _ => none }
def pipeClosesRow : OpenClaim := { program := "ytpibdfgcfhopaaa", sum := "4f3f4f6fefbfc7c8c502d67e26d0287caa9c0ba7fe1af09997c43c9ecd60dbb2", func := "clusterkernel/clusterkernellaw11.PipeCloses", spec := "pipeCloses", apart := false }
def PipeClosesSaid : Prop := pipeClosesRow.holds Try.pinned (OpenSpec.ofChange pipeClosesSpec)

/-- ITS FALSE NEIGHBOUR: 'it returns false'. Refute it at one input. -/
def pipeClosesWrong : ChangeSpec := { name := "pipeCloses", fn := fun _ => fun
  | [d1, d2] => { results := [.lit (.bool false)], args := [d1, d2] }
  | _ => none }
def PipeClosesWrongFalsely : Prop := pipeClosesRow.holds Try.pinned (OpenSpec.ofChange pipeClosesWrong)

/- THE SECOND FORM. 'bulk': how many values and letters a reading holds, each counted each time it is reached (what is shared counts as often as it is met; a slice's spare places count too). A statement '..UptoSaid' is the law's where the arguments, and the package variables that the reading takes, are together of bulk at most 1048576: NARROWER than '..Said'. Prove '..Said' where nothing that the law and all that it calls make is longer than what came in: it says more and counts as full. Else prove '..UptoSaid'. A law counts once. -/
mutual
def uptoBulk {H : Type} : DataW H → Nat
  | .lit (.string bytes) => bytes.length + 1
  | .lit _ => 1
  | .nil => 1
  | .ptr d => uptoBulk d + 1
  | .slice elems spare => uptoBulkAll elems + uptoBulkAll spare + 1
  | .agg parts => uptoBulkAll parts + 1
  | .iface _ d => uptoBulk d + 1
  | .map entries => uptoBulkEntries entries + 1
  | .held _ => 1
def uptoBulkAll {H : Type} : List (DataW H) → Nat
  | [] => 0
  | d :: r => uptoBulk d + uptoBulkAll r
def uptoBulkEntries {H : Type} : List (Lit × DataW H) → Nat
  | [] => 0
  | x :: r => uptoBulkEntry x + uptoBulkEntries r
def uptoBulkEntry {H : Type} : Lit × DataW H → Nat
  | (.string bytes, d) => bytes.length + uptoBulk d + 1
  | (_, d) => uptoBulk d + 1
 end
def uptoSmall : (H : Type) → List (DataW H) → Bool := fun _ ds => decide (uptoBulkAll ds ≤ 1048576)
def OpenSpec.upto (s : _root_.Go.ChangeSpec) : _root_.Go.OpenSpec := { _root_.Go.OpenSpec.ofChange s with cond := some uptoSmall }

/-- 'clusterkernellaw11.PipeMoves', WHERE WHAT IT READS IS OF BULK AT MOST 1048576: true; the input reads as it did. -/
def pipeMovesUptoRow : OpenClaim := { program := "ytpibdfgcfhopaaa", sum := "4f3f4f6fefbfc7c8c502d67e26d0287caa9c0ba7fe1af09997c43c9ecd60dbb2", func := "clusterkernel/clusterkernellaw11.PipeMoves", spec := "pipeMoves", apart := false, narrowed := true }
def PipeMovesUptoSaid : Prop := pipeMovesUptoRow.holds Try.pinned (OpenSpec.upto pipeMovesSpec)

/-- 'clusterkernellaw11.PipeOrder', WHERE WHAT IT READS IS OF BULK AT MOST 1048576: true; the input reads as it did. -/
def pipeOrderUptoRow : OpenClaim := { program := "ytpibdfgcfhopaaa", sum := "4f3f4f6fefbfc7c8c502d67e26d0287caa9c0ba7fe1af09997c43c9ecd60dbb2", func := "clusterkernel/clusterkernellaw11.PipeOrder", spec := "pipeOrder", apart := false, narrowed := true }
def PipeOrderUptoSaid : Prop := pipeOrderUptoRow.holds Try.pinned (OpenSpec.upto pipeOrderSpec)

/-- 'clusterkernellaw11.PipeCloses', WHERE WHAT IT READS IS OF BULK AT MOST 1048576: true; the input reads as it did. -/
def pipeClosesUptoRow : OpenClaim := { program := "ytpibdfgcfhopaaa", sum := "4f3f4f6fefbfc7c8c502d67e26d0287caa9c0ba7fe1af09997c43c9ecd60dbb2", func := "clusterkernel/clusterkernellaw11.PipeCloses", spec := "pipeCloses", apart := false, narrowed := true }
def PipeClosesUptoSaid : Prop := pipeClosesUptoRow.holds Try.pinned (OpenSpec.upto pipeClosesSpec)

end Rows
end Go.Proofs.Ytpibdfgcfhopaaa
