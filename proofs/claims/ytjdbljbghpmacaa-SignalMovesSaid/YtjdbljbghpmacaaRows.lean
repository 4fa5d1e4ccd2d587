/-
  No cell of these rows narrows 'for every input' (looked for: loops, veiled, ifaces, maps, wideKeys, modest, calm, conditions, laid).
  DERIVED. THE GIVEN ROWS OF THIS SEAT. 3 by the template 'for every input the law returns true; each argument reads behind the call as it read before'; 0 by the template 'total and deterministic' (their statements: YtjdbljbghpmacaaTotals.lean).
  GIVEN WITH THE SEED: the statements are not yours to turn. If you find one false, say at which input.
  Laid BY PROGRAM, IN A SANDBOX (cutbox-rows.mjs): the forced cells as the released guide's own fill.sh prints them over the translation 48302b0af74761e4… (all of the seat's roots in one cut). By AI agents, Wed Nov 11 2026. No macro, syntax, notation, axiom, sorry.
-/
import Derived.Test.YtjdbljbghpmacaaChecked
import GoSem.Claim
import GoSem.ClaimJoined
import GoSem.ClaimMapViews
import Derived.JoinedTies
import Derived.KernelRfl
namespace Go.Proofs.Ytjdbljbghpmacaa
/- THE CELL 'sum', in the pinned program and in every row, IS THE sha256 OF THE DUMP (.gsa) THAT YtjdbljbghpmacaaProg.lean LOADS. Nothing in Lean hashes anything: it is a label: what it is worth is what the hold of that sum in a sandbox is worth. -/
noncomputable def Try.pinned : Pinned := { name := "ytjdbljbghpmacaa", sum := "48302b0af74761e4d08d409b806b3cb67b381bbc65ad14dd22bfecae8b1f92bf", checked := Try.checked }
namespace Rows
def none {H : Type} : Left H := { results := [], args := [] }

/-- 'clusterkernellaw14.SignalMoves': WHATEVER THE INPUT: true; the input reads as it did. -/
def signalMovesSpec : ChangeSpec := { name := "signalMoves", fn := fun _ => fun
  | [d1, d2, d3, d4] => { results := [.lit (.bool true)], args := [d1, d2, d3, d4] }
  | _ => none }
def signalMovesRow : OpenClaim := { program := "ytjdbljbghpmacaa", sum := "48302b0af74761e4d08d409b806b3cb67b381bbc65ad14dd22bfecae8b1f92bf", func := "clusterkernel/clusterkernellaw14.SignalMoves", spec := "signalMoves", apart := false }
def SignalMovesSaid : Prop := signalMovesRow.holds Try.pinned (OpenSpec.ofChange signalMovesSpec)

/-- ITS FALSE NEIGHBOUR: 'it returns false'. Refute it at one input. -/
def signalMovesWrong : ChangeSpec := { name := "signalMoves", fn := fun _ => fun
  | [d1, d2, d3, d4] => { results := [.lit (.bool false)], args := [d1, d2, d3, d4] }
  | _ => none }
def SignalMovesWrongFalsely : Prop := signalMovesRow.holds Try.pinned (OpenSpec.ofChange signalMovesWrong)

/-- 'clusterkernellaw14.SignalTwice': WHATEVER THE INPUT: true; the input reads as it did. -/
def signalTwiceSpec : ChangeSpec := { name := "signalTwice", fn := fun _ => fun
  | [d1, d2] => { results := [.lit (.bool true)], args := [d1, d2] }
  | _ => none }
def signalTwiceRow : OpenClaim := { program := "ytjdbljbghpmacaa", sum := "48302b0af74761e4d08d409b806b3cb67b381bbc65ad14dd22bfecae8b1f92bf", func := "clusterkernel/clusterkernellaw14.SignalTwice", spec := "signalTwice", apart := false }
def SignalTwiceSaid : Prop := signalTwiceRow.holds Try.pinned (OpenSpec.ofChange signalTwiceSpec)

/-- ITS FALSE NEIGHBOUR: 'it returns false'. Refute it at one input. -/
def signalTwiceWrong : ChangeSpec := { name := "signalTwice", fn := fun _ => fun
  | [d1, d2] => { results := [.lit (.bool false)], args := [d1, d2] }
  | _ => none }
def SignalTwiceWrongFalsely : Prop := signalTwiceRow.holds Try.pinned (OpenSpec.ofChange signalTwiceWrong)

/-- 'clusterkernellaw14.SignalSets': WHATEVER THE INPUT: true; the input reads as it did. -/
def signalSetsSpec : ChangeSpec := { name := "signalSets", fn := fun _ => fun
  | [d] => { results := [.lit (.bool true)], args := [d] }
  | _ => none }
def signalSetsRow : OpenClaim := { program := "ytjdbljbghpmacaa", sum := "48302b0af74761e4d08d409b806b3cb67b381bbc65ad14dd22bfecae8b1f92bf", func := "clusterkernel/clusterkernellaw14.SignalSets", spec := "signalSets", apart := false }
def SignalSetsSaid : Prop := signalSetsRow.holds Try.pinned (OpenSpec.ofChange signalSetsSpec)

/-- ITS FALSE NEIGHBOUR: 'it returns false'. Refute it at one input. -/
def signalSetsWrong : ChangeSpec := { name := "signalSets", fn := fun _ => fun
  | [d] => { results := [.lit (.bool false)], args := [d] }
  | _ => none }
def SignalSetsWrongFalsely : Prop := signalSetsRow.holds Try.pinned (OpenSpec.ofChange signalSetsWrong)

/- THE SECOND FORM. 'bulk': how many values and letters a reading holds, each counted each time it is reached (what is shared counts as often as it is met; a slice's spare places count too). A statement '..UptoSaid' is the law's where the arguments, and the package variables that the reading takes, are together of bulk at most 1048576: NARROWER than '..Said'. Prove '..Said' where nothing that the law and all that it calls make is longer than what came in: it says more and counts as full. Else prove '..UptoSaid'. A law counts once. -/
mutual
def uptoBulk {H : Type} : DataW H → Nat
  | .lit (.string bytes) => bytes.length + 1
  | .lit _ => 1
  | .nil => 1
  | .ptr d => uptoBulk d + 1
  | .slice elems spare => uptoBulkAll elems + uptoBulkAll spare + 1
  | .agg parts => uptoBulkAll parts + 1
  | .iface _ d => uptoBulk d + 1
  | .map entries => uptoBulkEntries entries + 1
  | .held _ => 1
def uptoBulkAll {H : Type} : List (DataW H) → Nat
  | [] => 0
  | d :: r => uptoBulk d + uptoBulkAll r
def uptoBulkEntries {H : Type} : List (Lit × DataW H) → Nat
  | [] => 0
  | x :: r => uptoBulkEntry x + uptoBulkEntries r
def uptoBulkEntry {H : Type} : Lit × DataW H → Nat
  | (.string bytes, d) => bytes.length + uptoBulk d + 1
  | (_, d) => uptoBulk d + 1
 end
def uptoSmall : (H : Type) → List (DataW H) → Bool := fun _ ds => decide (uptoBulkAll ds ≤ 1048576)
def OpenSpec.upto (s : _root_.Go.ChangeSpec) : _root_.Go.OpenSpec := { _root_.Go.OpenSpec.ofChange s with cond := some uptoSmall }

/-- 'clusterkernellaw14.SignalMoves', WHERE WHAT IT READS IS OF BULK AT MOST 1048576: true; the input reads as it did. -/
def signalMovesUptoRow : OpenClaim := { program := "ytjdbljbghpmacaa", sum := "48302b0af74761e4d08d409b806b3cb67b381bbc65ad14dd22bfecae8b1f92bf", func := "clusterkernel/clusterkernellaw14.SignalMoves", spec := "signalMoves", apart := false, narrowed := true }
def SignalMovesUptoSaid : Prop := signalMovesUptoRow.holds Try.pinned (OpenSpec.upto signalMovesSpec)

/-- 'clusterkernellaw14.SignalTwice', WHERE WHAT IT READS IS OF BULK AT MOST 1048576: true; the input reads as it did. -/
def signalTwiceUptoRow : OpenClaim := { program := "ytjdbljbghpmacaa", sum := "48302b0af74761e4d08d409b806b3cb67b381bbc65ad14dd22bfecae8b1f92bf", func := "clusterkernel/clusterkernellaw14.SignalTwice", spec := "signalTwice", apart := false, narrowed := true }
def SignalTwiceUptoSaid : Prop := signalTwiceUptoRow.holds Try.pinned (OpenSpec.upto signalTwiceSpec)

/-- 'clusterkernellaw14.SignalSets', WHERE WHAT IT READS IS OF BULK AT MOST 1048576: true; the input reads as it did. -/
def signalSetsUptoRow : OpenClaim := { program := "ytjdbljbghpmacaa", sum := "48302b0af74761e4d08d409b806b3cb67b381bbc65ad14dd22bfecae8b1f92bf", func := "clusterkernel/clusterkernellaw14.SignalSets", spec := "signalSets", apart := false, narrowed := true }
def SignalSetsUptoSaid : Prop := signalSetsUptoRow.holds Try.pinned (OpenSpec.upto signalSetsSpec)

end Rows
end Go.Proofs.Ytjdbljbghpmacaa
