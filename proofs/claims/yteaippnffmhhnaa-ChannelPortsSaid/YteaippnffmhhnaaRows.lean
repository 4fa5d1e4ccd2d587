/-
  No cell of these rows narrows 'for every input' (looked for: loops, veiled, ifaces, maps, wideKeys, modest, calm, conditions, laid).
  DERIVED. THE GIVEN ROWS OF THIS SEAT. 4 by the template 'for every input the law returns true; each argument reads behind the call as it read before'; 0 by the template 'total and deterministic' (their statements: YteaippnffmhhnaaTotals.lean).
  GIVEN WITH THE SEED: the statements are not yours to turn. If you find one false, say at which input.
  Laid BY PROGRAM, IN A SANDBOX (cutbox-rows.mjs): the forced cells as the released guide's own fill.sh prints them over the translation dd7ed433a14240aa… (all of the seat's roots in one cut). By AI agents, Wed Nov 11 2026. No macro, syntax, notation, axiom, sorry.
-/
import Derived.Test.YteaippnffmhhnaaChecked
import GoSem.Claim
import GoSem.ClaimJoined
import GoSem.ClaimMapViews
import Derived.JoinedTies
import Derived.KernelRfl
namespace Go.Proofs.Yteaippnffmhhnaa
/- THE CELL 'sum', in the pinned program and in every row, IS THE sha256 OF THE DUMP (.gsa) THAT YteaippnffmhhnaaProg.lean LOADS. Nothing in Lean hashes anything: it is a label: what it is worth is what the hold of that sum in a sandbox is worth. -/
noncomputable def Try.pinned : Pinned := { name := "yteaippnffmhhnaa", sum := "dd7ed433a14240aaee61ce3f2d6314f5137513b61c7025bcb46698254f0646ab", checked := Try.checked }
namespace Rows
def none {H : Type} : Left H := { results := [], args := [] }

/-- 'clusterkernellaw12.ChannelPorts': WHATEVER THE INPUT: true; the input reads as it did. -/
def channelPortsSpec : ChangeSpec := { name := "channelPorts", fn := fun _ => fun
  | [d1, d2, d3] => { results := [.lit (.bool true)], args := [d1, d2, d3] }
  | _ => none }
def channelPortsRow : OpenClaim := { program := "yteaippnffmhhnaa", sum := "dd7ed433a14240aaee61ce3f2d6314f5137513b61c7025bcb46698254f0646ab", func := "clusterkernel/clusterkernellaw12.ChannelPorts", spec := "channelPorts", apart := false }
def ChannelPortsSaid : Prop := channelPortsRow.holds Try.pinned (OpenSpec.ofChange channelPortsSpec)

/-- ITS FALSE NEIGHBOUR: 'it returns false'. Refute it at one input. -/
def channelPortsWrong : ChangeSpec := { name := "channelPorts", fn := fun _ => fun
  | [d1, d2, d3] => { results := [.lit (.bool false)], args := [d1, d2, d3] }
  | _ => none }
def ChannelPortsWrongFalsely : Prop := channelPortsRow.holds Try.pinned (OpenSpec.ofChange channelPortsWrong)

/-- 'clusterkernellaw12.ChannelMoves': WHATEVER THE INPUT: true; the input reads as it did. -/
def channelMovesSpec : ChangeSpec := { name := "channelMoves", fn := fun _ => fun
  | [d1, d2, d3, d4, d5] => { results := [.lit (.bool true)], args := [d1, d2, d3, d4, d5] }
  | _ => none }
def channelMovesRow : OpenClaim := { program := "yteaippnffmhhnaa", sum := "dd7ed433a14240aaee61ce3f2d6314f5137513b61c7025bcb46698254f0646ab", func := "clusterkernel/clusterkernellaw12.ChannelMoves", spec := "channelMoves", apart := false }
def ChannelMovesSaid : Prop := channelMovesRow.holds Try.pinned (OpenSpec.ofChange channelMovesSpec)

/-- ITS FALSE NEIGHBOUR: 'it returns false'. Refute it at one input. -/
def channelMovesWrong : ChangeSpec := { name := "channelMoves", fn := fun _ => fun
  | [d1, d2, d3, d4, d5] => { results := [.lit (.bool false)], args := [d1, d2, d3, d4, d5] }
  | _ => none }
def ChannelMovesWrongFalsely : Prop := channelMovesRow.holds Try.pinned (OpenSpec.ofChange channelMovesWrong)

/-- 'clusterkernellaw12.ChannelOrder': WHATEVER THE INPUT: true; the input reads as it did. -/
def channelOrderSpec : ChangeSpec := { name := "channelOrder", fn := fun _ => fun
  | [d] => { results := [.lit (.bool true)], args := [d] }
  | _ => none }
def channelOrderRow : OpenClaim := { program := "yteaippnffmhhnaa", sum := "dd7ed433a14240aaee61ce3f2d6314f5137513b61c7025bcb46698254f0646ab", func := "clusterkernel/clusterkernellaw12.ChannelOrder", spec := "channelOrder", apart := false }
def ChannelOrderSaid : Prop := channelOrderRow.holds Try.pinned (OpenSpec.ofChange channelOrderSpec)

/-- ITS FALSE NEIGHBOUR: 'it returns false'. Refute it at one input. -/
def channelOrderWrong : ChangeSpec := { name := "channelOrder", fn := fun _ => fun
  | [d] => { results := [.lit (.bool false)], args := [d] }
  | _ => none }
def ChannelOrderWrongFalsely : Prop := channelOrderRow.holds Try.pinned (OpenSpec.ofChange channelOrderWrong)

/-- 'clusterkernellaw12.ChannelCalls': WHATEVER THE INPUT: true; the input reads as it did. -/
def channelCallsSpec : ChangeSpec := { name := "channelCalls", fn := fun _ => fun
  | [d] => { results := [.lit (.bool true)], args := [d] }
  | _ => none }
def channelCallsRow : OpenClaim := { program := "yteaippnffmhhnaa", sum := "dd7ed433a14240aaee61ce3f2d6314f5137513b61c7025bcb46698254f0646ab", func := "clusterkernel/clusterkernellaw12.ChannelCalls", spec := "channelCalls", apart := false }
def ChannelCallsSaid : Prop := channelCallsRow.holds Try.pinned (OpenSpec.ofChange channelCallsSpec)

/-- ITS FALSE NEIGHBOUR: 'it returns false'. Refute it at one input. -/
def channelCallsWrong : ChangeSpec := { name := "channelCalls", fn := fun _ => fun
  | [d] => { results := [.lit (.bool false)], args := [d] }
  | _ => none }
def ChannelCallsWrongFalsely : Prop := channelCallsRow.holds Try.pinned (OpenSpec.ofChange channelCallsWrong)

/- THE SECOND FORM. 'bulk': how many values and letters a reading holds, each counted each time it is reached (what is shared counts as often as it is met; a slice's spare places count too). A statement '..UptoSaid' is the law's where the arguments, and the package variables that the reading takes, are together of bulk at most 1048576: NARROWER than '..Said'. Prove '..Said' where nothing that the law and all that it calls make is longer than what came in: it says more and counts as full. Else prove '..UptoSaid'. A law counts once. -/
mutual
def uptoBulk {H : Type} : DataW H → Nat
  | .lit (.string bytes) => bytes.length + 1
  | .lit _ => 1
  | .nil => 1
  | .ptr d => uptoBulk d + 1
  | .slice elems spare => uptoBulkAll elems + uptoBulkAll spare + 1
  | .agg parts => uptoBulkAll parts + 1
  | .iface _ d => uptoBulk d + 1
  | .map entries => uptoBulkEntries entries + 1
  | .held _ => 1
def uptoBulkAll {H : Type} : List (DataW H) → Nat
  | [] => 0
  | d :: r => uptoBulk d + uptoBulkAll r
def uptoBulkEntries {H : Type} : List (Lit × DataW H) → Nat
  | [] => 0
  | x :: r => uptoBulkEntry x + uptoBulkEntries r
def uptoBulkEntry {H : Type} : Lit × DataW H → Nat
  | (.string bytes, d) => bytes.length + uptoBulk d + 1
  | (_, d) => uptoBulk d + 1
 end
def uptoSmall : (H : Type) → List (DataW H) → Bool := fun _ ds => decide (uptoBulkAll ds ≤ 1048576)
def OpenSpec.upto (s : _root_.Go.ChangeSpec) : _root_.Go.OpenSpec := { _root_.Go.OpenSpec.ofChange s with cond := some uptoSmall }

/-- 'clusterkernellaw12.ChannelPorts', WHERE WHAT IT READS IS OF BULK AT MOST 1048576: true; the input reads as it did. -/
def channelPortsUptoRow : OpenClaim := { program := "yteaippnffmhhnaa", sum := "dd7ed433a14240aaee61ce3f2d6314f5137513b61c7025bcb46698254f0646ab", func := "clusterkernel/clusterkernellaw12.ChannelPorts", spec := "channelPorts", apart := false, narrowed := true }
def ChannelPortsUptoSaid : Prop := channelPortsUptoRow.holds Try.pinned (OpenSpec.upto channelPortsSpec)

/-- 'clusterkernellaw12.ChannelMoves', WHERE WHAT IT READS IS OF BULK AT MOST 1048576: true; the input reads as it did. -/
def channelMovesUptoRow : OpenClaim := { program := "yteaippnffmhhnaa", sum := "dd7ed433a14240aaee61ce3f2d6314f5137513b61c7025bcb46698254f0646ab", func := "clusterkernel/clusterkernellaw12.ChannelMoves", spec := "channelMoves", apart := false, narrowed := true }
def ChannelMovesUptoSaid : Prop := channelMovesUptoRow.holds Try.pinned (OpenSpec.upto channelMovesSpec)

/-- 'clusterkernellaw12.ChannelOrder', WHERE WHAT IT READS IS OF BULK AT MOST 1048576: true; the input reads as it did. -/
def channelOrderUptoRow : OpenClaim := { program := "yteaippnffmhhnaa", sum := "dd7ed433a14240aaee61ce3f2d6314f5137513b61c7025bcb46698254f0646ab", func := "clusterkernel/clusterkernellaw12.ChannelOrder", spec := "channelOrder", apart := false, narrowed := true }
def ChannelOrderUptoSaid : Prop := channelOrderUptoRow.holds Try.pinned (OpenSpec.upto channelOrderSpec)

/-- 'clusterkernellaw12.ChannelCalls', WHERE WHAT IT READS IS OF BULK AT MOST 1048576: true; the input reads as it did. -/
def channelCallsUptoRow : OpenClaim := { program := "yteaippnffmhhnaa", sum := "dd7ed433a14240aaee61ce3f2d6314f5137513b61c7025bcb46698254f0646ab", func := "clusterkernel/clusterkernellaw12.ChannelCalls", spec := "channelCalls", apart := false, narrowed := true }
def ChannelCallsUptoSaid : Prop := channelCallsUptoRow.holds Try.pinned (OpenSpec.upto channelCallsSpec)

end Rows
end Go.Proofs.Yteaippnffmhhnaa
