/-
  NARROWER THAN 'FOR EVERY INPUT', by the rows' own cells (each row's printed sentence says how): ProcessMany: laid.
  DERIVED. THE GIVEN ROWS OF THIS SEAT. 1 by the template 'for every input the law returns true; each argument reads behind the call as it read before'; 0 by the template 'total and deterministic' (their statements: YtdglcpepgodcpaaDoorTotals.lean).
  GIVEN WITH THE SEED: the statements are not yours to turn. If you find one false, say at which input.
  Laid BY PROGRAM, IN A SANDBOX (cutbox-rows.mjs): the forced cells as the released guide's own fill.sh prints them over the translation 1aa8190a7b440d55… (all of the seat's roots in one cut). By AI agents, Wed Nov 11 2026. No macro, syntax, notation, axiom, sorry.
-/
import Derived.Test.YtdglcpepgodcpaaDoorChecked
import GoSem.Claim
import GoSem.ClaimJoined
import GoSem.ClaimMapViews
import Derived.JoinedTies
import Derived.KernelRfl
namespace Go.Proofs.YtdglcpepgodcpaaDoor
/- THE CELL 'sum', in the pinned program and in every row, IS THE sha256 OF THE DUMP (.gsa) THAT YtdglcpepgodcpaaDoorProg.lean LOADS. Nothing in Lean hashes anything: it is a label: what it is worth is what the hold of that sum in a sandbox is worth. -/
noncomputable def Tryd.pinned : Pinned := { name := "ytdglcpepgodcpaadoor", sum := "1aa8190a7b440d554a36aca4eabf2132365147696a6c2d4065922a9032a2ca9e", checked := Tryd.checked }
namespace Rows
def none {H : Type} : Left H := { results := [], args := [] }

/- WHAT THE LISTED PACKAGE-LEVEL VARIABLES READ AS WHEN THE CALL BEGINS. Each datum BY PROGRAM (the guide's laid-datum.mjs) off the statement by which the dump's own 'gosem.cut.vars' lays the variable. In a bare row this is a premise. The card (YtdglcpepgodcpaaDoorCards.lean) ties it to the program's text. -/
def laid_clusterkernel_code_operations {H : Type} : DataW H := .agg [.agg [.lit (.string [110, 111, 112]), .lit (.string []), .lit (.int .i64 0), .lit (.int .i64 0)], .agg [.lit (.string [115, 101, 116]), .lit (.string [114, 110]), .lit (.int .i64 (-9007199254740992)), .lit (.int .i64 9007199254740992)], .agg [.lit (.string [109, 111, 118, 101]), .lit (.string [114, 114]), .lit (.int .i64 0), .lit (.int .i64 0)], .agg [.lit (.string [97, 100, 100]), .lit (.string [114, 114, 114]), .lit (.int .i64 0), .lit (.int .i64 0)], .agg [.lit (.string [115, 117, 98]), .lit (.string [114, 114, 114]), .lit (.int .i64 0), .lit (.int .i64 0)], .agg [.lit (.string [109, 117, 108]), .lit (.string [114, 114, 114]), .lit (.int .i64 0), .lit (.int .i64 0)], .agg [.lit (.string [108, 101, 115, 115]), .lit (.string [114, 114, 114]), .lit (.int .i64 0), .lit (.int .i64 0)], .agg [.lit (.string [101, 113, 117, 97, 108]), .lit (.string [114, 114, 114]), .lit (.int .i64 0), .lit (.int .i64 0)], .agg [.lit (.string [106, 117, 109, 112]), .lit (.string [116]), .lit (.int .i64 0), .lit (.int .i64 0)], .agg [.lit (.string [105, 102]), .lit (.string [114, 116]), .lit (.int .i64 0), .lit (.int .i64 0)], .agg [.lit (.string [108, 111, 97, 100]), .lit (.string [114, 114, 110]), .lit (.int .i64 0), .lit (.int .i64 256)], .agg [.lit (.string [115, 116, 111, 114, 101]), .lit (.string [114, 114, 110]), .lit (.int .i64 0), .lit (.int .i64 256)], .agg [.lit (.string [99, 97, 108, 108]), .lit (.string [110]), .lit (.int .i64 1), .lit (.int .i64 24)]]

/-- 'clusterkernellaw16.ProcessMany': WHATEVER THE INPUT: true; the input reads as it did. -/
def processManySpec : ChangeSpec := { name := "processMany", fn := fun _ => fun
  | [d] => { results := [.lit (.bool true)], args := [d] }
  | _ => none }
def processManyRow : OpenClaim := { program := "ytdglcpepgodcpaadoor", sum := "1aa8190a7b440d554a36aca4eabf2132365147696a6c2d4065922a9032a2ca9e", func := "clusterkernel/clusterkernellaw16.ProcessMany", spec := "processMany", unfollowed := true, recurses := true, named := ["clusterkernel/code.operations"], apart := false, laid := [("clusterkernel/code.operations", laid_clusterkernel_code_operations)] }
def ProcessManySaid : Prop := processManyRow.holds Tryd.pinned (OpenSpec.ofChange processManySpec)

/-- ITS FALSE NEIGHBOUR: 'it returns false'. Refute it at one input. -/
def processManyWrong : ChangeSpec := { name := "processMany", fn := fun _ => fun
  | [d] => { results := [.lit (.bool false)], args := [d] }
  | _ => none }
def ProcessManyWrongFalsely : Prop := processManyRow.holds Tryd.pinned (OpenSpec.ofChange processManyWrong)

/- THE SECOND FORM. 'bulk': how many values and letters a reading holds, each counted each time it is reached (what is shared counts as often as it is met; a slice's spare places count too). A statement '..UptoSaid' is the law's where the arguments, and the package variables that the reading takes, are together of bulk at most 1048576: NARROWER than '..Said'. Prove '..Said' where nothing that the law and all that it calls make is longer than what came in: it says more and counts as full. Else prove '..UptoSaid'. A law counts once. -/
mutual
def uptoBulk {H : Type} : DataW H → Nat
  | .lit (.string bytes) => bytes.length + 1
  | .lit _ => 1
  | .nil => 1
  | .ptr d => uptoBulk d + 1
  | .slice elems spare => uptoBulkAll elems + uptoBulkAll spare + 1
  | .agg parts => uptoBulkAll parts + 1
  | .iface _ d => uptoBulk d + 1
  | .map entries => uptoBulkEntries entries + 1
  | .held _ => 1
def uptoBulkAll {H : Type} : List (DataW H) → Nat
  | [] => 0
  | d :: r => uptoBulk d + uptoBulkAll r
def uptoBulkEntries {H : Type} : List (Lit × DataW H) → Nat
  | [] => 0
  | x :: r => uptoBulkEntry x + uptoBulkEntries r
def uptoBulkEntry {H : Type} : Lit × DataW H → Nat
  | (.string bytes, d) => bytes.length + uptoBulk d + 1
  | (_, d) => uptoBulk d + 1
 end
def uptoSmall : (H : Type) → List (DataW H) → Bool := fun _ ds => decide (uptoBulkAll ds ≤ 1048576)
def OpenSpec.upto (s : _root_.Go.ChangeSpec) : _root_.Go.OpenSpec := { _root_.Go.OpenSpec.ofChange s with cond := some uptoSmall }

/-- 'clusterkernellaw16.ProcessMany', WHERE WHAT IT READS IS OF BULK AT MOST 1048576: true; the input reads as it did. -/
def processManyUptoRow : OpenClaim := { program := "ytdglcpepgodcpaadoor", sum := "1aa8190a7b440d554a36aca4eabf2132365147696a6c2d4065922a9032a2ca9e", func := "clusterkernel/clusterkernellaw16.ProcessMany", spec := "processMany", unfollowed := true, recurses := true, named := ["clusterkernel/code.operations"], apart := false, laid := [("clusterkernel/code.operations", laid_clusterkernel_code_operations)], narrowed := true }
def ProcessManyUptoSaid : Prop := processManyUptoRow.holds Tryd.pinned (OpenSpec.upto processManySpec)

end Rows
end Go.Proofs.YtdglcpepgodcpaaDoor
