/-
  DERIVED. GIVEN WITH THE SEED: THE CARDS: each row of YtejhnfeligifgaaDoorRows.lean that lists a variable, with what it lists TIED to the program's text (the seventh form; the later family's looks); each row that meets fmt, with fmt's text TOLD by the authors' own Lean function (tested against real Go, not proved from fmt's source: count such statements apart). THE CARD IS WHAT COUNTS. Prove the row's statement (the work); the ties are given (YtejhnfeligifgaaDoorTie.lean); close each card by the builder's one call (the guide's Derived/Test/ToyasCard.lean, 'card_holds'). Laid BY PROGRAM, IN A SANDBOX (cutbox-door.mjs). By AI agents, Wed Nov 11 2026. No macro, syntax, notation, axiom, sorry.
-/
import Derived.Test.YtejhnfeligifgaaDoorRows
import GoSem.ClaimSeven
namespace Go.Proofs.YtejhnfeligifgaaDoor
namespace Rows

/-- THE TIED CARD OF 'clusterkernellaw09.NamesFinds'. -/
def namesFindsCard : Claim7 := { stood := { row := namesFindsRow, standIns := [], harness := (true, "1797f6bd066fe6bedd52bdc476662f030110f9d2ad6eca81b68779f7d9d2d64b"), looks := false }, kinds := [], alts := [], laidByText := true, laidKinds := [.data, .pinned], laidTests := true, laidLooks := .later }
def NamesFindsCardSaid : Prop := Claim7.holds Tryd.pinned (.plain (OpenSpec.ofChange namesFindsSpec)) namesFindsCard

/-- THE TIED CARD OF 'clusterkernellaw09.NamesChanges'. -/
def namesChangesCard : Claim7 := { stood := { row := namesChangesRow, standIns := [], harness := (true, "1797f6bd066fe6bedd52bdc476662f030110f9d2ad6eca81b68779f7d9d2d64b"), looks := false }, kinds := [], alts := [], laidByText := true, laidKinds := [.data, .pinned], laidTests := true, laidLooks := .later }
def NamesChangesCardSaid : Prop := Claim7.holds Tryd.pinned (.plain (OpenSpec.ofChange namesChangesSpec)) namesChangesCard

/-- THE TIED CARD OF 'clusterkernellaw09.NamesKeeps'. -/
def namesKeepsCard : Claim7 := { stood := { row := namesKeepsRow, standIns := [], harness := (true, "1797f6bd066fe6bedd52bdc476662f030110f9d2ad6eca81b68779f7d9d2d64b"), looks := false }, kinds := [], alts := [], laidByText := true, laidKinds := [.data, .pinned], laidTests := true, laidLooks := .later }
def NamesKeepsCardSaid : Prop := Claim7.holds Tryd.pinned (.plain (OpenSpec.ofChange namesKeepsSpec)) namesKeepsCard

/-- THE TIED CARD OF 'clusterkernellaw09.NamesOrder'. -/
def namesOrderCard : Claim7 := { stood := { row := namesOrderRow, standIns := [], harness := (true, "1797f6bd066fe6bedd52bdc476662f030110f9d2ad6eca81b68779f7d9d2d64b"), looks := false }, kinds := [], alts := [], laidByText := true, laidKinds := [.data, .pinned], laidTests := true, laidLooks := .later }
def NamesOrderCardSaid : Prop := Claim7.holds Tryd.pinned (.plain (OpenSpec.ofChange namesOrderSpec)) namesOrderCard

/-- THE SECOND FORM's CARD OF 'clusterkernellaw09.NamesFinds'. -/
def namesFindsUptoCard : Claim7 := { stood := { row := namesFindsUptoRow, standIns := [], harness := (true, "1797f6bd066fe6bedd52bdc476662f030110f9d2ad6eca81b68779f7d9d2d64b"), looks := false }, kinds := [], alts := [], laidByText := true, laidKinds := [.data, .pinned], laidTests := true, laidLooks := .later }
def NamesFindsUptoCardSaid : Prop := Claim7.holds Tryd.pinned (.plain (OpenSpec.upto namesFindsSpec)) namesFindsUptoCard

/-- THE SECOND FORM's CARD OF 'clusterkernellaw09.NamesChanges'. -/
def namesChangesUptoCard : Claim7 := { stood := { row := namesChangesUptoRow, standIns := [], harness := (true, "1797f6bd066fe6bedd52bdc476662f030110f9d2ad6eca81b68779f7d9d2d64b"), looks := false }, kinds := [], alts := [], laidByText := true, laidKinds := [.data, .pinned], laidTests := true, laidLooks := .later }
def NamesChangesUptoCardSaid : Prop := Claim7.holds Tryd.pinned (.plain (OpenSpec.upto namesChangesSpec)) namesChangesUptoCard

/-- THE SECOND FORM's CARD OF 'clusterkernellaw09.NamesKeeps'. -/
def namesKeepsUptoCard : Claim7 := { stood := { row := namesKeepsUptoRow, standIns := [], harness := (true, "1797f6bd066fe6bedd52bdc476662f030110f9d2ad6eca81b68779f7d9d2d64b"), looks := false }, kinds := [], alts := [], laidByText := true, laidKinds := [.data, .pinned], laidTests := true, laidLooks := .later }
def NamesKeepsUptoCardSaid : Prop := Claim7.holds Tryd.pinned (.plain (OpenSpec.upto namesKeepsSpec)) namesKeepsUptoCard

/-- THE SECOND FORM's CARD OF 'clusterkernellaw09.NamesOrder'. -/
def namesOrderUptoCard : Claim7 := { stood := { row := namesOrderUptoRow, standIns := [], harness := (true, "1797f6bd066fe6bedd52bdc476662f030110f9d2ad6eca81b68779f7d9d2d64b"), looks := false }, kinds := [], alts := [], laidByText := true, laidKinds := [.data, .pinned], laidTests := true, laidLooks := .later }
def NamesOrderUptoCardSaid : Prop := Claim7.holds Tryd.pinned (.plain (OpenSpec.upto namesOrderSpec)) namesOrderUptoCard
end Rows
end Go.Proofs.YtejhnfeligifgaaDoor
