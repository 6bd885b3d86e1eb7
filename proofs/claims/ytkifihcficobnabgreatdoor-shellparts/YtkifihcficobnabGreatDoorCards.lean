/-
  DERIVED. GIVEN WITH THE SEED: THE CARDS: each row of YtkifihcficobnabGreatDoorRows.lean that lists a variable, with what it lists TIED to the program's text (the seventh form; the later family's looks); each row that meets fmt, with fmt's text TOLD by the authors' own Lean function (tested against real Go, not proved from fmt's source: count such statements apart). THE CARD IS WHAT COUNTS. Prove the row's statement (the work); the ties are given (YtkifihcficobnabGreatDoorTie.lean); close each card by the builder's one call (the guide's Derived/Test/ToyasCard.lean, 'card_holds'). Laid BY PROGRAM, IN A SANDBOX (cutbox-door.mjs). By AI agents, Wed Nov 11 2026. No macro, syntax, notation, axiom, sorry.
-/
import Derived.Test.YtkifihcficobnabGreatDoorRows
import GoSem.ClaimSeven
namespace Go.Proofs.YtkifihcficobnabGreatDoor
namespace Rows

/-- THE TIED CARD OF 'gangsawlaw.ShellSays'. -/
def shellSaysCard : Claim7 := { stood := { row := shellSaysRow, standIns := [], harness := (true, "3362bf1fe45b9a080e5dce5b78c042e02bed3905de90870d10bda96e8ed63d94"), looks := true }, kinds := [], alts := [], laidByText := true, laidKinds := [.data, .data, .data, .data, .pinned], laidTests := true, laidLooks := .later }
def ShellSaysCardSaid : Prop := Claim7.holds Tryz.pinned (.plain (OpenSpec.ofChange shellSaysSpec)) shellSaysCard

/-- THE TIED CARD OF 'gangsawlaw.ShellFiles'. -/
def shellFilesCard : Claim7 := { stood := { row := shellFilesRow, standIns := [], harness := (true, "3362bf1fe45b9a080e5dce5b78c042e02bed3905de90870d10bda96e8ed63d94"), looks := true }, kinds := [], alts := [], laidByText := true, laidKinds := [.data, .data, .data, .data, .pinned], laidTests := true, laidLooks := .later }
def ShellFilesCardSaid : Prop := Claim7.holds Tryz.pinned (.plain (OpenSpec.ofChange shellFilesSpec)) shellFilesCard

/-- THE TIED CARD OF 'gangsawlaw.ShellParts'. -/
def shellPartsCard : Claim7 := { stood := { row := shellPartsRow, standIns := [], harness := (true, "3362bf1fe45b9a080e5dce5b78c042e02bed3905de90870d10bda96e8ed63d94"), looks := true }, kinds := [], alts := [], laidByText := true, laidKinds := [.data, .data, .data, .data, .pinned], laidTests := true, laidLooks := .later }
def ShellPartsCardSaid : Prop := Claim7.holds Tryz.pinned (.plain (OpenSpec.ofChange shellPartsSpec)) shellPartsCard

/-- THE TIED CARD OF 'gangsawlaw.GraphSays'. -/
def graphSaysCard : Claim7 := { stood := { row := graphSaysRow, standIns := [], harness := (true, "3362bf1fe45b9a080e5dce5b78c042e02bed3905de90870d10bda96e8ed63d94"), looks := true }, kinds := [], alts := [], laidByText := true, laidKinds := [.data, .data, .data, .data, .sentinel, .sentinel, .pinned], laidTests := true, laidLooks := .later }
def GraphSaysCardSaid : Prop := Claim7.holds Tryz.pinned (.plain (OpenSpec.ofChange graphSaysSpec)) graphSaysCard

/-- THE TIED CARD OF 'gangsawlaw.GraphFiles'. -/
def graphFilesCard : Claim7 := { stood := { row := graphFilesRow, standIns := [], harness := (true, "3362bf1fe45b9a080e5dce5b78c042e02bed3905de90870d10bda96e8ed63d94"), looks := true }, kinds := [], alts := [], laidByText := true, laidKinds := [.data, .data, .data, .data, .sentinel, .sentinel, .pinned], laidTests := true, laidLooks := .later }
def GraphFilesCardSaid : Prop := Claim7.holds Tryz.pinned (.plain (OpenSpec.ofChange graphFilesSpec)) graphFilesCard

/-- THE TIED CARD OF 'gangsawlaw.OptSame'. -/
def optSameCard : Claim7 := { stood := { row := optSameRow, standIns := [], harness := (true, "3362bf1fe45b9a080e5dce5b78c042e02bed3905de90870d10bda96e8ed63d94"), looks := true }, kinds := [], alts := [], laidByText := true, laidKinds := [.data, .data, .data, .data, .sentinel, .sentinel, .pinned], laidTests := true, laidLooks := .later }
def OptSameCardSaid : Prop := Claim7.holds Tryz.pinned (.plain (OpenSpec.ofChange optSameSpec)) optSameCard

/-- THE SECOND FORM's CARD OF 'gangsawlaw.ShellSays'. -/
def shellSaysUptoCard : Claim7 := { stood := { row := shellSaysUptoRow, standIns := [], harness := (true, "3362bf1fe45b9a080e5dce5b78c042e02bed3905de90870d10bda96e8ed63d94"), looks := true }, kinds := [], alts := [], laidByText := true, laidKinds := [.data, .data, .data, .data, .pinned], laidTests := true, laidLooks := .later }
def ShellSaysUptoCardSaid : Prop := Claim7.holds Tryz.pinned (.plain (OpenSpec.upto shellSaysSpec)) shellSaysUptoCard

/-- THE SECOND FORM's CARD OF 'gangsawlaw.ShellFiles'. -/
def shellFilesUptoCard : Claim7 := { stood := { row := shellFilesUptoRow, standIns := [], harness := (true, "3362bf1fe45b9a080e5dce5b78c042e02bed3905de90870d10bda96e8ed63d94"), looks := true }, kinds := [], alts := [], laidByText := true, laidKinds := [.data, .data, .data, .data, .pinned], laidTests := true, laidLooks := .later }
def ShellFilesUptoCardSaid : Prop := Claim7.holds Tryz.pinned (.plain (OpenSpec.upto shellFilesSpec)) shellFilesUptoCard

/-- THE SECOND FORM's CARD OF 'gangsawlaw.ShellParts'. -/
def shellPartsUptoCard : Claim7 := { stood := { row := shellPartsUptoRow, standIns := [], harness := (true, "3362bf1fe45b9a080e5dce5b78c042e02bed3905de90870d10bda96e8ed63d94"), looks := true }, kinds := [], alts := [], laidByText := true, laidKinds := [.data, .data, .data, .data, .pinned], laidTests := true, laidLooks := .later }
def ShellPartsUptoCardSaid : Prop := Claim7.holds Tryz.pinned (.plain (OpenSpec.upto shellPartsSpec)) shellPartsUptoCard

/-- THE SECOND FORM's CARD OF 'gangsawlaw.GraphSays'. -/
def graphSaysUptoCard : Claim7 := { stood := { row := graphSaysUptoRow, standIns := [], harness := (true, "3362bf1fe45b9a080e5dce5b78c042e02bed3905de90870d10bda96e8ed63d94"), looks := true }, kinds := [], alts := [], laidByText := true, laidKinds := [.data, .data, .data, .data, .sentinel, .sentinel, .pinned], laidTests := true, laidLooks := .later }
def GraphSaysUptoCardSaid : Prop := Claim7.holds Tryz.pinned (.plain (OpenSpec.upto graphSaysSpec)) graphSaysUptoCard

/-- THE SECOND FORM's CARD OF 'gangsawlaw.GraphFiles'. -/
def graphFilesUptoCard : Claim7 := { stood := { row := graphFilesUptoRow, standIns := [], harness := (true, "3362bf1fe45b9a080e5dce5b78c042e02bed3905de90870d10bda96e8ed63d94"), looks := true }, kinds := [], alts := [], laidByText := true, laidKinds := [.data, .data, .data, .data, .sentinel, .sentinel, .pinned], laidTests := true, laidLooks := .later }
def GraphFilesUptoCardSaid : Prop := Claim7.holds Tryz.pinned (.plain (OpenSpec.upto graphFilesSpec)) graphFilesUptoCard

/-- THE SECOND FORM's CARD OF 'gangsawlaw.OptSame'. -/
def optSameUptoCard : Claim7 := { stood := { row := optSameUptoRow, standIns := [], harness := (true, "3362bf1fe45b9a080e5dce5b78c042e02bed3905de90870d10bda96e8ed63d94"), looks := true }, kinds := [], alts := [], laidByText := true, laidKinds := [.data, .data, .data, .data, .sentinel, .sentinel, .pinned], laidTests := true, laidLooks := .later }
def OptSameUptoCardSaid : Prop := Claim7.holds Tryz.pinned (.plain (OpenSpec.upto optSameSpec)) optSameUptoCard
end Rows
end Go.Proofs.YtkifihcficobnabGreatDoor
