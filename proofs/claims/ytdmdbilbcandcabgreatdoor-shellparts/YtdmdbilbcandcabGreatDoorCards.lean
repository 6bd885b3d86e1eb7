/-
  DERIVED. GIVEN WITH THE SEED: THE CARDS: each row of YtdmdbilbcandcabGreatDoorRows.lean that lists a variable, with what it lists TIED to the program's text (the seventh form; the later family's looks); each row that meets fmt, with fmt's text TOLD by the authors' own Lean function (tested against real Go, not proved from fmt's source: count such statements apart). THE CARD IS WHAT COUNTS. Prove the row's statement (the work); the ties are given (YtdmdbilbcandcabGreatDoorTie.lean); close each card by the builder's one call (the guide's Derived/Test/ToyasCard.lean, 'card_holds'). Laid BY PROGRAM, IN A SANDBOX (cutbox-door.mjs). By AI agents, Wed Nov 11 2026. No macro, syntax, notation, axiom, sorry.
-/
import Derived.Test.YtdmdbilbcandcabGreatDoorRows
import GoSem.ClaimSeven
namespace Go.Proofs.YtdmdbilbcandcabGreatDoor
namespace Rows

/-- THE TIED CARD OF 'gangsawlaw.ShellSays'. -/
def shellSaysCard : Claim7 := { stood := { row := shellSaysRow, standIns := [], harness := (true, "1342a3f9a1696f10c118caeb2a79babbf080ec4ab74b4f01165c64160da49088"), looks := false }, kinds := [], alts := [], laidByText := true, laidKinds := [.data, .data, .data, .data, .pinned], laidTests := true, laidLooks := .later }
def ShellSaysCardSaid : Prop := Claim7.holds Tryz.pinned (.plain (OpenSpec.ofChange shellSaysSpec)) shellSaysCard

/-- THE TIED CARD OF 'gangsawlaw.ShellFiles'. -/
def shellFilesCard : Claim7 := { stood := { row := shellFilesRow, standIns := [], harness := (true, "1342a3f9a1696f10c118caeb2a79babbf080ec4ab74b4f01165c64160da49088"), looks := false }, kinds := [], alts := [], laidByText := true, laidKinds := [.data, .data, .data, .data, .pinned], laidTests := true, laidLooks := .later }
def ShellFilesCardSaid : Prop := Claim7.holds Tryz.pinned (.plain (OpenSpec.ofChange shellFilesSpec)) shellFilesCard

/-- THE TIED CARD OF 'gangsawlaw.ShellParts'. -/
def shellPartsCard : Claim7 := { stood := { row := shellPartsRow, standIns := [], harness := (true, "1342a3f9a1696f10c118caeb2a79babbf080ec4ab74b4f01165c64160da49088"), looks := false }, kinds := [], alts := [], laidByText := true, laidKinds := [.data, .data, .data, .data, .pinned], laidTests := true, laidLooks := .later }
def ShellPartsCardSaid : Prop := Claim7.holds Tryz.pinned (.plain (OpenSpec.ofChange shellPartsSpec)) shellPartsCard

/-- THE SECOND FORM's CARD OF 'gangsawlaw.ShellSays'. -/
def shellSaysUptoCard : Claim7 := { stood := { row := shellSaysUptoRow, standIns := [], harness := (true, "1342a3f9a1696f10c118caeb2a79babbf080ec4ab74b4f01165c64160da49088"), looks := false }, kinds := [], alts := [], laidByText := true, laidKinds := [.data, .data, .data, .data, .pinned], laidTests := true, laidLooks := .later }
def ShellSaysUptoCardSaid : Prop := Claim7.holds Tryz.pinned (.plain (OpenSpec.upto shellSaysSpec)) shellSaysUptoCard

/-- THE SECOND FORM's CARD OF 'gangsawlaw.ShellFiles'. -/
def shellFilesUptoCard : Claim7 := { stood := { row := shellFilesUptoRow, standIns := [], harness := (true, "1342a3f9a1696f10c118caeb2a79babbf080ec4ab74b4f01165c64160da49088"), looks := false }, kinds := [], alts := [], laidByText := true, laidKinds := [.data, .data, .data, .data, .pinned], laidTests := true, laidLooks := .later }
def ShellFilesUptoCardSaid : Prop := Claim7.holds Tryz.pinned (.plain (OpenSpec.upto shellFilesSpec)) shellFilesUptoCard

/-- THE SECOND FORM's CARD OF 'gangsawlaw.ShellParts'. -/
def shellPartsUptoCard : Claim7 := { stood := { row := shellPartsUptoRow, standIns := [], harness := (true, "1342a3f9a1696f10c118caeb2a79babbf080ec4ab74b4f01165c64160da49088"), looks := false }, kinds := [], alts := [], laidByText := true, laidKinds := [.data, .data, .data, .data, .pinned], laidTests := true, laidLooks := .later }
def ShellPartsUptoCardSaid : Prop := Claim7.holds Tryz.pinned (.plain (OpenSpec.upto shellPartsSpec)) shellPartsUptoCard
end Rows
end Go.Proofs.YtdmdbilbcandcabGreatDoor
