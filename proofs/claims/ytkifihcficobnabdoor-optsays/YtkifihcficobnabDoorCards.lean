/-
  DERIVED. GIVEN WITH THE SEED: THE CARDS: each row of YtkifihcficobnabDoorRows.lean that lists a variable, with what it lists TIED to the program's text (the seventh form; the later family's looks); each row that meets fmt, with fmt's text TOLD by the authors' own Lean function (tested against real Go, not proved from fmt's source: count such statements apart). THE CARD IS WHAT COUNTS. Prove the row's statement (the work); the ties are given (YtkifihcficobnabDoorTie.lean); close each card by the builder's one call (the guide's Derived/Test/ToyasCard.lean, 'card_holds'). Laid BY PROGRAM, IN A SANDBOX (cutbox-door.mjs). By AI agents, Wed Nov 11 2026. No macro, syntax, notation, axiom, sorry.
-/
import Derived.Test.YtkifihcficobnabDoorRows
import GoSem.ClaimSeven
namespace Go.Proofs.YtkifihcficobnabDoor
namespace Rows

/-- THE TIED CARD OF 'gangsawlaw.ScriptParts'. -/
def scriptPartsCard : Claim7 := { stood := { row := scriptPartsRow, standIns := [], harness := (true, "5bd3622a5260e1434572e818b296adca2b65f2f552ccbbd840117d822b6fa79a"), looks := true }, kinds := [], alts := [], laidByText := true, laidKinds := [.data, .data, .data, .data, .sentinel, .sentinel, .data, .pinned], laidTests := true, laidLooks := .later }
def ScriptPartsCardSaid : Prop := Claim7.holds Tryd.pinned (.plain (OpenSpec.ofChange scriptPartsSpec)) scriptPartsCard

/-- THE TIED CARD OF 'gangsawlaw.OptSays'. -/
def optSaysCard : Claim7 := { stood := { row := optSaysRow, standIns := [], harness := (true, "5bd3622a5260e1434572e818b296adca2b65f2f552ccbbd840117d822b6fa79a"), looks := true }, kinds := [], alts := [], laidByText := true, laidKinds := [.data, .pinned], laidTests := true, laidLooks := .later }
def OptSaysCardSaid : Prop := Claim7.holds Tryd.pinned (.plain (OpenSpec.ofChange optSaysSpec)) optSaysCard

/-- THE SECOND FORM's CARD OF 'gangsawlaw.ScriptParts'. -/
def scriptPartsUptoCard : Claim7 := { stood := { row := scriptPartsUptoRow, standIns := [], harness := (true, "5bd3622a5260e1434572e818b296adca2b65f2f552ccbbd840117d822b6fa79a"), looks := true }, kinds := [], alts := [], laidByText := true, laidKinds := [.data, .data, .data, .data, .sentinel, .sentinel, .data, .pinned], laidTests := true, laidLooks := .later }
def ScriptPartsUptoCardSaid : Prop := Claim7.holds Tryd.pinned (.plain (OpenSpec.upto scriptPartsSpec)) scriptPartsUptoCard

/-- THE SECOND FORM's CARD OF 'gangsawlaw.OptSays'. -/
def optSaysUptoCard : Claim7 := { stood := { row := optSaysUptoRow, standIns := [], harness := (true, "5bd3622a5260e1434572e818b296adca2b65f2f552ccbbd840117d822b6fa79a"), looks := true }, kinds := [], alts := [], laidByText := true, laidKinds := [.data, .pinned], laidTests := true, laidLooks := .later }
def OptSaysUptoCardSaid : Prop := Claim7.holds Tryd.pinned (.plain (OpenSpec.upto optSaysSpec)) optSaysUptoCard
end Rows
end Go.Proofs.YtkifihcficobnabDoor
