/-
  DERIVED. GIVEN WITH THE SEED: THE CARDS: each row of YtkifihcficobnaaGreatDoorRows.lean that lists a variable, with what it lists TIED to the program's text (the seventh form; the later family's looks); each row that meets fmt, with fmt's text TOLD by the authors' own Lean function (tested against real Go, not proved from fmt's source: count such statements apart). THE CARD IS WHAT COUNTS. Prove the row's statement (the work); the ties are given (YtkifihcficobnaaGreatDoorTie.lean); close each card by the builder's one call (the guide's Derived/Test/ToyasCard.lean, 'card_holds'). Laid BY PROGRAM, IN A SANDBOX (cutbox-door.mjs). By AI agents, Wed Nov 11 2026. No macro, syntax, notation, axiom, sorry.
-/
import Derived.Test.YtkifihcficobnaaGreatDoorRows
import GoSem.ClaimSeven
namespace Go.Proofs.YtkifihcficobnaaGreatDoor
namespace Rows

/-- THE TIED CARD OF 'gangsawlaw.CommandSays'. -/
def commandSaysCard : Claim7 := { stood := { row := commandSaysRow, standIns := [], harness := (true, "790c3de2eb1b544744ba31b23d74c66a5c0f44704a8cf47b50b3b9f57109ba6e"), looks := true }, kinds := [], alts := [], laidByText := true, laidKinds := [.data, .data, .data, .data, .pinned], laidTests := true, laidLooks := .later }
def CommandSaysCardSaid : Prop := Claim7.holds Tryz.pinned (.plain (OpenSpec.ofChange commandSaysSpec)) commandSaysCard

/-- THE TIED CARD OF 'gangsawlaw.CommandEach'. -/
def commandEachCard : Claim7 := { stood := { row := commandEachRow, standIns := [], harness := (true, "790c3de2eb1b544744ba31b23d74c66a5c0f44704a8cf47b50b3b9f57109ba6e"), looks := true }, kinds := [], alts := [], laidByText := true, laidKinds := [.data, .data, .data, .data, .pinned], laidTests := true, laidLooks := .later }
def CommandEachCardSaid : Prop := Claim7.holds Tryz.pinned (.plain (OpenSpec.ofChange commandEachSpec)) commandEachCard

/-- THE TIED CARD OF 'gangsawlaw.CommandTwice'. -/
def commandTwiceCard : Claim7 := { stood := { row := commandTwiceRow, standIns := [], harness := (true, "790c3de2eb1b544744ba31b23d74c66a5c0f44704a8cf47b50b3b9f57109ba6e"), looks := true }, kinds := [], alts := [], laidByText := true, laidKinds := [.data, .data, .data, .data, .pinned], laidTests := true, laidLooks := .later }
def CommandTwiceCardSaid : Prop := Claim7.holds Tryz.pinned (.plain (OpenSpec.ofChange commandTwiceSpec)) commandTwiceCard

/-- THE TIED CARD OF 'gangsawlaw.JoinSays'. -/
def joinSaysCard : Claim7 := { stood := { row := joinSaysRow, standIns := [], harness := (true, "790c3de2eb1b544744ba31b23d74c66a5c0f44704a8cf47b50b3b9f57109ba6e"), looks := true }, kinds := [], alts := [], laidByText := true, laidKinds := [.data, .data, .data, .data, .sentinel, .sentinel, .pinned], laidTests := true, laidLooks := .later }
def JoinSaysCardSaid : Prop := Claim7.holds Tryz.pinned (.plain (OpenSpec.ofChange joinSaysSpec)) joinSaysCard

/-- THE TIED CARD OF 'gangsawlaw.JoinWhole'. -/
def joinWholeCard : Claim7 := { stood := { row := joinWholeRow, standIns := [], harness := (true, "790c3de2eb1b544744ba31b23d74c66a5c0f44704a8cf47b50b3b9f57109ba6e"), looks := true }, kinds := [], alts := [], laidByText := true, laidKinds := [.data, .data, .data, .data, .sentinel, .sentinel, .pinned], laidTests := true, laidLooks := .later }
def JoinWholeCardSaid : Prop := Claim7.holds Tryz.pinned (.plain (OpenSpec.ofChange joinWholeSpec)) joinWholeCard

/-- THE TIED CARD OF 'gangsawlaw.JoinNest'. -/
def joinNestCard : Claim7 := { stood := { row := joinNestRow, standIns := [], harness := (true, "790c3de2eb1b544744ba31b23d74c66a5c0f44704a8cf47b50b3b9f57109ba6e"), looks := true }, kinds := [], alts := [], laidByText := true, laidKinds := [.data, .data, .data, .data, .sentinel, .sentinel, .pinned], laidTests := true, laidLooks := .later }
def JoinNestCardSaid : Prop := Claim7.holds Tryz.pinned (.plain (OpenSpec.ofChange joinNestSpec)) joinNestCard

/-- THE TIED CARD OF 'gangsawlaw.ScriptSays'. -/
def scriptSaysCard : Claim7 := { stood := { row := scriptSaysRow, standIns := [], harness := (true, "790c3de2eb1b544744ba31b23d74c66a5c0f44704a8cf47b50b3b9f57109ba6e"), looks := true }, kinds := [], alts := [], laidByText := true, laidKinds := [.data, .data, .data, .data, .sentinel, .sentinel, .listed, .data, .data, .pinned], laidTests := true, laidLooks := .later }
def ScriptSaysCardSaid : Prop := Claim7.holds Tryz.pinned (.plain (OpenSpec.ofChange scriptSaysSpec)) scriptSaysCard

/-- THE SECOND FORM's CARD OF 'gangsawlaw.CommandSays'. -/
def commandSaysUptoCard : Claim7 := { stood := { row := commandSaysUptoRow, standIns := [], harness := (true, "790c3de2eb1b544744ba31b23d74c66a5c0f44704a8cf47b50b3b9f57109ba6e"), looks := true }, kinds := [], alts := [], laidByText := true, laidKinds := [.data, .data, .data, .data, .pinned], laidTests := true, laidLooks := .later }
def CommandSaysUptoCardSaid : Prop := Claim7.holds Tryz.pinned (.plain (OpenSpec.upto commandSaysSpec)) commandSaysUptoCard

/-- THE SECOND FORM's CARD OF 'gangsawlaw.CommandEach'. -/
def commandEachUptoCard : Claim7 := { stood := { row := commandEachUptoRow, standIns := [], harness := (true, "790c3de2eb1b544744ba31b23d74c66a5c0f44704a8cf47b50b3b9f57109ba6e"), looks := true }, kinds := [], alts := [], laidByText := true, laidKinds := [.data, .data, .data, .data, .pinned], laidTests := true, laidLooks := .later }
def CommandEachUptoCardSaid : Prop := Claim7.holds Tryz.pinned (.plain (OpenSpec.upto commandEachSpec)) commandEachUptoCard

/-- THE SECOND FORM's CARD OF 'gangsawlaw.CommandTwice'. -/
def commandTwiceUptoCard : Claim7 := { stood := { row := commandTwiceUptoRow, standIns := [], harness := (true, "790c3de2eb1b544744ba31b23d74c66a5c0f44704a8cf47b50b3b9f57109ba6e"), looks := true }, kinds := [], alts := [], laidByText := true, laidKinds := [.data, .data, .data, .data, .pinned], laidTests := true, laidLooks := .later }
def CommandTwiceUptoCardSaid : Prop := Claim7.holds Tryz.pinned (.plain (OpenSpec.upto commandTwiceSpec)) commandTwiceUptoCard

/-- THE SECOND FORM's CARD OF 'gangsawlaw.JoinSays'. -/
def joinSaysUptoCard : Claim7 := { stood := { row := joinSaysUptoRow, standIns := [], harness := (true, "790c3de2eb1b544744ba31b23d74c66a5c0f44704a8cf47b50b3b9f57109ba6e"), looks := true }, kinds := [], alts := [], laidByText := true, laidKinds := [.data, .data, .data, .data, .sentinel, .sentinel, .pinned], laidTests := true, laidLooks := .later }
def JoinSaysUptoCardSaid : Prop := Claim7.holds Tryz.pinned (.plain (OpenSpec.upto joinSaysSpec)) joinSaysUptoCard

/-- THE SECOND FORM's CARD OF 'gangsawlaw.JoinWhole'. -/
def joinWholeUptoCard : Claim7 := { stood := { row := joinWholeUptoRow, standIns := [], harness := (true, "790c3de2eb1b544744ba31b23d74c66a5c0f44704a8cf47b50b3b9f57109ba6e"), looks := true }, kinds := [], alts := [], laidByText := true, laidKinds := [.data, .data, .data, .data, .sentinel, .sentinel, .pinned], laidTests := true, laidLooks := .later }
def JoinWholeUptoCardSaid : Prop := Claim7.holds Tryz.pinned (.plain (OpenSpec.upto joinWholeSpec)) joinWholeUptoCard

/-- THE SECOND FORM's CARD OF 'gangsawlaw.JoinNest'. -/
def joinNestUptoCard : Claim7 := { stood := { row := joinNestUptoRow, standIns := [], harness := (true, "790c3de2eb1b544744ba31b23d74c66a5c0f44704a8cf47b50b3b9f57109ba6e"), looks := true }, kinds := [], alts := [], laidByText := true, laidKinds := [.data, .data, .data, .data, .sentinel, .sentinel, .pinned], laidTests := true, laidLooks := .later }
def JoinNestUptoCardSaid : Prop := Claim7.holds Tryz.pinned (.plain (OpenSpec.upto joinNestSpec)) joinNestUptoCard

/-- THE SECOND FORM's CARD OF 'gangsawlaw.ScriptSays'. -/
def scriptSaysUptoCard : Claim7 := { stood := { row := scriptSaysUptoRow, standIns := [], harness := (true, "790c3de2eb1b544744ba31b23d74c66a5c0f44704a8cf47b50b3b9f57109ba6e"), looks := true }, kinds := [], alts := [], laidByText := true, laidKinds := [.data, .data, .data, .data, .sentinel, .sentinel, .listed, .data, .data, .pinned], laidTests := true, laidLooks := .later }
def ScriptSaysUptoCardSaid : Prop := Claim7.holds Tryz.pinned (.plain (OpenSpec.upto scriptSaysSpec)) scriptSaysUptoCard
end Rows
end Go.Proofs.YtkifihcficobnaaGreatDoor
