/-
  DERIVED. GIVEN WITH THE SEED: THE CARDS: each row of YtecgmepphgaofaaGreatDoorRows.lean that lists a variable, with what it lists TIED to the program's text (the seventh form; the later family's looks); each row that meets fmt, with fmt's text TOLD by the authors' own Lean function (tested against real Go, not proved from fmt's source: count such statements apart). THE CARD IS WHAT COUNTS. Prove the row's statement (the work); the ties are given (YtecgmepphgaofaaGreatDoorTie.lean); close each card by the builder's one call (the guide's Derived/Test/ToyasCard.lean, 'card_holds'). Laid BY PROGRAM, IN A SANDBOX (cutbox-door.mjs). By AI agents, Wed Nov 11 2026. No macro, syntax, notation, axiom, sorry.
-/
import Derived.Test.YtecgmepphgaofaaGreatDoorRows
import GoSem.ClaimSeven
namespace Go.Proofs.YtecgmepphgaofaaGreatDoor
namespace Rows

/-- THE TIED CARD OF 'gangsawlaw.CommandSays'. -/
def commandSaysCard : Claim7 := { stood := { row := commandSaysRow, standIns := [], harness := (true, "c7822a0bc7451c71012c9ac392ba8e92f0534d740ab589adc4bf755320bc4f47"), looks := false }, kinds := [], alts := [], laidByText := true, laidKinds := [.data, .data, .data, .data, .pinned], laidTests := true, laidLooks := .later }
def CommandSaysCardSaid : Prop := Claim7.holds Tryz.pinned (.plain (OpenSpec.ofChange commandSaysSpec)) commandSaysCard

/-- THE TIED CARD OF 'gangsawlaw.CommandEach'. -/
def commandEachCard : Claim7 := { stood := { row := commandEachRow, standIns := [], harness := (true, "c7822a0bc7451c71012c9ac392ba8e92f0534d740ab589adc4bf755320bc4f47"), looks := false }, kinds := [], alts := [], laidByText := true, laidKinds := [.data, .data, .data, .data, .pinned], laidTests := true, laidLooks := .later }
def CommandEachCardSaid : Prop := Claim7.holds Tryz.pinned (.plain (OpenSpec.ofChange commandEachSpec)) commandEachCard

/-- THE TIED CARD OF 'gangsawlaw.CommandTwice'. -/
def commandTwiceCard : Claim7 := { stood := { row := commandTwiceRow, standIns := [], harness := (true, "c7822a0bc7451c71012c9ac392ba8e92f0534d740ab589adc4bf755320bc4f47"), looks := false }, kinds := [], alts := [], laidByText := true, laidKinds := [.data, .data, .data, .data, .pinned], laidTests := true, laidLooks := .later }
def CommandTwiceCardSaid : Prop := Claim7.holds Tryz.pinned (.plain (OpenSpec.ofChange commandTwiceSpec)) commandTwiceCard

/-- THE SECOND FORM's CARD OF 'gangsawlaw.CommandSays'. -/
def commandSaysUptoCard : Claim7 := { stood := { row := commandSaysUptoRow, standIns := [], harness := (true, "c7822a0bc7451c71012c9ac392ba8e92f0534d740ab589adc4bf755320bc4f47"), looks := false }, kinds := [], alts := [], laidByText := true, laidKinds := [.data, .data, .data, .data, .pinned], laidTests := true, laidLooks := .later }
def CommandSaysUptoCardSaid : Prop := Claim7.holds Tryz.pinned (.plain (OpenSpec.upto commandSaysSpec)) commandSaysUptoCard

/-- THE SECOND FORM's CARD OF 'gangsawlaw.CommandEach'. -/
def commandEachUptoCard : Claim7 := { stood := { row := commandEachUptoRow, standIns := [], harness := (true, "c7822a0bc7451c71012c9ac392ba8e92f0534d740ab589adc4bf755320bc4f47"), looks := false }, kinds := [], alts := [], laidByText := true, laidKinds := [.data, .data, .data, .data, .pinned], laidTests := true, laidLooks := .later }
def CommandEachUptoCardSaid : Prop := Claim7.holds Tryz.pinned (.plain (OpenSpec.upto commandEachSpec)) commandEachUptoCard

/-- THE SECOND FORM's CARD OF 'gangsawlaw.CommandTwice'. -/
def commandTwiceUptoCard : Claim7 := { stood := { row := commandTwiceUptoRow, standIns := [], harness := (true, "c7822a0bc7451c71012c9ac392ba8e92f0534d740ab589adc4bf755320bc4f47"), looks := false }, kinds := [], alts := [], laidByText := true, laidKinds := [.data, .data, .data, .data, .pinned], laidTests := true, laidLooks := .later }
def CommandTwiceUptoCardSaid : Prop := Claim7.holds Tryz.pinned (.plain (OpenSpec.upto commandTwiceSpec)) commandTwiceUptoCard
end Rows
end Go.Proofs.YtecgmepphgaofaaGreatDoor
