/- Scripts, plainly: no walk. -/
import Derived.Test.YtkifihcficobnabCmdPlain
import Derived.Lib.Split
import Derived.Lib.SplitLaws
import Derived.Lib.ItoaNum
import Derived.Lib.AtoiAllCases
import Derived.Lib.Join
namespace Go.Gs
open Go.RowKit
set_option linter.unusedVariables false

structure SLine where
  fr : List (List UInt8)
  cs : List Cmd
  to : List UInt8

def firstBad : List Int → Int
  | [] => 0
  | e :: r => if e = 0 then firstBad r else e

/-- CheckLine. -/
def lchk (l : SLine) : Int :=
  if l.fr.length < 1 ∨ 4 < l.fr.length ∨ 6 < l.cs.length then 2
  else if l.fr.all isWord = false then 1
  else if isWord l.to = false then 1
  else firstBad (l.cs.map chk)
/-- Check. -/
def schk (ls : List SLine) : Int := if 6 < ls.length then 2 else firstBad (ls.map lchk)

def vnames : List (List UInt8) := [[], [107, 101, 101, 112], [100, 114, 111, 112], [115, 119, 97, 112], [102, 105, 101, 108, 100], [116, 117, 114, 110], [115, 111, 114, 116], [111, 110, 99, 101], [99, 111, 117, 110, 116], [104, 101, 97, 100], [116, 97, 105, 108]]
def nameOf (k : Int) : List UInt8 := vnames.getD k.toNat []

def printed (c : Cmd) : List UInt8 :=
  if c.word ≠ [] then nameOf c.kind ++ 32 :: c.word
  else if c.n ≠ 0 then nameOf c.kind ++ 32 :: Lib.itoa c.n
  else nameOf c.kind
def doText (cs : List Cmd) : List UInt8 := (cs.map fun c => [32, 124, 32] ++ printed c).flatten
def rowText (l : SLine) : List UInt8 := Lib.join l.fr [32] ++ doText l.cs ++ ([32, 62, 32] ++ l.to ++ [10])
def stext (ls : List SLine) : List UInt8 := (ls.map rowText).flatten

def kindFrom (s : List UInt8) : Nat → Nat → Int
  | 0, _ => 0
  | f + 1, k => if nameOf k = s then k else kindFrom s f (k + 1)
def kindOf (s : List UInt8) : Int := kindFrom s 10 1

def parseNum (s : List UInt8) : Option Int :=
  match Lib.atoiAll s with
  | .ok n => if Lib.itoa n = s then some n else none
  | _ => none
def parseCmd (s : List UInt8) : Option Cmd :=
  let t := Lib.cut s [32]
  let k := kindOf t.1
  if k = 0 then none
  else if uses k = 1 then (if t.2.2 = true then some ⟨k, t.2.1, 0⟩ else none)
  else if uses k = 2 then (match parseNum t.2.1 with | some n => some ⟨k, [], n⟩ | none => none)
  else if t.2.2 = true then none else some ⟨k, [], 0⟩
def parseCmds : List (List UInt8) → Option (List Cmd)
  | [] => some []
  | p :: r => match parseCmd p with
    | none => none
    | some c => match parseCmds r with
      | none => none
      | some cs => some (c :: cs)
def parseLine (row : List UInt8) : Option SLine :=
  let t := Lib.cut row [32, 62, 32]
  if t.2.2 = false then none
  else match Lib.split t.1 [32, 124, 32] with
    | [] => none
    | p :: r => match parseCmds r with
      | none => none
      | some cs => some ⟨Lib.split p [32], cs, t.2.1⟩
def parseFin (found : List SLine) : List SLine × Nat × Int := if schk found = 0 then (found, 0, 0) else ([], 0, schk found)
def parseRest : Nat → List UInt8 → List SLine → List SLine × Nat × Int
  | 0, _, found => parseFin found
  | f + 1, rest, found =>
    if rest = [] then parseFin found
    else match (Lib.cut rest [10]).2.2, parseLine (Lib.cut rest [10]).1 with
      | true, some x => if lchk x = 0 then parseRest f (Lib.cut rest [10]).2.1 (found ++ [x]) else ([], found.length, lchk x)
      | _, _ => ([], found.length, 1)
def parseS (s : List UInt8) : List SLine × Nat × Int := if 8000 < s.length then ([], 0, 2) else parseRest (s.length + 1) s []

end Go.Gs
