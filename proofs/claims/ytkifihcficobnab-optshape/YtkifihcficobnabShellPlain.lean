/- Files and what a script makes of them, plainly: no walk. -/
import Derived.Test.YtkifihcficobnabScriptPlain
import Derived.Test.YtkifihcficobnabCmdMade
namespace Go.Gs
open Go.RowKit
set_option linter.unusedVariables false

structure SFile where
  name : List UInt8
  b : List UInt8

/-- CheckFiles' error of a file behind the one of that name. -/
def fbad (p : Option (List UInt8)) (f : SFile) : Int :=
  if isWord f.name = false then 1
  else if 4000 < f.b.length then 2
  else match p with
    | none => 0
    | some q => if q < f.name then 0 else 6
def fchkFrom : Option (List UInt8) → List SFile → Int
  | _, [] => 0
  | p, f :: r => if fbad p f = 0 then fchkFrom (some f.name) r else fbad p f
/-- CheckFiles. -/
def fchk (l : List SFile) : Int := if 12 < l.length then 2 else fchkFrom none l
/-- The bytes of a file; none, if it isn't there. -/
def fileOf (l : List SFile) (n : List UInt8) : List UInt8 := ((l.find? (fun f => f.name == n)).map SFile.b).getD []
def putF : List SFile → List UInt8 → List UInt8 → List SFile
  | [], n, b => [⟨n, b⟩]
  | f :: r, n, b => if f.name = n then ⟨n, b⟩ :: r else if n < f.name then ⟨n, b⟩ :: f :: r else f :: putF r n b
/-- Put into right files. -/
def putS (l : List SFile) (n b : List UInt8) : List SFile × Int :=
  if isWord n = false then ([], 1)
  else if 4000 < b.length then ([], 2)
  else if 12 < (putF l n b).length then ([], 2)
  else (putF l n b, 0)
def gatherL (l : List SFile) : List (List UInt8) → List UInt8 → List UInt8 × Int
  | [], acc => (acc, 0)
  | s :: r, acc => if 4000 < (acc ++ ended (lines (fileOf l s))).length then ([], 2) else gatherL l r (acc ++ ended (lines (fileOf l s)))
/-- Gather of right files. -/
def gather (l : List SFile) (fr : List (List UInt8)) : List UInt8 × Int := if 4 < fr.length then ([], 2) else gatherL l fr []
def doAll (cs : List Cmd) (b : List UInt8) : List UInt8 := cs.foldl (fun b c => ended (made c (lines b))) b
/-- Line of right files and a right line. -/
def lineOf (l : List SFile) (x : SLine) : List UInt8 × Int := if (gather l x.fr).2 = 0 then (doAll x.cs (gather l x.fr).1, 0) else ([], (gather l x.fr).2)
/-- Run of right files and a right script. -/
def runL : List SFile → List SLine → List SFile × Int
  | l, [] => (l, 0)
  | l, x :: r => if (lineOf l x).2 = 0 then (if (putS l x.to (lineOf l x).1).2 = 0 then runL (putS l x.to (lineOf l x).1).1 r else ([], (putS l x.to (lineOf l x).1).2)) else ([], (lineOf l x).2)
def runS (l : List SFile) (s : List SLine) : List SFile × Int := if fchk l = 0 then (if schk s = 0 then runL l s else ([], schk s)) else ([], fchk l)
end Go.Gs
