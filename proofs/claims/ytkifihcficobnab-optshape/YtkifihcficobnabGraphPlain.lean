/- Graphs, plainly: no walk. -/
import Derived.Test.YtkifihcficobnabShellPlain
import Derived.Test.YtkifihcficobnabJoinPlain
namespace Go.Gs
open Go.RowKit

structure SNode where
  kind : Int
  file : List UInt8
  c : Cmd
  how : Int
  wide : Int
  ins : List (Int × Int)

/-- How many outputs a node has. -/
def nouts (n : SNode) : Int := if n.kind = 2 then n.wide else if n.kind = 5 then 0 else 1
def zeroC (c : Cmd) : Bool := decide (c.kind = 0) && c.word.isEmpty && decide (c.n = 0)
/-- What is wrong with what a node's kind has a use for. -/
def nodeUsed (n : SNode) : Int :=
  if n.kind = 1 ∨ n.kind = 5 then (if isWord n.file then 0 else 1)
  else if n.kind = 2 then (if n.wide < 1 ∨ 5 < n.wide then 3 else 0)
  else if n.kind = 3 then chk n.c
  else if n.kind = 4 then jchk n.how n.c
  else 4
/-- May a node of a kind have so many inputs? -/
def mayHave (k : Int) (m : Nat) : Bool := if k = 1 then decide (m = 0) else if k = 4 then decide (1 ≤ m ∧ m ≤ 5) else decide (m = 1)
/-- Isn't something zero that a node's kind has no use for? -/
def hasUnused (n : SNode) : Bool :=
  (!decide (n.kind = 1 ∨ n.kind = 5) && !n.file.isEmpty) || (!decide (n.kind = 2) && !decide (n.wide = 0)) || (!decide (n.kind = 3 ∨ n.kind = 4) && !zeroC n.c) || (!decide (n.kind = 4) && !decide (n.how = 0))
def nodeChk (n : SNode) : Int := if nodeUsed n ≠ 0 then nodeUsed n else if !mayHave n.kind n.ins.length || hasUnused n then 4 else 0
/-- Is there such a port of a node ahead? -/
def portOk (ns : List SNode) (p : Int × Int) : Bool := decide (0 ≤ p.1) && decide (p.1 < ns.length) && decide (0 ≤ p.2) && ((ns[p.1.toNat]?).map (fun n => decide (p.2 < nouts n))).getD false
/-- Inputs, one by one, and which ports are taken then. -/
def insChk (ahead : List SNode) : List (Int × Int) → List (Int × Int) → Int × List (Int × Int)
  | [], t => (0, t)
  | p :: r, t => if portOk ahead p = false then (5, t) else if p ∈ t then (6, t) else insChk ahead r (t ++ [p])
/-- Nodes, one by one. -/
def gchkL : List SNode → List SNode → List (Int × Int) → Int × List (Int × Int)
  | _, [], t => (0, t)
  | ahead, n :: r, t =>
    if nodeChk n ≠ 0 then (nodeChk n, t)
    else if (insChk ahead n.ins t).1 ≠ 0 then insChk ahead n.ins t
    else if r.isEmpty ≠ decide (n.kind = 5) then (4, t)
    else gchkL (ahead ++ [n]) r (insChk ahead n.ins t).2
def allOuts (ns : List SNode) : Int := (ns.map nouts).sum
def gchk (ns : List SNode) : Int :=
  if 60 < ns.length then 2
  else if (gchkL [] ns []).1 ≠ 0 then (gchkL [] ns []).1
  else if ns.length = 0 ∨ ((gchkL [] ns []).2.length : Int) ≠ allOuts ns then 4
  else 0

/-- What is at a port. -/
def portAt (outs : List (List (List UInt8))) (p : Int × Int) : List UInt8 := ((outs[p.1.toNat]?).getD [])[p.2.toNat]?.getD []
/-- Part k of p. -/
def partOf (bs : List UInt8) (p k : Nat) : List UInt8 := ended (((lines bs).take ((k + 1) * (lines bs).length / p)).drop (k * (lines bs).length / p))
/-- What a node makes of what comes in. -/
def nodeMade (n : SNode) (fs : List SFile) (ins : List (List UInt8)) : List (List UInt8) :=
  if n.kind = 1 then [ended (lines (fileOf fs n.file))]
  else if n.kind = 2 then (List.range n.wide.toNat).map (partOf (ins.head?.getD []) n.wide.toNat)
  else if n.kind = 3 then [ended (made n.c (lines (ins.head?.getD [])))]
  else if n.kind = 4 then [ended (joined n.how n.c (ins.map lines))]
  else []
def outsL (fs : List SFile) : List (List (List UInt8)) → List SNode → List (List (List UInt8))
  | acc, [] => acc
  | acc, n :: r => outsL fs (acc ++ [nodeMade n fs (n.ins.map (portAt acc))]) r
/-- What comes into the sink of a right graph. -/
def sunk (ns : List SNode) (fs : List SFile) : List UInt8 := ((ns.getLast?).map (fun n => portAt (outsL fs [] ns) (n.ins.head?.getD (0, 0)))).getD []
def evalS (ns : List SNode) (fs : List SFile) : List UInt8 × Int := if gchk ns ≠ 0 then ([], gchk ns) else if fchk fs ≠ 0 then ([], fchk fs) else (sunk ns fs, 0)
end Go.Gs
