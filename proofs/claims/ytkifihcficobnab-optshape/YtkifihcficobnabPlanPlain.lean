/- Plans, plainly: no walk. -/
import Derived.Test.YtkifihcficobnabFlowMath
namespace Go.Gs
open Go.RowKit
set_option linter.unusedVariables false

/-- Nodes, and the ports that go nowhere yet. -/
abbrev PD := List SNode × List (Int × Int)
def srcN (f : List UInt8) : SNode := ⟨1, f, noC, 0, 0, []⟩
def splitN (w : Nat) (ps : List (Int × Int)) : SNode := ⟨2, [], noC, 0, (w : Int), ps⟩
def workN (c : Cmd) (p : Int × Int) : SNode := ⟨3, [], c, 0, 0, [p]⟩
def joinN (how : Int) (c : Cmd) (ps : List (Int × Int)) : SNode := ⟨4, [], c, how, 0, ps⟩
def sinkN (f : List UInt8) (ps : List (Int × Int)) : SNode := ⟨5, f, noC, 0, 0, ps⟩
def newPorts (i k : Nat) : List (Int × Int) := (List.range k).map fun (j : Nat) => ((i : Int), (j : Int))
def onePort (i : Nat) : Int × Int := ((i : Int), 0)
def pSrc (d : PD) (f : List UInt8) : PD := (d.1 ++ [srcN f], d.2 ++ [onePort d.1.length])
def pJoinAll (how : Int) (c : Cmd) (d : PD) : PD := (d.1 ++ [joinN how c d.2], [onePort d.1.length])
def pBehind (d : PD) : PD := if 1 < d.2.length then pJoinAll 1 noC d else d
def pSplit (w : Nat) (d : PD) : PD := if d.2.length = 1 ∧ w ≠ 1 then (d.1 ++ [splitN w d.2], newPorts d.1.length w) else d
def pWork (c : Cmd) (d : PD) (p : Int × Int) : PD := (d.1 ++ [workN c p], d.2 ++ [onePort d.1.length])
def pWorks (c : Cmd) (d : PD) : PD := d.2.foldl (pWork c) (d.1, [])
def pJoin (w : Nat) (c : Cmd) (d : PD) : PD := if w = 1 ∨ isEach c.kind = true then d else pJoinAll (howFor c.kind) (if howFor c.kind = 4 then c else noC) d
def pCmd (w : Nat) (d : PD) (c : Cmd) : PD := pJoin w c (pWorks c (pSplit w d))
def pStart (fr : List (List UInt8)) : PD := fr.foldl pSrc ([], [])
def pFrom (fr : List (List UInt8)) : PD := pBehind (pStart fr)
def pDone (w : Nat) (fr : List (List UInt8)) (cs : List Cmd) : PD := cs.foldl (pCmd w) (pFrom fr)
def pSink (to : List UInt8) (d : PD) : List SNode := d.1 ++ [sinkN to d.2]
def plan (l : SLine) (w : Nat) : List SNode := pSink l.to (pBehind (pDone w l.fr l.cs))

theorem newPorts_len (i k : Nat) : (newPorts i k).length = k := by simp [newPorts]
theorem newPorts_one (i : Nat) : newPorts i 1 = [onePort i] := by simp [newPorts, onePort]
theorem pStart_snoc (fr : List (List UInt8)) (f : List UInt8) : pStart (fr ++ [f]) = pSrc (pStart fr) f := by simp [pStart]
theorem pDone_snoc (w : Nat) (fr : List (List UInt8)) (cs : List Cmd) (c : Cmd) : pDone w fr (cs ++ [c]) = pCmd w (pDone w fr cs) c := by simp [pDone]
theorem works_len (c : Cmd) : ∀ (op : List (Int × Int)) (d : PD), (op.foldl (pWork c) d).1.length = d.1.length + op.length ∧ (op.foldl (pWork c) d).2.length = d.2.length + op.length
  | [], d => by simp
  | p :: r, d => by
    have := works_len c r (pWork c d p)
    simp only [List.foldl_cons, List.length_cons]
    simp only [pWork, List.length_append, List.length_cons, List.length_nil] at this ⊢
    omega
/-- How many there are of either. -/
theorem pStart_len : ∀ (fr : List (List UInt8)) (d : PD), (fr.foldl pSrc d).1.length = d.1.length + fr.length ∧ (fr.foldl pSrc d).2.length = d.2.length + fr.length
  | [], d => by simp
  | p :: r, d => by
    have := pStart_len r (pSrc d p)
    simp only [List.foldl_cons, List.length_cons]
    simp only [pSrc, List.length_append, List.length_cons, List.length_nil] at this ⊢
    omega
theorem pBehind_len {d : PD} (h : 1 ≤ d.2.length) : (pBehind d).2.length = 1 ∧ d.1.length ≤ (pBehind d).1.length ∧ (pBehind d).1.length ≤ d.1.length + 1 := by
  unfold pBehind
  split
  · simp [pJoinAll]
  · omega
theorem pFrom_len {fr : List (List UInt8)} (h1 : 1 ≤ fr.length) (h4 : fr.length ≤ 4) : (pFrom fr).2.length = 1 ∧ (pFrom fr).1.length ≤ 5 := by
  obtain ⟨a, b⟩ := pStart_len fr ([], [])
  simp only [List.length_nil, Nat.zero_add] at a b
  obtain ⟨c, d, e⟩ := pBehind_len (d := pStart fr) (by unfold pStart; omega)
  unfold pFrom
  unfold pStart at c d e ⊢
  omega
theorem pSplit_len {w : Nat} {d : PD} (hw : 1 ≤ w ∧ w ≤ 5) (h : d.2.length = 1 ∨ d.2.length = w) : (pSplit w d).2.length = w ∧ d.1.length ≤ (pSplit w d).1.length ∧ (pSplit w d).1.length ≤ d.1.length + 1 := by
  unfold pSplit
  split
  · simp [newPorts_len]
  · rename_i h1
    rcases h with h | h
    · have : w = 1 := by by_cases e : w = 1; exact e; exact absurd ⟨h, e⟩ h1
      omega
    · omega
theorem pCmd_len {w : Nat} {d : PD} (hw : 1 ≤ w ∧ w ≤ 5) (h : d.2.length = 1 ∨ d.2.length = w) (c : Cmd) : ((pCmd w d c).2.length = 1 ∨ (pCmd w d c).2.length = w) ∧ (pCmd w d c).1.length ≤ d.1.length + 7 := by
  obtain ⟨a, b, e⟩ := pSplit_len hw h
  have w1 := works_len c (pSplit w d).2 ((pSplit w d).1, [])
  simp only [List.length_nil, Nat.zero_add] at w1
  unfold pCmd pJoin
  split
  · unfold pWorks; omega
  · unfold pWorks
    refine ⟨Or.inl rfl, ?_⟩
    simp only [pJoinAll, List.length_append, List.length_cons, List.length_nil]
    omega
theorem pDone_len {w : Nat} {fr : List (List UInt8)} (hw : 1 ≤ w ∧ w ≤ 5) (h1 : 1 ≤ fr.length) (h4 : fr.length ≤ 4) (cs : List Cmd) : ((pDone w fr cs).2.length = 1 ∨ (pDone w fr cs).2.length = w) ∧ (pDone w fr cs).1.length ≤ 5 + 7 * cs.length := by
  have gen : ∀ (cs : List Cmd) (d : PD), (d.2.length = 1 ∨ d.2.length = w) → ((cs.foldl (pCmd w) d).2.length = 1 ∨ (cs.foldl (pCmd w) d).2.length = w) ∧ (cs.foldl (pCmd w) d).1.length ≤ d.1.length + 7 * cs.length := by
    intro cs
    induction cs with
    | nil => intro d h; simp [h]
    | cons c r ih =>
      intro d h
      obtain ⟨a, b⟩ := pCmd_len hw h c
      obtain ⟨e, f⟩ := ih (pCmd w d c) a
      simp only [List.foldl_cons, List.length_cons]
      exact ⟨e, by omega⟩
  obtain ⟨a, b⟩ := pFrom_len h1 h4
  obtain ⟨e, f⟩ := gen cs (pFrom fr) (Or.inl a)
  unfold pDone
  exact ⟨e, by omega⟩
theorem plan_len {l : SLine} {w : Nat} (hw : 1 ≤ w ∧ w ≤ 5) (h : lchk l = 0) : (plan l w).length ≤ 49 ∧ (pBehind (pDone w l.fr l.cs)).2.length = 1 := by
  have h0 : ¬ (l.fr.length < 1 ∨ 4 < l.fr.length ∨ 6 < l.cs.length) := by
    intro h1; unfold lchk at h; rw [if_pos h1] at h; cases h
  obtain ⟨a, b⟩ := pDone_len hw (by omega : 1 ≤ l.fr.length) (by omega) l.cs
  obtain ⟨c, d, e⟩ := pBehind_len (d := pDone w l.fr l.cs) (by omega)
  refine ⟨?_, c⟩
  unfold plan pSink
  simp only [List.length_append, List.length_cons, List.length_nil]
  omega
end Go.Gs
