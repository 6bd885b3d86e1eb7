/- What the developers' Outs of a node does. -/
import Derived.Test.YtkifihcficobnabDoorOBase
namespace Go.Proofs.YtkifihcficobnabDoor
open Go.RowKit Go.Gs
set_option linter.unusedVariables false

/-- A node as a value. -/
def nodeV (n : SNode) (ai : Option Addr) (ni ci : Nat) : Value := .agg #[.int .i64 n.kind, .string ⟨n.file.toArray⟩, .int .i64 n.c.kind, .string ⟨n.c.word.toArray⟩, .int .i64 n.c.n, .int .i64 n.how, .int .i64 n.wide, .slice ai ni ci]

set_option maxRecDepth 100000 in
set_option maxHeartbeats 4000000 in
theorem outs_is (n : SNode) (ai : Option Addr) (ni ci : Nat) (w : World) :
    Calls Tryd.prog 41 #[nodeV n ai ni ci] w fun e w' => e = .returned (.int .i64 (nouts n)) ∧ Below w.heap.size w w' := by
  unfold nodeV nouts
  generalize n.kind = k
  generalize n.wide = wd
  generalize (⟨n.file.toArray⟩ : ByteArray) = fx
  generalize (⟨n.c.word.toArray⟩ : ByteArray) = wx
  generalize n.c.kind = ck
  generalize n.c.n = cn
  generalize n.how = hw
  by_cases h2 : k = 2
  · subst h2
    go_enter Tryd.func41, Tryd.ntmps41
    go_wp2_with fail
    go_ret
    exact ⟨rfl, box_of⟩
  · by_cases h5 : k = 5
    · subst h5
      go_enter Tryd.func41, Tryd.ntmps41
      go_wp2_with fail
      go_ret
      exact ⟨rfl, box_of⟩
    · rw [if_neg h2, if_neg h5]
      have e2 : (k == 2) = false := by simpa using h2
      have e5 : (k == 5) = false := by simpa using h5
      go_enter Tryd.func41, Tryd.ntmps41
      go_wp2_with fail
      go_ret
      exact ⟨rfl, box_of⟩
end Go.Proofs.YtkifihcficobnabDoor
