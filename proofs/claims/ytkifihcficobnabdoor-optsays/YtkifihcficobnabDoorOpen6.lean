/- The kinds of a script's commands, as they are handed in, are numbers of the machine. -/
import Derived.Test.YtkifihcficobnabDoorOpen4
import Derived.Test.YtkifihcficobnabDoorRefLine
namespace Go.Proofs.YtkifihcficobnabDoor
open Go.RowKit Go.Gs Go.ChangeShapes Go.WideShapes Go.ChangeAt
set_option linter.unusedVariables false
variable {H : Type} {enc : TypeId × Value → H} {W : World} {base : Nat} {held : Bool} {fuel : Nat} {x : DataW H × List MemPlace}

theorem cmds_wf_open {v : Value} {cs : List Cmd} (hr : RCmds W v cs) (hf : DataW.trod enc Tryd.prog W base (fun _ => true) held fuel 30 [v] = some x) : ∀ c ∈ cs, (Lit.int .i64 c.kind).wf = true := by
  intro c hc
  obtain ⟨k, hk⟩ := List.getElem?_of_mem hc
  obtain ⟨ao, cap, rfl, _, _⟩ := hr.shape
  obtain ⟨b, off, rfl, hc0, _, _⟩ := hr.at hk
  have hlt : k < cs.length := (List.getElem?_eq_some_iff.1 hk).1
  rcases open_triples Tryd.underlying30 Tryd.underlying53 (by kernel_rfl) rfl rfl rfl (by kernel_rfl) (by kernel_rfl) (by kernel_rfl) hf with hcs | ⟨a, len, cap', V, hcs, hl, hm, hall⟩
  · simp at hcs
  · simp only [List.cons.injEq, and_true, Value.slice.injEq, Option.some.injEq] at hcs
    obtain ⟨rfl, rfl, rfl⟩ := hcs
    obtain ⟨q0, _, _, n, y0, y1, y2, g0, _, _⟩ := hall k hlt
    rw [add_plain4] at q0
    rw [hc0] at q0
    obtain ⟨z, e1, _, hwf⟩ := DataW.trod_int Tryd.underlying3 g0
    injection q0 with q0
    rw [← q0] at e1
    simp at e1
    rw [e1]
    exact hwf
theorem script_wf_open {v : Value} {ls : List SLine} (hr : RLines W v ls) (hf : DataW.trod enc Tryd.prog W base (fun _ => true) held fuel 22 [v] = some x) : ∀ x ∈ ls, WfL x := by
  intro y hy
  obtain ⟨k, hk⟩ := List.getElem?_of_mem hy
  obtain ⟨ao, cap, rfl, _, _⟩ := hr.shape
  obtain ⟨b, off, af, cf, ad, cd, rfl, hc0, hc1, hc2, h1, h2⟩ := hr.at hk
  have hlt : k < ls.length := (List.getElem?_eq_some_iff.1 hk).1
  rcases open_triples Tryd.underlying22 Tryd.underlying32 (by kernel_rfl) rfl rfl rfl (by kernel_rfl) (by kernel_rfl) (by kernel_rfl) hf with hcs | ⟨a, len, cap', V, hcs, hl, hm, hall⟩
  · simp at hcs
  · simp only [List.cons.injEq, and_true, Value.slice.injEq, Option.some.injEq] at hcs
    obtain ⟨rfl, rfl, rfl⟩ := hcs
    obtain ⟨_, q1, _, n, y0, y1, y2, _, g1, _⟩ := hall k hlt
    rw [add_plain4] at q1
    have e : W.cell? ⟨b, off + (k * 3 + 1), none⟩ = some (.slice ad y.cs.length cd) := by rw [← Nat.add_assoc]; exact hc1
    rw [e] at q1
    injection q1 with q1
    rw [← q1] at g1
    exact cmds_wf_open h2 g1
end Go.Proofs.YtkifihcficobnabDoor
