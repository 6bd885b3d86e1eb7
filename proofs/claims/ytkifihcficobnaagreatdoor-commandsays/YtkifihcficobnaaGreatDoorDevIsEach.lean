/- What the developers' Each answers. -/
import Derived.Test.YtkifihcficobnaaGreatDoorWordF
namespace Go.Proofs.YtkifihcficobnaaGreatDoor
open Go.RowKit Go.Gs
set_option linter.unusedVariables false

set_option maxRecDepth 100000 in
set_option maxHeartbeats 1000000 in
theorem each_is (c : Cmd) (w : World) :
    Calls Tryz.prog 16 #[c.v] w fun e w' => e = .returned (.bool (isEach c.kind)) ∧ Below w.heap.size w w' := by
  obtain ⟨k, word, n⟩ := c
  unfold Cmd.v isEach
  simp only
  by_cases h1 : 1 ≤ k
  · by_cases h2 : k ≤ 5
    · rw [decide_eq_true (show 1 ≤ k ∧ k ≤ 5 from ⟨h1, h2⟩)]
      go_enter Tryz.func16, Tryz.ntmps16
      go_wp2
      go_ret
      exact ⟨by first | rfl | simp | (simp; omega), box_of⟩
    · rw [decide_eq_false (show ¬ (1 ≤ k ∧ k ≤ 5) from fun h => h2 h.2)]
      go_enter Tryz.func16, Tryz.ntmps16
      go_wp2
      go_ret
      exact ⟨by first | rfl | simp | (simp; omega), box_of⟩
  · rw [decide_eq_false (show ¬ (1 ≤ k ∧ k ≤ 5) from fun h => h1 h.1)]
    go_enter Tryz.func16, Tryz.ntmps16
    go_wp2
    go_ret
    exact ⟨by first | rfl | simp | (simp; omega), box_of⟩
end Go.Proofs.YtkifihcficobnaaGreatDoor
