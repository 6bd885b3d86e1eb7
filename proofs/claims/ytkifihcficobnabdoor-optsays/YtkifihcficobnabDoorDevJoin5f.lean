/- What the developers' join's For does. -/
import Derived.Test.YtkifihcficobnabDoorOBase
namespace Go.Proofs.YtkifihcficobnabDoor
open Go.RowKit Go.Gs
set_option linter.unusedVariables false

theorem howFor_cases (k : Int) : (k = 6 ∧ howFor k = 2) ∨ (k = 8 ∧ howFor k = 3) ∨ (k = 7 ∧ howFor k = 4) ∨ (k = 9 ∧ howFor k = 4) ∨ (k = 10 ∧ howFor k = 4) ∨ (k ≠ 6 ∧ k ≠ 7 ∧ k ≠ 8 ∧ k ≠ 9 ∧ k ≠ 10 ∧ howFor k = 1) := by
  unfold howFor
  by_cases h6 : k = 6
  · simp [h6]
  · by_cases h8 : k = 8
    · simp [h8]
    · by_cases h7 : k = 7
      · simp [h7]
      · by_cases h9 : k = 9
        · simp [h9]
        · by_cases h10 : k = 10
          · simp [h10]
          · simp [*]

set_option maxRecDepth 100000 in
set_option maxHeartbeats 4000000 in
theorem for_is (c : Cmd) (w : World) (hw : c.word.length ≤ 9223372036854775807) :
    Calls Tryd.prog 44 #[c.v] w fun e w' => e = .returned (.tuple #[.int .i64 (if chk c = 0 then howFor c.kind else 0), .int .i64 (chk c)]) ∧ Below w.heap.size w w' := by
  have hchk := fun W => check_is c W hw
  obtain ⟨k, word, n⟩ := c
  unfold Cmd.v at hchk ⊢
  simp only at hchk ⊢
  generalize (⟨word.toArray⟩ : ByteArray) = sx at *
  by_cases h0 : chk ⟨k, word, n⟩ = 0
  · rw [h0] at hchk ⊢
    rw [if_pos rfl]
    have hkk := howFor_cases k
    clear h0
    generalize howFor k = h at *
    rcases hkk with ⟨rfl, rfl⟩ | ⟨rfl, rfl⟩ | ⟨rfl, rfl⟩ | ⟨rfl, rfl⟩ | ⟨rfl, rfl⟩ | ⟨h6, h7, h8, h9, h10, rfl⟩
    all_goals
      go_enter Tryd.func44, Tryd.ntmps44
      go_wp2_with fail
      refine (hchk _).mono ?_
      rintro e w1 ⟨rfl, hb1⟩
      obtain ⟨bx0, bx1, bx2⟩ := box3O hb1
      have HB : Hid (Below w.heap.size w w1) := box_of.trans (hb1.mono (by simp))
      clear hb1 hchk
      go_wp2_with fail
      go_ret2
      exact ⟨rfl, HB.out⟩
  · rw [if_neg h0]
    generalize chk ⟨k, word, n⟩ = r at *
    go_enter Tryd.func44, Tryd.ntmps44
    go_wp2_with fail
    refine (hchk _).mono ?_
    rintro e w1 ⟨rfl, hb1⟩
    have HB : Hid (Below w.heap.size w w1) := box_of.trans (hb1.mono (by simp))
    clear hb1 hchk
    go_wp2_with fail
    go_ret2
    exact ⟨rfl, HB.out⟩
end Go.Proofs.YtkifihcficobnabDoor
