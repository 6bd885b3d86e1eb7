/- What the reference's CheckJoin does. -/
import Derived.Test.YtkifihcficobnaaGreatDoorJoinC
import Derived.Test.YtkifihcficobnaaGreatDoorRefCheck2
namespace Go.Proofs.YtkifihcficobnaaGreatDoor
open Go.RowKit Go.Gs
set_option linter.unusedVariables false

set_option maxRecDepth 100000 in
set_option maxHeartbeats 4000000 in
theorem jcheck_ref (how : Int) (c : Cmd) (w : World) (hkw : (Lit.int .i64 c.kind).wf = true) (hw : c.word.length ≤ 9223372036854775807) :
    Calls Tryz.prog 32 #[.int .i64 how, c.v] w fun e w' => e = .returned (.int .i64 (jchk how c)) ∧ Below w.heap.size w w' := by
  have hchk := fun W => check_ref c W hkw hw
  have hfu := @full_of c.word
  obtain ⟨k, word, n⟩ := c
  unfold Cmd.v at hchk ⊢
  simp only at hchk hfu ⊢
  by_cases hr : how < 1 ∨ 4 < how
  · rw [jchk_range hr]
    clear hchk hfu
    generalize (⟨word.toArray⟩ : ByteArray) = sx at *
    rcases hr with hr | hr
    · go_enter Tryz.func32, Tryz.ntmps32
      go_wp2_with fail
      go_ret
      exact ⟨rfl, box_of⟩
    · have hr' : ¬ how < 1 := by omega
      go_enter Tryz.func32, Tryz.ntmps32
      go_wp2_with fail
      go_ret
      exact ⟨rfl, box_of⟩
  · by_cases h4 : how = 4
    · subst h4
      rw [jchk_again]
      clear hfu
      generalize (⟨word.toArray⟩ : ByteArray) = sx at *
      generalize chk ⟨k, word, n⟩ = r at *
      go_enter Tryz.func32, Tryz.ntmps32
      go_wp2_with fail
      refine (hchk _).mono ?_
      rintro e w1 ⟨rfl, hb1⟩
      have HB : Hid (Below w.heap.size w w1) := box_of.trans (hb1.mono (by simp))
      clear hb1 hchk
      go_wp2_with fail
      go_ret
      exact ⟨rfl, HB.out⟩
    · have h1 : ¬ how < 1 := by omega
      have h2 : ¬ 4 < how := by omega
      have h4' : (how == 4) = false := by simpa using h4
      have h4b : (how != 4) = true := by simpa using h4
      clear hchk hr
      by_cases hz : k = 0 ∧ word = [] ∧ n = 0
      · obtain ⟨rfl, rfl, rfl⟩ := hz
        rw [jchk_zero (by omega) (by omega) ⟨rfl, rfl, rfl⟩]
        clear hfu
        go_enter Tryz.func32, Tryz.ntmps32
        go_wp2_with fail
        go_ret
        exact ⟨rfl, box_of⟩
      · rw [jchk_some (by omega) (by omega) hz]
        obtain ⟨d, hd⟩ : ∃ d, (⟨word.toArray⟩ : ByteArray).toList.isEmpty = d := ⟨_, rfl⟩
        have hfin : ¬ (k = 0 ∧ d = true ∧ n = 0) := by
          rintro ⟨h1, h2, h3⟩
          apply hz
          refine ⟨h1, ?_, h3⟩
          cases word with
          | nil => rfl
          | cons x r => rw [hfu (by simp)] at hd; rw [← hd] at h2; cases h2
        clear hz hfu
        generalize (⟨word.toArray⟩ : ByteArray) = sx at *
        go_enter Tryz.func32, Tryz.ntmps32
        go_wp2_with fail
        all_goals first | (go_ret; exact ⟨rfl, box_of⟩) | (exfalso; apply hfin; simp_all)
end Go.Proofs.YtkifihcficobnaaGreatDoor
