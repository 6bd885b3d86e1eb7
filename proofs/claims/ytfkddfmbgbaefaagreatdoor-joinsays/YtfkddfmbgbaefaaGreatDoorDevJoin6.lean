/- What the developers' join's Check does. -/
import Derived.Test.YtfkddfmbgbaefaaGreatDoorDevJoin5
import Derived.Laws.StructEq
namespace Go.Proofs.YtfkddfmbgbaefaaGreatDoor
open Go.RowKit Go.Gs
set_option linter.unusedVariables false

theorem jchk_range {how : Int} {c : Cmd} (h : how < 1 ∨ 4 < how) : jchk how c = 4 := by unfold jchk; rw [if_pos h]
theorem jchk_again {c : Cmd} : jchk 4 c = chk c := by unfold jchk; rw [if_neg (by omega), if_pos rfl]
theorem jchk_zero {how : Int} {c : Cmd} (h1 : 1 ≤ how) (h2 : how < 4) (h : c.kind = 0 ∧ c.word = [] ∧ c.n = 0) : jchk how c = 0 := by unfold jchk; rw [if_neg (by omega), if_neg (by omega), if_pos h]
theorem jchk_some {how : Int} {c : Cmd} (h1 : 1 ≤ how) (h2 : how < 4) (h : ¬ (c.kind = 0 ∧ c.word = [] ∧ c.n = 0)) : jchk how c = 4 := by unfold jchk; rw [if_neg (by omega), if_neg (by omega), if_neg h]

set_option maxRecDepth 100000 in
set_option maxHeartbeats 4000000 in
theorem jcheck_is (how : Int) (c : Cmd) (w : World) (hw : c.word.length ≤ 9223372036854775807) :
    Calls Tryz.prog 33 #[.int .i64 how, c.v] w fun e w' => e = .returned (.int .i64 (jchk how c)) ∧ Below w.heap.size w w' := by
  have hchk := fun W => check_is c W hw
  have hem := @empty_of c.word
  have hfu := @full_of c.word
  obtain ⟨k, word, n⟩ := c
  unfold Cmd.v at hchk ⊢
  simp only at hchk hem hfu ⊢
  by_cases hr : how < 1 ∨ 4 < how
  · rw [jchk_range hr]
    clear hchk hem hfu
    generalize (⟨word.toArray⟩ : ByteArray) = sx at *
    rcases hr with hr | hr
    · go_enter Tryz.func33, Tryz.ntmps33
      go_wp2_with fail
      go_ret
      exact ⟨rfl, box_of⟩
    · have hr' : ¬ how < 1 := by omega
      go_enter Tryz.func33, Tryz.ntmps33
      go_wp2_with fail
      go_ret
      exact ⟨rfl, box_of⟩
  · by_cases h4 : how = 4
    · subst h4
      rw [jchk_again]
      clear hem hfu
      generalize (⟨word.toArray⟩ : ByteArray) = sx at *
      generalize chk ⟨k, word, n⟩ = r at *
      go_enter Tryz.func33, Tryz.ntmps33
      go_wp2_with fail
      refine (hchk _).mono ?_
      rintro e w1 ⟨rfl, hb1⟩
      have HB : Hid (Below w.heap.size w w1) := box_of.trans (hb1.mono (by simp))
      clear hb1 hchk
      go_wp2_with fail
      go_ret
      exact ⟨rfl, HB.out⟩
    · have h1 : ¬ how < 1 := by omega
      have h2 : ¬ 4 < how := by omega
      clear hchk hr
      by_cases hz : k = 0 ∧ word = [] ∧ n = 0
      · obtain ⟨rfl, rfl, rfl⟩ := hz
        rw [jchk_zero (by omega) (by omega) ⟨rfl, rfl, rfl⟩]
        clear hem hfu
        go_enter Tryz.func33, Tryz.ntmps33
        go_wp2_with fail
        go_ret
        exact ⟨rfl, box_of⟩
      · rw [jchk_some (by omega) (by omega) hz]
        obtain ⟨d, hd⟩ : ∃ d, (⟨word.toArray⟩ : ByteArray).toList.isEmpty = d := ⟨_, rfl⟩
        have hfin : ¬ (k = 0 ∧ d = true ∧ n = 0) := by
          rintro ⟨h1, h2, h3⟩
          apply hz
          refine ⟨h1, ?_, h3⟩
          cases word with
          | nil => rfl
          | cons x r => rw [hfu (by simp)] at hd; rw [← hd] at h2; cases h2
        clear hz hem hfu
        generalize (⟨word.toArray⟩ : ByteArray) = sx at *
        go_enter Tryz.func33, Tryz.ntmps33
        go_wp2_with fail
        all_goals first | (go_ret; exact ⟨rfl, box_of⟩) | (exfalso; apply hfin; simp_all)

theorem strs_of {w : World} {b off : Nat} {ls : List (List UInt8)} (hc : ∀ j u, (ls.map S)[j]? = some u → w.cell? ⟨b, off + j, none⟩ = some u) : ∀ j, j < (ls.map fun l => (⟨l.toArray⟩ : ByteArray)).length → w.cell? ⟨b, off + j, none⟩ = some (.string ((ls.map fun l => (⟨l.toArray⟩ : ByteArray)).getD j ByteArray.empty)) := by
  intro j hj
  have hj' : j < ls.length := by simpa using hj
  have := hc j (S ls[j]) (by simp [hj'])
  rw [this]
  simp [S, List.getD_eq_getElem?_getD, hj']
theorem clone_is (v : Value) (ls : List (List UInt8)) (w : World) (hr : Reads w v ls.length (ls.map S)) (hl : ls.length ≤ 100000) :
    Calls Tryz.prog 114 #[v] w fun e w' => ∃ r, e = .returned r ∧ w'.ownsRow w.heap.size 9 1 r ls.length (ls.map S) ∧ Below w.heap.size w w' := by
  obtain ⟨_, ao, cap, rfl, h2, h3, h4⟩ := hr
  cases ao with
  | none =>
    have h0 : ls.length = 0 := by
      rcases Nat.eq_zero_or_pos ls.length with h | h
      · exact h
      · obtain ⟨b, off, e, _⟩ := h4 (by omega); cases e
    have hn : ls = [] := List.eq_nil_of_length_eq_zero h0
    subst hn
    refine (Any.slices_Clone_string_nil Tryz.laysClone _ cap w).mono ?_
    rintro e w' ⟨rfl, rfl⟩
    exact ⟨_, rfl, World.ownsRow_nil _ _ _ _, Below.refl _ _⟩
  | some a =>
    by_cases h0 : ls.length = 0
    · have hn : ls = [] := List.eq_nil_of_length_eq_zero h0
      subst hn
      refine (Any.slices_Clone_string_zero Tryz.laysClone a cap w).mono ?_
      rintro e w' ⟨r, rfl, h5, _, h6⟩
      exact ⟨_, rfl, h5, h6⟩
    · obtain ⟨b, off, e, hc⟩ := h4 h0
      injection e with e
      subst e
      refine (Any.slices_Clone_string Tryz.laysClone b off ls.length cap (ls.map fun l => ⟨l.toArray⟩) w (by simp) (by omega) (strs_of hc)).mono ?_
      rintro e w' ⟨r, rfl, h5, _, h6⟩
      refine ⟨_, rfl, ?_, h6⟩
      have he : ((ls.map fun l => (⟨l.toArray⟩ : ByteArray)).take ls.length).map Value.string = ls.map S := by
        rw [List.take_of_length_le (by simp), List.map_map]
        rfl
      rw [he] at h5
      exact h5
end Go.Proofs.YtfkddfmbgbaefaaGreatDoor
