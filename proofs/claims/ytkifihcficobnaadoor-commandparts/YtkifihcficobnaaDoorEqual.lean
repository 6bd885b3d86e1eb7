/- slices.Equal at strings, over slices that can be read. -/
import Derived.Test.YtkifihcficobnaaDoorSubs
import Derived.Test.YtkifihcficobnaaDoorShelf
namespace Go.Proofs.YtkifihcficobnaaDoor
open Go.RowKit Go.Gs
set_option linter.unusedVariables false

theorem equal_str (v1 v2 : Value) (ls ms : List (List UInt8)) (w : World) (h1 : Reads w v1 ls.length (ls.map S)) (h2 : Reads w v2 ms.length (ms.map S)) :
    Calls Tryd.prog 13 #[v1, v2] w fun e w' => e = .returned (.bool (decide (ls = ms))) ∧ ∃ q, w' = w.drewN q := by
  obtain ⟨_, a1, c1, rfl, p1, p2, p3⟩ := h1
  obtain ⟨_, a2, c2, rfl, q1, q2, q3⟩ := h2
  have hm1 : ls.length ≤ 9223372036854775807 := by unfold maxLen at p2; omega
  have hm2 : ms.length ≤ 9223372036854775807 := by unfold maxLen at q2; omega
  by_cases hlen : ls.length = ms.length
  · by_cases h0 : ls.length = 0
    · have e1 : ls = [] := List.eq_nil_of_length_eq_zero h0
      have e2 : ms = [] := List.eq_nil_of_length_eq_zero (by omega)
      subst e1
      subst e2
      refine (Tryd.slices_Equal_string_empty a1 a2 c1 0 c2 w (by omega)).mono ?_
      rintro e w' ⟨rfl, rfl⟩
      exact ⟨rfl, 0, rfl⟩
    · obtain ⟨b1, o1, rfl, hc1⟩ := p3 h0
      obtain ⟨b2, o2, rfl, hc2⟩ := q3 (by omega)
      refine (Tryd.slices_Equal_string b1 o1 ls.length c1 b2 o2 ms.length c2 (ls.map str) (ms.map str) w (by simp) (by simp) hm1 hm2 (cells_str hc1) (cells_str hc2)).mono ?_
      rintro e w' ⟨rfl, q, rfl⟩
      refine ⟨?_, q, rfl⟩
      have : (List.take ls.length (ls.map str) = List.take ms.length (ms.map str)) = (ls = ms) := by
        rw [List.take_of_length_le (by simp), List.take_of_length_le (by simp)]
        exact propext (map_str_inj ls ms)
      simp only [this]
  · refine (Tryd.slices_Equal_string_lens a1 a2 ls.length c1 ms.length c2 w hlen).mono ?_
    rintro e w' ⟨rfl, rfl⟩
    have hne : ls ≠ ms := fun e => hlen (by rw [e])
    exact ⟨by simp [hne], 0, rfl⟩
end Go.Proofs.YtkifihcficobnaaDoor
