/- From the reading of a slice of lines of a script to one that can be read. -/
import Derived.Test.YtkifihcficobnabDoorOpen4l
namespace Go.Proofs.YtkifihcficobnabDoor
open Go.RowKit Go.Gs Go.ChangeShapes Go.WideShapes Go.ChangeAt
set_option linter.unusedVariables false

variable {P : Program} {H : Type} {enc : TypeId × Value → H} {W : World} {base : Nat} {held : Bool} {fuel : Nat} {t e q : TypeId} {x : DataW H × List MemPlace}

theorem script_of_open {v : Value} (hf : DataW.trod enc Tryd.prog W base (fun _ => true) held fuel 22 [v] = some x) :
    ∃ ls : List SLine, RLines W v ls ∧ (∀ x ∈ ls, FitsL x) ∧ ∀ n c, v = .slice none n c → c = 0 := by
  rcases open_triples Tryd.underlying22 Tryd.underlying32 (by kernel_rfl) rfl rfl rfl (by kernel_rfl) (by kernel_rfl) (by kernel_rfl) hf with hcs | ⟨a, len, cap, V, hcs, hl, hm, hall⟩
  · simp at hcs
    subst hcs
    exact ⟨[], ⟨none, 0, rfl, Nat.le_refl _, by simp, fun h => absurd rfl h⟩, (by intro c hc; cases hc), fun n c e => by injection e with _ _ e; exact e.symm⟩
  · simp at hcs
    subst hcs
    have each : ∀ i, i < len → ∃ x : SLine, (V i).2.2 = .string ⟨x.to.toArray⟩ ∧ Reads W (V i).1 x.fr.length (x.fr.map S) ∧ RCmds W (V i).2.1 x.cs ∧ FitsL x := by
      intro i hi
      obtain ⟨_, _, _, n, y0, y1, y2, g0, g1, g2⟩ := hall i hi
      obtain ⟨x, q1, q2, q3, q4, _⟩ := line_of_open g0 g1 g2
      exact ⟨x, q1, q2, q3, q4⟩
    haveI : Inhabited SLine := ⟨⟨[], [], []⟩⟩
    obtain ⟨Y, hY⟩ := Deep.choose_lt each
    refine ⟨(List.range len).map Y, ⟨some a, cap, by simp, by simpa using hl, hm, fun h0 => ?_⟩, fun c hc => ?_, fun n c e => by injection e with e; cases e⟩
    · have h0' : 0 < len := by
        rcases Nat.eq_zero_or_pos len with h | h
        · subst h; simp at h0
        · exact h
      have hspot := spot_none (hall 0 h0').1 rfl
      obtain ⟨b, off, spot⟩ := a
      simp only at hspot
      subst hspot
      refine ⟨b, off, rfl, fun j u hu => ?_⟩
      obtain ⟨h1, h2⟩ := range_get hu
      subst h2
      obtain ⟨b0, b1, b2, _⟩ := hall j h1
      obtain ⟨q1, q2, q3, _⟩ := hY j h1
      rw [add_plain4] at b0 b1 b2
      exact ⟨_, _, b0, b1, by rw [Nat.add_assoc, b2, q1], q2, q3⟩
    · obtain ⟨i, hi, rfl⟩ := List.mem_map.1 hc
      exact (hY i (List.mem_range.1 hi)).2.2.2
end Go.Proofs.YtkifihcficobnabDoor
