/- From the reading of a slice of files to one that can be read. -/
import Derived.Test.YtdmdbilbcandcabGreatDoorOpen
import Derived.Test.YtdmdbilbcandcabGreatDoorFilesA
import Derived.Test.YtdmdbilbcandcabGreatDoorProg
import Derived.Deep.Slices
import Derived.Deep.SlicePairs
namespace Go.Proofs.YtdmdbilbcandcabGreatDoor
open Go.RowKit Go.Gs Go.ChangeShapes Go.WideShapes Go.ChangeAt
set_option linter.unusedVariables false
variable {H : Type} {enc : TypeId × Value → H} {W : World} {base : Nat} {held : Bool} {fuel : Nat} {x : DataW H × List MemPlace}

theorem spot_none5 {w : World} {a : Addr} {k : Nat} {v : Value} (h : w.cell? (a.add k) = some v) (hk : k = 0) : a.spot = none := by
  obtain ⟨b, off, spot⟩ := a
  subst hk
  simpa [Addr.add] using World.cell?_spot h
theorem files_of_open {v : Value} (hf : DataW.trod enc Tryz.prog W base (fun _ => true) held fuel 22 [v] = some x) :
    ∃ fs : List SFile, RFiles W v fs ∧ (∀ f ∈ fs, FitsF f) ∧ ∀ n c, v = .slice none n c → c = 0 := by
  rcases Deep.open_slice_pairs Tryz.underlying22 Tryz.underlying45 (by kernel_rfl) rfl rfl (by kernel_rfl) (by kernel_rfl) hf with ⟨hcs, _⟩ | ⟨a, len, cap, m, n, V0, V1, D0, D1, P0, P1, hcs, hb, hl, hm, hmm, _, hall⟩
  · simp at hcs
    subst hcs
    exact ⟨[], ⟨none, 0, rfl, Nat.le_refl _, by simp, fun h => absurd rfl h⟩, (by intro c hc; cases hc), fun n c e => by injection e with _ _ e; exact e.symm⟩
  · simp at hcs
    subst hcs
    simp only [if_true] at hmm
    subst hmm
    have each : ∀ i, i < len → ∃ f : SFile, V0 i = .string ⟨f.name.toArray⟩ ∧ Reads W (V1 i) f.b.length (f.b.map U) ∧ FitsF f := by
      intro i hi
      obtain ⟨_, _, g0, g1⟩ := hall i (by omega)
      obtain ⟨s, e2, _, hs⟩ := DataW.trod_string Tryz.underlying9 g0
      simp at e2
      obtain ⟨a', l', c', hv⟩ : ∃ a' l' c', V1 i = .slice a' l' c' := by
        rcases open_ints Tryz.underlying24 Tryz.underlying5 (by kernel_rfl) g1 with ⟨hcs, _⟩ | ⟨ad', l', c', zs, hcs, _⟩
        · exact ⟨none, 0, 0, by simpa using hcs⟩
        · exact ⟨some ad', l', c', by simpa using hcs⟩
      rw [hv] at g1 ⊢
      obtain ⟨bs, hbl, hr⟩ := bytes_of_open Tryz.underlying24 Tryz.underlying5 (by kernel_rfl) g1
      refine ⟨⟨s.data.toList, bs⟩, e2, hr, ?_⟩
      unfold FitsF
      unfold maxLen at hs
      have : s.data.toList.length = s.size := Array.length_toList
      show s.data.toList.length ≤ _
      omega
    haveI : Inhabited SFile := ⟨⟨[], []⟩⟩
    obtain ⟨Y, hY⟩ := Deep.choose_lt each
    have hget : ∀ (j : Nat) (p : SFile), ((List.range len).map Y)[j]? = some p → j < len ∧ p = Y j := by
      intro j p hj
      rw [List.getElem?_map] at hj
      by_cases h1 : j < len
      · rw [List.getElem?_range h1] at hj
        simp only [Option.map_some, Option.some.injEq] at hj
        exact ⟨h1, hj.symm⟩
      · rw [List.getElem?_eq_none (by simp; omega)] at hj
        cases hj
    refine ⟨(List.range len).map Y, ⟨some a, m, by simp, by simpa using hl, hm, fun h0 => ?_⟩, fun f hf => ?_, fun n c e => by injection e with e; cases e⟩
    · have h0' : 0 < len := by
        rcases Nat.eq_zero_or_pos len with h | h
        · subst h; simp at h0
        · exact h
      have hspot := spot_none5 (hall 0 (by omega)).1 rfl
      obtain ⟨b, off, spot⟩ := a
      simp only at hspot
      subst hspot
      refine ⟨b, off, rfl, fun j f hj => ?_⟩
      obtain ⟨h1, rfl⟩ := hget j f hj
      obtain ⟨c0, c1, _, _⟩ := hall j (by omega)
      obtain ⟨q0, q1, _⟩ := hY j h1
      rw [Gs.add_plain] at c0 c1
      exact ⟨V1 j, by rw [c0, q0], by rw [Nat.add_assoc]; exact c1, q1⟩
    · obtain ⟨i, hi, rfl⟩ := List.mem_map.1 hf
      exact (hY i (List.mem_range.1 hi)).2.2
end Go.Proofs.YtdmdbilbcandcabGreatDoor
