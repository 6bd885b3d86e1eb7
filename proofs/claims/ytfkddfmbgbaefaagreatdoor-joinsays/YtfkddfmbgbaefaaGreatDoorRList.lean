/- Slices of slices that can be read. -/
import Derived.Test.YtfkddfmbgbaefaaGreatDoorLists
namespace Go.Proofs.YtfkddfmbgbaefaaGreatDoor
open Go.RowKit Go.Gs
set_option linter.unusedVariables false

/-- 'v' is a slice of slices that can be read; they read as 'pss'. -/
def RList {α : Type} (w : World) (v : Value) (f : α → Value) (pss : List (List α)) : Prop :=
  ∃ us : List Value, Reads w v pss.length us ∧ ∀ (j : Nat) (p : List α), pss[j]? = some p → ∃ u, us[j]? = some u ∧ Reads w u p.length (p.map f)
theorem RList.below {α : Type} {w w' : World} {v : Value} {f : α → Value} {pss : List (List α)} (h : RList w v f pss) (hb : Below w.heap.size w w') : RList w' v f pss := by
  obtain ⟨us, h1, h2⟩ := h
  refine ⟨us, h1.below hb, fun j p hj => ?_⟩
  obtain ⟨u, h3, h4⟩ := h2 j p hj
  exact ⟨u, h3, h4.below hb⟩
theorem RList.shape {α : Type} {w : World} {v : Value} {f : α → Value} {pss : List (List α)} (h : RList w v f pss) : ∃ ao cap, v = .slice ao pss.length cap ∧ pss.length ≤ cap ∧ cap ≤ maxLen := by
  obtain ⟨us, ⟨_, ao, cap, h2, h3, h4, _⟩, _⟩ := h
  exact ⟨ao, cap, h2, h3, h4⟩
/-- One of them: where it lies. -/
theorem RList.at {α : Type} {w : World} {ao : Option Addr} {n cap : Nat} {f : α → Value} {pss : List (List α)} (h : RList w (.slice ao n cap) f pss) {k : Nat} {p : List α} (hk : pss[k]? = some p) :
    ∃ b off au cu, ao = some ⟨b, off, none⟩ ∧ w.cell? ⟨b, off + k, none⟩ = some (.slice au p.length cu) ∧ Reads w (.slice au p.length cu) p.length (p.map f) := by
  obtain ⟨us, ⟨h1, ao', cap', e, _, _, h5⟩, h2⟩ := h
  injection e with e1 e2 e3
  subst e1
  obtain ⟨u, hu, hr⟩ := h2 k p hk
  obtain ⟨hkl, _⟩ := List.getElem?_eq_some_iff.1 hk
  obtain ⟨b, off, hao, hc⟩ := h5 (by omega)
  obtain ⟨hl, au, cu, rfl, hr'⟩ := hr
  exact ⟨b, off, au, cu, hao, hc k _ hu, hl, au, cu, rfl, hr'⟩
theorem flat_mem_le {α : Type} {pss : List (List α)} {p : List α} (h : p ∈ pss) : p.length ≤ pss.flatten.length := by
  obtain ⟨s, t, rfl⟩ := List.append_of_mem h
  simp
  omega
theorem flat_at_le {α : Type} {pss : List (List α)} {k : Nat} {p : List α} (h : pss[k]? = some p) : ((pss.take k).flatten).length + p.length ≤ pss.flatten.length := by
  have := flat_le pss (k + 1)
  rw [flat_step h, List.length_append] at this
  exact this
end Go.Proofs.YtfkddfmbgbaefaaGreatDoor
