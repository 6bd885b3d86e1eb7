/- What is gathered, at once, plainly: no walk. -/
import Derived.Test.YtkifihcficobnabFindMath
namespace Go.Gs
open Go.RowKit
set_option linter.unusedVariables false

theorem bad_noFeed : ∀ (l : List (List UInt8)) (room : Nat), (∀ s ∈ l, (10 : UInt8) ∉ s) → bad room l = if room < (ended l).length then 2 else 0
  | [], room, _ => by simp [bad, ended]
  | s :: r, room, h => by
    have h1 : (10 : UInt8) ∉ s := h s (by simp)
    have ih := bad_noFeed r (room - (s.length + 1)) (fun x hx => h x (by simp [hx]))
    unfold bad
    rw [if_neg h1, ih]
    have e : (ended (s :: r)).length = s.length + 1 + (ended r).length := by simp [ended]; omega
    rw [e]
    by_cases h2 : room ≤ s.length
    · rw [if_pos h2, if_pos (by omega)]
    · rw [if_neg h2]
      by_cases h3 : room < s.length + 1 + (ended r).length
      · rw [if_pos h3, if_pos (by omega)]
      · rw [if_neg h3, if_neg (by omega)]
/-- The lines of some files, one file behind the other. -/
def allLines (fs : List SFile) (fr : List (List UInt8)) : List (List UInt8) := (fr.map fun s => lines (fileOf fs s)).flatten
theorem allLines_noFeed (fs : List SFile) (fr : List (List UInt8)) : ∀ s ∈ allLines fs fr, (10 : UInt8) ∉ s := by
  intro s hs
  unfold allLines at hs
  rw [List.mem_flatten] at hs
  obtain ⟨l, hl, hsl⟩ := hs
  obtain ⟨n, _, rfl⟩ := List.mem_map.1 hl
  exact lines_noFeed _ s hsl
theorem allLines_snoc (fs : List SFile) (fr : List (List UInt8)) (n : List UInt8) : allLines fs (fr ++ [n]) = allLines fs fr ++ lines (fileOf fs n) := by simp [allLines]
theorem gatherL_at (fs : List SFile) : ∀ (fr : List (List UInt8)) (acc : List UInt8), acc.length ≤ 4000 → gatherL fs fr acc = if 4000 < (acc ++ ended (allLines fs fr)).length then ([], 2) else (acc ++ ended (allLines fs fr), 0)
  | [], acc, h => by
    rw [gatherL, show allLines fs [] = [] from rfl]
    have e : acc ++ ended [] = acc := by simp [ended]
    rw [e, if_neg (by omega)]
  | s :: r, acc, h => by
    have e : acc ++ ended (allLines fs (s :: r)) = (acc ++ ended (lines (fileOf fs s))) ++ ended (allLines fs r) := by
      rw [show allLines fs (s :: r) = lines (fileOf fs s) ++ allLines fs r from rfl]
      simp [ended]
    rw [gatherL, e]
    by_cases h1 : 4000 < (acc ++ ended (lines (fileOf fs s))).length
    · rw [if_pos h1, if_pos (by rw [List.length_append]; omega)]
    · rw [if_neg h1, gatherL_at fs r _ (by omega)]
theorem gather_at (fs : List SFile) (fr : List (List UInt8)) (h : ¬ 4 < fr.length) : gather fs fr = if bad 4000 (allLines fs fr) = 0 then (ended (allLines fs fr), 0) else ([], bad 4000 (allLines fs fr)) := by
  unfold gather
  rw [if_neg h, gatherL_at fs fr [] (by simp), List.nil_append, bad_noFeed _ _ (allLines_noFeed fs fr)]
  by_cases h1 : 4000 < (ended (allLines fs fr)).length
  · rw [if_pos h1, if_pos h1]; rfl
  · rw [if_neg h1, if_neg h1]; rfl
end Go.Gs
