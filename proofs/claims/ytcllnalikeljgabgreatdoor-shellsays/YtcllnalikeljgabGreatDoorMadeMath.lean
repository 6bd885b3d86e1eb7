/- What is put out line by line, kind by kind: no walk. -/
import Derived.Test.YtcllnalikeljgabGreatDoorPlainA
namespace Go.Gs
open Go.RowKit
set_option linter.unusedVariables false

theorem fm_succ (f : Nat → Option (List UInt8)) (k : Nat) : (List.range (k + 1)).filterMap f = (List.range k).filterMap f ++ (f k).toList := by
  rw [List.range_succ, List.filterMap_append]
  cases h : f k <;> simp [h]
theorem tk_succ {α : Type} {ls : List α} {k : Nat} (h : k < ls.length) : ls.take (k + 1) = ls.take k ++ [ls[k]] := by
  rw [List.take_add_one, List.getElem?_eq_getElem h]
  rfl

theorem fm_filter (ls : List (List UInt8)) (p : List UInt8 → Bool) (f : Nat → Option (List UInt8)) (hf : ∀ i s, ls[i]? = some s → f i = if p s = true then some s else none) : (List.range ls.length).filterMap f = ls.filter p := by
  have : ∀ k, k ≤ ls.length → (List.range k).filterMap f = (ls.take k).filter p := by
    intro k
    induction k with
    | zero => intro _; simp
    | succ k ih =>
      intro h
      rw [fm_succ, ih (by omega), tk_succ (by omega), List.filter_append, hf k _ (List.getElem?_eq_getElem (by omega))]
      congr 1
      split <;> simp_all
  have := this _ (Nat.le_refl _)
  rwa [List.take_length] at this
theorem fm_map (ls : List (List UInt8)) (g : List UInt8 → List UInt8) (f : Nat → Option (List UInt8)) (hf : ∀ i s, ls[i]? = some s → f i = some (g s)) : (List.range ls.length).filterMap f = ls.map g := by
  have : ∀ k, k ≤ ls.length → (List.range k).filterMap f = (ls.take k).map g := by
    intro k
    induction k with
    | zero => intro _; simp
    | succ k ih =>
      intro h
      rw [fm_succ, ih (by omega), tk_succ (by omega), List.map_append, hf k _ (List.getElem?_eq_getElem (by omega))]
      simp
  have := this _ (Nat.le_refl _)
  rwa [List.take_length] at this
theorem fm_head (ls : List (List UInt8)) (n : Int) (f : Nat → Option (List UInt8)) (hf : ∀ i s, ls[i]? = some s → f i = if (i : Int) < n then some s else none) : (List.range ls.length).filterMap f = ls.take n.toNat := by
  have : ∀ k, k ≤ ls.length → (List.range k).filterMap f = (ls.take k).take n.toNat := by
    intro k
    induction k with
    | zero => intro _; simp
    | succ k ih =>
      intro h
      rw [fm_succ, ih (by omega), tk_succ (by omega), List.take_append, hf k _ (List.getElem?_eq_getElem (by omega))]
      congr 1
      rw [List.length_take, Nat.min_eq_left (by omega)]
      by_cases hk : (k : Int) < n
      · rw [if_pos hk, List.take_of_length_le (by simp; omega)]; rfl
      · rw [if_neg hk, show n.toNat - k = 0 by omega]; rfl
  have := this _ (Nat.le_refl _)
  rwa [List.take_length] at this
theorem fm_tail (ls : List (List UInt8)) (n : Int) (hn : 0 ≤ n) (f : Nat → Option (List UInt8)) (hf : ∀ i s, ls[i]? = some s → f i = if (ls.length : Int) - n ≤ (i : Int) then some s else none) : (List.range ls.length).filterMap f = ls.drop (ls.length - n.toNat) := by
  have : ∀ k, k ≤ ls.length → (List.range k).filterMap f = (ls.take k).drop (ls.length - n.toNat) := by
    intro k
    induction k with
    | zero => intro _; simp
    | succ k ih =>
      intro h
      rw [fm_succ, ih (by omega), tk_succ (by omega), List.drop_append, hf k _ (List.getElem?_eq_getElem (by omega))]
      congr 1
      rw [List.length_take, Nat.min_eq_left (by omega)]
      by_cases hk : (ls.length : Int) - n ≤ (k : Int)
      · rw [if_pos hk, show ls.length - n.toNat - k = 0 by omega]; rfl
      · rw [if_neg hk, List.drop_of_length_le (by simp; omega)]; rfl
  have := this _ (Nat.le_refl _)
  rwa [List.take_length] at this
theorem fm_once (ls : List (List UInt8)) (f : Nat → Option (List UInt8)) (hf : ∀ i s, ls[i]? = some s → f i = if i = 0 ∨ ls[i - 1]? ≠ some s then some s else none) : (List.range ls.length).filterMap f = Lib.compact ls := by
  have : ∀ k, k ≤ ls.length → (List.range k).filterMap f = Lib.compactUpTo ls.toArray k := by
    intro k
    induction k with
    | zero => intro _; rfl
    | succ k ih =>
      intro h
      rw [fm_succ, ih (by omega), Lib.compactUpTo_succ, hf k _ (List.getElem?_eq_getElem (show k < ls.length by omega))]
      congr 1
      have e1 : ls.toArray[k]! = ls[k] := by simp [getElem!_pos, show k < ls.length by omega]
      have e2 : ls.toArray[k - 1]! = ls[k - 1] := by simp [getElem!_pos, show k - 1 < ls.length by omega]
      have e3 : ls[k - 1]? = some ls[k - 1] := List.getElem?_eq_getElem (by omega)
      unfold Lib.keeps
      rw [e1, e2, e3]
      by_cases hk : k = 0 ∨ some ls[k - 1] ≠ some ls[k]
      · have hk' : k = 0 ∨ ls[k] ≠ ls[k - 1] := hk.imp id (fun h e => h (by rw [e]))
        rw [if_pos hk, decide_eq_true hk', if_pos rfl]; rfl
      · have hk' : ¬ (k = 0 ∨ ls[k] ≠ ls[k - 1]) := fun h => hk (h.imp id (fun h e => h (by injection e with e; exact e.symm)))
        rw [if_neg hk, decide_eq_false hk']; rfl
  exact this _ (Nat.le_refl _)
end Go.Gs
