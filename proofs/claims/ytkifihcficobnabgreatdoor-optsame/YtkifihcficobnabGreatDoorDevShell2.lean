/- What find does: slices.BinarySearchFunc at files that rise. -/
import Derived.Test.YtkifihcficobnabGreatDoorDevShell1
import Derived.Test.YtkifihcficobnabGreatDoorShelf
import Derived.Lib.Bytealg
import Derived.Laws.Shifts
namespace Go.Proofs.YtkifihcficobnabGreatDoor
open Go.RowKit Go.Gs
set_option linter.unusedVariables false

theorem cmp_rng : ∀ (a b : List UInt8), (Lib.compareBytes a b = -1 ∧ a < b) ∨ (Lib.compareBytes a b = 0 ∧ a = b) ∨ (Lib.compareBytes a b = 1 ∧ b < a)
  | [], [] => by simp [Lib.compareBytes]
  | [], _ :: _ => by simp [Lib.compareBytes]
  | _ :: _, [] => by simp [Lib.compareBytes]
  | x :: a, y :: b => by
    rw [Lib.compareBytes]
    by_cases h1 : x < y
    · rw [if_pos h1]; left; exact ⟨rfl, List.cons_lt_cons_iff.2 (.inl h1)⟩
    · rw [if_neg h1]
      by_cases h2 : y < x
      · rw [if_pos h2]; right; right; exact ⟨rfl, List.cons_lt_cons_iff.2 (.inl h2)⟩
      · rw [if_neg h2]
        have e : x = y := UInt8.le_antisymm (UInt8.not_lt.1 h2) (UInt8.not_lt.1 h1)
        subst e
        rcases cmp_rng a b with ⟨h, h'⟩ | ⟨h, h'⟩ | ⟨h, h'⟩
        · exact .inl ⟨h, List.cons_lt_cons_iff.2 (.inr ⟨rfl, h'⟩)⟩
        · exact .inr (.inl ⟨h, by rw [h']⟩)
        · exact .inr (.inr ⟨h, List.cons_lt_cons_iff.2 (.inr ⟨rfl, h'⟩)⟩)
theorem cmp_neg (a b : List UInt8) : Lib.compareBytes a b < 0 ↔ a < b := by
  rcases cmp_rng a b with ⟨h, h'⟩ | ⟨h, h'⟩ | ⟨h, h'⟩
  · rw [h]; simp [h']
  · rw [h, h']; simp
  · rw [h]
    have : ¬ a < b := fun x => List.lt_irrefl _ (List.lt_trans x h')
    simp [this]
theorem cmp_zero (a b : List UInt8) : Lib.compareBytes a b = 0 ↔ a = b := by
  rcases cmp_rng a b with ⟨h, h'⟩ | ⟨h, h'⟩ | ⟨h, h'⟩
  · rw [h]
    have : ¬ a = b := fun x => List.lt_irrefl _ (x ▸ h')
    simp [this]
  · rw [h, h']; simp
  · rw [h]
    have : ¬ a = b := fun x => List.lt_irrefl _ (x ▸ h')
    simp [this]

set_option maxRecDepth 100000 in
set_option maxHeartbeats 2000000 in
theorem find1_is (f : List UInt8) (vb : Value) (ab : Option Addr) (nb cb : Nat) (n : List UInt8) (w : World) :
    Calls Tryz.prog 87 #[.agg #[.string ⟨f.toArray⟩, .slice ab nb cb], .string ⟨n.toArray⟩] w fun e w' => e = .returned (.int .i64 (Lib.compareBytes f n)) ∧ Below w.heap.size w w' := by
  have hC : ∀ W : World, Calls Tryz.prog 88 #[.string ⟨f.toArray⟩, .string ⟨n.toArray⟩] W fun e w' => e = .returned (.int .i64 (Lib.compareBytes f n)) ∧ w' = W := fun W => Tryz.strings_Compare ⟨f.toArray⟩ ⟨n.toArray⟩ W
  have HC : Hid _ := hC
  generalize Lib.compareBytes f n = r at *
  generalize (⟨f.toArray⟩ : ByteArray) = fx at *
  generalize (⟨n.toArray⟩ : ByteArray) = nx at *
  clear hC
  go_enter Tryz.func87, Tryz.ntmps87
  go_wp2_with fail
  refine Calls.mono (HC.out _) ?_
  rintro e w2 ⟨rfl, rfl⟩
  go_wp2_with fail
  go_ret
  exact ⟨rfl, boxr_of⟩

end Go.Proofs.YtkifihcficobnabGreatDoor
