/- A number's numeral is read back: no walk. -/
import Derived.Test.YtkifihcficobnabJoinPlain
import Derived.Lib.AtoiAllCases
namespace Go.Gs
open Go.RowKit
set_option linter.unusedVariables false

theorem parse_snoc (l : List UInt8) (c : UInt8) : ∀ (acc m : Nat), Lib.parseUint10 acc l = .ok m → Lib.parseUint10 acc (l ++ [c]) = Lib.parseUint10 m [c] := by
  induction l with
  | nil =>
    intro acc m h
    simp only [Lib.parseUint10] at h
    injection h with h
    rw [h]; rfl
  | cons a l ih =>
    intro acc m h
    rw [List.cons_append, Lib.parseUint10]
    rw [Lib.parseUint10] at h
    split at h
    · rename_i h1
      rw [if_pos h1]
      split at h
      · cases h
      · rename_i h2
        rw [if_neg h2]
        split at h
        · cases h
        · rename_i h3
          rw [if_neg h3]
          exact ih _ _ h
    · cases h
theorem digit_byte (d : Nat) (h : d < 10) : (UInt8.ofNat (48 + d)).toNat = 48 + d := by
  rw [UInt8.toNat_ofNat']
  exact Nat.mod_eq_of_lt (by omega)
theorem parse_digits : ∀ u : Nat, u ≤ 1000000 → Lib.parseUint10 0 (Lib.decDigits u) = .ok u := by
  intro u
  induction u using Nat.strongRecOn with
  | ind u ih =>
    intro hu
    rw [Lib.decDigits]
    split
    · rename_i h
      simp only [Lib.parseUint10, digit_byte u h]
      rw [if_pos (by omega), if_neg (by omega), if_neg (by omega)]
      congr 1; omega
    · rename_i h
      rw [parse_snoc _ _ _ _ (ih (u / 10) (by omega) (by omega))]
      simp only [Lib.parseUint10, digit_byte (u % 10) (Nat.mod_lt _ (by omega))]
      rw [if_pos (by omega), if_neg (by omega), if_neg (by omega)]
      congr 1; omega
theorem digits_head : ∀ u : Nat, ∃ c r, Lib.decDigits u = c :: r ∧ 48 ≤ c.toNat ∧ c.toNat ≤ 57 := by
  intro u
  induction u using Nat.strongRecOn with
  | ind u ih =>
    rw [Lib.decDigits]
    split
    · rename_i h
      exact ⟨_, [], rfl, by rw [digit_byte u h]; omega, by rw [digit_byte u h]; omega⟩
    · rename_i h
      obtain ⟨c, r, e, h1, h2⟩ := ih (u / 10) (by omega)
      exact ⟨c, r ++ [UInt8.ofNat (48 + u % 10)], by rw [e]; rfl, h1, h2⟩
theorem atoiAll_itoa (k : Nat) (h : k ≤ 1000000) : Lib.atoiAll (Lib.itoa (k : Int)) = .ok (k : Int) := by
  have e : Lib.itoa (k : Int) = Lib.decDigits k := by
    unfold Lib.itoa
    rw [if_neg (by omega)]
    simp
  obtain ⟨c, r, e1, h1, h2⟩ := digits_head k
  have hp := parse_digits k h
  rw [e]
  rw [e1] at hp ⊢
  rw [Lib.atoiAll_plain c r (by omega) (by omega)]
  unfold Lib.parseMag
  rw [if_neg (by simp), hp]
  unfold Lib.signless
  simp only
  rw [if_neg (by omega)]
/-- What a line is as a number, by what Atoi answers. -/
theorem numOf_ok {s : List UInt8} {n : Int} (h : Lib.atoiAll s = .ok n) : numOf s = if 0 ≤ n ∧ n ≤ 4000 ∧ Lib.itoa n = s then n.toNat else 0 := by
  split
  · rename_i hc
    obtain ⟨h0, h1, h2⟩ := hc
    obtain ⟨k, rfl⟩ := Int.eq_ofNat_of_zero_le h0
    rw [← h2, Int.toNat_natCast, numOf_itoa k (by omega)]
  · rename_i hc
    apply numOf_none
    intro k hk e
    rw [← e, atoiAll_itoa k (by omega)] at h
    injection h with h
    exact hc ⟨by omega, by omega, by rw [← h]; exact e⟩
theorem numOf_bad {s : List UInt8} (h : ∀ n, Lib.atoiAll s ≠ .ok n) : numOf s = 0 := by
  apply numOf_none
  intro k hk e
  exact h k (by rw [← e]; exact atoiAll_itoa k (by omega))
end Go.Gs
