/- The reference's CheckCommand answers what 'chk' says, for every command. -/
import Derived.Test.YtkifihcficobnaaGreatDoorRefCheck
namespace Go.Proofs.YtkifihcficobnaaGreatDoor
open Go.RowKit Go.Gs
set_option linter.unusedVariables false

theorem uses_cases (k : Int) : uses k = 0 ∨ uses k = 1 ∨ uses k = 2 ∨ uses k = 3 := by
  unfold uses
  split
  · exact Or.inr (Or.inl rfl)
  · split
    · exact Or.inr (Or.inr (Or.inl rfl))
    · split
      · exact Or.inr (Or.inr (Or.inr rfl))
      · exact Or.inl rfl

theorem check_ref (c : Cmd) (w : World) (hkw : (Lit.int .i64 c.kind).wf = true) (hsz : c.word.length ≤ 9223372036854775807) :
    Calls Tryz.prog 11 #[c.v] w fun e w' => e = .returned (.int .i64 (chk c)) ∧ Below w.heap.size w w' := by
  have hwe : c.word.isEmpty = true ↔ c.word = [] := List.isEmpty_iff
  rcases uses_cases c.kind with hu | hu | hu | hu
  · have hv : chk c = 4 := by simp [chk, hu]
    rw [hv]
    exact check_none c w hkw (by show usesS _ = _; simp [usesS, hu])
  · have HU : Hid (usesS c.kind = [119]) := by show usesS _ = _; simp [usesS, hu]
    by_cases hn : c.n = 0
    · have hnb : (c.n != 0) = false := by simp [hn]
      cases hW : isWord c.word with
      | false =>
        have hv : chk c = 1 := by simp [chk, hu, hn, hW]
        rw [hv]
        exact check_w_bad c w hkw HU hnb hsz hW
      | true =>
        by_cases hk : c.kind = 3
        · by_cases h2 : c.word.length = 2
          · have hv : chk c = 0 := by simp [chk, hu, hn, hW, h2]
            rw [hv]
            exact check_w_two c w hkw HU hnb hsz hW (by simp [hk]) (by simp [h2])
          · have h3 : uses 3 = 1 := by decide
            have hv : chk c = 1 := by simp [chk, h3, hn, hW, hk, h2]
            rw [hv]
            exact check_w_long c w hkw HU hnb hsz hW (by simp [hk]) (by rw [bne_iff_ne]; omega)
        · have hv : chk c = 0 := by simp [chk, hu, hn, hW, hk]
          rw [hv]
          exact check_w_ok c w hkw HU hnb hsz hW (by simp [hk])
    · have hv : chk c = 4 := by simp [chk, hu, hn]
      rw [hv]
      exact check_w_n c w hkw HU (by simp [hn])
  · have HU : Hid (usesS c.kind = [110]) := by show usesS _ = _; simp [usesS, hu]
    cases hw : c.word.isEmpty with
    | false =>
      have hne : c.word ≠ [] := fun e => by rw [hwe.2 e] at hw; cases hw
      have hv : chk c = 4 := by simp [chk, hu, hne]
      rw [hv]
      exact check_n_w c w hkw HU hw
    | true =>
      have he := hwe.1 hw
      by_cases h1 : c.n < 1
      · have hv : chk c = 3 := by simp [chk, hu, he, h1]
        rw [hv]
        exact check_n_lo c w hkw HU hw h1
      · by_cases h2 : 1000 < c.n
        · have hv : chk c = 3 := by simp [chk, hu, he, h2]
          rw [hv]
          exact check_n_hi c w hkw HU hw h2
        · have hv : chk c = 0 := by simp [chk, hu, he, h1, h2]
          rw [hv]
          exact check_n_ok c w hkw HU hw (by omega) (by omega)
  · have HU : Hid (usesS c.kind = [45]) := by show usesS _ = _; simp [usesS, hu]
    cases hw : c.word.isEmpty with
    | false =>
      have hne : c.word ≠ [] := fun e => by rw [hwe.2 e] at hw; cases hw
      have hv : chk c = 4 := by simp [chk, hu, hne]
      rw [hv]
      exact check_dash_w c w hkw HU hw
    | true =>
      have he := hwe.1 hw
      by_cases hn : c.n = 0
      · have hv : chk c = 0 := by simp [chk, hu, he, hn]
        rw [hv]
        exact check_dash_ok c w hkw HU hw (by simp [hn])
      · have hv : chk c = 4 := by simp [chk, hu, he, hn]
        rw [hv]
        exact check_dash_n c w hkw HU hw (by simp [hn])
end Go.Proofs.YtkifihcficobnaaGreatDoor
