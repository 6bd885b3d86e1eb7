/- What the developers' Check answers. -/
import Derived.Test.YtkifihcficobnaaDoorDevWord
namespace Go.Proofs.YtkifihcficobnaaDoor
open Go.RowKit Go.Gs
set_option linter.unusedVariables false

theorem empty_of {word : List UInt8} (h : word = []) : (⟨word.toArray⟩ : ByteArray).toList.isEmpty = true := by subst h; simp
theorem full_of {word : List UInt8} (h : word ≠ []) : (⟨word.toArray⟩ : ByteArray).toList.isEmpty = false := by
  cases word with
  | nil => exact absurd rfl h
  | cons c l => simp

/-- The ways of Check, by what a kind uses. -/
theorem chk_form {k n : Int} {word : List UInt8} (h : uses k = 0 ∨ (uses k ≠ 1 ∧ word ≠ []) ∨ (uses k ≠ 2 ∧ n ≠ 0)) : chk ⟨k, word, n⟩ = 4 := by
  unfold chk
  split
  · rfl
  · rename_i hu
    simp only at hu ⊢
    rw [if_pos (h.resolve_left hu)]
theorem uses_range (k : Int) : (uses k = 0) ↔ (k < 1 ∨ 10 < k) := by
  unfold uses
  split
  · simp; omega
  · split
    · simp; omega
    · split
      · simp; omega
      · simp; omega

set_option maxRecDepth 100000 in
set_option maxHeartbeats 4000000 in
theorem check_form0 (k n : Int) (word : List UInt8) (w : World) (h : k < 1 ∨ 10 < k) :
    Calls Tryd.prog 39 #[.agg #[.int .i64 k, .string ⟨word.toArray⟩, .int .i64 n]] w fun e w' => e = .returned (.int .i64 4) ∧ Below w.heap.size w w' := by
  go_enter Tryd.func39, Tryd.ntmps39
  go_wp2_with fail
  all_goals go_ret
  all_goals exact ⟨rfl, box_of⟩

set_option maxRecDepth 100000 in
set_option maxHeartbeats 4000000 in
theorem check_w0 (k n : Int) (sx : ByteArray) (L : Nat) (w : World) (h1 : 1 ≤ k) (h2 : k ≤ 10) (hem : sx.toList.isEmpty = true) (hsz : sx.size = L) (hL : L ≤ 9223372036854775807) (r : Int)
    (hA : ∀ w, Calls Tryd.prog 61 #[.int .i64 k] w fun e w' => e = .returned (.bool true) ∧ w' = w)
    (hB : ∀ w, Calls Tryd.prog 62 #[.int .i64 k] w fun e w' => e = .returned (.bool false) ∧ w' = w) (hC : ∀ w, Calls Tryd.prog 63 #[.string sx] w fun e w' => e = .returned (.bool true) ∧ w' = w)
    (hr : Hid (r = if n ≠ 0 then 4 else if k = 3 ∧ L ≠ 2 then 1 else 0)) :
    Calls Tryd.prog 39 #[.agg #[.int .i64 k, .string sx, .int .i64 n]] w fun e w' => e = .returned (.int .i64 r) ∧ Below w.heap.size w w' := by
  by_cases hk3 : k = 3
  · subst hk3
    by_cases hL2 : L = 2
    · subst hL2
      go_enter Tryd.func39, Tryd.ntmps39
      go_wp2_with (first | (go_at_call 61; refine (hA _).mono ?_; rintro e w9 ⟨rfl, rfl⟩) | (go_at_call 62; refine (hB _).mono ?_; rintro e w9 ⟨rfl, rfl⟩) | (go_at_call 63; refine (hC _).mono ?_; rintro e w9 ⟨rfl, rfl⟩))
      all_goals go_ret
      all_goals (refine ⟨?_, box_of⟩; rw [hr.out]; (repeat' split) <;> first | rfl | (exfalso; omega) | (rename_i hq; exact absurd (And.intro trivial hL2) hq))
    · have hz : ¬ ((L : Int) = 2) := by omega
      go_enter Tryd.func39, Tryd.ntmps39
      go_wp2_with (first | (go_at_call 61; refine (hA _).mono ?_; rintro e w9 ⟨rfl, rfl⟩) | (go_at_call 62; refine (hB _).mono ?_; rintro e w9 ⟨rfl, rfl⟩) | (go_at_call 63; refine (hC _).mono ?_; rintro e w9 ⟨rfl, rfl⟩))
      all_goals go_ret
      all_goals (refine ⟨?_, box_of⟩; rw [hr.out]; (repeat' split) <;> first | rfl | (exfalso; omega) | (rename_i hq; exact absurd (And.intro trivial hL2) hq))
  · go_enter Tryd.func39, Tryd.ntmps39
    go_wp2_with (first | (go_at_call 61; refine (hA _).mono ?_; rintro e w9 ⟨rfl, rfl⟩) | (go_at_call 62; refine (hB _).mono ?_; rintro e w9 ⟨rfl, rfl⟩) | (go_at_call 63; refine (hC _).mono ?_; rintro e w9 ⟨rfl, rfl⟩))
    all_goals go_ret
    all_goals (refine ⟨?_, box_of⟩; rw [hr.out]; (repeat' split) <;> first | rfl | (exfalso; omega))
set_option maxRecDepth 100000 in
set_option maxHeartbeats 4000000 in
theorem check_w1 (k n : Int) (sx : ByteArray) (L : Nat) (w : World) (h1 : 1 ≤ k) (h2 : k ≤ 10) (hem : sx.toList.isEmpty = true) (hsz : sx.size = L) (hL : L ≤ 9223372036854775807) (r : Int)
    (hA : ∀ w, Calls Tryd.prog 61 #[.int .i64 k] w fun e w' => e = .returned (.bool true) ∧ w' = w)
    (hB : ∀ w, Calls Tryd.prog 62 #[.int .i64 k] w fun e w' => e = .returned (.bool false) ∧ w' = w) (hC : ∀ w, Calls Tryd.prog 63 #[.string sx] w fun e w' => e = .returned (.bool false) ∧ w' = w)
    (hr : Hid (r = if n ≠ 0 then 4 else 1)) :
    Calls Tryd.prog 39 #[.agg #[.int .i64 k, .string sx, .int .i64 n]] w fun e w' => e = .returned (.int .i64 r) ∧ Below w.heap.size w w' := by
  go_enter Tryd.func39, Tryd.ntmps39
  go_wp2_with (first | (go_at_call 61; refine (hA _).mono ?_; rintro e w9 ⟨rfl, rfl⟩) | (go_at_call 62; refine (hB _).mono ?_; rintro e w9 ⟨rfl, rfl⟩) | (go_at_call 63; refine (hC _).mono ?_; rintro e w9 ⟨rfl, rfl⟩))
  all_goals go_ret
  all_goals (refine ⟨?_, box_of⟩; rw [hr.out]; (repeat' split) <;> first | rfl | (exfalso; omega))
set_option maxRecDepth 100000 in
set_option maxHeartbeats 4000000 in
theorem check_w2 (k n : Int) (sx : ByteArray) (L : Nat) (w : World) (h1 : 1 ≤ k) (h2 : k ≤ 10) (hem : sx.toList.isEmpty = true) (hsz : sx.size = L) (hL : L ≤ 9223372036854775807) (r : Int)
    (hA : ∀ w, Calls Tryd.prog 61 #[.int .i64 k] w fun e w' => e = .returned (.bool false) ∧ w' = w)
    (hB : ∀ w, Calls Tryd.prog 62 #[.int .i64 k] w fun e w' => e = .returned (.bool true) ∧ w' = w) 
    (hr : Hid (r = if n < 1 ∨ 1000 < n then 3 else if k = 3 ∧ L ≠ 2 then 1 else 0)) :
    Calls Tryd.prog 39 #[.agg #[.int .i64 k, .string sx, .int .i64 n]] w fun e w' => e = .returned (.int .i64 r) ∧ Below w.heap.size w w' := by
  by_cases hk3 : k = 3
  · subst hk3
    by_cases hL2 : L = 2
    · subst hL2
      go_enter Tryd.func39, Tryd.ntmps39
      go_wp2_with (first | (go_at_call 61; refine (hA _).mono ?_; rintro e w9 ⟨rfl, rfl⟩) | (go_at_call 62; refine (hB _).mono ?_; rintro e w9 ⟨rfl, rfl⟩))
      all_goals go_ret
      all_goals (refine ⟨?_, box_of⟩; rw [hr.out]; (repeat' split) <;> first | rfl | (exfalso; omega) | (rename_i hq; exact absurd (And.intro trivial hL2) hq))
    · have hz : ¬ ((L : Int) = 2) := by omega
      go_enter Tryd.func39, Tryd.ntmps39
      go_wp2_with (first | (go_at_call 61; refine (hA _).mono ?_; rintro e w9 ⟨rfl, rfl⟩) | (go_at_call 62; refine (hB _).mono ?_; rintro e w9 ⟨rfl, rfl⟩))
      all_goals go_ret
      all_goals (refine ⟨?_, box_of⟩; rw [hr.out]; (repeat' split) <;> first | rfl | (exfalso; omega) | (rename_i hq; exact absurd (And.intro trivial hL2) hq))
  · go_enter Tryd.func39, Tryd.ntmps39
    go_wp2_with (first | (go_at_call 61; refine (hA _).mono ?_; rintro e w9 ⟨rfl, rfl⟩) | (go_at_call 62; refine (hB _).mono ?_; rintro e w9 ⟨rfl, rfl⟩))
    all_goals go_ret
    all_goals (refine ⟨?_, box_of⟩; rw [hr.out]; (repeat' split) <;> first | rfl | (exfalso; omega))
set_option maxRecDepth 100000 in
set_option maxHeartbeats 4000000 in
theorem check_w3 (k n : Int) (sx : ByteArray) (L : Nat) (w : World) (h1 : 1 ≤ k) (h2 : k ≤ 10) (hem : sx.toList.isEmpty = true) (hsz : sx.size = L) (hL : L ≤ 9223372036854775807) (r : Int)
    (hA : ∀ w, Calls Tryd.prog 61 #[.int .i64 k] w fun e w' => e = .returned (.bool false) ∧ w' = w)
    (hB : ∀ w, Calls Tryd.prog 62 #[.int .i64 k] w fun e w' => e = .returned (.bool false) ∧ w' = w) 
    (hr : Hid (r = if n ≠ 0 then 4 else if k = 3 ∧ L ≠ 2 then 1 else 0)) :
    Calls Tryd.prog 39 #[.agg #[.int .i64 k, .string sx, .int .i64 n]] w fun e w' => e = .returned (.int .i64 r) ∧ Below w.heap.size w w' := by
  by_cases hk3 : k = 3
  · subst hk3
    by_cases hL2 : L = 2
    · subst hL2
      go_enter Tryd.func39, Tryd.ntmps39
      go_wp2_with (first | (go_at_call 61; refine (hA _).mono ?_; rintro e w9 ⟨rfl, rfl⟩) | (go_at_call 62; refine (hB _).mono ?_; rintro e w9 ⟨rfl, rfl⟩))
      all_goals go_ret
      all_goals (refine ⟨?_, box_of⟩; rw [hr.out]; (repeat' split) <;> first | rfl | (exfalso; omega) | (rename_i hq; exact absurd (And.intro trivial hL2) hq))
    · have hz : ¬ ((L : Int) = 2) := by omega
      go_enter Tryd.func39, Tryd.ntmps39
      go_wp2_with (first | (go_at_call 61; refine (hA _).mono ?_; rintro e w9 ⟨rfl, rfl⟩) | (go_at_call 62; refine (hB _).mono ?_; rintro e w9 ⟨rfl, rfl⟩))
      all_goals go_ret
      all_goals (refine ⟨?_, box_of⟩; rw [hr.out]; (repeat' split) <;> first | rfl | (exfalso; omega) | (rename_i hq; exact absurd (And.intro trivial hL2) hq))
  · go_enter Tryd.func39, Tryd.ntmps39
    go_wp2_with (first | (go_at_call 61; refine (hA _).mono ?_; rintro e w9 ⟨rfl, rfl⟩) | (go_at_call 62; refine (hB _).mono ?_; rintro e w9 ⟨rfl, rfl⟩))
    all_goals go_ret
    all_goals (refine ⟨?_, box_of⟩; rw [hr.out]; (repeat' split) <;> first | rfl | (exfalso; omega))
set_option maxRecDepth 100000 in
set_option maxHeartbeats 4000000 in
theorem check_w4 (k n : Int) (sx : ByteArray) (L : Nat) (w : World) (h1 : 1 ≤ k) (h2 : k ≤ 10) (hem : sx.toList.isEmpty = false) (hsz : sx.size = L) (hL : L ≤ 9223372036854775807) (r : Int)
    (hA : ∀ w, Calls Tryd.prog 61 #[.int .i64 k] w fun e w' => e = .returned (.bool true) ∧ w' = w)
    (hB : ∀ w, Calls Tryd.prog 62 #[.int .i64 k] w fun e w' => e = .returned (.bool false) ∧ w' = w) (hC : ∀ w, Calls Tryd.prog 63 #[.string sx] w fun e w' => e = .returned (.bool true) ∧ w' = w)
    (hr : Hid (r = if n ≠ 0 then 4 else if k = 3 ∧ L ≠ 2 then 1 else 0)) :
    Calls Tryd.prog 39 #[.agg #[.int .i64 k, .string sx, .int .i64 n]] w fun e w' => e = .returned (.int .i64 r) ∧ Below w.heap.size w w' := by
  by_cases hk3 : k = 3
  · subst hk3
    by_cases hL2 : L = 2
    · subst hL2
      go_enter Tryd.func39, Tryd.ntmps39
      go_wp2_with (first | (go_at_call 61; refine (hA _).mono ?_; rintro e w9 ⟨rfl, rfl⟩) | (go_at_call 62; refine (hB _).mono ?_; rintro e w9 ⟨rfl, rfl⟩) | (go_at_call 63; refine (hC _).mono ?_; rintro e w9 ⟨rfl, rfl⟩))
      all_goals go_ret
      all_goals (refine ⟨?_, box_of⟩; rw [hr.out]; (repeat' split) <;> first | rfl | (exfalso; omega) | (rename_i hq; exact absurd (And.intro trivial hL2) hq))
    · have hz : ¬ ((L : Int) = 2) := by omega
      go_enter Tryd.func39, Tryd.ntmps39
      go_wp2_with (first | (go_at_call 61; refine (hA _).mono ?_; rintro e w9 ⟨rfl, rfl⟩) | (go_at_call 62; refine (hB _).mono ?_; rintro e w9 ⟨rfl, rfl⟩) | (go_at_call 63; refine (hC _).mono ?_; rintro e w9 ⟨rfl, rfl⟩))
      all_goals go_ret
      all_goals (refine ⟨?_, box_of⟩; rw [hr.out]; (repeat' split) <;> first | rfl | (exfalso; omega) | (rename_i hq; exact absurd (And.intro trivial hL2) hq))
  · go_enter Tryd.func39, Tryd.ntmps39
    go_wp2_with (first | (go_at_call 61; refine (hA _).mono ?_; rintro e w9 ⟨rfl, rfl⟩) | (go_at_call 62; refine (hB _).mono ?_; rintro e w9 ⟨rfl, rfl⟩) | (go_at_call 63; refine (hC _).mono ?_; rintro e w9 ⟨rfl, rfl⟩))
    all_goals go_ret
    all_goals (refine ⟨?_, box_of⟩; rw [hr.out]; (repeat' split) <;> first | rfl | (exfalso; omega))
set_option maxRecDepth 100000 in
set_option maxHeartbeats 4000000 in
theorem check_w5 (k n : Int) (sx : ByteArray) (L : Nat) (w : World) (h1 : 1 ≤ k) (h2 : k ≤ 10) (hem : sx.toList.isEmpty = false) (hsz : sx.size = L) (hL : L ≤ 9223372036854775807) (r : Int)
    (hA : ∀ w, Calls Tryd.prog 61 #[.int .i64 k] w fun e w' => e = .returned (.bool true) ∧ w' = w)
    (hB : ∀ w, Calls Tryd.prog 62 #[.int .i64 k] w fun e w' => e = .returned (.bool false) ∧ w' = w) (hC : ∀ w, Calls Tryd.prog 63 #[.string sx] w fun e w' => e = .returned (.bool false) ∧ w' = w)
    (hr : Hid (r = if n ≠ 0 then 4 else 1)) :
    Calls Tryd.prog 39 #[.agg #[.int .i64 k, .string sx, .int .i64 n]] w fun e w' => e = .returned (.int .i64 r) ∧ Below w.heap.size w w' := by
  go_enter Tryd.func39, Tryd.ntmps39
  go_wp2_with (first | (go_at_call 61; refine (hA _).mono ?_; rintro e w9 ⟨rfl, rfl⟩) | (go_at_call 62; refine (hB _).mono ?_; rintro e w9 ⟨rfl, rfl⟩) | (go_at_call 63; refine (hC _).mono ?_; rintro e w9 ⟨rfl, rfl⟩))
  all_goals go_ret
  all_goals (refine ⟨?_, box_of⟩; rw [hr.out]; (repeat' split) <;> first | rfl | (exfalso; omega))
set_option maxRecDepth 100000 in
set_option maxHeartbeats 4000000 in
theorem check_w6 (k n : Int) (sx : ByteArray) (L : Nat) (w : World) (h1 : 1 ≤ k) (h2 : k ≤ 10) (hem : sx.toList.isEmpty = false) (hsz : sx.size = L) (hL : L ≤ 9223372036854775807) (r : Int)
    (hA : ∀ w, Calls Tryd.prog 61 #[.int .i64 k] w fun e w' => e = .returned (.bool false) ∧ w' = w)
    (hB : ∀ w, Calls Tryd.prog 62 #[.int .i64 k] w fun e w' => e = .returned (.bool true) ∧ w' = w) 
    (hr : Hid (r = 4)) :
    Calls Tryd.prog 39 #[.agg #[.int .i64 k, .string sx, .int .i64 n]] w fun e w' => e = .returned (.int .i64 r) ∧ Below w.heap.size w w' := by
  go_enter Tryd.func39, Tryd.ntmps39
  go_wp2_with (first | (go_at_call 61; refine (hA _).mono ?_; rintro e w9 ⟨rfl, rfl⟩) | (go_at_call 62; refine (hB _).mono ?_; rintro e w9 ⟨rfl, rfl⟩))
  all_goals go_ret
  all_goals (refine ⟨?_, box_of⟩; rw [hr.out]; (repeat' split) <;> first | rfl | (exfalso; omega))
set_option maxRecDepth 100000 in
set_option maxHeartbeats 4000000 in
theorem check_w7 (k n : Int) (sx : ByteArray) (L : Nat) (w : World) (h1 : 1 ≤ k) (h2 : k ≤ 10) (hem : sx.toList.isEmpty = false) (hsz : sx.size = L) (hL : L ≤ 9223372036854775807) (r : Int)
    (hA : ∀ w, Calls Tryd.prog 61 #[.int .i64 k] w fun e w' => e = .returned (.bool false) ∧ w' = w)
    (hB : ∀ w, Calls Tryd.prog 62 #[.int .i64 k] w fun e w' => e = .returned (.bool false) ∧ w' = w) 
    (hr : Hid (r = 4)) :
    Calls Tryd.prog 39 #[.agg #[.int .i64 k, .string sx, .int .i64 n]] w fun e w' => e = .returned (.int .i64 r) ∧ Below w.heap.size w w' := by
  go_enter Tryd.func39, Tryd.ntmps39
  go_wp2_with (first | (go_at_call 61; refine (hA _).mono ?_; rintro e w9 ⟨rfl, rfl⟩) | (go_at_call 62; refine (hB _).mono ?_; rintro e w9 ⟨rfl, rfl⟩))
  all_goals go_ret
  all_goals (refine ⟨?_, box_of⟩; rw [hr.out]; (repeat' split) <;> first | rfl | (exfalso; omega))

theorem uses_le (k : Int) : uses k = 0 ∨ uses k = 1 ∨ uses k = 2 ∨ uses k = 3 := by
  unfold uses
  split
  · exact .inr (.inl rfl)
  · split
    · exact .inr (.inr (.inl rfl))
    · split
      · exact .inr (.inr (.inr rfl))
      · exact .inl rfl

theorem check_is (c : Cmd) (w : World) (hm : c.word.length ≤ 9223372036854775807) :
    Calls Tryd.prog 39 #[c.v] w fun e w' => e = .returned (.int .i64 (chk c)) ∧ Below w.heap.size w w' := by
  obtain ⟨k, word, n⟩ := c
  show Calls Tryd.prog 39 #[.agg #[.int .i64 k, .string ⟨word.toArray⟩, .int .i64 n]] w _
  by_cases h0 : k < 1 ∨ 10 < k
  · rw [chk_form (.inl ((uses_range k).2 h0))]
    exact check_form0 k n word w h0
  · have h1 : 1 ≤ k := by omega
    have h2 : k ≤ 10 := by omega
    have hu0 : uses k ≠ 0 := fun h => h0 ((uses_range k).1 h)
    have hsz : (⟨word.toArray⟩ : ByteArray).size = word.length := by simp [ByteArray.size]
    have hA := fun w => hasWord_is k w
    have hB := fun w => hasNumber_is k w
    have hC := fun w => word_is word w hm
    have hk3 : uses k ≠ 1 → k ≠ 3 := by
      rintro h rfl
      exact h rfl
    unfold chk
    simp only [hu0, if_false]
    rcases uses_le k with hu | hu | hu | hu
    · exact absurd hu hu0
    · rw [hu] at hA hB ⊢
      by_cases he : word = []
      · cases hiw : isWord word with
        | true => rw [hiw] at hC; exact check_w0 k n _ word.length w h1 h2 (empty_of he) hsz hm _ hA hB hC (show _ = _ by simp [he])
        | false => rw [hiw] at hC; exact check_w1 k n _ word.length w h1 h2 (empty_of he) hsz hm _ hA hB hC (show _ = _ by simp [he])
      · cases hiw : isWord word with
        | true => rw [hiw] at hC; exact check_w4 k n _ word.length w h1 h2 (full_of he) hsz hm _ hA hB hC (show _ = _ by simp [he])
        | false => rw [hiw] at hC; exact check_w5 k n _ word.length w h1 h2 (full_of he) hsz hm _ hA hB hC (show _ = _ by simp [he])
    · have h3 := hk3 (by rw [hu]; decide)
      rw [hu] at hA hB ⊢
      by_cases he : word = []
      · exact check_w2 k n _ word.length w h1 h2 (empty_of he) hsz hm _ hA hB (show _ = _ by simp [he, h3])
      · exact check_w6 k n _ word.length w h1 h2 (full_of he) hsz hm _ hA hB (show _ = _ by simp [he])
    · have h3 := hk3 (by rw [hu]; decide)
      rw [hu] at hA hB ⊢
      by_cases he : word = []
      · exact check_w3 k n _ word.length w h1 h2 (empty_of he) hsz hm _ hA hB (show _ = _ by simp [he, h3])
      · exact check_w7 k n _ word.length w h1 h2 (full_of he) hsz hm _ hA hB (show _ = _ by simp [he])
end Go.Proofs.YtkifihcficobnaaDoor
