/- What the developers' Word, hasWord, hasNumber, Each do. What the developers' Check answers. Facts of no function that walks over graphs and plans use. What the developers' join's For does. -/
import Derived.Test.YtkifihcficobnaaGreatDoorPlainF
import Derived.Test.YtkifihcficobnaaGreatDoorProg
import Derived.WalkKit
import Derived.WalkLawsBesides
import Derived.Outline
import Derived.ChangeAgain
import Derived.WalkSpells
import Derived.Deep.Draws
import Derived.Deep.RegionWith
import Derived.Deep.DeepCutAuto
import Derived.Deep.Cut
import Derived.Deep.QuietTactic
import Derived.Deep.RegionLaw
import Derived.BigQuiet
import Derived.Laws.StructEq
import Derived.Maps.AppendAt
namespace Go.Proofs.YtkifihcficobnaaGreatDoor
open Go.RowKit Go.Gs
set_option linter.unusedVariables false

theorem hasWord_is (k : Int) (w : World) :
    Calls Tryz.prog 53 #[.int .i64 k] w fun e w' => e = .returned (.bool (decide (uses k = 1))) ∧ w' = w := by
  by_cases h1 : k = 1
  · subst h1
    go_enter Tryz.func53, Tryz.ntmps53
    go_wp2
    go_ret
    exact ⟨rfl, rfl⟩
  · by_cases h2 : k = 2
    · subst h2
      go_enter Tryz.func53, Tryz.ntmps53
      go_wp2
      go_ret
      exact ⟨rfl, rfl⟩
    · by_cases h3 : k = 3
      · subst h3
        go_enter Tryz.func53, Tryz.ntmps53
        go_wp2
        go_ret
        exact ⟨rfl, rfl⟩
      · have hu : decide (uses k = 1) = false := by
          apply decide_eq_false
          unfold uses
          split
          · omega
          · split
            · decide
            · split <;> decide
        rw [hu]
        go_enter Tryz.func53, Tryz.ntmps53
        go_wp2
        go_ret
        exact ⟨by simp [h1, h2, h3], rfl⟩

theorem hasNumber_is (k : Int) (w : World) :
    Calls Tryz.prog 54 #[.int .i64 k] w fun e w' => e = .returned (.bool (decide (uses k = 2))) ∧ w' = w := by
  by_cases h1 : k = 4
  · subst h1
    go_enter Tryz.func54, Tryz.ntmps54
    go_wp2
    go_ret
    exact ⟨rfl, rfl⟩
  · by_cases h2 : k = 9
    · subst h2
      go_enter Tryz.func54, Tryz.ntmps54
      go_wp2
      go_ret
      exact ⟨rfl, rfl⟩
    · by_cases h3 : k = 10
      · subst h3
        go_enter Tryz.func54, Tryz.ntmps54
        go_wp2
        go_ret
        exact ⟨rfl, rfl⟩
      · have hu : decide (uses k = 2) = false := by
          apply decide_eq_false
          unfold uses
          split
          · decide
          · split
            · omega
            · split <;> decide
        rw [hu]
        go_enter Tryz.func54, Tryz.ntmps54
        go_wp2
        go_ret
        exact ⟨by simp [h1, h2, h3], rfl⟩

theorem box_of {w : World} {o : Obj} : Below w.heap.size w (w.alloc o) := (Below.refl _ w).alloc (Nat.le_refl _) o

theorem take_word {l : List UInt8} {k : Nat} {c : UInt8} (hl : l[k]? = some c) (h : ∀ x ∈ l.take k, wordByte x = true) (hc : wordByte c = true) : ∀ x ∈ l.take (k + 1), wordByte x = true := by
  intro x hx
  rw [List.take_add_one, hl] at hx
  simp only [Option.toList_some, List.mem_append, List.mem_singleton] at hx
  rcases hx with hx | rfl
  · exact h x hx
  · exact hc
theorem no_word {l : List UInt8} {k : Nat} {c : UInt8} (hl : l[k]? = some c) (hc : wordByte c = false) : l.all wordByte = false := by
  rw [List.all_eq_false]
  exact ⟨c, List.mem_of_getElem? hl, by simp [hc]⟩

set_option maxRecDepth 100000 in
set_option maxHeartbeats 1000000 in
theorem word_loop (l : List UInt8) (w : World) (h0 : 0 < l.length) (h1 : l.length ≤ 12) :
    Calls Tryz.prog 14 #[.string ⟨l.toArray⟩] w fun e w' => e = .returned (.bool (l.all wordByte)) ∧ w' = w := by
  have hsz : (⟨l.toArray⟩ : ByteArray).size = l.length := by simp [ByteArray.size]
  have hget : Hid (∀ k (h : k < l.length) (h' : k < (⟨l.toArray⟩ : ByteArray).size), l[k]? = some ((⟨l.toArray⟩ : ByteArray)[k]'h')) := by
    intro k h h'
    rw [List.getElem?_eq_getElem h]
    rfl
  generalize hsx : (⟨l.toArray⟩ : ByteArray) = sx at *
  have hem : sx.toList.isEmpty = false := by
    subst hsx
    cases l with
    | nil => simp at h0
    | cons c l => simp
  clear hsx
  go_enter Tryz.func14, Tryz.ntmps14
  go_wp2_with fail
  go_loopw [14] (fun i wr => ∃ k : Nat, k ≤ l.length ∧ i = .int .i64 k ∧ wr = w ∧ Hid (∀ x ∈ l.take k, wordByte x = true)) (fun i _ => l.length - (intOf i).toNat)
  case atStart => exact ⟨0, Nat.zero_le _, rfl, rfl, by intro x hx; simp at hx⟩
  case round =>
    obtain ⟨k, hk, rfl, rfl, hall⟩ := hrel
    by_cases hlt : k < l.length
    · have hg : Hid _ := hget.out k hlt (by omega)
      go_wp2_with fail
      all_goals first
        | (go_ret; refine ⟨?_, rfl⟩; show Ending.returned (.bool false) = _; rw [no_word hg.out (by simp [wordByte]; omega)])
        | (go_roundw
           case rel => exact ⟨k + 1, by omega, by go_num, by simp, take_word hg.out hall.out (by simp [wordByte]; omega)⟩
           case measure => simp [intOf]; omega)
    · go_wp2_with fail
      go_ret
      refine ⟨?_, rfl⟩
      have hkl : k = l.length := by omega
      have h := hall.out
      rw [hkl, List.take_length] at h
      show Ending.returned (.bool true) = _
      rw [List.all_eq_true.2 h]

set_option maxRecDepth 100000 in
set_option maxHeartbeats 1000000 in
theorem word_is (l : List UInt8) (w : World) (hm : l.length ≤ 9223372036854775807) :
    Calls Tryz.prog 14 #[.string ⟨l.toArray⟩] w fun e w' => e = .returned (.bool (isWord l)) ∧ w' = w := by
  by_cases h0 : l = []
  · subst h0
    go_enter Tryz.func14, Tryz.ntmps14
    go_wp2
    go_ret
    exact ⟨rfl, rfl⟩
  · have hl0 : 0 < l.length := List.length_pos_iff.2 h0
    by_cases h1 : l.length ≤ 12
    · have : isWord l = l.all wordByte := by simp [isWord, hl0, h1]
      rw [this]
      exact word_loop l w hl0 h1
    · have hw : isWord l = false := by simp [isWord, h1]
      rw [hw]
      have hsz : (⟨l.toArray⟩ : ByteArray).size = l.length := by simp [ByteArray.size]
      generalize hsx : (⟨l.toArray⟩ : ByteArray) = sx at *
      have hem : sx.toList.isEmpty = false := by
        subst hsx
        cases l with
        | nil => simp at h0
        | cons c l => simp
      clear hsx
      go_enter Tryz.func14, Tryz.ntmps14
      go_wp2
      go_ret
      exact ⟨rfl, rfl⟩
end Go.Proofs.YtkifihcficobnaaGreatDoor
namespace Go.Proofs.YtkifihcficobnaaGreatDoor
open Go.RowKit Go.Gs
set_option linter.unusedVariables false

theorem empty_of {word : List UInt8} (h : word = []) : (⟨word.toArray⟩ : ByteArray).toList.isEmpty = true := by subst h; simp
theorem full_of {word : List UInt8} (h : word ≠ []) : (⟨word.toArray⟩ : ByteArray).toList.isEmpty = false := by
  cases word with
  | nil => exact absurd rfl h
  | cons c l => simp

/-- The ways of Check, by what a kind uses. -/
theorem chk_form {k n : Int} {word : List UInt8} (h : uses k = 0 ∨ (uses k ≠ 1 ∧ word ≠ []) ∨ (uses k ≠ 2 ∧ n ≠ 0)) : chk ⟨k, word, n⟩ = 4 := by
  unfold chk
  split
  · rfl
  · rename_i hu
    simp only at hu ⊢
    rw [if_pos (h.resolve_left hu)]
theorem uses_range (k : Int) : (uses k = 0) ↔ (k < 1 ∨ 10 < k) := by
  unfold uses
  split
  · simp; omega
  · split
    · simp; omega
    · split
      · simp; omega
      · simp; omega

set_option maxRecDepth 100000 in
set_option maxHeartbeats 4000000 in
theorem check_form0 (k n : Int) (word : List UInt8) (w : World) (h : k < 1 ∨ 10 < k) :
    Calls Tryz.prog 13 #[.agg #[.int .i64 k, .string ⟨word.toArray⟩, .int .i64 n]] w fun e w' => e = .returned (.int .i64 4) ∧ Below w.heap.size w w' := by
  go_enter Tryz.func13, Tryz.ntmps13
  go_wp2_with fail
  all_goals go_ret
  all_goals exact ⟨rfl, box_of⟩

set_option maxRecDepth 100000 in
set_option maxHeartbeats 4000000 in
theorem check_w0 (k n : Int) (sx : ByteArray) (L : Nat) (w : World) (h1 : 1 ≤ k) (h2 : k ≤ 10) (hem : sx.toList.isEmpty = true) (hsz : sx.size = L) (hL : L ≤ 9223372036854775807) (r : Int)
    (hA : ∀ w, Calls Tryz.prog 53 #[.int .i64 k] w fun e w' => e = .returned (.bool true) ∧ w' = w)
    (hB : ∀ w, Calls Tryz.prog 54 #[.int .i64 k] w fun e w' => e = .returned (.bool false) ∧ w' = w) (hC : ∀ w, Calls Tryz.prog 14 #[.string sx] w fun e w' => e = .returned (.bool true) ∧ w' = w)
    (hr : Hid (r = if n ≠ 0 then 4 else if k = 3 ∧ L ≠ 2 then 1 else 0)) :
    Calls Tryz.prog 13 #[.agg #[.int .i64 k, .string sx, .int .i64 n]] w fun e w' => e = .returned (.int .i64 r) ∧ Below w.heap.size w w' := by
  by_cases hk3 : k = 3
  · subst hk3
    by_cases hL2 : L = 2
    · subst hL2
      go_enter Tryz.func13, Tryz.ntmps13
      go_wp2_with (first | (go_at_call 53; refine (hA _).mono ?_; rintro e w9 ⟨rfl, rfl⟩) | (go_at_call 54; refine (hB _).mono ?_; rintro e w9 ⟨rfl, rfl⟩) | (go_at_call 14; refine (hC _).mono ?_; rintro e w9 ⟨rfl, rfl⟩))
      all_goals go_ret
      all_goals (refine ⟨?_, box_of⟩; rw [hr.out]; (repeat' split) <;> first | rfl | (exfalso; omega) | (rename_i hq; exact absurd (And.intro trivial hL2) hq))
    · have hz : ¬ ((L : Int) = 2) := by omega
      go_enter Tryz.func13, Tryz.ntmps13
      go_wp2_with (first | (go_at_call 53; refine (hA _).mono ?_; rintro e w9 ⟨rfl, rfl⟩) | (go_at_call 54; refine (hB _).mono ?_; rintro e w9 ⟨rfl, rfl⟩) | (go_at_call 14; refine (hC _).mono ?_; rintro e w9 ⟨rfl, rfl⟩))
      all_goals go_ret
      all_goals (refine ⟨?_, box_of⟩; rw [hr.out]; (repeat' split) <;> first | rfl | (exfalso; omega) | (rename_i hq; exact absurd (And.intro trivial hL2) hq))
  · go_enter Tryz.func13, Tryz.ntmps13
    go_wp2_with (first | (go_at_call 53; refine (hA _).mono ?_; rintro e w9 ⟨rfl, rfl⟩) | (go_at_call 54; refine (hB _).mono ?_; rintro e w9 ⟨rfl, rfl⟩) | (go_at_call 14; refine (hC _).mono ?_; rintro e w9 ⟨rfl, rfl⟩))
    all_goals go_ret
    all_goals (refine ⟨?_, box_of⟩; rw [hr.out]; (repeat' split) <;> first | rfl | (exfalso; omega))
set_option maxRecDepth 100000 in
set_option maxHeartbeats 4000000 in
theorem check_w1 (k n : Int) (sx : ByteArray) (L : Nat) (w : World) (h1 : 1 ≤ k) (h2 : k ≤ 10) (hem : sx.toList.isEmpty = true) (hsz : sx.size = L) (hL : L ≤ 9223372036854775807) (r : Int)
    (hA : ∀ w, Calls Tryz.prog 53 #[.int .i64 k] w fun e w' => e = .returned (.bool true) ∧ w' = w)
    (hB : ∀ w, Calls Tryz.prog 54 #[.int .i64 k] w fun e w' => e = .returned (.bool false) ∧ w' = w) (hC : ∀ w, Calls Tryz.prog 14 #[.string sx] w fun e w' => e = .returned (.bool false) ∧ w' = w)
    (hr : Hid (r = if n ≠ 0 then 4 else 1)) :
    Calls Tryz.prog 13 #[.agg #[.int .i64 k, .string sx, .int .i64 n]] w fun e w' => e = .returned (.int .i64 r) ∧ Below w.heap.size w w' := by
  go_enter Tryz.func13, Tryz.ntmps13
  go_wp2_with (first | (go_at_call 53; refine (hA _).mono ?_; rintro e w9 ⟨rfl, rfl⟩) | (go_at_call 54; refine (hB _).mono ?_; rintro e w9 ⟨rfl, rfl⟩) | (go_at_call 14; refine (hC _).mono ?_; rintro e w9 ⟨rfl, rfl⟩))
  all_goals go_ret
  all_goals (refine ⟨?_, box_of⟩; rw [hr.out]; (repeat' split) <;> first | rfl | (exfalso; omega))
set_option maxRecDepth 100000 in
set_option maxHeartbeats 4000000 in
theorem check_w2 (k n : Int) (sx : ByteArray) (L : Nat) (w : World) (h1 : 1 ≤ k) (h2 : k ≤ 10) (hem : sx.toList.isEmpty = true) (hsz : sx.size = L) (hL : L ≤ 9223372036854775807) (r : Int)
    (hA : ∀ w, Calls Tryz.prog 53 #[.int .i64 k] w fun e w' => e = .returned (.bool false) ∧ w' = w)
    (hB : ∀ w, Calls Tryz.prog 54 #[.int .i64 k] w fun e w' => e = .returned (.bool true) ∧ w' = w) 
    (hr : Hid (r = if n < 1 ∨ 1000 < n then 3 else if k = 3 ∧ L ≠ 2 then 1 else 0)) :
    Calls Tryz.prog 13 #[.agg #[.int .i64 k, .string sx, .int .i64 n]] w fun e w' => e = .returned (.int .i64 r) ∧ Below w.heap.size w w' := by
  by_cases hk3 : k = 3
  · subst hk3
    by_cases hL2 : L = 2
    · subst hL2
      go_enter Tryz.func13, Tryz.ntmps13
      go_wp2_with (first | (go_at_call 53; refine (hA _).mono ?_; rintro e w9 ⟨rfl, rfl⟩) | (go_at_call 54; refine (hB _).mono ?_; rintro e w9 ⟨rfl, rfl⟩))
      all_goals go_ret
      all_goals (refine ⟨?_, box_of⟩; rw [hr.out]; (repeat' split) <;> first | rfl | (exfalso; omega) | (rename_i hq; exact absurd (And.intro trivial hL2) hq))
    · have hz : ¬ ((L : Int) = 2) := by omega
      go_enter Tryz.func13, Tryz.ntmps13
      go_wp2_with (first | (go_at_call 53; refine (hA _).mono ?_; rintro e w9 ⟨rfl, rfl⟩) | (go_at_call 54; refine (hB _).mono ?_; rintro e w9 ⟨rfl, rfl⟩))
      all_goals go_ret
      all_goals (refine ⟨?_, box_of⟩; rw [hr.out]; (repeat' split) <;> first | rfl | (exfalso; omega) | (rename_i hq; exact absurd (And.intro trivial hL2) hq))
  · go_enter Tryz.func13, Tryz.ntmps13
    go_wp2_with (first | (go_at_call 53; refine (hA _).mono ?_; rintro e w9 ⟨rfl, rfl⟩) | (go_at_call 54; refine (hB _).mono ?_; rintro e w9 ⟨rfl, rfl⟩))
    all_goals go_ret
    all_goals (refine ⟨?_, box_of⟩; rw [hr.out]; (repeat' split) <;> first | rfl | (exfalso; omega))
set_option maxRecDepth 100000 in
set_option maxHeartbeats 4000000 in
theorem check_w3 (k n : Int) (sx : ByteArray) (L : Nat) (w : World) (h1 : 1 ≤ k) (h2 : k ≤ 10) (hem : sx.toList.isEmpty = true) (hsz : sx.size = L) (hL : L ≤ 9223372036854775807) (r : Int)
    (hA : ∀ w, Calls Tryz.prog 53 #[.int .i64 k] w fun e w' => e = .returned (.bool false) ∧ w' = w)
    (hB : ∀ w, Calls Tryz.prog 54 #[.int .i64 k] w fun e w' => e = .returned (.bool false) ∧ w' = w) 
    (hr : Hid (r = if n ≠ 0 then 4 else if k = 3 ∧ L ≠ 2 then 1 else 0)) :
    Calls Tryz.prog 13 #[.agg #[.int .i64 k, .string sx, .int .i64 n]] w fun e w' => e = .returned (.int .i64 r) ∧ Below w.heap.size w w' := by
  by_cases hk3 : k = 3
  · subst hk3
    by_cases hL2 : L = 2
    · subst hL2
      go_enter Tryz.func13, Tryz.ntmps13
      go_wp2_with (first | (go_at_call 53; refine (hA _).mono ?_; rintro e w9 ⟨rfl, rfl⟩) | (go_at_call 54; refine (hB _).mono ?_; rintro e w9 ⟨rfl, rfl⟩))
      all_goals go_ret
      all_goals (refine ⟨?_, box_of⟩; rw [hr.out]; (repeat' split) <;> first | rfl | (exfalso; omega) | (rename_i hq; exact absurd (And.intro trivial hL2) hq))
    · have hz : ¬ ((L : Int) = 2) := by omega
      go_enter Tryz.func13, Tryz.ntmps13
      go_wp2_with (first | (go_at_call 53; refine (hA _).mono ?_; rintro e w9 ⟨rfl, rfl⟩) | (go_at_call 54; refine (hB _).mono ?_; rintro e w9 ⟨rfl, rfl⟩))
      all_goals go_ret
      all_goals (refine ⟨?_, box_of⟩; rw [hr.out]; (repeat' split) <;> first | rfl | (exfalso; omega) | (rename_i hq; exact absurd (And.intro trivial hL2) hq))
  · go_enter Tryz.func13, Tryz.ntmps13
    go_wp2_with (first | (go_at_call 53; refine (hA _).mono ?_; rintro e w9 ⟨rfl, rfl⟩) | (go_at_call 54; refine (hB _).mono ?_; rintro e w9 ⟨rfl, rfl⟩))
    all_goals go_ret
    all_goals (refine ⟨?_, box_of⟩; rw [hr.out]; (repeat' split) <;> first | rfl | (exfalso; omega))
set_option maxRecDepth 100000 in
set_option maxHeartbeats 4000000 in
theorem check_w4 (k n : Int) (sx : ByteArray) (L : Nat) (w : World) (h1 : 1 ≤ k) (h2 : k ≤ 10) (hem : sx.toList.isEmpty = false) (hsz : sx.size = L) (hL : L ≤ 9223372036854775807) (r : Int)
    (hA : ∀ w, Calls Tryz.prog 53 #[.int .i64 k] w fun e w' => e = .returned (.bool true) ∧ w' = w)
    (hB : ∀ w, Calls Tryz.prog 54 #[.int .i64 k] w fun e w' => e = .returned (.bool false) ∧ w' = w) (hC : ∀ w, Calls Tryz.prog 14 #[.string sx] w fun e w' => e = .returned (.bool true) ∧ w' = w)
    (hr : Hid (r = if n ≠ 0 then 4 else if k = 3 ∧ L ≠ 2 then 1 else 0)) :
    Calls Tryz.prog 13 #[.agg #[.int .i64 k, .string sx, .int .i64 n]] w fun e w' => e = .returned (.int .i64 r) ∧ Below w.heap.size w w' := by
  by_cases hk3 : k = 3
  · subst hk3
    by_cases hL2 : L = 2
    · subst hL2
      go_enter Tryz.func13, Tryz.ntmps13
      go_wp2_with (first | (go_at_call 53; refine (hA _).mono ?_; rintro e w9 ⟨rfl, rfl⟩) | (go_at_call 54; refine (hB _).mono ?_; rintro e w9 ⟨rfl, rfl⟩) | (go_at_call 14; refine (hC _).mono ?_; rintro e w9 ⟨rfl, rfl⟩))
      all_goals go_ret
      all_goals (refine ⟨?_, box_of⟩; rw [hr.out]; (repeat' split) <;> first | rfl | (exfalso; omega) | (rename_i hq; exact absurd (And.intro trivial hL2) hq))
    · have hz : ¬ ((L : Int) = 2) := by omega
      go_enter Tryz.func13, Tryz.ntmps13
      go_wp2_with (first | (go_at_call 53; refine (hA _).mono ?_; rintro e w9 ⟨rfl, rfl⟩) | (go_at_call 54; refine (hB _).mono ?_; rintro e w9 ⟨rfl, rfl⟩) | (go_at_call 14; refine (hC _).mono ?_; rintro e w9 ⟨rfl, rfl⟩))
      all_goals go_ret
      all_goals (refine ⟨?_, box_of⟩; rw [hr.out]; (repeat' split) <;> first | rfl | (exfalso; omega) | (rename_i hq; exact absurd (And.intro trivial hL2) hq))
  · go_enter Tryz.func13, Tryz.ntmps13
    go_wp2_with (first | (go_at_call 53; refine (hA _).mono ?_; rintro e w9 ⟨rfl, rfl⟩) | (go_at_call 54; refine (hB _).mono ?_; rintro e w9 ⟨rfl, rfl⟩) | (go_at_call 14; refine (hC _).mono ?_; rintro e w9 ⟨rfl, rfl⟩))
    all_goals go_ret
    all_goals (refine ⟨?_, box_of⟩; rw [hr.out]; (repeat' split) <;> first | rfl | (exfalso; omega))
set_option maxRecDepth 100000 in
set_option maxHeartbeats 4000000 in
theorem check_w5 (k n : Int) (sx : ByteArray) (L : Nat) (w : World) (h1 : 1 ≤ k) (h2 : k ≤ 10) (hem : sx.toList.isEmpty = false) (hsz : sx.size = L) (hL : L ≤ 9223372036854775807) (r : Int)
    (hA : ∀ w, Calls Tryz.prog 53 #[.int .i64 k] w fun e w' => e = .returned (.bool true) ∧ w' = w)
    (hB : ∀ w, Calls Tryz.prog 54 #[.int .i64 k] w fun e w' => e = .returned (.bool false) ∧ w' = w) (hC : ∀ w, Calls Tryz.prog 14 #[.string sx] w fun e w' => e = .returned (.bool false) ∧ w' = w)
    (hr : Hid (r = if n ≠ 0 then 4 else 1)) :
    Calls Tryz.prog 13 #[.agg #[.int .i64 k, .string sx, .int .i64 n]] w fun e w' => e = .returned (.int .i64 r) ∧ Below w.heap.size w w' := by
  go_enter Tryz.func13, Tryz.ntmps13
  go_wp2_with (first | (go_at_call 53; refine (hA _).mono ?_; rintro e w9 ⟨rfl, rfl⟩) | (go_at_call 54; refine (hB _).mono ?_; rintro e w9 ⟨rfl, rfl⟩) | (go_at_call 14; refine (hC _).mono ?_; rintro e w9 ⟨rfl, rfl⟩))
  all_goals go_ret
  all_goals (refine ⟨?_, box_of⟩; rw [hr.out]; (repeat' split) <;> first | rfl | (exfalso; omega))
set_option maxRecDepth 100000 in
set_option maxHeartbeats 4000000 in
theorem check_w6 (k n : Int) (sx : ByteArray) (L : Nat) (w : World) (h1 : 1 ≤ k) (h2 : k ≤ 10) (hem : sx.toList.isEmpty = false) (hsz : sx.size = L) (hL : L ≤ 9223372036854775807) (r : Int)
    (hA : ∀ w, Calls Tryz.prog 53 #[.int .i64 k] w fun e w' => e = .returned (.bool false) ∧ w' = w)
    (hB : ∀ w, Calls Tryz.prog 54 #[.int .i64 k] w fun e w' => e = .returned (.bool true) ∧ w' = w) 
    (hr : Hid (r = 4)) :
    Calls Tryz.prog 13 #[.agg #[.int .i64 k, .string sx, .int .i64 n]] w fun e w' => e = .returned (.int .i64 r) ∧ Below w.heap.size w w' := by
  go_enter Tryz.func13, Tryz.ntmps13
  go_wp2_with (first | (go_at_call 53; refine (hA _).mono ?_; rintro e w9 ⟨rfl, rfl⟩) | (go_at_call 54; refine (hB _).mono ?_; rintro e w9 ⟨rfl, rfl⟩))
  all_goals go_ret
  all_goals (refine ⟨?_, box_of⟩; rw [hr.out]; (repeat' split) <;> first | rfl | (exfalso; omega))
set_option maxRecDepth 100000 in
set_option maxHeartbeats 4000000 in
theorem check_w7 (k n : Int) (sx : ByteArray) (L : Nat) (w : World) (h1 : 1 ≤ k) (h2 : k ≤ 10) (hem : sx.toList.isEmpty = false) (hsz : sx.size = L) (hL : L ≤ 9223372036854775807) (r : Int)
    (hA : ∀ w, Calls Tryz.prog 53 #[.int .i64 k] w fun e w' => e = .returned (.bool false) ∧ w' = w)
    (hB : ∀ w, Calls Tryz.prog 54 #[.int .i64 k] w fun e w' => e = .returned (.bool false) ∧ w' = w) 
    (hr : Hid (r = 4)) :
    Calls Tryz.prog 13 #[.agg #[.int .i64 k, .string sx, .int .i64 n]] w fun e w' => e = .returned (.int .i64 r) ∧ Below w.heap.size w w' := by
  go_enter Tryz.func13, Tryz.ntmps13
  go_wp2_with (first | (go_at_call 53; refine (hA _).mono ?_; rintro e w9 ⟨rfl, rfl⟩) | (go_at_call 54; refine (hB _).mono ?_; rintro e w9 ⟨rfl, rfl⟩))
  all_goals go_ret
  all_goals (refine ⟨?_, box_of⟩; rw [hr.out]; (repeat' split) <;> first | rfl | (exfalso; omega))

theorem uses_le (k : Int) : uses k = 0 ∨ uses k = 1 ∨ uses k = 2 ∨ uses k = 3 := by
  unfold uses
  split
  · exact .inr (.inl rfl)
  · split
    · exact .inr (.inr (.inl rfl))
    · split
      · exact .inr (.inr (.inr rfl))
      · exact .inl rfl

theorem check_is (c : Cmd) (w : World) (hm : c.word.length ≤ 9223372036854775807) :
    Calls Tryz.prog 13 #[c.v] w fun e w' => e = .returned (.int .i64 (chk c)) ∧ Below w.heap.size w w' := by
  obtain ⟨k, word, n⟩ := c
  show Calls Tryz.prog 13 #[.agg #[.int .i64 k, .string ⟨word.toArray⟩, .int .i64 n]] w _
  by_cases h0 : k < 1 ∨ 10 < k
  · rw [chk_form (.inl ((uses_range k).2 h0))]
    exact check_form0 k n word w h0
  · have h1 : 1 ≤ k := by omega
    have h2 : k ≤ 10 := by omega
    have hu0 : uses k ≠ 0 := fun h => h0 ((uses_range k).1 h)
    have hsz : (⟨word.toArray⟩ : ByteArray).size = word.length := by simp [ByteArray.size]
    have hA := fun w => hasWord_is k w
    have hB := fun w => hasNumber_is k w
    have hC := fun w => word_is word w hm
    have hk3 : uses k ≠ 1 → k ≠ 3 := by
      rintro h rfl
      exact h rfl
    unfold chk
    simp only [hu0, if_false]
    rcases uses_le k with hu | hu | hu | hu
    · exact absurd hu hu0
    · rw [hu] at hA hB ⊢
      by_cases he : word = []
      · cases hiw : isWord word with
        | true => rw [hiw] at hC; exact check_w0 k n _ word.length w h1 h2 (empty_of he) hsz hm _ hA hB hC (show _ = _ by simp [he])
        | false => rw [hiw] at hC; exact check_w1 k n _ word.length w h1 h2 (empty_of he) hsz hm _ hA hB hC (show _ = _ by simp [he])
      · cases hiw : isWord word with
        | true => rw [hiw] at hC; exact check_w4 k n _ word.length w h1 h2 (full_of he) hsz hm _ hA hB hC (show _ = _ by simp [he])
        | false => rw [hiw] at hC; exact check_w5 k n _ word.length w h1 h2 (full_of he) hsz hm _ hA hB hC (show _ = _ by simp [he])
    · have h3 := hk3 (by rw [hu]; decide)
      rw [hu] at hA hB ⊢
      by_cases he : word = []
      · exact check_w2 k n _ word.length w h1 h2 (empty_of he) hsz hm _ hA hB (show _ = _ by simp [he, h3])
      · exact check_w6 k n _ word.length w h1 h2 (full_of he) hsz hm _ hA hB (show _ = _ by simp [he])
    · have h3 := hk3 (by rw [hu]; decide)
      rw [hu] at hA hB ⊢
      by_cases he : word = []
      · exact check_w3 k n _ word.length w h1 h2 (empty_of he) hsz hm _ hA hB (show _ = _ by simp [he, h3])
      · exact check_w7 k n _ word.length w h1 h2 (full_of he) hsz hm _ hA hB (show _ = _ by simp [he])
end Go.Proofs.YtkifihcficobnaaGreatDoor
namespace Go.Proofs.YtkifihcficobnaaGreatDoor
open Go.RowKit Go.Gs
set_option linter.unusedVariables false

theorem str_eqO (a b : List UInt8) : ((⟨a.toArray⟩ : ByteArray).toList == (⟨b.toArray⟩ : ByteArray).toList) = decide (a = b) := by
  by_cases h : a = b
  · subst h; simp
  · simp [h]
theorem box3O {w w' : World} {a b c : Value} {t : TypeId} (h : Below (w.alloc (.cells #[a, b, c] t)).heap.size (w.alloc (.cells #[a, b, c] t)) w') : w'.cell? ⟨w.heap.size, 0, none⟩ = some a ∧ w'.cell? ⟨w.heap.size, 1, none⟩ = some b ∧ w'.cell? ⟨w.heap.size, 2, none⟩ = some c := by
  refine ⟨?_, ?_, ?_⟩
  all_goals
    rw [h.cell (by simp), cell_of_row _ _ _ _ _ _ (heap_alloc_new w _)]
    rfl
theorem below_grownO {B : Nat} {w w1 : World} (h : w.grownBy w1 none) (hB : B ≤ w.heap.size) : Below B w w1 := ⟨h.os, h.tape, h.output, h.size, fun k hk => h.block k (by omega) (by simp)⟩
theorem owns_formO {w : World} {B : Nat} {e : TypeId} {size : Nat} {v : Value} {n : Nat} {xs : List Value} (h : w.ownsRow B e size v n xs) : ∃ a c, v = .slice a n c ∧ n ≤ c ∧ c ≤ maxLen := by
  rcases h.2 with ⟨rfl, h0⟩ | ⟨g, cap, cur, rfl, _, _, h1, h2, _⟩
  · exact ⟨none, 0, by rw [h0], by omega, by simp [maxLen]⟩
  · exact ⟨_, cap, rfl, h1, h2⟩
theorem step_append_ownO {P : Program} {ops : Array Oper} {o : Oper} {a : Act} {w : World} {K : Act → World → Prop} {Q : Exit → Act → World → Prop} {E : Prop}
    (hgd : o.guard = none) (s x : Operand) (t : TypeId) (ho : o.op = .call { callee := .builtin .append, args := #[s, x], argTypes := #[t, t] })
    (base : Nat) (e : TypeId) (i : TypeInfo) (z : Value) (size bytes : Nat) (ht : P.underlying t = some (.slice e)) (hi : P.info? e = some i) (hz : i.zero = some z)
    (hsize : i.size = size) (hby : i.bytes = bytes) (hzs : z.cells.size = size) (hsz : 0 < size)
    (v : Value) (n : Nat) (xs : List Value) (hs : a.eval s = v) (hown : w.ownsRow base e size v n xs)
    (ad : Addr) (m c : Nat) (news : List Value) (hx : a.eval x = .slice (some ad) m c) (hl : news.length = m * size) (hnews : ∀ j u, news[j]? = some u → w.cell? (ad.add j) = some u) (h1 : ∀ u ∈ news, u.oneCell' = true)
    (h63 : n + m ≤ maxLen) (hbytes : (n + m) * bytes ≤ 140737488355328) (hbase : base ≤ w.heap.size)
    (h : ∀ v' w', w'.ownsRow base e size v' (n + m) (xs ++ news) → w.grownBy w' v.ownBlock → (v' = .slice none 0 0 ↔ v = .slice none 0 0 ∧ m = 0) → (v'.ownBlock = v.ownBlock ∨ v'.ownBlock = some w.heap.size) → K (a.put o.dst v') w') :
    if Region.wanted o (yielded ops a.tmps) = true then Oper.wp P o a w K Q else E := by
  have hw : Region.wanted o (yielded ops a.tmps) = true := by simp [Region.wanted, hgd]
  rw [if_pos hw]
  obtain ⟨v', w', hr, h2, h3, h4, h5⟩ := run_append_own_at (P := P) w base t o.type e i z size bytes ht hi hz hsize hby hzs hsz v n xs hown ad m c news hl hnews h1 h63 hbytes hbase
  unfold Oper.wp execOp
  simp only [ho, resolve, invoke, builtin, Sem.run_bind, Sem.run_pure, Result.andThen_ok, List.map_toArray, List.map_cons, List.map_nil, hs, hx, hr]
  exact h v' w' h2 h3 h4 h5
end Go.Proofs.YtkifihcficobnaaGreatDoor
namespace Go.Proofs.YtkifihcficobnaaGreatDoor
open Go.RowKit Go.Gs
set_option linter.unusedVariables false

theorem howFor_cases (k : Int) : (k = 6 ∧ howFor k = 2) ∨ (k = 8 ∧ howFor k = 3) ∨ (k = 7 ∧ howFor k = 4) ∨ (k = 9 ∧ howFor k = 4) ∨ (k = 10 ∧ howFor k = 4) ∨ (k ≠ 6 ∧ k ≠ 7 ∧ k ≠ 8 ∧ k ≠ 9 ∧ k ≠ 10 ∧ howFor k = 1) := by
  unfold howFor
  by_cases h6 : k = 6
  · simp [h6]
  · by_cases h8 : k = 8
    · simp [h8]
    · by_cases h7 : k = 7
      · simp [h7]
      · by_cases h9 : k = 9
        · simp [h9]
        · by_cases h10 : k = 10
          · simp [h10]
          · simp [*]

set_option maxRecDepth 100000 in
set_option maxHeartbeats 4000000 in
theorem for_is (c : Cmd) (w : World) (hw : c.word.length ≤ 9223372036854775807) :
    Calls Tryz.prog 31 #[c.v] w fun e w' => e = .returned (.tuple #[.int .i64 (if chk c = 0 then howFor c.kind else 0), .int .i64 (chk c)]) ∧ Below w.heap.size w w' := by
  have hchk := fun W => check_is c W hw
  obtain ⟨k, word, n⟩ := c
  unfold Cmd.v at hchk ⊢
  simp only at hchk ⊢
  generalize (⟨word.toArray⟩ : ByteArray) = sx at *
  by_cases h0 : chk ⟨k, word, n⟩ = 0
  · rw [h0] at hchk ⊢
    rw [if_pos rfl]
    have hkk := howFor_cases k
    clear h0
    generalize howFor k = h at *
    rcases hkk with ⟨rfl, rfl⟩ | ⟨rfl, rfl⟩ | ⟨rfl, rfl⟩ | ⟨rfl, rfl⟩ | ⟨rfl, rfl⟩ | ⟨h6, h7, h8, h9, h10, rfl⟩
    all_goals
      go_enter Tryz.func31, Tryz.ntmps31
      go_wp2_with fail
      refine (hchk _).mono ?_
      rintro e w1 ⟨rfl, hb1⟩
      obtain ⟨bx0, bx1, bx2⟩ := box3O hb1
      have HB : Hid (Below w.heap.size w w1) := box_of.trans (hb1.mono (by simp))
      clear hb1 hchk
      go_wp2_with fail
      go_ret2
      exact ⟨rfl, HB.out⟩
  · rw [if_neg h0]
    generalize chk ⟨k, word, n⟩ = r at *
    go_enter Tryz.func31, Tryz.ntmps31
    go_wp2_with fail
    refine (hchk _).mono ?_
    rintro e w1 ⟨rfl, hb1⟩
    have HB : Hid (Below w.heap.size w w1) := box_of.trans (hb1.mono (by simp))
    clear hb1 hchk
    go_wp2_with fail
    go_ret2
    exact ⟨rfl, HB.out⟩
end Go.Proofs.YtkifihcficobnaaGreatDoor
