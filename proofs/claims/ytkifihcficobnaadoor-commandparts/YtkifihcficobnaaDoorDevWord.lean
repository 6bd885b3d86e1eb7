/- What the developers' Word, hasWord, hasNumber, Each do. -/
import Derived.Test.YtkifihcficobnaaDoorCmdPlain
import Derived.Test.YtkifihcficobnaaDoorProg
import Derived.WalkKit
import Derived.WalkLawsBesides
import Derived.Outline
import Derived.ChangeAgain
namespace Go.Proofs.YtkifihcficobnaaDoor
open Go.RowKit Go.Gs
set_option linter.unusedVariables false

theorem hasWord_is (k : Int) (w : World) :
    Calls Tryd.prog 61 #[.int .i64 k] w fun e w' => e = .returned (.bool (decide (uses k = 1))) ∧ w' = w := by
  by_cases h1 : k = 1
  · subst h1
    go_enter Tryd.func61, Tryd.ntmps61
    go_wp2
    go_ret
    exact ⟨rfl, rfl⟩
  · by_cases h2 : k = 2
    · subst h2
      go_enter Tryd.func61, Tryd.ntmps61
      go_wp2
      go_ret
      exact ⟨rfl, rfl⟩
    · by_cases h3 : k = 3
      · subst h3
        go_enter Tryd.func61, Tryd.ntmps61
        go_wp2
        go_ret
        exact ⟨rfl, rfl⟩
      · have hu : decide (uses k = 1) = false := by
          apply decide_eq_false
          unfold uses
          split
          · omega
          · split
            · decide
            · split <;> decide
        rw [hu]
        go_enter Tryd.func61, Tryd.ntmps61
        go_wp2
        go_ret
        exact ⟨by simp [h1, h2, h3], rfl⟩

theorem hasNumber_is (k : Int) (w : World) :
    Calls Tryd.prog 62 #[.int .i64 k] w fun e w' => e = .returned (.bool (decide (uses k = 2))) ∧ w' = w := by
  by_cases h1 : k = 4
  · subst h1
    go_enter Tryd.func62, Tryd.ntmps62
    go_wp2
    go_ret
    exact ⟨rfl, rfl⟩
  · by_cases h2 : k = 9
    · subst h2
      go_enter Tryd.func62, Tryd.ntmps62
      go_wp2
      go_ret
      exact ⟨rfl, rfl⟩
    · by_cases h3 : k = 10
      · subst h3
        go_enter Tryd.func62, Tryd.ntmps62
        go_wp2
        go_ret
        exact ⟨rfl, rfl⟩
      · have hu : decide (uses k = 2) = false := by
          apply decide_eq_false
          unfold uses
          split
          · decide
          · split
            · omega
            · split <;> decide
        rw [hu]
        go_enter Tryd.func62, Tryd.ntmps62
        go_wp2
        go_ret
        exact ⟨by simp [h1, h2, h3], rfl⟩

theorem box_of {w : World} {o : Obj} : Below w.heap.size w (w.alloc o) := (Below.refl _ w).alloc (Nat.le_refl _) o

theorem take_word {l : List UInt8} {k : Nat} {c : UInt8} (hl : l[k]? = some c) (h : ∀ x ∈ l.take k, wordByte x = true) (hc : wordByte c = true) : ∀ x ∈ l.take (k + 1), wordByte x = true := by
  intro x hx
  rw [List.take_add_one, hl] at hx
  simp only [Option.toList_some, List.mem_append, List.mem_singleton] at hx
  rcases hx with hx | rfl
  · exact h x hx
  · exact hc
theorem no_word {l : List UInt8} {k : Nat} {c : UInt8} (hl : l[k]? = some c) (hc : wordByte c = false) : l.all wordByte = false := by
  rw [List.all_eq_false]
  exact ⟨c, List.mem_of_getElem? hl, by simp [hc]⟩

set_option maxRecDepth 100000 in
set_option maxHeartbeats 1000000 in
theorem word_loop (l : List UInt8) (w : World) (h0 : 0 < l.length) (h1 : l.length ≤ 12) :
    Calls Tryd.prog 63 #[.string ⟨l.toArray⟩] w fun e w' => e = .returned (.bool (l.all wordByte)) ∧ w' = w := by
  have hsz : (⟨l.toArray⟩ : ByteArray).size = l.length := by simp [ByteArray.size]
  have hget : Hid (∀ k (h : k < l.length) (h' : k < (⟨l.toArray⟩ : ByteArray).size), l[k]? = some ((⟨l.toArray⟩ : ByteArray)[k]'h')) := by
    intro k h h'
    rw [List.getElem?_eq_getElem h]
    rfl
  generalize hsx : (⟨l.toArray⟩ : ByteArray) = sx at *
  have hem : sx.toList.isEmpty = false := by
    subst hsx
    cases l with
    | nil => simp at h0
    | cons c l => simp
  clear hsx
  go_enter Tryd.func63, Tryd.ntmps63
  go_wp2_with fail
  go_loopw [14] (fun i wr => ∃ k : Nat, k ≤ l.length ∧ i = .int .i64 k ∧ wr = w ∧ Hid (∀ x ∈ l.take k, wordByte x = true)) (fun i _ => l.length - (intOf i).toNat)
  case atStart => exact ⟨0, Nat.zero_le _, rfl, rfl, by intro x hx; simp at hx⟩
  case round =>
    obtain ⟨k, hk, rfl, rfl, hall⟩ := hrel
    by_cases hlt : k < l.length
    · have hg : Hid _ := hget.out k hlt (by omega)
      go_wp2_with fail
      all_goals first
        | (go_ret; refine ⟨?_, rfl⟩; show Ending.returned (.bool false) = _; rw [no_word hg.out (by simp [wordByte]; omega)])
        | (go_roundw
           case rel => exact ⟨k + 1, by omega, by go_num, by simp, take_word hg.out hall.out (by simp [wordByte]; omega)⟩
           case measure => simp [intOf]; omega)
    · go_wp2_with fail
      go_ret
      refine ⟨?_, rfl⟩
      have hkl : k = l.length := by omega
      have h := hall.out
      rw [hkl, List.take_length] at h
      show Ending.returned (.bool true) = _
      rw [List.all_eq_true.2 h]

set_option maxRecDepth 100000 in
set_option maxHeartbeats 1000000 in
theorem word_is (l : List UInt8) (w : World) (hm : l.length ≤ 9223372036854775807) :
    Calls Tryd.prog 63 #[.string ⟨l.toArray⟩] w fun e w' => e = .returned (.bool (isWord l)) ∧ w' = w := by
  by_cases h0 : l = []
  · subst h0
    go_enter Tryd.func63, Tryd.ntmps63
    go_wp2
    go_ret
    exact ⟨rfl, rfl⟩
  · have hl0 : 0 < l.length := List.length_pos_iff.2 h0
    by_cases h1 : l.length ≤ 12
    · have : isWord l = l.all wordByte := by simp [isWord, hl0, h1]
      rw [this]
      exact word_loop l w hl0 h1
    · have hw : isWord l = false := by simp [isWord, h1]
      rw [hw]
      have hsz : (⟨l.toArray⟩ : ByteArray).size = l.length := by simp [ByteArray.size]
      generalize hsx : (⟨l.toArray⟩ : ByteArray) = sx at *
      have hem : sx.toList.isEmpty = false := by
        subst hsx
        cases l with
        | nil => simp at h0
        | cons c l => simp
      clear hsx
      go_enter Tryd.func63, Tryd.ntmps63
      go_wp2
      go_ret
      exact ⟨rfl, rfl⟩
end Go.Proofs.YtkifihcficobnaaDoor
