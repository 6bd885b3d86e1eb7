/- What the reference's IsWord does. -/
import Derived.Test.YtkifihcficobnaaGreatDoorPlainF
import Derived.Test.YtkifihcficobnaaGreatDoorShelf
import Derived.Shelf.Strings.SlTrimAscii
import Derived.WalkKit
import Derived.WalkLawsBesides
import Derived.Outline
namespace Go.Proofs.YtkifihcficobnaaGreatDoor
open Go.RowKit Go.Gs
set_option linter.unusedVariables false

def cutset : List UInt8 := [97, 98, 99, 100, 101, 102, 103, 104, 105, 106, 107, 108, 109, 110, 111, 112, 113, 114, 115, 116, 117, 118, 119, 120, 121, 122, 48, 49, 50, 51, 52, 53, 54, 55, 56, 57]

theorem cut_word : ∀ n : Fin 256, cutset.contains (UInt8.ofNat n.val) = wordByte (UInt8.ofNat n.val) := by decide +kernel
theorem cut_is (c : UInt8) : cutset.contains c = wordByte c := by
  have h := cut_word ⟨c.toNat, c.toNat_lt⟩
  simpa using h

theorem dropWhile_nil (p : UInt8 → Bool) (l : List UInt8) : l.dropWhile p = [] ↔ ∀ x ∈ l, p x = true := by
  induction l with
  | nil => simp
  | cons y l ih =>
    rw [List.dropWhile_cons]
    by_cases h : p y = true
    · rw [if_pos h, ih]
      simp [h]
    · rw [if_neg h]
      simp [h]

theorem dropWhile_head (p : UInt8 → Bool) (l : List UInt8) : ∀ y r, l.dropWhile p = y :: r → p y = false := by
  induction l with
  | nil => intro y r h; cases h
  | cons x l ih =>
    intro y r h
    rw [List.dropWhile_cons] at h
    by_cases hx : p x = true
    · rw [if_pos hx] at h
      exact ih y r h
    · rw [if_neg hx] at h
      cases h
      simpa using hx

theorem trim_nil (l cs : List UInt8) : (Lib.trimS l cs = []) ↔ l.all (cs.contains ·) = true := by
  unfold Lib.trimS Lib.trimLeftS Lib.trimRightS
  rw [dropWhile_nil, List.all_eq_true]
  constructor
  · intro h
    cases hd : l.reverse.dropWhile (cs.contains ·) with
    | nil =>
      rw [dropWhile_nil] at hd
      intro x hx
      exact hd x (by simpa using hx)
    | cons y r =>
      have h3 := dropWhile_head _ _ y r hd
      have h4 := h y (by rw [hd]; simp)
      rw [h3] at h4
      cases h4
  · intro h x hx
    have h2 : l.reverse.dropWhile (cs.contains ·) = [] := by
      rw [dropWhile_nil]
      intro y hy
      exact h y (by simpa using hy)
    rw [h2] at hx
    cases hx

theorem all_word (s : List UInt8) : s.all (cutset.contains ·) = s.all wordByte := by
  congr 1
  funext c
  exact cut_is c

set_option maxRecDepth 100000 in
theorem trim_word (s : List UInt8) (w : World) (hsz : s.length ≤ 9223372036854775807) :
    Calls Tryz.prog 55 #[.string ⟨s.toArray⟩, .string ⟨cutset.toArray⟩] w fun e w' => ∃ t : List UInt8, e = .returned (.string ⟨t.toArray⟩) ∧ t.isEmpty = s.all wordByte ∧ Below w.heap.size w w' := by
  refine (Any.strings_Trim_laid Tryz.lays160 (by kernel_rfl) ⟨s.toArray⟩ ⟨cutset.toArray⟩ w (by simpa [ByteArray.size] using hsz) (by decide) (ascii_of_all (by decide))).mono ?_
  rintro e w' ⟨rfl, hb⟩
  refine ⟨_, rfl, ?_, hb⟩
  rw [← all_word]
  rw [Bool.eq_iff_iff, List.isEmpty_iff]
  exact trim_nil s cutset

set_option maxRecDepth 100000 in
set_option maxHeartbeats 1000000 in
theorem isWord_ref (s : List UInt8) (w : World) (hsz : s.length ≤ 9223372036854775807) (d : Bool) (hd : isWord s = d) :
    Calls Tryz.prog 15 #[.string ⟨s.toArray⟩] w fun e w' => e = .returned (.bool d) ∧ Below w.heap.size w w' := by
  by_cases h0 : 0 < s.length
  · by_cases h12 : s.length ≤ 12
    · have hd' : s.all wordByte = d := by rw [← hd]; simp [isWord, h0, h12]
      have Hd : Hid _ := hd'
      clear hd hd'
      go_enter Tryz.func15, Tryz.ntmps15
      go_wp2_with fail
      refine (trim_word s _ hsz).mono ?_
      rintro e w' ⟨t, rfl, ht, hb⟩
      rw [Hd.out] at ht
      go_wp2_with fail
      go_ret
      exact ⟨rfl, hb⟩
    · have hd' : d = false := by rw [← hd]; simp [isWord, h12]
      subst hd'
      clear hd
      go_enter Tryz.func15, Tryz.ntmps15
      go_wp2_with fail
      go_ret
      exact ⟨rfl, Below.refl _ _⟩
  · have hd' : d = false := by rw [← hd]; simp [isWord, h0]
    subst hd'
    clear hd
    go_enter Tryz.func15, Tryz.ntmps15
    go_wp2_with fail
    go_ret
    exact ⟨rfl, Below.refl _ _⟩
end Go.Proofs.YtkifihcficobnaaGreatDoor
