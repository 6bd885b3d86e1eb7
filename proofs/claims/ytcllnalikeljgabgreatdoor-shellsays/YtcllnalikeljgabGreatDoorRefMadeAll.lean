/- What the reference's Made does to lines, whatever the kind. -/
import Derived.Test.YtcllnalikeljgabGreatDoorRefMade5
import Derived.Test.YtcllnalikeljgabGreatDoorMadeMath
import Derived.Test.YtcllnalikeljgabGreatDoorOverC
namespace Go.Proofs.YtcllnalikeljgabGreatDoor
open Go.RowKit Go.Gs
set_option linter.unusedVariables false

theorem made_ref (c : Cmd) (hc : chk c = 0) (v : Value) (ls : List (List UInt8)) (w : World) (hl0 : Reads w v ls.length (ls.map S)) (hLm : ls.length ≤ 100000) (hsz : ∀ s ∈ ls, s.length ≤ 100000) (hsh : w.ShapedOpen Tryz.prog) (hK : Known w) :
    Calls Tryz.prog 58 #[c.v, v] w fun e w' => ∃ r, e = .returned r ∧ Reads w' r (made c ls).length ((made c ls).map S) ∧ Below w.heap.size w w' := by
  have hk := chk_kinds c hc
  have hnum := chk_num hc
  have hsw := chk_le hc
  obtain ⟨⟨m, hm⟩, htab⟩ := hK
  obtain ⟨_, al, cl, rfl, _⟩ := id hl0
  obtain ⟨k, word, n⟩ := c
  unfold Cmd.v
  have own : ∀ (f : Nat → Option (List UInt8)) (D : List (List UInt8)) {args : Array Value}, (List.range ls.length).filterMap f = D →
      (Calls Tryz.prog 58 args w fun e w' => ∃ r, e = .returned r ∧ w'.ownsRow (w.heap.size + 1) 9 1 r (M f ls.length).length ((M f ls.length).map S) ∧ Below w.heap.size w w') →
      (Calls Tryz.prog 58 args w fun e w' => ∃ r, e = .returned r ∧ Reads w' r D.length (D.map S) ∧ Below w.heap.size w w') := by
    intro f D args hD h
    refine h.mono ?_
    rintro e w' ⟨r, rfl, h1, h2⟩
    have : M f ls.length = D := hD
    rw [this] at h1
    exact ⟨r, rfl, Reads.of_owns h1, h2⟩
  have : k = 1 ∨ k = 2 ∨ k = 3 ∨ k = 4 ∨ k = 5 ∨ k = 6 ∨ k = 7 ∨ k = 8 ∨ k = 9 ∨ k = 10 := by simp only at hk; omega
  rcases this with rfl | rfl | rfl | rfl | rfl | rfl | rfl | rfl | rfl | rfl
  · rw [made1 _ rfl]
    have hf : ∀ (i : Nat) s, ls[i]? = some s → (fun i : Nat => (ls[i]?).bind fun s => if Lib.contains s word = true then some s else none) i = if Lib.contains s word = true then some s else none := by intro i s h; simp [h]
    exact own _ _ (fm_filter ls (fun s => Lib.contains s word) _ hf) (made_keep al cl word n ls w hl0 hLm hsz _ hsh hf)
  · rw [made2 _ rfl]
    have hf : ∀ (i : Nat) s, ls[i]? = some s → (fun i : Nat => (ls[i]?).bind fun s => if ¬ Lib.contains s word = true then some s else none) i = if ¬ Lib.contains s word = true then some s else none := by intro i s h; simp [h]
    exact own _ _ (fm_filter ls (fun s => !Lib.contains s word) _ (fun i s h => (hf i s h).trans (by simp))) (made_drop al cl word n ls w hl0 hLm hsz _ hsh hf)
  · rw [made3 _ rfl]
    obtain ⟨a, b, rfl⟩ := two_word (hsw rfl).1
    have hf : ∀ (i : Nat) s, ls[i]? = some s → (fun i : Nat => (ls[i]?).map (swapOf a b)) i = some (swapOf a b s) := by intro i s h; simp [h]
    exact own _ _ (fm_map ls (swapOf a b) _ hf) (made_swap al cl n ls w hl0 hLm hsz a b _ hf)
  · rw [made4 _ rfl]
    obtain ⟨h1, h2⟩ := hnum rfl
    have hf : ∀ (i : Nat) s, ls[i]? = some s → (fun i : Nat => (ls[i]?).map (fieldOf n)) i = some (fieldOf n s) := by intro i s h; simp [h]
    exact own _ _ (fm_map ls (fieldOf n) _ hf) (made_field al cl word n ls w hl0 hLm hsz m hm h1 h2 _ hf)
  · rw [made5 _ rfl]
    have hf : ∀ (i : Nat) s, ls[i]? = some s → (fun i : Nat => (ls[i]?).map List.reverse) i = some s.reverse := by intro i s h; simp [h]
    exact own _ _ (fm_map ls List.reverse _ hf) (made_turn al cl word n ls w hl0 hLm hsz _ hf)
  · rw [made6 _ rfl]
    have hf : ∀ (i : Nat) s, ls[i]? = some s → (fun i : Nat => ls[i]?) i = some s := by intro i s h; simpa using h
    have hM : M (fun i : Nat => ls[i]?) ls.length = ls := by have := fm_map ls id _ hf; rw [List.map_id] at this; exact this
    have h := made_sort al cl word n ls w hl0 hLm hsz _ hf
    rw [hM] at h
    exact h
  · rw [made7 _ rfl]
    have hf : ∀ (i : Nat) s, ls[i]? = some s → (fun i : Nat => (ls[i]?).bind fun s => if i = 0 ∨ ls[i - 1]? ≠ some s then some s else none) i = if i = 0 ∨ ls[i - 1]? ≠ some s then some s else none := by intro i s h; simp [h]
    exact own _ _ (fm_once ls _ hf) (made_once al cl word n ls w hl0 hLm hsz _ hf)
  · rw [made8 _ rfl]
    exact made_count al cl word n ls w hl0 hLm hsz (fun _ => none) (fun _ _ _ => rfl) htab
  · rw [made9 _ rfl]
    have hf : ∀ (i : Nat) s, ls[i]? = some s → (fun i : Nat => (ls[i]?).bind fun s => if (i : Int) < n then some s else none) i = if (i : Int) < n then some s else none := by intro i s h; simp [h]
    exact own _ _ (fm_head ls n _ hf) (made_head al cl word n ls w hl0 hLm hsz _ hf)
  · rw [made10 _ rfl]
    obtain ⟨h1, h2⟩ := hnum rfl
    have hf : ∀ (i : Nat) s, ls[i]? = some s → (fun i : Nat => (ls[i]?).bind fun s => if (ls.length : Int) - n ≤ (i : Int) then some s else none) i = if (ls.length : Int) - n ≤ (i : Int) then some s else none := by intro i s h; simp [h]
    exact own _ _ (fm_tail ls n (by simp only at h1; omega) _ hf) (made_tail al cl word n ls w hl0 hLm hsz _ h1 h2 hf)
end Go.Proofs.YtcllnalikeljgabGreatDoor
