/- Plain facts on parts: no walk. -/
import Derived.Test.YtkifihcficobnaaDoorSplit
namespace Go.Proofs.YtkifihcficobnaaDoor
open Go.RowKit Go.Gs
set_option linter.unusedVariables false

theorem lo_full (n p : Nat) (h : 0 < p) : p * n / p = n := Nat.mul_div_cancel_left n h

/-- How many lines a part has. -/
theorem size_facts (k n p : Nat) (h : k < p) : k * n / p + n / p ≤ (k + 1) * n / p ∧ (k + 1) * n / p ≤ k * n / p + n / p + 1 := by
  have hp : 0 < p := by omega
  have e : (k + 1) * n = k * n + n := by rw [Nat.add_mul, Nat.one_mul]
  rw [e]
  have h1 := Nat.div_add_mod (k * n) p
  have h2 := Nat.div_add_mod n p
  have m1 := Nat.mod_lt (k * n) hp
  have m2 := Nat.mod_lt n hp
  have e1 : p * (k * n / p) + p * (n / p) = p * (k * n / p + n / p) := (Nat.mul_add _ _ _).symm
  constructor
  · rw [Nat.le_div_iff_mul_le hp, Nat.mul_comm (k * n / p + n / p) p]
    omega
  · have e2 : p * (k * n / p + n / p + 1) = p * (k * n / p + n / p) + p := by rw [Nat.mul_add, Nat.mul_one]
    have : (k * n + n) / p < k * n / p + n / p + 1 + 1 := by
      rw [Nat.div_lt_iff_lt_mul hp, Nat.mul_comm (k * n / p + n / p + 1 + 1) p]
      have e3 : p * (k * n / p + n / p + 1 + 1) = p * (k * n / p + n / p) + p + p := by rw [Nat.mul_add, Nat.mul_one, e2]
      omega
    omega

theorem part_lines (bs : List UInt8) (p k : Nat) : lines (part bs p k) = ((lines bs).take ((k + 1) * (lines bs).length / p)).drop (k * (lines bs).length / p) := by
  unfold part
  apply lines_ended
  intro s hs
  exact lines_noFeed bs s (List.mem_of_mem_take (List.mem_of_mem_drop hs))

theorem part_len (bs : List UInt8) (p k : Nat) : (part bs p k).length ≤ bs.length + 1 :=
  Nat.le_trans (ended_length_sub _ _ _) (ended_lines bs)

theorem lines_part_len (bs : List UInt8) (p k : Nat) (h : k < p) (hn : 0 < (lines bs).length) : (lines (part bs p k)).length = (k + 1) * (lines bs).length / p - k * (lines bs).length / p := by
  rw [part_lines]
  have := lo_facts k (lines bs).length p h hn
  simp
  omega

theorem part_empty (bs : List UInt8) (p k : Nat) (h : k < p) (hn : ¬ 0 < (lines bs).length) : part bs p k = [] := by
  have : lines bs = [] := List.eq_nil_of_length_eq_zero (by omega)
  simp [part, this, ended]

/-- What has been put together so far, and one part more. -/
theorem back_step (bs : List UInt8) (p k : Nat) (h : k < p) :
    (lines bs).take (k * (lines bs).length / p) ++ lines (part bs p k) = (lines bs).take ((k + 1) * (lines bs).length / p) := by
  rw [part_lines]
  have h1 : k * (lines bs).length / p ≤ (k + 1) * (lines bs).length / p := Nat.div_le_div_right (Nat.mul_le_mul_right _ (by omega))
  have e : (lines bs).take (k * (lines bs).length / p) = ((lines bs).take ((k + 1) * (lines bs).length / p)).take (k * (lines bs).length / p) := by
    rw [List.take_take, Nat.min_eq_left h1]
  rw [e, List.take_append_drop]

theorem count_facts (bs : List UInt8) (p k : Nat) (h : k < p) :
    (lines bs).length / p ≤ (lines (part bs p k)).length ∧ (lines (part bs p k)).length ≤ (lines bs).length / p + 1 ∧ (lines (part bs p k)).length ≤ (lines bs).length := by
  by_cases hn : 0 < (lines bs).length
  · have h1 := lines_part_len bs p k h hn
    have h2 := size_facts k (lines bs).length p h
    have h3 := lo_facts k (lines bs).length p h hn
    generalize (k + 1) * (lines bs).length / p = x at *
    generalize k * (lines bs).length / p = y at *
    generalize (lines bs).length / p = z at *
    omega
  · have h1 := part_empty bs p k h hn
    have h2 : (lines bs).length = 0 := by omega
    rw [h1, h2]
    simp [lines, linesAux]

theorem part_last (bs : List UInt8) (p k : Nat) (h : 0 < (part bs p k).length) : (part bs p k)[(part bs p k).length - 1]'(by omega) = 10 := by
  have hne : part bs p k ≠ [] := List.length_pos_iff.1 h
  have := ended_last _ (show ended _ ≠ [] from hne)
  rw [List.getLast_eq_getElem] at this
  exact this

theorem reads_cells0 {w : World} {g n cap : Nat} {xs : List Value} (h : Reads w (.slice (some ⟨g, 0, none⟩) n cap) n xs) : ∀ j u, xs[j]? = some u → w.cell? ⟨g, j, none⟩ = some u := by
  intro j u hj
  obtain ⟨hl, _, _, e, _, _, h4⟩ := h
  simp only [Value.slice.injEq, true_and] at e
  obtain ⟨rfl, rfl⟩ := e
  have hjl : j < xs.length := (List.getElem?_eq_some_iff.1 hj).1
  obtain ⟨b', off', e, hcc⟩ := h4 (by omega)
  simp only [Option.some.injEq, Addr.mk.injEq, and_true] at e
  obtain ⟨rfl, rfl⟩ := e
  have := hcc j u hj
  rwa [Nat.zero_add] at this

/-- Contracts again, in the shapes that the law's walk wants. -/
theorem bytes_err (v : Value) (ls : List (List UInt8)) (w : World) (hr : Reads w v ls.length (ls.map S)) (hsz : ∀ s ∈ ls, s.length ≤ 9223372036854775807) (h : bad 4000 ls ≠ 0) :
    Calls Tryd.prog 7 #[v] w fun e w' => e = .returned (.tuple #[.slice none 0 0, .int .i64 (bad 4000 ls)]) ∧ w' = w := by
  refine (bytes_reads v ls w hr hsz).mono ?_
  rintro e w' (⟨_, h1, h2⟩ | ⟨h0, _⟩)
  · exact ⟨h1, h2⟩
  · exact absurd h0 h

theorem bytes_fine (v : Value) (ls : List (List UInt8)) (w : World) (hr : Reads w v ls.length (ls.map S)) (hsz : ∀ s ∈ ls, s.length ≤ 9223372036854775807) (h : bad 4000 ls = 0) :
    Calls Tryd.prog 7 #[v] w fun e w' => ∃ r, e = .returned (.tuple #[r, .int .i64 0]) ∧ Reads w' r (ended ls).length ((ended ls).map U) ∧ Below w.heap.size w w' := by
  refine (bytes_reads v ls w hr hsz).mono ?_
  rintro e w' (⟨h0, _⟩ | ⟨_, r, h1, h2, h3⟩)
  · exact absurd h h0
  · exact ⟨r, h1, Reads.of_owns h2, h3⟩

theorem of_fine (v : Value) (bs : List UInt8) (w : World) (hr : Reads w v bs.length (bs.map U)) (hle : bs.length ≤ 4000) :
    Calls Tryd.prog 6 #[v] w fun e w' => ∃ ao cap, e = .returned (.tuple #[.slice ao (lines bs).length cap, .int .i64 0]) ∧ Reads w' (.slice ao (lines bs).length cap) (lines bs).length ((lines bs).map S) ∧ Below w.heap.size w w' := by
  refine (of_reads v bs w hr hle).mono ?_
  rintro e w' ⟨r, rfl, hown, hbel⟩
  have hrd := Reads.of_owns hown
  obtain ⟨_, ao, cap, rfl, _⟩ := id hrd
  exact ⟨ao, cap, rfl, hrd, hbel⟩
end Go.Proofs.YtkifihcficobnaaDoor
