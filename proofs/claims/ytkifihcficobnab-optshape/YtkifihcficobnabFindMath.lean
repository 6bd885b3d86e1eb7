/- Where a file is, or would have to be, plainly: no walk. -/
import Derived.Test.YtkifihcficobnabShellMath
namespace Go.Gs
open Go.RowKit
set_option linter.unusedVariables false

/-- How many names are below. -/
def posOf : List SFile → List UInt8 → Nat
  | [], _ => 0
  | f :: r, n => if f.name < n then posOf r n + 1 else 0
def thereOf (l : List SFile) (n : List UInt8) : Bool := match l[posOf l n]? with
  | some f => decide (f.name = n)
  | none => false
theorem pos_le : ∀ (l : List SFile) (n : List UInt8), posOf l n ≤ l.length
  | [], n => Nat.le_refl _
  | f :: r, n => by
    unfold posOf
    split
    · have := pos_le r n; simp; omega
    · exact Nat.zero_le _
theorem pos_iff : ∀ {l : List SFile} {p : Option (List UInt8)} {n : List UInt8} {h : Nat} {f : SFile}, fchkFrom p l = 0 → l[h]? = some f → (f.name < n ↔ h < posOf l n)
  | [], p, n, h, f, _, e => by simp at e
  | g :: r, p, n, h, f, hr, e => by
    obtain ⟨h1, h2⟩ := from_cons.1 hr
    unfold posOf
    by_cases hg : g.name < n
    · rw [if_pos hg]
      cases h with
      | zero => simp at e; subst e; simp [hg]
      | succ h =>
        have := pos_iff (n := n) h2 (h := h) (f := f) (by simpa using e)
        rw [this]; omega
    · rw [if_neg hg]
      cases h with
      | zero => simp at e; subst e; simp [hg]
      | succ h =>
        have hm : f ∈ r := List.mem_of_getElem? (by simpa using e)
        have := from_above h2 f hm
        constructor
        · intro hf; exact absurd (List.lt_trans this hf) hg
        · intro hf; omega
theorem there_some {l : List SFile} {n : List UInt8} {f : SFile} (h : l[posOf l n]? = some f) : thereOf l n = decide (f.name = n) := by unfold thereOf; rw [h]
theorem there_none {l : List SFile} {n : List UInt8} (h : ¬ posOf l n < l.length) : thereOf l n = false := by unfold thereOf; rw [List.getElem?_eq_none (by omega)]
theorem there_get {l : List SFile} {n : List UInt8} (h : thereOf l n = true) : ∃ f, l[posOf l n]? = some f ∧ f.name = n := by
  unfold thereOf at h
  split at h
  · rename_i f e; exact ⟨f, e, of_decide_eq_true h⟩
  · cases h
theorem there_lt {l : List SFile} {n : List UInt8} (h : thereOf l n = true) : posOf l n < l.length := by
  obtain ⟨f, e, _⟩ := there_get h
  exact (List.getElem?_eq_some_iff.1 e).1
theorem there_cons {f : SFile} {r : List SFile} {n : List UInt8} (h : f.name < n) : thereOf (f :: r) n = thereOf r n := by
  unfold thereOf
  rw [show posOf (f :: r) n = posOf r n + 1 by rw [posOf, if_pos h], List.getElem?_cons_succ]
theorem there_head {f : SFile} {r : List SFile} {n : List UInt8} (h : ¬ f.name < n) : thereOf (f :: r) n = decide (f.name = n) := by
  unfold thereOf
  rw [show posOf (f :: r) n = 0 by rw [posOf, if_neg h], List.getElem?_cons_zero]
/-- A file that is there. -/
theorem file_there : ∀ {l : List SFile} {p : Option (List UInt8)} {n : List UInt8} {f : SFile}, fchkFrom p l = 0 → thereOf l n = true → l[posOf l n]? = some f → fileOf l n = f.b
  | [], p, n, f, _, _, e => by simp at e
  | g :: r, p, n, f, hr, ht, e => by
    obtain ⟨h1, h2⟩ := from_cons.1 hr
    rw [fileOf_cons]
    by_cases hg : g.name < n
    · rw [if_neg (lt_ne hg)]
      rw [there_cons hg] at ht
      rw [posOf, if_pos hg, List.getElem?_cons_succ] at e
      exact file_there h2 ht e
    · rw [there_head hg] at ht
      rw [posOf, if_neg hg, List.getElem?_cons_zero] at e
      injection e with e
      rw [if_pos (of_decide_eq_true ht), e]
theorem file_not : ∀ {l : List SFile} {p : Option (List UInt8)} {n : List UInt8}, fchkFrom p l = 0 → thereOf l n = false → fileOf l n = []
  | [], p, n, _, _ => rfl
  | g :: r, p, n, hr, ht => by
    obtain ⟨h1, h2⟩ := from_cons.1 hr
    rw [fileOf_cons]
    by_cases hg : g.name < n
    · rw [if_neg (lt_ne hg)]
      rw [there_cons hg] at ht
      exact file_not h2 ht
    · rw [there_head hg] at ht
      have hne := of_decide_eq_false ht
      rw [if_neg hne]
      have hlt : n < g.name := not_lt_eq hg (fun e => hne e.symm)
      exact fileOf_none (fun f hf => Ne.symm (lt_ne (List.lt_trans hlt (from_above h2 f hf))))
theorem put_there : ∀ {l : List SFile} {p : Option (List UInt8)} {n : List UInt8} (b : List UInt8), fchkFrom p l = 0 → thereOf l n = true → putF l n b = l.set (posOf l n) ⟨n, b⟩
  | [], p, n, b, _, ht => by simp [thereOf] at ht
  | g :: r, p, n, b, hr, ht => by
    obtain ⟨h1, h2⟩ := from_cons.1 hr
    by_cases hg : g.name < n
    · rw [there_cons hg] at ht
      rw [putF, if_neg (lt_ne hg), if_neg (fun h => List.lt_irrefl _ (List.lt_trans hg h)), posOf, if_pos hg, List.set_cons_succ, put_there b h2 ht]
    · rw [there_head hg] at ht
      rw [putF, if_pos (of_decide_eq_true ht), posOf, if_neg hg, List.set_cons_zero]
theorem put_not : ∀ {l : List SFile} {p : Option (List UInt8)} {n : List UInt8} (b : List UInt8), fchkFrom p l = 0 → thereOf l n = false → putF l n b = l.take (posOf l n) ++ ⟨n, b⟩ :: l.drop (posOf l n)
  | [], p, n, b, _, _ => rfl
  | g :: r, p, n, b, hr, ht => by
    obtain ⟨h1, h2⟩ := from_cons.1 hr
    by_cases hg : g.name < n
    · rw [there_cons hg] at ht
      rw [putF, if_neg (lt_ne hg), if_neg (fun h => List.lt_irrefl _ (List.lt_trans hg h)), posOf, if_pos hg, List.take_succ_cons, List.drop_succ_cons, put_not b h2 ht]
      rfl
    · rw [there_head hg] at ht
      have hne := of_decide_eq_false ht
      have hlt : n < g.name := not_lt_eq hg (fun e => hne e.symm)
      rw [putF, if_neg hne, if_pos hlt, posOf, if_neg hg]
      rfl
theorem put_len_there {l : List SFile} {p : Option (List UInt8)} {n : List UInt8} (b : List UInt8) (h : fchkFrom p l = 0) (ht : thereOf l n = true) : (putF l n b).length = l.length := by rw [put_there b h ht, List.length_set]
theorem put_len_not {l : List SFile} {p : Option (List UInt8)} {n : List UInt8} (b : List UInt8) (h : fchkFrom p l = 0) (ht : thereOf l n = false) : (putF l n b).length = l.length + 1 := by
  rw [put_not b h ht, List.length_append, List.length_cons, List.length_take, List.length_drop]
  have := pos_le l n
  omega
end Go.Gs
