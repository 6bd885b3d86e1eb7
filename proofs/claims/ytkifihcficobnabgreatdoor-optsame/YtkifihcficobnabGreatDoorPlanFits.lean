/- A plan's nodes fit; what OptSame says, plainly: no walk. -/
import Derived.Test.YtkifihcficobnabGreatDoorPlainC
namespace Go.Gs
open Go.RowKit
set_option linter.unusedVariables false

theorem wordlen {s : List UInt8} (h : isWord s = true) : s.length ≤ 12 := by
  unfold isWord at h
  simp at h
  omega
theorem chk_wordlen {c : Cmd} (h : chk c = 0) : c.word.length ≤ 12 := by
  unfold chk at h
  split at h
  · cases h
  · split at h
    · cases h
    · rename_i h1 h2
      split at h
      · cases h
      · split at h
        · cases h
        · rename_i h3 h4
          by_cases hu : uses c.kind = 1
          · have : isWord c.word = true := by
              cases hw : isWord c.word with
              | true => rfl
              | false => exact absurd ⟨hu, Or.inl hw⟩ h4
            exact wordlen this
          · have : c.word = [] := by
              by_cases e : c.word = []
              · exact e
              · exact absurd (Or.inl ⟨hu, e⟩) h2
            rw [this]; simp
theorem wf_nat {k : Nat} (h : k ≤ 1000) : (Lit.int .i64 (k : Int)).wf = true := by
  simp [Lit.wf, IntKind.min, IntKind.max, IntKind.signed, IntKind.bits]
  omega
theorem right_fits {ns : List SNode} (h : gchk ns = 0) {n : SNode} (hn : n ∈ ns) : FitsN n := by
  obtain ⟨k, hk⟩ := List.getElem?_of_mem hn
  have h60 := (gchk_zero h).1
  obtain ⟨r1, r2, r3, r4⟩ := right_node (fs := []) h (fun f hf => by cases hf) hk
  obtain ⟨q1, q2, q3⟩ := node_kinds r1
  have hnouts : ∀ m ∈ ns, nouts m ≤ 5 := by
    intro m hm
    obtain ⟨j, hj⟩ := List.getElem?_of_mem hm
    obtain ⟨m1, _⟩ := right_node (fs := []) h (fun f hf => by cases hf) hj
    have := used_kinds (node_kinds m1).1
    unfold nouts
    split
    · rcases this with ⟨a | a, _⟩ | ⟨_, _, a⟩ | ⟨a, _⟩ | ⟨a, _⟩ <;> omega
    · split <;> omega
  refine ⟨?_, ?_, ?_⟩
  · unfold hasUnused at q3
    simp only [Bool.or_eq_false_iff, Bool.and_eq_false_iff, Bool.not_eq_false', decide_eq_true_eq] at q3
    rcases q3.1.1.1 with a | a
    · rcases used_kinds q1 with ⟨_, b⟩ | ⟨b, _⟩ | ⟨b, _⟩ | ⟨b, _⟩
      · have := wordlen b; omega
      · omega
      · omega
      · omega
    · rw [List.isEmpty_iff.1 a]; simp
  · have hz : zeroC n.c = true → n.c.word.length ≤ 12 := by
      intro hz
      unfold zeroC at hz
      simp at hz
      rw [hz.1.2]; simp
    have : n.c.word.length ≤ 12 := by
      unfold hasUnused at q3
      simp only [Bool.or_eq_false_iff, Bool.and_eq_false_iff, Bool.not_eq_false', decide_eq_true_eq] at q3
      rcases q3.1.2 with a | a
      · rcases used_kinds q1 with ⟨b, _⟩ | ⟨b, _⟩ | ⟨_, b⟩ | ⟨_, b⟩
        · omega
        · omega
        · exact chk_wordlen b
        · unfold jchk at b
          split at b
          · cases b
          · split at b
            · exact chk_wordlen b
            · split at b
              · rename_i hh
                rw [hh.2.1]; simp
              · cases b
      · exact hz a
    omega
  · intro p hp
    obtain ⟨i, j, m, rfl, hi, hj⟩ := port_nat (r2 p hp)
    have hi' : i < ns.length := by
      have := (List.getElem?_eq_some_iff.1 hi).1
      rw [List.length_take] at this
      omega
    have hm : m ∈ ns := List.mem_of_mem_take (List.mem_of_getElem? hi)
    have := hnouts m hm
    exact ⟨wf_nat (by omega), wf_nat (by omega)⟩
/-- Line, as it is called. -/
def lineR (fs : List SFile) (x : SLine) : List UInt8 × Int := if fchk fs = 0 then lineOf fs x else ([], fchk fs)
theorem same_rel {l : SLine} {wn : Nat} (hw : 1 ≤ wn ∧ wn ≤ 5) (h : lchk l = 0) (fs : List SFile) : ((lineR fs l).2 ≠ 0 → (evalS (plan l wn) fs).2 = (lineR fs l).2 ∨ (evalS (plan l wn) fs).2 = 0) ∧ ((lineR fs l).2 = 0 → (evalS (plan l wn) fs).2 = 0 ∧ (lineR fs l).1 = (evalS (plan l wn) fs).1) := by
  have hg := plan_right hw h
  unfold lineR
  by_cases hf : fchk fs = 0
  · rw [if_pos hf, evalS_ok hg hf]
    refine ⟨fun _ => Or.inr rfl, fun h0 => ⟨rfl, ?_⟩⟩
    have hg0 : (gather fs l.fr).2 = 0 := by
      unfold lineOf at h0
      by_cases e : (gather fs l.fr).2 = 0
      · exact e
      · rw [if_neg e] at h0; exact h0
    exact ((plan_same hw h hg0).1).symm
  · rw [if_neg hf, evalS_files hg hf]
    exact ⟨fun _ => Or.inl rfl, fun h0 => absurd h0 hf⟩
end Go.Gs
