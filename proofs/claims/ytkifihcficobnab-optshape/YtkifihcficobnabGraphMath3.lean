/- Graphs: what is at a node, what is at a port. -/
import Derived.Test.YtkifihcficobnabGraphMath2
namespace Go.Gs
open Go.RowKit
set_option linter.unusedVariables false

theorem outs_get (fs : List SFile) (ns : List SNode) {i k : Nat} {m : SNode} (hi : ns[i]? = some m) (hik : i < k) (hk : k ≤ ns.length) : (outsL fs [] (ns.take k))[i]? = some (nodeMade m fs (m.ins.map (portAt (outsL fs [] (ns.take i))))) := by
  have h1 : ns.take k = ns.take (i + 1) ++ (ns.take k).drop (i + 1) := by
    have := List.take_append_drop (i + 1) (ns.take k)
    rw [List.take_take, Nat.min_eq_left (by omega)] at this
    exact this.symm
  have hl : (outsL fs [] (ns.take i)).length = i := by
    have : i < ns.length := (List.getElem?_eq_some_iff.1 hi).1
    rw [outsL_len, List.length_take]
    simp
    omega
  rw [h1, outsL_append, outsL_keep]
  · rw [outs_take fs ns i hi, List.getElem?_append_right (by omega), hl]
    simp
  · rw [outs_take fs ns i hi, List.length_append, hl]
    simp
/-- A port that is there has its bytes. -/
theorem port_there {fs : List SFile} {ns : List SNode} (h : gchk ns = 0) (hf : ∀ f ∈ fs, f.b.length ≤ 4000) {j k : Nat} (hjk : j ≤ k) (hk : k ≤ ns.length) {p : Int × Int} (hp : portOk (ns.take j) p = true) :
    ∃ (i q : Nat) (o : List (List UInt8)) (b : List UInt8), p = ((i : Int), (q : Int)) ∧ (outsL fs [] (ns.take k))[i]? = some o ∧ o[q]? = some b := by
  obtain ⟨i, q, m, rfl, hm, hq⟩ := port_nat hp
  have hij : i < (ns.take j).length := (List.getElem?_eq_some_iff.1 hm).1
  rw [List.length_take] at hij
  have hm' : ns[i]? = some m := by rwa [List.getElem?_take_of_lt (by omega)] at hm
  have hr := (right_node h hf hm').1
  have hc := nodeMade_count hr fs (m.ins.map (portAt (outsL fs [] (ns.take i))))
  have hql : q < (nodeMade m fs (m.ins.map (portAt (outsL fs [] (ns.take i))))).length := by omega
  exact ⟨i, q, _, _, rfl, outs_get fs ns hm' (by omega) hk, List.getElem?_eq_getElem hql⟩
/-- What comes in at node j stands ahead of it. -/
theorem port_same {fs : List SFile} {ns : List SNode} {j : Nat} (hj : j ≤ ns.length) {p : Int × Int} (hp : portOk (ns.take j) p = true) : portAt (outsL fs [] ns) p = portAt (outsL fs [] (ns.take j)) p := by
  obtain ⟨i, q, m, rfl, hm, hq⟩ := port_nat hp
  have hij : i < (ns.take j).length := (List.getElem?_eq_some_iff.1 hm).1
  rw [List.length_take] at hij
  exact portAt_take fs ns j (by simp) (by simp; omega) hj
theorem right_ins {n : SNode} (h : nodeChk n = 0) : n.ins.length ≤ 5 ∧ (n.kind = 2 ∨ n.kind = 3 ∨ n.kind = 5 → n.ins.length = 1) := by
  obtain ⟨h1, h2, _⟩ := node_kinds h
  unfold mayHave at h2
  by_cases g1 : n.kind = 1
  · rw [if_pos g1] at h2; have := of_decide_eq_true h2; exact ⟨by omega, by omega⟩
  · rw [if_neg g1] at h2
    by_cases g4 : n.kind = 4
    · rw [if_pos g4] at h2; exact ⟨(of_decide_eq_true h2).2, by omega⟩
    · rw [if_neg g4] at h2; have := of_decide_eq_true h2; exact ⟨by omega, fun _ => this⟩
theorem evalS_bad {ns : List SNode} {fs : List SFile} (h : gchk ns ≠ 0) : evalS ns fs = ([], gchk ns) := by unfold evalS; rw [if_pos h]
theorem evalS_files {ns : List SNode} {fs : List SFile} (h : gchk ns = 0) (hf : fchk fs ≠ 0) : evalS ns fs = ([], fchk fs) := by unfold evalS; rw [if_neg (by simp [h]), if_pos hf]
theorem evalS_ok {ns : List SNode} {fs : List SFile} (h : gchk ns = 0) (hf : fchk fs = 0) : evalS ns fs = (sunk ns fs, 0) := by unfold evalS; rw [if_neg (by simp [h]), if_neg (by simp [hf])]
theorem sunk_last {ns : List SNode} {fs : List SFile} {n : SNode} (h : ns[ns.length - 1]? = some n) : sunk ns fs = portAt (outsL fs [] ns) (n.ins.head?.getD (0, 0)) := by
  unfold sunk
  rw [List.getLast?_eq_getElem?, h]
  rfl
end Go.Gs
