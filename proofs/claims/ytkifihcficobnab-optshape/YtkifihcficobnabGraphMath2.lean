/- Graphs: how much there is at the ports; on which files a graph hangs. -/
import Derived.Test.YtkifihcficobnabGraphMath
namespace Go.Gs
open Go.RowKit
set_option linter.unusedVariables false

abbrev Sizes := List ((Int × Int) × Nat)
def Sizes.sum (L : Sizes) : Nat := (L.map (·.2)).sum
theorem Sizes.sum_append (a b : Sizes) : Sizes.sum (a ++ b) = Sizes.sum a + Sizes.sum b := by simp [Sizes.sum]
theorem sizes_one (p : Int × Int) (s : Nat) : ∀ (L : Sizes), (p, s) ∈ L → Sizes.sum (L.filter (fun x => x.1 != p)) + s ≤ Sizes.sum L
  | [], h => by simp at h
  | x :: r, h => by
    have hr : Sizes.sum (r.filter (fun x => x.1 != p)) ≤ Sizes.sum r := by
      clear h
      induction r with
      | nil => simp [Sizes.sum]
      | cons y q ih =>
        rw [List.filter_cons]
        split
        · simp only [Sizes.sum, List.map_cons, List.sum_cons] at ih ⊢; omega
        · simp only [Sizes.sum, List.map_cons, List.sum_cons] at ih ⊢; omega
    rcases List.mem_cons.1 h with rfl | h
    · rw [List.filter_cons, if_neg (by simp)]
      simp only [Sizes.sum, List.map_cons, List.sum_cons] at hr ⊢
      omega
    · have ih := sizes_one p s r h
      rw [List.filter_cons]
      split
      · simp only [Sizes.sum, List.map_cons, List.sum_cons] at ih ⊢; omega
      · simp only [Sizes.sum, List.map_cons, List.sum_cons] at ih ⊢; omega
theorem sizes_many (f : Int × Int → Nat) : ∀ (ps : List (Int × Int)) (L : Sizes), ps.Nodup → (∀ p ∈ ps, (p, f p) ∈ L) →
    ∃ L' : Sizes, Sizes.sum L' + (ps.map f).sum ≤ Sizes.sum L ∧ ∀ x ∈ L, x.1 ∉ ps → x ∈ L'
  | [], L, _, _ => ⟨L, by simp, fun x h _ => h⟩
  | p :: r, L, hn, h => by
    rw [List.nodup_cons] at hn
    have h1 := sizes_one p (f p) L (h p (by simp))
    obtain ⟨L', h2, h3⟩ := sizes_many f r (L.filter (fun x => x.1 != p)) hn.2 (fun q hq => by
      rw [List.mem_filter]
      refine ⟨h q (by simp [hq]), ?_⟩
      have : q ≠ p := fun e => hn.1 (e ▸ hq)
      simpa using this)
    refine ⟨L', by simp only [List.map_cons, List.sum_cons]; omega, fun x hx hp => ?_⟩
    rw [List.mem_cons, not_or] at hp
    exact h3 x (List.mem_filter.2 ⟨hx, by simpa using hp.1⟩) hp.2
theorem sizes_new (k : Nat) (outs : List (List UInt8)) : Sizes.sum ((List.range outs.length).map (fun (j : Nat) => (((k : Int), (j : Int)), (outs[j]?.getD []).length))) = outs.flatten.length := by
  unfold Sizes.sum
  rw [List.map_map, flat_sum]
  congr 1
  apply List.ext_getElem?
  intro i
  by_cases hi : i < outs.length
  · simp [hi]
  · simp [hi]

/-- What holds ahead of node k. -/
def Ahead (fs : List SFile) (ns : List SNode) (k : Nat) : Prop :=
  ∃ (tk : List (Int × Int)) (L : Sizes), gchkL [] ns [] = gchkL (ns.take k) (ns.drop k) tk ∧ Sizes.sum L ≤ 4020 * k ∧
    ∀ p, portOk (ns.take k) p = true → p ∉ tk → (p, (portAt (outsL fs [] (ns.take k)) p).length) ∈ L

theorem gchkL_cons {ahead r : List SNode} {n : SNode} {t : List (Int × Int)} (h : (gchkL ahead (n :: r) t).1 = 0) :
    nodeChk n = 0 ∧ (insChk ahead n.ins t).1 = 0 ∧ (r.isEmpty = decide (n.kind = 5)) ∧ gchkL ahead (n :: r) t = gchkL (ahead ++ [n]) r (insChk ahead n.ins t).2 := by
  have h0 := h
  unfold gchkL at h
  by_cases h1 : nodeChk n ≠ 0
  · rw [if_pos h1] at h; exact absurd h h1
  · rw [if_neg h1] at h
    by_cases h2 : (insChk ahead n.ins t).1 ≠ 0
    · rw [if_pos h2] at h; exact absurd h h2
    · rw [if_neg h2] at h
      by_cases h3 : r.isEmpty ≠ decide (n.kind = 5)
      · rw [if_pos h3] at h; cases h
      · refine ⟨by simpa using h1, by simpa using h2, by simpa using h3, ?_⟩
        conv => lhs; unfold gchkL
        rw [if_neg h1, if_neg h2, if_neg h3]
theorem drop_node {ns : List SNode} {k : Nat} {n : SNode} (h : ns[k]? = some n) : ns.drop k = n :: ns.drop (k + 1) := by
  obtain ⟨hk, e⟩ := List.getElem?_eq_some_iff.1 h
  rw [← e, ← List.drop_eq_getElem_cons hk]
theorem take_node {ns : List SNode} {k : Nat} {n : SNode} (h : ns[k]? = some n) : ns.take (k + 1) = ns.take k ++ [n] := by
  rw [List.take_add_one, h, Option.toList_some]

theorem ahead_ins {fs : List SFile} {ns : List SNode} {k : Nat} {n : SNode} (hg : (gchkL [] ns []).1 = 0) (ha : Ahead fs ns k) (hn : ns[k]? = some n) :
    nodeChk n = 0 ∧ (∀ p ∈ n.ins, portOk (ns.take k) p = true) ∧ ((ns.drop (k + 1)).isEmpty = decide (n.kind = 5)) ∧ (n.ins.map (portAt (outsL fs [] (ns.take k)))).flatten.length ≤ 4020 * k := by
  obtain ⟨tk, L, h1, h2, h3⟩ := ha
  rw [h1, drop_node hn] at hg
  obtain ⟨e1, e2, e3, e4⟩ := gchkL_cons hg
  obtain ⟨f1, f2, f3⟩ := ins_facts _ _ _ e2
  refine ⟨e1, fun p hp => (f2 p hp).1, e3, ?_⟩
  obtain ⟨L', g1, _⟩ := sizes_many (fun p => (portAt (outsL fs [] (ns.take k)) p).length) n.ins L f3 (fun p hp => h3 p (f2 p hp).1 (f2 p hp).2)
  rw [flat_sum, List.map_map]
  have : (List.map (List.length ∘ portAt (outsL fs [] (ns.take k))) n.ins).sum = (List.map (fun p => (portAt (outsL fs [] (ns.take k)) p).length) n.ins).sum := rfl
  omega

theorem ahead_start (fs : List SFile) (ns : List SNode) : Ahead fs ns 0 := ⟨[], [], by simp, by simp [Sizes.sum], fun p h => by
  obtain ⟨i, j, n, _, hn, _⟩ := port_nat h
  simp at hn⟩

theorem ahead_step {fs : List SFile} {ns : List SNode} {k : Nat} {n : SNode} (hf : ∀ f ∈ fs, f.b.length ≤ 4000) (h60 : ns.length ≤ 60) (hg : (gchkL [] ns []).1 = 0) (ha : Ahead fs ns k) (hn : ns[k]? = some n) : Ahead fs ns (k + 1) := by
  have hk : k < ns.length := (List.getElem?_eq_some_iff.1 hn).1
  obtain ⟨q1, q2, q3, q4⟩ := ahead_ins hg ha hn
  obtain ⟨tk, L, h1, h2, h3⟩ := ha
  have hg0 := hg
  rw [h1, drop_node hn] at hg
  obtain ⟨e1, e2, e3, e4⟩ := gchkL_cons hg
  obtain ⟨f1, f2, f3⟩ := ins_facts _ _ _ e2
  obtain ⟨L', g1, g2⟩ := sizes_many (fun p => (portAt (outsL fs [] (ns.take k)) p).length) n.ins L f3 (fun p hp => h3 p (f2 p hp).1 (f2 p hp).2)
  have hml := nodeMade_len e1 fs hf (n.ins.map (portAt (outsL fs [] (ns.take k)))) (by simp) (by omega)
  obtain ⟨outs, ho⟩ : ∃ outs, outs = nodeMade n fs (n.ins.map (portAt (outsL fs [] (ns.take k)))) := ⟨_, rfl⟩
  have hcount := nodeMade_count e1 fs (n.ins.map (portAt (outsL fs [] (ns.take k))))
  have hout := outs_take fs ns k hn
  rw [← ho] at hml hcount hout
  refine ⟨tk ++ n.ins, L' ++ (List.range outs.length).map (fun (j : Nat) => (((k : Int), (j : Int)), (outs[j]?.getD []).length)), ?_, ?_, ?_⟩
  · rw [h1, drop_node hn, e4, f1, take_node hn]
  · rw [Sizes.sum_append, sizes_new]
    have hs : (n.ins.map (portAt (outsL fs [] (ns.take k)))).flatten.length = (List.map (fun p => (portAt (outsL fs [] (ns.take k)) p).length) n.ins).sum := by
      rw [flat_sum, List.map_map]; rfl
    omega
  · intro p hp hpt
    rw [List.mem_append, not_or] at hpt
    obtain ⟨i, j, m, rfl, hm, hj⟩ := port_nat hp
    rw [List.mem_append]
    have hik : i < (ns.take (k + 1)).length := (List.getElem?_eq_some_iff.1 hm).1
    rw [List.length_take] at hik
    rw [hout]
    by_cases hlt : i < k
    · left
      have hp' : portOk (ns.take k) ((i : Int), (j : Int)) = true := by
        unfold portOk
        have hm' : (ns.take k)[i]? = some m := by
          rw [List.getElem?_take_of_lt hlt]
          rwa [List.getElem?_take_of_lt (by omega)] at hm
        simp only [Int.toNat_natCast, hm', Option.map_some, Option.getD_some, Bool.and_eq_true, decide_eq_true_eq]
        refine ⟨⟨⟨by omega, ?_⟩, by omega⟩, hj⟩
        rw [List.length_take]
        omega
      have hin := h3 _ hp' hpt.1
      have hpa : portAt (outsL fs [] (ns.take k) ++ [outs]) ((i : Int), (j : Int)) = portAt (outsL fs [] (ns.take k)) ((i : Int), (j : Int)) := by
        unfold portAt
        rw [List.getElem?_append_left (by rw [outsL_len, List.length_take]; simp; omega)]
      rw [hpa]
      exact g2 _ hin hpt.2
    · right
      have hik' : i = k := by omega
      subst hik'
      have hmn : m = n := by
        rw [List.getElem?_take_of_lt (by omega), hn] at hm
        injection hm with hm
        exact hm.symm
      subst hmn
      rw [List.mem_map]
      refine ⟨j, List.mem_range.2 (by omega), ?_⟩
      unfold portAt
      rw [List.getElem?_append_right (by rw [outsL_len, List.length_take]; simp; omega), outsL_len, List.length_take, Nat.min_eq_left (by omega)]
      simp
theorem ahead_all {fs : List SFile} {ns : List SNode} (hf : ∀ f ∈ fs, f.b.length ≤ 4000) (h60 : ns.length ≤ 60) (hg : (gchkL [] ns []).1 = 0) : ∀ k, k ≤ ns.length → Ahead fs ns k
  | 0, _ => ahead_start fs ns
  | k + 1, h => by
    have hk : k < ns.length := by omega
    exact ahead_step hf h60 hg (ahead_all hf h60 hg k (by omega)) (List.getElem?_eq_getElem hk)

theorem gchk_zero {ns : List SNode} (h : gchk ns = 0) : ns.length ≤ 60 ∧ (gchkL [] ns []).1 = 0 ∧ 0 < ns.length ∧ ((gchkL [] ns []).2.length : Int) = allOuts ns := by
  unfold gchk at h
  by_cases h1 : 60 < ns.length
  · rw [if_pos h1] at h; cases h
  · rw [if_neg h1] at h
    by_cases h2 : (gchkL [] ns []).1 ≠ 0
    · rw [if_pos h2] at h; exact absurd h h2
    · rw [if_neg h2] at h
      by_cases h3 : ns.length = 0 ∨ ((gchkL [] ns []).2.length : Int) ≠ allOuts ns
      · rw [if_pos h3] at h; cases h
      · refine ⟨by omega, by simpa using h2, by omega, ?_⟩
        exact Decidable.byContradiction fun hc => h3 (.inr hc)

/-- What a right graph's node k is, and what comes in there. -/
theorem right_node {fs : List SFile} {ns : List SNode} (h : gchk ns = 0) (hf : ∀ f ∈ fs, f.b.length ≤ 4000) {k : Nat} {n : SNode} (hn : ns[k]? = some n) :
    nodeChk n = 0 ∧ (∀ p ∈ n.ins, portOk (ns.take k) p = true) ∧ ((n.kind = 5) ↔ k + 1 = ns.length) ∧ (n.ins.map (portAt (outsL fs [] (ns.take k)))).flatten.length ≤ 241200 := by
  obtain ⟨h1, h2, h3, _⟩ := gchk_zero h
  have hk : k < ns.length := (List.getElem?_eq_some_iff.1 hn).1
  obtain ⟨q1, q2, q3, q4⟩ := ahead_ins h2 (ahead_all hf h1 h2 k (by omega)) hn
  refine ⟨q1, q2, ?_, by omega⟩
  constructor
  · intro e
    rw [decide_eq_true e] at q3
    have : (ns.drop (k + 1)).length = 0 := by rw [List.isEmpty_iff.1 q3]; rfl
    rw [List.length_drop] at this
    omega
  · intro e
    have : (ns.drop (k + 1)).isEmpty = true := by rw [List.isEmpty_iff]; exact List.drop_eq_nil_of_le (by omega)
    rw [this] at q3
    exact of_decide_eq_true q3.symm

/-! ### Which files matter -/

theorem nodeMade_congr {n : SNode} {fs fs' : List SFile} (h : n.kind = 1 → lines (fileOf fs n.file) = lines (fileOf fs' n.file)) (ins : List (List UInt8)) : nodeMade n fs ins = nodeMade n fs' ins := by
  unfold nodeMade
  by_cases h1 : n.kind = 1
  · rw [if_pos h1, if_pos h1, h h1]
  · rw [if_neg h1, if_neg h1]
theorem outsL_congr {fs fs' : List SFile} : ∀ (ns : List SNode) (acc : List (List (List UInt8))), (∀ n ∈ ns, n.kind = 1 → lines (fileOf fs n.file) = lines (fileOf fs' n.file)) → outsL fs acc ns = outsL fs' acc ns
  | [], _, _ => rfl
  | n :: r, acc, h => by
    show outsL fs _ r = outsL fs' _ r
    rw [nodeMade_congr (h n (by simp)), outsL_congr r _ (fun m hm => h m (by simp [hm]))]
theorem sunk_congr {fs fs' : List SFile} {ns : List SNode} (h : ∀ n ∈ ns, n.kind = 1 → lines (fileOf fs n.file) = lines (fileOf fs' n.file)) : sunk ns fs = sunk ns fs' := by
  unfold sunk
  rw [outsL_congr ns [] h]
end Go.Gs
