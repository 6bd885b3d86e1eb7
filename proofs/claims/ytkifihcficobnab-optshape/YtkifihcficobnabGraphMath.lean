/- Graphs: how much comes of what, what hangs on what. -/
import Derived.Test.YtkifihcficobnabGraphPlain
import Derived.Test.YtkifihcficobnabJoinMath
namespace Go.Gs
open Go.RowKit
set_option linter.unusedVariables false

/-! ### How long what is made is -/

theorem itoa_len6 (n : Nat) (h : n ≤ 999999) : (Lib.itoa (n : Int)).length ≤ 6 := by
  unfold Lib.itoa
  rw [if_neg (by omega)]
  exact decDigits_len 5 _ (by simp; omega)
theorem made_len6 (c : Cmd) (h : chk c = 0) (ls : List (List UInt8)) (hl : ls.length ≤ 999999) : (ended (made c ls)).length ≤ (ended ls).length + 7 := by
  have hk := chk_kinds c h
  by_cases e8 : c.kind = 8
  · rw [made8 c e8]; have := itoa_len6 ls.length hl; simp [ended]; omega
  have : c.kind = 1 ∨ c.kind = 2 ∨ c.kind = 3 ∨ c.kind = 4 ∨ c.kind = 5 ∨ c.kind = 6 ∨ c.kind = 7 ∨ c.kind = 9 ∨ c.kind = 10 := by omega
  rcases this with e | e | e | e | e | e | e | e | e
  · rw [made1 c e]; have := ended_len_sub (List.filter_sublist (p := fun s => Lib.contains s c.word) (l := ls)); omega
  · rw [made2 c e]; have := ended_len_sub (List.filter_sublist (p := fun s => !Lib.contains s c.word) (l := ls)); omega
  · rw [made3 c e]; have := ended_len_map (swapOf (c.word.getD 0 0) (c.word.getD 1 0)) (fun s => by simp [swapOf]) ls; omega
  · rw [made4 c e]; have := ended_len_map (fieldOf c.n) (fieldOf_len c.n) ls; omega
  · rw [made5 c e]; have := ended_len_map List.reverse (fun s => by simp) ls; omega
  · rw [made6 c e]; have := ended_len_perm (sortOf_perm ls); omega
  · rw [made7 c e]; have := ended_len_sub (compact_sub ls); omega
  · rw [made9 c e]; have := ended_len_sub (List.take_sublist c.n.toNat ls); omega
  · rw [made10 c e]; have := ended_len_sub (List.drop_sublist (ls.length - c.n.toNat) ls); omega
theorem joined_len6 (how : Int) (c : Cmd) (hc : how = 4 → chk c = 0) (ps : List (List (List UInt8))) (hl : ps.flatten.length ≤ 999999) (h5 : ps.length ≤ 5) : (ended (joined how c ps)).length ≤ (ended ps.flatten).length + 7 := by
  unfold joined
  split
  · have := ended_len_perm (mergeOf_perm ps); omega
  · split
    · have h1 := sumOf_le ps
      have h2 := itoa_len6 (sumOf ps) (by omega)
      simp [ended]
      omega
    · split
      · rename_i h4
        have := made_len6 c (hc h4) ps.flatten hl
        omega
      · omega

/-- Parts, one behind the other. -/
theorem parts_upto (ls : List (List UInt8)) (p : Nat) : ∀ m, m ≤ p → (((List.range m).map (fun k => ended ((ls.take ((k + 1) * ls.length / p)).drop (k * ls.length / p)))).flatten) = ended (ls.take (m * ls.length / p)) := by
  intro m
  induction m with
  | zero => intro _; simp [ended]
  | succ m ih =>
    intro h
    have hle : m * ls.length / p ≤ (m + 1) * ls.length / p := Nat.div_le_div_right (Nat.mul_le_mul_right _ (by omega))
    rw [List.range_succ, List.map_append, List.flatten_append, ih (by omega)]
    simp only [List.map_cons, List.map_nil, List.flatten_cons, List.flatten_nil, List.append_nil]
    rw [← ended_append]
    congr 1
    have e := List.take_append_drop (m * ls.length / p) (ls.take ((m + 1) * ls.length / p))
    rw [List.take_take, Nat.min_eq_left hle] at e
    exact e
theorem parts_whole (bs : List UInt8) (p : Nat) (hp : 0 < p) : ((List.range p).map (partOf bs p)).flatten = ended (lines bs) := by
  have := parts_upto (lines bs) p p (Nat.le_refl _)
  rw [Nat.mul_div_cancel_left _ hp, List.take_length] at this
  exact this

theorem node_kinds {n : SNode} (h : nodeChk n = 0) : nodeUsed n = 0 ∧ mayHave n.kind n.ins.length = true ∧ hasUnused n = false := by
  unfold nodeChk at h
  by_cases h0 : nodeUsed n = 0
  · rw [if_neg (by simp [h0])] at h
    by_cases h1 : (!mayHave n.kind n.ins.length || hasUnused n) = true
    · rw [if_pos h1] at h; cases h
    · simp at h1
      exact ⟨h0, h1.1, h1.2⟩
  · rw [if_pos h0] at h; exact absurd h h0
theorem used_kinds {n : SNode} (h : nodeUsed n = 0) : ((n.kind = 1 ∨ n.kind = 5) ∧ isWord n.file = true) ∨ (n.kind = 2 ∧ 1 ≤ n.wide ∧ n.wide ≤ 5) ∨ (n.kind = 3 ∧ chk n.c = 0) ∨ (n.kind = 4 ∧ jchk n.how n.c = 0) := by
  unfold nodeUsed at h
  by_cases h1 : n.kind = 1 ∨ n.kind = 5
  · rw [if_pos h1] at h
    cases hw : isWord n.file with
    | true => exact .inl ⟨h1, rfl⟩
    | false => rw [hw] at h; cases h
  · rw [if_neg h1] at h
    by_cases h2 : n.kind = 2
    · rw [if_pos h2] at h
      by_cases hr : n.wide < 1 ∨ 5 < n.wide
      · rw [if_pos hr] at h; cases h
      · exact .inr (.inl ⟨h2, by omega, by omega⟩)
    · rw [if_neg h2] at h
      by_cases h3 : n.kind = 3
      · rw [if_pos h3] at h
        exact .inr (.inr (.inl ⟨h3, h⟩))
      · rw [if_neg h3] at h
        by_cases h4 : n.kind = 4
        · rw [if_pos h4] at h
          exact .inr (.inr (.inr ⟨h4, h⟩))
        · rw [if_neg h4] at h; cases h
theorem flat_sum (bss : List (List UInt8)) : bss.flatten.length = (bss.map List.length).sum := by
  induction bss with
  | nil => rfl
  | cons b r ih => simp [ih]
theorem flat_one (a : List UInt8) : ([a] : List (List UInt8)).flatten.length = a.length := by simp
/-- A node gives out little more than what came in. -/
theorem nodeMade_len {n : SNode} (h : nodeChk n = 0) (fs : List SFile) (hf : ∀ f ∈ fs, f.b.length ≤ 4000) (ins : List (List UInt8)) (hi : ins.length = n.ins.length) (hl : ins.flatten.length ≤ 900000) :
    (nodeMade n fs ins).flatten.length ≤ ins.flatten.length + 4020 := by
  obtain ⟨h1, h2, _⟩ := node_kinds h
  unfold nodeMade
  rcases used_kinds h1 with ⟨h3 | h3, _⟩ | ⟨h3, h4, h5⟩ | ⟨h3, h4⟩ | ⟨h3, h4⟩
  · rw [if_pos h3]
    have e1 := ended_lines (fileOf fs n.file)
    have e2 : (fileOf fs n.file).length ≤ 4000 := by
      unfold fileOf
      cases hq : fs.find? (fun f => f.name == n.file) with
      | none => simp
      | some f => exact hf f (List.mem_of_find?_eq_some hq)
    rw [flat_one]
    omega
  · rw [if_neg (by omega), if_neg (by omega), if_neg (by omega), if_neg (by omega)]
    simp
  · rw [if_neg (by omega), if_pos h3, parts_whole _ _ (by omega)]
    have e1 := ended_lines (ins.head?.getD [])
    have e2 : (ins.head?.getD []).length ≤ ins.flatten.length := by
      cases ins with
      | nil => simp
      | cons a r => simp
    omega
  · rw [if_neg (by omega), if_neg (by omega), if_pos h3]
    have e1 := ended_lines (ins.head?.getD [])
    have e2 : (ins.head?.getD []).length ≤ ins.flatten.length := by
      cases ins with
      | nil => simp
      | cons a r => simp
    have e3 := made_len6 n.c h4 (lines (ins.head?.getD [])) (by have := lines_length (ins.head?.getD []); omega)
    rw [flat_one]
    omega
  · rw [if_neg (by omega), if_neg (by omega), if_neg (by omega), if_pos h3]
    have h5 : ins.length ≤ 5 := by
      rw [hi]
      unfold mayHave at h2
      rw [if_neg (by omega), if_pos h3] at h2
      exact (of_decide_eq_true h2).2
    have e1 := joined_len6 n.how n.c (jchk_chk h4) (ins.map lines) (by have := flat_lines_count ins; omega) (by simpa using h5)
    have e2 := flat_lines_len ins
    rw [flat_one]
    omega

/-! ### Which ports are taken -/

theorem ins_facts (ahead : List SNode) : ∀ (ps t : List (Int × Int)), (insChk ahead ps t).1 = 0 → (insChk ahead ps t).2 = t ++ ps ∧ (∀ p ∈ ps, portOk ahead p = true ∧ p ∉ t) ∧ ps.Nodup
  | [], t, _ => by simp [insChk]
  | p :: r, t, h => by
    unfold insChk at h ⊢
    by_cases h1 : portOk ahead p = false
    · rw [if_pos h1] at h; cases h
    · rw [if_neg h1] at h ⊢
      by_cases h2 : p ∈ t
      · rw [if_pos h2] at h; cases h
      · rw [if_neg h2] at h ⊢
        obtain ⟨e1, e2, e3⟩ := ins_facts ahead r (t ++ [p]) h
        refine ⟨by rw [e1]; simp, ?_, ?_⟩
        · intro q hq
          rcases List.mem_cons.1 hq with rfl | hq
          · exact ⟨by simpa using h1, h2⟩
          · have := e2 q hq
            exact ⟨this.1, fun hm => this.2 (by simp [hm])⟩
        · rw [List.nodup_cons]
          exact ⟨fun hm => (e2 p hm).2 (by simp), e3⟩
theorem port_nat {ns : List SNode} {p : Int × Int} (h : portOk ns p = true) : ∃ (i k : Nat) (n : SNode), p = (↑i, ↑k) ∧ ns[i]? = some n ∧ (k : Int) < nouts n := by
  unfold portOk at h
  simp only [Bool.and_eq_true, decide_eq_true_eq] at h
  obtain ⟨⟨⟨h1, h2⟩, h3⟩, h4⟩ := h
  refine ⟨p.1.toNat, p.2.toNat, ?_⟩
  cases hn : ns[p.1.toNat]? with
  | none => rw [hn] at h4; cases h4
  | some n =>
    rw [hn] at h4
    refine ⟨n, Prod.ext (by simp; omega) (by simp; omega), rfl, ?_⟩
    have : p.2 < nouts n := by simpa using h4
    omega

/-! ### What is at the ports -/

theorem outsL_len (fs : List SFile) : ∀ (ns : List SNode) (acc : List (List (List UInt8))), (outsL fs acc ns).length = acc.length + ns.length
  | [], acc => rfl
  | n :: r, acc => by
    show (outsL fs _ r).length = _
    rw [outsL_len fs r]
    simp
    omega
theorem outsL_append (fs : List SFile) : ∀ (a b : List SNode) (acc : List (List (List UInt8))), outsL fs acc (a ++ b) = outsL fs (outsL fs acc a) b
  | [], b, acc => rfl
  | n :: r, b, acc => outsL_append fs r b _
theorem outsL_keep (fs : List SFile) : ∀ (ns : List SNode) (acc : List (List (List UInt8))) (i : Nat), i < acc.length → (outsL fs acc ns)[i]? = acc[i]?
  | [], acc, i, h => rfl
  | n :: r, acc, i, h => by
    show (outsL fs _ r)[i]? = _
    rw [outsL_keep fs r _ i (by simp; omega), List.getElem?_append_left h]
theorem outs_take (fs : List SFile) (ns : List SNode) (k : Nat) {n : SNode} (h : ns[k]? = some n) : outsL fs [] (ns.take (k + 1)) = outsL fs [] (ns.take k) ++ [nodeMade n fs (n.ins.map (portAt (outsL fs [] (ns.take k))))] := by
  rw [List.take_add_one, h, Option.toList_some, outsL_append]
  rfl
theorem portAt_take (fs : List SFile) (ns : List SNode) (i : Nat) {p : Int × Int} (h0 : 0 ≤ p.1) (h : p.1 < i) (hi : i ≤ ns.length) : portAt (outsL fs [] ns) p = portAt (outsL fs [] (ns.take i)) p := by
  unfold portAt
  rw [← List.take_append_drop i ns, outsL_append, outsL_keep]
  · rw [List.take_append_drop]
  · rw [outsL_len, List.length_take]; simp; omega

/-- How many outputs a node that is right gives. -/
theorem nodeMade_count {n : SNode} (h : nodeChk n = 0) (fs : List SFile) (ins : List (List UInt8)) : ((nodeMade n fs ins).length : Int) = nouts n := by
  obtain ⟨h1, _, _⟩ := node_kinds h
  unfold nodeMade nouts
  rcases used_kinds h1 with ⟨h3 | h3, _⟩ | ⟨h3, h4, h5⟩ | ⟨h3, h4⟩ | ⟨h3, h4⟩
  · rw [if_pos h3, if_neg (by omega), if_neg (by omega)]; rfl
  · rw [if_neg (by omega), if_neg (by omega), if_neg (by omega), if_neg (by omega), if_neg (by omega), if_pos h3]; rfl
  · rw [if_neg (by omega), if_pos h3, if_pos h3]
    simp
    omega
  · rw [if_neg (by omega), if_neg (by omega), if_pos h3, if_neg (by omega), if_neg (by omega)]; rfl
  · rw [if_neg (by omega), if_neg (by omega), if_neg (by omega), if_pos h3, if_neg (by omega), if_neg (by omega)]; rfl

/-- What a right graph's check went through: at each node. -/
theorem gchkL_take : ∀ (rest ahead : List SNode) (t : List (Int × Int)), (gchkL ahead rest t).1 = 0 → ∀ (k : Nat) (n : SNode), rest[k]? = some n →
    ∃ tk, gchkL ahead rest t = gchkL (ahead ++ rest.take k) (rest.drop k) tk ∧ nodeChk n = 0 ∧ (insChk (ahead ++ rest.take k) n.ins tk).1 = 0 ∧ ((rest.drop (k + 1)).isEmpty = decide (n.kind = 5))
  | [], _, _, _, k, n, hk => by simp at hk
  | m :: r, ahead, t, h, k, n, hk => by
    have h0 := h
    unfold gchkL at h
    by_cases h1 : nodeChk m ≠ 0
    · rw [if_pos h1] at h; exact absurd h h1
    · rw [if_neg h1] at h
      by_cases h2 : (insChk ahead m.ins t).1 ≠ 0
      · rw [if_pos h2] at h; exact absurd h h2
      · rw [if_neg h2] at h
        by_cases h3 : r.isEmpty ≠ decide (m.kind = 5)
        · rw [if_pos h3] at h; cases h
        · rw [if_neg h3] at h
          cases k with
          | zero =>
            simp at hk
            subst hk
            exact ⟨t, by simp, by simpa using h1, by simpa using h2, by simpa using h3⟩
          | succ k =>
            obtain ⟨tk, e1, e2, e3, e4⟩ := gchkL_take r (ahead ++ [m]) _ h k n (by simpa using hk)
            refine ⟨tk, ?_, e2, ?_, by simpa using e4⟩
            · conv => lhs; unfold gchkL
              rw [if_neg h1, if_neg h2, if_neg h3, e1]
              simp
            · simpa using e3
end Go.Gs
