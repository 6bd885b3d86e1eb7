/- Joins, plainly: no walk. -/
import Derived.Test.YtkifihcficobnabCmdMath
namespace Go.Gs
open Go.RowKit
set_option linter.unusedVariables false

/-- How a right command's parts are joined: 1 Behind, 2 Merge, 3 Sum, 4 Again. -/
def howFor (k : Int) : Int := if k = 6 then 2 else if k = 8 then 3 else if k = 7 ∨ k = 9 ∨ k = 10 then 4 else 1
/-- What is wrong with a join. -/
def jchk (how : Int) (c : Cmd) : Int := if how < 1 ∨ 4 < how then 4 else if how = 4 then chk c else if c.kind = 0 ∧ c.word = [] ∧ c.n = 0 then 0 else 4

/-- The number that a line is; 0 of one that is none. -/
def numOf (s : List UInt8) : Nat := ((List.range 4001).find? (fun (k : Nat) => Lib.itoa (k : Int) == s)).getD 0
def headNum (l : List (List UInt8)) : Nat := ((l.head?).map numOf).getD 0
def sumOf (ps : List (List (List UInt8))) : Nat := (ps.map headNum).sum

/-- Which of the first k parts has the least first line, of alike ones the first; and that line. -/
def leastTo (ps : List (List (List UInt8))) : Nat → Option (Nat × List UInt8)
  | 0 => none
  | k + 1 => match (ps[k]?).bind List.head? with
    | none => leastTo ps k
    | some s => match leastTo ps k with
      | none => some (k, s)
      | some (j, t) => if s < t then some (k, s) else some (j, t)
def least (ps : List (List (List UInt8))) : Option (Nat × List UInt8) := leastTo ps ps.length
def mergeN : Nat → List (List (List UInt8)) → List (List UInt8)
  | 0, _ => []
  | n + 1, ps => match least ps with
    | none => []
    | some (k, s) => s :: mergeN n (ps.modify k (List.drop 1))
def mergeOf (ps : List (List (List UInt8))) : List (List UInt8) := mergeN ps.flatten.length ps

/-- What a right join makes of parts. -/
def joined (how : Int) (c : Cmd) (ps : List (List (List UInt8))) : List (List UInt8) :=
  if how = 2 then mergeOf ps else if how = 3 then [Lib.itoa (sumOf ps : Int)] else if how = 4 then made c ps.flatten else ps.flatten

/-! ### Numbers -/

def decVal (s : List UInt8) : Nat := s.foldl (fun a c => 10 * a + (c.toNat - 48)) 0
theorem decVal_digits : ∀ u : Nat, decVal (Lib.decDigits u) = u := by
  intro u
  induction u using Nat.strongRecOn with
  | ind u ih =>
    rw [Lib.decDigits]
    split
    · simp [decVal]
      omega
    · rename_i h
      have := ih (u / 10) (by omega)
      unfold decVal at this ⊢
      rw [List.foldl_append, this]
      simp
      omega
theorem itoa_inj {a b : Nat} (h : Lib.itoa (a : Int) = Lib.itoa (b : Int)) : a = b := by
  unfold Lib.itoa at h
  rw [if_neg (by omega), if_neg (by omega)] at h
  simp only [Int.toNat_natCast] at h
  rw [← decVal_digits a, ← decVal_digits b, h]
theorem numOf_itoa (k : Nat) (h : k ≤ 4000) : numOf (Lib.itoa (k : Int)) = k := by
  unfold numOf
  cases hf : (List.range 4001).find? (fun (j : Nat) => Lib.itoa (j : Int) == Lib.itoa (k : Int)) with
  | none =>
    have := List.find?_eq_none.1 hf k (List.mem_range.2 (by omega))
    simp at this
  | some j =>
    have := List.find?_some hf
    simp only [beq_iff_eq] at this
    simp [itoa_inj this]
theorem numOf_none {s : List UInt8} (h : ∀ k : Nat, k ≤ 4000 → Lib.itoa (k : Int) ≠ s) : numOf s = 0 := by
  unfold numOf
  rw [List.find?_eq_none.2]
  · rfl
  · intro k hk
    simpa using h k (by have := List.mem_range.1 hk; omega)
theorem numOf_le (s : List UInt8) : numOf s ≤ 4000 := by
  unfold numOf
  cases hf : (List.range 4001).find? (fun (j : Nat) => Lib.itoa (j : Int) == s) with
  | none => simp
  | some j =>
    have := List.mem_range.1 (List.mem_of_find?_eq_some hf)
    simp
    omega
theorem headNum_le (l : List (List UInt8)) : headNum l ≤ 4000 := by
  unfold headNum
  cases l with
  | nil => simp
  | cons s r => simpa using numOf_le s
theorem sumOf_le (ps : List (List (List UInt8))) : sumOf ps ≤ 4000 * ps.length := by
  unfold sumOf
  induction ps with
  | nil => simp
  | cons p ps ih =>
    have := headNum_le p
    simp only [List.map_cons, List.sum_cons, List.length_cons]
    omega
theorem sumOf_take {ps : List (List (List UInt8))} {k : Nat} {p : List (List UInt8)} (h : ps[k]? = some p) : sumOf (ps.take (k + 1)) = sumOf (ps.take k) + headNum p := by
  unfold sumOf
  rw [List.take_add_one, h]
  simp

/-! ### The least -/

theorem leastTo_some (ps : List (List (List UInt8))) : ∀ (k : Nat) (j : Nat) (t : List UInt8), leastTo ps k = some (j, t) → j < k ∧ (ps[j]?).bind List.head? = some t ∧ ∀ i, i < k → ∀ s, (ps[i]?).bind List.head? = some s → t ≤ s := by
  intro k
  induction k with
  | zero => intro j t h; cases h
  | succ k ih =>
    intro j t h
    unfold leastTo at h
    cases hk : (ps[k]?).bind List.head? with
    | none =>
      rw [hk] at h
      obtain ⟨h1, h2, h3⟩ := ih j t h
      refine ⟨by omega, h2, fun i hi s hs => ?_⟩
      rcases Nat.lt_or_ge i k with h' | h'
      · exact h3 i h' s hs
      · obtain rfl : i = k := by omega
        rw [hk] at hs; cases hs
    | some s =>
      rw [hk] at h
      simp only at h
      cases hl : leastTo ps k with
      | none =>
        rw [hl] at h
        simp only [Option.some.injEq, Prod.mk.injEq] at h
        obtain ⟨rfl, rfl⟩ := h
        refine ⟨by omega, hk, fun i hi s' hs => ?_⟩
        rcases Nat.lt_or_ge i k with h' | h'
        · exfalso
          clear ih hk
          have : ∀ m, leastTo ps m = none → ∀ i, i < m → (ps[i]?).bind List.head? = none := by
            intro m
            induction m with
            | zero => intro _ i hi; omega
            | succ m ihm =>
              intro hm i hi
              unfold leastTo at hm
              cases hb : (ps[m]?).bind List.head? with
              | none =>
                rw [hb] at hm
                rcases Nat.lt_or_ge i m with h'' | h''
                · exact ihm hm i h''
                · obtain rfl : i = m := by omega
                  exact hb
              | some x =>
                rw [hb] at hm
                simp only at hm
                split at hm
                · cases hm
                · split at hm <;> cases hm
          rw [this k hl i h'] at hs
          cases hs
        · obtain rfl : i = k := by omega
          rw [hk] at hs
          injection hs with hs
          rw [hs]; exact List.le_refl _
      | some p =>
        obtain ⟨j', t'⟩ := p
        rw [hl] at h
        simp only at h
        obtain ⟨h1, h2, h3⟩ := ih j' t' hl
        by_cases hlt : s < t'
        · rw [if_pos hlt] at h
          simp only [Option.some.injEq, Prod.mk.injEq] at h
          obtain ⟨rfl, rfl⟩ := h
          refine ⟨by omega, hk, fun i hi s' hs => ?_⟩
          rcases Nat.lt_or_ge i k with h' | h'
          · exact List.le_trans (List.le_of_lt hlt) (h3 i h' s' hs)
          · obtain rfl : i = k := by omega
            rw [hk] at hs
            injection hs with hs
            rw [hs]; exact List.le_refl _
        · rw [if_neg hlt] at h
          simp only [Option.some.injEq, Prod.mk.injEq] at h
          obtain ⟨rfl, rfl⟩ := h
          refine ⟨by omega, h2, fun i hi s' hs => ?_⟩
          rcases Nat.lt_or_ge i k with h' | h'
          · exact h3 i h' s' hs
          · obtain rfl : i = k := by omega
            rw [hk] at hs
            injection hs with hs
            rw [← hs]; exact List.not_lt.1 hlt
theorem leastTo_none (ps : List (List (List UInt8))) : ∀ m, leastTo ps m = none → ∀ i, i < m → (ps[i]?).bind List.head? = none := by
  intro m
  induction m with
  | zero => intro _ i hi; omega
  | succ m ihm =>
    intro hm i hi
    unfold leastTo at hm
    cases hb : (ps[m]?).bind List.head? with
    | none =>
      rw [hb] at hm
      rcases Nat.lt_or_ge i m with h'' | h''
      · exact ihm hm i h''
      · obtain rfl : i = m := by omega
        exact hb
    | some x =>
      rw [hb] at hm
      simp only at hm
      split at hm
      · cases hm
      · split at hm <;> cases hm
theorem least_some {ps : List (List (List UInt8))} {k : Nat} {s : List UInt8} (h : least ps = some (k, s)) : ∃ r, ps[k]? = some (s :: r) ∧ ∀ p ∈ ps, ∀ x, p.head? = some x → s ≤ x := by
  obtain ⟨h1, h2, h3⟩ := leastTo_some ps _ k s h
  cases hp : ps[k]? with
  | none => rw [hp] at h2; cases h2
  | some p =>
    rw [hp] at h2
    cases p with
    | nil => cases h2
    | cons x r =>
      simp only [Option.bind_some, List.head?_cons, Option.some.injEq] at h2
      refine ⟨r, by rw [h2], fun p hp x hx => ?_⟩
      obtain ⟨i, hi, rfl⟩ := List.mem_iff_getElem.1 hp
      exact h3 i hi x (by rw [List.getElem?_eq_getElem hi]; exact hx)
theorem least_none {ps : List (List (List UInt8))} (h : least ps = none) : ps.flatten = [] := by
  have := leastTo_none ps _ h
  rw [List.flatten_eq_nil_iff]
  intro p hp
  obtain ⟨i, hi, rfl⟩ := List.mem_iff_getElem.1 hp
  have := this i hi
  rw [List.getElem?_eq_getElem hi] at this
  simpa using this

/-! ### Merging -/

theorem modify_flatten {ps : List (List (List UInt8))} : ∀ {k : Nat} {s : List UInt8} {r : List (List UInt8)}, ps[k]? = some (s :: r) → ps.flatten.Perm (s :: (ps.modify k (List.drop 1)).flatten) := by
  induction ps with
  | nil => intro k s r h; simp at h
  | cons p ps ih =>
    intro k s r h
    cases k with
    | zero =>
      simp only [List.getElem?_cons_zero, Option.some.injEq] at h
      subst h
      simp
    | succ k =>
      simp only [List.getElem?_cons_succ] at h
      simp only [List.modify_succ_cons, List.flatten_cons]
      exact ((ih h).append_left p).trans List.perm_middle
theorem modify_length {ps : List (List (List UInt8))} {k : Nat} {s : List UInt8} {r : List (List UInt8)} (h : ps[k]? = some (s :: r)) : ps.flatten.length = (ps.modify k (List.drop 1)).flatten.length + 1 := by
  have := (modify_flatten h).length_eq
  simpa using this
theorem mergeN_perm : ∀ (n : Nat) (ps : List (List (List UInt8))), ps.flatten.length = n → (mergeN n ps).Perm ps.flatten := by
  intro n
  induction n with
  | zero => intro ps h; rw [List.eq_nil_of_length_eq_zero h]; exact List.Perm.nil
  | succ n ih =>
    intro ps h
    unfold mergeN
    cases hl : least ps with
    | none => rw [least_none hl] at h; cases h
    | some q =>
      obtain ⟨k, s⟩ := q
      obtain ⟨r, hr, _⟩ := least_some hl
      have hm := modify_length hr
      exact ((ih _ (by omega)).cons s).trans (modify_flatten hr).symm
theorem mergeN_sorted : ∀ (n : Nat) (ps : List (List (List UInt8))), ps.flatten.length = n → (∀ p ∈ ps, p.Pairwise (fun x y => x ≤ y)) → (mergeN n ps).Pairwise (fun x y => x ≤ y) := by
  intro n
  induction n with
  | zero => intro ps h _; exact List.Pairwise.nil
  | succ n ih =>
    intro ps h hs
    unfold mergeN
    cases hl : least ps with
    | none => exact List.Pairwise.nil
    | some q =>
      obtain ⟨k, s⟩ := q
      obtain ⟨r, hr, hle⟩ := least_some hl
      have hm := modify_length hr
      simp only
      refine List.Pairwise.cons ?_ (ih _ (by omega) ?_)
      · intro x hx
        have hx' : x ∈ ps.flatten := (modify_flatten hr).mem_iff.2 (List.mem_cons_of_mem _ ((mergeN_perm n _ (by omega)).mem_iff.1 hx))
        obtain ⟨p, hp, hxp⟩ := List.mem_flatten.1 hx'
        have hsp := hs p hp
        cases p with
        | nil => cases hxp
        | cons y q =>
          have h1 := hle _ hp y rfl
          rcases List.mem_cons.1 hxp with rfl | hxq
          · exact h1
          · exact List.le_trans h1 ((List.pairwise_cons.1 hsp).1 x hxq)
      · intro p hp
        obtain ⟨i, hi, rfl⟩ := List.mem_iff_getElem.1 hp
        rw [List.getElem_modify]
        have hi' : i < ps.length := by simpa using hi
        split
        · exact (hs _ (List.getElem_mem hi')).sublist (List.drop_sublist _ _)
        · exact hs _ (List.getElem_mem hi')
theorem mergeOf_sorted (ps : List (List (List UInt8))) (h : ∀ p ∈ ps, p.Pairwise (fun x y => x ≤ y)) : mergeOf ps = sortOf ps.flatten :=
  sorted_unique _ _ ((mergeN_perm _ _ rfl).trans (sortOf_perm _).symm) (mergeN_sorted _ _ rfl h) (sortOf_sorted _)
theorem mergeOf_perm (ps : List (List (List UInt8))) : (mergeOf ps).Perm ps.flatten := mergeN_perm _ _ rfl

/-! ### Alike ones, one behind the other -/

theorem last_cons (s : List UInt8) (a : List (List UInt8)) (p : Option (List UInt8)) : (s :: a).getLast?.or p = a.getLast?.or (some s) := by
  rw [List.getLast?_cons]
  cases h : a.getLast? <;> simp
def comp : Option (List UInt8) → List (List UInt8) → List (List UInt8)
  | _, [] => []
  | p, s :: r => if p = some s then comp p r else s :: comp (some s) r
theorem comp_append (a b : List (List UInt8)) : ∀ p, comp p (a ++ b) = comp p a ++ comp (a.getLast?.or p) b := by
  induction a with
  | nil => intro p; rfl
  | cons s a ih =>
    intro p
    rw [List.cons_append, comp, comp, ih, ih]
    have e := last_cons s a p
    rw [e]
    split
    · rename_i hp; rw [hp]
    · rfl
theorem comp_last (a : List (List UInt8)) : ∀ p, (comp p a).getLast?.or p = a.getLast?.or p := by
  induction a with
  | nil => intro p; rfl
  | cons s a ih =>
    intro p
    have e := last_cons s a p
    rw [e, comp]
    split
    · rename_i hp; rw [ih p, hp]
    · rw [last_cons]; exact ih _
theorem comp_comp (a : List (List UInt8)) : ∀ p q, (q = none ∨ q = p) → comp p (comp q a) = comp p a := by
  induction a with
  | nil => intro p q _; rfl
  | cons s a ih =>
    intro p q hq
    by_cases hqs : q = some s
    · rcases hq with h | h
      · rw [h] at hqs; cases hqs
      · subst h
        rw [comp, if_pos hqs]
        rw [ih q q (.inr rfl)]
    · conv => lhs; rw [comp, if_neg hqs]
      rw [comp]
      conv => rhs; rw [comp]
      split
      · rename_i hp; rw [hp]; exact ih _ _ (.inr rfl)
      · rw [ih _ _ (.inr rfl)]
theorem comp_flatten (ps : List (List (List UInt8))) : ∀ p, comp p (ps.map (comp none)).flatten = comp p ps.flatten := by
  induction ps with
  | nil => intro p; rfl
  | cons a ps ih =>
    intro p
    rw [List.map_cons, List.flatten_cons, List.flatten_cons, comp_append, comp_append, comp_comp _ _ _ (.inl rfl), ih]
    have := comp_last a none
    simp only [Option.or_none] at this
    rw [this]
theorem compactUpTo_comp (l : List (List UInt8)) : ∀ m, m ≤ l.length → Lib.compactUpTo l.toArray m = comp none (l.take m) := by
  intro m
  induction m with
  | zero => intro _; rfl
  | succ m ih =>
    intro h
    rw [Lib.compactUpTo_succ, ih (by omega), List.take_add_one, List.getElem?_eq_getElem (show m < l.length by omega), Option.toList_some, comp_append]
    congr 1
    have e1 : l.toArray[m]! = l[m] := by simp [getElem!_pos, show m < l.length by omega]
    unfold Lib.keeps
    rw [e1, Option.or_none, comp, comp]
    by_cases h0 : m = 0
    · subst h0; simp [comp]
    · have e2 : l.toArray[m - 1]! = l[m - 1] := by simp [getElem!_pos, show m - 1 < l.length by omega]
      have e3 : (l.take m).getLast? = some l[m - 1] := by
        rw [List.getLast?_eq_getElem?, List.length_take, Nat.min_eq_left (by omega), List.getElem?_take, if_pos (by omega), List.getElem?_eq_getElem (by omega)]
      rw [e2, e3]
      by_cases hx : l[m - 1] = l[m]
      · simp [hx, h0]
      · simp [hx, h0, Ne.symm hx, comp]
theorem compact_comp (l : List (List UInt8)) : Lib.compact l = comp none l := by
  unfold Lib.compact
  rw [compactUpTo_comp l _ (Nat.le_refl _), List.take_length]
theorem compact_flatten (ps : List (List (List UInt8))) : Lib.compact (ps.map Lib.compact).flatten = Lib.compact ps.flatten := by
  have e : (Lib.compact : List (List UInt8) → List (List UInt8)) = comp none := funext compact_comp
  rw [e]
  exact comp_flatten ps none

/-! ### The first and the last -/

theorem take_flatten {α : Type} (n : Nat) (ps : List (List α)) : ∀ m, m ≤ n → (ps.map (List.take n)).flatten.take m = ps.flatten.take m := by
  induction ps with
  | nil => intro m _; rfl
  | cons a ps ih =>
    intro m hm
    rw [List.map_cons, List.flatten_cons, List.flatten_cons, List.take_append, List.take_append, List.take_take, Nat.min_eq_left hm, List.length_take]
    congr 1
    have e : m - min n a.length = m - a.length := by omega
    rw [e]
    exact ih _ (by omega)
def lastOf {α : Type} (n : Nat) (l : List α) : List α := l.drop (l.length - n)
theorem lastOf_eq {α : Type} (n : Nat) (l : List α) : lastOf n l = (l.reverse.take n).reverse := by
  unfold lastOf
  rw [List.take_reverse, List.reverse_reverse]
theorem last_flatten {α : Type} (n : Nat) (ps : List (List α)) : lastOf n (ps.map (lastOf n)).flatten = lastOf n ps.flatten := by
  rw [lastOf_eq, lastOf_eq]
  congr 1
  rw [List.reverse_flatten, List.reverse_flatten, List.map_map]
  have e : (List.reverse ∘ lastOf n : List α → List α) = List.take n ∘ List.reverse := by
    funext l
    simp [lastOf_eq]
  rw [e, ← List.map_map, ← List.map_reverse]
  exact take_flatten n _ n (Nat.le_refl _)

/-! ### Parts joined are the whole -/

theorem count_sum (ps : List (List (List UInt8))) (h : ∀ p ∈ ps, p.length ≤ 4000) : sumOf (ps.map fun p => [Lib.itoa (p.length : Int)]) = ps.flatten.length := by
  unfold sumOf
  induction ps with
  | nil => rfl
  | cons p ps ih =>
    have := ih (fun q hq => h q (by simp [hq]))
    simp only [List.map_cons, List.sum_cons, List.flatten_cons, List.length_append] at this ⊢
    rw [this]
    have hn : headNum [Lib.itoa (p.length : Int)] = p.length := by
      unfold headNum
      rw [List.head?_cons, Option.map_some, Option.getD_some, numOf_itoa p.length (h p (by simp))]
    rw [hn]

theorem join_whole (c : Cmd) (hc : chk c = 0) (ps : List (List (List UInt8))) (h : ∀ p ∈ ps, p.length ≤ 4000) : joined (howFor c.kind) c (ps.map (made c)) = made c ps.flatten := by
  have hk := chk_kinds c hc
  have : c.kind = 1 ∨ c.kind = 2 ∨ c.kind = 3 ∨ c.kind = 4 ∨ c.kind = 5 ∨ c.kind = 6 ∨ c.kind = 7 ∨ c.kind = 8 ∨ c.kind = 9 ∨ c.kind = 10 := by omega
  have each : isEach c.kind = true → (ps.map (made c)).flatten = made c ps.flatten := by
    intro he
    clear h
    induction ps with
    | nil =>
      have hk : c.kind = 1 ∨ c.kind = 2 ∨ c.kind = 3 ∨ c.kind = 4 ∨ c.kind = 5 := by
        have := of_decide_eq_true he
        omega
      rcases hk with hk | hk | hk | hk | hk <;> simp [made, hk]
    | cons p ps ih => rw [List.map_cons, List.flatten_cons, List.flatten_cons, made_append c he, ih]
  rcases this with e | e | e | e | e | e | e | e | e | e
  · simpa [joined, howFor, e] using each (by simp [isEach, e])
  · simpa [joined, howFor, e] using each (by simp [isEach, e])
  · simpa [joined, howFor, e] using each (by simp [isEach, e])
  · simpa [joined, howFor, e] using each (by simp [isEach, e])
  · simpa [joined, howFor, e] using each (by simp [isEach, e])
  · have e1 : joined (howFor c.kind) c (ps.map (made c)) = mergeOf (ps.map (made c)) := by simp [joined, howFor, e]
    have e2 : made c = sortOf := funext (made6 c e)
    rw [e1, e2, mergeOf_sorted _ (by
      intro p hp
      obtain ⟨q, _, rfl⟩ := List.mem_map.1 hp
      exact sortOf_sorted q)]
    apply sortOf_congr
    clear h each e1
    induction ps with
    | nil => exact List.Perm.nil
    | cons p ps ih =>
      rw [List.map_cons, List.flatten_cons, List.flatten_cons]
      exact (sortOf_perm p).append ih
  · have e1 : joined (howFor c.kind) c (ps.map (made c)) = made c (ps.map (made c)).flatten := by simp [joined, howFor, e]
    have e2 : made c = Lib.compact := funext (made7 c e)
    rw [e1, e2]
    exact compact_flatten ps
  · have e1 : joined (howFor c.kind) c (ps.map (made c)) = [Lib.itoa (sumOf (ps.map (made c)) : Int)] := by simp [joined, howFor, e]
    have e2 : made c = fun p => [Lib.itoa (p.length : Int)] := funext (made8 c e)
    rw [e1, e2, count_sum ps h]
  · have e1 : joined (howFor c.kind) c (ps.map (made c)) = made c (ps.map (made c)).flatten := by simp [joined, howFor, e]
    have e2 : made c = List.take c.n.toNat := funext (made9 c e)
    rw [e1, e2]
    exact take_flatten _ ps _ (Nat.le_refl _)
  · have e1 : joined (howFor c.kind) c (ps.map (made c)) = made c (ps.map (made c)).flatten := by simp [joined, howFor, e]
    have e2 : made c = lastOf c.n.toNat := funext (made10 c e)
    rw [e1, e2]
    exact last_flatten _ ps

/-! ### No line feed -/

theorem decDigits_noFeed : ∀ u : Nat, (10 : UInt8) ∉ Lib.decDigits u := by
  intro u
  induction u using Nat.strongRecOn with
  | ind u ih =>
    have hd : ∀ d : Nat, d < 10 → (10 : UInt8) ≠ UInt8.ofNat (48 + d) := by
      intro d hd e
      have : d = 0 ∨ d = 1 ∨ d = 2 ∨ d = 3 ∨ d = 4 ∨ d = 5 ∨ d = 6 ∨ d = 7 ∨ d = 8 ∨ d = 9 := by omega
      rcases this with rfl | rfl | rfl | rfl | rfl | rfl | rfl | rfl | rfl | rfl <;> exact absurd e (by decide)
    rw [Lib.decDigits]
    split
    · rename_i h
      simp only [List.mem_singleton]
      exact hd u h
    · simp only [List.mem_append, List.mem_singleton, not_or]
      exact ⟨ih (u / 10) (by omega), hd _ (Nat.mod_lt _ (by omega))⟩
theorem itoa_noFeed (n : Nat) : (10 : UInt8) ∉ Lib.itoa (n : Int) := by
  unfold Lib.itoa
  rw [if_neg (by omega)]
  exact decDigits_noFeed _
theorem made_noFeed (c : Cmd) (hc : chk c = 0) (ls : List (List UInt8)) (h : ∀ s ∈ ls, (10 : UInt8) ∉ s) : ∀ s ∈ made c ls, (10 : UInt8) ∉ s := by
  have hk := chk_kinds c hc
  have : c.kind = 1 ∨ c.kind = 2 ∨ c.kind = 3 ∨ c.kind = 4 ∨ c.kind = 5 ∨ c.kind = 6 ∨ c.kind = 7 ∨ c.kind = 8 ∨ c.kind = 9 ∨ c.kind = 10 := by omega
  rcases this with e | e | e | e | e | e | e | e | e | e
  · rw [made1 c e]; exact noFeed_sub List.filter_sublist h
  · rw [made2 c e]; exact noFeed_sub List.filter_sublist h
  · rw [made3 c e]
    intro s hs hm
    obtain ⟨t, ht, rfl⟩ := List.mem_map.1 hs
    obtain ⟨h2, hw⟩ := chk_le hc e
    unfold swapOf at hm
    obtain ⟨y, hy, hxy⟩ := List.mem_map.1 hm
    split at hxy
    · have : wordByte (c.word.getD 1 0) = true := by
        match hcw : c.word, h2, hw with
        | [x, y], _, hw => simp at hw; simpa using hw.2
      rw [hxy] at this
      exact absurd this (by decide)
    · exact h t ht (hxy ▸ hy)
  · rw [made4 c e]
    intro s hs
    obtain ⟨t, ht, rfl⟩ := List.mem_map.1 hs
    unfold fieldOf
    cases hf : (Lib.split t [32])[(c.n - 1).toNat]? with
    | none => simp
    | some p => exact splitK_noFeed _ _ _ (h t ht) p (List.mem_of_getElem? hf)
  · rw [made5 c e]
    intro s hs
    obtain ⟨t, ht, rfl⟩ := List.mem_map.1 hs
    simpa using h t ht
  · rw [made6 c e]; exact fun s hs => h s ((sortOf_perm ls).mem_iff.1 hs)
  · rw [made7 c e]; exact noFeed_sub (compact_sub ls) h
  · rw [made8 c e]
    intro s hs
    rw [List.mem_singleton.1 hs]
    exact itoa_noFeed _
  · rw [made9 c e]; exact noFeed_sub (List.take_sublist _ _) h
  · rw [made10 c e]; exact noFeed_sub (List.drop_sublist _ _) h
theorem joined_noFeed (how : Int) (c : Cmd) (hc : how = 4 → chk c = 0) (ps : List (List (List UInt8))) (h : ∀ p ∈ ps, ∀ s ∈ p, (10 : UInt8) ∉ s) : ∀ s ∈ joined how c ps, (10 : UInt8) ∉ s := by
  have hf : ∀ s ∈ ps.flatten, (10 : UInt8) ∉ s := by
    intro s hs
    obtain ⟨p, hp, hsp⟩ := List.mem_flatten.1 hs
    exact h p hp s hsp
  unfold joined
  split
  · exact fun s hs => hf s ((mergeOf_perm ps).mem_iff.1 hs)
  · split
    · intro s hs
      rw [List.mem_singleton.1 hs]
      exact itoa_noFeed _
    · split
      · rename_i h4; exact made_noFeed c (hc h4) _ hf
      · exact hf
end Go.Gs
