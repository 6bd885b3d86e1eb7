/- What is printed is read, and what is read is printed as it was: no walk. -/
import Derived.Test.YtkifihcficobnabScriptPlain
import Derived.Test.YtkifihcficobnabNumLib
import Derived.Lib.IndexMore
namespace Go.Gs
open Go.RowKit
set_option linter.unusedVariables false

/-! Cut and Split. -/
theorem occ_get {s sub : List UInt8} {j p : Nat} {c : UInt8} (h : Lib.occAt s sub j = true) (hp : sub[p]? = some c) : s[j + p]? = some c := by
  unfold Lib.occAt at h
  rw [List.isPrefixOf_iff_prefix] at h
  obtain ⟨t, ht⟩ := h
  have : (s.drop j)[p]? = some c := by
    rw [← ht, List.getElem?_append_left (by have := List.getElem?_eq_some_iff.1 hp; exact this.1), hp]
  rw [List.getElem?_drop] at this
  exact this
theorem index_first {a b sep : List UInt8} {c : UInt8} {p : Nat} (hp : sep[p]? = some c) (hlt : ∀ q, q < p → sep[q]? ≠ some c) (ha : c ∉ a) : Lib.index (a ++ sep ++ b) sep = (a.length : Int) := by
  have hocc : Lib.occAt (a ++ sep ++ b) sep a.length = true := by
    unfold Lib.occAt
    rw [List.isPrefixOf_iff_prefix, List.append_assoc, List.drop_left]
    exact ⟨b, rfl⟩
  have hno : ∀ j, j < a.length → Lib.occAt (a ++ sep ++ b) sep j = false := by
    intro j hj
    by_cases ho : Lib.occAt (a ++ sep ++ b) sep j = true
    · exfalso
      have hg := occ_get ho hp
      rw [List.append_assoc] at hg
      by_cases hjp : j + p < a.length
      · rw [List.getElem?_append_left hjp] at hg
        exact ha (List.mem_of_getElem? hg)
      · rw [List.getElem?_append_right (by omega), List.getElem?_append_left (by have := (List.getElem?_eq_some_iff.1 hp).1; omega)] at hg
        exact hlt _ (by omega) hg
    · simpa using ho
  rcases Lib.index_spec (a ++ sep ++ b) sep with ⟨_, hall⟩ | ⟨i, hi, hle, hoi, hnoi⟩
  · have := hall a.length (by simp)
    rw [hocc] at this; cases this
  · have : i = a.length := by
      rcases Nat.lt_trichotomy i a.length with h | h | h
      · have := hno i h; rw [hoi] at this; cases this
      · exact h
      · have := hnoi a.length h; rw [hocc] at this; cases this
    rw [hi, this]
theorem no_ahead {a b : UInt8} {r : List UInt8} (h : a ≠ b) : ∀ q, q < 1 → (a :: r)[q]? ≠ some b := by
  intro q hq
  obtain rfl : q = 0 := by omega
  simpa using h
theorem cut_first {a b sep : List UInt8} {c : UInt8} {p : Nat} (hp : sep[p]? = some c) (hlt : ∀ q, q < p → sep[q]? ≠ some c) (ha : c ∉ a) : Lib.cut (a ++ sep ++ b) sep = (a, b, true) := by
  unfold Lib.cut
  rw [index_first hp hlt ha, if_pos (by omega)]
  simp [List.append_assoc]
theorem index_none {s sep : List UInt8} {c : UInt8} {p : Nat} (hp : sep[p]? = some c) (hs : c ∉ s) : Lib.index s sep = -1 := by
  rcases Lib.index_spec s sep with ⟨h, _⟩ | ⟨i, _, _, hoi, _⟩
  · exact h
  · exact absurd (List.mem_of_getElem? (occ_get hoi hp)) hs
theorem cut_none {s sep : List UInt8} {c : UInt8} {p : Nat} (hp : sep[p]? = some c) (hs : c ∉ s) : Lib.cut s sep = (s, [], false) := by
  unfold Lib.cut
  rw [index_none hp hs, if_neg (by omega)]
theorem index_parts {s sep : List UInt8} {i : Nat} (h : Lib.index s sep = (i : Int)) : s = s.take i ++ sep ++ s.drop (i + sep.length) := by
  rcases Lib.index_spec s sep with ⟨h', _⟩ | ⟨j, hj, _, hoj, _⟩
  · omega
  · obtain rfl : i = j := by omega
    unfold Lib.occAt at hoj
    rw [List.isPrefixOf_iff_prefix] at hoj
    obtain ⟨t, ht⟩ := hoj
    have : s.drop (i + sep.length) = t := by
      rw [← List.drop_drop, ← ht, List.drop_left]
    rw [this, List.append_assoc, ht, List.take_append_drop]
theorem cut_true {s sep : List UInt8} (h : (Lib.cut s sep).2.2 = true) : s = (Lib.cut s sep).1 ++ sep ++ (Lib.cut s sep).2.1 := by
  unfold Lib.cut at h ⊢
  split
  · rename_i h0
    exact index_parts (i := (Lib.index s sep).toNat) (by omega)
  · rename_i h0
    rw [if_neg h0] at h; cases h
theorem cut_false {s sep : List UInt8} (h : (Lib.cut s sep).2.2 = false) : (Lib.cut s sep).1 = s ∧ (Lib.cut s sep).2.1 = [] := by
  unfold Lib.cut at h ⊢
  split
  · rename_i h0
    rw [if_pos h0] at h; cases h
  · exact ⟨rfl, rfl⟩

theorem split_miss {s sep : List UInt8} (h : Lib.index s sep = -1) : Lib.split s sep = [s] := by
  unfold Lib.split
  rw [Lib.count_miss h]; rfl
theorem split_hit {s sep : List UInt8} {i : Nat} (hs : sep ≠ []) (h : Lib.index s sep = (i : Int)) : Lib.split s sep = s.take i :: Lib.split (s.drop (i + sep.length)) sep := by
  unfold Lib.split
  rw [Lib.count_hit hs h, Nat.add_comm, Lib.splitK, if_neg (by rw [h]; simp), h]
  simp
theorem split_ne_nil (s sep : List UInt8) : Lib.split s sep ≠ [] := by
  unfold Lib.split
  cases Lib.count s sep with
  | zero => simp [Lib.splitK]
  | succ k => unfold Lib.splitK; split <;> simp
theorem join_two (x y : List UInt8) (r : List (List UInt8)) (sep : List UInt8) : Lib.join (x :: y :: r) sep = x ++ sep ++ Lib.join (y :: r) sep := by
  rw [Lib.join_cons, Lib.join_cons]
  simp [Lib.joinTail, List.append_assoc]
theorem split_join {sep : List UInt8} {c : UInt8} {p : Nat} (hp : sep[p]? = some c) (hlt : ∀ q, q < p → sep[q]? ≠ some c) : ∀ (xs : List (List UInt8)), xs ≠ [] → (∀ x ∈ xs, c ∉ x) → Lib.split (Lib.join xs sep) sep = xs
  | [], h, _ => absurd rfl h
  | [x], _, h => by rw [Lib.join_one, split_miss (index_none hp (h x (by simp)))]
  | x :: y :: r, _, h => by
    have hne : sep ≠ [] := by intro h; rw [h] at hp; simp at hp
    rw [join_two, split_hit hne (index_first hp hlt (h x (by simp)))]
    rw [List.append_assoc, List.take_left, ← List.append_assoc, ← List.length_append, List.drop_left]
    rw [split_join hp hlt (y :: r) (by simp) (fun z hz => h z (by simp only [List.mem_cons] at hz ⊢; exact Or.inr hz))]
theorem join_split {sep : List UInt8} (hne : sep ≠ []) : ∀ (n : Nat) (s : List UInt8), s.length ≤ n → Lib.join (Lib.split s sep) sep = s := by
  intro n
  induction n with
  | zero =>
    intro s hs
    obtain rfl : s = [] := List.length_eq_zero_iff.1 (by omega)
    rw [split_miss (by cases sep with | nil => exact absurd rfl hne | cons a b => rfl), Lib.join_one]
  | succ n ih =>
    intro s hs
    by_cases h : Lib.index s sep = -1
    · rw [split_miss h, Lib.join_one]
    · have hge := Lib.index_ge s sep
      have hi : Lib.index s sep = ((Lib.index s sep).toNat : Int) := by omega
      rw [split_hit hne hi]
      have hd := ih (s.drop ((Lib.index s sep).toNat + sep.length)) (by
        have := Lib.drop_shorter hne (s := s) (by simpa using h)
        omega)
      cases hsp : Lib.split (s.drop ((Lib.index s sep).toNat + sep.length)) sep with
      | nil => exact absurd hsp (split_ne_nil _ _)
      | cons y r =>
        rw [join_two, ← hsp, hd]
        exact (index_parts hi).symm

/-! Numbers, names. -/
theorem digits_word : ∀ u : Nat, (Lib.decDigits u).all wordByte = true := by
  intro u
  induction u using Nat.strongRecOn with
  | ind u ih =>
    rw [Lib.decDigits]
    split
    · rename_i h
      have e := digit_byte u h
      simp only [List.all_cons, List.all_nil, Bool.and_true, wordByte, e]
      simp; omega
    · rename_i h
      rw [List.all_append, ih (u / 10) (by omega)]
      have e := digit_byte (u % 10) (Nat.mod_lt _ (by omega))
      simp only [List.all_cons, List.all_nil, Bool.and_true, Bool.true_and, wordByte, e]
      simp; omega
theorem itoa_word {n : Int} (h : 0 ≤ n) : (Lib.itoa n).all wordByte = true := by
  unfold Lib.itoa
  rw [if_neg (by omega)]
  exact digits_word _
theorem parseNum_itoa {n : Int} (h1 : 1 ≤ n) (h2 : n ≤ 1000) : parseNum (Lib.itoa n) = some n := by
  unfold parseNum
  have := atoiAll_itoa n.toNat (by omega)
  rw [show (n.toNat : Int) = n by omega] at this
  rw [this]; simp
theorem parseNum_some {s : List UInt8} {n : Int} (h : parseNum s = some n) : Lib.itoa n = s := by
  unfold parseNum at h
  split at h
  · split at h
    · rename_i h2; injection h with h; subst h; exact h2
    · cases h
  · cases h

theorem kind_cases {k : Int} (h1 : 1 ≤ k) (h2 : k ≤ 10) : k = 1 ∨ k = 2 ∨ k = 3 ∨ k = 4 ∨ k = 5 ∨ k = 6 ∨ k = 7 ∨ k = 8 ∨ k = 9 ∨ k = 10 := by omega
theorem kindOf_name {k : Int} (h1 : 1 ≤ k) (h2 : k ≤ 10) : kindOf (nameOf k) = k := by
  rcases kind_cases h1 h2 with rfl | rfl | rfl | rfl | rfl | rfl | rfl | rfl | rfl | rfl <;> decide
theorem nameOf_word {k : Int} (h1 : 1 ≤ k) (h2 : k ≤ 10) : (nameOf k).all wordByte = true := by
  rcases kind_cases h1 h2 with rfl | rfl | rfl | rfl | rfl | rfl | rfl | rfl | rfl | rfl <;> decide
theorem kindFrom_spec (s : List UInt8) : ∀ (f k : Nat), (kindFrom s f k = 0 ∧ ∀ j, k ≤ j → j < k + f → nameOf j ≠ s) ∨ (∃ j : Nat, kindFrom s f k = j ∧ k ≤ j ∧ j < k + f ∧ nameOf j = s)
  | 0, k => Or.inl ⟨rfl, fun j h1 h2 => by omega⟩
  | f + 1, k => by
    unfold kindFrom
    split
    · rename_i h
      exact Or.inr ⟨k, rfl, by omega, by omega, h⟩
    · rename_i h
      rcases kindFrom_spec s f (k + 1) with ⟨h1, h2⟩ | ⟨j, h1, h2, h3, h4⟩
      · refine Or.inl ⟨h1, fun j ha hb => ?_⟩
        by_cases hj : j = k
        · subst hj; exact h
        · exact h2 j (by omega) (by omega)
      · exact Or.inr ⟨j, h1, by omega, by omega, h4⟩
theorem kindOf_spec (s : List UInt8) (h : kindOf s ≠ 0) : 1 ≤ kindOf s ∧ kindOf s ≤ 10 ∧ nameOf (kindOf s) = s := by
  rcases kindFrom_spec s 10 1 with ⟨h1, _⟩ | ⟨j, h1, h2, h3, h4⟩
  · exact absurd h1 h
  · have e : kindOf s = (j : Int) := h1
    rw [e]
    exact ⟨by omega, by omega, h4⟩

/-! A command. -/
theorem chk_uses {c : Cmd} (h : chk c = 0) : uses c.kind ≠ 0 ∧ (uses c.kind ≠ 1 → c.word = []) ∧ (uses c.kind ≠ 2 → c.n = 0) ∧ (uses c.kind = 2 → 1 ≤ c.n ∧ c.n ≤ 1000) ∧ (uses c.kind = 1 → isWord c.word = true) := by
  unfold chk at h
  split at h
  · cases h
  · split at h
    · cases h
    · split at h
      · cases h
      · split at h
        · cases h
        · rename_i h1 h2 h3 h4
          refine ⟨h1, fun hu => ?_, fun hu => ?_, fun hu => ?_, fun hu => ?_⟩
          · by_cases hw : c.word = []
            · exact hw
            · exact absurd (Or.inl ⟨hu, hw⟩) h2
          · by_cases hw : c.n = 0
            · exact hw
            · exact absurd (Or.inr ⟨hu, hw⟩) h2
          · by_cases hn : c.n < 1 ∨ 1000 < c.n
            · exact absurd ⟨hu, hn⟩ h3
            · omega
          · by_cases hw : isWord c.word = false
            · exact absurd ⟨hu, Or.inl hw⟩ h4
            · simpa using hw
theorem uses_kind {k : Int} (h : uses k ≠ 0) : 1 ≤ k ∧ k ≤ 10 := by
  unfold uses at h
  split at h
  · omega
  · split at h
    · omega
    · split at h
      · omega
      · exact absurd rfl h
theorem uses_of_kind {k : Int} (h1 : 1 ≤ k) (h2 : k ≤ 10) : uses k ≠ 0 := by
  unfold uses
  split
  · decide
  · split
    · decide
    · split
      · decide
      · omega
theorem isWord_ne {s : List UInt8} (h : isWord s = true) : s ≠ [] := by
  intro e; subst e; cases h
theorem isWord_all {s : List UInt8} (h : isWord s = true) : s.all wordByte = true := by
  unfold isWord at h
  simp only [Bool.and_eq_true] at h
  exact h.2
theorem wordByte_not {s : List UInt8} (h : s.all wordByte = true) {c : UInt8} (hc : wordByte c = false) : c ∉ s := by
  intro hm
  have := List.all_eq_true.1 h c hm
  rw [hc] at this; cases this

theorem parse_printed {c : Cmd} (h : chk c = 0) : parseCmd (printed c) = some c := by
  obtain ⟨hu0, hw, hn, hn2, hw1⟩ := chk_uses h
  obtain ⟨hk1, hk2⟩ := uses_kind hu0
  have hno : (32 : UInt8) ∉ nameOf c.kind := wordByte_not (nameOf_word hk1 hk2) (by decide)
  have hcut : ∀ b, Lib.cut (nameOf c.kind ++ 32 :: b) [32] = (nameOf c.kind, b, true) := by
    intro b
    have := cut_first (a := nameOf c.kind) (b := b) (sep := [32]) (c := 32) (p := 0) rfl (by intro q hq; omega) hno
    rw [← this]; simp
  have hcut0 : Lib.cut (nameOf c.kind) [32] = (nameOf c.kind, [], false) := cut_none (c := 32) (p := 0) rfl hno
  have hkn := kindOf_name hk1 hk2
  obtain ⟨k, wd, n⟩ := c
  simp only at *
  by_cases h1 : uses k = 1
  · have hwd := isWord_ne (hw1 h1)
    have e : printed ⟨k, wd, n⟩ = nameOf k ++ 32 :: wd := by
      unfold printed
      exact if_pos hwd
    rw [e]
    unfold parseCmd
    simp only [hcut, hkn]
    rw [if_neg (by omega), if_pos h1, hn (by omega)]
    rfl
  · have hwd := hw h1
    subst hwd
    by_cases h2 : uses k = 2
    · obtain ⟨a1, a2⟩ := hn2 h2
      have e : printed ⟨k, [], n⟩ = nameOf k ++ 32 :: Lib.itoa n := by
        unfold printed
        exact (if_neg (by simp)).trans (if_pos (show n ≠ 0 by omega))
      rw [e]
      unfold parseCmd
      simp only [hcut, hkn]
      rw [if_neg (by omega), if_neg h1, if_pos h2, parseNum_itoa a1 a2]
    · have := hn h2
      subst this
      have e : printed ⟨k, [], 0⟩ = nameOf k := by
        unfold printed
        exact (if_neg (by simp)).trans (if_neg (by simp))
      rw [e]
      unfold parseCmd
      simp only [hcut0, hkn]
      rw [if_neg (by omega), if_neg h1, if_neg h2]
      rfl
theorem printed_parse {s : List UInt8} {c : Cmd} (h : parseCmd s = some c) (hc : chk c = 0) : printed c = s := by
  obtain ⟨hu0, hw, hn, hn2, hw1⟩ := chk_uses hc
  unfold parseCmd at h
  simp only at h
  split at h
  · cases h
  · rename_i hk
    obtain ⟨k1, k2, k3⟩ := kindOf_spec _ hk
    split at h
    · rename_i h1
      split at h
      · rename_i ht
        injection h with h; subst h
        have hs := cut_true ht
        unfold printed
        simp only at *
        rw [if_pos (isWord_ne (hw1 h1)), k3]
        conv => rhs; rw [hs]
        simp
      · cases h
    · rename_i h1
      split at h
      · rename_i h2
        split at h
        · rename_i n hnum
          injection h with h; subst h
          have hs : (Lib.cut s [32]).2.2 = true := by
            by_cases hb : (Lib.cut s [32]).2.2 = true
            · exact hb
            · have := (cut_false (by simpa using hb)).2
              rw [this] at hnum
              have he := parseNum_some hnum
              have := hn2 h2
              simp only at this
              have e := congrArg List.length he
              unfold Lib.itoa at e
              rw [if_neg (by omega)] at e
              obtain ⟨c, r, e1, _, _⟩ := digits_head n.toNat
              rw [e1] at e
              simp at e
          have hs := cut_true hs
          have := hn2 h2
          unfold printed
          simp only at *
          rw [if_neg (by simp), if_pos (by omega), k3, parseNum_some hnum]
          conv => rhs; rw [hs]
          simp
        · cases h
      · rename_i h2
        split at h
        · cases h
        · rename_i ht
          injection h with h; subst h
          unfold printed
          simp only
          rw [if_neg (by simp), if_neg (by simp), k3]
          exact (cut_false (by simpa using ht)).1

/-! The commands of a line. -/
theorem firstBad_zero : ∀ l : List Int, firstBad l = 0 ↔ ∀ e ∈ l, e = 0
  | [] => by simp [firstBad]
  | e :: r => by
    unfold firstBad
    split
    · rename_i h
      rw [firstBad_zero r]; simp [h]
    · rename_i h
      simp [h]
theorem parseCmds_printed : ∀ cs : List Cmd, (∀ c ∈ cs, chk c = 0) → parseCmds (cs.map printed) = some cs
  | [], _ => rfl
  | c :: r, h => by
    rw [List.map_cons, parseCmds, parse_printed (h c (by simp)), parseCmds_printed r (fun x hx => h x (by simp [hx]))]
theorem printed_parseCmds : ∀ (ps : List (List UInt8)) (cs : List Cmd), parseCmds ps = some cs → (∀ c ∈ cs, chk c = 0) → cs.map printed = ps
  | [], cs, h, _ => by injection h with h; subst h; rfl
  | p :: r, cs, h, hc => by
    unfold parseCmds at h
    split at h
    · cases h
    · rename_i c hp
      split at h
      · cases h
      · rename_i cs' hr
        injection h with h; subst h
        rw [List.map_cons, printed_parse hp (hc c (by simp)), printed_parseCmds r cs' hr (fun x hx => hc x (by simp [hx]))]
theorem do_join (a : List UInt8) (cs : List Cmd) : a ++ doText cs = Lib.join (a :: cs.map printed) [32, 124, 32] := by
  rw [Lib.join_cons]
  unfold doText Lib.joinTail
  simp [List.map_map, Function.comp_def]

/-! A line. -/
theorem lchk_zero {x : SLine} (h : lchk x = 0) : 1 ≤ x.fr.length ∧ x.fr.length ≤ 4 ∧ x.cs.length ≤ 6 ∧ x.fr.all isWord = true ∧ isWord x.to = true ∧ ∀ c ∈ x.cs, chk c = 0 := by
  unfold lchk at h
  split at h
  · cases h
  · split at h
    · cases h
    · split at h
      · cases h
      · rename_i h1 h2 h3
        refine ⟨by omega, by omega, by omega, by simpa using h2, by simpa using h3, fun c hc => ?_⟩
        exact (firstBad_zero _).1 h (chk c) (List.mem_map.2 ⟨c, hc, rfl⟩)
def tame (c : UInt8) : Bool := wordByte c || c == 32
theorem tame_word {s : List UInt8} (h : s.all wordByte = true) : s.all tame = true := by
  rw [List.all_eq_true] at h ⊢
  intro x hx
  simp [tame, h x hx]
theorem printed_tame {c : Cmd} (h : chk c = 0) : (printed c).all tame = true := by
  obtain ⟨hu0, hw, hn, hn2, hw1⟩ := chk_uses h
  obtain ⟨hk1, hk2⟩ := uses_kind hu0
  have hnm := tame_word (nameOf_word hk1 hk2)
  unfold printed
  split
  · rename_i hwd
    have h1 : uses c.kind = 1 := by
      by_cases h1 : uses c.kind = 1
      · exact h1
      · exact absurd (hw h1) hwd
    rw [List.all_append, hnm, List.all_cons, tame_word (isWord_all (hw1 h1))]
    rfl
  · split
    · rename_i hc0
      have h2 : uses c.kind = 2 := by
        by_cases h2 : uses c.kind = 2
        · exact h2
        · exact absurd (hn h2) hc0
      rw [List.all_append, hnm, List.all_cons, tame_word (itoa_word (by have := hn2 h2; omega))]
      rfl
    · exact hnm
theorem join_tame : ∀ fr : List (List UInt8), fr.all isWord = true → (Lib.join fr [32]).all tame = true
  | [], _ => rfl
  | [x], h => by
    rw [Lib.join_one]
    exact tame_word (isWord_all (List.all_eq_true.1 h x (by simp)))
  | x :: y :: r, h => by
    rw [join_two, List.all_append, List.all_append, join_tame (y :: r) (by rw [List.all_cons] at h; simp only [Bool.and_eq_true] at h; exact h.2), tame_word (isWord_all (List.all_eq_true.1 h x (by simp)))]
    rfl
theorem tame_not {s : List UInt8} (h : s.all tame = true) {c : UInt8} (hc : tame c = false) : c ∉ s := by
  intro hm
  have := List.all_eq_true.1 h c hm
  rw [hc] at this; cases this
theorem doText_not {cs : List Cmd} (h : ∀ c ∈ cs, chk c = 0) {b : UInt8} (hb : tame b = false) (hb2 : b ≠ 124) : b ∉ doText cs := by
  unfold doText
  intro hm
  rw [List.mem_flatten] at hm
  obtain ⟨l, hl, hbl⟩ := hm
  obtain ⟨c, hc, rfl⟩ := List.mem_map.1 hl
  rw [List.mem_append] at hbl
  rcases hbl with h1 | h1
  · simp only [List.mem_cons, List.not_mem_nil, or_false] at h1
    rcases h1 with rfl | rfl | rfl
    · cases hb
    · exact hb2 rfl
    · cases hb
  · exact tame_not (printed_tame (h c hc)) hb h1
def rowOf (l : SLine) : List UInt8 := Lib.join l.fr [32] ++ doText l.cs ++ [32, 62, 32] ++ l.to
theorem rowText_eq (l : SLine) : rowText l = rowOf l ++ [10] := by
  unfold rowText rowOf
  simp [List.append_assoc]
theorem parse_row {x : SLine} (h : lchk x = 0) : parseLine (rowOf x) = some x := by
  obtain ⟨h1, h2, h3, h4, h5, h6⟩ := lchk_zero h
  have hj : ∀ b : UInt8, tame b = false → b ∉ Lib.join x.fr [32] := fun b hb => tame_not (join_tame _ h4) hb
  have hcut := cut_first (a := Lib.join x.fr [32] ++ doText x.cs) (b := x.to) (sep := [32, 62, 32]) (c := 62) (p := 1) rfl (no_ahead (by decide)) (by
      intro hm
      rcases List.mem_append.1 hm with hm | hm
      · exact hj 62 (by decide) hm
      · exact doText_not h6 (by decide) (by decide) hm)
  unfold parseLine rowOf
  simp only
  rw [hcut]
  simp only
  rw [if_neg (by simp), do_join, split_join (c := 124) (p := 1) rfl (no_ahead (by decide)) _ (by simp) (by
      intro y hy
      rw [List.mem_cons] at hy
      rcases hy with rfl | hy
      · exact hj 124 (by decide)
      · obtain ⟨c, hc, rfl⟩ := List.mem_map.1 hy
        exact tame_not (printed_tame (h6 c hc)) (by decide))]
  simp only
  rw [parseCmds_printed _ h6]
  simp only
  rw [split_join (c := 32) (p := 0) rfl (by intro q hq; omega) _ (by intro e; rw [e] at h1; simp at h1) (by
      intro y hy
      exact wordByte_not (isWord_all (List.all_eq_true.1 h4 y hy)) (by decide))]
theorem row_parse {row : List UInt8} {x : SLine} (h : parseLine row = some x) (hx : lchk x = 0) : rowOf x = row := by
  obtain ⟨h1, h2, h3, h4, h5, h6⟩ := lchk_zero hx
  unfold parseLine at h
  simp only at h
  split at h
  · cases h
  · rename_i ht
    have hs := cut_true (s := row) (sep := [32, 62, 32]) (by simpa using ht)
    split at h
    · cases h
    · rename_i p r hsp
      split at h
      · cases h
      · rename_i cs hcs
        injection h with h; subst h
        have hd := printed_parseCmds r cs hcs h6
        unfold rowOf
        simp only at *
        rw [do_join, hd, join_split (by simp) _ p (Nat.le_refl _), ← hsp, join_split (by simp) _ _ (Nat.le_refl _)]
        exact hs.symm
theorem rowOf_not {x : SLine} (h : lchk x = 0) : (10 : UInt8) ∉ rowOf x := by
  obtain ⟨h1, h2, h3, h4, h5, h6⟩ := lchk_zero h
  unfold rowOf
  intro hm
  rcases List.mem_append.1 hm with hm | hm
  · rcases List.mem_append.1 hm with hm | hm
    · rcases List.mem_append.1 hm with hm | hm
      · exact tame_not (join_tame _ h4) (by decide) hm
      · exact doText_not h6 (by decide) (by decide) hm
    · revert hm; decide
  · exact wordByte_not (isWord_all h5) (by decide) hm

/-! A script. -/
theorem parse_text : ∀ (ls : List SLine) (found : List SLine) (f : Nat), (∀ x ∈ ls, lchk x = 0) → (stext ls).length < f → parseRest f (stext ls) found = parseFin (found ++ ls)
  | [], found, f, _, hf => by
    cases f with
    | zero => omega
    | succ f => simp [stext, parseRest]
  | x :: r, found, f, h, hf => by
    have hst : stext (x :: r) = rowOf x ++ [10] ++ stext r := by
      unfold stext
      rw [List.map_cons, List.flatten_cons, rowText_eq]
    have hcut : Lib.cut (rowOf x ++ [10] ++ stext r) [10] = (rowOf x, stext r, true) := cut_first (c := 10) (p := 0) rfl (by intro q hq; omega) (rowOf_not (h x (by simp)))
    cases f with
    | zero => omega
    | succ f =>
      rw [hst] at hf ⊢
      rw [parseRest, if_neg (by simp), hcut]
      simp only
      rw [parse_row (h x (by simp))]
      simp only
      rw [if_pos (h x (by simp)), parse_text r _ f (fun y hy => h y (by simp [hy])) (by simp at hf; omega), List.append_assoc]
      rfl
theorem text_parse : ∀ (f : Nat) (rest : List UInt8) (found : List SLine), rest.length < f → (parseRest f rest found).2.2 = 0 → ∃ ys, (parseRest f rest found).1 = found ++ ys ∧ stext ys = rest ∧ schk (found ++ ys) = 0
  | 0, rest, found, hf, _ => by omega
  | f + 1, rest, found, hf, h => by
    unfold parseRest at h ⊢
    split
    · rename_i h0
      rw [if_pos h0] at h
      unfold parseFin at h ⊢
      split
      · rename_i h1
        exact ⟨[], by simp, by rw [h0]; rfl, by simpa using h1⟩
      · rename_i h1
        rw [if_neg h1] at h
        exact absurd h h1
    · rename_i h0
      rw [if_neg h0] at h
      split
      · rename_i x hb hx
        rw [hb, hx] at h
        simp only at h
        split
        · rename_i hl
          rw [if_pos hl] at h
          have hs := cut_true hb
          have hlen := congrArg List.length hs
          simp at hlen
          obtain ⟨ys, e1, e2, e3⟩ := text_parse f _ _ (by omega) h
          refine ⟨x :: ys, by rw [e1]; simp, ?_, by simpa using e3⟩
          unfold stext at e2 ⊢
          rw [List.map_cons, List.flatten_cons, e2, rowText_eq, row_parse hx hl]
          exact hs.symm
        · rename_i hl
          rw [if_neg hl] at h
          exact absurd h hl
      · rename_i hno
        split at h
        · rename_i x hb hx
          exact absurd hx (hno x hb)
        · simp at h
theorem schk_zero {ls : List SLine} (h : schk ls = 0) : ls.length ≤ 6 ∧ ∀ x ∈ ls, lchk x = 0 := by
  unfold schk at h
  split at h
  · cases h
  · exact ⟨by omega, fun x hx => (firstBad_zero _).1 h _ (List.mem_map.2 ⟨x, hx, rfl⟩)⟩
theorem schk_of {ls : List SLine} (h1 : ls.length ≤ 6) (h2 : ∀ x ∈ ls, lchk x = 0) : schk ls = 0 := by
  unfold schk
  rw [if_neg (by omega), firstBad_zero]
  intro e he
  obtain ⟨x, hx, rfl⟩ := List.mem_map.1 he
  exact h2 x hx
theorem read_printed {ls : List SLine} (h : schk ls = 0) (hl : (stext ls).length ≤ 8000) : parseS (stext ls) = (ls, 0, 0) := by
  unfold parseS
  rw [if_neg (by omega), parse_text ls [] _ (schk_zero h).2 (by omega)]
  unfold parseFin
  rw [List.nil_append, if_pos h]
theorem text_inj {a b : List SLine} (ha : schk a = 0) (hb : schk b = 0) (h : stext a = stext b) : a = b := by
  have h1 := parse_text a [] ((stext a).length + 1) (schk_zero ha).2 (by omega)
  have h2 := parse_text b [] ((stext b).length + 1) (schk_zero hb).2 (by omega)
  rw [h, h2] at h1
  unfold parseFin at h1
  rw [List.nil_append, List.nil_append, if_pos ha, if_pos hb] at h1
  injection h1 with h1
  exact h1.symm
theorem printed_read {s : List UInt8} (h : (parseS s).2.2 = 0) : schk (parseS s).1 = 0 ∧ stext (parseS s).1 = s := by
  unfold parseS at h ⊢
  split
  · rename_i h1
    rw [if_pos h1] at h; cases h
  · rename_i h1
    rw [if_neg h1] at h
    obtain ⟨ys, e1, e2, e3⟩ := text_parse _ s [] (by omega) h
    rw [List.nil_append] at e1 e3
    rw [e1]
    exact ⟨e3, e2⟩
theorem stext_append (a b : List SLine) : stext (a ++ b) = stext a ++ stext b := by simp [stext]
theorem schk_take {ls : List SLine} (h : schk ls = 0) (k : Nat) : schk (ls.take k) = 0 := by
  obtain ⟨h1, h2⟩ := schk_zero h
  exact schk_of (by rw [List.length_take]; omega) (fun x hx => h2 x (List.mem_of_mem_take hx))
theorem schk_drop {ls : List SLine} (h : schk ls = 0) (k : Nat) : schk (ls.drop k) = 0 := by
  obtain ⟨h1, h2⟩ := schk_zero h
  exact schk_of (by rw [List.length_drop]; omega) (fun x hx => h2 x (List.mem_of_mem_drop hx))

end Go.Gs
