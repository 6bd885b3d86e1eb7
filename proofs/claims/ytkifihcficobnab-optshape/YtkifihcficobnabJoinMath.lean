/- Joins within joins, plainly: no walk. -/
import Derived.Test.YtkifihcficobnabJoinPlain
namespace Go.Gs
open Go.RowKit
set_option linter.unusedVariables false

theorem again_flatten (c : Cmd) (hk : c.kind = 7 ∨ c.kind = 9 ∨ c.kind = 10) (ps : List (List (List UInt8))) : made c (ps.map (made c)).flatten = made c ps.flatten := by
  rcases hk with e | e | e
  · have e2 : made c = Lib.compact := funext (made7 c e)
    rw [e2]; exact compact_flatten ps
  · have e2 : made c = List.take c.n.toNat := funext (made9 c e)
    rw [e2]; exact take_flatten _ ps _ (Nat.le_refl _)
  · have e2 : made c = lastOf c.n.toNat := funext (made10 c e)
    rw [e2]; exact last_flatten _ ps
theorem again_idem (c : Cmd) (hk : c.kind = 7 ∨ c.kind = 9 ∨ c.kind = 10) (X : List (List UInt8)) : made c (made c X) = made c X := by
  have := again_flatten c hk [X]
  simpa using this
theorem again_left (c : Cmd) (hk : c.kind = 7 ∨ c.kind = 9 ∨ c.kind = 10) (X Y : List (List UInt8)) : made c (made c X ++ Y) = made c (X ++ Y) := by
  have h1 := again_flatten c hk [made c X, Y]
  have h2 := again_flatten c hk [X, Y]
  simp only [List.map_cons, List.map_nil, List.flatten_cons, List.flatten_nil, List.append_nil] at h1 h2
  rw [← h1, again_idem c hk, h2]
theorem again_right (c : Cmd) (hk : c.kind = 7 ∨ c.kind = 9 ∨ c.kind = 10) (X Y : List (List UInt8)) : made c (X ++ made c Y) = made c (X ++ Y) := by
  have h1 := again_flatten c hk [X, made c Y]
  have h2 := again_flatten c hk [X, Y]
  simp only [List.map_cons, List.map_nil, List.flatten_cons, List.flatten_nil, List.append_nil] at h1 h2
  rw [← h1, again_idem c hk, h2]

def Srt (l : List (List UInt8)) : Prop := l.Pairwise (fun x y => x ≤ y)
theorem merge_two {A B : List (List UInt8)} (hA : Srt A) (hB : Srt B) : mergeOf [A, B] = sortOf (A ++ B) := by
  rw [mergeOf_sorted _ (by intro p hp; simp at hp; rcases hp with rfl | rfl <;> assumption)]
  simp
theorem merge_three {A B D : List (List UInt8)} (hA : Srt A) (hB : Srt B) (hD : Srt D) : mergeOf [A, B, D] = sortOf (A ++ (B ++ D)) := by
  rw [mergeOf_sorted _ (by intro p hp; simp at hp; rcases hp with rfl | rfl | rfl <;> assumption)]
  simp
theorem merge_comm {A B : List (List UInt8)} (hA : Srt A) (hB : Srt B) : mergeOf [A, B] = mergeOf [B, A] := by
  rw [merge_two hA hB, merge_two hB hA]
  exact sortOf_congr List.perm_append_comm

theorem sumOf_two (A B : List (List UInt8)) : sumOf [A, B] = headNum A + headNum B := by simp [sumOf]
theorem sumOf_three (A B D : List (List UInt8)) : sumOf [A, B, D] = headNum A + headNum B + headNum D := by simp [sumOf]; omega
theorem headNum_itoa (n : Nat) (h : n ≤ 4000) : headNum [Lib.itoa (n : Int)] = n := by
  unfold headNum
  rw [List.head?_cons, Option.map_some, Option.getD_some, numOf_itoa n h]

/-- Joined two by two: as joined at once. -/
theorem nest_left (how : Int) (c : Cmd) (A B D : List (List UInt8)) (h2 : how = 2 → Srt A ∧ Srt B ∧ Srt D) (h3 : how = 3 → sumOf [A, B, D] ≤ 4000) (h4 : how = 4 → c.kind = 7 ∨ c.kind = 9 ∨ c.kind = 10) :
    joined how c [joined how c [A, B], D] = joined how c [A, B, D] := by
  unfold joined
  by_cases e2 : how = 2
  · obtain ⟨hA, hB, hD⟩ := h2 e2
    rw [if_pos e2, if_pos e2, if_pos e2, merge_two hA hB, merge_two (sortOf_sorted _) hD, merge_three hA hB hD]
    apply sortOf_congr
    have := (sortOf_perm (A ++ B)).append_right D
    rwa [List.append_assoc] at this
  · rw [if_neg e2, if_neg e2, if_neg e2]
    by_cases e3 : how = 3
    · have h := h3 e3
      rw [if_pos e3, if_pos e3, if_pos e3]
      rw [sumOf_three] at h ⊢
      rw [sumOf_two, sumOf_two, headNum_itoa _ (by omega)]
    · rw [if_neg e3, if_neg e3, if_neg e3]
      by_cases e4 : how = 4
      · rw [if_pos e4, if_pos e4, if_pos e4]
        have := again_left c (h4 e4) (A ++ B) D
        simpa using this
      · rw [if_neg e4, if_neg e4, if_neg e4]
        simp
theorem nest_right (how : Int) (c : Cmd) (A B D : List (List UInt8)) (h2 : how = 2 → Srt A ∧ Srt B ∧ Srt D) (h3 : how = 3 → sumOf [A, B, D] ≤ 4000) (h4 : how = 4 → c.kind = 7 ∨ c.kind = 9 ∨ c.kind = 10) :
    joined how c [A, joined how c [B, D]] = joined how c [A, B, D] := by
  unfold joined
  by_cases e2 : how = 2
  · obtain ⟨hA, hB, hD⟩ := h2 e2
    rw [if_pos e2, if_pos e2, if_pos e2, merge_two hB hD, merge_two hA (sortOf_sorted _), merge_three hA hB hD]
    exact sortOf_congr ((sortOf_perm (B ++ D)).append_left A)
  · rw [if_neg e2, if_neg e2, if_neg e2]
    by_cases e3 : how = 3
    · have h := h3 e3
      rw [if_pos e3, if_pos e3, if_pos e3]
      rw [sumOf_three] at h ⊢
      rw [sumOf_two, sumOf_two, headNum_itoa _ (by omega), Nat.add_assoc]
    · rw [if_neg e3, if_neg e3, if_neg e3]
      by_cases e4 : how = 4
      · rw [if_pos e4, if_pos e4, if_pos e4]
        have := again_right c (h4 e4) A (B ++ D)
        simpa using this
      · rw [if_neg e4, if_neg e4, if_neg e4]
        simp

/-! ### What join.Do answers: the error, and the bytes -/

def jErr (how : Int) (c : Cmd) (bss : List (List UInt8)) : Int := if jchk how c ≠ 0 then jchk how c else if 5 < bss.length ∨ 4000 < bss.flatten.length then 2 else 0
def jOut (how : Int) (c : Cmd) (bss : List (List UInt8)) : List UInt8 := ended (joined how c (bss.map lines))

theorem joined_len (how : Int) (c : Cmd) (hc : how = 4 → chk c = 0) (ps : List (List (List UInt8))) (hl : ps.flatten.length ≤ 9999) (h5 : ps.length ≤ 5) : (ended (joined how c ps)).length ≤ (ended ps.flatten).length + 6 := by
  unfold joined
  split
  · have := ended_len_perm (mergeOf_perm ps); omega
  · split
    · have h1 := sumOf_le ps
      have h2 : (Lib.itoa ((sumOf ps : Nat) : Int)).length ≤ 5 := by
        unfold Lib.itoa
        rw [if_neg (by omega)]
        exact decDigits_len 4 _ (by simp; omega)
      simp [ended]
      omega
    · split
      · rename_i h4
        have := made_len c (hc h4) ps.flatten hl
        omega
      · omega
theorem flat_lines_len (bss : List (List UInt8)) : (ended (bss.map lines).flatten).length ≤ bss.flatten.length + bss.length := by
  induction bss with
  | nil => simp [ended]
  | cons b bss ih =>
    have := ended_lines b
    simp only [List.map_cons, List.flatten_cons, ended_append, List.length_append, List.length_cons]
    omega
theorem flat_lines_count (bss : List (List UInt8)) : (bss.map lines).flatten.length ≤ bss.flatten.length := by
  induction bss with
  | nil => simp
  | cons b bss ih =>
    have := lines_length b
    simp only [List.map_cons, List.flatten_cons, List.length_append]
    omega
theorem jOut_len (how : Int) (c : Cmd) (hc : how = 4 → chk c = 0) (bss : List (List UInt8)) (hb : bss.flatten.length ≤ 9999) (h5 : bss.length ≤ 5) : (jOut how c bss).length ≤ bss.flatten.length + 11 := by
  unfold jOut
  have h1 := joined_len how c hc (bss.map lines) (by have := flat_lines_count bss; omega) (by simpa using h5)
  have h2 := flat_lines_len bss
  omega
theorem lines_jOut (how : Int) (c : Cmd) (hc : how = 4 → chk c = 0) (bss : List (List UInt8)) : lines (jOut how c bss) = joined how c (bss.map lines) := by
  unfold jOut
  apply lines_ended
  apply joined_noFeed how c hc
  intro p hp
  obtain ⟨b, _, rfl⟩ := List.mem_map.1 hp
  exact lines_noFeed b
theorem jchk_chk {how : Int} {c : Cmd} (h : jchk how c = 0) : how = 4 → chk c = 0 := by
  intro e
  unfold jchk at h
  rw [if_neg (by omega), if_pos e] at h
  exact h
theorem lines_doOut (c : Cmd) (hc : chk c = 0) (b : List UInt8) : lines (doOut c b) = made c (lines b) := lines_ended _ (made_noFeed c hc _ (lines_noFeed b))

/-- What JoinWhole says. -/
theorem whole_says (c : Cmd) (hc : chk c = 0) (again : Cmd) (ha : howFor c.kind = 4 → again = c) (bss : List (List UInt8)) (hb : bss.flatten.length ≤ 4000) : jOut (howFor c.kind) again (bss.map (doOut c)) = doOut c (ended (bss.map lines).flatten) := by
  have e : joined (howFor c.kind) again ((bss.map (doOut c)).map lines) = joined (howFor c.kind) c ((bss.map lines).map (made c)) := by
    have e1 : (bss.map (doOut c)).map lines = (bss.map lines).map (made c) := by
      rw [List.map_map, List.map_map]
      apply List.map_congr_left
      intro b _
      exact lines_doOut c hc b
    rw [e1]
    by_cases h4 : howFor c.kind = 4
    · rw [ha h4]
    · unfold joined
      rw [if_neg h4, if_neg h4]
  unfold jOut
  rw [e, join_whole c hc]
  · unfold doOut
    rw [lines_ended]
    intro s hs
    obtain ⟨p, hp, hsp⟩ := List.mem_flatten.1 hs
    obtain ⟨b, _, rfl⟩ := List.mem_map.1 hp
    exact lines_noFeed b s hsp
  · intro p hp
    obtain ⟨b, hb', rfl⟩ := List.mem_map.1 hp
    have h1 := lines_length b
    have h2 : b.length ≤ bss.flatten.length := by
      obtain ⟨s, t, rfl⟩ := List.append_of_mem hb'
      simp
      omega
    omega

theorem nest_says_left (how : Int) (c : Cmd) (hc : jchk how c = 0) (a b d : List UInt8) (h2 : how = 2 → Srt (lines a) ∧ Srt (lines b) ∧ Srt (lines d)) (h3 : how = 3 → sumOf [lines a, lines b, lines d] ≤ 4000) (h4 : how = 4 → c.kind = 7 ∨ c.kind = 9 ∨ c.kind = 10) :
    jOut how c [jOut how c [a, b], d] = jOut how c [a, b, d] := by
  have e := lines_jOut how c (jchk_chk hc) [a, b]
  unfold jOut at e ⊢
  simp only [List.map_cons, List.map_nil] at e ⊢
  rw [e, nest_left how c _ _ _ h2 h3 h4]
theorem nest_says_right (how : Int) (c : Cmd) (hc : jchk how c = 0) (a b d : List UInt8) (h2 : how = 2 → Srt (lines a) ∧ Srt (lines b) ∧ Srt (lines d)) (h3 : how = 3 → sumOf [lines a, lines b, lines d] ≤ 4000) (h4 : how = 4 → c.kind = 7 ∨ c.kind = 9 ∨ c.kind = 10) :
    jOut how c [a, jOut how c [b, d]] = jOut how c [a, b, d] := by
  have e := lines_jOut how c (jchk_chk hc) [b, d]
  unfold jOut at e ⊢
  simp only [List.map_cons, List.map_nil] at e ⊢
  rw [e, nest_right how c _ _ _ h2 h3 h4]
end Go.Gs
