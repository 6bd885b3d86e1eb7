/- Plain facts on what commands make: no walk. -/
import Derived.Test.YtkifihcficobnaaDoorCmdMade
namespace Go.Gs
open Go.RowKit
set_option linter.unusedVariables false

/-! ### How long -/

theorem ended_len_sub {l m : List (List UInt8)} (h : l.Sublist m) : (ended l).length ≤ (ended m).length := by
  induction h with
  | slnil => exact Nat.le_refl _
  | cons a _ ih => rw [ended_cons]; simp; omega
  | cons_cons a _ ih => rw [ended_cons, ended_cons]; simp; omega

theorem ended_len_perm {l m : List (List UInt8)} (h : l.Perm m) : (ended l).length = (ended m).length := by
  induction h with
  | nil => rfl
  | cons a _ ih => rw [ended_cons, ended_cons]; simp; omega
  | swap a b l => simp only [ended_cons, List.length_append]; omega
  | trans _ _ h1 h2 => exact h1.trans h2

theorem ended_len_map (f : List UInt8 → List UInt8) (hf : ∀ s, (f s).length ≤ s.length) (l : List (List UInt8)) : (ended (l.map f)).length ≤ (ended l).length := by
  induction l with
  | nil => exact Nat.le_refl _
  | cons s l ih =>
    have := hf s
    rw [List.map_cons, ended_cons, ended_cons]
    simp
    omega

theorem splitK_len (sep : List UInt8) : ∀ (k : Nat) (s : List UInt8), ∀ p ∈ Lib.splitK sep 0 k s, p.length ≤ s.length := by
  intro k
  induction k with
  | zero => intro s p hp; simp [Lib.splitK] at hp; subst hp; exact Nat.le_refl _
  | succ k ih =>
    intro s p hp
    unfold Lib.splitK at hp
    split at hp
    · simp at hp; subst hp; exact Nat.le_refl _
    · simp only [List.mem_cons] at hp
      rcases hp with rfl | hp
      · simp; omega
      · have := ih _ p hp
        simp at this
        omega

theorem fieldOf_len (n : Int) (s : List UInt8) : (fieldOf n s).length ≤ s.length := by
  unfold fieldOf
  cases h : (Lib.split s [32])[(n - 1).toNat]? with
  | none => simp
  | some p => exact splitK_len _ _ _ p (List.mem_of_getElem? h)

theorem splitK_noFeed (sep : List UInt8) : ∀ (k : Nat) (s : List UInt8), (10 : UInt8) ∉ s → ∀ p ∈ Lib.splitK sep 0 k s, (10 : UInt8) ∉ p := by
  intro k
  induction k with
  | zero => intro s hs p hp; simp [Lib.splitK] at hp; subst hp; exact hs
  | succ k ih =>
    intro s hs p hp
    unfold Lib.splitK at hp
    split at hp
    · simp at hp; subst hp; exact hs
    · simp only [List.mem_cons] at hp
      rcases hp with rfl | hp
      · exact fun h => hs (List.mem_of_mem_take h)
      · exact ih _ (fun h => hs (List.mem_of_mem_drop h)) p hp

theorem decDigits_len : ∀ (k u : Nat), u < 10 ^ (k + 1) → (Lib.decDigits u).length ≤ k + 1 := by
  intro k
  induction k with
  | zero => intro u h; rw [Lib.decDigits, dif_pos (by simpa using h)]; simp
  | succ k ih =>
    intro u h
    rw [Lib.decDigits]
    split
    · simp
    · have := ih (u / 10) (by rw [Nat.div_lt_iff_lt_mul (by omega)]; rw [Nat.pow_succ] at h; exact h)
      simp
      omega

theorem itoa_len (n : Nat) (h : n ≤ 9999) : (Lib.itoa (n : Int)).length ≤ 4 := by
  unfold Lib.itoa
  rw [if_neg (by omega)]
  exact decDigits_len 3 _ (by simp; omega)

theorem compact_sub (l : List (List UInt8)) : (Lib.compact l).Sublist l := by
  unfold Lib.compact Lib.compactUpTo
  have h := (List.filter_sublist (p := Lib.keeps l.toArray) (l := List.range l.length)).map (fun j => l.toArray[j]!)
  have e := Lib.range_map_get l.toArray
  simp only [List.size_toArray] at e
  rw [e] at h
  exact h

theorem chk_le {c : Cmd} (h : chk c = 0) (hk : c.kind = 3) : c.word.length = 2 ∧ c.word.all wordByte = true := by
  unfold chk at h
  have hu : uses c.kind = 1 := by rw [hk]; rfl
  rw [hu] at h
  by_cases hw : isWord c.word = false
  · simp [hw] at h
    split at h <;> cases h
  · by_cases h2 : c.word.length = 2
    · refine ⟨h2, ?_⟩
      have : isWord c.word = true := by simpa using hw
      unfold isWord at this
      simp at this
      simpa using this.2
    · simp [hk, h2] at h
      split at h <;> cases h

/-- How long what is made is, each line ended. -/
theorem made_len (c : Cmd) (h : chk c = 0) (ls : List (List UInt8)) (hl : ls.length ≤ 9999) : (ended (made c ls)).length ≤ (ended ls).length + 5 := by
  have hk := chk_kinds c h
  have : c.kind = 1 ∨ c.kind = 2 ∨ c.kind = 3 ∨ c.kind = 4 ∨ c.kind = 5 ∨ c.kind = 6 ∨ c.kind = 7 ∨ c.kind = 8 ∨ c.kind = 9 ∨ c.kind = 10 := by omega
  rcases this with e | e | e | e | e | e | e | e | e | e
  · rw [made1 c e]; have := ended_len_sub (List.filter_sublist (p := fun s => Lib.contains s c.word) (l := ls)); omega
  · rw [made2 c e]; have := ended_len_sub (List.filter_sublist (p := fun s => !Lib.contains s c.word) (l := ls)); omega
  · rw [made3 c e]; have := ended_len_map (swapOf (c.word.getD 0 0) (c.word.getD 1 0)) (fun s => by simp [swapOf]) ls; omega
  · rw [made4 c e]; have := ended_len_map (fieldOf c.n) (fieldOf_len c.n) ls; omega
  · rw [made5 c e]; have := ended_len_map List.reverse (fun s => by simp) ls; omega
  · rw [made6 c e]; have := ended_len_perm (sortOf_perm ls); omega
  · rw [made7 c e]; have := ended_len_sub (compact_sub ls); omega
  · rw [made8 c e]; have := itoa_len ls.length hl; simp [ended]; omega
  · rw [made9 c e]; have := ended_len_sub (List.take_sublist c.n.toNat ls); omega
  · rw [made10 c e]; have := ended_len_sub (List.drop_sublist (ls.length - c.n.toNat) ls); omega

theorem doOut_len (c : Cmd) (h : chk c = 0) (b : List UInt8) (hb : b.length ≤ 9999) : (doOut c b).length ≤ b.length + 6 := by
  unfold doOut
  have h1 := made_len c h (lines b) (by have := lines_length b; omega)
  have h2 := ended_lines b
  omega

/-! ### Twice -/

theorem noFeed_sub {l m : List (List UInt8)} (h : l.Sublist m) (hm : ∀ s ∈ m, (10 : UInt8) ∉ s) : ∀ s ∈ l, (10 : UInt8) ∉ s := fun s hs => hm s (h.subset hs)

theorem compact_chain (d : Array (List UInt8)) : ∀ m, (∀ j, 0 < j → j < (Lib.compactUpTo d m).length → (Lib.compactUpTo d m)[j]! ≠ (Lib.compactUpTo d m)[j - 1]!) ∧ (0 < m → (Lib.compactUpTo d m).getLast? = some d[m - 1]!) := by
  intro m
  induction m with
  | zero => exact ⟨fun j _ hj => by simp [Lib.compactUpTo] at hj, fun h => absurd h (by omega)⟩
  | succ m ih =>
    rw [Lib.compactUpTo_succ]
    by_cases hk : Lib.keeps d m = true
    · rw [if_pos hk]
      refine ⟨fun j hj hlt => ?_, fun _ => by simp⟩
      simp only [List.length_append, List.length_cons, List.length_nil] at hlt
      by_cases hjl : j < (Lib.compactUpTo d m).length
      · have := ih.1 j hj hjl
        simpa [List.getElem!_eq_getElem?_getD, List.getElem?_append_left hjl, List.getElem?_append_left (show j - 1 < (Lib.compactUpTo d m).length by omega)] using this
      · have hje : j = (Lib.compactUpTo d m).length := by omega
        have hm : 0 < m := by
          rcases Nat.eq_zero_or_pos m with rfl | h
          · simp [Lib.compactUpTo] at hje; omega
          · exact h
        have hlast := ih.2 hm
        rw [List.getLast?_eq_getElem?, ← hje] at hlast
        have e1 : (Lib.compactUpTo d m ++ [d[m]!])[j]! = d[m]! := by simp [hje]
        have e2 : (Lib.compactUpTo d m ++ [d[m]!])[j - 1]! = d[m - 1]! := by
          rw [List.getElem!_eq_getElem?_getD, List.getElem?_append_left (by omega), hlast]
          rfl
        rw [e1, e2]
        have := of_decide_eq_true hk
        rcases this with h | h
        · omega
        · exact h
    · rw [if_neg hk, List.append_nil]
      have hk' : ¬ (m = 0 ∨ d[m]! ≠ d[m - 1]!) := fun h => hk (decide_eq_true h)
      simp only [not_or, Decidable.not_not] at hk'
      refine ⟨ih.1, fun _ => ?_⟩
      rw [ih.2 (by omega)]
      simp [hk'.2]

theorem compact_idem (l : List (List UInt8)) : Lib.compact (Lib.compact l) = Lib.compact l := by
  apply Lib.compact_all
  intro j hj
  unfold Lib.keeps
  apply decide_eq_true
  by_cases h0 : j = 0
  · exact .inl h0
  · refine .inr ?_
    have := (compact_chain l.toArray l.length).1 j (by omega) hj
    simpa [Lib.compact] using this

theorem twice_same (c : Cmd) (h : chk c = 0) (hk : c.kind = 6 ∨ c.kind = 7 ∨ c.kind = 1 ∨ c.kind = 2 ∨ c.kind = 9 ∨ c.kind = 10) (b : List UInt8) : doOut c (doOut c b) = doOut c b := by
  unfold doOut
  have hn := lines_noFeed b
  generalize lines b = ls at hn
  rcases hk with e | e | e | e | e | e
  · simp only [made6 c e]
    rw [lines_ended _ (fun s hs => hn s ((sortOf_perm ls).mem_iff.1 hs)), sortOf_idem]
  · simp only [made7 c e]
    rw [lines_ended _ (noFeed_sub (compact_sub ls) hn), compact_idem]
  · simp only [made1 c e]
    rw [lines_ended _ (noFeed_sub List.filter_sublist hn)]
    simp
  · simp only [made2 c e]
    rw [lines_ended _ (noFeed_sub List.filter_sublist hn)]
    simp
  · simp only [made9 c e]
    rw [lines_ended _ (noFeed_sub (List.take_sublist _ _) hn), List.take_take, Nat.min_self]
  · simp only [made10 c e]
    rw [lines_ended _ (noFeed_sub (List.drop_sublist _ _) hn)]
    rw [List.length_drop, show ls.length - (ls.length - c.n.toNat) - c.n.toNat = 0 by omega]
    simp

theorem twice_turn (c : Cmd) (e : c.kind = 5) (b : List UInt8) : doOut c (doOut c b) = ended (lines b) := by
  unfold doOut
  have hn := lines_noFeed b
  generalize lines b = ls at hn
  simp only [made5 c e]
  rw [lines_ended _ (fun s hs => by
    obtain ⟨t, ht, rfl⟩ := List.mem_map.1 hs
    simpa using hn t ht)]
  rw [List.map_map, show (List.reverse ∘ List.reverse : List UInt8 → List UInt8) = id from funext fun s => List.reverse_reverse s, List.map_id]

theorem mem_ended {x : UInt8} {l : List (List UInt8)} (h : x ∈ ended l) : x = 10 ∨ ∃ s ∈ l, x ∈ s := by
  unfold ended at h
  simp only [List.mem_flatten, List.mem_map] at h
  obtain ⟨t, ⟨s, hs, rfl⟩, hx⟩ := h
  simp at hx
  rcases hx with hx | hx
  · exact .inr ⟨s, hs, hx⟩
  · exact .inl hx

theorem swap_gone (c : Cmd) (h : chk c = 0) (e : c.kind = 3) (hne : c.word.getD 0 0 ≠ c.word.getD 1 0) (b : List UInt8) : c.word.getD 0 0 ∉ doOut c b := by
  intro hm
  unfold doOut at hm
  rw [made3 c e] at hm
  obtain ⟨h2, hw⟩ := chk_le h e
  rcases mem_ended hm with hx | ⟨s, hs, hx⟩
  · have : wordByte (c.word.getD 0 0) = true := by
      match hc : c.word, h2, hw with
      | [x, y], _, hw => simp at hw; simpa using hw.1
    rw [hx] at this
    exact absurd this (by decide)
  · obtain ⟨t, ht, rfl⟩ := List.mem_map.1 hs
    unfold swapOf at hx
    obtain ⟨y, hy, hxy⟩ := List.mem_map.1 hx
    split at hxy
    · exact hne hxy.symm
    · rename_i hne'
      exact hne' hxy

theorem bad_zero (l : List (List UInt8)) : ∀ room, (ended l).length ≤ room → (∀ s ∈ l, (10 : UInt8) ∉ s) → bad room l = 0 := by
  induction l with
  | nil => intro room _ _; rfl
  | cons s l ih =>
    intro room h hn
    rw [ended_cons] at h
    simp only [List.length_append, List.length_cons, List.length_nil] at h
    unfold bad
    rw [if_neg (hn s (by simp)), if_neg (by omega)]
    exact ih _ (by omega) (fun t ht => hn t (by simp [ht]))

theorem sort_turned (c : Cmd) (e : c.kind = 6) (b : List UInt8) (k : Nat) : doOut c (ended ((lines b).drop k ++ (lines b).take k)) = doOut c b := by
  unfold doOut
  have hn := lines_noFeed b
  generalize lines b = ls at hn
  have hp : (ls.drop k ++ ls.take k).Perm ls := List.perm_append_comm.trans (by rw [List.take_append_drop])
  rw [lines_ended _ (fun s hs => hn s (hp.mem_iff.1 hs)), made6 c e, made6 c e, sortOf_congr hp]

/-! ### Parts -/

theorem keep_drop (p : List UInt8 → Bool) (ls : List (List UInt8)) : sortOf (ls.filter p ++ ls.filter (fun s => !p s)) = sortOf ls := sortOf_congr (List.filter_append_perm p ls)
theorem keep_drop_len (p : List UInt8 → Bool) (ls : List (List UInt8)) : (ls.filter p ++ ls.filter (fun s => !p s)).length = ls.length := (List.filter_append_perm p ls).length_eq
theorem sortOf_len (ls : List (List UInt8)) : (sortOf ls).length = ls.length := (sortOf_perm ls).length_eq

end Go.Gs
