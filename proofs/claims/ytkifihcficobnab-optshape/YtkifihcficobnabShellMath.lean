/- What is put is got; a script in two runs; commands in two lines: no walk. -/
import Derived.Test.YtkifihcficobnabShellPlain
import Derived.Test.YtkifihcficobnabScriptMath
namespace Go.Gs
open Go.RowKit
set_option linter.unusedVariables false

/-! Right files. -/
theorem fbad_zero {p : Option (List UInt8)} {f : SFile} (h : fbad p f = 0) : isWord f.name = true ∧ f.b.length ≤ 4000 ∧ ∀ q, p = some q → q < f.name := by
  unfold fbad at h
  split at h
  · cases h
  · split at h
    · cases h
    · rename_i h1 h2
      refine ⟨by simpa using h1, by omega, ?_⟩
      intro q hq
      subst hq
      simp only at h
      split at h
      · assumption
      · cases h
theorem fbad_of {p : Option (List UInt8)} {f : SFile} (h1 : isWord f.name = true) (h2 : f.b.length ≤ 4000) (h3 : ∀ q, p = some q → q < f.name) : fbad p f = 0 := by
  unfold fbad
  rw [if_neg (by simp [h1]), if_neg (by omega)]
  cases p with
  | none => rfl
  | some q => simp only; rw [if_pos (h3 q rfl)]
theorem fbad_none {p : Option (List UInt8)} {f : SFile} (h : fbad p f = 0) : fbad none f = 0 := by
  obtain ⟨h1, h2, _⟩ := fbad_zero h
  exact fbad_of h1 h2 (by intro q hq; cases hq)
theorem fbad_ne {p : Option (List UInt8)} {f : SFile} : fbad p f = 0 ∨ fbad p f = 1 ∨ fbad p f = 2 ∨ fbad p f = 6 := by
  unfold fbad
  split
  · simp
  · split
    · simp
    · split
      · simp
      · split <;> simp
theorem from_cons {p : Option (List UInt8)} {f : SFile} {r : List SFile} : fchkFrom p (f :: r) = 0 ↔ fbad p f = 0 ∧ fchkFrom (some f.name) r = 0 := by
  rw [fchkFrom]
  split
  · rename_i h; simp [h]
  · rename_i h; simp [h]
theorem from_weak {p : Option (List UInt8)} : ∀ {l : List SFile}, fchkFrom p l = 0 → fchkFrom none l = 0
  | [], _ => rfl
  | f :: r, h => by
    rw [from_cons] at h ⊢
    exact ⟨fbad_none h.1, h.2⟩
/-- All names are above the one ahead. -/
theorem from_above : ∀ {l : List SFile} {q : List UInt8}, fchkFrom (some q) l = 0 → ∀ f ∈ l, q < f.name
  | [], _, _, f, hf => by cases hf
  | g :: r, q, h, f, hf => by
    rw [from_cons] at h
    have h1 := (fbad_zero h.1).2.2 q rfl
    rw [List.mem_cons] at hf
    rcases hf with rfl | hf
    · exact h1
    · exact List.lt_trans h1 (from_above h.2 f hf)
theorem lt_ne {a b : List UInt8} (h : a < b) : a ≠ b := by
  rintro rfl
  exact List.lt_irrefl a h
theorem fileOf_cons (f : SFile) (r : List SFile) (n : List UInt8) : fileOf (f :: r) n = if f.name = n then f.b else fileOf r n := by
  unfold fileOf
  by_cases h : f.name = n
  · simp [h]
  · rw [List.find?_cons_of_neg (by simp [h]), if_neg h]
theorem fileOf_none : ∀ {l : List SFile} {n : List UInt8}, (∀ f ∈ l, f.name ≠ n) → fileOf l n = []
  | [], _, _ => rfl
  | f :: r, n, h => by
    rw [fileOf_cons, if_neg (h f (by simp)), fileOf_none (fun g hg => h g (by simp [hg]))]
theorem fileOf_mem : ∀ {l : List SFile} {p : Option (List UInt8)}, fchkFrom p l = 0 → ∀ f ∈ l, fileOf l f.name = f.b
  | [], _, _, f, hf => by cases hf
  | g :: r, p, h, f, hf => by
    rw [from_cons] at h
    rw [List.mem_cons] at hf
    rw [fileOf_cons]
    rcases hf with rfl | hf
    · rw [if_pos rfl]
    · rw [if_neg (lt_ne (from_above h.2 f hf)), fileOf_mem h.2 f hf]

/-! Put. -/
theorem put_get : ∀ (l : List SFile) (n b : List UInt8), fileOf (putF l n b) n = b
  | [], n, b => by rw [putF, fileOf_cons, if_pos rfl]
  | f :: r, n, b => by
    rw [putF]
    split
    · rw [fileOf_cons, if_pos rfl]
    · rename_i h
      split
      · rw [fileOf_cons, if_pos rfl]
      · rw [fileOf_cons, if_neg h, put_get r n b]
theorem put_other : ∀ (l : List SFile) (n b m : List UInt8), m ≠ n → fileOf (putF l n b) m = fileOf l m
  | [], n, b, m, h => by rw [putF, fileOf_cons, if_neg (fun e => h e.symm)]
  | f :: r, n, b, m, h => by
    rw [putF]
    split
    · rename_i hf
      rw [fileOf_cons, fileOf_cons, if_neg (fun e => h e.symm), if_neg (fun e => h (e.symm.trans hf))]
    · split
      · rw [fileOf_cons, if_neg (fun e => h e.symm)]
      · rw [fileOf_cons, fileOf_cons, put_other r n b m h]
theorem not_lt_eq {a b : List UInt8} (h1 : ¬ a < b) (h2 : ¬ b = a) : b < a := by
  have h3 : b ≤ a := List.not_lt.1 h1
  by_cases h : b < a
  · exact h
  · exact absurd (List.le_antisymm h3 (List.not_lt.1 h)) h2
theorem put_right : ∀ (l : List SFile) (p : Option (List UInt8)) (n b : List UInt8), fchkFrom p l = 0 → isWord n = true → b.length ≤ 4000 → (∀ q, p = some q → q < n) → fchkFrom p (putF l n b) = 0
  | [], p, n, b, _, hn, hb, hp => by
    rw [putF, from_cons]
    exact ⟨fbad_of hn hb hp, rfl⟩
  | f :: r, p, n, b, h, hn, hb, hp => by
    rw [from_cons] at h
    obtain ⟨h1, h2, h3⟩ := fbad_zero h.1
    rw [putF]
    split
    · rename_i hf
      rw [from_cons]
      exact ⟨fbad_of hn hb hp, by rw [hf] at h; exact h.2⟩
    · rename_i hf
      split
      · rename_i hlt
        rw [from_cons, from_cons]
        exact ⟨fbad_of hn hb hp, fbad_of h1 h2 (by intro q hq; injection hq with hq; subst hq; exact hlt), h.2⟩
      · rename_i hlt
        rw [from_cons]
        refine ⟨h.1, put_right r _ n b h.2 hn hb ?_⟩
        intro q hq
        injection hq with hq
        subst hq
        exact not_lt_eq hlt hf
theorem from_sorted : ∀ {l : List SFile} {p : Option (List UInt8)}, fchkFrom p l = 0 → l.Pairwise (fun f g => f.name < g.name)
  | [], _, _ => List.Pairwise.nil
  | f :: r, p, h => by
    rw [from_cons] at h
    exact List.Pairwise.cons (from_above h.2) (from_sorted h.2)
theorem put_perm : ∀ (l : List SFile) (p : Option (List UInt8)) (n b : List UInt8), fchkFrom p l = 0 → (putF l n b).Perm (l.filter (fun f => f.name != n) ++ [⟨n, b⟩])
  | [], p, n, b, _ => by simp [putF]
  | f :: r, p, n, b, h => by
    rw [from_cons] at h
    rw [putF]
    split
    · rename_i hf
      have hr : r.filter (fun f => f.name != n) = r := List.filter_eq_self.2 (fun g hg => by
        have := from_above h.2 g hg
        rw [hf] at this
        simpa using (lt_ne this).symm)
      rw [List.filter_cons_of_neg (by simp [hf]), hr]
      exact (List.perm_append_singleton _ _).symm
    · rename_i hf
      rw [List.filter_cons_of_pos (by simpa using hf)]
      split
      · rename_i hlt
        have hr : r.filter (fun f => f.name != n) = r := List.filter_eq_self.2 (fun g hg => by
          have := List.lt_trans hlt (from_above h.2 g hg)
          simpa using (lt_ne this).symm)
        rw [hr]
        exact (List.perm_append_singleton _ _).symm
      · exact (put_perm r _ n b h.2).cons f
/-- The one order that rises by name. -/
theorem put_unique {l d : List SFile} {n b : List UInt8} (h : fchkFrom none l = 0) (hn : isWord n = true) (hb : b.length ≤ 4000) (hd : d.Perm (l.filter (fun f => f.name != n) ++ [⟨n, b⟩])) (hs : d.Pairwise (fun f g => f.name ≤ g.name)) : d = putF l n b := by
  have hp := put_perm l none n b h
  have hsp := from_sorted (put_right l none n b h hn hb (by intro q hq; cases hq))
  refine (hd.trans hp.symm).eq_of_pairwise (le := fun f g => f.name ≤ g.name) ?_ hs (hsp.imp (fun h => List.le_of_lt h))
  intro f g hf hg h1 h2
  have e : f.name = g.name := List.le_antisymm h1 h2
  have hf' := (hd.trans hp.symm).mem_iff.1 hf
  have hfb := fileOf_mem (put_right l none n b h hn hb (by intro q hq; cases hq)) f hf'
  have hgb := fileOf_mem (put_right l none n b h hn hb (by intro q hq; cases hq)) g hg
  rw [e, hgb] at hfb
  obtain ⟨f1, f2⟩ := f
  obtain ⟨g1, g2⟩ := g
  simp only at e hfb
  rw [e, hfb]
theorem put_length {l : List SFile} {n b : List UInt8} (h : fchkFrom none l = 0) : (putF l n b).length = (l.filter (fun f => f.name != n)).length + 1 := by
  have := (put_perm l none n b h).length_eq
  simpa using this
theorem fchk_zero {l : List SFile} (h : fchk l = 0) : l.length ≤ 12 ∧ fchkFrom none l = 0 := by
  unfold fchk at h
  split at h
  · cases h
  · exact ⟨by omega, h⟩
theorem fchk_of {l : List SFile} (h1 : l.length ≤ 12) (h2 : fchkFrom none l = 0) : fchk l = 0 := by
  unfold fchk
  rw [if_neg (by omega), h2]
theorem putS_zero {l : List SFile} {n b : List UInt8} (h : (putS l n b).2 = 0) : isWord n = true ∧ b.length ≤ 4000 ∧ (putF l n b).length ≤ 12 ∧ (putS l n b).1 = putF l n b := by
  unfold putS at h ⊢
  split at h
  · cases h
  · split at h
    · cases h
    · split at h
      · cases h
      · rename_i h1 h2 h3
        rw [if_neg h1, if_neg h2, if_neg h3]
        exact ⟨by simpa using h1, by omega, by omega, rfl⟩
theorem putS_right {l : List SFile} {n b : List UInt8} (hl : fchk l = 0) (h : (putS l n b).2 = 0) : fchk (putS l n b).1 = 0 := by
  obtain ⟨h1, h2, h3, h4⟩ := putS_zero h
  rw [h4]
  exact fchk_of h3 (put_right l none n b (fchk_zero hl).2 h1 h2 (by intro q hq; cases hq))

/-! A script in two runs; what it doesn't write stays. -/
theorem run_append : ∀ (a : List SLine) (l : List SFile) (b : List SLine), (runL l a).2 = 0 → runL l (a ++ b) = runL (runL l a).1 b
  | [], l, b, _ => rfl
  | x :: r, l, b, h => by
    rw [runL] at h
    rw [List.cons_append, runL]
    conv => rhs; rw [runL]
    split at h
    · rename_i h1
      split at h
      · rename_i h2
        rw [if_pos h1, if_pos h2, if_pos h1, if_pos h2]
        exact run_append r _ b h
      · rename_i h2; exact absurd h h2
    · rename_i h1; exact absurd h h1
theorem run_first : ∀ (a : List SLine) (l : List SFile) (b : List SLine), (runL l (a ++ b)).2 = 0 → (runL l a).2 = 0
  | [], l, b, _ => rfl
  | x :: r, l, b, h => by
    rw [List.cons_append, runL] at h
    rw [runL]
    split at h
    · rename_i h1
      split at h
      · rename_i h2
        rw [if_pos h1, if_pos h2]
        exact run_first r _ b h
      · rename_i h2; exact absurd h h2
    · rename_i h1; exact absurd h h1
theorem run_right : ∀ (s : List SLine) (l : List SFile), fchk l = 0 → (runL l s).2 = 0 → fchk (runL l s).1 = 0
  | [], l, h, _ => h
  | x :: r, l, h, hr => by
    rw [runL] at hr ⊢
    split at hr
    · rename_i h1
      split at hr
      · rename_i h2
        rw [if_pos h1, if_pos h2]
        exact run_right r _ (putS_right h h2) hr
      · rename_i h2; exact absurd hr h2
    · rename_i h1; exact absurd hr h1
theorem run_stays : ∀ (s : List SLine) (l : List SFile) (m : List UInt8), (runL l s).2 = 0 → (∀ x ∈ s, x.to ≠ m) → fileOf (runL l s).1 m = fileOf l m
  | [], l, m, _, _ => rfl
  | x :: r, l, m, hr, hm => by
    rw [runL] at hr ⊢
    split at hr
    · rename_i h1
      split at hr
      · rename_i h2
        rw [if_pos h1, if_pos h2, run_stays r _ m hr (fun y hy => hm y (by simp [hy])), (putS_zero h2).2.2.2, put_other _ _ _ _ (fun e => hm x (by simp) e.symm)]
      · rename_i h2; exact absurd hr h2
    · rename_i h1; exact absurd hr h1

/-! Whole lines. -/
def whole (b : List UInt8) : Prop := ended (lines b) = b
theorem whole_ended {l : List (List UInt8)} (h : ∀ s ∈ l, (10 : UInt8) ∉ s) : whole (ended l) := by unfold whole; rw [lines_ended l h]
theorem whole_nil : whole [] := rfl
theorem whole_append {a : List UInt8} (h : whole a) (l : List (List UInt8)) (hl : ∀ s ∈ l, (10 : UInt8) ∉ s) : whole (a ++ ended l) := by
  have e : a ++ ended l = ended (lines a ++ l) := by rw [ended_append, h]
  rw [e]
  refine whole_ended (fun s hs => ?_)
  rcases List.mem_append.1 hs with hs | hs
  · exact lines_noFeed a s hs
  · exact hl s hs
theorem gatherL_whole (l : List SFile) : ∀ (fr : List (List UInt8)) (acc : List UInt8), whole acc → acc.length ≤ 4000 → whole (gatherL l fr acc).1 ∧ (gatherL l fr acc).1.length ≤ 4000
  | [], acc, h, hl => ⟨h, hl⟩
  | s :: r, acc, h, hl => by
    rw [gatherL]
    split
    · exact ⟨whole_nil, by simp⟩
    · rename_i h1
      exact gatherL_whole l r _ (whole_append h _ (lines_noFeed _)) (by omega)
theorem gather_whole (l : List SFile) (fr : List (List UInt8)) : whole (gather l fr).1 ∧ (gather l fr).1.length ≤ 4000 := by
  unfold gather
  split
  · exact ⟨whole_nil, by simp⟩
  · exact gatherL_whole l fr [] whole_nil (by simp)
theorem one_whole {c : Cmd} (hc : chk c = 0) {b : List UInt8} : whole (ended (made c (lines b))) := whole_ended (made_noFeed c hc _ (lines_noFeed b))
theorem made_small (c : Cmd) (h : chk c = 0) (ls : List (List UInt8)) (hl : ls.length ≤ 4000) : (ended (made c ls)).length ≤ max (ended ls).length 6 := by
  have hk := chk_kinds c h
  have : c.kind = 1 ∨ c.kind = 2 ∨ c.kind = 3 ∨ c.kind = 4 ∨ c.kind = 5 ∨ c.kind = 6 ∨ c.kind = 7 ∨ c.kind = 8 ∨ c.kind = 9 ∨ c.kind = 10 := by omega
  rcases this with e | e | e | e | e | e | e | e | e | e
  · rw [made1 c e]; have := ended_len_sub (List.filter_sublist (p := fun s => Lib.contains s c.word) (l := ls)); omega
  · rw [made2 c e]; have := ended_len_sub (List.filter_sublist (p := fun s => !Lib.contains s c.word) (l := ls)); omega
  · rw [made3 c e]; have := ended_len_map (swapOf (c.word.getD 0 0) (c.word.getD 1 0)) (fun s => by simp [swapOf]) ls; omega
  · rw [made4 c e]; have := ended_len_map (fieldOf c.n) (fieldOf_len c.n) ls; omega
  · rw [made5 c e]; have := ended_len_map List.reverse (fun s => by simp) ls; omega
  · rw [made6 c e]; have := ended_len_perm (sortOf_perm ls); omega
  · rw [made7 c e]; have := ended_len_sub (compact_sub ls); omega
  · rw [made8 c e]; have := itoa_len ls.length (by omega); simp [ended]; omega
  · rw [made9 c e]; have := ended_len_sub (List.take_sublist c.n.toNat ls); omega
  · rw [made10 c e]; have := ended_len_sub (List.drop_sublist (ls.length - c.n.toNat) ls); omega
theorem doAll_whole : ∀ (cs : List Cmd) (b : List UInt8), (∀ c ∈ cs, chk c = 0) → whole b → b.length ≤ 4000 → whole (doAll cs b) ∧ (doAll cs b).length ≤ 4000
  | [], b, _, h, hl => ⟨h, hl⟩
  | c :: r, b, hc, h, hl => by
    have h1 := made_small c (hc c (by simp)) (lines b) (by have := lines_length b; omega)
    have h2 : (ended (lines b)).length = b.length := by rw [h]
    have e : doAll (c :: r) b = doAll r (ended (made c (lines b))) := rfl
    rw [e]
    exact doAll_whole r _ (fun d hd => hc d (by simp [hd])) (one_whole (hc c (by simp))) (by omega)
theorem doAll_append (a b : List Cmd) (x : List UInt8) : doAll (a ++ b) x = doAll b (doAll a x) := by simp [doAll]

/-! Commands in two lines; other files. -/
theorem gather_one {n m : List UInt8} (v1 : whole m) (v2 : m.length ≤ 4000) : gather [⟨n, m⟩] [n] = (m, 0) := by
  have hf : fileOf [⟨n, m⟩] n = m := by rw [fileOf_cons, if_pos rfl]
  unfold gather
  rw [if_neg (by simp), gatherL, hf, v1, List.nil_append, if_neg (by omega)]
  rfl
theorem line_two {l : List SFile} {x : SLine} {n : List UInt8} (k : Nat) (hc : ∀ c ∈ x.cs, chk c = 0) (h : (lineOf l x).2 = 0) :
    (lineOf l ⟨x.fr, x.cs.take k, x.to⟩).2 = 0 ∧ (lineOf l ⟨x.fr, x.cs.take k, x.to⟩).1.length ≤ 4000 ∧ lineOf [⟨n, (lineOf l ⟨x.fr, x.cs.take k, x.to⟩).1⟩] ⟨[n], x.cs.drop k, x.to⟩ = ((lineOf l x).1, 0) := by
  unfold lineOf at h
  split at h
  · rename_i hg
    obtain ⟨w1, w2⟩ := gather_whole l x.fr
    have e1 : lineOf l ⟨x.fr, x.cs.take k, x.to⟩ = (doAll (x.cs.take k) (gather l x.fr).1, 0) := by unfold lineOf; simp only; rw [if_pos hg]
    have e2 : lineOf l x = (doAll x.cs (gather l x.fr).1, 0) := by unfold lineOf; rw [if_pos hg]
    obtain ⟨v1, v2⟩ := doAll_whole (x.cs.take k) _ (fun c hc' => hc c (List.mem_of_mem_take hc')) w1 w2
    rw [e1, e2]
    refine ⟨rfl, v2, ?_⟩
    have e3 := gather_one (n := n) v1 v2
    unfold lineOf
    simp only
    rw [e3]
    simp only [if_true]
    rw [← doAll_append, List.take_append_drop]
  · rename_i hg; exact absurd h hg
theorem gatherL_same {l m : List SFile} : ∀ (fr : List (List UInt8)) (acc : List UInt8), (∀ s ∈ fr, fileOf l s = fileOf m s) → gatherL l fr acc = gatherL m fr acc
  | [], acc, _ => rfl
  | s :: r, acc, h => by
    rw [gatherL, gatherL, h s (by simp), gatherL_same r _ (fun t ht => h t (by simp [ht]))]
theorem line_same {l m : List SFile} {x : SLine} (h : ∀ s ∈ x.fr, fileOf l s = fileOf m s) : lineOf l x = lineOf m x := by
  have e : gather l x.fr = gather m x.fr := by unfold gather; rw [gatherL_same x.fr [] h]
  unfold lineOf
  rw [e]
theorem fileOf_filter : ∀ {l : List SFile} {q : SFile → Bool} {s : List UInt8}, (∀ f, f.name = s → q f = true) → fileOf (l.filter q) s = fileOf l s
  | [], _, _, _ => rfl
  | f :: r, q, s, h => by
    by_cases hf : q f = true
    · rw [List.filter_cons_of_pos hf, fileOf_cons, fileOf_cons, fileOf_filter h]
    · rw [List.filter_cons_of_neg hf, fileOf_cons, if_neg (fun e => hf (h f e)), fileOf_filter h]
theorem from_of_sorted : ∀ {l : List SFile} {p : Option (List UInt8)}, (∀ f ∈ l, isWord f.name = true ∧ f.b.length ≤ 4000) → l.Pairwise (fun f g => f.name < g.name) → (∀ q, p = some q → ∀ f ∈ l, q < f.name) → fchkFrom p l = 0
  | [], _, _, _, _ => rfl
  | f :: r, p, h1, h2, h3 => by
    rw [from_cons]
    rw [List.pairwise_cons] at h2
    exact ⟨fbad_of (h1 f (by simp)).1 (h1 f (by simp)).2 (fun q hq => h3 q hq f (by simp)), from_of_sorted (fun g hg => h1 g (by simp [hg])) h2.2 (by intro q hq; injection hq with hq; subst hq; exact h2.1)⟩
theorem from_all : ∀ {l : List SFile} {p : Option (List UInt8)}, fchkFrom p l = 0 → ∀ f ∈ l, isWord f.name = true ∧ f.b.length ≤ 4000
  | [], _, _, f, hf => by cases hf
  | g :: r, p, h, f, hf => by
    rw [from_cons] at h
    rw [List.mem_cons] at hf
    rcases hf with rfl | hf
    · exact ⟨(fbad_zero h.1).1, (fbad_zero h.1).2.1⟩
    · exact from_all h.2 f hf
theorem filter_right {l : List SFile} {q : SFile → Bool} (h : fchk l = 0) : fchk (l.filter q) = 0 := by
  obtain ⟨h1, h2⟩ := fchk_zero h
  refine fchk_of (Nat.le_trans (List.length_filter_le _ _) h1) (from_of_sorted (fun f hf => from_all h2 f ((List.mem_filter.1 hf).1)) ((from_sorted h2).filter _) (by intro q hq; cases hq))
end Go.Gs
