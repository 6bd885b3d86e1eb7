/- Plain facts on bytes and lines, and on slices that can be read: no walk. Commands, plainly: no walk. What a right command makes of lines, plainly: no walk. Plain facts on what commands make: no walk. The closed facts that the sentences ask for, plainly: no walk. Joins, plainly: no walk. Joins within joins, plainly: no walk. A number's numeral is read back: no walk. Scripts, plainly: no walk. Files and what a script makes of them, plainly: no walk. Graphs, plainly: no walk. Slices of commands and of lines of a script that can be read: no walk. Slices of files that can be read: no walk. Slices of ports and of nodes that can be read: no walk. Graphs: how much comes of what, what hangs on what. Graphs: how much there is at the ports; on which files a graph hangs. Graphs: what is at a node, what is at a port. The closed graph of the laws, plainly. Plans, plainly: no walk. Files in a row of one's own: no walk. Nodes in a row of one's own, beside a box of two cells: no walk. Two laws at operations on a map that the call makes: a literal's entry; a look-up of a string. What is put out line by line, kind by kind: no walk. What the reference reckons, told by the same plain functions: no walk. A region that draws its order, walked by what every operation keeps. -/
import Derived.WalkKit
import Derived.Lib.Split
import Derived.Lib.SplitLaws
import Derived.Lib.ItoaNum
import Derived.Lib.IndexMore
import Derived.Lib.SlicesCompact
import Derived.Lib.AtoiAllCases
import Derived.Lib.Join
import Derived.Laws.AppendOwn
import Derived.Laws.OwnMore
import Derived.Laws.CopyRow
import Derived.Deep.Slices
import Derived.Maps.Own
import Derived.Maps.OwnOps
import Derived.Maps.Views
import Derived.Maps.StringElems
import Derived.Lib.IndexBytes
import Derived.Lib.IndexLaws
import Derived.Orders
namespace Go.Gs
open Go.RowKit

/-! ### Bytes and lines -/

def U (c : UInt8) : Value := .int .u8 (c.toNat : Int)
def S (l : List UInt8) : Value := .string ⟨l.toArray⟩

/-- The lines of what is left, where 'cur' is what has been met of the line at hand. -/
def linesAux (cur : List UInt8) : List UInt8 → List (List UInt8)
  | [] => if cur = [] then [] else [cur]
  | c :: r => if c = 10 then cur :: linesAux [] r else linesAux (cur ++ [c]) r

def lines (b : List UInt8) : List (List UInt8) := linesAux [] b

def ended (l : List (List UInt8)) : List UInt8 := (l.map (fun s => s ++ [10])).flatten

theorem ended_nil : ended [] = [] := rfl
theorem ended_cons (s : List UInt8) (l : List (List UInt8)) : ended (s :: l) = s ++ [10] ++ ended l := by simp [ended]
theorem ended_append (a b : List (List UInt8)) : ended (a ++ b) = ended a ++ ended b := by simp [ended]

theorem linesAux_length (r : List UInt8) : ∀ cur, (linesAux cur r).length ≤ r.length + (if cur = [] then 0 else 1) := by
  induction r with
  | nil => intro cur; unfold linesAux; split <;> simp_all
  | cons c r ih =>
    intro cur
    unfold linesAux
    split
    · have := ih []
      simp only [List.length_cons, if_true] at *
      split <;> omega
    · have := ih (cur ++ [c])
      simp only [List.length_cons, List.append_eq_nil_iff, List.cons_ne_nil, and_false, if_false] at *
      split <;> omega

theorem lines_length (b : List UInt8) : (lines b).length ≤ b.length := by
  have := linesAux_length b []
  simpa [lines] using this

theorem linesAux_noFeed (r : List UInt8) : ∀ cur, (10 ∉ cur) → ∀ s ∈ linesAux cur r, (10 : UInt8) ∉ s := by
  induction r with
  | nil => intro cur h s hs; unfold linesAux at hs; split at hs <;> simp_all
  | cons c r ih =>
    intro cur h s hs
    unfold linesAux at hs
    split at hs
    · simp only [List.mem_cons] at hs
      rcases hs with rfl | hs
      · exact h
      · exact ih [] (by simp) s hs
    · exact ih (cur ++ [c]) (by simp_all [eq_comm]) s hs

theorem lines_noFeed (b : List UInt8) : ∀ s ∈ lines b, (10 : UInt8) ∉ s := linesAux_noFeed b [] (by simp)

/-- A line without a line feed in it, then its end. -/
theorem linesAux_line (s : List UInt8) : ∀ (cur r : List UInt8), (10 : UInt8) ∉ s → linesAux cur (s ++ 10 :: r) = (cur ++ s) :: linesAux [] r := by
  induction s with
  | nil => intro cur r _; simp [linesAux]
  | cons c s ih =>
    intro cur r h
    simp only [List.mem_cons, not_or] at h
    rw [List.cons_append, linesAux, if_neg (fun e => h.1 e.symm), ih _ _ h.2]
    simp

theorem lines_ended (l : List (List UInt8)) (h : ∀ s ∈ l, (10 : UInt8) ∉ s) : lines (ended l) = l := by
  induction l with
  | nil => simp [ended, lines, linesAux]
  | cons s l ih =>
    have hs := h s (by simp)
    have := ih (fun t ht => h t (by simp [ht]))
    rw [ended_cons, List.append_assoc]
    show linesAux [] (s ++ 10 :: ended l) = _
    rw [linesAux_line s [] _ hs]
    simpa [lines] using this

theorem ended_last (l : List (List UInt8)) (h : ended l ≠ []) : (ended l).getLast h = 10 := by
  induction l with
  | nil => exact absurd rfl h
  | cons s l ih =>
    simp only [ended_cons] at h ⊢
    by_cases e : ended l = []
    · simp [e]
    · rw [List.getLast_append_of_ne_nil _ e]; exact ih e

/-- How long lines are, each ended: at most one more than what they came from. -/
theorem ended_linesAux (r : List UInt8) : ∀ cur, (ended (linesAux cur r)).length ≤ cur.length + r.length + 1 := by
  induction r with
  | nil => intro cur; unfold linesAux; split <;> simp_all [ended]
  | cons c r ih =>
    intro cur
    unfold linesAux
    split
    · have := ih []
      simp only [ended_cons, List.length_append, List.length_cons, List.length_nil] at *
      omega
    · have := ih (cur ++ [c])
      simp only [List.length_append, List.length_cons, List.length_nil] at *
      omega

theorem ended_lines (b : List UInt8) : (ended (lines b)).length ≤ b.length + 1 := by
  have := ended_linesAux b []
  simpa [lines] using this

theorem ended_length_sub (l : List (List UInt8)) (i j : Nat) : (ended ((l.take j).drop i)).length ≤ (ended l).length := by
  have h1 : (ended (l.take j)).length ≤ (ended l).length := by
    conv => rhs; rw [← List.take_append_drop j l, ended_append]
    simp
  have h2 : (ended ((l.take j).drop i)).length ≤ (ended (l.take j)).length := by
    conv => rhs; rw [← List.take_append_drop i (l.take j), ended_append]
    simp
  omega

theorem ended_length_ge (l : List (List UInt8)) : l.length ≤ (ended l).length := by
  induction l with
  | nil => simp
  | cons s l ih => rw [ended_cons]; simp; omega

/-! ### What Bytes answers: 0, 4 (ErrForm), 2 (ErrMany) -/

def bad : Nat → List (List UInt8) → Int
  | _, [] => 0
  | room, s :: r => if (10 : UInt8) ∈ s then 4 else if room ≤ s.length then 2 else bad (room - (s.length + 1)) r

theorem bad_ok (l : List (List UInt8)) : ∀ room, bad room l = 0 → (ended l).length ≤ room ∧ ∀ s ∈ l, (10 : UInt8) ∉ s := by
  induction l with
  | nil => intro room _; simp [ended]
  | cons s l ih =>
    intro room h
    unfold bad at h
    split at h
    · cases h
    · split at h
      · cases h
      · have := ih _ h
        rw [ended_cons]
        simp only [List.length_append, List.length_cons, List.length_nil, List.mem_cons] at *
        refine ⟨by omega, ?_⟩
        rintro t (rfl | ht)
        · assumption
        · exact this.2 t ht

theorem bad_cases (l : List (List UInt8)) : ∀ room, bad room l = 0 ∨ bad room l = 2 ∨ bad room l = 4 := by
  induction l with
  | nil => intro room; simp [bad]
  | cons s l ih => intro room; unfold bad; split; simp; split; simp; exact ih _

/-! ### Slices that can be read -/

/-- 'v' is a slice of so many elements of one cell each; they read as 'xs'. -/
def Reads (w : World) (v : Value) (n : Nat) (xs : List Value) : Prop :=
  xs.length = n ∧ ∃ ao cap, v = .slice ao n cap ∧ n ≤ cap ∧ cap ≤ maxLen ∧
    (n ≠ 0 → ∃ b off, ao = some ⟨b, off, none⟩ ∧ ∀ j u, xs[j]? = some u → w.cell? ⟨b, off + j, none⟩ = some u)

theorem Reads.of_owns {w : World} {base : Nat} {e : TypeId} {v : Value} {n : Nat} {xs : List Value} (h : w.ownsRow base e 1 v n xs) : Reads w v n xs := by
  have hl : xs.length = n := by simpa using h.1
  refine ⟨hl, ?_⟩
  rcases h.2 with ⟨rfl, rfl⟩ | ⟨g, cap, cur, rfl, hb, hg, h1, h2, h3, h4⟩
  · exact ⟨none, 0, rfl, Nat.le_refl _, by simp, fun h => absurd rfl h⟩
  · refine ⟨_, cap, rfl, h1, h2, fun _ => ⟨g, 0, rfl, fun j u hu => ?_⟩⟩
    have := h.cells (g := g) rfl j u hu
    have hadd : (⟨g, 0, none⟩ : Addr).add j = ⟨g, 0 + j, none⟩ := by unfold Addr.add; split <;> simp_all
    rwa [hadd] at this

theorem Reads.below {w w' : World} {v : Value} {n : Nat} {xs : List Value} (h : Reads w v n xs) (hb : Below w.heap.size w w') : Reads w' v n xs := by
  obtain ⟨h1, ao, cap, rfl, h2, h3, h4⟩ := h
  refine ⟨h1, ao, cap, rfl, h2, h3, fun hn => ?_⟩
  obtain ⟨b, off, rfl, hc⟩ := h4 hn
  exact ⟨b, off, rfl, fun j u hu => (hb.cell (World.block_lt_of_cell? w _ (hc j u hu))).trans (hc j u hu)⟩

theorem Reads.setCell {w : World} {v : Value} {n : Nat} {xs : List Value} (h : Reads w v n xs) {a : Addr} {old : Value} (ha : w.cell? a = some old) (x : Value) (hne : old ∉ xs) : Reads (w.setCell a x) v n xs := by
  obtain ⟨h1, ao, cap, rfl, h2, h3, h4⟩ := h
  refine ⟨h1, ao, cap, rfl, h2, h3, fun hn => ?_⟩
  obtain ⟨b, off, rfl, hc⟩ := h4 hn
  refine ⟨b, off, rfl, fun j u hu => ?_⟩
  have hcu := hc j u hu
  have hd : a ≠ ⟨b, off + j, none⟩ := by
    rintro rfl
    rw [hcu] at ha
    cases ha
    exact hne (List.mem_of_getElem? hu)
  rw [← hcu]
  exact World.cell?_setCell_other _ _ _ _ hd

end Go.Gs
namespace Go.Gs
open Go.RowKit

structure Cmd where
  kind : Int
  word : List UInt8
  n : Int

def Cmd.v (c : Cmd) : Value := .agg #[.int .i64 c.kind, .string ⟨c.word.toArray⟩, .int .i64 c.n]

def wordByte (c : UInt8) : Bool := (97 ≤ c.toNat && c.toNat ≤ 122) || (48 ≤ c.toNat && c.toNat ≤ 57)
def isWord (s : List UInt8) : Bool := decide (0 < s.length) && decide (s.length ≤ 12) && s.all wordByte

/-- Which part of a command its kind uses: 0: it is none; 1: the word; 2: the number; 3: neither. -/
def uses (k : Int) : Nat := if 1 ≤ k ∧ k ≤ 3 then 1 else if k = 4 ∨ k = 9 ∨ k = 10 then 2 else if 5 ≤ k ∧ k ≤ 8 then 3 else 0

/-- What Check answers: 0 OK, 1 ErrText, 3 ErrRange, 4 ErrForm. -/
def chk (c : Cmd) : Int :=
  if uses c.kind = 0 then 4
  else if (uses c.kind ≠ 1 ∧ c.word ≠ []) ∨ (uses c.kind ≠ 2 ∧ c.n ≠ 0) then 4
  else if uses c.kind = 2 ∧ (c.n < 1 ∨ 1000 < c.n) then 3
  else if uses c.kind = 1 ∧ (isWord c.word = false ∨ (c.kind = 3 ∧ c.word.length ≠ 2)) then 1
  else 0

def isEach (k : Int) : Bool := decide (1 ≤ k ∧ k ≤ 5)

end Go.Gs
namespace Go.Gs
open Go.RowKit
set_option linter.unusedVariables false

def swapOf (a b : UInt8) (s : List UInt8) : List UInt8 := s.map fun x => if x = a then b else x
def fieldOf (n : Int) (s : List UInt8) : List UInt8 := ((Lib.split s [32])[(n - 1).toNat]?).getD []
def sortOf (ls : List (List UInt8)) : List (List UInt8) := ls.mergeSort fun x y => decide (x ≤ y)

/-- What a right command makes of lines. -/
def made (c : Cmd) (ls : List (List UInt8)) : List (List UInt8) :=
  if c.kind = 1 then ls.filter (fun s => Lib.contains s c.word)
  else if c.kind = 2 then ls.filter (fun s => !Lib.contains s c.word)
  else if c.kind = 3 then ls.map (swapOf (c.word.getD 0 0) (c.word.getD 1 0))
  else if c.kind = 4 then ls.map (fieldOf c.n)
  else if c.kind = 5 then ls.map List.reverse
  else if c.kind = 6 then sortOf ls
  else if c.kind = 7 then Lib.compact ls
  else if c.kind = 8 then [Lib.itoa (ls.length : Int)]
  else if c.kind = 9 then ls.take c.n.toNat
  else ls.drop (ls.length - c.n.toNat)

/-- What Do answers: the error, and (if it is none) the bytes. -/
def doErr (c : Cmd) (b : List UInt8) : Int := if chk c ≠ 0 then chk c else if 4000 < b.length then 2 else 0
def doOut (c : Cmd) (b : List UInt8) : List UInt8 := ended (made c (lines b))

theorem made1 (c : Cmd) (h : c.kind = 1) (ls : List (List UInt8)) : made c ls = ls.filter (fun s => Lib.contains s c.word) := by simp [made, h]
theorem made2 (c : Cmd) (h : c.kind = 2) (ls : List (List UInt8)) : made c ls = ls.filter (fun s => !Lib.contains s c.word) := by simp [made, h]
theorem made3 (c : Cmd) (h : c.kind = 3) (ls : List (List UInt8)) : made c ls = ls.map (swapOf (c.word.getD 0 0) (c.word.getD 1 0)) := by simp [made, h]
theorem made4 (c : Cmd) (h : c.kind = 4) (ls : List (List UInt8)) : made c ls = ls.map (fieldOf c.n) := by simp [made, h]
theorem made5 (c : Cmd) (h : c.kind = 5) (ls : List (List UInt8)) : made c ls = ls.map List.reverse := by simp [made, h]
theorem made6 (c : Cmd) (h : c.kind = 6) (ls : List (List UInt8)) : made c ls = sortOf ls := by simp [made, h]
theorem made7 (c : Cmd) (h : c.kind = 7) (ls : List (List UInt8)) : made c ls = Lib.compact ls := by simp [made, h]
theorem made8 (c : Cmd) (h : c.kind = 8) (ls : List (List UInt8)) : made c ls = [Lib.itoa (ls.length : Int)] := by simp [made, h]
theorem made9 (c : Cmd) (h : c.kind = 9) (ls : List (List UInt8)) : made c ls = ls.take c.n.toNat := by simp [made, h]
theorem made10 (c : Cmd) (h : c.kind = 10) (ls : List (List UInt8)) : made c ls = ls.drop (ls.length - c.n.toNat) := by simp [made, h]

theorem chk_kinds (c : Cmd) (h : chk c = 0) : 1 ≤ c.kind ∧ c.kind ≤ 10 := by
  unfold chk at h
  split at h
  · cases h
  · rename_i hu
    unfold uses at hu
    split at hu
    · omega
    · split at hu
      · omega
      · split at hu
        · omega
        · exact absurd rfl hu

/-! ### Each -/

theorem made_append (c : Cmd) (h : isEach c.kind = true) (xs ys : List (List UInt8)) : made c (xs ++ ys) = made c xs ++ made c ys := by
  have hk : c.kind = 1 ∨ c.kind = 2 ∨ c.kind = 3 ∨ c.kind = 4 ∨ c.kind = 5 := by
    have := of_decide_eq_true h
    omega
  rcases hk with hk | hk | hk | hk | hk <;> simp [made, hk]

theorem lines_ended_append (l : List (List UInt8)) (b : List UInt8) (h : ∀ s ∈ l, (10 : UInt8) ∉ s) : lines (ended l ++ b) = l ++ lines b := by
  induction l with
  | nil => simp [ended]
  | cons s l ih =>
    have hs := h s (by simp)
    have := ih (fun t ht => h t (by simp [ht]))
    rw [ended_cons, List.append_assoc, List.append_assoc]
    show linesAux [] (s ++ 10 :: (ended l ++ b)) = _
    rw [linesAux_line s [] _ hs]
    simp only [List.nil_append, List.cons_append, List.cons.injEq, true_and]
    simpa [lines] using this

theorem doOut_append (c : Cmd) (h : isEach c.kind = true) (a b : List UInt8) : doOut c (ended (lines a) ++ b) = doOut c a ++ doOut c b := by
  unfold doOut
  rw [lines_ended_append _ _ (lines_noFeed a), made_append c h, ended_append]

/-! ### Order -/

theorem le_total' (x y : List UInt8) : (decide (x ≤ y) || decide (y ≤ x)) = true := by
  simp only [Bool.or_eq_true, decide_eq_true_eq]
  exact List.le_total x y
theorem le_trans' (x y z : List UInt8) (h1 : decide (x ≤ y) = true) (h2 : decide (y ≤ z) = true) : decide (x ≤ z) = true :=
  decide_eq_true (List.le_trans (of_decide_eq_true h1) (of_decide_eq_true h2))

theorem sortOf_perm (l : List (List UInt8)) : (sortOf l).Perm l := List.mergeSort_perm _ _
theorem sortOf_sorted (l : List (List UInt8)) : (sortOf l).Pairwise (fun x y => x ≤ y) := by
  have := List.pairwise_mergeSort (le := fun x y : List UInt8 => decide (x ≤ y)) le_trans' le_total' l
  exact this.imp (fun h => of_decide_eq_true h)

theorem sorted_unique : ∀ (l m : List (List UInt8)), l.Perm m → l.Pairwise (fun x y => x ≤ y) → m.Pairwise (fun x y => x ≤ y) → l = m := by
  intro l m hp hl hm
  exact hp.eq_of_pairwise (fun a b _ _ h1 h2 => List.le_antisymm h1 h2) hl hm

theorem sortOf_congr {l m : List (List UInt8)} (h : l.Perm m) : sortOf l = sortOf m :=
  sorted_unique _ _ (((sortOf_perm l).trans h).trans (sortOf_perm m).symm) (sortOf_sorted l) (sortOf_sorted m)
theorem sortOf_idem (l : List (List UInt8)) : sortOf (sortOf l) = sortOf l := sortOf_congr (sortOf_perm l)

end Go.Gs
namespace Go.Gs
open Go.RowKit
set_option linter.unusedVariables false

/-! ### How long -/

theorem ended_len_sub {l m : List (List UInt8)} (h : l.Sublist m) : (ended l).length ≤ (ended m).length := by
  induction h with
  | slnil => exact Nat.le_refl _
  | cons a _ ih => rw [ended_cons]; simp; omega
  | cons_cons a _ ih => rw [ended_cons, ended_cons]; simp; omega

theorem ended_len_perm {l m : List (List UInt8)} (h : l.Perm m) : (ended l).length = (ended m).length := by
  induction h with
  | nil => rfl
  | cons a _ ih => rw [ended_cons, ended_cons]; simp; omega
  | swap a b l => simp only [ended_cons, List.length_append]; omega
  | trans _ _ h1 h2 => exact h1.trans h2

theorem ended_len_map (f : List UInt8 → List UInt8) (hf : ∀ s, (f s).length ≤ s.length) (l : List (List UInt8)) : (ended (l.map f)).length ≤ (ended l).length := by
  induction l with
  | nil => exact Nat.le_refl _
  | cons s l ih =>
    have := hf s
    rw [List.map_cons, ended_cons, ended_cons]
    simp
    omega

theorem splitK_len (sep : List UInt8) : ∀ (k : Nat) (s : List UInt8), ∀ p ∈ Lib.splitK sep 0 k s, p.length ≤ s.length := by
  intro k
  induction k with
  | zero => intro s p hp; simp [Lib.splitK] at hp; subst hp; exact Nat.le_refl _
  | succ k ih =>
    intro s p hp
    unfold Lib.splitK at hp
    split at hp
    · simp at hp; subst hp; exact Nat.le_refl _
    · simp only [List.mem_cons] at hp
      rcases hp with rfl | hp
      · simp; omega
      · have := ih _ p hp
        simp at this
        omega

theorem fieldOf_len (n : Int) (s : List UInt8) : (fieldOf n s).length ≤ s.length := by
  unfold fieldOf
  cases h : (Lib.split s [32])[(n - 1).toNat]? with
  | none => simp
  | some p => exact splitK_len _ _ _ p (List.mem_of_getElem? h)

theorem splitK_noFeed (sep : List UInt8) : ∀ (k : Nat) (s : List UInt8), (10 : UInt8) ∉ s → ∀ p ∈ Lib.splitK sep 0 k s, (10 : UInt8) ∉ p := by
  intro k
  induction k with
  | zero => intro s hs p hp; simp [Lib.splitK] at hp; subst hp; exact hs
  | succ k ih =>
    intro s hs p hp
    unfold Lib.splitK at hp
    split at hp
    · simp at hp; subst hp; exact hs
    · simp only [List.mem_cons] at hp
      rcases hp with rfl | hp
      · exact fun h => hs (List.mem_of_mem_take h)
      · exact ih _ (fun h => hs (List.mem_of_mem_drop h)) p hp

theorem decDigits_len : ∀ (k u : Nat), u < 10 ^ (k + 1) → (Lib.decDigits u).length ≤ k + 1 := by
  intro k
  induction k with
  | zero => intro u h; rw [Lib.decDigits, dif_pos (by simpa using h)]; simp
  | succ k ih =>
    intro u h
    rw [Lib.decDigits]
    split
    · simp
    · have := ih (u / 10) (by rw [Nat.div_lt_iff_lt_mul (by omega)]; rw [Nat.pow_succ] at h; exact h)
      simp
      omega

theorem itoa_len (n : Nat) (h : n ≤ 9999) : (Lib.itoa (n : Int)).length ≤ 4 := by
  unfold Lib.itoa
  rw [if_neg (by omega)]
  exact decDigits_len 3 _ (by simp; omega)

theorem compact_sub (l : List (List UInt8)) : (Lib.compact l).Sublist l := by
  unfold Lib.compact Lib.compactUpTo
  have h := (List.filter_sublist (p := Lib.keeps l.toArray) (l := List.range l.length)).map (fun j => l.toArray[j]!)
  have e := Lib.range_map_get l.toArray
  simp only [List.size_toArray] at e
  rw [e] at h
  exact h

theorem chk_le {c : Cmd} (h : chk c = 0) (hk : c.kind = 3) : c.word.length = 2 ∧ c.word.all wordByte = true := by
  unfold chk at h
  have hu : uses c.kind = 1 := by rw [hk]; rfl
  rw [hu] at h
  by_cases hw : isWord c.word = false
  · simp [hw] at h
    split at h <;> cases h
  · by_cases h2 : c.word.length = 2
    · refine ⟨h2, ?_⟩
      have : isWord c.word = true := by simpa using hw
      unfold isWord at this
      simp at this
      simpa using this.2
    · simp [hk, h2] at h
      split at h <;> cases h

/-- How long what is made is, each line ended. -/
theorem made_len (c : Cmd) (h : chk c = 0) (ls : List (List UInt8)) (hl : ls.length ≤ 9999) : (ended (made c ls)).length ≤ (ended ls).length + 5 := by
  have hk := chk_kinds c h
  have : c.kind = 1 ∨ c.kind = 2 ∨ c.kind = 3 ∨ c.kind = 4 ∨ c.kind = 5 ∨ c.kind = 6 ∨ c.kind = 7 ∨ c.kind = 8 ∨ c.kind = 9 ∨ c.kind = 10 := by omega
  rcases this with e | e | e | e | e | e | e | e | e | e
  · rw [made1 c e]; have := ended_len_sub (List.filter_sublist (p := fun s => Lib.contains s c.word) (l := ls)); omega
  · rw [made2 c e]; have := ended_len_sub (List.filter_sublist (p := fun s => !Lib.contains s c.word) (l := ls)); omega
  · rw [made3 c e]; have := ended_len_map (swapOf (c.word.getD 0 0) (c.word.getD 1 0)) (fun s => by simp [swapOf]) ls; omega
  · rw [made4 c e]; have := ended_len_map (fieldOf c.n) (fieldOf_len c.n) ls; omega
  · rw [made5 c e]; have := ended_len_map List.reverse (fun s => by simp) ls; omega
  · rw [made6 c e]; have := ended_len_perm (sortOf_perm ls); omega
  · rw [made7 c e]; have := ended_len_sub (compact_sub ls); omega
  · rw [made8 c e]; have := itoa_len ls.length hl; simp [ended]; omega
  · rw [made9 c e]; have := ended_len_sub (List.take_sublist c.n.toNat ls); omega
  · rw [made10 c e]; have := ended_len_sub (List.drop_sublist (ls.length - c.n.toNat) ls); omega

theorem doOut_len (c : Cmd) (h : chk c = 0) (b : List UInt8) (hb : b.length ≤ 9999) : (doOut c b).length ≤ b.length + 6 := by
  unfold doOut
  have h1 := made_len c h (lines b) (by have := lines_length b; omega)
  have h2 := ended_lines b
  omega

/-! ### Twice -/

theorem noFeed_sub {l m : List (List UInt8)} (h : l.Sublist m) (hm : ∀ s ∈ m, (10 : UInt8) ∉ s) : ∀ s ∈ l, (10 : UInt8) ∉ s := fun s hs => hm s (h.subset hs)

theorem compact_chain (d : Array (List UInt8)) : ∀ m, (∀ j, 0 < j → j < (Lib.compactUpTo d m).length → (Lib.compactUpTo d m)[j]! ≠ (Lib.compactUpTo d m)[j - 1]!) ∧ (0 < m → (Lib.compactUpTo d m).getLast? = some d[m - 1]!) := by
  intro m
  induction m with
  | zero => exact ⟨fun j _ hj => by simp [Lib.compactUpTo] at hj, fun h => absurd h (by omega)⟩
  | succ m ih =>
    rw [Lib.compactUpTo_succ]
    by_cases hk : Lib.keeps d m = true
    · rw [if_pos hk]
      refine ⟨fun j hj hlt => ?_, fun _ => by simp⟩
      simp only [List.length_append, List.length_cons, List.length_nil] at hlt
      by_cases hjl : j < (Lib.compactUpTo d m).length
      · have := ih.1 j hj hjl
        simpa [List.getElem!_eq_getElem?_getD, List.getElem?_append_left hjl, List.getElem?_append_left (show j - 1 < (Lib.compactUpTo d m).length by omega)] using this
      · have hje : j = (Lib.compactUpTo d m).length := by omega
        have hm : 0 < m := by
          rcases Nat.eq_zero_or_pos m with rfl | h
          · simp [Lib.compactUpTo] at hje; omega
          · exact h
        have hlast := ih.2 hm
        rw [List.getLast?_eq_getElem?, ← hje] at hlast
        have e1 : (Lib.compactUpTo d m ++ [d[m]!])[j]! = d[m]! := by simp [hje]
        have e2 : (Lib.compactUpTo d m ++ [d[m]!])[j - 1]! = d[m - 1]! := by
          rw [List.getElem!_eq_getElem?_getD, List.getElem?_append_left (by omega), hlast]
          rfl
        rw [e1, e2]
        have := of_decide_eq_true hk
        rcases this with h | h
        · omega
        · exact h
    · rw [if_neg hk, List.append_nil]
      have hk' : ¬ (m = 0 ∨ d[m]! ≠ d[m - 1]!) := fun h => hk (decide_eq_true h)
      simp only [not_or, Decidable.not_not] at hk'
      refine ⟨ih.1, fun _ => ?_⟩
      rw [ih.2 (by omega)]
      simp [hk'.2]

theorem compact_idem (l : List (List UInt8)) : Lib.compact (Lib.compact l) = Lib.compact l := by
  apply Lib.compact_all
  intro j hj
  unfold Lib.keeps
  apply decide_eq_true
  by_cases h0 : j = 0
  · exact .inl h0
  · refine .inr ?_
    have := (compact_chain l.toArray l.length).1 j (by omega) hj
    simpa [Lib.compact] using this

theorem twice_same (c : Cmd) (h : chk c = 0) (hk : c.kind = 6 ∨ c.kind = 7 ∨ c.kind = 1 ∨ c.kind = 2 ∨ c.kind = 9 ∨ c.kind = 10) (b : List UInt8) : doOut c (doOut c b) = doOut c b := by
  unfold doOut
  have hn := lines_noFeed b
  generalize lines b = ls at hn
  rcases hk with e | e | e | e | e | e
  · simp only [made6 c e]
    rw [lines_ended _ (fun s hs => hn s ((sortOf_perm ls).mem_iff.1 hs)), sortOf_idem]
  · simp only [made7 c e]
    rw [lines_ended _ (noFeed_sub (compact_sub ls) hn), compact_idem]
  · simp only [made1 c e]
    rw [lines_ended _ (noFeed_sub List.filter_sublist hn)]
    simp
  · simp only [made2 c e]
    rw [lines_ended _ (noFeed_sub List.filter_sublist hn)]
    simp
  · simp only [made9 c e]
    rw [lines_ended _ (noFeed_sub (List.take_sublist _ _) hn), List.take_take, Nat.min_self]
  · simp only [made10 c e]
    rw [lines_ended _ (noFeed_sub (List.drop_sublist _ _) hn)]
    rw [List.length_drop, show ls.length - (ls.length - c.n.toNat) - c.n.toNat = 0 by omega]
    simp

theorem twice_turn (c : Cmd) (e : c.kind = 5) (b : List UInt8) : doOut c (doOut c b) = ended (lines b) := by
  unfold doOut
  have hn := lines_noFeed b
  generalize lines b = ls at hn
  simp only [made5 c e]
  rw [lines_ended _ (fun s hs => by
    obtain ⟨t, ht, rfl⟩ := List.mem_map.1 hs
    simpa using hn t ht)]
  rw [List.map_map, show (List.reverse ∘ List.reverse : List UInt8 → List UInt8) = id from funext fun s => List.reverse_reverse s, List.map_id]

theorem mem_ended {x : UInt8} {l : List (List UInt8)} (h : x ∈ ended l) : x = 10 ∨ ∃ s ∈ l, x ∈ s := by
  unfold ended at h
  simp only [List.mem_flatten, List.mem_map] at h
  obtain ⟨t, ⟨s, hs, rfl⟩, hx⟩ := h
  simp at hx
  rcases hx with hx | hx
  · exact .inr ⟨s, hs, hx⟩
  · exact .inl hx

theorem swap_gone (c : Cmd) (h : chk c = 0) (e : c.kind = 3) (hne : c.word.getD 0 0 ≠ c.word.getD 1 0) (b : List UInt8) : c.word.getD 0 0 ∉ doOut c b := by
  intro hm
  unfold doOut at hm
  rw [made3 c e] at hm
  obtain ⟨h2, hw⟩ := chk_le h e
  rcases mem_ended hm with hx | ⟨s, hs, hx⟩
  · have : wordByte (c.word.getD 0 0) = true := by
      match hc : c.word, h2, hw with
      | [x, y], _, hw => simp at hw; simpa using hw.1
    rw [hx] at this
    exact absurd this (by decide)
  · obtain ⟨t, ht, rfl⟩ := List.mem_map.1 hs
    unfold swapOf at hx
    obtain ⟨y, hy, hxy⟩ := List.mem_map.1 hx
    split at hxy
    · exact hne hxy.symm
    · rename_i hne'
      exact hne' hxy

theorem bad_zero (l : List (List UInt8)) : ∀ room, (ended l).length ≤ room → (∀ s ∈ l, (10 : UInt8) ∉ s) → bad room l = 0 := by
  induction l with
  | nil => intro room _ _; rfl
  | cons s l ih =>
    intro room h hn
    rw [ended_cons] at h
    simp only [List.length_append, List.length_cons, List.length_nil] at h
    unfold bad
    rw [if_neg (hn s (by simp)), if_neg (by omega)]
    exact ih _ (by omega) (fun t ht => hn t (by simp [ht]))

theorem sort_turned (c : Cmd) (e : c.kind = 6) (b : List UInt8) (k : Nat) : doOut c (ended ((lines b).drop k ++ (lines b).take k)) = doOut c b := by
  unfold doOut
  have hn := lines_noFeed b
  generalize lines b = ls at hn
  have hp : (ls.drop k ++ ls.take k).Perm ls := List.perm_append_comm.trans (by rw [List.take_append_drop])
  rw [lines_ended _ (fun s hs => hn s (hp.mem_iff.1 hs)), made6 c e, made6 c e, sortOf_congr hp]

/-! ### Parts -/

theorem keep_drop (p : List UInt8 → Bool) (ls : List (List UInt8)) : sortOf (ls.filter p ++ ls.filter (fun s => !p s)) = sortOf ls := sortOf_congr (List.filter_append_perm p ls)
theorem keep_drop_len (p : List UInt8 → Bool) (ls : List (List UInt8)) : (ls.filter p ++ ls.filter (fun s => !p s)).length = ls.length := (List.filter_append_perm p ls).length_eq
theorem sortOf_len (ls : List (List UInt8)) : (sortOf ls).length = ls.length := (sortOf_perm ls).length_eq

end Go.Gs
namespace Go.Gs
open Go.RowKit
set_option linter.unusedVariables false

def didB : List UInt8 := [98, 32, 120, 10, 97, 10, 98, 32, 120]
theorem didB_lines : lines didB = [[98, 32, 120], [97], [98, 32, 120]] := by decide
theorem did_sort : doOut ⟨6, [], 0⟩ didB = [97, 10, 98, 32, 120, 10, 98, 32, 120, 10] := by
  unfold doOut
  rw [didB_lines, made6 _ rfl, sorted_unique (sortOf [[98, 32, 120], [97], [98, 32, 120]]) [[97], [98, 32, 120], [98, 32, 120]] ((sortOf_perm _).trans (by decide)) (sortOf_sorted _) (by decide)]
  rfl
theorem did_keep : doOut ⟨1, [120], 0⟩ didB = [98, 32, 120, 10, 98, 32, 120, 10] := by
  unfold doOut
  rw [didB_lines, made1 _ rfl]
  decide
theorem did_field : doOut ⟨4, [], 2⟩ didB = [120, 10, 10, 120, 10] := by
  unfold doOut
  rw [didB_lines, made4 _ rfl]
  decide
theorem did_count : doOut ⟨8, [], 0⟩ didB = [51, 10] := by
  unfold doOut
  rw [didB_lines, made8 _ rfl]
  show ended [Lib.itoa 3] = _
  unfold Lib.itoa
  rw [if_neg (by decide), show (3 : Int).toNat = 3 from rfl, Lib.decDigits, dif_pos (by decide)]
  rfl
theorem did_turn : doOut ⟨5, [], 0⟩ didB = [120, 32, 98, 10, 97, 10, 120, 32, 98, 10] := by
  unfold doOut
  rw [didB_lines, made5 _ rfl]
  decide
end Go.Gs
namespace Go.Gs
open Go.RowKit
set_option linter.unusedVariables false

/-- How a right command's parts are joined: 1 Behind, 2 Merge, 3 Sum, 4 Again. -/
def howFor (k : Int) : Int := if k = 6 then 2 else if k = 8 then 3 else if k = 7 ∨ k = 9 ∨ k = 10 then 4 else 1
/-- What is wrong with a join. -/
def jchk (how : Int) (c : Cmd) : Int := if how < 1 ∨ 4 < how then 4 else if how = 4 then chk c else if c.kind = 0 ∧ c.word = [] ∧ c.n = 0 then 0 else 4

/-- The number that a line is; 0 of one that is none. -/
def numOf (s : List UInt8) : Nat := ((List.range 4001).find? (fun (k : Nat) => Lib.itoa (k : Int) == s)).getD 0
def headNum (l : List (List UInt8)) : Nat := ((l.head?).map numOf).getD 0
def sumOf (ps : List (List (List UInt8))) : Nat := (ps.map headNum).sum

/-- Which of the first k parts has the least first line, of alike ones the first; and that line. -/
def leastTo (ps : List (List (List UInt8))) : Nat → Option (Nat × List UInt8)
  | 0 => none
  | k + 1 => match (ps[k]?).bind List.head? with
    | none => leastTo ps k
    | some s => match leastTo ps k with
      | none => some (k, s)
      | some (j, t) => if s < t then some (k, s) else some (j, t)
def least (ps : List (List (List UInt8))) : Option (Nat × List UInt8) := leastTo ps ps.length
def mergeN : Nat → List (List (List UInt8)) → List (List UInt8)
  | 0, _ => []
  | n + 1, ps => match least ps with
    | none => []
    | some (k, s) => s :: mergeN n (ps.modify k (List.drop 1))
def mergeOf (ps : List (List (List UInt8))) : List (List UInt8) := mergeN ps.flatten.length ps

/-- What a right join makes of parts. -/
def joined (how : Int) (c : Cmd) (ps : List (List (List UInt8))) : List (List UInt8) :=
  if how = 2 then mergeOf ps else if how = 3 then [Lib.itoa (sumOf ps : Int)] else if how = 4 then made c ps.flatten else ps.flatten

/-! ### Numbers -/

def decVal (s : List UInt8) : Nat := s.foldl (fun a c => 10 * a + (c.toNat - 48)) 0
theorem decVal_digits : ∀ u : Nat, decVal (Lib.decDigits u) = u := by
  intro u
  induction u using Nat.strongRecOn with
  | ind u ih =>
    rw [Lib.decDigits]
    split
    · simp [decVal]
      omega
    · rename_i h
      have := ih (u / 10) (by omega)
      unfold decVal at this ⊢
      rw [List.foldl_append, this]
      simp
      omega
theorem itoa_inj {a b : Nat} (h : Lib.itoa (a : Int) = Lib.itoa (b : Int)) : a = b := by
  unfold Lib.itoa at h
  rw [if_neg (by omega), if_neg (by omega)] at h
  simp only [Int.toNat_natCast] at h
  rw [← decVal_digits a, ← decVal_digits b, h]
theorem numOf_itoa (k : Nat) (h : k ≤ 4000) : numOf (Lib.itoa (k : Int)) = k := by
  unfold numOf
  cases hf : (List.range 4001).find? (fun (j : Nat) => Lib.itoa (j : Int) == Lib.itoa (k : Int)) with
  | none =>
    have := List.find?_eq_none.1 hf k (List.mem_range.2 (by omega))
    simp at this
  | some j =>
    have := List.find?_some hf
    simp only [beq_iff_eq] at this
    simp [itoa_inj this]
theorem numOf_none {s : List UInt8} (h : ∀ k : Nat, k ≤ 4000 → Lib.itoa (k : Int) ≠ s) : numOf s = 0 := by
  unfold numOf
  rw [List.find?_eq_none.2]
  · rfl
  · intro k hk
    simpa using h k (by have := List.mem_range.1 hk; omega)
theorem numOf_le (s : List UInt8) : numOf s ≤ 4000 := by
  unfold numOf
  cases hf : (List.range 4001).find? (fun (j : Nat) => Lib.itoa (j : Int) == s) with
  | none => simp
  | some j =>
    have := List.mem_range.1 (List.mem_of_find?_eq_some hf)
    simp
    omega
theorem headNum_le (l : List (List UInt8)) : headNum l ≤ 4000 := by
  unfold headNum
  cases l with
  | nil => simp
  | cons s r => simpa using numOf_le s
theorem sumOf_le (ps : List (List (List UInt8))) : sumOf ps ≤ 4000 * ps.length := by
  unfold sumOf
  induction ps with
  | nil => simp
  | cons p ps ih =>
    have := headNum_le p
    simp only [List.map_cons, List.sum_cons, List.length_cons]
    omega
theorem sumOf_take {ps : List (List (List UInt8))} {k : Nat} {p : List (List UInt8)} (h : ps[k]? = some p) : sumOf (ps.take (k + 1)) = sumOf (ps.take k) + headNum p := by
  unfold sumOf
  rw [List.take_add_one, h]
  simp

/-! ### The least -/

theorem leastTo_some (ps : List (List (List UInt8))) : ∀ (k : Nat) (j : Nat) (t : List UInt8), leastTo ps k = some (j, t) → j < k ∧ (ps[j]?).bind List.head? = some t ∧ ∀ i, i < k → ∀ s, (ps[i]?).bind List.head? = some s → t ≤ s := by
  intro k
  induction k with
  | zero => intro j t h; cases h
  | succ k ih =>
    intro j t h
    unfold leastTo at h
    cases hk : (ps[k]?).bind List.head? with
    | none =>
      rw [hk] at h
      obtain ⟨h1, h2, h3⟩ := ih j t h
      refine ⟨by omega, h2, fun i hi s hs => ?_⟩
      rcases Nat.lt_or_ge i k with h' | h'
      · exact h3 i h' s hs
      · obtain rfl : i = k := by omega
        rw [hk] at hs; cases hs
    | some s =>
      rw [hk] at h
      simp only at h
      cases hl : leastTo ps k with
      | none =>
        rw [hl] at h
        simp only [Option.some.injEq, Prod.mk.injEq] at h
        obtain ⟨rfl, rfl⟩ := h
        refine ⟨by omega, hk, fun i hi s' hs => ?_⟩
        rcases Nat.lt_or_ge i k with h' | h'
        · exfalso
          clear ih hk
          have : ∀ m, leastTo ps m = none → ∀ i, i < m → (ps[i]?).bind List.head? = none := by
            intro m
            induction m with
            | zero => intro _ i hi; omega
            | succ m ihm =>
              intro hm i hi
              unfold leastTo at hm
              cases hb : (ps[m]?).bind List.head? with
              | none =>
                rw [hb] at hm
                rcases Nat.lt_or_ge i m with h'' | h''
                · exact ihm hm i h''
                · obtain rfl : i = m := by omega
                  exact hb
              | some x =>
                rw [hb] at hm
                simp only at hm
                split at hm
                · cases hm
                · split at hm <;> cases hm
          rw [this k hl i h'] at hs
          cases hs
        · obtain rfl : i = k := by omega
          rw [hk] at hs
          injection hs with hs
          rw [hs]; exact List.le_refl _
      | some p =>
        obtain ⟨j', t'⟩ := p
        rw [hl] at h
        simp only at h
        obtain ⟨h1, h2, h3⟩ := ih j' t' hl
        by_cases hlt : s < t'
        · rw [if_pos hlt] at h
          simp only [Option.some.injEq, Prod.mk.injEq] at h
          obtain ⟨rfl, rfl⟩ := h
          refine ⟨by omega, hk, fun i hi s' hs => ?_⟩
          rcases Nat.lt_or_ge i k with h' | h'
          · exact List.le_trans (List.le_of_lt hlt) (h3 i h' s' hs)
          · obtain rfl : i = k := by omega
            rw [hk] at hs
            injection hs with hs
            rw [hs]; exact List.le_refl _
        · rw [if_neg hlt] at h
          simp only [Option.some.injEq, Prod.mk.injEq] at h
          obtain ⟨rfl, rfl⟩ := h
          refine ⟨by omega, h2, fun i hi s' hs => ?_⟩
          rcases Nat.lt_or_ge i k with h' | h'
          · exact h3 i h' s' hs
          · obtain rfl : i = k := by omega
            rw [hk] at hs
            injection hs with hs
            rw [← hs]; exact List.not_lt.1 hlt
theorem leastTo_none (ps : List (List (List UInt8))) : ∀ m, leastTo ps m = none → ∀ i, i < m → (ps[i]?).bind List.head? = none := by
  intro m
  induction m with
  | zero => intro _ i hi; omega
  | succ m ihm =>
    intro hm i hi
    unfold leastTo at hm
    cases hb : (ps[m]?).bind List.head? with
    | none =>
      rw [hb] at hm
      rcases Nat.lt_or_ge i m with h'' | h''
      · exact ihm hm i h''
      · obtain rfl : i = m := by omega
        exact hb
    | some x =>
      rw [hb] at hm
      simp only at hm
      split at hm
      · cases hm
      · split at hm <;> cases hm
theorem least_some {ps : List (List (List UInt8))} {k : Nat} {s : List UInt8} (h : least ps = some (k, s)) : ∃ r, ps[k]? = some (s :: r) ∧ ∀ p ∈ ps, ∀ x, p.head? = some x → s ≤ x := by
  obtain ⟨h1, h2, h3⟩ := leastTo_some ps _ k s h
  cases hp : ps[k]? with
  | none => rw [hp] at h2; cases h2
  | some p =>
    rw [hp] at h2
    cases p with
    | nil => cases h2
    | cons x r =>
      simp only [Option.bind_some, List.head?_cons, Option.some.injEq] at h2
      refine ⟨r, by rw [h2], fun p hp x hx => ?_⟩
      obtain ⟨i, hi, rfl⟩ := List.mem_iff_getElem.1 hp
      exact h3 i hi x (by rw [List.getElem?_eq_getElem hi]; exact hx)
theorem least_none {ps : List (List (List UInt8))} (h : least ps = none) : ps.flatten = [] := by
  have := leastTo_none ps _ h
  rw [List.flatten_eq_nil_iff]
  intro p hp
  obtain ⟨i, hi, rfl⟩ := List.mem_iff_getElem.1 hp
  have := this i hi
  rw [List.getElem?_eq_getElem hi] at this
  simpa using this

/-! ### Merging -/

theorem modify_flatten {ps : List (List (List UInt8))} : ∀ {k : Nat} {s : List UInt8} {r : List (List UInt8)}, ps[k]? = some (s :: r) → ps.flatten.Perm (s :: (ps.modify k (List.drop 1)).flatten) := by
  induction ps with
  | nil => intro k s r h; simp at h
  | cons p ps ih =>
    intro k s r h
    cases k with
    | zero =>
      simp only [List.getElem?_cons_zero, Option.some.injEq] at h
      subst h
      simp
    | succ k =>
      simp only [List.getElem?_cons_succ] at h
      simp only [List.modify_succ_cons, List.flatten_cons]
      exact ((ih h).append_left p).trans List.perm_middle
theorem modify_length {ps : List (List (List UInt8))} {k : Nat} {s : List UInt8} {r : List (List UInt8)} (h : ps[k]? = some (s :: r)) : ps.flatten.length = (ps.modify k (List.drop 1)).flatten.length + 1 := by
  have := (modify_flatten h).length_eq
  simpa using this
theorem mergeN_perm : ∀ (n : Nat) (ps : List (List (List UInt8))), ps.flatten.length = n → (mergeN n ps).Perm ps.flatten := by
  intro n
  induction n with
  | zero => intro ps h; rw [List.eq_nil_of_length_eq_zero h]; exact List.Perm.nil
  | succ n ih =>
    intro ps h
    unfold mergeN
    cases hl : least ps with
    | none => rw [least_none hl] at h; cases h
    | some q =>
      obtain ⟨k, s⟩ := q
      obtain ⟨r, hr, _⟩ := least_some hl
      have hm := modify_length hr
      exact ((ih _ (by omega)).cons s).trans (modify_flatten hr).symm
theorem mergeN_sorted : ∀ (n : Nat) (ps : List (List (List UInt8))), ps.flatten.length = n → (∀ p ∈ ps, p.Pairwise (fun x y => x ≤ y)) → (mergeN n ps).Pairwise (fun x y => x ≤ y) := by
  intro n
  induction n with
  | zero => intro ps h _; exact List.Pairwise.nil
  | succ n ih =>
    intro ps h hs
    unfold mergeN
    cases hl : least ps with
    | none => exact List.Pairwise.nil
    | some q =>
      obtain ⟨k, s⟩ := q
      obtain ⟨r, hr, hle⟩ := least_some hl
      have hm := modify_length hr
      simp only
      refine List.Pairwise.cons ?_ (ih _ (by omega) ?_)
      · intro x hx
        have hx' : x ∈ ps.flatten := (modify_flatten hr).mem_iff.2 (List.mem_cons_of_mem _ ((mergeN_perm n _ (by omega)).mem_iff.1 hx))
        obtain ⟨p, hp, hxp⟩ := List.mem_flatten.1 hx'
        have hsp := hs p hp
        cases p with
        | nil => cases hxp
        | cons y q =>
          have h1 := hle _ hp y rfl
          rcases List.mem_cons.1 hxp with rfl | hxq
          · exact h1
          · exact List.le_trans h1 ((List.pairwise_cons.1 hsp).1 x hxq)
      · intro p hp
        obtain ⟨i, hi, rfl⟩ := List.mem_iff_getElem.1 hp
        rw [List.getElem_modify]
        have hi' : i < ps.length := by simpa using hi
        split
        · exact (hs _ (List.getElem_mem hi')).sublist (List.drop_sublist _ _)
        · exact hs _ (List.getElem_mem hi')
theorem mergeOf_sorted (ps : List (List (List UInt8))) (h : ∀ p ∈ ps, p.Pairwise (fun x y => x ≤ y)) : mergeOf ps = sortOf ps.flatten :=
  sorted_unique _ _ ((mergeN_perm _ _ rfl).trans (sortOf_perm _).symm) (mergeN_sorted _ _ rfl h) (sortOf_sorted _)
theorem mergeOf_perm (ps : List (List (List UInt8))) : (mergeOf ps).Perm ps.flatten := mergeN_perm _ _ rfl

/-! ### Alike ones, one behind the other -/

theorem last_cons (s : List UInt8) (a : List (List UInt8)) (p : Option (List UInt8)) : (s :: a).getLast?.or p = a.getLast?.or (some s) := by
  rw [List.getLast?_cons]
  cases h : a.getLast? <;> simp
def comp : Option (List UInt8) → List (List UInt8) → List (List UInt8)
  | _, [] => []
  | p, s :: r => if p = some s then comp p r else s :: comp (some s) r
theorem comp_append (a b : List (List UInt8)) : ∀ p, comp p (a ++ b) = comp p a ++ comp (a.getLast?.or p) b := by
  induction a with
  | nil => intro p; rfl
  | cons s a ih =>
    intro p
    rw [List.cons_append, comp, comp, ih, ih]
    have e := last_cons s a p
    rw [e]
    split
    · rename_i hp; rw [hp]
    · rfl
theorem comp_last (a : List (List UInt8)) : ∀ p, (comp p a).getLast?.or p = a.getLast?.or p := by
  induction a with
  | nil => intro p; rfl
  | cons s a ih =>
    intro p
    have e := last_cons s a p
    rw [e, comp]
    split
    · rename_i hp; rw [ih p, hp]
    · rw [last_cons]; exact ih _
theorem comp_comp (a : List (List UInt8)) : ∀ p q, (q = none ∨ q = p) → comp p (comp q a) = comp p a := by
  induction a with
  | nil => intro p q _; rfl
  | cons s a ih =>
    intro p q hq
    by_cases hqs : q = some s
    · rcases hq with h | h
      · rw [h] at hqs; cases hqs
      · subst h
        rw [comp, if_pos hqs]
        rw [ih q q (.inr rfl)]
    · conv => lhs; rw [comp, if_neg hqs]
      rw [comp]
      conv => rhs; rw [comp]
      split
      · rename_i hp; rw [hp]; exact ih _ _ (.inr rfl)
      · rw [ih _ _ (.inr rfl)]
theorem comp_flatten (ps : List (List (List UInt8))) : ∀ p, comp p (ps.map (comp none)).flatten = comp p ps.flatten := by
  induction ps with
  | nil => intro p; rfl
  | cons a ps ih =>
    intro p
    rw [List.map_cons, List.flatten_cons, List.flatten_cons, comp_append, comp_append, comp_comp _ _ _ (.inl rfl), ih]
    have := comp_last a none
    simp only [Option.or_none] at this
    rw [this]
theorem compactUpTo_comp (l : List (List UInt8)) : ∀ m, m ≤ l.length → Lib.compactUpTo l.toArray m = comp none (l.take m) := by
  intro m
  induction m with
  | zero => intro _; rfl
  | succ m ih =>
    intro h
    rw [Lib.compactUpTo_succ, ih (by omega), List.take_add_one, List.getElem?_eq_getElem (show m < l.length by omega), Option.toList_some, comp_append]
    congr 1
    have e1 : l.toArray[m]! = l[m] := by simp [getElem!_pos, show m < l.length by omega]
    unfold Lib.keeps
    rw [e1, Option.or_none, comp, comp]
    by_cases h0 : m = 0
    · subst h0; simp [comp]
    · have e2 : l.toArray[m - 1]! = l[m - 1] := by simp [getElem!_pos, show m - 1 < l.length by omega]
      have e3 : (l.take m).getLast? = some l[m - 1] := by
        rw [List.getLast?_eq_getElem?, List.length_take, Nat.min_eq_left (by omega), List.getElem?_take, if_pos (by omega), List.getElem?_eq_getElem (by omega)]
      rw [e2, e3]
      by_cases hx : l[m - 1] = l[m]
      · simp [hx, h0]
      · simp [hx, h0, Ne.symm hx, comp]
theorem compact_comp (l : List (List UInt8)) : Lib.compact l = comp none l := by
  unfold Lib.compact
  rw [compactUpTo_comp l _ (Nat.le_refl _), List.take_length]
theorem compact_flatten (ps : List (List (List UInt8))) : Lib.compact (ps.map Lib.compact).flatten = Lib.compact ps.flatten := by
  have e : (Lib.compact : List (List UInt8) → List (List UInt8)) = comp none := funext compact_comp
  rw [e]
  exact comp_flatten ps none

/-! ### The first and the last -/

theorem take_flatten {α : Type} (n : Nat) (ps : List (List α)) : ∀ m, m ≤ n → (ps.map (List.take n)).flatten.take m = ps.flatten.take m := by
  induction ps with
  | nil => intro m _; rfl
  | cons a ps ih =>
    intro m hm
    rw [List.map_cons, List.flatten_cons, List.flatten_cons, List.take_append, List.take_append, List.take_take, Nat.min_eq_left hm, List.length_take]
    congr 1
    have e : m - min n a.length = m - a.length := by omega
    rw [e]
    exact ih _ (by omega)
def lastOf {α : Type} (n : Nat) (l : List α) : List α := l.drop (l.length - n)
theorem lastOf_eq {α : Type} (n : Nat) (l : List α) : lastOf n l = (l.reverse.take n).reverse := by
  unfold lastOf
  rw [List.take_reverse, List.reverse_reverse]
theorem last_flatten {α : Type} (n : Nat) (ps : List (List α)) : lastOf n (ps.map (lastOf n)).flatten = lastOf n ps.flatten := by
  rw [lastOf_eq, lastOf_eq]
  congr 1
  rw [List.reverse_flatten, List.reverse_flatten, List.map_map]
  have e : (List.reverse ∘ lastOf n : List α → List α) = List.take n ∘ List.reverse := by
    funext l
    simp [lastOf_eq]
  rw [e, ← List.map_map, ← List.map_reverse]
  exact take_flatten n _ n (Nat.le_refl _)

/-! ### Parts joined are the whole -/

theorem count_sum (ps : List (List (List UInt8))) (h : ∀ p ∈ ps, p.length ≤ 4000) : sumOf (ps.map fun p => [Lib.itoa (p.length : Int)]) = ps.flatten.length := by
  unfold sumOf
  induction ps with
  | nil => rfl
  | cons p ps ih =>
    have := ih (fun q hq => h q (by simp [hq]))
    simp only [List.map_cons, List.sum_cons, List.flatten_cons, List.length_append] at this ⊢
    rw [this]
    have hn : headNum [Lib.itoa (p.length : Int)] = p.length := by
      unfold headNum
      rw [List.head?_cons, Option.map_some, Option.getD_some, numOf_itoa p.length (h p (by simp))]
    rw [hn]

theorem join_whole (c : Cmd) (hc : chk c = 0) (ps : List (List (List UInt8))) (h : ∀ p ∈ ps, p.length ≤ 4000) : joined (howFor c.kind) c (ps.map (made c)) = made c ps.flatten := by
  have hk := chk_kinds c hc
  have : c.kind = 1 ∨ c.kind = 2 ∨ c.kind = 3 ∨ c.kind = 4 ∨ c.kind = 5 ∨ c.kind = 6 ∨ c.kind = 7 ∨ c.kind = 8 ∨ c.kind = 9 ∨ c.kind = 10 := by omega
  have each : isEach c.kind = true → (ps.map (made c)).flatten = made c ps.flatten := by
    intro he
    clear h
    induction ps with
    | nil =>
      have hk : c.kind = 1 ∨ c.kind = 2 ∨ c.kind = 3 ∨ c.kind = 4 ∨ c.kind = 5 := by
        have := of_decide_eq_true he
        omega
      rcases hk with hk | hk | hk | hk | hk <;> simp [made, hk]
    | cons p ps ih => rw [List.map_cons, List.flatten_cons, List.flatten_cons, made_append c he, ih]
  rcases this with e | e | e | e | e | e | e | e | e | e
  · simpa [joined, howFor, e] using each (by simp [isEach, e])
  · simpa [joined, howFor, e] using each (by simp [isEach, e])
  · simpa [joined, howFor, e] using each (by simp [isEach, e])
  · simpa [joined, howFor, e] using each (by simp [isEach, e])
  · simpa [joined, howFor, e] using each (by simp [isEach, e])
  · have e1 : joined (howFor c.kind) c (ps.map (made c)) = mergeOf (ps.map (made c)) := by simp [joined, howFor, e]
    have e2 : made c = sortOf := funext (made6 c e)
    rw [e1, e2, mergeOf_sorted _ (by
      intro p hp
      obtain ⟨q, _, rfl⟩ := List.mem_map.1 hp
      exact sortOf_sorted q)]
    apply sortOf_congr
    clear h each e1
    induction ps with
    | nil => exact List.Perm.nil
    | cons p ps ih =>
      rw [List.map_cons, List.flatten_cons, List.flatten_cons]
      exact (sortOf_perm p).append ih
  · have e1 : joined (howFor c.kind) c (ps.map (made c)) = made c (ps.map (made c)).flatten := by simp [joined, howFor, e]
    have e2 : made c = Lib.compact := funext (made7 c e)
    rw [e1, e2]
    exact compact_flatten ps
  · have e1 : joined (howFor c.kind) c (ps.map (made c)) = [Lib.itoa (sumOf (ps.map (made c)) : Int)] := by simp [joined, howFor, e]
    have e2 : made c = fun p => [Lib.itoa (p.length : Int)] := funext (made8 c e)
    rw [e1, e2, count_sum ps h]
  · have e1 : joined (howFor c.kind) c (ps.map (made c)) = made c (ps.map (made c)).flatten := by simp [joined, howFor, e]
    have e2 : made c = List.take c.n.toNat := funext (made9 c e)
    rw [e1, e2]
    exact take_flatten _ ps _ (Nat.le_refl _)
  · have e1 : joined (howFor c.kind) c (ps.map (made c)) = made c (ps.map (made c)).flatten := by simp [joined, howFor, e]
    have e2 : made c = lastOf c.n.toNat := funext (made10 c e)
    rw [e1, e2]
    exact last_flatten _ ps

/-! ### No line feed -/

theorem decDigits_noFeed : ∀ u : Nat, (10 : UInt8) ∉ Lib.decDigits u := by
  intro u
  induction u using Nat.strongRecOn with
  | ind u ih =>
    have hd : ∀ d : Nat, d < 10 → (10 : UInt8) ≠ UInt8.ofNat (48 + d) := by
      intro d hd e
      have : d = 0 ∨ d = 1 ∨ d = 2 ∨ d = 3 ∨ d = 4 ∨ d = 5 ∨ d = 6 ∨ d = 7 ∨ d = 8 ∨ d = 9 := by omega
      rcases this with rfl | rfl | rfl | rfl | rfl | rfl | rfl | rfl | rfl | rfl <;> exact absurd e (by decide)
    rw [Lib.decDigits]
    split
    · rename_i h
      simp only [List.mem_singleton]
      exact hd u h
    · simp only [List.mem_append, List.mem_singleton, not_or]
      exact ⟨ih (u / 10) (by omega), hd _ (Nat.mod_lt _ (by omega))⟩
theorem itoa_noFeed (n : Nat) : (10 : UInt8) ∉ Lib.itoa (n : Int) := by
  unfold Lib.itoa
  rw [if_neg (by omega)]
  exact decDigits_noFeed _
theorem made_noFeed (c : Cmd) (hc : chk c = 0) (ls : List (List UInt8)) (h : ∀ s ∈ ls, (10 : UInt8) ∉ s) : ∀ s ∈ made c ls, (10 : UInt8) ∉ s := by
  have hk := chk_kinds c hc
  have : c.kind = 1 ∨ c.kind = 2 ∨ c.kind = 3 ∨ c.kind = 4 ∨ c.kind = 5 ∨ c.kind = 6 ∨ c.kind = 7 ∨ c.kind = 8 ∨ c.kind = 9 ∨ c.kind = 10 := by omega
  rcases this with e | e | e | e | e | e | e | e | e | e
  · rw [made1 c e]; exact noFeed_sub List.filter_sublist h
  · rw [made2 c e]; exact noFeed_sub List.filter_sublist h
  · rw [made3 c e]
    intro s hs hm
    obtain ⟨t, ht, rfl⟩ := List.mem_map.1 hs
    obtain ⟨h2, hw⟩ := chk_le hc e
    unfold swapOf at hm
    obtain ⟨y, hy, hxy⟩ := List.mem_map.1 hm
    split at hxy
    · have : wordByte (c.word.getD 1 0) = true := by
        match hcw : c.word, h2, hw with
        | [x, y], _, hw => simp at hw; simpa using hw.2
      rw [hxy] at this
      exact absurd this (by decide)
    · exact h t ht (hxy ▸ hy)
  · rw [made4 c e]
    intro s hs
    obtain ⟨t, ht, rfl⟩ := List.mem_map.1 hs
    unfold fieldOf
    cases hf : (Lib.split t [32])[(c.n - 1).toNat]? with
    | none => simp
    | some p => exact splitK_noFeed _ _ _ (h t ht) p (List.mem_of_getElem? hf)
  · rw [made5 c e]
    intro s hs
    obtain ⟨t, ht, rfl⟩ := List.mem_map.1 hs
    simpa using h t ht
  · rw [made6 c e]; exact fun s hs => h s ((sortOf_perm ls).mem_iff.1 hs)
  · rw [made7 c e]; exact noFeed_sub (compact_sub ls) h
  · rw [made8 c e]
    intro s hs
    rw [List.mem_singleton.1 hs]
    exact itoa_noFeed _
  · rw [made9 c e]; exact noFeed_sub (List.take_sublist _ _) h
  · rw [made10 c e]; exact noFeed_sub (List.drop_sublist _ _) h
theorem joined_noFeed (how : Int) (c : Cmd) (hc : how = 4 → chk c = 0) (ps : List (List (List UInt8))) (h : ∀ p ∈ ps, ∀ s ∈ p, (10 : UInt8) ∉ s) : ∀ s ∈ joined how c ps, (10 : UInt8) ∉ s := by
  have hf : ∀ s ∈ ps.flatten, (10 : UInt8) ∉ s := by
    intro s hs
    obtain ⟨p, hp, hsp⟩ := List.mem_flatten.1 hs
    exact h p hp s hsp
  unfold joined
  split
  · exact fun s hs => hf s ((mergeOf_perm ps).mem_iff.1 hs)
  · split
    · intro s hs
      rw [List.mem_singleton.1 hs]
      exact itoa_noFeed _
    · split
      · rename_i h4; exact made_noFeed c (hc h4) _ hf
      · exact hf
end Go.Gs
namespace Go.Gs
open Go.RowKit
set_option linter.unusedVariables false

theorem again_flatten (c : Cmd) (hk : c.kind = 7 ∨ c.kind = 9 ∨ c.kind = 10) (ps : List (List (List UInt8))) : made c (ps.map (made c)).flatten = made c ps.flatten := by
  rcases hk with e | e | e
  · have e2 : made c = Lib.compact := funext (made7 c e)
    rw [e2]; exact compact_flatten ps
  · have e2 : made c = List.take c.n.toNat := funext (made9 c e)
    rw [e2]; exact take_flatten _ ps _ (Nat.le_refl _)
  · have e2 : made c = lastOf c.n.toNat := funext (made10 c e)
    rw [e2]; exact last_flatten _ ps
theorem again_idem (c : Cmd) (hk : c.kind = 7 ∨ c.kind = 9 ∨ c.kind = 10) (X : List (List UInt8)) : made c (made c X) = made c X := by
  have := again_flatten c hk [X]
  simpa using this
theorem again_left (c : Cmd) (hk : c.kind = 7 ∨ c.kind = 9 ∨ c.kind = 10) (X Y : List (List UInt8)) : made c (made c X ++ Y) = made c (X ++ Y) := by
  have h1 := again_flatten c hk [made c X, Y]
  have h2 := again_flatten c hk [X, Y]
  simp only [List.map_cons, List.map_nil, List.flatten_cons, List.flatten_nil, List.append_nil] at h1 h2
  rw [← h1, again_idem c hk, h2]
theorem again_right (c : Cmd) (hk : c.kind = 7 ∨ c.kind = 9 ∨ c.kind = 10) (X Y : List (List UInt8)) : made c (X ++ made c Y) = made c (X ++ Y) := by
  have h1 := again_flatten c hk [X, made c Y]
  have h2 := again_flatten c hk [X, Y]
  simp only [List.map_cons, List.map_nil, List.flatten_cons, List.flatten_nil, List.append_nil] at h1 h2
  rw [← h1, again_idem c hk, h2]

def Srt (l : List (List UInt8)) : Prop := l.Pairwise (fun x y => x ≤ y)
theorem merge_two {A B : List (List UInt8)} (hA : Srt A) (hB : Srt B) : mergeOf [A, B] = sortOf (A ++ B) := by
  rw [mergeOf_sorted _ (by intro p hp; simp at hp; rcases hp with rfl | rfl <;> assumption)]
  simp
theorem merge_three {A B D : List (List UInt8)} (hA : Srt A) (hB : Srt B) (hD : Srt D) : mergeOf [A, B, D] = sortOf (A ++ (B ++ D)) := by
  rw [mergeOf_sorted _ (by intro p hp; simp at hp; rcases hp with rfl | rfl | rfl <;> assumption)]
  simp
theorem merge_comm {A B : List (List UInt8)} (hA : Srt A) (hB : Srt B) : mergeOf [A, B] = mergeOf [B, A] := by
  rw [merge_two hA hB, merge_two hB hA]
  exact sortOf_congr List.perm_append_comm

theorem sumOf_two (A B : List (List UInt8)) : sumOf [A, B] = headNum A + headNum B := by simp [sumOf]
theorem sumOf_three (A B D : List (List UInt8)) : sumOf [A, B, D] = headNum A + headNum B + headNum D := by simp [sumOf]; omega
theorem headNum_itoa (n : Nat) (h : n ≤ 4000) : headNum [Lib.itoa (n : Int)] = n := by
  unfold headNum
  rw [List.head?_cons, Option.map_some, Option.getD_some, numOf_itoa n h]

/-- Joined two by two: as joined at once. -/
theorem nest_left (how : Int) (c : Cmd) (A B D : List (List UInt8)) (h2 : how = 2 → Srt A ∧ Srt B ∧ Srt D) (h3 : how = 3 → sumOf [A, B, D] ≤ 4000) (h4 : how = 4 → c.kind = 7 ∨ c.kind = 9 ∨ c.kind = 10) :
    joined how c [joined how c [A, B], D] = joined how c [A, B, D] := by
  unfold joined
  by_cases e2 : how = 2
  · obtain ⟨hA, hB, hD⟩ := h2 e2
    rw [if_pos e2, if_pos e2, if_pos e2, merge_two hA hB, merge_two (sortOf_sorted _) hD, merge_three hA hB hD]
    apply sortOf_congr
    have := (sortOf_perm (A ++ B)).append_right D
    rwa [List.append_assoc] at this
  · rw [if_neg e2, if_neg e2, if_neg e2]
    by_cases e3 : how = 3
    · have h := h3 e3
      rw [if_pos e3, if_pos e3, if_pos e3]
      rw [sumOf_three] at h ⊢
      rw [sumOf_two, sumOf_two, headNum_itoa _ (by omega)]
    · rw [if_neg e3, if_neg e3, if_neg e3]
      by_cases e4 : how = 4
      · rw [if_pos e4, if_pos e4, if_pos e4]
        have := again_left c (h4 e4) (A ++ B) D
        simpa using this
      · rw [if_neg e4, if_neg e4, if_neg e4]
        simp
theorem nest_right (how : Int) (c : Cmd) (A B D : List (List UInt8)) (h2 : how = 2 → Srt A ∧ Srt B ∧ Srt D) (h3 : how = 3 → sumOf [A, B, D] ≤ 4000) (h4 : how = 4 → c.kind = 7 ∨ c.kind = 9 ∨ c.kind = 10) :
    joined how c [A, joined how c [B, D]] = joined how c [A, B, D] := by
  unfold joined
  by_cases e2 : how = 2
  · obtain ⟨hA, hB, hD⟩ := h2 e2
    rw [if_pos e2, if_pos e2, if_pos e2, merge_two hB hD, merge_two hA (sortOf_sorted _), merge_three hA hB hD]
    exact sortOf_congr ((sortOf_perm (B ++ D)).append_left A)
  · rw [if_neg e2, if_neg e2, if_neg e2]
    by_cases e3 : how = 3
    · have h := h3 e3
      rw [if_pos e3, if_pos e3, if_pos e3]
      rw [sumOf_three] at h ⊢
      rw [sumOf_two, sumOf_two, headNum_itoa _ (by omega), Nat.add_assoc]
    · rw [if_neg e3, if_neg e3, if_neg e3]
      by_cases e4 : how = 4
      · rw [if_pos e4, if_pos e4, if_pos e4]
        have := again_right c (h4 e4) A (B ++ D)
        simpa using this
      · rw [if_neg e4, if_neg e4, if_neg e4]
        simp

/-! ### What join.Do answers: the error, and the bytes -/

def jErr (how : Int) (c : Cmd) (bss : List (List UInt8)) : Int := if jchk how c ≠ 0 then jchk how c else if 5 < bss.length ∨ 4000 < bss.flatten.length then 2 else 0
def jOut (how : Int) (c : Cmd) (bss : List (List UInt8)) : List UInt8 := ended (joined how c (bss.map lines))

theorem joined_len (how : Int) (c : Cmd) (hc : how = 4 → chk c = 0) (ps : List (List (List UInt8))) (hl : ps.flatten.length ≤ 9999) (h5 : ps.length ≤ 5) : (ended (joined how c ps)).length ≤ (ended ps.flatten).length + 6 := by
  unfold joined
  split
  · have := ended_len_perm (mergeOf_perm ps); omega
  · split
    · have h1 := sumOf_le ps
      have h2 : (Lib.itoa ((sumOf ps : Nat) : Int)).length ≤ 5 := by
        unfold Lib.itoa
        rw [if_neg (by omega)]
        exact decDigits_len 4 _ (by simp; omega)
      simp [ended]
      omega
    · split
      · rename_i h4
        have := made_len c (hc h4) ps.flatten hl
        omega
      · omega
theorem flat_lines_len (bss : List (List UInt8)) : (ended (bss.map lines).flatten).length ≤ bss.flatten.length + bss.length := by
  induction bss with
  | nil => simp [ended]
  | cons b bss ih =>
    have := ended_lines b
    simp only [List.map_cons, List.flatten_cons, ended_append, List.length_append, List.length_cons]
    omega
theorem flat_lines_count (bss : List (List UInt8)) : (bss.map lines).flatten.length ≤ bss.flatten.length := by
  induction bss with
  | nil => simp
  | cons b bss ih =>
    have := lines_length b
    simp only [List.map_cons, List.flatten_cons, List.length_append]
    omega
theorem jOut_len (how : Int) (c : Cmd) (hc : how = 4 → chk c = 0) (bss : List (List UInt8)) (hb : bss.flatten.length ≤ 9999) (h5 : bss.length ≤ 5) : (jOut how c bss).length ≤ bss.flatten.length + 11 := by
  unfold jOut
  have h1 := joined_len how c hc (bss.map lines) (by have := flat_lines_count bss; omega) (by simpa using h5)
  have h2 := flat_lines_len bss
  omega
theorem lines_jOut (how : Int) (c : Cmd) (hc : how = 4 → chk c = 0) (bss : List (List UInt8)) : lines (jOut how c bss) = joined how c (bss.map lines) := by
  unfold jOut
  apply lines_ended
  apply joined_noFeed how c hc
  intro p hp
  obtain ⟨b, _, rfl⟩ := List.mem_map.1 hp
  exact lines_noFeed b
theorem jchk_chk {how : Int} {c : Cmd} (h : jchk how c = 0) : how = 4 → chk c = 0 := by
  intro e
  unfold jchk at h
  rw [if_neg (by omega), if_pos e] at h
  exact h
theorem lines_doOut (c : Cmd) (hc : chk c = 0) (b : List UInt8) : lines (doOut c b) = made c (lines b) := lines_ended _ (made_noFeed c hc _ (lines_noFeed b))

/-- What JoinWhole says. -/
theorem whole_says (c : Cmd) (hc : chk c = 0) (again : Cmd) (ha : howFor c.kind = 4 → again = c) (bss : List (List UInt8)) (hb : bss.flatten.length ≤ 4000) : jOut (howFor c.kind) again (bss.map (doOut c)) = doOut c (ended (bss.map lines).flatten) := by
  have e : joined (howFor c.kind) again ((bss.map (doOut c)).map lines) = joined (howFor c.kind) c ((bss.map lines).map (made c)) := by
    have e1 : (bss.map (doOut c)).map lines = (bss.map lines).map (made c) := by
      rw [List.map_map, List.map_map]
      apply List.map_congr_left
      intro b _
      exact lines_doOut c hc b
    rw [e1]
    by_cases h4 : howFor c.kind = 4
    · rw [ha h4]
    · unfold joined
      rw [if_neg h4, if_neg h4]
  unfold jOut
  rw [e, join_whole c hc]
  · unfold doOut
    rw [lines_ended]
    intro s hs
    obtain ⟨p, hp, hsp⟩ := List.mem_flatten.1 hs
    obtain ⟨b, _, rfl⟩ := List.mem_map.1 hp
    exact lines_noFeed b s hsp
  · intro p hp
    obtain ⟨b, hb', rfl⟩ := List.mem_map.1 hp
    have h1 := lines_length b
    have h2 : b.length ≤ bss.flatten.length := by
      obtain ⟨s, t, rfl⟩ := List.append_of_mem hb'
      simp
      omega
    omega

theorem nest_says_left (how : Int) (c : Cmd) (hc : jchk how c = 0) (a b d : List UInt8) (h2 : how = 2 → Srt (lines a) ∧ Srt (lines b) ∧ Srt (lines d)) (h3 : how = 3 → sumOf [lines a, lines b, lines d] ≤ 4000) (h4 : how = 4 → c.kind = 7 ∨ c.kind = 9 ∨ c.kind = 10) :
    jOut how c [jOut how c [a, b], d] = jOut how c [a, b, d] := by
  have e := lines_jOut how c (jchk_chk hc) [a, b]
  unfold jOut at e ⊢
  simp only [List.map_cons, List.map_nil] at e ⊢
  rw [e, nest_left how c _ _ _ h2 h3 h4]
theorem nest_says_right (how : Int) (c : Cmd) (hc : jchk how c = 0) (a b d : List UInt8) (h2 : how = 2 → Srt (lines a) ∧ Srt (lines b) ∧ Srt (lines d)) (h3 : how = 3 → sumOf [lines a, lines b, lines d] ≤ 4000) (h4 : how = 4 → c.kind = 7 ∨ c.kind = 9 ∨ c.kind = 10) :
    jOut how c [a, jOut how c [b, d]] = jOut how c [a, b, d] := by
  have e := lines_jOut how c (jchk_chk hc) [b, d]
  unfold jOut at e ⊢
  simp only [List.map_cons, List.map_nil] at e ⊢
  rw [e, nest_right how c _ _ _ h2 h3 h4]
end Go.Gs
namespace Go.Gs
open Go.RowKit
set_option linter.unusedVariables false

theorem parse_snoc (l : List UInt8) (c : UInt8) : ∀ (acc m : Nat), Lib.parseUint10 acc l = .ok m → Lib.parseUint10 acc (l ++ [c]) = Lib.parseUint10 m [c] := by
  induction l with
  | nil =>
    intro acc m h
    simp only [Lib.parseUint10] at h
    injection h with h
    rw [h]; rfl
  | cons a l ih =>
    intro acc m h
    rw [List.cons_append, Lib.parseUint10]
    rw [Lib.parseUint10] at h
    split at h
    · rename_i h1
      rw [if_pos h1]
      split at h
      · cases h
      · rename_i h2
        rw [if_neg h2]
        split at h
        · cases h
        · rename_i h3
          rw [if_neg h3]
          exact ih _ _ h
    · cases h
theorem digit_byte (d : Nat) (h : d < 10) : (UInt8.ofNat (48 + d)).toNat = 48 + d := by
  rw [UInt8.toNat_ofNat']
  exact Nat.mod_eq_of_lt (by omega)
theorem parse_digits : ∀ u : Nat, u ≤ 1000000 → Lib.parseUint10 0 (Lib.decDigits u) = .ok u := by
  intro u
  induction u using Nat.strongRecOn with
  | ind u ih =>
    intro hu
    rw [Lib.decDigits]
    split
    · rename_i h
      simp only [Lib.parseUint10, digit_byte u h]
      rw [if_pos (by omega), if_neg (by omega), if_neg (by omega)]
      congr 1; omega
    · rename_i h
      rw [parse_snoc _ _ _ _ (ih (u / 10) (by omega) (by omega))]
      simp only [Lib.parseUint10, digit_byte (u % 10) (Nat.mod_lt _ (by omega))]
      rw [if_pos (by omega), if_neg (by omega), if_neg (by omega)]
      congr 1; omega
theorem digits_head : ∀ u : Nat, ∃ c r, Lib.decDigits u = c :: r ∧ 48 ≤ c.toNat ∧ c.toNat ≤ 57 := by
  intro u
  induction u using Nat.strongRecOn with
  | ind u ih =>
    rw [Lib.decDigits]
    split
    · rename_i h
      exact ⟨_, [], rfl, by rw [digit_byte u h]; omega, by rw [digit_byte u h]; omega⟩
    · rename_i h
      obtain ⟨c, r, e, h1, h2⟩ := ih (u / 10) (by omega)
      exact ⟨c, r ++ [UInt8.ofNat (48 + u % 10)], by rw [e]; rfl, h1, h2⟩
theorem atoiAll_itoa (k : Nat) (h : k ≤ 1000000) : Lib.atoiAll (Lib.itoa (k : Int)) = .ok (k : Int) := by
  have e : Lib.itoa (k : Int) = Lib.decDigits k := by
    unfold Lib.itoa
    rw [if_neg (by omega)]
    simp
  obtain ⟨c, r, e1, h1, h2⟩ := digits_head k
  have hp := parse_digits k h
  rw [e]
  rw [e1] at hp ⊢
  rw [Lib.atoiAll_plain c r (by omega) (by omega)]
  unfold Lib.parseMag
  rw [if_neg (by simp), hp]
  unfold Lib.signless
  simp only
  rw [if_neg (by omega)]
/-- What a line is as a number, by what Atoi answers. -/
theorem numOf_ok {s : List UInt8} {n : Int} (h : Lib.atoiAll s = .ok n) : numOf s = if 0 ≤ n ∧ n ≤ 4000 ∧ Lib.itoa n = s then n.toNat else 0 := by
  split
  · rename_i hc
    obtain ⟨h0, h1, h2⟩ := hc
    obtain ⟨k, rfl⟩ := Int.eq_ofNat_of_zero_le h0
    rw [← h2, Int.toNat_natCast, numOf_itoa k (by omega)]
  · rename_i hc
    apply numOf_none
    intro k hk e
    rw [← e, atoiAll_itoa k (by omega)] at h
    injection h with h
    exact hc ⟨by omega, by omega, by rw [← h]; exact e⟩
theorem numOf_bad {s : List UInt8} (h : ∀ n, Lib.atoiAll s ≠ .ok n) : numOf s = 0 := by
  apply numOf_none
  intro k hk e
  exact h k (by rw [← e]; exact atoiAll_itoa k (by omega))
end Go.Gs
namespace Go.Gs
open Go.RowKit
set_option linter.unusedVariables false

structure SLine where
  fr : List (List UInt8)
  cs : List Cmd
  to : List UInt8

def firstBad : List Int → Int
  | [] => 0
  | e :: r => if e = 0 then firstBad r else e

/-- CheckLine. -/
def lchk (l : SLine) : Int :=
  if l.fr.length < 1 ∨ 4 < l.fr.length ∨ 6 < l.cs.length then 2
  else if l.fr.all isWord = false then 1
  else if isWord l.to = false then 1
  else firstBad (l.cs.map chk)
/-- Check. -/
def schk (ls : List SLine) : Int := if 6 < ls.length then 2 else firstBad (ls.map lchk)

def vnames : List (List UInt8) := [[], [107, 101, 101, 112], [100, 114, 111, 112], [115, 119, 97, 112], [102, 105, 101, 108, 100], [116, 117, 114, 110], [115, 111, 114, 116], [111, 110, 99, 101], [99, 111, 117, 110, 116], [104, 101, 97, 100], [116, 97, 105, 108]]
def nameOf (k : Int) : List UInt8 := vnames.getD k.toNat []

def printed (c : Cmd) : List UInt8 :=
  if c.word ≠ [] then nameOf c.kind ++ 32 :: c.word
  else if c.n ≠ 0 then nameOf c.kind ++ 32 :: Lib.itoa c.n
  else nameOf c.kind
def doText (cs : List Cmd) : List UInt8 := (cs.map fun c => [32, 124, 32] ++ printed c).flatten
def rowText (l : SLine) : List UInt8 := Lib.join l.fr [32] ++ doText l.cs ++ ([32, 62, 32] ++ l.to ++ [10])
def stext (ls : List SLine) : List UInt8 := (ls.map rowText).flatten

def kindFrom (s : List UInt8) : Nat → Nat → Int
  | 0, _ => 0
  | f + 1, k => if nameOf k = s then k else kindFrom s f (k + 1)
def kindOf (s : List UInt8) : Int := kindFrom s 10 1

def parseNum (s : List UInt8) : Option Int :=
  match Lib.atoiAll s with
  | .ok n => if Lib.itoa n = s then some n else none
  | _ => none
def parseCmd (s : List UInt8) : Option Cmd :=
  let t := Lib.cut s [32]
  let k := kindOf t.1
  if k = 0 then none
  else if uses k = 1 then (if t.2.2 = true then some ⟨k, t.2.1, 0⟩ else none)
  else if uses k = 2 then (match parseNum t.2.1 with | some n => some ⟨k, [], n⟩ | none => none)
  else if t.2.2 = true then none else some ⟨k, [], 0⟩
def parseCmds : List (List UInt8) → Option (List Cmd)
  | [] => some []
  | p :: r => match parseCmd p with
    | none => none
    | some c => match parseCmds r with
      | none => none
      | some cs => some (c :: cs)
def parseLine (row : List UInt8) : Option SLine :=
  let t := Lib.cut row [32, 62, 32]
  if t.2.2 = false then none
  else match Lib.split t.1 [32, 124, 32] with
    | [] => none
    | p :: r => match parseCmds r with
      | none => none
      | some cs => some ⟨Lib.split p [32], cs, t.2.1⟩
def parseFin (found : List SLine) : List SLine × Nat × Int := if schk found = 0 then (found, 0, 0) else ([], 0, schk found)
def parseRest : Nat → List UInt8 → List SLine → List SLine × Nat × Int
  | 0, _, found => parseFin found
  | f + 1, rest, found =>
    if rest = [] then parseFin found
    else match (Lib.cut rest [10]).2.2, parseLine (Lib.cut rest [10]).1 with
      | true, some x => if lchk x = 0 then parseRest f (Lib.cut rest [10]).2.1 (found ++ [x]) else ([], found.length, lchk x)
      | _, _ => ([], found.length, 1)
def parseS (s : List UInt8) : List SLine × Nat × Int := if 8000 < s.length then ([], 0, 2) else parseRest (s.length + 1) s []

end Go.Gs
namespace Go.Gs
open Go.RowKit
set_option linter.unusedVariables false

structure SFile where
  name : List UInt8
  b : List UInt8

/-- CheckFiles' error of a file behind the one of that name. -/
def fbad (p : Option (List UInt8)) (f : SFile) : Int :=
  if isWord f.name = false then 1
  else if 4000 < f.b.length then 2
  else match p with
    | none => 0
    | some q => if q < f.name then 0 else 6
def fchkFrom : Option (List UInt8) → List SFile → Int
  | _, [] => 0
  | p, f :: r => if fbad p f = 0 then fchkFrom (some f.name) r else fbad p f
/-- CheckFiles. -/
def fchk (l : List SFile) : Int := if 12 < l.length then 2 else fchkFrom none l
/-- The bytes of a file; none, if it isn't there. -/
def fileOf (l : List SFile) (n : List UInt8) : List UInt8 := ((l.find? (fun f => f.name == n)).map SFile.b).getD []
def putF : List SFile → List UInt8 → List UInt8 → List SFile
  | [], n, b => [⟨n, b⟩]
  | f :: r, n, b => if f.name = n then ⟨n, b⟩ :: r else if n < f.name then ⟨n, b⟩ :: f :: r else f :: putF r n b
/-- Put into right files. -/
def putS (l : List SFile) (n b : List UInt8) : List SFile × Int :=
  if isWord n = false then ([], 1)
  else if 4000 < b.length then ([], 2)
  else if 12 < (putF l n b).length then ([], 2)
  else (putF l n b, 0)
def gatherL (l : List SFile) : List (List UInt8) → List UInt8 → List UInt8 × Int
  | [], acc => (acc, 0)
  | s :: r, acc => if 4000 < (acc ++ ended (lines (fileOf l s))).length then ([], 2) else gatherL l r (acc ++ ended (lines (fileOf l s)))
/-- Gather of right files. -/
def gather (l : List SFile) (fr : List (List UInt8)) : List UInt8 × Int := if 4 < fr.length then ([], 2) else gatherL l fr []
def doAll (cs : List Cmd) (b : List UInt8) : List UInt8 := cs.foldl (fun b c => ended (made c (lines b))) b
/-- Line of right files and a right line. -/
def lineOf (l : List SFile) (x : SLine) : List UInt8 × Int := if (gather l x.fr).2 = 0 then (doAll x.cs (gather l x.fr).1, 0) else ([], (gather l x.fr).2)
/-- Run of right files and a right script. -/
def runL : List SFile → List SLine → List SFile × Int
  | l, [] => (l, 0)
  | l, x :: r => if (lineOf l x).2 = 0 then (if (putS l x.to (lineOf l x).1).2 = 0 then runL (putS l x.to (lineOf l x).1).1 r else ([], (putS l x.to (lineOf l x).1).2)) else ([], (lineOf l x).2)
def runS (l : List SFile) (s : List SLine) : List SFile × Int := if fchk l = 0 then (if schk s = 0 then runL l s else ([], schk s)) else ([], fchk l)
end Go.Gs
namespace Go.Gs
open Go.RowKit

structure SNode where
  kind : Int
  file : List UInt8
  c : Cmd
  how : Int
  wide : Int
  ins : List (Int × Int)

/-- How many outputs a node has. -/
def nouts (n : SNode) : Int := if n.kind = 2 then n.wide else if n.kind = 5 then 0 else 1
def zeroC (c : Cmd) : Bool := decide (c.kind = 0) && c.word.isEmpty && decide (c.n = 0)
/-- What is wrong with what a node's kind has a use for. -/
def nodeUsed (n : SNode) : Int :=
  if n.kind = 1 ∨ n.kind = 5 then (if isWord n.file then 0 else 1)
  else if n.kind = 2 then (if n.wide < 1 ∨ 5 < n.wide then 3 else 0)
  else if n.kind = 3 then chk n.c
  else if n.kind = 4 then jchk n.how n.c
  else 4
/-- May a node of a kind have so many inputs? -/
def mayHave (k : Int) (m : Nat) : Bool := if k = 1 then decide (m = 0) else if k = 4 then decide (1 ≤ m ∧ m ≤ 5) else decide (m = 1)
/-- Isn't something zero that a node's kind has no use for? -/
def hasUnused (n : SNode) : Bool :=
  (!decide (n.kind = 1 ∨ n.kind = 5) && !n.file.isEmpty) || (!decide (n.kind = 2) && !decide (n.wide = 0)) || (!decide (n.kind = 3 ∨ n.kind = 4) && !zeroC n.c) || (!decide (n.kind = 4) && !decide (n.how = 0))
def nodeChk (n : SNode) : Int := if nodeUsed n ≠ 0 then nodeUsed n else if !mayHave n.kind n.ins.length || hasUnused n then 4 else 0
/-- Is there such a port of a node ahead? -/
def portOk (ns : List SNode) (p : Int × Int) : Bool := decide (0 ≤ p.1) && decide (p.1 < ns.length) && decide (0 ≤ p.2) && ((ns[p.1.toNat]?).map (fun n => decide (p.2 < nouts n))).getD false
/-- Inputs, one by one, and which ports are taken then. -/
def insChk (ahead : List SNode) : List (Int × Int) → List (Int × Int) → Int × List (Int × Int)
  | [], t => (0, t)
  | p :: r, t => if portOk ahead p = false then (5, t) else if p ∈ t then (6, t) else insChk ahead r (t ++ [p])
/-- Nodes, one by one. -/
def gchkL : List SNode → List SNode → List (Int × Int) → Int × List (Int × Int)
  | _, [], t => (0, t)
  | ahead, n :: r, t =>
    if nodeChk n ≠ 0 then (nodeChk n, t)
    else if (insChk ahead n.ins t).1 ≠ 0 then insChk ahead n.ins t
    else if r.isEmpty ≠ decide (n.kind = 5) then (4, t)
    else gchkL (ahead ++ [n]) r (insChk ahead n.ins t).2
def allOuts (ns : List SNode) : Int := (ns.map nouts).sum
def gchk (ns : List SNode) : Int :=
  if 60 < ns.length then 2
  else if (gchkL [] ns []).1 ≠ 0 then (gchkL [] ns []).1
  else if ns.length = 0 ∨ ((gchkL [] ns []).2.length : Int) ≠ allOuts ns then 4
  else 0

/-- What is at a port. -/
def portAt (outs : List (List (List UInt8))) (p : Int × Int) : List UInt8 := ((outs[p.1.toNat]?).getD [])[p.2.toNat]?.getD []
/-- Part k of p. -/
def partOf (bs : List UInt8) (p k : Nat) : List UInt8 := ended (((lines bs).take ((k + 1) * (lines bs).length / p)).drop (k * (lines bs).length / p))
/-- What a node makes of what comes in. -/
def nodeMade (n : SNode) (fs : List SFile) (ins : List (List UInt8)) : List (List UInt8) :=
  if n.kind = 1 then [ended (lines (fileOf fs n.file))]
  else if n.kind = 2 then (List.range n.wide.toNat).map (partOf (ins.head?.getD []) n.wide.toNat)
  else if n.kind = 3 then [ended (made n.c (lines (ins.head?.getD [])))]
  else if n.kind = 4 then [ended (joined n.how n.c (ins.map lines))]
  else []
def outsL (fs : List SFile) : List (List (List UInt8)) → List SNode → List (List (List UInt8))
  | acc, [] => acc
  | acc, n :: r => outsL fs (acc ++ [nodeMade n fs (n.ins.map (portAt acc))]) r
/-- What comes into the sink of a right graph. -/
def sunk (ns : List SNode) (fs : List SFile) : List UInt8 := ((ns.getLast?).map (fun n => portAt (outsL fs [] ns) (n.ins.head?.getD (0, 0)))).getD []
def evalS (ns : List SNode) (fs : List SFile) : List UInt8 × Int := if gchk ns ≠ 0 then ([], gchk ns) else if fchk fs ≠ 0 then ([], fchk fs) else (sunk ns fs, 0)
end Go.Gs
namespace Go.Gs
open Go.RowKit
set_option linter.unusedVariables false

/-- 'v' is a slice of commands; they read as 'cs'. -/
def RCmds (w : World) (v : Value) (cs : List Cmd) : Prop :=
  ∃ ao cap, v = .slice ao cs.length cap ∧ cs.length ≤ cap ∧ cap ≤ maxLen ∧
    (cs.length ≠ 0 → ∃ b off, ao = some ⟨b, off, none⟩ ∧ ∀ j c, cs[j]? = some c → w.cell? ⟨b, off + j * 3, none⟩ = some (.int .i64 c.kind) ∧ w.cell? ⟨b, off + j * 3 + 1, none⟩ = some (.string ⟨c.word.toArray⟩) ∧ w.cell? ⟨b, off + j * 3 + 2, none⟩ = some (.int .i64 c.n))
theorem RCmds.below {w w' : World} {v : Value} {cs : List Cmd} (h : RCmds w v cs) (hb : Below w.heap.size w w') : RCmds w' v cs := by
  obtain ⟨ao, cap, rfl, h2, h3, h4⟩ := h
  refine ⟨ao, cap, rfl, h2, h3, fun hn => ?_⟩
  obtain ⟨b, off, rfl, hc⟩ := h4 hn
  refine ⟨b, off, rfl, fun j c hj => ?_⟩
  obtain ⟨a1, a2, a3⟩ := hc j c hj
  exact ⟨(hb.cell (World.block_lt_of_cell? w _ a1)).trans a1, (hb.cell (World.block_lt_of_cell? w _ a2)).trans a2, (hb.cell (World.block_lt_of_cell? w _ a3)).trans a3⟩
theorem RCmds.shape {w : World} {v : Value} {cs : List Cmd} (h : RCmds w v cs) : ∃ ao cap, v = .slice ao cs.length cap ∧ cs.length ≤ cap ∧ cap ≤ maxLen := by
  obtain ⟨ao, cap, h1, h2, h3, _⟩ := h
  exact ⟨ao, cap, h1, h2, h3⟩
theorem RCmds.at {w : World} {ao : Option Addr} {n cap : Nat} {cs : List Cmd} (h : RCmds w (.slice ao n cap) cs) {k : Nat} {c : Cmd} (hk : cs[k]? = some c) :
    ∃ b off, ao = some ⟨b, off, none⟩ ∧ w.cell? ⟨b, off + k * 3, none⟩ = some (.int .i64 c.kind) ∧ w.cell? ⟨b, off + k * 3 + 1, none⟩ = some (.string ⟨c.word.toArray⟩) ∧ w.cell? ⟨b, off + k * 3 + 2, none⟩ = some (.int .i64 c.n) := by
  obtain ⟨ao', cap', e, _, _, h5⟩ := h
  injection e with e1 e2 e3
  subst e1
  obtain ⟨hkl, _⟩ := List.getElem?_eq_some_iff.1 hk
  obtain ⟨b, off, hao, hc⟩ := h5 (by omega)
  exact ⟨b, off, hao, hc k c hk⟩

/-- 'v' is a slice of lines of a script; they read as 'ls'. -/
def RLines (w : World) (v : Value) (ls : List SLine) : Prop :=
  ∃ ao cap, v = .slice ao ls.length cap ∧ ls.length ≤ cap ∧ cap ≤ maxLen ∧
    (ls.length ≠ 0 → ∃ b off, ao = some ⟨b, off, none⟩ ∧ ∀ j x, ls[j]? = some x → ∃ vf vd, w.cell? ⟨b, off + j * 3, none⟩ = some vf ∧ w.cell? ⟨b, off + j * 3 + 1, none⟩ = some vd ∧ w.cell? ⟨b, off + j * 3 + 2, none⟩ = some (.string ⟨x.to.toArray⟩) ∧ Reads w vf x.fr.length (x.fr.map S) ∧ RCmds w vd x.cs)
theorem RLines.below {w w' : World} {v : Value} {ls : List SLine} (h : RLines w v ls) (hb : Below w.heap.size w w') : RLines w' v ls := by
  obtain ⟨ao, cap, rfl, h2, h3, h4⟩ := h
  refine ⟨ao, cap, rfl, h2, h3, fun hn => ?_⟩
  obtain ⟨b, off, rfl, hc⟩ := h4 hn
  refine ⟨b, off, rfl, fun j c hj => ?_⟩
  obtain ⟨vf, vd, a1, a2, a3, a4, a5⟩ := hc j c hj
  exact ⟨vf, vd, (hb.cell (World.block_lt_of_cell? w _ a1)).trans a1, (hb.cell (World.block_lt_of_cell? w _ a2)).trans a2, (hb.cell (World.block_lt_of_cell? w _ a3)).trans a3, a4.below hb, a5.below hb⟩
theorem RLines.shape {w : World} {v : Value} {ls : List SLine} (h : RLines w v ls) : ∃ ao cap, v = .slice ao ls.length cap ∧ ls.length ≤ cap ∧ cap ≤ maxLen := by
  obtain ⟨ao, cap, h1, h2, h3, _⟩ := h
  exact ⟨ao, cap, h1, h2, h3⟩
theorem Reads.shape {w : World} {v : Value} {n : Nat} {xs : List Value} (h : Reads w v n xs) : ∃ ao cap, v = .slice ao n cap ∧ n ≤ cap ∧ cap ≤ maxLen := by
  obtain ⟨_, ao, cap, h1, h2, h3, _⟩ := h
  exact ⟨ao, cap, h1, h2, h3⟩
theorem Reads.at {w : World} {ao : Option Addr} {n cap : Nat} {fr : List (List UInt8)} (h : Reads w (.slice ao n cap) n (fr.map S)) {k : Nat} {s : List UInt8} (hk : fr[k]? = some s) :
    ∃ b off, ao = some ⟨b, off, none⟩ ∧ w.cell? ⟨b, off + k, none⟩ = some (.string ⟨s.toArray⟩) := by
  obtain ⟨h1, ao', cap', e, _, _, h5⟩ := h
  injection e with e1 e2 e3
  subst e1
  obtain ⟨hkl, _⟩ := List.getElem?_eq_some_iff.1 hk
  rw [List.length_map] at h1
  obtain ⟨b, off, hao, hc⟩ := h5 (by omega)
  exact ⟨b, off, hao, hc k (S s) (by rw [List.getElem?_map, hk]; rfl)⟩
theorem RLines.at {w : World} {ao : Option Addr} {n cap : Nat} {ls : List SLine} (h : RLines w (.slice ao n cap) ls) {k : Nat} {x : SLine} (hk : ls[k]? = some x) :
    ∃ b off af cf ad cd, ao = some ⟨b, off, none⟩ ∧ w.cell? ⟨b, off + k * 3, none⟩ = some (.slice af x.fr.length cf) ∧ w.cell? ⟨b, off + k * 3 + 1, none⟩ = some (.slice ad x.cs.length cd) ∧ w.cell? ⟨b, off + k * 3 + 2, none⟩ = some (.string ⟨x.to.toArray⟩) ∧ Reads w (.slice af x.fr.length cf) x.fr.length (x.fr.map S) ∧ RCmds w (.slice ad x.cs.length cd) x.cs := by
  obtain ⟨ao', cap', e, _, _, h5⟩ := h
  injection e with e1 e2 e3
  subst e1
  obtain ⟨hkl, _⟩ := List.getElem?_eq_some_iff.1 hk
  obtain ⟨b, off, hao, hc⟩ := h5 (by omega)
  obtain ⟨vf, vd, a1, a2, a3, a4, a5⟩ := hc k x hk
  obtain ⟨af, cf, rfl, _, _⟩ := a4.shape
  obtain ⟨ad, cd, rfl, _, _⟩ := a5.shape
  exact ⟨b, off, af, cf, ad, cd, hao, a1, a2, a3, a4, a5⟩

/-- Strings that Go can hold. -/
def FitsC (cs : List Cmd) : Prop := ∀ c ∈ cs, c.word.length ≤ 9223372036854775807
def FitsL (x : SLine) : Prop := (∀ s ∈ x.fr, s.length ≤ 9223372036854775807) ∧ FitsC x.cs ∧ x.to.length ≤ 9223372036854775807
end Go.Gs
namespace Go.Gs
open Go.RowKit
set_option linter.unusedVariables false

/-- 'v' is a slice of files; they read as 'fs'. -/
def RFiles (w : World) (v : Value) (fs : List SFile) : Prop :=
  ∃ ao cap, v = .slice ao fs.length cap ∧ fs.length ≤ cap ∧ cap ≤ maxLen ∧
    (fs.length ≠ 0 → ∃ b off, ao = some ⟨b, off, none⟩ ∧ ∀ j f, fs[j]? = some f → ∃ vb, w.cell? ⟨b, off + j * 2, none⟩ = some (.string ⟨f.name.toArray⟩) ∧ w.cell? ⟨b, off + j * 2 + 1, none⟩ = some vb ∧ Reads w vb f.b.length (f.b.map U))
theorem RFiles.below {w w' : World} {v : Value} {fs : List SFile} (h : RFiles w v fs) (hb : Below w.heap.size w w') : RFiles w' v fs := by
  obtain ⟨ao, cap, rfl, h2, h3, h4⟩ := h
  refine ⟨ao, cap, rfl, h2, h3, fun hn => ?_⟩
  obtain ⟨b, off, rfl, hc⟩ := h4 hn
  refine ⟨b, off, rfl, fun j c hj => ?_⟩
  obtain ⟨vb, a1, a2, a3⟩ := hc j c hj
  exact ⟨vb, (hb.cell (World.block_lt_of_cell? w _ a1)).trans a1, (hb.cell (World.block_lt_of_cell? w _ a2)).trans a2, a3.below hb⟩
theorem RFiles.shape {w : World} {v : Value} {fs : List SFile} (h : RFiles w v fs) : ∃ ao cap, v = .slice ao fs.length cap ∧ fs.length ≤ cap ∧ cap ≤ maxLen := by
  obtain ⟨ao, cap, h1, h2, h3, _⟩ := h
  exact ⟨ao, cap, h1, h2, h3⟩
theorem RFiles.at {w : World} {ao : Option Addr} {n cap : Nat} {fs : List SFile} (h : RFiles w (.slice ao n cap) fs) {k : Nat} {f : SFile} (hk : fs[k]? = some f) :
    ∃ b off ab cb, ao = some ⟨b, off, none⟩ ∧ w.cell? ⟨b, off + k * 2, none⟩ = some (.string ⟨f.name.toArray⟩) ∧ w.cell? ⟨b, off + k * 2 + 1, none⟩ = some (.slice ab f.b.length cb) ∧ Reads w (.slice ab f.b.length cb) f.b.length (f.b.map U) := by
  obtain ⟨ao', cap', e, _, _, h5⟩ := h
  injection e with e1 e2 e3
  subst e1
  obtain ⟨hkl, _⟩ := List.getElem?_eq_some_iff.1 hk
  obtain ⟨b, off, hao, hc⟩ := h5 (by omega)
  obtain ⟨vb, a1, a2, a3⟩ := hc k f hk
  obtain ⟨ab, cb, rfl, _, _⟩ := a3.shape
  exact ⟨b, off, ab, cb, hao, a1, a2, a3⟩
theorem rfiles_le {w : World} {ao : Option Addr} {n cap : Nat} {fs : List SFile} (h : RFiles w (.slice ao n cap) fs) : n ≤ cap ∧ cap ≤ 9223372036854775807 := by
  obtain ⟨_, c, e, h1, h2⟩ := h.shape
  unfold maxLen at h2
  injection e with e1 e2 e3
  omega
/-- Names that Go can hold. -/
def FitsF (f : SFile) : Prop := f.name.length ≤ 9223372036854775807
end Go.Gs
namespace Go.Gs
open Go.RowKit
set_option linter.unusedVariables false

/-- 'v' is a slice of ports; they read as 'ps'. -/
def RPorts (w : World) (v : Value) (ps : List (Int × Int)) : Prop :=
  ∃ ao cap, v = .slice ao ps.length cap ∧ ps.length ≤ cap ∧ cap ≤ maxLen ∧
    (ps.length ≠ 0 → ∃ b off, ao = some ⟨b, off, none⟩ ∧ ∀ (j : Nat) p, ps[j]? = some p → w.cell? ⟨b, off + j * 2, none⟩ = some (.int .i64 p.1) ∧ w.cell? ⟨b, off + j * 2 + 1, none⟩ = some (.int .i64 p.2))
theorem RPorts.below {w w' : World} {v : Value} {ps : List (Int × Int)} (h : RPorts w v ps) (hb : Below w.heap.size w w') : RPorts w' v ps := by
  obtain ⟨ao, cap, rfl, h2, h3, h4⟩ := h
  refine ⟨ao, cap, rfl, h2, h3, fun hn => ?_⟩
  obtain ⟨b, off, rfl, hc⟩ := h4 hn
  refine ⟨b, off, rfl, fun j c hj => ?_⟩
  obtain ⟨a1, a2⟩ := hc j c hj
  exact ⟨(hb.cell (World.block_lt_of_cell? w _ a1)).trans a1, (hb.cell (World.block_lt_of_cell? w _ a2)).trans a2⟩
theorem RPorts.shape {w : World} {v : Value} {ps : List (Int × Int)} (h : RPorts w v ps) : ∃ ao cap, v = .slice ao ps.length cap ∧ ps.length ≤ cap ∧ cap ≤ maxLen := by
  obtain ⟨ao, cap, h1, h2, h3, _⟩ := h
  exact ⟨ao, cap, h1, h2, h3⟩
theorem RPorts.at {w : World} {ao : Option Addr} {n cap : Nat} {ps : List (Int × Int)} (h : RPorts w (.slice ao n cap) ps) {k : Nat} {p : Int × Int} (hk : ps[k]? = some p) :
    ∃ b off, ao = some ⟨b, off, none⟩ ∧ w.cell? ⟨b, off + k * 2, none⟩ = some (.int .i64 p.1) ∧ w.cell? ⟨b, off + k * 2 + 1, none⟩ = some (.int .i64 p.2) := by
  obtain ⟨ao', cap', e, _, _, h5⟩ := h
  injection e with e1 e2 e3
  subst e1
  obtain ⟨hkl, _⟩ := List.getElem?_eq_some_iff.1 hk
  obtain ⟨b, off, hao, hc⟩ := h5 (by omega)
  obtain ⟨a1, a2⟩ := hc k p hk
  exact ⟨b, off, hao, a1, a2⟩
theorem rports_le {w : World} {ao : Option Addr} {n cap : Nat} {ps : List (Int × Int)} (h : RPorts w (.slice ao n cap) ps) : n ≤ cap ∧ cap ≤ 9223372036854775807 := by
  obtain ⟨_, c, e, h1, h2⟩ := h.shape
  unfold maxLen at h2
  injection e with e1 e2 e3
  omega

/-- The cells of a node lie from 'off' on. -/
def NodeAt (w : World) (b off : Nat) (n : SNode) (ai : Option Addr) (ci : Nat) : Prop :=
  w.cell? ⟨b, off, none⟩ = some (.int .i64 n.kind) ∧ w.cell? ⟨b, off + 1, none⟩ = some (.string ⟨n.file.toArray⟩) ∧ w.cell? ⟨b, off + 2, none⟩ = some (.int .i64 n.c.kind) ∧ w.cell? ⟨b, off + 3, none⟩ = some (.string ⟨n.c.word.toArray⟩) ∧
  w.cell? ⟨b, off + 4, none⟩ = some (.int .i64 n.c.n) ∧ w.cell? ⟨b, off + 5, none⟩ = some (.int .i64 n.how) ∧ w.cell? ⟨b, off + 6, none⟩ = some (.int .i64 n.wide) ∧ w.cell? ⟨b, off + 7, none⟩ = some (.slice ai n.ins.length ci)
theorem NodeAt.below {w w' : World} {b off : Nat} {n : SNode} {ai : Option Addr} {ci : Nat} (h : NodeAt w b off n ai ci) (hb : Below w.heap.size w w') : NodeAt w' b off n ai ci := by
  obtain ⟨a0, a1, a2, a3, a4, a5, a6, a7⟩ := h
  exact ⟨(hb.cell (World.block_lt_of_cell? w _ a0)).trans a0, (hb.cell (World.block_lt_of_cell? w _ a1)).trans a1, (hb.cell (World.block_lt_of_cell? w _ a2)).trans a2, (hb.cell (World.block_lt_of_cell? w _ a3)).trans a3,
    (hb.cell (World.block_lt_of_cell? w _ a4)).trans a4, (hb.cell (World.block_lt_of_cell? w _ a5)).trans a5, (hb.cell (World.block_lt_of_cell? w _ a6)).trans a6, (hb.cell (World.block_lt_of_cell? w _ a7)).trans a7⟩
/-- 'v' is a slice of nodes; they read as 'ns'. -/
def RNodes (w : World) (v : Value) (ns : List SNode) : Prop :=
  ∃ ao cap, v = .slice ao ns.length cap ∧ ns.length ≤ cap ∧ cap ≤ maxLen ∧
    (ns.length ≠ 0 → ∃ b off, ao = some ⟨b, off, none⟩ ∧ ∀ (j : Nat) n, ns[j]? = some n → ∃ ai ci, NodeAt w b (off + j * 8) n ai ci ∧ RPorts w (.slice ai n.ins.length ci) n.ins)
theorem RNodes.below {w w' : World} {v : Value} {ns : List SNode} (h : RNodes w v ns) (hb : Below w.heap.size w w') : RNodes w' v ns := by
  obtain ⟨ao, cap, rfl, h2, h3, h4⟩ := h
  refine ⟨ao, cap, rfl, h2, h3, fun hn => ?_⟩
  obtain ⟨b, off, rfl, hc⟩ := h4 hn
  refine ⟨b, off, rfl, fun j c hj => ?_⟩
  obtain ⟨ai, ci, a1, a2⟩ := hc j c hj
  exact ⟨ai, ci, a1.below hb, a2.below hb⟩
theorem RNodes.shape {w : World} {v : Value} {ns : List SNode} (h : RNodes w v ns) : ∃ ao cap, v = .slice ao ns.length cap ∧ ns.length ≤ cap ∧ cap ≤ maxLen := by
  obtain ⟨ao, cap, h1, h2, h3, _⟩ := h
  exact ⟨ao, cap, h1, h2, h3⟩
theorem RNodes.at {w : World} {ao : Option Addr} {n cap : Nat} {ns : List SNode} (h : RNodes w (.slice ao n cap) ns) {k : Nat} {x : SNode} (hk : ns[k]? = some x) :
    ∃ b off ai ci, ao = some ⟨b, off, none⟩ ∧ NodeAt w b (off + k * 8) x ai ci ∧ RPorts w (.slice ai x.ins.length ci) x.ins := by
  obtain ⟨ao', cap', e, _, _, h5⟩ := h
  injection e with e1 e2 e3
  subst e1
  obtain ⟨hkl, _⟩ := List.getElem?_eq_some_iff.1 hk
  obtain ⟨b, off, hao, hc⟩ := h5 (by omega)
  obtain ⟨ai, ci, a1, a2⟩ := hc k x hk
  exact ⟨b, off, ai, ci, hao, a1, a2⟩
theorem rnodes_le {w : World} {ao : Option Addr} {n cap : Nat} {ns : List SNode} (h : RNodes w (.slice ao n cap) ns) : n ≤ cap ∧ cap ≤ 9223372036854775807 := by
  obtain ⟨_, c, e, h1, h2⟩ := h.shape
  unfold maxLen at h2
  injection e with e1 e2 e3
  omega
/-- The first nodes. -/
theorem RNodes.take {w : World} {ao : Option Addr} {n cap : Nat} {ns : List SNode} (h : RNodes w (.slice ao n cap) ns) (k : Nat) (hk : k ≤ ns.length) : RNodes w (.slice ao k cap) (ns.take k) := by
  obtain ⟨ao', cap', e, h2, h3, h5⟩ := h
  injection e with e1 e2 e3
  subst e1
  subst e3
  have hl : (ns.take k).length = k := by rw [List.length_take]; omega
  refine ⟨ao, cap, by rw [hl], by omega, h3, fun hn => ?_⟩
  obtain ⟨b, off, hao, hc⟩ := h5 (by omega)
  refine ⟨b, off, hao, fun j x hj => hc j x ?_⟩
  obtain ⟨hj1, _⟩ := List.getElem?_eq_some_iff.1 hj
  rwa [List.getElem?_take_of_lt (by omega)] at hj
/-- Texts and numbers that Go can hold. -/
def FitsN (n : SNode) : Prop := n.file.length ≤ 9223372036854775807 ∧ n.c.word.length ≤ 9223372036854775807 ∧ (∀ p ∈ n.ins, (Lit.int .i64 p.1).wf = true ∧ (Lit.int .i64 p.2).wf = true)
end Go.Gs
namespace Go.Gs
open Go.RowKit
set_option linter.unusedVariables false

/-! ### How long what is made is -/

theorem itoa_len6 (n : Nat) (h : n ≤ 999999) : (Lib.itoa (n : Int)).length ≤ 6 := by
  unfold Lib.itoa
  rw [if_neg (by omega)]
  exact decDigits_len 5 _ (by simp; omega)
theorem made_len6 (c : Cmd) (h : chk c = 0) (ls : List (List UInt8)) (hl : ls.length ≤ 999999) : (ended (made c ls)).length ≤ (ended ls).length + 7 := by
  have hk := chk_kinds c h
  by_cases e8 : c.kind = 8
  · rw [made8 c e8]; have := itoa_len6 ls.length hl; simp [ended]; omega
  have : c.kind = 1 ∨ c.kind = 2 ∨ c.kind = 3 ∨ c.kind = 4 ∨ c.kind = 5 ∨ c.kind = 6 ∨ c.kind = 7 ∨ c.kind = 9 ∨ c.kind = 10 := by omega
  rcases this with e | e | e | e | e | e | e | e | e
  · rw [made1 c e]; have := ended_len_sub (List.filter_sublist (p := fun s => Lib.contains s c.word) (l := ls)); omega
  · rw [made2 c e]; have := ended_len_sub (List.filter_sublist (p := fun s => !Lib.contains s c.word) (l := ls)); omega
  · rw [made3 c e]; have := ended_len_map (swapOf (c.word.getD 0 0) (c.word.getD 1 0)) (fun s => by simp [swapOf]) ls; omega
  · rw [made4 c e]; have := ended_len_map (fieldOf c.n) (fieldOf_len c.n) ls; omega
  · rw [made5 c e]; have := ended_len_map List.reverse (fun s => by simp) ls; omega
  · rw [made6 c e]; have := ended_len_perm (sortOf_perm ls); omega
  · rw [made7 c e]; have := ended_len_sub (compact_sub ls); omega
  · rw [made9 c e]; have := ended_len_sub (List.take_sublist c.n.toNat ls); omega
  · rw [made10 c e]; have := ended_len_sub (List.drop_sublist (ls.length - c.n.toNat) ls); omega
theorem joined_len6 (how : Int) (c : Cmd) (hc : how = 4 → chk c = 0) (ps : List (List (List UInt8))) (hl : ps.flatten.length ≤ 999999) (h5 : ps.length ≤ 5) : (ended (joined how c ps)).length ≤ (ended ps.flatten).length + 7 := by
  unfold joined
  split
  · have := ended_len_perm (mergeOf_perm ps); omega
  · split
    · have h1 := sumOf_le ps
      have h2 := itoa_len6 (sumOf ps) (by omega)
      simp [ended]
      omega
    · split
      · rename_i h4
        have := made_len6 c (hc h4) ps.flatten hl
        omega
      · omega

/-- Parts, one behind the other. -/
theorem parts_upto (ls : List (List UInt8)) (p : Nat) : ∀ m, m ≤ p → (((List.range m).map (fun k => ended ((ls.take ((k + 1) * ls.length / p)).drop (k * ls.length / p)))).flatten) = ended (ls.take (m * ls.length / p)) := by
  intro m
  induction m with
  | zero => intro _; simp [ended]
  | succ m ih =>
    intro h
    have hle : m * ls.length / p ≤ (m + 1) * ls.length / p := Nat.div_le_div_right (Nat.mul_le_mul_right _ (by omega))
    rw [List.range_succ, List.map_append, List.flatten_append, ih (by omega)]
    simp only [List.map_cons, List.map_nil, List.flatten_cons, List.flatten_nil, List.append_nil]
    rw [← ended_append]
    congr 1
    have e := List.take_append_drop (m * ls.length / p) (ls.take ((m + 1) * ls.length / p))
    rw [List.take_take, Nat.min_eq_left hle] at e
    exact e
theorem parts_whole (bs : List UInt8) (p : Nat) (hp : 0 < p) : ((List.range p).map (partOf bs p)).flatten = ended (lines bs) := by
  have := parts_upto (lines bs) p p (Nat.le_refl _)
  rw [Nat.mul_div_cancel_left _ hp, List.take_length] at this
  exact this

theorem node_kinds {n : SNode} (h : nodeChk n = 0) : nodeUsed n = 0 ∧ mayHave n.kind n.ins.length = true ∧ hasUnused n = false := by
  unfold nodeChk at h
  by_cases h0 : nodeUsed n = 0
  · rw [if_neg (by simp [h0])] at h
    by_cases h1 : (!mayHave n.kind n.ins.length || hasUnused n) = true
    · rw [if_pos h1] at h; cases h
    · simp at h1
      exact ⟨h0, h1.1, h1.2⟩
  · rw [if_pos h0] at h; exact absurd h h0
theorem used_kinds {n : SNode} (h : nodeUsed n = 0) : ((n.kind = 1 ∨ n.kind = 5) ∧ isWord n.file = true) ∨ (n.kind = 2 ∧ 1 ≤ n.wide ∧ n.wide ≤ 5) ∨ (n.kind = 3 ∧ chk n.c = 0) ∨ (n.kind = 4 ∧ jchk n.how n.c = 0) := by
  unfold nodeUsed at h
  by_cases h1 : n.kind = 1 ∨ n.kind = 5
  · rw [if_pos h1] at h
    cases hw : isWord n.file with
    | true => exact .inl ⟨h1, rfl⟩
    | false => rw [hw] at h; cases h
  · rw [if_neg h1] at h
    by_cases h2 : n.kind = 2
    · rw [if_pos h2] at h
      by_cases hr : n.wide < 1 ∨ 5 < n.wide
      · rw [if_pos hr] at h; cases h
      · exact .inr (.inl ⟨h2, by omega, by omega⟩)
    · rw [if_neg h2] at h
      by_cases h3 : n.kind = 3
      · rw [if_pos h3] at h
        exact .inr (.inr (.inl ⟨h3, h⟩))
      · rw [if_neg h3] at h
        by_cases h4 : n.kind = 4
        · rw [if_pos h4] at h
          exact .inr (.inr (.inr ⟨h4, h⟩))
        · rw [if_neg h4] at h; cases h
theorem flat_sum (bss : List (List UInt8)) : bss.flatten.length = (bss.map List.length).sum := by
  induction bss with
  | nil => rfl
  | cons b r ih => simp [ih]
theorem flat_one (a : List UInt8) : ([a] : List (List UInt8)).flatten.length = a.length := by simp
/-- A node gives out little more than what came in. -/
theorem nodeMade_len {n : SNode} (h : nodeChk n = 0) (fs : List SFile) (hf : ∀ f ∈ fs, f.b.length ≤ 4000) (ins : List (List UInt8)) (hi : ins.length = n.ins.length) (hl : ins.flatten.length ≤ 900000) :
    (nodeMade n fs ins).flatten.length ≤ ins.flatten.length + 4020 := by
  obtain ⟨h1, h2, _⟩ := node_kinds h
  unfold nodeMade
  rcases used_kinds h1 with ⟨h3 | h3, _⟩ | ⟨h3, h4, h5⟩ | ⟨h3, h4⟩ | ⟨h3, h4⟩
  · rw [if_pos h3]
    have e1 := ended_lines (fileOf fs n.file)
    have e2 : (fileOf fs n.file).length ≤ 4000 := by
      unfold fileOf
      cases hq : fs.find? (fun f => f.name == n.file) with
      | none => simp
      | some f => exact hf f (List.mem_of_find?_eq_some hq)
    rw [flat_one]
    omega
  · rw [if_neg (by omega), if_neg (by omega), if_neg (by omega), if_neg (by omega)]
    simp
  · rw [if_neg (by omega), if_pos h3, parts_whole _ _ (by omega)]
    have e1 := ended_lines (ins.head?.getD [])
    have e2 : (ins.head?.getD []).length ≤ ins.flatten.length := by
      cases ins with
      | nil => simp
      | cons a r => simp
    omega
  · rw [if_neg (by omega), if_neg (by omega), if_pos h3]
    have e1 := ended_lines (ins.head?.getD [])
    have e2 : (ins.head?.getD []).length ≤ ins.flatten.length := by
      cases ins with
      | nil => simp
      | cons a r => simp
    have e3 := made_len6 n.c h4 (lines (ins.head?.getD [])) (by have := lines_length (ins.head?.getD []); omega)
    rw [flat_one]
    omega
  · rw [if_neg (by omega), if_neg (by omega), if_neg (by omega), if_pos h3]
    have h5 : ins.length ≤ 5 := by
      rw [hi]
      unfold mayHave at h2
      rw [if_neg (by omega), if_pos h3] at h2
      exact (of_decide_eq_true h2).2
    have e1 := joined_len6 n.how n.c (jchk_chk h4) (ins.map lines) (by have := flat_lines_count ins; omega) (by simpa using h5)
    have e2 := flat_lines_len ins
    rw [flat_one]
    omega

/-! ### Which ports are taken -/

theorem ins_facts (ahead : List SNode) : ∀ (ps t : List (Int × Int)), (insChk ahead ps t).1 = 0 → (insChk ahead ps t).2 = t ++ ps ∧ (∀ p ∈ ps, portOk ahead p = true ∧ p ∉ t) ∧ ps.Nodup
  | [], t, _ => by simp [insChk]
  | p :: r, t, h => by
    unfold insChk at h ⊢
    by_cases h1 : portOk ahead p = false
    · rw [if_pos h1] at h; cases h
    · rw [if_neg h1] at h ⊢
      by_cases h2 : p ∈ t
      · rw [if_pos h2] at h; cases h
      · rw [if_neg h2] at h ⊢
        obtain ⟨e1, e2, e3⟩ := ins_facts ahead r (t ++ [p]) h
        refine ⟨by rw [e1]; simp, ?_, ?_⟩
        · intro q hq
          rcases List.mem_cons.1 hq with rfl | hq
          · exact ⟨by simpa using h1, h2⟩
          · have := e2 q hq
            exact ⟨this.1, fun hm => this.2 (by simp [hm])⟩
        · rw [List.nodup_cons]
          exact ⟨fun hm => (e2 p hm).2 (by simp), e3⟩
theorem port_nat {ns : List SNode} {p : Int × Int} (h : portOk ns p = true) : ∃ (i k : Nat) (n : SNode), p = (↑i, ↑k) ∧ ns[i]? = some n ∧ (k : Int) < nouts n := by
  unfold portOk at h
  simp only [Bool.and_eq_true, decide_eq_true_eq] at h
  obtain ⟨⟨⟨h1, h2⟩, h3⟩, h4⟩ := h
  refine ⟨p.1.toNat, p.2.toNat, ?_⟩
  cases hn : ns[p.1.toNat]? with
  | none => rw [hn] at h4; cases h4
  | some n =>
    rw [hn] at h4
    refine ⟨n, Prod.ext (by simp; omega) (by simp; omega), rfl, ?_⟩
    have : p.2 < nouts n := by simpa using h4
    omega

/-! ### What is at the ports -/

theorem outsL_len (fs : List SFile) : ∀ (ns : List SNode) (acc : List (List (List UInt8))), (outsL fs acc ns).length = acc.length + ns.length
  | [], acc => rfl
  | n :: r, acc => by
    show (outsL fs _ r).length = _
    rw [outsL_len fs r]
    simp
    omega
theorem outsL_append (fs : List SFile) : ∀ (a b : List SNode) (acc : List (List (List UInt8))), outsL fs acc (a ++ b) = outsL fs (outsL fs acc a) b
  | [], b, acc => rfl
  | n :: r, b, acc => outsL_append fs r b _
theorem outsL_keep (fs : List SFile) : ∀ (ns : List SNode) (acc : List (List (List UInt8))) (i : Nat), i < acc.length → (outsL fs acc ns)[i]? = acc[i]?
  | [], acc, i, h => rfl
  | n :: r, acc, i, h => by
    show (outsL fs _ r)[i]? = _
    rw [outsL_keep fs r _ i (by simp; omega), List.getElem?_append_left h]
theorem outs_take (fs : List SFile) (ns : List SNode) (k : Nat) {n : SNode} (h : ns[k]? = some n) : outsL fs [] (ns.take (k + 1)) = outsL fs [] (ns.take k) ++ [nodeMade n fs (n.ins.map (portAt (outsL fs [] (ns.take k))))] := by
  rw [List.take_add_one, h, Option.toList_some, outsL_append]
  rfl
theorem portAt_take (fs : List SFile) (ns : List SNode) (i : Nat) {p : Int × Int} (h0 : 0 ≤ p.1) (h : p.1 < i) (hi : i ≤ ns.length) : portAt (outsL fs [] ns) p = portAt (outsL fs [] (ns.take i)) p := by
  unfold portAt
  rw [← List.take_append_drop i ns, outsL_append, outsL_keep]
  · rw [List.take_append_drop]
  · rw [outsL_len, List.length_take]; simp; omega

/-- How many outputs a node that is right gives. -/
theorem nodeMade_count {n : SNode} (h : nodeChk n = 0) (fs : List SFile) (ins : List (List UInt8)) : ((nodeMade n fs ins).length : Int) = nouts n := by
  obtain ⟨h1, _, _⟩ := node_kinds h
  unfold nodeMade nouts
  rcases used_kinds h1 with ⟨h3 | h3, _⟩ | ⟨h3, h4, h5⟩ | ⟨h3, h4⟩ | ⟨h3, h4⟩
  · rw [if_pos h3, if_neg (by omega), if_neg (by omega)]; rfl
  · rw [if_neg (by omega), if_neg (by omega), if_neg (by omega), if_neg (by omega), if_neg (by omega), if_pos h3]; rfl
  · rw [if_neg (by omega), if_pos h3, if_pos h3]
    simp
    omega
  · rw [if_neg (by omega), if_neg (by omega), if_pos h3, if_neg (by omega), if_neg (by omega)]; rfl
  · rw [if_neg (by omega), if_neg (by omega), if_neg (by omega), if_pos h3, if_neg (by omega), if_neg (by omega)]; rfl

/-- What a right graph's check went through: at each node. -/
theorem gchkL_take : ∀ (rest ahead : List SNode) (t : List (Int × Int)), (gchkL ahead rest t).1 = 0 → ∀ (k : Nat) (n : SNode), rest[k]? = some n →
    ∃ tk, gchkL ahead rest t = gchkL (ahead ++ rest.take k) (rest.drop k) tk ∧ nodeChk n = 0 ∧ (insChk (ahead ++ rest.take k) n.ins tk).1 = 0 ∧ ((rest.drop (k + 1)).isEmpty = decide (n.kind = 5))
  | [], _, _, _, k, n, hk => by simp at hk
  | m :: r, ahead, t, h, k, n, hk => by
    have h0 := h
    unfold gchkL at h
    by_cases h1 : nodeChk m ≠ 0
    · rw [if_pos h1] at h; exact absurd h h1
    · rw [if_neg h1] at h
      by_cases h2 : (insChk ahead m.ins t).1 ≠ 0
      · rw [if_pos h2] at h; exact absurd h h2
      · rw [if_neg h2] at h
        by_cases h3 : r.isEmpty ≠ decide (m.kind = 5)
        · rw [if_pos h3] at h; cases h
        · rw [if_neg h3] at h
          cases k with
          | zero =>
            simp at hk
            subst hk
            exact ⟨t, by simp, by simpa using h1, by simpa using h2, by simpa using h3⟩
          | succ k =>
            obtain ⟨tk, e1, e2, e3, e4⟩ := gchkL_take r (ahead ++ [m]) _ h k n (by simpa using hk)
            refine ⟨tk, ?_, e2, ?_, by simpa using e4⟩
            · conv => lhs; unfold gchkL
              rw [if_neg h1, if_neg h2, if_neg h3, e1]
              simp
            · simpa using e3
end Go.Gs
namespace Go.Gs
open Go.RowKit
set_option linter.unusedVariables false

abbrev Sizes := List ((Int × Int) × Nat)
def Sizes.sum (L : Sizes) : Nat := (L.map (·.2)).sum
theorem Sizes.sum_append (a b : Sizes) : Sizes.sum (a ++ b) = Sizes.sum a + Sizes.sum b := by simp [Sizes.sum]
theorem sizes_one (p : Int × Int) (s : Nat) : ∀ (L : Sizes), (p, s) ∈ L → Sizes.sum (L.filter (fun x => x.1 != p)) + s ≤ Sizes.sum L
  | [], h => by simp at h
  | x :: r, h => by
    have hr : Sizes.sum (r.filter (fun x => x.1 != p)) ≤ Sizes.sum r := by
      clear h
      induction r with
      | nil => simp [Sizes.sum]
      | cons y q ih =>
        rw [List.filter_cons]
        split
        · simp only [Sizes.sum, List.map_cons, List.sum_cons] at ih ⊢; omega
        · simp only [Sizes.sum, List.map_cons, List.sum_cons] at ih ⊢; omega
    rcases List.mem_cons.1 h with rfl | h
    · rw [List.filter_cons, if_neg (by simp)]
      simp only [Sizes.sum, List.map_cons, List.sum_cons] at hr ⊢
      omega
    · have ih := sizes_one p s r h
      rw [List.filter_cons]
      split
      · simp only [Sizes.sum, List.map_cons, List.sum_cons] at ih ⊢; omega
      · simp only [Sizes.sum, List.map_cons, List.sum_cons] at ih ⊢; omega
theorem sizes_many (f : Int × Int → Nat) : ∀ (ps : List (Int × Int)) (L : Sizes), ps.Nodup → (∀ p ∈ ps, (p, f p) ∈ L) →
    ∃ L' : Sizes, Sizes.sum L' + (ps.map f).sum ≤ Sizes.sum L ∧ ∀ x ∈ L, x.1 ∉ ps → x ∈ L'
  | [], L, _, _ => ⟨L, by simp, fun x h _ => h⟩
  | p :: r, L, hn, h => by
    rw [List.nodup_cons] at hn
    have h1 := sizes_one p (f p) L (h p (by simp))
    obtain ⟨L', h2, h3⟩ := sizes_many f r (L.filter (fun x => x.1 != p)) hn.2 (fun q hq => by
      rw [List.mem_filter]
      refine ⟨h q (by simp [hq]), ?_⟩
      have : q ≠ p := fun e => hn.1 (e ▸ hq)
      simpa using this)
    refine ⟨L', by simp only [List.map_cons, List.sum_cons]; omega, fun x hx hp => ?_⟩
    rw [List.mem_cons, not_or] at hp
    exact h3 x (List.mem_filter.2 ⟨hx, by simpa using hp.1⟩) hp.2
theorem sizes_new (k : Nat) (outs : List (List UInt8)) : Sizes.sum ((List.range outs.length).map (fun (j : Nat) => (((k : Int), (j : Int)), (outs[j]?.getD []).length))) = outs.flatten.length := by
  unfold Sizes.sum
  rw [List.map_map, flat_sum]
  congr 1
  apply List.ext_getElem?
  intro i
  by_cases hi : i < outs.length
  · simp [hi]
  · simp [hi]

/-- What holds ahead of node k. -/
def Ahead (fs : List SFile) (ns : List SNode) (k : Nat) : Prop :=
  ∃ (tk : List (Int × Int)) (L : Sizes), gchkL [] ns [] = gchkL (ns.take k) (ns.drop k) tk ∧ Sizes.sum L ≤ 4020 * k ∧
    ∀ p, portOk (ns.take k) p = true → p ∉ tk → (p, (portAt (outsL fs [] (ns.take k)) p).length) ∈ L

theorem gchkL_cons {ahead r : List SNode} {n : SNode} {t : List (Int × Int)} (h : (gchkL ahead (n :: r) t).1 = 0) :
    nodeChk n = 0 ∧ (insChk ahead n.ins t).1 = 0 ∧ (r.isEmpty = decide (n.kind = 5)) ∧ gchkL ahead (n :: r) t = gchkL (ahead ++ [n]) r (insChk ahead n.ins t).2 := by
  have h0 := h
  unfold gchkL at h
  by_cases h1 : nodeChk n ≠ 0
  · rw [if_pos h1] at h; exact absurd h h1
  · rw [if_neg h1] at h
    by_cases h2 : (insChk ahead n.ins t).1 ≠ 0
    · rw [if_pos h2] at h; exact absurd h h2
    · rw [if_neg h2] at h
      by_cases h3 : r.isEmpty ≠ decide (n.kind = 5)
      · rw [if_pos h3] at h; cases h
      · refine ⟨by simpa using h1, by simpa using h2, by simpa using h3, ?_⟩
        conv => lhs; unfold gchkL
        rw [if_neg h1, if_neg h2, if_neg h3]
theorem drop_node {ns : List SNode} {k : Nat} {n : SNode} (h : ns[k]? = some n) : ns.drop k = n :: ns.drop (k + 1) := by
  obtain ⟨hk, e⟩ := List.getElem?_eq_some_iff.1 h
  rw [← e, ← List.drop_eq_getElem_cons hk]
theorem take_node {ns : List SNode} {k : Nat} {n : SNode} (h : ns[k]? = some n) : ns.take (k + 1) = ns.take k ++ [n] := by
  rw [List.take_add_one, h, Option.toList_some]

theorem ahead_ins {fs : List SFile} {ns : List SNode} {k : Nat} {n : SNode} (hg : (gchkL [] ns []).1 = 0) (ha : Ahead fs ns k) (hn : ns[k]? = some n) :
    nodeChk n = 0 ∧ (∀ p ∈ n.ins, portOk (ns.take k) p = true) ∧ ((ns.drop (k + 1)).isEmpty = decide (n.kind = 5)) ∧ (n.ins.map (portAt (outsL fs [] (ns.take k)))).flatten.length ≤ 4020 * k := by
  obtain ⟨tk, L, h1, h2, h3⟩ := ha
  rw [h1, drop_node hn] at hg
  obtain ⟨e1, e2, e3, e4⟩ := gchkL_cons hg
  obtain ⟨f1, f2, f3⟩ := ins_facts _ _ _ e2
  refine ⟨e1, fun p hp => (f2 p hp).1, e3, ?_⟩
  obtain ⟨L', g1, _⟩ := sizes_many (fun p => (portAt (outsL fs [] (ns.take k)) p).length) n.ins L f3 (fun p hp => h3 p (f2 p hp).1 (f2 p hp).2)
  rw [flat_sum, List.map_map]
  have : (List.map (List.length ∘ portAt (outsL fs [] (ns.take k))) n.ins).sum = (List.map (fun p => (portAt (outsL fs [] (ns.take k)) p).length) n.ins).sum := rfl
  omega

theorem ahead_start (fs : List SFile) (ns : List SNode) : Ahead fs ns 0 := ⟨[], [], by simp, by simp [Sizes.sum], fun p h => by
  obtain ⟨i, j, n, _, hn, _⟩ := port_nat h
  simp at hn⟩

theorem ahead_step {fs : List SFile} {ns : List SNode} {k : Nat} {n : SNode} (hf : ∀ f ∈ fs, f.b.length ≤ 4000) (h60 : ns.length ≤ 60) (hg : (gchkL [] ns []).1 = 0) (ha : Ahead fs ns k) (hn : ns[k]? = some n) : Ahead fs ns (k + 1) := by
  have hk : k < ns.length := (List.getElem?_eq_some_iff.1 hn).1
  obtain ⟨q1, q2, q3, q4⟩ := ahead_ins hg ha hn
  obtain ⟨tk, L, h1, h2, h3⟩ := ha
  have hg0 := hg
  rw [h1, drop_node hn] at hg
  obtain ⟨e1, e2, e3, e4⟩ := gchkL_cons hg
  obtain ⟨f1, f2, f3⟩ := ins_facts _ _ _ e2
  obtain ⟨L', g1, g2⟩ := sizes_many (fun p => (portAt (outsL fs [] (ns.take k)) p).length) n.ins L f3 (fun p hp => h3 p (f2 p hp).1 (f2 p hp).2)
  have hml := nodeMade_len e1 fs hf (n.ins.map (portAt (outsL fs [] (ns.take k)))) (by simp) (by omega)
  obtain ⟨outs, ho⟩ : ∃ outs, outs = nodeMade n fs (n.ins.map (portAt (outsL fs [] (ns.take k)))) := ⟨_, rfl⟩
  have hcount := nodeMade_count e1 fs (n.ins.map (portAt (outsL fs [] (ns.take k))))
  have hout := outs_take fs ns k hn
  rw [← ho] at hml hcount hout
  refine ⟨tk ++ n.ins, L' ++ (List.range outs.length).map (fun (j : Nat) => (((k : Int), (j : Int)), (outs[j]?.getD []).length)), ?_, ?_, ?_⟩
  · rw [h1, drop_node hn, e4, f1, take_node hn]
  · rw [Sizes.sum_append, sizes_new]
    have hs : (n.ins.map (portAt (outsL fs [] (ns.take k)))).flatten.length = (List.map (fun p => (portAt (outsL fs [] (ns.take k)) p).length) n.ins).sum := by
      rw [flat_sum, List.map_map]; rfl
    omega
  · intro p hp hpt
    rw [List.mem_append, not_or] at hpt
    obtain ⟨i, j, m, rfl, hm, hj⟩ := port_nat hp
    rw [List.mem_append]
    have hik : i < (ns.take (k + 1)).length := (List.getElem?_eq_some_iff.1 hm).1
    rw [List.length_take] at hik
    rw [hout]
    by_cases hlt : i < k
    · left
      have hp' : portOk (ns.take k) ((i : Int), (j : Int)) = true := by
        unfold portOk
        have hm' : (ns.take k)[i]? = some m := by
          rw [List.getElem?_take_of_lt hlt]
          rwa [List.getElem?_take_of_lt (by omega)] at hm
        simp only [Int.toNat_natCast, hm', Option.map_some, Option.getD_some, Bool.and_eq_true, decide_eq_true_eq]
        refine ⟨⟨⟨by omega, ?_⟩, by omega⟩, hj⟩
        rw [List.length_take]
        omega
      have hin := h3 _ hp' hpt.1
      have hpa : portAt (outsL fs [] (ns.take k) ++ [outs]) ((i : Int), (j : Int)) = portAt (outsL fs [] (ns.take k)) ((i : Int), (j : Int)) := by
        unfold portAt
        rw [List.getElem?_append_left (by rw [outsL_len, List.length_take]; simp; omega)]
      rw [hpa]
      exact g2 _ hin hpt.2
    · right
      have hik' : i = k := by omega
      subst hik'
      have hmn : m = n := by
        rw [List.getElem?_take_of_lt (by omega), hn] at hm
        injection hm with hm
        exact hm.symm
      subst hmn
      rw [List.mem_map]
      refine ⟨j, List.mem_range.2 (by omega), ?_⟩
      unfold portAt
      rw [List.getElem?_append_right (by rw [outsL_len, List.length_take]; simp; omega), outsL_len, List.length_take, Nat.min_eq_left (by omega)]
      simp
theorem ahead_all {fs : List SFile} {ns : List SNode} (hf : ∀ f ∈ fs, f.b.length ≤ 4000) (h60 : ns.length ≤ 60) (hg : (gchkL [] ns []).1 = 0) : ∀ k, k ≤ ns.length → Ahead fs ns k
  | 0, _ => ahead_start fs ns
  | k + 1, h => by
    have hk : k < ns.length := by omega
    exact ahead_step hf h60 hg (ahead_all hf h60 hg k (by omega)) (List.getElem?_eq_getElem hk)

theorem gchk_zero {ns : List SNode} (h : gchk ns = 0) : ns.length ≤ 60 ∧ (gchkL [] ns []).1 = 0 ∧ 0 < ns.length ∧ ((gchkL [] ns []).2.length : Int) = allOuts ns := by
  unfold gchk at h
  by_cases h1 : 60 < ns.length
  · rw [if_pos h1] at h; cases h
  · rw [if_neg h1] at h
    by_cases h2 : (gchkL [] ns []).1 ≠ 0
    · rw [if_pos h2] at h; exact absurd h h2
    · rw [if_neg h2] at h
      by_cases h3 : ns.length = 0 ∨ ((gchkL [] ns []).2.length : Int) ≠ allOuts ns
      · rw [if_pos h3] at h; cases h
      · refine ⟨by omega, by simpa using h2, by omega, ?_⟩
        exact Decidable.byContradiction fun hc => h3 (.inr hc)

/-- What a right graph's node k is, and what comes in there. -/
theorem right_node {fs : List SFile} {ns : List SNode} (h : gchk ns = 0) (hf : ∀ f ∈ fs, f.b.length ≤ 4000) {k : Nat} {n : SNode} (hn : ns[k]? = some n) :
    nodeChk n = 0 ∧ (∀ p ∈ n.ins, portOk (ns.take k) p = true) ∧ ((n.kind = 5) ↔ k + 1 = ns.length) ∧ (n.ins.map (portAt (outsL fs [] (ns.take k)))).flatten.length ≤ 241200 := by
  obtain ⟨h1, h2, h3, _⟩ := gchk_zero h
  have hk : k < ns.length := (List.getElem?_eq_some_iff.1 hn).1
  obtain ⟨q1, q2, q3, q4⟩ := ahead_ins h2 (ahead_all hf h1 h2 k (by omega)) hn
  refine ⟨q1, q2, ?_, by omega⟩
  constructor
  · intro e
    rw [decide_eq_true e] at q3
    have : (ns.drop (k + 1)).length = 0 := by rw [List.isEmpty_iff.1 q3]; rfl
    rw [List.length_drop] at this
    omega
  · intro e
    have : (ns.drop (k + 1)).isEmpty = true := by rw [List.isEmpty_iff]; exact List.drop_eq_nil_of_le (by omega)
    rw [this] at q3
    exact of_decide_eq_true q3.symm

/-! ### Which files matter -/

theorem nodeMade_congr {n : SNode} {fs fs' : List SFile} (h : n.kind = 1 → lines (fileOf fs n.file) = lines (fileOf fs' n.file)) (ins : List (List UInt8)) : nodeMade n fs ins = nodeMade n fs' ins := by
  unfold nodeMade
  by_cases h1 : n.kind = 1
  · rw [if_pos h1, if_pos h1, h h1]
  · rw [if_neg h1, if_neg h1]
theorem outsL_congr {fs fs' : List SFile} : ∀ (ns : List SNode) (acc : List (List (List UInt8))), (∀ n ∈ ns, n.kind = 1 → lines (fileOf fs n.file) = lines (fileOf fs' n.file)) → outsL fs acc ns = outsL fs' acc ns
  | [], _, _ => rfl
  | n :: r, acc, h => by
    show outsL fs _ r = outsL fs' _ r
    rw [nodeMade_congr (h n (by simp)), outsL_congr r _ (fun m hm => h m (by simp [hm]))]
theorem sunk_congr {fs fs' : List SFile} {ns : List SNode} (h : ∀ n ∈ ns, n.kind = 1 → lines (fileOf fs n.file) = lines (fileOf fs' n.file)) : sunk ns fs = sunk ns fs' := by
  unfold sunk
  rw [outsL_congr ns [] h]
end Go.Gs
namespace Go.Gs
open Go.RowKit
set_option linter.unusedVariables false

theorem outs_get (fs : List SFile) (ns : List SNode) {i k : Nat} {m : SNode} (hi : ns[i]? = some m) (hik : i < k) (hk : k ≤ ns.length) : (outsL fs [] (ns.take k))[i]? = some (nodeMade m fs (m.ins.map (portAt (outsL fs [] (ns.take i))))) := by
  have h1 : ns.take k = ns.take (i + 1) ++ (ns.take k).drop (i + 1) := by
    have := List.take_append_drop (i + 1) (ns.take k)
    rw [List.take_take, Nat.min_eq_left (by omega)] at this
    exact this.symm
  have hl : (outsL fs [] (ns.take i)).length = i := by
    have : i < ns.length := (List.getElem?_eq_some_iff.1 hi).1
    rw [outsL_len, List.length_take]
    simp
    omega
  rw [h1, outsL_append, outsL_keep]
  · rw [outs_take fs ns i hi, List.getElem?_append_right (by omega), hl]
    simp
  · rw [outs_take fs ns i hi, List.length_append, hl]
    simp
/-- A port that is there has its bytes. -/
theorem port_there {fs : List SFile} {ns : List SNode} (h : gchk ns = 0) (hf : ∀ f ∈ fs, f.b.length ≤ 4000) {j k : Nat} (hjk : j ≤ k) (hk : k ≤ ns.length) {p : Int × Int} (hp : portOk (ns.take j) p = true) :
    ∃ (i q : Nat) (o : List (List UInt8)) (b : List UInt8), p = ((i : Int), (q : Int)) ∧ (outsL fs [] (ns.take k))[i]? = some o ∧ o[q]? = some b := by
  obtain ⟨i, q, m, rfl, hm, hq⟩ := port_nat hp
  have hij : i < (ns.take j).length := (List.getElem?_eq_some_iff.1 hm).1
  rw [List.length_take] at hij
  have hm' : ns[i]? = some m := by rwa [List.getElem?_take_of_lt (by omega)] at hm
  have hr := (right_node h hf hm').1
  have hc := nodeMade_count hr fs (m.ins.map (portAt (outsL fs [] (ns.take i))))
  have hql : q < (nodeMade m fs (m.ins.map (portAt (outsL fs [] (ns.take i))))).length := by omega
  exact ⟨i, q, _, _, rfl, outs_get fs ns hm' (by omega) hk, List.getElem?_eq_getElem hql⟩
/-- What comes in at node j stands ahead of it. -/
theorem port_same {fs : List SFile} {ns : List SNode} {j : Nat} (hj : j ≤ ns.length) {p : Int × Int} (hp : portOk (ns.take j) p = true) : portAt (outsL fs [] ns) p = portAt (outsL fs [] (ns.take j)) p := by
  obtain ⟨i, q, m, rfl, hm, hq⟩ := port_nat hp
  have hij : i < (ns.take j).length := (List.getElem?_eq_some_iff.1 hm).1
  rw [List.length_take] at hij
  exact portAt_take fs ns j (by simp) (by simp; omega) hj
theorem right_ins {n : SNode} (h : nodeChk n = 0) : n.ins.length ≤ 5 ∧ (n.kind = 2 ∨ n.kind = 3 ∨ n.kind = 5 → n.ins.length = 1) := by
  obtain ⟨h1, h2, _⟩ := node_kinds h
  unfold mayHave at h2
  by_cases g1 : n.kind = 1
  · rw [if_pos g1] at h2; have := of_decide_eq_true h2; exact ⟨by omega, by omega⟩
  · rw [if_neg g1] at h2
    by_cases g4 : n.kind = 4
    · rw [if_pos g4] at h2; exact ⟨(of_decide_eq_true h2).2, by omega⟩
    · rw [if_neg g4] at h2; have := of_decide_eq_true h2; exact ⟨by omega, fun _ => this⟩
theorem evalS_bad {ns : List SNode} {fs : List SFile} (h : gchk ns ≠ 0) : evalS ns fs = ([], gchk ns) := by unfold evalS; rw [if_pos h]
theorem evalS_files {ns : List SNode} {fs : List SFile} (h : gchk ns = 0) (hf : fchk fs ≠ 0) : evalS ns fs = ([], fchk fs) := by unfold evalS; rw [if_neg (by simp [h]), if_pos hf]
theorem evalS_ok {ns : List SNode} {fs : List SFile} (h : gchk ns = 0) (hf : fchk fs = 0) : evalS ns fs = (sunk ns fs, 0) := by unfold evalS; rw [if_neg (by simp [h]), if_neg (by simp [hf])]
theorem sunk_last {ns : List SNode} {fs : List SFile} {n : SNode} (h : ns[ns.length - 1]? = some n) : sunk ns fs = portAt (outsL fs [] ns) (n.ins.head?.getD (0, 0)) := by
  unfold sunk
  rw [List.getLast?_eq_getElem?, h]
  rfl
end Go.Gs
namespace Go.Gs
open Go.RowKit
set_option linter.unusedVariables false

def noC : Cmd := ⟨0, [], 0⟩
/-- That graph. -/
def sorterNs : List SNode := [⟨1, [97], noC, 0, 0, []⟩, ⟨2, [], noC, 0, 2, [(0, 0)]⟩, ⟨3, [], ⟨6, [], 0⟩, 0, 0, [(1, 0)]⟩, ⟨3, [], ⟨6, [], 0⟩, 0, 0, [(1, 1)]⟩, ⟨4, [], noC, 2, 0, [(2, 0), (3, 0)]⟩, ⟨5, [98], noC, 0, 0, [(4, 0)]⟩]
def flowFs : List SFile := [⟨[97], [51, 10, 49, 10, 50, 10, 48]⟩]
theorem sorter_right : gchk sorterNs = 0 := by decide
theorem sorter_short : gchk (sorterNs.take 5) = 4 := by decide
theorem flow_files : fchk flowFs = 0 := by decide
theorem flow_sort1 : made ⟨6, [], 0⟩ [[51], [49]] = [[49], [51]] := by
  rw [made6 _ rfl, sorted_unique (sortOf [[51], [49]]) [[49], [51]] ((sortOf_perm _).trans (by decide)) (sortOf_sorted _) (by decide)]
theorem flow_sort2 : made ⟨6, [], 0⟩ [[50], [48]] = [[48], [50]] := by
  rw [made6 _ rfl, sorted_unique (sortOf [[50], [48]]) [[48], [50]] ((sortOf_perm _).trans (by decide)) (sortOf_sorted _) (by decide)]
theorem flow_outs : outsL flowFs [] sorterNs = [[[51, 10, 49, 10, 50, 10, 48, 10]], [[51, 10, 49, 10], [50, 10, 48, 10]], [[49, 10, 51, 10]], [[48, 10, 50, 10]], [[48, 10, 49, 10, 50, 10, 51, 10]], []] := by
  have n0 : nodeMade ⟨1, [97], noC, 0, 0, []⟩ flowFs [] = [[51, 10, 49, 10, 50, 10, 48, 10]] := by decide
  have n1 : nodeMade ⟨2, [], noC, 0, 2, [(0, 0)]⟩ flowFs [[51, 10, 49, 10, 50, 10, 48, 10]] = [[51, 10, 49, 10], [50, 10, 48, 10]] := by decide
  have n2 : nodeMade ⟨3, [], ⟨6, [], 0⟩, 0, 0, [(1, 0)]⟩ flowFs [[51, 10, 49, 10]] = [[49, 10, 51, 10]] := by
    have l : lines [51, 10, 49, 10] = [[51], [49]] := by decide
    show [ended (made ⟨6, [], 0⟩ (lines [51, 10, 49, 10]))] = _
    rw [l, flow_sort1]
    rfl
  have n3 : nodeMade ⟨3, [], ⟨6, [], 0⟩, 0, 0, [(1, 1)]⟩ flowFs [[50, 10, 48, 10]] = [[48, 10, 50, 10]] := by
    have l : lines [50, 10, 48, 10] = [[50], [48]] := by decide
    show [ended (made ⟨6, [], 0⟩ (lines [50, 10, 48, 10]))] = _
    rw [l, flow_sort2]
    rfl
  have n4 : nodeMade ⟨4, [], noC, 2, 0, [(2, 0), (3, 0)]⟩ flowFs [[49, 10, 51, 10], [48, 10, 50, 10]] = [[48, 10, 49, 10, 50, 10, 51, 10]] := by decide
  have n5 : nodeMade ⟨5, [98], noC, 0, 0, [(4, 0)]⟩ flowFs [[48, 10, 49, 10, 50, 10, 51, 10]] = [] := by decide
  unfold sorterNs
  rw [outsL]
  rw [show nodeMade ⟨1, [97], noC, 0, 0, []⟩ flowFs (List.map (portAt []) (SNode.ins ⟨1, [97], noC, 0, 0, []⟩)) = _ from n0, outsL]
  rw [show nodeMade ⟨2, [], noC, 0, 2, [(0, 0)]⟩ flowFs (List.map (portAt ([] ++ [[[51, 10, 49, 10, 50, 10, 48, 10]]])) (SNode.ins ⟨2, [], noC, 0, 2, [(0, 0)]⟩)) = _ from n1, outsL]
  rw [show nodeMade ⟨3, [], ⟨6, [], 0⟩, 0, 0, [(1, 0)]⟩ flowFs (List.map (portAt ([] ++ [[[51, 10, 49, 10, 50, 10, 48, 10]]] ++ [[[51, 10, 49, 10], [50, 10, 48, 10]]])) (SNode.ins ⟨3, [], ⟨6, [], 0⟩, 0, 0, [(1, 0)]⟩)) = _ from n2, outsL]
  rw [show nodeMade ⟨3, [], ⟨6, [], 0⟩, 0, 0, [(1, 1)]⟩ flowFs (List.map (portAt ([] ++ [[[51, 10, 49, 10, 50, 10, 48, 10]]] ++ [[[51, 10, 49, 10], [50, 10, 48, 10]]] ++ [[[49, 10, 51, 10]]])) (SNode.ins ⟨3, [], ⟨6, [], 0⟩, 0, 0, [(1, 1)]⟩)) = _ from n3, outsL]
  rw [show nodeMade ⟨4, [], noC, 2, 0, [(2, 0), (3, 0)]⟩ flowFs (List.map (portAt ([] ++ [[[51, 10, 49, 10, 50, 10, 48, 10]]] ++ [[[51, 10, 49, 10], [50, 10, 48, 10]]] ++ [[[49, 10, 51, 10]]] ++ [[[48, 10, 50, 10]]])) (SNode.ins ⟨4, [], noC, 2, 0, [(2, 0), (3, 0)]⟩)) = _ from n4, outsL]
  rw [show nodeMade ⟨5, [98], noC, 0, 0, [(4, 0)]⟩ flowFs (List.map (portAt ([] ++ [[[51, 10, 49, 10, 50, 10, 48, 10]]] ++ [[[51, 10, 49, 10], [50, 10, 48, 10]]] ++ [[[49, 10, 51, 10]]] ++ [[[48, 10, 50, 10]]] ++ [[[48, 10, 49, 10, 50, 10, 51, 10]]])) (SNode.ins ⟨5, [98], noC, 0, 0, [(4, 0)]⟩)) = _ from n5, outsL]
  rfl
theorem flow_made : evalS sorterNs flowFs = ([48, 10, 49, 10, 50, 10, 51, 10], 0) := by
  rw [evalS_ok sorter_right flow_files, sunk_last (n := ⟨5, [98], noC, 0, 0, [(4, 0)]⟩) rfl, flow_outs]
  rfl
end Go.Gs
namespace Go.Gs
open Go.RowKit
set_option linter.unusedVariables false

/-- Nodes, and the ports that go nowhere yet. -/
abbrev PD := List SNode × List (Int × Int)
def srcN (f : List UInt8) : SNode := ⟨1, f, noC, 0, 0, []⟩
def splitN (w : Nat) (ps : List (Int × Int)) : SNode := ⟨2, [], noC, 0, (w : Int), ps⟩
def workN (c : Cmd) (p : Int × Int) : SNode := ⟨3, [], c, 0, 0, [p]⟩
def joinN (how : Int) (c : Cmd) (ps : List (Int × Int)) : SNode := ⟨4, [], c, how, 0, ps⟩
def sinkN (f : List UInt8) (ps : List (Int × Int)) : SNode := ⟨5, f, noC, 0, 0, ps⟩
def newPorts (i k : Nat) : List (Int × Int) := (List.range k).map fun (j : Nat) => ((i : Int), (j : Int))
def onePort (i : Nat) : Int × Int := ((i : Int), 0)
def pSrc (d : PD) (f : List UInt8) : PD := (d.1 ++ [srcN f], d.2 ++ [onePort d.1.length])
def pJoinAll (how : Int) (c : Cmd) (d : PD) : PD := (d.1 ++ [joinN how c d.2], [onePort d.1.length])
def pBehind (d : PD) : PD := if 1 < d.2.length then pJoinAll 1 noC d else d
def pSplit (w : Nat) (d : PD) : PD := if d.2.length = 1 ∧ w ≠ 1 then (d.1 ++ [splitN w d.2], newPorts d.1.length w) else d
def pWork (c : Cmd) (d : PD) (p : Int × Int) : PD := (d.1 ++ [workN c p], d.2 ++ [onePort d.1.length])
def pWorks (c : Cmd) (d : PD) : PD := d.2.foldl (pWork c) (d.1, [])
def pJoin (w : Nat) (c : Cmd) (d : PD) : PD := if w = 1 ∨ isEach c.kind = true then d else pJoinAll (howFor c.kind) (if howFor c.kind = 4 then c else noC) d
def pCmd (w : Nat) (d : PD) (c : Cmd) : PD := pJoin w c (pWorks c (pSplit w d))
def pStart (fr : List (List UInt8)) : PD := fr.foldl pSrc ([], [])
def pFrom (fr : List (List UInt8)) : PD := pBehind (pStart fr)
def pDone (w : Nat) (fr : List (List UInt8)) (cs : List Cmd) : PD := cs.foldl (pCmd w) (pFrom fr)
def pSink (to : List UInt8) (d : PD) : List SNode := d.1 ++ [sinkN to d.2]
def plan (l : SLine) (w : Nat) : List SNode := pSink l.to (pBehind (pDone w l.fr l.cs))

theorem newPorts_len (i k : Nat) : (newPorts i k).length = k := by simp [newPorts]
theorem newPorts_one (i : Nat) : newPorts i 1 = [onePort i] := by simp [newPorts, onePort]
theorem pStart_snoc (fr : List (List UInt8)) (f : List UInt8) : pStart (fr ++ [f]) = pSrc (pStart fr) f := by simp [pStart]
theorem pDone_snoc (w : Nat) (fr : List (List UInt8)) (cs : List Cmd) (c : Cmd) : pDone w fr (cs ++ [c]) = pCmd w (pDone w fr cs) c := by simp [pDone]
theorem works_len (c : Cmd) : ∀ (op : List (Int × Int)) (d : PD), (op.foldl (pWork c) d).1.length = d.1.length + op.length ∧ (op.foldl (pWork c) d).2.length = d.2.length + op.length
  | [], d => by simp
  | p :: r, d => by
    have := works_len c r (pWork c d p)
    simp only [List.foldl_cons, List.length_cons]
    simp only [pWork, List.length_append, List.length_cons, List.length_nil] at this ⊢
    omega
/-- How many there are of either. -/
theorem pStart_len : ∀ (fr : List (List UInt8)) (d : PD), (fr.foldl pSrc d).1.length = d.1.length + fr.length ∧ (fr.foldl pSrc d).2.length = d.2.length + fr.length
  | [], d => by simp
  | p :: r, d => by
    have := pStart_len r (pSrc d p)
    simp only [List.foldl_cons, List.length_cons]
    simp only [pSrc, List.length_append, List.length_cons, List.length_nil] at this ⊢
    omega
theorem pBehind_len {d : PD} (h : 1 ≤ d.2.length) : (pBehind d).2.length = 1 ∧ d.1.length ≤ (pBehind d).1.length ∧ (pBehind d).1.length ≤ d.1.length + 1 := by
  unfold pBehind
  split
  · simp [pJoinAll]
  · omega
theorem pFrom_len {fr : List (List UInt8)} (h1 : 1 ≤ fr.length) (h4 : fr.length ≤ 4) : (pFrom fr).2.length = 1 ∧ (pFrom fr).1.length ≤ 5 := by
  obtain ⟨a, b⟩ := pStart_len fr ([], [])
  simp only [List.length_nil, Nat.zero_add] at a b
  obtain ⟨c, d, e⟩ := pBehind_len (d := pStart fr) (by unfold pStart; omega)
  unfold pFrom
  unfold pStart at c d e ⊢
  omega
theorem pSplit_len {w : Nat} {d : PD} (hw : 1 ≤ w ∧ w ≤ 5) (h : d.2.length = 1 ∨ d.2.length = w) : (pSplit w d).2.length = w ∧ d.1.length ≤ (pSplit w d).1.length ∧ (pSplit w d).1.length ≤ d.1.length + 1 := by
  unfold pSplit
  split
  · simp [newPorts_len]
  · rename_i h1
    rcases h with h | h
    · have : w = 1 := by by_cases e : w = 1; exact e; exact absurd ⟨h, e⟩ h1
      omega
    · omega
theorem pCmd_len {w : Nat} {d : PD} (hw : 1 ≤ w ∧ w ≤ 5) (h : d.2.length = 1 ∨ d.2.length = w) (c : Cmd) : ((pCmd w d c).2.length = 1 ∨ (pCmd w d c).2.length = w) ∧ (pCmd w d c).1.length ≤ d.1.length + 7 := by
  obtain ⟨a, b, e⟩ := pSplit_len hw h
  have w1 := works_len c (pSplit w d).2 ((pSplit w d).1, [])
  simp only [List.length_nil, Nat.zero_add] at w1
  unfold pCmd pJoin
  split
  · unfold pWorks; omega
  · unfold pWorks
    refine ⟨Or.inl rfl, ?_⟩
    simp only [pJoinAll, List.length_append, List.length_cons, List.length_nil]
    omega
theorem pDone_len {w : Nat} {fr : List (List UInt8)} (hw : 1 ≤ w ∧ w ≤ 5) (h1 : 1 ≤ fr.length) (h4 : fr.length ≤ 4) (cs : List Cmd) : ((pDone w fr cs).2.length = 1 ∨ (pDone w fr cs).2.length = w) ∧ (pDone w fr cs).1.length ≤ 5 + 7 * cs.length := by
  have gen : ∀ (cs : List Cmd) (d : PD), (d.2.length = 1 ∨ d.2.length = w) → ((cs.foldl (pCmd w) d).2.length = 1 ∨ (cs.foldl (pCmd w) d).2.length = w) ∧ (cs.foldl (pCmd w) d).1.length ≤ d.1.length + 7 * cs.length := by
    intro cs
    induction cs with
    | nil => intro d h; simp [h]
    | cons c r ih =>
      intro d h
      obtain ⟨a, b⟩ := pCmd_len hw h c
      obtain ⟨e, f⟩ := ih (pCmd w d c) a
      simp only [List.foldl_cons, List.length_cons]
      exact ⟨e, by omega⟩
  obtain ⟨a, b⟩ := pFrom_len h1 h4
  obtain ⟨e, f⟩ := gen cs (pFrom fr) (Or.inl a)
  unfold pDone
  exact ⟨e, by omega⟩
theorem plan_len {l : SLine} {w : Nat} (hw : 1 ≤ w ∧ w ≤ 5) (h : lchk l = 0) : (plan l w).length ≤ 49 ∧ (pBehind (pDone w l.fr l.cs)).2.length = 1 := by
  have h0 : ¬ (l.fr.length < 1 ∨ 4 < l.fr.length ∨ 6 < l.cs.length) := by
    intro h1; unfold lchk at h; rw [if_pos h1] at h; cases h
  obtain ⟨a, b⟩ := pDone_len hw (by omega : 1 ≤ l.fr.length) (by omega) l.cs
  obtain ⟨c, d, e⟩ := pBehind_len (d := pDone w l.fr l.cs) (by omega)
  refine ⟨?_, c⟩
  unfold plan pSink
  simp only [List.length_append, List.length_cons, List.length_nil]
  omega
end Go.Gs
namespace Go.Gs
open Go.RowKit
set_option linter.unusedVariables false

/-- A file and its slice of bytes. -/
abbrev FRow := SFile × (Option Addr × Nat × Nat)
def encF (x : FRow) : List Value := [.string ⟨x.1.name.toArray⟩, .slice x.2.1 x.2.2.1 x.2.2.2]
def rowCells (out : List FRow) : List Value := (out.map encF).flatten
theorem rowCells_app (out : List FRow) (r : FRow) : rowCells (out ++ [r]) = rowCells out ++ encF r := by simp [rowCells]
theorem rowCells_append (a b : List FRow) : rowCells (a ++ b) = rowCells a ++ rowCells b := by simp [rowCells]
theorem rowCells_cons (out : List FRow) (r : FRow) : rowCells (r :: out) = encF r ++ rowCells out := by simp [rowCells]
theorem rowCells_length (out : List FRow) : (rowCells out).length = out.length * 2 := by
  induction out with
  | nil => rfl
  | cons r l ih =>
    rw [rowCells_cons, List.length_append, ih]
    simp [encF]
    omega
theorem rowCells_at : ∀ (out : List FRow) (j : Nat) (r : FRow), out[j]? = some r → (rowCells out)[j * 2]? = some (.string ⟨r.1.name.toArray⟩) ∧ (rowCells out)[j * 2 + 1]? = some (.slice r.2.1 r.2.2.1 r.2.2.2)
  | [], j, r, h => by simp at h
  | d :: l, 0, r, h => by
    simp at h; subst h
    simp [rowCells, encF]
  | d :: l, j + 1, r, h => by
    have ih := rowCells_at l j r (by simpa using h)
    rw [rowCells_cons]
    refine ⟨?_, ?_⟩
    · rw [List.getElem?_append_right (by simp [encF]; omega), show (j + 1) * 2 - (encF d).length = j * 2 by simp [encF]; omega]
      exact ih.1
    · rw [List.getElem?_append_right (by simp [encF]; omega), show (j + 1) * 2 + 1 - (encF d).length = j * 2 + 1 by simp [encF]; omega]
      exact ih.2
theorem rowCells_take : ∀ (out : List FRow) (i : Nat), (rowCells out).take (i * 2) = rowCells (out.take i)
  | [], i => by simp [rowCells]
  | d :: l, 0 => by simp [rowCells]
  | d :: l, i + 1 => by
    rw [List.take_succ_cons, rowCells_cons, rowCells_cons, List.take_append, show (encF d).length = 2 from rfl, show (i + 1) * 2 - 2 = i * 2 by omega, rowCells_take l i, List.take_of_length_le (by simp [encF]; omega)]
theorem rowCells_drop (out : List FRow) (i : Nat) (hi : i ≤ out.length) : (rowCells out).drop (i * 2) = rowCells (out.drop i) := by
  have h := List.take_append_drop (i * 2) (rowCells out)
  have h2 : rowCells out = rowCells (out.take i) ++ rowCells (out.drop i) := by rw [← rowCells_append, List.take_append_drop]
  have hl : (rowCells (out.take i)).length = i * 2 := by rw [rowCells_length, List.length_take, Nat.min_eq_left hi]
  conv => lhs; rw [h2]
  rw [List.drop_append, hl, Nat.sub_self, List.drop_zero, List.drop_of_length_le (by omega), List.nil_append]
theorem encF_one (r : FRow) : ∀ u ∈ encF r, u.oneCell' = true := by
  intro u hu
  simp [encF] at hu
  rcases hu with rfl | rfl <;> rfl
theorem rowCells_one (out : List FRow) : ∀ u ∈ rowCells out, u.oneCell' = true := by
  intro u hu
  unfold rowCells at hu
  rw [List.mem_flatten] at hu
  obtain ⟨l, hl, hul⟩ := hu
  obtain ⟨r, _, rfl⟩ := List.mem_map.1 hl
  exact encF_one r u hul
theorem rowCells_set : ∀ (out : List FRow) (j : Nat) (r r' : FRow), out[j]? = some r → r'.1.name = r.1.name → rowCells (out.set j r') = (rowCells out).set (j * 2 + 1) (.slice r'.2.1 r'.2.2.1 r'.2.2.2)
  | [], j, r, r', h, _ => by simp at h
  | d :: l, 0, r, r', h, hn => by
    simp at h; subst h
    simp [rowCells, encF, hn]
  | d :: l, j + 1, r, r', h, hn => by
    rw [List.set_cons_succ, rowCells_cons, rowCells_cons, rowCells_set l j r r' (by simpa using h) hn, List.set_append_right _ _ (by simp [encF]; omega), show (j + 1) * 2 + 1 - (encF d).length = j * 2 + 1 by simp [encF]; omega]
/-- The rows of files that can be read. -/
theorem rows_of {w : World} {ao : Option Addr} {n cap : Nat} {fs : List SFile} (h : RFiles w (.slice ao n cap) fs) : ∃ rows : List FRow, rows.map (·.1) = fs ∧ ∀ (j : Nat) (r : FRow), rows[j]? = some r →
    (∃ b off, ao = some ⟨b, off, none⟩ ∧ w.cell? ⟨b, off + j * 2, none⟩ = some (.string ⟨r.1.name.toArray⟩) ∧ w.cell? ⟨b, off + j * 2 + 1, none⟩ = some (.slice r.2.1 r.2.2.1 r.2.2.2)) ∧ r.2.2.1 = r.1.b.length ∧ Reads w (.slice r.2.1 r.2.2.1 r.2.2.2) r.1.b.length (r.1.b.map U) := by
  have each : ∀ i, i < fs.length → ∃ r : FRow, fs[i]? = some r.1 ∧ (∃ b off, ao = some ⟨b, off, none⟩ ∧ w.cell? ⟨b, off + i * 2, none⟩ = some (.string ⟨r.1.name.toArray⟩) ∧ w.cell? ⟨b, off + i * 2 + 1, none⟩ = some (.slice r.2.1 r.2.2.1 r.2.2.2)) ∧ r.2.2.1 = r.1.b.length ∧ Reads w (.slice r.2.1 r.2.2.1 r.2.2.2) r.1.b.length (r.1.b.map U) := by
    intro i hi
    have hf : fs[i]? = some fs[i] := List.getElem?_eq_getElem hi
    obtain ⟨b, off, ab, cb, e1, e2, e3, e4⟩ := h.at hf
    exact ⟨(fs[i], ab, fs[i].b.length, cb), hf, ⟨b, off, e1, e2, e3⟩, rfl, e4⟩
  haveI : Inhabited SFile := ⟨⟨[], []⟩⟩
  obtain ⟨Y, hY⟩ := Deep.choose_lt each
  refine ⟨(List.range fs.length).map Y, ?_, ?_⟩
  · apply List.ext_getElem?
    intro i
    by_cases hi : i < fs.length
    · rw [List.getElem?_map, List.getElem?_map, List.getElem?_range hi]
      exact (hY i hi).1.symm
    · rw [List.getElem?_eq_none (by simp; omega), List.getElem?_eq_none (by omega)]
  · intro j r hj
    rw [List.getElem?_map] at hj
    by_cases hi : j < fs.length
    · rw [List.getElem?_range hi] at hj
      simp only [Option.map_some, Option.some.injEq] at hj
      subst hj
      exact (hY j hi).2
    · rw [List.getElem?_eq_none (by simp; omega)] at hj
      cases hj
/-- The cells of files, one behind the other. -/
theorem rows_cells {w : World} {b off : Nat} : ∀ {rows : List FRow}, (∀ (j : Nat) (r : FRow), rows[j]? = some r → w.cell? ⟨b, off + j * 2, none⟩ = some (.string ⟨r.1.name.toArray⟩) ∧ w.cell? ⟨b, off + j * 2 + 1, none⟩ = some (.slice r.2.1 r.2.2.1 r.2.2.2)) → ∀ j u, (rowCells rows)[j]? = some u → w.cell? ⟨b, off + j, none⟩ = some u := by
  intro rows h j u hu
  have hl : j < (rowCells rows).length := (List.getElem?_eq_some_iff.1 hu).1
  rw [rowCells_length] at hl
  have hq : rows[j / 2]? = some (rows[j / 2]'(by omega)) := List.getElem?_eq_getElem _
  obtain ⟨a1, a2⟩ := rowCells_at rows (j / 2) _ hq
  obtain ⟨b1, b2⟩ := h (j / 2) _ hq
  rcases Nat.mod_two_eq_zero_or_one j with hm | hm
  · have e : j = j / 2 * 2 := by omega
    rw [← e] at a1 b1
    rw [a1] at hu
    rw [b1, hu]
  · have e : j = j / 2 * 2 + 1 := by omega
    rw [← e] at a2
    rw [Nat.add_assoc, ← e] at b2
    rw [a2] at hu
    rw [b2, hu]

/-- A row whose bytes can be read, not in block g. -/
def GoodO (w : World) (go : Option Nat) (r : FRow) : Prop := r.2.2.1 = r.1.b.length ∧ Reads w (.slice r.2.1 r.2.2.1 r.2.2.2) r.1.b.length (r.1.b.map U) ∧ (r.1.b.length ≠ 0 → ∀ a, r.2.1 = some a → go ≠ some a.block)
/-- Reads looks at its own block alone. -/
theorem reads_keepO {w w' : World} {ao : Option Addr} {n m cap : Nat} {xs : List Value} (h : Reads w (.slice ao n cap) m xs) (hk : ∀ a, ao = some a → w'.heap[a.block]? = w.heap[a.block]?) : Reads w' (.slice ao n cap) m xs := by
  obtain ⟨h1, ao', cap', e, h2, h3, h4⟩ := h
  injection e with e1 e2 e3
  subst e1 e2 e3
  refine ⟨h1, ao, cap, rfl, h2, h3, fun hn => ?_⟩
  obtain ⟨b, off, rfl, hc⟩ := h4 hn
  refine ⟨b, off, rfl, fun j u hu => ?_⟩
  have e := hk _ rfl
  have := hc j u hu
  simp only [World.cell?] at this ⊢
  rw [e]; exact this
theorem GoodO.keep {w w' : World} {go : Option Nat} {r : FRow} (h : GoodO w go r) (hk : ∀ k, k < w.heap.size → go ≠ some k → w'.heap[k]? = w.heap[k]?) : GoodO w' go r := by
  refine ⟨h.1, ?_, h.2.2⟩
  by_cases h0 : r.1.b.length = 0
  · obtain ⟨h1, ao, cap, e, h2, h3, h4⟩ := h.2.1
    exact ⟨h1, ao, cap, e, h2, h3, fun hn => absurd h0 hn⟩
  · refine reads_keepO h.2.1 (fun a ha => hk _ ?_ (h.2.2 h0 a ha))
    obtain ⟨h1, ao, cap, e, h2, h3, h4⟩ := h.2.1
    obtain ⟨b, off, rfl, hc⟩ := h4 h0
    injection e with e1 e2 e3
    rw [e1] at ha
    injection ha with ha
    subst ha
    have hl : 0 < (r.1.b.map U).length := by rw [h1]; omega
    exact World.block_lt_of_cell? w _ (hc 0 _ (List.getElem?_eq_getElem hl))
/-- Files in a row of one's own. -/
structure FO (w : World) (B : Nat) (e : TypeId) (v : Value) (rows : List FRow) : Prop where
  own : w.ownsRow B e 2 v rows.length (rowCells rows)
  good : ∀ r ∈ rows, GoodO w v.ownBlock r
theorem FO.below {w w' : World} {B : Nat} {e : TypeId} {v : Value} {rows : List FRow} (h : FO w B e v rows) (hb : Below w.heap.size w w') : FO w' B e v rows :=
  ⟨h.own.kept (row := none) ⟨hb.os, hb.tape, hb.output, hb.size, fun k hk _ => hb.block k hk⟩ (by cases hv : v.ownBlock <;> simp), fun r hr => (h.good r hr).keep (fun k hk _ => hb.block k hk)⟩
theorem FO.shape {w : World} {B : Nat} {e : TypeId} {v : Value} {rows : List FRow} (h : FO w B e v rows) : ∃ ao cap, v = .slice ao rows.length cap ∧ rows.length ≤ cap ∧ cap ≤ maxLen := by
  rcases h.own.2 with ⟨rfl, h0⟩ | ⟨g, cap, cur, rfl, _, _, h1, h2, _⟩
  · exact ⟨none, 0, by rw [h0], by omega, by simp [maxLen]⟩
  · exact ⟨_, cap, rfl, h1, h2⟩
theorem FO.form {w : World} {B : Nat} {e : TypeId} {v : Value} {rows : List FRow} (h : FO w B e v rows) (hn : rows.length ≠ 0) : ∃ g cap, v = .slice (some ⟨g, 0, none⟩) rows.length cap ∧ B ≤ g := by
  rcases h.own.2 with ⟨rfl, h0⟩ | ⟨g, cap, cur, rfl, hb, _, h1, h2, _⟩
  · exact absurd h0 hn
  · exact ⟨g, cap, rfl, hb⟩
theorem FO.files {w : World} {B : Nat} {e : TypeId} {v : Value} {rows : List FRow} (h : FO w B e v rows) : RFiles w v (rows.map (·.1)) := by
  have hl : (rows.map (·.1)).length = rows.length := List.length_map _
  rcases h.own.2 with ⟨rfl, h0⟩ | ⟨g, cap, cur, rfl, hb, hg, h1, h2, h3, h4⟩
  · exact ⟨none, 0, by rw [hl, h0], by omega, by simp [maxLen], fun hn => absurd (hl.trans h0) hn⟩
  · refine ⟨_, cap, by rw [hl], by omega, h2, fun _ => ⟨g, 0, rfl, fun j f hj => ?_⟩⟩
    rw [List.getElem?_map] at hj
    cases hr : rows[j]? with
    | none => rw [hr] at hj; cases hj
    | some r =>
      rw [hr] at hj
      simp only [Option.map_some, Option.some.injEq] at hj
      subst hj
      obtain ⟨a1, a2⟩ := rowCells_at rows j r hr
      have hjl : j < rows.length := (List.getElem?_eq_some_iff.1 hr).1
      have c1 := h.own.cellAt (j * 2) (by omega)
      have c2 := h.own.cellAt (j * 2 + 1) (by omega)
      rw [a1] at c1
      rw [a2] at c2
      exact ⟨_, by rw [Nat.zero_add]; exact c1, by rw [Nat.zero_add]; exact c2, (h.good r (List.mem_of_getElem? hr)).2.1⟩
/-- A row of one's own behind a change of one of its cells. -/
theorem owns_set {w : World} {B : Nat} {e : TypeId} {size g n cap : Nat} {xs : List Value} (h : w.ownsRow B e size (.slice (some ⟨g, 0, none⟩) n cap) n xs) (j : Nat) (hj : j < n * size) (u : Value) : (w.setCell ⟨g, j, none⟩ u).ownsRow B e size (.slice (some ⟨g, 0, none⟩) n cap) n (xs.set j u) := by
  obtain ⟨h1, h2⟩ := h
  refine ⟨by rw [List.length_set]; exact h1, ?_⟩
  rcases h2 with ⟨h2, _⟩ | ⟨g', cap', cur, h2, hb, hg, h3, h4, h5, h6⟩
  · cases h2
  · injection h2 with e1 e2 e3
    injection e1 with e1
    injection e1 with e1
    subst e1 e3
    refine .inr ⟨g, cap, cur.setIfInBounds j u, rfl, hb, ?_, h3, h4, by simpa using h5, ?_⟩
    · rw [setCell_eq_setRow w g j cur e (0, 0) u hg]
      exact setRow_heap w g cur _ e _ hg
    · rw [Array.toList_setIfInBounds, List.take_set, h6]
theorem FO.set {w : World} {B : Nat} {e : TypeId} {g n cap : Nat} {rows : List FRow} (h : FO w B e (.slice (some ⟨g, 0, none⟩) n cap) rows) {k : Nat} {r r' : FRow} (hk : rows[k]? = some r) (hn : r'.1.name = r.1.name) (hr : GoodO w (some g) r') :
    FO (w.setCell ⟨g, k * 2 + 1, none⟩ (.slice r'.2.1 r'.2.2.1 r'.2.2.2)) B e (.slice (some ⟨g, 0, none⟩) n cap) (rows.set k r') := by
  have hkl : k < rows.length := (List.getElem?_eq_some_iff.1 hk).1
  have hnn : n = rows.length := by
    rcases h.own.2 with ⟨h2, _⟩ | ⟨_, _, _, h2, _⟩
    · cases h2
    · injection h2
  subst hnn
  refine ⟨?_, fun x hx => ?_⟩
  · rw [List.length_set, rowCells_set rows k r r' hk hn]
    exact owns_set h.own _ (by omega) _
  · have hkeep : ∀ q, q < w.heap.size → some g ≠ some q → (w.setCell ⟨g, k * 2 + 1, none⟩ (.slice r'.2.1 r'.2.2.1 r'.2.2.2)).heap[q]? = w.heap[q]? := fun q _ hq => Below.heap_setCell _ _ _ _ (fun e => hq (by rw [e]))
    rcases List.mem_or_eq_of_mem_set hx with hx | rfl
    · exact (h.good x hx).keep hkeep
    · exact hr.keep hkeep
end Go.Gs
namespace Go.Gs
open Go.RowKit
set_option linter.unusedVariables false

/-- A node and its slice of ports. -/
abbrev NRow := SNode × (Option Addr × Nat)
def encN (x : NRow) : List Value := [.int .i64 x.1.kind, .string ⟨x.1.file.toArray⟩, .int .i64 x.1.c.kind, .string ⟨x.1.c.word.toArray⟩, .int .i64 x.1.c.n, .int .i64 x.1.how, .int .i64 x.1.wide, .slice x.2.1 x.1.ins.length x.2.2]
def nodeCells (out : List NRow) : List Value := (out.map encN).flatten
theorem nodeCells_app (out : List NRow) (r : NRow) : nodeCells (out ++ [r]) = nodeCells out ++ encN r := by simp [nodeCells]
theorem nodeCells_cons (out : List NRow) (r : NRow) : nodeCells (r :: out) = encN r ++ nodeCells out := by simp [nodeCells]
theorem nodeCells_length (out : List NRow) : (nodeCells out).length = out.length * 8 := by
  induction out with
  | nil => rfl
  | cons r l ih =>
    rw [nodeCells_cons, List.length_append, ih]
    simp [encN]
    omega
theorem nodeCells_at : ∀ (out : List NRow) (j : Nat) (r : NRow), out[j]? = some r → ∀ i, i < 8 → (nodeCells out)[j * 8 + i]? = (encN r)[i]?
  | [], j, r, h, i, hi => by simp at h
  | d :: l, 0, r, h, i, hi => by
    simp at h; subst h
    rw [nodeCells_cons, List.getElem?_append_left (by simp [encN]; omega)]
    simp
  | d :: l, j + 1, r, h, i, hi => by
    have ih := nodeCells_at l j r (by simpa using h) i hi
    rw [nodeCells_cons, List.getElem?_append_right (by simp [encN]; omega), show (j + 1) * 8 + i - (encN d).length = j * 8 + i by simp [encN]; omega]
    exact ih
theorem encN_one (r : NRow) : ∀ u ∈ encN r, u.oneCell' = true := by
  intro u hu
  simp [encN] at hu
  rcases hu with rfl | rfl | rfl | rfl | rfl | rfl | rfl | rfl <;> rfl

/-- Blocks that may change: D, go, those of X. -/
def FS (D : Nat) (go : Option Nat) (X : Nat → Prop) (k : Nat) : Prop := k = D ∨ go = some k ∨ X k
/-- No block. -/
def noX (k : Nat) : Prop := False
/-- All other old blocks are as they were. -/
structure Kept (D : Nat) (go : Option Nat) (X : Nat → Prop) (w w' : World) : Prop where
  os : w'.os = w.os
  tape : w'.tape = w.tape
  output : w'.output = w.output
  size : w.heap.size ≤ w'.heap.size
  block : ∀ k, k < w.heap.size → ¬ FS D go X k → w'.heap[k]? = w.heap[k]?
theorem Kept.of_below {D : Nat} {go : Option Nat} {X : Nat → Prop} {w w' : World} (h : Below w.heap.size w w') : Kept D go X w w' := ⟨h.os, h.tape, h.output, h.size, fun k hk _ => h.block k hk⟩
theorem Kept.of_grown {D : Nat} {go x : Option Nat} {X : Nat → Prop} {w w' : World} (h : w.grownBy w' x) (hx : ∀ k, x = some k → FS D go X k) : Kept D go X w w' := ⟨h.os, h.tape, h.output, h.size, fun k hk hn => h.block k hk (fun e => hn (hx k e.symm))⟩
theorem Kept.refl (D : Nat) (go : Option Nat) (X : Nat → Prop) (w : World) : Kept D go X w w := ⟨rfl, rfl, rfl, Nat.le_refl _, fun _ _ _ => rfl⟩
theorem Kept.more {D : Nat} {go : Option Nat} {X X' : Nat → Prop} {w w' : World} (h : Kept D go X w w') (hd : ∀ k, X k → X' k) : Kept D go X' w w' :=
  ⟨h.os, h.tape, h.output, h.size, fun k hk hn => h.block k hk (fun e => hn (by rcases e with e | e | e; exact .inl e; exact .inr (.inl e); exact .inr (.inr (hd k e))))⟩
/-- The row is the same, or a new one. -/
def Nxt (w : World) (go go' : Option Nat) : Prop := go' = go ∨ ∃ g, go' = some g ∧ w.heap.size ≤ g
theorem Nxt.refl (w : World) (go : Option Nat) : Nxt w go go := Or.inl rfl
theorem Nxt.trans {w w1 : World} {go g1 g2 : Option Nat} (h : Nxt w go g1) (k : Nxt w1 g1 g2) (hs : w.heap.size ≤ w1.heap.size) : Nxt w go g2 := by
  rcases k with rfl | ⟨g, e, hg⟩
  · exact h
  · exact Or.inr ⟨g, e, Nat.le_trans hs hg⟩
theorem Nxt.old {w : World} {go go' : Option Nat} (h : Nxt w go go') {k : Nat} (hk : k < w.heap.size) (e : go' = some k) : go = some k := by
  rcases h with rfl | ⟨g, e2, hg⟩
  · exact e
  · rw [e2] at e; injection e with e; omega
/-- Nothing old is new there. -/
def NxtX (w : World) (X X' : Nat → Prop) : Prop := ∀ k, k < w.heap.size → X' k → X k
theorem NxtX.refl (w : World) (X : Nat → Prop) : NxtX w X X := fun _ _ h => h
theorem FS.old {w : World} {D : Nat} {go go' : Option Nat} {X X' : Nat → Prop} (hg : Nxt w go go') (hd : NxtX w X X') {k : Nat} (hk : k < w.heap.size) (h : FS D go' X' k) : FS D go X k := by
  rcases h with e | e | e
  · exact .inl e
  · exact .inr (.inl (hg.old hk e))
  · exact .inr (.inr (hd _ hk e))
theorem Kept.trans {D : Nat} {go g1 : Option Nat} {X X' : Nat → Prop} {w w1 w2 : World} (h : Kept D go X w w1) (k : Kept D g1 X' w1 w2) (hg : Nxt w go g1) (hd : NxtX w X X') : Kept D go X w w2 := by
  refine ⟨k.os.trans h.os, k.tape.trans h.tape, k.output.trans h.output, Nat.le_trans h.size k.size, fun i hi hn => ?_⟩
  rw [k.block i (Nat.lt_of_lt_of_le hi h.size) (fun e => hn (e.old hg hd hi)), h.block i hi hn]
theorem Kept.below {D B : Nat} {go : Option Nat} {X : Nat → Prop} {w w' : World} (h : Kept D go X w w') (hB : B ≤ w.heap.size) (hD : B ≤ D) (hg : ∀ g, go = some g → B ≤ g) (hd : ∀ g, X g → B ≤ g) : Below B w w' :=
  ⟨h.os, h.tape, h.output, h.size, fun k hk => h.block k (by omega) (fun e => by rcases e with e | e | e; omega; (have := hg k e; omega); (have := hd k e; omega))⟩
theorem Kept.set {D : Nat} {go : Option Nat} {X : Nat → Prop} {w w' : World} (h : Kept D go X w w') {a : Addr} {v : Value} (ha : a.block = D) : Kept D go X w (w'.setCell a v) :=
  ⟨h.os, h.tape, h.output, by simpa using h.size, fun k hk hn => (Below.heap_setCell _ _ _ _ (by rw [ha]; exact fun e => hn (.inl e))).trans (h.block k hk hn)⟩

/-- Ports that can be read, in none of these blocks. -/
def POff (w : World) (D : Nat) (go : Option Nat) (X : Nat → Prop) (ao : Option Addr) (cap : Nat) (ps : List (Int × Int)) : Prop := RPorts w (.slice ao ps.length cap) ps ∧ (ps.length ≠ 0 → ∀ a, ao = some a → ¬ FS D go X a.block)
theorem rports_keep {w w' : World} {ao : Option Addr} {cap : Nat} {ps : List (Int × Int)} (h : RPorts w (.slice ao ps.length cap) ps) (hk : ps.length ≠ 0 → ∀ a, ao = some a → a.block < w.heap.size → w'.heap[a.block]? = w.heap[a.block]?) : RPorts w' (.slice ao ps.length cap) ps := by
  obtain ⟨ao', cap', e, h2, h3, h4⟩ := h
  injection e with e1 e2 e3
  subst e1 e3
  refine ⟨ao, cap, rfl, h2, h3, fun hn => ?_⟩
  obtain ⟨b, off, rfl, hc⟩ := h4 hn
  refine ⟨b, off, rfl, fun j p hp => ?_⟩
  obtain ⟨c1, c2⟩ := hc j p hp
  have hlt : b < w.heap.size := World.block_lt_of_cell? w _ c1
  have e := hk hn _ rfl hlt
  simp only [World.cell?] at c1 c2 ⊢
  rw [e]; exact ⟨c1, c2⟩
theorem rports_block {w : World} {a : Addr} {n cap : Nat} {ps : List (Int × Int)} (h : RPorts w (.slice (some a) n cap) ps) (hn : ps.length ≠ 0) : a.block < w.heap.size := by
  obtain ⟨ao', cap', e, h2, h3, h4⟩ := h
  injection e with e1 e2 e3
  subst e1
  obtain ⟨b, off, e4, hc⟩ := h4 hn
  injection e4 with e4
  subst e4
  exact World.block_lt_of_cell? w _ (hc 0 _ (List.getElem?_eq_getElem (by omega))).1
theorem POff.keep {w w' : World} {D : Nat} {go go' : Option Nat} {X X' : Nat → Prop} {ao : Option Addr} {cap : Nat} {ps : List (Int × Int)} (h : POff w D go X ao cap ps) (hk : Kept D go X w w') (hg : Nxt w go go') (hd : NxtX w X X') : POff w' D go' X' ao cap ps := by
  refine ⟨rports_keep h.1 (fun hn a ha hl => hk.block _ hl (h.2 hn a ha)), fun hn a ha hf => h.2 hn a ha ?_⟩
  subst ha
  exact hf.old hg hd (rports_block h.1 hn)
theorem POff.nil (w : World) (D : Nat) (go : Option Nat) (X : Nat → Prop) : POff w D go X none 0 [] := ⟨⟨none, 0, rfl, by simp, by simp [maxLen], fun h => absurd rfl h⟩, fun h => absurd rfl h⟩
/-- Nodes in a row of one's own, their ports in none of these blocks. -/
structure NO (w : World) (B D : Nat) (X : Nat → Prop) (e : TypeId) (v : Value) (rows : List NRow) : Prop where
  own : w.ownsRow B e 8 v rows.length (nodeCells rows)
  good : ∀ r ∈ rows, POff w D v.ownBlock X r.2.1 r.2.2 r.1.ins
  off : v.ownBlock ≠ some D
theorem NO.nil (w : World) (B D : Nat) (X : Nat → Prop) (e : TypeId) : NO w B D X e (.slice none 0 0) [] := ⟨World.ownsRow_nil _ _ _ _, fun r hr => (by cases hr), by simp [Value.ownBlock]⟩
theorem NO.base {w : World} {B D : Nat} {X : Nat → Prop} {e : TypeId} {v : Value} {rows : List NRow} (h : NO w B D X e v rows) : ∀ g, v.ownBlock = some g → B ≤ g ∧ g < w.heap.size := by
  intro g hg
  rcases h.own.2 with ⟨rfl, h0⟩ | ⟨g', cap, cur, rfl, hb, h1, _⟩
  · simp [Value.ownBlock] at hg
  · simp [Value.ownBlock] at hg
    subst hg
    refine ⟨hb, ?_⟩
    rcases Nat.lt_or_ge g' w.heap.size with h2 | h2
    · exact h2
    · rw [Array.getElem?_eq_none h2] at h1; cases h1
theorem NO.form {w : World} {B D : Nat} {X : Nat → Prop} {e : TypeId} {v : Value} {rows : List NRow} (h : NO w B D X e v rows) : ∃ ao cap, v = .slice ao rows.length cap ∧ rows.length ≤ cap ∧ cap ≤ maxLen := by
  rcases h.own.2 with ⟨rfl, h0⟩ | ⟨g, cap, cur, rfl, _, _, h1, h2, _⟩
  · exact ⟨none, 0, by rw [h0], by omega, by simp [maxLen]⟩
  · exact ⟨_, cap, rfl, h1, h2⟩
/-- What leaves that row alone. -/
theorem NO.keep {w w' : World} {B D : Nat} {X X' : Nat → Prop} {e : TypeId} {v : Value} {rows : List NRow} (h : NO w B D X e v rows) (hk : Kept D v.ownBlock X w w') (hv : ∀ g, v.ownBlock = some g → w'.heap[g]? = w.heap[g]?) (hd : NxtX w X X') : NO w' B D X' e v rows := by
  refine ⟨?_, fun r hr => (h.good r hr).keep hk (Nxt.refl _ _) hd, h.off⟩
  refine ⟨h.own.1, ?_⟩
  rcases h.own.2 with ⟨e1, h0⟩ | ⟨g, cap, cur, e1, hb, h1, h2⟩
  · exact Or.inl ⟨e1, h0⟩
  · refine Or.inr ⟨g, cap, cur, e1, hb, ?_, h2⟩
    rw [hv g (by rw [e1]; rfl)]
    exact h1
theorem NO.below {w w' : World} {B D : Nat} {X : Nat → Prop} {e : TypeId} {v : Value} {rows : List NRow} (h : NO w B D X e v rows) (hb : Below w.heap.size w w') : NO w' B D X e v rows :=
  h.keep (Kept.of_below hb) (fun g hg => hb.block g (h.base g hg).2) (NxtX.refl _ _)
theorem NO.set {w : World} {B D : Nat} {X : Nat → Prop} {e : TypeId} {v : Value} {rows : List NRow} (h : NO w B D X e v rows) {a : Addr} {u : Value} (ha : a.block = D) : NO (w.setCell a u) B D X e v rows :=
  h.keep ((Kept.refl _ _ _ _).set ha) (fun g hg => Below.heap_setCell _ _ _ _ (by rw [ha]; intro e2; exact h.off (by rw [hg, e2]))) (NxtX.refl _ _)
theorem NO.app {w w' : World} {B D : Nat} {X : Nat → Prop} {e : TypeId} {v v' : Value} {rows : List NRow} {r : NRow} (h : NO w B D X e v rows) (hr : POff w D v.ownBlock X r.2.1 r.2.2 r.1.ins) (hD : D < w.heap.size)
    (hown : w'.ownsRow B e 8 v' (rows.length + 1) (nodeCells rows ++ encN r)) (hg : w.grownBy w' v.ownBlock) (hl : v'.ownBlock = v.ownBlock ∨ v'.ownBlock = some w.heap.size) : NO w' B D X e v' (rows ++ [r]) ∧ Kept D v.ownBlock noX w w' ∧ Nxt w v.ownBlock v'.ownBlock := by
  have hN : Nxt w v.ownBlock v'.ownBlock := by
    rcases hl with h1 | h1
    · exact Or.inl h1
    · exact Or.inr ⟨_, h1, Nat.le_refl _⟩
  have hk : Kept D v.ownBlock noX w w' := Kept.of_grown hg (fun k e => .inr (.inl e))
  have hk' : Kept D v.ownBlock X w w' := hk.more (fun k e => e.elim)
  refine ⟨⟨by rw [nodeCells_app, List.length_append]; exact hown, fun x hx => ?_, ?_⟩, hk, hN⟩
  · rcases List.mem_append.1 hx with hx | hx
    · exact (h.good x hx).keep hk' hN (NxtX.refl _ _)
    · rw [List.mem_singleton.1 hx]; exact hr.keep hk' hN (NxtX.refl _ _)
  · rcases hl with h1 | h1
    · rw [h1]; exact h.off
    · rw [h1]; intro e2; injection e2 with e2; omega
theorem POff.less {w : World} {D : Nat} {go : Option Nat} {X X' : Nat → Prop} {ao : Option Addr} {cap : Nat} {ps : List (Int × Int)} (h : POff w D go X ao cap ps) (hx : ∀ k, k < w.heap.size → X' k → X k) : POff w D go X' ao cap ps :=
  h.keep (Kept.refl _ _ _ _) (Nxt.refl _ _) hx
theorem NO.less {w : World} {B D : Nat} {X X' : Nat → Prop} {e : TypeId} {v : Value} {rows : List NRow} (h : NO w B D X e v rows) (hx : ∀ k, k < w.heap.size → X' k → X k) : NO w B D X' e v rows :=
  ⟨h.own, fun r hr => (h.good r hr).less hx, h.off⟩
theorem NO.nodes {w : World} {B D : Nat} {X : Nat → Prop} {e : TypeId} {v : Value} {rows : List NRow} (h : NO w B D X e v rows) : RNodes w v (rows.map (·.1)) := by
  have hl : (rows.map (·.1)).length = rows.length := List.length_map _
  rcases h.own.2 with ⟨rfl, h0⟩ | ⟨g, cap, cur, rfl, hb, hg, h1, h2, h3, h4⟩
  · exact ⟨none, 0, by rw [hl, h0], by omega, by simp [maxLen], fun hn => absurd (hl.trans h0) hn⟩
  · refine ⟨_, cap, by rw [hl], by omega, h2, fun _ => ⟨g, 0, rfl, fun j f hj => ?_⟩⟩
    rw [List.getElem?_map] at hj
    cases hr : rows[j]? with
    | none => rw [hr] at hj; cases hj
    | some r =>
      rw [hr] at hj
      simp only [Option.map_some, Option.some.injEq] at hj
      subst hj
      have hjl : j < rows.length := (List.getElem?_eq_some_iff.1 hr).1
      have c : ∀ i, i < 8 → w.cell? ⟨g, j * 8 + i, none⟩ = (encN r)[i]? := fun i hi => by
        have := h.own.cellAt (j * 8 + i) (by omega)
        rw [nodeCells_at rows j r hr i hi] at this
        exact this
      refine ⟨r.2.1, r.2.2, ?_, (h.good r (List.mem_of_getElem? hr)).1⟩
      rw [Nat.zero_add]
      exact ⟨c 0 (by omega), c 1 (by omega), c 2 (by omega), c 3 (by omega), c 4 (by omega), c 5 (by omega), c 6 (by omega), c 7 (by omega)⟩
end Go.Gs
namespace Go.Gs
open Go.RowKit Go.Maps
set_option linter.unusedVariables false

theorem wpList_insert_own {H : Type} {P : Program} (w : World) {ops : Array Oper} {rest : List Oper} {o : Oper} {a : Act} {Q : Exit → Act → World → Prop}
    (hg : o.guard = none) (m x v : Operand) (t : TypeId) (hop : o.op = Op.insert t m x v)
    (k e : TypeId) (K : Keyed P k) (ht : P.underlying t = some (.map k e)) (R : Value → Option (DataW H × List MemPlace)) (b n : Nat) (D : DataW H)
    (hm : a.eval m = .map (some b)) (hown : w.ownsMap P k R b n D) (hn : n < maxLen) (key val : Value) (kl : Lit) (hx : a.eval x = key) (hv : a.eval v = val) (hkey : keyOf P k key = some kl)
    (d : DataW H) (ps : List MemPlace) (hval : R val = some (d, ps))
    (hK : ∀ w', w'.ownsMap P k R b (n + 1) (D.put kl d) → w.grownBy w' (some b) → wpList P ops Q rest (a.put o.dst undef) w') :
    wpList P ops Q (o :: rest) a w := by
  refine wpList_plain hg fun K' hK' => ?_
  obtain ⟨w', hrun, r1, r2⟩ := hown.update K ht hn hkey hval
  unfold Oper.wp
  simp [execOp, hop, hm, hx, hv, hrun, Result.andThen]
  exact hK' _ _ (hK w' r1 r2)

theorem wpList_lookup_str {H : Type} {P : Program} (w : World) {ops : Array Oper} {rest : List Oper} {o : Oper} {a : Act} {Q : Exit → Act → World → Prop}
    (hg : o.guard = none) (m x : Operand) (t : TypeId) (hop : o.op = Op.lookup t m x false)
    (k e : TypeId) (K : Keyed P k) (ht : P.underlying t = some (.map k e)) (he : P.underlying e = some .string) (hz : (zeroValue e).run P w = .ok (.string ⟨#[]⟩) w) (b n : Nat) (D : DataW H)
    (hm : a.eval m = .map (some b)) (hown : w.ownsMap P k (plainElem P e) b n D) (key : Value) (kl : Lit) (hx : a.eval x = key) (hkey : keyOf P k key = some kl)
    (hK : ∀ s : ByteArray, D.atKey kl (.lit (.string [])) = .lit (.string s.data.toList) → wpList P ops Q rest (a.put o.dst (.string s)) w) :
    wpList P ops Q (o :: rest) a w := by
  refine wpList_plain hg fun K' hK' => ?_
  obtain ⟨v, ps, hrun, hv⟩ := hown.lookup K ht hz (plainElem_string (H := H) he (s := ⟨#[]⟩) (by unfold maxLen; decide)) hkey
  obtain ⟨s, rfl, hs, _⟩ := plainElem_string_inv he hv
  unfold Oper.wp
  simp [execOp, hop, hm, hx, hrun, Result.andThen]
  exact hK' _ _ (hK s (by simpa using (Prod.mk.inj hs).1))
end Go.Gs
namespace Go.Gs
open Go.RowKit
set_option linter.unusedVariables false

theorem fm_succ (f : Nat → Option (List UInt8)) (k : Nat) : (List.range (k + 1)).filterMap f = (List.range k).filterMap f ++ (f k).toList := by
  rw [List.range_succ, List.filterMap_append]
  cases h : f k <;> simp [h]
theorem tk_succ {α : Type} {ls : List α} {k : Nat} (h : k < ls.length) : ls.take (k + 1) = ls.take k ++ [ls[k]] := by
  rw [List.take_add_one, List.getElem?_eq_getElem h]
  rfl

theorem fm_filter (ls : List (List UInt8)) (p : List UInt8 → Bool) (f : Nat → Option (List UInt8)) (hf : ∀ i s, ls[i]? = some s → f i = if p s = true then some s else none) : (List.range ls.length).filterMap f = ls.filter p := by
  have : ∀ k, k ≤ ls.length → (List.range k).filterMap f = (ls.take k).filter p := by
    intro k
    induction k with
    | zero => intro _; simp
    | succ k ih =>
      intro h
      rw [fm_succ, ih (by omega), tk_succ (by omega), List.filter_append, hf k _ (List.getElem?_eq_getElem (by omega))]
      congr 1
      split <;> simp_all
  have := this _ (Nat.le_refl _)
  rwa [List.take_length] at this
theorem fm_map (ls : List (List UInt8)) (g : List UInt8 → List UInt8) (f : Nat → Option (List UInt8)) (hf : ∀ i s, ls[i]? = some s → f i = some (g s)) : (List.range ls.length).filterMap f = ls.map g := by
  have : ∀ k, k ≤ ls.length → (List.range k).filterMap f = (ls.take k).map g := by
    intro k
    induction k with
    | zero => intro _; simp
    | succ k ih =>
      intro h
      rw [fm_succ, ih (by omega), tk_succ (by omega), List.map_append, hf k _ (List.getElem?_eq_getElem (by omega))]
      simp
  have := this _ (Nat.le_refl _)
  rwa [List.take_length] at this
theorem fm_head (ls : List (List UInt8)) (n : Int) (f : Nat → Option (List UInt8)) (hf : ∀ i s, ls[i]? = some s → f i = if (i : Int) < n then some s else none) : (List.range ls.length).filterMap f = ls.take n.toNat := by
  have : ∀ k, k ≤ ls.length → (List.range k).filterMap f = (ls.take k).take n.toNat := by
    intro k
    induction k with
    | zero => intro _; simp
    | succ k ih =>
      intro h
      rw [fm_succ, ih (by omega), tk_succ (by omega), List.take_append, hf k _ (List.getElem?_eq_getElem (by omega))]
      congr 1
      rw [List.length_take, Nat.min_eq_left (by omega)]
      by_cases hk : (k : Int) < n
      · rw [if_pos hk, List.take_of_length_le (by simp; omega)]; rfl
      · rw [if_neg hk, show n.toNat - k = 0 by omega]; rfl
  have := this _ (Nat.le_refl _)
  rwa [List.take_length] at this
theorem fm_tail (ls : List (List UInt8)) (n : Int) (hn : 0 ≤ n) (f : Nat → Option (List UInt8)) (hf : ∀ i s, ls[i]? = some s → f i = if (ls.length : Int) - n ≤ (i : Int) then some s else none) : (List.range ls.length).filterMap f = ls.drop (ls.length - n.toNat) := by
  have : ∀ k, k ≤ ls.length → (List.range k).filterMap f = (ls.take k).drop (ls.length - n.toNat) := by
    intro k
    induction k with
    | zero => intro _; simp
    | succ k ih =>
      intro h
      rw [fm_succ, ih (by omega), tk_succ (by omega), List.drop_append, hf k _ (List.getElem?_eq_getElem (by omega))]
      congr 1
      rw [List.length_take, Nat.min_eq_left (by omega)]
      by_cases hk : (ls.length : Int) - n ≤ (k : Int)
      · rw [if_pos hk, show ls.length - n.toNat - k = 0 by omega]; rfl
      · rw [if_neg hk, List.drop_of_length_le (by simp; omega)]; rfl
  have := this _ (Nat.le_refl _)
  rwa [List.take_length] at this
theorem fm_once (ls : List (List UInt8)) (f : Nat → Option (List UInt8)) (hf : ∀ i s, ls[i]? = some s → f i = if i = 0 ∨ ls[i - 1]? ≠ some s then some s else none) : (List.range ls.length).filterMap f = Lib.compact ls := by
  have : ∀ k, k ≤ ls.length → (List.range k).filterMap f = Lib.compactUpTo ls.toArray k := by
    intro k
    induction k with
    | zero => intro _; rfl
    | succ k ih =>
      intro h
      rw [fm_succ, ih (by omega), Lib.compactUpTo_succ, hf k _ (List.getElem?_eq_getElem (show k < ls.length by omega))]
      congr 1
      have e1 : ls.toArray[k]! = ls[k] := by simp [getElem!_pos, show k < ls.length by omega]
      have e2 : ls.toArray[k - 1]! = ls[k - 1] := by simp [getElem!_pos, show k - 1 < ls.length by omega]
      have e3 : ls[k - 1]? = some ls[k - 1] := List.getElem?_eq_getElem (by omega)
      unfold Lib.keeps
      rw [e1, e2, e3]
      by_cases hk : k = 0 ∨ some ls[k - 1] ≠ some ls[k]
      · have hk' : k = 0 ∨ ls[k] ≠ ls[k - 1] := hk.imp id (fun h e => h (by rw [e]))
        rw [if_pos hk, decide_eq_true hk', if_pos rfl]; rfl
      · have hk' : ¬ (k = 0 ∨ ls[k] ≠ ls[k - 1]) := fun h => hk (h.imp id (fun h e => h (by injection e with e; exact e.symm)))
        rw [if_neg hk, decide_eq_false hk']; rfl
  exact this _ (Nat.le_refl _)
end Go.Gs
namespace Go.Gs
open Go.RowKit
set_option linter.unusedVariables false

/-- What stands between line feeds, the last piece too. -/
def pieces (cur : List UInt8) : List UInt8 → List (List UInt8)
  | [] => [cur]
  | c :: r => if c = 10 then cur :: pieces [] r else pieces (cur ++ [c]) r

theorem pieces_none (s : List UInt8) : ∀ cur, (10 : UInt8) ∉ s → pieces cur s = [cur ++ s] := by
  induction s with
  | nil => intro cur _; simp [pieces]
  | cons c s ih =>
    intro cur h
    simp only [List.mem_cons, not_or] at h
    rw [pieces, if_neg (fun e => h.1 e.symm), ih _ h.2]
    simp

theorem pieces_line (s : List UInt8) : ∀ (cur r : List UInt8), (10 : UInt8) ∉ s → pieces cur (s ++ 10 :: r) = (cur ++ s) :: pieces [] r := by
  induction s with
  | nil => intro cur r _; simp [pieces]
  | cons c s ih =>
    intro cur r h
    simp only [List.mem_cons, not_or] at h
    rw [List.cons_append, pieces, if_neg (fun e => h.1 e.symm), ih _ _ h.2]
    simp

theorem pieces_ne (s : List UInt8) : ∀ cur, pieces cur s ≠ [] := by
  induction s with
  | nil => intro cur; simp [pieces]
  | cons c s ih => intro cur; unfold pieces; split; simp; exact ih _

theorem lines_pieces (s : List UInt8) : ∀ cur, linesAux cur s = if (pieces cur s).getLast (pieces_ne s cur) = [] then (pieces cur s).dropLast else pieces cur s := by
  induction s with
  | nil => intro cur; simp [pieces, linesAux]
  | cons c s ih =>
    intro cur
    by_cases hc : c = 10
    · have e : pieces cur (c :: s) = cur :: pieces [] s := by rw [pieces, if_pos hc]
      have el : linesAux cur (c :: s) = cur :: linesAux [] s := by rw [linesAux, if_pos hc]
      simp only [e, el]
      rw [List.getLast_cons (pieces_ne s []), List.dropLast_cons_of_ne_nil (pieces_ne s []), ih []]
      split <;> rfl
    · have e : pieces cur (c :: s) = pieces (cur ++ [c]) s := by rw [pieces, if_neg hc]
      have el : linesAux cur (c :: s) = linesAux (cur ++ [c]) s := by rw [linesAux, if_neg hc]
      simp only [e, el]
      exact ih _

theorem splitK_pieces : ∀ (k : Nat) (s : List UInt8), s.count 10 = k → Lib.splitK [10] 0 k s = pieces [] s := by
  intro k
  induction k with
  | zero =>
    intro s h
    have hn : (10 : UInt8) ∉ s := List.count_eq_zero.1 h
    rw [pieces_none s [] hn]
    rfl
  | succ k ih =>
    intro s h
    have hm : (10 : UInt8) ∈ s := List.count_pos_iff.1 (by omega)
    unfold Lib.splitK
    rw [Lib.index_one]
    have hge := Lib.indexByte_ge s 10
    by_cases hi : Lib.indexByte s 10 = -1
    · exfalso
      obtain ⟨j, hj⟩ := List.mem_iff_getElem?.1 hm
      exact Lib.indexByte_none hi j hj
    · obtain ⟨i, hii⟩ := Int.eq_ofNat_of_zero_le (show 0 ≤ Lib.indexByte s 10 by omega)
      obtain ⟨hs, hfirst⟩ := Lib.indexByte_some hii
      have hb : (Lib.indexByte s 10 == -1) = false := by simp [hi]
      rw [hb, hii]
      simp only [Bool.false_eq_true, if_false, Nat.add_zero, List.length_cons, List.length_nil, Nat.zero_add]
      show s.take ((i : Int).toNat) :: Lib.splitK [10] 0 k (s.drop ((i : Int).toNat + 1)) = _
      rw [Int.toNat_natCast]
      obtain ⟨hlt, hsi⟩ := List.getElem?_eq_some_iff.1 hs
      have hcut : s = s.take i ++ 10 :: s.drop (i + 1) := by
        conv => lhs; rw [← List.take_append_drop i s, List.drop_eq_getElem_cons hlt, hsi]
      have hno : (10 : UInt8) ∉ s.take i := by
        intro hmem
        obtain ⟨j, hj⟩ := List.mem_iff_getElem?.1 hmem
        rw [List.getElem?_take] at hj
        split at hj
        · exact hfirst j (by omega) hj
        · cases hj
      have hcount : (s.drop (i + 1)).count 10 = k := by
        rw [hcut, List.count_append, List.count_cons_self, List.count_eq_zero.2 hno] at h
        omega
      rw [ih _ hcount]
      conv => rhs; rw [hcut, pieces_line _ _ _ hno]
      simp

theorem join_ended (ls : List (List UInt8)) (h : ls ≠ []) : Lib.join ls [10] ++ [10] = ended ls := by
  cases ls with
  | nil => exact absurd rfl h
  | cons x r =>
    rw [Lib.join_cons]
    clear h
    induction r generalizing x with
    | nil => simp [Lib.joinTail, ended]
    | cons y r ih =>
      have := ih y
      rw [ended_cons, ← this]
      simp [Lib.joinTail]
end Go.Gs
namespace Go.Gs
open Go.RowKit
set_option linter.unusedVariables false

section
variable {P : Program} {ops : Array Oper} {Q : Exit → Act → World → Prop}

theorem count_set_true {l : List Bool} {i : Nat} (h : l[i]? = some false) : (l.set i true).count false + 1 = l.count false := by
  induction l generalizing i with
  | nil => simp at h
  | cons b l ih =>
    cases i with
    | zero =>
      simp only [List.getElem?_cons_zero, Option.some.injEq] at h
      subst h
      simp
    | succ i =>
      simp only [List.getElem?_cons_succ] at h
      have := ih h
      simp only [List.set_cons_succ, List.count_cons]
      omega
theorem getD_false {listed : Array Bool} {i : Nat} (h : listed.getD i true = false) : listed.toList[i]? = some false ∧ i < listed.size := by
  rw [Array.getD_eq_getD_getElem?] at h
  cases hl : listed[i]? with
  | none => rw [hl] at h; cases h
  | some b =>
    rw [hl] at h
    simp only [Option.getD_some] at h
    subst h
    exact ⟨by simpa using hl, (Array.getElem?_eq_some_iff.1 hl).1⟩

/-- What every ready operation keeps, all of them keep. -/
theorem wpAny_inv (hac : ∀ (i : Nat) (o : Oper), ops[i]? = some o → ∀ e ∈ o.after, e.on < i) (Inv : (Nat → Bool) → Act → World → Prop)
    (hstep : ∀ (L : Nat → Bool) (i : Nat) (o : Oper) (a : Act) (w : World), ops[i]? = some o → L i = false → (∀ e ∈ o.after, Region.binds .any e = true → L e.on = true) → Inv L a w → wpOp P ops Q i (fun a' w' => Inv (fun j => if j = i then true else L j) a' w') a w)
    (hend : ∀ (L : Nat → Bool) (a : Act) (w : World), (∀ i, i < ops.size → L i = true) → Inv L a w → Q .normal a w) :
    ∀ (fuel : Nat) (listed : Array Bool) (a : Act) (w : World), listed.size = ops.size → listed.toList.count false ≤ fuel → Inv (fun j => listed.getD j false) a w → wpAny P .any ops Q fuel listed a w := by
  have hall : ∀ (listed : Array Bool), listed.size = ops.size → Region.ready .any ops listed = [] → ∀ i, i < ops.size → listed.getD i false = true := by
    intro listed hs hr i
    induction i using Nat.strongRecOn with
    | ind i ih =>
      intro hi
      cases hl : listed[i]? with
      | none => rw [Array.getElem?_eq_none_iff] at hl; omega
      | some b =>
        cases b with
        | true => rw [Array.getD_eq_getD_getElem?, hl]; rfl
        | false =>
          exfalso
          have : i ∈ Region.ready .any ops listed := mem_ready.2 ⟨by rw [Array.getD_eq_getD_getElem?, hl]; rfl, ops[i], by simp [hi], fun e he hb => ih e.on (hac i _ (by simp [hi]) e he) (by have := hac i _ (show ops[i]? = some ops[i] by simp [hi]) e he; omega)⟩
          rw [hr] at this
          cases this
  intro fuel
  induction fuel with
  | zero =>
    intro listed a w hs hc hI
    have hr : Region.ready .any ops listed = [] := by
      rw [List.eq_nil_iff_forall_not_mem]
      intro i hi
      obtain ⟨h1, _⟩ := mem_ready.1 hi
      have h2 := (getD_false h1).1
      have : false ∈ listed.toList := List.mem_of_getElem? h2
      have := List.count_pos_iff.2 this
      omega
    exact ⟨hr, hend _ a w (hall listed hs hr) hI⟩
  | succ fuel ih =>
    intro listed a w hs hc hI
    refine ⟨fun hr => hend _ a w (hall listed hs hr) hI, fun i hi => ?_⟩
    obtain ⟨h1, o, ho, h2⟩ := mem_ready.1 hi
    obtain ⟨h3, h4⟩ := getD_false h1
    have hLi : listed.getD i false = false := by rw [Array.getD_eq_getD_getElem?]; have : listed[i]? = some false := by simpa using h3
                                                 rw [this]; rfl
    refine wpOp_mono ?_ (hstep _ i o a w ho hLi h2 hI)
    intro a' w' hI'
    refine ih _ a' w' (by simp [hs]) ?_ ?_
    · have := count_set_true h3
      rw [Array.toList_setIfInBounds]
      omega
    · have e : (fun j => (listed.setIfInBounds i true).getD j false) = fun j => if j = i then true else listed.getD j false := by
        funext j
        by_cases hj : j = i
        · subst hj
          rw [if_pos rfl, Array.getD_eq_getD_getElem?, Array.getElem?_setIfInBounds_self_of_lt h4]
          rfl
        · rw [if_neg hj, getD_set_ne false (fun e => hj e.symm)]
      rw [e]
      exact hI'
theorem wp_region_inv {id : Nat} {a : Act} {w : World} (hm : P.follows .mixedOrders = true) (hac : ((List.range ops.size).all fun i => ((ops[i]?).map (·.after.all fun e => decide (e.on < i))).getD true) = true) (Inv : (Nat → Bool) → Act → World → Prop)
    (hstep : ∀ (L : Nat → Bool) (i : Nat) (o : Oper) (a : Act) (w : World), ops[i]? = some o → L i = false → (∀ e ∈ o.after, Region.binds .any e = true → L e.on = true) → Inv L a w → wpOp P ops Q i (fun a' w' => Inv (fun j => if j = i then true else L j) a' w') a w)
    (hend : ∀ (L : Nat → Bool) (a : Act) (w : World), (∀ i, i < ops.size → L i = true) → Inv L a w → Q .normal a w)
    (h0 : Inv (fun _ => false) a { w with drawn := w.drawn + 1 }) : (Code.region id ops true).wp P Q a w := by
  refine wp_region_any hm (wpAny_inv ?_ Inv hstep hend ops.size _ a _ (by simp) (by simp) ?_)
  · intro i o ho e he
    have hi : i < ops.size := (Array.getElem?_eq_some_iff.1 ho).1
    have := List.all_eq_true.1 hac i (List.mem_range.2 hi)
    rw [ho] at this
    simp only [Option.map_some, Option.getD_some, Array.all_eq_true_iff_forall_mem, decide_eq_true_eq] at this
    exact this e he
  · have e : (fun j => (Array.replicate ops.size false).getD j false) = fun _ => false := by
      funext j
      rw [Array.getD_eq_getD_getElem?]
      cases h : (Array.replicate ops.size false)[j]? with
      | none => rfl
      | some b =>
        have := Array.mem_of_getElem? h
        rw [Array.mem_replicate] at this
        rw [this.2]; rfl
    rw [e]; exact h0
end
end Go.Gs
