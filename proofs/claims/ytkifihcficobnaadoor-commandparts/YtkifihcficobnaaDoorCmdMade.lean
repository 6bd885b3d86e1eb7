/- What a right command makes of lines, plainly: no walk. -/
import Derived.Test.YtkifihcficobnaaDoorCmdPlain
import Derived.Lib.Split
import Derived.Lib.SplitLaws
import Derived.Lib.ItoaNum
import Derived.Lib.IndexMore
import Derived.Lib.SlicesCompact
namespace Go.Gs
open Go.RowKit
set_option linter.unusedVariables false

def swapOf (a b : UInt8) (s : List UInt8) : List UInt8 := s.map fun x => if x = a then b else x
def fieldOf (n : Int) (s : List UInt8) : List UInt8 := ((Lib.split s [32])[(n - 1).toNat]?).getD []
def sortOf (ls : List (List UInt8)) : List (List UInt8) := ls.mergeSort fun x y => decide (x ≤ y)

/-- What a right command makes of lines. -/
def made (c : Cmd) (ls : List (List UInt8)) : List (List UInt8) :=
  if c.kind = 1 then ls.filter (fun s => Lib.contains s c.word)
  else if c.kind = 2 then ls.filter (fun s => !Lib.contains s c.word)
  else if c.kind = 3 then ls.map (swapOf (c.word.getD 0 0) (c.word.getD 1 0))
  else if c.kind = 4 then ls.map (fieldOf c.n)
  else if c.kind = 5 then ls.map List.reverse
  else if c.kind = 6 then sortOf ls
  else if c.kind = 7 then Lib.compact ls
  else if c.kind = 8 then [Lib.itoa (ls.length : Int)]
  else if c.kind = 9 then ls.take c.n.toNat
  else ls.drop (ls.length - c.n.toNat)

/-- What Do answers: the error, and (if it is none) the bytes. -/
def doErr (c : Cmd) (b : List UInt8) : Int := if chk c ≠ 0 then chk c else if 4000 < b.length then 2 else 0
def doOut (c : Cmd) (b : List UInt8) : List UInt8 := ended (made c (lines b))

theorem made1 (c : Cmd) (h : c.kind = 1) (ls : List (List UInt8)) : made c ls = ls.filter (fun s => Lib.contains s c.word) := by simp [made, h]
theorem made2 (c : Cmd) (h : c.kind = 2) (ls : List (List UInt8)) : made c ls = ls.filter (fun s => !Lib.contains s c.word) := by simp [made, h]
theorem made3 (c : Cmd) (h : c.kind = 3) (ls : List (List UInt8)) : made c ls = ls.map (swapOf (c.word.getD 0 0) (c.word.getD 1 0)) := by simp [made, h]
theorem made4 (c : Cmd) (h : c.kind = 4) (ls : List (List UInt8)) : made c ls = ls.map (fieldOf c.n) := by simp [made, h]
theorem made5 (c : Cmd) (h : c.kind = 5) (ls : List (List UInt8)) : made c ls = ls.map List.reverse := by simp [made, h]
theorem made6 (c : Cmd) (h : c.kind = 6) (ls : List (List UInt8)) : made c ls = sortOf ls := by simp [made, h]
theorem made7 (c : Cmd) (h : c.kind = 7) (ls : List (List UInt8)) : made c ls = Lib.compact ls := by simp [made, h]
theorem made8 (c : Cmd) (h : c.kind = 8) (ls : List (List UInt8)) : made c ls = [Lib.itoa (ls.length : Int)] := by simp [made, h]
theorem made9 (c : Cmd) (h : c.kind = 9) (ls : List (List UInt8)) : made c ls = ls.take c.n.toNat := by simp [made, h]
theorem made10 (c : Cmd) (h : c.kind = 10) (ls : List (List UInt8)) : made c ls = ls.drop (ls.length - c.n.toNat) := by simp [made, h]

theorem chk_kinds (c : Cmd) (h : chk c = 0) : 1 ≤ c.kind ∧ c.kind ≤ 10 := by
  unfold chk at h
  split at h
  · cases h
  · rename_i hu
    unfold uses at hu
    split at hu
    · omega
    · split at hu
      · omega
      · split at hu
        · omega
        · exact absurd rfl hu

/-! ### Each -/

theorem made_append (c : Cmd) (h : isEach c.kind = true) (xs ys : List (List UInt8)) : made c (xs ++ ys) = made c xs ++ made c ys := by
  have hk : c.kind = 1 ∨ c.kind = 2 ∨ c.kind = 3 ∨ c.kind = 4 ∨ c.kind = 5 := by
    have := of_decide_eq_true h
    omega
  rcases hk with hk | hk | hk | hk | hk <;> simp [made, hk]

theorem lines_ended_append (l : List (List UInt8)) (b : List UInt8) (h : ∀ s ∈ l, (10 : UInt8) ∉ s) : lines (ended l ++ b) = l ++ lines b := by
  induction l with
  | nil => simp [ended]
  | cons s l ih =>
    have hs := h s (by simp)
    have := ih (fun t ht => h t (by simp [ht]))
    rw [ended_cons, List.append_assoc, List.append_assoc]
    show linesAux [] (s ++ 10 :: (ended l ++ b)) = _
    rw [linesAux_line s [] _ hs]
    simp only [List.nil_append, List.cons_append, List.cons.injEq, true_and]
    simpa [lines] using this

theorem doOut_append (c : Cmd) (h : isEach c.kind = true) (a b : List UInt8) : doOut c (ended (lines a) ++ b) = doOut c a ++ doOut c b := by
  unfold doOut
  rw [lines_ended_append _ _ (lines_noFeed a), made_append c h, ended_append]

/-! ### Order -/

theorem le_total' (x y : List UInt8) : (decide (x ≤ y) || decide (y ≤ x)) = true := by
  simp only [Bool.or_eq_true, decide_eq_true_eq]
  exact List.le_total x y
theorem le_trans' (x y z : List UInt8) (h1 : decide (x ≤ y) = true) (h2 : decide (y ≤ z) = true) : decide (x ≤ z) = true :=
  decide_eq_true (List.le_trans (of_decide_eq_true h1) (of_decide_eq_true h2))

theorem sortOf_perm (l : List (List UInt8)) : (sortOf l).Perm l := List.mergeSort_perm _ _
theorem sortOf_sorted (l : List (List UInt8)) : (sortOf l).Pairwise (fun x y => x ≤ y) := by
  have := List.pairwise_mergeSort (le := fun x y : List UInt8 => decide (x ≤ y)) le_trans' le_total' l
  exact this.imp (fun h => of_decide_eq_true h)

theorem sorted_unique : ∀ (l m : List (List UInt8)), l.Perm m → l.Pairwise (fun x y => x ≤ y) → m.Pairwise (fun x y => x ≤ y) → l = m := by
  intro l m hp hl hm
  exact hp.eq_of_pairwise (fun a b _ _ h1 h2 => List.le_antisymm h1 h2) hl hm

theorem sortOf_congr {l m : List (List UInt8)} (h : l.Perm m) : sortOf l = sortOf m :=
  sorted_unique _ _ (((sortOf_perm l).trans h).trans (sortOf_perm m).symm) (sortOf_sorted l) (sortOf_sorted m)
theorem sortOf_idem (l : List (List UInt8)) : sortOf (sortOf l) = sortOf l := sortOf_congr (sortOf_perm l)

end Go.Gs
