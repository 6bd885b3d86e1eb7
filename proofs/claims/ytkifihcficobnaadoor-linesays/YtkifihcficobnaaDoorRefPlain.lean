/- What the reference reckons, told by the same plain functions: no walk. -/
import Derived.Test.YtkifihcficobnaaDoorPlain
import Derived.Lib.Split
import Derived.Lib.SplitLaws
import Derived.Lib.IndexBytes
import Derived.Lib.IndexLaws
import Derived.Lib.Join
namespace Go.Gs
open Go.RowKit
set_option linter.unusedVariables false

/-- What stands between line feeds, the last piece too. -/
def pieces (cur : List UInt8) : List UInt8 → List (List UInt8)
  | [] => [cur]
  | c :: r => if c = 10 then cur :: pieces [] r else pieces (cur ++ [c]) r

theorem pieces_none (s : List UInt8) : ∀ cur, (10 : UInt8) ∉ s → pieces cur s = [cur ++ s] := by
  induction s with
  | nil => intro cur _; simp [pieces]
  | cons c s ih =>
    intro cur h
    simp only [List.mem_cons, not_or] at h
    rw [pieces, if_neg (fun e => h.1 e.symm), ih _ h.2]
    simp

theorem pieces_line (s : List UInt8) : ∀ (cur r : List UInt8), (10 : UInt8) ∉ s → pieces cur (s ++ 10 :: r) = (cur ++ s) :: pieces [] r := by
  induction s with
  | nil => intro cur r _; simp [pieces]
  | cons c s ih =>
    intro cur r h
    simp only [List.mem_cons, not_or] at h
    rw [List.cons_append, pieces, if_neg (fun e => h.1 e.symm), ih _ _ h.2]
    simp

theorem pieces_ne (s : List UInt8) : ∀ cur, pieces cur s ≠ [] := by
  induction s with
  | nil => intro cur; simp [pieces]
  | cons c s ih => intro cur; unfold pieces; split; simp; exact ih _

theorem lines_pieces (s : List UInt8) : ∀ cur, linesAux cur s = if (pieces cur s).getLast (pieces_ne s cur) = [] then (pieces cur s).dropLast else pieces cur s := by
  induction s with
  | nil => intro cur; simp [pieces, linesAux]
  | cons c s ih =>
    intro cur
    by_cases hc : c = 10
    · have e : pieces cur (c :: s) = cur :: pieces [] s := by rw [pieces, if_pos hc]
      have el : linesAux cur (c :: s) = cur :: linesAux [] s := by rw [linesAux, if_pos hc]
      simp only [e, el]
      rw [List.getLast_cons (pieces_ne s []), List.dropLast_cons_of_ne_nil (pieces_ne s []), ih []]
      split <;> rfl
    · have e : pieces cur (c :: s) = pieces (cur ++ [c]) s := by rw [pieces, if_neg hc]
      have el : linesAux cur (c :: s) = linesAux (cur ++ [c]) s := by rw [linesAux, if_neg hc]
      simp only [e, el]
      exact ih _

theorem splitK_pieces : ∀ (k : Nat) (s : List UInt8), s.count 10 = k → Lib.splitK [10] 0 k s = pieces [] s := by
  intro k
  induction k with
  | zero =>
    intro s h
    have hn : (10 : UInt8) ∉ s := List.count_eq_zero.1 h
    rw [pieces_none s [] hn]
    rfl
  | succ k ih =>
    intro s h
    have hm : (10 : UInt8) ∈ s := List.count_pos_iff.1 (by omega)
    unfold Lib.splitK
    rw [Lib.index_one]
    have hge := Lib.indexByte_ge s 10
    by_cases hi : Lib.indexByte s 10 = -1
    · exfalso
      obtain ⟨j, hj⟩ := List.mem_iff_getElem?.1 hm
      exact Lib.indexByte_none hi j hj
    · obtain ⟨i, hii⟩ := Int.eq_ofNat_of_zero_le (show 0 ≤ Lib.indexByte s 10 by omega)
      obtain ⟨hs, hfirst⟩ := Lib.indexByte_some hii
      have hb : (Lib.indexByte s 10 == -1) = false := by simp [hi]
      rw [hb, hii]
      simp only [Bool.false_eq_true, if_false, Nat.add_zero, List.length_cons, List.length_nil, Nat.zero_add]
      show s.take ((i : Int).toNat) :: Lib.splitK [10] 0 k (s.drop ((i : Int).toNat + 1)) = _
      rw [Int.toNat_natCast]
      obtain ⟨hlt, hsi⟩ := List.getElem?_eq_some_iff.1 hs
      have hcut : s = s.take i ++ 10 :: s.drop (i + 1) := by
        conv => lhs; rw [← List.take_append_drop i s, List.drop_eq_getElem_cons hlt, hsi]
      have hno : (10 : UInt8) ∉ s.take i := by
        intro hmem
        obtain ⟨j, hj⟩ := List.mem_iff_getElem?.1 hmem
        rw [List.getElem?_take] at hj
        split at hj
        · exact hfirst j (by omega) hj
        · cases hj
      have hcount : (s.drop (i + 1)).count 10 = k := by
        rw [hcut, List.count_append, List.count_cons_self, List.count_eq_zero.2 hno] at h
        omega
      rw [ih _ hcount]
      conv => rhs; rw [hcut, pieces_line _ _ _ hno]
      simp

theorem join_ended (ls : List (List UInt8)) (h : ls ≠ []) : Lib.join ls [10] ++ [10] = ended ls := by
  cases ls with
  | nil => exact absurd rfl h
  | cons x r =>
    rw [Lib.join_cons]
    clear h
    induction r generalizing x with
    | nil => simp [Lib.joinTail, ended]
    | cons y r ih =>
      have := ih y
      rw [ended_cons, ← this]
      simp [Lib.joinTail]
end Go.Gs
