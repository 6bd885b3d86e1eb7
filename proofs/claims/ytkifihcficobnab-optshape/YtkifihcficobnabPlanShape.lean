/- How many nodes of each kind a plan has: no walk. -/
import Derived.Test.YtkifihcficobnabPlanPlain
namespace Go.Gs
open Go.RowKit
set_option linter.unusedVariables false

/-- How many nodes of a kind there are. -/
def cnt (k : Int) (ns : List SNode) : Nat := ns.countP (fun n => decide (n.kind = k))
theorem cnt_append (k : Int) (a b : List SNode) : cnt k (a ++ b) = cnt k a + cnt k b := by simp [cnt]
theorem cnt_one (k : Int) (n : SNode) : cnt k [n] = if n.kind = k then 1 else 0 := by simp [cnt, List.countP_cons]
theorem cnt_le (k : Int) (ns : List SNode) : cnt k ns ≤ ns.length := List.countP_le_length
theorem cnt_src (k : Int) : ∀ (fr : List (List UInt8)) (d : PD), cnt k (fr.foldl pSrc d).1 = cnt k d.1 + if k = 1 then fr.length else 0
  | [], d => by simp
  | f :: r, d => by
    rw [List.foldl_cons, cnt_src k r]
    simp only [pSrc, cnt_append, cnt_one, srcN, List.length_cons]
    by_cases h : k = 1
    · subst h; simp; omega
    · have h' : ¬ (1 : Int) = k := fun e => h e.symm
      simp [h, h']
theorem cnt_behind {k : Int} (h : k ≠ 4) (d : PD) : cnt k (pBehind d).1 = cnt k d.1 := by
  have h' : ¬ (4 : Int) = k := fun e => h e.symm
  unfold pBehind
  split
  · simp [pJoinAll, cnt_append, cnt_one, joinN, h']
  · rfl
theorem cnt_split {k : Int} {w : Nat} (h : k ≠ 2 ∨ w = 1) (d : PD) : cnt k (pSplit w d).1 = cnt k d.1 := by
  unfold pSplit
  split
  · rename_i h1
    rcases h with h | h
    · have h' : ¬ (2 : Int) = k := fun e => h e.symm
      simp [cnt_append, cnt_one, splitN, h']
    · exact absurd h h1.2
  · rfl
theorem cnt_works (k : Int) (c : Cmd) : ∀ (op : List (Int × Int)) (d : PD), cnt k (op.foldl (pWork c) d).1 = cnt k d.1 + if k = 3 then op.length else 0
  | [], d => by simp
  | f :: r, d => by
    rw [List.foldl_cons, cnt_works k c r]
    simp only [pWork, cnt_append, cnt_one, workN, List.length_cons]
    by_cases h : k = 3
    · subst h; simp; omega
    · have h' : ¬ (3 : Int) = k := fun e => h e.symm
      simp [h, h']
theorem cnt_join {k : Int} (h : k ≠ 4) (w : Nat) (c : Cmd) (d : PD) : cnt k (pJoin w c d).1 = cnt k d.1 := by
  have h' : ¬ (4 : Int) = k := fun e => h e.symm
  unfold pJoin
  split
  · rfl
  · simp [pJoinAll, cnt_append, cnt_one, joinN, h']
theorem cnt_cmd {k : Int} {w : Nat} (h4 : k ≠ 4) (h2 : k ≠ 2 ∨ w = 1) {d : PD} (hw : 1 ≤ w ∧ w ≤ 5) (h : d.2.length = 1 ∨ d.2.length = w) (c : Cmd) : cnt k (pCmd w d c).1 = cnt k d.1 + if k = 3 then w else 0 := by
  obtain ⟨a, _, _⟩ := pSplit_len hw h
  unfold pCmd pWorks
  rw [cnt_join h4, cnt_works, cnt_split h2, a]
theorem cnt_cmds {k : Int} {w : Nat} (h4 : k ≠ 4) (h2 : k ≠ 2 ∨ w = 1) (hw : 1 ≤ w ∧ w ≤ 5) : ∀ (cs : List Cmd) (d : PD), (d.2.length = 1 ∨ d.2.length = w) → cnt k (cs.foldl (pCmd w) d).1 = cnt k d.1 + if k = 3 then w * cs.length else 0
  | [], d, h => by simp
  | c :: r, d, h => by
    rw [List.foldl_cons, cnt_cmds h4 h2 hw r _ (pCmd_len hw h c).1, cnt_cmd h4 h2 hw h]
    by_cases h3 : k = 3
    · simp [h3, Nat.mul_add]; omega
    · simp [h3]
theorem cnt_plan {l : SLine} {w : Nat} (hw : 1 ≤ w ∧ w ≤ 5) (h : lchk l = 0) {k : Int} (h4 : k ≠ 4) (h2 : k ≠ 2 ∨ w = 1) : cnt k (plan l w) = (if k = 1 then l.fr.length else 0) + (if k = 3 then w * l.cs.length else 0) + (if k = 5 then 1 else 0) := by
  have h0 : ¬ (l.fr.length < 1 ∨ 4 < l.fr.length ∨ 6 < l.cs.length) := by
    intro h1; unfold lchk at h; rw [if_pos h1] at h; cases h
  obtain ⟨a, _⟩ := pFrom_len (fr := l.fr) (by omega) (by omega)
  unfold plan pSink
  rw [cnt_append, cnt_behind h4]
  unfold pDone
  rw [cnt_cmds h4 h2 hw _ _ (Or.inl a)]
  unfold pFrom
  rw [cnt_behind h4]
  unfold pStart
  rw [cnt_src, cnt_one]
  have e : cnt k ([] : List SNode) = 0 := rfl
  simp only [sinkN, e]
  by_cases h5 : k = 5
  · subst h5; simp
  · have h' : ¬ (5 : Int) = k := fun e => h5 e.symm
    simp [h5, h']
/-- Every Split is so wide. -/
def Wides (w : Nat) (ns : List SNode) : Prop := ∀ x ∈ ns, x.kind = 2 → x.wide = (w : Int)
theorem Wides.app {w : Nat} {ns : List SNode} {n : SNode} (h : Wides w ns) (hn : n.kind = 2 → n.wide = (w : Int)) : Wides w (ns ++ [n]) := by
  intro x hx
  rcases List.mem_append.1 hx with h1 | h1
  · exact h x h1
  · rw [List.mem_singleton.1 h1]; exact hn
theorem wides_src (w : Nat) : ∀ (fr : List (List UInt8)) (d : PD), Wides w d.1 → Wides w (fr.foldl pSrc d).1
  | [], d, h => h
  | f :: r, d, h => wides_src w r _ (h.app (n := srcN f) (by intro e; exact absurd e (by simp [srcN])))
theorem wides_behind {w : Nat} {d : PD} (h : Wides w d.1) : Wides w (pBehind d).1 := by
  unfold pBehind
  split
  · exact h.app (by intro e; exact absurd e (by simp [joinN]))
  · exact h
theorem wides_works {w : Nat} (c : Cmd) : ∀ (op : List (Int × Int)) (d : PD), Wides w d.1 → Wides w (op.foldl (pWork c) d).1
  | [], d, h => h
  | f :: r, d, h => wides_works c r _ (h.app (n := workN c f) (by intro e; exact absurd e (by simp [workN])))
theorem wides_cmd {w : Nat} {d : PD} (h : Wides w d.1) (c : Cmd) : Wides w (pCmd w d c).1 := by
  have h1 : Wides w (pSplit w d).1 := by
    unfold pSplit
    split
    · exact h.app (fun _ => rfl)
    · exact h
  have h2 : Wides w (pWorks c (pSplit w d)).1 := wides_works c _ _ h1
  unfold pCmd pJoin
  split
  · exact h2
  · exact h2.app (by intro e; exact absurd e (by simp [joinN]))
theorem wides_cmds {w : Nat} : ∀ (cs : List Cmd) (d : PD), Wides w d.1 → Wides w (cs.foldl (pCmd w) d).1
  | [], d, h => h
  | c :: r, d, h => wides_cmds r _ (wides_cmd h c)
theorem plan_wides (l : SLine) (w : Nat) : Wides w (plan l w) := by
  unfold plan pSink
  refine Wides.app (wides_behind ?_) (by intro e; exact absurd e (by simp [sinkN]))
  unfold pDone
  refine wides_cmds _ _ ?_
  unfold pFrom pStart
  exact wides_behind (wides_src w _ _ (by intro x hx; cases hx))
theorem plan_last (l : SLine) (w : Nat) : (plan l w)[(plan l w).length - 1]? = some (sinkN l.to (pBehind (pDone w l.fr l.cs)).2) := by
  unfold plan pSink
  simp
end Go.Gs
