/- The closed graph of the laws. The closed graph of the laws: what it is, what flows through it. What flows through the closed graph of the laws. -/
import Derived.Test.YtkifihcficobnabGreatDoorGraphA
import Derived.Test.YtkifihcficobnabGreatDoorPlainE
import Derived.Lib.SlBytesConst
import Derived.Test.YtkifihcficobnabGreatDoorDevGraph12
import Derived.Test.YtkifihcficobnabGreatDoorFBase
namespace Go.Proofs.YtkifihcficobnabGreatDoor
open Go.RowKit Go.Gs
set_option linter.unusedVariables false

theorem heap_old {w : World} {o x : Obj} {k : Nat} (h : w.heap[k]? = some x) : (w.alloc o).heap[k]? = some x := (Below.heap_alloc _ _ _ (by rcases Nat.lt_or_ge k w.heap.size with h1 | h1; exact h1; rw [Array.getElem?_eq_none h1] at h; cases h)).trans h
theorem heap_new_at {w : World} {o : Obj} {k : Nat} (h : k = w.heap.size) : (w.alloc o).heap[k]? = some o := by rw [h]; exact heap_alloc_new w o
theorem ports_at {W : World} {b m : Nat} {cs : Array Value} {t : TypeId} {ps : List (Int × Int)} (hrow : W.heap[b]? = some (.cells cs t (0, 0))) (h1 : ps.length = m) (h2 : m ≤ 6) (hc : ∀ (j : Nat) p, ps[j]? = some p → cs[0 + j * 2]? = some (.int .i64 p.1) ∧ cs[0 + j * 2 + 1]? = some (.int .i64 p.2)) : RPorts W (.slice (some ⟨b, 0, none⟩) ps.length m) ps :=
  ⟨_, _, rfl, by omega, by unfold maxLen; omega, fun _ => ⟨_, 0, rfl, fun j p hj => ⟨by rw [cell_of_row _ _ _ _ _ _ hrow]; exact (hc j p hj).1, by rw [cell_of_row _ _ _ _ _ _ hrow]; exact (hc j p hj).2⟩⟩⟩

set_option maxRecDepth 100000 in
set_option maxHeartbeats 4000000 in
theorem sorter_rows (w : World) : RNodes ((((((((w.alloc (.cells #[.slice (some ⟨w.heap.size + 1 + 1 + 1 + 1 + 1 + 1 + 1, 0, none⟩) 6 6] 57)).alloc (.cells #[.int .i64 6, .string ⟨#[]⟩, .int .i64 0] 59)).alloc (.cells #[.int .i64 0, .int .i64 0] 98)).alloc (.cells #[.int .i64 1, .int .i64 0] 98)).alloc (.cells #[.int .i64 1, .int .i64 1] 98)).alloc (.cells #[.int .i64 2, .int .i64 0, .int .i64 3, .int .i64 0] 98)).alloc (.cells #[.int .i64 4, .int .i64 0] 98)).alloc (.cells #[.int .i64 1, .string ⟨#[97]⟩, .int .i64 0, .string ⟨#[]⟩, .int .i64 0, .int .i64 0, .int .i64 0, .slice none 0 0, .int .i64 2, .string ⟨#[]⟩, .int .i64 0, .string ⟨#[]⟩, .int .i64 0, .int .i64 0, .int .i64 2, .slice (some ⟨w.heap.size + 1 + 1, 0, none⟩) 1 1, .int .i64 3, .string ⟨#[]⟩, .int .i64 6, .string ⟨#[]⟩, .int .i64 0, .int .i64 0, .int .i64 0, .slice (some ⟨w.heap.size + 1 + 1 + 1, 0, none⟩) 1 1, .int .i64 3, .string ⟨#[]⟩, .int .i64 6, .string ⟨#[]⟩, .int .i64 0, .int .i64 0, .int .i64 0, .slice (some ⟨w.heap.size + 1 + 1 + 1 + 1, 0, none⟩) 1 1, .int .i64 4, .string ⟨#[]⟩, .int .i64 0, .string ⟨#[]⟩, .int .i64 0, .int .i64 2, .int .i64 0, .slice (some ⟨w.heap.size + 1 + 1 + 1 + 1 + 1, 0, none⟩) 2 2, .int .i64 5, .string ⟨#[98]⟩, .int .i64 0, .string ⟨#[]⟩, .int .i64 0, .int .i64 0, .int .i64 0, .slice (some ⟨w.heap.size + 1 + 1 + 1 + 1 + 1 + 1, 0, none⟩) 1 1] 62)) (.slice (some ⟨w.heap.size + 1 + 1 + 1 + 1 + 1 + 1 + 1, 0, none⟩) 6 6) sorterNs := by
  refine ⟨_, 6, rfl, by decide, by simp [maxLen], fun _ => ⟨_, 0, rfl, fun j n hj => ?_⟩⟩
  have hp1 : ((((((((w.alloc (.cells #[.slice (some ⟨w.heap.size + 1 + 1 + 1 + 1 + 1 + 1 + 1, 0, none⟩) 6 6] 57)).alloc (.cells #[.int .i64 6, .string ⟨#[]⟩, .int .i64 0] 59)).alloc (.cells #[.int .i64 0, .int .i64 0] 98)).alloc (.cells #[.int .i64 1, .int .i64 0] 98)).alloc (.cells #[.int .i64 1, .int .i64 1] 98)).alloc (.cells #[.int .i64 2, .int .i64 0, .int .i64 3, .int .i64 0] 98)).alloc (.cells #[.int .i64 4, .int .i64 0] 98)).alloc (.cells #[.int .i64 1, .string ⟨#[97]⟩, .int .i64 0, .string ⟨#[]⟩, .int .i64 0, .int .i64 0, .int .i64 0, .slice none 0 0, .int .i64 2, .string ⟨#[]⟩, .int .i64 0, .string ⟨#[]⟩, .int .i64 0, .int .i64 0, .int .i64 2, .slice (some ⟨w.heap.size + 1 + 1, 0, none⟩) 1 1, .int .i64 3, .string ⟨#[]⟩, .int .i64 6, .string ⟨#[]⟩, .int .i64 0, .int .i64 0, .int .i64 0, .slice (some ⟨w.heap.size + 1 + 1 + 1, 0, none⟩) 1 1, .int .i64 3, .string ⟨#[]⟩, .int .i64 6, .string ⟨#[]⟩, .int .i64 0, .int .i64 0, .int .i64 0, .slice (some ⟨w.heap.size + 1 + 1 + 1 + 1, 0, none⟩) 1 1, .int .i64 4, .string ⟨#[]⟩, .int .i64 0, .string ⟨#[]⟩, .int .i64 0, .int .i64 2, .int .i64 0, .slice (some ⟨w.heap.size + 1 + 1 + 1 + 1 + 1, 0, none⟩) 2 2, .int .i64 5, .string ⟨#[98]⟩, .int .i64 0, .string ⟨#[]⟩, .int .i64 0, .int .i64 0, .int .i64 0, .slice (some ⟨w.heap.size + 1 + 1 + 1 + 1 + 1 + 1, 0, none⟩) 1 1] 62)).heap[w.heap.size + 1 + 1]? = some (.cells #[.int .i64 0, .int .i64 0] 98 (0, 0)) := by
    repeat (first | exact heap_new_at (by simp) | apply heap_old)
  have hp2 : ((((((((w.alloc (.cells #[.slice (some ⟨w.heap.size + 1 + 1 + 1 + 1 + 1 + 1 + 1, 0, none⟩) 6 6] 57)).alloc (.cells #[.int .i64 6, .string ⟨#[]⟩, .int .i64 0] 59)).alloc (.cells #[.int .i64 0, .int .i64 0] 98)).alloc (.cells #[.int .i64 1, .int .i64 0] 98)).alloc (.cells #[.int .i64 1, .int .i64 1] 98)).alloc (.cells #[.int .i64 2, .int .i64 0, .int .i64 3, .int .i64 0] 98)).alloc (.cells #[.int .i64 4, .int .i64 0] 98)).alloc (.cells #[.int .i64 1, .string ⟨#[97]⟩, .int .i64 0, .string ⟨#[]⟩, .int .i64 0, .int .i64 0, .int .i64 0, .slice none 0 0, .int .i64 2, .string ⟨#[]⟩, .int .i64 0, .string ⟨#[]⟩, .int .i64 0, .int .i64 0, .int .i64 2, .slice (some ⟨w.heap.size + 1 + 1, 0, none⟩) 1 1, .int .i64 3, .string ⟨#[]⟩, .int .i64 6, .string ⟨#[]⟩, .int .i64 0, .int .i64 0, .int .i64 0, .slice (some ⟨w.heap.size + 1 + 1 + 1, 0, none⟩) 1 1, .int .i64 3, .string ⟨#[]⟩, .int .i64 6, .string ⟨#[]⟩, .int .i64 0, .int .i64 0, .int .i64 0, .slice (some ⟨w.heap.size + 1 + 1 + 1 + 1, 0, none⟩) 1 1, .int .i64 4, .string ⟨#[]⟩, .int .i64 0, .string ⟨#[]⟩, .int .i64 0, .int .i64 2, .int .i64 0, .slice (some ⟨w.heap.size + 1 + 1 + 1 + 1 + 1, 0, none⟩) 2 2, .int .i64 5, .string ⟨#[98]⟩, .int .i64 0, .string ⟨#[]⟩, .int .i64 0, .int .i64 0, .int .i64 0, .slice (some ⟨w.heap.size + 1 + 1 + 1 + 1 + 1 + 1, 0, none⟩) 1 1] 62)).heap[w.heap.size + 1 + 1 + 1]? = some (.cells #[.int .i64 1, .int .i64 0] 98 (0, 0)) := by
    repeat (first | exact heap_new_at (by simp) | apply heap_old)
  have hp3 : ((((((((w.alloc (.cells #[.slice (some ⟨w.heap.size + 1 + 1 + 1 + 1 + 1 + 1 + 1, 0, none⟩) 6 6] 57)).alloc (.cells #[.int .i64 6, .string ⟨#[]⟩, .int .i64 0] 59)).alloc (.cells #[.int .i64 0, .int .i64 0] 98)).alloc (.cells #[.int .i64 1, .int .i64 0] 98)).alloc (.cells #[.int .i64 1, .int .i64 1] 98)).alloc (.cells #[.int .i64 2, .int .i64 0, .int .i64 3, .int .i64 0] 98)).alloc (.cells #[.int .i64 4, .int .i64 0] 98)).alloc (.cells #[.int .i64 1, .string ⟨#[97]⟩, .int .i64 0, .string ⟨#[]⟩, .int .i64 0, .int .i64 0, .int .i64 0, .slice none 0 0, .int .i64 2, .string ⟨#[]⟩, .int .i64 0, .string ⟨#[]⟩, .int .i64 0, .int .i64 0, .int .i64 2, .slice (some ⟨w.heap.size + 1 + 1, 0, none⟩) 1 1, .int .i64 3, .string ⟨#[]⟩, .int .i64 6, .string ⟨#[]⟩, .int .i64 0, .int .i64 0, .int .i64 0, .slice (some ⟨w.heap.size + 1 + 1 + 1, 0, none⟩) 1 1, .int .i64 3, .string ⟨#[]⟩, .int .i64 6, .string ⟨#[]⟩, .int .i64 0, .int .i64 0, .int .i64 0, .slice (some ⟨w.heap.size + 1 + 1 + 1 + 1, 0, none⟩) 1 1, .int .i64 4, .string ⟨#[]⟩, .int .i64 0, .string ⟨#[]⟩, .int .i64 0, .int .i64 2, .int .i64 0, .slice (some ⟨w.heap.size + 1 + 1 + 1 + 1 + 1, 0, none⟩) 2 2, .int .i64 5, .string ⟨#[98]⟩, .int .i64 0, .string ⟨#[]⟩, .int .i64 0, .int .i64 0, .int .i64 0, .slice (some ⟨w.heap.size + 1 + 1 + 1 + 1 + 1 + 1, 0, none⟩) 1 1] 62)).heap[w.heap.size + 1 + 1 + 1 + 1]? = some (.cells #[.int .i64 1, .int .i64 1] 98 (0, 0)) := by
    repeat (first | exact heap_new_at (by simp) | apply heap_old)
  have hp4 : ((((((((w.alloc (.cells #[.slice (some ⟨w.heap.size + 1 + 1 + 1 + 1 + 1 + 1 + 1, 0, none⟩) 6 6] 57)).alloc (.cells #[.int .i64 6, .string ⟨#[]⟩, .int .i64 0] 59)).alloc (.cells #[.int .i64 0, .int .i64 0] 98)).alloc (.cells #[.int .i64 1, .int .i64 0] 98)).alloc (.cells #[.int .i64 1, .int .i64 1] 98)).alloc (.cells #[.int .i64 2, .int .i64 0, .int .i64 3, .int .i64 0] 98)).alloc (.cells #[.int .i64 4, .int .i64 0] 98)).alloc (.cells #[.int .i64 1, .string ⟨#[97]⟩, .int .i64 0, .string ⟨#[]⟩, .int .i64 0, .int .i64 0, .int .i64 0, .slice none 0 0, .int .i64 2, .string ⟨#[]⟩, .int .i64 0, .string ⟨#[]⟩, .int .i64 0, .int .i64 0, .int .i64 2, .slice (some ⟨w.heap.size + 1 + 1, 0, none⟩) 1 1, .int .i64 3, .string ⟨#[]⟩, .int .i64 6, .string ⟨#[]⟩, .int .i64 0, .int .i64 0, .int .i64 0, .slice (some ⟨w.heap.size + 1 + 1 + 1, 0, none⟩) 1 1, .int .i64 3, .string ⟨#[]⟩, .int .i64 6, .string ⟨#[]⟩, .int .i64 0, .int .i64 0, .int .i64 0, .slice (some ⟨w.heap.size + 1 + 1 + 1 + 1, 0, none⟩) 1 1, .int .i64 4, .string ⟨#[]⟩, .int .i64 0, .string ⟨#[]⟩, .int .i64 0, .int .i64 2, .int .i64 0, .slice (some ⟨w.heap.size + 1 + 1 + 1 + 1 + 1, 0, none⟩) 2 2, .int .i64 5, .string ⟨#[98]⟩, .int .i64 0, .string ⟨#[]⟩, .int .i64 0, .int .i64 0, .int .i64 0, .slice (some ⟨w.heap.size + 1 + 1 + 1 + 1 + 1 + 1, 0, none⟩) 1 1] 62)).heap[w.heap.size + 1 + 1 + 1 + 1 + 1]? = some (.cells #[.int .i64 2, .int .i64 0, .int .i64 3, .int .i64 0] 98 (0, 0)) := by
    repeat (first | exact heap_new_at (by simp) | apply heap_old)
  have hp5 : ((((((((w.alloc (.cells #[.slice (some ⟨w.heap.size + 1 + 1 + 1 + 1 + 1 + 1 + 1, 0, none⟩) 6 6] 57)).alloc (.cells #[.int .i64 6, .string ⟨#[]⟩, .int .i64 0] 59)).alloc (.cells #[.int .i64 0, .int .i64 0] 98)).alloc (.cells #[.int .i64 1, .int .i64 0] 98)).alloc (.cells #[.int .i64 1, .int .i64 1] 98)).alloc (.cells #[.int .i64 2, .int .i64 0, .int .i64 3, .int .i64 0] 98)).alloc (.cells #[.int .i64 4, .int .i64 0] 98)).alloc (.cells #[.int .i64 1, .string ⟨#[97]⟩, .int .i64 0, .string ⟨#[]⟩, .int .i64 0, .int .i64 0, .int .i64 0, .slice none 0 0, .int .i64 2, .string ⟨#[]⟩, .int .i64 0, .string ⟨#[]⟩, .int .i64 0, .int .i64 0, .int .i64 2, .slice (some ⟨w.heap.size + 1 + 1, 0, none⟩) 1 1, .int .i64 3, .string ⟨#[]⟩, .int .i64 6, .string ⟨#[]⟩, .int .i64 0, .int .i64 0, .int .i64 0, .slice (some ⟨w.heap.size + 1 + 1 + 1, 0, none⟩) 1 1, .int .i64 3, .string ⟨#[]⟩, .int .i64 6, .string ⟨#[]⟩, .int .i64 0, .int .i64 0, .int .i64 0, .slice (some ⟨w.heap.size + 1 + 1 + 1 + 1, 0, none⟩) 1 1, .int .i64 4, .string ⟨#[]⟩, .int .i64 0, .string ⟨#[]⟩, .int .i64 0, .int .i64 2, .int .i64 0, .slice (some ⟨w.heap.size + 1 + 1 + 1 + 1 + 1, 0, none⟩) 2 2, .int .i64 5, .string ⟨#[98]⟩, .int .i64 0, .string ⟨#[]⟩, .int .i64 0, .int .i64 0, .int .i64 0, .slice (some ⟨w.heap.size + 1 + 1 + 1 + 1 + 1 + 1, 0, none⟩) 1 1] 62)).heap[w.heap.size + 1 + 1 + 1 + 1 + 1 + 1]? = some (.cells #[.int .i64 4, .int .i64 0] 98 (0, 0)) := by
    repeat (first | exact heap_new_at (by simp) | apply heap_old)
  have hr : ((((((((w.alloc (.cells #[.slice (some ⟨w.heap.size + 1 + 1 + 1 + 1 + 1 + 1 + 1, 0, none⟩) 6 6] 57)).alloc (.cells #[.int .i64 6, .string ⟨#[]⟩, .int .i64 0] 59)).alloc (.cells #[.int .i64 0, .int .i64 0] 98)).alloc (.cells #[.int .i64 1, .int .i64 0] 98)).alloc (.cells #[.int .i64 1, .int .i64 1] 98)).alloc (.cells #[.int .i64 2, .int .i64 0, .int .i64 3, .int .i64 0] 98)).alloc (.cells #[.int .i64 4, .int .i64 0] 98)).alloc (.cells #[.int .i64 1, .string ⟨#[97]⟩, .int .i64 0, .string ⟨#[]⟩, .int .i64 0, .int .i64 0, .int .i64 0, .slice none 0 0, .int .i64 2, .string ⟨#[]⟩, .int .i64 0, .string ⟨#[]⟩, .int .i64 0, .int .i64 0, .int .i64 2, .slice (some ⟨w.heap.size + 1 + 1, 0, none⟩) 1 1, .int .i64 3, .string ⟨#[]⟩, .int .i64 6, .string ⟨#[]⟩, .int .i64 0, .int .i64 0, .int .i64 0, .slice (some ⟨w.heap.size + 1 + 1 + 1, 0, none⟩) 1 1, .int .i64 3, .string ⟨#[]⟩, .int .i64 6, .string ⟨#[]⟩, .int .i64 0, .int .i64 0, .int .i64 0, .slice (some ⟨w.heap.size + 1 + 1 + 1 + 1, 0, none⟩) 1 1, .int .i64 4, .string ⟨#[]⟩, .int .i64 0, .string ⟨#[]⟩, .int .i64 0, .int .i64 2, .int .i64 0, .slice (some ⟨w.heap.size + 1 + 1 + 1 + 1 + 1, 0, none⟩) 2 2, .int .i64 5, .string ⟨#[98]⟩, .int .i64 0, .string ⟨#[]⟩, .int .i64 0, .int .i64 0, .int .i64 0, .slice (some ⟨w.heap.size + 1 + 1 + 1 + 1 + 1 + 1, 0, none⟩) 1 1] 62)).heap[w.heap.size + 1 + 1 + 1 + 1 + 1 + 1 + 1]? = some (.cells #[.int .i64 1, .string ⟨#[97]⟩, .int .i64 0, .string ⟨#[]⟩, .int .i64 0, .int .i64 0, .int .i64 0, .slice none 0 0, .int .i64 2, .string ⟨#[]⟩, .int .i64 0, .string ⟨#[]⟩, .int .i64 0, .int .i64 0, .int .i64 2, .slice (some ⟨w.heap.size + 1 + 1, 0, none⟩) 1 1, .int .i64 3, .string ⟨#[]⟩, .int .i64 6, .string ⟨#[]⟩, .int .i64 0, .int .i64 0, .int .i64 0, .slice (some ⟨w.heap.size + 1 + 1 + 1, 0, none⟩) 1 1, .int .i64 3, .string ⟨#[]⟩, .int .i64 6, .string ⟨#[]⟩, .int .i64 0, .int .i64 0, .int .i64 0, .slice (some ⟨w.heap.size + 1 + 1 + 1 + 1, 0, none⟩) 1 1, .int .i64 4, .string ⟨#[]⟩, .int .i64 0, .string ⟨#[]⟩, .int .i64 0, .int .i64 2, .int .i64 0, .slice (some ⟨w.heap.size + 1 + 1 + 1 + 1 + 1, 0, none⟩) 2 2, .int .i64 5, .string ⟨#[98]⟩, .int .i64 0, .string ⟨#[]⟩, .int .i64 0, .int .i64 0, .int .i64 0, .slice (some ⟨w.heap.size + 1 + 1 + 1 + 1 + 1 + 1, 0, none⟩) 1 1] 62 (0, 0)) := heap_new_at (by simp)
  match j, hj with
  | 0, hj =>
    injection hj with hj
    subst hj
    refine ⟨_, _, ⟨(cell_of_row _ _ _ _ _ _ hr).trans rfl, (cell_of_row _ _ _ _ _ _ hr).trans rfl, (cell_of_row _ _ _ _ _ _ hr).trans rfl, (cell_of_row _ _ _ _ _ _ hr).trans rfl, (cell_of_row _ _ _ _ _ _ hr).trans rfl, (cell_of_row _ _ _ _ _ _ hr).trans rfl, (cell_of_row _ _ _ _ _ _ hr).trans rfl, (cell_of_row _ _ _ _ _ _ hr).trans rfl⟩, ?_⟩
    exact ⟨none, 0, rfl, Nat.le_refl _, by simp [maxLen], fun h => absurd rfl h⟩
  | 1, hj =>
    injection hj with hj
    subst hj
    refine ⟨_, _, ⟨(cell_of_row _ _ _ _ _ _ hr).trans rfl, (cell_of_row _ _ _ _ _ _ hr).trans rfl, (cell_of_row _ _ _ _ _ _ hr).trans rfl, (cell_of_row _ _ _ _ _ _ hr).trans rfl, (cell_of_row _ _ _ _ _ _ hr).trans rfl, (cell_of_row _ _ _ _ _ _ hr).trans rfl, (cell_of_row _ _ _ _ _ _ hr).trans rfl, (cell_of_row _ _ _ _ _ _ hr).trans rfl⟩, ?_⟩
    refine ports_at hp1 rfl (by decide) (fun q p hq => ?_)
    match q, hq with
    | 0, hq => injection hq with hq; subst hq; exact ⟨rfl, rfl⟩
    | q + 1, hq => cases hq
  | 2, hj =>
    injection hj with hj
    subst hj
    refine ⟨_, _, ⟨(cell_of_row _ _ _ _ _ _ hr).trans rfl, (cell_of_row _ _ _ _ _ _ hr).trans rfl, (cell_of_row _ _ _ _ _ _ hr).trans rfl, (cell_of_row _ _ _ _ _ _ hr).trans rfl, (cell_of_row _ _ _ _ _ _ hr).trans rfl, (cell_of_row _ _ _ _ _ _ hr).trans rfl, (cell_of_row _ _ _ _ _ _ hr).trans rfl, (cell_of_row _ _ _ _ _ _ hr).trans rfl⟩, ?_⟩
    refine ports_at hp2 rfl (by decide) (fun q p hq => ?_)
    match q, hq with
    | 0, hq => injection hq with hq; subst hq; exact ⟨rfl, rfl⟩
    | q + 1, hq => cases hq
  | 3, hj =>
    injection hj with hj
    subst hj
    refine ⟨_, _, ⟨(cell_of_row _ _ _ _ _ _ hr).trans rfl, (cell_of_row _ _ _ _ _ _ hr).trans rfl, (cell_of_row _ _ _ _ _ _ hr).trans rfl, (cell_of_row _ _ _ _ _ _ hr).trans rfl, (cell_of_row _ _ _ _ _ _ hr).trans rfl, (cell_of_row _ _ _ _ _ _ hr).trans rfl, (cell_of_row _ _ _ _ _ _ hr).trans rfl, (cell_of_row _ _ _ _ _ _ hr).trans rfl⟩, ?_⟩
    refine ports_at hp3 rfl (by decide) (fun q p hq => ?_)
    match q, hq with
    | 0, hq => injection hq with hq; subst hq; exact ⟨rfl, rfl⟩
    | q + 1, hq => cases hq
  | 4, hj =>
    injection hj with hj
    subst hj
    refine ⟨_, _, ⟨(cell_of_row _ _ _ _ _ _ hr).trans rfl, (cell_of_row _ _ _ _ _ _ hr).trans rfl, (cell_of_row _ _ _ _ _ _ hr).trans rfl, (cell_of_row _ _ _ _ _ _ hr).trans rfl, (cell_of_row _ _ _ _ _ _ hr).trans rfl, (cell_of_row _ _ _ _ _ _ hr).trans rfl, (cell_of_row _ _ _ _ _ _ hr).trans rfl, (cell_of_row _ _ _ _ _ _ hr).trans rfl⟩, ?_⟩
    refine ports_at hp4 rfl (by decide) (fun q p hq => ?_)
    match q, hq with
    | 0, hq => injection hq with hq; subst hq; exact ⟨rfl, rfl⟩
    | 1, hq => injection hq with hq; subst hq; exact ⟨rfl, rfl⟩
    | q + 2, hq => cases hq
  | 5, hj =>
    injection hj with hj
    subst hj
    refine ⟨_, _, ⟨(cell_of_row _ _ _ _ _ _ hr).trans rfl, (cell_of_row _ _ _ _ _ _ hr).trans rfl, (cell_of_row _ _ _ _ _ _ hr).trans rfl, (cell_of_row _ _ _ _ _ _ hr).trans rfl, (cell_of_row _ _ _ _ _ _ hr).trans rfl, (cell_of_row _ _ _ _ _ _ hr).trans rfl, (cell_of_row _ _ _ _ _ _ hr).trans rfl, (cell_of_row _ _ _ _ _ _ hr).trans rfl⟩, ?_⟩
    refine ports_at hp5 rfl (by decide) (fun q p hq => ?_)
    match q, hq with
    | 0, hq => injection hq with hq; subst hq; exact ⟨rfl, rfl⟩
    | q + 1, hq => cases hq
  | j + 6, hj => cases hj

set_option maxRecDepth 100000 in
set_option maxHeartbeats 4000000 in
theorem sorter_is (w : World) : Calls Tryz.prog 74 #[] w fun e w' => ∃ g, e = .returned (.agg #[.slice (some ⟨g, 0, none⟩) 6 6]) ∧ RNodes w' (.slice (some ⟨g, 0, none⟩) 6 6) sorterNs ∧ Below w.heap.size w w' := by
  go_enter Tryz.func74, Tryz.ntmps74
  go_wp2_with fail
  refine bodyPost_ret (v := .agg #[.slice (some ⟨w.heap.size + 1 + 1 + 1 + 1 + 1 + 1 + 1, 0, none⟩) 6 6]) (by simp [results, go_sem]) rfl ⟨_, rfl, ?_, ?_⟩
  · exact sorter_rows w
  · exact (((((((box_of.trans (box_of.mono (by simp))).trans (box_of.mono (by simp; omega))).trans (box_of.mono (by simp; omega))).trans (box_of.mono (by simp; omega))).trans (box_of.mono (by simp; omega))).trans (box_of.mono (by simp; omega))).trans (box_of.mono (by simp; omega)))
end Go.Proofs.YtkifihcficobnabGreatDoor
namespace Go.Proofs.YtkifihcficobnabGreatDoor
open Go.RowKit Go.Gs
set_option linter.unusedVariables false

theorem sorter_fits : ∀ n ∈ sorterNs, FitsN n := by
  intro n hn
  simp [sorterNs] at hn
  rcases hn with rfl | rfl | rfl | rfl | rfl | rfl <;> (refine ⟨by decide, by decide, ?_⟩; intro p hp; simp at hp; first | (subst hp; exact ⟨by decide, by decide⟩) | (rcases hp with rfl | rfl <;> exact ⟨by decide, by decide⟩) | skip)
theorem flow_fits : ∀ f ∈ flowFs, FitsF f := by
  intro f hf
  simp [flowFs] at hf
  subst hf
  show _ ≤ _
  decide
theorem flow_rows (w : World) : RFiles ((w.alloc (.cells #[.int .u8 51, .int .u8 10, .int .u8 49, .int .u8 10, .int .u8 50, .int .u8 10, .int .u8 48] 5 (7, 8))).alloc (.cells #[.string ⟨#[97]⟩, .slice (some ⟨w.heap.size, 0, none⟩) 7 7] 45)) (.slice (some ⟨w.heap.size + 1, 0, none⟩) 1 1) flowFs := by
  have h1 := heap_new_at (w := w.alloc (.cells #[.int .u8 51, .int .u8 10, .int .u8 49, .int .u8 10, .int .u8 50, .int .u8 10, .int .u8 48] 5 (7, 8))) (o := .cells #[.string ⟨#[97]⟩, .slice (some ⟨w.heap.size, 0, none⟩) 7 7] 45) (k := w.heap.size + 1) (by simp)
  refine ⟨_, 1, rfl, by decide, by simp [maxLen], fun _ => ⟨_, 0, rfl, fun j f hj => ?_⟩⟩
  match j, hj with
  | 0, hj =>
    injection hj with hj
    subst hj
    refine ⟨_, (cell_of_row _ _ _ _ _ _ h1).trans rfl, (cell_of_row _ _ _ _ _ _ h1).trans rfl, ?_⟩
    have h2 := reads_new w #[.int .u8 51, .int .u8 10, .int .u8 49, .int .u8 10, .int .u8 50, .int .u8 10, .int .u8 48] 5 (7, 8) 7 rfl (by omega)
    exact h2.below box_of
  | j + 1, hj => cases hj

set_option maxRecDepth 100000 in
set_option maxHeartbeats 4000000 in
theorem flowed_true (w : World) (hE : KnownE w) : Calls Tryz.prog 34 #[] w fun e w' => e = .returned (.bool true) ∧ Below w.heap.size w w' := by
  have HE : Hid (KnownE w) := hE
  clear hE
  go_enter Tryz.func34, Tryz.ntmps34
  go_wp2_with fail
  refine (sorter_is w).mono ?_
  rintro e w1 ⟨g, rfl, hr1, hb1⟩
  have HR1 : Hid (RNodes w1 (.slice (some ⟨g, 0, none⟩) 6 6) sorterNs) := hr1
  have HB1 : Hid (Below w.heap.size w w1) := hb1
  have kc := fun (w : World) (C : Array Value) (n c : Nat) => Lib.run_convert_bytes_const (P := Tryz.prog) w 24 5 C n c Tryz.underlying24 Tryz.underlying5
  have kc2 := fun (o : Obj) (C : Array Value) (n c : Nat) => kc (w1.alloc o) C n c
  simp only [show ∀ o, (w1.alloc o).heap.size = w1.heap.size + 1 from fun o => by simp] at kc2
  clear hr1 hb1
  go_wp2_with fail
  have hfr := flow_rows (w1.alloc (.cells #[.slice (some ⟨g, 0, none⟩) 6 6] 57))
  simp only [show (w1.alloc (.cells #[.slice (some ⟨g, 0, none⟩) 6 6] 57)).heap.size = w1.heap.size + 1 from by simp] at hfr
  have hX : Below w1.heap.size w1 (((w1.alloc (.cells #[.slice (some ⟨g, 0, none⟩) 6 6] 57)).alloc (.cells #[.int .u8 51, .int .u8 10, .int .u8 49, .int .u8 10, .int .u8 50, .int .u8 10, .int .u8 48] 5 (7, 8))).alloc (.cells #[.string ⟨#[97]⟩, .slice (some ⟨w1.heap.size + 1, 0, none⟩) 7 7] 45)) := (box_of.trans (box_of.mono (by simp))).trans (box_of.mono (by simp; omega))
  have hXg : Below (w1.alloc (.cells #[.slice (some ⟨g, 0, none⟩) 6 6] 57)).heap.size (w1.alloc (.cells #[.slice (some ⟨g, 0, none⟩) 6 6] 57)) (((w1.alloc (.cells #[.slice (some ⟨g, 0, none⟩) 6 6] 57)).alloc (.cells #[.int .u8 51, .int .u8 10, .int .u8 49, .int .u8 10, .int .u8 50, .int .u8 10, .int .u8 48] 5 (7, 8))).alloc (.cells #[.string ⟨#[97]⟩, .slice (some ⟨w1.heap.size + 1, 0, none⟩) 7 7] 45)) := box_of.trans (box_of.mono (by simp))
  have hQ := eval_is sorterNs (some ⟨g, 0, none⟩) (some ⟨w1.heap.size + 1 + 1, 0, none⟩) 6 1 flowFs _ (HR1.out.below hX) sorter_fits hfr flow_fits (HE.out.below (HB1.out.trans (hX.mono HB1.out.size)))
  rw [flow_made] at hQ
  refine Calls.mono hQ ?_
  rintro e w2 ⟨ab, cb, rfl, hrb, hb2⟩
  have hg2 := gbox_keep (hXg.trans (hb2.mono hXg.size))
  have HX2 : Hid (Below w1.heap.size w1 w2) := hX.trans (hb2.mono hX.size)
  have HB2 : Hid (Below w.heap.size w w2) := HB1.out.trans (HX2.out.mono HB1.out.size)
  have k1 := conv_any (bs := [48, 10, 49, 10, 50, 10, 51, 10]) hrb
  have HC1 : Hid _ := gcheck_is sorterNs (some ⟨g, 0, none⟩) 6 w2 (HR1.out.below HX2.out) sorter_fits
  rw [sorter_right] at HC1
  clear hfr hX hXg hQ hrb hb2 kc kc2
  simp only [List.length_cons, List.length_nil, Nat.zero_add, Nat.reduceAdd] at k1 ⊢
  go_wp2_with fail
  refine Calls.mono HC1.out ?_
  rintro e w3 ⟨rfl, hb3⟩
  have hg3 := (hb3.cell (World.block_lt_of_cell? w2 _ hg2)).trans hg2
  have HX3 : Hid (Below w1.heap.size w1 w3) := HX2.out.trans (hb3.mono HX2.out.size)
  have HB3 : Hid (Below w.heap.size w w3) := HB1.out.trans (HX3.out.mono HB1.out.size)
  have HC2 : Hid _ := gcheck_is (sorterNs.take 5) (some ⟨g, 0, none⟩) 6 w3 ((HR1.out.below HX3.out).take 5 (by decide)) (fun n hn => sorter_fits n (List.mem_of_mem_take hn))
  rw [sorter_short] at HC2
  clear hb3 hg2 HC1 k1
  go_wp2_with fail
  refine Calls.mono HC2.out ?_
  rintro e w4 ⟨rfl, hb4⟩
  have HB4 : Hid (Below w.heap.size w w4) := HB3.out.trans (hb4.mono HB3.out.size)
  clear hb4 HC2 hg3
  go_wp2_with fail
  go_ret
  exact ⟨rfl, HB4.out⟩
end Go.Proofs.YtkifihcficobnabGreatDoor
