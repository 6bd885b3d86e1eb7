/- What the reference's IsEach does. -/
import Derived.Test.YtkifihcficobnaaGreatDoorPlainF
import Derived.Test.YtkifihcficobnaaGreatDoorShelf
import Derived.WalkKit
import Derived.WalkLawsBesides
import Derived.Outline
namespace Go.Proofs.YtkifihcficobnaaGreatDoor
open Go.RowKit Go.Gs
set_option linter.unusedVariables false

theorem five_is (k : Int) : ([1, 2, 3, 4, 5] : List Int).contains k = isEach k := by
  rw [Bool.eq_iff_iff]
  simp [isEach]
  omega

theorem five_cells (w : World) (o : Obj) (e : TypeId) : ∀ j, j < ([1, 2, 3, 4, 5] : List Int).length → ((w.alloc o).alloc (.cells #[.int .i64 1, .int .i64 2, .int .i64 3, .int .i64 4, .int .i64 5] e)).cell? ⟨w.heap.size + 1, 0 + j, none⟩ = some (.int .i64 (([1, 2, 3, 4, 5] : List Int).getD j 0)) := by
  intro j hj
  have h := heap_alloc_new (w.alloc o) (.cells #[.int .i64 1, .int .i64 2, .int .i64 3, .int .i64 4, .int .i64 5] e)
  have hs : (w.alloc o).heap.size = w.heap.size + 1 := by simp
  rw [hs] at h
  rw [cell_of_row _ _ _ _ _ _ h]
  have hj' : j < 5 := hj
  have : j = 0 ∨ j = 1 ∨ j = 2 ∨ j = 3 ∨ j = 4 := by omega
  rcases this with rfl | rfl | rfl | rfl | rfl <;> rfl

set_option maxRecDepth 100000 in
set_option maxHeartbeats 1000000 in
theorem isEach_ref (c : Cmd) (w : World) :
    Calls Tryz.prog 17 #[c.v] w fun e w' => e = .returned (.bool (isEach c.kind)) ∧ Below w.heap.size w w' := by
  unfold Cmd.v
  go_enter Tryz.func17, Tryz.ntmps17
  go_wp2_with fail
  refine (Tryz.slices_Contains_int _ 0 5 5 [1, 2, 3, 4, 5] c.kind _ (by decide) (by omega) (five_cells w _ _)).mono ?_
  rintro e w1 ⟨rfl, hw1⟩
  have hB : Hid (Below w.heap.size w w1) := by
    show Below _ _ _
    rw [hw1]
    exact ((Below.refl _ w).alloc (Nat.le_refl _) _).alloc (by simp) _
  clear hw1
  rw [show ([1, 2, 3, 4, 5] : List Int).take 5 = [1, 2, 3, 4, 5] from rfl, five_is]
  go_wp2_with fail
  go_ret
  exact ⟨rfl, hB.out⟩
end Go.Proofs.YtkifihcficobnaaGreatDoor
