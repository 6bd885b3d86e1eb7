/- The closed plan of the laws. -/
import Derived.Test.YtkifihcficobnabDoorOptB
import Derived.Test.YtkifihcficobnabDoorGSameA
import Derived.Test.YtkifihcficobnabDoorFlowSort
namespace Go.Proofs.YtkifihcficobnabDoor
open Go.RowKit Go.Gs
set_option linter.unusedVariables false

def closedL : SLine := ⟨[[97]], [⟨6, [], 0⟩], [98]⟩
theorem closed_right : lchk closedL = 0 := by decide
theorem closed_plan : planT closedL 2 = (sorterNs, 0) := by
  rw [planT_ok closed_right (by decide)]
  rfl
theorem sorter_same : nodesEq sorterNs sorterNs = true := by decide

set_option maxRecDepth 100000 in
set_option maxHeartbeats 4000000 in
theorem planned_true (w : World) : Calls Tryd.prog 10 #[] w fun e w' => e = .returned (.bool true) ∧ Below w.heap.size w w' := by
  have hb2 : Below w.heap.size w ((w.alloc (.cells #[.string ⟨#[97]⟩] 9)).alloc (.cells #[.int .i64 6, .string ⟨#[]⟩, .int .i64 0] 53)) := two_belowO
  have HB2 : Hid _ := hb2
  have HP : Hid _ := plan_is closedL 2 (some ⟨w.heap.size, 0, none⟩) (some ⟨w.heap.size + 1, 0, none⟩) 1 1 ((w.alloc (.cells #[.string ⟨#[97]⟩] 9)).alloc (.cells #[.int .i64 6, .string ⟨#[]⟩, .int .i64 0] 53))
    (by
      refine ⟨rfl, _, 1, rfl, by decide, by simp [maxLen], fun _ => ⟨w.heap.size, 0, rfl, fun j u hu => ?_⟩⟩
      cases j with
      | zero =>
        have hk : ((w.alloc (.cells #[.string ⟨#[97]⟩] 9)).alloc (.cells #[.int .i64 6, .string ⟨#[]⟩, .int .i64 0] 53)).heap[w.heap.size]? = some (.cells #[.string ⟨#[97]⟩] 9 (0, 0)) := (Below.heap_alloc _ _ _ (by simp)).trans (heap_alloc_new w _)
        rw [cell_of_row _ _ _ _ _ _ hk]
        simpa [closedL, S] using hu
      | succ j => simp [closedL] at hu)
    (by
      refine ⟨_, 1, rfl, by decide, by simp [maxLen], fun _ => ⟨w.heap.size + 1, 0, rfl, fun j c hc => ?_⟩⟩
      cases j with
      | zero =>
        have hk : ((w.alloc (.cells #[.string ⟨#[97]⟩] 9)).alloc (.cells #[.int .i64 6, .string ⟨#[]⟩, .int .i64 0] 53)).heap[w.heap.size + 1]? = some (.cells #[.int .i64 6, .string ⟨#[]⟩, .int .i64 0] 53 (0, 0)) := by
          have := heap_alloc_new (w.alloc (.cells #[.string ⟨#[97]⟩] 9)) (.cells #[.int .i64 6, .string ⟨#[]⟩, .int .i64 0] 53)
          simpa using this
        simp [closedL] at hc
        subst hc
        rw [cell_of_row _ _ _ _ _ _ hk, cell_of_row _ _ _ _ _ _ hk, cell_of_row _ _ _ _ _ _ hk]
        exact ⟨rfl, rfl, rfl⟩
      | succ j => simp [closedL] at hc)
    ⟨by simp [closedL], by simp [closedL, FitsC], by simp [closedL]⟩
  rw [closed_plan] at HP
  clear hb2
  go_enter Tryd.func10, Tryd.ntmps10
  go_wp2_with fail
  refine Calls.mono HP.out ?_
  rintro e w3 ⟨ao, cap, rfl, hn, hb3⟩
  have HN : Hid (RNodes w3 (.slice ao 6 cap) sorterNs) := hn
  have HB3 : Hid (Below w.heap.size w w3) := HB2.out.trans (hb3.mono HB2.out.size)
  have HSO : Hid _ := fun (W : World) => sorter_is W
  have HSA : Hid _ := fun (W : World) (g : Nat) (h1 : RNodes W (.slice ao 6 cap) sorterNs) (h2 : RNodes W (.slice (some ⟨g, 0, none⟩) 6 6) sorterNs) => gsame_is ao (some ⟨g, 0, none⟩) cap 6 sorterNs sorterNs W h1 h2
  rw [sorter_same] at HSA
  have hgb : Below w3.heap.size w3 (w3.alloc (.cells #[.slice ao 6 cap] 35)) := box_of
  have HGB : Hid _ := hgb
  have hbx : ∀ W, Below (w3.alloc (.cells #[.slice ao 6 cap] 35)).heap.size (w3.alloc (.cells #[.slice ao 6 cap] 35)) W → W.cell? ⟨w3.heap.size, 0, none⟩ = some (.slice ao 6 cap) := fun W hb => by
    rw [hb.cell (by simp), cell_of_row _ _ _ _ _ _ (heap_alloc_new w3 _)]; rfl
  have HBX : Hid _ := hbx
  clear hn hb3 HB2 HP hgb hbx
  go_upto_region 2 with fail
  go_region_with (first
    | (go_at_call 26; refine (HSO.out _).mono ?_; rintro e w5 ⟨g5, rfl, R5, B5⟩; have x5 := HBX.out _ (by first | exact B5 | exact (Below.refl _ _).drew.trans B5); have t5 : Below w3.heap.size w3 w5 := (by first | exact HGB.out.trans (B5.mono HGB.out.size) | exact HGB.out.drew.trans (B5.mono HGB.out.size)); have N5 : Hid _ := HSA.out _ _ (RNodes.below HN.out t5) R5; have HB5 : Hid (Below w.heap.size w w5) := HB3.out.trans (t5.mono HB3.out.size); clear B5 t5 R5)
    | (go_at_call 25; refine Calls.mono N5.out ?_; rintro e w6 ⟨rfl, B6⟩; have HB6 : Hid (Below w.heap.size w w6) := HB5.out.trans (B6.mono HB5.out.size); clear B6))
  all_goals
    go_wp2_with fail
    go_ret
    exact ⟨rfl, HB6.out⟩
end Go.Proofs.YtkifihcficobnabDoor
