/- What the developers' over does: Swap. -/
import Derived.Test.YtkifihcficobnaaDoorDevOver4
import Derived.Deep.RegionWith
namespace Go.Proofs.YtkifihcficobnaaDoor
open Go.RowKit Go.Gs
set_option linter.unusedVariables false

theorem four_cells {w : World} {o p : Obj} {u1 u2 : Value} {t : TypeId} :
    (((((w.alloc o).alloc p).alloc (.cells #[u1] t)).alloc (.cells #[u2] t))).cell? ⟨w.heap.size + 2, 0, none⟩ = some u1 ∧ (((((w.alloc o).alloc p).alloc (.cells #[u1] t)).alloc (.cells #[u2] t))).cell? ⟨w.heap.size + 3, 0, none⟩ = some u2 ∧
      Below w.heap.size w (((((w.alloc o).alloc p).alloc (.cells #[u1] t)).alloc (.cells #[u2] t))) := by
  have h1 : ((w.alloc o).alloc p).heap.size = w.heap.size + 2 := by simp
  have h2 : (((w.alloc o).alloc p).alloc (.cells #[u1] t)).heap.size = w.heap.size + 3 := by simp
  refine ⟨?_, ?_, ?_⟩
  · have hA : (((w.alloc o).alloc p).alloc (.cells #[u1] t)).cell? ⟨w.heap.size + 2, 0, none⟩ = some u1 := by
      rw [← h1, cell_of_row _ _ _ _ _ _ (heap_alloc_new _ _)]
      rfl
    exact Lib.cell?_alloc_some _ hA
  · rw [← h2, cell_of_row _ _ _ _ _ _ (heap_alloc_new _ _)]
    rfl
  · exact (below_two.alloc (by simp; omega) _).alloc (by simp; omega) _

theorem swap_each (a c : UInt8) (v : Value) (ls : List (List UInt8)) (w : World) {o p : Obj} (B : Nat) (hB : B ≤ w.heap.size) (hown : w.ownsRow B 9 1 v ls.length (ls.map S)) (hl : ls.length ≤ 300000) (hsz : ∀ s ∈ ls, s.length ≤ 300000) :
    Calls Tryd.prog 68 #[v, .func (.func 94) #[] #[.pointer (some ⟨w.heap.size + 2, 0, none⟩), .pointer (some ⟨w.heap.size + 3, 0, none⟩)]] ((((w.alloc o).alloc p).alloc (.cells #[U a] 5)).alloc (.cells #[U c] 5)).drew fun e w' => ∃ r, e = .returned r ∧ Reads w' r (ls.map (swapOf a c)).length ((ls.map (swapOf a c)).map S) ∧ Below B w w' := by
  have eg : ∀ args w, (callFunc 94 args).run Tryd.prog w = .ok (.enter 94 args) w := enters_of Tryd.func94 (by kernel_rfl) rfl
  obtain ⟨h1, h2, h3⟩ := four_cells (w := w) (o := o) (p := p) (u1 := U a) (u2 := U c) (t := 5)
  generalize hw3 : ((((w.alloc o).alloc p).alloc (.cells #[U a] 5)).alloc (.cells #[U c] 5)) = w3 at *
  have hE := each_own v 94 #[.pointer (some ⟨w.heap.size + 2, 0, none⟩), .pointer (some ⟨w.heap.size + 3, 0, none⟩)] (swapOf a c) eg ls w3.drew B (by have := h3.size; simp; omega) (owns_below hown h3.drew) hl hsz
    (fun g hg => by
      obtain ⟨h5, h6⟩ := hown.lt g hg
      exact swap_line w3.drew (some g) (w.heap.size + 2) (w.heap.size + 3) a c h1 h2 (by intro e; cases e; omega) (by intro e; cases e; omega))
  refine hE.mono ?_
  rintro e w4 ⟨r, rfl, hr, hb⟩
  exact ⟨r, rfl, hr, (h3.drew.mono hB).trans hb⟩

set_option maxRecDepth 100000 in
set_option maxHeartbeats 4000000 in
theorem over_swap (a c : UInt8) (n : Int) (v : Value) (ls : List (List UInt8)) (w : World) (B : Nat) (hB : B ≤ w.heap.size) (hown : w.ownsRow B 9 1 v ls.length (ls.map S)) (hl : ls.length ≤ 300000) (hsz : ∀ s ∈ ls, s.length ≤ 300000) :
    Calls Tryd.prog 40 #[.agg #[.int .i64 3, .string ⟨#[a, c]⟩, .int .i64 n], v] w fun e w' => ∃ r, e = .returned r ∧ Reads w' r (ls.map (swapOf a c)).length ((ls.map (swapOf a c)).map S) ∧ Below B w w' := by
  have hsf := fun (a : Addr) (c : Array Value) (w : World) => run_store Tryd.prog w a (.func (.func 64) #[] c) .plain rfl
  have eg : ∀ args w, (callFunc 94 args).run Tryd.prog w = .ok (.enter 94 args) w := enters_of Tryd.func94 (by kernel_rfl) rfl
  have Ho : Hid (w.ownsRow B 9 1 v ls.length (ls.map S)) := hown
  have HE : Hid _ := eg
  clear hown eg
  go_enter Tryd.func40, Tryd.ntmps40
  go_wp2_with fail
  go_region_with (first
    | (go_at_call 69; refine (swap_makes a c _).mono ?_; rintro e w3 ⟨rfl, hw3⟩)
    | (go_at_call 68; refine (swap_each a c v ls w B hB Ho.out hl hsz).mono ?_; rintro e w4 ⟨r, rfl, hr4, hb4⟩))
  all_goals (have R : Hid _ := hr4; have HB : Hid _ := hb4; clear hr4 hb4 hw3; go_wp2_with fail; go_ret; exact ⟨_, rfl, R.out, HB.out⟩)
end Go.Proofs.YtkifihcficobnaaDoor
