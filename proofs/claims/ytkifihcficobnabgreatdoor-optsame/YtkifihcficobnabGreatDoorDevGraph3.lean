/- What the developers' hasPort does. -/
import Derived.Test.YtkifihcficobnabGreatDoorDevGraph2
import Derived.Lib.QuietBelow
import Derived.BigQuiet
import Derived.Deep.QuietTactic
namespace Go.Proofs.YtkifihcficobnabGreatDoor
open Go.RowKit Go.Gs
set_option linter.unusedVariables false

theorem below_drewG (n k : Nat) (w : World) : Below n w (w.drewN k) := by
  induction k with
  | zero => exact Below.refl _ _
  | succ k ih => exact ih.drew
theorem pbox_cells {w w' : World} {a b : Value} {t : TypeId} (hb : Below (w.alloc (.cells #[a, b] t)).heap.size (w.alloc (.cells #[a, b] t)) w') : w'.cell? ⟨w.heap.size, 0, none⟩ = some a ∧ w'.cell? ⟨w.heap.size, 1, none⟩ = some b := by
  refine ⟨?_, ?_⟩
  all_goals
    rw [hb.cell (by simp), cell_of_row _ _ _ _ _ _ (heap_alloc_new w _)]
    rfl
theorem portOk_neg {ns : List SNode} {p : Int × Int} (h : ¬ 0 ≤ p.1) : portOk ns p = false := by unfold portOk; rw [decide_eq_false h]; rfl
theorem portOk_far {ns : List SNode} {p : Int × Int} (h : ¬ p.1 < ns.length) : portOk ns p = false := by unfold portOk; rw [decide_eq_false h]; simp
theorem portOk_out {ns : List SNode} {p : Int × Int} (h : ¬ 0 ≤ p.2) : portOk ns p = false := by unfold portOk; rw [decide_eq_false h]; simp
theorem portOk_at {ns : List SNode} {i : Nat} {q : Int} {n : SNode} (hn : ns[i]? = some n) (h : 0 ≤ q) : portOk ns ((i : Int), q) = decide (q < nouts n) := by
  have hi : i < ns.length := (List.getElem?_eq_some_iff.1 hn).1
  unfold portOk
  simp only [Int.toNat_natCast, hn, Option.map_some, Option.getD_some]
  rw [decide_eq_true (by omega : (0 : Int) ≤ (i : Int)), decide_eq_true (by omega : (i : Int) < (ns.length : Int)), decide_eq_true h]
  simp

set_option maxRecDepth 100000 in
set_option maxHeartbeats 8000000 in
theorem hasPort_is (ns : List SNode) (ao : Option Addr) (cap : Nat) (p q : Int) (w : World) (hr : RNodes w (.slice ao ns.length cap) ns) :
    Calls Tryz.prog 76 #[.slice ao ns.length cap, .agg #[.int .i64 p, .int .i64 q]] w fun e w' => e = .returned (.bool (portOk ns (p, q))) ∧ Below w.heap.size w w' := by
  have hle := rnodes_le hr
  have HR : Hid (RNodes w (.slice ao ns.length cap) ns) := hr
  obtain ⟨N, hN⟩ : ∃ N, N = ns.length := ⟨_, rfl⟩
  have HN : Hid (N = ns.length) := hN
  obtain ⟨r, hrr⟩ : ∃ r, r = portOk ns (p, q) := ⟨_, rfl⟩
  have HRR : Hid (r = portOk ns (p, q)) := hrr
  rw [← hN, ← hrr]
  rw [← hN] at HR hle
  clear hr hN hrr
  by_cases h0 : 0 ≤ p
  · by_cases hlt : p < N
    · by_cases hq : 0 ≤ q
      · obtain ⟨i, rfl⟩ := Int.eq_ofNat_of_zero_le h0
        obtain ⟨n, hn⟩ : ∃ n, ns[i]? = some n := ⟨_, List.getElem?_eq_getElem (by have := HN.out; omega)⟩
        obtain ⟨b, off, ai, ci, rfl, ⟨c0, c1, c2, c3, c4, c5, c6, c7⟩, _⟩ := HR.out.at hn
        have hrv : r = decide (q < nouts n) := by rw [HRR.out, portOk_at hn hq]
        have g0 : decide ((0 : Int) ≤ (i : Int)) = true := decide_eq_true h0
        have g1 : decide ((i : Int) < (N : Int)) = true := decide_eq_true hlt
        have g2 : decide (0 ≤ q) = true := decide_eq_true hq
        have cF : ∀ d os, Calls Tryz.prog 38 #[nodeV n ai n.ins.length ci] (Go.Sort.grow (redrawn (w.alloc (.cells #[.int .i64 (i : Int), .int .i64 q] 98)) d) os) fun e w'' => e = .returned (.int .i64 (nouts n)) ∧ ∃ p : Regrown, w'' = Go.Sort.grow (redrawn (w.alloc (.cells #[.int .i64 (i : Int), .int .i64 q] 98)) p.d) p.os := fun d os => Calls.regrown_of (outs_is n ai n.ins.length ci _)
        have hbx : ∀ {a : Addr} {v : Value}, w.cell? a = some v → ∀ d os, (Go.Sort.grow (redrawn (w.alloc (.cells #[.int .i64 (i : Int), .int .i64 q] 98)) d) os).cell? a = some v := fun h d os => cell_regrown ((box_of.cell (World.block_lt_of_cell? w _ h)).trans h) d os
        have k0 := hbx c0
        have k1 := hbx c1
        have k2 := hbx c2
        have k3 := hbx c3
        have k4 := hbx c4
        have k5 := hbx c5
        have k6 := hbx c6
        have k7 := hbx c7
        obtain ⟨y0, y1⟩ := pbox_cells (w := w) (a := .int .i64 (i : Int)) (b := .int .i64 q) (t := 98) (Below.refl _ _)
        have z0 := fun d os => cell_regrown y0 d os
        have z1 := fun d os => cell_regrown y1 d os
        unfold nodeV at cF
        generalize nouts n = no at *
        generalize (⟨n.file.toArray⟩ : ByteArray) = fx at *
        generalize (⟨n.c.word.toArray⟩ : ByteArray) = wx at *
        generalize n.c.kind = ck at *
        generalize n.c.n = cn at *
        generalize n.how = hw at *
        generalize n.wide = wd at *
        generalize n.kind = k at *
        generalize n.ins.length = ni at *
        clear c0 c1 c2 c3 c4 c5 c6 c7 hbx HR HRR hn
        subst hrv
        go_enter Tryz.func76, Tryz.ntmps76
        go_wp2_with fail
        refine wp_region_quiet_below (by kernel_rfl) (by kernel_rfl) ?_
        repeat (first | go_big_quiet_step (exact cF _ _) | quiet_step (exact cF _ _))
        refine wpQuiet_nil ?_
        intro _ hw'
        obtain ⟨⟨dq, osq⟩, hw''⟩ := hw'
        subst hw''
        clear cF k0 k1 k2 k3 k4 k5 k6 k7 z0 z1 y0 y1
        go_wp2_with fail
        go_ret
        exact ⟨rfl, box_of.trans ((below_regrown _ dq osq).mono (by simp))⟩
      · have hrf : r = false := by rw [HRR.out, portOk_out hq]
        subst hrf
        have g0 : decide (0 ≤ p) = true := decide_eq_true h0
        have g1 : decide (p < (N : Int)) = true := decide_eq_true hlt
        have g2 : decide (0 ≤ q) = false := decide_eq_false hq
        clear HR HRR
        go_enter Tryz.func76, Tryz.ntmps76
        go_wp2_with fail
        go_quiet (fail)
        go_wp2_with fail
        go_ret
        exact ⟨rfl, box_of.trans (below_drewG _ _ _)⟩
    · have hrf : r = false := by rw [HRR.out, portOk_far (by rw [← HN.out]; exact hlt)]
      subst hrf
      have g0 : decide (0 ≤ p) = true := decide_eq_true h0
      have g1 : decide (p < (N : Int)) = false := decide_eq_false hlt
      clear HR HRR
      go_enter Tryz.func76, Tryz.ntmps76
      go_wp2_with fail
      go_quiet (fail)
      go_wp2_with fail
      go_ret
      exact ⟨rfl, box_of.trans (below_drewG _ _ _)⟩
  · have hrf : r = false := by rw [HRR.out, portOk_neg h0]
    subst hrf
    have g0 : decide (0 ≤ p) = false := decide_eq_false h0
    clear HR HRR
    go_enter Tryz.func76, Tryz.ntmps76
    go_wp2_with fail
    go_quiet (fail)
    go_wp2_with fail
    go_ret
    exact ⟨rfl, box_of.trans (below_drewG _ _ _)⟩
end Go.Proofs.YtkifihcficobnabGreatDoor
