/- What the developers' Plan does. -/
import Derived.Test.YtkifihcficobnabDevOpt5
namespace Go.Proofs.Ytkifihcficobnab
open Go.RowKit Go.Gs
set_option linter.unusedVariables false

/-- Plan. -/
def planT (l : SLine) (W : Int) : List SNode × Int := if lchk l ≠ 0 then ([], lchk l) else if W < 1 ∨ 5 < W then ([], 3) else (plan l W.toNat, 0)
theorem planT_bad {l : SLine} {W : Int} (h : lchk l ≠ 0) : planT l W = ([], lchk l) := by unfold planT; rw [if_pos h]
theorem planT_range {l : SLine} {W : Int} (h : lchk l = 0) (hw : W < 1 ∨ 5 < W) : planT l W = ([], 3) := by unfold planT; rw [if_neg (by simp [h]), if_pos hw]
theorem planT_ok {l : SLine} {W : Int} (h : lchk l = 0) (hw : ¬ (W < 1 ∨ 5 < W)) : planT l W = (plan l W.toNat, 0) := by unfold planT; rw [if_neg (by simp [h]), if_neg hw]
def PlanEnd (w : World) (p : List SNode × Int) (e : Ending) (w' : World) : Prop := ∃ ao cap, e = .returned (.tuple #[.agg #[.slice ao p.1.length cap], .int .i64 p.2]) ∧ RNodes w' (.slice ao p.1.length cap) p.1 ∧ Below w.heap.size w w'
theorem rnodes_nilO (w : World) : RNodes w (.slice none 0 0) [] := ⟨none, 0, rfl, by simp, by simp [maxLen], fun h => absurd rfl h⟩
theorem rports_setO {w : World} {ao : Option Addr} {cap : Nat} {ps : List (Int × Int)} (h : RPorts w (.slice ao ps.length cap) ps) {a : Addr} {x : Option Addr} {y z : Nat} (hc : w.cell? a = some (.slice x y z)) (u : Value) : RPorts (w.setCell a u) (.slice ao ps.length cap) ps := by
  obtain ⟨ao', cap', e, h2, h3, h4⟩ := h
  injection e with e1 e2 e3
  subst e1 e3
  refine ⟨ao, cap, rfl, h2, h3, fun hn => ?_⟩
  obtain ⟨b, off, rfl, hcs⟩ := h4 hn
  refine ⟨b, off, rfl, fun j p hp => ?_⟩
  obtain ⟨c1, c2⟩ := hcs j p hp
  exact ⟨(World.cell?_setCell_other w a _ u (fun e => by rw [← e, hc] at c1; cases c1)).trans c1, (World.cell?_setCell_other w a _ u (fun e => by rw [← e, hc] at c2; cases c2)).trans c2⟩
theorem NO.setR {w : World} {B D : Nat} {X : Nat → Prop} {e : TypeId} {v : Value} {rows : List NRow} (h : NO w B D X e v rows) {a : Addr} (ha : a.block < B) {x : Option Addr} {y z : Nat} (hc : w.cell? a = some (.slice x y z)) (u : Value) : NO (w.setCell a u) B D X e v rows :=
  ⟨ownsRow_setCell_below h.own ha u, fun r hr => ⟨rports_setO (h.good r hr).1 hc u, (h.good r hr).2⟩, h.off⟩
/-- The line's box and the result's. -/
def LR (W : World) (b0 : Nat) (x y z : Value) : Prop := W.heap[b0]? = some (.cells #[x, y, z] 25 (0, 0)) ∧ W.heap[b0 + 1]? = some (.cells #[.slice none 0 0] 28 (0, 0))
theorem LR.cells {W : World} {b0 : Nat} {x y z : Value} (h : LR W b0 x y z) : W.cell? ⟨b0, 0, none⟩ = some x ∧ W.cell? ⟨b0, 1, none⟩ = some y ∧ W.cell? ⟨b0, 2, none⟩ = some z ∧ W.cell? ⟨b0 + 1, 0, none⟩ = some (.slice none 0 0) ∧ W.frozen? ⟨b0 + 1, 0, none⟩ = false := by
  refine ⟨?_, ?_, ?_, ?_, frozen_of_row _ _ _ _ _ h.2⟩
  · rw [cell_of_row _ _ _ _ _ _ h.1]; rfl
  · rw [cell_of_row _ _ _ _ _ _ h.1]; rfl
  · rw [cell_of_row _ _ _ _ _ _ h.1]; rfl
  · rw [cell_of_row _ _ _ _ _ _ h.2]; rfl
theorem LR.start {w w1 : World} {x y z : Value} (hb : Below ((w.alloc (.cells #[x, y, z] 25)).alloc (.cells #[.slice none 0 0] 28)).heap.size ((w.alloc (.cells #[x, y, z] 25)).alloc (.cells #[.slice none 0 0] 28)) w1) : LR w1 w.heap.size x y z := by
  refine ⟨?_, ?_⟩
  · rw [hb.block _ (by simp; omega), Below.heap_alloc _ _ _ (by simp)]; exact heap_alloc_new w _
  · rw [hb.block _ (by simp)]
    have := heap_alloc_new (w.alloc (.cells #[x, y, z] 25)) (.cells #[.slice none 0 0] 28)
    simpa using this
theorem LR.below {W W' : World} {b0 D : Nat} {x y z : Value} (h : LR W b0 x y z) (hb : Below D W W') (hD : b0 + 1 < D) : LR W' b0 x y z := ⟨(hb.block _ (by omega)).trans h.1, (hb.block _ hD).trans h.2⟩
theorem two_belowO {w : World} {o1 o2 : Obj} : Below w.heap.size w ((w.alloc o1).alloc o2) := box_of.trans (box_of.mono (by simp))

set_option maxRecDepth 100000 in
set_option maxHeartbeats 4000000 in
theorem plan_err (l : SLine) (W : Int) (af ad : Option Addr) (cf cd : Nat) (w : World) (hf : Reads w (.slice af l.fr.length cf) l.fr.length (l.fr.map S)) (hd : RCmds w (.slice ad l.cs.length cd) l.cs) (hfit : FitsL l) (h : lchk l ≠ 0 ∨ W < 1 ∨ 5 < W) :
    Calls Try.prog 4 #[.agg #[.slice af l.fr.length cf, .slice ad l.cs.length cd, .string ⟨l.to.toArray⟩], .int .i64 W] w fun e w' => PlanEnd w (planT l W) e w' := by
  have HC : Hid _ := fun (W : World) (hb : Below w.heap.size w W) => checkLine_is l af ad cf cd W (hf.below hb) (hd.below hb) hfit
  have HB1 : Hid (lchk l ≠ 0 → planT l W = ([], lchk l)) := (show _ → _ from planT_bad)
  have HB2 : Hid (lchk l = 0 → (W < 1 ∨ 5 < W) → planT l W = ([], 3)) := (show _ → _ → _ from planT_range)
  generalize planT l W = pt at *
  generalize lchk l = ck at *
  generalize (⟨l.to.toArray⟩ : ByteArray) = tx at *
  generalize l.fr.length = NF at *
  generalize l.cs.length = ND at *
  clear hf hd hfit
  by_cases hck : ck = 0
  · subst hck
    have hw : W < 1 ∨ 5 < W := by rcases h with h | h; exact absurd rfl h; exact h
    have HPT := HB2.out rfl hw
    subst HPT
    clear HB1 HB2 h
    by_cases hw1 : W < 1
    · clear hw
      go_enter Try.func4, Try.ntmps4
      go_wp2_with fail
      refine (HC.out _ two_belowO).mono ?_
      rintro e w1 ⟨rfl, hb1⟩
      have HBB : Hid (Below w.heap.size w w1) := two_belowO.trans (hb1.mono (by simp; omega))
      obtain ⟨x0, x1, x2, x3, x4⟩ := (LR.start hb1).cells
      clear hb1 HC
      go_wp2_with fail
      (try simp only [Exit.inBlock, Exit.then])
      refine bodyPost_ret (v := .tuple #[.agg #[.slice none 0 0], .int .i64 3]) ?_ rfl ⟨none, 0, rfl, rnodes_nilO _, HBB.out.setCell (by simp) _⟩
      rw [results_cell_tmp rfl]
      go_simp
    · have hw5 : 5 < W := by omega
      clear hw
      go_enter Try.func4, Try.ntmps4
      go_wp2_with fail
      refine (HC.out _ two_belowO).mono ?_
      rintro e w1 ⟨rfl, hb1⟩
      have HBB : Hid (Below w.heap.size w w1) := two_belowO.trans (hb1.mono (by simp; omega))
      obtain ⟨x0, x1, x2, x3, x4⟩ := (LR.start hb1).cells
      clear hb1 HC
      go_wp2_with fail
      (try simp only [Exit.inBlock, Exit.then])
      refine bodyPost_ret (v := .tuple #[.agg #[.slice none 0 0], .int .i64 3]) ?_ rfl ⟨none, 0, rfl, rnodes_nilO _, HBB.out.setCell (by simp) _⟩
      rw [results_cell_tmp rfl]
      go_simp
  · have HPT := HB1.out hck
    subst HPT
    clear HB1 HB2 h
    go_enter Try.func4, Try.ntmps4
    go_wp2_with fail
    refine (HC.out _ two_belowO).mono ?_
    rintro e w1 ⟨rfl, hb1⟩
    have HBB : Hid (Below w.heap.size w w1) := two_belowO.trans (hb1.mono (by simp; omega))
    obtain ⟨x0, x1, x2, x3, x4⟩ := (LR.start hb1).cells
    clear hb1 HC
    go_wp2_with fail
    (try simp only [Exit.inBlock, Exit.then])
    refine bodyPost_ret (v := .tuple #[.agg #[.slice none 0 0], .int .i64 ck]) ?_ rfl ⟨none, 0, rfl, rnodes_nilO _, HBB.out.setCell (by simp) _⟩
    rw [results_cell_tmp rfl]
    go_simp
end Go.Proofs.Ytkifihcficobnab
