/- What the developers' Check of graphs does. -/
import Derived.Test.YtkifihcficobnabGreatDoorDevGraph3
import Derived.Test.YtkifihcficobnabGreatDoorPortKey
import Derived.Test.YtkifihcficobnabGreatDoorPlainC
namespace Go.Proofs.YtkifihcficobnabGreatDoor
open Go.RowKit Go.Gs
set_option linter.unusedVariables false

theorem grown_none {w w' : World} (hb : Below w.heap.size w w') : w.grownBy w' none := ⟨hb.os, hb.tape, hb.output, hb.size, fun k hk _ => hb.block k hk⟩
theorem PortsAre.below {w w' : World} {R : Value → Option (DataW Unit × List MemPlace)} {b n : Nat} {t : List (Int × Int)} (h : PortsAre w R b n t) (hb : Below w.heap.size w w') : PortsAre w' R b n t := by
  obtain ⟨D, h1, h2⟩ := h
  exact ⟨D, h1.kept (grown_none hb) (by simp), h2⟩
theorem PortsAre.put {w w' W : World} {R : Value → Option (DataW Unit × List MemPlace)} {b n : Nat} {t : List (Int × Int)} {D d : DataW Unit} {p : Int × Int} (h1 : w.ownsMap Tryz.prog 98 R b n D) (h2 : ∀ p, WfP p → Go.Maps.has D (portK p) = decide (p ∈ t)) (h3 : Go.Maps.size D = t.length) (h4 : ∀ p ∈ t, WfP p)
    (hp : WfP p) (hn : p ∉ t) (ho : w'.ownsMap Tryz.prog 98 R b (n + 1) (D.put (portK p) d)) : PortsAre w' R b (n + 1) (t ++ [p]) := by
  refine ⟨_, ho, fun q hq => ?_, ?_, ?_⟩
  · by_cases e : q = p
    · subst e
      rw [Go.Maps.has_put_same h1.isMap (portK_key w q hq)]
      simp
    · rw [Go.Maps.has_put_other (fun h => e (portK_inj w hq hp h)), h2 q hq]
      simp [e]
  · rw [Go.Maps.size_put (h1.tidy portKeyed), h2 p hp, decide_eq_false hn, h3]
    simp
  · intro q hq
    rcases List.mem_append.1 hq with hq | hq
    · exact h4 q hq
    · rw [List.mem_singleton.1 hq]; exact hp
theorem ports_made (w : World) (o : Obj) (R : Value → Option (DataW Unit × List MemPlace)) : PortsAre ((w.alloc o).alloc (.map #[] 0)) R (w.heap.size + 1) 0 [] := by
  refine ⟨.map [], ?_, fun p _ => by simp [Go.Maps.has], by simp [Go.Maps.size], by simp⟩
  have := World.ownsMap_made (w.alloc o) Tryz.prog 98 R
  simpa using this
theorem ins_below {w w1 w2 : World} {o : Obj} (h : Below (w.heap.size + 1) (w.alloc o) w1) (hg : w1.grownBy w2 (some (w.heap.size + 1))) : Below (w.heap.size + 1) (w.alloc o) w2 :=
  h.grown hg (by have := h.size; simpa using this) (fun k hk => by simp only [Option.some.injEq] at hk; omega)
theorem gbox_cell {w w' : World} {a : Value} {t : TypeId} (hb : Below (w.heap.size + 1) (w.alloc (.cells #[a] t)) w') : w'.cell? ⟨w.heap.size, 0, none⟩ = some a := by
  rw [hb.cell (by simp), cell_of_row _ _ _ _ _ _ (heap_alloc_new w _)]
  rfl
/-- Eight cells of a block. -/
def Cells8 (w : World) (b : Nat) (x0 x1 x2 x3 x4 x5 x6 x7 : Value) : Prop :=
  w.cell? ⟨b, 0, none⟩ = some x0 ∧ w.cell? ⟨b, 1, none⟩ = some x1 ∧ w.cell? ⟨b, 2, none⟩ = some x2 ∧ w.cell? ⟨b, 3, none⟩ = some x3 ∧ w.cell? ⟨b, 4, none⟩ = some x4 ∧ w.cell? ⟨b, 5, none⟩ = some x5 ∧ w.cell? ⟨b, 6, none⟩ = some x6 ∧ w.cell? ⟨b, 7, none⟩ = some x7
theorem Cells8.grown {w w' : World} {b : Nat} {x0 x1 x2 x3 x4 x5 x6 x7 : Value} {row : Option Nat} (h : Cells8 w b x0 x1 x2 x3 x4 x5 x6 x7) (hg : w.grownBy w' row) (hne : some b ≠ row) : Cells8 w' b x0 x1 x2 x3 x4 x5 x6 x7 := by
  obtain ⟨a0, a1, a2, a3, a4, a5, a6, a7⟩ := h
  have hlt : b < w.heap.size := World.block_lt_of_cell? w _ a0
  have k : ∀ (i : Nat) (v : Value), w.cell? ⟨b, i, none⟩ = some v → w'.cell? ⟨b, i, none⟩ = some v := fun i v hv => (show w'.cell? ⟨b, i, none⟩ = w.cell? ⟨b, i, none⟩ from World.cell?_of_block (hg.block b hlt hne)).trans hv
  exact ⟨k 0 _ a0, k 1 _ a1, k 2 _ a2, k 3 _ a3, k 4 _ a4, k 5 _ a5, k 6 _ a6, k 7 _ a7⟩
theorem Cells8.below {w w' : World} {b : Nat} {x0 x1 x2 x3 x4 x5 x6 x7 : Value} (h : Cells8 w b x0 x1 x2 x3 x4 x5 x6 x7) (hb : Below w.heap.size w w') : Cells8 w' b x0 x1 x2 x3 x4 x5 x6 x7 := h.grown (grown_none hb) (by simp)

theorem allOuts_take {ns : List SNode} {k : Nat} {n : SNode} (h : ns[k]? = some n) : allOuts (ns.take (k + 1)) = allOuts (ns.take k) + nouts n := by
  unfold allOuts
  rw [take_node h, List.map_append, List.sum_append]
  simp
theorem nouts_small {n : SNode} (h : nodeChk n = 0) : 0 ≤ nouts n ∧ nouts n ≤ 5 := by
  obtain ⟨h1, _, _⟩ := node_kinds h
  unfold nouts
  rcases used_kinds h1 with ⟨h3 | h3, _⟩ | ⟨h3, h4, h5⟩ | ⟨h3, h4⟩ | ⟨h3, h4⟩
  · rw [if_neg (by omega), if_neg (by omega)]; omega
  · rw [if_neg (by omega), if_pos h3]; omega
  · rw [if_pos h3]; omega
  · rw [if_neg (by omega), if_neg (by omega)]; omega
  · rw [if_neg (by omega), if_neg (by omega)]; omega
theorem ins_small {n : SNode} (h : nodeChk n = 0) : n.ins.length ≤ 5 := by
  obtain ⟨h1, h2, _⟩ := node_kinds h
  unfold mayHave at h2
  by_cases g1 : n.kind = 1
  · rw [if_pos g1] at h2; have := of_decide_eq_true h2; omega
  · rw [if_neg g1] at h2
    by_cases g4 : n.kind = 4
    · rw [if_pos g4] at h2; exact (of_decide_eq_true h2).2
    · rw [if_neg g4] at h2; have := of_decide_eq_true h2; omega

/-! ### One step of what is reckoned -/

theorem chk_node {ns ahead r : List SNode} {n : SNode} {t : List (Int × Int)} (h : gchkL [] ns [] = gchkL ahead (n :: r) t) (hn : nodeChk n ≠ 0) : (gchkL [] ns []).1 = nodeChk n := by
  rw [h]; unfold gchkL; rw [if_pos hn]
theorem chk_ins {ns ahead r : List SNode} {n : SNode} {t : List (Int × Int)} (h : gchkL [] ns [] = gchkL ahead (n :: r) t) (hn : nodeChk n = 0) (hi : (insChk ahead n.ins t).1 ≠ 0) : (gchkL [] ns []).1 = (insChk ahead n.ins t).1 := by
  rw [h]; unfold gchkL; rw [if_neg (by simp [hn]), if_pos hi]
theorem chk_last {ns ahead r : List SNode} {n : SNode} {t : List (Int × Int)} (h : gchkL [] ns [] = gchkL ahead (n :: r) t) (hn : nodeChk n = 0) (hi : (insChk ahead n.ins t).1 = 0) (hl : r.isEmpty ≠ decide (n.kind = 5)) : (gchkL [] ns []).1 = 4 := by
  rw [h]; unfold gchkL; rw [if_neg (by simp [hn]), if_neg (by simp [hi]), if_pos hl]
theorem chk_next {ns ahead r : List SNode} {n : SNode} {t : List (Int × Int)} (h : gchkL [] ns [] = gchkL ahead (n :: r) t) (hn : nodeChk n = 0) (hi : (insChk ahead n.ins t).1 = 0) (hl : r.isEmpty = decide (n.kind = 5)) : gchkL [] ns [] = gchkL (ahead ++ [n]) r (insChk ahead n.ins t).2 := by
  rw [h]; conv => lhs; unfold gchkL
  rw [if_neg (by simp [hn]), if_neg (by simp [hi]), if_neg (by simp [hl])]
theorem ins_who {ahead : List SNode} {ps t t' r : List (Int × Int)} {p : Int × Int} (h : insChk ahead ps t = insChk ahead (p :: r) t') (hp : portOk ahead p = false) : (insChk ahead ps t).1 = 5 := by
  rw [h]; unfold insChk; rw [if_pos hp]
theorem ins_twice {ahead : List SNode} {ps t t' r : List (Int × Int)} {p : Int × Int} (h : insChk ahead ps t = insChk ahead (p :: r) t') (hp : portOk ahead p = true) (ht : p ∈ t') : (insChk ahead ps t).1 = 6 := by
  rw [h]; unfold insChk; rw [if_neg (by simp [hp]), if_pos ht]
theorem ins_next {ahead : List SNode} {ps t t' r : List (Int × Int)} {p : Int × Int} (h : insChk ahead ps t = insChk ahead (p :: r) t') (hp : portOk ahead p = true) (ht : p ∉ t') : insChk ahead ps t = insChk ahead r (t' ++ [p]) := by
  rw [h]; conv => lhs; unfold insChk
  rw [if_neg (by simp [hp]), if_neg ht]
theorem ins_done {ahead : List SNode} {ps t t' : List (Int × Int)} (h : insChk ahead ps t = insChk ahead [] t') : insChk ahead ps t = (0, t') := by
  rw [h]; rfl
theorem gchk_many {ns : List SNode} (h : 60 < ns.length) : gchk ns = 2 := by unfold gchk; rw [if_pos h]
theorem gchk_bad {ns : List SNode} (h : ns.length ≤ 60) {r : Int} (hr : (gchkL [] ns []).1 = r) (h0 : r ≠ 0) : gchk ns = r := by unfold gchk; rw [if_neg (by omega), if_pos (by rw [hr]; exact h0), hr]
theorem gchk_end {ns : List SNode} (h : ns.length ≤ 60) {t : List (Int × Int)} (hr : gchkL [] ns [] = (0, t)) : gchk ns = if ns.length = 0 ∨ (t.length : Int) ≠ allOuts ns then 4 else 0 := by
  unfold gchk
  rw [if_neg (by omega), hr]
  simp
theorem drop_port {ps : List (Int × Int)} {k : Nat} {p : Int × Int} (h : ps[k]? = some p) : ps.drop k = p :: ps.drop (k + 1) := by
  obtain ⟨hk, e⟩ := List.getElem?_eq_some_iff.1 h
  rw [← e, ← List.drop_eq_getElem_cons hk]
end Go.Proofs.YtkifihcficobnabGreatDoor
