/- What the developers' made (of graphs) does, whatever the node; the outputs' row. -/
import Derived.Test.YtkifihcficobnabGreatDoorDevGraph10
import Derived.Test.YtkifihcficobnabGreatDoorPlainC
namespace Go.Proofs.YtkifihcficobnabGreatDoor
open Go.RowKit Go.Gs
set_option linter.unusedVariables false

theorem made_is (n : SNode) (ai ao : Option Addr) (ci cap : Nat) (fs : List SFile) (v : Value) (ins : List (List UInt8)) (w : World) (hchk : nodeChk n = 0) (hfit : FitsN n) (hv : RList w v U ins) (hi : ins.length = n.ins.length) (hT : ins.flatten.length ≤ 241200) (hf : RFiles w (.slice ao fs.length cap) fs) (hfc : fchk fs = 0) (hE : KnownE w) :
    Calls Tryz.prog 71 #[nodeV n ai n.ins.length ci, .slice ao fs.length cap, v] w fun e w' => MadeEnd w (nodeMade n fs ins) e w' := by
  obtain ⟨h1, h2, _⟩ := node_kinds hchk
  obtain ⟨r1, r2⟩ := right_ins hchk
  have one : n.ins.length = 1 → ∃ b0, ins = [b0] := by
    intro h
    rw [h] at hi
    match ins, hi with
    | [b0], _ => exact ⟨b0, rfl⟩
  rcases used_kinds h1 with ⟨h3 | h3, _⟩ | ⟨h3, h4, h5⟩ | ⟨h3, h4⟩ | ⟨h3, h4⟩
  · exact made_source n ai ao _ ci cap fs v ins w h3 hv hf hfc
  · exact made_sink n ai ao _ ci cap fs v ins w h3 hv
  · obtain ⟨b0, rfl⟩ := one (r2 (.inl h3))
    exact made_split n ai ao _ ci cap _ fs v b0 w h3 h4 h5 hv (by simp at hT; omega)
  · obtain ⟨b0, rfl⟩ := one (r2 (.inr (.inl h3)))
    exact made_work n ai ao _ ci cap _ fs v b0 w h3 h4 hfit.2.1 hE.1 hv (by simp at hT; omega)
  · exact made_join n ai ao _ ci cap _ fs v ins w h3 h4 hfit.2.1 hv (by omega) (by omega) hE

theorem reads_far {w : World} {v : Value} {n : Nat} {xs : List Value} (h : Reads w v n xs) {a : Addr} (x : Value) (hne : ∀ q m c, v = .slice (some q) m c → q.block ≠ a.block) : Reads (w.setCell a x) v n xs := by
  obtain ⟨h1, ao, cap, rfl, h2, h3, h4⟩ := h
  refine ⟨h1, ao, cap, rfl, h2, h3, fun hn => ?_⟩
  obtain ⟨b, off, rfl, hc⟩ := h4 hn
  refine ⟨b, off, rfl, fun j u hu => ?_⟩
  rw [World.cell?_setCell_other (h := fun e => hne _ _ _ rfl (by rw [e]))]
  exact hc j u hu
/-- One more node's outputs. -/
theorem routs_step {w : World} {OB N : Nat} {outs : List (List (List UInt8))} (h : ROuts w OB N outs) (hk : outs.length < N) {u : Value} {o : List (List UInt8)} (hu : RList w u U o) (hne : ∀ q m c, u = .slice (some q) m c → q.block ≠ OB) :
    ROuts (w.setCell ⟨OB, outs.length, none⟩ u) OB N (outs ++ [o]) := by
  obtain ⟨us, h1, h2, h3, h4, h5⟩ := h
  have hc : w.cell? ⟨OB, outs.length, none⟩ = some (.slice none 0 0) := by
    rw [cell_of_row _ _ _ _ _ _ h1]
    simpa using h5 _ (Nat.le_refl _) hk
  have keep : ∀ {x : Value} {q : List (List UInt8)}, RList w x U q → (∀ a n c, x = .slice (some a) n c → a.block ≠ OB) → RList (w.setCell ⟨OB, outs.length, none⟩ u) x U q := by
    rintro x q ⟨ys, g1, g2⟩ hx
    refine ⟨ys, reads_far g1 u hx, fun j p hj => ?_⟩
    obtain ⟨y, g3, g4⟩ := g2 j p hj
    exact ⟨y, g3, g4.setCell hc u slice_not_UG⟩
  refine ⟨us.set outs.length u, by rw [heap_setCell_same _ _ _ _ _ _ h1]; simp, by simp [h2], by simp; omega, fun j q hj => ?_, fun j hj hjN => ?_⟩
  · by_cases e : j = outs.length
    · subst e
      rw [List.getElem?_append_right (Nat.le_refl _)] at hj
      simp at hj
      subst hj
      exact ⟨u, List.getElem?_set_self (by omega), keep hu hne, hne⟩
    · have hjl : j < outs.length := by
        have := (List.getElem?_eq_some_iff.1 hj).1
        rw [List.length_append] at this
        simp at this
        omega
      rw [List.getElem?_append_left hjl] at hj
      obtain ⟨x, g1, g2, g3⟩ := h4 j q hj
      exact ⟨x, by rw [List.getElem?_set_ne (fun h => e h.symm)]; exact g1, keep g2 g3, g3⟩
  · rw [List.length_append] at hj
    simp at hj
    rw [List.getElem?_set_ne (by omega)]
    exact h5 j (by omega) hjN
theorem routs_cell {w : World} {OB N : Nat} {outs : List (List (List UInt8))} (h : ROuts w OB N outs) (hk : outs.length < N) : w.cell? ⟨OB, outs.length, none⟩ = some (.slice none 0 0) ∧ w.frozen? ⟨OB, outs.length, none⟩ = false := by
  obtain ⟨us, h1, h2, h3, h4, h5⟩ := h
  refine ⟨?_, frozen_of_row _ _ _ _ _ h1⟩
  rw [cell_of_row _ _ _ _ _ _ h1]
  simpa using h5 _ (Nat.le_refl _) hk
/-- What made has answered, as one of the outputs. -/
theorem madeEnd_outs {w w' : World} {o : List (List UInt8)} {e : Ending} (h : MadeEnd w o e w') : ∃ ar cr, e = .returned (.tuple #[.slice ar o.length cr, .int .i64 0]) ∧ RList w' (.slice ar o.length cr) U o ∧ (∀ q m c, Value.slice ar o.length cr = .slice (some q) m c → w.heap.size ≤ q.block) ∧ Below w.heap.size w w' := by
  obtain ⟨ar, cr, us, rfl, h1, h2, h3⟩ := h
  refine ⟨ar, cr, rfl, ⟨us, Reads.of_owns h1, h2⟩, fun q m c hq => ?_, h3⟩
  rcases h1.2 with ⟨e1, _⟩ | ⟨g, cap, cur, e1, hg, _⟩
  · rw [e1] at hq; injection hq with hq; cases hq
  · rw [e1] at hq
    injection hq with hq
    injection hq with hq
    rw [← hq]
    exact hg
end Go.Proofs.YtkifihcficobnabGreatDoor
