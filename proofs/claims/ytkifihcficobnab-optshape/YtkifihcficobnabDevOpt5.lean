/- What the developers' Plan does, first: its files. -/
import Derived.Test.YtkifihcficobnabDevOpt4
import Derived.Test.YtkifihcficobnabDevScript1
namespace Go.Proofs.Ytkifihcficobnab
open Go.RowKit Go.Gs
set_option linter.unusedVariables false

theorem step_callO {P : Program} {ops : Array Oper} {o : Oper} {a : Act} {w : World} {K : Act → World → Prop} {Q : Exit → Act → World → Prop} {E : Prop} {R : Ending → World → Prop}
    (hgd : o.guard = none) (f : FuncId) (args : Array Value) (hrun : (execOp a.eval o).run P w = .ok (.enter f args) w) (hc : Calls P f args w R) (h : ∀ e w', R e w' → ∃ v, e = .returned v ∧ K (a.put o.dst v) w') :
    if Region.wanted o (yielded ops a.tmps) = true then Oper.wp P o a w K Q else E := by
  have hw : Region.wanted o (yielded ops a.tmps) = true := by simp [Region.wanted, hgd]
  rw [if_pos hw]
  unfold Oper.wp
  rw [hrun, Oper.upon_enter]
  refine hc.mono fun e w'' hh => ?_
  obtain ⟨v, rfl, hk⟩ := h e w'' hh
  exact hk
/-- So many Sources stand. -/
def SRel (w1 wr : World) (D : Nat) (fr : List (List UInt8)) (k : Nat) (ov v : Value) (rows : List NRow) : Prop :=
  wr.heap[D]? = some (.cells #[v, ov] 42 (0, 0)) ∧ NO wr D D (fun q => ov.ownBlock = some q) 38 v rows ∧ rows.map (·.1) = (pStart (fr.take k)).1 ∧
  wr.ownsRow D 52 2 ov k (portCells (pStart (fr.take k)).2) ∧ (∀ g, ov.ownBlock = some g → v.ownBlock ≠ some g ∧ g ≠ D) ∧ Below D w1 wr
theorem SRel.start (w1 : World) (fr : List (List UInt8)) : SRel w1 (w1.alloc (.cells #[.slice none 0 0, .slice none 0 0] 42)) w1.heap.size fr 0 (.slice none 0 0) (.slice none 0 0) [] :=
  ⟨heap_alloc_new _ _, NO.nil _ _ _ _ _, by simp [pStart], World.ownsRow_nil _ _ _ _, fun g hg => by simp [Value.ownBlock] at hg, box_of⟩
theorem SRel.add {w1 wr W2 : World} {D : Nat} {fr : List (List UInt8)} {k : Nat} {ov v : Value} {rows : List NRow} (h : SRel w1 wr D fr k ov v rows) (hb : Below wr.heap.size wr W2) (f : List UInt8) (hl : rows.length ≤ 60) :
    Calls Try.prog 7 #[.pointer (some ⟨D, 0, none⟩), .agg #[.int .i64 1, .string ⟨f.toArray⟩, .int .i64 0, .string ⟨#[]⟩, .int .i64 0, .int .i64 0, .int .i64 0, .slice none 0 0]] W2 fun e w' => AddEnd W2 D D (fun q => ov.ownBlock = some q) v ov rows (srcN f, none, 0) 1 e w' := by
  obtain ⟨h1, h2, h3, h4, h5, h6⟩ := h
  have hDl := block_ltO h1
  exact add_is (srcN f) none 0 D D _ v ov rows W2 1 rfl (by omega) ((hb.block _ hDl).trans h1) (h2.below hb) (POff.nil _ _ _ _) hl (Nat.le_refl _) (by have := hb.size; omega)
theorem SRel.own4 {w1 wr W2 w4 : World} {D : Nat} {fr : List (List UInt8)} {k : Nat} {ov v : Value} {rows : List NRow} (h : SRel w1 wr D fr k ov v rows) (hb : Below wr.heap.size wr W2) (hk : Kept D v.ownBlock noX W2 w4) : w4.ownsRow D 52 2 ov k (portCells (pStart (fr.take k)).2) := by
  obtain ⟨h1, h2, h3, h4, h5, h6⟩ := h
  refine owns_keepO h4 (fun g hg hl => ?_)
  rw [hk.block g (Nat.lt_of_lt_of_le hl hb.size) (fun e => ?_), hb.block g hl]
  rcases e with e | e | e
  · exact (h5 g hg).2 e
  · exact (h5 g hg).1 e
  · exact e
theorem SRel.step {w1 wr W2 w4 w5 : World} {D : Nat} {fr : List (List UInt8)} {k : Nat} {ov v : Value} {rows : List NRow} (h : SRel w1 wr D fr k ov v rows) {f : List UInt8} (hf : fr[k]? = some f) (hDw : D ≤ w1.heap.size) (hb : Below wr.heap.size wr W2) {v4 ov5 : Value} {r : NRow} (hr : r.1 = srcN f)
    (q1 : w4.heap[D]? = some (.cells #[v4, ov] 42 (0, 0))) (q2 : NO w4 D D (fun q => ov.ownBlock = some q) 38 v4 (rows ++ [r])) (q6 : Kept D v.ownBlock noX W2 w4) (q7 : Nxt W2 v.ownBlock v4.ownBlock)
    (ow : w5.ownsRow D 52 2 ov5 (k + 1) (portCells (pStart (fr.take k)).2 ++ portCells (newPorts rows.length 1))) (gr : w4.grownBy w5 ov.ownBlock) (bl : ov5.ownBlock = ov.ownBlock ∨ ov5.ownBlock = some w4.heap.size) :
    SRel w1 (w5.setCell ⟨D, 1, none⟩ ov5) D fr (k + 1) ov5 v4 (rows ++ [r]) ∧ w5.heap[D]? = some (.cells #[v4, ov] 42 (0, 0)) := by
  obtain ⟨h1, h2, h3, h4, h5, h6⟩ := h
  have hDl := block_ltO h1
  have hrl : rows.length = (pStart (fr.take k)).1.length := by rw [← h3]; simp
  have hs1 := hb.size
  have hs2 := q6.size
  have htake : pStart (fr.take (k + 1)) = pSrc (pStart (fr.take k)) f := by rw [List.take_add_one, hf, Option.toList_some, pStart_snoc]
  have hne : ∀ g, ov.ownBlock = some g → v4.ownBlock ≠ some g := by
    intro g hg e
    rcases q7 with e7 | ⟨g', e7, hg'⟩
    · exact (h5 g hg).1 (by rw [← e7]; exact e)
    · rw [e7] at e; injection e with e; have := owns_ltO h4 g hg; omega
  have hv4 : ∀ g, v4.ownBlock = some g → g < w4.heap.size := fun g hg => (q2.base g hg).2
  have hND : Nxt w4 ov.ownBlock ov5.ownBlock := by
    rcases bl with e | e
    · exact .inl e
    · exact .inr ⟨_, e, Nat.le_refl _⟩
  have hkd : Kept D v4.ownBlock (fun q => ov.ownBlock = some q) w4 w5 := Kept.of_grown gr (fun k e => .inr (.inr e))
  have hD5 : w5.heap[D]? = some (.cells #[v4, ov] 42 (0, 0)) := by
    rw [gr.block D (by omega) (fun e => (h5 D e.symm).2 rfl)]
    exact q1
  have hno5 : NO w5 D D (fun q => ov5.ownBlock = some q) 38 v4 (rows ++ [r]) := q2.keep hkd (fun g hg => gr.block g (hv4 g hg) (fun e => hne g e.symm hg)) (fun q hq hx => hND.old hq hx)
  have hov5 : ∀ g, ov5.ownBlock = some g → v4.ownBlock ≠ some g ∧ g ≠ D := by
    intro g hg
    rcases bl with e | e
    · rw [e] at hg
      exact ⟨hne g hg, (h5 g hg).2⟩
    · rw [e] at hg
      injection hg with hg
      refine ⟨fun e3 => ?_, by omega⟩
      have := hv4 g e3
      omega
  refine ⟨⟨?_, hno5.set rfl, ?_, ?_, hov5, ?_⟩, hD5⟩
  · rw [heap_setCell_same _ _ _ _ _ _ hD5]; simp
  · rw [List.map_append, h3, htake, List.map_cons, List.map_nil, hr]
    rfl
  · have e2 : portCells (pStart (fr.take (k + 1))).2 = portCells (pStart (fr.take k)).2 ++ portCells (newPorts rows.length 1) := by
      rw [htake, newPorts_one, hrl]
      simp [pSrc, portCells]
    rw [e2]
    exact owns_keepO ow (fun g hg hl => Below.heap_setCell _ _ _ _ (hov5 g hg).2)
  · have b1 : Below D w1 W2 := h6.trans (hb.mono (by omega))
    have b2 : Below D W2 w4 := q6.below (by omega) (Nat.le_refl _) (fun g hg => (h2.base g hg).1) (fun g hg => hg.elim)
    have b3 : Below D w4 w5 := hkd.below (by omega) (Nat.le_refl _) (fun g hg => (q2.base g hg).1) (fun g hg => by
      rcases id h4.2 with ⟨e, _⟩ | ⟨g', cap, cur, e, hb, _⟩
      · rw [e] at hg; simp [Value.ownBlock] at hg
      · rw [e] at hg; simp [Value.ownBlock] at hg; omega)
    exact ((b1.trans b2).trans b3).setCell (Nat.le_refl _) _
theorem SRel.done {w1 wr : World} {D : Nat} {fr : List (List UInt8)} {k : Nat} {ov v : Value} {rows : List NRow} (h : SRel w1 wr D fr k ov v rows) (hk : k = fr.length) : DSt wr D D v.ownBlock noX (pStart fr) := by
  subst hk
  obtain ⟨h1, h2, h3, h4, h5, h6⟩ := h
  rw [List.take_length] at h3 h4
  have hl2 : (pStart fr).2.length = fr.length := by have := (pStart_len fr ([], [])).2; simpa [pStart] using this
  have h4' : wr.ownsRow D 52 2 ov (pStart fr).2.length (portCells (pStart fr).2) := by rw [hl2]; exact h4
  obtain ⟨ao, cap, rfl, hrp⟩ := rports_ownO h4'
  refine ⟨v, rows, ao, cap, rfl, h1, h2.less (fun k _ hk => hk.elim), h3, ⟨hrp, fun _ a ha hf => ?_⟩, Nat.le_refl _, fun k hk => hk.elim⟩
  have hg := h5 a.block (by rw [ha]; rfl)
  rcases hf with e | e | e
  · exact hg.2 e
  · exact hg.1 e
  · exact e
end Go.Proofs.Ytkifihcficobnab
