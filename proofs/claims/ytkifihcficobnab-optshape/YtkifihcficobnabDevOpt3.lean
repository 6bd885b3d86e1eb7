/- What stands between the rounds of the developers' command of a draft. -/
import Derived.Test.YtkifihcficobnabDevOpt2
namespace Go.Proofs.Ytkifihcficobnab
open Go.RowKit Go.Gs
set_option linter.unusedVariables false

theorem DSt.less {w : World} {B D : Nat} {go : Option Nat} {X X' : Nat → Prop} {d : PD} (h : DSt w B D go X d) (hx : ∀ k, k < w.heap.size → X' k → X k) (hl : ∀ k, X' k → k < w.heap.size) : DSt w B D go X' d := by
  obtain ⟨v, rows, ao, co, h1, h2, h3, h4, h5, h6, h7⟩ := h
  exact ⟨v, rows, ao, co, h1, h2, h3.less hx, h4, h5.less hx, h6, hl⟩
theorem owns_keepO {w w' : World} {B : Nat} {e : TypeId} {size : Nat} {v : Value} {n : Nat} {xs : List Value} (h : w.ownsRow B e size v n xs) (hk : ∀ g, v.ownBlock = some g → g < w.heap.size → w'.heap[g]? = w.heap[g]?) : w'.ownsRow B e size v n xs := by
  refine ⟨h.1, ?_⟩
  rcases h.2 with ⟨e1, h0⟩ | ⟨g, cap, cur, e1, hb, h1, h2⟩
  · exact Or.inl ⟨e1, h0⟩
  · refine Or.inr ⟨g, cap, cur, e1, hb, ?_, h2⟩
    rw [hk g (by rw [e1]; rfl) (block_ltO h1)]
    exact h1
theorem owns_ltO {w : World} {B : Nat} {e : TypeId} {size : Nat} {v : Value} {n : Nat} {xs : List Value} (h : w.ownsRow B e size v n xs) : ∀ g, v.ownBlock = some g → g < w.heap.size := by
  intro g hg
  rcases h.2 with ⟨rfl, h0⟩ | ⟨g', cap, cur, rfl, hb, h1, _⟩
  · simp [Value.ownBlock] at hg
  · simp [Value.ownBlock] at hg
    subst hg
    exact block_ltO h1
theorem rports_ownO {w : World} {B : Nat} {v : Value} {ps : List (Int × Int)} (h : w.ownsRow B 52 2 v ps.length (portCells ps)) : ∃ ao cap, v = .slice ao ps.length cap ∧ RPorts w (.slice ao ps.length cap) ps := by
  rcases id h.2 with ⟨rfl, h0⟩ | ⟨g, cap, cur, rfl, hb, hg, h1, h2, h3, h4⟩
  · exact ⟨none, 0, by rw [h0], none, 0, rfl, by omega, by simp [maxLen], fun hn => absurd h0 hn⟩
  · refine ⟨_, cap, rfl, _, cap, rfl, h1, h2, fun _ => ⟨g, 0, rfl, fun j p hp => ?_⟩⟩
    obtain ⟨a1, a2⟩ := portCells_at ps j p hp
    have hjl : j < ps.length := (List.getElem?_eq_some_iff.1 hp).1
    have c1 := h.cellAt (j * 2) (by omega)
    have c2 := h.cellAt (j * 2 + 1) (by omega)
    rw [a1] at c1
    rw [a2] at c2
    exact ⟨by rw [Nat.zero_add]; exact c1, by rw [Nat.zero_add]; exact c2⟩
theorem cells_rowO {w : World} {b : Nat} {cs : List Value} {t : TypeId} (h : w.heap[b]? = some (.cells cs.toArray t (0, 0))) : ∀ j u, cs[j]? = some u → w.cell? ((⟨b, 0, none⟩ : Addr).add j) = some u := by
  intro j u hj
  have e : ((⟨b, 0, none⟩ : Addr).add j) = ⟨b, j, none⟩ := by
    simp [Addr.add]
    try omega
  rw [e, cell_of_row _ _ _ _ _ _ h]
  simpa using hj
theorem portCells_one (ps : List (Int × Int)) : ∀ u ∈ portCells ps, u.oneCell' = true := by
  intro u hu
  unfold portCells at hu
  rw [List.mem_flatten] at hu
  obtain ⟨l, hl, hul⟩ := hu
  obtain ⟨p, _, rfl⟩ := List.mem_map.1 hl
  simp at hul
  rcases hul with rfl | rfl <;> rfl
/-- The draft behind so many Works. -/
def wk (c : Cmd) (ns : List SNode) (op : List (Int × Int)) (k : Nat) : PD := (op.take k).foldl (pWork c) (ns, [])
theorem wk_succ {c : Cmd} {ns : List SNode} {op : List (Int × Int)} {k : Nat} {p : Int × Int} (h : op[k]? = some p) : wk c ns op (k + 1) = pWork c (wk c ns op k) p := by
  unfold wk
  rw [List.take_add_one, h, Option.toList_some, List.foldl_append]
  rfl
theorem wk_len {c : Cmd} {ns : List SNode} {op : List (Int × Int)} {k : Nat} (h : k ≤ op.length) : (wk c ns op k).1.length = ns.length + k ∧ (wk c ns op k).2.length = k := by
  have := works_len c (op.take k) (ns, [])
  simp only [List.length_nil, Nat.zero_add, List.length_take, Nat.min_eq_left h] at this
  exact this
def LRel (W wr : World) (B D : Nat) (go1 : Option Nat) (X0 : Nat → Prop) (ns1 : List SNode) (op1 : List (Int × Int)) (ao1 : Option Addr) (co1 : Nat) (c : Cmd) (k : Nat) (dv v : Value) (rows : List NRow) : Prop :=
  wr.heap[D]? = some (.cells #[v, .slice ao1 op1.length co1] 42 (0, 0)) ∧ NO wr B D (fun q => X0 q ∨ dv.ownBlock = some q) 38 v rows ∧ rows.map (·.1) = (wk c ns1 op1 k).1 ∧
  wr.ownsRow B 52 2 dv k (portCells (wk c ns1 op1 k).2) ∧ (∀ g, dv.ownBlock = some g → v.ownBlock ≠ some g ∧ W.heap.size ≤ g) ∧ Kept D go1 noX W wr ∧ Nxt W go1 v.ownBlock
theorem LRel.start {W : World} {B D : Nat} {go1 : Option Nat} {X0 : Nat → Prop} {ns1 : List SNode} {op1 : List (Int × Int)} {ao1 : Option Addr} {co1 : Nat} (c : Cmd) {v : Value} {rows : List NRow} (e1 : go1 = v.ownBlock) (h1 : W.heap[D]? = some (.cells #[v, .slice ao1 op1.length co1] 42 (0, 0))) (h2 : NO W B D X0 38 v rows) (h3 : rows.map (·.1) = ns1) : LRel W W B D go1 X0 ns1 op1 ao1 co1 c 0 (.slice none 0 0) v rows := by
  refine ⟨h1, h2.less (fun k _ hk => by rcases hk with hk | hk; exact hk; simp [Value.ownBlock] at hk), by simp [wk, h3], ?_, fun g hg => by simp [Value.ownBlock] at hg, Kept.refl _ _ _ _, Or.inl e1.symm⟩
  exact World.ownsRow_nil _ _ _ _
theorem LRel.ports {W wr : World} {B D : Nat} {go1 : Option Nat} {X0 : Nat → Prop} {ns1 : List SNode} {op1 : List (Int × Int)} {ao1 : Option Addr} {co1 : Nat} {c : Cmd} {k : Nat} {dv v : Value} {rows : List NRow} (h : LRel W wr B D go1 X0 ns1 op1 ao1 co1 c k dv v rows) (hp : POff W D go1 X0 ao1 co1 op1) : POff wr D v.ownBlock X0 ao1 co1 op1 :=
  hp.keep (h.2.2.2.2.2.1.more (fun k e => e.elim)) h.2.2.2.2.2.2 (NxtX.refl _ _)
/-- What add wants. -/
theorem LRel.add {W wr W2 : World} {B D X2 : Nat} {go1 : Option Nat} {X0 : Nat → Prop} {ns1 : List SNode} {op1 : List (Int × Int)} {ao1 : Option Addr} {co1 : Nat} {c : Cmd} {k : Nat} {dv v : Value} {rows : List NRow} (h : LRel W wr B D go1 X0 ns1 op1 ao1 co1 c k dv v rows) (p : Int × Int) (hX0 : ∀ q, X0 q → q < W.heap.size)
    (hb : Below wr.heap.size wr W2) (hc : W2.heap[X2]? = some (.cells #[.int .i64 p.1, .int .i64 p.2] 52 (0, 0))) (hx : wr.heap.size ≤ X2) (hl : rows.length ≤ 60) (hB : B ≤ D) (hBw : B ≤ wr.heap.size) :
    Calls Try.prog 7 #[.pointer (some ⟨D, 0, none⟩), nodeV (workN c p) (some ⟨X2, 0, none⟩) 1 1] W2 fun e w' => AddEnd W2 B D (fun q => X0 q ∨ dv.ownBlock = some q) v (.slice ao1 op1.length co1) rows (workN c p, some ⟨X2, 0, none⟩, 1) 1 e w' := by
  obtain ⟨h1, h2, h3, h4, h5, h6, h7⟩ := h
  have hDl := block_ltO h1
  refine add_is (workN c p) (some ⟨X2, 0, none⟩) 1 D B _ v _ rows W2 1 rfl (by omega) ((hb.block _ hDl).trans h1) (h2.below hb) ⟨⟨_, 1, rfl, by simp [workN], by simp [maxLen], fun _ => ⟨X2, 0, rfl, fun j q hq => ?_⟩⟩, ?_⟩ hl hB (Nat.le_trans hBw hb.size)
  · cases j with
    | zero =>
      simp [workN] at hq
      subst hq
      rw [cell_of_row _ _ _ _ _ _ hc, cell_of_row _ _ _ _ _ _ hc]
      exact ⟨rfl, rfl⟩
    | succ j => simp [workN] at hq
  · intro _ a ha hf
    injection ha with ha
    subst ha
    rcases hf with e | e | e | e
    · simp only at e; omega
    · have := (h2.base _ e).2; simp only at this; omega
    · have := hX0 _ e; have := h6.size; simp only at *; omega
    · have := owns_ltO h4 _ e; simp only at this; omega
theorem LRel.own4 {W wr W2 w4 : World} {B D : Nat} {go1 : Option Nat} {X0 : Nat → Prop} {ns1 : List SNode} {op1 : List (Int × Int)} {ao1 : Option Addr} {co1 : Nat} {c : Cmd} {k : Nat} {dv v : Value} {rows : List NRow} (h : LRel W wr B D go1 X0 ns1 op1 ao1 co1 c k dv v rows) (hb : Below wr.heap.size wr W2) (hk : Kept D v.ownBlock noX W2 w4) (hDW : D < W.heap.size) : w4.ownsRow B 52 2 dv k (portCells (wk c ns1 op1 k).2) := by
  obtain ⟨h1, h2, h3, h4, h5, h6, h7⟩ := h
  refine owns_keepO h4 (fun g hg hl => ?_)
  rw [hk.block g (Nat.lt_of_lt_of_le hl hb.size) (fun e => ?_), hb.block g hl]
  rcases e with e | e | e
  · have := (h5 g hg).2; omega
  · exact (h5 g hg).1 e
  · exact e
theorem LRel.step {W wr W2 w4 w5 : World} {B D : Nat} {go1 : Option Nat} {X0 : Nat → Prop} {ns1 : List SNode} {op1 : List (Int × Int)} {ao1 : Option Addr} {co1 : Nat} {c : Cmd} {k : Nat} {dv v : Value} {rows : List NRow} (h : LRel W wr B D go1 X0 ns1 op1 ao1 co1 c k dv v rows) {p : Int × Int} (hp : op1[k]? = some p) (hDW : D < W.heap.size) (hX0 : ∀ q, X0 q → q < W.heap.size)
    (hb : Below wr.heap.size wr W2) {v4 dv5 : Value} {r : NRow} (hr : r.1 = workN c p) (q1 : w4.heap[D]? = some (.cells #[v4, .slice ao1 op1.length co1] 42 (0, 0))) (q2 : NO w4 B D (fun q => X0 q ∨ dv.ownBlock = some q) 38 v4 (rows ++ [r])) (q6 : Kept D v.ownBlock noX W2 w4) (q7 : Nxt W2 v.ownBlock v4.ownBlock)
    (ow : w5.ownsRow B 52 2 dv5 (k + 1) (portCells (wk c ns1 op1 k).2 ++ portCells (newPorts rows.length 1))) (gr : w4.grownBy w5 dv.ownBlock) (bl : dv5.ownBlock = dv.ownBlock ∨ dv5.ownBlock = some w4.heap.size) :
    LRel W w5 B D go1 X0 ns1 op1 ao1 co1 c (k + 1) dv5 v4 (rows ++ [r]) := by
  obtain ⟨h1, h2, h3, h4, h5, h6, h7⟩ := h
  have hkl : k ≤ op1.length := by have := (List.getElem?_eq_some_iff.1 hp).1; omega
  have hrl : rows.length = (wk c ns1 op1 k).1.length := by rw [← h3]; simp
  have hs1 := hb.size
  have hs2 := q6.size
  have hs0 := h6.size
  -- the row of nodes is none of the ports'
  have hne : ∀ g, dv.ownBlock = some g → v4.ownBlock ≠ some g := by
    intro g hg e
    rcases q7 with e7 | ⟨g', e7, hg'⟩
    · exact (h5 g hg).1 (by rw [← e7]; exact e)
    · rw [e7] at e; injection e with e; have := owns_ltO h4 g hg; omega
  have hv4 : ∀ g, v4.ownBlock = some g → g < w4.heap.size := fun g hg => (q2.base g hg).2
  have hND : Nxt w4 dv.ownBlock dv5.ownBlock := by
    rcases bl with e | e
    · exact .inl e
    · exact .inr ⟨_, e, Nat.le_refl _⟩
  have hkd : Kept D v4.ownBlock (fun q => X0 q ∨ dv.ownBlock = some q) w4 w5 := Kept.of_grown gr (fun k e => .inr (.inr (.inr e)))
  refine ⟨?_, q2.keep hkd (fun g hg => gr.block g (hv4 g hg) (fun e => hne g e.symm hg)) (fun q hq hx => ?_), ?_, ?_, ?_, ?_, ?_⟩
  · rw [gr.block D (by omega) (fun e => by have := (h5 D e.symm).2; omega)]
    exact q1
  · rcases hx with hx | hx
    · exact .inl hx
    · exact .inr (hND.old hq hx)
  · rw [List.map_append, h3, wk_succ hp, List.map_cons, List.map_nil, hr]
    rfl
  · have e2 : portCells (wk c ns1 op1 (k + 1)).2 = portCells (wk c ns1 op1 k).2 ++ portCells (newPorts rows.length 1) := by
      rw [wk_succ hp, newPorts_one, hrl]
      simp [pWork, portCells]
    rw [e2]
    exact ow
  · intro g hg
    rcases bl with e | e
    · rw [e] at hg
      exact ⟨hne g hg, (h5 g hg).2⟩
    · rw [e] at hg
      injection hg with hg
      refine ⟨fun e3 => ?_, by omega⟩
      have := hv4 g e3
      omega
  · have k1 : Kept D go1 noX W W2 := h6.trans (Kept.of_below hb) h7 (NxtX.refl _ _)
    have k2 : Kept D go1 noX W w4 := k1.trans q6 h7 (NxtX.refl _ _)
    refine ⟨gr.os.trans k2.os, gr.tape.trans k2.tape, gr.output.trans k2.output, Nat.le_trans k2.size gr.size, fun i hi hn => ?_⟩
    rw [gr.block i (by omega) (fun e => by have := (h5 i e.symm).2; omega)]
    exact k2.block i hi hn
  · exact h7.trans q7 (by omega)
/-- When all are done. -/
theorem LRel.done {W wr : World} {B D : Nat} {go1 : Option Nat} {X0 : Nat → Prop} {ns1 : List SNode} {op1 : List (Int × Int)} {ao1 : Option Addr} {co1 : Nat} {c : Cmd} {k : Nat} {dv v : Value} {rows : List NRow} (h : LRel W wr B D go1 X0 ns1 op1 ao1 co1 c k dv v rows) (hk : k = op1.length) (hDW : D < W.heap.size) (hB : B ≤ D) (hX0 : ∀ q, X0 q → q < W.heap.size) :
    DStep W (wr.setCell ⟨D, 1, none⟩ dv) B D go1 X0 (pWorks c (ns1, op1)) := by
  subst hk
  obtain ⟨h1, h2, h3, h4, h5, h6, h7⟩ := h
  have hw : wk c ns1 op1 op1.length = pWorks c (ns1, op1) := by unfold wk pWorks; rw [List.take_length]
  have hl2 := (wk_len (c := c) (ns := ns1) (op := op1) (Nat.le_refl _)).2
  rw [hw] at h3 h4 hl2
  have hs0 := h6.size
  have h4' : wr.ownsRow B 52 2 dv (pWorks c (ns1, op1)).2.length (portCells (pWorks c (ns1, op1)).2) := by rw [hl2]; exact h4
  obtain ⟨ao, cap, rfl, hrp⟩ := rports_ownO h4'
  have hoff : ∀ a, ao = some a → ¬ FS D v.ownBlock X0 a.block := by
    intro a ha hf
    have ho : (Value.slice ao (pWorks c (ns1, op1)).2.length cap).ownBlock = some a.block := by rw [ha]; rfl
    have hg := h5 _ ho
    rcases hf with e | e | e
    · omega
    · exact hg.1 e
    · have := hX0 _ e; omega
  refine ⟨v.ownBlock, ⟨v, rows, ao, cap, rfl, ?_, (h2.less (fun k _ hk => Or.inl hk)).set rfl, h3, ⟨?_, fun _ => hoff⟩, hB, fun k hk => by have := hX0 k hk; simp; omega⟩, h6.set rfl, h7⟩
  · rw [heap_setCell_same _ _ _ _ _ _ h1]; simp
  · refine rports_keep hrp (fun hn a ha hl => Below.heap_setCell _ _ _ _ (fun e => hoff a ha (.inl e)))
end Go.Proofs.Ytkifihcficobnab
