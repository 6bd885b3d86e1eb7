/- Slices of ports and of nodes that can be read: no walk. -/
import Derived.Test.YtkifihcficobnabGraphPlain
import Derived.Test.YtkifihcficobnabFRead
namespace Go.Gs
open Go.RowKit
set_option linter.unusedVariables false

/-- 'v' is a slice of ports; they read as 'ps'. -/
def RPorts (w : World) (v : Value) (ps : List (Int × Int)) : Prop :=
  ∃ ao cap, v = .slice ao ps.length cap ∧ ps.length ≤ cap ∧ cap ≤ maxLen ∧
    (ps.length ≠ 0 → ∃ b off, ao = some ⟨b, off, none⟩ ∧ ∀ (j : Nat) p, ps[j]? = some p → w.cell? ⟨b, off + j * 2, none⟩ = some (.int .i64 p.1) ∧ w.cell? ⟨b, off + j * 2 + 1, none⟩ = some (.int .i64 p.2))
theorem RPorts.below {w w' : World} {v : Value} {ps : List (Int × Int)} (h : RPorts w v ps) (hb : Below w.heap.size w w') : RPorts w' v ps := by
  obtain ⟨ao, cap, rfl, h2, h3, h4⟩ := h
  refine ⟨ao, cap, rfl, h2, h3, fun hn => ?_⟩
  obtain ⟨b, off, rfl, hc⟩ := h4 hn
  refine ⟨b, off, rfl, fun j c hj => ?_⟩
  obtain ⟨a1, a2⟩ := hc j c hj
  exact ⟨(hb.cell (World.block_lt_of_cell? w _ a1)).trans a1, (hb.cell (World.block_lt_of_cell? w _ a2)).trans a2⟩
theorem RPorts.shape {w : World} {v : Value} {ps : List (Int × Int)} (h : RPorts w v ps) : ∃ ao cap, v = .slice ao ps.length cap ∧ ps.length ≤ cap ∧ cap ≤ maxLen := by
  obtain ⟨ao, cap, h1, h2, h3, _⟩ := h
  exact ⟨ao, cap, h1, h2, h3⟩
theorem RPorts.at {w : World} {ao : Option Addr} {n cap : Nat} {ps : List (Int × Int)} (h : RPorts w (.slice ao n cap) ps) {k : Nat} {p : Int × Int} (hk : ps[k]? = some p) :
    ∃ b off, ao = some ⟨b, off, none⟩ ∧ w.cell? ⟨b, off + k * 2, none⟩ = some (.int .i64 p.1) ∧ w.cell? ⟨b, off + k * 2 + 1, none⟩ = some (.int .i64 p.2) := by
  obtain ⟨ao', cap', e, _, _, h5⟩ := h
  injection e with e1 e2 e3
  subst e1
  obtain ⟨hkl, _⟩ := List.getElem?_eq_some_iff.1 hk
  obtain ⟨b, off, hao, hc⟩ := h5 (by omega)
  obtain ⟨a1, a2⟩ := hc k p hk
  exact ⟨b, off, hao, a1, a2⟩
theorem rports_le {w : World} {ao : Option Addr} {n cap : Nat} {ps : List (Int × Int)} (h : RPorts w (.slice ao n cap) ps) : n ≤ cap ∧ cap ≤ 9223372036854775807 := by
  obtain ⟨_, c, e, h1, h2⟩ := h.shape
  unfold maxLen at h2
  injection e with e1 e2 e3
  omega

/-- The cells of a node lie from 'off' on. -/
def NodeAt (w : World) (b off : Nat) (n : SNode) (ai : Option Addr) (ci : Nat) : Prop :=
  w.cell? ⟨b, off, none⟩ = some (.int .i64 n.kind) ∧ w.cell? ⟨b, off + 1, none⟩ = some (.string ⟨n.file.toArray⟩) ∧ w.cell? ⟨b, off + 2, none⟩ = some (.int .i64 n.c.kind) ∧ w.cell? ⟨b, off + 3, none⟩ = some (.string ⟨n.c.word.toArray⟩) ∧
  w.cell? ⟨b, off + 4, none⟩ = some (.int .i64 n.c.n) ∧ w.cell? ⟨b, off + 5, none⟩ = some (.int .i64 n.how) ∧ w.cell? ⟨b, off + 6, none⟩ = some (.int .i64 n.wide) ∧ w.cell? ⟨b, off + 7, none⟩ = some (.slice ai n.ins.length ci)
theorem NodeAt.below {w w' : World} {b off : Nat} {n : SNode} {ai : Option Addr} {ci : Nat} (h : NodeAt w b off n ai ci) (hb : Below w.heap.size w w') : NodeAt w' b off n ai ci := by
  obtain ⟨a0, a1, a2, a3, a4, a5, a6, a7⟩ := h
  exact ⟨(hb.cell (World.block_lt_of_cell? w _ a0)).trans a0, (hb.cell (World.block_lt_of_cell? w _ a1)).trans a1, (hb.cell (World.block_lt_of_cell? w _ a2)).trans a2, (hb.cell (World.block_lt_of_cell? w _ a3)).trans a3,
    (hb.cell (World.block_lt_of_cell? w _ a4)).trans a4, (hb.cell (World.block_lt_of_cell? w _ a5)).trans a5, (hb.cell (World.block_lt_of_cell? w _ a6)).trans a6, (hb.cell (World.block_lt_of_cell? w _ a7)).trans a7⟩
/-- 'v' is a slice of nodes; they read as 'ns'. -/
def RNodes (w : World) (v : Value) (ns : List SNode) : Prop :=
  ∃ ao cap, v = .slice ao ns.length cap ∧ ns.length ≤ cap ∧ cap ≤ maxLen ∧
    (ns.length ≠ 0 → ∃ b off, ao = some ⟨b, off, none⟩ ∧ ∀ (j : Nat) n, ns[j]? = some n → ∃ ai ci, NodeAt w b (off + j * 8) n ai ci ∧ RPorts w (.slice ai n.ins.length ci) n.ins)
theorem RNodes.below {w w' : World} {v : Value} {ns : List SNode} (h : RNodes w v ns) (hb : Below w.heap.size w w') : RNodes w' v ns := by
  obtain ⟨ao, cap, rfl, h2, h3, h4⟩ := h
  refine ⟨ao, cap, rfl, h2, h3, fun hn => ?_⟩
  obtain ⟨b, off, rfl, hc⟩ := h4 hn
  refine ⟨b, off, rfl, fun j c hj => ?_⟩
  obtain ⟨ai, ci, a1, a2⟩ := hc j c hj
  exact ⟨ai, ci, a1.below hb, a2.below hb⟩
theorem RNodes.shape {w : World} {v : Value} {ns : List SNode} (h : RNodes w v ns) : ∃ ao cap, v = .slice ao ns.length cap ∧ ns.length ≤ cap ∧ cap ≤ maxLen := by
  obtain ⟨ao, cap, h1, h2, h3, _⟩ := h
  exact ⟨ao, cap, h1, h2, h3⟩
theorem RNodes.at {w : World} {ao : Option Addr} {n cap : Nat} {ns : List SNode} (h : RNodes w (.slice ao n cap) ns) {k : Nat} {x : SNode} (hk : ns[k]? = some x) :
    ∃ b off ai ci, ao = some ⟨b, off, none⟩ ∧ NodeAt w b (off + k * 8) x ai ci ∧ RPorts w (.slice ai x.ins.length ci) x.ins := by
  obtain ⟨ao', cap', e, _, _, h5⟩ := h
  injection e with e1 e2 e3
  subst e1
  obtain ⟨hkl, _⟩ := List.getElem?_eq_some_iff.1 hk
  obtain ⟨b, off, hao, hc⟩ := h5 (by omega)
  obtain ⟨ai, ci, a1, a2⟩ := hc k x hk
  exact ⟨b, off, ai, ci, hao, a1, a2⟩
theorem rnodes_le {w : World} {ao : Option Addr} {n cap : Nat} {ns : List SNode} (h : RNodes w (.slice ao n cap) ns) : n ≤ cap ∧ cap ≤ 9223372036854775807 := by
  obtain ⟨_, c, e, h1, h2⟩ := h.shape
  unfold maxLen at h2
  injection e with e1 e2 e3
  omega
/-- The first nodes. -/
theorem RNodes.take {w : World} {ao : Option Addr} {n cap : Nat} {ns : List SNode} (h : RNodes w (.slice ao n cap) ns) (k : Nat) (hk : k ≤ ns.length) : RNodes w (.slice ao k cap) (ns.take k) := by
  obtain ⟨ao', cap', e, h2, h3, h5⟩ := h
  injection e with e1 e2 e3
  subst e1
  subst e3
  have hl : (ns.take k).length = k := by rw [List.length_take]; omega
  refine ⟨ao, cap, by rw [hl], by omega, h3, fun hn => ?_⟩
  obtain ⟨b, off, hao, hc⟩ := h5 (by omega)
  refine ⟨b, off, hao, fun j x hj => hc j x ?_⟩
  obtain ⟨hj1, _⟩ := List.getElem?_eq_some_iff.1 hj
  rwa [List.getElem?_take_of_lt (by omega)] at hj
/-- Texts and numbers that Go can hold. -/
def FitsN (n : SNode) : Prop := n.file.length ≤ 9223372036854775807 ∧ n.c.word.length ≤ 9223372036854775807 ∧ (∀ p ∈ n.ins, (Lit.int .i64 p.1).wf = true ∧ (Lit.int .i64 p.2).wf = true)
end Go.Gs
