/- Slices, one beside the other. -/
import Derived.Test.YtkifihcficobnaaDoorSubs
namespace Go.Proofs.YtkifihcficobnaaDoor
open Go.RowKit Go.Gs
set_option linter.unusedVariables false

/-- Slices, one beside the other, that can be read. -/
def Lists {α : Type} (w : World) (G : Nat) (f : α → Value) (pss : List (List α)) : Prop := ∀ j p, pss[j]? = some p → ∃ u, w.cell? ⟨G, j, none⟩ = some u ∧ Reads w u p.length (p.map f)
theorem Lists.below {α : Type} {w w' : World} {G : Nat} {f : α → Value} {pss : List (List α)} (h : Lists w G f pss) (hb : Below w.heap.size w w') : Lists w' G f pss := by
  intro j p hj
  obtain ⟨u, h1, h2⟩ := h j p hj
  exact ⟨u, (hb.cell (World.block_lt_of_cell? w _ h1)).trans h1, h2.below hb⟩
theorem run_append_nil {P : Program} {w : World} (base : Nat) (t ty e : TypeId) (i : TypeInfo) (size c : Nat) (ht : P.underlying t = some (.slice e)) (hi : P.info? e = some i) (v : Value) (n : Nat) (xs : List Value) (hown : w.ownsRow base e size v n xs) :
    (Builtin.append_ #[t, t] ty #[v, .slice none 0 c]).run P w = .ok v w := by
  rcases hown.2 with ⟨rfl, rfl⟩ | ⟨g, cap, cur, rfl, _, _, hnc, _⟩
  · simp [Builtin.append_, run_underlying ht, sizeOf, typeInfo, hi, Builtin.lenOf, Builtin.firstCells]
  · simp [Builtin.append_, run_underlying ht, sizeOf, typeInfo, hi, Builtin.lenOf, Builtin.firstCells, hnc, storeCells]
theorem append_nil_own {P : Program} {w : World} {ops : Array Oper} {rest : List Oper} {o : Oper} {a : Act} {Q : Exit → Act → World → Prop} (hgd : o.guard = none) (s x : Operand) (t : TypeId)
    (ho : o.op = .call { callee := .builtin .append, args := #[s, x], argTypes := #[t, t] }) (base : Nat) (e : TypeId) (i : TypeInfo) (size c : Nat) (ht : P.underlying t = some (.slice e)) (hi : P.info? e = some i)
    (v : Value) (n : Nat) (xs : List Value) (hs : a.eval s = v) (hown : w.ownsRow base e size v n xs) (hx : a.eval x = .slice none 0 c) (h : wpList P ops Q rest (a.put o.dst v) w) : wpList P ops Q (o :: rest) a w := by
  refine wpList_plain hgd fun K hK => ?_
  have hrun := run_append_nil (P := P) (w := w) base t o.type e i size c ht hi v n xs hown
  unfold Oper.wp
  simp [execOp, ho, resolve, invoke, builtin, hs, hx, hrun, Result.andThen]
  exact hK _ _ h
theorem flat_step {α : Type} {pss : List (List α)} {k : Nat} {p : List α} (h : pss[k]? = some p) : (pss.take (k + 1)).flatten = (pss.take k).flatten ++ p := by
  rw [List.take_add_one, h]
  simp
theorem flat_nil {α : Type} {w : World} {B : Nat} {t : TypeId} {v : Value} {A A' : List α} {f : α → Value} (h : w.ownsRow B t 1 v A.length (A.map f)) (hA : A' = A ++ []) : w.ownsRow B t 1 v A'.length (A'.map f) := by
  rw [hA, List.append_nil]
  exact h
theorem flat_app {α : Type} {w w1 w3 : World} {t : TypeId} {v v' : Value} {A A' p : List α} {f : α → Value} (h : w1.ownsRow w.heap.size t 1 v A.length (A.map f)) (hb : Below w.heap.size w w1) (hA : A' = A ++ p) (h3 : w3.ownsRow w.heap.size t 1 v' (A.length + p.length) (A.map f ++ p.map f)) (hg : w1.grownBy w3 v.ownBlock) :
    w3.ownsRow w.heap.size t 1 v' A'.length (A'.map f) ∧ Below w.heap.size w w3 := by
  rw [hA, List.length_append, List.map_append]
  exact ⟨h3, hb.grown hg hb.size (fun k hk => (h.lt k hk).1)⟩
theorem flat_end {α : Type} {w : World} {B N k : Nat} {t : TypeId} {v : Value} {pss : List (List α)} {f : α → Value} (hk : k = N) (hN : N = pss.length) (h : w.ownsRow B t 1 v ((pss.take k).flatten).length (((pss.take k).flatten).map f)) : w.ownsRow B t 1 v (pss.flatten).length ((pss.flatten).map f) := by
  rw [hk, hN, List.take_length] at h
  exact h
theorem flat_le {α : Type} (pss : List (List α)) (k : Nat) : ((pss.take k).flatten).length ≤ (pss.flatten).length := by
  conv => rhs; rw [← List.take_append_drop k pss, List.flatten_append]
  simp
end Go.Proofs.YtkifihcficobnaaDoor
