/- The lines that Parse has found: in the array, or behind it. -/
import Derived.Test.YtdfnnhcooliheaaDoorDevScript5
import Derived.Test.YtdfnnhcooliheaaDoorDevScript2
import Derived.Deep.AppendSrc
namespace Go.Proofs.YtdfnnhcooliheaaDoor
open Go.RowKit Go.Gs
set_option linter.unusedVariables false

def tri (l : List (Value × Value × Value)) : List Value := (l.map fun r => [r.1, r.2.1, r.2.2]).flatten
theorem tri_app (l : List (Value × Value × Value)) (r : Value × Value × Value) : tri (l ++ [r]) = tri l ++ [r.1, r.2.1, r.2.2] := by simp [tri]
theorem tri_cons (l : List (Value × Value × Value)) (r : Value × Value × Value) : tri (r :: l) = [r.1, r.2.1, r.2.2] ++ tri l := by simp [tri]
theorem tri_length (l : List (Value × Value × Value)) : (tri l).length = l.length * 3 := by
  induction l with
  | nil => rfl
  | cons c r ih =>
    rw [tri_cons, List.length_append, ih]
    simp
    omega
theorem tri_at : ∀ (l : List (Value × Value × Value)) (j : Nat) (c : Value × Value × Value), l[j]? = some c → (tri l)[j * 3]? = some c.1 ∧ (tri l)[j * 3 + 1]? = some c.2.1 ∧ (tri l)[j * 3 + 2]? = some c.2.2
  | [], j, c, h => by simp at h
  | d :: r, 0, c, h => by
    simp at h; subst h
    simp [tri]
  | d :: r, j + 1, c, h => by
    have ih := tri_at r j c (by simpa using h)
    rw [tri_cons]
    refine ⟨?_, ?_, ?_⟩
    · rw [List.getElem?_append_right (by simp; omega), show (j + 1) * 3 - [d.1, d.2.1, d.2.2].length = j * 3 by simp; omega]
      exact ih.1
    · rw [List.getElem?_append_right (by simp; omega), show (j + 1) * 3 + 1 - [d.1, d.2.1, d.2.2].length = j * 3 + 1 by simp; omega]
      exact ih.2.1
    · rw [List.getElem?_append_right (by simp; omega), show (j + 1) * 3 + 2 - [d.1, d.2.1, d.2.2].length = j * 3 + 2 by simp; omega]
      exact ih.2.2

/-- Not in block r. -/
def Off (r : Nat) (v : Value) : Prop := ∀ a n c, v = .slice (some a) n c → a.block ≠ r
/-- The cells of a line that can be read, its rows not in block r. -/
structure RowOk (w : World) (r : Nat) (row : Value × Value × Value) (x : SLine) : Prop where
  fr : Reads w row.1 x.fr.length (x.fr.map S)
  cs : RCmds w row.2.1 x.cs
  tos : row.2.2 = .string ⟨x.to.toArray⟩
  fit : FitsL x
  o1 : Off r row.1
  o2 : Off r row.2.1
theorem RowOk.below {w w' : World} {r : Nat} {row : Value × Value × Value} {x : SLine} (h : RowOk w r row x) (hb : Below w.heap.size w w') : RowOk w' r row x := ⟨h.fr.below hb, h.cs.below hb, h.tos, h.fit, h.o1, h.o2⟩
theorem RowOk.keep {w w' : World} {r : Nat} {row : Value × Value × Value} {x : SLine} (h : RowOk w r row x) (hb : ∀ k, k ≠ r → w'.heap[k]? = w.heap[k]?) : RowOk w' r row x :=
  ⟨reads_keep h.fr (fun a n c e => hb _ (h.o1 a n c e)), rcmds_keep h.cs (fun a n c e => hb _ (h.o2 a n c e)), h.tos, h.fit, h.o1, h.o2⟩
theorem RowOk.one {w : World} {r : Nat} {row : Value × Value × Value} {x : SLine} (h : RowOk w r row x) : ∀ u ∈ [row.1, row.2.1, row.2.2], u.oneCell' = true := by
  intro u hu
  obtain ⟨_, _, e1, _⟩ := h.fr.shape
  obtain ⟨_, _, e2, _⟩ := h.cs.shape
  simp only [List.mem_cons, List.not_mem_nil, or_false] at hu
  rcases hu with rfl | rfl | rfl
  · rw [e1]; rfl
  · rw [e2]; rfl
  · rw [h.tos]; rfl
def Rows (w : World) (r : Nat) (rows : List (Value × Value × Value)) (ls : List SLine) : Prop := rows.length = ls.length ∧ ∀ (j : Nat) row x, rows[j]? = some row → ls[j]? = some x → RowOk w r row x
theorem Rows.app {w : World} {r : Nat} {rows : List (Value × Value × Value)} {ls : List SLine} {row : Value × Value × Value} {x : SLine} (h : Rows w r rows ls) (hx : RowOk w r row x) : Rows w r (rows ++ [row]) (ls ++ [x]) := by
  refine ⟨by simp [h.1], fun j a b ha hb => ?_⟩
  by_cases hj : j < rows.length
  · rw [List.getElem?_append_left hj] at ha
    rw [List.getElem?_append_left (by rw [← h.1]; exact hj)] at hb
    exact h.2 j a b ha hb
  · rw [List.getElem?_append_right (by omega)] at ha
    rw [List.getElem?_append_right (by rw [← h.1]; omega)] at hb
    obtain ⟨h1, _⟩ := List.getElem?_eq_some_iff.1 ha
    simp at h1
    have e0 : j - rows.length = 0 := by omega
    have e1 : j - ls.length = 0 := by rw [← h.1]; omega
    rw [e0] at ha
    rw [e1] at hb
    simp at ha hb
    subst ha hb
    exact hx
theorem Rows.one {w : World} {r : Nat} {rows : List (Value × Value × Value)} {ls : List SLine} (h : Rows w r rows ls) : ∀ u ∈ tri rows, u.oneCell' = true := by
  intro u hu
  unfold tri at hu
  rw [List.mem_flatten] at hu
  obtain ⟨l, hl, hul⟩ := hu
  obtain ⟨row, hrow, rfl⟩ := List.mem_map.1 hl
  obtain ⟨j, hj, e⟩ := List.mem_iff_getElem.1 hrow
  have h1 : rows[j]? = some row := by rw [List.getElem?_eq_getElem hj, e]
  have h2 : ls[j]? = some (ls[j]'(by rw [← h.1]; exact hj)) := List.getElem?_eq_getElem _
  exact (h.2 j row _ h1 h2).one u hul
/-- Cells of lines, one behind the other, that can be read. -/
theorem rlines_of {w : World} {b off n cap : Nat} {r : Nat} {rows : List (Value × Value × Value)} {ls : List SLine} (h : Rows w r rows ls) (hn : n = ls.length) (h1 : n ≤ cap) (h2 : cap ≤ maxLen) (hc : ∀ j u, (tri rows)[j]? = some u → w.cell? ⟨b, off + j, none⟩ = some u) : RLines w (.slice (some ⟨b, off, none⟩) n cap) ls := by
  refine ⟨_, cap, by rw [hn], by omega, h2, fun _ => ⟨b, off, rfl, fun j x hj => ?_⟩⟩
  obtain ⟨hjl, _⟩ := List.getElem?_eq_some_iff.1 hj
  have hr : rows[j]? = some (rows[j]'(by rw [h.1]; exact hjl)) := List.getElem?_eq_getElem _
  have ok := h.2 j _ x hr hj
  obtain ⟨a1, a2, a3⟩ := tri_at rows j _ hr
  refine ⟨_, _, hc _ _ a1, ?_, ?_, ok.fr, ok.cs⟩
  · rw [Nat.add_assoc]; exact hc _ _ a2
  · rw [Nat.add_assoc, hc _ _ a3, ok.tos]

theorem heap_setCells (b : Nat) : ∀ (vs : List Value) (o : Nat) (w : World) (k : Nat), k ≠ b → (w.setCells b o vs).heap[k]? = w.heap[k]?
  | [], _, _, _, _ => rfl
  | v :: r, o, w, k, hk => by
    rw [World.setCells, heap_setCells b r (o + 1) _ k hk, Below.heap_setCell _ _ _ _ (by exact hk)]
theorem below_setCells {B : Nat} {a : World} (b : Nat) (hb : B ≤ b) : ∀ (vs : List Value) (o : Nat) (w : World), Below B a w → Below B a (w.setCells b o vs)
  | [], _, _, h => h
  | v :: r, o, w, h => below_setCells b hb r (o + 1) _ (h.setCell (p := ⟨b, o, none⟩) hb v)
theorem infoLine : (Tryd.prog.info? 78).map (fun i => (i.zero, i.size, i.bytes)) = some (some (.agg #[.slice none 0 0, .slice none 0 0, .string ⟨#[]⟩]), 3, 64) := by kernel_rfl

/-- What has been found: up to six lines in the array r; more in a row of its own. -/
def FA (w wr : World) (r g n cap : Nat) (ls : List SLine) : Prop :=
  w.heap.size ≤ r ∧ r < wr.heap.size ∧ Below w.heap.size w wr ∧ ls.length = n ∧
  ((n ≤ 6 ∧ g = r ∧ cap = 6 ∧ (∀ j, j < 18 → (wr.cell? ⟨r, j, none⟩).isSome = true ∧ wr.frozen? ⟨r, j, none⟩ = false) ∧ ∃ rows, (∀ j u, (tri rows)[j]? = some u → wr.cell? ⟨r, j, none⟩ = some u) ∧ Rows wr r rows ls) ∨
   (7 ≤ n ∧ ∃ xs, wr.ownsRow w.heap.size 78 3 (.slice (some ⟨g, 0, none⟩) n cap) n xs))
theorem frozen_keep {w w' : World} {b i : Nat} (h : w'.heap[b]? = w.heap[b]?) : w'.frozen? ⟨b, i, none⟩ = w.frozen? ⟨b, i, none⟩ := by
  simp only [World.frozen?, h]
theorem FA.below {w wr w' : World} {r g n cap : Nat} {ls : List SLine} (h : FA w wr r g n cap ls) (hb : Below wr.heap.size wr w') : FA w w' r g n cap ls := by
  obtain ⟨h1, h2, h3, h4, h5⟩ := h
  refine ⟨h1, Nat.lt_of_lt_of_le h2 hb.size, h3.trans (hb.mono h3.size), h4, ?_⟩
  rcases h5 with ⟨a1, a2, a3, a4, rows, a5, a6⟩ | ⟨b1, xs, b2⟩
  · have hk := hb.block r h2
    refine .inl ⟨a1, a2, a3, fun j hj => ?_, rows, fun j u hu => (cell_keep hk).trans (a5 j u hu), a6.1, fun j row x e1 e2 => (a6.2 j row x e1 e2).below hb⟩
    rw [cell_keep hk, frozen_keep hk]
    exact a4 j hj
  · exact .inr ⟨b1, xs, owns_below' b2 hb⟩

theorem FA.app {w wr : World} {r g n cap : Nat} {ls : List SLine} {row : Value × Value × Value} {x : SLine} (ty : TypeId) (h : FA w wr r g n cap ls) (hx : RowOk wr r row x) (hn : n ≤ 100000) :
    ∃ g' cap' w', (Builtin.append_ #[51, 51] ty #[.slice (some ⟨g, 0, none⟩) n cap, .slice (some ⟨wr.heap.size, 0, none⟩) 1 1]).run Tryd.prog (wr.alloc (.cells #[row.1, row.2.1, row.2.2] 78)) = .ok (.slice (some ⟨g', 0, none⟩) (n + 1) cap') w' ∧ FA w w' r g' (n + 1) cap' (ls ++ [x]) := by
  obtain ⟨i0, hi, hi0, hi1, hi2⟩ := info_parts infoLine
  have hb0 : Below wr.heap.size wr (wr.alloc (.cells #[row.1, row.2.1, row.2.2] 78)) := box_of
  have hnews : ∀ j u, [row.1, row.2.1, row.2.2][j]? = some u → (wr.alloc (.cells #[row.1, row.2.1, row.2.2] 78)).cell? ((⟨wr.heap.size, 0, none⟩ : Addr).add j) = some u := by
    intro j u hj
    obtain ⟨g0, g1, g2⟩ := box3_cells (w := wr) (a := row.1) (b := row.2.1) (c := row.2.2) (t := 78)
    rw [adds]
    match j, hj with
    | 0, hj => simp at hj; subst hj; exact g0
    | 1, hj => simp at hj; subst hj; exact g1
    | 2, hj => simp at hj; subst hj; exact g2
  have h' := h.below hb0
  have hx' := hx.below hb0
  have hrne : r ≠ wr.heap.size := by have := h.2.1; omega
  generalize hw7 : wr.alloc (.cells #[row.1, row.2.1, row.2.2] 78) = w7 at *
  obtain ⟨h1, h2, h3, h4, h5⟩ := h'
  rcases h5 with ⟨a1, rfl, rfl, a4, rows, a5, a6⟩ | ⟨b1, xs, b2⟩
  · have hrl : rows.length = n := by rw [a6.1, h4]
    by_cases hlt : n < 6
    · have hs : Src Tryd.prog i0.size 51 (.slice (some ⟨wr.heap.size, 0, none⟩) 1 1) 1 [row.1, row.2.1, row.2.2] w7 := Src.ofSlice w7 Tryd.underlying51 _ 1 1 _ (by rw [hi1]; rfl) hnews hx.one
      have hrun := run_append_room_src w7 51 51 ty 78 i0 Tryd.underlying51 hi g 0 n 6 (.slice (some ⟨wr.heap.size, 0, none⟩) 1 1) 1 [row.1, row.2.1, row.2.2] hs (by omega)
        (fun j hj => by
          rw [hi1]
          simp at hj
          exact (a4 (0 + n * 3 + j) (by omega)).1)
        (fun j hj => by
          rw [hi1]
          simp at hj
          exact (a4 (0 + n * 3 + j) (by omega)).2)
      refine ⟨g, 6, _, hrun, h1, ?_, below_setCells g h1 _ _ _ h3, by simp [h4], .inl ⟨by omega, rfl, rfl, fun j hj => ?_, rows ++ [row], ?_, ?_⟩⟩
      · have : g < (w7.setCells g (0 + n * i0.size) [row.1, row.2.1, row.2.2]).heap.size := Nat.lt_of_lt_of_le h2 (below_setCells (B := 0) g (Nat.zero_le _) _ _ _ (Below.refl 0 w7)).size
        exact this
      · rw [World.frozen?_setCells]
        refine ⟨?_, (a4 j hj).2⟩
        by_cases hin : n * 3 ≤ j ∧ j < n * 3 + 3
        · have e := World.cell?_setCells_in g [row.1, row.2.1, row.2.2] (0 + n * i0.size) w7 (fun q hq => by
            rw [hi1]
            simp at hq
            exact (a4 (0 + n * 3 + q) (by omega)).1) (j - n * 3) (by simp; omega)
          rw [hi1] at e ⊢
          rw [show 0 + n * 3 + (j - n * 3) = j by omega] at e
          rw [e]; rfl
        · rw [World.cell?_setCells_out g _ _ _ ⟨g, j, none⟩ (fun _ _ => by
            show j < _ ∨ _
            rw [hi1]
            simp
            omega)]
          exact (a4 j hj).1
      · intro j u hu
        rw [tri_app] at hu
        by_cases hj : j < n * 3
        · rw [List.getElem?_append_left (by rw [tri_length, hrl]; exact hj)] at hu
          rw [World.cell?_setCells_out g _ _ _ ⟨g, j, none⟩ (fun _ _ => by
            show j < _ ∨ _
            rw [hi1]
            left; omega)]
          exact a5 j u hu
        · rw [List.getElem?_append_right (by rw [tri_length, hrl]; omega), tri_length, hrl] at hu
          obtain ⟨hjl, hju⟩ := List.getElem?_eq_some_iff.1 hu
          have e := World.cell?_setCells_in g [row.1, row.2.1, row.2.2] (0 + n * i0.size) w7 (fun q hq => by
            rw [hi1]
            simp at hq
            exact (a4 (0 + n * 3 + q) (by omega)).1) (j - n * 3) hjl
          rw [hi1] at e ⊢
          rw [show 0 + n * 3 + (j - n * 3) = j by omega] at e
          rw [e, hju]
      · refine Rows.app ⟨a6.1, fun j a b ha hb => (a6.2 j a b ha hb).keep (fun k hk => ?_)⟩ (hx'.keep (fun k hk => ?_))
        · exact heap_setCells g _ _ _ k hk
        · exact heap_setCells g _ _ _ k hk
    · obtain rfl : n = 6 := by omega
      have hrun := run_append_grow w7 51 ty 78 i0 _ Tryd.underlying51 hi hi0 ⟨g, 0, none⟩ 6 6 (tri rows) (by rw [tri_length, hrl, hi1]) (fun j v hj => by rw [adds, Nat.zero_add]; exact a5 j v hj) ⟨wr.heap.size, 0, none⟩ 1 1 [row.1, row.2.1, row.2.2] (by rw [hi1]; rfl) hnews (by omega) (by decide) (by rw [hi2]; decide)
      have hge := grownCap_ge w7 (6 + 1) 6 78
      have hle := grownCap_le_maxLen w7 (6 + 1) 6 78 (by simp [maxLen])
      refine ⟨_, _, _, hrun, h1, ?_, ?_, by simp [h4], .inr ⟨by omega, _, ?_, .inr ⟨_, _, _, rfl, h3.size, heap_alloc_new w7.drew _, hge, hle, ?_, rfl⟩⟩⟩
      · simp; exact Nat.lt_succ_of_lt h2
      · exact (Below.drew h3).alloc h3.size _
      · simp [tri_length, hrl]
        omega
      · have h3c : (Value.agg #[Value.slice none 0 0, Value.slice none 0 0, Value.string ⟨#[]⟩]).cells.size = 3 := rfl
        have hge7 : 7 ≤ grownCap w7 7 6 78 := hge
        have hs : (tri rows).length = 18 := by rw [tri_length, hrl]
        show (((tri rows).toArray ++ [row.1, row.2.1, row.2.2].toArray) ++ Builtin.zeroCells _ (grownCap w7 7 6 78 - 7)).size = grownCap w7 7 6 78 * 3
        rw [Array.size_append, Array.size_append, size_zeroCells, h3c, List.size_toArray, List.size_toArray, hs]
        show 18 + 3 + _ = _
        omega
  · obtain ⟨v', w', hrun, hown, hg, _⟩ := run_append_own w7 w.heap.size 51 ty 78 i0 _ 3 64 Tryd.underlying51 hi hi0 hi1 hi2 rfl (by decide) _ n xs b2 ⟨wr.heap.size, 0, none⟩ 1 1 [row.1, row.2.1, row.2.2] rfl hnews hx.one (by unfold maxLen; omega) (by omega) h3.size
    obtain ⟨g', cap', rfl⟩ := owns_form hown (by omega)
    exact ⟨g', cap', w', hrun, h1, Nat.lt_of_lt_of_le h2 hg.size, h3.grown hg h3.size (fun k hk => (b2.lt k hk).1), by simp [h4], .inr ⟨by omega, _, hown⟩⟩
end Go.Proofs.YtdfnnhcooliheaaDoor
