/- Files in a row of one's own: no walk. -/
import Derived.Test.YtkifihcficobnabFRead
import Derived.Laws.AppendOwn
import Derived.Laws.OwnMore
import Derived.Laws.CopyRow
import Derived.Deep.Slices
namespace Go.Gs
open Go.RowKit
set_option linter.unusedVariables false

/-- A file and its slice of bytes. -/
abbrev FRow := SFile × (Option Addr × Nat × Nat)
def encF (x : FRow) : List Value := [.string ⟨x.1.name.toArray⟩, .slice x.2.1 x.2.2.1 x.2.2.2]
def rowCells (out : List FRow) : List Value := (out.map encF).flatten
theorem rowCells_app (out : List FRow) (r : FRow) : rowCells (out ++ [r]) = rowCells out ++ encF r := by simp [rowCells]
theorem rowCells_append (a b : List FRow) : rowCells (a ++ b) = rowCells a ++ rowCells b := by simp [rowCells]
theorem rowCells_cons (out : List FRow) (r : FRow) : rowCells (r :: out) = encF r ++ rowCells out := by simp [rowCells]
theorem rowCells_length (out : List FRow) : (rowCells out).length = out.length * 2 := by
  induction out with
  | nil => rfl
  | cons r l ih =>
    rw [rowCells_cons, List.length_append, ih]
    simp [encF]
    omega
theorem rowCells_at : ∀ (out : List FRow) (j : Nat) (r : FRow), out[j]? = some r → (rowCells out)[j * 2]? = some (.string ⟨r.1.name.toArray⟩) ∧ (rowCells out)[j * 2 + 1]? = some (.slice r.2.1 r.2.2.1 r.2.2.2)
  | [], j, r, h => by simp at h
  | d :: l, 0, r, h => by
    simp at h; subst h
    simp [rowCells, encF]
  | d :: l, j + 1, r, h => by
    have ih := rowCells_at l j r (by simpa using h)
    rw [rowCells_cons]
    refine ⟨?_, ?_⟩
    · rw [List.getElem?_append_right (by simp [encF]; omega), show (j + 1) * 2 - (encF d).length = j * 2 by simp [encF]; omega]
      exact ih.1
    · rw [List.getElem?_append_right (by simp [encF]; omega), show (j + 1) * 2 + 1 - (encF d).length = j * 2 + 1 by simp [encF]; omega]
      exact ih.2
theorem rowCells_take : ∀ (out : List FRow) (i : Nat), (rowCells out).take (i * 2) = rowCells (out.take i)
  | [], i => by simp [rowCells]
  | d :: l, 0 => by simp [rowCells]
  | d :: l, i + 1 => by
    rw [List.take_succ_cons, rowCells_cons, rowCells_cons, List.take_append, show (encF d).length = 2 from rfl, show (i + 1) * 2 - 2 = i * 2 by omega, rowCells_take l i, List.take_of_length_le (by simp [encF]; omega)]
theorem rowCells_drop (out : List FRow) (i : Nat) (hi : i ≤ out.length) : (rowCells out).drop (i * 2) = rowCells (out.drop i) := by
  have h := List.take_append_drop (i * 2) (rowCells out)
  have h2 : rowCells out = rowCells (out.take i) ++ rowCells (out.drop i) := by rw [← rowCells_append, List.take_append_drop]
  have hl : (rowCells (out.take i)).length = i * 2 := by rw [rowCells_length, List.length_take, Nat.min_eq_left hi]
  conv => lhs; rw [h2]
  rw [List.drop_append, hl, Nat.sub_self, List.drop_zero, List.drop_of_length_le (by omega), List.nil_append]
theorem encF_one (r : FRow) : ∀ u ∈ encF r, u.oneCell' = true := by
  intro u hu
  simp [encF] at hu
  rcases hu with rfl | rfl <;> rfl
theorem rowCells_one (out : List FRow) : ∀ u ∈ rowCells out, u.oneCell' = true := by
  intro u hu
  unfold rowCells at hu
  rw [List.mem_flatten] at hu
  obtain ⟨l, hl, hul⟩ := hu
  obtain ⟨r, _, rfl⟩ := List.mem_map.1 hl
  exact encF_one r u hul
theorem rowCells_set : ∀ (out : List FRow) (j : Nat) (r r' : FRow), out[j]? = some r → r'.1.name = r.1.name → rowCells (out.set j r') = (rowCells out).set (j * 2 + 1) (.slice r'.2.1 r'.2.2.1 r'.2.2.2)
  | [], j, r, r', h, _ => by simp at h
  | d :: l, 0, r, r', h, hn => by
    simp at h; subst h
    simp [rowCells, encF, hn]
  | d :: l, j + 1, r, r', h, hn => by
    rw [List.set_cons_succ, rowCells_cons, rowCells_cons, rowCells_set l j r r' (by simpa using h) hn, List.set_append_right _ _ (by simp [encF]; omega), show (j + 1) * 2 + 1 - (encF d).length = j * 2 + 1 by simp [encF]; omega]
/-- The rows of files that can be read. -/
theorem rows_of {w : World} {ao : Option Addr} {n cap : Nat} {fs : List SFile} (h : RFiles w (.slice ao n cap) fs) : ∃ rows : List FRow, rows.map (·.1) = fs ∧ ∀ (j : Nat) (r : FRow), rows[j]? = some r →
    (∃ b off, ao = some ⟨b, off, none⟩ ∧ w.cell? ⟨b, off + j * 2, none⟩ = some (.string ⟨r.1.name.toArray⟩) ∧ w.cell? ⟨b, off + j * 2 + 1, none⟩ = some (.slice r.2.1 r.2.2.1 r.2.2.2)) ∧ r.2.2.1 = r.1.b.length ∧ Reads w (.slice r.2.1 r.2.2.1 r.2.2.2) r.1.b.length (r.1.b.map U) := by
  have each : ∀ i, i < fs.length → ∃ r : FRow, fs[i]? = some r.1 ∧ (∃ b off, ao = some ⟨b, off, none⟩ ∧ w.cell? ⟨b, off + i * 2, none⟩ = some (.string ⟨r.1.name.toArray⟩) ∧ w.cell? ⟨b, off + i * 2 + 1, none⟩ = some (.slice r.2.1 r.2.2.1 r.2.2.2)) ∧ r.2.2.1 = r.1.b.length ∧ Reads w (.slice r.2.1 r.2.2.1 r.2.2.2) r.1.b.length (r.1.b.map U) := by
    intro i hi
    have hf : fs[i]? = some fs[i] := List.getElem?_eq_getElem hi
    obtain ⟨b, off, ab, cb, e1, e2, e3, e4⟩ := h.at hf
    exact ⟨(fs[i], ab, fs[i].b.length, cb), hf, ⟨b, off, e1, e2, e3⟩, rfl, e4⟩
  haveI : Inhabited SFile := ⟨⟨[], []⟩⟩
  obtain ⟨Y, hY⟩ := Deep.choose_lt each
  refine ⟨(List.range fs.length).map Y, ?_, ?_⟩
  · apply List.ext_getElem?
    intro i
    by_cases hi : i < fs.length
    · rw [List.getElem?_map, List.getElem?_map, List.getElem?_range hi]
      exact (hY i hi).1.symm
    · rw [List.getElem?_eq_none (by simp; omega), List.getElem?_eq_none (by omega)]
  · intro j r hj
    rw [List.getElem?_map] at hj
    by_cases hi : j < fs.length
    · rw [List.getElem?_range hi] at hj
      simp only [Option.map_some, Option.some.injEq] at hj
      subst hj
      exact (hY j hi).2
    · rw [List.getElem?_eq_none (by simp; omega)] at hj
      cases hj
/-- The cells of files, one behind the other. -/
theorem rows_cells {w : World} {b off : Nat} : ∀ {rows : List FRow}, (∀ (j : Nat) (r : FRow), rows[j]? = some r → w.cell? ⟨b, off + j * 2, none⟩ = some (.string ⟨r.1.name.toArray⟩) ∧ w.cell? ⟨b, off + j * 2 + 1, none⟩ = some (.slice r.2.1 r.2.2.1 r.2.2.2)) → ∀ j u, (rowCells rows)[j]? = some u → w.cell? ⟨b, off + j, none⟩ = some u := by
  intro rows h j u hu
  have hl : j < (rowCells rows).length := (List.getElem?_eq_some_iff.1 hu).1
  rw [rowCells_length] at hl
  have hq : rows[j / 2]? = some (rows[j / 2]'(by omega)) := List.getElem?_eq_getElem _
  obtain ⟨a1, a2⟩ := rowCells_at rows (j / 2) _ hq
  obtain ⟨b1, b2⟩ := h (j / 2) _ hq
  rcases Nat.mod_two_eq_zero_or_one j with hm | hm
  · have e : j = j / 2 * 2 := by omega
    rw [← e] at a1 b1
    rw [a1] at hu
    rw [b1, hu]
  · have e : j = j / 2 * 2 + 1 := by omega
    rw [← e] at a2
    rw [Nat.add_assoc, ← e] at b2
    rw [a2] at hu
    rw [b2, hu]

/-- A row whose bytes can be read, not in block g. -/
def GoodO (w : World) (go : Option Nat) (r : FRow) : Prop := r.2.2.1 = r.1.b.length ∧ Reads w (.slice r.2.1 r.2.2.1 r.2.2.2) r.1.b.length (r.1.b.map U) ∧ (r.1.b.length ≠ 0 → ∀ a, r.2.1 = some a → go ≠ some a.block)
/-- Reads looks at its own block alone. -/
theorem reads_keepO {w w' : World} {ao : Option Addr} {n m cap : Nat} {xs : List Value} (h : Reads w (.slice ao n cap) m xs) (hk : ∀ a, ao = some a → w'.heap[a.block]? = w.heap[a.block]?) : Reads w' (.slice ao n cap) m xs := by
  obtain ⟨h1, ao', cap', e, h2, h3, h4⟩ := h
  injection e with e1 e2 e3
  subst e1 e2 e3
  refine ⟨h1, ao, cap, rfl, h2, h3, fun hn => ?_⟩
  obtain ⟨b, off, rfl, hc⟩ := h4 hn
  refine ⟨b, off, rfl, fun j u hu => ?_⟩
  have e := hk _ rfl
  have := hc j u hu
  simp only [World.cell?] at this ⊢
  rw [e]; exact this
theorem GoodO.keep {w w' : World} {go : Option Nat} {r : FRow} (h : GoodO w go r) (hk : ∀ k, k < w.heap.size → go ≠ some k → w'.heap[k]? = w.heap[k]?) : GoodO w' go r := by
  refine ⟨h.1, ?_, h.2.2⟩
  by_cases h0 : r.1.b.length = 0
  · obtain ⟨h1, ao, cap, e, h2, h3, h4⟩ := h.2.1
    exact ⟨h1, ao, cap, e, h2, h3, fun hn => absurd h0 hn⟩
  · refine reads_keepO h.2.1 (fun a ha => hk _ ?_ (h.2.2 h0 a ha))
    obtain ⟨h1, ao, cap, e, h2, h3, h4⟩ := h.2.1
    obtain ⟨b, off, rfl, hc⟩ := h4 h0
    injection e with e1 e2 e3
    rw [e1] at ha
    injection ha with ha
    subst ha
    have hl : 0 < (r.1.b.map U).length := by rw [h1]; omega
    exact World.block_lt_of_cell? w _ (hc 0 _ (List.getElem?_eq_getElem hl))
/-- Files in a row of one's own. -/
structure FO (w : World) (B : Nat) (e : TypeId) (v : Value) (rows : List FRow) : Prop where
  own : w.ownsRow B e 2 v rows.length (rowCells rows)
  good : ∀ r ∈ rows, GoodO w v.ownBlock r
theorem FO.below {w w' : World} {B : Nat} {e : TypeId} {v : Value} {rows : List FRow} (h : FO w B e v rows) (hb : Below w.heap.size w w') : FO w' B e v rows :=
  ⟨h.own.kept (row := none) ⟨hb.os, hb.tape, hb.output, hb.size, fun k hk _ => hb.block k hk⟩ (by cases hv : v.ownBlock <;> simp), fun r hr => (h.good r hr).keep (fun k hk _ => hb.block k hk)⟩
theorem FO.shape {w : World} {B : Nat} {e : TypeId} {v : Value} {rows : List FRow} (h : FO w B e v rows) : ∃ ao cap, v = .slice ao rows.length cap ∧ rows.length ≤ cap ∧ cap ≤ maxLen := by
  rcases h.own.2 with ⟨rfl, h0⟩ | ⟨g, cap, cur, rfl, _, _, h1, h2, _⟩
  · exact ⟨none, 0, by rw [h0], by omega, by simp [maxLen]⟩
  · exact ⟨_, cap, rfl, h1, h2⟩
theorem FO.form {w : World} {B : Nat} {e : TypeId} {v : Value} {rows : List FRow} (h : FO w B e v rows) (hn : rows.length ≠ 0) : ∃ g cap, v = .slice (some ⟨g, 0, none⟩) rows.length cap ∧ B ≤ g := by
  rcases h.own.2 with ⟨rfl, h0⟩ | ⟨g, cap, cur, rfl, hb, _, h1, h2, _⟩
  · exact absurd h0 hn
  · exact ⟨g, cap, rfl, hb⟩
theorem FO.files {w : World} {B : Nat} {e : TypeId} {v : Value} {rows : List FRow} (h : FO w B e v rows) : RFiles w v (rows.map (·.1)) := by
  have hl : (rows.map (·.1)).length = rows.length := List.length_map _
  rcases h.own.2 with ⟨rfl, h0⟩ | ⟨g, cap, cur, rfl, hb, hg, h1, h2, h3, h4⟩
  · exact ⟨none, 0, by rw [hl, h0], by omega, by simp [maxLen], fun hn => absurd (hl.trans h0) hn⟩
  · refine ⟨_, cap, by rw [hl], by omega, h2, fun _ => ⟨g, 0, rfl, fun j f hj => ?_⟩⟩
    rw [List.getElem?_map] at hj
    cases hr : rows[j]? with
    | none => rw [hr] at hj; cases hj
    | some r =>
      rw [hr] at hj
      simp only [Option.map_some, Option.some.injEq] at hj
      subst hj
      obtain ⟨a1, a2⟩ := rowCells_at rows j r hr
      have hjl : j < rows.length := (List.getElem?_eq_some_iff.1 hr).1
      have c1 := h.own.cellAt (j * 2) (by omega)
      have c2 := h.own.cellAt (j * 2 + 1) (by omega)
      rw [a1] at c1
      rw [a2] at c2
      exact ⟨_, by rw [Nat.zero_add]; exact c1, by rw [Nat.zero_add]; exact c2, (h.good r (List.mem_of_getElem? hr)).2.1⟩
/-- A row of one's own behind a change of one of its cells. -/
theorem owns_set {w : World} {B : Nat} {e : TypeId} {size g n cap : Nat} {xs : List Value} (h : w.ownsRow B e size (.slice (some ⟨g, 0, none⟩) n cap) n xs) (j : Nat) (hj : j < n * size) (u : Value) : (w.setCell ⟨g, j, none⟩ u).ownsRow B e size (.slice (some ⟨g, 0, none⟩) n cap) n (xs.set j u) := by
  obtain ⟨h1, h2⟩ := h
  refine ⟨by rw [List.length_set]; exact h1, ?_⟩
  rcases h2 with ⟨h2, _⟩ | ⟨g', cap', cur, h2, hb, hg, h3, h4, h5, h6⟩
  · cases h2
  · injection h2 with e1 e2 e3
    injection e1 with e1
    injection e1 with e1
    subst e1 e3
    refine .inr ⟨g, cap, cur.setIfInBounds j u, rfl, hb, ?_, h3, h4, by simpa using h5, ?_⟩
    · rw [setCell_eq_setRow w g j cur e (0, 0) u hg]
      exact setRow_heap w g cur _ e _ hg
    · rw [Array.toList_setIfInBounds, List.take_set, h6]
theorem FO.set {w : World} {B : Nat} {e : TypeId} {g n cap : Nat} {rows : List FRow} (h : FO w B e (.slice (some ⟨g, 0, none⟩) n cap) rows) {k : Nat} {r r' : FRow} (hk : rows[k]? = some r) (hn : r'.1.name = r.1.name) (hr : GoodO w (some g) r') :
    FO (w.setCell ⟨g, k * 2 + 1, none⟩ (.slice r'.2.1 r'.2.2.1 r'.2.2.2)) B e (.slice (some ⟨g, 0, none⟩) n cap) (rows.set k r') := by
  have hkl : k < rows.length := (List.getElem?_eq_some_iff.1 hk).1
  have hnn : n = rows.length := by
    rcases h.own.2 with ⟨h2, _⟩ | ⟨_, _, _, h2, _⟩
    · cases h2
    · injection h2
  subst hnn
  refine ⟨?_, fun x hx => ?_⟩
  · rw [List.length_set, rowCells_set rows k r r' hk hn]
    exact owns_set h.own _ (by omega) _
  · have hkeep : ∀ q, q < w.heap.size → some g ≠ some q → (w.setCell ⟨g, k * 2 + 1, none⟩ (.slice r'.2.1 r'.2.2.1 r'.2.2.2)).heap[q]? = w.heap[q]? := fun q _ hq => Below.heap_setCell _ _ _ _ (fun e => hq (by rw [e]))
    rcases List.mem_or_eq_of_mem_set hx with hx | rfl
    · exact (h.good x hx).keep hkeep
    · exact hr.keep hkeep
end Go.Gs
