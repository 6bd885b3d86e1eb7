/- Files and what a script makes of them, plainly: no walk. Slices of files that can be read: no walk. Files in a row of one's own: no walk. copy at elements of several cells; the cells behind an insertion: no walk. What is put is got; a script in two runs; commands in two lines: no walk. Where a file is, or would have to be, plainly: no walk. What is gathered, at once, plainly: no walk. What the closed script makes, plainly: no walk. -/
import Derived.Test.YtdmdbilbcandcabGreatDoorScriptPlain
import Derived.Test.YtdmdbilbcandcabGreatDoorCmdMade
import Derived.Test.YtdmdbilbcandcabGreatDoorSRead
import Derived.Laws.AppendOwn
import Derived.Laws.OwnMore
import Derived.Laws.CopyRow
import Derived.Deep.Slices
import Derived.Test.YtdmdbilbcandcabGreatDoorScriptMath
import Derived.Test.YtdmdbilbcandcabGreatDoorCmdMath
namespace Go.Gs
open Go.RowKit
set_option linter.unusedVariables false

structure SFile where
  name : List UInt8
  b : List UInt8

/-- CheckFiles' error of a file behind the one of that name. -/
def fbad (p : Option (List UInt8)) (f : SFile) : Int :=
  if isWord f.name = false then 1
  else if 4000 < f.b.length then 2
  else match p with
    | none => 0
    | some q => if q < f.name then 0 else 6
def fchkFrom : Option (List UInt8) → List SFile → Int
  | _, [] => 0
  | p, f :: r => if fbad p f = 0 then fchkFrom (some f.name) r else fbad p f
/-- CheckFiles. -/
def fchk (l : List SFile) : Int := if 12 < l.length then 2 else fchkFrom none l
/-- The bytes of a file; none, if it isn't there. -/
def fileOf (l : List SFile) (n : List UInt8) : List UInt8 := ((l.find? (fun f => f.name == n)).map SFile.b).getD []
def putF : List SFile → List UInt8 → List UInt8 → List SFile
  | [], n, b => [⟨n, b⟩]
  | f :: r, n, b => if f.name = n then ⟨n, b⟩ :: r else if n < f.name then ⟨n, b⟩ :: f :: r else f :: putF r n b
/-- Put into right files. -/
def putS (l : List SFile) (n b : List UInt8) : List SFile × Int :=
  if isWord n = false then ([], 1)
  else if 4000 < b.length then ([], 2)
  else if 12 < (putF l n b).length then ([], 2)
  else (putF l n b, 0)
def gatherL (l : List SFile) : List (List UInt8) → List UInt8 → List UInt8 × Int
  | [], acc => (acc, 0)
  | s :: r, acc => if 4000 < (acc ++ ended (lines (fileOf l s))).length then ([], 2) else gatherL l r (acc ++ ended (lines (fileOf l s)))
/-- Gather of right files. -/
def gather (l : List SFile) (fr : List (List UInt8)) : List UInt8 × Int := if 4 < fr.length then ([], 2) else gatherL l fr []
def doAll (cs : List Cmd) (b : List UInt8) : List UInt8 := cs.foldl (fun b c => ended (made c (lines b))) b
/-- Line of right files and a right line. -/
def lineOf (l : List SFile) (x : SLine) : List UInt8 × Int := if (gather l x.fr).2 = 0 then (doAll x.cs (gather l x.fr).1, 0) else ([], (gather l x.fr).2)
/-- Run of right files and a right script. -/
def runL : List SFile → List SLine → List SFile × Int
  | l, [] => (l, 0)
  | l, x :: r => if (lineOf l x).2 = 0 then (if (putS l x.to (lineOf l x).1).2 = 0 then runL (putS l x.to (lineOf l x).1).1 r else ([], (putS l x.to (lineOf l x).1).2)) else ([], (lineOf l x).2)
def runS (l : List SFile) (s : List SLine) : List SFile × Int := if fchk l = 0 then (if schk s = 0 then runL l s else ([], schk s)) else ([], fchk l)
end Go.Gs
namespace Go.Gs
open Go.RowKit
set_option linter.unusedVariables false

/-- 'v' is a slice of files; they read as 'fs'. -/
def RFiles (w : World) (v : Value) (fs : List SFile) : Prop :=
  ∃ ao cap, v = .slice ao fs.length cap ∧ fs.length ≤ cap ∧ cap ≤ maxLen ∧
    (fs.length ≠ 0 → ∃ b off, ao = some ⟨b, off, none⟩ ∧ ∀ j f, fs[j]? = some f → ∃ vb, w.cell? ⟨b, off + j * 2, none⟩ = some (.string ⟨f.name.toArray⟩) ∧ w.cell? ⟨b, off + j * 2 + 1, none⟩ = some vb ∧ Reads w vb f.b.length (f.b.map U))
theorem RFiles.below {w w' : World} {v : Value} {fs : List SFile} (h : RFiles w v fs) (hb : Below w.heap.size w w') : RFiles w' v fs := by
  obtain ⟨ao, cap, rfl, h2, h3, h4⟩ := h
  refine ⟨ao, cap, rfl, h2, h3, fun hn => ?_⟩
  obtain ⟨b, off, rfl, hc⟩ := h4 hn
  refine ⟨b, off, rfl, fun j c hj => ?_⟩
  obtain ⟨vb, a1, a2, a3⟩ := hc j c hj
  exact ⟨vb, (hb.cell (World.block_lt_of_cell? w _ a1)).trans a1, (hb.cell (World.block_lt_of_cell? w _ a2)).trans a2, a3.below hb⟩
theorem RFiles.shape {w : World} {v : Value} {fs : List SFile} (h : RFiles w v fs) : ∃ ao cap, v = .slice ao fs.length cap ∧ fs.length ≤ cap ∧ cap ≤ maxLen := by
  obtain ⟨ao, cap, h1, h2, h3, _⟩ := h
  exact ⟨ao, cap, h1, h2, h3⟩
theorem RFiles.at {w : World} {ao : Option Addr} {n cap : Nat} {fs : List SFile} (h : RFiles w (.slice ao n cap) fs) {k : Nat} {f : SFile} (hk : fs[k]? = some f) :
    ∃ b off ab cb, ao = some ⟨b, off, none⟩ ∧ w.cell? ⟨b, off + k * 2, none⟩ = some (.string ⟨f.name.toArray⟩) ∧ w.cell? ⟨b, off + k * 2 + 1, none⟩ = some (.slice ab f.b.length cb) ∧ Reads w (.slice ab f.b.length cb) f.b.length (f.b.map U) := by
  obtain ⟨ao', cap', e, _, _, h5⟩ := h
  injection e with e1 e2 e3
  subst e1
  obtain ⟨hkl, _⟩ := List.getElem?_eq_some_iff.1 hk
  obtain ⟨b, off, hao, hc⟩ := h5 (by omega)
  obtain ⟨vb, a1, a2, a3⟩ := hc k f hk
  obtain ⟨ab, cb, rfl, _, _⟩ := a3.shape
  exact ⟨b, off, ab, cb, hao, a1, a2, a3⟩
theorem rfiles_le {w : World} {ao : Option Addr} {n cap : Nat} {fs : List SFile} (h : RFiles w (.slice ao n cap) fs) : n ≤ cap ∧ cap ≤ 9223372036854775807 := by
  obtain ⟨_, c, e, h1, h2⟩ := h.shape
  unfold maxLen at h2
  injection e with e1 e2 e3
  omega
/-- Names that Go can hold. -/
def FitsF (f : SFile) : Prop := f.name.length ≤ 9223372036854775807
end Go.Gs
namespace Go.Gs
open Go.RowKit
set_option linter.unusedVariables false

/-- A file and its slice of bytes. -/
abbrev FRow := SFile × (Option Addr × Nat × Nat)
def encF (x : FRow) : List Value := [.string ⟨x.1.name.toArray⟩, .slice x.2.1 x.2.2.1 x.2.2.2]
def rowCells (out : List FRow) : List Value := (out.map encF).flatten
theorem rowCells_app (out : List FRow) (r : FRow) : rowCells (out ++ [r]) = rowCells out ++ encF r := by simp [rowCells]
theorem rowCells_append (a b : List FRow) : rowCells (a ++ b) = rowCells a ++ rowCells b := by simp [rowCells]
theorem rowCells_cons (out : List FRow) (r : FRow) : rowCells (r :: out) = encF r ++ rowCells out := by simp [rowCells]
theorem rowCells_length (out : List FRow) : (rowCells out).length = out.length * 2 := by
  induction out with
  | nil => rfl
  | cons r l ih =>
    rw [rowCells_cons, List.length_append, ih]
    simp [encF]
    omega
theorem rowCells_at : ∀ (out : List FRow) (j : Nat) (r : FRow), out[j]? = some r → (rowCells out)[j * 2]? = some (.string ⟨r.1.name.toArray⟩) ∧ (rowCells out)[j * 2 + 1]? = some (.slice r.2.1 r.2.2.1 r.2.2.2)
  | [], j, r, h => by simp at h
  | d :: l, 0, r, h => by
    simp at h; subst h
    simp [rowCells, encF]
  | d :: l, j + 1, r, h => by
    have ih := rowCells_at l j r (by simpa using h)
    rw [rowCells_cons]
    refine ⟨?_, ?_⟩
    · rw [List.getElem?_append_right (by simp [encF]; omega), show (j + 1) * 2 - (encF d).length = j * 2 by simp [encF]; omega]
      exact ih.1
    · rw [List.getElem?_append_right (by simp [encF]; omega), show (j + 1) * 2 + 1 - (encF d).length = j * 2 + 1 by simp [encF]; omega]
      exact ih.2
theorem rowCells_take : ∀ (out : List FRow) (i : Nat), (rowCells out).take (i * 2) = rowCells (out.take i)
  | [], i => by simp [rowCells]
  | d :: l, 0 => by simp [rowCells]
  | d :: l, i + 1 => by
    rw [List.take_succ_cons, rowCells_cons, rowCells_cons, List.take_append, show (encF d).length = 2 from rfl, show (i + 1) * 2 - 2 = i * 2 by omega, rowCells_take l i, List.take_of_length_le (by simp [encF]; omega)]
theorem rowCells_drop (out : List FRow) (i : Nat) (hi : i ≤ out.length) : (rowCells out).drop (i * 2) = rowCells (out.drop i) := by
  have h := List.take_append_drop (i * 2) (rowCells out)
  have h2 : rowCells out = rowCells (out.take i) ++ rowCells (out.drop i) := by rw [← rowCells_append, List.take_append_drop]
  have hl : (rowCells (out.take i)).length = i * 2 := by rw [rowCells_length, List.length_take, Nat.min_eq_left hi]
  conv => lhs; rw [h2]
  rw [List.drop_append, hl, Nat.sub_self, List.drop_zero, List.drop_of_length_le (by omega), List.nil_append]
theorem encF_one (r : FRow) : ∀ u ∈ encF r, u.oneCell' = true := by
  intro u hu
  simp [encF] at hu
  rcases hu with rfl | rfl <;> rfl
theorem rowCells_one (out : List FRow) : ∀ u ∈ rowCells out, u.oneCell' = true := by
  intro u hu
  unfold rowCells at hu
  rw [List.mem_flatten] at hu
  obtain ⟨l, hl, hul⟩ := hu
  obtain ⟨r, _, rfl⟩ := List.mem_map.1 hl
  exact encF_one r u hul
theorem rowCells_set : ∀ (out : List FRow) (j : Nat) (r r' : FRow), out[j]? = some r → r'.1.name = r.1.name → rowCells (out.set j r') = (rowCells out).set (j * 2 + 1) (.slice r'.2.1 r'.2.2.1 r'.2.2.2)
  | [], j, r, r', h, _ => by simp at h
  | d :: l, 0, r, r', h, hn => by
    simp at h; subst h
    simp [rowCells, encF, hn]
  | d :: l, j + 1, r, r', h, hn => by
    rw [List.set_cons_succ, rowCells_cons, rowCells_cons, rowCells_set l j r r' (by simpa using h) hn, List.set_append_right _ _ (by simp [encF]; omega), show (j + 1) * 2 + 1 - (encF d).length = j * 2 + 1 by simp [encF]; omega]
/-- The rows of files that can be read. -/
theorem rows_of {w : World} {ao : Option Addr} {n cap : Nat} {fs : List SFile} (h : RFiles w (.slice ao n cap) fs) : ∃ rows : List FRow, rows.map (·.1) = fs ∧ ∀ (j : Nat) (r : FRow), rows[j]? = some r →
    (∃ b off, ao = some ⟨b, off, none⟩ ∧ w.cell? ⟨b, off + j * 2, none⟩ = some (.string ⟨r.1.name.toArray⟩) ∧ w.cell? ⟨b, off + j * 2 + 1, none⟩ = some (.slice r.2.1 r.2.2.1 r.2.2.2)) ∧ r.2.2.1 = r.1.b.length ∧ Reads w (.slice r.2.1 r.2.2.1 r.2.2.2) r.1.b.length (r.1.b.map U) := by
  have each : ∀ i, i < fs.length → ∃ r : FRow, fs[i]? = some r.1 ∧ (∃ b off, ao = some ⟨b, off, none⟩ ∧ w.cell? ⟨b, off + i * 2, none⟩ = some (.string ⟨r.1.name.toArray⟩) ∧ w.cell? ⟨b, off + i * 2 + 1, none⟩ = some (.slice r.2.1 r.2.2.1 r.2.2.2)) ∧ r.2.2.1 = r.1.b.length ∧ Reads w (.slice r.2.1 r.2.2.1 r.2.2.2) r.1.b.length (r.1.b.map U) := by
    intro i hi
    have hf : fs[i]? = some fs[i] := List.getElem?_eq_getElem hi
    obtain ⟨b, off, ab, cb, e1, e2, e3, e4⟩ := h.at hf
    exact ⟨(fs[i], ab, fs[i].b.length, cb), hf, ⟨b, off, e1, e2, e3⟩, rfl, e4⟩
  haveI : Inhabited SFile := ⟨⟨[], []⟩⟩
  obtain ⟨Y, hY⟩ := Deep.choose_lt each
  refine ⟨(List.range fs.length).map Y, ?_, ?_⟩
  · apply List.ext_getElem?
    intro i
    by_cases hi : i < fs.length
    · rw [List.getElem?_map, List.getElem?_map, List.getElem?_range hi]
      exact (hY i hi).1.symm
    · rw [List.getElem?_eq_none (by simp; omega), List.getElem?_eq_none (by omega)]
  · intro j r hj
    rw [List.getElem?_map] at hj
    by_cases hi : j < fs.length
    · rw [List.getElem?_range hi] at hj
      simp only [Option.map_some, Option.some.injEq] at hj
      subst hj
      exact (hY j hi).2
    · rw [List.getElem?_eq_none (by simp; omega)] at hj
      cases hj
/-- The cells of files, one behind the other. -/
theorem rows_cells {w : World} {b off : Nat} : ∀ {rows : List FRow}, (∀ (j : Nat) (r : FRow), rows[j]? = some r → w.cell? ⟨b, off + j * 2, none⟩ = some (.string ⟨r.1.name.toArray⟩) ∧ w.cell? ⟨b, off + j * 2 + 1, none⟩ = some (.slice r.2.1 r.2.2.1 r.2.2.2)) → ∀ j u, (rowCells rows)[j]? = some u → w.cell? ⟨b, off + j, none⟩ = some u := by
  intro rows h j u hu
  have hl : j < (rowCells rows).length := (List.getElem?_eq_some_iff.1 hu).1
  rw [rowCells_length] at hl
  have hq : rows[j / 2]? = some (rows[j / 2]'(by omega)) := List.getElem?_eq_getElem _
  obtain ⟨a1, a2⟩ := rowCells_at rows (j / 2) _ hq
  obtain ⟨b1, b2⟩ := h (j / 2) _ hq
  rcases Nat.mod_two_eq_zero_or_one j with hm | hm
  · have e : j = j / 2 * 2 := by omega
    rw [← e] at a1 b1
    rw [a1] at hu
    rw [b1, hu]
  · have e : j = j / 2 * 2 + 1 := by omega
    rw [← e] at a2
    rw [Nat.add_assoc, ← e] at b2
    rw [a2] at hu
    rw [b2, hu]

/-- A row whose bytes can be read, not in block g. -/
def GoodO (w : World) (go : Option Nat) (r : FRow) : Prop := r.2.2.1 = r.1.b.length ∧ Reads w (.slice r.2.1 r.2.2.1 r.2.2.2) r.1.b.length (r.1.b.map U) ∧ (r.1.b.length ≠ 0 → ∀ a, r.2.1 = some a → go ≠ some a.block)
/-- Reads looks at its own block alone. -/
theorem reads_keepO {w w' : World} {ao : Option Addr} {n m cap : Nat} {xs : List Value} (h : Reads w (.slice ao n cap) m xs) (hk : ∀ a, ao = some a → w'.heap[a.block]? = w.heap[a.block]?) : Reads w' (.slice ao n cap) m xs := by
  obtain ⟨h1, ao', cap', e, h2, h3, h4⟩ := h
  injection e with e1 e2 e3
  subst e1 e2 e3
  refine ⟨h1, ao, cap, rfl, h2, h3, fun hn => ?_⟩
  obtain ⟨b, off, rfl, hc⟩ := h4 hn
  refine ⟨b, off, rfl, fun j u hu => ?_⟩
  have e := hk _ rfl
  have := hc j u hu
  simp only [World.cell?] at this ⊢
  rw [e]; exact this
theorem GoodO.keep {w w' : World} {go : Option Nat} {r : FRow} (h : GoodO w go r) (hk : ∀ k, k < w.heap.size → go ≠ some k → w'.heap[k]? = w.heap[k]?) : GoodO w' go r := by
  refine ⟨h.1, ?_, h.2.2⟩
  by_cases h0 : r.1.b.length = 0
  · obtain ⟨h1, ao, cap, e, h2, h3, h4⟩ := h.2.1
    exact ⟨h1, ao, cap, e, h2, h3, fun hn => absurd h0 hn⟩
  · refine reads_keepO h.2.1 (fun a ha => hk _ ?_ (h.2.2 h0 a ha))
    obtain ⟨h1, ao, cap, e, h2, h3, h4⟩ := h.2.1
    obtain ⟨b, off, rfl, hc⟩ := h4 h0
    injection e with e1 e2 e3
    rw [e1] at ha
    injection ha with ha
    subst ha
    have hl : 0 < (r.1.b.map U).length := by rw [h1]; omega
    exact World.block_lt_of_cell? w _ (hc 0 _ (List.getElem?_eq_getElem hl))
/-- Files in a row of one's own. -/
structure FO (w : World) (B : Nat) (e : TypeId) (v : Value) (rows : List FRow) : Prop where
  own : w.ownsRow B e 2 v rows.length (rowCells rows)
  good : ∀ r ∈ rows, GoodO w v.ownBlock r
theorem FO.below {w w' : World} {B : Nat} {e : TypeId} {v : Value} {rows : List FRow} (h : FO w B e v rows) (hb : Below w.heap.size w w') : FO w' B e v rows :=
  ⟨h.own.kept (row := none) ⟨hb.os, hb.tape, hb.output, hb.size, fun k hk _ => hb.block k hk⟩ (by cases hv : v.ownBlock <;> simp), fun r hr => (h.good r hr).keep (fun k hk _ => hb.block k hk)⟩
theorem FO.shape {w : World} {B : Nat} {e : TypeId} {v : Value} {rows : List FRow} (h : FO w B e v rows) : ∃ ao cap, v = .slice ao rows.length cap ∧ rows.length ≤ cap ∧ cap ≤ maxLen := by
  rcases h.own.2 with ⟨rfl, h0⟩ | ⟨g, cap, cur, rfl, _, _, h1, h2, _⟩
  · exact ⟨none, 0, by rw [h0], by omega, by simp [maxLen]⟩
  · exact ⟨_, cap, rfl, h1, h2⟩
theorem FO.form {w : World} {B : Nat} {e : TypeId} {v : Value} {rows : List FRow} (h : FO w B e v rows) (hn : rows.length ≠ 0) : ∃ g cap, v = .slice (some ⟨g, 0, none⟩) rows.length cap ∧ B ≤ g := by
  rcases h.own.2 with ⟨rfl, h0⟩ | ⟨g, cap, cur, rfl, hb, _, h1, h2, _⟩
  · exact absurd h0 hn
  · exact ⟨g, cap, rfl, hb⟩
theorem FO.files {w : World} {B : Nat} {e : TypeId} {v : Value} {rows : List FRow} (h : FO w B e v rows) : RFiles w v (rows.map (·.1)) := by
  have hl : (rows.map (·.1)).length = rows.length := List.length_map _
  rcases h.own.2 with ⟨rfl, h0⟩ | ⟨g, cap, cur, rfl, hb, hg, h1, h2, h3, h4⟩
  · exact ⟨none, 0, by rw [hl, h0], by omega, by simp [maxLen], fun hn => absurd (hl.trans h0) hn⟩
  · refine ⟨_, cap, by rw [hl], by omega, h2, fun _ => ⟨g, 0, rfl, fun j f hj => ?_⟩⟩
    rw [List.getElem?_map] at hj
    cases hr : rows[j]? with
    | none => rw [hr] at hj; cases hj
    | some r =>
      rw [hr] at hj
      simp only [Option.map_some, Option.some.injEq] at hj
      subst hj
      obtain ⟨a1, a2⟩ := rowCells_at rows j r hr
      have hjl : j < rows.length := (List.getElem?_eq_some_iff.1 hr).1
      have c1 := h.own.cellAt (j * 2) (by omega)
      have c2 := h.own.cellAt (j * 2 + 1) (by omega)
      rw [a1] at c1
      rw [a2] at c2
      exact ⟨_, by rw [Nat.zero_add]; exact c1, by rw [Nat.zero_add]; exact c2, (h.good r (List.mem_of_getElem? hr)).2.1⟩
/-- A row of one's own behind a change of one of its cells. -/
theorem owns_set {w : World} {B : Nat} {e : TypeId} {size g n cap : Nat} {xs : List Value} (h : w.ownsRow B e size (.slice (some ⟨g, 0, none⟩) n cap) n xs) (j : Nat) (hj : j < n * size) (u : Value) : (w.setCell ⟨g, j, none⟩ u).ownsRow B e size (.slice (some ⟨g, 0, none⟩) n cap) n (xs.set j u) := by
  obtain ⟨h1, h2⟩ := h
  refine ⟨by rw [List.length_set]; exact h1, ?_⟩
  rcases h2 with ⟨h2, _⟩ | ⟨g', cap', cur, h2, hb, hg, h3, h4, h5, h6⟩
  · cases h2
  · injection h2 with e1 e2 e3
    injection e1 with e1
    injection e1 with e1
    subst e1 e3
    refine .inr ⟨g, cap, cur.setIfInBounds j u, rfl, hb, ?_, h3, h4, by simpa using h5, ?_⟩
    · rw [setCell_eq_setRow w g j cur e (0, 0) u hg]
      exact setRow_heap w g cur _ e _ hg
    · rw [Array.toList_setIfInBounds, List.take_set, h6]
theorem FO.set {w : World} {B : Nat} {e : TypeId} {g n cap : Nat} {rows : List FRow} (h : FO w B e (.slice (some ⟨g, 0, none⟩) n cap) rows) {k : Nat} {r r' : FRow} (hk : rows[k]? = some r) (hn : r'.1.name = r.1.name) (hr : GoodO w (some g) r') :
    FO (w.setCell ⟨g, k * 2 + 1, none⟩ (.slice r'.2.1 r'.2.2.1 r'.2.2.2)) B e (.slice (some ⟨g, 0, none⟩) n cap) (rows.set k r') := by
  have hkl : k < rows.length := (List.getElem?_eq_some_iff.1 hk).1
  have hnn : n = rows.length := by
    rcases h.own.2 with ⟨h2, _⟩ | ⟨_, _, _, h2, _⟩
    · cases h2
    · injection h2
  subst hnn
  refine ⟨?_, fun x hx => ?_⟩
  · rw [List.length_set, rowCells_set rows k r r' hk hn]
    exact owns_set h.own _ (by omega) _
  · have hkeep : ∀ q, q < w.heap.size → some g ≠ some q → (w.setCell ⟨g, k * 2 + 1, none⟩ (.slice r'.2.1 r'.2.2.1 r'.2.2.2)).heap[q]? = w.heap[q]? := fun q _ hq => Below.heap_setCell _ _ _ _ (fun e => hq (by rw [e]))
    rcases List.mem_or_eq_of_mem_set hx with hx | rfl
    · exact (h.good x hx).keep hkeep
    · exact hr.keep hkeep
end Go.Gs
namespace Go.Gs
open Go.RowKit
set_option linter.unusedVariables false

theorem run_copy_rowK {P : Program} (w : World) (dT sT ty elem : TypeId) (g o dLen dCap : Nat) (a : Addr) (sLen sCap : Nat) (cur : Array Value) (t : TypeId) (cs : List Value) (k m : Nat)
    (hu : P.underlying dT = some (.slice elem)) (hs : (P.info? elem).map (·.size) = some k)
    (hg : w.heap[g]? = some (.cells cur t (0, 0))) (hm : Nat.min sLen dLen = m) (hn : cs.length = m * k)
    (hsrc : ∀ j v, cs[j]? = some v → w.cell? (a.add j) = some v) (hfit : o + cs.length ≤ cur.size) (h1 : ∀ v ∈ cs, v.oneCell' = true) :
    (Builtin.copy_ #[dT, sT] ty #[.slice (some ⟨g, o, none⟩) dLen dCap, .slice (some a) sLen sCap]).run P w =
      .ok (goInt m) (w.setRow g (cur.toList.take o ++ cs ++ cur.toList.drop (o + cs.length)).toArray) := by
  have hl := run_loadCells_list (P := P) w a cs hsrc
  have hst := run_storeCells_at P g o t cs 0 cur w hg (by simpa using hfit) h1
  cases hq : P.info? elem with
  | none => simp [hq] at hs
  | some i =>
    have hi : i.size = k := by simpa [hq] using hs
    rw [hn] at hl
    simp [Builtin.copy_, run_underlying hu, Builtin.lenOf, Builtin.firstCells, sizeOf, typeInfo, hq, hi, hm, hl, hst]
def insR (rows : List FRow) (i : Nat) (r : FRow) : List FRow := rows.take i ++ r :: rows.drop i
theorem insR_length (rows : List FRow) (i : Nat) (r : FRow) (hi : i ≤ rows.length) : (insR rows i r).length = rows.length + 1 := by simp [insR]; omega
theorem insR_cells (rows : List FRow) (i : Nat) (r : FRow) : rowCells (insR rows i r) = rowCells (rows.take i) ++ (encF r ++ rowCells (rows.drop i)) := by rw [insR, rowCells_append, rowCells_cons]
theorem insR_mem {rows : List FRow} {i : Nat} {r x : FRow} (h : x ∈ insR rows i r) : x ∈ rows ∨ x = r := by
  unfold insR at h
  rw [List.mem_append, List.mem_cons] at h
  rcases h with h | h | h
  · exact .inl (List.mem_of_mem_take h)
  · exact .inr h
  · exact .inl (List.mem_of_mem_drop h)
/-- Three pieces, of which the last was laid first. -/
theorem ins_shift (cur : List Value) (rows : List FRow) (i : Nat) (r : FRow) (hi : i ≤ rows.length) (hc : cur.take (rows.length * 2) = rowCells rows) (hl : (rows.length + 1) * 2 ≤ cur.length) (c1 : List Value)
    (h1 : c1 = cur.take (i * 2 + 2) ++ rowCells (rows.drop i) ++ cur.drop (i * 2 + 2 + (rowCells (rows.drop i)).length)) :
    c1.length = cur.length ∧ (c1.take (i * 2) ++ encF r ++ c1.drop (i * 2 + (encF r).length)).length = cur.length ∧ (c1.take (i * 2) ++ encF r ++ c1.drop (i * 2 + (encF r).length)).take ((rows.length + 1) * 2) = rowCells (insR rows i r) := by
  have hd : (rowCells (rows.drop i)).length = (rows.length - i) * 2 := by rw [rowCells_length, List.length_drop]
  have ht : (rowCells (rows.take i)).length = i * 2 := by rw [rowCells_length, List.length_take, Nat.min_eq_left hi]
  have he : (encF r).length = 2 := rfl
  have hl1 : c1.length = cur.length := by rw [h1, List.length_append, List.length_append, List.length_take, List.length_drop, hd]; omega
  have e1 : c1.take (i * 2) = rowCells (rows.take i) := by
    rw [h1, List.append_assoc, List.take_append_of_le_length (by rw [List.length_take]; omega), List.take_take, Nat.min_eq_left (by omega), ← rowCells_take, ← hc, List.take_take, Nat.min_eq_left (by omega)]
  have e2 : c1.drop (i * 2 + (encF r).length) = rowCells (rows.drop i) ++ cur.drop (i * 2 + 2 + (rowCells (rows.drop i)).length) := by
    rw [h1, List.append_assoc, he, List.drop_append, List.drop_of_length_le (by rw [List.length_take]; omega), List.length_take, Nat.min_eq_left (by omega), Nat.sub_self, List.drop_zero, List.nil_append]
  refine ⟨hl1, ?_, ?_⟩
  · rw [List.length_append, List.length_append, List.length_take, List.length_drop, he]; omega
  · rw [e1, e2, insR_cells, List.append_assoc, ← List.append_assoc (encF r), ← List.append_assoc, List.take_append_of_le_length (by rw [List.length_append, List.length_append, ht, he, hd]; omega), List.take_of_length_le (by rw [List.length_append, List.length_append, ht, he, hd]; omega)]
/-- Three pieces, of which the middle one was laid first. -/
theorem ins_grow (cur : List Value) (rows : List FRow) (i : Nat) (r : FRow) (hi : i ≤ rows.length) (hc : cur.take (i * 2) = rowCells (rows.take i)) (hl : (rows.length + 1) * 2 ≤ cur.length) (c1 : List Value)
    (h1 : c1 = cur.take (i * 2) ++ encF r ++ cur.drop (i * 2 + (encF r).length)) :
    c1.length = cur.length ∧ (c1.take (i * 2 + 2) ++ rowCells (rows.drop i) ++ c1.drop (i * 2 + 2 + (rowCells (rows.drop i)).length)).length = cur.length ∧ (c1.take (i * 2 + 2) ++ rowCells (rows.drop i) ++ c1.drop (i * 2 + 2 + (rowCells (rows.drop i)).length)).take ((rows.length + 1) * 2) = rowCells (insR rows i r) := by
  have hd : (rowCells (rows.drop i)).length = (rows.length - i) * 2 := by rw [rowCells_length, List.length_drop]
  have ht : (rowCells (rows.take i)).length = i * 2 := by rw [rowCells_length, List.length_take, Nat.min_eq_left hi]
  have he : (encF r).length = 2 := rfl
  have hl1 : c1.length = cur.length := by rw [h1, List.length_append, List.length_append, List.length_take, List.length_drop, he]; omega
  have e1 : c1.take (i * 2 + 2) = rowCells (rows.take i) ++ encF r := by
    rw [h1, hc, List.take_append_of_le_length (by rw [List.length_append, ht, he]; omega), List.take_of_length_le (by rw [List.length_append, ht, he]; omega)]
  refine ⟨hl1, ?_, ?_⟩
  · rw [List.length_append, List.length_append, List.length_take, List.length_drop, hd]; omega
  · rw [e1, insR_cells, List.take_append_of_le_length (by rw [List.length_append, List.length_append, ht, he, hd]; omega), List.take_of_length_le (by rw [List.length_append, List.length_append, ht, he, hd]; omega), List.append_assoc]
/-- Rows that have moved, or stayed, in a row of one's own. -/
theorem FO.move {w w' : World} {B : Nat} {e : TypeId} {v v' : Value} {rows rows' : List FRow} {r : FRow} (h : FO w B e v rows) (hown : w'.ownsRow B e 2 v' rows'.length (rowCells rows')) (hk : ∀ k, k < w.heap.size → v.ownBlock ≠ some k → w'.heap[k]? = w.heap[k]?)
    (hat : v'.ownBlock = v.ownBlock ∨ v'.ownBlock = some w.heap.size) (hm : ∀ x ∈ rows', x ∈ rows ∨ x = r) (hr : ∀ (W : World) (go : Option Nat), GoodO W go r) : FO w' B e v' rows' := by
  refine ⟨hown, fun x hx => ?_⟩
  rcases hm x hx with hx | rfl
  · have g0 := h.good x hx
    have g1 := g0.keep hk
    refine ⟨g1.1, g1.2.1, fun hne a ha hg => ?_⟩
    rcases hat with hat | hat
    · exact g0.2.2 hne a ha (by rw [← hat]; exact hg)
    · obtain ⟨h1, ao', cap', e', h2, h3, h4⟩ := g0.2.1
      obtain ⟨b, off, rfl, hc⟩ := h4 hne
      injection e' with e1 e2 e3
      rw [ha] at e1
      injection e1 with e1
      subst e1
      have hl : 0 < (x.1.b.map U).length := by rw [h1]; omega
      have := World.block_lt_of_cell? w _ (hc 0 _ (List.getElem?_eq_getElem hl))
      rw [hat] at hg
      injection hg with hg
      simp only at this hg
      omega
  · exact hr _ _
theorem good_empty (n : List UInt8) (W : World) (go : Option Nat) : GoodO W go (⟨n, []⟩, none, 0, 0) := ⟨rfl, ⟨rfl, none, 0, rfl, Nat.le_refl _, by simp [maxLen], fun h => absurd rfl h⟩, fun h => absurd rfl h⟩
theorem insR_end (rows : List FRow) (r : FRow) : insR rows rows.length r = rows ++ [r] := by simp [insR]
end Go.Gs
namespace Go.Gs
open Go.RowKit
set_option linter.unusedVariables false

/-! Right files. -/
theorem fbad_zero {p : Option (List UInt8)} {f : SFile} (h : fbad p f = 0) : isWord f.name = true ∧ f.b.length ≤ 4000 ∧ ∀ q, p = some q → q < f.name := by
  unfold fbad at h
  split at h
  · cases h
  · split at h
    · cases h
    · rename_i h1 h2
      refine ⟨by simpa using h1, by omega, ?_⟩
      intro q hq
      subst hq
      simp only at h
      split at h
      · assumption
      · cases h
theorem fbad_of {p : Option (List UInt8)} {f : SFile} (h1 : isWord f.name = true) (h2 : f.b.length ≤ 4000) (h3 : ∀ q, p = some q → q < f.name) : fbad p f = 0 := by
  unfold fbad
  rw [if_neg (by simp [h1]), if_neg (by omega)]
  cases p with
  | none => rfl
  | some q => simp only; rw [if_pos (h3 q rfl)]
theorem fbad_none {p : Option (List UInt8)} {f : SFile} (h : fbad p f = 0) : fbad none f = 0 := by
  obtain ⟨h1, h2, _⟩ := fbad_zero h
  exact fbad_of h1 h2 (by intro q hq; cases hq)
theorem fbad_ne {p : Option (List UInt8)} {f : SFile} : fbad p f = 0 ∨ fbad p f = 1 ∨ fbad p f = 2 ∨ fbad p f = 6 := by
  unfold fbad
  split
  · simp
  · split
    · simp
    · split
      · simp
      · split <;> simp
theorem from_cons {p : Option (List UInt8)} {f : SFile} {r : List SFile} : fchkFrom p (f :: r) = 0 ↔ fbad p f = 0 ∧ fchkFrom (some f.name) r = 0 := by
  rw [fchkFrom]
  split
  · rename_i h; simp [h]
  · rename_i h; simp [h]
theorem from_weak {p : Option (List UInt8)} : ∀ {l : List SFile}, fchkFrom p l = 0 → fchkFrom none l = 0
  | [], _ => rfl
  | f :: r, h => by
    rw [from_cons] at h ⊢
    exact ⟨fbad_none h.1, h.2⟩
/-- All names are above the one ahead. -/
theorem from_above : ∀ {l : List SFile} {q : List UInt8}, fchkFrom (some q) l = 0 → ∀ f ∈ l, q < f.name
  | [], _, _, f, hf => by cases hf
  | g :: r, q, h, f, hf => by
    rw [from_cons] at h
    have h1 := (fbad_zero h.1).2.2 q rfl
    rw [List.mem_cons] at hf
    rcases hf with rfl | hf
    · exact h1
    · exact List.lt_trans h1 (from_above h.2 f hf)
theorem lt_ne {a b : List UInt8} (h : a < b) : a ≠ b := by
  rintro rfl
  exact List.lt_irrefl a h
theorem fileOf_cons (f : SFile) (r : List SFile) (n : List UInt8) : fileOf (f :: r) n = if f.name = n then f.b else fileOf r n := by
  unfold fileOf
  by_cases h : f.name = n
  · simp [h]
  · rw [List.find?_cons_of_neg (by simp [h]), if_neg h]
theorem fileOf_none : ∀ {l : List SFile} {n : List UInt8}, (∀ f ∈ l, f.name ≠ n) → fileOf l n = []
  | [], _, _ => rfl
  | f :: r, n, h => by
    rw [fileOf_cons, if_neg (h f (by simp)), fileOf_none (fun g hg => h g (by simp [hg]))]
theorem fileOf_mem : ∀ {l : List SFile} {p : Option (List UInt8)}, fchkFrom p l = 0 → ∀ f ∈ l, fileOf l f.name = f.b
  | [], _, _, f, hf => by cases hf
  | g :: r, p, h, f, hf => by
    rw [from_cons] at h
    rw [List.mem_cons] at hf
    rw [fileOf_cons]
    rcases hf with rfl | hf
    · rw [if_pos rfl]
    · rw [if_neg (lt_ne (from_above h.2 f hf)), fileOf_mem h.2 f hf]

/-! Put. -/
theorem put_get : ∀ (l : List SFile) (n b : List UInt8), fileOf (putF l n b) n = b
  | [], n, b => by rw [putF, fileOf_cons, if_pos rfl]
  | f :: r, n, b => by
    rw [putF]
    split
    · rw [fileOf_cons, if_pos rfl]
    · rename_i h
      split
      · rw [fileOf_cons, if_pos rfl]
      · rw [fileOf_cons, if_neg h, put_get r n b]
theorem put_other : ∀ (l : List SFile) (n b m : List UInt8), m ≠ n → fileOf (putF l n b) m = fileOf l m
  | [], n, b, m, h => by rw [putF, fileOf_cons, if_neg (fun e => h e.symm)]
  | f :: r, n, b, m, h => by
    rw [putF]
    split
    · rename_i hf
      rw [fileOf_cons, fileOf_cons, if_neg (fun e => h e.symm), if_neg (fun e => h (e.symm.trans hf))]
    · split
      · rw [fileOf_cons, if_neg (fun e => h e.symm)]
      · rw [fileOf_cons, fileOf_cons, put_other r n b m h]
theorem not_lt_eq {a b : List UInt8} (h1 : ¬ a < b) (h2 : ¬ b = a) : b < a := by
  have h3 : b ≤ a := List.not_lt.1 h1
  by_cases h : b < a
  · exact h
  · exact absurd (List.le_antisymm h3 (List.not_lt.1 h)) h2
theorem put_right : ∀ (l : List SFile) (p : Option (List UInt8)) (n b : List UInt8), fchkFrom p l = 0 → isWord n = true → b.length ≤ 4000 → (∀ q, p = some q → q < n) → fchkFrom p (putF l n b) = 0
  | [], p, n, b, _, hn, hb, hp => by
    rw [putF, from_cons]
    exact ⟨fbad_of hn hb hp, rfl⟩
  | f :: r, p, n, b, h, hn, hb, hp => by
    rw [from_cons] at h
    obtain ⟨h1, h2, h3⟩ := fbad_zero h.1
    rw [putF]
    split
    · rename_i hf
      rw [from_cons]
      exact ⟨fbad_of hn hb hp, by rw [hf] at h; exact h.2⟩
    · rename_i hf
      split
      · rename_i hlt
        rw [from_cons, from_cons]
        exact ⟨fbad_of hn hb hp, fbad_of h1 h2 (by intro q hq; injection hq with hq; subst hq; exact hlt), h.2⟩
      · rename_i hlt
        rw [from_cons]
        refine ⟨h.1, put_right r _ n b h.2 hn hb ?_⟩
        intro q hq
        injection hq with hq
        subst hq
        exact not_lt_eq hlt hf
theorem from_sorted : ∀ {l : List SFile} {p : Option (List UInt8)}, fchkFrom p l = 0 → l.Pairwise (fun f g => f.name < g.name)
  | [], _, _ => List.Pairwise.nil
  | f :: r, p, h => by
    rw [from_cons] at h
    exact List.Pairwise.cons (from_above h.2) (from_sorted h.2)
theorem put_perm : ∀ (l : List SFile) (p : Option (List UInt8)) (n b : List UInt8), fchkFrom p l = 0 → (putF l n b).Perm (l.filter (fun f => f.name != n) ++ [⟨n, b⟩])
  | [], p, n, b, _ => by simp [putF]
  | f :: r, p, n, b, h => by
    rw [from_cons] at h
    rw [putF]
    split
    · rename_i hf
      have hr : r.filter (fun f => f.name != n) = r := List.filter_eq_self.2 (fun g hg => by
        have := from_above h.2 g hg
        rw [hf] at this
        simpa using (lt_ne this).symm)
      rw [List.filter_cons_of_neg (by simp [hf]), hr]
      exact (List.perm_append_singleton _ _).symm
    · rename_i hf
      rw [List.filter_cons_of_pos (by simpa using hf)]
      split
      · rename_i hlt
        have hr : r.filter (fun f => f.name != n) = r := List.filter_eq_self.2 (fun g hg => by
          have := List.lt_trans hlt (from_above h.2 g hg)
          simpa using (lt_ne this).symm)
        rw [hr]
        exact (List.perm_append_singleton _ _).symm
      · exact (put_perm r _ n b h.2).cons f
/-- The one order that rises by name. -/
theorem put_unique {l d : List SFile} {n b : List UInt8} (h : fchkFrom none l = 0) (hn : isWord n = true) (hb : b.length ≤ 4000) (hd : d.Perm (l.filter (fun f => f.name != n) ++ [⟨n, b⟩])) (hs : d.Pairwise (fun f g => f.name ≤ g.name)) : d = putF l n b := by
  have hp := put_perm l none n b h
  have hsp := from_sorted (put_right l none n b h hn hb (by intro q hq; cases hq))
  refine (hd.trans hp.symm).eq_of_pairwise (le := fun f g => f.name ≤ g.name) ?_ hs (hsp.imp (fun h => List.le_of_lt h))
  intro f g hf hg h1 h2
  have e : f.name = g.name := List.le_antisymm h1 h2
  have hf' := (hd.trans hp.symm).mem_iff.1 hf
  have hfb := fileOf_mem (put_right l none n b h hn hb (by intro q hq; cases hq)) f hf'
  have hgb := fileOf_mem (put_right l none n b h hn hb (by intro q hq; cases hq)) g hg
  rw [e, hgb] at hfb
  obtain ⟨f1, f2⟩ := f
  obtain ⟨g1, g2⟩ := g
  simp only at e hfb
  rw [e, hfb]
theorem put_length {l : List SFile} {n b : List UInt8} (h : fchkFrom none l = 0) : (putF l n b).length = (l.filter (fun f => f.name != n)).length + 1 := by
  have := (put_perm l none n b h).length_eq
  simpa using this
theorem fchk_zero {l : List SFile} (h : fchk l = 0) : l.length ≤ 12 ∧ fchkFrom none l = 0 := by
  unfold fchk at h
  split at h
  · cases h
  · exact ⟨by omega, h⟩
theorem fchk_of {l : List SFile} (h1 : l.length ≤ 12) (h2 : fchkFrom none l = 0) : fchk l = 0 := by
  unfold fchk
  rw [if_neg (by omega), h2]
theorem putS_zero {l : List SFile} {n b : List UInt8} (h : (putS l n b).2 = 0) : isWord n = true ∧ b.length ≤ 4000 ∧ (putF l n b).length ≤ 12 ∧ (putS l n b).1 = putF l n b := by
  unfold putS at h ⊢
  split at h
  · cases h
  · split at h
    · cases h
    · split at h
      · cases h
      · rename_i h1 h2 h3
        rw [if_neg h1, if_neg h2, if_neg h3]
        exact ⟨by simpa using h1, by omega, by omega, rfl⟩
theorem putS_right {l : List SFile} {n b : List UInt8} (hl : fchk l = 0) (h : (putS l n b).2 = 0) : fchk (putS l n b).1 = 0 := by
  obtain ⟨h1, h2, h3, h4⟩ := putS_zero h
  rw [h4]
  exact fchk_of h3 (put_right l none n b (fchk_zero hl).2 h1 h2 (by intro q hq; cases hq))

/-! A script in two runs; what it doesn't write stays. -/
theorem run_append : ∀ (a : List SLine) (l : List SFile) (b : List SLine), (runL l a).2 = 0 → runL l (a ++ b) = runL (runL l a).1 b
  | [], l, b, _ => rfl
  | x :: r, l, b, h => by
    rw [runL] at h
    rw [List.cons_append, runL]
    conv => rhs; rw [runL]
    split at h
    · rename_i h1
      split at h
      · rename_i h2
        rw [if_pos h1, if_pos h2, if_pos h1, if_pos h2]
        exact run_append r _ b h
      · rename_i h2; exact absurd h h2
    · rename_i h1; exact absurd h h1
theorem run_first : ∀ (a : List SLine) (l : List SFile) (b : List SLine), (runL l (a ++ b)).2 = 0 → (runL l a).2 = 0
  | [], l, b, _ => rfl
  | x :: r, l, b, h => by
    rw [List.cons_append, runL] at h
    rw [runL]
    split at h
    · rename_i h1
      split at h
      · rename_i h2
        rw [if_pos h1, if_pos h2]
        exact run_first r _ b h
      · rename_i h2; exact absurd h h2
    · rename_i h1; exact absurd h h1
theorem run_right : ∀ (s : List SLine) (l : List SFile), fchk l = 0 → (runL l s).2 = 0 → fchk (runL l s).1 = 0
  | [], l, h, _ => h
  | x :: r, l, h, hr => by
    rw [runL] at hr ⊢
    split at hr
    · rename_i h1
      split at hr
      · rename_i h2
        rw [if_pos h1, if_pos h2]
        exact run_right r _ (putS_right h h2) hr
      · rename_i h2; exact absurd hr h2
    · rename_i h1; exact absurd hr h1
theorem run_stays : ∀ (s : List SLine) (l : List SFile) (m : List UInt8), (runL l s).2 = 0 → (∀ x ∈ s, x.to ≠ m) → fileOf (runL l s).1 m = fileOf l m
  | [], l, m, _, _ => rfl
  | x :: r, l, m, hr, hm => by
    rw [runL] at hr ⊢
    split at hr
    · rename_i h1
      split at hr
      · rename_i h2
        rw [if_pos h1, if_pos h2, run_stays r _ m hr (fun y hy => hm y (by simp [hy])), (putS_zero h2).2.2.2, put_other _ _ _ _ (fun e => hm x (by simp) e.symm)]
      · rename_i h2; exact absurd hr h2
    · rename_i h1; exact absurd hr h1

/-! Whole lines. -/
def whole (b : List UInt8) : Prop := ended (lines b) = b
theorem whole_ended {l : List (List UInt8)} (h : ∀ s ∈ l, (10 : UInt8) ∉ s) : whole (ended l) := by unfold whole; rw [lines_ended l h]
theorem whole_nil : whole [] := rfl
theorem whole_append {a : List UInt8} (h : whole a) (l : List (List UInt8)) (hl : ∀ s ∈ l, (10 : UInt8) ∉ s) : whole (a ++ ended l) := by
  have e : a ++ ended l = ended (lines a ++ l) := by rw [ended_append, h]
  rw [e]
  refine whole_ended (fun s hs => ?_)
  rcases List.mem_append.1 hs with hs | hs
  · exact lines_noFeed a s hs
  · exact hl s hs
theorem gatherL_whole (l : List SFile) : ∀ (fr : List (List UInt8)) (acc : List UInt8), whole acc → acc.length ≤ 4000 → whole (gatherL l fr acc).1 ∧ (gatherL l fr acc).1.length ≤ 4000
  | [], acc, h, hl => ⟨h, hl⟩
  | s :: r, acc, h, hl => by
    rw [gatherL]
    split
    · exact ⟨whole_nil, by simp⟩
    · rename_i h1
      exact gatherL_whole l r _ (whole_append h _ (lines_noFeed _)) (by omega)
theorem gather_whole (l : List SFile) (fr : List (List UInt8)) : whole (gather l fr).1 ∧ (gather l fr).1.length ≤ 4000 := by
  unfold gather
  split
  · exact ⟨whole_nil, by simp⟩
  · exact gatherL_whole l fr [] whole_nil (by simp)
theorem one_whole {c : Cmd} (hc : chk c = 0) {b : List UInt8} : whole (ended (made c (lines b))) := whole_ended (made_noFeed c hc _ (lines_noFeed b))
theorem made_small (c : Cmd) (h : chk c = 0) (ls : List (List UInt8)) (hl : ls.length ≤ 4000) : (ended (made c ls)).length ≤ max (ended ls).length 6 := by
  have hk := chk_kinds c h
  have : c.kind = 1 ∨ c.kind = 2 ∨ c.kind = 3 ∨ c.kind = 4 ∨ c.kind = 5 ∨ c.kind = 6 ∨ c.kind = 7 ∨ c.kind = 8 ∨ c.kind = 9 ∨ c.kind = 10 := by omega
  rcases this with e | e | e | e | e | e | e | e | e | e
  · rw [made1 c e]; have := ended_len_sub (List.filter_sublist (p := fun s => Lib.contains s c.word) (l := ls)); omega
  · rw [made2 c e]; have := ended_len_sub (List.filter_sublist (p := fun s => !Lib.contains s c.word) (l := ls)); omega
  · rw [made3 c e]; have := ended_len_map (swapOf (c.word.getD 0 0) (c.word.getD 1 0)) (fun s => by simp [swapOf]) ls; omega
  · rw [made4 c e]; have := ended_len_map (fieldOf c.n) (fieldOf_len c.n) ls; omega
  · rw [made5 c e]; have := ended_len_map List.reverse (fun s => by simp) ls; omega
  · rw [made6 c e]; have := ended_len_perm (sortOf_perm ls); omega
  · rw [made7 c e]; have := ended_len_sub (compact_sub ls); omega
  · rw [made8 c e]; have := itoa_len ls.length (by omega); simp [ended]; omega
  · rw [made9 c e]; have := ended_len_sub (List.take_sublist c.n.toNat ls); omega
  · rw [made10 c e]; have := ended_len_sub (List.drop_sublist (ls.length - c.n.toNat) ls); omega
theorem doAll_whole : ∀ (cs : List Cmd) (b : List UInt8), (∀ c ∈ cs, chk c = 0) → whole b → b.length ≤ 4000 → whole (doAll cs b) ∧ (doAll cs b).length ≤ 4000
  | [], b, _, h, hl => ⟨h, hl⟩
  | c :: r, b, hc, h, hl => by
    have h1 := made_small c (hc c (by simp)) (lines b) (by have := lines_length b; omega)
    have h2 : (ended (lines b)).length = b.length := by rw [h]
    have e : doAll (c :: r) b = doAll r (ended (made c (lines b))) := rfl
    rw [e]
    exact doAll_whole r _ (fun d hd => hc d (by simp [hd])) (one_whole (hc c (by simp))) (by omega)
theorem doAll_append (a b : List Cmd) (x : List UInt8) : doAll (a ++ b) x = doAll b (doAll a x) := by simp [doAll]

/-! Commands in two lines; other files. -/
theorem gather_one {n m : List UInt8} (v1 : whole m) (v2 : m.length ≤ 4000) : gather [⟨n, m⟩] [n] = (m, 0) := by
  have hf : fileOf [⟨n, m⟩] n = m := by rw [fileOf_cons, if_pos rfl]
  unfold gather
  rw [if_neg (by simp), gatherL, hf, v1, List.nil_append, if_neg (by omega)]
  rfl
theorem line_two {l : List SFile} {x : SLine} {n : List UInt8} (k : Nat) (hc : ∀ c ∈ x.cs, chk c = 0) (h : (lineOf l x).2 = 0) :
    (lineOf l ⟨x.fr, x.cs.take k, x.to⟩).2 = 0 ∧ (lineOf l ⟨x.fr, x.cs.take k, x.to⟩).1.length ≤ 4000 ∧ lineOf [⟨n, (lineOf l ⟨x.fr, x.cs.take k, x.to⟩).1⟩] ⟨[n], x.cs.drop k, x.to⟩ = ((lineOf l x).1, 0) := by
  unfold lineOf at h
  split at h
  · rename_i hg
    obtain ⟨w1, w2⟩ := gather_whole l x.fr
    have e1 : lineOf l ⟨x.fr, x.cs.take k, x.to⟩ = (doAll (x.cs.take k) (gather l x.fr).1, 0) := by unfold lineOf; simp only; rw [if_pos hg]
    have e2 : lineOf l x = (doAll x.cs (gather l x.fr).1, 0) := by unfold lineOf; rw [if_pos hg]
    obtain ⟨v1, v2⟩ := doAll_whole (x.cs.take k) _ (fun c hc' => hc c (List.mem_of_mem_take hc')) w1 w2
    rw [e1, e2]
    refine ⟨rfl, v2, ?_⟩
    have e3 := gather_one (n := n) v1 v2
    unfold lineOf
    simp only
    rw [e3]
    simp only [if_true]
    rw [← doAll_append, List.take_append_drop]
  · rename_i hg; exact absurd h hg
theorem gatherL_same {l m : List SFile} : ∀ (fr : List (List UInt8)) (acc : List UInt8), (∀ s ∈ fr, fileOf l s = fileOf m s) → gatherL l fr acc = gatherL m fr acc
  | [], acc, _ => rfl
  | s :: r, acc, h => by
    rw [gatherL, gatherL, h s (by simp), gatherL_same r _ (fun t ht => h t (by simp [ht]))]
theorem line_same {l m : List SFile} {x : SLine} (h : ∀ s ∈ x.fr, fileOf l s = fileOf m s) : lineOf l x = lineOf m x := by
  have e : gather l x.fr = gather m x.fr := by unfold gather; rw [gatherL_same x.fr [] h]
  unfold lineOf
  rw [e]
theorem fileOf_filter : ∀ {l : List SFile} {q : SFile → Bool} {s : List UInt8}, (∀ f, f.name = s → q f = true) → fileOf (l.filter q) s = fileOf l s
  | [], _, _, _ => rfl
  | f :: r, q, s, h => by
    by_cases hf : q f = true
    · rw [List.filter_cons_of_pos hf, fileOf_cons, fileOf_cons, fileOf_filter h]
    · rw [List.filter_cons_of_neg hf, fileOf_cons, if_neg (fun e => hf (h f e)), fileOf_filter h]
theorem from_of_sorted : ∀ {l : List SFile} {p : Option (List UInt8)}, (∀ f ∈ l, isWord f.name = true ∧ f.b.length ≤ 4000) → l.Pairwise (fun f g => f.name < g.name) → (∀ q, p = some q → ∀ f ∈ l, q < f.name) → fchkFrom p l = 0
  | [], _, _, _, _ => rfl
  | f :: r, p, h1, h2, h3 => by
    rw [from_cons]
    rw [List.pairwise_cons] at h2
    exact ⟨fbad_of (h1 f (by simp)).1 (h1 f (by simp)).2 (fun q hq => h3 q hq f (by simp)), from_of_sorted (fun g hg => h1 g (by simp [hg])) h2.2 (by intro q hq; injection hq with hq; subst hq; exact h2.1)⟩
theorem from_all : ∀ {l : List SFile} {p : Option (List UInt8)}, fchkFrom p l = 0 → ∀ f ∈ l, isWord f.name = true ∧ f.b.length ≤ 4000
  | [], _, _, f, hf => by cases hf
  | g :: r, p, h, f, hf => by
    rw [from_cons] at h
    rw [List.mem_cons] at hf
    rcases hf with rfl | hf
    · exact ⟨(fbad_zero h.1).1, (fbad_zero h.1).2.1⟩
    · exact from_all h.2 f hf
theorem filter_right {l : List SFile} {q : SFile → Bool} (h : fchk l = 0) : fchk (l.filter q) = 0 := by
  obtain ⟨h1, h2⟩ := fchk_zero h
  refine fchk_of (Nat.le_trans (List.length_filter_le _ _) h1) (from_of_sorted (fun f hf => from_all h2 f ((List.mem_filter.1 hf).1)) ((from_sorted h2).filter _) (by intro q hq; cases hq))
end Go.Gs
namespace Go.Gs
open Go.RowKit
set_option linter.unusedVariables false

/-- How many names are below. -/
def posOf : List SFile → List UInt8 → Nat
  | [], _ => 0
  | f :: r, n => if f.name < n then posOf r n + 1 else 0
def thereOf (l : List SFile) (n : List UInt8) : Bool := match l[posOf l n]? with
  | some f => decide (f.name = n)
  | none => false
theorem pos_le : ∀ (l : List SFile) (n : List UInt8), posOf l n ≤ l.length
  | [], n => Nat.le_refl _
  | f :: r, n => by
    unfold posOf
    split
    · have := pos_le r n; simp; omega
    · exact Nat.zero_le _
theorem pos_iff : ∀ {l : List SFile} {p : Option (List UInt8)} {n : List UInt8} {h : Nat} {f : SFile}, fchkFrom p l = 0 → l[h]? = some f → (f.name < n ↔ h < posOf l n)
  | [], p, n, h, f, _, e => by simp at e
  | g :: r, p, n, h, f, hr, e => by
    obtain ⟨h1, h2⟩ := from_cons.1 hr
    unfold posOf
    by_cases hg : g.name < n
    · rw [if_pos hg]
      cases h with
      | zero => simp at e; subst e; simp [hg]
      | succ h =>
        have := pos_iff (n := n) h2 (h := h) (f := f) (by simpa using e)
        rw [this]; omega
    · rw [if_neg hg]
      cases h with
      | zero => simp at e; subst e; simp [hg]
      | succ h =>
        have hm : f ∈ r := List.mem_of_getElem? (by simpa using e)
        have := from_above h2 f hm
        constructor
        · intro hf; exact absurd (List.lt_trans this hf) hg
        · intro hf; omega
theorem there_some {l : List SFile} {n : List UInt8} {f : SFile} (h : l[posOf l n]? = some f) : thereOf l n = decide (f.name = n) := by unfold thereOf; rw [h]
theorem there_none {l : List SFile} {n : List UInt8} (h : ¬ posOf l n < l.length) : thereOf l n = false := by unfold thereOf; rw [List.getElem?_eq_none (by omega)]
theorem there_get {l : List SFile} {n : List UInt8} (h : thereOf l n = true) : ∃ f, l[posOf l n]? = some f ∧ f.name = n := by
  unfold thereOf at h
  split at h
  · rename_i f e; exact ⟨f, e, of_decide_eq_true h⟩
  · cases h
theorem there_lt {l : List SFile} {n : List UInt8} (h : thereOf l n = true) : posOf l n < l.length := by
  obtain ⟨f, e, _⟩ := there_get h
  exact (List.getElem?_eq_some_iff.1 e).1
theorem there_cons {f : SFile} {r : List SFile} {n : List UInt8} (h : f.name < n) : thereOf (f :: r) n = thereOf r n := by
  unfold thereOf
  rw [show posOf (f :: r) n = posOf r n + 1 by rw [posOf, if_pos h], List.getElem?_cons_succ]
theorem there_head {f : SFile} {r : List SFile} {n : List UInt8} (h : ¬ f.name < n) : thereOf (f :: r) n = decide (f.name = n) := by
  unfold thereOf
  rw [show posOf (f :: r) n = 0 by rw [posOf, if_neg h], List.getElem?_cons_zero]
/-- A file that is there. -/
theorem file_there : ∀ {l : List SFile} {p : Option (List UInt8)} {n : List UInt8} {f : SFile}, fchkFrom p l = 0 → thereOf l n = true → l[posOf l n]? = some f → fileOf l n = f.b
  | [], p, n, f, _, _, e => by simp at e
  | g :: r, p, n, f, hr, ht, e => by
    obtain ⟨h1, h2⟩ := from_cons.1 hr
    rw [fileOf_cons]
    by_cases hg : g.name < n
    · rw [if_neg (lt_ne hg)]
      rw [there_cons hg] at ht
      rw [posOf, if_pos hg, List.getElem?_cons_succ] at e
      exact file_there h2 ht e
    · rw [there_head hg] at ht
      rw [posOf, if_neg hg, List.getElem?_cons_zero] at e
      injection e with e
      rw [if_pos (of_decide_eq_true ht), e]
theorem file_not : ∀ {l : List SFile} {p : Option (List UInt8)} {n : List UInt8}, fchkFrom p l = 0 → thereOf l n = false → fileOf l n = []
  | [], p, n, _, _ => rfl
  | g :: r, p, n, hr, ht => by
    obtain ⟨h1, h2⟩ := from_cons.1 hr
    rw [fileOf_cons]
    by_cases hg : g.name < n
    · rw [if_neg (lt_ne hg)]
      rw [there_cons hg] at ht
      exact file_not h2 ht
    · rw [there_head hg] at ht
      have hne := of_decide_eq_false ht
      rw [if_neg hne]
      have hlt : n < g.name := not_lt_eq hg (fun e => hne e.symm)
      exact fileOf_none (fun f hf => Ne.symm (lt_ne (List.lt_trans hlt (from_above h2 f hf))))
theorem put_there : ∀ {l : List SFile} {p : Option (List UInt8)} {n : List UInt8} (b : List UInt8), fchkFrom p l = 0 → thereOf l n = true → putF l n b = l.set (posOf l n) ⟨n, b⟩
  | [], p, n, b, _, ht => by simp [thereOf] at ht
  | g :: r, p, n, b, hr, ht => by
    obtain ⟨h1, h2⟩ := from_cons.1 hr
    by_cases hg : g.name < n
    · rw [there_cons hg] at ht
      rw [putF, if_neg (lt_ne hg), if_neg (fun h => List.lt_irrefl _ (List.lt_trans hg h)), posOf, if_pos hg, List.set_cons_succ, put_there b h2 ht]
    · rw [there_head hg] at ht
      rw [putF, if_pos (of_decide_eq_true ht), posOf, if_neg hg, List.set_cons_zero]
theorem put_not : ∀ {l : List SFile} {p : Option (List UInt8)} {n : List UInt8} (b : List UInt8), fchkFrom p l = 0 → thereOf l n = false → putF l n b = l.take (posOf l n) ++ ⟨n, b⟩ :: l.drop (posOf l n)
  | [], p, n, b, _, _ => rfl
  | g :: r, p, n, b, hr, ht => by
    obtain ⟨h1, h2⟩ := from_cons.1 hr
    by_cases hg : g.name < n
    · rw [there_cons hg] at ht
      rw [putF, if_neg (lt_ne hg), if_neg (fun h => List.lt_irrefl _ (List.lt_trans hg h)), posOf, if_pos hg, List.take_succ_cons, List.drop_succ_cons, put_not b h2 ht]
      rfl
    · rw [there_head hg] at ht
      have hne := of_decide_eq_false ht
      have hlt : n < g.name := not_lt_eq hg (fun e => hne e.symm)
      rw [putF, if_neg hne, if_pos hlt, posOf, if_neg hg]
      rfl
theorem put_len_there {l : List SFile} {p : Option (List UInt8)} {n : List UInt8} (b : List UInt8) (h : fchkFrom p l = 0) (ht : thereOf l n = true) : (putF l n b).length = l.length := by rw [put_there b h ht, List.length_set]
theorem put_len_not {l : List SFile} {p : Option (List UInt8)} {n : List UInt8} (b : List UInt8) (h : fchkFrom p l = 0) (ht : thereOf l n = false) : (putF l n b).length = l.length + 1 := by
  rw [put_not b h ht, List.length_append, List.length_cons, List.length_take, List.length_drop]
  have := pos_le l n
  omega
end Go.Gs
namespace Go.Gs
open Go.RowKit
set_option linter.unusedVariables false

theorem bad_noFeed : ∀ (l : List (List UInt8)) (room : Nat), (∀ s ∈ l, (10 : UInt8) ∉ s) → bad room l = if room < (ended l).length then 2 else 0
  | [], room, _ => by simp [bad, ended]
  | s :: r, room, h => by
    have h1 : (10 : UInt8) ∉ s := h s (by simp)
    have ih := bad_noFeed r (room - (s.length + 1)) (fun x hx => h x (by simp [hx]))
    unfold bad
    rw [if_neg h1, ih]
    have e : (ended (s :: r)).length = s.length + 1 + (ended r).length := by simp [ended]; omega
    rw [e]
    by_cases h2 : room ≤ s.length
    · rw [if_pos h2, if_pos (by omega)]
    · rw [if_neg h2]
      by_cases h3 : room < s.length + 1 + (ended r).length
      · rw [if_pos h3, if_pos (by omega)]
      · rw [if_neg h3, if_neg (by omega)]
/-- The lines of some files, one file behind the other. -/
def allLines (fs : List SFile) (fr : List (List UInt8)) : List (List UInt8) := (fr.map fun s => lines (fileOf fs s)).flatten
theorem allLines_noFeed (fs : List SFile) (fr : List (List UInt8)) : ∀ s ∈ allLines fs fr, (10 : UInt8) ∉ s := by
  intro s hs
  unfold allLines at hs
  rw [List.mem_flatten] at hs
  obtain ⟨l, hl, hsl⟩ := hs
  obtain ⟨n, _, rfl⟩ := List.mem_map.1 hl
  exact lines_noFeed _ s hsl
theorem allLines_snoc (fs : List SFile) (fr : List (List UInt8)) (n : List UInt8) : allLines fs (fr ++ [n]) = allLines fs fr ++ lines (fileOf fs n) := by simp [allLines]
theorem gatherL_at (fs : List SFile) : ∀ (fr : List (List UInt8)) (acc : List UInt8), acc.length ≤ 4000 → gatherL fs fr acc = if 4000 < (acc ++ ended (allLines fs fr)).length then ([], 2) else (acc ++ ended (allLines fs fr), 0)
  | [], acc, h => by
    rw [gatherL, show allLines fs [] = [] from rfl]
    have e : acc ++ ended [] = acc := by simp [ended]
    rw [e, if_neg (by omega)]
  | s :: r, acc, h => by
    have e : acc ++ ended (allLines fs (s :: r)) = (acc ++ ended (lines (fileOf fs s))) ++ ended (allLines fs r) := by
      rw [show allLines fs (s :: r) = lines (fileOf fs s) ++ allLines fs r from rfl]
      simp [ended]
    rw [gatherL, e]
    by_cases h1 : 4000 < (acc ++ ended (lines (fileOf fs s))).length
    · rw [if_pos h1, if_pos (by rw [List.length_append]; omega)]
    · rw [if_neg h1, gatherL_at fs r _ (by omega)]
theorem gather_at (fs : List SFile) (fr : List (List UInt8)) (h : ¬ 4 < fr.length) : gather fs fr = if bad 4000 (allLines fs fr) = 0 then (ended (allLines fs fr), 0) else ([], bad 4000 (allLines fs fr)) := by
  unfold gather
  rw [if_neg h, gatherL_at fs fr [] (by simp), List.nil_append, bad_noFeed _ _ (allLines_noFeed fs fr)]
  by_cases h1 : 4000 < (ended (allLines fs fr)).length
  · rw [if_pos h1, if_pos h1]; rfl
  · rw [if_neg h1, if_neg h1]; rfl
end Go.Gs
namespace Go.Gs
open Go.RowKit
set_option linter.unusedVariables false

def shF : List SFile := [⟨[97], [50, 10, 49]⟩, ⟨[98], [48]⟩]
def shL : List SLine := [⟨[[97], [98], [120]], [⟨6, [], 0⟩], [99]⟩, ⟨[[99]], [⟨8, [], 0⟩], [97]⟩]
theorem shelled_made : runS shF shL = ([⟨[97], [51, 10]⟩, ⟨[98], [48]⟩, ⟨[99], [48, 10, 49, 10, 50, 10]⟩], 0) := by
  have h1 : fchk shF = 0 := by decide
  have h2 : schk shL = 0 := by decide
  have h3 : made ⟨6, [], 0⟩ [[50], [49], [48]] = [[48], [49], [50]] := by
    rw [made6 _ rfl, sorted_unique (sortOf [[50], [49], [48]]) [[48], [49], [50]] ((sortOf_perm _).trans (by decide)) (sortOf_sorted _) (by decide)]
  have h4 : made ⟨8, [], 0⟩ [[48], [49], [50]] = [[51]] := by
    rw [made8 _ rfl]
    show [Lib.itoa 3] = _
    unfold Lib.itoa
    rw [if_neg (by decide), show (3 : Int).toNat = 3 from rfl, Lib.decDigits, dif_pos (by decide)]
    rfl
  unfold runS
  rw [if_pos h1, if_pos h2]
  have e1 : lineOf shF ⟨[[97], [98], [120]], [⟨6, [], 0⟩], [99]⟩ = ([48, 10, 49, 10, 50, 10], 0) := by
    have g : gather shF [[97], [98], [120]] = ([50, 10, 49, 10, 48, 10], 0) := by decide
    unfold lineOf
    rw [g]
    simp only [if_true]
    have l : lines [50, 10, 49, 10, 48, 10] = [[50], [49], [48]] := by decide
    unfold doAll
    simp only [List.foldl_cons, List.foldl_nil]
    rw [l, h3]
    rfl
  have p1 : putS shF [99] [48, 10, 49, 10, 50, 10] = ([⟨[97], [50, 10, 49]⟩, ⟨[98], [48]⟩, ⟨[99], [48, 10, 49, 10, 50, 10]⟩], 0) := by
    rfl
  have e2 : lineOf [⟨[97], [50, 10, 49]⟩, ⟨[98], [48]⟩, ⟨[99], [48, 10, 49, 10, 50, 10]⟩] ⟨[[99]], [⟨8, [], 0⟩], [97]⟩ = ([51, 10], 0) := by
    have g : gather [⟨[97], [50, 10, 49]⟩, ⟨[98], [48]⟩, ⟨[99], [48, 10, 49, 10, 50, 10]⟩] [[99]] = ([48, 10, 49, 10, 50, 10], 0) := by decide
    unfold lineOf
    rw [g]
    simp only [if_true]
    have l : lines [48, 10, 49, 10, 50, 10] = [[48], [49], [50]] := by decide
    unfold doAll
    simp only [List.foldl_cons, List.foldl_nil]
    rw [l, h4]
    rfl
  have p2 : putS [⟨[97], [50, 10, 49]⟩, ⟨[98], [48]⟩, ⟨[99], [48, 10, 49, 10, 50, 10]⟩] [97] [51, 10] = ([⟨[97], [51, 10]⟩, ⟨[98], [48]⟩, ⟨[99], [48, 10, 49, 10, 50, 10]⟩], 0) := by
    rfl
  unfold shL
  rw [runL]
  simp only [e1, p1, if_true]
  rw [runL]
  simp only [e2, p2, if_true]
  rw [runL]
end Go.Gs
