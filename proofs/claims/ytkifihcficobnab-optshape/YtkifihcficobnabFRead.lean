/- Slices of files that can be read: no walk. -/
import Derived.Test.YtkifihcficobnabShellPlain
import Derived.Test.YtkifihcficobnabSRead
namespace Go.Gs
open Go.RowKit
set_option linter.unusedVariables false

/-- 'v' is a slice of files; they read as 'fs'. -/
def RFiles (w : World) (v : Value) (fs : List SFile) : Prop :=
  ∃ ao cap, v = .slice ao fs.length cap ∧ fs.length ≤ cap ∧ cap ≤ maxLen ∧
    (fs.length ≠ 0 → ∃ b off, ao = some ⟨b, off, none⟩ ∧ ∀ j f, fs[j]? = some f → ∃ vb, w.cell? ⟨b, off + j * 2, none⟩ = some (.string ⟨f.name.toArray⟩) ∧ w.cell? ⟨b, off + j * 2 + 1, none⟩ = some vb ∧ Reads w vb f.b.length (f.b.map U))
theorem RFiles.below {w w' : World} {v : Value} {fs : List SFile} (h : RFiles w v fs) (hb : Below w.heap.size w w') : RFiles w' v fs := by
  obtain ⟨ao, cap, rfl, h2, h3, h4⟩ := h
  refine ⟨ao, cap, rfl, h2, h3, fun hn => ?_⟩
  obtain ⟨b, off, rfl, hc⟩ := h4 hn
  refine ⟨b, off, rfl, fun j c hj => ?_⟩
  obtain ⟨vb, a1, a2, a3⟩ := hc j c hj
  exact ⟨vb, (hb.cell (World.block_lt_of_cell? w _ a1)).trans a1, (hb.cell (World.block_lt_of_cell? w _ a2)).trans a2, a3.below hb⟩
theorem RFiles.shape {w : World} {v : Value} {fs : List SFile} (h : RFiles w v fs) : ∃ ao cap, v = .slice ao fs.length cap ∧ fs.length ≤ cap ∧ cap ≤ maxLen := by
  obtain ⟨ao, cap, h1, h2, h3, _⟩ := h
  exact ⟨ao, cap, h1, h2, h3⟩
theorem RFiles.at {w : World} {ao : Option Addr} {n cap : Nat} {fs : List SFile} (h : RFiles w (.slice ao n cap) fs) {k : Nat} {f : SFile} (hk : fs[k]? = some f) :
    ∃ b off ab cb, ao = some ⟨b, off, none⟩ ∧ w.cell? ⟨b, off + k * 2, none⟩ = some (.string ⟨f.name.toArray⟩) ∧ w.cell? ⟨b, off + k * 2 + 1, none⟩ = some (.slice ab f.b.length cb) ∧ Reads w (.slice ab f.b.length cb) f.b.length (f.b.map U) := by
  obtain ⟨ao', cap', e, _, _, h5⟩ := h
  injection e with e1 e2 e3
  subst e1
  obtain ⟨hkl, _⟩ := List.getElem?_eq_some_iff.1 hk
  obtain ⟨b, off, hao, hc⟩ := h5 (by omega)
  obtain ⟨vb, a1, a2, a3⟩ := hc k f hk
  obtain ⟨ab, cb, rfl, _, _⟩ := a3.shape
  exact ⟨b, off, ab, cb, hao, a1, a2, a3⟩
theorem rfiles_le {w : World} {ao : Option Addr} {n cap : Nat} {fs : List SFile} (h : RFiles w (.slice ao n cap) fs) : n ≤ cap ∧ cap ≤ 9223372036854775807 := by
  obtain ⟨_, c, e, h1, h2⟩ := h.shape
  unfold maxLen at h2
  injection e with e1 e2 e3
  omega
/-- Names that Go can hold. -/
def FitsF (f : SFile) : Prop := f.name.length ≤ 9223372036854775807
end Go.Gs
