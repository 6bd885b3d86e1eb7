/- Slices of commands and of lines of a script that can be read: no walk. -/
import Derived.Test.YtkifihcficobnabScriptPlain
namespace Go.Gs
open Go.RowKit
set_option linter.unusedVariables false

/-- 'v' is a slice of commands; they read as 'cs'. -/
def RCmds (w : World) (v : Value) (cs : List Cmd) : Prop :=
  ∃ ao cap, v = .slice ao cs.length cap ∧ cs.length ≤ cap ∧ cap ≤ maxLen ∧
    (cs.length ≠ 0 → ∃ b off, ao = some ⟨b, off, none⟩ ∧ ∀ j c, cs[j]? = some c → w.cell? ⟨b, off + j * 3, none⟩ = some (.int .i64 c.kind) ∧ w.cell? ⟨b, off + j * 3 + 1, none⟩ = some (.string ⟨c.word.toArray⟩) ∧ w.cell? ⟨b, off + j * 3 + 2, none⟩ = some (.int .i64 c.n))
theorem RCmds.below {w w' : World} {v : Value} {cs : List Cmd} (h : RCmds w v cs) (hb : Below w.heap.size w w') : RCmds w' v cs := by
  obtain ⟨ao, cap, rfl, h2, h3, h4⟩ := h
  refine ⟨ao, cap, rfl, h2, h3, fun hn => ?_⟩
  obtain ⟨b, off, rfl, hc⟩ := h4 hn
  refine ⟨b, off, rfl, fun j c hj => ?_⟩
  obtain ⟨a1, a2, a3⟩ := hc j c hj
  exact ⟨(hb.cell (World.block_lt_of_cell? w _ a1)).trans a1, (hb.cell (World.block_lt_of_cell? w _ a2)).trans a2, (hb.cell (World.block_lt_of_cell? w _ a3)).trans a3⟩
theorem RCmds.shape {w : World} {v : Value} {cs : List Cmd} (h : RCmds w v cs) : ∃ ao cap, v = .slice ao cs.length cap ∧ cs.length ≤ cap ∧ cap ≤ maxLen := by
  obtain ⟨ao, cap, h1, h2, h3, _⟩ := h
  exact ⟨ao, cap, h1, h2, h3⟩
theorem RCmds.at {w : World} {ao : Option Addr} {n cap : Nat} {cs : List Cmd} (h : RCmds w (.slice ao n cap) cs) {k : Nat} {c : Cmd} (hk : cs[k]? = some c) :
    ∃ b off, ao = some ⟨b, off, none⟩ ∧ w.cell? ⟨b, off + k * 3, none⟩ = some (.int .i64 c.kind) ∧ w.cell? ⟨b, off + k * 3 + 1, none⟩ = some (.string ⟨c.word.toArray⟩) ∧ w.cell? ⟨b, off + k * 3 + 2, none⟩ = some (.int .i64 c.n) := by
  obtain ⟨ao', cap', e, _, _, h5⟩ := h
  injection e with e1 e2 e3
  subst e1
  obtain ⟨hkl, _⟩ := List.getElem?_eq_some_iff.1 hk
  obtain ⟨b, off, hao, hc⟩ := h5 (by omega)
  exact ⟨b, off, hao, hc k c hk⟩

/-- 'v' is a slice of lines of a script; they read as 'ls'. -/
def RLines (w : World) (v : Value) (ls : List SLine) : Prop :=
  ∃ ao cap, v = .slice ao ls.length cap ∧ ls.length ≤ cap ∧ cap ≤ maxLen ∧
    (ls.length ≠ 0 → ∃ b off, ao = some ⟨b, off, none⟩ ∧ ∀ j x, ls[j]? = some x → ∃ vf vd, w.cell? ⟨b, off + j * 3, none⟩ = some vf ∧ w.cell? ⟨b, off + j * 3 + 1, none⟩ = some vd ∧ w.cell? ⟨b, off + j * 3 + 2, none⟩ = some (.string ⟨x.to.toArray⟩) ∧ Reads w vf x.fr.length (x.fr.map S) ∧ RCmds w vd x.cs)
theorem RLines.below {w w' : World} {v : Value} {ls : List SLine} (h : RLines w v ls) (hb : Below w.heap.size w w') : RLines w' v ls := by
  obtain ⟨ao, cap, rfl, h2, h3, h4⟩ := h
  refine ⟨ao, cap, rfl, h2, h3, fun hn => ?_⟩
  obtain ⟨b, off, rfl, hc⟩ := h4 hn
  refine ⟨b, off, rfl, fun j c hj => ?_⟩
  obtain ⟨vf, vd, a1, a2, a3, a4, a5⟩ := hc j c hj
  exact ⟨vf, vd, (hb.cell (World.block_lt_of_cell? w _ a1)).trans a1, (hb.cell (World.block_lt_of_cell? w _ a2)).trans a2, (hb.cell (World.block_lt_of_cell? w _ a3)).trans a3, a4.below hb, a5.below hb⟩
theorem RLines.shape {w : World} {v : Value} {ls : List SLine} (h : RLines w v ls) : ∃ ao cap, v = .slice ao ls.length cap ∧ ls.length ≤ cap ∧ cap ≤ maxLen := by
  obtain ⟨ao, cap, h1, h2, h3, _⟩ := h
  exact ⟨ao, cap, h1, h2, h3⟩
theorem Reads.shape {w : World} {v : Value} {n : Nat} {xs : List Value} (h : Reads w v n xs) : ∃ ao cap, v = .slice ao n cap ∧ n ≤ cap ∧ cap ≤ maxLen := by
  obtain ⟨_, ao, cap, h1, h2, h3, _⟩ := h
  exact ⟨ao, cap, h1, h2, h3⟩
theorem Reads.at {w : World} {ao : Option Addr} {n cap : Nat} {fr : List (List UInt8)} (h : Reads w (.slice ao n cap) n (fr.map S)) {k : Nat} {s : List UInt8} (hk : fr[k]? = some s) :
    ∃ b off, ao = some ⟨b, off, none⟩ ∧ w.cell? ⟨b, off + k, none⟩ = some (.string ⟨s.toArray⟩) := by
  obtain ⟨h1, ao', cap', e, _, _, h5⟩ := h
  injection e with e1 e2 e3
  subst e1
  obtain ⟨hkl, _⟩ := List.getElem?_eq_some_iff.1 hk
  rw [List.length_map] at h1
  obtain ⟨b, off, hao, hc⟩ := h5 (by omega)
  exact ⟨b, off, hao, hc k (S s) (by rw [List.getElem?_map, hk]; rfl)⟩
theorem RLines.at {w : World} {ao : Option Addr} {n cap : Nat} {ls : List SLine} (h : RLines w (.slice ao n cap) ls) {k : Nat} {x : SLine} (hk : ls[k]? = some x) :
    ∃ b off af cf ad cd, ao = some ⟨b, off, none⟩ ∧ w.cell? ⟨b, off + k * 3, none⟩ = some (.slice af x.fr.length cf) ∧ w.cell? ⟨b, off + k * 3 + 1, none⟩ = some (.slice ad x.cs.length cd) ∧ w.cell? ⟨b, off + k * 3 + 2, none⟩ = some (.string ⟨x.to.toArray⟩) ∧ Reads w (.slice af x.fr.length cf) x.fr.length (x.fr.map S) ∧ RCmds w (.slice ad x.cs.length cd) x.cs := by
  obtain ⟨ao', cap', e, _, _, h5⟩ := h
  injection e with e1 e2 e3
  subst e1
  obtain ⟨hkl, _⟩ := List.getElem?_eq_some_iff.1 hk
  obtain ⟨b, off, hao, hc⟩ := h5 (by omega)
  obtain ⟨vf, vd, a1, a2, a3, a4, a5⟩ := hc k x hk
  obtain ⟨af, cf, rfl, _, _⟩ := a4.shape
  obtain ⟨ad, cd, rfl, _, _⟩ := a5.shape
  exact ⟨b, off, af, cf, ad, cd, hao, a1, a2, a3, a4, a5⟩

/-- Strings that Go can hold. -/
def FitsC (cs : List Cmd) : Prop := ∀ c ∈ cs, c.word.length ≤ 9223372036854775807
def FitsL (x : SLine) : Prop := (∀ s ∈ x.fr, s.length ≤ 9223372036854775807) ∧ FitsC x.cs ∧ x.to.length ≤ 9223372036854775807
end Go.Gs
