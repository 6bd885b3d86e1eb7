/- From the reading of a line of a script to one that can be read. -/
import Derived.Test.YtkifihcficobnabDoorProg
import Derived.WalkKit
import Derived.ProofKit
import Derived.OpenShut
import Derived.SliceStrings
import Derived.Test.YtkifihcficobnabDoorPlainD
import Derived.Deep.Slices
import Derived.ChangeSame
namespace Go.Proofs.YtkifihcficobnabDoor
open Go.RowKit Go.Gs Go.ChangeShapes Go.WideShapes Go.ChangeAt
set_option linter.unusedVariables false
variable {P : Program} {H : Type} {enc : TypeId × Value → H} {W : World} {base : Nat} {held : Bool} {fuel : Nat} {t e q : TypeId} {x : DataW H × List MemPlace}

theorem add_plain4 {b off j : Nat} : (⟨b, off, none⟩ : Addr).add j = ⟨b, off + j, none⟩ := by unfold Addr.add; split <;> simp_all
/-- A slice of structs of three one-cell fields, opened at every index. -/
theorem open_triples {spare : Nat → Bool} {f0 f1 f2 : Field} {cs : List Value} (ht : P.underlying t = some (.slice e)) (he : P.underlying e = some (.struct #[f0, f1, f2]))
    (ce : P.cellsOf e = 3) (o0 : f0.offset = 0) (o1 : f1.offset = 1) (o2 : f2.offset = 2) (c0 : P.cellsOf f0.type = 1) (c1 : P.cellsOf f1.type = 1) (c2 : P.cellsOf f2.type = 1)
    (h : DataW.trod enc P W base spare held fuel t cs = some x) :
    cs = [.slice none 0 0] ∨
    ∃ (a : Addr) (len cap : Nat) (V : Nat → Value × Value × Value), cs = [.slice (some a) len cap] ∧ len ≤ cap ∧ cap ≤ maxLen ∧
      ∀ i, i < len → W.cell? (a.add (i * 3)) = some (V i).1 ∧ W.cell? (a.add (i * 3 + 1)) = some (V i).2.1 ∧ W.cell? (a.add (i * 3 + 2)) = some (V i).2.2 ∧
        ∃ n y0 y1 y2, DataW.trod enc P W base spare held n f0.type [(V i).1] = some y0 ∧ DataW.trod enc P W base spare held n f1.type [(V i).2.1] = some y1 ∧ DataW.trod enc P W base spare held n f2.type [(V i).2.2] = some y2 := by
  rcases Deep.open_slice ht h with ⟨h0, _⟩ | ⟨a, len, cap, m, n, D, Pl, rfl, hb, hl, hm, hmm, rfl, hx⟩
  · exact Or.inl h0
  right
  have hlm : len ≤ m := by rw [hmm]; split <;> omega
  have each : ∀ i, i < len → ∃ q : Value × Value × Value, W.cell? (a.add (i * 3)) = some q.1 ∧ W.cell? (a.add (i * 3 + 1)) = some q.2.1 ∧ W.cell? (a.add (i * 3 + 2)) = some q.2.2 ∧
      ∃ n y0 y1 y2, DataW.trod enc P W base spare held n f0.type [q.1] = some y0 ∧ DataW.trod enc P W base spare held n f1.type [q.2.1] = some y1 ∧ DataW.trod enc P W base spare held n f2.type [q.2.2] = some y2 := by
    intro i hi
    obtain ⟨cs', h1, h2⟩ := hx i (by omega)
    rw [ce] at h1
    obtain ⟨_, hlen, hcell⟩ := World.cells?_some h1
    obtain ⟨xs, k, hk, hxy, _, hxl, hf⟩ := DataW.trod_struct he h2
    match xs, hxl, cs', hlen with
    | [y0, y1, y2], _, [v0, v1, v2], _ =>
      have g0 := hf 0 f0 rfl
      have g1 := hf 1 f1 rfl
      have g2 := hf 2 f2 rfl
      simp [o0, o1, o2, c0, c1, c2] at g0 g1 g2
      have e0 := hcell 0 (by omega)
      have e1 := hcell 1 (by omega)
      have e2 := hcell 2 (by omega)
      rw [Deep.add_add] at e0 e1 e2
      exact ⟨(v0, v1, v2), by simpa using e0, by simpa using e1, by simpa using e2, k, y0, y1, y2, g0, g1, g2⟩
  obtain ⟨q, hq⟩ := Deep.choose_lt each
  exact ⟨a, len, cap, q, rfl, hl, hm, hq⟩

theorem range_get {α : Type} {len : Nat} {Y : Nat → α} {j : Nat} {p : α} (hj : ((List.range len).map Y)[j]? = some p) : j < len ∧ p = Y j := by
  rw [List.getElem?_map] at hj
  cases hr : (List.range len)[j]? with
  | none => rw [hr] at hj; cases hj
  | some i =>
    rw [hr] at hj
    have h1 := (List.getElem?_eq_some_iff.1 hr).1
    rw [List.length_range] at h1
    rw [List.getElem?_range h1] at hr
    injection hr with hr
    simp only [Option.map_some, Option.some.injEq] at hj
    exact ⟨h1, by rw [← hj, ← hr]⟩
theorem spot_none {w : World} {a : Addr} {k : Nat} {v : Value} (h : w.cell? (a.add k) = some v) (hk : k = 0) : a.spot = none := by
  obtain ⟨b, off, spot⟩ := a
  subst hk
  simpa [Addr.add] using World.cell?_spot h

/-- Strings. -/
theorem strs_of_open (ht : P.underlying t = some (.slice e)) (he : P.underlying e = some .string) (ce : P.cellsOf e = 1) {v : Value} 
    (hf : DataW.trod enc P W base (fun _ => true) held fuel t [v] = some x) :
    ∃ fr : List (List UInt8), Reads W v fr.length (fr.map S) ∧ ∀ s ∈ fr, s.length ≤ 9223372036854775807 := by
  rcases Deep.open_slice1 ht ce hf with ⟨hcs, _⟩ | ⟨ad, len, cap, m, n, V, D, Pl, hcs, hb, hl, hm, hmm, hx, hall⟩
  · simp at hcs
    subst hcs
    exact ⟨[], ⟨rfl, none, 0, rfl, Nat.le_refl _, by simp, fun h => absurd rfl h⟩, by simp⟩
  · simp at hcs
    subst hcs
    simp only [if_true] at hmm
    subst hmm
    have each : ∀ i, i < len → ∃ y : List UInt8, V i = S y ∧ y.length ≤ 9223372036854775807 := by
      intro i hi
      obtain ⟨s, e2, _, hs⟩ := DataW.trod_string he (hall i (by omega)).2
      simp at e2
      refine ⟨s.data.toList, by rw [e2]; rfl, ?_⟩
      unfold maxLen at hs
      have : s.data.toList.length = s.size := Array.length_toList
      omega
    obtain ⟨Y, hY⟩ := Deep.choose_lt each
    refine ⟨(List.range len).map Y, ⟨by simp, some ad, m, by simp, by simpa using hl, hm, fun h0 => ?_⟩, fun s hs => ?_⟩
    · have h0' : 0 < len := by
        rcases Nat.eq_zero_or_pos len with h | h
        · subst h; simp at h0
        · exact h
      have hspot := spot_none (hall 0 (by omega)).1 rfl
      obtain ⟨b, off, spot⟩ := ad
      simp only at hspot
      subst hspot
      refine ⟨b, off, rfl, fun j u hu => ?_⟩
      rw [List.map_map] at hu
      obtain ⟨h1, h2⟩ := range_get hu
      have := (hall j (by omega)).1
      rw [add_plain4] at this
      rw [this, h2, Function.comp, (hY j h1).1]
    · obtain ⟨i, hi, rfl⟩ := List.mem_map.1 hs
      exact (hY i (List.mem_range.1 hi)).2

/-- Commands. -/
theorem cmds_of_open {f0 f1 f2 : Field} (ht : P.underlying t = some (.slice e)) (he : P.underlying e = some (.struct #[f0, f1, f2]))
    (ce : P.cellsOf e = 3) (o0 : f0.offset = 0) (o1 : f1.offset = 1) (o2 : f2.offset = 2) (c0 : P.cellsOf f0.type = 1) (c1 : P.cellsOf f1.type = 1) (c2 : P.cellsOf f2.type = 1)
    (u0 : P.underlying f0.type = some (.int .i64)) (u1 : P.underlying f1.type = some .string) (u2 : P.underlying f2.type = some (.int .i64)) {v : Value}
    (hf : DataW.trod enc P W base (fun _ => true) held fuel t [v] = some x) : ∃ cs : List Cmd, RCmds W v cs ∧ FitsC cs ∧ ∀ n c, v = .slice none n c → c = 0 := by
  rcases open_triples ht he ce o0 o1 o2 c0 c1 c2 hf with hcs | ⟨a, len, cap, V, hcs, hl, hm, hall⟩
  · simp at hcs
    subst hcs
    exact ⟨[], ⟨none, 0, rfl, Nat.le_refl _, by simp, fun h => absurd rfl h⟩, (by intro c hc; cases hc), fun n c e => by injection e with _ _ e; exact e.symm⟩
  · simp at hcs
    subst hcs
    have each : ∀ i, i < len → ∃ c : Cmd, V i = (.int .i64 c.kind, .string ⟨c.word.toArray⟩, .int .i64 c.n) ∧ c.word.length ≤ 9223372036854775807 := by
      intro i hi
      obtain ⟨_, _, _, n, y0, y1, y2, g0, g1, g2⟩ := hall i hi
      obtain ⟨k, e1, _, _⟩ := DataW.trod_int u0 g0
      obtain ⟨s, e2, _, hs⟩ := DataW.trod_string u1 g1
      obtain ⟨n, e3, _, _⟩ := DataW.trod_int u2 g2
      simp at e1 e2 e3
      refine ⟨⟨k, s.data.toList, n⟩, by rw [← e1, ← e3]; exact Prod.ext rfl (Prod.ext e2 rfl), ?_⟩
      unfold maxLen at hs
      have : s.data.toList.length = s.size := Array.length_toList
      show s.data.toList.length ≤ _
      omega
    haveI : Inhabited Cmd := ⟨⟨0, [], 0⟩⟩
    obtain ⟨Y, hY⟩ := Deep.choose_lt each
    refine ⟨(List.range len).map Y, ⟨some a, cap, by simp, by simpa using hl, hm, fun h0 => ?_⟩, fun c hc => ?_, fun n c e => by injection e with e; cases e⟩
    · have h0' : 0 < len := by
        rcases Nat.eq_zero_or_pos len with h | h
        · subst h; simp at h0
        · exact h
      have hspot := spot_none (hall 0 h0').1 rfl
      obtain ⟨b, off, spot⟩ := a
      simp only at hspot
      subst hspot
      refine ⟨b, off, rfl, fun j u hu => ?_⟩
      obtain ⟨h1, h2⟩ := range_get hu
      subst h2
      obtain ⟨b0, b1, b2, _⟩ := hall j h1
      rw [add_plain4, (hY j h1).1] at b0 b1 b2
      exact ⟨b0, b1, b2⟩
    · obtain ⟨i, hi, rfl⟩ := List.mem_map.1 hc
      exact (hY i (List.mem_range.1 hi)).2

theorem line_of_open {vf vd vt : Value} {n : Nat} {y0 y1 y2 : DataW H × List MemPlace} (g0 : DataW.trod enc Tryd.prog W base (fun _ => true) held n 29 [vf] = some y0) (g1 : DataW.trod enc Tryd.prog W base (fun _ => true) held n 30 [vd] = some y1) (g2 : DataW.trod enc Tryd.prog W base (fun _ => true) held n 9 [vt] = some y2) :
    ∃ x : SLine, vt = .string ⟨x.to.toArray⟩ ∧ Reads W vf x.fr.length (x.fr.map S) ∧ RCmds W vd x.cs ∧ FitsL x ∧ ∀ n c, vd = .slice none n c → c = 0 := by
  obtain ⟨fr, r1, r2⟩ := strs_of_open Tryd.underlying29 Tryd.underlying9 (by kernel_rfl) g0
  obtain ⟨cs, r3, r4, r5⟩ := cmds_of_open Tryd.underlying30 Tryd.underlying53 (by kernel_rfl) rfl rfl rfl (by kernel_rfl) (by kernel_rfl) (by kernel_rfl) Tryd.underlying3 Tryd.underlying9 Tryd.underlying3 g1
  obtain ⟨s, e2, _, hs⟩ := DataW.trod_string Tryd.underlying9 g2
  simp at e2
  refine ⟨⟨fr, cs, s.data.toList⟩, e2, r1, r3, ⟨r2, r4, ?_⟩, r5⟩
  unfold maxLen at hs
  have : s.data.toList.length = s.size := Array.length_toList
  show s.data.toList.length ≤ _
  omega
end Go.Proofs.YtkifihcficobnabDoor
