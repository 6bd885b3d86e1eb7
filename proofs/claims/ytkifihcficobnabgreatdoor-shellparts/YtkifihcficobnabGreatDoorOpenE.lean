/- From the reading of a line of a script to one that can be read. From the reading of a slice of lines of a script to one that can be read. From the reading of an argument to a slice that can be read. From the reading of a slice of files to one that can be read. From the reading of a graph to nodes that can be read. From the reading of bytes to a slice that can be read, and how many they are. -/
import Derived.Test.YtkifihcficobnabGreatDoorProg
import Derived.WalkKit
import Derived.ProofKit
import Derived.OpenShut
import Derived.SliceStrings
import Derived.Test.YtkifihcficobnabGreatDoorPlainE
import Derived.Deep.Slices
import Derived.ChangeSame
import Derived.Deep.SlicePairs
import Derived.Lib.SmallJoins
import Derived.SizedLaws
namespace Go.Proofs.YtkifihcficobnabGreatDoor
open Go.RowKit Go.Gs Go.ChangeShapes Go.WideShapes Go.ChangeAt
set_option linter.unusedVariables false
variable {P : Program} {H : Type} {enc : TypeId × Value → H} {W : World} {base : Nat} {held : Bool} {fuel : Nat} {t e q : TypeId} {x : DataW H × List MemPlace}

theorem add_plain4 {b off j : Nat} : (⟨b, off, none⟩ : Addr).add j = ⟨b, off + j, none⟩ := by unfold Addr.add; split <;> simp_all
/-- A slice of structs of three one-cell fields, opened at every index. -/
theorem open_triples {spare : Nat → Bool} {f0 f1 f2 : Field} {cs : List Value} (ht : P.underlying t = some (.slice e)) (he : P.underlying e = some (.struct #[f0, f1, f2]))
    (ce : P.cellsOf e = 3) (o0 : f0.offset = 0) (o1 : f1.offset = 1) (o2 : f2.offset = 2) (c0 : P.cellsOf f0.type = 1) (c1 : P.cellsOf f1.type = 1) (c2 : P.cellsOf f2.type = 1)
    (h : DataW.trod enc P W base spare held fuel t cs = some x) :
    cs = [.slice none 0 0] ∨
    ∃ (a : Addr) (len cap : Nat) (V : Nat → Value × Value × Value), cs = [.slice (some a) len cap] ∧ len ≤ cap ∧ cap ≤ maxLen ∧
      ∀ i, i < len → W.cell? (a.add (i * 3)) = some (V i).1 ∧ W.cell? (a.add (i * 3 + 1)) = some (V i).2.1 ∧ W.cell? (a.add (i * 3 + 2)) = some (V i).2.2 ∧
        ∃ n y0 y1 y2, DataW.trod enc P W base spare held n f0.type [(V i).1] = some y0 ∧ DataW.trod enc P W base spare held n f1.type [(V i).2.1] = some y1 ∧ DataW.trod enc P W base spare held n f2.type [(V i).2.2] = some y2 := by
  rcases Deep.open_slice ht h with ⟨h0, _⟩ | ⟨a, len, cap, m, n, D, Pl, rfl, hb, hl, hm, hmm, rfl, hx⟩
  · exact Or.inl h0
  right
  have hlm : len ≤ m := by rw [hmm]; split <;> omega
  have each : ∀ i, i < len → ∃ q : Value × Value × Value, W.cell? (a.add (i * 3)) = some q.1 ∧ W.cell? (a.add (i * 3 + 1)) = some q.2.1 ∧ W.cell? (a.add (i * 3 + 2)) = some q.2.2 ∧
      ∃ n y0 y1 y2, DataW.trod enc P W base spare held n f0.type [q.1] = some y0 ∧ DataW.trod enc P W base spare held n f1.type [q.2.1] = some y1 ∧ DataW.trod enc P W base spare held n f2.type [q.2.2] = some y2 := by
    intro i hi
    obtain ⟨cs', h1, h2⟩ := hx i (by omega)
    rw [ce] at h1
    obtain ⟨_, hlen, hcell⟩ := World.cells?_some h1
    obtain ⟨xs, k, hk, hxy, _, hxl, hf⟩ := DataW.trod_struct he h2
    match xs, hxl, cs', hlen with
    | [y0, y1, y2], _, [v0, v1, v2], _ =>
      have g0 := hf 0 f0 rfl
      have g1 := hf 1 f1 rfl
      have g2 := hf 2 f2 rfl
      simp [o0, o1, o2, c0, c1, c2] at g0 g1 g2
      have e0 := hcell 0 (by omega)
      have e1 := hcell 1 (by omega)
      have e2 := hcell 2 (by omega)
      rw [Deep.add_add] at e0 e1 e2
      exact ⟨(v0, v1, v2), by simpa using e0, by simpa using e1, by simpa using e2, k, y0, y1, y2, g0, g1, g2⟩
  obtain ⟨q, hq⟩ := Deep.choose_lt each
  exact ⟨a, len, cap, q, rfl, hl, hm, hq⟩

theorem range_get {α : Type} {len : Nat} {Y : Nat → α} {j : Nat} {p : α} (hj : ((List.range len).map Y)[j]? = some p) : j < len ∧ p = Y j := by
  rw [List.getElem?_map] at hj
  cases hr : (List.range len)[j]? with
  | none => rw [hr] at hj; cases hj
  | some i =>
    rw [hr] at hj
    have h1 := (List.getElem?_eq_some_iff.1 hr).1
    rw [List.length_range] at h1
    rw [List.getElem?_range h1] at hr
    injection hr with hr
    simp only [Option.map_some, Option.some.injEq] at hj
    exact ⟨h1, by rw [← hj, ← hr]⟩
theorem spot_none {w : World} {a : Addr} {k : Nat} {v : Value} (h : w.cell? (a.add k) = some v) (hk : k = 0) : a.spot = none := by
  obtain ⟨b, off, spot⟩ := a
  subst hk
  simpa [Addr.add] using World.cell?_spot h

/-- Strings. -/
theorem strs_of_open (ht : P.underlying t = some (.slice e)) (he : P.underlying e = some .string) (ce : P.cellsOf e = 1) {v : Value} 
    (hf : DataW.trod enc P W base (fun _ => true) held fuel t [v] = some x) :
    ∃ fr : List (List UInt8), Reads W v fr.length (fr.map S) ∧ ∀ s ∈ fr, s.length ≤ 9223372036854775807 := by
  rcases Deep.open_slice1 ht ce hf with ⟨hcs, _⟩ | ⟨ad, len, cap, m, n, V, D, Pl, hcs, hb, hl, hm, hmm, hx, hall⟩
  · simp at hcs
    subst hcs
    exact ⟨[], ⟨rfl, none, 0, rfl, Nat.le_refl _, by simp, fun h => absurd rfl h⟩, by simp⟩
  · simp at hcs
    subst hcs
    simp only [if_true] at hmm
    subst hmm
    have each : ∀ i, i < len → ∃ y : List UInt8, V i = S y ∧ y.length ≤ 9223372036854775807 := by
      intro i hi
      obtain ⟨s, e2, _, hs⟩ := DataW.trod_string he (hall i (by omega)).2
      simp at e2
      refine ⟨s.data.toList, by rw [e2]; rfl, ?_⟩
      unfold maxLen at hs
      have : s.data.toList.length = s.size := Array.length_toList
      omega
    obtain ⟨Y, hY⟩ := Deep.choose_lt each
    refine ⟨(List.range len).map Y, ⟨by simp, some ad, m, by simp, by simpa using hl, hm, fun h0 => ?_⟩, fun s hs => ?_⟩
    · have h0' : 0 < len := by
        rcases Nat.eq_zero_or_pos len with h | h
        · subst h; simp at h0
        · exact h
      have hspot := spot_none (hall 0 (by omega)).1 rfl
      obtain ⟨b, off, spot⟩ := ad
      simp only at hspot
      subst hspot
      refine ⟨b, off, rfl, fun j u hu => ?_⟩
      rw [List.map_map] at hu
      obtain ⟨h1, h2⟩ := range_get hu
      have := (hall j (by omega)).1
      rw [add_plain4] at this
      rw [this, h2, Function.comp, (hY j h1).1]
    · obtain ⟨i, hi, rfl⟩ := List.mem_map.1 hs
      exact (hY i (List.mem_range.1 hi)).2

/-- Commands. -/
theorem cmds_of_open {f0 f1 f2 : Field} (ht : P.underlying t = some (.slice e)) (he : P.underlying e = some (.struct #[f0, f1, f2]))
    (ce : P.cellsOf e = 3) (o0 : f0.offset = 0) (o1 : f1.offset = 1) (o2 : f2.offset = 2) (c0 : P.cellsOf f0.type = 1) (c1 : P.cellsOf f1.type = 1) (c2 : P.cellsOf f2.type = 1)
    (u0 : P.underlying f0.type = some (.int .i64)) (u1 : P.underlying f1.type = some .string) (u2 : P.underlying f2.type = some (.int .i64)) {v : Value}
    (hf : DataW.trod enc P W base (fun _ => true) held fuel t [v] = some x) : ∃ cs : List Cmd, RCmds W v cs ∧ FitsC cs ∧ ∀ n c, v = .slice none n c → c = 0 := by
  rcases open_triples ht he ce o0 o1 o2 c0 c1 c2 hf with hcs | ⟨a, len, cap, V, hcs, hl, hm, hall⟩
  · simp at hcs
    subst hcs
    exact ⟨[], ⟨none, 0, rfl, Nat.le_refl _, by simp, fun h => absurd rfl h⟩, (by intro c hc; cases hc), fun n c e => by injection e with _ _ e; exact e.symm⟩
  · simp at hcs
    subst hcs
    have each : ∀ i, i < len → ∃ c : Cmd, V i = (.int .i64 c.kind, .string ⟨c.word.toArray⟩, .int .i64 c.n) ∧ c.word.length ≤ 9223372036854775807 := by
      intro i hi
      obtain ⟨_, _, _, n, y0, y1, y2, g0, g1, g2⟩ := hall i hi
      obtain ⟨k, e1, _, _⟩ := DataW.trod_int u0 g0
      obtain ⟨s, e2, _, hs⟩ := DataW.trod_string u1 g1
      obtain ⟨n, e3, _, _⟩ := DataW.trod_int u2 g2
      simp at e1 e2 e3
      refine ⟨⟨k, s.data.toList, n⟩, by rw [← e1, ← e3]; exact Prod.ext rfl (Prod.ext e2 rfl), ?_⟩
      unfold maxLen at hs
      have : s.data.toList.length = s.size := Array.length_toList
      show s.data.toList.length ≤ _
      omega
    haveI : Inhabited Cmd := ⟨⟨0, [], 0⟩⟩
    obtain ⟨Y, hY⟩ := Deep.choose_lt each
    refine ⟨(List.range len).map Y, ⟨some a, cap, by simp, by simpa using hl, hm, fun h0 => ?_⟩, fun c hc => ?_, fun n c e => by injection e with e; cases e⟩
    · have h0' : 0 < len := by
        rcases Nat.eq_zero_or_pos len with h | h
        · subst h; simp at h0
        · exact h
      have hspot := spot_none (hall 0 h0').1 rfl
      obtain ⟨b, off, spot⟩ := a
      simp only at hspot
      subst hspot
      refine ⟨b, off, rfl, fun j u hu => ?_⟩
      obtain ⟨h1, h2⟩ := range_get hu
      subst h2
      obtain ⟨b0, b1, b2, _⟩ := hall j h1
      rw [add_plain4, (hY j h1).1] at b0 b1 b2
      exact ⟨b0, b1, b2⟩
    · obtain ⟨i, hi, rfl⟩ := List.mem_map.1 hc
      exact (hY i (List.mem_range.1 hi)).2

theorem line_of_open {vf vd vt : Value} {n : Nat} {y0 y1 y2 : DataW H × List MemPlace} (g0 : DataW.trod enc Tryz.prog W base (fun _ => true) held n 37 [vf] = some y0) (g1 : DataW.trod enc Tryz.prog W base (fun _ => true) held n 38 [vd] = some y1) (g2 : DataW.trod enc Tryz.prog W base (fun _ => true) held n 9 [vt] = some y2) :
    ∃ x : SLine, vt = .string ⟨x.to.toArray⟩ ∧ Reads W vf x.fr.length (x.fr.map S) ∧ RCmds W vd x.cs ∧ FitsL x ∧ ∀ n c, vd = .slice none n c → c = 0 := by
  obtain ⟨fr, r1, r2⟩ := strs_of_open Tryz.underlying37 Tryz.underlying9 (by kernel_rfl) g0
  obtain ⟨cs, r3, r4, r5⟩ := cmds_of_open Tryz.underlying38 Tryz.underlying59 (by kernel_rfl) rfl rfl rfl (by kernel_rfl) (by kernel_rfl) (by kernel_rfl) Tryz.underlying3 Tryz.underlying9 Tryz.underlying3 g1
  obtain ⟨s, e2, _, hs⟩ := DataW.trod_string Tryz.underlying9 g2
  simp at e2
  refine ⟨⟨fr, cs, s.data.toList⟩, e2, r1, r3, ⟨r2, r4, ?_⟩, r5⟩
  unfold maxLen at hs
  have : s.data.toList.length = s.size := Array.length_toList
  show s.data.toList.length ≤ _
  omega
end Go.Proofs.YtkifihcficobnabGreatDoor
namespace Go.Proofs.YtkifihcficobnabGreatDoor
open Go.RowKit Go.Gs Go.ChangeShapes Go.WideShapes Go.ChangeAt
set_option linter.unusedVariables false

variable {P : Program} {H : Type} {enc : TypeId × Value → H} {W : World} {base : Nat} {held : Bool} {fuel : Nat} {t e q : TypeId} {x : DataW H × List MemPlace}

theorem script_of_open {v : Value} (hf : DataW.trod enc Tryz.prog W base (fun _ => true) held fuel 23 [v] = some x) :
    ∃ ls : List SLine, RLines W v ls ∧ (∀ x ∈ ls, FitsL x) ∧ ∀ n c, v = .slice none n c → c = 0 := by
  rcases open_triples Tryz.underlying23 Tryz.underlying40 (by kernel_rfl) rfl rfl rfl (by kernel_rfl) (by kernel_rfl) (by kernel_rfl) hf with hcs | ⟨a, len, cap, V, hcs, hl, hm, hall⟩
  · simp at hcs
    subst hcs
    exact ⟨[], ⟨none, 0, rfl, Nat.le_refl _, by simp, fun h => absurd rfl h⟩, (by intro c hc; cases hc), fun n c e => by injection e with _ _ e; exact e.symm⟩
  · simp at hcs
    subst hcs
    have each : ∀ i, i < len → ∃ x : SLine, (V i).2.2 = .string ⟨x.to.toArray⟩ ∧ Reads W (V i).1 x.fr.length (x.fr.map S) ∧ RCmds W (V i).2.1 x.cs ∧ FitsL x := by
      intro i hi
      obtain ⟨_, _, _, n, y0, y1, y2, g0, g1, g2⟩ := hall i hi
      obtain ⟨x, q1, q2, q3, q4, _⟩ := line_of_open g0 g1 g2
      exact ⟨x, q1, q2, q3, q4⟩
    haveI : Inhabited SLine := ⟨⟨[], [], []⟩⟩
    obtain ⟨Y, hY⟩ := Deep.choose_lt each
    refine ⟨(List.range len).map Y, ⟨some a, cap, by simp, by simpa using hl, hm, fun h0 => ?_⟩, fun c hc => ?_, fun n c e => by injection e with e; cases e⟩
    · have h0' : 0 < len := by
        rcases Nat.eq_zero_or_pos len with h | h
        · subst h; simp at h0
        · exact h
      have hspot := spot_none (hall 0 h0').1 rfl
      obtain ⟨b, off, spot⟩ := a
      simp only at hspot
      subst hspot
      refine ⟨b, off, rfl, fun j u hu => ?_⟩
      obtain ⟨h1, h2⟩ := range_get hu
      subst h2
      obtain ⟨b0, b1, b2, _⟩ := hall j h1
      obtain ⟨q1, q2, q3, _⟩ := hY j h1
      rw [add_plain4] at b0 b1 b2
      exact ⟨_, _, b0, b1, by rw [Nat.add_assoc, b2, q1], q2, q3⟩
    · obtain ⟨i, hi, rfl⟩ := List.mem_map.1 hc
      exact (hY i (List.mem_range.1 hi)).2.2.2
end Go.Proofs.YtkifihcficobnabGreatDoor
namespace Go.Gs
open Go.RowKit Go.ChangeShapes Go.WideShapes Go.ChangeAt
set_option linter.unusedVariables false
variable {P : Program} {H : Type} {enc : TypeId × Value → H} {W : World} {base : Nat} {held : Bool} {fuel : Nat} {t e : TypeId} {a : Option Addr} {len cap : Nat} {x : DataW H × List MemPlace}

theorem add_plain {b off j : Nat} : (⟨b, off, none⟩ : Addr).add j = ⟨b, off + j, none⟩ := by unfold Addr.add; split <;> simp_all

theorem U_of {z : Int} (h : (Lit.int .u8 z).wf = true) : U (UInt8.ofNat z.toNat) = .int .u8 z := by
  have hx : 0 ≤ z ∧ z ≤ 255 := by simpa [Lit.wf, IntKind.min, IntKind.max, IntKind.signed, IntKind.bits] using h
  have : ((UInt8.ofNat z.toNat).toNat : Int) = z := by
    rw [UInt8.toNat_ofNat_of_lt' (by show _ < 256; omega)]
    omega
  simp only [U, this]

theorem bytes_of_open (ht : P.underlying t = some (.slice e)) (he : P.underlying e = some (.int .u8)) (hc : P.cellsOf e = 1)
    (hf : DataW.trod enc P W base (fun _ => true) held fuel t [.slice a len cap] = some x) :
    ∃ bs : List UInt8, bs.length = len ∧ Reads W (.slice a len cap) bs.length (bs.map U) := by
  rcases open_ints ht he hc hf with ⟨hcs, _⟩ | ⟨ad, l, c, zs, hcs, _, hl, hm, hz, _, hcell, hwz⟩
  · simp at hcs
    obtain ⟨rfl, rfl, rfl⟩ := hcs
    exact ⟨[], rfl, rfl, none, 0, rfl, Nat.le_refl _, by simp, fun h => absurd rfl h⟩
  · simp at hcs
    obtain ⟨rfl, rfl, rfl⟩ := hcs
    have hz' : zs.length = cap := by simpa using hz
    have hbl : ((zs.take len).map (fun z => UInt8.ofNat z.toNat)).length = len := by simp; omega
    refine ⟨(zs.take len).map (fun z => UInt8.ofNat z.toNat), hbl, by simp, some ad, cap, by rw [hbl], by omega, hm, fun h0 => ?_⟩
    rw [hbl] at h0
    obtain ⟨b, off, spot⟩ := ad
    have h00 := hcell 0 (by omega)
    have hspot : spot = none := by simpa [Addr.add] using World.cell?_spot h00
    subst hspot
    refine ⟨b, off, rfl, fun j u hu => ?_⟩
    have hj : j < len := by
      have := (List.getElem?_eq_some_iff.1 hu).1
      simp at this
      omega
    have hjz : j < zs.length := by omega
    have hcj := hcell j hjz
    rw [add_plain] at hcj
    rw [hcj]
    simp only [List.map_map, List.getElem?_map, List.getElem?_take, hj, if_true, List.getElem?_eq_getElem hjz, Option.map_some, Function.comp_apply, Option.some.injEq] at hu
    rw [U_of (hwz _ (List.getElem_mem hjz))] at hu
    rw [← hu]
    simp [hjz]

theorem strs_of_open (ht : P.underlying t = some (.slice e)) (he : P.underlying e = some .string) (hc : P.cellsOf e = 1)
    (hf : DataW.trod enc P W base (fun _ => true) held fuel t [.slice a len cap] = some x) :
    ∃ ls : List (List UInt8), ls.length = len ∧ Reads W (.slice a len cap) ls.length (ls.map S) ∧ ∀ s ∈ ls, s.length ≤ 9223372036854775807 := by
  rcases open_strings ht he hc hf with ⟨hcs, _⟩ | ⟨ad, l, c, ss, hcs, _, hl, hm, hz, _, hcell, hwz⟩
  · simp at hcs
    obtain ⟨rfl, rfl, rfl⟩ := hcs
    exact ⟨[], rfl, ⟨rfl, none, 0, rfl, Nat.le_refl _, by simp, fun h => absurd rfl h⟩, by simp⟩
  · simp at hcs
    obtain ⟨rfl, rfl, rfl⟩ := hcs
    have hz' : ss.length = cap := by simpa using hz
    have hbl : ((ss.take len).map (fun s => s.data.toList)).length = len := by simp; omega
    refine ⟨(ss.take len).map (fun s => s.data.toList), hbl, ⟨by simp, some ad, cap, by rw [hbl], by omega, hm, fun h0 => ?_⟩, ?_⟩
    · rw [hbl] at h0
      obtain ⟨b, off, spot⟩ := ad
      have h00 := hcell 0 (by omega)
      have hspot : spot = none := by simpa [Addr.add] using World.cell?_spot h00
      subst hspot
      refine ⟨b, off, rfl, fun j u hu => ?_⟩
      have hj : j < len := by
        have := (List.getElem?_eq_some_iff.1 hu).1
        simp at this
        omega
      have hjz : j < ss.length := by omega
      have hcj := hcell j hjz
      rw [add_plain] at hcj
      rw [hcj]
      simp only [List.map_map, List.getElem?_map, List.getElem?_take, hj, if_true, List.getElem?_eq_getElem hjz, Option.map_some, Function.comp_apply, Option.some.injEq] at hu
      rw [← hu]
      simp [hjz, S]
    · intro s hs
      simp only [List.mem_map] at hs
      obtain ⟨y, hy, rfl⟩ := hs
      have h1 : y.size ≤ maxLen := hwz y (List.mem_of_mem_take hy)
      have h2 : y.data.toList.length = y.size := Array.length_toList
      unfold maxLen at h1
      omega
end Go.Gs
namespace Go.Proofs.YtkifihcficobnabGreatDoor
open Go.RowKit Go.Gs Go.ChangeShapes Go.WideShapes Go.ChangeAt
set_option linter.unusedVariables false
variable {H : Type} {enc : TypeId × Value → H} {W : World} {base : Nat} {held : Bool} {fuel : Nat} {x : DataW H × List MemPlace}

theorem spot_none5 {w : World} {a : Addr} {k : Nat} {v : Value} (h : w.cell? (a.add k) = some v) (hk : k = 0) : a.spot = none := by
  obtain ⟨b, off, spot⟩ := a
  subst hk
  simpa [Addr.add] using World.cell?_spot h
theorem files_of_open {v : Value} (hf : DataW.trod enc Tryz.prog W base (fun _ => true) held fuel 22 [v] = some x) :
    ∃ fs : List SFile, RFiles W v fs ∧ (∀ f ∈ fs, FitsF f) ∧ ∀ n c, v = .slice none n c → c = 0 := by
  rcases Deep.open_slice_pairs Tryz.underlying22 Tryz.underlying45 (by kernel_rfl) rfl rfl (by kernel_rfl) (by kernel_rfl) hf with ⟨hcs, _⟩ | ⟨a, len, cap, m, n, V0, V1, D0, D1, P0, P1, hcs, hb, hl, hm, hmm, _, hall⟩
  · simp at hcs
    subst hcs
    exact ⟨[], ⟨none, 0, rfl, Nat.le_refl _, by simp, fun h => absurd rfl h⟩, (by intro c hc; cases hc), fun n c e => by injection e with _ _ e; exact e.symm⟩
  · simp at hcs
    subst hcs
    simp only [if_true] at hmm
    subst hmm
    have each : ∀ i, i < len → ∃ f : SFile, V0 i = .string ⟨f.name.toArray⟩ ∧ Reads W (V1 i) f.b.length (f.b.map U) ∧ FitsF f := by
      intro i hi
      obtain ⟨_, _, g0, g1⟩ := hall i (by omega)
      obtain ⟨s, e2, _, hs⟩ := DataW.trod_string Tryz.underlying9 g0
      simp at e2
      obtain ⟨a', l', c', hv⟩ : ∃ a' l' c', V1 i = .slice a' l' c' := by
        rcases open_ints Tryz.underlying24 Tryz.underlying5 (by kernel_rfl) g1 with ⟨hcs, _⟩ | ⟨ad', l', c', zs, hcs, _⟩
        · exact ⟨none, 0, 0, by simpa using hcs⟩
        · exact ⟨some ad', l', c', by simpa using hcs⟩
      rw [hv] at g1 ⊢
      obtain ⟨bs, hbl, hr⟩ := bytes_of_open Tryz.underlying24 Tryz.underlying5 (by kernel_rfl) g1
      refine ⟨⟨s.data.toList, bs⟩, e2, hr, ?_⟩
      unfold FitsF
      unfold maxLen at hs
      have : s.data.toList.length = s.size := Array.length_toList
      show s.data.toList.length ≤ _
      omega
    haveI : Inhabited SFile := ⟨⟨[], []⟩⟩
    obtain ⟨Y, hY⟩ := Deep.choose_lt each
    have hget : ∀ (j : Nat) (p : SFile), ((List.range len).map Y)[j]? = some p → j < len ∧ p = Y j := by
      intro j p hj
      rw [List.getElem?_map] at hj
      by_cases h1 : j < len
      · rw [List.getElem?_range h1] at hj
        simp only [Option.map_some, Option.some.injEq] at hj
        exact ⟨h1, hj.symm⟩
      · rw [List.getElem?_eq_none (by simp; omega)] at hj
        cases hj
    refine ⟨(List.range len).map Y, ⟨some a, m, by simp, by simpa using hl, hm, fun h0 => ?_⟩, fun f hf => ?_, fun n c e => by injection e with e; cases e⟩
    · have h0' : 0 < len := by
        rcases Nat.eq_zero_or_pos len with h | h
        · subst h; simp at h0
        · exact h
      have hspot := spot_none5 (hall 0 (by omega)).1 rfl
      obtain ⟨b, off, spot⟩ := a
      simp only at hspot
      subst hspot
      refine ⟨b, off, rfl, fun j f hj => ?_⟩
      obtain ⟨h1, rfl⟩ := hget j f hj
      obtain ⟨c0, c1, _, _⟩ := hall j (by omega)
      obtain ⟨q0, q1, _⟩ := hY j h1
      rw [Gs.add_plain] at c0 c1
      exact ⟨V1 j, by rw [c0, q0], by rw [Nat.add_assoc]; exact c1, q1⟩
    · obtain ⟨i, hi, rfl⟩ := List.mem_map.1 hf
      exact (hY i (List.mem_range.1 hi)).2.2
end Go.Proofs.YtkifihcficobnabGreatDoor
namespace Go.Proofs.YtkifihcficobnabGreatDoor
open Go.RowKit Go.Gs Go.ChangeShapes Go.WideShapes Go.ChangeAt
set_option linter.unusedVariables false
variable {H : Type} {enc : TypeId × Value → H} {W : World} {base : Nat} {held : Bool} {fuel : Nat} {x : DataW H × List MemPlace}

theorem ports_of_open {v : Value} (hf : DataW.trod enc Tryz.prog W base (fun _ => true) held fuel 60 [v] = some x) :
    ∃ ps : List (Int × Int), RPorts W v ps ∧ ∀ p ∈ ps, (Lit.int .i64 p.1).wf = true ∧ (Lit.int .i64 p.2).wf = true := by
  rcases Deep.open_slice_pairs Tryz.underlying60 Tryz.underlying98 (by kernel_rfl) rfl rfl (by kernel_rfl) (by kernel_rfl) hf with ⟨hcs, _⟩ | ⟨a, len, cap, m, n, V0, V1, D0, D1, P0, P1, hcs, hb, hl, hm, hmm, _, hall⟩
  · simp at hcs
    subst hcs
    exact ⟨[], ⟨none, 0, rfl, Nat.le_refl _, by simp, fun h => absurd rfl h⟩, (by intro c hc; cases hc)⟩
  · simp at hcs
    subst hcs
    simp only [if_true] at hmm
    subst hmm
    have each : ∀ i, i < len → ∃ p : Int × Int, V0 i = .int .i64 p.1 ∧ V1 i = .int .i64 p.2 ∧ (Lit.int .i64 p.1).wf = true ∧ (Lit.int .i64 p.2).wf = true := by
      intro i hi
      obtain ⟨_, _, g0, g1⟩ := hall i (by omega)
      obtain ⟨z0, e0, _, w0⟩ := DataW.trod_int Tryz.underlying3 g0
      obtain ⟨z1, e1, _, w1⟩ := DataW.trod_int Tryz.underlying3 g1
      simp at e0 e1
      exact ⟨(z0, z1), e0, e1, w0, w1⟩
    obtain ⟨Y, hY⟩ := Deep.choose_lt each
    refine ⟨(List.range len).map Y, ⟨some a, m, by simp, by simpa using hl, hm, fun h0 => ?_⟩, fun p hp => ?_⟩
    · have h0' : 0 < len := by
        rcases Nat.eq_zero_or_pos len with h | h
        · subst h; simp at h0
        · exact h
      have hspot := spot_none (hall 0 (by omega)).1 rfl
      obtain ⟨b, off, spot⟩ := a
      simp only at hspot
      subst hspot
      refine ⟨b, off, rfl, fun j f hj => ?_⟩
      obtain ⟨h1, rfl⟩ := range_get hj
      obtain ⟨c0, c1, _, _⟩ := hall j (by omega)
      obtain ⟨q0, q1, _⟩ := hY j h1
      rw [add_plain4] at c0 c1
      exact ⟨by rw [c0, q0], by rw [Nat.add_assoc, c1, q1]⟩
    · obtain ⟨i, hi, rfl⟩ := List.mem_map.1 hp
      exact (hY i (List.mem_range.1 hi)).2.2

/-- A node's eight cells. -/
theorem eight {cs : List Value} (h : cs.length = 8) : ∃ v0 v1 v2 v3 v4 v5 v6 v7, cs = [v0, v1, v2, v3, v4, v5, v6, v7] := by
  match cs, h with
  | [v0, v1, v2, v3, v4, v5, v6, v7], _ => exact ⟨v0, v1, v2, v3, v4, v5, v6, v7, rfl⟩
theorem node_fields {P : Program} {t : TypeId} {f0 f1 f2 f3 f4 f5 : Field} {v0 v1 v2 v3 v4 v5 v6 v7 : Value} (he : P.underlying t = some (.struct #[f0, f1, f2, f3, f4, f5])) (o0 : f0.offset = 0) (o1 : f1.offset = 1) (o2 : f2.offset = 2) (o3 : f3.offset = 5) (o4 : f4.offset = 6) (o5 : f5.offset = 7)
    (c0 : P.cellsOf f0.type = 1) (c1 : P.cellsOf f1.type = 1) (c2 : P.cellsOf f2.type = 3) (c3 : P.cellsOf f3.type = 1) (c4 : P.cellsOf f4.type = 1) (c5 : P.cellsOf f5.type = 1)
    (h : DataW.trod enc P W base (fun _ => true) held fuel t [v0, v1, v2, v3, v4, v5, v6, v7] = some x) :
    ∃ k y0 y1 y2 y3 y4 y5, DataW.trod enc P W base (fun _ => true) held k f0.type [v0] = some y0 ∧ DataW.trod enc P W base (fun _ => true) held k f1.type [v1] = some y1 ∧ DataW.trod enc P W base (fun _ => true) held k f2.type [v2, v3, v4] = some y2 ∧ DataW.trod enc P W base (fun _ => true) held k f3.type [v5] = some y3 ∧ DataW.trod enc P W base (fun _ => true) held k f4.type [v6] = some y4 ∧ DataW.trod enc P W base (fun _ => true) held k f5.type [v7] = some y5 := by
  obtain ⟨xs, k, _, _, _, hxl, hf⟩ := DataW.trod_struct he h
  match xs, hxl with
  | [y0, y1, y2, y3, y4, y5], _ =>
    have g0 := hf 0 f0 rfl
    have g1 := hf 1 f1 rfl
    have g2 := hf 2 f2 rfl
    have g3 := hf 3 f3 rfl
    have g4 := hf 4 f4 rfl
    have g5 := hf 5 f5 rfl
    simp [o0, o1, o2, o3, o4, o5, c0, c1, c2, c3, c4, c5] at g0 g1 g2 g3 g4 g5
    exact ⟨k, y0, y1, y2, y3, y4, y5, g0, g1, g2, g3, g4, g5⟩
theorem cmd_fields {P : Program} {t : TypeId} {f0 f1 f2 : Field} {v0 v1 v2 : Value} (he : P.underlying t = some (.struct #[f0, f1, f2])) (o0 : f0.offset = 0) (o1 : f1.offset = 1) (o2 : f2.offset = 2) (c0 : P.cellsOf f0.type = 1) (c1 : P.cellsOf f1.type = 1) (c2 : P.cellsOf f2.type = 1)
    (h : DataW.trod enc P W base (fun _ => true) held fuel t [v0, v1, v2] = some x) :
    ∃ k y0 y1 y2, DataW.trod enc P W base (fun _ => true) held k f0.type [v0] = some y0 ∧ DataW.trod enc P W base (fun _ => true) held k f1.type [v1] = some y1 ∧ DataW.trod enc P W base (fun _ => true) held k f2.type [v2] = some y2 := by
  obtain ⟨xs, k, _, _, _, hxl, hf⟩ := DataW.trod_struct he h
  match xs, hxl with
  | [y0, y1, y2], _ =>
    have g0 := hf 0 f0 rfl
    have g1 := hf 1 f1 rfl
    have g2 := hf 2 f2 rfl
    simp [o0, o1, o2, c0, c1, c2] at g0 g1 g2
    exact ⟨k, y0, y1, y2, g0, g1, g2⟩
set_option maxRecDepth 100000 in
theorem node_of_open {cs : List Value} (hlen : cs.length = 8) (h : DataW.trod enc Tryz.prog W base (fun _ => true) held fuel 62 cs = some x) :
    ∃ (n : SNode) (ai : Option Addr) (ci : Nat), cs = [.int .i64 n.kind, .string ⟨n.file.toArray⟩, .int .i64 n.c.kind, .string ⟨n.c.word.toArray⟩, .int .i64 n.c.n, .int .i64 n.how, .int .i64 n.wide, .slice ai n.ins.length ci] ∧ RPorts W (.slice ai n.ins.length ci) n.ins ∧ FitsN n ∧ (Lit.int .i64 n.c.kind).wf = true := by
  obtain ⟨v0, v1, v2, v3, v4, v5, v6, v7, rfl⟩ := eight hlen
  obtain ⟨k, y0, y1, y2, y3, y4, y5, g0, g1, g2, g3, g4, g5⟩ := node_fields Tryz.underlying62 rfl rfl rfl rfl rfl rfl (by kernel_rfl) (by kernel_rfl) (by kernel_rfl) (by kernel_rfl) (by kernel_rfl) (by kernel_rfl) h
  obtain ⟨k2, q0, q1, q2, m0, m1, m2⟩ := cmd_fields Tryz.underlying59 rfl rfl rfl (by kernel_rfl) (by kernel_rfl) (by kernel_rfl) g2
  obtain ⟨nk, e0, _, _⟩ := DataW.trod_int Tryz.underlying3 g0
  obtain ⟨fx, e1, _, hs1⟩ := DataW.trod_string Tryz.underlying9 g1
  obtain ⟨ck, e2, _, hwf⟩ := DataW.trod_int Tryz.underlying3 m0
  obtain ⟨wx, e3, _, hs3⟩ := DataW.trod_string Tryz.underlying9 m1
  obtain ⟨cn, e4, _, _⟩ := DataW.trod_int Tryz.underlying3 m2
  obtain ⟨hw, e5, _, _⟩ := DataW.trod_int Tryz.underlying3 g3
  obtain ⟨wd, e6, _, _⟩ := DataW.trod_int Tryz.underlying3 g4
  obtain ⟨ps, hps, hwp⟩ := ports_of_open g5
  obtain ⟨ai, ci, e7, _, _⟩ := hps.shape
  simp only [List.cons.injEq, and_true] at e0 e1 e2 e3 e4 e5 e6
  unfold maxLen at hs1 hs3
  refine ⟨⟨nk, fx.data.toList, ⟨ck, wx.data.toList, cn⟩, hw, wd, ps⟩, ai, ci, ?_, by rw [← e7]; exact hps, ⟨?_, ?_, hwp⟩, hwf⟩
  · rw [e0, e1, e2, e3, e4, e5, e6, e7]
  · have : fx.data.toList.length = fx.size := Array.length_toList
    show fx.data.toList.length ≤ _
    omega
  · have : wx.data.toList.length = wx.size := Array.length_toList
    show wx.data.toList.length ≤ _
    omega

theorem nodes_of_open {v : Value} (hf : DataW.trod enc Tryz.prog W base (fun _ => true) held fuel 55 [v] = some x) :
    ∃ ns : List SNode, RNodes W v ns ∧ (∀ n ∈ ns, FitsN n) ∧ (∀ n ∈ ns, (Lit.int .i64 n.c.kind).wf = true) := by
  rcases Deep.open_slice Tryz.underlying55 hf with ⟨h0, _⟩ | ⟨a, len, cap, m, n, D, Pl, hcs, hb, hl, hm, hmm, _, hx⟩
  · simp at h0
    subst h0
    exact ⟨[], ⟨none, 0, rfl, Nat.le_refl _, by simp, fun h => absurd rfl h⟩, (by intro c hc; cases hc), (by intro c hc; cases hc)⟩
  · simp at hcs
    subst hcs
    have hlm : len ≤ m := by rw [hmm]; split <;> omega
    have each : ∀ i, i < len → ∃ p : SNode × Option Addr × Nat, (∀ (j : Nat) u, [Value.int .i64 p.1.kind, .string ⟨p.1.file.toArray⟩, .int .i64 p.1.c.kind, .string ⟨p.1.c.word.toArray⟩, .int .i64 p.1.c.n, .int .i64 p.1.how, .int .i64 p.1.wide, .slice p.2.1 p.1.ins.length p.2.2][j]? = some u → W.cell? (a.add (i * 8 + j)) = some u) ∧ RPorts W (.slice p.2.1 p.1.ins.length p.2.2) p.1.ins ∧ FitsN p.1 ∧ (Lit.int .i64 p.1.c.kind).wf = true := by
      intro i hi
      obtain ⟨cs', h1, h2⟩ := hx i (by omega)
      rw [show Tryz.prog.cellsOf 62 = 8 by kernel_rfl] at h1
      obtain ⟨_, hlen, hcell⟩ := World.cells?_some h1
      obtain ⟨nn, ai, ci, rfl, hp, hfn, hw⟩ := node_of_open hlen h2
      refine ⟨(nn, ai, ci), fun j u hj => ?_, hp, hfn, hw⟩
      have hjl : j < 8 := by have := (List.getElem?_eq_some_iff.1 hj).1; simpa using this
      have e := hcell j hjl
      rw [Deep.add_add] at e
      rw [e]
      exact hj
    haveI : Inhabited (SNode × Option Addr × Nat) := ⟨(⟨0, [], ⟨0, [], 0⟩, 0, 0, []⟩, none, 0)⟩
    obtain ⟨Y, hY⟩ := Deep.choose_lt each
    refine ⟨(List.range len).map (fun i => (Y i).1), ⟨some a, cap, by simp, by simpa using hl, hm, fun h0 => ?_⟩, fun q hq => ?_, fun q hq => ?_⟩
    · have h0' : 0 < len := by
        rcases Nat.eq_zero_or_pos len with h | h
        · subst h; simp at h0
        · exact h
      have hspot := spot_none ((hY 0 h0').1 0 _ rfl) rfl
      obtain ⟨b, off, spot⟩ := a
      simp only at hspot
      subst hspot
      refine ⟨b, off, rfl, fun j q hj => ?_⟩
      obtain ⟨h1, rfl⟩ := range_get hj
      obtain ⟨q0, q1, _, _⟩ := hY j h1
      have cell : ∀ (k : Nat) u, [Value.int .i64 (Y j).1.kind, .string ⟨(Y j).1.file.toArray⟩, .int .i64 (Y j).1.c.kind, .string ⟨(Y j).1.c.word.toArray⟩, .int .i64 (Y j).1.c.n, .int .i64 (Y j).1.how, .int .i64 (Y j).1.wide, .slice (Y j).2.1 (Y j).1.ins.length (Y j).2.2][k]? = some u → W.cell? ⟨b, off + j * 8 + k, none⟩ = some u := by
        intro k u hu
        have := q0 k u hu
        rw [add_plain4] at this
        rw [Nat.add_assoc]
        exact this
      exact ⟨(Y j).2.1, (Y j).2.2, ⟨cell 0 _ rfl, cell 1 _ rfl, cell 2 _ rfl, cell 3 _ rfl, cell 4 _ rfl, cell 5 _ rfl, cell 6 _ rfl, cell 7 _ rfl⟩, q1⟩
    · obtain ⟨i, hi, rfl⟩ := List.mem_map.1 hq
      exact (hY i (List.mem_range.1 hi)).2.2.1
    · obtain ⟨i, hi, rfl⟩ := List.mem_map.1 hq
      exact (hY i (List.mem_range.1 hi)).2.2.2
open Go.Joins in
theorem graph_field {P : Program} {r : Reach} {b0 : Nat} {t : TypeId} {f0 : Field} {v : Value} {d : DataW H} {p : List MemPlace} (hs : P.underlying t = some (.struct #[f0])) (o0 : f0.offset = 0) (hC : P.cellsOf t = 1) (k0 : P.cellsOf f0.type = 1)
    (hv : Value.okWide P W r b0 t v) (h : DataW.Trod enc P W base (fun _ => true) held t v d p) : ∃ c0 y n, v = .agg #[c0] ∧ DataW.trod enc P W base (fun _ => true) held n f0.type [c0] = some y := by
  obtain ⟨cs, rfl, hsz⟩ := okWide_struct hs hv
  obtain ⟨c0, rfl⟩ : ∃ c0, cs = #[c0] := by
    have h1 : cs.size = 1 := hsz.trans hC
    obtain ⟨l⟩ := cs
    match l, h1 with
    | [c0], _ => exact ⟨c0, rfl⟩
  obtain ⟨fuel, hf⟩ := h
  obtain ⟨xs, n, _, _, _, hxl, hg⟩ := DataW.trod_struct hs hf
  match xs, hxl with
  | [y0], _ =>
    have g0 := hg 0 f0 rfl
    exact ⟨c0, y0, n, rfl, by simpa [Value.cells, o0, k0] using g0⟩
set_option maxRecDepth 100000 in
theorem graph_of_open {r : Reach} {b0 : Nat} {v : Value} {d : DataW H} {p : List MemPlace} (hv : Value.okWide Tryz.prog W r b0 57 v) (h : DataW.Trod enc Tryz.prog W base (fun _ => true) held 57 v d p) :
    ∃ (ns : List SNode) (an : Option Addr) (capn : Nat), v = .agg #[.slice an ns.length capn] ∧ RNodes W (.slice an ns.length capn) ns ∧ (∀ n ∈ ns, FitsN n) ∧ ∀ n ∈ ns, (Lit.int .i64 n.c.kind).wf = true := by
  obtain ⟨c0, y, n, rfl, g1⟩ := graph_field Tryz.underlying57 rfl (by kernel_rfl) (by kernel_rfl) hv h
  obtain ⟨ns, e1, e2, e3⟩ := nodes_of_open g1
  obtain ⟨an, capn, rfl, _, _⟩ := e1.shape
  exact ⟨ns, an, capn, rfl, e1, e2, e3⟩
set_option maxRecDepth 100000 in
open Go.Joins in
theorem nodeArg_of_open {r : Reach} {b0 : Nat} {v : Value} {d : DataW H} {p : List MemPlace} (hv : Value.okWide Tryz.prog W r b0 62 v) (h : DataW.Trod enc Tryz.prog W base (fun _ => true) held 62 v d p) :
    ∃ (n : SNode) (ai : Option Addr) (ci : Nat), v = .agg #[.int .i64 n.kind, .string ⟨n.file.toArray⟩, .int .i64 n.c.kind, .string ⟨n.c.word.toArray⟩, .int .i64 n.c.n, .int .i64 n.how, .int .i64 n.wide, .slice ai n.ins.length ci] ∧ RPorts W (.slice ai n.ins.length ci) n.ins ∧ FitsN n := by
  obtain ⟨cs, rfl, hsz⟩ := okWide_struct Tryz.underlying62 hv
  obtain ⟨fuel, hf⟩ := h
  have h8 : Tryz.prog.cellsOf 62 = 8 := by kernel_rfl
  have hlen : cs.toList.length = 8 := by rw [Array.length_toList]; exact hsz.trans h8
  obtain ⟨n, ai, ci, e, h1, h2, _⟩ := node_of_open hlen (show DataW.trod enc Tryz.prog W base (fun _ => true) held fuel 62 cs.toList = _ from hf)
  refine ⟨n, ai, ci, ?_, h1, h2⟩
  obtain ⟨l⟩ := cs
  simp only at e
  subst e
  rfl
end Go.Proofs.YtkifihcficobnabGreatDoor
namespace Go.Gs
open Go.RowKit Go.ChangeShapes Go.WideShapes Go.ChangeAt
set_option linter.unusedVariables false
variable {P : Program} {H : Type} {enc : TypeId × Value → H} {W : World} {base : Nat} {held : Bool} {fuel : Nat} {t e : TypeId} {a : Option Addr} {len cap : Nat} {x : DataW H × List MemPlace}

theorem bytes_datum (ht : P.underlying t = some (.slice e)) (he : P.underlying e = some (.int .u8)) (hc : P.cellsOf e = 1)
    (hf : DataW.trod enc P W base (fun _ => true) held fuel t [.slice a len cap] = some x) : len = 0 ∨ ∃ elems spare, x.1 = .slice elems spare ∧ elems.length = len := by
  rcases open_ints ht he hc hf with ⟨hcs, _⟩ | ⟨ad, l, c, zs, hcs, _, hl, hm, hz, hx, hcell, hwz⟩
  · simp at hcs
    exact .inl hcs.2.1
  · simp at hcs
    obtain ⟨rfl, rfl, rfl⟩ := hcs
    have hz' : zs.length = cap := by simpa using hz
    refine .inr ⟨_, _, by rw [hx], ?_⟩
    simp [lits]
    omega

theorem bytes_few {ts : List TypeId} {ds : List (DataW H)} {d : DataW H} {j : Nat} (hsz : (DataW.weightsEach P ts ds).all (· ≤ reachBytes) = true) (hts : ts[j]? = some t) (hds : ds[j]? = some d) (ht : P.underlying t = some (.slice e)) (hb : P.bytesOf e = 1)
    (h : len = 0 ∨ ∃ elems spare, d = .slice elems spare ∧ elems.length = len) : len ≤ 1000000000000000 := by
  rcases h with rfl | ⟨elems, spare, rfl, hl⟩
  · omega
  · have := sized_slice hsz hts hds ht
    rw [hb] at this
    unfold reachBytes at this
    omega
end Go.Gs
