/- From the reading of an argument to a slice of bytes, or of integers, that can be read. -/
import Derived.Test.YtobaeafhdgolmabPlain
import Derived.ProofKit
import Derived.OpenShut
import Derived.SliceStrings
namespace Go.Gs
open Go.RowKit Go.ChangeShapes Go.WideShapes Go.ChangeAt
set_option linter.unusedVariables false
variable {P : Program} {H : Type} {enc : TypeId × Value → H} {W : World} {base : Nat} {held : Bool} {fuel : Nat} {t e : TypeId} {v : Value} {x : DataW H × List MemPlace}

theorem add_plainP {b off j : Nat} : (⟨b, off, none⟩ : Addr).add j = ⟨b, off + j, none⟩ := by unfold Addr.add; split <;> simp_all
theorem U_ofP {z : Int} (h : (Lit.int .u8 z).wf = true) : U (UInt8.ofNat z.toNat) = .int .u8 z := by
  have hx : 0 ≤ z ∧ z ≤ 255 := by simpa [Lit.wf, IntKind.min, IntKind.max, IntKind.signed, IntKind.bits] using h
  have : ((UInt8.ofNat z.toNat).toNat : Int) = z := by
    rw [UInt8.toNat_ofNat_of_lt' (by show _ < 256; omega)]
    omega
  simp only [U, this]
theorem int_boundsP {z : Int} (h : (Lit.int .i64 z).wf = true) : -9223372036854775808 ≤ z ∧ z ≤ 9223372036854775807 := by
  simpa [Lit.wf, IntKind.min, IntKind.max, IntKind.signed, IntKind.bits] using h
/-- A slice of integers of one kind, as a list. -/
theorem row_of_open {k : IntKind} (ht : P.underlying t = some (.slice e)) (he : P.underlying e = some (.int k)) (hc : P.cellsOf e = 1)
    (hf : DataW.trod enc P W base (fun _ => true) held fuel t [v] = some x) :
    ∃ (zs : List Int) (a : Option Addr) (cap : Nat), v = .slice a zs.length cap ∧ Reads W (.slice a zs.length cap) zs.length (zs.map (Value.int k)) ∧ (a = none → cap = 0) ∧ ∀ z ∈ zs, (Lit.int k z).wf = true := by
  rcases open_ints ht he hc hf with ⟨hcs, _⟩ | ⟨ad, l, c, zs, hcs, _, hl, hm, hz, _, hcell, hwz⟩
  · simp at hcs
    subst hcs
    exact ⟨[], none, 0, rfl, ⟨rfl, none, 0, rfl, Nat.le_refl _, by simp, fun h => absurd rfl h⟩, fun _ => rfl, by simp⟩
  · simp at hcs
    subst hcs
    have hz' : zs.length = c := by simpa using hz
    have hbl : (zs.take l).length = l := by rw [List.length_take]; omega
    refine ⟨zs.take l, some ad, c, by rw [hbl], ⟨by rw [List.length_map], some ad, c, by rw [hbl], by omega, hm, fun h0 => ?_⟩, (fun h => by cases h), fun z hzm => hwz z (List.mem_of_mem_take hzm)⟩
    rw [hbl] at h0
    obtain ⟨b, off, spot⟩ := ad
    have h00 := hcell 0 (by omega)
    have hspot : spot = none := by simpa [Addr.add] using World.cell?_spot h00
    subst hspot
    refine ⟨b, off, rfl, fun j u hu => ?_⟩
    have hj : j < l := by
      have := (List.getElem?_eq_some_iff.1 hu).1
      simp at this
      omega
    have hjz : j < zs.length := by omega
    have hcj := hcell j hjz
    rw [add_plainP] at hcj
    rw [hcj]
    simp only [List.getElem?_map, List.getElem?_take, hj, if_true, List.getElem?_eq_getElem hjz, Option.map_some, Option.some.injEq] at hu
    rw [← hu]
    simp [hjz]
theorem pbytes_of_open (ht : P.underlying t = some (.slice e)) (he : P.underlying e = some (.int .u8)) (hc : P.cellsOf e = 1)
    (hf : DataW.trod enc P W base (fun _ => true) held fuel t [v] = some x) :
    ∃ (bs : List UInt8) (a : Option Addr) (cap : Nat), v = .slice a bs.length cap ∧ Reads W (.slice a bs.length cap) bs.length (bs.map U) ∧ (a = none → cap = 0) := by
  obtain ⟨zs, a, cap, h1, h2, h3, h4⟩ := row_of_open ht he hc hf
  have hl : (zs.map (fun z => UInt8.ofNat z.toNat)).length = zs.length := by simp
  refine ⟨zs.map (fun z => UInt8.ofNat z.toNat), a, cap, by rw [hl]; exact h1, ?_, h3⟩
  rw [hl, List.map_map]
  have e : zs.map (U ∘ fun z => UInt8.ofNat z.toNat) = zs.map (Value.int .u8) := List.map_congr_left fun z hz => U_ofP (h4 z hz)
  rw [e]
  exact h2
end Go.Gs
