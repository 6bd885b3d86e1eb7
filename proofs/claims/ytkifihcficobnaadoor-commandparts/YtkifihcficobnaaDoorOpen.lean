/- From the reading of an argument to a slice that can be read. -/
import Derived.Test.YtkifihcficobnaaDoorPlain
import Derived.ProofKit
import Derived.OpenShut
import Derived.SliceStrings
namespace Go.Gs
open Go.RowKit Go.ChangeShapes Go.WideShapes Go.ChangeAt
set_option linter.unusedVariables false
variable {P : Program} {H : Type} {enc : TypeId × Value → H} {W : World} {base : Nat} {held : Bool} {fuel : Nat} {t e : TypeId} {a : Option Addr} {len cap : Nat} {x : DataW H × List MemPlace}

theorem add_plain {b off j : Nat} : (⟨b, off, none⟩ : Addr).add j = ⟨b, off + j, none⟩ := by unfold Addr.add; split <;> simp_all

theorem U_of {z : Int} (h : (Lit.int .u8 z).wf = true) : U (UInt8.ofNat z.toNat) = .int .u8 z := by
  have hx : 0 ≤ z ∧ z ≤ 255 := by simpa [Lit.wf, IntKind.min, IntKind.max, IntKind.signed, IntKind.bits] using h
  have : ((UInt8.ofNat z.toNat).toNat : Int) = z := by
    rw [UInt8.toNat_ofNat_of_lt' (by show _ < 256; omega)]
    omega
  simp only [U, this]

theorem bytes_of_open (ht : P.underlying t = some (.slice e)) (he : P.underlying e = some (.int .u8)) (hc : P.cellsOf e = 1)
    (hf : DataW.trod enc P W base (fun _ => true) held fuel t [.slice a len cap] = some x) :
    ∃ bs : List UInt8, bs.length = len ∧ Reads W (.slice a len cap) bs.length (bs.map U) := by
  rcases open_ints ht he hc hf with ⟨hcs, _⟩ | ⟨ad, l, c, zs, hcs, _, hl, hm, hz, _, hcell, hwz⟩
  · simp at hcs
    obtain ⟨rfl, rfl, rfl⟩ := hcs
    exact ⟨[], rfl, rfl, none, 0, rfl, Nat.le_refl _, by simp, fun h => absurd rfl h⟩
  · simp at hcs
    obtain ⟨rfl, rfl, rfl⟩ := hcs
    have hz' : zs.length = cap := by simpa using hz
    have hbl : ((zs.take len).map (fun z => UInt8.ofNat z.toNat)).length = len := by simp; omega
    refine ⟨(zs.take len).map (fun z => UInt8.ofNat z.toNat), hbl, by simp, some ad, cap, by rw [hbl], by omega, hm, fun h0 => ?_⟩
    rw [hbl] at h0
    obtain ⟨b, off, spot⟩ := ad
    have h00 := hcell 0 (by omega)
    have hspot : spot = none := by simpa [Addr.add] using World.cell?_spot h00
    subst hspot
    refine ⟨b, off, rfl, fun j u hu => ?_⟩
    have hj : j < len := by
      have := (List.getElem?_eq_some_iff.1 hu).1
      simp at this
      omega
    have hjz : j < zs.length := by omega
    have hcj := hcell j hjz
    rw [add_plain] at hcj
    rw [hcj]
    simp only [List.map_map, List.getElem?_map, List.getElem?_take, hj, if_true, List.getElem?_eq_getElem hjz, Option.map_some, Function.comp_apply, Option.some.injEq] at hu
    rw [U_of (hwz _ (List.getElem_mem hjz))] at hu
    rw [← hu]
    simp [hjz]

theorem strs_of_open (ht : P.underlying t = some (.slice e)) (he : P.underlying e = some .string) (hc : P.cellsOf e = 1)
    (hf : DataW.trod enc P W base (fun _ => true) held fuel t [.slice a len cap] = some x) :
    ∃ ls : List (List UInt8), ls.length = len ∧ Reads W (.slice a len cap) ls.length (ls.map S) ∧ ∀ s ∈ ls, s.length ≤ 9223372036854775807 := by
  rcases open_strings ht he hc hf with ⟨hcs, _⟩ | ⟨ad, l, c, ss, hcs, _, hl, hm, hz, _, hcell, hwz⟩
  · simp at hcs
    obtain ⟨rfl, rfl, rfl⟩ := hcs
    exact ⟨[], rfl, ⟨rfl, none, 0, rfl, Nat.le_refl _, by simp, fun h => absurd rfl h⟩, by simp⟩
  · simp at hcs
    obtain ⟨rfl, rfl, rfl⟩ := hcs
    have hz' : ss.length = cap := by simpa using hz
    have hbl : ((ss.take len).map (fun s => s.data.toList)).length = len := by simp; omega
    refine ⟨(ss.take len).map (fun s => s.data.toList), hbl, ⟨by simp, some ad, cap, by rw [hbl], by omega, hm, fun h0 => ?_⟩, ?_⟩
    · rw [hbl] at h0
      obtain ⟨b, off, spot⟩ := ad
      have h00 := hcell 0 (by omega)
      have hspot : spot = none := by simpa [Addr.add] using World.cell?_spot h00
      subst hspot
      refine ⟨b, off, rfl, fun j u hu => ?_⟩
      have hj : j < len := by
        have := (List.getElem?_eq_some_iff.1 hu).1
        simp at this
        omega
      have hjz : j < ss.length := by omega
      have hcj := hcell j hjz
      rw [add_plain] at hcj
      rw [hcj]
      simp only [List.map_map, List.getElem?_map, List.getElem?_take, hj, if_true, List.getElem?_eq_getElem hjz, Option.map_some, Function.comp_apply, Option.some.injEq] at hu
      rw [← hu]
      simp [hjz, S]
    · intro s hs
      simp only [List.mem_map] at hs
      obtain ⟨y, hy, rfl⟩ := hs
      have h1 : y.size ≤ maxLen := hwz y (List.mem_of_mem_take hy)
      have h2 : y.data.toList.length = y.size := Array.length_toList
      unfold maxLen at h1
      omega
end Go.Gs
