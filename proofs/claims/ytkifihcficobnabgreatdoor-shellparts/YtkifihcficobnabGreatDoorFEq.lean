/- slices.Equal at bytes, either way. -/
import Derived.Test.YtkifihcficobnabGreatDoorFBase
import Derived.Test.YtkifihcficobnabGreatDoorProg
namespace Go.Proofs.YtkifihcficobnabGreatDoor
open Go.RowKit Go.Gs
set_option linter.unusedVariables false

set_option maxRecDepth 100000 in
set_option maxHeartbeats 4000000 in
theorem eqbyte_is (au av : Option Addr) (cu cv : Nat) (a b : List UInt8) (w : World) (ha : Reads w (.slice au a.length cu) a.length (a.map U)) (hb : Reads w (.slice av b.length cv) b.length (b.map U)) :
    Calls Tryz.prog 18 #[.slice au a.length cu, .slice av b.length cv] w fun e w' => e = .returned (.bool (decide (a = b))) ∧ Below w.heap.size w w' := by
  have m2 := reads_le' ha
  have m4 := reads_le' hb
  have HA : Hid (Reads w (.slice au a.length cu) a.length (a.map U)) := ha
  have HB : Hid (Reads w (.slice av b.length cv) b.length (b.map U)) := hb
  obtain ⟨NA, hNA⟩ : ∃ N, N = a.length := ⟨_, rfl⟩
  obtain ⟨NB, hNB⟩ : ∃ N, N = b.length := ⟨_, rfl⟩
  have HNA : Hid (NA = a.length) := hNA
  have HNB : Hid (NB = b.length) := hNB
  have hA1 : NA ≤ 9223372036854775807 := by omega
  have hB1 : NB ≤ 9223372036854775807 := by omega
  rw [← hNA, ← hNB]
  rw [← hNA] at HA
  rw [← hNB] at HB
  clear ha hb m2 m4 hNA hNB
  by_cases hne : NA = NB
  · subst hne
    go_enter Tryz.func18, Tryz.ntmps18
    go_wp2_with fail
    go_loopw [13] (fun i wr => ∃ k : Nat, k ≤ NA ∧ i = .int .i64 k ∧ Hid (Below w.heap.size w wr) ∧ Hid (a.take k = b.take k)) (fun i _ => NA - (intOf i).toNat)
    case atStart => exact ⟨0, Nat.zero_le _, rfl, Below.refl _ _, (show _ = _ by simp)⟩
    case round =>
      obtain ⟨k, hk, rfl, hbel, hall⟩ := hrel
      by_cases hlt : k < NA
      · obtain ⟨x, hx⟩ : ∃ x, a[k]? = some x := ⟨_, List.getElem?_eq_getElem (by have := HNA.out; omega)⟩
        obtain ⟨y, hy⟩ : ∃ y, b[k]? = some y := ⟨_, List.getElem?_eq_getElem (by have := HNB.out; omega)⟩
        have HX : Hid (a[k]? = some x) := hx
        have HY : Hid (b[k]? = some y) := hy
        obtain ⟨b1, o1, rfl, hc1⟩ := reads_byte (Reads.below HA.out hbel.out) hx
        obtain ⟨b2, o2, rfl, hc2⟩ := reads_byte (Reads.below HB.out hbel.out) hy
        by_cases hxy : x = y
        · subst hxy
          have HE : Hid (a.take (k + 1) = b.take (k + 1)) := take_eq2 hall.out hx hy
          generalize (x.toNat : Int) = xi at *
          clear hx hy hall
          go_wp2_with fail
          go_region
          all_goals go_wp2_with fail
          all_goals go_roundw
          case rel => exact ⟨k + 1, by omega, by go_num, hbel.out.drew, HE⟩
          case measure => simp [intOf]; omega
        · have HE : Hid (a ≠ b) := ne_at2 hx hy hxy
          have hxi : ¬ (x.toNat : Int) = (y.toNat : Int) := fun h => hxy (UInt8.toNat_inj.1 (by omega))
          generalize (x.toNat : Int) = xi at *
          generalize (y.toNat : Int) = yi at *
          clear hx hy hall hxy
          go_wp2_with fail
          go_region
          all_goals go_wp2_with fail
          all_goals go_ret
          all_goals exact ⟨by rw [decide_eq_false HE.out]; rfl, hbel.out.drew⟩
      · have HE : Hid (a = b) := (show _ = _ by
          have h := hall.out
          rw [List.take_of_length_le (by have := HNA.out; omega), List.take_of_length_le (by have := HNB.out; omega)] at h
          exact h)
        clear hall
        go_wp2_with fail
        go_ret
        exact ⟨by rw [decide_eq_true HE.out]; rfl, hbel.out⟩
  · have HE : Hid (a ≠ b) := (show a ≠ b from fun e => hne (by rw [HNA.out, HNB.out, e]))
    have hq : ¬ (NA : Int) = NB := by omega
    go_enter Tryz.func18, Tryz.ntmps18
    go_wp2_with fail
    go_ret
    exact ⟨by rw [decide_eq_false HE.out]; rfl, Below.refl _ _⟩

end Go.Proofs.YtkifihcficobnabGreatDoor
