/- slices.Equal at strings and at commands; the reference's SameScript. -/
import Derived.Test.YtdfnnhcooliheaaDoorSLe
import Derived.Test.YtdfnnhcooliheaaDoorDevWord
import Derived.Test.YtdfnnhcooliheaaDoorProg
import Derived.WalkKit
import Derived.WalkLawsBesides
import Derived.Outline
import Derived.ChangeAgain
import Derived.Laws.StructEq
namespace Go.Proofs.YtdfnnhcooliheaaDoor
open Go.RowKit Go.Gs
set_option linter.unusedVariables false

theorem ne_at {α : Type} {a b : List α} {k : Nat} {x y : α} (ha : a[k]? = some x) (hb : b[k]? = some y) (h : x ≠ y) : a ≠ b := by
  intro e
  rw [e, hb] at ha
  injection ha with ha
  exact h ha.symm
theorem take_eq {α : Type} {a b : List α} {k : Nat} {x : α} (h : a.take k = b.take k) (ha : a[k]? = some x) (hb : b[k]? = some x) : a.take (k + 1) = b.take (k + 1) := by
  rw [List.take_add_one, List.take_add_one, h, ha, hb]
theorem str_eq' (a b : List UInt8) : ((⟨a.toArray⟩ : ByteArray).toList == (⟨b.toArray⟩ : ByteArray).toList) = decide (a = b) := by
  by_cases h : a = b
  · subst h; simp
  · simp [h]

set_option maxRecDepth 100000 in
set_option maxHeartbeats 4000000 in
theorem eqstr_is (au av : Option Addr) (cu cv : Nat) (a b : List (List UInt8)) (w : World) (ha : Reads w (.slice au a.length cu) a.length (a.map S)) (hb : Reads w (.slice av b.length cv) b.length (b.map S)) :
    Calls Tryd.prog 13 #[.slice au a.length cu, .slice av b.length cv] w fun e w' => e = .returned (.bool (decide (a = b))) ∧ Below w.heap.size w w' := by
  have m2 := reads_le ha
  have m4 := reads_le hb
  have HA : Hid (Reads w (.slice au a.length cu) a.length (a.map S)) := ha
  have HB : Hid (Reads w (.slice av b.length cv) b.length (b.map S)) := hb
  obtain ⟨NA, hNA⟩ : ∃ N, N = a.length := ⟨_, rfl⟩
  obtain ⟨NB, hNB⟩ : ∃ N, N = b.length := ⟨_, rfl⟩
  have HNA : Hid (NA = a.length) := hNA
  have HNB : Hid (NB = b.length) := hNB
  have hA1 : NA ≤ 9223372036854775807 := by omega
  have hB1 : NB ≤ 9223372036854775807 := by omega
  rw [← hNA, ← hNB]
  rw [← hNA] at HA
  rw [← hNB] at HB
  clear ha hb m2 m4 hNA hNB
  by_cases hne : NA = NB
  · subst hne
    go_enter Tryd.func13, Tryd.ntmps13
    go_wp2_with fail
    go_loopw [13] (fun i wr => ∃ k : Nat, k ≤ NA ∧ i = .int .i64 k ∧ Hid (Below w.heap.size w wr) ∧ Hid (a.take k = b.take k)) (fun i _ => NA - (intOf i).toNat)
    case atStart => exact ⟨0, Nat.zero_le _, rfl, Below.refl _ _, (show _ = _ by simp)⟩
    case round =>
      obtain ⟨k, hk, rfl, hbel, hall⟩ := hrel
      by_cases hlt : k < NA
      · obtain ⟨x, hx⟩ : ∃ x, a[k]? = some x := ⟨_, List.getElem?_eq_getElem (by have := HNA.out; omega)⟩
        obtain ⟨y, hy⟩ : ∃ y, b[k]? = some y := ⟨_, List.getElem?_eq_getElem (by have := HNB.out; omega)⟩
        have HX : Hid (a[k]? = some x) := hx
        have HY : Hid (b[k]? = some y) := hy
        obtain ⟨b1, o1, rfl, hc1⟩ := (Reads.below HA.out hbel.out).at hx
        obtain ⟨b2, o2, rfl, hc2⟩ := (Reads.below HB.out hbel.out).at hy
        have hse := str_eq' x y
        by_cases hxy : x = y
        · subst hxy
          have HE : Hid (a.take (k + 1) = b.take (k + 1)) := take_eq hall.out hx hy
          generalize (⟨x.toArray⟩ : ByteArray) = sx at *
          clear hx hy hall hse
          go_wp2_with fail
          go_region
          all_goals go_wp2_with fail
          all_goals go_roundw
          case rel => exact ⟨k + 1, by omega, by go_num, hbel.out.drew, HE⟩
          case measure => simp [intOf]; omega
        · have HE : Hid (a ≠ b) := ne_at hx hy hxy
          have hse' : ((⟨x.toArray⟩ : ByteArray).toList == (⟨y.toArray⟩ : ByteArray).toList) = false := by rw [hse]; simpa using hxy
          generalize (⟨x.toArray⟩ : ByteArray) = sx at *
          generalize (⟨y.toArray⟩ : ByteArray) = sy at *
          clear hx hy hall hse hxy
          go_wp2_with fail
          go_region
          all_goals go_wp2_with fail
          all_goals go_ret
          all_goals exact ⟨by rw [decide_eq_false HE.out]; rfl, hbel.out.drew⟩
      · have HE : Hid (a = b) := (show _ = _ by
          have h := hall.out
          rw [List.take_of_length_le (by have := HNA.out; omega), List.take_of_length_le (by have := HNB.out; omega)] at h
          exact h)
        clear hall
        go_wp2_with fail
        go_ret
        exact ⟨by rw [decide_eq_true HE.out]; rfl, hbel.out⟩
  · have HE : Hid (a ≠ b) := (show a ≠ b from fun e => hne (by rw [HNA.out, HNB.out, e]))
    have hq : ¬ (NA : Int) = NB := by omega
    go_enter Tryd.func13, Tryd.ntmps13
    go_wp2_with fail
    go_ret
    exact ⟨by rw [decide_eq_false HE.out]; rfl, Below.refl _ _⟩
variable [DecidableEq Cmd]
set_option maxRecDepth 100000 in
set_option maxHeartbeats 4000000 in
theorem eqcmd_is (au av : Option Addr) (cu cv : Nat) (a b : List Cmd) (w : World) (ha : RCmds w (.slice au a.length cu) a) (hb : RCmds w (.slice av b.length cv) b) :
    Calls Tryd.prog 50 #[.slice au a.length cu, .slice av b.length cv] w fun e w' => e = .returned (.bool (decide (a = b))) ∧ Below w.heap.size w w' := by
  have m2 := rcmds_le ha
  have m4 := rcmds_le hb
  have HA : Hid (RCmds w (.slice au a.length cu) a) := ha
  have HB : Hid (RCmds w (.slice av b.length cv) b) := hb
  obtain ⟨NA, hNA⟩ : ∃ N, N = a.length := ⟨_, rfl⟩
  obtain ⟨NB, hNB⟩ : ∃ N, N = b.length := ⟨_, rfl⟩
  have HNA : Hid (NA = a.length) := hNA
  have HNB : Hid (NB = b.length) := hNB
  have hA1 : NA ≤ 9223372036854775807 := by omega
  have hB1 : NB ≤ 9223372036854775807 := by omega
  rw [← hNA, ← hNB]
  rw [← hNA] at HA
  rw [← hNB] at HB
  clear ha hb m2 m4 hNA hNB
  by_cases hne : NA = NB
  · subst hne
    go_enter Tryd.func50, Tryd.ntmps50
    go_wp2_with fail
    go_loopw [13] (fun i wr => ∃ k : Nat, k ≤ NA ∧ i = .int .i64 k ∧ Hid (Below w.heap.size w wr) ∧ Hid (a.take k = b.take k)) (fun i _ => NA - (intOf i).toNat)
    case atStart => exact ⟨0, Nat.zero_le _, rfl, Below.refl _ _, (show _ = _ by simp)⟩
    case round =>
      obtain ⟨k, hk, rfl, hbel, hall⟩ := hrel
      by_cases hlt : k < NA
      · obtain ⟨x, hx⟩ : ∃ x, a[k]? = some x := ⟨_, List.getElem?_eq_getElem (by have := HNA.out; omega)⟩
        obtain ⟨y, hy⟩ : ∃ y, b[k]? = some y := ⟨_, List.getElem?_eq_getElem (by have := HNB.out; omega)⟩
        have HX : Hid (a[k]? = some x) := hx
        have HY : Hid (b[k]? = some y) := hy
        obtain ⟨b1, o1, rfl, hc10, hc11, hc12⟩ := (RCmds.below HA.out hbel.out).at hx
        obtain ⟨b2, o2, rfl, hc20, hc21, hc22⟩ := (RCmds.below HB.out hbel.out).at hy
        by_cases hxy : x = y
        · subst hxy
          have HE : Hid (a.take (k + 1) = b.take (k + 1)) := take_eq hall.out hx hy
          generalize x.kind = xk at *
          generalize (⟨x.word.toArray⟩ : ByteArray) = xw at *
          generalize x.n = xn at *
          clear hx hy hall
          go_wp2_with fail
          go_region
          all_goals go_wp2_with fail
          all_goals go_roundw
          case rel => exact ⟨k + 1, by omega, by go_num, hbel.out.drew, HE⟩
          case measure => simp [intOf]; omega
        · have HE : Hid (a ≠ b) := ne_at hx hy hxy
          have hne3 : ¬ (x.kind = y.kind ∧ (⟨x.word.toArray⟩ : ByteArray).toList = (⟨y.word.toArray⟩ : ByteArray).toList ∧ x.n = y.n) := by
            rintro ⟨q1, q2, q3⟩
            apply hxy
            obtain ⟨a1, a2, a3⟩ := x
            obtain ⟨d1, d2, d3⟩ := y
            simp only at q1 q2 q3
            subst q1 q3
            simp at q2
            subst q2
            rfl
          generalize x.kind = xk at *
          generalize (⟨x.word.toArray⟩ : ByteArray) = xw at *
          generalize x.n = xn at *
          generalize y.kind = yk at *
          generalize (⟨y.word.toArray⟩ : ByteArray) = yw at *
          generalize y.n = yn at *
          clear hx hy hall hxy
          by_cases q1 : xk = yk
          · by_cases q2 : xw.toList = yw.toList
            · have q3 : ¬ xn = yn := fun q3 => hne3 ⟨q1, q2, q3⟩
              clear hne3
              go_wp2_with fail
              go_region
              all_goals go_wp2_with fail
              all_goals go_ret
              all_goals exact ⟨by rw [decide_eq_false HE.out]; rfl, hbel.out.drew⟩
            · clear hne3
              go_wp2_with fail
              go_region
              all_goals go_wp2_with fail
              all_goals go_ret
              all_goals exact ⟨by rw [decide_eq_false HE.out]; rfl, hbel.out.drew⟩
          · clear hne3
            go_wp2_with fail
            go_region
            all_goals go_wp2_with fail
            all_goals go_ret
            all_goals exact ⟨by rw [decide_eq_false HE.out]; rfl, hbel.out.drew⟩
      · have HE : Hid (a = b) := (show _ = _ by
          have h := hall.out
          rw [List.take_of_length_le (by have := HNA.out; omega), List.take_of_length_le (by have := HNB.out; omega)] at h
          exact h)
        clear hall
        go_wp2_with fail
        go_ret
        exact ⟨by rw [decide_eq_true HE.out]; rfl, hbel.out⟩
  · have HE : Hid (a ≠ b) := (show a ≠ b from fun e => hne (by rw [HNA.out, HNB.out, e]))
    have hq : ¬ (NA : Int) = NB := by omega
    go_enter Tryd.func50, Tryd.ntmps50
    go_wp2_with fail
    go_ret
    exact ⟨by rw [decide_eq_false HE.out]; rfl, Below.refl _ _⟩
end Go.Proofs.YtdfnnhcooliheaaDoor
