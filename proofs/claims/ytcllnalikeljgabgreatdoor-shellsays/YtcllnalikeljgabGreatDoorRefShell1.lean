/- What the reference's FileOf and CheckFiles do. -/
import Derived.Test.YtcllnalikeljgabGreatDoorRefWord
import Derived.ChangeAgain
import Derived.Test.YtcllnalikeljgabGreatDoorFBase
namespace Go.Proofs.YtcllnalikeljgabGreatDoor
open Go.RowKit Go.Gs
set_option linter.unusedVariables false

set_option maxRecDepth 100000 in
set_option maxHeartbeats 4000000 in
theorem fileOf_ref (ao : Option Addr) (cap : Nat) (fs : List SFile) (n : List UInt8) (w : World) (hf : RFiles w (.slice ao fs.length cap) fs) :
    Calls Tryz.prog 18 #[.slice ao fs.length cap, .string ⟨n.toArray⟩] w fun e w' => ∃ ab cb, e = .returned (.slice ab (fileOf fs n).length cb) ∧ Reads w' (.slice ab (fileOf fs n).length cb) (fileOf fs n).length ((fileOf fs n).map U) ∧ Below w.heap.size w w' := by
  have hle := rfiles_le hf
  have HF : Hid (RFiles w (.slice ao fs.length cap) fs) := hf
  obtain ⟨N, hN⟩ : ∃ N, N = fs.length := ⟨_, rfl⟩
  have HN : Hid (N = fs.length) := hN
  have hN1 : N ≤ 9223372036854775807 := by omega
  rw [← hN] at HF ⊢
  obtain ⟨sx, hsx⟩ : ∃ sx : ByteArray, sx = ⟨n.toArray⟩ := ⟨_, rfl⟩
  have HSX : Hid (sx = ⟨n.toArray⟩) := hsx
  rw [← hsx]
  clear hf hle hN hsx
  go_enter Tryz.func18, Tryz.ntmps18
  go_wp2_with fail
  go_loopw [9] (fun i wr => ∃ k : Nat, k ≤ N ∧ i = .int .i64 k ∧ Hid (Below w.heap.size w wr) ∧ Hid (∀ g ∈ fs.take k, g.name ≠ n)) (fun i _ => N - (intOf i).toNat)
  case atStart => exact ⟨0, Nat.zero_le _, rfl, Below.refl _ _, (show ∀ g ∈ fs.take 0, g.name ≠ n by simp)⟩
  case round =>
    obtain ⟨k, hk, rfl, hbel, hno⟩ := hrel
    by_cases hlt : k < N
    · obtain ⟨f, hfk⟩ : ∃ f, fs[k]? = some f := ⟨_, List.getElem?_eq_getElem (by have := HN.out; omega)⟩
      have HFK : Hid (fs[k]? = some f) := hfk
      obtain ⟨b, off, ab, cb, rfl, hc0, hc1, hr⟩ := (RFiles.below HF.out hbel.out).at hfk
      have HR : Hid (Reads wr (.slice ab f.b.length cb) f.b.length (f.b.map U)) := hr
      have hse := str_eq2 f.name n
      rw [← HSX.out] at hse
      by_cases hfn : f.name = n
      · have HFO : Hid (fileOf fs n = f.b) := fileOf_at hfk hfn hno.out
        have hse' : ((⟨f.name.toArray⟩ : ByteArray).toList == sx.toList) = true := by rw [hse]; simpa using hfn
        generalize (⟨f.name.toArray⟩ : ByteArray) = fx at *
        obtain ⟨L, hL⟩ : ∃ L, L = f.b.length := ⟨_, rfl⟩
        have HL : Hid (L = f.b.length) := hL
        rw [← hL] at hc1
        clear hfk hr hse hfn hno hL
        go_wp2_with fail
        go_ret
        refine ⟨ab, cb, ?_, ?_, hbel.out.alloc hbel.out.size _⟩
        · rw [HFO.out, ← HL.out]; rfl
        · rw [HFO.out]; exact Reads.below HR.out boxr_of
      · have HNo : Hid (∀ g ∈ fs.take (k + 1), g.name ≠ n) := (show ∀ g ∈ fs.take (k + 1), g.name ≠ n from by
          intro g hg
          rw [List.take_add_one, hfk] at hg
          simp only [Option.toList_some, List.mem_append, List.mem_singleton] at hg
          rcases hg with hg | rfl
          · exact hno.out g hg
          · exact hfn)
        have hse' : ((⟨f.name.toArray⟩ : ByteArray).toList == sx.toList) = false := by rw [hse]; simpa using hfn
        generalize (⟨f.name.toArray⟩ : ByteArray) = fx at *
        obtain ⟨L, hL⟩ : ∃ L, L = f.b.length := ⟨_, rfl⟩
        rw [← hL] at hc1
        clear hfk hr hse hfn hno hL
        go_wp2_with fail
        go_roundw
        case rel => exact ⟨k + 1, by omega, by go_num, hbel.out.alloc hbel.out.size _, HNo⟩
        case measure => simp [intOf]; omega
    · have HFO : Hid (fileOf fs n = []) := fileOf_no (by
        have e := hno.out
        rw [List.take_of_length_le (by have := HN.out; omega)] at e
        exact e)
      clear hno
      go_wp2_with fail
      go_ret
      refine ⟨none, 0, by rw [HFO.out]; rfl, ?_, hbel.out⟩
      rw [HFO.out]
      exact ⟨rfl, none, 0, rfl, Nat.le_refl _, by simp [maxLen], fun h => absurd rfl h⟩
end Go.Proofs.YtcllnalikeljgabGreatDoor
