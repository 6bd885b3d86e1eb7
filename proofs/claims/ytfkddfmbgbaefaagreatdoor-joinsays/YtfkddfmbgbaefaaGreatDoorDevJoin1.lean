/- What the developers' join's size, count, least do. -/
import Derived.Test.YtfkddfmbgbaefaaGreatDoorRList
import Derived.Test.YtfkddfmbgbaefaaGreatDoorJoinMath
import Derived.BigQuiet
import Derived.Deep.QuietTactic
namespace Go.Proofs.YtfkddfmbgbaefaaGreatDoor
open Go.RowKit Go.Gs
set_option linter.unusedVariables false

set_option maxRecDepth 100000 in
set_option maxHeartbeats 4000000 in
theorem size_is (v : Value) (pss : List (List UInt8)) (w : World) (hp : RList w v U pss) (hn : pss.length ≤ 1000) (hb : pss.flatten.length ≤ 1000000000000000000) :
    Calls Tryz.prog 54 #[v] w fun e w' => e = .returned (.int .i64 (pss.flatten.length : Int)) ∧ w' = w := by
  obtain ⟨ao, cap, rfl, hc1, hc2⟩ := hp.shape
  have HP : Hid (RList w (.slice ao pss.length cap) U pss) := hp
  obtain ⟨N, hN⟩ : ∃ N, N = pss.length := ⟨_, rfl⟩
  have HN : Hid (N = pss.length) := hN
  have hN4 : N ≤ 1000 := by omega
  have HT : Hid (pss.flatten.length ≤ 1000000000000000000) := hb
  rw [← hN]
  clear hN hp hn hc1 hc2 hb
  go_enter Tryz.func54, Tryz.ntmps54
  go_wp2_with fail
  go_loopw [3, 8] (fun s i wr => ∃ k : Nat, ∃ m : Nat, k ≤ N ∧ m ≤ 1000000000000000000 ∧ i = .int .i64 k ∧ s = .int .i64 m ∧ wr = w ∧ Hid (m = ((pss.take k).flatten).length))
    (fun _ i _ => N - (intOf i).toNat)
  case atStart => exact ⟨0, 0, Nat.zero_le _, by omega, rfl, rfl, rfl, (show _ = _ from by simp)⟩
  case round =>
    obtain ⟨k, m, hk, hm, rfl, rfl, hw, hmk⟩ := hrel
    obtain rfl : w = wr := hw.symm
    clear hw
    by_cases hlt : k < N
    · obtain ⟨p, hpk⟩ : ∃ p, pss[k]? = some p := ⟨_, List.getElem?_eq_getElem (by have := HN.out; omega)⟩
      have hsum : m + p.length ≤ 1000000000000000000 := by
        have h1 := flat_at_le hpk
        have h2 := hmk.out
        have h3 := HT.out
        omega
      have HS : Hid (m + p.length = ((pss.take (k + 1)).flatten).length) := (show _ = _ from by rw [flat_step hpk, List.length_append, ← hmk.out])
      obtain ⟨b, off, au, cu, rfl, hcell, _⟩ := HP.out.at hpk
      clear hpk hmk
      generalize p.length = pl at *
      go_wp2_with fail
      go_roundw
      case rel => exact ⟨k + 1, m + pl, by omega, by omega, by go_num, by go_num, by simp, HS.out⟩
      case measure => simp [intOf]; omega
    · have hkN : k = N := by omega
      have HD : Hid (m = pss.flatten.length) := (show _ = _ from by
        have h := hmk.out
        rw [hkN, HN.out, List.take_length] at h
        exact h)
      clear hmk
      go_wp2_with fail
      go_ret
      refine ⟨?_, rfl⟩
      rw [← HD.out]
      rfl

set_option maxRecDepth 100000 in
set_option maxHeartbeats 4000000 in
theorem count_is (v : Value) (pss : List (List (List UInt8))) (w : World) (hp : RList w v S pss) (hn : pss.length ≤ 1000) (hb : pss.flatten.length ≤ 1000000000000000000) :
    Calls Tryz.prog 111 #[v] w fun e w' => e = .returned (.int .i64 (pss.flatten.length : Int)) ∧ w' = w := by
  obtain ⟨ao, cap, rfl, hc1, hc2⟩ := hp.shape
  have HP : Hid (RList w (.slice ao pss.length cap) S pss) := hp
  obtain ⟨N, hN⟩ : ∃ N, N = pss.length := ⟨_, rfl⟩
  have HN : Hid (N = pss.length) := hN
  have hN4 : N ≤ 1000 := by omega
  have HT : Hid (pss.flatten.length ≤ 1000000000000000000) := hb
  rw [← hN]
  clear hN hp hn hc1 hc2 hb
  go_enter Tryz.func111, Tryz.ntmps111
  go_wp2_with fail
  go_loopw [3, 8] (fun s i wr => ∃ k : Nat, ∃ m : Nat, k ≤ N ∧ m ≤ 1000000000000000000 ∧ i = .int .i64 k ∧ s = .int .i64 m ∧ wr = w ∧ Hid (m = ((pss.take k).flatten).length))
    (fun _ i _ => N - (intOf i).toNat)
  case atStart => exact ⟨0, 0, Nat.zero_le _, by omega, rfl, rfl, rfl, (show _ = _ from by simp)⟩
  case round =>
    obtain ⟨k, m, hk, hm, rfl, rfl, hw, hmk⟩ := hrel
    obtain rfl : w = wr := hw.symm
    clear hw
    by_cases hlt : k < N
    · obtain ⟨p, hpk⟩ : ∃ p, pss[k]? = some p := ⟨_, List.getElem?_eq_getElem (by have := HN.out; omega)⟩
      have hsum : m + p.length ≤ 1000000000000000000 := by
        have h1 := flat_at_le hpk
        have h2 := hmk.out
        have h3 := HT.out
        omega
      have HS : Hid (m + p.length = ((pss.take (k + 1)).flatten).length) := (show _ = _ from by rw [flat_step hpk, List.length_append, ← hmk.out])
      obtain ⟨b, off, au, cu, rfl, hcell, _⟩ := HP.out.at hpk
      clear hpk hmk
      generalize p.length = pl at *
      go_wp2_with fail
      go_roundw
      case rel => exact ⟨k + 1, m + pl, by omega, by omega, by go_num, by go_num, by simp, HS.out⟩
      case measure => simp [intOf]; omega
    · have hkN : k = N := by omega
      have HD : Hid (m = pss.flatten.length) := (show _ = _ from by
        have h := hmk.out
        rw [hkN, HN.out, List.take_length] at h
        exact h)
      clear hmk
      go_wp2_with fail
      go_ret
      refine ⟨?_, rfl⟩
      rw [← HD.out]
      rfl
end Go.Proofs.YtfkddfmbgbaefaaGreatDoor
