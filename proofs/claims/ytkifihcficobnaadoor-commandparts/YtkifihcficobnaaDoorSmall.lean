/- What the sentences' small does. -/
import Derived.Test.YtkifihcficobnaaDoorLists
namespace Go.Proofs.YtkifihcficobnaaDoor
open Go.RowKit Go.Gs
set_option linter.unusedVariables false

theorem small_no {pss : List (List UInt8)} {k : Nat} (h : 2000 < ((pss.take k).flatten).length) : decide ((pss.flatten).length ≤ 2000) = false := by
  have := flat_le pss k
  exact decide_eq_false (by omega)

set_option maxRecDepth 100000 in
set_option maxHeartbeats 4000000 in
theorem small_is (G : Nat) (pss : List (List UInt8)) (w : World) (hp : Lists w G U pss) (hn : pss.length ≤ 1000) (hb : ∀ p ∈ pss, p.length ≤ 1000000000000000) :
    Calls Tryd.prog 19 #[.slice (some ⟨G, 0, none⟩) pss.length pss.length] w fun e w' => e = .returned (.bool (decide ((pss.flatten).length ≤ 2000))) ∧ w' = w := by
  have HP : Hid (Lists w G U pss) := hp
  obtain ⟨N, hN⟩ : ∃ N, N = pss.length := ⟨_, rfl⟩
  have HN : Hid (N = pss.length) := hN
  have hN4 : N ≤ 1000 := by omega
  rw [← hN]
  clear hN hp hn
  go_enter Tryd.func19, Tryd.ntmps19
  go_wp2_with fail
  go_loopw [3, 8] (fun s i wr => ∃ k : Nat, ∃ m : Nat, k ≤ N ∧ m ≤ 2000 ∧ i = .int .i64 k ∧ s = .int .i64 m ∧ wr = w ∧ Hid (m = ((pss.take k).flatten).length))
    (fun _ i _ => N - (intOf i).toNat)
  case atStart => exact ⟨0, 0, Nat.zero_le _, by omega, rfl, rfl, rfl, (show _ = _ from by simp)⟩
  case round =>
    obtain ⟨k, m, hk, hm, rfl, rfl, hw, hmk⟩ := hrel
    obtain rfl : w = wr := hw.symm
    clear hw
    by_cases hlt : k < N
    · obtain ⟨p, hpk⟩ : ∃ p, pss[k]? = some p := ⟨_, List.getElem?_eq_getElem (by have := HN.out; omega)⟩
      obtain ⟨u, hu, hru⟩ := HP.out k p hpk
      have hpb := hb p (List.mem_of_getElem? hpk)
      obtain ⟨_, ao, cap, rfl, _⟩ := hru
      have HS : Hid (m + p.length = ((pss.take (k + 1)).flatten).length) := (show _ = _ from by rw [flat_step hpk, List.length_append, ← hmk.out])
      by_cases hbig : 2000 < m + p.length
      · have HD : Hid _ := small_no (pss := pss) (k := k + 1) (by rw [← HS.out]; exact hbig)
        have hgt : (2000 : Int) < (m : Int) + (p.length : Int) := by omega
        clear hb
        go_wp2_with fail
        go_ret
        refine ⟨?_, rfl⟩
        show Ending.returned (.bool false) = _
        rw [HD.out]
      · have hgt : ¬ (2000 : Int) < (m : Int) + (p.length : Int) := by omega
        go_wp2_with fail
        go_roundw
        case rel => exact ⟨k + 1, m + p.length, by omega, by omega, by go_num, by go_num, by simp, HS.out⟩
        case measure => simp [intOf]; omega
    · have hkN : k = N := by omega
      have HD : Hid (decide ((pss.flatten).length ≤ 2000) = true) := (show _ = _ from by
        have h := hmk.out
        rw [hkN, HN.out, List.take_length] at h
        exact decide_eq_true (by omega))
      clear hb hmk
      go_wp2_with fail
      go_ret
      refine ⟨?_, rfl⟩
      show Ending.returned (.bool true) = _
      rw [HD.out]
end Go.Proofs.YtkifihcficobnaaDoor
