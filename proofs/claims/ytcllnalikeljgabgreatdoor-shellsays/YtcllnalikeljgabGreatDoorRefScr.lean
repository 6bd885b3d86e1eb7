/- What the reference's CheckScript does. -/
import Derived.Test.YtcllnalikeljgabGreatDoorScrA
import Derived.Test.YtcllnalikeljgabGreatDoorRefLine
namespace Go.Proofs.YtcllnalikeljgabGreatDoor
open Go.RowKit Go.Gs
set_option linter.unusedVariables false

set_option maxRecDepth 100000 in
set_option maxHeartbeats 4000000 in
theorem scheck_ref (ao : Option Addr) (cap : Nat) (ls : List SLine) (w : World) (hl : RLines w (.slice ao ls.length cap) ls) (hfit : ∀ x ∈ ls, FitsL x) (hwf : ∀ x ∈ ls, WfL x) :
    Calls Tryz.prog 19 #[.slice ao ls.length cap] w fun e w' => e = .returned (.int .i64 (schk ls)) ∧ Below w.heap.size w w' := by
  obtain ⟨_, _, e0, hm1, hm2⟩ := hl.shape
  injection e0 with e1 e2 e3
  subst e3
  unfold maxLen at hm2
  have HL : Hid (RLines w (.slice ao ls.length cap) ls) := hl
  have HFit : Hid _ := hfit
  have HWf : Hid (∀ x ∈ ls, WfL x) := hwf
  obtain ⟨N, hN⟩ : ∃ N, N = ls.length := ⟨_, rfl⟩
  have HN : Hid (N = ls.length) := hN
  rw [← hN]
  rw [← hN] at HL
  by_cases hmany : 6 < N
  · have HR : Hid (schk ls = 2) := schk_many (by omega)
    have hq : (6 : Int) < N := by omega
    have hN2 : N ≤ 9223372036854775807 := by omega
    clear hl hwf hfit hm1 hN e1 hm2
    go_enter Tryz.func19, Tryz.ntmps19
    go_wp2_with fail
    go_ret
    exact ⟨by rw [HR.out]; rfl, Below.refl _ _⟩
  · have HR : Hid (schk ls = firstBad (ls.map lchk)) := schk_few (by omega)
    have hN6 : N ≤ 6 := by omega
    clear hl hwf hfit hm1 hN e1 hmany hm2
    go_enter Tryz.func19, Tryz.ntmps19
    go_wp2_with fail
    go_loopw [11] (fun i wr => ∃ k : Nat, k ≤ N ∧ i = .int .i64 k ∧ Hid (Below w.heap.size w wr) ∧ Hid (∀ x ∈ ls.take k, lchk x = 0)) (fun i _ => N - (intOf i).toNat)
    case atStart => exact ⟨0, Nat.zero_le _, rfl, Below.refl _ _, (show ∀ x ∈ ls.take 0, lchk x = 0 by simp)⟩
    case round =>
      obtain ⟨k, hk, rfl, hbel, hall⟩ := hrel
      by_cases hlt : k < N
      · obtain ⟨x, hx⟩ : ∃ x, ls[k]? = some x := ⟨_, List.getElem?_eq_getElem (by have := HN.out; omega)⟩
        have HS : Hid (ls[k]? = some x) := hx
        obtain ⟨b, off, af, cf, ad, cd, rfl, hc0, hc1, hc2, hr, hd⟩ := (RLines.below HL.out hbel.out).at hx
        have hCk := fun (W : World) (hb : Below wr.heap.size wr W) => checkLine_ref x af ad cf cd W (hr.below hb) (hd.below hb) (HFit.out x (List.mem_of_getElem? hx)) (HWf.out x (List.mem_of_getElem? hx))
        generalize hrr : lchk x = r at *
        have HRr : Hid (lchk x = r) := hrr
        generalize (⟨x.to.toArray⟩ : ByteArray) = sy at *
        generalize x.fr.length = NF at *
        generalize x.cs.length = ND at *
        have HC : Hid _ := hCk
        clear hx hrr hr hd hCk
        go_wp2_with fail
        refine (HC.out _ (box_of)).mono ?_
        rintro e w1 ⟨rfl, hb1⟩
        have HB : Hid (Below w.heap.size w w1) := (hbel.out.alloc hbel.out.size _).trans (hb1.mono (by simp; exact Nat.le_succ_of_le hbel.out.size))
        clear hb1 hbel HC
        by_cases hr0 : r = 0
        · subst hr0
          have HA : Hid (∀ x ∈ ls.take (k + 1), lchk x = 0) := take_all HS.out hall.out HRr.out
          clear hall
          go_wp2_with fail
          go_roundw
          case rel => exact ⟨k + 1, by omega, by go_num, HB, HA⟩
          case measure => simp [intOf]; omega
        · have HA : Hid (schk ls = r) := (show _ = _ from by rw [HR.out, firstBad_at HS.out hall.out (by rw [HRr.out]; exact hr0), HRr.out])
          clear hall
          go_wp2_with fail
          go_ret
          exact ⟨by rw [HA.out]; rfl, HB.out⟩
      · have HA : Hid (schk ls = 0) := by
          show _ = _
          rw [HR.out]
          have e := hall.out
          rw [List.take_of_length_le (by have := HN.out; omega)] at e
          exact firstBad_none e
        clear hall HR
        go_wp2_with fail
        go_ret
        exact ⟨by rw [HA.out]; rfl, hbel.out⟩
end Go.Proofs.YtcllnalikeljgabGreatDoor
