/- The law ShellSays, walked. -/
import Derived.Test.YtcllnalikeljgabGreatDoorRefLineMade
import Derived.Test.YtcllnalikeljgabGreatDoorRefScr
import Derived.Test.YtcllnalikeljgabGreatDoorRefShell2
import Derived.Test.YtcllnalikeljgabGreatDoorSameA
import Derived.Test.YtcllnalikeljgabGreatDoorRefShell8
import Derived.Test.YtcllnalikeljgabGreatDoorShelled
import Derived.Test.YtcllnalikeljgabGreatDoorDevShell8
import Derived.Test.YtcllnalikeljgabGreatDoorFEq
namespace Go.Proofs.YtcllnalikeljgabGreatDoor
open Go.RowKit Go.Gs
set_option linter.unusedVariables false

theorem getS_right' {fs : List SFile} {n : List UInt8} (h : fchk fs = 0) : getS fs n = (fileOf fs n, 0) := by unfold getS; rw [if_pos h]
theorem getS_bad' {fs : List SFile} {n : List UInt8} (h : fchk fs ≠ 0) : getS fs n = ([], fchk fs) := by unfold getS; rw [if_neg h]
theorem putT_right' {fs : List SFile} {n b : List UInt8} (h : fchk fs = 0) : putT fs n b = putS fs n b := by unfold putT; rw [if_pos h]
theorem putT_bad' {fs : List SFile} {n b : List UInt8} (h : fchk fs ≠ 0) : putT fs n b = ([], fchk fs) := by unfold putT; rw [if_neg h]
theorem gatherT_right' {fs : List SFile} {fr : List (List UInt8)} (h : fchk fs = 0) : gatherT fs fr = gather fs fr := by unfold gatherT; rw [if_pos h]
theorem small_right {fs : List SFile} (h : fchk fs = 0) : ∀ f ∈ fs, f.b.length ≤ 4000 := fun f hf => (from_all (fchk_zero h).2 f hf).2

set_option maxRecDepth 100000 in
set_option maxHeartbeats 16000000 in
theorem shs_bad (ao ab am al : Option Addr) (cap cb cm cl : Nat) (fs ms : List SFile) (ls : List SLine) (n bs : List UInt8) (w : World) (hf : RFiles w (.slice ao fs.length cap) fs) (hfit : ∀ f ∈ fs, FitsF f) (hl : RLines w (.slice al ls.length cl) ls) (hfl : ∀ x ∈ ls, FitsL x) (hnl : n.length ≤ 9223372036854775807) (hb : Reads w (.slice ab bs.length cb) bs.length (bs.map U)) (hm : RFiles w (.slice am ms.length cm) ms) (hK : Known w) (h0 : fchk fs ≠ 0) :
    Calls Tryz.prog 3 #[.slice ao fs.length cap, .slice al ls.length cl, .string ⟨n.toArray⟩, .slice ab bs.length cb, .slice am ms.length cm] w fun e w' => e = .returned (.bool true) ∧ Below w.heap.size w w' := by
  haveI : DecidableEq SFile := fun a b => Classical.propDecidable _
  have HGET : Hid _ := get_is ao cap fs n w hf hfit
  have HPUT : Hid _ := fun (W : World) (h : Below w.heap.size w W) => put_is ao ab cap cb fs n bs W (hf.below h) hfit (hb.below h) hnl
  have HRUN : Hid _ := fun (W : World) (h : Below w.heap.size w W) => run_is ao al cap cl fs ls W (hf.below h) hfit (hl.below h) hfl (hK.below h)
  have HCR : Hid _ := fun (W : World) (h : Below w.heap.size w W) => checkFiles_ref ao cap fs W (hf.below h) hfit
  have HCD : Hid _ := fun (W : World) (h : Below w.heap.size w W) => fcheck_is ao cap fs W (hf.below h) hfit
  have HSH : Hid _ := fun (W : World) (h : Below w.heap.size w W) => shelled_true W (hK.below h)
  have HSD : Hid _ := fun (W : World) (h : Below w.heap.size w W) => same_is ao am cap cm fs ms W (hf.below h) (hm.below h)
  have HSR : Hid _ := fun (W : World) (h : Below w.heap.size w W) => sameFiles_ref ao am cap cm fs ms W (hf.below h) (hm.below h)
  have hcap := rfiles_le hf
  have hcl := rlines_le hl
  have hcm := rfiles_le hm
  have hbl := reads_le' hb
  obtain ⟨N, hN⟩ : ∃ N, N = fs.length := ⟨_, rfl⟩
  obtain ⟨MN, hMN⟩ : ∃ N, N = ms.length := ⟨_, rfl⟩
  obtain ⟨M, hM⟩ : ∃ M, M = ls.length := ⟨_, rfl⟩
  obtain ⟨BN, hBN⟩ : ∃ M, M = bs.length := ⟨_, rfl⟩
  obtain ⟨nx, hnx⟩ : ∃ nx : ByteArray, nx = ⟨n.toArray⟩ := ⟨_, rfl⟩
  obtain ⟨sd, hsd⟩ : ∃ sd, sd = decide (fs = ms) := ⟨_, rfl⟩
  rw [getS_bad' h0] at HGET
  rw [putT_bad' h0] at HPUT
  rw [runS_files h0] at HRUN
  obtain ⟨ck, hck⟩ : ∃ ck, ck = fchk fs := ⟨_, rfl⟩
  rw [← hck] at h0
  rw [← hN, ← hnx, ← hck] at HGET
  rw [← hN, ← hnx, ← hBN, ← hck] at HPUT
  rw [← hN, ← hM, ← hck] at HRUN
  rw [← hN, ← hck] at HCR HCD
  rw [← hN, ← hMN, ← hsd] at HSD HSR
  rw [← hN] at hcap
  rw [← hM] at hcl
  rw [← hMN] at hcm
  rw [← hBN] at hbl
  rw [← hN, ← hM, ← hnx, ← hBN, ← hMN]
  clear hf hfit hl hfl hb hm hK hN hM hBN hMN hnx hsd hck hnl
  go_enter Tryz.func3, Tryz.ntmps3
  go_wp2_with fail
  refine Calls.mono HGET.out ?_
  rintro e w1 ⟨a1, c1, rfl, _, hb1⟩
  have HB1 : Hid (Below w.heap.size w w1) := hb1
  simp only [List.length_nil]
  clear hb1 HGET
  go_wp2_with fail
  have hQ := HPUT.out w1 HB1.out
  refine Calls.mono hQ ?_
  rintro e w2 ⟨a2, c2, rfl, _, hb2⟩
  have HB2 : Hid (Below w.heap.size w w2) := HB1.out.trans (hb2.mono HB1.out.size)
  simp only [List.length_nil]
  clear hb2 hQ HPUT HB1
  go_wp2_with fail
  have hQ := HRUN.out w2 HB2.out
  refine Calls.mono hQ ?_
  rintro e w3 ⟨a3, c3, rfl, _, hb3⟩
  have HB3 : Hid (Below w.heap.size w w3) := HB2.out.trans (hb3.mono HB2.out.size)
  simp only [List.length_nil]
  clear hb3 hQ HRUN HB2
  go_wp2_with fail
  have hQ := HCR.out w3 HB3.out
  refine Calls.mono hQ ?_
  rintro e w4 ⟨rfl, hb4⟩
  have HB4 : Hid (Below w.heap.size w w4) := HB3.out.trans (hb4.mono HB3.out.size)
  clear hb4 hQ HCR HB3
  go_wp2_with fail
  have hQ := HSH.out w4 HB4.out
  refine Calls.mono hQ ?_
  rintro e w5 ⟨rfl, hb5⟩
  have HB5 : Hid (Below w.heap.size w w5) := HB4.out.trans (hb5.mono HB4.out.size)
  clear hb5 hQ HSH HB4
  go_wp2_with fail
  have hQ := HCD.out w5 HB5.out
  refine Calls.mono hQ ?_
  rintro e w6 ⟨rfl, hb6⟩
  have HB6 : Hid (Below w.heap.size w w6) := HB5.out.trans (hb6.mono HB5.out.size)
  clear hb6 hQ HCD HB5
  go_wp2_with fail
  have hQ := HSD.out w6 HB6.out
  refine Calls.mono hQ ?_
  rintro e w7 ⟨rfl, hb7⟩
  have HB7 : Hid (Below w.heap.size w w7) := HB6.out.trans (hb7.mono HB6.out.size)
  clear hb7 hQ HSD HB6
  go_wp2_with fail
  have hQ := HSR.out w7 HB7.out
  refine Calls.mono hQ ?_
  rintro e w8 ⟨rfl, hb8⟩
  have HB8 : Hid (Below w.heap.size w w8) := HB7.out.trans (hb8.mono HB7.out.size)
  clear hb8 hQ HSR HB7
  go_wp2_with fail
  go_ret
  exact ⟨rfl, HB8.out⟩
end Go.Proofs.YtcllnalikeljgabGreatDoor
