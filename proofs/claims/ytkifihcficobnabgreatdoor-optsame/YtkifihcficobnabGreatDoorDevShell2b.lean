/- slices.BinarySearchFunc at files that rise; find. -/
import Derived.Test.YtkifihcficobnabGreatDoorDevShell2
import Derived.Laws.Shifts
namespace Go.Proofs.YtkifihcficobnabGreatDoor
open Go.RowKit Go.Gs
set_option linter.unusedVariables false

set_option maxRecDepth 100000 in
set_option maxHeartbeats 4000000 in
theorem bsearch_is (ao : Option Addr) (cap : Nat) (fs : List SFile) (n : List UInt8) (w : World) (hf : RFiles w (.slice ao fs.length cap) fs) (hr : fchkFrom none fs = 0) (h12 : fs.length ≤ 12) :
    Calls Tryz.prog 86 #[.slice ao fs.length cap, .string ⟨n.toArray⟩, .func (.func 87) #[] #[]] w fun e w' => e = .returned (.tuple #[.int .i64 (posOf fs n), .bool (thereOf fs n)]) ∧ Below w.heap.size w w' := by
  have HF : Hid (RFiles w (.slice ao fs.length cap) fs) := hf
  have HRI : Hid (fchkFrom none fs = 0) := hr
  have hple := pos_le fs n
  obtain ⟨N, hN⟩ : ∃ N, N = fs.length := ⟨_, rfl⟩
  have HN : Hid (N = fs.length) := hN
  obtain ⟨p, hp⟩ : ∃ p, p = posOf fs n := ⟨_, rfl⟩
  have HP : Hid (p = posOf fs n) := hp
  rw [← hN] at HF h12 hple ⊢
  rw [← hp] at hple ⊢
  obtain ⟨nx, hnx⟩ : ∃ nx : ByteArray, nx = ⟨n.toArray⟩ := ⟨_, rfl⟩
  have HNX : Hid (nx = ⟨n.toArray⟩) := hnx
  rw [← hnx]
  clear hf hr hN hp hnx
  go_enter Tryz.func86, Tryz.ntmps86
  go_wp2_with fail
  go_loopw [9, 10] (fun s9 s10 wr => ∃ lo hi : Nat, s9 = .int .i64 lo ∧ s10 = .int .i64 hi ∧ lo ≤ p ∧ p ≤ hi ∧ hi ≤ N ∧ Hid (Below w.heap.size w wr)) (fun s9 s10 _ => (intOf s10).toNat - (intOf s9).toNat)
  case atStart => exact ⟨0, N, rfl, rfl, Nat.zero_le _, hple, Nat.le_refl _, Below.refl _ _⟩
  case round =>
    obtain ⟨lo, hi, rfl, rfl, hlp, hph, hhN, hbel⟩ := hrel
    by_cases hlt : lo < hi
    · obtain ⟨h, hh⟩ : ∃ h, h = (lo + hi) / 2 := ⟨_, rfl⟩
      have hlh : lo ≤ h := by omega
      have hhh : h < hi := by omega
      obtain ⟨f, hfk⟩ : ∃ f, fs[h]? = some f := ⟨_, List.getElem?_eq_getElem (by have := HN.out; omega)⟩
      have hpi := pos_iff (n := n) HRI.out hfk
      rw [← HP.out] at hpi
      obtain ⟨b, off, ab, cb, rfl, hc0, hc1, hrr⟩ := (RFiles.below HF.out hbel.out).at hfk
      have HC : Hid _ := fun (W : World) => find1_is f.name (.int .i64 0) ab f.b.length cb n W
      rw [← HNX.out] at HC
      have hcn := cmp_neg f.name n
      generalize Lib.compareBytes f.name n = r at *
      generalize (⟨f.name.toArray⟩ : ByteArray) = fx at *
      generalize f.b.length = L at *
      clear hfk hrr
      subst hh
      by_cases hpp : (lo + hi) / 2 < p
      · have hr0 : r < 0 := hcn.2 (hpi.2 hpp)
        clear hcn hpi
        go_wp2_with fail
        refine Calls.mono (HC.out _) ?_
        rintro e w3 ⟨rfl, hb3⟩
        have HB3 : Hid (Below w.heap.size w w3) := hbel.out.trans (hb3.mono hbel.out.size)
        clear hb3 HC hc0 hc1
        go_wp2_with fail
        go_roundw
        case rel => exact ⟨(lo + hi) / 2 + 1, hi, by rw [show ((lo : Int) + (hi : Int)) / 2 + 1 = (((lo + hi) / 2 + 1 : Nat) : Int) by omega], rfl, by omega, hph, hhN, HB3⟩
        case measure => simp [intOf]; omega
      · have hr0 : ¬ r < 0 := fun x => hpp (hpi.1 (hcn.1 x))
        clear hcn hpi
        go_wp2_with fail
        refine Calls.mono (HC.out _) ?_
        rintro e w3 ⟨rfl, hb3⟩
        have HB3 : Hid (Below w.heap.size w w3) := hbel.out.trans (hb3.mono hbel.out.size)
        clear hb3 HC hc0 hc1
        go_wp2_with fail
        go_roundw
        case rel => exact ⟨lo, (lo + hi) / 2, rfl, by rw [show ((lo : Int) + (hi : Int)) / 2 = (((lo + hi) / 2 : Nat) : Int) by omega], hlp, by omega, by omega, HB3⟩
        case measure => simp [intOf]; omega
    · obtain rfl : lo = p := by omega
      obtain rfl : hi = lo := by omega
      by_cases hlN : hi < N
      · obtain ⟨f, hfk⟩ : ∃ f, fs[hi]? = some f := ⟨_, List.getElem?_eq_getElem (by have := HN.out; omega)⟩
        have hth := there_some (l := fs) (n := n) (by rw [← HP.out]; exact hfk)
        obtain ⟨b, off, ab, cb, rfl, hc0, hc1, hrr⟩ := (RFiles.below HF.out hbel.out).at hfk
        have HC : Hid _ := fun (W : World) => find1_is f.name (.int .i64 0) ab f.b.length cb n W
        rw [← HNX.out] at HC
        have hcz := cmp_zero f.name n
        have HTH : Hid (thereOf fs n = decide (f.name = n)) := hth
        generalize Lib.compareBytes f.name n = r at *
        generalize (⟨f.name.toArray⟩ : ByteArray) = fx at *
        generalize f.b.length = L at *
        clear hfk hrr hth
        by_cases hfn : f.name = n
        · have hr0 : r = 0 := hcz.2 hfn
          have HT : Hid (thereOf fs n = true) := (show _ = _ by rw [HTH.out]; exact decide_eq_true hfn)
          subst hr0
          clear hcz HTH hfn
          go_wp2_with fail
          refine Calls.mono (HC.out _) ?_
          rintro e w3 ⟨rfl, hb3⟩
          have HB3 : Hid (Below w.heap.size w w3) := hbel.out.trans (hb3.mono hbel.out.size)
          clear hb3 HC hc0 hc1
          go_wp2_with fail
          go_ret2
          exact ⟨by rw [HT.out]; rfl, HB3.out⟩
        · have hr0 : ¬ r = 0 := fun x => hfn (hcz.1 x)
          have HT : Hid (thereOf fs n = false) := (show _ = _ by rw [HTH.out]; exact decide_eq_false hfn)
          clear hcz HTH hfn
          go_wp2_with fail
          refine Calls.mono (HC.out _) ?_
          rintro e w3 ⟨rfl, hb3⟩
          have HB3 : Hid (Below w.heap.size w w3) := hbel.out.trans (hb3.mono hbel.out.size)
          clear hb3 HC hc0 hc1
          go_wp2_with fail
          go_ret2
          exact ⟨by rw [HT.out, show false = (r == 0) by simp [hr0]]; rfl, HB3.out⟩
      · have HT : Hid (thereOf fs n = false) := there_none (by rw [← HP.out, ← HN.out]; omega)
        go_wp2_with fail
        go_ret2
        exact ⟨by rw [HT.out]; rfl, hbel.out⟩

set_option maxRecDepth 100000 in
set_option maxHeartbeats 2000000 in
theorem find_is (ao : Option Addr) (cap : Nat) (fs : List SFile) (n : List UInt8) (w : World) (hf : RFiles w (.slice ao fs.length cap) fs) (hr : fchkFrom none fs = 0) (h12 : fs.length ≤ 12) :
    Calls Tryz.prog 46 #[.slice ao fs.length cap, .string ⟨n.toArray⟩] w fun e w' => e = .returned (.tuple #[.int .i64 (posOf fs n), .bool (thereOf fs n)]) ∧ Below w.heap.size w w' := by
  have HB : Hid _ := bsearch_is ao cap fs n w hf hr h12
  generalize posOf fs n = p at *
  generalize thereOf fs n = t at *
  generalize fs.length = N at *
  generalize (⟨n.toArray⟩ : ByteArray) = nx at *
  clear hf hr
  go_enter Tryz.func46, Tryz.ntmps46
  go_wp2_with fail
  refine Calls.mono HB.out ?_
  rintro e w1 ⟨rfl, hb1⟩
  have HB1 : Hid (Below w.heap.size w w1) := hb1
  clear hb1 HB
  go_wp2_with fail
  go_ret2
  exact ⟨rfl, HB1.out⟩
end Go.Proofs.YtkifihcficobnabGreatDoor
