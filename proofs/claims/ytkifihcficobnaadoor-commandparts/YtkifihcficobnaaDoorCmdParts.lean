/- The walk of the sentence on a command's parts. -/
import Derived.Test.YtkifihcficobnaaDoorPartsLem
import Derived.Deep.DeepCutAuto
import Derived.Deep.RegionWith
namespace Go.Proofs.YtkifihcficobnaaDoor
open Go.RowKit Go.Gs
set_option linter.unusedVariables false

set_option maxRecDepth 100000 in
set_option maxHeartbeats 8000000 in
theorem parts_bad (word : List UInt8) (nn : Int) (ob : Option Addr) (cb : Nat) (b : List UInt8) (w : World) (hw : word.length ≤ 9223372036854775807) (h2 : Reads w (.slice ob b.length cb) b.length (b.map U)) (h3 : Known w) (r : Int) (hr1 : doErr ⟨1, word, 0⟩ b = r) (hr2 : doErr ⟨2, word, 0⟩ b = r) (hr0 : r ≠ 0) :
    Calls Tryd.prog 4 #[.string ⟨word.toArray⟩, .slice ob b.length cb, .int .i64 nn] w fun e w' => e = .returned (.bool true) ∧ Below w.heap.size w w' := by
  have R0 : Hid (Reads w (.slice ob b.length cb) b.length (b.map U)) := h2
  have K0 : Hid (Known w) := h3
  have HR1 : Hid _ := hr1
  have HR2 : Hid _ := hr2
  have HW : Hid _ := hw
  clear h2 h3 hr1 hr2 hw
  go_enter Tryd.func4, Tryd.ntmps4
  go_wp2_with fail
  refine (pdo_err ⟨1, word, 0⟩ HW.out R0.out K0.out r HR1.out hr0).mono ?_
  rintro e w1 ⟨rfl, hb1⟩
  have R1 : Hid (Reads w1 (.slice ob b.length cb) b.length (b.map U)) := R0.out.below hb1
  have K1 : Hid (Known w1) := K0.out.below hb1
  have B1 : Hid (Below w.heap.size w w1) := hb1
  clear hb1 R0 K0
  go_wp2_with fail
  refine (pdo_err ⟨2, word, 0⟩ HW.out R1.out K1.out r HR2.out hr0).mono ?_
  rintro e w2 ⟨rfl, hb2⟩
  have K2 : Hid (Known w2) := K1.out.below hb2
  have B2 : Hid (Below w.heap.size w w2) := B1.out.trans (hb2.mono B1.out.size)
  clear hb2 R1 K1 B1
  go_wp2_with fail
  refine (did_true _ K2.out).mono ?_
  rintro e w3 ⟨rfl, hb3⟩
  have K3 : Hid (Known w3) := K2.out.below hb3
  have B3 : Hid (Below w.heap.size w w3) := B2.out.trans (hb3.mono B2.out.size)
  clear hb3 K2 B2
  go_wp2_with fail
  refine (did_true _ K3.out).mono ?_
  rintro e w4 ⟨rfl, hb4⟩
  have B4 : Hid (Below w.heap.size w w4) := B3.out.trans (hb4.mono B3.out.size)
  clear hb4
  go_wp2_with fail
  go_ret
  exact ⟨rfl, B4.out⟩

set_option maxRecDepth 100000 in
set_option maxHeartbeats 8000000 in
theorem parts_big (word : List UInt8) (nn : Int) (ob : Option Addr) (cb : Nat) (b : List UInt8) (w : World) (hw : word.length ≤ 9223372036854775807) (h2 : Reads w (.slice ob b.length cb) b.length (b.map U)) (h3 : Known w) (hc : chk ⟨1, word, 0⟩ = 0) (hl : b.length ≤ 4000) (hbig : 2000 < b.length) :
    Calls Tryd.prog 4 #[.string ⟨word.toArray⟩, .slice ob b.length cb, .int .i64 nn] w fun e w' => e = .returned (.bool true) ∧ Below w.heap.size w w' := by
  have R0 : Hid (Reads w (.slice ob b.length cb) b.length (b.map U)) := h2
  have K0 : Hid (Known w) := h3
  have HC1 : Hid (chk ⟨1, word, 0⟩ = 0) := hc
  have HC2 : Hid (chk ⟨2, word, 0⟩ = 0) := (chk_drop word).trans hc
  have HW : Hid _ := hw
  clear h2 h3 hc hw
  go_enter Tryd.func4, Tryd.ntmps4
  go_wp2_with fail
  refine (pdo ⟨1, word, 0⟩ HC1.out HW.out R0.out K0.out hl).mono ?_
  rintro e w1 ⟨o1, c1, N1, rfl, X1, hb1⟩
  have R1 : Hid (Reads w1 (.slice ob b.length cb) b.length (b.map U)) := R0.out.below hb1
  have K1 : Hid (Known w1) := K0.out.below hb1
  have B1 : Hid (Below w.heap.size w w1) := hb1
  clear hb1 R0 K0 X1
  go_wp2_with fail
  refine (pdo ⟨2, word, 0⟩ HC2.out HW.out R1.out K1.out hl).mono ?_
  rintro e w2 ⟨o2, c2, N2, rfl, X2, hb2⟩
  have R2 : Hid (Reads w2 (.slice ob b.length cb) b.length (b.map U)) := R1.out.below hb2
  have K2 : Hid (Known w2) := K1.out.below hb2
  have B2 : Hid (Below w.heap.size w w2) := B1.out.trans (hb2.mono B1.out.size)
  clear hb2 R1 K1 B1 X2
  go_wp2_with fail
  refine (did_true _ K2.out).mono ?_
  rintro e w3 ⟨rfl, hb3⟩
  have R3 : Hid (Reads w3 (.slice ob b.length cb) b.length (b.map U)) := R2.out.below hb3
  have K3 : Hid (Known w3) := K2.out.below hb3
  have B3 : Hid (Below w.heap.size w w3) := B2.out.trans (hb3.mono B2.out.size)
  clear hb3 K2 B2 R2
  go_wp2_with fail
  refine (psmall R3.out (by omega)).mono ?_
  rintro e w4 ⟨rfl, hb4⟩
  have K4 : Hid (Known w4) := K3.out.below hb4
  have B4 : Hid (Below w.heap.size w w4) := B3.out.trans (hb4.mono B3.out.size)
  have hd : decide (b.length ≤ 2000) = false := decide_eq_false (by omega)
  rw [hd]
  clear hb4 K3 B3 R3 hd
  go_wp2_with fail
  refine (did_true _ K4.out).mono ?_
  rintro e w5 ⟨rfl, hb5⟩
  have B5 : Hid (Below w.heap.size w w5) := B4.out.trans (hb5.mono B4.out.size)
  clear hb5
  go_wp2_with fail
  go_ret
  exact ⟨rfl, B5.out⟩
end Go.Proofs.YtkifihcficobnaaDoor
