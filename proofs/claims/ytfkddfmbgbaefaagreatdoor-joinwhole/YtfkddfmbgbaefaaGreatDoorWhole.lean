/- What the reference's Whole does. -/
import Derived.Test.YtfkddfmbgbaefaaGreatDoorRefFns3
namespace Go.Proofs.YtfkddfmbgbaefaaGreatDoor
open Go.RowKit Go.Gs
set_option linter.unusedVariables false

set_option maxRecDepth 100000 in
set_option maxHeartbeats 1000000 in
theorem whole_is (v : Value) (bs : List UInt8) (w : World) (hr : Reads w v bs.length (bs.map U)) (hsh : w.ShapedOpen Tryz.prog) (hle : bs.length ≤ 50000) :
    Calls Tryz.prog 23 #[v] w fun e w' => ∃ r, e = .returned r ∧ Reads w' r (ended (lines bs)).length ((ended (lines bs)).map U) ∧ Below w.heap.size w w' := by
  have hl := ended_lines bs
  have HR : Hid (Reads w v bs.length (bs.map U)) := hr
  clear hr
  go_enter Tryz.func23, Tryz.ntmps23
  go_wp2_with fail
  refine (linesOf v bs w HR.out hsh (by omega)).mono ?_
  rintro e w1 ⟨g, cap, rfl, hr1, hb1⟩
  have HR1 : Hid _ := hr1
  have HB1 : Hid _ := hb1
  clear hr1 hb1
  go_wp2_with fail
  refine (bytesOf _ (lines bs) w1 HR1.out (by omega)).mono ?_
  rintro e w2 ⟨r2, rfl, hr2, hb2⟩
  have HR2 : Hid _ := hr2
  have HB2 : Hid (Below w.heap.size w w2) := Below.trans HB1.out (Below.mono hb2 (Below.size HB1.out))
  clear hr2 hb2
  go_wp2_with fail
  go_ret
  exact ⟨_, rfl, HR2.out, HB2.out⟩
end Go.Proofs.YtfkddfmbgbaefaaGreatDoor
