/- The closed facts that the sentences ask for, plainly: no walk. -/
import Derived.Test.YtkifihcficobnaaDoorCmdMade
namespace Go.Gs
open Go.RowKit
set_option linter.unusedVariables false

def didB : List UInt8 := [98, 32, 120, 10, 97, 10, 98, 32, 120]
theorem didB_lines : lines didB = [[98, 32, 120], [97], [98, 32, 120]] := by decide
theorem did_sort : doOut ⟨6, [], 0⟩ didB = [97, 10, 98, 32, 120, 10, 98, 32, 120, 10] := by
  unfold doOut
  rw [didB_lines, made6 _ rfl, sorted_unique (sortOf [[98, 32, 120], [97], [98, 32, 120]]) [[97], [98, 32, 120], [98, 32, 120]] ((sortOf_perm _).trans (by decide)) (sortOf_sorted _) (by decide)]
  rfl
theorem did_keep : doOut ⟨1, [120], 0⟩ didB = [98, 32, 120, 10, 98, 32, 120, 10] := by
  unfold doOut
  rw [didB_lines, made1 _ rfl]
  decide
theorem did_field : doOut ⟨4, [], 2⟩ didB = [120, 10, 10, 120, 10] := by
  unfold doOut
  rw [didB_lines, made4 _ rfl]
  decide
theorem did_count : doOut ⟨8, [], 0⟩ didB = [51, 10] := by
  unfold doOut
  rw [didB_lines, made8 _ rfl]
  show ended [Lib.itoa 3] = _
  unfold Lib.itoa
  rw [if_neg (by decide), show (3 : Int).toNat = 3 from rfl, Lib.decDigits, dif_pos (by decide)]
  rfl
theorem did_turn : doOut ⟨5, [], 0⟩ didB = [120, 32, 98, 10, 97, 10, 120, 32, 98, 10] := by
  unfold doOut
  rw [didB_lines, made5 _ rfl]
  decide
end Go.Gs
