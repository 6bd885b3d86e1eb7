/- One more laying at this dump, by program. -/
import Derived.Ground.SlsoProg
import Derived.Shelf.SlSorted.IsSorted
import Derived.Test.YtkifihcficobnaaDoorProg
namespace Go.Proofs
open Go.Shelf
def Tryd.laysSorted_ren : Go.Shelf.Ren := ⟨fun | 11 => 23 | 19 => 45 | 25 => 83 | n => n, fun | 25 => 23 | 27 => 9 | 4 => 4 | 3 => 3 | 0 => 0 | n => n, fun | n => n⟩
theorem Tryd.laysSorted : Go.Proofs.SlLaysO.n11 Tryd.prog Tryd.laysSorted_ren := {
  mixed := by kernel_rfl
  f11 := ⟨Tryd.f23.name, by decide, Tryd.func23.trans (congrArg some (by kernel_rfl))⟩
  f19 := ⟨Tryd.f45.name, by decide, Tryd.func45.trans (congrArg some (by kernel_rfl))⟩
  f25 := ⟨Tryd.f83.name, by decide, Tryd.func83.trans (congrArg some (by kernel_rfl))⟩
  t0 := Tryd.underlying0
  a0 := Tryd.isAgg0
  z0 := Tryd.sizeOf0
  v0 := Tryd.zeroValue0
  t3 := Tryd.underlying3
  a3 := Tryd.isAgg3
  z3 := Tryd.sizeOf3
  v3 := Tryd.zeroValue3
  t4 := Tryd.underlying4
  a4 := Tryd.isAgg4
  z4 := Tryd.sizeOf4
  v4 := Tryd.zeroValue4
  t25 := Tryd.underlying23
  a25 := Tryd.isAgg23
  z25 := Tryd.sizeOf23
  v25 := Tryd.zeroValue23
  t27 := Tryd.underlying9
  a27 := Tryd.isAgg9
  z27 := Tryd.sizeOf9
  v27 := Tryd.zeroValue9 }
end Go.Proofs
