/- Facts of no function that walks over files use. -/
import Derived.Test.YtllgglolcgdehaaGreatDoorQAb
import Derived.Test.YtllgglolcgdehaaGreatDoorQb00
namespace Go.Proofs.YtllgglolcgdehaaGreatDoor
open Go.RowKit Go.Gs
set_option linter.unusedVariables false
theorem N7 {w:World} {o p:Obj}:Bq w ((w.alloc o).alloc p):=(F6 (w:=w) (o:=o)).alloc (by simp) p
end Go.Proofs.YtllgglolcgdehaaGreatDoor
