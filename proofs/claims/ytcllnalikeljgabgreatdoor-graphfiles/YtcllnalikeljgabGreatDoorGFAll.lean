/- The law GraphFiles, walked. -/
import Derived.Test.YtcllnalikeljgabGreatDoorGF3
import Derived.Test.YtcllnalikeljgabGreatDoorFlowed2
namespace Go.Proofs.YtcllnalikeljgabGreatDoor
open Go.RowKit Go.Gs
set_option linter.unusedVariables false

theorem graphFiles_walk (W : World) (hE : KnownE W) (hsh : W.ShapedOpen Tryz.prog) (an : Option Addr) (capn : Nat) (ns : List SNode) (hr : RNodes W (.slice an ns.length capn) ns) (hfit : ∀ n ∈ ns, FitsN n) (ao : Option Addr) (cap : Nat) (fs : List SFile) (hf : RFiles W (.slice ao fs.length cap) fs) (hff : ∀ f ∈ fs, FitsF f) (hz : ao = none → cap = 0) :
    Calls Tryz.prog 7 #[.agg #[.slice an ns.length capn], .slice ao fs.length cap] W fun e w' => e = .returned (.bool true) ∧ Below W.heap.size W w' :=
  gf_walk ns an ao capn cap fs W hr hfit hf hff hE hsh (fun W' h => flowed_true W' (hE.below h))
end Go.Proofs.YtcllnalikeljgabGreatDoor
