/- The walk of PipeSays, whatever the arguments: it returns true. -/
import Derived.Test.YtgebdlakafebiabPSaysnt
import Derived.Test.YtgebdlakafebiabPSaysnf
import Derived.Test.YtgebdlakafebiabPSaysbt
import Derived.Test.YtgebdlakafebiabPSaysbf
import Derived.Test.YtgebdlakafebiabPSaysgt
import Derived.Test.YtgebdlakafebiabPSaysgf
namespace Go.Proofs.Ytgebdlakafebiab
open Go.RowKit Go.Gs
set_option linter.unusedVariables false

theorem pipeSays_walk (p : SPipe) (ab ac : Option Addr) (cap cc : Nat) (cs : List UInt8) (most room : Int) (w : World) (hr : Reads w (.slice ab p.b.length cap) p.b.length (p.b.map U)) (hz : ab = none → cap = 0) (hrc : Reads w (.slice ac cs.length cc) cs.length (cs.map U)) :
    Calls Try.prog 4 #[pipeV p ab cap, .slice ac cs.length cc, .int .i64 most, .int .i64 room] w fun e w' => e = .returned (.bool true) ∧ Below w.heap.size w w' := by
  by_cases hpc : p.closed = true
  · by_cases h0 : room < 0
    · exact psays_nt p ab ac cap cc cs most room w hr hz h0 hpc hrc
    · by_cases h1 : 1000 < room
      · exact psays_bt p ab ac cap cc cs most room w hr hz h0 h1 hpc hrc
      · exact psays_gt p ab ac cap cc cs most room w hr hz h0 h1 hpc hrc
  · have hpf : p.closed = false := by simpa using hpc
    by_cases h0 : room < 0
    · exact psays_nf p ab ac cap cc cs most room w hr hz h0 hpf hrc
    · by_cases h1 : 1000 < room
      · exact psays_bf p ab ac cap cc cs most room w hr hz h0 h1 hpf hrc
      · exact psays_gf p ab ac cap cc cs most room w hr hz h0 h1 hpf hrc
end Go.Proofs.Ytgebdlakafebiab
