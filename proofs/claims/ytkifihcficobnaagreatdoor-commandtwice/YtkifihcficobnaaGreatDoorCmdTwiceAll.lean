/- The sentence on doing twice: its walk, whatever comes in. -/
import Derived.Test.YtkifihcficobnaaGreatDoorCmdTwiceOk
namespace Go.Proofs.YtkifihcficobnaaGreatDoor
open Go.RowKit Go.Gs
set_option linter.unusedVariables false

theorem commandTwice_walk (w : World) (hK : Known w) (hsh : w.ShapedOpen Tryz.prog) (k n : Int) (word : List UInt8) (hw : word.length ≤ 9223372036854775807) (ob : Option Addr) (cb : Nat) (b : List UInt8) (h2 : Reads w (.slice ob b.length cb) b.length (b.map U)) (hb : b.length ≤ 1000000000000000) (kk : Int) (hk : -9223372036854775808 ≤ kk ∧ kk ≤ 9223372036854775807) :
    Calls Tryz.prog 5 #[.agg #[.int .i64 k, .string ⟨word.toArray⟩, .int .i64 n], .slice ob b.length cb, .int .i64 kk] w fun e w' => e = .returned (.bool true) ∧ Below w.heap.size w w' := by
  by_cases hc : chk ⟨k, word, n⟩ = 0
  · by_cases hs : b.length ≤ 2000
    · exact twice_ok k n word kk hk.1 hk.2 ob cb b w hw h2 hK hsh hc hs
    · exact twice_big k n word kk ob cb b w hw h2 hK hsh hc hb (by omega)
  · exact twice_bad k n word kk ob cb b w hw h2 hK hsh _ rfl hc
end Go.Proofs.YtkifihcficobnaaGreatDoor
