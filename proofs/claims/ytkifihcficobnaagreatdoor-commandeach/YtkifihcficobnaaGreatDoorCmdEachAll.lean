/- The sentence on Each: its walk, whatever comes in. -/
import Derived.Test.YtkifihcficobnaaGreatDoorCmdEachOk
namespace Go.Proofs.YtkifihcficobnaaGreatDoor
open Go.RowKit Go.Gs
set_option linter.unusedVariables false

theorem commandEach_walk (w : World) (hK : Known w) (hsh : w.ShapedOpen Tryz.prog) (k n : Int) (word : List UInt8) (hw : word.length ≤ 9223372036854775807) (oa : Option Addr) (ca : Nat) (a : List UInt8) (h1 : Reads w (.slice oa a.length ca) a.length (a.map U)) (ha : a.length ≤ 1000000000000000) (ob : Option Addr) (cb : Nat) (b : List UInt8) (h2 : Reads w (.slice ob b.length cb) b.length (b.map U)) (hb : b.length ≤ 1000000000000000) :
    Calls Tryz.prog 4 #[.agg #[.int .i64 k, .string ⟨word.toArray⟩, .int .i64 n], .slice oa a.length ca, .slice ob b.length cb] w fun e w' => e = .returned (.bool true) ∧ Below w.heap.size w w' := by
  cases he : isEach k with
  | false => exact each_not k n word oa ob ca cb a b w h1 h2 hK hsh he
  | true =>
    by_cases hc : chk ⟨k, word, n⟩ = 0
    · by_cases hs : a.length + b.length ≤ 2000
      · exact each_ok k n word oa ob ca cb a b w hw h1 h2 hK hsh he hc ha hb hs
      · exact each_big k n word oa ob ca cb a b w hw h1 h2 hK hsh he hc ha hb (by omega)
    · exact each_bad k n word oa ob ca cb a b w hw h1 h2 hK hsh he _ rfl hc
end Go.Proofs.YtkifihcficobnaaGreatDoor
