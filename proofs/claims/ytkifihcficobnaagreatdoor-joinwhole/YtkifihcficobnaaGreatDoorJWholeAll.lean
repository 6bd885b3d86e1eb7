/- The sentence on the whole: its walk, whatever comes in. -/
import Derived.Test.YtkifihcficobnaaGreatDoorJWholeOk
namespace Go.Proofs.YtkifihcficobnaaGreatDoor
open Go.RowKit Go.Gs
set_option linter.unusedVariables false

theorem joinWhole_walk (w : World) (hK : KnownE w) (hsh : w.ShapedOpen Tryz.prog) (k n : Int) (word : List UInt8) (hw : word.length ≤ 9223372036854775807) (ao : Option Addr) (cap : Nat) (bss : List (List UInt8)) (h1 : RList w (.slice ao bss.length cap) U bss) (hbs : ∀ p ∈ bss, p.length ≤ 1000000000000000) :
    Calls Tryz.prog 7 #[.agg #[.int .i64 k, .string ⟨word.toArray⟩, .int .i64 n], .slice ao bss.length cap] w fun e w' => e = .returned (.bool true) ∧ Below w.heap.size w w' := by
  by_cases hbad : chk ⟨k, word, n⟩ ≠ 0 ∨ bss.length = 0 ∨ 5 < bss.length ∨ 2000 < bss.flatten.length
  · exact whole_early k n word ao cap bss w hw h1 hK hsh hbs hbad
  · simp only [not_or, Decidable.not_not] at hbad
    obtain ⟨h2, h3, h4, h5⟩ := hbad
    exact whole_ok k n word ao cap bss w hw h1 hK hsh h2 h3 (by omega) (by omega)
end Go.Proofs.YtkifihcficobnaaGreatDoor
