/- The sentence on joins within joins: its walk, whatever comes in. -/
import Derived.Test.YtkifihcficobnaaGreatDoorJNest4
namespace Go.Proofs.YtkifihcficobnaaGreatDoor
open Go.RowKit Go.Gs
set_option linter.unusedVariables false

theorem joinNest_walk (w : World) (hK : KnownE w) (hsh : w.ShapedOpen Tryz.prog) (how : Int) (hhow : -9223372036854775808 ≤ how ∧ how ≤ 9223372036854775807) (k n : Int) (word : List UInt8) (hw : word.length ≤ 9223372036854775807) (oa : Option Addr) (ca : Nat) (a : List UInt8) (h1 : Reads w (.slice oa a.length ca) a.length (a.map U)) (ha : a.length ≤ 1000000000000000) (ob : Option Addr) (cb : Nat) (b : List UInt8) (h2 : Reads w (.slice ob b.length cb) b.length (b.map U)) (hb : b.length ≤ 1000000000000000) (od : Option Addr) (cd : Nat) (d : List UInt8) (h3 : Reads w (.slice od d.length cd) d.length (d.map U)) (hd : d.length ≤ 1000000000000000) :
    Calls Tryz.prog 8 #[.int .i64 how, .agg #[.int .i64 k, .string ⟨word.toArray⟩, .int .i64 n], .slice oa a.length ca, .slice ob b.length cb, .slice od d.length cd] w fun e w' => e = .returned (.bool true) ∧ Below w.heap.size w w' := by
  by_cases h4 : how = 4
  · subst h4
    by_cases hbad : jchk 4 ⟨k, word, n⟩ ≠ 0 ∨ 2000 < a.length + b.length + d.length
    · exact nest_early4 k n word oa ob od ca cb cd a b d w hw h1 h2 h3 hK ha hb hd hbad
    · simp only [not_or, Decidable.not_not] at hbad
      by_cases hk : k = 7 ∨ k = 9 ∨ k = 10
      · exact nest_four k n word oa ob od ca cb cd a b d w hw h1 h2 h3 hK ha hb hd hbad.1 hk (by omega)
      · exact nest_other k n word oa ob od ca cb cd a b d w hw h1 h2 h3 hK ha hb hd hbad.1 (by omega) hk
  · by_cases hbad : jchk how ⟨0, [], 0⟩ ≠ 0 ∨ 2000 < a.length + b.length + d.length
    · exact nest_early how h4 k n word oa ob od ca cb cd a b d w hw h1 h2 h3 hK ha hb hd hbad
    · simp only [not_or, Decidable.not_not] at hbad
      have hc := jchk_how hbad.1
      rcases hc with rfl | rfl | rfl | rfl
      · exact nest_one k n word oa ob od ca cb cd a b d w hw h1 h2 h3 hK ha hb hd (by omega)
      · exact nest_two k n word oa ob od ca cb cd a b d w hw h1 h2 h3 hK ha hb hd (by omega)
      · exact nest_three k n word oa ob od ca cb cd a b d w hw h1 h2 h3 hK ha hb hd (by omega)
      · exact absurd rfl h4
end Go.Proofs.YtkifihcficobnaaGreatDoor
