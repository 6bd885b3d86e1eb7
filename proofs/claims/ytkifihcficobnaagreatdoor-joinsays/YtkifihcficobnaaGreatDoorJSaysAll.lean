/- The sentence on joins: its walk, whatever comes in. -/
import Derived.Test.YtkifihcficobnaaGreatDoorJSays
import Derived.Test.YtkifihcficobnaaGreatDoorRefJoin4
import Derived.Test.YtkifihcficobnaaGreatDoorRefJoin5
import Derived.Test.YtkifihcficobnaaGreatDoorRefJoin6
import Derived.Test.YtkifihcficobnaaGreatDoorRefJoin8
namespace Go.Proofs.YtkifihcficobnaaGreatDoor
open Go.RowKit Go.Gs
set_option linter.unusedVariables false

theorem joinSays_walk (w : World) (hK : KnownE w) (hsh : w.ShapedOpen Tryz.prog) (how : Int) (hhow : -9223372036854775808 ≤ how ∧ how ≤ 9223372036854775807) (k n : Int) (word : List UInt8) (hw : word.length ≤ 9223372036854775807) (hkw : (Lit.int .i64 k).wf = true) (ao : Option Addr) (cap : Nat) (bss : List (List UInt8)) (h1 : RList w (.slice ao bss.length cap) U bss) (hbs : ∀ p ∈ bss, p.length ≤ 1000000000000000) :
    Calls Tryz.prog 6 #[.int .i64 how, .agg #[.int .i64 k, .string ⟨word.toArray⟩, .int .i64 n], .slice ao bss.length cap] w fun e w' => e = .returned (.bool true) ∧ Below w.heap.size w w' := by
  by_cases hj : jchk how ⟨k, word, n⟩ = 0
  · by_cases hm : 5 < bss.length ∨ 4000 < bss.flatten.length
    · refine jsays how k n word ao cap bss w hkw hw h1 hK hsh hbs _ _ _ 2 rfl rfl rfl [] (fun W hJ => ?_) (by rw [if_neg (by simp [hj]), if_pos hm]) (fun _ => rfl) (fun h => by cases h)
      refine (jdo_many how ⟨k, word, n⟩ _ bss W hw hj hJ.2.1 hbs hm).mono ?_
      rintro e w' ⟨rfl, hb⟩
      exact ⟨none, 0, rfl, reads_nil, hb⟩
    · refine jsays how k n word ao cap bss w hkw hw h1 hK hsh hbs _ _ _ 0 rfl rfl rfl (jOut how ⟨k, word, n⟩ bss) (fun W hJ => ?_) (by rw [if_neg (by simp [hj]), if_neg hm]) (fun h => absurd rfl h) (fun _ W hJ => ?_)
      · refine (jdo_ok how ⟨k, word, n⟩ _ bss W hw hj hJ.2.1 (by omega) (by omega) hJ.2.2.1).mono ?_
        rintro e w' ⟨r, rfl, ho, hb⟩
        have hr := Reads.of_owns ho
        obtain ⟨_, ro, rc, rfl, _⟩ := id hr
        exact ⟨ro, rc, rfl, hr, hb⟩
      · have h4 : how = 1 ∨ how = 2 ∨ how = 3 ∨ how = 4 := by
          unfold jchk at hj
          split at hj
          · cases hj
          · omega
        rcases h4 with rfl | rfl | rfl | rfl
        · exact (joined_one k n word ao cap bss W hJ.2.1 (by omega) (by omega) hJ.2.2.1 hJ.2.2.2.1).mono (by rintro e w' ⟨r, g1, g2, g3, _⟩; exact ⟨r, g1, g2, g3⟩)
        · exact (joined_two k n word ao cap bss W hJ.2.1 (by omega) (by omega) hJ.2.2.1 hJ.2.2.2.1).mono (by rintro e w' ⟨r, g1, g2, g3, _⟩; exact ⟨r, g1, g2, g3⟩)
        · exact (joined_three k n word ao cap bss W hJ.2.1 (by omega) (by omega) hJ.2.2.1 hJ.2.2.2.1).mono (by rintro e w' ⟨r, g1, g2, g3, _⟩; exact ⟨r, g1, g2, g3⟩)
        · exact (joined_four k n word ao cap bss W (by simpa [jchk] using hj) hJ.2.1 (by omega) (by omega) hJ.2.2.1 hJ.2.2.2.1).mono (by rintro e w' ⟨r, g1, g2, g3, _⟩; exact ⟨r, g1, g2, g3⟩)
  · refine jsays how k n word ao cap bss w hkw hw h1 hK hsh hbs _ _ _ (jchk how ⟨k, word, n⟩) rfl rfl rfl [] (fun W hJ => ?_) (by rw [if_pos hj]) (fun _ => rfl) (fun h => absurd h hj)
    refine (jdo_err how ⟨k, word, n⟩ _ W hw hj).mono ?_
    rintro e w' ⟨rfl, hb⟩
    exact ⟨none, 0, rfl, reads_nil, hb⟩
end Go.Proofs.YtkifihcficobnaaGreatDoor
