/- The sentence on a command's parts: its walk, whatever comes in. -/
import Derived.Test.YtkifihcficobnaaDoorCmdPartsOk
namespace Go.Proofs.YtkifihcficobnaaDoor
open Go.RowKit Go.Gs
set_option linter.unusedVariables false

theorem commandParts_walk (w : World) (hK : Known w) (hsh : w.ShapedOpen Tryd.prog) (sx : ByteArray) (hs : sx.size ≤ 9223372036854775807) (ob : Option Addr) (cb : Nat) (b : List UInt8) (h2 : Reads w (.slice ob b.length cb) b.length (b.map U)) (hb : b.length ≤ 1000000000000000) (nn : Int) (hn : -9223372036854775808 ≤ nn ∧ nn ≤ 9223372036854775807) :
    Calls Tryd.prog 4 #[.string sx, .slice ob b.length cb, .int .i64 nn] w fun e w' => e = .returned (.bool true) ∧ Below w.heap.size w w' := by
  obtain ⟨word, rfl⟩ : ∃ word : List UInt8, sx = ⟨word.toArray⟩ := ⟨sx.data.toList, by cases sx; simp⟩
  have hw : word.length ≤ 9223372036854775807 := by simpa [ByteArray.size] using hs
  by_cases hc : chk ⟨1, word, 0⟩ = 0
  · have hc2 : chk ⟨2, word, 0⟩ = 0 := (chk_drop word).trans hc
    by_cases hl : b.length ≤ 4000
    · by_cases hsm : b.length ≤ 2000
      · exact parts_ok word nn hn.1 hn.2 ob cb b w hw h2 hK hc hsm
      · exact parts_big word nn ob cb b w hw h2 hK hc hl (by omega)
    · refine parts_bad word nn ob cb b w hw h2 hK 2 ?_ ?_ (by decide)
      · unfold doErr
        rw [if_neg (by simp [hc]), if_pos (by omega)]
      · unfold doErr
        rw [if_neg (by simp [hc2]), if_pos (by omega)]
  · refine parts_bad word nn ob cb b w hw h2 hK (chk ⟨1, word, 0⟩) ?_ ?_ hc
    · unfold doErr
      rw [if_pos hc]
    · unfold doErr
      rw [chk_drop, if_pos hc]
end Go.Proofs.YtkifihcficobnaaDoor
