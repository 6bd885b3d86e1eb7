/- How long what can be read is. -/
import Derived.Test.YtdmdbilbcandcabGreatDoorSRead
namespace Go.Proofs.YtdmdbilbcandcabGreatDoor
open Go.RowKit Go.Gs
theorem reads_le {w : World} {ao : Option Addr} {n cap : Nat} {xs : List Value} (h : Reads w (.slice ao n cap) n xs) : n ≤ 9223372036854775807 := by
  obtain ⟨_, c, e, h1, h2⟩ := h.shape
  unfold maxLen at h2
  omega
theorem rcmds_le {w : World} {ao : Option Addr} {n cap : Nat} {cs : List Cmd} (h : RCmds w (.slice ao n cap) cs) : n ≤ 9223372036854775807 := by
  obtain ⟨_, c, e, h1, h2⟩ := h.shape
  unfold maxLen at h2
  injection e with e1 e2 e3
  omega
theorem rlines_le {w : World} {ao : Option Addr} {n cap : Nat} {ls : List SLine} (h : RLines w (.slice ao n cap) ls) : n ≤ cap ∧ cap ≤ 9223372036854775807 := by
  obtain ⟨_, c, e, h1, h2⟩ := h.shape
  unfold maxLen at h2
  injection e with e1 e2 e3
  omega
end Go.Proofs.YtdmdbilbcandcabGreatDoor
