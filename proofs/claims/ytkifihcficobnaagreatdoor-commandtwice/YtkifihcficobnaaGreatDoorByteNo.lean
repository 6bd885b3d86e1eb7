/- slices.Contains at bytes, where the byte is not there. -/
import Derived.Test.YtkifihcficobnaaGreatDoorOfF
import Derived.Deep.LoopGhost
namespace Go.Proofs.YtkifihcficobnaaGreatDoor
open Go.RowKit Go.Gs
set_option linter.unusedVariables false

set_option maxRecDepth 100000 in
set_option maxHeartbeats 1000000 in
theorem index_no_some (b off cap : Nat) (bs : List UInt8) (c : UInt8) (w : World) (h0 : 0 < bs.length) (hm : bs.length ≤ 9223372036854775807)
    (hc : ∀ j u, (bs.map U)[j]? = some u → w.cell? ⟨b, off + j, none⟩ = some u) (hno : c ∉ bs) :
    Calls Tryz.prog 62 #[.slice (some ⟨b, off, none⟩) bs.length cap, U c] w fun e w' => e = .returned (.int .i64 (-1)) ∧ w' = w := by
  generalize hn : bs.length = n at *
  unfold U at *
  have HN : Hid _ := hno
  clear hno
  go_enter Tryz.func62, Tryz.ntmps62
  go_wp2
  go_loopw [8] (fun i wr => ∃ k : Nat, k ≤ n ∧ i = .int .i64 k ∧ wr = w) (fun i _ => n - (intOf i).toNat)
  case atStart => exact ⟨0, Nat.zero_le _, rfl, rfl⟩
  case round =>
    obtain ⟨k, hk, rfl, rfl⟩ := hrel
    by_cases hlt : k < n
    · have hcell := hc k (.int .u8 ((bs[k]'(by omega)).toNat : Int)) (by simp [hn, hlt])
      have hne : ((c.toNat : Int) == ((bs[k]'(by omega)).toNat : Int)) = false := by
        rw [beq_eq_false_iff_ne]
        intro e
        have he : c = bs[k]'(by omega) := UInt8.toNat_inj.1 (by omega)
        exact HN.out (by rw [he]; exact List.getElem_mem _)
      clear hc
      go_wp2
      go_roundw
      case rel => exact ⟨k + 1, by omega, by go_num, (by first | exact rfl | trivial)⟩
      case measure => simp [intOf]; omega
    · clear hc
      go_wp2
      go_ret
      exact ⟨rfl, rfl⟩

set_option maxRecDepth 100000 in
set_option maxHeartbeats 400000 in
theorem index_no_none (ao : Option Addr) (cap : Nat) (c : UInt8) (w : World) :
    Calls Tryz.prog 62 #[.slice ao 0 cap, U c] w fun e w' => e = .returned (.int .i64 (-1)) ∧ w' = w := by
  unfold U
  go_enter Tryz.func62, Tryz.ntmps62
  go_wp2
  go_loopw [8] (fun i wr => i = .int .i64 0 ∧ wr = w) (fun _ _ => 0)
  case atStart => exact ⟨rfl, rfl⟩
  case round =>
    obtain ⟨rfl, rfl⟩ := hrel
    go_wp2
    go_ret
    exact ⟨rfl, rfl⟩

theorem index_no (v : Value) (bs : List UInt8) (c : UInt8) (w : World) (hr : Reads w v bs.length (bs.map U)) (hno : c ∉ bs) :
    Calls Tryz.prog 62 #[v, U c] w fun e w' => e = .returned (.int .i64 (-1)) ∧ w' = w := by
  obtain ⟨_, ao, cap, rfl, h2, h3, h4⟩ := hr
  by_cases h0 : bs.length = 0
  · have hb : bs = [] := List.eq_nil_of_length_eq_zero h0
    subst hb
    exact index_no_none ao cap c w
  · obtain ⟨b, off, rfl, hc⟩ := h4 h0
    exact index_no_some b off cap bs c w (by omega) (by unfold maxLen at h3; omega) hc hno

set_option maxRecDepth 100000 in
set_option maxHeartbeats 400000 in
theorem contains_no (v : Value) (bs : List UInt8) (c : UInt8) (w : World) (hr : Reads w v bs.length (bs.map U)) (hno : c ∉ bs) :
    Calls Tryz.prog 25 #[v, U c] w fun e w' => e = .returned (.bool false) ∧ w' = w := by
  have hI := index_no v bs c w hr hno
  unfold U at *
  clear hr hno
  go_enter Tryz.func25, Tryz.ntmps25
  go_wp2_with fail
  refine hI.mono ?_
  rintro e w' ⟨rfl, rfl⟩
  go_wp2_with fail
  go_ret
  exact ⟨rfl, rfl⟩
end Go.Proofs.YtkifihcficobnaaGreatDoor
