/- slices.Index, Contains and Equal at bytes; EqualFunc at slices of bytes: over slices that can be read. -/
import Derived.Test.YtkifihcficobnaaGreatDoorOfF
import Derived.Test.YtkifihcficobnaaGreatDoorShelf
import Derived.Deep.LoopGhost
import Derived.Deep.Draws
import Derived.RegionTactic
namespace Go.Proofs.YtkifihcficobnaaGreatDoor
open Go.RowKit Go.Gs
set_option linter.unusedVariables false

set_option maxRecDepth 100000 in
set_option maxHeartbeats 1000000 in
theorem index_feed_some (b off cap : Nat) (bs : List UInt8) (w : World) (h0 : 0 < bs.length) (hm : bs.length ≤ 9223372036854775807)
    (hc : ∀ j u, (bs.map U)[j]? = some u → w.cell? ⟨b, off + j, none⟩ = some u) :
    Calls Tryz.prog 62 #[.slice (some ⟨b, off, none⟩) bs.length cap, .int .u8 10] w fun e w' => ∃ i, e = .returned (.int .i64 i) ∧ (0 ≤ i ↔ (10 : UInt8) ∈ bs) ∧ w' = w := by
  generalize hn : bs.length = n at *
  go_enter Tryz.func62, Tryz.ntmps62
  go_wp2
  go_loopw [8] (fun i wr => ∃ k : Nat, k ≤ n ∧ i = .int .i64 k ∧ wr = w ∧ Hid ((10 : UInt8) ∉ bs.take k)) (fun i _ => n - (intOf i).toNat)
  case atStart => exact ⟨0, Nat.zero_le _, rfl, rfl, by simp [Hid]⟩
  case round =>
    obtain ⟨k, hk, rfl, rfl, hno⟩ := hrel
    by_cases hlt : k < n
    · have hcell := hc k (U (bs[k]'(by omega))) (by simp [hn, hlt])
      unfold U at hcell
      clear hc
      by_cases h10 : bs[k]'(by omega) = 10
      · have Hm : Hid ((10 : UInt8) ∈ bs) := by rw [← h10]; exact List.getElem_mem _
        have hcell' : wr.cell? ⟨b, off + k, none⟩ = some (.int .u8 10) := by rw [hcell, h10]; rfl
        clear hcell h10
        go_wp2
        go_ret
        exact ⟨_, rfl, ⟨fun _ => Hm.out, fun _ => by omega⟩, rfl⟩
      · have hne : ((10 : Int) == ((bs[k]'(by omega)).toNat : Int)) = false := by
          rw [beq_eq_false_iff_ne]
          intro e
          exact h10 (UInt8.toNat_inj.1 (show _ = 10 by omega))
        have Hn : Hid ((10 : UInt8) ∉ bs.take (k + 1)) := by
          show _ ∉ _
          rw [List.take_succ_eq_append_getElem (by omega), List.mem_append, not_or]
          exact ⟨hno.out, by simpa using fun e => h10 e.symm⟩
        clear h10
        go_wp2
        go_roundw
        case rel => exact ⟨k + 1, by omega, by go_num, (by first | exact rfl | trivial), Hn⟩
        case measure => simp [intOf]; omega
    · have hkn : k = n := by omega
      subst hkn
      subst hn
      rw [List.take_length] at hno
      clear hc
      go_wp2
      go_ret
      exact ⟨_, rfl, ⟨fun h => by omega, fun h => absurd h hno.out⟩, rfl⟩

set_option maxRecDepth 100000 in
set_option maxHeartbeats 400000 in
theorem index_feed_none (ao : Option Addr) (cap : Nat) (w : World) :
    Calls Tryz.prog 62 #[.slice ao 0 cap, .int .u8 10] w fun e w' => e = .returned (.int .i64 (-1)) ∧ w' = w := by
  go_enter Tryz.func62, Tryz.ntmps62
  go_wp2
  go_loopw [8] (fun i wr => i = .int .i64 0 ∧ wr = w) (fun _ _ => 0)
  case atStart => exact ⟨rfl, rfl⟩
  case round =>
    obtain ⟨rfl, rfl⟩ := hrel
    go_wp2
    go_ret
    exact ⟨rfl, rfl⟩

theorem index_feed (v : Value) (bs : List UInt8) (w : World) (hr : Reads w v bs.length (bs.map U)) :
    Calls Tryz.prog 62 #[v, .int .u8 10] w fun e w' => ∃ i, e = .returned (.int .i64 i) ∧ (0 ≤ i ↔ (10 : UInt8) ∈ bs) ∧ w' = w := by
  obtain ⟨_, ao, cap, rfl, h2, h3, h4⟩ := hr
  by_cases h0 : bs.length = 0
  · have hb : bs = [] := List.eq_nil_of_length_eq_zero h0
    subst hb
    refine (index_feed_none ao cap w).mono ?_
    rintro e w' ⟨rfl, rfl⟩
    exact ⟨_, rfl, ⟨fun h => by omega, fun h => by simp at h⟩, rfl⟩
  · obtain ⟨b, off, rfl, hc⟩ := h4 h0
    exact index_feed_some b off cap bs w (by omega) (by unfold maxLen at h3; omega) hc

set_option maxRecDepth 100000 in
set_option maxHeartbeats 400000 in
theorem contains_feed (v : Value) (bs : List UInt8) (w : World) (hr : Reads w v bs.length (bs.map U)) (d : Bool) (hd : d = decide ((10 : UInt8) ∈ bs)) :
    Calls Tryz.prog 25 #[v, .int .u8 10] w fun e w' => e = .returned (.bool d) ∧ w' = w := by
  by_cases hm : (10 : UInt8) ∈ bs
  · have hd' : d = true := by rw [hd]; simp [hm]
    have Hm : Hid _ := hm
    clear hm hd
    subst hd'
    go_enter Tryz.func25, Tryz.ntmps25
    go_wp2_with fail
    refine (index_feed v bs _ hr).mono ?_
    rintro e w' ⟨i, rfl, hi, rfl⟩
    have hi0 := hi.2 Hm.out
    clear hi
    go_wp2_with fail
    go_ret
    exact ⟨rfl, rfl⟩
  · have hd' : d = false := by rw [hd]; simp [hm]
    have Hm : Hid _ := hm
    clear hm hd
    subst hd'
    go_enter Tryz.func25, Tryz.ntmps25
    go_wp2_with fail
    refine (index_feed v bs _ hr).mono ?_
    rintro e w' ⟨i, rfl, hi, rfl⟩
    have hi0 : decide (0 ≤ i) = false := decide_eq_false (fun h => Hm.out (hi.1 h))
    clear hi
    go_wp2_with fail
    go_ret
    exact ⟨rfl, rfl⟩

/-! ### Equal at bytes, where both are alike -/
set_option maxRecDepth 100000 in
set_option maxHeartbeats 1000000 in
theorem eqb_some (b1 o1 c1 b2 o2 c2 : Nat) (bs : List UInt8) (w : World) (h0 : 0 < bs.length) (hm : bs.length ≤ 9223372036854775807)
    (hc1 : ∀ j u, (bs.map U)[j]? = some u → w.cell? ⟨b1, o1 + j, none⟩ = some u) (hc2 : ∀ j u, (bs.map U)[j]? = some u → w.cell? ⟨b2, o2 + j, none⟩ = some u) :
    Calls Tryz.prog 18 #[.slice (some ⟨b1, o1, none⟩) bs.length c1, .slice (some ⟨b2, o2, none⟩) bs.length c2] w fun e w' => e = .returned (.bool true) ∧ Below w.heap.size w w' := by
  generalize hn : bs.length = n at *
  go_enter Tryz.func18, Tryz.ntmps18
  go_wp2
  go_loopw [13] (fun i wr => ∃ k q : Nat, k ≤ n ∧ i = .int .i64 k ∧ wr = w.drewN q) (fun i _ => n - (intOf i).toNat)
  case atStart => exact ⟨0, 0, Nat.zero_le _, rfl, rfl⟩
  case round =>
    obtain ⟨k, q, hk, rfl, rfl⟩ := hrel
    by_cases hlt : k < n
    · have g1 := hc1 k (U (bs[k]'(by omega))) (by simp [hn, hlt])
      have g2 := hc2 k (U (bs[k]'(by omega))) (by simp [hn, hlt])
      unfold U at g1 g2
      clear hc1 hc2
      generalize ((bs[k]'(by omega)).toNat : Int) = x at *
      go_wp2_with fail
      go_region
      go_wp2
      go_roundw
      case rel => exact ⟨k + 1, q + 1, by omega, by go_num, rfl⟩
      case measure => simp [intOf]; omega
    · clear hc1 hc2
      go_wp2
      go_ret
      exact ⟨rfl, ⟨rfl, rfl, rfl, Nat.le_refl _, fun _ _ => rfl⟩⟩

set_option maxRecDepth 100000 in
set_option maxHeartbeats 400000 in
theorem eqb_none (a1 a2 : Option Addr) (c1 c2 : Nat) (w : World) :
    Calls Tryz.prog 18 #[.slice a1 0 c1, .slice a2 0 c2] w fun e w' => e = .returned (.bool true) ∧ w' = w := by
  go_enter Tryz.func18, Tryz.ntmps18
  go_wp2
  go_loopw [13] (fun i wr => i = .int .i64 0 ∧ wr = w) (fun _ _ => 0)
  case atStart => exact ⟨rfl, rfl⟩
  case round =>
    obtain ⟨rfl, rfl⟩ := hrel
    go_wp2
    go_ret
    exact ⟨rfl, rfl⟩

theorem eqb_same (v1 v2 : Value) (bs : List UInt8) (w : World) (h1 : Reads w v1 bs.length (bs.map U)) (h2 : Reads w v2 bs.length (bs.map U)) :
    Calls Tryz.prog 18 #[v1, v2] w fun e w' => e = .returned (.bool true) ∧ Below w.heap.size w w' := by
  obtain ⟨_, a1, c1, rfl, p1, p2, p3⟩ := h1
  obtain ⟨_, a2, c2, rfl, q1, q2, q3⟩ := h2
  by_cases h0 : bs.length = 0
  · rw [h0]
    refine (eqb_none a1 a2 c1 c2 w).mono ?_
    rintro e w' ⟨rfl, rfl⟩
    exact ⟨rfl, Below.refl _ _⟩
  · obtain ⟨b1, o1, rfl, hc1⟩ := p3 h0
    obtain ⟨b2, o2, rfl, hc2⟩ := q3 h0
    exact eqb_some b1 o1 c1 b2 o2 c2 bs w (by omega) (by unfold maxLen at p2; omega) hc1 hc2
end Go.Proofs.YtkifihcficobnaaGreatDoor
