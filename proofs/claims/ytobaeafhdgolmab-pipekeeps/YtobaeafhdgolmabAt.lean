/- What the sentences' 'at' does. -/
import Derived.Test.YtobaeafhdgolmabProg
import Derived.WalkKit
import Derived.WalkLawsBesides
import Derived.Outline
namespace Go.Proofs.Ytobaeafhdgolmab
open Go.RowKit
set_option linter.unusedVariables false

set_option maxRecDepth 100000 in
set_option maxHeartbeats 1000000 in
theorem at_is (k : Int) (n : Nat) (w : World) (hk1 : -9223372036854775808 ≤ k) (hk2 : k ≤ 9223372036854775807) (hn1 : 1 ≤ n) (hn2 : n ≤ 100000) :
    Calls Try.prog 20 #[.int .i64 k, .int .i64 n] w fun e w' => ∃ m : Nat, m < n ∧ e = .returned (.int .i64 m) ∧ w' = w := by
  have h0 : ¬ ((n : Int) = 0) := by omega
  have h1 : k.tmod n < n := Int.tmod_lt_of_pos k (by omega)
  have h2 : -(n : Int) < k.tmod n := by
    have := Int.lt_tmod_of_pos k (show (0 : Int) < n by omega)
    omega
  go_enter Try.func20, Try.ntmps20
  go_wp2_with fail
  · go_ret
    obtain ⟨m, hm⟩ := Int.eq_ofNat_of_zero_le (show 0 ≤ k.tmod n + n by omega)
    exact ⟨m, by omega, by rw [← hm]; rfl, rfl⟩
  · go_ret
    obtain ⟨m, hm⟩ := Int.eq_ofNat_of_zero_le (show 0 ≤ k.tmod n by omega)
    exact ⟨m, by omega, by rw [← hm]; rfl, rfl⟩
end Go.Proofs.Ytobaeafhdgolmab
