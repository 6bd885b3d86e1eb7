/- What line.Split does: so many parts of whole lines. -/
import Derived.Test.YtkifihcficobnaaDoorBytes
import Derived.Test.YtkifihcficobnaaDoorSubs
import Derived.Test.YtkifihcficobnaaDoorParts
import Derived.Deep.RegionWith
import Derived.Laws.BitsLemmas
import Derived.Deep.DeepFit
namespace Go.Proofs.YtkifihcficobnaaDoor
open Go.RowKit Go.Gs
set_option linter.unusedVariables false

theorem owns_monoS {w : World} {B B' : Nat} {e : TypeId} {size : Nat} {v : Value} {n : Nat} {xs : List Value} (h : w.ownsRow B e size v n xs) (hB : B' ≤ B) : w.ownsRow B' e size v n xs := by
  refine ⟨h.1, ?_⟩
  rcases h.2 with h0 | ⟨g, cap, cur, h1, h2, h3⟩
  · exact .inl h0
  · exact .inr ⟨g, cap, cur, h1, by omega, h3⟩
theorem infoBs : (Tryd.prog.info? 22).map (fun i => (i.zero, i.size, i.bytes)) = some (some (.slice none 0 0), 1, 24) := by kernel_rfl

/-- Part k of p. -/
def part (bs : List UInt8) (p k : Nat) : List UInt8 := ended (((lines bs).take ((k + 1) * (lines bs).length / p)).drop (k * (lines bs).length / p))

set_option maxRecDepth 100000 in
set_option maxHeartbeats 1000000 in
theorem split_many (v : Value) (n : Nat) (xs : List Value) (p : Int) (w : World) (hr : Reads w v n xs) (hle : 4000 < n) :
    Calls Tryd.prog 8 #[v, .int .i64 p] w fun e w' => e = .returned (.tuple #[.slice none 0 0, .int .i64 2]) ∧ w' = w := by
  go_enter Tryd.func8, Tryd.ntmps8
  go_wp2_with (go_at_call 6; refine (of_over v n xs _ hr hle).mono ?_; rintro e w' ⟨rfl, rfl⟩)
  go_ret2
  exact ⟨rfl, rfl⟩

set_option maxRecDepth 100000 in
set_option maxHeartbeats 1000000 in
theorem parts_range (ao : Option Addr) (n cap : Nat) (p : Int) (w : World) (hp : p < 1 ∨ 5 < p) :
    Calls Tryd.prog 33 #[.slice ao n cap, .int .i64 p] w fun e w' => e = .returned (.tuple #[.slice none 0 0, .int .i64 3]) ∧ w' = w := by
  rcases hp with hp | hp
  · go_enter Tryd.func33, Tryd.ntmps33
    go_wp2_with fail
    go_ret2
    exact ⟨rfl, rfl⟩
  · have hp' : ¬ p < 1 := by omega
    go_enter Tryd.func33, Tryd.ntmps33
    go_wp2_with fail
    go_ret2
    exact ⟨rfl, rfl⟩
set_option maxRecDepth 100000 in
set_option maxHeartbeats 1000000 in
theorem split_range (v : Value) (bs : List UInt8) (p : Int) (w : World) (hr : Reads w v bs.length (bs.map U)) (hle : bs.length ≤ 4000) (hp : p < 1 ∨ 5 < p) :
    Calls Tryd.prog 8 #[v, .int .i64 p] w fun e w' => e = .returned (.tuple #[.slice none 0 0, .int .i64 3]) ∧ Below w.heap.size w w' := by
  have HO : Hid _ := of_reads v bs w hr hle
  have HP : Hid _ := fun (ao : Option Addr) (n cap : Nat) (W : World) => parts_range ao n cap p W hp
  clear hr hp
  go_enter Tryd.func8, Tryd.ntmps8
  go_wp2_with fail
  refine Calls.mono HO.out ?_
  rintro e w1 ⟨r, rfl, hown, hbel⟩
  obtain ⟨_, a1, c1, rfl, _⟩ := Reads.of_owns hown
  have HB : Hid (Below w.heap.size w w1) := hbel
  clear hown hbel HO
  go_wp2_with fail
  refine (HP.out _ _ _ w1).mono ?_
  rintro e w2 ⟨rfl, hw⟩
  obtain rfl : w1 = w2 := hw.symm
  clear hw HP
  go_wp2_with fail
  go_ret2
  exact ⟨rfl, HB.out⟩

theorem linesAux_ne (r : List UInt8) : ∀ cur, (cur ≠ [] ∨ r ≠ []) → linesAux cur r ≠ [] := by
  induction r with
  | nil => intro cur h; unfold linesAux; simp_all
  | cons c r ih =>
    intro cur h
    unfold linesAux
    split
    · simp
    · exact ih _ (Or.inl (by simp))

/-- The lines of bytes, not none. -/
theorem of_shape (v : Value) (bs : List UInt8) (w : World) (hr : Reads w v bs.length (bs.map U)) (hle : bs.length ≤ 4000) (hne : bs ≠ []) :
    Calls Tryd.prog 6 #[v] w fun e w' => ∃ g cap, e = .returned (.tuple #[.slice (some ⟨g, 0, none⟩) (lines bs).length cap, .int .i64 0]) ∧ (lines bs).length ≤ cap ∧ cap ≤ 9223372036854775807 ∧
      Reads w' (.slice (some ⟨g, 0, none⟩) (lines bs).length cap) (lines bs).length ((lines bs).map S) ∧ Below w.heap.size w w' := by
  refine (of_reads v bs w hr hle).mono ?_
  rintro e w' ⟨r, rfl, hown, hbel⟩
  have hrd := Reads.of_owns hown
  rcases hown.2 with ⟨rfl, h0⟩ | ⟨g, cap, cur, rfl, _, _, h1, h2, _, _⟩
  · exact absurd (List.eq_nil_of_length_eq_zero h0) (linesAux_ne bs [] (Or.inr hne))
  · exact ⟨g, cap, rfl, h1, by simpa [maxLen] using h2, hrd, hbel⟩

theorem lo_facts (k n p : Nat) (h : k < p) (hn : 0 < n) : k * n / p < n ∧ k * n / p ≤ (k + 1) * n / p ∧ (k + 1) * n / p ≤ n := by
  have hp : 0 < p := by omega
  refine ⟨?_, ?_, ?_⟩
  · rw [Nat.div_lt_iff_lt_mul hp, Nat.mul_comm n p]
    exact Nat.mul_lt_mul_of_pos_right h hn
  · exact Nat.div_le_div_right (Nat.mul_le_mul_right _ (by omega))
  · rw [Nat.div_le_iff_le_mul hp]
    have : (k + 1) * n ≤ p * n := Nat.mul_le_mul_right _ (by omega)
    rw [Nat.mul_comm n p]
    omega

theorem wrap_small (n : Int) (h : 0 ≤ n ∧ n ≤ 100000) : IntKind.i64.wrap n = n := by rw [IntKind.wrap_i64]; omega

theorem nums (k n p : Nat) (hk : k < p) (hp5 : p ≤ 5) (hn4 : n ≤ 4000) :
    0 ≤ (k : Int) * (n : Int) ∧ (k : Int) * (n : Int) ≤ 20000 ∧ 0 ≤ ((k : Int) + 1) * (n : Int) ∧ ((k : Int) + 1) * (n : Int) ≤ 20000 ∧
    (k : Int) * (n : Int) / (p : Int) = ((k * n / p : Nat) : Int) ∧ ((k : Int) + 1) * (n : Int) / (p : Int) = (((k + 1) * n / p : Nat) : Int) ∧
    ((k : Int) * (n : Int)).tdiv (p : Int) = ((k * n / p : Nat) : Int) ∧ (((k : Int) + 1) * (n : Int)).tdiv (p : Int) = (((k + 1) * n / p : Nat) : Int) := by
  have e1 : (k : Int) * (n : Int) = ((k * n : Nat) : Int) := (Int.natCast_mul k n).symm
  have e2 : ((k : Int) + 1) * (n : Int) = (((k + 1) * n : Nat) : Int) := by rw [Int.natCast_mul, Int.natCast_add]; rfl
  have h1 : k * n ≤ 5 * 4000 := Nat.mul_le_mul (by omega) hn4
  have h2 : (k + 1) * n ≤ 5 * 4000 := Nat.mul_le_mul (by omega) hn4
  have q1 : ((k * n : Nat) : Int) / (p : Int) = ((k * n / p : Nat) : Int) := (Int.natCast_ediv _ _).symm
  have q2 : (((k + 1) * n : Nat) : Int) / (p : Int) = (((k + 1) * n / p : Nat) : Int) := (Int.natCast_ediv _ _).symm
  rw [e1, e2]
  refine ⟨by omega, by omega, by omega, by omega, q1, q2, ?_, ?_⟩
  · rw [Int.tdiv_eq_ediv_of_nonneg (by omega)]; exact q1
  · rw [Int.tdiv_eq_ediv_of_nonneg (by omega)]; exact q2

set_option maxRecDepth 100000 in
set_option maxHeartbeats 1000000 in
theorem split_ok (v : Value) (bs : List UInt8) (p : Nat) (w : World) (hr : Reads w v bs.length (bs.map U)) (hle : bs.length ≤ 4000) (hp1 : 1 ≤ p) (hp5 : p ≤ 5) :
    Calls Tryd.prog 8 #[v, .int .i64 (p : Int)] w fun e w' => ∃ r vs, e = .returned (.tuple #[r, .int .i64 0]) ∧
      w'.ownsRow w.heap.size 22 1 r p vs ∧ (∀ k, k < p → ∃ u, vs[k]? = some u ∧ Reads w' u (part bs p k).length ((part bs p k).map U)) ∧ Below w.heap.size w w' := by
  have HO : Hid _ := of_reads v bs w hr hle
  have HP : Hid _ := fun (r : Value) (B : Nat) (W : World) (hown : W.ownsRow B 9 1 r (lines bs).length ((lines bs).map S)) => parts_is r B (lines bs) p W hown (by have := lines_length bs; omega) (by have := ended_lines bs; omega) hp1 hp5
  clear hr
  go_enter Tryd.func8, Tryd.ntmps8
  go_wp2_with fail
  refine Calls.mono HO.out ?_
  rintro e w1 ⟨r, rfl, hown, hbel⟩
  have HB : Hid (Below w.heap.size w w1) := hbel
  have HPP : Hid _ := HP.out r _ w1 hown
  clear hown hbel HO HP
  go_wp2_with fail
  refine Calls.mono HPP.out ?_
  rintro e w2 ⟨r2, vs, rfl, ho2, hp2, hb2⟩
  have HO2 : Hid (w2.ownsRow w.heap.size 22 1 r2 p vs) := owns_monoS ho2 HB.out.size
  have HP2 : Hid _ := hp2
  have HB2 : Hid (Below w.heap.size w w2) := HB.out.trans (hb2.mono HB.out.size)
  clear ho2 hp2 hb2 HPP
  go_wp2_with fail
  go_ret2
  exact ⟨_, vs, rfl, HO2.out, HP2.out, HB2.out⟩
end Go.Proofs.YtkifihcficobnaaDoor
