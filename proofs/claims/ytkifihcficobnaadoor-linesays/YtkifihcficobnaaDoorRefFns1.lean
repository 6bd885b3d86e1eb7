/- EqualFunc at slices of bytes, and the law's own 'lists', where both are alike. -/
import Derived.Test.YtkifihcficobnaaDoorByteFns
namespace Go.Proofs.YtkifihcficobnaaDoor
open Go.RowKit Go.Gs
set_option linter.unusedVariables false

/-- A slice, not empty, of slices of bytes. -/
structure Grid (w : World) (G off : Nat) (ps : List (List UInt8)) : Prop where
  cell : ∀ k (h : k < ps.length), ∃ u, w.cell? ⟨G, off + k, none⟩ = some u ∧ Reads w u ps[k].length (ps[k].map U)

theorem Grid.below {w w' : World} {G off : Nat} {ps : List (List UInt8)} (h : Grid w G off ps) (hb : Below w.heap.size w w') : Grid w' G off ps := by
  refine ⟨fun k hk => ?_⟩
  obtain ⟨u, h1, h2⟩ := h.cell k hk
  exact ⟨u, (hb.cell (World.block_lt_of_cell? w _ h1)).trans h1, h2.below hb⟩

set_option maxRecDepth 100000 in
set_option maxHeartbeats 400000 in
theorem lists1_same (v1 v2 : Value) (bs : List UInt8) (w : World) (h1 : Reads w v1 bs.length (bs.map U)) (h2 : Reads w v2 bs.length (bs.map U)) :
    Calls Tryd.prog 38 #[v1, v2] w fun e w' => e = .returned (.bool true) ∧ Below w.heap.size w w' := by
  go_enter Tryd.func38, Tryd.ntmps38
  go_wp2_with fail
  refine (eqb_same v1 v2 bs _ h1 h2).mono ?_
  rintro e w' ⟨rfl, hb⟩
  go_wp2_with fail
  go_ret
  exact ⟨rfl, hb⟩

set_option maxRecDepth 100000 in
set_option maxHeartbeats 1000000 in
theorem eqf_same (G1 o1 c1 G2 o2 c2 : Nat) (ps : List (List UInt8)) (w : World) (h0 : 0 < ps.length) (hm : ps.length ≤ 1000) (g1 : Grid w G1 o1 ps) (g2 : Grid w G2 o2 ps) :
    Calls Tryd.prog 37 #[.slice (some ⟨G1, o1, none⟩) ps.length c1, .slice (some ⟨G2, o2, none⟩) ps.length c2, .func (.func 38) #[] #[]] w fun e w' => e = .returned (.bool true) ∧ Below w.heap.size w w' := by
  generalize hn : ps.length = n at *
  go_enter Tryd.func37, Tryd.ntmps37
  go_wp2_with fail
  go_loopw [17] (fun i wr => ∃ k : Nat, k ≤ n ∧ i = .int .i64 k ∧ Below w.heap.size w wr) (fun i _ => n - (intOf i).toNat)
  case atStart => exact ⟨0, Nat.zero_le _, rfl, Below.refl _ _⟩
  case round =>
    obtain ⟨k, hk, rfl, hbel⟩ := hrel
    by_cases hlt : k < n
    · obtain ⟨x, hx, rx⟩ := (g1.below hbel).cell k (by omega)
      obtain ⟨y, hy, ry⟩ := (g2.below hbel).cell k (by omega)
      clear g1 g2
      go_wp2_with fail
      refine (lists1_same x y _ _ rx ry).mono ?_
      rintro e w5 ⟨rfl, hb5⟩
      have hbel5 : Hid _ := hbel.trans (hb5.mono hbel.size)
      clear hb5 hbel rx ry hx hy
      go_wp2_with fail
      go_roundw
      case rel => exact ⟨k + 1, by omega, by go_num, hbel5.out⟩
      case measure => simp [intOf]; omega
    · clear g1 g2
      go_wp2_with fail
      go_ret
      exact ⟨rfl, hbel⟩

set_option maxRecDepth 100000 in
set_option maxHeartbeats 1000000 in
theorem lists_same (G1 o1 c1 G2 o2 c2 : Nat) (ps : List (List UInt8)) (w : World) (h0 : 0 < ps.length) (hm : ps.length ≤ 1000) (g1 : Grid w G1 o1 ps) (g2 : Grid w G2 o2 ps) :
    Calls Tryd.prog 15 #[.slice (some ⟨G1, o1, none⟩) ps.length c1, .slice (some ⟨G2, o2, none⟩) ps.length c2] w fun e w' => e = .returned (.bool true) ∧ Below w.heap.size w w' := by
  go_enter Tryd.func15, Tryd.ntmps15
  go_wp2_with fail
  refine (eqf_same G1 o1 c1 G2 o2 c2 ps _ h0 hm g1 g2).mono ?_
  rintro e w' ⟨rfl, hb⟩
  go_wp2_with fail
  go_ret
  exact ⟨rfl, hb⟩
end Go.Proofs.YtkifihcficobnaaDoor
