/- What the developers' over does: Head, Tail, Sort, Once. -/
import Derived.Test.YtkifihcficobnaaDoorDevCheck
import Derived.Test.YtkifihcficobnaaDoorCmdMade
import Derived.Test.YtkifihcficobnaaDoorShelf
import Derived.Test.YtkifihcficobnaaDoorSubs
import Derived.Lib.OwnBridge
import Derived.Sort.OwnSorted
import Derived.Sort.Grow
namespace Go.Proofs.YtkifihcficobnaaDoor
open Go.RowKit Go.Gs
set_option linter.unusedVariables false

theorem below_two {w : World} {o p : Obj} : Below w.heap.size w ((w.alloc o).alloc p) :=
  ((Below.refl _ w).alloc (Nat.le_refl _) o).alloc (by simp) p

/-- Own lines: none, or a row. -/
theorem own_cases {w : World} {B : Nat} {e : TypeId} {v : Value} {ls : List (List UInt8)} (h : w.ownsRow B e 1 v ls.length (ls.map S)) :
    (v = .slice none 0 0 ∧ ls = []) ∨ ∃ g cap, v = .slice (some ⟨g, 0, none⟩) ls.length cap ∧ B ≤ g ∧ g < w.heap.size ∧ ls.length ≤ cap ∧ cap ≤ maxLen ∧ Sort.Holds encStr w g 0 ls.toArray := by
  by_cases hv : v = .slice none 0 0
  · left
    subst hv
    rcases h.2 with ⟨_, h0⟩ | ⟨g, cap, cur, e0, _⟩
    · exact ⟨rfl, List.eq_nil_of_length_eq_zero h0⟩
    · cases e0
  · right
    obtain ⟨g, cap, rfl, h1, h2, h3, h4, h5, h6⟩ := Lib.holds_of_ownsRow (enc := encStr) h hv
    exact ⟨g, cap, rfl, h1, h2, h3, h4, h6⟩

theorem take_min (ls : List (List UInt8)) (n : Int) (h : 1 ≤ n) : ls.take n.toNat = ls.take (min n.toNat ls.length) := by
  by_cases hn : n.toNat ≤ ls.length
  · rw [Nat.min_eq_left hn]
  · rw [Nat.min_eq_right (by omega), List.take_length, List.take_of_length_le (by omega)]

set_option maxRecDepth 100000 in
set_option maxHeartbeats 2000000 in
theorem over_head (sx : ByteArray) (n : Int) (v : Value) (ls : List (List UInt8)) (w : World) (B : Nat) (hown : w.ownsRow B 9 1 v ls.length (ls.map S)) (hl : ls.length ≤ 300000) (hn1 : 1 ≤ n) (hn2 : n ≤ 1000) :
    Calls Tryd.prog 40 #[.agg #[.int .i64 9, .string sx, .int .i64 n], v] w fun e w' => ∃ r, e = .returned r ∧ Reads w' r (ls.take n.toNat).length ((ls.take n.toNat).map S) ∧ Below w.heap.size w w' := by
  have hsf := fun (a : Addr) (c : Array Value) (w : World) => run_store Tryd.prog w a (.func (.func 64) #[] c) .plain rfl
  have hrd := Reads.of_owns hown
  rcases own_cases hown with ⟨rfl, rfl⟩ | ⟨g, cap, rfl, hBg, hgw, hcap, hcm, hH⟩
  · have hmin : min n 0 = 0 := by omega
    go_enter Tryd.func40, Tryd.ntmps40
    go_wp2_with fail
    go_ret
    exact ⟨_, rfl, ⟨by simp, none, 0, by simp, by simp, by simp, fun h => absurd (by simp) h⟩, below_two⟩
  · clear hown hH
    obtain ⟨L, hL⟩ : ∃ L, L = ls.length := ⟨_, rfl⟩
    obtain ⟨m, hm⟩ : ∃ m : Nat, m = min n.toNat L := ⟨_, rfl⟩
    have hmL : m ≤ L := by omega
    have hmin : min n (L : Int) = (m : Int) := by omega
    have HM : Hid (ls.take n.toNat = ls.take m) := by rw [hm, hL]; exact take_min ls n hn1
    have HL : Hid (L = ls.length) := hL
    have hL4 : L ≤ 300000 := by omega
    have hLc : L ≤ cap := by omega
    have HR : Hid _ := hrd
    rw [← hL]
    clear hL hm hrd
    have hcm' : cap ≤ 9223372036854775807 := by simpa [maxLen] using hcm
    go_enter Tryd.func40, Tryd.ntmps40
    go_wp2_with fail
    go_ret
    refine ⟨_, rfl, Reads.below (w := w) ?_ below_two, below_two⟩
    have h1 := reads_take (m := m) HR.out (by have := HL.out; omega)
    rw [HM.out, List.map_take]
    simpa [HL.out.symm, Nat.min_eq_left hmL] using h1

set_option maxRecDepth 100000 in
set_option maxHeartbeats 2000000 in
theorem over_tail (sx : ByteArray) (n : Int) (v : Value) (ls : List (List UInt8)) (w : World) (B : Nat) (hown : w.ownsRow B 9 1 v ls.length (ls.map S)) (hl : ls.length ≤ 300000) (hn1 : 1 ≤ n) (hn2 : n ≤ 1000) :
    Calls Tryd.prog 40 #[.agg #[.int .i64 10, .string sx, .int .i64 n], v] w fun e w' => ∃ r, e = .returned r ∧ Reads w' r (ls.drop (ls.length - n.toNat)).length ((ls.drop (ls.length - n.toNat)).map S) ∧ Below w.heap.size w w' := by
  have hsf := fun (a : Addr) (c : Array Value) (w : World) => run_store Tryd.prog w a (.func (.func 64) #[] c) .plain rfl
  have hrd := Reads.of_owns hown
  rcases own_cases hown with ⟨rfl, rfl⟩ | ⟨g, cap, rfl, hBg, hgw, hcap, hcm, hH⟩
  · have hmax : max 0 (0 - n) = 0 := by omega
    have hmax' : max 0 (-n) = 0 := by omega
    go_enter Tryd.func40, Tryd.ntmps40
    go_wp2_with fail
    go_ret
    exact ⟨_, rfl, ⟨by simp, none, 0, by simp, by simp, by simp, fun h => absurd (by simp) h⟩, below_two⟩
  · clear hown hH
    obtain ⟨L, hL⟩ : ∃ L, L = ls.length := ⟨_, rfl⟩
    obtain ⟨m, hm⟩ : ∃ m : Nat, m = L - n.toNat := ⟨_, rfl⟩
    have hmL : m ≤ L := by omega
    have hmax : max 0 ((L : Int) - n) = (m : Int) := by omega
    have HM : Hid (L - n.toNat = m) := hm.symm
    have HL : Hid (L = ls.length) := hL
    have hL4 : L ≤ 300000 := by omega
    have hLc : L ≤ cap := by omega
    have HR : Hid _ := hrd
    rw [← hL]
    clear hL hm hrd
    have hcm' : cap ≤ 9223372036854775807 := by simpa [maxLen] using hcm
    by_cases hcz : cap = m
    · go_enter Tryd.func40, Tryd.ntmps40
      go_wp2_with fail
      go_ret
      have e : ls.drop (L - n.toNat) = [] := by
        rw [HM.out]
        exact List.drop_eq_nil_of_le (by have := HL.out; omega)
      rw [e]
      refine ⟨_, rfl, ⟨rfl, some ⟨g, 0, none⟩, 0, ?_, Nat.zero_le _, by unfold maxLen; omega, fun h => absurd rfl h⟩, below_two⟩
      simp
      omega
    · have hcz' : ¬ (cap - m = 0) := by omega
      go_enter Tryd.func40, Tryd.ntmps40
      go_wp2_with fail
      go_ret
      refine ⟨_, rfl, Reads.below (w := w) ?_ below_two, below_two⟩
      have h1 := reads_sub (lo := m) (hi := ls.length) HR.out (by have := HL.out; omega) (Nat.le_refl _)
      rw [HM.out, List.map_drop]
      rw [List.take_of_length_le (by simp)] at h1
      simpa [HL.out.symm] using h1
end Go.Proofs.YtkifihcficobnaaDoor
