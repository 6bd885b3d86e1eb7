/- What the developers' over does: Sort, Once. -/
import Derived.Test.YtkifihcficobnaaDoorDevOver1
namespace Go.Proofs.YtkifihcficobnaaDoor
open Go.RowKit Go.Gs
set_option linter.unusedVariables false

/-- Behind the library's sort the row is owned yet. -/
theorem own_sorted {w : World} {B g cap n nn : Nat} {os : Array Obj} {e : TypeId} {ls ts : List (List UInt8)} (hown : w.ownsRow B e 1 (.slice (some ⟨g, 0, none⟩) n cap) n (ls.map S)) (hl : ls.length = n) (ht : ts.length = ls.length) :
    (Sort.grow (Sort.putRow encStr (Sort.ahead w nn) g 0 ts.toArray) os).ownsRow B e 1 (.slice (some ⟨g, 0, none⟩) n cap) n (ts.map S) := by
  subst hl
  rcases hown.2 with ⟨h0, _⟩ | ⟨g', cap', cur, hv, hbase, hb, h1, h2, h3, h4⟩
  · cases h0
  cases hv
  exact ownsRow_sorted (n := nn) (os := os) (ts := ts) (ss := ls) ht hbase hb h1 h2 h3

theorem S_enc : S = encStr := rfl

theorem sort_own (v : Value) (ls : List (List UInt8)) (w : World) (B : Nat) (hB : B ≤ w.heap.size) (hown : w.ownsRow B 9 1 v ls.length (ls.map S)) (hl : ls.length ≤ 1000000) :
    Calls Tryd.prog 22 #[v] w fun e w' => e = .returned (.tuple #[]) ∧ w'.ownsRow B 9 1 v (sortOf ls).length ((sortOf ls).map S) ∧ Below B w w' := by
  rcases own_cases hown with ⟨rfl, rfl⟩ | ⟨g, cap, rfl, hBg, hgw, hcap, hcm, hH⟩
  · refine (Tryd.slices_Sort_string_none none 0 w).mono ?_
    rintro e w' ⟨rfl, rfl⟩
    exact ⟨rfl, by simpa [sortOf] using World.ownsRow_nil w' B 9 1, Below.refl _ _⟩
  · refine (Tryd.slices_Sort_string g 0 cap ls w hH hgw (by omega)).mono ?_
    rintro e w' ⟨rfl, nn, os, rfl⟩
    have hlen : (sortOf ls).length = ls.length := (sortOf_perm ls).length_eq
    refine ⟨rfl, ?_, ?_⟩
    · rw [hlen]
      exact own_sorted hown rfl hlen
    · exact (Below.refl B w).grown (grownBy_sorted _) hB (fun j hj => by cases hj; exact hBg)

theorem compact_own (v : Value) (ls : List (List UInt8)) (w : World) (B : Nat) (hown : w.ownsRow B 9 1 v ls.length (ls.map S)) (hl : ls.length ≤ 1000000) :
    Calls Tryd.prog 25 #[v] w fun e w' => ∃ r, e = .returned r ∧ w'.ownsRow B 9 1 r (Lib.compact ls).length ((Lib.compact ls).map S) ∧ Below B w w' := by
  rcases own_cases hown with ⟨rfl, rfl⟩ | ⟨g, cap, rfl, hBg, hgw, hcap, hcm, hH⟩
  · refine (Tryd.slices_Compact_string_empty none 0 w).mono ?_
    rintro e w' ⟨rfl, rfl⟩
    exact ⟨_, rfl, World.ownsRow_nil w' B 9 1, Below.refl _ _⟩
  · refine (Tryd.slices_Compact_string g 0 cap ls w hH (by omega) hcap).mono ?_
    rintro e w' ⟨rfl, q, rfl⟩
    have hle := Lib.compact_length_le ls
    have hc := Lib.ownsRow_putRow (enc := encStr) (q := q) (k := (Lib.compact ls).length) (ys := Lib.compact ls ++ List.replicate (ls.length - (Lib.compact ls).length) []) hown (by simp; omega) hle
    rw [List.take_left] at hc
    exact ⟨_, rfl, hc, Lib.below_putRow (Below.refl _ _) hBg⟩

set_option maxRecDepth 100000 in
set_option maxHeartbeats 2000000 in
theorem over_sort (sx : ByteArray) (n : Int) (v : Value) (ls : List (List UInt8)) (w : World) (B : Nat) (hB : B ≤ w.heap.size) (hown : w.ownsRow B 9 1 v ls.length (ls.map S)) (hl : ls.length ≤ 300000) :
    Calls Tryd.prog 40 #[.agg #[.int .i64 6, .string sx, .int .i64 n], v] w fun e w' => ∃ r, e = .returned r ∧ Reads w' r (sortOf ls).length ((sortOf ls).map S) ∧ Below B w w' := by
  have hsf := fun (a : Addr) (c : Array Value) (w : World) => run_store Tryd.prog w a (.func (.func 64) #[] c) .plain rfl
  have Ho : Hid _ := hown
  clear hown
  go_enter Tryd.func40, Tryd.ntmps40
  go_wp2_with fail
  refine (sort_own v ls _ B ?_ (owns_below Ho.out below_two) (by omega)).mono ?_
  · have := (below_two (w := w) (o := .cells #[.int .i64 6, .string sx, .int .i64 n] 43) (p := .cells #[.nilFunc] 99)).size
    simp
    omega
  rintro e w1 ⟨rfl, hown1, hbel1⟩
  have R : Hid _ := Reads.of_owns hown1
  have HB : Hid (Below B w w1) := ((below_two.mono hB).trans hbel1)
  clear hown1 hbel1
  go_wp2_with fail
  go_ret
  exact ⟨_, rfl, R.out, HB.out⟩

set_option maxRecDepth 100000 in
set_option maxHeartbeats 2000000 in
theorem over_once (sx : ByteArray) (n : Int) (v : Value) (ls : List (List UInt8)) (w : World) (B : Nat) (hB : B ≤ w.heap.size) (hown : w.ownsRow B 9 1 v ls.length (ls.map S)) (hl : ls.length ≤ 300000) :
    Calls Tryd.prog 40 #[.agg #[.int .i64 7, .string sx, .int .i64 n], v] w fun e w' => ∃ r, e = .returned r ∧ Reads w' r (Lib.compact ls).length ((Lib.compact ls).map S) ∧ Below B w w' := by
  have hsf := fun (a : Addr) (c : Array Value) (w : World) => run_store Tryd.prog w a (.func (.func 64) #[] c) .plain rfl
  have Ho : Hid _ := hown
  clear hown
  go_enter Tryd.func40, Tryd.ntmps40
  go_wp2_with fail
  refine (compact_own v ls _ B (owns_below Ho.out below_two) (by omega)).mono ?_
  rintro e w1 ⟨r, rfl, hown1, hbel1⟩
  have R : Hid _ := Reads.of_owns hown1
  have HB : Hid (Below B w w1) := ((below_two.mono hB).trans hbel1)
  clear hown1 hbel1
  go_wp2_with fail
  go_ret
  exact ⟨_, rfl, R.out, HB.out⟩
end Go.Proofs.YtkifihcficobnaaDoor
