/- What the developers' over does: Turn, Field, Count. -/
import Derived.Test.YtkifihcficobnaaDoorDevField
namespace Go.Proofs.YtkifihcficobnaaDoor
open Go.RowKit Go.Gs
set_option linter.unusedVariables false

set_option maxRecDepth 100000 in
set_option maxHeartbeats 2000000 in
theorem over_turn (sx : ByteArray) (n : Int) (v : Value) (ls : List (List UInt8)) (w : World) (B : Nat) (hB : B ≤ w.heap.size) (hown : w.ownsRow B 9 1 v ls.length (ls.map S)) (hl : ls.length ≤ 300000) (hsz : ∀ s ∈ ls, s.length ≤ 300000) :
    Calls Tryd.prog 40 #[.agg #[.int .i64 5, .string sx, .int .i64 n], v] w fun e w' => ∃ r, e = .returned r ∧ Reads w' r (ls.map List.reverse).length ((ls.map List.reverse).map S) ∧ Below B w w' := by
  have hsf := fun (a : Addr) (c : Array Value) (w : World) => run_store Tryd.prog w a (.func (.func 64) #[] c) .plain rfl
  have eg : ∀ args w, (callFunc 71 args).run Tryd.prog w = .ok (.enter 71 args) w := enters_of Tryd.func71 (by kernel_rfl) rfl
  have Ho : Hid (w.ownsRow B 9 1 v ls.length (ls.map S)) := hown
  have HE : Hid _ := eg
  clear hown eg
  go_enter Tryd.func40, Tryd.ntmps40
  go_wp2_with fail
  refine (each_own v 71 #[] List.reverse HE.out ls _ B ?_ (owns_below Ho.out below_two) hl hsz (fun g _ => turn_line _ _)).mono ?_
  · have := (below_two (w := w) (o := .cells #[.int .i64 5, .string sx, .int .i64 n] 43) (p := .cells #[.nilFunc] 99)).size
    simp
    omega
  rintro e w1 ⟨r, rfl, hr1, hbel1⟩
  have R : Hid _ := hr1
  have HB : Hid (Below B w w1) := ((below_two.mono hB).trans hbel1)
  clear hr1 hbel1
  go_wp2_with fail
  go_ret
  exact ⟨_, rfl, R.out, HB.out⟩

set_option maxRecDepth 100000 in
set_option maxHeartbeats 2000000 in
theorem field_makes (n : Int) (w : World) :
    Calls Tryd.prog 70 #[.int .i64 n] w fun e w' => e = .returned (.func (.func 95) #[] #[.pointer (some ⟨w.heap.size, 0, none⟩)]) ∧ w' = w.alloc (.cells #[.int .i64 n] 3) := by
  go_enter Tryd.func70, Tryd.ntmps70
  go_wp2_with fail
  go_ret
  exact ⟨rfl, rfl⟩
set_option maxRecDepth 100000 in
set_option maxHeartbeats 2000000 in
theorem swap_makes (a c : UInt8) (w : World) :
    Calls Tryd.prog 69 #[U a, U c] w fun e w' => e = .returned (.func (.func 94) #[] #[.pointer (some ⟨w.heap.size, 0, none⟩), .pointer (some ⟨w.heap.size + 1, 0, none⟩)]) ∧ w' = (w.alloc (.cells #[U a] 5)).alloc (.cells #[U c] 5) := by
  unfold U
  go_enter Tryd.func69, Tryd.ntmps69
  go_wp2_with fail
  go_ret
  exact ⟨rfl, rfl⟩

theorem cell_three {w : World} {o p : Obj} {u : Value} {t : TypeId} : (((w.alloc o).alloc p).alloc (.cells #[u] t)).cell? ⟨w.heap.size + 2, 0, none⟩ = some u := by
  have h : ((w.alloc o).alloc p).heap.size = w.heap.size + 2 := by simp
  rw [← h, cell_of_row _ _ _ _ _ _ (heap_alloc_new _ _)]
  rfl
theorem below_grow' {B : Nat} {w : World} (q : Nat) (os : Array Obj) (hB : B ≤ w.heap.size) : Below B w (Sort.grow (w.drewN q) os) := by
  have h1 : Below w.heap.size w (w.drewN q) := below_drewN' (Below.refl _ _) q
  have h2 := below_grown (w.drewN q) 0 os
  rw [Sort.ahead_zero] at h2
  exact (h1.trans (h2.mono h1.size)).mono hB
theorem below_three {w : World} {o p q : Obj} : Below w.heap.size w (((w.alloc o).alloc p).alloc q) := below_two.alloc (by simp; omega) q

set_option maxRecDepth 100000 in
set_option maxHeartbeats 2000000 in
theorem over_field (sx : ByteArray) (n m : Int) (v : Value) (ls : List (List UInt8)) (w : World) (B : Nat) (hB0 : 1 < B) (hB : B ≤ w.heap.size) (hown : w.ownsRow B 9 1 v ls.length (ls.map S)) (hl : ls.length ≤ 300000) (hsz : ∀ s ∈ ls, s.length ≤ 300000) (hn1 : 1 ≤ n) (hn2 : n ≤ 1000) (hm : w.cell? ⟨1, 0, none⟩ = some (.int .i64 m)) :
    Calls Tryd.prog 40 #[.agg #[.int .i64 4, .string sx, .int .i64 n], v] w fun e w' => ∃ r, e = .returned r ∧ Reads w' r (ls.map (fieldOf n)).length ((ls.map (fieldOf n)).map S) ∧ Below B w w' := by
  have hsf := fun (a : Addr) (c : Array Value) (w : World) => run_store Tryd.prog w a (.func (.func 64) #[] c) .plain rfl
  have eg : ∀ args w, (callFunc 95 args).run Tryd.prog w = .ok (.enter 95 args) w := enters_of Tryd.func95 (by kernel_rfl) rfl
  have Ho : Hid (w.ownsRow B 9 1 v ls.length (ls.map S)) := hown
  have HE : Hid _ := eg
  have HM : Hid _ := hm
  clear hown eg hm
  go_enter Tryd.func40, Tryd.ntmps40
  go_wp2_with fail
  refine (field_makes n _).mono ?_
  rintro e w3 ⟨rfl, hw3⟩
  have hb3 : Below w.heap.size w w3 := by rw [hw3]; exact below_three
  have hc3 : w3.cell? ⟨w.heap.size + 2, 0, none⟩ = some (.int .i64 n) := by rw [hw3]; exact cell_three
  have hm3 : w3.cell? ⟨1, 0, none⟩ = some (.int .i64 m) := (hb3.cell (by show 1 < _; omega)).trans HM.out
  have hE := each_own v 95 #[.pointer (some ⟨w.heap.size + 2, 0, none⟩)] (fieldOf n) HE.out ls w3 B (by have := hb3.size; omega) (owns_below Ho.out hb3) hl hsz
    (fun g hg => by
      obtain ⟨h1, h2⟩ := Ho.out.lt g hg
      exact field_line w3 (some g) (w.heap.size + 2) n m hn1 hn2 hc3 (by intro e; cases e; omega) hm3 (by intro e; cases e; omega))
  have HB3 : Hid _ := hb3
  clear hw3 hb3 hc3 hm3
  go_wp2_with fail
  refine hE.mono ?_
  rintro e w1 ⟨r, rfl, hr1, hbel1⟩
  have R : Hid _ := hr1
  have HB : Hid (Below B w w1) := ((HB3.out.mono hB).trans hbel1)
  clear hr1 hbel1 hE
  go_wp2_with fail
  go_ret
  exact ⟨_, rfl, R.out, HB.out⟩

set_option maxRecDepth 100000 in
set_option maxHeartbeats 2000000 in
theorem over_count (sx : ByteArray) (n : Int) (ao : Option Addr) (L cap : Nat) (w : World) (hL : L ≤ 300000) (htab : ∀ W, Below w.heap.size w W → Lib.TabIs Tryd.prog W "internal/strconv.uint64pow10" .u64 Lib.pow10Tab) :
    Calls Tryd.prog 40 #[.agg #[.int .i64 8, .string sx, .int .i64 n], .slice ao L cap] w fun e w' => ∃ r, e = .returned r ∧ Reads w' r 1 [S (Lib.itoa (L : Int))] ∧ Below w.heap.size w w' := by
  have hsf := fun (a : Addr) (c : Array Value) (w : World) => run_store Tryd.prog w a (.func (.func 64) #[] c) .plain rfl
  have hI := fun (W : World) (h : Below w.heap.size w W) => Tryd.strconv_Itoa L (by omega) (by omega) W (htab W h)
  obtain ⟨t, ht⟩ : ∃ t, t = Lib.itoa (L : Int) := ⟨_, rfl⟩
  rw [← ht] at hI ⊢
  have HI : Hid _ := hI
  clear htab hI ht
  go_enter Tryd.func40, Tryd.ntmps40
  go_wp2_with fail
  refine (HI.out _ below_two).mono ?_
  rintro e w1 ⟨rfl, q, os, hw1⟩
  have HB : Hid (Below w.heap.size w w1) := by
    rw [hw1]
    exact below_two.trans (below_grow' _ _ (by simp; omega))
  clear hw1
  go_wp2_with fail
  go_ret
  exact ⟨_, rfl, by simpa [S] using reads_new w1 #[S t] 9 (0, 0) 1 rfl (by omega), HB.out.trans (((Below.refl _ w1).alloc (Nat.le_refl _) _).mono HB.out.size)⟩
end Go.Proofs.YtkifihcficobnaaDoor
