/- The walk of the sentence on doing twice. -/
import Derived.Test.YtkifihcficobnaaGreatDoorCmdEach
import Derived.Test.YtkifihcficobnaaGreatDoorAt
import Derived.Test.YtkifihcficobnaaGreatDoorByteNo
import Derived.Deep.DeepCutAuto
namespace Go.Proofs.YtkifihcficobnaaGreatDoor
open Go.RowKit Go.Gs
set_option linter.unusedVariables false

theorem small_one {w : World} {bx : Nat} {c : Cmd} {vb : Value} {b : List UInt8} (h : EachAt w bx c vb vb b b) (hb : b.length ≤ 1000000000000000) :
    Calls Tryz.prog 22 #[.slice (some ⟨w.heap.size, 0, none⟩) 1 1] (w.alloc (.cells #[vb] 24)) fun e w' => e = .returned (.bool (decide (b.length ≤ 2000))) ∧ Below w.heap.size w w' := by
  have hl : Lists (w.alloc (.cells #[vb] 24)) w.heap.size U [b] := by
    intro j p hj
    match j, hj with
    | 0, hj =>
      cases hj
      refine ⟨vb, ?_, h.2.2.2.1.below box_of⟩
      rw [cell_of_row _ _ _ _ _ _ (heap_alloc_new w _)]
      rfl
  have hs := small_is w.heap.size [b] (w.alloc (.cells #[vb] 24)) hl (by simp) (by
    intro p hp
    simp only [List.mem_cons, List.not_mem_nil, or_false] at hp
    subst hp
    exact hb)
  refine hs.mono ?_
  rintro e w' ⟨rfl, rfl⟩
  exact ⟨by simp, box_of⟩

set_option maxRecDepth 100000 in
set_option maxHeartbeats 8000000 in
theorem twice_bad (k n : Int) (word : List UInt8) (kk : Int) (ob : Option Addr) (cb : Nat) (b : List UInt8) (w : World) (hw : word.length ≤ 9223372036854775807) (h2 : Reads w (.slice ob b.length cb) b.length (b.map U)) (h3 : Known w) (h4 : w.ShapedOpen Tryz.prog) (r : Int) (hr : chk ⟨k, word, n⟩ = r) (hr0 : r ≠ 0) :
    Calls Tryz.prog 5 #[.agg #[.int .i64 k, .string ⟨word.toArray⟩, .int .i64 n], .slice ob b.length cb, .int .i64 kk] w fun e w' => e = .returned (.bool true) ∧ Below w.heap.size w w' := by
  have E0 : Hid (EachAt _ _ _ _ _ _ _) := each_start (c := ⟨k, word, n⟩) h2 h2 h3 h4
  have hC : ∀ W, Calls Tryz.prog 13 #[.agg #[.int .i64 k, .string ⟨word.toArray⟩, .int .i64 n]] W fun e w' => e = .returned (.int .i64 r) ∧ Below W.heap.size W w' := fun W => by rw [← hr]; exact check_is ⟨k, word, n⟩ W hw
  clear h2 h3 h4 hr hw
  go_enter Tryz.func5, Tryz.ntmps5
  go_wp2_with fail
  refine (did_true _ E0.out.known).mono ?_
  rintro e w1 ⟨rfl, hb1⟩
  have E1 : Hid (EachAt w1 w.heap.size ⟨k, word, n⟩ (.slice ob b.length cb) (.slice ob b.length cb) b b) := E0.out.below hb1
  have HB1 : Hid (Below w.heap.size w w1) := box_of.trans (hb1.mono (by simp))
  obtain ⟨x0, x1, x2⟩ := eachat_cells (w' := w) E1.out
  clear hb1 E0
  go_wp2_with fail
  refine (hC _).mono ?_
  rintro e w3 ⟨rfl, hb3⟩
  have E3 : Hid (EachAt w3 w.heap.size ⟨k, word, n⟩ (.slice ob b.length cb) (.slice ob b.length cb) b b) := E1.out.below hb3
  have HB3 : Hid (Below w.heap.size w w3) := HB1.out.trans (hb3.mono HB1.out.size)
  clear hb3 x0 x1 x2 hC E1
  go_wp2_with fail
  refine (did_true _ E3.out.known).mono ?_
  rintro e w4 ⟨rfl, hb4⟩
  have HB4 : Hid (Below w.heap.size w w4) := HB3.out.trans (hb4.mono HB3.out.size)
  clear hb4
  go_wp2_with fail
  go_ret
  exact ⟨rfl, HB4.out⟩

set_option maxRecDepth 100000 in
set_option maxHeartbeats 8000000 in
theorem twice_big (k n : Int) (word : List UInt8) (kk : Int) (ob : Option Addr) (cb : Nat) (b : List UInt8) (w : World) (hw : word.length ≤ 9223372036854775807) (h2 : Reads w (.slice ob b.length cb) b.length (b.map U)) (h3 : Known w) (h4 : w.ShapedOpen Tryz.prog) (hr : chk ⟨k, word, n⟩ = 0) (hb : b.length ≤ 1000000000000000) (hbig : 2000 < b.length) :
    Calls Tryz.prog 5 #[.agg #[.int .i64 k, .string ⟨word.toArray⟩, .int .i64 n], .slice ob b.length cb, .int .i64 kk] w fun e w' => e = .returned (.bool true) ∧ Below w.heap.size w w' := by
  have E0 : Hid (EachAt _ _ _ _ _ _ _) := each_start (c := ⟨k, word, n⟩) h2 h2 h3 h4
  have hC : ∀ W, Calls Tryz.prog 13 #[.agg #[.int .i64 k, .string ⟨word.toArray⟩, .int .i64 n]] W fun e w' => e = .returned (.int .i64 0) ∧ Below W.heap.size W w' := fun W => by rw [← hr]; exact check_is ⟨k, word, n⟩ W hw
  clear h2 h3 h4 hr hw
  go_enter Tryz.func5, Tryz.ntmps5
  go_wp2_with fail
  refine (did_true _ E0.out.known).mono ?_
  rintro e w1 ⟨rfl, hb1⟩
  have E1 : Hid (EachAt w1 w.heap.size ⟨k, word, n⟩ (.slice ob b.length cb) (.slice ob b.length cb) b b) := E0.out.below hb1
  have HB1 : Hid (Below w.heap.size w w1) := box_of.trans (hb1.mono (by simp))
  obtain ⟨x0, x1, x2⟩ := eachat_cells (w' := w) E1.out
  clear hb1 E0
  go_wp2_with fail
  refine (hC _).mono ?_
  rintro e w3 ⟨rfl, hb3⟩
  have E3 : Hid (EachAt w3 w.heap.size ⟨k, word, n⟩ (.slice ob b.length cb) (.slice ob b.length cb) b b) := E1.out.below hb3
  have HB3 : Hid (Below w.heap.size w w3) := HB1.out.trans (hb3.mono HB1.out.size)
  clear hb3 x0 x1 x2 hC E1
  go_wp2_with fail
  refine (small_one E3.out hb).mono ?_
  rintro e w4 ⟨rfl, hb4⟩
  have E4 : Hid (EachAt w4 w.heap.size ⟨k, word, n⟩ (.slice ob b.length cb) (.slice ob b.length cb) b b) := E3.out.below hb4
  have HB4 : Hid (Below w.heap.size w w4) := HB3.out.trans (hb4.mono HB3.out.size)
  have hd : decide (b.length ≤ 2000) = false := decide_eq_false (by omega)
  rw [hd]
  clear hb4 hd E3
  go_wp2_with fail
  refine (did_true _ E4.out.known).mono ?_
  rintro e w5 ⟨rfl, hb5⟩
  have HB5 : Hid (Below w.heap.size w w5) := HB4.out.trans (hb5.mono HB4.out.size)
  clear hb5
  go_wp2_with fail
  go_ret
  exact ⟨rfl, HB5.out⟩
end Go.Proofs.YtkifihcficobnaaGreatDoor
