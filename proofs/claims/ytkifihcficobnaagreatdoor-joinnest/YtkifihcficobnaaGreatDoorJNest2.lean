/- The sentence on joins within joins: where nothing is done. -/
import Derived.Test.YtkifihcficobnaaGreatDoorJNest1
namespace Go.Proofs.YtkifihcficobnaaGreatDoor
open Go.RowKit Go.Gs
set_option linter.unusedVariables false

set_option maxRecDepth 100000 in
set_option maxHeartbeats 8000000 in
theorem nest_early4 (k n : Int) (word : List UInt8) (oa ob od : Option Addr) (ca cb cd : Nat) (a b d : List UInt8) (w : World) (hw : word.length ≤ 9223372036854775807) (h1 : Reads w (.slice oa a.length ca) a.length (a.map U)) (h2 : Reads w (.slice ob b.length cb) b.length (b.map U)) (h3 : Reads w (.slice od d.length cd) d.length (d.map U)) (hE : KnownE w) (ha : a.length ≤ 1000000000000000) (hb : b.length ≤ 1000000000000000) (hd : d.length ≤ 1000000000000000)
    (hbad : jchk 4 ⟨k, word, n⟩ ≠ 0 ∨ 2000 < a.length + b.length + d.length) :
    Calls Tryz.prog 8 #[.int .i64 4, .agg #[.int .i64 k, .string ⟨word.toArray⟩, .int .i64 n], .slice oa a.length ca, .slice ob b.length cb, .slice od d.length cd] w fun e w' => e = .returned (.bool true) ∧ Below w.heap.size w w' := by
  have N0 : Hid (NA w _ 4 ⟨k, word, n⟩ (.slice oa a.length ca) (.slice ob b.length cb) (.slice od d.length cd) a b d) := NA.start (how := 4) (c := ⟨k, word, n⟩) (t := 3) (t' := 23) h1 h2 h3 hE
  have hC := fun W => jcheck_is 4 ⟨k, word, n⟩ W hw
  unfold Cmd.v at hC
  simp only at hC
  generalize hr : jchk 4 ⟨k, word, n⟩ = r at *
  clear h1 h2 h3 hE hw
  go_enter Tryz.func8, Tryz.ntmps8
  go_wp2_with fail
  refine (spliced_true _ N0.out.2.2.2.2.1).mono ?_
  rintro e w1 ⟨rfl, hb1⟩
  have N1 : Hid (NA w w1 4 ⟨k, word, n⟩ (.slice oa a.length ca) (.slice ob b.length cb) (.slice od d.length cd) a b d) := N0.out.below hb1
  obtain ⟨x0, x1, x2, x3⟩ := N1.out.1
  clear hb1 N0
  go_wp2_with fail
  refine (hC _).mono ?_
  rintro e w2 ⟨rfl, hb2⟩
  have N2 : Hid (NA w w2 4 ⟨k, word, n⟩ (.slice oa a.length ca) (.slice ob b.length cb) (.slice od d.length cd) a b d) := N1.out.below hb2
  clear hb2 N1 hC x0 x1 x2 x3
  have hspl := spliced_true w2 N2.out.2.2.2.2.1
  by_cases hr0 : r = 0
  · subst hr0
    have hbig : 2000 < a.length + b.length + d.length := by rcases hbad with h | h; exact absurd rfl h; exact h
    have hsm := nest_small N2.out ha hb hd
    rw [decide_eq_false (by omega)] at hsm
    clear hbad hbig hspl
    go_wp2_with fail
    refine hsm.mono ?_
    rintro e w3 ⟨rfl, hb3⟩
    have N3 : Hid (NA w w3 4 ⟨k, word, n⟩ (.slice oa a.length ca) (.slice ob b.length cb) (.slice od d.length cd) a b d) := N2.out.below hb3
    clear hb3 hsm N2
    go_wp2_with fail
    refine (spliced_true w3 N3.out.2.2.2.2.1).mono ?_
    rintro e w4 ⟨rfl, hb4⟩
    have N4 : Hid _ := N3.out.below hb4
    clear hb4 N3
    go_wp2_with fail
    go_ret
    exact ⟨rfl, N4.out.2.2.2.2.2⟩
  · clear hbad
    go_wp2_with fail
    refine hspl.mono ?_
    rintro e w3 ⟨rfl, hb3⟩
    have N3 : Hid _ := N2.out.below hb3
    clear hb3 N2 hspl
    go_wp2_with fail
    go_ret
    exact ⟨rfl, N3.out.2.2.2.2.2⟩
set_option maxRecDepth 100000 in
set_option maxHeartbeats 8000000 in
theorem nest_early (how : Int) (h4 : how ≠ 4) (k n : Int) (word : List UInt8) (oa ob od : Option Addr) (ca cb cd : Nat) (a b d : List UInt8) (w : World) (hw : word.length ≤ 9223372036854775807) (h1 : Reads w (.slice oa a.length ca) a.length (a.map U)) (h2 : Reads w (.slice ob b.length cb) b.length (b.map U)) (h3 : Reads w (.slice od d.length cd) d.length (d.map U)) (hE : KnownE w) (ha : a.length ≤ 1000000000000000) (hb : b.length ≤ 1000000000000000) (hd : d.length ≤ 1000000000000000)
    (hbad : jchk how ⟨0, [], 0⟩ ≠ 0 ∨ 2000 < a.length + b.length + d.length) :
    Calls Tryz.prog 8 #[.int .i64 how, .agg #[.int .i64 k, .string ⟨word.toArray⟩, .int .i64 n], .slice oa a.length ca, .slice ob b.length cb, .slice od d.length cd] w fun e w' => e = .returned (.bool true) ∧ Below w.heap.size w w' := by
  have N0 : Hid (NA w _ how ⟨0, [], 0⟩ (.slice oa a.length ca) (.slice ob b.length cb) (.slice od d.length cd) a b d) := NA.start (how := how) (c := ⟨0, [], 0⟩) (t := 3) (t' := 23) h1 h2 h3 hE
  have hC := fun W => jcheck_is how ⟨0, [], 0⟩ W (Nat.zero_le _)
  unfold Cmd.v at hC
  simp only at hC
  generalize hr : jchk how ⟨0, [], 0⟩ = r at *
  have h4' : (how == 4) = false := by simpa using h4
  clear h1 h2 h3 hE hw
  go_enter Tryz.func8, Tryz.ntmps8
  go_wp2_with fail
  refine (spliced_true _ N0.out.2.2.2.2.1).mono ?_
  rintro e w1 ⟨rfl, hb1⟩
  have N1 : Hid (NA w w1 how ⟨0, [], 0⟩ (.slice oa a.length ca) (.slice ob b.length cb) (.slice od d.length cd) a b d) := N0.out.below hb1
  obtain ⟨x0, x1, x2, x3⟩ := N1.out.1
  clear hb1 N0
  go_wp2_with fail
  refine (hC _).mono ?_
  rintro e w2 ⟨rfl, hb2⟩
  have N2 : Hid (NA w w2 how ⟨0, [], 0⟩ (.slice oa a.length ca) (.slice ob b.length cb) (.slice od d.length cd) a b d) := N1.out.below hb2
  clear hb2 N1 hC x0 x1 x2 x3
  have hspl := spliced_true w2 N2.out.2.2.2.2.1
  by_cases hr0 : r = 0
  · subst hr0
    have hbig : 2000 < a.length + b.length + d.length := by rcases hbad with h | h; exact absurd rfl h; exact h
    have hsm := nest_small N2.out ha hb hd
    rw [decide_eq_false (by omega)] at hsm
    clear hbad hbig hspl
    go_wp2_with fail
    refine hsm.mono ?_
    rintro e w3 ⟨rfl, hb3⟩
    have N3 : Hid (NA w w3 how ⟨0, [], 0⟩ (.slice oa a.length ca) (.slice ob b.length cb) (.slice od d.length cd) a b d) := N2.out.below hb3
    clear hb3 hsm N2
    go_wp2_with fail
    refine (spliced_true w3 N3.out.2.2.2.2.1).mono ?_
    rintro e w4 ⟨rfl, hb4⟩
    have N4 : Hid _ := N3.out.below hb4
    clear hb4 N3
    go_wp2_with fail
    go_ret
    exact ⟨rfl, N4.out.2.2.2.2.2⟩
  · clear hbad
    go_wp2_with fail
    refine hspl.mono ?_
    rintro e w3 ⟨rfl, hb3⟩
    have N3 : Hid _ := N2.out.below hb3
    clear hb3 N2 hspl
    go_wp2_with fail
    go_ret
    exact ⟨rfl, N3.out.2.2.2.2.2⟩

theorem three_is (k : Int) : ([7, 9, 10] : List Int).contains k = decide (k = 7 ∨ k = 9 ∨ k = 10) := by
  rw [Bool.eq_iff_iff]
  simp
theorem three_cells (W : World) (e : TypeId) : ∀ j, j < ([7, 9, 10] : List Int).length → (W.alloc (.cells #[.int .i64 7, .int .i64 9, .int .i64 10] e)).cell? ⟨W.heap.size, 0 + j, none⟩ = some (.int .i64 (([7, 9, 10] : List Int).getD j 0)) := by
  intro j hj
  rw [cell_of_row _ _ _ _ _ _ (heap_alloc_new W _)]
  have hj' : j < 3 := hj
  have : j = 0 ∨ j = 1 ∨ j = 2 := by omega
  rcases this with rfl | rfl | rfl <;> rfl
theorem three_in (k : Int) (W : World) (d : Bool) (hd : decide (k = 7 ∨ k = 9 ∨ k = 10) = d) : Calls Tryz.prog 37 #[.slice (some ⟨W.heap.size, 0, none⟩) 3 3, .int .i64 k] (W.alloc (.cells #[.int .i64 7, .int .i64 9, .int .i64 10] 3)) fun e w' => e = .returned (.bool d) ∧ Below W.heap.size W w' := by
  refine (Tryz.slices_Contains_int _ 0 3 3 [7, 9, 10] k _ (by decide) (by omega) (three_cells W _)).mono ?_
  rintro e w1 ⟨rfl, hw1⟩
  rw [show ([7, 9, 10] : List Int).take 3 = [7, 9, 10] from rfl, three_is, hd]
  exact ⟨rfl, by rw [hw1]; exact box_of⟩

set_option maxRecDepth 100000 in
set_option maxHeartbeats 8000000 in
theorem nest_other (k n : Int) (word : List UInt8) (oa ob od : Option Addr) (ca cb cd : Nat) (a b d : List UInt8) (w : World) (hw : word.length ≤ 9223372036854775807) (h1 : Reads w (.slice oa a.length ca) a.length (a.map U)) (h2 : Reads w (.slice ob b.length cb) b.length (b.map U)) (h3 : Reads w (.slice od d.length cd) d.length (d.map U)) (hE : KnownE w) (ha : a.length ≤ 1000000000000000) (hb : b.length ≤ 1000000000000000) (hd : d.length ≤ 1000000000000000) (hj : jchk 4 ⟨k, word, n⟩ = 0) (hsm : a.length + b.length + d.length ≤ 2000) (hk : ¬ (k = 7 ∨ k = 9 ∨ k = 10)) :
    Calls Tryz.prog 8 #[.int .i64 4, .agg #[.int .i64 k, .string ⟨word.toArray⟩, .int .i64 n], .slice oa a.length ca, .slice ob b.length cb, .slice od d.length cd] w fun e w' => e = .returned (.bool true) ∧ Below w.heap.size w w' := by
  have N0 : Hid (NA w _ 4 ⟨k, word, n⟩ (.slice oa a.length ca) (.slice ob b.length cb) (.slice od d.length cd) a b d) := NA.start (how := 4) (c := ⟨k, word, n⟩) (t := 3) (t' := 23) h1 h2 h3 hE
  have hC := fun W => jcheck_is 4 ⟨k, word, n⟩ W hw
  rw [hj] at hC
  unfold Cmd.v at hC
  simp only at hC
  clear h1 h2 h3 hE hw hj
  go_enter Tryz.func8, Tryz.ntmps8
  go_wp2_with fail
  refine (spliced_true _ N0.out.2.2.2.2.1).mono ?_
  rintro e w1 ⟨rfl, hb1⟩
  have N1 : Hid (NA w w1 4 ⟨k, word, n⟩ (.slice oa a.length ca) (.slice ob b.length cb) (.slice od d.length cd) a b d) := N0.out.below hb1
  obtain ⟨x0, x1, x2, x3⟩ := N1.out.1
  clear hb1 N0
  go_wp2_with fail
  refine (hC _).mono ?_
  rintro e w2 ⟨rfl, hb2⟩
  have N2 : Hid (NA w w2 4 ⟨k, word, n⟩ (.slice oa a.length ca) (.slice ob b.length cb) (.slice od d.length cd) a b d) := N1.out.below hb2
  clear hb2 N1 hC x0 x1 x2 x3
  have hs := nest_small N2.out ha hb hd
  rw [decide_eq_true hsm] at hs
  go_wp2_with fail
  refine hs.mono ?_
  rintro e w3 ⟨rfl, hb3⟩
  have N3 : Hid (NA w w3 4 ⟨k, word, n⟩ (.slice oa a.length ca) (.slice ob b.length cb) (.slice od d.length cd) a b d) := N2.out.below hb3
  obtain ⟨x0, x1, x2, x3⟩ := N3.out.1
  have y1 := fun o => Lib.cell?_alloc_some o x1
  clear hb3 hs N2
  have h3i := three_in k w3 false (decide_eq_false hk)
  clear hk
  go_wp2_with fail
  refine h3i.mono ?_
  rintro e w4 ⟨rfl, hb4⟩
  have N4 : Hid _ := N3.out.below hb4
  clear hb4 N3 h3i y1
  go_wp2_with fail
  go_ret
  exact ⟨rfl, N4.out.2.2.2.2.2⟩
end Go.Proofs.YtkifihcficobnaaGreatDoor
