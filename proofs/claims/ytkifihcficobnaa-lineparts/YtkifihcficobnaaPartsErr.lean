/- The walk of gangsawlaw.LineParts. -/
import Derived.Test.YtkifihcficobnaaLined
import Derived.Test.YtkifihcficobnaaPartsMath
namespace Go.Proofs.Ytkifihcficobnaa
open Go.RowKit Go.Gs
set_option linter.unusedVariables false

theorem equal_same (v1 v2 : Value) (ls ms : List (List UInt8)) (w : World) (h1 : Reads w v1 ls.length (ls.map S)) (h2 : Reads w v2 ms.length (ms.map S)) (h : ls = ms) :
    Calls Try.prog 8 #[v1, v2] w fun e w' => e = .returned (.bool true) ∧ Below w.heap.size w w' := by
  refine (equal_str v1 v2 ls ms w h1 h2).mono ?_
  rintro e w' ⟨rfl, q, rfl⟩
  exact ⟨by simp [h], ⟨rfl, rfl, rfl, Nat.le_refl _, fun _ _ => rfl⟩⟩

set_option maxRecDepth 100000 in
set_option maxHeartbeats 2000000 in
theorem parts_many0 (vb vl : Value) (bs : List UInt8) (ls : List (List UInt8)) (p : Int) (w : World) (hb : Reads w vb bs.length (bs.map U)) (hl : Reads w vl ls.length (ls.map S)) (hsz : ∀ s ∈ ls, s.length ≤ 9223372036854775807) (hbad : bad 4000 ls ≠ 0) (hn : 4000 < bs.length) :
    Calls Try.prog 4 #[vb, .int .i64 p, vl] w fun e w' => e = .returned (.bool true) ∧ Below w.heap.size w w' := by
  have hbd : (bad 4000 ls == 0) = false := by simp [hbad]
  have Hbad : Hid _ := hbad
  clear hbad
  go_enter Try.func4, Try.ntmps4
  go_wp2_with fail
  refine (bytes_err vl ls _ hl hsz Hbad.out).mono ?_
  rintro e w1 ⟨rfl, hw1⟩
  have hB1 : Below w.heap.size w w1 := by rw [hw1]; exact Below.refl _ _
  clear hw1
  generalize bad 4000 ls = ec at hbd
  have hb1 := hb.below hB1
  clear hl hsz
  go_wp2_with fail
  refine (split_many vb _ _ p _ hb1 hn).mono ?_
  rintro e w2 ⟨rfl, hw2⟩
  have hB2 : Below w.heap.size w w2 := by rw [hw2]; exact hB1
  clear hw2 hB1 hb1
  go_wp2_with fail
  refine (lined_true _).mono ?_
  rintro e w3 ⟨rfl, hb3⟩
  have hB3 := hB2.trans (hb3.mono hB2.size)
  clear hb3
  go_wp2_with fail
  refine (lined_true _).mono ?_
  rintro e w4 ⟨rfl, hb4⟩
  have hB4 := hB3.trans (hb4.mono hB3.size)
  clear hb4
  go_wp2_with fail
  go_ret
  exact ⟨rfl, hB4⟩


set_option maxRecDepth 100000 in
set_option maxHeartbeats 2000000 in
theorem parts_many1 (vb vl : Value) (bs : List UInt8) (ls : List (List UInt8)) (p : Int) (w : World) (hb : Reads w vb bs.length (bs.map U)) (hl : Reads w vl ls.length (ls.map S)) (hsz : ∀ s ∈ ls, s.length ≤ 9223372036854775807) (hbad : bad 4000 ls = 0) (hn : 4000 < bs.length) :
    Calls Try.prog 4 #[vb, .int .i64 p, vl] w fun e w' => e = .returned (.bool true) ∧ Below w.heap.size w w' := by
  have Hbad : Hid _ := hbad
  have HK : Hid _ := bad_ok ls 4000 hbad
  clear hbad
  go_enter Try.func4, Try.ntmps4
  go_wp2_with fail
  refine (bytes_fine vl ls _ hl hsz Hbad.out).mono ?_
  rintro e wa ⟨x, rfl, hx, hBa⟩
  go_wp2_with fail
  refine (of_fine x (ended ls) _ hx HK.out.1).mono ?_
  rintro e wb ⟨yo, yc, rfl, hy, hBb⟩
  have HL : Hid _ := (hl.below hBa).below hBb
  clear hx
  go_wp2_with fail
  refine (equal_same _ vl (lines (ended ls)) ls _ hy HL.out (lines_ended ls HK.out.2)).mono ?_
  rintro e w1 ⟨rfl, hBc⟩
  have hB1 : Below w.heap.size w w1 := (hBa.trans (hBb.mono hBa.size)).trans (hBc.mono (Nat.le_trans hBa.size hBb.size))
  have hb1 := hb.below hB1
  clear hl hsz hBa hBb hBc hy HL
  go_wp2_with fail
  refine (split_many vb _ _ p _ hb1 hn).mono ?_
  rintro e w2 ⟨rfl, hw2⟩
  have hB2 : Below w.heap.size w w2 := by rw [hw2]; exact hB1
  clear hw2 hB1 hb1
  go_wp2_with fail
  refine (lined_true _).mono ?_
  rintro e w3 ⟨rfl, hb3⟩
  have hB3 := hB2.trans (hb3.mono hB2.size)
  clear hb3
  go_wp2_with fail
  refine (lined_true _).mono ?_
  rintro e w4 ⟨rfl, hb4⟩
  have hB4 := hB3.trans (hb4.mono hB3.size)
  clear hb4
  go_wp2_with fail
  go_ret
  exact ⟨rfl, hB4⟩


set_option maxRecDepth 100000 in
set_option maxHeartbeats 2000000 in
theorem parts_range0 (vb vl : Value) (bs : List UInt8) (ls : List (List UInt8)) (p : Int) (w : World) (hb : Reads w vb bs.length (bs.map U)) (hl : Reads w vl ls.length (ls.map S)) (hsz : ∀ s ∈ ls, s.length ≤ 9223372036854775807) (hbad : bad 4000 ls ≠ 0) (hn : bs.length ≤ 4000) (hp : p < 1 ∨ 5 < p) :
    Calls Try.prog 4 #[vb, .int .i64 p, vl] w fun e w' => e = .returned (.bool true) ∧ Below w.heap.size w w' := by
  have hbd : (bad 4000 ls == 0) = false := by simp [hbad]
  have Hbad : Hid _ := hbad
  clear hbad
  go_enter Try.func4, Try.ntmps4
  go_wp2_with fail
  refine (bytes_err vl ls _ hl hsz Hbad.out).mono ?_
  rintro e w1 ⟨rfl, hw1⟩
  have hB1 : Below w.heap.size w w1 := by rw [hw1]; exact Below.refl _ _
  clear hw1
  generalize bad 4000 ls = ec at hbd
  have hb1 := hb.below hB1
  clear hl hsz
  go_wp2_with fail
  refine (split_range vb bs p _ hb1 hn hp).mono ?_
  rintro e w2 ⟨rfl, hb2⟩
  have hB2 : Below w.heap.size w w2 := hB1.trans (hb2.mono hB1.size)
  clear hb2 hB1 hb1
  go_wp2_with fail
  refine (lined_true _).mono ?_
  rintro e w3 ⟨rfl, hb3⟩
  have hB3 := hB2.trans (hb3.mono hB2.size)
  clear hb3
  go_wp2_with fail
  refine (lined_true _).mono ?_
  rintro e w4 ⟨rfl, hb4⟩
  have hB4 := hB3.trans (hb4.mono hB3.size)
  clear hb4
  go_wp2_with fail
  go_ret
  exact ⟨rfl, hB4⟩


set_option maxRecDepth 100000 in
set_option maxHeartbeats 2000000 in
theorem parts_range1 (vb vl : Value) (bs : List UInt8) (ls : List (List UInt8)) (p : Int) (w : World) (hb : Reads w vb bs.length (bs.map U)) (hl : Reads w vl ls.length (ls.map S)) (hsz : ∀ s ∈ ls, s.length ≤ 9223372036854775807) (hbad : bad 4000 ls = 0) (hn : bs.length ≤ 4000) (hp : p < 1 ∨ 5 < p) :
    Calls Try.prog 4 #[vb, .int .i64 p, vl] w fun e w' => e = .returned (.bool true) ∧ Below w.heap.size w w' := by
  have Hbad : Hid _ := hbad
  have HK : Hid _ := bad_ok ls 4000 hbad
  clear hbad
  go_enter Try.func4, Try.ntmps4
  go_wp2_with fail
  refine (bytes_fine vl ls _ hl hsz Hbad.out).mono ?_
  rintro e wa ⟨x, rfl, hx, hBa⟩
  go_wp2_with fail
  refine (of_fine x (ended ls) _ hx HK.out.1).mono ?_
  rintro e wb ⟨yo, yc, rfl, hy, hBb⟩
  have HL : Hid _ := (hl.below hBa).below hBb
  clear hx
  go_wp2_with fail
  refine (equal_same _ vl (lines (ended ls)) ls _ hy HL.out (lines_ended ls HK.out.2)).mono ?_
  rintro e w1 ⟨rfl, hBc⟩
  have hB1 : Below w.heap.size w w1 := (hBa.trans (hBb.mono hBa.size)).trans (hBc.mono (Nat.le_trans hBa.size hBb.size))
  have hb1 := hb.below hB1
  clear hl hsz hBa hBb hBc hy HL
  go_wp2_with fail
  refine (split_range vb bs p _ hb1 hn hp).mono ?_
  rintro e w2 ⟨rfl, hb2⟩
  have hB2 : Below w.heap.size w w2 := hB1.trans (hb2.mono hB1.size)
  clear hb2 hB1 hb1
  go_wp2_with fail
  refine (lined_true _).mono ?_
  rintro e w3 ⟨rfl, hb3⟩
  have hB3 := hB2.trans (hb3.mono hB2.size)
  clear hb3
  go_wp2_with fail
  refine (lined_true _).mono ?_
  rintro e w4 ⟨rfl, hb4⟩
  have hB4 := hB3.trans (hb4.mono hB3.size)
  clear hb4
  go_wp2_with fail
  go_ret
  exact ⟨rfl, hB4⟩


end Go.Proofs.Ytkifihcficobnaa
