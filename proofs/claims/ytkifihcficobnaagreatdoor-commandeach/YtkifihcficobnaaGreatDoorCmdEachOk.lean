/- The walk of the sentence on Each, where all is right. -/
import Derived.Test.YtkifihcficobnaaGreatDoorCmdEach
import Derived.Deep.DeepCutAuto
namespace Go.Proofs.YtkifihcficobnaaGreatDoor
open Go.RowKit Go.Gs
set_option linter.unusedVariables false

theorem cat_two {w : World} {o1 o2 : Option Addr} {c1 c2 : Nat} {x y : List UInt8} (h1 : Reads w (.slice o1 x.length c1) x.length (x.map U)) (h2 : Reads w (.slice o2 y.length c2) y.length (y.map U)) (hl : x.length + y.length ≤ 5000) :
    Calls Tryz.prog 23 #[.slice (some ⟨w.heap.size, 0, none⟩) 2 2] (w.alloc (.cells #[.slice o1 x.length c1, .slice o2 y.length c2] 24)) fun e w' => ∃ o cp N, e = .returned (.slice o N cp) ∧ Hid (Reads w' (.slice o N cp) (x ++ y).length ((x ++ y).map U)) ∧ Below w.heap.size w w' := by
  have hC := concat_bytes w.heap.size [x, y] (w.alloc (.cells #[.slice o1 x.length c1, .slice o2 y.length c2] 24)) (new_two h1 h2) (by simp) (by simp; omega)
  have e1 : [x, y].flatten = x ++ y := by simp
  rw [e1] at hC
  refine hC.mono ?_
  rintro e w' ⟨r, rfl, h3, h4⟩
  have h3' := Reads.of_owns h3
  obtain ⟨_, o2, cp2, rfl, _⟩ := id h3'
  exact ⟨o2, cp2, _, rfl, h3', box_of.trans (h4.mono (by simp))⟩
theorem eq_any {w : World} {u v : Value} {x y : List UInt8} (he : y = x) (h1 : Reads w u x.length (x.map U)) (h2 : Reads w v y.length (y.map U)) :
    Calls Tryz.prog 18 #[u, v] w fun e w' => e = .returned (.bool true) ∧ Below w.heap.size w w' := by
  subst he
  exact eqb_same _ _ y w h1 h2

set_option maxRecDepth 100000 in
set_option maxHeartbeats 8000000 in
theorem each_ok (k n : Int) (word : List UInt8) (oa ob : Option Addr) (ca cb : Nat) (a b : List UInt8) (w : World) (hw : word.length ≤ 9223372036854775807) (h1 : Reads w (.slice oa a.length ca) a.length (a.map U)) (h2 : Reads w (.slice ob b.length cb) b.length (b.map U)) (h3 : Known w) (h4 : w.ShapedOpen Tryz.prog) (hyes : isEach k = true) (hr : chk ⟨k, word, n⟩ = 0) (ha : a.length ≤ 1000000000000000) (hb : b.length ≤ 1000000000000000) (hsm : a.length + b.length ≤ 2000) :
    Calls Tryz.prog 4 #[.agg #[.int .i64 k, .string ⟨word.toArray⟩, .int .i64 n], (.slice oa a.length ca), (.slice ob b.length cb)] w fun e w' => e = .returned (.bool true) ∧ Below w.heap.size w w' := by
  have E0 : Hid (EachAt _ _ _ _ _ _ _) := each_start (c := ⟨k, word, n⟩) h1 h2 h3 h4
  have hE : ∀ W, Calls Tryz.prog 16 #[.agg #[.int .i64 k, .string ⟨word.toArray⟩, .int .i64 n]] W fun e w' => e = .returned (.bool true) ∧ Below W.heap.size W w' := fun W => by rw [← hyes]; exact each_is ⟨k, word, n⟩ W
  have hC : ∀ W, Calls Tryz.prog 13 #[.agg #[.int .i64 k, .string ⟨word.toArray⟩, .int .i64 n]] W fun e w' => e = .returned (.int .i64 0) ∧ Below W.heap.size W w' := fun W => by rw [← hr]; exact check_is ⟨k, word, n⟩ W hw
  have hlay := do_lay ⟨k, word, n⟩ hw hr
  have HW : Hid (word.length ≤ 9223372036854775807) := hw
  have HC : Hid (chk ⟨k, word, n⟩ = 0) := hr
  have HO : Hid _ := doOut_append ⟨k, word, n⟩ hyes a b
  clear h1 h2 h3 h4 hyes hr hw
  go_enter Tryz.func4, Tryz.ntmps4
  go_wp2_with fail
  refine (did_true _ E0.out.known).mono ?_
  rintro e w1 ⟨rfl, hb1⟩
  have E1 : Hid (EachAt w1 w.heap.size ⟨k, word, n⟩ (.slice oa a.length ca) (.slice ob b.length cb) a b) := E0.out.below hb1
  have HB1 : Hid (Below w.heap.size w w1) := box_of.trans (hb1.mono (by simp))
  obtain ⟨x0, x1, x2⟩ := eachat_cells (w' := w) E1.out
  clear hb1 E0
  go_wp2_with fail
  refine (hE _).mono ?_
  rintro e w2 ⟨rfl, hb2⟩
  have E2 : Hid (EachAt w2 w.heap.size ⟨k, word, n⟩ (.slice oa a.length ca) (.slice ob b.length cb) a b) := E1.out.below hb2
  have HB2 : Hid (Below w.heap.size w w2) := HB1.out.trans (hb2.mono HB1.out.size)
  clear hb2 x0 x1 x2 hE E1
  obtain ⟨x0, x1, x2⟩ := eachat_cells (w' := w) E2.out
  go_wp2_with fail
  refine (hC _).mono ?_
  rintro e w3 ⟨rfl, hb3⟩
  have E3 : Hid (EachAt w3 w.heap.size ⟨k, word, n⟩ (.slice oa a.length ca) (.slice ob b.length cb) a b) := E2.out.below hb3
  have HB3 : Hid (Below w.heap.size w w3) := HB2.out.trans (hb3.mono HB2.out.size)
  clear hb3 x0 x1 x2 hC E2
  go_wp2_with fail
  refine (small_two E3.out ha hb).mono ?_
  rintro e w4 ⟨rfl, hb4⟩
  have E4 : Hid (EachAt w4 w.heap.size ⟨k, word, n⟩ (.slice oa a.length ca) (.slice ob b.length cb) a b) := E3.out.below hb4
  have HB4 : Hid (Below w.heap.size w w4) := HB3.out.trans (hb4.mono HB3.out.size)
  have hd : decide (a.length + b.length ≤ 2000) = true := decide_eq_true hsm
  rw [hd]
  clear hb4 hd E3
  obtain ⟨x0, x1, x2⟩ := eachat_cells (w' := w) E4.out
  go_wp2_with fail
  refine (hlay (.slice oa a.length ca) a w4 E4.out.2.2.2.1 (by omega) E4.out.known).mono ?_
  rintro e w5 ⟨ox, cx, rfl, hx5, hb5⟩
  have E5 : Hid (EachAt w5 w.heap.size ⟨k, word, n⟩ (.slice oa a.length ca) (.slice ob b.length cb) a b) := E4.out.below hb5
  have HB5 : Hid (Below w.heap.size w w5) := HB4.out.trans (hb5.mono HB4.out.size)
  have HX5 : Hid (Reads w5 (.slice ox (doOut ⟨k, word, n⟩ a).length cx) (doOut ⟨k, word, n⟩ a).length ((doOut ⟨k, word, n⟩ a).map U)) := hx5
  clear hb5 hx5 x0 x1 x2 E4
  obtain ⟨x0, x1, x2⟩ := eachat_cells (w' := w) E5.out
  go_wp2_with fail
  refine (hlay (.slice ob b.length cb) b w5 E5.out.2.2.2.2.1 (by omega) E5.out.known).mono ?_
  rintro e w6 ⟨oy, cy, rfl, hy6, hb6⟩
  have E6 : Hid (EachAt w6 w.heap.size ⟨k, word, n⟩ (.slice oa a.length ca) (.slice ob b.length cb) a b) := E5.out.below hb6
  have HB6 : Hid (Below w.heap.size w w6) := HB5.out.trans (hb6.mono HB5.out.size)
  have HX6 : Hid (Reads w6 (.slice ox (doOut ⟨k, word, n⟩ a).length cx) (doOut ⟨k, word, n⟩ a).length ((doOut ⟨k, word, n⟩ a).map U)) := HX5.out.below hb6
  have HY6 : Hid (Reads w6 (.slice oy (doOut ⟨k, word, n⟩ b).length cy) (doOut ⟨k, word, n⟩ b).length ((doOut ⟨k, word, n⟩ b).map U)) := hy6
  clear hb6 hy6 x0 x1 x2 E5 HX5
  obtain ⟨x0, x1, x2⟩ := eachat_cells (w' := w) E6.out
  have hl1 : (ended (lines a)).length ≤ a.length + 1 := ended_lines a
  clear hlay
  go_wp2_with fail
  go_cut [11, 12] (fun z s wc => s = .int .i64 0 ∧ ∃ o c N, z = .slice o N c ∧ Hid (Reads wc (.slice o N c) (doOut ⟨k, word, n⟩ (ended (lines a) ++ b)).length ((doOut ⟨k, word, n⟩ (ended (lines a) ++ b)).map U)) ∧ Hid (Below w6.heap.size w6 wc))
  case first =>
    clear HX6 HY6 HB6 HB5 HB4 HB3 HB2 HB1 HO
    have hl2 : (ended (lines a) ++ b).length ≤ 4000 := by simp only [List.length_append]; omega
    have HL2 : Hid _ := hl2
    clear hl2
    go_region_with (first
      | (go_at_call 24; refine (last_whole E6.out (by omega)).mono ?_; rintro e w7 ⟨o7, c7, rfl, L7, R7, ⟨y0, y1, y2⟩, q0, q1, q2⟩)
      | (go_at_call 23; refine (last_concat (x := ended (lines a)) L7.out R7.out rfl (by omega)).mono ?_; rintro e w8 ⟨o8, c8, N8, rfl, L8, R8, z0, z1, z2⟩)
      | (go_at_call 10; refine (last_do (c := ⟨k, word, n⟩) HW.out HC.out L8.out R8.out HL2.out).mono ?_; rintro e w9 ⟨o9, c9, N9, rfl, R9, B9⟩))
    all_goals (go_wp2_with fail; go_meet; exact ⟨rfl, o9, c9, N9, rfl, R9, B9⟩)
  case rest =>
    obtain ⟨rfl, o9, c9, N9, rfl, R9, B9⟩ := hcut
    have HX9 : Hid (Reads wc (.slice ox (doOut ⟨k, word, n⟩ a).length cx) (doOut ⟨k, word, n⟩ a).length ((doOut ⟨k, word, n⟩ a).map U)) := HX6.out.below B9.out
    have HY9 : Hid (Reads wc (.slice oy (doOut ⟨k, word, n⟩ b).length cy) (doOut ⟨k, word, n⟩ b).length ((doOut ⟨k, word, n⟩ b).map U)) := HY6.out.below B9.out
    have HB9 : Hid (Below w.heap.size w wc) := HB6.out.trans (B9.out.mono HB6.out.size)
    clear HX6 HY6 HB6 HB5 HB4 HB3 HB2 HB1 E6 x0 x1 x2 B9
    have hlx : (doOut ⟨k, word, n⟩ a).length + (doOut ⟨k, word, n⟩ b).length ≤ 5000 := by
      have h1 := doOut_len ⟨k, word, n⟩ HC.out a (by omega)
      have h2 := doOut_len ⟨k, word, n⟩ HC.out b (by omega)
      omega
    go_wp2_with fail
    refine (cat_two HX9.out HY9.out hlx).mono ?_
    rintro e w10 ⟨o10, c10, N10, rfl, R10, hb10⟩
    have R9' : Hid (Reads w10 (.slice o9 N9 c9) (doOut ⟨k, word, n⟩ (ended (lines a) ++ b)).length ((doOut ⟨k, word, n⟩ (ended (lines a) ++ b)).map U)) := R9.out.below hb10
    have HB10 : Hid (Below w.heap.size w w10) := HB9.out.trans (hb10.mono HB9.out.size)
    clear hb10 HX9 HY9 R9 HB9
    go_wp2_with fail
    refine (eq_any HO.out R10.out R9'.out).mono ?_
    rintro e w11 ⟨rfl, hb11⟩
    have HB11 : Hid (Below w.heap.size w w11) := HB10.out.trans (hb11.mono HB10.out.size)
    clear hb11
    go_wp2_with fail
    go_ret
    exact ⟨rfl, HB11.out⟩
end Go.Proofs.YtkifihcficobnaaGreatDoor
