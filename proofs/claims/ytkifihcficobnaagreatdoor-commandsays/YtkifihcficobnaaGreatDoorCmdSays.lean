/- The walk of the sentence on commands. -/
import Derived.Test.YtkifihcficobnaaGreatDoorMadeG
import Derived.Test.YtkifihcficobnaaGreatDoorRefCheck2
import Derived.Test.YtkifihcficobnaaGreatDoorRefWord
import Derived.Test.YtkifihcficobnaaGreatDoorRefCmd1
import Derived.Test.YtkifihcficobnaaGreatDoorCmdEach
import Derived.Deep.DeepCutAuto
import Derived.Deep.RegionWith
namespace Go.Proofs.YtkifihcficobnaaGreatDoor
open Go.RowKit Go.Gs
set_option linter.unusedVariables false

/-- What the walk stands on. -/
def SA (w W : World) (c : Cmd) (vb : Value) (b : List UInt8) : Prop := EachAt W w.heap.size c vb vb b b ∧ Below w.heap.size w W
theorem SA.below {w W W' : World} {c : Cmd} {vb : Value} {b : List UInt8} (h : SA w W c vb b) (hb : Below W.heap.size W W') : SA w W' c vb b :=
  ⟨h.1.below hb, h.2.trans (hb.mono h.2.size)⟩
theorem SA.drew {w W : World} {c : Cmd} {vb : Value} {b : List UInt8} (h : SA w W c vb b) : SA w W.drew c vb b := h.below (Below.refl _ _).drew
theorem SA.cells {w W : World} {k n : Int} {word : List UInt8} {vb : Value} {b : List UInt8} (h : SA w W ⟨k, word, n⟩ vb b) : W.cell? ⟨w.heap.size, 0, none⟩ = some (.int .i64 k) ∧ W.cell? ⟨w.heap.size, 1, none⟩ = some (.string ⟨word.toArray⟩) ∧ W.cell? ⟨w.heap.size, 2, none⟩ = some (.int .i64 n) := eachat_cells (w' := w) h.1
theorem sa_any {F : FuncId} {args : Array Value} {w W : World} {k n : Int} {word : List UInt8} {vb : Value} {b : List UInt8} {v : Value} (h : SA w W ⟨k, word, n⟩ vb b) (hC : Calls Tryz.prog F args W fun e w' => e = .returned v ∧ Below W.heap.size W w') :
    Calls Tryz.prog F args W fun e w' => e = .returned v ∧ Hid (SA w w' ⟨k, word, n⟩ vb b) ∧ w'.cell? ⟨w.heap.size, 0, none⟩ = some (.int .i64 k) ∧ w'.cell? ⟨w.heap.size, 1, none⟩ = some (.string ⟨word.toArray⟩) ∧ w'.cell? ⟨w.heap.size, 2, none⟩ = some (.int .i64 n) := by
  refine hC.mono ?_
  rintro e w' ⟨rfl, hb⟩
  have h1 := h.below hb
  exact ⟨rfl, h1, h1.cells⟩
theorem same_below {F : FuncId} {args : Array Value} {W : World} {v : Value} (h : Calls Tryz.prog F args W fun e w' => e = .returned v ∧ w' = W) : Calls Tryz.prog F args W fun e w' => e = .returned v ∧ Below W.heap.size W w' := by
  refine h.mono ?_
  rintro e w' ⟨rfl, rfl⟩
  exact ⟨rfl, Below.refl _ _⟩

set_option maxRecDepth 100000 in
set_option maxHeartbeats 8000000 in
theorem says_first (k n : Int) (word s : List UInt8) (ob : Option Addr) (cb : Nat) (b : List UInt8) (w : World) (hkw : (Lit.int .i64 k).wf = true) (hw : word.length ≤ 9223372036854775807) (hs : s.length ≤ 9223372036854775807) (h1 : Reads w (.slice ob b.length cb) b.length (b.map U)) (h3 : Known w) (h4 : w.ShapedOpen Tryz.prog)
    (rx : Value) (re : Int) (r : Int) (hr : chk ⟨k, word, n⟩ = r) (d e1 : Bool) (hd : isWord s = d) (he1 : isEach k = e1)
    (hdo : ∀ W, Reads W (.slice ob b.length cb) b.length (b.map U) → Known W → Calls Tryz.prog 10 #[.agg #[.int .i64 k, .string ⟨word.toArray⟩, .int .i64 n], .slice ob b.length cb] W fun e w' => e = .returned (.tuple #[rx, .int .i64 re]) ∧ Below W.heap.size W w')
    (hbad : r ≠ 0 ∨ 4000 < b.length) (hre : re = if r = 0 then 2 else r) (hrx : rx = .slice none 0 0) (hbl : b.length ≤ 1000000000000000) :
    Calls Tryz.prog 3 #[.agg #[.int .i64 k, .string ⟨word.toArray⟩, .int .i64 n], .slice ob b.length cb, .string ⟨s.toArray⟩] w fun e w' => e = .returned (.bool true) ∧ Below w.heap.size w w' := by
  have S0 : Hid (SA w _ ⟨k, word, n⟩ (.slice ob b.length cb) b) := ⟨each_start (c := ⟨k, word, n⟩) h1 h1 h3 h4, box_of⟩
  have hC : ∀ W, Calls Tryz.prog 13 #[.agg #[.int .i64 k, .string ⟨word.toArray⟩, .int .i64 n]] W fun e w' => e = .returned (.int .i64 r) ∧ Below W.heap.size W w' := fun W => by rw [← hr]; exact check_is ⟨k, word, n⟩ W hw
  have hCR : ∀ W, Calls Tryz.prog 11 #[.agg #[.int .i64 k, .string ⟨word.toArray⟩, .int .i64 n]] W fun e w' => e = .returned (.int .i64 r) ∧ Below W.heap.size W w' := fun W => by rw [← hr]; exact check_ref ⟨k, word, n⟩ W hkw hw
  have hE : ∀ W, Calls Tryz.prog 16 #[.agg #[.int .i64 k, .string ⟨word.toArray⟩, .int .i64 n]] W fun e w' => e = .returned (.bool e1) ∧ Below W.heap.size W w' := fun W => by rw [← he1]; exact each_is ⟨k, word, n⟩ W
  have hER : ∀ W, Calls Tryz.prog 17 #[.agg #[.int .i64 k, .string ⟨word.toArray⟩, .int .i64 n]] W fun e w' => e = .returned (.bool e1) ∧ Below W.heap.size W w' := fun W => by rw [← he1]; exact isEach_ref ⟨k, word, n⟩ W
  have hW : ∀ W, Calls Tryz.prog 14 #[.string ⟨s.toArray⟩] W fun e w' => e = .returned (.bool d) ∧ Below W.heap.size W w' := fun W => by rw [← hd]; exact same_below (word_is s W hs)
  have hWR : ∀ W, Calls Tryz.prog 15 #[.string ⟨s.toArray⟩] W fun e w' => e = .returned (.bool d) ∧ Below W.heap.size W w' := fun W => isWord_ref s W hs d hd
  have HDO : Hid _ := hdo
  have Hbad : Hid (r ≠ 0 ∨ 4000 < b.length) := hbad
  have Hre : Hid (re = if r = 0 then 2 else r) := hre
  clear h1 h3 h4 hr hd he1 hw hs hkw hdo hbad hre
  generalize (⟨s.toArray⟩ : ByteArray) = ss at *
  go_enter Tryz.func3, Tryz.ntmps3
  go_wp2_with fail
  refine (sa_any S0.out (HDO.out _ S0.out.1.2.2.2.1 S0.out.1.known)).mono ?_
  rintro e w1 ⟨rfl, S1, x0, x1, x2⟩
  clear S0 HDO
  go_wp2_with fail
  refine (sa_any S1.out (hCR _)).mono ?_
  rintro e w2 ⟨rfl, S2, y0, y1, y2⟩
  clear S1 hCR x0 x1 x2
  go_upto_region 3 with fail
  go_cut [39] (fun z wx => z = .bool false ∧ Hid (SA w wx ⟨k, word, n⟩ (.slice ob b.length cb) b))
  case first =>
    have S3 : Hid (SA w w2.drew ⟨k, word, n⟩ (.slice ob b.length cb) b) := S2.out.drew
    clear S2 Hbad Hre
    go_region_with (first
      | (go_at_call 12; refine (sa_any S3.out (did_true _ S3.out.1.known)).mono ?_; rintro e w4 ⟨rfl, S4, p0, p1, p2⟩)
      | (go_at_call 13; refine (sa_any S4.out (hC _)).mono ?_; rintro e w5 ⟨rfl, S5, q0, q1, q2⟩)
      | (go_at_call 14; refine (sa_any S5.out (hW _)).mono ?_; rintro e w6 ⟨rfl, S6, r0, r1, r2⟩)
      | (go_at_call 15; refine (sa_any S6.out (hWR _)).mono ?_; rintro e w7 ⟨rfl, S7, s0, s1, s2⟩)
      | (go_at_call 16; refine (sa_any S7.out (hE _)).mono ?_; rintro e w8 ⟨rfl, S8, t0, t1, t2⟩)
      | (go_at_call 17; refine (sa_any S8.out (hER _)).mono ?_; rintro e w9 ⟨rfl, S9, u0, u1, u2⟩))
    all_goals (go_wp2_with fail; go_meet; exact ⟨by simp, S9⟩)
  case rest =>
    obtain ⟨rfl, S9⟩ := hcut
    clear S2 y0 y1 y2 hC hE hER hW hWR
    subst hrx
    by_cases hr0 : r = 0
    · subst hr0
      have hbl2 : 4000 < b.length := by rcases Hbad.out with h | h; exact absurd rfl h; exact h
      have hre2 : re = 2 := Hre.out
      subst hre2
      go_wp2_with fail
      go_ret
      exact ⟨rfl, S9.out.2⟩
    · have hre2 : re = r := by rw [Hre.out, if_neg hr0]
      subst hre2
      go_wp2_with fail
      go_ret
      exact ⟨rfl, S9.out.2⟩
end Go.Proofs.YtkifihcficobnaaGreatDoor
