/- The walk of the sentence on Each. -/
import Derived.Test.YtkifihcficobnaaGreatDoorDid
import Derived.Test.YtkifihcficobnaaGreatDoorSmall
import Derived.Test.YtkifihcficobnaaGreatDoorFnsE
import Derived.Test.YtkifihcficobnaaGreatDoorConcatB
import Derived.Test.YtkifihcficobnaaGreatDoorDevIsEach
import Derived.Test.YtkifihcficobnaaGreatDoorByteFns
import Derived.Deep.RegionWith
namespace Go.Proofs.YtkifihcficobnaaGreatDoor
open Go.RowKit Go.Gs
set_option linter.unusedVariables false

theorem lists_two {α : Type} {w w' : World} {G : Nat} {f : α → Value} {a b : List α} {u v : Value} (h1 : w.cell? ⟨G, 0, none⟩ = some u) (h2 : w.cell? ⟨G, 1, none⟩ = some v) (r1 : Reads w u a.length (a.map f)) (r2 : Reads w v b.length (b.map f)) : Lists w G f [a, b] := by
  intro j p hj
  match j, hj with
  | 0, hj => cases hj; exact ⟨u, h1, r1⟩
  | 1, hj => cases hj; exact ⟨v, h2, r2⟩

theorem new_two {α : Type} {w : World} {f : α → Value} {a b : List α} {u v : Value} {t : TypeId} (r1 : Reads w u a.length (a.map f)) (r2 : Reads w v b.length (b.map f)) : Lists (w.alloc (.cells #[u, v] t)) w.heap.size f [a, b] := by
  have hb : Below w.heap.size w (w.alloc (.cells #[u, v] t)) := box_of
  refine lists_two (w' := w) ?_ ?_ (r1.below hb) (r2.below hb)
  all_goals
    rw [cell_of_row _ _ _ _ _ _ (heap_alloc_new w _)]
    rfl

/-- What the walk stands on. -/
def EachAt (w : World) (bx : Nat) (c : Cmd) (va vb : Value) (a b : List UInt8) : Prop :=
  w.cell? ⟨bx, 0, none⟩ = some (.int .i64 c.kind) ∧ w.cell? ⟨bx, 1, none⟩ = some (.string ⟨c.word.toArray⟩) ∧ w.cell? ⟨bx, 2, none⟩ = some (.int .i64 c.n) ∧ Reads w va a.length (a.map U) ∧ Reads w vb b.length (b.map U) ∧ Known w ∧ w.ShapedOpen Tryz.prog
theorem EachAt.below {w w' : World} {bx : Nat} {c : Cmd} {va vb : Value} {a b : List UInt8} (h : EachAt w bx c va vb a b) (hb : Below w.heap.size w w') : EachAt w' bx c va vb a b := by
  obtain ⟨h0, h1, h2, h3, h4, h5, h6⟩ := h
  have hl := World.block_lt_of_cell? w _ h0
  exact ⟨(hb.cell hl).trans h0, (hb.cell (p := ⟨bx, 1, none⟩) hl).trans h1, (hb.cell (p := ⟨bx, 2, none⟩) hl).trans h2, h3.below hb, h4.below hb, h5.below hb, sh_below h6 hb⟩
theorem each_start {w : World} {c : Cmd} {va vb : Value} {a b : List UInt8} (h1 : Reads w va a.length (a.map U)) (h2 : Reads w vb b.length (b.map U)) (h3 : Known w) (h4 : w.ShapedOpen Tryz.prog) :
    EachAt (w.alloc (.cells #[.int .i64 c.kind, .string ⟨c.word.toArray⟩, .int .i64 c.n] 23)) w.heap.size c va vb a b := by
  have hb : Below w.heap.size w (w.alloc (.cells #[.int .i64 c.kind, .string ⟨c.word.toArray⟩, .int .i64 c.n] 23)) := box_of
  refine ⟨?_, ?_, ?_, h1.below hb, h2.below hb, h3.below hb, sh_below h4 hb⟩
  all_goals
    rw [cell_of_row _ _ _ _ _ _ (heap_alloc_new w _)]
    rfl

theorem eachat_cells {w w' : World} {bx : Nat} {k n : Int} {word : List UInt8} {va vb : Value} {a b : List UInt8} (h : EachAt w bx ⟨k, word, n⟩ va vb a b) : w.cell? ⟨bx, 0, none⟩ = some (.int .i64 k) ∧ w.cell? ⟨bx, 1, none⟩ = some (.string ⟨word.toArray⟩) ∧ w.cell? ⟨bx, 2, none⟩ = some (.int .i64 n) := ⟨h.1, h.2.1, h.2.2.1⟩
theorem EachAt.known {w : World} {bx : Nat} {c : Cmd} {va vb : Value} {a b : List UInt8} (h : EachAt w bx c va vb a b) : Known w := h.2.2.2.2.2.1

set_option maxRecDepth 100000 in
set_option maxHeartbeats 8000000 in
theorem each_not (k n : Int) (word : List UInt8) (oa ob : Option Addr) (ca cb : Nat) (a b : List UInt8) (w : World) (h1 : Reads w (.slice oa a.length ca) a.length (a.map U)) (h2 : Reads w (.slice ob b.length cb) b.length (b.map U)) (h3 : Known w) (h4 : w.ShapedOpen Tryz.prog) (hno : isEach k = false) :
    Calls Tryz.prog 4 #[.agg #[.int .i64 k, .string ⟨word.toArray⟩, .int .i64 n], (.slice oa a.length ca), (.slice ob b.length cb)] w fun e w' => e = .returned (.bool true) ∧ Below w.heap.size w w' := by
  have E0 : Hid (EachAt _ _ _ _ _ _ _) := each_start (c := ⟨k, word, n⟩) h1 h2 h3 h4
  have hE : ∀ W, Calls Tryz.prog 16 #[.agg #[.int .i64 k, .string ⟨word.toArray⟩, .int .i64 n]] W fun e w' => e = .returned (.bool false) ∧ Below W.heap.size W w' := fun W => by rw [← hno]; exact each_is ⟨k, word, n⟩ W
  clear h1 h2 h3 h4 hno
  go_enter Tryz.func4, Tryz.ntmps4
  go_wp2_with fail
  refine (did_true _ E0.out.known).mono ?_
  rintro e w1 ⟨rfl, hb1⟩
  have E1 : Hid (EachAt w1 w.heap.size ⟨k, word, n⟩ (.slice oa a.length ca) (.slice ob b.length cb) a b) := E0.out.below hb1
  have HB1 : Hid (Below w.heap.size w w1) := box_of.trans (hb1.mono (by simp))
  obtain ⟨x0, x1, x2⟩ := eachat_cells (w' := w) E1.out
  clear hb1 E0
  go_wp2_with fail
  refine (hE _).mono ?_
  rintro e w2 ⟨rfl, hb2⟩
  have E2 : Hid (EachAt w2 w.heap.size ⟨k, word, n⟩ (.slice oa a.length ca) (.slice ob b.length cb) a b) := E1.out.below hb2
  have HB2 : Hid (Below w.heap.size w w2) := HB1.out.trans (hb2.mono HB1.out.size)
  clear hb2 x0 x1 x2 hE E1
  go_wp2_with fail
  refine (did_true _ E2.out.known).mono ?_
  rintro e w3 ⟨rfl, hb3⟩
  have HB3 : Hid (Below w.heap.size w w3) := HB2.out.trans (hb3.mono HB2.out.size)
  clear hb3
  go_wp2_with fail
  go_ret
  exact ⟨rfl, HB3.out⟩

theorem small_two {w : World} {bx : Nat} {c : Cmd} {va vb : Value} {a b : List UInt8} (h : EachAt w bx c va vb a b) (ha : a.length ≤ 1000000000000000) (hb : b.length ≤ 1000000000000000) :
    Calls Tryz.prog 22 #[.slice (some ⟨w.heap.size, 0, none⟩) 2 2] (w.alloc (.cells #[va, vb] 24)) fun e w' => e = .returned (.bool (decide (a.length + b.length ≤ 2000))) ∧ Below w.heap.size w w' := by
  have hs := small_is w.heap.size [a, b] (w.alloc (.cells #[va, vb] 24)) (new_two h.2.2.2.1 h.2.2.2.2.1) (by simp) (by
    intro p hp
    simp only [List.mem_cons, List.not_mem_nil, or_false] at hp
    rcases hp with rfl | rfl
    · exact ha
    · exact hb)
  refine hs.mono ?_
  rintro e w' ⟨rfl, rfl⟩
  exact ⟨by simp, box_of⟩

theorem do_lay (c : Cmd) (hw : c.word.length ≤ 9223372036854775807) (hc : chk c = 0) : ∀ (v : Value) (bs : List UInt8) (W : World), Reads W v bs.length (bs.map U) → bs.length ≤ 4000 → Known W →
    Calls Tryz.prog 10 #[.agg #[.int .i64 c.kind, .string ⟨c.word.toArray⟩, .int .i64 c.n], v] W fun e w' => ∃ o cp, e = .returned (.tuple #[.slice o (doOut c bs).length cp, .int .i64 0]) ∧ Reads w' (.slice o (doOut c bs).length cp) (doOut c bs).length ((doOut c bs).map U) ∧ Below W.heap.size W w' := by
  intro v bs W hr hn hK
  refine (do_ok c v bs W hw hc hr hn hK).mono ?_
  rintro e w' ⟨r, rfl, h1, h2⟩
  have h3 := Reads.of_owns h1
  obtain ⟨_, o, cp, rfl, _⟩ := id h3
  exact ⟨o, cp, rfl, h3, h2⟩

set_option maxRecDepth 100000 in
set_option maxHeartbeats 8000000 in
theorem each_bad (k n : Int) (word : List UInt8) (oa ob : Option Addr) (ca cb : Nat) (a b : List UInt8) (w : World) (hw : word.length ≤ 9223372036854775807) (h1 : Reads w (.slice oa a.length ca) a.length (a.map U)) (h2 : Reads w (.slice ob b.length cb) b.length (b.map U)) (h3 : Known w) (h4 : w.ShapedOpen Tryz.prog) (hyes : isEach k = true) (r : Int) (hr : chk ⟨k, word, n⟩ = r) (hr0 : r ≠ 0) :
    Calls Tryz.prog 4 #[.agg #[.int .i64 k, .string ⟨word.toArray⟩, .int .i64 n], (.slice oa a.length ca), (.slice ob b.length cb)] w fun e w' => e = .returned (.bool true) ∧ Below w.heap.size w w' := by
  have E0 : Hid (EachAt _ _ _ _ _ _ _) := each_start (c := ⟨k, word, n⟩) h1 h2 h3 h4
  have hE : ∀ W, Calls Tryz.prog 16 #[.agg #[.int .i64 k, .string ⟨word.toArray⟩, .int .i64 n]] W fun e w' => e = .returned (.bool true) ∧ Below W.heap.size W w' := fun W => by rw [← hyes]; exact each_is ⟨k, word, n⟩ W
  have hC : ∀ W, Calls Tryz.prog 13 #[.agg #[.int .i64 k, .string ⟨word.toArray⟩, .int .i64 n]] W fun e w' => e = .returned (.int .i64 r) ∧ Below W.heap.size W w' := fun W => by rw [← hr]; exact check_is ⟨k, word, n⟩ W hw
  clear h1 h2 h3 h4 hyes hr hw
  go_enter Tryz.func4, Tryz.ntmps4
  go_wp2_with fail
  refine (did_true _ E0.out.known).mono ?_
  rintro e w1 ⟨rfl, hb1⟩
  have E1 : Hid (EachAt w1 w.heap.size ⟨k, word, n⟩ (.slice oa a.length ca) (.slice ob b.length cb) a b) := E0.out.below hb1
  have HB1 : Hid (Below w.heap.size w w1) := box_of.trans (hb1.mono (by simp))
  obtain ⟨x0, x1, x2⟩ := eachat_cells (w' := w) E1.out
  clear hb1 E0
  go_wp2_with fail
  refine (hE _).mono ?_
  rintro e w2 ⟨rfl, hb2⟩
  have E2 : Hid (EachAt w2 w.heap.size ⟨k, word, n⟩ (.slice oa a.length ca) (.slice ob b.length cb) a b) := E1.out.below hb2
  have HB2 : Hid (Below w.heap.size w w2) := HB1.out.trans (hb2.mono HB1.out.size)
  clear hb2 x0 x1 x2 hE E1
  obtain ⟨x0, x1, x2⟩ := eachat_cells (w' := w) E2.out
  go_wp2_with fail
  refine (hC _).mono ?_
  rintro e w3 ⟨rfl, hb3⟩
  have E3 : Hid (EachAt w3 w.heap.size ⟨k, word, n⟩ (.slice oa a.length ca) (.slice ob b.length cb) a b) := E2.out.below hb3
  have HB3 : Hid (Below w.heap.size w w3) := HB2.out.trans (hb3.mono HB2.out.size)
  clear hb3 x0 x1 x2 hC E2
  go_wp2_with fail
  refine (did_true _ E3.out.known).mono ?_
  rintro e w4 ⟨rfl, hb4⟩
  have HB4 : Hid (Below w.heap.size w w4) := HB3.out.trans (hb4.mono HB3.out.size)
  clear hb4
  go_wp2_with fail
  go_ret
  exact ⟨rfl, HB4.out⟩
set_option maxRecDepth 100000 in
set_option maxHeartbeats 8000000 in
theorem each_big (k n : Int) (word : List UInt8) (oa ob : Option Addr) (ca cb : Nat) (a b : List UInt8) (w : World) (hw : word.length ≤ 9223372036854775807) (h1 : Reads w (.slice oa a.length ca) a.length (a.map U)) (h2 : Reads w (.slice ob b.length cb) b.length (b.map U)) (h3 : Known w) (h4 : w.ShapedOpen Tryz.prog) (hyes : isEach k = true) (hr : chk ⟨k, word, n⟩ = 0) (ha : a.length ≤ 1000000000000000) (hb : b.length ≤ 1000000000000000) (hbig : 2000 < a.length + b.length) :
    Calls Tryz.prog 4 #[.agg #[.int .i64 k, .string ⟨word.toArray⟩, .int .i64 n], (.slice oa a.length ca), (.slice ob b.length cb)] w fun e w' => e = .returned (.bool true) ∧ Below w.heap.size w w' := by
  have E0 : Hid (EachAt _ _ _ _ _ _ _) := each_start (c := ⟨k, word, n⟩) h1 h2 h3 h4
  have hE : ∀ W, Calls Tryz.prog 16 #[.agg #[.int .i64 k, .string ⟨word.toArray⟩, .int .i64 n]] W fun e w' => e = .returned (.bool true) ∧ Below W.heap.size W w' := fun W => by rw [← hyes]; exact each_is ⟨k, word, n⟩ W
  have hC : ∀ W, Calls Tryz.prog 13 #[.agg #[.int .i64 k, .string ⟨word.toArray⟩, .int .i64 n]] W fun e w' => e = .returned (.int .i64 0) ∧ Below W.heap.size W w' := fun W => by rw [← hr]; exact check_is ⟨k, word, n⟩ W hw
  clear h1 h2 h3 h4 hyes hr hw
  go_enter Tryz.func4, Tryz.ntmps4
  go_wp2_with fail
  refine (did_true _ E0.out.known).mono ?_
  rintro e w1 ⟨rfl, hb1⟩
  have E1 : Hid (EachAt w1 w.heap.size ⟨k, word, n⟩ (.slice oa a.length ca) (.slice ob b.length cb) a b) := E0.out.below hb1
  have HB1 : Hid (Below w.heap.size w w1) := box_of.trans (hb1.mono (by simp))
  obtain ⟨x0, x1, x2⟩ := eachat_cells (w' := w) E1.out
  clear hb1 E0
  go_wp2_with fail
  refine (hE _).mono ?_
  rintro e w2 ⟨rfl, hb2⟩
  have E2 : Hid (EachAt w2 w.heap.size ⟨k, word, n⟩ (.slice oa a.length ca) (.slice ob b.length cb) a b) := E1.out.below hb2
  have HB2 : Hid (Below w.heap.size w w2) := HB1.out.trans (hb2.mono HB1.out.size)
  clear hb2 x0 x1 x2 hE E1
  obtain ⟨x0, x1, x2⟩ := eachat_cells (w' := w) E2.out
  go_wp2_with fail
  refine (hC _).mono ?_
  rintro e w3 ⟨rfl, hb3⟩
  have E3 : Hid (EachAt w3 w.heap.size ⟨k, word, n⟩ (.slice oa a.length ca) (.slice ob b.length cb) a b) := E2.out.below hb3
  have HB3 : Hid (Below w.heap.size w w3) := HB2.out.trans (hb3.mono HB2.out.size)
  clear hb3 x0 x1 x2 hC E2
  go_wp2_with fail
  refine (small_two E3.out ha hb).mono ?_
  rintro e w4 ⟨rfl, hb4⟩
  have E4 : Hid (EachAt w4 w.heap.size ⟨k, word, n⟩ (.slice oa a.length ca) (.slice ob b.length cb) a b) := E3.out.below hb4
  have HB4 : Hid (Below w.heap.size w w4) := HB3.out.trans (hb4.mono HB3.out.size)
  have hd : decide (a.length + b.length ≤ 2000) = false := decide_eq_false (by omega)
  rw [hd]
  clear hb4 hd E3
  go_wp2_with fail
  refine (did_true _ E4.out.known).mono ?_
  rintro e w5 ⟨rfl, hb5⟩
  have HB5 : Hid (Below w.heap.size w w5) := HB4.out.trans (hb5.mono HB4.out.size)
  clear hb5
  go_wp2_with fail
  go_ret
  exact ⟨rfl, HB5.out⟩
/-- What is known in the last region. -/
def Last (w6 w7 : World) (bx : Nat) (c : Cmd) (va vb : Value) (a b : List UInt8) : Prop := EachAt w7 bx c va vb a b ∧ Below w6.heap.size w6 w7
theorem last_whole {w6 : World} {bx : Nat} {c : Cmd} {va vb : Value} {a b : List UInt8} (h : EachAt w6 bx c va vb a b) (ha : a.length ≤ 2000) :
    Calls Tryz.prog 24 #[va] w6.drew fun e w' => ∃ o cp, e = .returned (.slice o (ended (lines a)).length cp) ∧ Hid (Last w6 w' bx c va vb a b) ∧ Hid (Reads w' (.slice o (ended (lines a)).length cp) (ended (lines a)).length ((ended (lines a)).map U)) ∧ (w'.cell? ⟨bx, 0, none⟩ = some (.int .i64 c.kind) ∧ w'.cell? ⟨bx, 1, none⟩ = some (.string ⟨c.word.toArray⟩) ∧ w'.cell? ⟨bx, 2, none⟩ = some (.int .i64 c.n)) ∧ ((∀ q, (w'.alloc q).cell? ⟨bx, 0, none⟩ = some (.int .i64 c.kind)) ∧ (∀ q, (w'.alloc q).cell? ⟨bx, 1, none⟩ = some (.string ⟨c.word.toArray⟩)) ∧ (∀ q, (w'.alloc q).cell? ⟨bx, 2, none⟩ = some (.int .i64 c.n))) := by
  have hd : EachAt w6.drew bx c va vb a b := h.below (Below.refl _ _).drew
  refine (whole_is va a w6.drew hd.2.2.2.1 hd.2.2.2.2.2.2 (by omega)).mono ?_
  rintro e w' ⟨r, rfl, h1, h2⟩
  obtain ⟨_, o, cp, rfl, _⟩ := id h1
  have h3 := hd.below h2
  exact ⟨o, cp, rfl, ⟨h3, ⟨h2.os, h2.tape, h2.output, h2.size, h2.block⟩⟩, h1, ⟨h3.1, h3.2.1, h3.2.2.1⟩, fun q => Lib.cell?_alloc_some _ h3.1, fun q => Lib.cell?_alloc_some _ h3.2.1, fun q => Lib.cell?_alloc_some _ h3.2.2.1⟩
theorem last_concat {w6 w7 : World} {bx : Nat} {c : Cmd} {va : Value} {ob o : Option Addr} {cb cp n : Nat} {a b x : List UInt8} (h : Last w6 w7 bx c va (.slice ob b.length cb) a b) (hx : Reads w7 (.slice o n cp) x.length (x.map U)) (hxn : n = x.length) (hl : x.length + b.length ≤ 5000) :
    Calls Tryz.prog 23 #[.slice (some ⟨w7.heap.size, 0, none⟩) 2 2] (w7.alloc (.cells #[.slice o n cp, .slice ob b.length cb] 24)) fun e w' => ∃ o cp N, e = .returned (.slice o N cp) ∧ Hid (Last w6 w' bx c va (.slice ob b.length cb) a b) ∧ Hid (Reads w' (.slice o N cp) (x ++ b).length ((x ++ b).map U)) ∧ (w'.cell? ⟨bx, 0, none⟩ = some (.int .i64 c.kind) ∧ w'.cell? ⟨bx, 1, none⟩ = some (.string ⟨c.word.toArray⟩) ∧ w'.cell? ⟨bx, 2, none⟩ = some (.int .i64 c.n)) := by
  subst hxn
  have hC := concat_bytes w7.heap.size [x, b] (w7.alloc (.cells #[.slice o x.length cp, .slice ob b.length cb] 24)) (new_two hx h.1.2.2.2.2.1) (by simp) (by simp; omega)
  have e1 : [x, b].flatten = x ++ b := by simp
  rw [e1] at hC
  refine hC.mono ?_
  rintro e w' ⟨r, rfl, h1, h2⟩
  have h1' := Reads.of_owns h1
  obtain ⟨_, o2, cp2, rfl, _⟩ := id h1'
  have hb : Below w7.heap.size w7 w' := box_of.trans (h2.mono (by simp))
  have h3 := h.1.below hb
  exact ⟨o2, cp2, _, rfl, ⟨h3, h.2.trans (hb.mono h.2.size)⟩, h1', h3.1, h3.2.1, h3.2.2.1⟩

theorem last_do {c : Cmd} (hw : c.word.length ≤ 9223372036854775807) (hc : chk c = 0) {w6 w8 : World} {bx : Nat} {va vb : Value} {a b x : List UInt8} {o : Option Addr} {cp N : Nat} (h : Last w6 w8 bx c va vb a b) (hx : Reads w8 (.slice o N cp) x.length (x.map U)) (hl : x.length ≤ 4000) :
    Calls Tryz.prog 10 #[.agg #[.int .i64 c.kind, .string ⟨c.word.toArray⟩, .int .i64 c.n], .slice o N cp] w8 fun e w' => ∃ o cp N, e = .returned (.tuple #[.slice o N cp, .int .i64 0]) ∧ Hid (Reads w' (.slice o N cp) (doOut c x).length ((doOut c x).map U)) ∧ Hid (Below w6.heap.size w6 w') := by
  refine (do_lay c hw hc (.slice o N cp) x w8 hx hl h.1.known).mono ?_
  rintro e w' ⟨o', cp', rfl, h1, h2⟩
  exact ⟨o', cp', _, rfl, h1, h.2.trans (h2.mono h.2.size)⟩
end Go.Proofs.YtkifihcficobnaaGreatDoor
