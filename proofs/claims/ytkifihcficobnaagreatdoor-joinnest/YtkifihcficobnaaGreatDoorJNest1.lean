/- The sentence on joins within joins: what its closure does. -/
import Derived.Test.YtkifihcficobnaaGreatDoorSpliced
import Derived.Test.YtkifihcficobnaaGreatDoorSmallL
import Derived.Test.YtkifihcficobnaaGreatDoorByteFns
namespace Go.Proofs.YtkifihcficobnaaGreatDoor
open Go.RowKit Go.Gs
set_option linter.unusedVariables false

/-- What the walk stands on: how and the command in their boxes, three parts. -/
def NA (w W : World) (how : Int) (c : Cmd) (va vb vd : Value) (a b d : List UInt8) : Prop :=
  (W.cell? ⟨w.heap.size, 0, none⟩ = some (.int .i64 how) ∧ W.cell? ⟨w.heap.size + 1, 0, none⟩ = some (.int .i64 c.kind) ∧ W.cell? ⟨w.heap.size + 1, 1, none⟩ = some (.string ⟨c.word.toArray⟩) ∧ W.cell? ⟨w.heap.size + 1, 2, none⟩ = some (.int .i64 c.n)) ∧
  Reads W va a.length (a.map U) ∧ Reads W vb b.length (b.map U) ∧ Reads W vd d.length (d.map U) ∧ KnownE W ∧ Below w.heap.size w W
theorem NA.below {w W W' : World} {how : Int} {c : Cmd} {va vb vd : Value} {a b d : List UInt8} (h : NA w W how c va vb vd a b d) (hb : Below W.heap.size W W') : NA w W' how c va vb vd a b d := by
  obtain ⟨⟨h0, h1, h2, h3⟩, h4, h5, h6, h7, h8⟩ := h
  have hl0 := World.block_lt_of_cell? W _ h0
  have hl1 := World.block_lt_of_cell? W _ h1
  exact ⟨⟨(hb.cell hl0).trans h0, (hb.cell (p := ⟨w.heap.size + 1, 0, none⟩) hl1).trans h1, (hb.cell (p := ⟨w.heap.size + 1, 1, none⟩) hl1).trans h2, (hb.cell (p := ⟨w.heap.size + 1, 2, none⟩) hl1).trans h3⟩, h4.below hb, h5.below hb, h6.below hb, h7.below hb, h8.trans (hb.mono h8.size)⟩
theorem NA.parts {w W : World} {how : Int} {c : Cmd} {va vb vd va' vb' vd' : Value} {a b d a' b' d' : List UInt8} (h : NA w W how c va vb vd a b d) (h1 : Reads W va' a'.length (a'.map U)) (h2 : Reads W vb' b'.length (b'.map U)) (h3 : Reads W vd' d'.length (d'.map U)) : NA w W how c va' vb' vd' a' b' d' :=
  ⟨h.1, h1, h2, h3, h.2.2.2.2⟩
theorem below_two' {w : World} {o p : Obj} : Below w.heap.size w ((w.alloc o).alloc p) := ((Below.refl _ w).alloc (Nat.le_refl _) o).alloc (by simp) p
theorem NA.start {w : World} {how : Int} {c : Cmd} {va vb vd : Value} {a b d : List UInt8} {t t' : TypeId} (h1 : Reads w va a.length (a.map U)) (h2 : Reads w vb b.length (b.map U)) (h3 : Reads w vd d.length (d.map U)) (hE : KnownE w) :
    NA w ((w.alloc (.cells #[.int .i64 how] t)).alloc (.cells #[.int .i64 c.kind, .string ⟨c.word.toArray⟩, .int .i64 c.n] t')) how c va vb vd a b d := by
  have hb : Below w.heap.size w ((w.alloc (.cells #[.int .i64 how] t)).alloc (.cells #[.int .i64 c.kind, .string ⟨c.word.toArray⟩, .int .i64 c.n] t')) := below_two'
  refine ⟨⟨?_, ?_, ?_, ?_⟩, h1.below hb, h2.below hb, h3.below hb, hE.below hb, hb⟩
  · exact Lib.cell?_alloc_some _ (by rw [cell_of_row _ _ _ _ _ _ (heap_alloc_new w _)]; rfl)
  all_goals
    have hs : (w.alloc (.cells #[.int .i64 how] t)).heap.size = w.heap.size + 1 := by simp
    rw [← hs, cell_of_row _ _ _ _ _ _ (heap_alloc_new _ _)]
    rfl

set_option maxRecDepth 100000 in
set_option maxHeartbeats 4000000 in
theorem nest_do (how : Int) (c : Cmd) (hj : jchk how c = 0) (hw : c.word.length ≤ 9223372036854775807) (B0 B1 : Nat) (v : Value) (bss : List (List UInt8)) (W : World) (h0 : W.cell? ⟨B0, 0, none⟩ = some (.int .i64 how)) (h1 : W.cell? ⟨B1, 0, none⟩ = some (.int .i64 c.kind)) (h2 : W.cell? ⟨B1, 1, none⟩ = some (.string ⟨c.word.toArray⟩)) (h3 : W.cell? ⟨B1, 2, none⟩ = some (.int .i64 c.n))
    (hp : RList W v U bss) (hn : bss.length ≤ 5) (hT : bss.flatten.length ≤ 4000) (hE : KnownE W) :
    Calls Tryz.prog 38 #[v, .pointer (some ⟨B0, 0, none⟩), .pointer (some ⟨B1, 0, none⟩)] W fun e w' => ∃ r, e = .returned r ∧ Reads w' r (jOut how c bss).length ((jOut how c bss).map U) ∧ Below W.heap.size W w' := by
  have hdo := jdo_ok how c v bss W hw hj hp hn hT hE
  obtain ⟨ao, cap, rfl, _⟩ := hp.shape
  generalize jOut how c bss = D at *
  obtain ⟨k, word, n⟩ := c
  unfold Cmd.v at hdo
  simp only at hdo h1 h2 h3
  clear hp hn hT hE hj hw
  generalize (⟨word.toArray⟩ : ByteArray) = sx at *
  generalize bss.length = N at *
  go_enter Tryz.func38, Tryz.ntmps38
  go_wp2_with fail
  refine hdo.mono ?_
  rintro e w1 ⟨r, rfl, hown, hb⟩
  have HR : Hid (Reads w1 r D.length (D.map U)) := Reads.of_owns hown
  have HB : Hid (Below W.heap.size W w1) := hb
  clear hown hb hdo
  go_wp2_with fail
  go_ret
  exact ⟨_, rfl, HR.out, HB.out⟩

/-- Two parts, three parts. -/
theorem nest_do2 {w W : World} {how : Int} {c : Cmd} {va vb vd x y : Value} {a b d p q : List UInt8} (h : NA w W how c va vb vd a b d) (hj : jchk how c = 0) (hw : c.word.length ≤ 9223372036854775807) (hx : Reads W x p.length (p.map U)) (hy : Reads W y q.length (q.map U)) (hT : p.length + q.length ≤ 4000) :
    Calls Tryz.prog 38 #[.slice (some ⟨W.heap.size, 0, none⟩) 2 2, .pointer (some ⟨w.heap.size, 0, none⟩), .pointer (some ⟨w.heap.size + 1, 0, none⟩)] (W.alloc (.cells #[x, y] 24)) fun e w' => ∃ o N cp, e = .returned (.slice o N cp) ∧ Hid (Reads w' (.slice o N cp) (jOut how c [p, q]).length ((jOut how c [p, q]).map U)) ∧ Hid (NA w w' how c va vb vd a b d) ∧ Hid (Below W.heap.size W w') := by
  have hb : Below W.heap.size W (W.alloc (.cells #[x, y] 24)) := box_of
  obtain ⟨⟨c0, c1, c2, c3⟩, _, _, _, hE, _⟩ := h.below hb
  have hp : RList (W.alloc (.cells #[x, y] 24)) (.slice (some ⟨W.heap.size, 0, none⟩) 2 2) U [p, q] := rlist_new [p, q] rfl rfl (by omega) (fun j r hj => by
    match j, hj with
    | 0, hj => simp at hj; subst hj; exact ⟨_, rfl, hx⟩
    | 1, hj => simp at hj; subst hj; exact ⟨_, rfl, hy⟩
    | j + 2, hj => simp at hj)
  refine (nest_do how c hj hw _ _ _ [p, q] _ c0 c1 c2 c3 hp (by simp) (by simpa using hT) hE).mono ?_
  rintro e w' ⟨r, rfl, h1, h2⟩
  obtain ⟨_, o, cp, rfl, _⟩ := id h1
  have hB := hb.trans (h2.mono (by simp))
  exact ⟨o, _, cp, rfl, h1, h.below hB, hB⟩
theorem nest_do3 {w W : World} {how : Int} {c : Cmd} {va vb vd x y z : Value} {a b d p q s : List UInt8} (h : NA w W how c va vb vd a b d) (hj : jchk how c = 0) (hw : c.word.length ≤ 9223372036854775807) (hx : Reads W x p.length (p.map U)) (hy : Reads W y q.length (q.map U)) (hz : Reads W z s.length (s.map U)) (hT : p.length + q.length + s.length ≤ 4000) :
    Calls Tryz.prog 38 #[.slice (some ⟨W.heap.size, 0, none⟩) 3 3, .pointer (some ⟨w.heap.size, 0, none⟩), .pointer (some ⟨w.heap.size + 1, 0, none⟩)] (W.alloc (.cells #[x, y, z] 24)) fun e w' => ∃ o N cp, e = .returned (.slice o N cp) ∧ Hid (Reads w' (.slice o N cp) (jOut how c [p, q, s]).length ((jOut how c [p, q, s]).map U)) ∧ Hid (NA w w' how c va vb vd a b d) ∧ Hid (Below W.heap.size W w') := by
  have hb : Below W.heap.size W (W.alloc (.cells #[x, y, z] 24)) := box_of
  obtain ⟨⟨c0, c1, c2, c3⟩, _, _, _, hE, _⟩ := h.below hb
  have hp : RList (W.alloc (.cells #[x, y, z] 24)) (.slice (some ⟨W.heap.size, 0, none⟩) 3 3) U [p, q, s] := rlist_new [p, q, s] rfl rfl (by omega) (fun j r hj => by
    match j, hj with
    | 0, hj => simp at hj; subst hj; exact ⟨_, rfl, hx⟩
    | 1, hj => simp at hj; subst hj; exact ⟨_, rfl, hy⟩
    | 2, hj => simp at hj; subst hj; exact ⟨_, rfl, hz⟩
    | j + 3, hj => simp at hj)
  refine (nest_do how c hj hw _ _ _ [p, q, s] _ c0 c1 c2 c3 hp (by simp) (by simp; omega) hE).mono ?_
  rintro e w' ⟨r, rfl, h1, h2⟩
  obtain ⟨_, o, cp, rfl, _⟩ := id h1
  have hB := hb.trans (h2.mono (by simp))
  exact ⟨o, _, cp, rfl, h1, h.below hB, hB⟩
theorem nest_small {w W : World} {how : Int} {c : Cmd} {va vb vd : Value} {a b d : List UInt8} (h : NA w W how c va vb vd a b d) (ha : a.length ≤ 1000000000000000) (hb' : b.length ≤ 1000000000000000) (hd : d.length ≤ 1000000000000000) :
    Calls Tryz.prog 22 #[.slice (some ⟨W.heap.size, 0, none⟩) 3 3] (W.alloc (.cells #[va, vb, vd] 24)) fun e w' => e = .returned (.bool (decide (a.length + b.length + d.length ≤ 2000))) ∧ Below W.heap.size W w' := by
  have hb : Below W.heap.size W (W.alloc (.cells #[va, vb, vd] 24)) := box_of
  obtain ⟨_, hx, hy, hz, _, _⟩ := h
  have hp : RList (W.alloc (.cells #[va, vb, vd] 24)) (.slice (some ⟨W.heap.size, 0, none⟩) 3 3) U [a, b, d] := rlist_new [a, b, d] rfl rfl (by omega) (fun j r hj => by
    match j, hj with
    | 0, hj => simp at hj; subst hj; exact ⟨_, rfl, hx⟩
    | 1, hj => simp at hj; subst hj; exact ⟨_, rfl, hy⟩
    | 2, hj => simp at hj; subst hj; exact ⟨_, rfl, hz⟩
    | j + 3, hj => simp at hj)
  have hs := small_list _ [a, b, d] _ hp (by simp) (by intro p hp; simp at hp; rcases hp with rfl | rfl | rfl <;> assumption)
  refine hs.mono ?_
  rintro e w' ⟨rfl, rfl⟩
  refine ⟨?_, hb⟩
  have : [a, b, d].flatten.length = a.length + b.length + d.length := by simp; omega
  rw [this]
end Go.Proofs.YtkifihcficobnaaGreatDoor
