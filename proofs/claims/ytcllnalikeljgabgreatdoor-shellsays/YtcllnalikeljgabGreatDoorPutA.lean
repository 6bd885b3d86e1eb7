/- sort.Slice at files, by name, as the reference's PutIn calls it. What the reference's PutIn stands on: the world's side. The sort that the reference's PutIn calls, in PutIn's words. -/
import Derived.Test.YtcllnalikeljgabGreatDoorRefShell2
import Derived.Shelf.GgSortFunc.SmallK
import Derived.Shelf.GgSortFunc.Tiny
import Derived.Test.YtcllnalikeljgabGreatDoorPlainA
import Derived.Laws.AppendOwn
import Derived.Deep.Slices
import Derived.Lib.OwnBridge
namespace Go.Proofs.YtcllnalikeljgabGreatDoor
open Go.RowKit Go.Gs Go.Shelf Go.Lib Go.Sort
set_option linter.unusedVariables false

def ltF (x y : FRow) : Bool := decide (x.1.name < y.1.name)
theorem swo_ltF : SWO ltF := ⟨fun x => decide_eq_false (List.lt_irrefl _), fun x y z h1 h2 => decide_eq_true (List.lt_trans (of_decide_eq_true h1) (of_decide_eq_true h2)), fun x y z h1 h2 => decide_eq_false (by
  have a := List.not_lt.1 (of_decide_eq_false h1)
  have b := List.not_lt.1 (of_decide_eq_false h2)
  exact List.not_lt.2 (List.le_trans b a))⟩

set_option maxRecDepth 100000 in
set_option maxHeartbeats 2000000 in
theorem lessF (blk off c Bs size : Nat) (W : World) (G : Nat → ByteArray) (hs : W.cell? ⟨Bs, 0, none⟩ = some (.slice (some ⟨blk, off, none⟩) size c))
    (hc : ∀ t, t < size → W.cell? ⟨blk, off + t * 2, none⟩ = some (.string (G t))) (i j : Nat) (hi : i < size) (hj : j < size) (_hsz : size < 4611686018427387904) :
    Calls Tryz.prog 55 #[.int .i64 i, .int .i64 j, .pointer (some ⟨Bs, 0, none⟩)] W fun e w' => e = .returned (.bool (Op.bytesLess (G i).toList (G j).toList)) ∧ ∃ q, w' = W.drewN q := by
  have ci := hc i hi
  have cj := hc j hj
  clear hc
  go_enter Tryz.func55, Tryz.ntmps55
  go_wp2_with fail
  go_quiet (fail)
  go_wp2_with fail
  go_ret
  exact ⟨rfl, nq, rfl⟩

theorem svTE : ∃ i ie : TypeInfo, Tryz.prog.info? 22 = some i ∧ i.desc = .slice 45 ∧ Tryz.prog.info? 45 = some ie ∧ ie.size = 2 ∧ ie.hasPointers = true ∧ ie.bytes = 40 := by
  have h1 : (Tryz.prog.info? 22).map (·.desc) = some (.slice 45) := by kernel_rfl
  have h2 : (Tryz.prog.info? 45).map (fun i => (i.size, i.hasPointers, i.bytes)) = some (2, true, 40) := by kernel_rfl
  obtain ⟨i, e1, e3⟩ := Option.map_eq_some_iff.1 h1
  obtain ⟨ie, e2, e4⟩ := Option.map_eq_some_iff.1 h2
  injection e4 with e5 e6
  injection e6 with e6 e7
  exact ⟨i, ie, e1, e3, e2, e5, e6, e7⟩
theorem svK (n : Nat) (ie : TypeInfo) (a : ie.hasPointers = true) (b : ie.bytes = 40) (h2 : 2 ≤ n) : Lib.swapperK n ie 25 = 9 := by
  have c : (n == 0) = false := by simp; omega
  have d : (n == 1) = false := by simp; omega
  simp [Lib.swapperK, a, b, c, d]

set_option maxRecDepth 100000 in
set_option maxHeartbeats 2000000 in
theorem sortF_is [Inhabited FRow] (blk off c Bs : Nat) (d : Array FRow) (h2 : 2 ≤ d.size) (h12 : d.size ≤ 12) (w : World) (hH : HoldsK encF 2 w blk off d) (hblk : blk < w.heap.size)
    (hBs : w.cell? ⟨Bs, 0, none⟩ = some (.slice (some ⟨blk, off, none⟩) d.size c)) (hB1 : Bs < w.heap.size) (hB2 : Bs ≠ blk) :
    Calls Tryz.prog 54 #[.iface 22 (.slice (some ⟨blk, off, none⟩) d.size c), .func (.func 55) #[] #[.pointer (some ⟨Bs, 0, none⟩)]] w fun e w' =>
      e = .returned (.tuple #[]) ∧ ∃ d' n os, PermIn 0 d.size d d' ∧ SortedIn ltF 0 d.size d' ∧ w' = grow (putRowK encF 2 (Sort.ahead w n) blk off d') os := by
  have hless : LessReadsK Tryz.prog 55 #[.pointer (some ⟨Bs, 0, none⟩)] encF 2 ltF blk off d.size w := by
    intro m os dk hs i j hi hj
    have e : sortWorldK encF 2 w blk off m dk os = putRowK encF 2 (grow (Sort.ahead w m) os) blk off dk := by
      unfold sortWorldK; rw [putRowK_grow _ _ (Sort.ahead w m) _ blk off _ hblk]
    have hHg : HoldsK encF 2 (grow (Sort.ahead w m) os) blk off d := holdsK_grow _ _ _ _ blk off d hblk (holdsK_ahead _ _ _ _ _ _ _ hH)
    have hl := lessF blk off c Bs d.size (sortWorldK encF 2 w blk off m dk os) (fun t => ⟨dk[t]!.1.name.toArray⟩) (by
      rw [e, cell?_putRowK_other _ _ _ blk off dk _ (by exact hB2), cell?_grow _ _ _ (by exact hB1)]; exact hBs) (fun t ht => by
      rw [e]; exact ((holdsK_putRowK _ _ _ blk off d dk hHg hs).cell (i := t) (c := 0) (by omega) (by omega)).1) i j hi hj (by omega)
    refine hl.mono ?_
    rintro e' w' ⟨rfl, q, rfl⟩
    refine ⟨?_, q, rfl⟩
    show _ = Ending.returned (Value.bool (ltF dk[i]! dk[j]!))
    unfold ltF
    rw [← less_eq2]
    congr 2
    rw [ByteArray.toList_eq, ByteArray.toList_eq]
  obtain ⟨i, ie, q1, q2, q3, q4, q5, q6⟩ := svTE
  exact Any.sort_Slice_small_cells_sorted Tryz.laysGg6 22 45 i ie q1 q2 (by kernel_rfl) q3 25 (fun _ => by kernel_rfl) encF 2 (fun _ => rfl) q4 (fun _ => by kernel_rfl)
    (fun x v hv => by simp [encF] at hv; rcases hv with rfl | rfl <;> rfl) ltF swo_ltF 55 _
    (enters_of Tryz.func55 (by kernel_rfl) rfl) blk off c d h2 h12 127 (by rw [svK _ ie q5 q6 h2]; kernel_rfl) false
    (fun args W => run_callFunc_extern Tryz.func127 (by kernel_rfl) (by kernel_rfl) (by kernel_rfl) (e := Extern.ReflectliteSwapper.swap false) (by kernel_rfl) args W) w hless hH hblk
end Go.Proofs.YtcllnalikeljgabGreatDoor
namespace Go.Proofs.YtcllnalikeljgabGreatDoor
open Go.RowKit Go.Gs
set_option linter.unusedVariables false

/-- What PutIn's loop stands on: the box p, in it a row of its own. -/
structure PF (w wr : World) (B p : Nat) (v : Value) (out : List FRow) : Prop where
  box : wr.heap[p]? = some (.cells #[v] 22 (0, 0))
  own : wr.ownsRow B 45 2 v out.length (rowCells out)
  wp : w.heap.size ≤ p
  pB : p < B
  Bs : B ≤ wr.heap.size
  bel : Below w.heap.size w wr
theorem PF.below {w wr w' : World} {B p : Nat} {v : Value} {out : List FRow} (h : PF w wr B p v out) (hb : Below wr.heap.size wr w') : PF w w' B p v out :=
  ⟨(hb.block _ (by have := h.pB; have := h.Bs; omega)).trans h.box, h.own.kept (row := none) ⟨hb.os, hb.tape, hb.output, hb.size, fun k hk _ => hb.block k hk⟩ (by cases hv : v.ownBlock <;> simp), h.wp, h.pB, Nat.le_trans h.Bs hb.size, h.bel.trans (hb.mono h.bel.size)⟩
theorem PF.box1 {w wr w1 : World} {o : Obj} {B p : Nat} {v : Value} {out : List FRow} (h : PF w wr B p v out) (hg : (wr.alloc o).grownBy w1 v.ownBlock) : w1.heap[p]? = some (.cells #[v] 22 (0, 0)) := by
  have hBs := h.Bs
  have hpB := h.pB
  rw [hg.block p (by simp; omega) (fun e => by have := (h.own.lt p e.symm).1; omega)]
  exact (Below.heap_alloc _ _ _ (by omega)).trans h.box
theorem PF.app {w wr w1 : World} {o : Obj} {B p : Nat} {v v' : Value} {out : List FRow} (h : PF w wr B p v out) (r : FRow)
    (hown : w1.ownsRow B 45 2 v' (out.length + 1) (rowCells out ++ encF r)) (hg : (wr.alloc o).grownBy w1 v.ownBlock) : PF w (w1.setCell ⟨p, 0, none⟩ v') B p v' (out ++ [r]) := by
  have hbox1 := h.box1 hg
  have hBs := h.Bs
  have hpB := h.pB
  have hlt : ∀ k, v.ownBlock = some k → B ≤ k := fun k hk => (h.own.lt k hk).1
  refine ⟨?_, ?_, h.wp, hpB, ?_, ?_⟩
  · simp only [World.setCell, Array.getElem?_modify, if_true, hbox1, Option.map_some]
    rfl
  · have e : (out ++ [r]).length = out.length + 1 := by simp
    rw [e, rowCells_app]
    exact ownsRow_setCell_below hown (by exact hpB) _
  · have := hg.size
    simp [World.setCell] at this ⊢
    omega
  · exact ((h.bel.alloc (by have := h.bel.size; omega) o).grown hg (by have := h.bel.size; simp; omega) (fun k hk => by have := hlt k hk; have := h.wp; omega)).setCell (p := ⟨p, 0, none⟩) h.wp _
theorem PF.start {w w1 : World} (hb : Below w.heap.size w w1) : PF w (w1.alloc (.cells #[.slice none 0 0] 22)) (w1.heap.size + 1) w1.heap.size (.slice none 0 0) [] :=
  ⟨heap_alloc_new w1 _, World.ownsRow_nil _ _ _ _, hb.size, Nat.lt_succ_self _, by simp, hb.alloc hb.size _⟩
/-- The row as the sort wants it. -/
theorem PF.holds [Inhabited FRow] {w wr : World} {B p g cap : Nat} {out : List FRow} (h : PF w wr B p (.slice (some ⟨g, 0, none⟩) out.length cap) out) : Sort.HoldsK encF 2 wr g 0 out.toArray := by
  intro j hj
  have hj2 : j < out.length * 2 := by simpa using hj
  have hc := h.own.cellAt j (by simpa using hj2)
  have hfz := h.own.frozenAt j
  have hq : j / 2 < out.length := by omega
  have hr : out[j / 2]? = some out[j / 2] := List.getElem?_eq_getElem hq
  obtain ⟨a1, a2⟩ := rowCells_at out (j / 2) _ hr
  rw [Nat.zero_add]
  refine ⟨?_, hfz⟩
  rw [hc, id_eq, Sort.get_flatK _ _ _ _ (by simpa using hj2)]
  have e1 : out.toArray[j / 2]! = out[j / 2] := by simp [hq]
  rw [e1]
  rcases Nat.mod_two_eq_zero_or_one j with hm | hm
  · rw [hm]
    have : j = j / 2 * 2 := by omega
    rw [← this] at a1
    rw [a1]
    rfl
  · rw [hm]
    have : j = j / 2 * 2 + 1 := by omega
    rw [← this] at a2
    rw [a2]
    rfl
end Go.Proofs.YtcllnalikeljgabGreatDoor
namespace Go.Proofs.YtcllnalikeljgabGreatDoor
open Go.RowKit Go.Gs
set_option linter.unusedVariables false

theorem below_growX {B : Nat} {a X : World} (h : Below B a X) (hB : B ≤ X.heap.size) (os : Array Obj) : Below B a (Sort.grow X os) :=
  ⟨h.os, h.tape, h.output, Nat.le_trans h.size (by simp [Sort.grow]), fun k hk => (Sort.heap_grow_old X os (Nat.lt_of_lt_of_le hk hB)).trans (h.block k hk)⟩
theorem pairwise_of_get {α : Type} [Inhabited α] {R : α → α → Prop} {d : Array α} (h : ∀ i j, i < j → j < d.size → R d[i]! d[j]!) : d.toList.Pairwise R := by
  rw [List.pairwise_iff_getElem]
  intro i j hi hj hij
  have := h i j hij (by simpa using hj)
  rw [getElem!_pos d i (by simpa using hi), getElem!_pos d j (by simpa using hj)] at this
  simpa using this
theorem one_sorted {α : Type} {R : α → α → Prop} : ∀ {l : List α}, l.length = 1 → l.Pairwise R
  | [x], _ => List.pairwise_singleton _ _
set_option maxRecDepth 100000 in
set_option maxHeartbeats 1000000 in
theorem sortG_is {w wr : World} {B p g cap : Nat} {out : List FRow} (h : PF w wr B p (.slice (some ⟨g, 0, none⟩) out.length cap) out) (h1 : 1 ≤ out.length) (h12 : out.length ≤ 12) :
    Calls Tryz.prog 54 #[.iface 22 (.slice (some ⟨g, 0, none⟩) out.length cap), .func (.func 55) #[] #[.pointer (some ⟨p, 0, none⟩)]] wr fun e w' =>
      e = .returned (.tuple #[]) ∧ ∃ d' : List FRow, d'.Perm out ∧ d'.Pairwise (fun x y => x.1.name ≤ y.1.name) ∧ (∀ (j : Nat) (r : FRow), d'[j]? = some r → w'.cell? ⟨g, 0 + j * 2, none⟩ = some (.string ⟨r.1.name.toArray⟩) ∧ w'.cell? ⟨g, 0 + j * 2 + 1, none⟩ = some (.slice r.2.1 r.2.2.1 r.2.2.2)) ∧ w'.cell? ⟨p, 0, none⟩ = some (.slice (some ⟨g, 0, none⟩) out.length cap) ∧ Below w.heap.size w w' := by
  haveI : Inhabited FRow := ⟨(⟨[], []⟩, none, 0, 0)⟩
  have hpB := h.pB
  have hBs := h.Bs
  have hgB : B ≤ g ∧ g < wr.heap.size := h.own.lt g rfl
  have hcell0 : wr.cell? ⟨p, 0, none⟩ = some (.slice (some ⟨g, 0, none⟩) out.length cap) := by simp [World.cell?, h.box]
  have hH := h.holds
  by_cases h2 : 2 ≤ out.length
  · have hS := sortF_is g 0 cap p out.toArray (by simpa using h2) (by simpa using h12) wr hH hgB.2 (by simpa using hcell0) (by omega) (by omega)
    simp only [List.size_toArray] at hS
    refine hS.mono ?_
    rintro e w' ⟨rfl, d', n, os, hperm, hsort, rfl⟩
    have hsz : d'.size = out.length := by simpa using hperm.1
    have hput : Below w.heap.size w (Sort.putRowK encF 2 (Sort.ahead wr n) g 0 d') := Lib.below_putRow h.bel (by have := h.wp; omega)
    have hpsz : (Sort.putRowK encF 2 (Sort.ahead wr n) g 0 d').heap.size = wr.heap.size := by simp [Sort.putRowK, Sort.putRow, Sort.mapBlock, Sort.ahead]
    have hH' : Sort.HoldsK encF 2 (Sort.grow (Sort.putRowK encF 2 (Sort.ahead wr n) g 0 d') os) g 0 d' :=
      Sort.holdsK_grow _ _ _ _ g 0 d' (by rw [hpsz]; exact hgB.2) (Sort.holdsK_putRowK _ _ _ g 0 out.toArray d' (Sort.holdsK_ahead _ _ _ _ _ _ _ hH) (by simpa using hsz))
    refine ⟨rfl, d'.toList, ?_, ?_, ?_, ?_, below_growX hput (by rw [hpsz]; exact h.bel.size) os⟩
    · have := hperm.2.2
      rw [show d'.extract 0 out.length = d' by rw [← hsz]; simp, show out.toArray.extract 0 out.length = out.toArray by simp] at this
      simpa using this
    · refine pairwise_of_get (fun i j hij hj => ?_)
      have := hsort i j (Nat.zero_le _) hij (by omega)
      exact List.not_lt.1 (of_decide_eq_false this)
    · intro j r hj
      obtain ⟨hjl, e⟩ := List.getElem?_eq_some_iff.1 hj
      have hj' : j < d'.size := by simpa using hjl
      have c0 := (hH'.cell (i := j) (c := 0) hj' (by omega)).1
      have c1 := (hH'.cell (i := j) (c := 1) hj' (by omega)).1
      have er : d'[j]! = r := by rw [getElem!_pos d' j hj']; simpa using e
      rw [er] at c0 c1
      exact ⟨c0, c1⟩
    · rw [Sort.cell?_grow _ _ _ (by rw [hpsz]; exact (by omega : p < wr.heap.size)), Sort.cell?_putRowK_other _ _ _ g 0 d' _ (by show p ≠ g; omega)]
      exact hcell0
  · have hn1 : out.length = 1 := by omega
    obtain ⟨i, ie, q1, q2, q3, _⟩ := svTE
    have hS := Any.sort_Slice_tiny Tryz.laysGg6 22 45 i ie q1 q2 (by kernel_rfl) q3 25 (fun _ => by kernel_rfl) (some ⟨g, 0, none⟩) out.length cap (by omega) 120 (by rw [hn1, show Lib.swapperK 1 ie 25 = 2 by simp [Lib.swapperK]]; kernel_rfl) (.func 55) #[] #[.pointer (some ⟨p, 0, none⟩)] wr
    refine Calls.mono hS ?_
    rintro e w' ⟨rfl, os, rfl⟩
    have hH' := Sort.holdsK_grow encF 2 wr os g 0 out.toArray hgB.2 hH
    refine ⟨rfl, out, List.Perm.refl _, ?_, ?_, ?_, below_growX h.bel h.bel.size os⟩
    · exact one_sorted hn1
    · intro j r hj
      obtain ⟨hjl, e⟩ := List.getElem?_eq_some_iff.1 hj
      have c0 := (hH'.cell (i := j) (c := 0) (by simpa using hjl) (by omega)).1
      have c1 := (hH'.cell (i := j) (c := 1) (by simpa using hjl) (by omega)).1
      have er : out.toArray[j]! = r := by simp [hjl, e]
      rw [er] at c0 c1
      exact ⟨c0, c1⟩
    · rw [Sort.cell?_grow _ _ _ (by exact (by omega : p < wr.heap.size))]
      exact hcell0
end Go.Proofs.YtcllnalikeljgabGreatDoor
