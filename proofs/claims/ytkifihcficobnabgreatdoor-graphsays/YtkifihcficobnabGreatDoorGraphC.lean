/- What the developers' made (of graphs) does: Source, Sink. What the developers' made (of graphs) does: Split, Work. -/
import Derived.Test.YtkifihcficobnabGreatDoorDevGraph7
import Derived.Test.YtkifihcficobnabGreatDoorShellF
import Derived.Test.YtkifihcficobnabGreatDoorPlainE
import Derived.Deep.RegionWith
namespace Go.Proofs.YtkifihcficobnabGreatDoor
open Go.RowKit Go.Gs
set_option linter.unusedVariables false

/-- What made ends with, where nothing is wrong. -/
def MadeEnd (w : World) (outs : List (List UInt8)) (e : Ending) (w' : World) : Prop :=
  ∃ ar cr us, e = .returned (.tuple #[.slice ar outs.length cr, .int .i64 0]) ∧ w'.ownsRow w.heap.size 24 1 (.slice ar outs.length cr) outs.length us ∧ (∀ (j : Nat) b, outs[j]? = some b → ∃ u, us[j]? = some u ∧ Reads w' u b.length (b.map U)) ∧ Below w.heap.size w w'
theorem madeEnd_one {w W : World} {u : Value} {b : List UInt8} (hb : Below w.heap.size w W) (hu : Reads W u b.length (b.map U)) :
    MadeEnd w [b] (.returned (.tuple #[.slice (some ⟨W.heap.size, 0, none⟩) 1 1, .int .i64 0])) (W.alloc (.cells #[u] 24)) := by
  refine ⟨some ⟨W.heap.size, 0, none⟩, 1, [u], rfl, owns_of_row (heap_alloc_new W _) rfl hb.size (by simp), fun j c hj => ?_, hb.alloc hb.size _⟩
  cases j with
  | zero =>
    simp at hj
    subst hj
    exact ⟨u, rfl, hu.below box_of⟩
  | succ j => simp at hj
theorem word_fits {s : List UInt8} (h : isWord s = true) : s.length ≤ 9223372036854775807 := by
  unfold isWord at h
  simp only [Bool.and_eq_true, decide_eq_true_eq] at h
  omega
theorem made_one {n : SNode} (h : n.kind = 1) (fs : List SFile) (ins : List (List UInt8)) : nodeMade n fs ins = [ended (lines (fileOf fs n.file))] := by unfold nodeMade; rw [if_pos h]
theorem made_two {n : SNode} (h : n.kind = 2) (fs : List SFile) (ins : List (List UInt8)) : nodeMade n fs ins = (List.range n.wide.toNat).map (partOf (ins.head?.getD []) n.wide.toNat) := by unfold nodeMade; rw [if_neg (by omega), if_pos h]
theorem made_three {n : SNode} (h : n.kind = 3) (fs : List SFile) (ins : List (List UInt8)) : nodeMade n fs ins = [ended (made n.c (lines (ins.head?.getD [])))] := by unfold nodeMade; rw [if_neg (by omega), if_neg (by omega), if_pos h]
theorem made_four {n : SNode} (h : n.kind = 4) (fs : List SFile) (ins : List (List UInt8)) : nodeMade n fs ins = [ended (joined n.how n.c (ins.map lines))] := by unfold nodeMade; rw [if_neg (by omega), if_neg (by omega), if_neg (by omega), if_pos h]
theorem made_five {n : SNode} (h : n.kind = 5) (fs : List SFile) (ins : List (List UInt8)) : nodeMade n fs ins = [] := by unfold nodeMade; rw [if_neg (by omega), if_neg (by omega), if_neg (by omega), if_neg (by omega)]

set_option maxRecDepth 100000 in
set_option maxHeartbeats 8000000 in
theorem made_sink (n : SNode) (ai ao : Option Addr) (ni ci cap : Nat) (fs : List SFile) (v : Value) (ins : List (List UInt8)) (w : World) (hk : n.kind = 5) (hv : RList w v U ins) :
    Calls Tryz.prog 71 #[nodeV n ai ni ci, .slice ao fs.length cap, v] w fun e w' => MadeEnd w (nodeMade n fs ins) e w' := by
  rw [made_five hk]
  unfold nodeV
  rw [hk]
  obtain ⟨av, cv, rfl, _, _⟩ := hv.shape
  generalize (⟨n.file.toArray⟩ : ByteArray) = fx
  generalize (⟨n.c.word.toArray⟩ : ByteArray) = wx0
  generalize n.c.kind = ck
  generalize n.c.n = cn
  generalize n.how = hw
  generalize n.wide = wd
  clear hv
  go_enter Tryz.func71, Tryz.ntmps71
  go_wp2_with fail
  go_ret2
  exact ⟨none, 0, [], rfl, World.ownsRow_nil _ _ _ _, fun j b hj => by simp at hj, box_of⟩

set_option maxRecDepth 100000 in
set_option maxHeartbeats 8000000 in
theorem made_source (n : SNode) (ai ao : Option Addr) (ni ci cap : Nat) (fs : List SFile) (v : Value) (ins : List (List UInt8)) (w : World) (hk : n.kind = 1) (hv : RList w v U ins) (hf : RFiles w (.slice ao fs.length cap) fs) (hfc : fchk fs = 0) :
    Calls Tryz.prog 71 #[nodeV n ai ni ci, .slice ao fs.length cap, v] w fun e w' => MadeEnd w (nodeMade n fs ins) e w' := by
  rw [made_one hk]
  have hlen : (fileOf fs n.file).length ≤ 4000 := by
    unfold fileOf
    cases hq : fs.find? (fun f => f.name == n.file) with
    | none => simp
    | some f => exact (from_all (fchk_zero hfc).2 f (List.mem_of_find?_eq_some hq)).2
  have hel := ended_lines (fileOf fs n.file)
  have HG : Hid _ := fun (W : World) (h : Below w.heap.size w W) => get_is ao cap fs n.file W (hf.below h) (fun f hf => by have := (from_all (fchk_zero hfc).2 f hf).1; exact word_fits this)
  have hgr : getS fs n.file = (fileOf fs n.file, 0) := by unfold getS; rw [if_pos hfc]
  rw [hgr] at HG
  unfold nodeV
  rw [hk]
  obtain ⟨av, cv, rfl, _, _⟩ := hv.shape
  obtain ⟨N, hN⟩ : ∃ N, N = fs.length := ⟨_, rfl⟩
  rw [← hN] at HG
  rw [← hN]
  generalize fileOf fs n.file = fb at *
  generalize (⟨n.file.toArray⟩ : ByteArray) = fx at *
  generalize (⟨n.c.word.toArray⟩ : ByteArray) = wx0 at *
  generalize n.c.kind = ck at *
  generalize n.c.n = cn at *
  generalize n.how = hw at *
  generalize n.wide = wd at *
  clear hv hf hfc hgr hN
  go_enter Tryz.func71, Tryz.ntmps71
  go_wp2_with fail
  have hQ := HG.out _ (box_of (w := w) (o := .cells #[.int .i64 1, .string fx, .int .i64 ck, .string wx0, .int .i64 cn, .int .i64 hw, .int .i64 wd, .slice ai ni ci] 62))
  refine Calls.mono hQ ?_
  rintro e w1 ⟨a1, c1, rfl, hr1, hb1⟩
  have HB1 : Hid (Below w.heap.size w w1) := box_of.trans (hb1.mono (by simp))
  have HA : Hid _ := all_reads _ fb w1 hr1 (by omega)
  simp only
  generalize fb.length = fl at *
  clear hQ hr1 hb1 HG
  go_wp2_with fail
  refine Calls.mono HA.out ?_
  rintro e w2 ⟨r2, rfl, ho2, hb2⟩
  have HB2 : Hid (Below w.heap.size w w2) := HB1.out.trans (hb2.mono HB1.out.size)
  have HE : Hid _ := ended_reads r2 (lines fb) w2 (Reads.of_owns ho2) (by omega)
  clear ho2 hb2 HA
  go_wp2_with fail
  refine Calls.mono HE.out ?_
  rintro e w3 ⟨r3, rfl, ho3, hb3⟩
  have HB3 : Hid (Below w.heap.size w w3) := HB2.out.trans (hb3.mono HB2.out.size)
  have HR3 : Hid (Reads w3 r3 (ended (lines fb)).length ((ended (lines fb)).map U)) := Reads.of_owns ho3
  obtain ⟨a3, c3, rfl, _, _⟩ := HR3.out.shape
  obtain ⟨l3, hl3⟩ : ∃ l3, l3 = (ended (lines fb)).length := ⟨_, rfl⟩
  rw [← hl3]
  clear ho3 hb3 HE
  go_wp2_with fail
  go_ret2
  subst hl3
  exact madeEnd_one HB3.out HR3.out
end Go.Proofs.YtkifihcficobnabGreatDoor
namespace Go.Proofs.YtkifihcficobnabGreatDoor
open Go.RowKit Go.Gs
set_option linter.unusedVariables false

theorem Cells8.kept {W w' : World} {b : Nat} {x0 x1 x2 x3 x4 x5 x6 x7 : Value} (h : Cells8 W b x0 x1 x2 x3 x4 x5 x6 x7) (hb : Below W.heap.size W w') :
    w'.cell? ⟨b, 0, none⟩ = some x0 ∧ w'.cell? ⟨b, 1, none⟩ = some x1 ∧ w'.cell? ⟨b, 2, none⟩ = some x2 ∧ w'.cell? ⟨b, 3, none⟩ = some x3 ∧ w'.cell? ⟨b, 4, none⟩ = some x4 ∧ w'.cell? ⟨b, 5, none⟩ = some x5 ∧ w'.cell? ⟨b, 6, none⟩ = some x6 ∧ w'.cell? ⟨b, 7, none⟩ = some x7 := h.below hb
/-- 'All', beside a box of eight cells. -/
theorem all_in {W : World} {bx : Nat} {x0 x1 x2 x3 x4 x5 x6 x7 : Value} (v : Value) (bs : List UInt8) (hr : Reads W v bs.length (bs.map U)) (hle : bs.length ≤ 1000000) (h8 : Cells8 W bx x0 x1 x2 x3 x4 x5 x6 x7) :
    Calls Tryz.prog 105 #[v] W fun e w' => ∃ r, e = .returned r ∧ Hid (w'.ownsRow W.heap.size 9 1 r (lines bs).length ((lines bs).map S)) ∧ Hid (Below W.heap.size W w') ∧ w'.cell? ⟨bx, 0, none⟩ = some x0 ∧ w'.cell? ⟨bx, 1, none⟩ = some x1 ∧ w'.cell? ⟨bx, 2, none⟩ = some x2 ∧ w'.cell? ⟨bx, 3, none⟩ = some x3 ∧ w'.cell? ⟨bx, 4, none⟩ = some x4 ∧ w'.cell? ⟨bx, 5, none⟩ = some x5 ∧ w'.cell? ⟨bx, 6, none⟩ = some x6 ∧ w'.cell? ⟨bx, 7, none⟩ = some x7 := by
  refine (all_reads v bs W hr hle).mono ?_
  rintro e w' ⟨r, rfl, h1, h2⟩
  obtain ⟨y0, y1, y2, y3, y4, y5, y6, y7⟩ := h8.kept h2
  exact ⟨r, rfl, h1, h2, y0, y1, y2, y3, y4, y5, y6, y7⟩
theorem range_parts (bs : List UInt8) (p k : Nat) : partL (lines bs) p k = partOf bs p k := rfl

set_option maxRecDepth 100000 in
set_option maxHeartbeats 8000000 in
theorem made_split (n : SNode) (ai ao : Option Addr) (ni ci cap N : Nat) (fs : List SFile) (v : Value) (b0 : List UInt8) (w : World) (hk : n.kind = 2) (hw1 : 1 ≤ n.wide) (hw5 : n.wide ≤ 5) (hv : RList w v U [b0]) (hb0 : b0.length ≤ 250000) :
    Calls Tryz.prog 71 #[nodeV n ai ni ci, .slice ao N cap, v] w fun e w' => MadeEnd w (nodeMade n fs [b0]) e w' := by
  rw [made_two hk]
  obtain ⟨p, hp⟩ : ∃ p : Nat, n.wide = (p : Int) := Int.eq_ofNat_of_zero_le (by omega)
  have hp1 : 1 ≤ p := by omega
  have hp5 : p ≤ 5 := by omega
  have hel := ended_lines b0
  have hll := lines_length b0
  obtain ⟨av, cv, rfl, hv1, hv2⟩ := hv.shape
  obtain ⟨vb, vo, au, cu, rfl, hcell, hru⟩ := hv.at (k := 0) (p := b0) rfl
  unfold nodeV
  rw [hk, hp, Int.toNat_natCast]
  have hcv : 1 ≤ cv := by simpa using hv1
  unfold maxLen at hv2
  generalize (⟨n.file.toArray⟩ : ByteArray) = fx at *
  generalize (⟨n.c.word.toArray⟩ : ByteArray) = wx0 at *
  generalize n.c.kind = ck at *
  generalize n.c.n = cn at *
  generalize n.how = hw at *
  have hbx : Below w.heap.size w (w.alloc (.cells #[.int .i64 2, .string fx, .int .i64 ck, .string wx0, .int .i64 cn, .int .i64 hw, .int .i64 (p : Int), .slice ai ni ci] 62)).drew := box_of.drew
  have HBX : Hid _ := hbx
  have h8 : Cells8 (w.alloc (.cells #[.int .i64 2, .string fx, .int .i64 ck, .string wx0, .int .i64 cn, .int .i64 hw, .int .i64 (p : Int), .slice ai ni ci] 62)).drew w.heap.size (.int .i64 2) (.string fx) (.int .i64 ck) (.string wx0) (.int .i64 cn) (.int .i64 hw) (.int .i64 (p : Int)) (.slice ai ni ci) := nbox_cells (Below.refl _ _).drew
  have HA : Hid _ := all_in (.slice au b0.length cu) b0 (hru.below hbx) (by omega) h8
  have hcell2 : (w.alloc (.cells #[.int .i64 2, .string fx, .int .i64 ck, .string wx0, .int .i64 cn, .int .i64 hw, .int .i64 (p : Int), .slice ai ni ci] 62)).cell? ⟨vb, vo, none⟩ = some (.slice au b0.length cu) := (box_of.cell (World.block_lt_of_cell? w _ hcell)).trans hcell
  have HPA : Hid _ := fun (W : World) (r : Value) (B : Nat) (ho : W.ownsRow B 9 1 r (lines b0).length ((lines b0).map S)) => parts_is r B (lines b0) p W ho (by omega) (by omega) hp1 hp5
  simp only [List.length_cons, List.length_nil, Nat.zero_add, List.head?_cons, Option.getD_some] at hru hv1 ⊢
  generalize b0.length = bl at *
  clear hv hru hbx h8 hcell
  go_enter Tryz.func71, Tryz.ntmps71
  go_upto_region 10 with fail
  go_region_with (first
    | (go_at_call 105; refine Calls.mono HA.out ?_; rintro e w2 ⟨r2, rfl, O2, B2, y0, y1, y2, y3, y4, y5, y6, y7⟩)
    | (go_at_call 107; refine (HPA.out w2 r2 _ O2.out).mono ?_; rintro e w3 ⟨r3, vs, rfl, O3, R3, B3⟩))
  all_goals
    have HB3 : Hid (Below w.heap.size w w3) := HBX.out.trans ((B2.out.trans (B3.mono B2.out.size)).mono HBX.out.size)
    have HO3 : Hid (w3.ownsRow w.heap.size 24 1 r3 p vs) := owns_mono O3 (Nat.le_trans HBX.out.size B2.out.size)
    have HR3 : Hid _ := R3
    obtain ⟨a3, c3, rfl, _, _⟩ := (Reads.of_owns O3).shape
    clear O3 R3 B3 O2 B2 y0 y1 y2 y3 y4 y5 y6 y7
    go_wp2_with fail
    go_ret2
    refine ⟨a3, c3, vs, by rw [List.length_map, List.length_range]; rfl, by simpa using HO3.out, fun j b hj => ?_, HB3.out⟩
    rw [List.getElem?_map] at hj
    cases hr : (List.range p)[j]? with
    | none => rw [hr] at hj; cases hj
    | some q =>
      rw [hr] at hj
      have hjp : j < p := by simpa using (List.getElem?_eq_some_iff.1 hr).1
      rw [List.getElem?_range hjp] at hr
      injection hr with hr
      subst hr
      simp only [Option.map_some, Option.some.injEq] at hj
      subst hj
      exact HR3.out j hjp
set_option maxRecDepth 100000 in
set_option maxHeartbeats 8000000 in
theorem made_work (n : SNode) (ai ao : Option Addr) (ni ci cap N : Nat) (fs : List SFile) (v : Value) (b0 : List UInt8) (w : World) (hk : n.kind = 3) (hcc : chk n.c = 0) (hcw : n.c.word.length ≤ 9223372036854775807) (hK : Known w) (hv : RList w v U [b0]) (hb0 : b0.length ≤ 250000) :
    Calls Tryz.prog 71 #[nodeV n ai ni ci, .slice ao N cap, v] w fun e w' => MadeEnd w (nodeMade n fs [b0]) e w' := by
  rw [made_three hk]
  have hel := ended_lines b0
  have hll := lines_length b0
  obtain ⟨av, cv, rfl, hv1, hv2⟩ := hv.shape
  obtain ⟨vb, vo, au, cu, rfl, hcell, hru⟩ := hv.at (k := 0) (p := b0) rfl
  unfold nodeV
  rw [hk]
  have hcv : 1 ≤ cv := by simpa using hv1
  unfold maxLen at hv2
  have hml := made_len6 n.c hcc (lines b0) (by omega)
  have HCV : Hid _ := fun (W : World) (r : Value) (hr : Reads W r (lines b0).length ((lines b0).map S)) (hK : Known W) => cover_is n.c hcc r (lines b0) W hcw hr (by omega) (fun s hs => by have := line_len hs; omega) hK
  have HKK : Hid (Known w) := hK
  simp only [List.length_cons, List.length_nil, Nat.zero_add, List.head?_cons, Option.getD_some] at hru hv1 ⊢
  generalize made n.c (lines b0) = M at *
  unfold Cmd.v at HCV
  generalize (⟨n.file.toArray⟩ : ByteArray) = fx at *
  generalize (⟨n.c.word.toArray⟩ : ByteArray) = wx0 at *
  generalize n.c.kind = ck at *
  generalize n.c.n = cn at *
  generalize n.how = hw at *
  generalize n.wide = wd at *
  have hbx : Below w.heap.size w (w.alloc (.cells #[.int .i64 3, .string fx, .int .i64 ck, .string wx0, .int .i64 cn, .int .i64 hw, .int .i64 wd, .slice ai ni ci] 62)).drew := box_of.drew
  have HBX : Hid _ := hbx
  have h8 : Cells8 (w.alloc (.cells #[.int .i64 3, .string fx, .int .i64 ck, .string wx0, .int .i64 cn, .int .i64 hw, .int .i64 wd, .slice ai ni ci] 62)).drew w.heap.size (.int .i64 3) (.string fx) (.int .i64 ck) (.string wx0) (.int .i64 cn) (.int .i64 hw) (.int .i64 wd) (.slice ai ni ci) := nbox_cells (Below.refl _ _).drew
  have HA : Hid _ := all_in (.slice au b0.length cu) b0 (hru.below hbx) (by omega) h8
  have hcell2 : (w.alloc (.cells #[.int .i64 3, .string fx, .int .i64 ck, .string wx0, .int .i64 cn, .int .i64 hw, .int .i64 wd, .slice ai ni ci] 62)).cell? ⟨vb, vo, none⟩ = some (.slice au b0.length cu) := (box_of.cell (World.block_lt_of_cell? w _ hcell)).trans hcell
  generalize b0.length = bl at *
  clear hv hru hbx h8 hcell hK hcc hcw
  go_enter Tryz.func71, Tryz.ntmps71
  go_upto_region 12 with fail
  go_region_with (first
    | (go_at_call 105; refine Calls.mono HA.out ?_; rintro e w2 ⟨r2, rfl, O2, B2, y0, y1, y2, y3, y4, y5, y6, y7⟩)
    | (go_at_call 108; refine (HCV.out w2 r2 (Reads.of_owns O2.out) ((HKK.out.below HBX.out).below B2.out)).mono ?_; rintro e w3 ⟨r3, rfl, R3, B3⟩))
  all_goals
    have HB3 : Hid (Below w.heap.size w w3) := HBX.out.trans ((B2.out.trans (B3.mono B2.out.size)).mono HBX.out.size)
    have HE : Hid _ := ended_reads r3 M w3 R3 (by omega)
    clear R3 B3 O2 B2 y0 y1 y2 y3 y4 y5 y6 y7 HA HCV
    go_wp2_with fail
    refine Calls.mono HE.out ?_
    rintro e w4 ⟨r4, rfl, ho4, hb4⟩
    have HB4 : Hid (Below w.heap.size w w4) := HB3.out.trans (hb4.mono HB3.out.size)
    have HR4 : Hid (Reads w4 r4 (ended M).length ((ended M).map U)) := Reads.of_owns ho4
    obtain ⟨a4, c4, rfl, _, _⟩ := HR4.out.shape
    obtain ⟨l4, hl4⟩ : ∃ l4, l4 = (ended M).length := ⟨_, rfl⟩
    rw [← hl4]
    clear ho4 hb4 HE
    go_wp2_with fail
    go_ret2
    subst hl4
    exact madeEnd_one HB4.out HR4.out

end Go.Proofs.YtkifihcficobnabGreatDoor
