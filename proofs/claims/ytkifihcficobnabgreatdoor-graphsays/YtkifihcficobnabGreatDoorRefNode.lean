/- What the reference's NodeMade does. -/
import Derived.Test.YtkifihcficobnabGreatDoorRefJoin4
import Derived.Test.YtkifihcficobnabGreatDoorRefJoin5
import Derived.Test.YtkifihcficobnabGreatDoorRefJoin6
import Derived.Test.YtkifihcficobnabGreatDoorRefJoin8
import Derived.Test.YtkifihcficobnabGreatDoorRefSplitG
import Derived.Test.YtkifihcficobnabGreatDoorRShellE
import Derived.Test.YtkifihcficobnabGreatDoorGraphD
namespace Go.Proofs.YtkifihcficobnabGreatDoor
open Go.RowKit Go.Gs
set_option linter.unusedVariables false

/-- The reference's Joined, whatever the way. -/
theorem joined_ref (how : Int) (c : Cmd) (ao : Option Addr) (cap : Nat) (bss : List (List UInt8)) (w : World) (hj : jchk how c = 0) (h1 : RList w (.slice ao bss.length cap) U bss) (hN5 : bss.length ≤ 5) (hT : bss.flatten.length ≤ 250000) (hE : KnownE w) (hsh : w.ShapedOpen Tryz.prog) :
    Calls Tryz.prog 115 #[.int .i64 how, c.v, .slice ao bss.length cap] w fun e w' => ∃ r, e = .returned r ∧ Reads w' r (ended (joined how c (bss.map lines))).length ((ended (joined how c (bss.map lines))).map U) ∧ Below w.heap.size w w' ∧ NewIn w.heap.size r := by
  obtain ⟨k, word, n⟩ := c
  unfold Cmd.v
  have h4 : how = 1 ∨ how = 2 ∨ how = 3 ∨ how = 4 := by
    unfold jchk at hj
    split at hj
    · cases hj
    · omega
  rcases h4 with rfl | rfl | rfl | rfl
  · exact joined_one k n word ao cap bss w h1 hN5 hT hE hsh
  · exact joined_two k n word ao cap bss w h1 hN5 hT hE hsh
  · exact joined_three k n word ao cap bss w h1 hN5 hT hE hsh
  · exact joined_four k n word ao cap bss w (by simpa [jchk] using hj) h1 hN5 hT hE hsh

/-- 'LinesOf', beside a box of eight cells. -/
theorem lines_inR {W : World} {bx : Nat} {x0 x1 x2 x3 x4 x5 x6 x7 : Value} (v : Value) (bs : List UInt8) (hr : Reads W v bs.length (bs.map U)) (hsh : W.ShapedOpen Tryz.prog) (hle : bs.length ≤ 900000) (h8 : Cells8 W bx x0 x1 x2 x3 x4 x5 x6 x7) :
    Calls Tryz.prog 62 #[v] W fun e w' => ∃ r, e = .returned r ∧ Hid (Reads w' r (lines bs).length ((lines bs).map S)) ∧ Hid (Below W.heap.size W w') ∧ w'.cell? ⟨bx, 0, none⟩ = some x0 ∧ w'.cell? ⟨bx, 1, none⟩ = some x1 ∧ w'.cell? ⟨bx, 2, none⟩ = some x2 ∧ w'.cell? ⟨bx, 3, none⟩ = some x3 ∧ w'.cell? ⟨bx, 4, none⟩ = some x4 ∧ w'.cell? ⟨bx, 5, none⟩ = some x5 ∧ w'.cell? ⟨bx, 6, none⟩ = some x6 ∧ w'.cell? ⟨bx, 7, none⟩ = some x7 := by
  refine (linesOf v bs W hr hsh hle).mono ?_
  rintro e w' ⟨g, c, rfl, h1, h2⟩
  obtain ⟨y0, y1, y2, y3, y4, y5, y6, y7⟩ := h8.kept h2
  exact ⟨_, rfl, h1, h2, y0, y1, y2, y3, y4, y5, y6, y7⟩

theorem bytes_inR (r : Value) (M : List (List UInt8)) (w : World) (L : Nat) (hL : L = (ended M).length) (hr : Reads w r M.length (M.map S)) (hle : (ended M).length ≤ 900000) :
    Calls Tryz.prog 60 #[r] w fun e w' => ∃ a c, e = .returned (.slice a L c) ∧ Hid (Reads w' (.slice a L c) (ended M).length ((ended M).map U)) ∧ Hid (Below w.heap.size w w') ∧ Hid (NewIn w.heap.size (.slice a L c)) := by
  refine (bytesOfN r M w hr hle).mono ?_
  rintro e w' ⟨q, rfl, h1, h2, h3⟩
  obtain ⟨a, c, rfl, _, _⟩ := h1.shape
  rw [← hL] at h1 h3 ⊢
  exact ⟨a, c, rfl, h1, h2, h3⟩
/-- What NodeMade ends with. -/
def NMEnd (w : World) (o : List (List UInt8)) (e : Ending) (w' : World) : Prop := ∃ r, e = .returned r ∧ RNew w.heap.size w' r o ∧ Below w.heap.size w w'
theorem nmEnd_one {w W : World} {u : Value} {b : List UInt8} (hb : Below w.heap.size w W) (hu : Reads W u b.length (b.map U)) (hn : NewIn w.heap.size u) :
    NMEnd w [b] (.returned (.slice (some ⟨W.heap.size, 0, none⟩) 1 1)) (W.alloc (.cells #[u] 24)) :=
  ⟨_, rfl, rnew_one hu hn _ rfl, hb.alloc hb.size _⟩

set_option maxRecDepth 100000 in
set_option maxHeartbeats 8000000 in
theorem nm_source (n : SNode) (ai ao : Option Addr) (ni ci cap : Nat) (fs : List SFile) (v : Value) (ins : List (List UInt8)) (w : World) (hk : n.kind = 1) (hv : RList w v U ins) (hf : RFiles w (.slice ao fs.length cap) fs) (hfc : ∀ f ∈ fs, f.b.length ≤ 4000) (hsh : w.ShapedOpen Tryz.prog) :
    Calls Tryz.prog 81 #[nodeV n ai ni ci, .slice ao fs.length cap, v] w fun e w' => NMEnd w (nodeMade n fs ins) e w' := by
  rw [made_one hk]
  have hlen : (fileOf fs n.file).length ≤ 4000 := by
    unfold fileOf
    cases hq : fs.find? (fun f => f.name == n.file) with
    | none => simp
    | some f => exact hfc f (List.mem_of_find?_eq_some hq)
  have HG : Hid _ := fun (W : World) (h : Below w.heap.size w W) => fileOf_ref ao cap fs n.file W (hf.below h)
  have HW : Hid _ := fun (W : World) (h : Below w.heap.size w W) (u : Value) (hr : Reads W u (fileOf fs n.file).length ((fileOf fs n.file).map U)) => wholeN_is u (fileOf fs n.file) W hr (sh_below hsh h) (by omega)
  unfold nodeV
  rw [hk]
  obtain ⟨av, cv, rfl, _, _⟩ := hv.shape
  obtain ⟨N, hN⟩ : ∃ N, N = fs.length := ⟨_, rfl⟩
  rw [← hN] at HG
  rw [← hN]
  generalize fileOf fs n.file = fb at *
  generalize (⟨n.file.toArray⟩ : ByteArray) = fx at *
  generalize (⟨n.c.word.toArray⟩ : ByteArray) = wx0 at *
  generalize n.c.kind = ck at *
  generalize n.c.n = cn at *
  generalize n.how = hw at *
  generalize n.wide = wd at *
  clear hv hf hfc hN hsh
  go_enter Tryz.func81, Tryz.ntmps81
  go_wp2_with fail
  refine Calls.mono (HG.out _ box_of) ?_
  rintro e w1 ⟨a1, c1, rfl, hr1, hb1⟩
  have HB1 : Hid (Below w.heap.size w w1) := box_of.trans (hb1.mono (by simp))
  have HA : Hid _ := HW.out w1 HB1.out _ hr1
  generalize fb.length = fl at *
  clear hr1 hb1 HG HW
  go_wp2_with fail
  refine Calls.mono HA.out ?_
  rintro e w2 ⟨r2, rfl, hr2, hb2, hn2⟩
  have HB2 : Hid (Below w.heap.size w w2) := HB1.out.trans (hb2.mono HB1.out.size)
  have HR2 : Hid (Reads w2 r2 (ended (lines fb)).length ((ended (lines fb)).map U)) := hr2
  have HN2 : Hid (NewIn w.heap.size r2) := NewIn.mono hn2 HB1.out.size
  obtain ⟨a2, c2, rfl, _, _⟩ := hr2.shape
  obtain ⟨l4, hl4⟩ : ∃ l4, l4 = (ended (lines fb)).length := ⟨_, rfl⟩
  rw [← hl4]
  clear hr2 hb2 hn2 HA
  go_wp2_with fail
  go_ret
  subst hl4
  exact nmEnd_one HB2.out HR2.out HN2.out

set_option maxRecDepth 100000 in
set_option maxHeartbeats 8000000 in
theorem nm_split (n : SNode) (ai ao : Option Addr) (ni ci cap N : Nat) (fs : List SFile) (v : Value) (b0 : List UInt8) (w : World) (hk : n.kind = 2) (hw1 : 1 ≤ n.wide) (hw5 : n.wide ≤ 5) (hv : RList w v U [b0]) (hb0 : b0.length ≤ 250000) (hsh : w.ShapedOpen Tryz.prog) :
    Calls Tryz.prog 81 #[nodeV n ai ni ci, .slice ao N cap, v] w fun e w' => NMEnd w (nodeMade n fs [b0]) e w' := by
  rw [made_two hk]
  obtain ⟨p, hp⟩ : ∃ p : Nat, n.wide = (p : Int) := Int.eq_ofNat_of_zero_le (by omega)
  have hp1 : 1 ≤ p := by omega
  have hp5 : p ≤ 5 := by omega
  obtain ⟨av, cv, rfl, hv1, hv2⟩ := hv.shape
  obtain ⟨vb, vo, au, cu, rfl, hcell, hru⟩ := hv.at (k := 0) (p := b0) rfl
  unfold nodeV
  rw [hk, hp, Int.toNat_natCast]
  have hcv : 1 ≤ cv := by simpa using hv1
  unfold maxLen at hv2
  generalize (⟨n.file.toArray⟩ : ByteArray) = fx at *
  generalize (⟨n.c.word.toArray⟩ : ByteArray) = wx0 at *
  generalize n.c.kind = ck at *
  generalize n.c.n = cn at *
  generalize n.how = hw at *
  have hbx : Below w.heap.size w (w.alloc (.cells #[.int .i64 2, .string fx, .int .i64 ck, .string wx0, .int .i64 cn, .int .i64 hw, .int .i64 (p : Int), .slice ai ni ci] 62)).drew := box_of.drew
  have HBX : Hid _ := hbx
  have HS : Hid _ := splitOf_ref (.slice au b0.length cu) b0 p (w.alloc (.cells #[.int .i64 2, .string fx, .int .i64 ck, .string wx0, .int .i64 cn, .int .i64 hw, .int .i64 (p : Int), .slice ai ni ci] 62)).drew (hru.below hbx) (sh_below hsh hbx) hb0 hp1 hp5
  have hcell2 : (w.alloc (.cells #[.int .i64 2, .string fx, .int .i64 ck, .string wx0, .int .i64 cn, .int .i64 hw, .int .i64 (p : Int), .slice ai ni ci] 62)).cell? ⟨vb, vo, none⟩ = some (.slice au b0.length cu) := (box_of.cell (World.block_lt_of_cell? w _ hcell)).trans hcell
  simp only [List.length_cons, List.length_nil, Nat.zero_add, List.head?_cons, Option.getD_some] at hru hv1 ⊢
  generalize b0.length = bl at *
  clear hv hru hbx hcell hsh
  go_enter Tryz.func81, Tryz.ntmps81
  go_upto_region 5 with fail
  go_region_with (first
    | (go_at_call 114; refine Calls.mono HS.out ?_; rintro e w2 ⟨r2, rfl, R2, B2⟩))
  all_goals
    have HB2 : Hid (Below w.heap.size w w2) := HBX.out.trans (B2.mono HBX.out.size)
    have HR2 : Hid (RNew w.heap.size w2 r2 ((List.range p).map (partOf b0 p))) := R2.mono HBX.out.size
    clear R2 B2 HS
    go_wp2_with fail
    go_ret
    exact ⟨_, rfl, HR2.out, HB2.out⟩

set_option maxRecDepth 100000 in
set_option maxHeartbeats 8000000 in
theorem nm_work (n : SNode) (ai ao : Option Addr) (ni ci cap N : Nat) (fs : List SFile) (v : Value) (b0 : List UInt8) (w : World) (hk : n.kind = 3) (hcc : chk n.c = 0) (hK : Known w) (hv : RList w v U [b0]) (hb0 : b0.length ≤ 250000) (hsh : w.ShapedOpen Tryz.prog) :
    Calls Tryz.prog 81 #[nodeV n ai ni ci, .slice ao N cap, v] w fun e w' => NMEnd w (nodeMade n fs [b0]) e w' := by
  rw [made_three hk]
  have hel := ended_lines b0
  have hll := lines_length b0
  obtain ⟨av, cv, rfl, hv1, hv2⟩ := hv.shape
  obtain ⟨vb, vo, au, cu, rfl, hcell, hru⟩ := hv.at (k := 0) (p := b0) rfl
  unfold nodeV
  rw [hk]
  have hcv : 1 ≤ cv := by simpa using hv1
  unfold maxLen at hv2
  have hml := made_len6 n.c hcc (lines b0) (by omega)
  have HMD : Hid _ := fun (W : World) (hb : Below w.heap.size w W) (r : Value) (hr : Reads W r (lines b0).length ((lines b0).map S)) => made_ref n.c hcc r (lines b0) W hr (by omega) (fun s hs => by have := line_len hs; omega) (sh_below hsh hb) (hK.below hb)
  simp only [List.length_cons, List.length_nil, Nat.zero_add, List.head?_cons, Option.getD_some] at hru hv1 ⊢
  generalize made n.c (lines b0) = M at *
  unfold Cmd.v at HMD
  generalize (⟨n.file.toArray⟩ : ByteArray) = fx at *
  generalize (⟨n.c.word.toArray⟩ : ByteArray) = wx0 at *
  generalize n.c.kind = ck at *
  generalize n.c.n = cn at *
  generalize n.how = hw at *
  generalize n.wide = wd at *
  have hbx : Below w.heap.size w (w.alloc (.cells #[.int .i64 3, .string fx, .int .i64 ck, .string wx0, .int .i64 cn, .int .i64 hw, .int .i64 wd, .slice ai ni ci] 62)).drew := box_of.drew
  have HBX : Hid _ := hbx
  have h8 : Cells8 (w.alloc (.cells #[.int .i64 3, .string fx, .int .i64 ck, .string wx0, .int .i64 cn, .int .i64 hw, .int .i64 wd, .slice ai ni ci] 62)).drew w.heap.size (.int .i64 3) (.string fx) (.int .i64 ck) (.string wx0) (.int .i64 cn) (.int .i64 hw) (.int .i64 wd) (.slice ai ni ci) := nbox_cells (Below.refl _ _).drew
  have HA : Hid _ := lines_inR (.slice au b0.length cu) b0 (hru.below hbx) (sh_below hsh hbx) (by omega) h8
  have hcell2 : (w.alloc (.cells #[.int .i64 3, .string fx, .int .i64 ck, .string wx0, .int .i64 cn, .int .i64 hw, .int .i64 wd, .slice ai ni ci] 62)).cell? ⟨vb, vo, none⟩ = some (.slice au b0.length cu) := (box_of.cell (World.block_lt_of_cell? w _ hcell)).trans hcell
  have hM9 : (ended M).length ≤ 900000 := by omega
  obtain ⟨L4, hL4⟩ : ∃ L4, L4 = (ended M).length := ⟨_, rfl⟩
  have HL4 : Hid (L4 = (ended M).length) := hL4
  generalize b0.length = bl at *
  clear hv hru hbx h8 hcell hK hcc hsh hL4
  go_enter Tryz.func81, Tryz.ntmps81
  go_upto_region 7 with fail
  go_region_with (first
    | (go_at_call 62; refine Calls.mono HA.out ?_; rintro e w2 ⟨r2, rfl, O2, B2, y0, y1, y2, y3, y4, y5, y6, y7⟩)
    | (go_at_call 61; refine (HMD.out w2 (HBX.out.trans (B2.out.mono HBX.out.size)) r2 O2.out).mono ?_; rintro e w3 ⟨r3, rfl, R3, B3⟩; have HB3 : Hid (Below w.heap.size w w3) := HBX.out.trans ((B2.out.trans (B3.mono B2.out.size)).mono HBX.out.size); have HR3 : Hid _ := R3; clear R3 B3)
    | (go_at_call 60; refine (bytes_inR r3 M w3 L4 HL4.out HR3.out hM9).mono ?_; rintro e w4 ⟨a4, c4, rfl, R4, B4, N4⟩; have HB4 : Hid (Below w.heap.size w w4) := HB3.out.trans (B4.out.mono HB3.out.size); have HN4 : Hid (NewIn w.heap.size (.slice a4 L4 c4)) := NewIn.mono N4.out HB3.out.size; clear B4 N4))
  all_goals
    go_wp2_with fail
    go_ret
    exact nmEnd_one HB4.out R4.out HN4.out

set_option maxRecDepth 100000 in
set_option maxHeartbeats 8000000 in
theorem nm_join (n : SNode) (ai ao : Option Addr) (ni ci cap N : Nat) (fs : List SFile) (v : Value) (ins : List (List UInt8)) (w : World) (hk : n.kind = 4) (hj : jchk n.how n.c = 0) (hv : RList w v U ins) (hn5 : ins.length ≤ 5) (hT : ins.flatten.length ≤ 250000) (hE : KnownE w) (hsh : w.ShapedOpen Tryz.prog) :
    Calls Tryz.prog 81 #[nodeV n ai ni ci, .slice ao N cap, v] w fun e w' => NMEnd w (nodeMade n fs ins) e w' := by
  rw [made_four hk]
  obtain ⟨av, cv, rfl, hv1, hv2⟩ := hv.shape
  have HJ : Hid _ := fun (W : World) (hb : Below w.heap.size w W) => joined_ref n.how n.c av cv ins W hj (hv.below hb) hn5 hT (hE.below hb) (sh_below hsh hb)
  unfold nodeV
  rw [hk]
  unfold Cmd.v at HJ
  generalize joined n.how n.c (ins.map lines) = M at *
  generalize (⟨n.file.toArray⟩ : ByteArray) = fx at *
  generalize (⟨n.c.word.toArray⟩ : ByteArray) = wx0 at *
  generalize n.c.kind = ck at *
  generalize n.c.n = cn at *
  generalize n.how = hw at *
  generalize n.wide = wd at *
  generalize ins.length = NI at *
  clear hv hE hsh hj hT
  go_enter Tryz.func81, Tryz.ntmps81
  go_wp2_with fail
  refine Calls.mono (HJ.out _ box_of) ?_
  rintro e w1 ⟨r1, rfl, hr1, hb1, hn1⟩
  have HB1 : Hid (Below w.heap.size w w1) := box_of.trans (hb1.mono (by simp))
  have HR1 : Hid (Reads w1 r1 (ended M).length ((ended M).map U)) := hr1
  have HN1 : Hid (NewIn w.heap.size r1) := NewIn.mono hn1 (by simp)
  obtain ⟨a2, c2, rfl, _, _⟩ := hr1.shape
  obtain ⟨l4, hl4⟩ : ∃ l4, l4 = (ended M).length := ⟨_, rfl⟩
  rw [← hl4]
  clear hr1 hb1 hn1 HJ
  go_wp2_with fail
  go_ret
  subst hl4
  exact nmEnd_one HB1.out HR1.out HN1.out

theorem nm_is (n : SNode) (ai ao : Option Addr) (ci cap : Nat) (fs : List SFile) (v : Value) (ins : List (List UInt8)) (w : World) (hchk : nodeChk n = 0) (h5 : n.kind ≠ 5) (hv : RList w v U ins) (hi : ins.length = n.ins.length) (hT : ins.flatten.length ≤ 241200) (hf : RFiles w (.slice ao fs.length cap) fs) (hfc : ∀ f ∈ fs, f.b.length ≤ 4000) (hE : KnownE w) (hsh : w.ShapedOpen Tryz.prog) :
    Calls Tryz.prog 81 #[nodeV n ai n.ins.length ci, .slice ao fs.length cap, v] w fun e w' => NMEnd w (nodeMade n fs ins) e w' := by
  obtain ⟨h1, h2, _⟩ := node_kinds hchk
  obtain ⟨r1, r2⟩ := right_ins hchk
  have one : n.ins.length = 1 → ∃ b0, ins = [b0] := by
    intro h
    rw [h] at hi
    match ins, hi with
    | [b0], _ => exact ⟨b0, rfl⟩
  rcases used_kinds h1 with ⟨h3 | h3, _⟩ | ⟨h3, h4, h5⟩ | ⟨h3, h4⟩ | ⟨h3, h4⟩
  · exact nm_source n ai ao _ ci cap fs v ins w h3 hv hf hfc hsh
  · exact absurd h3 h5
  · obtain ⟨b0, rfl⟩ := one (r2 (.inl h3))
    exact nm_split n ai ao _ ci cap _ fs v b0 w h3 h4 h5 hv (by simp at hT; omega) hsh
  · obtain ⟨b0, rfl⟩ := one (r2 (.inr (.inl h3)))
    exact nm_work n ai ao _ ci cap _ fs v b0 w h3 h4 hE.1 hv (by simp at hT; omega) hsh
  · exact nm_join n ai ao _ ci cap _ fs v ins w h3 h4 hv (by omega) (by omega) hE hsh
end Go.Proofs.YtkifihcficobnabGreatDoor
