/- What the reference's Sunken does. What the closure of the reference's Sunken does. What the reference's Sunken does: the whole. -/
import Derived.Test.YtkifihcficobnabGreatDoorRefNode
import Derived.Laws.EntriesVeiled
import Derived.Maps.AppendAt
namespace Go.Proofs.YtkifihcficobnabGreatDoor
open Go.RowKit Go.Gs
set_option linter.unusedVariables false

theorem infoBsS : (Tryz.prog.info? 24).map (fun i => (i.zero, i.size, i.bytes)) = some (some (.slice none 0 0), 1, 24) := by kernel_rfl
theorem reads_ltS {w : World} {u : Value} {n : Nat} {xs : List Value} (h : Reads w u n xs) (hn : n ≠ 0) : ∀ g, u.ownBlock = some g → g < w.heap.size := by
  obtain ⟨h1, ao, cap, rfl, h2, h3, h4⟩ := h
  obtain ⟨b, off, rfl, hc⟩ := h4 hn
  intro g hg
  simp only [Value.ownBlock, Option.some.injEq] at hg
  subst hg
  have h0 : 0 < xs.length := by omega
  exact World.block_lt_of_cell? w _ (hc 0 xs[0] (by simp [h0]))
theorem reads_grownS {w w' : World} {u v : Value} {n : Nat} {xs : List Value} (h : Reads w u n xs) (hg : w.grownBy w' v.ownBlock) (hf : n ≠ 0 → far u v) : Reads w' u n xs := by
  by_cases h0 : n = 0
  · subst h0
    obtain ⟨h1, ao, cap, rfl, h2, h3, h4⟩ := h
    exact ⟨h1, ao, cap, rfl, h2, h3, fun hn => absurd rfl hn⟩
  · exact reads_grown h hg (hf h0)
/-- What the loop of Sunken's closure stands on. -/
def SRow (w1 wr : World) (bss : List (List UInt8)) (k : Nat) (v : Value) : Prop :=
  ∃ us : List Value, wr.ownsRow w1.heap.size 24 1 v k us ∧ (∀ (j : Nat) (p : List UInt8), j < k → bss[j]? = some p → ∃ u, us[j]? = some u ∧ Reads wr u p.length (p.map U) ∧ (p.length ≠ 0 → far u v)) ∧ Below w1.heap.size w1 wr
theorem SRow.start {w1 : World} {bss : List (List UInt8)} : SRow w1 w1 bss 0 (.slice none 0 0) :=
  ⟨[], World.ownsRow_nil _ _ _ _, fun j p hj => absurd hj (Nat.not_lt_zero _), Below.refl _ _⟩
theorem SRow.below {w1 wr w2 : World} {bss : List (List UInt8)} {k : Nat} {v : Value} (h : SRow w1 wr bss k v) (hb : Below wr.heap.size wr w2) : SRow w1 w2 bss k v := by
  obtain ⟨us, h1, h2, h3⟩ := h
  refine ⟨us, owns_below h1 hb, fun j p hj hp => ?_, h3.trans (hb.mono h3.size)⟩
  obtain ⟨u, e1, e2, e3⟩ := h2 j p hj hp
  exact ⟨u, e1, e2.below hb, e3⟩
theorem SRow.lt {w1 wr : World} {bss : List (List UInt8)} {k : Nat} {v : Value} (h : SRow w1 wr bss k v) : ∀ g, v.ownBlock = some g → g < wr.heap.size := by
  obtain ⟨us, h1, _⟩ := h
  exact fun g hg => (h1.lt g hg).2
/-- One more has come. -/
theorem SRow.done {w1 W w4 : World} {bss : List (List UInt8)} {k : Nat} {v v' r : Value} {us : List Value} {p : List UInt8} (hp : bss[k]? = some p)
    (h1 : W.ownsRow w1.heap.size 24 1 v k us) (h2 : ∀ (j : Nat) (p : List UInt8), j < k → bss[j]? = some p → ∃ u, us[j]? = some u ∧ Reads W u p.length (p.map U) ∧ (p.length ≠ 0 → far u v)) (h3 : Below w1.heap.size w1 W)
    (hr : Reads W r p.length (p.map U)) (hrv : far r v) (hown : w4.ownsRow w1.heap.size 24 1 v' (k + 1) (us ++ [r])) (hg : W.grownBy w4 v.ownBlock) (hat : v'.ownBlock = v.ownBlock ∨ v'.ownBlock = some W.heap.size) : SRow w1 w4 bss (k + 1) v' := by
  have hus : us.length = k := by have := h1.1; omega
  have f7 : ∀ (u : Value) (q : List UInt8), Reads W u q.length (q.map U) → (q.length ≠ 0 → far u v) → q.length ≠ 0 → far u v' := by
    intro u q hq hu hn g hgu
    have hl := reads_ltS hq hn g hgu
    rcases hat with e | e
    · rw [e]; exact hu hn g hgu
    · rw [e]
      intro e'
      injection e' with e'
      omega
  refine ⟨us ++ [r], hown, fun j q hj hq => ?_, h3.grown hg h3.size (fun k hk => (h1.lt k hk).1)⟩
  by_cases hjk : j < k
  · obtain ⟨u, e1, e2, e3⟩ := h2 j q hjk hq
    exact ⟨u, by rw [List.getElem?_append_left (by omega)]; exact e1, reads_grownS e2 hg e3, f7 u q e2 e3⟩
  · obtain rfl : j = k := by omega
    rw [hp] at hq
    injection hq with hq
    subst hq
    exact ⟨r, by rw [List.getElem?_append_right (by omega), hus, Nat.sub_self]; rfl, reads_grownS hr hg (fun _ => hrv), f7 r p hr (fun _ => hrv)⟩
theorem SRow.list {w1 wr : World} {bss : List (List UInt8)} {k : Nat} {v : Value} (h : SRow w1 wr bss k v) (hk : k = bss.length) : RList wr v U bss := by
  obtain ⟨us, h1, h2, h3⟩ := h
  refine ⟨us, by rw [← hk]; exact Reads.of_owns h1, fun j q hj => ?_⟩
  obtain ⟨u, e1, e2, _⟩ := h2 j q (by rw [hk]; exact (List.getElem?_eq_some_iff.1 hj).1) hj
  exact ⟨u, e1, e2⟩

/-- What Sunken's closure stands on. -/
def SunA (W : World) (ns : List SNode) (fs : List SFile) (an ao : Option Addr) (capn cap GB OB FB : Nat) : Prop :=
  (W.cell? ⟨GB, 0, none⟩ = some (.slice an ns.length capn) ∧ W.cell? ⟨OB, 0, none⟩ = some (.func (.func 80) #[] #[.pointer (some ⟨GB, 0, none⟩), .pointer (some ⟨OB, 0, none⟩), .pointer (some ⟨FB, 0, none⟩)]) ∧ W.cell? ⟨FB, 0, none⟩ = some (.slice ao fs.length cap)) ∧
  RNodes W (.slice an ns.length capn) ns ∧ RFiles W (.slice ao fs.length cap) fs ∧ KnownE W ∧ W.ShapedOpen Tryz.prog
theorem SunA.below {W W' : World} {ns : List SNode} {fs : List SFile} {an ao : Option Addr} {capn cap GB OB FB : Nat} (h : SunA W ns fs an ao capn cap GB OB FB) (hb : Below W.heap.size W W') : SunA W' ns fs an ao capn cap GB OB FB := by
  obtain ⟨⟨h0, h1, h2⟩, h3, h4, h5, h6⟩ := h
  exact ⟨⟨(hb.cell (World.block_lt_of_cell? W _ h0)).trans h0, (hb.cell (World.block_lt_of_cell? W _ h1)).trans h1, (hb.cell (World.block_lt_of_cell? W _ h2)).trans h2⟩, h3.below hb, h4.below hb, h5.below hb, sh_below h6 hb⟩

/-- What the closure ends with. -/
def SunEnd (w : World) (b : List UInt8) (e : Ending) (w' : World) : Prop := ∃ a c, e = .returned (.slice a b.length c) ∧ Reads w' (.slice a b.length c) b.length (b.map U) ∧ Below w.heap.size w w' ∧ NewIn w.heap.size (.slice a b.length c)

/-- NodeMade, beside a box of two cells: one of the outputs. -/
theorem nm_in {W : World} {bx : Nat} {x0 x1 : Value} {n : SNode} {ai ao : Option Addr} {ci cap : Nat} {fs : List SFile} {v : Value} {o : List (List UInt8)} (hN : Calls Tryz.prog 81 #[nodeV n ai n.ins.length ci, .slice ao fs.length cap, v] W fun e w' => NMEnd W o e w')
    {q : Nat} {b : List UInt8} (hq : o[q]? = some b) (h0 : W.cell? ⟨bx, 0, none⟩ = some x0) (h1 : W.cell? ⟨bx, 1, none⟩ = some x1) :
    Calls Tryz.prog 81 #[nodeV n ai n.ins.length ci, .slice ao fs.length cap, v] W fun e w' => ∃ b1 off1 m1 c1 au cu, e = .returned (.slice (some ⟨b1, off1, none⟩) m1 c1) ∧ q < m1 ∧ m1 ≤ 9223372036854775807 ∧ w'.cell? ⟨b1, off1 + q, none⟩ = some (.slice au b.length cu) ∧
      Hid (Reads w' (.slice au b.length cu) b.length (b.map U)) ∧ Hid (NewIn W.heap.size (.slice au b.length cu)) ∧ Hid (Below W.heap.size W w') ∧ w'.cell? ⟨bx, 0, none⟩ = some x0 ∧ w'.cell? ⟨bx, 1, none⟩ = some x1 := by
  refine hN.mono ?_
  rintro e w' ⟨r, rfl, hr, hb⟩
  obtain ⟨b1, off, cp, au, cu, rfl, g1, g2, g3, g4, g5⟩ := hr.at hq
  have hql : q < o.length := (List.getElem?_eq_some_iff.1 hq).1
  unfold maxLen at g2
  exact ⟨b1, off, o.length, cp, au, cu, rfl, hql, by omega, g3, g4, g5, hb, (hb.cell (World.block_lt_of_cell? W _ h0)).trans h0, (hb.cell (World.block_lt_of_cell? W _ h1)).trans h1⟩

theorem port_get {fs : List SFile} {ns : List SNode} (h : gchk ns = 0) (hf : ∀ f ∈ fs, f.b.length ≤ 4000) {i q : Nat} {x : SNode} (hi : ns[i]? = some x) (hq : (q : Int) < nouts x) :
    (nodeMade x fs (x.ins.map (portAt (outsL fs [] (ns.take i)))))[q]? = some (portAt (outsL fs [] ns) ((i : Int), (q : Int))) := by
  have hil : i < ns.length := (List.getElem?_eq_some_iff.1 hi).1
  have hr := (right_node h hf hi).1
  have hc := nodeMade_count hr fs (x.ins.map (portAt (outsL fs [] (ns.take i))))
  have h1 := outs_get fs ns hi hil (Nat.le_refl _)
  rw [List.take_length] at h1
  have hql : q < (nodeMade x fs (x.ins.map (portAt (outsL fs [] (ns.take i))))).length := by omega
  have e : portAt (outsL fs [] ns) ((i : Int), (q : Int)) = ((outsL fs [] ns)[i]?.getD [])[q]?.getD [] := by simp [portAt]
  rw [e, h1]
  simp [hql]
theorem sunk_kind {fs : List SFile} {x : SNode} {q : Nat} (hq : (q : Int) < nouts x) : x.kind ≠ 5 := by
  intro h
  unfold nouts at hq
  rw [if_neg (by omega), if_pos h] at hq
  omega
end Go.Proofs.YtkifihcficobnabGreatDoor
namespace Go.Proofs.YtkifihcficobnabGreatDoor
open Go.RowKit Go.Gs
set_option linter.unusedVariables false

theorem addS (g j : Nat) : (⟨g, 0, none⟩ : Addr).add j = ⟨g, 0 + j, none⟩ := by unfold Addr.add; split <;> simp_all
theorem alloc1_cell (w : World) (r : Value) (t : TypeId) : (w.alloc (.cells #[r] t)).cell? ⟨w.heap.size, 0, none⟩ = some r := by
  rw [cell_of_row _ _ _ _ _ _ (heap_alloc_new w _)]
  rfl

set_option maxRecDepth 100000 in
set_option maxHeartbeats 16000000 in
theorem sunk1_step (ns : List SNode) (fs : List SFile) (an ao : Option Addr) (capn cap GB OB FB : Nat) (hg : gchk ns = 0) (hf4 : ∀ f ∈ fs, f.b.length ≤ 4000) (i : Nat)
    (IH : ∀ (i' q' : Nat) (x' : SNode), i' < i → ns[i']? = some x' → (q' : Int) < nouts x' → ∀ w, SunA w ns fs an ao capn cap GB OB FB →
      Calls Tryz.prog 80 #[.agg #[.int .i64 (i' : Int), .int .i64 (q' : Int)], .pointer (some ⟨GB, 0, none⟩), .pointer (some ⟨OB, 0, none⟩), .pointer (some ⟨FB, 0, none⟩)] w fun e w' => SunEnd w (portAt (outsL fs [] ns) ((i' : Int), (q' : Int))) e w')
    (q : Nat) (x : SNode) (hx : ns[i]? = some x) (hq : (q : Int) < nouts x) (hq5 : q ≤ 1000) (w : World) (hA : SunA w ns fs an ao capn cap GB OB FB) :
    Calls Tryz.prog 80 #[.agg #[.int .i64 (i : Int), .int .i64 (q : Int)], .pointer (some ⟨GB, 0, none⟩), .pointer (some ⟨OB, 0, none⟩), .pointer (some ⟨FB, 0, none⟩)] w fun e w' => SunEnd w (portAt (outsL fs [] ns) ((i : Int), (q : Int))) e w' := by
  obtain ⟨i1, hi', hy0, hy1, hy2⟩ := info_parts infoBsS
  obtain ⟨b, off, ai, ci, rfl, hNA, HP0⟩ := hA.2.1.at hx
  have hle := rnodes_le hA.2.1
  have hil : i < ns.length := (List.getElem?_eq_some_iff.1 hx).1
  obtain ⟨r1, r2, r3, r4⟩ := right_node hg hf4 hx
  have hn60 := (gchk_zero hg).1
  have hM5 := (right_ins r1).1
  have hpl := rports_le HP0
  have HP : Hid (RPorts w (.slice ai x.ins.length ci) x.ins) := HP0
  have HA : Hid (SunA w ns fs (some ⟨b, off, none⟩) ao capn cap GB OB FB) := hA
  obtain ⟨⟨cG, cO, cF⟩, _⟩ := id hA
  obtain ⟨c0, c1, c2, c3, c4, c5, c6, c7⟩ := hNA
  obtain ⟨bss, hbss⟩ : ∃ bss, bss = x.ins.map (portAt (outsL fs [] (ns.take i))) := ⟨_, rfl⟩
  have HNM : Hid _ := fun (W : World) (hb : Below w.heap.size w W) (v : Value) (hv : RList W v U bss) (bx : Nat) (x0 x1 : Value) (h0 : W.cell? ⟨bx, 0, none⟩ = some x0) (h1 : W.cell? ⟨bx, 1, none⟩ = some x1) =>
    nm_in (nm_is x ai ao ci cap fs v bss W r1 (sunk_kind (fs := fs) hq) hv (by rw [hbss]; simp) (by rw [hbss]; exact r4) (hA.below hb).2.2.1 hf4 (hA.below hb).2.2.2.1 (hA.below hb).2.2.2.2) (by rw [hbss]; exact port_get hg hf4 hx hq) h0 h1
  have HIH : Hid (∀ (j : Nat) (pp : Int × Int), x.ins[j]? = some pp → ∃ bj, bss[j]? = some bj ∧ ∀ W, Below w.heap.size w W → Calls Tryz.prog 80 #[.agg #[.int .i64 pp.1, .int .i64 pp.2], .pointer (some ⟨GB, 0, none⟩), .pointer (some ⟨OB, 0, none⟩), .pointer (some ⟨FB, 0, none⟩)] W fun e w' => SunEnd W bj e w') := (show ∀ (j : Nat) (pp : Int × Int), _ → _ from fun j pp hj => by
    have hpo := r2 pp (List.mem_of_getElem? hj)
    have hsame := port_same (fs := fs) (Nat.le_of_lt hil) hpo
    obtain ⟨i', k', n', rfl, hn', hk'⟩ := port_nat hpo
    have hi2 : i' < (ns.take i).length := (List.getElem?_eq_some_iff.1 hn').1
    rw [List.length_take] at hi2
    have hn2 : ns[i']? = some n' := by rwa [List.getElem?_take_of_lt (by omega)] at hn'
    refine ⟨portAt (outsL fs [] ns) ((i' : Int), (k' : Int)), ?_, fun W hb => IH i' k' n' (by omega) hn2 hk' W (hA.below hb)⟩
    rw [hbss, List.getElem?_map, hj, hsame]
    rfl)
  obtain ⟨M, hM⟩ : ∃ M, M = x.ins.length := ⟨_, rfl⟩
  have HM : Hid (M = x.ins.length) := hM
  have HML : Hid (M = bss.length) := (show _ = _ by rw [hM, hbss]; simp)
  obtain ⟨NL, hNL⟩ : ∃ NL, NL = ns.length := ⟨_, rfl⟩
  obtain ⟨NF, hNF⟩ : ∃ NF, NF = fs.length := ⟨_, rfl⟩
  rw [← hNL] at cG hil hn60 hle
  rw [← hNF] at cF
  rw [← hM] at c7 hM5 hpl HP
  obtain ⟨px, hpx⟩ : ∃ px, px = x.ins := ⟨_, rfl⟩
  rw [← hpx] at HIH HP
  have HPM : Hid (M = px.length) := (show _ = _ by rw [hpx]; exact hM)
  unfold nodeV at HNM
  rw [← hM, ← hNF] at HNM
  generalize portAt (outsL fs [] ns) ((i : Int), (q : Int)) = bq at *
  generalize (⟨x.file.toArray⟩ : ByteArray) = fx at *
  generalize (⟨x.c.word.toArray⟩ : ByteArray) = wx0 at *
  generalize x.c.kind = ck at *
  generalize x.c.n = cn at *
  generalize x.how = hw at *
  generalize x.wide = wd at *
  generalize x.kind = nk at *
  have eg : ∀ args w, (callFunc 80 args).run Tryz.prog w = .ok (.enter 80 args) w := enters_of Tryz.func80 (by kernel_rfl) rfl
  clear hA HP0 r1 r2 r3 r4 hx hq hg hf4 IH hM hbss hNL hNF hpx
  have hX1 : Below w.heap.size w (w.alloc (.cells #[.int .i64 (i : Int), .int .i64 (q : Int)] 98)) := box_of
  have d0 := (hX1.cell (World.block_lt_of_cell? w _ c0)).trans c0
  have d1 := (hX1.cell (World.block_lt_of_cell? w _ c1)).trans c1
  have d2 := (hX1.cell (World.block_lt_of_cell? w _ c2)).trans c2
  have d3 := (hX1.cell (World.block_lt_of_cell? w _ c3)).trans c3
  have d4 := (hX1.cell (World.block_lt_of_cell? w _ c4)).trans c4
  have d5 := (hX1.cell (World.block_lt_of_cell? w _ c5)).trans c5
  have d6 := (hX1.cell (World.block_lt_of_cell? w _ c6)).trans c6
  have d7 := (hX1.cell (World.block_lt_of_cell? w _ c7)).trans c7
  have dG := (hX1.cell (World.block_lt_of_cell? w _ cG)).trans cG
  clear hX1
  go_enter Tryz.func80, Tryz.ntmps80
  go_wp2_with fail
  go_loopw [7, 19] (fun v j wr => ∃ k : Nat, k ≤ M ∧ j = .int .i64 k ∧ Hid (SRow ((w.alloc (.cells #[.int .i64 (i : Int), .int .i64 (q : Int)] 98)).alloc (.cells #[.int .i64 nk, .string fx, .int .i64 ck, .string wx0, .int .i64 cn, .int .i64 hw, .int .i64 wd, .slice ai M ci] 62)) wr bss k v)) (fun _ j _ => M - (intOf j).toNat)
  case atStart => exact ⟨0, Nat.zero_le _, rfl, SRow.start⟩
  case round =>
    clear d0 d1 d2 d3 d4 d5 d6 d7 dG c0 c1 c2 c3 c4 c5 c6 c7
    obtain ⟨k, hk, rfl, hrel⟩ := hrel
    have HBr1 : Hid _ := (show Below _ _ _ by obtain ⟨us, _, _, h3⟩ := hrel.out; exact h3)
    have HBw : Hid (Below w.heap.size w wr) := ((Below.refl _ w).alloc (Nat.le_refl _) _ |>.alloc (by simp) _).trans (HBr1.out.mono (by simp; omega))
    have hws : w.heap.size + 2 ≤ wr.heap.size := by have := HBr1.out.size; simpa using this
    have hcO := (HBw.out.cell (World.block_lt_of_cell? w _ cO)).trans cO
    by_cases hlt : k < M
    · obtain ⟨pp, hpk⟩ : ∃ pp, px[k]? = some pp := ⟨_, List.getElem?_eq_getElem (by have := HPM.out; omega)⟩
      obtain ⟨bj, hbj, hcal⟩ := HIH.out k pp hpk
      obtain ⟨pb, po, rfl, p0, p1⟩ := (HP.out.below HBw.out).at hpk
      have hbx : Below wr.heap.size wr (wr.alloc (.cells #[.int .i64 pp.1, .int .i64 pp.2] 98)) := box_of
      have HC : Hid _ := hcal _ (HBw.out.trans (hbx.mono HBw.out.size))
      have HBX : Hid _ := hbx
      have hcO2 := (hbx.cell (World.block_lt_of_cell? wr _ hcO)).trans hcO
      have HBJ : Hid (bss[k]? = some bj) := hbj
      clear hcal hbj hpk hbx
      generalize pp.1 = pp1 at *
      generalize pp.2 = pp2 at *
      go_wp2_with fail
      refine Calls.mono HC.out ?_
      rintro e w3 ⟨a3, c3, rfl, R3, B3, N3⟩
      have hX3 : Below wr.heap.size wr w3 := HBX.out.trans (B3.mono HBX.out.size)
      have HX3 : Hid (Below wr.heap.size wr w3) := hX3
      have HR3 : Hid (Reads w3 (.slice a3 bj.length c3) bj.length (bj.map U)) := R3
      have HN3 : Hid (NewIn wr.heap.size (.slice a3 bj.length c3)) := N3.mono HBX.out.size
      obtain ⟨L3, hL3⟩ : ∃ L, L = bj.length := ⟨_, rfl⟩
      have HL3 : Hid (L3 = bj.length) := hL3
      rw [← hL3] at HR3 HN3
      rw [← hL3]
      clear hL3
      have hX4 : Below wr.heap.size wr (w3.alloc (.cells #[.slice a3 L3 c3] 24)) := hX3.trans (box_of.mono hX3.size)
      have HS3 : Hid _ := hrel.out.below hX4
      obtain ⟨us, o1, o2, o3⟩ := HS3.out
      have HO2 : Hid _ := o2
      have HO3 : Hid _ := o3
      have HFR : Hid (far (.slice a3 L3 c3) u7) := (show far _ _ from fun g hgr hv => by
        have h1 := hrel.out.lt g hv
        cases a3 with
        | none => simp [Value.ownBlock] at hgr
        | some a =>
          have h2 := HN3.out a _ _ rfl
          simp only [Value.ownBlock, Option.some.injEq] at hgr
          omega)
      clear R3 B3 N3 hX3 hX4 HC o2 o3 HBX hcO2
      go_wp2_with (at_builtin; refine wpList_append_own_at _ rfl (.tmp 23) (.tmp 27) 96 rfl _ 24 i1 (.slice none 0 0) 1 24 Tryz.underlying96 hi' hy0 hy1 hy2 rfl (by decide) _ _ _ rfl o1 ⟨w3.heap.size, 0, none⟩ 1 1 [.slice a3 L3 c3] rfl rfl ?c1 ?c2 ?c3 ?c4 ?c5 ?_)
      case c1 =>
        intro j u hj
        match j, hj with
        | 0, hj =>
          simp at hj; subst hj
          rw [addS]
          exact alloc1_cell _ _ _
      case c2 => intro u hu; simp at hu; subst hu; rfl
      case c3 => unfold maxLen; omega
      case c4 => omega
      case c5 => have := HX3.out.size; simp; omega
      intro v7' w4 hown2 hgrow2 _ hat2
      have HS4 : Hid _ := SRow.done HBJ.out o1 HO2.out HO3.out (by have := HR3.out.below (box_of (w := w3) (o := .cells #[.slice a3 L3 c3] 24)); rw [HL3.out] at this ⊢; exact this) HFR.out (by simpa using hown2) hgrow2 (by simpa using hat2)
      clear hown2 hgrow2 hat2 o1 HO2 HO3 HS3 HFR
      go_wp2_with fail
      go_roundw
      case rel => exact ⟨k + 1, by omega, by go_num, HS4⟩
      case measure => simp [intOf]; omega
    · have hkM : k = M := by omega
      have HL : Hid (RList wr u7 U bss) := hrel.out.list (by rw [← HML.out]; exact hkM)
      obtain ⟨av, cv, rfl, hv1, hv2⟩ := HL.out.shape
      have hdr : Below wr.heap.size wr wr.drew := (Below.refl _ _).drew
      obtain ⟨y0, y1, y2, y3, y4, y5, y6, y7⟩ := nbox_cells HBr1.out
      have hz : (w.alloc (.cells #[.int .i64 (i : Int), .int .i64 (q : Int)] 98)).heap.size = w.heap.size + 1 := by simp
      rw [hz] at y0 y1 y2 y3 y4 y5 y6 y7
      have hB1 : Below (w.heap.size + 1) (w.alloc (.cells #[.int .i64 (i : Int), .int .i64 (q : Int)] 98)) wr := ((Below.refl _ (w.alloc (.cells #[.int .i64 (i : Int), .int .i64 (q : Int)] 98))).alloc (by simp) _).trans (HBr1.out.mono (by simp))
      have z0 : wr.cell? ⟨w.heap.size, 0, none⟩ = some (.int .i64 (i : Int)) := by rw [hB1.cell (by simp), cell_of_row _ _ _ _ _ _ (heap_alloc_new w _)]; rfl
      have z1 : wr.cell? ⟨w.heap.size, 1, none⟩ = some (.int .i64 (q : Int)) := by rw [hB1.cell (by simp), cell_of_row _ _ _ _ _ _ (heap_alloc_new w _)]; rfl
      have hcF := (HBw.out.cell (World.block_lt_of_cell? w _ cF)).trans cF
      have HN1 : Hid _ := HNM.out wr.drew (HBw.out.trans (hdr.mono HBw.out.size)) (.slice av bss.length cv) (HL.out.below hdr) w.heap.size (.int .i64 (i : Int)) (.int .i64 (q : Int)) ((hdr.cell (World.block_lt_of_cell? wr _ z0)).trans z0) ((hdr.cell (World.block_lt_of_cell? wr _ z1)).trans z1)
      have HBD : Hid (Below w.heap.size w wr.drew) := HBw.out.trans (hdr.mono HBw.out.size)
      obtain ⟨DL, hDL⟩ : ∃ DL, DL = bq.length := ⟨_, rfl⟩
      have HDL : Hid (DL = bq.length) := hDL
      rw [← hDL] at HN1
      generalize bss.length = BL at *
      clear hrel HL hdr hB1 HNM hDL hv1 hv2 HBr1 hcO HIH HP hz
      go_upto_region 8 with fail
      go_region_with (first
        | (go_at_call 81; refine Calls.mono HN1.out ?_; rintro e w5 ⟨b1, off1, m1, cc1, au, cu, rfl, q1, q2, q3, R5, N5, B5, v0, v1⟩))
      all_goals
        have HB5 : Hid (Below w.heap.size w w5) := HBD.out.trans (B5.out.mono HBD.out.size)
        have HN5 : Hid (NewIn w.heap.size (.slice au DL cu)) := N5.out.mono HBD.out.size
        clear B5 N5 HN1
        go_wp2_with fail
        go_ret
        rw [HDL.out] at HN5 R5 ⊢
        exact ⟨au, cu, rfl, R5.out, HB5.out, HN5.out⟩
end Go.Proofs.YtkifihcficobnabGreatDoor
namespace Go.Proofs.YtkifihcficobnabGreatDoor
open Go.RowKit Go.Gs
set_option linter.unusedVariables false

theorem nouts_le {n : SNode} (h : nodeChk n = 0) : nouts n ≤ 5 := by
  obtain ⟨h1, _, _⟩ := node_kinds h
  unfold nouts
  rcases used_kinds h1 with ⟨h3 | h3, _⟩ | ⟨h3, h4, h5⟩ | ⟨h3, h4⟩ | ⟨h3, h4⟩
  · rw [if_neg (by omega), if_neg (by omega)]; omega
  · rw [if_neg (by omega), if_pos h3]; omega
  · rw [if_pos h3]; exact h5
  · rw [if_neg (by omega), if_neg (by omega)]; omega
  · rw [if_neg (by omega), if_neg (by omega)]; omega
theorem sunk1_is (ns : List SNode) (fs : List SFile) (an ao : Option Addr) (capn cap GB OB FB : Nat) (hg : gchk ns = 0) (hf4 : ∀ f ∈ fs, f.b.length ≤ 4000) : ∀ (i q : Nat) (x : SNode), ns[i]? = some x → (q : Int) < nouts x → ∀ w, SunA w ns fs an ao capn cap GB OB FB →
      Calls Tryz.prog 80 #[.agg #[.int .i64 (i : Int), .int .i64 (q : Int)], .pointer (some ⟨GB, 0, none⟩), .pointer (some ⟨OB, 0, none⟩), .pointer (some ⟨FB, 0, none⟩)] w fun e w' => SunEnd w (portAt (outsL fs [] ns) ((i : Int), (q : Int))) e w' := by
  intro i
  induction i using Nat.strongRecOn with
  | _ i ih =>
    intro q x hx hq w hA
    have := nouts_le (right_node hg hf4 hx).1
    exact sunk1_step ns fs an ao capn cap GB OB FB hg hf4 i (fun i' q' x' hi hx' hq' w hA => ih i' hi q' x' hx' hq' w hA) q x hx hq (by omega) w hA

set_option maxRecDepth 100000 in
set_option maxHeartbeats 16000000 in
theorem sunken_ref (ns : List SNode) (fs : List SFile) (an ao : Option Addr) (capn cap : Nat) (w : World) (hr : RNodes w (.slice an ns.length capn) ns) (hf : RFiles w (.slice ao fs.length cap) fs) (hg : gchk ns = 0) (hf4 : ∀ f ∈ fs, f.b.length ≤ 4000) (hE : KnownE w) (hsh : w.ShapedOpen Tryz.prog) :
    Calls Tryz.prog 40 #[.agg #[.slice an ns.length capn], .slice ao fs.length cap] w fun e w' => SunEnd w (sunk ns fs) e w' := by
  obtain ⟨hN60, _, hN0, _⟩ := gchk_zero hg
  have hle := rnodes_le hr
  obtain ⟨m, hm⟩ : ∃ m, ns.length = m + 1 := ⟨ns.length - 1, by omega⟩
  obtain ⟨x, hx⟩ : ∃ x, ns[m]? = some x := ⟨_, List.getElem?_eq_getElem (by omega)⟩
  obtain ⟨b, off, ai, ci, rfl, hNA, HP⟩ := hr.at hx
  obtain ⟨r1, r2, r3, r4⟩ := right_node hg hf4 hx
  have hn5 : x.kind = 5 := r3.2 hm.symm
  have hpl := rports_le HP
  have hni1 : x.ins.length = 1 := (right_ins r1).2 (.inr (.inr hn5))
  obtain ⟨p0, hp0⟩ : ∃ p0, x.ins = [p0] := by
    match hh : x.ins, hni1 with
    | [p0], _ => exact ⟨p0, rfl⟩
  have hpo := r2 p0 (by rw [hp0]; simp)
  obtain ⟨i', k', n', rfl, hn', hk'⟩ := port_nat hpo
  have hi2 : i' < (ns.take m).length := (List.getElem?_eq_some_iff.1 hn').1
  rw [List.length_take] at hi2
  have hn2 : ns[i']? = some n' := by rwa [List.getElem?_take_of_lt (by omega)] at hn'
  have hk5 : k' ≤ 5 := by have := nouts_le (right_node hg hf4 hn2).1; omega
  have hSU : sunk ns fs = portAt (outsL fs [] ns) ((i' : Int), (k' : Int)) := by rw [sunk_last (n := x) (by rw [hm]; exact hx), hp0]; rfl
  obtain ⟨pb, po, hai, p1, p2⟩ := HP.at (k := 0) (p := ((i' : Int), (k' : Int))) (by rw [hp0]; rfl)
  subst hai
  obtain ⟨c0, c1, c2, c3, c4, c5, c6, c7⟩ := hNA
  have HC : Hid _ := fun (W : World) (GB OB FB : Nat) (hA : SunA W ns fs (some ⟨b, off, none⟩) ao capn cap GB OB FB) => sunk1_is ns fs (some ⟨b, off, none⟩) ao capn cap GB OB FB hg hf4 i' k' n' hn2 hk' W hA
  rw [← hSU] at HC
  have HSA : Hid (∀ (W : World) (GB OB FB : Nat), Below w.heap.size w W → W.cell? ⟨GB, 0, none⟩ = some (.slice (some ⟨b, off, none⟩) ns.length capn) → W.cell? ⟨OB, 0, none⟩ = some (.func (.func 80) #[] #[.pointer (some ⟨GB, 0, none⟩), .pointer (some ⟨OB, 0, none⟩), .pointer (some ⟨FB, 0, none⟩)]) → W.cell? ⟨FB, 0, none⟩ = some (.slice ao fs.length cap) → SunA W ns fs (some ⟨b, off, none⟩) ao capn cap GB OB FB) := (show ∀ (W : World) (GB OB FB : Nat), _ from fun W GB OB FB hb h1 h2 h3 => ⟨⟨h1, h2, h3⟩, hr.below hb, hf.below hb, hE.below hb, sh_below hsh hb⟩)
  rw [hni1] at c7 hpl
  obtain ⟨N, hN⟩ : ∃ N, N = ns.length := ⟨_, rfl⟩
  rw [← hN] at hle HSA ⊢
  obtain ⟨NF, hNF⟩ : ∃ NF, NF = fs.length := ⟨_, rfl⟩
  rw [← hNF] at HSA
  rw [← hNF]
  obtain ⟨SK, hSK⟩ : ∃ SK, SK = sunk ns fs := ⟨_, rfl⟩
  rw [← hSK] at HC
  rw [← hSK]
  have hm1 : (N : Int) - 1 = (m : Int) := by omega
  have hmN : m < N := by omega
  have hN60' : N ≤ 60 := by omega
  have hmw : IntKind.i64.wrap (m : Int) = (m : Int) := by rw [IntKind.wrap_i64]; omega
  rw [Nat.zero_mul, Nat.add_zero] at p1 p2
  have hsf := fun (a : Addr) (c : Array Value) (w : World) => run_store Tryz.prog w a (.func (.func 80) #[] c) .plain rfl
  have eg : ∀ args w, (callFunc 80 args).run Tryz.prog w = .ok (.enter 80 args) w := enters_of Tryz.func80 (by kernel_rfl) rfl
  clear hN hm hr hf hE hsh hg hf4 HP r1 r2 r3 r4 hx hn2 hn' hk' hpo hp0 hSU hNF hSK hN60 hN0 hni1 hi2
  go_enter Tryz.func40, Tryz.ntmps40
  go_upto_region 3 with fail
  obtain ⟨V, hV⟩ : ∃ V, V = (((w.alloc (.cells #[.slice (some ⟨b, off, none⟩) N capn] 57)).alloc (.cells #[.slice ao NF cap] 22)).alloc (.cells #[.func (.func 80) #[] #[.pointer (some ⟨w.heap.size, 0, none⟩), .pointer (some ⟨w.heap.size + 1 + 1, 0, none⟩), .pointer (some ⟨w.heap.size + 1, 0, none⟩)]] 112)) := ⟨_, rfl⟩
  have h1 : Below w.heap.size w (w.alloc (.cells #[.slice (some ⟨b, off, none⟩) N capn] 57)) := box_of
  have h2 : Below (w.heap.size + 1) (w.alloc (.cells #[.slice (some ⟨b, off, none⟩) N capn] 57)) ((w.alloc (.cells #[.slice (some ⟨b, off, none⟩) N capn] 57)).alloc (.cells #[.slice ao NF cap] 22)) := by simpa using (box_of (w := w.alloc (.cells #[.slice (some ⟨b, off, none⟩) N capn] 57)) (o := .cells #[.slice ao NF cap] 22))
  have h3 : Below (w.heap.size + 1 + 1) ((w.alloc (.cells #[.slice (some ⟨b, off, none⟩) N capn] 57)).alloc (.cells #[.slice ao NF cap] 22)) V := by
    rw [hV]
    have := (box_of (w := (w.alloc (.cells #[.slice (some ⟨b, off, none⟩) N capn] 57)).alloc (.cells #[.slice ao NF cap] 22)) (o := .cells #[.func (.func 80) #[] #[.pointer (some ⟨w.heap.size, 0, none⟩), .pointer (some ⟨w.heap.size + 1 + 1, 0, none⟩), .pointer (some ⟨w.heap.size + 1, 0, none⟩)]] 112))
    simpa using this
  have n1 := heap_alloc_new w (.cells #[.slice (some ⟨b, off, none⟩) N capn] 57)
  have n2 := heap_alloc_new (w.alloc (.cells #[.slice (some ⟨b, off, none⟩) N capn] 57)) (.cells #[.slice ao NF cap] 22)
  have n3 := heap_alloc_new ((w.alloc (.cells #[.slice (some ⟨b, off, none⟩) N capn] 57)).alloc (.cells #[.slice ao NF cap] 22)) (.cells #[.func (.func 80) #[] #[.pointer (some ⟨w.heap.size, 0, none⟩), .pointer (some ⟨w.heap.size + 1 + 1, 0, none⟩), .pointer (some ⟨w.heap.size + 1, 0, none⟩)]] 112)
  rw [show (w.alloc (.cells #[.slice (some ⟨b, off, none⟩) N capn] 57)).heap.size = w.heap.size + 1 by simp] at n2
  rw [show ((w.alloc (.cells #[.slice (some ⟨b, off, none⟩) N capn] 57)).alloc (.cells #[.slice ao NF cap] 22)).heap.size = w.heap.size + 1 + 1 by simp] at n3
  have e0 : V.cell? ⟨w.heap.size, 0, none⟩ = some (.slice (some ⟨b, off, none⟩) N capn) := by rw [h3.cell (by simp; omega), h2.cell (by simp), cell_of_row _ _ _ _ _ _ n1]; rfl
  have e2 : V.cell? ⟨w.heap.size + 1, 0, none⟩ = some (.slice ao NF cap) := by rw [h3.cell (by simp), cell_of_row _ _ _ _ _ _ n2]; rfl
  have e1 : V.cell? ⟨w.heap.size + 1 + 1, 0, none⟩ = some (.func (.func 80) #[] #[.pointer (some ⟨w.heap.size, 0, none⟩), .pointer (some ⟨w.heap.size + 1 + 1, 0, none⟩), .pointer (some ⟨w.heap.size + 1, 0, none⟩)]) := by rw [hV, cell_of_row _ _ _ _ _ _ n3]; rfl
  have hB : Below w.heap.size w V := (h1.trans (h2.mono (by omega))).trans (h3.mono (by omega))
  rw [← hV]
  have HB : Hid (Below w.heap.size w V) := hB
  have d7 := (hB.cell (World.block_lt_of_cell? w _ c7)).trans c7
  have t1 := (hB.cell (World.block_lt_of_cell? w _ p1)).trans p1
  have t2 := (hB.cell (World.block_lt_of_cell? w _ p2)).trans p2
  have hdr : Below V.heap.size V V.drew := (Below.refl _ _).drew
  have HC1 : Hid _ := HC.out V.drew w.heap.size (w.heap.size + 1 + 1) (w.heap.size + 1) (HSA.out V.drew w.heap.size (w.heap.size + 1 + 1) (w.heap.size + 1) (hB.trans (hdr.mono hB.size)) ((hdr.cell (World.block_lt_of_cell? V _ e0)).trans e0) ((hdr.cell (World.block_lt_of_cell? V _ e1)).trans e1) ((hdr.cell (World.block_lt_of_cell? V _ e2)).trans e2))
  have HBD : Hid (Below w.heap.size w V.drew) := hB.trans (hdr.mono hB.size)
  simp only at t1 t2
  obtain ⟨SL, hSL⟩ : ∃ SL, SL = SK.length := ⟨_, rfl⟩
  clear hV h1 h2 h3 n1 n2 n3 hB hdr HC HSA c0 c1 c2 c3 c4 c5 c6 c7 p1 p2 hsf
  go_region_with (first
    | (go_at_fn 80; refine Calls.mono HC1.out ?_; rintro e w5 ⟨a5, c5, rfl, R5, B5, N5⟩))
  all_goals
    have HB5 : Hid (Below w.heap.size w w5) := HBD.out.trans (B5.mono HBD.out.size)
    have HN5 : Hid (NewIn w.heap.size (.slice a5 SK.length c5)) := N5.mono HBD.out.size
    have HR5 : Hid _ := R5
    clear B5 N5 R5 HC1
    go_wp2_with fail
    go_ret
    exact ⟨a5, c5, rfl, HR5.out, HB5.out, HN5.out⟩
end Go.Proofs.YtkifihcficobnabGreatDoor
