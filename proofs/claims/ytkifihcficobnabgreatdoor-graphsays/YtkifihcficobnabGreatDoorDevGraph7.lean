/- What the developers' closure 'coming' does. -/
import Derived.Test.YtkifihcficobnabGreatDoorDevGraph6
import Derived.Test.YtkifihcficobnabGreatDoorDevGraph5
namespace Go.Proofs.YtkifihcficobnabGreatDoor
open Go.RowKit Go.Gs
set_option linter.unusedVariables false

theorem infoBsG : (Tryz.prog.info? 24).map (fun i => (i.zero, i.size, i.bytes)) = some (some (.slice none 0 0), 1, 24) := by kernel_rfl
/-- What the loop of coming stands on. -/
def CRel (w wr : World) (bss : List (List UInt8)) (G i : Nat) : Prop :=
  ∃ vs : List Value, wr.heap[G]? = some (.cells vs.toArray 24 (0, 0)) ∧ vs.length = bss.length ∧ (∀ (j : Nat) (p : List UInt8), j < i → bss[j]? = some p → ∃ u, vs[j]? = some u ∧ Reads wr u p.length (p.map U)) ∧ (∀ j, i ≤ j → j < bss.length → vs[j]? = some (.slice none 0 0)) ∧ Below w.heap.size w wr
theorem slice_not_UG {l : List UInt8} {a : Option Addr} {n c : Nat} : Value.slice a n c ∉ l.map U := by
  intro h
  obtain ⟨x, _, e⟩ := List.mem_map.1 h
  cases e
theorem CRel.cell {w wr : World} {bss : List (List UInt8)} {G i : Nat} (h : CRel w wr bss G i) (hi : i < bss.length) : wr.cell? ⟨G, i, none⟩ = some (.slice none 0 0) ∧ wr.frozen? ⟨G, i, none⟩ = false ∧ G < wr.heap.size := by
  obtain ⟨vs, h1, h2, h3, h4, h5⟩ := h
  refine ⟨?_, frozen_of_row _ _ _ _ _ h1, ?_⟩
  · rw [cell_of_row _ _ _ _ _ _ h1]
    simpa using h4 i (Nat.le_refl _) hi
  · rcases Nat.lt_or_ge G wr.heap.size with h | h
    · exact h
    · rw [Array.getElem?_eq_none h] at h1; cases h1
theorem CRel.below {w wr w1 : World} {bss : List (List UInt8)} {G i : Nat} (h : CRel w wr bss G i) (hb : Below wr.heap.size wr w1) (hG : G < wr.heap.size) : CRel w w1 bss G i := by
  obtain ⟨vs, h1, h2, h3, h4, h5⟩ := h
  refine ⟨vs, by rw [hb.block G hG]; exact h1, h2, fun j p hj hp => ?_, h4, h5.trans (hb.mono h5.size)⟩
  obtain ⟨u, h6, h7⟩ := h3 j p hj hp
  exact ⟨u, h6, h7.below hb⟩
theorem CRel.step {w wr : World} {bss : List (List UInt8)} {G i : Nat} {u : Value} {p : List UInt8} (h : CRel w wr bss G i) (hp : bss[i]? = some p) (hu : Reads wr u p.length (p.map U)) (hG : w.heap.size ≤ G) : CRel w (wr.setCell ⟨G, i, none⟩ u) bss G (i + 1) := by
  have hi : i < bss.length := (List.getElem?_eq_some_iff.1 hp).1
  obtain ⟨hc, _, _⟩ := h.cell hi
  obtain ⟨vs, h1, h2, h3, h4, h5⟩ := h
  refine ⟨vs.set i u, by rw [heap_setCell_same _ _ _ _ _ _ h1]; simp, by simp [h2], fun j q hj hq => ?_, fun j hj hjl => ?_, h5.setCell hG _⟩
  · by_cases hji : i = j
    · subst hji
      rw [hp] at hq
      injection hq with hq
      subst hq
      exact ⟨u, List.getElem?_set_self (by omega), hu.setCell hc u slice_not_UG⟩
    · obtain ⟨u', h6, h7⟩ := h3 j q (by omega) hq
      exact ⟨u', by rw [List.getElem?_set_ne hji]; exact h6, h7.setCell hc u slice_not_UG⟩
  · rw [List.getElem?_set_ne (by omega)]
    exact h4 j (by omega) hjl
theorem CRel.done {w wr : World} {bss : List (List UInt8)} {G i : Nat} (h : CRel w wr bss G i) (hi : i = bss.length) (hn : bss.length ≤ 1000) : RList wr (.slice (some ⟨G, 0, none⟩) bss.length bss.length) U bss := by
  subst hi
  obtain ⟨vs, h1, h2, h3, h4, h5⟩ := h
  refine ⟨vs, ⟨by simp [h2], _, _, rfl, by simp, by unfold maxLen; omega, fun _ => ⟨G, 0, rfl, fun j u hu => ?_⟩⟩, fun j p hj => ?_⟩
  · rw [Nat.zero_add, cell_of_row _ _ _ _ _ _ h1]
    simpa using hu
  · exact h3 j p (List.getElem?_eq_some_iff.1 hj).1 hj

/-- What the nodes so far gave out, in the row of block 'OB'. -/
def ROuts (w : World) (OB N : Nat) (outs : List (List (List UInt8))) : Prop :=
  ∃ us : List Value, w.heap[OB]? = some (.cells us.toArray 96 (0, 0)) ∧ us.length = N ∧ outs.length ≤ N ∧ (∀ (j : Nat) o, outs[j]? = some o → ∃ u, us[j]? = some u ∧ RList w u U o ∧ ∀ a n c, u = .slice (some a) n c → a.block ≠ OB) ∧
    ∀ j, outs.length ≤ j → j < N → us[j]? = some (.slice none 0 0)
theorem ROuts.lt {w : World} {OB N : Nat} {outs : List (List (List UInt8))} (h : ROuts w OB N outs) : OB < w.heap.size := by
  obtain ⟨us, h1, _⟩ := h
  rcases Nat.lt_or_ge OB w.heap.size with h | h
  · exact h
  · rw [Array.getElem?_eq_none h] at h1; cases h1
theorem ROuts.below {w w' : World} {OB N : Nat} {outs : List (List (List UInt8))} (h : ROuts w OB N outs) (hb : Below w.heap.size w w') : ROuts w' OB N outs := by
  have hl := h.lt
  obtain ⟨us, h1, h2, h3, h4, h5⟩ := h
  refine ⟨us, by rw [hb.block OB hl]; exact h1, h2, h3, fun j o hj => ?_, h5⟩
  obtain ⟨u, a1, a2, a3⟩ := h4 j o hj
  exact ⟨u, a1, a2.below hb, a3⟩
/-- One port's bytes: where they lie. -/
theorem ROuts.at {w : World} {OB N : Nat} {outs : List (List (List UInt8))} (h : ROuts w OB N outs) {i k : Nat} {o : List (List UInt8)} {b : List UInt8} (hi : outs[i]? = some o) (hk : o[k]? = some b) :
    ∃ b1 off1 m1 c1 au cu, w.cell? ⟨OB, i, none⟩ = some (.slice (some ⟨b1, off1, none⟩) m1 c1) ∧ k < m1 ∧ m1 ≤ 9223372036854775807 ∧ w.cell? ⟨b1, off1 + k, none⟩ = some (.slice au b.length cu) ∧ Reads w (.slice au b.length cu) b.length (b.map U) ∧ i < N := by
  obtain ⟨us, h1, h2, h3, h4, h5⟩ := h
  obtain ⟨u, a1, a2, a3⟩ := h4 i o hi
  obtain ⟨ao, cap, rfl, hs1, hs2⟩ := a2.shape
  obtain ⟨b1, off1, au, cu, rfl, hc, hr⟩ := a2.at hk
  have hil : i < outs.length := (List.getElem?_eq_some_iff.1 hi).1
  have hkl : k < o.length := (List.getElem?_eq_some_iff.1 hk).1
  unfold maxLen at hs2
  refine ⟨b1, off1, o.length, cap, au, cu, ?_, hkl, by omega, hc, hr, by omega⟩
  rw [cell_of_row _ _ _ _ _ _ h1]
  simpa using a1

set_option maxRecDepth 100000 in
set_option maxHeartbeats 8000000 in
theorem coming_is (n : SNode) (ai : Option Addr) (ci CB OB N : Nat) (outs : List (List (List UInt8))) (w : World) (hc : w.cell? ⟨CB, 0, none⟩ = some (.slice (some ⟨OB, 0, none⟩) N N)) (ho : ROuts w OB N outs) (hN60 : N ≤ 60) (hp : RPorts w (.slice ai n.ins.length ci) n.ins) (h5 : n.ins.length ≤ 5)
    (hok : ∀ p ∈ n.ins, ∃ (i k : Nat) (o : List (List UInt8)) (b : List UInt8), p = ((i : Int), (k : Int)) ∧ outs[i]? = some o ∧ o[k]? = some b) :
    Calls Tryz.prog 70 #[nodeV n ai n.ins.length ci, .pointer (some ⟨CB, 0, none⟩)] w fun e w' => ∃ r, e = .returned r ∧ RList w' r U (n.ins.map (portAt outs)) ∧ Below w.heap.size w w' := by
  obtain ⟨i1, hi', hy0, hy1, hy2⟩ := info_parts infoBsG
  have hle := rports_le hp
  have HP : Hid (RPorts w (.slice ai n.ins.length ci) n.ins) := hp
  have HO : Hid (ROuts w OB N outs) := ho
  have HOK : Hid _ := hok
  have HC : Hid (w.cell? ⟨CB, 0, none⟩ = some (.slice (some ⟨OB, 0, none⟩) N N)) := hc
  obtain ⟨M, hM⟩ : ∃ M, M = n.ins.length := ⟨_, rfl⟩
  have HM : Hid (M = n.ins.length) := hM
  obtain ⟨bss, hbss⟩ : ∃ bss, bss = n.ins.map (portAt outs) := ⟨_, rfl⟩
  have HBS : Hid (bss = n.ins.map (portAt outs)) := hbss
  have HML : Hid (M = bss.length) := (show _ = _ by rw [hM, hbss]; simp)
  have hM5 : M ≤ 5 := by omega
  have hb4 : i1.bytes * M ≤ 281474976710656 := by rw [hy2]; omega
  have hb5 : M ≤ maxLen := by unfold maxLen; omega
  unfold nodeV
  rw [← hM, ← hbss]
  rw [← hM] at HP hle
  generalize (⟨n.file.toArray⟩ : ByteArray) = fx
  generalize (⟨n.c.word.toArray⟩ : ByteArray) = wx0
  generalize n.c.kind = ck
  generalize n.c.n = cn
  generalize n.how = hw
  generalize n.wide = wd
  generalize n.kind = nk
  clear hp ho hc hok hM hbss h5
  go_enter Tryz.func70, Tryz.ntmps70
  go_wp2_with (at_make; refine wpList_make_full _ rfl (.tmp 9) (.tmp 9) 96 rfl (w.heap.size + 1) 24 i1 (.slice none 0 0) 1 Tryz.underlying96 hi' hy0 hy1 .i64 .i64 _ _ M rfl rfl rfl rfl hb4 hb5 (by simp) ?_)
  intro w3 hout3 hgrow3
  have hC8 : Cells8 w3 w.heap.size (.int .i64 nk) (.string fx) (.int .i64 ck) (.string wx0) (.int .i64 cn) (.int .i64 hw) (.int .i64 wd) (.slice ai M ci) := nbox_cells (below_grown hgrow3 (Nat.le_refl _))
  obtain ⟨y0, y1, y2, y3, y4, y5, y6, y7⟩ := hC8
  have HD3 : Hid (CRel (w.alloc (.cells #[.int .i64 nk, .string fx, .int .i64 ck, .string wx0, .int .i64 cn, .int .i64 hw, .int .i64 wd, .slice ai M ci] 62)) w3 bss (w.heap.size + 1) 0) := by
    refine ⟨List.replicate M (.slice none 0 0), ?_, by simp [HML.out], fun j p hj => absurd hj (Nat.not_lt_zero _), fun j _ hj => ?_, below_grown hgrow3 (Nat.le_refl _)⟩
    · have := (row_of_owns hout3).1
      rw [toList_madeCells_one] at this
      exact this
    · rw [List.getElem?_replicate, if_pos (by rw [HML.out]; exact hj)]
  clear hout3 hgrow3
  go_wp2_with fail
  go_loopw [14] (fun i wr => ∃ k : Nat, k ≤ M ∧ i = .int .i64 k ∧ Hid (CRel (w.alloc (.cells #[.int .i64 nk, .string fx, .int .i64 ck, .string wx0, .int .i64 cn, .int .i64 hw, .int .i64 wd, .slice ai M ci] 62)) wr bss (w.heap.size + 1) k)) (fun i _ => M - (intOf i).toNat)
  case atStart => exact ⟨0, Nat.zero_le _, rfl, HD3.out⟩
  case round =>
    clear HD3 y0 y1 y2 y3 y4 y5 y6 y7
    obtain ⟨j, hjM, rfl, hrel⟩ := hrel
    have HBr : Hid (Below w.heap.size w wr) := by obtain ⟨vs, _, _, _, _, h5⟩ := hrel.out; exact box_of.trans (h5.mono (by simp))
    by_cases hlt : j < M
    · obtain ⟨p, hpk⟩ : ∃ p, n.ins[j]? = some p := ⟨_, List.getElem?_eq_getElem (by have := HM.out; omega)⟩
      obtain ⟨i, k, o, b, rfl, hoi, hbk⟩ := HOK.out p (List.mem_of_getElem? hpk)
      obtain ⟨pb, po, rfl, p0, p1⟩ := (HP.out.below HBr.out).at hpk
      obtain ⟨b1, off1, m1, c1, au, cu, hc1, hkm, hm1, hc2, hrb, hiN⟩ := (HO.out.below HBr.out).at hoi hbk
      have hcc := (HBr.out.cell (World.block_lt_of_cell? w _ HC.out)).trans HC.out
      have hpb : bss[j]? = some b := by
        rw [HBS.out, List.getElem?_map, hpk]
        simp [portAt, hoi, hbk]
      obtain ⟨hcG, hfG, hG⟩ := hrel.out.cell (by have := HML.out; omega)
      have hbx : Below wr.heap.size wr (wr.alloc (.cells #[.int .i64 (i : Int), .int .i64 (k : Int)] 98)).drew := box_of.drew
      have hD4 := hrel.out.below hbx hG
      have HD5 : Hid (CRel (w.alloc (.cells #[.int .i64 nk, .string fx, .int .i64 ck, .string wx0, .int .i64 cn, .int .i64 hw, .int .i64 wd, .slice (some ⟨pb, po, none⟩) M ci] 62)) (((wr.setCell ⟨w.heap.size + 1, j, none⟩ (.slice au b.length cu)).alloc (.cells #[.int .i64 (i : Int), .int .i64 (k : Int)] 98)).drew) bss (w.heap.size + 1) (j + 1)) := (hrel.out.step hpb hrb (by simp)).below box_of.drew (by simpa using hG)
      have q0 := (hbx.cell (World.block_lt_of_cell? wr _ hcc)).trans hcc
      have q1 := (hbx.cell (World.block_lt_of_cell? wr _ hc1)).trans hc1
      have q2 := (hbx.cell (World.block_lt_of_cell? wr _ hc2)).trans hc2
      obtain ⟨q3, q4, _⟩ := hD4.cell (by have := HML.out; omega)
      generalize b.length = bl at *
      clear hpk hoi hbk hrb hpb hD4 hbx hrel hcG hfG
      go_wp2_with fail
      go_region_with fail
      all_goals
        go_wp2_with fail
        go_roundw
        case rel => exact ⟨j + 1, by omega, by go_num, HD5.out⟩
        case measure => simp [intOf]; omega
    · have hjM' : j = M := by omega
      have HF : Hid (RList wr (.slice (some ⟨w.heap.size + 1, 0, none⟩) M M) U bss) := (show RList _ _ _ _ by
        have h := hrel.out.done (by rw [← HML.out]; exact hjM') (by rw [← HML.out]; omega)
        rw [← HML.out] at h
        exact h)
      clear hrel
      go_wp2_with fail
      go_ret
      exact ⟨_, rfl, HF.out, HBr.out⟩
end Go.Proofs.YtkifihcficobnabGreatDoor
