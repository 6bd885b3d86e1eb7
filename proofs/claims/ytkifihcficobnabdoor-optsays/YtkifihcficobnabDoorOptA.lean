/- What the developers' add of a draft does. What the developers' join and behind of a draft do. What stands between the rounds of the developers' command of a draft. -/
import Derived.Test.YtkifihcficobnabDoorDevGraph1o
namespace Go.Proofs.YtkifihcficobnabDoor
open Go.RowKit Go.Gs
set_option linter.unusedVariables false

theorem infoPortO : (Tryd.prog.info? 70).map (fun i => (i.zero, i.size, i.bytes)) = some (some (.agg #[.int .i64 0, .int .i64 0]), 2, 16) := by kernel_rfl
theorem infoNodeO : (Tryd.prog.info? 63).map (fun i => (i.zero, i.size, i.bytes)) = some (some (.agg #[.int .i64 0, .string ⟨#[]⟩, .int .i64 0, .string ⟨#[]⟩, .int .i64 0, .int .i64 0, .int .i64 0, .slice none 0 0]), 8, 96) := by kernel_rfl
/-- The cells of ports. -/
def pCells (ps : List (Int × Int)) : List Value := (ps.map fun p => [.int .i64 p.1, .int .i64 p.2]).flatten
theorem pCells_length (ps : List (Int × Int)) : (pCells ps).length = ps.length * 2 := by
  induction ps with
  | nil => rfl
  | cons p r ih =>
    have : pCells (p :: r) = [.int .i64 p.1, .int .i64 p.2] ++ pCells r := rfl
    rw [this, List.length_append, ih]
    simp; omega
theorem pCells_at : ∀ (ps : List (Int × Int)) (j : Nat) (p : Int × Int), ps[j]? = some p → (pCells ps)[j * 2]? = some (.int .i64 p.1) ∧ (pCells ps)[j * 2 + 1]? = some (.int .i64 p.2)
  | [], j, p, h => by simp at h
  | d :: l, 0, p, h => by simp at h; subst h; exact ⟨rfl, rfl⟩
  | d :: l, j + 1, p, h => by
    have ih := pCells_at l j p (by simpa using h)
    have e : pCells (d :: l) = [.int .i64 d.1, .int .i64 d.2] ++ pCells l := rfl
    rw [e]
    refine ⟨?_, ?_⟩
    · rw [List.getElem?_append_right (by simp; omega)]; simpa [show (j + 1) * 2 - 2 = j * 2 by omega] using ih.1
    · rw [List.getElem?_append_right (by simp; omega)]; simpa [show (j + 1) * 2 + 1 - 2 = j * 2 + 1 by omega] using ih.2
/-- What add answers. -/
def AddEnd (w : World) (B D : Nat) (X : Nat → Prop) (v vo : Value) (rows : List NRow) (r : NRow) (k : Nat) (e : Ending) (w' : World) : Prop :=
  ∃ v' b, e = .returned (.slice (some ⟨b, 0, none⟩) k k) ∧ w'.heap[D]? = some (.cells #[v', vo] 60 (0, 0)) ∧ NO w' B D X 63 v' (rows ++ [r]) ∧ w.heap.size ≤ b ∧ v'.ownBlock ≠ some b ∧
    w'.heap[b]? = some (.cells (pCells (newPorts rows.length k)).toArray 70 (0, 0)) ∧ Kept D v.ownBlock noX w w' ∧ Nxt w v.ownBlock v'.ownBlock
theorem newPorts_succ (m k : Nat) : pCells (newPorts m (k + 1)) = pCells (newPorts m k) ++ [.int .i64 (m : Int), .int .i64 (k : Int)] := by
  simp [pCells, newPorts, List.range_succ]
theorem set_two (cs : List Value) (j : Nat) (a b : Value) (h : j + 1 < cs.length) : ((cs.set j a).set (j + 1) b).take (j + 2) = cs.take j ++ [a, b] := by
  apply List.ext_getElem?
  intro i
  rw [List.getElem?_take]
  by_cases h1 : i < j
  · rw [if_pos (by omega), List.getElem?_set_ne (by omega), List.getElem?_set_ne (by omega), List.getElem?_append_left (by simp; omega), List.getElem?_take, if_pos h1]
  · by_cases h2 : i = j
    · subst h2
      rw [if_pos (by omega), List.getElem?_set_ne (by omega), List.getElem?_set_self (by omega), List.getElem?_append_right (by simp; omega)]
      simp [Nat.min_eq_left (by omega : i ≤ cs.length)]
    · by_cases h3 : i = j + 1
      · subst h3
        rw [if_pos (by omega), List.getElem?_set_self (by simp; omega), List.getElem?_append_right (by simp; omega)]
        simp [Nat.min_eq_left (by omega : j ≤ cs.length)]
      · rw [if_neg (by omega), List.getElem?_eq_none]
        simp
        omega
/-- The ports of a new node, as many as there are yet. -/
def PAt (w wr : World) (G N m k : Nat) : Prop := ∃ cs : List Value, wr.heap[G]? = some (.cells cs.toArray 70 (0, 0)) ∧ cs.length = N * 2 ∧ cs.take (k * 2) = pCells (newPorts m k) ∧ (∀ j, j < N * 2 → ∃ x, cs[j]? = some (.int .i64 x)) ∧ Below w.heap.size w wr
theorem PAt.start {w w3 : World} {N m : Nat} (ho : w3.ownsRow w.heap.size 70 2 (.slice (some ⟨w.heap.size, 0, none⟩) N N) N (madeCells (Value.agg #[.int .i64 0, .int .i64 0]).cells (N * 2)).toList) (hg : w.grownBy w3 none) : PAt w w3 w.heap.size N m 0 ∧ w.heap.size < w3.heap.size := by
  obtain ⟨h1, h2 | ⟨g, cap, cur, h2, h3, h4, h5, h6, h7, h8⟩⟩ := ho
  · cases h2.1
  · injection h2 with e1 e2 e3
    injection e1 with e1
    injection e1 with e1
    subst e1 e3
    have hx : cur.toList = (madeCells (Value.agg #[.int .i64 0, .int .i64 0]).cells (N * 2)).toList := by
      rw [← h8, List.take_of_length_le (by simp [h7])]
    have hlt : w.heap.size < w3.heap.size := by
      rcases Nat.lt_or_ge w.heap.size w3.heap.size with h | h
      · exact h
      · rw [Array.getElem?_eq_none h] at h4; cases h4
    refine ⟨⟨cur.toList, by rw [h4], by rw [hx, h1], by simp [pCells, newPorts], fun j hj => ⟨0, ?_⟩, below_grownO hg (Nat.le_refl _)⟩, hlt⟩
    rw [hx, Array.getElem?_toList]
    unfold madeCells
    rw [Array.getElem?_map, Array.getElem?_range]
    have hm : j % 2 = 0 ∨ j % 2 = 1 := by omega
    rcases hm with hm | hm <;> simp [hj, Value.cells, hm]
theorem PAt.cells {w wr : World} {G N m k : Nat} (h : PAt w wr G N m k) (hk : k < N) : ∃ x y, wr.cell? ⟨G, k * 2, none⟩ = some (.int .i64 x) ∧ wr.cell? ⟨G, k * 2 + 1, none⟩ = some (.int .i64 y) ∧ wr.frozen? ⟨G, k * 2, none⟩ = false ∧ wr.frozen? ⟨G, k * 2 + 1, none⟩ = false := by
  obtain ⟨cs, h1, h2, h3, h4, h5⟩ := h
  obtain ⟨x, hx⟩ := h4 (k * 2) (by omega)
  obtain ⟨y, hy⟩ := h4 (k * 2 + 1) (by omega)
  exact ⟨x, y, by rw [cell_of_row _ _ _ _ _ _ h1]; simpa using hx, by rw [cell_of_row _ _ _ _ _ _ h1]; simpa using hy, frozen_of_row _ _ _ _ _ h1, frozen_of_row _ _ _ _ _ h1⟩
theorem PAt.step {w wr : World} {G N m k : Nat} (h : PAt w wr G N m k) (hk : k < N) (hG : w.heap.size ≤ G) : PAt w ((wr.setCell ⟨G, k * 2, none⟩ (.int .i64 (m : Int))).setCell ⟨G, k * 2 + 1, none⟩ (.int .i64 (k : Int))) G N m (k + 1) := by
  obtain ⟨cs, h1, h2, h3, h4, h5⟩ := h
  have e1 : (wr.setCell ⟨G, k * 2, none⟩ (.int .i64 (m : Int))).heap[G]? = some (.cells (cs.set (k * 2) (.int .i64 (m : Int))).toArray 70 (0, 0)) := by
    rw [heap_setCell_same _ _ _ _ _ _ h1]; simp
  refine ⟨(cs.set (k * 2) (.int .i64 (m : Int))).set (k * 2 + 1) (.int .i64 (k : Int)), by rw [heap_setCell_same _ _ _ _ _ _ e1]; simp, by simp [h2], ?_, fun j hj => ?_, (h5.setCell hG _).setCell hG _⟩
  · rw [show (k + 1) * 2 = k * 2 + 2 by omega, set_two cs (k * 2) _ _ (by omega), h3, newPorts_succ]
  · obtain ⟨x, hx⟩ := h4 j hj
    by_cases e : j = k * 2 + 1
    · exact ⟨_, by rw [e, List.getElem?_set_self (by simp; omega)]⟩
    · rw [List.getElem?_set_ne (by omega)]
      by_cases e' : j = k * 2
      · exact ⟨_, by rw [e', List.getElem?_set_self (by omega)]⟩
      · exact ⟨x, by rw [List.getElem?_set_ne (by omega)]; exact hx⟩
theorem PAt.done {w wr : World} {G N m k : Nat} (h : PAt w wr G N m k) (hk : k = N) : wr.heap[G]? = some (.cells (pCells (newPorts m N)).toArray 70 (0, 0)) := by
  subst hk
  obtain ⟨cs, h1, h2, h3, h4, h5⟩ := h
  rw [List.take_of_length_le (by omega)] at h3
  rw [h1, h3]
theorem cells_newO (w : World) (cs : List Value) (t : TypeId) : ∀ j u, cs[j]? = some u → (w.alloc (.cells cs.toArray t)).cell? ((⟨w.heap.size, 0, none⟩ : Addr).add j) = some u := by
  intro j u hj
  have e : ((⟨w.heap.size, 0, none⟩ : Addr).add j) = ⟨w.heap.size, j, none⟩ := by
    simp [Addr.add]
    try omega
  rw [e, cell_of_row _ _ _ _ _ _ (heap_alloc_new w _)]
  simpa using hj
theorem add_fin {w w2 wr W w' : World} {B D : Nat} {X : Nat → Prop} {v vo v' : Value} {rows : List NRow} {r : NRow} {k : Nat} (HD : w.heap[D]? = some (.cells #[v, vo] 60 (0, 0))) (hN : NO w B D X 63 v rows) (hP : POff w D v.ownBlock X r.2.1 r.2.2 r.1.ins)
    (h2 : w.heap.size ≤ w2.heap.size) (hw2 : w2.heap.size < wr.heap.size) (hbr : Below w.heap.size w wr) (hbW : Below wr.heap.size wr W) (hp : wr.heap[w2.heap.size]? = some (.cells (pCells (newPorts rows.length k)).toArray 70 (0, 0)))
    (hown : w'.ownsRow B 63 8 v' (rows.length + 1) (nodeCells rows ++ encN r)) (hg : W.grownBy w' v.ownBlock) (hl : v'.ownBlock = v.ownBlock ∨ v'.ownBlock = some W.heap.size) :
    AddEnd w B D X v vo rows r k (.returned (.slice (some ⟨w2.heap.size, 0, none⟩) k k)) (w'.setCell ⟨D, 0, none⟩ v') := by
  have hbw : Below w.heap.size w W := hbr.trans (hbW.mono hbr.size)
  have hDl : D < w.heap.size := by
    rcases Nat.lt_or_ge D w.heap.size with h | h
    · exact h
    · rw [Array.getElem?_eq_none h] at HD; cases HD
  have hNW := hN.below hbw
  have hPW : POff W D v.ownBlock X r.2.1 r.2.2 r.1.ins := hP.keep (Kept.of_below hbw) (Nxt.refl _ _) (NxtX.refl _ _)
  obtain ⟨q1, q2, q3⟩ := hNW.app hPW (Nat.lt_of_lt_of_le hDl hbw.size) hown hg hl
  have hWs := hbW.size
  have hDW : w'.heap[D]? = some (.cells #[v, vo] 60 (0, 0)) := by
    rw [hg.block D (by have := hbw.size; omega) (fun e => hN.off e.symm), hbw.block D hDl]; exact HD
  have hne : v'.ownBlock ≠ some w2.heap.size := by
    rcases hl with e | e
    · rw [e]; intro e2; have := (hN.base _ e2).2; omega
    · rw [e]; intro e2; injection e2 with e2; omega
  refine ⟨v', _, rfl, ?_, q1.set rfl, h2, hne, ?_, ?_, ?_⟩
  · rw [heap_setCell_same _ _ _ _ _ _ hDW]; simp
  · rw [Below.heap_setCell _ _ _ _ (by simp; omega), hg.block _ (by omega) (fun e => by have := (hN.base _ e.symm).2; omega), hbW.block _ hw2]
    exact hp
  · refine Kept.set ?_ rfl
    exact (Kept.of_below hbw).trans q2 (Nxt.refl _ _) (NxtX.refl _ _)
  · rcases q3 with e | ⟨g, e, hg'⟩
    · exact .inl e
    · exact .inr ⟨g, e, by have := hbw.size; omega⟩

set_option maxRecDepth 100000 in
set_option maxHeartbeats 4000000 in
theorem add_is (n : SNode) (ai : Option Addr) (ci D B : Nat) (X : Nat → Prop) (v vo : Value) (rows : List NRow) (w : World) (k : Nat) (hk : nouts n = (k : Int)) (h5 : k ≤ 5)
    (hD : w.heap[D]? = some (.cells #[v, vo] 60 (0, 0))) (hN : NO w B D X 63 v rows) (hP : POff w D v.ownBlock X ai ci n.ins) (hl : rows.length ≤ 60) (hB : B ≤ D) (hBw : B ≤ w.heap.size) :
    Calls Tryd.prog 20 #[.pointer (some ⟨D, 0, none⟩), nodeV n ai n.ins.length ci] w fun e w' => AddEnd w B D X v vo rows (n, ai, ci) k e w' := by
  have HO : Hid _ := fun (W : World) => outs_is n ai n.ins.length ci W
  have HNO : Hid (NO w B D X 63 v rows) := hN
  have HPO : Hid (POff w D v.ownBlock X ai ci n.ins) := hP
  have HD : Hid (w.heap[D]? = some (.cells #[v, vo] 60 (0, 0))) := hD
  obtain ⟨av, cv, rfl, hv1, hv2⟩ := hN.form
  have hcD0 : w.cell? ⟨D, 0, none⟩ = some (.slice av rows.length cv) := by rw [cell_of_row _ _ _ _ _ _ hD]; rfl
  have hDl : D < w.heap.size := World.block_lt_of_cell? w _ hcD0
  have HC0 : Hid _ := hcD0
  obtain ⟨i1, hi', hy0, hy1, hy2⟩ := info_parts infoPortO
  have hb4 : i1.bytes * k ≤ 281474976710656 := by rw [hy2]; omega
  have hb5 : k ≤ maxLen := by unfold maxLen; omega
  rw [hk] at HO
  unfold nodeV at HO ⊢
  have HER : Hid (encN (n, ai, ci) = [.int .i64 n.kind, .string ⟨n.file.toArray⟩, .int .i64 n.c.kind, .string ⟨n.c.word.toArray⟩, .int .i64 n.c.n, .int .i64 n.how, .int .i64 n.wide, .slice ai n.ins.length ci]) := (show _ = _ from rfl)
  obtain ⟨r, hr⟩ : ∃ r : NRow, r = (n, ai, ci) := ⟨_, rfl⟩
  rw [← hr] at HER ⊢
  have HPO' : Hid (POff w D (Value.slice av rows.length cv).ownBlock X r.2.1 r.2.2 r.1.ins) := by rw [hr]; exact HPO
  clear hP HPO hr hk hN hD hcD0
  generalize n.kind = nk at *
  generalize (⟨n.file.toArray⟩ : ByteArray) = fx at *
  generalize n.c.kind = ck at *
  generalize (⟨n.c.word.toArray⟩ : ByteArray) = wx at *
  generalize n.c.n = cn at *
  generalize n.how = hw at *
  generalize n.wide = wd at *
  generalize n.ins.length = ni at *
  obtain ⟨NR, hNR⟩ : ∃ N, N = rows.length := ⟨_, rfl⟩
  have HNR : Hid (NR = rows.length) := hNR
  rw [← hNR] at hl hv1 HC0 HD HNO HPO' ⊢
  clear hNR
  go_enter Tryd.func20, Tryd.ntmps20
  go_wp2_with fail
  refine Calls.mono (HO.out _) ?_
  rintro e w2 ⟨rfl, hb2⟩
  have hbx : Below w.heap.size w w2 := box_of.trans (hb2.mono (by simp))
  have HB2 : Hid (Below w.heap.size w w2) := hbx
  have HN8 : Hid (w2.heap[w.heap.size]? = some (.cells #[.int .i64 nk, .string fx, .int .i64 ck, .string wx, .int .i64 cn, .int .i64 hw, .int .i64 wd, .slice ai ni ci] 63 (0, 0))) := (show _ = _ by rw [hb2.block _ (by simp)]; exact heap_alloc_new w _)
  have hs2 : w.heap.size < w2.heap.size := by have := hb2.size; simp at this; omega
  clear hb2 HO hbx
  go_wp2_with (at_make; refine wpList_make_full _ rfl (.tmp 8) (.tmp 8) 58 rfl w2.heap.size 70 i1 (.agg #[.int .i64 0, .int .i64 0]) 2 Tryd.underlying58 hi' hy0 hy1 .i64 .i64 _ _ k rfl rfl rfl rfl hb4 hb5 (Nat.le_refl _) ?_)
  intro w3 hout3 hgrow3
  obtain ⟨hp3, hs3⟩ := PAt.start (m := NR) hout3 hgrow3
  have HP3 : Hid (PAt w2 w3 w2.heap.size k NR 0) := hp3
  clear hout3 hgrow3 hp3
  go_wp2_with fail
  go_loopw [12] (fun i wr => ∃ j : Nat, j ≤ k ∧ i = .int .i64 j ∧ Hid (PAt w2 wr w2.heap.size k NR j)) (fun i _ => k - (intOf i).toNat)
  case atStart => exact ⟨0, Nat.zero_le _, rfl, HP3.out⟩
  case round =>
    obtain ⟨j, hjk, rfl, hrel⟩ := hrel
    have HBr : Hid (Below w2.heap.size w2 wr) := by obtain ⟨cs, _, _, _, _, h5⟩ := hrel.out; exact h5
    have HBw : Hid (Below w.heap.size w wr) := HB2.out.trans (HBr.out.mono HB2.out.size)
    have hc0 := (HBw.out.cell (World.block_lt_of_cell? w _ HC0.out)).trans HC0.out
    by_cases hlt : j < k
    · obtain ⟨x, y, q1, q2, q3, q4⟩ := hrel.out.cells hlt
      have HST : Hid _ := hrel.out.step hlt (Nat.le_refl _)
      clear hrel
      go_wp2_with fail
      exact ⟨⟨j + 1, by omega, by go_num, HST.out⟩, by simp [intOf]; omega⟩
    · have hjk' : j = k := by omega
      have HPD : Hid (wr.heap[w2.heap.size]? = some (.cells (pCells (newPorts NR k)).toArray 70 (0, 0))) := hrel.out.done hjk'
      have hw2r : w2.heap.size < wr.heap.size := by
        have := HPD.out
        rcases Nat.lt_or_ge w2.heap.size wr.heap.size with h | h
        · exact h
        · rw [Array.getElem?_eq_none h] at this; cases this
      have hn8 : wr.heap[w.heap.size]? = some (.cells #[.int .i64 nk, .string fx, .int .i64 ck, .string wx, .int .i64 cn, .int .i64 hw, .int .i64 wd, .slice ai ni ci] 63 (0, 0)) := (HBr.out.block _ hs2).trans HN8.out
      have n8 : ∀ i : Nat, wr.cell? ⟨w.heap.size, i, none⟩ = #[.int .i64 nk, .string fx, .int .i64 ck, .string wx, .int .i64 cn, .int .i64 hw, .int .i64 wd, .slice ai ni ci][i]? := fun i => cell_of_row _ _ _ _ _ _ hn8
      have c0 := n8 0
      have c1 := n8 1
      have c2 := n8 2
      have c3 := n8 3
      have c4 := n8 4
      have c5 := n8 5
      have c6 := n8 6
      have c7 := n8 7
      simp at c0 c1 c2 c3 c4 c5 c6 c7
      have hc0q : ∀ q, (wr.alloc q).cell? ⟨D, 0, none⟩ = some (.slice av NR cv) := fun q => (box_of.cell (World.block_lt_of_cell? wr _ hc0)).trans hc0
      obtain ⟨i2, hj', hz0, hz1, hz2⟩ := info_parts infoNodeO
      have HOW : Hid _ := fun (W : World) (hb : Below wr.heap.size wr W) => (HNO.out.below (HBw.out.trans (hb.mono HBw.out.size))).own
      rw [← HNR.out] at HOW
      have hfD : ∀ w' : World, w'.heap[D]? = some (.cells #[.slice av NR cv, vo] 60 (0, 0)) → w'.cell? ⟨D, 0, none⟩ = some (.slice av NR cv) ∧ w'.frozen? ⟨D, 0, none⟩ = false := fun w' h => ⟨by rw [cell_of_row _ _ _ _ _ _ h]; rfl, frozen_of_row _ _ _ _ _ h⟩
      clear hrel n8 hn8
      go_upto_region 7 with fail
      have HDW : Hid _ := fun (W w' : World) (hb : Below wr.heap.size wr W) (hg : W.grownBy w' (Value.slice av NR cv).ownBlock) => hfD w' (by
        have hbw := HBw.out.trans (hb.mono HBw.out.size)
        rw [hg.block D (by have := hbw.size; omega) (fun e => HNO.out.off e.symm), hbw.block D hDl]; exact HD.out)
      clear hfD
      go_region_law (refine step_append_ownO rfl (.tmp 30) (.tmp 32) 33 rfl B 63 i2 _ 8 96 Tryd.underlying33 hj' hz0 hz1 hz2 rfl (by omega) (.slice av NR cv) NR (nodeCells rows) (by simp [Act.eval]) (HOW.out _ (by first | exact box_of | exact box_of.drew)) ⟨wr.heap.size, 0, none⟩ 1 1 (encN r) (by simp [Act.eval]) (by rw [HER.out]; rfl) (by rw [HER.out]; exact cells_newO _ _ _) (encN_one r) (by unfold maxLen; omega) (by omega) (by have := HBw.out.size; simp; omega) ?_; intro v4 w4 ow4 gr4 nn4 bl4; obtain ⟨d0, f0⟩ := HDW.out _ _ (by first | exact box_of | exact box_of.drew) gr4; obtain ⟨a4, c4, rfl, _, _⟩ := owns_formO ow4)
      all_goals
        have HF : Hid (AddEnd w B D X (.slice av NR cv) vo rows r k (.returned (.slice (some ⟨w2.heap.size, 0, none⟩) k k)) (w4.setCell ⟨D, 0, none⟩ (.slice a4 (NR + 1) c4))) :=
          add_fin HD.out HNO.out HPO'.out (by omega) hw2r HBw.out (by first | exact box_of | exact box_of.drew) (by rw [← HNR.out]; exact HPD.out) (by rw [← HNR.out]; exact ow4) gr4 bl4
        clear ow4 gr4 nn4 bl4 d0 f0 HDW HOW
        go_wp2_with fail
        go_ret
        exact HF.out
end Go.Proofs.YtkifihcficobnabDoor
namespace Go.Proofs.YtkifihcficobnabDoor
open Go.RowKit Go.Gs
set_option linter.unusedVariables false

/-- A draft lies in block D. -/
def DSt (w : World) (B D : Nat) (go : Option Nat) (X : Nat → Prop) (d : PD) : Prop := ∃ (v : Value) (rows : List NRow) (ao : Option Addr) (co : Nat), go = v.ownBlock ∧ w.heap[D]? = some (.cells #[v, .slice ao d.2.length co] 60 (0, 0)) ∧ NO w B D X 63 v rows ∧ rows.map (·.1) = d.1 ∧ POff w D v.ownBlock X ao co d.2 ∧ B ≤ D ∧ ∀ k, X k → k < w.heap.size
def DStep (w w' : World) (B D : Nat) (go : Option Nat) (X : Nat → Prop) (d : PD) : Prop := ∃ go', DSt w' B D go' X d ∧ Kept D go noX w w' ∧ Nxt w go go'
theorem block_ltO {w : World} {D : Nat} {o : Obj} (h : w.heap[D]? = some o) : D < w.heap.size := by
  rcases Nat.lt_or_ge D w.heap.size with h1 | h1
  · exact h1
  · rw [Array.getElem?_eq_none h1] at h; cases h
theorem DSt.below {w w' : World} {B D : Nat} {go : Option Nat} {X : Nat → Prop} {d : PD} (h : DSt w B D go X d) (hb : Below w.heap.size w w') : DSt w' B D go X d := by
  obtain ⟨v, rows, ao, co, h1, h2, h3, h4, h5, h6, h7⟩ := h
  exact ⟨v, rows, ao, co, h1, (hb.block _ (block_ltO h2)).trans h2, h3.below hb, h4, h5.keep (Kept.of_below hb) (Nxt.refl _ _) (NxtX.refl _ _), h6, fun k hk => Nat.lt_of_lt_of_le (h7 k hk) hb.size⟩
theorem DStep.pre {w0 w w' : World} {B D : Nat} {go : Option Nat} {X : Nat → Prop} {d : PD} (h : DStep w w' B D go X d) (hb : Below w0.heap.size w0 w) : DStep w0 w' B D go X d := by
  obtain ⟨go', h1, h2, h3⟩ := h
  refine ⟨go', h1, (Kept.of_below hb).trans h2 (Nxt.refl _ _) (NxtX.refl _ _), ?_⟩
  rcases h3 with e | ⟨g, e, hg⟩
  · exact .inl e
  · exact .inr ⟨g, e, Nat.le_trans hb.size hg⟩
theorem DStep.post {w w' w2 : World} {B D : Nat} {go : Option Nat} {X : Nat → Prop} {d : PD} (h : DStep w w' B D go X d) (hb : Below w'.heap.size w' w2) : DStep w w2 B D go X d := by
  obtain ⟨go', h1, h2, h3⟩ := h
  exact ⟨go', h1.below hb, h2.trans (Kept.of_below hb) h3 (NxtX.refl _ _), h3⟩
theorem DStep.trans {w w1 w2 : World} {B D : Nat} {go : Option Nat} {X : Nat → Prop} {d d2 : PD} (h : DStep w w1 B D go X d) (k : ∀ g1, DSt w1 B D g1 X d → DStep w1 w2 B D g1 X d2) : DStep w w2 B D go X d2 := by
  obtain ⟨g1, h1, h2, h3⟩ := h
  obtain ⟨g2, k1, k2, k3⟩ := k g1 h1
  exact ⟨g2, k1, h2.trans k2 h3 (NxtX.refl _ _), h3.trans k3 h2.size⟩
theorem rports_newO {w : World} {b n k : Nat} (h : w.heap[b]? = some (.cells (pCells (newPorts n k)).toArray 70 (0, 0))) (hk : k ≤ 5) : RPorts w (.slice (some ⟨b, 0, none⟩) (newPorts n k).length k) (newPorts n k) := by
  refine ⟨_, k, rfl, by rw [newPorts_len]; exact Nat.le_refl _, by unfold maxLen; omega, fun _ => ⟨b, 0, rfl, fun j p hp => ?_⟩⟩
  obtain ⟨a1, a2⟩ := pCells_at _ j p hp
  rw [Nat.zero_add, cell_of_row _ _ _ _ _ _ h, cell_of_row _ _ _ _ _ _ h]
  exact ⟨by simpa using a1, by simpa using a2⟩
/-- What is open then: the new node's ports. -/
theorem open_new {w w' : World} {B D b k : Nat} {X : Nat → Prop} (hX : ∀ k, X k → k < w.heap.size) {v v' vo : Value} {rows : List NRow} {r : NRow} (hB : B ≤ D) (hDl : D < w.heap.size) (hk5 : k ≤ 5) (hD : w'.heap[D]? = some (.cells #[v', vo] 60 (0, 0))) (hN : NO w' B D X 63 v' (rows ++ [r])) (hb : w.heap.size ≤ b) (hne : v'.ownBlock ≠ some b)
    (hp : w'.heap[b]? = some (.cells (pCells (newPorts rows.length k)).toArray 70 (0, 0))) (hk : Kept D v.ownBlock noX w w') (hn : Nxt w v.ownBlock v'.ownBlock) :
    DStep w (w'.setCell ⟨D, 1, none⟩ (.slice (some ⟨b, 0, none⟩) k k)) B D v.ownBlock X (rows.map (·.1) ++ [r.1], newPorts rows.length k) := by
  have hbD : b ≠ D := by omega
  refine ⟨v'.ownBlock, ⟨v', rows ++ [r], some ⟨b, 0, none⟩, k, rfl, ?_, hN.set rfl, by simp, ⟨?_, ?_⟩, hB, fun k h => Nat.lt_of_lt_of_le (hX k h) (by simpa using hk.size)⟩, hk.set rfl, hn⟩
  · rw [heap_setCell_same _ _ _ _ _ _ hD]; simp [newPorts_len]
  · have hp' : (w'.setCell ⟨D, 1, none⟩ (.slice (some ⟨b, 0, none⟩) k k)).heap[b]? = some (.cells (pCells (newPorts rows.length k)).toArray 70 (0, 0)) := (Below.heap_setCell _ _ _ _ hbD).trans hp
    exact rports_newO hp' hk5
  · intro _ a ha hf
    injection ha with ha
    subst ha
    rcases hf with e | e | e
    · exact hbD e
    · exact hne e
    · have := hX _ e; simp only at this; omega

set_option maxRecDepth 100000 in
set_option maxHeartbeats 4000000 in
theorem join_is (how : Int) (c : Cmd) (B D : Nat) (go : Option Nat) (X : Nat → Prop) (d : PD) (w : World) (h : DSt w B D go X d) (hl : d.1.length ≤ 60) (hBw : B ≤ w.heap.size) :
    Calls Tryd.prog 42 #[.pointer (some ⟨D, 0, none⟩), .int .i64 how, c.v] w fun e w' => e = .returned (.tuple #[]) ∧ DStep w w' B D go X (pJoinAll how c d) := by
  obtain ⟨v, rows, ao, co, rfl, hD, hN, hrows, hP, hB, hX⟩ := h
  obtain ⟨ns, op⟩ := d
  simp only at hD hrows hP hl ⊢
  have hDl := block_ltO hD
  have hrl : rows.length ≤ 60 := by rw [← hrows] at hl; simpa using hl
  have HADD : Hid _ := fun (W : World) (hb : Below w.heap.size w W) => add_is (joinN how c op) ao co D B X v (.slice ao op.length co) rows W 1 rfl (by omega) ((hb.block _ hDl).trans hD) (hN.below hb) (hP.keep (Kept.of_below hb) (Nxt.refl _ _) (NxtX.refl _ _)) hrl hB (Nat.le_trans hBw hb.size)
  have HFIN : Hid _ := fun (W w' : World) (v' : Value) (b : Nat) (hb : Below w.heap.size w W) (q1 : w'.heap[D]? = some (.cells #[v', .slice ao op.length co] 60 (0, 0))) (q2 : NO w' B D X 63 v' (rows ++ [(joinN how c op, ao, co)])) (q3 : W.heap.size ≤ b) (q4 : v'.ownBlock ≠ some b) q5 (q6 : Kept D v.ownBlock noX W w') (q7 : Nxt W v.ownBlock v'.ownBlock) =>
    (open_new (X := X) (fun k h => Nat.lt_of_lt_of_le (hX k h) hb.size) (k := 1) (vo := .slice ao op.length co) (v := v) hB (Nat.lt_of_lt_of_le hDl hb.size) (by omega) q1 q2 q3 q4 q5 q6 q7).pre hb
  have hfin : (rows.map (·.1) ++ [(joinN how c op, ao, co).1], newPorts rows.length 1) = pJoinAll how c (ns, op) := by
    rw [hrows, newPorts_one]
    unfold pJoinAll
    simp only [← hrows, List.length_map]
  rw [hfin] at HFIN
  have hD1 : ∀ W, Below w.heap.size w W → W.cell? ⟨D, 1, none⟩ = some (.slice ao op.length co) := fun W hb => by rw [cell_of_row _ _ _ _ _ _ ((hb.block _ hDl).trans hD)]; rfl
  have HCF : Hid _ := fun (W : World) (v' : Value) (q : W.heap[D]? = some (.cells #[v', .slice ao op.length co] 60 (0, 0))) => (show W.cell? ⟨D, 1, none⟩ = some (.slice ao op.length co) ∧ W.frozen? ⟨D, 1, none⟩ = false from ⟨by rw [cell_of_row _ _ _ _ _ _ q]; rfl, frozen_of_row _ _ _ _ _ q⟩)
  unfold nodeV joinN at HADD
  simp only at HADD
  unfold Cmd.v
  generalize op.length = NO' at *
  generalize (⟨c.word.toArray⟩ : ByteArray) = wx at *
  generalize c.kind = ck at *
  generalize c.n = cn at *
  have hq1 := hD1 _ (box_of (w := w) (o := .cells #[.int .i64 ck, .string wx, .int .i64 cn] 53))
  clear hD hN hP hfin hD1 hrows hrl hl
  go_enter Tryd.func42, Tryd.ntmps42
  go_upto_region 1 with fail
  go_region_with (first
    | (go_at_call 20; refine (HADD.out _ (by first | exact box_of | exact box_of.drew)).mono ?_; rintro e w4 ⟨v4, b4, rfl, q1, q2, q3, q4, q5, q6, q7⟩; obtain ⟨d1, f1⟩ := HCF.out _ _ q1))
  all_goals
    have HF : Hid _ := HFIN.out _ _ _ _ (by first | exact box_of | exact box_of.drew) q1 q2 q3 q4 q5 q6 q7
    clear q1 q2 q3 q4 q5 q6 q7
    refine bodyPost_end (v := .tuple #[]) (by simp [results, go_sem]) rfl ?_
    exact ⟨rfl, HF.out⟩

set_option maxRecDepth 100000 in
set_option maxHeartbeats 4000000 in
theorem dbehind_is (B D : Nat) (go : Option Nat) (X : Nat → Prop) (d : PD) (w : World) (h : DSt w B D go X d) (hl : d.1.length ≤ 60) (hBw : B ≤ w.heap.size) :
    Calls Tryd.prog 21 #[.pointer (some ⟨D, 0, none⟩)] w fun e w' => e = .returned (.tuple #[]) ∧ DStep w w' B D go X (pBehind d) := by
  have HJ : Hid _ := join_is 1 noC B D go X d w h hl hBw
  have HS : Hid (DSt w B D go X d) := h
  obtain ⟨v, rows, ao, co, rfl, hD, hN, hrows, hP, hB, hX⟩ := h
  have hD1 : w.cell? ⟨D, 1, none⟩ = some (.slice ao d.2.length co) := by rw [cell_of_row _ _ _ _ _ _ hD]; rfl
  have hm := rports_le hP.1
  obtain ⟨N, hN'⟩ : ∃ N, N = d.2.length := ⟨_, rfl⟩
  unfold Cmd.v noC at HJ
  simp only at HJ
  unfold pBehind
  rw [← hN'] at hD1 hm ⊢
  clear hD hN hP hrows hN' hl
  by_cases h1 : 1 < N
  · rw [if_pos h1]
    go_enter Tryd.func21, Tryd.ntmps21
    go_wp2_with fail
    refine Calls.mono HJ.out ?_
    rintro e w4 ⟨rfl, hst⟩
    have HF : Hid _ := hst
    clear hst HJ
    go_wp2_with fail
    refine bodyPost_end (v := .tuple #[]) (by simp [results, go_sem]) rfl ?_
    exact ⟨rfl, HF.out⟩
  · rw [if_neg h1]
    clear HJ
    go_enter Tryd.func21, Tryd.ntmps21
    go_wp2_with fail
    refine bodyPost_end (v := .tuple #[]) (by simp [results, go_sem]) rfl ?_
    exact ⟨rfl, _, HS.out, Kept.refl _ _ _ _, Nxt.refl _ _⟩
end Go.Proofs.YtkifihcficobnabDoor
namespace Go.Proofs.YtkifihcficobnabDoor
open Go.RowKit Go.Gs
set_option linter.unusedVariables false

theorem DSt.less {w : World} {B D : Nat} {go : Option Nat} {X X' : Nat → Prop} {d : PD} (h : DSt w B D go X d) (hx : ∀ k, k < w.heap.size → X' k → X k) (hl : ∀ k, X' k → k < w.heap.size) : DSt w B D go X' d := by
  obtain ⟨v, rows, ao, co, h1, h2, h3, h4, h5, h6, h7⟩ := h
  exact ⟨v, rows, ao, co, h1, h2, h3.less hx, h4, h5.less hx, h6, hl⟩
theorem owns_keepO {w w' : World} {B : Nat} {e : TypeId} {size : Nat} {v : Value} {n : Nat} {xs : List Value} (h : w.ownsRow B e size v n xs) (hk : ∀ g, v.ownBlock = some g → g < w.heap.size → w'.heap[g]? = w.heap[g]?) : w'.ownsRow B e size v n xs := by
  refine ⟨h.1, ?_⟩
  rcases h.2 with ⟨e1, h0⟩ | ⟨g, cap, cur, e1, hb, h1, h2⟩
  · exact Or.inl ⟨e1, h0⟩
  · refine Or.inr ⟨g, cap, cur, e1, hb, ?_, h2⟩
    rw [hk g (by rw [e1]; rfl) (block_ltO h1)]
    exact h1
theorem owns_ltO {w : World} {B : Nat} {e : TypeId} {size : Nat} {v : Value} {n : Nat} {xs : List Value} (h : w.ownsRow B e size v n xs) : ∀ g, v.ownBlock = some g → g < w.heap.size := by
  intro g hg
  rcases h.2 with ⟨rfl, h0⟩ | ⟨g', cap, cur, rfl, hb, h1, _⟩
  · simp [Value.ownBlock] at hg
  · simp [Value.ownBlock] at hg
    subst hg
    exact block_ltO h1
theorem rports_ownO {w : World} {B : Nat} {v : Value} {ps : List (Int × Int)} (h : w.ownsRow B 70 2 v ps.length (pCells ps)) : ∃ ao cap, v = .slice ao ps.length cap ∧ RPorts w (.slice ao ps.length cap) ps := by
  rcases id h.2 with ⟨rfl, h0⟩ | ⟨g, cap, cur, rfl, hb, hg, h1, h2, h3, h4⟩
  · exact ⟨none, 0, by rw [h0], none, 0, rfl, by omega, by simp [maxLen], fun hn => absurd h0 hn⟩
  · refine ⟨_, cap, rfl, _, cap, rfl, h1, h2, fun _ => ⟨g, 0, rfl, fun j p hp => ?_⟩⟩
    obtain ⟨a1, a2⟩ := pCells_at ps j p hp
    have hjl : j < ps.length := (List.getElem?_eq_some_iff.1 hp).1
    have c1 := h.cellAt (j * 2) (by omega)
    have c2 := h.cellAt (j * 2 + 1) (by omega)
    rw [a1] at c1
    rw [a2] at c2
    exact ⟨by rw [Nat.zero_add]; exact c1, by rw [Nat.zero_add]; exact c2⟩
theorem cells_rowO {w : World} {b : Nat} {cs : List Value} {t : TypeId} (h : w.heap[b]? = some (.cells cs.toArray t (0, 0))) : ∀ j u, cs[j]? = some u → w.cell? ((⟨b, 0, none⟩ : Addr).add j) = some u := by
  intro j u hj
  have e : ((⟨b, 0, none⟩ : Addr).add j) = ⟨b, j, none⟩ := by
    simp [Addr.add]
    try omega
  rw [e, cell_of_row _ _ _ _ _ _ h]
  simpa using hj
theorem pCells_one (ps : List (Int × Int)) : ∀ u ∈ pCells ps, u.oneCell' = true := by
  intro u hu
  unfold pCells at hu
  rw [List.mem_flatten] at hu
  obtain ⟨l, hl, hul⟩ := hu
  obtain ⟨p, _, rfl⟩ := List.mem_map.1 hl
  simp at hul
  rcases hul with rfl | rfl <;> rfl
/-- The draft behind so many Works. -/
def wk (c : Cmd) (ns : List SNode) (op : List (Int × Int)) (k : Nat) : PD := (op.take k).foldl (pWork c) (ns, [])
theorem wk_succ {c : Cmd} {ns : List SNode} {op : List (Int × Int)} {k : Nat} {p : Int × Int} (h : op[k]? = some p) : wk c ns op (k + 1) = pWork c (wk c ns op k) p := by
  unfold wk
  rw [List.take_add_one, h, Option.toList_some, List.foldl_append]
  rfl
theorem wk_len {c : Cmd} {ns : List SNode} {op : List (Int × Int)} {k : Nat} (h : k ≤ op.length) : (wk c ns op k).1.length = ns.length + k ∧ (wk c ns op k).2.length = k := by
  have := works_len c (op.take k) (ns, [])
  simp only [List.length_nil, Nat.zero_add, List.length_take, Nat.min_eq_left h] at this
  exact this
def LRel (W wr : World) (B D : Nat) (go1 : Option Nat) (X0 : Nat → Prop) (ns1 : List SNode) (op1 : List (Int × Int)) (ao1 : Option Addr) (co1 : Nat) (c : Cmd) (k : Nat) (dv v : Value) (rows : List NRow) : Prop :=
  wr.heap[D]? = some (.cells #[v, .slice ao1 op1.length co1] 60 (0, 0)) ∧ NO wr B D (fun q => X0 q ∨ dv.ownBlock = some q) 63 v rows ∧ rows.map (·.1) = (wk c ns1 op1 k).1 ∧
  wr.ownsRow B 70 2 dv k (pCells (wk c ns1 op1 k).2) ∧ (∀ g, dv.ownBlock = some g → v.ownBlock ≠ some g ∧ W.heap.size ≤ g) ∧ Kept D go1 noX W wr ∧ Nxt W go1 v.ownBlock
theorem LRel.start {W : World} {B D : Nat} {go1 : Option Nat} {X0 : Nat → Prop} {ns1 : List SNode} {op1 : List (Int × Int)} {ao1 : Option Addr} {co1 : Nat} (c : Cmd) {v : Value} {rows : List NRow} (e1 : go1 = v.ownBlock) (h1 : W.heap[D]? = some (.cells #[v, .slice ao1 op1.length co1] 60 (0, 0))) (h2 : NO W B D X0 63 v rows) (h3 : rows.map (·.1) = ns1) : LRel W W B D go1 X0 ns1 op1 ao1 co1 c 0 (.slice none 0 0) v rows := by
  refine ⟨h1, h2.less (fun k _ hk => by rcases hk with hk | hk; exact hk; simp [Value.ownBlock] at hk), by simp [wk, h3], ?_, fun g hg => by simp [Value.ownBlock] at hg, Kept.refl _ _ _ _, Or.inl e1.symm⟩
  exact World.ownsRow_nil _ _ _ _
theorem LRel.ports {W wr : World} {B D : Nat} {go1 : Option Nat} {X0 : Nat → Prop} {ns1 : List SNode} {op1 : List (Int × Int)} {ao1 : Option Addr} {co1 : Nat} {c : Cmd} {k : Nat} {dv v : Value} {rows : List NRow} (h : LRel W wr B D go1 X0 ns1 op1 ao1 co1 c k dv v rows) (hp : POff W D go1 X0 ao1 co1 op1) : POff wr D v.ownBlock X0 ao1 co1 op1 :=
  hp.keep (h.2.2.2.2.2.1.more (fun k e => e.elim)) h.2.2.2.2.2.2 (NxtX.refl _ _)
/-- What add wants. -/
theorem LRel.add {W wr W2 : World} {B D X2 : Nat} {go1 : Option Nat} {X0 : Nat → Prop} {ns1 : List SNode} {op1 : List (Int × Int)} {ao1 : Option Addr} {co1 : Nat} {c : Cmd} {k : Nat} {dv v : Value} {rows : List NRow} (h : LRel W wr B D go1 X0 ns1 op1 ao1 co1 c k dv v rows) (p : Int × Int) (hX0 : ∀ q, X0 q → q < W.heap.size)
    (hb : Below wr.heap.size wr W2) (hc : W2.heap[X2]? = some (.cells #[.int .i64 p.1, .int .i64 p.2] 70 (0, 0))) (hx : wr.heap.size ≤ X2) (hl : rows.length ≤ 60) (hB : B ≤ D) (hBw : B ≤ wr.heap.size) :
    Calls Tryd.prog 20 #[.pointer (some ⟨D, 0, none⟩), nodeV (workN c p) (some ⟨X2, 0, none⟩) 1 1] W2 fun e w' => AddEnd W2 B D (fun q => X0 q ∨ dv.ownBlock = some q) v (.slice ao1 op1.length co1) rows (workN c p, some ⟨X2, 0, none⟩, 1) 1 e w' := by
  obtain ⟨h1, h2, h3, h4, h5, h6, h7⟩ := h
  have hDl := block_ltO h1
  refine add_is (workN c p) (some ⟨X2, 0, none⟩) 1 D B _ v _ rows W2 1 rfl (by omega) ((hb.block _ hDl).trans h1) (h2.below hb) ⟨⟨_, 1, rfl, by simp [workN], by simp [maxLen], fun _ => ⟨X2, 0, rfl, fun j q hq => ?_⟩⟩, ?_⟩ hl hB (Nat.le_trans hBw hb.size)
  · cases j with
    | zero =>
      simp [workN] at hq
      subst hq
      rw [cell_of_row _ _ _ _ _ _ hc, cell_of_row _ _ _ _ _ _ hc]
      exact ⟨rfl, rfl⟩
    | succ j => simp [workN] at hq
  · intro _ a ha hf
    injection ha with ha
    subst ha
    rcases hf with e | e | e | e
    · simp only at e; omega
    · have := (h2.base _ e).2; simp only at this; omega
    · have := hX0 _ e; have := h6.size; simp only at *; omega
    · have := owns_ltO h4 _ e; simp only at this; omega
theorem LRel.own4 {W wr W2 w4 : World} {B D : Nat} {go1 : Option Nat} {X0 : Nat → Prop} {ns1 : List SNode} {op1 : List (Int × Int)} {ao1 : Option Addr} {co1 : Nat} {c : Cmd} {k : Nat} {dv v : Value} {rows : List NRow} (h : LRel W wr B D go1 X0 ns1 op1 ao1 co1 c k dv v rows) (hb : Below wr.heap.size wr W2) (hk : Kept D v.ownBlock noX W2 w4) (hDW : D < W.heap.size) : w4.ownsRow B 70 2 dv k (pCells (wk c ns1 op1 k).2) := by
  obtain ⟨h1, h2, h3, h4, h5, h6, h7⟩ := h
  refine owns_keepO h4 (fun g hg hl => ?_)
  rw [hk.block g (Nat.lt_of_lt_of_le hl hb.size) (fun e => ?_), hb.block g hl]
  rcases e with e | e | e
  · have := (h5 g hg).2; omega
  · exact (h5 g hg).1 e
  · exact e
theorem LRel.step {W wr W2 w4 w5 : World} {B D : Nat} {go1 : Option Nat} {X0 : Nat → Prop} {ns1 : List SNode} {op1 : List (Int × Int)} {ao1 : Option Addr} {co1 : Nat} {c : Cmd} {k : Nat} {dv v : Value} {rows : List NRow} (h : LRel W wr B D go1 X0 ns1 op1 ao1 co1 c k dv v rows) {p : Int × Int} (hp : op1[k]? = some p) (hDW : D < W.heap.size) (hX0 : ∀ q, X0 q → q < W.heap.size)
    (hb : Below wr.heap.size wr W2) {v4 dv5 : Value} {r : NRow} (hr : r.1 = workN c p) (q1 : w4.heap[D]? = some (.cells #[v4, .slice ao1 op1.length co1] 60 (0, 0))) (q2 : NO w4 B D (fun q => X0 q ∨ dv.ownBlock = some q) 63 v4 (rows ++ [r])) (q6 : Kept D v.ownBlock noX W2 w4) (q7 : Nxt W2 v.ownBlock v4.ownBlock)
    (ow : w5.ownsRow B 70 2 dv5 (k + 1) (pCells (wk c ns1 op1 k).2 ++ pCells (newPorts rows.length 1))) (gr : w4.grownBy w5 dv.ownBlock) (bl : dv5.ownBlock = dv.ownBlock ∨ dv5.ownBlock = some w4.heap.size) :
    LRel W w5 B D go1 X0 ns1 op1 ao1 co1 c (k + 1) dv5 v4 (rows ++ [r]) := by
  obtain ⟨h1, h2, h3, h4, h5, h6, h7⟩ := h
  have hkl : k ≤ op1.length := by have := (List.getElem?_eq_some_iff.1 hp).1; omega
  have hrl : rows.length = (wk c ns1 op1 k).1.length := by rw [← h3]; simp
  have hs1 := hb.size
  have hs2 := q6.size
  have hs0 := h6.size
  -- the row of nodes is none of the ports'
  have hne : ∀ g, dv.ownBlock = some g → v4.ownBlock ≠ some g := by
    intro g hg e
    rcases q7 with e7 | ⟨g', e7, hg'⟩
    · exact (h5 g hg).1 (by rw [← e7]; exact e)
    · rw [e7] at e; injection e with e; have := owns_ltO h4 g hg; omega
  have hv4 : ∀ g, v4.ownBlock = some g → g < w4.heap.size := fun g hg => (q2.base g hg).2
  have hND : Nxt w4 dv.ownBlock dv5.ownBlock := by
    rcases bl with e | e
    · exact .inl e
    · exact .inr ⟨_, e, Nat.le_refl _⟩
  have hkd : Kept D v4.ownBlock (fun q => X0 q ∨ dv.ownBlock = some q) w4 w5 := Kept.of_grown gr (fun k e => .inr (.inr (.inr e)))
  refine ⟨?_, q2.keep hkd (fun g hg => gr.block g (hv4 g hg) (fun e => hne g e.symm hg)) (fun q hq hx => ?_), ?_, ?_, ?_, ?_, ?_⟩
  · rw [gr.block D (by omega) (fun e => by have := (h5 D e.symm).2; omega)]
    exact q1
  · rcases hx with hx | hx
    · exact .inl hx
    · exact .inr (hND.old hq hx)
  · rw [List.map_append, h3, wk_succ hp, List.map_cons, List.map_nil, hr]
    rfl
  · have e2 : pCells (wk c ns1 op1 (k + 1)).2 = pCells (wk c ns1 op1 k).2 ++ pCells (newPorts rows.length 1) := by
      rw [wk_succ hp, newPorts_one, hrl]
      simp [pWork, pCells]
    rw [e2]
    exact ow
  · intro g hg
    rcases bl with e | e
    · rw [e] at hg
      exact ⟨hne g hg, (h5 g hg).2⟩
    · rw [e] at hg
      injection hg with hg
      refine ⟨fun e3 => ?_, by omega⟩
      have := hv4 g e3
      omega
  · have k1 : Kept D go1 noX W W2 := h6.trans (Kept.of_below hb) h7 (NxtX.refl _ _)
    have k2 : Kept D go1 noX W w4 := k1.trans q6 h7 (NxtX.refl _ _)
    refine ⟨gr.os.trans k2.os, gr.tape.trans k2.tape, gr.output.trans k2.output, Nat.le_trans k2.size gr.size, fun i hi hn => ?_⟩
    rw [gr.block i (by omega) (fun e => by have := (h5 i e.symm).2; omega)]
    exact k2.block i hi hn
  · exact h7.trans q7 (by omega)
/-- When all are done. -/
theorem LRel.done {W wr : World} {B D : Nat} {go1 : Option Nat} {X0 : Nat → Prop} {ns1 : List SNode} {op1 : List (Int × Int)} {ao1 : Option Addr} {co1 : Nat} {c : Cmd} {k : Nat} {dv v : Value} {rows : List NRow} (h : LRel W wr B D go1 X0 ns1 op1 ao1 co1 c k dv v rows) (hk : k = op1.length) (hDW : D < W.heap.size) (hB : B ≤ D) (hX0 : ∀ q, X0 q → q < W.heap.size) :
    DStep W (wr.setCell ⟨D, 1, none⟩ dv) B D go1 X0 (pWorks c (ns1, op1)) := by
  subst hk
  obtain ⟨h1, h2, h3, h4, h5, h6, h7⟩ := h
  have hw : wk c ns1 op1 op1.length = pWorks c (ns1, op1) := by unfold wk pWorks; rw [List.take_length]
  have hl2 := (wk_len (c := c) (ns := ns1) (op := op1) (Nat.le_refl _)).2
  rw [hw] at h3 h4 hl2
  have hs0 := h6.size
  have h4' : wr.ownsRow B 70 2 dv (pWorks c (ns1, op1)).2.length (pCells (pWorks c (ns1, op1)).2) := by rw [hl2]; exact h4
  obtain ⟨ao, cap, rfl, hrp⟩ := rports_ownO h4'
  have hoff : ∀ a, ao = some a → ¬ FS D v.ownBlock X0 a.block := by
    intro a ha hf
    have ho : (Value.slice ao (pWorks c (ns1, op1)).2.length cap).ownBlock = some a.block := by rw [ha]; rfl
    have hg := h5 _ ho
    rcases hf with e | e | e
    · omega
    · exact hg.1 e
    · have := hX0 _ e; omega
  refine ⟨v.ownBlock, ⟨v, rows, ao, cap, rfl, ?_, (h2.less (fun k _ hk => Or.inl hk)).set rfl, h3, ⟨?_, fun _ => hoff⟩, hB, fun k hk => by have := hX0 k hk; simp; omega⟩, h6.set rfl, h7⟩
  · rw [heap_setCell_same _ _ _ _ _ _ h1]; simp
  · refine rports_keep hrp (fun hn a ha hl => Below.heap_setCell _ _ _ _ (fun e => hoff a ha (.inl e)))
end Go.Proofs.YtkifihcficobnabDoor
