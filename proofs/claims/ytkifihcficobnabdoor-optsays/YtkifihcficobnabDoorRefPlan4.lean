/- What the reference's Planned does. -/
import Derived.Test.YtkifihcficobnabDoorRPlanA
import Derived.Test.YtkifihcficobnabDoorOptB
import Derived.Laws.EntriesVeiled
import Derived.Test.YtkifihcficobnabDoorHowA
import Derived.Test.YtkifihcficobnabDoorRefCmd1
import Derived.Test.YtkifihcficobnabDoorRefLine
namespace Go.Proofs.YtkifihcficobnabDoor
open Go.RowKit Go.Gs
set_option linter.unusedVariables false

theorem how_ref (c : Cmd) (hck : chk c = 0) (w : World) (hkw : (Lit.int .i64 c.kind).wf = true) :
    Calls Tryd.prog 31 #[c.v] w fun e w' => e = .returned (.int .i64 (howFor c.kind)) ∧ Below w.heap.size w w' := by
  have := howFor_ref c w hkw
  rw [v_how c hck] at this
  exact this
/-- A box of a node. -/
def NodeBox (W : World) (nb : Nat) : Prop := W.heap[nb]? = some (.cells #[.int .i64 0, .string ⟨#[]⟩, .int .i64 0, .string ⟨#[]⟩, .int .i64 0, .int .i64 0, .int .i64 0, .slice none 0 0] 63 (0, 0))
theorem nodeBox_of {w W : World} (hb : Below (w.alloc (.cells #[.int .i64 0, .string ⟨#[]⟩, .int .i64 0, .string ⟨#[]⟩, .int .i64 0, .int .i64 0, .int .i64 0, .slice none 0 0] 63)).heap.size (w.alloc (.cells #[.int .i64 0, .string ⟨#[]⟩, .int .i64 0, .string ⟨#[]⟩, .int .i64 0, .int .i64 0, .int .i64 0, .slice none 0 0] 63)) W) : NodeBox W w.heap.size := (hb.block _ (by simp)).trans (heap_alloc_new w _)
theorem NodeBox.cells {W : World} {nb : Nat} (h : NodeBox W nb) : W.cell? ⟨nb, 0, none⟩ = some (.int .i64 0) ∧ W.cell? ⟨nb, 1, none⟩ = some (.string ⟨#[]⟩) ∧ W.cell? ⟨nb, 2, none⟩ = some (.int .i64 0) ∧ W.cell? ⟨nb, 3, none⟩ = some (.string ⟨#[]⟩) ∧ W.cell? ⟨nb, 4, none⟩ = some (.int .i64 0) ∧ W.cell? ⟨nb, 5, none⟩ = some (.int .i64 0) ∧ W.cell? ⟨nb, 6, none⟩ = some (.int .i64 0) ∧ W.cell? ⟨nb, 7, none⟩ = some (.slice none 0 0) ∧
    W.frozen? ⟨nb, 0, none⟩ = false ∧ W.frozen? ⟨nb, 1, none⟩ = false ∧ W.frozen? ⟨nb, 2, none⟩ = false ∧ W.frozen? ⟨nb, 3, none⟩ = false ∧ W.frozen? ⟨nb, 4, none⟩ = false ∧ W.frozen? ⟨nb, 5, none⟩ = false ∧ W.frozen? ⟨nb, 6, none⟩ = false ∧ W.frozen? ⟨nb, 7, none⟩ = false := by
  unfold NodeBox at h
  refine ⟨?_, ?_, ?_, ?_, ?_, ?_, ?_, ?_, frozen_of_row _ _ _ _ _ h, frozen_of_row _ _ _ _ _ h, frozen_of_row _ _ _ _ _ h, frozen_of_row _ _ _ _ _ h, frozen_of_row _ _ _ _ _ h, frozen_of_row _ _ _ _ _ h, frozen_of_row _ _ _ _ _ h, frozen_of_row _ _ _ _ _ h⟩
  all_goals
    rw [cell_of_row _ _ _ _ _ _ h]
    rfl
/-- All eight cells set. -/
theorem set8R {W : World} {nb : Nat} {a0 a1 a2 a3 a4 a5 a6 a7 : Value} {t : TypeId} (h : W.heap[nb]? = some (.cells #[a0, a1, a2, a3, a4, a5, a6, a7] t (0, 0))) (u0 u1 u2 u3 u4 u5 u6 u7 : Value) :
    ((((((((W.setCell ⟨nb, 0, none⟩ u0).setCell ⟨nb, 1, none⟩ u1).setCell ⟨nb, 2, none⟩ u2).setCell ⟨nb, 3, none⟩ u3).setCell ⟨nb, 4, none⟩ u4).setCell ⟨nb, 5, none⟩ u5).setCell ⟨nb, 6, none⟩ u6).setCell ⟨nb, 7, none⟩ u7).heap[nb]? = some (.cells #[u0, u1, u2, u3, u4, u5, u6, u7] t (0, 0)) := by
  have h0 : (W.setCell ⟨nb, 0, none⟩ u0).heap[nb]? = some (.cells #[u0, a1, a2, a3, a4, a5, a6, a7] t (0, 0)) := by rw [heap_setCell_same _ _ _ _ _ _ h]; simp
  have h1 := heap_setCell_same _ nb 1 _ _ u1 h0
  have h2 := heap_setCell_same _ nb 2 _ _ u2 h1
  have h3 := heap_setCell_same _ nb 3 _ _ u3 h2
  have h4 := heap_setCell_same _ nb 4 _ _ u4 h3
  have h5 := heap_setCell_same _ nb 5 _ _ u5 h4
  have h6 := heap_setCell_same _ nb 6 _ _ u6 h5
  have h7 := heap_setCell_same _ nb 7 _ _ u7 h6
  rw [h7]
  simp
theorem below_set8R {B : Nat} {W0 W : World} {nb : Nat} (h : Below B W0 W) (hB : B ≤ nb) (u0 u1 u2 u3 u4 u5 u6 u7 : Value) :
    Below B W0 ((((((((W.setCell ⟨nb, 0, none⟩ u0).setCell ⟨nb, 1, none⟩ u1).setCell ⟨nb, 2, none⟩ u2).setCell ⟨nb, 3, none⟩ u3).setCell ⟨nb, 4, none⟩ u4).setCell ⟨nb, 5, none⟩ u5).setCell ⟨nb, 6, none⟩ u6).setCell ⟨nb, 7, none⟩ u7) := by
  have h0 := h.setCell (p := ⟨nb, 0, none⟩) hB u0
  have h1 := h0.setCell (p := ⟨nb, 1, none⟩) hB u1
  have h2 := h1.setCell (p := ⟨nb, 2, none⟩) hB u2
  have h3 := h2.setCell (p := ⟨nb, 3, none⟩) hB u3
  have h4 := h3.setCell (p := ⟨nb, 4, none⟩) hB u4
  have h5 := h4.setCell (p := ⟨nb, 5, none⟩) hB u5
  have h6 := h5.setCell (p := ⟨nb, 6, none⟩) hB u6
  exact h6.setCell (p := ⟨nb, 7, none⟩) hB u7
theorem heap_oldR {w : World} {o x : Obj} {k : Nat} (h : w.heap[k]? = some x) : (w.alloc o).heap[k]? = some x := (Below.heap_alloc _ _ _ (block_ltO h)).trans h
theorem heap_new_atR {w : World} {o : Obj} {k : Nat} (h : k = w.heap.size) : (w.alloc o).heap[k]? = some o := by rw [h]; exact heap_alloc_new w o
/-- The cells of ports of one's own. -/
theorem cells_ownR {w : World} {B : Nat} {ap : Option Addr} {cp m : Nat} (h : w.ownsRow B 70 2 (.slice ap 1 cp) 1 (pCells (newPorts m 1))) : ∃ pb, ap = some ⟨pb, 0, none⟩ ∧ Hid (∀ j u, (pCells (newPorts m 1))[j]? = some u → w.cell? ((⟨pb, 0, none⟩ : Addr).add j) = some u) := by
  rcases id h.2 with ⟨_, h0⟩ | ⟨g, cap, cur, e, hb, hg, h1, h2, h3, h4⟩
  · cases h0
  · injection e with e1 e2 e3
    refine ⟨g, e1, (show ∀ j u, _ → _ from fun j u hu => ?_)⟩
    subst e1
    have hjl : j < (pCells (newPorts m 1)).length := (List.getElem?_eq_some_iff.1 hu).1
    rw [pCells_length, newPorts_len] at hjl
    have c1 := h.cellAt j (by omega)
    rw [hu] at c1
    have e : ((⟨g, 0, none⟩ : Addr).add j) = ⟨g, j, none⟩ := by
      simp [Addr.add]
      try omega
    rw [e]
    exact c1
/-- A box that was there stays. -/
theorem RStep.box {w0 w w' : World} {B G bc : Nat} {go : Option Nat} {d : PD} {o : Obj} (h : RStep w w' B G go d) (hb : w.heap[bc]? = some o) (hc : w0.heap.size ≤ bc) (hB : B ≤ w0.heap.size) (hG : G + 3 ≤ B) (hg : ∀ g, go = some g → g < w0.heap.size) : w'.heap[bc]? = some o := by
  obtain ⟨g', h1, h2, h3⟩ := h
  rw [h2.block _ (block_ltO hb) (fun e => by rcases e with e | e | e; omega; (have := hg _ e; omega); (have : bc = G + 2 := e; omega))]
  exact hb
theorem five_belowR {w : World} {o1 o2 o3 o4 o5 : Obj} : Below w.heap.size w (((((w.alloc o1).alloc o2).alloc o3).alloc o4).alloc o5) :=
  ((((box_of.trans (box_of.mono (by simp))).trans (box_of.mono (by simp; omega))).trans (box_of.mono (by simp; omega))).trans (box_of.mono (by simp; omega)))

set_option maxRecDepth 100000 in
set_option maxHeartbeats 16000000 in
theorem planned_ref (l : SLine) (wn : Nat) (hw : 1 ≤ wn ∧ wn ≤ 5) (af ad : Option Addr) (cf cd : Nat) (w : World) (hf : Reads w (.slice af l.fr.length cf) l.fr.length (l.fr.map S)) (hd : RCmds w (.slice ad l.cs.length cd) l.cs) (hfit : FitsL l) (hwf : WfL l) (h : lchk l = 0) :
    Calls Tryd.prog 12 #[.agg #[.slice af l.fr.length cf, .slice ad l.cs.length cd, .string ⟨l.to.toArray⟩], .int .i64 (wn : Int)] w fun e w' => ∃ ao cap, e = .returned (.agg #[.slice ao (plan l wn).length cap]) ∧ RNodes w' (.slice ao (plan l wn).length cap) (plan l wn) ∧ Below w.heap.size w w' := by
  obtain ⟨⟨hn1, hn4, hn6⟩, hwo, hwt, hcs⟩ := lchk_all h
  have HF : Hid (Reads w (.slice af l.fr.length cf) l.fr.length (l.fr.map S)) := hf
  have HD : Hid (RCmds w (.slice ad l.cs.length cd) l.cs) := hd
  have HCS : Hid (∀ c ∈ l.cs, chk c = 0) := hcs
  have HWF : Hid (WfL l) := hwf
  have HLN : Hid _ := (plan_len hw h)
  obtain ⟨NF, hNF⟩ : ∃ N, N = l.fr.length := ⟨_, rfl⟩
  obtain ⟨ND, hND⟩ : ∃ N, N = l.cs.length := ⟨_, rfl⟩
  have HNF : Hid (NF = l.fr.length) := hNF
  have HND : Hid (ND = l.cs.length) := hND
  have hN1 : 1 ≤ NF := by omega
  have hN4 : NF ≤ 4 := by omega
  have hN6 : ND ≤ 6 := by omega
  have HDL : Hid (∀ k, k ≤ ND → ((pDone wn l.fr (l.cs.take k)).2.length = 1 ∨ (pDone wn l.fr (l.cs.take k)).2.length = wn) ∧ (pDone wn l.fr (l.cs.take k)).1.length ≤ 5 + 7 * k) := (show ∀ k, _ → _ from fun k hk => by
    have := pDone_len hw hn1 hn4 (l.cs.take k)
    rw [List.length_take, Nat.min_eq_left (by omega)] at this
    exact this)
  rw [← hNF, ← hND]
  obtain ⟨tx, htx⟩ : ∃ tx : ByteArray, tx = ⟨l.to.toArray⟩ := ⟨_, rfl⟩
  have HTX : Hid (tx = ⟨l.to.toArray⟩) := htx
  rw [← htx]
  rw [← hNF] at HF
  rw [← hND] at HD
  obtain ⟨i1, hi', hy0, hy1, hy2⟩ := info_parts infoPortO
  clear hf hd hfit hwf h hn1 hn4 hn6 hwo hwt hcs hNF hND htx
  go_enter Tryd.func12, Tryd.ntmps12
  go_upto_region 5 with fail
  obtain ⟨w1, hw1⟩ : ∃ w1, w1 = (((((w.alloc (.cells #[.slice af NF cf, .slice ad ND cd, .string tx] 32)).alloc (.cells #[.slice none 0 0] 35)).alloc (.cells #[.slice none 0 0] 35)).alloc (.cells #[addV (w.heap.size + 1 + 1)] 71)).alloc (.cells #[.slice none 0 0] 58)) := ⟨_, rfl⟩
  have hw1' := hw1
  unfold addV at hw1'
  rw [← hw1']
  have HBB : Hid (Below w.heap.size w w1) := by rw [hw1]; exact five_belowR
  have hsz1 : w1.heap.size = w.heap.size + 1 + 1 + 3 := by rw [hw1]; simp; try omega
  have HLR : Hid (LR w1 w.heap.size (.slice af NF cf) (.slice ad ND cd) (.string tx)) := by
    rw [hw1]
    exact ⟨heap_oldR (heap_oldR (heap_oldR (heap_oldR (heap_alloc_new w _)))), heap_oldR (heap_oldR (heap_oldR (heap_new_atR (by simp))))⟩
  have HRB : Hid (RBox w1 (w.heap.size + 1 + 1) (.slice none 0 0) (.slice none 0 0)) := by
    rw [hw1]
    exact ⟨heap_oldR (heap_oldR (heap_new_atR (by simp))), heap_oldR (heap_new_atR (by simp)), heap_new_atR (by simp)⟩
  obtain ⟨G, hG⟩ : ∃ G, G = w.heap.size + 1 + 1 := ⟨_, rfl⟩
  rw [← hG] at HRB hsz1 ⊢
  rw [show G + 1 + 1 = G + 2 from rfl]
  have hGw : w.heap.size + 1 < G := by omega
  have hGB0 : G + 3 ≤ w1.heap.size := by omega
  clear hw1 hw1' hG hsz1
  have HSR : Hid (SRelR G w1 w1 w1.heap.size G l.fr 0 (.slice none 0 0) (.slice none 0 0) []) := ⟨HRB.out, NO.nil _ _ _ _ _, by simp [pStart], World.ownsRow_nil _ _ _ _, fun g hg => by simp [Value.ownBlock] at hg, Below.refl _ _⟩
  obtain ⟨x0, x1, x2, x3, x4⟩ := HLR.out.cells
  clear HRB x1 x2 x3 x4
  go_wp2_with fail
  go_loopw [22] (fun i wr => ∃ k : Nat, k ≤ NF ∧ i = .int .i64 k ∧ ∃ ov v rows, Hid (SRelR G w1 wr w1.heap.size G l.fr k ov v rows)) (fun i _ => NF - (intOf i).toNat)
  case atStart => exact ⟨0, Nat.zero_le _, rfl, _, _, _, HSR⟩
  case round =>
    clear x0 HSR
    obtain ⟨k, hk, rfl, ov, v, rows, HS⟩ := hrel
    have HBr : Hid (Below G w1 wr) := HS.out.2.2.2.2.2
    have hszr : w1.heap.size ≤ wr.heap.size := HBr.out.size
    by_cases hlt : k < NF
    · obtain ⟨s, hs⟩ : ∃ s, l.fr[k]? = some s := ⟨_, List.getElem?_eq_getElem (by have := HNF.out; omega)⟩
      have hbw : Below w.heap.size w wr := HBB.out.trans (HBr.out.mono (by omega))
      obtain ⟨b, off, hao, hcell⟩ := (Reads.below HF.out hbw).at hs
      subst hao
      obtain ⟨ao, co, hov, ho1, ho2⟩ := owns_formO HS.out.2.2.2.1
      subst hov
      have hrl : rows.length = k := by
        have h1 := HS.out.2.2.1
        have h2 := (pStart_len (l.fr.take k) ([], [])).1
        have h3 : (l.fr.take k).length = k := by rw [List.length_take]; have := HNF.out; omega
        rw [h3] at h2
        have h4 : rows.length = (pStart (l.fr.take k)).1.length := by rw [← h1]; simp
        rw [h4]
        simpa [pStart] using h2
      have hrl60 : rows.length ≤ 60 := by omega
      have HADD : Hid _ := fun (W2 : World) (hb : Below wr.heap.size wr W2) => HS.out.add hb s hrl60 hszr
      have HST : Hid _ := fun (W2 w4 w5 : World) (hb : Below wr.heap.size wr W2) (v4 ov5 : Value) (q1 : w4.heap[G]? = some (.cells #[v4] 35 (0, 0))) q2 q6 q7 ow gr bl => HS.out.step hs (by omega) (Nat.le_refl _) hb (w4 := w4) (w5 := w5) (v4 := v4) (ov5 := ov5) (r := (srcN s, none, 0)) rfl q1 q2 q6 q7 ow gr bl
      have HO4 : Hid _ := fun (W2 w4 : World) (hb : Below wr.heap.size wr W2) q6 => HS.out.own4 (w4 := w4) (by omega) hb q6
      have HBA : Hid _ := fun (W2 w4 : World) (v4 : Value) (hb : Below wr.heap.size wr W2) (q1 : w4.heap[G]? = some (.cells #[v4] 35 (0, 0))) (q6 : Kept G v.ownBlock noX W2 w4) => (HS.out.1.add (B := w1.heap.size) hb q1 q6 (by omega) (fun g hg => (HS.out.2.1.base g hg).1)).cells
      obtain ⟨y0, y1, y2, y3⟩ := HS.out.1.cells
      unfold addV at y1
      generalize (⟨s.toArray⟩ : ByteArray) = sx at *
      clear hs hrl y0 hbw
      go_upto_region 8 with fail
      go_region_law (first
        | (refine step_callO rfl 28 #[.agg #[.int .i64 1, .string sx, .int .i64 0, .string ⟨#[]⟩, .int .i64 0, .int .i64 0, .int .i64 0, .slice none 0 0], .int .i64 1, .pointer (some ⟨G, 0, none⟩)] (by go_simp) (HADD.out _ (by first | exact Below.refl _ _ | exact (Below.refl _ _).drew)) ?_; rintro e w4 ⟨v4, pv, rfl, q1, q2, q3, q4, q5, q6⟩; obtain ⟨ap, cp, rfl, hap1, hap2⟩ := owns_formO q3; refine ⟨_, rfl, ?_⟩; have hs4 : wr.heap.size ≤ w4.heap.size := q5.size; have HO5 : Hid _ := HO4.out _ _ (by first | exact Below.refl _ _ | exact (Below.refl _ _).drew) q5; have HST5 : Hid _ := fun (w5 : World) (ov5 : Value) ow gr bl => HST.out _ w4 w5 (by first | exact Below.refl _ _ | exact (Below.refl _ _).drew) v4 ov5 q1 q2 q5 q6 ow gr bl; obtain ⟨u0, u1, u2, u3⟩ := HBA.out _ _ _ (by first | exact Below.refl _ _ | exact (Below.refl _ _).drew) q1 q5; obtain ⟨pb, hap, HQ5⟩ := cells_ownR q3; subst hap)
        | (refine step_append_ownO rfl (.tmp 26) (.tmp 30) 58 rfl w1.heap.size 70 i1 _ 2 16 Tryd.underlying58 hi' hy0 hy1 hy2 rfl (by omega) (.slice ao k co) k _ (by simp [Act.eval]) HO5.out ⟨pb, 0, none⟩ 1 cp (pCells (newPorts rows.length 1)) (by simp [Act.eval]) (by rw [pCells_length, newPorts_len]) HQ5.out (pCells_one _) (by unfold maxLen; omega) (by omega) (by omega) ?_; intro v5 w5 ow5 gr5 nn5 bl5; obtain ⟨HL5, hD5⟩ := HST5.out _ _ ow5 gr5 bl5; obtain ⟨z0, z1, z2, z3⟩ := hD5.cells; obtain ⟨a5, c5, rfl, _, _⟩ := owns_formO ow5)
        | fail)
      all_goals
        have HL6 : Hid _ := HL5
        clear HL5 hD5 z0 z1 z2 z3 u0 u1 u2 u3 ow5 gr5 nn5 bl5 q1 q2 q3 q4 q5 q6 HO5 HST5 HQ5 HADD HST HO4 HBA y1 y2 y3
        go_wp2_with fail
        go_roundw
        case rel => exact ⟨k + 1, by omega, by go_num, _, _, _, HL6.out⟩
        case measure => simp [intOf]; omega
    · have hkN : NF = k := by omega
      have HST : Hid (RSt wr w1.heap.size G v.ownBlock (pStart l.fr)) := HS.out.done (by rw [← HNF.out]; exact hkN.symm) (by omega)
      have hl60 : (pStart l.fr).1.length ≤ 60 := by
        have h2 := (pStart_len l.fr ([], [])).1
        have := HNF.out
        unfold pStart
        simp only [List.length_nil] at h2
        omega
      have HBH : Hid _ := together_is w1.heap.size G v.ownBlock (pStart l.fr) wr HST.out hl60 hszr
      have HBG : Hid _ := fun (w' : World) (h : RStep wr w' w1.heap.size G v.ownBlock (pBehind (pStart l.fr))) => h.go HST.out HBr.out (Nat.le_refl _)
      clear HS hl60 HST
      go_wp2_with fail
      refine Calls.mono HBH.out ?_
      rintro e w5 ⟨rfl, hst⟩
      obtain ⟨go5, S5, B5⟩ := HBG.out _ hst
      have HS5 : Hid (RSt w5 w1.heap.size G go5 (pDone wn l.fr (l.cs.take 0))) := S5
      have HB5 : Hid (Below G w1 w5) := B5
      obtain ⟨x0, x1, x2, x3, x4⟩ := (HLR.out.below HB5.out hGw).cells
      clear hst HBH HBG S5 B5 HBr hszr hkN hk x0 x2 x3 x4
      go_wp2_with fail
      go_loopw [38] (fun i wr => ∃ k : Nat, k ≤ ND ∧ i = .int .i64 k ∧ ∃ go, Hid (RSt wr w1.heap.size G go (pDone wn l.fr (l.cs.take k))) ∧ Hid (Below G w1 wr)) (fun i _ => ND - (intOf i).toNat)
      case atStart => exact ⟨0, Nat.zero_le _, rfl, _, HS5, HB5⟩
      case round =>
        clear HS5 HB5 x1
        obtain ⟨j, hj, rfl, go, HS, HBr⟩ := hrel
        obtain ⟨wo, hwo⟩ : ∃ wo, wo = wr := ⟨_, rfl⟩
        subst hwo
        have hszr : w1.heap.size ≤ wo.heap.size := HBr.out.size
        by_cases hlt2 : j < ND
        · obtain ⟨c, hc⟩ : ∃ c, l.cs[j]? = some c := ⟨_, List.getElem?_eq_getElem (by have := HND.out; omega)⟩
          have hbw : Below w.heap.size w wo := HBB.out.trans (HBr.out.mono (by omega))
          obtain ⟨b, off, hao, c0, c1, c2⟩ := (RCmds.below HD.out hbw).at hc
          subst hao
          have hcm := List.mem_of_getElem? hc
          have hck := HCS.out c hcm
          have HHOW : Hid _ := fun (W : World) => how_ref c hck W (HWF.out c hcm)
          have HE : Hid _ := fun (W : World) => isEach_ref c W
          have hnx : pCmd wn (pDone wn l.fr (l.cs.take j)) c = pDone wn l.fr (l.cs.take (j + 1)) := by rw [List.take_add_one, hc, Option.toList_some, pDone_snoc]
          obtain ⟨hdl1, hdl2⟩ := HDL.out j hj
          obtain ⟨d, hd⟩ : ∃ d, d = pDone wn l.fr (l.cs.take j) := ⟨_, rfl⟩
          rw [← hd] at hdl1 hdl2 hnx HS
          obtain ⟨hgo, hGl, hGB⟩ := HS.out.own
          obtain ⟨hs1, hs2, hs3⟩ := pSplit_len hw hdl1
          have HPJ : Hid (∀ d2, pJoin wn c d2 = if wn = 1 ∨ isEach c.kind = true then d2 else pJoinAll (howFor c.kind) (if howFor c.kind = 4 then c else noC) d2) := (show ∀ d2, _ = _ from fun d2 => rfl)
          have HPC : Hid (pDone wn l.fr (l.cs.take (j + 1)) = pJoin wn c (pWorks c (pSplit wn d))) := (show _ = _ by rw [← hnx]; rfl)
          have HAD : Hid (∀ p X2, nodeV (workN c p) (some ⟨X2, 0, none⟩) 1 1 = .agg #[.int .i64 3, .string ⟨#[]⟩, .int .i64 c.kind, .string ⟨c.word.toArray⟩, .int .i64 c.n, .int .i64 0, .int .i64 0, .slice (some ⟨X2, 0, none⟩) 1 1]) := (show ∀ p X2, _ = _ from fun p X2 => rfl)
          have HNJ4 : Hid (∀ op ao co, nodeV (joinN 4 c op) ao op.length co = .agg #[.int .i64 4, .string ⟨#[]⟩, .int .i64 c.kind, .string ⟨c.word.toArray⟩, .int .i64 c.n, .int .i64 4, .int .i64 0, .slice ao op.length co]) := (show ∀ op ao co, _ = _ from fun op ao co => rfl)
          have HNJ0 : Hid (∀ (how : Int) op ao co, nodeV (joinN how noC op) ao op.length co = .agg #[.int .i64 4, .string ⟨#[]⟩, .int .i64 0, .string ⟨#[]⟩, .int .i64 0, .int .i64 how, .int .i64 0, .slice ao op.length co]) := (show ∀ how op ao co, _ = _ from fun how op ao co => rfl)
          unfold Cmd.v at HE HHOW
          have HS0 : Hid (RSt (wo.alloc (.cells #[.int .i64 c.kind, .string ⟨c.word.toArray⟩, .int .i64 c.n] 53)) w1.heap.size G go d) := RSt.below HS.out box_of
          have HB0 : Hid (Below G w1 (wo.alloc (.cells #[.int .i64 c.kind, .string ⟨c.word.toArray⟩, .int .i64 c.n] 53))) := HBr.out.trans (box_of.mono (by omega))
          have HBX : Hid ((wo.alloc (.cells #[.int .i64 c.kind, .string ⟨c.word.toArray⟩, .int .i64 c.n] 53)).heap[wo.heap.size]? = some (.cells #[.int .i64 c.kind, .string ⟨c.word.toArray⟩, .int .i64 c.n] 53 (0, 0))) := (show _ = _ from heap_alloc_new wo _)
          have HRN : Hid _ := fun (w' : World) (d2 : PD) (h : RStep (wo.alloc (.cells #[.int .i64 c.kind, .string ⟨c.word.toArray⟩, .int .i64 c.n] 53)) w' w1.heap.size G go d2) => RStep.go h HS0.out HB0.out (Nat.le_refl _)
          obtain ⟨v, rows, ao, co, hgv, hbx, hN, hrows, hP, _⟩ := id HS0.out
          have hrl60 : rows.length ≤ 60 := by
            have : rows.length = d.1.length := by rw [← hrows]; simp
            omega
          have hBw0 : w1.heap.size ≤ (wo.alloc (.cells #[.int .i64 c.kind, .string ⟨c.word.toArray⟩, .int .i64 c.n] 53)).heap.size := by simp; omega
          have HADD : Hid _ := fun (hN1 : d.2.length = 1) => radd_is (splitN wn d.2) ao co G w1.heap.size _ v rows _ wn hw.2 hbx.1 hN hP hrl60 hBw0
          unfold nodeV splitN at HADD
          simp only at HADD
          have HFIN : Hid _ := fun (w' : World) (v' pv : Value) (q1 : w'.heap[G]? = some (.cells #[v'] 35 (0, 0))) (q2 : NO w' w1.heap.size G (fun k => k = G + 2) 63 v' (rows ++ [(splitN wn d.2, ao, co)])) q3 q4 q5 q6 => open_newR (k := wn) (pv := pv) (v := v) hbx (Below.refl _ _) hGB hBw0 (fun g hg => (hN.base g hg).1) q1 q2 q3 q4 q5 q6
          have HCF : Hid _ := fun (w' : World) (v' : Value) (q1 : w'.heap[G]? = some (.cells #[v'] 35 (0, 0))) (q5 : Kept G v.ownBlock noX (wo.alloc (.cells #[.int .i64 c.kind, .string ⟨c.word.toArray⟩, .int .i64 c.n] 53)) w') => (hbx.add (B := w1.heap.size) (Below.refl _ _) q1 q5 hGB (fun g hg => (hN.base g hg).1)).cells
          obtain ⟨x0, x1, x2, x3⟩ := hbx.cells
          unfold addV at x1
          have hsp1 : d.2.length = 1 → wn ≠ 1 → (rows.map (·.1) ++ [(splitN wn d.2, ao, co).1], newPorts rows.length wn) = pSplit wn d := fun a b => by
            unfold pSplit
            rw [if_pos ⟨a, b⟩, hrows]
            simp only [← hrows, List.length_map]
          have HSP1 : Hid _ := hsp1
          have HSP2 : Hid (¬ (d.2.length = 1 ∧ wn ≠ 1) → pSplit wn d = d) := (show _ → _ from fun a => by unfold pSplit; rw [if_neg a])
          have hm := rports_le hP.1
          obtain ⟨d1, hd1⟩ : ∃ d1, d1 = pSplit wn d := ⟨_, rfl⟩
          rw [← hd1] at HSP1 HSP2 hs1 hs2 hs3 HPC
          obtain ⟨N, hNN⟩ : ∃ N, N = d.2.length := ⟨_, rfl⟩
          rw [← hNN] at hdl1 HADD x2 HSP1 HSP2 hm
          generalize howFor c.kind = how at *
          generalize isEach c.kind = ie at *
          generalize (⟨c.word.toArray⟩ : ByteArray) = wx at *
          generalize c.kind = ck at *
          generalize c.n = cn at *
          clear hc hcm hck hnx hd hbx hN hrows hP hsp1 hd1 hNN hrl60 hBw0 hbw x0
          by_cases hsplit : N = 1 ∧ wn ≠ 1
          · obtain ⟨rfl, hne⟩ := hsplit
            have hgw : (1 : Int) < (wn : Int) := by omega
            have HADD' : Hid _ := HADD.out rfl
            rw [HSP1.out rfl hne] at HFIN
            clear HADD HSP1 HSP2
            go_wp2_with fail
            refine Calls.mono HADD'.out ?_
            rintro e w4 ⟨v4, pv, rfl, q1, q2, q3, q4, q5, q6⟩
            obtain ⟨u0, u1, u2, u3⟩ := HCF.out _ _ q1 q5
            have hst := HFIN.out _ _ _ q1 q2 q3 q4 q5 q6
            rw [← hgv] at hst
            have HST : Hid _ := hst
            obtain ⟨ap, cp, hpv, _, _⟩ := owns_formO q3
            subst hpv
            clear q1 q2 q3 q4 q5 q6 hst HADD' HFIN x1 x2 x3
            go_upto_region 16 with fail
            clear u0 u1 u2 u3
            obtain ⟨wc, hwc⟩ : ∃ wc, wc = w4.setCell ⟨G + 2, 0, none⟩ (.slice ap wn cp) := ⟨_, rfl⟩
            rw [← hwc]
            have HSC : Hid (RStep (wo.alloc (.cells #[.int .i64 ck, .string wx, .int .i64 cn] 53)) wc w1.heap.size G go d1) := by rw [hwc]; exact HST.out
            clear hwc HST
            have HBXc : Hid _ := RStep.box (w0 := wo) HSC.out HBX.out (Nat.le_refl _) hszr hGB (fun g hg => (hgo g hg).2)
            obtain ⟨go1, ⟨v1, rows1, ao1, co1, e1, hbx1, hN1x, hrows1, hP1, _⟩, hKc, hNc⟩ := id HSC.out
            have HPO : Hid (POff wc G go1 (fun k => k = G + 2) ao1 co1 d1.2) := by rw [e1]; exact hP1
            have HLS : Hid _ := LRelR.start c e1 hbx1 hN1x hrows1
            obtain ⟨u0, u1, u2, u3⟩ := hbx1.cells
            have hGc := block_ltO hbx1.2.2
            have HKc : Hid _ := hKc
            have HNc : Hid _ := hNc
            have hg1 : go1 ≠ some wo.heap.size := by
              rcases hNc with e | ⟨g, e, hg⟩
              · rw [e]; intro e2; have := (hgo _ e2).2; omega
              · rw [e]; intro e2; injection e2 with e2; simp at hg; omega
            have hpm := rports_le hP1.1
            have hboc : wo.heap.size < wc.heap.size := block_ltO HBXc.out
            rw [hs1] at u2 hpm
            clear hbx1 hN1x hrows1 hP1 hKc hNc e1 u0 u1 u3
            go_wp2_with fail
            go_loopw [57, 13] (fun i dv wr => ∃ k : Nat, k ≤ wn ∧ i = .int .i64 k ∧ ∃ v rows, Hid (LRelR wc wr w1.heap.size G go1 d1.1 d1.2 ao1 co1 c k dv v rows)) (fun i _ _ => wn - (intOf i).toNat)
            case atStart => exact ⟨0, Nat.zero_le _, rfl, _, _, HLS.out⟩
            case round =>
              clear u2
              obtain ⟨k, hk, rfl, vk, rk, HL⟩ := hrel
              have HLK : Hid _ := HL.out.2.2.2.2.2.1
              have hrk60 : rk.length ≤ 60 := by
                have h1 := HL.out.2.2.1
                have h2 := (wk_len (c := c) (ns := d1.1) (op := d1.2) (k := k) (by omega)).1
                rw [← h1] at h2
                simp at h2
                omega
              have hszk : wc.heap.size ≤ wr.heap.size := HLK.out.size
              have hbxr := HLK.out.block wo.heap.size hboc (fun e => by rcases e with e | e | e; omega; exact hg1 e; exact e)
              rw [HBXc.out] at hbxr
              obtain ⟨ad', cd', hdv, hdc1, hdc2⟩ := owns_formO HL.out.2.2.2.1
              subst hdv
              obtain ⟨t0, t1, t2, t3⟩ := HL.out.1.cells
              unfold addV at t1
              by_cases hlt : k < wn
              · obtain ⟨p, hpk⟩ : ∃ p, d1.2[k]? = some p := ⟨_, List.getElem?_eq_getElem (by omega)⟩
                obtain ⟨pb, po, hao, p1, p2⟩ := ((HL.out.ports HPO.out).1).at hpk
                subst hao
                have x0 : wr.cell? ⟨wo.heap.size, 0, none⟩ = some (.int .i64 ck) := by rw [cell_of_row _ _ _ _ _ _ hbxr]; rfl
                have x1 : wr.cell? ⟨wo.heap.size, 1, none⟩ = some (.string wx) := by rw [cell_of_row _ _ _ _ _ _ hbxr]; rfl
                have x2 : wr.cell? ⟨wo.heap.size, 2, none⟩ = some (.int .i64 cn) := by rw [cell_of_row _ _ _ _ _ _ hbxr]; rfl
                have keep : ∀ {o : Obj} {q : Addr} {v : Value}, wr.cell? q = some v → (wr.alloc o).cell? q = some v := fun h => (box_of.cell (World.block_lt_of_cell? wr _ h)).trans h
                have y0 := keep (o := .cells #[.int .i64 p.1, .int .i64 p.2] 70) x0
                have y1 := keep (o := .cells #[.int .i64 p.1, .int .i64 p.2] 70) x1
                have y2 := keep (o := .cells #[.int .i64 p.1, .int .i64 p.2] 70) x2
                have y3 := keep (o := .cells #[.int .i64 p.1, .int .i64 p.2] 70) t1
                have HADW : Hid _ := fun (W2 : World) (X2 : Nat) (hb : Below wr.heap.size wr W2) (hc : W2.heap[X2]? = some (.cells #[.int .i64 p.1, .int .i64 p.2] 70 (0, 0))) (hx : wr.heap.size ≤ X2) => HL.out.add p hb hc hx hrk60 (by omega)
                simp only [HAD.out] at HADW
                have HST : Hid _ := fun (w4 w5 : World) (v4 dv5 : Value) (q1 : w4.heap[G]? = some (.cells #[v4] 35 (0, 0))) q2 q6 q7 ow gr bl => HL.out.step hpk hGc hGB (W2 := (wr.alloc (.cells #[.int .i64 p.1, .int .i64 p.2] 70)).alloc (.cells #[.int .i64 p.1, .int .i64 p.2] 70)) (w4 := w4) (w5 := w5) (v4 := v4) (dv5 := dv5) (r := (workN c p, some ⟨wr.heap.size + 1, 0, none⟩, 1)) two_belowR rfl q1 q2 q6 q7 ow gr bl
                have HO4 : Hid _ := fun (w4 : World) q6 => HL.out.own4 (W2 := (wr.alloc (.cells #[.int .i64 p.1, .int .i64 p.2] 70)).alloc (.cells #[.int .i64 p.1, .int .i64 p.2] 70)) (w4 := w4) two_belowR q6 (by omega)
                obtain ⟨pa, pc⟩ := p
                simp only at p1 p2 y0 y1 y2 y3 HADW HST HO4
                clear hpk hbxr x0 x1 x2 keep t0 t1 t2 t3
                go_wp2_with fail
                refine Calls.mono (HADW.out _ (wr.heap.size + 1) two_belowR (by rw [show wr.heap.size + 1 = (wr.alloc (.cells #[.int .i64 pa, .int .i64 pc] 70)).heap.size by simp]; exact heap_alloc_new _ _) (by omega)) ?_
                rintro e w4 ⟨v4, pv, rfl, q1, q2, q3, q4, q5, q6⟩
                obtain ⟨ap, cp, hpv, hap1, hap2⟩ := owns_formO q3
                subst hpv
                obtain ⟨pb4, hap, HQ5⟩ := cells_ownR q3
                subst hap
                have HO5 : Hid _ := HO4.out _ q5
                have HST5 : Hid _ := fun (w5 : World) (dv5 : Value) ow gr bl => HST.out w4 w5 v4 dv5 q1 q2 q5 q6 ow gr bl
                have hs4 : wr.heap.size ≤ w4.heap.size := by have := q5.size; simp at this; omega
                clear q1 q2 q3 q4 q5 q6 HST HO4 HADW
                go_wp2_with (at_builtin; refine wpList_append_own_at _ rfl (.tmp 61) (.tmp 67) 58 rfl w1.heap.size 70 i1 _ 2 16 Tryd.underlying58 hi' hy0 hy1 hy2 rfl (by omega) (.slice ad' k cd') k _ rfl HO5.out ⟨pb4, 0, none⟩ 1 cp (pCells (newPorts rk.length 1)) rfl (by rw [pCells_length, newPorts_len]) HQ5.out (pCells_one _) (by unfold maxLen; omega) (by omega) (by omega) ?_)
                intro v5 w5 ow5 gr5 nn5 bl5
                have HL5 : Hid _ := HST5.out _ _ ow5 gr5 bl5
                clear HST5 HQ5 HO5 ow5 gr5 nn5 bl5 y0 y1 y2 y3 p1 p2
                go_wp2_with fail
                go_roundw
                case rel => exact ⟨k + 1, by omega, by go_num, _, _, HL5.out⟩
                case measure => simp [intOf]; omega
              · have hkn : wn = k := by omega
                subst hkn
                have hdn := HL.out.done (by omega) hGc hGB
                obtain ⟨g2, k1, k2, k3⟩ := hdn
                have HDT : Hid (RStep (wo.alloc (.cells #[.int .i64 ck, .string wx, .int .i64 cn] 53)) (wr.setCell ⟨G + 2, 0, none⟩ (.slice ad' wn cd')) w1.heap.size G go (pWorks c d1)) := ⟨g2, k1, Kept.trans HKc.out k2 HNc.out (NxtX.refl _ _), Nxt.trans HNc.out k3 HKc.out.size⟩
                have hwl : (pWorks c d1).1.length ≤ 60 ∧ (pWorks c d1).2.length = wn := by
                  have := works_len c d1.2 (d1.1, [])
                  unfold pWorks
                  simp only [List.length_nil] at this
                  omega
                have HWL : Hid _ := hwl
                clear k1 k2 k3 HL HLK hbxr hwl t0 t1
                go_upto_region 23 with fail
                clear t2 t3
                obtain ⟨w6, hw6⟩ : ∃ w6, w6 = wr.setCell ⟨G + 2, 0, none⟩ (.slice ad' wn cd') := ⟨_, rfl⟩
                rw [← hw6]
                rw [← hw6] at HDT
                clear hw6
                have hbx6 := RStep.box (w0 := wo) HDT.out HBX.out (Nat.le_refl _) hszr hGB (fun g hg => (hgo g hg).2)
                have x0 : w6.cell? ⟨wo.heap.size, 0, none⟩ = some (.int .i64 ck) := by rw [cell_of_row _ _ _ _ _ _ hbx6]; rfl
                have x1 : w6.cell? ⟨wo.heap.size, 1, none⟩ = some (.string wx) := by rw [cell_of_row _ _ _ _ _ _ hbx6]; rfl
                have x2 : w6.cell? ⟨wo.heap.size, 2, none⟩ = some (.int .i64 cn) := by rw [cell_of_row _ _ _ _ _ _ hbx6]; rfl
                go_wp2_with fail
                refine Calls.mono (HE.out _) ?_
                rintro e w7 ⟨rfl, hb7⟩
                have HD7 : Hid (RStep (wo.alloc (.cells #[.int .i64 ck, .string wx, .int .i64 cn] 53)) w7 w1.heap.size G go (pWorks c d1)) := RStep.post HDT.out hb7
                have hbx7 := RStep.box (w0 := wo) HD7.out HBX.out (Nat.le_refl _) hszr hGB (fun g hg => (hgo g hg).2)
                clear hb7 x0 x1 x2 HE hbx6 HDT
                cases ie with
                | true =>
                  obtain ⟨g6, S6, B6⟩ := HRN.out _ _ HD7.out
                  have HS6 : Hid (RSt w7 w1.heap.size G g6 (pDone wn l.fr (l.cs.take (j + 1)))) := by rw [HPC.out, HPJ.out, if_pos (Or.inr rfl)]; exact S6
                  have HB6 : Hid (Below G w1 w7) := B6
                  clear S6 B6 HRN HPC HPJ HD7
                  go_wp2_with fail
                  go_roundw
                  case rel => exact ⟨j + 1, by omega, by go_num, _, HS6, HB6⟩
                  case measure => simp [intOf]; omega
                | false =>
                  have x0 : w7.cell? ⟨wo.heap.size, 0, none⟩ = some (.int .i64 ck) := by rw [cell_of_row _ _ _ _ _ _ hbx7]; rfl
                  have x1 : w7.cell? ⟨wo.heap.size, 1, none⟩ = some (.string wx) := by rw [cell_of_row _ _ _ _ _ _ hbx7]; rfl
                  have x2 : w7.cell? ⟨wo.heap.size, 2, none⟩ = some (.int .i64 cn) := by rw [cell_of_row _ _ _ _ _ _ hbx7]; rfl
                  obtain ⟨g7, ⟨v7, rows7, ao7, co7, e7, hb7x, hN7, hr7, hP7, _⟩, k7, n7⟩ := id HD7.out
                  obtain ⟨t0, t1, t2, t3⟩ := hb7x.cells
                  have hrl7 : rows7.length ≤ 60 := by have h1 := HWL.out.1; rw [← hr7] at h1; simpa using h1
                  have hs7 : w1.heap.size ≤ w7.heap.size := by have := k7.size; simp at this; omega
                  have HJA : Hid _ := fun (how : Int) (c' : Cmd) (W9 : World) (hb : Below w7.heap.size w7 W9) => radd_is (joinN how c' (pWorks c d1).2) ao7 co7 G w1.heap.size _ v7 rows7 W9 1 (by omega) ((hb.block _ (block_ltO hb7x.1)).trans hb7x.1) (hN7.below hb) (hP7.keep (Kept.of_below hb) (Nxt.refl _ _) (NxtX.refl _ _)) hrl7 (Nat.le_trans hs7 hb.size)
                  have HJF : Hid _ := fun (how : Int) (c' : Cmd) (W9 w' : World) (v' pv : Value) (hb : Below w7.heap.size w7 W9) (q1 : w'.heap[G]? = some (.cells #[v'] 35 (0, 0))) (q2 : NO w' w1.heap.size G (fun k => k = G + 2) 63 v' (rows7 ++ [(joinN how c' (pWorks c d1).2, ao7, co7)])) q3 q4 q5 q6 => open_newR (w := w7) (k := 1) (pv := pv) (v := v7) hb7x hb hGB hs7 (fun g hg => (hN7.base g hg).1) q1 q2 q3 q4 q5 q6
                  have HJB : Hid _ := fun (W9 w' : World) (v' : Value) (hb : Below w7.heap.size w7 W9) (q1 : w'.heap[G]? = some (.cells #[v'] 35 (0, 0))) (q5 : Kept G v7.ownBlock noX W9 w') => (hb7x.add (B := w1.heap.size) hb q1 q5 hGB (fun g hg => (hN7.base g hg).1)).cells
                  have hjf : ∀ (how : Int) (c' : Cmd), (rows7.map (·.1) ++ [(joinN how c' (pWorks c d1).2, ao7, co7).1], newPorts rows7.length 1) = pJoinAll how c' (pWorks c d1) := fun how c' => by
                    rw [hr7, newPorts_one]
                    unfold pJoinAll
                    simp only [← hr7, List.length_map]
                  simp only [hjf] at HJF
                  have HRT : Hid (∀ (w' : World) (d3 : PD), RStep w7 w' w1.heap.size G v7.ownBlock d3 → RStep (wo.alloc (.cells #[.int .i64 ck, .string wx, .int .i64 cn] 53)) w' w1.heap.size G go d3) := (show ∀ w' d3, _ → _ from fun w' d3 h => by
                    obtain ⟨g9, s9, k9, n9⟩ := h
                    rw [← e7] at k9 n9
                    exact ⟨g9, s9, k7.trans k9 n7 (NxtX.refl _ _), n7.trans n9 k7.size⟩)
                  rw [HWL.out.2] at t2
                  have HCC : Hid (∀ W, Below w7.heap.size w7 W → W.cell? ⟨wo.heap.size, 0, none⟩ = some (.int .i64 ck) ∧ W.cell? ⟨wo.heap.size, 1, none⟩ = some (.string wx) ∧ W.cell? ⟨wo.heap.size, 2, none⟩ = some (.int .i64 cn) ∧ W.cell? ⟨G + 1, 0, none⟩ = some (addV G) ∧ W.cell? ⟨G + 2, 0, none⟩ = some (.slice ao7 wn co7)) := (show ∀ W, _ → _ from fun W hb => ⟨(hb.cell (World.block_lt_of_cell? w7 _ x0)).trans x0, (hb.cell (World.block_lt_of_cell? w7 _ x1)).trans x1, (hb.cell (World.block_lt_of_cell? w7 _ x2)).trans x2, (hb.cell (World.block_lt_of_cell? w7 _ t1)).trans t1, (hb.cell (World.block_lt_of_cell? w7 _ t2)).trans t2⟩)
                  have HJ4 : Hid (∀ W9, Below w7.heap.size w7 W9 → Calls Tryd.prog 28 #[.agg #[.int .i64 4, .string ⟨#[]⟩, .int .i64 ck, .string wx, .int .i64 cn, .int .i64 4, .int .i64 0, .slice ao7 wn co7], .int .i64 1, .pointer (some ⟨G, 0, none⟩)] W9 (fun e w' => RAddEnd W9 w1.heap.size G (fun k => k = G + 2) v7 rows7 (joinN 4 c (pWorks c d1).2, ao7, co7) 1 e w')) := (show ∀ W9, _ → _ from fun W9 hb => by
                    have h9 := HJA.out 4 c W9 hb
                    have e9 := HNJ4.out (pWorks c d1).2 ao7 co7
                    rw [HWL.out.2] at e9
                    rw [show (joinN 4 c (pWorks c d1).2).ins.length = wn from HWL.out.2, e9] at h9
                    exact h9)
                  have HJ0 : Hid (∀ (how : Int) W9, Below w7.heap.size w7 W9 → Calls Tryd.prog 28 #[.agg #[.int .i64 4, .string ⟨#[]⟩, .int .i64 0, .string ⟨#[]⟩, .int .i64 0, .int .i64 how, .int .i64 0, .slice ao7 wn co7], .int .i64 1, .pointer (some ⟨G, 0, none⟩)] W9 (fun e w' => RAddEnd W9 w1.heap.size G (fun k => k = G + 2) v7 rows7 (joinN how noC (pWorks c d1).2, ao7, co7) 1 e w')) := (show ∀ how W9, _ → _ from fun how W9 hb => by
                    have h9 := HJA.out how noC W9 hb
                    have e9 := HNJ0.out how (pWorks c d1).2 ao7 co7
                    rw [HWL.out.2] at e9
                    rw [show (joinN how noC (pWorks c d1).2).ins.length = wn from HWL.out.2, e9] at h9
                    exact h9)
                  clear hbx7 hb7x hN7 hr7 hP7 k7 n7 hjf t0 t1 t3
                  have HZC : Hid (∀ W, Below (w7.alloc (.cells #[.int .i64 0, .string ⟨#[]⟩, .int .i64 0, .string ⟨#[]⟩, .int .i64 0, .int .i64 0, .int .i64 0, .slice none 0 0] 63)).heap.size (w7.alloc (.cells #[.int .i64 0, .string ⟨#[]⟩, .int .i64 0, .string ⟨#[]⟩, .int .i64 0, .int .i64 0, .int .i64 0, .slice none 0 0] 63)) W → NodeBox W w7.heap.size) := (show ∀ W, _ → _ from fun W hb => nodeBox_of hb)
                  have q0 : ∀ q, (w7.alloc q).cell? ⟨wo.heap.size, 0, none⟩ = some (.int .i64 ck) := fun q => (box_of.cell (World.block_lt_of_cell? w7 _ x0)).trans x0
                  have q1 : ∀ q, (w7.alloc q).cell? ⟨wo.heap.size, 1, none⟩ = some (.string wx) := fun q => (box_of.cell (World.block_lt_of_cell? w7 _ x1)).trans x1
                  have q2 : ∀ q, (w7.alloc q).cell? ⟨wo.heap.size, 2, none⟩ = some (.int .i64 cn) := fun q => (box_of.cell (World.block_lt_of_cell? w7 _ x2)).trans x2
                  have q3 : ∀ q, (w7.alloc q).cell? ⟨G + 2, 0, none⟩ = some (.slice ao7 wn co7) := fun q => (box_of.cell (World.block_lt_of_cell? w7 _ t2)).trans t2
                  go_upto_region 24 with fail
                  go_cut [16] from 78 to 81 (fun nv wx => ∃ nb : Nat, nv = .pointer (some ⟨nb, 0, none⟩) ∧ w7.heap.size ≤ nb ∧ Hid (wx.heap[nb]? = some (.cells #[.int .i64 4, .string ⟨#[]⟩, .int .i64 0, .string ⟨#[]⟩, .int .i64 0, .int .i64 how, .int .i64 0, .slice ao7 wn co7] 63 (0, 0))) ∧ Hid (Below w7.heap.size w7 wx))
                  case first =>
                    go_region_with (first
                      | (go_at_call 31; refine (HHOW.out _).mono ?_; rintro e w8 ⟨rfl, hb8⟩; have hnb : NodeBox w8 w7.heap.size := (hb8.block _ (by simp)).trans (heap_alloc_new _ _); have hb8' : Below w7.heap.size w7 w8 := (by first | exact (Below.refl _ _).drew.trans hb8 | exact box_of.drew.trans (hb8.mono (by simp)) | exact ((Below.refl _ _).drew.trans box_of).trans (hb8.mono (by simp))); obtain ⟨s0, s1, s2, s3, s4⟩ := HCC.out _ hb8'; have s4q : ∀ q, (w8.alloc q).cell? ⟨G + 2, 0, none⟩ = some (.slice ao7 wn co7) := (fun q => (box_of.cell (World.block_lt_of_cell? w8 _ s4)).trans s4); obtain ⟨m0, m1, m2, m3, m4, m5, m6, m7, f0, f1, f2, f3, f4, f5, f6, f7⟩ := hnb.cells)
                      | (go_at_call 31; refine (HHOW.out _).mono ?_; rintro e w8 ⟨rfl, hb8⟩; have hb8' : Below w7.heap.size w7 w8 := (by first | exact (Below.refl _ _).drew.trans hb8 | exact box_of.drew.trans (hb8.mono (by simp)) | exact ((Below.refl _ _).drew.trans box_of).trans (hb8.mono (by simp))); obtain ⟨s0, s1, s2, s3, s4⟩ := HCC.out _ hb8'; have s4q : ∀ q, (w8.alloc q).cell? ⟨G + 2, 0, none⟩ = some (.slice ao7 wn co7) := (fun q => (box_of.cell (World.block_lt_of_cell? w8 _ s4)).trans s4))
                      | fail)
                    all_goals (first
                      | (have hnb' := hnb; clear HCC HRT HJ4 HJ0 HJA HJF HJB HRN HZC HHOW; go_wp2_with fail; go_meet; exact ⟨w7.heap.size, rfl, Nat.le_refl _, set8R hnb' _ _ _ _ _ _ _ _, below_set8R hb8' (Nat.le_refl _) _ _ _ _ _ _ _ _⟩)
                      | (clear HCC HRT HJ4 HJ0 HJA HJF HJB HRN HZC HHOW; go_wp2_with fail; go_meet; exact ⟨w8.heap.size, rfl, hb8'.size, heap_alloc_new w8 _, hb8'.trans (box_of.mono hb8'.size)⟩))
                  case rest =>
                    obtain ⟨nb, rfl, hnb, HNB, HBW⟩ := hcut
                    have nc : ∀ i : Nat, wc.cell? ⟨nb, i, none⟩ = #[.int .i64 4, .string ⟨#[]⟩, .int .i64 0, .string ⟨#[]⟩, .int .i64 0, .int .i64 how, .int .i64 0, .slice ao7 wn co7][i]? := fun i => cell_of_row _ _ _ _ _ _ HNB.out
                    have n0 := nc 0
                    have n1 := nc 1
                    have n2 := nc 2
                    have n3 := nc 3
                    have n4 := nc 4
                    have n5 := nc 5
                    have n6 := nc 6
                    have n7 := nc 7
                    simp at n0 n1 n2 n3 n4 n5 n6 n7
                    have f2 : wc.frozen? ⟨nb, 2, none⟩ = false := frozen_of_row _ _ _ _ _ HNB.out
                    have f3 : wc.frozen? ⟨nb, 3, none⟩ = false := frozen_of_row _ _ _ _ _ HNB.out
                    have f4 : wc.frozen? ⟨nb, 4, none⟩ = false := frozen_of_row _ _ _ _ _ HNB.out
                    obtain ⟨s0, s1, s2, s3, s4⟩ := HCC.out _ HBW.out
                    clear nc x0 x1 x2 t2 q0 q1 q2 q3 HZC
                    by_cases h4 : how = 4
                    · subst h4
                      have hn9 : (((wc.setCell ⟨nb, 2, none⟩ (.int .i64 ck)).setCell ⟨nb, 3, none⟩ (.string wx)).setCell ⟨nb, 4, none⟩ (.int .i64 cn)).heap[nb]? = some (.cells #[.int .i64 4, .string ⟨#[]⟩, .int .i64 ck, .string wx, .int .i64 cn, .int .i64 4, .int .i64 0, .slice ao7 wn co7] 63 (0, 0)) := by
                        have h0 := heap_setCell_same _ nb 2 _ _ (.int .i64 ck) HNB.out
                        have h1 := heap_setCell_same _ nb 3 _ _ (.string wx) h0
                        have h2 := heap_setCell_same _ nb 4 _ _ (.int .i64 cn) h1
                        rw [h2]
                        simp
                      have hb9 : Below w7.heap.size w7 (((wc.setCell ⟨nb, 2, none⟩ (.int .i64 ck)).setCell ⟨nb, 3, none⟩ (.string wx)).setCell ⟨nb, 4, none⟩ (.int .i64 cn)) := ((HBW.out.setCell hnb _).setCell hnb _).setCell hnb _
                      clear s3 s4
                      go_upto_region 27 with fail
                      clear s0 s1 s2 n0 n1 n2 n3 n4 n5 n6 n7 f2 f3 f4
                      obtain ⟨w9, hw9⟩ : ∃ w9, w9 = ((wc.setCell ⟨nb, 2, none⟩ (.int .i64 ck)).setCell ⟨nb, 3, none⟩ (.string wx)).setCell ⟨nb, 4, none⟩ (.int .i64 cn) := ⟨_, rfl⟩
                      rw [← hw9] at hn9 hb9 ⊢
                      have HB9 : Hid _ := hb9
                      have nc : ∀ i : Nat, w9.cell? ⟨nb, i, none⟩ = #[.int .i64 4, .string ⟨#[]⟩, .int .i64 ck, .string wx, .int .i64 cn, .int .i64 4, .int .i64 0, .slice ao7 wn co7][i]? := fun i => cell_of_row _ _ _ _ _ _ hn9
                      have n0 := nc 0
                      have n1 := nc 1
                      have n2 := nc 2
                      have n3 := nc 3
                      have n4 := nc 4
                      have n5 := nc 5
                      have n6 := nc 6
                      have n7 := nc 7
                      simp at n0 n1 n2 n3 n4 n5 n6 n7
                      obtain ⟨s0, s1, s2, s3, s4⟩ := HCC.out _ hb9
                      unfold addV at s3
                      have HCL : Hid _ := HJ4.out _ hb9
                      clear hw9 hn9 hb9 nc HNB HBW
                      go_wp2_with fail
                      refine Calls.mono HCL.out ?_
                      rintro e w10 ⟨v10, pv, rfl, q1, q2, q3, q4, q5, q6⟩
                      obtain ⟨y0, y1, y2, y3⟩ := HJB.out _ _ _ HB9.out q1 q5
                      have hff := HRT.out _ _ (HJF.out 4 c _ _ _ _ HB9.out q1 q2 q3 q4 q5 q6)
                      obtain ⟨g6, S6, B6⟩ := HRN.out _ _ hff
                      obtain ⟨ap, cp, hpv, _, _⟩ := owns_formO q3
                      subst hpv
                      have HS6 : Hid (RSt (w10.setCell ⟨G + 2, 0, none⟩ (.slice ap 1 cp)) w1.heap.size G g6 (pDone wn l.fr (l.cs.take (j + 1)))) := by rw [HPC.out, HPJ.out, if_neg (by simp; omega), if_pos trivial]; exact S6
                      have HB6 : Hid (Below G w1 (w10.setCell ⟨G + 2, 0, none⟩ (.slice ap 1 cp))) := B6
                      clear S6 B6 HRN HPC HPJ HD7 hff q1 q2 q3 q4 q5 q6 HJA HJF HJB HRT HJ4 HJ0 HCC HNJ4 HNJ0 HAD HHOW
                      go_wp2_with fail
                      go_roundw
                      case rel => exact ⟨j + 1, by omega, by go_num, _, HS6, HB6⟩
                      case measure => simp [intOf]; omega
                    · have h4' : (how == 4) = false := by simpa using h4
                      have HB9 : Hid _ := HBW.out
                      unfold addV at s3
                      have HCL : Hid _ := HJ0.out how _ HBW.out
                      clear HNB HBW
                      go_wp2_with fail
                      refine Calls.mono HCL.out ?_
                      rintro e w10 ⟨v10, pv, rfl, q1, q2, q3, q4, q5, q6⟩
                      obtain ⟨y0, y1, y2, y3⟩ := HJB.out _ _ _ HB9.out q1 q5
                      have hff := HRT.out _ _ (HJF.out how noC _ _ _ _ HB9.out q1 q2 q3 q4 q5 q6)
                      obtain ⟨g6, S6, B6⟩ := HRN.out _ _ hff
                      obtain ⟨ap, cp, hpv, _, _⟩ := owns_formO q3
                      subst hpv
                      have HS6 : Hid (RSt (w10.setCell ⟨G + 2, 0, none⟩ (.slice ap 1 cp)) w1.heap.size G g6 (pDone wn l.fr (l.cs.take (j + 1)))) := by rw [HPC.out, HPJ.out, if_neg (by simp; omega), if_neg h4]; exact S6
                      have HB6 : Hid (Below G w1 (w10.setCell ⟨G + 2, 0, none⟩ (.slice ap 1 cp))) := B6
                      clear S6 B6 HRN HPC HPJ HD7 hff q1 q2 q3 q4 q5 q6 HJA HJF HJB HRT HJ4 HJ0 HCC HNJ4 HNJ0 HAD HHOW
                      go_wp2_with fail
                      go_roundw
                      case rel => exact ⟨j + 1, by omega, by go_num, _, HS6, HB6⟩
                      case measure => simp [intOf]; omega
          · have hst : RStep (wo.alloc (.cells #[.int .i64 ck, .string wx, .int .i64 cn] 53)) (wo.alloc (.cells #[.int .i64 ck, .string wx, .int .i64 cn] 53)) w1.heap.size G go d1 := by rw [HSP2.out hsplit]; exact ⟨_, HS0.out, Kept.refl _ _ _ _, Nxt.refl _ _⟩
            have HSC' : Hid _ := hst
            clear HADD HSP1 HSP2 HFIN hst
            by_cases hN1 : N = 1
            · have hw1 : wn = 1 := by by_cases e : wn = 1; exact e; exact absurd ⟨hN1, e⟩ hsplit
              subst hN1
              have HW1 : Hid (wn = 1) := hw1
              have hgw : decide ((1 : Int) < (wn : Int)) = false := decide_eq_false (by omega)
              clear hsplit hw1
              go_upto_region 16 with fail
              obtain ⟨wc, hwc⟩ : ∃ wc, wc = wo.alloc (.cells #[.int .i64 ck, .string wx, .int .i64 cn] 53) := ⟨_, rfl⟩
              rw [← hwc]
              have HSC : Hid (RStep (wo.alloc (.cells #[.int .i64 ck, .string wx, .int .i64 cn] 53)) wc w1.heap.size G go d1) := by rw [hwc]; exact HSC'.out
              clear hwc HSC' x1 x2 x3
              have HBXc : Hid _ := RStep.box (w0 := wo) HSC.out HBX.out (Nat.le_refl _) hszr hGB (fun g hg => (hgo g hg).2)
              obtain ⟨go1, ⟨v1, rows1, ao1, co1, e1, hbx1, hN1x, hrows1, hP1, _⟩, hKc, hNc⟩ := id HSC.out
              have HPO : Hid (POff wc G go1 (fun k => k = G + 2) ao1 co1 d1.2) := by rw [e1]; exact hP1
              have HLS : Hid _ := LRelR.start c e1 hbx1 hN1x hrows1
              obtain ⟨u0, u1, u2, u3⟩ := hbx1.cells
              have hGc := block_ltO hbx1.2.2
              have HKc : Hid _ := hKc
              have HNc : Hid _ := hNc
              have hg1 : go1 ≠ some wo.heap.size := by
                rcases hNc with e | ⟨g, e, hg⟩
                · rw [e]; intro e2; have := (hgo _ e2).2; omega
                · rw [e]; intro e2; injection e2 with e2; simp at hg; omega
              have hpm := rports_le hP1.1
              have hboc : wo.heap.size < wc.heap.size := block_ltO HBXc.out
              rw [hs1] at u2 hpm
              clear hbx1 hN1x hrows1 hP1 hKc hNc e1 u0 u1 u3
              go_wp2_with fail
              go_loopw [57, 13] (fun i dv wr => ∃ k : Nat, k ≤ wn ∧ i = .int .i64 k ∧ ∃ v rows, Hid (LRelR wc wr w1.heap.size G go1 d1.1 d1.2 ao1 co1 c k dv v rows)) (fun i _ _ => wn - (intOf i).toNat)
              case atStart => exact ⟨0, Nat.zero_le _, rfl, _, _, HLS.out⟩
              case round =>
                clear u2
                obtain ⟨k, hk, rfl, vk, rk, HL⟩ := hrel
                have HLK : Hid _ := HL.out.2.2.2.2.2.1
                have hrk60 : rk.length ≤ 60 := by
                  have h1 := HL.out.2.2.1
                  have h2 := (wk_len (c := c) (ns := d1.1) (op := d1.2) (k := k) (by omega)).1
                  rw [← h1] at h2
                  simp at h2
                  omega
                have hszk : wc.heap.size ≤ wr.heap.size := HLK.out.size
                have hbxr := HLK.out.block wo.heap.size hboc (fun e => by rcases e with e | e | e; omega; exact hg1 e; exact e)
                rw [HBXc.out] at hbxr
                obtain ⟨ad', cd', hdv, hdc1, hdc2⟩ := owns_formO HL.out.2.2.2.1
                subst hdv
                obtain ⟨t0, t1, t2, t3⟩ := HL.out.1.cells
                unfold addV at t1
                by_cases hlt : k < wn
                · obtain ⟨p, hpk⟩ : ∃ p, d1.2[k]? = some p := ⟨_, List.getElem?_eq_getElem (by omega)⟩
                  obtain ⟨pb, po, hao, p1, p2⟩ := ((HL.out.ports HPO.out).1).at hpk
                  subst hao
                  have x0 : wr.cell? ⟨wo.heap.size, 0, none⟩ = some (.int .i64 ck) := by rw [cell_of_row _ _ _ _ _ _ hbxr]; rfl
                  have x1 : wr.cell? ⟨wo.heap.size, 1, none⟩ = some (.string wx) := by rw [cell_of_row _ _ _ _ _ _ hbxr]; rfl
                  have x2 : wr.cell? ⟨wo.heap.size, 2, none⟩ = some (.int .i64 cn) := by rw [cell_of_row _ _ _ _ _ _ hbxr]; rfl
                  have keep : ∀ {o : Obj} {q : Addr} {v : Value}, wr.cell? q = some v → (wr.alloc o).cell? q = some v := fun h => (box_of.cell (World.block_lt_of_cell? wr _ h)).trans h
                  have y0 := keep (o := .cells #[.int .i64 p.1, .int .i64 p.2] 70) x0
                  have y1 := keep (o := .cells #[.int .i64 p.1, .int .i64 p.2] 70) x1
                  have y2 := keep (o := .cells #[.int .i64 p.1, .int .i64 p.2] 70) x2
                  have y3 := keep (o := .cells #[.int .i64 p.1, .int .i64 p.2] 70) t1
                  have HADW : Hid _ := fun (W2 : World) (X2 : Nat) (hb : Below wr.heap.size wr W2) (hc : W2.heap[X2]? = some (.cells #[.int .i64 p.1, .int .i64 p.2] 70 (0, 0))) (hx : wr.heap.size ≤ X2) => HL.out.add p hb hc hx hrk60 (by omega)
                  simp only [HAD.out] at HADW
                  have HST : Hid _ := fun (w4 w5 : World) (v4 dv5 : Value) (q1 : w4.heap[G]? = some (.cells #[v4] 35 (0, 0))) q2 q6 q7 ow gr bl => HL.out.step hpk hGc hGB (W2 := (wr.alloc (.cells #[.int .i64 p.1, .int .i64 p.2] 70)).alloc (.cells #[.int .i64 p.1, .int .i64 p.2] 70)) (w4 := w4) (w5 := w5) (v4 := v4) (dv5 := dv5) (r := (workN c p, some ⟨wr.heap.size + 1, 0, none⟩, 1)) two_belowR rfl q1 q2 q6 q7 ow gr bl
                  have HO4 : Hid _ := fun (w4 : World) q6 => HL.out.own4 (W2 := (wr.alloc (.cells #[.int .i64 p.1, .int .i64 p.2] 70)).alloc (.cells #[.int .i64 p.1, .int .i64 p.2] 70)) (w4 := w4) two_belowR q6 (by omega)
                  obtain ⟨pa, pc⟩ := p
                  simp only at p1 p2 y0 y1 y2 y3 HADW HST HO4
                  clear hpk hbxr x0 x1 x2 keep t0 t1 t2 t3
                  go_wp2_with fail
                  refine Calls.mono (HADW.out _ (wr.heap.size + 1) two_belowR (by rw [show wr.heap.size + 1 = (wr.alloc (.cells #[.int .i64 pa, .int .i64 pc] 70)).heap.size by simp]; exact heap_alloc_new _ _) (by omega)) ?_
                  rintro e w4 ⟨v4, pv, rfl, q1, q2, q3, q4, q5, q6⟩
                  obtain ⟨ap, cp, hpv, hap1, hap2⟩ := owns_formO q3
                  subst hpv
                  obtain ⟨pb4, hap, HQ5⟩ := cells_ownR q3
                  subst hap
                  have HO5 : Hid _ := HO4.out _ q5
                  have HST5 : Hid _ := fun (w5 : World) (dv5 : Value) ow gr bl => HST.out w4 w5 v4 dv5 q1 q2 q5 q6 ow gr bl
                  have hs4 : wr.heap.size ≤ w4.heap.size := by have := q5.size; simp at this; omega
                  clear q1 q2 q3 q4 q5 q6 HST HO4 HADW
                  go_wp2_with (at_builtin; refine wpList_append_own_at _ rfl (.tmp 61) (.tmp 67) 58 rfl w1.heap.size 70 i1 _ 2 16 Tryd.underlying58 hi' hy0 hy1 hy2 rfl (by omega) (.slice ad' k cd') k _ rfl HO5.out ⟨pb4, 0, none⟩ 1 cp (pCells (newPorts rk.length 1)) rfl (by rw [pCells_length, newPorts_len]) HQ5.out (pCells_one _) (by unfold maxLen; omega) (by omega) (by omega) ?_)
                  intro v5 w5 ow5 gr5 nn5 bl5
                  have HL5 : Hid _ := HST5.out _ _ ow5 gr5 bl5
                  clear HST5 HQ5 HO5 ow5 gr5 nn5 bl5 y0 y1 y2 y3 p1 p2
                  go_wp2_with fail
                  go_roundw
                  case rel => exact ⟨k + 1, by omega, by go_num, _, _, HL5.out⟩
                  case measure => simp [intOf]; omega
                · have hkn : wn = k := by omega
                  subst hkn
                  have hdn := HL.out.done (by omega) hGc hGB
                  obtain ⟨g2, k1, k2, k3⟩ := hdn
                  have HDT : Hid (RStep (wo.alloc (.cells #[.int .i64 ck, .string wx, .int .i64 cn] 53)) (wr.setCell ⟨G + 2, 0, none⟩ (.slice ad' wn cd')) w1.heap.size G go (pWorks c d1)) := ⟨g2, k1, Kept.trans HKc.out k2 HNc.out (NxtX.refl _ _), Nxt.trans HNc.out k3 HKc.out.size⟩
                  have hwl : (pWorks c d1).1.length ≤ 60 ∧ (pWorks c d1).2.length = wn := by
                    have := works_len c d1.2 (d1.1, [])
                    unfold pWorks
                    simp only [List.length_nil] at this
                    omega
                  have HWL : Hid _ := hwl
                  clear k1 k2 k3 HL HLK hbxr hwl t0 t1
                  go_upto_region 23 with fail
                  clear t2 t3
                  obtain ⟨w6, hw6⟩ : ∃ w6, w6 = wr.setCell ⟨G + 2, 0, none⟩ (.slice ad' wn cd') := ⟨_, rfl⟩
                  rw [← hw6]
                  rw [← hw6] at HDT
                  clear hw6
                  obtain ⟨g6, S6, B6⟩ := HRN.out _ _ HDT.out
                  have HS6 : Hid (RSt w6 w1.heap.size G g6 (pDone wn l.fr (l.cs.take (j + 1)))) := by rw [HPC.out, HPJ.out, if_pos (Or.inl HW1.out)]; exact S6
                  have HB6 : Hid (Below G w1 w6) := B6
                  clear S6 B6 HRN HPC HPJ HDT
                  go_wp2_with fail
                  go_roundw
                  case rel => exact ⟨j + 1, by omega, by go_num, _, HS6, HB6⟩
                  case measure => simp [intOf]; omega
            · have hN1' : ((N : Int) == 1) = false := by simp; omega
              have hne : wn ≠ 1 := by omega
              have hgw : (1 : Int) < (wn : Int) := by omega
              clear hsplit
              go_upto_region 16 with fail
              obtain ⟨wc, hwc⟩ : ∃ wc, wc = wo.alloc (.cells #[.int .i64 ck, .string wx, .int .i64 cn] 53) := ⟨_, rfl⟩
              rw [← hwc]
              have HSC : Hid (RStep (wo.alloc (.cells #[.int .i64 ck, .string wx, .int .i64 cn] 53)) wc w1.heap.size G go d1) := by rw [hwc]; exact HSC'.out
              clear hwc HSC' x1 x2 x3
              have HBXc : Hid _ := RStep.box (w0 := wo) HSC.out HBX.out (Nat.le_refl _) hszr hGB (fun g hg => (hgo g hg).2)
              obtain ⟨go1, ⟨v1, rows1, ao1, co1, e1, hbx1, hN1x, hrows1, hP1, _⟩, hKc, hNc⟩ := id HSC.out
              have HPO : Hid (POff wc G go1 (fun k => k = G + 2) ao1 co1 d1.2) := by rw [e1]; exact hP1
              have HLS : Hid _ := LRelR.start c e1 hbx1 hN1x hrows1
              obtain ⟨u0, u1, u2, u3⟩ := hbx1.cells
              have hGc := block_ltO hbx1.2.2
              have HKc : Hid _ := hKc
              have HNc : Hid _ := hNc
              have hg1 : go1 ≠ some wo.heap.size := by
                rcases hNc with e | ⟨g, e, hg⟩
                · rw [e]; intro e2; have := (hgo _ e2).2; omega
                · rw [e]; intro e2; injection e2 with e2; simp at hg; omega
              have hpm := rports_le hP1.1
              have hboc : wo.heap.size < wc.heap.size := block_ltO HBXc.out
              rw [hs1] at u2 hpm
              clear hbx1 hN1x hrows1 hP1 hKc hNc e1 u0 u1 u3
              go_wp2_with fail
              go_loopw [57, 13] (fun i dv wr => ∃ k : Nat, k ≤ wn ∧ i = .int .i64 k ∧ ∃ v rows, Hid (LRelR wc wr w1.heap.size G go1 d1.1 d1.2 ao1 co1 c k dv v rows)) (fun i _ _ => wn - (intOf i).toNat)
              case atStart => exact ⟨0, Nat.zero_le _, rfl, _, _, HLS.out⟩
              case round =>
                clear u2
                obtain ⟨k, hk, rfl, vk, rk, HL⟩ := hrel
                have HLK : Hid _ := HL.out.2.2.2.2.2.1
                have hrk60 : rk.length ≤ 60 := by
                  have h1 := HL.out.2.2.1
                  have h2 := (wk_len (c := c) (ns := d1.1) (op := d1.2) (k := k) (by omega)).1
                  rw [← h1] at h2
                  simp at h2
                  omega
                have hszk : wc.heap.size ≤ wr.heap.size := HLK.out.size
                have hbxr := HLK.out.block wo.heap.size hboc (fun e => by rcases e with e | e | e; omega; exact hg1 e; exact e)
                rw [HBXc.out] at hbxr
                obtain ⟨ad', cd', hdv, hdc1, hdc2⟩ := owns_formO HL.out.2.2.2.1
                subst hdv
                obtain ⟨t0, t1, t2, t3⟩ := HL.out.1.cells
                unfold addV at t1
                by_cases hlt : k < wn
                · obtain ⟨p, hpk⟩ : ∃ p, d1.2[k]? = some p := ⟨_, List.getElem?_eq_getElem (by omega)⟩
                  obtain ⟨pb, po, hao, p1, p2⟩ := ((HL.out.ports HPO.out).1).at hpk
                  subst hao
                  have x0 : wr.cell? ⟨wo.heap.size, 0, none⟩ = some (.int .i64 ck) := by rw [cell_of_row _ _ _ _ _ _ hbxr]; rfl
                  have x1 : wr.cell? ⟨wo.heap.size, 1, none⟩ = some (.string wx) := by rw [cell_of_row _ _ _ _ _ _ hbxr]; rfl
                  have x2 : wr.cell? ⟨wo.heap.size, 2, none⟩ = some (.int .i64 cn) := by rw [cell_of_row _ _ _ _ _ _ hbxr]; rfl
                  have keep : ∀ {o : Obj} {q : Addr} {v : Value}, wr.cell? q = some v → (wr.alloc o).cell? q = some v := fun h => (box_of.cell (World.block_lt_of_cell? wr _ h)).trans h
                  have y0 := keep (o := .cells #[.int .i64 p.1, .int .i64 p.2] 70) x0
                  have y1 := keep (o := .cells #[.int .i64 p.1, .int .i64 p.2] 70) x1
                  have y2 := keep (o := .cells #[.int .i64 p.1, .int .i64 p.2] 70) x2
                  have y3 := keep (o := .cells #[.int .i64 p.1, .int .i64 p.2] 70) t1
                  have HADW : Hid _ := fun (W2 : World) (X2 : Nat) (hb : Below wr.heap.size wr W2) (hc : W2.heap[X2]? = some (.cells #[.int .i64 p.1, .int .i64 p.2] 70 (0, 0))) (hx : wr.heap.size ≤ X2) => HL.out.add p hb hc hx hrk60 (by omega)
                  simp only [HAD.out] at HADW
                  have HST : Hid _ := fun (w4 w5 : World) (v4 dv5 : Value) (q1 : w4.heap[G]? = some (.cells #[v4] 35 (0, 0))) q2 q6 q7 ow gr bl => HL.out.step hpk hGc hGB (W2 := (wr.alloc (.cells #[.int .i64 p.1, .int .i64 p.2] 70)).alloc (.cells #[.int .i64 p.1, .int .i64 p.2] 70)) (w4 := w4) (w5 := w5) (v4 := v4) (dv5 := dv5) (r := (workN c p, some ⟨wr.heap.size + 1, 0, none⟩, 1)) two_belowR rfl q1 q2 q6 q7 ow gr bl
                  have HO4 : Hid _ := fun (w4 : World) q6 => HL.out.own4 (W2 := (wr.alloc (.cells #[.int .i64 p.1, .int .i64 p.2] 70)).alloc (.cells #[.int .i64 p.1, .int .i64 p.2] 70)) (w4 := w4) two_belowR q6 (by omega)
                  obtain ⟨pa, pc⟩ := p
                  simp only at p1 p2 y0 y1 y2 y3 HADW HST HO4
                  clear hpk hbxr x0 x1 x2 keep t0 t1 t2 t3
                  go_wp2_with fail
                  refine Calls.mono (HADW.out _ (wr.heap.size + 1) two_belowR (by rw [show wr.heap.size + 1 = (wr.alloc (.cells #[.int .i64 pa, .int .i64 pc] 70)).heap.size by simp]; exact heap_alloc_new _ _) (by omega)) ?_
                  rintro e w4 ⟨v4, pv, rfl, q1, q2, q3, q4, q5, q6⟩
                  obtain ⟨ap, cp, hpv, hap1, hap2⟩ := owns_formO q3
                  subst hpv
                  obtain ⟨pb4, hap, HQ5⟩ := cells_ownR q3
                  subst hap
                  have HO5 : Hid _ := HO4.out _ q5
                  have HST5 : Hid _ := fun (w5 : World) (dv5 : Value) ow gr bl => HST.out w4 w5 v4 dv5 q1 q2 q5 q6 ow gr bl
                  have hs4 : wr.heap.size ≤ w4.heap.size := by have := q5.size; simp at this; omega
                  clear q1 q2 q3 q4 q5 q6 HST HO4 HADW
                  go_wp2_with (at_builtin; refine wpList_append_own_at _ rfl (.tmp 61) (.tmp 67) 58 rfl w1.heap.size 70 i1 _ 2 16 Tryd.underlying58 hi' hy0 hy1 hy2 rfl (by omega) (.slice ad' k cd') k _ rfl HO5.out ⟨pb4, 0, none⟩ 1 cp (pCells (newPorts rk.length 1)) rfl (by rw [pCells_length, newPorts_len]) HQ5.out (pCells_one _) (by unfold maxLen; omega) (by omega) (by omega) ?_)
                  intro v5 w5 ow5 gr5 nn5 bl5
                  have HL5 : Hid _ := HST5.out _ _ ow5 gr5 bl5
                  clear HST5 HQ5 HO5 ow5 gr5 nn5 bl5 y0 y1 y2 y3 p1 p2
                  go_wp2_with fail
                  go_roundw
                  case rel => exact ⟨k + 1, by omega, by go_num, _, _, HL5.out⟩
                  case measure => simp [intOf]; omega
                · have hkn : wn = k := by omega
                  subst hkn
                  have hdn := HL.out.done (by omega) hGc hGB
                  obtain ⟨g2, k1, k2, k3⟩ := hdn
                  have HDT : Hid (RStep (wo.alloc (.cells #[.int .i64 ck, .string wx, .int .i64 cn] 53)) (wr.setCell ⟨G + 2, 0, none⟩ (.slice ad' wn cd')) w1.heap.size G go (pWorks c d1)) := ⟨g2, k1, Kept.trans HKc.out k2 HNc.out (NxtX.refl _ _), Nxt.trans HNc.out k3 HKc.out.size⟩
                  have hwl : (pWorks c d1).1.length ≤ 60 ∧ (pWorks c d1).2.length = wn := by
                    have := works_len c d1.2 (d1.1, [])
                    unfold pWorks
                    simp only [List.length_nil] at this
                    omega
                  have HWL : Hid _ := hwl
                  clear k1 k2 k3 HL HLK hbxr hwl t0 t1
                  go_upto_region 23 with fail
                  clear t2 t3
                  obtain ⟨w6, hw6⟩ : ∃ w6, w6 = wr.setCell ⟨G + 2, 0, none⟩ (.slice ad' wn cd') := ⟨_, rfl⟩
                  rw [← hw6]
                  rw [← hw6] at HDT
                  clear hw6
                  have hbx6 := RStep.box (w0 := wo) HDT.out HBX.out (Nat.le_refl _) hszr hGB (fun g hg => (hgo g hg).2)
                  have x0 : w6.cell? ⟨wo.heap.size, 0, none⟩ = some (.int .i64 ck) := by rw [cell_of_row _ _ _ _ _ _ hbx6]; rfl
                  have x1 : w6.cell? ⟨wo.heap.size, 1, none⟩ = some (.string wx) := by rw [cell_of_row _ _ _ _ _ _ hbx6]; rfl
                  have x2 : w6.cell? ⟨wo.heap.size, 2, none⟩ = some (.int .i64 cn) := by rw [cell_of_row _ _ _ _ _ _ hbx6]; rfl
                  go_wp2_with fail
                  refine Calls.mono (HE.out _) ?_
                  rintro e w7 ⟨rfl, hb7⟩
                  have HD7 : Hid (RStep (wo.alloc (.cells #[.int .i64 ck, .string wx, .int .i64 cn] 53)) w7 w1.heap.size G go (pWorks c d1)) := RStep.post HDT.out hb7
                  have hbx7 := RStep.box (w0 := wo) HD7.out HBX.out (Nat.le_refl _) hszr hGB (fun g hg => (hgo g hg).2)
                  clear hb7 x0 x1 x2 HE hbx6 HDT
                  cases ie with
                  | true =>
                    obtain ⟨g6, S6, B6⟩ := HRN.out _ _ HD7.out
                    have HS6 : Hid (RSt w7 w1.heap.size G g6 (pDone wn l.fr (l.cs.take (j + 1)))) := by rw [HPC.out, HPJ.out, if_pos (Or.inr rfl)]; exact S6
                    have HB6 : Hid (Below G w1 w7) := B6
                    clear S6 B6 HRN HPC HPJ HD7
                    go_wp2_with fail
                    go_roundw
                    case rel => exact ⟨j + 1, by omega, by go_num, _, HS6, HB6⟩
                    case measure => simp [intOf]; omega
                  | false =>
                    have x0 : w7.cell? ⟨wo.heap.size, 0, none⟩ = some (.int .i64 ck) := by rw [cell_of_row _ _ _ _ _ _ hbx7]; rfl
                    have x1 : w7.cell? ⟨wo.heap.size, 1, none⟩ = some (.string wx) := by rw [cell_of_row _ _ _ _ _ _ hbx7]; rfl
                    have x2 : w7.cell? ⟨wo.heap.size, 2, none⟩ = some (.int .i64 cn) := by rw [cell_of_row _ _ _ _ _ _ hbx7]; rfl
                    obtain ⟨g7, ⟨v7, rows7, ao7, co7, e7, hb7x, hN7, hr7, hP7, _⟩, k7, n7⟩ := id HD7.out
                    obtain ⟨t0, t1, t2, t3⟩ := hb7x.cells
                    have hrl7 : rows7.length ≤ 60 := by have h1 := HWL.out.1; rw [← hr7] at h1; simpa using h1
                    have hs7 : w1.heap.size ≤ w7.heap.size := by have := k7.size; simp at this; omega
                    have HJA : Hid _ := fun (how : Int) (c' : Cmd) (W9 : World) (hb : Below w7.heap.size w7 W9) => radd_is (joinN how c' (pWorks c d1).2) ao7 co7 G w1.heap.size _ v7 rows7 W9 1 (by omega) ((hb.block _ (block_ltO hb7x.1)).trans hb7x.1) (hN7.below hb) (hP7.keep (Kept.of_below hb) (Nxt.refl _ _) (NxtX.refl _ _)) hrl7 (Nat.le_trans hs7 hb.size)
                    have HJF : Hid _ := fun (how : Int) (c' : Cmd) (W9 w' : World) (v' pv : Value) (hb : Below w7.heap.size w7 W9) (q1 : w'.heap[G]? = some (.cells #[v'] 35 (0, 0))) (q2 : NO w' w1.heap.size G (fun k => k = G + 2) 63 v' (rows7 ++ [(joinN how c' (pWorks c d1).2, ao7, co7)])) q3 q4 q5 q6 => open_newR (w := w7) (k := 1) (pv := pv) (v := v7) hb7x hb hGB hs7 (fun g hg => (hN7.base g hg).1) q1 q2 q3 q4 q5 q6
                    have HJB : Hid _ := fun (W9 w' : World) (v' : Value) (hb : Below w7.heap.size w7 W9) (q1 : w'.heap[G]? = some (.cells #[v'] 35 (0, 0))) (q5 : Kept G v7.ownBlock noX W9 w') => (hb7x.add (B := w1.heap.size) hb q1 q5 hGB (fun g hg => (hN7.base g hg).1)).cells
                    have hjf : ∀ (how : Int) (c' : Cmd), (rows7.map (·.1) ++ [(joinN how c' (pWorks c d1).2, ao7, co7).1], newPorts rows7.length 1) = pJoinAll how c' (pWorks c d1) := fun how c' => by
                      rw [hr7, newPorts_one]
                      unfold pJoinAll
                      simp only [← hr7, List.length_map]
                    simp only [hjf] at HJF
                    have HRT : Hid (∀ (w' : World) (d3 : PD), RStep w7 w' w1.heap.size G v7.ownBlock d3 → RStep (wo.alloc (.cells #[.int .i64 ck, .string wx, .int .i64 cn] 53)) w' w1.heap.size G go d3) := (show ∀ w' d3, _ → _ from fun w' d3 h => by
                      obtain ⟨g9, s9, k9, n9⟩ := h
                      rw [← e7] at k9 n9
                      exact ⟨g9, s9, k7.trans k9 n7 (NxtX.refl _ _), n7.trans n9 k7.size⟩)
                    rw [HWL.out.2] at t2
                    have HCC : Hid (∀ W, Below w7.heap.size w7 W → W.cell? ⟨wo.heap.size, 0, none⟩ = some (.int .i64 ck) ∧ W.cell? ⟨wo.heap.size, 1, none⟩ = some (.string wx) ∧ W.cell? ⟨wo.heap.size, 2, none⟩ = some (.int .i64 cn) ∧ W.cell? ⟨G + 1, 0, none⟩ = some (addV G) ∧ W.cell? ⟨G + 2, 0, none⟩ = some (.slice ao7 wn co7)) := (show ∀ W, _ → _ from fun W hb => ⟨(hb.cell (World.block_lt_of_cell? w7 _ x0)).trans x0, (hb.cell (World.block_lt_of_cell? w7 _ x1)).trans x1, (hb.cell (World.block_lt_of_cell? w7 _ x2)).trans x2, (hb.cell (World.block_lt_of_cell? w7 _ t1)).trans t1, (hb.cell (World.block_lt_of_cell? w7 _ t2)).trans t2⟩)
                    have HJ4 : Hid (∀ W9, Below w7.heap.size w7 W9 → Calls Tryd.prog 28 #[.agg #[.int .i64 4, .string ⟨#[]⟩, .int .i64 ck, .string wx, .int .i64 cn, .int .i64 4, .int .i64 0, .slice ao7 wn co7], .int .i64 1, .pointer (some ⟨G, 0, none⟩)] W9 (fun e w' => RAddEnd W9 w1.heap.size G (fun k => k = G + 2) v7 rows7 (joinN 4 c (pWorks c d1).2, ao7, co7) 1 e w')) := (show ∀ W9, _ → _ from fun W9 hb => by
                      have h9 := HJA.out 4 c W9 hb
                      have e9 := HNJ4.out (pWorks c d1).2 ao7 co7
                      rw [HWL.out.2] at e9
                      rw [show (joinN 4 c (pWorks c d1).2).ins.length = wn from HWL.out.2, e9] at h9
                      exact h9)
                    have HJ0 : Hid (∀ (how : Int) W9, Below w7.heap.size w7 W9 → Calls Tryd.prog 28 #[.agg #[.int .i64 4, .string ⟨#[]⟩, .int .i64 0, .string ⟨#[]⟩, .int .i64 0, .int .i64 how, .int .i64 0, .slice ao7 wn co7], .int .i64 1, .pointer (some ⟨G, 0, none⟩)] W9 (fun e w' => RAddEnd W9 w1.heap.size G (fun k => k = G + 2) v7 rows7 (joinN how noC (pWorks c d1).2, ao7, co7) 1 e w')) := (show ∀ how W9, _ → _ from fun how W9 hb => by
                      have h9 := HJA.out how noC W9 hb
                      have e9 := HNJ0.out how (pWorks c d1).2 ao7 co7
                      rw [HWL.out.2] at e9
                      rw [show (joinN how noC (pWorks c d1).2).ins.length = wn from HWL.out.2, e9] at h9
                      exact h9)
                    clear hbx7 hb7x hN7 hr7 hP7 k7 n7 hjf t0 t1 t3
                    have HZC : Hid (∀ W, Below (w7.alloc (.cells #[.int .i64 0, .string ⟨#[]⟩, .int .i64 0, .string ⟨#[]⟩, .int .i64 0, .int .i64 0, .int .i64 0, .slice none 0 0] 63)).heap.size (w7.alloc (.cells #[.int .i64 0, .string ⟨#[]⟩, .int .i64 0, .string ⟨#[]⟩, .int .i64 0, .int .i64 0, .int .i64 0, .slice none 0 0] 63)) W → NodeBox W w7.heap.size) := (show ∀ W, _ → _ from fun W hb => nodeBox_of hb)
                    have q0 : ∀ q, (w7.alloc q).cell? ⟨wo.heap.size, 0, none⟩ = some (.int .i64 ck) := fun q => (box_of.cell (World.block_lt_of_cell? w7 _ x0)).trans x0
                    have q1 : ∀ q, (w7.alloc q).cell? ⟨wo.heap.size, 1, none⟩ = some (.string wx) := fun q => (box_of.cell (World.block_lt_of_cell? w7 _ x1)).trans x1
                    have q2 : ∀ q, (w7.alloc q).cell? ⟨wo.heap.size, 2, none⟩ = some (.int .i64 cn) := fun q => (box_of.cell (World.block_lt_of_cell? w7 _ x2)).trans x2
                    have q3 : ∀ q, (w7.alloc q).cell? ⟨G + 2, 0, none⟩ = some (.slice ao7 wn co7) := fun q => (box_of.cell (World.block_lt_of_cell? w7 _ t2)).trans t2
                    go_upto_region 24 with fail
                    go_cut [16] from 78 to 81 (fun nv wx => ∃ nb : Nat, nv = .pointer (some ⟨nb, 0, none⟩) ∧ w7.heap.size ≤ nb ∧ Hid (wx.heap[nb]? = some (.cells #[.int .i64 4, .string ⟨#[]⟩, .int .i64 0, .string ⟨#[]⟩, .int .i64 0, .int .i64 how, .int .i64 0, .slice ao7 wn co7] 63 (0, 0))) ∧ Hid (Below w7.heap.size w7 wx))
                    case first =>
                      go_region_with (first
                        | (go_at_call 31; refine (HHOW.out _).mono ?_; rintro e w8 ⟨rfl, hb8⟩; have hnb : NodeBox w8 w7.heap.size := (hb8.block _ (by simp)).trans (heap_alloc_new _ _); have hb8' : Below w7.heap.size w7 w8 := (by first | exact (Below.refl _ _).drew.trans hb8 | exact box_of.drew.trans (hb8.mono (by simp)) | exact ((Below.refl _ _).drew.trans box_of).trans (hb8.mono (by simp))); obtain ⟨s0, s1, s2, s3, s4⟩ := HCC.out _ hb8'; have s4q : ∀ q, (w8.alloc q).cell? ⟨G + 2, 0, none⟩ = some (.slice ao7 wn co7) := (fun q => (box_of.cell (World.block_lt_of_cell? w8 _ s4)).trans s4); obtain ⟨m0, m1, m2, m3, m4, m5, m6, m7, f0, f1, f2, f3, f4, f5, f6, f7⟩ := hnb.cells)
                        | (go_at_call 31; refine (HHOW.out _).mono ?_; rintro e w8 ⟨rfl, hb8⟩; have hb8' : Below w7.heap.size w7 w8 := (by first | exact (Below.refl _ _).drew.trans hb8 | exact box_of.drew.trans (hb8.mono (by simp)) | exact ((Below.refl _ _).drew.trans box_of).trans (hb8.mono (by simp))); obtain ⟨s0, s1, s2, s3, s4⟩ := HCC.out _ hb8'; have s4q : ∀ q, (w8.alloc q).cell? ⟨G + 2, 0, none⟩ = some (.slice ao7 wn co7) := (fun q => (box_of.cell (World.block_lt_of_cell? w8 _ s4)).trans s4))
                        | fail)
                      all_goals (first
                        | (have hnb' := hnb; clear HCC HRT HJ4 HJ0 HJA HJF HJB HRN HZC HHOW; go_wp2_with fail; go_meet; exact ⟨w7.heap.size, rfl, Nat.le_refl _, set8R hnb' _ _ _ _ _ _ _ _, below_set8R hb8' (Nat.le_refl _) _ _ _ _ _ _ _ _⟩)
                        | (clear HCC HRT HJ4 HJ0 HJA HJF HJB HRN HZC HHOW; go_wp2_with fail; go_meet; exact ⟨w8.heap.size, rfl, hb8'.size, heap_alloc_new w8 _, hb8'.trans (box_of.mono hb8'.size)⟩))
                    case rest =>
                      obtain ⟨nb, rfl, hnb, HNB, HBW⟩ := hcut
                      have nc : ∀ i : Nat, wc.cell? ⟨nb, i, none⟩ = #[.int .i64 4, .string ⟨#[]⟩, .int .i64 0, .string ⟨#[]⟩, .int .i64 0, .int .i64 how, .int .i64 0, .slice ao7 wn co7][i]? := fun i => cell_of_row _ _ _ _ _ _ HNB.out
                      have n0 := nc 0
                      have n1 := nc 1
                      have n2 := nc 2
                      have n3 := nc 3
                      have n4 := nc 4
                      have n5 := nc 5
                      have n6 := nc 6
                      have n7 := nc 7
                      simp at n0 n1 n2 n3 n4 n5 n6 n7
                      have f2 : wc.frozen? ⟨nb, 2, none⟩ = false := frozen_of_row _ _ _ _ _ HNB.out
                      have f3 : wc.frozen? ⟨nb, 3, none⟩ = false := frozen_of_row _ _ _ _ _ HNB.out
                      have f4 : wc.frozen? ⟨nb, 4, none⟩ = false := frozen_of_row _ _ _ _ _ HNB.out
                      obtain ⟨s0, s1, s2, s3, s4⟩ := HCC.out _ HBW.out
                      clear nc x0 x1 x2 t2 q0 q1 q2 q3 HZC
                      by_cases h4 : how = 4
                      · subst h4
                        have hn9 : (((wc.setCell ⟨nb, 2, none⟩ (.int .i64 ck)).setCell ⟨nb, 3, none⟩ (.string wx)).setCell ⟨nb, 4, none⟩ (.int .i64 cn)).heap[nb]? = some (.cells #[.int .i64 4, .string ⟨#[]⟩, .int .i64 ck, .string wx, .int .i64 cn, .int .i64 4, .int .i64 0, .slice ao7 wn co7] 63 (0, 0)) := by
                          have h0 := heap_setCell_same _ nb 2 _ _ (.int .i64 ck) HNB.out
                          have h1 := heap_setCell_same _ nb 3 _ _ (.string wx) h0
                          have h2 := heap_setCell_same _ nb 4 _ _ (.int .i64 cn) h1
                          rw [h2]
                          simp
                        have hb9 : Below w7.heap.size w7 (((wc.setCell ⟨nb, 2, none⟩ (.int .i64 ck)).setCell ⟨nb, 3, none⟩ (.string wx)).setCell ⟨nb, 4, none⟩ (.int .i64 cn)) := ((HBW.out.setCell hnb _).setCell hnb _).setCell hnb _
                        clear s3 s4
                        go_upto_region 27 with fail
                        clear s0 s1 s2 n0 n1 n2 n3 n4 n5 n6 n7 f2 f3 f4
                        obtain ⟨w9, hw9⟩ : ∃ w9, w9 = ((wc.setCell ⟨nb, 2, none⟩ (.int .i64 ck)).setCell ⟨nb, 3, none⟩ (.string wx)).setCell ⟨nb, 4, none⟩ (.int .i64 cn) := ⟨_, rfl⟩
                        rw [← hw9] at hn9 hb9 ⊢
                        have HB9 : Hid _ := hb9
                        have nc : ∀ i : Nat, w9.cell? ⟨nb, i, none⟩ = #[.int .i64 4, .string ⟨#[]⟩, .int .i64 ck, .string wx, .int .i64 cn, .int .i64 4, .int .i64 0, .slice ao7 wn co7][i]? := fun i => cell_of_row _ _ _ _ _ _ hn9
                        have n0 := nc 0
                        have n1 := nc 1
                        have n2 := nc 2
                        have n3 := nc 3
                        have n4 := nc 4
                        have n5 := nc 5
                        have n6 := nc 6
                        have n7 := nc 7
                        simp at n0 n1 n2 n3 n4 n5 n6 n7
                        obtain ⟨s0, s1, s2, s3, s4⟩ := HCC.out _ hb9
                        unfold addV at s3
                        have HCL : Hid _ := HJ4.out _ hb9
                        clear hw9 hn9 hb9 nc HNB HBW
                        go_wp2_with fail
                        refine Calls.mono HCL.out ?_
                        rintro e w10 ⟨v10, pv, rfl, q1, q2, q3, q4, q5, q6⟩
                        obtain ⟨y0, y1, y2, y3⟩ := HJB.out _ _ _ HB9.out q1 q5
                        have hff := HRT.out _ _ (HJF.out 4 c _ _ _ _ HB9.out q1 q2 q3 q4 q5 q6)
                        obtain ⟨g6, S6, B6⟩ := HRN.out _ _ hff
                        obtain ⟨ap, cp, hpv, _, _⟩ := owns_formO q3
                        subst hpv
                        have HS6 : Hid (RSt (w10.setCell ⟨G + 2, 0, none⟩ (.slice ap 1 cp)) w1.heap.size G g6 (pDone wn l.fr (l.cs.take (j + 1)))) := by rw [HPC.out, HPJ.out, if_neg (by simp; omega), if_pos trivial]; exact S6
                        have HB6 : Hid (Below G w1 (w10.setCell ⟨G + 2, 0, none⟩ (.slice ap 1 cp))) := B6
                        clear S6 B6 HRN HPC HPJ HD7 hff q1 q2 q3 q4 q5 q6 HJA HJF HJB HRT HJ4 HJ0 HCC HNJ4 HNJ0 HAD HHOW
                        go_wp2_with fail
                        go_roundw
                        case rel => exact ⟨j + 1, by omega, by go_num, _, HS6, HB6⟩
                        case measure => simp [intOf]; omega
                      · have h4' : (how == 4) = false := by simpa using h4
                        have HB9 : Hid _ := HBW.out
                        unfold addV at s3
                        have HCL : Hid _ := HJ0.out how _ HBW.out
                        clear HNB HBW
                        go_wp2_with fail
                        refine Calls.mono HCL.out ?_
                        rintro e w10 ⟨v10, pv, rfl, q1, q2, q3, q4, q5, q6⟩
                        obtain ⟨y0, y1, y2, y3⟩ := HJB.out _ _ _ HB9.out q1 q5
                        have hff := HRT.out _ _ (HJF.out how noC _ _ _ _ HB9.out q1 q2 q3 q4 q5 q6)
                        obtain ⟨g6, S6, B6⟩ := HRN.out _ _ hff
                        obtain ⟨ap, cp, hpv, _, _⟩ := owns_formO q3
                        subst hpv
                        have HS6 : Hid (RSt (w10.setCell ⟨G + 2, 0, none⟩ (.slice ap 1 cp)) w1.heap.size G g6 (pDone wn l.fr (l.cs.take (j + 1)))) := by rw [HPC.out, HPJ.out, if_neg (by simp; omega), if_neg h4]; exact S6
                        have HB6 : Hid (Below G w1 (w10.setCell ⟨G + 2, 0, none⟩ (.slice ap 1 cp))) := B6
                        clear S6 B6 HRN HPC HPJ HD7 hff q1 q2 q3 q4 q5 q6 HJA HJF HJB HRT HJ4 HJ0 HCC HNJ4 HNJ0 HAD HHOW
                        go_wp2_with fail
                        go_roundw
                        case rel => exact ⟨j + 1, by omega, by go_num, _, HS6, HB6⟩
                        case measure => simp [intOf]; omega
        · have hjN : ND = j := by omega
          have hall : l.cs.take j = l.cs := by rw [← hjN, HND.out, List.take_length]
          rw [hall] at HS
          have hlen := HDL.out j hj
          rw [hall] at hlen
          have HBH : Hid _ := together_is w1.heap.size G go (pDone wn l.fr l.cs) wo HS.out (by omega) hszr
          have HBG : Hid _ := fun (w' : World) (h : RStep wo w' w1.heap.size G go (pBehind (pDone wn l.fr l.cs))) => h.go HS.out HBr.out (Nat.le_refl _)
          clear HS HBr hlen hall
          go_wp2_with fail
          refine Calls.mono HBH.out ?_
          rintro e w7 ⟨rfl, hst⟩
          obtain ⟨go7, ⟨v7, rows7, ao7, co7, e7, hb7x, hN7, hrows7, hP7, hGB⟩, B7⟩ := HBG.out _ hst
          have HB7 : Hid (Below G w1 w7) := B7
          have hs7 := B7.size
          have h49 := HLN.out.1
          have h1p := HLN.out.2
          have hpl : (plan l wn).length = rows7.length + 1 := by unfold plan pSink; rw [← hrows7]; simp
          have hplan : plan l wn = (rows7 ++ [(sinkN l.to (pBehind (pDone wn l.fr l.cs)).2, ao7, co7)]).map (·.1) := by unfold plan pSink; rw [← hrows7]; simp
          have hadd := radd_is (sinkN l.to (pBehind (pDone wn l.fr l.cs)).2) ao7 co7 G w1.heap.size _ v7 rows7 w7 0 (by omega) hb7x.1 hN7 hP7 (by omega) hs7
          have hnv : nodeV (sinkN l.to (pBehind (pDone wn l.fr l.cs)).2) ao7 (sinkN l.to (pBehind (pDone wn l.fr l.cs)).2).ins.length co7 = .agg #[.int .i64 5, .string tx, .int .i64 0, .string ⟨#[]⟩, .int .i64 0, .int .i64 0, .int .i64 0, .slice ao7 1 co7] := by
            rw [show (sinkN l.to (pBehind (pDone wn l.fr l.cs)).2).ins.length = 1 from h1p, HTX.out]
            rfl
          rw [hnv] at hadd
          have HADD : Hid _ := hadd
          have HB8 : Hid _ := fun (w' : World) (h : Kept G v7.ownBlock noX w7 w') => (show Below G w1 w' from B7.trans (h.below (by omega) (Nat.le_refl _) (fun g hg => by have := (hN7.base g hg).1; omega) (fun g hg => hg.elim)))
          obtain ⟨t0, t1, t2, t3⟩ := hb7x.cells
          rw [h1p] at t2
          unfold addV at t1
          obtain ⟨x0, x1, x2, x3, x4⟩ := (HLR.out.below B7 hGw).cells
          have HPL : Hid _ := hplan
          have HPN : Hid _ := hpl
          clear hst HBH HBG hplan hpl hN7 hP7 hrows7 hb7x B7 HLN h49 hadd hnv
          go_wp2_with fail
          refine Calls.mono HADD.out ?_
          rintro e w8 ⟨v8, pv, rfl, q1, q2, q3, q4, q5, q6⟩
          have hb8 := HB8.out _ q5
          obtain ⟨a8, c8, hv8, _, _⟩ := q2.form
          have hl8 : (rows7 ++ [(sinkN l.to (pBehind (pDone wn l.fr l.cs)).2, ao7, co7)]).length = (plan l wn).length := by rw [HPN.out]; simp
          rw [hl8] at hv8
          subst hv8
          have d0 : w8.cell? ⟨G, 0, none⟩ = some (.slice a8 (plan l wn).length c8) := by rw [cell_of_row _ _ _ _ _ _ q1]; rfl
          obtain ⟨y0, y1, y2, y3, y4⟩ := (HLR.out.below hb8 hGw).cells
          have hrn := (NO.setR q2 (a := ⟨w.heap.size + 1, 0, none⟩) (by simp only; omega) y3 (.slice a8 (plan l wn).length c8)).nodes
          rw [← HPL.out] at hrn
          have HRN : Hid _ := hrn
          have HBF : Hid (Below w.heap.size w (w8.setCell ⟨w.heap.size + 1, 0, none⟩ (.slice a8 (plan l wn).length c8))) := (HBB.out.trans (hb8.mono (by omega))).setCell (by simp) _
          have hcs : (w8.setCell ⟨w.heap.size + 1, 0, none⟩ (.slice a8 (plan l wn).length c8)).cell? ⟨w.heap.size + 1, 0, none⟩ = some (.slice a8 (plan l wn).length c8) := by
            rw [cell_of_row _ _ _ _ _ _ (heap_setCell_same _ _ _ _ _ (.slice a8 (plan l wn).length c8) (HLR.out.below hb8 hGw).2)]
            simp
          clear q1 q2 q3 q4 q5 q6 hb8 hrn HADD HB8 HPL HPN hl8 x0 x1 x2 x3 x4 t0 t1 t2 t3
          go_wp2_with fail
          (try simp only [Exit.inBlock, Exit.then])
          refine bodyPost_ret (v := .agg #[.slice a8 (plan l wn).length c8]) ?_ rfl ⟨a8, c8, rfl, HRN.out, HBF.out⟩
          simp [results, go_sem, hcs]
end Go.Proofs.YtkifihcficobnabDoor
