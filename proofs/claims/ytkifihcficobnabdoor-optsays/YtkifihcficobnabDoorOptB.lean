/- What the developers' Plan does, first: its files. What the developers' Plan does. What the developers' Plan of a right line does. -/
import Derived.Test.YtkifihcficobnabDoorDevOpt4
import Derived.Test.YtkifihcficobnabDoorDevScript1
import Derived.Test.YtkifihcficobnabDoorPlainD
namespace Go.Proofs.YtkifihcficobnabDoor
open Go.RowKit Go.Gs
set_option linter.unusedVariables false

theorem step_callO {P : Program} {ops : Array Oper} {o : Oper} {a : Act} {w : World} {K : Act → World → Prop} {Q : Exit → Act → World → Prop} {E : Prop} {R : Ending → World → Prop}
    (hgd : o.guard = none) (f : FuncId) (args : Array Value) (hrun : (execOp a.eval o).run P w = .ok (.enter f args) w) (hc : Calls P f args w R) (h : ∀ e w', R e w' → ∃ v, e = .returned v ∧ K (a.put o.dst v) w') :
    if Region.wanted o (yielded ops a.tmps) = true then Oper.wp P o a w K Q else E := by
  have hw : Region.wanted o (yielded ops a.tmps) = true := by simp [Region.wanted, hgd]
  rw [if_pos hw]
  unfold Oper.wp
  rw [hrun, Oper.upon_enter]
  refine hc.mono fun e w'' hh => ?_
  obtain ⟨v, rfl, hk⟩ := h e w'' hh
  exact hk
/-- So many Sources stand. -/
def SRel (w1 wr : World) (D : Nat) (fr : List (List UInt8)) (k : Nat) (ov v : Value) (rows : List NRow) : Prop :=
  wr.heap[D]? = some (.cells #[v, ov] 60 (0, 0)) ∧ NO wr D D (fun q => ov.ownBlock = some q) 63 v rows ∧ rows.map (·.1) = (pStart (fr.take k)).1 ∧
  wr.ownsRow D 70 2 ov k (pCells (pStart (fr.take k)).2) ∧ (∀ g, ov.ownBlock = some g → v.ownBlock ≠ some g ∧ g ≠ D) ∧ Below D w1 wr
theorem SRel.start (w1 : World) (fr : List (List UInt8)) : SRel w1 (w1.alloc (.cells #[.slice none 0 0, .slice none 0 0] 60)) w1.heap.size fr 0 (.slice none 0 0) (.slice none 0 0) [] :=
  ⟨heap_alloc_new _ _, NO.nil _ _ _ _ _, by simp [pStart], World.ownsRow_nil _ _ _ _, fun g hg => by simp [Value.ownBlock] at hg, box_of⟩
theorem SRel.add {w1 wr W2 : World} {D : Nat} {fr : List (List UInt8)} {k : Nat} {ov v : Value} {rows : List NRow} (h : SRel w1 wr D fr k ov v rows) (hb : Below wr.heap.size wr W2) (f : List UInt8) (hl : rows.length ≤ 60) :
    Calls Tryd.prog 20 #[.pointer (some ⟨D, 0, none⟩), .agg #[.int .i64 1, .string ⟨f.toArray⟩, .int .i64 0, .string ⟨#[]⟩, .int .i64 0, .int .i64 0, .int .i64 0, .slice none 0 0]] W2 fun e w' => AddEnd W2 D D (fun q => ov.ownBlock = some q) v ov rows (srcN f, none, 0) 1 e w' := by
  obtain ⟨h1, h2, h3, h4, h5, h6⟩ := h
  have hDl := block_ltO h1
  exact add_is (srcN f) none 0 D D _ v ov rows W2 1 rfl (by omega) ((hb.block _ hDl).trans h1) (h2.below hb) (POff.nil _ _ _ _) hl (Nat.le_refl _) (by have := hb.size; omega)
theorem SRel.own4 {w1 wr W2 w4 : World} {D : Nat} {fr : List (List UInt8)} {k : Nat} {ov v : Value} {rows : List NRow} (h : SRel w1 wr D fr k ov v rows) (hb : Below wr.heap.size wr W2) (hk : Kept D v.ownBlock noX W2 w4) : w4.ownsRow D 70 2 ov k (pCells (pStart (fr.take k)).2) := by
  obtain ⟨h1, h2, h3, h4, h5, h6⟩ := h
  refine owns_keepO h4 (fun g hg hl => ?_)
  rw [hk.block g (Nat.lt_of_lt_of_le hl hb.size) (fun e => ?_), hb.block g hl]
  rcases e with e | e | e
  · exact (h5 g hg).2 e
  · exact (h5 g hg).1 e
  · exact e
theorem SRel.step {w1 wr W2 w4 w5 : World} {D : Nat} {fr : List (List UInt8)} {k : Nat} {ov v : Value} {rows : List NRow} (h : SRel w1 wr D fr k ov v rows) {f : List UInt8} (hf : fr[k]? = some f) (hDw : D ≤ w1.heap.size) (hb : Below wr.heap.size wr W2) {v4 ov5 : Value} {r : NRow} (hr : r.1 = srcN f)
    (q1 : w4.heap[D]? = some (.cells #[v4, ov] 60 (0, 0))) (q2 : NO w4 D D (fun q => ov.ownBlock = some q) 63 v4 (rows ++ [r])) (q6 : Kept D v.ownBlock noX W2 w4) (q7 : Nxt W2 v.ownBlock v4.ownBlock)
    (ow : w5.ownsRow D 70 2 ov5 (k + 1) (pCells (pStart (fr.take k)).2 ++ pCells (newPorts rows.length 1))) (gr : w4.grownBy w5 ov.ownBlock) (bl : ov5.ownBlock = ov.ownBlock ∨ ov5.ownBlock = some w4.heap.size) :
    SRel w1 (w5.setCell ⟨D, 1, none⟩ ov5) D fr (k + 1) ov5 v4 (rows ++ [r]) ∧ w5.heap[D]? = some (.cells #[v4, ov] 60 (0, 0)) := by
  obtain ⟨h1, h2, h3, h4, h5, h6⟩ := h
  have hDl := block_ltO h1
  have hrl : rows.length = (pStart (fr.take k)).1.length := by rw [← h3]; simp
  have hs1 := hb.size
  have hs2 := q6.size
  have htake : pStart (fr.take (k + 1)) = pSrc (pStart (fr.take k)) f := by rw [List.take_add_one, hf, Option.toList_some, pStart_snoc]
  have hne : ∀ g, ov.ownBlock = some g → v4.ownBlock ≠ some g := by
    intro g hg e
    rcases q7 with e7 | ⟨g', e7, hg'⟩
    · exact (h5 g hg).1 (by rw [← e7]; exact e)
    · rw [e7] at e; injection e with e; have := owns_ltO h4 g hg; omega
  have hv4 : ∀ g, v4.ownBlock = some g → g < w4.heap.size := fun g hg => (q2.base g hg).2
  have hND : Nxt w4 ov.ownBlock ov5.ownBlock := by
    rcases bl with e | e
    · exact .inl e
    · exact .inr ⟨_, e, Nat.le_refl _⟩
  have hkd : Kept D v4.ownBlock (fun q => ov.ownBlock = some q) w4 w5 := Kept.of_grown gr (fun k e => .inr (.inr e))
  have hD5 : w5.heap[D]? = some (.cells #[v4, ov] 60 (0, 0)) := by
    rw [gr.block D (by omega) (fun e => (h5 D e.symm).2 rfl)]
    exact q1
  have hno5 : NO w5 D D (fun q => ov5.ownBlock = some q) 63 v4 (rows ++ [r]) := q2.keep hkd (fun g hg => gr.block g (hv4 g hg) (fun e => hne g e.symm hg)) (fun q hq hx => hND.old hq hx)
  have hov5 : ∀ g, ov5.ownBlock = some g → v4.ownBlock ≠ some g ∧ g ≠ D := by
    intro g hg
    rcases bl with e | e
    · rw [e] at hg
      exact ⟨hne g hg, (h5 g hg).2⟩
    · rw [e] at hg
      injection hg with hg
      refine ⟨fun e3 => ?_, by omega⟩
      have := hv4 g e3
      omega
  refine ⟨⟨?_, hno5.set rfl, ?_, ?_, hov5, ?_⟩, hD5⟩
  · rw [heap_setCell_same _ _ _ _ _ _ hD5]; simp
  · rw [List.map_append, h3, htake, List.map_cons, List.map_nil, hr]
    rfl
  · have e2 : pCells (pStart (fr.take (k + 1))).2 = pCells (pStart (fr.take k)).2 ++ pCells (newPorts rows.length 1) := by
      rw [htake, newPorts_one, hrl]
      simp [pSrc, pCells]
    rw [e2]
    exact owns_keepO ow (fun g hg hl => Below.heap_setCell _ _ _ _ (hov5 g hg).2)
  · have b1 : Below D w1 W2 := h6.trans (hb.mono (by omega))
    have b2 : Below D W2 w4 := q6.below (by omega) (Nat.le_refl _) (fun g hg => (h2.base g hg).1) (fun g hg => hg.elim)
    have b3 : Below D w4 w5 := hkd.below (by omega) (Nat.le_refl _) (fun g hg => (q2.base g hg).1) (fun g hg => by
      rcases id h4.2 with ⟨e, _⟩ | ⟨g', cap, cur, e, hb, _⟩
      · rw [e] at hg; simp [Value.ownBlock] at hg
      · rw [e] at hg; simp [Value.ownBlock] at hg; omega)
    exact ((b1.trans b2).trans b3).setCell (Nat.le_refl _) _
theorem SRel.done {w1 wr : World} {D : Nat} {fr : List (List UInt8)} {k : Nat} {ov v : Value} {rows : List NRow} (h : SRel w1 wr D fr k ov v rows) (hk : k = fr.length) : DSt wr D D v.ownBlock noX (pStart fr) := by
  subst hk
  obtain ⟨h1, h2, h3, h4, h5, h6⟩ := h
  rw [List.take_length] at h3 h4
  have hl2 : (pStart fr).2.length = fr.length := by have := (pStart_len fr ([], [])).2; simpa [pStart] using this
  have h4' : wr.ownsRow D 70 2 ov (pStart fr).2.length (pCells (pStart fr).2) := by rw [hl2]; exact h4
  obtain ⟨ao, cap, rfl, hrp⟩ := rports_ownO h4'
  refine ⟨v, rows, ao, cap, rfl, h1, h2.less (fun k _ hk => hk.elim), h3, ⟨hrp, fun _ a ha hf => ?_⟩, Nat.le_refl _, fun k hk => hk.elim⟩
  have hg := h5 a.block (by rw [ha]; rfl)
  rcases hf with e | e | e
  · exact hg.2 e
  · exact hg.1 e
  · exact e
end Go.Proofs.YtkifihcficobnabDoor
namespace Go.Proofs.YtkifihcficobnabDoor
open Go.RowKit Go.Gs
set_option linter.unusedVariables false

/-- Plan. -/
def planT (l : SLine) (W : Int) : List SNode × Int := if lchk l ≠ 0 then ([], lchk l) else if W < 1 ∨ 5 < W then ([], 3) else (plan l W.toNat, 0)
theorem planT_bad {l : SLine} {W : Int} (h : lchk l ≠ 0) : planT l W = ([], lchk l) := by unfold planT; rw [if_pos h]
theorem planT_range {l : SLine} {W : Int} (h : lchk l = 0) (hw : W < 1 ∨ 5 < W) : planT l W = ([], 3) := by unfold planT; rw [if_neg (by simp [h]), if_pos hw]
theorem planT_ok {l : SLine} {W : Int} (h : lchk l = 0) (hw : ¬ (W < 1 ∨ 5 < W)) : planT l W = (plan l W.toNat, 0) := by unfold planT; rw [if_neg (by simp [h]), if_neg hw]
def PlanEnd (w : World) (p : List SNode × Int) (e : Ending) (w' : World) : Prop := ∃ ao cap, e = .returned (.tuple #[.agg #[.slice ao p.1.length cap], .int .i64 p.2]) ∧ RNodes w' (.slice ao p.1.length cap) p.1 ∧ Below w.heap.size w w'
theorem rnodes_nilO (w : World) : RNodes w (.slice none 0 0) [] := ⟨none, 0, rfl, by simp, by simp [maxLen], fun h => absurd rfl h⟩
theorem rports_setO {w : World} {ao : Option Addr} {cap : Nat} {ps : List (Int × Int)} (h : RPorts w (.slice ao ps.length cap) ps) {a : Addr} {x : Option Addr} {y z : Nat} (hc : w.cell? a = some (.slice x y z)) (u : Value) : RPorts (w.setCell a u) (.slice ao ps.length cap) ps := by
  obtain ⟨ao', cap', e, h2, h3, h4⟩ := h
  injection e with e1 e2 e3
  subst e1 e3
  refine ⟨ao, cap, rfl, h2, h3, fun hn => ?_⟩
  obtain ⟨b, off, rfl, hcs⟩ := h4 hn
  refine ⟨b, off, rfl, fun j p hp => ?_⟩
  obtain ⟨c1, c2⟩ := hcs j p hp
  exact ⟨(World.cell?_setCell_other w a _ u (fun e => by rw [← e, hc] at c1; cases c1)).trans c1, (World.cell?_setCell_other w a _ u (fun e => by rw [← e, hc] at c2; cases c2)).trans c2⟩
theorem NO.setR {w : World} {B D : Nat} {X : Nat → Prop} {e : TypeId} {v : Value} {rows : List NRow} (h : NO w B D X e v rows) {a : Addr} (ha : a.block < B) {x : Option Addr} {y z : Nat} (hc : w.cell? a = some (.slice x y z)) (u : Value) : NO (w.setCell a u) B D X e v rows :=
  ⟨ownsRow_setCell_below h.own ha u, fun r hr => ⟨rports_setO (h.good r hr).1 hc u, (h.good r hr).2⟩, h.off⟩
/-- The line's box and the result's. -/
def LR (W : World) (b0 : Nat) (x y z : Value) : Prop := W.heap[b0]? = some (.cells #[x, y, z] 32 (0, 0)) ∧ W.heap[b0 + 1]? = some (.cells #[.slice none 0 0] 35 (0, 0))
theorem LR.cells {W : World} {b0 : Nat} {x y z : Value} (h : LR W b0 x y z) : W.cell? ⟨b0, 0, none⟩ = some x ∧ W.cell? ⟨b0, 1, none⟩ = some y ∧ W.cell? ⟨b0, 2, none⟩ = some z ∧ W.cell? ⟨b0 + 1, 0, none⟩ = some (.slice none 0 0) ∧ W.frozen? ⟨b0 + 1, 0, none⟩ = false := by
  refine ⟨?_, ?_, ?_, ?_, frozen_of_row _ _ _ _ _ h.2⟩
  · rw [cell_of_row _ _ _ _ _ _ h.1]; rfl
  · rw [cell_of_row _ _ _ _ _ _ h.1]; rfl
  · rw [cell_of_row _ _ _ _ _ _ h.1]; rfl
  · rw [cell_of_row _ _ _ _ _ _ h.2]; rfl
theorem LR.start {w w1 : World} {x y z : Value} (hb : Below ((w.alloc (.cells #[x, y, z] 32)).alloc (.cells #[.slice none 0 0] 35)).heap.size ((w.alloc (.cells #[x, y, z] 32)).alloc (.cells #[.slice none 0 0] 35)) w1) : LR w1 w.heap.size x y z := by
  refine ⟨?_, ?_⟩
  · rw [hb.block _ (by simp; omega), Below.heap_alloc _ _ _ (by simp)]; exact heap_alloc_new w _
  · rw [hb.block _ (by simp)]
    have := heap_alloc_new (w.alloc (.cells #[x, y, z] 32)) (.cells #[.slice none 0 0] 35)
    simpa using this
theorem LR.below {W W' : World} {b0 D : Nat} {x y z : Value} (h : LR W b0 x y z) (hb : Below D W W') (hD : b0 + 1 < D) : LR W' b0 x y z := ⟨(hb.block _ (by omega)).trans h.1, (hb.block _ hD).trans h.2⟩
theorem two_belowO {w : World} {o1 o2 : Obj} : Below w.heap.size w ((w.alloc o1).alloc o2) := box_of.trans (box_of.mono (by simp))

set_option maxRecDepth 100000 in
set_option maxHeartbeats 4000000 in
theorem plan_err (l : SLine) (W : Int) (af ad : Option Addr) (cf cd : Nat) (w : World) (hf : Reads w (.slice af l.fr.length cf) l.fr.length (l.fr.map S)) (hd : RCmds w (.slice ad l.cs.length cd) l.cs) (hfit : FitsL l) (h : lchk l ≠ 0 ∨ W < 1 ∨ 5 < W) :
    Calls Tryd.prog 8 #[.agg #[.slice af l.fr.length cf, .slice ad l.cs.length cd, .string ⟨l.to.toArray⟩], .int .i64 W] w fun e w' => PlanEnd w (planT l W) e w' := by
  have HC : Hid _ := fun (W : World) (hb : Below w.heap.size w W) => checkLine_is l af ad cf cd W (hf.below hb) (hd.below hb) hfit
  have HB1 : Hid (lchk l ≠ 0 → planT l W = ([], lchk l)) := (show _ → _ from planT_bad)
  have HB2 : Hid (lchk l = 0 → (W < 1 ∨ 5 < W) → planT l W = ([], 3)) := (show _ → _ → _ from planT_range)
  generalize planT l W = pt at *
  generalize lchk l = ck at *
  generalize (⟨l.to.toArray⟩ : ByteArray) = tx at *
  generalize l.fr.length = NF at *
  generalize l.cs.length = ND at *
  clear hf hd hfit
  by_cases hck : ck = 0
  · subst hck
    have hw : W < 1 ∨ 5 < W := by rcases h with h | h; exact absurd rfl h; exact h
    have HPT := HB2.out rfl hw
    subst HPT
    clear HB1 HB2 h
    by_cases hw1 : W < 1
    · clear hw
      go_enter Tryd.func8, Tryd.ntmps8
      go_wp2_with fail
      refine (HC.out _ two_belowO).mono ?_
      rintro e w1 ⟨rfl, hb1⟩
      have HBB : Hid (Below w.heap.size w w1) := two_belowO.trans (hb1.mono (by simp; omega))
      obtain ⟨x0, x1, x2, x3, x4⟩ := (LR.start hb1).cells
      clear hb1 HC
      go_wp2_with fail
      (try simp only [Exit.inBlock, Exit.then])
      refine bodyPost_ret (v := .tuple #[.agg #[.slice none 0 0], .int .i64 3]) ?_ rfl ⟨none, 0, rfl, rnodes_nilO _, HBB.out.setCell (by simp) _⟩
      rw [results_cell_tmp rfl]
      go_simp
    · have hw5 : 5 < W := by omega
      clear hw
      go_enter Tryd.func8, Tryd.ntmps8
      go_wp2_with fail
      refine (HC.out _ two_belowO).mono ?_
      rintro e w1 ⟨rfl, hb1⟩
      have HBB : Hid (Below w.heap.size w w1) := two_belowO.trans (hb1.mono (by simp; omega))
      obtain ⟨x0, x1, x2, x3, x4⟩ := (LR.start hb1).cells
      clear hb1 HC
      go_wp2_with fail
      (try simp only [Exit.inBlock, Exit.then])
      refine bodyPost_ret (v := .tuple #[.agg #[.slice none 0 0], .int .i64 3]) ?_ rfl ⟨none, 0, rfl, rnodes_nilO _, HBB.out.setCell (by simp) _⟩
      rw [results_cell_tmp rfl]
      go_simp
  · have HPT := HB1.out hck
    subst HPT
    clear HB1 HB2 h
    go_enter Tryd.func8, Tryd.ntmps8
    go_wp2_with fail
    refine (HC.out _ two_belowO).mono ?_
    rintro e w1 ⟨rfl, hb1⟩
    have HBB : Hid (Below w.heap.size w w1) := two_belowO.trans (hb1.mono (by simp; omega))
    obtain ⟨x0, x1, x2, x3, x4⟩ := (LR.start hb1).cells
    clear hb1 HC
    go_wp2_with fail
    (try simp only [Exit.inBlock, Exit.then])
    refine bodyPost_ret (v := .tuple #[.agg #[.slice none 0 0], .int .i64 ck]) ?_ rfl ⟨none, 0, rfl, rnodes_nilO _, HBB.out.setCell (by simp) _⟩
    rw [results_cell_tmp rfl]
    go_simp
end Go.Proofs.YtkifihcficobnabDoor
namespace Go.Proofs.YtkifihcficobnabDoor
open Go.RowKit Go.Gs
set_option linter.unusedVariables false

theorem DStep.go {w w' w1 : World} {B D : Nat} {go : Option Nat} {X : Nat → Prop} {d d2 : PD} (h : DStep w w' B D go X d2) (hs : DSt w B D go X d) (hb : Below B w1 w) (hB : B ≤ w.heap.size) : ∃ go', DSt w' B D go' X d2 ∧ Below B w1 w' := by
  obtain ⟨g', h1, h2, h3⟩ := h
  obtain ⟨a1, a2, a3⟩ := hs.own
  exact ⟨g', h1, hb.trans (h2.below hB a3 (fun g hg => (a1 g hg).1) (fun g hg => hg.elim))⟩

set_option maxRecDepth 100000 in
set_option maxHeartbeats 8000000 in
theorem plan_ok (l : SLine) (wn : Nat) (hw : 1 ≤ wn ∧ wn ≤ 5) (af ad : Option Addr) (cf cd : Nat) (w : World) (hf : Reads w (.slice af l.fr.length cf) l.fr.length (l.fr.map S)) (hd : RCmds w (.slice ad l.cs.length cd) l.cs) (hfit : FitsL l) (h : lchk l = 0) :
    Calls Tryd.prog 8 #[.agg #[.slice af l.fr.length cf, .slice ad l.cs.length cd, .string ⟨l.to.toArray⟩], .int .i64 (wn : Int)] w fun e w' => PlanEnd w (plan l wn, 0) e w' := by
  have HC : Hid _ := fun (W : World) (hb : Below w.heap.size w W) => checkLine_is l af ad cf cd W (hf.below hb) (hd.below hb) hfit
  rw [h] at HC
  obtain ⟨⟨hn1, hn4, hn6⟩, hwf, hwt, hcs⟩ := lchk_all h
  have HF : Hid (Reads w (.slice af l.fr.length cf) l.fr.length (l.fr.map S)) := hf
  have HD : Hid (RCmds w (.slice ad l.cs.length cd) l.cs) := hd
  have HCS : Hid (∀ c ∈ l.cs, chk c = 0) := hcs
  have HFit : Hid (FitsL l) := hfit
  have HLN : Hid _ := (plan_len hw h)
  obtain ⟨NF, hNF⟩ : ∃ N, N = l.fr.length := ⟨_, rfl⟩
  obtain ⟨ND, hND⟩ : ∃ N, N = l.cs.length := ⟨_, rfl⟩
  have HNF : Hid (NF = l.fr.length) := hNF
  have HND : Hid (ND = l.cs.length) := hND
  have hN1 : 1 ≤ NF := by omega
  have hN4 : NF ≤ 4 := by omega
  have hN6 : ND ≤ 6 := by omega
  have hw1 : ¬ (wn : Int) < 1 := by omega
  have hw5 : ¬ (5 : Int) < (wn : Int) := by omega
  have HDL : Hid (∀ k, k ≤ ND → ((pDone wn l.fr (l.cs.take k)).2.length = 1 ∨ (pDone wn l.fr (l.cs.take k)).2.length = wn) ∧ (pDone wn l.fr (l.cs.take k)).1.length ≤ 5 + 7 * k) := (show ∀ k, _ → _ from fun k hk => by
    have := pDone_len hw hn1 hn4 (l.cs.take k)
    rw [List.length_take, Nat.min_eq_left (by omega)] at this
    exact this)
  rw [← hNF, ← hND] at HC ⊢
  obtain ⟨tx, htx⟩ : ∃ tx : ByteArray, tx = ⟨l.to.toArray⟩ := ⟨_, rfl⟩
  have HTX : Hid (tx = ⟨l.to.toArray⟩) := htx
  rw [← htx] at HC ⊢
  rw [← hNF] at HF
  rw [← hND] at HD
  obtain ⟨i1, hi', hy0, hy1, hy2⟩ := info_parts infoPortO
  clear hf hd hfit h hn1 hn4 hn6 hwf hwt hcs hNF hND htx
  go_enter Tryd.func8, Tryd.ntmps8
  go_wp2_with fail
  refine (HC.out _ two_belowO).mono ?_
  rintro e w1 ⟨rfl, hb1⟩
  have HBB : Hid (Below w.heap.size w w1) := two_belowO.trans (hb1.mono (by simp; omega))
  have HLR : Hid (LR w1 w.heap.size (.slice af NF cf) (.slice ad ND cd) (.string tx)) := LR.start hb1
  have hs1 : w.heap.size + 1 < w1.heap.size := by have := hb1.size; simp at this; omega
  obtain ⟨x0, x1, x2, x3, x4⟩ := HLR.out.cells
  have hx0 := (box_of (w := w1) (o := .cells #[.slice none 0 0, .slice none 0 0] 60)).cell (World.block_lt_of_cell? w1 _ x0)
  rw [x0] at hx0
  clear hb1 HC x0 x1 x2 x3 x4
  go_wp2_with fail
  go_loopw [29] (fun i wr => ∃ k : Nat, k ≤ NF ∧ i = .int .i64 k ∧ ∃ ov v rows, Hid (SRel w1 wr w1.heap.size l.fr k ov v rows)) (fun i _ => NF - (intOf i).toNat)
  case atStart => exact ⟨0, Nat.zero_le _, rfl, _, _, _, SRel.start w1 l.fr⟩
  case round =>
    clear hx0
    obtain ⟨k, hk, rfl, ov, v, rows, HS⟩ := hrel
    have HBr : Hid (Below w1.heap.size w1 wr) := HS.out.2.2.2.2.2
    have hszr : w1.heap.size < wr.heap.size := block_ltO HS.out.1
    by_cases hlt : k < NF
    · obtain ⟨s, hs⟩ : ∃ s, l.fr[k]? = some s := ⟨_, List.getElem?_eq_getElem (by have := HNF.out; omega)⟩
      obtain ⟨b, off, hao, hcell⟩ := (Reads.below HF.out (HBB.out.trans (HBr.out.mono HBB.out.size))).at hs
      subst hao
      obtain ⟨ao, co, hov, ho1, ho2⟩ := owns_formO HS.out.2.2.2.1
      subst hov
      have hrl : rows.length = k := by
        have h1 := HS.out.2.2.1
        have h2 := (pStart_len (l.fr.take k) ([], [])).1
        have h3 : (l.fr.take k).length = k := by rw [List.length_take]; have := HNF.out; omega
        rw [h3] at h2
        have h4 : rows.length = (pStart (l.fr.take k)).1.length := by rw [← h1]; simp
        rw [h4]
        simpa [pStart] using h2
      have HRL : Hid _ := hrl
      have hrl60 : rows.length ≤ 60 := by omega
      have HADD : Hid _ := fun (W2 : World) (hb : Below wr.heap.size wr W2) => HS.out.add hb s hrl60
      have HST : Hid _ := fun (W2 w4 w5 : World) (hb : Below wr.heap.size wr W2) (v4 ov5 : Value) (q1 : w4.heap[w1.heap.size]? = some (.cells #[v4, .slice ao k co] 60 (0, 0))) q2 q6 q7 ow gr bl => HS.out.step hs (Nat.le_refl _) hb (w4 := w4) (w5 := w5) (v4 := v4) (ov5 := ov5) (r := (srcN s, none, 0)) rfl q1 q2 q6 q7 ow gr bl
      have HO4 : Hid _ := fun (W2 w4 : World) (hb : Below wr.heap.size wr W2) q6 => HS.out.own4 (w4 := w4) hb q6
      have HCF : Hid (∀ (W : World) (v' vo : Value), W.heap[w1.heap.size]? = some (.cells #[v', vo] 60 (0, 0)) → W.cell? ⟨w1.heap.size, 1, none⟩ = some vo ∧ W.frozen? ⟨w1.heap.size, 1, none⟩ = false) := (show ∀ W v' vo, _ → _ from fun W v' vo q => ⟨by rw [cell_of_row _ _ _ _ _ _ q]; rfl, frozen_of_row _ _ _ _ _ q⟩)
      obtain ⟨y1, y2⟩ := HCF.out _ _ _ HS.out.1
      generalize (⟨s.toArray⟩ : ByteArray) = sx at *
      clear hs hrl
      go_upto_region 10 with fail
      go_region_law (first
        | (refine step_callO rfl 20 #[.pointer (some ⟨w1.heap.size, 0, none⟩), .agg #[.int .i64 1, .string sx, .int .i64 0, .string ⟨#[]⟩, .int .i64 0, .int .i64 0, .int .i64 0, .slice none 0 0]] (by go_simp) (HADD.out _ (by first | exact Below.refl _ _ | exact (Below.refl _ _).drew)) ?_; rintro e w4 ⟨v4, b4, rfl, q1, q2, q3, q4, q5, q6, q7⟩; refine ⟨_, rfl, ?_⟩; have hs4 : wr.heap.size ≤ w4.heap.size := q6.size; have HO5 : Hid _ := HO4.out _ _ (by first | exact Below.refl _ _ | exact (Below.refl _ _).drew) q6; have HST5 : Hid _ := fun (w5 : World) (ov5 : Value) ow gr bl => HST.out _ w4 w5 (by first | exact Below.refl _ _ | exact (Below.refl _ _).drew) v4 ov5 q1 q2 q6 q7 ow gr bl; have HQ5 : Hid _ := cells_rowO q5; obtain ⟨u1, u2⟩ := HCF.out _ _ _ q1)
        | (refine step_append_ownO rfl (.tmp 34) (.tmp 37) 58 rfl w1.heap.size 70 i1 _ 2 16 Tryd.underlying58 hi' hy0 hy1 hy2 rfl (by omega) (.slice ao k co) k _ (by simp [Act.eval]) HO5.out ⟨b4, 0, none⟩ 1 1 (pCells (newPorts rows.length 1)) (by simp [Act.eval]) (by rw [pCells_length, newPorts_len]) HQ5.out (pCells_one _) (by unfold maxLen; omega) (by omega) (by omega) ?_; intro v5 w5 ow5 gr5 nn5 bl5; obtain ⟨HL5, hD5⟩ := HST5.out _ _ ow5 gr5 bl5; obtain ⟨z1, z2⟩ := HCF.out _ _ _ hD5; obtain ⟨a5, c5, rfl, _, _⟩ := owns_formO ow5))
      all_goals
        have HL6 : Hid _ := HL5
        clear HL5 hD5 z1 z2 u1 u2 ow5 gr5 nn5 bl5 q1 q2 q3 q4 q5 q6 q7 HO5 HST5 HQ5 HADD HST HO4 y1 y2
        go_wp2_with fail
        go_roundw
        case rel => exact ⟨k + 1, by omega, by go_num, _, _, _, HL6.out⟩
        case measure => simp [intOf]; omega
    · have hkN : NF = k := by omega
      have HST : Hid (DSt wr w1.heap.size w1.heap.size v.ownBlock noX (pStart l.fr)) := HS.out.done (by rw [← HNF.out]; exact hkN.symm)
      have hl60 : (pStart l.fr).1.length ≤ 60 := by
        have h2 := (pStart_len l.fr ([], [])).1
        have := HNF.out
        unfold pStart
        simp only [List.length_nil] at h2
        omega
      have HBH : Hid _ := dbehind_is w1.heap.size w1.heap.size v.ownBlock noX (pStart l.fr) wr HST.out hl60 (by omega)
      have HBG : Hid _ := fun (w' : World) (h : DStep wr w' w1.heap.size w1.heap.size v.ownBlock noX (pBehind (pStart l.fr))) => h.go HST.out HBr.out (by omega)
      clear HS hl60 HST
      go_wp2_with fail
      refine Calls.mono HBH.out ?_
      rintro e w5 ⟨rfl, hst⟩
      obtain ⟨go5, S5, B5⟩ := HBG.out _ hst
      have HS5 : Hid (DSt w5 w1.heap.size w1.heap.size go5 noX (pDone wn l.fr (l.cs.take 0))) := S5
      have HB5 : Hid (Below w1.heap.size w1 w5) := B5
      obtain ⟨x0, x1, x2, x3, x4⟩ := (HLR.out.below HB5.out hs1).cells
      clear hst HBH HBG S5 B5 HBr hszr hkN hk x0 x2 x3 x4
      go_wp2_with fail
      go_loopw [45] (fun i wr => ∃ k : Nat, k ≤ ND ∧ i = .int .i64 k ∧ ∃ go, Hid (DSt wr w1.heap.size w1.heap.size go noX (pDone wn l.fr (l.cs.take k))) ∧ Hid (Below w1.heap.size w1 wr)) (fun i _ => ND - (intOf i).toNat)
      case atStart => exact ⟨0, Nat.zero_le _, rfl, _, HS5, HB5⟩
      case round =>
        clear HS5 HB5 x1
        obtain ⟨j, hj, rfl, go, HS, HBr⟩ := hrel
        obtain ⟨hgo, hDl, _⟩ := HS.out.own
        by_cases hlt2 : j < ND
        · obtain ⟨c, hc⟩ : ∃ c, l.cs[j]? = some c := ⟨_, List.getElem?_eq_getElem (by have := HND.out; omega)⟩
          obtain ⟨b, off, hao, c0, c1, c2⟩ := (RCmds.below HD.out (HBB.out.trans (HBr.out.mono HBB.out.size))).at hc
          subst hao
          have hcm := List.mem_of_getElem? hc
          have HCM : Hid _ := fun (W2 : World) (hb : Below wr.heap.size wr W2) => command_is c (HCS.out c hcm) (HFit.out.2.1 c hcm) wn hw w1.heap.size w1.heap.size go (pDone wn l.fr (l.cs.take j)) W2 (HS.out.below hb) (by have := (HDL.out j hj).2; omega) (HDL.out j hj).1 (by have := hb.size; omega)
          have HG : Hid _ := fun (W2 w' : World) (hb : Below wr.heap.size wr W2) (h : DStep W2 w' w1.heap.size w1.heap.size go noX (pCmd wn (pDone wn l.fr (l.cs.take j)) c)) => h.go (HS.out.below hb) (HBr.out.trans (hb.mono (by omega))) (by have := hb.size; omega)
          have hnx : pCmd wn (pDone wn l.fr (l.cs.take j)) c = pDone wn l.fr (l.cs.take (j + 1)) := by rw [List.take_add_one, hc, Option.toList_some, pDone_snoc]
          rw [hnx] at HCM HG
          unfold Cmd.v at HCM
          generalize (⟨c.word.toArray⟩ : ByteArray) = wx at *
          generalize c.kind = ck at *
          generalize c.n = cn at *
          clear hc hcm hnx HS HBr
          go_wp2_with fail
          refine Calls.mono (HCM.out _ box_of) ?_
          rintro e w6 ⟨rfl, hst⟩
          obtain ⟨go6, S6, B6⟩ := HG.out _ _ box_of hst
          have HS6 : Hid _ := S6
          have HB6 : Hid _ := B6
          clear hst HCM HG S6 B6 c0 c1 c2
          go_wp2_with fail
          go_roundw
          case rel => exact ⟨j + 1, by omega, by go_num, _, HS6, HB6⟩
          case measure => simp [intOf]; omega
        · have hjN : ND = j := by omega
          have hall : l.cs.take j = l.cs := by rw [← hjN, HND.out, List.take_length]
          rw [hall] at HS
          have hlen := HDL.out j hj
          rw [hall] at hlen
          have HBH : Hid _ := dbehind_is w1.heap.size w1.heap.size go noX (pDone wn l.fr l.cs) wr HS.out (by omega) (by omega)
          have HBG : Hid _ := fun (w' : World) (h : DStep wr w' w1.heap.size w1.heap.size go noX (pBehind (pDone wn l.fr l.cs))) => h.go HS.out HBr.out (by omega)
          clear HS HBr hlen hall
          go_wp2_with fail
          refine Calls.mono HBH.out ?_
          rintro e w7 ⟨rfl, hst⟩
          obtain ⟨go7, ⟨v7, rows7, ao7, co7, e7, hD7, hN7, hrows7, hP7, _, _⟩, B7⟩ := HBG.out _ hst
          have HB7 : Hid (Below w1.heap.size w1 w7) := B7
          have hs7 := B7.size
          have h49 := HLN.out.1
          have h1p := HLN.out.2
          have hpl : (plan l wn).length = rows7.length + 1 := by unfold plan pSink; rw [← hrows7]; simp
          have hplan : plan l wn = (rows7 ++ [(sinkN l.to (pBehind (pDone wn l.fr l.cs)).2, ao7, co7)]).map (·.1) := by unfold plan pSink; rw [← hrows7]; simp
          have hadd := add_is (sinkN l.to (pBehind (pDone wn l.fr l.cs)).2) ao7 co7 w1.heap.size w1.heap.size noX v7 (.slice ao7 (pBehind (pDone wn l.fr l.cs)).2.length co7) rows7 w7 0 rfl (by omega) hD7 hN7 hP7 (by omega) (Nat.le_refl _) (by omega)
          have hnv : nodeV (sinkN l.to (pBehind (pDone wn l.fr l.cs)).2) ao7 (sinkN l.to (pBehind (pDone wn l.fr l.cs)).2).ins.length co7 = .agg #[.int .i64 5, .string tx, .int .i64 0, .string ⟨#[]⟩, .int .i64 0, .int .i64 0, .int .i64 0, .slice ao7 1 co7] := by
            rw [show (sinkN l.to (pBehind (pDone wn l.fr l.cs)).2).ins.length = 1 from h1p, HTX.out]
            rfl
          rw [hnv] at hadd
          have HADD : Hid _ := hadd
          have HB8 : Hid _ := fun (w' : World) (h : Kept w1.heap.size v7.ownBlock noX w7 w') => (show Below w1.heap.size w1 w' from B7.trans (h.below (by omega) (Nat.le_refl _) (fun g hg => (hN7.base g hg).1) (fun g hg => hg.elim)))
          clear hadd hnv
          rw [h1p] at hD7
          have hc1 : w7.cell? ⟨w1.heap.size, 1, none⟩ = some (.slice ao7 1 co7) := by rw [cell_of_row _ _ _ _ _ _ hD7]; rfl
          obtain ⟨x0, x1, x2, x3, x4⟩ := (HLR.out.below B7 hs1).cells
          have HPL : Hid _ := hplan
          have HPN : Hid _ := hpl
          clear hst HBH HBG hplan hpl hN7 hP7 hrows7 hD7 B7 HLN h49
          go_wp2_with fail
          refine Calls.mono HADD.out ?_
          rintro e w8 ⟨v8, b8, rfl, q1, q2, q3, q4, q5, q6, q7⟩
          have hb8 := HB8.out _ q6
          obtain ⟨a8, c8, hv8, _, _⟩ := q2.form
          have hl8 : (rows7 ++ [(sinkN l.to (pBehind (pDone wn l.fr l.cs)).2, ao7, co7)]).length = (plan l wn).length := by rw [HPN.out]; simp
          rw [hl8] at hv8
          subst hv8
          have d0 : w8.cell? ⟨w1.heap.size, 0, none⟩ = some (.slice a8 (plan l wn).length c8) := by rw [cell_of_row _ _ _ _ _ _ q1]; rfl
          obtain ⟨y0, y1, y2, y3, y4⟩ := (HLR.out.below hb8 hs1).cells
          have hrn := (NO.setR q2 (a := ⟨w.heap.size + 1, 0, none⟩) hs1 y3 (.slice a8 (plan l wn).length c8)).nodes
          rw [← HPL.out] at hrn
          have HRN : Hid _ := hrn
          have HBF : Hid (Below w.heap.size w (w8.setCell ⟨w.heap.size + 1, 0, none⟩ (.slice a8 (plan l wn).length c8))) := (HBB.out.trans (hb8.mono HBB.out.size)).setCell (by simp) _
          clear q1 q2 q3 q4 q5 q6 q7 hb8 hrn HADD HB8 HPL HPN hl8 x0 x1 x2 x3 x4 hc1
          go_wp2_with fail
          (try simp only [Exit.inBlock, Exit.then])
          refine bodyPost_ret (v := .tuple #[.agg #[.slice a8 (plan l wn).length c8], .int .i64 0]) ?_ rfl ⟨a8, c8, rfl, HRN.out, HBF.out⟩
          rw [results_cell_tmp rfl]
          go_simp

theorem plan_is (l : SLine) (W : Int) (af ad : Option Addr) (cf cd : Nat) (w : World) (hf : Reads w (.slice af l.fr.length cf) l.fr.length (l.fr.map S)) (hd : RCmds w (.slice ad l.cs.length cd) l.cs) (hfit : FitsL l) :
    Calls Tryd.prog 8 #[.agg #[.slice af l.fr.length cf, .slice ad l.cs.length cd, .string ⟨l.to.toArray⟩], .int .i64 W] w fun e w' => PlanEnd w (planT l W) e w' := by
  by_cases h : lchk l ≠ 0 ∨ W < 1 ∨ 5 < W
  · exact plan_err l W af ad cf cd w hf hd hfit h
  · have h0 : lchk l = 0 := by by_cases e : lchk l = 0; exact e; exact absurd (Or.inl e) h
    have h1 : ¬ (W < 1 ∨ 5 < W) := fun e => h (Or.inr e)
    obtain ⟨n, rfl⟩ := Int.eq_ofNat_of_zero_le (show 0 ≤ W by omega)
    rw [planT_ok h0 h1]
    exact plan_ok l n (by omega) af ad cf cd w hf hd hfit h0
end Go.Proofs.YtkifihcficobnabDoor
