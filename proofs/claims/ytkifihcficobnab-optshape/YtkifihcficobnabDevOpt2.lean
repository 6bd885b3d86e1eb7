/- What the developers' join and behind of a draft do. -/
import Derived.Test.YtkifihcficobnabDevOpt1
namespace Go.Proofs.Ytkifihcficobnab
open Go.RowKit Go.Gs
set_option linter.unusedVariables false

/-- A draft lies in block D. -/
def DSt (w : World) (B D : Nat) (go : Option Nat) (X : Nat → Prop) (d : PD) : Prop := ∃ (v : Value) (rows : List NRow) (ao : Option Addr) (co : Nat), go = v.ownBlock ∧ w.heap[D]? = some (.cells #[v, .slice ao d.2.length co] 42 (0, 0)) ∧ NO w B D X 38 v rows ∧ rows.map (·.1) = d.1 ∧ POff w D v.ownBlock X ao co d.2 ∧ B ≤ D ∧ ∀ k, X k → k < w.heap.size
def DStep (w w' : World) (B D : Nat) (go : Option Nat) (X : Nat → Prop) (d : PD) : Prop := ∃ go', DSt w' B D go' X d ∧ Kept D go noX w w' ∧ Nxt w go go'
theorem block_ltO {w : World} {D : Nat} {o : Obj} (h : w.heap[D]? = some o) : D < w.heap.size := by
  rcases Nat.lt_or_ge D w.heap.size with h1 | h1
  · exact h1
  · rw [Array.getElem?_eq_none h1] at h; cases h
theorem DSt.below {w w' : World} {B D : Nat} {go : Option Nat} {X : Nat → Prop} {d : PD} (h : DSt w B D go X d) (hb : Below w.heap.size w w') : DSt w' B D go X d := by
  obtain ⟨v, rows, ao, co, h1, h2, h3, h4, h5, h6, h7⟩ := h
  exact ⟨v, rows, ao, co, h1, (hb.block _ (block_ltO h2)).trans h2, h3.below hb, h4, h5.keep (Kept.of_below hb) (Nxt.refl _ _) (NxtX.refl _ _), h6, fun k hk => Nat.lt_of_lt_of_le (h7 k hk) hb.size⟩
theorem DStep.pre {w0 w w' : World} {B D : Nat} {go : Option Nat} {X : Nat → Prop} {d : PD} (h : DStep w w' B D go X d) (hb : Below w0.heap.size w0 w) : DStep w0 w' B D go X d := by
  obtain ⟨go', h1, h2, h3⟩ := h
  refine ⟨go', h1, (Kept.of_below hb).trans h2 (Nxt.refl _ _) (NxtX.refl _ _), ?_⟩
  rcases h3 with e | ⟨g, e, hg⟩
  · exact .inl e
  · exact .inr ⟨g, e, Nat.le_trans hb.size hg⟩
theorem DStep.post {w w' w2 : World} {B D : Nat} {go : Option Nat} {X : Nat → Prop} {d : PD} (h : DStep w w' B D go X d) (hb : Below w'.heap.size w' w2) : DStep w w2 B D go X d := by
  obtain ⟨go', h1, h2, h3⟩ := h
  exact ⟨go', h1.below hb, h2.trans (Kept.of_below hb) h3 (NxtX.refl _ _), h3⟩
theorem DStep.trans {w w1 w2 : World} {B D : Nat} {go : Option Nat} {X : Nat → Prop} {d d2 : PD} (h : DStep w w1 B D go X d) (k : ∀ g1, DSt w1 B D g1 X d → DStep w1 w2 B D g1 X d2) : DStep w w2 B D go X d2 := by
  obtain ⟨g1, h1, h2, h3⟩ := h
  obtain ⟨g2, k1, k2, k3⟩ := k g1 h1
  exact ⟨g2, k1, h2.trans k2 h3 (NxtX.refl _ _), h3.trans k3 h2.size⟩
theorem rports_newO {w : World} {b n k : Nat} (h : w.heap[b]? = some (.cells (portCells (newPorts n k)).toArray 52 (0, 0))) (hk : k ≤ 5) : RPorts w (.slice (some ⟨b, 0, none⟩) (newPorts n k).length k) (newPorts n k) := by
  refine ⟨_, k, rfl, by rw [newPorts_len]; exact Nat.le_refl _, by unfold maxLen; omega, fun _ => ⟨b, 0, rfl, fun j p hp => ?_⟩⟩
  obtain ⟨a1, a2⟩ := portCells_at _ j p hp
  rw [Nat.zero_add, cell_of_row _ _ _ _ _ _ h, cell_of_row _ _ _ _ _ _ h]
  exact ⟨by simpa using a1, by simpa using a2⟩
/-- What is open then: the new node's ports. -/
theorem open_new {w w' : World} {B D b k : Nat} {X : Nat → Prop} (hX : ∀ k, X k → k < w.heap.size) {v v' vo : Value} {rows : List NRow} {r : NRow} (hB : B ≤ D) (hDl : D < w.heap.size) (hk5 : k ≤ 5) (hD : w'.heap[D]? = some (.cells #[v', vo] 42 (0, 0))) (hN : NO w' B D X 38 v' (rows ++ [r])) (hb : w.heap.size ≤ b) (hne : v'.ownBlock ≠ some b)
    (hp : w'.heap[b]? = some (.cells (portCells (newPorts rows.length k)).toArray 52 (0, 0))) (hk : Kept D v.ownBlock noX w w') (hn : Nxt w v.ownBlock v'.ownBlock) :
    DStep w (w'.setCell ⟨D, 1, none⟩ (.slice (some ⟨b, 0, none⟩) k k)) B D v.ownBlock X (rows.map (·.1) ++ [r.1], newPorts rows.length k) := by
  have hbD : b ≠ D := by omega
  refine ⟨v'.ownBlock, ⟨v', rows ++ [r], some ⟨b, 0, none⟩, k, rfl, ?_, hN.set rfl, by simp, ⟨?_, ?_⟩, hB, fun k h => Nat.lt_of_lt_of_le (hX k h) (by simpa using hk.size)⟩, hk.set rfl, hn⟩
  · rw [heap_setCell_same _ _ _ _ _ _ hD]; simp [newPorts_len]
  · have hp' : (w'.setCell ⟨D, 1, none⟩ (.slice (some ⟨b, 0, none⟩) k k)).heap[b]? = some (.cells (portCells (newPorts rows.length k)).toArray 52 (0, 0)) := (Below.heap_setCell _ _ _ _ hbD).trans hp
    exact rports_newO hp' hk5
  · intro _ a ha hf
    injection ha with ha
    subst ha
    rcases hf with e | e | e
    · exact hbD e
    · exact hne e
    · have := hX _ e; simp only at this; omega

set_option maxRecDepth 100000 in
set_option maxHeartbeats 4000000 in
theorem join_is (how : Int) (c : Cmd) (B D : Nat) (go : Option Nat) (X : Nat → Prop) (d : PD) (w : World) (h : DSt w B D go X d) (hl : d.1.length ≤ 60) (hBw : B ≤ w.heap.size) :
    Calls Try.prog 15 #[.pointer (some ⟨D, 0, none⟩), .int .i64 how, c.v] w fun e w' => e = .returned (.tuple #[]) ∧ DStep w w' B D go X (pJoinAll how c d) := by
  obtain ⟨v, rows, ao, co, rfl, hD, hN, hrows, hP, hB, hX⟩ := h
  obtain ⟨ns, op⟩ := d
  simp only at hD hrows hP hl ⊢
  have hDl := block_ltO hD
  have hrl : rows.length ≤ 60 := by rw [← hrows] at hl; simpa using hl
  have HADD : Hid _ := fun (W : World) (hb : Below w.heap.size w W) => add_is (joinN how c op) ao co D B X v (.slice ao op.length co) rows W 1 rfl (by omega) ((hb.block _ hDl).trans hD) (hN.below hb) (hP.keep (Kept.of_below hb) (Nxt.refl _ _) (NxtX.refl _ _)) hrl hB (Nat.le_trans hBw hb.size)
  have HFIN : Hid _ := fun (W w' : World) (v' : Value) (b : Nat) (hb : Below w.heap.size w W) (q1 : w'.heap[D]? = some (.cells #[v', .slice ao op.length co] 42 (0, 0))) (q2 : NO w' B D X 38 v' (rows ++ [(joinN how c op, ao, co)])) (q3 : W.heap.size ≤ b) (q4 : v'.ownBlock ≠ some b) q5 (q6 : Kept D v.ownBlock noX W w') (q7 : Nxt W v.ownBlock v'.ownBlock) =>
    (open_new (X := X) (fun k h => Nat.lt_of_lt_of_le (hX k h) hb.size) (k := 1) (vo := .slice ao op.length co) (v := v) hB (Nat.lt_of_lt_of_le hDl hb.size) (by omega) q1 q2 q3 q4 q5 q6 q7).pre hb
  have hfin : (rows.map (·.1) ++ [(joinN how c op, ao, co).1], newPorts rows.length 1) = pJoinAll how c (ns, op) := by
    rw [hrows, newPorts_one]
    unfold pJoinAll
    simp only [← hrows, List.length_map]
  rw [hfin] at HFIN
  have hD1 : ∀ W, Below w.heap.size w W → W.cell? ⟨D, 1, none⟩ = some (.slice ao op.length co) := fun W hb => by rw [cell_of_row _ _ _ _ _ _ ((hb.block _ hDl).trans hD)]; rfl
  have HCF : Hid _ := fun (W : World) (v' : Value) (q : W.heap[D]? = some (.cells #[v', .slice ao op.length co] 42 (0, 0))) => (show W.cell? ⟨D, 1, none⟩ = some (.slice ao op.length co) ∧ W.frozen? ⟨D, 1, none⟩ = false from ⟨by rw [cell_of_row _ _ _ _ _ _ q]; rfl, frozen_of_row _ _ _ _ _ q⟩)
  unfold nodeV joinN at HADD
  simp only at HADD
  unfold Cmd.v
  generalize op.length = NO' at *
  generalize (⟨c.word.toArray⟩ : ByteArray) = wx at *
  generalize c.kind = ck at *
  generalize c.n = cn at *
  have hq1 := hD1 _ (box_of (w := w) (o := .cells #[.int .i64 ck, .string wx, .int .i64 cn] 35))
  clear hD hN hP hfin hD1 hrows hrl hl
  go_enter Try.func15, Try.ntmps15
  go_upto_region 1 with fail
  go_region_with (first
    | (go_at_call 7; refine (HADD.out _ (by first | exact box_of | exact box_of.drew)).mono ?_; rintro e w4 ⟨v4, b4, rfl, q1, q2, q3, q4, q5, q6, q7⟩; obtain ⟨d1, f1⟩ := HCF.out _ _ q1))
  all_goals
    have HF : Hid _ := HFIN.out _ _ _ _ (by first | exact box_of | exact box_of.drew) q1 q2 q3 q4 q5 q6 q7
    clear q1 q2 q3 q4 q5 q6 q7
    refine bodyPost_end (v := .tuple #[]) (by simp [results, go_sem]) rfl ?_
    exact ⟨rfl, HF.out⟩

set_option maxRecDepth 100000 in
set_option maxHeartbeats 4000000 in
theorem behind_is (B D : Nat) (go : Option Nat) (X : Nat → Prop) (d : PD) (w : World) (h : DSt w B D go X d) (hl : d.1.length ≤ 60) (hBw : B ≤ w.heap.size) :
    Calls Try.prog 8 #[.pointer (some ⟨D, 0, none⟩)] w fun e w' => e = .returned (.tuple #[]) ∧ DStep w w' B D go X (pBehind d) := by
  have HJ : Hid _ := join_is 1 noC B D go X d w h hl hBw
  have HS : Hid (DSt w B D go X d) := h
  obtain ⟨v, rows, ao, co, rfl, hD, hN, hrows, hP, hB, hX⟩ := h
  have hD1 : w.cell? ⟨D, 1, none⟩ = some (.slice ao d.2.length co) := by rw [cell_of_row _ _ _ _ _ _ hD]; rfl
  have hm := rports_le hP.1
  obtain ⟨N, hN'⟩ : ∃ N, N = d.2.length := ⟨_, rfl⟩
  unfold Cmd.v noC at HJ
  simp only at HJ
  unfold pBehind
  rw [← hN'] at hD1 hm ⊢
  clear hD hN hP hrows hN' hl
  by_cases h1 : 1 < N
  · rw [if_pos h1]
    go_enter Try.func8, Try.ntmps8
    go_wp2_with fail
    refine Calls.mono HJ.out ?_
    rintro e w4 ⟨rfl, hst⟩
    have HF : Hid _ := hst
    clear hst HJ
    go_wp2_with fail
    refine bodyPost_end (v := .tuple #[]) (by simp [results, go_sem]) rfl ?_
    exact ⟨rfl, HF.out⟩
  · rw [if_neg h1]
    clear HJ
    go_enter Try.func8, Try.ntmps8
    go_wp2_with fail
    refine bodyPost_end (v := .tuple #[]) (by simp [results, go_sem]) rfl ?_
    exact ⟨rfl, _, HS.out, Kept.refl _ _ _ _, Nxt.refl _ _⟩
end Go.Proofs.Ytkifihcficobnab
