/- What the reference's add (of Planned) does. What the reference's together (of Planned) does; what it stands on. What stands between the rounds of the reference's Planned. -/
import Derived.Test.YtkifihcficobnabDoorOptA
namespace Go.Proofs.YtkifihcficobnabDoor
open Go.RowKit Go.Gs
set_option linter.unusedVariables false

theorem owns_monoO {w : World} {B B' : Nat} {e : TypeId} {size : Nat} {v : Value} {n : Nat} {xs : List Value} (h : w.ownsRow B e size v n xs) (hB : B' ≤ B) : w.ownsRow B' e size v n xs := by
  refine ⟨h.1, ?_⟩
  rcases h.2 with h1 | ⟨g, cap, cur, e1, hb, h2⟩
  · exact Or.inl h1
  · exact Or.inr ⟨g, cap, cur, e1, Nat.le_trans hB hb, h2⟩
theorem owns_geO {w : World} {B : Nat} {e : TypeId} {size : Nat} {v : Value} {n : Nat} {xs : List Value} (h : w.ownsRow B e size v n xs) : ∀ g, v.ownBlock = some g → B ≤ g := by
  intro g hg
  rcases h.2 with ⟨rfl, h0⟩ | ⟨g', cap, cur, rfl, hb, h1, _⟩
  · simp [Value.ownBlock] at hg
  · simp [Value.ownBlock] at hg
    omega
theorem two_belowR {w : World} {o1 o2 : Obj} : Below w.heap.size w ((w.alloc o1).alloc o2) := box_of.trans (box_of.mono (by simp))
theorem cells_newR (w : World) (o : Obj) (cs : List Value) (t : TypeId) : ∀ j u, cs[j]? = some u → ((w.alloc o).alloc (.cells cs.toArray t)).cell? ((⟨w.heap.size + 1, 0, none⟩ : Addr).add j) = some u := by
  have := cells_newO (w.alloc o) cs t
  simpa using this
/-- What the reference's add answers. -/
def RAddEnd (w : World) (B G : Nat) (X : Nat → Prop) (v : Value) (rows : List NRow) (r : NRow) (k : Nat) (e : Ending) (w' : World) : Prop :=
  ∃ v' pv, e = .returned pv ∧ w'.heap[G]? = some (.cells #[v'] 35 (0, 0)) ∧ NO w' B G X 63 v' (rows ++ [r]) ∧ w'.ownsRow w.heap.size 70 2 pv k (pCells (newPorts rows.length k)) ∧
    (∀ g, pv.ownBlock = some g → v'.ownBlock ≠ some g) ∧ Kept G v.ownBlock noX w w' ∧ Nxt w v.ownBlock v'.ownBlock
def RP (w wr : World) (m j : Nat) (pv : Value) : Prop := Below w.heap.size w wr ∧ wr.ownsRow w.heap.size 70 2 pv j (pCells (newPorts m j))
theorem rp_step {w wr w5 : World} {m j : Nat} {pv v5 : Value} {o : Obj} (h : RP w wr m j pv) (ow : w5.ownsRow w.heap.size 70 2 v5 (j + 1) (pCells (newPorts m j) ++ [.int .i64 (m : Int), .int .i64 (j : Int)])) (gr : (wr.alloc o).grownBy w5 pv.ownBlock) : RP w w5 m (j + 1) v5 := by
  refine ⟨?_, by rw [newPorts_succ]; exact ow⟩
  have b1 : Below w.heap.size w (wr.alloc o) := h.1.trans (box_of.mono h.1.size)
  exact b1.trans ⟨gr.os, gr.tape, gr.output, gr.size, fun q hq => gr.block q (by have := b1.size; omega) (fun e => by have := owns_geO h.2 q e.symm; omega)⟩

set_option maxRecDepth 100000 in
set_option maxHeartbeats 4000000 in
theorem radd_is (n : SNode) (ai : Option Addr) (ci G B : Nat) (X : Nat → Prop) (v : Value) (rows : List NRow) (w : World) (k : Nat) (h5 : k ≤ 5)
    (hG : w.heap[G]? = some (.cells #[v] 35 (0, 0))) (hN : NO w B G X 63 v rows) (hP : POff w G v.ownBlock X ai ci n.ins) (hl : rows.length ≤ 60) (hBw : B ≤ w.heap.size) :
    Calls Tryd.prog 28 #[nodeV n ai n.ins.length ci, .int .i64 (k : Int), .pointer (some ⟨G, 0, none⟩)] w fun e w' => RAddEnd w B G X v rows (n, ai, ci) k e w' := by
  have HNO : Hid (NO w B G X 63 v rows) := hN
  have HG : Hid (w.heap[G]? = some (.cells #[v] 35 (0, 0))) := hG
  obtain ⟨av, cv, rfl, hv1, hv2⟩ := hN.form
  have hcG : w.cell? ⟨G, 0, none⟩ = some (.slice av rows.length cv) := by rw [cell_of_row _ _ _ _ _ _ hG]; rfl
  have hGl : G < w.heap.size := World.block_lt_of_cell? w _ hcG
  unfold nodeV
  have HER : Hid (encN (n, ai, ci) = [.int .i64 n.kind, .string ⟨n.file.toArray⟩, .int .i64 n.c.kind, .string ⟨n.c.word.toArray⟩, .int .i64 n.c.n, .int .i64 n.how, .int .i64 n.wide, .slice ai n.ins.length ci]) := (show _ = _ from rfl)
  obtain ⟨r, hr⟩ : ∃ r : NRow, r = (n, ai, ci) := ⟨_, rfl⟩
  rw [← hr] at HER ⊢
  have HPO : Hid (POff w G (Value.slice av rows.length cv).ownBlock X r.2.1 r.2.2 r.1.ins) := by rw [hr]; exact hP
  clear hP hr hN hG
  generalize n.kind = nk at *
  generalize (⟨n.file.toArray⟩ : ByteArray) = fx at *
  generalize n.c.kind = ck at *
  generalize (⟨n.c.word.toArray⟩ : ByteArray) = wx at *
  generalize n.c.n = cn at *
  generalize n.how = hw at *
  generalize n.wide = wd at *
  generalize n.ins.length = ni at *
  obtain ⟨NR, hNR⟩ : ∃ N, N = rows.length := ⟨_, rfl⟩
  have HNR : Hid (NR = rows.length) := hNR
  rw [← hNR] at hl hv1 hcG HG HNO HPO ⊢
  clear hNR
  have hcq : ∀ q, (w.alloc q).cell? ⟨G, 0, none⟩ = some (.slice av NR cv) := fun q => (box_of.cell (World.block_lt_of_cell? w _ hcG)).trans hcG
  obtain ⟨i1, hi', hy0, hy1, hy2⟩ := info_parts infoPortO
  obtain ⟨i2, hj', hz0, hz1, hz2⟩ := info_parts infoNodeO
  have HOW : Hid _ := fun (W : World) (hb : Below w.heap.size w W) => (HNO.out.below hb).own
  rw [← HNR.out] at HOW
  have HDW : Hid _ := fun (W w' : World) (hb : Below w.heap.size w W) (hg : W.grownBy w' (Value.slice av NR cv).ownBlock) => (show w'.heap[G]? = some (.cells #[.slice av NR cv] 35 (0, 0)) by
        rw [hg.block G (by have := hb.size; omega) (fun e => HNO.out.off e.symm), hb.block G hGl]; exact HG.out)
  have HCF : Hid (∀ (W : World) (u : Value), W.heap[G]? = some (.cells #[u] 35 (0, 0)) → W.cell? ⟨G, 0, none⟩ = some u ∧ W.frozen? ⟨G, 0, none⟩ = false) := (show ∀ W u, _ → _ from fun W u q => ⟨by rw [cell_of_row _ _ _ _ _ _ q]; rfl, frozen_of_row _ _ _ _ _ q⟩)
  go_enter Tryd.func28, Tryd.ntmps28
  go_wp2_with (at_builtin; refine wpList_append_own_at _ rfl (.tmp 9) (.tmp 11) 33 rfl B 63 i2 _ 8 96 Tryd.underlying33 hj' hz0 hz1 hz2 rfl (by omega) (.slice av NR cv) NR (nodeCells rows) rfl (HOW.out _ two_belowR) ⟨w.heap.size + 1, 0, none⟩ 1 1 (encN r) rfl (by rw [HER.out]; rfl) (by rw [HER.out]; exact cells_newR _ _ _ _) (encN_one r) (by unfold maxLen; omega) (by omega) (by simp; omega) ?_)
  intro v4 w4 ow4 gr4 nn4 bl4
  obtain ⟨d0, f0⟩ := HCF.out _ _ (HDW.out _ _ two_belowR gr4)
  obtain ⟨a4, c4, hv4, h41, h42⟩ := owns_formO ow4
  subst hv4
  have hG4 := HDW.out _ _ two_belowR gr4
  have ow4' : w4.ownsRow B 63 8 (.slice a4 (NR + 1) c4) (rows.length + 1) (nodeCells rows ++ encN r) := by rw [← HNR.out]; exact ow4
  obtain ⟨q1, q2, q3⟩ := (HNO.out.below two_belowR).app (HPO.out.keep (Kept.of_below two_belowR) (Nxt.refl _ _) (NxtX.refl _ _)) (by simp; omega) ow4' gr4 (by simpa using bl4)
  have HN5 : Hid (NO (w4.setCell ⟨G, 0, none⟩ (.slice a4 (NR + 1) c4)) B G X 63 (.slice a4 (NR + 1) c4) (rows ++ [r])) := q1.set rfl
  have HG5 : Hid ((w4.setCell ⟨G, 0, none⟩ (.slice a4 (NR + 1) c4)).heap[G]? = some (.cells #[.slice a4 (NR + 1) c4] 35 (0, 0))) := (show _ = _ by rw [heap_setCell_same _ _ _ _ _ _ hG4]; simp)
  have HK5 : Hid (Kept G (Value.slice av NR cv).ownBlock noX w (w4.setCell ⟨G, 0, none⟩ (.slice a4 (NR + 1) c4))) := ((Kept.of_below two_belowR).trans q2 (Nxt.refl _ _) (NxtX.refl _ _)).set rfl
  have HX5 : Hid (Nxt w (Value.slice av NR cv).ownBlock (Value.slice a4 (NR + 1) c4).ownBlock) := by
    rcases q3 with e | ⟨g, e, hg⟩
    · exact .inl e
    · exact .inr ⟨g, e, by simp at hg; omega⟩
  clear ow4 ow4' gr4 nn4 bl4 q1 q2 q3 hG4 HDW HOW hcq HPO HNO HG
  go_upto_region 2 with fail
  clear d0 f0
  obtain ⟨w5, hw5⟩ : ∃ w5, w5 = w4.setCell ⟨G, 0, none⟩ (.slice a4 (NR + 1) c4) := ⟨_, rfl⟩
  rw [← hw5] at HN5 HG5 HK5 ⊢
  clear hw5 hcG
  obtain ⟨g0, _⟩ := HCF.out _ _ HG5.out
  have hs5 := HK5.out.size
  go_wp2_with fail
  go_loopw [15, 6] (fun i pv wr => ∃ j : Nat, j ≤ k ∧ i = .int .i64 j ∧ Hid (RP w5 wr NR j pv)) (fun i _ _ => k - (intOf i).toNat)
  case atStart => exact ⟨0, Nat.zero_le _, rfl, (show RP _ _ _ _ _ from ⟨Below.refl _ _, World.ownsRow_nil _ _ _ _⟩)⟩
  case round =>
    obtain ⟨j, hjk, rfl, HR⟩ := hrel
    obtain ⟨ap, cp, hpv, hp1, hp2⟩ := owns_formO HR.out.2
    subst hpv
    have gr := (HR.out.1.cell (World.block_lt_of_cell? w5 _ g0)).trans g0
    have hszr := HR.out.1.size
    by_cases hlt : j < k
    · have HRO : Hid _ := fun (o : Obj) => (owns_keepO HR.out.2 (w' := wr.alloc o) (fun g hg hl => Below.heap_alloc _ _ _ hl))
      have HST : Hid _ := fun (o : Obj) (w6 : World) (v6 : Value) ow gr => rp_step (o := o) (w5 := w6) (v5 := v6) HR.out ow gr
      have hsub : ((NR : Int) + 1 - 1) = (NR : Int) := by omega
      clear HR g0
      go_wp2_with (at_builtin; refine wpList_append_own_at _ rfl (.tmp 18) (.tmp 25) 58 rfl w5.heap.size 70 i1 _ 2 16 Tryd.underlying58 hi' hy0 hy1 hy2 rfl (by omega) (.slice ap j cp) j _ rfl (HRO.out _) ⟨wr.heap.size, 0, none⟩ 1 1 [.int .i64 (NR : Int), .int .i64 (j : Int)] rfl rfl (cells_newO _ _ _) (by intro u hu; simp at hu; rcases hu with rfl | rfl <;> rfl) (by unfold maxLen; omega) (by omega) (by simp; omega) ?_)
      intro v6 w6 ow6 gr6 nn6 bl6
      have HR6 : Hid _ := HST.out _ _ _ ow6 gr6
      clear HST HRO ow6 gr6 nn6 bl6
      go_wp2_with fail
      go_roundw
      case rel => exact ⟨j + 1, by omega, by go_num, HR6.out⟩
      case measure => simp [intOf]; omega
    · have hjk' : k = j := by omega
      subst hjk'
      clear g0 gr
      go_wp2_with fail
      go_ret
      refine ⟨.slice a4 (NR + 1) c4, .slice ap k cp, rfl, (HR.out.1.block _ (by have := block_ltO HG5.out; omega)).trans HG5.out, HN5.out.below HR.out.1, ?_, ?_, (HK5.out).trans (Kept.of_below HR.out.1) HX5.out (NxtX.refl _ _), HX5.out⟩
      · rw [← HNR.out]; exact owns_monoO HR.out.2 hs5
      · intro g hg e
        have h1 := owns_geO HR.out.2 g hg
        have h2 := (HN5.out.base g e).2
        omega
end Go.Proofs.YtkifihcficobnabDoor
namespace Go.Proofs.YtkifihcficobnabDoor
open Go.RowKit Go.Gs
set_option linter.unusedVariables false

/-- The closure add. -/
def addV (G : Nat) : Value := .func (.func 28) #[] #[.pointer (some ⟨G, 0, none⟩)]
/-- The three boxes: the graph, add, the open ports. -/
def RBox (w : World) (G : Nat) (v av : Value) : Prop := w.heap[G]? = some (.cells #[v] 35 (0, 0)) ∧ w.heap[G + 1]? = some (.cells #[addV G] 71 (0, 0)) ∧ w.heap[G + 2]? = some (.cells #[av] 58 (0, 0))
theorem RBox.below {w w' : World} {G : Nat} {v av : Value} (h : RBox w G v av) (hb : Below w.heap.size w w') : RBox w' G v av := ⟨(hb.block _ (block_ltO h.1)).trans h.1, (hb.block _ (block_ltO h.2.1)).trans h.2.1, (hb.block _ (block_ltO h.2.2)).trans h.2.2⟩
theorem RBox.cells {w : World} {G : Nat} {v av : Value} (h : RBox w G v av) : w.cell? ⟨G, 0, none⟩ = some v ∧ w.cell? ⟨G + 1, 0, none⟩ = some (addV G) ∧ w.cell? ⟨G + 2, 0, none⟩ = some av ∧ w.frozen? ⟨G + 2, 0, none⟩ = false :=
  ⟨by rw [cell_of_row _ _ _ _ _ _ h.1]; rfl, by rw [cell_of_row _ _ _ _ _ _ h.2.1]; rfl, by rw [cell_of_row _ _ _ _ _ _ h.2.2]; rfl, frozen_of_row _ _ _ _ _ h.2.2⟩
theorem RBox.set {w : World} {G : Nat} {v av : Value} (h : RBox w G v av) (u : Value) : RBox (w.setCell ⟨G + 2, 0, none⟩ u) G v u :=
  ⟨(Below.heap_setCell _ _ _ _ (by simp)).trans h.1, (Below.heap_setCell _ _ _ _ (by simp)).trans h.2.1, by rw [heap_setCell_same _ _ _ _ _ _ h.2.2]; simp⟩
/-- Behind add. -/
theorem RBox.add {w W w' : World} {B G : Nat} {v v' av : Value} (h : RBox w G v av) (hb : Below w.heap.size w W) (hG : w'.heap[G]? = some (.cells #[v'] 35 (0, 0))) (hk : Kept G v.ownBlock noX W w') (hB : G + 3 ≤ B) (hv : ∀ g, v.ownBlock = some g → B ≤ g) : RBox w' G v' av := by
  have h1 := block_ltO h.2.1
  have h2 := block_ltO h.2.2
  have hs := hb.size
  refine ⟨hG, ?_, ?_⟩
  · rw [hk.block _ (by omega) (fun e => by rcases e with e | e | e; omega; (have := hv _ e; omega); exact e), hb.block _ h1]; exact h.2.1
  · rw [hk.block _ (by omega) (fun e => by rcases e with e | e | e; omega; (have := hv _ e; omega); exact e), hb.block _ h2]; exact h.2.2
/-- The reference's draft. -/
def RSt (w : World) (B G : Nat) (go : Option Nat) (d : PD) : Prop := ∃ (v : Value) (rows : List NRow) (ao : Option Addr) (co : Nat), go = v.ownBlock ∧ RBox w G v (.slice ao d.2.length co) ∧ NO w B G (fun k => k = G + 2) 63 v rows ∧ rows.map (·.1) = d.1 ∧ POff w G v.ownBlock (fun k => k = G + 2) ao co d.2 ∧ G + 3 ≤ B
def RStep (w w' : World) (B G : Nat) (go : Option Nat) (d : PD) : Prop := ∃ go', RSt w' B G go' d ∧ Kept G go (fun k => k = G + 2) w w' ∧ Nxt w go go'
theorem RSt.below {w w' : World} {B G : Nat} {go : Option Nat} {d : PD} (h : RSt w B G go d) (hb : Below w.heap.size w w') : RSt w' B G go d := by
  obtain ⟨v, rows, ao, co, h1, h2, h3, h4, h5, h6⟩ := h
  exact ⟨v, rows, ao, co, h1, h2.below hb, h3.below hb, h4, h5.keep (Kept.of_below hb) (Nxt.refl _ _) (NxtX.refl _ _), h6⟩
theorem RStep.pre {w0 w w' : World} {B G : Nat} {go : Option Nat} {d : PD} (h : RStep w w' B G go d) (hb : Below w0.heap.size w0 w) : RStep w0 w' B G go d := by
  obtain ⟨go', h1, h2, h3⟩ := h
  refine ⟨go', h1, (Kept.of_below hb).trans h2 (Nxt.refl _ _) (NxtX.refl _ _), ?_⟩
  rcases h3 with e | ⟨g, e, hg⟩
  · exact .inl e
  · exact .inr ⟨g, e, Nat.le_trans hb.size hg⟩
theorem RStep.post {w w' w2 : World} {B G : Nat} {go : Option Nat} {d : PD} (h : RStep w w' B G go d) (hb : Below w'.heap.size w' w2) : RStep w w2 B G go d := by
  obtain ⟨go', h1, h2, h3⟩ := h
  exact ⟨go', h1.below hb, h2.trans (Kept.of_below hb) h3 (NxtX.refl _ _), h3⟩
theorem RSt.own {w : World} {B G : Nat} {go : Option Nat} {d : PD} (h : RSt w B G go d) : (∀ g, go = some g → B ≤ g ∧ g < w.heap.size) ∧ G + 2 < w.heap.size ∧ G + 3 ≤ B := by
  obtain ⟨v, rows, ao, co, rfl, h2, h3, h4, h5, h6⟩ := h
  exact ⟨h3.base, block_ltO h2.2.2, h6⟩
theorem RStep.go {w w' w1 : World} {B G b0 : Nat} {go : Option Nat} {d d2 : PD} (h : RStep w w' B G go d2) (hs : RSt w B G go d) (hb : Below b0 w1 w) (hB : b0 ≤ G) : ∃ go', RSt w' B G go' d2 ∧ Below b0 w1 w' := by
  obtain ⟨g', h1, h2, h3⟩ := h
  obtain ⟨a1, a2, a3⟩ := hs.own
  exact ⟨g', h1, hb.trans (h2.below (by omega) hB (fun g hg => by have := (a1 g hg).1; omega) (fun g hg => by have : g = G + 2 := hg; omega))⟩
/-- What is open then: the new node's ports. -/
theorem open_newR {w W w' : World} {B G k : Nat} {v v' av pv : Value} {rows : List NRow} {r : NRow} (hbx : RBox w G v av) (hb : Below w.heap.size w W) (hB : G + 3 ≤ B) (hBw : B ≤ w.heap.size) (hv : ∀ g, v.ownBlock = some g → B ≤ g) (hG : w'.heap[G]? = some (.cells #[v'] 35 (0, 0))) (hN : NO w' B G (fun k => k = G + 2) 63 v' (rows ++ [r]))
    (how : w'.ownsRow W.heap.size 70 2 pv k (pCells (newPorts rows.length k))) (hne : ∀ g, pv.ownBlock = some g → v'.ownBlock ≠ some g) (hk : Kept G v.ownBlock noX W w') (hn : Nxt W v.ownBlock v'.ownBlock) :
    RStep w (w'.setCell ⟨G + 2, 0, none⟩ pv) B G v.ownBlock (rows.map (·.1) ++ [r.1], newPorts rows.length k) := by
  have hs := hb.size
  have how' : w'.ownsRow W.heap.size 70 2 pv (newPorts rows.length k).length (pCells (newPorts rows.length k)) := by rw [newPorts_len]; exact how
  obtain ⟨ao, co, rfl, hrp⟩ := rports_ownO how'
  have hbx' := hbx.add (B := B) hb hG hk hB hv
  have hoff : ∀ a, ao = some a → ¬ FS G v'.ownBlock (fun k => k = G + 2) a.block := by
    intro a ha hf
    have ho : (Value.slice ao (newPorts rows.length k).length co).ownBlock = some a.block := by rw [ha]; rfl
    have hge := owns_geO how' _ ho
    rcases hf with e | e | e
    · omega
    · exact hne _ ho e
    · have : a.block = G + 2 := e; omega
  have hset : Kept G v'.ownBlock (fun k => k = G + 2) w' (w'.setCell ⟨G + 2, 0, none⟩ (.slice ao (newPorts rows.length k).length co)) := ⟨rfl, rfl, rfl, by simp, fun q _ hn => Below.heap_setCell _ _ _ _ (fun e => hn (.inr (.inr e)))⟩
  have hN2 : Nxt w v.ownBlock v'.ownBlock := by
    rcases hn with e | ⟨g, e, hg⟩
    · exact .inl e
    · exact .inr ⟨g, e, by omega⟩
  refine ⟨v'.ownBlock, ⟨v', rows ++ [r], ao, co, rfl, hbx'.set _, hN.keep hset (fun g hg => Below.heap_setCell _ _ _ _ (by have := (hN.base g hg).1; simp; omega)) (NxtX.refl _ _), by simp, ⟨rports_keep hrp (fun hn a ha hl => Below.heap_setCell _ _ _ _ (fun e => hoff a ha (.inr (.inr e)))), fun _ => hoff⟩, hB⟩, ?_, hN2⟩
  have k1 : Kept G v.ownBlock (fun k => k = G + 2) w w' := ((Kept.of_below hb).trans (hk.more (fun k e => e.elim)) (Nxt.refl _ _) (NxtX.refl _ _))
  exact k1.trans hset hN2 (NxtX.refl _ _)

set_option maxRecDepth 100000 in
set_option maxHeartbeats 4000000 in
theorem together_is (B G : Nat) (go : Option Nat) (d : PD) (w : World) (h : RSt w B G go d) (hl : d.1.length ≤ 60) (hBw : B ≤ w.heap.size) :
    Calls Tryd.prog 29 #[.pointer (some ⟨G + 2, 0, none⟩), .pointer (some ⟨G + 1, 0, none⟩)] w fun e w' => e = .returned (.tuple #[]) ∧ RStep w w' B G go (pBehind d) := by
  have HS : Hid (RSt w B G go d) := h
  obtain ⟨v, rows, ao, co, rfl, hbx, hN, hrows, hP, hB⟩ := h
  obtain ⟨ns, op⟩ := d
  simp only at hbx hrows hP hl ⊢
  have hm := rports_le hP.1
  have hrl : rows.length ≤ 60 := by rw [← hrows] at hl; simpa using hl
  obtain ⟨x0, x1, x2, x3⟩ := hbx.cells
  have HADD : Hid _ := radd_is (joinN 1 noC op) ao co G B _ v rows w 1 (by omega) hbx.1 hN hP hrl hBw
  have HFIN : Hid _ := fun (w' : World) (v' pv : Value) (q1 : w'.heap[G]? = some (.cells #[v'] 35 (0, 0))) (q2 : NO w' B G (fun k => k = G + 2) 63 v' (rows ++ [(joinN 1 noC op, ao, co)])) q3 q4 q5 q6 => open_newR (k := 1) (pv := pv) (v := v) hbx (Below.refl _ _) hB hBw (fun g hg => (hN.base g hg).1) q1 q2 q3 q4 q5 q6
  have HCF : Hid _ := fun (w' : World) (v' : Value) (q1 : w'.heap[G]? = some (.cells #[v'] 35 (0, 0))) (q5 : Kept G v.ownBlock noX w w') => (hbx.add (B := B) (Below.refl _ _) q1 q5 hB (fun g hg => (hN.base g hg).1)).cells
  have hfin : 1 < op.length → (rows.map (·.1) ++ [(joinN 1 noC op, ao, co).1], newPorts rows.length 1) = pBehind (ns, op) := fun h1 => by
    unfold pBehind
    rw [if_pos h1, hrows, newPorts_one]
    unfold pJoinAll
    simp only [← hrows, List.length_map]
  have hno : ¬ 1 < op.length → pBehind (ns, op) = (ns, op) := fun h1 => by unfold pBehind; rw [if_neg h1]
  unfold nodeV joinN at HADD
  simp only at HADD
  change Hid (Calls Tryd.prog 28 #[.agg #[.int .i64 4, .string ⟨#[]⟩, .int .i64 0, .string ⟨#[]⟩, .int .i64 0, .int .i64 1, .int .i64 0, .slice ao op.length co], .int .i64 1, .pointer (some ⟨G, 0, none⟩)] w (fun e w' => RAddEnd w B G (fun k => k = G + 2) v rows (joinN 1 noC op, ao, co) 1 e w')) at HADD
  unfold addV at x1
  by_cases h1 : 1 < op.length
  · rw [hfin h1] at HFIN
    generalize pBehind (ns, op) = d2 at *
    generalize op.length = NOP at *
    clear hbx hN hP hrows hrl hl hfin hno HS
    go_enter Tryd.func29, Tryd.ntmps29
    go_wp2_with fail
    refine Calls.mono HADD.out ?_
    rintro e w4 ⟨v4, pv, rfl, q1, q2, q3, q4, q5, q6⟩
    obtain ⟨y0, y1, y2, y3⟩ := HCF.out _ _ q1 q5
    have HF : Hid _ := HFIN.out _ _ _ q1 q2 q3 q4 q5 q6
    obtain ⟨ap, cp, hpv, _, _⟩ := owns_formO q3
    subst hpv
    clear q1 q2 q3 q4 q5 q6 HADD HFIN HCF
    go_wp2_with fail
    refine bodyPost_end (v := .tuple #[]) (by simp [results, go_sem]) rfl ?_
    exact ⟨rfl, HF.out⟩
  · rw [hno h1]
    generalize op.length = NOP at *
    clear hbx hN hP hrows hrl hl hfin hno HADD HFIN HCF
    go_enter Tryd.func29, Tryd.ntmps29
    go_wp2_with fail
    refine bodyPost_end (v := .tuple #[]) (by simp [results, go_sem]) rfl ?_
    exact ⟨rfl, _, HS.out, Kept.refl _ _ _ _, Nxt.refl _ _⟩
end Go.Proofs.YtkifihcficobnabDoor
namespace Go.Proofs.YtkifihcficobnabDoor
open Go.RowKit Go.Gs
set_option linter.unusedVariables false

/-- So many Works stand. -/
def LRelR (W wr : World) (B G : Nat) (go1 : Option Nat) (ns1 : List SNode) (op1 : List (Int × Int)) (ao1 : Option Addr) (co1 : Nat) (c : Cmd) (k : Nat) (dv v : Value) (rows : List NRow) : Prop :=
  RBox wr G v (.slice ao1 op1.length co1) ∧ NO wr B G (fun q => q = G + 2 ∨ dv.ownBlock = some q) 63 v rows ∧ rows.map (·.1) = (wk c ns1 op1 k).1 ∧
  wr.ownsRow B 70 2 dv k (pCells (wk c ns1 op1 k).2) ∧ (∀ g, dv.ownBlock = some g → v.ownBlock ≠ some g ∧ W.heap.size ≤ g) ∧ Kept G go1 noX W wr ∧ Nxt W go1 v.ownBlock
theorem LRelR.start {W : World} {B G : Nat} {go1 : Option Nat} {ns1 : List SNode} {op1 : List (Int × Int)} {ao1 : Option Addr} {co1 : Nat} (c : Cmd) {v : Value} {rows : List NRow} (e1 : go1 = v.ownBlock) (h1 : RBox W G v (.slice ao1 op1.length co1)) (h2 : NO W B G (fun k => k = G + 2) 63 v rows) (h3 : rows.map (·.1) = ns1) : LRelR W W B G go1 ns1 op1 ao1 co1 c 0 (.slice none 0 0) v rows := by
  refine ⟨h1, h2.less (fun k _ hk => by rcases hk with hk | hk; exact hk; simp [Value.ownBlock] at hk), by simp [wk, h3], ?_, fun g hg => by simp [Value.ownBlock] at hg, Kept.refl _ _ _ _, Or.inl e1.symm⟩
  exact World.ownsRow_nil _ _ _ _
theorem LRelR.ports {W wr : World} {B G : Nat} {go1 : Option Nat} {ns1 : List SNode} {op1 : List (Int × Int)} {ao1 : Option Addr} {co1 : Nat} {c : Cmd} {k : Nat} {dv v : Value} {rows : List NRow} (h : LRelR W wr B G go1 ns1 op1 ao1 co1 c k dv v rows) (hp : POff W G go1 (fun k => k = G + 2) ao1 co1 op1) : POff wr G v.ownBlock (fun k => k = G + 2) ao1 co1 op1 :=
  hp.keep (h.2.2.2.2.2.1.more (fun k e => e.elim)) h.2.2.2.2.2.2 (NxtX.refl _ _)
theorem LRelR.add {W wr W2 : World} {B G X2 : Nat} {go1 : Option Nat} {ns1 : List SNode} {op1 : List (Int × Int)} {ao1 : Option Addr} {co1 : Nat} {c : Cmd} {k : Nat} {dv v : Value} {rows : List NRow} (h : LRelR W wr B G go1 ns1 op1 ao1 co1 c k dv v rows) (p : Int × Int)
    (hb : Below wr.heap.size wr W2) (hc : W2.heap[X2]? = some (.cells #[.int .i64 p.1, .int .i64 p.2] 70 (0, 0))) (hx : wr.heap.size ≤ X2) (hl : rows.length ≤ 60) (hBw : B ≤ wr.heap.size) :
    Calls Tryd.prog 28 #[nodeV (workN c p) (some ⟨X2, 0, none⟩) 1 1, .int .i64 1, .pointer (some ⟨G, 0, none⟩)] W2 fun e w' => RAddEnd W2 B G (fun q => q = G + 2 ∨ dv.ownBlock = some q) v rows (workN c p, some ⟨X2, 0, none⟩, 1) 1 e w' := by
  obtain ⟨h1, h2, h3, h4, h5, h6, h7⟩ := h
  have hGl := block_ltO h1.1
  have hAl := block_ltO h1.2.2
  refine radd_is (workN c p) (some ⟨X2, 0, none⟩) 1 G B _ v rows W2 1 (by omega) ((hb.block _ hGl).trans h1.1) (h2.below hb) ⟨⟨_, 1, rfl, by simp [workN], by simp [maxLen], fun _ => ⟨X2, 0, rfl, fun j q hq => ?_⟩⟩, ?_⟩ hl (Nat.le_trans hBw hb.size)
  · cases j with
    | zero =>
      simp [workN] at hq
      subst hq
      rw [cell_of_row _ _ _ _ _ _ hc, cell_of_row _ _ _ _ _ _ hc]
      exact ⟨rfl, rfl⟩
    | succ j => simp [workN] at hq
  · intro _ a ha hf
    injection ha with ha
    subst ha
    rcases hf with e | e | e | e
    · simp only at e; omega
    · have := (h2.base _ e).2; simp only at this; omega
    · have : X2 = G + 2 := e; omega
    · have := owns_ltO h4 _ e; simp only at this; omega
theorem LRelR.own4 {W wr W2 w4 : World} {B G : Nat} {go1 : Option Nat} {ns1 : List SNode} {op1 : List (Int × Int)} {ao1 : Option Addr} {co1 : Nat} {c : Cmd} {k : Nat} {dv v : Value} {rows : List NRow} (h : LRelR W wr B G go1 ns1 op1 ao1 co1 c k dv v rows) (hb : Below wr.heap.size wr W2) (hk : Kept G v.ownBlock noX W2 w4) (hGW : G < W.heap.size) : w4.ownsRow B 70 2 dv k (pCells (wk c ns1 op1 k).2) := by
  obtain ⟨h1, h2, h3, h4, h5, h6, h7⟩ := h
  refine owns_keepO h4 (fun g hg hl => ?_)
  rw [hk.block g (Nat.lt_of_lt_of_le hl hb.size) (fun e => ?_), hb.block g hl]
  rcases e with e | e | e
  · have := (h5 g hg).2; omega
  · exact (h5 g hg).1 e
  · exact e
theorem LRelR.step {W wr W2 w4 w5 : World} {B G : Nat} {go1 : Option Nat} {ns1 : List SNode} {op1 : List (Int × Int)} {ao1 : Option Addr} {co1 : Nat} {c : Cmd} {k : Nat} {dv v : Value} {rows : List NRow} (h : LRelR W wr B G go1 ns1 op1 ao1 co1 c k dv v rows) {p : Int × Int} (hp : op1[k]? = some p) (hGW : G + 2 < W.heap.size) (hB : G + 3 ≤ B)
    (hb : Below wr.heap.size wr W2) {v4 dv5 : Value} {r : NRow} (hr : r.1 = workN c p) (q1 : w4.heap[G]? = some (.cells #[v4] 35 (0, 0))) (q2 : NO w4 B G (fun q => q = G + 2 ∨ dv.ownBlock = some q) 63 v4 (rows ++ [r])) (q6 : Kept G v.ownBlock noX W2 w4) (q7 : Nxt W2 v.ownBlock v4.ownBlock)
    (ow : w5.ownsRow B 70 2 dv5 (k + 1) (pCells (wk c ns1 op1 k).2 ++ pCells (newPorts rows.length 1))) (gr : w4.grownBy w5 dv.ownBlock) (bl : dv5.ownBlock = dv.ownBlock ∨ dv5.ownBlock = some w4.heap.size) :
    LRelR W w5 B G go1 ns1 op1 ao1 co1 c (k + 1) dv5 v4 (rows ++ [r]) := by
  obtain ⟨h1, h2, h3, h4, h5, h6, h7⟩ := h
  have hkl : k ≤ op1.length := by have := (List.getElem?_eq_some_iff.1 hp).1; omega
  have hrl : rows.length = (wk c ns1 op1 k).1.length := by rw [← h3]; simp
  have hs1 := hb.size
  have hs2 := q6.size
  have hs0 := h6.size
  have hne : ∀ g, dv.ownBlock = some g → v4.ownBlock ≠ some g := by
    intro g hg e
    rcases q7 with e7 | ⟨g', e7, hg'⟩
    · exact (h5 g hg).1 (by rw [← e7]; exact e)
    · rw [e7] at e; injection e with e; have := owns_ltO h4 g hg; omega
  have hv4 : ∀ g, v4.ownBlock = some g → g < w4.heap.size := fun g hg => (q2.base g hg).2
  have hND : Nxt w4 dv.ownBlock dv5.ownBlock := by
    rcases bl with e | e
    · exact .inl e
    · exact .inr ⟨_, e, Nat.le_refl _⟩
  have hkd : Kept G v4.ownBlock (fun q => q = G + 2 ∨ dv.ownBlock = some q) w4 w5 := Kept.of_grown gr (fun k e => .inr (.inr (.inr e)))
  have hbx4 := h1.add (B := B) hb q1 q6 hB (fun g hg => (h2.base g hg).1)
  have hold : ∀ q, q < W.heap.size → w5.heap[q]? = w4.heap[q]? := fun q hq => gr.block q (by omega) (fun e => by have := (h5 q e.symm).2; omega)
  refine ⟨⟨(hold _ (by omega)).trans hbx4.1, (hold _ (by omega)).trans hbx4.2.1, (hold _ (by omega)).trans hbx4.2.2⟩, q2.keep hkd (fun g hg => gr.block g (hv4 g hg) (fun e => hne g e.symm hg)) (fun q hq hx => ?_), ?_, ?_, ?_, ?_, ?_⟩
  · rcases hx with hx | hx
    · exact .inl hx
    · exact .inr (hND.old hq hx)
  · rw [List.map_append, h3, wk_succ hp, List.map_cons, List.map_nil, hr]
    rfl
  · have e2 : pCells (wk c ns1 op1 (k + 1)).2 = pCells (wk c ns1 op1 k).2 ++ pCells (newPorts rows.length 1) := by
      rw [wk_succ hp, newPorts_one, hrl]
      simp [pWork, pCells]
    rw [e2]
    exact ow
  · intro g hg
    rcases bl with e | e
    · rw [e] at hg
      exact ⟨hne g hg, (h5 g hg).2⟩
    · rw [e] at hg
      injection hg with hg
      refine ⟨fun e3 => ?_, by omega⟩
      have := hv4 g e3
      omega
  · have k1 : Kept G go1 noX W W2 := h6.trans (Kept.of_below hb) h7 (NxtX.refl _ _)
    have k2 : Kept G go1 noX W w4 := k1.trans q6 h7 (NxtX.refl _ _)
    exact ⟨gr.os.trans k2.os, gr.tape.trans k2.tape, gr.output.trans k2.output, Nat.le_trans k2.size gr.size, fun i hi hn => (hold i hi).trans (k2.block i hi hn)⟩
  · exact h7.trans q7 (by omega)
theorem LRelR.done {W wr : World} {B G : Nat} {go1 : Option Nat} {ns1 : List SNode} {op1 : List (Int × Int)} {ao1 : Option Addr} {co1 : Nat} {c : Cmd} {k : Nat} {dv v : Value} {rows : List NRow} (h : LRelR W wr B G go1 ns1 op1 ao1 co1 c k dv v rows) (hk : k = op1.length) (hGW : G + 2 < W.heap.size) (hB : G + 3 ≤ B) :
    RStep W (wr.setCell ⟨G + 2, 0, none⟩ dv) B G go1 (pWorks c (ns1, op1)) := by
  subst hk
  obtain ⟨h1, h2, h3, h4, h5, h6, h7⟩ := h
  have hw : wk c ns1 op1 op1.length = pWorks c (ns1, op1) := by unfold wk pWorks; rw [List.take_length]
  have hl2 := (wk_len (c := c) (ns := ns1) (op := op1) (Nat.le_refl _)).2
  rw [hw] at h3 h4 hl2
  have hs0 := h6.size
  have h4' : wr.ownsRow B 70 2 dv (pWorks c (ns1, op1)).2.length (pCells (pWorks c (ns1, op1)).2) := by rw [hl2]; exact h4
  obtain ⟨ao, cap, rfl, hrp⟩ := rports_ownO h4'
  have hoff : ∀ a, ao = some a → ¬ FS G v.ownBlock (fun k => k = G + 2) a.block := by
    intro a ha hf
    have ho : (Value.slice ao (pWorks c (ns1, op1)).2.length cap).ownBlock = some a.block := by rw [ha]; rfl
    have hg := h5 _ ho
    rcases hf with e | e | e
    · omega
    · exact hg.1 e
    · have : a.block = G + 2 := e; omega
  have hset : Kept G v.ownBlock (fun k => k = G + 2) wr (wr.setCell ⟨G + 2, 0, none⟩ (.slice ao (pWorks c (ns1, op1)).2.length cap)) := ⟨rfl, rfl, rfl, by simp, fun q _ hn => Below.heap_setCell _ _ _ _ (fun e => hn (.inr (.inr e)))⟩
  have hN2 : NO wr B G (fun k => k = G + 2) 63 v rows := h2.less (fun k _ hk => Or.inl hk)
  refine ⟨v.ownBlock, ⟨v, rows, ao, cap, rfl, h1.set _, hN2.keep hset (fun g hg => Below.heap_setCell _ _ _ _ (by have := (h2.base g hg).1; simp; omega)) (NxtX.refl _ _), h3, ⟨rports_keep hrp (fun hn a ha hl => Below.heap_setCell _ _ _ _ (fun e => hoff a ha (.inr (.inr e)))), fun _ => hoff⟩, hB⟩, ?_, h7⟩
  exact (h6.more (fun k e => e.elim)).trans hset h7 (NxtX.refl _ _)
/-- So many Sources stand. -/
def SRelR (b0 : Nat) (w1 wr : World) (B G : Nat) (fr : List (List UInt8)) (k : Nat) (ov v : Value) (rows : List NRow) : Prop :=
  RBox wr G v ov ∧ NO wr B G (fun q => q = G + 2 ∨ ov.ownBlock = some q) 63 v rows ∧ rows.map (·.1) = (pStart (fr.take k)).1 ∧
  wr.ownsRow B 70 2 ov k (pCells (pStart (fr.take k)).2) ∧ (∀ g, ov.ownBlock = some g → v.ownBlock ≠ some g) ∧ Below b0 w1 wr
theorem SRelR.add {b0 : Nat} {w1 wr W2 : World} {B G : Nat} {fr : List (List UInt8)} {k : Nat} {ov v : Value} {rows : List NRow} (h : SRelR b0 w1 wr B G fr k ov v rows) (hb : Below wr.heap.size wr W2) (f : List UInt8) (hl : rows.length ≤ 60) (hBw : B ≤ wr.heap.size) :
    Calls Tryd.prog 28 #[.agg #[.int .i64 1, .string ⟨f.toArray⟩, .int .i64 0, .string ⟨#[]⟩, .int .i64 0, .int .i64 0, .int .i64 0, .slice none 0 0], .int .i64 1, .pointer (some ⟨G, 0, none⟩)] W2 fun e w' => RAddEnd W2 B G (fun q => q = G + 2 ∨ ov.ownBlock = some q) v rows (srcN f, none, 0) 1 e w' := by
  obtain ⟨h1, h2, h3, h4, h5, h6⟩ := h
  exact radd_is (srcN f) none 0 G B _ v rows W2 1 (by omega) ((hb.block _ (block_ltO h1.1)).trans h1.1) (h2.below hb) (POff.nil _ _ _ _) hl (Nat.le_trans hBw hb.size)
theorem SRelR.own4 {b0 : Nat} {w1 wr W2 w4 : World} {B G : Nat} {fr : List (List UInt8)} {k : Nat} {ov v : Value} {rows : List NRow} (h : SRelR b0 w1 wr B G fr k ov v rows) (hB : G + 3 ≤ B) (hb : Below wr.heap.size wr W2) (hk : Kept G v.ownBlock noX W2 w4) : w4.ownsRow B 70 2 ov k (pCells (pStart (fr.take k)).2) := by
  obtain ⟨h1, h2, h3, h4, h5, h6⟩ := h
  refine owns_keepO h4 (fun g hg hl => ?_)
  rw [hk.block g (Nat.lt_of_lt_of_le hl hb.size) (fun e => ?_), hb.block g hl]
  rcases e with e | e | e
  · have := owns_geO h4 g hg; omega
  · exact h5 g hg e
  · exact e
theorem SRelR.step {b0 : Nat} {w1 wr W2 w4 w5 : World} {B G : Nat} {fr : List (List UInt8)} {k : Nat} {ov v : Value} {rows : List NRow} (h : SRelR b0 w1 wr B G fr k ov v rows) {f : List UInt8} (hf : fr[k]? = some f) (hB : G + 3 ≤ B) (hb0 : b0 ≤ G) (hb : Below wr.heap.size wr W2) {v4 ov5 : Value} {r : NRow} (hr : r.1 = srcN f)
    (q1 : w4.heap[G]? = some (.cells #[v4] 35 (0, 0))) (q2 : NO w4 B G (fun q => q = G + 2 ∨ ov.ownBlock = some q) 63 v4 (rows ++ [r])) (q6 : Kept G v.ownBlock noX W2 w4) (q7 : Nxt W2 v.ownBlock v4.ownBlock)
    (ow : w5.ownsRow B 70 2 ov5 (k + 1) (pCells (pStart (fr.take k)).2 ++ pCells (newPorts rows.length 1))) (gr : w4.grownBy w5 ov.ownBlock) (bl : ov5.ownBlock = ov.ownBlock ∨ ov5.ownBlock = some w4.heap.size) :
    SRelR b0 w1 (w5.setCell ⟨G + 2, 0, none⟩ ov5) B G fr (k + 1) ov5 v4 (rows ++ [r]) ∧ RBox w5 G v4 ov := by
  obtain ⟨h1, h2, h3, h4, h5, h6⟩ := h
  have hrl : rows.length = (pStart (fr.take k)).1.length := by rw [← h3]; simp
  have hs1 := hb.size
  have hs2 := q6.size
  have hA := block_ltO h1.2.2
  have htake : pStart (fr.take (k + 1)) = pSrc (pStart (fr.take k)) f := by rw [List.take_add_one, hf, Option.toList_some, pStart_snoc]
  have hne : ∀ g, ov.ownBlock = some g → v4.ownBlock ≠ some g := by
    intro g hg e
    rcases q7 with e7 | ⟨g', e7, hg'⟩
    · exact h5 g hg (by rw [← e7]; exact e)
    · rw [e7] at e; injection e with e; have := owns_ltO h4 g hg; omega
  have hv4 : ∀ g, v4.ownBlock = some g → g < w4.heap.size := fun g hg => (q2.base g hg).2
  have hND : Nxt w4 ov.ownBlock ov5.ownBlock := by
    rcases bl with e | e
    · exact .inl e
    · exact .inr ⟨_, e, Nat.le_refl _⟩
  have hkd : Kept G v4.ownBlock (fun q => q = G + 2 ∨ ov.ownBlock = some q) w4 w5 := Kept.of_grown gr (fun k e => .inr (.inr (.inr e)))
  have hbx4 := h1.add (B := B) hb q1 q6 hB (fun g hg => (h2.base g hg).1)
  have hold : ∀ q, q < B → q < w4.heap.size → w5.heap[q]? = w4.heap[q]? := fun q hq hq2 => gr.block q hq2 (fun e => by have := owns_geO h4 q e.symm; omega)
  have hbx5 : RBox w5 G v4 ov := ⟨(hold _ (by omega) (by omega)).trans hbx4.1, (hold _ (by omega) (by omega)).trans hbx4.2.1, (hold _ (by omega) (by omega)).trans hbx4.2.2⟩
  have hno5 : NO w5 B G (fun q => q = G + 2 ∨ ov5.ownBlock = some q) 63 v4 (rows ++ [r]) := q2.keep hkd (fun g hg => gr.block g (hv4 g hg) (fun e => hne g e.symm hg)) (fun q hq hx => by rcases hx with hx | hx; exact .inl hx; exact .inr (hND.old hq hx))
  have hge5 := owns_geO ow
  have hset : Kept G v4.ownBlock (fun q => q = G + 2 ∨ ov5.ownBlock = some q) w5 (w5.setCell ⟨G + 2, 0, none⟩ ov5) := ⟨rfl, rfl, rfl, by simp, fun q _ hn => Below.heap_setCell _ _ _ _ (fun e => hn (.inr (.inr (.inl e))))⟩
  refine ⟨⟨hbx5.set _, hno5.keep hset (fun g hg => Below.heap_setCell _ _ _ _ (by have := (q2.base g hg).1; simp; omega)) (NxtX.refl _ _), ?_, ?_, ?_, ?_⟩, hbx5⟩
  · rw [List.map_append, h3, htake, List.map_cons, List.map_nil, hr]
    rfl
  · have e2 : pCells (pStart (fr.take (k + 1))).2 = pCells (pStart (fr.take k)).2 ++ pCells (newPorts rows.length 1) := by
      rw [htake, newPorts_one, hrl]
      simp [pSrc, pCells]
    rw [e2]
    exact owns_keepO ow (fun g hg hl => Below.heap_setCell _ _ _ _ (by have := hge5 g hg; simp; omega))
  · intro g hg
    rcases bl with e | e
    · rw [e] at hg
      exact hne g hg
    · rw [e] at hg
      injection hg with hg
      intro e3
      have := hv4 g e3
      omega
  · have b1 : Below b0 w1 W2 := h6.trans (hb.mono (by omega))
    have b2 : Below b0 W2 w4 := q6.below (by omega) hb0 (fun g hg => by have := (h2.base g hg).1; omega) (fun g hg => hg.elim)
    have b3 : Below b0 w4 w5 := hkd.below (by omega) hb0 (fun g hg => by have := (q2.base g hg).1; omega) (fun g hg => by
      rcases hg with hg | hg
      · omega
      · have := owns_geO h4 g hg; omega)
    exact ((b1.trans b2).trans b3).setCell (by simp; omega) _
theorem SRelR.done {b0 : Nat} {w1 wr : World} {B G : Nat} {fr : List (List UInt8)} {k : Nat} {ov v : Value} {rows : List NRow} (h : SRelR b0 w1 wr B G fr k ov v rows) (hk : k = fr.length) (hB : G + 3 ≤ B) : RSt wr B G v.ownBlock (pStart fr) := by
  subst hk
  obtain ⟨h1, h2, h3, h4, h5, h6⟩ := h
  rw [List.take_length] at h3 h4
  have hl2 : (pStart fr).2.length = fr.length := by have := (pStart_len fr ([], [])).2; simpa [pStart] using this
  have h4' : wr.ownsRow B 70 2 ov (pStart fr).2.length (pCells (pStart fr).2) := by rw [hl2]; exact h4
  obtain ⟨ao, cap, rfl, hrp⟩ := rports_ownO h4'
  refine ⟨v, rows, ao, cap, rfl, h1, h2.less (fun k _ hk => Or.inl hk), h3, ⟨hrp, fun _ a ha hf => ?_⟩, hB⟩
  have ho : (Value.slice ao (pStart fr).2.length cap).ownBlock = some a.block := by rw [ha]; rfl
  have hg := owns_geO h4' _ ho
  rcases hf with e | e | e
  · omega
  · exact h5 _ ho e
  · have : a.block = G + 2 := e; omega
end Go.Proofs.YtkifihcficobnabDoor
