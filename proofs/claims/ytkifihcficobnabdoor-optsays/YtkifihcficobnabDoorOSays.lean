/- OptSays: the walk. -/
import Derived.Test.YtkifihcficobnabDoorPlanned
import Derived.Test.YtkifihcficobnabDoorRefPlan4
import Derived.Test.YtkifihcficobnabDoorGSame4
namespace Go.Proofs.YtkifihcficobnabDoor
open Go.RowKit Go.Gs
set_option linter.unusedVariables false

theorem lbox_keepY {w w' : World} {x y z : Value} (hb : Below (w.alloc (.cells #[x, y, z] 32)).heap.size (w.alloc (.cells #[x, y, z] 32)) w') : w'.cell? ⟨w.heap.size, 0, none⟩ = some x ∧ w'.cell? ⟨w.heap.size, 1, none⟩ = some y ∧ w'.cell? ⟨w.heap.size, 2, none⟩ = some z := by
  refine ⟨?_, ?_, ?_⟩
  all_goals
    rw [hb.cell (by simp), cell_of_row _ _ _ _ _ _ (heap_alloc_new w _)]
    rfl
theorem nodesEq_self : ∀ ns : List SNode, nodesEq ns ns = true
  | [] => rfl
  | n :: r => by
    show (nodeEq n n && nodesEq r r) = true
    rw [nodesEq_self r]
    simp [nodeEq]

set_option maxRecDepth 100000 in
set_option maxHeartbeats 8000000 in
theorem osays_err (l : SLine) (W : Int) (af ad : Option Addr) (cf cd : Nat) (w : World) (hf : Reads w (.slice af l.fr.length cf) l.fr.length (l.fr.map S)) (hd : RCmds w (.slice ad l.cs.length cd) l.cs) (hfit : FitsL l) (hwf : WfL l) (h : lchk l ≠ 0 ∨ W < 1 ∨ 5 < W) :
    Calls Tryd.prog 4 #[.agg #[.slice af l.fr.length cf, .slice ad l.cs.length cd, .string ⟨l.to.toArray⟩], .int .i64 W] w fun e w' => e = .returned (.bool true) ∧ Below w.heap.size w w' := by
  have HP : Hid _ := fun (V : World) (hb : Below w.heap.size w V) => plan_is l W af ad cf cd V (hf.below hb) (hd.below hb) hfit
  have HC : Hid _ := fun (V : World) (hb : Below w.heap.size w V) => checkLine_ref l af ad cf cd V (hf.below hb) (hd.below hb) hfit hwf
  have HB1 : Hid (lchk l ≠ 0 → planT l W = ([], lchk l)) := (show _ → _ from planT_bad)
  have HB2 : Hid (lchk l = 0 → (W < 1 ∨ 5 < W) → planT l W = ([], 3)) := (show _ → _ → _ from planT_range)
  generalize planT l W = pt at *
  generalize lchk l = ck at *
  generalize (⟨l.to.toArray⟩ : ByteArray) = tx at *
  generalize l.fr.length = NF at *
  generalize l.cs.length = ND at *
  clear hf hd hfit hwf
  have key : ∀ er, pt = ([], er) → er ≠ 0 → (ck ≠ 0 ∧ er = ck ∨ ck = 0 ∧ er = 3 ∧ (W < 1 ∨ 5 < W)) → Calls Tryd.prog 4 #[.agg #[.slice af NF cf, .slice ad ND cd, .string tx], .int .i64 W] w fun e w' => e = .returned (.bool true) ∧ Below w.heap.size w w' := by
    intro er hpt her hcase
    subst hpt
    clear HB1 HB2 h
    rcases hcase with ⟨h1, rfl⟩ | ⟨rfl, rfl, h3⟩
    · go_enter Tryd.func4, Tryd.ntmps4
      go_wp2_with fail
      refine Calls.mono (HP.out _ box_of) ?_
      rintro e w1 ⟨ao, cap, rfl, hn, hb1⟩
      obtain ⟨x0, x1, x2⟩ := lbox_keepY hb1
      have HBW1 : Hid (Below w.heap.size w w1) := box_of.trans (hb1.mono (by simp))
      simp only [List.length_nil]
      have k0 : ∀ q, (w1.alloc q).cell? ⟨w.heap.size, 0, none⟩ = some (.slice af NF cf) := fun q => (box_of.cell (World.block_lt_of_cell? w1 _ x0)).trans x0
      have k1 : ∀ q, (w1.alloc q).cell? ⟨w.heap.size, 1, none⟩ = some (.slice ad ND cd) := fun q => (box_of.cell (World.block_lt_of_cell? w1 _ x1)).trans x1
      have k2 : ∀ q, (w1.alloc q).cell? ⟨w.heap.size, 2, none⟩ = some (.string tx) := fun q => (box_of.cell (World.block_lt_of_cell? w1 _ x2)).trans x2
      clear hn hb1 HP x0 x1 x2
      go_wp2_with fail
      refine (HC.out _ (HBW1.out.trans (box_of.mono HBW1.out.size))).mono ?_
      rintro e w2 ⟨rfl, hb2⟩
      have t2 : Below w1.heap.size w1 w2 := box_of.trans (hb2.mono (by simp))
      have HB2' : Hid (Below w.heap.size w w2) := HBW1.out.trans (t2.mono HBW1.out.size)
      have g2 : w2.cell? ⟨w1.heap.size, 0, none⟩ = some (.slice ao 0 cap) := by rw [hb2.cell (by simp), cell_of_row _ _ _ _ _ _ (heap_alloc_new w1 _)]; rfl
      clear hb2 t2 HC k0 k1 k2
      go_wp2_with fail
      refine (planned_true _).mono ?_
      rintro e w3 ⟨rfl, hb3⟩
      have HB3 : Hid (Below w.heap.size w w3) := HB2'.out.trans (hb3.mono HB2'.out.size)
      have g3 := (hb3.cell (World.block_lt_of_cell? w2 _ g2)).trans g2
      clear hb3 g2
      go_wp2_with fail
      refine (planned_true _).mono ?_
      rintro e w4 ⟨rfl, hb4⟩
      have HB4 : Hid (Below w.heap.size w w4) := HB3.out.trans (hb4.mono HB3.out.size)
      have g4 := (hb4.cell (World.block_lt_of_cell? w3 _ g3)).trans g3
      clear hb4 g3
      go_wp2_with fail
      go_ret
      exact ⟨by simp, HB4.out⟩
    · by_cases hw1 : W < 1
      · go_enter Tryd.func4, Tryd.ntmps4
        go_wp2_with fail
        refine Calls.mono (HP.out _ box_of) ?_
        rintro e w1 ⟨ao, cap, rfl, hn, hb1⟩
        obtain ⟨x0, x1, x2⟩ := lbox_keepY hb1
        have HBW1 : Hid (Below w.heap.size w w1) := box_of.trans (hb1.mono (by simp))
        simp only [List.length_nil]
        have k0 : ∀ q, (w1.alloc q).cell? ⟨w.heap.size, 0, none⟩ = some (.slice af NF cf) := fun q => (box_of.cell (World.block_lt_of_cell? w1 _ x0)).trans x0
        have k1 : ∀ q, (w1.alloc q).cell? ⟨w.heap.size, 1, none⟩ = some (.slice ad ND cd) := fun q => (box_of.cell (World.block_lt_of_cell? w1 _ x1)).trans x1
        have k2 : ∀ q, (w1.alloc q).cell? ⟨w.heap.size, 2, none⟩ = some (.string tx) := fun q => (box_of.cell (World.block_lt_of_cell? w1 _ x2)).trans x2
        clear hn hb1 HP x0 x1 x2 h3
        go_wp2_with fail
        refine (HC.out _ (HBW1.out.trans (box_of.mono HBW1.out.size))).mono ?_
        rintro e w2 ⟨rfl, hb2⟩
        have t2 : Below w1.heap.size w1 w2 := box_of.trans (hb2.mono (by simp))
        have HB2' : Hid (Below w.heap.size w w2) := HBW1.out.trans (t2.mono HBW1.out.size)
        have g2 : w2.cell? ⟨w1.heap.size, 0, none⟩ = some (.slice ao 0 cap) := by rw [hb2.cell (by simp), cell_of_row _ _ _ _ _ _ (heap_alloc_new w1 _)]; rfl
        clear hb2 t2 HC k0 k1 k2
        go_wp2_with fail
        refine (planned_true _).mono ?_
        rintro e w3 ⟨rfl, hb3⟩
        have HB3 : Hid (Below w.heap.size w w3) := HB2'.out.trans (hb3.mono HB2'.out.size)
        have g3 := (hb3.cell (World.block_lt_of_cell? w2 _ g2)).trans g2
        clear hb3 g2
        go_wp2_with fail
        refine (planned_true _).mono ?_
        rintro e w4 ⟨rfl, hb4⟩
        have HB4 : Hid (Below w.heap.size w w4) := HB3.out.trans (hb4.mono HB3.out.size)
        have g4 := (hb4.cell (World.block_lt_of_cell? w3 _ g3)).trans g3
        clear hb4 g3
        go_wp2_with fail
        go_ret
        exact ⟨by simp, HB4.out⟩
      · have hw5 : 5 < W := by omega
        go_enter Tryd.func4, Tryd.ntmps4
        go_wp2_with fail
        refine Calls.mono (HP.out _ box_of) ?_
        rintro e w1 ⟨ao, cap, rfl, hn, hb1⟩
        obtain ⟨x0, x1, x2⟩ := lbox_keepY hb1
        have HBW1 : Hid (Below w.heap.size w w1) := box_of.trans (hb1.mono (by simp))
        simp only [List.length_nil]
        have k0 : ∀ q, (w1.alloc q).cell? ⟨w.heap.size, 0, none⟩ = some (.slice af NF cf) := fun q => (box_of.cell (World.block_lt_of_cell? w1 _ x0)).trans x0
        have k1 : ∀ q, (w1.alloc q).cell? ⟨w.heap.size, 1, none⟩ = some (.slice ad ND cd) := fun q => (box_of.cell (World.block_lt_of_cell? w1 _ x1)).trans x1
        have k2 : ∀ q, (w1.alloc q).cell? ⟨w.heap.size, 2, none⟩ = some (.string tx) := fun q => (box_of.cell (World.block_lt_of_cell? w1 _ x2)).trans x2
        clear hn hb1 HP x0 x1 x2 h3
        go_wp2_with fail
        refine (HC.out _ (HBW1.out.trans (box_of.mono HBW1.out.size))).mono ?_
        rintro e w2 ⟨rfl, hb2⟩
        have t2 : Below w1.heap.size w1 w2 := box_of.trans (hb2.mono (by simp))
        have HB2' : Hid (Below w.heap.size w w2) := HBW1.out.trans (t2.mono HBW1.out.size)
        have g2 : w2.cell? ⟨w1.heap.size, 0, none⟩ = some (.slice ao 0 cap) := by rw [hb2.cell (by simp), cell_of_row _ _ _ _ _ _ (heap_alloc_new w1 _)]; rfl
        clear hb2 t2 HC k0 k1 k2
        go_wp2_with fail
        refine (planned_true _).mono ?_
        rintro e w3 ⟨rfl, hb3⟩
        have HB3 : Hid (Below w.heap.size w w3) := HB2'.out.trans (hb3.mono HB2'.out.size)
        have g3 := (hb3.cell (World.block_lt_of_cell? w2 _ g2)).trans g2
        clear hb3 g2
        go_wp2_with fail
        refine (planned_true _).mono ?_
        rintro e w4 ⟨rfl, hb4⟩
        have HB4 : Hid (Below w.heap.size w w4) := HB3.out.trans (hb4.mono HB3.out.size)
        have g4 := (hb4.cell (World.block_lt_of_cell? w3 _ g3)).trans g3
        clear hb4 g3
        go_wp2_with fail
        go_ret
        exact ⟨by simp, HB4.out⟩
  by_cases h0 : ck = 0
  · have hw : W < 1 ∨ 5 < W := by rcases h with h | h; exact absurd h0 h; exact h
    exact key 3 (HB2.out h0 hw) (by decide) (Or.inr ⟨h0, rfl, hw⟩)
  · exact key ck (HB1.out h0) h0 (Or.inl ⟨h0, rfl⟩)

set_option maxRecDepth 100000 in
set_option maxHeartbeats 8000000 in
theorem osays_ok (l : SLine) (wn : Nat) (hw : 1 ≤ wn ∧ wn ≤ 5) (af ad : Option Addr) (cf cd : Nat) (w : World) (hf : Reads w (.slice af l.fr.length cf) l.fr.length (l.fr.map S)) (hd : RCmds w (.slice ad l.cs.length cd) l.cs) (hfit : FitsL l) (hwf : WfL l) (h : lchk l = 0) :
    Calls Tryd.prog 4 #[.agg #[.slice af l.fr.length cf, .slice ad l.cs.length cd, .string ⟨l.to.toArray⟩], .int .i64 (wn : Int)] w fun e w' => e = .returned (.bool true) ∧ Below w.heap.size w w' := by
  have HP : Hid _ := fun (V : World) (hb : Below w.heap.size w V) => plan_ok l wn hw af ad cf cd V (hf.below hb) (hd.below hb) hfit h
  have HC : Hid _ := fun (V : World) (hb : Below w.heap.size w V) => checkLine_ref l af ad cf cd V (hf.below hb) (hd.below hb) hfit hwf
  rw [h] at HC
  have HR : Hid _ := fun (V : World) (hb : Below w.heap.size w V) => planned_ref l wn hw af ad cf cd V (hf.below hb) (hd.below hb) hfit hwf h
  have HS : Hid _ := fun (V : World) (au av : Option Addr) (cu cv : Nat) (h1 : RNodes V (.slice au (plan l wn).length cu) (plan l wn)) (h2 : RNodes V (.slice av (plan l wn).length cv) (plan l wn)) => sameGraph_ref au av cu cv (plan l wn) (plan l wn) V h1 h2
  rw [nodesEq_self] at HS
  have hw1 : ¬ (wn : Int) < 1 := by omega
  have hw5 : ¬ (5 : Int) < (wn : Int) := by omega
  obtain ⟨ns, hns⟩ : ∃ ns, ns = plan l wn := ⟨_, rfl⟩
  rw [← hns] at HP HR HS
  generalize (⟨l.to.toArray⟩ : ByteArray) = tx at *
  generalize l.fr.length = NF at *
  generalize l.cs.length = ND at *
  clear hf hd hfit hwf h hns
  go_enter Tryd.func4, Tryd.ntmps4
  go_wp2_with fail
  refine Calls.mono (HP.out _ box_of) ?_
  rintro e w1 ⟨ao, cap, rfl, hn, hb1⟩
  obtain ⟨x0, x1, x2⟩ := lbox_keepY hb1
  have HBW1 : Hid (Below w.heap.size w w1) := box_of.trans (hb1.mono (by simp))
  simp only at hn ⊢
  have HN : Hid (RNodes w1 (.slice ao ns.length cap) ns) := hn
  have HX : Hid (w1.cell? ⟨w.heap.size, 0, none⟩ = some (.slice af NF cf) ∧ w1.cell? ⟨w.heap.size, 1, none⟩ = some (.slice ad ND cd) ∧ w1.cell? ⟨w.heap.size, 2, none⟩ = some (.string tx)) := ⟨x0, x1, x2⟩
  have k0 : ∀ q, (w1.alloc q).cell? ⟨w.heap.size, 0, none⟩ = some (.slice af NF cf) := fun q => (box_of.cell (World.block_lt_of_cell? w1 _ x0)).trans x0
  have k1 : ∀ q, (w1.alloc q).cell? ⟨w.heap.size, 1, none⟩ = some (.slice ad ND cd) := fun q => (box_of.cell (World.block_lt_of_cell? w1 _ x1)).trans x1
  have k2 : ∀ q, (w1.alloc q).cell? ⟨w.heap.size, 2, none⟩ = some (.string tx) := fun q => (box_of.cell (World.block_lt_of_cell? w1 _ x2)).trans x2
  generalize ns.length = NL at *
  clear hn hb1 HP x0 x1 x2
  go_wp2_with fail
  refine (HC.out _ (HBW1.out.trans (box_of.mono HBW1.out.size))).mono ?_
  rintro e w2 ⟨rfl, hb2⟩
  have t2 : Below w1.heap.size w1 w2 := box_of.trans (hb2.mono (by simp))
  have HT2 : Hid (Below w1.heap.size w1 w2) := t2
  have HG2 : Hid (w2.cell? ⟨w1.heap.size, 0, none⟩ = some (.slice ao NL cap)) := (show _ = _ by rw [hb2.cell (by simp), cell_of_row _ _ _ _ _ _ (heap_alloc_new w1 _)]; rfl)
  clear hb2 t2 HC k0 k1 k2
  go_wp2_with fail
  refine (planned_true _).mono ?_
  rintro e w3 ⟨rfl, hb3⟩
  have HT3 : Hid (Below w1.heap.size w1 w3) := HT2.out.trans (hb3.mono HT2.out.size)
  have g3 := (hb3.cell (World.block_lt_of_cell? w2 _ HG2.out)).trans HG2.out
  have HG3 : Hid _ := g3
  have HB3 : Hid (Below w.heap.size w w3) := HBW1.out.trans (HT3.out.mono HBW1.out.size)
  obtain ⟨x0, x1, x2⟩ := HX.out
  have y0 := (HT3.out.cell (World.block_lt_of_cell? w1 _ x0)).trans x0
  have y1 := (HT3.out.cell (World.block_lt_of_cell? w1 _ x1)).trans x1
  have y2 := (HT3.out.cell (World.block_lt_of_cell? w1 _ x2)).trans x2
  have HCC : Hid (∀ V, Below w3.heap.size w3 V → V.cell? ⟨w1.heap.size, 0, none⟩ = some (.slice ao NL cap)) := (show ∀ V, _ → _ from fun V hb => (hb.cell (World.block_lt_of_cell? w3 _ HG3.out)).trans HG3.out)
  clear hb3 HG2 HX x0 x1 x2
  go_upto_region 7 with fail
  go_region_with (first
    | (go_at_call 12; refine (HR.out _ (by first | exact HB3.out | exact HB3.out.drew)).mono ?_; rintro e w5 ⟨a5, c5, rfl, R5, B5⟩; have t5 : Below w3.heap.size w3 w5 := (by first | exact B5 | exact (Below.refl _ _).drew.trans B5); have g5 := HCC.out _ t5; have N5 : Hid _ := HS.out _ _ _ _ _ (RNodes.below HN.out (HT3.out.trans (t5.mono HT3.out.size))) R5; have HB5 : Hid (Below w.heap.size w w5) := HB3.out.trans (t5.mono HB3.out.size); clear B5 t5 R5)
    | (go_at_call 11; refine Calls.mono N5.out ?_; rintro e w6 ⟨rfl, B6⟩; have HB6 : Hid (Below w.heap.size w w6) := HB5.out.trans (B6.mono HB5.out.size); clear B6))
  all_goals
    go_wp2_with fail
    go_ret
    exact ⟨rfl, HB6.out⟩

theorem optSays_walk (W : World) (l : SLine) (af ad : Option Addr) (cf cd : Nat) (hfr : Reads W (.slice af l.fr.length cf) l.fr.length (l.fr.map S)) (hcs : RCmds W (.slice ad l.cs.length cd) l.cs) (hfx : FitsL l) (hwf : WfL l) (k : Int) :
    Calls Tryd.prog 4 #[.agg #[.slice af l.fr.length cf, .slice ad l.cs.length cd, .string ⟨l.to.toArray⟩], .int .i64 k] W fun e w' => e = .returned (.bool true) ∧ Below W.heap.size W w' := by
  by_cases h : lchk l ≠ 0 ∨ k < 1 ∨ 5 < k
  · exact osays_err l k af ad cf cd W hfr hcs hfx hwf h
  · have h0 : lchk l = 0 := by by_cases e : lchk l = 0; exact e; exact absurd (Or.inl e) h
    obtain ⟨n, rfl⟩ := Int.eq_ofNat_of_zero_le (show 0 ≤ k by omega)
    exact osays_ok l n (by omega) af ad cf cd W hfr hcs hfx hwf h0
end Go.Proofs.YtkifihcficobnabDoor
