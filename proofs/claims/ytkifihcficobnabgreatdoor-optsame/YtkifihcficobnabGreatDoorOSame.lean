/- OptSame: the walk. -/
import Derived.Test.YtkifihcficobnabGreatDoorDevGraph12
import Derived.Test.YtkifihcficobnabGreatDoorDevShell10
import Derived.Test.YtkifihcficobnabGreatDoorPlanned
import Derived.Test.YtkifihcficobnabGreatDoorFEq
import Derived.Test.YtkifihcficobnabGreatDoorPlanFits
namespace Go.Proofs.YtkifihcficobnabGreatDoor
open Go.RowKit Go.Gs
set_option linter.unusedVariables false

set_option maxRecDepth 100000 in
set_option maxHeartbeats 4000000 in
theorem osame_err (l : SLine) (W : Int) (af ad : Option Addr) (cf cd : Nat) (vf : Value) (w : World) (hf : Reads w (.slice af l.fr.length cf) l.fr.length (l.fr.map S)) (hd : RCmds w (.slice ad l.cs.length cd) l.cs) (hfit : FitsL l) (h : (planT l W).2 ≠ 0) :
    Calls Tryz.prog 8 #[.agg #[.slice af l.fr.length cf, .slice ad l.cs.length cd, .string ⟨l.to.toArray⟩], .int .i64 W, vf] w fun e w' => e = .returned (.bool true) ∧ Below w.heap.size w w' := by
  have HP : Hid _ := fun (V : World) (hb : Below w.heap.size w V) => plan_is l W af ad cf cd V (hf.below hb) (hd.below hb) hfit
  generalize planT l W = pt at *
  obtain ⟨ns, er⟩ := pt
  simp only at h
  generalize (⟨l.to.toArray⟩ : ByteArray) = tx at *
  generalize l.fr.length = NF at *
  generalize l.cs.length = ND at *
  clear hf hd hfit
  go_enter Tryz.func8, Tryz.ntmps8
  go_wp2_with fail
  refine Calls.mono (HP.out _ box_of) ?_
  rintro e w1 ⟨ao, cap, rfl, hn, hb1⟩
  have HB1 : Hid (Below w.heap.size w w1) := box_of.trans (hb1.mono (by simp))
  simp only
  generalize ns.length = NL at *
  clear hn hb1 HP
  go_wp2_with fail
  refine (planned_true _).mono ?_
  rintro e w3 ⟨rfl, hb3⟩
  have HB3 : Hid (Below w.heap.size w w3) := (HB1.out.trans (box_of.mono HB1.out.size)).trans (hb3.mono (by have := HB1.out.size; simp; omega))
  clear hb3
  go_wp2_with fail
  refine (planned_true _).mono ?_
  rintro e w4 ⟨rfl, hb4⟩
  have HB4 : Hid (Below w.heap.size w w4) := HB3.out.trans (hb4.mono HB3.out.size)
  clear hb4
  go_wp2_with fail
  go_ret
  exact ⟨rfl, HB4.out⟩

theorem lbox_keepS {w w' : World} {x y z : Value} (hb : Below (w.alloc (.cells #[x, y, z] 40)).heap.size (w.alloc (.cells #[x, y, z] 40)) w') : w'.cell? ⟨w.heap.size, 0, none⟩ = some x ∧ w'.cell? ⟨w.heap.size, 1, none⟩ = some y ∧ w'.cell? ⟨w.heap.size, 2, none⟩ = some z := by
  refine ⟨?_, ?_, ?_⟩
  all_goals
    rw [hb.cell (by simp), cell_of_row _ _ _ _ _ _ (heap_alloc_new w _)]
    rfl

set_option maxRecDepth 100000 in
set_option maxHeartbeats 8000000 in
theorem osame_ok (l : SLine) (wn : Nat) (hw : 1 ≤ wn ∧ wn ≤ 5) (af ad : Option Addr) (cf cd : Nat) (ao : Option Addr) (cap : Nat) (fs : List SFile) (w : World) (hf : Reads w (.slice af l.fr.length cf) l.fr.length (l.fr.map S)) (hd : RCmds w (.slice ad l.cs.length cd) l.cs) (hfit : FitsL l) (h : lchk l = 0) (hfs : RFiles w (.slice ao fs.length cap) fs) (hff : ∀ f ∈ fs, FitsF f) (hE : KnownE w) :
    Calls Tryz.prog 8 #[.agg #[.slice af l.fr.length cf, .slice ad l.cs.length cd, .string ⟨l.to.toArray⟩], .int .i64 (wn : Int), .slice ao fs.length cap] w fun e w' => e = .returned (.bool true) ∧ Below w.heap.size w w' := by
  have hg := plan_right hw h
  have HP : Hid _ := fun (V : World) (hb : Below w.heap.size w V) => plan_ok l wn hw af ad cf cd V (hf.below hb) (hd.below hb) hfit h
  have HC : Hid _ := fun (V : World) (an : Option Addr) (cn : Nat) (hr : RNodes V (.slice an (plan l wn).length cn) (plan l wn)) => gcheck_is (plan l wn) an cn V hr (fun n hn => right_fits hg hn)
  rw [hg] at HC
  have HL : Hid _ := fun (V : World) (hb : Below w.heap.size w V) => line_is l ao af ad cap cf cd fs V (hfs.below hb) hff (hf.below hb) (hd.below hb) hfit (hE.1.below hb)
  have hlt : lineT fs l = lineR fs l := by unfold lineT lineR; rw [if_pos h]
  rw [hlt] at HL
  have HV : Hid _ := fun (V : World) (an : Option Addr) (cn : Nat) (hb : Below w.heap.size w V) (hr : RNodes V (.slice an (plan l wn).length cn) (plan l wn)) => eval_is (plan l wn) an ao cn cap fs V hr (fun n hn => right_fits hg hn) (hfs.below hb) hff (hE.below hb)
  have HR : Hid _ := same_rel hw h fs
  generalize lineR fs l = r1 at *
  generalize evalS (plan l wn) fs = r2 at *
  obtain ⟨b1, e1⟩ := r1
  obtain ⟨b2, e2⟩ := r2
  simp only at HR
  obtain ⟨ns, hns⟩ : ∃ ns, ns = plan l wn := ⟨_, rfl⟩
  rw [← hns] at HP HC HV
  generalize (⟨l.to.toArray⟩ : ByteArray) = tx at *
  generalize l.fr.length = NF at *
  generalize l.cs.length = ND at *
  generalize fs.length = NFS at *
  clear hf hd hfit h hfs hff hE hg hlt hns
  go_enter Tryz.func8, Tryz.ntmps8
  go_wp2_with fail
  refine Calls.mono (HP.out _ box_of) ?_
  rintro e w1 ⟨an, cn, rfl, hn, hb1⟩
  obtain ⟨x0, x1, x2⟩ := lbox_keepS hb1
  have HB1 : Hid (Below w.heap.size w w1) := box_of.trans (hb1.mono (by simp))
  simp only at hn ⊢
  have HN : Hid (RNodes w1 (.slice an ns.length cn) ns) := hn
  have HX : Hid (w1.cell? ⟨w.heap.size, 0, none⟩ = some (.slice af NF cf) ∧ w1.cell? ⟨w.heap.size, 1, none⟩ = some (.slice ad ND cd) ∧ w1.cell? ⟨w.heap.size, 2, none⟩ = some (.string tx)) := ⟨x0, x1, x2⟩
  generalize ns.length = NL at *
  clear hn hb1 HP x0 x1 x2
  go_wp2_with fail
  refine (planned_true _).mono ?_
  rintro e w3 ⟨rfl, hb3⟩
  have t3 : Below w1.heap.size w1 w3 := box_of.trans (hb3.mono (by simp))
  have HT3 : Hid (Below w1.heap.size w1 w3) := t3
  have HG3 : Hid (w3.cell? ⟨w1.heap.size, 0, none⟩ = some (.slice an NL cn)) := (show _ = _ by rw [hb3.cell (by simp), cell_of_row _ _ _ _ _ _ (heap_alloc_new w1 _)]; rfl)
  have hg3 := HG3.out
  clear hb3 t3
  go_wp2_with fail
  refine (HC.out _ _ _ (RNodes.below HN.out HT3.out)).mono ?_
  rintro e w4 ⟨rfl, hb4⟩
  have HT4 : Hid (Below w1.heap.size w1 w4) := HT3.out.trans (hb4.mono HT3.out.size)
  have HB4 : Hid (Below w.heap.size w w4) := HB1.out.trans (HT4.out.mono HB1.out.size)
  have HG4 : Hid (w4.cell? ⟨w1.heap.size, 0, none⟩ = some (.slice an NL cn)) := (show _ = _ from (hb4.cell (World.block_lt_of_cell? w3 _ HG3.out)).trans HG3.out)
  obtain ⟨x0, x1, x2⟩ := HX.out
  have y0 := (HT4.out.cell (World.block_lt_of_cell? w1 _ x0)).trans x0
  have y1 := (HT4.out.cell (World.block_lt_of_cell? w1 _ x1)).trans x1
  have y2 := (HT4.out.cell (World.block_lt_of_cell? w1 _ x2)).trans x2
  clear hb4 hg3 HC HG3 x0 x1 x2 HX
  go_wp2_with fail
  refine (HL.out _ HB4.out).mono ?_
  rintro e w5 ⟨a5, c5, rfl, hr5, hb5⟩
  simp only at hr5 ⊢
  have HT5 : Hid (Below w1.heap.size w1 w5) := HT4.out.trans (hb5.mono HT4.out.size)
  have HB5 : Hid (Below w.heap.size w w5) := HB1.out.trans (HT5.out.mono HB1.out.size)
  have hg5 := (hb5.cell (World.block_lt_of_cell? w4 _ HG4.out)).trans HG4.out
  have HR5 : Hid (Reads w5 (.slice a5 b1.length c5) b1.length (b1.map U)) := hr5
  clear hb5 hr5 y0 y1 y2 HL HG4 HT4 HB4
  obtain ⟨M1, hM1⟩ : ∃ M, M = b1.length := ⟨_, rfl⟩
  rw [← hM1]
  have HM1 : Hid (M1 = b1.length) := hM1
  clear hM1
  go_wp2_with fail
  refine (HV.out _ _ _ HB5.out (RNodes.below HN.out HT5.out)).mono ?_
  rintro e w6 ⟨a6, c6, rfl, hr6, hb6⟩
  simp only at hr6 ⊢
  have HB6 : Hid (Below w.heap.size w w6) := HB5.out.trans (hb6.mono HB5.out.size)
  have HQ : Hid _ := eqbyte_is a5 a6 c5 c6 b1 b2 w6 (Reads.below HR5.out hb6) hr6
  obtain ⟨M2, hM2⟩ : ∃ M, M = b2.length := ⟨_, rfl⟩
  rw [← HM1.out, ← hM2] at HQ
  rw [← hM2]
  clear hM2 HM1 hr6 hb6 HR5 HV hg5 HT3 HT5 HB5 HN
  by_cases he : e1 = 0
  · obtain ⟨q1, q2⟩ := HR.out.2 he
    rw [q2] at HQ
    simp only [decide_true] at HQ
    subst he q1
    clear HR q2
    go_wp2_with fail
    refine Calls.mono HQ.out ?_
    rintro e w7 ⟨rfl, hb7⟩
    have HB7 : Hid (Below w.heap.size w w7) := HB6.out.trans (hb7.mono HB6.out.size)
    clear hb7 HQ
    go_wp2_with fail
    go_ret
    exact ⟨rfl, HB7.out⟩
  · rcases HR.out.1 he with q | q
    · subst q
      clear HR HQ
      go_wp2_with fail
      go_ret
      exact ⟨by simp, HB6.out⟩
    · subst q
      have he' : ((0 : Int) == e1) = false := by simp; omega
      clear HR HQ
      go_wp2_with fail
      go_ret
      exact ⟨by simp, HB6.out⟩

theorem optSame_walk (W : World) (hE : KnownE W) (hsh : W.ShapedOpen Tryz.prog) (x : SLine) (af ad : Option Addr) (cf cd : Nat) (hfr : Reads W (.slice af x.fr.length cf) x.fr.length (x.fr.map S)) (hcs : RCmds W (.slice ad x.cs.length cd) x.cs) (hfx : FitsL x) (had : ad = none → cd = 0) (k : Int) (hk : -9223372036854775808 ≤ k ∧ k ≤ 9223372036854775807) (ao : Option Addr) (cap : Nat) (fs : List SFile) (hf : RFiles W (.slice ao fs.length cap) fs) (hff : ∀ f ∈ fs, FitsF f) (hz : ao = none → cap = 0) :
    Calls Tryz.prog 8 #[.agg #[.slice af x.fr.length cf, .slice ad x.cs.length cd, .string ⟨x.to.toArray⟩], .int .i64 k, .slice ao fs.length cap] W fun e w' => e = .returned (.bool true) ∧ Below W.heap.size W w' := by
  by_cases h : lchk x ≠ 0
  · exact osame_err x k af ad cf cd _ W hfr hcs hfx (by rw [planT_bad h]; exact h)
  · have h0 : lchk x = 0 := by by_cases e : lchk x = 0; exact e; exact absurd e h
    by_cases hw : k < 1 ∨ 5 < k
    · exact osame_err x k af ad cf cd _ W hfr hcs hfx (by rw [planT_range h0 hw]; simp)
    · obtain ⟨n, rfl⟩ := Int.eq_ofNat_of_zero_le (show 0 ≤ k by omega)
      exact osame_ok x n (by omega) af ad cf cd ao cap fs W hfr hcs hfx h0 hf hff hE
end Go.Proofs.YtkifihcficobnabGreatDoor
