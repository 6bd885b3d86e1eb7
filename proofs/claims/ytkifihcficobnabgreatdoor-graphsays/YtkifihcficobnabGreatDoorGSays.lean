/- GraphSays: the walk. -/
import Derived.Test.YtkifihcficobnabGreatDoorDevGraph12
import Derived.Test.YtkifihcficobnabGreatDoorGSame4
import Derived.Test.YtkifihcficobnabGreatDoorGSameE
import Derived.Test.YtkifihcficobnabGreatDoorRefGraph1
import Derived.Test.YtkifihcficobnabGreatDoorSunkE
import Derived.Test.YtkifihcficobnabGreatDoorRShellE
import Derived.Test.YtkifihcficobnabGreatDoorFlowE
import Derived.Test.YtkifihcficobnabGreatDoorFEq
import Derived.Lib.QuietBelow
import Derived.BigQuiet
import Derived.Deep.QuietTactic
namespace Go.Proofs.YtkifihcficobnabGreatDoor
open Go.RowKit Go.Gs
set_option linter.unusedVariables false

/-- The three boxes of the law. -/
def GBox (w W : World) (vg vh : Value) (x0 x1 x2 x3 x4 x5 x6 x7 : Value) : Prop :=
  W.cell? ⟨w.heap.size, 0, none⟩ = some vg ∧ W.cell? ⟨w.heap.size + 1, 0, none⟩ = some vh ∧ W.cell? ⟨w.heap.size + 2, 0, none⟩ = some x0 ∧ W.cell? ⟨w.heap.size + 2, 1, none⟩ = some x1 ∧ W.cell? ⟨w.heap.size + 2, 2, none⟩ = some x2 ∧ W.cell? ⟨w.heap.size + 2, 3, none⟩ = some x3 ∧
  W.cell? ⟨w.heap.size + 2, 4, none⟩ = some x4 ∧ W.cell? ⟨w.heap.size + 2, 5, none⟩ = some x5 ∧ W.cell? ⟨w.heap.size + 2, 6, none⟩ = some x6 ∧ W.cell? ⟨w.heap.size + 2, 7, none⟩ = some x7 ∧ Below w.heap.size w W
theorem GBox.below {w W W' : World} {vg vh x0 x1 x2 x3 x4 x5 x6 x7 : Value} (h : GBox w W vg vh x0 x1 x2 x3 x4 x5 x6 x7) (hb : Below W.heap.size W W') : GBox w W' vg vh x0 x1 x2 x3 x4 x5 x6 x7 := by
  obtain ⟨a, b, c0, c1, c2, c3, c4, c5, c6, c7, d⟩ := h
  have k : ∀ {p : Addr} {v : Value}, W.cell? p = some v → W'.cell? p = some v := fun h => (hb.cell (World.block_lt_of_cell? W _ h)).trans h
  exact ⟨k a, k b, k c0, k c1, k c2, k c3, k c4, k c5, k c6, k c7, d.trans (hb.mono d.size)⟩
theorem GBox.bel {w W : World} {vg vh x0 x1 x2 x3 x4 x5 x6 x7 : Value} (h : GBox w W vg vh x0 x1 x2 x3 x4 x5 x6 x7) : Below w.heap.size w W := h.2.2.2.2.2.2.2.2.2.2
theorem GBox.start (w : World) (vg vh x0 x1 x2 x3 x4 x5 x6 x7 : Value) (t u v : TypeId) : GBox w (((w.alloc (.cells #[vg] t)).alloc (.cells #[vh] u)).alloc (.cells #[x0, x1, x2, x3, x4, x5, x6, x7] v)) vg vh x0 x1 x2 x3 x4 x5 x6 x7 := by
  have h1 : Below w.heap.size w (w.alloc (.cells #[vg] t)) := box_of
  have h2 : Below (w.alloc (.cells #[vg] t)).heap.size (w.alloc (.cells #[vg] t)) ((w.alloc (.cells #[vg] t)).alloc (.cells #[vh] u)) := box_of
  have h3 : Below ((w.alloc (.cells #[vg] t)).alloc (.cells #[vh] u)).heap.size ((w.alloc (.cells #[vg] t)).alloc (.cells #[vh] u)) (((w.alloc (.cells #[vg] t)).alloc (.cells #[vh] u)).alloc (.cells #[x0, x1, x2, x3, x4, x5, x6, x7] v)) := box_of
  have e2 : (w.alloc (.cells #[vg] t)).heap.size = w.heap.size + 1 := by simp
  have e3 : ((w.alloc (.cells #[vg] t)).alloc (.cells #[vh] u)).heap.size = w.heap.size + 2 := by simp
  have n1 := heap_alloc_new w (.cells #[vg] t)
  have n2 := heap_alloc_new (w.alloc (.cells #[vg] t)) (.cells #[vh] u)
  have n3 := heap_alloc_new ((w.alloc (.cells #[vg] t)).alloc (.cells #[vh] u)) (.cells #[x0, x1, x2, x3, x4, x5, x6, x7] v)
  rw [e2] at n2
  rw [e3] at n3
  refine ⟨?_, ?_, ?_, ?_, ?_, ?_, ?_, ?_, ?_, ?_, (h1.trans (h2.mono h1.size)).trans (h3.mono (by simp; omega))⟩
  · rw [h3.cell (by simp; omega), h2.cell (by simp), cell_of_row _ _ _ _ _ _ n1]; rfl
  · rw [h3.cell (by simp), cell_of_row _ _ _ _ _ _ n2]; rfl
  all_goals
    rw [cell_of_row _ _ _ _ _ _ n3]; rfl

set_option maxRecDepth 100000 in
set_option maxHeartbeats 16000000 in
theorem graphSays_walk (w : World) (hE : KnownE w) (hsh : w.ShapedOpen Tryz.prog) (an : Option Addr) (capn : Nat) (ns : List SNode) (hr : RNodes w (.slice an ns.length capn) ns) (hfit : ∀ n ∈ ns, FitsN n) (hkw : ∀ n ∈ ns, (Lit.int .i64 n.c.kind).wf = true)
    (am : Option Addr) (capm : Nat) (ms : List SNode) (hr2 : RNodes w (.slice am ms.length capm) ms) (hfit2 : ∀ n ∈ ms, FitsN n) (ao : Option Addr) (cap : Nat) (fs : List SFile) (hf : RFiles w (.slice ao fs.length cap) fs) (hff : ∀ f ∈ fs, FitsF f) (hz : ao = none → cap = 0) (n : SNode) (ai : Option Addr) (ci : Nat) :
    Calls Tryz.prog 6 #[.agg #[.slice an ns.length capn], .agg #[.slice am ms.length capm], .slice ao fs.length cap, nodeV n ai n.ins.length ci] w fun e w' => e = .returned (.bool true) ∧ Below w.heap.size w w' := by
  have HEV : Hid _ := fun (W : World) (h : Below w.heap.size w W) => eval_is ns an ao capn cap fs W (hr.below h) hfit (hf.below h) hff (hE.below h)
  have HCR : Hid _ := fun (W : World) (h : Below w.heap.size w W) => gcheck_ref ns an capn W (hr.below h) hfit hkw
  have HCI : Hid _ := fun (W : World) (h : Below w.heap.size w W) => gcheck_is ns an capn W (hr.below h) hfit
  have HFL : Hid _ := fun (W : World) (h : Below w.heap.size w W) => flowed_true W (hE.below h)
  have HSI : Hid _ := fun (W : World) (h : Below w.heap.size w W) => gsame_is an am capn capm ns ms W (hr.below h) (hr2.below h)
  have HSR : Hid _ := fun (W : World) (h : Below w.heap.size w W) => sameGraph_ref an am capn capm ns ms W (hr.below h) (hr2.below h)
  have HOI : Hid _ := fun (W : World) => outs_is n ai n.ins.length ci W
  have HOR : Hid _ := fun (W : World) => outsOf_ref n ai n.ins.length ci W
  have HCF : Hid _ := fun (W : World) (h : Below w.heap.size w W) => checkFiles_ref ao cap fs W (hf.below h) hff
  have HSU : Hid (gchk ns = 0 → fchk fs = 0 → ∀ (W : World) (h : Below w.heap.size w W), Calls Tryz.prog 40 #[.agg #[.slice an ns.length capn], .slice ao fs.length cap] W fun e w' => SunEnd W (sunk ns fs) e w') := (show _ → _ → _ from fun h1 h2 W h => sunken_ref ns fs an ao capn cap W (hr.below h) (hf.below h) h1 (fun f hf => (from_all (fchk_zero h2).2 f hf).2) (hE.below h) (sh_below hsh h))
  have HEB : Hid _ := fun (h : gchk ns ≠ 0) => evalS_bad (fs := fs) h
  have HEF : Hid _ := fun (h : gchk ns = 0) (h2 : fchk fs ≠ 0) => evalS_files (fs := fs) h h2
  have HEO : Hid _ := fun (h : gchk ns = 0) (h2 : fchk fs = 0) => evalS_ok (fs := fs) h h2
  unfold nodeV at HOI HOR ⊢
  generalize evalS ns fs = ev at *
  generalize gchk ns = gk at *
  generalize fchk fs = fk at *
  generalize sunk ns fs = SK at *
  generalize nouts n = no at *
  generalize nodesEq ns ms = sm at *
  generalize ns.length = N at *
  generalize ms.length = NM at *
  generalize fs.length = NF at *
  generalize n.ins.length = NI at *
  generalize (⟨n.file.toArray⟩ : ByteArray) = fx at *
  generalize (⟨n.c.word.toArray⟩ : ByteArray) = wx0 at *
  generalize n.c.kind = ck at *
  generalize n.c.n = cn at *
  generalize n.how = hw at *
  generalize n.wide = wd at *
  generalize n.kind = nk at *
  clear hr hfit hkw hr2 hf hff hE hsh hfit2 hz
  obtain ⟨D, er⟩ := ev
  go_enter Tryz.func6, Tryz.ntmps6
  have HB0 : Hid (GBox w _ _ _ _ _ _ _ _ _ _ _) := GBox.start w (.slice an N capn) (.slice am NM capm) (.int .i64 nk) (.string fx) (.int .i64 ck) (.string wx0) (.int .i64 cn) (.int .i64 hw) (.int .i64 wd) (.slice ai NI ci) 57 57 62
  go_wp2_with fail
  refine Calls.mono (HEV.out _ HB0.out.bel) ?_
  rintro e w1 ⟨ab, cb, rfl, hrb, hb1⟩
  simp only at hrb ⊢
  have HB1 : Hid (GBox w _ _ _ _ _ _ _ _ _ _ _) := HB0.out.below hb1
  have HRB1 : Hid (Reads w1 (.slice ab D.length cb) D.length (D.map U)) := hrb
  obtain ⟨DL, hDL⟩ : ∃ DL, DL = D.length := ⟨_, rfl⟩
  have HDL : Hid (DL = D.length) := hDL
  rw [← hDL]
  have g1 := HB1.out.1
  clear hrb hb1 HEV HB0 hDL
  go_wp2_with fail
  refine (HCR.out w1 HB1.out.bel).mono ?_
  rintro e w2 ⟨rfl, hb2⟩
  have HB2 : Hid (GBox w _ _ _ _ _ _ _ _ _ _ _) := HB1.out.below hb2
  have HRB2 : Hid (Reads w2 (.slice ab D.length cb) D.length (D.map U)) := HRB1.out.below hb2
  obtain ⟨zg, zh, z0, z1, z2, z3, z4, z5, z6, z7, _⟩ := HB2.out
  have kg := fun d os => cell_regrown zg d os
  have kh := fun d os => cell_regrown zh d os
  have k0 := fun d os => cell_regrown z0 d os
  have k1 := fun d os => cell_regrown z1 d os
  have k2 := fun d os => cell_regrown z2 d os
  have k3 := fun d os => cell_regrown z3 d os
  have k4 := fun d os => cell_regrown z4 d os
  have k5 := fun d os => cell_regrown z5 d os
  have k6 := fun d os => cell_regrown z6 d os
  have k7 := fun d os => cell_regrown z7 d os
  have hBd : ∀ d os, Below w.heap.size w (Go.Sort.grow (redrawn w2 d) os) := fun d os => HB2.out.bel.trans ((below_regrown w2 d os).mono HB2.out.bel.size)
  have cFL : ∀ d os, Calls Tryz.prog 34 #[] (Go.Sort.grow (redrawn w2 d) os) fun e w'' => e = .returned (.bool true) ∧ ∃ p : Regrown, w'' = Go.Sort.grow (redrawn w2 p.d) p.os := fun d os => Calls.regrown_of (HFL.out _ (hBd d os))
  have cCI : ∀ d os, Calls Tryz.prog 35 #[.agg #[.slice an N capn]] (Go.Sort.grow (redrawn w2 d) os) fun e w'' => e = .returned (.int .i64 gk) ∧ ∃ p : Regrown, w'' = Go.Sort.grow (redrawn w2 p.d) p.os := fun d os => Calls.regrown_of (HCI.out _ (hBd d os))
  have cSI : ∀ d os, Calls Tryz.prog 36 #[.agg #[.slice an N capn], .agg #[.slice am NM capm]] (Go.Sort.grow (redrawn w2 d) os) fun e w'' => e = .returned (.bool sm) ∧ ∃ p : Regrown, w'' = Go.Sort.grow (redrawn w2 p.d) p.os := fun d os => Calls.regrown_of (HSI.out _ (hBd d os))
  have cSR : ∀ d os, Calls Tryz.prog 37 #[.agg #[.slice an N capn], .agg #[.slice am NM capm]] (Go.Sort.grow (redrawn w2 d) os) fun e w'' => e = .returned (.bool sm) ∧ ∃ p : Regrown, w'' = Go.Sort.grow (redrawn w2 p.d) p.os := fun d os => Calls.regrown_of (HSR.out _ (hBd d os))
  have cOI : ∀ d os, Calls Tryz.prog 38 #[.agg #[.int .i64 nk, .string fx, .int .i64 ck, .string wx0, .int .i64 cn, .int .i64 hw, .int .i64 wd, .slice ai NI ci]] (Go.Sort.grow (redrawn w2 d) os) fun e w'' => e = .returned (.int .i64 no) ∧ ∃ p : Regrown, w'' = Go.Sort.grow (redrawn w2 p.d) p.os := fun d os => Calls.regrown_of (HOI.out _)
  have cOR : ∀ d os, Calls Tryz.prog 39 #[.agg #[.int .i64 nk, .string fx, .int .i64 ck, .string wx0, .int .i64 cn, .int .i64 hw, .int .i64 wd, .slice ai NI ci]] (Go.Sort.grow (redrawn w2 d) os) fun e w'' => e = .returned (.int .i64 no) ∧ ∃ p : Regrown, w'' = Go.Sort.grow (redrawn w2 p.d) p.os := fun d os => Calls.regrown_of (HOR.out _)
  clear hb2 HB1 HRB1 HCR HCI HSI HSR HOI HOR HFL hBd g1 zg zh z0 z1 z2 z3 z4 z5 z6 z7
  go_upto_region 3 with fail
  refine wp_region_quiet_below (by kernel_rfl) (by kernel_rfl) ?_
  repeat (first | go_big_quiet_step (first | exact cFL _ _ | exact cCI _ _ | exact cSI _ _ | exact cSR _ _ | exact cOI _ _ | exact cOR _ _) | quiet_step (first | exact cFL _ _ | exact cCI _ _ | exact cSI _ _ | exact cSR _ _ | exact cOI _ _ | exact cOR _ _))
  refine wpQuiet_nil ?_
  intro _ hw'
  obtain ⟨⟨dq, osq⟩, hw''⟩ := hw'
  subst hw''
  have HB3 : Hid (GBox w _ _ _ _ _ _ _ _ _ _ _) := HB2.out.below (below_regrown w2 dq osq)
  have HRB3 : Hid (Reads _ (.slice ab D.length cb) D.length (D.map U)) := HRB2.out.below (below_regrown w2 dq osq)
  clear cFL cCI cSI cSR cOI cOR kg kh k0 k1 k2 k3 k4 k5 k6 k7 HB2 HRB2
  generalize (Go.Sort.grow (redrawn w2 dq) osq) = w3 at *
  by_cases hg0 : gk = 0
  · subst hg0
    go_wp2_with fail
    refine (HCF.out w3 HB3.out.bel).mono ?_
    rintro e w4 ⟨rfl, hb4⟩
    have HB4 : Hid (GBox w _ _ _ _ _ _ _ _ _ _ _) := HB3.out.below hb4
    have HRB4 : Hid (Reads _ (.slice ab D.length cb) D.length (D.map U)) := HRB3.out.below hb4
    clear hb4 HB3 HRB3 HCF
    by_cases hf0 : fk = 0
    · subst hf0
      obtain ⟨rfl, rfl⟩ := Prod.mk.inj (HEO.out (by first | trivial | rfl) (by first | trivial | rfl))
      have hg4 := HB4.out.1
      have HS : Hid _ := HSU.out (by first | trivial | rfl) (by first | trivial | rfl) w4 HB4.out.bel
      clear HSU HEO HEF HEB
      go_wp2_with fail
      refine Calls.mono HS.out ?_
      rintro e w5 ⟨a5, c5, rfl, hr5, hb5, _⟩
      have HB5 : Hid (Below w.heap.size w w5) := HB4.out.bel.trans (hb5.mono HB4.out.bel.size)
      have HEQ : Hid _ := eqbyte_is ab a5 cb c5 D D w5 (HRB4.out.below hb5) hr5
      rw [decide_eq_true (rfl : D = D), ← HDL.out] at HEQ
      rw [← HDL.out]
      clear hr5 hb5 hg4 HS HB4 HRB4
      go_wp2_with fail
      refine Calls.mono HEQ.out ?_
      rintro e w6 ⟨rfl, hb6⟩
      have HB6 : Hid (Below w.heap.size w w6) := HB5.out.trans (hb6.mono HB5.out.size)
      clear hb6 HEQ
      go_wp2_with fail
      go_ret
      exact ⟨rfl, HB6.out⟩
    · obtain ⟨rfl, rfl⟩ := Prod.mk.inj (HEF.out (by first | trivial | rfl) hf0)
      have hD0 : DL = 0 := HDL.out
      subst hD0
      clear HSU HEO HEF HEB
      go_wp2_with fail
      go_ret
      exact ⟨rfl, HB4.out.bel⟩
  · obtain ⟨rfl, rfl⟩ := Prod.mk.inj (HEB.out hg0)
    have hD0 : DL = 0 := HDL.out
    subst hD0
    clear HSU HEO HEF HEB
    go_wp2_with fail
    go_ret
    exact ⟨rfl, HB3.out.bel⟩
end Go.Proofs.YtkifihcficobnabGreatDoor
