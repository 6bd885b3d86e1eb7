/- For every line and number the call of gangsawlaw.OptShape returns true and leaves its arguments as they were. No condition. -/
import Derived.Test.YtkifihcficobnabRows
import Derived.Test.YtkifihcficobnabOShape
import Derived.Test.YtkifihcficobnabOpen4l
import Derived.Lib.SmallJoins
import Derived.ShutString
import Derived.ChangeOld
import Derived.Below
namespace Go.Proofs.Ytkifihcficobnab.optShape
open Go.ChangeShapes Go.WideShapes Go.ChangeAt Go.RowKit Go.Gs Go.Joins
set_option linter.unusedVariables false

theorem own : ownKnob Try.prog.godebug = none := by kernel_rfl
theorem laidOut : laidOutB Try.prog = true := by kernel_rfl

set_option maxRecDepth 100000 in
theorem lifted (os : Os) (started : os.Started) (H : Type) (enc : TypeId × Value → H) :
    ReturnsInHanded {} Try.checked os 3 .any (Rows.optShapeSpec.pre6 enc Try.prog Try.f3 Rows.optShapeRow.domain false) (Rows.optShapeSpec.post enc Try.prog Try.f3 false true false false) := by
  refine returnsInHanded_of_change (C := Try.checked) own started (by kernel_rfl) Try.func3
    (ChangeSpec.witness6 (enc := enc) (C := Try.checked) false ⟨#[], #[.agg #[.slice none 0 0, .slice none 0 0, .string ⟨#[]⟩], .int .i64 0], []⟩ 8 (by kernel_rfl) (by kernel_rfl) (by kernel_rfl) (by kernel_rfl)) ?_
  intro W base args ds gs before hval0 hW hcnd _
  have hval : ∀ (j : Nat) t v, Try.f3.params[j]? = some t → args[j]? = some v → Value.okWide Try.prog W .any base t v := hval0
  have hW' := hW
  obtain ⟨p, q, hA0, hV, rfl, hfz, hnd⟩ := hW
  have hA : DataW.TrodAll enc Try.prog W 0 (fun _ => true) true Try.f3.params.toList args.toList ds p := hA0
  rw [Try.params3] at hA hval
  obtain ⟨v0, v1, d0, d1, p0, p1, rfl, rfl, rfl, h0, h1⟩ := trodAll_two hA
  obtain ⟨rfl, rfl⟩ := trodVars_none hV
  have k0 := h0
  have lt0 : ∀ x ∈ p0, x.block < W.heap.size := by obtain ⟨m, hm⟩ := k0; exact DataW.trod_lt m _ _ _ hm
  obtain ⟨xl, lf, cf, ld, cd, rfl, hxf, hxd, hxl, hxz⟩ : ∃ (x : SLine) (af : Option Addr) (cf : Nat) (ad : Option Addr) (cd : Nat), v0 = .agg #[.slice af x.fr.length cf, .slice ad x.cs.length cd, .string ⟨x.to.toArray⟩] ∧ Reads W (.slice af x.fr.length cf) x.fr.length (x.fr.map S) ∧ RCmds W (.slice ad x.cs.length cd) x.cs ∧ FitsL x ∧ (ad = none → cd = 0) := by
    obtain ⟨c0, c1, c2, y0, y1, y2, m, e0, _, _, hy0, hy1, hy2⟩ := open_agg3 Try.underlying25 (by kernel_rfl) (by kernel_rfl) (hval 0 25 v0 rfl rfl) h0
    obtain ⟨x, q1, q2, q3, q4, q5⟩ := line_of_open hy0 hy1 hy2
    obtain ⟨af, cf, rfl, _, _⟩ := q2.shape
    obtain ⟨ad, cd, rfl, _, _⟩ := q3.shape
    subst q1
    exact ⟨x, af, cf, ad, cd, e0, q2, q3, q4, fun h => q5 _ _ (by rw [h])⟩
  obtain ⟨a1, rfl, rfl, rfl, w1⟩ := open_int Try.underlying3 (hval 1 3 v1 rfl rfl) h1
  clear hA0 hval0
  refine (shape_walk xl a1 lf ld cf cd W hxf hxd hxl).mono fun e W' ⟨he, bel⟩ => ?_
  subst he
  exact ⟨_, rfl, _, _, _, [], _, [], hW', trodAll_mk1 (shut_bool Try.underlying4 _), (trodAll_cons_mk (Below.trod laidOut (by kernel_rfl) (of_decide_eq_true (by kernel_rfl)) k0 bel lt0) (trodAll_cons_mk (shut_int Try.underlying3 w1) trodAll_mk0)), rfl, bel.frame _, fun h => by cases h⟩

theorem over : Rows.optShapeRow.holds Try.pinned (OpenSpec.ofChange Rows.optShapeSpec) :=
  OpenClaim.holds_of_wide 3 Try.f3 rfl rfl rfl rfl rfl rfl rfl ⟨rfl, rfl, rfl, rfl, rfl⟩ rfl rfl rfl rfl rfl (by kernel_rfl) Try.func3 (by kernel_rfl)
    (of_decide_eq_true (by kernel_rfl)) (by unfold Func.isWrapper; first | (rw [if_pos (by decide +kernel)]; kernel_rfl) | (rw [if_neg (by decide +kernel)]; exact ⟨rfl, rfl⟩))
    (fun os started H enc _ => lifted os started H enc)

theorem proved : Rows.OptShapeSaid :=
  over
#print axioms proved
end Go.Proofs.Ytkifihcficobnab.optShape
