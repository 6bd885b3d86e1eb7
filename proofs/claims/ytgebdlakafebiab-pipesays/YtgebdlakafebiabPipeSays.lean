/- For every pipe, bytes and numbers the call of gangsawlaw.PipeSays returns true and leaves its arguments as they were. No condition. -/
import Derived.Test.YtgebdlakafebiabRows
import Derived.Test.YtgebdlakafebiabPSaysAll
import Derived.Test.YtgebdlakafebiabOpenP
import Derived.Lib.SmallJoins
import Derived.Carry
import Derived.ShutString
import Derived.ChangeOld
import Derived.Below
namespace Go.Proofs.Ytgebdlakafebiab.pipeSays
open Go.ChangeShapes Go.WideShapes Go.ChangeAt Go.RowKit Go.Gs Go.Joins
set_option linter.unusedVariables false

theorem own : ownKnob Try.prog.godebug = none := by kernel_rfl
theorem laidOut : laidOutB Try.prog = true := by kernel_rfl

set_option maxRecDepth 100000 in
theorem lifted (os : Os) (started : os.Started) (H : Type) (enc : TypeId × Value → H) :
    ReturnsInHanded {} Try.checked os 4 .any (Rows.pipeSaysSpec.pre6 enc Try.prog Try.f4 Rows.pipeSaysRow.domain false) (Rows.pipeSaysSpec.post enc Try.prog Try.f4 false true false false) := by
  refine returnsInHanded_of_change (C := Try.checked) own started (by kernel_rfl) Try.func4
    (ChangeSpec.witness6 (enc := enc) (C := Try.checked) false ⟨#[], #[.agg #[.slice none 0 0, .int .i64 0, .bool false, .bool false], .slice none 0 0, .int .i64 0, .int .i64 0], []⟩ 8 (by kernel_rfl) (by kernel_rfl) (by kernel_rfl) (by kernel_rfl)) ?_
  intro W base args ds gs before hval0 hW hcnd _
  have hval : ∀ (j : Nat) t v, Try.f4.params[j]? = some t → args[j]? = some v → Value.okWide Try.prog W .any base t v := hval0
  have hW' := hW
  obtain ⟨p, q, hA0, hV, rfl, hfz, hnd⟩ := hW
  have hA : DataW.TrodAll enc Try.prog W 0 (fun _ => true) true Try.f4.params.toList args.toList ds p := hA0
  rw [Try.params4] at hA hval
  obtain ⟨v0, v1, v2, v3, d0, d1, d2, d3, p0, p1, p2, p3, rfl, rfl, rfl, h0, h1, h2, h3⟩ := trodAll_four hA
  obtain ⟨rfl, rfl⟩ := trodVars_none hV
  have k0 := h0
  have lt0 : ∀ x ∈ p0, x.block < W.heap.size := by obtain ⟨m, hm⟩ := k0; exact DataW.trod_lt m _ _ _ hm
  have k1 := h1
  have lt1 : ∀ x ∈ p1, x.block < W.heap.size := by obtain ⟨m, hm⟩ := k1; exact DataW.trod_lt m _ _ _ hm
  obtain ⟨sp, ab, cap, rfl, hr, hz⟩ : ∃ (sp : SPipe) (ab : Option Addr) (cap : Nat), v0 = pipeV sp ab cap ∧ Reads W (.slice ab sp.b.length cap) sp.b.length (sp.b.map U) ∧ (ab = none → cap = 0) := by
    obtain ⟨c0, c1, c2, c3, y0, y1, y2, y3, m, e0, _, _, hy0, hy1, hy2, hy3⟩ := open_agg4 Try.underlying42 (by kernel_rfl) (by kernel_rfl) (hval 0 42 v0 rfl rfl) h0
    obtain ⟨bs, ab, cap, rfl, g1, g2⟩ := pbytes_of_open Try.underlying40 Try.underlying5 (by kernel_rfl) hy0
    obtain ⟨r, e1, _, _⟩ := DataW.trod_int Try.underlying3 hy1
    obtain ⟨cl, e2, _⟩ := DataW.trod_bool Try.underlying4 hy2
    obtain ⟨sh, e3, _⟩ := DataW.trod_bool Try.underlying4 hy3
    simp at e1 e2 e3
    subst e1 e2 e3
    exact ⟨⟨bs, r, cl, sh⟩, ab, cap, e0, g1, g2⟩
  obtain ⟨cs, ac, cc, rfl, hrc, _⟩ : ∃ (bs : List UInt8) (a : Option Addr) (cap : Nat), v1 = .slice a bs.length cap ∧ Reads W (.slice a bs.length cap) bs.length (bs.map U) ∧ (a = none → cap = 0) := by
    obtain ⟨a1, len1, cap1, rfl⟩ := okWide_slice Try.underlying40 (hval 1 40 v1 rfl rfl)
    obtain ⟨fuel, hf⟩ := h1
    exact pbytes_of_open Try.underlying40 Try.underlying5 (by kernel_rfl) hf
  obtain ⟨a2, rfl, rfl, rfl, w2⟩ := open_int Try.underlying3 (hval 2 3 v2 rfl rfl) h2
  obtain ⟨a3, rfl, rfl, rfl, w3⟩ := open_int Try.underlying3 (hval 3 3 v3 rfl rfl) h3
  clear hA0 hval0
  refine (pipeSays_walk sp ab ac cap cc cs a2 a3 W hr hz hrc).mono fun e W' ⟨he, bel⟩ => ?_
  subst he
  exact ⟨_, rfl, _, _, _, [], _, [], hW', trodAll_mk1 (shut_bool Try.underlying4 _), (trodAll_cons_mk (Below.trod laidOut (by kernel_rfl) (of_decide_eq_true (by kernel_rfl)) k0 bel lt0) (trodAll_cons_mk (Below.trod laidOut (by kernel_rfl) (of_decide_eq_true (by kernel_rfl)) k1 bel lt1) (trodAll_cons_mk (shut_int Try.underlying3 w2) (trodAll_cons_mk (shut_int Try.underlying3 w3) trodAll_mk0)))), rfl, bel.frame _, fun h => by cases h⟩

theorem over : Rows.pipeSaysRow.holds Try.pinned (OpenSpec.ofChange Rows.pipeSaysSpec) :=
  OpenClaim.holds_of_wide 4 Try.f4 rfl rfl rfl rfl rfl rfl rfl ⟨rfl, rfl, rfl, rfl, rfl⟩ rfl rfl rfl rfl rfl (by kernel_rfl) Try.func4 (by kernel_rfl)
    (of_decide_eq_true (by kernel_rfl)) (by unfold Func.isWrapper; first | (rw [if_pos (by decide +kernel)]; kernel_rfl) | (rw [if_neg (by decide +kernel)]; exact ⟨rfl, rfl⟩))
    (fun os started H enc _ => lifted os started H enc)

theorem proved : Rows.PipeSaysSaid :=
  over
#print axioms proved
end Go.Proofs.Ytgebdlakafebiab.pipeSays
