/- For every number, bytes and numbers the call of gangsawlaw.PipeKeeps returns true and leaves its arguments as they were. No condition. -/
import Derived.Test.YtobaeafhdgolmabRows
import Derived.Test.YtobaeafhdgolmabPKeeps
import Derived.Test.YtobaeafhdgolmabOpenP
import Derived.Lib.SmallJoins
import Derived.Carry
import Derived.ShutString
import Derived.ChangeOld
import Derived.Below
namespace Go.Proofs.Ytobaeafhdgolmab.pipeKeeps
open Go.ChangeShapes Go.WideShapes Go.ChangeAt Go.RowKit Go.Gs Go.Joins
set_option linter.unusedVariables false

theorem own : ownKnob Try.prog.godebug = none := by kernel_rfl
theorem laidOut : laidOutB Try.prog = true := by kernel_rfl

set_option maxRecDepth 100000 in
theorem lifted (os : Os) (started : os.Started) (H : Type) (enc : TypeId × Value → H) :
    ReturnsInHanded {} Try.checked os 5 .any (Rows.pipeKeepsSpec.pre6 enc Try.prog Try.f5 Rows.pipeKeepsRow.domain false) (Rows.pipeKeepsSpec.post enc Try.prog Try.f5 false true false false) := by
  refine returnsInHanded_of_change (C := Try.checked) own started (by kernel_rfl) Try.func5
    (ChangeSpec.witness6 (enc := enc) (C := Try.checked) false ⟨#[], #[.int .i64 0, .slice none 0 0, .slice none 0 0], []⟩ 8 (by kernel_rfl) (by kernel_rfl) (by kernel_rfl) (by kernel_rfl)) ?_
  intro W base args ds gs before hval0 hW hcnd _
  have hval : ∀ (j : Nat) t v, Try.f5.params[j]? = some t → args[j]? = some v → Value.okWide Try.prog W .any base t v := hval0
  have hW' := hW
  obtain ⟨p, q, hA0, hV, rfl, hfz, hnd⟩ := hW
  have hA : DataW.TrodAll enc Try.prog W 0 (fun _ => true) true Try.f5.params.toList args.toList ds p := hA0
  rw [Try.params5] at hA hval
  obtain ⟨v0, v1, v2, d0, d1, d2, p0, p1, p2, rfl, rfl, rfl, h0, h1, h2⟩ := trodAll_three hA
  obtain ⟨rfl, rfl⟩ := trodVars_none hV
  have k1 := h1
  have lt1 : ∀ x ∈ p1, x.block < W.heap.size := by obtain ⟨m, hm⟩ := k1; exact DataW.trod_lt m _ _ _ hm
  have k2 := h2
  have lt2 : ∀ x ∈ p2, x.block < W.heap.size := by obtain ⟨m, hm⟩ := k2; exact DataW.trod_lt m _ _ _ hm
  obtain ⟨a0, rfl, rfl, rfl, w0⟩ := open_int Try.underlying3 (hval 0 3 v0 rfl rfl) h0
  obtain ⟨bs, ab, cb, rfl, hb, hzb⟩ : ∃ (bs : List UInt8) (a : Option Addr) (cap : Nat), v1 = .slice a bs.length cap ∧ Reads W (.slice a bs.length cap) bs.length (bs.map U) ∧ (a = none → cap = 0) := by
    obtain ⟨a1, len1, cap1, rfl⟩ := okWide_slice Try.underlying40 (hval 1 40 v1 rfl rfl)
    obtain ⟨fuel, hf⟩ := h1
    exact pbytes_of_open Try.underlying40 Try.underlying5 (by kernel_rfl) hf
  obtain ⟨ks, os, cs, rfl, hk, hks⟩ : ∃ (ks : List Int) (a : Option Addr) (cap : Nat), v2 = .slice a ks.length cap ∧ Reads W (.slice a ks.length cap) ks.length (ks.map IV) ∧ (∀ z ∈ ks, -9223372036854775808 ≤ z ∧ z ≤ 9223372036854775807) := by
    obtain ⟨a1, len1, cap1, rfl⟩ := okWide_slice Try.underlying55 (hval 2 55 v2 rfl rfl)
    obtain ⟨fuel, hf⟩ := h2
    obtain ⟨zs, a, cap, e1, e2, _, e4⟩ := row_of_open Try.underlying55 Try.underlying3 (by kernel_rfl) hf
    exact ⟨zs, a, cap, e1, e2, fun z hz => int_boundsP (e4 z hz)⟩
  clear hA0 hval0
  refine (pipeKeeps_walk a0 ab os cb cs bs ks W hb hzb hk hks).mono fun e W' ⟨he, bel⟩ => ?_
  subst he
  exact ⟨_, rfl, _, _, _, [], _, [], hW', trodAll_mk1 (shut_bool Try.underlying4 _), (trodAll_cons_mk (shut_int Try.underlying3 w0) (trodAll_cons_mk (Below.trod laidOut (by kernel_rfl) (of_decide_eq_true (by kernel_rfl)) k1 bel lt1) (trodAll_cons_mk (Below.trod laidOut (by kernel_rfl) (of_decide_eq_true (by kernel_rfl)) k2 bel lt2) trodAll_mk0))), rfl, bel.frame _, fun h => by cases h⟩

theorem over : Rows.pipeKeepsRow.holds Try.pinned (OpenSpec.ofChange Rows.pipeKeepsSpec) :=
  OpenClaim.holds_of_wide 5 Try.f5 rfl rfl rfl rfl rfl rfl rfl ⟨rfl, rfl, rfl, rfl, rfl⟩ rfl rfl rfl rfl rfl (by kernel_rfl) Try.func5 (by kernel_rfl)
    (of_decide_eq_true (by kernel_rfl)) (by unfold Func.isWrapper; first | (rw [if_pos (by decide +kernel)]; kernel_rfl) | (rw [if_neg (by decide +kernel)]; exact ⟨rfl, rfl⟩))
    (fun os started H enc _ => lifted os started H enc)

theorem proved : Rows.PipeKeepsSaid :=
  over
#print axioms proved
end Go.Proofs.Ytobaeafhdgolmab.pipeKeeps
