/- For every []byte, int and []string the call of gangsawlaw.LineParts returns true and leaves its arguments as they were. No condition. -/
import Derived.Test.YtkifihcficobnaaRows
import Derived.Test.YtkifihcficobnaaPartsOk
import Derived.Test.YtkifihcficobnaaOpen
import Derived.ShutString
import Derived.ChangeOld
import Derived.Below
namespace Go.Proofs.Ytkifihcficobnaa.lineParts
open Go.ChangeShapes Go.WideShapes Go.ChangeAt Go.RowKit Go.Gs
set_option linter.unusedVariables false

theorem own : ownKnob Try.prog.godebug = none := by kernel_rfl
theorem laidOut : laidOutB Try.prog = true := by kernel_rfl

theorem walk (vb vl : Value) (bs : List UInt8) (ls : List (List UInt8)) (p : Int) (w : World) (hb : Reads w vb bs.length (bs.map U)) (hl : Reads w vl ls.length (ls.map S)) (hsz : ∀ s ∈ ls, s.length ≤ 9223372036854775807) :
    Calls Try.prog 4 #[vb, .int .i64 p, vl] w fun e w' => e = .returned (.bool true) ∧ Below w.heap.size w w' := by
  by_cases hbad : bad 4000 ls = 0
  · by_cases hn : bs.length ≤ 4000
    · by_cases hp : p < 1 ∨ 5 < p
      · exact parts_range1 vb vl bs ls p w hb hl hsz hbad hn hp
      · obtain ⟨q, rfl⟩ := Int.eq_ofNat_of_zero_le (show 0 ≤ p by omega)
        exact parts_ok1 vb vl bs ls q w hb hl hsz hbad hn (by omega) (by omega)
    · exact parts_many1 vb vl bs ls p w hb hl hsz hbad (by omega)
  · by_cases hn : bs.length ≤ 4000
    · by_cases hp : p < 1 ∨ 5 < p
      · exact parts_range0 vb vl bs ls p w hb hl hsz hbad hn hp
      · obtain ⟨q, rfl⟩ := Int.eq_ofNat_of_zero_le (show 0 ≤ p by omega)
        exact parts_ok0 vb vl bs ls q w hb hl hsz hbad hn (by omega) (by omega)
    · exact parts_many0 vb vl bs ls p w hb hl hsz hbad (by omega)

set_option maxRecDepth 100000 in
theorem lifted (os : Os) (started : os.Started) (H : Type) (enc : TypeId × Value → H) :
    ReturnsInHanded {} Try.checked os 4 .any (Rows.linePartsSpec.pre6 enc Try.prog Try.f4 Rows.linePartsRow.domain false) (Rows.linePartsSpec.post enc Try.prog Try.f4 false true false false) := by
  refine returnsInHanded_of_change (C := Try.checked) own started (by kernel_rfl) Try.func4
    (ChangeSpec.witness6 (enc := enc) (C := Try.checked) false ⟨#[], #[.slice none 0 0, .int .i64 0, .slice none 0 0], []⟩ 8 (by kernel_rfl) (by kernel_rfl) (by kernel_rfl) (by kernel_rfl)) ?_
  intro W base args ds gs before hval0 hW hcnd _
  have hval : ∀ (j : Nat) t v, Try.f4.params[j]? = some t → args[j]? = some v → Value.okWide Try.prog W .any base t v := hval0
  have hW' := hW
  obtain ⟨p, q, hA0, hV, rfl, hfz, hnd⟩ := hW
  have hA : DataW.TrodAll enc Try.prog W 0 (fun _ => true) true Try.f4.params.toList args.toList ds p := hA0
  rw [Try.params4] at hA hval
  obtain ⟨v0, v1, v2, d0, d1, d2, p0, p1, p2, rfl, rfl, rfl, h0, h1, h2⟩ := trodAll_three hA
  obtain ⟨rfl, rfl⟩ := trodVars_none hV
  obtain ⟨a0, len0, cap0, rfl⟩ := okWide_slice Try.underlying27 (hval 0 27 v0 rfl rfl)
  obtain ⟨a2, len2, cap2, rfl⟩ := okWide_slice Try.underlying28 (hval 2 28 v2 rfl rfl)
  have k0 := h0
  have k2 := h2
  have lt0 : ∀ x ∈ p0, x.block < W.heap.size := by obtain ⟨m, hm⟩ := k0; exact DataW.trod_lt m _ _ _ hm
  have lt2 : ∀ x ∈ p2, x.block < W.heap.size := by obtain ⟨m, hm⟩ := k2; exact DataW.trod_lt m _ _ _ hm
  obtain ⟨bs, hbl, hb⟩ : ∃ bs : List UInt8, bs.length = len0 ∧ Reads W (.slice a0 len0 cap0) bs.length (bs.map U) := by
    obtain ⟨fuel, hf⟩ := h0
    exact bytes_of_open Try.underlying27 Try.underlying5 (by kernel_rfl) hf
  obtain ⟨ls, hll, hl, hsz⟩ : ∃ ls : List (List UInt8), ls.length = len2 ∧ Reads W (.slice a2 len2 cap2) ls.length (ls.map S) ∧ ∀ s ∈ ls, s.length ≤ 9223372036854775807 := by
    obtain ⟨fuel, hf⟩ := h2
    exact strs_of_open Try.underlying28 Try.underlying9 (by kernel_rfl) hf
  obtain ⟨a1, rfl, rfl, rfl, w1⟩ := open_int Try.underlying3 (hval 1 3 v1 rfl rfl) h1
  clear hA0 hval0
  refine (walk _ _ bs ls a1 W hb hl hsz).mono fun e W' ⟨he, bel⟩ => ?_
  subst he
  exact ⟨_, rfl, _, _, _, [], _, [], hW', trodAll_mk1 (shut_bool Try.underlying4 _), (trodAll_cons_mk (Below.trod laidOut (by kernel_rfl) (of_decide_eq_true (by kernel_rfl)) k0 bel lt0) (trodAll_cons_mk (shut_int Try.underlying3 w1) (trodAll_cons_mk (Below.trod laidOut (by kernel_rfl) (of_decide_eq_true (by kernel_rfl)) k2 bel lt2) trodAll_mk0))), rfl, bel.frame _, fun h => by cases h⟩

theorem over : Rows.linePartsRow.holds Try.pinned (OpenSpec.ofChange Rows.linePartsSpec) :=
  OpenClaim.holds_of_wide 4 Try.f4 rfl rfl rfl rfl rfl rfl rfl ⟨rfl, rfl, rfl, rfl, rfl⟩ rfl rfl rfl rfl rfl (by kernel_rfl) Try.func4 (by kernel_rfl)
    (of_decide_eq_true (by kernel_rfl)) (by unfold Func.isWrapper; first | (rw [if_pos (by decide +kernel)]; kernel_rfl) | (rw [if_neg (by decide +kernel)]; exact ⟨rfl, rfl⟩))
    (fun os started H enc _ => lifted os started H enc)

theorem proved : Rows.LinePartsSaid :=
  over
#print axioms proved
end Go.Proofs.Ytkifihcficobnaa.lineParts
