/- What the law's typed does: true. -/
import Derived.Test.YtdfnnhcooliheaaDoorDevScript8
import Derived.Test.YtdfnnhcooliheaaDoorDevScript11
namespace Go.Proofs.YtdfnnhcooliheaaDoor
open Go.RowKit Go.Gs
set_option linter.unusedVariables false

def ty0 : List SLine := [⟨[[97], [98]], [⟨1, [120], 0⟩, ⟨9, [], 3⟩], [99]⟩]
def tyText : List UInt8 := [97, 32, 98, 32, 124, 32, 107, 101, 101, 112, 32, 120, 32, 124, 32, 104, 101, 97, 100, 32, 51, 32, 62, 32, 99, 10]
theorem itoa3 : Lib.itoa 3 = [51] := by
  unfold Lib.itoa
  rw [if_neg (by omega)]
  exact Lib.decDigits_one (by decide)
theorem ty_ok : schk ty0 = 0 := by decide
theorem ty_text : stext ty0 = tyText := by
  have e1 : printed ⟨1, [120], 0⟩ = [107, 101, 101, 112, 32, 120] := rfl
  have e2 : printed ⟨9, [], 3⟩ = [104, 101, 97, 100, 32, 51] := by
    unfold printed
    rw [if_neg (by simp), if_pos (by decide)]
    show nameOf 9 ++ 32 :: Lib.itoa 3 = _
    rw [itoa3]
    rfl
  unfold stext ty0 rowText doText
  simp only [List.map_cons, List.map_nil, e1, e2]
  rfl
theorem ty_parse : parseS tyText = (ty0, 0, 0) := by
  rw [← ty_text]
  exact read_printed ty_ok (by rw [ty_text]; decide)

set_option maxRecDepth 100000 in
set_option maxHeartbeats 4000000 in
theorem typed_is (w : World) (hE : KnownS w) :
    Calls Tryd.prog 27 #[] w fun e w' => e = .returned (.bool true) ∧ Below w.heap.size w w' := by
  have hP := parse_is tyText w (by decide) hE
  have HE : Hid (KnownS w) := hE
  unfold tyText at hP
  clear hE
  go_enter Tryd.func27, Tryd.ntmps27
  go_wp2_with fail
  refine Calls.mono hP ?_
  intro e w1 hend
  obtain ⟨ao, cap, rfl, hl, hfit, hb⟩ : ∃ ao cap, e = .returned (.tuple #[.slice ao 1 cap, .int .i64 0, .int .i64 0]) ∧ RLines w1 (.slice ao 1 cap) ty0 ∧ (∀ x ∈ ty0, FitsL x) ∧ Below w.heap.size w w1 := by
    have h : ParseEnd tyText w e w1 := hend
    unfold ParseEnd at h
    rw [ty_parse] at h
    exact h
  have HB : Hid (Below w.heap.size w w1) := hb
  have HL : Hid (RLines w1 (.slice ao 1 cap) ty0) := hl
  have hPr := print_is ao cap ty0 w1 hl hfit (HE.out.below hb)
  rw [if_pos ty_ok, ty_ok, ty_text] at hPr
  have hln : ty0.length = 1 := rfl
  rw [hln] at hPr
  obtain ⟨px, hpx⟩ : ∃ px : ByteArray, px = ⟨tyText.toArray⟩ := ⟨_, rfl⟩
  have hbe : px.toList = [97, 32, 98, 32, 124, 32, 107, 101, 101, 112, 32, 120, 32, 124, 32, 104, 101, 97, 100, 32, 51, 32, 62, 32, 99, 10] := by
    rw [hpx]
    unfold tyText
    simp
  rw [← hpx] at hPr
  clear hend hP hl hfit hb hpx hln
  go_wp2_with fail
  refine Calls.mono hPr ?_
  rintro e w2 ⟨rfl, hb2⟩
  have HB2 : Hid (Below w.heap.size w w2) := HB.out.trans (hb2.mono HB.out.size)
  obtain ⟨b, off, af, cf, ad, cd, rfl, hc0, hc1, hc2, hr, hd⟩ := (RLines.below HL.out hb2).at (k := 0) (x := ⟨[[97], [98]], [⟨1, [120], 0⟩, ⟨9, [], 3⟩], [99]⟩) rfl
  obtain ⟨bd, od, rfl, hd0, hd1, hd2⟩ := hd.at (k := 1) (c := ⟨9, [], 3⟩) rfl
  simp only [List.length_cons, List.length_nil, Nat.zero_mul, Nat.add_zero, Nat.reduceAdd, Nat.reduceMul] at hc1 hd2
  clear hb2 hPr hr hd hc0 hc2 hd0 hd1
  go_wp2_with fail
  go_ret
  exact ⟨rfl, HB2.out⟩
end Go.Proofs.YtdfnnhcooliheaaDoor
