/- The closed facts that the sentences on commands ask for. -/
import Derived.Test.YtkifihcficobnaaDoorDevDo
import Derived.Test.YtkifihcficobnaaDoorCmdDid
namespace Go.Proofs.YtkifihcficobnaaDoor
open Go.RowKit Go.Gs
set_option linter.unusedVariables false

set_option maxRecDepth 100000 in
set_option maxHeartbeats 2000000 in
theorem did1 (c : Cmd) (hw : c.word.length ≤ 12) (hc : chk c = 0) (bx : Nat) (v : Value) (w : World) (hbx : w.cell? ⟨bx, 0, none⟩ = some v) (hr : Reads w v 9 (didB.map U)) (hK : Known w) :
    Calls Tryd.prog 41 #[c.v, .pointer (some ⟨bx, 0, none⟩)] w fun e w' => e = .returned (.string ⟨(doOut c didB).toArray⟩) ∧ Below w.heap.size w w' := by
  have hdo := fun (W : World) hr hK => do_ok c v didB W (by omega) hc hr (by decide) hK
  generalize doOut c didB = D at *
  have hbl := World.block_lt_of_cell? w _ hbx
  obtain ⟨k, word, n⟩ := c
  unfold Cmd.v at hdo ⊢
  simp only at hdo hbl ⊢
  generalize (⟨word.toArray⟩ : ByteArray) = sx at *
  have HD : Hid _ := hdo
  have HR : Hid (Reads w v 9 (didB.map U)) := hr
  have HK : Hid (Known w) := hK
  clear hdo hr hK
  have hbx1 : (w.alloc (.cells #[.int .i64 k, .string sx, .int .i64 n] 43)).cell? ⟨bx, 0, none⟩ = some v := Lib.cell?_alloc_some _ hbx
  obtain ⟨ao, cap, hv⟩ : ∃ ao cap, v = .slice ao 9 cap := by
    obtain ⟨_, ao, cap, h, _⟩ := HR.out
    exact ⟨ao, cap, h⟩
  subst hv
  go_enter Tryd.func41, Tryd.ntmps41
  go_wp2_with fail
  refine (HD.out _ (HR.out.below box_of) (HK.out.below box_of)).mono ?_
  rintro e w1 ⟨r, rfl, hown, hb⟩
  have hcv := conv_any (Reads.of_owns hown)
  have HB : Hid (Below w.heap.size w w1) := box_of.trans (hb.mono (by simp))
  clear hown hb
  go_wp2_with fail
  go_ret
  exact ⟨rfl, HB.out⟩

/-- What the closed fact's closure stands on. -/
def DidAt (w : World) (bx : Nat) : Prop := ∃ v, w.cell? ⟨bx, 0, none⟩ = some v ∧ Reads w v 9 (didB.map U) ∧ Known w
theorem DidAt.below {w w' : World} {bx : Nat} (h : DidAt w bx) (hb : Below w.heap.size w w') : DidAt w' bx := by
  obtain ⟨v, h1, h2, h3⟩ := h
  exact ⟨v, (hb.cell (World.block_lt_of_cell? w _ h1)).trans h1, h2.below hb, h3.below hb⟩
theorem did_at (c : Cmd) (hw : c.word.length ≤ 12) (hc : chk c = 0) (bx : Nat) (w : World) (h : DidAt w bx) (D : List UInt8) (hD : doOut c didB = D) :
    Calls Tryd.prog 41 #[c.v, .pointer (some ⟨bx, 0, none⟩)] w fun e w' => e = .returned (.string ⟨D.toArray⟩) ∧ Below w.heap.size w w' ∧ DidAt w' bx := by
  obtain ⟨v, h1, h2, h3⟩ := id h
  refine (did1 c hw hc bx v w h1 h2 h3).mono ?_
  rintro e w' ⟨rfl, hb⟩
  rw [hD]
  exact ⟨rfl, hb, h.below hb⟩

theorem did_start (w : World) (C : Array Value) (fr : Nat × Nat) (hC : C.toList = didB.map U) (hK : Known w) : DidAt ((w.alloc (.cells C 5 fr)).alloc (.cells #[.slice (some ⟨w.heap.size, 0, none⟩) 9 9] 22)) (w.heap.size + 1) := by
  refine ⟨.slice (some ⟨w.heap.size, 0, none⟩) 9 9, ?_, ?_, hK.below below_two⟩
  · have h : (w.alloc (.cells C 5 fr)).heap.size = w.heap.size + 1 := by simp
    rw [← h, cell_of_row _ _ _ _ _ _ (heap_alloc_new _ _)]
    rfl
  · have hl : C.size = 9 := by
      have := congrArg List.length hC
      simpa [didB] using this
    have h := reads_new w C 5 fr 9 hl (by decide)
    rw [hC] at h
    exact h.below ((Below.refl _ _).alloc (Nat.le_refl _) _)

set_option maxRecDepth 100000 in
set_option maxHeartbeats 4000000 in
theorem did_true (w : World) (hK : Known w) : Calls Tryd.prog 18 #[] w fun e w' => e = .returned (.bool true) ∧ Below w.heap.size w w' := by
  have eg : ∀ args w, (callFunc 41 args).run Tryd.prog w = .ok (.enter 41 args) w := enters_of Tryd.func41 (by kernel_rfl) rfl
  have kc := fun (w : World) (C : Array Value) (n c : Nat) => Lib.run_convert_bytes_const (P := Tryd.prog) w 22 5 C n c Tryd.underlying22 Tryd.underlying5
  have HK : Hid (Known w) := hK
  clear hK
  go_enter Tryd.func18, Tryd.ntmps18
  go_wp2_with fail
  refine (did_at ⟨6, [], 0⟩ (by decide) (by decide) _ _ (did_start w _ _ ?hc HK.out) _ did_sort).mono ?_
  case hc => rfl
  rintro e w1 ⟨rfl, hb1, hd1⟩
  have HB1 : Hid (Below w.heap.size w w1) := below_two.trans (hb1.mono (by simp; omega))
  have HD1 : Hid (DidAt w1 (w.heap.size + 1)) := hd1
  clear hb1 hd1 kc
  go_wp2_with fail
  refine (did_at ⟨1, [120], 0⟩ (by decide) (by decide) _ _ HD1.out _ did_keep).mono ?_
  rintro e w2 ⟨rfl, hb2, hd2⟩
  have HB2 : Hid (Below w.heap.size w w2) := HB1.out.trans (hb2.mono HB1.out.size)
  have HD2 : Hid (DidAt w2 (w.heap.size + 1)) := hd2
  clear hb2 hd2
  go_wp2_with fail
  refine (did_at ⟨4, [], 2⟩ (by decide) (by decide) _ _ HD2.out _ did_field).mono ?_
  rintro e w3 ⟨rfl, hb3, hd3⟩
  have HB3 : Hid (Below w.heap.size w w3) := HB2.out.trans (hb3.mono HB2.out.size)
  have HD3 : Hid (DidAt w3 (w.heap.size + 1)) := hd3
  clear hb3 hd3
  go_wp2_with fail
  refine (did_at ⟨8, [], 0⟩ (by decide) (by decide) _ _ HD3.out _ did_count).mono ?_
  rintro e w4 ⟨rfl, hb4, hd4⟩
  have HB4 : Hid (Below w.heap.size w w4) := HB3.out.trans (hb4.mono HB3.out.size)
  have HD4 : Hid (DidAt w4 (w.heap.size + 1)) := hd4
  clear hb4 hd4
  go_wp2_with fail
  refine (did_at ⟨5, [], 0⟩ (by decide) (by decide) _ _ HD4.out _ did_turn).mono ?_
  rintro e w5 ⟨rfl, hb5, hd5⟩
  have HB5 : Hid (Below w.heap.size w w5) := HB4.out.trans (hb5.mono HB4.out.size)
  clear hb5 hd5
  go_wp2_with fail
  go_ret
  exact ⟨rfl, HB5.out⟩
end Go.Proofs.YtkifihcficobnaaDoor
