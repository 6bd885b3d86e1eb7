/- What flows through the closed graph of the laws. -/
import Derived.Test.YtcllnalikeljgabGreatDoorFlowed
namespace Go.Proofs.YtcllnalikeljgabGreatDoor
open Go.RowKit Go.Gs
set_option linter.unusedVariables false

theorem sorter_fits : ∀ n ∈ sorterNs, FitsN n := by
  intro n hn
  simp [sorterNs] at hn
  rcases hn with rfl | rfl | rfl | rfl | rfl | rfl <;> (refine ⟨by decide, by decide, ?_⟩; intro p hp; simp at hp; first | (subst hp; exact ⟨by decide, by decide⟩) | (rcases hp with rfl | rfl <;> exact ⟨by decide, by decide⟩) | skip)
theorem flow_fits : ∀ f ∈ flowFs, FitsF f := by
  intro f hf
  simp [flowFs] at hf
  subst hf
  show _ ≤ _
  decide
theorem flow_rows (w : World) : RFiles ((w.alloc (.cells #[.int .u8 51, .int .u8 10, .int .u8 49, .int .u8 10, .int .u8 50, .int .u8 10, .int .u8 48] 5 (7, 8))).alloc (.cells #[.string ⟨#[97]⟩, .slice (some ⟨w.heap.size, 0, none⟩) 7 7] 45)) (.slice (some ⟨w.heap.size + 1, 0, none⟩) 1 1) flowFs := by
  have h1 := heap_new_at (w := w.alloc (.cells #[.int .u8 51, .int .u8 10, .int .u8 49, .int .u8 10, .int .u8 50, .int .u8 10, .int .u8 48] 5 (7, 8))) (o := .cells #[.string ⟨#[97]⟩, .slice (some ⟨w.heap.size, 0, none⟩) 7 7] 45) (k := w.heap.size + 1) (by simp)
  refine ⟨_, 1, rfl, by decide, by simp [maxLen], fun _ => ⟨_, 0, rfl, fun j f hj => ?_⟩⟩
  match j, hj with
  | 0, hj =>
    injection hj with hj
    subst hj
    refine ⟨_, (cell_of_row _ _ _ _ _ _ h1).trans rfl, (cell_of_row _ _ _ _ _ _ h1).trans rfl, ?_⟩
    have h2 := reads_new w #[.int .u8 51, .int .u8 10, .int .u8 49, .int .u8 10, .int .u8 50, .int .u8 10, .int .u8 48] 5 (7, 8) 7 rfl (by omega)
    exact h2.below box_of
  | j + 1, hj => cases hj

set_option maxRecDepth 100000 in
set_option maxHeartbeats 4000000 in
theorem flowed_true (w : World) (hE : KnownE w) : Calls Tryz.prog 33 #[] w fun e w' => e = .returned (.bool true) ∧ Below w.heap.size w w' := by
  have HE : Hid (KnownE w) := hE
  clear hE
  go_enter Tryz.func33, Tryz.ntmps33
  go_wp2_with fail
  refine (sorter_is w).mono ?_
  rintro e w1 ⟨g, rfl, hr1, hb1⟩
  have HR1 : Hid (RNodes w1 (.slice (some ⟨g, 0, none⟩) 6 6) sorterNs) := hr1
  have HB1 : Hid (Below w.heap.size w w1) := hb1
  have kc := fun (w : World) (C : Array Value) (n c : Nat) => Lib.run_convert_bytes_const (P := Tryz.prog) w 24 5 C n c Tryz.underlying24 Tryz.underlying5
  have kc2 := fun (o : Obj) (C : Array Value) (n c : Nat) => kc (w1.alloc o) C n c
  simp only [show ∀ o, (w1.alloc o).heap.size = w1.heap.size + 1 from fun o => by simp] at kc2
  clear hr1 hb1
  go_wp2_with fail
  have hfr := flow_rows (w1.alloc (.cells #[.slice (some ⟨g, 0, none⟩) 6 6] 57))
  simp only [show (w1.alloc (.cells #[.slice (some ⟨g, 0, none⟩) 6 6] 57)).heap.size = w1.heap.size + 1 from by simp] at hfr
  have hX : Below w1.heap.size w1 (((w1.alloc (.cells #[.slice (some ⟨g, 0, none⟩) 6 6] 57)).alloc (.cells #[.int .u8 51, .int .u8 10, .int .u8 49, .int .u8 10, .int .u8 50, .int .u8 10, .int .u8 48] 5 (7, 8))).alloc (.cells #[.string ⟨#[97]⟩, .slice (some ⟨w1.heap.size + 1, 0, none⟩) 7 7] 45)) := (box_of.trans (box_of.mono (by simp))).trans (box_of.mono (by simp; omega))
  have hXg : Below (w1.alloc (.cells #[.slice (some ⟨g, 0, none⟩) 6 6] 57)).heap.size (w1.alloc (.cells #[.slice (some ⟨g, 0, none⟩) 6 6] 57)) (((w1.alloc (.cells #[.slice (some ⟨g, 0, none⟩) 6 6] 57)).alloc (.cells #[.int .u8 51, .int .u8 10, .int .u8 49, .int .u8 10, .int .u8 50, .int .u8 10, .int .u8 48] 5 (7, 8))).alloc (.cells #[.string ⟨#[97]⟩, .slice (some ⟨w1.heap.size + 1, 0, none⟩) 7 7] 45)) := box_of.trans (box_of.mono (by simp))
  have hQ := eval_is sorterNs (some ⟨g, 0, none⟩) (some ⟨w1.heap.size + 1 + 1, 0, none⟩) 6 1 flowFs _ (HR1.out.below hX) sorter_fits hfr flow_fits (HE.out.below (HB1.out.trans (hX.mono HB1.out.size)))
  rw [flow_made] at hQ
  refine Calls.mono hQ ?_
  rintro e w2 ⟨ab, cb, rfl, hrb, hb2⟩
  have hg2 := gbox_keep (hXg.trans (hb2.mono hXg.size))
  have HX2 : Hid (Below w1.heap.size w1 w2) := hX.trans (hb2.mono hX.size)
  have HB2 : Hid (Below w.heap.size w w2) := HB1.out.trans (HX2.out.mono HB1.out.size)
  have k1 := conv_any (bs := [48, 10, 49, 10, 50, 10, 51, 10]) hrb
  have HC1 : Hid _ := gcheck_is sorterNs (some ⟨g, 0, none⟩) 6 w2 (HR1.out.below HX2.out) sorter_fits
  rw [sorter_right] at HC1
  clear hfr hX hXg hQ hrb hb2 kc kc2
  simp only [List.length_cons, List.length_nil, Nat.zero_add, Nat.reduceAdd] at k1 ⊢
  go_wp2_with fail
  refine Calls.mono HC1.out ?_
  rintro e w3 ⟨rfl, hb3⟩
  have hg3 := (hb3.cell (World.block_lt_of_cell? w2 _ hg2)).trans hg2
  have HX3 : Hid (Below w1.heap.size w1 w3) := HX2.out.trans (hb3.mono HX2.out.size)
  have HB3 : Hid (Below w.heap.size w w3) := HB1.out.trans (HX3.out.mono HB1.out.size)
  have HC2 : Hid _ := gcheck_is (sorterNs.take 5) (some ⟨g, 0, none⟩) 6 w3 ((HR1.out.below HX3.out).take 5 (by decide)) (fun n hn => sorter_fits n (List.mem_of_mem_take hn))
  rw [sorter_short] at HC2
  clear hb3 hg2 HC1 k1
  go_wp2_with fail
  refine Calls.mono HC2.out ?_
  rintro e w4 ⟨rfl, hb4⟩
  have HB4 : Hid (Below w.heap.size w w4) := HB3.out.trans (hb4.mono HB3.out.size)
  clear hb4 HC2 hg3
  go_wp2_with fail
  go_ret
  exact ⟨rfl, HB4.out⟩
end Go.Proofs.YtcllnalikeljgabGreatDoor
