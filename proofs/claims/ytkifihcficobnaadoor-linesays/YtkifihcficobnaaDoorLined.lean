/- The closed fact: three lines, in two parts. -/
import Derived.Test.YtkifihcficobnaaDoorEqual
import Derived.Test.YtkifihcficobnaaDoorSplit
import Derived.Lib.SlBytesConst
namespace Go.Proofs.YtkifihcficobnaaDoor
open Go.RowKit Go.Gs
set_option linter.unusedVariables false

theorem of_abc (v : Value) (w : World) (hr : Reads w v 4 [.int .u8 97, .int .u8 10, .int .u8 10, .int .u8 98]) :
    Calls Tryd.prog 6 #[v] w fun e w' => ∃ g cap, e = .returned (.tuple #[.slice (some ⟨g, 0, none⟩) 3 cap, .int .i64 0]) ∧
      Reads w' (.slice (some ⟨g, 0, none⟩) 3 cap) 3 [S [97], S [], S [98]] ∧ Below w.heap.size w w' := by
  refine (of_shape v [97, 10, 10, 98] w hr (by decide) (by decide)).mono ?_
  rintro e w' ⟨g, cap, rfl, _, _, h1, h2⟩
  exact ⟨g, cap, rfl, h1, h2⟩

theorem split_abc (v : Value) (w : World) (hr : Reads w v 4 [.int .u8 97, .int .u8 10, .int .u8 10, .int .u8 98]) :
    Calls Tryd.prog 8 #[v, .int .i64 2] w fun e w' => ∃ G cap b0 o0 c0 b1 o1 c1, e = .returned (.tuple #[.slice (some ⟨G, 0, none⟩) 2 cap, .int .i64 0]) ∧
      w'.cell? ⟨G, 0, none⟩ = some (.slice (some ⟨b0, o0, none⟩) 2 c0) ∧ w'.cell? ⟨G, 1, none⟩ = some (.slice (some ⟨b1, o1, none⟩) 3 c1) ∧ G < w'.heap.size ∧
      Reads w' (.slice (some ⟨b0, o0, none⟩) 2 c0) 2 [U 97, U 10] ∧ Reads w' (.slice (some ⟨b1, o1, none⟩) 3 c1) 3 [U 10, U 98, U 10] ∧ Below w.heap.size w w' := by
  refine (split_ok v [97, 10, 10, 98] 2 w hr (by decide) (by decide) (by decide)).mono ?_
  rintro e w' ⟨r, vs, rfl, hown, hp, hbel⟩
  obtain ⟨G, cap, rfl⟩ := owns_shape hown (by decide)
  obtain ⟨u0, hu0, r0⟩ := hp 0 (by decide)
  obtain ⟨u1, hu1, r1⟩ := hp 1 (by decide)
  have r0' : Reads w' u0 2 [U 97, U 10] := r0
  have r1' : Reads w' u1 3 [U 10, U 98, U 10] := r1
  obtain ⟨b0, o0, c0, rfl⟩ := reads_shape r0' (by decide)
  obtain ⟨b1, o1, c1, rfl⟩ := reads_shape r1' (by decide)
  have hc0 := (hown.cellAt 0 (by decide)).trans hu0
  exact ⟨G, cap, b0, o0, c0, b1, o1, c1, rfl, hc0, (hown.cellAt 1 (by decide)).trans hu1, World.block_lt_of_cell? w' _ hc0, r0', r1', hbel⟩

theorem bytes_x (v : Value) (w : World) (hr : Reads w v 2 [.string ⟨#[120]⟩, .string ⟨#[]⟩]) :
    Calls Tryd.prog 7 #[v] w fun e w' => ∃ b off cap, e = .returned (.tuple #[.slice (some ⟨b, off, none⟩) 3 cap, .int .i64 0]) ∧
      Reads w' (.slice (some ⟨b, off, none⟩) 3 cap) 3 [U 120, U 10, U 10] ∧ Below w.heap.size w w' := by
  refine (bytes_reads v [[120], []] w hr (by decide)).mono ?_
  rintro e w' (⟨h, _⟩ | ⟨_, r, rfl, hown, hbel⟩)
  · exact absurd (by decide) h
  · have hrd : Reads w' r 3 [U 120, U 10, U 10] := Reads.of_owns hown
    obtain ⟨b, off, cap, rfl⟩ := reads_shape hrd (by decide)
    exact ⟨b, off, cap, rfl, hrd, hbel⟩

set_option maxRecDepth 100000 in
set_option maxHeartbeats 1000000 in
theorem lined_true (w : World) : Calls Tryd.prog 9 #[] w fun e w' => e = .returned (.bool true) ∧ Below w.heap.size w w' := by
  have kc := fun (w : World) (C : Array Value) (n c : Nat) => Lib.run_convert_bytes_const (P := Tryd.prog) w 22 5 C n c Tryd.underlying22 Tryd.underlying5
  go_enter Tryd.func9, Tryd.ntmps9
  go_wp2_with fail
  refine (of_abc _ _ (reads_new _ _ _ _ 4 rfl (by decide))).mono ?_
  rintro e w1 ⟨g, cap, rfl, h1, hb1⟩
  have hB1 : Below w.heap.size w w1 := ((Below.refl _ w).alloc (Nat.le_refl _) _).trans (hb1.mono (by simp))
  clear hb1
  go_wp2_with fail
  refine (split_abc _ _ (reads_new _ _ _ _ 4 rfl (by decide))).mono ?_
  rintro e w2 ⟨G, cG, b0, o0, c0, b1, o1, c1, rfl, hG0, hG1, hGlt, r0, r1, hb2⟩
  have hB2 : Below w1.heap.size w1 w2 := ((Below.refl _ w1).alloc (Nat.le_refl _) _).trans (hb2.mono (by simp))
  have HG0 : Hid _ := hG0
  have HG1 : Hid _ := hG1
  clear hb2 hG0 hG1
  go_wp2_with fail
  refine (bytes_x _ _ (reads_new _ _ _ _ 2 rfl (by decide))).mono ?_
  rintro e w3 ⟨bb, bo, bc, rfl, r3, hb3⟩
  have hB3 : Below w2.heap.size w2 w3 := ((Below.refl _ w2).alloc (Nat.le_refl _) _).trans (hb3.mono (by simp))
  clear hb3
  have hX : ∀ o q, Below w3.heap.size w3 ((w3.alloc o).drewN q) := fun o q => ((Below.refl _ w3).alloc (Nat.le_refl _) o).trans ⟨rfl, rfl, rfl, Nat.le_refl _, fun _ _ => rfl⟩
  have hXo : ∀ o, Below w3.heap.size w3 (w3.alloc o) := fun o => (Below.refl _ w3).alloc (Nat.le_refl _) o
  have cG0 : ∀ o, (w3.alloc o).cell? ⟨G, 0, none⟩ = some (.slice (some ⟨b0, o0, none⟩) 2 c0) := fun o => ((hXo o).cell (by have := hB3.size; simp; omega)).trans ((hB3.cell (by exact hGlt)).trans HG0.out)
  have cG1 : ∀ o, (w3.alloc o).cell? ⟨G, 1, none⟩ = some (.slice (some ⟨b1, o1, none⟩) 3 c1) := fun o => ((hXo o).cell (by have := hB3.size; simp; omega)).trans ((hB3.cell (by exact hGlt)).trans HG1.out)
  have v0 : ∀ o q, (convert 22 9 (.slice (some ⟨b0, o0, none⟩) 2 c0)).run Tryd.prog ((w3.alloc o).drewN q) = .ok (.string ⟨#[97, 10]⟩) ((w3.alloc o).drewN q) := fun o q => conv_reads (bs := [97, 10]) ((r0.below hB3).below (hX o q)) (by decide)
  have v1 : ∀ o q, (convert 22 9 (.slice (some ⟨b1, o1, none⟩) 3 c1)).run Tryd.prog ((w3.alloc o).drewN q) = .ok (.string ⟨#[10, 98, 10]⟩) ((w3.alloc o).drewN q) := fun o q => conv_reads (bs := [10, 98, 10]) ((r1.below hB3).below (hX o q)) (by decide)
  have v2 : ∀ o q, (convert 22 9 (.slice (some ⟨bb, bo, none⟩) 3 bc)).run Tryd.prog ((w3.alloc o).drewN q) = .ok (.string ⟨#[120, 10, 10]⟩) ((w3.alloc o).drewN q) := fun o q => conv_reads (bs := [120, 10, 10]) (r3.below (hX o q)) (by decide)
  have h1' : Hid (∀ o, Reads (w3.alloc o) (.slice (some ⟨g, 0, none⟩) 3 cap) 3 [S [97], S [], S [98]]) := fun o => ((h1.below hB2).below hB3).below (hXo o)
  have HX : Hid _ := hX
  have HB : Hid (Below w.heap.size w w3) := (hB1.trans (hB2.mono hB1.size)).trans (hB3.mono (Nat.le_trans hB1.size hB2.size))
  clear h1 hB1 hB2 hB3 r0 r1 r3 hX hXo
  go_wp2_with fail
  refine (equal_str _ _ [[97], [], [98]] [[97], [], [98]] _ (h1'.out _) (reads_new _ _ _ _ 3 rfl (by decide))).mono ?_
  rintro e w4 ⟨rfl, q, rfl⟩
  go_wp2_with fail
  go_ret
  exact ⟨rfl, HB.out.trans ((HX.out _ _).mono HB.out.size)⟩
end Go.Proofs.YtkifihcficobnaaDoor
