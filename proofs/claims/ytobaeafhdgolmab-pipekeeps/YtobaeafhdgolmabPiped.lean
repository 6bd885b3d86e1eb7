/- The sentence's closed pipe: piped is true. -/
import Derived.Test.YtobaeafhdgolmabPSBase
import Derived.Lib.SlBytesConst
namespace Go.Proofs.Ytobaeafhdgolmab
open Go.RowKit Go.Gs
set_option linter.unusedVariables false

def abcdP : List UInt8 := [97, 98, 99, 100]
theorem pip1 : pnew 3 = (⟨[], 3, false, false⟩, 0) := rfl
theorem pip2 : pwrite ⟨[], 3, false, false⟩ abcdP = (⟨[97, 98, 99], 3, false, false⟩, 3, 0) := rfl
theorem pip3 : pread ⟨[97, 98, 99], 3, false, false⟩ 2 = (⟨[99], 3, false, false⟩, [97, 98], 0) := rfl
theorem pip4 : pclose ⟨[99], 3, false, false⟩ = (⟨[99], 3, true, false⟩, 0) := rfl
theorem pip5 : pwrite ⟨[99], 3, true, false⟩ [] = (zeroP, 0, 7) := rfl
theorem reads_someP {w : World} {ao : Option Addr} {n cap : Nat} {xs : List Value} (h : Reads w (.slice ao n cap) n xs) (hn : n ≠ 0) : ao = none → cap = 0 := by
  intro e
  obtain ⟨_, ao', cap', e', _, _, h5⟩ := h
  injection e' with e1 e2 e3
  obtain ⟨b, off, e4, _⟩ := h5 hn
  rw [← e1, e] at e4
  cases e4
theorem abcd_reads (w : World) (fr : Nat × Nat) : Reads (w.alloc (.cells #[.int .u8 97, .int .u8 98, .int .u8 99, .int .u8 100] 5 fr)) (.slice (some ⟨w.heap.size, 0, none⟩) abcdP.length 4) abcdP.length (abcdP.map U) := by
  refine ⟨rfl, _, 4, rfl, Nat.le_refl _, by simp [maxLen], fun _ => ⟨w.heap.size, 0, rfl, fun j u hu => ?_⟩⟩
  rw [cell_of_row _ _ _ _ _ _ (heap_alloc_new w _)]
  simpa [abcdP, U] using hu

set_option maxRecDepth 100000 in
set_option maxHeartbeats 4000000 in
theorem piped_true (w : World) : Calls Try.prog 14 #[] w fun e w' => e = .returned (.bool true) ∧ Below w.heap.size w w' := by
  have kc := fun (w : World) (C : Array Value) (n c : Nat) => Lib.run_convert_bytes_const (P := Try.prog) w 40 5 C n c Try.underlying40 Try.underlying5
  have kc1 : ∀ (w : World) (o : Obj) (C : Array Value) (n c : Nat), (convert 40 40 (.slice (some ⟨w.heap.size + 1, 0, none⟩) n c)).run Try.prog ((w.alloc o).alloc (.cells C 5)) = .ok (.slice (some ⟨w.heap.size + 1, 0, none⟩) n c) ((w.alloc o).alloc (.cells C 5 (C.size, C.size + 1))) := by
    intro w o C n c
    have := kc (w.alloc o) C n c
    rwa [show (w.alloc o).heap.size = w.heap.size + 1 by simp] at this
  have HN : Hid _ := new_is 3 w
  rw [pip1] at HN
  clear kc
  go_enter Try.func14, Try.ntmps14
  go_wp2_with fail
  refine Calls.mono HN.out ?_
  rintro e w1 ⟨rfl, hb1⟩
  unfold pipeV
  have HB1 : Hid (Below w.heap.size w w1) := hb1
  clear hb1 HN
  go_wp2_with fail
  obtain ⟨W1, hW1⟩ : ∃ W, W = w1.alloc (.cells #[.slice none 0 0, .int .i64 3, .bool false, .bool false] 42) := ⟨_, rfl⟩
  have hs1 : W1.heap.size = w1.heap.size + 1 := by rw [hW1]; simp
  have hRA := abcd_reads W1 (4, 4 + 1)
  have HW2 : Hid _ := write_is none (some ⟨W1.heap.size, 0, none⟩) 0 4 ⟨[], 3, false, false⟩ abcdP _ (PB.none w _).1 hRA
  rw [pip2, hs1] at HW2
  have hb0 : W1.heap[w1.heap.size]? = some (.cells #[.slice none 0 0, .int .i64 3, .bool false, .bool false] 42 (0, 0)) := by rw [hW1]; exact heap_alloc_new w1 _
  have HBW : Hid (Below w.heap.size w W1) := (show Below _ _ _ by rw [hW1]; exact HB1.out.alloc HB1.out.size _)
  rw [← hW1]
  clear hW1 kc1 hRA
  refine Calls.mono HW2.out ?_
  rintro e w2 ⟨ar, cr, rfl, hp2, hb2⟩
  have X2 := (hb2.block w1.heap.size (by simp; omega)).trans ((boxrP.block w1.heap.size (by omega)).trans hb0)
  have HP2 : Hid (PB W1 w2 ar cr [97, 98, 99]) := PB.fromP hp2 (by simp)
  have HB2 : Hid (Below w.heap.size w w2) := (HBW.out.alloc HBW.out.size _).trans (hb2.mono (by have := HBW.out.size; simp; omega))
  obtain ⟨c0, c1, c2, c3⟩ := cells4P X2
  obtain ⟨f0, f1, f2, f3⟩ := frz4P X2
  have hK : w1.heap.size < W1.heap.size := by omega
  have hs2 : W1.heap.size ≤ w2.heap.size := by have := hb2.size; simp at this; omega
  have HX2 : Hid _ := X2
  clear X2 hb0 hb2 hp2 HW2
  unfold pipeV
  go_wp2_with fail
  obtain ⟨W2, hW2⟩ : ∃ W, W = (((w2.setCell ⟨w1.heap.size, 0, none⟩ (.slice ar 3 cr)).setCell ⟨w1.heap.size, 1, none⟩ (.int .i64 3)).setCell ⟨w1.heap.size, 2, none⟩ (.bool false)).setCell ⟨w1.heap.size, 3, none⟩ (.bool false) := ⟨_, rfl⟩
  have hPB2 : PB W1 W2 ar cr [97, 98, 99] := by rw [hW2]; exact PB.set4P HP2.out hK _ _ _ _
  have hX2 : W2.heap[w1.heap.size]? = some (.cells #[.slice ar 3 cr, .int .i64 3, .bool false, .bool false] 42 (0, 0)) := by rw [hW2]; exact set4P HX2.out
  have HBW2 : Hid (Below w.heap.size w W2) := (show Below _ _ _ by rw [hW2]; exact below_set4P HB2.out HB1.out.size _ _ _ _)
  have hs2 : W2.heap.size = w2.heap.size := by rw [hW2]; exact size4P
  have HR3 : Hid _ := read_is ar cr ⟨[97, 98, 99], 3, false, false⟩ 2 W2 hPB2.1 (reads_someP hPB2.1 (by decide))
  rw [pip3] at HR3
  rw [← hW2]
  clear hW2 hPB2 HP2 HX2
  refine Calls.mono HR3.out ?_
  rintro e w3 ⟨ar3, cr3, ag, cg, rfl, hp3, hg3, hb3⟩
  have X3 := (hb3.block w1.heap.size (by omega)).trans hX2
  have HP3 : Hid (PB W2 w3 ar3 cr3 [99]) := hp3
  have HG3 : Hid (PB W2 w3 ag cg [97, 98]) := hg3
  have HB3 : Hid (Below w.heap.size w w3) := HBW2.out.trans (hb3.mono HBW2.out.size)
  clear c0 c1 c2 c3 f0 f1 f2 f3
  obtain ⟨c0, c1, c2, c3⟩ := cells4P X3
  obtain ⟨f0, f1, f2, f3⟩ := frz4P X3
  have hK2 : w1.heap.size < W2.heap.size := by omega
  have hs3 : W2.heap.size ≤ w3.heap.size := hb3.size
  have HX3 : Hid _ := X3
  clear X3 hb3 hp3 hg3 HR3 hX2
  unfold pipeV
  go_wp2_with fail
  obtain ⟨W3, hW3⟩ : ∃ W, W = (((w3.setCell ⟨w1.heap.size, 0, none⟩ (.slice ar3 1 cr3)).setCell ⟨w1.heap.size, 1, none⟩ (.int .i64 3)).setCell ⟨w1.heap.size, 2, none⟩ (.bool false)).setCell ⟨w1.heap.size, 3, none⟩ (.bool false) := ⟨_, rfl⟩
  have hPB3 : PB W2 W3 ar3 cr3 [99] := by rw [hW3]; exact PB.set4P HP3.out hK2 _ _ _ _
  have hPG3 : PB W2 W3 ag cg [97, 98] := by rw [hW3]; exact PB.set4P HG3.out hK2 _ _ _ _
  have hX3 : W3.heap[w1.heap.size]? = some (.cells #[.slice ar3 1 cr3, .int .i64 3, .bool false, .bool false] 42 (0, 0)) := by rw [hW3]; exact set4P HX3.out
  have HBW3 : Hid (Below w.heap.size w W3) := (show Below _ _ _ by rw [hW3]; exact below_set4P HB3.out HB1.out.size _ _ _ _)
  have hs4 : W3.heap.size = w3.heap.size := by rw [hW3]; exact size4P
  have HC4 : Hid _ := close_is ar3 cr3 ⟨[99], 3, false, false⟩ W3 hPB3.1
  have HPG3 : Hid _ := hPG3
  rw [pip4] at HC4
  rw [← hW3]
  clear hW3 hPB3 hPG3 HP3 HG3 HX3
  refine Calls.mono HC4.out ?_
  rintro e w4 ⟨ar4, cr4, rfl, hp4, hb4⟩
  have X4 := (hb4.block w1.heap.size (by omega)).trans hX3
  have HP4 : Hid (PB W3 w4 ar4 cr4 [99]) := hp4
  have HG4 : Hid (PB W2 w4 ag cg [97, 98]) := PB.belP HPG3.out hb4
  have HB4 : Hid (Below w.heap.size w w4) := HBW3.out.trans (hb4.mono HBW3.out.size)
  clear c0 c1 c2 c3 f0 f1 f2 f3
  obtain ⟨c0, c1, c2, c3⟩ := cells4P X4
  obtain ⟨f0, f1, f2, f3⟩ := frz4P X4
  have hK3 : w1.heap.size < W3.heap.size := by omega
  have hs5 : W3.heap.size ≤ w4.heap.size := hb4.size
  have HX4 : Hid _ := X4
  clear X4 hb4 hp4 HC4 hX3
  unfold pipeV
  go_wp2_with fail
  obtain ⟨W4, hW4⟩ : ∃ W, W = (((w4.setCell ⟨w1.heap.size, 0, none⟩ (.slice ar4 1 cr4)).setCell ⟨w1.heap.size, 1, none⟩ (.int .i64 3)).setCell ⟨w1.heap.size, 2, none⟩ (.bool true)).setCell ⟨w1.heap.size, 3, none⟩ (.bool false) := ⟨_, rfl⟩
  have hPB4 : PB W3 W4 ar4 cr4 [99] := by rw [hW4]; exact PB.set4P HP4.out hK3 _ _ _ _
  have HG5 : Hid (PB W2 W4 ag cg [97, 98]) := (show PB W2 W4 ag cg [97, 98] by rw [hW4]; exact PB.set4P HG4.out hK2 _ _ _ _)
  have hX4 : W4.heap[w1.heap.size]? = some (.cells #[.slice ar4 1 cr4, .int .i64 3, .bool true, .bool false] 42 (0, 0)) := by rw [hW4]; exact set4P HX4.out
  have HBW4 : Hid (Below w.heap.size w W4) := (show Below _ _ _ by rw [hW4]; exact below_set4P HB4.out HB1.out.size _ _ _ _)
  have hs6 : W4.heap.size = w4.heap.size := by rw [hW4]; exact size4P
  have HW5 : Hid _ := write_is ar4 none cr4 0 ⟨[99], 3, true, false⟩ [] W4 hPB4.1 (PB.none W4 W4).1
  have HP5 : Hid _ := hPB4
  rw [pip5] at HW5
  rw [← hW4]
  clear hW4 hPB4 HP4 HG4 HX4
  refine Calls.mono HW5.out ?_
  rintro e w5 ⟨ar5, cr5, rfl, hp5, hb5⟩
  have X5 := (hb5.block w1.heap.size (by omega)).trans hX4
  have HB5 : Hid (Below w.heap.size w w5) := HBW4.out.trans (hb5.mono HBW4.out.size)
  have hbx := hb5.alloc hb5.size (.cells #[.slice ar5 0 cr5, .int .i64 0, .bool false, .bool false] 42)
  have hR1 := Reads.below HP5.out.1 hbx
  have hR2 := Reads.below HG5.out.1 hbx
  have hX5 := (hbx.block w1.heap.size (by omega)).trans hX4
  obtain ⟨W5, hW5⟩ : ∃ W, W = w5.alloc (.cells #[.slice ar5 0 cr5, .int .i64 0, .bool false, .bool false] 42) := ⟨_, rfl⟩
  rw [← hW5] at hR1 hR2
  have hv1 : (convert 40 9 (.slice ar4 1 cr4)).run Try.prog W5 = .ok (.string ⟨#[99]⟩) W5 := convP hR1
  have hv2 : (convert 40 9 (.slice ag 2 cg)).run Try.prog W5 = .ok (.string ⟨#[97, 98]⟩) W5 := convP hR2
  have HBW5 : Hid (Below w.heap.size w W5) := (show Below _ _ _ by rw [hW5]; exact HB5.out.alloc HB5.out.size _)
  rw [← hW5] at hX5
  clear c0 c1 c2 c3 f0 f1 f2 f3
  obtain ⟨c0, c1, c2, c3⟩ := cells4P hX5
  have HX5 : Hid _ := hX5
  have HOV : Hid _ := pover_is ar4 1 cr4 3 true false W5
  clear X5 hb5 hp5 HW5 hX4 hbx hR1 hR2 hX5
  unfold pipeV zeroP
  go_upto_region 6 with fail
  (try simp only [List.length_nil])
  rw [← hW5]
  clear hW5
  go_wp2_with fail
  refine Calls.mono HOV.out ?_
  rintro e w6 ⟨rfl, hb6⟩
  have HB6 : Hid (Below w.heap.size w w6) := HBW5.out.trans (hb6.mono HBW5.out.size)
  clear hb6 HOV
  go_wp2_with fail
  go_ret
  exact ⟨rfl, HB6.out⟩
end Go.Proofs.Ytobaeafhdgolmab
