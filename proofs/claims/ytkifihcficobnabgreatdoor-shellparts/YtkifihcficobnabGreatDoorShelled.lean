/- What the closed script of the sentences makes. -/
import Derived.Test.YtkifihcficobnabGreatDoorDevShell11
import Derived.Test.YtkifihcficobnabGreatDoorShelledMath
import Derived.Test.YtkifihcficobnabGreatDoorOfE
import Derived.Lib.SlBytesConst
namespace Go.Proofs.YtkifihcficobnabGreatDoor
open Go.RowKit Go.Gs
set_option linter.unusedVariables false

def allocs (w : World) (os : List Obj) : World := os.foldl World.alloc w
theorem allocs_below : ∀ (os : List Obj) (w : World), Below w.heap.size w (allocs w os)
  | [], w => Below.refl _ _
  | o :: os, w => boxr_of.trans ((allocs_below os (w.alloc o)).mono boxr_of.size)
theorem allocs_at : ∀ (os : List Obj) (w : World) (i : Nat) (o : Obj), os[i]? = some o → (allocs w os).heap[w.heap.size + i]? = some o
  | [], w, i, o, h => by simp at h
  | a :: os, w, 0, o, h => by
    simp at h
    subst h
    exact ((allocs_below os (w.alloc a)).block _ (by simp)).trans (heap_alloc_new w a)
  | a :: os, w, i + 1, o, h => by
    have := allocs_at os (w.alloc a) i o (by simpa using h)
    rw [show (w.alloc a).heap.size = w.heap.size + 1 by simp] at this
    rw [show w.heap.size + (i + 1) = w.heap.size + 1 + i by omega]
    exact this

def shOs (p : Nat) : List Obj := [
  .cells #[.int .u8 50, .int .u8 10, .int .u8 49] 5 (3, 4),
  .cells #[.int .u8 48] 5 (1, 2),
  .cells #[.string ⟨#[97]⟩, .slice (some ⟨p, 0, none⟩) 3 3, .string ⟨#[98]⟩, .slice (some ⟨p + 1, 0, none⟩) 1 1] 45,
  .cells #[.string ⟨#[97]⟩, .string ⟨#[98]⟩, .string ⟨#[120]⟩] 9,
  .cells #[.int .i64 6, .string ⟨#[]⟩, .int .i64 0] 59,
  .cells #[.string ⟨#[99]⟩] 9,
  .cells #[.int .i64 8, .string ⟨#[]⟩, .int .i64 0] 59,
  .cells #[.slice (some ⟨p + 1 + 1 + 1, 0, none⟩) 3 3, .slice (some ⟨p + 1 + 1 + 1 + 1, 0, none⟩) 1 1, .string ⟨#[99]⟩, .slice (some ⟨p + 1 + 1 + 1 + 1 + 1, 0, none⟩) 1 1, .slice (some ⟨p + 1 + 1 + 1 + 1 + 1 + 1, 0, none⟩) 1 1, .string ⟨#[97]⟩] 40]
theorem reads_al {W : World} {q n : Nat} {C : Array Value} {t : TypeId} {fr : Nat × Nat} (h : W.heap[q]? = some (.cells C t fr)) (hn : C.size = n) (hm : n ≤ 1000000) : Reads W (.slice (some ⟨q, 0, none⟩) n n) n C.toList := by
  refine ⟨by simpa using hn, _, n, rfl, Nat.le_refl _, by unfold maxLen; omega, fun _ => ⟨q, 0, rfl, fun j u hu => ?_⟩⟩
  rw [cell_of_row _ _ _ _ _ _ h, Nat.zero_add]
  simpa using hu
theorem sh_files (w : World) : RFiles (allocs w (shOs w.heap.size)) (.slice (some ⟨w.heap.size + 1 + 1, 0, none⟩) 2 2) shF := by
  have h0 := allocs_at (shOs w.heap.size) w 0 _ rfl
  have h1 := allocs_at (shOs w.heap.size) w 1 _ rfl
  have h2 := allocs_at (shOs w.heap.size) w 2 _ rfl
  generalize allocs w (shOs w.heap.size) = W at *
  refine ⟨_, 2, rfl, Nat.le_refl _, by simp [maxLen], fun _ => ⟨w.heap.size + 1 + 1, 0, rfl, fun j f hj => ?_⟩⟩
  match j, hj with
  | 0, hj =>
    have e : f = ⟨[97], [50, 10, 49]⟩ := by simpa [shF] using hj.symm
    subst e
    exact ⟨_, (cell_of_row _ _ _ _ _ _ h2).trans rfl, (cell_of_row _ _ _ _ _ _ h2).trans rfl, reads_al h0 rfl (by decide)⟩
  | 1, hj =>
    have e : f = ⟨[98], [48]⟩ := by simpa [shF] using hj.symm
    subst e
    exact ⟨_, (cell_of_row _ _ _ _ _ _ h2).trans rfl, (cell_of_row _ _ _ _ _ _ h2).trans rfl, reads_al h1 rfl (by decide)⟩
  | j + 2, hj => simp [shF] at hj
theorem sh_lines (w : World) : RLines (allocs w (shOs w.heap.size)) (.slice (some ⟨w.heap.size + 1 + 1 + 1 + 1 + 1 + 1 + 1, 0, none⟩) 2 2) shL := by
  have h3 := allocs_at (shOs w.heap.size) w 3 _ rfl
  have h4 := allocs_at (shOs w.heap.size) w 4 _ rfl
  have h5 := allocs_at (shOs w.heap.size) w 5 _ rfl
  have h6 := allocs_at (shOs w.heap.size) w 6 _ rfl
  have h7 := allocs_at (shOs w.heap.size) w 7 _ rfl
  generalize allocs w (shOs w.heap.size) = W at *
  have hcmd : ∀ (q : Nat) (k : Int), W.heap[q]? = some (.cells #[.int .i64 k, .string ⟨#[]⟩, .int .i64 0] 59 (0, 0)) → RCmds W (.slice (some ⟨q, 0, none⟩) 1 1) [⟨k, [], 0⟩] := by
    intro q k h
    refine ⟨_, 1, rfl, Nat.le_refl _, by simp [maxLen], fun _ => ⟨q, 0, rfl, fun j c hj => ?_⟩⟩
    match j, hj with
    | 0, hj =>
      have e : c = ⟨k, [], 0⟩ := by simpa using hj.symm
      subst e
      exact ⟨(cell_of_row _ _ _ _ _ _ h).trans rfl, (cell_of_row _ _ _ _ _ _ h).trans rfl, (cell_of_row _ _ _ _ _ _ h).trans rfl⟩
    | j + 1, hj => simp at hj
  refine ⟨_, 2, rfl, Nat.le_refl _, by simp [maxLen], fun _ => ⟨w.heap.size + 1 + 1 + 1 + 1 + 1 + 1 + 1, 0, rfl, fun j x hj => ?_⟩⟩
  match j, hj with
  | 0, hj =>
    have e : x = ⟨[[97], [98], [120]], [⟨6, [], 0⟩], [99]⟩ := by simpa [shL] using hj.symm
    subst e
    exact ⟨_, _, (cell_of_row _ _ _ _ _ _ h7).trans rfl, (cell_of_row _ _ _ _ _ _ h7).trans rfl, (cell_of_row _ _ _ _ _ _ h7).trans rfl, reads_al h3 rfl (by decide), hcmd _ _ h4⟩
  | 1, hj =>
    have e : x = ⟨[[99]], [⟨8, [], 0⟩], [97]⟩ := by simpa [shL] using hj.symm
    subst e
    exact ⟨_, _, (cell_of_row _ _ _ _ _ _ h7).trans rfl, (cell_of_row _ _ _ _ _ _ h7).trans rfl, (cell_of_row _ _ _ _ _ _ h7).trans rfl, reads_al h5 rfl (by decide), hcmd _ _ h6⟩
  | j + 2, hj => simp [shL] at hj
theorem sh_run (w : World) (hK : Known w) :
    Calls Tryz.prog 11 #[.slice (some ⟨w.heap.size + 1 + 1, 0, none⟩) 2 2, .slice (some ⟨w.heap.size + 1 + 1 + 1 + 1 + 1 + 1 + 1, 0, none⟩) 2 2] (allocs w (shOs w.heap.size)) fun e w' => ∃ b off cr va vc, e = .returned (.tuple #[.slice (some ⟨b, off, none⟩) 3 cr, .int .i64 0]) ∧ 3 ≤ cr ∧ cr ≤ 9223372036854775807 ∧ w'.cell? ⟨b, off + 1, none⟩ = some va ∧ w'.cell? ⟨b, off + 5, none⟩ = some vc ∧ Reads w' va 2 ([51, 10].map U) ∧ Reads w' vc 6 ([48, 10, 49, 10, 50, 10].map U) ∧ Below w.heap.size w w' := by
  have hb := allocs_below (shOs w.heap.size) w
  refine (run_is _ _ 2 2 shF shL _ (sh_files w) (by intro f hf; simp [shF] at hf; rcases hf with rfl | rfl <;> (show _ ≤ _; decide)) (sh_lines w) (by intro x hx; simp [shL] at hx; rcases hx with rfl | rfl <;> (refine ⟨?_, ?_, ?_⟩ <;> simp [FitsC])) (hK.below hb)).mono ?_
  rintro e w1 ⟨ar, cr, rfl, hf, hb1⟩
  rw [shelled_made] at hf ⊢
  obtain ⟨b, off, ab, cb, rfl, c0, c1, r0⟩ := hf.at (k := 0) rfl
  obtain ⟨b', off', ab', cb', e', c2, c3, r2⟩ := hf.at (k := 2) rfl
  injection e' with e'
  injection e' with e1 e2
  subst e1 e2
  have hle := rfiles_le hf
  exact ⟨b, off, cr, _, _, rfl, hle.1, hle.2, c1, c3, r0, r2, hb.trans (hb1.mono hb.size)⟩

set_option maxRecDepth 100000 in
set_option maxHeartbeats 4000000 in
theorem shelled_true (w : World) (hK : Known w) : Calls Tryz.prog 13 #[] w fun e w' => e = .returned (.bool true) ∧ Below w.heap.size w w' := by
  have kc := fun (w : World) (C : Array Value) (n c : Nat) => Lib.run_convert_bytes_const (P := Tryz.prog) w 24 5 C n c Tryz.underlying24 Tryz.underlying5
  have kc2 := fun (o : Obj) (C : Array Value) (n c : Nat) => kc (w.alloc o) C n c
  simp only [show ∀ o, (w.alloc o).heap.size = w.heap.size + 1 from fun o => by simp] at kc2
  have HR : Hid _ := sh_run w hK
  clear hK
  go_enter Tryz.func13, Tryz.ntmps13
  go_wp2_with fail
  refine Calls.mono HR.out ?_
  rintro e w1 ⟨b, off, cr, va, vc, rfl, h3, hcr, hc1, hc2, hra, hrc, hb⟩
  have HB : Hid (Below w.heap.size w w1) := hb
  have k1 := conv_any (bs := [51, 10]) hra
  have k2 := conv_any (bs := [48, 10, 49, 10, 50, 10]) hrc
  clear hb hra hrc HR kc kc2
  go_wp2_with fail
  go_ret
  exact ⟨rfl, HB.out⟩
end Go.Proofs.YtkifihcficobnabGreatDoor
