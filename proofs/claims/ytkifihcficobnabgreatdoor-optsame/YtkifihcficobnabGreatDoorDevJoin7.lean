/- What the developers' command's Over does. -/
import Derived.Test.YtkifihcficobnabGreatDoorJoinC
import Derived.Deep.RegionWith
namespace Go.Proofs.YtkifihcficobnabGreatDoor
open Go.RowKit Go.Gs
set_option linter.unusedVariables false

theorem clone_in {w W : World} {bx : Nat} {a b c : Value} (v : Value) (ls : List (List UInt8)) (hr : Reads W v ls.length (ls.map S)) (hl : ls.length ≤ 1000000) (hB : Below w.heap.size w W) (h0 : W.cell? ⟨bx, 0, none⟩ = some a) (h1 : W.cell? ⟨bx, 1, none⟩ = some b) (h2 : W.cell? ⟨bx, 2, none⟩ = some c) :
    Calls Tryz.prog 165 #[v] W fun e w' => ∃ r, e = .returned r ∧ Hid (w'.ownsRow W.heap.size 9 1 r ls.length (ls.map S)) ∧ Hid (Below W.heap.size W w') ∧ w'.cell? ⟨bx, 0, none⟩ = some a ∧ w'.cell? ⟨bx, 1, none⟩ = some b ∧ w'.cell? ⟨bx, 2, none⟩ = some c := by
  refine (clone_is v ls W hr hl).mono ?_
  rintro e w' ⟨r, rfl, h3, h4⟩
  have hlt : bx < W.heap.size := World.block_lt_of_cell? W _ h0
  exact ⟨r, rfl, h3, h4, (h4.cell (p := ⟨bx, 0, none⟩) hlt).trans h0, (h4.cell (p := ⟨bx, 1, none⟩) hlt).trans h1, (h4.cell (p := ⟨bx, 2, none⟩) hlt).trans h2⟩

set_option maxRecDepth 100000 in
set_option maxHeartbeats 4000000 in
theorem cover_is (c : Cmd) (hc : chk c = 0) (v : Value) (ls : List (List UInt8)) (w : World) (hw : c.word.length ≤ 9223372036854775807) (hr : Reads w v ls.length (ls.map S)) (hl : ls.length ≤ 300000) (hsz : ∀ s ∈ ls, s.length ≤ 300000) (hK : Known w) :
    Calls Tryz.prog 108 #[c.v, v] w fun e w' => ∃ r, e = .returned (.tuple #[r, .int .i64 0]) ∧ Reads w' r (made c ls).length ((made c ls).map S) ∧ Below w.heap.size w w' := by
  have hchk := fun W => check_is c W hw
  rw [hc] at hchk
  have hover := fun (v : Value) (W : World) (B : Nat) hB0 hB ho hK => over_is c hc v ls W B hB0 hB ho hl hsz hK
  have hml : 0 < w.heap.size := by
    obtain ⟨⟨m, hm⟩, _⟩ := hK
    exact World.block_lt_of_cell? w _ hm
  obtain ⟨k, word, n⟩ := c
  unfold Cmd.v at hchk hover ⊢
  simp only at hchk hover ⊢
  have HR : Hid (Reads w v ls.length (ls.map S)) := hr
  have HO : Hid _ := hover
  have HK : Hid (Known w) := hK
  have HM : Hid _ := hml
  clear hr hover hK hml
  generalize made ⟨k, word, n⟩ ls = M at *
  generalize (⟨word.toArray⟩ : ByteArray) = sx at *
  go_enter Tryz.func108, Tryz.ntmps108
  go_wp2_with fail
  refine (hchk _).mono ?_
  rintro e w1 ⟨rfl, hb1⟩
  obtain ⟨x0, x1, x2⟩ := jbox_cells hb1
  have HB : Hid (Below w.heap.size w w1) := box_of.trans (hb1.mono (by simp))
  clear hb1 hchk
  go_upto_region 4 with fail
  have HBd : Hid (Below w.heap.size w w1.drew) := HB.out.drew
  have HRd : Hid (Reads w1.drew v ls.length (ls.map S)) := HR.out.below HBd.out
  go_region_with (first
    | (go_at_call 165; refine (clone_in v ls HRd.out (by omega) HBd.out x0 x1 x2).mono ?_; rintro e w2 ⟨r2, rfl, O2, B2, y0, y1, y2⟩)
    | (go_at_call 104; refine (HO.out r2 w2 w1.heap.size (Nat.lt_of_lt_of_le HM.out HB.out.size) B2.out.size O2.out ((HK.out.below HBd.out).below B2.out)).mono ?_; rintro e w3 ⟨r3, rfl, R3, B3⟩))
  all_goals
    have HR3 : Hid _ := R3
    have HB3 : Hid (Below w.heap.size w w3) := HBd.out.trans ((B2.out.mono HBd.out.size).trans (B3.mono HB.out.size))
    clear R3 B3
    go_wp2_with fail
    go_ret2
    exact ⟨r3, rfl, HR3.out, HB3.out⟩
end Go.Proofs.YtkifihcficobnabGreatDoor
