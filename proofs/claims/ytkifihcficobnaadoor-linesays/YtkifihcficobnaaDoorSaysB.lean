/- The walks of gangsawlaw.LineSays. -/
import Derived.Test.YtkifihcficobnaaDoorSaysLem
namespace Go.Proofs.YtkifihcficobnaaDoor
open Go.RowKit Go.Gs
set_option linter.unusedVariables false

set_option maxRecDepth 100000 in
set_option maxHeartbeats 4000000 in
theorem says_Bl0 (ab al : Option Addr) (cb cl : Nat) (bs : List UInt8) (ls : List (List UInt8)) (p : Int) (w : World) (hb : Reads w (.slice ab bs.length cb) bs.length (bs.map U)) (hl : Reads w (.slice al ls.length cl) ls.length (ls.map S)) (hsz : ∀ s ∈ ls, s.length ≤ 9223372036854775807) (hsh : w.ShapedOpen Tryd.prog) (hLm : ls.length ≤ 9223372036854775807) (hbm : bs.length ≤ 9223372036854775807) (hn : bs.length ≤ 4000) (hp0 : p < 1) (HB : Hid (bad 4000 ls = 0)) :
    Calls Tryd.prog 3 #[.slice ab bs.length cb, .slice al ls.length cl, .int .i64 p] w fun e w' => e = .returned (.bool true) ∧ Below w.heap.size w w' := by
  have hp : p < 1 ∨ 5 < p := by omega
  go_enter Tryd.func3, Tryd.ntmps3
  go_wp2_with fail
  refine (of_fine _ bs _ hb hn).mono ?_
  rintro e w1 ⟨xo, xc, rfl, hx1, hB1⟩
  go_wp2_with fail
  refine (bytes_fine _ ls _ (hl.below hB1) hsz HB.out).mono ?_
  rintro e w2 ⟨y, rfl, hy2, hb2⟩
  have hB2 : Below w.heap.size w w2 := hB1.trans (hb2.mono hB1.size)
  go_wp2_with fail
  refine (split_range _ bs p _ (hb.below hB2) hn hp).mono ?_
  rintro e w3 ⟨rfl, hb3⟩
  have hB3 : Below w.heap.size w w3 := hB2.trans (hb3.mono hB2.size)
  go_wp2_with fail
  refine (lined_true _).mono ?_
  rintro e w4 ⟨rfl, hb4⟩
  have hB4 : Below w.heap.size w w4 := hB3.trans (hb4.mono hB3.size)
  have hB24 : Below w2.heap.size w2 w4 := hb3.trans (hb4.mono hb3.size)
  have HB4 : Hid _ := hB4
  have Hb : Hid _ := hb.below hB4
  have hl4 := hl.below hB4
  have Hl : Hid _ := hl4
  have Hsh : Hid _ := sh_below hsh hB4
  have Hy : Hid _ := hy2.below hB24
  clear hy2
  have Hx : Hid _ := (hx1.below hb2).below hB24
  clear hx1
  clear hB1 hb2 hB2 hb3 hB3 hb4 hB4 hB24 hb hl hsh
  obtain ⟨-, al', cl', e4, -, -, hl5⟩ := hl4
  simp only [Value.slice.injEq, true_and] at e4
  obtain ⟨rfl, rfl⟩ := e4
  have hcv := fun (W : World) (s : ByteArray) => run_bytes_of_string (P := Tryd.prog) W 9 22 5 s Tryd.underlying9 Tryd.underlying22 Tryd.underlying5
  generalize hL : ls.length = L at *
  generalize hN : bs.length = N at *
  go_wp2_with fail
  go_loopw [13, 14, 37] (fun s13 s14 i wr => ∃ k nn : Nat, k ≤ L ∧ nn ≤ 4000 ∧ i = .int .i64 k ∧ s13 = .int .i64 0 ∧ s14 = .int .i64 nn ∧ Below w4.heap.size w4 wr ∧ Hid (bad 4000 ls = bad (4000 - nn) (ls.drop k)))
    (fun _ _ i _ => L - (intOf i).toNat)
  case atStart => exact ⟨0, 0, Nat.zero_le _, Nat.zero_le _, rfl, rfl, rfl, Below.refl _ _, rfl⟩
  case round =>
    obtain ⟨k, nn, hk, hnn, rfl, rfl, rfl, hbel, hbad⟩ := hrel
    by_cases hlt : k < L
    · obtain ⟨b, off, rfl, hc⟩ := hl5 (by omega)
      have hcell : wr.cell? ⟨b, off + k, none⟩ = some (.string ⟨(ls[k]'(by omega)).toArray⟩) := (hbel.cell (World.block_lt_of_cell? w4 _ (hc k (S (ls[k]'(by omega))) (by simp [hL, hlt])))).trans (hc k _ (by simp [S, hL, hlt]))
      have hstep : Hid _ := bad_step ls k (4000 - nn) (by omega)
      have hszk := hsz (ls[k]'(by omega)) (List.getElem_mem _)
      clear hc hl5 hsz
      generalize hl' : ls[k]'(by omega) = l at *
      clear hl'
      obtain ⟨sx, hsx⟩ : ∃ sx : ByteArray, sx = ⟨l.toArray⟩ := ⟨_, rfl⟩
      have hsz' : sx.size = l.length := by rw [hsx]; simp [ByteArray.size]
      have hdx : sx.data.toList = l := by rw [hsx]
      have hrdx : Reads (wr.alloc (.cells (bytesRow sx (grownCap wr sx.size 0 5)) 5 ((bytesRow sx (grownCap wr sx.size 0 5)).size, (bytesRow sx (grownCap wr sx.size 0 5)).size + 1))).drew (.slice (some ⟨wr.heap.size, 0, none⟩) sx.size (grownCap wr sx.size 0 5)) l.length (l.map U) := by
        have h := (reads_bytes wr sx (grownCap wr sx.size 0 5) ((bytesRow sx (grownCap wr sx.size 0 5)).size, (bytesRow sx (grownCap wr sx.size 0 5)).size + 1) (grownCap_ge _ _ _ _) (grownCap_le_maxLen _ _ _ _ (by unfold maxLen; omega))).below (Below.refl _ _).drew
        rw [hdx] at h
        rw [← hsz']
        exact h
      have hBx : Below w4.heap.size w4 (wr.alloc (.cells (bytesRow sx (grownCap wr sx.size 0 5)) 5 ((bytesRow sx (grownCap wr sx.size 0 5)).size, (bytesRow sx (grownCap wr sx.size 0 5)).size + 1))).drew := (hbel.alloc hbel.size _).drew
      rw [← hsx] at hcell
      have Hsz : Hid _ := hsz'
      have Hrdx : Hid _ := hrdx
      have HBx : Hid _ := hBx
      have hszk' : sx.size ≤ 9223372036854775807 := by omega
      clear hsx hsz' hdx hrdx hBx hszk
      by_cases hf : (10 : UInt8) ∈ l
      · have h4 : bad 4000 ls = 4 := by rw [hbad.out, hstep.out, if_pos hf]
        exact absurd (h4.symm.trans HB.out) (by decide)
      · by_cases hlr : 4000 - nn ≤ l.length
        · have h4 : bad 4000 ls = 2 := by rw [hbad.out, hstep.out, if_neg hf, if_pos hlr]
          exact absurd (h4.symm.trans HB.out) (by decide)
        · have hlr' : sx.size < 4000 - nn := by rw [Hsz.out]; omega
          have Hb' : Hid (bad 4000 ls = bad (4000 - (nn + (sx.size + 1))) (ls.drop (k + 1))) := by
            show _ = _
            rw [hbad.out, hstep.out, if_neg hf, if_neg hlr, Hsz.out, Nat.sub_sub]
          clear hstep hbad hlr
          go_wp2_with fail
          refine (contains_feed _ l _ Hrdx.out false (by simp [hf])).mono ?_
          rintro e w5 ⟨rfl, hw5⟩
          have hB5 : Below w4.heap.size w4 w5 := by rw [hw5]; exact HBx.out
          clear hw5 HBx Hrdx hcell hbel
          clear hf
          go_wp2_with fail
          go_roundw
          case rel => exact ⟨k + 1, nn + (sx.size + 1), by omega, by omega, by go_num, rfl, by go_num, hB5, Hb'⟩
          case measure => simp [intOf]; omega
    · clear hl5 hsz
      have hkn : k = L := by omega
      subst hkn
      have hB5 := hbel
      clear hbel hbad
      go_wp2_with fail
      have hle' : Hid _ := (bad_ok ls 4000 HB.out).1
      refine (bytesOf _ ls _ (by rw [hL]; exact Reads.below (Hl.out) hB5) (by have := hle'.out; omega)).mono ?_
      rintro e w6 ⟨r6, rfl, hr6, hb6⟩
      have hB6 : Below w4.heap.size w4 w6 := hB5.trans (hb6.mono hB5.size)
      go_wp2_with fail
      refine (eqb_same _ _ (ended ls) _ (Reads.below (Hy.out) hB6) hr6).mono ?_
      rintro e w7 ⟨rfl, hb7⟩
      have hB7 : Below w4.heap.size w4 w7 := hB6.trans (hb7.mono hB6.size)
      clear hr6 hb6 hb7 hB5 hB6
      have hx8 := Reads.below (Hx.out) hB7
      have hsh8 := sh_below (Hsh.out) hB7
      have hb8 := Reads.below (Hb.out) hB7
      go_wp2_with fail
      refine (linesOf _ bs _ (by rw [hN]; exact hb8) hsh8 (by omega)).mono ?_
      rintro e w9 ⟨g9, c9, rfl, hr9, hb9⟩
      have hB9 : Below w4.heap.size w4 w9 := hB7.trans (hb9.mono hB7.size)
      go_wp2_with fail
      refine (equal_same _ _ (lines bs) (lines bs) _ (hx8.below hb9) hr9 rfl).mono ?_
      rintro e w10 ⟨rfl, hb10⟩
      have hB10 : Below w4.heap.size w4 w10 := hB9.trans (hb10.mono hB9.size)
      have HF : Hid _ := (HB4.out).trans (hB10.mono (HB4.out).size)
      clear hb10 hB10 hb9 hB9 hr9 hx8 hsh8 hb8
      go_wp2_with fail
      go_ret
      exact ⟨rfl, HF.out⟩

set_option maxRecDepth 100000 in
set_option maxHeartbeats 4000000 in
theorem says_Bg0 (ab al : Option Addr) (cb cl : Nat) (bs : List UInt8) (ls : List (List UInt8)) (p : Int) (w : World) (hb : Reads w (.slice ab bs.length cb) bs.length (bs.map U)) (hl : Reads w (.slice al ls.length cl) ls.length (ls.map S)) (hsz : ∀ s ∈ ls, s.length ≤ 9223372036854775807) (hsh : w.ShapedOpen Tryd.prog) (hLm : ls.length ≤ 9223372036854775807) (hbm : bs.length ≤ 9223372036854775807) (hn : bs.length ≤ 4000) (hp0 : 5 < p) (HB : Hid (bad 4000 ls = 0)) :
    Calls Tryd.prog 3 #[.slice ab bs.length cb, .slice al ls.length cl, .int .i64 p] w fun e w' => e = .returned (.bool true) ∧ Below w.heap.size w w' := by
  have hp : p < 1 ∨ 5 < p := by omega
  have hpn : ¬ p < 1 := by omega
  go_enter Tryd.func3, Tryd.ntmps3
  go_wp2_with fail
  refine (of_fine _ bs _ hb hn).mono ?_
  rintro e w1 ⟨xo, xc, rfl, hx1, hB1⟩
  go_wp2_with fail
  refine (bytes_fine _ ls _ (hl.below hB1) hsz HB.out).mono ?_
  rintro e w2 ⟨y, rfl, hy2, hb2⟩
  have hB2 : Below w.heap.size w w2 := hB1.trans (hb2.mono hB1.size)
  go_wp2_with fail
  refine (split_range _ bs p _ (hb.below hB2) hn hp).mono ?_
  rintro e w3 ⟨rfl, hb3⟩
  have hB3 : Below w.heap.size w w3 := hB2.trans (hb3.mono hB2.size)
  go_wp2_with fail
  refine (lined_true _).mono ?_
  rintro e w4 ⟨rfl, hb4⟩
  have hB4 : Below w.heap.size w w4 := hB3.trans (hb4.mono hB3.size)
  have hB24 : Below w2.heap.size w2 w4 := hb3.trans (hb4.mono hb3.size)
  have HB4 : Hid _ := hB4
  have Hb : Hid _ := hb.below hB4
  have hl4 := hl.below hB4
  have Hl : Hid _ := hl4
  have Hsh : Hid _ := sh_below hsh hB4
  have Hy : Hid _ := hy2.below hB24
  clear hy2
  have Hx : Hid _ := (hx1.below hb2).below hB24
  clear hx1
  clear hB1 hb2 hB2 hb3 hB3 hb4 hB4 hB24 hb hl hsh
  obtain ⟨-, al', cl', e4, -, -, hl5⟩ := hl4
  simp only [Value.slice.injEq, true_and] at e4
  obtain ⟨rfl, rfl⟩ := e4
  have hcv := fun (W : World) (s : ByteArray) => run_bytes_of_string (P := Tryd.prog) W 9 22 5 s Tryd.underlying9 Tryd.underlying22 Tryd.underlying5
  generalize hL : ls.length = L at *
  generalize hN : bs.length = N at *
  go_wp2_with fail
  go_loopw [13, 14, 37] (fun s13 s14 i wr => ∃ k nn : Nat, k ≤ L ∧ nn ≤ 4000 ∧ i = .int .i64 k ∧ s13 = .int .i64 0 ∧ s14 = .int .i64 nn ∧ Below w4.heap.size w4 wr ∧ Hid (bad 4000 ls = bad (4000 - nn) (ls.drop k)))
    (fun _ _ i _ => L - (intOf i).toNat)
  case atStart => exact ⟨0, 0, Nat.zero_le _, Nat.zero_le _, rfl, rfl, rfl, Below.refl _ _, rfl⟩
  case round =>
    obtain ⟨k, nn, hk, hnn, rfl, rfl, rfl, hbel, hbad⟩ := hrel
    by_cases hlt : k < L
    · obtain ⟨b, off, rfl, hc⟩ := hl5 (by omega)
      have hcell : wr.cell? ⟨b, off + k, none⟩ = some (.string ⟨(ls[k]'(by omega)).toArray⟩) := (hbel.cell (World.block_lt_of_cell? w4 _ (hc k (S (ls[k]'(by omega))) (by simp [hL, hlt])))).trans (hc k _ (by simp [S, hL, hlt]))
      have hstep : Hid _ := bad_step ls k (4000 - nn) (by omega)
      have hszk := hsz (ls[k]'(by omega)) (List.getElem_mem _)
      clear hc hl5 hsz
      generalize hl' : ls[k]'(by omega) = l at *
      clear hl'
      obtain ⟨sx, hsx⟩ : ∃ sx : ByteArray, sx = ⟨l.toArray⟩ := ⟨_, rfl⟩
      have hsz' : sx.size = l.length := by rw [hsx]; simp [ByteArray.size]
      have hdx : sx.data.toList = l := by rw [hsx]
      have hrdx : Reads (wr.alloc (.cells (bytesRow sx (grownCap wr sx.size 0 5)) 5 ((bytesRow sx (grownCap wr sx.size 0 5)).size, (bytesRow sx (grownCap wr sx.size 0 5)).size + 1))).drew (.slice (some ⟨wr.heap.size, 0, none⟩) sx.size (grownCap wr sx.size 0 5)) l.length (l.map U) := by
        have h := (reads_bytes wr sx (grownCap wr sx.size 0 5) ((bytesRow sx (grownCap wr sx.size 0 5)).size, (bytesRow sx (grownCap wr sx.size 0 5)).size + 1) (grownCap_ge _ _ _ _) (grownCap_le_maxLen _ _ _ _ (by unfold maxLen; omega))).below (Below.refl _ _).drew
        rw [hdx] at h
        rw [← hsz']
        exact h
      have hBx : Below w4.heap.size w4 (wr.alloc (.cells (bytesRow sx (grownCap wr sx.size 0 5)) 5 ((bytesRow sx (grownCap wr sx.size 0 5)).size, (bytesRow sx (grownCap wr sx.size 0 5)).size + 1))).drew := (hbel.alloc hbel.size _).drew
      rw [← hsx] at hcell
      have Hsz : Hid _ := hsz'
      have Hrdx : Hid _ := hrdx
      have HBx : Hid _ := hBx
      have hszk' : sx.size ≤ 9223372036854775807 := by omega
      clear hsx hsz' hdx hrdx hBx hszk
      by_cases hf : (10 : UInt8) ∈ l
      · have h4 : bad 4000 ls = 4 := by rw [hbad.out, hstep.out, if_pos hf]
        exact absurd (h4.symm.trans HB.out) (by decide)
      · by_cases hlr : 4000 - nn ≤ l.length
        · have h4 : bad 4000 ls = 2 := by rw [hbad.out, hstep.out, if_neg hf, if_pos hlr]
          exact absurd (h4.symm.trans HB.out) (by decide)
        · have hlr' : sx.size < 4000 - nn := by rw [Hsz.out]; omega
          have Hb' : Hid (bad 4000 ls = bad (4000 - (nn + (sx.size + 1))) (ls.drop (k + 1))) := by
            show _ = _
            rw [hbad.out, hstep.out, if_neg hf, if_neg hlr, Hsz.out, Nat.sub_sub]
          clear hstep hbad hlr
          go_wp2_with fail
          refine (contains_feed _ l _ Hrdx.out false (by simp [hf])).mono ?_
          rintro e w5 ⟨rfl, hw5⟩
          have hB5 : Below w4.heap.size w4 w5 := by rw [hw5]; exact HBx.out
          clear hw5 HBx Hrdx hcell hbel
          clear hf
          go_wp2_with fail
          go_roundw
          case rel => exact ⟨k + 1, nn + (sx.size + 1), by omega, by omega, by go_num, rfl, by go_num, hB5, Hb'⟩
          case measure => simp [intOf]; omega
    · clear hl5 hsz
      have hkn : k = L := by omega
      subst hkn
      have hB5 := hbel
      clear hbel hbad
      go_wp2_with fail
      have hle' : Hid _ := (bad_ok ls 4000 HB.out).1
      refine (bytesOf _ ls _ (by rw [hL]; exact Reads.below (Hl.out) hB5) (by have := hle'.out; omega)).mono ?_
      rintro e w6 ⟨r6, rfl, hr6, hb6⟩
      have hB6 : Below w4.heap.size w4 w6 := hB5.trans (hb6.mono hB5.size)
      go_wp2_with fail
      refine (eqb_same _ _ (ended ls) _ (Reads.below (Hy.out) hB6) hr6).mono ?_
      rintro e w7 ⟨rfl, hb7⟩
      have hB7 : Below w4.heap.size w4 w7 := hB6.trans (hb7.mono hB6.size)
      clear hr6 hb6 hb7 hB5 hB6
      have hx8 := Reads.below (Hx.out) hB7
      have hsh8 := sh_below (Hsh.out) hB7
      have hb8 := Reads.below (Hb.out) hB7
      go_wp2_with fail
      refine (linesOf _ bs _ (by rw [hN]; exact hb8) hsh8 (by omega)).mono ?_
      rintro e w9 ⟨g9, c9, rfl, hr9, hb9⟩
      have hB9 : Below w4.heap.size w4 w9 := hB7.trans (hb9.mono hB7.size)
      go_wp2_with fail
      refine (equal_same _ _ (lines bs) (lines bs) _ (hx8.below hb9) hr9 rfl).mono ?_
      rintro e w10 ⟨rfl, hb10⟩
      have hB10 : Below w4.heap.size w4 w10 := hB9.trans (hb10.mono hB9.size)
      have HF : Hid _ := (HB4.out).trans (hB10.mono (HB4.out).size)
      clear hb10 hB10 hb9 hB9 hr9 hx8 hsh8 hb8
      go_wp2_with fail
      go_ret
      exact ⟨rfl, HF.out⟩

set_option maxRecDepth 100000 in
set_option maxHeartbeats 4000000 in
theorem says_Bl2 (ab al : Option Addr) (cb cl : Nat) (bs : List UInt8) (ls : List (List UInt8)) (p : Int) (w : World) (hb : Reads w (.slice ab bs.length cb) bs.length (bs.map U)) (hl : Reads w (.slice al ls.length cl) ls.length (ls.map S)) (hsz : ∀ s ∈ ls, s.length ≤ 9223372036854775807) (hsh : w.ShapedOpen Tryd.prog) (hLm : ls.length ≤ 9223372036854775807) (hbm : bs.length ≤ 9223372036854775807) (hn : bs.length ≤ 4000) (hp0 : p < 1) (HB : Hid (bad 4000 ls = 2)) :
    Calls Tryd.prog 3 #[.slice ab bs.length cb, .slice al ls.length cl, .int .i64 p] w fun e w' => e = .returned (.bool true) ∧ Below w.heap.size w w' := by
  have hp : p < 1 ∨ 5 < p := by omega
  go_enter Tryd.func3, Tryd.ntmps3
  go_wp2_with fail
  refine (of_fine _ bs _ hb hn).mono ?_
  rintro e w1 ⟨xo, xc, rfl, hx1, hB1⟩
  go_wp2_with fail
  refine (bytes_err _ ls _ (hl.below hB1) hsz (by rw [HB.out]; decide)).mono ?_
  rintro e w2 ⟨rfl, hw2⟩
  have hb2 : Below w1.heap.size w1 w2 := by rw [hw2]; exact Below.refl _ _
  have hB2 : Below w.heap.size w w2 := hB1.trans (hb2.mono hB1.size)
  clear hw2
  rw [HB.out]
  go_wp2_with fail
  refine (split_range _ bs p _ (hb.below hB2) hn hp).mono ?_
  rintro e w3 ⟨rfl, hb3⟩
  have hB3 : Below w.heap.size w w3 := hB2.trans (hb3.mono hB2.size)
  go_wp2_with fail
  refine (lined_true _).mono ?_
  rintro e w4 ⟨rfl, hb4⟩
  have hB4 : Below w.heap.size w w4 := hB3.trans (hb4.mono hB3.size)
  have hB24 : Below w2.heap.size w2 w4 := hb3.trans (hb4.mono hb3.size)
  have HB4 : Hid _ := hB4
  have Hb : Hid _ := hb.below hB4
  have hl4 := hl.below hB4
  have Hl : Hid _ := hl4
  have Hsh : Hid _ := sh_below hsh hB4
  have Hx : Hid _ := (hx1.below hb2).below hB24
  clear hx1
  clear hB1 hb2 hB2 hb3 hB3 hb4 hB4 hB24 hb hl hsh
  obtain ⟨-, al', cl', e4, -, -, hl5⟩ := hl4
  simp only [Value.slice.injEq, true_and] at e4
  obtain ⟨rfl, rfl⟩ := e4
  have hcv := fun (W : World) (s : ByteArray) => run_bytes_of_string (P := Tryd.prog) W 9 22 5 s Tryd.underlying9 Tryd.underlying22 Tryd.underlying5
  generalize hL : ls.length = L at *
  generalize hN : bs.length = N at *
  go_wp2_with fail
  go_loopw [13, 14, 37] (fun s13 s14 i wr => ∃ k nn : Nat, k ≤ L ∧ nn ≤ 4000 ∧ i = .int .i64 k ∧ s13 = .int .i64 0 ∧ s14 = .int .i64 nn ∧ Below w4.heap.size w4 wr ∧ Hid (bad 4000 ls = bad (4000 - nn) (ls.drop k)))
    (fun _ _ i _ => L - (intOf i).toNat)
  case atStart => exact ⟨0, 0, Nat.zero_le _, Nat.zero_le _, rfl, rfl, rfl, Below.refl _ _, rfl⟩
  case round =>
    obtain ⟨k, nn, hk, hnn, rfl, rfl, rfl, hbel, hbad⟩ := hrel
    by_cases hlt : k < L
    · obtain ⟨b, off, rfl, hc⟩ := hl5 (by omega)
      have hcell : wr.cell? ⟨b, off + k, none⟩ = some (.string ⟨(ls[k]'(by omega)).toArray⟩) := (hbel.cell (World.block_lt_of_cell? w4 _ (hc k (S (ls[k]'(by omega))) (by simp [hL, hlt])))).trans (hc k _ (by simp [S, hL, hlt]))
      have hstep : Hid _ := bad_step ls k (4000 - nn) (by omega)
      have hszk := hsz (ls[k]'(by omega)) (List.getElem_mem _)
      clear hc hl5 hsz
      generalize hl' : ls[k]'(by omega) = l at *
      clear hl'
      obtain ⟨sx, hsx⟩ : ∃ sx : ByteArray, sx = ⟨l.toArray⟩ := ⟨_, rfl⟩
      have hsz' : sx.size = l.length := by rw [hsx]; simp [ByteArray.size]
      have hdx : sx.data.toList = l := by rw [hsx]
      have hrdx : Reads (wr.alloc (.cells (bytesRow sx (grownCap wr sx.size 0 5)) 5 ((bytesRow sx (grownCap wr sx.size 0 5)).size, (bytesRow sx (grownCap wr sx.size 0 5)).size + 1))).drew (.slice (some ⟨wr.heap.size, 0, none⟩) sx.size (grownCap wr sx.size 0 5)) l.length (l.map U) := by
        have h := (reads_bytes wr sx (grownCap wr sx.size 0 5) ((bytesRow sx (grownCap wr sx.size 0 5)).size, (bytesRow sx (grownCap wr sx.size 0 5)).size + 1) (grownCap_ge _ _ _ _) (grownCap_le_maxLen _ _ _ _ (by unfold maxLen; omega))).below (Below.refl _ _).drew
        rw [hdx] at h
        rw [← hsz']
        exact h
      have hBx : Below w4.heap.size w4 (wr.alloc (.cells (bytesRow sx (grownCap wr sx.size 0 5)) 5 ((bytesRow sx (grownCap wr sx.size 0 5)).size, (bytesRow sx (grownCap wr sx.size 0 5)).size + 1))).drew := (hbel.alloc hbel.size _).drew
      rw [← hsx] at hcell
      have Hsz : Hid _ := hsz'
      have Hrdx : Hid _ := hrdx
      have HBx : Hid _ := hBx
      have hszk' : sx.size ≤ 9223372036854775807 := by omega
      clear hsx hsz' hdx hrdx hBx hszk
      by_cases hf : (10 : UInt8) ∈ l
      · have h4 : bad 4000 ls = 4 := by rw [hbad.out, hstep.out, if_pos hf]
        exact absurd (h4.symm.trans HB.out) (by decide)
      · by_cases hlr : 4000 - nn ≤ l.length
        · have hlr' : 4000 - nn ≤ sx.size := by rw [Hsz.out]; exact hlr
          clear hstep hbad hlr
          go_wp2_with fail
          refine (contains_feed _ l _ Hrdx.out false (by simp [hf])).mono ?_
          rintro e w5 ⟨rfl, hw5⟩
          have hB5 : Below w4.heap.size w4 w5 := by rw [hw5]; exact HBx.out
          clear hw5 HBx Hrdx hcell hbel
          clear hf
          have hx8 := Reads.below (Hx.out) hB5
          have hsh8 := sh_below (Hsh.out) hB5
          have hb8 := Reads.below (Hb.out) hB5
          go_wp2_with fail
          refine (linesOf _ bs _ (by rw [hN]; exact hb8) hsh8 (by omega)).mono ?_
          rintro e w9 ⟨g9, c9, rfl, hr9, hb9⟩
          have hB9 : Below w4.heap.size w4 w9 := hB5.trans (hb9.mono hB5.size)
          go_wp2_with fail
          refine (equal_same _ _ (lines bs) (lines bs) _ (hx8.below hb9) hr9 rfl).mono ?_
          rintro e w10 ⟨rfl, hb10⟩
          have hB10 : Below w4.heap.size w4 w10 := hB9.trans (hb10.mono hB9.size)
          have HF : Hid _ := (HB4.out).trans (hB10.mono (HB4.out).size)
          clear hb10 hB10 hb9 hB9 hr9 hx8 hsh8 hb8
          go_wp2_with fail
          go_ret
          exact ⟨rfl, HF.out⟩
        · have hlr' : sx.size < 4000 - nn := by rw [Hsz.out]; omega
          have Hb' : Hid (bad 4000 ls = bad (4000 - (nn + (sx.size + 1))) (ls.drop (k + 1))) := by
            show _ = _
            rw [hbad.out, hstep.out, if_neg hf, if_neg hlr, Hsz.out, Nat.sub_sub]
          clear hstep hbad hlr
          go_wp2_with fail
          refine (contains_feed _ l _ Hrdx.out false (by simp [hf])).mono ?_
          rintro e w5 ⟨rfl, hw5⟩
          have hB5 : Below w4.heap.size w4 w5 := by rw [hw5]; exact HBx.out
          clear hw5 HBx Hrdx hcell hbel
          clear hf
          go_wp2_with fail
          go_roundw
          case rel => exact ⟨k + 1, nn + (sx.size + 1), by omega, by omega, by go_num, rfl, by go_num, hB5, Hb'⟩
          case measure => simp [intOf]; omega
    · have h0 : bad 4000 ls = 0 := by
        rw [hbad.out, List.drop_of_length_le (by omega)]
        rfl
      exact absurd (h0.symm.trans HB.out) (by decide)

set_option maxRecDepth 100000 in
set_option maxHeartbeats 4000000 in
theorem says_Bg2 (ab al : Option Addr) (cb cl : Nat) (bs : List UInt8) (ls : List (List UInt8)) (p : Int) (w : World) (hb : Reads w (.slice ab bs.length cb) bs.length (bs.map U)) (hl : Reads w (.slice al ls.length cl) ls.length (ls.map S)) (hsz : ∀ s ∈ ls, s.length ≤ 9223372036854775807) (hsh : w.ShapedOpen Tryd.prog) (hLm : ls.length ≤ 9223372036854775807) (hbm : bs.length ≤ 9223372036854775807) (hn : bs.length ≤ 4000) (hp0 : 5 < p) (HB : Hid (bad 4000 ls = 2)) :
    Calls Tryd.prog 3 #[.slice ab bs.length cb, .slice al ls.length cl, .int .i64 p] w fun e w' => e = .returned (.bool true) ∧ Below w.heap.size w w' := by
  have hp : p < 1 ∨ 5 < p := by omega
  have hpn : ¬ p < 1 := by omega
  go_enter Tryd.func3, Tryd.ntmps3
  go_wp2_with fail
  refine (of_fine _ bs _ hb hn).mono ?_
  rintro e w1 ⟨xo, xc, rfl, hx1, hB1⟩
  go_wp2_with fail
  refine (bytes_err _ ls _ (hl.below hB1) hsz (by rw [HB.out]; decide)).mono ?_
  rintro e w2 ⟨rfl, hw2⟩
  have hb2 : Below w1.heap.size w1 w2 := by rw [hw2]; exact Below.refl _ _
  have hB2 : Below w.heap.size w w2 := hB1.trans (hb2.mono hB1.size)
  clear hw2
  rw [HB.out]
  go_wp2_with fail
  refine (split_range _ bs p _ (hb.below hB2) hn hp).mono ?_
  rintro e w3 ⟨rfl, hb3⟩
  have hB3 : Below w.heap.size w w3 := hB2.trans (hb3.mono hB2.size)
  go_wp2_with fail
  refine (lined_true _).mono ?_
  rintro e w4 ⟨rfl, hb4⟩
  have hB4 : Below w.heap.size w w4 := hB3.trans (hb4.mono hB3.size)
  have hB24 : Below w2.heap.size w2 w4 := hb3.trans (hb4.mono hb3.size)
  have HB4 : Hid _ := hB4
  have Hb : Hid _ := hb.below hB4
  have hl4 := hl.below hB4
  have Hl : Hid _ := hl4
  have Hsh : Hid _ := sh_below hsh hB4
  have Hx : Hid _ := (hx1.below hb2).below hB24
  clear hx1
  clear hB1 hb2 hB2 hb3 hB3 hb4 hB4 hB24 hb hl hsh
  obtain ⟨-, al', cl', e4, -, -, hl5⟩ := hl4
  simp only [Value.slice.injEq, true_and] at e4
  obtain ⟨rfl, rfl⟩ := e4
  have hcv := fun (W : World) (s : ByteArray) => run_bytes_of_string (P := Tryd.prog) W 9 22 5 s Tryd.underlying9 Tryd.underlying22 Tryd.underlying5
  generalize hL : ls.length = L at *
  generalize hN : bs.length = N at *
  go_wp2_with fail
  go_loopw [13, 14, 37] (fun s13 s14 i wr => ∃ k nn : Nat, k ≤ L ∧ nn ≤ 4000 ∧ i = .int .i64 k ∧ s13 = .int .i64 0 ∧ s14 = .int .i64 nn ∧ Below w4.heap.size w4 wr ∧ Hid (bad 4000 ls = bad (4000 - nn) (ls.drop k)))
    (fun _ _ i _ => L - (intOf i).toNat)
  case atStart => exact ⟨0, 0, Nat.zero_le _, Nat.zero_le _, rfl, rfl, rfl, Below.refl _ _, rfl⟩
  case round =>
    obtain ⟨k, nn, hk, hnn, rfl, rfl, rfl, hbel, hbad⟩ := hrel
    by_cases hlt : k < L
    · obtain ⟨b, off, rfl, hc⟩ := hl5 (by omega)
      have hcell : wr.cell? ⟨b, off + k, none⟩ = some (.string ⟨(ls[k]'(by omega)).toArray⟩) := (hbel.cell (World.block_lt_of_cell? w4 _ (hc k (S (ls[k]'(by omega))) (by simp [hL, hlt])))).trans (hc k _ (by simp [S, hL, hlt]))
      have hstep : Hid _ := bad_step ls k (4000 - nn) (by omega)
      have hszk := hsz (ls[k]'(by omega)) (List.getElem_mem _)
      clear hc hl5 hsz
      generalize hl' : ls[k]'(by omega) = l at *
      clear hl'
      obtain ⟨sx, hsx⟩ : ∃ sx : ByteArray, sx = ⟨l.toArray⟩ := ⟨_, rfl⟩
      have hsz' : sx.size = l.length := by rw [hsx]; simp [ByteArray.size]
      have hdx : sx.data.toList = l := by rw [hsx]
      have hrdx : Reads (wr.alloc (.cells (bytesRow sx (grownCap wr sx.size 0 5)) 5 ((bytesRow sx (grownCap wr sx.size 0 5)).size, (bytesRow sx (grownCap wr sx.size 0 5)).size + 1))).drew (.slice (some ⟨wr.heap.size, 0, none⟩) sx.size (grownCap wr sx.size 0 5)) l.length (l.map U) := by
        have h := (reads_bytes wr sx (grownCap wr sx.size 0 5) ((bytesRow sx (grownCap wr sx.size 0 5)).size, (bytesRow sx (grownCap wr sx.size 0 5)).size + 1) (grownCap_ge _ _ _ _) (grownCap_le_maxLen _ _ _ _ (by unfold maxLen; omega))).below (Below.refl _ _).drew
        rw [hdx] at h
        rw [← hsz']
        exact h
      have hBx : Below w4.heap.size w4 (wr.alloc (.cells (bytesRow sx (grownCap wr sx.size 0 5)) 5 ((bytesRow sx (grownCap wr sx.size 0 5)).size, (bytesRow sx (grownCap wr sx.size 0 5)).size + 1))).drew := (hbel.alloc hbel.size _).drew
      rw [← hsx] at hcell
      have Hsz : Hid _ := hsz'
      have Hrdx : Hid _ := hrdx
      have HBx : Hid _ := hBx
      have hszk' : sx.size ≤ 9223372036854775807 := by omega
      clear hsx hsz' hdx hrdx hBx hszk
      by_cases hf : (10 : UInt8) ∈ l
      · have h4 : bad 4000 ls = 4 := by rw [hbad.out, hstep.out, if_pos hf]
        exact absurd (h4.symm.trans HB.out) (by decide)
      · by_cases hlr : 4000 - nn ≤ l.length
        · have hlr' : 4000 - nn ≤ sx.size := by rw [Hsz.out]; exact hlr
          clear hstep hbad hlr
          go_wp2_with fail
          refine (contains_feed _ l _ Hrdx.out false (by simp [hf])).mono ?_
          rintro e w5 ⟨rfl, hw5⟩
          have hB5 : Below w4.heap.size w4 w5 := by rw [hw5]; exact HBx.out
          clear hw5 HBx Hrdx hcell hbel
          clear hf
          have hx8 := Reads.below (Hx.out) hB5
          have hsh8 := sh_below (Hsh.out) hB5
          have hb8 := Reads.below (Hb.out) hB5
          go_wp2_with fail
          refine (linesOf _ bs _ (by rw [hN]; exact hb8) hsh8 (by omega)).mono ?_
          rintro e w9 ⟨g9, c9, rfl, hr9, hb9⟩
          have hB9 : Below w4.heap.size w4 w9 := hB5.trans (hb9.mono hB5.size)
          go_wp2_with fail
          refine (equal_same _ _ (lines bs) (lines bs) _ (hx8.below hb9) hr9 rfl).mono ?_
          rintro e w10 ⟨rfl, hb10⟩
          have hB10 : Below w4.heap.size w4 w10 := hB9.trans (hb10.mono hB9.size)
          have HF : Hid _ := (HB4.out).trans (hB10.mono (HB4.out).size)
          clear hb10 hB10 hb9 hB9 hr9 hx8 hsh8 hb8
          go_wp2_with fail
          go_ret
          exact ⟨rfl, HF.out⟩
        · have hlr' : sx.size < 4000 - nn := by rw [Hsz.out]; omega
          have Hb' : Hid (bad 4000 ls = bad (4000 - (nn + (sx.size + 1))) (ls.drop (k + 1))) := by
            show _ = _
            rw [hbad.out, hstep.out, if_neg hf, if_neg hlr, Hsz.out, Nat.sub_sub]
          clear hstep hbad hlr
          go_wp2_with fail
          refine (contains_feed _ l _ Hrdx.out false (by simp [hf])).mono ?_
          rintro e w5 ⟨rfl, hw5⟩
          have hB5 : Below w4.heap.size w4 w5 := by rw [hw5]; exact HBx.out
          clear hw5 HBx Hrdx hcell hbel
          clear hf
          go_wp2_with fail
          go_roundw
          case rel => exact ⟨k + 1, nn + (sx.size + 1), by omega, by omega, by go_num, rfl, by go_num, hB5, Hb'⟩
          case measure => simp [intOf]; omega
    · have h0 : bad 4000 ls = 0 := by
        rw [hbad.out, List.drop_of_length_le (by omega)]
        rfl
      exact absurd (h0.symm.trans HB.out) (by decide)

set_option maxRecDepth 100000 in
set_option maxHeartbeats 4000000 in
theorem says_Bl4 (ab al : Option Addr) (cb cl : Nat) (bs : List UInt8) (ls : List (List UInt8)) (p : Int) (w : World) (hb : Reads w (.slice ab bs.length cb) bs.length (bs.map U)) (hl : Reads w (.slice al ls.length cl) ls.length (ls.map S)) (hsz : ∀ s ∈ ls, s.length ≤ 9223372036854775807) (hsh : w.ShapedOpen Tryd.prog) (hLm : ls.length ≤ 9223372036854775807) (hbm : bs.length ≤ 9223372036854775807) (hn : bs.length ≤ 4000) (hp0 : p < 1) (HB : Hid (bad 4000 ls = 4)) :
    Calls Tryd.prog 3 #[.slice ab bs.length cb, .slice al ls.length cl, .int .i64 p] w fun e w' => e = .returned (.bool true) ∧ Below w.heap.size w w' := by
  have hp : p < 1 ∨ 5 < p := by omega
  go_enter Tryd.func3, Tryd.ntmps3
  go_wp2_with fail
  refine (of_fine _ bs _ hb hn).mono ?_
  rintro e w1 ⟨xo, xc, rfl, hx1, hB1⟩
  go_wp2_with fail
  refine (bytes_err _ ls _ (hl.below hB1) hsz (by rw [HB.out]; decide)).mono ?_
  rintro e w2 ⟨rfl, hw2⟩
  have hb2 : Below w1.heap.size w1 w2 := by rw [hw2]; exact Below.refl _ _
  have hB2 : Below w.heap.size w w2 := hB1.trans (hb2.mono hB1.size)
  clear hw2
  rw [HB.out]
  go_wp2_with fail
  refine (split_range _ bs p _ (hb.below hB2) hn hp).mono ?_
  rintro e w3 ⟨rfl, hb3⟩
  have hB3 : Below w.heap.size w w3 := hB2.trans (hb3.mono hB2.size)
  go_wp2_with fail
  refine (lined_true _).mono ?_
  rintro e w4 ⟨rfl, hb4⟩
  have hB4 : Below w.heap.size w w4 := hB3.trans (hb4.mono hB3.size)
  have hB24 : Below w2.heap.size w2 w4 := hb3.trans (hb4.mono hb3.size)
  have HB4 : Hid _ := hB4
  have Hb : Hid _ := hb.below hB4
  have hl4 := hl.below hB4
  have Hl : Hid _ := hl4
  have Hsh : Hid _ := sh_below hsh hB4
  have Hx : Hid _ := (hx1.below hb2).below hB24
  clear hx1
  clear hB1 hb2 hB2 hb3 hB3 hb4 hB4 hB24 hb hl hsh
  obtain ⟨-, al', cl', e4, -, -, hl5⟩ := hl4
  simp only [Value.slice.injEq, true_and] at e4
  obtain ⟨rfl, rfl⟩ := e4
  have hcv := fun (W : World) (s : ByteArray) => run_bytes_of_string (P := Tryd.prog) W 9 22 5 s Tryd.underlying9 Tryd.underlying22 Tryd.underlying5
  generalize hL : ls.length = L at *
  generalize hN : bs.length = N at *
  go_wp2_with fail
  go_loopw [13, 14, 37] (fun s13 s14 i wr => ∃ k nn : Nat, k ≤ L ∧ nn ≤ 4000 ∧ i = .int .i64 k ∧ s13 = .int .i64 0 ∧ s14 = .int .i64 nn ∧ Below w4.heap.size w4 wr ∧ Hid (bad 4000 ls = bad (4000 - nn) (ls.drop k)))
    (fun _ _ i _ => L - (intOf i).toNat)
  case atStart => exact ⟨0, 0, Nat.zero_le _, Nat.zero_le _, rfl, rfl, rfl, Below.refl _ _, rfl⟩
  case round =>
    obtain ⟨k, nn, hk, hnn, rfl, rfl, rfl, hbel, hbad⟩ := hrel
    by_cases hlt : k < L
    · obtain ⟨b, off, rfl, hc⟩ := hl5 (by omega)
      have hcell : wr.cell? ⟨b, off + k, none⟩ = some (.string ⟨(ls[k]'(by omega)).toArray⟩) := (hbel.cell (World.block_lt_of_cell? w4 _ (hc k (S (ls[k]'(by omega))) (by simp [hL, hlt])))).trans (hc k _ (by simp [S, hL, hlt]))
      have hstep : Hid _ := bad_step ls k (4000 - nn) (by omega)
      have hszk := hsz (ls[k]'(by omega)) (List.getElem_mem _)
      clear hc hl5 hsz
      generalize hl' : ls[k]'(by omega) = l at *
      clear hl'
      obtain ⟨sx, hsx⟩ : ∃ sx : ByteArray, sx = ⟨l.toArray⟩ := ⟨_, rfl⟩
      have hsz' : sx.size = l.length := by rw [hsx]; simp [ByteArray.size]
      have hdx : sx.data.toList = l := by rw [hsx]
      have hrdx : Reads (wr.alloc (.cells (bytesRow sx (grownCap wr sx.size 0 5)) 5 ((bytesRow sx (grownCap wr sx.size 0 5)).size, (bytesRow sx (grownCap wr sx.size 0 5)).size + 1))).drew (.slice (some ⟨wr.heap.size, 0, none⟩) sx.size (grownCap wr sx.size 0 5)) l.length (l.map U) := by
        have h := (reads_bytes wr sx (grownCap wr sx.size 0 5) ((bytesRow sx (grownCap wr sx.size 0 5)).size, (bytesRow sx (grownCap wr sx.size 0 5)).size + 1) (grownCap_ge _ _ _ _) (grownCap_le_maxLen _ _ _ _ (by unfold maxLen; omega))).below (Below.refl _ _).drew
        rw [hdx] at h
        rw [← hsz']
        exact h
      have hBx : Below w4.heap.size w4 (wr.alloc (.cells (bytesRow sx (grownCap wr sx.size 0 5)) 5 ((bytesRow sx (grownCap wr sx.size 0 5)).size, (bytesRow sx (grownCap wr sx.size 0 5)).size + 1))).drew := (hbel.alloc hbel.size _).drew
      rw [← hsx] at hcell
      have Hsz : Hid _ := hsz'
      have Hrdx : Hid _ := hrdx
      have HBx : Hid _ := hBx
      have hszk' : sx.size ≤ 9223372036854775807 := by omega
      clear hsx hsz' hdx hrdx hBx hszk
      by_cases hf : (10 : UInt8) ∈ l
      · clear hstep hbad
        go_wp2_with fail
        refine (contains_feed _ l _ Hrdx.out true (by simp [hf])).mono ?_
        rintro e w5 ⟨rfl, hw5⟩
        have hB5 : Below w4.heap.size w4 w5 := by rw [hw5]; exact HBx.out
        clear hw5 HBx Hrdx hcell hbel
        clear hf
        have hx8 := Reads.below (Hx.out) hB5
        have hsh8 := sh_below (Hsh.out) hB5
        have hb8 := Reads.below (Hb.out) hB5
        go_wp2_with fail
        refine (linesOf _ bs _ (by rw [hN]; exact hb8) hsh8 (by omega)).mono ?_
        rintro e w9 ⟨g9, c9, rfl, hr9, hb9⟩
        have hB9 : Below w4.heap.size w4 w9 := hB5.trans (hb9.mono hB5.size)
        go_wp2_with fail
        refine (equal_same _ _ (lines bs) (lines bs) _ (hx8.below hb9) hr9 rfl).mono ?_
        rintro e w10 ⟨rfl, hb10⟩
        have hB10 : Below w4.heap.size w4 w10 := hB9.trans (hb10.mono hB9.size)
        have HF : Hid _ := (HB4.out).trans (hB10.mono (HB4.out).size)
        clear hb10 hB10 hb9 hB9 hr9 hx8 hsh8 hb8
        go_wp2_with fail
        go_ret
        exact ⟨rfl, HF.out⟩
      · by_cases hlr : 4000 - nn ≤ l.length
        · have h4 : bad 4000 ls = 2 := by rw [hbad.out, hstep.out, if_neg hf, if_pos hlr]
          exact absurd (h4.symm.trans HB.out) (by decide)
        · have hlr' : sx.size < 4000 - nn := by rw [Hsz.out]; omega
          have Hb' : Hid (bad 4000 ls = bad (4000 - (nn + (sx.size + 1))) (ls.drop (k + 1))) := by
            show _ = _
            rw [hbad.out, hstep.out, if_neg hf, if_neg hlr, Hsz.out, Nat.sub_sub]
          clear hstep hbad hlr
          go_wp2_with fail
          refine (contains_feed _ l _ Hrdx.out false (by simp [hf])).mono ?_
          rintro e w5 ⟨rfl, hw5⟩
          have hB5 : Below w4.heap.size w4 w5 := by rw [hw5]; exact HBx.out
          clear hw5 HBx Hrdx hcell hbel
          clear hf
          go_wp2_with fail
          go_roundw
          case rel => exact ⟨k + 1, nn + (sx.size + 1), by omega, by omega, by go_num, rfl, by go_num, hB5, Hb'⟩
          case measure => simp [intOf]; omega
    · have h0 : bad 4000 ls = 0 := by
        rw [hbad.out, List.drop_of_length_le (by omega)]
        rfl
      exact absurd (h0.symm.trans HB.out) (by decide)

set_option maxRecDepth 100000 in
set_option maxHeartbeats 4000000 in
theorem says_Bg4 (ab al : Option Addr) (cb cl : Nat) (bs : List UInt8) (ls : List (List UInt8)) (p : Int) (w : World) (hb : Reads w (.slice ab bs.length cb) bs.length (bs.map U)) (hl : Reads w (.slice al ls.length cl) ls.length (ls.map S)) (hsz : ∀ s ∈ ls, s.length ≤ 9223372036854775807) (hsh : w.ShapedOpen Tryd.prog) (hLm : ls.length ≤ 9223372036854775807) (hbm : bs.length ≤ 9223372036854775807) (hn : bs.length ≤ 4000) (hp0 : 5 < p) (HB : Hid (bad 4000 ls = 4)) :
    Calls Tryd.prog 3 #[.slice ab bs.length cb, .slice al ls.length cl, .int .i64 p] w fun e w' => e = .returned (.bool true) ∧ Below w.heap.size w w' := by
  have hp : p < 1 ∨ 5 < p := by omega
  have hpn : ¬ p < 1 := by omega
  go_enter Tryd.func3, Tryd.ntmps3
  go_wp2_with fail
  refine (of_fine _ bs _ hb hn).mono ?_
  rintro e w1 ⟨xo, xc, rfl, hx1, hB1⟩
  go_wp2_with fail
  refine (bytes_err _ ls _ (hl.below hB1) hsz (by rw [HB.out]; decide)).mono ?_
  rintro e w2 ⟨rfl, hw2⟩
  have hb2 : Below w1.heap.size w1 w2 := by rw [hw2]; exact Below.refl _ _
  have hB2 : Below w.heap.size w w2 := hB1.trans (hb2.mono hB1.size)
  clear hw2
  rw [HB.out]
  go_wp2_with fail
  refine (split_range _ bs p _ (hb.below hB2) hn hp).mono ?_
  rintro e w3 ⟨rfl, hb3⟩
  have hB3 : Below w.heap.size w w3 := hB2.trans (hb3.mono hB2.size)
  go_wp2_with fail
  refine (lined_true _).mono ?_
  rintro e w4 ⟨rfl, hb4⟩
  have hB4 : Below w.heap.size w w4 := hB3.trans (hb4.mono hB3.size)
  have hB24 : Below w2.heap.size w2 w4 := hb3.trans (hb4.mono hb3.size)
  have HB4 : Hid _ := hB4
  have Hb : Hid _ := hb.below hB4
  have hl4 := hl.below hB4
  have Hl : Hid _ := hl4
  have Hsh : Hid _ := sh_below hsh hB4
  have Hx : Hid _ := (hx1.below hb2).below hB24
  clear hx1
  clear hB1 hb2 hB2 hb3 hB3 hb4 hB4 hB24 hb hl hsh
  obtain ⟨-, al', cl', e4, -, -, hl5⟩ := hl4
  simp only [Value.slice.injEq, true_and] at e4
  obtain ⟨rfl, rfl⟩ := e4
  have hcv := fun (W : World) (s : ByteArray) => run_bytes_of_string (P := Tryd.prog) W 9 22 5 s Tryd.underlying9 Tryd.underlying22 Tryd.underlying5
  generalize hL : ls.length = L at *
  generalize hN : bs.length = N at *
  go_wp2_with fail
  go_loopw [13, 14, 37] (fun s13 s14 i wr => ∃ k nn : Nat, k ≤ L ∧ nn ≤ 4000 ∧ i = .int .i64 k ∧ s13 = .int .i64 0 ∧ s14 = .int .i64 nn ∧ Below w4.heap.size w4 wr ∧ Hid (bad 4000 ls = bad (4000 - nn) (ls.drop k)))
    (fun _ _ i _ => L - (intOf i).toNat)
  case atStart => exact ⟨0, 0, Nat.zero_le _, Nat.zero_le _, rfl, rfl, rfl, Below.refl _ _, rfl⟩
  case round =>
    obtain ⟨k, nn, hk, hnn, rfl, rfl, rfl, hbel, hbad⟩ := hrel
    by_cases hlt : k < L
    · obtain ⟨b, off, rfl, hc⟩ := hl5 (by omega)
      have hcell : wr.cell? ⟨b, off + k, none⟩ = some (.string ⟨(ls[k]'(by omega)).toArray⟩) := (hbel.cell (World.block_lt_of_cell? w4 _ (hc k (S (ls[k]'(by omega))) (by simp [hL, hlt])))).trans (hc k _ (by simp [S, hL, hlt]))
      have hstep : Hid _ := bad_step ls k (4000 - nn) (by omega)
      have hszk := hsz (ls[k]'(by omega)) (List.getElem_mem _)
      clear hc hl5 hsz
      generalize hl' : ls[k]'(by omega) = l at *
      clear hl'
      obtain ⟨sx, hsx⟩ : ∃ sx : ByteArray, sx = ⟨l.toArray⟩ := ⟨_, rfl⟩
      have hsz' : sx.size = l.length := by rw [hsx]; simp [ByteArray.size]
      have hdx : sx.data.toList = l := by rw [hsx]
      have hrdx : Reads (wr.alloc (.cells (bytesRow sx (grownCap wr sx.size 0 5)) 5 ((bytesRow sx (grownCap wr sx.size 0 5)).size, (bytesRow sx (grownCap wr sx.size 0 5)).size + 1))).drew (.slice (some ⟨wr.heap.size, 0, none⟩) sx.size (grownCap wr sx.size 0 5)) l.length (l.map U) := by
        have h := (reads_bytes wr sx (grownCap wr sx.size 0 5) ((bytesRow sx (grownCap wr sx.size 0 5)).size, (bytesRow sx (grownCap wr sx.size 0 5)).size + 1) (grownCap_ge _ _ _ _) (grownCap_le_maxLen _ _ _ _ (by unfold maxLen; omega))).below (Below.refl _ _).drew
        rw [hdx] at h
        rw [← hsz']
        exact h
      have hBx : Below w4.heap.size w4 (wr.alloc (.cells (bytesRow sx (grownCap wr sx.size 0 5)) 5 ((bytesRow sx (grownCap wr sx.size 0 5)).size, (bytesRow sx (grownCap wr sx.size 0 5)).size + 1))).drew := (hbel.alloc hbel.size _).drew
      rw [← hsx] at hcell
      have Hsz : Hid _ := hsz'
      have Hrdx : Hid _ := hrdx
      have HBx : Hid _ := hBx
      have hszk' : sx.size ≤ 9223372036854775807 := by omega
      clear hsx hsz' hdx hrdx hBx hszk
      by_cases hf : (10 : UInt8) ∈ l
      · clear hstep hbad
        go_wp2_with fail
        refine (contains_feed _ l _ Hrdx.out true (by simp [hf])).mono ?_
        rintro e w5 ⟨rfl, hw5⟩
        have hB5 : Below w4.heap.size w4 w5 := by rw [hw5]; exact HBx.out
        clear hw5 HBx Hrdx hcell hbel
        clear hf
        have hx8 := Reads.below (Hx.out) hB5
        have hsh8 := sh_below (Hsh.out) hB5
        have hb8 := Reads.below (Hb.out) hB5
        go_wp2_with fail
        refine (linesOf _ bs _ (by rw [hN]; exact hb8) hsh8 (by omega)).mono ?_
        rintro e w9 ⟨g9, c9, rfl, hr9, hb9⟩
        have hB9 : Below w4.heap.size w4 w9 := hB5.trans (hb9.mono hB5.size)
        go_wp2_with fail
        refine (equal_same _ _ (lines bs) (lines bs) _ (hx8.below hb9) hr9 rfl).mono ?_
        rintro e w10 ⟨rfl, hb10⟩
        have hB10 : Below w4.heap.size w4 w10 := hB9.trans (hb10.mono hB9.size)
        have HF : Hid _ := (HB4.out).trans (hB10.mono (HB4.out).size)
        clear hb10 hB10 hb9 hB9 hr9 hx8 hsh8 hb8
        go_wp2_with fail
        go_ret
        exact ⟨rfl, HF.out⟩
      · by_cases hlr : 4000 - nn ≤ l.length
        · have h4 : bad 4000 ls = 2 := by rw [hbad.out, hstep.out, if_neg hf, if_pos hlr]
          exact absurd (h4.symm.trans HB.out) (by decide)
        · have hlr' : sx.size < 4000 - nn := by rw [Hsz.out]; omega
          have Hb' : Hid (bad 4000 ls = bad (4000 - (nn + (sx.size + 1))) (ls.drop (k + 1))) := by
            show _ = _
            rw [hbad.out, hstep.out, if_neg hf, if_neg hlr, Hsz.out, Nat.sub_sub]
          clear hstep hbad hlr
          go_wp2_with fail
          refine (contains_feed _ l _ Hrdx.out false (by simp [hf])).mono ?_
          rintro e w5 ⟨rfl, hw5⟩
          have hB5 : Below w4.heap.size w4 w5 := by rw [hw5]; exact HBx.out
          clear hw5 HBx Hrdx hcell hbel
          clear hf
          go_wp2_with fail
          go_roundw
          case rel => exact ⟨k + 1, nn + (sx.size + 1), by omega, by omega, by go_num, rfl, by go_num, hB5, Hb'⟩
          case measure => simp [intOf]; omega
    · have h0 : bad 4000 ls = 0 := by
        rw [hbad.out, List.drop_of_length_le (by omega)]
        rfl
      exact absurd (h0.symm.trans HB.out) (by decide)

end Go.Proofs.YtkifihcficobnaaDoor
