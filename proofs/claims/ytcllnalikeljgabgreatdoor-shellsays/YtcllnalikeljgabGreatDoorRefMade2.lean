/- What the reference's Made does to lines: Sort, Count. -/
import Derived.Test.YtcllnalikeljgabGreatDoorRefMade
import Derived.Test.YtcllnalikeljgabGreatDoorOverC
namespace Go.Proofs.YtcllnalikeljgabGreatDoor
open Go.RowKit Go.Gs
set_option linter.unusedVariables false

theorem sortStrings_own (v : Value) (ls : List (List UInt8)) (w : World) (B : Nat) (hB : B ≤ w.heap.size) (hown : w.ownsRow B 9 1 v ls.length (ls.map S)) (hl : ls.length ≤ 1000000) :
    Calls Tryz.prog 94 #[v] w fun e w' => e = .returned (.tuple #[]) ∧ w'.ownsRow B 9 1 v (sortOf ls).length ((sortOf ls).map S) ∧ Below B w w' := by
  rcases own_cases hown with ⟨rfl, rfl⟩ | ⟨g, cap, rfl, hBg, hgw, hcap, hcm, hH⟩
  · refine (Tryz.sort_Strings_none none 0 w).mono ?_
    rintro e w' ⟨rfl, rfl⟩
    exact ⟨rfl, by simpa [sortOf] using World.ownsRow_nil w' B 9 1, Below.refl _ _⟩
  · refine (Tryz.sort_Strings g 0 cap ls w hH hgw (by omega)).mono ?_
    rintro e w' ⟨rfl, nn, os, rfl⟩
    have hlen : (sortOf ls).length = ls.length := (sortOf_perm ls).length_eq
    refine ⟨rfl, ?_, ?_⟩
    · rw [hlen]
      exact own_sorted hown rfl hlen
    · exact (Below.refl B w).grown (grownBy_sorted _) hB (fun j hj => by cases hj; exact hBg)

set_option maxRecDepth 100000 in
set_option maxHeartbeats 2000000 in
theorem made_sort (al : Option Addr) (cl : Nat) (word : List UInt8) (n : Int) (ls : List (List UInt8)) (w : World) (hl : Reads w (.slice al ls.length cl) ls.length (ls.map S)) (hLm : ls.length ≤ 100000) (hsz : ∀ s ∈ ls, s.length ≤ 100000) (f : Nat → Option (List UInt8)) (hf : ∀ i s, ls[i]? = some s → f i = some s) :
    Calls Tryz.prog 58 #[.agg #[.int .i64 6, .string ⟨word.toArray⟩, .int .i64 n], .slice al ls.length cl] w fun e w' => ∃ r, e = .returned r ∧ Reads w' r (sortOf (M f ls.length)).length ((sortOf (M f ls.length)).map S) ∧ Below w.heap.size w w' := by
  obtain ⟨i0, hi, hz0, hz1, hz2⟩ := info_parts infoStr
  have Hl : Hid _ := hl
  obtain ⟨-, al', cl', e4, -, -, hl5⟩ := hl
  simp only [Value.slice.injEq, true_and] at e4
  obtain ⟨rfl, rfl⟩ := e4
  generalize hL : ls.length = L at *
  go_enter Tryz.func58, Tryz.ntmps58
  go_wp2_with fail
  go_loopw [5, 16] (fun v5 i wr => ∃ k : Nat, k ≤ L ∧ i = .int .i64 k ∧ wr.ownsRow (w.heap.size + 1) 9 1 v5 (M f k).length ((M f k).map S) ∧ Below (w.heap.size + 1) (w.alloc (.cells #[.int .i64 6, .string ⟨word.toArray⟩, .int .i64 n] 59)) wr)
    (fun _ i _ => L - (intOf i).toNat)
  case atStart => exact ⟨0, Nat.zero_le _, rfl, by rw [M_zero]; exact World.ownsRow_nil _ _ _ _, Below.refl _ _⟩
  case round =>
    obtain ⟨k, hk, rfl, hown, hbel⟩ := hrel
    obtain ⟨bx0, bx1, bx2⟩ := box_cells' hbel
    have hMl := M_len f k
    by_cases hlt : k < L
    · obtain ⟨b, off, rfl, hc⟩ := hl5 (by omega)
      have hcell0 : wr.cell? ⟨b, off + k, none⟩ = some (.string ⟨(ls[k]'(by omega)).toArray⟩) := ((below_box' hbel).cell (World.block_lt_of_cell? w _ (hc k (S (ls[k]'(by omega))) (by simp [hL, hlt])))).trans (hc k _ (by simp [S, hL, hlt]))
      have hfk := hf k (ls[k]'(by omega)) (List.getElem?_eq_getElem _)
      obtain ⟨sx, hsx, hcell⟩ : ∃ sx : ByteArray, Hid (Value.string sx = S (ls[k]'(by omega))) ∧ wr.cell? ⟨b, off + k, none⟩ = some (.string sx) := ⟨⟨(ls[k]'(by omega)).toArray⟩, rfl, hcell0⟩
      clear hc hl5 hcell0
      have Hf : Hid _ := M_some hfk
      clear hfk hf
      go_wp2_with ((at_builtin; refine wpList_append_own _ rfl (.tmp 125) (.tmp 127) 37 rfl (w.heap.size + 1) 9 i0 (.string ⟨#[]⟩) 1 16 Tryz.underlying37 hi hz0 hz1 hz2 rfl (by decide) _ _ _ rfl (hown.alloc _) ⟨wr.heap.size, 0, none⟩ 1 1 [.string sx] rfl rfl ?c1 ?c2 ?c3 ?c4 ?c5 ?_))
      case c1 =>
        intro j u hj
        match j, hj with
        | 0, hj => simp at hj; subst hj; simp [Addr.add]
      case c2 => intro u hu; simp at hu; subst hu; rfl
      case c3 => unfold maxLen; omega
      case c4 => omega
      case c5 => have := hbel.size; simp at this; simp; omega
      · intro v' w1 hown' hgrow _
        have R : Hid _ := made_app hown hbel hsx.out hown' hgrow
        clear hown' hgrow hown hbel hcell bx0 bx1 bx2
        go_wp2_with fail
        go_roundw
        case rel => exact ⟨k + 1, by omega, by go_num, by rw [Hf.out]; exact R.out.1, R.out.2⟩
        case measure => simp [intOf]; omega
    · clear hl5
      have hkn : k = L := by omega
      subst hkn
      have HW : Hid (wr.ownsRow (w.heap.size + 1) 9 1 _ (M f k).length ((M f k).map S)) := hown
      have HBl : Hid (Below (w.heap.size + 1) (w.alloc _) wr) := hbel
      clear hbel hown
      go_wp2_with fail
      refine (sortStrings_own _ (M f k) wr (w.heap.size + 1) (by have := HBl.out.size; simpa using this) HW.out (by omega)).mono ?_
      rintro e w2 ⟨rfl, hown2, hbel2⟩
      have HR : Hid _ := Reads.of_owns hown2
      have HB2 : Hid (Below (w.heap.size + 1) (w.alloc _) w2) := HBl.out.trans hbel2
      have HB : Hid _ := below_box' HB2.out
      obtain ⟨bx0, bx1, bx2⟩ := box_cells' HB2.out
      clear hown2 hbel2
      go_wp2_with fail
      go_ret
      exact ⟨_, rfl, HR.out, HB.out⟩
set_option maxRecDepth 100000 in
set_option maxHeartbeats 2000000 in
theorem made_once (al : Option Addr) (cl : Nat) (word : List UInt8) (n : Int) (ls : List (List UInt8)) (w : World) (hl : Reads w (.slice al ls.length cl) ls.length (ls.map S)) (hLm : ls.length ≤ 100000) (hsz : ∀ s ∈ ls, s.length ≤ 100000) (f : Nat → Option (List UInt8)) (hf : ∀ i s, ls[i]? = some s → f i = if i = 0 ∨ ls[i - 1]? ≠ some s then some s else none) :
    Calls Tryz.prog 58 #[.agg #[.int .i64 7, .string ⟨word.toArray⟩, .int .i64 n], .slice al ls.length cl] w fun e w' => ∃ r, e = .returned r ∧ w'.ownsRow (w.heap.size + 1) 9 1 r (M f ls.length).length ((M f ls.length).map S) ∧ Below w.heap.size w w' := by
  obtain ⟨i0, hi, hz0, hz1, hz2⟩ := info_parts infoStr
  have Hl : Hid _ := hl
  obtain ⟨-, al', cl', e4, -, -, hl5⟩ := hl
  simp only [Value.slice.injEq, true_and] at e4
  obtain ⟨rfl, rfl⟩ := e4
  generalize hL : ls.length = L at *
  go_enter Tryz.func58, Tryz.ntmps58
  go_wp2_with fail
  go_loopw [5, 16] (fun v5 i wr => ∃ k : Nat, k ≤ L ∧ i = .int .i64 k ∧ wr.ownsRow (w.heap.size + 1) 9 1 v5 (M f k).length ((M f k).map S) ∧ Below (w.heap.size + 1) (w.alloc (.cells #[.int .i64 7, .string ⟨word.toArray⟩, .int .i64 n] 59)) wr)
    (fun _ i _ => L - (intOf i).toNat)
  case atStart => exact ⟨0, Nat.zero_le _, rfl, by rw [M_zero]; exact World.ownsRow_nil _ _ _ _, Below.refl _ _⟩
  case round =>
    obtain ⟨k, hk, rfl, hown, hbel⟩ := hrel
    obtain ⟨bx0, bx1, bx2⟩ := box_cells' hbel
    have hMl := M_len f k
    by_cases hlt : k < L
    · obtain ⟨b, off, rfl, hc⟩ := hl5 (by omega)
      have hcell0 : wr.cell? ⟨b, off + k, none⟩ = some (.string ⟨(ls[k]'(by omega)).toArray⟩) := ((below_box' hbel).cell (World.block_lt_of_cell? w _ (hc k (S (ls[k]'(by omega))) (by simp [hL, hlt])))).trans (hc k _ (by simp [S, hL, hlt]))
      have hfk := hf k (ls[k]'(by omega)) (List.getElem?_eq_getElem _)
      have hkm : k - 1 < ls.length := by omega
      have hcellp0 : wr.cell? ⟨b, off + (k - 1), none⟩ = some (.string ⟨(ls[k - 1]'hkm).toArray⟩) := ((below_box' hbel).cell (World.block_lt_of_cell? w _ (hc (k - 1) (S (ls[k - 1]'hkm)) (by simp [hkm])))).trans (hc (k - 1) _ (by simp [S, hkm]))
      have hprev : ls[k - 1]? = some (ls[k - 1]'hkm) := List.getElem?_eq_getElem hkm
      obtain ⟨sx, hsx, hcell⟩ : ∃ sx : ByteArray, Hid (Value.string sx = S (ls[k]'(by omega))) ∧ wr.cell? ⟨b, off + k, none⟩ = some (.string sx) := ⟨⟨(ls[k]'(by omega)).toArray⟩, rfl, hcell0⟩
      clear hc hl5 hcell0
      by_cases hk0 : k = 0
      · rw [if_pos (.inl hk0)] at hfk
        have Hf : Hid _ := M_some hfk
        clear hfk hf hcellp0 hprev
        subst hk0
        have hcell1 : wr.cell? ⟨b, off, none⟩ = some (.string sx) := by simpa using hcell
        go_wp2_with ((at_builtin; refine wpList_append_own _ rfl (.tmp 125) (.tmp 127) 37 rfl (w.heap.size + 1) 9 i0 (.string ⟨#[]⟩) 1 16 Tryz.underlying37 hi hz0 hz1 hz2 rfl (by decide) _ _ _ rfl (hown.alloc _) ⟨wr.heap.size, 0, none⟩ 1 1 [.string sx] rfl rfl ?c1 ?c2 ?c3 ?c4 ?c5 ?_))
        case c1 =>
          intro j u hj
          match j, hj with
          | 0, hj => simp at hj; subst hj; simp [Addr.add]
        case c2 => intro u hu; simp at hu; subst hu; rfl
        case c3 => unfold maxLen; omega
        case c4 => omega
        case c5 => have := hbel.size; simp at this; simp; omega
        · intro v' w1 hown' hgrow _
          have R : Hid _ := made_app hown hbel hsx.out hown' hgrow
          clear hown' hgrow hown hbel hcell hcell1 bx0 bx1 bx2
          go_wp2_with fail
          go_roundw
          case rel => exact ⟨0 + 1, by omega, by go_num, by rw [Hf.out]; exact R.out.1, R.out.2⟩
          case measure => simp [intOf]; omega
      · obtain ⟨j, hj⟩ : ∃ j, k = j + 1 := ⟨k - 1, by omega⟩
        have hki : ¬ ((k : Int) = 0) := by omega
        have hkj : (k : Int) - 1 = (j : Int) := by omega
        have hjL : (j : Int) < L := by omega
        have hjk : k - 1 = j := by omega
        obtain ⟨px, hpx, hcellp⟩ : ∃ px : ByteArray, Hid (Value.string px = S (ls[k - 1]'hkm)) ∧ wr.cell? ⟨b, off + (k - 1), none⟩ = some (.string px) := ⟨⟨(ls[k - 1]'hkm).toArray⟩, rfl, hcellp0⟩
        rw [hjk] at hcellp
        have HJ : Hid _ := hj
        clear hcellp0 hjk hj
        by_cases heq : ls[k - 1]'hkm = ls[k]'(by omega)
        · rw [if_neg (by rw [hprev, heq]; simp [hk0])] at hfk
          have Hf : Hid _ := M_none hfk
          obtain rfl : px = sx := by
            have h1 := hpx.out
            rw [heq, ← hsx.out] at h1
            injection h1
          clear hfk hf hprev heq hpx
          go_wp2_with fail
          go_roundw
          case rel => exact ⟨k + 1, by omega, by go_num, by rw [Hf.out]; exact hown, hbel⟩
          case measure => simp [intOf]; omega
        · rw [if_pos (.inr (by rw [hprev]; simpa using heq))] at hfk
          have Hf : Hid _ := M_some hfk
          have hne : ¬ (px = sx) := by
            intro h
            subst h
            have h1 := hpx.out
            rw [hsx.out] at h1
            unfold S at h1
            injection h1 with h1
            injection h1 with h1
            exact heq (List.toArray_inj h1).symm
          have hne' : (px.toList == sx.toList) = false := beq_eq_false_iff_ne.2 (fun h => hne (by
            rw [Lib.toList_data, Lib.toList_data] at h
            cases px; cases sx
            simpa using congrArg List.toArray h))
          have hki' : ((k : Int) == 0) = false := beq_eq_false_iff_ne.2 hki
          clear hfk hf hprev heq hpx hne
          go_wp2_with ((at_builtin; refine wpList_append_own _ rfl (.tmp 125) (.tmp 127) 37 rfl (w.heap.size + 1) 9 i0 (.string ⟨#[]⟩) 1 16 Tryz.underlying37 hi hz0 hz1 hz2 rfl (by decide) _ _ _ rfl (hown.alloc _) ⟨wr.heap.size, 0, none⟩ 1 1 [.string sx] rfl rfl ?c1 ?c2 ?c3 ?c4 ?c5 ?_))
          case c1 =>
            intro j u hj
            match j, hj with
            | 0, hj => simp at hj; subst hj; simp [Addr.add]
          case c2 => intro u hu; simp at hu; subst hu; rfl
          case c3 => unfold maxLen; omega
          case c4 => omega
          case c5 => have := hbel.size; simp at this; simp; omega
          · intro v' w1 hown' hgrow _
            have R : Hid _ := made_app hown hbel hsx.out hown' hgrow
            clear hown' hgrow hown hbel hcell bx0 bx1 bx2
            go_wp2_with fail
            go_roundw
            case rel => exact ⟨k + 1, by omega, by go_num, by rw [Hf.out]; exact R.out.1, R.out.2⟩
            case measure => simp [intOf]; omega
    · clear hl5
      have hkn : k = L := by omega
      subst hkn
      have HB : Hid _ := below_box' hbel
      clear hbel
      go_wp2_with fail
      go_ret
      exact ⟨_, rfl, hown, HB.out⟩
theorem count_start : True := trivial
end Go.Proofs.YtcllnalikeljgabGreatDoor
