/- What the reference's Made does to lines, kind by kind. What the reference's Made does to lines: Sort, Count. -/
import Derived.Test.YtkifihcficobnaaGreatDoorPlainF
import Derived.Test.YtkifihcficobnaaGreatDoorShelf
import Derived.Test.YtkifihcficobnaaGreatDoorOfF
import Derived.WalkKit
import Derived.WalkLawsBesides
import Derived.Outline
import Derived.ChangeAgain
import Derived.Test.YtkifihcficobnaaGreatDoorOverF
namespace Go.Proofs.YtkifihcficobnaaGreatDoor
open Go.RowKit Go.Gs
set_option linter.unusedVariables false

/-- What has been put out of the first k lines. -/
def M (f : Nat → Option (List UInt8)) (k : Nat) : List (List UInt8) := (List.range k).filterMap f
theorem M_zero (f : Nat → Option (List UInt8)) : M f 0 = [] := rfl
theorem M_some {f : Nat → Option (List UInt8)} {k : Nat} {s : List UInt8} (h : f k = some s) : M f (k + 1) = M f k ++ [s] := by
  unfold M
  rw [List.range_succ, List.filterMap_append]
  simp [h]
theorem M_none {f : Nat → Option (List UInt8)} {k : Nat} (h : f k = none) : M f (k + 1) = M f k := by
  unfold M
  rw [List.range_succ, List.filterMap_append]
  simp [h]
theorem M_len (f : Nat → Option (List UInt8)) (k : Nat) : (M f k).length ≤ k := by
  have := List.length_filterMap_le f (List.range k)
  simpa [M] using this

theorem box_cells' {w w1 : World} {a b c : Value} {t : TypeId} (h : Below (w.heap.size + 1) (w.alloc (.cells #[a, b, c] t)) w1) :
    w1.cell? ⟨w.heap.size, 0, none⟩ = some a ∧ w1.cell? ⟨w.heap.size, 1, none⟩ = some b ∧ w1.cell? ⟨w.heap.size, 2, none⟩ = some c := by
  refine ⟨?_, ?_, ?_⟩
  all_goals
    rw [h.cell (by simp), cell_of_row _ _ _ _ _ _ (heap_alloc_new w _)]
    rfl
theorem below_box' {w w1 : World} {o : Obj} (h : Below (w.heap.size + 1) (w.alloc o) w1) : Below w.heap.size w w1 :=
  ((Below.refl _ w).alloc (Nat.le_refl _) o).trans (h.mono (by omega))

theorem sh_belowM {w w' : World} (h : w.ShapedOpen Tryz.prog) (hb : Below w.heap.size w w') : w'.ShapedOpen Tryz.prog :=
  h.keptBut (hb.frame (fun _ => False)) (fun _ hp => hp.elim)
theorem sx_data {sx : ByteArray} {l : List UInt8} (h : Value.string sx = S l) : sx.data.toList = l := by
  unfold S at h
  injection h with h
  rw [h]
theorem sx_size {sx : ByteArray} {l : List UInt8} (h : Value.string sx = S l) : sx.size = l.length := by
  rw [← sx_data h]; exact Array.length_toList.symm

/-- What an append of one line leaves. -/
theorem made_app {w wr w1 : World} {O o : Obj} {v v' : Value} {D : List (List UInt8)} {l : List UInt8} {sx : ByteArray} (hown : wr.ownsRow (w.heap.size + 1) 9 1 v D.length (D.map S)) (hbel : Below (w.heap.size + 1) (w.alloc O) wr) (hsx : Value.string sx = S l)
    (hown' : w1.ownsRow (w.heap.size + 1) 9 1 v' (D.length + 1) (D.map S ++ [.string sx])) (hgrow : (wr.alloc o).grownBy w1 v.ownBlock) :
    w1.ownsRow (w.heap.size + 1) 9 1 v' (D ++ [l]).length ((D ++ [l]).map S) ∧ Below (w.heap.size + 1) (w.alloc O) w1 := by
  have hs : w.heap.size + 1 ≤ wr.heap.size := by have := hbel.size; simpa using this
  refine ⟨by simpa [← hsx] using hown', ?_⟩
  exact (hbel.alloc hs o).grown hgrow (by simp; omega) (fun k hk => (hown.lt k hk).1)

set_option maxRecDepth 100000 in
set_option maxHeartbeats 2000000 in
theorem made_head (al : Option Addr) (cl : Nat) (word : List UInt8) (n : Int) (ls : List (List UInt8)) (w : World) (hl : Reads w (.slice al ls.length cl) ls.length (ls.map S)) (hLm : ls.length ≤ 900000) (hsz : ∀ s ∈ ls, s.length ≤ 900000) (f : Nat → Option (List UInt8)) (hf : ∀ i s, ls[i]? = some s → f i = if (i : Int) < n then some s else none) :
    Calls Tryz.prog 20 #[.agg #[.int .i64 9, .string ⟨word.toArray⟩, .int .i64 n], .slice al ls.length cl] w fun e w' => ∃ r, e = .returned r ∧ w'.ownsRow (w.heap.size + 1) 9 1 r (M f ls.length).length ((M f ls.length).map S) ∧ Below w.heap.size w w' := by
  obtain ⟨i0, hi, hz0, hz1, hz2⟩ := info_parts infoStr
  have Hl : Hid _ := hl
  obtain ⟨-, al', cl', e4, -, -, hl5⟩ := hl
  simp only [Value.slice.injEq, true_and] at e4
  obtain ⟨rfl, rfl⟩ := e4
  generalize hL : ls.length = L at *
  go_enter Tryz.func20, Tryz.ntmps20
  go_wp2_with fail
  go_loopw [5, 16] (fun v5 i wr => ∃ k : Nat, k ≤ L ∧ i = .int .i64 k ∧ wr.ownsRow (w.heap.size + 1) 9 1 v5 (M f k).length ((M f k).map S) ∧ Below (w.heap.size + 1) (w.alloc (.cells #[.int .i64 9, .string ⟨word.toArray⟩, .int .i64 n] 23)) wr)
    (fun _ i _ => L - (intOf i).toNat)
  case atStart => exact ⟨0, Nat.zero_le _, rfl, by rw [M_zero]; exact World.ownsRow_nil _ _ _ _, Below.refl _ _⟩
  case round =>
    obtain ⟨k, hk, rfl, hown, hbel⟩ := hrel
    obtain ⟨bx0, bx1, bx2⟩ := box_cells' hbel
    have hMl := M_len f k
    by_cases hlt : k < L
    · obtain ⟨b, off, rfl, hc⟩ := hl5 (by omega)
      have hcell0 : wr.cell? ⟨b, off + k, none⟩ = some (.string ⟨(ls[k]'(by omega)).toArray⟩) := ((below_box' hbel).cell (World.block_lt_of_cell? w _ (hc k (S (ls[k]'(by omega))) (by simp [hL, hlt])))).trans (hc k _ (by simp [S, hL, hlt]))
      have hfk := hf k (ls[k]'(by omega)) (List.getElem?_eq_getElem _)
      obtain ⟨sx, hsx, hcell⟩ : ∃ sx : ByteArray, Hid (Value.string sx = S (ls[k]'(by omega))) ∧ wr.cell? ⟨b, off + k, none⟩ = some (.string sx) := ⟨⟨(ls[k]'(by omega)).toArray⟩, rfl, hcell0⟩
      clear hc hl5 hcell0
      by_cases hkn : (k : Int) < n
      · rw [if_pos hkn] at hfk
        have Hf : Hid _ := M_some hfk
        clear hfk hf
        go_wp2_with ((at_builtin; refine wpList_append_own _ rfl (.tmp 125) (.tmp 127) 34 rfl (w.heap.size + 1) 9 i0 (.string ⟨#[]⟩) 1 16 Tryz.underlying34 hi hz0 hz1 hz2 rfl (by decide) _ _ _ rfl (hown.alloc _) ⟨wr.heap.size, 0, none⟩ 1 1 [.string sx] rfl rfl ?c1 ?c2 ?c3 ?c4 ?c5 ?_))
        case c1 =>
          intro j u hj
          match j, hj with
          | 0, hj => simp at hj; subst hj; simp [Addr.add]
        case c2 => intro u hu; simp at hu; subst hu; rfl
        case c3 => unfold maxLen; omega
        case c4 => omega
        case c5 => have := hbel.size; simp at this; simp; omega
        · intro v' w1 hown' hgrow _
          have R : Hid _ := made_app hown hbel hsx.out hown' hgrow
          clear hown' hgrow hown hbel hcell bx0 bx1 bx2
          go_wp2_with fail
          go_roundw
          case rel => exact ⟨k + 1, by omega, by go_num, by rw [Hf.out]; exact R.out.1, R.out.2⟩
          case measure => simp [intOf]; omega
      · rw [if_neg hkn] at hfk
        have Hf : Hid _ := M_none hfk
        have hkb : decide ((k : Int) < n) = false := decide_eq_false hkn
        clear hfk hf
        go_wp2_with fail
        go_roundw
        case rel => exact ⟨k + 1, by omega, by go_num, by rw [Hf.out]; exact hown, hbel⟩
        case measure => simp [intOf]; omega
    · clear hl5
      have hkn : k = L := by omega
      subst hkn
      have HB : Hid _ := below_box' hbel
      clear hbel
      go_wp2_with fail
      go_ret
      exact ⟨_, rfl, hown, HB.out⟩
set_option maxRecDepth 100000 in
set_option maxHeartbeats 2000000 in
theorem made_tail (al : Option Addr) (cl : Nat) (word : List UInt8) (n : Int) (ls : List (List UInt8)) (w : World) (hl : Reads w (.slice al ls.length cl) ls.length (ls.map S)) (hLm : ls.length ≤ 900000) (hsz : ∀ s ∈ ls, s.length ≤ 900000) (f : Nat → Option (List UInt8)) (hn1 : 1 ≤ n) (hn2 : n ≤ 1000) (hf : ∀ i s, ls[i]? = some s → f i = if (ls.length : Int) - n ≤ (i : Int) then some s else none) :
    Calls Tryz.prog 20 #[.agg #[.int .i64 10, .string ⟨word.toArray⟩, .int .i64 n], .slice al ls.length cl] w fun e w' => ∃ r, e = .returned r ∧ w'.ownsRow (w.heap.size + 1) 9 1 r (M f ls.length).length ((M f ls.length).map S) ∧ Below w.heap.size w w' := by
  obtain ⟨i0, hi, hz0, hz1, hz2⟩ := info_parts infoStr
  have Hl : Hid _ := hl
  obtain ⟨-, al', cl', e4, -, -, hl5⟩ := hl
  simp only [Value.slice.injEq, true_and] at e4
  obtain ⟨rfl, rfl⟩ := e4
  generalize hL : ls.length = L at *
  go_enter Tryz.func20, Tryz.ntmps20
  go_wp2_with fail
  go_loopw [5, 16] (fun v5 i wr => ∃ k : Nat, k ≤ L ∧ i = .int .i64 k ∧ wr.ownsRow (w.heap.size + 1) 9 1 v5 (M f k).length ((M f k).map S) ∧ Below (w.heap.size + 1) (w.alloc (.cells #[.int .i64 10, .string ⟨word.toArray⟩, .int .i64 n] 23)) wr)
    (fun _ i _ => L - (intOf i).toNat)
  case atStart => exact ⟨0, Nat.zero_le _, rfl, by rw [M_zero]; exact World.ownsRow_nil _ _ _ _, Below.refl _ _⟩
  case round =>
    obtain ⟨k, hk, rfl, hown, hbel⟩ := hrel
    obtain ⟨bx0, bx1, bx2⟩ := box_cells' hbel
    have hMl := M_len f k
    by_cases hlt : k < L
    · obtain ⟨b, off, rfl, hc⟩ := hl5 (by omega)
      have hcell0 : wr.cell? ⟨b, off + k, none⟩ = some (.string ⟨(ls[k]'(by omega)).toArray⟩) := ((below_box' hbel).cell (World.block_lt_of_cell? w _ (hc k (S (ls[k]'(by omega))) (by simp [hL, hlt])))).trans (hc k _ (by simp [S, hL, hlt]))
      have hfk := hf k (ls[k]'(by omega)) (List.getElem?_eq_getElem _)
      obtain ⟨sx, hsx, hcell⟩ : ∃ sx : ByteArray, Hid (Value.string sx = S (ls[k]'(by omega))) ∧ wr.cell? ⟨b, off + k, none⟩ = some (.string sx) := ⟨⟨(ls[k]'(by omega)).toArray⟩, rfl, hcell0⟩
      clear hc hl5 hcell0
      by_cases hkn : (L : Int) - n ≤ (k : Int)
      · rw [if_pos hkn] at hfk
        have Hf : Hid _ := M_some hfk
        skip
        clear hfk hf
        go_wp2_with ((at_builtin; refine wpList_append_own _ rfl (.tmp 125) (.tmp 127) 34 rfl (w.heap.size + 1) 9 i0 (.string ⟨#[]⟩) 1 16 Tryz.underlying34 hi hz0 hz1 hz2 rfl (by decide) _ _ _ rfl (hown.alloc _) ⟨wr.heap.size, 0, none⟩ 1 1 [.string sx] rfl rfl ?c1 ?c2 ?c3 ?c4 ?c5 ?_))
        case c1 =>
          intro j u hj
          match j, hj with
          | 0, hj => simp at hj; subst hj; simp [Addr.add]
        case c2 => intro u hu; simp at hu; subst hu; rfl
        case c3 => unfold maxLen; omega
        case c4 => omega
        case c5 => have := hbel.size; simp at this; simp; omega
        · intro v' w1 hown' hgrow _
          have R : Hid _ := made_app hown hbel hsx.out hown' hgrow
          clear hown' hgrow hown hbel hcell bx0 bx1 bx2
          go_wp2_with fail
          go_roundw
          case rel => exact ⟨k + 1, by omega, by go_num, by rw [Hf.out]; exact R.out.1, R.out.2⟩
          case measure => simp [intOf]; omega
      · rw [if_neg hkn] at hfk
        have Hf : Hid _ := M_none hfk
        have hkb : decide ((L : Int) - n ≤ (k : Int)) = false := decide_eq_false hkn
        clear hfk hf
        go_wp2_with fail
        go_roundw
        case rel => exact ⟨k + 1, by omega, by go_num, by rw [Hf.out]; exact hown, hbel⟩
        case measure => simp [intOf]; omega
    · clear hl5
      have hkn : k = L := by omega
      subst hkn
      have HB : Hid _ := below_box' hbel
      clear hbel
      go_wp2_with fail
      go_ret
      exact ⟨_, rfl, hown, HB.out⟩
set_option maxRecDepth 100000 in
set_option maxHeartbeats 2000000 in
theorem made_keep (al : Option Addr) (cl : Nat) (word : List UInt8) (n : Int) (ls : List (List UInt8)) (w : World) (hl : Reads w (.slice al ls.length cl) ls.length (ls.map S)) (hLm : ls.length ≤ 900000) (hsz : ∀ s ∈ ls, s.length ≤ 900000) (f : Nat → Option (List UInt8)) (hsh : w.ShapedOpen Tryz.prog) (hf : ∀ i s, ls[i]? = some s → f i = if Lib.contains s word = true then some s else none) :
    Calls Tryz.prog 20 #[.agg #[.int .i64 1, .string ⟨word.toArray⟩, .int .i64 n], .slice al ls.length cl] w fun e w' => ∃ r, e = .returned r ∧ w'.ownsRow (w.heap.size + 1) 9 1 r (M f ls.length).length ((M f ls.length).map S) ∧ Below w.heap.size w w' := by
  obtain ⟨i0, hi, hz0, hz1, hz2⟩ := info_parts infoStr
  have Hl : Hid _ := hl
  obtain ⟨-, al', cl', e4, -, -, hl5⟩ := hl
  simp only [Value.slice.injEq, true_and] at e4
  obtain ⟨rfl, rfl⟩ := e4
  generalize hL : ls.length = L at *
  go_enter Tryz.func20, Tryz.ntmps20
  go_wp2_with fail
  go_loopw [5, 16] (fun v5 i wr => ∃ k : Nat, k ≤ L ∧ i = .int .i64 k ∧ wr.ownsRow (w.heap.size + 1) 9 1 v5 (M f k).length ((M f k).map S) ∧ Below (w.heap.size + 1) (w.alloc (.cells #[.int .i64 1, .string ⟨word.toArray⟩, .int .i64 n] 23)) wr)
    (fun _ i _ => L - (intOf i).toNat)
  case atStart => exact ⟨0, Nat.zero_le _, rfl, by rw [M_zero]; exact World.ownsRow_nil _ _ _ _, Below.refl _ _⟩
  case round =>
    obtain ⟨k, hk, rfl, hown, hbel⟩ := hrel
    obtain ⟨bx0, bx1, bx2⟩ := box_cells' hbel
    have hMl := M_len f k
    by_cases hlt : k < L
    · obtain ⟨b, off, rfl, hc⟩ := hl5 (by omega)
      have hcell0 : wr.cell? ⟨b, off + k, none⟩ = some (.string ⟨(ls[k]'(by omega)).toArray⟩) := ((below_box' hbel).cell (World.block_lt_of_cell? w _ (hc k (S (ls[k]'(by omega))) (by simp [hL, hlt])))).trans (hc k _ (by simp [S, hL, hlt]))
      have hfk := hf k (ls[k]'(by omega)) (List.getElem?_eq_getElem _)
      have hshr := sh_belowM hsh (below_box' hbel)
      have hszk := hsz (ls[k]'(by omega)) (List.getElem_mem _)
      obtain ⟨sx, hsx, hcell⟩ : ∃ sx : ByteArray, Hid (Value.string sx = S (ls[k]'(by omega))) ∧ wr.cell? ⟨b, off + k, none⟩ = some (.string sx) := ⟨⟨(ls[k]'(by omega)).toArray⟩, rfl, hcell0⟩
      clear hc hl5 hcell0
      by_cases hkn : Lib.contains (ls[k]'(by omega)) word = true
      · rw [if_pos hkn] at hfk
        have Hf : Hid _ := M_some hfk
        have hct : Lib.contains sx.data.toList word = true := by rw [sx_data hsx.out]; simpa using hkn
        have hsx2 : sx.size < 4294967281 := by rw [sx_size hsx.out]; omega
        clear hfk hf hszk hsz
        go_wp2_with (first | (go_at_call 57; refine (Tryz.strings_Contains_shaped sx _ _ hshr hsx2).mono ?_; rintro e w9 ⟨rfl, hw9⟩; obtain rfl : wr = w9 := hw9.symm) | (at_builtin; refine wpList_append_own _ rfl (.tmp 125) (.tmp 127) 34 rfl (w.heap.size + 1) 9 i0 (.string ⟨#[]⟩) 1 16 Tryz.underlying34 hi hz0 hz1 hz2 rfl (by decide) _ _ _ rfl (hown.alloc _) ⟨wr.heap.size, 0, none⟩ 1 1 [.string sx] rfl rfl ?c1 ?c2 ?c3 ?c4 ?c5 ?_))
        case c1 =>
          intro j u hj
          match j, hj with
          | 0, hj => simp at hj; subst hj; simp [Addr.add]
        case c2 => intro u hu; simp at hu; subst hu; rfl
        case c3 => unfold maxLen; omega
        case c4 => omega
        case c5 => have := hbel.size; simp at this; simp; omega
        · intro v' w1 hown' hgrow _
          have R : Hid _ := made_app hown hbel hsx.out hown' hgrow
          clear hown' hgrow hown hbel hcell bx0 bx1 bx2
          go_wp2_with fail
          go_roundw
          case rel => exact ⟨k + 1, by omega, by go_num, by rw [Hf.out]; exact R.out.1, R.out.2⟩
          case measure => simp [intOf]; omega
      · rw [if_neg hkn] at hfk
        have Hf : Hid _ := M_none hfk
        have hct : Lib.contains sx.data.toList word = false := by rw [sx_data hsx.out]; simpa using hkn
        have hsx2 : sx.size < 4294967281 := by rw [sx_size hsx.out]; omega
        clear hfk hf hszk hsz
        go_wp2_with (go_at_call 57; refine (Tryz.strings_Contains_shaped sx _ _ hshr hsx2).mono ?_; rintro e w9 ⟨rfl, hw9⟩; obtain rfl : wr = w9 := hw9.symm)
        go_roundw
        case rel => exact ⟨k + 1, by omega, by go_num, by rw [Hf.out]; exact hown, hbel⟩
        case measure => simp [intOf]; omega
    · clear hl5
      have hkn : k = L := by omega
      subst hkn
      have HB : Hid _ := below_box' hbel
      clear hbel
      go_wp2_with fail
      go_ret
      exact ⟨_, rfl, hown, HB.out⟩
set_option maxRecDepth 100000 in
set_option maxHeartbeats 2000000 in
theorem made_drop (al : Option Addr) (cl : Nat) (word : List UInt8) (n : Int) (ls : List (List UInt8)) (w : World) (hl : Reads w (.slice al ls.length cl) ls.length (ls.map S)) (hLm : ls.length ≤ 900000) (hsz : ∀ s ∈ ls, s.length ≤ 900000) (f : Nat → Option (List UInt8)) (hsh : w.ShapedOpen Tryz.prog) (hf : ∀ i s, ls[i]? = some s → f i = if ¬ Lib.contains s word = true then some s else none) :
    Calls Tryz.prog 20 #[.agg #[.int .i64 2, .string ⟨word.toArray⟩, .int .i64 n], .slice al ls.length cl] w fun e w' => ∃ r, e = .returned r ∧ w'.ownsRow (w.heap.size + 1) 9 1 r (M f ls.length).length ((M f ls.length).map S) ∧ Below w.heap.size w w' := by
  obtain ⟨i0, hi, hz0, hz1, hz2⟩ := info_parts infoStr
  have Hl : Hid _ := hl
  obtain ⟨-, al', cl', e4, -, -, hl5⟩ := hl
  simp only [Value.slice.injEq, true_and] at e4
  obtain ⟨rfl, rfl⟩ := e4
  generalize hL : ls.length = L at *
  go_enter Tryz.func20, Tryz.ntmps20
  go_wp2_with fail
  go_loopw [5, 16] (fun v5 i wr => ∃ k : Nat, k ≤ L ∧ i = .int .i64 k ∧ wr.ownsRow (w.heap.size + 1) 9 1 v5 (M f k).length ((M f k).map S) ∧ Below (w.heap.size + 1) (w.alloc (.cells #[.int .i64 2, .string ⟨word.toArray⟩, .int .i64 n] 23)) wr)
    (fun _ i _ => L - (intOf i).toNat)
  case atStart => exact ⟨0, Nat.zero_le _, rfl, by rw [M_zero]; exact World.ownsRow_nil _ _ _ _, Below.refl _ _⟩
  case round =>
    obtain ⟨k, hk, rfl, hown, hbel⟩ := hrel
    obtain ⟨bx0, bx1, bx2⟩ := box_cells' hbel
    have hMl := M_len f k
    by_cases hlt : k < L
    · obtain ⟨b, off, rfl, hc⟩ := hl5 (by omega)
      have hcell0 : wr.cell? ⟨b, off + k, none⟩ = some (.string ⟨(ls[k]'(by omega)).toArray⟩) := ((below_box' hbel).cell (World.block_lt_of_cell? w _ (hc k (S (ls[k]'(by omega))) (by simp [hL, hlt])))).trans (hc k _ (by simp [S, hL, hlt]))
      have hfk := hf k (ls[k]'(by omega)) (List.getElem?_eq_getElem _)
      have hshr := sh_belowM hsh (below_box' hbel)
      have hszk := hsz (ls[k]'(by omega)) (List.getElem_mem _)
      obtain ⟨sx, hsx, hcell⟩ : ∃ sx : ByteArray, Hid (Value.string sx = S (ls[k]'(by omega))) ∧ wr.cell? ⟨b, off + k, none⟩ = some (.string sx) := ⟨⟨(ls[k]'(by omega)).toArray⟩, rfl, hcell0⟩
      clear hc hl5 hcell0
      by_cases hkn : ¬ Lib.contains (ls[k]'(by omega)) word = true
      · rw [if_pos hkn] at hfk
        have Hf : Hid _ := M_some hfk
        have hct : Lib.contains sx.data.toList word = false := by rw [sx_data hsx.out]; simpa using hkn
        have hsx2 : sx.size < 4294967281 := by rw [sx_size hsx.out]; omega
        clear hfk hf hszk hsz
        go_wp2_with (first | (go_at_call 57; refine (Tryz.strings_Contains_shaped sx _ _ hshr hsx2).mono ?_; rintro e w9 ⟨rfl, hw9⟩; obtain rfl : wr = w9 := hw9.symm) | (at_builtin; refine wpList_append_own _ rfl (.tmp 125) (.tmp 127) 34 rfl (w.heap.size + 1) 9 i0 (.string ⟨#[]⟩) 1 16 Tryz.underlying34 hi hz0 hz1 hz2 rfl (by decide) _ _ _ rfl (hown.alloc _) ⟨wr.heap.size, 0, none⟩ 1 1 [.string sx] rfl rfl ?c1 ?c2 ?c3 ?c4 ?c5 ?_))
        case c1 =>
          intro j u hj
          match j, hj with
          | 0, hj => simp at hj; subst hj; simp [Addr.add]
        case c2 => intro u hu; simp at hu; subst hu; rfl
        case c3 => unfold maxLen; omega
        case c4 => omega
        case c5 => have := hbel.size; simp at this; simp; omega
        · intro v' w1 hown' hgrow _
          have R : Hid _ := made_app hown hbel hsx.out hown' hgrow
          clear hown' hgrow hown hbel hcell bx0 bx1 bx2
          go_wp2_with fail
          go_roundw
          case rel => exact ⟨k + 1, by omega, by go_num, by rw [Hf.out]; exact R.out.1, R.out.2⟩
          case measure => simp [intOf]; omega
      · rw [if_neg hkn] at hfk
        have Hf : Hid _ := M_none hfk
        have hct : Lib.contains sx.data.toList word = true := by rw [sx_data hsx.out]; simpa using hkn
        have hsx2 : sx.size < 4294967281 := by rw [sx_size hsx.out]; omega
        clear hfk hf hszk hsz
        go_wp2_with (go_at_call 57; refine (Tryz.strings_Contains_shaped sx _ _ hshr hsx2).mono ?_; rintro e w9 ⟨rfl, hw9⟩; obtain rfl : wr = w9 := hw9.symm)
        go_roundw
        case rel => exact ⟨k + 1, by omega, by go_num, by rw [Hf.out]; exact hown, hbel⟩
        case measure => simp [intOf]; omega
    · clear hl5
      have hkn : k = L := by omega
      subst hkn
      have HB : Hid _ := below_box' hbel
      clear hbel
      go_wp2_with fail
      go_ret
      exact ⟨_, rfl, hown, HB.out⟩
end Go.Proofs.YtkifihcficobnaaGreatDoor
namespace Go.Proofs.YtkifihcficobnaaGreatDoor
open Go.RowKit Go.Gs
set_option linter.unusedVariables false

theorem sortStrings_own (v : Value) (ls : List (List UInt8)) (w : World) (B : Nat) (hB : B ≤ w.heap.size) (hown : w.ownsRow B 9 1 v ls.length (ls.map S)) (hl : ls.length ≤ 1000000) :
    Calls Tryz.prog 59 #[v] w fun e w' => e = .returned (.tuple #[]) ∧ w'.ownsRow B 9 1 v (sortOf ls).length ((sortOf ls).map S) ∧ Below B w w' := by
  rcases own_cases hown with ⟨rfl, rfl⟩ | ⟨g, cap, rfl, hBg, hgw, hcap, hcm, hH⟩
  · refine (Tryz.sort_Strings_none none 0 w).mono ?_
    rintro e w' ⟨rfl, rfl⟩
    exact ⟨rfl, by simpa [sortOf] using World.ownsRow_nil w' B 9 1, Below.refl _ _⟩
  · refine (Tryz.sort_Strings g 0 cap ls w hH hgw (by omega)).mono ?_
    rintro e w' ⟨rfl, nn, os, rfl⟩
    have hlen : (sortOf ls).length = ls.length := (sortOf_perm ls).length_eq
    refine ⟨rfl, ?_, ?_⟩
    · rw [hlen]
      exact own_sorted hown rfl hlen
    · exact (Below.refl B w).grown (grownBy_sorted _) hB (fun j hj => by cases hj; exact hBg)

set_option maxRecDepth 100000 in
set_option maxHeartbeats 2000000 in
theorem made_sort (al : Option Addr) (cl : Nat) (word : List UInt8) (n : Int) (ls : List (List UInt8)) (w : World) (hl : Reads w (.slice al ls.length cl) ls.length (ls.map S)) (hLm : ls.length ≤ 900000) (hsz : ∀ s ∈ ls, s.length ≤ 900000) (f : Nat → Option (List UInt8)) (hf : ∀ i s, ls[i]? = some s → f i = some s) :
    Calls Tryz.prog 20 #[.agg #[.int .i64 6, .string ⟨word.toArray⟩, .int .i64 n], .slice al ls.length cl] w fun e w' => ∃ r, e = .returned r ∧ Reads w' r (sortOf (M f ls.length)).length ((sortOf (M f ls.length)).map S) ∧ Below w.heap.size w w' := by
  obtain ⟨i0, hi, hz0, hz1, hz2⟩ := info_parts infoStr
  have Hl : Hid _ := hl
  obtain ⟨-, al', cl', e4, -, -, hl5⟩ := hl
  simp only [Value.slice.injEq, true_and] at e4
  obtain ⟨rfl, rfl⟩ := e4
  generalize hL : ls.length = L at *
  go_enter Tryz.func20, Tryz.ntmps20
  go_wp2_with fail
  go_loopw [5, 16] (fun v5 i wr => ∃ k : Nat, k ≤ L ∧ i = .int .i64 k ∧ wr.ownsRow (w.heap.size + 1) 9 1 v5 (M f k).length ((M f k).map S) ∧ Below (w.heap.size + 1) (w.alloc (.cells #[.int .i64 6, .string ⟨word.toArray⟩, .int .i64 n] 23)) wr)
    (fun _ i _ => L - (intOf i).toNat)
  case atStart => exact ⟨0, Nat.zero_le _, rfl, by rw [M_zero]; exact World.ownsRow_nil _ _ _ _, Below.refl _ _⟩
  case round =>
    obtain ⟨k, hk, rfl, hown, hbel⟩ := hrel
    obtain ⟨bx0, bx1, bx2⟩ := box_cells' hbel
    have hMl := M_len f k
    by_cases hlt : k < L
    · obtain ⟨b, off, rfl, hc⟩ := hl5 (by omega)
      have hcell0 : wr.cell? ⟨b, off + k, none⟩ = some (.string ⟨(ls[k]'(by omega)).toArray⟩) := ((below_box' hbel).cell (World.block_lt_of_cell? w _ (hc k (S (ls[k]'(by omega))) (by simp [hL, hlt])))).trans (hc k _ (by simp [S, hL, hlt]))
      have hfk := hf k (ls[k]'(by omega)) (List.getElem?_eq_getElem _)
      obtain ⟨sx, hsx, hcell⟩ : ∃ sx : ByteArray, Hid (Value.string sx = S (ls[k]'(by omega))) ∧ wr.cell? ⟨b, off + k, none⟩ = some (.string sx) := ⟨⟨(ls[k]'(by omega)).toArray⟩, rfl, hcell0⟩
      clear hc hl5 hcell0
      have Hf : Hid _ := M_some hfk
      clear hfk hf
      go_wp2_with ((at_builtin; refine wpList_append_own _ rfl (.tmp 125) (.tmp 127) 34 rfl (w.heap.size + 1) 9 i0 (.string ⟨#[]⟩) 1 16 Tryz.underlying34 hi hz0 hz1 hz2 rfl (by decide) _ _ _ rfl (hown.alloc _) ⟨wr.heap.size, 0, none⟩ 1 1 [.string sx] rfl rfl ?c1 ?c2 ?c3 ?c4 ?c5 ?_))
      case c1 =>
        intro j u hj
        match j, hj with
        | 0, hj => simp at hj; subst hj; simp [Addr.add]
      case c2 => intro u hu; simp at hu; subst hu; rfl
      case c3 => unfold maxLen; omega
      case c4 => omega
      case c5 => have := hbel.size; simp at this; simp; omega
      · intro v' w1 hown' hgrow _
        have R : Hid _ := made_app hown hbel hsx.out hown' hgrow
        clear hown' hgrow hown hbel hcell bx0 bx1 bx2
        go_wp2_with fail
        go_roundw
        case rel => exact ⟨k + 1, by omega, by go_num, by rw [Hf.out]; exact R.out.1, R.out.2⟩
        case measure => simp [intOf]; omega
    · clear hl5
      have hkn : k = L := by omega
      subst hkn
      have HW : Hid (wr.ownsRow (w.heap.size + 1) 9 1 _ (M f k).length ((M f k).map S)) := hown
      have HBl : Hid (Below (w.heap.size + 1) (w.alloc _) wr) := hbel
      clear hbel hown
      go_wp2_with fail
      refine (sortStrings_own _ (M f k) wr (w.heap.size + 1) (by have := HBl.out.size; simpa using this) HW.out (by omega)).mono ?_
      rintro e w2 ⟨rfl, hown2, hbel2⟩
      have HR : Hid _ := Reads.of_owns hown2
      have HB2 : Hid (Below (w.heap.size + 1) (w.alloc _) w2) := HBl.out.trans hbel2
      have HB : Hid _ := below_box' HB2.out
      obtain ⟨bx0, bx1, bx2⟩ := box_cells' HB2.out
      clear hown2 hbel2
      go_wp2_with fail
      go_ret
      exact ⟨_, rfl, HR.out, HB.out⟩
set_option maxRecDepth 100000 in
set_option maxHeartbeats 2000000 in
theorem made_once (al : Option Addr) (cl : Nat) (word : List UInt8) (n : Int) (ls : List (List UInt8)) (w : World) (hl : Reads w (.slice al ls.length cl) ls.length (ls.map S)) (hLm : ls.length ≤ 900000) (hsz : ∀ s ∈ ls, s.length ≤ 900000) (f : Nat → Option (List UInt8)) (hf : ∀ i s, ls[i]? = some s → f i = if i = 0 ∨ ls[i - 1]? ≠ some s then some s else none) :
    Calls Tryz.prog 20 #[.agg #[.int .i64 7, .string ⟨word.toArray⟩, .int .i64 n], .slice al ls.length cl] w fun e w' => ∃ r, e = .returned r ∧ w'.ownsRow (w.heap.size + 1) 9 1 r (M f ls.length).length ((M f ls.length).map S) ∧ Below w.heap.size w w' := by
  obtain ⟨i0, hi, hz0, hz1, hz2⟩ := info_parts infoStr
  have Hl : Hid _ := hl
  obtain ⟨-, al', cl', e4, -, -, hl5⟩ := hl
  simp only [Value.slice.injEq, true_and] at e4
  obtain ⟨rfl, rfl⟩ := e4
  generalize hL : ls.length = L at *
  go_enter Tryz.func20, Tryz.ntmps20
  go_wp2_with fail
  go_loopw [5, 16] (fun v5 i wr => ∃ k : Nat, k ≤ L ∧ i = .int .i64 k ∧ wr.ownsRow (w.heap.size + 1) 9 1 v5 (M f k).length ((M f k).map S) ∧ Below (w.heap.size + 1) (w.alloc (.cells #[.int .i64 7, .string ⟨word.toArray⟩, .int .i64 n] 23)) wr)
    (fun _ i _ => L - (intOf i).toNat)
  case atStart => exact ⟨0, Nat.zero_le _, rfl, by rw [M_zero]; exact World.ownsRow_nil _ _ _ _, Below.refl _ _⟩
  case round =>
    obtain ⟨k, hk, rfl, hown, hbel⟩ := hrel
    obtain ⟨bx0, bx1, bx2⟩ := box_cells' hbel
    have hMl := M_len f k
    by_cases hlt : k < L
    · obtain ⟨b, off, rfl, hc⟩ := hl5 (by omega)
      have hcell0 : wr.cell? ⟨b, off + k, none⟩ = some (.string ⟨(ls[k]'(by omega)).toArray⟩) := ((below_box' hbel).cell (World.block_lt_of_cell? w _ (hc k (S (ls[k]'(by omega))) (by simp [hL, hlt])))).trans (hc k _ (by simp [S, hL, hlt]))
      have hfk := hf k (ls[k]'(by omega)) (List.getElem?_eq_getElem _)
      have hkm : k - 1 < ls.length := by omega
      have hcellp0 : wr.cell? ⟨b, off + (k - 1), none⟩ = some (.string ⟨(ls[k - 1]'hkm).toArray⟩) := ((below_box' hbel).cell (World.block_lt_of_cell? w _ (hc (k - 1) (S (ls[k - 1]'hkm)) (by simp [hkm])))).trans (hc (k - 1) _ (by simp [S, hkm]))
      have hprev : ls[k - 1]? = some (ls[k - 1]'hkm) := List.getElem?_eq_getElem hkm
      obtain ⟨sx, hsx, hcell⟩ : ∃ sx : ByteArray, Hid (Value.string sx = S (ls[k]'(by omega))) ∧ wr.cell? ⟨b, off + k, none⟩ = some (.string sx) := ⟨⟨(ls[k]'(by omega)).toArray⟩, rfl, hcell0⟩
      clear hc hl5 hcell0
      by_cases hk0 : k = 0
      · rw [if_pos (.inl hk0)] at hfk
        have Hf : Hid _ := M_some hfk
        clear hfk hf hcellp0 hprev
        subst hk0
        have hcell1 : wr.cell? ⟨b, off, none⟩ = some (.string sx) := by simpa using hcell
        go_wp2_with ((at_builtin; refine wpList_append_own _ rfl (.tmp 125) (.tmp 127) 34 rfl (w.heap.size + 1) 9 i0 (.string ⟨#[]⟩) 1 16 Tryz.underlying34 hi hz0 hz1 hz2 rfl (by decide) _ _ _ rfl (hown.alloc _) ⟨wr.heap.size, 0, none⟩ 1 1 [.string sx] rfl rfl ?c1 ?c2 ?c3 ?c4 ?c5 ?_))
        case c1 =>
          intro j u hj
          match j, hj with
          | 0, hj => simp at hj; subst hj; simp [Addr.add]
        case c2 => intro u hu; simp at hu; subst hu; rfl
        case c3 => unfold maxLen; omega
        case c4 => omega
        case c5 => have := hbel.size; simp at this; simp; omega
        · intro v' w1 hown' hgrow _
          have R : Hid _ := made_app hown hbel hsx.out hown' hgrow
          clear hown' hgrow hown hbel hcell hcell1 bx0 bx1 bx2
          go_wp2_with fail
          go_roundw
          case rel => exact ⟨0 + 1, by omega, by go_num, by rw [Hf.out]; exact R.out.1, R.out.2⟩
          case measure => simp [intOf]; omega
      · obtain ⟨j, hj⟩ : ∃ j, k = j + 1 := ⟨k - 1, by omega⟩
        have hki : ¬ ((k : Int) = 0) := by omega
        have hkj : (k : Int) - 1 = (j : Int) := by omega
        have hjL : (j : Int) < L := by omega
        have hjk : k - 1 = j := by omega
        obtain ⟨px, hpx, hcellp⟩ : ∃ px : ByteArray, Hid (Value.string px = S (ls[k - 1]'hkm)) ∧ wr.cell? ⟨b, off + (k - 1), none⟩ = some (.string px) := ⟨⟨(ls[k - 1]'hkm).toArray⟩, rfl, hcellp0⟩
        rw [hjk] at hcellp
        have HJ : Hid _ := hj
        clear hcellp0 hjk hj
        by_cases heq : ls[k - 1]'hkm = ls[k]'(by omega)
        · rw [if_neg (by rw [hprev, heq]; simp [hk0])] at hfk
          have Hf : Hid _ := M_none hfk
          obtain rfl : px = sx := by
            have h1 := hpx.out
            rw [heq, ← hsx.out] at h1
            injection h1
          clear hfk hf hprev heq hpx
          go_wp2_with fail
          go_roundw
          case rel => exact ⟨k + 1, by omega, by go_num, by rw [Hf.out]; exact hown, hbel⟩
          case measure => simp [intOf]; omega
        · rw [if_pos (.inr (by rw [hprev]; simpa using heq))] at hfk
          have Hf : Hid _ := M_some hfk
          have hne : ¬ (px = sx) := by
            intro h
            subst h
            have h1 := hpx.out
            rw [hsx.out] at h1
            unfold S at h1
            injection h1 with h1
            injection h1 with h1
            exact heq (List.toArray_inj h1).symm
          have hne' : (px.toList == sx.toList) = false := beq_eq_false_iff_ne.2 (fun h => hne (by
            rw [Lib.toList_data, Lib.toList_data] at h
            cases px; cases sx
            simpa using congrArg List.toArray h))
          have hki' : ((k : Int) == 0) = false := beq_eq_false_iff_ne.2 hki
          clear hfk hf hprev heq hpx hne
          go_wp2_with ((at_builtin; refine wpList_append_own _ rfl (.tmp 125) (.tmp 127) 34 rfl (w.heap.size + 1) 9 i0 (.string ⟨#[]⟩) 1 16 Tryz.underlying34 hi hz0 hz1 hz2 rfl (by decide) _ _ _ rfl (hown.alloc _) ⟨wr.heap.size, 0, none⟩ 1 1 [.string sx] rfl rfl ?c1 ?c2 ?c3 ?c4 ?c5 ?_))
          case c1 =>
            intro j u hj
            match j, hj with
            | 0, hj => simp at hj; subst hj; simp [Addr.add]
          case c2 => intro u hu; simp at hu; subst hu; rfl
          case c3 => unfold maxLen; omega
          case c4 => omega
          case c5 => have := hbel.size; simp at this; simp; omega
          · intro v' w1 hown' hgrow _
            have R : Hid _ := made_app hown hbel hsx.out hown' hgrow
            clear hown' hgrow hown hbel hcell bx0 bx1 bx2
            go_wp2_with fail
            go_roundw
            case rel => exact ⟨k + 1, by omega, by go_num, by rw [Hf.out]; exact R.out.1, R.out.2⟩
            case measure => simp [intOf]; omega
    · clear hl5
      have hkn : k = L := by omega
      subst hkn
      have HB : Hid _ := below_box' hbel
      clear hbel
      go_wp2_with fail
      go_ret
      exact ⟨_, rfl, hown, HB.out⟩
theorem count_start : True := trivial
end Go.Proofs.YtkifihcficobnaaGreatDoor
