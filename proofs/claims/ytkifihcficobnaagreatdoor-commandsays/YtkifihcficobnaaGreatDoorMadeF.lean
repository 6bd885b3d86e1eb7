/- What the reference's Made does to lines: Count, Field, Turn. What the reference's Made does to lines: Turn. -/
import Derived.Test.YtkifihcficobnaaGreatDoorMadeE
import Derived.Test.YtkifihcficobnaaGreatDoorOfF
namespace Go.Proofs.YtkifihcficobnaaGreatDoor
open Go.RowKit Go.Gs
set_option linter.unusedVariables false

set_option maxRecDepth 100000 in
set_option maxHeartbeats 2000000 in
theorem made_count (al : Option Addr) (cl : Nat) (word : List UInt8) (n : Int) (ls : List (List UInt8)) (w : World) (hl : Reads w (.slice al ls.length cl) ls.length (ls.map S)) (hLm : ls.length ≤ 900000) (hsz : ∀ s ∈ ls, s.length ≤ 900000) (f : Nat → Option (List UInt8)) (hf : ∀ i s, ls[i]? = some s → f i = none) (htab : Lib.TabIs Tryz.prog w "internal/strconv.uint64pow10" .u64 Lib.pow10Tab) :
    Calls Tryz.prog 20 #[.agg #[.int .i64 8, .string ⟨word.toArray⟩, .int .i64 n], .slice al ls.length cl] w fun e w' => ∃ r, e = .returned r ∧ Reads w' r 1 [S (Lib.itoa (ls.length : Int))] ∧ Below w.heap.size w w' := by
  have hI := fun (W : World) (h : Below w.heap.size w W) => Tryz.strconv_Itoa ls.length (by omega) (by omega) W (tab_below htab h)
  obtain ⟨t, ht⟩ : ∃ t, t = Lib.itoa (ls.length : Int) := ⟨_, rfl⟩
  rw [← ht] at hI ⊢
  clear ht htab
  obtain ⟨i0, hi, hz0, hz1, hz2⟩ := info_parts infoStr
  have Hl : Hid _ := hl
  obtain ⟨-, al', cl', e4, -, -, hl5⟩ := hl
  simp only [Value.slice.injEq, true_and] at e4
  obtain ⟨rfl, rfl⟩ := e4
  generalize hL : ls.length = L at *
  have HI : Hid _ := hI
  clear hI
  go_enter Tryz.func20, Tryz.ntmps20
  go_wp2_with fail
  go_loopw [5, 16] (fun v5 i wr => ∃ k : Nat, k ≤ L ∧ i = .int .i64 k ∧ wr.ownsRow (w.heap.size + 1) 9 1 v5 (M f k).length ((M f k).map S) ∧ Below (w.heap.size + 1) (w.alloc (.cells #[.int .i64 8, .string ⟨word.toArray⟩, .int .i64 n] 23)) wr)
    (fun _ i _ => L - (intOf i).toNat)
  case atStart => exact ⟨0, Nat.zero_le _, rfl, by rw [M_zero]; exact World.ownsRow_nil _ _ _ _, Below.refl _ _⟩
  case round =>
    obtain ⟨k, hk, rfl, hown, hbel⟩ := hrel
    obtain ⟨bx0, bx1, bx2⟩ := box_cells' hbel
    have hMl := M_len f k
    by_cases hlt : k < L
    · obtain ⟨b, off, rfl, hc⟩ := hl5 (by omega)
      have hcell0 : wr.cell? ⟨b, off + k, none⟩ = some (.string ⟨(ls[k]'(by omega)).toArray⟩) := ((below_box' hbel).cell (World.block_lt_of_cell? w _ (hc k (S (ls[k]'(by omega))) (by simp [hL, hlt])))).trans (hc k _ (by simp [S, hL, hlt]))
      have hfk := hf k (ls[k]'(by omega)) (List.getElem?_eq_getElem _)
      obtain ⟨sx, hsx, hcell⟩ : ∃ sx : ByteArray, Hid (Value.string sx = S (ls[k]'(by omega))) ∧ wr.cell? ⟨b, off + k, none⟩ = some (.string sx) := ⟨⟨(ls[k]'(by omega)).toArray⟩, rfl, hcell0⟩
      clear hc hl5 hcell0
      have Hf : Hid _ := M_none hfk
      clear hfk hf
      go_wp2_with fail
      go_roundw
      case rel => exact ⟨k + 1, by omega, by go_num, by rw [Hf.out]; exact hown, hbel⟩
      case measure => simp [intOf]; omega
    · clear hl5
      have hkn : k = L := by omega
      subst hkn
      have HB : Hid _ := below_box' hbel
      clear hbel hown
      go_wp2_with fail
      refine (HI.out _ HB.out).mono ?_
      rintro e w2 ⟨rfl, q, os, hw2⟩
      have HB2 : Hid (Below w.heap.size w w2) := by
        rw [hw2]
        exact HB.out.trans ((below_grow' (w := wr) q os (Nat.le_refl _)).mono HB.out.size)
      clear hw2
      go_wp2_with fail
      go_ret
      exact ⟨_, rfl, by simpa [S] using reads_new w2 #[S t] 9 (0, 0) 1 rfl (by omega), HB2.out.trans (((Below.refl _ w2).alloc (Nat.le_refl _) _).mono HB2.out.size)⟩

/-- strings.Split at a blank. -/
theorem splits_blank (l : List UInt8) (sx : ByteArray) (hsx : Value.string sx = S l) (m : Int) (w : World) (hm : w.cell? ⟨5, 0, none⟩ = some (.int .i64 m)) (hle : l.length ≤ 900000) (N : Nat) (hN : (Lib.split l [32]).length = N) :
    Calls Tryz.prog 58 #[.string sx, .string ⟨#[32]⟩] w fun e w' =>
      e = .returned (.slice (some ⟨w.heap.size, 0, none⟩) N N) ∧ Hid (∀ j p, (Lib.split l [32])[j]? = some p → w'.cell? ⟨w.heap.size, j, none⟩ = some (.string ⟨p.toArray⟩)) ∧ Hid (Below w.heap.size w w') := by
  have hd := sx_data hsx
  have hz := sx_size hsx
  have hlen : Lib.countB sx ⟨#[32]⟩ + 1 = N := by
    have h1 := Lib.splitB_all ⟨#[32]⟩ (by decide) 0 _ sx rfl
    have h2 := congrArg List.length (Lib.splitB_data ⟨#[32]⟩ 0 (Lib.countB sx ⟨#[32]⟩) sx)
    rw [List.length_map, h1, hd] at h2
    rw [← hN, h2]
    show _ = (Lib.splitK [32] 0 (Lib.count l [32]) l).length
    unfold Lib.countB
    rw [hd]
  have hp : (Lib.splitB ⟨#[32]⟩ 0 (Lib.countB sx ⟨#[32]⟩) sx).map (·.data.toList) = Lib.split l [32] := by
    rw [Lib.splitB_data, hd]
    unfold Lib.countB Lib.split
    rw [hd]
  refine (Tryz.strings_Split sx ⟨#[32]⟩ m w (by omega) hm (by decide)).mono ?_
  rintro e w' ⟨rfl, rfl⟩
  rw [hlen, map_str_S, hp]
  refine ⟨rfl, ?_, (Below.refl _ w).alloc (Nat.le_refl _) _⟩
  intro j p hj
  rw [cell_of_row _ _ _ _ _ _ (heap_alloc_new w _)]
  simp [hj, S]

set_option maxRecDepth 100000 in
set_option maxHeartbeats 2000000 in
theorem made_field (al : Option Addr) (cl : Nat) (word : List UInt8) (n : Int) (ls : List (List UInt8)) (w : World) (hl : Reads w (.slice al ls.length cl) ls.length (ls.map S)) (hLm : ls.length ≤ 900000) (hsz : ∀ s ∈ ls, s.length ≤ 900000) (m : Int) (hm : w.cell? ⟨5, 0, none⟩ = some (.int .i64 m)) (hn1 : 1 ≤ n) (hn2 : n ≤ 1000) (f : Nat → Option (List UInt8)) (hf : ∀ i s, ls[i]? = some s → f i = some (fieldOf n s)) :
    Calls Tryz.prog 20 #[.agg #[.int .i64 4, .string ⟨word.toArray⟩, .int .i64 n], .slice al ls.length cl] w fun e w' => ∃ r, e = .returned r ∧ w'.ownsRow (w.heap.size + 1) 9 1 r (M f ls.length).length ((M f ls.length).map S) ∧ Below w.heap.size w w' := by
  obtain ⟨i0, hi, hz0, hz1, hz2⟩ := info_parts infoStr
  have Hl : Hid _ := hl
  obtain ⟨-, al', cl', e4, -, -, hl5⟩ := hl
  simp only [Value.slice.injEq, true_and] at e4
  obtain ⟨rfl, rfl⟩ := e4
  generalize hL : ls.length = L at *
  have HM : Hid _ := hm
  have hmb := World.block_lt_of_cell? w _ hm
  clear hm
  go_enter Tryz.func20, Tryz.ntmps20
  go_wp2_with fail
  go_loopw [5, 16] (fun v5 i wr => ∃ k : Nat, k ≤ L ∧ i = .int .i64 k ∧ wr.ownsRow (w.heap.size + 1) 9 1 v5 (M f k).length ((M f k).map S) ∧ Below (w.heap.size + 1) (w.alloc (.cells #[.int .i64 4, .string ⟨word.toArray⟩, .int .i64 n] 23)) wr)
    (fun _ i _ => L - (intOf i).toNat)
  case atStart => exact ⟨0, Nat.zero_le _, rfl, by rw [M_zero]; exact World.ownsRow_nil _ _ _ _, Below.refl _ _⟩
  case round =>
    obtain ⟨k, hk, rfl, hown, hbel⟩ := hrel
    obtain ⟨bx0, bx1, bx2⟩ := box_cells' hbel
    have hMl := M_len f k
    by_cases hlt : k < L
    · obtain ⟨b, off, rfl, hc⟩ := hl5 (by omega)
      have hcell0 : wr.cell? ⟨b, off + k, none⟩ = some (.string ⟨(ls[k]'(by omega)).toArray⟩) := ((below_box' hbel).cell (World.block_lt_of_cell? w _ (hc k (S (ls[k]'(by omega))) (by simp [hL, hlt])))).trans (hc k _ (by simp [S, hL, hlt]))
      have hfk := hf k (ls[k]'(by omega)) (List.getElem?_eq_getElem _)
      have hsk : (ls[k]'(by omega)).length ≤ 900000 := hsz _ (List.getElem_mem _)
      have Hf : Hid _ := M_some hfk
      generalize hlk : ls[k]'(by omega) = l at *
      obtain ⟨sx, hsx, hcell⟩ : ∃ sx : ByteArray, Hid (Value.string sx = S l) ∧ wr.cell? ⟨b, off + k, none⟩ = some (.string sx) := ⟨⟨l.toArray⟩, rfl, hcell0⟩
      clear hc hl5 hcell0 hfk hf hlk
      obtain ⟨N, hN⟩ : ∃ N, (Lib.split l [32]).length = N := ⟨_, rfl⟩
      have HF1 := field_some n l
      have HF2 := field_none n l
      have hN4 : N ≤ 900001 := by
        have h1 := split_len l
        have h2 := count_le l
        omega
      have hmr : wr.cell? ⟨5, 0, none⟩ = some (.int .i64 m) := ((below_box' hbel).cell hmb).trans HM.out
      have HMR : Hid _ := hmr
      have HN : Hid _ := hN
      by_cases hnN : n ≤ N
      · obtain ⟨p, hp⟩ : ∃ p, (Lib.split l [32])[(n - 1).toNat]? = some p := ⟨_, List.getElem?_eq_getElem (by omega)⟩
        have HE : Hid (fieldOf n l = p) := HF1 p hn1 hp
        have Hp : Hid _ := hp
        clear HF1 HF2 hp hN hmr
        go_wp2_with fail
        refine (splits_blank l sx hsx.out m wr HMR.out hsk N HN.out).mono ?_
        rintro e w7 ⟨rfl, hpc, hb7⟩
        have hown7 := owns_below hown hb7.out
        have hbel7 := hbel.trans (hb7.out.mono (by have := hbel.size; simpa using this))
        obtain ⟨bx0', bx1', bx2'⟩ := box_cells' hbel7
        have hv := hpc.out _ _ Hp.out
        obtain ⟨i, hi7⟩ : ∃ i : Nat, n = (i : Int) + 1 := ⟨(n - 1).toNat, by omega⟩
        have hin : (n - 1).toNat = i := by omega
        rw [hin] at hv
        obtain ⟨nx, hnx, hv'⟩ : ∃ nx : ByteArray, Hid (Value.string nx = S (fieldOf n l)) ∧ w7.cell? ⟨wr.heap.size, i, none⟩ = some (.string nx) := ⟨⟨p.toArray⟩, (show _ = _ by rw [HE.out]; rfl), hv⟩
        have hiN : (i : Int) < N := by omega
        clear hv hin HMR HN Hp HE hpc hb7 hown hbel hcell bx0 bx1 bx2
        have hni : n - 1 = (i : Int) := by omega
        clear hi7
        go_wp2_with ((at_builtin; refine wpList_append_own _ rfl (.tmp 125) (.tmp 127) 34 rfl (w.heap.size + 1) 9 i0 (.string ⟨#[]⟩) 1 16 Tryz.underlying34 hi hz0 hz1 hz2 rfl (by decide) _ _ _ rfl (hown7.alloc _) ⟨w7.heap.size, 0, none⟩ 1 1 [.string nx] rfl rfl ?c1 ?c2 ?c3 ?c4 ?c5 ?_))
        case c1 =>
          intro j u hj
          match j, hj with
          | 0, hj => simp at hj; subst hj; simp [Addr.add]
        case c2 => intro u hu; simp at hu; subst hu; rfl
        case c3 => unfold maxLen; omega
        case c4 => omega
        case c5 => have := hbel7.size; simp at this; simp; omega
        · intro v' w1 hown' hgrow _
          have R : Hid _ := made_app hown7 hbel7 hnx.out hown' hgrow
          clear hown' hgrow hown7 hbel7
          go_wp2_with fail
          go_roundw
          case rel => exact ⟨k + 1, by omega, by go_num, by rw [Hf.out]; exact R.out.1, R.out.2⟩
          case measure => simp [intOf]; omega
      · have HE : Hid (fieldOf n l = []) := HF2 (by omega)
        clear HF1 HF2 hN hmr
        go_wp2_with fail
        refine (splits_blank l sx hsx.out m wr HMR.out hsk N HN.out).mono ?_
        rintro e w7 ⟨rfl, hpc, hb7⟩
        have hown7 := owns_below hown hb7.out
        have hbel7 := hbel.trans (hb7.out.mono (by have := hbel.size; simpa using this))
        obtain ⟨bx0', bx1', bx2'⟩ := box_cells' hbel7
        obtain ⟨nx, hnx, hnxe⟩ : ∃ nx : ByteArray, Hid (Value.string nx = S (fieldOf n l)) ∧ nx = ⟨#[]⟩ := ⟨⟨#[]⟩, (show _ = _ by rw [HE.out]; rfl), rfl⟩
        subst hnxe
        clear HMR HN HE hpc hb7 hown hbel hcell bx0 bx1 bx2
        go_wp2_with ((at_builtin; refine wpList_append_own _ rfl (.tmp 125) (.tmp 127) 34 rfl (w.heap.size + 1) 9 i0 (.string ⟨#[]⟩) 1 16 Tryz.underlying34 hi hz0 hz1 hz2 rfl (by decide) _ _ _ rfl (hown7.alloc _) ⟨w7.heap.size, 0, none⟩ 1 1 [.string ⟨#[]⟩] rfl rfl ?c1 ?c2 ?c3 ?c4 ?c5 ?_))
        case c1 =>
          intro j u hj
          match j, hj with
          | 0, hj => simp at hj; subst hj; simp [Addr.add]
        case c2 => intro u hu; simp at hu; subst hu; rfl
        case c3 => unfold maxLen; omega
        case c4 => omega
        case c5 => have := hbel7.size; simp at this; simp; omega
        · intro v' w1 hown' hgrow _
          have R : Hid _ := made_app hown7 hbel7 hnx.out hown' hgrow
          clear hown' hgrow hown7 hbel7
          go_wp2_with fail
          go_roundw
          case rel => exact ⟨k + 1, by omega, by go_num, by rw [Hf.out]; exact R.out.1, R.out.2⟩
          case measure => simp [intOf]; omega
    · clear hl5
      have hkn : k = L := by omega
      subst hkn
      have HB : Hid _ := below_box' hbel
      clear hbel
      go_wp2_with fail
      go_ret
      exact ⟨_, rfl, hown, HB.out⟩
end Go.Proofs.YtkifihcficobnaaGreatDoor
namespace Go.Proofs.YtkifihcficobnaaGreatDoor
open Go.RowKit Go.Gs
set_option linter.unusedVariables false

theorem turn_step (l : List UInt8) (j : Nat) (hj : j < l.length) : (l.drop j).reverse = (l.drop (j + 1)).reverse ++ [l[j]] := by
  rw [List.drop_eq_getElem_cons hj, List.reverse_cons]

theorem turn_data {l : List UInt8} {sx tx : ByteArray} {i : Nat} (hsx : Value.string sx = S l) (htx : tx.data.toList = (l.drop (i + 1)).reverse) (hi : i < l.length) : (tx ++ sx.extract i (i + 1)).data.toList = (l.drop i).reverse := by
  rw [turn_step l i hi, ← htx, ByteArray.data_append, Array.toList_append, Lib.extract_data, sx_data hsx]
  congr 1
  rw [List.drop_eq_getElem_cons hi, show i + 1 - i = 1 by omega]
  rfl

set_option maxRecDepth 100000 in
set_option maxHeartbeats 2000000 in
theorem made_turn (al : Option Addr) (cl : Nat) (word : List UInt8) (n : Int) (ls : List (List UInt8)) (w : World) (hl : Reads w (.slice al ls.length cl) ls.length (ls.map S)) (hLm : ls.length ≤ 900000) (hsz : ∀ s ∈ ls, s.length ≤ 900000) (f : Nat → Option (List UInt8)) (hf : ∀ i s, ls[i]? = some s → f i = some s.reverse) :
    Calls Tryz.prog 20 #[.agg #[.int .i64 5, .string ⟨word.toArray⟩, .int .i64 n], .slice al ls.length cl] w fun e w' => ∃ r, e = .returned r ∧ w'.ownsRow (w.heap.size + 1) 9 1 r (M f ls.length).length ((M f ls.length).map S) ∧ Below w.heap.size w w' := by
  obtain ⟨i0, hi, hz0, hz1, hz2⟩ := info_parts infoStr
  have Hl : Hid _ := hl
  obtain ⟨-, al', cl', e4, -, -, hl5⟩ := hl
  simp only [Value.slice.injEq, true_and] at e4
  obtain ⟨rfl, rfl⟩ := e4
  generalize hL : ls.length = L at *
  go_enter Tryz.func20, Tryz.ntmps20
  go_wp2_with fail
  go_loopw [5, 16] (fun v5 i wr => ∃ k : Nat, k ≤ L ∧ i = .int .i64 k ∧ wr.ownsRow (w.heap.size + 1) 9 1 v5 (M f k).length ((M f k).map S) ∧ Below (w.heap.size + 1) (w.alloc (.cells #[.int .i64 5, .string ⟨word.toArray⟩, .int .i64 n] 23)) wr)
    (fun _ i _ => L - (intOf i).toNat)
  case atStart => exact ⟨0, Nat.zero_le _, rfl, by rw [M_zero]; exact World.ownsRow_nil _ _ _ _, Below.refl _ _⟩
  case round =>
    obtain ⟨k, hk, rfl, hown, hbel⟩ := hrel
    obtain ⟨bx0, bx1, bx2⟩ := box_cells' hbel
    have hMl := M_len f k
    by_cases hlt : k < L
    · obtain ⟨b, off, rfl, hc⟩ := hl5 (by omega)
      have hcell0 : wr.cell? ⟨b, off + k, none⟩ = some (.string ⟨(ls[k]'(by omega)).toArray⟩) := ((below_box' hbel).cell (World.block_lt_of_cell? w _ (hc k (S (ls[k]'(by omega))) (by simp [hL, hlt])))).trans (hc k _ (by simp [S, hL, hlt]))
      have hfk := hf k (ls[k]'(by omega)) (List.getElem?_eq_getElem _)
      have hsk : (ls[k]'(by omega)).length ≤ 900000 := hsz _ (List.getElem_mem _)
      have Hf : Hid _ := M_some hfk
      generalize hlk : ls[k]'(by omega) = l at *
      obtain ⟨sx, hsx, hcell⟩ : ∃ sx : ByteArray, Hid (Value.string sx = S l) ∧ wr.cell? ⟨b, off + k, none⟩ = some (.string sx) := ⟨⟨l.toArray⟩, rfl, hcell0⟩
      have hsl : sx.size = l.length := sx_size hsx.out
      clear hc hl5 hcell0 hfk hf hlk
      obtain ⟨w5, hw5⟩ : ∃ w5, w5 = wr := ⟨_, rfl⟩
      subst hw5
      go_wp2_with fail
      go_loopw [12, 13] (fun t i w2 => ∃ (j : Nat) (z : Int) (tx : ByteArray), j ≤ l.length ∧ z = (j : Int) - 1 ∧ i = .int .i64 z ∧ t = .string tx ∧ w2 = w5 ∧ Hid (tx.data.toList = (l.drop j).reverse)) (fun _ i _ => (intOf i + 1).toNat)
      case atStart => exact ⟨l.length, _, ⟨#[]⟩, Nat.le_refl _, rfl, rfl, rfl, rfl, (show _ = _ by simp)⟩
      case round =>
        obtain ⟨j, z, tx, hj, hz, rfl, rfl, hw, htx⟩ := hrel
        obtain rfl : w5 = wr := hw.symm
        clear hw
        by_cases hj0 : 0 < j
        · obtain ⟨i, rfl⟩ : ∃ i, j = i + 1 := ⟨j - 1, by omega⟩
          obtain rfl : z = (i : Int) := by omega
          clear hz
          have HT : Hid _ := turn_data hsx.out htx.out (show i < l.length by omega)
          have hil : i < l.length := by omega
          have hts : tx.size ≤ 900000 := by
            have h := congrArg List.length htx.out
            rw [List.length_reverse, List.length_drop] at h
            have h2 : tx.data.toList.length = tx.size := Array.length_toList
            omega
          go_wp2_with fail
          go_roundw
          case rel => exact ⟨i, _, _, by omega, rfl, by go_num, rfl, by simp, HT.out⟩
          case measure => simp [intOf]
        · have hj1 : j = 0 := by omega
          subst hj1
          obtain rfl : z = -1 := by omega
          clear hz
          have hnx : Hid (Value.string tx = S l.reverse) := (show _ = _ by
            have h := htx.out
            rw [List.drop_zero] at h
            unfold S
            rw [← h])
          go_wp2_with ((at_builtin; refine wpList_append_own _ rfl (.tmp 125) (.tmp 127) 34 rfl (w.heap.size + 1) 9 i0 (.string ⟨#[]⟩) 1 16 Tryz.underlying34 hi hz0 hz1 hz2 rfl (by decide) _ _ _ rfl (hown.alloc _) ⟨w5.heap.size, 0, none⟩ 1 1 [.string tx] rfl rfl ?c1 ?c2 ?c3 ?c4 ?c5 ?_))
          case c1 =>
            intro j u hj
            match j, hj with
            | 0, hj => simp at hj; subst hj; simp [Addr.add]
          case c2 => intro u hu; simp at hu; subst hu; rfl
          case c3 => unfold maxLen; omega
          case c4 => omega
          case c5 => have := hbel.size; simp at this; simp; omega
          · intro v' w1 hown' hgrow _
            have R : Hid _ := made_app hown hbel hnx.out hown' hgrow
            clear hown' hgrow hown hbel hcell bx0 bx1 bx2
            go_wp2_with fail
            go_roundw
            case rel => exact ⟨k + 1, by omega, by go_num, by rw [Hf.out]; exact R.out.1, R.out.2⟩
            case measure => simp [intOf]; omega
    · clear hl5
      have hkn : k = L := by omega
      subst hkn
      have HB : Hid _ := below_box' hbel
      clear hbel
      go_wp2_with fail
      go_ret
      exact ⟨_, rfl, hown, HB.out⟩
end Go.Proofs.YtkifihcficobnaaGreatDoor
