/- What the developers' join's sum, For, Check and command's Over do. -/
import Derived.Test.YtfkddfmbgbaefaaGreatDoorDevJoin4
import Derived.Test.YtfkddfmbgbaefaaGreatDoorShelf5
namespace Go.Proofs.YtfkddfmbgbaefaaGreatDoor
open Go.RowKit Go.Gs
set_option linter.unusedVariables false

theorem headNum_nil : headNum [] = 0 := rfl
theorem headNum_cons (x : List UInt8) (r : List (List UInt8)) : headNum (x :: r) = numOf x := by unfold headNum; rw [List.head?_cons, Option.map_some, Option.getD_some]
theorem jbox_cells {w w' : World} {a b c : Value} {t : TypeId} (h : Below (w.alloc (.cells #[a, b, c] t)).heap.size (w.alloc (.cells #[a, b, c] t)) w') : w'.cell? ⟨w.heap.size, 0, none⟩ = some a ∧ w'.cell? ⟨w.heap.size, 1, none⟩ = some b ∧ w'.cell? ⟨w.heap.size, 2, none⟩ = some c := by
  refine ⟨?_, ?_, ?_⟩
  all_goals
    rw [h.cell (by simp), cell_of_row _ _ _ _ _ _ (heap_alloc_new w _)]
    rfl

set_option maxRecDepth 100000 in
set_option maxHeartbeats 4000000 in
theorem sum_is (v : Value) (ps : List (List (List UInt8))) (w : World) (hp : RList w v S ps) (hn : ps.length ≤ 1000) (hsz : ∀ p ∈ ps, ∀ s ∈ p, s.length ≤ 100000) (hE : KnownE w) :
    Calls Tryz.prog 85 #[v] w fun e w' => e = .returned (.int .i64 (sumOf ps : Int)) ∧ Below w.heap.size w w' := by
  obtain ⟨ao, cap, rfl, hc1, hc2⟩ := hp.shape
  have HP : Hid (RList w (.slice ao ps.length cap) S ps) := hp
  obtain ⟨N, hN⟩ : ∃ N, N = ps.length := ⟨_, rfl⟩
  have HN : Hid (N = ps.length) := hN
  have hN4 : N ≤ 1000 := by omega
  have HE : Hid (KnownE w) := hE
  have HSZ : Hid _ := hsz
  rw [← hN]
  clear hN hp hn hc1 hc2 hE hsz
  go_enter Tryz.func85, Tryz.ntmps85
  go_wp2_with fail
  go_loopw [3, 8] (fun s i wr => ∃ k : Nat, ∃ m : Nat, k ≤ N ∧ m ≤ 4000 * k ∧ i = .int .i64 k ∧ s = .int .i64 m ∧ Hid (Below w.heap.size w wr) ∧ Hid (m = sumOf (ps.take k)))
    (fun _ i _ => N - (intOf i).toNat)
  case atStart => exact ⟨0, 0, Nat.zero_le _, by omega, rfl, rfl, Below.refl _ _, (show _ = _ from by simp [sumOf])⟩
  case round =>
    obtain ⟨k, m, hk, hm, rfl, rfl, hbel, hmk⟩ := hrel
    by_cases hlt : k < N
    · obtain ⟨p, hpk⟩ : ∃ p, ps[k]? = some p := ⟨_, List.getElem?_eq_getElem (by have := HN.out; omega)⟩
      have HPr : Hid (RList wr (.slice ao N cap) S ps) := by rw [HN.out]; exact HP.out.below hbel.out
      obtain ⟨b, off, au, cu, rfl, hcell, hru⟩ := HPr.out.at hpk
      have HS : Hid (m + headNum p = sumOf (ps.take (k + 1))) := (show _ = _ from by rw [sumOf_take hpk, ← hmk.out])
      have hpm : p ∈ ps := List.mem_of_getElem? hpk
      cases p with
      | nil =>
        simp only [List.length_nil] at hcell
        rw [headNum_nil] at HS
        clear hpk hru hmk hpm
        go_wp2_with fail
        go_roundw
        case rel => exact ⟨k + 1, m, by omega, by omega, by go_num, rfl, hbel, HS⟩
        case measure => simp [intOf]; omega
      | cons x r =>
        obtain ⟨b1, o1, sx, rfl, hc1, hsx, hcu1, hcu2⟩ := reads_first hru
        obtain rfl : sx = ⟨x.toArray⟩ := by unfold S at hsx; injection hsx
        have hnum := number_is x wr (HSZ.out _ hpm x (by simp)) (HE.out.below hbel.out)
        have hle := numOf_le x
        rw [headNum_cons] at HS
        have hpl : (x :: r).length = r.length + 1 := rfl
        rw [hpl] at hcell hcu2
        clear hsx hru hpl hpk hmk hpm
        generalize r.length = rl at *
        generalize numOf x = z at *
        go_wp2_with (go_at_call 113; refine hnum.mono ?_; rintro e w1 ⟨rfl, hb1⟩)
        have HB1 : Hid (Below w.heap.size w w1) := hbel.out.trans (hb1.mono hbel.out.size)
        clear hb1 hnum
        go_wp2_with fail
        go_roundw
        case rel => exact ⟨k + 1, m + z, by omega, by omega, by go_num, by go_num, HB1, HS⟩
        case measure => simp [intOf]; omega
    · have hkN : k = N := by omega
      have HD : Hid (m = sumOf ps) := (show _ = _ from by
        have h := hmk.out
        rw [hkN, HN.out, List.take_length] at h
        exact h)
      clear hmk
      go_wp2_with fail
      go_ret
      refine ⟨?_, hbel.out⟩
      rw [← HD.out]
      rfl

theorem howFor_cases (k : Int) : (k = 6 ∧ howFor k = 2) ∨ (k = 8 ∧ howFor k = 3) ∨ (k = 7 ∧ howFor k = 4) ∨ (k = 9 ∧ howFor k = 4) ∨ (k = 10 ∧ howFor k = 4) ∨ (k ≠ 6 ∧ k ≠ 7 ∧ k ≠ 8 ∧ k ≠ 9 ∧ k ≠ 10 ∧ howFor k = 1) := by
  unfold howFor
  by_cases h6 : k = 6
  · simp [h6]
  · by_cases h8 : k = 8
    · simp [h8]
    · by_cases h7 : k = 7
      · simp [h7]
      · by_cases h9 : k = 9
        · simp [h9]
        · by_cases h10 : k = 10
          · simp [h10]
          · simp [*]

set_option maxRecDepth 100000 in
set_option maxHeartbeats 4000000 in
theorem for_is (c : Cmd) (w : World) (hw : c.word.length ≤ 9223372036854775807) :
    Calls Tryz.prog 30 #[c.v] w fun e w' => e = .returned (.tuple #[.int .i64 (if chk c = 0 then howFor c.kind else 0), .int .i64 (chk c)]) ∧ Below w.heap.size w w' := by
  have hchk := fun W => check_is c W hw
  obtain ⟨k, word, n⟩ := c
  unfold Cmd.v at hchk ⊢
  simp only at hchk ⊢
  generalize (⟨word.toArray⟩ : ByteArray) = sx at *
  by_cases h0 : chk ⟨k, word, n⟩ = 0
  · rw [h0] at hchk ⊢
    rw [if_pos rfl]
    have hkk := howFor_cases k
    clear h0
    generalize howFor k = h at *
    rcases hkk with ⟨rfl, rfl⟩ | ⟨rfl, rfl⟩ | ⟨rfl, rfl⟩ | ⟨rfl, rfl⟩ | ⟨rfl, rfl⟩ | ⟨h6, h7, h8, h9, h10, rfl⟩
    all_goals
      go_enter Tryz.func30, Tryz.ntmps30
      go_wp2_with fail
      refine (hchk _).mono ?_
      rintro e w1 ⟨rfl, hb1⟩
      obtain ⟨bx0, bx1, bx2⟩ := jbox_cells hb1
      have HB : Hid (Below w.heap.size w w1) := box_of.trans (hb1.mono (by simp))
      clear hb1 hchk
      go_wp2_with fail
      go_ret2
      exact ⟨rfl, HB.out⟩
  · rw [if_neg h0]
    generalize chk ⟨k, word, n⟩ = r at *
    go_enter Tryz.func30, Tryz.ntmps30
    go_wp2_with fail
    refine (hchk _).mono ?_
    rintro e w1 ⟨rfl, hb1⟩
    have HB : Hid (Below w.heap.size w w1) := box_of.trans (hb1.mono (by simp))
    clear hb1 hchk
    go_wp2_with fail
    go_ret2
    exact ⟨rfl, HB.out⟩
end Go.Proofs.YtfkddfmbgbaefaaGreatDoor
