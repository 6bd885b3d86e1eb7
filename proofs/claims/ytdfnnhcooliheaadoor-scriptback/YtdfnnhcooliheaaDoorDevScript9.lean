/- What the developers' printed does. -/
import Derived.Test.YtdfnnhcooliheaaDoorSKnown
import Derived.Test.YtdfnnhcooliheaaDoorScriptMath
import Derived.Deep.RegionWith
namespace Go.Proofs.YtdfnnhcooliheaaDoor
open Go.RowKit Go.Gs
set_option linter.unusedVariables false

theorem cat3 (a b : List UInt8) : (⟨a.toArray⟩ ++ ⟨#[32]⟩ ++ ⟨b.toArray⟩ : ByteArray) = ⟨(a ++ 32 :: b).toArray⟩ := by
  apply ByteArray.ext
  simp
theorem nameOf_nat (m : Nat) : nameOf (m : Int) = vnames.getD m [] := by unfold nameOf; simp
theorem box3_cells' {w : World} {a b c : Value} {t : TypeId} : (w.alloc (.cells #[a, b, c] t)).cell? ⟨w.heap.size, 0, none⟩ = some a ∧ (w.alloc (.cells #[a, b, c] t)).cell? ⟨w.heap.size, 1, none⟩ = some b ∧ (w.alloc (.cells #[a, b, c] t)).cell? ⟨w.heap.size, 2, none⟩ = some c := by
  refine ⟨?_, ?_, ?_⟩
  all_goals
    rw [cell_of_row _ _ _ _ _ _ (heap_alloc_new w _)]
    rfl

set_option maxRecDepth 100000 in
set_option maxHeartbeats 4000000 in
theorem printed_plain (m : Nat) (w : World) (h1 : 1 ≤ m) (h2 : m ≤ 10) (hE : KnownS w) :
    Calls Tryd.prog 46 #[.agg #[.int .i64 m, .string ⟨#[]⟩, .int .i64 0]] w fun e w' => e = .returned (.string ⟨(nameOf m).toArray⟩) ∧ Below w.heap.size w w' := by
  rw [nameOf_nat]
  have hcell := (NamesIs.below hE.names (box_of (o := .cells #[.int .i64 m, .string ⟨#[]⟩, .int .i64 0] 43))) m (by omega)
  generalize (⟨(vnames.getD m []).toArray⟩ : ByteArray) = sn at *
  have hm : (m : Int) < 11 := by omega
  clear hE
  go_enter Tryd.func46, Tryd.ntmps46
  go_wp2_with fail
  go_ret
  exact ⟨rfl, box_of⟩

theorem name_len : ∀ m : Nat, (vnames.getD m []).length ≤ 5
  | 0 => by decide
  | 1 => by decide
  | 2 => by decide
  | 3 => by decide
  | 4 => by decide
  | 5 => by decide
  | 6 => by decide
  | 7 => by decide
  | 8 => by decide
  | 9 => by decide
  | 10 => by decide
  | m + 11 => by simp [vnames, List.getD]
theorem itoa_len {n : Int} (h1 : 1 ≤ n) (h2 : n ≤ 1000) : (Lib.itoa n).length ≤ 100 := by
  unfold Lib.itoa
  rw [if_neg (by omega), Lib.decDigits_length]
  have h := Lib.nDigits_unique
  have key : ∀ u : Nat, u ≤ 1000 → Lib.nDigits u ≤ 4 := by
    intro u hu
    rw [Lib.nDigits]
    split
    · omega
    · rw [Lib.nDigits]
      split
      · omega
      · rw [Lib.nDigits]
        split
        · omega
        · rw [Lib.nDigits]
          split
          · omega
          · exfalso; omega
  have := key n.toNat (by omega)
  omega

set_option maxRecDepth 100000 in
set_option maxHeartbeats 4000000 in
theorem printed_word (m : Nat) (word : List UInt8) (n : Int) (w : World) (h1 : 1 ≤ m) (h2 : m ≤ 10) (hw : word ≠ []) (hwl : word.length ≤ 12) (hE : KnownS w) :
    Calls Tryd.prog 46 #[.agg #[.int .i64 m, .string ⟨word.toArray⟩, .int .i64 n]] w fun e w' => e = .returned (.string ⟨(nameOf m ++ 32 :: word).toArray⟩) ∧ Below w.heap.size w w' := by
  rw [nameOf_nat, ← cat3]
  have hem := full_of hw
  have hws : (⟨word.toArray⟩ : ByteArray).size ≤ 12 := by simpa [ByteArray.size] using hwl
  generalize (⟨word.toArray⟩ : ByteArray) = wx at *
  have hcell := (NamesIs.below hE.names (box_of (o := .cells #[.int .i64 m, .string wx, .int .i64 n] 43))) m (by omega)
  have hsn : (⟨(vnames.getD m []).toArray⟩ : ByteArray).size ≤ 5 := by have := name_len m; simpa [ByteArray.size] using this
  generalize (⟨(vnames.getD m []).toArray⟩ : ByteArray) = sn at *
  have hm : (m : Int) < 11 := by omega
  have hc1 : ¬ 9223372036854775807 < sn.size + 1 := by omega
  have hc2 : ¬ 9223372036854775807 < sn.size + 1 + wx.size := by omega
  clear hE hw hwl
  go_enter Tryd.func46, Tryd.ntmps46
  go_wp2_with fail
  go_region
  all_goals (try go_wp2_with fail)
  all_goals go_ret
  all_goals exact ⟨rfl, box_of.drew⟩

theorem itoa_box {w W : World} {m : Nat} {n : Int} {sn ix : ByteArray} (hn1 : 1 ≤ n) (hn2 : n ≤ 1000) (hE : KnownS w) (hcell : w.cell? ⟨0, m, none⟩ = some (.string sn)) (hix : ix = ⟨(Lib.itoa n).toArray⟩) (hW : W = w.alloc (.cells #[.int .i64 m, .string ⟨#[]⟩, .int .i64 n] 43) ∨ W = (w.alloc (.cells #[.int .i64 m, .string ⟨#[]⟩, .int .i64 n] 43)).drew) :
    Calls Tryd.prog 70 #[.int .i64 n] W fun e w' => e = .returned (.string ix) ∧ Hid (Below w.heap.size w w') ∧ w'.cell? ⟨w.heap.size, 0, none⟩ = some (.int .i64 m) ∧ w'.cell? ⟨w.heap.size, 2, none⟩ = some (.int .i64 n) ∧ w'.cell? ⟨0, m, none⟩ = some (.string sn) := by
  have hb : Below w.heap.size w W := by
    rcases hW with rfl | rfl
    · exact box_of
    · exact box_of.drew
  have hblk : W.heap[w.heap.size]? = some (.cells #[.int .i64 m, .string ⟨#[]⟩, .int .i64 n] 43 (0, 0)) := by
    rcases hW with rfl | rfl
    · exact heap_alloc_new w _
    · exact heap_alloc_new w _
  refine (sitoa_is n W (by omega) (by omega) (hE.below hb)).mono ?_
  rintro e w' ⟨rfl, hb2⟩
  have hblk2 := (hb2.block _ (Array.getElem?_eq_some_iff.1 hblk).1).trans hblk
  have hbb : Below w.heap.size w w' := hb.trans (hb2.mono hb.size)
  refine ⟨by rw [hix], hbb, ?_, ?_, (hbb.cell (World.block_lt_of_cell? w _ hcell)).trans hcell⟩
  · simp [World.cell?, hblk2]
  · simp [World.cell?, hblk2]

set_option maxRecDepth 100000 in
set_option maxHeartbeats 4000000 in
theorem printed_num (m : Nat) (n : Int) (w : World) (h1 : 1 ≤ m) (h2 : m ≤ 10) (hn1 : 1 ≤ n) (hn2 : n ≤ 1000) (hE : KnownS w) :
    Calls Tryd.prog 46 #[.agg #[.int .i64 m, .string ⟨#[]⟩, .int .i64 n]] w fun e w' => e = .returned (.string ⟨(nameOf m ++ 32 :: Lib.itoa n).toArray⟩) ∧ Below w.heap.size w w' := by
  rw [nameOf_nat, ← cat3]
  obtain ⟨ix, hix⟩ : ∃ ix : ByteArray, ix = ⟨(Lib.itoa n).toArray⟩ := ⟨_, rfl⟩
  have hixs : ix.size ≤ 100 := by rw [hix]; have := itoa_len hn1 hn2; simpa [ByteArray.size] using this
  have hcell0 := hE.names m (by omega)
  have hcell := (NamesIs.below hE.names (box_of (o := .cells #[.int .i64 m, .string ⟨#[]⟩, .int .i64 n] 43))) m (by omega)
  have hsn : (⟨(vnames.getD m []).toArray⟩ : ByteArray).size ≤ 5 := by have := name_len m; simpa [ByteArray.size] using this
  rw [← hix]
  generalize (⟨(vnames.getD m []).toArray⟩ : ByteArray) = sn at *
  have HI : Hid (∀ W : World, (W = w.alloc (.cells #[.int .i64 m, .string ⟨#[]⟩, .int .i64 n] 43) ∨ W = (w.alloc (.cells #[.int .i64 m, .string ⟨#[]⟩, .int .i64 n] 43)).drew) → _) := fun W hW => itoa_box hn1 hn2 hE hcell0 hix hW
  have hm : (m : Int) < 11 := by omega
  have hn0 : ¬ n = 0 := by omega
  have hc1 : ¬ 9223372036854775807 < sn.size + 1 := by omega
  have hc2 : ¬ 9223372036854775807 < sn.size + 1 + ix.size := by omega
  clear hE hix hcell0 hn1 hn2
  go_enter Tryd.func46, Tryd.ntmps46
  go_wp2_with fail
  go_region_with (go_at_call 70; refine Calls.mono (HI.out _ (by first | exact .inl rfl | exact .inr rfl)) ?_; rintro e w2 ⟨rfl, hb2, hx0, hx2, hxn⟩)
  all_goals (try go_wp2_with fail)
  all_goals go_ret
  all_goals exact ⟨rfl, by first | exact hb2.out | exact hb2.out.drew | exact hb2.out.drew.drew⟩
theorem printed_is (c : Cmd) (w : World) (hc : chk c = 0) (hE : KnownS w) :
    Calls Tryd.prog 46 #[.agg #[.int .i64 c.kind, .string ⟨c.word.toArray⟩, .int .i64 c.n]] w fun e w' => e = .returned (.string ⟨(printed c).toArray⟩) ∧ Below w.heap.size w w' := by
  obtain ⟨hu0, hw, hn, hn2, hw1⟩ := chk_uses hc
  obtain ⟨hk1, hk2⟩ := uses_kind hu0
  obtain ⟨k, word, n⟩ := c
  simp only at *
  obtain ⟨m, rfl⟩ : ∃ m : Nat, k = m := ⟨k.toNat, by omega⟩
  by_cases h1 : uses m = 1
  · have hwd := isWord_ne (hw1 h1)
    have hl : word.length ≤ 12 := by
      have := hw1 h1
      unfold isWord at this
      simp only [Bool.and_eq_true, decide_eq_true_eq] at this
      exact this.1.2
    have e : printed ⟨m, word, n⟩ = nameOf m ++ 32 :: word := by
      unfold printed
      exact if_pos hwd
    rw [e]
    exact printed_word m word n w (by omega) (by omega) hwd hl hE
  · have hwd := hw h1
    subst hwd
    by_cases h2 : uses m = 2
    · obtain ⟨a1, a2⟩ := hn2 h2
      have e : printed ⟨m, [], n⟩ = nameOf m ++ 32 :: Lib.itoa n := by
        unfold printed
        exact (if_neg (by simp)).trans (if_pos (show n ≠ 0 by omega))
      rw [e]
      exact printed_num m n w (by omega) (by omega) a1 a2 hE
    · have := hn h2
      subst this
      have e : printed ⟨m, [], 0⟩ = nameOf m := by
        unfold printed
        exact (if_neg (by simp)).trans (if_neg (by simp))
      rw [e]
      exact printed_plain m w (by omega) (by omega) hE
theorem printed_len {c : Cmd} (hc : chk c = 0) : (printed c).length ≤ 200 := by
  obtain ⟨hu0, hw, hn, hn2, hw1⟩ := chk_uses hc
  have hnm : (nameOf c.kind).length ≤ 5 := by unfold nameOf; exact name_len _
  unfold printed
  split
  · rename_i hwd
    have h1 : uses c.kind = 1 := by
      by_cases h1 : uses c.kind = 1
      · exact h1
      · exact absurd (hw h1) hwd
    have := hw1 h1
    unfold isWord at this
    simp only [Bool.and_eq_true, decide_eq_true_eq] at this
    simp
    omega
  · split
    · rename_i hc0
      have h2 : uses c.kind = 2 := by
        by_cases h2 : uses c.kind = 2
        · exact h2
        · exact absurd (hn h2) hc0
      have := hn2 h2
      have := itoa_len this.1 this.2
      simp
      omega
    · omega
end Go.Proofs.YtdfnnhcooliheaaDoor
