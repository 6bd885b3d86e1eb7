/- What the developers' functions on one line's bytes do: turn, swap's, field's. -/
import Derived.Test.YtkifihcficobnaaDoorDevEach
import Derived.Test.YtkifihcficobnaaDoorShelf2
import Derived.Lib.SlSplitV
namespace Go.Proofs.YtkifihcficobnaaDoor
open Go.RowKit Go.Gs
set_option linter.unusedVariables false

theorem oneU : OneCell U := fun _ => rfl

theorem reads_holds {W : World} {b cap : Nat} {x : List UInt8} (h : Sort.Holds U W b 0 x.toArray) (h1 : x.length ≤ cap) (h2 : cap ≤ maxLen) : Reads W (.slice (some ⟨b, 0, none⟩) x.length cap) x.length (x.map U) := by
  refine ⟨by simp, _, cap, rfl, h1, h2, fun _ => ⟨b, 0, rfl, fun j u hu => ?_⟩⟩
  rw [List.getElem?_map] at hu
  cases hj : x[j]? with
  | none => rw [hj] at hu; cases hu
  | some c =>
    rw [hj] at hu
    obtain ⟨hlt, he⟩ := List.getElem?_eq_some_iff.1 hj
    have := (h j (by simpa using hlt)).1
    rw [this]
    simp only [Option.map_some] at hu
    rw [← hu]
    simp [getElem!_pos, hlt, he]

set_option maxRecDepth 100000 in
set_option maxHeartbeats 1000000 in
theorem turn_line (w : World) (blk : Option Nat) : FnLine 71 #[] List.reverse blk w := by
  intro W b cap x hgr hb1 hb2 hc1 hc2 hx hH
  have hrev := AnyE.slices_Reverse Tryd.laysRev U oneU b 0 cap x W hH (by omega)
  change Calls Tryd.prog 97 _ _ _ at hrev
  have HH : Hid _ := hH
  clear hgr hH
  show Calls Tryd.prog 71 #[.slice (some ⟨b, 0, none⟩) x.length cap] W _
  go_enter Tryd.func71, Tryd.ntmps71
  go_wp2_with fail
  refine hrev.mono ?_
  rintro e w1 ⟨rfl, n, hw1⟩
  have HC : Hid ((convert 22 9 (.slice (some ⟨b, 0, none⟩) x.length cap)).run Tryd.prog w1 = .ok (.string ⟨x.reverse.toArray⟩) w1) := by
    have h1 : Sort.Holds U w1 b 0 x.reverse.toArray := by
      rw [hw1]
      exact Sort.holds_putRow U _ b 0 _ _ (Sort.holds_ahead U W n b 0 _ HH.out) (by simp)
    have h2 := reads_holds (cap := cap) h1 (by simpa using hc1) hc2
    have h3 := conv_any (bs := x.reverse) h2
    rw [List.length_reverse] at h3
    exact h3
  have HB : Hid (Below b W w1) := by
    rw [hw1]
    exact Lib.below_putRow (Below.refl _ _) (Nat.le_refl _)
  clear hw1 hrev
  go_wp2_with fail
  go_ret
  exact ⟨_, rfl, HC.out, HB.out⟩

/-- One place of a row is written. -/
theorem holds_set {W : World} {b k : Nat} {d e : List UInt8} {c : UInt8} (h : Sort.Holds U W b 0 d.toArray) (he : e = d.set k c) : Sort.Holds U (W.setCell ⟨b, k, none⟩ (U c)) b 0 e.toArray := by
  subst he
  intro j hj
  have hj' : j < d.length := by simpa using hj
  obtain ⟨h1, h2⟩ := h j (by simpa using hj')
  rw [Nat.zero_add] at h1 h2 ⊢
  by_cases hjk : j = k
  · subst hjk
    refine ⟨?_, ?_⟩
    · rw [World.cell?_setCell_same _ _ _ h1]
      simp [getElem!_pos, hj']
    · rw [World.frozen?_setCell]; exact h2
  · refine ⟨?_, ?_⟩
    · rw [World.cell?_setCell_other _ _ _ _ (by intro e; cases e; exact hjk rfl), h1]
      simp [getElem!_pos, hj', Ne.symm hjk]
    · rw [World.frozen?_setCell]; exact h2

theorem swap_get (a c : UInt8) (x : List UInt8) (k : Nat) (hk : k < x.length) : ((x.take k).map (fun y => if y = a then c else y) ++ x.drop k)[k]? = some x[k] := by
  rw [List.getElem?_append_right (by simp; omega)]
  simp only [List.length_map, List.length_take]
  rw [Nat.min_eq_left (by omega), Nat.sub_self, List.getElem?_drop, Nat.add_zero]
  exact List.getElem?_eq_getElem hk
theorem swap_step (a c : UInt8) (x : List UInt8) (k : Nat) (hk : k < x.length) (y : UInt8) (hy : y = if x[k] = a then c else x[k]) : (x.take (k + 1)).map (fun y => if y = a then c else y) ++ x.drop (k + 1) = ((x.take k).map (fun y => if y = a then c else y) ++ x.drop k).set k y := by
  have h1 : x.drop k = x[k] :: x.drop (k + 1) := List.drop_eq_getElem_cons hk
  have h2 : x.take (k + 1) = x.take k ++ [x[k]] := by rw [List.take_add_one, List.getElem?_eq_getElem hk]; rfl
  have h3 : ((x.take k).map (fun y => if y = a then c else y)).length = k := by simp; omega
  rw [h1, h2, List.set_append_right _ _ (by omega), h3, Nat.sub_self, List.set_cons_zero]
  subst hy
  simp only [List.map_append, List.map_cons, List.map_nil, List.append_assoc, List.cons_append, List.nil_append]

set_option maxRecDepth 100000 in
set_option maxHeartbeats 2000000 in
theorem swap_line (w : World) (blk : Option Nat) (ba bt : Nat) (a c : UInt8) (ha : w.cell? ⟨ba, 0, none⟩ = some (U a)) (ht : w.cell? ⟨bt, 0, none⟩ = some (U c)) (hna : some ba ≠ blk) (hnt : some bt ≠ blk) :
    FnLine 94 #[.pointer (some ⟨ba, 0, none⟩), .pointer (some ⟨bt, 0, none⟩)] (swapOf a c) blk w := by
  intro W b cap x hgr hb1 hb2 hc1 hc2 hx hH
  have ha1 : W.cell? ⟨ba, 0, none⟩ = some (U a) := grown_cell hgr ha hna
  have ht1 : W.cell? ⟨bt, 0, none⟩ = some (U c) := grown_cell hgr ht hnt
  have hba : ba < b := Nat.lt_of_lt_of_le (World.block_lt_of_cell? w _ ha) hb1
  have hbt : bt < b := Nat.lt_of_lt_of_le (World.block_lt_of_cell? w _ ht) hb1
  have HH : Hid _ := hH
  clear hgr hH ha ht
  show Calls Tryd.prog 94 #[.slice (some ⟨b, 0, none⟩) x.length cap, .pointer (some ⟨ba, 0, none⟩), .pointer (some ⟨bt, 0, none⟩)] W _
  obtain ⟨L, hL⟩ : ∃ L, L = x.length := ⟨_, rfl⟩
  have HL : Hid (L = x.length) := hL
  have hL4 : L ≤ 300000 := by omega
  have hLc : L ≤ cap := by omega
  have hcm' : cap ≤ 9223372036854775807 := by simpa [maxLen] using hc2
  rw [← hL]
  clear hL hc1 hx
  go_enter Tryd.func94, Tryd.ntmps94
  go_wp2_with fail
  go_loopw [9] (fun i wr => ∃ k : Nat, k ≤ L ∧ i = .int .i64 k ∧ Hid (Sort.Holds U wr b 0 ((x.take k).map (fun y => if y = a then c else y) ++ x.drop k).toArray) ∧ Hid (Below b W wr))
    (fun i _ => L - (intOf i).toNat)
  case atStart => exact ⟨0, Nat.zero_le _, rfl, HH.out, Below.refl _ _⟩
  case round =>
    obtain ⟨k, hk, rfl, hh, hbel⟩ := hrel
    by_cases hlt : k < L
    · have hkx : k < x.length := by have := HL.out; omega
      have hlen : ((x.take k).map (fun y => if y = a then c else y) ++ x.drop k).length = x.length := by simp; omega
      have hget := hh.out k (by simp only [List.size_toArray]; omega)
      have hcell : wr.cell? ⟨b, k, none⟩ = some (U x[k]) := by
        have := hget.1
        rw [Nat.zero_add] at this
        rw [this]
        simp only [List.getElem!_toArray]
        rw [List.getElem!_eq_getElem?_getD, swap_get a c x k hkx]
        rfl
      have hfro : wr.frozen? ⟨b, k, none⟩ = false := by have := hget.2; rwa [Nat.zero_add] at this
      have ha2 : wr.cell? ⟨ba, 0, none⟩ = some (U a) := (hbel.out.cell hba).trans ha1
      have ht2 : wr.cell? ⟨bt, 0, none⟩ = some (U c) := (hbel.out.cell hbt).trans ht1
      clear hget ha1 ht1
      unfold U at hcell ha2 ht2
      by_cases hxa : x[k] = a
      · have HS : Hid _ := swap_step a c x k hkx c (by rw [if_pos hxa])
        have hxe : (x[k].toNat : Int) = (a.toNat : Int) := by rw [hxa]
        rw [hxe] at hcell
        clear hxe hxa
        have HN : Hid (Sort.Holds U (wr.setCell ⟨b, k, none⟩ (U c)) b 0 ((x.take (k + 1)).map (fun y => if y = a then c else y) ++ x.drop (k + 1)).toArray) := holds_set hh.out HS.out
        have HB : Hid (Below b W (wr.setCell ⟨b, k, none⟩ (U c))) := hbel.out.setCell (Nat.le_refl _) _
        clear hh hbel
        go_wp2_with fail
        go_roundw
        case rel => exact ⟨k + 1, by omega, by go_num, HN.out, HB.out⟩
        case measure => simp [intOf]; omega
      · have HS : Hid _ := swap_step a c x k hkx x[k] (by rw [if_neg hxa])
        have hset : ((x.take k).map (fun y => if y = a then c else y) ++ x.drop k).set k x[k] = (x.take k).map (fun y => if y = a then c else y) ++ x.drop k := by
          apply List.ext_getElem?
          intro j
          by_cases hj : j = k
          · subst hj
            rw [List.getElem?_set_self (by omega), swap_get a c x j hkx]
          · rw [List.getElem?_set_ne (Ne.symm hj)]
        have hne : ¬ ((x[k].toNat : Int) = (a.toNat : Int)) := fun h => hxa (UInt8.toNat_inj.1 (by exact_mod_cast h))
        have HN : Hid (Sort.Holds U wr b 0 ((x.take (k + 1)).map (fun y => if y = a then c else y) ++ x.drop (k + 1)).toArray) := by
          rw [HS.out, hset]
          exact hh.out
        clear hset HS hh
        go_wp2_with fail
        go_roundw
        case rel => exact ⟨k + 1, by omega, by go_num, HN.out, hbel.out⟩
        case measure => simp [intOf]; omega
    · have hkL : k = L := by omega
      have HC : Hid ((convert 22 9 (.slice (some ⟨b, 0, none⟩) L cap)).run Tryd.prog wr = .ok (.string ⟨(swapOf a c x).toArray⟩) wr) := by
        have h1 := hh.out
        rw [hkL, HL.out, List.take_length, List.drop_length, List.append_nil] at h1
        have h2 := reads_holds (x := x.map (fun y => if y = a then c else y)) (cap := cap) h1 (by have := HL.out; simp; omega) hc2
        have h3 := conv_any h2
        rw [List.length_map, ← HL.out] at h3
        exact h3
      clear hh ha1 ht1
      go_wp2_with fail
      go_ret
      exact ⟨_, rfl, HC.out, hbel.out⟩
end Go.Proofs.YtkifihcficobnaaDoor
