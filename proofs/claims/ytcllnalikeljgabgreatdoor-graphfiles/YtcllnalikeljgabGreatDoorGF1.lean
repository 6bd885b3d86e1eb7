/- slices.ContainsFunc at nodes, as GraphFiles calls it. -/
import Derived.Test.YtcllnalikeljgabGreatDoorDevGraph12
import Derived.Test.YtcllnalikeljgabGreatDoorFBase
namespace Go.Proofs.YtcllnalikeljgabGreatDoor
open Go.RowKit Go.Gs
set_option linter.unusedVariables false

/-- Is there a Source of that name? -/
def isSource (ns : List SNode) (n : List UInt8) : Bool := ns.any (fun x => decide (x.kind = 1 ∧ x.file = n))
theorem source_at {ls : List SNode} {n : List UInt8} {k : Nat} {x : SNode} (h : ls[k]? = some x) (hx : x.kind = 1 ∧ x.file = n) : isSource ls n = true := List.any_eq_true.2 ⟨x, List.mem_of_getElem? h, decide_eq_true hx⟩
theorem source_none {ls : List SNode} {n : List UInt8} (h : ∀ x ∈ ls, ¬ (x.kind = 1 ∧ x.file = n)) : isSource ls n = false := by
  unfold isSource
  rw [List.any_eq_false]
  intro x hx e
  exact h x hx (of_decide_eq_true e)

set_option maxRecDepth 100000 in
set_option maxHeartbeats 2000000 in
theorem gf1_is (x : SNode) (ai : Option Addr) (ni ci bx : Nat) (n : List UInt8) (w : World) (hb : w.cell? ⟨bx, 0, none⟩ = some (.string ⟨n.toArray⟩)) :
    Calls Tryz.prog 41 #[nodeV x ai ni ci, .pointer (some ⟨bx, 0, none⟩)] w fun e w' => e = .returned (.bool (decide (x.kind = 1 ∧ x.file = n))) ∧ Below w.heap.size w w' := by
  have hse := str_eq2 x.file n
  unfold nodeV
  generalize (⟨x.c.word.toArray⟩ : ByteArray) = wx0 at *
  generalize x.c.kind = ck at *
  generalize x.c.n = cn at *
  generalize x.how = hw at *
  generalize x.wide = wd at *
  obtain ⟨d, hd⟩ : ∃ d, d = decide (x.kind = 1 ∧ x.file = n) := ⟨_, rfl⟩
  rw [← hd]
  generalize x.kind = k at *
  have hb2 := (box_of (w := w) (o := .cells #[.int .i64 k, .string ⟨x.file.toArray⟩, .int .i64 ck, .string wx0, .int .i64 cn, .int .i64 hw, .int .i64 wd, .slice ai ni ci] 62)).cell (World.block_lt_of_cell? w _ hb)
  rw [hb] at hb2
  by_cases hk : k = 1
  · subst hk
    have hd2 : d = decide (x.file = n) := by rw [hd]; simp
    rw [← hd2] at hse
    generalize (⟨x.file.toArray⟩ : ByteArray) = tx at *
    generalize (⟨n.toArray⟩ : ByteArray) = nx at *
    clear hd hd2 hb
    go_enter Tryz.func41, Tryz.ntmps41
    go_wp2_with fail
    go_ret
    exact ⟨by first | rfl | (rw [← hse]; rfl), box_of⟩
  · have hd2 : d = false := by rw [hd]; simp [hk]
    subst hd2
    have e1 : (k == 1) = false := by simpa using hk
    generalize (⟨x.file.toArray⟩ : ByteArray) = tx at *
    generalize (⟨n.toArray⟩ : ByteArray) = nx at *
    clear hd hb
    go_enter Tryz.func41, Tryz.ntmps41
    go_wp2_with fail
    go_ret
    exact ⟨rfl, box_of⟩

set_option maxRecDepth 100000 in
set_option maxHeartbeats 4000000 in
theorem indexN_is (al : Option Addr) (cl bx : Nat) (ls : List SNode) (n : List UInt8) (w : World) (hl : RNodes w (.slice al ls.length cl) ls) (hb : w.cell? ⟨bx, 0, none⟩ = some (.string ⟨n.toArray⟩)) :
    Calls Tryz.prog 79 #[.slice al ls.length cl, .func (.func 41) #[] #[.pointer (some ⟨bx, 0, none⟩)]] w fun e w' => ∃ i : Int, e = .returned (.int .i64 i) ∧ (isSource ls n = true ↔ 0 ≤ i) ∧ Below w.heap.size w w' := by
  have hle := rnodes_le hl
  have HL : Hid (RNodes w (.slice al ls.length cl) ls) := hl
  have HBX : Hid (w.cell? ⟨bx, 0, none⟩ = some (.string ⟨n.toArray⟩)) := hb
  obtain ⟨M, hM⟩ : ∃ M, M = ls.length := ⟨_, rfl⟩
  have HM : Hid (M = ls.length) := hM
  rw [← hM] at HL hle ⊢
  clear hl hb hM
  go_enter Tryz.func79, Tryz.ntmps79
  go_wp2_with fail
  go_loopw [8] (fun i wr => ∃ k : Nat, k ≤ M ∧ i = .int .i64 k ∧ Hid (Below w.heap.size w wr) ∧ Hid (∀ x ∈ ls.take k, ¬ (x.kind = 1 ∧ x.file = n))) (fun i _ => M - (intOf i).toNat)
  case atStart => exact ⟨0, Nat.zero_le _, rfl, Below.refl _ _, (show ∀ x ∈ ls.take 0, ¬ (x.kind = 1 ∧ x.file = n) by simp)⟩
  case round =>
    obtain ⟨k, hk, rfl, hbel, hno⟩ := hrel
    by_cases hlt : k < M
    · obtain ⟨x, hx⟩ : ∃ x, ls[k]? = some x := ⟨_, List.getElem?_eq_getElem (by have := HM.out; omega)⟩
      have HX : Hid (ls[k]? = some x) := hx
      obtain ⟨b, off, ai, ci, rfl, ⟨c0, c1, c2, c3, c4, c5, c6, c7⟩, _⟩ := (RNodes.below HL.out hbel.out).at hx
      have HC : Hid _ := gf1_is x ai x.ins.length ci bx n wr ((hbel.out.cell (World.block_lt_of_cell? w _ HBX.out)).trans HBX.out)
      obtain ⟨d, hdd⟩ : ∃ d, d = decide (x.kind = 1 ∧ x.file = n) := ⟨_, rfl⟩
      have HD : Hid (d = decide (x.kind = 1 ∧ x.file = n)) := hdd
      rw [← hdd] at HC
      unfold nodeV at HC
      generalize (⟨x.file.toArray⟩ : ByteArray) = fx at *
      generalize (⟨x.c.word.toArray⟩ : ByteArray) = wx0 at *
      generalize x.c.kind = ck at *
      generalize x.c.n = cn at *
      generalize x.how = hw at *
      generalize x.wide = wd at *
      obtain ⟨nk, hnk⟩ : ∃ nk, nk = x.kind := ⟨_, rfl⟩
      rw [← hnk] at c0 HC
      obtain ⟨ni, hni⟩ : ∃ ni, ni = x.ins.length := ⟨_, rfl⟩
      rw [← hni] at c7 HC
      clear hnk hni
      clear hx hdd
      go_wp2_with fail
      refine Calls.mono HC.out ?_
      rintro e w3 ⟨rfl, hb3⟩
      have HB3 : Hid (Below w.heap.size w w3) := hbel.out.trans (hb3.mono hbel.out.size)
      clear hb3 HC c0 c1 c2 c3 c4 c5 c6 c7
      cases d with
      | true =>
        have HW : Hid (isSource ls n = true) := source_at HX.out (of_decide_eq_true HD.out.symm)
        clear hno
        go_wp2_with fail
        go_ret
        exact ⟨k, rfl, ⟨fun _ => by omega, fun _ => HW.out⟩, HB3.out⟩
      | false =>
        have HNo : Hid (∀ y ∈ ls.take (k + 1), ¬ (y.kind = 1 ∧ y.file = n)) := (show ∀ y ∈ ls.take (k + 1), ¬ (y.kind = 1 ∧ y.file = n) from by
          intro y hy
          rw [List.take_add_one, HX.out] at hy
          simp only [Option.toList_some, List.mem_append, List.mem_singleton] at hy
          rcases hy with hy | rfl
          · exact hno.out y hy
          · exact of_decide_eq_false HD.out.symm)
        clear hno
        go_wp2_with fail
        go_roundw
        case rel => exact ⟨k + 1, by omega, by go_num, HB3, HNo⟩
        case measure => simp [intOf]; omega
    · have HW : Hid (isSource ls n = false) := source_none (by
        have e := hno.out
        rw [List.take_of_length_le (by have := HM.out; omega)] at e
        exact e)
      clear hno
      go_wp2_with fail
      go_ret
      exact ⟨-1, rfl, ⟨fun h => (by rw [HW.out] at h; cases h), fun h => absurd h (by decide)⟩, hbel.out⟩

set_option maxRecDepth 100000 in
set_option maxHeartbeats 2000000 in
theorem containsN_is (al : Option Addr) (cl bx : Nat) (ls : List SNode) (n : List UInt8) (w : World) (hl : RNodes w (.slice al ls.length cl) ls) (hb : w.cell? ⟨bx, 0, none⟩ = some (.string ⟨n.toArray⟩)) :
    Calls Tryz.prog 40 #[.slice al ls.length cl, .func (.func 41) #[] #[.pointer (some ⟨bx, 0, none⟩)]] w fun e w' => e = .returned (.bool (isSource ls n)) ∧ Below w.heap.size w w' := by
  have HI : Hid _ := indexN_is al cl bx ls n w hl hb
  generalize isSource ls n = d at *
  generalize ls.length = M at *
  clear hl hb
  go_enter Tryz.func40, Tryz.ntmps40
  go_wp2_with fail
  refine Calls.mono HI.out ?_
  rintro e w1 ⟨i, rfl, hi, hb1⟩
  have HB : Hid (Below w.heap.size w w1) := hb1
  have HE : Hid (d = decide (0 ≤ i)) := (show _ = _ by cases d <;> simp_all)
  clear hb1 HI hi
  go_wp2_with fail
  go_ret
  exact ⟨by rw [HE.out]; rfl, HB.out⟩
end Go.Proofs.YtcllnalikeljgabGreatDoor
