/- slices.ContainsFunc at lines, as ShellFiles calls it. -/
import Derived.Test.YtkifihcficobnabGreatDoorDevShell11
namespace Go.Proofs.YtkifihcficobnabGreatDoor
open Go.RowKit Go.Gs
set_option linter.unusedVariables false

def writes (ls : List SLine) (n : List UInt8) : Bool := ls.any (fun x => decide (x.to = n))
theorem writes_no {ls : List SLine} {n : List UInt8} (h : writes ls n = false) : ∀ x ∈ ls, x.to ≠ n := by
  intro x hx e
  unfold writes at h
  rw [List.any_eq_false] at h
  exact h x hx (decide_eq_true e)
theorem writes_at {ls : List SLine} {n : List UInt8} {k : Nat} {x : SLine} (h : ls[k]? = some x) (hx : x.to = n) : writes ls n = true := List.any_eq_true.2 ⟨x, List.mem_of_getElem? h, decide_eq_true hx⟩
theorem writes_none {ls : List SLine} {n : List UInt8} (h : ∀ x ∈ ls, x.to ≠ n) : writes ls n = false := by
  unfold writes
  rw [List.any_eq_false]
  intro x hx e
  exact h x hx (of_decide_eq_true e)

set_option maxRecDepth 100000 in
set_option maxHeartbeats 2000000 in
theorem shf1_is (x : SLine) (af ad : Option Addr) (nf cf nd cd bx : Nat) (n : List UInt8) (w : World) (hb : w.cell? ⟨bx, 0, none⟩ = some (.string ⟨n.toArray⟩)) :
    Calls Tryz.prog 27 #[.agg #[.slice af nf cf, .slice ad nd cd, .string ⟨x.to.toArray⟩], .pointer (some ⟨bx, 0, none⟩)] w fun e w' => e = .returned (.bool (decide (x.to = n))) ∧ Below w.heap.size w w' := by
  have hse := str_eq2 x.to n
  have hb2 := (boxr_of (w := w) (o := .cells #[.slice af nf cf, .slice ad nd cd, .string ⟨x.to.toArray⟩] 40)).cell (World.block_lt_of_cell? w _ hb)
  rw [hb] at hb2
  obtain ⟨d, hd⟩ : ∃ d, d = decide (x.to = n) := ⟨_, rfl⟩
  rw [← hd] at hse ⊢
  generalize (⟨x.to.toArray⟩ : ByteArray) = tx at *
  generalize (⟨n.toArray⟩ : ByteArray) = nx at *
  clear hd
  go_enter Tryz.func27, Tryz.ntmps27
  go_wp2_with fail
  go_ret
  exact ⟨by first | rfl | (rw [← hse]; rfl), boxr_of⟩

set_option maxRecDepth 100000 in
set_option maxHeartbeats 4000000 in
theorem indexF_is (al : Option Addr) (cl bx : Nat) (ls : List SLine) (n : List UInt8) (w : World) (hl : RLines w (.slice al ls.length cl) ls) (hb : w.cell? ⟨bx, 0, none⟩ = some (.string ⟨n.toArray⟩)) :
    Calls Tryz.prog 67 #[.slice al ls.length cl, .func (.func 27) #[] #[.pointer (some ⟨bx, 0, none⟩)]] w fun e w' => ∃ i : Int, e = .returned (.int .i64 i) ∧ (writes ls n = true ↔ 0 ≤ i) ∧ Below w.heap.size w w' := by
  have hle := rlines_le hl
  have HL : Hid (RLines w (.slice al ls.length cl) ls) := hl
  have HBX : Hid (w.cell? ⟨bx, 0, none⟩ = some (.string ⟨n.toArray⟩)) := hb
  obtain ⟨M, hM⟩ : ∃ M, M = ls.length := ⟨_, rfl⟩
  have HM : Hid (M = ls.length) := hM
  rw [← hM] at HL hle ⊢
  clear hl hb hM
  go_enter Tryz.func67, Tryz.ntmps67
  go_wp2_with fail
  go_loopw [8] (fun i wr => ∃ k : Nat, k ≤ M ∧ i = .int .i64 k ∧ Hid (Below w.heap.size w wr) ∧ Hid (∀ x ∈ ls.take k, x.to ≠ n)) (fun i _ => M - (intOf i).toNat)
  case atStart => exact ⟨0, Nat.zero_le _, rfl, Below.refl _ _, (show ∀ x ∈ ls.take 0, x.to ≠ n by simp)⟩
  case round =>
    obtain ⟨k, hk, rfl, hbel, hno⟩ := hrel
    by_cases hlt : k < M
    · obtain ⟨x, hx⟩ : ∃ x, ls[k]? = some x := ⟨_, List.getElem?_eq_getElem (by have := HM.out; omega)⟩
      have HX : Hid (ls[k]? = some x) := hx
      obtain ⟨b, off, af, cf, ad, cd, rfl, hc0, hc1, hc2, hr, hd⟩ := (RLines.below HL.out hbel.out).at hx
      have HC : Hid _ := shf1_is x af ad x.fr.length cf x.cs.length cd bx n wr ((hbel.out.cell (World.block_lt_of_cell? w _ HBX.out)).trans HBX.out)
      obtain ⟨d, hdd⟩ : ∃ d, d = decide (x.to = n) := ⟨_, rfl⟩
      have HD : Hid (d = decide (x.to = n)) := hdd
      rw [← hdd] at HC
      generalize (⟨x.to.toArray⟩ : ByteArray) = tx at *
      generalize x.fr.length = NF at *
      generalize x.cs.length = ND at *
      clear hx hr hd hdd
      go_wp2_with fail
      refine Calls.mono HC.out ?_
      rintro e w3 ⟨rfl, hb3⟩
      have HB3 : Hid (Below w.heap.size w w3) := hbel.out.trans (hb3.mono hbel.out.size)
      clear hb3 HC hc0 hc1 hc2
      cases d with
      | true =>
        have HW : Hid (writes ls n = true) := writes_at HX.out (of_decide_eq_true HD.out.symm)
        clear hno
        go_wp2_with fail
        go_ret
        exact ⟨k, rfl, ⟨fun _ => by omega, fun _ => HW.out⟩, HB3.out⟩
      | false =>
        have HNo : Hid (∀ y ∈ ls.take (k + 1), y.to ≠ n) := (show ∀ y ∈ ls.take (k + 1), y.to ≠ n from by
          intro y hy
          rw [List.take_add_one, HX.out] at hy
          simp only [Option.toList_some, List.mem_append, List.mem_singleton] at hy
          rcases hy with hy | rfl
          · exact hno.out y hy
          · exact of_decide_eq_false HD.out.symm)
        clear hno
        go_wp2_with fail
        go_roundw
        case rel => exact ⟨k + 1, by omega, by go_num, HB3, HNo⟩
        case measure => simp [intOf]; omega
    · have HW : Hid (writes ls n = false) := writes_none (by
        have e := hno.out
        rw [List.take_of_length_le (by have := HM.out; omega)] at e
        exact e)
      clear hno
      go_wp2_with fail
      go_ret
      exact ⟨-1, rfl, ⟨fun h => (by rw [HW.out] at h; cases h), fun h => absurd h (by decide)⟩, hbel.out⟩

set_option maxRecDepth 100000 in
set_option maxHeartbeats 2000000 in
theorem containsF_is (al : Option Addr) (cl bx : Nat) (ls : List SLine) (n : List UInt8) (w : World) (hl : RLines w (.slice al ls.length cl) ls) (hb : w.cell? ⟨bx, 0, none⟩ = some (.string ⟨n.toArray⟩)) :
    Calls Tryz.prog 26 #[.slice al ls.length cl, .func (.func 27) #[] #[.pointer (some ⟨bx, 0, none⟩)]] w fun e w' => e = .returned (.bool (writes ls n)) ∧ Below w.heap.size w w' := by
  have HI : Hid _ := indexF_is al cl bx ls n w hl hb
  generalize writes ls n = d at *
  generalize ls.length = M at *
  clear hl hb
  go_enter Tryz.func26, Tryz.ntmps26
  go_wp2_with fail
  refine Calls.mono HI.out ?_
  rintro e w1 ⟨i, rfl, hi, hb1⟩
  have HB : Hid (Below w.heap.size w w1) := hb1
  have HE : Hid (d = decide (0 ≤ i)) := (show _ = _ by cases d <;> simp_all)
  clear hb1 HI hi
  go_wp2_with fail
  go_ret
  exact ⟨by rw [HE.out]; rfl, HB.out⟩
end Go.Proofs.YtkifihcficobnabGreatDoor
