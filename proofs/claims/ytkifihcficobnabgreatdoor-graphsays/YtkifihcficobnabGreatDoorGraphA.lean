/- What the developers' Outs of a node does. What the developers' Outs, mayHave, hasUnused of nodes do. What the developers' checkUsed, checkNode and hasPort do. -/
import Derived.Test.YtkifihcficobnabGreatDoorOBase
import Derived.Test.YtkifihcficobnabGreatDoorPlainE
import Derived.Test.YtkifihcficobnabGreatDoorWordE
import Derived.Test.YtkifihcficobnabGreatDoorJoinC
import Derived.Deep.RegionWith
namespace Go.Proofs.YtkifihcficobnabGreatDoor
open Go.RowKit Go.Gs
set_option linter.unusedVariables false

/-- A node as a value. -/
def nodeV (n : SNode) (ai : Option Addr) (ni ci : Nat) : Value := .agg #[.int .i64 n.kind, .string ⟨n.file.toArray⟩, .int .i64 n.c.kind, .string ⟨n.c.word.toArray⟩, .int .i64 n.c.n, .int .i64 n.how, .int .i64 n.wide, .slice ai ni ci]

set_option maxRecDepth 100000 in
set_option maxHeartbeats 4000000 in
theorem outs_is (n : SNode) (ai : Option Addr) (ni ci : Nat) (w : World) :
    Calls Tryz.prog 38 #[nodeV n ai ni ci] w fun e w' => e = .returned (.int .i64 (nouts n)) ∧ Below w.heap.size w w' := by
  unfold nodeV nouts
  generalize n.kind = k
  generalize n.wide = wd
  generalize (⟨n.file.toArray⟩ : ByteArray) = fx
  generalize (⟨n.c.word.toArray⟩ : ByteArray) = wx
  generalize n.c.kind = ck
  generalize n.c.n = cn
  generalize n.how = hw
  by_cases h2 : k = 2
  · subst h2
    go_enter Tryz.func38, Tryz.ntmps38
    go_wp2_with fail
    go_ret
    exact ⟨rfl, box_of⟩
  · by_cases h5 : k = 5
    · subst h5
      go_enter Tryz.func38, Tryz.ntmps38
      go_wp2_with fail
      go_ret
      exact ⟨rfl, box_of⟩
    · rw [if_neg h2, if_neg h5]
      have e2 : (k == 2) = false := by simpa using h2
      have e5 : (k == 5) = false := by simpa using h5
      go_enter Tryz.func38, Tryz.ntmps38
      go_wp2_with fail
      go_ret
      exact ⟨rfl, box_of⟩
end Go.Proofs.YtkifihcficobnabGreatDoor
namespace Go.Proofs.YtkifihcficobnabGreatDoor
open Go.RowKit Go.Gs
set_option linter.unusedVariables false

set_option maxRecDepth 100000 in
set_option maxHeartbeats 4000000 in
theorem mayHave_is (k : Int) (m : Nat) (w : World) (hm : m ≤ 9223372036854775807) :
    Calls Tryz.prog 112 #[.int .i64 k, .int .i64 m] w fun e w' => e = .returned (.bool (mayHave k m)) ∧ w' = w := by
  unfold mayHave
  by_cases h1 : k = 1
  · subst h1
    rw [if_pos rfl]
    by_cases hz : m = 0
    · subst hz
      go_enter Tryz.func112, Tryz.ntmps112
      go_wp2_with fail
      go_ret
      exact ⟨rfl, rfl⟩
    · have e1 : ((m : Int) == 0) = false := by simp; omega
      rw [decide_eq_false hz]
      go_enter Tryz.func112, Tryz.ntmps112
      go_wp2_with fail
      go_ret
      exact ⟨rfl, rfl⟩
  · rw [if_neg h1]
    have e1 : (k == 1) = false := by simpa using h1
    by_cases h4 : k = 4
    · subst h4
      rw [if_pos rfl]
      by_cases hm1 : 1 ≤ m
      · by_cases hm5 : m ≤ 5
        · rw [decide_eq_true ⟨hm1, hm5⟩]
          have q1 : decide ((1 : Int) ≤ m) = true := by simp; omega
          have q2 : decide ((m : Int) ≤ 5) = true := by simp; omega
          go_enter Tryz.func112, Tryz.ntmps112
          go_wp2_with fail
          go_ret
          exact ⟨rfl, rfl⟩
        · rw [decide_eq_false (fun h => hm5 h.2)]
          have q1 : decide ((1 : Int) ≤ m) = true := by simp; omega
          have q2 : decide ((m : Int) ≤ 5) = false := by simp; omega
          go_enter Tryz.func112, Tryz.ntmps112
          go_wp2_with fail
          go_ret
          exact ⟨rfl, rfl⟩
      · rw [decide_eq_false (fun h => hm1 h.1)]
        have q1 : decide ((1 : Int) ≤ m) = false := by simp; omega
        go_enter Tryz.func112, Tryz.ntmps112
        go_wp2_with fail
        go_ret
        exact ⟨rfl, rfl⟩
    · rw [if_neg h4]
      have e4 : (k == 4) = false := by simpa using h4
      by_cases hz : m = 1
      · subst hz
        go_enter Tryz.func112, Tryz.ntmps112
        go_wp2_with fail
        go_ret
        exact ⟨rfl, rfl⟩
      · have e1 : ((m : Int) == 1) = false := by simp; omega
        rw [decide_eq_false hz]
        go_enter Tryz.func112, Tryz.ntmps112
        go_wp2_with fail
        go_ret
        exact ⟨rfl, rfl⟩

theorem bne_dec (x : Int) : (x != 0) = !decide (x = 0) := by by_cases h : x = 0 <;> simp [h]
/-- hasUnused, of what a walk sees. -/
def hasU (k wd ck cn hw : Int) (fe we : Bool) : Bool :=
  (!decide (k = 1 ∨ k = 5) && !fe) || (!decide (k = 2) && !decide (wd = 0)) || (!decide (k = 3 ∨ k = 4) && !(decide (ck = 0) && we && decide (cn = 0))) || (!decide (k = 4) && !decide (hw = 0))
theorem empty_is (l : List UInt8) : (⟨l.toArray⟩ : ByteArray).toList.isEmpty = l.isEmpty := by
  cases l with
  | nil => exact empty_of rfl
  | cons x r => exact full_of (by simp)
theorem hasU_is (n : SNode) : hasUnused n = hasU n.kind n.wide n.c.kind n.c.n n.how (⟨n.file.toArray⟩ : ByteArray).toList.isEmpty (⟨n.c.word.toArray⟩ : ByteArray).toList.isEmpty := by
  rw [empty_is, empty_is]
  rfl

set_option maxRecDepth 100000 in
set_option maxHeartbeats 8000000 in
theorem hasUnused_is (n : SNode) (ai : Option Addr) (ni ci : Nat) (w : World) :
    Calls Tryz.prog 113 #[nodeV n ai ni ci] w fun e w' => e = .returned (.bool (hasUnused n)) ∧ Below w.heap.size w w' := by
  rw [hasU_is]
  unfold nodeV
  generalize (⟨n.file.toArray⟩ : ByteArray) = fx
  generalize (⟨n.c.word.toArray⟩ : ByteArray) = wx
  obtain ⟨fe, hfe⟩ : ∃ d, fx.toList.isEmpty = d := ⟨_, rfl⟩
  obtain ⟨we, hwe⟩ : ∃ d, wx.toList.isEmpty = d := ⟨_, rfl⟩
  rw [hfe, hwe]
  generalize n.kind = k
  generalize n.wide = wd
  generalize n.c.kind = ck
  generalize n.c.n = cn
  generalize n.how = hw
  by_cases h1 : k = 1
  · subst h1
    go_enter Tryz.func113, Tryz.ntmps113
    go_wp2_with fail
    all_goals
      go_ret
      exact ⟨by simp_all [hasU, bne_dec], box_of⟩
  by_cases h5 : k = 5
  · subst h5
    go_enter Tryz.func113, Tryz.ntmps113
    go_wp2_with fail
    all_goals
      go_ret
      exact ⟨by simp_all [hasU, bne_dec], box_of⟩
  by_cases h2 : k = 2
  · subst h2
    go_enter Tryz.func113, Tryz.ntmps113
    go_wp2_with fail
    all_goals
      go_ret
      exact ⟨by simp_all [hasU, bne_dec], box_of⟩
  by_cases h3 : k = 3
  · subst h3
    go_enter Tryz.func113, Tryz.ntmps113
    go_wp2_with fail
    all_goals
      go_ret
      exact ⟨by simp_all [hasU, bne_dec], box_of⟩
  by_cases h4 : k = 4
  · subst h4
    go_enter Tryz.func113, Tryz.ntmps113
    go_wp2_with fail
    all_goals
      go_ret
      exact ⟨by simp_all [hasU, bne_dec], box_of⟩
  have e1 : (k == 1) = false := by simpa using h1
  have e5 : (k == 5) = false := by simpa using h5
  have e2 : (k == 2) = false := by simpa using h2
  have e3 : (k == 3) = false := by simpa using h3
  have e4 : (k == 4) = false := by simpa using h4
  go_enter Tryz.func113, Tryz.ntmps113
  go_wp2_with fail
  all_goals
    go_ret
    exact ⟨by simp_all [hasU, bne_dec], box_of⟩
end Go.Proofs.YtkifihcficobnabGreatDoor
namespace Go.Proofs.YtkifihcficobnabGreatDoor
open Go.RowKit Go.Gs
set_option linter.unusedVariables false

theorem used_word {n : SNode} (h : n.kind = 1 ∨ n.kind = 5) : nodeUsed n = if isWord n.file then 0 else 1 := by unfold nodeUsed; rw [if_pos h]
theorem used_wide {n : SNode} (h : n.kind = 2) : nodeUsed n = if n.wide < 1 ∨ 5 < n.wide then 3 else 0 := by unfold nodeUsed; rw [if_neg (by omega), if_pos h]
theorem used_work {n : SNode} (h : n.kind = 3) : nodeUsed n = chk n.c := by unfold nodeUsed; rw [if_neg (by omega), if_neg (by omega), if_pos h]
theorem used_join {n : SNode} (h : n.kind = 4) : nodeUsed n = jchk n.how n.c := by unfold nodeUsed; rw [if_neg (by omega), if_neg (by omega), if_neg (by omega), if_pos h]
theorem used_none {n : SNode} (h1 : n.kind ≠ 1) (h2 : n.kind ≠ 2) (h3 : n.kind ≠ 3) (h4 : n.kind ≠ 4) (h5 : n.kind ≠ 5) : nodeUsed n = 4 := by unfold nodeUsed; rw [if_neg (by omega), if_neg h2, if_neg h3, if_neg h4]

set_option maxRecDepth 100000 in
set_option maxHeartbeats 8000000 in
theorem checkUsed_is (n : SNode) (ai : Option Addr) (ni ci : Nat) (w : World) (hfit : FitsN n) :
    Calls Tryz.prog 111 #[nodeV n ai ni ci] w fun e w' => e = .returned (.int .i64 (nodeUsed n)) ∧ Below w.heap.size w w' := by
  have hword := fun W => word_is n.file W hfit.1
  have hcheck := fun W => check_is n.c W hfit.2.1
  have hjoin := fun W => jcheck_is n.how n.c W hfit.2.1
  unfold Cmd.v at hcheck hjoin
  obtain ⟨u, hu⟩ : ∃ u, u = nodeUsed n := ⟨_, rfl⟩
  rw [← hu]
  by_cases h15 : n.kind = 1 ∨ n.kind = 5
  · rw [used_word h15] at hu
    unfold nodeV
    generalize isWord n.file = d at *
    generalize (⟨n.file.toArray⟩ : ByteArray) = fx at *
    generalize (⟨n.c.word.toArray⟩ : ByteArray) = wx at *
    generalize n.c.kind = ck at *
    generalize n.c.n = cn at *
    generalize n.how = hw at *
    generalize n.wide = wd at *
    generalize n.kind = k at *
    clear hcheck hjoin hfit
    rcases h15 with rfl | rfl
    · cases d with
      | true =>
        simp only [if_true] at hu
        subst hu
        go_enter Tryz.func111, Tryz.ntmps111
        go_wp2_with fail
        refine (hword _).mono ?_
        rintro e w1 ⟨rfl, rfl⟩
        go_wp2_with fail
        go_ret
        exact ⟨rfl, box_of⟩
      | false =>
        simp only [Bool.false_eq_true, if_false] at hu
        subst hu
        go_enter Tryz.func111, Tryz.ntmps111
        go_wp2_with fail
        refine (hword _).mono ?_
        rintro e w1 ⟨rfl, rfl⟩
        go_wp2_with fail
        go_ret
        exact ⟨rfl, box_of⟩
    · cases d with
      | true =>
        simp only [if_true] at hu
        subst hu
        go_enter Tryz.func111, Tryz.ntmps111
        go_wp2_with fail
        refine (hword _).mono ?_
        rintro e w1 ⟨rfl, rfl⟩
        go_wp2_with fail
        go_ret
        exact ⟨rfl, box_of⟩
      | false =>
        simp only [Bool.false_eq_true, if_false] at hu
        subst hu
        go_enter Tryz.func111, Tryz.ntmps111
        go_wp2_with fail
        refine (hword _).mono ?_
        rintro e w1 ⟨rfl, rfl⟩
        go_wp2_with fail
        go_ret
        exact ⟨rfl, box_of⟩
  · by_cases h2 : n.kind = 2
    · rw [used_wide h2] at hu
      unfold nodeV
      rw [h2]
      generalize (⟨n.file.toArray⟩ : ByteArray) = fx at *
      generalize (⟨n.c.word.toArray⟩ : ByteArray) = wx at *
      generalize n.c.kind = ck at *
      generalize n.c.n = cn at *
      generalize n.how = hw at *
      generalize n.wide = wd at *
      clear hcheck hjoin hword hfit h15 h2
      by_cases g1 : wd < 1
      · rw [if_pos (.inl g1)] at hu
        subst hu
        go_enter Tryz.func111, Tryz.ntmps111
        go_wp2_with fail
        go_ret
        exact ⟨rfl, box_of⟩
      · by_cases g5 : 5 < wd
        · rw [if_pos (.inr g5)] at hu
          subst hu
          go_enter Tryz.func111, Tryz.ntmps111
          go_wp2_with fail
          go_ret
          exact ⟨rfl, box_of⟩
        · rw [if_neg (by omega)] at hu
          subst hu
          go_enter Tryz.func111, Tryz.ntmps111
          go_wp2_with fail
          go_ret
          exact ⟨rfl, box_of⟩
    · by_cases h3 : n.kind = 3
      · rw [used_work h3] at hu
        rw [← hu] at hcheck
        unfold nodeV
        rw [h3]
        generalize (⟨n.file.toArray⟩ : ByteArray) = fx at *
        generalize (⟨n.c.word.toArray⟩ : ByteArray) = wx at *
        generalize n.c.kind = ck at *
        generalize n.c.n = cn at *
        generalize n.how = hw at *
        generalize n.wide = wd at *
        clear hjoin hword hfit h15 h2 h3 hu
        go_enter Tryz.func111, Tryz.ntmps111
        go_wp2_with fail
        refine (hcheck _).mono ?_
        rintro e w1 ⟨rfl, hb1⟩
        have HB : Hid (Below w.heap.size w w1) := box_of.trans (hb1.mono (by simp))
        clear hb1 hcheck
        go_wp2_with fail
        go_ret
        exact ⟨rfl, HB.out⟩
      · by_cases h4 : n.kind = 4
        · rw [used_join h4] at hu
          rw [← hu] at hjoin
          unfold nodeV
          rw [h4]
          generalize (⟨n.file.toArray⟩ : ByteArray) = fx at *
          generalize (⟨n.c.word.toArray⟩ : ByteArray) = wx at *
          generalize n.c.kind = ck at *
          generalize n.c.n = cn at *
          generalize n.how = hw at *
          generalize n.wide = wd at *
          clear hcheck hword hfit h15 h2 h3 h4 hu
          go_enter Tryz.func111, Tryz.ntmps111
          go_wp2_with fail
          refine (hjoin _).mono ?_
          rintro e w1 ⟨rfl, hb1⟩
          have HB : Hid (Below w.heap.size w w1) := box_of.trans (hb1.mono (by simp))
          clear hb1 hjoin
          go_wp2_with fail
          go_ret
          exact ⟨rfl, HB.out⟩
        · rw [used_none (by omega) h2 h3 h4 (by omega)] at hu
          subst hu
          unfold nodeV
          generalize (⟨n.file.toArray⟩ : ByteArray) = fx at *
          generalize (⟨n.c.word.toArray⟩ : ByteArray) = wx at *
          generalize n.c.kind = ck at *
          generalize n.c.n = cn at *
          generalize n.how = hw at *
          generalize n.wide = wd at *
          generalize n.kind = k at *
          have e1 : (k == 1) = false := by simp; omega
          have e2 : (k == 2) = false := by simp; omega
          have e3 : (k == 3) = false := by simp; omega
          have e4 : (k == 4) = false := by simp; omega
          have e5 : (k == 5) = false := by simp; omega
          clear hcheck hword hfit hjoin
          go_enter Tryz.func111, Tryz.ntmps111
          go_wp2_with fail
          go_ret
          exact ⟨rfl, box_of⟩

theorem nbox_cells {w w' : World} {a b c d e f g h : Value} {t : TypeId} (hb : Below (w.alloc (.cells #[a, b, c, d, e, f, g, h] t)).heap.size (w.alloc (.cells #[a, b, c, d, e, f, g, h] t)) w') :
    w'.cell? ⟨w.heap.size, 0, none⟩ = some a ∧ w'.cell? ⟨w.heap.size, 1, none⟩ = some b ∧ w'.cell? ⟨w.heap.size, 2, none⟩ = some c ∧ w'.cell? ⟨w.heap.size, 3, none⟩ = some d ∧ w'.cell? ⟨w.heap.size, 4, none⟩ = some e ∧ w'.cell? ⟨w.heap.size, 5, none⟩ = some f ∧ w'.cell? ⟨w.heap.size, 6, none⟩ = some g ∧ w'.cell? ⟨w.heap.size, 7, none⟩ = some h := by
  refine ⟨?_, ?_, ?_, ?_, ?_, ?_, ?_, ?_⟩
  all_goals
    rw [hb.cell (by simp), cell_of_row _ _ _ _ _ _ (heap_alloc_new w _)]
    rfl

theorem nodeChk_used {n : SNode} (h : nodeUsed n ≠ 0) : nodeChk n = nodeUsed n := by unfold nodeChk; rw [if_pos h]
theorem nodeChk_form {n : SNode} (h : nodeUsed n = 0) : nodeChk n = if (!mayHave n.kind n.ins.length || hasUnused n) = true then 4 else 0 := by unfold nodeChk; rw [if_neg (by simp [h])]

set_option maxRecDepth 100000 in
set_option maxHeartbeats 8000000 in
theorem checkNode_is (n : SNode) (ai : Option Addr) (ci : Nat) (w : World) (hfit : FitsN n) (hl : n.ins.length ≤ 9223372036854775807) :
    Calls Tryz.prog 75 #[nodeV n ai n.ins.length ci] w fun e w' => e = .returned (.int .i64 (nodeChk n)) ∧ Below w.heap.size w w' := by
  have HU : Hid _ := fun W => checkUsed_is n ai n.ins.length ci W hfit
  have HM : Hid _ := fun W => mayHave_is n.kind n.ins.length W hl
  have HH : Hid _ := fun W => hasUnused_is n ai n.ins.length ci W
  obtain ⟨r, hr⟩ : ∃ r, r = nodeChk n := ⟨_, rfl⟩
  rw [← hr]
  have HR : Hid (r = nodeChk n) := hr
  obtain ⟨u, hu⟩ : ∃ u, u = nodeUsed n := ⟨_, rfl⟩
  have HUU : Hid (u = nodeUsed n) := hu
  have HF : Hid _ := @nodeChk_form n
  have HG : Hid _ := @nodeChk_used n
  rw [← hu] at HU HF HG
  unfold nodeV at HU HH ⊢
  generalize mayHave n.kind n.ins.length = mh at *
  generalize hasUnused n = hu2 at *
  generalize (⟨n.file.toArray⟩ : ByteArray) = fx at *
  generalize (⟨n.c.word.toArray⟩ : ByteArray) = wx at *
  generalize n.c.kind = ck at *
  generalize n.c.n = cn at *
  generalize n.how = hw at *
  generalize n.wide = wd at *
  generalize n.kind = k at *
  generalize n.ins.length = ni at *
  clear hr hu hfit
  go_enter Tryz.func75, Tryz.ntmps75
  go_wp2_with fail
  refine (HU.out _).mono ?_
  rintro e w1 ⟨rfl, hb1⟩
  obtain ⟨x0, x1, x2, x3, x4, x5, x6, x7⟩ := nbox_cells hb1
  have HB1 : Hid (Below w.heap.size w w1) := box_of.trans (hb1.mono (by simp))
  clear hb1 HU
  by_cases hu0 : u = 0
  · subst hu0
    have HE := HF.out rfl
    go_wp2_with fail
    refine (HM.out _).mono ?_
    rintro e w2 ⟨rfl, rfl⟩
    cases mh with
    | false =>
      have hr4 : r = 4 := by rw [HR.out, HE]; rfl
      subst hr4
      clear HE HF HG HM HH
      go_wp2_with fail
      go_ret
      exact ⟨rfl, HB1.out⟩
    | true =>
      have HE2 : Hid _ := HE
      clear HE HM HF HG
      go_wp2_with fail
      refine (HH.out _).mono ?_
      rintro e w3 ⟨rfl, hb3⟩
      have HB3 : Hid (Below w.heap.size w w3) := HB1.out.trans (hb3.mono HB1.out.size)
      clear hb3 HH
      cases hu2 with
      | true =>
        have hr4 : r = 4 := by rw [HR.out, HE2.out]; rfl
        subst hr4
        clear HE2
        go_wp2_with fail
        go_ret
        exact ⟨rfl, HB3.out⟩
      | false =>
        have hr4 : r = 0 := by rw [HR.out, HE2.out]; rfl
        subst hr4
        clear HE2
        go_wp2_with fail
        go_ret
        exact ⟨rfl, HB3.out⟩
  · have hru : r = u := by rw [HR.out, HG.out hu0]
    subst hru
    clear HF HG HM HH HUU HR
    go_wp2_with fail
    go_ret
    exact ⟨rfl, HB1.out⟩
end Go.Proofs.YtkifihcficobnabGreatDoor
