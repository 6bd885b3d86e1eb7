/- What the reference's CheckLine does. -/
import Derived.Test.YtkifihcficobnabDoorDevScript1
import Derived.Test.YtkifihcficobnabDoorRefCheck2
namespace Go.Proofs.YtkifihcficobnabDoor
open Go.RowKit Go.Gs
set_option linter.unusedVariables false

/-- The kinds of a line's commands are numbers of the machine. -/
def WfL (x : SLine) : Prop := ∀ c ∈ x.cs, (Lit.int .i64 c.kind).wf = true
theorem lbox_cells {w w' : World} {a b c : Value} {t : TypeId} (h : Below (w.alloc (.cells #[a, b, c] t)).heap.size (w.alloc (.cells #[a, b, c] t)) w') : w'.cell? ⟨w.heap.size, 0, none⟩ = some a ∧ w'.cell? ⟨w.heap.size, 1, none⟩ = some b ∧ w'.cell? ⟨w.heap.size, 2, none⟩ = some c := by
  refine ⟨?_, ?_, ?_⟩
  all_goals
    rw [h.cell (by simp), cell_of_row _ _ _ _ _ _ (heap_alloc_new w _)]
    rfl

set_option maxRecDepth 100000 in
set_option maxHeartbeats 4000000 in
theorem checkLine_rmany (x : SLine) (af ad : Option Addr) (NF ND cf cd : Nat) (sx : ByteArray) (w : World) (h : NF < 1 ∨ 4 < NF ∨ 6 < ND) (hm1 : NF ≤ maxLen) (hm2 : ND ≤ maxLen) :
    Calls Tryd.prog 9 #[.agg #[.slice af NF cf, .slice ad ND cd, .string sx]] w fun e w' => e = .returned (.int .i64 2) ∧ Below w.heap.size w w' := by
  unfold maxLen at hm1 hm2
  by_cases h1 : NF < 1
  · obtain rfl : NF = 0 := by omega
    go_enter Tryd.func9, Tryd.ntmps9
    go_wp2_with fail
    go_ret
    exact ⟨rfl, box_of⟩
  · by_cases h2 : 4 < NF
    · have h1' : ¬ ((NF : Int) < 1) := by omega
      have h2' : (4 : Int) < NF := by omega
      clear h
      go_enter Tryd.func9, Tryd.ntmps9
      go_wp2_with fail
      go_ret
      exact ⟨rfl, box_of⟩
    · have h1' : ¬ ((NF : Int) < 1) := by omega
      have h2' : ¬ (4 : Int) < NF := by omega
      have h3' : (6 : Int) < ND := by omega
      clear h
      go_enter Tryd.func9, Tryd.ntmps9
      go_wp2_with fail
      go_ret
      exact ⟨rfl, box_of⟩

set_option maxRecDepth 100000 in
set_option maxHeartbeats 4000000 in
theorem checkLine_ref (x : SLine) (af ad : Option Addr) (cf cd : Nat) (w : World) (hf : Reads w (.slice af x.fr.length cf) x.fr.length (x.fr.map S)) (hd : RCmds w (.slice ad x.cs.length cd) x.cs) (hfit : FitsL x) (hwf : WfL x) :
    Calls Tryd.prog 9 #[.agg #[.slice af x.fr.length cf, .slice ad x.cs.length cd, .string ⟨x.to.toArray⟩]] w fun e w' => e = .returned (.int .i64 (lchk x)) ∧ Below w.heap.size w w' := by
  by_cases hm : x.fr.length < 1 ∨ 4 < x.fr.length ∨ 6 < x.cs.length
  · rw [lchk_many hm]
    obtain ⟨_, _, e1, a1, a2⟩ := hf.shape
    obtain ⟨_, _, e2, b1, b2⟩ := hd.shape
    exact checkLine_rmany x af ad _ _ cf cd _ w hm (by omega) (by omega)
  · have HF : Hid (Reads w (.slice af x.fr.length cf) x.fr.length (x.fr.map S)) := hf
    have HD : Hid (RCmds w (.slice ad x.cs.length cd) x.cs) := hd
    have HM : Hid _ := hm
    have HFit : Hid _ := hfit
    have HWf : Hid (WfL x) := hwf
    obtain ⟨NF, hNF⟩ : ∃ N, N = x.fr.length := ⟨_, rfl⟩
    obtain ⟨ND, hND⟩ : ∃ N, N = x.cs.length := ⟨_, rfl⟩
    have HNF : Hid (NF = x.fr.length) := hNF
    have HND : Hid (ND = x.cs.length) := hND
    have h1 : 1 ≤ NF := by omega
    have h2 : NF ≤ 4 := by omega
    have h3 : ND ≤ 6 := by omega
    have hWt := fun W => isWord_ref x.to W hfit.2.2 _ rfl
    rw [← hNF, ← hND]
    rw [← hNF] at HF
    rw [← hND] at HD
    obtain ⟨sx, hsx⟩ : ∃ sx : ByteArray, sx = ⟨x.to.toArray⟩ := ⟨_, rfl⟩
    rw [← hsx] at hWt ⊢
    obtain ⟨wt, hwt⟩ : ∃ b, b = isWord x.to := ⟨_, rfl⟩
    have HWT : Hid (wt = isWord x.to) := hwt
    rw [← hwt] at hWt
    clear hNF hND hf hd hm hfit hsx hwt hwf
    go_enter Tryd.func9, Tryd.ntmps9
    go_wp2_with fail
    go_loopw [27] (fun i wr => ∃ k : Nat, k ≤ NF ∧ i = .int .i64 k ∧ Hid (Below (w.alloc (.cells #[.slice af NF cf, .slice ad ND cd, .string sx] 32)).heap.size (w.alloc (.cells #[.slice af NF cf, .slice ad ND cd, .string sx] 32)) wr) ∧ Hid (∀ s ∈ x.fr.take k, isWord s = true)) (fun i _ => NF - (intOf i).toNat)
    case atStart => exact ⟨0, Nat.zero_le _, rfl, Below.refl _ _, (show ∀ s ∈ x.fr.take 0, isWord s = true by simp)⟩
    case round =>
      obtain ⟨k, hk, rfl, hB0, hall⟩ := hrel
      obtain ⟨bx0, bx1, bx2⟩ := lbox_cells hB0.out
      have HB0 : Hid (Below w.heap.size w wr) := box_of.trans (hB0.out.mono (by simp))
      by_cases hlt : k < NF
      · obtain ⟨s, hs⟩ : ∃ s, x.fr[k]? = some s := ⟨_, List.getElem?_eq_getElem (by have := HNF.out; omega)⟩
        have HS : Hid (x.fr[k]? = some s) := hs
        obtain ⟨b, off, rfl, hcell⟩ := HF.out.at hs
        have hcell' := HB0.out.cell (World.block_lt_of_cell? w _ hcell)
        rw [hcell] at hcell'
        have hWs := fun W => isWord_ref s W (HFit.out.1 s (List.mem_of_getElem? hs)) _ rfl
        generalize (⟨s.toArray⟩ : ByteArray) = sy at *
        clear hcell hs
        cases hw : isWord s with
        | false =>
          have HR : Hid (lchk x = 1) := lchk_from HM.out HS.out hw
          rw [hw] at hWs
          clear hw hall
          go_wp2_with fail
          refine (hWs _).mono ?_
          rintro e w1 ⟨rfl, hb1⟩
          have HB1 : Hid (Below w.heap.size w w1) := HB0.out.trans (hb1.mono HB0.out.size)
          clear hb1
          go_wp2_with fail
          go_ret
          exact ⟨by rw [HR.out]; rfl, HB1.out⟩
        | true =>
          have HA : Hid (∀ s ∈ x.fr.take (k + 1), isWord s = true) := take_all HS.out hall.out hw
          rw [hw] at hWs
          clear hw hall
          go_wp2_with fail
          refine (hWs _).mono ?_
          rintro e w1 ⟨rfl, hb1⟩
          have HB1 : Hid _ := hB0.out.trans (hb1.mono hB0.out.size)
          clear hb1
          go_wp2_with fail
          go_roundw
          case rel => exact ⟨k + 1, by omega, by go_num, HB1, HA⟩
          case measure => simp [intOf]; omega
      · have hall' : x.fr.all isWord = true := by
          have e := hall.out
          rw [List.take_of_length_le (by have := HNF.out; omega)] at e
          exact List.all_eq_true.2 e
        have HA : Hid _ := hall'
        clear hall hall'
        cases wt with
        | false =>
          have HR : Hid (lchk x = 1) := lchk_to HM.out HA.out HWT.out.symm
          clear HM HA
          go_wp2_with fail
          refine (hWt _).mono ?_
          rintro e w1 ⟨rfl, hb1⟩
          have HB1 : Hid (Below w.heap.size w w1) := HB0.out.trans (hb1.mono HB0.out.size)
          clear hb1
          go_wp2_with fail
          go_ret
          exact ⟨by rw [HR.out]; rfl, HB1.out⟩
        | true =>
          have HR : Hid (lchk x = firstBad (x.cs.map chk)) := lchk_do HM.out HA.out HWT.out.symm
          clear HM HA
          go_wp2_with fail
          refine (hWt _).mono ?_
          rintro e w1 ⟨rfl, hb1⟩
          obtain ⟨by0, by1, by2⟩ := lbox_cells (hB0.out.trans (hb1.mono hB0.out.size))
          have HB1 : Hid (Below w.heap.size w w1) := HB0.out.trans (hb1.mono HB0.out.size)
          clear hb1 hWt bx0 bx1 bx2 hB0 HB0
          go_wp2_with fail
          go_loopw [42] (fun i wr => ∃ k : Nat, k ≤ ND ∧ i = .int .i64 k ∧ Hid (Below w.heap.size w wr) ∧ Hid (∀ c ∈ x.cs.take k, chk c = 0)) (fun i _ => ND - (intOf i).toNat)
          case atStart => exact ⟨0, Nat.zero_le _, rfl, HB1, (show ∀ c ∈ x.cs.take 0, chk c = 0 by simp)⟩
          case round =>
            obtain ⟨k, hk, rfl, hbel, hall⟩ := hrel
            by_cases hlt : k < ND
            · obtain ⟨c, hc⟩ : ∃ c, x.cs[k]? = some c := ⟨_, List.getElem?_eq_getElem (by have := HND.out; omega)⟩
              have HS : Hid (x.cs[k]? = some c) := hc
              obtain ⟨b, off, rfl, hc0, hc1, hc2⟩ := (RCmds.below HD.out hbel.out).at hc
              have hCk := fun W => check_ref c W (HWf.out c (List.mem_of_getElem? hc)) (HFit.out.2.1 c (List.mem_of_getElem? hc))
              unfold Cmd.v at hCk
              generalize hr : chk c = r at *
              have HRr : Hid (chk c = r) := hr
              generalize c.kind = ck at *
              generalize c.n = cn at *
              generalize (⟨c.word.toArray⟩ : ByteArray) = sy at *
              clear hc hr
              go_wp2_with fail
              refine (hCk _).mono ?_
              rintro e w1 ⟨rfl, hb1⟩
              have HB : Hid (Below w.heap.size w w1) := (hbel.out.alloc hbel.out.size _).trans (hb1.mono (by simp; exact Nat.le_succ_of_le hbel.out.size))
              clear hb1 hbel
              by_cases hr0 : r = 0
              · subst hr0
                have HA : Hid (∀ c ∈ x.cs.take (k + 1), chk c = 0) := take_all HS.out hall.out HRr.out
                clear hall
                go_wp2_with fail
                go_roundw
                case rel => exact ⟨k + 1, by omega, by go_num, HB, HA⟩
                case measure => simp [intOf]; omega
              · have HA : Hid (lchk x = r) := (show _ = _ from by rw [HR.out, firstBad_at HS.out hall.out (by rw [HRr.out]; exact hr0), HRr.out])
                clear hall
                go_wp2_with fail
                go_ret
                exact ⟨by rw [HA.out]; rfl, HB.out⟩
            · have HA : Hid (lchk x = 0) := by
                show _ = _
                rw [HR.out]
                have e := hall.out
                rw [List.take_of_length_le (by have := HND.out; omega)] at e
                exact firstBad_none e
              clear hall HR
              go_wp2_with fail
              go_ret
              exact ⟨by rw [HA.out]; rfl, hbel.out⟩
end Go.Proofs.YtkifihcficobnabDoor
