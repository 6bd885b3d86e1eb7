/- What the reference's CheckGraph does. -/
import Derived.Test.YtkifihcficobnabGreatDoorGTaken
import Derived.Test.YtkifihcficobnabGreatDoorGSameE
import Derived.Test.YtkifihcficobnabGreatDoorRefJoin1
import Derived.Test.YtkifihcficobnabGreatDoorPlainE
import Derived.Deep.DeepCutAuto
import Derived.Deep.CutBlock
namespace Go.Proofs.YtkifihcficobnabGreatDoor
open Go.RowKit Go.Gs Go.Maps
set_option linter.unusedVariables false

theorem wf_smallR {k : Nat} (h : k ≤ 60) : (Lit.int .i64 (k : Int)).wf = true := by
  simp [Lit.wf, IntKind.min, IntKind.max, IntKind.signed, IntKind.bits]
  omega
def leastOf (k : Int) : Int := if k = 1 then 0 else 1
def mostOf (k : Int) : Int := if k = 1 then 0 else if k = 4 then 5 else 1
/-- What the walk has found to be wrong, of a node whose kind is known. -/
def badN (k : Int) (m : Nat) (wd ck cn hw : Int) (fe we : Bool) : Bool := !mayHave k m || hasU k wd ck cn hw fe we
theorem nodeChk_bad {n : SNode} (h : nodeUsed n = 0) : nodeChk n = if badN n.kind n.ins.length n.wide n.c.kind n.c.n n.how (⟨n.file.toArray⟩ : ByteArray).toList.isEmpty (⟨n.c.word.toArray⟩ : ByteArray).toList.isEmpty then 4 else 0 := by
  unfold nodeChk badN
  rw [hasU_is, if_neg (by simp [h])]
theorem nodeChk_use {n : SNode} (h : nodeUsed n ≠ 0) : nodeChk n = nodeUsed n := by
  unfold nodeChk
  rw [if_pos h]
theorem used_known {n : SNode} (h : nodeUsed n = 0) : n.kind = 1 ∨ n.kind = 5 ∨ n.kind = 2 ∨ n.kind = 3 ∨ n.kind = 4 := by
  rcases used_kinds h with ⟨h3 | h3, _⟩ | ⟨h3, _, _⟩ | ⟨h3, _⟩ | ⟨h3, _⟩ <;> simp [h3]
/-- nodeUsed, of what a walk sees. -/
def usedX (k wd : Int) (iw : Bool) (ch jc : Int) : Int :=
  if k = 1 ∨ k = 5 then (if iw then 0 else 1) else if k = 2 then (if wd < 1 ∨ 5 < wd then 3 else 0) else if k = 3 then ch else if k = 4 then jc else 4
theorem flags_of {k : Int} (h : k = 1 ∨ k = 5 ∨ k = 2 ∨ k = 3 ∨ k = 4) {bf bw bc bh : Bool} (h1 : bf = decide (k = 1 ∨ k = 5)) (h2 : bw = decide (k = 2)) (h3 : bc = decide (k = 3 ∨ k = 4)) (h4 : bh = decide (k = 4)) :
    (bf = true ∧ bw = false ∧ bc = false ∧ bh = false) ∨ (bf = false ∧ bw = true ∧ bc = false ∧ bh = false) ∨ (bf = false ∧ bw = false ∧ bc = true ∧ bh = false) ∨ (bf = false ∧ bw = false ∧ bc = true ∧ bh = true) := by
  subst h1 h2 h3 h4
  rcases h with rfl | rfl | rfl | rfl | rfl <;> decide
theorem bad_of {k : Int} (h : k = 1 ∨ k = 5 ∨ k = 2 ∨ k = 3 ∨ k = 4) {bf bw bc bh : Bool} (h1 : bf = decide (k = 1 ∨ k = 5)) (h2 : bw = decide (k = 2)) (h3 : bc = decide (k = 3 ∨ k = 4)) (h4 : bh = decide (k = 4)) (m : Nat) (wd ck cn hw : Int) (fe we : Bool) :
    badN k m wd ck cn hw fe we = (decide ((m : Int) < leastOf k) || decide (mostOf k < (m : Int)) || (!bf && !fe) || (!bw && !decide (wd = 0)) || (!bc && !(decide (ck = 0) && we && decide (cn = 0))) || (!bh && !decide (hw = 0))) := by
  have hm : (!mayHave k m) = (decide ((m : Int) < leastOf k) || decide (mostOf k < (m : Int))) := by
    rcases h with rfl | rfl | rfl | rfl | rfl
    all_goals
      simp [mayHave, leastOf, mostOf]
      try (by_cases e : m = 0 <;> simp [e] <;> omega)
      try (by_cases e : m = 1 <;> simp [e] <;> omega)
      try (by_cases e : 1 ≤ m <;> by_cases e2 : m ≤ 5 <;> simp [e, e2] <;> omega)
  subst h1 h2 h3 h4
  unfold badN hasU
  rw [hm]
  simp only [Bool.or_assoc]
theorem usedX_is (n : SNode) : nodeUsed n = usedX n.kind n.wide (isWord n.file) (chk n.c) (jchk n.how n.c) := rfl

set_option maxRecDepth 100000 in
set_option maxHeartbeats 16000000 in
theorem gcheck_ref (ns : List SNode) (ao : Option Addr) (cap : Nat) (w : World) (hr : RNodes w (.slice ao ns.length cap) ns) (hfit : ∀ n ∈ ns, FitsN n) (hkw : ∀ n ∈ ns, (Lit.int .i64 n.c.kind).wf = true) :
    Calls Tryz.prog 33 #[.agg #[.slice ao ns.length cap]] w fun e w' => e = .returned (.int .i64 (gchk ns)) ∧ Below w.heap.size w w' := by
  have hle := rnodes_le hr
  have HR : Hid (RNodes w (.slice ao ns.length cap) ns) := hr
  have HFit : Hid (∀ n ∈ ns, FitsN n) := hfit
  have HKW : Hid (∀ n ∈ ns, (Lit.int .i64 n.c.kind).wf = true) := hkw
  obtain ⟨N, hN⟩ : ∃ N, N = ns.length := ⟨_, rfl⟩
  have HN : Hid (N = ns.length) := hN
  obtain ⟨r, hrr⟩ : ∃ r, r = gchk ns := ⟨_, rfl⟩
  have HRR : Hid (r = gchk ns) := hrr
  rw [← hN, ← hrr]
  rw [← hN] at HR hle
  clear hr hN hrr hfit hkw
  by_cases h60 : 60 < N
  · have hr2 : r = 2 := by rw [HRR.out, gchk_many (by rw [← HN.out]; exact h60)]
    subst hr2
    have hq : (60 : Int) < N := by omega
    clear HR HRR
    go_enter Tryz.func33, Tryz.ntmps33
    go_wp2_with fail
    go_ret
    exact ⟨rfl, box_of⟩
  · have hq : ¬ (60 : Int) < N := by omega
    have hN60 : N ≤ 60 := by omega
    have hmm := @run_makeMap Tryz.prog
    go_enter Tryz.func33, Tryz.ntmps33
    go_wp2_with fail
    go_loopw [27] (fun i wr => ∃ k : Nat, ∃ t : List (Int × Int), k ≤ N ∧ i = .int .i64 k ∧ Hid (t.length ≤ 5 * k) ∧ Hid (gchkL [] ns [] = gchkL (ns.take k) (ns.drop k) t) ∧ Hid (TakenIs wr (plainElem Tryz.prog 4) (w.heap.size + 1) t.length t) ∧ Hid (Below (w.heap.size + 1) (w.alloc (.cells #[.slice ao N cap] 57)) wr)) (fun i _ => N - (intOf i).toNat)
    case atStart => exact ⟨0, [], Nat.zero_le _, rfl, (show _ ≤ _ from Nat.le_refl _), (show _ = _ by simp), taken_made w _ _, (Below.refl _ _).alloc (by simp) _⟩
    case round =>
      obtain ⟨k, t, hk, rfl, HTL, HG, HPA, hbel⟩ := hrel
      obtain ⟨wo, hwo⟩ : ∃ wo, wo = wr := ⟨_, rfl⟩
      subst hwo
      have hgx := gbox_cell hbel.out
      have HBW : Hid (Below w.heap.size w wo) := box_of.trans (hbel.out.mono (by simp))
      by_cases hlt : k < N
      · obtain ⟨n, hn⟩ : ∃ n, ns[k]? = some n := ⟨_, List.getElem?_eq_getElem (by have := HN.out; omega)⟩
        obtain ⟨b, off, ai, ci, rfl, hNA, HP⟩ := HR.out.at hn
        obtain ⟨c0, c1, c2, c3, c4, c5, c6, c7⟩ := hNA.below HBW.out
        have hil := (rports_le HP)
        have hfn := HFit.out n (List.mem_of_getElem? hn)
        have hkn := HKW.out n (List.mem_of_getElem? hn)
        have HIW : Hid _ := fun W => isWord_ref n.file W hfn.1 (isWord n.file) rfl
        have HCC : Hid _ := fun W => check_ref n.c W hkn hfn.2.1
        have HCJ : Hid _ := fun W => jcheck_ref n.how n.c W hkn hfn.2.1
        unfold Cmd.v at HCC HCJ
        have HUX : Hid _ := usedX_is n
        have HNB0 : Hid _ := @nodeChk_bad n
        have HNB1 : Hid _ := @nodeChk_use n
        have HUK : Hid _ := @used_known n
        obtain ⟨nu, hnu⟩ : ∃ nu, nu = nodeUsed n := ⟨_, rfl⟩
        rw [← hnu] at HUX HNB0 HNB1 HUK
        clear hnu
        generalize isWord n.file = iw at HIW HUX
        generalize chk n.c = ch at HCC HUX
        generalize jchk n.how n.c = jc at HCJ HUX
        have HDR : Hid (ns.drop k = n :: ns.drop (k + 1)) := drop_node hn
        have HNN : Hid (ns[k]? = some n) := hn
        have HFN : Hid (FitsN n) := hfn
        obtain ⟨nk, hnk⟩ : ∃ z, z = n.kind := ⟨_, rfl⟩
        have HNK : Hid (nk = n.kind) := hnk
        obtain ⟨ni, hni⟩ : ∃ z, z = n.ins.length := ⟨_, rfl⟩
        have HNI : Hid (ni = n.ins.length) := hni
        have HPW : Hid (RPorts w (.slice ai n.ins.length ci) n.ins) := HP
        rw [← hnk] at HUX HNB0 HUK
        rw [← hni] at c7 hil HPW HNB0
        rw [← hnk] at c0
        generalize (⟨n.file.toArray⟩ : ByteArray) = fx at *
        generalize (⟨n.c.word.toArray⟩ : ByteArray) = wx0 at *
        generalize n.c.kind = ck at *
        generalize n.c.n = cn at *
        generalize n.how = hw at *
        generalize n.wide = wd at *
        clear hn hfn hnk hni HP hNA hkn
        obtain ⟨lo, hlo⟩ : ∃ z, z = leastOf nk := ⟨_, rfl⟩
        have HLO : Hid (lo = leastOf nk) := hlo
        obtain ⟨hi, hhi⟩ : ∃ z, z = mostOf nk := ⟨_, rfl⟩
        have HHI : Hid (hi = mostOf nk) := hhi
        obtain ⟨bf, hbf⟩ : ∃ z, z = decide (nk = 1 ∨ nk = 5) := ⟨_, rfl⟩
        have HBF : Hid (bf = decide (nk = 1 ∨ nk = 5)) := hbf
        obtain ⟨bw, hbw⟩ : ∃ z, z = decide (nk = 2) := ⟨_, rfl⟩
        have HBWW : Hid (bw = decide (nk = 2)) := hbw
        obtain ⟨bc, hbc⟩ : ∃ z, z = decide (nk = 3 ∨ nk = 4) := ⟨_, rfl⟩
        have HBC : Hid (bc = decide (nk = 3 ∨ nk = 4)) := hbc
        obtain ⟨bh, hbh⟩ : ∃ z, z = decide (nk = 4) := ⟨_, rfl⟩
        have HBH : Hid (bh = decide (nk = 4)) := hbh
        clear hlo hhi hbf hbw hbc hbh
        go_upto_block 2 with fail
        have HW0 : Hid (Cells8 (wo.alloc (.cells #[.int .i64 nk, .string fx, .int .i64 ck, .string wx0, .int .i64 cn, .int .i64 hw, .int .i64 wd, .slice ai ni ci] 62)) wo.heap.size (.int .i64 nk) (.string fx) (.int .i64 ck) (.string wx0) (.int .i64 cn) (.int .i64 hw) (.int .i64 wd) (.slice ai ni ci)) := nbox_cells (Below.refl _ _)
        have HBX0 : Hid (Below wo.heap.size wo (wo.alloc (.cells #[.int .i64 nk, .string fx, .int .i64 ck, .string wx0, .int .i64 cn, .int .i64 hw, .int .i64 wd, .slice ai ni ci] 62))) := box_of
        go_cut [6, 7, 8, 9, 10, 11, 12] (fun z6 z7 z8 z9 z10 z11 z12 wx => z6 = .int .i64 nu ∧ z7 = .int .i64 lo ∧ z8 = .int .i64 hi ∧ z9 = .bool bf ∧ z10 = .bool bw ∧ z11 = .bool bc ∧ z12 = .bool bh ∧ Hid (Cells8 wx wo.heap.size (.int .i64 nk) (.string fx) (.int .i64 ck) (.string wx0) (.int .i64 cn) (.int .i64 hw) (.int .i64 wd) (.slice ai ni ci)) ∧ Hid (Below wo.heap.size wo wx))
        case first =>
          as_aux_lemma =>
            clear HG HTL HPA hbel HNB0 HNB1 HUK
            by_cases h1 : nk = 1
            · subst h1
              have hnu : nu = if iw then 0 else 1 := HUX.out
              have q0 : lo = 0 := by rw [HLO.out]; decide
              have q1 : hi = 0 := by rw [HHI.out]; decide
              have q2 : bf = true := by rw [HBF.out]; decide
              have q3 : bw = false := by rw [HBWW.out]; decide
              have q4 : bc = false := by rw [HBC.out]; decide
              have q5 : bh = false := by rw [HBH.out]; decide
              subst q0 q1 q2 q3 q4 q5
              go_wp2_with fail
              refine (HIW.out _).mono ?_
              rintro e w1 ⟨rfl, hb1⟩
              have HW1 := HW0.out.below hb1
              have HB1 : Hid (Below wo.heap.size wo w1) := HBX0.out.trans (hb1.mono HBX0.out.size)
              clear hb1 HW0 HBX0
              cases iw
              all_goals
                subst hnu
                go_wp2_with fail
                go_meet
                exact ⟨rfl, rfl, rfl, rfl, rfl, rfl, rfl, HW1, HB1⟩
            by_cases h5 : nk = 5
            · subst h5
              have hnu : nu = if iw then 0 else 1 := HUX.out
              have q0 : lo = 1 := by rw [HLO.out]; decide
              have q1 : hi = 1 := by rw [HHI.out]; decide
              have q2 : bf = true := by rw [HBF.out]; decide
              have q3 : bw = false := by rw [HBWW.out]; decide
              have q4 : bc = false := by rw [HBC.out]; decide
              have q5 : bh = false := by rw [HBH.out]; decide
              subst q0 q1 q2 q3 q4 q5
              go_wp2_with fail
              refine (HIW.out _).mono ?_
              rintro e w1 ⟨rfl, hb1⟩
              have HW1 := HW0.out.below hb1
              have HB1 : Hid (Below wo.heap.size wo w1) := HBX0.out.trans (hb1.mono HBX0.out.size)
              clear hb1 HW0 HBX0
              cases iw
              all_goals
                subst hnu
                go_wp2_with fail
                go_meet
                exact ⟨rfl, rfl, rfl, rfl, rfl, rfl, rfl, HW1, HB1⟩
            by_cases h2 : nk = 2
            · subst h2
              have hnu : nu = if wd < 1 ∨ 5 < wd then 3 else 0 := HUX.out
              have q0 : lo = 1 := by rw [HLO.out]; decide
              have q1 : hi = 1 := by rw [HHI.out]; decide
              have q2 : bf = false := by rw [HBF.out]; decide
              have q3 : bw = true := by rw [HBWW.out]; decide
              have q4 : bc = false := by rw [HBC.out]; decide
              have q5 : bh = false := by rw [HBH.out]; decide
              subst q0 q1 q2 q3 q4 q5
              by_cases g1 : wd < 1
              · rw [if_pos (.inl g1)] at hnu
                subst hnu
                go_wp2_with fail
                go_meet
                exact ⟨rfl, rfl, rfl, rfl, rfl, rfl, rfl, HW0, HBX0⟩
              · by_cases g5 : 5 < wd
                · rw [if_pos (.inr g5)] at hnu
                  subst hnu
                  go_wp2_with fail
                  go_meet
                  exact ⟨rfl, rfl, rfl, rfl, rfl, rfl, rfl, HW0, HBX0⟩
                · rw [if_neg (by rintro (h | h); exact g1 h; exact g5 h)] at hnu
                  subst hnu
                  go_wp2_with fail
                  go_meet
                  exact ⟨rfl, rfl, rfl, rfl, rfl, rfl, rfl, HW0, HBX0⟩
            by_cases h3 : nk = 3
            · subst h3
              have hnu : nu = ch := HUX.out
              subst hnu
              have q0 : lo = 1 := by rw [HLO.out]; decide
              have q1 : hi = 1 := by rw [HHI.out]; decide
              have q2 : bf = false := by rw [HBF.out]; decide
              have q3 : bw = false := by rw [HBWW.out]; decide
              have q4 : bc = true := by rw [HBC.out]; decide
              have q5 : bh = false := by rw [HBH.out]; decide
              subst q0 q1 q2 q3 q4 q5
              go_wp2_with fail
              refine (HCC.out _).mono ?_
              rintro e w1 ⟨rfl, hb1⟩
              have HW1 := HW0.out.below hb1
              have HB1 : Hid (Below wo.heap.size wo w1) := HBX0.out.trans (hb1.mono HBX0.out.size)
              clear hb1 HW0 HBX0
              go_wp2_with fail
              go_meet
              exact ⟨rfl, rfl, rfl, rfl, rfl, rfl, rfl, HW1, HB1⟩
            by_cases h4 : nk = 4
            · subst h4
              have hnu : nu = jc := HUX.out
              subst hnu
              have q0 : lo = 1 := by rw [HLO.out]; decide
              have q1 : hi = 5 := by rw [HHI.out]; decide
              have q2 : bf = false := by rw [HBF.out]; decide
              have q3 : bw = false := by rw [HBWW.out]; decide
              have q4 : bc = true := by rw [HBC.out]; decide
              have q5 : bh = true := by rw [HBH.out]; decide
              subst q0 q1 q2 q3 q4 q5
              go_wp2_with fail
              refine (HCJ.out _).mono ?_
              rintro e w1 ⟨rfl, hb1⟩
              have HW1 := HW0.out.below hb1
              have HB1 : Hid (Below wo.heap.size wo w1) := HBX0.out.trans (hb1.mono HBX0.out.size)
              clear hb1 HW0 HBX0
              go_wp2_with fail
              go_meet
              exact ⟨rfl, rfl, rfl, rfl, rfl, rfl, rfl, HW1, HB1⟩
            · have hnu : nu = 4 := by rw [HUX.out]; unfold usedX; rw [if_neg (by omega), if_neg h2, if_neg h3, if_neg h4]
              subst hnu
              have e1 : (nk == 1) = false := by simpa using h1
              have e5 : (nk == 5) = false := by simpa using h5
              have e2 : (nk == 2) = false := by simpa using h2
              have e3 : (nk == 3) = false := by simpa using h3
              have e4 : (nk == 4) = false := by simpa using h4
              have q0 : lo = 1 := by rw [HLO.out]; unfold leastOf; rw [if_neg h1]
              have q1 : hi = 1 := by rw [HHI.out]; unfold mostOf; rw [if_neg h1, if_neg h4]
              have q2 : bf = false := by rw [HBF.out, decide_eq_false (by omega)]
              have q3 : bw = false := by rw [HBWW.out, decide_eq_false h2]
              have q4 : bc = false := by rw [HBC.out, decide_eq_false (by omega)]
              have q5 : bh = false := by rw [HBH.out, decide_eq_false h4]
              subst q0 q1 q2 q3 q4 q5
              clear h1 h2 h3 h4 h5
              go_wp2_with fail
              go_meet
              exact ⟨rfl, rfl, rfl, rfl, rfl, rfl, rfl, HW0, HBX0⟩
        case rest =>
          obtain ⟨rfl, rfl, rfl, rfl, rfl, rfl, rfl, HC8, HBX⟩ := hcut
          obtain ⟨v1, hv1⟩ : ∃ v1, v1 = wc := ⟨_, rfl⟩
          subst hv1
          clear HW0 HBX0 HIW HCC HCJ HUX c0 c1 c2 c3 c4 c5 c6 c7
          have HB1 : Hid (Below (w.heap.size + 1) (w.alloc (.cells #[.slice (some ⟨b, off, none⟩) N cap] 57)) v1) := hbel.out.trans (HBX.out.mono (by have := hbel.out.size; simpa using this))
          have HPA1 : Hid (TakenIs v1 (plainElem Tryz.prog 4) (w.heap.size + 1) t.length t) := HPA.out.below HBX.out
          have HNB : Hid (w.heap.size + 1 < wo.heap.size) := (show _ < _ from by obtain ⟨D, h1, _⟩ := HPA.out; exact h1.lt)
          clear hgx HPA
          by_cases hnu0 : nu = 0
          · subst hnu0
            have HKK := HUK.out rfl
            have HNC0 := HNB0.out rfl
            have HFL : Hid _ := flags_of HKK HBF.out HBWW.out HBC.out HBH.out
            have hbd := bad_of HKK HBF.out HBWW.out HBC.out HBH.out ni wd ck cn hw fx.toList.isEmpty wx0.toList.isEmpty
            rw [← HLO.out, ← HHI.out] at hbd
            obtain ⟨bad, hbad⟩ : ∃ z, z = badN nk ni wd ck cn hw fx.toList.isEmpty wx0.toList.isEmpty := ⟨_, rfl⟩
            rw [← hbad] at hbd HNC0
            have HBD : Hid _ := hbd
            have HNC : Hid (nodeChk n = if bad then 4 else 0) := HNC0
            have HK5 : Hid _ := HKK
            clear hbd hbad HNC0 HNB0 HNB1 HUK HLO HHI HBF HBWW HBC HBH HKK
            obtain ⟨y0, y1, y2, y3, y4, y5, y6, y7⟩ := id HC8.out
            go_upto_region 31 with fail
            go_cut [117] (fun z wx => z = .bool bad ∧ wx = v1)
            case first =>
              as_aux_lemma =>
                have hbd := HBD.out
                clear HG HTL HPA1 hbel HB1 HBX HC8 HNC HBD HK5
                obtain ⟨fe, hfe⟩ : ∃ d, fx.toList.isEmpty = d := ⟨_, rfl⟩
                obtain ⟨we, hwe⟩ : ∃ d, wx0.toList.isEmpty = d := ⟨_, rfl⟩
                rw [hfe, hwe] at hbd
                subst hbd
                rcases HFL.out with ⟨rfl, rfl, rfl, rfl⟩ | ⟨rfl, rfl, rfl, rfl⟩ | ⟨rfl, rfl, rfl, rfl⟩ | ⟨rfl, rfl, rfl, rfl⟩
                all_goals
                  go_wp2_with fail
                  all_goals
                    go_meet
                    exact ⟨by simp_all [bne_dec], rfl⟩
            case rest =>
              obtain ⟨rfl, rfl⟩ := hcut
              clear HBD HFL
              cases bad with
              | true =>
                have hr4 : r = 4 := by
                  rw [HRR.out, gchk_bad (by rw [← HN.out]; exact hN60) ((chk_node (HG.out.trans (by rw [HDR.out])) (by rw [HNC.out]; decide)).trans HNC.out) (by decide)]
                  rfl
                subst hr4
                have HBF : Hid (Below w.heap.size w wc) := box_of.trans (HB1.out.mono (by simp))
                clear HG HTL HPA1 hbel HB1 HBX HC8 HNC HK5
                go_wp2_with fail
                go_ret
                exact ⟨rfl, HBF.out⟩
              | false =>
                have HNC0 : Hid (nodeChk n = 0) := HNC.out
                have hni5 : ni ≤ 5 := by rw [HNI.out]; exact ins_small HNC0.out
                clear HNC HK5
                go_wp2_with fail
                go_loopw [121] (fun j wx => ∃ m : Nat, ∃ t' : List (Int × Int), m ≤ ni ∧ j = .int .i64 m ∧ Hid (t'.length ≤ 5 * k + m) ∧ Hid (insChk (ns.take k) n.ins t = insChk (ns.take k) (n.ins.drop m) t') ∧ Hid (TakenIs wx (plainElem Tryz.prog 4) (w.heap.size + 1) t'.length t') ∧ Hid (Cells8 wx wo.heap.size (.int .i64 nk) (.string fx) (.int .i64 ck) (.string wx0) (.int .i64 cn) (.int .i64 hw) (.int .i64 wd) (.slice ai ni ci)) ∧ Hid (Below (w.heap.size + 1) (w.alloc (.cells #[.slice (some ⟨b, off, none⟩) N cap] 57)) wx)) (fun j _ => ni - (intOf j).toNat)
                case atStart => exact ⟨0, t, Nat.zero_le _, rfl, HTL, (show _ = _ by simp), HPA1, HC8, HB1⟩
                case round =>
                  clear HPA1 HC8 HB1 y0 y1 y2 y3 y4 y5 y6 y7 HTL
                  obtain ⟨m, t', hm, rfl, HTL', HI, HPA', HC8, hbel'⟩ := hrel
                  have hgx := gbox_cell hbel'.out
                  have HBW' : Hid (Below w.heap.size w wr) := box_of.trans (hbel'.out.mono (by simp))
                  obtain ⟨y0, y1, y2, y3, y4, y5, y6, y7⟩ := id HC8.out
                  by_cases hmlt : m < ni
                  · obtain ⟨p, hp⟩ : ∃ p, n.ins[m]? = some p := ⟨_, List.getElem?_eq_getElem (by have := HNI.out; omega)⟩
                    obtain ⟨pb, po, hao, p0, p1⟩ := (RPorts.below HPW.out HBW'.out).at hp
                    subst hao
                    have hwfp : WfP p := HFN.out.2.2 p (List.mem_of_getElem? hp)
                    have HDP : Hid (n.ins.drop m = p :: n.ins.drop (m + 1)) := drop_port hp
                    obtain ⟨pp, pq⟩ := p
                    simp only at p0 p1
                    have HWP : Hid (WfP (pp, pq)) := hwfp
                    obtain ⟨po2, hpo2⟩ : ∃ z, z = portOk (ns.take k) (pp, pq) := ⟨_, rfl⟩
                    have HPO : Hid (po2 = portOk (ns.take k) (pp, pq)) := hpo2
                    have HTKL : Hid ((ns.take k).length = k) := (show _ = _ by rw [List.length_take]; have := HN.out; omega)
                    clear hp hwfp hpo2
                    obtain ⟨q0, q1⟩ := pbox_cells (w := wr) (a := .int .i64 pp) (b := .int .i64 pq) (t := 98) (Below.refl _ _)
                    have hgq : (wr.alloc (.cells #[.int .i64 pp, .int .i64 pq] 98)).cell? ⟨w.heap.size, 0, none⟩ = some (.slice (some ⟨b, off, none⟩) N cap) := (box_of.cell (World.block_lt_of_cell? wr _ hgx)).trans hgx
                    go_upto_region 36 with fail
                    go_cut [150] from 125 to 149 (fun z wx => z = .bool (!po2) ∧ Hid (Below (wr.alloc (.cells #[.int .i64 pp, .int .i64 pq] 98)).heap.size (wr.alloc (.cells #[.int .i64 pp, .int .i64 pq] 98)) wx))
                    case first => as_aux_lemma =>
                      have hpo := HPO.out
                      by_cases h0 : pp < 0
                      · have hpf : po2 = false := by rw [hpo, portOk_neg (by simp only; omega)]
                        subst hpf
                        have g0 : decide (pp < 0) = true := decide_eq_true h0
                        clear hpo HPO
                        go_quiet (fail)
                        go_wp2_with fail
                        go_meet
                        exact ⟨rfl, below_drewG _ _ _⟩
                      · have g0 : decide (pp < 0) = false := decide_eq_false h0
                        by_cases h1 : (k : Int) ≤ pp
                        · have hpf : po2 = false := by rw [hpo, portOk_far (by rw [HTKL.out]; simp only; omega)]
                          subst hpf
                          have g1 : decide ((k : Int) ≤ pp) = true := decide_eq_true h1
                          clear hpo HPO
                          go_quiet (fail)
                          go_wp2_with fail
                          go_meet
                          exact ⟨rfl, below_drewG _ _ _⟩
                        · have g1 : decide ((k : Int) ≤ pp) = false := decide_eq_false h1
                          by_cases h2 : pq < 0
                          · have hpf : po2 = false := by rw [hpo, portOk_out (by simp only; omega)]
                            subst hpf
                            have g2 : decide (pq < 0) = true := decide_eq_true h2
                            clear hpo HPO
                            go_quiet (fail)
                            go_wp2_with fail
                            go_meet
                            exact ⟨rfl, below_drewG _ _ _⟩
                          · have g2 : decide (pq < 0) = false := decide_eq_false h2
                            obtain ⟨i, rfl⟩ := Int.eq_ofNat_of_zero_le (show 0 ≤ pp by omega)
                            obtain ⟨x, hx⟩ : ∃ x, ns[i]? = some x := ⟨_, List.getElem?_eq_getElem (by have := HN.out; omega)⟩
                            have hxt : (ns.take k)[i]? = some x := by rw [List.getElem?_take, if_pos (by omega)]; exact hx
                            obtain ⟨b', off', ai', ci', hao', hNA', _⟩ := HR.out.at hx
                            injection hao' with hao'
                            injection hao' with hb' ho' _
                            subst hb' ho'
                            obtain ⟨c0, c1, c2, c3, c4, c5, c6, c7⟩ := hNA'.below HBW'.out
                            have hrv : po2 = decide (pq < nouts x) := by rw [hpo, portOk_at hxt (by omega)]
                            have cF : ∀ d os, Calls Tryz.prog 39 #[nodeV x ai' x.ins.length ci'] (Go.Sort.grow (redrawn (wr.alloc (.cells #[.int .i64 (i : Int), .int .i64 pq] 98)) d) os) fun e w'' => e = .returned (.int .i64 (nouts x)) ∧ ∃ p : Regrown, w'' = Go.Sort.grow (redrawn (wr.alloc (.cells #[.int .i64 (i : Int), .int .i64 pq] 98)) p.d) p.os := fun d os => Calls.regrown_of (outsOf_ref x ai' x.ins.length ci' _)
                            have hbx : ∀ {a : Addr} {v : Value}, wr.cell? a = some v → ∀ d os, (Go.Sort.grow (redrawn (wr.alloc (.cells #[.int .i64 (i : Int), .int .i64 pq] 98)) d) os).cell? a = some v := fun h d os => cell_regrown ((box_of.cell (World.block_lt_of_cell? wr _ h)).trans h) d os
                            have k0 := hbx c0
                            have k1 := hbx c1
                            have k2 := hbx c2
                            have k3 := hbx c3
                            have k4 := hbx c4
                            have k5 := hbx c5
                            have k6 := hbx c6
                            have k7 := hbx c7
                            have kg := hbx hgx
                            have z0 := fun d os => cell_regrown q0 d os
                            have z1 := fun d os => cell_regrown q1 d os
                            unfold nodeV at cF
                            generalize nouts x = no at *
                            generalize (⟨x.file.toArray⟩ : ByteArray) = fx' at *
                            generalize (⟨x.c.word.toArray⟩ : ByteArray) = wx' at *
                            generalize x.c.kind = ck' at *
                            generalize x.c.n = cn' at *
                            generalize x.how = hw' at *
                            generalize x.wide = wd' at *
                            generalize x.kind = nk' at *
                            generalize x.ins.length = ni' at *
                            clear c0 c1 c2 c3 c4 c5 c6 c7 hbx hx hxt hNA' hpo HPO y0 y1 y2 y3 y4 y5 y6 y7 p0 p1 q0 q1 hgx hgq
                            subst hrv
                            refine wp_region_quiet_below (by kernel_rfl) (by kernel_rfl) ?_
                            repeat (first | go_big_quiet_step (exact cF _ _) | quiet_step (exact cF _ _))
                            refine wpQuiet_nil ?_
                            intro _ hw'
                            obtain ⟨⟨dq, osq⟩, hw''⟩ := hw'
                            subst hw''
                            clear cF k0 k1 k2 k3 k4 k5 k6 k7 z0 z1 kg
                            go_wp2_with fail
                            go_meet
                            exact ⟨by by_cases e : pq < no <;> simp [e] <;> omega, below_regrown _ dq osq⟩
                    case rest =>
                      obtain ⟨hz, HBQ⟩ := hcut
                      subst hz
                      obtain ⟨wq, hwq⟩ : ∃ wq, wq = wc := ⟨_, rfl⟩
                      subst hwq
                      obtain ⟨r0, r1⟩ := pbox_cells HBQ.out
                      have t5 : Below wr.heap.size wr wq := box_of.trans (HBQ.out.mono (by simp))
                      have HBQ1 : Hid (Below (w.heap.size + 1) (w.alloc (.cells #[.slice (some ⟨b, off, none⟩) N cap] 57)) wq) := hbel'.out.trans (t5.mono (by have := hbel'.out.size; simpa using this))
                      have HPAq : Hid (TakenIs wq (plainElem Tryz.prog 4) (w.heap.size + 1) t'.length t') := HPA'.out.below t5
                      have HC8q : Hid (Cells8 wq wo.heap.size (.int .i64 nk) (.string fx) (.int .i64 ck) (.string wx0) (.int .i64 cn) (.int .i64 hw) (.int .i64 wd) (.slice (some ⟨pb, po, none⟩) ni ci)) := HC8.out.below t5
                      have HBF : Hid (Below w.heap.size w wq) := box_of.trans (HBQ1.out.mono (by simp))
                      clear t5 HBQ hbel' HPA' HC8 hgx hgq q0 q1 p0 p1 y0 y1 y2 y3 y4 y5 y6 y7 HBW'
                      cases po2 with
                      | false =>
                        have hr5 : r = 5 := by
                          have h5 := ins_who (HI.out.trans (by rw [HDP.out])) HPO.out.symm
                          rw [HRR.out, gchk_bad (by rw [← HN.out]; exact hN60) ((chk_ins (HG.out.trans (by rw [HDR.out])) HNC0.out (by rw [h5]; decide)).trans h5) (by decide)]
                        subst hr5
                        clear HPAq HC8q HBQ1
                        go_wp2_with fail
                        go_ret
                        exact ⟨rfl, HBF.out⟩
                      | true =>
                        obtain ⟨D, hown, hhas, hwfD⟩ := id HPAq.out
                        have hkey := port_key wq (pp, pq) HWP.out
                        have hat := hhas _ HWP.out
                        unfold portV at hkey
                        simp only at hkey
                        have HHas : Hid _ := hhas
                        have HWfD : Hid _ := hwfD
                        clear hhas hwfD
                        by_cases hin : (pp, pq) ∈ t'
                        · have hr6 : r = 6 := by
                            have h6 := ins_twice (HI.out.trans (by rw [HDP.out])) HPO.out.symm hin
                            rw [HRR.out, gchk_bad (by rw [← HN.out]; exact hN60) ((chk_ins (HG.out.trans (by rw [HDR.out])) HNC0.out (by rw [h6]; decide)).trans h6) (by decide)]
                          subst hr6
                          rw [decide_eq_true hin] at hat
                          clear HPAq HC8q HBQ1
                          go_wp2_with (at_lookup; refine wpList_lookup_bool _ rfl _ _ 102 rfl 98 4 portKeyed Tryz.underlying102 Tryz.underlying4 (zeroBoolG _) (w.heap.size + 1) _ D rfl hown _ _ rfl hkey true hat ?_)
                          go_ret
                          exact ⟨rfl, HBF.out⟩
                        · rw [decide_eq_false hin] at hat
                          have hn0 : t'.length < maxLen := by have := HTL'.out; unfold maxLen; omega
                          have HI2 : Hid (insChk (ns.take k) n.ins t = insChk (ns.take k) (n.ins.drop (m + 1)) (t' ++ [(pp, pq)])) := (show _ = _ from ins_next (HI.out.trans (by rw [HDP.out])) HPO.out.symm hin)
                          have HTL2 : Hid ((t' ++ [(pp, pq)]).length ≤ 5 * k + (m + 1)) := (show _ ≤ _ by have := HTL'.out; simp; omega)
                          go_wp2_with (first
                            | (at_lookup; refine wpList_lookup_bool _ rfl _ _ 102 rfl 98 4 portKeyed Tryz.underlying102 Tryz.underlying4 (zeroBoolG _) (w.heap.size + 1) _ D rfl hown _ _ rfl hkey false hat ?_)
                            | (at_mapUpdate; refine wpList_mapUpdate_own _ rfl _ _ _ 102 rfl 98 4 portKeyed Tryz.underlying102 _ (w.heap.size + 1) t'.length D rfl hown hn0 _ _ _ rfl rfl hkey _ [] (plainElem_bool Tryz.underlying4 true) ?_; intro w5 ho5 hg5))
                          have HP5 : Hid (TakenIs w5 (plainElem Tryz.prog 4) (w.heap.size + 1) (t' ++ [(pp, pq)]).length (t' ++ [(pp, pq)])) := (show TakenIs _ _ _ _ _ by
                            have h := TakenIs.put (W := w) hown HHas.out HWfD.out HWP.out ho5
                            simpa using h)
                          have HC85 : Hid (Cells8 w5 wo.heap.size (.int .i64 nk) (.string fx) (.int .i64 ck) (.string wx0) (.int .i64 cn) (.int .i64 hw) (.int .i64 wd) (.slice (some ⟨pb, po, none⟩) ni ci)) := HC8q.out.grown hg5 (by simp only [ne_eq, Option.some.injEq]; have := HNB.out; omega)
                          have HB5 : Hid (Below (w.heap.size + 1) (w.alloc (.cells #[.slice (some ⟨b, off, none⟩) N cap] 57)) w5) := ins_below HBQ1.out hg5
                          clear ho5 hg5 hown HHas HWfD HPAq HC8q HBQ1 hkey hat r0 r1
                          go_wp2_with fail
                          go_roundw
                          case rel => first | exact ⟨m + 1, _, by omega, by go_num, HTL2, HI2, HP5, HC85, HB5⟩ | ((repeat apply Exists.intro); exact ⟨⟨m + 1, _, by omega, by go_num, HTL2, HI2, HP5, HC85, HB5⟩, rfl⟩)
                          case measure => simp [intOf]; omega
                  · have hmn : m = ni := by omega
                    have HID : Hid (insChk (ns.take k) n.ins t = (0, t')) := (show _ = _ from ins_done (HI.out.trans (by rw [List.drop_of_length_le (by rw [← HNI.out]; omega)])))
                    have hlast : (ns.drop (k + 1)).isEmpty = decide ((k : Int) = (N : Int) - 1) := by
                      by_cases e : k + 1 = N
                      · rw [decide_eq_true (by omega), List.isEmpty_iff]; exact List.drop_eq_nil_of_le (by rw [← HN.out]; omega)
                      · rw [decide_eq_false (by omega)]
                        cases hd : ns.drop (k + 1) with
                        | nil => exact absurd (List.drop_eq_nil_iff.1 hd) (by rw [← HN.out]; omega)
                        | cons a b => rfl
                    have HTL2 : Hid (t'.length ≤ 5 * (k + 1)) := (show _ ≤ _ by have := HTL'.out; omega)
                    have HPF : Hid (TakenIs wr (plainElem Tryz.prog 4) (w.heap.size + 1) t'.length t') := HPA'
                    have HBF : Hid (Below (w.heap.size + 1) (w.alloc (.cells #[.slice (some ⟨b, off, none⟩) N cap] 57)) wr) := hbel'
                    by_cases hk5 : nk = 5
                    · subst hk5
                      by_cases hkl : k + 1 = N
                      · have q1 : ((k : Int) == (N : Int) - 1) = true := by simp; omega
                        have he : (ns.drop (k + 1)).isEmpty = decide (n.kind = 5) := by rw [hlast, decide_eq_true (by omega), ← HNK.out]; rfl
                        have HG2 : Hid (gchkL [] ns [] = gchkL (ns.take (k + 1)) (ns.drop (k + 1)) t') := (show _ = _ by
                          rw [chk_next (HG.out.trans (by rw [HDR.out])) HNC0.out (by rw [HID.out]) he, HID.out, take_node HNN.out])
                        clear HG HTL' HI HID hlast he HPA' hbel' HC8
                        go_wp2_with fail
                        go_roundw
                        case rel => first | exact ⟨k + 1, t', by omega, by go_num, HTL2, HG2, HPF, HBF⟩ | ((repeat apply Exists.intro); exact ⟨⟨k + 1, t', by omega, by go_num, HTL2, HG2, HPF, HBF⟩, rfl⟩)
                        case measure => simp [intOf]; omega
                      · have q1 : ((k : Int) == (N : Int) - 1) = false := by simp; omega
                        have he : (ns.drop (k + 1)).isEmpty ≠ decide (n.kind = 5) := by rw [hlast, decide_eq_false (by omega), ← HNK.out]; decide
                        have hr4 : r = 4 := by
                          rw [HRR.out, gchk_bad (by rw [← HN.out]; exact hN60) (chk_last (HG.out.trans (by rw [HDR.out])) HNC0.out (by rw [HID.out]) he) (by decide)]
                        subst hr4
                        clear HG HTL' HI HID hlast he HPA' hbel' HC8
                        go_wp2_with fail
                        go_ret
                        exact ⟨rfl, HBW'.out⟩
                    · have q5 : (nk == 5) = false := by simpa using hk5
                      by_cases hkl : k + 1 = N
                      · have q1 : ((k : Int) == (N : Int) - 1) = true := by simp; omega
                        have he : (ns.drop (k + 1)).isEmpty ≠ decide (n.kind = 5) := by rw [hlast, decide_eq_true (by omega), decide_eq_false (by rw [← HNK.out]; exact hk5)]; decide
                        have hr4 : r = 4 := by
                          rw [HRR.out, gchk_bad (by rw [← HN.out]; exact hN60) (chk_last (HG.out.trans (by rw [HDR.out])) HNC0.out (by rw [HID.out]) he) (by decide)]
                        subst hr4
                        clear HG HTL' HI HID hlast he HPA' hbel' HC8
                        go_wp2_with fail
                        go_ret
                        exact ⟨rfl, HBW'.out⟩
                      · have q1 : ((k : Int) == (N : Int) - 1) = false := by simp; omega
                        have he : (ns.drop (k + 1)).isEmpty = decide (n.kind = 5) := by rw [hlast, decide_eq_false (by omega), decide_eq_false (by rw [← HNK.out]; exact hk5)]
                        have HG2 : Hid (gchkL [] ns [] = gchkL (ns.take (k + 1)) (ns.drop (k + 1)) t') := (show _ = _ by
                          rw [chk_next (HG.out.trans (by rw [HDR.out])) HNC0.out (by rw [HID.out]) he, HID.out, take_node HNN.out])
                        clear HG HTL' HI HID hlast he HPA' hbel' HC8
                        go_wp2_with fail
                        go_roundw
                        case rel => first | exact ⟨k + 1, t', by omega, by go_num, HTL2, HG2, HPF, HBF⟩ | ((repeat apply Exists.intro); exact ⟨⟨k + 1, t', by omega, by go_num, HTL2, HG2, HPF, HBF⟩, rfl⟩)
                        case measure => simp [intOf]; omega
          · have hrn : r = nu := by rw [HRR.out, gchk_bad (by rw [← HN.out]; exact hN60) ((chk_node (HG.out.trans (by rw [HDR.out])) (by rw [HNB1.out hnu0]; exact hnu0)).trans (HNB1.out hnu0)) hnu0]
            subst hrn
            have HBF : Hid (Below w.heap.size w v1) := box_of.trans (HB1.out.mono (by simp))
            clear HC8 HB1 HPA1 HG HTL
            go_wp2_with fail
            go_ret
            exact ⟨rfl, HBF.out⟩
      · have hkN : k = N := by omega
        have HGE : Hid (gchkL [] ns [] = (0, t)) := (show _ = _ by rw [HG.out, List.drop_of_length_le (by rw [← HN.out]; omega)]; rfl)
        have hend := gchk_end (by rw [← HN.out]; exact hN60) HGE.out
        rw [← HRR.out, ← HN.out] at hend
        by_cases hN0 : N = 0
        · subst hN0
          rw [if_pos (.inl rfl)] at hend
          subst hend
          clear HG HGE HPA HTL
          go_wp2_with fail
          go_ret
          exact ⟨rfl, HBW.out⟩
        · have e0 : ((N : Int) == 0) = false := by simp; omega
          have HEND : Hid (r = if N = 0 ∨ (t.length : Int) ≠ allOuts ns then 4 else 0) := hend
          have HTI : Hid _ := taken_iff HGE.out
          have HNC : Hid (∀ (i : Nat) (n : SNode), ns[i]? = some n → nodeChk n = 0) := (show ∀ i n, _ → _ from fun i n hi => by
            obtain ⟨_, _, h1, _⟩ := gchkL_take ns [] [] (by rw [HGE.out]) i n hi
            exact h1)
          have HBo : Hid (Below (w.heap.size + 1) (w.alloc (.cells #[.slice ao N cap] 57)) wo) := hbel
          have HT0 : Hid (TakenIs wo (plainElem Tryz.prog 4) (w.heap.size + 1) t.length t) := HPA
          clear HG HTL hend HGE HPA hbel hk hkN
          go_wp2_with fail
          go_loopw [176] (fun i wx => ∃ m : Nat, m ≤ N ∧ i = .int .i64 m ∧ Hid (TakenIs wx (plainElem Tryz.prog 4) (w.heap.size + 1) t.length t) ∧ Hid (Below (w.heap.size + 1) (w.alloc (.cells #[.slice ao N cap] 57)) wx) ∧ Hid (∀ (i q : Nat) (n : SNode), i < m → ns[i]? = some n → (q : Int) < nouts n → ((i : Int), (q : Int)) ∈ t)) (fun i _ => N - (intOf i).toNat)
          case atStart => exact ⟨0, Nat.zero_le _, rfl, HT0, HBo, (show ∀ i q n, _ → _ from fun i q n h => absurd h (Nat.not_lt_zero _))⟩
          case round =>
            clear HT0 HBo hgx HBW
            obtain ⟨m, hm, rfl, HT, HB, HALL⟩ := hrel
            obtain ⟨wp, hwp⟩ : ∃ wp, wp = wr := ⟨_, rfl⟩
            subst hwp
            have hgx := gbox_cell HB.out
            have HBW : Hid (Below w.heap.size w wp) := box_of.trans (HB.out.mono (by simp))
            by_cases hmlt : m < N
            · obtain ⟨n, hn⟩ : ∃ n, ns[m]? = some n := ⟨_, List.getElem?_eq_getElem (by have := HN.out; omega)⟩
              obtain ⟨b, off, ai, ci, hao, hNA, HP⟩ := HR.out.at hn
              subst hao
              obtain ⟨c0, c1, c2, c3, c4, c5, c6, c7⟩ := hNA.below HBW.out
              obtain ⟨hno0, hno5⟩ := nouts_small (HNC.out m n hn)
              obtain ⟨no, hno⟩ := Int.eq_ofNat_of_zero_le hno0
              have HOU : Hid _ := fun (W : World) => outsOf_ref n ai n.ins.length ci W
              rw [hno] at HOU hno5
              have HNO : Hid (nouts n = (no : Int)) := hno
              have HNN : Hid (ns[m]? = some n) := hn
              unfold nodeV at HOU
              generalize (⟨n.file.toArray⟩ : ByteArray) = fx at *
              generalize (⟨n.c.word.toArray⟩ : ByteArray) = wx0 at *
              generalize n.c.kind = ck at *
              generalize n.c.n = cn at *
              generalize n.how = hw at *
              generalize n.wide = wd at *
              generalize n.kind = nk at *
              generalize n.ins.length = ni at *
              have HTb : Hid _ := fun (W : World) (hb : Below wp.heap.size wp W) => TakenIs.below HT.out hb
              clear hn hno hno0 hNA HP
              go_wp2_with fail
              refine (HOU.out _).mono ?_
              rintro e w6 ⟨rfl, hb6⟩
              have t6 : Below wp.heap.size wp w6 := box_of.trans (hb6.mono (by simp))
              have HT6 : Hid (TakenIs w6 (plainElem Tryz.prog 4) (w.heap.size + 1) t.length t) := HTb.out _ t6
              have HB6 : Hid (Below (w.heap.size + 1) (w.alloc (.cells #[.slice (some ⟨b, off, none⟩) N cap] 57)) w6) := HB.out.trans (t6.mono (by have := HB.out.size; simpa using this))
              clear hb6 t6 HOU HT HB HTb hgx HBW c0 c1 c2 c3 c4 c5 c6 c7
              go_wp2_with fail
              go_loopw [183] (fun i wx => ∃ q : Nat, q ≤ no ∧ i = .int .i64 q ∧ Hid (TakenIs wx (plainElem Tryz.prog 4) (w.heap.size + 1) t.length t) ∧ Hid (Below (w.heap.size + 1) (w.alloc (.cells #[.slice (some ⟨b, off, none⟩) N cap] 57)) wx) ∧ Hid (∀ j : Nat, j < q → ((m : Int), (j : Int)) ∈ t)) (fun i _ => no - (intOf i).toNat)
              case atStart => exact ⟨0, Nat.zero_le _, rfl, HT6, HB6, (show ∀ j : Nat, _ → _ from fun j h => absurd h (Nat.not_lt_zero _))⟩
              case round =>
                clear HT6 HB6
                obtain ⟨q, hq, rfl, HT, HB, HQ⟩ := hrel
                by_cases hqlt : q < no
                · obtain ⟨D, hown, hhas, hwf⟩ := id HT.out
                  have hwp2 : WfP ((m : Int), (q : Int)) := ⟨wf_smallR (by omega), wf_smallR (by omega)⟩
                  have hkey := port_key wr ((m : Int), (q : Int)) hwp2
                  have hat := hhas _ hwp2
                  unfold portV at hkey
                  simp only at hkey
                  have HHAS : Hid _ := hhas
                  obtain ⟨dd, hdd⟩ : ∃ d, d = decide (((m : Int), (q : Int)) ∈ t) := ⟨_, rfl⟩
                  rw [← hdd] at hat
                  have HDD : Hid (dd = decide (((m : Int), (q : Int)) ∈ t)) := hdd
                  clear hhas hwf hwp2 hdd
                  cases dd with
                  | false =>
                    have hr4 : r = 4 := by
                      rw [HEND.out, if_pos]
                      refine Or.inr (fun e => ?_)
                      have h1 := (HTI.out.1 e) m q n HNN.out (by rw [HNO.out]; omega)
                      have h2 := HDD.out
                      rw [decide_eq_true h1] at h2
                      cases h2
                    subst hr4
                    have HBF : Hid (Below w.heap.size w wr) := box_of.trans (HB.out.mono (by simp))
                    clear HALL HQ HEND HTI HNC HNN HNO HDD HT HB HHAS
                    go_wp2_with (at_lookup; refine wpList_lookup_bool _ rfl _ _ 102 rfl 98 4 portKeyed Tryz.underlying102 Tryz.underlying4 (zeroBoolG _) (w.heap.size + 1) _ D rfl hown _ _ rfl hkey false hat ?_)
                    go_ret
                    exact ⟨rfl, HBF.out⟩
                  | true =>
                    have HQ2 : Hid (∀ j : Nat, j < q + 1 → ((m : Int), (j : Int)) ∈ t) := (show ∀ j : Nat, _ → _ from fun j hj => by
                      by_cases e : j = q
                      · subst e; exact of_decide_eq_true HDD.out.symm
                      · exact HQ.out j (by omega))
                    clear HALL HQ HEND HTI HNC HNN HNO HDD HHAS
                    go_wp2_with (at_lookup; refine wpList_lookup_bool _ rfl _ _ 102 rfl 98 4 portKeyed Tryz.underlying102 Tryz.underlying4 (zeroBoolG _) (w.heap.size + 1) _ D rfl hown _ _ rfl hkey true hat ?_)
                    go_roundw
                    case rel => exact ⟨q + 1, by omega, by go_num, HT, HB, HQ2⟩
                    case measure => simp [intOf]; omega
                · have hqn : no = q := by omega
                  have HALL2 : Hid (∀ (i q : Nat) (n : SNode), i < m + 1 → ns[i]? = some n → (q : Int) < nouts n → ((i : Int), (q : Int)) ∈ t) := (show ∀ (i q : Nat) (n : SNode), _ → _ → _ → _ from fun i j x hi hx hj => by
                    by_cases e : i = m
                    · subst e
                      rw [HNN.out] at hx
                      injection hx with hx
                      subst hx
                      rw [HNO.out] at hj
                      exact HQ.out j (by omega)
                    · exact HALL.out i j x (by omega) hx hj)
                  clear HALL HQ HEND HTI HNC HNN HNO
                  go_wp2_with fail
                  go_roundw
                  case rel => exact ⟨m + 1, by omega, by go_num, HT, HB, HALL2⟩
                  case measure => simp [intOf]; omega
            · have hmN : N = m := by omega
              have hr0 : r = 0 := by
                rw [HEND.out, if_neg]
                rintro (h | h)
                · exact hN0 h
                · refine h (HTI.out.2 (fun i q n hi hq => HALL.out i q n ?_ hi hq))
                  have := (List.getElem?_eq_some_iff.1 hi).1
                  have := HN.out
                  omega
              subst hr0
              clear HALL HEND HTI HNC HT HB
              go_wp2_with fail
              go_ret
              exact ⟨rfl, HBW.out⟩
end Go.Proofs.YtkifihcficobnabGreatDoor
