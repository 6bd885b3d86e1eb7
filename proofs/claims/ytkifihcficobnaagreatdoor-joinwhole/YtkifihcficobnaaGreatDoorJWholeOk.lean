/- The walk of the sentence on the whole. -/
import Derived.Test.YtkifihcficobnaaGreatDoorJWholeF
namespace Go.Proofs.YtkifihcficobnaaGreatDoor
open Go.RowKit Go.Gs
set_option linter.unusedVariables false

theorem infoBy : (Tryz.prog.info? 5).map (fun i => (i.zero, i.size, i.bytes)) = some (some (.int .u8 0), 1, 1) := by kernel_rfl
theorem infoBs : (Tryz.prog.info? 24).map (fun i => (i.zero, i.size, i.bytes)) = some (some (.slice none 0 0), 1, 24) := by kernel_rfl
theorem howFor_range (k : Int) : howFor k = 1 ∨ howFor k = 2 ∨ howFor k = 3 ∨ howFor k = 4 := by
  have := howFor_cases k
  omega
theorem done_len (c : Cmd) (hc : chk c = 0) (bss : List (List UInt8)) (h : bss.flatten.length ≤ 2000) : (bss.map (doOut c)).flatten.length ≤ bss.flatten.length + 6 * bss.length := by
  have : ∀ p ∈ bss, p.length ≤ 9999 := fun p hp => Nat.le_trans (flat_mem_le hp) (by omega)
  clear h
  induction bss with
  | nil => simp
  | cons p r ih =>
    have h1 := doOut_len c hc p (this p (by simp))
    have h2 := ih (fun q hq => this q (by simp [hq]))
    simp only [List.map_cons, List.flatten_cons, List.length_append, List.length_cons]
    omega

set_option maxRecDepth 100000 in
set_option maxHeartbeats 8000000 in
theorem whole_ok (k n : Int) (word : List UInt8) (ao : Option Addr) (cap : Nat) (bss : List (List UInt8)) (w : World) (hw : word.length ≤ 9223372036854775807) (h1 : RList w (.slice ao bss.length cap) U bss) (h2 : KnownE w) (h3 : w.ShapedOpen Tryz.prog)
    (hc : chk ⟨k, word, n⟩ = 0) (h0 : bss.length ≠ 0) (h5 : bss.length ≤ 5) (hT : bss.flatten.length ≤ 2000) :
    Calls Tryz.prog 7 #[.agg #[.int .i64 k, .string ⟨word.toArray⟩, .int .i64 n], .slice ao bss.length cap] w fun e w' => e = .returned (.bool true) ∧ Below w.heap.size w w' := by
  obtain ⟨i0, hi, hz0, hz1, hz2⟩ := info_parts infoBy
  obtain ⟨i1, hi', hy0, hy1, hy2⟩ := info_parts infoBs
  have hcap : bss.length ≤ cap ∧ cap ≤ 9223372036854775807 := by
    obtain ⟨ao', cap', e, h1', h2'⟩ := h1.shape
    injection e with e1 e2 e3
    subst e3
    exact ⟨h1', by simpa [maxLen] using h2'⟩
  obtain ⟨hcN, hcm⟩ := hcap
  have J0 : Hid (JA w _ ⟨k, word, n⟩ (.slice ao bss.length cap) bss) := JA.start (c := ⟨k, word, n⟩) h1 h2 h3
  have hF := fun W => for_is ⟨k, word, n⟩ W hw
  rw [hc, if_pos rfl] at hF
  have hDO := fun (v : Value) (bs : List UInt8) (W : World) hr hn hK => do_ok ⟨k, word, n⟩ v bs W hw hc hr hn hK
  unfold Cmd.v at hF hDO
  simp only at hF hDO
  have HDO : Hid _ := hDO
  have HTD : Hid ((bss.map (doOut ⟨k, word, n⟩)).flatten.length ≤ 4000) := by have := done_len ⟨k, word, n⟩ hc bss hT; exact Nat.le_trans this (by omega)
  have HT2 : Hid (bss.flatten.length ≤ 2000) := hT
  have HTB : Hid (bss.flatten.length ≤ 4000) := Nat.le_trans hT (by omega)
  have hrange := howFor_range k
  obtain ⟨hh, hHH⟩ : ∃ hh, hh = howFor k := ⟨_, rfl⟩
  have HHH : Hid (hh = howFor k) := hHH
  rw [← hHH] at hF hrange
  obtain ⟨N, hN⟩ : ∃ N, N = bss.length := ⟨_, rfl⟩
  have HN : Hid (N = bss.length) := hN
  have hsm := fun (W : World) (h : RList W (.slice ao bss.length cap) U bss) => small_list _ bss W h (by omega) (fun p hp => Nat.le_trans (flat_mem_le hp) (by omega))
  rw [decide_eq_true hT] at hsm
  have HAL : Hid ((allOf bss N).length ≤ 4000) := Nat.le_trans (allOf_len bss N) (by omega)
  have HALk : Hid (∀ k, (allOf bss k).length ≤ 4000) := fun k => Nat.le_trans (allOf_len bss k) (by omega)
  rw [← hN] at h0 h5 hcN J0 hsm ⊢
  have HC : Hid (chk ⟨k, word, n⟩ = 0) := hc
  have HW : Hid (word.length ≤ 9223372036854775807) := hw
  have HSM : Hid _ := hsm
  clear h1 h2 h3 hc hw hDO hHH hN hT hsm
  have hN0 : ((N : Int) == 0) = false := by simp; omega
  go_enter Tryz.func7, Tryz.ntmps7
  go_wp2_with fail
  refine (hF _).mono ?_
  rintro e w1 ⟨rfl, hb1⟩
  have J1 : Hid (JA w w1 ⟨k, word, n⟩ (.slice ao N cap) bss) := J0.out.below hb1
  clear hb1 hF J0
  go_wp2_with fail
  refine (spliced_true _ J1.out.2.2.1).mono ?_
  rintro e w2 ⟨rfl, hb2⟩
  have J2 : Hid (JA w w2 ⟨k, word, n⟩ (.slice ao N cap) bss) := J1.out.below hb2
  clear hb2 J1
  have hs2 := HSM.out w2 J2.out.2.1
  go_wp2_with fail
  refine hs2.mono ?_
  rintro e w3 ⟨rfl, hw3⟩
  obtain rfl : w2 = w3 := hw3.symm
  clear hs2 hw3 HSM
  go_wp2_with fail
  go_loopw [7, 8, 46] (fun v7 v8 i wr => ∃ j : Nat, j ≤ N ∧ i = .int .i64 j ∧ Hid (WRel w2 wr ⟨k, word, n⟩ bss j j v7 v8)) (fun _ _ i _ => N - (intOf i).toNat)
  case atStart => exact ⟨0, Nat.zero_le _, rfl, WRel.start⟩
  case round =>
    obtain ⟨j, hj, rfl, hrel⟩ := hrel
    have HBr : Hid (Below w2.heap.size w2 wr) := by obtain ⟨us, _, _, _, _, h5⟩ := hrel.out; exact h5
    have JR : Hid (JA w wr ⟨k, word, n⟩ (.slice ao N cap) bss) := J2.out.below HBr.out
    obtain ⟨x0, x1, x2⟩ := JR.out.1
    by_cases hlt : j < N
    · obtain ⟨p, hpk⟩ : ∃ p, bss[j]? = some p := ⟨_, List.getElem?_eq_getElem (by have := HN.out; omega)⟩
      have HPK : Hid (bss[j]? = some p) := hpk
      obtain ⟨b, off, au, cu, rfl, hcell2, hru2⟩ := J2.out.2.1.at hpk
      have hcell : wr.cell? ⟨b, off + j, none⟩ = some (.slice au p.length cu) := (HBr.out.cell (World.block_lt_of_cell? w2 _ hcell2)).trans hcell2
      have HRU2 : Hid (Reads w2 (.slice au p.length cu) p.length (p.map U)) := hru2
      have hpl : p.length ≤ 2000 := Nat.le_trans (flat_mem_le (List.mem_of_getElem? hpk)) HT2.out
      have hdo := HDO.out (.slice au p.length cu) p wr (HRU2.out.below HBr.out) (by omega) JR.out.2.2.1.1
      have hlt7 := hrel.out.lt7
      have HL7 : Hid _ := hlt7
      have HAj : Hid _ := HALk.out j
      have HEj : Hid _ := ended_lines p
      clear hpk hcell2 hru2 hlt7
      obtain ⟨pl, hpl'⟩ : ∃ pl, pl = p.length := ⟨_, rfl⟩
      have HPL : Hid (pl = p.length) := hpl'
      rw [← hpl'] at hdo hcell hpl
      clear hpl'
      go_wp2_with fail
      refine hdo.mono ?_
      rintro e w4 ⟨r, rfl, hown4, hb4⟩
      have hrd4 := Reads.of_owns hown4
      have hrlt := hown4.lt
      obtain ⟨_, orr, crr, hrr, _⟩ := id hrd4
      obtain ⟨NR, hNR⟩ : ∃ NR, NR = (doOut ⟨k, word, n⟩ p).length := ⟨_, rfl⟩
      rw [← hNR] at hrr
      obtain ⟨us, q1, q2, q3, q4, q5⟩ := (hrel.out.below hb4).below (box_of (o := .cells #[.slice orr NR crr] 24))
      have Q2 : Hid _ := q2
      have Q3 : Hid _ := q3
      have Q4 : Hid _ := q4
      have Q5 : Hid _ := q5
      have HF7 : Hid (far r u7 ∧ far r u8) := by
        refine ⟨fun g hg e => ?_, fun g hg e => ?_⟩
        · have := HL7.out.1 g e; have := (hrlt g hg).1; omega
        · have := HL7.out.2 g e; have := (hrlt g hg).1; omega
      have HRB : Hid (∀ g, r.ownBlock = some g → g < (w4.alloc (.cells #[.slice orr NR crr] 24)).heap.size) := fun g hg => by
        have := (hrlt g hg).2
        simp
        omega
      have HRD : Hid (Reads (w4.alloc (.cells #[.slice orr NR crr] 24)) r (doOut ⟨k, word, n⟩ p).length ((doOut ⟨k, word, n⟩ p).map U)) := hrd4.below box_of
      have hqs : w2.heap.size ≤ w4.heap.size := by have := q5.size; simp at this; have h7 := hb4.size; have h8 := HBr.out.size; omega
      subst hrr
      clear q2 q3 q4 q5 hown4 hrd4 hrlt hb4 hrel hdo hNR x0 x1 x2
      go_wp2_with (at_builtin; refine wpList_append_own_at _ rfl (.tmp 58) (.tmp 60) 49 rfl w2.heap.size 24 i1 (.slice none 0 0) 1 24 Tryz.underlying49 hi' hy0 hy1 hy2 rfl (by decide) _ _ us rfl q1 ⟨w4.heap.size, 0, none⟩ 1 1 [.slice orr NR crr] rfl rfl ?c1 ?c2 ?c3 ?c4 ?c5 ?_)
      case c1 =>
        intro j u hj
        match j, hj with
        | 0, hj => simp at hj; subst hj; simp [Addr.add]
      case c2 => intro u hu; simp at hu; subst hu; rfl
      case c3 => unfold maxLen; omega
      case c4 => omega
      case c5 => simp; omega
      intro v7' w5 hown5 hgrow5 _ hat5
      have HW5 : Hid (WRel w2 w5 ⟨k, word, n⟩ bss (j + 1) j v7' u8) := WRel.done HPK.out q1 Q2.out Q3.out Q4.out Q5.out HRD.out HF7.out.1 HF7.out.2 HRB.out hown5 hgrow5 (by simpa using hat5)
      have HB5 : Hid (Below w2.heap.size w2 w5) := by obtain ⟨us, _, _, _, _, h5⟩ := HW5.out; exact h5
      have J5 : Hid (JA w w5 ⟨k, word, n⟩ (.slice (some ⟨b, off, none⟩) N cap) bss) := J2.out.below HB5.out
      have hwh := whole_is (.slice au pl cu) p w5 (by rw [HPL.out]; exact HRU2.out.below HB5.out) J5.out.2.2.2.1 (by rw [← HPL.out]; omega)
      clear hown5 hgrow5 hat5 q1 Q2 Q3 Q4 Q5 HRD HF7 HRB hcell
      go_wp2_with fail
      refine hwh.mono ?_
      rintro e w6 ⟨r6, rfl, hrd6, hb6⟩
      have HW6 : Hid (WRel w2 w6 ⟨k, word, n⟩ bss (j + 1) j v7' u8) := HW5.out.below hb6
      obtain ⟨us6, _, o8, _, _, b6⟩ := HW6.out
      have HBs : Hid (Below w2.heap.size w2 w6) := b6
      obtain ⟨hx0, o6, c6, hr6, hx1, hx2, hx3⟩ := hrd6
      obtain ⟨NE, hNE⟩ : ∃ NE, NE = (ended (lines p)).length := ⟨_, rfl⟩
      rw [← hNE] at hr6 hx1 hx3
      have HNE : Hid (NE = (ended (lines p)).length) := hNE
      have HX3 : Hid _ := hx3
      have hNEb : NE ≤ 2001 := by rw [hNE]; exact Nat.le_trans HEj.out (by have := HPL.out; omega)
      have hALb : (allOf bss j).length ≤ 4000 := HAj.out
      subst hr6
      clear hwh hb6 HW5 hx0 hx3 hNE b6
      cases o6 with
      | none =>
        have hNE0 : NE = 0 := by
          rcases Nat.eq_zero_or_pos NE with h | h
          · exact h
          · obtain ⟨b', off', e, _⟩ := HX3.out (by omega); cases e
        subst hNE0
        have HW7 : Hid (WRel w2 w6 ⟨k, word, n⟩ bss (j + 1) (j + 1) v7' u8) := by
          refine WRel.more HPK.out HW6.out HNE.out ?_ (World.grownBy.refl _ _) (.inl rfl)
          have : (ended (lines p)).map U = [] := by rw [List.eq_nil_of_length_eq_zero HNE.out.symm]; rfl
          rw [this, List.append_nil, Nat.add_zero]
          exact o8
        go_wp2_with (at_builtin; refine append_nil_own rfl (.tmp 62) (.tmp 64) 24 rfl w2.heap.size 5 i0 1 c6 Tryz.underlying24 hi _ _ _ rfl o8 rfl ?_)
        go_wp2_with fail
        go_roundw
        case rel => exact ⟨j + 1, by omega, by go_num, HW7.out⟩
        case measure => simp [intOf]; omega
      | some ad =>
        go_wp2_with (at_builtin; refine wpList_append_own_at _ rfl (.tmp 62) (.tmp 64) 24 rfl w2.heap.size 5 i0 (.int .u8 0) 1 1 Tryz.underlying24 hi hz0 hz1 hz2 rfl (by decide) _ _ _ rfl o8 ad NE c6 ((ended (lines p)).map U) rfl ?d1 ?d2 ?d3 ?d4 ?d5 ?d6 ?_)
        case d1 => rw [List.length_map, Nat.mul_one]; exact HNE.out.symm
        case d2 =>
          intro i u hi
          have hpos : NE ≠ 0 := by
            have hl := (List.getElem?_eq_some_iff.1 hi).1
            rw [List.length_map, ← HNE.out] at hl
            omega
          obtain ⟨b', off', e, hcc⟩ := HX3.out hpos
          injection e with e
          subst e
          have hadd : (⟨b', off', none⟩ : Addr).add i = ⟨b', off' + i, none⟩ := by unfold Addr.add; split <;> simp_all
          rw [hadd]
          exact hcc i u hi
        case d3 => intro u hu; obtain ⟨x, _, rfl⟩ := List.mem_map.1 hu; rfl
        case d4 => unfold maxLen; omega
        case d5 => omega
        case d6 => exact HBs.out.size
        intro v8' w7 hown7 hgrow7 _ hat7
        have HW7 : Hid (WRel w2 w7 ⟨k, word, n⟩ bss (j + 1) (j + 1) v7' v8') := WRel.more HPK.out HW6.out HNE.out hown7 hgrow7 hat7
        clear hown7 hgrow7 hat7 HW6 o8
        go_wp2_with fail
        go_roundw
        case rel => exact ⟨j + 1, by omega, by go_num, HW7.out⟩
        case measure => simp [intOf]; omega
    · obtain rfl : N = j := by omega
      have HR : Hid (RList wr u7 U (bss.map (doOut ⟨k, word, n⟩))) := hrel.out.rlist HN.out
      have HA : Hid (Reads wr u8 (allOf bss N).length ((allOf bss N).map U)) := by obtain ⟨us, _, h2, _⟩ := hrel.out; exact Reads.of_owns h2
      have g0 := fun o => Lib.cell?_alloc_some o x0
      have g1 := fun o => Lib.cell?_alloc_some o x1
      have g2 := fun o => Lib.cell?_alloc_some o x2
      obtain ⟨o7, c7, hu7, _⟩ := HR.out.shape
      rw [List.length_map, ← HN.out] at hu7
      subst hu7
      clear hrel
      by_cases h4 : hh = 4
      · subst h4
        go_wp2_with fail
        refine (jdo_ok 4 ⟨k, word, n⟩ _ (bss.map (doOut ⟨k, word, n⟩)) _ HW.out (by rw [jchk_again]; exact HC.out) (HR.out.below box_of) (by rw [List.length_map]; have := HN.out; omega) HTD.out (JR.out.2.2.1.below box_of)).mono ?_
        rintro e w5 ⟨r5, rfl, hown5, hb5⟩
        have hb5' : Below wr.heap.size wr w5 := (box_of).trans (hb5.mono (by simp))
        have J5 : Hid (JA w w5 ⟨k, word, n⟩ (.slice ao N cap) bss) := JR.out.below hb5'
        have R5 : Hid (Reads w5 r5 (jOut 4 ⟨k, word, n⟩ (bss.map (doOut ⟨k, word, n⟩))).length ((jOut 4 ⟨k, word, n⟩ (bss.map (doOut ⟨k, word, n⟩))).map U)) := Reads.of_owns hown5
        have A5 : Hid (Reads w5 u8 (allOf bss N).length ((allOf bss N).map U)) := HA.out.below hb5'
        obtain ⟨z0, z1, z2⟩ := J5.out.1
        obtain ⟨_, o8, c8, rfl, _⟩ := id A5.out
        clear hown5 hb5 hb5' HR HA
        go_wp2_with fail
        refine (HDO.out (.slice o8 (allOf bss N).length c8) (allOf bss N) w5 A5.out HAL.out J5.out.2.2.1.1).mono ?_
        rintro e w6 ⟨r6, rfl, hown6, hb6⟩
        have J6 : Hid (JA w w6 ⟨k, word, n⟩ (.slice ao N cap) bss) := J5.out.below hb6
        have R6 : Hid (Reads w6 r6 (doOut ⟨k, word, n⟩ (allOf bss N)).length ((doOut ⟨k, word, n⟩ (allOf bss N)).map U)) := Reads.of_owns hown6
        have R5' : Hid (Reads w6 r5 (jOut 4 ⟨k, word, n⟩ (bss.map (doOut ⟨k, word, n⟩))).length ((jOut 4 ⟨k, word, n⟩ (bss.map (doOut ⟨k, word, n⟩))).map U)) := R5.out.below hb6
        have HEQ : Hid (jOut 4 ⟨k, word, n⟩ (bss.map (doOut ⟨k, word, n⟩)) = doOut ⟨k, word, n⟩ (allOf bss N)) := (show _ = _ by
          rw [HN.out, allOf_all, HHH.out]
          exact whole_says ⟨k, word, n⟩ HC.out ⟨k, word, n⟩ (fun _ => rfl) bss HTB.out)
        clear hown6 hb6 J5 R5 A5 z0 z1 z2
        rw [HEQ.out] at R5'
        have heq := eqb_same r5 r6 _ w6 R5'.out R6.out
        clear R5' R6
        go_wp2_with fail
        refine heq.mono ?_
        rintro e w7 ⟨rfl, hb7⟩
        have J7 : Hid _ := J6.out.below hb7
        clear hb7 heq J6
        go_wp2_with fail
        go_ret
        exact ⟨rfl, J7.out.2.2.2.2⟩
      · have h4' : (hh == 4) = false := by simpa using h4
        go_wp2_with fail
        refine (jdo_ok hh ⟨0, [], 0⟩ _ (bss.map (doOut ⟨k, word, n⟩)) _ (Nat.zero_le _) (jchk_zero (by omega) (by omega) ⟨rfl, rfl, rfl⟩) (HR.out.below box_of) (by rw [List.length_map]; have := HN.out; omega) HTD.out (JR.out.2.2.1.below box_of)).mono ?_
        rintro e w5 ⟨r5, rfl, hown5, hb5⟩
        have hb5' : Below wr.heap.size wr w5 := (box_of).trans (hb5.mono (by simp))
        have J5 : Hid (JA w w5 ⟨k, word, n⟩ (.slice ao N cap) bss) := JR.out.below hb5'
        have R5 : Hid (Reads w5 r5 (jOut hh ⟨0, [], 0⟩ (bss.map (doOut ⟨k, word, n⟩))).length ((jOut hh ⟨0, [], 0⟩ (bss.map (doOut ⟨k, word, n⟩))).map U)) := Reads.of_owns hown5
        have A5 : Hid (Reads w5 u8 (allOf bss N).length ((allOf bss N).map U)) := HA.out.below hb5'
        obtain ⟨z0, z1, z2⟩ := J5.out.1
        obtain ⟨_, o8, c8, rfl, _⟩ := id A5.out
        clear hown5 hb5 hb5' HR HA
        go_wp2_with fail
        refine (HDO.out (.slice o8 (allOf bss N).length c8) (allOf bss N) w5 A5.out HAL.out J5.out.2.2.1.1).mono ?_
        rintro e w6 ⟨r6, rfl, hown6, hb6⟩
        have J6 : Hid (JA w w6 ⟨k, word, n⟩ (.slice ao N cap) bss) := J5.out.below hb6
        have R6 : Hid (Reads w6 r6 (doOut ⟨k, word, n⟩ (allOf bss N)).length ((doOut ⟨k, word, n⟩ (allOf bss N)).map U)) := Reads.of_owns hown6
        have R5' : Hid (Reads w6 r5 (jOut hh ⟨0, [], 0⟩ (bss.map (doOut ⟨k, word, n⟩))).length ((jOut hh ⟨0, [], 0⟩ (bss.map (doOut ⟨k, word, n⟩))).map U)) := R5.out.below hb6
        have HEQ : Hid (jOut hh ⟨0, [], 0⟩ (bss.map (doOut ⟨k, word, n⟩)) = doOut ⟨k, word, n⟩ (allOf bss N)) := (show _ = _ by
          rw [HN.out, allOf_all, HHH.out]
          exact whole_says ⟨k, word, n⟩ HC.out ⟨0, [], 0⟩ (fun h => absurd (HHH.out.trans h) h4) bss HTB.out)
        clear hown6 hb6 J5 R5 A5 z0 z1 z2
        rw [HEQ.out] at R5'
        have heq := eqb_same r5 r6 _ w6 R5'.out R6.out
        clear R5' R6
        go_wp2_with fail
        refine heq.mono ?_
        rintro e w7 ⟨rfl, hb7⟩
        have J7 : Hid _ := J6.out.below hb7
        clear hb7 heq J6
        go_wp2_with fail
        go_ret
        exact ⟨rfl, J7.out.2.2.2.2⟩
end Go.Proofs.YtkifihcficobnaaGreatDoor
