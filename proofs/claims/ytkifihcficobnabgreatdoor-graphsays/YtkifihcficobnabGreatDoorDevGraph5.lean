/- What the developers' Check of graphs does: the walk. -/
import Derived.Test.YtkifihcficobnabGreatDoorGraphB
import Derived.Deep.DeepCutAuto
namespace Go.Proofs.YtkifihcficobnabGreatDoor
open Go.RowKit Go.Gs Go.Maps
set_option linter.unusedVariables false

theorem zeroIntG (w : World) : (zeroValue 3).run Tryz.prog w = .ok (.int .i64 0) w := by kernel_rfl
theorem wf_small {k : Nat} (h : k ≤ 60) : (Lit.int .i64 (k : Int)).wf = true := by
  simp [Lit.wf, IntKind.min, IntKind.max, IntKind.signed, IntKind.bits]
  omega

set_option maxRecDepth 100000 in
set_option maxHeartbeats 16000000 in
theorem gcheck_is (ns : List SNode) (ao : Option Addr) (cap : Nat) (w : World) (hr : RNodes w (.slice ao ns.length cap) ns) (hfit : ∀ n ∈ ns, FitsN n) :
    Calls Tryz.prog 35 #[.agg #[.slice ao ns.length cap]] w fun e w' => e = .returned (.int .i64 (gchk ns)) ∧ Below w.heap.size w w' := by
  have hle := rnodes_le hr
  have HR : Hid (RNodes w (.slice ao ns.length cap) ns) := hr
  have HFit : Hid (∀ n ∈ ns, FitsN n) := hfit
  obtain ⟨N, hN⟩ : ∃ N, N = ns.length := ⟨_, rfl⟩
  have HN : Hid (N = ns.length) := hN
  obtain ⟨r, hrr⟩ : ∃ r, r = gchk ns := ⟨_, rfl⟩
  have HRR : Hid (r = gchk ns) := hrr
  rw [← hN, ← hrr]
  rw [← hN] at HR hle
  clear hr hN hrr hfit
  by_cases h60 : 60 < N
  · have hr2 : r = 2 := by rw [HRR.out, gchk_many (by rw [← HN.out]; exact h60)]
    subst hr2
    have hq : (60 : Int) < N := by omega
    clear HR HRR
    go_enter Tryz.func35, Tryz.ntmps35
    go_wp2_with fail
    go_ret
    exact ⟨rfl, box_of⟩
  · have hq : ¬ (60 : Int) < N := by omega
    have hN60 : N ≤ 60 := by omega
    have hmm := @run_makeMap Tryz.prog
    go_enter Tryz.func35, Tryz.ntmps35
    go_wp2_with fail
    go_loopw [4, 21] (fun ov i wr => ∃ k : Nat, ∃ t : List (Int × Int), ∃ os : Nat, k ≤ N ∧ i = .int .i64 k ∧ ov = .int .i64 os ∧ os ≤ 5 * k ∧ Hid ((os : Int) = allOuts (ns.take k)) ∧ Hid (t.length ≤ 5 * k) ∧ Hid (gchkL [] ns [] = gchkL (ns.take k) (ns.drop k) t) ∧ Hid (PortsAre wr (plainElem Tryz.prog 3) (w.heap.size + 1) t.length t) ∧ Hid (Below (w.heap.size + 1) (w.alloc (.cells #[.slice ao N cap] 57)) wr)) (fun _ i _ => N - (intOf i).toNat)
    case atStart => exact ⟨0, [], 0, Nat.zero_le _, rfl, rfl, Nat.le_refl _, (show _ = _ from rfl), (show _ ≤ _ from Nat.le_refl _), (show _ = _ by simp), ports_made w _ _, (Below.refl _ _).alloc (by simp) _⟩
    case round =>
      obtain ⟨k, t, os, hk, rfl, rfl, hos, HOS, HTL, HG, HPA, hbel⟩ := hrel
      obtain ⟨wo, hwo⟩ : ∃ wo, wo = wr := ⟨_, rfl⟩
      subst hwo
      have hgx := gbox_cell hbel.out
      have HBW : Hid (Below w.heap.size w wo) := box_of.trans (hbel.out.mono (by simp))
      by_cases hlt : k < N
      · obtain ⟨n, hn⟩ : ∃ n, ns[k]? = some n := ⟨_, List.getElem?_eq_getElem (by have := HN.out; omega)⟩
        obtain ⟨b, off, ai, ci, rfl, hNA, HP⟩ := HR.out.at hn
        obtain ⟨c0, c1, c2, c3, c4, c5, c6, c7⟩ := hNA.below HBW.out
        have hil := (rports_le HP)
        have hfn := HFit.out n (List.mem_of_getElem? hn)
        have HCN : Hid _ := fun W => checkNode_is n ai ci W hfn (by omega)
        obtain ⟨nc, hnc⟩ : ∃ nc, nc = nodeChk n := ⟨_, rfl⟩
        have HNC : Hid (nc = nodeChk n) := hnc
        rw [← hnc] at HCN
        have HOU : Hid _ := fun W => outs_is n ai n.ins.length ci W
        have HDR : Hid (ns.drop k = n :: ns.drop (k + 1)) := drop_node hn
        have HNN : Hid (ns[k]? = some n) := hn
        have HFN : Hid (FitsN n) := hfn
        obtain ⟨nk, hnk⟩ : ∃ z, z = n.kind := ⟨_, rfl⟩
        have HNK : Hid (nk = n.kind) := hnk
        obtain ⟨ni, hni⟩ : ∃ z, z = n.ins.length := ⟨_, rfl⟩
        have HNI : Hid (ni = n.ins.length) := hni
        have HPW : Hid (RPorts w (.slice ai n.ins.length ci) n.ins) := HP
        obtain ⟨no, hno⟩ : ∃ z, z = nouts n := ⟨_, rfl⟩
        have HNO : Hid (no = nouts n) := hno
        unfold nodeV at HCN HOU
        rw [← hnk, ← hni] at HCN
        rw [← hnk, ← hni, ← hno] at HOU
        rw [← hni] at c7 hil HPW
        rw [← hnk] at c0
        generalize (⟨n.file.toArray⟩ : ByteArray) = fx at *
        generalize (⟨n.c.word.toArray⟩ : ByteArray) = wx0 at *
        generalize n.c.kind = ck at *
        generalize n.c.n = cn at *
        generalize n.how = hw at *
        generalize n.wide = wd at *
        clear hn hfn hnc hnk hni HP hno hNA
        go_wp2_with fail
        refine (HCN.out _).mono ?_
        rintro e w1 ⟨rfl, hb1⟩
        have HC8 : Hid (Cells8 w1 wo.heap.size (.int .i64 nk) (.string fx) (.int .i64 ck) (.string wx0) (.int .i64 cn) (.int .i64 hw) (.int .i64 wd) (.slice ai ni ci)) := nbox_cells hb1
        have HBX : Hid (Below wo.heap.size wo w1) := box_of.trans (hb1.mono (by simp))
        have HB1 : Hid (Below (w.heap.size + 1) (w.alloc (.cells #[.slice (some ⟨b, off, none⟩) N cap] 57)) w1) := hbel.out.trans (HBX.out.mono (by have := hbel.out.size; simpa using this))
        have HPA1 : Hid (PortsAre w1 (plainElem Tryz.prog 3) (w.heap.size + 1) t.length t) := HPA.out.below HBX.out
        have HNB : Hid (w.heap.size + 1 < wo.heap.size) := (show _ < _ from by obtain ⟨D, h1, _⟩ := HPA.out; exact h1.lt)
        clear hb1 HCN hgx c0 c1 c2 c3 c4 c5 c6 c7
        by_cases hnc0 : nc = 0
        · subst hnc0
          have hni5 : ni ≤ 5 := by rw [HNI.out]; exact ins_small HNC.out.symm
          obtain ⟨y0, y1, y2, y3, y4, y5, y6, y7⟩ := id HC8.out
          go_wp2_with fail
          go_loopw [34] (fun j wx => ∃ m : Nat, ∃ t' : List (Int × Int), m ≤ ni ∧ j = .int .i64 m ∧ Hid (t'.length ≤ 5 * k + m) ∧ Hid (insChk (ns.take k) n.ins t = insChk (ns.take k) (n.ins.drop m) t') ∧ Hid (PortsAre wx (plainElem Tryz.prog 3) (w.heap.size + 1) t'.length t') ∧ Hid (Cells8 wx wo.heap.size (.int .i64 nk) (.string fx) (.int .i64 ck) (.string wx0) (.int .i64 cn) (.int .i64 hw) (.int .i64 wd) (.slice ai ni ci)) ∧ Hid (Below (w.heap.size + 1) (w.alloc (.cells #[.slice (some ⟨b, off, none⟩) N cap] 57)) wx)) (fun j _ => ni - (intOf j).toNat)
          case atStart => exact ⟨0, t, Nat.zero_le _, rfl, HTL, (show _ = _ by simp), HPA1, HC8, HB1⟩
          case round =>
            clear HPA1 HC8 HB1 y0 y1 y2 y3 y4 y5 y6 y7
            obtain ⟨m, t', hm, rfl, HTL', HI, HPA', HC8, hbel'⟩ := hrel
            have hgx := gbox_cell hbel'.out
            have HBW' : Hid (Below w.heap.size w wr) := box_of.trans (hbel'.out.mono (by simp))
            obtain ⟨y0, y1, y2, y3, y4, y5, y6, y7⟩ := id HC8.out
            by_cases hmlt : m < ni
            · obtain ⟨p, hp⟩ : ∃ p, n.ins[m]? = some p := ⟨_, List.getElem?_eq_getElem (by have := HNI.out; omega)⟩
              have HBR : Hid (Below w.heap.size w wr) := HBW'
              obtain ⟨pb, po, rfl, p0, p1⟩ := (RPorts.below HPW.out HBR.out).at hp
              have hwfp : WfP p := HFN.out.2.2 p (List.mem_of_getElem? hp)
              have HDP : Hid (n.ins.drop m = p :: n.ins.drop (m + 1)) := drop_port hp
              obtain ⟨pp, pq⟩ := p
              simp only at p0 p1
              have HWP : Hid (WfP (pp, pq)) := hwfp
              have hlenk : (ns.take k).length = k := by rw [List.length_take]; have := HN.out; omega
              have HHP : Hid _ := fun (W : World) (hb : Below w.heap.size w W) => hasPort_is (ns.take k) (some ⟨b, off, none⟩) cap pp pq W (by rw [hlenk]; exact (HR.out.below hb).take k (by have := HN.out; omega))
              rw [hlenk] at HHP
              obtain ⟨po2, hpo2⟩ : ∃ z, z = portOk (ns.take k) (pp, pq) := ⟨_, rfl⟩
              have HPO : Hid (po2 = portOk (ns.take k) (pp, pq)) := hpo2
              rw [← hpo2] at HHP
              have hkc : k ≤ cap := by omega
              clear hp hwfp hpo2 hlenk
              have hbx : Below w.heap.size w (wr.alloc (.cells #[.int .i64 pp, .int .i64 pq] 98)) := HBR.out.trans (box_of.mono HBR.out.size)
              have cF : ∀ d os, Calls Tryz.prog 76 #[.slice (some ⟨b, off, none⟩) k cap, .agg #[.int .i64 pp, .int .i64 pq]] (Go.Sort.grow (redrawn (wr.alloc (.cells #[.int .i64 pp, .int .i64 pq] 98)) d) os) fun e w'' => e = .returned (.bool po2) ∧ ∃ p : Regrown, w'' = Go.Sort.grow (redrawn (wr.alloc (.cells #[.int .i64 pp, .int .i64 pq] 98)) p.d) p.os := fun d os => Calls.regrown_of (HHP.out _ (hbx.trans ((below_regrown _ d os).mono hbx.size)))
              obtain ⟨q0, q1⟩ := pbox_cells (w := wr) (a := .int .i64 pp) (b := .int .i64 pq) (t := 98) (Below.refl _ _)
              have z0 := fun d os => cell_regrown q0 d os
              have z1 := fun d os => cell_regrown q1 d os
              have z2 := fun d os => cell_regrown ((box_of (o := .cells #[.int .i64 pp, .int .i64 pq] 98)).cell (World.block_lt_of_cell? wr _ hgx) |>.trans hgx) d os
              go_wp2_with fail
              refine wp_region_quiet_below (by kernel_rfl) (by kernel_rfl) ?_
              repeat (first | go_big_quiet_step (exact cF _ _) | quiet_step (exact cF _ _))
              refine wpQuiet_nil ?_
              intro _ hw'
              obtain ⟨⟨dq, osq⟩, hw''⟩ := hw'
              subst hw''
              have HBQ : Hid (Below wr.heap.size wr (Go.Sort.grow (redrawn (wr.alloc (.cells #[.int .i64 pp, .int .i64 pq] 98)) dq) osq)) := box_of.trans ((below_regrown _ dq osq).mono (by simp))
              have k0 := z0 dq osq
              have k1 := z1 dq osq
              clear cF z0 z1 z2 q0 q1 HHP hbx
              generalize Go.Sort.grow (redrawn (wr.alloc (.cells #[.int .i64 pp, .int .i64 pq] 98)) dq) osq = wq at *
              have HBQ1 : Hid (Below (w.heap.size + 1) (w.alloc (.cells #[.slice (some ⟨b, off, none⟩) N cap] 57)) wq) := hbel'.out.trans (HBQ.out.mono (by have := hbel'.out.size; simpa using this))
              have HPAq : Hid (PortsAre wq (plainElem Tryz.prog 3) (w.heap.size + 1) t'.length t') := HPA'.out.below HBQ.out
              have HC8q : Hid (Cells8 wq wo.heap.size (.int .i64 nk) (.string fx) (.int .i64 ck) (.string wx0) (.int .i64 cn) (.int .i64 hw) (.int .i64 wd) (.slice (some ⟨pb, po, none⟩) ni ci)) := HC8.out.below HBQ.out
              clear HC8 HPA' y0 y1 y2 y3 y4 y5 y6 y7 hgx p0 p1 hbel'
              cases po2 with
              | false =>
                have hr5 : r = 5 := by
                  have h5 := ins_who (HI.out.trans (by rw [HDP.out])) HPO.out.symm
                  rw [HRR.out, gchk_bad (by rw [← HN.out]; exact hN60) ((chk_ins (HG.out.trans (by rw [HDR.out])) HNC.out.symm (by rw [h5]; decide)).trans h5) (by decide)]
                subst hr5
                have HBF : Hid (Below w.heap.size w wq) := box_of.trans (HBQ1.out.mono (by simp))
                clear HPAq HC8q HBQ1
                go_wp2_with fail
                go_ret
                exact ⟨rfl, HBF.out⟩
              | true =>
                obtain ⟨D, hown, hhas, hsize, hwfD⟩ := id HPAq.out
                have hkey : keyOf Tryz.prog 98 (.agg #[.int .i64 pp, .int .i64 pq]) = some (portK (pp, pq)) := port_key wq (pp, pq) HWP.out
                have hh := hhas (pp, pq) HWP.out
                have HHas : Hid _ := hhas
                have HSiz : Hid _ := hsize
                have HWfD : Hid _ := hwfD
                clear hhas hsize hwfD
                by_cases hin : (pp, pq) ∈ t'
                · have hr6 : r = 6 := by
                    have h6 := ins_twice (HI.out.trans (by rw [HDP.out])) HPO.out.symm hin
                    rw [HRR.out, gchk_bad (by rw [← HN.out]; exact hN60) ((chk_ins (HG.out.trans (by rw [HDR.out])) HNC.out.symm (by rw [h6]; decide)).trans h6) (by decide)]
                  subst hr6
                  rw [decide_eq_true hin] at hh
                  have HBF : Hid (Below w.heap.size w wq) := box_of.trans (HBQ1.out.mono (by simp))
                  clear HPAq HC8q HBQ1
                  go_wp2_with (at_lookup; refine wpList_lookup_own_ok_int _ rfl _ _ 106 rfl 98 3 .i64 portKeyed Tryz.underlying106 Tryz.underlying3 (zeroIntG _) (w.heap.size + 1) _ D rfl hown _ _ rfl hkey ?_; intro cc hat hwc; rw [hh])
                  go_ret
                  exact ⟨rfl, HBF.out⟩
                · rw [decide_eq_false hin] at hh
                  have hn0 : t'.length < maxLen := by have := HTL'.out; unfold maxLen; omega
                  have hwk := wf_small (show k ≤ 60 by omega)
                  have HI2 : Hid (insChk (ns.take k) n.ins t = insChk (ns.take k) (n.ins.drop (m + 1)) (t' ++ [(pp, pq)])) := (show _ = _ from ins_next (HI.out.trans (by rw [HDP.out])) HPO.out.symm hin)
                  have HTL2 : Hid ((t' ++ [(pp, pq)]).length ≤ 5 * k + (m + 1)) := (show _ ≤ _ by have := HTL'.out; simp; omega)
                  go_wp2_with (first
                    | (at_lookup; refine wpList_lookup_own_ok_int _ rfl _ _ 106 rfl 98 3 .i64 portKeyed Tryz.underlying106 Tryz.underlying3 (zeroIntG _) (w.heap.size + 1) _ D rfl hown _ _ rfl hkey ?_; intro cc hat hwc; rw [hh]; clear hat hwc)
                    | (at_mapUpdate; refine wpList_mapUpdate_own _ rfl _ _ _ 106 rfl 98 3 portKeyed Tryz.underlying106 _ (w.heap.size + 1) t'.length D rfl hown hn0 _ _ _ rfl rfl hkey _ [] (plainElem_int Tryz.underlying3 hwk) ?_; intro w5 ho5 hg5))
                  have HP5 : Hid (PortsAre w5 (plainElem Tryz.prog 3) (w.heap.size + 1) (t' ++ [(pp, pq)]).length (t' ++ [(pp, pq)])) := (show PortsAre _ _ _ _ _ by
                    have h := PortsAre.put (W := w) hown HHas.out HSiz.out HWfD.out HWP.out hin ho5
                    simpa using h)
                  have HC85 : Hid (Cells8 w5 wo.heap.size (.int .i64 nk) (.string fx) (.int .i64 ck) (.string wx0) (.int .i64 cn) (.int .i64 hw) (.int .i64 wd) (.slice (some ⟨pb, po, none⟩) ni ci)) := HC8q.out.grown hg5 (by simp only [ne_eq, Option.some.injEq]; have := HNB.out; omega)
                  have HB5 : Hid (Below (w.heap.size + 1) (w.alloc (.cells #[.slice (some ⟨b, off, none⟩) N cap] 57)) w5) := ins_below HBQ1.out hg5
                  clear ho5 hg5 hown HHas HSiz HWfD HPAq HC8q HBQ1 hkey hh k0 k1
                  go_wp2_with fail
                  go_roundw
                  case rel => exact ⟨m + 1, _, by omega, by go_num, HTL2, HI2, HP5, HC85, HB5⟩
                  case measure => simp [intOf]; omega
            · have hmn : m = ni := by omega
              have HID : Hid (insChk (ns.take k) n.ins t = (0, t')) := (show _ = _ from ins_done (HI.out.trans (by rw [List.drop_of_length_le (by rw [← HNI.out]; omega)])))
              have hlast : (ns.drop (k + 1)).isEmpty = decide ((k : Int) = (N : Int) - 1) := by
                by_cases e : k + 1 = N
                · rw [decide_eq_true (by omega), List.isEmpty_iff]; exact List.drop_eq_nil_of_le (by rw [← HN.out]; omega)
                · rw [decide_eq_false (by omega)]
                  cases hd : ns.drop (k + 1) with
                  | nil => exact absurd (List.drop_eq_nil_iff.1 hd) (by rw [← HN.out]; omega)
                  | cons a b => rfl
              have HBF : Hid (Below w.heap.size w wr) := HBW'
              by_cases hk5 : nk = 5
              · subst hk5
                by_cases hkl : k + 1 = N
                · have q1 : ((k : Int) == (N : Int) - 1) = true := by simp; omega
                  have he : (ns.drop (k + 1)).isEmpty = decide (n.kind = 5) := by rw [hlast, decide_eq_true (by omega), ← HNK.out]; rfl
                  have HG2 : Hid (gchkL [] ns [] = gchkL (ns.take (k + 1)) (ns.drop (k + 1)) t') := (show _ = _ by
                    rw [chk_next (HG.out.trans (by rw [HDR.out])) HNC.out.symm (by rw [HID.out]) he, HID.out, take_node HNN.out])
                  have HOS2 : Hid (((os : Int) + no) = allOuts (ns.take (k + 1))) := (show _ = _ by rw [allOuts_take HNN.out, ← HOS.out, ← HNO.out])
                  have HTL2 : Hid (t'.length ≤ 5 * (k + 1)) := (show _ ≤ _ by have := HTL'.out; omega)
                  have hno5 := nouts_small HNC.out.symm
                  rw [← HNO.out] at hno5
                  obtain ⟨hno0, hno5⟩ := hno5
                  obtain ⟨non, rfl⟩ := Int.eq_ofNat_of_zero_le hno0
                  clear HG HOS HTL HTL' HI HID hlast he HPA
                  go_wp2_with fail
                  refine (HOU.out _).mono ?_
                  rintro e w6 ⟨rfl, hb6⟩
                  have HB6 : Hid (Below (w.heap.size + 1) (w.alloc (.cells #[.slice (some ⟨b, off, none⟩) N cap] 57)) w6) := hbel'.out.trans (hb6.mono (by have := hbel'.out.size; simpa using this))
                  have HPA6 : Hid (PortsAre w6 (plainElem Tryz.prog 3) (w.heap.size + 1) t'.length t') := HPA'.out.below hb6
                  clear hb6 HOU HC8 HPA' hbel' hgx y0 y1 y2 y3 y4 y5 y6 y7
                  go_wp2_with fail
                  go_roundw
                  case rel => exact ⟨k + 1, t', os + non, by omega, by go_num, by go_num, by omega, (show _ = _ by rw [← HOS2.out]; rfl), HTL2, HG2, HPA6, HB6⟩
                  case measure => simp [intOf]; omega
                · have q1 : ((k : Int) == (N : Int) - 1) = false := by simp; omega
                  have hr4 : r = 4 := by
                    rw [HRR.out, gchk_bad (by rw [← HN.out]; exact hN60) (chk_last (HG.out.trans (by rw [HDR.out])) HNC.out.symm (by rw [HID.out]) (by rw [hlast, decide_eq_false (by omega), ← HNK.out]; decide)) (by decide)]
                  subst hr4
                  clear HG HOS HTL HTL' HI HID hlast HPA HOU HC8 HPA' hbel'
                  go_wp2_with fail
                  go_ret
                  exact ⟨rfl, HBF.out⟩
              · have e5 : (nk == 5) = false := by simpa using hk5
                by_cases hkl : k + 1 = N
                · have q1 : ((k : Int) == (N : Int) - 1) = true := by simp; omega
                  have hr4 : r = 4 := by
                    rw [HRR.out, gchk_bad (by rw [← HN.out]; exact hN60) (chk_last (HG.out.trans (by rw [HDR.out])) HNC.out.symm (by rw [HID.out]) (by rw [hlast, decide_eq_true (by omega), ← HNK.out]; rw [decide_eq_false hk5]; decide)) (by decide)]
                  subst hr4
                  clear HG HOS HTL HTL' HI HID hlast HPA HOU HC8 HPA' hbel'
                  go_wp2_with fail
                  go_ret
                  exact ⟨rfl, HBF.out⟩
                · have q1 : ((k : Int) == (N : Int) - 1) = false := by simp; omega
                  have he : (ns.drop (k + 1)).isEmpty = decide (n.kind = 5) := by rw [hlast, decide_eq_false (by omega), ← HNK.out]; rw [decide_eq_false hk5]
                  have HG2 : Hid (gchkL [] ns [] = gchkL (ns.take (k + 1)) (ns.drop (k + 1)) t') := (show _ = _ by
                    rw [chk_next (HG.out.trans (by rw [HDR.out])) HNC.out.symm (by rw [HID.out]) he, HID.out, take_node HNN.out])
                  have HOS2 : Hid (((os : Int) + no) = allOuts (ns.take (k + 1))) := (show _ = _ by rw [allOuts_take HNN.out, ← HOS.out, ← HNO.out])
                  have HTL2 : Hid (t'.length ≤ 5 * (k + 1)) := (show _ ≤ _ by have := HTL'.out; omega)
                  have hno5 := nouts_small HNC.out.symm
                  rw [← HNO.out] at hno5
                  obtain ⟨hno0, hno5⟩ := hno5
                  obtain ⟨non, rfl⟩ := Int.eq_ofNat_of_zero_le hno0
                  clear HG HOS HTL HTL' HI HID hlast he HPA
                  go_wp2_with fail
                  refine (HOU.out _).mono ?_
                  rintro e w6 ⟨rfl, hb6⟩
                  have HB6 : Hid (Below (w.heap.size + 1) (w.alloc (.cells #[.slice (some ⟨b, off, none⟩) N cap] 57)) w6) := hbel'.out.trans (hb6.mono (by have := hbel'.out.size; simpa using this))
                  have HPA6 : Hid (PortsAre w6 (plainElem Tryz.prog 3) (w.heap.size + 1) t'.length t') := HPA'.out.below hb6
                  clear hb6 HOU HC8 HPA' hbel' hgx y0 y1 y2 y3 y4 y5 y6 y7
                  go_wp2_with fail
                  go_roundw
                  case rel => exact ⟨k + 1, t', os + non, by omega, by go_num, by go_num, by omega, (show _ = _ by rw [← HOS2.out]; rfl), HTL2, HG2, HPA6, HB6⟩
                  case measure => simp [intOf]; omega
        · have hrn : r = nc := by rw [HRR.out, gchk_bad (by rw [← HN.out]; exact hN60) ((chk_node (HG.out.trans (by rw [HDR.out])) (by rw [← HNC.out]; exact hnc0)).trans HNC.out.symm) hnc0]
          subst hrn
          have HBF : Hid (Below w.heap.size w w1) := box_of.trans (HB1.out.mono (by simp))
          clear HC8 HB1 HPA1 HPA HG HOS HTL
          go_wp2_with fail
          go_ret
          exact ⟨rfl, HBF.out⟩
      · have hkN : k = N := by omega
        have HGE : Hid (gchkL [] ns [] = (0, t)) := (show _ = _ by rw [HG.out, List.drop_of_length_le (by rw [← HN.out]; omega)]; rfl)
        have hend := gchk_end (by rw [← HN.out]; exact hN60) HGE.out
        have hos2 : allOuts ns = (os : Int) := by
          have h := HOS.out
          rw [hkN, HN.out, List.take_length] at h
          exact h.symm
        rw [← HRR.out, ← HN.out, hos2] at hend
        obtain ⟨D, hown, hhas, hsize, hwf⟩ := HPA.out
        by_cases hN0 : N = 0
        · subst hN0
          rw [if_pos (.inl rfl)] at hend
          subst hend
          clear HG HGE HOS hhas hsize hwf hown HPA HTL
          go_wp2_with fail
          go_ret
          exact ⟨rfl, HBW.out⟩
        · have e0 : ((N : Int) == 0) = false := by simp; omega
          have hsz : Go.Maps.size D = t.length := hsize
          by_cases heq : (t.length : Int) = (os : Int)
          · rw [if_neg (by rintro (h | h); exact hN0 h; exact h heq)] at hend
            subst hend
            have hto : t.length = os := by omega
            rw [hto] at hsz hown
            have hlen := fun ty => hown.len Tryz.underlying106 ty
            rw [hsz] at hlen
            clear HG HGE HOS hhas hsize hwf HPA HTL heq hto
            go_wp2_with fail
            go_ret
            exact ⟨rfl, HBW.out⟩
          · rw [if_pos (.inr heq)] at hend
            subst hend
            obtain ⟨tl, htl⟩ : ∃ tl, tl = t.length := ⟨_, rfl⟩
            rw [← htl] at hsz hown heq
            have hne : ((tl : Int) == (os : Int)) = false := by simpa using heq
            have hlen := fun ty => hown.len Tryz.underlying106 ty
            rw [hsz] at hlen
            clear HG HGE HOS hhas hsize hwf HPA HTL htl
            go_wp2_with fail
            go_ret
            exact ⟨rfl, HBW.out⟩
end Go.Proofs.YtkifihcficobnabGreatDoor
