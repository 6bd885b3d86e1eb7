/- OptShape: the walk. -/
import Derived.Test.YtkifihcficobnabPlanned
import Derived.Test.YtkifihcficobnabKCount
namespace Go.Proofs.Ytkifihcficobnab
open Go.RowKit Go.Gs Go.Maps
set_option linter.unusedVariables false

theorem lbox_keepO {w w' : World} {x y z : Value} (hb : Below (w.alloc (.cells #[x, y, z] 25)).heap.size (w.alloc (.cells #[x, y, z] 25)) w') : w'.cell? ⟨w.heap.size, 0, none⟩ = some x ∧ w'.cell? ⟨w.heap.size, 1, none⟩ = some y ∧ w'.cell? ⟨w.heap.size, 2, none⟩ = some z := by
  refine ⟨?_, ?_, ?_⟩
  all_goals
    rw [hb.cell (by simp), cell_of_row _ _ _ _ _ _ (heap_alloc_new w _)]
    rfl

theorem wf_smallO {k : Nat} (h : k ≤ 70) : (Lit.int .i64 (k : Int)).wf = true := by
  simp [Lit.wf, IntKind.min, IntKind.max, IntKind.signed, IntKind.bits]
  omega

theorem wrap_smallO {k : Nat} (h : k ≤ 1000) : IntKind.i64.wrap (k : Int) = (k : Int) := by
  rw [IntKind.wrap_i64]; omega
theorem wf_succO {k : Nat} (h : k ≤ 60) : (Lit.int .i64 ((k : Int) + 1)).wf = true := wf_smallO (k := k + 1) (by omega)

set_option maxRecDepth 100000 in
set_option maxHeartbeats 4000000 in
theorem shape_err (l : SLine) (W : Int) (af ad : Option Addr) (cf cd : Nat) (w : World) (hf : Reads w (.slice af l.fr.length cf) l.fr.length (l.fr.map S)) (hd : RCmds w (.slice ad l.cs.length cd) l.cs) (hfit : FitsL l) (h : (planT l W).2 ≠ 0) :
    Calls Try.prog 3 #[.agg #[.slice af l.fr.length cf, .slice ad l.cs.length cd, .string ⟨l.to.toArray⟩], .int .i64 W] w fun e w' => e = .returned (.bool true) ∧ Below w.heap.size w w' := by
  have HP : Hid _ := fun (V : World) (hb : Below w.heap.size w V) => plan_is l W af ad cf cd V (hf.below hb) (hd.below hb) hfit
  generalize planT l W = pt at *
  obtain ⟨ns, er⟩ := pt
  simp only at h
  generalize (⟨l.to.toArray⟩ : ByteArray) = tx at *
  generalize l.fr.length = NF at *
  generalize l.cs.length = ND at *
  clear hf hd hfit
  go_enter Try.func3, Try.ntmps3
  go_wp2_with fail
  refine Calls.mono (HP.out _ box_of) ?_
  rintro e w1 ⟨ao, cap, rfl, hn, hb1⟩
  have HB1 : Hid (Below w.heap.size w w1) := box_of.trans (hb1.mono (by simp))
  simp only
  generalize ns.length = NL at *
  clear hn hb1 HP
  go_wp2_with fail
  refine (planned_true _).mono ?_
  rintro e w3 ⟨rfl, hb3⟩
  have HB3 : Hid (Below w.heap.size w w3) := (HB1.out.trans (box_of.mono HB1.out.size)).trans (hb3.mono (by have := HB1.out.size; simp; omega))
  clear hb3
  go_wp2_with fail
  refine (planned_true _).mono ?_
  rintro e w4 ⟨rfl, hb4⟩
  have HB4 : Hid (Below w.heap.size w w4) := HB3.out.trans (hb4.mono HB3.out.size)
  clear hb4
  go_wp2_with fail
  go_ret
  exact ⟨rfl, HB4.out⟩

set_option maxRecDepth 100000 in
set_option maxHeartbeats 8000000 in
theorem shape_ok (l : SLine) (wn : Nat) (hw : 1 ≤ wn ∧ wn ≤ 5) (af ad : Option Addr) (cf cd : Nat) (w : World) (hf : Reads w (.slice af l.fr.length cf) l.fr.length (l.fr.map S)) (hd : RCmds w (.slice ad l.cs.length cd) l.cs) (hfit : FitsL l) (h : lchk l = 0) :
    Calls Try.prog 3 #[.agg #[.slice af l.fr.length cf, .slice ad l.cs.length cd, .string ⟨l.to.toArray⟩], .int .i64 (wn : Int)] w fun e w' => e = .returned (.bool true) ∧ Below w.heap.size w w' := by
  have HP : Hid _ := fun (V : World) (hb : Below w.heap.size w V) => plan_ok l wn hw af ad cf cd V (hf.below hb) (hd.below hb) hfit h
  have HC : Hid (∀ k : Int, k ≠ 4 → (k ≠ 2 ∨ wn = 1) → cnt k (plan l wn) = (if k = 1 then l.fr.length else 0) + (if k = 3 then wn * l.cs.length else 0) + (if k = 5 then 1 else 0)) := (show ∀ k : Int, _ → _ → _ from fun k h4 h2 => cnt_plan hw h h4 h2)
  have HW : Hid (∀ x ∈ plan l wn, x.kind = 2 → x.wide = (wn : Int)) := plan_wides l wn
  have HLST : Hid ((plan l wn)[(plan l wn).length - 1]? = some (sinkN l.to (pBehind (pDone wn l.fr l.cs)).2)) := plan_last l wn
  have h49 := (plan_len hw h).1
  have hnod : ∀ x ∈ plan l wn, 1 ≤ x.kind ∧ x.kind ≤ 5 := by
    intro x hx
    have hr := plan_right hw h
    obtain ⟨i, hi⟩ := List.getElem?_of_mem hx
    obtain ⟨n0, _⟩ := right_node (fs := []) hr (fun f hf => by cases hf) hi
    have := used_kinds (node_kinds n0).1
    omega
  have HK : Hid _ := hnod
  obtain ⟨m, hm⟩ : ∃ m, (plan l wn).length = m + 1 := ⟨(plan l wn).length - 1, by unfold plan pSink; simp⟩
  obtain ⟨hN1, hN4, hN6⟩ := (lchk_all h).1
  obtain ⟨NF, hNF⟩ : ∃ N, N = l.fr.length := ⟨_, rfl⟩
  obtain ⟨ND, hND⟩ : ∃ N, N = l.cs.length := ⟨_, rfl⟩
  have HTO : Hid ((sinkN l.to (pBehind (pDone wn l.fr l.cs)).2).file = l.to) := (show _ = _ from rfl)
  generalize sinkN l.to (pBehind (pDone wn l.fr l.cs)).2 = last at *
  obtain ⟨ns, hns⟩ : ∃ ns, ns = plan l wn := ⟨_, rfl⟩
  rw [← hns] at HP HC HW HLST HK hm h49
  rw [hm] at HLST
  rw [← hNF] at HP HC hN1 hN4 ⊢
  rw [← hND] at HP HC hN6 ⊢
  obtain ⟨tx, htx⟩ : ∃ tx : ByteArray, tx = ⟨l.to.toArray⟩ := ⟨_, rfl⟩
  have HTX : Hid (tx = ⟨l.to.toArray⟩) := htx
  rw [← htx] at HP ⊢
  clear hf hd hfit h hnod hNF hND htx hns
  go_enter Try.func3, Try.ntmps3
  go_wp2_with fail
  refine Calls.mono (HP.out _ box_of) ?_
  rintro e w1 ⟨ao, cap, rfl, hn, hb1⟩
  obtain ⟨x0, x1, x2⟩ := lbox_keepO hb1
  have HB1 : Hid (Below w.heap.size w w1) := box_of.trans (hb1.mono (by simp))
  simp only at hn ⊢
  rw [hm] at hn ⊢
  have HN : Hid (RNodes w1 (.slice ao (m + 1) cap) ns) := hn
  have hcap := rnodes_le hn
  have HX : Hid (w1.cell? ⟨w.heap.size, 0, none⟩ = some (.slice af NF cf) ∧ w1.cell? ⟨w.heap.size, 1, none⟩ = some (.slice ad ND cd) ∧ w1.cell? ⟨w.heap.size, 2, none⟩ = some (.string tx)) := ⟨x0, x1, x2⟩
  clear hn hb1 HP x0 x1 x2
  go_wp2_with fail
  refine (planned_true _).mono ?_
  rintro e w3 ⟨rfl, hb3⟩
  have t3 : Below w1.heap.size w1 w3 := box_of.trans (hb3.mono (by simp))
  have HT3 : Hid (Below w1.heap.size w1 w3) := t3
  have HG3 : Hid (w3.cell? ⟨w1.heap.size, 0, none⟩ = some (.slice ao (m + 1) cap)) := (show _ = _ by rw [hb3.cell (by simp), cell_of_row _ _ _ _ _ _ (heap_alloc_new w1 _)]; rfl)
  have hs3 : w1.heap.size < w3.heap.size := by have := hb3.size; simp at this; omega
  have hg3 := HG3.out
  have hg3' := (box_of (w := w3) (o := .map #[] 0)).cell (World.block_lt_of_cell? w3 _ hg3)
  rw [hg3] at hg3'
  have hmm := @run_makeMap Try.prog
  clear hb3 t3
  go_wp2_with fail
  go_loopw [27] (fun i wr => ∃ k : Nat, k ≤ m + 1 ∧ i = .int .i64 k ∧ Hid (CountIs wr w3.heap.size k (fun q => (cnt q (ns.take k) : Int))) ∧ Hid (Below w3.heap.size w3 wr)) (fun i _ => m + 1 - (intOf i).toNat)
  case atStart => exact ⟨0, Nat.zero_le _, rfl, (show CountIs _ _ _ _ from count_made w3), box_of⟩
  case round =>
    clear hg3 hg3' hmm
    obtain ⟨k, hk, rfl, HCI, HBr⟩ := hrel
    have HT : Hid (Below w1.heap.size w1 wr) := HT3.out.trans (HBr.out.mono HT3.out.size)
    have hszr : w3.heap.size ≤ wr.heap.size := HBr.out.size
    by_cases hlt : k < m + 1
    · obtain ⟨x, hx⟩ : ∃ x, ns[k]? = some x := ⟨_, List.getElem?_eq_getElem (by omega)⟩
      obtain ⟨b, off, ai, ci, hao, hNA, HP⟩ := (RNodes.below HN.out HT.out).at hx
      subst hao
      obtain ⟨c0, c1, c2, c3, c4, c5, c6, c7⟩ := hNA
      obtain ⟨hk1, hk5⟩ := HK.out x (List.mem_of_getElem? hx)
      have hwx := HW.out x (List.mem_of_getElem? hx)
      have hct : ∀ q, cnt q (ns.take (k + 1)) = cnt q (ns.take k) + if x.kind = q then 1 else 0 := fun q => by rw [List.take_add_one, hx, Option.toList_some, cnt_append, cnt_one]
      obtain ⟨cv, hcv⟩ : ∃ cv : Nat, cv = cnt x.kind (ns.take k) := ⟨_, rfl⟩
      have hcv60 : cv ≤ 60 := by
        have := cnt_le x.kind (ns.take k)
        rw [List.length_take] at this
        omega
      have HCT : Hid (∀ q, (cnt q (ns.take (k + 1)) : Int) = (cnt q (ns.take k) : Int) + if x.kind = q then 1 else 0) := (show ∀ q, _ = _ from fun q => by rw [hct q]; split <;> simp)
      have HCV : Hid (cv = cnt x.kind (ns.take k)) := hcv
      generalize (⟨x.file.toArray⟩ : ByteArray) = fx at *
      generalize (⟨x.c.word.toArray⟩ : ByteArray) = wx at *
      generalize x.c.kind = ck at *
      generalize x.c.n = cn at *
      generalize x.how = hw' at *
      generalize x.wide = wd at *
      generalize x.kind = xk at *
      generalize x.ins.length = ni at *
      have hkw : (Lit.int .i64 xk).wf = true := by
        have : xk = 1 ∨ xk = 2 ∨ xk = 3 ∨ xk = 4 ∨ xk = 5 := by omega
        rcases this with rfl | rfl | rfl | rfl | rfl <;> decide
      have HCB : Hid (CountIs (wr.alloc (.cells #[.int .i64 xk, .string fx, .int .i64 ck, .string wx, .int .i64 cn, .int .i64 hw', .int .i64 wd, .slice ai ni ci] 38)) w3.heap.size k (fun q => (cnt q (ns.take k) : Int))) := CountIs.below HCI.out box_of
      obtain ⟨DD, hown, hat⟩ := HCB.out
      have hat1 := hat xk hkw
      simp only at hat1
      rw [← HCV.out] at hat1
      have hkey := keyOf_int_mk Try.underlying3 hkw
      have HAT : Hid _ := hat
      have HOWN : Hid _ := hown
      clear hct hcv HCI HP hx
      have HPUT : Hid _ := fun (w5 : World) (ho : w5.ownsMap Try.prog 3 (plainElem Try.prog 3) w3.heap.size (k + 1) (DD.put (.int .i64 xk) (.lit (.int .i64 ((cv : Int) + 1))))) => CountIs.put (g := fun q => (cnt q (ns.take (k + 1)) : Int)) HOWN.out HAT.out hkw (by rw [HCT.out, if_pos rfl, ← HCV.out]; exact ho) (fun q hq => by rw [HCT.out, if_neg (fun e => hq e.symm)]; simp)
      have hmb : w3.heap.size < wr.heap.size := by
        obtain ⟨es, clk, hh, _⟩ := HOWN.out
        have := block_ltO hh
        simp at this
        rcases Nat.lt_or_ge w3.heap.size wr.heap.size with h | h
        · exact h
        · have e : w3.heap.size = wr.heap.size := by omega
          rw [e] at hh
          rw [heap_alloc_new wr _] at hh
          cases hh
      have HZ : Hid (∀ w5 : World, (wr.alloc (.cells #[.int .i64 xk, .string fx, .int .i64 ck, .string wx, .int .i64 cn, .int .i64 hw', .int .i64 wd, .slice ai ni ci] 38)).grownBy w5 (some w3.heap.size) → w5.cell? ⟨wr.heap.size, 0, none⟩ = some (.int .i64 xk) ∧ w5.cell? ⟨wr.heap.size, 6, none⟩ = some (.int .i64 wd) ∧ Hid (Below w3.heap.size w3 w5)) := (show ∀ w5, _ → _ from fun w5 hg => by
        have hbk : w5.heap[wr.heap.size]? = some (.cells #[.int .i64 xk, .string fx, .int .i64 ck, .string wx, .int .i64 cn, .int .i64 hw', .int .i64 wd, .slice ai ni ci] 38 (0, 0)) := (hg.block _ (by simp) (by intro e; injection e with e; omega)).trans (heap_alloc_new wr _)
        refine ⟨by rw [cell_of_row _ _ _ _ _ _ hbk]; rfl, by rw [cell_of_row _ _ _ _ _ _ hbk]; rfl, ?_⟩
        have b1 : Below w3.heap.size w3 (wr.alloc (.cells #[.int .i64 xk, .string fx, .int .i64 ck, .string wx, .int .i64 cn, .int .i64 hw', .int .i64 wd, .slice ai ni ci] 38)) := HBr.out.trans (box_of.mono hszr)
        exact b1.trans ⟨hg.os, hg.tape, hg.output, hg.size, fun q hq => hg.block q (by have := b1.size; omega) (by intro e; injection e with e; omega)⟩)
      clear hat HAT HOWN HCT HCV HCB hkw
      by_cases hx2 : xk = 2
      · subst hx2
        have hwd := hwx rfl
        subst hwd
        clear hwx
        go_wp2_with (first
          | (at_lookup; refine wpList_lookup_num _ rfl _ _ 33 rfl 3 3 numKeyed Try.underlying33 Try.underlying3 (zeroNumG _) w3.heap.size k DD rfl hown _ _ rfl hkey cv hat1 ?_)
          | (at_mapUpdate; refine wpList_mapUpdate_own _ rfl _ _ _ 33 rfl 3 3 numKeyed Try.underlying33 _ w3.heap.size k DD rfl hown (by unfold maxLen; omega) _ _ _ rfl rfl hkey _ [] (plainElem_int Try.underlying3 (wf_succO hcv60)) ?_; intro w5 ho5 hg5; obtain ⟨z0, z6, HB5⟩ := HZ.out _ hg5))
        have HC5 : Hid _ := HPUT.out _ ho5
        clear ho5 hg5 z0 z6 HPUT HZ hown hat1 hkey c0 c1 c2 c3 c4 c5 c6 c7
        go_roundw
        case rel => exact ⟨k + 1, by omega, by go_num, HC5, HB5⟩
        case measure => simp [intOf]; omega
      · have hx2' : (xk == 2) = false := by simpa using hx2
        clear hwx
        go_wp2_with (first
          | (at_lookup; refine wpList_lookup_num _ rfl _ _ 33 rfl 3 3 numKeyed Try.underlying33 Try.underlying3 (zeroNumG _) w3.heap.size k DD rfl hown _ _ rfl hkey cv hat1 ?_)
          | (at_mapUpdate; refine wpList_mapUpdate_own _ rfl _ _ _ 33 rfl 3 3 numKeyed Try.underlying33 _ w3.heap.size k DD rfl hown (by unfold maxLen; omega) _ _ _ rfl rfl hkey _ [] (plainElem_int Try.underlying3 (wf_succO hcv60)) ?_; intro w5 ho5 hg5; obtain ⟨z0, z6, HB5⟩ := HZ.out _ hg5))
        have HC5 : Hid _ := HPUT.out _ ho5
        clear ho5 hg5 z0 z6 HPUT HZ hown hat1 hkey c0 c1 c2 c3 c4 c5 c6 c7
        go_roundw
        case rel => exact ⟨k + 1, by omega, by go_num, HC5, HB5⟩
        case measure => simp [intOf]; omega
    · have hkm : m + 1 = k := by omega
      subst hkm
      have htk : ns.take (m + 1) = ns := by rw [← hm, List.take_length]
      rw [htk] at HCI
      have e1 : cnt 1 ns = NF := by rw [HC.out 1 (by decide) (Or.inl (by decide))]; simp
      have e5 : cnt 5 ns = 1 := by rw [HC.out 5 (by decide) (Or.inl (by decide))]; simp
      obtain ⟨PP, hPP⟩ : ∃ PP, PP = wn * ND := ⟨_, rfl⟩
      have e3 : cnt 3 ns = PP := by rw [HC.out 3 (by decide) (Or.inl (by decide)), hPP]; simp
      have l1 : ∀ N, (Instr.lookup 33 (.map (some w3.heap.size)) (.int .i64 1) false).run Try.prog (wr.drewN N) = .ok (.int .i64 (NF : Int)) (wr.drewN N) := fun N => by rw [(CountIs.drewN HCI.out N).look (by decide), e1]
      have l5 : ∀ N, (Instr.lookup 33 (.map (some w3.heap.size)) (.int .i64 5) false).run Try.prog (wr.drewN N) = .ok (.int .i64 1) (wr.drewN N) := fun N => by rw [(CountIs.drewN HCI.out N).look (by decide), e5]; rfl
      have l3 : ∀ N, (Instr.lookup 33 (.map (some w3.heap.size)) (.int .i64 3) false).run Try.prog (wr.drewN N) = .ok (.int .i64 (PP : Int)) (wr.drewN N) := fun N => by rw [(CountIs.drewN HCI.out N).look (by decide), e3]
      have hPP30 : PP ≤ 30 := by rw [hPP]; exact Nat.mul_le_mul hw.2 hN6
      have hmul : IntKind.i64.wrap ((wn : Int) * (ND : Int)) = (PP : Int) := by
        have e : (wn : Int) * (ND : Int) = (PP : Int) := by rw [hPP]; simp
        rw [e]
        exact wrap_smallO (by omega)
      have hwm : IntKind.i64.wrap (m : Int) = (m : Int) := wrap_smallO (by omega)
      obtain ⟨x0, x1, x2⟩ := HX.out
      have y0 := (HT.out.cell (World.block_lt_of_cell? w1 _ x0)).trans x0
      have y1 := (HT.out.cell (World.block_lt_of_cell? w1 _ x1)).trans x1
      have y2 := (HT.out.cell (World.block_lt_of_cell? w1 _ x2)).trans x2
      have yg := (HBr.out.cell (World.block_lt_of_cell? w3 _ HG3.out)).trans HG3.out
      have hlast : ns[m]? = some last := by simpa using HLST.out
      obtain ⟨b, off, ai, ci, hao, hNA, HP⟩ := (RNodes.below HN.out HT.out).at hlast
      subst hao
      obtain ⟨c0, c1, c2, c3, c4, c5, c6, c7⟩ := hNA
      rw [HTO.out, ← HTX.out] at c1
      have HBF : Hid (Below w.heap.size w wr) := HB1.out.trans (HT.out.mono HB1.out.size)
      have e2 : wn = 1 → ∀ N, (Instr.lookup 33 (.map (some w3.heap.size)) (.int .i64 2) false).run Try.prog (wr.drewN N) = .ok (.int .i64 0) (wr.drewN N) := fun h1 N => by
        rw [(CountIs.drewN HCI.out N).look (by decide), HC.out 2 (by decide) (Or.inr h1)]
        rfl
      clear HCI HC HW HK HLST HX HG3 HN HT HT3 htk e1 e5 e3 x0 x1 x2 hlast HP HBr hPP c0 c2 c3 c4 c5 c6 c7 hlt hm h49
      by_cases hw1 : wn = 1
      · have l2 := e2 hw1
        have hg1 : ¬ (1 : Int) < (wn : Int) := by omega
        clear e2 hw1 hw
        go_upto_region 12 with fail
        go_quiet (fail)
        go_wp2_with fail
        go_ret
        exact ⟨by simp, ⟨HBF.out.os, HBF.out.tape, HBF.out.output, HBF.out.size, HBF.out.block⟩⟩
      · have hg1 : (1 : Int) < (wn : Int) := by omega
        clear e2 hw hw1
        go_upto_region 12 with fail
        go_quiet (fail)
        go_wp2_with fail
        go_ret
        exact ⟨by simp, ⟨HBF.out.os, HBF.out.tape, HBF.out.output, HBF.out.size, HBF.out.block⟩⟩
theorem shape_walk (l : SLine) (W : Int) (af ad : Option Addr) (cf cd : Nat) (w : World) (hf : Reads w (.slice af l.fr.length cf) l.fr.length (l.fr.map S)) (hd : RCmds w (.slice ad l.cs.length cd) l.cs) (hfit : FitsL l) :
    Calls Try.prog 3 #[.agg #[.slice af l.fr.length cf, .slice ad l.cs.length cd, .string ⟨l.to.toArray⟩], .int .i64 W] w fun e w' => e = .returned (.bool true) ∧ Below w.heap.size w w' := by
  by_cases h : lchk l ≠ 0
  · exact shape_err l W af ad cf cd w hf hd hfit (by rw [planT_bad h]; exact h)
  · have h0 : lchk l = 0 := by by_cases e : lchk l = 0; exact e; exact absurd e h
    by_cases hw : W < 1 ∨ 5 < W
    · exact shape_err l W af ad cf cd w hf hd hfit (by rw [planT_range h0 hw]; simp)
    · obtain ⟨n, rfl⟩ := Int.eq_ofNat_of_zero_le (show 0 ≤ W by omega)
      exact shape_ok l n (by omega) af ad cf cd w hf hd hfit h0
end Go.Proofs.Ytkifihcficobnab
