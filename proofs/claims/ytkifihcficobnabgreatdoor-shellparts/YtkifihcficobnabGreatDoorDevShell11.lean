/- What Run does. -/
import Derived.Test.YtkifihcficobnabGreatDoorDevShell10
import Derived.Test.YtkifihcficobnabGreatDoorShellG
import Derived.Test.YtkifihcficobnabGreatDoorScrE
namespace Go.Proofs.YtkifihcficobnabGreatDoor
open Go.RowKit Go.Gs
set_option linter.unusedVariables false

theorem runS_files {fs : List SFile} {ls : List SLine} (h : fchk fs ≠ 0) : runS fs ls = ([], fchk fs) := by unfold runS; rw [if_neg h]
theorem runS_bad {fs : List SFile} {ls : List SLine} (h : fchk fs = 0) (h2 : schk ls ≠ 0) : runS fs ls = ([], schk ls) := by unfold runS; rw [if_pos h, if_neg h2]
theorem runS_ok {fs : List SFile} {ls : List SLine} (h : fchk fs = 0) (h2 : schk ls = 0) : runS fs ls = runL fs ls := by unfold runS; rw [if_pos h, if_pos h2]
theorem drop_at {α : Type} {ls : List α} {k : Nat} {x : α} (h : ls[k]? = some x) : ls.drop k = x :: ls.drop (k + 1) := by
  obtain ⟨hk, e⟩ := List.getElem?_eq_some_iff.1 h
  rw [← e, ← List.drop_eq_getElem_cons hk]
theorem word_fits {n : List UInt8} (h : isWord n = true) : n.length ≤ 9223372036854775807 := by
  unfold isWord at h
  simp at h
  omega
theorem right_fits {fs : List SFile} (h : fchk fs = 0) : ∀ f ∈ fs, FitsF f := fun f hf => word_fits (from_all (fchk_zero h).2 f hf).1
theorem lineT_lineOf {fs : List SFile} {x : SLine} (h : lchk x = 0) (h2 : fchk fs = 0) : lineT fs x = lineOf fs x := by unfold lineT; rw [if_pos h, if_pos h2]
theorem putT_putS {fs : List SFile} {n b : List UInt8} (h : fchk fs = 0) : putT fs n b = putS fs n b := by unfold putT; rw [if_pos h]
theorem runL_line {fs : List SFile} {x : SLine} {r : List SLine} (h : (lineOf fs x).2 ≠ 0) : runL fs (x :: r) = ([], (lineOf fs x).2) := by rw [runL, if_neg h]
theorem runL_put {fs : List SFile} {x : SLine} {r : List SLine} (h : (lineOf fs x).2 = 0) (h2 : (putS fs x.to (lineOf fs x).1).2 ≠ 0) : runL fs (x :: r) = ([], (putS fs x.to (lineOf fs x).1).2) := by rw [runL, if_pos h, if_neg h2]
theorem runL_go {fs : List SFile} {x : SLine} {r : List SLine} (h : (lineOf fs x).2 = 0) (h2 : (putS fs x.to (lineOf fs x).1).2 = 0) : runL fs (x :: r) = runL (putS fs x.to (lineOf fs x).1).1 r := by rw [runL, if_pos h, if_pos h2]

theorem putT_err {cur : List SFile} {n b : List UInt8} (h : (putT cur n b).2 ≠ 0) : (putT cur n b).1 = [] := by
  unfold putT at h ⊢
  split
  · rename_i h0
    rw [if_pos h0] at h
    unfold putS at h ⊢
    split
    · rfl
    · split
      · rfl
      · split
        · rfl
        · rename_i h1 h2 h3
          rw [if_neg h1, if_neg h2, if_neg h3] at h
          exact absurd rfl h
  · rfl

set_option maxRecDepth 100000 in
set_option maxHeartbeats 8000000 in
theorem run_is (ao al : Option Addr) (cap cl : Nat) (fs : List SFile) (ls : List SLine) (w : World) (hf : RFiles w (.slice ao fs.length cap) fs) (hfit : ∀ f ∈ fs, FitsF f) (hl : RLines w (.slice al ls.length cl) ls) (hfl : ∀ x ∈ ls, FitsL x) (hK : Known w) :
    Calls Tryz.prog 11 #[.slice ao fs.length cap, .slice al ls.length cl] w fun e w' => PutEnd w (runS fs ls) e w' := by
  have HC : Hid _ := fcheck_is ao cap fs w hf hfit
  have HF : Hid (RFiles w (.slice ao fs.length cap) fs) := hf
  have HSC : Hid _ := fun (W : World) (hb : Below w.heap.size w W) => scheck_is al cl ls W (hl.below hb) hfl
  have HL : Hid (RLines w (.slice al ls.length cl) ls) := hl
  have HFL : Hid _ := hfl
  have HK : Hid (Known w) := hK
  have hle := rlines_le hl
  obtain ⟨N, hN⟩ : ∃ N, N = fs.length := ⟨_, rfl⟩
  have HN : Hid (N = fs.length) := hN
  obtain ⟨M, hM⟩ : ∃ M, M = ls.length := ⟨_, rfl⟩
  have HM : Hid (M = ls.length) := hM
  obtain ⟨ck, hck⟩ : ∃ ck, ck = fchk fs := ⟨_, rfl⟩
  have HCK : Hid (ck = fchk fs) := hck
  obtain ⟨sk, hsk⟩ : ∃ sk, sk = schk ls := ⟨_, rfl⟩
  have HSK : Hid (sk = schk ls) := hsk
  rw [← hN, ← hck] at HC
  rw [← hM, ← hsk] at HSC
  rw [← hM] at HL hle
  rw [← hN, ← hM]
  clear hf hfit hl hfl hK hN hM hck hsk
  by_cases h0 : ck = 0
  · subst h0
    by_cases h1 : sk = 0
    · subst h1
      obtain ⟨hl12, hri⟩ := fchk_zero HCK.out.symm
      obtain ⟨hm6, hall⟩ := schk_zero HSK.out.symm
      rw [← HM.out] at hm6
      have HALL : Hid _ := hall
      have HCL : Hid _ := fun (W : World) (hb : Below w.heap.size w W) => cloned_is ao cap fs W (HF.out.below hb) hl12 (fun f hf => (from_all hri f hf).2)
      rw [← HN.out] at HCL
      have HRS : Hid (runS fs ls = runL fs ls) := runS_ok HCK.out.symm HSK.out.symm
      clear hl12 hri hall
      go_enter Tryz.func11, Tryz.ntmps11
      go_wp2_with fail
      refine Calls.mono HC.out ?_
      rintro e w1 ⟨rfl, hb1⟩
      have HB1 : Hid (Below w.heap.size w w1) := hb1
      clear hb1 HC
      go_wp2_with fail
      have hQ := HSC.out w1 HB1.out
      refine Calls.mono hQ ?_
      rintro e w2 ⟨rfl, hb2⟩
      have HB2 : Hid (Below w.heap.size w w2) := HB1.out.trans (hb2.mono HB1.out.size)
      clear hb2 hQ HSC HB1
      go_wp2_with fail
      have hQ := HCL.out w2 HB2.out
      refine Calls.mono hQ ?_
      rintro e w3 ⟨v', rows, rfl, hfo, hmap, hb3⟩
      have HB3 : Hid (Below w.heap.size w w3) := HB2.out.trans (hb3.mono HB2.out.size)
      have hff := hfo.files
      rw [hmap] at hff
      obtain ⟨a3, c3, rfl, _, _⟩ := hff.shape
      have HF3 : Hid _ := hff
      clear hb3 hQ HCL HB2 hfo hmap hff
      go_wp2_with fail
      go_loopw [8, 27] (fun fv i wr => ∃ k : Nat, ∃ cur : List SFile, ∃ ac cc nc, k ≤ M ∧ i = .int .i64 k ∧ fv = .slice ac nc cc ∧ Hid (nc = cur.length) ∧ Hid (RFiles wr (.slice ac nc cc) cur) ∧ Hid (fchk cur = 0) ∧ Hid (runL fs ls = runL cur (ls.drop k)) ∧ Hid (Below w.heap.size w wr)) (fun _ i _ => M - (intOf i).toNat)
      case atStart => exact ⟨0, fs, a3, c3, _, Nat.zero_le _, rfl, rfl, (show _ = _ from rfl), HF3, HCK.out.symm, (show _ = _ from rfl), HB3⟩
      case round =>
        clear HF3 HB3
        obtain ⟨k, cur, ac, cc, nc, hk, rfl, rfl, HNC, HRF, HRI, HRL, hbel⟩ := hrel
        by_cases hlt : k < M
        · obtain ⟨x, hx⟩ : ∃ x, ls[k]? = some x := ⟨_, List.getElem?_eq_getElem (by have := HM.out; omega)⟩
          obtain ⟨b, off, af, cf, ad, cd, rfl, hc0, hc1, hc2, hr, hd⟩ := (RLines.below HL.out hbel.out).at hx
          have hlx := HALL.out x (List.mem_of_getElem? hx)
          have hfx := HFL.out x (List.mem_of_getElem? hx)
          have HLI : Hid _ := fun (W : World) (hb : Below wr.heap.size wr W) => line_is x ac af ad cc cf cd cur W (by rw [← HNC.out]; exact HRF.out.below hb) (right_fits HRI.out) (hr.below hb) (hd.below hb) hfx ((HK.out.below hbel.out).below hb)
          rw [← HNC.out, lineT_lineOf hlx HRI.out] at HLI
          have HPU : Hid _ := fun (W : World) (hb : Below wr.heap.size wr W) (ab : Option Addr) (cb : Nat) (hrb : Reads W (.slice ab (lineOf cur x).1.length cb) (lineOf cur x).1.length ((lineOf cur x).1.map U)) => put_is ac ab cc cb cur x.to (lineOf cur x).1 W (by rw [← HNC.out]; exact HRF.out.below hb) (right_fits HRI.out) hrb hfx.2.2
          rw [← HNC.out, putT_putS HRI.out] at HPU
          have HDR : Hid (ls.drop k = x :: ls.drop (k + 1)) := drop_at hx
          obtain ⟨le, hle2⟩ : ∃ le, le = (lineOf cur x).2 := ⟨_, rfl⟩
          have HLE : Hid (le = (lineOf cur x).2) := hle2
          generalize (⟨x.to.toArray⟩ : ByteArray) = tx at *
          generalize x.fr.length = NF at *
          generalize x.cs.length = ND at *
          clear hx hr hd hlx hfx hle2
          go_wp2_with fail
          have hQ := HLI.out _ (boxr_of (w := wr) (o := .cells #[.slice af NF cf, .slice ad ND cd, .string tx] 40))
          refine Calls.mono hQ ?_
          rintro e w4 ⟨ab, cb, rfl, hrb, hb4⟩
          have HB14 : Hid (Below wr.heap.size wr w4) := boxr_of.trans (hb4.mono boxr_of.size)
          have HB4 : Hid (Below w.heap.size w w4) := hbel.out.trans (HB14.out.mono hbel.out.size)
          have hx3 := box3_keep hb4
          have HRB : Hid _ := hrb
          rw [← HLE.out]
          by_cases hle0 : le = 0
          · subst hle0
            obtain ⟨pe, hpe⟩ : ∃ pe, pe = (putS cur x.to (lineOf cur x).1).2 := ⟨_, rfl⟩
            have HPE : Hid (pe = (putS cur x.to (lineOf cur x).1).2) := hpe
            obtain ⟨PN, hPN⟩ : ∃ PN, PN = (lineOf cur x).1.length := ⟨_, rfl⟩
            have hP := HPU.out w4 HB14.out ab cb HRB.out
            rw [← hPN] at hP ⊢
            have HP : Hid _ := hP
            clear hb4 hQ HLI hrb hP HPU hPN hpe HRB hc0 hc1 hc2
            go_wp2_with fail
            refine Calls.mono HP.out ?_
            rintro e w5 ⟨ar, cr, rfl, hrf5, hb5⟩
            have HB5 : Hid (Below w.heap.size w w5) := HB4.out.trans (hb5.mono HB4.out.size)
            have HR5 : Hid (RFiles w5 (.slice ar (putS cur x.to (lineOf cur x).1).1.length cr) (putS cur x.to (lineOf cur x).1).1) := hrf5
            rw [← HPE.out]
            by_cases hpe0 : pe = 0
            · subst hpe0
              have HRL2 : Hid (runL fs ls = runL (putS cur x.to (lineOf cur x).1).1 (ls.drop (k + 1))) := (show _ = _ by rw [HRL.out, HDR.out, runL_go HLE.out.symm HPE.out.symm])
              have HRI2 : Hid (fchk (putS cur x.to (lineOf cur x).1).1 = 0) := putS_right HRI.out HPE.out.symm
              obtain ⟨QN, hQN⟩ : ∃ QN, QN = (putS cur x.to (lineOf cur x).1).1.length := ⟨_, rfl⟩
              have HQN : Hid (QN = (putS cur x.to (lineOf cur x).1).1.length) := hQN
              rw [← hQN] at HR5 ⊢
              clear hb5 HP hrf5 hQN hx3
              go_wp2_with fail
              go_roundw
              case rel => exact ⟨k + 1, _, _, _, _, by omega, by go_num, rfl, HQN, HR5, HRI2, HRL2, HB5⟩
              case measure => simp [intOf]; omega
            · have HR : Hid (runS fs ls = ([], pe)) := (show _ = _ by rw [HRS.out, HRL.out, HDR.out, runL_put HLE.out.symm (by rw [← HPE.out]; exact hpe0), ← HPE.out])
              generalize (putS cur x.to (lineOf cur x).1).1.length = QN at *
              clear hb5 HP hrf5 hx3 HR5
              go_wp2_with fail
              go_ret2
              exact putEnd_err HR.out rfl HB5.out
          · have HR : Hid (runS fs ls = ([], le)) := (show _ = _ by rw [HRS.out, HRL.out, HDR.out, runL_line (by rw [← HLE.out]; exact hle0), ← HLE.out])
            generalize (lineOf cur x).1.length = PN at *
            clear hb4 hQ HLI hrb HPU HRB hc0 hc1 hc2
            go_wp2_with fail
            go_ret2
            exact putEnd_err HR.out rfl HB4.out
        · have HR : Hid (runS fs ls = (cur, 0)) := (show _ = _ by rw [HRS.out, HRL.out, List.drop_of_length_le (by have := HM.out; omega)]; rfl)
          go_wp2_with fail
          go_ret2
          refine ⟨ac, cc, ?_, ?_, hbel.out⟩
          · rw [HR.out, ← HNC.out]; rfl
          · rw [HR.out]; have := HRF.out; rw [HNC.out] at this; exact this
    · have HR : Hid (runS fs ls = ([], sk)) := (show _ = _ by rw [runS_bad HCK.out.symm (by rw [← HSK.out]; exact h1), ← HSK.out])
      go_enter Tryz.func11, Tryz.ntmps11
      go_wp2_with fail
      refine Calls.mono HC.out ?_
      rintro e w1 ⟨rfl, hb1⟩
      have HB1 : Hid (Below w.heap.size w w1) := hb1
      clear hb1 HC
      go_wp2_with fail
      have hQ := HSC.out w1 HB1.out
      refine Calls.mono hQ ?_
      rintro e w2 ⟨rfl, hb2⟩
      have HB2 : Hid (Below w.heap.size w w2) := HB1.out.trans (hb2.mono HB1.out.size)
      clear hb2 hQ HSC HB1
      go_wp2_with fail
      go_ret2
      exact putEnd_err HR.out rfl HB2.out
  · have HR : Hid (runS fs ls = ([], ck)) := (show _ = _ by rw [runS_files (by rw [← HCK.out]; exact h0), ← HCK.out])
    clear HSC
    go_enter Tryz.func11, Tryz.ntmps11
    go_wp2_with fail
    refine Calls.mono HC.out ?_
    rintro e w1 ⟨rfl, hb1⟩
    have HB1 : Hid (Below w.heap.size w w1) := hb1
    clear hb1 HC
    go_wp2_with fail
    go_ret2
    exact putEnd_err HR.out rfl HB1.out
end Go.Proofs.YtkifihcficobnabGreatDoor
