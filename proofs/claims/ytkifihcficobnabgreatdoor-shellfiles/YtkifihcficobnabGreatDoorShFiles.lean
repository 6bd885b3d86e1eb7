/- The law ShellFiles, walked. -/
import Derived.Test.YtkifihcficobnabGreatDoorShF1
import Derived.Test.YtkifihcficobnabGreatDoorShelled
import Derived.Test.YtkifihcficobnabGreatDoorDevShell8
import Derived.Test.YtkifihcficobnabGreatDoorFEq
import Derived.Test.YtkifihcficobnabGreatDoorAt
namespace Go.Proofs.YtkifihcficobnabGreatDoor
open Go.RowKit Go.Gs
set_option linter.unusedVariables false

theorem rl_take {w : World} {ao : Option Addr} {n m cap : Nat} {ls : List SLine} (h : RLines w (.slice ao n cap) ls) (hm : m ≤ n) : RLines w (.slice ao m cap) (ls.take m) := by
  obtain ⟨ao', cap', e, h1, h2, h3⟩ := h
  injection e with e1 e2 e3
  subst e1 e2 e3
  have hl : (ls.take m).length = m := by rw [List.length_take]; omega
  refine ⟨ao, cap, by rw [hl], by omega, h2, fun hn => ?_⟩
  obtain ⟨b, off, rfl, hc⟩ := h3 (by omega)
  refine ⟨b, off, rfl, fun j x hj => ?_⟩
  rw [List.getElem?_take] at hj
  split at hj
  · exact hc j x hj
  · cases hj
theorem rl_drop {w : World} {b off n m cap : Nat} {ls : List SLine} (h : RLines w (.slice (some ⟨b, off, none⟩) n cap) ls) (hm : m ≤ n) : RLines w (.slice (some ⟨b, off + m * 3, none⟩) (n - m) (cap - m)) (ls.drop m) := by
  obtain ⟨ao', cap', e, h1, h2, h3⟩ := h
  injection e with e1 e2 e3
  subst e1 e2 e3
  have hl : (ls.drop m).length = ls.length - m := List.length_drop
  refine ⟨_, _, by rw [hl], by omega, by omega, fun hn => ?_⟩
  obtain ⟨b', off', e, hc⟩ := h3 (by omega)
  injection e with e
  injection e with e1 e2
  subst e1 e2
  refine ⟨_, _, rfl, fun j x hj => ?_⟩
  rw [List.getElem?_drop] at hj
  have := hc (m + j) x hj
  rw [show off + (m + j) * 3 = off + m * 3 + j * 3 by omega] at this
  exact this
theorem rl_none {w : World} {ao : Option Addr} {n cap : Nat} {ls : List SLine} (h : ls = []) (hn : n = 0) (hm : cap ≤ maxLen) : RLines w (.slice ao n cap) ls := by
  subst h hn
  exact ⟨ao, cap, rfl, Nat.zero_le _, hm, fun h => absurd rfl h⟩
theorem putT_zero {fs : List SFile} {n b : List UInt8} (h : (putT fs n b).2 = 0) : fchk fs = 0 ∧ putT fs n b = (putF fs n b, 0) ∧ fchk (putF fs n b) = 0 := by
  unfold putT at h ⊢
  by_cases h0 : fchk fs = 0
  · rw [if_pos h0] at h ⊢
    obtain ⟨h1, h2, h3, h4⟩ := putS_zero h
    have h5 := putS_right h0 h
    rw [h4] at h5
    exact ⟨h0, Prod.ext h4 h, h5⟩
  · rw [if_neg h0] at h
    exact absurd h h0
theorem getS_right {fs : List SFile} {n : List UInt8} (h : fchk fs = 0) : getS fs n = (fileOf fs n, 0) := by unfold getS; rw [if_pos h]
theorem fchk_mem {fs : List SFile} (h : fchk fs = 0) {f : SFile} (hf : f ∈ fs) : fileOf fs f.name = f.b := fileOf_mem (fchk_zero h).2 f hf
theorem runS_zero {fs : List SFile} {ls : List SLine} (h : (runS fs ls).2 = 0) : fchk fs = 0 ∧ schk ls = 0 ∧ runS fs ls = runL fs ls := by
  by_cases h0 : fchk fs = 0
  · by_cases h1 : schk ls = 0
    · exact ⟨h0, h1, runS_ok h0 h1⟩
    · rw [runS_bad h0 h1] at h; exact absurd h h1
  · rw [runS_files h0] at h; exact absurd h h0
/-- Two runs. -/
theorem run_two {fs : List SFile} {ls : List SLine} (h : (runS fs ls).2 = 0) (m : Nat) : (runS fs (ls.take m)).2 = 0 ∧ fchk (runS fs (ls.take m)).1 = 0 ∧ runS (runS fs (ls.take m)).1 (ls.drop m) = runS fs ls := by
  obtain ⟨h0, h1, h2⟩ := runS_zero h
  have e1 := runS_ok h0 (schk_take h1 m)
  have h3 : (runL fs (ls.take m)).2 = 0 := run_first (ls.take m) fs (ls.drop m) (by rw [List.take_append_drop, ← h2]; exact h)
  have h4 := run_right (ls.take m) fs h0 h3
  rw [e1]
  refine ⟨h3, h4, ?_⟩
  rw [runS_ok h4 (schk_drop h1 m), h2, ← run_append (ls.take m) fs (ls.drop m) h3, List.take_append_drop]
theorem run_fine {fs : List SFile} {ls : List SLine} (h : (runS fs ls).2 = 0) : fchk (runS fs ls).1 = 0 := by
  obtain ⟨h0, h1, h2⟩ := runS_zero h
  rw [h2] at h ⊢
  exact run_right ls fs h0 h
theorem run_kept {fs : List SFile} {ls : List SLine} (h : (runS fs ls).2 = 0) {f : SFile} (hf : f ∈ fs) (hw : writes ls f.name = false) : getS (runS fs ls).1 f.name = (f.b, 0) := by
  obtain ⟨h0, h1, h2⟩ := runS_zero h
  rw [getS_right (run_fine h)]
  rw [h2] at h ⊢
  rw [run_stays ls fs f.name h (writes_no hw), fchk_mem h0 hf]
set_option maxRecDepth 100000 in
set_option maxHeartbeats 16000000 in
theorem shf_some (ao ab : Option Addr) (cap cb b off cl : Nat) (fs : List SFile) (ls : List SLine) (n bs : List UInt8) (k : Int) (w : World) (hf : RFiles w (.slice ao fs.length cap) fs) (hfit : ∀ f ∈ fs, FitsF f) (hl : RLines w (.slice (some ⟨b, off, none⟩) ls.length cl) ls) (hfl : ∀ x ∈ ls, FitsL x) (hnl : n.length ≤ 9223372036854775807) (hb : Reads w (.slice ab bs.length cb) bs.length (bs.map U)) (hk1 : -9223372036854775808 ≤ k) (hk2 : k ≤ 9223372036854775807) (hK : Known w) :
    Calls Tryz.prog 4 #[.slice ao fs.length cap, .slice (some ⟨b, off, none⟩) ls.length cl, .string ⟨n.toArray⟩, .slice ab bs.length cb, .int .i64 k] w fun e w' => e = .returned (.bool true) ∧ Below w.heap.size w w' := by
  haveI : DecidableEq SFile := fun a b => Classical.propDecidable _
  have hcl := rlines_le hl
  have hcap := rfiles_le hf
  have hbl := reads_le' hb
  have HPUT : Hid _ := put_is ao ab cap cb fs n bs w hf hfit hb hnl
  have HGET : Hid _ := fun (W : World) (a : Option Addr) (c : Nat) (P : List SFile) (hP : RFiles W (.slice a P.length c) P) (hr : fchk P = 0) (m : List UInt8) => get_is a c P m W hP (right_fits hr)
  have HRUN : Hid _ := fun (W : World) (h : Below w.heap.size w W) => run_is ao (some ⟨b, off, none⟩) cap cl fs ls W (hf.below h) hfit (hl.below h) hfl (hK.below h)
  have HSH : Hid _ := fun (W : World) (h : Below w.heap.size w W) => shelled_true W (hK.below h)
  have HA : Hid _ := fun (W : World) (h6 : ls.length ≤ 6) => at_is k (ls.length + 1) W hk1 hk2 (by omega) (by omega)
  have HRA : Hid _ := fun (m : Nat) (hm : m ≤ ls.length) (W : World) (h : Below w.heap.size w W) => run_is ao (some ⟨b, off, none⟩) cap cl fs (ls.take m) W (hf.below h) hfit (by rw [List.length_take, Nat.min_eq_left hm]; exact (rl_take hl hm).below h) (fun x hx => hfl x (List.mem_of_mem_take hx)) (hK.below h)
  have HRB : Hid _ := fun (m : Nat) (hm : m ≤ ls.length) (W : World) (h : Below w.heap.size w W) (ap : Option Addr) (cp : Nat) (P : List SFile) (hP : RFiles W (.slice ap P.length cp) P) (hr : fchk P = 0) => run_is ap (some ⟨b, off + m * 3, none⟩) cp (cl - m) P (ls.drop m) W hP (right_fits hr) (by rw [List.length_drop]; exact (rl_drop hl hm).below h) (fun x hx => hfl x (List.mem_of_mem_drop hx)) (hK.below h)
  have HRC : Hid _ := fun (m : Nat) (hm : ls.length ≤ m) (W : World) (h : Below w.heap.size w W) (ap : Option Addr) (cp : Nat) (P : List SFile) (hP : RFiles W (.slice ap P.length cp) P) (hr : fchk P = 0) => run_is ap (some ⟨b, off, none⟩) cp 0 P (ls.drop m) W hP (right_fits hr) (rl_none (List.drop_of_length_le hm) (by rw [List.drop_of_length_le hm]; rfl) (by simp)) (fun x hx => hfl x (List.mem_of_mem_drop hx)) (hK.below h)
  have HCF : Hid _ := fun (W : World) (h : Below w.heap.size w W) (bx : Nat) (m : List UInt8) (hc : W.cell? ⟨bx, 0, none⟩ = some (.string ⟨m.toArray⟩)) => containsF_is (some ⟨b, off, none⟩) cl bx ls m W (hl.below h) hc
  have HF : Hid (RFiles w (.slice ao fs.length cap) fs) := hf
  have HBR : Hid (Reads w (.slice ab bs.length cb) bs.length (bs.map U)) := hb
  obtain ⟨N, hN⟩ : ∃ N, N = fs.length := ⟨_, rfl⟩
  have HN : Hid (N = fs.length) := hN
  obtain ⟨M, hM⟩ : ∃ M, M = ls.length := ⟨_, rfl⟩
  have HM : Hid (M = ls.length) := hM
  obtain ⟨L, hL⟩ : ∃ L, L = bs.length := ⟨_, rfl⟩
  have HL : Hid (L = bs.length) := hL
  obtain ⟨nx, hnx⟩ : ∃ nx : ByteArray, nx = ⟨n.toArray⟩ := ⟨_, rfl⟩
  have HNX : Hid (nx = ⟨n.toArray⟩) := hnx
  rw [← hN, ← hnx, ← hL] at HPUT
  rw [← hN, ← hM] at HRUN
  rw [← hM] at HA HCF hcl
  rw [← hN] at HRA HF hcap
  rw [← hL] at HBR hbl
  rw [← hN, ← hM, ← hL, ← hnx]
  clear hf hfit hl hfl hnl hb hK hN hM hL hnx hk1 hk2
  go_enter Tryz.func4, Tryz.ntmps4
  go_wp2_with fail
  refine Calls.mono HPUT.out ?_
  rintro e w1 ⟨ay, cy, rfl, hry, hb1⟩
  have HB1 : Hid (Below w.heap.size w w1) := hb1
  have HRY : Hid (RFiles w1 (.slice ay (putT fs n bs).1.length cy) (putT fs n bs).1) := hry
  obtain ⟨pe, hpe⟩ : ∃ pe, pe = (putT fs n bs).2 := ⟨_, rfl⟩
  have HPE : Hid (pe = (putT fs n bs).2) := hpe
  obtain ⟨YN, hYN⟩ : ∃ YN, YN = (putT fs n bs).1.length := ⟨_, rfl⟩
  have HYN : Hid (YN = (putT fs n bs).1.length) := hYN
  rw [← hpe, ← hYN]
  rw [← hYN] at HRY
  clear hry hb1 HPUT hpe hYN
  by_cases hpe0 : pe = 0
  · subst hpe0
    obtain ⟨hq1, hq2, hq3⟩ := putT_zero HPE.out.symm
    have HQ1 : Hid (fchk fs = 0) := hq1
    have HQ3 : Hid (fchk (putF fs n bs) = 0) := hq3
    rw [hq2] at HRY HYN
    have HRYb : Hid (RFiles w1 (.slice ay YN cy) (putF fs n bs)) := HRY.out
    have HYN2 : Hid (YN = (putF fs n bs).length) := HYN.out
    have hG := HGET.out w1 ay cy (putF fs n bs) (by rw [← HYN2.out]; exact HRYb.out) hq3 n
    rw [getS_right hq3, put_get, ← HYN2.out, ← HNX.out] at hG
    have HG : Hid _ := hG
    clear hq1 hq2 hq3 hG HRY HYN
    go_wp2_with fail
    refine Calls.mono HG.out ?_
    rintro e w2 ⟨ag, cg, rfl, hrg, hb2⟩
    have HB2 : Hid (Below w.heap.size w w2) := HB1.out.trans (hb2.mono HB1.out.size)
    have HRY2 : Hid (RFiles w2 (.slice ay YN cy) (putF fs n bs)) := HRYb.out.below hb2
    have HEQ : Hid _ := eqbyte_is ag ab cg cb bs bs w2 hrg (by have h := HBR.out.below HB2.out; rw [HL.out] at h; exact h)
    rw [← HL.out, decide_eq_true (rfl : bs = bs)] at HEQ
    simp only
    rw [← HL.out]
    clear hb2 hrg HG HB1 HRYb
    go_wp2_with fail
    refine Calls.mono HEQ.out ?_
    rintro e w3 ⟨rfl, hb3⟩
    have HB3 : Hid (Below w.heap.size w w3) := HB2.out.trans (hb3.mono HB2.out.size)
    have HRY3 : Hid (RFiles w3 (.slice ay YN cy) (putF fs n bs)) := HRY2.out.below hb3
    clear hb3 HEQ HB2 HRY2
    go_wp2_with fail
    go_loopw [53] (fun i wr => ∃ k : Nat, k ≤ N ∧ i = .int .i64 k ∧ Hid (Below w.heap.size w wr) ∧ Hid (RFiles wr (.slice ay YN cy) (putF fs n bs))) (fun i _ => N - (intOf i).toNat)
    case atStart => exact ⟨0, Nat.zero_le _, rfl, HB3, HRY3⟩
    case round =>
      clear HB3 HRY3
      obtain ⟨k1, hk1, rfl, hbel, HRYr⟩ := hrel
      by_cases hlt : k1 < N
      · obtain ⟨f, hfk⟩ : ∃ f, fs[k1]? = some f := ⟨_, List.getElem?_eq_getElem (by have := HN.out; omega)⟩
        obtain ⟨bb, off2, ab2, cb2, rfl, hc0, hc1, hrr⟩ := (RFiles.below HF.out hbel.out).at hfk
        have HFM : Hid (f ∈ fs) := List.mem_of_getElem? hfk
        obtain ⟨fx, hfx⟩ : ∃ fx : ByteArray, fx = ⟨f.name.toArray⟩ := ⟨_, rfl⟩
        have HFX : Hid (fx = ⟨f.name.toArray⟩) := hfx
        obtain ⟨FL, hFL⟩ : ∃ FL, FL = f.b.length := ⟨_, rfl⟩
        have HFL : Hid (FL = f.b.length) := hFL
        have HRR : Hid (Reads wr (.slice ab2 f.b.length cb2) f.b.length (f.b.map U)) := hrr
        have hse := str_eq2 f.name n
        rw [← hfx, ← HNX.out] at hse
        rw [← hfx] at hc0
        rw [← hFL] at hc1
        clear hfk hrr hfx hFL
        have hbx : Below wr.heap.size wr (wr.alloc (.cells #[.string fx, .slice ab2 FL cb2] 45)) := boxr_of
        have hG := HGET.out (wr.alloc (.cells #[.string fx, .slice ab2 FL cb2] 45)) ay cy (putF fs n bs) (by rw [← HYN2.out]; exact HRYr.out.below hbx) HQ3.out f.name
        rw [getS_right HQ3.out, ← HYN2.out, ← HFX.out] at hG
        have HG : Hid _ := hG
        have HBX : Hid _ := hbx
        clear hG hbx
        go_wp2_with fail
        refine Calls.mono HG.out ?_
        rintro e w4 ⟨ag, cg, rfl, hrg, hb4⟩
        have HB14 : Hid (Below wr.heap.size wr w4) := HBX.out.trans (hb4.mono HBX.out.size)
        have HB4 : Hid (Below w.heap.size w w4) := hbel.out.trans (HB14.out.mono hbel.out.size)
        obtain ⟨hx0, hx1⟩ := box2_cells hb4
        have HRY4 : Hid (RFiles w4 (.slice ay YN cy) (putF fs n bs)) := HRYr.out.below HB14.out
        have HRR4 : Hid (Reads w4 (.slice ab2 f.b.length cb2) f.b.length (f.b.map U)) := HRR.out.below HB14.out
        have HRG : Hid (Reads w4 (.slice ag (fileOf (putF fs n bs) f.name).length cg) (fileOf (putF fs n bs) f.name).length ((fileOf (putF fs n bs) f.name).map U)) := hrg
        clear hb4 hrg HG HBX HB14 HRYr HRR hc0 hc1
        by_cases hfn : f.name = n
        · have hse' : (fx.toList == nx.toList) = true := by rw [hse]; exact decide_eq_true hfn
          generalize (fileOf (putF fs n bs) f.name).length = GL at *
          clear hse hfn HRG
          go_wp2_with fail
          go_roundw
          case rel => exact ⟨k1 + 1, by omega, by go_num, HB4, HRY4⟩
          case measure => simp [intOf]; omega
        · have hse' : (fx.toList == nx.toList) = false := by rw [hse]; exact decide_eq_false hfn
          have hfo : fileOf (putF fs n bs) f.name = f.b := by rw [put_other _ _ _ _ hfn, fchk_mem HQ1.out HFM.out]
          rw [hfo] at HRG ⊢
          have HEQ : Hid _ := eqbyte_is ag ab2 cg cb2 f.b f.b w4 HRG.out HRR4.out
          rw [← HFL.out, decide_eq_true (rfl : f.b = f.b)] at HEQ
          rw [← HFL.out]
          clear hse hfn hfo HRG HRR4
          go_wp2_with fail
          refine Calls.mono HEQ.out ?_
          rintro e w5 ⟨rfl, hb5⟩
          have HB5 : Hid (Below w.heap.size w w5) := HB4.out.trans (hb5.mono HB4.out.size)
          have HRY5 : Hid (RFiles w5 (.slice ay YN cy) (putF fs n bs)) := HRY4.out.below hb5
          clear hb5 HEQ HRY4 HB4 hx0 hx1
          go_wp2_with fail
          go_roundw
          case rel => exact ⟨k1 + 1, by omega, by go_num, HB5, HRY5⟩
          case measure => simp [intOf]; omega
      · clear HRYr HYN2 HQ3 HQ1
        generalize hwrp : wr = w9 at *
        go_wp2_with fail
        have hQ := HRUN.out w9 hbel.out
        refine Calls.mono hQ ?_
        rintro e wa ⟨az, cz, rfl, hrz, hba⟩
        have HBa : Hid (Below w.heap.size w wa) := hbel.out.trans (hba.mono hbel.out.size)
        have HRZ : Hid (RFiles wa (.slice az (runS fs ls).1.length cz) (runS fs ls).1) := hrz
        obtain ⟨rk, hrk⟩ : ∃ rk, rk = (runS fs ls).2 := ⟨_, rfl⟩
        have HRK : Hid (rk = (runS fs ls).2) := hrk
        obtain ⟨ZN, hZN⟩ : ∃ ZN, ZN = (runS fs ls).1.length := ⟨_, rfl⟩
        have HZN : Hid (ZN = (runS fs ls).1.length) := hZN
        rw [← hrk, ← hZN]
        rw [← hZN] at HRZ
        clear hQ hrz hba hrk hZN
        go_wp2_with fail
        have hQ := HSH.out wa HBa.out
        refine Calls.mono hQ ?_
        rintro e wb ⟨rfl, hbb⟩
        have HBb : Hid (Below w.heap.size w wb) := HBa.out.trans (hbb.mono HBa.out.size)
        have HRZb : Hid (RFiles wb (.slice az ZN cz) (runS fs ls).1) := HRZ.out.below hbb
        clear hQ hbb HRZ HBa
        by_cases hrk0 : rk = 0
        · subst hrk0
          obtain ⟨hfc, hsc, _⟩ := runS_zero HRK.out.symm
          have hM6 := (schk_zero hsc).1
          rw [← HM.out] at hM6
          have HFC : Hid (fchk fs = 0) := hfc
          clear hfc hsc
          go_wp2_with fail
          have hQ := HA.out wb hM6
          refine Calls.mono hQ ?_
          rintro e wb' ⟨m, hm, rfl, hwb⟩
          obtain rfl : wb = wb' := hwb.symm
          have hmM : m ≤ M := by omega
          obtain ⟨ht1, ht2, ht3⟩ := run_two HRK.out.symm m
          have HT1 : Hid _ := ht1
          have HT2 : Hid _ := ht2
          have HT3 : Hid _ := ht3
          clear hQ hwb ht1 ht2 ht3
          go_wp2_with fail
          have hQ := HRA.out m (by rw [← HM.out]; exact hmM) wb HBb.out
          rw [List.length_take, Nat.min_eq_left (by rw [← HM.out]; exact hmM)] at hQ
          refine Calls.mono hQ ?_
          rintro e wc ⟨ap, cp, rfl, hrp, hbc⟩
          have HBc : Hid (Below w.heap.size w wc) := HBb.out.trans (hbc.mono HBb.out.size)
          have HRZc : Hid (RFiles wc (.slice az ZN cz) (runS fs ls).1) := HRZb.out.below hbc
          have HRP : Hid (RFiles wc (.slice ap (runS fs (ls.take m)).1.length cp) (runS fs (ls.take m)).1) := hrp
          obtain ⟨PN, hPN⟩ : ∃ PN, PN = (runS fs (ls.take m)).1.length := ⟨_, rfl⟩
          have HPN : Hid (PN = (runS fs (ls.take m)).1.length) := hPN
          rw [HT1.out, ← hPN]
          rw [← hPN] at HRP
          clear hQ hrp hbc hPN HRZb HBb HRA HRUN HA
          go_wp2_with fail
          · have hclm : cl = m := by omega
            subst hclm
            have hQ := HRC.out cl (by rw [← HM.out]; omega) wc HBc.out ap cp _ (by rw [← HPN.out]; exact HRP.out) HT2.out
            rw [HT3.out, List.length_drop, ← HM.out, ← HPN.out] at hQ
            refine Calls.mono hQ ?_
            rintro e wd ⟨aq, cq, rfl, hrq, hbd⟩
            have HBd : Hid (Below w.heap.size w wd) := HBc.out.trans (hbd.mono HBc.out.size)
            have HRZd : Hid (RFiles wd (.slice az ZN cz) (runS fs ls).1) := HRZc.out.below hbd
            have HRQ : Hid (RFiles wd (.slice aq (runS fs ls).1.length cq) (runS fs ls).1) := hrq
            rw [← HRK.out, ← HZN.out]
            rw [← HZN.out] at HRQ
            have HSM : Hid _ := same_is aq az cq cz (runS fs ls).1 (runS fs ls).1 wd (by rw [← HZN.out]; exact HRQ.out) (by rw [← HZN.out]; exact HRZd.out)
            rw [← HZN.out, decide_eq_true (rfl : (runS fs ls).1 = (runS fs ls).1)] at HSM
            clear hQ hrq hbd HRC HRB HRZc HRP HBc HRQ
            go_wp2_with fail
            refine Calls.mono HSM.out ?_
            rintro e we ⟨rfl, hbe⟩
            have HBe : Hid (Below w.heap.size w we) := HBd.out.trans (hbe.mono HBd.out.size)
            have HRZe : Hid (RFiles we (.slice az ZN cz) (runS fs ls).1) := HRZd.out.below hbe
            clear hbe HSM HRZd HBd
            go_wp2_with fail
            generalize hweq : we = wee at *
            go_loopw [128] (fun i wr => ∃ k : Nat, k ≤ N ∧ i = .int .i64 k ∧ Hid (Below w.heap.size w wr) ∧ Hid (RFiles wr (.slice az ZN cz) (runS fs ls).1)) (fun i _ => N - (intOf i).toNat)
            case atStart => exact ⟨0, Nat.zero_le _, rfl, HBe, HRZe⟩
            case round =>
              clear HBe HRZe
              obtain ⟨k2, hk2, rfl, hbel, HRZr⟩ := hrel
              by_cases hlt : k2 < N
              · obtain ⟨f, hfk⟩ : ∃ f, fs[k2]? = some f := ⟨_, List.getElem?_eq_getElem (by have := HN.out; omega)⟩
                obtain ⟨bb, off2, ab2, cb2, rfl, hc0, hc1, hrr⟩ := (RFiles.below HF.out hbel.out).at hfk
                have HFM : Hid (f ∈ fs) := List.mem_of_getElem? hfk
                obtain ⟨fx, hfx⟩ : ∃ fx : ByteArray, fx = ⟨f.name.toArray⟩ := ⟨_, rfl⟩
                have HFX : Hid (fx = ⟨f.name.toArray⟩) := hfx
                obtain ⟨FL, hFL⟩ : ∃ FL, FL = f.b.length := ⟨_, rfl⟩
                have HFL : Hid (FL = f.b.length) := hFL
                have HRR : Hid (Reads wr (.slice ab2 f.b.length cb2) f.b.length (f.b.map U)) := hrr
                rw [← hfx] at hc0
                rw [← hFL] at hc1
                clear hfk hrr hfx hFL
                go_wp2_with fail
                have hbx : Below wr.heap.size wr (wr.alloc (.cells #[.string fx, .slice ab2 FL cb2] 45)) := boxr_of
                have hQ := HCF.out (wr.alloc (.cells #[.string fx, .slice ab2 FL cb2] 45)) (hbel.out.trans (hbx.mono hbel.out.size)) wr.heap.size f.name (by rw [← HFX.out]; exact (box2_cells (Below.refl _ _)).1)
                refine Calls.mono hQ ?_
                rintro e w5 ⟨rfl, hb5⟩
                have HB15 : Hid (Below wr.heap.size wr w5) := hbx.trans (hb5.mono hbx.size)
                have HB5 : Hid (Below w.heap.size w w5) := hbel.out.trans (HB15.out.mono hbel.out.size)
                obtain ⟨hx0, hx1⟩ := box2_cells hb5
                have HRZ5 : Hid (RFiles w5 (.slice az ZN cz) (runS fs ls).1) := HRZr.out.below HB15.out
                have HRR5 : Hid (Reads w5 (.slice ab2 f.b.length cb2) f.b.length (f.b.map U)) := HRR.out.below HB15.out
                obtain ⟨wt, hwt⟩ : ∃ wt, wt = writes ls f.name := ⟨_, rfl⟩
                have HWT : Hid (wt = writes ls f.name) := hwt
                rw [← hwt]
                clear hQ hbx hb5 HB15 HRZr HRR hwt hc0 hc1
                cases wt with
                | true =>
                  go_wp2_with fail
                  go_roundw
                  case rel => exact ⟨k2 + 1, by omega, by go_num, HB5, HRZ5⟩
                  case measure => simp [intOf]; omega
                | false =>
                  have hG := HGET.out w5 az cz (runS fs ls).1 (by rw [← HZN.out]; exact HRZ5.out) (run_fine HRK.out.symm) f.name
                  rw [run_kept HRK.out.symm HFM.out HWT.out.symm, ← HZN.out, ← HFX.out] at hG
                  have HG : Hid _ := hG
                  clear hG
                  go_wp2_with fail
                  refine Calls.mono HG.out ?_
                  rintro e w6 ⟨ag, cg, rfl, hrg, hb6⟩
                  have HB6 : Hid (Below w.heap.size w w6) := HB5.out.trans (hb6.mono HB5.out.size)
                  have hy1 := (hb6.cell (World.block_lt_of_cell? w5 _ hx1)).trans hx1
                  have HRZ6 : Hid (RFiles w6 (.slice az ZN cz) (runS fs ls).1) := HRZ5.out.below hb6
                  have HEQ : Hid _ := eqbyte_is ag ab2 cg cb2 f.b f.b w6 hrg (HRR5.out.below hb6)
                  rw [← HFL.out, decide_eq_true (rfl : f.b = f.b)] at HEQ
                  simp only
                  rw [← HFL.out]
                  clear hb6 hrg HG HRZ5 HRR5 HB5 hx0 hx1
                  go_wp2_with fail
                  refine Calls.mono HEQ.out ?_
                  rintro e w7 ⟨rfl, hb7⟩
                  have HB7 : Hid (Below w.heap.size w w7) := HB6.out.trans (hb7.mono HB6.out.size)
                  have HRZ7 : Hid (RFiles w7 (.slice az ZN cz) (runS fs ls).1) := HRZ6.out.below hb7
                  clear hb7 HEQ HRZ6 HB6 hy1
                  go_wp2_with fail
                  go_roundw
                  case rel => exact ⟨k2 + 1, by omega, by go_num, HB7, HRZ7⟩
                  case measure => simp [intOf]; omega
              · go_wp2_with fail
                go_ret
                exact ⟨rfl, hbel.out⟩
          · have hQ := HRB.out m (by rw [← HM.out]; exact hmM) wc HBc.out ap cp _ (by rw [← HPN.out]; exact HRP.out) HT2.out
            rw [HT3.out, List.length_drop, ← HM.out, ← HPN.out] at hQ
            refine Calls.mono hQ ?_
            rintro e wd ⟨aq, cq, rfl, hrq, hbd⟩
            have HBd : Hid (Below w.heap.size w wd) := HBc.out.trans (hbd.mono HBc.out.size)
            have HRZd : Hid (RFiles wd (.slice az ZN cz) (runS fs ls).1) := HRZc.out.below hbd
            have HRQ : Hid (RFiles wd (.slice aq (runS fs ls).1.length cq) (runS fs ls).1) := hrq
            rw [← HRK.out, ← HZN.out]
            rw [← HZN.out] at HRQ
            have HSM : Hid _ := same_is aq az cq cz (runS fs ls).1 (runS fs ls).1 wd (by rw [← HZN.out]; exact HRQ.out) (by rw [← HZN.out]; exact HRZd.out)
            rw [← HZN.out, decide_eq_true (rfl : (runS fs ls).1 = (runS fs ls).1)] at HSM
            clear hQ hrq hbd HRC HRB HRZc HRP HBc HRQ
            go_wp2_with fail
            refine Calls.mono HSM.out ?_
            rintro e we ⟨rfl, hbe⟩
            have HBe : Hid (Below w.heap.size w we) := HBd.out.trans (hbe.mono HBd.out.size)
            have HRZe : Hid (RFiles we (.slice az ZN cz) (runS fs ls).1) := HRZd.out.below hbe
            clear hbe HSM HRZd HBd
            go_wp2_with fail
            generalize hweq : we = wee at *
            go_loopw [128] (fun i wr => ∃ k : Nat, k ≤ N ∧ i = .int .i64 k ∧ Hid (Below w.heap.size w wr) ∧ Hid (RFiles wr (.slice az ZN cz) (runS fs ls).1)) (fun i _ => N - (intOf i).toNat)
            case atStart => exact ⟨0, Nat.zero_le _, rfl, HBe, HRZe⟩
            case round =>
              clear HBe HRZe
              obtain ⟨k2, hk2, rfl, hbel, HRZr⟩ := hrel
              by_cases hlt : k2 < N
              · obtain ⟨f, hfk⟩ : ∃ f, fs[k2]? = some f := ⟨_, List.getElem?_eq_getElem (by have := HN.out; omega)⟩
                obtain ⟨bb, off2, ab2, cb2, rfl, hc0, hc1, hrr⟩ := (RFiles.below HF.out hbel.out).at hfk
                have HFM : Hid (f ∈ fs) := List.mem_of_getElem? hfk
                obtain ⟨fx, hfx⟩ : ∃ fx : ByteArray, fx = ⟨f.name.toArray⟩ := ⟨_, rfl⟩
                have HFX : Hid (fx = ⟨f.name.toArray⟩) := hfx
                obtain ⟨FL, hFL⟩ : ∃ FL, FL = f.b.length := ⟨_, rfl⟩
                have HFL : Hid (FL = f.b.length) := hFL
                have HRR : Hid (Reads wr (.slice ab2 f.b.length cb2) f.b.length (f.b.map U)) := hrr
                rw [← hfx] at hc0
                rw [← hFL] at hc1
                clear hfk hrr hfx hFL
                go_wp2_with fail
                have hbx : Below wr.heap.size wr (wr.alloc (.cells #[.string fx, .slice ab2 FL cb2] 45)) := boxr_of
                have hQ := HCF.out (wr.alloc (.cells #[.string fx, .slice ab2 FL cb2] 45)) (hbel.out.trans (hbx.mono hbel.out.size)) wr.heap.size f.name (by rw [← HFX.out]; exact (box2_cells (Below.refl _ _)).1)
                refine Calls.mono hQ ?_
                rintro e w5 ⟨rfl, hb5⟩
                have HB15 : Hid (Below wr.heap.size wr w5) := hbx.trans (hb5.mono hbx.size)
                have HB5 : Hid (Below w.heap.size w w5) := hbel.out.trans (HB15.out.mono hbel.out.size)
                obtain ⟨hx0, hx1⟩ := box2_cells hb5
                have HRZ5 : Hid (RFiles w5 (.slice az ZN cz) (runS fs ls).1) := HRZr.out.below HB15.out
                have HRR5 : Hid (Reads w5 (.slice ab2 f.b.length cb2) f.b.length (f.b.map U)) := HRR.out.below HB15.out
                obtain ⟨wt, hwt⟩ : ∃ wt, wt = writes ls f.name := ⟨_, rfl⟩
                have HWT : Hid (wt = writes ls f.name) := hwt
                rw [← hwt]
                clear hQ hbx hb5 HB15 HRZr HRR hwt hc0 hc1
                cases wt with
                | true =>
                  go_wp2_with fail
                  go_roundw
                  case rel => exact ⟨k2 + 1, by omega, by go_num, HB5, HRZ5⟩
                  case measure => simp [intOf]; omega
                | false =>
                  have hG := HGET.out w5 az cz (runS fs ls).1 (by rw [← HZN.out]; exact HRZ5.out) (run_fine HRK.out.symm) f.name
                  rw [run_kept HRK.out.symm HFM.out HWT.out.symm, ← HZN.out, ← HFX.out] at hG
                  have HG : Hid _ := hG
                  clear hG
                  go_wp2_with fail
                  refine Calls.mono HG.out ?_
                  rintro e w6 ⟨ag, cg, rfl, hrg, hb6⟩
                  have HB6 : Hid (Below w.heap.size w w6) := HB5.out.trans (hb6.mono HB5.out.size)
                  have hy1 := (hb6.cell (World.block_lt_of_cell? w5 _ hx1)).trans hx1
                  have HRZ6 : Hid (RFiles w6 (.slice az ZN cz) (runS fs ls).1) := HRZ5.out.below hb6
                  have HEQ : Hid _ := eqbyte_is ag ab2 cg cb2 f.b f.b w6 hrg (HRR5.out.below hb6)
                  rw [← HFL.out, decide_eq_true (rfl : f.b = f.b)] at HEQ
                  simp only
                  rw [← HFL.out]
                  clear hb6 hrg HG HRZ5 HRR5 HB5 hx0 hx1
                  go_wp2_with fail
                  refine Calls.mono HEQ.out ?_
                  rintro e w7 ⟨rfl, hb7⟩
                  have HB7 : Hid (Below w.heap.size w w7) := HB6.out.trans (hb7.mono HB6.out.size)
                  have HRZ7 : Hid (RFiles w7 (.slice az ZN cz) (runS fs ls).1) := HRZ6.out.below hb7
                  clear hb7 HEQ HRZ6 HB6 hy1
                  go_wp2_with fail
                  go_roundw
                  case rel => exact ⟨k2 + 1, by omega, by go_num, HB7, HRZ7⟩
                  case measure => simp [intOf]; omega
              · go_wp2_with fail
                go_ret
                exact ⟨rfl, hbel.out⟩
        · go_wp2_with fail
          have hQ := HSH.out wb HBb.out
          refine Calls.mono hQ ?_
          rintro e wc ⟨rfl, hbc⟩
          have HBc : Hid (Below w.heap.size w wc) := HBb.out.trans (hbc.mono HBb.out.size)
          clear hQ hbc
          go_wp2_with fail
          go_ret
          exact ⟨rfl, HBc.out⟩
  · clear HRY HYN
    go_wp2_with fail
    have hQ := HRUN.out w1 HB1.out
    refine Calls.mono hQ ?_
    rintro e wa ⟨az, cz, rfl, hrz, hba⟩
    have HBa : Hid (Below w.heap.size w wa) := HB1.out.trans (hba.mono HB1.out.size)
    have HRZ : Hid (RFiles wa (.slice az (runS fs ls).1.length cz) (runS fs ls).1) := hrz
    obtain ⟨rk, hrk⟩ : ∃ rk, rk = (runS fs ls).2 := ⟨_, rfl⟩
    have HRK : Hid (rk = (runS fs ls).2) := hrk
    obtain ⟨ZN, hZN⟩ : ∃ ZN, ZN = (runS fs ls).1.length := ⟨_, rfl⟩
    have HZN : Hid (ZN = (runS fs ls).1.length) := hZN
    rw [← hrk, ← hZN]
    rw [← hZN] at HRZ
    clear hQ hrz hba hrk hZN
    go_wp2_with fail
    have hQ := HSH.out wa HBa.out
    refine Calls.mono hQ ?_
    rintro e wb ⟨rfl, hbb⟩
    have HBb : Hid (Below w.heap.size w wb) := HBa.out.trans (hbb.mono HBa.out.size)
    have HRZb : Hid (RFiles wb (.slice az ZN cz) (runS fs ls).1) := HRZ.out.below hbb
    clear hQ hbb HRZ HBa
    by_cases hrk0 : rk = 0
    · subst hrk0
      obtain ⟨hfc, hsc, _⟩ := runS_zero HRK.out.symm
      have hM6 := (schk_zero hsc).1
      rw [← HM.out] at hM6
      have HFC : Hid (fchk fs = 0) := hfc
      clear hfc hsc
      go_wp2_with fail
      have hQ := HA.out wb hM6
      refine Calls.mono hQ ?_
      rintro e wb' ⟨m, hm, rfl, hwb⟩
      obtain rfl : wb = wb' := hwb.symm
      have hmM : m ≤ M := by omega
      obtain ⟨ht1, ht2, ht3⟩ := run_two HRK.out.symm m
      have HT1 : Hid _ := ht1
      have HT2 : Hid _ := ht2
      have HT3 : Hid _ := ht3
      clear hQ hwb ht1 ht2 ht3
      go_wp2_with fail
      have hQ := HRA.out m (by rw [← HM.out]; exact hmM) wb HBb.out
      rw [List.length_take, Nat.min_eq_left (by rw [← HM.out]; exact hmM)] at hQ
      refine Calls.mono hQ ?_
      rintro e wc ⟨ap, cp, rfl, hrp, hbc⟩
      have HBc : Hid (Below w.heap.size w wc) := HBb.out.trans (hbc.mono HBb.out.size)
      have HRZc : Hid (RFiles wc (.slice az ZN cz) (runS fs ls).1) := HRZb.out.below hbc
      have HRP : Hid (RFiles wc (.slice ap (runS fs (ls.take m)).1.length cp) (runS fs (ls.take m)).1) := hrp
      obtain ⟨PN, hPN⟩ : ∃ PN, PN = (runS fs (ls.take m)).1.length := ⟨_, rfl⟩
      have HPN : Hid (PN = (runS fs (ls.take m)).1.length) := hPN
      rw [HT1.out, ← hPN]
      rw [← hPN] at HRP
      clear hQ hrp hbc hPN HRZb HBb HRA HRUN HA
      go_wp2_with fail
      · have hclm : cl = m := by omega
        subst hclm
        have hQ := HRC.out cl (by rw [← HM.out]; omega) wc HBc.out ap cp _ (by rw [← HPN.out]; exact HRP.out) HT2.out
        rw [HT3.out, List.length_drop, ← HM.out, ← HPN.out] at hQ
        refine Calls.mono hQ ?_
        rintro e wd ⟨aq, cq, rfl, hrq, hbd⟩
        have HBd : Hid (Below w.heap.size w wd) := HBc.out.trans (hbd.mono HBc.out.size)
        have HRZd : Hid (RFiles wd (.slice az ZN cz) (runS fs ls).1) := HRZc.out.below hbd
        have HRQ : Hid (RFiles wd (.slice aq (runS fs ls).1.length cq) (runS fs ls).1) := hrq
        rw [← HRK.out, ← HZN.out]
        rw [← HZN.out] at HRQ
        have HSM : Hid _ := same_is aq az cq cz (runS fs ls).1 (runS fs ls).1 wd (by rw [← HZN.out]; exact HRQ.out) (by rw [← HZN.out]; exact HRZd.out)
        rw [← HZN.out, decide_eq_true (rfl : (runS fs ls).1 = (runS fs ls).1)] at HSM
        clear hQ hrq hbd HRC HRB HRZc HRP HBc HRQ
        go_wp2_with fail
        refine Calls.mono HSM.out ?_
        rintro e we ⟨rfl, hbe⟩
        have HBe : Hid (Below w.heap.size w we) := HBd.out.trans (hbe.mono HBd.out.size)
        have HRZe : Hid (RFiles we (.slice az ZN cz) (runS fs ls).1) := HRZd.out.below hbe
        clear hbe HSM HRZd HBd
        go_wp2_with fail
        generalize hweq : we = wee at *
        go_loopw [128] (fun i wr => ∃ k : Nat, k ≤ N ∧ i = .int .i64 k ∧ Hid (Below w.heap.size w wr) ∧ Hid (RFiles wr (.slice az ZN cz) (runS fs ls).1)) (fun i _ => N - (intOf i).toNat)
        case atStart => exact ⟨0, Nat.zero_le _, rfl, HBe, HRZe⟩
        case round =>
          clear HBe HRZe
          obtain ⟨k2, hk2, rfl, hbel, HRZr⟩ := hrel
          by_cases hlt : k2 < N
          · obtain ⟨f, hfk⟩ : ∃ f, fs[k2]? = some f := ⟨_, List.getElem?_eq_getElem (by have := HN.out; omega)⟩
            obtain ⟨bb, off2, ab2, cb2, rfl, hc0, hc1, hrr⟩ := (RFiles.below HF.out hbel.out).at hfk
            have HFM : Hid (f ∈ fs) := List.mem_of_getElem? hfk
            obtain ⟨fx, hfx⟩ : ∃ fx : ByteArray, fx = ⟨f.name.toArray⟩ := ⟨_, rfl⟩
            have HFX : Hid (fx = ⟨f.name.toArray⟩) := hfx
            obtain ⟨FL, hFL⟩ : ∃ FL, FL = f.b.length := ⟨_, rfl⟩
            have HFL : Hid (FL = f.b.length) := hFL
            have HRR : Hid (Reads wr (.slice ab2 f.b.length cb2) f.b.length (f.b.map U)) := hrr
            rw [← hfx] at hc0
            rw [← hFL] at hc1
            clear hfk hrr hfx hFL
            go_wp2_with fail
            have hbx : Below wr.heap.size wr (wr.alloc (.cells #[.string fx, .slice ab2 FL cb2] 45)) := boxr_of
            have hQ := HCF.out (wr.alloc (.cells #[.string fx, .slice ab2 FL cb2] 45)) (hbel.out.trans (hbx.mono hbel.out.size)) wr.heap.size f.name (by rw [← HFX.out]; exact (box2_cells (Below.refl _ _)).1)
            refine Calls.mono hQ ?_
            rintro e w5 ⟨rfl, hb5⟩
            have HB15 : Hid (Below wr.heap.size wr w5) := hbx.trans (hb5.mono hbx.size)
            have HB5 : Hid (Below w.heap.size w w5) := hbel.out.trans (HB15.out.mono hbel.out.size)
            obtain ⟨hx0, hx1⟩ := box2_cells hb5
            have HRZ5 : Hid (RFiles w5 (.slice az ZN cz) (runS fs ls).1) := HRZr.out.below HB15.out
            have HRR5 : Hid (Reads w5 (.slice ab2 f.b.length cb2) f.b.length (f.b.map U)) := HRR.out.below HB15.out
            obtain ⟨wt, hwt⟩ : ∃ wt, wt = writes ls f.name := ⟨_, rfl⟩
            have HWT : Hid (wt = writes ls f.name) := hwt
            rw [← hwt]
            clear hQ hbx hb5 HB15 HRZr HRR hwt hc0 hc1
            cases wt with
            | true =>
              go_wp2_with fail
              go_roundw
              case rel => exact ⟨k2 + 1, by omega, by go_num, HB5, HRZ5⟩
              case measure => simp [intOf]; omega
            | false =>
              have hG := HGET.out w5 az cz (runS fs ls).1 (by rw [← HZN.out]; exact HRZ5.out) (run_fine HRK.out.symm) f.name
              rw [run_kept HRK.out.symm HFM.out HWT.out.symm, ← HZN.out, ← HFX.out] at hG
              have HG : Hid _ := hG
              clear hG
              go_wp2_with fail
              refine Calls.mono HG.out ?_
              rintro e w6 ⟨ag, cg, rfl, hrg, hb6⟩
              have HB6 : Hid (Below w.heap.size w w6) := HB5.out.trans (hb6.mono HB5.out.size)
              have hy1 := (hb6.cell (World.block_lt_of_cell? w5 _ hx1)).trans hx1
              have HRZ6 : Hid (RFiles w6 (.slice az ZN cz) (runS fs ls).1) := HRZ5.out.below hb6
              have HEQ : Hid _ := eqbyte_is ag ab2 cg cb2 f.b f.b w6 hrg (HRR5.out.below hb6)
              rw [← HFL.out, decide_eq_true (rfl : f.b = f.b)] at HEQ
              simp only
              rw [← HFL.out]
              clear hb6 hrg HG HRZ5 HRR5 HB5 hx0 hx1
              go_wp2_with fail
              refine Calls.mono HEQ.out ?_
              rintro e w7 ⟨rfl, hb7⟩
              have HB7 : Hid (Below w.heap.size w w7) := HB6.out.trans (hb7.mono HB6.out.size)
              have HRZ7 : Hid (RFiles w7 (.slice az ZN cz) (runS fs ls).1) := HRZ6.out.below hb7
              clear hb7 HEQ HRZ6 HB6 hy1
              go_wp2_with fail
              go_roundw
              case rel => exact ⟨k2 + 1, by omega, by go_num, HB7, HRZ7⟩
              case measure => simp [intOf]; omega
          · go_wp2_with fail
            go_ret
            exact ⟨rfl, hbel.out⟩
      · have hQ := HRB.out m (by rw [← HM.out]; exact hmM) wc HBc.out ap cp _ (by rw [← HPN.out]; exact HRP.out) HT2.out
        rw [HT3.out, List.length_drop, ← HM.out, ← HPN.out] at hQ
        refine Calls.mono hQ ?_
        rintro e wd ⟨aq, cq, rfl, hrq, hbd⟩
        have HBd : Hid (Below w.heap.size w wd) := HBc.out.trans (hbd.mono HBc.out.size)
        have HRZd : Hid (RFiles wd (.slice az ZN cz) (runS fs ls).1) := HRZc.out.below hbd
        have HRQ : Hid (RFiles wd (.slice aq (runS fs ls).1.length cq) (runS fs ls).1) := hrq
        rw [← HRK.out, ← HZN.out]
        rw [← HZN.out] at HRQ
        have HSM : Hid _ := same_is aq az cq cz (runS fs ls).1 (runS fs ls).1 wd (by rw [← HZN.out]; exact HRQ.out) (by rw [← HZN.out]; exact HRZd.out)
        rw [← HZN.out, decide_eq_true (rfl : (runS fs ls).1 = (runS fs ls).1)] at HSM
        clear hQ hrq hbd HRC HRB HRZc HRP HBc HRQ
        go_wp2_with fail
        refine Calls.mono HSM.out ?_
        rintro e we ⟨rfl, hbe⟩
        have HBe : Hid (Below w.heap.size w we) := HBd.out.trans (hbe.mono HBd.out.size)
        have HRZe : Hid (RFiles we (.slice az ZN cz) (runS fs ls).1) := HRZd.out.below hbe
        clear hbe HSM HRZd HBd
        go_wp2_with fail
        generalize hweq : we = wee at *
        go_loopw [128] (fun i wr => ∃ k : Nat, k ≤ N ∧ i = .int .i64 k ∧ Hid (Below w.heap.size w wr) ∧ Hid (RFiles wr (.slice az ZN cz) (runS fs ls).1)) (fun i _ => N - (intOf i).toNat)
        case atStart => exact ⟨0, Nat.zero_le _, rfl, HBe, HRZe⟩
        case round =>
          clear HBe HRZe
          obtain ⟨k2, hk2, rfl, hbel, HRZr⟩ := hrel
          by_cases hlt : k2 < N
          · obtain ⟨f, hfk⟩ : ∃ f, fs[k2]? = some f := ⟨_, List.getElem?_eq_getElem (by have := HN.out; omega)⟩
            obtain ⟨bb, off2, ab2, cb2, rfl, hc0, hc1, hrr⟩ := (RFiles.below HF.out hbel.out).at hfk
            have HFM : Hid (f ∈ fs) := List.mem_of_getElem? hfk
            obtain ⟨fx, hfx⟩ : ∃ fx : ByteArray, fx = ⟨f.name.toArray⟩ := ⟨_, rfl⟩
            have HFX : Hid (fx = ⟨f.name.toArray⟩) := hfx
            obtain ⟨FL, hFL⟩ : ∃ FL, FL = f.b.length := ⟨_, rfl⟩
            have HFL : Hid (FL = f.b.length) := hFL
            have HRR : Hid (Reads wr (.slice ab2 f.b.length cb2) f.b.length (f.b.map U)) := hrr
            rw [← hfx] at hc0
            rw [← hFL] at hc1
            clear hfk hrr hfx hFL
            go_wp2_with fail
            have hbx : Below wr.heap.size wr (wr.alloc (.cells #[.string fx, .slice ab2 FL cb2] 45)) := boxr_of
            have hQ := HCF.out (wr.alloc (.cells #[.string fx, .slice ab2 FL cb2] 45)) (hbel.out.trans (hbx.mono hbel.out.size)) wr.heap.size f.name (by rw [← HFX.out]; exact (box2_cells (Below.refl _ _)).1)
            refine Calls.mono hQ ?_
            rintro e w5 ⟨rfl, hb5⟩
            have HB15 : Hid (Below wr.heap.size wr w5) := hbx.trans (hb5.mono hbx.size)
            have HB5 : Hid (Below w.heap.size w w5) := hbel.out.trans (HB15.out.mono hbel.out.size)
            obtain ⟨hx0, hx1⟩ := box2_cells hb5
            have HRZ5 : Hid (RFiles w5 (.slice az ZN cz) (runS fs ls).1) := HRZr.out.below HB15.out
            have HRR5 : Hid (Reads w5 (.slice ab2 f.b.length cb2) f.b.length (f.b.map U)) := HRR.out.below HB15.out
            obtain ⟨wt, hwt⟩ : ∃ wt, wt = writes ls f.name := ⟨_, rfl⟩
            have HWT : Hid (wt = writes ls f.name) := hwt
            rw [← hwt]
            clear hQ hbx hb5 HB15 HRZr HRR hwt hc0 hc1
            cases wt with
            | true =>
              go_wp2_with fail
              go_roundw
              case rel => exact ⟨k2 + 1, by omega, by go_num, HB5, HRZ5⟩
              case measure => simp [intOf]; omega
            | false =>
              have hG := HGET.out w5 az cz (runS fs ls).1 (by rw [← HZN.out]; exact HRZ5.out) (run_fine HRK.out.symm) f.name
              rw [run_kept HRK.out.symm HFM.out HWT.out.symm, ← HZN.out, ← HFX.out] at hG
              have HG : Hid _ := hG
              clear hG
              go_wp2_with fail
              refine Calls.mono HG.out ?_
              rintro e w6 ⟨ag, cg, rfl, hrg, hb6⟩
              have HB6 : Hid (Below w.heap.size w w6) := HB5.out.trans (hb6.mono HB5.out.size)
              have hy1 := (hb6.cell (World.block_lt_of_cell? w5 _ hx1)).trans hx1
              have HRZ6 : Hid (RFiles w6 (.slice az ZN cz) (runS fs ls).1) := HRZ5.out.below hb6
              have HEQ : Hid _ := eqbyte_is ag ab2 cg cb2 f.b f.b w6 hrg (HRR5.out.below hb6)
              rw [← HFL.out, decide_eq_true (rfl : f.b = f.b)] at HEQ
              simp only
              rw [← HFL.out]
              clear hb6 hrg HG HRZ5 HRR5 HB5 hx0 hx1
              go_wp2_with fail
              refine Calls.mono HEQ.out ?_
              rintro e w7 ⟨rfl, hb7⟩
              have HB7 : Hid (Below w.heap.size w w7) := HB6.out.trans (hb7.mono HB6.out.size)
              have HRZ7 : Hid (RFiles w7 (.slice az ZN cz) (runS fs ls).1) := HRZ6.out.below hb7
              clear hb7 HEQ HRZ6 HB6 hy1
              go_wp2_with fail
              go_roundw
              case rel => exact ⟨k2 + 1, by omega, by go_num, HB7, HRZ7⟩
              case measure => simp [intOf]; omega
          · go_wp2_with fail
            go_ret
            exact ⟨rfl, hbel.out⟩
    · go_wp2_with fail
      have hQ := HSH.out wb HBb.out
      refine Calls.mono hQ ?_
      rintro e wc ⟨rfl, hbc⟩
      have HBc : Hid (Below w.heap.size w wc) := HBb.out.trans (hbc.mono HBb.out.size)
      clear hQ hbc
      go_wp2_with fail
      go_ret
      exact ⟨rfl, HBc.out⟩

set_option maxRecDepth 100000 in
set_option maxHeartbeats 16000000 in
theorem shf_none1 (ao ab : Option Addr) (cap cb : Nat) (fs : List SFile) (n bs : List UInt8) (k : Int) (w : World) (hf : RFiles w (.slice ao fs.length cap) fs) (hfit : ∀ f ∈ fs, FitsF f) (hnl : n.length ≤ 9223372036854775807) (hb : Reads w (.slice ab bs.length cb) bs.length (bs.map U)) (hk1 : -9223372036854775808 ≤ k) (hk2 : k ≤ 9223372036854775807) (hK : Known w) :
    Calls Tryz.prog 4 #[.slice ao fs.length cap, .slice none 0 0, .string ⟨n.toArray⟩, .slice ab bs.length cb, .int .i64 k] w fun e w' => e = .returned (.bool true) ∧ Below w.heap.size w w' := by
  haveI : DecidableEq SFile := fun a b => Classical.propDecidable _
  have hcap := rfiles_le hf
  have hbl := reads_le' hb
  have HPUT : Hid _ := put_is ao ab cap cb fs n bs w hf hfit hb hnl
  have HGET : Hid _ := fun (W : World) (a : Option Addr) (c : Nat) (P : List SFile) (hP : RFiles W (.slice a P.length c) P) (hr : fchk P = 0) (m : List UInt8) => get_is a c P m W hP (right_fits hr)
  have HRE : Hid _ := fun (a : Option Addr) (c : Nat) (hc : c ≤ 9223372036854775807) (W : World) (h : Below w.heap.size w W) (ap : Option Addr) (cp : Nat) (P : List SFile) (hP : RFiles W (.slice ap P.length cp) P) (hr : ∀ f ∈ P, FitsF f) => run_is ap a cp c P [] W hP hr (rl_none rfl rfl (by unfold maxLen; omega)) (fun x hx => by cases hx) (hK.below h)
  have HRF : Hid (∀ (a : Option Addr) (c : Nat) (hc : c ≤ 9223372036854775807) (W : World) (h : Below w.heap.size w W) (ap : Option Addr) (cp : Nat) (hP : RFiles W (.slice ap fs.length cp) fs) (h0 : runS fs [] = (fs, 0)), Calls Tryz.prog 11 #[.slice ap fs.length cp, .slice a 0 c] W fun e w' => ∃ ar cr, e = .returned (.tuple #[.slice ar fs.length cr, .int .i64 0]) ∧ RFiles w' (.slice ar fs.length cr) fs ∧ Below W.heap.size W w') := fun (a : Option Addr) (c : Nat) (hc : c ≤ 9223372036854775807) (W : World) (h : Below w.heap.size w W) (ap : Option Addr) (cp : Nat) (hP : RFiles W (.slice ap fs.length cp) fs) (h0 : runS fs [] = (fs, 0)) => by
    have q := HRE.out a c hc W h ap cp fs hP hfit
    rw [h0] at q
    exact q
  have HSH : Hid _ := fun (W : World) (h : Below w.heap.size w W) => shelled_true W (hK.below h)
  have HA : Hid _ := fun (W : World) => at_is k 1 W hk1 hk2 (by omega) (by omega)
  have HCF : Hid (∀ (a : Option Addr) (c : Nat) (hc : c ≤ 9223372036854775807) (W : World) (bx : Nat) (m : List UInt8) (hx : W.cell? ⟨bx, 0, none⟩ = some (.string ⟨m.toArray⟩)), Calls Tryz.prog 26 #[.slice a 0 c, .func (.func 27) #[] #[.pointer (some ⟨bx, 0, none⟩)]] W fun e w' => e = .returned (.bool false) ∧ Below W.heap.size W w') := fun (a : Option Addr) (c : Nat) (hc : c ≤ 9223372036854775807) (W : World) (bx : Nat) (m : List UInt8) (hx : W.cell? ⟨bx, 0, none⟩ = some (.string ⟨m.toArray⟩)) => containsF_is a c bx [] m W (rl_none rfl rfl (by unfold maxLen; omega)) hx
  have HFIT : Hid _ := hfit
  have HF : Hid (RFiles w (.slice ao fs.length cap) fs) := hf
  have HBR : Hid (Reads w (.slice ab bs.length cb) bs.length (bs.map U)) := hb
  obtain ⟨N, hN⟩ : ∃ N, N = fs.length := ⟨_, rfl⟩
  have HN : Hid (N = fs.length) := hN
  obtain ⟨L, hL⟩ : ∃ L, L = bs.length := ⟨_, rfl⟩
  have HL : Hid (L = bs.length) := hL
  obtain ⟨nx, hnx⟩ : ∃ nx : ByteArray, nx = ⟨n.toArray⟩ := ⟨_, rfl⟩
  have HNX : Hid (nx = ⟨n.toArray⟩) := hnx
  rw [← hN, ← hnx, ← hL] at HPUT
  rw [← hN] at HF hcap HRF
  rw [← hL] at HBR hbl
  rw [← hN, ← hL, ← hnx]
  clear hf hfit hnl hb hK hN hL hnx hk1 hk2
  go_enter Tryz.func4, Tryz.ntmps4
  go_wp2_with fail
  refine Calls.mono HPUT.out ?_
  rintro e w1 ⟨ay, cy, rfl, hry, hb1⟩
  have HB1 : Hid (Below w.heap.size w w1) := hb1
  have HRY : Hid (RFiles w1 (.slice ay (putT fs n bs).1.length cy) (putT fs n bs).1) := hry
  obtain ⟨pe, hpe⟩ : ∃ pe, pe = (putT fs n bs).2 := ⟨_, rfl⟩
  have HPE : Hid (pe = (putT fs n bs).2) := hpe
  obtain ⟨YN, hYN⟩ : ∃ YN, YN = (putT fs n bs).1.length := ⟨_, rfl⟩
  have HYN : Hid (YN = (putT fs n bs).1.length) := hYN
  rw [← hpe, ← hYN]
  rw [← hYN] at HRY
  clear hry hb1 HPUT hpe hYN
  by_cases hpe0 : pe = 0
  · subst hpe0
    obtain ⟨hq1, hq2, hq3⟩ := putT_zero HPE.out.symm
    have HQ1 : Hid (fchk fs = 0) := hq1
    have HQ3 : Hid (fchk (putF fs n bs) = 0) := hq3
    rw [hq2] at HRY HYN
    have HRYb : Hid (RFiles w1 (.slice ay YN cy) (putF fs n bs)) := HRY.out
    have HYN2 : Hid (YN = (putF fs n bs).length) := HYN.out
    have hG := HGET.out w1 ay cy (putF fs n bs) (by rw [← HYN2.out]; exact HRYb.out) hq3 n
    rw [getS_right hq3, put_get, ← HYN2.out, ← HNX.out] at hG
    have HG : Hid _ := hG
    clear hq1 hq2 hq3 hG HRY HYN
    go_wp2_with fail
    refine Calls.mono HG.out ?_
    rintro e w2 ⟨ag, cg, rfl, hrg, hb2⟩
    have HB2 : Hid (Below w.heap.size w w2) := HB1.out.trans (hb2.mono HB1.out.size)
    have HRY2 : Hid (RFiles w2 (.slice ay YN cy) (putF fs n bs)) := HRYb.out.below hb2
    have HEQ : Hid _ := eqbyte_is ag ab cg cb bs bs w2 hrg (by have h := HBR.out.below HB2.out; rw [HL.out] at h; exact h)
    rw [← HL.out, decide_eq_true (rfl : bs = bs)] at HEQ
    simp only
    rw [← HL.out]
    clear hb2 hrg HG HB1 HRYb
    go_wp2_with fail
    refine Calls.mono HEQ.out ?_
    rintro e w3 ⟨rfl, hb3⟩
    have HB3 : Hid (Below w.heap.size w w3) := HB2.out.trans (hb3.mono HB2.out.size)
    have HRY3 : Hid (RFiles w3 (.slice ay YN cy) (putF fs n bs)) := HRY2.out.below hb3
    clear hb3 HEQ HB2 HRY2
    go_wp2_with fail
    go_loopw [53] (fun i wr => ∃ k : Nat, k ≤ N ∧ i = .int .i64 k ∧ Hid (Below w.heap.size w wr) ∧ Hid (RFiles wr (.slice ay YN cy) (putF fs n bs))) (fun i _ => N - (intOf i).toNat)
    case atStart => exact ⟨0, Nat.zero_le _, rfl, HB3, HRY3⟩
    case round =>
      clear HB3 HRY3
      obtain ⟨k1, hk1, rfl, hbel, HRYr⟩ := hrel
      by_cases hlt : k1 < N
      · obtain ⟨f, hfk⟩ : ∃ f, fs[k1]? = some f := ⟨_, List.getElem?_eq_getElem (by have := HN.out; omega)⟩
        obtain ⟨bb, off2, ab2, cb2, rfl, hc0, hc1, hrr⟩ := (RFiles.below HF.out hbel.out).at hfk
        have HFM : Hid (f ∈ fs) := List.mem_of_getElem? hfk
        obtain ⟨fx, hfx⟩ : ∃ fx : ByteArray, fx = ⟨f.name.toArray⟩ := ⟨_, rfl⟩
        have HFX : Hid (fx = ⟨f.name.toArray⟩) := hfx
        obtain ⟨FL, hFL⟩ : ∃ FL, FL = f.b.length := ⟨_, rfl⟩
        have HFL : Hid (FL = f.b.length) := hFL
        have HRR : Hid (Reads wr (.slice ab2 f.b.length cb2) f.b.length (f.b.map U)) := hrr
        have hse := str_eq2 f.name n
        rw [← hfx, ← HNX.out] at hse
        rw [← hfx] at hc0
        rw [← hFL] at hc1
        clear hfk hrr hfx hFL
        have hbx : Below wr.heap.size wr (wr.alloc (.cells #[.string fx, .slice ab2 FL cb2] 45)) := boxr_of
        have hG := HGET.out (wr.alloc (.cells #[.string fx, .slice ab2 FL cb2] 45)) ay cy (putF fs n bs) (by rw [← HYN2.out]; exact HRYr.out.below hbx) HQ3.out f.name
        rw [getS_right HQ3.out, ← HYN2.out, ← HFX.out] at hG
        have HG : Hid _ := hG
        have HBX : Hid _ := hbx
        clear hG hbx
        go_wp2_with fail
        refine Calls.mono HG.out ?_
        rintro e w4 ⟨ag, cg, rfl, hrg, hb4⟩
        have HB14 : Hid (Below wr.heap.size wr w4) := HBX.out.trans (hb4.mono HBX.out.size)
        have HB4 : Hid (Below w.heap.size w w4) := hbel.out.trans (HB14.out.mono hbel.out.size)
        obtain ⟨hx0, hx1⟩ := box2_cells hb4
        have HRY4 : Hid (RFiles w4 (.slice ay YN cy) (putF fs n bs)) := HRYr.out.below HB14.out
        have HRR4 : Hid (Reads w4 (.slice ab2 f.b.length cb2) f.b.length (f.b.map U)) := HRR.out.below HB14.out
        have HRG : Hid (Reads w4 (.slice ag (fileOf (putF fs n bs) f.name).length cg) (fileOf (putF fs n bs) f.name).length ((fileOf (putF fs n bs) f.name).map U)) := hrg
        clear hb4 hrg HG HBX HB14 HRYr HRR hc0 hc1
        by_cases hfn : f.name = n
        · have hse' : (fx.toList == nx.toList) = true := by rw [hse]; exact decide_eq_true hfn
          generalize (fileOf (putF fs n bs) f.name).length = GL at *
          clear hse hfn HRG
          go_wp2_with fail
          go_roundw
          case rel => exact ⟨k1 + 1, by omega, by go_num, HB4, HRY4⟩
          case measure => simp [intOf]; omega
        · have hse' : (fx.toList == nx.toList) = false := by rw [hse]; exact decide_eq_false hfn
          have hfo : fileOf (putF fs n bs) f.name = f.b := by rw [put_other _ _ _ _ hfn, fchk_mem HQ1.out HFM.out]
          rw [hfo] at HRG ⊢
          have HEQ : Hid _ := eqbyte_is ag ab2 cg cb2 f.b f.b w4 HRG.out HRR4.out
          rw [← HFL.out, decide_eq_true (rfl : f.b = f.b)] at HEQ
          rw [← HFL.out]
          clear hse hfn hfo HRG HRR4
          go_wp2_with fail
          refine Calls.mono HEQ.out ?_
          rintro e w5 ⟨rfl, hb5⟩
          have HB5 : Hid (Below w.heap.size w w5) := HB4.out.trans (hb5.mono HB4.out.size)
          have HRY5 : Hid (RFiles w5 (.slice ay YN cy) (putF fs n bs)) := HRY4.out.below hb5
          clear hb5 HEQ HRY4 HB4 hx0 hx1
          go_wp2_with fail
          go_roundw
          case rel => exact ⟨k1 + 1, by omega, by go_num, HB5, HRY5⟩
          case measure => simp [intOf]; omega
      · clear HRYr HYN2 HQ3 HQ1
        generalize hwrp : wr = w9 at *
        by_cases hck : fchk fs = 0
        · have HR0 : Hid (runS fs [] = (fs, 0)) := (show _ = _ by rw [runS_ok hck rfl]; rfl)
          have HCK : Hid (fchk fs = 0) := hck
          clear hck
          go_wp2_with fail
          have hQ := HRE.out none 0 (Nat.zero_le _) w9 hbel.out ao cap fs (by rw [← HN.out]; exact HF.out.below hbel.out) HFIT.out
          rw [HR0.out, ← HN.out] at hQ
          refine Calls.mono hQ ?_
          rintro e wa ⟨az, cz, rfl, hrz, hba⟩
          have HBa : Hid (Below w.heap.size w wa) := hbel.out.trans (hba.mono hbel.out.size)
          have HRZ : Hid (RFiles wa (.slice az fs.length cz) fs) := hrz
          simp only
          rw [← HN.out]
          rw [← HN.out] at HRZ
          clear hQ hrz hba
          go_wp2_with fail
          have hQ := HSH.out wa HBa.out
          refine Calls.mono hQ ?_
          rintro e wb ⟨rfl, hbb⟩
          have HBb : Hid (Below w.heap.size w wb) := HBa.out.trans (hbb.mono HBa.out.size)
          have HRZb : Hid (RFiles wb (.slice az N cz) fs) := HRZ.out.below hbb
          clear hQ hbb HRZ HBa
          go_wp2_with fail
          have hQ := HA.out wb
          refine Calls.mono hQ ?_
          rintro e wb' ⟨m, hm, rfl, hwb⟩
          obtain rfl : wb = wb' := hwb.symm
          obtain rfl : m = 0 := by omega
          clear hQ hwb hm
          go_wp2_with fail
          refine Calls.mono (HRF.out _ _ (by first | exact Nat.zero_le _ | exact Nat.zero_le _ | (simp; omega)) wb HBb.out ao cap (HF.out.below HBb.out) HR0.out) ?_
          rintro e wc ⟨ap, cp, rfl, hrp, hbc⟩
          have HBc : Hid (Below w.heap.size w wc) := HBb.out.trans (hbc.mono HBb.out.size)
          have HRZc : Hid (RFiles wc (.slice az N cz) fs) := HRZb.out.below hbc
          have HRP : Hid (RFiles wc (.slice ap N cp) fs) := hrp
          clear hrp hbc HRZb HBb
          go_wp2_with fail
          all_goals
            refine Calls.mono (HRF.out _ _ (by first | exact Nat.zero_le _ | exact Nat.zero_le _ | (simp; omega)) wc HBc.out ap cp HRP.out HR0.out) ?_
            rintro e wd ⟨aq, cq, rfl, hrq, hbd⟩
            have HBd : Hid (Below w.heap.size w wd) := HBc.out.trans (hbd.mono HBc.out.size)
            have HRZd : Hid (RFiles wd (.slice az N cz) fs) := HRZc.out.below hbd
            have HSM : Hid _ := same_is aq az cq cz fs fs wd (by rw [← HN.out]; exact hrq) (by rw [← HN.out]; exact HRZd.out)
            rw [← HN.out, decide_eq_true (rfl : fs = fs)] at HSM
            clear hrq hbd HRZc HRP HBc
            go_wp2_with fail
            refine Calls.mono HSM.out ?_
            rintro e we ⟨rfl, hbe⟩
            have HBe : Hid (Below w.heap.size w we) := HBd.out.trans (hbe.mono HBd.out.size)
            have HRZe : Hid (RFiles we (.slice az N cz) fs) := HRZd.out.below hbe
            clear hbe HSM HRZd HBd
            go_wp2_with fail
            generalize hweq : we = wee at *
            go_loopw [128] (fun i wr => ∃ k : Nat, k ≤ N ∧ i = .int .i64 k ∧ Hid (Below w.heap.size w wr) ∧ Hid (RFiles wr (.slice az N cz) fs)) (fun i _ => N - (intOf i).toNat)
            case atStart => exact ⟨0, Nat.zero_le _, rfl, HBe, HRZe⟩
            case round =>
              clear HBe HRZe
              obtain ⟨k2, hk2, rfl, hbel, HRZr⟩ := hrel
              by_cases hlt : k2 < N
              · obtain ⟨f, hfk⟩ : ∃ f, fs[k2]? = some f := ⟨_, List.getElem?_eq_getElem (by have := HN.out; omega)⟩
                obtain ⟨bb, off2, ab2, cb2, rfl, hc0, hc1, hrr⟩ := (RFiles.below HF.out hbel.out).at hfk
                have HFM : Hid (f ∈ fs) := List.mem_of_getElem? hfk
                obtain ⟨fx, hfx⟩ : ∃ fx : ByteArray, fx = ⟨f.name.toArray⟩ := ⟨_, rfl⟩
                have HFX : Hid (fx = ⟨f.name.toArray⟩) := hfx
                obtain ⟨FL, hFL⟩ : ∃ FL, FL = f.b.length := ⟨_, rfl⟩
                have HFL : Hid (FL = f.b.length) := hFL
                have HRR : Hid (Reads wr (.slice ab2 f.b.length cb2) f.b.length (f.b.map U)) := hrr
                rw [← hfx] at hc0
                rw [← hFL] at hc1
                clear hfk hrr hfx hFL
                go_wp2_with fail
                have hbx : Below wr.heap.size wr (wr.alloc (.cells #[.string fx, .slice ab2 FL cb2] 45)) := boxr_of
                refine Calls.mono (HCF.out _ _ (by first | exact Nat.zero_le _ | exact Nat.zero_le _ | (simp; omega)) (wr.alloc (.cells #[.string fx, .slice ab2 FL cb2] 45)) wr.heap.size f.name (by rw [← HFX.out]; exact (box2_cells (Below.refl _ _)).1)) ?_
                rintro e w5 ⟨rfl, hb5⟩
                have HB15 : Hid (Below wr.heap.size wr w5) := hbx.trans (hb5.mono hbx.size)
                have HB5 : Hid (Below w.heap.size w w5) := hbel.out.trans (HB15.out.mono hbel.out.size)
                obtain ⟨hx0, hx1⟩ := box2_cells hb5
                have HRZ5 : Hid (RFiles w5 (.slice az N cz) fs) := HRZr.out.below HB15.out
                have HRR5 : Hid (Reads w5 (.slice ab2 f.b.length cb2) f.b.length (f.b.map U)) := HRR.out.below HB15.out
                have hG := HGET.out w5 az cz fs (by rw [← HN.out]; exact HRZ5.out) HCK.out f.name
                rw [getS_right HCK.out, fchk_mem HCK.out HFM.out, ← HN.out, ← HFX.out] at hG
                have HG : Hid _ := hG
                clear hG hbx hb5 HB15 HRZr HRR hc0 hc1
                go_wp2_with fail
                refine Calls.mono HG.out ?_
                rintro e w6 ⟨ag, cg, rfl, hrg, hb6⟩
                have HB6 : Hid (Below w.heap.size w w6) := HB5.out.trans (hb6.mono HB5.out.size)
                have hy1 := (hb6.cell (World.block_lt_of_cell? w5 _ hx1)).trans hx1
                have HRZ6 : Hid (RFiles w6 (.slice az N cz) fs) := HRZ5.out.below hb6
                have HEQ : Hid _ := eqbyte_is ag ab2 cg cb2 f.b f.b w6 hrg (HRR5.out.below hb6)
                rw [← HFL.out, decide_eq_true (rfl : f.b = f.b)] at HEQ
                simp only
                rw [← HFL.out]
                clear hb6 hrg HG HRZ5 HRR5 HB5 hx0 hx1
                go_wp2_with fail
                refine Calls.mono HEQ.out ?_
                rintro e w7 ⟨rfl, hb7⟩
                have HB7 : Hid (Below w.heap.size w w7) := HB6.out.trans (hb7.mono HB6.out.size)
                have HRZ7 : Hid (RFiles w7 (.slice az N cz) fs) := HRZ6.out.below hb7
                clear hb7 HEQ HRZ6 HB6 hy1
                go_wp2_with fail
                go_roundw
                case rel => exact ⟨k2 + 1, by omega, by go_num, HB7, HRZ7⟩
                case measure => simp [intOf]; omega
              · go_wp2_with fail
                go_ret
                exact ⟨rfl, hbel.out⟩
        · have HR0 : Hid (runS fs [] = ([], fchk fs)) := runS_files hck
          obtain ⟨ck, hckk⟩ : ∃ ck, ck = fchk fs := ⟨_, rfl⟩
          rw [← hckk] at hck HR0
          clear hckk
          go_wp2_with fail
          have hQ := HRE.out none 0 (Nat.zero_le _) w9 hbel.out ao cap fs (by rw [← HN.out]; exact HF.out.below hbel.out) HFIT.out
          rw [HR0.out, ← HN.out] at hQ
          refine Calls.mono hQ ?_
          rintro e wa ⟨az, cz, rfl, hrz, hba⟩
          have HBa : Hid (Below w.heap.size w wa) := hbel.out.trans (hba.mono hbel.out.size)
          simp only
          clear hQ hrz hba
          go_wp2_with fail
          have hQ := HSH.out wa HBa.out
          refine Calls.mono hQ ?_
          rintro e wb ⟨rfl, hbb⟩
          have HBb : Hid (Below w.heap.size w wb) := HBa.out.trans (hbb.mono HBa.out.size)
          clear hQ hbb HBa
          go_wp2_with fail
          have hQ := HSH.out wb HBb.out
          refine Calls.mono hQ ?_
          rintro e wc ⟨rfl, hbc⟩
          have HBc : Hid (Below w.heap.size w wc) := HBb.out.trans (hbc.mono HBb.out.size)
          clear hQ hbc
          go_wp2_with fail
          go_ret
          exact ⟨rfl, HBc.out⟩
  · clear HRY HYN
    by_cases hck : fchk fs = 0
    · have HR0 : Hid (runS fs [] = (fs, 0)) := (show _ = _ by rw [runS_ok hck rfl]; rfl)
      have HCK : Hid (fchk fs = 0) := hck
      clear hck
      go_wp2_with fail
      have hQ := HRE.out none 0 (Nat.zero_le _) w1 HB1.out ao cap fs (by rw [← HN.out]; exact HF.out.below HB1.out) HFIT.out
      rw [HR0.out, ← HN.out] at hQ
      refine Calls.mono hQ ?_
      rintro e wa ⟨az, cz, rfl, hrz, hba⟩
      have HBa : Hid (Below w.heap.size w wa) := HB1.out.trans (hba.mono HB1.out.size)
      have HRZ : Hid (RFiles wa (.slice az fs.length cz) fs) := hrz
      simp only
      rw [← HN.out]
      rw [← HN.out] at HRZ
      clear hQ hrz hba
      go_wp2_with fail
      have hQ := HSH.out wa HBa.out
      refine Calls.mono hQ ?_
      rintro e wb ⟨rfl, hbb⟩
      have HBb : Hid (Below w.heap.size w wb) := HBa.out.trans (hbb.mono HBa.out.size)
      have HRZb : Hid (RFiles wb (.slice az N cz) fs) := HRZ.out.below hbb
      clear hQ hbb HRZ HBa
      go_wp2_with fail
      have hQ := HA.out wb
      refine Calls.mono hQ ?_
      rintro e wb' ⟨m, hm, rfl, hwb⟩
      obtain rfl : wb = wb' := hwb.symm
      obtain rfl : m = 0 := by omega
      clear hQ hwb hm
      go_wp2_with fail
      refine Calls.mono (HRF.out _ _ (by first | exact Nat.zero_le _ | exact Nat.zero_le _ | (simp; omega)) wb HBb.out ao cap (HF.out.below HBb.out) HR0.out) ?_
      rintro e wc ⟨ap, cp, rfl, hrp, hbc⟩
      have HBc : Hid (Below w.heap.size w wc) := HBb.out.trans (hbc.mono HBb.out.size)
      have HRZc : Hid (RFiles wc (.slice az N cz) fs) := HRZb.out.below hbc
      have HRP : Hid (RFiles wc (.slice ap N cp) fs) := hrp
      clear hrp hbc HRZb HBb
      go_wp2_with fail
      all_goals
        refine Calls.mono (HRF.out _ _ (by first | exact Nat.zero_le _ | exact Nat.zero_le _ | (simp; omega)) wc HBc.out ap cp HRP.out HR0.out) ?_
        rintro e wd ⟨aq, cq, rfl, hrq, hbd⟩
        have HBd : Hid (Below w.heap.size w wd) := HBc.out.trans (hbd.mono HBc.out.size)
        have HRZd : Hid (RFiles wd (.slice az N cz) fs) := HRZc.out.below hbd
        have HSM : Hid _ := same_is aq az cq cz fs fs wd (by rw [← HN.out]; exact hrq) (by rw [← HN.out]; exact HRZd.out)
        rw [← HN.out, decide_eq_true (rfl : fs = fs)] at HSM
        clear hrq hbd HRZc HRP HBc
        go_wp2_with fail
        refine Calls.mono HSM.out ?_
        rintro e we ⟨rfl, hbe⟩
        have HBe : Hid (Below w.heap.size w we) := HBd.out.trans (hbe.mono HBd.out.size)
        have HRZe : Hid (RFiles we (.slice az N cz) fs) := HRZd.out.below hbe
        clear hbe HSM HRZd HBd
        go_wp2_with fail
        generalize hweq : we = wee at *
        go_loopw [128] (fun i wr => ∃ k : Nat, k ≤ N ∧ i = .int .i64 k ∧ Hid (Below w.heap.size w wr) ∧ Hid (RFiles wr (.slice az N cz) fs)) (fun i _ => N - (intOf i).toNat)
        case atStart => exact ⟨0, Nat.zero_le _, rfl, HBe, HRZe⟩
        case round =>
          clear HBe HRZe
          obtain ⟨k2, hk2, rfl, hbel, HRZr⟩ := hrel
          by_cases hlt : k2 < N
          · obtain ⟨f, hfk⟩ : ∃ f, fs[k2]? = some f := ⟨_, List.getElem?_eq_getElem (by have := HN.out; omega)⟩
            obtain ⟨bb, off2, ab2, cb2, rfl, hc0, hc1, hrr⟩ := (RFiles.below HF.out hbel.out).at hfk
            have HFM : Hid (f ∈ fs) := List.mem_of_getElem? hfk
            obtain ⟨fx, hfx⟩ : ∃ fx : ByteArray, fx = ⟨f.name.toArray⟩ := ⟨_, rfl⟩
            have HFX : Hid (fx = ⟨f.name.toArray⟩) := hfx
            obtain ⟨FL, hFL⟩ : ∃ FL, FL = f.b.length := ⟨_, rfl⟩
            have HFL : Hid (FL = f.b.length) := hFL
            have HRR : Hid (Reads wr (.slice ab2 f.b.length cb2) f.b.length (f.b.map U)) := hrr
            rw [← hfx] at hc0
            rw [← hFL] at hc1
            clear hfk hrr hfx hFL
            go_wp2_with fail
            have hbx : Below wr.heap.size wr (wr.alloc (.cells #[.string fx, .slice ab2 FL cb2] 45)) := boxr_of
            refine Calls.mono (HCF.out _ _ (by first | exact Nat.zero_le _ | exact Nat.zero_le _ | (simp; omega)) (wr.alloc (.cells #[.string fx, .slice ab2 FL cb2] 45)) wr.heap.size f.name (by rw [← HFX.out]; exact (box2_cells (Below.refl _ _)).1)) ?_
            rintro e w5 ⟨rfl, hb5⟩
            have HB15 : Hid (Below wr.heap.size wr w5) := hbx.trans (hb5.mono hbx.size)
            have HB5 : Hid (Below w.heap.size w w5) := hbel.out.trans (HB15.out.mono hbel.out.size)
            obtain ⟨hx0, hx1⟩ := box2_cells hb5
            have HRZ5 : Hid (RFiles w5 (.slice az N cz) fs) := HRZr.out.below HB15.out
            have HRR5 : Hid (Reads w5 (.slice ab2 f.b.length cb2) f.b.length (f.b.map U)) := HRR.out.below HB15.out
            have hG := HGET.out w5 az cz fs (by rw [← HN.out]; exact HRZ5.out) HCK.out f.name
            rw [getS_right HCK.out, fchk_mem HCK.out HFM.out, ← HN.out, ← HFX.out] at hG
            have HG : Hid _ := hG
            clear hG hbx hb5 HB15 HRZr HRR hc0 hc1
            go_wp2_with fail
            refine Calls.mono HG.out ?_
            rintro e w6 ⟨ag, cg, rfl, hrg, hb6⟩
            have HB6 : Hid (Below w.heap.size w w6) := HB5.out.trans (hb6.mono HB5.out.size)
            have hy1 := (hb6.cell (World.block_lt_of_cell? w5 _ hx1)).trans hx1
            have HRZ6 : Hid (RFiles w6 (.slice az N cz) fs) := HRZ5.out.below hb6
            have HEQ : Hid _ := eqbyte_is ag ab2 cg cb2 f.b f.b w6 hrg (HRR5.out.below hb6)
            rw [← HFL.out, decide_eq_true (rfl : f.b = f.b)] at HEQ
            simp only
            rw [← HFL.out]
            clear hb6 hrg HG HRZ5 HRR5 HB5 hx0 hx1
            go_wp2_with fail
            refine Calls.mono HEQ.out ?_
            rintro e w7 ⟨rfl, hb7⟩
            have HB7 : Hid (Below w.heap.size w w7) := HB6.out.trans (hb7.mono HB6.out.size)
            have HRZ7 : Hid (RFiles w7 (.slice az N cz) fs) := HRZ6.out.below hb7
            clear hb7 HEQ HRZ6 HB6 hy1
            go_wp2_with fail
            go_roundw
            case rel => exact ⟨k2 + 1, by omega, by go_num, HB7, HRZ7⟩
            case measure => simp [intOf]; omega
          · go_wp2_with fail
            go_ret
            exact ⟨rfl, hbel.out⟩
    · have HR0 : Hid (runS fs [] = ([], fchk fs)) := runS_files hck
      obtain ⟨ck, hckk⟩ : ∃ ck, ck = fchk fs := ⟨_, rfl⟩
      rw [← hckk] at hck HR0
      clear hckk
      go_wp2_with fail
      have hQ := HRE.out none 0 (Nat.zero_le _) w1 HB1.out ao cap fs (by rw [← HN.out]; exact HF.out.below HB1.out) HFIT.out
      rw [HR0.out, ← HN.out] at hQ
      refine Calls.mono hQ ?_
      rintro e wa ⟨az, cz, rfl, hrz, hba⟩
      have HBa : Hid (Below w.heap.size w wa) := HB1.out.trans (hba.mono HB1.out.size)
      simp only
      clear hQ hrz hba
      go_wp2_with fail
      have hQ := HSH.out wa HBa.out
      refine Calls.mono hQ ?_
      rintro e wb ⟨rfl, hbb⟩
      have HBb : Hid (Below w.heap.size w wb) := HBa.out.trans (hbb.mono HBa.out.size)
      clear hQ hbb HBa
      go_wp2_with fail
      have hQ := HSH.out wb HBb.out
      refine Calls.mono hQ ?_
      rintro e wc ⟨rfl, hbc⟩
      have HBc : Hid (Below w.heap.size w wc) := HBb.out.trans (hbc.mono HBb.out.size)
      clear hQ hbc
      go_wp2_with fail
      go_ret
      exact ⟨rfl, HBc.out⟩

set_option maxRecDepth 100000 in
set_option maxHeartbeats 16000000 in
theorem shf_none2 (ao ab : Option Addr) (al : Addr) (cap cb cl : Nat) (fs : List SFile) (n bs : List UInt8) (k : Int) (w : World) (hf : RFiles w (.slice ao fs.length cap) fs) (hfit : ∀ f ∈ fs, FitsF f) (hcm : cl ≤ 9223372036854775807) (hnl : n.length ≤ 9223372036854775807) (hb : Reads w (.slice ab bs.length cb) bs.length (bs.map U)) (hk1 : -9223372036854775808 ≤ k) (hk2 : k ≤ 9223372036854775807) (hK : Known w) :
    Calls Tryz.prog 4 #[.slice ao fs.length cap, .slice (some al) 0 cl, .string ⟨n.toArray⟩, .slice ab bs.length cb, .int .i64 k] w fun e w' => e = .returned (.bool true) ∧ Below w.heap.size w w' := by
  haveI : DecidableEq SFile := fun a b => Classical.propDecidable _
  have hcap := rfiles_le hf
  have hbl := reads_le' hb
  have HPUT : Hid _ := put_is ao ab cap cb fs n bs w hf hfit hb hnl
  have HGET : Hid _ := fun (W : World) (a : Option Addr) (c : Nat) (P : List SFile) (hP : RFiles W (.slice a P.length c) P) (hr : fchk P = 0) (m : List UInt8) => get_is a c P m W hP (right_fits hr)
  have HRE : Hid _ := fun (a : Option Addr) (c : Nat) (hc : c ≤ 9223372036854775807) (W : World) (h : Below w.heap.size w W) (ap : Option Addr) (cp : Nat) (P : List SFile) (hP : RFiles W (.slice ap P.length cp) P) (hr : ∀ f ∈ P, FitsF f) => run_is ap a cp c P [] W hP hr (rl_none rfl rfl (by unfold maxLen; omega)) (fun x hx => by cases hx) (hK.below h)
  have HRF : Hid (∀ (a : Option Addr) (c : Nat) (hc : c ≤ 9223372036854775807) (W : World) (h : Below w.heap.size w W) (ap : Option Addr) (cp : Nat) (hP : RFiles W (.slice ap fs.length cp) fs) (h0 : runS fs [] = (fs, 0)), Calls Tryz.prog 11 #[.slice ap fs.length cp, .slice a 0 c] W fun e w' => ∃ ar cr, e = .returned (.tuple #[.slice ar fs.length cr, .int .i64 0]) ∧ RFiles w' (.slice ar fs.length cr) fs ∧ Below W.heap.size W w') := fun (a : Option Addr) (c : Nat) (hc : c ≤ 9223372036854775807) (W : World) (h : Below w.heap.size w W) (ap : Option Addr) (cp : Nat) (hP : RFiles W (.slice ap fs.length cp) fs) (h0 : runS fs [] = (fs, 0)) => by
    have q := HRE.out a c hc W h ap cp fs hP hfit
    rw [h0] at q
    exact q
  have HSH : Hid _ := fun (W : World) (h : Below w.heap.size w W) => shelled_true W (hK.below h)
  have HA : Hid _ := fun (W : World) => at_is k 1 W hk1 hk2 (by omega) (by omega)
  have HCF : Hid (∀ (a : Option Addr) (c : Nat) (hc : c ≤ 9223372036854775807) (W : World) (bx : Nat) (m : List UInt8) (hx : W.cell? ⟨bx, 0, none⟩ = some (.string ⟨m.toArray⟩)), Calls Tryz.prog 26 #[.slice a 0 c, .func (.func 27) #[] #[.pointer (some ⟨bx, 0, none⟩)]] W fun e w' => e = .returned (.bool false) ∧ Below W.heap.size W w') := fun (a : Option Addr) (c : Nat) (hc : c ≤ 9223372036854775807) (W : World) (bx : Nat) (m : List UInt8) (hx : W.cell? ⟨bx, 0, none⟩ = some (.string ⟨m.toArray⟩)) => containsF_is a c bx [] m W (rl_none rfl rfl (by unfold maxLen; omega)) hx
  have HFIT : Hid _ := hfit
  have HF : Hid (RFiles w (.slice ao fs.length cap) fs) := hf
  have HBR : Hid (Reads w (.slice ab bs.length cb) bs.length (bs.map U)) := hb
  obtain ⟨N, hN⟩ : ∃ N, N = fs.length := ⟨_, rfl⟩
  have HN : Hid (N = fs.length) := hN
  obtain ⟨L, hL⟩ : ∃ L, L = bs.length := ⟨_, rfl⟩
  have HL : Hid (L = bs.length) := hL
  obtain ⟨nx, hnx⟩ : ∃ nx : ByteArray, nx = ⟨n.toArray⟩ := ⟨_, rfl⟩
  have HNX : Hid (nx = ⟨n.toArray⟩) := hnx
  rw [← hN, ← hnx, ← hL] at HPUT
  rw [← hN] at HF hcap HRF
  rw [← hL] at HBR hbl
  rw [← hN, ← hL, ← hnx]
  clear hf hfit hnl hb hK hN hL hnx hk1 hk2
  go_enter Tryz.func4, Tryz.ntmps4
  go_wp2_with fail
  refine Calls.mono HPUT.out ?_
  rintro e w1 ⟨ay, cy, rfl, hry, hb1⟩
  have HB1 : Hid (Below w.heap.size w w1) := hb1
  have HRY : Hid (RFiles w1 (.slice ay (putT fs n bs).1.length cy) (putT fs n bs).1) := hry
  obtain ⟨pe, hpe⟩ : ∃ pe, pe = (putT fs n bs).2 := ⟨_, rfl⟩
  have HPE : Hid (pe = (putT fs n bs).2) := hpe
  obtain ⟨YN, hYN⟩ : ∃ YN, YN = (putT fs n bs).1.length := ⟨_, rfl⟩
  have HYN : Hid (YN = (putT fs n bs).1.length) := hYN
  rw [← hpe, ← hYN]
  rw [← hYN] at HRY
  clear hry hb1 HPUT hpe hYN
  by_cases hpe0 : pe = 0
  · subst hpe0
    obtain ⟨hq1, hq2, hq3⟩ := putT_zero HPE.out.symm
    have HQ1 : Hid (fchk fs = 0) := hq1
    have HQ3 : Hid (fchk (putF fs n bs) = 0) := hq3
    rw [hq2] at HRY HYN
    have HRYb : Hid (RFiles w1 (.slice ay YN cy) (putF fs n bs)) := HRY.out
    have HYN2 : Hid (YN = (putF fs n bs).length) := HYN.out
    have hG := HGET.out w1 ay cy (putF fs n bs) (by rw [← HYN2.out]; exact HRYb.out) hq3 n
    rw [getS_right hq3, put_get, ← HYN2.out, ← HNX.out] at hG
    have HG : Hid _ := hG
    clear hq1 hq2 hq3 hG HRY HYN
    go_wp2_with fail
    refine Calls.mono HG.out ?_
    rintro e w2 ⟨ag, cg, rfl, hrg, hb2⟩
    have HB2 : Hid (Below w.heap.size w w2) := HB1.out.trans (hb2.mono HB1.out.size)
    have HRY2 : Hid (RFiles w2 (.slice ay YN cy) (putF fs n bs)) := HRYb.out.below hb2
    have HEQ : Hid _ := eqbyte_is ag ab cg cb bs bs w2 hrg (by have h := HBR.out.below HB2.out; rw [HL.out] at h; exact h)
    rw [← HL.out, decide_eq_true (rfl : bs = bs)] at HEQ
    simp only
    rw [← HL.out]
    clear hb2 hrg HG HB1 HRYb
    go_wp2_with fail
    refine Calls.mono HEQ.out ?_
    rintro e w3 ⟨rfl, hb3⟩
    have HB3 : Hid (Below w.heap.size w w3) := HB2.out.trans (hb3.mono HB2.out.size)
    have HRY3 : Hid (RFiles w3 (.slice ay YN cy) (putF fs n bs)) := HRY2.out.below hb3
    clear hb3 HEQ HB2 HRY2
    go_wp2_with fail
    go_loopw [53] (fun i wr => ∃ k : Nat, k ≤ N ∧ i = .int .i64 k ∧ Hid (Below w.heap.size w wr) ∧ Hid (RFiles wr (.slice ay YN cy) (putF fs n bs))) (fun i _ => N - (intOf i).toNat)
    case atStart => exact ⟨0, Nat.zero_le _, rfl, HB3, HRY3⟩
    case round =>
      clear HB3 HRY3
      obtain ⟨k1, hk1, rfl, hbel, HRYr⟩ := hrel
      by_cases hlt : k1 < N
      · obtain ⟨f, hfk⟩ : ∃ f, fs[k1]? = some f := ⟨_, List.getElem?_eq_getElem (by have := HN.out; omega)⟩
        obtain ⟨bb, off2, ab2, cb2, rfl, hc0, hc1, hrr⟩ := (RFiles.below HF.out hbel.out).at hfk
        have HFM : Hid (f ∈ fs) := List.mem_of_getElem? hfk
        obtain ⟨fx, hfx⟩ : ∃ fx : ByteArray, fx = ⟨f.name.toArray⟩ := ⟨_, rfl⟩
        have HFX : Hid (fx = ⟨f.name.toArray⟩) := hfx
        obtain ⟨FL, hFL⟩ : ∃ FL, FL = f.b.length := ⟨_, rfl⟩
        have HFL : Hid (FL = f.b.length) := hFL
        have HRR : Hid (Reads wr (.slice ab2 f.b.length cb2) f.b.length (f.b.map U)) := hrr
        have hse := str_eq2 f.name n
        rw [← hfx, ← HNX.out] at hse
        rw [← hfx] at hc0
        rw [← hFL] at hc1
        clear hfk hrr hfx hFL
        have hbx : Below wr.heap.size wr (wr.alloc (.cells #[.string fx, .slice ab2 FL cb2] 45)) := boxr_of
        have hG := HGET.out (wr.alloc (.cells #[.string fx, .slice ab2 FL cb2] 45)) ay cy (putF fs n bs) (by rw [← HYN2.out]; exact HRYr.out.below hbx) HQ3.out f.name
        rw [getS_right HQ3.out, ← HYN2.out, ← HFX.out] at hG
        have HG : Hid _ := hG
        have HBX : Hid _ := hbx
        clear hG hbx
        go_wp2_with fail
        refine Calls.mono HG.out ?_
        rintro e w4 ⟨ag, cg, rfl, hrg, hb4⟩
        have HB14 : Hid (Below wr.heap.size wr w4) := HBX.out.trans (hb4.mono HBX.out.size)
        have HB4 : Hid (Below w.heap.size w w4) := hbel.out.trans (HB14.out.mono hbel.out.size)
        obtain ⟨hx0, hx1⟩ := box2_cells hb4
        have HRY4 : Hid (RFiles w4 (.slice ay YN cy) (putF fs n bs)) := HRYr.out.below HB14.out
        have HRR4 : Hid (Reads w4 (.slice ab2 f.b.length cb2) f.b.length (f.b.map U)) := HRR.out.below HB14.out
        have HRG : Hid (Reads w4 (.slice ag (fileOf (putF fs n bs) f.name).length cg) (fileOf (putF fs n bs) f.name).length ((fileOf (putF fs n bs) f.name).map U)) := hrg
        clear hb4 hrg HG HBX HB14 HRYr HRR hc0 hc1
        by_cases hfn : f.name = n
        · have hse' : (fx.toList == nx.toList) = true := by rw [hse]; exact decide_eq_true hfn
          generalize (fileOf (putF fs n bs) f.name).length = GL at *
          clear hse hfn HRG
          go_wp2_with fail
          go_roundw
          case rel => exact ⟨k1 + 1, by omega, by go_num, HB4, HRY4⟩
          case measure => simp [intOf]; omega
        · have hse' : (fx.toList == nx.toList) = false := by rw [hse]; exact decide_eq_false hfn
          have hfo : fileOf (putF fs n bs) f.name = f.b := by rw [put_other _ _ _ _ hfn, fchk_mem HQ1.out HFM.out]
          rw [hfo] at HRG ⊢
          have HEQ : Hid _ := eqbyte_is ag ab2 cg cb2 f.b f.b w4 HRG.out HRR4.out
          rw [← HFL.out, decide_eq_true (rfl : f.b = f.b)] at HEQ
          rw [← HFL.out]
          clear hse hfn hfo HRG HRR4
          go_wp2_with fail
          refine Calls.mono HEQ.out ?_
          rintro e w5 ⟨rfl, hb5⟩
          have HB5 : Hid (Below w.heap.size w w5) := HB4.out.trans (hb5.mono HB4.out.size)
          have HRY5 : Hid (RFiles w5 (.slice ay YN cy) (putF fs n bs)) := HRY4.out.below hb5
          clear hb5 HEQ HRY4 HB4 hx0 hx1
          go_wp2_with fail
          go_roundw
          case rel => exact ⟨k1 + 1, by omega, by go_num, HB5, HRY5⟩
          case measure => simp [intOf]; omega
      · clear HRYr HYN2 HQ3 HQ1
        generalize hwrp : wr = w9 at *
        by_cases hck : fchk fs = 0
        · have HR0 : Hid (runS fs [] = (fs, 0)) := (show _ = _ by rw [runS_ok hck rfl]; rfl)
          have HCK : Hid (fchk fs = 0) := hck
          clear hck
          go_wp2_with fail
          have hQ := HRE.out (some al) cl hcm w9 hbel.out ao cap fs (by rw [← HN.out]; exact HF.out.below hbel.out) HFIT.out
          rw [HR0.out, ← HN.out] at hQ
          refine Calls.mono hQ ?_
          rintro e wa ⟨az, cz, rfl, hrz, hba⟩
          have HBa : Hid (Below w.heap.size w wa) := hbel.out.trans (hba.mono hbel.out.size)
          have HRZ : Hid (RFiles wa (.slice az fs.length cz) fs) := hrz
          simp only
          rw [← HN.out]
          rw [← HN.out] at HRZ
          clear hQ hrz hba
          go_wp2_with fail
          have hQ := HSH.out wa HBa.out
          refine Calls.mono hQ ?_
          rintro e wb ⟨rfl, hbb⟩
          have HBb : Hid (Below w.heap.size w wb) := HBa.out.trans (hbb.mono HBa.out.size)
          have HRZb : Hid (RFiles wb (.slice az N cz) fs) := HRZ.out.below hbb
          clear hQ hbb HRZ HBa
          go_wp2_with fail
          have hQ := HA.out wb
          refine Calls.mono hQ ?_
          rintro e wb' ⟨m, hm, rfl, hwb⟩
          obtain rfl : wb = wb' := hwb.symm
          obtain rfl : m = 0 := by omega
          clear hQ hwb hm
          go_wp2_with fail
          refine Calls.mono (HRF.out _ _ (by first | exact hcm | exact Nat.zero_le _ | (simp; omega)) wb HBb.out ao cap (HF.out.below HBb.out) HR0.out) ?_
          rintro e wc ⟨ap, cp, rfl, hrp, hbc⟩
          have HBc : Hid (Below w.heap.size w wc) := HBb.out.trans (hbc.mono HBb.out.size)
          have HRZc : Hid (RFiles wc (.slice az N cz) fs) := HRZb.out.below hbc
          have HRP : Hid (RFiles wc (.slice ap N cp) fs) := hrp
          clear hrp hbc HRZb HBb
          go_wp2_with fail
          all_goals
            refine Calls.mono (HRF.out _ _ (by first | exact hcm | exact Nat.zero_le _ | (simp; omega)) wc HBc.out ap cp HRP.out HR0.out) ?_
            rintro e wd ⟨aq, cq, rfl, hrq, hbd⟩
            have HBd : Hid (Below w.heap.size w wd) := HBc.out.trans (hbd.mono HBc.out.size)
            have HRZd : Hid (RFiles wd (.slice az N cz) fs) := HRZc.out.below hbd
            have HSM : Hid _ := same_is aq az cq cz fs fs wd (by rw [← HN.out]; exact hrq) (by rw [← HN.out]; exact HRZd.out)
            rw [← HN.out, decide_eq_true (rfl : fs = fs)] at HSM
            clear hrq hbd HRZc HRP HBc
            go_wp2_with fail
            refine Calls.mono HSM.out ?_
            rintro e we ⟨rfl, hbe⟩
            have HBe : Hid (Below w.heap.size w we) := HBd.out.trans (hbe.mono HBd.out.size)
            have HRZe : Hid (RFiles we (.slice az N cz) fs) := HRZd.out.below hbe
            clear hbe HSM HRZd HBd
            go_wp2_with fail
            generalize hweq : we = wee at *
            go_loopw [128] (fun i wr => ∃ k : Nat, k ≤ N ∧ i = .int .i64 k ∧ Hid (Below w.heap.size w wr) ∧ Hid (RFiles wr (.slice az N cz) fs)) (fun i _ => N - (intOf i).toNat)
            case atStart => exact ⟨0, Nat.zero_le _, rfl, HBe, HRZe⟩
            case round =>
              clear HBe HRZe
              obtain ⟨k2, hk2, rfl, hbel, HRZr⟩ := hrel
              by_cases hlt : k2 < N
              · obtain ⟨f, hfk⟩ : ∃ f, fs[k2]? = some f := ⟨_, List.getElem?_eq_getElem (by have := HN.out; omega)⟩
                obtain ⟨bb, off2, ab2, cb2, rfl, hc0, hc1, hrr⟩ := (RFiles.below HF.out hbel.out).at hfk
                have HFM : Hid (f ∈ fs) := List.mem_of_getElem? hfk
                obtain ⟨fx, hfx⟩ : ∃ fx : ByteArray, fx = ⟨f.name.toArray⟩ := ⟨_, rfl⟩
                have HFX : Hid (fx = ⟨f.name.toArray⟩) := hfx
                obtain ⟨FL, hFL⟩ : ∃ FL, FL = f.b.length := ⟨_, rfl⟩
                have HFL : Hid (FL = f.b.length) := hFL
                have HRR : Hid (Reads wr (.slice ab2 f.b.length cb2) f.b.length (f.b.map U)) := hrr
                rw [← hfx] at hc0
                rw [← hFL] at hc1
                clear hfk hrr hfx hFL
                go_wp2_with fail
                have hbx : Below wr.heap.size wr (wr.alloc (.cells #[.string fx, .slice ab2 FL cb2] 45)) := boxr_of
                refine Calls.mono (HCF.out _ _ (by first | exact hcm | exact Nat.zero_le _ | (simp; omega)) (wr.alloc (.cells #[.string fx, .slice ab2 FL cb2] 45)) wr.heap.size f.name (by rw [← HFX.out]; exact (box2_cells (Below.refl _ _)).1)) ?_
                rintro e w5 ⟨rfl, hb5⟩
                have HB15 : Hid (Below wr.heap.size wr w5) := hbx.trans (hb5.mono hbx.size)
                have HB5 : Hid (Below w.heap.size w w5) := hbel.out.trans (HB15.out.mono hbel.out.size)
                obtain ⟨hx0, hx1⟩ := box2_cells hb5
                have HRZ5 : Hid (RFiles w5 (.slice az N cz) fs) := HRZr.out.below HB15.out
                have HRR5 : Hid (Reads w5 (.slice ab2 f.b.length cb2) f.b.length (f.b.map U)) := HRR.out.below HB15.out
                have hG := HGET.out w5 az cz fs (by rw [← HN.out]; exact HRZ5.out) HCK.out f.name
                rw [getS_right HCK.out, fchk_mem HCK.out HFM.out, ← HN.out, ← HFX.out] at hG
                have HG : Hid _ := hG
                clear hG hbx hb5 HB15 HRZr HRR hc0 hc1
                go_wp2_with fail
                refine Calls.mono HG.out ?_
                rintro e w6 ⟨ag, cg, rfl, hrg, hb6⟩
                have HB6 : Hid (Below w.heap.size w w6) := HB5.out.trans (hb6.mono HB5.out.size)
                have hy1 := (hb6.cell (World.block_lt_of_cell? w5 _ hx1)).trans hx1
                have HRZ6 : Hid (RFiles w6 (.slice az N cz) fs) := HRZ5.out.below hb6
                have HEQ : Hid _ := eqbyte_is ag ab2 cg cb2 f.b f.b w6 hrg (HRR5.out.below hb6)
                rw [← HFL.out, decide_eq_true (rfl : f.b = f.b)] at HEQ
                simp only
                rw [← HFL.out]
                clear hb6 hrg HG HRZ5 HRR5 HB5 hx0 hx1
                go_wp2_with fail
                refine Calls.mono HEQ.out ?_
                rintro e w7 ⟨rfl, hb7⟩
                have HB7 : Hid (Below w.heap.size w w7) := HB6.out.trans (hb7.mono HB6.out.size)
                have HRZ7 : Hid (RFiles w7 (.slice az N cz) fs) := HRZ6.out.below hb7
                clear hb7 HEQ HRZ6 HB6 hy1
                go_wp2_with fail
                go_roundw
                case rel => exact ⟨k2 + 1, by omega, by go_num, HB7, HRZ7⟩
                case measure => simp [intOf]; omega
              · go_wp2_with fail
                go_ret
                exact ⟨rfl, hbel.out⟩
        · have HR0 : Hid (runS fs [] = ([], fchk fs)) := runS_files hck
          obtain ⟨ck, hckk⟩ : ∃ ck, ck = fchk fs := ⟨_, rfl⟩
          rw [← hckk] at hck HR0
          clear hckk
          go_wp2_with fail
          have hQ := HRE.out (some al) cl hcm w9 hbel.out ao cap fs (by rw [← HN.out]; exact HF.out.below hbel.out) HFIT.out
          rw [HR0.out, ← HN.out] at hQ
          refine Calls.mono hQ ?_
          rintro e wa ⟨az, cz, rfl, hrz, hba⟩
          have HBa : Hid (Below w.heap.size w wa) := hbel.out.trans (hba.mono hbel.out.size)
          simp only
          clear hQ hrz hba
          go_wp2_with fail
          have hQ := HSH.out wa HBa.out
          refine Calls.mono hQ ?_
          rintro e wb ⟨rfl, hbb⟩
          have HBb : Hid (Below w.heap.size w wb) := HBa.out.trans (hbb.mono HBa.out.size)
          clear hQ hbb HBa
          go_wp2_with fail
          have hQ := HSH.out wb HBb.out
          refine Calls.mono hQ ?_
          rintro e wc ⟨rfl, hbc⟩
          have HBc : Hid (Below w.heap.size w wc) := HBb.out.trans (hbc.mono HBb.out.size)
          clear hQ hbc
          go_wp2_with fail
          go_ret
          exact ⟨rfl, HBc.out⟩
  · clear HRY HYN
    by_cases hck : fchk fs = 0
    · have HR0 : Hid (runS fs [] = (fs, 0)) := (show _ = _ by rw [runS_ok hck rfl]; rfl)
      have HCK : Hid (fchk fs = 0) := hck
      clear hck
      go_wp2_with fail
      have hQ := HRE.out (some al) cl hcm w1 HB1.out ao cap fs (by rw [← HN.out]; exact HF.out.below HB1.out) HFIT.out
      rw [HR0.out, ← HN.out] at hQ
      refine Calls.mono hQ ?_
      rintro e wa ⟨az, cz, rfl, hrz, hba⟩
      have HBa : Hid (Below w.heap.size w wa) := HB1.out.trans (hba.mono HB1.out.size)
      have HRZ : Hid (RFiles wa (.slice az fs.length cz) fs) := hrz
      simp only
      rw [← HN.out]
      rw [← HN.out] at HRZ
      clear hQ hrz hba
      go_wp2_with fail
      have hQ := HSH.out wa HBa.out
      refine Calls.mono hQ ?_
      rintro e wb ⟨rfl, hbb⟩
      have HBb : Hid (Below w.heap.size w wb) := HBa.out.trans (hbb.mono HBa.out.size)
      have HRZb : Hid (RFiles wb (.slice az N cz) fs) := HRZ.out.below hbb
      clear hQ hbb HRZ HBa
      go_wp2_with fail
      have hQ := HA.out wb
      refine Calls.mono hQ ?_
      rintro e wb' ⟨m, hm, rfl, hwb⟩
      obtain rfl : wb = wb' := hwb.symm
      obtain rfl : m = 0 := by omega
      clear hQ hwb hm
      go_wp2_with fail
      refine Calls.mono (HRF.out _ _ (by first | exact hcm | exact Nat.zero_le _ | (simp; omega)) wb HBb.out ao cap (HF.out.below HBb.out) HR0.out) ?_
      rintro e wc ⟨ap, cp, rfl, hrp, hbc⟩
      have HBc : Hid (Below w.heap.size w wc) := HBb.out.trans (hbc.mono HBb.out.size)
      have HRZc : Hid (RFiles wc (.slice az N cz) fs) := HRZb.out.below hbc
      have HRP : Hid (RFiles wc (.slice ap N cp) fs) := hrp
      clear hrp hbc HRZb HBb
      go_wp2_with fail
      all_goals
        refine Calls.mono (HRF.out _ _ (by first | exact hcm | exact Nat.zero_le _ | (simp; omega)) wc HBc.out ap cp HRP.out HR0.out) ?_
        rintro e wd ⟨aq, cq, rfl, hrq, hbd⟩
        have HBd : Hid (Below w.heap.size w wd) := HBc.out.trans (hbd.mono HBc.out.size)
        have HRZd : Hid (RFiles wd (.slice az N cz) fs) := HRZc.out.below hbd
        have HSM : Hid _ := same_is aq az cq cz fs fs wd (by rw [← HN.out]; exact hrq) (by rw [← HN.out]; exact HRZd.out)
        rw [← HN.out, decide_eq_true (rfl : fs = fs)] at HSM
        clear hrq hbd HRZc HRP HBc
        go_wp2_with fail
        refine Calls.mono HSM.out ?_
        rintro e we ⟨rfl, hbe⟩
        have HBe : Hid (Below w.heap.size w we) := HBd.out.trans (hbe.mono HBd.out.size)
        have HRZe : Hid (RFiles we (.slice az N cz) fs) := HRZd.out.below hbe
        clear hbe HSM HRZd HBd
        go_wp2_with fail
        generalize hweq : we = wee at *
        go_loopw [128] (fun i wr => ∃ k : Nat, k ≤ N ∧ i = .int .i64 k ∧ Hid (Below w.heap.size w wr) ∧ Hid (RFiles wr (.slice az N cz) fs)) (fun i _ => N - (intOf i).toNat)
        case atStart => exact ⟨0, Nat.zero_le _, rfl, HBe, HRZe⟩
        case round =>
          clear HBe HRZe
          obtain ⟨k2, hk2, rfl, hbel, HRZr⟩ := hrel
          by_cases hlt : k2 < N
          · obtain ⟨f, hfk⟩ : ∃ f, fs[k2]? = some f := ⟨_, List.getElem?_eq_getElem (by have := HN.out; omega)⟩
            obtain ⟨bb, off2, ab2, cb2, rfl, hc0, hc1, hrr⟩ := (RFiles.below HF.out hbel.out).at hfk
            have HFM : Hid (f ∈ fs) := List.mem_of_getElem? hfk
            obtain ⟨fx, hfx⟩ : ∃ fx : ByteArray, fx = ⟨f.name.toArray⟩ := ⟨_, rfl⟩
            have HFX : Hid (fx = ⟨f.name.toArray⟩) := hfx
            obtain ⟨FL, hFL⟩ : ∃ FL, FL = f.b.length := ⟨_, rfl⟩
            have HFL : Hid (FL = f.b.length) := hFL
            have HRR : Hid (Reads wr (.slice ab2 f.b.length cb2) f.b.length (f.b.map U)) := hrr
            rw [← hfx] at hc0
            rw [← hFL] at hc1
            clear hfk hrr hfx hFL
            go_wp2_with fail
            have hbx : Below wr.heap.size wr (wr.alloc (.cells #[.string fx, .slice ab2 FL cb2] 45)) := boxr_of
            refine Calls.mono (HCF.out _ _ (by first | exact hcm | exact Nat.zero_le _ | (simp; omega)) (wr.alloc (.cells #[.string fx, .slice ab2 FL cb2] 45)) wr.heap.size f.name (by rw [← HFX.out]; exact (box2_cells (Below.refl _ _)).1)) ?_
            rintro e w5 ⟨rfl, hb5⟩
            have HB15 : Hid (Below wr.heap.size wr w5) := hbx.trans (hb5.mono hbx.size)
            have HB5 : Hid (Below w.heap.size w w5) := hbel.out.trans (HB15.out.mono hbel.out.size)
            obtain ⟨hx0, hx1⟩ := box2_cells hb5
            have HRZ5 : Hid (RFiles w5 (.slice az N cz) fs) := HRZr.out.below HB15.out
            have HRR5 : Hid (Reads w5 (.slice ab2 f.b.length cb2) f.b.length (f.b.map U)) := HRR.out.below HB15.out
            have hG := HGET.out w5 az cz fs (by rw [← HN.out]; exact HRZ5.out) HCK.out f.name
            rw [getS_right HCK.out, fchk_mem HCK.out HFM.out, ← HN.out, ← HFX.out] at hG
            have HG : Hid _ := hG
            clear hG hbx hb5 HB15 HRZr HRR hc0 hc1
            go_wp2_with fail
            refine Calls.mono HG.out ?_
            rintro e w6 ⟨ag, cg, rfl, hrg, hb6⟩
            have HB6 : Hid (Below w.heap.size w w6) := HB5.out.trans (hb6.mono HB5.out.size)
            have hy1 := (hb6.cell (World.block_lt_of_cell? w5 _ hx1)).trans hx1
            have HRZ6 : Hid (RFiles w6 (.slice az N cz) fs) := HRZ5.out.below hb6
            have HEQ : Hid _ := eqbyte_is ag ab2 cg cb2 f.b f.b w6 hrg (HRR5.out.below hb6)
            rw [← HFL.out, decide_eq_true (rfl : f.b = f.b)] at HEQ
            simp only
            rw [← HFL.out]
            clear hb6 hrg HG HRZ5 HRR5 HB5 hx0 hx1
            go_wp2_with fail
            refine Calls.mono HEQ.out ?_
            rintro e w7 ⟨rfl, hb7⟩
            have HB7 : Hid (Below w.heap.size w w7) := HB6.out.trans (hb7.mono HB6.out.size)
            have HRZ7 : Hid (RFiles w7 (.slice az N cz) fs) := HRZ6.out.below hb7
            clear hb7 HEQ HRZ6 HB6 hy1
            go_wp2_with fail
            go_roundw
            case rel => exact ⟨k2 + 1, by omega, by go_num, HB7, HRZ7⟩
            case measure => simp [intOf]; omega
          · go_wp2_with fail
            go_ret
            exact ⟨rfl, hbel.out⟩
    · have HR0 : Hid (runS fs [] = ([], fchk fs)) := runS_files hck
      obtain ⟨ck, hckk⟩ : ∃ ck, ck = fchk fs := ⟨_, rfl⟩
      rw [← hckk] at hck HR0
      clear hckk
      go_wp2_with fail
      have hQ := HRE.out (some al) cl hcm w1 HB1.out ao cap fs (by rw [← HN.out]; exact HF.out.below HB1.out) HFIT.out
      rw [HR0.out, ← HN.out] at hQ
      refine Calls.mono hQ ?_
      rintro e wa ⟨az, cz, rfl, hrz, hba⟩
      have HBa : Hid (Below w.heap.size w wa) := HB1.out.trans (hba.mono HB1.out.size)
      simp only
      clear hQ hrz hba
      go_wp2_with fail
      have hQ := HSH.out wa HBa.out
      refine Calls.mono hQ ?_
      rintro e wb ⟨rfl, hbb⟩
      have HBb : Hid (Below w.heap.size w wb) := HBa.out.trans (hbb.mono HBa.out.size)
      clear hQ hbb HBa
      go_wp2_with fail
      have hQ := HSH.out wb HBb.out
      refine Calls.mono hQ ?_
      rintro e wc ⟨rfl, hbc⟩
      have HBc : Hid (Below w.heap.size w wc) := HBb.out.trans (hbc.mono HBb.out.size)
      clear hQ hbc
      go_wp2_with fail
      go_ret
      exact ⟨rfl, HBc.out⟩

theorem shellFiles_walk (W : World) (hK : Known W) (hsh : W.ShapedOpen Tryz.prog) (ao : Option Addr) (cap : Nat) (fs : List SFile) (hf : RFiles W (.slice ao fs.length cap) fs) (hfit : ∀ f ∈ fs, FitsF f) (hao : ao = none → cap = 0) (al : Option Addr) (cl : Nat) (ls : List SLine) (hl : RLines W (.slice al ls.length cl) ls) (hfl : ∀ x ∈ ls, FitsL x) (hal : al = none → cl = 0) (n : List UInt8) (hnl : n.length ≤ 9223372036854775807) (ab : Option Addr) (cb : Nat) (bs : List UInt8) (hb : Reads W (.slice ab bs.length cb) bs.length (bs.map U)) (hbf : bs.length ≤ 1000000000000000) (k : Int) (hk : -9223372036854775808 ≤ k ∧ k ≤ 9223372036854775807) :
    Calls Tryz.prog 4 #[.slice ao fs.length cap, .slice al ls.length cl, .string ⟨n.toArray⟩, .slice ab bs.length cb, .int .i64 k] W fun e w' => e = .returned (.bool true) ∧ Below W.heap.size W w' := by
  by_cases h0 : ls = []
  · subst h0
    cases al with
    | none =>
      obtain rfl := hal rfl
      exact shf_none1 ao ab cap cb fs n bs k W hf hfit hnl hb hk.1 hk.2 hK
    | some a => exact shf_none2 ao ab a cap cb cl fs n bs k W hf hfit (rlines_le hl).2 hnl hb hk.1 hk.2 hK
  · obtain ⟨x, hx⟩ : ∃ x, ls[0]? = some x := ⟨_, List.getElem?_eq_getElem (by cases ls with | nil => exact absurd rfl h0 | cons a r => simp)⟩
    obtain ⟨b, off, af, cf, ad, cd, rfl, _⟩ := hl.at hx
    exact shf_some ao ab cap cb b off cl fs ls n bs k W hf hfit hl hfl hnl hb hk.1 hk.2 hK
end Go.Proofs.YtkifihcficobnabGreatDoor
