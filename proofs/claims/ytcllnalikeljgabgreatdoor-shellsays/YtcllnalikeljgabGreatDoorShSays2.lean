/- The law ShellSays, walked: right files. -/
import Derived.Test.YtcllnalikeljgabGreatDoorShSays
namespace Go.Proofs.YtcllnalikeljgabGreatDoor
open Go.RowKit Go.Gs
set_option linter.unusedVariables false

theorem lineOf_err (l : List SFile) (x : SLine) : (lineOf l x).2 = (gather l x.fr).2 := by
  unfold lineOf
  split
  · rename_i h; exact h.symm
  · rfl
theorem putS_none {l : List SFile} {n b : List UInt8} (h : (putS l n b).2 ≠ 0) : (putS l n b).1 = [] := by
  unfold putS at h ⊢
  by_cases h1 : isWord n = false
  · rw [if_pos h1]
  · rw [if_neg h1] at h ⊢
    by_cases h2 : 4000 < b.length
    · rw [if_pos h2]
    · rw [if_neg h2] at h ⊢
      by_cases h3 : 12 < (putF l n b).length
      · rw [if_pos h3]
      · rw [if_neg h3] at h; exact absurd rfl h
theorem putS_fine {l : List SFile} (hl : fchk l = 0) (n b : List UInt8) : fchk (putS l n b).1 = 0 := by
  by_cases h : (putS l n b).2 = 0
  · exact putS_right hl h
  · rw [putS_none h]; rfl

set_option maxRecDepth 100000 in
set_option maxHeartbeats 16000000 in
theorem shs_good (ao ab am al : Option Addr) (cap cb cm cl : Nat) (fs ms : List SFile) (ls : List SLine) (n bs : List UInt8) (w : World) (hf : RFiles w (.slice ao fs.length cap) fs) (hfit : ∀ f ∈ fs, FitsF f) (hl : RLines w (.slice al ls.length cl) ls) (hfl : ∀ x ∈ ls, FitsL x) (hnl : n.length ≤ 9223372036854775807) (hb : Reads w (.slice ab bs.length cb) bs.length (bs.map U)) (hm : RFiles w (.slice am ms.length cm) ms) (hK : Known w) (hsh : w.ShapedOpen Tryz.prog) (hwf : ∀ x ∈ ls, WfL x) (h0 : fchk fs = 0) :
    Calls Tryz.prog 3 #[.slice ao fs.length cap, .slice al ls.length cl, .string ⟨n.toArray⟩, .slice ab bs.length cb, .slice am ms.length cm] w fun e w' => e = .returned (.bool true) ∧ Below w.heap.size w w' := by
  haveI : DecidableEq SFile := fun a b => Classical.propDecidable _
  have HGET : Hid _ := get_is ao cap fs n w hf hfit
  have HPUT : Hid _ := fun (W : World) (h : Below w.heap.size w W) => put_is ao ab cap cb fs n bs W (hf.below h) hfit (hb.below h) hnl
  have HRUN : Hid _ := fun (W : World) (h : Below w.heap.size w W) => run_is ao al cap cl fs ls W (hf.below h) hfit (hl.below h) hfl (hK.below h)
  have HCR : Hid _ := fun (W : World) (h : Below w.heap.size w W) => checkFiles_ref ao cap fs W (hf.below h) hfit
  have HCD : Hid _ := fun (W : World) (h : Below w.heap.size w W) => fcheck_is ao cap fs W (hf.below h) hfit
  have HSH : Hid _ := fun (W : World) (h : Below w.heap.size w W) => shelled_true W (hK.below h)
  have HSD : Hid _ := fun (W : World) (h : Below w.heap.size w W) => same_is ao am cap cm fs ms W (hf.below h) (hm.below h)
  have HSR : Hid _ := fun (W : World) (h : Below w.heap.size w W) => sameFiles_ref ao am cap cm fs ms W (hf.below h) (hm.below h)
  have hcap := rfiles_le hf
  have hcl := rlines_le hl
  have hcm := rfiles_le hm
  have hbl := reads_le' hb
  obtain ⟨N, hN⟩ : ∃ N, N = fs.length := ⟨_, rfl⟩
  obtain ⟨MN, hMN⟩ : ∃ N, N = ms.length := ⟨_, rfl⟩
  obtain ⟨M, hM⟩ : ∃ M, M = ls.length := ⟨_, rfl⟩
  obtain ⟨BN, hBN⟩ : ∃ M, M = bs.length := ⟨_, rfl⟩
  obtain ⟨nx, hnx⟩ : ∃ nx : ByteArray, nx = ⟨n.toArray⟩ := ⟨_, rfl⟩
  obtain ⟨sd, hsd⟩ : ∃ sd, sd = decide (fs = ms) := ⟨_, rfl⟩
  rw [getS_right' h0] at HGET
  rw [putT_right' h0] at HPUT
  have HPI : Hid _ := fun (W : World) (h : Below w.heap.size w W) => putIn_ref ao ab cap cb fs n bs W (hf.below h) (fchk_zero h0).2 (fchk_zero h0).1 (hb.below h) hnl
  have HFO : Hid _ := fun (W : World) (h : Below w.heap.size w W) => fileOf_ref ao cap fs n W (hf.below h)
  have HSC : Hid _ := fun (W : World) (h : Below w.heap.size w W) => scheck_ref al cl ls W (hl.below h) hfl hwf
  have HL : Hid (RLines w (.slice al ls.length cl) ls) := hl
  have HF : Hid (RFiles w (.slice ao fs.length cap) fs) := hf
  have HFL : Hid (∀ x ∈ ls, FitsL x) := hfl
  have HWF : Hid (∀ x ∈ ls, WfL x) := hwf
  have HK : Hid (Known w) := hK
  have HSHP : Hid (w.ShapedOpen Tryz.prog) := hsh
  have HH0 : Hid (fchk fs = 0) := h0
  obtain ⟨sk, hsk⟩ : ∃ sk, sk = schk ls := ⟨_, rfl⟩
  have HSK : Hid (sk = schk ls) := hsk
  rw [← hN, ← hnx] at HGET HFO
  rw [← hN, ← hnx, ← hBN] at HPUT HPI
  rw [← hN, ← hM] at HRUN
  rw [← hM, ← hsk] at HSC
  rw [← hM] at HL
  rw [← hN] at HF
  rw [h0, ← hN] at HCR HCD
  have HM : Hid (M = ls.length) := hM
  have HN : Hid (N = fs.length) := hN
  rw [← hN, ← hMN, ← hsd] at HSD HSR
  rw [← hN] at hcap
  rw [← hM] at hcl
  rw [← hMN] at hcm
  rw [← hBN] at hbl
  rw [← hN, ← hM, ← hnx, ← hBN, ← hMN]
  clear hf hfit hl hfl hb hm hK hN hM hBN hMN hnx hsd hnl hsh hwf h0 hsk
  go_enter Tryz.func3, Tryz.ntmps3
  go_wp2_with fail
  refine Calls.mono HGET.out ?_
  rintro e w1 ⟨a1, c1, rfl, hr1, hb1⟩
  have HB1 : Hid (Below w.heap.size w w1) := hb1
  have HR1 : Hid (Reads w1 (.slice a1 (fileOf fs n).length c1) (fileOf fs n).length ((fileOf fs n).map U)) := hr1
  obtain ⟨XN, hXN⟩ : ∃ XN, XN = (fileOf fs n).length := ⟨_, rfl⟩
  have HXN : Hid (XN = (fileOf fs n).length) := hXN
  simp only
  rw [← hXN]
  clear hb1 HGET hr1 hXN
  go_wp2_with fail
  have hQ := HPUT.out w1 HB1.out
  refine Calls.mono hQ ?_
  rintro e w2 ⟨a2, c2, rfl, hr2, hb2⟩
  have HB2 : Hid (Below w.heap.size w w2) := HB1.out.trans (hb2.mono HB1.out.size)
  have HR12 : Hid (Reads w2 (.slice a1 (fileOf fs n).length c1) (fileOf fs n).length ((fileOf fs n).map U)) := HR1.out.below hb2
  have HP2 : Hid (RFiles w2 (.slice a2 (putS fs n bs).1.length c2) (putS fs n bs).1) := hr2
  obtain ⟨PN, hPN⟩ : ∃ PN, PN = (putS fs n bs).1.length := ⟨_, rfl⟩
  have HPN : Hid (PN = (putS fs n bs).1.length) := hPN
  obtain ⟨pe, hpe⟩ : ∃ pe, pe = (putS fs n bs).2 := ⟨_, rfl⟩
  have HPE : Hid (pe = (putS fs n bs).2) := hpe
  rw [← hPN, ← hpe]
  clear hb2 hQ HPUT HB1 HR1 hr2 hPN hpe
  go_wp2_with fail
  have hQ := HRUN.out w2 HB2.out
  refine Calls.mono hQ ?_
  rintro e w3 ⟨a3, c3, rfl, hr3, hb3⟩
  have HB3 : Hid (Below w.heap.size w w3) := HB2.out.trans (hb3.mono HB2.out.size)
  have HB23 : Hid (Below w2.heap.size w2 w3) := hb3
  have HZ3 : Hid (RFiles w3 (.slice a3 (runS fs ls).1.length c3) (runS fs ls).1) := hr3
  obtain ⟨ZN, hZN⟩ : ∃ ZN, ZN = (runS fs ls).1.length := ⟨_, rfl⟩
  have HZN : Hid (ZN = (runS fs ls).1.length) := hZN
  obtain ⟨rk, hrk⟩ : ∃ rk, rk = (runS fs ls).2 := ⟨_, rfl⟩
  have HRK : Hid (rk = (runS fs ls).2) := hrk
  rw [← hZN, ← hrk]
  rw [← hZN] at HZ3
  have HR3 : Hid (Reads w3 (.slice a1 (fileOf fs n).length c1) (fileOf fs n).length ((fileOf fs n).map U)) := HR12.out.below HB23.out
  have HP3 : Hid (RFiles w3 (.slice a2 (putS fs n bs).1.length c2) (putS fs n bs).1) := HP2.out.below HB23.out
  clear hb3 hQ HRUN HB2 hr3 hZN hrk HB23 HR12 HP2
  go_wp2_with fail
  have hQ := HCR.out w3 HB3.out
  refine Calls.mono hQ ?_
  rintro e w4 ⟨rfl, hb4⟩
  have HB4 : Hid (Below w.heap.size w w4) := HB3.out.trans (hb4.mono HB3.out.size)
  have HC4 : Hid (Below w3.heap.size w3 w4) := hb4
  clear hb4 hQ HCR HB3
  go_wp2_with fail
  have hQ := HSH.out w4 HB4.out
  refine Calls.mono hQ ?_
  rintro e w5 ⟨rfl, hb5⟩
  have HB5 : Hid (Below w.heap.size w w5) := HB4.out.trans (hb5.mono HB4.out.size)
  have HC5 : Hid (Below w3.heap.size w3 w5) := HC4.out.trans (hb5.mono HC4.out.size)
  clear hb5 hQ HSH HB4
  go_wp2_with fail
  have hQ := HCD.out w5 HB5.out
  refine Calls.mono hQ ?_
  rintro e w6 ⟨rfl, hb6⟩
  have HB6 : Hid (Below w.heap.size w w6) := HB5.out.trans (hb6.mono HB5.out.size)
  have HC6 : Hid (Below w3.heap.size w3 w6) := HC5.out.trans (hb6.mono HC5.out.size)
  clear hb6 hQ HCD HB5
  go_wp2_with fail
  have hQ := HSD.out w6 HB6.out
  refine Calls.mono hQ ?_
  rintro e w7 ⟨rfl, hb7⟩
  have HB7 : Hid (Below w.heap.size w w7) := HB6.out.trans (hb7.mono HB6.out.size)
  have HC7 : Hid (Below w3.heap.size w3 w7) := HC6.out.trans (hb7.mono HC6.out.size)
  clear hb7 hQ HSD HB6
  go_wp2_with fail
  have hQ := HSR.out w7 HB7.out
  refine Calls.mono hQ ?_
  rintro e w8 ⟨rfl, hb8⟩
  have HB8 : Hid (Below w.heap.size w w8) := HB7.out.trans (hb8.mono HB7.out.size)
  have HC8 : Hid (Below w3.heap.size w3 w8) := HC7.out.trans (hb8.mono HC7.out.size)
  clear hb8 hQ HSR HB7
  go_wp2_with fail
  have hQ := HPI.out w8 HB8.out
  refine Calls.mono hQ ?_
  rintro e w9 ⟨a9, c9, rfl, hr9, hb9⟩
  have HB9 : Hid (Below w.heap.size w w9) := HB8.out.trans (hb9.mono HB8.out.size)
  have HC9 : Hid (Below w3.heap.size w3 w9) := HC8.out.trans (hb9.mono HC8.out.size)
  have HP9 : Hid (RFiles w9 (.slice a9 (putS fs n bs).1.length c9) (putS fs n bs).1) := hr9
  rw [← HPN.out, ← HPE.out]
  clear hb9 hQ HPI HB8 HC8 hr9
  go_wp2_with fail
  have hQ := HFO.out w9 HB9.out
  rw [← HXN.out] at hQ
  refine Calls.mono hQ ?_
  rintro e w10 ⟨a10, c10, rfl, hr10, hb10⟩
  have HB10 : Hid (Below w.heap.size w w10) := HB9.out.trans (hb10.mono HB9.out.size)
  have HC10 : Hid (Below w3.heap.size w3 w10) := HC9.out.trans (hb10.mono HC9.out.size)
  have HP10 : Hid (RFiles w10 (.slice a9 (putS fs n bs).1.length c9) (putS fs n bs).1) := HP9.out.below hb10
  have HEQ : Hid _ := eqbyte_is a1 a10 c1 c10 (fileOf fs n) (fileOf fs n) w10 (HR3.out.below HC10.out) (by rw [← HXN.out]; exact hr10)
  rw [decide_eq_true (rfl : fileOf fs n = fileOf fs n), ← HXN.out] at HEQ
  clear hb10 hQ HFO HB9 HC9 hr10 HP9 HR3
  go_wp2_with fail
  refine Calls.mono HEQ.out ?_
  rintro e w11 ⟨rfl, hb11⟩
  have HB11 : Hid (Below w.heap.size w w11) := HB10.out.trans (hb11.mono HB10.out.size)
  have HC11 : Hid (Below w3.heap.size w3 w11) := HC10.out.trans (hb11.mono HC10.out.size)
  have HSP : Hid _ := sameFiles_ref a2 a9 c2 c9 (putS fs n bs).1 (putS fs n bs).1 w11 (HP3.out.below HC11.out) (HP10.out.below hb11)
  rw [decide_eq_true (rfl : (putS fs n bs).1 = (putS fs n bs).1), ← HPN.out] at HSP
  clear hb11 HEQ HB10 HC10 HP10 HP3
  go_wp2_with fail
  refine Calls.mono HSP.out ?_
  rintro e w12 ⟨rfl, hb12⟩
  have HB12 : Hid (Below w.heap.size w w12) := HB11.out.trans (hb12.mono HB11.out.size)
  have HC12 : Hid (Below w3.heap.size w3 w12) := HC11.out.trans (hb12.mono HC11.out.size)
  clear hb12 HSP HB11 HC11
  go_wp2_with fail
  have hQ := HSC.out w12 HB12.out
  refine Calls.mono hQ ?_
  rintro e w13 ⟨rfl, hb13⟩
  have HB13 : Hid (Below w.heap.size w w13) := HB12.out.trans (hb13.mono HB12.out.size)
  have HC13 : Hid (Below w3.heap.size w3 w13) := HC12.out.trans (hb13.mono HC12.out.size)
  clear hb13 hQ HSC HB12 HC12
  go_wp2_with fail
  generalize hw13 : w13 = wl at *
  clear hw13
  go_loopw [20, 21, 129] (fun wv nv i wr => ∃ k : Nat, ∃ cur : List SFile, ∃ ac cc nc, ∃ wz : Int, k ≤ M ∧ i = .int .i64 k ∧ nv = .slice ac nc cc ∧ wv = .int .i64 wz ∧ Hid (nc = cur.length) ∧ Hid (RFiles wr (.slice ac nc cc) cur) ∧ Hid (fchk cur = 0) ∧ Hid (wz = 0 → schk ls = 0 ∧ runS fs ls = runL cur (ls.drop k)) ∧ Hid (wz ≠ 0 → runS fs ls = ([], wz)) ∧ Hid (Below w.heap.size w wr) ∧ Hid (Below w3.heap.size w3 wr)) (fun _ _ i _ => M - (intOf i).toNat)
  case atStart => exact ⟨0, fs, ao, cap, N, sk, Nat.zero_le _, rfl, rfl, rfl, HN, HF.out.below HB13.out, HH0, (show _ → _ from fun e => ⟨HSK.out.symm.trans e, runS_ok HH0.out (HSK.out.symm.trans e)⟩), (show _ → _ from fun e => by rw [runS_bad HH0.out (by rw [← HSK.out]; exact e), ← HSK.out]), HB13, HC13⟩
  case round =>
    clear HB13 HC13 HSK HF
    obtain ⟨k, cur, ac, cc, nc, wz, hk, rfl, rfl, rfl, HNC, HRF, HRI, HZ0, HZ1, hbel, hbel3⟩ := hrel
    have hnc : nc ≤ 12 := by rw [HNC.out]; exact (fchk_zero HRI.out).1
    by_cases hz : wz = 0
    · subst hz
      obtain ⟨hsc0, hrun⟩ := HZ0.out rfl
      have HRL : Hid (runS fs ls = runL cur (ls.drop k)) := hrun
      have HSC0 : Hid (schk ls = 0) := hsc0
      clear hrun hsc0 HZ0 HZ1
      by_cases hlt : k < M
      · obtain ⟨x, hx⟩ : ∃ x, ls[k]? = some x := ⟨_, List.getElem?_eq_getElem (by have := HM.out; omega)⟩
        obtain ⟨b, off, af, cf, ad, cd, rfl, hc0, hc1, hc2, hr, hd⟩ := (RLines.below HL.out hbel.out).at hx
        have hlx := (schk_zero HSC0.out).2 x (List.mem_of_getElem? hx)
        have hfx := HFL.out x (List.mem_of_getElem? hx)
        have hwx := HWF.out x (List.mem_of_getElem? hx)
        have HRLM : Hid _ := fun (W : World) (hb : Below wr.heap.size wr W) => lineMade_ref x ac af ad cc cf cd cur W (by rw [← HNC.out]; exact HRF.out.below hb) (small_right HRI.out) (hr.below hb) (hd.below hb) hlx (sh_below (sh_below HSHP.out hbel.out) hb) ((HK.out.below hbel.out).below hb)
        have HLI : Hid _ := fun (W : World) (hb : Below wr.heap.size wr W) => line_is x ac af ad cc cf cd cur W (by rw [← HNC.out]; exact HRF.out.below hb) (right_fits HRI.out) (hr.below hb) (hd.below hb) hfx ((HK.out.below hbel.out).below hb)
        have HGA : Hid _ := fun (W : World) (hb : Below wr.heap.size wr W) => gather_is ac af cc cf cur x.fr W (by rw [← HNC.out]; exact HRF.out.below hb) (right_fits HRI.out) (hr.below hb)
        have HGR : Hid _ := fun (W : World) (hb : Below wr.heap.size wr W) => gathered_ref ac af cc cf cur x.fr W (by rw [← HNC.out]; exact HRF.out.below hb) (small_right HRI.out) (hr.below hb) (sh_below (sh_below HSHP.out hbel.out) hb)
        have HPU : Hid _ := fun (W : World) (hb : Below wr.heap.size wr W) (ab : Option Addr) (cb : Nat) (hrb : Reads W (.slice ab (lineOf cur x).1.length cb) (lineOf cur x).1.length ((lineOf cur x).1.map U)) => putIn_ref ac ab cc cb cur x.to (lineOf cur x).1 W (by rw [← HNC.out]; exact HRF.out.below hb) (fchk_zero HRI.out).2 (fchk_zero HRI.out).1 hrb hfx.2.2
        rw [← HNC.out] at HRLM HPU
        rw [← HNC.out, lineT_lineOf hlx HRI.out] at HLI
        rw [← HNC.out, gatherT_right' HRI.out] at HGA
        rw [← HNC.out] at HGR
        have HDR : Hid (ls.drop k = x :: ls.drop (k + 1)) := drop_at hx
        obtain ⟨le, hle2⟩ : ∃ le, le = (lineOf cur x).2 := ⟨_, rfl⟩
        have HLE : Hid (le = (lineOf cur x).2) := hle2
        have HGE : Hid (le = (gather cur x.fr).2) := (show _ = _ from hle2.trans (lineOf_err cur x))
        obtain ⟨LN, hLN⟩ : ∃ LN, LN = (lineOf cur x).1.length := ⟨_, rfl⟩
        have HLN : Hid (LN = (lineOf cur x).1.length) := hLN
        obtain ⟨GN, hGN⟩ : ∃ GN, GN = (gather cur x.fr).1.length := ⟨_, rfl⟩
        have HGN : Hid (GN = (gather cur x.fr).1.length) := hGN
        generalize (⟨x.to.toArray⟩ : ByteArray) = tx at *
        generalize x.fr.length = NF at *
        generalize x.cs.length = ND at *
        clear hx hr hd hlx hfx hwx hle2 hLN hGN
        go_wp2_with fail
        have hbx : Below wr.heap.size wr (wr.alloc (.cells #[.slice af NF cf, .slice ad ND cd, .string tx] 40)) := boxr_of
        have HBX : Hid _ := hbx
        have hQ := HRLM.out _ hbx
        refine Calls.mono hQ ?_
        rintro e u1 ⟨b1, d1, rfl, q1, p1⟩
        have HX1 : Hid (Below (wr.alloc (.cells #[.slice af NF cf, .slice ad ND cd, .string tx] 40)).heap.size (wr.alloc (.cells #[.slice af NF cf, .slice ad ND cd, .string tx] 40)) u1) := p1
        obtain ⟨x10, x11, x12⟩ := box3_keep p1
        have HW1 : Hid (Reads u1 (.slice b1 (lineOf cur x).1.length d1) (lineOf cur x).1.length ((lineOf cur x).1.map U)) := q1
        rw [← HLE.out, ← HLN.out]
        clear hQ p1 q1 HRLM hbx hc0 hc1 hc2
        go_wp2_with fail
        have hQ := HLI.out u1 (HBX.out.trans (HX1.out.mono HBX.out.size))
        refine Calls.mono hQ ?_
        rintro e u2 ⟨b2, d2, rfl, q2, p2⟩
        have HX2 : Hid (Below (wr.alloc (.cells #[.slice af NF cf, .slice ad ND cd, .string tx] 40)).heap.size (wr.alloc (.cells #[.slice af NF cf, .slice ad ND cd, .string tx] 40)) u2) := HX1.out.trans (p2.mono HX1.out.size)
        obtain ⟨x20, x21, x22⟩ := box3_keep HX2.out
        have HW2 : Hid (Reads u2 (.slice b1 (lineOf cur x).1.length d1) (lineOf cur x).1.length ((lineOf cur x).1.map U)) := HW1.out.below p2
        have HV2 : Hid (Reads u2 (.slice b2 (lineOf cur x).1.length d2) (lineOf cur x).1.length ((lineOf cur x).1.map U)) := q2
        rw [← HLE.out, ← HLN.out]
        clear hQ p2 q2 HLI x10 x11 x12 HW1 HX1
        go_wp2_with fail
        have hQ := HGA.out u2 (HBX.out.trans (HX2.out.mono HBX.out.size))
        refine Calls.mono hQ ?_
        rintro e u3 ⟨b3, d3, rfl, q3, p3⟩
        have HX3 : Hid (Below (wr.alloc (.cells #[.slice af NF cf, .slice ad ND cd, .string tx] 40)).heap.size (wr.alloc (.cells #[.slice af NF cf, .slice ad ND cd, .string tx] 40)) u3) := HX2.out.trans (p3.mono HX2.out.size)
        obtain ⟨x30, x31, x32⟩ := box3_keep HX3.out
        have HW3 : Hid (Reads u3 (.slice b1 (lineOf cur x).1.length d1) (lineOf cur x).1.length ((lineOf cur x).1.map U)) := HW2.out.below p3
        have HV3 : Hid (Reads u3 (.slice b2 (lineOf cur x).1.length d2) (lineOf cur x).1.length ((lineOf cur x).1.map U)) := HV2.out.below p3
        have HG3 : Hid (Reads u3 (.slice b3 (gather cur x.fr).1.length d3) (gather cur x.fr).1.length ((gather cur x.fr).1.map U)) := q3
        rw [← HGE.out, ← HGN.out]
        clear hQ p3 q3 HGA x20 x21 x22 HW2 HV2 HX2
        go_wp2_with fail
        have hQ := HGR.out u3 (HBX.out.trans (HX3.out.mono HBX.out.size))
        refine Calls.mono hQ ?_
        rintro e u4 ⟨b4, d4, rfl, q4, p4⟩
        have HX4 : Hid (Below (wr.alloc (.cells #[.slice af NF cf, .slice ad ND cd, .string tx] 40)).heap.size (wr.alloc (.cells #[.slice af NF cf, .slice ad ND cd, .string tx] 40)) u4) := HX3.out.trans (p4.mono HX3.out.size)
        obtain ⟨x40, x41, x42⟩ := box3_keep HX4.out
        have HEL : Hid _ := eqbyte_is b2 b1 d2 d1 (lineOf cur x).1 (lineOf cur x).1 u4 (HV3.out.below p4) (HW3.out.below p4)
        rw [decide_eq_true (rfl : (lineOf cur x).1 = (lineOf cur x).1), ← HLN.out] at HEL
        have HW4 : Hid (Reads u4 (.slice b1 (lineOf cur x).1.length d1) (lineOf cur x).1.length ((lineOf cur x).1.map U)) := HW3.out.below p4
        have HG4 : Hid (Reads u4 (.slice b3 (gather cur x.fr).1.length d3) (gather cur x.fr).1.length ((gather cur x.fr).1.map U)) := HG3.out.below p4
        have HH4 : Hid (Reads u4 (.slice b4 (gather cur x.fr).1.length d4) (gather cur x.fr).1.length ((gather cur x.fr).1.map U)) := q4
        rw [← HGE.out, ← HGN.out]
        clear hQ p4 q4 HGR x30 x31 x32 HW3 HV3 HX3 HG3
        go_wp2_with fail
        refine Calls.mono HEL.out ?_
        rintro e u5 ⟨rfl, p5⟩
        have HX5 : Hid (Below (wr.alloc (.cells #[.slice af NF cf, .slice ad ND cd, .string tx] 40)).heap.size (wr.alloc (.cells #[.slice af NF cf, .slice ad ND cd, .string tx] 40)) u5) := HX4.out.trans (p5.mono HX4.out.size)
        obtain ⟨x50, x51, x52⟩ := box3_keep HX5.out
        have HW5 : Hid (Reads u5 (.slice b1 (lineOf cur x).1.length d1) (lineOf cur x).1.length ((lineOf cur x).1.map U)) := HW4.out.below p5
        have HEG : Hid _ := eqbyte_is b3 b4 d3 d4 (gather cur x.fr).1 (gather cur x.fr).1 u5 (HG4.out.below p5) (HH4.out.below p5)
        rw [decide_eq_true (rfl : (gather cur x.fr).1 = (gather cur x.fr).1), ← HGN.out] at HEG
        clear p5 HEL x40 x41 x42 HW4 HG4 HH4 HX4
        by_cases hle0 : le = 0
        · subst hle0
          go_wp2_with fail
          refine Calls.mono HEG.out ?_
          rintro e u6 ⟨rfl, p6⟩
          have HX6 : Hid (Below (wr.alloc (.cells #[.slice af NF cf, .slice ad ND cd, .string tx] 40)).heap.size (wr.alloc (.cells #[.slice af NF cf, .slice ad ND cd, .string tx] 40)) u6) := HX5.out.trans (p6.mono HX5.out.size)
          obtain ⟨x60, x61, x62⟩ := box3_keep HX6.out
          have hP := HPU.out u6 (HBX.out.trans (HX6.out.mono HBX.out.size)) b1 d1 (HW5.out.below p6)
          rw [← HLN.out] at hP
          have HP : Hid _ := hP
          clear p6 HEG x50 x51 x52 HW5 hP HPU HX5
          go_wp2_with fail
          refine Calls.mono HP.out ?_
          rintro e u7 ⟨ar, cr, rfl, q7, p7⟩
          have HX7 : Hid (Below wr.heap.size wr u7) := HBX.out.trans ((HX6.out.trans (p7.mono HX6.out.size)).mono HBX.out.size)
          have HB7 : Hid (Below w.heap.size w u7) := hbel.out.trans (HX7.out.mono hbel.out.size)
          have HB37 : Hid (Below w3.heap.size w3 u7) := hbel3.out.trans (HX7.out.mono hbel3.out.size)
          have HR7 : Hid (RFiles u7 (.slice ar (putS cur x.to (lineOf cur x).1).1.length cr) (putS cur x.to (lineOf cur x).1).1) := q7
          obtain ⟨QN, hQN⟩ : ∃ QN, QN = (putS cur x.to (lineOf cur x).1).1.length := ⟨_, rfl⟩
          have HQN : Hid (QN = (putS cur x.to (lineOf cur x).1).1.length) := hQN
          obtain ⟨qe, hqe⟩ : ∃ qe, qe = (putS cur x.to (lineOf cur x).1).2 := ⟨_, rfl⟩
          have HQE : Hid (qe = (putS cur x.to (lineOf cur x).1).2) := hqe
          rw [← hQN, ← hqe]
          rw [← hQN] at HR7
          have HN0 : Hid (qe = 0 → schk ls = 0 ∧ runS fs ls = runL (putS cur x.to (lineOf cur x).1).1 (ls.drop (k + 1))) := (show _ → _ from fun e => ⟨HSC0.out, by rw [HRL.out, HDR.out, runL_go HLE.out.symm (by rw [← hqe]; exact e)]⟩)
          have HN1 : Hid (qe ≠ 0 → runS fs ls = ([], qe)) := (show _ → _ from fun e => by rw [HRL.out, HDR.out, runL_put HLE.out.symm (by rw [← hqe]; exact e), ← hqe])
          have HNF : Hid (fchk (putS cur x.to (lineOf cur x).1).1 = 0) := putS_fine HRI.out x.to (lineOf cur x).1
          clear p7 HP q7 hQN hqe x60 x61 x62 HX6 HX7
          go_wp2_with fail
          go_roundw
          case rel => exact ⟨k + 1, _, _, _, _, _, by omega, by go_num, rfl, rfl, HQN, HR7, HNF, HN0, HN1, HB7, HB37⟩
          case measure => simp [intOf]; omega
        · have HX8 : Hid (Below wr.heap.size wr u5) := HBX.out.trans (HX5.out.mono HBX.out.size)
          have HB8 : Hid (Below w.heap.size w u5) := hbel.out.trans (HX8.out.mono hbel.out.size)
          have HB38 : Hid (Below w3.heap.size w3 u5) := hbel3.out.trans (HX8.out.mono hbel3.out.size)
          have HRF8 : Hid (RFiles u5 (.slice ac nc cc) cur) := HRF.out.below HX8.out
          have HN0 : Hid (le = 0 → schk ls = 0 ∧ runS fs ls = runL cur (ls.drop (k + 1))) := (show _ → _ from fun e => absurd e hle0)
          have HN1 : Hid (le ≠ 0 → runS fs ls = ([], le)) := (show _ → _ from fun e => by rw [HRL.out, HDR.out, runL_line (by rw [← HLE.out]; exact e), ← HLE.out])
          clear HEG HPU HW5 HX5 HX8 HRF
          go_wp2_with fail
          go_roundw
          case rel => exact ⟨k + 1, _, _, _, _, _, by omega, by go_num, rfl, rfl, HNC, HRF8, HRI, HN0, HN1, HB8, HB38⟩
          case measure => simp [intOf]; omega
      · have hRS : runS fs ls = (cur, 0) := by
          rw [HRL.out, List.drop_of_length_le (by have := HM.out; omega)]; rfl
        have HSE : Hid _ := sameFiles_ref a3 ac c3 cc cur cur wr (by have h := HZ3.out.below hbel3.out; rw [hRS] at h; rw [HZN.out, hRS] at h; exact h) (by rw [← HNC.out]; exact HRF.out)
        have hzn : ZN = nc := by rw [HZN.out, HNC.out, hRS]
        have hrk0 : rk = 0 := by rw [HRK.out, hRS]
        subst hrk0
        subst hzn
        rw [decide_eq_true (rfl : cur = cur), ← HNC.out] at HSE
        clear hRS HZ3 HRF
        go_wp2_with fail
        refine Calls.mono HSE.out ?_
        rintro e u9 ⟨rfl, p9⟩
        have HB9' : Hid (Below w.heap.size w u9) := hbel.out.trans (p9.mono hbel.out.size)
        clear p9 HSE
        go_wp2_with fail
        go_ret
        exact ⟨rfl, HB9'.out⟩
    · have hRS := HZ1.out hz
      have hrkz : rk = wz := by rw [HRK.out, hRS]
      have hzn : ZN = 0 := by rw [HZN.out, hRS]; rfl
      subst hrkz
      subst hzn
      clear hRS HZ3 HRF HZ0 HZ1
      by_cases hlt : k < M
      · obtain ⟨x, hx⟩ : ∃ x, ls[k]? = some x := ⟨_, List.getElem?_eq_getElem (by have := HM.out; omega)⟩
        obtain ⟨b, off, af, cf, ad, cd, rfl, hc0, hc1, hc2, hr, hd⟩ := (RLines.below HL.out hbel.out).at hx
        have HB10' : Hid (Below w.heap.size w (wr.alloc (.cells #[.slice af x.fr.length cf, .slice ad x.cs.length cd, .string ⟨x.to.toArray⟩] 40))) := hbel.out.trans (boxr_of.mono hbel.out.size)
        generalize (⟨x.to.toArray⟩ : ByteArray) = tx at *
        generalize x.fr.length = NF at *
        generalize x.cs.length = ND at *
        clear hx hr hd
        go_wp2_with fail
        go_ret
        exact ⟨rfl, HB10'.out⟩
      · go_wp2_with fail
        go_ret
        exact ⟨rfl, hbel.out⟩

theorem shellSays_walk (W : World) (hK : Known W) (hsh : W.ShapedOpen Tryz.prog) (ao : Option Addr) (cap : Nat) (fs : List SFile) (hf : RFiles W (.slice ao fs.length cap) fs) (hfit : ∀ f ∈ fs, FitsF f) (hz0 : ao = none → cap = 0) (al : Option Addr) (cl : Nat) (ls : List SLine) (hl : RLines W (.slice al ls.length cl) ls) (hfl : ∀ x ∈ ls, FitsL x) (hz1 : al = none → cl = 0) (hwf : ∀ x ∈ ls, WfL x) (n : List UInt8) (hnl : n.length ≤ 9223372036854775807) (ab : Option Addr) (cb : Nat) (bs : List UInt8) (hb : Reads W (.slice ab bs.length cb) bs.length (bs.map U)) (hbl : bs.length ≤ 1000000000000000) (am : Option Addr) (cm : Nat) (ms : List SFile) (hm : RFiles W (.slice am ms.length cm) ms) (hfm : ∀ f ∈ ms, FitsF f) (hz2 : am = none → cm = 0) :
    Calls Tryz.prog 3 #[.slice ao fs.length cap, .slice al ls.length cl, .string ⟨n.toArray⟩, .slice ab bs.length cb, .slice am ms.length cm] W fun e w' => e = .returned (.bool true) ∧ Below W.heap.size W w' := by
  by_cases h0 : fchk fs = 0
  · exact shs_good ao ab am al cap cb cm cl fs ms ls n bs W hf hfit hl hfl hnl hb hm hK hsh hwf h0
  · exact shs_bad ao ab am al cap cb cm cl fs ms ls n bs W hf hfit hl hfl hnl hb hm hK h0
end Go.Proofs.YtcllnalikeljgabGreatDoor
