/- What Line does. -/
import Derived.Test.YtkifihcficobnabGreatDoorShellH
import Derived.Test.YtkifihcficobnabGreatDoorScrE
import Derived.Test.YtkifihcficobnabGreatDoorOverF
import Derived.Test.YtkifihcficobnabGreatDoorPlainE
namespace Go.Proofs.YtkifihcficobnabGreatDoor
open Go.RowKit Go.Gs
set_option linter.unusedVariables false

/-- Line. -/
def lineT (fs : List SFile) (x : SLine) : List UInt8 × Int := if lchk x = 0 then (if fchk fs = 0 then lineOf fs x else ([], fchk fs)) else ([], lchk x)
theorem lineT_bad {fs : List SFile} {x : SLine} (h : lchk x ≠ 0) : lineT fs x = ([], lchk x) := by unfold lineT; rw [if_neg h]
theorem lineT_gat {fs : List SFile} {x : SLine} (h : lchk x = 0) (hg : (gatherT fs x.fr).2 ≠ 0) : lineT fs x = ([], (gatherT fs x.fr).2) := by
  unfold lineT
  rw [if_pos h]
  unfold gatherT at hg ⊢
  by_cases hf : fchk fs = 0
  · rw [if_pos hf] at hg ⊢
    rw [if_pos hf]
    unfold lineOf
    rw [if_neg hg]
  · rw [if_neg hf, if_neg hf]
theorem lineT_ok {fs : List SFile} {x : SLine} (h : lchk x = 0) (hg : (gatherT fs x.fr).2 = 0) : lineT fs x = (doAll x.cs (gatherT fs x.fr).1, 0) := by
  unfold lineT
  rw [if_pos h]
  unfold gatherT at hg ⊢
  by_cases hf : fchk fs = 0
  · rw [if_pos hf] at hg ⊢
    rw [if_pos hf]
    unfold lineOf
    rw [if_pos hg]
  · rw [if_neg hf] at hg
    exact absurd hg hf
theorem gatherT_small (fs : List SFile) (fr : List (List UInt8)) : (gatherT fs fr).1.length ≤ 4000 ∧ whole (gatherT fs fr).1 := by
  unfold gatherT
  split
  · exact ⟨(gather_whole fs fr).2, (gather_whole fs fr).1⟩
  · exact ⟨by simp, whole_nil⟩
theorem doAll_take {cs : List Cmd} {k : Nat} {c : Cmd} (h : cs[k]? = some c) (b : List UInt8) : doAll (cs.take (k + 1)) b = doOut c (doAll (cs.take k) b) := by
  rw [List.take_add_one, h, Option.toList_some, doAll_append]
  rfl

set_option maxRecDepth 100000 in
set_option maxHeartbeats 8000000 in
theorem line_is (x : SLine) (ao af ad : Option Addr) (cap cf cd : Nat) (fs : List SFile) (w : World) (hf : RFiles w (.slice ao fs.length cap) fs) (hfit : ∀ f ∈ fs, FitsF f) (hfr : Reads w (.slice af x.fr.length cf) x.fr.length (x.fr.map S)) (hcs : RCmds w (.slice ad x.cs.length cd) x.cs) (hfx : FitsL x) (hK : Known w) :
    Calls Tryz.prog 22 #[.slice ao fs.length cap, .agg #[.slice af x.fr.length cf, .slice ad x.cs.length cd, .string ⟨x.to.toArray⟩]] w fun e w' => GetEnd w (lineT fs x) e w' := by
  have HC : Hid _ := fun (W : World) (hb : Below w.heap.size w W) => checkLine_is x af ad cf cd W (hfr.below hb) (hcs.below hb) hfx
  have HG : Hid _ := fun (W : World) (hb : Below w.heap.size w W) => gather_is ao af cap cf fs x.fr W (hf.below hb) hfit (hfr.below hb)
  have HD : Hid (RCmds w (.slice ad x.cs.length cd) x.cs) := hcs
  have HK : Hid (Known w) := hK
  have HX : Hid (FitsL x) := hfx
  obtain ⟨N, hN⟩ : ∃ N, N = fs.length := ⟨_, rfl⟩
  obtain ⟨NF, hNF⟩ : ∃ N, N = x.fr.length := ⟨_, rfl⟩
  obtain ⟨ND, hND⟩ : ∃ N, N = x.cs.length := ⟨_, rfl⟩
  have HND : Hid (ND = x.cs.length) := hND
  obtain ⟨tx, htx⟩ : ∃ tx : ByteArray, tx = ⟨x.to.toArray⟩ := ⟨_, rfl⟩
  obtain ⟨ck, hck⟩ : ∃ ck, ck = lchk x := ⟨_, rfl⟩
  have HCK : Hid (ck = lchk x) := hck
  rw [← hNF, ← hND, ← htx, ← hck] at HC
  rw [← hN, ← hNF] at HG
  rw [← hND] at HD
  rw [← hN, ← hNF, ← hND, ← htx]
  clear hf hfit hfr hcs hfx hK hN hNF hND htx hck
  go_enter Tryz.func22, Tryz.ntmps22
  go_wp2_with fail
  have hQ := HC.out _ (boxr_of (w := w) (o := .cells #[.slice af NF cf, .slice ad ND cd, .string tx] 40))
  refine Calls.mono hQ ?_
  rintro e w1 ⟨rfl, hb1⟩
  have HB1 : Hid (Below w.heap.size w w1) := boxr_of.trans (hb1.mono boxr_of.size)
  obtain ⟨hx0, hx1, hx2⟩ := box3_keep hb1
  clear hb1 hQ HC
  by_cases h0 : ck = 0
  · subst h0
    obtain ⟨_, _, hcs6, _, _, hcall⟩ := lchk_zero HCK.out.symm
    rw [← HND.out] at hcs6
    have HCA : Hid _ := hcall
    clear hcall
    go_wp2_with fail
    have hQ := HG.out w1 HB1.out
    refine Calls.mono hQ ?_
    rintro e w2 ⟨ab, cb, rfl, hrb, hb2⟩
    have HB2 : Hid (Below w.heap.size w w2) := HB1.out.trans (hb2.mono HB1.out.size)
    have hy1 := (hb2.cell (World.block_lt_of_cell? w1 _ hx1)).trans hx1
    obtain ⟨ge, hge⟩ : ∃ ge, ge = (gatherT fs x.fr).2 := ⟨_, rfl⟩
    have HGE : Hid (ge = (gatherT fs x.fr).2) := hge
    obtain ⟨gb, hgb⟩ : ∃ gb, gb = (gatherT fs x.fr).1 := ⟨_, rfl⟩
    have HGB : Hid (gb = (gatherT fs x.fr).1) := hgb
    have HSM : Hid _ := gatherT_small fs x.fr
    rw [← hge, ← hgb]
    rw [← hgb] at hrb HSM
    have HRB : Hid _ := hrb
    obtain ⟨GN, hGN⟩ : ∃ GN, GN = gb.length := ⟨_, rfl⟩
    have HGN : Hid (GN = gb.length) := hGN
    rw [← hGN] at HRB ⊢
    clear hQ HG hrb hb2 hge hgb hGN hx0 hx1 hx2
    by_cases hg0 : ge = 0
    · subst hg0
      have HLT : Hid (lineT fs x = (doAll x.cs gb, 0)) := (show _ = _ by rw [lineT_ok HCK.out.symm HGE.out.symm, HGB.out])
      go_wp2_with fail
      go_loopw [7, 29] (fun bv i wr => ∃ k : Nat, ∃ bs : List UInt8, ∃ ac cc nc, k ≤ ND ∧ i = .int .i64 k ∧ bv = .slice ac nc cc ∧ Hid (nc = bs.length) ∧ Hid (Reads wr (.slice ac nc cc) nc (bs.map U)) ∧ Hid (bs.length ≤ 4000 ∧ whole bs) ∧ Hid (bs = doAll (x.cs.take k) gb) ∧ Hid (Below w.heap.size w wr)) (fun _ i _ => ND - (intOf i).toNat)
      case atStart => exact ⟨0, gb, ab, cb, GN, Nat.zero_le _, rfl, rfl, HGN, HRB, HSM, (show _ = _ from rfl), HB2⟩
      case round =>
        clear HRB HB2 hy1
        obtain ⟨k, bs, ac, cc, nc, hk, rfl, rfl, HNC, HRD, HSZ, HBS, hbel⟩ := hrel
        by_cases hlt : k < ND
        · obtain ⟨c, hc⟩ : ∃ c, x.cs[k]? = some c := ⟨_, List.getElem?_eq_getElem (by have := HND.out; omega)⟩
          obtain ⟨bb, off, rfl, hc0, hc1, hc2⟩ := (RCmds.below HD.out hbel.out).at hc
          have hcc := HCA.out c (List.mem_of_getElem? hc)
          have HDO : Hid _ := fun (W : World) (hb : Below wr.heap.size wr W) => do_ok c (.slice ac nc cc) bs W (HX.out.2.1 c (List.mem_of_getElem? hc)) hcc (by have h := HRD.out.below hb; rw [HNC.out] at h ⊢; exact h) HSZ.out.1 ((HK.out.below hbel.out).below hb)
          have HB3 : Hid (doOut c bs = doAll (x.cs.take (k + 1)) gb) := (show _ = _ by rw [doAll_take hc, HBS.out])
          have HSZ2 : Hid ((doOut c bs).length ≤ 4000 ∧ whole (doOut c bs)) := (show _ ∧ _ by
            have := doAll_whole [c] bs (by simp [hcc]) HSZ.out.2 HSZ.out.1
            exact ⟨this.2, this.1⟩)
          obtain ⟨ckk, hckk⟩ : ∃ z, z = c.kind := ⟨_, rfl⟩
          obtain ⟨cww, hcww⟩ : ∃ z : ByteArray, z = ⟨c.word.toArray⟩ := ⟨_, rfl⟩
          obtain ⟨cnn, hcnn⟩ : ∃ z, z = c.n := ⟨_, rfl⟩
          have hcv : c.v = .agg #[.int .i64 ckk, .string cww, .int .i64 cnn] := by rw [hckk, hcww, hcnn]; rfl
          rw [hcv] at HDO
          rw [← hckk] at hc0
          rw [← hcww] at hc1
          rw [← hcnn] at hc2
          clear hc hcc hckk hcww hcnn hcv HBS
          go_wp2_with fail
          have hQ := HDO.out _ (boxr_of (w := wr) (o := .cells #[.int .i64 ckk, .string cww, .int .i64 cnn] 59))
          refine Calls.mono hQ ?_
          rintro e w3 ⟨r, rfl, hown, hb3⟩
          have HB13 : Hid (Below wr.heap.size wr w3) := boxr_of.trans (hb3.mono boxr_of.size)
          have HB33 : Hid (Below w.heap.size w w3) := hbel.out.trans (HB13.out.mono hbel.out.size)
          have hrd := Reads.of_owns hown
          obtain ⟨a3, c3, rfl, _, _⟩ := hrd.shape
          obtain ⟨n3, hn3⟩ : ∃ n3, n3 = (doOut c bs).length := ⟨_, rfl⟩
          have HN3 : Hid (n3 = (doOut c bs).length) := hn3
          rw [← hn3] at hrd ⊢
          have HR3 : Hid _ := hrd
          clear hQ HDO hown hb3 hrd hn3 HRD HSZ hc0 hc1 hc2 HB13
          go_wp2_with fail
          go_roundw
          case rel => exact ⟨k + 1, _, _, _, _, by omega, by go_num, rfl, HN3, HR3, HSZ2, HB3, HB33⟩
          case measure => simp [intOf]; omega
        · have HE : Hid (lineT fs x = (bs, 0)) := (show _ = _ by rw [HLT.out, HBS.out, List.take_of_length_le (by have := HND.out; omega)])
          go_wp2_with fail
          go_ret2
          refine ⟨ac, cc, ?_, ?_, hbel.out⟩
          · rw [HE.out, ← HNC.out]; rfl
          · rw [HE.out]; have := HRD.out; rw [HNC.out] at this; exact this
    · have HR : Hid (lineT fs x = ([], ge)) := (show _ = _ by rw [lineT_gat HCK.out.symm (by rw [← HGE.out]; exact hg0), ← HGE.out])
      go_wp2_with fail
      go_ret2
      exact getEnd_none HR.out rfl HB2.out
  · have HR : Hid (lineT fs x = ([], ck)) := (show _ = _ by rw [lineT_bad (by rw [← HCK.out]; exact h0), ← HCK.out])
    clear HG
    go_wp2_with fail
    go_ret2
    exact getEnd_none HR.out rfl HB1.out
end Go.Proofs.YtkifihcficobnabGreatDoor
