/- What the reference's LineMade does. -/
import Derived.Test.YtcllnalikeljgabGreatDoorRefShell9
import Derived.Test.YtcllnalikeljgabGreatDoorRefLine
import Derived.Test.YtcllnalikeljgabGreatDoorRefMadeAll
import Derived.Test.YtcllnalikeljgabGreatDoorDevShell10
import Derived.Deep.RegionWith
namespace Go.Proofs.YtcllnalikeljgabGreatDoor
open Go.RowKit Go.Gs
set_option linter.unusedVariables false

theorem lineOf_bad {fs : List SFile} {x : SLine} (h : (gather fs x.fr).2 ≠ 0) : lineOf fs x = ([], (gather fs x.fr).2) := by unfold lineOf; rw [if_neg h]
theorem lineOf_good {fs : List SFile} {x : SLine} (h : (gather fs x.fr).2 = 0) : lineOf fs x = (doAll x.cs (gather fs x.fr).1, 0) := by unfold lineOf; rw [if_pos h]

theorem linesOf_in {w W : World} {bx : Nat} {a b c : Value} (v : Value) (bs : List UInt8) (hr : Reads W v bs.length (bs.map U)) (hsh : W.ShapedOpen Tryz.prog) (hle : bs.length ≤ 4000) (h0 : W.cell? ⟨bx, 0, none⟩ = some a) (h1 : W.cell? ⟨bx, 1, none⟩ = some b) (h2 : W.cell? ⟨bx, 2, none⟩ = some c) :
    Calls Tryz.prog 59 #[v] W fun e w' => ∃ r, e = .returned r ∧ Hid (Reads w' r (lines bs).length ((lines bs).map S)) ∧ Hid (Below W.heap.size W w') ∧ w'.cell? ⟨bx, 0, none⟩ = some a ∧ w'.cell? ⟨bx, 1, none⟩ = some b ∧ w'.cell? ⟨bx, 2, none⟩ = some c := by
  refine (linesOf v bs W hr hsh (by omega)).mono ?_
  rintro e w' ⟨g, cp, rfl, h3, h4⟩
  have hlt : bx < W.heap.size := World.block_lt_of_cell? W _ h0
  exact ⟨_, rfl, h3, h4, (h4.cell (p := ⟨bx, 0, none⟩) hlt).trans h0, (h4.cell (p := ⟨bx, 1, none⟩) hlt).trans h1, (h4.cell (p := ⟨bx, 2, none⟩) hlt).trans h2⟩

set_option maxRecDepth 100000 in
set_option maxHeartbeats 8000000 in
theorem lineMade_ref (x : SLine) (ao af ad : Option Addr) (cap cf cd : Nat) (fs : List SFile) (w : World) (hf : RFiles w (.slice ao fs.length cap) fs) (h4 : ∀ f ∈ fs, f.b.length ≤ 4000) (hfr : Reads w (.slice af x.fr.length cf) x.fr.length (x.fr.map S)) (hcs : RCmds w (.slice ad x.cs.length cd) x.cs) (hlx : lchk x = 0) (hsh : w.ShapedOpen Tryz.prog) (hK : Known w) :
    Calls Tryz.prog 20 #[.slice ao fs.length cap, .agg #[.slice af x.fr.length cf, .slice ad x.cs.length cd, .string ⟨x.to.toArray⟩]] w fun e w' => GotEnd w (lineOf fs x) e w' := by
  obtain ⟨_, _, hcs6, _, _, hcall⟩ := lchk_zero hlx
  have HG : Hid _ := fun (W : World) (hb : Below w.heap.size w W) => gathered_ref ao af cap cf fs x.fr W (hf.below hb) h4 (hfr.below hb) (sh_below hsh hb)
  have HD : Hid (RCmds w (.slice ad x.cs.length cd) x.cs) := hcs
  have HK : Hid (Known w) := hK
  have HSH : Hid (w.ShapedOpen Tryz.prog) := hsh
  have HCA : Hid _ := hcall
  obtain ⟨N, hN⟩ : ∃ N, N = fs.length := ⟨_, rfl⟩
  obtain ⟨NF, hNF⟩ : ∃ N, N = x.fr.length := ⟨_, rfl⟩
  obtain ⟨ND, hND⟩ : ∃ N, N = x.cs.length := ⟨_, rfl⟩
  have HND : Hid (ND = x.cs.length) := hND
  obtain ⟨tx, htx⟩ : ∃ tx : ByteArray, tx = ⟨x.to.toArray⟩ := ⟨_, rfl⟩
  rw [← hN, ← hNF] at HG
  rw [← hND] at HD hcs6
  rw [← hN, ← hNF, ← hND, ← htx]
  clear hf h4 hfr hcs hlx hsh hK hN hNF hND htx hcall
  go_enter Tryz.func20, Tryz.ntmps20
  go_wp2_with fail
  have hQ := HG.out _ (boxr_of (w := w) (o := .cells #[.slice af NF cf, .slice ad ND cd, .string tx] 40))
  refine Calls.mono hQ ?_
  rintro e w2 ⟨ab, cb, rfl, hrb, hb2⟩
  obtain ⟨hx0, hy1, hx2⟩ := box3_keep hb2
  have HB2 : Hid (Below w.heap.size w w2) := boxr_of.trans (hb2.mono boxr_of.size)
  obtain ⟨ge, hge⟩ : ∃ ge, ge = (gather fs x.fr).2 := ⟨_, rfl⟩
  have HGE : Hid (ge = (gather fs x.fr).2) := hge
  obtain ⟨gb, hgb⟩ : ∃ gb, gb = (gather fs x.fr).1 := ⟨_, rfl⟩
  have HGB : Hid (gb = (gather fs x.fr).1) := hgb
  have HSM : Hid (gb.length ≤ 4000 ∧ whole gb) := (show _ ∧ _ by rw [hgb]; exact ⟨(gather_whole fs x.fr).2, (gather_whole fs x.fr).1⟩)
  rw [← hge, ← hgb]
  rw [← hgb] at hrb
  have HRB : Hid _ := hrb
  obtain ⟨GN, hGN⟩ : ∃ GN, GN = gb.length := ⟨_, rfl⟩
  have HGN : Hid (GN = gb.length) := hGN
  rw [← hGN] at HRB ⊢
  clear hQ HG hrb hb2 hge hgb hGN hx0 hx2
  by_cases hg0 : ge = 0
  · subst hg0
    have HLT : Hid (lineOf fs x = (doAll x.cs gb, 0)) := (show _ = _ by rw [lineOf_good HGE.out.symm, HGB.out])
    go_wp2_with fail
    go_loopw [6, 23] (fun bv i wr => ∃ k : Nat, ∃ bs : List UInt8, ∃ ac cc nc, k ≤ ND ∧ i = .int .i64 k ∧ bv = .slice ac nc cc ∧ Hid (nc = bs.length) ∧ Hid (Reads wr (.slice ac nc cc) nc (bs.map U)) ∧ Hid (bs.length ≤ 4000 ∧ whole bs) ∧ Hid (bs = doAll (x.cs.take k) gb) ∧ Hid (Below w.heap.size w wr)) (fun _ i _ => ND - (intOf i).toNat)
    case atStart => exact ⟨0, gb, ab, cb, GN, Nat.zero_le _, rfl, rfl, HGN, HRB, HSM, (show _ = _ from rfl), HB2⟩
    case round =>
      clear HRB HB2 hy1
      obtain ⟨k, bs, ac, cc, nc, hk, rfl, rfl, HNC, HRD, HSZ, HBS, hbel⟩ := hrel
      by_cases hlt : k < ND
      · obtain ⟨c, hc⟩ : ∃ c, x.cs[k]? = some c := ⟨_, List.getElem?_eq_getElem (by have := HND.out; omega)⟩
        obtain ⟨bb, off, rfl, hc0, hc1, hc2⟩ := (RCmds.below HD.out hbel.out).at hc
        have hcc := HCA.out c (List.mem_of_getElem? hc)
        have HLO : Hid _ := fun (W : World) (hb : Below wr.heap.size wr W) (bx : Nat) (a b c : Value) (h0 : W.cell? ⟨bx, 0, none⟩ = some a) (h1 : W.cell? ⟨bx, 1, none⟩ = some b) (h2 : W.cell? ⟨bx, 2, none⟩ = some c) => linesOf_in (.slice ac nc cc) bs (W := W) (w := w) (by have h := HRD.out.below hb; rw [HNC.out] at h ⊢; exact h) (sh_below (sh_below HSH.out hbel.out) hb) HSZ.out.1 h0 h1 h2
        have HMA : Hid _ := fun (W : World) (hb : Below wr.heap.size wr W) (v : Value) (hr : Reads W v (lines bs).length ((lines bs).map S)) => made_ref c hcc v (lines bs) W hr (by have := lines_length bs; have := HSZ.out.1; omega) (fun s hs => Nat.le_trans (lines_short hs HSZ.out.1) (by omega)) (sh_below (sh_below HSH.out hbel.out) hb) ((HK.out.below hbel.out).below hb)
        have HSZ2 : Hid ((doOut c bs).length ≤ 4000 ∧ whole (doOut c bs)) := (show _ ∧ _ by
          have := doAll_whole [c] bs (by simp [hcc]) HSZ.out.2 HSZ.out.1
          exact ⟨this.2, this.1⟩)
        have HBO : Hid _ := fun (W : World) (v : Value) (hr : Reads W v (made c (lines bs)).length ((made c (lines bs)).map S)) => bytesOf v (made c (lines bs)) W hr (by have := HSZ2.out.1; unfold doOut at this; omega)
        have HB3 : Hid (doOut c bs = doAll (x.cs.take (k + 1)) gb) := (show _ = _ by rw [doAll_take hc, HBS.out])
        obtain ⟨ckk, hckk⟩ : ∃ z, z = c.kind := ⟨_, rfl⟩
        obtain ⟨cww, hcww⟩ : ∃ z : ByteArray, z = ⟨c.word.toArray⟩ := ⟨_, rfl⟩
        obtain ⟨cnn, hcnn⟩ : ∃ z, z = c.n := ⟨_, rfl⟩
        have hcv : c.v = .agg #[.int .i64 ckk, .string cww, .int .i64 cnn] := by rw [hckk, hcww, hcnn]; rfl
        rw [hcv] at HMA
        rw [← hckk] at hc0
        rw [← hcww] at hc1
        rw [← hcnn] at hc2
        clear hc hcc hckk hcww hcnn hcv HBS HRD HSZ
        go_upto_region 7 with fail
        have hbx : Below wr.heap.size wr (wr.alloc (.cells #[.int .i64 ckk, .string cww, .int .i64 cnn] 59)) := boxr_of
        have HBX : Hid (Below wr.heap.size wr (wr.alloc (.cells #[.int .i64 ckk, .string cww, .int .i64 cnn] 59)).drew) := hbx.drew
        obtain ⟨x0, x1, x2⟩ := lbox_cells (w := wr) (a := .int .i64 ckk) (b := .string cww) (c := .int .i64 cnn) (t := 59) (Below.refl _ _).drew
        clear hbx hc0 hc1 hc2
        go_region_with (first
          | (go_at_call 59; refine (HLO.out _ HBX.out wr.heap.size _ _ _ x0 x1 x2).mono ?_; rintro e w4 ⟨r4, rfl, R4, B4, y0, y1, y2⟩)
          | (go_at_call 58; refine (HMA.out w4 (HBX.out.trans (B4.out.mono HBX.out.size)) r4 R4.out).mono ?_; rintro e w5 ⟨r5, rfl, R5, B5⟩)
          | (go_at_call 57; refine (HBO.out w5 r5 R5).mono ?_; rintro e w6 ⟨r6, rfl, R6, B6⟩))
        all_goals
          have t5 := B4.out.trans (B5.mono B4.out.size)
          have t6 := t5.trans (B6.mono t5.size)
          have HB33 : Hid (Below w.heap.size w w6) := hbel.out.trans ((HBX.out.trans (t6.mono HBX.out.size)).mono hbel.out.size)
          obtain ⟨a3, c3, rfl, _, _⟩ := R6.shape
          obtain ⟨n3, hn3⟩ : ∃ n3, n3 = (doOut c bs).length := ⟨_, rfl⟩
          have HN3 : Hid (n3 = (doOut c bs).length) := hn3
          have hrd : Reads w6 (.slice a3 (doOut c bs).length c3) (doOut c bs).length ((doOut c bs).map U) := R6
          have hv3 : (ended (made c (lines bs))).length = n3 := hn3.symm
          rw [hv3]
          rw [← hn3] at hrd
          have HR3 : Hid _ := hrd
          clear R6 B6 R5 B5 t5 t6 B4 R4 y0 y1 y2 x0 x1 x2 hn3 hrd hv3 HLO HMA HBO HBX
          go_wp2_with fail
          go_roundw
          case rel => exact ⟨k + 1, _, _, _, _, by omega, by go_num, rfl, HN3, HR3, HSZ2, HB3, HB33⟩
          case measure => simp [intOf]; omega
      · have HE : Hid (lineOf fs x = (bs, 0)) := (show _ = _ by rw [HLT.out, HBS.out, List.take_of_length_le (by have := HND.out; omega)])
        clear HLT HBS
        go_wp2_with fail
        go_ret2
        refine ⟨ac, cc, ?_, ?_, hbel.out⟩
        · rw [HE.out, ← HNC.out]; rfl
        · rw [HE.out]; have := HRD.out; rw [HNC.out] at this; exact this
  · have HR : Hid (lineOf fs x = ([], ge)) := (show _ = _ by rw [lineOf_bad (by rw [← HGE.out]; exact hg0), ← HGE.out])
    clear HRB
    go_wp2_with fail
    go_ret2
    exact gotEnd_none HR.out rfl HB2.out
end Go.Proofs.YtcllnalikeljgabGreatDoor
