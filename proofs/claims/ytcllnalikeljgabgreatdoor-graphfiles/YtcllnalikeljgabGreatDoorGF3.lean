/- The law GraphFiles, walked, over its closed fact. -/
import Derived.Test.YtcllnalikeljgabGreatDoorGF1
import Derived.Test.YtcllnalikeljgabGreatDoorPlainB
import Derived.Test.YtcllnalikeljgabGreatDoorFnsB
import Derived.Test.YtcllnalikeljgabGreatDoorFEq
import Derived.OwnWalk
namespace Go.Proofs.YtcllnalikeljgabGreatDoor
open Go.RowKit Go.Gs
set_option linter.unusedVariables false

theorem cell2G {w : World} {p : Nat} {a b : Value} {t : TypeId} (h : w.heap[p]? = some (.cells #[a, b] t (0, 0))) : w.cell? ⟨p, 0 + 0, none⟩ = some a ∧ w.cell? ⟨p, 0 + 1, none⟩ = some b := by
  constructor
  · simp [World.cell?, h]
  · simp [World.cell?, h]
theorem owns_formG {w : World} {B : Nat} {e : TypeId} {size : Nat} {v : Value} {n : Nat} {xs : List Value} (h : w.ownsRow B e size v n xs) (hn : n ≠ 0) : ∃ g cap, v = .slice (some ⟨g, 0, none⟩) n cap := by
  rcases h.2 with ⟨_, h0⟩ | ⟨g, cap, cur, rfl, _⟩
  · exact absurd h0 hn
  · exact ⟨g, cap, rfl⟩
theorem own_ne {w : World} {B : Nat} {e : TypeId} {v : Value} {rows : List FRow} (h : FO w B e v rows) {k : Nat} (hk : k < B ∨ w.heap.size ≤ k) : v.ownBlock ≠ some k := by
  intro e
  have := h.own.lt k e
  omega
theorem source_all {ns : List SNode} : ∀ n ∈ ns, n.kind = 1 → isSource ns n.file = true := fun n hn hk => List.any_eq_true.2 ⟨n, hn, decide_eq_true ⟨hk, rfl⟩⟩
theorem right_fitsG {fs : List SFile} (h : fchk fs = 0) : ∀ f ∈ fs, FitsF f := fun f hf => word_fits (from_all (fchk_zero h).2 f hf).1

set_option maxRecDepth 100000 in
set_option maxHeartbeats 16000000 in
theorem gf_walk (ns : List SNode) (an ao : Option Addr) (capn cap : Nat) (fs : List SFile) (w : World) (hr : RNodes w (.slice an ns.length capn) ns) (hfit : ∀ n ∈ ns, FitsN n) (hf : RFiles w (.slice ao fs.length cap) fs) (hff : ∀ f ∈ fs, FitsF f) (hE : KnownE w) (hsh : w.ShapedOpen Tryz.prog)
    (hflow : ∀ W, Below w.heap.size w W → Calls Tryz.prog 33 #[] W fun e w' => e = .returned (.bool true) ∧ Below W.heap.size W w') :
    Calls Tryz.prog 7 #[.agg #[.slice an ns.length capn], .slice ao fs.length cap] w fun e w' => e = .returned (.bool true) ∧ Below w.heap.size w w' := by
  have hle := rnodes_le hr
  have hcap := rfiles_le hf
  have HEV : Hid _ := fun (W : World) (h : Below w.heap.size w W) => eval_is ns an ao capn cap fs W (hr.below h) hfit (hf.below h) hff (hE.below h)
  have HEV2 : Hid _ := fun (W : World) (h : Below w.heap.size w W) (a : Option Addr) (c : Nat) (gs : List SFile) (hg : RFiles W (.slice a gs.length c) gs) (hgf : ∀ f ∈ gs, FitsF f) => eval_is ns an a capn c gs W (hr.below h) hfit hg hgf (hE.below h)
  have HFL : Hid _ := hflow
  have HCO : Hid _ := fun (W : World) (h : Below w.heap.size w W) (bx : Nat) (n : List UInt8) (hb : W.cell? ⟨bx, 0, none⟩ = some (.string ⟨n.toArray⟩)) => containsN_is an capn bx ns n W (hr.below h) hb
  have HF : Hid (RFiles w (.slice ao fs.length cap) fs) := hf
  have HSH : Hid (w.ShapedOpen Tryz.prog) := hsh
  obtain ⟨i0, hi, hi0, hi1, hi2⟩ := info_parts infoFile
  obtain ⟨N, hN⟩ : ∃ N, N = ns.length := ⟨_, rfl⟩
  obtain ⟨NF, hNF⟩ : ∃ N, N = fs.length := ⟨_, rfl⟩
  have HNF : Hid (NF = fs.length) := hNF
  rw [← hN, ← hNF] at HEV
  rw [← hN] at HEV2 HCO hle
  rw [← hNF] at HF hcap
  rw [← hN, ← hNF]
  clear hr hfit hf hff hE hsh hflow hN hNF
  go_enter Tryz.func7, Tryz.ntmps7
  go_wp2_with fail
  have hQ := HEV.out _ (box_of (w := w) (o := .cells #[.slice an N capn] 57))
  refine Calls.mono hQ ?_
  rintro e w1 ⟨ab, cb, rfl, hrb, hb1⟩
  have hg1 := gbox_keep hb1
  have HB1 : Hid (Below w.heap.size w w1) := box_of.trans (hb1.mono (by simp))
  have HRB : Hid (Reads w1 (.slice ab (evalS ns fs).1.length cb) (evalS ns fs).1.length ((evalS ns fs).1.map U)) := hrb
  obtain ⟨ek, hek⟩ : ∃ z, z = (evalS ns fs).2 := ⟨_, rfl⟩
  have HEK : Hid (ek = (evalS ns fs).2) := hek
  obtain ⟨DL, hDL⟩ : ∃ z, z = (evalS ns fs).1.length := ⟨_, rfl⟩
  have HDL : Hid (DL = (evalS ns fs).1.length) := hDL
  rw [← hek, ← hDL]
  clear hQ hb1 hrb HEV hek hDL
  go_wp2_with fail
  have hQ := HFL.out w1 HB1.out
  refine Calls.mono hQ ?_
  rintro e w2 ⟨rfl, hb2⟩
  have hg2 := (hb2.cell (World.block_lt_of_cell? w1 _ hg1)).trans hg1
  have HB2 : Hid (Below w.heap.size w w2) := HB1.out.trans (hb2.mono HB1.out.size)
  have HRB2 : Hid (Reads w2 (.slice ab (evalS ns fs).1.length cb) (evalS ns fs).1.length ((evalS ns fs).1.map U)) := HRB.out.below hb2
  clear hQ hb2 hg1 HB1 HRB
  by_cases hek0 : ek = 0
  · subst hek0
    obtain ⟨hsame, _⟩ := few_same (q := isSource ns) source_all HEK.out.symm
    have HSAME : Hid _ := hsame
    have hfc : fchk fs = 0 := by
      by_cases h1 : gchk ns = 0
      · by_cases h2 : fchk fs = 0
        · exact h2
        · have := HEK.out; rw [evalS_files h1 h2] at this; exact absurd this.symm h2
      · have := HEK.out; rw [evalS_bad h1] at this; exact absurd this.symm h1
    have HFC : Hid (fchk fs = 0) := hfc
    have hnf12 : NF ≤ 12 := by rw [HNF.out]; exact (fchk_zero hfc).1
    clear hsame hfc
    go_wp2_with fail
    go_loopw [7, 27] (fun fv i wr => ∃ k : Nat, ∃ rows : List FRow, ∃ av nv cv, k ≤ NF ∧ i = .int .i64 k ∧ fv = .slice av nv cv ∧ nv ≤ k ∧ Hid (nv = rows.length) ∧ Hid (FO wr w2.heap.size 45 (.slice av nv cv) rows) ∧ Hid (rows.map (·.1) = fewOf (isSource ns) (fs.take k)) ∧ Hid (Below w2.heap.size w2 wr)) (fun _ i _ => NF - (intOf i).toNat)
    case atStart => exact ⟨0, [], none, 0, 0, Nat.zero_le _, rfl, rfl, Nat.le_refl _, (show _ = _ from rfl), fo_nil _ _ _, (show _ = _ by simp [fewOf]), Below.refl _ _⟩
    case round =>
      obtain ⟨k, rows, av, nv, cv, hk, rfl, rfl, hnv, HNV, HFO, HROW, hbel⟩ := hrel
      have HBW : Hid (Below w.heap.size w wr) := HB2.out.trans (hbel.out.mono HB2.out.size)
      have hgr := (hbel.out.cell (World.block_lt_of_cell? w2 _ hg2)).trans hg2
      by_cases hlt : k < NF
      · obtain ⟨f, hfk⟩ : ∃ f, fs[k]? = some f := ⟨_, List.getElem?_eq_getElem (by have := HNF.out; omega)⟩
        obtain ⟨bb, off, ab2, cb2, rfl, hc0w, hc1w, hrrw⟩ := HF.out.at hfk
        have hc0 := (HBW.out.cell (World.block_lt_of_cell? w _ hc0w)).trans hc0w
        have hc1 := (HBW.out.cell (World.block_lt_of_cell? w _ hc1w)).trans hc1w
        have HRW : Hid (Reads w (.slice ab2 f.b.length cb2) f.b.length (f.b.map U)) := hrrw
        have HFW := few_take (isSource ns) hfk
        have HFS : Hid (f.b.length ≤ 4000) := (from_all (fchk_zero HFC.out).2 f (List.mem_of_getElem? hfk)).2
        obtain ⟨fx, hfx⟩ : ∃ fx : ByteArray, fx = ⟨f.name.toArray⟩ := ⟨_, rfl⟩
        have HFX : Hid (fx = ⟨f.name.toArray⟩) := hfx
        obtain ⟨FL, hFL⟩ : ∃ FL, FL = f.b.length := ⟨_, rfl⟩
        have HFLn : Hid (FL = f.b.length) := hFL
        obtain ⟨d, hd⟩ : ∃ d, d = isSource ns f.name := ⟨_, rfl⟩
        have HD : Hid (d = isSource ns f.name) := hd
        have hbx : Below wr.heap.size wr (wr.alloc (.cells #[.string fx, .slice ab2 FL cb2] 45)) := box_of
        have HBX : Hid _ := hbx
        have HC1 : Hid _ := HCO.out (wr.alloc (.cells #[.string fx, .slice ab2 FL cb2] 45)) (HBW.out.trans (hbx.mono HBW.out.size)) wr.heap.size f.name (by rw [← hfx]; exact (pbox_cells (Below.refl _ _)).1)
        rw [← hd] at HC1 HFW
        have HFW2 : Hid _ := HFW
        rw [← hfx] at hc0
        rw [← hFL] at hc1
        have hgx := (hbx.cell (World.block_lt_of_cell? wr _ hgr)).trans hgr
        clear hfk hc0w hc1w hrrw hfx hFL hd hbx HFW
        go_wp2_with fail
        refine Calls.mono HC1.out ?_
        rintro e w3 ⟨rfl, hb3⟩
        obtain ⟨y0, y1⟩ := pbox_cells hb3
        have z1 : w3.frozen? ⟨wr.heap.size, 1, none⟩ = false := (hb3.frozen (by simp)).trans (frozen_of_row _ _ _ _ _ (heap_alloc_new wr _))
        have HX3 : Hid (Below wr.heap.size wr w3) := HBX.out.trans (hb3.mono (by simp))
        have HFO3 : Hid (FO w3 w2.heap.size 45 (.slice av nv cv) rows) := HFO.out.below HX3.out
        have HB3 : Hid (Below w2.heap.size w2 w3) := hbel.out.trans (HX3.out.mono hbel.out.size)
        clear hb3 HC1 hc0 hc1 hgx
        cases d with
        | false =>
          have HROW2 : Hid (rows.map (·.1) = fewOf (isSource ns) (fs.take (k + 1))) := (show _ = _ by rw [HFW2.out, HROW.out]; simp)
          clear HFO HROW HFW2 hgr
          go_wp2_with fail
          go_roundw
          case rel => exact ⟨k + 1, rows, _, _, _, by omega, by go_num, rfl, by omega, HNV, HFO3, HROW2, HB3⟩
          case measure => simp [intOf]; omega
        | true =>
          have hWB : Below w.heap.size w w3 := HBW.out.trans (HX3.out.mono HBW.out.size)
          have HWH : Hid _ := wholeN_is (.slice ab2 FL cb2) f.b w3 (by rw [HFLn.out]; exact HRW.out.below hWB) (sh_below HSH.out hWB) (by have := HFS.out; omega)
          clear hWB
          go_wp2_with fail
          refine Calls.mono HWH.out ?_
          rintro e w4 ⟨r4, rfl, hr4, hb4, hn4⟩
          have y04 := (hb4.cell (World.block_lt_of_cell? w3 _ y0)).trans y0
          have y14 := (hb4.cell (World.block_lt_of_cell? w3 _ y1)).trans y1
          have HFO4 : Hid (FO w4 w2.heap.size 45 (.slice av nv cv) rows) := HFO3.out.below hb4
          have HB4 : Hid (Below w2.heap.size w2 w4) := HB3.out.trans (hb4.mono HB3.out.size)
          obtain ⟨a4, c4, rfl, _, _⟩ := hr4.shape
          have HR4 : Hid (Reads w4 (.slice a4 (ended (lines f.b)).length c4) (ended (lines f.b)).length ((ended (lines f.b)).map U)) := hr4
          have HN4 : Hid (∀ a n c, Value.slice a4 (ended (lines f.b)).length c4 = .slice (some a) n c → w3.heap.size ≤ a.block) := hn4
          have z14 : w4.frozen? ⟨wr.heap.size, 1, none⟩ = false := (hb4.frozen (World.block_lt_of_cell? w3 _ y1)).trans z1
          obtain ⟨WL, hWL⟩ : ∃ WL, WL = (ended (lines f.b)).length := ⟨_, rfl⟩
          have HWL : Hid (WL = (ended (lines f.b)).length) := hWL
          rw [← hWL]
          have hown3 : (.slice av nv cv : Value).ownBlock ≠ none → True := fun _ => trivial
          have HOWN : Hid _ := fun (k : Nat) (hk : k < w2.heap.size ∨ wr.heap.size ≤ k) => own_ne HFO.out hk
          have hX4 : Below wr.heap.size wr w4 := HX3.out.trans (hb4.mono HX3.out.size)
          have HX4 : Hid _ := hX4
          have hw34 := HX3.out.size
          by_cases h4 : WL ≤ 4000
          · have q4 : decide ((WL : Int) ≤ 4000) = true := by simp; omega
            have HWF : Hid (wholeF f = ⟨f.name, ended (lines f.b)⟩) := (show _ = _ by unfold wholeF; rw [if_pos (by rw [← hWL]; exact h4)])
            have HX5 : Hid (Below wr.heap.size wr (w4.setCell ⟨wr.heap.size, 1, none⟩ (.slice a4 WL c4))) := hX4.setCell (Nat.le_refl _) _
            have HFO5 : Hid (FO (w4.setCell ⟨wr.heap.size, 1, none⟩ (.slice a4 WL c4)) w2.heap.size 45 (.slice av nv cv) rows) := HFO.out.below HX5.out
            have HB5 : Hid (Below w2.heap.size w2 (w4.setCell ⟨wr.heap.size, 1, none⟩ (.slice a4 WL c4))) := hbel.out.trans (HX5.out.mono hbel.out.size)
            have HGO : Hid (GoodO (w4.setCell ⟨wr.heap.size, 1, none⟩ (.slice a4 WL c4)) (.slice av nv cv : Value).ownBlock ((⟨f.name, ended (lines f.b)⟩, a4, WL, c4) : FRow)) := (show GoodO _ _ _ from ⟨hWL, (by rw [hWL]; exact HR4.out.setCell y14 _ slice_not_UG), fun _ a ha => HOWN.out a.block (.inr (by have ha' : a4 = some a := ha; have := HN4.out a _ _ (by rw [ha']); omega))⟩)
            have HROW2 : Hid ((rows ++ [((⟨f.name, ended (lines f.b)⟩, a4, WL, c4) : FRow)]).map (·.1) = fewOf (isSource ns) (fs.take (k + 1))) := (show _ = _ by rw [HFW2.out, List.map_append, HROW.out, HWF.out]; simp)
            clear hr4 hb4 hn4 HFO HFO3 HFO4 HROW HWH HR4 HN4 hX4 hWL hgr
            go_wp2_with (at_builtin; refine wpList_append_own_at _ rfl (.tmp 44) (.tmp 46) 22 rfl w2.heap.size 45 i0 (.agg #[.string ⟨#[]⟩, .slice none 0 0]) 2 40 Tryz.underlying22 hi hi0 hi1 hi2 rfl (by decide) _ nv (rowCells rows) rfl ?o1 ⟨w4.heap.size, 0, none⟩ 1 1 [.string fx, .slice a4 WL c4] rfl rfl ?c1 ?c2 ?c3 ?c4 ?c5 ?_)
            case o1 =>
              have h := HFO5.out.own.alloc (.cells #[.string fx, .slice a4 WL c4] 45)
              rw [← HNV.out] at h
              exact h
            case c1 =>
              intro j u hj
              have hk := heap_alloc_new (w4.setCell ⟨wr.heap.size, 1, none⟩ (.slice a4 WL c4)) (.cells #[.string fx, .slice a4 WL c4] 45)
              rw [show (w4.setCell ⟨wr.heap.size, 1, none⟩ (.slice a4 WL c4)).heap.size = w4.heap.size by simp] at hk
              rw [addF]
              match j, hj with
              | 0, hj => simp at hj; subst hj; exact (cell2G hk).1
              | 1, hj => simp at hj; subst hj; exact (cell2G hk).2
            case c2 =>
              intro u hu
              simp at hu
              rcases hu with rfl | rfl <;> rfl
            case c3 => unfold maxLen; omega
            case c4 => omega
            case c5 => have := HB5.out.size; simp at this ⊢; omega
            · intro v' w9 hown hgrow _ hloc
              obtain ⟨g, cg, rfl⟩ := owns_formG hown (by omega)
              have HFO9 : Hid (FO w9 w2.heap.size 45 (.slice (some ⟨g, 0, none⟩) (nv + 1) cg) (rows ++ [((⟨f.name, ended (lines f.b)⟩, a4, WL, c4) : FRow)])) := fo_app HFO5.out HGO.out (by rw [← HNV.out]; rw [HFX.out] at hown; exact hown) hgrow (by simpa using hloc)
              have HB9 : Hid (Below w2.heap.size w2 w9) := (HB5.out.alloc HB5.out.size _).grown hgrow (by have := HB5.out.size; simp at this ⊢; omega) (fun k hk => (HFO5.out.own.lt k hk).1)
              clear hown hgrow hloc HFO5 HB5 HGO
              go_wp2_with fail
              go_roundw
              case rel => exact ⟨k + 1, _, _, _, _, by omega, by go_num, rfl, by omega, (show _ = _ by rw [List.length_append, ← HNV.out]; rfl), HFO9, HROW2, HB9⟩
              case measure => simp [intOf]; omega
          · have q4 : decide ((WL : Int) ≤ 4000) = false := by simp; omega
            have HWF : Hid (wholeF f = f) := (show _ = _ by unfold wholeF; rw [if_neg (by rw [← hWL]; exact h4)])
            have HFO5 : Hid (FO w4 w2.heap.size 45 (.slice av nv cv) rows) := HFO4
            have HB5 : Hid (Below w2.heap.size w2 w4) := HB4
            have HGO : Hid (GoodO w4 (.slice av nv cv : Value).ownBlock ((f, ab2, FL, cb2) : FRow)) := (show GoodO _ _ _ from ⟨HFLn.out, (by rw [HFLn.out]; exact HRW.out.below (HBW.out.trans (hX4.mono HBW.out.size))), fun h0 a ha => HOWN.out a.block (.inl (by
              obtain ⟨g1, ao', cap', g2, g3, g4, g5⟩ := HRW.out
              obtain ⟨b', off', rfl, hc'⟩ := g5 h0
              injection g2 with g2 _ _
              have ha' : ab2 = some a := ha
              rw [g2] at ha'
              injection ha' with ha'
              subst ha'
              have hl0 : 0 < (f.b.map U).length := by rw [g1]; exact Nat.pos_of_ne_zero h0
              have h5 := World.block_lt_of_cell? w _ (hc' 0 _ (List.getElem?_eq_getElem hl0))
              exact Nat.lt_of_lt_of_le h5 HB2.out.size))⟩)
            have HROW2 : Hid ((rows ++ [((f, ab2, FL, cb2) : FRow)]).map (·.1) = fewOf (isSource ns) (fs.take (k + 1))) := (show _ = _ by rw [HFW2.out, List.map_append, HROW.out, HWF.out]; simp)
            clear hr4 hb4 hn4 HFO HFO3 HFO4 HROW HWH HR4 HN4 hX4 hWL hgr
            go_wp2_with (at_builtin; refine wpList_append_own_at _ rfl (.tmp 44) (.tmp 46) 22 rfl w2.heap.size 45 i0 (.agg #[.string ⟨#[]⟩, .slice none 0 0]) 2 40 Tryz.underlying22 hi hi0 hi1 hi2 rfl (by decide) _ nv (rowCells rows) rfl ?o1 ⟨w4.heap.size, 0, none⟩ 1 1 [.string fx, .slice ab2 FL cb2] rfl rfl ?c1 ?c2 ?c3 ?c4 ?c5 ?_)
            case o1 =>
              have h := HFO5.out.own.alloc (.cells #[.string fx, .slice ab2 FL cb2] 45)
              rw [← HNV.out] at h
              exact h
            case c1 =>
              intro j u hj
              have hk := heap_alloc_new w4 (.cells #[.string fx, .slice ab2 FL cb2] 45)
              rw [addF]
              match j, hj with
              | 0, hj => simp at hj; subst hj; exact (cell2G hk).1
              | 1, hj => simp at hj; subst hj; exact (cell2G hk).2
            case c2 =>
              intro u hu
              simp at hu
              rcases hu with rfl | rfl <;> rfl
            case c3 => unfold maxLen; omega
            case c4 => omega
            case c5 => have := HB5.out.size; simp at this ⊢; omega
            · intro v' w9 hown hgrow _ hloc
              obtain ⟨g, cg, rfl⟩ := owns_formG hown (by omega)
              have HFO9 : Hid (FO w9 w2.heap.size 45 (.slice (some ⟨g, 0, none⟩) (nv + 1) cg) (rows ++ [((f, ab2, FL, cb2) : FRow)])) := fo_app HFO5.out HGO.out (by rw [← HNV.out]; rw [HFX.out] at hown; exact hown) hgrow (by simpa using hloc)
              have HB9 : Hid (Below w2.heap.size w2 w9) := (HB5.out.alloc HB5.out.size _).grown hgrow (by have := HB5.out.size; simp at this ⊢; omega) (fun k hk => (HFO5.out.own.lt k hk).1)
              clear hown hgrow hloc HFO5 HB5 HGO
              go_wp2_with fail
              go_roundw
              case rel => exact ⟨k + 1, _, _, _, _, by omega, by go_num, rfl, by omega, (show _ = _ by rw [List.length_append, ← HNV.out]; rfl), HFO9, HROW2, HB9⟩
              case measure => simp [intOf]; omega
      · have hRW : rows.map (·.1) = fewOf (isSource ns) fs := by
          have e := HROW.out
          rw [List.take_of_length_le (by rw [← HNF.out]; omega)] at e
          exact e
        have hfl := HFO.out.files
        rw [hRW] at hfl
        have hnl : nv = (fewOf (isSource ns) fs).length := by rw [← hRW, List.length_map]; exact HNV.out
        have hE2 := HEV2.out wr HBW.out av cv (fewOf (isSource ns) fs) (by rw [← hnl]; exact hfl) (right_fitsG (few_right HFC.out))
        rw [HSAME.out, ← hnl] at hE2
        have HE2 : Hid _ := hE2
        have HRBr : Hid (Reads wr (.slice ab (evalS ns fs).1.length cb) (evalS ns fs).1.length ((evalS ns fs).1.map U)) := HRB2.out.below hbel.out
        clear hRW hfl hE2 HFO HROW hnl
        go_wp2_with fail
        refine Calls.mono HE2.out ?_
        rintro e w5 ⟨ac, cc, rfl, hrc, hb5⟩
        have HB5 : Hid (Below w.heap.size w w5) := HBW.out.trans (hb5.mono HBW.out.size)
        have HEQ : Hid _ := eqbyte_is ab ac cb cc (evalS ns fs).1 (evalS ns fs).1 w5 (HRBr.out.below hb5) hrc
        rw [decide_eq_true (rfl : (evalS ns fs).1 = (evalS ns fs).1), ← HDL.out] at HEQ
        rw [← HEK.out, ← HDL.out]
        clear hrc hb5 HE2 HRBr hgr
        go_wp2_with fail
        refine Calls.mono HEQ.out ?_
        rintro e w6 ⟨rfl, hb6⟩
        have HB6 : Hid (Below w.heap.size w w6) := HB5.out.trans (hb6.mono HB5.out.size)
        clear hb6 HEQ
        go_wp2_with fail
        go_ret
        exact ⟨rfl, HB6.out⟩
  · go_wp2_with fail
    have hQ := HFL.out w2 HB2.out
    refine Calls.mono hQ ?_
    rintro e w3 ⟨rfl, hb3⟩
    have HB3 : Hid (Below w.heap.size w w3) := HB2.out.trans (hb3.mono HB2.out.size)
    clear hQ hb3
    go_wp2_with fail
    go_ret
    exact ⟨rfl, HB3.out⟩
end Go.Proofs.YtcllnalikeljgabGreatDoor
