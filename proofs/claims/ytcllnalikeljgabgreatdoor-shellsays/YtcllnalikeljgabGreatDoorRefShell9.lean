/- What the reference's Gathered does. -/
import Derived.Test.YtcllnalikeljgabGreatDoorRefShell1
import Derived.Test.YtcllnalikeljgabGreatDoorFnsA
import Derived.Test.YtcllnalikeljgabGreatDoorPlainA
import Derived.Test.YtcllnalikeljgabGreatDoorOfA
import Derived.Laws.AppendOwn
namespace Go.Proofs.YtcllnalikeljgabGreatDoor
open Go.RowKit Go.Gs
set_option linter.unusedVariables false

theorem infoU8r : (Tryz.prog.info? 5).map (fun i => (i.zero, i.size, i.bytes)) = some (some (.int .u8 0), 1, 1) := by kernel_rfl
theorem U_one9 {bs : List UInt8} : ∀ u ∈ bs.map U, u.oneCell' = true := by
  intro u hu
  obtain ⟨x, _, rfl⟩ := List.mem_map.1 hu
  rfl
theorem drop_at9 {α : Type} {ls : List α} {k : Nat} {x : α} (h : ls[k]? = some x) : ls.drop k = x :: ls.drop (k + 1) := by
  obtain ⟨hk, e⟩ := List.getElem?_eq_some_iff.1 h
  rw [← e, ← List.drop_eq_getElem_cons hk]
theorem file_small {fs : List SFile} (h : ∀ f ∈ fs, f.b.length ≤ 4000) (n : List UInt8) : (fileOf fs n).length ≤ 4000 := by
  unfold fileOf
  cases hf : fs.find? (fun f => f.name == n) with
  | none => simp
  | some f => exact h f (List.mem_of_find?_eq_some hf)
/-- What Gathered ends with. -/
def GotEnd (w : World) (res : List UInt8 × Int) (e : Ending) (w' : World) : Prop := ∃ ar cr, e = .returned (.tuple #[.slice ar res.1.length cr, .int .i64 res.2]) ∧ Reads w' (.slice ar res.1.length cr) res.1.length (res.1.map U) ∧ Below w.heap.size w w'
theorem gotEnd_none {w w' : World} {res : List UInt8 × Int} {e : Ending} {r : Int} (h : res = ([], r)) (he : e = .returned (.tuple #[.slice none 0 0, .int .i64 r])) (hb : Below w.heap.size w w') : GotEnd w res e w' := by
  subst h
  exact ⟨none, 0, he, ⟨rfl, none, 0, rfl, Nat.le_refl _, by simp [maxLen], fun h => absurd rfl h⟩, hb⟩

set_option maxRecDepth 100000 in
set_option maxHeartbeats 8000000 in
theorem gathered_ref (ao af : Option Addr) (cap cf : Nat) (fs : List SFile) (fr : List (List UInt8)) (w : World) (hf : RFiles w (.slice ao fs.length cap) fs) (h4 : ∀ f ∈ fs, f.b.length ≤ 4000) (hfr : Reads w (.slice af fr.length cf) fr.length (fr.map S)) (hsh : w.ShapedOpen Tryz.prog) :
    Calls Tryz.prog 23 #[.slice ao fs.length cap, .slice af fr.length cf] w fun e w' => GotEnd w (gather fs fr) e w' := by
  have HF : Hid (RFiles w (.slice ao fs.length cap) fs) := hf
  have HFR : Hid (Reads w (.slice af fr.length cf) fr.length (fr.map S)) := hfr
  have HSH : Hid _ := hsh
  have H4 : Hid _ := h4
  have hfl := reads_le' hfr
  obtain ⟨N, hN⟩ : ∃ N, N = fs.length := ⟨_, rfl⟩
  have HN : Hid (N = fs.length) := hN
  obtain ⟨L, hL⟩ : ∃ L, L = fr.length := ⟨_, rfl⟩
  have HL : Hid (L = fr.length) := hL
  rw [← hN, ← hL]
  rw [← hL] at hfl HFR
  clear hf hfr hN hL hsh h4
  by_cases hl4 : 4 < L
  · have HR : Hid (gather fs fr = ([], 2)) := (show _ = _ by unfold gather; rw [if_pos (by have := HL.out; omega)])
    have hq : (4 : Int) < L := by omega
    go_enter Tryz.func23, Tryz.ntmps23
    go_wp2_with fail
    go_ret2
    exact gotEnd_none HR.out rfl (Below.refl _ _)
  · have hq : ¬ (4 : Int) < L := by omega
    have HGA : Hid (gather fs fr = gatherL fs fr []) := (show _ = _ by unfold gather; rw [if_neg (by have := HL.out; omega)])
    obtain ⟨i0, hi, hi0, hi1, hi2⟩ := info_parts infoU8r
    go_enter Tryz.func23, Tryz.ntmps23
    go_wp2_with fail
    go_loopw [6, 14] (fun ov i wr => ∃ k : Nat, ∃ acc : List UInt8, ∃ al nl cl, k ≤ L ∧ i = .int .i64 k ∧ ov = .slice al nl cl ∧ nl ≤ 4000 ∧ Hid (nl = acc.length) ∧ Hid (wr.ownsRow w.heap.size 5 1 (.slice al nl cl) nl (acc.map U)) ∧ Hid (gather fs fr = gatherL fs (fr.drop k) acc) ∧ Hid (Below w.heap.size w wr)) (fun _ i _ => L - (intOf i).toNat)
    case atStart => exact ⟨0, [], none, 0, 0, Nat.zero_le _, rfl, rfl, Nat.zero_le _, (show _ = _ from rfl), World.ownsRow_nil _ _ _ _, HGA, Below.refl _ _⟩
    case round =>
      obtain ⟨k, acc, al, nl, cl, hk, rfl, rfl, hn4, HNL, HOW, HG, hbel⟩ := hrel
      by_cases hlt : k < L
      · obtain ⟨s, hs⟩ : ∃ s, fr[k]? = some s := ⟨_, List.getElem?_eq_getElem (by have := HL.out; omega)⟩
        obtain ⟨bf, of, rfl, hcs⟩ := (Reads.below HFR.out hbel.out).at hs
        have HDR : Hid (fr.drop k = s :: fr.drop (k + 1)) := drop_at9 hs
        have HFO : Hid _ := fileOf_ref ao cap fs s wr (HF.out.below hbel.out)
        rw [← HN.out] at HFO
        obtain ⟨FB, hFB⟩ : ∃ FB, FB = fileOf fs s := ⟨_, rfl⟩
        have HFB : Hid (FB = fileOf fs s) := hFB
        have hF4 : FB.length ≤ 4000 := by rw [hFB]; exact file_small H4.out s
        rw [← hFB] at HFO
        generalize (⟨s.toArray⟩ : ByteArray) = sx at *
        clear hs hFB
        go_wp2_with fail
        refine Calls.mono HFO.out ?_
        rintro e w2 ⟨a2, c2, rfl, hr2, hb2⟩
        have HB2 : Hid (Below w.heap.size w w2) := hbel.out.trans (hb2.mono hbel.out.size)
        have HO2 : Hid (w2.ownsRow w.heap.size 5 1 (.slice al nl cl) nl (acc.map U)) := owns_below HOW.out hb2
        have HWH : Hid _ := whole_is (.slice a2 FB.length c2) FB w2 hr2 (sh_below HSH.out HB2.out) (by omega)
        have hE4' : (ended (lines FB)).length ≤ 4001 := by have := ended_lines FB; omega
        have HE4' : Hid _ := hE4'
        clear hE4'
        generalize FB.length = FL at *
        clear hr2 hb2 HFO HOW hcs
        go_wp2_with fail
        refine Calls.mono HWH.out ?_
        rintro e w3 ⟨r3, rfl, hr3, hb3⟩
        have HB3 : Hid (Below w.heap.size w w3) := HB2.out.trans (hb3.mono HB2.out.size)
        have HO3 : Hid (w3.ownsRow w.heap.size 5 1 (.slice al nl cl) nl (acc.map U)) := owns_below HO2.out hb3
        have HW3 : Hid (w.heap.size ≤ w3.heap.size) := HB3.out.size
        obtain ⟨EB, hEB⟩ : ∃ EB, EB = ended (lines FB) := ⟨_, rfl⟩
        have HEB : Hid (EB = ended (lines FB)) := hEB
        have hE4 : EB.length ≤ 4001 := by rw [hEB]; exact HE4'.out
        rw [← hEB] at hr3
        obtain ⟨a3, c3, rfl, _, _⟩ := hr3.shape
        obtain ⟨EN, hEN⟩ : ∃ EN, EN = EB.length := ⟨_, rfl⟩
        have HEN : Hid (EN = EB.length) := hEN
        rw [← hEN] at hr3 hE4 ⊢
        have HRR : Hid (Reads w3 (.slice a3 EN c3) EN (EB.map U)) := hr3
        have HGS : Hid (gather fs fr = if 4000 < (acc ++ EB).length then ([], 2) else gatherL fs (fr.drop (k + 1)) (acc ++ EB)) := (show _ = _ by rw [HG.out, HDR.out, gatherL, HEB.out, HFB.out])
        clear hr3 hb3 HWH HO2 HB2 hEB hEN HG
        cases a3 with
        | none =>
          have hE0 : EN = 0 := by
            obtain ⟨_, ao', cap', e, _, _, h4⟩ := HRR.out
            rcases Nat.eq_zero_or_pos EN with h | h
            · exact h
            · obtain ⟨b, off, e2, _⟩ := h4 (by omega)
              injection e with e1
              rw [← e1] at e2
              cases e2
          subst hE0
          have hEBn : EB = [] := List.eq_nil_of_length_eq_zero HEN.out.symm
          have HO9 : Hid (w3.ownsRow w.heap.size 5 1 (.slice al nl cl) nl ((acc ++ EB).map U)) := (show World.ownsRow _ _ _ _ _ _ _ by rw [hEBn, List.append_nil]; exact HO3.out)
          have HB9 : Hid (Below w.heap.size w w3) := HB3
          have HG2 : Hid (gather fs fr = gatherL fs (fr.drop (k + 1)) (acc ++ EB)) := (show _ = _ by rw [HGS.out, if_neg (by rw [List.length_append, ← HNL.out, ← HEN.out]; omega)])
          have hqq : ¬ (4000 : Int) < (nl : Int) := by omega
          clear HRR HGS hEBn
          go_wp2_with (at_builtin; refine append_nil_own rfl (.tmp 18) (.tmp 22) 24 rfl w.heap.size 5 i0 1 c3 Tryz.underlying24 hi _ nl (acc.map U) rfl HO3.out rfl ?_)
          go_roundw
          case rel => exact ⟨k + 1, acc ++ EB, _, _, _, by omega, by go_num, rfl, by omega, (show _ = _ by rw [List.length_append, ← HNL.out, ← HEN.out]; rfl), HO9, HG2, HB9⟩
          case measure => simp [intOf]; omega
        | some a =>
          have hcell : ∀ j u, (EB.map U)[j]? = some u → w3.cell? (a.add j) = some u := by
            intro j u hj
            obtain ⟨hll, ao', cap', e, _, _, h4⟩ := HRR.out
            have hj' := (List.getElem?_eq_some_iff.1 hj).1
            obtain ⟨b, off, e2, hc⟩ := h4 (by omega)
            injection e with e1
            rw [← e1] at e2
            injection e2 with e2
            subst e2
            rw [addF]
            exact hc j u hj
          have HC : Hid _ := hcell
          clear hcell HRR
          go_wp2_with (at_builtin; refine wpList_append_own _ rfl (.tmp 18) (.tmp 22) 24 rfl w.heap.size 5 i0 (.int .u8 0) 1 1 Tryz.underlying24 hi hi0 hi1 hi2 rfl (by decide) _ nl (acc.map U) rfl HO3.out a EN c3 (EB.map U) rfl ?c0 ?c1 ?c2 ?c3 ?c4 ?c5 ?_)
          case c0 => rw [List.length_map, ← HEN.out, Nat.mul_one]
          case c1 => exact HC.out
          case c2 => exact U_one9
          case c3 => unfold maxLen; omega
          case c4 => omega
          case c5 => exact HW3.out
          · intro v' w9 hown hgrow _
            obtain ⟨a9, c9, rfl⟩ : ∃ a9 c9, v' = .slice a9 (nl + EN) c9 := by
              rcases hown.2 with ⟨rfl, h0⟩ | ⟨g', c', cur', rfl, _⟩
              · exact ⟨none, 0, by rw [h0]⟩
              · exact ⟨_, c', rfl⟩
            have HO9 : Hid (w9.ownsRow w.heap.size 5 1 (.slice a9 (nl + EN) c9) (nl + EN) ((acc ++ EB).map U)) := (show World.ownsRow _ _ _ _ _ _ _ by rw [List.map_append]; exact hown)
            have HB9 : Hid (Below w.heap.size w w9) := HB3.out.grown hgrow HW3.out (fun q hq => (HO3.out.lt q hq).1)
            clear hown hgrow HO3 HC
            by_cases hbig : 4000 < nl + EN
            · have HR : Hid (gather fs fr = ([], 2)) := (show _ = _ by rw [HGS.out, if_pos (by rw [List.length_append, ← HNL.out, ← HEN.out]; omega)])
              have hqq : (4000 : Int) < (nl : Int) + (EN : Int) := by omega
              go_wp2_with fail
              go_ret2
              exact gotEnd_none HR.out rfl HB9.out
            · have HG2 : Hid (gather fs fr = gatherL fs (fr.drop (k + 1)) (acc ++ EB)) := (show _ = _ by rw [HGS.out, if_neg (by rw [List.length_append, ← HNL.out, ← HEN.out]; omega)])
              have hqq : ¬ (4000 : Int) < (nl : Int) + (EN : Int) := by omega
              go_wp2_with fail
              go_roundw
              case rel => exact ⟨k + 1, acc ++ EB, _, _, _, by omega, by go_num, rfl, by omega, (show _ = _ by rw [List.length_append, ← HNL.out, ← HEN.out]), HO9, HG2, HB9⟩
              case measure => simp [intOf]; omega
      · have HE : Hid (gather fs fr = (acc, 0)) := (show _ = _ by rw [HG.out, List.drop_of_length_le (by have := HL.out; omega)]; rfl)
        have HRR : Hid _ := Reads.of_owns HOW.out
        go_wp2_with fail
        go_ret2
        refine ⟨al, cl, ?_, ?_, hbel.out⟩
        · rw [HE.out, ← HNL.out]; rfl
        · rw [HE.out]; have := HRR.out; rw [HNL.out] at this; exact this
end Go.Proofs.YtcllnalikeljgabGreatDoor
