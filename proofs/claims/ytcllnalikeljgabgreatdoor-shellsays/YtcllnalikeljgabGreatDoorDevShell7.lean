/- What Put does. -/
import Derived.Test.YtcllnalikeljgabGreatDoorDevShellA
namespace Go.Proofs.YtcllnalikeljgabGreatDoor
open Go.RowKit Go.Gs
set_option linter.unusedVariables false

/-- Put. -/
def putT (fs : List SFile) (n b : List UInt8) : List SFile × Int := if fchk fs = 0 then putS fs n b else ([], fchk fs)
theorem insR_at {rows : List FRow} {p : Nat} {r : FRow} (hp : p ≤ rows.length) : (insR rows p r)[p]? = some r := by
  unfold insR
  rw [List.getElem?_append_right (by rw [List.length_take]; omega), List.length_take, Nat.min_eq_left hp, Nat.sub_self]
  rfl
theorem insR_set {rows : List FRow} {p : Nat} {r r' : FRow} (hp : p ≤ rows.length) : ((insR rows p r).set p r').map (·.1) = (rows.map (·.1)).take p ++ r'.1 :: (rows.map (·.1)).drop p := by
  unfold insR
  rw [List.set_append_right _ _ (by rw [List.length_take]; omega), List.length_take, Nat.min_eq_left hp, Nat.sub_self, List.set_cons_zero]
  simp [List.map_take, List.map_drop]
theorem putEnd_fo {w w' : World} {B : Nat} {ty : TypeId} {res : List SFile × Int} {v : Value} {rows : List FRow} {e : Ending} {fs : List SFile} (h : FO w' B ty v rows) (hm : rows.map (·.1) = fs) (hr : res = (fs, 0)) (he : e = .returned (.tuple #[v, .int .i64 0])) (hb : Below w.heap.size w w') : PutEnd w res e w' := by
  subst hr
  have hf := h.files
  rw [hm] at hf
  obtain ⟨ao, cap, hv, _⟩ := hf.shape
  rw [hv] at he hf
  exact ⟨ao, cap, he, hf, hb⟩

set_option maxRecDepth 100000 in
set_option maxHeartbeats 8000000 in
theorem put_is (ao ab : Option Addr) (cap cb : Nat) (fs : List SFile) (n b : List UInt8) (w : World) (hf : RFiles w (.slice ao fs.length cap) fs) (hfit : ∀ f ∈ fs, FitsF f) (hb : Reads w (.slice ab b.length cb) b.length (b.map U)) (hnl : n.length ≤ 9223372036854775807) :
    Calls Tryz.prog 9 #[.slice ao fs.length cap, .string ⟨n.toArray⟩, .slice ab b.length cb] w fun e w' => PutEnd w (putT fs n b) e w' := by
  have HC : Hid _ := fcheck_is ao cap fs w hf hfit
  have HF : Hid (RFiles w (.slice ao fs.length cap) fs) := hf
  have HBR : Hid (Reads w (.slice ab b.length cb) b.length (b.map U)) := hb
  have hbl := reads_le' hb
  obtain ⟨N, hN⟩ : ∃ N, N = fs.length := ⟨_, rfl⟩
  have HN : Hid (N = fs.length) := hN
  obtain ⟨L, hL⟩ : ∃ L, L = b.length := ⟨_, rfl⟩
  have HL : Hid (L = b.length) := hL
  obtain ⟨iw, hiw⟩ : ∃ d, d = isWord n := ⟨_, rfl⟩
  have HIW : Hid (iw = isWord n) := hiw
  have HW : Hid _ := fun (W : World) => wordb_is n W hnl iw hiw.symm
  obtain ⟨nx, hnx⟩ : ∃ nx : ByteArray, nx = ⟨n.toArray⟩ := ⟨_, rfl⟩
  have HNX : Hid (nx = ⟨n.toArray⟩) := hnx
  obtain ⟨ck, hck⟩ : ∃ ck, ck = fchk fs := ⟨_, rfl⟩
  have HCK : Hid (ck = fchk fs) := hck
  rw [← hN, ← hck] at HC
  rw [← hnx] at HW
  rw [← hN, ← hnx, ← hL]
  rw [← hL] at hbl
  clear hf hfit hb hnl hN hnx hck hL hiw
  by_cases h0 : ck = 0
  · subst h0
    have HPT : Hid (putT fs n b = putS fs n b) := (show _ = _ by unfold putT; rw [if_pos HCK.out.symm])
    obtain ⟨hl12, hri⟩ := fchk_zero HCK.out.symm
    have HRI : Hid _ := hri
    have HFI : Hid _ := fun (W : World) (hb : Below w.heap.size w W) => find_is ao cap fs n W (HF.out.below hb) hri hl12
    have HCL : Hid _ := fun (W : World) (hb : Below w.heap.size w W) => cloned_is ao cap fs W (HF.out.below hb) hl12 (fun f hf => (from_all hri f hf).2)
    have HBC : Hid _ := fun (W : World) (hb : Below w.heap.size w W) (h4 : b.length ≤ 100000) => bclone_is ab cb b W (HBR.out.below hb) h4
    rw [← HN.out, ← HNX.out] at HFI
    rw [← HN.out] at HCL
    rw [← HL.out] at HBC
    rw [← HN.out] at hl12
    have hpl := pos_le fs n
    obtain ⟨p, hp⟩ : ∃ p, p = posOf fs n := ⟨_, rfl⟩
    have HP : Hid (p = posOf fs n) := hp
    obtain ⟨t, ht⟩ : ∃ t, t = thereOf fs n := ⟨_, rfl⟩
    have HT : Hid (t = thereOf fs n) := ht
    rw [← hp, ← ht] at HFI
    rw [← hp, ← HN.out] at hpl
    clear hri hp ht
    cases iw with
    | false =>
      have HR : Hid (putT fs n b = ([], 1)) := (show _ = _ by rw [HPT.out]; exact putS_word HIW.out.symm)
      clear HFI HCL HBC
      go_enter Tryz.func9, Tryz.ntmps9
      go_wp2_with fail
      refine Calls.mono HC.out ?_
      rintro e w1 ⟨rfl, hb1⟩
      have HB1 : Hid (Below w.heap.size w w1) := hb1
      clear hb1 HC
      go_wp2_with fail
      refine Calls.mono (HW.out w1) ?_
      rintro e w2 ⟨rfl, hb2⟩
      have HB2 : Hid (Below w.heap.size w w2) := HB1.out.trans (hb2.mono HB1.out.size)
      clear hb2 HW HB1
      go_wp2_with fail
      go_ret2
      exact putEnd_err HR.out rfl HB2.out
    | true =>
      go_enter Tryz.func9, Tryz.ntmps9
      go_wp2_with fail
      refine Calls.mono HC.out ?_
      rintro e w1 ⟨rfl, hb1⟩
      have HB1 : Hid (Below w.heap.size w w1) := hb1
      clear hb1 HC
      go_wp2_with fail
      refine Calls.mono (HW.out w1) ?_
      rintro e w2 ⟨rfl, hb2⟩
      have HB2 : Hid (Below w.heap.size w w2) := HB1.out.trans (hb2.mono HB1.out.size)
      clear hb2 HW HB1
      go_wp2_with fail
      have hQ := HFI.out w2 HB2.out
      refine Calls.mono hQ ?_
      rintro e w3 ⟨rfl, hb3⟩
      have HB3 : Hid (Below w.heap.size w w3) := HB2.out.trans (hb3.mono HB2.out.size)
      clear hb3 hQ HFI HB2
      by_cases hl4 : 4000 < L
      · have HR : Hid (putT fs n b = ([], 2)) := (show _ = _ by rw [HPT.out]; exact putS_long HIW.out.symm (by have := HL.out; omega))
        have hq : (4000 : Int) < L := by omega
        clear HCL HBC
        go_wp2_with fail
        go_ret2
        exact putEnd_err HR.out rfl HB3.out
      · have hq : ¬ (4000 : Int) < L := by omega
        cases t with
        | true =>
          obtain ⟨f, hfk, hfn⟩ := there_get HT.out.symm
          have HPF : Hid (putT fs n b = (fs.set p ⟨n, b⟩, 0)) := (show _ = _ by
            rw [HPT.out, putS_ok HIW.out.symm (by have := HL.out; omega) (by rw [put_len_there b HRI.out HT.out.symm, ← HN.out]; omega), put_there b HRI.out HT.out.symm, HP.out])
          rw [← HP.out] at hfk
          have hpN : p < N := by have := (List.getElem?_eq_some_iff.1 hfk).1; rw [HN.out]; exact this
          have HFK : Hid (fs[p]? = some f) := hfk
          have HFN : Hid (f.name = n) := hfn
          clear hfk hfn
          go_wp2_with fail
          have hQ := HCL.out w3 HB3.out
          refine Calls.mono hQ ?_
          rintro e w4 ⟨v', rows, rfl, hfo, hmap, hb4⟩
          have HB4 : Hid (Below w.heap.size w w4) := HB3.out.trans (hb4.mono HB3.out.size)
          have HLR : rows.length = N := by rw [HN.out, ← hmap, List.length_map]
          obtain ⟨g, cg, hv, hBg⟩ := hfo.form (by omega)
          rw [HLR] at hv
          subst hv
          have HFO : Hid _ := hfo
          have HM : Hid _ := hmap
          have HG : Hid (w.heap.size ≤ g) := Nat.le_trans HB3.out.size hBg
          clear hfo hmap hb4 hQ HCL HB3 hBg
          go_wp2_with fail
          have hQ := HBC.out w4 HB4.out (by have := HL.out; omega)
          refine Calls.mono hQ ?_
          rintro e w5 ⟨ar, cr, rfl, hrd5, hnew, hb5⟩
          have HB5 : Hid (Below w.heap.size w w5) := HB4.out.trans (hb5.mono HB4.out.size)
          have HFO5 : Hid (FO w5 w3.heap.size 45 (.slice (some ⟨g, 0, none⟩) N cg) rows) := HFO.out.below hb5
          obtain ⟨r, hr⟩ : ∃ r, rows[p]? = some r := ⟨_, List.getElem?_eq_getElem (by omega)⟩
          have hrf : r.1 = f := by
            have h1 := HFK.out
            rw [← HM.out, List.getElem?_map, hr] at h1
            simpa using h1
          obtain ⟨hd0, hd1, hdz⟩ := HFO5.out.cells2 hr
          have hgl := (HFO.out.own.lt g rfl).2
          have HGO : Hid (GoodO w5 (some g) (⟨n, b⟩, ar, L, cr)) := ⟨HL.out, by show Reads w5 (.slice ar L cr) _ _; rw [HL.out] at hrd5 ⊢; exact hrd5, fun _ a ha he => by
            have := hnew a ha
            injection he with he
            omega⟩
          have HFS : Hid _ := HFO5.out.set hr (r' := (⟨n, b⟩, ar, L, cr)) (by show n = r.1.name; rw [hrf]; exact HFN.out.symm) HGO.out
          have HMS : Hid ((rows.set p (⟨n, b⟩, ar, L, cr)).map (·.1) = fs.set p ⟨n, b⟩) := (show _ = _ by rw [List.map_set, HM.out])
          clear hQ hrd5 hnew hb5 HBC hr hrf hgl hd0 HLR
          go_wp2_with fail
          go_ret2
          exact putEnd_fo HFS.out HMS.out HPF.out rfl (HB5.out.setCell (p := ⟨g, p * 2 + 1, none⟩) HG.out _)
        | false =>
          by_cases hN12 : N = 12
          · have HR : Hid (putT fs n b = ([], 2)) := (show _ = _ by rw [HPT.out]; exact putS_many HIW.out.symm (by have := HL.out; omega) (by rw [put_len_not b HRI.out HT.out.symm, ← HN.out]; omega))
            subst hN12
            clear HCL HBC
            go_wp2_with fail
            go_ret2
            exact putEnd_err HR.out rfl HB3.out
          · have hqN : ¬ (N : Int) = 12 := by omega
            have hdd : (decide ((4000 : Int) < (L : Int)) || ((N : Int) == 12)) = false := by simp [hq, hqN]
            have HPF : Hid (putT fs n b = (fs.take p ++ ⟨n, b⟩ :: fs.drop p, 0)) := (show _ = _ by
              rw [HPT.out, putS_ok HIW.out.symm (by have := HL.out; omega) (by rw [put_len_not b HRI.out HT.out.symm, ← HN.out]; omega), put_not b HRI.out HT.out.symm, HP.out])
            go_wp2_with fail
            have hQ := HCL.out w3 HB3.out
            refine Calls.mono hQ ?_
            rintro e w4 ⟨v', rows, rfl, hfo, hmap, hb4⟩
            have HB4 : Hid (Below w.heap.size w w4) := HB3.out.trans (hb4.mono HB3.out.size)
            have HLR : rows.length = N := by rw [HN.out, ← hmap, List.length_map]
            obtain ⟨av, cv, hv, _, _⟩ := hfo.shape
            rw [HLR] at hv
            subst hv
            have HFO : Hid _ := hfo
            have HM : Hid _ := hmap
            have HS34 : Hid (w3.heap.size ≤ w4.heap.size) := hb4.size
            have HW3 : Hid (w.heap.size ≤ w3.heap.size) := HB3.out.size
            have HIN : Hid _ := fun (W : World) (hFW : FO W w3.heap.size 45 (.slice av N cv) rows) => insert_is (.slice av N cv) rows p (⟨n, []⟩, none, 0, 0) w4.heap.size w3.heap.size W hFW (by omega) (by omega)
            clear hfo hmap hb4 hQ HCL HB3
            go_wp2_with fail
            have hb41 : Below w4.heap.size w4 (w4.alloc (.cells #[.string nx, .slice none 0 0] 45)) := boxr_of
            have hQ := HIN.out _ (HFO.out.below hb41) (by simp; exact Nat.le_succ_of_le HS34.out) (fun e => by
              have := (HFO.out.own.lt _ e).2
              omega) (by rw [HNX.out]; exact heap_alloc_new w4 _) (good_empty n)
            refine Calls.mono hQ ?_
            rintro e w5 ⟨v5, rfl, hfo5, hb5⟩
            have HB5 : Hid (Below w.heap.size w w5) := (HB4.out.trans (hb41.mono HB4.out.size)).trans (hb5.mono HW3.out)
            have hil := insR_length rows p ((⟨n, []⟩, none, 0, 0) : FRow) (by omega)
            obtain ⟨g, cg, hv, hBg⟩ := hfo5.form (by omega)
            rw [hil, HLR] at hv
            subst hv
            have HFO5 : Hid _ := hfo5
            have HG : Hid (w.heap.size ≤ g) := Nat.le_trans HW3.out hBg
            have HLR' : Hid (rows.length = N) := HLR
            clear hQ hb5 hfo5 hb41 HIN HFO hil hBg HLR
            go_wp2_with fail
            have hQ := HBC.out w5 HB5.out (by have := HL.out; omega)
            refine Calls.mono hQ ?_
            rintro e w6 ⟨ar, cr, rfl, hrd6, hnew, hb6⟩
            have HB6 : Hid (Below w.heap.size w w6) := HB5.out.trans (hb6.mono HB5.out.size)
            have HFO6 : Hid (FO w6 w3.heap.size 45 (.slice (some ⟨g, 0, none⟩) (N + 1) cg) (insR rows p (⟨n, []⟩, none, 0, 0))) := HFO5.out.below hb6
            have hr := insR_at (rows := rows) (p := p) (r := (⟨n, []⟩, none, 0, 0)) (by have := HLR'.out; omega)
            obtain ⟨hd0, hd1, hdz⟩ := HFO6.out.cells2 hr
            have hgl := (HFO5.out.own.lt g rfl).2
            have HGO : Hid (GoodO w6 (some g) (⟨n, b⟩, ar, L, cr)) := ⟨HL.out, by show Reads w6 (.slice ar L cr) _ _; rw [HL.out] at hrd6 ⊢; exact hrd6, fun _ a ha he => by
              have := hnew a ha
              injection he with he
              omega⟩
            have HFS : Hid _ := HFO6.out.set hr (r' := (⟨n, b⟩, ar, L, cr)) rfl HGO.out
            have HMS : Hid (((insR rows p (⟨n, []⟩, none, 0, 0)).set p (⟨n, b⟩, ar, L, cr)).map (·.1) = fs.take p ++ ⟨n, b⟩ :: fs.drop p) := (show _ = _ by rw [insR_set (by have := HLR'.out; omega), HM.out])
            clear hQ hrd6 hnew hb6 HBC hr hgl hd0
            go_wp2_with fail
            go_ret2
            exact putEnd_fo HFS.out HMS.out HPF.out rfl (HB6.out.setCell (p := ⟨g, p * 2 + 1, none⟩) HG.out _)
  · have HR : Hid (putT fs n b = ([], ck)) := (show _ = _ by unfold putT; rw [← HCK.out, if_neg h0])
    clear HW
    go_enter Tryz.func9, Tryz.ntmps9
    go_wp2_with fail
    refine Calls.mono HC.out ?_
    rintro e w1 ⟨rfl, hb1⟩
    have HB1 : Hid (Below w.heap.size w w1) := hb1
    clear hb1 HC
    go_wp2_with fail
    go_ret2
    exact putEnd_err HR.out rfl HB1.out
end Go.Proofs.YtcllnalikeljgabGreatDoor
