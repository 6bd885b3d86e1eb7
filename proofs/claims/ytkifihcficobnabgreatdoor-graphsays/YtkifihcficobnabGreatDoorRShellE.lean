/- What the reference's FileOf and CheckFiles do. What the reference's CheckFiles does. -/
import Derived.Test.YtkifihcficobnabGreatDoorRefWord
import Derived.ChangeAgain
import Derived.Test.YtkifihcficobnabGreatDoorFBase
namespace Go.Proofs.YtkifihcficobnabGreatDoor
open Go.RowKit Go.Gs
set_option linter.unusedVariables false

set_option maxRecDepth 100000 in
set_option maxHeartbeats 4000000 in
theorem fileOf_ref (ao : Option Addr) (cap : Nat) (fs : List SFile) (n : List UInt8) (w : World) (hf : RFiles w (.slice ao fs.length cap) fs) :
    Calls Tryz.prog 19 #[.slice ao fs.length cap, .string ⟨n.toArray⟩] w fun e w' => ∃ ab cb, e = .returned (.slice ab (fileOf fs n).length cb) ∧ Reads w' (.slice ab (fileOf fs n).length cb) (fileOf fs n).length ((fileOf fs n).map U) ∧ Below w.heap.size w w' := by
  have hle := rfiles_le hf
  have HF : Hid (RFiles w (.slice ao fs.length cap) fs) := hf
  obtain ⟨N, hN⟩ : ∃ N, N = fs.length := ⟨_, rfl⟩
  have HN : Hid (N = fs.length) := hN
  have hN1 : N ≤ 9223372036854775807 := by omega
  rw [← hN] at HF ⊢
  obtain ⟨sx, hsx⟩ : ∃ sx : ByteArray, sx = ⟨n.toArray⟩ := ⟨_, rfl⟩
  have HSX : Hid (sx = ⟨n.toArray⟩) := hsx
  rw [← hsx]
  clear hf hle hN hsx
  go_enter Tryz.func19, Tryz.ntmps19
  go_wp2_with fail
  go_loopw [9] (fun i wr => ∃ k : Nat, k ≤ N ∧ i = .int .i64 k ∧ Hid (Below w.heap.size w wr) ∧ Hid (∀ g ∈ fs.take k, g.name ≠ n)) (fun i _ => N - (intOf i).toNat)
  case atStart => exact ⟨0, Nat.zero_le _, rfl, Below.refl _ _, (show ∀ g ∈ fs.take 0, g.name ≠ n by simp)⟩
  case round =>
    obtain ⟨k, hk, rfl, hbel, hno⟩ := hrel
    by_cases hlt : k < N
    · obtain ⟨f, hfk⟩ : ∃ f, fs[k]? = some f := ⟨_, List.getElem?_eq_getElem (by have := HN.out; omega)⟩
      have HFK : Hid (fs[k]? = some f) := hfk
      obtain ⟨b, off, ab, cb, rfl, hc0, hc1, hr⟩ := (RFiles.below HF.out hbel.out).at hfk
      have HR : Hid (Reads wr (.slice ab f.b.length cb) f.b.length (f.b.map U)) := hr
      have hse := str_eq2 f.name n
      rw [← HSX.out] at hse
      by_cases hfn : f.name = n
      · have HFO : Hid (fileOf fs n = f.b) := fileOf_at hfk hfn hno.out
        have hse' : ((⟨f.name.toArray⟩ : ByteArray).toList == sx.toList) = true := by rw [hse]; simpa using hfn
        generalize (⟨f.name.toArray⟩ : ByteArray) = fx at *
        obtain ⟨L, hL⟩ : ∃ L, L = f.b.length := ⟨_, rfl⟩
        have HL : Hid (L = f.b.length) := hL
        rw [← hL] at hc1
        clear hfk hr hse hfn hno hL
        go_wp2_with fail
        go_ret
        refine ⟨ab, cb, ?_, ?_, hbel.out.alloc hbel.out.size _⟩
        · rw [HFO.out, ← HL.out]; rfl
        · rw [HFO.out]; exact Reads.below HR.out boxr_of
      · have HNo : Hid (∀ g ∈ fs.take (k + 1), g.name ≠ n) := (show ∀ g ∈ fs.take (k + 1), g.name ≠ n from by
          intro g hg
          rw [List.take_add_one, hfk] at hg
          simp only [Option.toList_some, List.mem_append, List.mem_singleton] at hg
          rcases hg with hg | rfl
          · exact hno.out g hg
          · exact hfn)
        have hse' : ((⟨f.name.toArray⟩ : ByteArray).toList == sx.toList) = false := by rw [hse]; simpa using hfn
        generalize (⟨f.name.toArray⟩ : ByteArray) = fx at *
        obtain ⟨L, hL⟩ : ∃ L, L = f.b.length := ⟨_, rfl⟩
        rw [← hL] at hc1
        clear hfk hr hse hfn hno hL
        go_wp2_with fail
        go_roundw
        case rel => exact ⟨k + 1, by omega, by go_num, hbel.out.alloc hbel.out.size _, HNo⟩
        case measure => simp [intOf]; omega
    · have HFO : Hid (fileOf fs n = []) := fileOf_no (by
        have e := hno.out
        rw [List.take_of_length_le (by have := HN.out; omega)] at e
        exact e)
      clear hno
      go_wp2_with fail
      go_ret
      refine ⟨none, 0, by rw [HFO.out]; rfl, ?_, hbel.out⟩
      rw [HFO.out]
      exact ⟨rfl, none, 0, rfl, Nat.le_refl _, by simp [maxLen], fun h => absurd rfl h⟩
end Go.Proofs.YtkifihcficobnabGreatDoor
namespace Go.Proofs.YtkifihcficobnabGreatDoor
open Go.RowKit Go.Gs
set_option linter.unusedVariables false

set_option maxRecDepth 100000 in
set_option maxHeartbeats 4000000 in
theorem checkFiles_ref (ao : Option Addr) (cap : Nat) (fs : List SFile) (w : World) (hf : RFiles w (.slice ao fs.length cap) fs) (hfit : ∀ f ∈ fs, FitsF f) :
    Calls Tryz.prog 12 #[.slice ao fs.length cap] w fun e w' => e = .returned (.int .i64 (fchk fs)) ∧ Below w.heap.size w w' := by
  have hle := rfiles_le hf
  have HF : Hid (RFiles w (.slice ao fs.length cap) fs) := hf
  have HFit : Hid _ := hfit
  obtain ⟨N, hN⟩ : ∃ N, N = fs.length := ⟨_, rfl⟩
  have HN : Hid (N = fs.length) := hN
  have hN1 : N ≤ 9223372036854775807 := by omega
  rw [← hN] at HF ⊢
  by_cases hmany : 12 < N
  · have HR : Hid (fchk fs = 2) := (show _ = _ by unfold fchk; rw [if_pos (by omega)])
    have hq : (12 : Int) < N := by omega
    clear hf hfit hle hN
    go_enter Tryz.func12, Tryz.ntmps12
    go_wp2_with fail
    go_ret
    exact ⟨by rw [HR.out]; rfl, Below.refl _ _⟩
  · have HR : Hid (fchk fs = fchkFrom none fs) := fchk_few (by omega)
    have hN12 : N ≤ 12 := by omega
    clear hf hfit hle hN hmany hN1
    go_enter Tryz.func12, Tryz.ntmps12
    go_wp2_with fail
    go_loopw [10] (fun i wr => ∃ k : Nat, k ≤ N ∧ i = .int .i64 k ∧ Hid (Below w.heap.size w wr) ∧ Hid (fchkFrom none (fs.take k) = 0)) (fun i _ => N - (intOf i).toNat)
    case atStart => exact ⟨0, Nat.zero_le _, rfl, Below.refl _ _, (show _ = _ from rfl)⟩
    case round =>
      obtain ⟨k, hk, rfl, hbel, hno⟩ := hrel
      by_cases hlt : k < N
      · obtain ⟨f, hfk⟩ : ∃ f, fs[k]? = some f := ⟨_, List.getElem?_eq_getElem (by have := HN.out; omega)⟩
        have HFK : Hid (fs[k]? = some f) := hfk
        have HRk : Hid (RFiles wr (.slice ao N cap) fs) := RFiles.below HF.out hbel.out
        obtain ⟨b, off, ab, cb, rfl, hc0, hc1, hr⟩ := HRk.out.at hfk
        obtain ⟨iw, hiw⟩ : ∃ d, d = isWord f.name := ⟨_, rfl⟩
        have HIW : Hid (iw = isWord f.name) := hiw
        have HW : Hid _ := fun (W : World) => isWord_ref f.name W (HFit.out f (List.mem_of_getElem? hfk)) iw hiw.symm
        have hbl := reads_le' hr
        obtain ⟨L, hL⟩ : ∃ L, L = f.b.length := ⟨_, rfl⟩
        have HL : Hid (L = f.b.length) := hL
        rw [← hL] at hc1 hbl
        obtain ⟨fx, hfx⟩ : ∃ fx : ByteArray, fx = ⟨f.name.toArray⟩ := ⟨_, rfl⟩
        have HFX : Hid (fx = ⟨f.name.toArray⟩) := hfx
        rw [← hfx] at hc0 HW
        clear hfk hr hiw hL hfx
        go_wp2_with fail
        have hQ := HW.out (wr.alloc (.cells #[.string fx, .slice ab L cb] 45))
        refine Calls.mono hQ ?_
        rintro e w2 ⟨rfl, hb2⟩
        obtain ⟨hx0, hx1⟩ := box2_cells hb2
        have HB2 : Hid (Below w.heap.size w w2) := (hbel.out.alloc hbel.out.size _).trans (hb2.mono (by simp; exact Nat.le_succ_of_le hbel.out.size))
        have HR2 : Hid (RFiles w2 (.slice (some ⟨b, off, none⟩) N cap) fs) := RFiles.below (RFiles.below HRk.out boxr_of) hb2
        clear hQ hb2 HW hc0 hc1
        cases iw with
        | false =>
          have HB : Hid (fbad (lastName none (fs.take k)) f = 1) := (show _ = _ by unfold fbad; rw [if_pos HIW.out.symm])
          have HE : Hid (fchk fs = 1) := (show _ = _ by rw [HR.out, from_bad HFK.out hno.out (by rw [HB.out]; decide), HB.out])
          clear hno HB
          go_wp2_with fail
          go_ret
          exact ⟨by rw [HE.out]; rfl, HB2.out⟩
        | true =>
          by_cases hl4 : 4000 < L
          · have HB : Hid (fbad (lastName none (fs.take k)) f = 2) := (show _ = _ by unfold fbad; rw [if_neg (by simp [← HIW.out]), if_pos (by have := HL.out; omega)])
            have HE : Hid (fchk fs = 2) := (show _ = _ by rw [HR.out, from_bad HFK.out hno.out (by rw [HB.out]; decide), HB.out])
            have hq : (4000 : Int) < L := by omega
            clear hno HB
            go_wp2_with fail
            go_ret
            exact ⟨by rw [HE.out]; rfl, HB2.out⟩
          · have hq : ¬ (4000 : Int) < L := by omega
            have HB : Hid (fbad (lastName none (fs.take k)) f = match lastName none (fs.take k) with | none => 0 | some q => if q < f.name then 0 else 6) := (show _ = _ by unfold fbad; rw [if_neg (by simp [← HIW.out]), if_neg (by have := HL.out; omega)]; rfl)
            by_cases hk0 : k = 0
            · subst hk0
              have HG : Hid (fchkFrom none (fs.take 1) = 0) := from_good HFK.out hno.out (by rw [HB.out]; rfl)
              clear hno HB
              go_wp2_with fail
              go_region
              all_goals go_wp2_with fail
              all_goals go_roundw
              case rel => exact ⟨1, by omega, rfl, HB2.out.drew, HG⟩
              case measure => simp [intOf]; omega
            · obtain ⟨m, rfl⟩ : ∃ m, k = m + 1 := ⟨k - 1, by omega⟩
              obtain ⟨g, hg⟩ : ∃ g, fs[m]? = some g := ⟨_, List.getElem?_eq_getElem (by have := HN.out; omega)⟩
              have hln : lastName none (fs.take (m + 1)) = some g.name := last_take hg
              obtain ⟨b', off', ab', cb', e0, hg0, hg1, _⟩ := HR2.out.at hg
              injection e0 with e0
              injection e0 with e1 e2
              subst e1 e2
              have hk1 : (0 : Int) < ((m + 1 : Nat) : Int) := by omega
              have hidx : ((m + 1 : Nat) : Int) - 1 = (m : Int) := by omega
              have hmN : m < N := by omega
              have hls := less_eq2 f.name g.name
              have hes := str_eq2 f.name g.name
              rw [hln] at HB
              simp only at HB
              by_cases hlt2 : g.name < f.name
              · have HG : Hid (fchkFrom none (fs.take (m + 1 + 1)) = 0) := from_good HFK.out hno.out (by rw [hln, HB.out, if_pos hlt2])
                have hle1 : Op.bytesLess fx.toList (⟨g.name.toArray⟩ : ByteArray).toList = false := by
                  rw [HFX.out, ByteArray.toList_eq, ByteArray.toList_eq]
                  show Op.bytesLess f.name g.name = false
                  rw [hls]
                  exact decide_eq_false (fun h => List.lt_irrefl _ (List.lt_trans hlt2 h))
                have hle2 : (fx.toList == (⟨g.name.toArray⟩ : ByteArray).toList) = false := by rw [HFX.out, hes]; exact decide_eq_false (fun h => List.lt_irrefl _ (h ▸ hlt2))
                generalize (⟨g.name.toArray⟩ : ByteArray) = gx at *
                clear hno HB hls hes hln hlt2 hg hg1
                go_wp2_with fail
                go_quiet (fail)
                all_goals go_wp2_with fail
                all_goals go_roundw
                case rel => exact ⟨m + 1 + 1, by omega, by go_num, belowq HB2.out _, HG⟩
                case measure => simp [intOf]; omega
              · have HE : Hid (fchk fs = 6) := (show _ = _ by rw [HR.out, from_bad HFK.out hno.out (by rw [hln, HB.out, if_neg hlt2]; decide), hln, HB.out, if_neg hlt2])
                obtain ⟨d1, hd1⟩ : ∃ d, d = Op.bytesLess fx.toList (⟨g.name.toArray⟩ : ByteArray).toList := ⟨_, rfl⟩
                obtain ⟨d2, hd2⟩ : ∃ d, d = (fx.toList == (⟨g.name.toArray⟩ : ByteArray).toList) := ⟨_, rfl⟩
                have hor : d1 = true ∨ d2 = true := by
                  rw [hd1, hd2, HFX.out, hes]
                  by_cases hfg : f.name = g.name
                  · exact .inr (decide_eq_true hfg)
                  · left
                    rw [ByteArray.toList_eq, ByteArray.toList_eq]
                    show Op.bytesLess f.name g.name = true
                    rw [hls]
                    have h3 : f.name ≤ g.name := List.not_lt.1 hlt2
                    by_cases h : f.name < g.name
                    · exact decide_eq_true h
                    · exact absurd (List.le_antisymm h3 (List.not_lt.1 h)) hfg
                generalize (⟨g.name.toArray⟩ : ByteArray) = gx at *
                clear hno HB hls hes hln hlt2 hg hg1
                rcases hor with rfl | rfl
                · have hd1' := hd1.symm
                  clear hd1 hd2
                  go_wp2_with fail
                  go_quiet (fail)
                  all_goals go_wp2_with fail
                  all_goals go_ret
                  all_goals exact ⟨by rw [HE.out]; rfl, belowq HB2.out _⟩
                · have hd2' := hd2.symm
                  clear hd1 hd2
                  go_wp2_with fail
                  go_quiet (fail)
                  all_goals go_wp2_with fail
                  all_goals go_ret
                  all_goals exact ⟨by rw [HE.out]; rfl, belowq HB2.out _⟩
      · have HE : Hid (fchk fs = 0) := (show _ = _ by
          rw [HR.out]
          have e := hno.out
          rw [List.take_of_length_le (by have := HN.out; omega)] at e
          exact e)
        clear hno
        go_wp2_with fail
        go_ret
        exact ⟨by rw [HE.out]; rfl, hbel.out⟩
end Go.Proofs.YtkifihcficobnabGreatDoor
