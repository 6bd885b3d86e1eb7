/- What CheckFiles does. What find does: slices.BinarySearchFunc at files that rise. slices.BinarySearchFunc at files that rise; find. -/
import Derived.Test.YtkifihcficobnabGreatDoorFBase
import Derived.Test.YtkifihcficobnabGreatDoorWordE
import Derived.Test.YtkifihcficobnabGreatDoorShelf
import Derived.Lib.Bytealg
import Derived.Laws.Shifts
namespace Go.Proofs.YtkifihcficobnabGreatDoor
open Go.RowKit Go.Gs
set_option linter.unusedVariables false

theorem wordb_is (n : List UInt8) (W : World) (hn : n.length ≤ 9223372036854775807) (iw : Bool) (h : isWord n = iw) :
    Calls Tryz.prog 48 #[.string ⟨n.toArray⟩] W fun e w' => e = .returned (.bool iw) ∧ Below W.heap.size W w' := by
  refine (word_is n W hn).mono ?_
  rintro e w' ⟨rfl, rfl⟩
  exact ⟨by rw [h], Below.refl _ _⟩

set_option maxRecDepth 100000 in
set_option maxHeartbeats 4000000 in
theorem fcheck_is (ao : Option Addr) (cap : Nat) (fs : List SFile) (w : World) (hf : RFiles w (.slice ao fs.length cap) fs) (hfit : ∀ f ∈ fs, FitsF f) :
    Calls Tryz.prog 14 #[.slice ao fs.length cap] w fun e w' => e = .returned (.int .i64 (fchk fs)) ∧ Below w.heap.size w w' := by
  have hle := rfiles_le hf
  have HF : Hid (RFiles w (.slice ao fs.length cap) fs) := hf
  have HFit : Hid _ := hfit
  obtain ⟨N, hN⟩ : ∃ N, N = fs.length := ⟨_, rfl⟩
  have HN : Hid (N = fs.length) := hN
  have hN1 : N ≤ 9223372036854775807 := by omega
  rw [← hN] at HF ⊢
  by_cases hmany : 12 < N
  · have HR : Hid (fchk fs = 2) := (show _ = _ by unfold fchk; rw [if_pos (by omega)])
    have hq : (12 : Int) < N := by omega
    clear hf hfit hle hN
    go_enter Tryz.func14, Tryz.ntmps14
    go_wp2_with fail
    go_ret
    exact ⟨by rw [HR.out]; rfl, Below.refl _ _⟩
  · have HR : Hid (fchk fs = fchkFrom none fs) := fchk_few (by omega)
    have hN12 : N ≤ 12 := by omega
    clear hf hfit hle hN hmany hN1
    go_enter Tryz.func14, Tryz.ntmps14
    go_wp2_with fail
    go_loopw [10] (fun i wr => ∃ k : Nat, k ≤ N ∧ i = .int .i64 k ∧ Hid (Below w.heap.size w wr) ∧ Hid (fchkFrom none (fs.take k) = 0)) (fun i _ => N - (intOf i).toNat)
    case atStart => exact ⟨0, Nat.zero_le _, rfl, Below.refl _ _, (show _ = _ from rfl)⟩
    case round =>
      obtain ⟨k, hk, rfl, hbel, hno⟩ := hrel
      by_cases hlt : k < N
      · obtain ⟨f, hfk⟩ : ∃ f, fs[k]? = some f := ⟨_, List.getElem?_eq_getElem (by have := HN.out; omega)⟩
        have HFK : Hid (fs[k]? = some f) := hfk
        have HRk : Hid (RFiles wr (.slice ao N cap) fs) := RFiles.below HF.out hbel.out
        obtain ⟨b, off, ab, cb, rfl, hc0, hc1, hr⟩ := HRk.out.at hfk
        obtain ⟨iw, hiw⟩ : ∃ d, d = isWord f.name := ⟨_, rfl⟩
        have HIW : Hid (iw = isWord f.name) := hiw
        have HW : Hid _ := fun (W : World) => wordb_is f.name W (HFit.out f (List.mem_of_getElem? hfk)) iw hiw.symm
        have hbl := reads_le' hr
        obtain ⟨L, hL⟩ : ∃ L, L = f.b.length := ⟨_, rfl⟩
        have HL : Hid (L = f.b.length) := hL
        rw [← hL] at hc1 hbl
        obtain ⟨fx, hfx⟩ : ∃ fx : ByteArray, fx = ⟨f.name.toArray⟩ := ⟨_, rfl⟩
        have HFX : Hid (fx = ⟨f.name.toArray⟩) := hfx
        rw [← hfx] at hc0 HW
        clear hfk hr hiw hL hfx
        go_wp2_with fail
        have hQ := HW.out (wr.alloc (.cells #[.string fx, .slice ab L cb] 45))
        refine Calls.mono hQ ?_
        rintro e w2 ⟨rfl, hb2⟩
        obtain ⟨hx0, hx1⟩ := box2_cells hb2
        have HB2 : Hid (Below w.heap.size w w2) := (hbel.out.alloc hbel.out.size _).trans (hb2.mono (by simp; exact Nat.le_succ_of_le hbel.out.size))
        have HR2 : Hid (RFiles w2 (.slice (some ⟨b, off, none⟩) N cap) fs) := RFiles.below (RFiles.below HRk.out boxr_of) hb2
        clear hQ hb2 HW hc0 hc1
        cases iw with
        | false =>
          have HB : Hid (fbad (lastName none (fs.take k)) f = 1) := (show _ = _ by unfold fbad; rw [if_pos HIW.out.symm])
          have HE : Hid (fchk fs = 1) := (show _ = _ by rw [HR.out, from_bad HFK.out hno.out (by rw [HB.out]; decide), HB.out])
          clear hno HB
          go_wp2_with fail
          go_ret
          exact ⟨by rw [HE.out]; rfl, HB2.out⟩
        | true =>
          by_cases hl4 : 4000 < L
          · have HB : Hid (fbad (lastName none (fs.take k)) f = 2) := (show _ = _ by unfold fbad; rw [if_neg (by simp [← HIW.out]), if_pos (by have := HL.out; omega)])
            have HE : Hid (fchk fs = 2) := (show _ = _ by rw [HR.out, from_bad HFK.out hno.out (by rw [HB.out]; decide), HB.out])
            have hq : (4000 : Int) < L := by omega
            clear hno HB
            go_wp2_with fail
            go_ret
            exact ⟨by rw [HE.out]; rfl, HB2.out⟩
          · have hq : ¬ (4000 : Int) < L := by omega
            have HB : Hid (fbad (lastName none (fs.take k)) f = match lastName none (fs.take k) with | none => 0 | some q => if q < f.name then 0 else 6) := (show _ = _ by unfold fbad; rw [if_neg (by simp [← HIW.out]), if_neg (by have := HL.out; omega)]; rfl)
            by_cases hk0 : k = 0
            · subst hk0
              have HG : Hid (fchkFrom none (fs.take 1) = 0) := from_good HFK.out hno.out (by rw [HB.out]; rfl)
              clear hno HB
              go_wp2_with fail
              go_region
              all_goals go_wp2_with fail
              all_goals go_roundw
              case rel => exact ⟨1, by omega, rfl, HB2.out.drew, HG⟩
              case measure => simp [intOf]; omega
            · obtain ⟨m, rfl⟩ : ∃ m, k = m + 1 := ⟨k - 1, by omega⟩
              obtain ⟨g, hg⟩ : ∃ g, fs[m]? = some g := ⟨_, List.getElem?_eq_getElem (by have := HN.out; omega)⟩
              have hln : lastName none (fs.take (m + 1)) = some g.name := last_take hg
              obtain ⟨b', off', ab', cb', e0, hg0, hg1, _⟩ := HR2.out.at hg
              injection e0 with e0
              injection e0 with e1 e2
              subst e1 e2
              have hk1 : (0 : Int) < ((m + 1 : Nat) : Int) := by omega
              have hidx : ((m + 1 : Nat) : Int) - 1 = (m : Int) := by omega
              have hmN : m < N := by omega
              have hls := less_eq2 f.name g.name
              have hes := str_eq2 f.name g.name
              rw [hln] at HB
              simp only at HB
              by_cases hlt2 : g.name < f.name
              · have HG : Hid (fchkFrom none (fs.take (m + 1 + 1)) = 0) := from_good HFK.out hno.out (by rw [hln, HB.out, if_pos hlt2])
                have hle1 : Op.bytesLess fx.toList (⟨g.name.toArray⟩ : ByteArray).toList = false := by
                  rw [HFX.out, ByteArray.toList_eq, ByteArray.toList_eq]
                  show Op.bytesLess f.name g.name = false
                  rw [hls]
                  exact decide_eq_false (fun h => List.lt_irrefl _ (List.lt_trans hlt2 h))
                have hle2 : (fx.toList == (⟨g.name.toArray⟩ : ByteArray).toList) = false := by rw [HFX.out, hes]; exact decide_eq_false (fun h => List.lt_irrefl _ (h ▸ hlt2))
                generalize (⟨g.name.toArray⟩ : ByteArray) = gx at *
                clear hno HB hls hes hln hlt2 hg hg1
                go_wp2_with fail
                go_quiet (fail)
                all_goals go_wp2_with fail
                all_goals go_roundw
                case rel => exact ⟨m + 1 + 1, by omega, by go_num, belowq HB2.out _, HG⟩
                case measure => simp [intOf]; omega
              · have HE : Hid (fchk fs = 6) := (show _ = _ by rw [HR.out, from_bad HFK.out hno.out (by rw [hln, HB.out, if_neg hlt2]; decide), hln, HB.out, if_neg hlt2])
                obtain ⟨d1, hd1⟩ : ∃ d, d = Op.bytesLess fx.toList (⟨g.name.toArray⟩ : ByteArray).toList := ⟨_, rfl⟩
                obtain ⟨d2, hd2⟩ : ∃ d, d = (fx.toList == (⟨g.name.toArray⟩ : ByteArray).toList) := ⟨_, rfl⟩
                have hor : d1 = true ∨ d2 = true := by
                  rw [hd1, hd2, HFX.out, hes]
                  by_cases hfg : f.name = g.name
                  · exact .inr (decide_eq_true hfg)
                  · left
                    rw [ByteArray.toList_eq, ByteArray.toList_eq]
                    show Op.bytesLess f.name g.name = true
                    rw [hls]
                    have h3 : f.name ≤ g.name := List.not_lt.1 hlt2
                    by_cases h : f.name < g.name
                    · exact decide_eq_true h
                    · exact absurd (List.le_antisymm h3 (List.not_lt.1 h)) hfg
                generalize (⟨g.name.toArray⟩ : ByteArray) = gx at *
                clear hno HB hls hes hln hlt2 hg hg1
                rcases hor with rfl | rfl
                · have hd1' := hd1.symm
                  clear hd1 hd2
                  go_wp2_with fail
                  go_quiet (fail)
                  all_goals go_wp2_with fail
                  all_goals go_ret
                  all_goals exact ⟨by rw [HE.out]; rfl, belowq HB2.out _⟩
                · have hd2' := hd2.symm
                  clear hd1 hd2
                  go_wp2_with fail
                  go_quiet (fail)
                  all_goals go_wp2_with fail
                  all_goals go_ret
                  all_goals exact ⟨by rw [HE.out]; rfl, belowq HB2.out _⟩
      · have HE : Hid (fchk fs = 0) := (show _ = _ by
          rw [HR.out]
          have e := hno.out
          rw [List.take_of_length_le (by have := HN.out; omega)] at e
          exact e)
        clear hno
        go_wp2_with fail
        go_ret
        exact ⟨by rw [HE.out]; rfl, hbel.out⟩
end Go.Proofs.YtkifihcficobnabGreatDoor
namespace Go.Proofs.YtkifihcficobnabGreatDoor
open Go.RowKit Go.Gs
set_option linter.unusedVariables false

theorem cmp_rng : ∀ (a b : List UInt8), (Lib.compareBytes a b = -1 ∧ a < b) ∨ (Lib.compareBytes a b = 0 ∧ a = b) ∨ (Lib.compareBytes a b = 1 ∧ b < a)
  | [], [] => by simp [Lib.compareBytes]
  | [], _ :: _ => by simp [Lib.compareBytes]
  | _ :: _, [] => by simp [Lib.compareBytes]
  | x :: a, y :: b => by
    rw [Lib.compareBytes]
    by_cases h1 : x < y
    · rw [if_pos h1]; left; exact ⟨rfl, List.cons_lt_cons_iff.2 (.inl h1)⟩
    · rw [if_neg h1]
      by_cases h2 : y < x
      · rw [if_pos h2]; right; right; exact ⟨rfl, List.cons_lt_cons_iff.2 (.inl h2)⟩
      · rw [if_neg h2]
        have e : x = y := UInt8.le_antisymm (UInt8.not_lt.1 h2) (UInt8.not_lt.1 h1)
        subst e
        rcases cmp_rng a b with ⟨h, h'⟩ | ⟨h, h'⟩ | ⟨h, h'⟩
        · exact .inl ⟨h, List.cons_lt_cons_iff.2 (.inr ⟨rfl, h'⟩)⟩
        · exact .inr (.inl ⟨h, by rw [h']⟩)
        · exact .inr (.inr ⟨h, List.cons_lt_cons_iff.2 (.inr ⟨rfl, h'⟩)⟩)
theorem cmp_neg (a b : List UInt8) : Lib.compareBytes a b < 0 ↔ a < b := by
  rcases cmp_rng a b with ⟨h, h'⟩ | ⟨h, h'⟩ | ⟨h, h'⟩
  · rw [h]; simp [h']
  · rw [h, h']; simp
  · rw [h]
    have : ¬ a < b := fun x => List.lt_irrefl _ (List.lt_trans x h')
    simp [this]
theorem cmp_zero (a b : List UInt8) : Lib.compareBytes a b = 0 ↔ a = b := by
  rcases cmp_rng a b with ⟨h, h'⟩ | ⟨h, h'⟩ | ⟨h, h'⟩
  · rw [h]
    have : ¬ a = b := fun x => List.lt_irrefl _ (x ▸ h')
    simp [this]
  · rw [h, h']; simp
  · rw [h]
    have : ¬ a = b := fun x => List.lt_irrefl _ (x ▸ h')
    simp [this]

set_option maxRecDepth 100000 in
set_option maxHeartbeats 2000000 in
theorem find1_is (f : List UInt8) (vb : Value) (ab : Option Addr) (nb cb : Nat) (n : List UInt8) (w : World) :
    Calls Tryz.prog 87 #[.agg #[.string ⟨f.toArray⟩, .slice ab nb cb], .string ⟨n.toArray⟩] w fun e w' => e = .returned (.int .i64 (Lib.compareBytes f n)) ∧ Below w.heap.size w w' := by
  have hC : ∀ W : World, Calls Tryz.prog 88 #[.string ⟨f.toArray⟩, .string ⟨n.toArray⟩] W fun e w' => e = .returned (.int .i64 (Lib.compareBytes f n)) ∧ w' = W := fun W => Tryz.strings_Compare ⟨f.toArray⟩ ⟨n.toArray⟩ W
  have HC : Hid _ := hC
  generalize Lib.compareBytes f n = r at *
  generalize (⟨f.toArray⟩ : ByteArray) = fx at *
  generalize (⟨n.toArray⟩ : ByteArray) = nx at *
  clear hC
  go_enter Tryz.func87, Tryz.ntmps87
  go_wp2_with fail
  refine Calls.mono (HC.out _) ?_
  rintro e w2 ⟨rfl, rfl⟩
  go_wp2_with fail
  go_ret
  exact ⟨rfl, boxr_of⟩

end Go.Proofs.YtkifihcficobnabGreatDoor
namespace Go.Proofs.YtkifihcficobnabGreatDoor
open Go.RowKit Go.Gs
set_option linter.unusedVariables false

set_option maxRecDepth 100000 in
set_option maxHeartbeats 4000000 in
theorem bsearch_is (ao : Option Addr) (cap : Nat) (fs : List SFile) (n : List UInt8) (w : World) (hf : RFiles w (.slice ao fs.length cap) fs) (hr : fchkFrom none fs = 0) (h12 : fs.length ≤ 12) :
    Calls Tryz.prog 86 #[.slice ao fs.length cap, .string ⟨n.toArray⟩, .func (.func 87) #[] #[]] w fun e w' => e = .returned (.tuple #[.int .i64 (posOf fs n), .bool (thereOf fs n)]) ∧ Below w.heap.size w w' := by
  have HF : Hid (RFiles w (.slice ao fs.length cap) fs) := hf
  have HRI : Hid (fchkFrom none fs = 0) := hr
  have hple := pos_le fs n
  obtain ⟨N, hN⟩ : ∃ N, N = fs.length := ⟨_, rfl⟩
  have HN : Hid (N = fs.length) := hN
  obtain ⟨p, hp⟩ : ∃ p, p = posOf fs n := ⟨_, rfl⟩
  have HP : Hid (p = posOf fs n) := hp
  rw [← hN] at HF h12 hple ⊢
  rw [← hp] at hple ⊢
  obtain ⟨nx, hnx⟩ : ∃ nx : ByteArray, nx = ⟨n.toArray⟩ := ⟨_, rfl⟩
  have HNX : Hid (nx = ⟨n.toArray⟩) := hnx
  rw [← hnx]
  clear hf hr hN hp hnx
  go_enter Tryz.func86, Tryz.ntmps86
  go_wp2_with fail
  go_loopw [9, 10] (fun s9 s10 wr => ∃ lo hi : Nat, s9 = .int .i64 lo ∧ s10 = .int .i64 hi ∧ lo ≤ p ∧ p ≤ hi ∧ hi ≤ N ∧ Hid (Below w.heap.size w wr)) (fun s9 s10 _ => (intOf s10).toNat - (intOf s9).toNat)
  case atStart => exact ⟨0, N, rfl, rfl, Nat.zero_le _, hple, Nat.le_refl _, Below.refl _ _⟩
  case round =>
    obtain ⟨lo, hi, rfl, rfl, hlp, hph, hhN, hbel⟩ := hrel
    by_cases hlt : lo < hi
    · obtain ⟨h, hh⟩ : ∃ h, h = (lo + hi) / 2 := ⟨_, rfl⟩
      have hlh : lo ≤ h := by omega
      have hhh : h < hi := by omega
      obtain ⟨f, hfk⟩ : ∃ f, fs[h]? = some f := ⟨_, List.getElem?_eq_getElem (by have := HN.out; omega)⟩
      have hpi := pos_iff (n := n) HRI.out hfk
      rw [← HP.out] at hpi
      obtain ⟨b, off, ab, cb, rfl, hc0, hc1, hrr⟩ := (RFiles.below HF.out hbel.out).at hfk
      have HC : Hid _ := fun (W : World) => find1_is f.name (.int .i64 0) ab f.b.length cb n W
      rw [← HNX.out] at HC
      have hcn := cmp_neg f.name n
      generalize Lib.compareBytes f.name n = r at *
      generalize (⟨f.name.toArray⟩ : ByteArray) = fx at *
      generalize f.b.length = L at *
      clear hfk hrr
      subst hh
      by_cases hpp : (lo + hi) / 2 < p
      · have hr0 : r < 0 := hcn.2 (hpi.2 hpp)
        clear hcn hpi
        go_wp2_with fail
        refine Calls.mono (HC.out _) ?_
        rintro e w3 ⟨rfl, hb3⟩
        have HB3 : Hid (Below w.heap.size w w3) := hbel.out.trans (hb3.mono hbel.out.size)
        clear hb3 HC hc0 hc1
        go_wp2_with fail
        go_roundw
        case rel => exact ⟨(lo + hi) / 2 + 1, hi, by rw [show ((lo : Int) + (hi : Int)) / 2 + 1 = (((lo + hi) / 2 + 1 : Nat) : Int) by omega], rfl, by omega, hph, hhN, HB3⟩
        case measure => simp [intOf]; omega
      · have hr0 : ¬ r < 0 := fun x => hpp (hpi.1 (hcn.1 x))
        clear hcn hpi
        go_wp2_with fail
        refine Calls.mono (HC.out _) ?_
        rintro e w3 ⟨rfl, hb3⟩
        have HB3 : Hid (Below w.heap.size w w3) := hbel.out.trans (hb3.mono hbel.out.size)
        clear hb3 HC hc0 hc1
        go_wp2_with fail
        go_roundw
        case rel => exact ⟨lo, (lo + hi) / 2, rfl, by rw [show ((lo : Int) + (hi : Int)) / 2 = (((lo + hi) / 2 : Nat) : Int) by omega], hlp, by omega, by omega, HB3⟩
        case measure => simp [intOf]; omega
    · obtain rfl : lo = p := by omega
      obtain rfl : hi = lo := by omega
      by_cases hlN : hi < N
      · obtain ⟨f, hfk⟩ : ∃ f, fs[hi]? = some f := ⟨_, List.getElem?_eq_getElem (by have := HN.out; omega)⟩
        have hth := there_some (l := fs) (n := n) (by rw [← HP.out]; exact hfk)
        obtain ⟨b, off, ab, cb, rfl, hc0, hc1, hrr⟩ := (RFiles.below HF.out hbel.out).at hfk
        have HC : Hid _ := fun (W : World) => find1_is f.name (.int .i64 0) ab f.b.length cb n W
        rw [← HNX.out] at HC
        have hcz := cmp_zero f.name n
        have HTH : Hid (thereOf fs n = decide (f.name = n)) := hth
        generalize Lib.compareBytes f.name n = r at *
        generalize (⟨f.name.toArray⟩ : ByteArray) = fx at *
        generalize f.b.length = L at *
        clear hfk hrr hth
        by_cases hfn : f.name = n
        · have hr0 : r = 0 := hcz.2 hfn
          have HT : Hid (thereOf fs n = true) := (show _ = _ by rw [HTH.out]; exact decide_eq_true hfn)
          subst hr0
          clear hcz HTH hfn
          go_wp2_with fail
          refine Calls.mono (HC.out _) ?_
          rintro e w3 ⟨rfl, hb3⟩
          have HB3 : Hid (Below w.heap.size w w3) := hbel.out.trans (hb3.mono hbel.out.size)
          clear hb3 HC hc0 hc1
          go_wp2_with fail
          go_ret2
          exact ⟨by rw [HT.out]; rfl, HB3.out⟩
        · have hr0 : ¬ r = 0 := fun x => hfn (hcz.1 x)
          have HT : Hid (thereOf fs n = false) := (show _ = _ by rw [HTH.out]; exact decide_eq_false hfn)
          clear hcz HTH hfn
          go_wp2_with fail
          refine Calls.mono (HC.out _) ?_
          rintro e w3 ⟨rfl, hb3⟩
          have HB3 : Hid (Below w.heap.size w w3) := hbel.out.trans (hb3.mono hbel.out.size)
          clear hb3 HC hc0 hc1
          go_wp2_with fail
          go_ret2
          exact ⟨by rw [HT.out, show false = (r == 0) by simp [hr0]]; rfl, HB3.out⟩
      · have HT : Hid (thereOf fs n = false) := there_none (by rw [← HP.out, ← HN.out]; omega)
        go_wp2_with fail
        go_ret2
        exact ⟨by rw [HT.out]; rfl, hbel.out⟩

set_option maxRecDepth 100000 in
set_option maxHeartbeats 2000000 in
theorem find_is (ao : Option Addr) (cap : Nat) (fs : List SFile) (n : List UInt8) (w : World) (hf : RFiles w (.slice ao fs.length cap) fs) (hr : fchkFrom none fs = 0) (h12 : fs.length ≤ 12) :
    Calls Tryz.prog 46 #[.slice ao fs.length cap, .string ⟨n.toArray⟩] w fun e w' => e = .returned (.tuple #[.int .i64 (posOf fs n), .bool (thereOf fs n)]) ∧ Below w.heap.size w w' := by
  have HB : Hid _ := bsearch_is ao cap fs n w hf hr h12
  generalize posOf fs n = p at *
  generalize thereOf fs n = t at *
  generalize fs.length = N at *
  generalize (⟨n.toArray⟩ : ByteArray) = nx at *
  clear hf hr
  go_enter Tryz.func46, Tryz.ntmps46
  go_wp2_with fail
  refine Calls.mono HB.out ?_
  rintro e w1 ⟨rfl, hb1⟩
  have HB1 : Hid (Below w.heap.size w w1) := hb1
  clear hb1 HB
  go_wp2_with fail
  go_ret2
  exact ⟨rfl, HB1.out⟩
end Go.Proofs.YtkifihcficobnabGreatDoor
