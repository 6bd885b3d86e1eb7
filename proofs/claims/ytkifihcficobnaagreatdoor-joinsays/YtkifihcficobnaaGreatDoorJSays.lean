/- The walk of the sentence on joins. -/
import Derived.Test.YtkifihcficobnaaGreatDoorJWholeF
import Derived.Test.YtkifihcficobnaaGreatDoorRefJoin1
import Derived.Test.YtkifihcficobnaaGreatDoorHowA
import Derived.Deep.DeepCutAuto
import Derived.Deep.RegionWith
namespace Go.Proofs.YtkifihcficobnaaGreatDoor
open Go.RowKit Go.Gs
set_option linter.unusedVariables false

/-- What the walk stands on, once Do has answered 'D'. -/
def JX (w W : World) (c : Cmd) (v : Value) (bss : List (List UInt8)) (x : Value) (D : List UInt8) : Prop := JA w W c v bss ∧ Reads W x D.length (D.map U)
theorem JX.below {w W W' : World} {c : Cmd} {v x : Value} {bss : List (List UInt8)} {D : List UInt8} (h : JX w W c v bss x D) (hb : Below W.heap.size W W') : JX w W' c v bss x D := ⟨h.1.below hb, h.2.below hb⟩
theorem JX.drew {w W : World} {c : Cmd} {v x : Value} {bss : List (List UInt8)} {D : List UInt8} (h : JX w W c v bss x D) : JX w W.drew c v bss x D := h.below (Below.refl _ _).drew
theorem JX.cells {w W : World} {k n : Int} {word : List UInt8} {v x : Value} {bss : List (List UInt8)} {D : List UInt8} (h : JX w W ⟨k, word, n⟩ v bss x D) : W.cell? ⟨w.heap.size, 0, none⟩ = some (.int .i64 k) ∧ W.cell? ⟨w.heap.size, 1, none⟩ = some (.string ⟨word.toArray⟩) ∧ W.cell? ⟨w.heap.size, 2, none⟩ = some (.int .i64 n) := h.1.1
theorem jx_any {F : FuncId} {args : Array Value} {w W : World} {k n : Int} {word : List UInt8} {vb x : Value} {bss : List (List UInt8)} {D : List UInt8} {v : Value} (h : JX w W ⟨k, word, n⟩ vb bss x D) (hC : Calls Tryz.prog F args W fun e w' => e = .returned v ∧ Below W.heap.size W w') :
    Calls Tryz.prog F args W fun e w' => e = .returned v ∧ Hid (JX w w' ⟨k, word, n⟩ vb bss x D) ∧ w'.cell? ⟨w.heap.size, 0, none⟩ = some (.int .i64 k) ∧ w'.cell? ⟨w.heap.size, 1, none⟩ = some (.string ⟨word.toArray⟩) ∧ w'.cell? ⟨w.heap.size, 2, none⟩ = some (.int .i64 n) := by
  refine hC.mono ?_
  rintro e w' ⟨rfl, hb⟩
  have h1 := h.below hb
  exact ⟨rfl, h1, h1.cells⟩

set_option maxRecDepth 100000 in
set_option maxHeartbeats 8000000 in
theorem jsays (how k n : Int) (word : List UInt8) (ao : Option Addr) (cap : Nat) (bss : List (List UInt8)) (w : World) (hkw : (Lit.int .i64 k).wf = true) (hw : word.length ≤ 9223372036854775807) (h1 : RList w (.slice ao bss.length cap) U bss) (h2 : KnownE w) (h3 : w.ShapedOpen Tryz.prog) (hbs : ∀ p ∈ bss, p.length ≤ 1000000000000000)
    (r jr hh re : Int) (hr : chk ⟨k, word, n⟩ = r) (hjr : jchk how ⟨k, word, n⟩ = jr) (hhh : (if chk ⟨k, word, n⟩ = 0 then howFor k else 0) = hh) (D : List UInt8)
    (hdo : ∀ W, JA w W ⟨k, word, n⟩ (.slice ao bss.length cap) bss → Calls Tryz.prog 30 #[.int .i64 how, .agg #[.int .i64 k, .string ⟨word.toArray⟩, .int .i64 n], .slice ao bss.length cap] W fun e w' => ∃ ro rc, e = .returned (.tuple #[.slice ro D.length rc, .int .i64 re]) ∧ Reads w' (.slice ro D.length rc) D.length (D.map U) ∧ Below W.heap.size W w')
    (hre : re = if jr ≠ 0 then jr else if 5 < bss.length ∨ 4000 < bss.flatten.length then 2 else 0) (hD : re ≠ 0 → D = [])
    (hJ : re = 0 → ∀ W, JA w W ⟨k, word, n⟩ (.slice ao bss.length cap) bss → Calls Tryz.prog 36 #[.int .i64 how, .agg #[.int .i64 k, .string ⟨word.toArray⟩, .int .i64 n], .slice ao bss.length cap] W fun e w' => ∃ x, e = .returned x ∧ Reads w' x D.length (D.map U) ∧ Below W.heap.size W w') :
    Calls Tryz.prog 6 #[.int .i64 how, .agg #[.int .i64 k, .string ⟨word.toArray⟩, .int .i64 n], .slice ao bss.length cap] w fun e w' => e = .returned (.bool true) ∧ Below w.heap.size w w' := by
  have hcap : bss.length ≤ cap ∧ cap ≤ 9223372036854775807 := by
    obtain ⟨ao', cap', e, h1', h2'⟩ := h1.shape
    injection e with e1 e2 e3
    subst e3
    exact ⟨h1', by simpa [maxLen] using h2'⟩
  obtain ⟨hcN, hcm⟩ := hcap
  have J0 : Hid (JA w _ ⟨k, word, n⟩ (.slice ao bss.length cap) bss) := JA.start (c := ⟨k, word, n⟩) h1 h2 h3
  have hF : ∀ W, Calls Tryz.prog 31 #[.agg #[.int .i64 k, .string ⟨word.toArray⟩, .int .i64 n]] W fun e w' => e = .returned (.tuple #[.int .i64 hh, .int .i64 r]) ∧ Below W.heap.size W w' := fun W => by rw [← hr, ← hhh]; exact for_is ⟨k, word, n⟩ W hw
  have hCR : ∀ W, Calls Tryz.prog 11 #[.agg #[.int .i64 k, .string ⟨word.toArray⟩, .int .i64 n]] W fun e w' => e = .returned (.int .i64 r) ∧ Below W.heap.size W w' := fun W => by rw [← hr]; exact check_ref ⟨k, word, n⟩ W hkw hw
  have hJR : ∀ W, Calls Tryz.prog 32 #[.int .i64 how, .agg #[.int .i64 k, .string ⟨word.toArray⟩, .int .i64 n]] W fun e w' => e = .returned (.int .i64 jr) ∧ Below W.heap.size W w' := fun W => by rw [← hjr]; exact jcheck_ref how ⟨k, word, n⟩ W hkw hw
  have hJC : ∀ W, Calls Tryz.prog 34 #[.int .i64 how, .agg #[.int .i64 k, .string ⟨word.toArray⟩, .int .i64 n]] W fun e w' => e = .returned (.int .i64 jr) ∧ Below W.heap.size W w' := fun W => by rw [← hjr]; exact jcheck_is how ⟨k, word, n⟩ W hw
  have hH : r = 0 → ∀ W, Calls Tryz.prog 35 #[.agg #[.int .i64 k, .string ⟨word.toArray⟩, .int .i64 n]] W fun e w' => e = .returned (.int .i64 hh) ∧ Below W.heap.size W w' := fun h0 W => by
    rw [← hr] at h0
    rw [← hhh, if_pos h0, ← v_how ⟨k, word, n⟩ h0]
    exact howFor_ref ⟨k, word, n⟩ W hkw
  have hh0 : r ≠ 0 → hh = 0 := fun h => by rw [← hhh, hr, if_neg h]
  have HBS : Hid _ := hbs
  have HDO : Hid _ := hdo
  have HRE : Hid (re = if jr ≠ 0 then jr else if 5 < bss.length ∨ 4000 < bss.flatten.length then 2 else 0) := hre
  have HD : Hid (re ≠ 0 → D = []) := hD
  have HJ : Hid _ := hJ
  have HH : Hid _ := hH
  have HH0 : Hid (r ≠ 0 → hh = 0) := hh0
  obtain ⟨N, hN⟩ : ∃ N, N = bss.length := ⟨_, rfl⟩
  have HN : Hid (N = bss.length) := hN
  rw [← hN] at hcN J0 HDO HRE HJ ⊢
  obtain ⟨M, hM⟩ : ∃ M, M = D.length := ⟨_, rfl⟩
  have HM : Hid (M = D.length) := hM
  clear h1 h2 h3 hr hjr hhh hdo hre hD hJ hH hh0 hbs hkw hw hN
  go_enter Tryz.func6, Tryz.ntmps6
  go_wp2_with fail
  refine (HDO.out _ J0.out).mono ?_
  rintro e w1 ⟨ro, rc, rfl, hx1, hb1⟩
  have S1 : Hid (JX w w1 ⟨k, word, n⟩ (.slice ao N cap) bss (.slice ro D.length rc) D) := ⟨J0.out.below hb1, hx1⟩
  obtain ⟨x0, x1, x2⟩ := S1.out.cells
  clear J0 HDO hx1 hb1
  rw [← hM] at S1 ⊢
  clear hM
  go_wp2_with fail
  refine (jx_any S1.out (hF _)).mono ?_
  rintro e w2 ⟨rfl, S2, y0, y1, y2⟩
  clear S1 hF x0 x1 x2
  go_upto_region 3 with fail
  go_cut [11, 12] (fun z1 z2 wx => z1 = .int .i64 r ∧ z2 = .int .i64 jr ∧ Hid (JX w wx ⟨k, word, n⟩ (.slice ao N cap) bss (.slice ro M rc) D))
  case first =>
    have S3 : Hid (JX w w2.drew ⟨k, word, n⟩ (.slice ao N cap) bss (.slice ro M rc) D) := S2.out.drew
    clear S2 HRE HD HJ HH HH0 HBS HN HM hJC
    go_region_with (first
      | (go_at_call 11; refine (jx_any S3.out (hCR _)).mono ?_; rintro e w4 ⟨rfl, S4, p0, p1, p2⟩)
      | (go_at_call 32; refine (jx_any S4.out (hJR _)).mono ?_; rintro e w5 ⟨rfl, S5, q0, q1, q2⟩))
    all_goals (go_wp2_with fail; go_meet; exact ⟨rfl, rfl, S5⟩)
  case rest =>
    obtain ⟨rfl, rfl, S5⟩ := hcut
    obtain ⟨c0, c1, c2⟩ := S5.out.cells
    clear S2 y0 y1 y2 hCR hJR
    go_upto_region 4 with fail
    go_cut [64] (fun z wx => z = .bool false ∧ Hid (JX w wx ⟨k, word, n⟩ (.slice ao N cap) bss (.slice ro M rc) D))
    case first =>
      clear HRE HD HJ HBS HN HM
      go_wp2_with fail
      refine (jx_any S5.out (spliced_true _ S5.out.1.2.2.1)).mono ?_
      rintro e w6 ⟨rfl, S6, p0, p1, p2⟩
      clear S5 c0 c1 c2
      go_wp2_with fail
      refine (jx_any S6.out (hJC _)).mono ?_
      rintro e w7 ⟨rfl, S7, q0, q1, q2⟩
      clear S6 p0 p1 p2
      by_cases hr0 : r = 0
      · have hHW := HH.out hr0
        subst hr0
        clear HH HH0
        go_wp2_with fail
        refine (jx_any S7.out (hHW _)).mono ?_
        rintro e w8 ⟨rfl, S8, t0, t1, t2⟩
        clear S7 q0 q1 q2
        go_wp2_with fail
        go_meet
        exact ⟨by simp, S8⟩
      · have hz := HH0.out hr0
        subst hz
        clear HH HH0
        go_wp2_with fail
        go_meet
        exact ⟨by simp, S7⟩
    case rest =>
      obtain ⟨rfl, S6⟩ := hcut
      obtain ⟨c0, c1, c2⟩ := S6.out.cells
      clear S5 HH HH0 hJC
      obtain ⟨K, hK⟩ : ∃ K : Nat, K = min N 6 := ⟨_, rfl⟩
      have hKN : K ≤ N := by omega
      have hK6 : K ≤ 6 := by omega
      have hKc : K ≤ cap := by omega
      have HK : Hid (K = min N 6) := hK
      have hmin : min (N : Int) 6 = (K : Int) := by omega
      go_wp2_with fail
      rw [← hK]
      clear hmin hK
      go_loopw [13, 71] (fun s i wr => ∃ j : Nat, ∃ m : Nat, j ≤ K ∧ m ≤ 5000 ∧ i = .int .i64 j ∧ s = .int .i64 m ∧ wr = wc ∧ Hid (m = min 5000 ((bss.take j).flatten).length))
        (fun _ i _ => K - (intOf i).toNat)
      case atStart => exact ⟨0, 0, Nat.zero_le _, by omega, rfl, rfl, rfl, (show _ = _ from by simp)⟩
      case round =>
        obtain ⟨j, m, hj, hm, rfl, rfl, hw, hmk⟩ := hrel
        obtain rfl : wc = wr := hw.symm
        clear hw
        by_cases hlt : j < K
        · obtain ⟨p, hpk⟩ : ∃ p, bss[j]? = some p := ⟨_, List.getElem?_eq_getElem (by have := HN.out; omega)⟩
          have hpb := HBS.out p (List.mem_of_getElem? hpk)
          have HPr := S6.out.1.2.1
          obtain ⟨q, hq⟩ : ∃ q : Nat, q = min 5000 p.length := ⟨_, rfl⟩
          obtain ⟨m2, hm2⟩ : ∃ m2 : Nat, m2 = min 5000 (m + q) := ⟨_, rfl⟩
          have HS : Hid (m2 = min 5000 ((bss.take (j + 1)).flatten).length) := (show _ = _ from by
            have := hmk.out
            rw [flat_step hpk, List.length_append]
            omega)
          obtain ⟨b, off, au, cu, rfl, hcell, _⟩ := HPr.at hpk
          clear hpk hmk HPr HRE HD HJ HBS HN HM HK
          generalize p.length = pl at *
          have hmin1 : min (5000 : Int) (pl : Int) = (q : Int) := by omega
          have hmin2 : min (5000 : Int) ((m : Int) + (q : Int)) = (m2 : Int) := by omega
          have hq5 : q ≤ 5000 := by omega
          have hm5 : m2 ≤ 5000 := by omega
          clear hq hm2
          go_wp2_with fail
          go_roundw
          case rel => exact ⟨j + 1, m2, by omega, hm5, by go_num, by go_num, by simp, HS⟩
          case measure => simp [intOf]; omega
        · have hjK : j = K := by omega
          subst hjK
          clear hlt hj HBS
          by_cases hjr0 : jr = 0
          · subst hjr0
            have hre1 : re = if 5 < N ∨ 4000 < bss.flatten.length then 2 else 0 := by have := HRE.out; simpa using this
            by_cases hN5 : 5 < N
            · have hre2 : re = 2 := by rw [hre1, if_pos (.inl hN5)]
              have hM0 : M = 0 := by rw [HM.out, HD.out (by rw [hre2]; decide)]; rfl
              have HB : Hid (Below w.heap.size w wc) := S6.out.1.2.2.2.2
              subst hre2
              subst hM0
              clear HRE HD HJ HN HM HK hre1 hmk S6
              go_wp2_with fail
              go_ret
              exact ⟨rfl, HB.out⟩
            · have hfl : m = min 5000 bss.flatten.length := by
                have h1 := hmk.out
                have h2 := HK.out
                have h3 := HN.out
                rw [show j = bss.length by omega, List.take_length] at h1
                exact h1
              by_cases hm4 : 4000 < m
              · have hre2 : re = 2 := by rw [hre1, if_pos (.inr (by omega))]
                have hM0 : M = 0 := by rw [HM.out, HD.out (by rw [hre2]; decide)]; rfl
                have HB : Hid (Below w.heap.size w wc) := S6.out.1.2.2.2.2
                subst hre2
                subst hM0
                clear HRE HD HJ HN HM HK hre1 hmk S6 hfl
                go_wp2_with fail
                go_ret
                exact ⟨rfl, HB.out⟩
              · have hre2 : re = 0 := by rw [hre1, if_neg (by omega)]
                have hJ := HJ.out hre2 wc S6.out.1
                subst hre2
                clear HRE HD HJ HN HK hre1 hmk hfl
                go_wp2_with fail
                refine hJ.mono ?_
                rintro e w9 ⟨x, rfl, hx9, hb9⟩
                have S9 := S6.out.below hb9
                have hEq := eqb_same _ x D w9 S9.2 hx9
                have HB : Hid (Below w.heap.size w w9) := S9.1.2.2.2.2
                clear hJ S6 S9 hx9 hb9 HM c0 c1 c2
                go_wp2_with fail
                refine hEq.mono ?_
                rintro e w10 ⟨rfl, hb10⟩
                have HB2 : Hid (Below w.heap.size w w10) := HB.out.trans (hb10.mono HB.out.size)
                clear hEq HB hb10
                go_wp2_with fail
                go_ret
                exact ⟨rfl, HB2.out⟩
          · have hre2 : re = jr := by have := HRE.out; rw [if_pos hjr0] at this; exact this
            have hM0 : M = 0 := by rw [HM.out, HD.out (by rw [hre2]; exact hjr0)]; rfl
            have HB : Hid (Below w.heap.size w wc) := S6.out.1.2.2.2.2
            subst hre2
            subst hM0
            clear HRE HD HJ HN HM HK hmk S6
            go_wp2_with fail
            go_ret
            exact ⟨rfl, HB.out⟩
end Go.Proofs.YtkifihcficobnaaGreatDoor
