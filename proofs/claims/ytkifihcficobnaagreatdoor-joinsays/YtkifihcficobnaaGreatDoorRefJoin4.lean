/- What the reference's Joined does: Behind. -/
import Derived.Test.YtkifihcficobnaaGreatDoorRJoinE
import Derived.Deep.DeepCutAuto
import Derived.Deep.RegionWith
import Derived.BigQuiet
import Derived.Deep.QuietTactic
namespace Go.Proofs.YtkifihcficobnaaGreatDoor
open Go.RowKit Go.Gs
set_option linter.unusedVariables false

set_option maxRecDepth 100000 in
set_option maxHeartbeats 16000000 in
theorem joined_one (k n : Int) (word : List UInt8) (ao : Option Addr) (cap : Nat) (bss : List (List UInt8)) (w : World) (h1 : RList w (.slice ao bss.length cap) U bss) (hN5 : bss.length ≤ 5) (hT : bss.flatten.length ≤ 250000) (hE : KnownE w) (hsh : w.ShapedOpen Tryz.prog) :
    Calls Tryz.prog 36 #[.int .i64 1, .agg #[.int .i64 k, .string ⟨word.toArray⟩, .int .i64 n], .slice ao bss.length cap] w fun e w' => ∃ r, e = .returned r ∧ Reads w' r (jOut 1 ⟨k, word, n⟩ bss).length ((jOut 1 ⟨k, word, n⟩ bss).map U) ∧ Below w.heap.size w w' ∧ (∀ a n c, r = .slice (some a) n c → w.heap.size ≤ a.block) := by
  obtain ⟨i0, hi, hz0, hz1, hz2⟩ := info_parts infoStr
  have hcap : bss.length ≤ cap ∧ cap ≤ 9223372036854775807 := by
    obtain ⟨ao', cap', e, h1', h2'⟩ := h1.shape
    injection e with e1 e2 e3
    subst e3
    exact ⟨h1', by simpa [maxLen] using h2'⟩
  obtain ⟨hcN, hcm⟩ := hcap
  have HP : Hid (RList w (.slice ao bss.length cap) U bss) := h1
  have HE : Hid (KnownE w) := hE
  have HSH : Hid (w.ShapedOpen Tryz.prog) := hsh
  have HT : Hid (bss.flatten.length ≤ 250000) := hT
  have HJL : Hid ((ended (joined 1 ⟨k, word, n⟩ (bss.map lines))).length ≤ 900000) := by
    have h1 := joined_len6 1 ⟨k, word, n⟩ (fun h => absurd h (by decide)) (bss.map lines) (by have := flat_lines_count bss; omega) (by simpa using hN5)
    have h2 := flat_lines_len bss
    exact Nat.le_trans h1 (by omega)
  obtain ⟨N, hN⟩ : ∃ N, N = bss.length := ⟨_, rfl⟩
  have HN : Hid (N = bss.length) := hN
  rw [← hN] at hN5 hcN ⊢
  clear h1 hE hsh hT hN
  go_enter Tryz.func36, Tryz.ntmps36
  go_wp2_with fail
  go_loopw [7, 8, 22] (fun v7 s i wr => ∃ (j m : Nat), j ≤ N ∧ m ≤ 4000 * j ∧ i = .int .i64 j ∧ s = .int .i64 m ∧ Hid (m = sumTo bss j) ∧ Hid (J1 w (w.alloc (.cells #[.int .i64 k, .string ⟨word.toArray⟩, .int .i64 n] 23)) wr bss j v7)) (fun _ _ i _ => N - (intOf i).toNat)
  case atStart => exact ⟨0, 0, Nat.zero_le _, by omega, rfl, rfl, (show _ = _ by simp [sumTo, sumOf]), ⟨by simpa [linesTo] using World.ownsRow_nil _ (w.heap.size + 1) 9 1, Below.refl _ _⟩⟩
  case round =>
    obtain ⟨j, m, hj, hm, rfl, rfl, hms, hrel⟩ := hrel
    have HBw : Hid (Below w.heap.size w wr) := below_box' hrel.out.2
    have hws : w.heap.size + 1 ≤ wr.heap.size := by have := hrel.out.2.size; simpa using this
    by_cases hlt : j < N
    · obtain ⟨p, hpk⟩ : ∃ p, bss[j]? = some p := ⟨_, List.getElem?_eq_getElem (by have := HN.out; omega)⟩
      have HPK : Hid (bss[j]? = some p) := hpk
      have HPr : Hid (RList wr (.slice ao N cap) U bss) := by rw [HN.out]; exact HP.out.below HBw.out
      obtain ⟨b, off, au, cu, rfl, hcell, hru⟩ := HPr.out.at hpk
      have hpl : p.length ≤ 250000 := Nat.le_trans (flat_mem_le (List.mem_of_getElem? hpk)) HT.out
      have hlo := linesOf_new (.slice au p.length cu) p wr hru (sh_below HSH.out HBw.out) (by omega)
      have HLT : Hid _ := linesTo_len bss j
      have HLP : Hid _ := lines_length p
      have hSS : sumTo bss (j + 1) = m + headNum (lines p) := by rw [sumTo_step hpk, ← hms.out]
      have HLS : Hid (∀ s ∈ lines p, s.length ≤ 250000) := fun s hs => lines_shortG hs hpl
      have HHN : Hid _ := headNum_le (lines p)
      clear hpk hru hms
      obtain ⟨pl, hpl'⟩ : ∃ pl, pl = p.length := ⟨_, rfl⟩
      rw [← hpl'] at hlo hcell hpl HLP
      clear hpl'
      obtain ⟨L, hL⟩ : ∃ L, L = (lines p).length := ⟨_, rfl⟩
      have HL : Hid (L = (lines p).length) := hL
      rw [← hL] at hlo HLP
      have hLb : L ≤ 250000 := Nat.le_trans HLP.out hpl
      clear hL
      have hFb : (linesTo bss j).length ≤ 250000 := Nat.le_trans HLT.out HT.out
      go_wp2_with fail
      refine hlo.mono ?_
      rintro e w1 ⟨g, cl, rfl, hgn, hrd1, hb1⟩
      have HOW1 : Hid _ := owns_below hrel.out.1 hb1
      have HRD1 : Hid (Reads w1 (.slice (some ⟨g, 0, none⟩) L cl) (lines p).length ((lines p).map S)) := by have := hrd1; rw [HL.out] at this ⊢; exact this
      have hs1 : w.heap.size + 1 ≤ w1.heap.size := Nat.le_trans hws hb1.size
      have HB1 : Hid (Below wr.heap.size wr w1) := hb1
      have HGN : Hid (wr.heap.size ≤ g) := hgn
      have hclb : L ≤ cl ∧ cl ≤ 9223372036854775807 := by
        obtain ⟨_, ao', cap', e, e2, e3, _⟩ := id HRD1.out
        injection e with e4 e5 e6
        subst e6
        exact ⟨by rw [HL.out]; exact e2, by simpa [maxLen] using e3⟩
      obtain ⟨hcl1, hcl2⟩ := hclb
      have hown1 : w1.ownsRow (w.heap.size + 1) 9 1 u7 (linesTo bss j).length ((linesTo bss j).map S) := HOW1.out
      clear hlo hrd1 hb1 hgn HOW1
      go_wp2_with (at_builtin; refine wpList_append_own _ rfl (.tmp 28) (.tmp 29) 34 rfl (w.heap.size + 1) 9 i0 (.string ⟨#[]⟩) 1 16 Tryz.underlying34 hi hz0 hz1 hz2 rfl (by decide) _ _ _ rfl hown1 ⟨g, 0, none⟩ L cl ((lines p).map S) rfl ?c0 ?c1 ?c2 ?c3 ?c4 ?c5 ?_)
      case c0 => rw [List.length_map, Nat.mul_one]; exact HL.out.symm
      case c1 =>
        intro i u hi
        have hpos : (lines p).length ≠ 0 := by
          have hl := (List.getElem?_eq_some_iff.1 hi).1
          rw [List.length_map] at hl
          omega
        obtain ⟨_, ao', cap', e, _, _, h5⟩ := HRD1.out
        injection e with e1 e2 e3
        subst e1
        obtain ⟨b', off', e, hcc⟩ := h5 hpos
        injection e with e
        injection e with e1 e2
        subst e1 e2
        have hadd : (⟨g, 0, none⟩ : Addr).add i = ⟨g, 0 + i, none⟩ := by unfold Addr.add; split <;> simp_all
        rw [hadd]
        exact hcc i u hi
      case c2 => intro u hu; obtain ⟨x, _, rfl⟩ := List.mem_map.1 hu; rfl
      case c3 => unfold maxLen; omega
      case c4 => omega
      case c5 => exact hs1
      intro v7' w2 hown2 hgrow2 _
      have HJ2 : Hid (J1 w (w.alloc (.cells #[.int .i64 k, .string ⟨word.toArray⟩, .int .i64 n] 23)) w2 bss (j + 1) v7') := hrel.out.more HPK.out HB1.out HL.out hws hown2 hgrow2
      have HRD2 : Hid (Reads w2 (.slice (some ⟨g, 0, none⟩) L cl) (lines p).length ((lines p).map S)) := reads_grown HRD1.out hgrow2 (fun g' hg' e => by
        have h7 := (hrel.out.1.lt g' e).2
        simp only [Value.ownBlock, Option.some.injEq] at hg'
        have := HGN.out
        omega)
      clear hown2 hgrow2 hown1 HRD1 hrel HB1 HGN hcell
      cases hlp : lines p with
      | nil =>
        rw [hlp] at hSS HL
        have hL0 : L = 0 := HL.out
        subst hL0
        have hS0 : sumTo bss (j + 1) = m := hSS
        have HS0 : Hid (m = sumTo bss (j + 1)) := hS0.symm
        clear hSS hS0 HRD2 hlp
        go_wp2_with fail
        go_roundw
        case rel => exact ⟨j + 1, m, by omega, by omega, by go_num, rfl, HS0, HJ2⟩
        case measure => simp [intOf]; omega
      | cons x r =>
        have HXS : Hid (x.length ≤ 250000) := HLS.out x (by rw [hlp]; simp)
        rw [hlp, headNum_cons] at hSS
        rw [hlp] at HL HRD2
        have hLr : L = r.length + 1 := HL.out
        have hL0 : (0 : Int) < (L : Int) := by omega
        obtain ⟨b1, o1, sx, hb1, hcx, hsx, _, _⟩ := reads_first (by have := HRD2.out; rw [HL.out] at this; exact this)
        injection hb1 with hb1
        injection hb1 with hb1 hb2
        subst hb1 hb2
        obtain rfl : sx = ⟨x.toArray⟩ := by unfold S at hsx; injection hsx
        have HSS : Hid (sumTo bss (j + 1) = m + numOf x) := hSS
        have HB2 : Hid (Below w.heap.size w w2) := below_box' HJ2.out.2
        have hKE := HE.out.below HB2.out
        have hd : (⟨x.toArray⟩ : ByteArray).data.toList = x := rfl
        have hsz : (⟨x.toArray⟩ : ByteArray).size = x.length := by simp [ByteArray.size]
        have hxz : (⟨x.toArray⟩ : ByteArray).size ≤ 281474976710656 := by have := HXS.out; omega
        clear hSS hlp HRD2 HLS hsx hLr
        have HN0 : Hid _ := hKE
        by_cases hok : ∃ z, Lib.atoiAll x = .ok z
        · obtain ⟨z, hz⟩ := hok
          have hzb := Lib.atoiAll_bounds hz
          have hpa := parse_ok ⟨x.toArray⟩ z w2 hxz (by rw [hd]; exact hz)
          have HNUM : Hid _ := numOf_ok hz
          clear hz hd hsz hxz hKE
          obtain ⟨sx, hsx⟩ : ∃ sx : ByteArray, sx = ⟨x.toArray⟩ := ⟨_, rfl⟩
          have HSX : Hid (Value.string sx = S x) := by rw [hsx]; exact rfl
          rw [← hsx] at hpa hcx
          clear hsx
          go_wp2_with fail
          refine hpa.mono ?_
          rintro e w3 ⟨rfl, hb3⟩
          have HJ3 : Hid (J1 w (w.alloc (.cells #[.int .i64 k, .string ⟨word.toArray⟩, .int .i64 n] 23)) w3 bss (j + 1) v7') := HJ2.out.below hb3 (by have := HJ2.out.2.size; simpa using this)
          have hcx3 : w3.cell? ⟨g, 0, none⟩ = some (.string sx) := (hb3.cell (World.block_lt_of_cell? w2 _ hcx)).trans hcx
          have HK3 : Hid (Known w3) := (KnownE.below HN0.out hb3).1
          clear hpa hb3 hcx HJ2 HN0 HB2
          by_cases hz0 : 0 ≤ z
          · by_cases hz4 : z ≤ 4000
            · have q1 : decide (0 ≤ z) = true := decide_eq_true hz0
              have q2 : decide (z ≤ 4000) = true := decide_eq_true hz4
              obtain ⟨tx, htx⟩ : ∃ tx : ByteArray, tx = ⟨(Lib.itoa z).toArray⟩ := ⟨_, rfl⟩
              have cF : ∀ d os, Calls Tryz.prog 69 #[.int .i64 z, .int .i64 10] (Go.Sort.grow (redrawn w3 d) os) fun e w'' => e = .returned (.string tx) ∧ ∃ p : Regrown, w'' = Go.Sort.grow (redrawn w3 p.d) p.os := fun d os => Calls.regrown_of (by rw [htx]; exact format_val z _ hzb.1 hzb.2 (HK3.out.below (below_regrown w3 d os)))
              have hcr : ∀ d os, (Go.Sort.grow (redrawn w3 d) os).cell? ⟨g, 0, none⟩ = some (.string sx) := fun d os => cell_regrown hcx3 d os
              have heqb : (tx.toList == sx.toList) = decide (Lib.itoa z = x) := by
                have htx' : Value.string tx = S (Lib.itoa z) := by rw [htx]; rfl
                rw [str_data htx', str_data HSX.out]; by_cases h : Lib.itoa z = x <;> simp [h]
              clear htx
              by_cases heq : Lib.itoa z = x
              · have HS4 : Hid (sumTo bss (j + 1) = m + z.toNat) := (show _ = _ by rw [HSS.out, HNUM.out, if_pos ⟨hz0, hz4, heq⟩])
                rw [decide_eq_true heq] at heqb
                obtain ⟨zn, rfl⟩ := Int.eq_ofNat_of_zero_le hz0
                rw [Int.toNat_natCast] at HS4
                clear heq HNUM hcx3
                go_wp2_with fail
                refine wp_region_quiet_below (by kernel_rfl) (by kernel_rfl) ?_
                repeat (first | go_big_quiet_step (exact cF _ _) | quiet_step (exact cF _ _))
                refine wpQuiet_nil ?_
                intro _ hw'
                obtain ⟨⟨dq, osq⟩, hw''⟩ := hw'
                subst hw''
                have HJ4 : Hid (J1 w (w.alloc (.cells #[.int .i64 k, .string ⟨word.toArray⟩, .int .i64 n] 23)) (Go.Sort.grow (redrawn w3 dq) osq) bss (j + 1) v7') := HJ3.out.below (below_regrown w3 dq osq) (by have := HJ3.out.2.size; simpa using this)
                clear cF hcr HJ3
                go_wp2_with fail
                go_roundw
                case rel => exact ⟨j + 1, m + zn, by omega, by omega, by go_num, by go_num, HS4.out.symm, HJ4⟩
                case measure => simp [intOf]; omega
              · have HS4 : Hid (m = sumTo bss (j + 1)) := (show _ = _ by rw [HSS.out, HNUM.out, if_neg (fun h => heq h.2.2)]; rfl)
                rw [decide_eq_false heq] at heqb
                clear heq HNUM hcx3
                go_wp2_with fail
                refine wp_region_quiet_below (by kernel_rfl) (by kernel_rfl) ?_
                repeat (first | go_big_quiet_step (exact cF _ _) | quiet_step (exact cF _ _))
                refine wpQuiet_nil ?_
                intro _ hw'
                obtain ⟨⟨dq, osq⟩, hw''⟩ := hw'
                subst hw''
                have HJ4 : Hid (J1 w (w.alloc (.cells #[.int .i64 k, .string ⟨word.toArray⟩, .int .i64 n] 23)) (Go.Sort.grow (redrawn w3 dq) osq) bss (j + 1) v7') := HJ3.out.below (below_regrown w3 dq osq) (by have := HJ3.out.2.size; simpa using this)
                clear cF hcr HJ3
                go_wp2_with fail
                go_roundw
                case rel => exact ⟨j + 1, m, by omega, by omega, by go_num, rfl, HS4, HJ4⟩
                case measure => simp [intOf]; omega
            · have q1 : decide (0 ≤ z) = true := decide_eq_true hz0
              have q2 : decide (z ≤ 4000) = false := decide_eq_false hz4
              have HS4 : Hid (m = sumTo bss (j + 1)) := (show _ = _ by rw [HSS.out, HNUM.out, if_neg (fun h => hz4 h.2.1)]; rfl)
              go_wp2_with fail
              go_quiet (fail)
              go_wp2_with fail
              go_roundw
              case rel => exact ⟨j + 1, m, by omega, by omega, by go_num, rfl, HS4, HJ3.out.below (below_dn (Below.refl _ _) _) (by have := HJ3.out.2.size; simpa using this)⟩
              case measure => simp [intOf]; omega
          · have q1 : decide (0 ≤ z) = false := decide_eq_false hz0
            have HS4 : Hid (m = sumTo bss (j + 1)) := (show _ = _ by rw [HSS.out, HNUM.out, if_neg (fun h => hz0 h.1)]; rfl)
            go_wp2_with fail
            go_quiet (fail)
            go_wp2_with fail
            go_roundw
            case rel => exact ⟨j + 1, m, by omega, by omega, by go_num, rfl, HS4, HJ3.out.below (below_dn (Below.refl _ _) _) (by have := HJ3.out.2.size; simpa using this)⟩
            case measure => simp [intOf]; omega
        · have hpa := parse_bad ⟨x.toArray⟩ w2 hxz hKE (by rw [hd]; exact fun z h => hok ⟨z, h⟩)
          have HS4 : Hid (m = sumTo bss (j + 1)) := (show _ = _ by rw [HSS.out, numOf_bad (fun z h => hok ⟨z, h⟩)]; rfl)
          clear hok hd hsz hxz hKE
          go_wp2_with fail
          refine hpa.mono ?_
          rintro e w3 ⟨z, t, p', rfl, hb3⟩
          have HJ3 : Hid (J1 w (w.alloc (.cells #[.int .i64 k, .string ⟨word.toArray⟩, .int .i64 n] 23)) w3 bss (j + 1) v7') := HJ2.out.below hb3 (by have := HJ2.out.2.size; simpa using this)
          clear hpa hb3 HJ2 HB2 hcx
          go_wp2_with fail
          go_quiet (fail)
          go_wp2_with fail
          go_roundw
          case rel => exact ⟨j + 1, m, by omega, by omega, by go_num, rfl, HS4, HJ3.out.below (below_dn (Below.refl _ _) _) (by have := HJ3.out.2.size; simpa using this)⟩
          case measure => simp [intOf]; omega
    · obtain rfl : N = j := by omega
      have HRD : Hid (Reads wr u7 (linesTo bss N).length ((linesTo bss N).map S)) := Reads.of_owns hrel.out.1
      have HFL : Hid (linesTo bss N = joined 1 ⟨k, word, n⟩ (bss.map lines)) := (show _ = _ by rw [joined1, HN.out]; unfold linesTo; rw [List.take_length])
      rw [HFL.out] at HRD
      obtain ⟨_, o7, c7, rfl, _⟩ := id HRD.out
      clear hrel
      go_wp2_with fail
      refine (bytesOfN _ (joined 1 ⟨k, word, n⟩ (bss.map lines)) wr HRD.out HJL.out).mono ?_
      rintro e w5 ⟨r5, rfl, hr5, hb5, hn5⟩
      have HR5 : Hid (Reads w5 r5 (jOut 1 ⟨k, word, n⟩ bss).length ((jOut 1 ⟨k, word, n⟩ bss).map U)) := hr5
      have HB5 : Hid (Below w.heap.size w w5) := HBw.out.trans (hb5.mono HBw.out.size)
      have HN5 : Hid (∀ a n c, r5 = .slice (some a) n c → w.heap.size ≤ a.block) := (show ∀ a n c, r5 = .slice (some a) n c → w.heap.size ≤ a.block from fun a n c e => Nat.le_trans HBw.out.size (hn5 a n c e))
      clear hr5 hb5 hn5 HRD
      go_wp2_with fail
      go_ret
      exact ⟨_, rfl, HR5.out, HB5.out, HN5.out⟩
end Go.Proofs.YtkifihcficobnaaGreatDoor
