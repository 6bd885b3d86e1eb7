/- The sentence on joins within joins: sums. -/
import Derived.Test.YtkifihcficobnaaGreatDoorJNest3
namespace Go.Proofs.YtkifihcficobnaaGreatDoor
open Go.RowKit Go.Gs
set_option linter.unusedVariables false

set_option maxRecDepth 100000 in
set_option maxHeartbeats 16000000 in
theorem nest_three (k n : Int) (word : List UInt8) (oa ob od : Option Addr) (ca cb cd : Nat) (a b d : List UInt8) (w : World) (hw : word.length ≤ 9223372036854775807) (h1 : Reads w (.slice oa a.length ca) a.length (a.map U)) (h2 : Reads w (.slice ob b.length cb) b.length (b.map U)) (h3 : Reads w (.slice od d.length cd) d.length (d.map U)) (hE : KnownE w) (ha : a.length ≤ 1000000000000000) (hb : b.length ≤ 1000000000000000) (hd : d.length ≤ 1000000000000000) (hsm : a.length + b.length + d.length ≤ 2000) :
    Calls Tryz.prog 8 #[.int .i64 3, .agg #[.int .i64 k, .string ⟨word.toArray⟩, .int .i64 n], .slice oa a.length ca, .slice ob b.length cb, .slice od d.length cd] w fun e w' => e = .returned (.bool true) ∧ Below w.heap.size w w' := by
  have eg : ∀ args w, (callFunc 38 args).run Tryz.prog w = .ok (.enter 38 args) w := enters_of Tryz.func38 (by kernel_rfl) rfl
  have N0 : Hid (NA w _ 3 ⟨0, [], 0⟩ (.slice oa a.length ca) (.slice ob b.length cb) (.slice od d.length cd) a b d) := NA.start (how := 3) (c := ⟨0, [], 0⟩) (t := 3) (t' := 23) h1 h2 h3 hE
  have hC := fun W => jcheck_is 3 ⟨0, [], 0⟩ W (Nat.zero_le _)
  have HJ : Hid (jchk 3 ⟨0, [], 0⟩ = 0) := (show _ = _ by decide)
  have HW : Hid ((⟨0, [], 0⟩ : Cmd).word.length ≤ 9223372036854775807) := (Nat.zero_le _)
  rw [HJ.out] at hC
  unfold Cmd.v at hC
  simp only at hC
  have HLB1 : Hid ((jOut 3 ⟨0, [], 0⟩ [a, b]).length + d.length ≤ 4000) := by have := jOut_two_len 3 ⟨0, [], 0⟩ HJ.out a b (by omega); exact (show _ ≤ _ by omega)
  have HLB2 : Hid (a.length + (jOut 3 ⟨0, [], 0⟩ [b, d]).length ≤ 4000) := by have := jOut_two_len 3 ⟨0, [], 0⟩ HJ.out b d (by omega); exact (show _ ≤ _ by omega)
  clear h1 h2 h3 hE hw
  go_enter Tryz.func8, Tryz.ntmps8
  go_wp2_with fail
  refine (spliced_true _ N0.out.2.2.2.2.1).mono ?_
  rintro e w1 ⟨rfl, hb1⟩
  have N1 : Hid (NA w w1 3 ⟨0, [], 0⟩ (.slice oa a.length ca) (.slice ob b.length cb) (.slice od d.length cd) a b d) := N0.out.below hb1
  obtain ⟨x0, x1, x2, x3⟩ := N1.out.1
  clear hb1 N0
  go_wp2_with fail
  refine (hC _).mono ?_
  rintro e w2 ⟨rfl, hb2⟩
  have N2 : Hid (NA w w2 3 ⟨0, [], 0⟩ (.slice oa a.length ca) (.slice ob b.length cb) (.slice od d.length cd) a b d) := N1.out.below hb2
  clear hb2 N1 hC x0 x1 x2 x3
  have hs := nest_small N2.out ha hb hd
  rw [decide_eq_true hsm] at hs
  go_wp2_with fail
  refine hs.mono ?_
  rintro e w3 ⟨rfl, hb3⟩
  have N3 : Hid (NA w w3 3 ⟨0, [], 0⟩ (.slice oa a.length ca) (.slice ob b.length cb) (.slice od d.length cd) a b d) := N2.out.below hb3
  clear hb3 hs N2
  obtain ⟨x0, x1, x2, x3⟩ := N3.out.1
  go_wp2_with fail
  refine (nest_do3 N3.out HJ.out HW.out N3.out.2.1 N3.out.2.2.1 N3.out.2.2.2.1 (by omega)).mono ?_
  rintro e w11 ⟨ow, nw, cw, rfl, WH, N11, B11⟩
  obtain ⟨z0, z1, z2, z3⟩ := N11.out.1
  clear B11 N3 x0 x1 x2 x3
  obtain ⟨z, hz⟩ : ∃ z, z = sumOf [lines a, lines b, lines d] := ⟨_, rfl⟩
  have hzb : z ≤ 12000 := by rw [hz]; exact sumOf_le _
  have HJO : Hid (jOut 3 ⟨0, [], 0⟩ [a, b, d] = Lib.itoa (z : Int) ++ [10]) := (show _ = _ by rw [jOut3, hz]; rfl)
  have HZ : Hid (z = sumOf [lines a, lines b, lines d]) := hz
  clear hz
  have hlen := reads_len WH.out
  have hcw : nw ≤ cw ∧ cw ≤ 9223372036854775807 := by
    obtain ⟨_, ao, cap, e, e2, e3, _⟩ := id WH.out
    injection e with e4 e5 e6
    subst e6
    exact ⟨by omega, by simpa [maxLen] using e3⟩
  obtain ⟨hcw1, hcw2⟩ := hcw
  rw [HJO.out] at hlen
  have hwp := WH.out
  rw [HJO.out] at hwp
  have hcv := conv_any (reads_prefix hwp)
  have hat := atoi_ok ⟨(Lib.itoa (z : Int)).toArray⟩ z w11 (by
    have h := itoa_noFeed 0
    have : (⟨(Lib.itoa (z : Int)).toArray⟩ : ByteArray).size = (Lib.itoa (z : Int)).length := by simp [ByteArray.size]
    rw [this]
    have h5 : (Lib.itoa (z : Int)).length ≤ 5 := by
      unfold Lib.itoa
      rw [if_neg (by omega)]
      exact decDigits_len 4 _ (by simp; omega)
    omega) (atoiAll_itoa z (by omega))
  have hil : (Lib.itoa (z : Int)).length ≤ 5 := by
    unfold Lib.itoa
    rw [if_neg (by omega)]
    exact decDigits_len 4 _ (by simp; omega)
  rw [List.length_append, List.length_singleton] at hlen
  subst hlen
  clear hwp
  obtain ⟨L, hL⟩ : ∃ L, L = (Lib.itoa (z : Int)).length := ⟨_, rfl⟩
  rw [← hL] at hcv hil WH hcw1 ⊢
  clear hL
  generalize (⟨(Lib.itoa (z : Int)).toArray⟩ : ByteArray) = sz at *
  go_wp2_with fail
  refine hat.mono ?_
  rintro e w12 ⟨rfl, hb12⟩
  have N12 : Hid (NA w w12 3 ⟨0, [], 0⟩ (.slice oa a.length ca) (.slice ob b.length cb) (.slice od d.length cd) a b d) := N11.out.below hb12
  have WH12 : Hid (Reads w12 (.slice ow (L + 1) cw) (jOut 3 ⟨0, [], 0⟩ [a, b, d]).length ((jOut 3 ⟨0, [], 0⟩ [a, b, d]).map U)) := WH.out.below hb12
  obtain ⟨x0, x1, x2, x3⟩ := N12.out.1
  clear hb12 N11 WH hat hcv z0 z1 z2 z3
  go_wp2_with fail
  refine (nest_do3 N12.out HJ.out HW.out N12.out.2.2.2.1 N12.out.2.1 N12.out.2.2.1 (by omega)).mono ?_
  rintro e w13 ⟨o13, n13, c13, rfl, R13, N13, B13⟩
  have WH13 : Hid (Reads w13 (.slice ow (L + 1) cw) (jOut 3 ⟨0, [], 0⟩ [a, b, d]).length ((jOut 3 ⟨0, [], 0⟩ [a, b, d]).map U)) := WH12.out.below B13.out
  have heq := nest_eq (jOut_comm3 (c := ⟨0, [], 0⟩) a b d) WH13.out R13.out
  clear B13 N12 WH12 R13 x0 x1 x2 x3
  go_wp2_with fail
  refine heq.mono ?_
  rintro e w14 ⟨rfl, hb14⟩
  have N14 : Hid (NA w w14 3 ⟨0, [], 0⟩ (.slice oa a.length ca) (.slice ob b.length cb) (.slice od d.length cd) a b d) := N13.out.below hb14
  have WH : Hid (Reads w14 (.slice ow (L + 1) cw) (jOut 3 ⟨0, [], 0⟩ [a, b, d]).length ((jOut 3 ⟨0, [], 0⟩ [a, b, d]).map U)) := WH13.out.below hb14
  obtain ⟨x0, x1, x2, x3⟩ := N14.out.1
  clear hb14 N13 WH13 heq
  by_cases hz4 : 4000 < z
  · go_wp2_with fail
    go_ret
    exact ⟨rfl, N14.out.2.2.2.2.2⟩
  · have HL : Hid (jOut 3 ⟨0, [], 0⟩ [jOut 3 ⟨0, [], 0⟩ [a, b], d] = jOut 3 ⟨0, [], 0⟩ [a, b, d]) := nest_says_left _ _ HJ.out _ _ _ (fun h => absurd h (by decide)) (fun _ => by rw [← HZ.out]; omega) (fun h => absurd h (by decide))
    have HR : Hid (jOut 3 ⟨0, [], 0⟩ [a, jOut 3 ⟨0, [], 0⟩ [b, d]] = jOut 3 ⟨0, [], 0⟩ [a, b, d]) := nest_says_right _ _ HJ.out _ _ _ (fun h => absurd h (by decide)) (fun _ => by rw [← HZ.out]; omega) (fun h => absurd h (by decide))
    go_wp2_with fail
    refine (nest_do2 N14.out HJ.out HW.out N14.out.2.1 N14.out.2.2.1 (by omega)).mono ?_
    rintro e w20 ⟨o20, n20, c20, rfl, R20, N20, B20⟩
    have WH20 : Hid (Reads w20 (.slice ow (L + 1) cw) (jOut 3 ⟨0, [], 0⟩ [a, b, d]).length ((jOut 3 ⟨0, [], 0⟩ [a, b, d]).map U)) := WH.out.below B20.out
    clear WH B20
    go_wp2_with fail
    refine (nest_do2 N20.out HJ.out HW.out R20.out N20.out.2.2.2.1 HLB1.out).mono ?_
    rintro e w21 ⟨o21, n21, c21, rfl, R21, N21, B21⟩
    have WH21 : Hid (Reads w21 (.slice ow (L + 1) cw) (jOut 3 ⟨0, [], 0⟩ [a, b, d]).length ((jOut 3 ⟨0, [], 0⟩ [a, b, d]).map U)) := WH20.out.below B21.out
    have heq1 := nest_eq HL.out R21.out WH21.out
    clear WH20 B21 R20 N20 R21
    go_wp2_with fail
    refine heq1.mono ?_
    rintro e w22 ⟨rfl, hb22⟩
    have N22 : Hid (NA w w22 3 ⟨0, [], 0⟩ (.slice oa a.length ca) (.slice ob b.length cb) (.slice od d.length cd) a b d) := N21.out.below hb22
    have WH22 : Hid (Reads w22 (.slice ow (L + 1) cw) (jOut 3 ⟨0, [], 0⟩ [a, b, d]).length ((jOut 3 ⟨0, [], 0⟩ [a, b, d]).map U)) := WH21.out.below hb22
    clear WH21 hb22 N21 heq1
    go_wp2_with fail
    refine (nest_do2 N22.out HJ.out HW.out N22.out.2.2.1 N22.out.2.2.2.1 (by omega)).mono ?_
    rintro e w23 ⟨o23, n23, c23, rfl, R23, N23, B23⟩
    have WH23 : Hid (Reads w23 (.slice ow (L + 1) cw) (jOut 3 ⟨0, [], 0⟩ [a, b, d]).length ((jOut 3 ⟨0, [], 0⟩ [a, b, d]).map U)) := WH22.out.below B23.out
    clear WH22 B23 N22
    go_wp2_with fail
    refine (nest_do2 N23.out HJ.out HW.out N23.out.2.1 R23.out HLB2.out).mono ?_
    rintro e w24 ⟨o24, n24, c24, rfl, R24, N24, B24⟩
    have WH24 : Hid (Reads w24 (.slice ow (L + 1) cw) (jOut 3 ⟨0, [], 0⟩ [a, b, d]).length ((jOut 3 ⟨0, [], 0⟩ [a, b, d]).map U)) := WH23.out.below B24.out
    have heq2 := nest_eq HR.out R24.out WH24.out
    clear WH23 B24 N23 R23 R24 WH24
    go_wp2_with fail
    refine heq2.mono ?_
    rintro e w25 ⟨rfl, hb25⟩
    have N25 : Hid _ := N24.out.below hb25
    clear hb25 N24 heq2
    go_wp2_with fail
    go_ret
    exact ⟨rfl, N25.out.2.2.2.2.2⟩

end Go.Proofs.YtkifihcficobnaaGreatDoor
