/- The walk of the sentence on a command's parts, where all is right. -/
import Derived.Test.YtkifihcficobnaaDoorCmdParts
import Derived.Deep.CutBlock
namespace Go.Proofs.YtkifihcficobnaaDoor
open Go.RowKit Go.Gs
set_option linter.unusedVariables false

/-- What the walk stands on behind the sorting. -/
def PS (w : World) (vb vA vS : Value) (b : List UInt8) (A : List (List UInt8)) (sb : List UInt8) : Prop := Reads w vb b.length (b.map U) ∧ Known w ∧ Reads w vA A.length (A.map S) ∧ Reads w vS sb.length (sb.map U)
theorem PS.below {w w' : World} {vb vA vS : Value} {b : List UInt8} {A : List (List UInt8)} {sb : List UInt8} (h : PS w vb vA vS b A sb) (hb : Below w.heap.size w w') : PS w' vb vA vS b A sb :=
  ⟨h.1.below hb, h.2.1.below hb, h.2.2.1.below hb, h.2.2.2.below hb⟩

theorem chk_sort : chk ⟨6, [], 0⟩ = 0 := by decide
theorem chk_once : chk ⟨7, [], 0⟩ = 0 := by decide
theorem chk_head (n : Int) (h1 : 1 ≤ n) (h2 : n ≤ 1000) : chk ⟨9, [], n⟩ = 0 := by
  unfold chk
  have : ¬ (n < 1 ∨ 1000 < n) := by omega
  simp [uses, this]
theorem chk_tail (n : Int) (h1 : 1 ≤ n) (h2 : n ≤ 1000) : chk ⟨10, [], n⟩ = 0 := by
  unfold chk
  have : ¬ (n < 1 ∨ 1000 < n) := by omega
  simp [uses, this]
theorem do_few (c : Cmd) (hc : chk c = 0) (b : List UInt8) (hb : b.length ≤ 2000) : (doOut c b).length ≤ 4000 := by
  have := doOut_len c hc b (by omega)
  omega

theorem allp_some {w : World} {t : TypeId} {o : Option Addr} {N c : Nat} {A : List (List UInt8)} (h : ∃ B, w.ownsRow B t 1 (.slice o N c) A.length (A.map S)) (h0 : ¬ A.length = 0) : ∃ g, o = some ⟨g, 0, none⟩ ∧ A.length ≤ c ∧ c ≤ maxLen := by
  obtain ⟨B, h⟩ := h
  rcases h.2 with ⟨_, e⟩ | ⟨g, cap, cur, e, _, _, h1, h2, _⟩
  · exact absurd e h0
  · injection e with e1 e2 e3
    subst e3
    exact ⟨g, e1, h1, h2⟩
theorem pof_drew {w : World} {o : Option Addr} {N cp : Nat} {bs : List UInt8} (h : Reads w (.slice o N cp) bs.length (bs.map U)) (hl : bs.length ≤ 4000) (ls : List (List UInt8)) (hls : lines bs = ls) (M : Nat) (hM : ls.length = M) :
    Calls Tryd.prog 20 #[.slice o N cp] w.drew fun e w' => ∃ o cp, e = .returned (.slice o M cp) ∧ Hid (Reads w' (.slice o M cp) ls.length (ls.map S)) ∧ Hid (Below w.heap.size w w') := by
  refine (pof (h.below (Below.refl _ _).drew) hl ls hls M hM).mono ?_
  rintro e w' ⟨o2, c2, rfl, h1, h2⟩
  exact ⟨o2, c2, rfl, Reads.of_owns h1.out, ⟨h2.os, h2.tape, h2.output, h2.size, h2.block⟩⟩
theorem pequal_take {w16 w17 : World} {u vb vS : Value} {g cA m : Nat} {b sb : List UInt8} {A H : List (List UInt8)} (he : H = A.take (m + 1)) (h1 : Reads w17 u H.length (H.map S)) (hP : PS w16 vb (.slice (some ⟨g, 0, none⟩) A.length cA) vS b A sb) (hB : Below w16.heap.size w16 w17) (hm : m + 1 ≤ A.length) :
    Calls Tryd.prog 13 #[u, .slice (some ⟨g, 0, none⟩) (m + 1) cA] w17 fun e w' => e = .returned (.bool true) ∧ Hid (Below w16.heap.size w16 w') := by
  have h2 := reads_take (m := m + 1) (hP.2.2.1.below hB) hm
  rw [← List.map_take] at h2
  have h3 : Reads w17 (.slice (some ⟨g, 0, none⟩) (m + 1) cA) (A.take (m + 1)).length ((A.take (m + 1)).map S) := by
    rw [List.length_take, Nat.min_eq_left hm]
    exact h2
  refine (pequal he h1 h3).mono ?_
  rintro e w' ⟨rfl, hb⟩
  exact ⟨rfl, hB.trans (hb.mono hB.size)⟩

set_option maxRecDepth 100000 in
set_option maxHeartbeats 16000000 in
theorem parts_ok (word : List UInt8) (nn : Int) (hk1 : -9223372036854775808 ≤ nn) (hk2 : nn ≤ 9223372036854775807) (ob : Option Addr) (cb : Nat) (b : List UInt8) (w : World) (hw : word.length ≤ 9223372036854775807) (h2 : Reads w (.slice ob b.length cb) b.length (b.map U)) (h3 : Known w) (hc : chk ⟨1, word, 0⟩ = 0) (hsm : b.length ≤ 2000) :
    Calls Tryd.prog 4 #[.string ⟨word.toArray⟩, .slice ob b.length cb, .int .i64 nn] w fun e w' => e = .returned (.bool true) ∧ Below w.heap.size w w' := by
  have R0 : Hid (Reads w (.slice ob b.length cb) b.length (b.map U)) := h2
  have K0 : Hid (Known w) := h3
  have HC1 : Hid (chk ⟨1, word, 0⟩ = 0) := hc
  have HC2 : Hid (chk ⟨2, word, 0⟩ = 0) := (chk_drop word).trans hc
  have HW : Hid _ := hw
  obtain ⟨A, hA⟩ : ∃ A, lines b = A := ⟨_, rfl⟩
  obtain ⟨K, hK⟩ : ∃ K, lines (doOut ⟨1, word, 0⟩ b) = K := ⟨_, rfl⟩
  obtain ⟨D, hD⟩ : ∃ D, lines (doOut ⟨2, word, 0⟩ b) = D := ⟨_, rfl⟩
  obtain ⟨Z, hZ⟩ : ∃ Z, K ++ D = Z := ⟨_, rfl⟩
  obtain ⟨T, hT⟩ : ∃ T, lines (doOut ⟨6, [], 0⟩ b) = T := ⟨_, rfl⟩
  have hAl : A.length ≤ 2000 := by have := lines_length b; rw [hA] at this; omega
  have HZA : Hid (Z.length = A.length) := by rw [← hZ, ← hK, ← hD, lines_keep, lines_drop, hA, keep_drop_len]; exact rfl
  have HTS : Hid (T = sortOf A) := by
    rw [← hT, lines_sort, hA]
    exact rfl
  have HTZ : Hid (T = sortOf Z) := by
    have h := HTS.out
    rw [h, ← hZ, ← hK, ← hD, lines_keep, lines_drop, hA, keep_drop]
    exact rfl
  have HTA : Hid (T.length = A.length) := by rw [HTS.out, sortOf_len]; exact rfl
  have HA : Hid _ := hA
  have HK : Hid _ := hK
  have HD : Hid _ := hD
  have HZ : Hid _ := hZ
  have HT : Hid _ := hT
  have HF1 : Hid _ := do_few ⟨1, word, 0⟩ hc b hsm
  have HF2 : Hid _ := do_few ⟨2, word, 0⟩ ((chk_drop word).trans hc) b hsm
  have HF6 : Hid _ := do_few ⟨6, [], 0⟩ chk_sort b hsm
  clear h2 h3 hc hw hA hK hD hZ hT
  go_enter Tryd.func4, Tryd.ntmps4
  go_wp2_with fail
  refine (pdo ⟨1, word, 0⟩ HC1.out HW.out R0.out K0.out (by omega)).mono ?_
  rintro e w1 ⟨o1, c1, N1, rfl, X1, hb1⟩
  have R1 : Hid (Reads w1 (.slice ob b.length cb) b.length (b.map U)) := R0.out.below hb1
  have K1 : Hid (Known w1) := K0.out.below hb1
  have B1 : Hid (Below w.heap.size w w1) := hb1
  clear hb1 R0 K0
  go_wp2_with fail
  refine (pdo ⟨2, word, 0⟩ HC2.out HW.out R1.out K1.out (by omega)).mono ?_
  rintro e w2 ⟨o2, c2, N2, rfl, Y2, hb2⟩
  have R2 : Hid (Reads w2 (.slice ob b.length cb) b.length (b.map U)) := R1.out.below hb2
  have X2 : Hid (Reads w2 (.slice o1 N1 c1) (doOut ⟨1, word, 0⟩ b).length ((doOut ⟨1, word, 0⟩ b).map U)) := X1.out.below hb2
  have K2 : Hid (Known w2) := K1.out.below hb2
  have B2 : Hid (Below w.heap.size w w2) := B1.out.trans (hb2.mono B1.out.size)
  clear hb2 R1 K1 B1 X1
  go_wp2_with fail
  refine (did_true _ K2.out).mono ?_
  rintro e w3 ⟨rfl, hb3⟩
  have R3 : Hid (Reads w3 (.slice ob b.length cb) b.length (b.map U)) := R2.out.below hb3
  have X3 : Hid (Reads w3 (.slice o1 N1 c1) (doOut ⟨1, word, 0⟩ b).length ((doOut ⟨1, word, 0⟩ b).map U)) := X2.out.below hb3
  have Y3 : Hid (Reads w3 (.slice o2 N2 c2) (doOut ⟨2, word, 0⟩ b).length ((doOut ⟨2, word, 0⟩ b).map U)) := Y2.out.below hb3
  have K3 : Hid (Known w3) := K2.out.below hb3
  have B3 : Hid (Below w.heap.size w w3) := B2.out.trans (hb3.mono B2.out.size)
  clear hb3 K2 B2 R2 X2 Y2
  go_wp2_with fail
  refine (psmall R3.out (by omega)).mono ?_
  rintro e w4 ⟨rfl, hb4⟩
  have R4 : Hid (Reads w4 (.slice ob b.length cb) b.length (b.map U)) := R3.out.below hb4
  have X4 : Hid (Reads w4 (.slice o1 N1 c1) (doOut ⟨1, word, 0⟩ b).length ((doOut ⟨1, word, 0⟩ b).map U)) := X3.out.below hb4
  have Y4 : Hid (Reads w4 (.slice o2 N2 c2) (doOut ⟨2, word, 0⟩ b).length ((doOut ⟨2, word, 0⟩ b).map U)) := Y3.out.below hb4
  have K4 : Hid (Known w4) := K3.out.below hb4
  have B4 : Hid (Below w.heap.size w w4) := B3.out.trans (hb4.mono B3.out.size)
  have hd : decide (b.length ≤ 2000) = true := decide_eq_true hsm
  rw [hd]
  clear hb4 K3 B3 R3 X3 Y3 hd
  go_wp2_with fail
  refine (pof R4.out (by omega) A HA.out A.length rfl).mono ?_
  rintro e w5 ⟨oA, cA, rfl, A5, hb5⟩
  have R5 : Hid (Reads w5 (.slice ob b.length cb) b.length (b.map U)) := R4.out.below hb5
  have X5 : Hid (Reads w5 (.slice o1 N1 c1) (doOut ⟨1, word, 0⟩ b).length ((doOut ⟨1, word, 0⟩ b).map U)) := X4.out.below hb5
  have Y5 : Hid (Reads w5 (.slice o2 N2 c2) (doOut ⟨2, word, 0⟩ b).length ((doOut ⟨2, word, 0⟩ b).map U)) := Y4.out.below hb5
  have AA5 : Hid (Reads w5 (.slice oA A.length cA) A.length (A.map S)) := Reads.of_owns A5.out
  have OA : Hid (∃ B, w5.ownsRow B 9 1 (.slice oA A.length cA) A.length (A.map S)) := ⟨_, A5.out⟩
  have K5 : Hid (Known w5) := K4.out.below hb5
  have B5 : Hid (Below w.heap.size w w5) := B4.out.trans (hb5.mono B4.out.size)
  clear hb5 K4 B4 R4 X4 Y4 A5
  go_wp2_with fail
  refine (pof X5.out HF1.out K HK.out K.length rfl).mono ?_
  rintro e w6 ⟨oK, cK, rfl, Q6, hb6⟩
  have R6 : Hid (Reads w6 (.slice ob b.length cb) b.length (b.map U)) := R5.out.below hb6
  have Y6 : Hid (Reads w6 (.slice o2 N2 c2) (doOut ⟨2, word, 0⟩ b).length ((doOut ⟨2, word, 0⟩ b).map U)) := Y5.out.below hb6
  have AA6 : Hid (Reads w6 (.slice oA A.length cA) A.length (A.map S)) := AA5.out.below hb6
  have KK6 : Hid (Reads w6 (.slice oK K.length cK) K.length (K.map S)) := Reads.of_owns Q6.out
  have K6 : Hid (Known w6) := K5.out.below hb6
  have B6 : Hid (Below w.heap.size w w6) := B5.out.trans (hb6.mono B5.out.size)
  clear hb6 K5 R5 X5 Y5 AA5 Q6 B5
  go_wp2_with fail
  refine (pof Y6.out HF2.out D HD.out D.length rfl).mono ?_
  rintro e w7 ⟨oD, cD, rfl, Q7, hb7⟩
  have R7 : Hid (Reads w7 (.slice ob b.length cb) b.length (b.map U)) := R6.out.below hb7
  have AA7 : Hid (Reads w7 (.slice oA A.length cA) A.length (A.map S)) := AA6.out.below hb7
  have KK7 : Hid (Reads w7 (.slice oK K.length cK) K.length (K.map S)) := KK6.out.below hb7
  have DD7 : Hid (Reads w7 (.slice oD D.length cD) D.length (D.map S)) := Reads.of_owns Q7.out
  have K7 : Hid (Known w7) := K6.out.below hb7
  have B7 : Hid (Below w.heap.size w w7) := B6.out.trans (hb7.mono B6.out.size)
  clear hb7 K6 R6 Y6 AA6 KK6 Q7 B6
  go_wp2_with fail
  refine (pcat KK7.out DD7.out HZ.out (by have := HZA.out; omega) A.length HZA.out).mono ?_
  rintro e w8 ⟨oZ, cZ, rfl, Q8, hb8⟩
  have HB8 : Hid (Below w7.heap.size w7 w8) := hb8
  clear hb8 KK7 DD7
  go_wp2_with fail
  refine (psort (w0 := w7) Q8.out (by have := HZA.out; omega) HB8.out).mono ?_
  rintro e w9 ⟨rfl, ZZ9, HB9⟩
  have R9 : Hid (Reads w9 (.slice ob b.length cb) b.length (b.map U)) := R7.out.below HB9.out
  have AA9 : Hid (Reads w9 (.slice oA A.length cA) A.length (A.map S)) := AA7.out.below HB9.out
  have K9 : Hid (Known w9) := K7.out.below HB9.out
  have B9 : Hid (Below w.heap.size w w9) := B7.out.trans (HB9.out.mono B7.out.size)
  clear HB8 HB9 R7 AA7 K7 B7 Q8
  go_wp2_with fail
  refine (pdo ⟨6, [], 0⟩ chk_sort (by decide) R9.out K9.out (by omega)).mono ?_
  rintro e w10 ⟨oS, cS, NS, rfl, S10, hb10⟩
  have P10 : Hid (PS w10 (.slice ob b.length cb) (.slice oA A.length cA) (.slice oS NS cS) b A (doOut ⟨6, [], 0⟩ b)) := ⟨R9.out.below hb10, K9.out.below hb10, AA9.out.below hb10, S10.out⟩
  have ZZ10 : Hid (Reads w10 (.slice oZ A.length cZ) (sortOf Z).length ((sortOf Z).map S)) := ZZ9.out.below hb10
  have B10 : Hid (Below w.heap.size w w10) := B9.out.trans (hb10.mono B9.out.size)
  clear hb10 R9 AA9 K9 B9 ZZ9 S10
  go_wp2_with fail
  refine (pof P10.out.2.2.2 HF6.out T HT.out A.length HTA.out).mono ?_
  rintro e w11 ⟨oT, cT, rfl, Q11, hb11⟩
  have P11 : Hid (PS w11 (.slice ob b.length cb) (.slice oA A.length cA) (.slice oS NS cS) b A (doOut ⟨6, [], 0⟩ b)) := P10.out.below hb11
  have ZZ11 : Hid (Reads w11 (.slice oZ A.length cZ) (sortOf Z).length ((sortOf Z).map S)) := ZZ10.out.below hb11
  have B11 : Hid (Below w.heap.size w w11) := B10.out.trans (hb11.mono B10.out.size)
  clear hb11 P10 ZZ10 B10
  go_wp2_with fail
  refine (pequal HTZ.out (Reads.of_owns Q11.out) ZZ11.out).mono ?_
  rintro e w12 ⟨rfl, hb12⟩
  have P12 : Hid (PS w12 (.slice ob b.length cb) (.slice oA A.length cA) (.slice oS NS cS) b A (doOut ⟨6, [], 0⟩ b)) := P11.out.below hb12
  have B12 : Hid (Below w.heap.size w w12) := B11.out.trans (hb12.mono B11.out.size)
  clear hb12 P11 ZZ11 B11 Q11
  go_wp2_with fail
  refine (pof P12.out.2.2.2 HF6.out T HT.out A.length HTA.out).mono ?_
  rintro e w13 ⟨oT2, cT2, rfl, Q13, hb13⟩
  have P13 : Hid (PS w13 (.slice ob b.length cb) (.slice oA A.length cA) (.slice oS NS cS) b A (doOut ⟨6, [], 0⟩ b)) := P12.out.below hb13
  have B13 : Hid (Below w.heap.size w w13) := B12.out.trans (hb13.mono B12.out.size)
  have HSo : Hid (T.Pairwise (fun x y => x ≤ y)) := by rw [HTS.out]; exact sortOf_sorted A
  clear hb13 P12 B12
  go_wp2_with fail
  refine (psorted (Reads.of_owns Q13.out) HSo.out (by have := HTA.out; omega)).mono ?_
  rintro e w14 ⟨rfl, hb14⟩
  have P14 : Hid (PS w14 (.slice ob b.length cb) (.slice oA A.length cA) (.slice oS NS cS) b A (doOut ⟨6, [], 0⟩ b)) := P13.out.below hb14
  have B14 : Hid (Below w.heap.size w w14) := B13.out.trans (hb14.mono B13.out.size)
  clear hb14 P13 B13 Q13 HSo
  by_cases hA0 : A.length = 0
  · go_wp2_with fail
    go_ret
    exact ⟨rfl, B14.out⟩
  · obtain ⟨M, hM⟩ : ∃ M : Nat, M = min A.length 1000 := ⟨_, rfl⟩
    have hmin : min (A.length : Int) 1000 = (M : Int) := by omega
    have hM1 : 1 ≤ M := by omega
    have hM2 : M ≤ 1000 := by omega
    have hM3 : M ≤ A.length := by omega
    obtain ⟨gA, hgA, hcA1, hcA2⟩ := allp_some OA.out hA0
    subst hgA
    have hcA3 : cA ≤ 9223372036854775807 := by simpa [maxLen] using hcA2
    clear hM OA hcA2
    go_wp2_with fail
    refine (at_is nn M w14 hk1 hk2 hM1 (by omega)).mono ?_
    rintro e w15 ⟨m, hm, rfl, hw15⟩
    obtain rfl : w14 = w15 := hw15.symm
    clear hw15
    have hm1 : m + 1 ≤ A.length := by omega
    have HC9 : Hid (chk ⟨9, [], (m : Int) + 1⟩ = 0) := chk_head _ (by omega) (by omega)
    have HF9 : Hid _ := do_few ⟨9, [], (m : Int) + 1⟩ HC9.out b hsm
    obtain ⟨H, hH⟩ : ∃ H, lines (doOut ⟨9, [], (m : Int) + 1⟩ b) = H := ⟨_, rfl⟩
    have HHA : Hid (H = A.take (m + 1)) := by
      rw [← hH, lines_head, HA.out, show ((m : Int) + 1).toNat = m + 1 by omega]
      exact rfl
    have HHl : Hid (H.length = m + 1) := by
      rw [HHA.out, List.length_take]
      exact Nat.min_eq_left hm1
    have HH : Hid _ := hH
    clear hH
    go_wp2_with fail
    refine (pdo ⟨9, [], (m : Int) + 1⟩ HC9.out (Nat.zero_le _) P14.out.1 P14.out.2.1 (by omega)).mono ?_
    rintro e w16 ⟨oH, cH, NH, rfl, X16, hb16⟩
    have P16 : Hid (PS w16 (.slice ob b.length cb) (.slice (some ⟨gA, 0, none⟩) A.length cA) (.slice oS NS cS) b A (doOut ⟨6, [], 0⟩ b)) := P14.out.below hb16
    have B16 : Hid (Below w.heap.size w w16) := B14.out.trans (hb16.mono B14.out.size)
    clear hb16 P14 B14
    go_upto_region 16 with fail
    go_cut [121] (fun s wx => s = .bool false ∧ Hid (Below w16.heap.size w16 wx))
    case first =>
      go_region_with (first
        | (go_at_call 20; refine (pof_drew X16.out HF9.out H HH.out (m + 1) HHl.out).mono ?_; rintro e w17 ⟨oH2, cH2, rfl, Q17, B17⟩)
        | (go_at_call 13; refine (pequal_take HHA.out Q17.out P16.out B17.out hm1).mono ?_; rintro e w18 ⟨rfl, B18⟩))
      all_goals (go_wp2_with fail; go_meet; exact ⟨rfl, B18⟩)
    case rest =>
      obtain ⟨rfl, hb19⟩ := hcut
      have P19 : Hid (PS wc (.slice ob b.length cb) (.slice (some ⟨gA, 0, none⟩) A.length cA) (.slice oS NS cS) b A (doOut ⟨6, [], 0⟩ b)) := P16.out.below hb19.out
      have X19 : Hid (Reads wc (.slice oH NH cH) (doOut ⟨9, [], (m : Int) + 1⟩ b).length ((doOut ⟨9, [], (m : Int) + 1⟩ b).map U)) := X16.out.below hb19.out
      have B19 : Hid (Below w.heap.size w wc) := B16.out.trans (hb19.out.mono B16.out.size)
      clear hb19 P16 X16 B16
      obtain ⟨q, hq⟩ : ∃ q : Nat, q = A.length - (m + 1) := ⟨_, rfl⟩
      have hqi : (A.length : Int) - ((m : Int) + 1) = (q : Int) := by omega
      have HQ : Hid (q = A.length - (m + 1)) := hq
      clear hq
      by_cases hq1 : 0 < q
      · by_cases hq2 : q ≤ 1000
        · have hq2i : (q : Int) ≤ 1000 := by omega
          have hq1i : (0 : Int) < q := by omega
          have HC10 : Hid (chk ⟨10, [], (q : Int)⟩ = 0) := chk_tail _ (by omega) (by omega)
          have HF10 : Hid _ := do_few ⟨10, [], (q : Int)⟩ HC10.out b hsm
          obtain ⟨E, hE⟩ : ∃ E, lines (doOut ⟨10, [], (q : Int)⟩ b) = E := ⟨_, rfl⟩
          have HEA : Hid (H ++ E = A) := by
            have h1 := HQ.out
            rw [← hE, lines_tail, HA.out, HHA.out, show A.length - ((q : Int)).toNat = m + 1 by omega]
            exact List.take_append_drop _ _
          have HE : Hid _ := hE
          clear hE
          go_wp2_with fail
          refine (pdo ⟨10, [], (q : Int)⟩ HC10.out (Nat.zero_le _) P19.out.1 P19.out.2.1 (by omega)).mono ?_
          rintro e w20 ⟨oE, cE, NE, rfl, X20, hb20⟩
          have P20 : Hid (PS w20 (.slice ob b.length cb) (.slice (some ⟨gA, 0, none⟩) A.length cA) (.slice oS NS cS) b A (doOut ⟨6, [], 0⟩ b)) := P19.out.below hb20
          have Y20 : Hid (Reads w20 (.slice oH NH cH) (doOut ⟨9, [], (m : Int) + 1⟩ b).length ((doOut ⟨9, [], (m : Int) + 1⟩ b).map U)) := X19.out.below hb20
          have B20 : Hid (Below w.heap.size w w20) := B19.out.trans (hb20.mono B19.out.size)
          clear hb20 P19 X19 B19
          go_wp2_with fail
          refine (pof Y20.out HF9.out H HH.out H.length rfl).mono ?_
          rintro e w21 ⟨oH3, cH3, rfl, Q21, hb21⟩
          have P21 : Hid (PS w21 (.slice ob b.length cb) (.slice (some ⟨gA, 0, none⟩) A.length cA) (.slice oS NS cS) b A (doOut ⟨6, [], 0⟩ b)) := P20.out.below hb21
          have X21 : Hid (Reads w21 (.slice oE NE cE) (doOut ⟨10, [], (q : Int)⟩ b).length ((doOut ⟨10, [], (q : Int)⟩ b).map U)) := X20.out.below hb21
          have HH21 : Hid (Reads w21 (.slice oH3 H.length cH3) H.length (H.map S)) := Reads.of_owns Q21.out
          have B21 : Hid (Below w.heap.size w w21) := B20.out.trans (hb21.mono B20.out.size)
          clear hb21 P20 Y20 X20 B20 Q21
          go_wp2_with fail
          refine (pof X21.out HF10.out E HE.out E.length rfl).mono ?_
          rintro e w22 ⟨oE2, cE2, rfl, Q22, hb22⟩
          have P22 : Hid (PS w22 (.slice ob b.length cb) (.slice (some ⟨gA, 0, none⟩) A.length cA) (.slice oS NS cS) b A (doOut ⟨6, [], 0⟩ b)) := P21.out.below hb22
          have HH22 : Hid (Reads w22 (.slice oH3 H.length cH3) H.length (H.map S)) := HH21.out.below hb22
          have B22 : Hid (Below w.heap.size w w22) := B21.out.trans (hb22.mono B21.out.size)
          clear hb22 P21 X21 B21 HH21
          go_wp2_with fail
          refine (pcat HH22.out (Reads.of_owns Q22.out) HEA.out (by omega) A.length rfl).mono ?_
          rintro e w23 ⟨oC, cC, rfl, Q23, hb23⟩
          have P23 : Hid (PS w23 (.slice ob b.length cb) (.slice (some ⟨gA, 0, none⟩) A.length cA) (.slice oS NS cS) b A (doOut ⟨6, [], 0⟩ b)) := P22.out.below hb23
          have B23 : Hid (Below w.heap.size w w23) := B22.out.trans (hb23.mono B22.out.size)
          clear hb23 P22 HH22 B22 Q22
          go_wp2_with fail
          refine (pequal rfl (Reads.of_owns Q23.out) P23.out.2.2.1).mono ?_
          rintro e w24 ⟨rfl, hb24⟩
          have P25 : Hid (PS w24 (.slice ob b.length cb) (.slice (some ⟨gA, 0, none⟩) A.length cA) (.slice oS NS cS) b A (doOut ⟨6, [], 0⟩ b)) := P23.out.below hb24
          have B25 : Hid (Below w.heap.size w w24) := B23.out.trans (hb24.mono B23.out.size)
          clear hb24 P23 B23 Q23
          obtain ⟨N2, hN2⟩ : ∃ N2, (Lib.compact T).length = N2 := ⟨_, rfl⟩
          have HLC : Hid (lines (doOut ⟨7, [], 0⟩ (doOut ⟨6, [], 0⟩ b)) = Lib.compact T) := by
            rw [lines_once, HA.out, HTS.out]
            exact rfl
          have HF7 : Hid ((doOut ⟨7, [], 0⟩ (doOut ⟨6, [], 0⟩ b)).length ≤ 4000) := by
            have h1 := doOut_len ⟨6, [], 0⟩ chk_sort b (by omega)
            have h2 := doOut_len ⟨7, [], 0⟩ chk_once (doOut ⟨6, [], 0⟩ b) (by omega)
            exact (show _ ≤ _ by omega)
          have HN2 : Hid _ := hN2
          clear hN2
          go_wp2_with fail
          refine (pdo ⟨7, [], 0⟩ chk_once (by decide) P25.out.2.2.2 P25.out.2.1 HF6.out).mono ?_
          rintro e w26 ⟨oO, cO, NO, rfl, X26, hb26⟩
          have P26 : Hid (PS w26 (.slice ob b.length cb) (.slice (some ⟨gA, 0, none⟩) A.length cA) (.slice oS NS cS) b A (doOut ⟨6, [], 0⟩ b)) := P25.out.below hb26
          have B26 : Hid (Below w.heap.size w w26) := B25.out.trans (hb26.mono B25.out.size)
          clear hb26 P25 B25
          go_wp2_with fail
          refine (pof X26.out HF7.out (Lib.compact T) HLC.out N2 HN2.out).mono ?_
          rintro e w27 ⟨oP, cP, rfl, Q27, hb27⟩
          have P27 : Hid (PS w27 (.slice ob b.length cb) (.slice (some ⟨gA, 0, none⟩) A.length cA) (.slice oS NS cS) b A (doOut ⟨6, [], 0⟩ b)) := P26.out.below hb27
          have B27 : Hid (Below w.heap.size w w27) := B26.out.trans (hb27.mono B26.out.size)
          clear hb27 P26 B26 X26 Q27
          go_wp2_with fail
          refine (pof P27.out.2.2.2 HF6.out T HT.out A.length HTA.out).mono ?_
          rintro e w28 ⟨oT3, cT3, rfl, Q28, hb28⟩
          have HB28 : Hid (Below w27.heap.size w27 w28) := hb28
          clear hb28
          go_wp2_with fail
          refine (pcompact (w0 := w27) N2 HN2.out Q28.out (by have := HTA.out; omega) HB28.out).mono ?_
          rintro e w29 ⟨oR, cR, rfl, HB29⟩
          have B29 : Hid (Below w.heap.size w w29) := B27.out.trans (HB29.out.mono B27.out.size)
          clear Q28 HB28 HB29 P27 B27
          go_wp2_with fail
          go_ret
          exact ⟨rfl, B29.out⟩
        · have hq2' : ¬ ((q : Int) ≤ 1000) := by omega
          have hq1i : (0 : Int) < q := by omega
          have P25 : Hid (PS wc (.slice ob b.length cb) (.slice (some ⟨gA, 0, none⟩) A.length cA) (.slice oS NS cS) b A (doOut ⟨6, [], 0⟩ b)) := P19
          have B25 : Hid (Below w.heap.size w wc) := B19
          clear P19 X19 B19
          obtain ⟨N2, hN2⟩ : ∃ N2, (Lib.compact T).length = N2 := ⟨_, rfl⟩
          have HLC : Hid (lines (doOut ⟨7, [], 0⟩ (doOut ⟨6, [], 0⟩ b)) = Lib.compact T) := by
            rw [lines_once, HA.out, HTS.out]
            exact rfl
          have HF7 : Hid ((doOut ⟨7, [], 0⟩ (doOut ⟨6, [], 0⟩ b)).length ≤ 4000) := by
            have h1 := doOut_len ⟨6, [], 0⟩ chk_sort b (by omega)
            have h2 := doOut_len ⟨7, [], 0⟩ chk_once (doOut ⟨6, [], 0⟩ b) (by omega)
            exact (show _ ≤ _ by omega)
          have HN2 : Hid _ := hN2
          clear hN2
          go_wp2_with fail
          refine (pdo ⟨7, [], 0⟩ chk_once (by decide) P25.out.2.2.2 P25.out.2.1 HF6.out).mono ?_
          rintro e w26 ⟨oO, cO, NO, rfl, X26, hb26⟩
          have P26 : Hid (PS w26 (.slice ob b.length cb) (.slice (some ⟨gA, 0, none⟩) A.length cA) (.slice oS NS cS) b A (doOut ⟨6, [], 0⟩ b)) := P25.out.below hb26
          have B26 : Hid (Below w.heap.size w w26) := B25.out.trans (hb26.mono B25.out.size)
          clear hb26 P25 B25
          go_wp2_with fail
          refine (pof X26.out HF7.out (Lib.compact T) HLC.out N2 HN2.out).mono ?_
          rintro e w27 ⟨oP, cP, rfl, Q27, hb27⟩
          have P27 : Hid (PS w27 (.slice ob b.length cb) (.slice (some ⟨gA, 0, none⟩) A.length cA) (.slice oS NS cS) b A (doOut ⟨6, [], 0⟩ b)) := P26.out.below hb27
          have B27 : Hid (Below w.heap.size w w27) := B26.out.trans (hb27.mono B26.out.size)
          clear hb27 P26 B26 X26 Q27
          go_wp2_with fail
          refine (pof P27.out.2.2.2 HF6.out T HT.out A.length HTA.out).mono ?_
          rintro e w28 ⟨oT3, cT3, rfl, Q28, hb28⟩
          have HB28 : Hid (Below w27.heap.size w27 w28) := hb28
          clear hb28
          go_wp2_with fail
          refine (pcompact (w0 := w27) N2 HN2.out Q28.out (by have := HTA.out; omega) HB28.out).mono ?_
          rintro e w29 ⟨oR, cR, rfl, HB29⟩
          have B29 : Hid (Below w.heap.size w w29) := B27.out.trans (HB29.out.mono B27.out.size)
          clear Q28 HB28 HB29 P27 B27
          go_wp2_with fail
          go_ret
          exact ⟨rfl, B29.out⟩
      · have hq0 : q = 0 := by omega
        subst hq0
        have P25 : Hid (PS wc (.slice ob b.length cb) (.slice (some ⟨gA, 0, none⟩) A.length cA) (.slice oS NS cS) b A (doOut ⟨6, [], 0⟩ b)) := P19
        have B25 : Hid (Below w.heap.size w wc) := B19
        clear P19 X19 B19
        obtain ⟨N2, hN2⟩ : ∃ N2, (Lib.compact T).length = N2 := ⟨_, rfl⟩
        have HLC : Hid (lines (doOut ⟨7, [], 0⟩ (doOut ⟨6, [], 0⟩ b)) = Lib.compact T) := by
          rw [lines_once, HA.out, HTS.out]
          exact rfl
        have HF7 : Hid ((doOut ⟨7, [], 0⟩ (doOut ⟨6, [], 0⟩ b)).length ≤ 4000) := by
          have h1 := doOut_len ⟨6, [], 0⟩ chk_sort b (by omega)
          have h2 := doOut_len ⟨7, [], 0⟩ chk_once (doOut ⟨6, [], 0⟩ b) (by omega)
          exact (show _ ≤ _ by omega)
        have HN2 : Hid _ := hN2
        clear hN2
        go_wp2_with fail
        refine (pdo ⟨7, [], 0⟩ chk_once (by decide) P25.out.2.2.2 P25.out.2.1 HF6.out).mono ?_
        rintro e w26 ⟨oO, cO, NO, rfl, X26, hb26⟩
        have P26 : Hid (PS w26 (.slice ob b.length cb) (.slice (some ⟨gA, 0, none⟩) A.length cA) (.slice oS NS cS) b A (doOut ⟨6, [], 0⟩ b)) := P25.out.below hb26
        have B26 : Hid (Below w.heap.size w w26) := B25.out.trans (hb26.mono B25.out.size)
        clear hb26 P25 B25
        go_wp2_with fail
        refine (pof X26.out HF7.out (Lib.compact T) HLC.out N2 HN2.out).mono ?_
        rintro e w27 ⟨oP, cP, rfl, Q27, hb27⟩
        have P27 : Hid (PS w27 (.slice ob b.length cb) (.slice (some ⟨gA, 0, none⟩) A.length cA) (.slice oS NS cS) b A (doOut ⟨6, [], 0⟩ b)) := P26.out.below hb27
        have B27 : Hid (Below w.heap.size w w27) := B26.out.trans (hb27.mono B26.out.size)
        clear hb27 P26 B26 X26 Q27
        go_wp2_with fail
        refine (pof P27.out.2.2.2 HF6.out T HT.out A.length HTA.out).mono ?_
        rintro e w28 ⟨oT3, cT3, rfl, Q28, hb28⟩
        have HB28 : Hid (Below w27.heap.size w27 w28) := hb28
        clear hb28
        go_wp2_with fail
        refine (pcompact (w0 := w27) N2 HN2.out Q28.out (by have := HTA.out; omega) HB28.out).mono ?_
        rintro e w29 ⟨oR, cR, rfl, HB29⟩
        have B29 : Hid (Below w.heap.size w w29) := B27.out.trans (HB29.out.mono B27.out.size)
        clear Q28 HB28 HB29 P27 B27
        go_wp2_with fail
        go_ret
        exact ⟨rfl, B29.out⟩
end Go.Proofs.YtkifihcficobnaaDoor
