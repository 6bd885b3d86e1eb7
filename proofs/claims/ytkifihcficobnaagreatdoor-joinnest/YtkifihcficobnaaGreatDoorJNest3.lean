/- The sentence on joins within joins: what is done. -/
import Derived.Test.YtkifihcficobnaaGreatDoorJNest2
namespace Go.Proofs.YtkifihcficobnaaGreatDoor
open Go.RowKit Go.Gs
set_option linter.unusedVariables false


theorem reads_len {w : World} {o : Option Addr} {n c m : Nat} {xs : List Value} (h : Reads w (.slice o n c) m xs) : n = m := by
  obtain ⟨_, ao, cap, e, _⟩ := h
  injection e
theorem reads_prefix {w : World} {o : Option Addr} {n c : Nat} {x y : List UInt8} (h : Reads w (.slice o n c) (x ++ y).length ((x ++ y).map U)) : Reads w (.slice o x.length c) x.length (x.map U) := by
  obtain ⟨_, ao, cap, e, h2, h3, h4⟩ := h
  injection e with e1 e2 e3
  subst e1 e3
  refine ⟨by simp, o, c, rfl, by simp at h2; omega, h3, fun hn => ?_⟩
  obtain ⟨b, off, e, hc⟩ := h4 (by rw [List.length_append]; omega)
  refine ⟨b, off, e, fun j u hu => hc j u ?_⟩
  rw [List.map_append, List.getElem?_append_left (List.getElem?_eq_some_iff.1 hu).1]
  exact hu
theorem nest_eq {W : World} {u v : Value} {p q : List UInt8} (he : p = q) (h1 : Reads W u p.length (p.map U)) (h2 : Reads W v q.length (q.map U)) : Calls Tryz.prog 18 #[u, v] W fun e w' => e = .returned (.bool true) ∧ Below W.heap.size W w' := by
  subst he
  exact eqb_same u v p W h1 h2
theorem srt_doOut (x : List UInt8) : Srt (lines (doOut ⟨6, [], 0⟩ x)) := by
  rw [lines_doOut _ (by decide), made6 _ rfl]
  exact sortOf_sorted _
theorem jOut_comm2 {c : Cmd} {p q : List UInt8} (h1 : Srt (lines p)) (h2 : Srt (lines q)) : jOut 2 c [p, q] = jOut 2 c [q, p] := by
  unfold jOut
  simp only [List.map_cons, List.map_nil]
  rw [joined2, joined2, merge_comm h1 h2]
theorem jOut3 (c : Cmd) (bss : List (List UInt8)) : jOut 3 c bss = Lib.itoa (sumOf (bss.map lines) : Int) ++ [10] := by
  unfold jOut
  rw [joined3]
  simp [ended]
theorem jOut_comm3 {c : Cmd} (a b d : List UInt8) : jOut 3 c [a, b, d] = jOut 3 c [d, a, b] := by
  rw [jOut3, jOut3]
  simp only [List.map_cons, List.map_nil]
  rw [sumOf_three, sumOf_three, show headNum (lines a) + headNum (lines b) + headNum (lines d) = headNum (lines d) + headNum (lines a) + headNum (lines b) by omega]
theorem jOut_two_len (how : Int) (c : Cmd) (hj : jchk how c = 0) (p q : List UInt8) (h : p.length + q.length ≤ 3000) : (jOut how c [p, q]).length ≤ p.length + q.length + 11 := by
  have := jOut_len how c (jchk_chk hj) [p, q] (by simp; omega) (by simp)
  simpa using this

set_option maxRecDepth 100000 in
set_option maxHeartbeats 16000000 in
theorem nest_one (k n : Int) (word : List UInt8) (oa ob od : Option Addr) (ca cb cd : Nat) (a b d : List UInt8) (w : World) (hw : word.length ≤ 9223372036854775807) (h1 : Reads w (.slice oa a.length ca) a.length (a.map U)) (h2 : Reads w (.slice ob b.length cb) b.length (b.map U)) (h3 : Reads w (.slice od d.length cd) d.length (d.map U)) (hE : KnownE w) (ha : a.length ≤ 1000000000000000) (hb : b.length ≤ 1000000000000000) (hd : d.length ≤ 1000000000000000) (hsm : a.length + b.length + d.length ≤ 2000) :
    Calls Tryz.prog 8 #[.int .i64 1, .agg #[.int .i64 k, .string ⟨word.toArray⟩, .int .i64 n], .slice oa a.length ca, .slice ob b.length cb, .slice od d.length cd] w fun e w' => e = .returned (.bool true) ∧ Below w.heap.size w w' := by
  have eg : ∀ args w, (callFunc 38 args).run Tryz.prog w = .ok (.enter 38 args) w := enters_of Tryz.func38 (by kernel_rfl) rfl
  have N0 : Hid (NA w _ 1 ⟨0, [], 0⟩ (.slice oa a.length ca) (.slice ob b.length cb) (.slice od d.length cd) a b d) := NA.start (how := 1) (c := ⟨0, [], 0⟩) (t := 3) (t' := 23) h1 h2 h3 hE
  have hC := fun W => jcheck_is 1 ⟨0, [], 0⟩ W (Nat.zero_le _)
  have HJ : Hid (jchk 1 ⟨0, [], 0⟩ = 0) := (show _ = _ by decide)
  have HW : Hid ((⟨0, [], 0⟩ : Cmd).word.length ≤ 9223372036854775807) := (Nat.zero_le _)
  rw [HJ.out] at hC
  unfold Cmd.v at hC
  simp only at hC
  have HLB1 : Hid ((jOut 1 ⟨0, [], 0⟩ [a, b]).length + d.length ≤ 4000) := by have := jOut_two_len 1 ⟨0, [], 0⟩ HJ.out a b (by omega); exact (show _ ≤ _ by omega)
  have HLB2 : Hid (a.length + (jOut 1 ⟨0, [], 0⟩ [b, d]).length ≤ 4000) := by have := jOut_two_len 1 ⟨0, [], 0⟩ HJ.out b d (by omega); exact (show _ ≤ _ by omega)
  have HL : Hid (jOut 1 ⟨0, [], 0⟩ [jOut 1 ⟨0, [], 0⟩ [a, b], d] = jOut 1 ⟨0, [], 0⟩ [a, b, d]) := nest_says_left _ _ HJ.out _ _ _ (fun h => absurd h (by decide)) (fun h => absurd h (by decide)) (fun h => absurd h (by decide))
  have HR : Hid (jOut 1 ⟨0, [], 0⟩ [a, jOut 1 ⟨0, [], 0⟩ [b, d]] = jOut 1 ⟨0, [], 0⟩ [a, b, d]) := nest_says_right _ _ HJ.out _ _ _ (fun h => absurd h (by decide)) (fun h => absurd h (by decide)) (fun h => absurd h (by decide))
  clear h1 h2 h3 hE hw
  go_enter Tryz.func8, Tryz.ntmps8
  go_wp2_with fail
  refine (spliced_true _ N0.out.2.2.2.2.1).mono ?_
  rintro e w1 ⟨rfl, hb1⟩
  have N1 : Hid (NA w w1 1 ⟨0, [], 0⟩ (.slice oa a.length ca) (.slice ob b.length cb) (.slice od d.length cd) a b d) := N0.out.below hb1
  obtain ⟨x0, x1, x2, x3⟩ := N1.out.1
  clear hb1 N0
  go_wp2_with fail
  refine (hC _).mono ?_
  rintro e w2 ⟨rfl, hb2⟩
  have N2 : Hid (NA w w2 1 ⟨0, [], 0⟩ (.slice oa a.length ca) (.slice ob b.length cb) (.slice od d.length cd) a b d) := N1.out.below hb2
  clear hb2 N1 hC x0 x1 x2 x3
  have hs := nest_small N2.out ha hb hd
  rw [decide_eq_true hsm] at hs
  go_wp2_with fail
  refine hs.mono ?_
  rintro e w3 ⟨rfl, hb3⟩
  have N3 : Hid (NA w w3 1 ⟨0, [], 0⟩ (.slice oa a.length ca) (.slice ob b.length cb) (.slice od d.length cd) a b d) := N2.out.below hb3
  clear hb3 hs N2
  obtain ⟨x0, x1, x2, x3⟩ := N3.out.1
  go_wp2_with fail
  refine (nest_do3 N3.out HJ.out HW.out N3.out.2.1 N3.out.2.2.1 N3.out.2.2.2.1 (by omega)).mono ?_
  rintro e w11 ⟨ow, nw, cw, rfl, WH, N11, B11⟩
  obtain ⟨z0, z1, z2, z3⟩ := N11.out.1
  clear B11 N3 x0 x1 x2 x3
  go_wp2_with fail
  refine (nest_do2 N11.out HJ.out HW.out N11.out.2.1 N11.out.2.2.1 (by omega)).mono ?_
  rintro e w20 ⟨o20, n20, c20, rfl, R20, N20, B20⟩
  have WH20 : Hid (Reads w20 (.slice ow nw cw) (jOut 1 ⟨0, [], 0⟩ [a, b, d]).length ((jOut 1 ⟨0, [], 0⟩ [a, b, d]).map U)) := WH.out.below B20.out
  clear WH B20
  go_wp2_with fail
  refine (nest_do2 N20.out HJ.out HW.out R20.out N20.out.2.2.2.1 HLB1.out).mono ?_
  rintro e w21 ⟨o21, n21, c21, rfl, R21, N21, B21⟩
  have WH21 : Hid (Reads w21 (.slice ow nw cw) (jOut 1 ⟨0, [], 0⟩ [a, b, d]).length ((jOut 1 ⟨0, [], 0⟩ [a, b, d]).map U)) := WH20.out.below B21.out
  have heq1 := nest_eq HL.out R21.out WH21.out
  clear WH20 B21 R20 N20 R21
  go_wp2_with fail
  refine heq1.mono ?_
  rintro e w22 ⟨rfl, hb22⟩
  have N22 : Hid (NA w w22 1 ⟨0, [], 0⟩ (.slice oa a.length ca) (.slice ob b.length cb) (.slice od d.length cd) a b d) := N21.out.below hb22
  have WH22 : Hid (Reads w22 (.slice ow nw cw) (jOut 1 ⟨0, [], 0⟩ [a, b, d]).length ((jOut 1 ⟨0, [], 0⟩ [a, b, d]).map U)) := WH21.out.below hb22
  clear WH21 hb22 N21 heq1
  go_wp2_with fail
  refine (nest_do2 N22.out HJ.out HW.out N22.out.2.2.1 N22.out.2.2.2.1 (by omega)).mono ?_
  rintro e w23 ⟨o23, n23, c23, rfl, R23, N23, B23⟩
  have WH23 : Hid (Reads w23 (.slice ow nw cw) (jOut 1 ⟨0, [], 0⟩ [a, b, d]).length ((jOut 1 ⟨0, [], 0⟩ [a, b, d]).map U)) := WH22.out.below B23.out
  clear WH22 B23 N22
  go_wp2_with fail
  refine (nest_do2 N23.out HJ.out HW.out N23.out.2.1 R23.out HLB2.out).mono ?_
  rintro e w24 ⟨o24, n24, c24, rfl, R24, N24, B24⟩
  have WH24 : Hid (Reads w24 (.slice ow nw cw) (jOut 1 ⟨0, [], 0⟩ [a, b, d]).length ((jOut 1 ⟨0, [], 0⟩ [a, b, d]).map U)) := WH23.out.below B24.out
  have heq2 := nest_eq HR.out R24.out WH24.out
  clear WH23 B24 N23 R23 R24 WH24
  go_wp2_with fail
  refine heq2.mono ?_
  rintro e w25 ⟨rfl, hb25⟩
  have N25 : Hid _ := N24.out.below hb25
  clear hb25 N24 heq2
  go_wp2_with fail
  go_ret
  exact ⟨rfl, N25.out.2.2.2.2.2⟩

set_option maxRecDepth 100000 in
set_option maxHeartbeats 16000000 in
theorem nest_two (k n : Int) (word : List UInt8) (oa ob od : Option Addr) (ca cb cd : Nat) (a b d : List UInt8) (w : World) (hw : word.length ≤ 9223372036854775807) (h1 : Reads w (.slice oa a.length ca) a.length (a.map U)) (h2 : Reads w (.slice ob b.length cb) b.length (b.map U)) (h3 : Reads w (.slice od d.length cd) d.length (d.map U)) (hE : KnownE w) (ha : a.length ≤ 1000000000000000) (hb : b.length ≤ 1000000000000000) (hd : d.length ≤ 1000000000000000) (hsm : a.length + b.length + d.length ≤ 2000) :
    Calls Tryz.prog 8 #[.int .i64 2, .agg #[.int .i64 k, .string ⟨word.toArray⟩, .int .i64 n], .slice oa a.length ca, .slice ob b.length cb, .slice od d.length cd] w fun e w' => e = .returned (.bool true) ∧ Below w.heap.size w w' := by
  have eg : ∀ args w, (callFunc 38 args).run Tryz.prog w = .ok (.enter 38 args) w := enters_of Tryz.func38 (by kernel_rfl) rfl
  have N0 : Hid (NA w _ 2 ⟨0, [], 0⟩ (.slice oa a.length ca) (.slice ob b.length cb) (.slice od d.length cd) a b d) := NA.start (how := 2) (c := ⟨0, [], 0⟩) (t := 3) (t' := 23) h1 h2 h3 hE
  have hC := fun W => jcheck_is 2 ⟨0, [], 0⟩ W (Nat.zero_le _)
  have HJ : Hid (jchk 2 ⟨0, [], 0⟩ = 0) := (show _ = _ by decide)
  have HW : Hid ((⟨0, [], 0⟩ : Cmd).word.length ≤ 9223372036854775807) := (Nat.zero_le _)
  rw [HJ.out] at hC
  unfold Cmd.v at hC
  simp only at hC
  have la := doOut_len ⟨6, [], 0⟩ (by decide) a (by omega)
  have lb := doOut_len ⟨6, [], 0⟩ (by decide) b (by omega)
  have ld := doOut_len ⟨6, [], 0⟩ (by decide) d (by omega)
  have hdo := fun (v : Value) (x : List UInt8) (W : World) hr hn hK => do_ok ⟨6, [], 0⟩ v x W (Nat.zero_le _) (by decide) hr hn hK
  unfold Cmd.v at hdo
  simp only at hdo
  have HDO : Hid _ := hdo
  clear hdo
  have HLB1 : Hid ((jOut 2 ⟨0, [], 0⟩ [(doOut ⟨6, [], 0⟩ a), (doOut ⟨6, [], 0⟩ b)]).length + (doOut ⟨6, [], 0⟩ d).length ≤ 4000) := by have := jOut_two_len 2 ⟨0, [], 0⟩ HJ.out (doOut ⟨6, [], 0⟩ a) (doOut ⟨6, [], 0⟩ b) (by omega); exact (show _ ≤ _ by omega)
  have HLB2 : Hid ((doOut ⟨6, [], 0⟩ a).length + (jOut 2 ⟨0, [], 0⟩ [(doOut ⟨6, [], 0⟩ b), (doOut ⟨6, [], 0⟩ d)]).length ≤ 4000) := by have := jOut_two_len 2 ⟨0, [], 0⟩ HJ.out (doOut ⟨6, [], 0⟩ b) (doOut ⟨6, [], 0⟩ d) (by omega); exact (show _ ≤ _ by omega)
  have HL : Hid (jOut 2 ⟨0, [], 0⟩ [jOut 2 ⟨0, [], 0⟩ [(doOut ⟨6, [], 0⟩ a), (doOut ⟨6, [], 0⟩ b)], (doOut ⟨6, [], 0⟩ d)] = jOut 2 ⟨0, [], 0⟩ [(doOut ⟨6, [], 0⟩ a), (doOut ⟨6, [], 0⟩ b), (doOut ⟨6, [], 0⟩ d)]) := nest_says_left _ _ HJ.out _ _ _ (fun _ => ⟨srt_doOut a, srt_doOut b, srt_doOut d⟩) (fun h => absurd h (by decide)) (fun h => absurd h (by decide))
  have HR : Hid (jOut 2 ⟨0, [], 0⟩ [(doOut ⟨6, [], 0⟩ a), jOut 2 ⟨0, [], 0⟩ [(doOut ⟨6, [], 0⟩ b), (doOut ⟨6, [], 0⟩ d)]] = jOut 2 ⟨0, [], 0⟩ [(doOut ⟨6, [], 0⟩ a), (doOut ⟨6, [], 0⟩ b), (doOut ⟨6, [], 0⟩ d)]) := nest_says_right _ _ HJ.out _ _ _ (fun _ => ⟨srt_doOut a, srt_doOut b, srt_doOut d⟩) (fun h => absurd h (by decide)) (fun h => absurd h (by decide))
  clear h1 h2 h3 hE hw
  go_enter Tryz.func8, Tryz.ntmps8
  go_wp2_with fail
  refine (spliced_true _ N0.out.2.2.2.2.1).mono ?_
  rintro e w1 ⟨rfl, hb1⟩
  have N1 : Hid (NA w w1 2 ⟨0, [], 0⟩ (.slice oa a.length ca) (.slice ob b.length cb) (.slice od d.length cd) a b d) := N0.out.below hb1
  obtain ⟨x0, x1, x2, x3⟩ := N1.out.1
  clear hb1 N0
  go_wp2_with fail
  refine (hC _).mono ?_
  rintro e w2 ⟨rfl, hb2⟩
  have N2 : Hid (NA w w2 2 ⟨0, [], 0⟩ (.slice oa a.length ca) (.slice ob b.length cb) (.slice od d.length cd) a b d) := N1.out.below hb2
  clear hb2 N1 hC x0 x1 x2 x3
  have hs := nest_small N2.out ha hb hd
  rw [decide_eq_true hsm] at hs
  go_wp2_with fail
  refine hs.mono ?_
  rintro e w3 ⟨rfl, hb3⟩
  have N3 : Hid (NA w w3 2 ⟨0, [], 0⟩ (.slice oa a.length ca) (.slice ob b.length cb) (.slice od d.length cd) a b d) := N2.out.below hb3
  clear hb3 hs N2
  obtain ⟨x0, x1, x2, x3⟩ := N3.out.1
  have NB : Hid (NA w (w3.alloc (.cells #[.int .i64 6, .string ⟨#[]⟩, .int .i64 0] 23)) 2 ⟨0, [], 0⟩ (.slice oa a.length ca) (.slice ob b.length cb) (.slice od d.length cd) a b d) := N3.out.below box_of
  clear N3
  go_wp2_with fail
  refine (HDO.out _ a _ NB.out.2.1 (by omega) NB.out.2.2.2.2.1.1).mono ?_
  rintro e w5 ⟨ra, rfl, oa5, hb5⟩
  obtain ⟨s0, s1, s2⟩ := jbox_cells hb5
  have N5 : Hid (NA w w5 2 ⟨0, [], 0⟩ (.slice oa a.length ca) (.slice ob b.length cb) (.slice od d.length cd) a b d) := NB.out.below hb5
  have RA5 : Hid (Reads w5 ra (doOut ⟨6, [], 0⟩ a).length ((doOut ⟨6, [], 0⟩ a).map U)) := Reads.of_owns oa5
  have hlt5 : w3.heap.size < w5.heap.size := World.block_lt_of_cell? w5 _ s0
  clear oa5 hb5 NB x0 x1 x2 x3
  go_wp2_with fail
  refine (HDO.out _ b _ N5.out.2.2.1 (by omega) N5.out.2.2.2.2.1.1).mono ?_
  rintro e w6 ⟨rb, rfl, ob6, hb6⟩
  have N6 : Hid (NA w w6 2 ⟨0, [], 0⟩ (.slice oa a.length ca) (.slice ob b.length cb) (.slice od d.length cd) a b d) := N5.out.below hb6
  have RA6 : Hid (Reads w6 ra (doOut ⟨6, [], 0⟩ a).length ((doOut ⟨6, [], 0⟩ a).map U)) := RA5.out.below hb6
  have RB6 : Hid (Reads w6 rb (doOut ⟨6, [], 0⟩ b).length ((doOut ⟨6, [], 0⟩ b).map U)) := Reads.of_owns ob6
  have t0 : w6.cell? ⟨w3.heap.size, 0, none⟩ = some (.int .i64 6) := (hb6.cell (p := ⟨w3.heap.size, 0, none⟩) hlt5).trans s0
  have t1 : w6.cell? ⟨w3.heap.size, 1, none⟩ = some (.string ⟨#[]⟩) := (hb6.cell (p := ⟨w3.heap.size, 1, none⟩) hlt5).trans s1
  have t2 : w6.cell? ⟨w3.heap.size, 2, none⟩ = some (.int .i64 0) := (hb6.cell (p := ⟨w3.heap.size, 2, none⟩) hlt5).trans s2
  clear ob6 hb6 N5 RA5 s0 s1 s2
  go_wp2_with fail
  refine (HDO.out _ d _ N6.out.2.2.2.1 (by omega) N6.out.2.2.2.2.1.1).mono ?_
  rintro e w7 ⟨rd, rfl, od7, hb7⟩
  have RA7 : Hid (Reads w7 ra (doOut ⟨6, [], 0⟩ a).length ((doOut ⟨6, [], 0⟩ a).map U)) := RA6.out.below hb7
  have RB7 : Hid (Reads w7 rb (doOut ⟨6, [], 0⟩ b).length ((doOut ⟨6, [], 0⟩ b).map U)) := RB6.out.below hb7
  have RD7 : Hid (Reads w7 rd (doOut ⟨6, [], 0⟩ d).length ((doOut ⟨6, [], 0⟩ d).map U)) := Reads.of_owns od7
  have N7 : Hid (NA w w7 2 ⟨0, [], 0⟩ ra rb rd (doOut ⟨6, [], 0⟩ a) (doOut ⟨6, [], 0⟩ b) (doOut ⟨6, [], 0⟩ d)) := (N6.out.below hb7).parts RA7.out RB7.out RD7.out
  obtain ⟨_, pa, qa, rfl, _⟩ := id RA7.out
  obtain ⟨_, pb, qb, rfl, _⟩ := id RB7.out
  obtain ⟨_, pd, qd, rfl, _⟩ := id RD7.out
  obtain ⟨x0, x1, x2, x3⟩ := N7.out.1
  clear od7 hb7 N6 RA6 RB6 t0 t1 t2 RA7 RB7 RD7 HDO
  go_wp2_with fail
  refine (nest_do2 N7.out HJ.out HW.out N7.out.2.1 N7.out.2.2.1 (by omega)).mono ?_
  rintro e w8 ⟨o8, n8, c8, rfl, R8, N8, B8⟩
  clear N7 x0 x1 x2 x3
  go_wp2_with fail
  refine (nest_do2 N8.out HJ.out HW.out N8.out.2.2.1 N8.out.2.1 (by omega)).mono ?_
  rintro e w9 ⟨o9, n9, c9, rfl, R9, N9, B9⟩
  have heq := nest_eq (jOut_comm2 (c := ⟨0, [], 0⟩) (srt_doOut a) (srt_doOut b)) (R8.out.below B9.out) R9.out
  clear R8 R9 B8 B9 N8
  go_wp2_with fail
  refine heq.mono ?_
  rintro e w10 ⟨rfl, hb10⟩
  have N10 : Hid (NA w w10 2 ⟨0, [], 0⟩ (.slice pa (doOut ⟨6, [], 0⟩ a).length qa) (.slice pb (doOut ⟨6, [], 0⟩ b).length qb) (.slice pd (doOut ⟨6, [], 0⟩ d).length qd) (doOut ⟨6, [], 0⟩ a) (doOut ⟨6, [], 0⟩ b) (doOut ⟨6, [], 0⟩ d)) := N9.out.below hb10
  obtain ⟨x0, x1, x2, x3⟩ := N10.out.1
  clear hb10 N9 heq
  go_wp2_with fail
  refine (nest_do3 N10.out HJ.out HW.out N10.out.2.1 N10.out.2.2.1 N10.out.2.2.2.1 (by omega)).mono ?_
  rintro e w11 ⟨ow, nw, cw, rfl, WH, N11, B11⟩
  obtain ⟨z0, z1, z2, z3⟩ := N11.out.1
  clear B11 N10 x0 x1 x2 x3
  go_wp2_with fail
  refine (nest_do2 N11.out HJ.out HW.out N11.out.2.1 N11.out.2.2.1 (by omega)).mono ?_
  rintro e w20 ⟨o20, n20, c20, rfl, R20, N20, B20⟩
  have WH20 : Hid (Reads w20 (.slice ow nw cw) (jOut 2 ⟨0, [], 0⟩ [(doOut ⟨6, [], 0⟩ a), (doOut ⟨6, [], 0⟩ b), (doOut ⟨6, [], 0⟩ d)]).length ((jOut 2 ⟨0, [], 0⟩ [(doOut ⟨6, [], 0⟩ a), (doOut ⟨6, [], 0⟩ b), (doOut ⟨6, [], 0⟩ d)]).map U)) := WH.out.below B20.out
  clear WH B20
  go_wp2_with fail
  refine (nest_do2 N20.out HJ.out HW.out R20.out N20.out.2.2.2.1 HLB1.out).mono ?_
  rintro e w21 ⟨o21, n21, c21, rfl, R21, N21, B21⟩
  have WH21 : Hid (Reads w21 (.slice ow nw cw) (jOut 2 ⟨0, [], 0⟩ [(doOut ⟨6, [], 0⟩ a), (doOut ⟨6, [], 0⟩ b), (doOut ⟨6, [], 0⟩ d)]).length ((jOut 2 ⟨0, [], 0⟩ [(doOut ⟨6, [], 0⟩ a), (doOut ⟨6, [], 0⟩ b), (doOut ⟨6, [], 0⟩ d)]).map U)) := WH20.out.below B21.out
  have heq1 := nest_eq HL.out R21.out WH21.out
  clear WH20 B21 R20 N20 R21
  go_wp2_with fail
  refine heq1.mono ?_
  rintro e w22 ⟨rfl, hb22⟩
  have N22 : Hid (NA w w22 2 ⟨0, [], 0⟩ (.slice pa (doOut ⟨6, [], 0⟩ a).length qa) (.slice pb (doOut ⟨6, [], 0⟩ b).length qb) (.slice pd (doOut ⟨6, [], 0⟩ d).length qd) (doOut ⟨6, [], 0⟩ a) (doOut ⟨6, [], 0⟩ b) (doOut ⟨6, [], 0⟩ d)) := N21.out.below hb22
  have WH22 : Hid (Reads w22 (.slice ow nw cw) (jOut 2 ⟨0, [], 0⟩ [(doOut ⟨6, [], 0⟩ a), (doOut ⟨6, [], 0⟩ b), (doOut ⟨6, [], 0⟩ d)]).length ((jOut 2 ⟨0, [], 0⟩ [(doOut ⟨6, [], 0⟩ a), (doOut ⟨6, [], 0⟩ b), (doOut ⟨6, [], 0⟩ d)]).map U)) := WH21.out.below hb22
  clear WH21 hb22 N21 heq1
  go_wp2_with fail
  refine (nest_do2 N22.out HJ.out HW.out N22.out.2.2.1 N22.out.2.2.2.1 (by omega)).mono ?_
  rintro e w23 ⟨o23, n23, c23, rfl, R23, N23, B23⟩
  have WH23 : Hid (Reads w23 (.slice ow nw cw) (jOut 2 ⟨0, [], 0⟩ [(doOut ⟨6, [], 0⟩ a), (doOut ⟨6, [], 0⟩ b), (doOut ⟨6, [], 0⟩ d)]).length ((jOut 2 ⟨0, [], 0⟩ [(doOut ⟨6, [], 0⟩ a), (doOut ⟨6, [], 0⟩ b), (doOut ⟨6, [], 0⟩ d)]).map U)) := WH22.out.below B23.out
  clear WH22 B23 N22
  go_wp2_with fail
  refine (nest_do2 N23.out HJ.out HW.out N23.out.2.1 R23.out HLB2.out).mono ?_
  rintro e w24 ⟨o24, n24, c24, rfl, R24, N24, B24⟩
  have WH24 : Hid (Reads w24 (.slice ow nw cw) (jOut 2 ⟨0, [], 0⟩ [(doOut ⟨6, [], 0⟩ a), (doOut ⟨6, [], 0⟩ b), (doOut ⟨6, [], 0⟩ d)]).length ((jOut 2 ⟨0, [], 0⟩ [(doOut ⟨6, [], 0⟩ a), (doOut ⟨6, [], 0⟩ b), (doOut ⟨6, [], 0⟩ d)]).map U)) := WH23.out.below B24.out
  have heq2 := nest_eq HR.out R24.out WH24.out
  clear WH23 B24 N23 R23 R24 WH24
  go_wp2_with fail
  refine heq2.mono ?_
  rintro e w25 ⟨rfl, hb25⟩
  have N25 : Hid _ := N24.out.below hb25
  clear hb25 N24 heq2
  go_wp2_with fail
  go_ret
  exact ⟨rfl, N25.out.2.2.2.2.2⟩

set_option maxRecDepth 100000 in
set_option maxHeartbeats 16000000 in
theorem nest_four (k n : Int) (word : List UInt8) (oa ob od : Option Addr) (ca cb cd : Nat) (a b d : List UInt8) (w : World) (hw : word.length ≤ 9223372036854775807) (h1 : Reads w (.slice oa a.length ca) a.length (a.map U)) (h2 : Reads w (.slice ob b.length cb) b.length (b.map U)) (h3 : Reads w (.slice od d.length cd) d.length (d.map U)) (hE : KnownE w) (ha : a.length ≤ 1000000000000000) (hb : b.length ≤ 1000000000000000) (hd : d.length ≤ 1000000000000000) (hj : jchk 4 ⟨k, word, n⟩ = 0) (hk : k = 7 ∨ k = 9 ∨ k = 10) (hsm : a.length + b.length + d.length ≤ 2000) :
    Calls Tryz.prog 8 #[.int .i64 4, .agg #[.int .i64 k, .string ⟨word.toArray⟩, .int .i64 n], .slice oa a.length ca, .slice ob b.length cb, .slice od d.length cd] w fun e w' => e = .returned (.bool true) ∧ Below w.heap.size w w' := by
  have eg : ∀ args w, (callFunc 38 args).run Tryz.prog w = .ok (.enter 38 args) w := enters_of Tryz.func38 (by kernel_rfl) rfl
  have N0 : Hid (NA w _ 4 ⟨k, word, n⟩ (.slice oa a.length ca) (.slice ob b.length cb) (.slice od d.length cd) a b d) := NA.start (how := 4) (c := ⟨k, word, n⟩) (t := 3) (t' := 23) h1 h2 h3 hE
  have hC := fun W => jcheck_is 4 ⟨k, word, n⟩ W hw
  have HJ : Hid (jchk 4 ⟨k, word, n⟩ = 0) := hj
  have HW : Hid ((⟨k, word, n⟩ : Cmd).word.length ≤ 9223372036854775807) := hw
  rw [HJ.out] at hC
  unfold Cmd.v at hC
  simp only at hC
  have HLB1 : Hid ((jOut 4 ⟨k, word, n⟩ [a, b]).length + d.length ≤ 4000) := by have := jOut_two_len 4 ⟨k, word, n⟩ HJ.out a b (by omega); exact (show _ ≤ _ by omega)
  have HLB2 : Hid (a.length + (jOut 4 ⟨k, word, n⟩ [b, d]).length ≤ 4000) := by have := jOut_two_len 4 ⟨k, word, n⟩ HJ.out b d (by omega); exact (show _ ≤ _ by omega)
  have HL : Hid (jOut 4 ⟨k, word, n⟩ [jOut 4 ⟨k, word, n⟩ [a, b], d] = jOut 4 ⟨k, word, n⟩ [a, b, d]) := nest_says_left _ _ HJ.out _ _ _ (fun h => absurd h (by decide)) (fun h => absurd h (by decide)) (fun _ => hk)
  have HR : Hid (jOut 4 ⟨k, word, n⟩ [a, jOut 4 ⟨k, word, n⟩ [b, d]] = jOut 4 ⟨k, word, n⟩ [a, b, d]) := nest_says_right _ _ HJ.out _ _ _ (fun h => absurd h (by decide)) (fun h => absurd h (by decide)) (fun _ => hk)
  clear h1 h2 h3 hE hw hj
  go_enter Tryz.func8, Tryz.ntmps8
  go_wp2_with fail
  refine (spliced_true _ N0.out.2.2.2.2.1).mono ?_
  rintro e w1 ⟨rfl, hb1⟩
  have N1 : Hid (NA w w1 4 ⟨k, word, n⟩ (.slice oa a.length ca) (.slice ob b.length cb) (.slice od d.length cd) a b d) := N0.out.below hb1
  obtain ⟨x0, x1, x2, x3⟩ := N1.out.1
  clear hb1 N0
  go_wp2_with fail
  refine (hC _).mono ?_
  rintro e w2 ⟨rfl, hb2⟩
  have N2 : Hid (NA w w2 4 ⟨k, word, n⟩ (.slice oa a.length ca) (.slice ob b.length cb) (.slice od d.length cd) a b d) := N1.out.below hb2
  clear hb2 N1 hC x0 x1 x2 x3
  have hs := nest_small N2.out ha hb hd
  rw [decide_eq_true hsm] at hs
  go_wp2_with fail
  refine hs.mono ?_
  rintro e w3 ⟨rfl, hb3⟩
  have N3 : Hid (NA w w3 4 ⟨k, word, n⟩ (.slice oa a.length ca) (.slice ob b.length cb) (.slice od d.length cd) a b d) := N2.out.below hb3
  clear hb3 hs N2
  obtain ⟨x0, x1, x2, x3⟩ := N3.out.1
  have y1 := fun o => Lib.cell?_alloc_some o x1
  have h3i := three_in k w3 true (decide_eq_true hk)
  clear hk
  go_wp2_with fail
  refine h3i.mono ?_
  rintro e w4 ⟨rfl, hb4⟩
  have N4 : Hid (NA w w4 4 ⟨k, word, n⟩ (.slice oa a.length ca) (.slice ob b.length cb) (.slice od d.length cd) a b d) := N3.out.below hb4
  clear hb4 N3 h3i y1 x0 x1 x2 x3
  obtain ⟨x0, x1, x2, x3⟩ := N4.out.1
  go_wp2_with fail
  refine (nest_do3 N4.out HJ.out HW.out N4.out.2.1 N4.out.2.2.1 N4.out.2.2.2.1 (by omega)).mono ?_
  rintro e w11 ⟨ow, nw, cw, rfl, WH, N11, B11⟩
  obtain ⟨z0, z1, z2, z3⟩ := N11.out.1
  clear B11 N4 x0 x1 x2 x3
  go_wp2_with fail
  refine (nest_do2 N11.out HJ.out HW.out N11.out.2.1 N11.out.2.2.1 (by omega)).mono ?_
  rintro e w20 ⟨o20, n20, c20, rfl, R20, N20, B20⟩
  have WH20 : Hid (Reads w20 (.slice ow nw cw) (jOut 4 ⟨k, word, n⟩ [a, b, d]).length ((jOut 4 ⟨k, word, n⟩ [a, b, d]).map U)) := WH.out.below B20.out
  clear WH B20
  go_wp2_with fail
  refine (nest_do2 N20.out HJ.out HW.out R20.out N20.out.2.2.2.1 HLB1.out).mono ?_
  rintro e w21 ⟨o21, n21, c21, rfl, R21, N21, B21⟩
  have WH21 : Hid (Reads w21 (.slice ow nw cw) (jOut 4 ⟨k, word, n⟩ [a, b, d]).length ((jOut 4 ⟨k, word, n⟩ [a, b, d]).map U)) := WH20.out.below B21.out
  have heq1 := nest_eq HL.out R21.out WH21.out
  clear WH20 B21 R20 N20 R21
  go_wp2_with fail
  refine heq1.mono ?_
  rintro e w22 ⟨rfl, hb22⟩
  have N22 : Hid (NA w w22 4 ⟨k, word, n⟩ (.slice oa a.length ca) (.slice ob b.length cb) (.slice od d.length cd) a b d) := N21.out.below hb22
  have WH22 : Hid (Reads w22 (.slice ow nw cw) (jOut 4 ⟨k, word, n⟩ [a, b, d]).length ((jOut 4 ⟨k, word, n⟩ [a, b, d]).map U)) := WH21.out.below hb22
  clear WH21 hb22 N21 heq1
  go_wp2_with fail
  refine (nest_do2 N22.out HJ.out HW.out N22.out.2.2.1 N22.out.2.2.2.1 (by omega)).mono ?_
  rintro e w23 ⟨o23, n23, c23, rfl, R23, N23, B23⟩
  have WH23 : Hid (Reads w23 (.slice ow nw cw) (jOut 4 ⟨k, word, n⟩ [a, b, d]).length ((jOut 4 ⟨k, word, n⟩ [a, b, d]).map U)) := WH22.out.below B23.out
  clear WH22 B23 N22
  go_wp2_with fail
  refine (nest_do2 N23.out HJ.out HW.out N23.out.2.1 R23.out HLB2.out).mono ?_
  rintro e w24 ⟨o24, n24, c24, rfl, R24, N24, B24⟩
  have WH24 : Hid (Reads w24 (.slice ow nw cw) (jOut 4 ⟨k, word, n⟩ [a, b, d]).length ((jOut 4 ⟨k, word, n⟩ [a, b, d]).map U)) := WH23.out.below B24.out
  have heq2 := nest_eq HR.out R24.out WH24.out
  clear WH23 B24 N23 R23 R24 WH24
  go_wp2_with fail
  refine heq2.mono ?_
  rintro e w25 ⟨rfl, hb25⟩
  have N25 : Hid _ := N24.out.below hb25
  clear hb25 N24 heq2
  go_wp2_with fail
  go_ret
  exact ⟨rfl, N25.out.2.2.2.2.2⟩

end Go.Proofs.YtkifihcficobnaaGreatDoor
