/- What the developers' join's size does. What the developers' join's Do answers. What the developers' join's Do makes of right parts. -/
import Derived.Test.YtkifihcficobnaaGreatDoorJoinE
import Derived.BigQuiet
import Derived.Deep.QuietTactic
import Derived.Test.YtkifihcficobnaaGreatDoorDevJoin9
namespace Go.Proofs.YtkifihcficobnaaGreatDoor
open Go.RowKit Go.Gs
set_option linter.unusedVariables false

set_option maxRecDepth 100000 in
set_option maxHeartbeats 4000000 in
theorem size_is (v : Value) (pss : List (List UInt8)) (w : World) (hp : RList w v U pss) (hn : pss.length ≤ 1000) (hb : pss.flatten.length ≤ 1000000000000000000) :
    Calls Tryz.prog 66 #[v] w fun e w' => e = .returned (.int .i64 (pss.flatten.length : Int)) ∧ w' = w := by
  obtain ⟨ao, cap, rfl, hc1, hc2⟩ := hp.shape
  have HP : Hid (RList w (.slice ao pss.length cap) U pss) := hp
  obtain ⟨N, hN⟩ : ∃ N, N = pss.length := ⟨_, rfl⟩
  have HN : Hid (N = pss.length) := hN
  have hN4 : N ≤ 1000 := by omega
  have HT : Hid (pss.flatten.length ≤ 1000000000000000000) := hb
  rw [← hN]
  clear hN hp hn hc1 hc2 hb
  go_enter Tryz.func66, Tryz.ntmps66
  go_wp2_with fail
  go_loopw [3, 8] (fun s i wr => ∃ k : Nat, ∃ m : Nat, k ≤ N ∧ m ≤ 1000000000000000000 ∧ i = .int .i64 k ∧ s = .int .i64 m ∧ wr = w ∧ Hid (m = ((pss.take k).flatten).length))
    (fun _ i _ => N - (intOf i).toNat)
  case atStart => exact ⟨0, 0, Nat.zero_le _, by omega, rfl, rfl, rfl, (show _ = _ from by simp)⟩
  case round =>
    obtain ⟨k, m, hk, hm, rfl, rfl, hw, hmk⟩ := hrel
    obtain rfl : w = wr := hw.symm
    clear hw
    by_cases hlt : k < N
    · obtain ⟨p, hpk⟩ : ∃ p, pss[k]? = some p := ⟨_, List.getElem?_eq_getElem (by have := HN.out; omega)⟩
      have hsum : m + p.length ≤ 1000000000000000000 := by
        have h1 := flat_at_le hpk
        have h2 := hmk.out
        have h3 := HT.out
        omega
      have HS : Hid (m + p.length = ((pss.take (k + 1)).flatten).length) := (show _ = _ from by rw [flat_step hpk, List.length_append, ← hmk.out])
      obtain ⟨b, off, au, cu, rfl, hcell, _⟩ := HP.out.at hpk
      clear hpk hmk
      generalize p.length = pl at *
      go_wp2_with fail
      go_roundw
      case rel => exact ⟨k + 1, m + pl, by omega, by omega, by go_num, by go_num, by simp, HS.out⟩
      case measure => simp [intOf]; omega
    · have hkN : k = N := by omega
      have HD : Hid (m = pss.flatten.length) := (show _ = _ from by
        have h := hmk.out
        rw [hkN, HN.out, List.take_length] at h
        exact h)
      clear hmk
      go_wp2_with fail
      go_ret
      refine ⟨?_, rfl⟩
      rw [← HD.out]
      rfl

end Go.Proofs.YtkifihcficobnaaGreatDoor
namespace Go.Proofs.YtkifihcficobnaaGreatDoor
open Go.RowKit Go.Gs
set_option linter.unusedVariables false

/-- What the loop of Do stands on. -/
def DRel (w wr : World) (bss : List (List UInt8)) (G i : Nat) : Prop :=
  ∃ vs : List Value, wr.heap[G]? = some (.cells vs.toArray 34 (0, 0)) ∧ vs.length = bss.length ∧ (∀ (j : Nat) (p : List UInt8), j < i → bss[j]? = some p → ∃ u, vs[j]? = some u ∧ Reads wr u (lines p).length ((lines p).map S)) ∧ (∀ j, i ≤ j → j < bss.length → vs[j]? = some (.slice none 0 0)) ∧ Below w.heap.size w wr
theorem slice_not_S {l : List (List UInt8)} {a : Option Addr} {n c : Nat} : Value.slice a n c ∉ l.map S := by
  intro h
  obtain ⟨x, _, e⟩ := List.mem_map.1 h
  cases e
theorem DRel.cell {w wr : World} {bss : List (List UInt8)} {G i : Nat} (h : DRel w wr bss G i) (hi : i < bss.length) : wr.cell? ⟨G, i, none⟩ = some (.slice none 0 0) ∧ wr.frozen? ⟨G, i, none⟩ = false ∧ G < wr.heap.size := by
  obtain ⟨vs, h1, h2, h3, h4, h5⟩ := h
  refine ⟨?_, frozen_of_row _ _ _ _ _ h1, ?_⟩
  · rw [cell_of_row _ _ _ _ _ _ h1]
    simpa using h4 i (Nat.le_refl _) hi
  · rcases Nat.lt_or_ge G wr.heap.size with h | h
    · exact h
    · rw [Array.getElem?_eq_none h] at h1; cases h1
theorem DRel.below {w wr w1 : World} {bss : List (List UInt8)} {G i : Nat} (h : DRel w wr bss G i) (hb : Below wr.heap.size wr w1) (hG : G < wr.heap.size) : DRel w w1 bss G i := by
  obtain ⟨vs, h1, h2, h3, h4, h5⟩ := h
  refine ⟨vs, by rw [hb.block G hG]; exact h1, h2, fun j p hj hp => ?_, h4, h5.trans (hb.mono h5.size)⟩
  obtain ⟨u, h6, h7⟩ := h3 j p hj hp
  exact ⟨u, h6, h7.below hb⟩
theorem DRel.step {w wr : World} {bss : List (List UInt8)} {G i : Nat} {u : Value} {p : List UInt8} (h : DRel w wr bss G i) (hp : bss[i]? = some p) (hu : Reads wr u (lines p).length ((lines p).map S)) (hG : w.heap.size ≤ G) : DRel w (wr.setCell ⟨G, i, none⟩ u) bss G (i + 1) := by
  have hi : i < bss.length := (List.getElem?_eq_some_iff.1 hp).1
  obtain ⟨hc, _, _⟩ := h.cell hi
  obtain ⟨vs, h1, h2, h3, h4, h5⟩ := h
  refine ⟨vs.set i u, by rw [heap_setCell_same _ _ _ _ _ _ h1]; simp, by simp [h2], fun j q hj hq => ?_, fun j hj hjl => ?_, h5.setCell hG _⟩
  · by_cases hji : i = j
    · subst hji
      rw [hp] at hq
      injection hq with hq
      subst hq
      exact ⟨u, List.getElem?_set_self (by omega), hu.setCell hc u slice_not_S⟩
    · obtain ⟨u', h6, h7⟩ := h3 j q (by omega) hq
      exact ⟨u', by rw [List.getElem?_set_ne hji]; exact h6, h7.setCell hc u slice_not_S⟩
  · rw [List.getElem?_set_ne (by omega)]
    exact h4 j (by omega) hjl
theorem DRel.done {w wr : World} {bss : List (List UInt8)} {G i : Nat} (h : DRel w wr bss G i) (hi : i = bss.length) (hn : bss.length ≤ 1000) : RList wr (.slice (some ⟨G, 0, none⟩) bss.length bss.length) S (bss.map lines) := by
  subst hi
  obtain ⟨vs, h1, h2, h3, h4, h5⟩ := h
  refine ⟨vs, ⟨by simp [h2], _, _, by rw [List.length_map], by simp, by unfold maxLen; omega, fun _ => ⟨G, 0, rfl, fun j u hu => ?_⟩⟩, fun j p hj => ?_⟩
  · rw [Nat.zero_add, cell_of_row _ _ _ _ _ _ h1]
    simpa using hu
  · rw [List.getElem?_map] at hj
    cases hb : bss[j]? with
    | none => rw [hb] at hj; cases hj
    | some q =>
      rw [hb] at hj
      simp only [Option.map_some, Option.some.injEq] at hj
      subst hj
      exact h3 j q (List.getElem?_eq_some_iff.1 hb).1 hb

set_option maxRecDepth 100000 in
set_option maxHeartbeats 4000000 in
theorem jdo_err (how : Int) (c : Cmd) (v : Value) (w : World) (hw : c.word.length ≤ 9223372036854775807) (h : jchk how c ≠ 0) :
    Calls Tryz.prog 30 #[.int .i64 how, c.v, v] w fun e w' => e = .returned (.tuple #[.slice none 0 0, .int .i64 (jchk how c)]) ∧ Below w.heap.size w w' := by
  have hchk := fun W => jcheck_is how c W hw
  generalize jchk how c = r at *
  obtain ⟨k, word, n⟩ := c
  unfold Cmd.v at hchk ⊢
  simp only at hchk ⊢
  generalize (⟨word.toArray⟩ : ByteArray) = sx at *
  go_enter Tryz.func30, Tryz.ntmps30
  go_wp2_with fail
  refine (hchk _).mono ?_
  rintro e w1 ⟨rfl, hb1⟩
  have HB : Hid (Below w.heap.size w w1) := box_of.trans (hb1.mono (by simp))
  clear hb1 hchk
  go_wp2_with fail
  go_ret2
  exact ⟨rfl, HB.out⟩

set_option maxRecDepth 100000 in
set_option maxHeartbeats 4000000 in
theorem jdo_many (how : Int) (c : Cmd) (v : Value) (bss : List (List UInt8)) (w : World) (hw : c.word.length ≤ 9223372036854775807) (h : jchk how c = 0) (hp : RList w v U bss) (hbs : ∀ p ∈ bss, p.length ≤ 1000000000000000) (hm : 5 < bss.length ∨ 4000 < bss.flatten.length) :
    Calls Tryz.prog 30 #[.int .i64 how, c.v, v] w fun e w' => e = .returned (.tuple #[.slice none 0 0, .int .i64 2]) ∧ Below w.heap.size w w' := by
  have hchk := fun W => jcheck_is how c W hw
  rw [h] at hchk
  obtain ⟨k, word, n⟩ := c
  unfold Cmd.v at hchk ⊢
  simp only at hchk ⊢
  generalize (⟨word.toArray⟩ : ByteArray) = sx at *
  obtain ⟨ao, cap, rfl, hc1, hc2⟩ := hp.shape
  have hcm : cap ≤ 9223372036854775807 := by simpa [maxLen] using hc2
  have HP : Hid (RList w (.slice ao bss.length cap) U bss) := hp
  by_cases h5 : 5 < bss.length
  · clear hp hm hc2
    generalize bss.length = N at *
    go_enter Tryz.func30, Tryz.ntmps30
    go_wp2_with fail
    refine (hchk _).mono ?_
    rintro e w1 ⟨rfl, hb1⟩
    have HB : Hid (Below w.heap.size w w1) := box_of.trans (hb1.mono (by simp))
    clear hb1 hchk
    go_wp2_with fail
    go_ret2
    exact ⟨rfl, HB.out⟩
  · have hT : 4000 < bss.flatten.length := by rcases hm with h | h; exact absurd h h5; exact h
    have hTb : bss.flatten.length ≤ 1000000000000000000 := by
      have : bss.flatten.length ≤ 1000000000000000 * bss.length := by
        clear hp hm h5 hT HP hc1
        induction bss with
        | nil => simp
        | cons p r ih =>
          have h1 := hbs p (by simp)
          have h2 := ih (fun q hq => hbs q (by simp [hq]))
          simp only [List.flatten_cons, List.length_append, List.length_cons]
          omega
      omega
    have hsize := fun (W : World) (hb : Below w.heap.size w W) => size_is _ bss W (hp.below hb) (by omega) hTb
    clear hp hm hc2 hbs
    generalize bss.flatten.length = T at *
    generalize bss.length = N at *
    go_enter Tryz.func30, Tryz.ntmps30
    go_wp2_with fail
    refine (hchk _).mono ?_
    rintro e w1 ⟨rfl, hb1⟩
    have HB : Hid (Below w.heap.size w w1) := box_of.trans (hb1.mono (by simp))
    have hs1 := hsize w1 HB.out
    clear hb1 hchk hsize
    go_wp2_with fail
    refine hs1.mono ?_
    rintro e w2 ⟨rfl, hw2⟩
    obtain rfl : w1 = w2 := hw2.symm
    clear hs1 hw2
    go_wp2_with fail
    go_ret2
    exact ⟨rfl, HB.out⟩
end Go.Proofs.YtkifihcficobnaaGreatDoor
namespace Go.Proofs.YtkifihcficobnaaGreatDoor
open Go.RowKit Go.Gs
set_option linter.unusedVariables false

theorem lines_all_short {bss : List (List UInt8)} (h : bss.flatten.length ≤ 4000) : ∀ p ∈ bss.map lines, ∀ s ∈ p, s.length ≤ 4000 := by
  intro p hp s hs
  obtain ⟨b, hb, rfl⟩ := List.mem_map.1 hp
  exact lines_short hs (Nat.le_trans (flat_mem_le hb) h)

set_option maxRecDepth 100000 in
set_option maxHeartbeats 4000000 in
theorem jdo_ok (how : Int) (c : Cmd) (v : Value) (bss : List (List UInt8)) (w : World) (hw : c.word.length ≤ 9223372036854775807) (h : jchk how c = 0) (hp : RList w v U bss) (hn : bss.length ≤ 5) (hT : bss.flatten.length ≤ 4000) (hE : KnownE w) :
    Calls Tryz.prog 30 #[.int .i64 how, c.v, v] w fun e w' => ∃ r, e = .returned (.tuple #[r, .int .i64 0]) ∧ w'.ownsRow w.heap.size 5 1 r (jOut how c bss).length ((jOut how c bss).map U) ∧ Below w.heap.size w w' := by
  obtain ⟨i1, hi', hy0, hy1, hy2⟩ := info_parts infoList
  have hchk := fun W => jcheck_is how c W hw
  rw [h] at hchk
  have hover := fun (v : Value) (W : World) hp hE => jover_is how c h v (bss.map lines) W hw hp (by simpa using hn) (Nat.le_trans (Nat.le_trans (flat_lines_count bss) hT) (by omega)) (fun p hp s hs => Nat.le_trans (lines_all_short hT p hp s hs) (by omega)) hE
  have hlen : (ended (joined how c (bss.map lines))).length ≤ 1000000 := by have := jOut_len how c (jchk_chk h) bss (by omega) hn; unfold jOut at this; omega
  have hend := fun (v : Value) (W : World) hr => ended_reads v (joined how c (bss.map lines)) W hr hlen
  have hdo : ended (joined how c (bss.map lines)) = jOut how c bss := rfl
  rw [hdo] at hend
  clear hlen hdo h
  generalize jOut how c bss = D at *
  generalize joined how c (bss.map lines) = M at *
  obtain ⟨k, word, n⟩ := c
  unfold Cmd.v at hchk hover ⊢
  simp only at hchk hover ⊢
  generalize (⟨word.toArray⟩ : ByteArray) = sx at *
  obtain ⟨ao, cap, rfl, hc1, hc2⟩ := hp.shape
  have hcm : cap ≤ 9223372036854775807 := by simpa [maxLen] using hc2
  have hsize := fun (W : World) (hb : Below w.heap.size w W) => size_is _ bss W (hp.below hb) (by omega) (by omega)
  have HP : Hid (RList w (.slice ao bss.length cap) U bss) := hp
  have HO : Hid _ := hover
  have HE : Hid _ := hend
  have HK : Hid (KnownE w) := hE
  have HTb : Hid (bss.flatten.length ≤ 4000) := hT
  obtain ⟨T, hTT⟩ : ∃ T, T = bss.flatten.length := ⟨_, rfl⟩
  rw [← hTT] at hsize hT
  obtain ⟨N, hN⟩ : ∃ N, N = bss.length := ⟨_, rfl⟩
  have HN : Hid (N = bss.length) := hN
  rw [← hN] at hsize hn hc1 ⊢
  have hb4 : i1.bytes * N ≤ 281474976710656 := by rw [hy2]; omega
  have hb5 : N ≤ maxLen := by unfold maxLen; omega
  clear hp hover hend hE hc2 hTT hN
  go_enter Tryz.func30, Tryz.ntmps30
  go_wp2_with fail
  refine (hchk _).mono ?_
  rintro e w1 ⟨rfl, hb1⟩
  obtain ⟨x0, x1, x2⟩ := jbox_cells hb1
  have HB : Hid (Below w.heap.size w w1) := box_of.trans (hb1.mono (by simp))
  have hs1 := hsize w1 HB.out
  have hsz1 : w.heap.size < w1.heap.size := by have := hb1.size; simp at this; omega
  clear hb1 hchk hsize
  go_wp2_with (first | (go_at_call 66; refine hs1.mono ?_; rintro e w2 ⟨rfl, hw2⟩; obtain rfl : w1 = w2 := hw2.symm) | (at_make; refine wpList_make_full _ rfl (.tmp 31) (.tmp 31) 90 rfl w1.heap.size 34 i1 (.slice none 0 0) 1 Tryz.underlying90 hi' hy0 hy1 .i64 .i64 _ _ N rfl rfl rfl rfl hb4 hb5 (Nat.le_refl _) ?_))
  intro w3 hout3 hgrow3
  have HD3 : Hid (DRel w1 w3 bss w1.heap.size 0) := by
    refine ⟨List.replicate N (.slice none 0 0), ?_, by simp [HN.out], fun j p hj => absurd hj (Nat.not_lt_zero _), fun j _ hj => ?_, below_grown hgrow3 (Nat.le_refl _)⟩
    · have := (row_of_owns hout3).1
      rw [toList_madeCells_one] at this
      exact this
    · rw [List.getElem?_replicate, if_pos (by rw [HN.out]; exact hj)]
  clear hout3 hgrow3 hs1 hw2
  go_wp2_with fail
  go_loopw [35] (fun i wr => ∃ k : Nat, k ≤ N ∧ i = .int .i64 k ∧ Hid (DRel w1 wr bss w1.heap.size k)) (fun i _ => N - (intOf i).toNat)
  case atStart => exact ⟨0, Nat.zero_le _, rfl, HD3.out⟩
  case round =>
    obtain ⟨i, hiN, rfl, hrel⟩ := hrel
    have HBr : Hid (Below w1.heap.size w1 wr) := by obtain ⟨vs, _, _, _, _, h5⟩ := hrel.out; exact h5
    have HBw : Hid (Below w.heap.size w wr) := HB.out.trans (HBr.out.mono HB.out.size)
    by_cases hlt : i < N
    · obtain ⟨p, hpk⟩ : ∃ p, bss[i]? = some p := ⟨_, List.getElem?_eq_getElem (by have := HN.out; omega)⟩
      have HPr : Hid (RList wr (.slice ao N cap) U bss) := by rw [HN.out]; exact HP.out.below HBw.out
      obtain ⟨b, off, au, cu, rfl, hcell, hru⟩ := HPr.out.at hpk
      have hpl : p.length ≤ 4000 := Nat.le_trans (flat_mem_le (List.mem_of_getElem? hpk)) HTb.out
      have hof := of_reads _ p wr hru hpl
      have HPK : Hid _ := hpk
      obtain ⟨hcG, hfG, hG⟩ := hrel.out.cell (by have := HN.out; omega)
      clear hpk hru
      generalize p.length = pl at *
      go_wp2_with fail
      refine hof.mono ?_
      rintro e w4 ⟨l, rfl, hown4, hb4'⟩
      have HR4 : Hid (Reads w4 l (lines p).length ((lines p).map S)) := Reads.of_owns hown4
      have hD4 := hrel.out.below hb4' hG
      obtain ⟨hcG4, hfG4, hG4⟩ := hD4.cell (by have := HN.out; omega)
      have HD5 : Hid (DRel w1 (w4.setCell ⟨w1.heap.size, i, none⟩ l) bss w1.heap.size (i + 1)) := hD4.step HPK.out HR4.out (Nat.le_refl _)
      obtain ⟨_, al, cl, rfl, _⟩ := id HR4.out
      clear hown4 hb4' hrel hD4 hof hcG hfG hcell
      go_wp2_with fail
      go_roundw
      case rel => exact ⟨i + 1, by omega, by go_num, HD5.out⟩
      case measure => simp [intOf]; omega
    · have hiN2 : i = N := by omega
      have HRL : Hid (RList wr (.slice (some ⟨w1.heap.size, 0, none⟩) N N) S (bss.map lines)) := by
        have := hrel.out.done (by rw [hiN2, HN.out]) (by have := HN.out; omega)
        rw [← HN.out] at this
        exact this
      have y0 : wr.cell? ⟨w.heap.size, 0, none⟩ = some (.int .i64 k) := (HBr.out.cell hsz1).trans x0
      have y1 : wr.cell? ⟨w.heap.size, 1, none⟩ = some (.string sx) := (HBr.out.cell hsz1).trans x1
      have y2 : wr.cell? ⟨w.heap.size, 2, none⟩ = some (.int .i64 n) := (HBr.out.cell hsz1).trans x2
      clear hrel x0 x1 x2
      go_wp2_with fail
      refine (HO.out _ wr HRL.out (HK.out.below HBw.out)).mono ?_
      rintro e w5 ⟨r5, rfl, hr5, hb5'⟩
      have HR5 : Hid _ := hr5
      have HB5 : Hid (Below w.heap.size w w5) := HBw.out.trans (hb5'.mono HBw.out.size)
      clear hr5 hb5' y0 y1 y2
      go_wp2_with fail
      refine (HE.out r5 w5 HR5.out).mono ?_
      rintro e w6 ⟨r6, rfl, hown6, hb6⟩
      have HO6 : Hid _ := owns_mono hown6 HB5.out.size
      have HB6 : Hid (Below w.heap.size w w6) := HB5.out.trans (hb6.mono HB5.out.size)
      clear hown6 hb6
      go_wp2_with fail
      go_ret2
      exact ⟨_, rfl, HO6.out, HB6.out⟩
end Go.Proofs.YtkifihcficobnaaGreatDoor
