/- What the developers' Read does, for every pipe. -/
import Derived.Test.YtobaeafhdgolmabDevPipe2
namespace Go.Proofs.Ytobaeafhdgolmab
open Go.RowKit Go.Gs
set_option linter.unusedVariables false

theorem nil_formP {w : World} {n cap : Nat} {xs : List Value} (h : Reads w (.slice none n cap) n xs) (hz : cap = 0) : n = 0 ∧ cap = 0 := by
  obtain ⟨_, _, h1⟩ := reads_leP h
  exact ⟨by omega, hz⟩
theorem reads_noneP {w : World} {ao : Option Addr} {n cap : Nat} {bs : List UInt8} (hn : n = 0) (hl : bs.length = 0) (hc : n ≤ cap) (hm : cap ≤ 9223372036854775807) : Reads w (.slice ao n cap) n (bs.map U) :=
  ⟨by rw [List.length_map]; omega, ao, cap, rfl, hc, by unfold maxLen; omega, fun h => absurd hn h⟩
theorem reads_dropAnyP {w : World} {a : Addr} {n cap k : Nat} {bs : List UInt8} (h : Reads w (.slice (some a) n cap) n (bs.map U)) (hk : k ≤ n) : Reads w (.slice (some (a.add k)) (n - k) (cap - k)) (n - k) ((bs.drop k).map U) := by
  have h0 := h
  obtain ⟨hl, ao, cap', e, h3, h4, h5⟩ := h
  injection e with e1 e2 e3
  subst e3
  rw [List.length_map] at hl
  by_cases hn : n - k = 0
  · exact ⟨by simp; omega, _, _, rfl, by omega, by omega, fun h => absurd hn h⟩
  · obtain ⟨b, off, e, _⟩ := h5 (by omega)
    rw [e] at e1
    injection e1 with e1
    subst e1
    rw [addP]
    exact reads_dropP h0 hk
/-- What Read answers. -/
def ReadEnd (w : World) (z : SPipe × List UInt8 × Int) (e : Ending) (w' : World) : Prop :=
  ∃ ar cr ag cg, e = .returned (.tuple #[pipeV z.1 ar cr, .slice ag z.2.1.length cg, .int .i64 z.2.2]) ∧ PB w w' ar cr z.1.b ∧ PB w w' ag cg z.2.1 ∧ Below w.heap.size w w'
theorem readEnd_err {w w' : World} {e : Ending} {r : Int} (he : e = .returned (.tuple #[.agg #[.slice none 0 0, .int .i64 0, .bool false, .bool false], .slice none 0 0, .int .i64 r])) (hb : Below w.heap.size w w') : ReadEnd w (zeroP, [], r) e w' :=
  ⟨none, 0, none, 0, he, PB.none _ _, PB.none _ _, hb⟩

set_option maxRecDepth 100000 in
set_option maxHeartbeats 2000000 in
theorem read_is (ab : Option Addr) (cap : Nat) (p : SPipe) (m : Int) (w : World) (hr : Reads w (.slice ab p.b.length cap) p.b.length (p.b.map U)) (hz : ab = none → cap = 0) :
    Calls Try.prog 10 #[pipeV p ab cap, .int .i64 m] w fun e w' => ReadEnd w (pread p m) e w' := by
  obtain ⟨bs, room, cl, sh⟩ := p
  have hn := (reads_leP hr).1
  have HR : Hid (Reads w (.slice ab bs.length cap) bs.length (bs.map U)) := hr
  have HO : Hid _ := fun (W : World) => pcheck_is ab bs.length cap room cl sh W hn
  have HB : Hid _ := fun h => pread_bad (p := ⟨bs, room, cl, sh⟩) (m := m) h
  have HG : Hid _ := fun h => pread_range (p := ⟨bs, room, cl, sh⟩) (m := m) h
  have HK : Hid _ := fun h => pread_ok (p := ⟨bs, room, cl, sh⟩) (m := m) h
  have HL : Hid (pck bs.length room sh = 0 → bs.length ≤ 100000) := (show pck bs.length room sh = 0 → bs.length ≤ 100000 from fun h => by
    obtain ⟨_, g2, g3, _⟩ := pck_ok h
    have g4 : plim room ≤ 40000 := plim_le g2
    omega)
  unfold pchk at HB HG HK
  unfold pipeV
  generalize hZ : pread ⟨bs, room, cl, sh⟩ m = Z at *
  simp only at HB HG HK hn ⊢
  obtain ⟨L, hL⟩ : ∃ L, L = pck bs.length room sh := ⟨_, rfl⟩
  rw [← hL] at HO HB HG HK HL
  obtain ⟨N, hN⟩ : ∃ N, N = bs.length := ⟨_, rfl⟩
  have HN : Hid (N = bs.length) := hN
  rw [← hN] at HO HL HR hn ⊢
  clear hL hZ hr hN
  go_enter Try.func10, Try.ntmps10
  go_wp2_with fail
  refine (HO.out _).mono ?_
  rintro e w1 ⟨rfl, hb1⟩
  obtain ⟨x1, x2⟩ := box44P hb1
  have X1 : Hid _ := x1
  have X2 : Hid _ := x2
  obtain ⟨c0, c1, c2, c3⟩ := cells4P x1
  have HB1 : Hid (Below w.heap.size w w1) := boxr2P.trans (hb1.mono boxr2P.size)
  have hs : w.heap.size + 1 < w1.heap.size := by have := hb1.size; simp at this; omega
  clear hb1 HO x1 x2
  by_cases h0 : L = 0
  · have hl := HL.out h0
    by_cases hm : m < 0 ∨ 4000 < m
    · obtain rfl := HG.out h0 hm
      obtain ⟨d0, d1, d2, d3⟩ := cells4P X2.out
      obtain ⟨g0, g1, g2, g3⟩ := frz4P X2.out
      clear HK HB HL HG X1 X2
      subst h0
      by_cases hm0 : m < 0
      · clear hm
        go_wp2_with fail
        (try simp only [Exit.inBlock, Exit.then])
        refine bodyPost_ret (v := .tuple #[.agg #[.slice none 0 0, .int .i64 0, .bool false, .bool false], .slice none 0 0, .int .i64 3]) ?_ rfl (readEnd_err rfl ?_)
        · rw [results_cell_tmp2P rfl]
          go_simp
        · repeat (first | refine Below.setCell ?_ (by simp) _ | exact HB1.out)
      · have hm1 : 4000 < m := by omega
        clear hm
        go_wp2_with fail
        (try simp only [Exit.inBlock, Exit.then])
        refine bodyPost_ret (v := .tuple #[.agg #[.slice none 0 0, .int .i64 0, .bool false, .bool false], .slice none 0 0, .int .i64 3]) ?_ rfl (readEnd_err rfl ?_)
        · rw [results_cell_tmp2P rfl]
          go_simp
        · repeat (first | refine Below.setCell ?_ (by simp) _ | exact HB1.out)
    · have HZ : Hid _ := HK.out h0 hm
      clear HK HB HL HG
      subst h0
      have hm0 : ¬ m < 0 := by omega
      have hm1 : ¬ 4000 < m := by omega
      obtain ⟨M, rfl⟩ := Int.eq_ofNat_of_zero_le (show 0 ≤ m by omega)
      clear hm hm0
      rw [Int.toNat_natCast, ← HN.out] at HZ
      have hcc := (reads_leP HR.out).2
      cases ab with
      | none =>
        obtain ⟨rfl, rfl⟩ := nil_formP HR.out (hz rfl)
        rcases Nat.eq_zero_or_pos M with rfl | hMp
        · have HZ2 : Hid (Z = (⟨bs.drop 0, room, cl, sh⟩, bs.take 0, 0)) := (show _ = _ by rw [HZ.out]; first | rw [Nat.min_eq_left (by omega)] | rw [Nat.min_eq_right (by omega)])
          clear HZ
          have HD : Hid (∀ W, Below w.heap.size w W → Reads W (.slice none (0) (0)) (0) ((bs.drop 0).map U)) := (show ∀ W, Below w.heap.size w W → Reads W (.slice none (0) (0)) (0) ((bs.drop 0).map U) from fun W hW => reads_noneP (by omega) (by rw [List.length_drop, ← HN.out]; try omega) (by omega) (by omega))
          have hl1 : (bs.take 0).length = 0 := by rw [List.length_take, ← HN.out]; omega
          have hl2 : (bs.drop 0).length = 0 := by rw [List.length_drop, ← HN.out]; first | done | omega
          have hC1 := bcloneP none 0 (bs.take 0) w1 (by rw [hl1]; exact reads_takeP (Reads.below HR.out HB1.out) (Nat.le_refl _)) (by omega)
          have hC2 := fun (W : World) (hW : Below w1.heap.size w1 W) => bcloneP none 0 (bs.drop 0) W (by rw [hl2]; exact HD.out _ (HB1.out.trans (hW.mono HB1.out.size))) (by omega)
          rw [hl1] at hC1
          rw [hl2] at hC2
          have HL1 : Hid _ := hl1
          have HL2 : Hid _ := hl2
          have HC1 : Hid _ := hC1
          have HC2 : Hid _ := hC2
          clear hC1 hC2 hl1 hl2 HR HD
          go_wp2_with fail
          refine Calls.mono HC1.out ?_
          rintro e w2 ⟨ag, cg, rfl, hpg, hb2⟩
          have X1' : Hid _ := (hb2.block _ (by omega)).trans X1.out
          have X2' : Hid _ := (hb2.block _ (by omega)).trans X2.out
          clear c0 c1 c2 c3
          obtain ⟨c0, c1, c2, c3⟩ := cells4P X1'.out
          have HPG : Hid (PB w1 w2 ag cg (bs.take 0)) := hpg
          have hs2 := hb2.size
          have HB2 : Hid (Below w1.heap.size w1 w2) := hb2
          clear hb2 hpg HC1 X1 X2
          go_wp2_with fail
          refine Calls.mono (HC2.out w2 HB2.out) ?_
          rintro e w3 ⟨ar, cr, rfl, hpr, hb3⟩
          clear c0 c1 c2 c3
          obtain ⟨c0, c1, c2, c3⟩ := cells4P ((hb3.block _ (by omega)).trans X1'.out)
          obtain ⟨d0, d1, d2, d3⟩ := cells4P ((hb3.block _ (by omega)).trans X2'.out)
          obtain ⟨f0, f1, f2, f3⟩ := frz4P ((hb3.block _ (by omega)).trans X1'.out)
          obtain ⟨g0, g1, g2, g3⟩ := frz4P ((hb3.block _ (by omega)).trans X2'.out)
          have HPR : Hid (PB w2 w3 ar cr (bs.drop 0)) := hpr
          have HPG3 : Hid (PB w1 w3 ag cg (bs.take 0)) := ⟨Reads.below HPG.out.1 hb3, HPG.out.2⟩
          have HB3 : Hid (Below w.heap.size w w3) := HB1.out.trans ((HB2.out.trans (hb3.mono hs2)).mono HB1.out.size)
          clear hb3 hpr HC2 X1' X2' HPG
          go_wp2_with fail
          (try simp only [Exit.inBlock, Exit.then])
          refine bodyPost_ret (v := .tuple #[.agg #[.slice ar (0) cr, .int .i64 room, .bool cl, .bool sh], .slice ag 0 cg, .int .i64 0]) ?_ rfl ?_
          · rw [results_cell_tmp2P rfl]
            go_simp
          · rw [HZ2.out]
            refine ⟨ar, cr, ag, cg, ?_, ?_, ?_, ?_⟩
            · unfold pipeV
              simp only
              rw [HL1.out, HL2.out]
            · refine PB.fromP (w1 := w2) ?_ (by have := HB1.out.size; omega)
              repeat (first | refine PB.setP ?_ (by omega) _ | exact HPR.out)
            · refine PB.fromP (w1 := w1) ?_ HB1.out.size
              repeat (first | refine PB.setP ?_ (by omega) _ | exact HPG3.out)
            · repeat (first | refine Below.setCell ?_ (by simp) _ | exact HB3.out)
        · have HZ2 : Hid (Z = (⟨bs.drop 0, room, cl, sh⟩, bs.take 0, 0)) := (show _ = _ by rw [HZ.out]; first | rw [Nat.min_eq_left (by omega)] | rw [Nat.min_eq_right (by omega)])
          clear HZ
          have HD : Hid (∀ W, Below w.heap.size w W → Reads W (.slice none (0) (0)) (0) ((bs.drop 0).map U)) := (show ∀ W, Below w.heap.size w W → Reads W (.slice none (0) (0)) (0) ((bs.drop 0).map U) from fun W hW => reads_noneP (by omega) (by rw [List.length_drop, ← HN.out]; try omega) (by omega) (by omega))
          have hl1 : (bs.take 0).length = 0 := by rw [List.length_take, ← HN.out]; omega
          have hl2 : (bs.drop 0).length = 0 := by rw [List.length_drop, ← HN.out]; first | done | omega
          have hC1 := bcloneP none 0 (bs.take 0) w1 (by rw [hl1]; exact reads_takeP (Reads.below HR.out HB1.out) (Nat.le_refl _)) (by omega)
          have hC2 := fun (W : World) (hW : Below w1.heap.size w1 W) => bcloneP none 0 (bs.drop 0) W (by rw [hl2]; exact HD.out _ (HB1.out.trans (hW.mono HB1.out.size))) (by omega)
          rw [hl1] at hC1
          rw [hl2] at hC2
          have HL1 : Hid _ := hl1
          have HL2 : Hid _ := hl2
          have HC1 : Hid _ := hC1
          have HC2 : Hid _ := hC2
          clear hC1 hC2 hl1 hl2 HR HD
          go_wp2_with fail
          refine Calls.mono HC1.out ?_
          rintro e w2 ⟨ag, cg, rfl, hpg, hb2⟩
          have X1' : Hid _ := (hb2.block _ (by omega)).trans X1.out
          have X2' : Hid _ := (hb2.block _ (by omega)).trans X2.out
          clear c0 c1 c2 c3
          obtain ⟨c0, c1, c2, c3⟩ := cells4P X1'.out
          have HPG : Hid (PB w1 w2 ag cg (bs.take 0)) := hpg
          have hs2 := hb2.size
          have HB2 : Hid (Below w1.heap.size w1 w2) := hb2
          clear hb2 hpg HC1 X1 X2
          go_wp2_with fail
          refine Calls.mono (HC2.out w2 HB2.out) ?_
          rintro e w3 ⟨ar, cr, rfl, hpr, hb3⟩
          clear c0 c1 c2 c3
          obtain ⟨c0, c1, c2, c3⟩ := cells4P ((hb3.block _ (by omega)).trans X1'.out)
          obtain ⟨d0, d1, d2, d3⟩ := cells4P ((hb3.block _ (by omega)).trans X2'.out)
          obtain ⟨f0, f1, f2, f3⟩ := frz4P ((hb3.block _ (by omega)).trans X1'.out)
          obtain ⟨g0, g1, g2, g3⟩ := frz4P ((hb3.block _ (by omega)).trans X2'.out)
          have HPR : Hid (PB w2 w3 ar cr (bs.drop 0)) := hpr
          have HPG3 : Hid (PB w1 w3 ag cg (bs.take 0)) := ⟨Reads.below HPG.out.1 hb3, HPG.out.2⟩
          have HB3 : Hid (Below w.heap.size w w3) := HB1.out.trans ((HB2.out.trans (hb3.mono hs2)).mono HB1.out.size)
          clear hb3 hpr HC2 X1' X2' HPG
          go_wp2_with fail
          (try simp only [Exit.inBlock, Exit.then])
          refine bodyPost_ret (v := .tuple #[.agg #[.slice ar (0) cr, .int .i64 room, .bool cl, .bool sh], .slice ag 0 cg, .int .i64 0]) ?_ rfl ?_
          · rw [results_cell_tmp2P rfl]
            go_simp
          · rw [HZ2.out]
            refine ⟨ar, cr, ag, cg, ?_, ?_, ?_, ?_⟩
            · unfold pipeV
              simp only
              rw [HL1.out, HL2.out]
            · refine PB.fromP (w1 := w2) ?_ (by have := HB1.out.size; omega)
              repeat (first | refine PB.setP ?_ (by omega) _ | exact HPR.out)
            · refine PB.fromP (w1 := w1) ?_ HB1.out.size
              repeat (first | refine PB.setP ?_ (by omega) _ | exact HPG3.out)
            · repeat (first | refine Below.setCell ?_ (by simp) _ | exact HB3.out)
      | some a =>
        rcases Nat.lt_trichotomy M N with hMN | rfl | hMN
        · have HZ2 : Hid (Z = (⟨bs.drop M, room, cl, sh⟩, bs.take M, 0)) := (show _ = _ by rw [HZ.out]; first | rw [Nat.min_eq_left (by omega)] | rw [Nat.min_eq_right (by omega)])
          clear HZ
          have hkN : M ≤ N := by omega
          have hcap : ¬ cap = M := by omega
          have HD : Hid (∀ W, Below w.heap.size w W → Reads W (.slice (some (a.add M)) (N - M) (cap - M)) (N - M) ((bs.drop M).map U)) := (show ∀ W, Below w.heap.size w W → Reads W (.slice (some (a.add M)) (N - M) (cap - M)) (N - M) ((bs.drop M).map U) from fun W hW => reads_dropAnyP (Reads.below HR.out hW) hkN)
          have hl1 : (bs.take M).length = M := by rw [List.length_take, ← HN.out]; omega
          have hl2 : (bs.drop M).length = N - M := by rw [List.length_drop, ← HN.out]; first | done | omega
          have hC1 := bcloneP (some a) cap (bs.take M) w1 (by rw [hl1]; exact reads_takeP (Reads.below HR.out HB1.out) hkN) (by omega)
          have hC2 := fun (W : World) (hW : Below w1.heap.size w1 W) => bcloneP (some (a.add M)) (cap - M) (bs.drop M) W (by rw [hl2]; exact HD.out _ (HB1.out.trans (hW.mono HB1.out.size))) (by omega)
          rw [hl1] at hC1
          rw [hl2] at hC2
          have HL1 : Hid _ := hl1
          have HL2 : Hid _ := hl2
          have HC1 : Hid _ := hC1
          have HC2 : Hid _ := hC2
          clear hC1 hC2 hl1 hl2 HR HD
          go_wp2_with fail
          refine Calls.mono HC1.out ?_
          rintro e w2 ⟨ag, cg, rfl, hpg, hb2⟩
          have X1' : Hid _ := (hb2.block _ (by omega)).trans X1.out
          have X2' : Hid _ := (hb2.block _ (by omega)).trans X2.out
          clear c0 c1 c2 c3
          obtain ⟨c0, c1, c2, c3⟩ := cells4P X1'.out
          have HPG : Hid (PB w1 w2 ag cg (bs.take M)) := hpg
          have hs2 := hb2.size
          have HB2 : Hid (Below w1.heap.size w1 w2) := hb2
          clear hb2 hpg HC1 X1 X2
          go_wp2_with fail
          refine Calls.mono (HC2.out w2 HB2.out) ?_
          rintro e w3 ⟨ar, cr, rfl, hpr, hb3⟩
          clear c0 c1 c2 c3
          obtain ⟨c0, c1, c2, c3⟩ := cells4P ((hb3.block _ (by omega)).trans X1'.out)
          obtain ⟨d0, d1, d2, d3⟩ := cells4P ((hb3.block _ (by omega)).trans X2'.out)
          obtain ⟨f0, f1, f2, f3⟩ := frz4P ((hb3.block _ (by omega)).trans X1'.out)
          obtain ⟨g0, g1, g2, g3⟩ := frz4P ((hb3.block _ (by omega)).trans X2'.out)
          have HPR : Hid (PB w2 w3 ar cr (bs.drop M)) := hpr
          have HPG3 : Hid (PB w1 w3 ag cg (bs.take M)) := ⟨Reads.below HPG.out.1 hb3, HPG.out.2⟩
          have HB3 : Hid (Below w.heap.size w w3) := HB1.out.trans ((HB2.out.trans (hb3.mono hs2)).mono HB1.out.size)
          clear hb3 hpr HC2 X1' X2' HPG
          go_wp2_with fail
          (try simp only [Exit.inBlock, Exit.then])
          refine bodyPost_ret (v := .tuple #[.agg #[.slice ar (N - M) cr, .int .i64 room, .bool cl, .bool sh], .slice ag M cg, .int .i64 0]) ?_ rfl ?_
          · rw [results_cell_tmp2P rfl]
            go_simp
          · rw [HZ2.out]
            refine ⟨ar, cr, ag, cg, ?_, ?_, ?_, ?_⟩
            · unfold pipeV
              simp only
              rw [HL1.out, HL2.out]
            · refine PB.fromP (w1 := w2) ?_ (by have := HB1.out.size; omega)
              repeat (first | refine PB.setP ?_ (by omega) _ | exact HPR.out)
            · refine PB.fromP (w1 := w1) ?_ HB1.out.size
              repeat (first | refine PB.setP ?_ (by omega) _ | exact HPG3.out)
            · repeat (first | refine Below.setCell ?_ (by simp) _ | exact HB3.out)
        · have HZ2 : Hid (Z = (⟨bs.drop M, room, cl, sh⟩, bs.take M, 0)) := (show _ = _ by rw [HZ.out]; first | rw [Nat.min_eq_left (by omega)] | rw [Nat.min_eq_right (by omega)])
          clear HZ
          have hkN : M ≤ M := by omega
          by_cases hcap : cap = M
          · subst hcap
            have HD : Hid (∀ W, Below w.heap.size w W → Reads W (.slice (some a) (0) (0)) (0) ((bs.drop cap).map U)) := (show ∀ W, Below w.heap.size w W → Reads W (.slice (some a) (0) (0)) (0) ((bs.drop cap).map U) from fun W hW => reads_noneP (by omega) (by rw [List.length_drop, ← HN.out]; try omega) (by omega) (by omega))
            have hl1 : (bs.take cap).length = cap := by rw [List.length_take, ← HN.out]; omega
            have hl2 : (bs.drop cap).length = 0 := by rw [List.length_drop, ← HN.out]; first | done | omega
            have hC1 := bcloneP (some a) cap (bs.take cap) w1 (by rw [hl1]; exact reads_takeP (Reads.below HR.out HB1.out) hkN) (by omega)
            have hC2 := fun (W : World) (hW : Below w1.heap.size w1 W) => bcloneP (some a) 0 (bs.drop cap) W (by rw [hl2]; exact HD.out _ (HB1.out.trans (hW.mono HB1.out.size))) (by omega)
            rw [hl1] at hC1
            rw [hl2] at hC2
            have HL1 : Hid _ := hl1
            have HL2 : Hid _ := hl2
            have HC1 : Hid _ := hC1
            have HC2 : Hid _ := hC2
            clear hC1 hC2 hl1 hl2 HR HD
            go_wp2_with fail
            refine Calls.mono HC1.out ?_
            rintro e w2 ⟨ag, cg, rfl, hpg, hb2⟩
            have X1' : Hid _ := (hb2.block _ (by omega)).trans X1.out
            have X2' : Hid _ := (hb2.block _ (by omega)).trans X2.out
            clear c0 c1 c2 c3
            obtain ⟨c0, c1, c2, c3⟩ := cells4P X1'.out
            have HPG : Hid (PB w1 w2 ag cg (bs.take cap)) := hpg
            have hs2 := hb2.size
            have HB2 : Hid (Below w1.heap.size w1 w2) := hb2
            clear hb2 hpg HC1 X1 X2
            go_wp2_with fail
            refine Calls.mono (HC2.out w2 HB2.out) ?_
            rintro e w3 ⟨ar, cr, rfl, hpr, hb3⟩
            clear c0 c1 c2 c3
            obtain ⟨c0, c1, c2, c3⟩ := cells4P ((hb3.block _ (by omega)).trans X1'.out)
            obtain ⟨d0, d1, d2, d3⟩ := cells4P ((hb3.block _ (by omega)).trans X2'.out)
            obtain ⟨f0, f1, f2, f3⟩ := frz4P ((hb3.block _ (by omega)).trans X1'.out)
            obtain ⟨g0, g1, g2, g3⟩ := frz4P ((hb3.block _ (by omega)).trans X2'.out)
            have HPR : Hid (PB w2 w3 ar cr (bs.drop cap)) := hpr
            have HPG3 : Hid (PB w1 w3 ag cg (bs.take cap)) := ⟨Reads.below HPG.out.1 hb3, HPG.out.2⟩
            have HB3 : Hid (Below w.heap.size w w3) := HB1.out.trans ((HB2.out.trans (hb3.mono hs2)).mono HB1.out.size)
            clear hb3 hpr HC2 X1' X2' HPG
            go_wp2_with fail
            (try simp only [Exit.inBlock, Exit.then])
            refine bodyPost_ret (v := .tuple #[.agg #[.slice ar (0) cr, .int .i64 room, .bool cl, .bool sh], .slice ag cap cg, .int .i64 0]) ?_ rfl ?_
            · rw [results_cell_tmp2P rfl]
              go_simp
            · rw [HZ2.out]
              refine ⟨ar, cr, ag, cg, ?_, ?_, ?_, ?_⟩
              · unfold pipeV
                simp only
                rw [HL1.out, HL2.out]
              · refine PB.fromP (w1 := w2) ?_ (by have := HB1.out.size; omega)
                repeat (first | refine PB.setP ?_ (by omega) _ | exact HPR.out)
              · refine PB.fromP (w1 := w1) ?_ HB1.out.size
                repeat (first | refine PB.setP ?_ (by omega) _ | exact HPG3.out)
              · repeat (first | refine Below.setCell ?_ (by simp) _ | exact HB3.out)
          · have HD : Hid (∀ W, Below w.heap.size w W → Reads W (.slice (some (a.add M)) (0) (cap - M)) (0) ((bs.drop M).map U)) := (show ∀ W, Below w.heap.size w W → Reads W (.slice (some (a.add M)) (0) (cap - M)) (0) ((bs.drop M).map U) from fun W hW => reads_noneP (by omega) (by rw [List.length_drop, ← HN.out]; try omega) (by omega) (by omega))
            have hl1 : (bs.take M).length = M := by rw [List.length_take, ← HN.out]; omega
            have hl2 : (bs.drop M).length = 0 := by rw [List.length_drop, ← HN.out]; first | done | omega
            have hC1 := bcloneP (some a) cap (bs.take M) w1 (by rw [hl1]; exact reads_takeP (Reads.below HR.out HB1.out) hkN) (by omega)
            have hC2 := fun (W : World) (hW : Below w1.heap.size w1 W) => bcloneP (some (a.add M)) (cap - M) (bs.drop M) W (by rw [hl2]; exact HD.out _ (HB1.out.trans (hW.mono HB1.out.size))) (by omega)
            rw [hl1] at hC1
            rw [hl2] at hC2
            have HL1 : Hid _ := hl1
            have HL2 : Hid _ := hl2
            have HC1 : Hid _ := hC1
            have HC2 : Hid _ := hC2
            clear hC1 hC2 hl1 hl2 HR HD
            go_wp2_with fail
            refine Calls.mono HC1.out ?_
            rintro e w2 ⟨ag, cg, rfl, hpg, hb2⟩
            have X1' : Hid _ := (hb2.block _ (by omega)).trans X1.out
            have X2' : Hid _ := (hb2.block _ (by omega)).trans X2.out
            clear c0 c1 c2 c3
            obtain ⟨c0, c1, c2, c3⟩ := cells4P X1'.out
            have HPG : Hid (PB w1 w2 ag cg (bs.take M)) := hpg
            have hs2 := hb2.size
            have HB2 : Hid (Below w1.heap.size w1 w2) := hb2
            clear hb2 hpg HC1 X1 X2
            go_wp2_with fail
            refine Calls.mono (HC2.out w2 HB2.out) ?_
            rintro e w3 ⟨ar, cr, rfl, hpr, hb3⟩
            clear c0 c1 c2 c3
            obtain ⟨c0, c1, c2, c3⟩ := cells4P ((hb3.block _ (by omega)).trans X1'.out)
            obtain ⟨d0, d1, d2, d3⟩ := cells4P ((hb3.block _ (by omega)).trans X2'.out)
            obtain ⟨f0, f1, f2, f3⟩ := frz4P ((hb3.block _ (by omega)).trans X1'.out)
            obtain ⟨g0, g1, g2, g3⟩ := frz4P ((hb3.block _ (by omega)).trans X2'.out)
            have HPR : Hid (PB w2 w3 ar cr (bs.drop M)) := hpr
            have HPG3 : Hid (PB w1 w3 ag cg (bs.take M)) := ⟨Reads.below HPG.out.1 hb3, HPG.out.2⟩
            have HB3 : Hid (Below w.heap.size w w3) := HB1.out.trans ((HB2.out.trans (hb3.mono hs2)).mono HB1.out.size)
            clear hb3 hpr HC2 X1' X2' HPG
            go_wp2_with fail
            (try simp only [Exit.inBlock, Exit.then])
            refine bodyPost_ret (v := .tuple #[.agg #[.slice ar (0) cr, .int .i64 room, .bool cl, .bool sh], .slice ag M cg, .int .i64 0]) ?_ rfl ?_
            · rw [results_cell_tmp2P rfl]
              go_simp
            · rw [HZ2.out]
              refine ⟨ar, cr, ag, cg, ?_, ?_, ?_, ?_⟩
              · unfold pipeV
                simp only
                rw [HL1.out, HL2.out]
              · refine PB.fromP (w1 := w2) ?_ (by have := HB1.out.size; omega)
                repeat (first | refine PB.setP ?_ (by omega) _ | exact HPR.out)
              · refine PB.fromP (w1 := w1) ?_ HB1.out.size
                repeat (first | refine PB.setP ?_ (by omega) _ | exact HPG3.out)
              · repeat (first | refine Below.setCell ?_ (by simp) _ | exact HB3.out)
        · have HZ2 : Hid (Z = (⟨bs.drop N, room, cl, sh⟩, bs.take N, 0)) := (show _ = _ by rw [HZ.out]; first | rw [Nat.min_eq_left (by omega)] | rw [Nat.min_eq_right (by omega)])
          clear HZ
          have hkN : N ≤ N := by omega
          by_cases hcap : cap = N
          · subst hcap
            have HD : Hid (∀ W, Below w.heap.size w W → Reads W (.slice (some a) (0) (0)) (0) ((bs.drop cap).map U)) := (show ∀ W, Below w.heap.size w W → Reads W (.slice (some a) (0) (0)) (0) ((bs.drop cap).map U) from fun W hW => reads_noneP (by omega) (by rw [List.length_drop, ← HN.out]; try omega) (by omega) (by omega))
            have hl1 : (bs.take cap).length = cap := by rw [List.length_take, ← HN.out]; omega
            have hl2 : (bs.drop cap).length = 0 := by rw [List.length_drop, ← HN.out]; first | done | omega
            have hC1 := bcloneP (some a) cap (bs.take cap) w1 (by rw [hl1]; exact reads_takeP (Reads.below HR.out HB1.out) hkN) (by omega)
            have hC2 := fun (W : World) (hW : Below w1.heap.size w1 W) => bcloneP (some a) 0 (bs.drop cap) W (by rw [hl2]; exact HD.out _ (HB1.out.trans (hW.mono HB1.out.size))) (by omega)
            rw [hl1] at hC1
            rw [hl2] at hC2
            have HL1 : Hid _ := hl1
            have HL2 : Hid _ := hl2
            have HC1 : Hid _ := hC1
            have HC2 : Hid _ := hC2
            clear hC1 hC2 hl1 hl2 HR HD
            go_wp2_with fail
            refine Calls.mono HC1.out ?_
            rintro e w2 ⟨ag, cg, rfl, hpg, hb2⟩
            have X1' : Hid _ := (hb2.block _ (by omega)).trans X1.out
            have X2' : Hid _ := (hb2.block _ (by omega)).trans X2.out
            clear c0 c1 c2 c3
            obtain ⟨c0, c1, c2, c3⟩ := cells4P X1'.out
            have HPG : Hid (PB w1 w2 ag cg (bs.take cap)) := hpg
            have hs2 := hb2.size
            have HB2 : Hid (Below w1.heap.size w1 w2) := hb2
            clear hb2 hpg HC1 X1 X2
            go_wp2_with fail
            refine Calls.mono (HC2.out w2 HB2.out) ?_
            rintro e w3 ⟨ar, cr, rfl, hpr, hb3⟩
            clear c0 c1 c2 c3
            obtain ⟨c0, c1, c2, c3⟩ := cells4P ((hb3.block _ (by omega)).trans X1'.out)
            obtain ⟨d0, d1, d2, d3⟩ := cells4P ((hb3.block _ (by omega)).trans X2'.out)
            obtain ⟨f0, f1, f2, f3⟩ := frz4P ((hb3.block _ (by omega)).trans X1'.out)
            obtain ⟨g0, g1, g2, g3⟩ := frz4P ((hb3.block _ (by omega)).trans X2'.out)
            have HPR : Hid (PB w2 w3 ar cr (bs.drop cap)) := hpr
            have HPG3 : Hid (PB w1 w3 ag cg (bs.take cap)) := ⟨Reads.below HPG.out.1 hb3, HPG.out.2⟩
            have HB3 : Hid (Below w.heap.size w w3) := HB1.out.trans ((HB2.out.trans (hb3.mono hs2)).mono HB1.out.size)
            clear hb3 hpr HC2 X1' X2' HPG
            go_wp2_with fail
            (try simp only [Exit.inBlock, Exit.then])
            refine bodyPost_ret (v := .tuple #[.agg #[.slice ar (0) cr, .int .i64 room, .bool cl, .bool sh], .slice ag cap cg, .int .i64 0]) ?_ rfl ?_
            · rw [results_cell_tmp2P rfl]
              go_simp
            · rw [HZ2.out]
              refine ⟨ar, cr, ag, cg, ?_, ?_, ?_, ?_⟩
              · unfold pipeV
                simp only
                rw [HL1.out, HL2.out]
              · refine PB.fromP (w1 := w2) ?_ (by have := HB1.out.size; omega)
                repeat (first | refine PB.setP ?_ (by omega) _ | exact HPR.out)
              · refine PB.fromP (w1 := w1) ?_ HB1.out.size
                repeat (first | refine PB.setP ?_ (by omega) _ | exact HPG3.out)
              · repeat (first | refine Below.setCell ?_ (by simp) _ | exact HB3.out)
          · have HD : Hid (∀ W, Below w.heap.size w W → Reads W (.slice (some (a.add N)) (0) (cap - N)) (0) ((bs.drop N).map U)) := (show ∀ W, Below w.heap.size w W → Reads W (.slice (some (a.add N)) (0) (cap - N)) (0) ((bs.drop N).map U) from fun W hW => reads_noneP (by omega) (by rw [List.length_drop, ← HN.out]; try omega) (by omega) (by omega))
            have hl1 : (bs.take N).length = N := by rw [List.length_take, ← HN.out]; omega
            have hl2 : (bs.drop N).length = 0 := by rw [List.length_drop, ← HN.out]; first | done | omega
            have hC1 := bcloneP (some a) cap (bs.take N) w1 (by rw [hl1]; exact reads_takeP (Reads.below HR.out HB1.out) hkN) (by omega)
            have hC2 := fun (W : World) (hW : Below w1.heap.size w1 W) => bcloneP (some (a.add N)) (cap - N) (bs.drop N) W (by rw [hl2]; exact HD.out _ (HB1.out.trans (hW.mono HB1.out.size))) (by omega)
            rw [hl1] at hC1
            rw [hl2] at hC2
            have HL1 : Hid _ := hl1
            have HL2 : Hid _ := hl2
            have HC1 : Hid _ := hC1
            have HC2 : Hid _ := hC2
            clear hC1 hC2 hl1 hl2 HR HD
            go_wp2_with fail
            refine Calls.mono HC1.out ?_
            rintro e w2 ⟨ag, cg, rfl, hpg, hb2⟩
            have X1' : Hid _ := (hb2.block _ (by omega)).trans X1.out
            have X2' : Hid _ := (hb2.block _ (by omega)).trans X2.out
            clear c0 c1 c2 c3
            obtain ⟨c0, c1, c2, c3⟩ := cells4P X1'.out
            have HPG : Hid (PB w1 w2 ag cg (bs.take N)) := hpg
            have hs2 := hb2.size
            have HB2 : Hid (Below w1.heap.size w1 w2) := hb2
            clear hb2 hpg HC1 X1 X2
            go_wp2_with fail
            refine Calls.mono (HC2.out w2 HB2.out) ?_
            rintro e w3 ⟨ar, cr, rfl, hpr, hb3⟩
            clear c0 c1 c2 c3
            obtain ⟨c0, c1, c2, c3⟩ := cells4P ((hb3.block _ (by omega)).trans X1'.out)
            obtain ⟨d0, d1, d2, d3⟩ := cells4P ((hb3.block _ (by omega)).trans X2'.out)
            obtain ⟨f0, f1, f2, f3⟩ := frz4P ((hb3.block _ (by omega)).trans X1'.out)
            obtain ⟨g0, g1, g2, g3⟩ := frz4P ((hb3.block _ (by omega)).trans X2'.out)
            have HPR : Hid (PB w2 w3 ar cr (bs.drop N)) := hpr
            have HPG3 : Hid (PB w1 w3 ag cg (bs.take N)) := ⟨Reads.below HPG.out.1 hb3, HPG.out.2⟩
            have HB3 : Hid (Below w.heap.size w w3) := HB1.out.trans ((HB2.out.trans (hb3.mono hs2)).mono HB1.out.size)
            clear hb3 hpr HC2 X1' X2' HPG
            go_wp2_with fail
            (try simp only [Exit.inBlock, Exit.then])
            refine bodyPost_ret (v := .tuple #[.agg #[.slice ar (0) cr, .int .i64 room, .bool cl, .bool sh], .slice ag N cg, .int .i64 0]) ?_ rfl ?_
            · rw [results_cell_tmp2P rfl]
              go_simp
            · rw [HZ2.out]
              refine ⟨ar, cr, ag, cg, ?_, ?_, ?_, ?_⟩
              · unfold pipeV
                simp only
                rw [HL1.out, HL2.out]
              · refine PB.fromP (w1 := w2) ?_ (by have := HB1.out.size; omega)
                repeat (first | refine PB.setP ?_ (by omega) _ | exact HPR.out)
              · refine PB.fromP (w1 := w1) ?_ HB1.out.size
                repeat (first | refine PB.setP ?_ (by omega) _ | exact HPG3.out)
              · repeat (first | refine Below.setCell ?_ (by simp) _ | exact HB3.out)
  · obtain rfl := HB.out h0
    obtain ⟨d0, d1, d2, d3⟩ := cells4P X2.out
    obtain ⟨g0, g1, g2, g3⟩ := frz4P X2.out
    clear HK HB HL HG X1 X2
    go_wp2_with fail
    (try simp only [Exit.inBlock, Exit.then])
    refine bodyPost_ret (v := .tuple #[.agg #[.slice none 0 0, .int .i64 0, .bool false, .bool false], .slice none 0 0, .int .i64 L]) ?_ rfl (readEnd_err rfl ?_)
    · rw [results_cell_tmp2P rfl]
      go_simp
    · repeat (first | refine Below.setCell ?_ (by simp) _ | exact HB1.out)
end Go.Proofs.Ytobaeafhdgolmab
