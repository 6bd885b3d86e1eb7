/- The walk of PipeSays: it returns true. -/
import Derived.Test.YtgebdlakafebiabPiped
namespace Go.Proofs.Ytgebdlakafebiab
open Go.RowKit Go.Gs
set_option linter.unusedVariables false

set_option maxRecDepth 100000 in
set_option maxHeartbeats 8000000 in
theorem psays_bf (p : SPipe) (ab ac : Option Addr) (cap cc : Nat) (cs : List UInt8) (most room : Int) (w : World) (hr : Reads w (.slice ab p.b.length cap) p.b.length (p.b.map U)) (hz : ab = none → cap = 0) (h0 : ¬ room < 0) (h1 : 1000 < room) (hpc : p.closed = false) (hrc : Reads w (.slice ac cs.length cc) cs.length (cs.map U)) :
    Calls Try.prog 4 #[pipeV p ab cap, .slice ac cs.length cc, .int .i64 most, .int .i64 room] w fun e w' => e = .returned (.bool true) ∧ Below w.heap.size w w' := by
  have hn := (reads_leP hr).1
  have HRP : Hid _ := fun (W : World) (hW : Below w.heap.size w W) => Reads.below hr hW
  have HRC : Hid _ := fun (W : World) (hW : Below w.heap.size w W) => Reads.below hrc hW
  have HN : Hid _ := fun (W : World) => new_is room W
  have HWR : Hid _ := fun (W : World) (hW : Below w.heap.size w W) => write_is ab ac cap cc p cs W (Reads.below hr hW) (Reads.below hrc hW)
  have HRD : Hid _ := fun (W : World) (hW : Below w.heap.size w W) => read_is ab cap p most W (Reads.below hr hW) hz
  have HCL : Hid _ := fun (W : World) (hW : Below w.heap.size w W) => close_is ab cap p W (Reads.below hr hW)
  have HSH : Hid _ := fun (W : World) => shut_is ab cap p W hn
  have HCR : Hid _ := fun (W : World) => checkPipe_ref ab p.b.length cap p.room p.closed p.shut W hn
  have HCK : Hid _ := fun (W : World) => pcheck_is ab p.b.length cap p.room p.closed p.shut W hn
  have HOV : Hid _ := fun (W : World) => pover_is ab p.b.length cap p.room p.closed p.shut W
  have HPA0 : Hid _ := (PA.start w).alloc #[.slice ab p.b.length cap, .int .i64 p.room, .bool p.closed, .bool p.shut]
  unfold pipeV at HWR HRD HCL HSH HN ⊢
  obtain ⟨zx, hzx⟩ : ∃ z, z = pnew room := ⟨_, rfl⟩
  obtain ⟨zy, hzy⟩ : ∃ z, z = pwrite p cs := ⟨_, rfl⟩
  obtain ⟨zz, hzz⟩ : ∃ z, z = pread p most := ⟨_, rfl⟩
  obtain ⟨zc, hzc⟩ : ∃ z, z = pclose p := ⟨_, rfl⟩
  obtain ⟨zs, hzs⟩ : ∃ z, z = pshut p := ⟨_, rfl⟩
  rw [← hzx] at HN
  rw [← hzy] at HWR
  rw [← hzz] at HRD
  rw [← hzc] at HCL
  rw [← hzs] at HSH
  obtain ⟨⟨xb, xr, xc, xs⟩, xe⟩ := zx
  obtain ⟨⟨yb, yr, yc, ys⟩, yn, ye⟩ := zy
  obtain ⟨⟨zb, zr, zc1, zs1⟩, zg, ze⟩ := zz
  obtain ⟨⟨cb, cr, cc1, cs1⟩, ce⟩ := zc
  obtain ⟨⟨sb, sr, sc, ss⟩, se⟩ := zs
  obtain ⟨bs, pr, pc, ps⟩ := p
  obtain rfl : pc = false := hpc
  have HZX : Hid _ := hzx
  have HZY : Hid _ := hzy
  have HZZ : Hid _ := hzz
  have HZC : Hid _ := hzc
  have HZS : Hid _ := hzs
  clear hzx hzy hzz hzc hzs
  simp only at HN HCL HSH HCR HCK HOV HPA0 hn ⊢
  obtain ⟨L, hL⟩ : ∃ L, L = pck bs.length pr ps := ⟨_, rfl⟩
  have HL : Hid (L = pck bs.length pr ps) := hL
  rw [← hL] at HCR HCK
  obtain ⟨N, hNN⟩ : ∃ N, N = bs.length := ⟨_, rfl⟩
  have HNN : Hid (N = bs.length) := hNN
  obtain ⟨M, hMM⟩ : ∃ M, M = cs.length := ⟨_, rfl⟩
  have HMM : Hid (M = cs.length) := hMM
  rw [← hNN] at HWR HRD HCL HSH HCR HCK HOV HPA0 hn ⊢
  rw [← hMM] at HWR ⊢
  clear hL hNN hMM hr hrc
  have HPP : Hid (∀ W, Below w.heap.size w W → Calls Try.prog 14 #[] W fun e w' => e = .returned (.bool true) ∧ Below W.heap.size W w') := fun W _ => piped_true W
  go_enter Try.func4, Try.ntmps4
  go_wp2_with fail
  refine Calls.mono (HN.out _) ?_
  rintro e w1 ⟨rfl, hb1⟩
  have HP1 : Hid _ := (HPA0.out.below hb1).alloc #[.slice none xb.length 0, .int .i64 xr, .bool xc, .bool xs]
  obtain ⟨c0, c1, c2, c3⟩ := cells4P (HP1.out.box (w.heap.size, #[.slice ab N cap, .int .i64 pr, .bool false, .bool ps]) (by simp))
  clear hb1 HN HPA0
  go_wp2_with fail
  refine Calls.mono (HWR.out _ HP1.out.bel) ?_
  rintro e w2 ⟨ay, cy, rfl, hpy, hb2⟩
  have HP2 : Hid _ := ((HP1.out.below hb2).read hpy.1).alloc #[.slice ay yb.length cy, .int .i64 yr, .bool yc, .bool ys]
  clear c0 c1 c2 c3
  obtain ⟨c0, c1, c2, c3⟩ := cells4P (HP2.out.box (w.heap.size, #[.slice ab N cap, .int .i64 pr, .bool false, .bool ps]) (by simp))
  clear hb2 hpy HWR HP1
  unfold pipeV
  go_wp2_with fail
  refine Calls.mono (HRD.out _ HP2.out.bel) ?_
  rintro e w3 ⟨az, cz, ag, cg, rfl, hpz, hpg, hb3⟩
  have HP3 : Hid _ := (((HP2.out.below hb3).read hpz.1).read hpg.1).alloc #[.slice az zb.length cz, .int .i64 zr, .bool zc1, .bool zs1]
  clear c0 c1 c2 c3
  obtain ⟨c0, c1, c2, c3⟩ := cells4P (HP3.out.box (w.heap.size, #[.slice ab N cap, .int .i64 pr, .bool false, .bool ps]) (by simp))
  clear hb3 hpz hpg HRD HP2
  unfold pipeV
  go_wp2_with fail
  refine Calls.mono (HCL.out _ HP3.out.bel) ?_
  rintro e w4 ⟨acl, ccl, rfl, hpc, hb4⟩
  have HPC : Hid (∀ a, acl = some a → a.block ≠ w.heap.size) := (show ∀ a, acl = some a → a.block ≠ w.heap.size from fun a ha => by
    have h1 := hpc.2.1 a ha
    have h2 := heap_ltP (HP3.out.box (w.heap.size, #[.slice ab N cap, .int .i64 pr, .bool false, .bool ps]) (by simp))
    omega)
  have HW4 : Hid (w.heap.size < w4.heap.size) := heap_ltP ((HP3.out.below hb4).box (w.heap.size, #[.slice ab N cap, .int .i64 pr, .bool false, .bool ps]) (by simp))
  have HP4 : Hid _ := ((HP3.out.below hb4).read hpc.1).alloc #[.slice acl cb.length ccl, .int .i64 cr, .bool cc1, .bool cs1]
  clear c0 c1 c2 c3
  obtain ⟨c0, c1, c2, c3⟩ := cells4P (HP4.out.box (w.heap.size, #[.slice ab N cap, .int .i64 pr, .bool false, .bool ps]) (by simp))
  clear hb4 hpc HCL HP3
  go_wp2_with fail
  refine Calls.mono (HSH.out _) ?_
  rintro e w5 ⟨rfl, hb5⟩
  have HP5 : Hid _ := ((HP4.out.below hb5).alloc #[.slice none sb.length 0, .int .i64 sr, .bool sc, .bool ss]).alloc #[.slice none 0 0, .int .i64 0, .bool false, .bool false]
  clear c0 c1 c2 c3
  obtain ⟨c0, c1, c2, c3⟩ := cells4P (HP5.out.box (w.heap.size, #[.slice ab N cap, .int .i64 pr, .bool false, .bool ps]) (by simp))
  clear hb5 HSH HP4
  go_wp2_with fail
  refine Calls.mono (HCR.out _) ?_
  rintro e w6 ⟨rfl, hb6⟩
  have HP6 : Hid _ := HP5.out.below hb6
  rw [show (w5.alloc (.cells #[.slice none sb.length 0, .int .i64 sr, .bool sc, .bool ss] 42)).heap.size = w5.heap.size + 1 by simp] at HP6
  clear hb6 HCR HP5 c0 c1 c2 c3
  obtain ⟨p0, p1, p2, p3⟩ := cells4P (HP6.out.box (w.heap.size, #[.slice ab N cap, .int .i64 pr, .bool false, .bool ps]) (by simp))
  have k0 := fun d os => cell_regrown p0 d os
  have k1 := fun d os => cell_regrown p1 d os
  have k2 := fun d os => cell_regrown p2 d os
  have k3 := fun d os => cell_regrown p3 d os
  have cPI : ∀ d os, Calls Try.prog 14 #[] (Go.Sort.grow (redrawn w6 d) os) fun e w'' => e = .returned (.bool true) ∧ ∃ p : Regrown, w'' = Go.Sort.grow (redrawn w6 p.d) p.os := fun d os => Calls.regrown_of (HPP.out _ (HP6.out.bel.trans ((below_regrown w6 d os).mono HP6.out.bel.size)))
  have cCK : ∀ d os, Calls Try.prog 15 #[.agg #[.slice ab N cap, .int .i64 pr, .bool false, .bool ps]] (Go.Sort.grow (redrawn w6 d) os) fun e w'' => e = .returned (.int .i64 L) ∧ ∃ p : Regrown, w'' = Go.Sort.grow (redrawn w6 p.d) p.os := fun d os => Calls.regrown_of (HCK.out _)
  have cOV : ∀ d os, Calls Try.prog 16 #[.agg #[.slice ab N cap, .int .i64 pr, .bool false, .bool ps]] (Go.Sort.grow (redrawn w6 d) os) fun e w'' => e = .returned (.bool false) ∧ ∃ p : Regrown, w'' = Go.Sort.grow (redrawn w6 p.d) p.os := fun d os => Calls.regrown_of (by have h := HOV.out (Go.Sort.grow (redrawn w6 d) os); exact h)
  clear p0 p1 p2 p3 HPP HCK HOV
  go_upto_region 8 with fail
  refine wp_region_quiet_below (by kernel_rfl) (by kernel_rfl) ?_
  repeat (first | go_big_quiet_step (first | exact cPI _ _ | exact cCK _ _ | exact cOV _ _) | quiet_step (first | exact cPI _ _ | exact cCK _ _ | exact cOV _ _))
  refine wpQuiet_nil ?_
  intro _ hw'
  obtain ⟨⟨dq, osq⟩, hw''⟩ := hw'
  subst hw''
  have HP7 : Hid _ := HP6.out.below (below_regrown w6 dq osq)
  clear cPI cCK cOV k0 k1 k2 k3 HP6
  generalize (Go.Sort.grow (redrawn w6 dq) osq) = w7 at *
  obtain ⟨rfl, rfl, rfl, rfl, rfl⟩ := pairZP (HZX.out.trans (pnew_rangeP (by omega)))
  clear HZX
  obtain ⟨x0, x1, x2, x3⟩ := cells4P (HP7.out.box (w1.heap.size, #[.slice none 0 0, .int .i64 0, .bool false, .bool false]) (by simp))
  obtain ⟨o0, o1, o2, o3⟩ := cells4P (HP7.out.box ((w5.heap.size + 1), #[.slice none 0 0, .int .i64 0, .bool false, .bool false]) (by simp))
  go_wp2_with fail
  refine Calls.mono (samePipe_ref none none 0 0 [] 0 false false w7 (PB.none w _).1 (PB.none w _).1) ?_
  rintro e w8 ⟨rfl, hb8⟩
  have HP8 : Hid _ := HP7.out.below hb8
  clear hb8 HP7
  clear x0 x1 x2 x3 o0 o1 o2 o3
  by_cases hL0 : L = 0
  · subst hL0
    have hpl : pchk ⟨bs, pr, false, ps⟩ = 0 := HL.out.symm
    obtain ⟨p0, p1, p2, p3⟩ := cells4P (HP8.out.box (w.heap.size, #[.slice ab N cap, .int .i64 pr, .bool false, .bool ps]) (by simp))
    have HW : Hid _ := written_ref ab ac cap cc ⟨bs, pr, false, ps⟩ cs w8 (HRP.out w8 HP8.out.bel) (HRC.out w8 HP8.out.bel) hpl
    rw [← HZY.out] at HW
    unfold pipeV at HW
    simp only at HW
    rw [← HNN.out, ← HMM.out] at HW
    have HPL : Hid _ := hpl
    clear hpl HL
    go_wp2_with fail
    refine Calls.mono HW.out ?_
    rintro e w13 ⟨aw, cw, rfl, hrw, hb13⟩
    have HP13 : Hid _ := ((HP8.out.below hb13).read hrw).alloc #[.slice aw yb.length cw, .int .i64 yr, .bool yc, .bool ys]
    clear hb13 hrw HW HP8
    unfold pipeV
    clear p0 p1 p2 p3
    obtain ⟨y0, y1, y2, y3⟩ := cells4P (HP13.out.box (w2.heap.size, #[.slice ay yb.length cy, .int .i64 yr, .bool yc, .bool ys]) (by simp))
    obtain ⟨Y0, Y1, Y2, Y3⟩ := cells4P (HP13.out.box (w13.heap.size, #[.slice aw yb.length cw, .int .i64 yr, .bool yc, .bool ys]) (by simp))
    go_wp2_with fail
    refine Calls.mono (samePipe_ref ay aw cy cw yb yr yc ys _ (HP13.out.rds (ay, cy, yb) (by simp)) (HP13.out.rds (aw, cw, yb) (by simp))) ?_
    rintro e w14 ⟨rfl, hb14⟩
    have HP14 : Hid _ := HP13.out.below hb14
    clear hb14 HP13
    clear y0 y1 y2 y3 Y0 Y1 Y2 Y3
    by_cases m0 : most < 0
    · obtain ⟨rfl, rfl, rfl, rfl, rfl, rfl⟩ := tripRP (HZZ.out.trans (pread_range HPL.out (by omega)))
      clear HZZ
      obtain ⟨z0, z1, z2, z3⟩ := cells4P (HP14.out.box (w3.heap.size, #[.slice az 0 cz, .int .i64 0, .bool false, .bool false]) (by simp))
      obtain ⟨o0, o1, o2, o3⟩ := cells4P (HP14.out.box ((w5.heap.size + 1), #[.slice none 0 0, .int .i64 0, .bool false, .bool false]) (by simp))
      go_wp2_with fail
      refine Calls.mono (samePipe_ref az none cz 0 [] 0 false false w14 (HP14.out.rds (az, cz, []) (by simp)) (PB.none w _).1) ?_
      rintro e w15 ⟨rfl, hb15⟩
      have HP15 : Hid _ := HP14.out.below hb15
      clear hb15 HP14
      clear z0 z1 z2 z3 o0 o1 o2 o3
      obtain ⟨rfl, rfl, rfl, rfl, rfl⟩ := pairSP (HZS.out.trans (pshut_okP HPL.out))
      clear HZS
      obtain ⟨p0, p1, p2, p3⟩ := cells4P (HP15.out.box (w.heap.size, #[.slice ab N cap, .int .i64 pr, .bool false, .bool ps]) (by simp))
      have HPS : Hid _ := HP15.out.alloc #[.slice none 0 0, .int .i64 pr, .bool false, .bool true]
      obtain ⟨s0, s1, s2, s3⟩ := cells4P (HPS.out.box (w5.heap.size, #[.slice none 0 0, .int .i64 pr, .bool false, .bool true]) (by simp))
      go_wp2_with fail
      refine Calls.mono (samePipe_ref none none 0 0 [] pr false true _ (PB.none w _).1 (PB.none w _).1) ?_
      rintro e w16 ⟨rfl, hb16⟩
      have HP16 : Hid _ := HPS.out.below hb16
      clear hb16 HPS
      clear p0 p1 p2 p3 s0 s1 s2 s3
      obtain ⟨rfl, rfl, rfl, rfl, rfl⟩ := pairSP (HZC.out.trans (pclose_goodP HPL.out))
      clear HZC
      obtain ⟨p0, p1, p2, p3⟩ := cells4P (HP16.out.box (w.heap.size, #[.slice ab N cap, .int .i64 pr, .bool false, .bool ps]) (by simp))
      obtain ⟨c0, c1, c2, c3⟩ := cells4P (HP16.out.box (w4.heap.size, #[.slice acl bs.length ccl, .int .i64 pr, .bool true, .bool ps]) (by simp))
      obtain ⟨f0, f1, f2, f3⟩ := frz4P (HP16.out.box (w.heap.size, #[.slice ab N cap, .int .i64 pr, .bool false, .bool ps]) (by simp))
      have hw4 := HW4.out
      have HB2 : Hid (Below w.heap.size w (w16.setCell ⟨w.heap.size, 2, none⟩ (.bool true))) := HP16.out.bel.setCell (Nat.le_refl _) _
      rw [← HNN.out] at c0
      have e0 : (w16.setCell ⟨w.heap.size, 2, none⟩ (.bool true)).cell? ⟨w4.heap.size, 0, none⟩ = some (.slice acl N ccl) := by rw [World.cell?_setCell_other _ _ _ _ (by intro e; injection e with e1; omega)]; exact c0
      have e1 : (w16.setCell ⟨w.heap.size, 2, none⟩ (.bool true)).cell? ⟨w4.heap.size, 1, none⟩ = some (.int .i64 pr) := by rw [World.cell?_setCell_other _ _ _ _ (by intro e; injection e with e1; omega)]; exact c1
      have e2 : (w16.setCell ⟨w.heap.size, 2, none⟩ (.bool true)).cell? ⟨w4.heap.size, 2, none⟩ = some (.bool true) := by rw [World.cell?_setCell_other _ _ _ _ (by intro e; injection e with e1; omega)]; exact c2
      have e3 : (w16.setCell ⟨w.heap.size, 2, none⟩ (.bool true)).cell? ⟨w4.heap.size, 3, none⟩ = some (.bool ps) := by rw [World.cell?_setCell_other _ _ _ _ (by intro e; injection e with e1; omega)]; exact c3
      have hne : ¬ w4.heap.size = w.heap.size := by omega
      have HSM : Hid _ := samePipe_ref acl ab ccl cap bs pr true ps (w16.setCell ⟨w.heap.size, 2, none⟩ (.bool true)) (readsSetP (HP16.out.rds (acl, ccl, bs) (by simp)) HPC.out _) (HRP.out _ HB2.out)
      rw [← HNN.out] at HSM
      clear c0 c1 c2 c3
      go_wp2_with fail
      refine Calls.mono HSM.out ?_
      rintro e w17 ⟨rfl, hb17⟩
      have HBF : Hid (Below w.heap.size w w17) := HB2.out.trans (hb17.mono HB2.out.size)
      clear hb17 HSM e0 e1 e2 e3 p0 p1 p2 p3
      go_wp2_with fail
      go_ret
      exact ⟨rfl, HBF.out⟩
    · by_cases m1 : 4000 < most
      · obtain ⟨rfl, rfl, rfl, rfl, rfl, rfl⟩ := tripRP (HZZ.out.trans (pread_range HPL.out (by omega)))
        clear HZZ
        obtain ⟨z0, z1, z2, z3⟩ := cells4P (HP14.out.box (w3.heap.size, #[.slice az 0 cz, .int .i64 0, .bool false, .bool false]) (by simp))
        obtain ⟨o0, o1, o2, o3⟩ := cells4P (HP14.out.box ((w5.heap.size + 1), #[.slice none 0 0, .int .i64 0, .bool false, .bool false]) (by simp))
        go_wp2_with fail
        refine Calls.mono (samePipe_ref az none cz 0 [] 0 false false w14 (HP14.out.rds (az, cz, []) (by simp)) (PB.none w _).1) ?_
        rintro e w18 ⟨rfl, hb18⟩
        have HP18 : Hid _ := HP14.out.below hb18
        clear hb18 HP14
        clear z0 z1 z2 z3 o0 o1 o2 o3
        obtain ⟨rfl, rfl, rfl, rfl, rfl⟩ := pairSP (HZS.out.trans (pshut_okP HPL.out))
        clear HZS
        obtain ⟨p0, p1, p2, p3⟩ := cells4P (HP18.out.box (w.heap.size, #[.slice ab N cap, .int .i64 pr, .bool false, .bool ps]) (by simp))
        have HPS : Hid _ := HP18.out.alloc #[.slice none 0 0, .int .i64 pr, .bool false, .bool true]
        obtain ⟨s0, s1, s2, s3⟩ := cells4P (HPS.out.box (w5.heap.size, #[.slice none 0 0, .int .i64 pr, .bool false, .bool true]) (by simp))
        go_wp2_with fail
        refine Calls.mono (samePipe_ref none none 0 0 [] pr false true _ (PB.none w _).1 (PB.none w _).1) ?_
        rintro e w19 ⟨rfl, hb19⟩
        have HP19 : Hid _ := HPS.out.below hb19
        clear hb19 HPS
        clear p0 p1 p2 p3 s0 s1 s2 s3
        obtain ⟨rfl, rfl, rfl, rfl, rfl⟩ := pairSP (HZC.out.trans (pclose_goodP HPL.out))
        clear HZC
        obtain ⟨p0, p1, p2, p3⟩ := cells4P (HP19.out.box (w.heap.size, #[.slice ab N cap, .int .i64 pr, .bool false, .bool ps]) (by simp))
        obtain ⟨c0, c1, c2, c3⟩ := cells4P (HP19.out.box (w4.heap.size, #[.slice acl bs.length ccl, .int .i64 pr, .bool true, .bool ps]) (by simp))
        obtain ⟨f0, f1, f2, f3⟩ := frz4P (HP19.out.box (w.heap.size, #[.slice ab N cap, .int .i64 pr, .bool false, .bool ps]) (by simp))
        have hw4 := HW4.out
        have HB2 : Hid (Below w.heap.size w (w19.setCell ⟨w.heap.size, 2, none⟩ (.bool true))) := HP19.out.bel.setCell (Nat.le_refl _) _
        rw [← HNN.out] at c0
        have e0 : (w19.setCell ⟨w.heap.size, 2, none⟩ (.bool true)).cell? ⟨w4.heap.size, 0, none⟩ = some (.slice acl N ccl) := by rw [World.cell?_setCell_other _ _ _ _ (by intro e; injection e with e1; omega)]; exact c0
        have e1 : (w19.setCell ⟨w.heap.size, 2, none⟩ (.bool true)).cell? ⟨w4.heap.size, 1, none⟩ = some (.int .i64 pr) := by rw [World.cell?_setCell_other _ _ _ _ (by intro e; injection e with e1; omega)]; exact c1
        have e2 : (w19.setCell ⟨w.heap.size, 2, none⟩ (.bool true)).cell? ⟨w4.heap.size, 2, none⟩ = some (.bool true) := by rw [World.cell?_setCell_other _ _ _ _ (by intro e; injection e with e1; omega)]; exact c2
        have e3 : (w19.setCell ⟨w.heap.size, 2, none⟩ (.bool true)).cell? ⟨w4.heap.size, 3, none⟩ = some (.bool ps) := by rw [World.cell?_setCell_other _ _ _ _ (by intro e; injection e with e1; omega)]; exact c3
        have hne : ¬ w4.heap.size = w.heap.size := by omega
        have HSM : Hid _ := samePipe_ref acl ab ccl cap bs pr true ps (w19.setCell ⟨w.heap.size, 2, none⟩ (.bool true)) (readsSetP (HP19.out.rds (acl, ccl, bs) (by simp)) HPC.out _) (HRP.out _ HB2.out)
        rw [← HNN.out] at HSM
        clear c0 c1 c2 c3
        go_wp2_with fail
        refine Calls.mono HSM.out ?_
        rintro e w20 ⟨rfl, hb20⟩
        have HBF : Hid (Below w.heap.size w w20) := HB2.out.trans (hb20.mono HB2.out.size)
        clear hb20 HSM e0 e1 e2 e3 p0 p1 p2 p3
        go_wp2_with fail
        go_ret
        exact ⟨rfl, HBF.out⟩
      · have hmb : ¬ (most < 0 ∨ 4000 < most) := by omega
        have hzz := HZZ.out.trans (pread_okP HPL.out hmb)
        obtain ⟨hzb, rfl, rfl, rfl, hzg, rfl⟩ := tripSP hzz
        obtain ⟨K, rfl⟩ := Int.eq_ofNat_of_zero_le (show 0 ≤ most by omega)
        rw [Int.toNat_natCast, ← HNN.out] at hzb hzg
        have HRN : Hid (∀ W, Below w.heap.size w W → Reads W (.slice ab N cap) N (bs.map U)) := (show ∀ W, Below w.heap.size w W → Reads W (.slice ab N cap) N (bs.map U) from fun W hW => by rw [HNN.out]; exact HRP.out W hW)
        have hcc := (reads_leP (HRN.out _ HP14.out.bel)).2
        clear HZZ hzz hmb m0
        obtain ⟨k, hk⟩ : ∃ k, k = min K N := ⟨_, rfl⟩
        have hk1 : k ≤ N := by omega
        have HK : Hid (k = min K N) := hk
        rw [← hk] at hzb hzg
        clear hk
        obtain ⟨p0, p1, p2, p3⟩ := cells4P (HP14.out.box (w.heap.size, #[.slice ab N cap, .int .i64 pr, .bool false, .bool ps]) (by simp))
        go_upto_region 23 with fail
        go_cut [26] (fun z wx => z = .int .i64 (k : Int) ∧ w14 = wx)
        case first =>
          by_cases hKN : K ≤ N
          · have HKK : Hid (k = K) := (show k = K by have := HK.out; omega)
            go_wp2_with fail
            go_meet
            exact ⟨by rw [HKK.out], rfl⟩
          · have HKK : Hid (k = N) := (show k = N by have := HK.out; omega)
            go_wp2_with fail
            go_meet
            exact ⟨by rw [HKK.out], rfl⟩
        case rest =>
          obtain ⟨rfl, rfl⟩ := hcut
          clear p0 p1 p2 p3
          cases ab with
          | none =>
            obtain ⟨rfl, rfl⟩ := nil_formP (HRN.out _ HP14.out.bel) (hz rfl)
            obtain rfl : k = 0 := by omega
            have hkN : 0 ≤ 0 := by omega
            have hZB : zb = bs.drop 0 := hzb.symm.trans (by first | rfl | (congr 1; omega))
            have hZG : zg = bs.take 0 := hzg.symm.trans (by first | rfl | (congr 1; omega))
            have hl1 : (bs.take 0).length = 0 := by rw [List.length_take, ← HNN.out]; omega
            have hgl : zg.length = 0 := by rw [hZG, hl1]
            have hzl : zb.length = 0 := by rw [hZB, List.length_drop, ← HNN.out]; try omega
            have HD : Hid (∀ W, Below w.heap.size w W → Reads W (.slice none (0) (0)) (0) (zb.map U)) := (show ∀ W, Below w.heap.size w W → Reads W (.slice none (0) (0)) (0) (zb.map U) from fun W hW => by rw [hZB]; exact reads_noneP (by omega) (by rw [List.length_drop, ← HNN.out]; try omega) (by omega) (by omega))
            have HEQ : Hid _ := fun (W : World) (hW : Below w.heap.size w W) (hg : Reads W (.slice ag zg.length cg) zg.length (zg.map U)) => (show Calls Try.prog 19 #[.slice ag 0 cg, .slice none 0 0] W fun e w' => e = .returned (.bool true) ∧ Below W.heap.size W w' by
              have h := eqP_is ag none cg 0 zg (bs.take 0) W hg (by rw [hl1]; exact reads_takeP (HRN.out W hW) hkN)
              rw [hl1, hgl, decide_eq_true hZG] at h
              exact h)
            have HSM : Hid _ := fun (W : World) (hW : Below w.heap.size w W) (hg : Reads W (.slice az zb.length cz) zb.length (zb.map U)) => (show Calls Try.prog 17 #[.agg #[.slice az (0) cz, .int .i64 pr, .bool false, .bool ps], .agg #[.slice none (0) (0), .int .i64 pr, .bool false, .bool ps]] W fun e w' => e = .returned (.bool true) ∧ Below W.heap.size W w' by
              have h := samePipe_ref az none cz (0) zb pr false ps W hg (by rw [hzl]; exact HD.out W hW)
              rw [hzl] at h
              exact h)
            obtain ⟨p0, p1, p2, p3⟩ := cells4P (HP14.out.box (w.heap.size, #[.slice none 0 0, .int .i64 pr, .bool false, .bool ps]) (by simp))
            have HPQ : Hid _ := HP14.out.alloc #[.slice none 0 0, .int .i64 pr, .bool false, .bool ps]
            obtain ⟨q0, q1, q2, q3⟩ := cells4P (HPQ.out.box (w.heap.size, #[.slice none 0 0, .int .i64 pr, .bool false, .bool ps]) (by simp))
            have HPR : Hid _ := HP14.out.alloc #[.slice none (0) (0), .int .i64 pr, .bool false, .bool ps]
            obtain ⟨r0, r1, r2, r3⟩ := cells4P (HPR.out.box (w.heap.size, #[.slice none 0 0, .int .i64 pr, .bool false, .bool ps]) (by simp))
            rw [hgl]
            have HZL : Hid _ := hzl
            clear hZB hZG hl1 hgl hzl hzb hzg HD HP14
            go_wp2_with fail
            refine Calls.mono (HEQ.out _ HPR.out.bel (HPR.out.rds (ag, cg, zg) (by simp))) ?_
            rintro e w21 ⟨rfl, hb21⟩
            have HP21 : Hid _ := HPR.out.below hb21
            clear hb21 HPR HPQ HEQ p0 p1 p2 p3 q0 q1 q2 q3 r0 r1 r2 r3
            obtain ⟨z0, z1, z2, z3⟩ := cells4P (HP21.out.box (w3.heap.size, #[.slice az zb.length cz, .int .i64 pr, .bool false, .bool ps]) (by simp))
            obtain ⟨R0, R1, R2, R3⟩ := cells4P (HP21.out.box (w14.heap.size, #[.slice none (0) (0), .int .i64 pr, .bool false, .bool ps]) (by simp))
            rw [HZL.out] at z0
            go_wp2_with fail
            refine Calls.mono (HSM.out _ HP21.out.bel (HP21.out.rds (az, cz, zb) (by simp))) ?_
            rintro e w22 ⟨rfl, hb22⟩
            have HP22 : Hid _ := HP21.out.below hb22
            clear hb22 HP21 HSM
            clear z0 z1 z2 z3 R0 R1 R2 R3
            obtain ⟨rfl, rfl, rfl, rfl, rfl⟩ := pairSP (HZS.out.trans (pshut_okP HPL.out))
            clear HZS
            obtain ⟨p0, p1, p2, p3⟩ := cells4P (HP22.out.box (w.heap.size, #[.slice none 0 0, .int .i64 pr, .bool false, .bool ps]) (by simp))
            have HPS : Hid _ := HP22.out.alloc #[.slice none 0 0, .int .i64 pr, .bool false, .bool true]
            obtain ⟨s0, s1, s2, s3⟩ := cells4P (HPS.out.box (w5.heap.size, #[.slice none 0 0, .int .i64 pr, .bool false, .bool true]) (by simp))
            go_wp2_with fail
            refine Calls.mono (samePipe_ref none none 0 0 [] pr false true _ (PB.none w _).1 (PB.none w _).1) ?_
            rintro e w23 ⟨rfl, hb23⟩
            have HP23 : Hid _ := HPS.out.below hb23
            clear hb23 HPS
            clear p0 p1 p2 p3 s0 s1 s2 s3
            obtain ⟨rfl, rfl, rfl, rfl, rfl⟩ := pairSP (HZC.out.trans (pclose_goodP HPL.out))
            clear HZC
            obtain ⟨p0, p1, p2, p3⟩ := cells4P (HP23.out.box (w.heap.size, #[.slice none 0 0, .int .i64 pr, .bool false, .bool ps]) (by simp))
            obtain ⟨c0, c1, c2, c3⟩ := cells4P (HP23.out.box (w4.heap.size, #[.slice acl bs.length ccl, .int .i64 pr, .bool true, .bool ps]) (by simp))
            obtain ⟨f0, f1, f2, f3⟩ := frz4P (HP23.out.box (w.heap.size, #[.slice none 0 0, .int .i64 pr, .bool false, .bool ps]) (by simp))
            have hw4 := HW4.out
            have HB2 : Hid (Below w.heap.size w (w23.setCell ⟨w.heap.size, 2, none⟩ (.bool true))) := HP23.out.bel.setCell (Nat.le_refl _) _
            rw [← HNN.out] at c0
            have e0 : (w23.setCell ⟨w.heap.size, 2, none⟩ (.bool true)).cell? ⟨w4.heap.size, 0, none⟩ = some (.slice acl 0 ccl) := by rw [World.cell?_setCell_other _ _ _ _ (by intro e; injection e with e1; omega)]; exact c0
            have e1 : (w23.setCell ⟨w.heap.size, 2, none⟩ (.bool true)).cell? ⟨w4.heap.size, 1, none⟩ = some (.int .i64 pr) := by rw [World.cell?_setCell_other _ _ _ _ (by intro e; injection e with e1; omega)]; exact c1
            have e2 : (w23.setCell ⟨w.heap.size, 2, none⟩ (.bool true)).cell? ⟨w4.heap.size, 2, none⟩ = some (.bool true) := by rw [World.cell?_setCell_other _ _ _ _ (by intro e; injection e with e1; omega)]; exact c2
            have e3 : (w23.setCell ⟨w.heap.size, 2, none⟩ (.bool true)).cell? ⟨w4.heap.size, 3, none⟩ = some (.bool ps) := by rw [World.cell?_setCell_other _ _ _ _ (by intro e; injection e with e1; omega)]; exact c3
            have hne : ¬ w4.heap.size = w.heap.size := by omega
            have HSM : Hid _ := samePipe_ref acl none ccl 0 bs pr true ps (w23.setCell ⟨w.heap.size, 2, none⟩ (.bool true)) (readsSetP (HP23.out.rds (acl, ccl, bs) (by simp)) HPC.out _) (HRP.out _ HB2.out)
            rw [← HNN.out] at HSM
            clear c0 c1 c2 c3
            go_wp2_with fail
            refine Calls.mono HSM.out ?_
            rintro e w24 ⟨rfl, hb24⟩
            have HBF : Hid (Below w.heap.size w w24) := HB2.out.trans (hb24.mono HB2.out.size)
            clear hb24 HSM e0 e1 e2 e3 p0 p1 p2 p3
            go_wp2_with fail
            go_ret
            exact ⟨rfl, HBF.out⟩
          | some a =>
            by_cases hcap : cap = k
            · obtain rfl : cap = N := by omega
              obtain rfl : cap = k := hcap
              have hkN : cap ≤ cap := by omega
              have hZB : zb = bs.drop cap := hzb.symm.trans (by first | rfl | (congr 1; omega))
              have hZG : zg = bs.take cap := hzg.symm.trans (by first | rfl | (congr 1; omega))
              have hl1 : (bs.take cap).length = cap := by rw [List.length_take, ← HNN.out]; omega
              have hgl : zg.length = cap := by rw [hZG, hl1]
              have hzl : zb.length = 0 := by rw [hZB, List.length_drop, ← HNN.out]; try omega
              have HD : Hid (∀ W, Below w.heap.size w W → Reads W (.slice (some a) (0) (0)) (0) (zb.map U)) := (show ∀ W, Below w.heap.size w W → Reads W (.slice (some a) (0) (0)) (0) (zb.map U) from fun W hW => by rw [hZB]; exact reads_noneP (by omega) (by rw [List.length_drop, ← HNN.out]; try omega) (by omega) (by omega))
              have HEQ : Hid _ := fun (W : World) (hW : Below w.heap.size w W) (hg : Reads W (.slice ag zg.length cg) zg.length (zg.map U)) => (show Calls Try.prog 19 #[.slice ag cap cg, .slice (some a) cap cap] W fun e w' => e = .returned (.bool true) ∧ Below W.heap.size W w' by
                have h := eqP_is ag (some a) cg cap zg (bs.take cap) W hg (by rw [hl1]; exact reads_takeP (HRN.out W hW) hkN)
                rw [hl1, hgl, decide_eq_true hZG] at h
                exact h)
              have HSM : Hid _ := fun (W : World) (hW : Below w.heap.size w W) (hg : Reads W (.slice az zb.length cz) zb.length (zb.map U)) => (show Calls Try.prog 17 #[.agg #[.slice az (0) cz, .int .i64 pr, .bool false, .bool ps], .agg #[.slice (some a) (0) (0), .int .i64 pr, .bool false, .bool ps]] W fun e w' => e = .returned (.bool true) ∧ Below W.heap.size W w' by
                have h := samePipe_ref az (some a) cz (0) zb pr false ps W hg (by rw [hzl]; exact HD.out W hW)
                rw [hzl] at h
                exact h)
              obtain ⟨p0, p1, p2, p3⟩ := cells4P (HP14.out.box (w.heap.size, #[.slice (some a) cap cap, .int .i64 pr, .bool false, .bool ps]) (by simp))
              have HPQ : Hid _ := HP14.out.alloc #[.slice (some a) cap cap, .int .i64 pr, .bool false, .bool ps]
              obtain ⟨q0, q1, q2, q3⟩ := cells4P (HPQ.out.box (w.heap.size, #[.slice (some a) cap cap, .int .i64 pr, .bool false, .bool ps]) (by simp))
              have HPR : Hid _ := HP14.out.alloc #[.slice (some a) (0) (0), .int .i64 pr, .bool false, .bool ps]
              obtain ⟨r0, r1, r2, r3⟩ := cells4P (HPR.out.box (w.heap.size, #[.slice (some a) cap cap, .int .i64 pr, .bool false, .bool ps]) (by simp))
              rw [hgl]
              have HZL : Hid _ := hzl
              clear hZB hZG hl1 hgl hzl hzb hzg HD HP14
              go_wp2_with fail
              refine Calls.mono (HEQ.out _ HPR.out.bel (HPR.out.rds (ag, cg, zg) (by simp))) ?_
              rintro e w25 ⟨rfl, hb25⟩
              have HP25 : Hid _ := HPR.out.below hb25
              clear hb25 HPR HPQ HEQ p0 p1 p2 p3 q0 q1 q2 q3 r0 r1 r2 r3
              obtain ⟨z0, z1, z2, z3⟩ := cells4P (HP25.out.box (w3.heap.size, #[.slice az zb.length cz, .int .i64 pr, .bool false, .bool ps]) (by simp))
              obtain ⟨R0, R1, R2, R3⟩ := cells4P (HP25.out.box (w14.heap.size, #[.slice (some a) (0) (0), .int .i64 pr, .bool false, .bool ps]) (by simp))
              rw [HZL.out] at z0
              go_wp2_with fail
              refine Calls.mono (HSM.out _ HP25.out.bel (HP25.out.rds (az, cz, zb) (by simp))) ?_
              rintro e w26 ⟨rfl, hb26⟩
              have HP26 : Hid _ := HP25.out.below hb26
              clear hb26 HP25 HSM
              clear z0 z1 z2 z3 R0 R1 R2 R3
              obtain ⟨rfl, rfl, rfl, rfl, rfl⟩ := pairSP (HZS.out.trans (pshut_okP HPL.out))
              clear HZS
              obtain ⟨p0, p1, p2, p3⟩ := cells4P (HP26.out.box (w.heap.size, #[.slice (some a) cap cap, .int .i64 pr, .bool false, .bool ps]) (by simp))
              have HPS : Hid _ := HP26.out.alloc #[.slice none 0 0, .int .i64 pr, .bool false, .bool true]
              obtain ⟨s0, s1, s2, s3⟩ := cells4P (HPS.out.box (w5.heap.size, #[.slice none 0 0, .int .i64 pr, .bool false, .bool true]) (by simp))
              go_wp2_with fail
              refine Calls.mono (samePipe_ref none none 0 0 [] pr false true _ (PB.none w _).1 (PB.none w _).1) ?_
              rintro e w27 ⟨rfl, hb27⟩
              have HP27 : Hid _ := HPS.out.below hb27
              clear hb27 HPS
              clear p0 p1 p2 p3 s0 s1 s2 s3
              obtain ⟨rfl, rfl, rfl, rfl, rfl⟩ := pairSP (HZC.out.trans (pclose_goodP HPL.out))
              clear HZC
              obtain ⟨p0, p1, p2, p3⟩ := cells4P (HP27.out.box (w.heap.size, #[.slice (some a) cap cap, .int .i64 pr, .bool false, .bool ps]) (by simp))
              obtain ⟨c0, c1, c2, c3⟩ := cells4P (HP27.out.box (w4.heap.size, #[.slice acl bs.length ccl, .int .i64 pr, .bool true, .bool ps]) (by simp))
              obtain ⟨f0, f1, f2, f3⟩ := frz4P (HP27.out.box (w.heap.size, #[.slice (some a) cap cap, .int .i64 pr, .bool false, .bool ps]) (by simp))
              have hw4 := HW4.out
              have HB2 : Hid (Below w.heap.size w (w27.setCell ⟨w.heap.size, 2, none⟩ (.bool true))) := HP27.out.bel.setCell (Nat.le_refl _) _
              rw [← HNN.out] at c0
              have e0 : (w27.setCell ⟨w.heap.size, 2, none⟩ (.bool true)).cell? ⟨w4.heap.size, 0, none⟩ = some (.slice acl cap ccl) := by rw [World.cell?_setCell_other _ _ _ _ (by intro e; injection e with e1; omega)]; exact c0
              have e1 : (w27.setCell ⟨w.heap.size, 2, none⟩ (.bool true)).cell? ⟨w4.heap.size, 1, none⟩ = some (.int .i64 pr) := by rw [World.cell?_setCell_other _ _ _ _ (by intro e; injection e with e1; omega)]; exact c1
              have e2 : (w27.setCell ⟨w.heap.size, 2, none⟩ (.bool true)).cell? ⟨w4.heap.size, 2, none⟩ = some (.bool true) := by rw [World.cell?_setCell_other _ _ _ _ (by intro e; injection e with e1; omega)]; exact c2
              have e3 : (w27.setCell ⟨w.heap.size, 2, none⟩ (.bool true)).cell? ⟨w4.heap.size, 3, none⟩ = some (.bool ps) := by rw [World.cell?_setCell_other _ _ _ _ (by intro e; injection e with e1; omega)]; exact c3
              have hne : ¬ w4.heap.size = w.heap.size := by omega
              have HSM : Hid _ := samePipe_ref acl (some a) ccl cap bs pr true ps (w27.setCell ⟨w.heap.size, 2, none⟩ (.bool true)) (readsSetP (HP27.out.rds (acl, ccl, bs) (by simp)) HPC.out _) (HRP.out _ HB2.out)
              rw [← HNN.out] at HSM
              clear c0 c1 c2 c3
              go_wp2_with fail
              refine Calls.mono HSM.out ?_
              rintro e w28 ⟨rfl, hb28⟩
              have HBF : Hid (Below w.heap.size w w28) := HB2.out.trans (hb28.mono HB2.out.size)
              clear hb28 HSM e0 e1 e2 e3 p0 p1 p2 p3
              go_wp2_with fail
              go_ret
              exact ⟨rfl, HBF.out⟩
            · have hkN : k ≤ N := by omega
              have hZB : zb = bs.drop k := hzb.symm.trans (by first | rfl | (congr 1; omega))
              have hZG : zg = bs.take k := hzg.symm.trans (by first | rfl | (congr 1; omega))
              have hl1 : (bs.take k).length = k := by rw [List.length_take, ← HNN.out]; omega
              have hgl : zg.length = k := by rw [hZG, hl1]
              have hzl : zb.length = N - k := by rw [hZB, List.length_drop, ← HNN.out]; try omega
              have HD : Hid (∀ W, Below w.heap.size w W → Reads W (.slice (some (a.add k)) (N - k) (cap - k)) (N - k) (zb.map U)) := (show ∀ W, Below w.heap.size w W → Reads W (.slice (some (a.add k)) (N - k) (cap - k)) (N - k) (zb.map U) from fun W hW => by rw [hZB]; exact reads_dropAnyP (HRN.out W hW) hkN)
              have HEQ : Hid _ := fun (W : World) (hW : Below w.heap.size w W) (hg : Reads W (.slice ag zg.length cg) zg.length (zg.map U)) => (show Calls Try.prog 19 #[.slice ag k cg, .slice (some a) k cap] W fun e w' => e = .returned (.bool true) ∧ Below W.heap.size W w' by
                have h := eqP_is ag (some a) cg cap zg (bs.take k) W hg (by rw [hl1]; exact reads_takeP (HRN.out W hW) hkN)
                rw [hl1, hgl, decide_eq_true hZG] at h
                exact h)
              have HSM : Hid _ := fun (W : World) (hW : Below w.heap.size w W) (hg : Reads W (.slice az zb.length cz) zb.length (zb.map U)) => (show Calls Try.prog 17 #[.agg #[.slice az (N - k) cz, .int .i64 pr, .bool false, .bool ps], .agg #[.slice (some (a.add k)) (N - k) (cap - k), .int .i64 pr, .bool false, .bool ps]] W fun e w' => e = .returned (.bool true) ∧ Below W.heap.size W w' by
                have h := samePipe_ref az (some (a.add k)) cz (cap - k) zb pr false ps W hg (by rw [hzl]; exact HD.out W hW)
                rw [hzl] at h
                exact h)
              obtain ⟨p0, p1, p2, p3⟩ := cells4P (HP14.out.box (w.heap.size, #[.slice (some a) N cap, .int .i64 pr, .bool false, .bool ps]) (by simp))
              have HPQ : Hid _ := HP14.out.alloc #[.slice (some a) N cap, .int .i64 pr, .bool false, .bool ps]
              obtain ⟨q0, q1, q2, q3⟩ := cells4P (HPQ.out.box (w.heap.size, #[.slice (some a) N cap, .int .i64 pr, .bool false, .bool ps]) (by simp))
              have HPR : Hid _ := HP14.out.alloc #[.slice (some (a.add k)) (N - k) (cap - k), .int .i64 pr, .bool false, .bool ps]
              obtain ⟨r0, r1, r2, r3⟩ := cells4P (HPR.out.box (w.heap.size, #[.slice (some a) N cap, .int .i64 pr, .bool false, .bool ps]) (by simp))
              rw [hgl]
              have HZL : Hid _ := hzl
              clear hZB hZG hl1 hgl hzl hzb hzg HD HP14
              go_wp2_with fail
              refine Calls.mono (HEQ.out _ HPR.out.bel (HPR.out.rds (ag, cg, zg) (by simp))) ?_
              rintro e w29 ⟨rfl, hb29⟩
              have HP29 : Hid _ := HPR.out.below hb29
              clear hb29 HPR HPQ HEQ p0 p1 p2 p3 q0 q1 q2 q3 r0 r1 r2 r3
              obtain ⟨z0, z1, z2, z3⟩ := cells4P (HP29.out.box (w3.heap.size, #[.slice az zb.length cz, .int .i64 pr, .bool false, .bool ps]) (by simp))
              obtain ⟨R0, R1, R2, R3⟩ := cells4P (HP29.out.box (w14.heap.size, #[.slice (some (a.add k)) (N - k) (cap - k), .int .i64 pr, .bool false, .bool ps]) (by simp))
              rw [HZL.out] at z0
              go_wp2_with fail
              refine Calls.mono (HSM.out _ HP29.out.bel (HP29.out.rds (az, cz, zb) (by simp))) ?_
              rintro e w30 ⟨rfl, hb30⟩
              have HP30 : Hid _ := HP29.out.below hb30
              clear hb30 HP29 HSM
              clear z0 z1 z2 z3 R0 R1 R2 R3
              obtain ⟨rfl, rfl, rfl, rfl, rfl⟩ := pairSP (HZS.out.trans (pshut_okP HPL.out))
              clear HZS
              obtain ⟨p0, p1, p2, p3⟩ := cells4P (HP30.out.box (w.heap.size, #[.slice (some a) N cap, .int .i64 pr, .bool false, .bool ps]) (by simp))
              have HPS : Hid _ := HP30.out.alloc #[.slice none 0 0, .int .i64 pr, .bool false, .bool true]
              obtain ⟨s0, s1, s2, s3⟩ := cells4P (HPS.out.box (w5.heap.size, #[.slice none 0 0, .int .i64 pr, .bool false, .bool true]) (by simp))
              go_wp2_with fail
              refine Calls.mono (samePipe_ref none none 0 0 [] pr false true _ (PB.none w _).1 (PB.none w _).1) ?_
              rintro e w31 ⟨rfl, hb31⟩
              have HP31 : Hid _ := HPS.out.below hb31
              clear hb31 HPS
              clear p0 p1 p2 p3 s0 s1 s2 s3
              obtain ⟨rfl, rfl, rfl, rfl, rfl⟩ := pairSP (HZC.out.trans (pclose_goodP HPL.out))
              clear HZC
              obtain ⟨p0, p1, p2, p3⟩ := cells4P (HP31.out.box (w.heap.size, #[.slice (some a) N cap, .int .i64 pr, .bool false, .bool ps]) (by simp))
              obtain ⟨c0, c1, c2, c3⟩ := cells4P (HP31.out.box (w4.heap.size, #[.slice acl bs.length ccl, .int .i64 pr, .bool true, .bool ps]) (by simp))
              obtain ⟨f0, f1, f2, f3⟩ := frz4P (HP31.out.box (w.heap.size, #[.slice (some a) N cap, .int .i64 pr, .bool false, .bool ps]) (by simp))
              have hw4 := HW4.out
              have HB2 : Hid (Below w.heap.size w (w31.setCell ⟨w.heap.size, 2, none⟩ (.bool true))) := HP31.out.bel.setCell (Nat.le_refl _) _
              rw [← HNN.out] at c0
              have e0 : (w31.setCell ⟨w.heap.size, 2, none⟩ (.bool true)).cell? ⟨w4.heap.size, 0, none⟩ = some (.slice acl N ccl) := by rw [World.cell?_setCell_other _ _ _ _ (by intro e; injection e with e1; omega)]; exact c0
              have e1 : (w31.setCell ⟨w.heap.size, 2, none⟩ (.bool true)).cell? ⟨w4.heap.size, 1, none⟩ = some (.int .i64 pr) := by rw [World.cell?_setCell_other _ _ _ _ (by intro e; injection e with e1; omega)]; exact c1
              have e2 : (w31.setCell ⟨w.heap.size, 2, none⟩ (.bool true)).cell? ⟨w4.heap.size, 2, none⟩ = some (.bool true) := by rw [World.cell?_setCell_other _ _ _ _ (by intro e; injection e with e1; omega)]; exact c2
              have e3 : (w31.setCell ⟨w.heap.size, 2, none⟩ (.bool true)).cell? ⟨w4.heap.size, 3, none⟩ = some (.bool ps) := by rw [World.cell?_setCell_other _ _ _ _ (by intro e; injection e with e1; omega)]; exact c3
              have hne : ¬ w4.heap.size = w.heap.size := by omega
              have HSM : Hid _ := samePipe_ref acl (some a) ccl cap bs pr true ps (w31.setCell ⟨w.heap.size, 2, none⟩ (.bool true)) (readsSetP (HP31.out.rds (acl, ccl, bs) (by simp)) HPC.out _) (HRP.out _ HB2.out)
              rw [← HNN.out] at HSM
              clear c0 c1 c2 c3
              go_wp2_with fail
              refine Calls.mono HSM.out ?_
              rintro e w32 ⟨rfl, hb32⟩
              have HBF : Hid (Below w.heap.size w w32) := HB2.out.trans (hb32.mono HB2.out.size)
              clear hb32 HSM e0 e1 e2 e3 p0 p1 p2 p3
              go_wp2_with fail
              go_ret
              exact ⟨rfl, HBF.out⟩
  · have hpl : pchk ⟨bs, pr, false, ps⟩ = L := HL.out.symm
    obtain ⟨rfl, rfl, rfl, rfl, rfl, rfl⟩ := tripZP (HZY.out.trans (pwrite_errP hpl hL0))
    obtain ⟨rfl, rfl, rfl, rfl, rfl, rfl⟩ := tripRP (HZZ.out.trans (pread_errP hpl hL0))
    obtain ⟨rfl, rfl, rfl, rfl, rfl⟩ := pairZP (HZC.out.trans (pclose_errP hpl hL0))
    obtain ⟨rfl, rfl, rfl, rfl, rfl⟩ := pairZP (HZS.out.trans (pshut_errP hpl hL0))
    clear HZY HZZ HZC HZS hpl HL
    obtain ⟨y0, y1, y2, y3⟩ := cells4P (HP8.out.box (w2.heap.size, #[.slice ay 0 cy, .int .i64 0, .bool false, .bool false]) (by simp))
    obtain ⟨o0, o1, o2, o3⟩ := cells4P (HP8.out.box ((w5.heap.size + 1), #[.slice none 0 0, .int .i64 0, .bool false, .bool false]) (by simp))
    go_wp2_with fail
    refine Calls.mono (samePipe_ref ay none cy 0 [] 0 false false w8 (HP8.out.rds (ay, cy, []) (by simp)) (PB.none w _).1) ?_
    rintro e w9 ⟨rfl, hb9⟩
    have HP9 : Hid _ := HP8.out.below hb9
    clear hb9 HP8
    clear y0 y1 y2 y3 o0 o1 o2 o3
    obtain ⟨z0, z1, z2, z3⟩ := cells4P (HP9.out.box (w3.heap.size, #[.slice az 0 cz, .int .i64 0, .bool false, .bool false]) (by simp))
    obtain ⟨o0, o1, o2, o3⟩ := cells4P (HP9.out.box ((w5.heap.size + 1), #[.slice none 0 0, .int .i64 0, .bool false, .bool false]) (by simp))
    go_wp2_with fail
    refine Calls.mono (samePipe_ref az none cz 0 [] 0 false false w9 (HP9.out.rds (az, cz, []) (by simp)) (PB.none w _).1) ?_
    rintro e w10 ⟨rfl, hb10⟩
    have HP10 : Hid _ := HP9.out.below hb10
    clear hb10 HP9
    clear z0 z1 z2 z3 o0 o1 o2 o3
    obtain ⟨c0, c1, c2, c3⟩ := cells4P (HP10.out.box (w4.heap.size, #[.slice acl 0 ccl, .int .i64 0, .bool false, .bool false]) (by simp))
    obtain ⟨o0, o1, o2, o3⟩ := cells4P (HP10.out.box ((w5.heap.size + 1), #[.slice none 0 0, .int .i64 0, .bool false, .bool false]) (by simp))
    go_wp2_with fail
    refine Calls.mono (samePipe_ref acl none ccl 0 [] 0 false false w10 (HP10.out.rds (acl, ccl, []) (by simp)) (PB.none w _).1) ?_
    rintro e w11 ⟨rfl, hb11⟩
    have HP11 : Hid _ := HP10.out.below hb11
    clear hb11 HP10
    clear c0 c1 c2 c3 o0 o1 o2 o3
    obtain ⟨s0, s1, s2, s3⟩ := cells4P (HP11.out.box (w5.heap.size, #[.slice none 0 0, .int .i64 0, .bool false, .bool false]) (by simp))
    obtain ⟨o0, o1, o2, o3⟩ := cells4P (HP11.out.box ((w5.heap.size + 1), #[.slice none 0 0, .int .i64 0, .bool false, .bool false]) (by simp))
    go_wp2_with fail
    refine Calls.mono (samePipe_ref none none 0 0 [] 0 false false w11 (PB.none w _).1 (PB.none w _).1) ?_
    rintro e w12 ⟨rfl, hb12⟩
    have HP12 : Hid _ := HP11.out.below hb12
    clear hb12 HP11
    clear s0 s1 s2 s3 o0 o1 o2 o3
    go_wp2_with fail
    go_ret
    exact ⟨rfl, HP12.out.bel⟩
end Go.Proofs.Ytgebdlakafebiab
