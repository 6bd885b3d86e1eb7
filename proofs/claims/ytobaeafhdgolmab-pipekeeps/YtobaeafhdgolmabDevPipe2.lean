/- What the developers' New, Shut, Close, Read do, for every pipe. -/
import Derived.Test.YtobaeafhdgolmabDevPipe1
namespace Go.Proofs.Ytobaeafhdgolmab
open Go.RowKit Go.Gs
set_option linter.unusedVariables false

theorem pnew_bad {room : Int} (h : pck 0 room false ≠ 0) : pnew room = (zeroP, pck 0 room false) := by
  by_cases hr : room < 0 ∨ 1000 < room
  · rw [pck_range hr]; unfold pnew; rw [if_pos hr]
  · refine absurd (pck_open hr ?_) h
    unfold plim
    split <;> omega
theorem pnew_ok {room : Int} (h : pck 0 room false = 0) : pnew room = (⟨[], room, false, false⟩, 0) := by
  have := pck_ok h
  unfold pnew
  rw [if_neg (by omega)]
theorem pshut_bad {p : SPipe} (h : pchk p ≠ 0) : pshut p = (zeroP, pchk p) := by unfold pshut; rw [if_pos h]
theorem pshut_ok {p : SPipe} (h : pchk p = 0) : pshut p = (⟨[], p.room, p.closed, true⟩, 0) := by unfold pshut; rw [if_neg (fun e => e h)]
theorem pckO_of (p : SPipe) : pckO p.b.length p.room p.closed p.shut = if pchk p ≠ 0 then pchk p else if p.closed = true then 7 else 0 := rfl
theorem pclose_bad {p : SPipe} (h : pckO p.b.length p.room p.closed p.shut ≠ 0) : pclose p = (zeroP, pckO p.b.length p.room p.closed p.shut) := by
  rw [pckO_of] at h ⊢
  unfold pclose
  by_cases h1 : pchk p = 0
  · by_cases h2 : p.closed = true
    · simp [h1, h2]
    · simp [h1, h2] at h
  · simp [h1]
theorem pckO_ok {p : SPipe} (h : pckO p.b.length p.room p.closed p.shut = 0) : pchk p = 0 ∧ p.closed = false := by
  rw [pckO_of] at h
  by_cases h1 : pchk p = 0
  · by_cases h2 : p.closed = true
    · simp [h1, h2] at h
    · exact ⟨h1, by simpa using h2⟩
  · simp [h1] at h
theorem pclose_ok {p : SPipe} (h : pckO p.b.length p.room p.closed p.shut = 0) : pclose p = (⟨p.b, p.room, true, p.shut⟩, 0) := by
  obtain ⟨h1, h2⟩ := pckO_ok h
  unfold pclose
  rw [if_neg (fun e => e h1), if_neg (by rw [h2]; simp)]

set_option maxRecDepth 100000 in
set_option maxHeartbeats 1000000 in
theorem new_is (room : Int) (w : World) :
    Calls Try.prog 8 #[.int .i64 room] w fun e w' => e = .returned (.tuple #[pipeV (pnew room).1 none 0, .int .i64 (pnew room).2]) ∧ Below w.heap.size w w' := by
  have HO : Hid _ := fun (W : World) => pcheck_is none 0 0 room false false W (by omega)
  have HB : Hid _ := fun h => pnew_bad (room := room) h
  have HK : Hid _ := fun h => pnew_ok (room := room) h
  obtain ⟨L, hL⟩ : ∃ L, L = pck 0 room false := ⟨_, rfl⟩
  rw [← hL] at HO HB HK
  clear hL
  go_enter Try.func8, Try.ntmps8
  go_wp2_with fail
  refine (HO.out _).mono ?_
  rintro e w1 ⟨rfl, hb1⟩
  obtain ⟨x1, x2⟩ := box44P hb1
  obtain ⟨c0, c1, c2, c3⟩ := cells4P x1
  obtain ⟨d0, d1, d2, d3⟩ := cells4P x2
  obtain ⟨f0, f1, f2, f3⟩ := frz4P x1
  have HB1 : Hid (Below w.heap.size w w1) := boxr2P.trans (hb1.mono boxr2P.size)
  clear hb1 HO x1 x2
  by_cases h0 : L = 0
  · subst h0
    go_wp2_with fail
    (try simp only [Exit.inBlock, Exit.then])
    refine bodyPost_ret (v := .tuple #[.agg #[.slice none 0 0, .int .i64 room, .bool false, .bool false], .int .i64 0]) ?_ rfl ⟨?_, ?_⟩
    · rw [results_cell_tmp rfl]
      go_simp
    · rw [HK.out trivial]; rfl
    · exact below_set4P HB1.out (Nat.le_refl _) _ _ _ _
  · go_wp2_with fail
    (try simp only [Exit.inBlock, Exit.then])
    refine bodyPost_ret (v := .tuple #[.agg #[.slice none 0 0, .int .i64 0, .bool false, .bool false], .int .i64 L]) ?_ rfl ⟨?_, ?_⟩
    · rw [results_cell_tmp rfl]
      go_simp
    · rw [HB.out h0]; rfl
    · exact below_set4P HB1.out (Nat.le_refl _) _ _ _ _

set_option maxRecDepth 100000 in
set_option maxHeartbeats 1000000 in
theorem shut_is (ab : Option Addr) (cap : Nat) (p : SPipe) (w : World) (hn : p.b.length ≤ 9223372036854775807) :
    Calls Try.prog 12 #[pipeV p ab cap] w fun e w' => e = .returned (.tuple #[pipeV (pshut p).1 none 0, .int .i64 (pshut p).2]) ∧ Below w.heap.size w w' := by
  obtain ⟨bs, room, cl, sh⟩ := p
  have HO : Hid _ := fun (W : World) => pcheck_is ab bs.length cap room cl sh W hn
  have HB : Hid _ := fun h => pshut_bad (p := ⟨bs, room, cl, sh⟩) h
  have HK : Hid _ := fun h => pshut_ok (p := ⟨bs, room, cl, sh⟩) h
  unfold pchk at HB HK
  unfold pipeV
  generalize hZ : pshut ⟨bs, room, cl, sh⟩ = Z at *
  simp only at HB HK hn ⊢
  obtain ⟨L, hL⟩ : ∃ L, L = pck bs.length room sh := ⟨_, rfl⟩
  obtain ⟨N, hN⟩ : ∃ N, N = bs.length := ⟨_, rfl⟩
  rw [← hL] at HO HB HK
  rw [← hN] at HO hn ⊢
  clear hL hN hZ
  go_enter Try.func12, Try.ntmps12
  go_wp2_with fail
  refine (HO.out _).mono ?_
  rintro e w1 ⟨rfl, hb1⟩
  obtain ⟨x1, x2⟩ := box44P hb1
  obtain ⟨c0, c1, c2, c3⟩ := cells4P x1
  obtain ⟨d0, d1, d2, d3⟩ := cells4P x2
  obtain ⟨f0, f1, f2, f3⟩ := frz4P x1
  obtain ⟨g0, g1, g2, g3⟩ := frz4P x2
  have HB1 : Hid (Below w.heap.size w w1) := boxr2P.trans (hb1.mono boxr2P.size)
  clear hb1 HO x1 x2
  by_cases h0 : L = 0
  · obtain rfl := HK.out h0
    clear HK HB
    subst h0
    go_wp2_with fail
    (try simp only [Exit.inBlock, Exit.then])
    refine bodyPost_ret (v := .tuple #[.agg #[.slice none 0 0, .int .i64 room, .bool cl, .bool true], .int .i64 0]) ?_ rfl ⟨rfl, ?_⟩
    · rw [results_cell_tmp rfl]
      go_simp
    · repeat (first | refine Below.setCell ?_ (by simp) _ | exact HB1.out)
  · obtain rfl := HB.out h0
    clear HK HB
    go_wp2_with fail
    (try simp only [Exit.inBlock, Exit.then])
    refine bodyPost_ret (v := .tuple #[.agg #[.slice none 0 0, .int .i64 0, .bool false, .bool false], .int .i64 L]) ?_ rfl ⟨rfl, ?_⟩
    · rw [results_cell_tmp rfl]
      go_simp
    · repeat (first | refine Below.setCell ?_ (by simp) _ | exact HB1.out)

set_option maxRecDepth 100000 in
set_option maxHeartbeats 1000000 in
theorem close_is (ab : Option Addr) (cap : Nat) (p : SPipe) (w : World) (hr : Reads w (.slice ab p.b.length cap) p.b.length (p.b.map U)) :
    Calls Try.prog 11 #[pipeV p ab cap] w fun e w' => ∃ ar cr, e = .returned (.tuple #[pipeV (pclose p).1 ar cr, .int .i64 (pclose p).2]) ∧ PB w w' ar cr (pclose p).1.b ∧ Below w.heap.size w w' := by
  obtain ⟨bs, room, cl, sh⟩ := p
  have hn := (reads_leP hr).1
  have HR : Hid _ := hr
  have HO : Hid _ := fun (W : World) => checkOpen_is ab bs.length cap room cl sh W hn
  have HB : Hid _ := fun h => pclose_bad (p := ⟨bs, room, cl, sh⟩) h
  have HK : Hid _ := fun h => pclose_ok (p := ⟨bs, room, cl, sh⟩) h
  have HL : Hid (pckO bs.length room cl sh = 0 → bs.length ≤ 100000) := (show pckO bs.length room cl sh = 0 → bs.length ≤ 100000 from fun h => by
    obtain ⟨h1, h2⟩ := pckO_ok (p := ⟨bs, room, cl, sh⟩) h
    obtain ⟨_, g2, g3, _⟩ := pck_ok h1
    have g4 : plim room ≤ 40000 := plim_le g2
    have g5 : (bs.length : Int) ≤ plim room := g3
    omega)
  unfold pipeV
  generalize hZ : pclose ⟨bs, room, cl, sh⟩ = Z at *
  simp only at HB HK hn HR ⊢
  obtain ⟨L, hL⟩ : ∃ L, L = pckO bs.length room cl sh := ⟨_, rfl⟩
  rw [← hL] at HO HB HK HL
  clear hL hZ hr
  go_enter Try.func11, Try.ntmps11
  go_wp2_with fail
  refine (HO.out _).mono ?_
  rintro e w1 ⟨rfl, hb1⟩
  obtain ⟨x1, x2⟩ := box44P hb1
  have X1 : Hid _ := x1
  have X2 : Hid _ := x2
  obtain ⟨c0, c1, c2, c3⟩ := cells4P x1
  obtain ⟨d0, d1, d2, d3⟩ := cells4P x2
  obtain ⟨f0, f1, f2, f3⟩ := frz4P x1
  obtain ⟨g0, g1, g2, g3⟩ := frz4P x2
  have HB1 : Hid (Below w.heap.size w w1) := boxr2P.trans (hb1.mono boxr2P.size)
  have hs : w.heap.size + 1 < w1.heap.size := by have := hb1.size; simp at this; omega
  have HS : Hid _ := hs
  clear hb1 HO x1 x2
  by_cases h0 : L = 0
  · obtain rfl := HK.out h0
    have hl := HL.out h0
    clear HK HB HL
    subst h0
    have HC : Hid _ := bcloneP ab cap bs w1 (Reads.below HR.out HB1.out) hl
    generalize hN : bs.length = N at *
    clear d0 d1 d2 d3 f0 f1 f2 f3 g0 g1 g2 g3 HR
    go_wp2_with fail
    refine Calls.mono HC.out ?_
    rintro e w2 ⟨ar, cr, rfl, hpb, hb2⟩
    obtain ⟨c0, c1, c2, c3⟩ := cells4P ((hb2.block _ (by omega)).trans X1.out)
    obtain ⟨d0, d1, d2, d3⟩ := cells4P ((hb2.block _ (by omega)).trans X2.out)
    obtain ⟨f0, f1, f2, f3⟩ := frz4P ((hb2.block _ (by omega)).trans X1.out)
    obtain ⟨g0, g1, g2, g3⟩ := frz4P ((hb2.block _ (by omega)).trans X2.out)
    have HB2 : Hid (Below w.heap.size w w2) := HB1.out.trans (hb2.mono HB1.out.size)
    have HPB : Hid _ := hpb
    clear hb2 hpb HC X1 X2
    go_wp2_with fail
    (try simp only [Exit.inBlock, Exit.then])
    refine bodyPost_ret (v := .tuple #[.agg #[.slice ar N cr, .int .i64 room, .bool true, .bool sh], .int .i64 0]) ?_ rfl ⟨ar, cr, by rw [← hN], ?_, ?_⟩
    · rw [results_cell_tmp rfl]
      go_simp
    · refine PB.fromP (w1 := w1) ?_ HB1.out.size
      repeat (first | refine PB.setP ?_ (by omega) _ | exact HPB.out)
    · repeat (first | refine Below.setCell ?_ (by simp) _ | exact HB2.out)
  · obtain rfl := HB.out h0
    clear HK HB HL
    go_wp2_with fail
    (try simp only [Exit.inBlock, Exit.then])
    refine bodyPost_ret (v := .tuple #[.agg #[.slice none 0 0, .int .i64 0, .bool false, .bool false], .int .i64 L]) ?_ rfl ⟨none, 0, rfl, PB.none _ _, ?_⟩
    · rw [results_cell_tmp rfl]
      go_simp
    · repeat (first | refine Below.setCell ?_ (by simp) _ | exact HB1.out)

theorem pread_bad {p : SPipe} {m : Int} (h : pchk p ≠ 0) : pread p m = (zeroP, [], pchk p) := by unfold pread; rw [if_pos h]
theorem pread_range {p : SPipe} {m : Int} (h : pchk p = 0) (h2 : m < 0 ∨ 4000 < m) : pread p m = (zeroP, [], 3) := by unfold pread; rw [if_neg (fun e => e h), if_pos h2]
theorem pread_ok {p : SPipe} {m : Int} (h : pchk p = 0) (h2 : ¬ (m < 0 ∨ 4000 < m)) : pread p m = (⟨p.b.drop (min m.toNat p.b.length), p.room, p.closed, p.shut⟩, p.b.take (min m.toNat p.b.length), 0) := by unfold pread; rw [if_neg (fun e => e h), if_neg h2]
theorem reads_dropP {w : World} {b off n cap k : Nat} {bs : List UInt8} (h : Reads w (.slice (some ⟨b, off, none⟩) n cap) n (bs.map U)) (hk : k ≤ n) : Reads w (.slice (some ⟨b, off + k, none⟩) (n - k) (cap - k)) (n - k) ((bs.drop k).map U) := by
  obtain ⟨hl, ao, cap', e, h3, h4, h5⟩ := h
  injection e with e1 e2 e3
  subst e1 e3
  rw [List.length_map] at hl
  refine ⟨by simp; omega, _, _, rfl, by omega, by omega, fun hn => ?_⟩
  obtain ⟨b', off', e, hc⟩ := h5 (by omega)
  injection e with e
  injection e with e1 e2
  subst e1 e2
  refine ⟨b, off + k, rfl, fun j u hu => ?_⟩
  rw [List.map_drop, List.getElem?_drop] at hu
  have := hc _ _ hu
  rwa [← Nat.add_assoc] at this
theorem reads_takeP {w : World} {ao : Option Addr} {n cap k : Nat} {bs : List UInt8} (h : Reads w (.slice ao n cap) n (bs.map U)) (hk : k ≤ n) : Reads w (.slice ao k cap) k ((bs.take k).map U) := by
  obtain ⟨hl, ao', cap', e, h3, h4, h5⟩ := h
  injection e with e1 e2 e3
  subst e1 e3
  rw [List.length_map] at hl
  refine ⟨by simp; omega, _, _, rfl, by omega, by omega, fun hn => ?_⟩
  obtain ⟨b', off', e, hc⟩ := h5 (by omega)
  refine ⟨b', off', e, fun j u hu => ?_⟩
  rw [List.map_take, List.getElem?_take] at hu
  split at hu
  · exact hc _ _ hu
  · cases hu
end Go.Proofs.Ytobaeafhdgolmab
