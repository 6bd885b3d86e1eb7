/- What the reference's Written does, for every right pipe. -/
import Derived.Test.YtobaeafhdgolmabDevPipe4
namespace Go.Proofs.Ytobaeafhdgolmab
open Go.RowKit Go.Gs
set_option linter.unusedVariables false

/-- What Written answers. -/
def WrittenEnd (w : World) (z : SPipe × Nat × Int) (e : Ending) (w' : World) : Prop :=
  ∃ ar cr, e = .returned (.tuple #[pipeV z.1 ar cr, .int .i64 (z.2.1 : Int), .int .i64 z.2.2]) ∧ Reads w' (.slice ar z.1.b.length cr) z.1.b.length (z.1.b.map U) ∧ Below w.heap.size w w'
theorem run_append_nilP {P : Program} {w : World} (base : Nat) (t ty e : TypeId) (i : TypeInfo) (size c : Nat) (ht : P.underlying t = some (.slice e)) (hi : P.info? e = some i) (v : Value) (n : Nat) (xs : List Value) (hown : w.ownsRow base e size v n xs) :
    (Builtin.append_ #[t, t] ty #[v, .slice none 0 c]).run P w = .ok v w := by
  rcases hown.2 with ⟨rfl, rfl⟩ | ⟨g, cap, cur, rfl, _, _, hnc, _⟩
  · simp [Builtin.append_, run_underlying ht, sizeOf, typeInfo, hi, Builtin.lenOf, Builtin.firstCells]
  · simp [Builtin.append_, run_underlying ht, sizeOf, typeInfo, hi, Builtin.lenOf, Builtin.firstCells, hnc, storeCells]
theorem append_nil_ownP {P : Program} {w : World} {ops : Array Oper} {rest : List Oper} {o : Oper} {a : Act} {Q : Exit → Act → World → Prop} (hgd : o.guard = none) (s x : Operand) (t : TypeId)
    (ho : o.op = .call { callee := .builtin .append, args := #[s, x], argTypes := #[t, t] }) (base : Nat) (e : TypeId) (i : TypeInfo) (size c : Nat) (ht : P.underlying t = some (.slice e)) (hi : P.info? e = some i)
    (v : Value) (n : Nat) (xs : List Value) (hs : a.eval s = v) (hown : w.ownsRow base e size v n xs) (hx : a.eval x = .slice none 0 c) (h : wpList P ops Q rest (a.put o.dst v) w) : wpList P ops Q (o :: rest) a w := by
  refine wpList_plain hgd fun K hK => ?_
  have hrun := run_append_nilP (P := P) (w := w) base t o.type e i size c ht hi v n xs hown
  unfold Oper.wp
  simp [execOp, ho, resolve, invoke, builtin, hs, hx, hrun, Result.andThen]
  exact hK _ _ h

theorem owns_formP {w : World} {B : Nat} {e : TypeId} {size : Nat} {v : Value} {n : Nat} {xs : List Value} (h : w.ownsRow B e size v n xs) : ∃ a c, v = .slice a n c ∧ n ≤ c ∧ c ≤ maxLen := by
  rcases h.2 with ⟨rfl, h0⟩ | ⟨g, cap, cur, rfl, _, _, h1, h2, _⟩
  · exact ⟨none, 0, by rw [h0], by omega, by simp [maxLen]⟩
  · exact ⟨_, cap, rfl, h1, h2⟩
theorem nil_lenP {w : World} {n cap : Nat} {bs : List UInt8} (h : Reads w (.slice none n cap) n (bs.map U)) (hn : n = bs.length) : n = 0 ∧ bs = [] := by
  obtain ⟨_, ao, cap', e, _, _, h5⟩ := h
  injection e with e1 e2 e3
  have h0 : n = 0 := by
    by_cases h0 : n = 0
    · exact h0
    · obtain ⟨b, off, e, _⟩ := h5 h0
      rw [e] at e1
      cases e1
  exact ⟨h0, List.eq_nil_of_length_eq_zero (by omega)⟩
/-- What the loop stands on: so many bytes are written yet. -/
def WAt (w : World) (B : Nat) (X1 X2 : Obj) (bs cs : List UInt8) (k : Nat) (v : Value) (wr : World) : Prop :=
  wr.ownsRow B 5 1 v (bs ++ cs.take k).length ((bs ++ cs.take k).map U) ∧ Below w.heap.size w wr ∧ wr.heap[w.heap.size]? = some X1 ∧ wr.heap[w.heap.size + 1]? = some X2 ∧ B = w.heap.size + 1 + 1 ∧ B ≤ wr.heap.size
theorem WAt.start {w w1 : World} {a b c d a' b' c' d' v : Value} {t t' : TypeId} {N : Nat} {xs : List Value} {bs cs : List UInt8} (h : Below (w.heap.size + 1 + 1) ((w.alloc (.cells #[a, b, c, d] t)).alloc (.cells #[a', b', c', d'] t')) w1)
    (hown : w1.ownsRow (w.heap.size + 1 + 1) 5 1 v N xs) (hx : xs = bs.map U) (hN : N = bs.length) :
    WAt w (w.heap.size + 1 + 1) (.cells #[a, b, c, d] t (0, 0)) (.cells #[a', b', c', d'] t' (0, 0)) bs cs 0 v w1 := by
  have hs : ((w.alloc (.cells #[a, b, c, d] t)).alloc (.cells #[a', b', c', d'] t')).heap.size = w.heap.size + 1 + 1 := by simp
  have h' : Below ((w.alloc (.cells #[a, b, c, d] t)).alloc (.cells #[a', b', c', d'] t')).heap.size ((w.alloc (.cells #[a, b, c, d] t)).alloc (.cells #[a', b', c', d'] t')) w1 := by rw [hs]; exact h
  obtain ⟨x1, x2⟩ := box44P h'
  refine ⟨?_, boxr2P.trans (h'.mono boxr2P.size), x1, x2, rfl, by have := h.size; omega⟩
  rw [List.take_zero, List.append_nil, ← hx, ← hN]
  exact hown
theorem take_snocP {cs : List UInt8} {k : Nat} {x : UInt8} (h : cs[k]? = some x) : cs.take (k + 1) = cs.take k ++ [x] := by
  rw [List.take_add_one, h]
  rfl
theorem WAt.app {w wr w1 : World} {B : Nat} {X1 X2 : Obj} {bs cs : List UInt8} {k : Nat} {v v' : Value} {x : UInt8} {o : Obj} (h : WAt w B X1 X2 bs cs k v wr) (hx : cs[k]? = some x)
    (hown : w1.ownsRow B 5 1 v' ((bs ++ cs.take k).length + 1) ((bs ++ cs.take k).map U ++ [.int .u8 (x.toNat : Int)])) (hg : (wr.alloc o).grownBy w1 v.ownBlock) : WAt w B X1 X2 bs cs (k + 1) v' w1 := by
  obtain ⟨h1, h2, h3, h4, h5, h6⟩ := h
  have hbel : Below B wr w1 := (((Below.refl B wr).alloc h6 o).grown hg (by simp; omega) (fun g hg => (h1.lt g hg).1))
  refine ⟨?_, h2.trans (hbel.mono (by omega)), (hbel.block _ (by omega)).trans h3, (hbel.block _ (by omega)).trans h4, h5, Nat.le_trans h6 hbel.size⟩
  rw [take_snocP hx, ← List.append_assoc, List.map_append, List.length_append]
  exact hown

set_option maxRecDepth 100000 in
set_option maxHeartbeats 4000000 in
theorem written_ref (ab ac : Option Addr) (cap cc : Nat) (p : SPipe) (cs : List UInt8) (w : World) (hr : Reads w (.slice ab p.b.length cap) p.b.length (p.b.map U)) (hrc : Reads w (.slice ac cs.length cc) cs.length (cs.map U)) (h0 : pchk p = 0) :
    Calls Try.prog 18 #[pipeV p ab cap, .slice ac cs.length cc] w fun e w' => WrittenEnd w (pwrite p cs) e w' := by
  obtain ⟨i0, hi, hi0, hi1, hi2⟩ := info_parts infoU8P
  obtain ⟨bs, room, cl, sh⟩ := p
  have hn := (reads_leP hr).1
  have hm := (reads_leP hrc).1
  obtain ⟨hr1, hr2, hr3, hr4⟩ := pck_ok h0
  simp only at hr1 hr2 hr3 hr4
  cases cl with
  | true =>
    have HZ : Hid (pwrite ⟨bs, room, true, sh⟩ cs = (zeroP, 0, 7)) := (show _ = _ by unfold pwrite; rw [if_neg (fun e => e h0), if_pos rfl])
    unfold pipeV
    generalize pwrite ⟨bs, room, true, sh⟩ cs = Z at *
    simp only
    generalize bs.length = N at *
    generalize cs.length = M at *
    clear h0 hr hrc hr3 hr4
    go_enter Try.func18, Try.ntmps18
    go_wp2_with fail
    (try simp only [Exit.inBlock, Exit.then])
    refine bodyPost_ret (v := .tuple #[.agg #[.slice none 0 0, .int .i64 0, .bool false, .bool false], .int .i64 0, .int .i64 7]) ?_ rfl ?_
    · rw [results_cell_tmp2P rfl]
      go_simp
    · rw [HZ.out]
      exact ⟨none, 0, rfl, (PB.none w _).1, boxr2P⟩
  | false =>
    cases sh with
    | true =>
      have hb0 := hr4 rfl
      obtain rfl := List.eq_nil_of_length_eq_zero hb0
      have HZ : Hid (pwrite ⟨[], room, false, true⟩ cs = (⟨[], room, false, true⟩, cs.length, 0)) := (show _ = _ by unfold pwrite; rw [if_neg (fun e => e h0), if_neg (by simp), if_pos rfl])
      have HR : Hid _ := hr
      unfold pipeV
      generalize pwrite ⟨[], room, false, true⟩ cs = Z at *
      simp only
      generalize cs.length = M at *
      clear h0 hrc hr3 hr4 hr
      go_enter Try.func18, Try.ntmps18
      go_wp2_with fail
      (try simp only [Exit.inBlock, Exit.then])
      refine bodyPost_ret (v := .tuple #[.agg #[.slice ab 0 cap, .int .i64 room, .bool false, .bool true], .int .i64 (M : Int), .int .i64 0]) ?_ rfl ?_
      · rw [results_cell_tmp2P rfl]
        go_simp
      · rw [HZ.out]
        exact ⟨ab, cap, rfl, Reads.below HR.out boxr2P, boxr2P⟩
    | false =>
      have hlr : 0 ≤ room := hr1
      have HZ : Hid (pwrite ⟨bs, room, false, false⟩ cs = (⟨bs ++ cs.take (pfit cs.length bs.length room), room, false, false⟩, pfit cs.length bs.length room, 0)) := (show _ = _ by unfold pwrite; rw [if_neg (fun e => e h0), if_neg (by simp), if_neg (by simp)])
      have hf := pfit_int (m := cs.length) hr3
      obtain ⟨q, hq⟩ : ∃ q, q = pfit cs.length bs.length room := ⟨_, rfl⟩
      rw [← hq] at HZ hf
      have hlim := plim_le hr2
      have HR : Hid (Reads w (.slice ab bs.length cap) bs.length (bs.map U)) := hr
      have HRC : Hid (Reads w (.slice ac cs.length cc) cs.length (cs.map U)) := hrc
      unfold pipeV
      generalize pwrite ⟨bs, room, false, false⟩ cs = Z at *
      simp only
      obtain ⟨N, hN⟩ : ∃ N, N = bs.length := ⟨_, rfl⟩
      obtain ⟨M, hM⟩ : ∃ M, M = cs.length := ⟨_, rfl⟩
      have HN : Hid (N = bs.length) := hN
      have HM : Hid (M = cs.length) := hM
      rw [← hN] at HR hf hr3 hn ⊢
      rw [← hM] at HRC hf hm ⊢
      have HQ : Hid ((q : Int) ≤ M ∧ (q : Int) + N ≤ plim room ∧ ((q : Int) = M ∨ (q : Int) + N = plim room)) := (show (q : Int) ≤ M ∧ (q : Int) + N ≤ plim room ∧ ((q : Int) = M ∨ (q : Int) + N = plim room) by rw [hf]; split <;> omega)
      have hq4 : N + q ≤ 40000 := by have := HQ.out; omega
      have hqM : q ≤ M := by have := HQ.out; omega
      clear h0 hr hrc hr4 hq hf hN hM hlr
      by_cases hz : room = 0
      · subst hz
        have hl : plim 0 = 40000 := rfl
        rw [hl] at HQ hr3 hlim
        clear hl hr1 hr2 hlim
        cases ab with
        | none =>
          obtain ⟨rfl, hb0⟩ : N = 0 ∧ bs = [] := nil_lenP HR.out HN.out
          have HB0 : Hid (bs = []) := hb0
          have hmade : (((w.alloc (.cells #[.slice none 0 cap, .int .i64 0, .bool false, .bool false] 42)).alloc (.cells #[.slice none 0 0, .int .i64 0, .bool false, .bool false] 42)).alloc (.cells #[] 5)).ownsRow (w.heap.size + 1 + 1) 5 1 (.slice (some ⟨w.heap.size + 1 + 1, 0, none⟩) 0 0) 0 [] := by
            have h := World.ownsRow_made (base := w.heap.size + 1 + 1) (e := 5) (size := 1) ((w.alloc (.cells #[.slice none 0 cap, .int .i64 0, .bool false, .bool false] 42)).alloc (.cells #[.slice none 0 0, .int .i64 0, .bool false, .bool false] 42)) #[] 0 (by simp) (Nat.zero_le _) rfl
            have hs : ((w.alloc (.cells #[.slice none 0 cap, .int .i64 0, .bool false, .bool false] 42)).alloc (.cells #[.slice none 0 0, .int .i64 0, .bool false, .bool false] 42)).heap.size = w.heap.size + 1 + 1 := by simp
            rw [hs] at h
            exact h
          clear HR hb0
          go_enter Try.func18, Try.ntmps18
          go_wp2_with (at_builtin; refine append_nil_ownP rfl _ _ 40 rfl (w.heap.size + 1 + 1) 5 i0 1 cap Try.underlying40 hi _ _ _ rfl hmade rfl ?_)
          have HST : Hid (WAt w (w.heap.size + 1 + 1) (.cells #[.slice none 0 cap, .int .i64 0, .bool false, .bool false] 42 (0, 0)) (.cells #[.slice none 0 0, .int .i64 0, .bool false, .bool false] 42 (0, 0)) bs cs 0 (.slice (some ⟨w.heap.size + 1 + 1, 0, none⟩) 0 0) _) := WAt.start (cs := cs) ((Below.refl (w.heap.size + 1 + 1) _).alloc (by simp) _) hmade (by rw [HB0.out]; rfl) HN.out
          clear hmade
          go_wp2_with fail
          go_loopw [8, 9] (fun n v wr => ∃ k : Nat, k ≤ q ∧ n = .int .i64 k ∧ Hid (WAt w (w.heap.size + 1 + 1) (.cells #[.slice none 0 cap, .int .i64 0, .bool false, .bool false] 42 (0, 0)) (.cells #[.slice none 0 0, .int .i64 0, .bool false, .bool false] 42 (0, 0)) bs cs k v wr)) (fun n _ _ => q - (intOf n).toNat)
          case atStart => exact ⟨0, Nat.zero_le _, rfl, HST.out⟩
          case round =>
            obtain ⟨k, hk, rfl, hat⟩ := hrel
            obtain ⟨hown, hbel, hx1, hx2, _, hB⟩ := hat.out
            have hlen : (bs ++ cs.take k).length = k := by rw [List.length_append, List.length_take, ← HN.out, ← HM.out]; omega
            rw [hlen] at hown
            obtain ⟨av, cv, rfl, hv1, hv2⟩ := owns_formP hown
            by_cases hlt : k < q
            · have hkM : (k : Int) < (M : Int) := by omega
              have hkR : (k : Int) < 40000 := by have := HQ.out; omega
              obtain ⟨x, hx⟩ : ∃ x, cs[k]? = some x := ⟨_, List.getElem?_eq_getElem (by have := HM.out; omega)⟩
              obtain ⟨b1, o1, rfl, hc1⟩ := reads_byteP (Reads.below HRC.out hbel) hx
              have HAP : Hid _ := fun (w1 : World) (v' : Value) (o : Obj) h1 h2 => WAt.app (w1 := w1) (v' := v') (o := o) hat.out hx h1 h2
              rw [hlen] at HAP
              obtain ⟨xs, hxs⟩ : ∃ xs, xs = (bs ++ cs.take k).map U := ⟨_, rfl⟩
              rw [← hxs] at hown HAP
              generalize (x.toNat : Int) = xi at *
              clear hx hat hlen hxs hx1 hx2
              have hownA := hown.alloc (.cells #[.int .u8 xi] 5)
              clear hown
              go_wp2_with (at_builtin; refine wpList_append_own _ rfl (.tmp 37) (.tmp 42) 40 rfl (w.heap.size + 1 + 1) 5 i0 (.int .u8 0) 1 1 Try.underlying40 hi hi0 hi1 hi2 rfl (by decide) (.slice av (k) cv) (k) xs rfl hownA ⟨wr.heap.size, 0, none⟩ 1 1 [.int .u8 xi] rfl rfl ?c1v1 ?c2v1 ?c3v1 ?c4v1 ?c5v1 ?_)
              all_goals try
                case c1v1 =>
                  intro j u hj
                  match j, hj with
                  | 0, hj => simp at hj; subst hj; simp [Addr.add]
              case c2v1 => first | rfl | (intro u hu; simp at hu; subst hu; rfl)
              case c3v1 => unfold maxLen; omega
              case c4v1 => omega
              case c5v1 => first | omega | (simp; omega)
              · intro v' w1 hown' hgrow _
                have R : Hid _ := HAP.out w1 v' _ hown' hgrow
                clear hown' hgrow hownA hbel hc1 HAP
                go_wp2_with fail
                go_roundw
                case rel => exact ⟨k + 1, by omega, by go_num, R.out⟩
                case measure => simp [intOf]; omega
            · have hkq : k = q := by omega
              obtain ⟨c0, c1, c2, c3⟩ := cells4P hx1
              obtain ⟨d0, d1, d2, d3⟩ := cells4P hx2
              obtain ⟨f0, f1, f2, f3⟩ := frz4P hx1
              obtain ⟨g0, g1, g2, g3⟩ := frz4P hx2
              have HRD : Hid _ := Reads.of_owns hown
              have HBE : Hid (Below w.heap.size w wr) := hbel
              have HV : Hid (∀ a, av = some a → w.heap.size + 1 + 1 ≤ a.block) := (show ∀ a, av = some a → w.heap.size + 1 + 1 ≤ a.block from fun a ha => (hown.lt a.block (by rw [ha]; rfl)).1)
              have HLEN : Hid _ := hlen
              have hkq1 : q ≤ k := by omega
              clear hat hown hbel hx1 hx2 hB hlen hlt hkq
              by_cases hkM : (k : Int) < (M : Int)
              · have hkR : ¬ (k : Int) < 40000 := by have := HQ.out; omega
                go_wp2_with fail
                (try simp only [Exit.inBlock, Exit.then])
                refine bodyPost_ret (v := .tuple #[.agg #[.slice av (k) cv, .int .i64 0, .bool false, .bool false], .int .i64 (k : Int), .int .i64 0]) ?_ rfl ?_
                · rw [results_cell_tmp2P rfl]
                  go_simp
                · have hkq : q = k := by omega
                  rw [HZ.out, hkq]
                  refine ⟨av, cv, ?_, ?_, ?_⟩
                  · unfold pipeV
                    simp only
                    rw [HLEN.out]
                  · show Reads _ (.slice av (bs ++ cs.take k).length cv) (bs ++ cs.take k).length ((bs ++ cs.take k).map U)
                    rw [HLEN.out]
                    repeat (first | refine readsSetP ?_ (fun a ha => by have := HV.out a ha; omega) _ | exact HRD.out)
                  · repeat (first | refine Below.setCell ?_ (by simp) _ | exact HBE.out)
              · go_wp2_with fail
                (try simp only [Exit.inBlock, Exit.then])
                refine bodyPost_ret (v := .tuple #[.agg #[.slice av (k) cv, .int .i64 0, .bool false, .bool false], .int .i64 (k : Int), .int .i64 0]) ?_ rfl ?_
                · rw [results_cell_tmp2P rfl]
                  go_simp
                · have hkq : q = k := by omega
                  rw [HZ.out, hkq]
                  refine ⟨av, cv, ?_, ?_, ?_⟩
                  · unfold pipeV
                    simp only
                    rw [HLEN.out]
                  · show Reads _ (.slice av (bs ++ cs.take k).length cv) (bs ++ cs.take k).length ((bs ++ cs.take k).map U)
                    rw [HLEN.out]
                    repeat (first | refine readsSetP ?_ (fun a ha => by have := HV.out a ha; omega) _ | exact HRD.out)
                  · repeat (first | refine Below.setCell ?_ (by simp) _ | exact HBE.out)
        | some a =>
          go_enter Try.func18, Try.ntmps18
          obtain ⟨xs, hxs⟩ : ∃ xs, xs = bs.map U := ⟨_, rfl⟩
          have HXS : Hid (xs = bs.map U) := hxs
          have HXL : Hid (xs.length = N) := (show _ = _ by rw [hxs, List.length_map, HN.out])
          have HC : Hid (∀ W, Below w.heap.size w W → ∀ j u, xs[j]? = some u → W.cell? (a.add j) = some u) := (show ∀ W, Below w.heap.size w W → ∀ j u, xs[j]? = some u → W.cell? (a.add j) = some u from fun W hW j u hj => by
            rw [hxs] at hj
            have hlt : j < bs.length := by simpa using (List.getElem?_eq_some_iff.1 hj).1
            obtain ⟨ad, e, h⟩ := srcP (Reads.below HR.out hW) (k := bs.length) (by rw [List.take_length]; omega)
            injection e with e
            subst e
            rw [List.take_length] at h
            exact h j u hj)
          have hmade : (((w.alloc (.cells #[.slice (some a) N cap, .int .i64 0, .bool false, .bool false] 42)).alloc (.cells #[.slice none 0 0, .int .i64 0, .bool false, .bool false] 42)).alloc (.cells #[] 5)).ownsRow (w.heap.size + 1 + 1) 5 1 (.slice (some ⟨w.heap.size + 1 + 1, 0, none⟩) 0 0) 0 [] := by
            have h := World.ownsRow_made (base := w.heap.size + 1 + 1) (e := 5) (size := 1) ((w.alloc (.cells #[.slice (some a) N cap, .int .i64 0, .bool false, .bool false] 42)).alloc (.cells #[.slice none 0 0, .int .i64 0, .bool false, .bool false] 42)) #[] 0 (by simp) (Nat.zero_le _) rfl
            have hs : ((w.alloc (.cells #[.slice (some a) N cap, .int .i64 0, .bool false, .bool false] 42)).alloc (.cells #[.slice none 0 0, .int .i64 0, .bool false, .bool false] 42)).heap.size = w.heap.size + 1 + 1 := by simp
            rw [hs] at h
            exact h
          clear hxs HR
          go_wp2_with (at_builtin; refine wpList_append_own _ rfl _ _ 40 rfl (w.heap.size + 1 + 1) 5 i0 (.int .u8 0) 1 1 Try.underlying40 hi hi0 hi1 hi2 rfl (by decide) _ _ _ rfl hmade a N cap xs rfl ?qc1v2 ?qc2v2 ?qc3v2 ?qc4v2 ?qc5v2 ?qc6v2 ?_)
          case qc1v2 => first | (rw [HXL.out]; done) | (rw [HXL.out, Nat.mul_one])
          case qc2v2 => exact HC.out _ (boxr2P.alloc (by simp; omega) _)
          case qc3v2 => rw [HXS.out]; exact U_oneP
          case qc4v2 => unfold maxLen; omega
          case qc5v2 => omega
          all_goals try (case qc6v2 => simp)
          · intro v' w1 hown hg hnil
            have HST : Hid (WAt w (w.heap.size + 1 + 1) (.cells #[.slice (some a) N cap, .int .i64 0, .bool false, .bool false] 42 (0, 0)) (.cells #[.slice none 0 0, .int .i64 0, .bool false, .bool false] 42 (0, 0)) bs cs 0 v' w1) := WAt.start (cs := cs) (((Below.refl (w.heap.size + 1 + 1) _).alloc (by simp) _).grown hg (by simp) (fun k hk => by have h : some (w.heap.size + 1 + 1) = some k := hk; injection h with h; omega)) hown HXS.out HN.out
            clear hown hg hnil HC hmade
            go_wp2_with fail
            go_loopw [8, 9] (fun n v wr => ∃ k : Nat, k ≤ q ∧ n = .int .i64 k ∧ Hid (WAt w (w.heap.size + 1 + 1) (.cells #[.slice (some a) N cap, .int .i64 0, .bool false, .bool false] 42 (0, 0)) (.cells #[.slice none 0 0, .int .i64 0, .bool false, .bool false] 42 (0, 0)) bs cs k v wr)) (fun n _ _ => q - (intOf n).toNat)
            case atStart => exact ⟨0, Nat.zero_le _, rfl, HST.out⟩
            case round =>
              obtain ⟨k, hk, rfl, hat⟩ := hrel
              obtain ⟨hown, hbel, hx1, hx2, _, hB⟩ := hat.out
              have hlen : (bs ++ cs.take k).length = N + k := by rw [List.length_append, List.length_take, ← HN.out, ← HM.out]; omega
              rw [hlen] at hown
              obtain ⟨av, cv, rfl, hv1, hv2⟩ := owns_formP hown
              by_cases hlt : k < q
              · have hkM : (k : Int) < (M : Int) := by omega
                have hkR : ((N : Int) + (k : Int)) < 40000 := by have := HQ.out; omega
                obtain ⟨x, hx⟩ : ∃ x, cs[k]? = some x := ⟨_, List.getElem?_eq_getElem (by have := HM.out; omega)⟩
                obtain ⟨b1, o1, rfl, hc1⟩ := reads_byteP (Reads.below HRC.out hbel) hx
                have HAP : Hid _ := fun (w1 : World) (v' : Value) (o : Obj) h1 h2 => WAt.app (w1 := w1) (v' := v') (o := o) hat.out hx h1 h2
                rw [hlen] at HAP
                obtain ⟨xs, hxs⟩ : ∃ xs, xs = (bs ++ cs.take k).map U := ⟨_, rfl⟩
                rw [← hxs] at hown HAP
                generalize (x.toNat : Int) = xi at *
                clear hx hat hlen hxs hx1 hx2
                have hownA := hown.alloc (.cells #[.int .u8 xi] 5)
                clear hown
                go_wp2_with (at_builtin; refine wpList_append_own _ rfl (.tmp 37) (.tmp 42) 40 rfl (w.heap.size + 1 + 1) 5 i0 (.int .u8 0) 1 1 Try.underlying40 hi hi0 hi1 hi2 rfl (by decide) (.slice av (N + k) cv) (N + k) xs rfl hownA ⟨wr.heap.size, 0, none⟩ 1 1 [.int .u8 xi] rfl rfl ?c1v2 ?c2v2 ?c3v2 ?c4v2 ?c5v2 ?_)
                all_goals try
                  case c1v2 =>
                    intro j u hj
                    match j, hj with
                    | 0, hj => simp at hj; subst hj; simp [Addr.add]
                case c2v2 => first | rfl | (intro u hu; simp at hu; subst hu; rfl)
                case c3v2 => unfold maxLen; omega
                case c4v2 => omega
                case c5v2 => first | omega | (simp; omega)
                · intro v' w1 hown' hgrow _
                  have R : Hid _ := HAP.out w1 v' _ hown' hgrow
                  clear hown' hgrow hownA hbel hc1 HAP
                  go_wp2_with fail
                  go_roundw
                  case rel => exact ⟨k + 1, by omega, by go_num, R.out⟩
                  case measure => simp [intOf]; omega
              · have hkq : k = q := by omega
                obtain ⟨c0, c1, c2, c3⟩ := cells4P hx1
                obtain ⟨d0, d1, d2, d3⟩ := cells4P hx2
                obtain ⟨f0, f1, f2, f3⟩ := frz4P hx1
                obtain ⟨g0, g1, g2, g3⟩ := frz4P hx2
                have HRD : Hid _ := Reads.of_owns hown
                have HBE : Hid (Below w.heap.size w wr) := hbel
                have HV : Hid (∀ a, av = some a → w.heap.size + 1 + 1 ≤ a.block) := (show ∀ a, av = some a → w.heap.size + 1 + 1 ≤ a.block from fun a ha => (hown.lt a.block (by rw [ha]; rfl)).1)
                have HLEN : Hid _ := hlen
                have hkq1 : q ≤ k := by omega
                clear hat hown hbel hx1 hx2 hB hlen hlt hkq
                by_cases hkM : (k : Int) < (M : Int)
                · have hkR : ¬ ((N : Int) + (k : Int)) < 40000 := by have := HQ.out; omega
                  go_wp2_with fail
                  (try simp only [Exit.inBlock, Exit.then])
                  refine bodyPost_ret (v := .tuple #[.agg #[.slice av (N + k) cv, .int .i64 0, .bool false, .bool false], .int .i64 (k : Int), .int .i64 0]) ?_ rfl ?_
                  · rw [results_cell_tmp2P rfl]
                    go_simp
                  · have hkq : q = k := by omega
                    rw [HZ.out, hkq]
                    refine ⟨av, cv, ?_, ?_, ?_⟩
                    · unfold pipeV
                      simp only
                      rw [HLEN.out]
                    · show Reads _ (.slice av (bs ++ cs.take k).length cv) (bs ++ cs.take k).length ((bs ++ cs.take k).map U)
                      rw [HLEN.out]
                      repeat (first | refine readsSetP ?_ (fun a ha => by have := HV.out a ha; omega) _ | exact HRD.out)
                    · repeat (first | refine Below.setCell ?_ (by simp) _ | exact HBE.out)
                · go_wp2_with fail
                  (try simp only [Exit.inBlock, Exit.then])
                  refine bodyPost_ret (v := .tuple #[.agg #[.slice av (N + k) cv, .int .i64 0, .bool false, .bool false], .int .i64 (k : Int), .int .i64 0]) ?_ rfl ?_
                  · rw [results_cell_tmp2P rfl]
                    go_simp
                  · have hkq : q = k := by omega
                    rw [HZ.out, hkq]
                    refine ⟨av, cv, ?_, ?_, ?_⟩
                    · unfold pipeV
                      simp only
                      rw [HLEN.out]
                    · show Reads _ (.slice av (bs ++ cs.take k).length cv) (bs ++ cs.take k).length ((bs ++ cs.take k).map U)
                      rw [HLEN.out]
                      repeat (first | refine readsSetP ?_ (fun a ha => by have := HV.out a ha; omega) _ | exact HRD.out)
                    · repeat (first | refine Below.setCell ?_ (by simp) _ | exact HBE.out)
      · have hl : plim room = room := by unfold plim; rw [if_neg hz]
        rw [hl] at HQ hr3 hlim
        clear hl hlim
        cases ab with
        | none =>
          obtain ⟨rfl, hb0⟩ : N = 0 ∧ bs = [] := nil_lenP HR.out HN.out
          have HB0 : Hid (bs = []) := hb0
          have hmade : (((w.alloc (.cells #[.slice none 0 cap, .int .i64 room, .bool false, .bool false] 42)).alloc (.cells #[.slice none 0 0, .int .i64 0, .bool false, .bool false] 42)).alloc (.cells #[] 5)).ownsRow (w.heap.size + 1 + 1) 5 1 (.slice (some ⟨w.heap.size + 1 + 1, 0, none⟩) 0 0) 0 [] := by
            have h := World.ownsRow_made (base := w.heap.size + 1 + 1) (e := 5) (size := 1) ((w.alloc (.cells #[.slice none 0 cap, .int .i64 room, .bool false, .bool false] 42)).alloc (.cells #[.slice none 0 0, .int .i64 0, .bool false, .bool false] 42)) #[] 0 (by simp) (Nat.zero_le _) rfl
            have hs : ((w.alloc (.cells #[.slice none 0 cap, .int .i64 room, .bool false, .bool false] 42)).alloc (.cells #[.slice none 0 0, .int .i64 0, .bool false, .bool false] 42)).heap.size = w.heap.size + 1 + 1 := by simp
            rw [hs] at h
            exact h
          clear HR hb0
          go_enter Try.func18, Try.ntmps18
          go_wp2_with (at_builtin; refine append_nil_ownP rfl _ _ 40 rfl (w.heap.size + 1 + 1) 5 i0 1 cap Try.underlying40 hi _ _ _ rfl hmade rfl ?_)
          have HST : Hid (WAt w (w.heap.size + 1 + 1) (.cells #[.slice none 0 cap, .int .i64 room, .bool false, .bool false] 42 (0, 0)) (.cells #[.slice none 0 0, .int .i64 0, .bool false, .bool false] 42 (0, 0)) bs cs 0 (.slice (some ⟨w.heap.size + 1 + 1, 0, none⟩) 0 0) _) := WAt.start (cs := cs) ((Below.refl (w.heap.size + 1 + 1) _).alloc (by simp) _) hmade (by rw [HB0.out]; rfl) HN.out
          clear hmade
          go_wp2_with fail
          go_loopw [8, 9] (fun n v wr => ∃ k : Nat, k ≤ q ∧ n = .int .i64 k ∧ Hid (WAt w (w.heap.size + 1 + 1) (.cells #[.slice none 0 cap, .int .i64 room, .bool false, .bool false] 42 (0, 0)) (.cells #[.slice none 0 0, .int .i64 0, .bool false, .bool false] 42 (0, 0)) bs cs k v wr)) (fun n _ _ => q - (intOf n).toNat)
          case atStart => exact ⟨0, Nat.zero_le _, rfl, HST.out⟩
          case round =>
            obtain ⟨k, hk, rfl, hat⟩ := hrel
            obtain ⟨hown, hbel, hx1, hx2, _, hB⟩ := hat.out
            have hlen : (bs ++ cs.take k).length = k := by rw [List.length_append, List.length_take, ← HN.out, ← HM.out]; omega
            rw [hlen] at hown
            obtain ⟨av, cv, rfl, hv1, hv2⟩ := owns_formP hown
            by_cases hlt : k < q
            · have hkM : (k : Int) < (M : Int) := by omega
              have hkR : (k : Int) < room := by have := HQ.out; omega
              obtain ⟨x, hx⟩ : ∃ x, cs[k]? = some x := ⟨_, List.getElem?_eq_getElem (by have := HM.out; omega)⟩
              obtain ⟨b1, o1, rfl, hc1⟩ := reads_byteP (Reads.below HRC.out hbel) hx
              have HAP : Hid _ := fun (w1 : World) (v' : Value) (o : Obj) h1 h2 => WAt.app (w1 := w1) (v' := v') (o := o) hat.out hx h1 h2
              rw [hlen] at HAP
              obtain ⟨xs, hxs⟩ : ∃ xs, xs = (bs ++ cs.take k).map U := ⟨_, rfl⟩
              rw [← hxs] at hown HAP
              generalize (x.toNat : Int) = xi at *
              clear hx hat hlen hxs hx1 hx2
              have hownA := hown.alloc (.cells #[.int .u8 xi] 5)
              clear hown
              go_wp2_with (at_builtin; refine wpList_append_own _ rfl (.tmp 37) (.tmp 42) 40 rfl (w.heap.size + 1 + 1) 5 i0 (.int .u8 0) 1 1 Try.underlying40 hi hi0 hi1 hi2 rfl (by decide) (.slice av (k) cv) (k) xs rfl hownA ⟨wr.heap.size, 0, none⟩ 1 1 [.int .u8 xi] rfl rfl ?c1v3 ?c2v3 ?c3v3 ?c4v3 ?c5v3 ?_)
              all_goals try
                case c1v3 =>
                  intro j u hj
                  match j, hj with
                  | 0, hj => simp at hj; subst hj; simp [Addr.add]
              case c2v3 => first | rfl | (intro u hu; simp at hu; subst hu; rfl)
              case c3v3 => unfold maxLen; omega
              case c4v3 => omega
              case c5v3 => first | omega | (simp; omega)
              · intro v' w1 hown' hgrow _
                have R : Hid _ := HAP.out w1 v' _ hown' hgrow
                clear hown' hgrow hownA hbel hc1 HAP
                go_wp2_with fail
                go_roundw
                case rel => exact ⟨k + 1, by omega, by go_num, R.out⟩
                case measure => simp [intOf]; omega
            · have hkq : k = q := by omega
              obtain ⟨c0, c1, c2, c3⟩ := cells4P hx1
              obtain ⟨d0, d1, d2, d3⟩ := cells4P hx2
              obtain ⟨f0, f1, f2, f3⟩ := frz4P hx1
              obtain ⟨g0, g1, g2, g3⟩ := frz4P hx2
              have HRD : Hid _ := Reads.of_owns hown
              have HBE : Hid (Below w.heap.size w wr) := hbel
              have HV : Hid (∀ a, av = some a → w.heap.size + 1 + 1 ≤ a.block) := (show ∀ a, av = some a → w.heap.size + 1 + 1 ≤ a.block from fun a ha => (hown.lt a.block (by rw [ha]; rfl)).1)
              have HLEN : Hid _ := hlen
              have hkq1 : q ≤ k := by omega
              clear hat hown hbel hx1 hx2 hB hlen hlt hkq
              by_cases hkM : (k : Int) < (M : Int)
              · have hkR : ¬ (k : Int) < room := by have := HQ.out; omega
                go_wp2_with fail
                (try simp only [Exit.inBlock, Exit.then])
                refine bodyPost_ret (v := .tuple #[.agg #[.slice av (k) cv, .int .i64 room, .bool false, .bool false], .int .i64 (k : Int), .int .i64 0]) ?_ rfl ?_
                · rw [results_cell_tmp2P rfl]
                  go_simp
                · have hkq : q = k := by omega
                  rw [HZ.out, hkq]
                  refine ⟨av, cv, ?_, ?_, ?_⟩
                  · unfold pipeV
                    simp only
                    rw [HLEN.out]
                  · show Reads _ (.slice av (bs ++ cs.take k).length cv) (bs ++ cs.take k).length ((bs ++ cs.take k).map U)
                    rw [HLEN.out]
                    repeat (first | refine readsSetP ?_ (fun a ha => by have := HV.out a ha; omega) _ | exact HRD.out)
                  · repeat (first | refine Below.setCell ?_ (by simp) _ | exact HBE.out)
              · go_wp2_with fail
                (try simp only [Exit.inBlock, Exit.then])
                refine bodyPost_ret (v := .tuple #[.agg #[.slice av (k) cv, .int .i64 room, .bool false, .bool false], .int .i64 (k : Int), .int .i64 0]) ?_ rfl ?_
                · rw [results_cell_tmp2P rfl]
                  go_simp
                · have hkq : q = k := by omega
                  rw [HZ.out, hkq]
                  refine ⟨av, cv, ?_, ?_, ?_⟩
                  · unfold pipeV
                    simp only
                    rw [HLEN.out]
                  · show Reads _ (.slice av (bs ++ cs.take k).length cv) (bs ++ cs.take k).length ((bs ++ cs.take k).map U)
                    rw [HLEN.out]
                    repeat (first | refine readsSetP ?_ (fun a ha => by have := HV.out a ha; omega) _ | exact HRD.out)
                  · repeat (first | refine Below.setCell ?_ (by simp) _ | exact HBE.out)
        | some a =>
          go_enter Try.func18, Try.ntmps18
          obtain ⟨xs, hxs⟩ : ∃ xs, xs = bs.map U := ⟨_, rfl⟩
          have HXS : Hid (xs = bs.map U) := hxs
          have HXL : Hid (xs.length = N) := (show _ = _ by rw [hxs, List.length_map, HN.out])
          have HC : Hid (∀ W, Below w.heap.size w W → ∀ j u, xs[j]? = some u → W.cell? (a.add j) = some u) := (show ∀ W, Below w.heap.size w W → ∀ j u, xs[j]? = some u → W.cell? (a.add j) = some u from fun W hW j u hj => by
            rw [hxs] at hj
            have hlt : j < bs.length := by simpa using (List.getElem?_eq_some_iff.1 hj).1
            obtain ⟨ad, e, h⟩ := srcP (Reads.below HR.out hW) (k := bs.length) (by rw [List.take_length]; omega)
            injection e with e
            subst e
            rw [List.take_length] at h
            exact h j u hj)
          have hmade : (((w.alloc (.cells #[.slice (some a) N cap, .int .i64 room, .bool false, .bool false] 42)).alloc (.cells #[.slice none 0 0, .int .i64 0, .bool false, .bool false] 42)).alloc (.cells #[] 5)).ownsRow (w.heap.size + 1 + 1) 5 1 (.slice (some ⟨w.heap.size + 1 + 1, 0, none⟩) 0 0) 0 [] := by
            have h := World.ownsRow_made (base := w.heap.size + 1 + 1) (e := 5) (size := 1) ((w.alloc (.cells #[.slice (some a) N cap, .int .i64 room, .bool false, .bool false] 42)).alloc (.cells #[.slice none 0 0, .int .i64 0, .bool false, .bool false] 42)) #[] 0 (by simp) (Nat.zero_le _) rfl
            have hs : ((w.alloc (.cells #[.slice (some a) N cap, .int .i64 room, .bool false, .bool false] 42)).alloc (.cells #[.slice none 0 0, .int .i64 0, .bool false, .bool false] 42)).heap.size = w.heap.size + 1 + 1 := by simp
            rw [hs] at h
            exact h
          clear hxs HR
          go_wp2_with (at_builtin; refine wpList_append_own _ rfl _ _ 40 rfl (w.heap.size + 1 + 1) 5 i0 (.int .u8 0) 1 1 Try.underlying40 hi hi0 hi1 hi2 rfl (by decide) _ _ _ rfl hmade a N cap xs rfl ?qc1v4 ?qc2v4 ?qc3v4 ?qc4v4 ?qc5v4 ?qc6v4 ?_)
          case qc1v4 => first | (rw [HXL.out]; done) | (rw [HXL.out, Nat.mul_one])
          case qc2v4 => exact HC.out _ (boxr2P.alloc (by simp; omega) _)
          case qc3v4 => rw [HXS.out]; exact U_oneP
          case qc4v4 => unfold maxLen; omega
          case qc5v4 => omega
          all_goals try (case qc6v4 => simp)
          · intro v' w1 hown hg hnil
            have HST : Hid (WAt w (w.heap.size + 1 + 1) (.cells #[.slice (some a) N cap, .int .i64 room, .bool false, .bool false] 42 (0, 0)) (.cells #[.slice none 0 0, .int .i64 0, .bool false, .bool false] 42 (0, 0)) bs cs 0 v' w1) := WAt.start (cs := cs) (((Below.refl (w.heap.size + 1 + 1) _).alloc (by simp) _).grown hg (by simp) (fun k hk => by have h : some (w.heap.size + 1 + 1) = some k := hk; injection h with h; omega)) hown HXS.out HN.out
            clear hown hg hnil HC hmade
            go_wp2_with fail
            go_loopw [8, 9] (fun n v wr => ∃ k : Nat, k ≤ q ∧ n = .int .i64 k ∧ Hid (WAt w (w.heap.size + 1 + 1) (.cells #[.slice (some a) N cap, .int .i64 room, .bool false, .bool false] 42 (0, 0)) (.cells #[.slice none 0 0, .int .i64 0, .bool false, .bool false] 42 (0, 0)) bs cs k v wr)) (fun n _ _ => q - (intOf n).toNat)
            case atStart => exact ⟨0, Nat.zero_le _, rfl, HST.out⟩
            case round =>
              obtain ⟨k, hk, rfl, hat⟩ := hrel
              obtain ⟨hown, hbel, hx1, hx2, _, hB⟩ := hat.out
              have hlen : (bs ++ cs.take k).length = N + k := by rw [List.length_append, List.length_take, ← HN.out, ← HM.out]; omega
              rw [hlen] at hown
              obtain ⟨av, cv, rfl, hv1, hv2⟩ := owns_formP hown
              by_cases hlt : k < q
              · have hkM : (k : Int) < (M : Int) := by omega
                have hkR : ((N : Int) + (k : Int)) < room := by have := HQ.out; omega
                obtain ⟨x, hx⟩ : ∃ x, cs[k]? = some x := ⟨_, List.getElem?_eq_getElem (by have := HM.out; omega)⟩
                obtain ⟨b1, o1, rfl, hc1⟩ := reads_byteP (Reads.below HRC.out hbel) hx
                have HAP : Hid _ := fun (w1 : World) (v' : Value) (o : Obj) h1 h2 => WAt.app (w1 := w1) (v' := v') (o := o) hat.out hx h1 h2
                rw [hlen] at HAP
                obtain ⟨xs, hxs⟩ : ∃ xs, xs = (bs ++ cs.take k).map U := ⟨_, rfl⟩
                rw [← hxs] at hown HAP
                generalize (x.toNat : Int) = xi at *
                clear hx hat hlen hxs hx1 hx2
                have hownA := hown.alloc (.cells #[.int .u8 xi] 5)
                clear hown
                go_wp2_with (at_builtin; refine wpList_append_own _ rfl (.tmp 37) (.tmp 42) 40 rfl (w.heap.size + 1 + 1) 5 i0 (.int .u8 0) 1 1 Try.underlying40 hi hi0 hi1 hi2 rfl (by decide) (.slice av (N + k) cv) (N + k) xs rfl hownA ⟨wr.heap.size, 0, none⟩ 1 1 [.int .u8 xi] rfl rfl ?c1v4 ?c2v4 ?c3v4 ?c4v4 ?c5v4 ?_)
                all_goals try
                  case c1v4 =>
                    intro j u hj
                    match j, hj with
                    | 0, hj => simp at hj; subst hj; simp [Addr.add]
                case c2v4 => first | rfl | (intro u hu; simp at hu; subst hu; rfl)
                case c3v4 => unfold maxLen; omega
                case c4v4 => omega
                case c5v4 => first | omega | (simp; omega)
                · intro v' w1 hown' hgrow _
                  have R : Hid _ := HAP.out w1 v' _ hown' hgrow
                  clear hown' hgrow hownA hbel hc1 HAP
                  go_wp2_with fail
                  go_roundw
                  case rel => exact ⟨k + 1, by omega, by go_num, R.out⟩
                  case measure => simp [intOf]; omega
              · have hkq : k = q := by omega
                obtain ⟨c0, c1, c2, c3⟩ := cells4P hx1
                obtain ⟨d0, d1, d2, d3⟩ := cells4P hx2
                obtain ⟨f0, f1, f2, f3⟩ := frz4P hx1
                obtain ⟨g0, g1, g2, g3⟩ := frz4P hx2
                have HRD : Hid _ := Reads.of_owns hown
                have HBE : Hid (Below w.heap.size w wr) := hbel
                have HV : Hid (∀ a, av = some a → w.heap.size + 1 + 1 ≤ a.block) := (show ∀ a, av = some a → w.heap.size + 1 + 1 ≤ a.block from fun a ha => (hown.lt a.block (by rw [ha]; rfl)).1)
                have HLEN : Hid _ := hlen
                have hkq1 : q ≤ k := by omega
                clear hat hown hbel hx1 hx2 hB hlen hlt hkq
                by_cases hkM : (k : Int) < (M : Int)
                · have hkR : ¬ ((N : Int) + (k : Int)) < room := by have := HQ.out; omega
                  go_wp2_with fail
                  (try simp only [Exit.inBlock, Exit.then])
                  refine bodyPost_ret (v := .tuple #[.agg #[.slice av (N + k) cv, .int .i64 room, .bool false, .bool false], .int .i64 (k : Int), .int .i64 0]) ?_ rfl ?_
                  · rw [results_cell_tmp2P rfl]
                    go_simp
                  · have hkq : q = k := by omega
                    rw [HZ.out, hkq]
                    refine ⟨av, cv, ?_, ?_, ?_⟩
                    · unfold pipeV
                      simp only
                      rw [HLEN.out]
                    · show Reads _ (.slice av (bs ++ cs.take k).length cv) (bs ++ cs.take k).length ((bs ++ cs.take k).map U)
                      rw [HLEN.out]
                      repeat (first | refine readsSetP ?_ (fun a ha => by have := HV.out a ha; omega) _ | exact HRD.out)
                    · repeat (first | refine Below.setCell ?_ (by simp) _ | exact HBE.out)
                · go_wp2_with fail
                  (try simp only [Exit.inBlock, Exit.then])
                  refine bodyPost_ret (v := .tuple #[.agg #[.slice av (N + k) cv, .int .i64 room, .bool false, .bool false], .int .i64 (k : Int), .int .i64 0]) ?_ rfl ?_
                  · rw [results_cell_tmp2P rfl]
                    go_simp
                  · have hkq : q = k := by omega
                    rw [HZ.out, hkq]
                    refine ⟨av, cv, ?_, ?_, ?_⟩
                    · unfold pipeV
                      simp only
                      rw [HLEN.out]
                    · show Reads _ (.slice av (bs ++ cs.take k).length cv) (bs ++ cs.take k).length ((bs ++ cs.take k).map U)
                      rw [HLEN.out]
                      repeat (first | refine readsSetP ?_ (fun a ha => by have := HV.out a ha; omega) _ | exact HRD.out)
                    · repeat (first | refine Below.setCell ?_ (by simp) _ | exact HBE.out)
end Go.Proofs.Ytobaeafhdgolmab
