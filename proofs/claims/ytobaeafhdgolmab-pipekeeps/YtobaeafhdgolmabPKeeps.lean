/- The walk of PipeKeeps: it returns true. -/
import Derived.Test.YtobaeafhdgolmabPKBase
namespace Go.Proofs.Ytobaeafhdgolmab
open Go.RowKit Go.Gs
set_option linter.unusedVariables false

def IV (z : Int) : Value := .int .i64 z
theorem reads_atP {w : World} {ao : Option Addr} {n cap : Nat} {ks : List Int} (h : Reads w (.slice ao n cap) n (ks.map IV)) {k : Nat} {c : Int} (hk : ks[k]? = some c) :
    ∃ b off, ao = some ⟨b, off, none⟩ ∧ w.cell? ⟨b, off + k, none⟩ = some (.int .i64 c) := by
  obtain ⟨h1, ao', cap', e, _, _, h5⟩ := h
  injection e with e1 e2 e3
  subst e1
  obtain ⟨hkl, _⟩ := List.getElem?_eq_some_iff.1 hk
  rw [List.length_map] at h1
  obtain ⟨b, off, hao, hc⟩ := h5 (by omega)
  exact ⟨b, off, hao, hc k (IV c) (by rw [List.getElem?_map, hk]; rfl)⟩

set_option maxRecDepth 100000 in
set_option maxHeartbeats 80000000 in
theorem pipeKeeps_walk (room : Int) (ob os : Option Addr) (cb cs : Nat) (bs : List UInt8) (ks : List Int) (w : World) (hb : Reads w (.slice ob bs.length cb) bs.length (bs.map U)) (hzb : ob = none → cb = 0) (hk : Reads w (.slice os ks.length cs) ks.length (ks.map IV)) (hks : ∀ z ∈ ks, -9223372036854775808 ≤ z ∧ z ≤ 9223372036854775807) :
    Calls Try.prog 5 #[.int .i64 room, .slice ob bs.length cb, .slice os ks.length cs] w fun e w' => e = .returned (.bool true) ∧ Below w.heap.size w w' := by
  have hbl := reads_leP hb
  have hkl := reads_leP hk
  have HRB : Hid _ := fun (W : World) (hW : Below w.heap.size w W) => Reads.below hb hW
  have HRK : Hid _ := fun (W : World) (hW : Below w.heap.size w W) => Reads.below hk hW
  have HKS : Hid _ := hks
  have HN : Hid _ := new_is room w
  have HPI : Hid _ := fun (W : World) => piped_true W
  obtain ⟨N, hN⟩ : ∃ N, N = bs.length := ⟨_, rfl⟩
  obtain ⟨S0, hS⟩ : ∃ S, S = ks.length := ⟨_, rfl⟩
  have HN0 : Hid (N = bs.length) := hN
  have HS0 : Hid (S0 = ks.length) := hS
  rw [← hN] at HRB hbl ⊢
  rw [← hS] at HRK hkl ⊢
  clear hb hk hks hN hS
  by_cases hroom : room < 0 ∨ 1000 < room
  · rw [pnew_rangeP hroom] at HN
    go_enter Try.func5, Try.ntmps5
    go_wp2_with fail
    refine Calls.mono HN.out ?_
    rintro e w1 ⟨rfl, hb1⟩
    have HB1 : Hid (Below w.heap.size w w1) := hb1
    clear hb1 HN
    unfold pipeV zeroP
    go_wp2_with fail
    refine Calls.mono (HPI.out _) ?_
    rintro e w2 ⟨rfl, hb2⟩
    have HB2 : Hid (Below w.heap.size w w2) := (HB1.out.alloc HB1.out.size _).trans (hb2.mono (by have := HB1.out.size; simp; omega))
    clear hb2
    go_wp2_with fail
    refine Calls.mono (HPI.out _) ?_
    rintro e w3 ⟨rfl, hb3⟩
    have HB3 : Hid (Below w.heap.size w w3) := HB2.out.trans (hb3.mono HB2.out.size)
    clear hb3
    go_wp2_with fail
    go_ret
    exact ⟨rfl, HB3.out⟩
  · rw [pnew_okP hroom] at HN
    have HRM : Hid (pck 0 room false = 0) := pck_open hroom (by unfold plim; split <;> omega)
    go_enter Try.func5, Try.ntmps5
    go_wp2_with fail
    refine Calls.mono HN.out ?_
    rintro e w1 ⟨rfl, hb1⟩
    have HB1 : Hid (Below w.heap.size w w1) := hb1
    have X1 := heap_alloc_new w1 (.cells #[.slice none 0 0, .int .i64 room, .bool false, .bool false] 42)
    have HX1 : Hid _ := X1
    clear hb1 HN X1
    unfold pipeV
    go_wp2_with fail
    refine Calls.mono (HPI.out _) ?_
    rintro e w2 ⟨rfl, hb2⟩
    have HK0 : Hid (KA w w1.heap.size (bs.take 200) room 0 (.slice none 0 0) w2 [] [] none 0) := (show KA w w1.heap.size (bs.take 200) room 0 (.slice none 0 0) w2 [] [] none 0 from
      ⟨(hb2.block _ (by simp)).trans HX1.out, (PB.none w _).1, (fun _ => rfl), World.ownsRow_nil _ _ _ _, by simp, Nat.zero_le _, HRM.out, (HB1.out.alloc HB1.out.size _).trans (hb2.mono (by have := HB1.out.size; simp; omega)), HB1.out.size, fun h => absurd rfl h⟩)
    clear hb2 HX1 HB1 HPI HRM
    obtain ⟨NB, hNB⟩ : ∃ NB, NB = min N 200 := ⟨_, rfl⟩
    obtain ⟨S, hSS⟩ : ∃ S, S = min S0 60 := ⟨_, rfl⟩
    have HNB : Hid (NB = (bs.take 200).length) := (show _ = _ by rw [List.length_take, ← HN0.out, hNB, Nat.min_comm])
    have HRB2 : Hid (∀ W, Below w.heap.size w W → Reads W (.slice ob NB cb) NB ((bs.take 200).map U)) := (show ∀ W, Below w.heap.size w W → Reads W (.slice ob NB cb) NB ((bs.take 200).map U) from fun W hW => by
      have h := reads_takeP (k := NB) (HRB.out W hW) (by omega)
      have e : bs.take NB = bs.take 200 := by
        rw [hNB, HN0.out, Nat.min_comm, ← List.take_take, List.take_length]
      rw [e] at h
      exact h)
    have HNB2 : Hid (NB = min N 200) := hNB
    have HS2 : Hid (S = min S0 60) := hSS
    have hNB200 : NB ≤ 200 := by omega
    have hS60 : S ≤ 60 := by omega
    have hNBc : NB ≤ cb := by omega
    have hSS0 : S ≤ S0 := by omega
    clear hNB hSS HRB
    go_upto_region 4 with fail
    go_cut [1] (fun z wx => z = .slice ob NB cb ∧ w2 = wx)
    case first =>
      go_wp2_with fail
      go_meet
      exact ⟨by have := HNB2.out; congr 1; omega, rfl⟩
    case rest =>
      obtain ⟨rfl, rfl⟩ := hcut
      go_upto_region 6 with fail
      go_cut [41, 42, 43] (fun z1 z2 z3 wx => z1 = .slice os S cs ∧ z2 = .int .i64 S ∧ z3 = .int .i64 0 ∧ w2 = wx)
      case first =>
        go_wp2_with fail
        go_meet
        exact ⟨by have := HS2.out; congr 1; omega, by have := HS2.out; congr 1; omega, rfl, rfl⟩
      case rest =>
        obtain ⟨rfl, rfl, rfl, rfl⟩ := hcut
        obtain ⟨B, hB⟩ : ∃ B, B = bs.take 200 := ⟨_, rfl⟩
        rw [← hB] at HNB HRB2 HK0
        clear hB HNB2 HN0
        go_wp2_with fail
        go_loopw [9, 10, 43] (fun s v i wr => ∃ (j sn : Nat), j ≤ S ∧ i = .int .i64 j ∧ s = .int .i64 sn ∧ ∃ pb G ab cap, Hid (KA w w1.heap.size B room sn v wr pb G ab cap)) (fun _ _ i _ => S - (intOf i).toNat)
        case atStart => exact ⟨0, 0, Nat.zero_le _, rfl, rfl, [], [], none, 0, HK0.out⟩
        case round =>
          obtain ⟨j, sn, hj, rfl, rfl, pb, G, ab, cap, hK⟩ := hrel
          by_cases hlt : j < S
          · obtain ⟨z, hz⟩ : ∃ z, ks[j]? = some z := ⟨_, List.getElem?_eq_getElem (by have := HS0.out; omega)⟩
            obtain ⟨b1, o1, rfl, hc1⟩ := reads_atP (HRK.out wr hK.out.bel) hz
            obtain ⟨hz1, hz2⟩ := HKS.out z (List.mem_of_getElem? hz)
            have hAT : Calls Try.prog 20 #[.int .i64 z, .int .i64 9] wr fun e w' => ∃ m : Nat, m < 9 ∧ e = .returned (.int .i64 m) ∧ w' = wr := at_is z 9 wr hz1 hz2 (by omega) (by omega)
            have HAT : Hid _ := hAT
            have hsn : sn ≤ NB := by have := hK.out.le; have := HNB.out; omega
            have hpb : G.length + pb.length = sn := hK.out.len
            obtain ⟨c0, c1, c2, c3⟩ := cells4P hK.out.box
            clear hz hAT hbl hkl HS0
            go_wp2_with fail
            refine Calls.mono HAT.out ?_
            rintro e w3 ⟨n, hn9, rfl, hw3⟩
            obtain rfl : wr = w3 := hw3.symm
            clear hw3 HAT hc1
            go_upto_if 51 with fail
            go_cut [9, 10] (fun z1 z2 wx => ∃ (s6 : Nat) (G6 pb6 : List UInt8) (ab6 : Option Addr) (cap6 : Nat) (av6 : Option Addr) (cv6 : Nat), z1 = .int .i64 (s6 : Int) ∧ z2 = .slice av6 G6.length cv6 ∧ Hid (KA w w1.heap.size B room s6 (.slice av6 G6.length cv6) wx pb6 G6 ab6 cap6))
            case first =>
              by_cases he : z.tmod 2 = 0
              · obtain ⟨av, cv, rfl, hv1, hv2⟩ := owns_formP hK.out.own
                obtain ⟨t, ht⟩ : ∃ t, t = min NB (sn + n) - sn := ⟨_, rfl⟩
                obtain ⟨q, hq⟩ : ∃ q, q = pfit (offerP B sn n).length pb.length room := ⟨_, rfl⟩
                have hol : (offerP B sn n).length = t := by rw [offer_len hK.out.le, ht, HNB.out]
                have HT : Hid (t = min NB (sn + n) - sn) := ht
                have hqt : q ≤ t := by rw [hq, ← hol]; exact pfit_le
                have HW : Hid (∀ (W : World) (ao : Option Addr) (co : Nat), Below wr.heap.size wr W → Reads W (.slice ao t co) t ((offerP B sn n).map U) → Calls Try.prog 9 #[.agg #[.slice ab pb.length cap, .int .i64 room, .bool false, .bool false], .slice ao t co] W fun e w' => ∃ ar cr, e = .returned (.tuple #[.agg #[.slice ar (pb ++ (offerP B sn n).take q).length cr, .int .i64 room, .bool false, .bool false], .int .i64 (q : Int), .int .i64 0]) ∧ PB W w' ar cr (pb ++ (offerP B sn n).take q) ∧ Below W.heap.size W w') := (show ∀ (W : World) (ao : Option Addr) (co : Nat), Below wr.heap.size wr W → Reads W (.slice ao t co) t ((offerP B sn n).map U) → Calls Try.prog 9 #[.agg #[.slice ab pb.length cap, .int .i64 room, .bool false, .bool false], .slice ao t co] W fun e w' => ∃ ar cr, e = .returned (.tuple #[.agg #[.slice ar (pb ++ (offerP B sn n).take q).length cr, .int .i64 room, .bool false, .bool false], .int .i64 (q : Int), .int .i64 0]) ∧ PB W w' ar cr (pb ++ (offerP B sn n).take q) ∧ Below W.heap.size W w' from fun W ao co hW hr => by
                  have h := write_is ab ao cap co ⟨pb, room, false, false⟩ (offerP B sn n) W (Reads.below hK.out.rds hW) (by rw [hol]; exact hr)
                  rw [pwrite_goodP hK.out.chk, hol] at h
                  rw [hol] at hq
                  rw [← hq] at h
                  exact h)
                have HQ : Hid (q = pfit (offerP B sn n).length pb.length room) := hq
                have HOL : Hid _ := hol
                have HZ : Hid (G ++ (pb ++ (offerP B sn n).take q) = B.take (sn + q)) := offer_step hK.out.le hK.out.eq (by rw [hol]; exact hqt)
                have HCK : Hid (pck (pb ++ (offerP B sn n).take q).length room false = 0) := (show _ = _ by
                  have h := pck_moreP (m := (offerP B sn n).length) hK.out.chk
                  rw [← hq] at h
                  rw [List.length_append, List.length_take, hol, Nat.min_eq_left hqt]
                  exact h)
                have hlp : (pb ++ (offerP B sn n).take q).length = pb.length + q := by rw [List.length_append, List.length_take, hol, Nat.min_eq_left hqt]
                have HLP : Hid _ := hlp
                obtain ⟨pb2, hpb2⟩ : ∃ x, x = pb ++ (offerP B sn n).take q := ⟨_, rfl⟩
                rw [← hpb2] at HW HZ HCK HLP
                clear ht hq hol hlp hpb2
                have hKl : w1.heap.size < wr.heap.size := heap_ltP hK.out.box
                have hKn : ¬ w1.heap.size = wr.heap.size := by omega
                have ca0 : ∀ o, (wr.drew.alloc o).cell? ⟨w1.heap.size, 0, none⟩ = some (.slice ab pb.length cap) := fun o => (((drewP wr).alloc (Nat.le_refl _) o).cell (World.block_lt_of_cell? wr _ c0)).trans c0
                have ca1 : ∀ o, (wr.drew.alloc o).cell? ⟨w1.heap.size, 1, none⟩ = some (.int .i64 room) := fun o => (((drewP wr).alloc (Nat.le_refl _) o).cell (World.block_lt_of_cell? wr _ c1)).trans c1
                have ca2 : ∀ o, (wr.drew.alloc o).cell? ⟨w1.heap.size, 2, none⟩ = some (.bool false) := fun o => (((drewP wr).alloc (Nat.le_refl _) o).cell (World.block_lt_of_cell? wr _ c2)).trans c2
                have ca3 : ∀ o, (wr.drew.alloc o).cell? ⟨w1.heap.size, 3, none⟩ = some (.bool false) := fun o => (((drewP wr).alloc (Nat.le_refl _) o).cell (World.block_lt_of_cell? wr _ c3)).trans c3
                go_upto_region 11 with fail
                go_cut [14, 15, 16] (fun z1 z2 z3 wx => ∃ (kb : Nat) (aq : Option Addr) (cq : Nat), z1 = .pointer (some ⟨kb, 0, none⟩) ∧ z2 = .int .i64 (q : Int) ∧ z3 = .int .i64 0 ∧ Hid (KW wr wx kb aq cq room pb2))
                case first =>
                  have hmn : min (NB : Int) (IntKind.i64.wrap ((sn : Int) + (n : Int))) = ((sn + t : Nat) : Int) := by
                    have hw : IntKind.i64.wrap ((sn : Int) + (n : Int)) = (sn : Int) + (n : Int) := by rw [IntKind.wrap_i64]; omega
                    rw [hw]
                    have := HT.out
                    omega
                  have hhc : sn + t ≤ cb := by have := HT.out; omega
                  rw [Int.natCast_add] at hmn
                  cases ob with
                  | none =>
                    obtain ⟨hNB0, hB0⟩ : NB = 0 ∧ B = [] := nil_lenP (HRB2.out wr hK.out.bel) HNB.out
                    obtain rfl : sn = 0 := by omega
                    obtain rfl : t = 0 := by have := HT.out; omega
                    subst hNB0
                    have hw0 : IntKind.i64.wrap (n : Int) = (n : Int) := by rw [IntKind.wrap_i64]; omega
                    have hmn0 : min (0 : Int) (IntKind.i64.wrap (n : Int)) = 0 := by rw [hw0]; exact Int.min_eq_left (Int.natCast_nonneg n)
                    clear hw0
                    have hcb : cb = 0 := hzb rfl
                    subst hcb
                    have HW2 : Hid _ := fun (W : World) (hW : Below wr.heap.size wr W) => HW.out W none (0) hW (offer_none HNB.out (Nat.le_refl _) rfl (by omega))
                    clear HW
                    go_region_with (refine Calls.mono (HW2.out _ ?_) ?_; (repeat (first | exact Below.refl _ _ | apply Below.drew | (refine Below.alloc ?_ (by simp) _))); rintro e w4 ⟨ar, cr, rfl, hp4, hb4⟩; have hce := below_cellP hb4; have hfr := below_frzP hb4)
                    all_goals first
                      | (have HKW : Hid _ := KW.late (room := room) hp4 hb4
                         clear hp4 hb4 hce hfr
                         go_wp2_with fail
                         go_meet
                         exact ⟨_, ar, cr, rfl, rfl, rfl, HKW.out⟩)
                      | (have HKW : Hid _ := KW.early (room := room) hp4 hb4
                         clear hp4 hb4 hce hfr
                         go_wp2_with fail
                         go_meet
                         exact ⟨_, ar, cr, rfl, rfl, rfl, HKW.out⟩)
                  | some a =>
                    by_cases hcap : cb = sn
                    · obtain rfl : t = 0 := by have := HT.out; omega
                      subst hcap
                      have HW2 : Hid _ := fun (W : World) (hW : Below wr.heap.size wr W) => HW.out W (some a) (0) hW (offer_none HNB.out (by omega) rfl (by omega))
                      clear HW
                      go_region_with (refine Calls.mono (HW2.out _ ?_) ?_; (repeat (first | exact Below.refl _ _ | apply Below.drew | (refine Below.alloc ?_ (by simp) _))); rintro e w4 ⟨ar, cr, rfl, hp4, hb4⟩; have hce := below_cellP hb4; have hfr := below_frzP hb4)
                      all_goals first
                        | (have HKW : Hid _ := KW.late (room := room) hp4 hb4
                           clear hp4 hb4 hce hfr
                           go_wp2_with fail
                           go_meet
                           exact ⟨_, ar, cr, rfl, rfl, rfl, HKW.out⟩)
                        | (have HKW : Hid _ := KW.early (room := room) hp4 hb4
                           clear hp4 hb4 hce hfr
                           go_wp2_with fail
                           go_meet
                           exact ⟨_, ar, cr, rfl, rfl, rfl, HKW.out⟩)
                    · have HW2 : Hid _ := fun (W : World) (hW : Below wr.heap.size wr W) => HW.out W (some (a.add sn)) (cb - sn) hW (by have h := offer_reads (n := n) (HRB2.out W (hK.out.bel.trans (hW.mono hK.out.bel.size))) HNB.out hsn; rw [← HT.out] at h; exact h)
                      clear HW
                      go_region_with (refine Calls.mono (HW2.out _ ?_) ?_; (repeat (first | exact Below.refl _ _ | apply Below.drew | (refine Below.alloc ?_ (by simp) _))); rintro e w4 ⟨ar, cr, rfl, hp4, hb4⟩; have hce := below_cellP hb4; have hfr := below_frzP hb4)
                      all_goals first
                        | (have HKW : Hid _ := KW.late (room := room) hp4 hb4
                           clear hp4 hb4 hce hfr
                           go_wp2_with fail
                           go_meet
                           exact ⟨_, ar, cr, rfl, rfl, rfl, HKW.out⟩)
                        | (have HKW : Hid _ := KW.early (room := room) hp4 hb4
                           clear hp4 hb4 hce hfr
                           go_wp2_with fail
                           go_meet
                           exact ⟨_, ar, cr, rfl, rfl, rfl, HKW.out⟩)
                case rest =>
                  obtain ⟨kb, aq, cq, rfl, rfl, rfl, HKW⟩ := hcut
                  have hsq : sn + q ≤ NB := by have := HT.out; omega
                  have HKA : Hid _ := KA.even (q := q) hK.out HKW.out HZ.out (by rw [← HNB.out]; exact hsq) HCK.out
                  have hk2 := hK.out.below HKW.out.2.2.1
                  obtain ⟨e0, e1, e2, e3⟩ := cells4P hk2.box
                  obtain ⟨f0, f1, f2, f3⟩ := frz4P hk2.box
                  obtain ⟨d0, d1, d2, d3⟩ := cells4P HKW.out.1
                  have hqn : ¬ ((NB : Int) - (sn : Int) < (q : Int)) := by omega
                  clear hk2 HKW hK HZ HCK HW c0 c1 c2 c3 ca0 ca1 ca2 ca3
                  go_wp2_with fail
                  go_meet
                  exact ⟨sn + q, G, pb2, aq, cq, av, cv, by go_num, rfl, HKA.out⟩
              · obtain ⟨av, cv, rfl, hv1, hv2⟩ := owns_formP hK.out.own
                obtain ⟨m, hm⟩ : ∃ m, m = min n pb.length := ⟨_, rfl⟩
                have hR := read_is ab cap ⟨pb, room, false, false⟩ (n : Int) wr hK.out.rds hK.out.nil
                rw [pread_goodP hK.out.chk (by omega), ← hm] at hR
                obtain ⟨pd, hpd⟩ : ∃ x, x = pb.drop m := ⟨_, rfl⟩
                obtain ⟨pt, hpt⟩ : ∃ x, x = pb.take m := ⟨_, rfl⟩
                rw [← hpd, ← hpt] at hR
                have HPD : Hid (pd = pb.drop m) := hpd
                have HPT : Hid (pt = pb.take m) := hpt
                have hptl : pt.length = m := by rw [hpt, List.length_take]; omega
                have hmn : ¬ ((n : Int) < (pt.length : Int)) := by omega
                have hpt9 : pt.length ≤ 9 := by omega
                unfold pipeV at hR
                simp only at hR
                have HR : Hid _ := hR
                clear hR hpd hpt hm hptl
                go_wp2_with fail
                refine Calls.mono HR.out ?_
                rintro e w4 ⟨ar, cr, ag, cg, rfl, hp4, hg4, hb4⟩
                have HW4 : Hid (Below wr.heap.size wr w4) := hb4
                have hs4 : wr.heap.size ≤ w4.heap.size := hb4.size
                have HBW : Hid (Below wr.heap.size wr (w4.alloc (.cells #[.slice ar pd.length cr, .int .i64 room, .bool false, .bool false] 42))) := hb4.alloc hb4.size _
                have HP4 : Hid (PB wr w4 ar cr pd) := hp4
                have HG4 : Hid (PB wr w4 ag cg pt) := hg4
                have HOD : Hid (∀ (W W5 : World) (v5 : Value), Below w4.heap.size w4 W → W5.ownsRow (w1.heap.size + 1) 5 1 v5 (G.length + pt.length) (G.map U ++ pt.map U) → W.grownBy W5 (Value.slice av G.length cv).ownBlock → (v5.ownBlock = (Value.slice av G.length cv).ownBlock ∨ v5.ownBlock = some W.heap.size) → W5.heap[w1.heap.size]? = some (.cells #[.slice ab pb.length cap, .int .i64 room, .bool false, .bool false] 42 (0, 0)) ∧ KA w w1.heap.size B room sn v5 ((((W5.setCell ⟨w1.heap.size, 0, none⟩ (.slice ar pd.length cr)).setCell ⟨w1.heap.size, 1, none⟩ (.int .i64 room)).setCell ⟨w1.heap.size, 2, none⟩ (.bool false)).setCell ⟨w1.heap.size, 3, none⟩ (.bool false)) pd (G ++ pt) ar cr) := (show ∀ (W W5 : World) (v5 : Value), _ → _ → _ → _ → _ from fun W W5 v5 hW ho hgr hbl => by
                  have hp5 : PB wr W ar cr (pb.drop m) := by rw [← HPD.out]; exact PB.belP HP4.out hW
                  have h := KA.odd (m := m) (v5 := v5) hK.out (HW4.out.trans (hW.mono HW4.out.size)) hp5 (by rw [← HPT.out, List.length_append, List.map_append]; exact ho) hgr hbl
                  rw [← HPD.out, ← HPT.out] at h
                  exact h)
                have HOW : Hid _ := fun (W : World) (hW : Below wr.heap.size wr W) => (hK.out.below hW).own
                have HQ5 : Hid (∀ (W W5 : World), Below (w4.alloc (.cells #[.slice ar pd.length cr, .int .i64 room, .bool false, .bool false] 42)).heap.size (w4.alloc (.cells #[.slice ar pd.length cr, .int .i64 room, .bool false, .bool false] 42)) W → W.grownBy W5 (Value.slice av G.length cv).ownBlock → W5.heap[w4.heap.size]? = some (.cells #[.slice ar pd.length cr, .int .i64 room, .bool false, .bool false] 42 (0, 0))) := (show ∀ (W W5 : World), _ → _ → _ from fun W W5 hW hgr =>
                  (hgr.block w4.heap.size (by have := hW.size; simp at this; omega) (fun e => by have := (hK.out.own.lt _ e.symm).2; omega)).trans (box4P hW))
                have hsnb : G.length + pb.length = sn := hK.out.len
                have hbK : w.heap.size ≤ w1.heap.size := hK.out.base
                have hKl : w1.heap.size < wr.heap.size := heap_ltP hK.out.box
                obtain ⟨i0, hi, hi0, hi1, hi2⟩ := info_parts infoU8P
                clear hb4 hp4 hg4 HR c0 c1 c2 c3
                unfold pipeV
                (try simp only [])
                go_upto_region 18 with fail
                go_cut [10] (fun zv wx => ∃ (G6 : List UInt8) (av6 : Option Addr) (cv6 : Nat), zv = .slice av6 G6.length cv6 ∧ Hid (KA w w1.heap.size B room sn (.slice av6 G6.length cv6) wx pd G6 ar cr))
                case first =>
                  cases ag with
                  | none =>
                    have hpt0 : pt = [] := (nil_lenP HG4.out.1 rfl).2
                    subst hpt0
                    go_region_law (refine step_append_nilP rfl (.tmp 101) (.tmp 102) 40 rfl (w1.heap.size + 1) 5 i0 1 cg Try.underlying40 hi (.slice av G.length cv) G.length (G.map U) (by first | rfl | (simp [Act.eval, Act.put]; done) | go_simp) (HOW.out _ (by first | exact HBW.out | exact HBW.out.drew)) (by first | rfl | (simp [Act.eval, Act.put]; done) | go_simp) ?_; obtain ⟨hx5, hk5⟩ := HOD.out ((w4.alloc (.cells #[.slice ar pd.length cr, .int .i64 room, .bool false, .bool false] 42)).drew) ((w4.alloc (.cells #[.slice ar pd.length cr, .int .i64 room, .bool false, .bool false] 42)).drew) (.slice av G.length cv) (by first | exact boxrP | exact boxrP.drew) (by have h := HOW.out ((w4.alloc (.cells #[.slice ar pd.length cr, .int .i64 room, .bool false, .bool false] 42)).drew) HBW.out.drew; simpa using h) (grown_selfP _ _) (Or.inl rfl); obtain ⟨f0, f1, f2, f3⟩ := frz4P hx5; obtain ⟨x0, x1, x2, x3⟩ := cells4P hx5; obtain ⟨g0, g1, g2, g3⟩ := frz4P (w := (w4.alloc (.cells #[.slice ar pd.length cr, .int .i64 room, .bool false, .bool false] 42))) hx5; obtain ⟨y0, y1, y2, y3⟩ := cells4P (w := (w4.alloc (.cells #[.slice ar pd.length cr, .int .i64 room, .bool false, .bool false] 42))) hx5; have HK5 : Hid _ := hk5; clear hk5 hx5)
                    all_goals
                      clear HOD HOW HQ5 HBW HW4 HP4 HG4 hK
                      go_wp2_with fail
                      go_meet
                      exact ⟨G ++ [], av, cv, by simp, (by have h := HK5.out; simp only [List.append_nil] at h ⊢; exact h)⟩
                  | some ad =>
                    have HCE : Hid _ := fun (W : World) (hW : Below w4.heap.size w4 W) (j : Nat) (u : Value) (hu : (pt.map U)[j]? = some u) => reads_cellP (Reads.below HG4.out.1 hW) hu
                    go_region_law (refine step_append_ownP rfl (.tmp 101) (.tmp 102) 40 rfl (w1.heap.size + 1) 5 i0 (.int .u8 0) 1 1 Try.underlying40 hi hi0 hi1 hi2 rfl (by decide) (.slice av G.length cv) G.length (G.map U) (by first | rfl | (simp [Act.eval, Act.put]; done) | go_simp) (HOW.out _ (by first | exact HBW.out | exact HBW.out.drew)) ad pt.length cg (pt.map U) (by first | rfl | (simp [Act.eval, Act.put]; done) | go_simp) (by simp) (HCE.out _ (by first | exact boxrP | exact boxrP.drew)) U_oneP (by unfold maxLen; omega) (by omega) (by first | (simp; omega) | omega) ?_; intro v5 w5 ow5 gr5 nn5 bl5; obtain ⟨hx5, hk5⟩ := HOD.out _ _ _ (by first | exact boxrP | exact boxrP.drew) ow5 gr5 bl5; obtain ⟨f0, f1, f2, f3⟩ := frz4P hx5; obtain ⟨x0, x1, x2, x3⟩ := cells4P hx5; obtain ⟨d0, d1, d2, d3⟩ := cells4P (HQ5.out _ _ (by first | exact Below.refl _ _ | exact drewP _) gr5); obtain ⟨av6, cv6, rfl, _, _⟩ := owns_formP ow5; have HK5 : Hid _ := hk5; clear hk5 hx5)
                    all_goals
                      clear ow5 gr5 nn5 bl5 HOD HOW HQ5 HCE HBW HW4 HP4 HG4 hK
                      go_wp2_with fail
                      go_meet
                      exact ⟨G ++ pt, av6, cv6, by rw [List.length_append], by rw [List.length_append]; exact HK5.out⟩
                case rest =>
                  obtain ⟨G6, av6, cv6, rfl, HK6⟩ := hcut
                  clear HOD HOW HQ5 HBW HW4 HP4 HG4 hK
                  go_wp2_with fail
                  go_meet
                  exact ⟨sn, G6, pd, ar, cr, av6, cv6, rfl, rfl, HK6.out⟩
            case rest =>
              obtain ⟨s6, G6, pb6, ab6, cap6, av6, cv6, rfl, rfl, HK6⟩ := hcut
              clear hK c0 c1 c2 c3 hsn hpb
              go_upto_region 19 with fail
              have hs6 : s6 ≤ NB := by have := HK6.out.le; have := HNB.out; omega
              have hs6c : s6 ≤ cb := by omega
              have hpl6 : pb6.length ≤ 200 := by have := HK6.out.len; omega
              obtain ⟨c0, c1, c2, c3⟩ := cells4P HK6.out.box
              have hK6l : w1.heap.size < wc.heap.size := heap_ltP HK6.out.box
              have hCK := fun (W : World) => pcheck_is ab6 pb6.length cap6 room false false W (by omega)
              rw [HK6.out.chk] at hCK
              have HCK : Hid _ := hCK
              have hrl : ¬ (0 < room ∧ room < (pb6.length : Int)) := fun h => by
                have h3 := (pck_ok HK6.out.chk).2.2.1
                unfold plim at h3
                rw [if_neg (by omega)] at h3
                omega
              have HCC : Hid _ := fun (W : World) (hW : Below wc.heap.size wc W) => keeps_concat (HK6.out.below hW) (by have := HNB.out; omega)
              have HEQ : Hid _ := fun (w' : World) (ra : Option Addr) (rc X : Nat) (hW : Below wc.heap.size wc w') (ho : w'.ownsRow X 5 1 (.slice ra (G6 ++ pb6).length rc) (G6 ++ pb6).length ((G6 ++ pb6).map U)) => keeps_equal HK6.out ho (HRB2.out w' (HK6.out.bel.trans (hW.mono HK6.out.bel.size))) hs6
              clear hCK
              go_cut [129] (fun z wx => z = .bool false ∧ Hid (Below wc.heap.size wc wx))
              case first =>
                have HB2 : Hid (B.length ≤ 200) := (show B.length ≤ 200 by have := HNB.out; omega)
                refine wp_region_inv (by kernel_rfl) (by kernel_rfl) (fun L a W => OV 104 26 (V19 w1.heap.size room ab6 cap6 pb6 av6 cv6 G6 ob NB cb s6) ?A0 wc L a W) ?hs ?he ?h0
                case h0 => exact OV.start _ _
                case he =>
                  intro L a W hall hI
                  have hf := hI.form (show 104 + 26 ≤ 131 by decide)
                  have h25 : a.eval (.tmp 129) = .bool false := hI.vs 25 (by decide) (hall 25 (by decide))
                  rw [hf, show List.range 26 = [0, 1, 2, 3, 4, 5, 6, 7, 8, 9, 10, 11, 12, 13, 14, 15, 16, 17, 18, 19, 20, 21, 22, 23, 24, 25] from rfl]
                  simp only [List.foldl, Nat.reduceAdd]
                  rw [h25]
                  have HBE : Hid _ := hI.be
                  clear hf hall hI h25
                  generalize a.eval (.tmp 104) = x104
                  generalize a.eval (.tmp 105) = x105
                  generalize a.eval (.tmp 106) = x106
                  generalize a.eval (.tmp 107) = x107
                  generalize a.eval (.tmp 108) = x108
                  generalize a.eval (.tmp 109) = x109
                  generalize a.eval (.tmp 110) = x110
                  generalize a.eval (.tmp 111) = x111
                  generalize a.eval (.tmp 112) = x112
                  generalize a.eval (.tmp 113) = x113
                  generalize a.eval (.tmp 114) = x114
                  generalize a.eval (.tmp 115) = x115
                  generalize a.eval (.tmp 116) = x116
                  generalize a.eval (.tmp 117) = x117
                  generalize a.eval (.tmp 118) = x118
                  generalize a.eval (.tmp 119) = x119
                  generalize a.eval (.tmp 120) = x120
                  generalize a.eval (.tmp 121) = x121
                  generalize a.eval (.tmp 122) = x122
                  generalize a.eval (.tmp 123) = x123
                  generalize a.eval (.tmp 124) = x124
                  generalize a.eval (.tmp 125) = x125
                  generalize a.eval (.tmp 126) = x126
                  generalize a.eval (.tmp 127) = x127
                  generalize a.eval (.tmp 128) = x128
                  simp only [Act.put, List.setIfInBounds_toArray, List.set]
                  go_wp2_with fail
                  go_meet
                  exact ⟨rfl, HBE.out⟩
                case hs =>
                  intro L i o a W ho hL hdep hI
                  have hi : i < 26 := by have := (Array.getElem?_eq_some_iff.1 ho).1; simpa using this
                  have hcase : i = 0 ∨ i = 1 ∨ i = 2 ∨ i = 3 ∨ i = 4 ∨ i = 5 ∨ i = 6 ∨ i = 7 ∨ i = 8 ∨ i = 9 ∨ i = 10 ∨ i = 11 ∨ i = 12 ∨ i = 13 ∨ i = 14 ∨ i = 15 ∨ i = 16 ∨ i = 17 ∨ i = 18 ∨ i = 19 ∨ i = 20 ∨ i = 21 ∨ i = 22 ∨ i = 23 ∨ i = 24 ∨ i = 25 := by omega
                  clear hi
                  have hsz : 104 + 26 ≤ 131 := by decide
                  rcases hcase with rfl | rfl | rfl | rfl | rfl | rfl | rfl | rfl | rfl | rfl | rfl | rfl | rfl | rfl | rfl | rfl | rfl | rfl | rfl | rfl | rfl | rfl | rfl | rfl | rfl | rfl
                  · obtain rfl : o = _ := (Option.some.inj ho).symm
                    show wpOp _ _ _ 0 (fun a' W' => OV 104 26 (V19 w1.heap.size room ab6 cap6 pb6 av6 cv6 G6 ob NB cb s6) _ wc (updV L 0) a' W') a W
                    unfold wpOp
                    rw [ho]
                    simp only
                    rw [if_pos (by simp [Region.wanted])]
                    refine Or.inl ?_
                    unfold Oper.wp
                    have o7 : a.eval (.tmp 7) = .pointer (some ⟨w1.heap.size, 0, none⟩) := (hI.old (by decide)).trans rfl
                    obtain ⟨c0, c1, c2, c3⟩ := cells4P (HK6.out.below hI.be).box
                    simp only [Act.eval, Array.getD_eq_getD_getElem?] at o7
                    go_simp
                    exact hI.put V19.keep (by decide) hsz (Below.refl _ _) (by first | rfl | exact congrArg Value.bool (by simp_all))
                  · obtain rfl : o = _ := (Option.some.inj ho).symm
                    have d0 : L 0 = true := hdep ⟨0, .data⟩ (by simp) rfl
                    show wpOp _ _ _ 1 (fun a' W' => OV 104 26 (V19 w1.heap.size room ab6 cap6 pb6 av6 cv6 G6 ob NB cb s6) _ wc (updV L 1) a' W') a W
                    unfold wpOp
                    rw [ho]
                    simp only
                    rw [if_pos (by simp [Region.wanted])]
                    refine Or.inl ?_
                    unfold Oper.wp
                    have e104 : a.eval (.tmp 104) = .agg #[.slice ab6 pb6.length cap6, .int .i64 room, .bool false, .bool false] := hI.vs 0 (by decide) d0
                    simp only [Act.eval, Array.getD_eq_getD_getElem?] at e104
                    go_simp
                    refine Calls.mono (HCK.out W) ?_
                    rintro e w7 ⟨rfl, hb7⟩
                    exact hI.put V19.keep (by decide) hsz hb7 rfl
                  · obtain rfl : o = _ := (Option.some.inj ho).symm
                    have d1 : L 1 = true := hdep ⟨1, .data⟩ (by simp) rfl
                    show wpOp _ _ _ 2 (fun a' W' => OV 104 26 (V19 w1.heap.size room ab6 cap6 pb6 av6 cv6 G6 ob NB cb s6) _ wc (updV L 2) a' W') a W
                    unfold wpOp
                    rw [ho]
                    simp only
                    rw [if_pos (by simp [Region.wanted])]
                    refine Or.inl ?_
                    unfold Oper.wp
                    have e105 : a.eval (.tmp 105) = .int .i64 0 := hI.vs 1 (by decide) d1
                    simp only [Act.eval, Array.getD_eq_getD_getElem?] at e105
                    go_simp
                    exact hI.put V19.keep (by decide) hsz (Below.refl _ _) (by first | rfl | exact congrArg Value.bool (by simp_all))
                  · obtain rfl : o = _ := (Option.some.inj ho).symm
                    have d2 : L 2 = true := hdep ⟨2, .data⟩ (by simp) rfl
                    show wpOp _ _ _ 3 (fun a' W' => OV 104 26 (V19 w1.heap.size room ab6 cap6 pb6 av6 cv6 G6 ob NB cb s6) _ wc (updV L 3) a' W') a W
                    unfold wpOp
                    rw [ho]
                    simp only
                    rw [if_pos (by simp [Region.wanted])]
                    refine Or.inl ?_
                    unfold Oper.wp
                    have e106 : a.eval (.tmp 106) = .bool false := hI.vs 2 (by decide) d2
                    simp only [Act.eval, Array.getD_eq_getD_getElem?] at e106
                    go_simp
                    exact hI.put V19.keep (by decide) hsz (Below.refl _ _) (by first | rfl | exact congrArg Value.bool (by simp_all))
                  · obtain rfl : o = _ := (Option.some.inj ho).symm
                    have d3 : L 3 = true := hdep ⟨3, .guard⟩ (by simp) rfl
                    show wpOp _ _ _ 4 (fun a' W' => OV 104 26 (V19 w1.heap.size room ab6 cap6 pb6 av6 cv6 G6 ob NB cb s6) _ wc (updV L 4) a' W') a W
                    have hs131 : 107 < 131 := by decide
                    have eg : a.eval (.tmp 107) = .bool false := hI.vs 3 (by decide) d3
                    unfold wpOp
                    rw [ho]
                    simp only
                    rw [if_pos (by rw [wantedV rfl (by rfl) (by rw [hI.sz]; exact hs131) eg]; rfl)]
                    refine Or.inl ?_
                    unfold Oper.wp
                    have o0 : a.eval (.tmp 0) = .int .i64 room := (hI.old (by decide)).trans rfl
                    simp only [Act.eval, Array.getD_eq_getD_getElem?] at o0
                    go_simp
                    exact hI.put V19.keep (by decide) hsz (Below.refl _ _) (by first | rfl | exact congrArg Value.bool (by simp_all))
                  · obtain rfl : o = _ := (Option.some.inj ho).symm
                    have d4 : L 4 = true := hdep ⟨4, .data⟩ (by simp) rfl
                    have d3 : L 3 = true := hdep ⟨3, .guard⟩ (by simp) rfl
                    show wpOp _ _ _ 5 (fun a' W' => OV 104 26 (V19 w1.heap.size room ab6 cap6 pb6 av6 cv6 G6 ob NB cb s6) _ wc (updV L 5) a' W') a W
                    have hs131 : 107 < 131 := by decide
                    have eg : a.eval (.tmp 107) = .bool false := hI.vs 3 (by decide) d3
                    unfold wpOp
                    rw [ho]
                    simp only
                    rw [if_pos (by rw [wantedV rfl (by rfl) (by rw [hI.sz]; exact hs131) eg]; rfl)]
                    refine Or.inl ?_
                    unfold Oper.wp
                    have e108 : a.eval (.tmp 108) = .int .i64 room := hI.vs 4 (by decide) d4
                    simp only [Act.eval, Array.getD_eq_getD_getElem?] at e108
                    go_simp
                    exact hI.put V19.keep (by decide) hsz (Below.refl _ _) (by first | rfl | exact congrArg Value.bool (by simp_all))
                  · obtain rfl : o = _ := (Option.some.inj ho).symm
                    have d5 : L 5 = true := hdep ⟨5, .data⟩ (by simp) rfl
                    have d3 : L 3 = true := hdep ⟨3, .guard⟩ (by simp) rfl
                    show wpOp _ _ _ 6 (fun a' W' => OV 104 26 (V19 w1.heap.size room ab6 cap6 pb6 av6 cv6 G6 ob NB cb s6) _ wc (updV L 6) a' W') a W
                    have hs131 : 107 < 131 := by decide
                    have eg : a.eval (.tmp 107) = .bool false := hI.vs 3 (by decide) d3
                    unfold wpOp
                    rw [ho]
                    simp only
                    rw [if_pos (by rw [wantedV rfl (by rfl) (by rw [hI.sz]; exact hs131) eg]; rfl)]
                    refine Or.inl ?_
                    unfold Oper.wp
                    have e109 : a.eval (.tmp 109) = .bool (decide (0 < room)) := hI.vs 5 (by decide) d5
                    simp only [Act.eval, Array.getD_eq_getD_getElem?] at e109
                    go_simp
                    exact hI.put V19.keep (by decide) hsz (Below.refl _ _) (by first | rfl | exact congrArg Value.bool (by simp_all))
                  · obtain rfl : o = _ := (Option.some.inj ho).symm
                    have d6 : L 6 = true := hdep ⟨6, .guard⟩ (by simp) rfl
                    show wpOp _ _ _ 7 (fun a' W' => OV 104 26 (V19 w1.heap.size room ab6 cap6 pb6 av6 cv6 G6 ob NB cb s6) _ wc (updV L 7) a' W') a W
                    have hs131 : 110 < 131 := by decide
                    have eg : a.eval (.tmp 110) = .bool (decide (0 < room)) := hI.vs 6 (by decide) d6
                    by_cases hr0 : 0 < room
                    · unfold wpOp
                      rw [ho]
                      simp only
                      rw [if_pos (by rw [wantedV rfl (by rfl) (by rw [hI.sz]; exact hs131) eg, decide_eq_true hr0]; rfl)]
                      refine Or.inl ?_
                      unfold Oper.wp
                      have o7 : a.eval (.tmp 7) = .pointer (some ⟨w1.heap.size, 0, none⟩) := (hI.old (by decide)).trans rfl
                      simp only [Act.eval, Array.getD_eq_getD_getElem?] at o7
                      go_simp
                      exact hI.put V19.keep (by decide) hsz (Below.refl _ _) (fun _ => rfl)
                    · unfold wpOp
                      rw [ho]
                      simp only
                      rw [if_neg (by rw [wantedV rfl (by rfl) (by rw [hI.sz]; exact hs131) eg, decide_eq_false hr0]; decide)]
                      exact hI.put V19.keep (by decide) hsz (Below.refl _ _) (fun h => absurd h hr0)
                  · obtain rfl : o = _ := (Option.some.inj ho).symm
                    have d7 : L 7 = true := hdep ⟨7, .data⟩ (by simp) rfl
                    have d6 : L 6 = true := hdep ⟨6, .guard⟩ (by simp) rfl
                    show wpOp _ _ _ 8 (fun a' W' => OV 104 26 (V19 w1.heap.size room ab6 cap6 pb6 av6 cv6 G6 ob NB cb s6) _ wc (updV L 8) a' W') a W
                    have hs131 : 110 < 131 := by decide
                    have eg : a.eval (.tmp 110) = .bool (decide (0 < room)) := hI.vs 6 (by decide) d6
                    by_cases hr0 : 0 < room
                    · unfold wpOp
                      rw [ho]
                      simp only
                      rw [if_pos (by rw [wantedV rfl (by rfl) (by rw [hI.sz]; exact hs131) eg, decide_eq_true hr0]; rfl)]
                      refine Or.inl ?_
                      unfold Oper.wp
                      have e111 : a.eval (.tmp 111) = .pointer (some ⟨w1.heap.size, 0, none⟩) := hI.vs 7 (by decide) d7 hr0
                      obtain ⟨c0, c1, c2, c3⟩ := cells4P (HK6.out.below hI.be).box
                      simp only [Act.eval, Array.getD_eq_getD_getElem?] at e111
                      go_simp
                      exact hI.put V19.keep (by decide) hsz (Below.refl _ _) (fun _ => rfl)
                    · unfold wpOp
                      rw [ho]
                      simp only
                      rw [if_neg (by rw [wantedV rfl (by rfl) (by rw [hI.sz]; exact hs131) eg, decide_eq_false hr0]; decide)]
                      exact hI.put V19.keep (by decide) hsz (Below.refl _ _) (fun h => absurd h hr0)
                  · obtain rfl : o = _ := (Option.some.inj ho).symm
                    have d8 : L 8 = true := hdep ⟨8, .data⟩ (by simp) rfl
                    have d6 : L 6 = true := hdep ⟨6, .guard⟩ (by simp) rfl
                    show wpOp _ _ _ 9 (fun a' W' => OV 104 26 (V19 w1.heap.size room ab6 cap6 pb6 av6 cv6 G6 ob NB cb s6) _ wc (updV L 9) a' W') a W
                    have hs131 : 110 < 131 := by decide
                    have eg : a.eval (.tmp 110) = .bool (decide (0 < room)) := hI.vs 6 (by decide) d6
                    by_cases hr0 : 0 < room
                    · unfold wpOp
                      rw [ho]
                      simp only
                      rw [if_pos (by rw [wantedV rfl (by rfl) (by rw [hI.sz]; exact hs131) eg, decide_eq_true hr0]; rfl)]
                      refine Or.inl ?_
                      unfold Oper.wp
                      have e112 : a.eval (.tmp 112) = .slice ab6 pb6.length cap6 := hI.vs 8 (by decide) d8 hr0
                      simp only [Act.eval, Array.getD_eq_getD_getElem?] at e112
                      go_simp
                      exact hI.put V19.keep (by decide) hsz (Below.refl _ _) (fun _ => rfl)
                    · unfold wpOp
                      rw [ho]
                      simp only
                      rw [if_neg (by rw [wantedV rfl (by rfl) (by rw [hI.sz]; exact hs131) eg, decide_eq_false hr0]; decide)]
                      exact hI.put V19.keep (by decide) hsz (Below.refl _ _) (fun h => absurd h hr0)
                  · obtain rfl : o = _ := (Option.some.inj ho).symm
                    have d6 : L 6 = true := hdep ⟨6, .guard⟩ (by simp) rfl
                    show wpOp _ _ _ 10 (fun a' W' => OV 104 26 (V19 w1.heap.size room ab6 cap6 pb6 av6 cv6 G6 ob NB cb s6) _ wc (updV L 10) a' W') a W
                    have hs131 : 110 < 131 := by decide
                    have eg : a.eval (.tmp 110) = .bool (decide (0 < room)) := hI.vs 6 (by decide) d6
                    by_cases hr0 : 0 < room
                    · unfold wpOp
                      rw [ho]
                      simp only
                      rw [if_pos (by rw [wantedV rfl (by rfl) (by rw [hI.sz]; exact hs131) eg, decide_eq_true hr0]; rfl)]
                      refine Or.inl ?_
                      unfold Oper.wp
                      have o0 : a.eval (.tmp 0) = .int .i64 room := (hI.old (by decide)).trans rfl
                      simp only [Act.eval, Array.getD_eq_getD_getElem?] at o0
                      go_simp
                      exact hI.put V19.keep (by decide) hsz (Below.refl _ _) (fun _ => rfl)
                    · unfold wpOp
                      rw [ho]
                      simp only
                      rw [if_neg (by rw [wantedV rfl (by rfl) (by rw [hI.sz]; exact hs131) eg, decide_eq_false hr0]; decide)]
                      exact hI.put V19.keep (by decide) hsz (Below.refl _ _) (fun h => absurd h hr0)
                  · obtain rfl : o = _ := (Option.some.inj ho).symm
                    have d9 : L 9 = true := hdep ⟨9, .data⟩ (by simp) rfl
                    have d10 : L 10 = true := hdep ⟨10, .data⟩ (by simp) rfl
                    have d6 : L 6 = true := hdep ⟨6, .guard⟩ (by simp) rfl
                    show wpOp _ _ _ 11 (fun a' W' => OV 104 26 (V19 w1.heap.size room ab6 cap6 pb6 av6 cv6 G6 ob NB cb s6) _ wc (updV L 11) a' W') a W
                    have hs131 : 110 < 131 := by decide
                    have eg : a.eval (.tmp 110) = .bool (decide (0 < room)) := hI.vs 6 (by decide) d6
                    by_cases hr0 : 0 < room
                    · unfold wpOp
                      rw [ho]
                      simp only
                      rw [if_pos (by rw [wantedV rfl (by rfl) (by rw [hI.sz]; exact hs131) eg, decide_eq_true hr0]; rfl)]
                      refine Or.inl ?_
                      unfold Oper.wp
                      have e113 : a.eval (.tmp 113) = .int .i64 (pb6.length : Int) := hI.vs 9 (by decide) d9 hr0
                      have e114 : a.eval (.tmp 114) = .int .i64 room := hI.vs 10 (by decide) d10 hr0
                      simp only [Act.eval, Array.getD_eq_getD_getElem?] at e113 e114
                      go_simp
                      exact hI.put V19.keep (by decide) hsz (Below.refl _ _) (fun _ => congrArg Value.bool (decide_eq_false (fun h => hrl ⟨hr0, h⟩)))
                    · unfold wpOp
                      rw [ho]
                      simp only
                      rw [if_neg (by rw [wantedV rfl (by rfl) (by rw [hI.sz]; exact hs131) eg, decide_eq_false hr0]; decide)]
                      exact hI.put V19.keep (by decide) hsz (Below.refl _ _) (fun h => absurd h hr0)
                  · obtain rfl : o = _ := (Option.some.inj ho).symm
                    have d6 : L 6 = true := hdep ⟨6, .data⟩ (by simp) rfl
                    have d11 : L 11 = true := hdep ⟨11, .data⟩ (by simp) rfl
                    have d3 : L 3 = true := hdep ⟨3, .guard⟩ (by simp) rfl
                    show wpOp _ _ _ 12 (fun a' W' => OV 104 26 (V19 w1.heap.size room ab6 cap6 pb6 av6 cv6 G6 ob NB cb s6) _ wc (updV L 12) a' W') a W
                    have hs131 : 107 < 131 := by decide
                    have eg : a.eval (.tmp 107) = .bool false := hI.vs 3 (by decide) d3
                    by_cases hr0 : 0 < room
                    · unfold wpOp
                      rw [ho]
                      simp only
                      rw [if_pos (by rw [wantedV rfl (by rfl) (by rw [hI.sz]; exact hs131) eg]; rfl)]
                      refine Or.inl ?_
                      unfold Oper.wp
                      have e110 : a.eval (.tmp 110) = .bool true := (show a.eval (.tmp 110) = .bool (decide (0 < room)) from hI.vs 6 (by decide) d6).trans (by rw [decide_eq_true hr0])
                      have e115 : a.eval (.tmp 115) = .bool false := hI.vs 11 (by decide) d11 hr0
                      simp only [Act.eval, Array.getD_eq_getD_getElem?] at e110 e115
                      go_simp
                      exact hI.put V19.keep (by decide) hsz (Below.refl _ _) (by first | rfl | exact congrArg Value.bool (by simp_all))
                    · unfold wpOp
                      rw [ho]
                      simp only
                      rw [if_pos (by rw [wantedV rfl (by rfl) (by rw [hI.sz]; exact hs131) eg]; rfl)]
                      refine Or.inl ?_
                      unfold Oper.wp
                      have e110 : a.eval (.tmp 110) = .bool false := (show a.eval (.tmp 110) = .bool (decide (0 < room)) from hI.vs 6 (by decide) d6).trans (by rw [decide_eq_false hr0])
                      simp only [Act.eval, Array.getD_eq_getD_getElem?] at e110
                      go_simp
                      exact hI.put V19.keep (by decide) hsz (Below.refl _ _) (by first | rfl | exact congrArg Value.bool (by simp_all))
                  · obtain rfl : o = _ := (Option.some.inj ho).symm
                    have d3 : L 3 = true := hdep ⟨3, .data⟩ (by simp) rfl
                    have d12 : L 12 = true := hdep ⟨12, .data⟩ (by simp) rfl
                    show wpOp _ _ _ 13 (fun a' W' => OV 104 26 (V19 w1.heap.size room ab6 cap6 pb6 av6 cv6 G6 ob NB cb s6) _ wc (updV L 13) a' W') a W
                    unfold wpOp
                    rw [ho]
                    simp only
                    rw [if_pos (by simp [Region.wanted])]
                    refine Or.inl ?_
                    unfold Oper.wp
                    have e107 : a.eval (.tmp 107) = .bool false := hI.vs 3 (by decide) d3
                    have e116 : a.eval (.tmp 116) = .bool false := hI.vs 12 (by decide) d12
                    simp only [Act.eval, Array.getD_eq_getD_getElem?] at e107 e116
                    go_simp
                    exact hI.put V19.keep (by decide) hsz (Below.refl _ _) (by first | rfl | exact congrArg Value.bool (by simp_all))
                  · obtain rfl : o = _ := (Option.some.inj ho).symm
                    have d13 : L 13 = true := hdep ⟨13, .data⟩ (by simp) rfl
                    show wpOp _ _ _ 14 (fun a' W' => OV 104 26 (V19 w1.heap.size room ab6 cap6 pb6 av6 cv6 G6 ob NB cb s6) _ wc (updV L 14) a' W') a W
                    unfold wpOp
                    rw [ho]
                    simp only
                    rw [if_pos (by simp [Region.wanted])]
                    refine Or.inl ?_
                    unfold Oper.wp
                    have e117 : a.eval (.tmp 117) = .bool false := hI.vs 13 (by decide) d13
                    simp only [Act.eval, Array.getD_eq_getD_getElem?] at e117
                    go_simp
                    exact hI.put V19.keep (by decide) hsz (Below.refl _ _) (by first | rfl | exact congrArg Value.bool (by simp_all))
                  · obtain rfl : o = _ := (Option.some.inj ho).symm
                    have d14 : L 14 = true := hdep ⟨14, .guard⟩ (by simp) rfl
                    show wpOp _ _ _ 15 (fun a' W' => OV 104 26 (V19 w1.heap.size room ab6 cap6 pb6 av6 cv6 G6 ob NB cb s6) _ wc (updV L 15) a' W') a W
                    have hs131 : 118 < 131 := by decide
                    have eg : a.eval (.tmp 118) = .bool false := hI.vs 14 (by decide) d14
                    unfold wpOp
                    rw [ho]
                    simp only
                    rw [if_pos (by rw [wantedV rfl (by rfl) (by rw [hI.sz]; exact hs131) eg]; rfl)]
                    refine Or.inl ?_
                    unfold Oper.wp
                    have o10 : a.eval (.tmp 10) = .slice av6 G6.length cv6 := (hI.old (by decide)).trans rfl
                    simp only [Act.eval, Array.getD_eq_getD_getElem?] at o10
                    go_simp
                    exact hI.put V19.keep (by decide) hsz (Below.refl _ _) (by first | rfl | exact congrArg Value.bool (by simp_all))
                  · obtain rfl : o = _ := (Option.some.inj ho).symm
                    have d14 : L 14 = true := hdep ⟨14, .guard⟩ (by simp) rfl
                    show wpOp _ _ _ 16 (fun a' W' => OV 104 26 (V19 w1.heap.size room ab6 cap6 pb6 av6 cv6 G6 ob NB cb s6) _ wc (updV L 16) a' W') a W
                    have hs131 : 118 < 131 := by decide
                    have eg : a.eval (.tmp 118) = .bool false := hI.vs 14 (by decide) d14
                    unfold wpOp
                    rw [ho]
                    simp only
                    rw [if_pos (by rw [wantedV rfl (by rfl) (by rw [hI.sz]; exact hs131) eg]; rfl)]
                    refine Or.inl ?_
                    unfold Oper.wp
                    have o7 : a.eval (.tmp 7) = .pointer (some ⟨w1.heap.size, 0, none⟩) := (hI.old (by decide)).trans rfl
                    simp only [Act.eval, Array.getD_eq_getD_getElem?] at o7
                    go_simp
                    exact hI.put V19.keep (by decide) hsz (Below.refl _ _) (by first | rfl | exact congrArg Value.bool (by simp_all))
                  · obtain rfl : o = _ := (Option.some.inj ho).symm
                    have d16 : L 16 = true := hdep ⟨16, .data⟩ (by simp) rfl
                    have d14 : L 14 = true := hdep ⟨14, .guard⟩ (by simp) rfl
                    show wpOp _ _ _ 17 (fun a' W' => OV 104 26 (V19 w1.heap.size room ab6 cap6 pb6 av6 cv6 G6 ob NB cb s6) _ wc (updV L 17) a' W') a W
                    have hs131 : 118 < 131 := by decide
                    have eg : a.eval (.tmp 118) = .bool false := hI.vs 14 (by decide) d14
                    unfold wpOp
                    rw [ho]
                    simp only
                    rw [if_pos (by rw [wantedV rfl (by rfl) (by rw [hI.sz]; exact hs131) eg]; rfl)]
                    refine Or.inl ?_
                    unfold Oper.wp
                    have e120 : a.eval (.tmp 120) = .pointer (some ⟨w1.heap.size, 0, none⟩) := hI.vs 16 (by decide) d16
                    obtain ⟨c0, c1, c2, c3⟩ := cells4P (HK6.out.below hI.be).box
                    simp only [Act.eval, Array.getD_eq_getD_getElem?] at e120
                    go_simp
                    exact hI.put V19.keep (by decide) hsz (Below.refl _ _) (by first | rfl | exact congrArg Value.bool (by simp_all))
                  · obtain rfl : o = _ := (Option.some.inj ho).symm
                    have d15 : L 15 = true := hdep ⟨15, .data⟩ (by simp) rfl
                    have d17 : L 17 = true := hdep ⟨17, .data⟩ (by simp) rfl
                    have d14 : L 14 = true := hdep ⟨14, .guard⟩ (by simp) rfl
                    show wpOp _ _ _ 18 (fun a' W' => OV 104 26 (V19 w1.heap.size room ab6 cap6 pb6 av6 cv6 G6 ob NB cb s6) _ wc (updV L 18) a' W') a W
                    have hs131 : 118 < 131 := by decide
                    have eg : a.eval (.tmp 118) = .bool false := hI.vs 14 (by decide) d14
                    unfold wpOp
                    rw [ho]
                    simp only
                    rw [if_pos (by rw [wantedV rfl (by rfl) (by rw [hI.sz]; exact hs131) eg]; rfl)]
                    refine Or.inl ?_
                    unfold Oper.wp
                    have e119 : a.eval (.tmp 119) = .slice av6 G6.length cv6 := hI.vs 15 (by decide) d15
                    have e121 : a.eval (.tmp 121) = .slice ab6 pb6.length cap6 := hI.vs 17 (by decide) d17
                    simp only [Act.eval, Array.getD_eq_getD_getElem?] at e119 e121
                    go_simp
                    exact hI.put V19.keep (by decide) hsz boxrP ⟨W.heap.size, rfl, heap_alloc_new W _⟩
                  · obtain rfl : o = _ := (Option.some.inj ho).symm
                    have d18 : L 18 = true := hdep ⟨18, .data⟩ (by simp) rfl
                    have d14 : L 14 = true := hdep ⟨14, .guard⟩ (by simp) rfl
                    show wpOp _ _ _ 19 (fun a' W' => OV 104 26 (V19 w1.heap.size room ab6 cap6 pb6 av6 cv6 G6 ob NB cb s6) _ wc (updV L 19) a' W') a W
                    have hs131 : 118 < 131 := by decide
                    have eg : a.eval (.tmp 118) = .bool false := hI.vs 14 (by decide) d14
                    unfold wpOp
                    rw [ho]
                    simp only
                    rw [if_pos (by rw [wantedV rfl (by rfl) (by rw [hI.sz]; exact hs131) eg]; rfl)]
                    refine Or.inl ?_
                    unfold Oper.wp
                    obtain ⟨g, e122, hg⟩ : ∃ g, a.eval (.tmp 122) = .slice (some ⟨g, 0, none⟩) 2 2 ∧ W.heap[g]? = some (.cells #[.slice av6 G6.length cv6, .slice ab6 pb6.length cap6] 40 (0, 0)) := hI.vs 18 (by decide) d18
                    simp only [Act.eval, Array.getD_eq_getD_getElem?] at e122
                    go_simp
                    refine Calls.mono (keeps_concat2 (HK6.out.below hI.be) HB2.out hg) ?_
                    rintro e w8 ⟨ra, rc, rfl, ho8, hb8⟩
                    exact hI.put V19.keep (by decide) hsz hb8 ⟨ra, rc, _, rfl, ho8⟩
                  · obtain rfl : o = _ := (Option.some.inj ho).symm
                    have d14 : L 14 = true := hdep ⟨14, .guard⟩ (by simp) rfl
                    show wpOp _ _ _ 20 (fun a' W' => OV 104 26 (V19 w1.heap.size room ab6 cap6 pb6 av6 cv6 G6 ob NB cb s6) _ wc (updV L 20) a' W') a W
                    have hs131 : 118 < 131 := by decide
                    have eg : a.eval (.tmp 118) = .bool false := hI.vs 14 (by decide) d14
                    unfold wpOp
                    rw [ho]
                    simp only
                    rw [if_pos (by rw [wantedV rfl (by rfl) (by rw [hI.sz]; exact hs131) eg]; rfl)]
                    refine Or.inl ?_
                    unfold Oper.wp
                    have o1 : a.eval (.tmp 1) = .slice ob NB cb := (hI.old (by decide)).trans rfl
                    simp only [Act.eval, Array.getD_eq_getD_getElem?] at o1
                    go_simp
                    exact hI.put V19.keep (by decide) hsz (Below.refl _ _) (by first | rfl | exact congrArg Value.bool (by simp_all))
                  · obtain rfl : o = _ := (Option.some.inj ho).symm
                    have d14 : L 14 = true := hdep ⟨14, .guard⟩ (by simp) rfl
                    show wpOp _ _ _ 21 (fun a' W' => OV 104 26 (V19 w1.heap.size room ab6 cap6 pb6 av6 cv6 G6 ob NB cb s6) _ wc (updV L 21) a' W') a W
                    have hs131 : 118 < 131 := by decide
                    have eg : a.eval (.tmp 118) = .bool false := hI.vs 14 (by decide) d14
                    unfold wpOp
                    rw [ho]
                    simp only
                    rw [if_pos (by rw [wantedV rfl (by rfl) (by rw [hI.sz]; exact hs131) eg]; rfl)]
                    refine Or.inl ?_
                    unfold Oper.wp
                    have o9 : a.eval (.tmp 9) = .int .i64 (s6 : Int) := (hI.old (by decide)).trans rfl
                    simp only [Act.eval, Array.getD_eq_getD_getElem?] at o9
                    go_simp
                    exact hI.put V19.keep (by decide) hsz (Below.refl _ _) (by first | rfl | exact congrArg Value.bool (by simp_all))
                  · obtain rfl : o = _ := (Option.some.inj ho).symm
                    have d20 : L 20 = true := hdep ⟨20, .data⟩ (by simp) rfl
                    have d21 : L 21 = true := hdep ⟨21, .data⟩ (by simp) rfl
                    have d14 : L 14 = true := hdep ⟨14, .guard⟩ (by simp) rfl
                    show wpOp _ _ _ 22 (fun a' W' => OV 104 26 (V19 w1.heap.size room ab6 cap6 pb6 av6 cv6 G6 ob NB cb s6) _ wc (updV L 22) a' W') a W
                    have hs131 : 118 < 131 := by decide
                    have eg : a.eval (.tmp 118) = .bool false := hI.vs 14 (by decide) d14
                    unfold wpOp
                    rw [ho]
                    simp only
                    rw [if_pos (by rw [wantedV rfl (by rfl) (by rw [hI.sz]; exact hs131) eg]; rfl)]
                    refine Or.inl ?_
                    unfold Oper.wp
                    have e124 : a.eval (.tmp 124) = .slice ob NB cb := hI.vs 20 (by decide) d20
                    have e125 : a.eval (.tmp 125) = .int .i64 (s6 : Int) := hI.vs 21 (by decide) d21
                    simp only [Act.eval, Array.getD_eq_getD_getElem?] at e124 e125
                    go_simp
                    exact hI.put V19.keep (by decide) hsz (Below.refl _ _) (by first | rfl | exact congrArg Value.bool (by simp_all))
                  · obtain rfl : o = _ := (Option.some.inj ho).symm
                    have d19 : L 19 = true := hdep ⟨19, .data⟩ (by simp) rfl
                    have d22 : L 22 = true := hdep ⟨22, .data⟩ (by simp) rfl
                    have d14 : L 14 = true := hdep ⟨14, .guard⟩ (by simp) rfl
                    show wpOp _ _ _ 23 (fun a' W' => OV 104 26 (V19 w1.heap.size room ab6 cap6 pb6 av6 cv6 G6 ob NB cb s6) _ wc (updV L 23) a' W') a W
                    have hs131 : 118 < 131 := by decide
                    have eg : a.eval (.tmp 118) = .bool false := hI.vs 14 (by decide) d14
                    unfold wpOp
                    rw [ho]
                    simp only
                    rw [if_pos (by rw [wantedV rfl (by rfl) (by rw [hI.sz]; exact hs131) eg]; rfl)]
                    refine Or.inl ?_
                    unfold Oper.wp
                    obtain ⟨ra, rc, X, e123, hro⟩ : ∃ ra rc X, a.eval (.tmp 123) = .slice ra (G6 ++ pb6).length rc ∧ W.ownsRow X 5 1 (.slice ra (G6 ++ pb6).length rc) (G6 ++ pb6).length ((G6 ++ pb6).map U) := hI.vs 19 (by decide) d19
                    have e126 : a.eval (.tmp 126) = .slice ob s6 cb := hI.vs 22 (by decide) d22
                    simp only [Act.eval, Array.getD_eq_getD_getElem?] at e123 e126
                    go_simp
                    have hEQ := HEQ.out W ra rc X hI.be hro
                    simp only [List.length_append] at hEQ
                    refine Calls.mono hEQ ?_
                    rintro e w9 ⟨rfl, hb9⟩
                    exact hI.put V19.keep (by decide) hsz hb9 rfl
                  · obtain rfl : o = _ := (Option.some.inj ho).symm
                    have d23 : L 23 = true := hdep ⟨23, .data⟩ (by simp) rfl
                    have d14 : L 14 = true := hdep ⟨14, .guard⟩ (by simp) rfl
                    show wpOp _ _ _ 24 (fun a' W' => OV 104 26 (V19 w1.heap.size room ab6 cap6 pb6 av6 cv6 G6 ob NB cb s6) _ wc (updV L 24) a' W') a W
                    have hs131 : 118 < 131 := by decide
                    have eg : a.eval (.tmp 118) = .bool false := hI.vs 14 (by decide) d14
                    unfold wpOp
                    rw [ho]
                    simp only
                    rw [if_pos (by rw [wantedV rfl (by rfl) (by rw [hI.sz]; exact hs131) eg]; rfl)]
                    refine Or.inl ?_
                    unfold Oper.wp
                    have e127 : a.eval (.tmp 127) = .bool true := hI.vs 23 (by decide) d23
                    simp only [Act.eval, Array.getD_eq_getD_getElem?] at e127
                    go_simp
                    exact hI.put V19.keep (by decide) hsz (Below.refl _ _) (by first | rfl | exact congrArg Value.bool (by simp_all))
                  · obtain rfl : o = _ := (Option.some.inj ho).symm
                    have d14 : L 14 = true := hdep ⟨14, .data⟩ (by simp) rfl
                    have d24 : L 24 = true := hdep ⟨24, .data⟩ (by simp) rfl
                    show wpOp _ _ _ 25 (fun a' W' => OV 104 26 (V19 w1.heap.size room ab6 cap6 pb6 av6 cv6 G6 ob NB cb s6) _ wc (updV L 25) a' W') a W
                    unfold wpOp
                    rw [ho]
                    simp only
                    rw [if_pos (by simp [Region.wanted])]
                    refine Or.inl ?_
                    unfold Oper.wp
                    have e118 : a.eval (.tmp 118) = .bool false := hI.vs 14 (by decide) d14
                    have e128 : a.eval (.tmp 128) = .bool false := hI.vs 24 (by decide) d24
                    simp only [Act.eval, Array.getD_eq_getD_getElem?] at e118 e128
                    go_simp
                    exact hI.put V19.keep (by decide) hsz (Below.refl _ _) (by first | rfl | exact congrArg Value.bool (by simp_all))
              case rest =>
                obtain ⟨rfl, hbc⟩ := hcut
                have HK7 : Hid (KA w w1.heap.size B room s6 (.slice av6 G6.length cv6) _ pb6 G6 ab6 cap6) := KA.below HK6.out hbc.out
                clear hbc HK6 HCK HCC HEQ c0 c1 c2 c3 hrl
                go_wp2_with fail
                go_roundw
                case rel => exact ⟨j + 1, s6, by omega, by go_num, rfl, pb6, G6, ab6, cap6, HK7.out⟩
                case measure => simp [intOf]; omega
          · have hkN : j = S := by omega
            go_wp2_with fail
            go_ret
            exact ⟨rfl, hK.out.bel⟩
end Go.Proofs.Ytobaeafhdgolmab
