/- What the developers' join's size, count, least do. What the developers' join's least does. What the developers' join's behind does. -/
import Derived.Test.YtkifihcficobnaaGreatDoorOfF
import Derived.Test.YtkifihcficobnaaGreatDoorPlainF
import Derived.BigQuiet
import Derived.Deep.QuietTactic
import Derived.Laws.CopyOwn
import Derived.OwnWalk
namespace Go.Proofs.YtkifihcficobnaaGreatDoor
open Go.RowKit Go.Gs
set_option linter.unusedVariables false

set_option maxRecDepth 100000 in
set_option maxHeartbeats 4000000 in
theorem count_is (v : Value) (pss : List (List (List UInt8))) (w : World) (hp : RList w v S pss) (hn : pss.length ≤ 1000) (hb : pss.flatten.length ≤ 1000000000000000000) :
    Calls Tryz.prog 139 #[v] w fun e w' => e = .returned (.int .i64 (pss.flatten.length : Int)) ∧ w' = w := by
  obtain ⟨ao, cap, rfl, hc1, hc2⟩ := hp.shape
  have HP : Hid (RList w (.slice ao pss.length cap) S pss) := hp
  obtain ⟨N, hN⟩ : ∃ N, N = pss.length := ⟨_, rfl⟩
  have HN : Hid (N = pss.length) := hN
  have hN4 : N ≤ 1000 := by omega
  have HT : Hid (pss.flatten.length ≤ 1000000000000000000) := hb
  rw [← hN]
  clear hN hp hn hc1 hc2 hb
  go_enter Tryz.func139, Tryz.ntmps139
  go_wp2_with fail
  go_loopw [3, 8] (fun s i wr => ∃ k : Nat, ∃ m : Nat, k ≤ N ∧ m ≤ 1000000000000000000 ∧ i = .int .i64 k ∧ s = .int .i64 m ∧ wr = w ∧ Hid (m = ((pss.take k).flatten).length))
    (fun _ i _ => N - (intOf i).toNat)
  case atStart => exact ⟨0, 0, Nat.zero_le _, by omega, rfl, rfl, rfl, (show _ = _ from by simp)⟩
  case round =>
    obtain ⟨k, m, hk, hm, rfl, rfl, hw, hmk⟩ := hrel
    obtain rfl : w = wr := hw.symm
    clear hw
    by_cases hlt : k < N
    · obtain ⟨p, hpk⟩ : ∃ p, pss[k]? = some p := ⟨_, List.getElem?_eq_getElem (by have := HN.out; omega)⟩
      have hsum : m + p.length ≤ 1000000000000000000 := by
        have h1 := flat_at_le hpk
        have h2 := hmk.out
        have h3 := HT.out
        omega
      have HS : Hid (m + p.length = ((pss.take (k + 1)).flatten).length) := (show _ = _ from by rw [flat_step hpk, List.length_append, ← hmk.out])
      obtain ⟨b, off, au, cu, rfl, hcell, _⟩ := HP.out.at hpk
      clear hpk hmk
      generalize p.length = pl at *
      go_wp2_with fail
      go_roundw
      case rel => exact ⟨k + 1, m + pl, by omega, by omega, by go_num, by go_num, by simp, HS.out⟩
      case measure => simp [intOf]; omega
    · have hkN : k = N := by omega
      have HD : Hid (m = pss.flatten.length) := (show _ = _ from by
        have h := hmk.out
        rw [hkN, HN.out, List.take_length] at h
        exact h)
      clear hmk
      go_wp2_with fail
      go_ret
      refine ⟨?_, rfl⟩
      rw [← HD.out]
      rfl
end Go.Proofs.YtkifihcficobnaaGreatDoor
namespace Go.Proofs.YtkifihcficobnaaGreatDoor
open Go.RowKit Go.Gs
set_option linter.unusedVariables false

theorem less_eq : ∀ (x y : List UInt8), Op.bytesLess x y = decide (x < y)
  | [], [] => by simp [Op.bytesLess]
  | _ :: _, [] => by simp [Op.bytesLess]
  | [], _ :: _ => by simp [Op.bytesLess]
  | a :: x, b :: y => by
    rw [Op.bytesLess, less_eq x y]
    simp only [List.cons_lt_cons_iff]
    by_cases h1 : a < b <;> by_cases h2 : a = b <;> by_cases h3 : x < y <;> simp [h1, h2, h3]
theorem str_data {sx : ByteArray} {l : List UInt8} (h : Value.string sx = S l) : sx.toList = l := by
  unfold S at h
  injection h with h
  rw [h, ByteArray.toList_eq]
theorem less_is {sx tx : ByteArray} {x t : List UInt8} (hs : Value.string sx = S x) (ht : Value.string tx = S t) : Op.bytesLess sx.toList tx.toList = decide (x < t) := by
  rw [str_data hs, str_data ht, less_eq]

theorem below_dn {B : Nat} {a w : World} (h : Below B a w) (q : Nat) : Below B a (w.drewN q) := ⟨h.os, h.tape, h.output, h.size, h.block⟩
def lix : Option (Nat × List UInt8) → Int
  | none => -1
  | some (j, _) => (j : Int)
theorem leastTo_nil {ps : List (List (List UInt8))} {k : Nat} (h : ps[k]? = some []) : leastTo ps (k + 1) = leastTo ps k := by simp [leastTo, h]
theorem leastTo_first {ps : List (List (List UInt8))} {k : Nat} {x : List UInt8} {r : List (List UInt8)} (h : ps[k]? = some (x :: r)) (hn : leastTo ps k = none) : leastTo ps (k + 1) = some (k, x) := by simp [leastTo, h, hn]
theorem leastTo_less {ps : List (List (List UInt8))} {k j : Nat} {x t : List UInt8} {r : List (List UInt8)} (h : ps[k]? = some (x :: r)) (hn : leastTo ps k = some (j, t)) (hl : x < t) : leastTo ps (k + 1) = some (k, x) := by simp [leastTo, h, hn, hl]
theorem leastTo_more {ps : List (List (List UInt8))} {k j : Nat} {x t : List UInt8} {r : List (List UInt8)} (h : ps[k]? = some (x :: r)) (hn : leastTo ps k = some (j, t)) (hl : ¬ x < t) : leastTo ps (k + 1) = some (j, t) := by simp [leastTo, h, hn, hl]
theorem leastTo_at {ps : List (List (List UInt8))} {k j : Nat} {t : List UInt8} (h : leastTo ps k = some (j, t)) : j < k ∧ ∃ r, ps[j]? = some (t :: r) := by
  obtain ⟨h1, h2, _⟩ := leastTo_some ps k j t h
  refine ⟨h1, ?_⟩
  cases hp : ps[j]? with
  | none => rw [hp] at h2; cases h2
  | some p =>
    rw [hp] at h2
    cases p with
    | nil => cases h2
    | cons x r =>
      simp only [Option.bind_some, List.head?_cons, Option.some.injEq] at h2
      exact ⟨r, by rw [h2]⟩
/-- The first of a list that has one. -/
theorem reads_first {w : World} {au : Option Addr} {cu : Nat} {x : List UInt8} {r : List (List UInt8)} (h : Reads w (.slice au (x :: r).length cu) (x :: r).length ((x :: r).map S)) :
    ∃ b off sx, au = some ⟨b, off, none⟩ ∧ w.cell? ⟨b, off, none⟩ = some (.string sx) ∧ Value.string sx = S x ∧ cu ≤ 9223372036854775807 ∧ (x :: r).length ≤ cu := by
  obtain ⟨_, ao, cap, e, h1, h2, h5⟩ := h
  injection e with e1 e2 e3
  subst e1 e3
  obtain ⟨b, off, hao, hc⟩ := h5 (by simp)
  refine ⟨b, off, ⟨x.toArray⟩, hao, ?_, rfl, by simpa [maxLen] using h2, h1⟩
  have := hc 0 (S x) (by simp)
  exact this

set_option maxRecDepth 100000 in
set_option maxHeartbeats 4000000 in
theorem least_is (v : Value) (ps : List (List (List UInt8))) (w : World) (hp : RList w v S ps) (hn : ps.length ≤ 1000) :
    Calls Tryz.prog 140 #[v] w fun e w' => e = .returned (.int .i64 (lix (least ps))) ∧ ∃ q, w' = w.drewN q := by
  obtain ⟨ao, cap, rfl, hc1, hc2⟩ := hp.shape
  have HP : Hid (RList w (.slice ao ps.length cap) S ps) := hp
  obtain ⟨N, hN⟩ : ∃ N, N = ps.length := ⟨_, rfl⟩
  have HN : Hid (N = ps.length) := hN
  have hN4 : N ≤ 1000 := by omega
  have hcN : N ≤ cap := by omega
  have hcm : cap ≤ 9223372036854775807 := by simpa [maxLen] using hc2
  rw [← hN]
  clear hN hp hn hc1 hc2
  go_enter Tryz.func140, Tryz.ntmps140
  go_wp2_with fail
  go_loopw [3, 8] (fun s i wr => ∃ k : Nat, ∃ z : Int, k ≤ N ∧ i = .int .i64 k ∧ s = .int .i64 z ∧ (∃ q, wr = w.drewN q) ∧ Hid (z = lix (leastTo ps k)))
    (fun _ i _ => N - (intOf i).toNat)
  case atStart => exact ⟨0, -1, Nat.zero_le _, rfl, rfl, ⟨0, rfl⟩, (show _ = _ from rfl)⟩
  case round =>
    obtain ⟨k, z, hk, rfl, rfl, ⟨q0, hw⟩, hz⟩ := hrel
    have HPr : Hid (RList wr (.slice ao N cap) S ps) := by rw [hw, HN.out]; exact HP.out.below (below_dn (Below.refl _ _) _)
    have HW : Hid (wr = w.drewN q0) := hw
    clear hw
    by_cases hlt : k < N
    · obtain ⟨p, hpk⟩ : ∃ p, ps[k]? = some p := ⟨_, List.getElem?_eq_getElem (by have := HN.out; omega)⟩
      obtain ⟨b, off, au, cu, rfl, hcell, hru⟩ := HPr.out.at hpk
      cases p with
      | nil =>
        have HL : Hid _ := leastTo_nil hpk
        simp only [List.length_nil] at hcell
        clear hpk hru
        go_wp2_with fail
        go_quiet (fail)
        go_wp2_with fail
        go_roundw
        case rel => exact ⟨k + 1, z, by omega, by go_num, rfl, ⟨_, by rw [HW.out, World.drewN_drewN]⟩, (show _ = _ from by rw [HL.out]; exact hz.out)⟩
        case measure => simp [intOf]; omega
      | cons x r =>
        obtain ⟨b1, o1, sx, rfl, hc1, hsx, hcu1, hcu2⟩ := reads_first hru
        have Hsx : Hid _ := hsx
        have hpl : (x :: r).length = r.length + 1 := rfl
        rw [hpl] at hcell hcu2
        clear hsx hru hpl
        generalize r.length = rl at *
        cases hlk : leastTo ps k with
        | none =>
          have HL : Hid _ := leastTo_first hpk hlk
          obtain rfl : z = -1 := by rw [hz.out, hlk]; rfl
          clear hpk hlk
          go_wp2_with fail
          go_quiet (fail)
          go_wp2_with fail
          go_roundw
          case rel => exact ⟨k + 1, k, by omega, by go_num, rfl, ⟨_, by rw [HW.out, World.drewN_drewN]⟩, (show _ = _ from by rw [HL.out]; rfl)⟩
          case measure => simp [intOf]; omega
        | some jt =>
          obtain ⟨j, t⟩ := jt
          obtain ⟨hjk, r', hpj⟩ := leastTo_at hlk
          obtain ⟨b', off', au', cu', e', hcj, hrj⟩ := HPr.out.at hpj
          injection e' with e'
          injection e' with e1 e2
          subst e1 e2
          obtain ⟨b2, o2, tx, rfl, hc2, htx, hcu3, hcu4⟩ := reads_first hrj
          have Htx : Hid _ := htx
          have hpl : (t :: r').length = r'.length + 1 := rfl
          rw [hpl] at hcj hcu4
          clear htx hrj hpl hpj
          generalize r'.length = rl' at *
          obtain rfl : z = (j : Int) := by rw [hz.out, hlk]; rfl
          have hj0 : decide ((j : Int) < 0) = false := decide_eq_false (by omega)
          have hless := less_is Hsx.out Htx.out
          by_cases hxt : x < t
          · have HL : Hid _ := leastTo_less hpk hlk hxt
            rw [decide_eq_true hxt] at hless
            clear hpk hlk hz hxt
            go_wp2_with fail
            go_quiet (fail)
            go_wp2_with fail
            go_roundw
            case rel => exact ⟨k + 1, k, by omega, by go_num, rfl, ⟨_, by rw [HW.out, World.drewN_drewN]⟩, (show _ = _ from by rw [HL.out]; rfl)⟩
            case measure => simp [intOf]; omega
          · have HL : Hid _ := leastTo_more hpk hlk hxt
            rw [decide_eq_false hxt] at hless
            clear hpk hlk hz hxt
            go_wp2_with fail
            go_quiet (fail)
            go_wp2_with fail
            go_roundw
            case rel => exact ⟨k + 1, j, by omega, by go_num, rfl, ⟨_, by rw [HW.out, World.drewN_drewN]⟩, (show _ = _ from by rw [HL.out]; rfl)⟩
            case measure => simp [intOf]; omega
    · have hkN : k = N := by omega
      have HD : Hid (z = lix (least ps)) := (show _ = _ from by
        have h := hz.out
        rw [hkN, HN.out] at h
        exact h)
      clear hz
      go_wp2_with fail
      go_ret
      refine ⟨?_, ⟨q0, HW.out⟩⟩
      rw [← HD.out]
      rfl
end Go.Proofs.YtkifihcficobnaaGreatDoor
namespace Go.Proofs.YtkifihcficobnaaGreatDoor
open Go.RowKit Go.Gs
set_option linter.unusedVariables false

theorem row_of_owns {w : World} {B : Nat} {t : TypeId} {G n : Nat} {xs : List Value} (h : w.ownsRow B t 1 (.slice (some ⟨G, 0, none⟩) n n) n xs) : w.heap[G]? = some (.cells xs.toArray t (0, 0)) ∧ xs.length = n ∧ B ≤ G := by
  obtain ⟨h1, h2 | ⟨g, cap, cur, h2, h3, h4, h5, h6, h7, h8⟩⟩ := h
  · cases h2.1
  · injection h2 with e1 e2 e3
    injection e1 with e1
    injection e1 with e1
    subst e1 e3
    have hx : cur = xs.toArray := by
      rw [← h8, List.take_of_length_le (by simp; omega)]
    exact ⟨by rw [h4, hx], by omega, h3⟩
theorem owns_of_row {w : World} {B : Nat} {t : TypeId} {G n : Nat} {xs : List Value} (h : w.heap[G]? = some (.cells xs.toArray t (0, 0))) (hl : xs.length = n) (hB : B ≤ G) (hm : n ≤ 1000000) : w.ownsRow B t 1 (.slice (some ⟨G, 0, none⟩) n n) n xs :=
  ⟨by omega, .inr ⟨G, n, xs.toArray, rfl, hB, h, Nat.le_refl _, by unfold maxLen; omega, by simp [hl], by rw [Nat.mul_one, ← hl]; simp⟩⟩
theorem below_grown {B : Nat} {w w1 : World} (h : w.grownBy w1 none) (hB : B ≤ w.heap.size) : Below B w w1 := ⟨h.os, h.tape, h.output, h.size, fun k hk => h.block k (by omega) (by simp)⟩

theorem beh_step {ps : List (List (List UInt8))} {k : Nat} {p : List (List UInt8)} (h : ps[k]? = some p) : splice (((ps.take k).flatten).map S ++ List.replicate (ps.flatten.length - ((ps.take k).flatten).length) (S [])) ((ps.take k).flatten).length (p.map S) = ((ps.take (k + 1)).flatten).map S ++ List.replicate (ps.flatten.length - ((ps.take (k + 1)).flatten).length) (S []) := by
  have h1 := flat_at_le h
  rw [flat_step h]
  generalize ((ps.take k).flatten) = A at *
  unfold splice
  rw [List.take_append_of_le_length (by simp), List.take_of_length_le (by simp), List.drop_append, List.drop_of_length_le (by simp)]
  simp only [List.length_map, List.nil_append, List.drop_replicate, List.map_append, List.length_append, List.append_assoc]
  congr 3
  omega
theorem infoStr1 : (Tryz.prog.info? 9).map (·.size) = some 1 := by kernel_rfl

set_option maxRecDepth 100000 in
set_option maxHeartbeats 4000000 in
theorem behind_is (v : Value) (ps : List (List (List UInt8))) (w : World) (hp : RList w v S ps) (hn : ps.length ≤ 1000) (hb : ps.flatten.length ≤ 1000000) :
    Calls Tryz.prog 110 #[v] w fun e w' => ∃ r, e = .returned r ∧ w'.ownsRow w.heap.size 9 1 r ps.flatten.length (ps.flatten.map S) ∧ Below w.heap.size w w' := by
  obtain ⟨i0, hi, hz0, hz1, hz2⟩ := info_parts infoStr
  have hcount := count_is v ps w hp hn (by omega)
  obtain ⟨ao, cap, rfl, hc1, hc2⟩ := hp.shape
  have HP : Hid (RList w (.slice ao ps.length cap) S ps) := hp
  obtain ⟨N, hN⟩ : ∃ N, N = ps.length := ⟨_, rfl⟩
  have HN : Hid (N = ps.length) := hN
  have hN4 : N ≤ 1000 := by omega
  obtain ⟨T, hT⟩ : ∃ T, T = ps.flatten.length := ⟨_, rfl⟩
  have HT : Hid (T = ps.flatten.length) := hT
  have hTb : T ≤ 1000000 := by omega
  have hb2 : i0.bytes * T ≤ 281474976710656 := by rw [hz2]; omega
  have hb3 : T ≤ maxLen := by unfold maxLen; omega
  rw [← hT, ← hN] at hcount
  rw [← hT, ← hN]
  clear hN hp hn hc1 hc2 hT hb
  go_enter Tryz.func110, Tryz.ntmps110
  go_wp2_with (first | (go_at_call 139; refine hcount.mono ?_; rintro e w9 ⟨rfl, hw9⟩; obtain rfl : w = w9 := hw9.symm) | (at_make; refine wpList_make_full _ rfl (.tmp 8) (.tmp 8) 34 rfl w.heap.size 9 i0 (.string ⟨#[]⟩) 1 Tryz.underlying34 hi hz0 hz1 .i64 .i64 _ _ T rfl rfl rfl rfl hb2 hb3 (Nat.le_refl _) ?_))
  intro w2 hout hgrow2
  have HB2 : Hid (Below w.heap.size w w2) := below_grown hgrow2 (Nat.le_refl _)
  have HR2 : Hid (w2.heap[w.heap.size]? = some (.cells ((((ps.take 0).flatten).map S ++ List.replicate (T - 0) (S [])).toArray) 9 (0, 0))) := by
    have := (row_of_owns hout).1
    rw [toList_madeCells_one] at this
    exact this
  clear hout hgrow2 hw9 hcount
  go_wp2_with fail
  go_loopw [4, 13] (fun s i wr => ∃ k m : Nat, ∃ ro, k ≤ N ∧ m ≤ T ∧ i = .int .i64 k ∧ s = .slice ro (T - m) (T - m) ∧ (m < T → ro = some ⟨w.heap.size, m, none⟩) ∧ Hid (m = ((ps.take k).flatten).length) ∧ Hid (wr.heap[w.heap.size]? = some (.cells ((((ps.take k).flatten).map S ++ List.replicate (T - m) (S [])).toArray) 9 (0, 0))) ∧ Hid (Below w.heap.size w wr))
    (fun _ i _ => N - (intOf i).toNat)
  case atStart => exact ⟨0, 0, _, Nat.zero_le _, Nat.zero_le _, rfl, rfl, fun _ => rfl, (show _ = _ from by simp), HR2.out, HB2.out⟩
  case round =>
    obtain ⟨k, m, ro, hk, hm, rfl, rfl, hro, hmk, hrow, hbel⟩ := hrel
    by_cases hlt : k < N
    · obtain ⟨p, hpk⟩ : ∃ p, ps[k]? = some p := ⟨_, List.getElem?_eq_getElem (by have := HN.out; omega)⟩
      have hsum : m + p.length ≤ T := by
        have h1 := flat_at_le hpk
        have h2 := hmk.out
        have h3 := HT.out
        omega
      have HS : Hid (m + p.length = ((ps.take (k + 1)).flatten).length) := (show _ = _ from by rw [flat_step hpk, List.length_append, ← hmk.out])
      have HSp : Hid _ := beh_step hpk
      have HPr : Hid (RList wr (.slice ao N cap) S ps) := by rw [HN.out]; exact HP.out.below hbel.out
      obtain ⟨b, off, au, cu, rfl, hcell, hru⟩ := HPr.out.at hpk
      obtain ⟨L, hL⟩ : ∃ L, L = ((ps.take k).flatten).map S ++ List.replicate (T - m) (S []) := ⟨_, rfl⟩
      have HL : Hid (L = ((ps.take k).flatten).map S ++ List.replicate (T - m) (S [])) := hL
      have hLl : L.length = T := by rw [hL, List.length_append, List.length_map, List.length_replicate, ← hmk.out]; omega
      obtain ⟨cs, hcs⟩ : ∃ cs, cs = p.map S := ⟨_, rfl⟩
      have hcl : cs.length = p.length := by rw [hcs]; simp
      have HC : Hid (cs = p.map S) := hcs
      have HRU : Hid _ := hru
      have hrow' : wr.heap[w.heap.size]? = some (.cells L.toArray 9 (0, 0)) := by rw [hL]; exact hrow.out
      have HROW : Hid _ := hrow'
      clear hpk hrow hL hcs hru hrow'
      obtain ⟨pl, hpl⟩ : ∃ pl, pl = p.length := ⟨_, rfl⟩
      have HPL : Hid (pl = p.length) := hpl
      rw [← hpl] at hcell hsum hcl
      clear hpl
      go_wp2_with (refine wpList_copy_splice rfl (.tmp 18) (.tmp 19) 34 34 rfl 9 Tryz.underlying34 infoStr1 ro au (T - m) (T - m) pl cu rfl rfl w.heap.size m L 9 HROW.out cs ?c1 ?c2 ?c3 ?c4 w.heap.size w hbel.out (Nat.le_refl _) ?_)

      case c1 => rw [hcl]; exact (Nat.min_eq_left (by omega)).symm
      case c2 =>
        intro h0
        refine ⟨hro (by omega), ?_⟩
        obtain ⟨_, ao', cap', e, _, _, h5⟩ := HRU.out
        injection e with e1 e2 e3
        obtain ⟨b', off', e4, hc⟩ := h5 (by rw [← HPL.out]; omega)
        refine ⟨⟨b', off', none⟩, e1.trans e4, fun j u hu => ?_⟩
        have hadd : (⟨b', off', none⟩ : Addr).add j = ⟨b', off' + j, none⟩ := by unfold Addr.add; split <;> simp_all
        rw [hadd]
        exact hc j u (by rw [← HC.out]; exact hu)
      case c3 => omega
      case c4 => intro u hu; rw [HC.out] at hu; obtain ⟨x, _, rfl⟩ := List.mem_map.1 hu; rfl
      intro w3 hr3 hb3'
      have HB3 : Hid (Below w.heap.size w w3) := hb3'
      have HR3 : Hid (w3.heap[w.heap.size]? = some (.cells ((((ps.take (k + 1)).flatten).map S ++ List.replicate (T - (m + pl)) (S [])).toArray) 9 (0, 0))) := (show _ = _ from by
        have e1 := hr3.out
        have e2 := HSp.out
        rw [← hmk.out, ← HT.out, ← HL.out, ← HC.out, ← HS.out, ← HPL.out] at e2
        rw [e1, e2])
      clear hr3 hb3'
      go_wp2_with fail
      go_roundw
      case rel => exact ⟨k + 1, m + pl, _, by omega, by omega, by go_num, by rw [Nat.sub_add_eq], fun h => by simp only [hro (by omega), Addr.add]; simp; rw [if_neg (by omega)]; by_cases h0 : pl = 0 <;> simp [h0], (show _ = _ from by rw [← HS.out, HPL.out]), HR3.out, HB3.out⟩
      case measure => simp [intOf]; omega
    · have hkN : k = N := by omega
      have HO : Hid (wr.ownsRow w.heap.size 9 1 (.slice (some ⟨w.heap.size, 0, none⟩) T T) T (ps.flatten.map S)) := by
        have h1 := hrow.out
        have h2 := hmk.out
        rw [hkN, HN.out, List.take_length] at h1 h2
        have h3 : T - m = 0 := by have := HT.out; omega
        rw [h3] at h1
        simp only [List.replicate_zero, List.append_nil] at h1
        exact owns_of_row h1 (by rw [List.length_map]; exact HT.out.symm) (Nat.le_refl _) (by omega)
      clear hrow hmk
      go_wp2_with fail
      go_ret
      exact ⟨_, rfl, HO.out, hbel.out⟩
end Go.Proofs.YtkifihcficobnaaGreatDoor
