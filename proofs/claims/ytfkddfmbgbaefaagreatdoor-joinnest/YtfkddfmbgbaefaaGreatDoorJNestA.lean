/- What the developers' join's size, count, least do. What the developers' join's least does. What the developers' join's behind does. What the developers' join's number and sum do. What the developers' join's sum, For, Check and command's Over do. What the developers' join's Check does. What the developers' command's Over does. What the developers' join's merge does. What the developers' join's over does. What the developers' join's Do answers. What the developers' join's Do makes of right parts. The closed facts that the sentences on joins ask for. What the sentences' small does, of a slice of slices. The sentence on joins within joins: what its closure does. The sentence on joins within joins: where nothing is done. The sentence on joins within joins: what is done. The sentence on joins within joins: sums. The sentence on joins within joins: its walk, whatever comes in. -/
import Derived.Test.YtfkddfmbgbaefaaGreatDoorRList
import Derived.Test.YtfkddfmbgbaefaaGreatDoorJoinMath
import Derived.BigQuiet
import Derived.Deep.QuietTactic
import Derived.Laws.CopyOwn
import Derived.OwnWalk
import Derived.Test.YtfkddfmbgbaefaaGreatDoorNumLib
import Derived.Test.YtfkddfmbgbaefaaGreatDoorDevDo
import Derived.Lib.IfaceNeq
import Derived.Test.YtfkddfmbgbaefaaGreatDoorShelf5
import Derived.Laws.StructEq
import Derived.Deep.RegionWith
import Derived.Lib.SlBytesConst
import Derived.Test.YtfkddfmbgbaefaaGreatDoorSmall
import Derived.Test.YtfkddfmbgbaefaaGreatDoorByteFns
namespace Go.Proofs.YtfkddfmbgbaefaaGreatDoor
open Go.RowKit Go.Gs
set_option linter.unusedVariables false

set_option maxRecDepth 100000 in
set_option maxHeartbeats 4000000 in
theorem size_is (v : Value) (pss : List (List UInt8)) (w : World) (hp : RList w v U pss) (hn : pss.length ≤ 1000) (hb : pss.flatten.length ≤ 1000000000000000000) :
    Calls Tryz.prog 54 #[v] w fun e w' => e = .returned (.int .i64 (pss.flatten.length : Int)) ∧ w' = w := by
  obtain ⟨ao, cap, rfl, hc1, hc2⟩ := hp.shape
  have HP : Hid (RList w (.slice ao pss.length cap) U pss) := hp
  obtain ⟨N, hN⟩ : ∃ N, N = pss.length := ⟨_, rfl⟩
  have HN : Hid (N = pss.length) := hN
  have hN4 : N ≤ 1000 := by omega
  have HT : Hid (pss.flatten.length ≤ 1000000000000000000) := hb
  rw [← hN]
  clear hN hp hn hc1 hc2 hb
  go_enter Tryz.func54, Tryz.ntmps54
  go_wp2_with fail
  go_loopw [3, 8] (fun s i wr => ∃ k : Nat, ∃ m : Nat, k ≤ N ∧ m ≤ 1000000000000000000 ∧ i = .int .i64 k ∧ s = .int .i64 m ∧ wr = w ∧ Hid (m = ((pss.take k).flatten).length))
    (fun _ i _ => N - (intOf i).toNat)
  case atStart => exact ⟨0, 0, Nat.zero_le _, by omega, rfl, rfl, rfl, (show _ = _ from by simp)⟩
  case round =>
    obtain ⟨k, m, hk, hm, rfl, rfl, hw, hmk⟩ := hrel
    obtain rfl : w = wr := hw.symm
    clear hw
    by_cases hlt : k < N
    · obtain ⟨p, hpk⟩ : ∃ p, pss[k]? = some p := ⟨_, List.getElem?_eq_getElem (by have := HN.out; omega)⟩
      have hsum : m + p.length ≤ 1000000000000000000 := by
        have h1 := flat_at_le hpk
        have h2 := hmk.out
        have h3 := HT.out
        omega
      have HS : Hid (m + p.length = ((pss.take (k + 1)).flatten).length) := (show _ = _ from by rw [flat_step hpk, List.length_append, ← hmk.out])
      obtain ⟨b, off, au, cu, rfl, hcell, _⟩ := HP.out.at hpk
      clear hpk hmk
      generalize p.length = pl at *
      go_wp2_with fail
      go_roundw
      case rel => exact ⟨k + 1, m + pl, by omega, by omega, by go_num, by go_num, by simp, HS.out⟩
      case measure => simp [intOf]; omega
    · have hkN : k = N := by omega
      have HD : Hid (m = pss.flatten.length) := (show _ = _ from by
        have h := hmk.out
        rw [hkN, HN.out, List.take_length] at h
        exact h)
      clear hmk
      go_wp2_with fail
      go_ret
      refine ⟨?_, rfl⟩
      rw [← HD.out]
      rfl

set_option maxRecDepth 100000 in
set_option maxHeartbeats 4000000 in
theorem count_is (v : Value) (pss : List (List (List UInt8))) (w : World) (hp : RList w v S pss) (hn : pss.length ≤ 1000) (hb : pss.flatten.length ≤ 1000000000000000000) :
    Calls Tryz.prog 111 #[v] w fun e w' => e = .returned (.int .i64 (pss.flatten.length : Int)) ∧ w' = w := by
  obtain ⟨ao, cap, rfl, hc1, hc2⟩ := hp.shape
  have HP : Hid (RList w (.slice ao pss.length cap) S pss) := hp
  obtain ⟨N, hN⟩ : ∃ N, N = pss.length := ⟨_, rfl⟩
  have HN : Hid (N = pss.length) := hN
  have hN4 : N ≤ 1000 := by omega
  have HT : Hid (pss.flatten.length ≤ 1000000000000000000) := hb
  rw [← hN]
  clear hN hp hn hc1 hc2 hb
  go_enter Tryz.func111, Tryz.ntmps111
  go_wp2_with fail
  go_loopw [3, 8] (fun s i wr => ∃ k : Nat, ∃ m : Nat, k ≤ N ∧ m ≤ 1000000000000000000 ∧ i = .int .i64 k ∧ s = .int .i64 m ∧ wr = w ∧ Hid (m = ((pss.take k).flatten).length))
    (fun _ i _ => N - (intOf i).toNat)
  case atStart => exact ⟨0, 0, Nat.zero_le _, by omega, rfl, rfl, rfl, (show _ = _ from by simp)⟩
  case round =>
    obtain ⟨k, m, hk, hm, rfl, rfl, hw, hmk⟩ := hrel
    obtain rfl : w = wr := hw.symm
    clear hw
    by_cases hlt : k < N
    · obtain ⟨p, hpk⟩ : ∃ p, pss[k]? = some p := ⟨_, List.getElem?_eq_getElem (by have := HN.out; omega)⟩
      have hsum : m + p.length ≤ 1000000000000000000 := by
        have h1 := flat_at_le hpk
        have h2 := hmk.out
        have h3 := HT.out
        omega
      have HS : Hid (m + p.length = ((pss.take (k + 1)).flatten).length) := (show _ = _ from by rw [flat_step hpk, List.length_append, ← hmk.out])
      obtain ⟨b, off, au, cu, rfl, hcell, _⟩ := HP.out.at hpk
      clear hpk hmk
      generalize p.length = pl at *
      go_wp2_with fail
      go_roundw
      case rel => exact ⟨k + 1, m + pl, by omega, by omega, by go_num, by go_num, by simp, HS.out⟩
      case measure => simp [intOf]; omega
    · have hkN : k = N := by omega
      have HD : Hid (m = pss.flatten.length) := (show _ = _ from by
        have h := hmk.out
        rw [hkN, HN.out, List.take_length] at h
        exact h)
      clear hmk
      go_wp2_with fail
      go_ret
      refine ⟨?_, rfl⟩
      rw [← HD.out]
      rfl
end Go.Proofs.YtfkddfmbgbaefaaGreatDoor
namespace Go.Proofs.YtfkddfmbgbaefaaGreatDoor
open Go.RowKit Go.Gs
set_option linter.unusedVariables false

theorem less_eq : ∀ (x y : List UInt8), Op.bytesLess x y = decide (x < y)
  | [], [] => by simp [Op.bytesLess]
  | _ :: _, [] => by simp [Op.bytesLess]
  | [], _ :: _ => by simp [Op.bytesLess]
  | a :: x, b :: y => by
    rw [Op.bytesLess, less_eq x y]
    simp only [List.cons_lt_cons_iff]
    by_cases h1 : a < b <;> by_cases h2 : a = b <;> by_cases h3 : x < y <;> simp [h1, h2, h3]
theorem str_data {sx : ByteArray} {l : List UInt8} (h : Value.string sx = S l) : sx.toList = l := by
  unfold S at h
  injection h with h
  rw [h, ByteArray.toList_eq]
theorem less_is {sx tx : ByteArray} {x t : List UInt8} (hs : Value.string sx = S x) (ht : Value.string tx = S t) : Op.bytesLess sx.toList tx.toList = decide (x < t) := by
  rw [str_data hs, str_data ht, less_eq]

theorem below_dn {B : Nat} {a w : World} (h : Below B a w) (q : Nat) : Below B a (w.drewN q) := ⟨h.os, h.tape, h.output, h.size, h.block⟩
def lix : Option (Nat × List UInt8) → Int
  | none => -1
  | some (j, _) => (j : Int)
theorem leastTo_nil {ps : List (List (List UInt8))} {k : Nat} (h : ps[k]? = some []) : leastTo ps (k + 1) = leastTo ps k := by simp [leastTo, h]
theorem leastTo_first {ps : List (List (List UInt8))} {k : Nat} {x : List UInt8} {r : List (List UInt8)} (h : ps[k]? = some (x :: r)) (hn : leastTo ps k = none) : leastTo ps (k + 1) = some (k, x) := by simp [leastTo, h, hn]
theorem leastTo_less {ps : List (List (List UInt8))} {k j : Nat} {x t : List UInt8} {r : List (List UInt8)} (h : ps[k]? = some (x :: r)) (hn : leastTo ps k = some (j, t)) (hl : x < t) : leastTo ps (k + 1) = some (k, x) := by simp [leastTo, h, hn, hl]
theorem leastTo_more {ps : List (List (List UInt8))} {k j : Nat} {x t : List UInt8} {r : List (List UInt8)} (h : ps[k]? = some (x :: r)) (hn : leastTo ps k = some (j, t)) (hl : ¬ x < t) : leastTo ps (k + 1) = some (j, t) := by simp [leastTo, h, hn, hl]
theorem leastTo_at {ps : List (List (List UInt8))} {k j : Nat} {t : List UInt8} (h : leastTo ps k = some (j, t)) : j < k ∧ ∃ r, ps[j]? = some (t :: r) := by
  obtain ⟨h1, h2, _⟩ := leastTo_some ps k j t h
  refine ⟨h1, ?_⟩
  cases hp : ps[j]? with
  | none => rw [hp] at h2; cases h2
  | some p =>
    rw [hp] at h2
    cases p with
    | nil => cases h2
    | cons x r =>
      simp only [Option.bind_some, List.head?_cons, Option.some.injEq] at h2
      exact ⟨r, by rw [h2]⟩
/-- The first of a list that has one. -/
theorem reads_first {w : World} {au : Option Addr} {cu : Nat} {x : List UInt8} {r : List (List UInt8)} (h : Reads w (.slice au (x :: r).length cu) (x :: r).length ((x :: r).map S)) :
    ∃ b off sx, au = some ⟨b, off, none⟩ ∧ w.cell? ⟨b, off, none⟩ = some (.string sx) ∧ Value.string sx = S x ∧ cu ≤ 9223372036854775807 ∧ (x :: r).length ≤ cu := by
  obtain ⟨_, ao, cap, e, h1, h2, h5⟩ := h
  injection e with e1 e2 e3
  subst e1 e3
  obtain ⟨b, off, hao, hc⟩ := h5 (by simp)
  refine ⟨b, off, ⟨x.toArray⟩, hao, ?_, rfl, by simpa [maxLen] using h2, h1⟩
  have := hc 0 (S x) (by simp)
  exact this

set_option maxRecDepth 100000 in
set_option maxHeartbeats 4000000 in
theorem least_is (v : Value) (ps : List (List (List UInt8))) (w : World) (hp : RList w v S ps) (hn : ps.length ≤ 1000) :
    Calls Tryz.prog 112 #[v] w fun e w' => e = .returned (.int .i64 (lix (least ps))) ∧ ∃ q, w' = w.drewN q := by
  obtain ⟨ao, cap, rfl, hc1, hc2⟩ := hp.shape
  have HP : Hid (RList w (.slice ao ps.length cap) S ps) := hp
  obtain ⟨N, hN⟩ : ∃ N, N = ps.length := ⟨_, rfl⟩
  have HN : Hid (N = ps.length) := hN
  have hN4 : N ≤ 1000 := by omega
  have hcN : N ≤ cap := by omega
  have hcm : cap ≤ 9223372036854775807 := by simpa [maxLen] using hc2
  rw [← hN]
  clear hN hp hn hc1 hc2
  go_enter Tryz.func112, Tryz.ntmps112
  go_wp2_with fail
  go_loopw [3, 8] (fun s i wr => ∃ k : Nat, ∃ z : Int, k ≤ N ∧ i = .int .i64 k ∧ s = .int .i64 z ∧ (∃ q, wr = w.drewN q) ∧ Hid (z = lix (leastTo ps k)))
    (fun _ i _ => N - (intOf i).toNat)
  case atStart => exact ⟨0, -1, Nat.zero_le _, rfl, rfl, ⟨0, rfl⟩, (show _ = _ from rfl)⟩
  case round =>
    obtain ⟨k, z, hk, rfl, rfl, ⟨q0, hw⟩, hz⟩ := hrel
    have HPr : Hid (RList wr (.slice ao N cap) S ps) := by rw [hw, HN.out]; exact HP.out.below (below_dn (Below.refl _ _) _)
    have HW : Hid (wr = w.drewN q0) := hw
    clear hw
    by_cases hlt : k < N
    · obtain ⟨p, hpk⟩ : ∃ p, ps[k]? = some p := ⟨_, List.getElem?_eq_getElem (by have := HN.out; omega)⟩
      obtain ⟨b, off, au, cu, rfl, hcell, hru⟩ := HPr.out.at hpk
      cases p with
      | nil =>
        have HL : Hid _ := leastTo_nil hpk
        simp only [List.length_nil] at hcell
        clear hpk hru
        go_wp2_with fail
        go_quiet (fail)
        go_wp2_with fail
        go_roundw
        case rel => exact ⟨k + 1, z, by omega, by go_num, rfl, ⟨_, by rw [HW.out, World.drewN_drewN]⟩, (show _ = _ from by rw [HL.out]; exact hz.out)⟩
        case measure => simp [intOf]; omega
      | cons x r =>
        obtain ⟨b1, o1, sx, rfl, hc1, hsx, hcu1, hcu2⟩ := reads_first hru
        have Hsx : Hid _ := hsx
        have hpl : (x :: r).length = r.length + 1 := rfl
        rw [hpl] at hcell hcu2
        clear hsx hru hpl
        generalize r.length = rl at *
        cases hlk : leastTo ps k with
        | none =>
          have HL : Hid _ := leastTo_first hpk hlk
          obtain rfl : z = -1 := by rw [hz.out, hlk]; rfl
          clear hpk hlk
          go_wp2_with fail
          go_quiet (fail)
          go_wp2_with fail
          go_roundw
          case rel => exact ⟨k + 1, k, by omega, by go_num, rfl, ⟨_, by rw [HW.out, World.drewN_drewN]⟩, (show _ = _ from by rw [HL.out]; rfl)⟩
          case measure => simp [intOf]; omega
        | some jt =>
          obtain ⟨j, t⟩ := jt
          obtain ⟨hjk, r', hpj⟩ := leastTo_at hlk
          obtain ⟨b', off', au', cu', e', hcj, hrj⟩ := HPr.out.at hpj
          injection e' with e'
          injection e' with e1 e2
          subst e1 e2
          obtain ⟨b2, o2, tx, rfl, hc2, htx, hcu3, hcu4⟩ := reads_first hrj
          have Htx : Hid _ := htx
          have hpl : (t :: r').length = r'.length + 1 := rfl
          rw [hpl] at hcj hcu4
          clear htx hrj hpl hpj
          generalize r'.length = rl' at *
          obtain rfl : z = (j : Int) := by rw [hz.out, hlk]; rfl
          have hj0 : decide ((j : Int) < 0) = false := decide_eq_false (by omega)
          have hless := less_is Hsx.out Htx.out
          by_cases hxt : x < t
          · have HL : Hid _ := leastTo_less hpk hlk hxt
            rw [decide_eq_true hxt] at hless
            clear hpk hlk hz hxt
            go_wp2_with fail
            go_quiet (fail)
            go_wp2_with fail
            go_roundw
            case rel => exact ⟨k + 1, k, by omega, by go_num, rfl, ⟨_, by rw [HW.out, World.drewN_drewN]⟩, (show _ = _ from by rw [HL.out]; rfl)⟩
            case measure => simp [intOf]; omega
          · have HL : Hid _ := leastTo_more hpk hlk hxt
            rw [decide_eq_false hxt] at hless
            clear hpk hlk hz hxt
            go_wp2_with fail
            go_quiet (fail)
            go_wp2_with fail
            go_roundw
            case rel => exact ⟨k + 1, j, by omega, by go_num, rfl, ⟨_, by rw [HW.out, World.drewN_drewN]⟩, (show _ = _ from by rw [HL.out]; rfl)⟩
            case measure => simp [intOf]; omega
    · have hkN : k = N := by omega
      have HD : Hid (z = lix (least ps)) := (show _ = _ from by
        have h := hz.out
        rw [hkN, HN.out] at h
        exact h)
      clear hz
      go_wp2_with fail
      go_ret
      refine ⟨?_, ⟨q0, HW.out⟩⟩
      rw [← HD.out]
      rfl
end Go.Proofs.YtfkddfmbgbaefaaGreatDoor
namespace Go.Proofs.YtfkddfmbgbaefaaGreatDoor
open Go.RowKit Go.Gs
set_option linter.unusedVariables false

theorem row_of_owns {w : World} {B : Nat} {t : TypeId} {G n : Nat} {xs : List Value} (h : w.ownsRow B t 1 (.slice (some ⟨G, 0, none⟩) n n) n xs) : w.heap[G]? = some (.cells xs.toArray t (0, 0)) ∧ xs.length = n ∧ B ≤ G := by
  obtain ⟨h1, h2 | ⟨g, cap, cur, h2, h3, h4, h5, h6, h7, h8⟩⟩ := h
  · cases h2.1
  · injection h2 with e1 e2 e3
    injection e1 with e1
    injection e1 with e1
    subst e1 e3
    have hx : cur = xs.toArray := by
      rw [← h8, List.take_of_length_le (by simp; omega)]
    exact ⟨by rw [h4, hx], by omega, h3⟩
theorem owns_of_row {w : World} {B : Nat} {t : TypeId} {G n : Nat} {xs : List Value} (h : w.heap[G]? = some (.cells xs.toArray t (0, 0))) (hl : xs.length = n) (hB : B ≤ G) (hm : n ≤ 1000000) : w.ownsRow B t 1 (.slice (some ⟨G, 0, none⟩) n n) n xs :=
  ⟨by omega, .inr ⟨G, n, xs.toArray, rfl, hB, h, Nat.le_refl _, by unfold maxLen; omega, by simp [hl], by rw [Nat.mul_one, ← hl]; simp⟩⟩
theorem below_grown {B : Nat} {w w1 : World} (h : w.grownBy w1 none) (hB : B ≤ w.heap.size) : Below B w w1 := ⟨h.os, h.tape, h.output, h.size, fun k hk => h.block k (by omega) (by simp)⟩

theorem beh_step {ps : List (List (List UInt8))} {k : Nat} {p : List (List UInt8)} (h : ps[k]? = some p) : splice (((ps.take k).flatten).map S ++ List.replicate (ps.flatten.length - ((ps.take k).flatten).length) (S [])) ((ps.take k).flatten).length (p.map S) = ((ps.take (k + 1)).flatten).map S ++ List.replicate (ps.flatten.length - ((ps.take (k + 1)).flatten).length) (S []) := by
  have h1 := flat_at_le h
  rw [flat_step h]
  generalize ((ps.take k).flatten) = A at *
  unfold splice
  rw [List.take_append_of_le_length (by simp), List.take_of_length_le (by simp), List.drop_append, List.drop_of_length_le (by simp)]
  simp only [List.length_map, List.nil_append, List.drop_replicate, List.map_append, List.length_append, List.append_assoc]
  congr 3
  omega
theorem infoStr1 : (Tryz.prog.info? 9).map (·.size) = some 1 := by kernel_rfl

set_option maxRecDepth 100000 in
set_option maxHeartbeats 4000000 in
theorem behind_is (v : Value) (ps : List (List (List UInt8))) (w : World) (hp : RList w v S ps) (hn : ps.length ≤ 1000) (hb : ps.flatten.length ≤ 100000) :
    Calls Tryz.prog 87 #[v] w fun e w' => ∃ r, e = .returned r ∧ w'.ownsRow w.heap.size 9 1 r ps.flatten.length (ps.flatten.map S) ∧ Below w.heap.size w w' := by
  obtain ⟨i0, hi, hz0, hz1, hz2⟩ := info_parts infoStr
  have hcount := count_is v ps w hp hn (by omega)
  obtain ⟨ao, cap, rfl, hc1, hc2⟩ := hp.shape
  have HP : Hid (RList w (.slice ao ps.length cap) S ps) := hp
  obtain ⟨N, hN⟩ : ∃ N, N = ps.length := ⟨_, rfl⟩
  have HN : Hid (N = ps.length) := hN
  have hN4 : N ≤ 1000 := by omega
  obtain ⟨T, hT⟩ : ∃ T, T = ps.flatten.length := ⟨_, rfl⟩
  have HT : Hid (T = ps.flatten.length) := hT
  have hTb : T ≤ 100000 := by omega
  have hb2 : i0.bytes * T ≤ 281474976710656 := by rw [hz2]; omega
  have hb3 : T ≤ maxLen := by unfold maxLen; omega
  rw [← hT, ← hN] at hcount
  rw [← hT, ← hN]
  clear hN hp hn hc1 hc2 hT hb
  go_enter Tryz.func87, Tryz.ntmps87
  go_wp2_with (first | (go_at_call 111; refine hcount.mono ?_; rintro e w9 ⟨rfl, hw9⟩; obtain rfl : w = w9 := hw9.symm) | (at_make; refine wpList_make_full _ rfl (.tmp 8) (.tmp 8) 34 rfl w.heap.size 9 i0 (.string ⟨#[]⟩) 1 Tryz.underlying34 hi hz0 hz1 .i64 .i64 _ _ T rfl rfl rfl rfl hb2 hb3 (Nat.le_refl _) ?_))
  intro w2 hout hgrow2
  have HB2 : Hid (Below w.heap.size w w2) := below_grown hgrow2 (Nat.le_refl _)
  have HR2 : Hid (w2.heap[w.heap.size]? = some (.cells ((((ps.take 0).flatten).map S ++ List.replicate (T - 0) (S [])).toArray) 9 (0, 0))) := by
    have := (row_of_owns hout).1
    rw [toList_madeCells_one] at this
    exact this
  clear hout hgrow2 hw9 hcount
  go_wp2_with fail
  go_loopw [4, 13] (fun s i wr => ∃ k m : Nat, ∃ ro, k ≤ N ∧ m ≤ T ∧ i = .int .i64 k ∧ s = .slice ro (T - m) (T - m) ∧ (m < T → ro = some ⟨w.heap.size, m, none⟩) ∧ Hid (m = ((ps.take k).flatten).length) ∧ Hid (wr.heap[w.heap.size]? = some (.cells ((((ps.take k).flatten).map S ++ List.replicate (T - m) (S [])).toArray) 9 (0, 0))) ∧ Hid (Below w.heap.size w wr))
    (fun _ i _ => N - (intOf i).toNat)
  case atStart => exact ⟨0, 0, _, Nat.zero_le _, Nat.zero_le _, rfl, rfl, fun _ => rfl, (show _ = _ from by simp), HR2.out, HB2.out⟩
  case round =>
    obtain ⟨k, m, ro, hk, hm, rfl, rfl, hro, hmk, hrow, hbel⟩ := hrel
    by_cases hlt : k < N
    · obtain ⟨p, hpk⟩ : ∃ p, ps[k]? = some p := ⟨_, List.getElem?_eq_getElem (by have := HN.out; omega)⟩
      have hsum : m + p.length ≤ T := by
        have h1 := flat_at_le hpk
        have h2 := hmk.out
        have h3 := HT.out
        omega
      have HS : Hid (m + p.length = ((ps.take (k + 1)).flatten).length) := (show _ = _ from by rw [flat_step hpk, List.length_append, ← hmk.out])
      have HSp : Hid _ := beh_step hpk
      have HPr : Hid (RList wr (.slice ao N cap) S ps) := by rw [HN.out]; exact HP.out.below hbel.out
      obtain ⟨b, off, au, cu, rfl, hcell, hru⟩ := HPr.out.at hpk
      obtain ⟨L, hL⟩ : ∃ L, L = ((ps.take k).flatten).map S ++ List.replicate (T - m) (S []) := ⟨_, rfl⟩
      have HL : Hid (L = ((ps.take k).flatten).map S ++ List.replicate (T - m) (S [])) := hL
      have hLl : L.length = T := by rw [hL, List.length_append, List.length_map, List.length_replicate, ← hmk.out]; omega
      obtain ⟨cs, hcs⟩ : ∃ cs, cs = p.map S := ⟨_, rfl⟩
      have hcl : cs.length = p.length := by rw [hcs]; simp
      have HC : Hid (cs = p.map S) := hcs
      have HRU : Hid _ := hru
      have hrow' : wr.heap[w.heap.size]? = some (.cells L.toArray 9 (0, 0)) := by rw [hL]; exact hrow.out
      have HROW : Hid _ := hrow'
      clear hpk hrow hL hcs hru hrow'
      obtain ⟨pl, hpl⟩ : ∃ pl, pl = p.length := ⟨_, rfl⟩
      have HPL : Hid (pl = p.length) := hpl
      rw [← hpl] at hcell hsum hcl
      clear hpl
      go_wp2_with (refine wpList_copy_splice rfl (.tmp 18) (.tmp 19) 34 34 rfl 9 Tryz.underlying34 infoStr1 ro au (T - m) (T - m) pl cu rfl rfl w.heap.size m L 9 HROW.out cs ?c1 ?c2 ?c3 ?c4 w.heap.size w hbel.out (Nat.le_refl _) ?_)

      case c1 => rw [hcl]; exact (Nat.min_eq_left (by omega)).symm
      case c2 =>
        intro h0
        refine ⟨hro (by omega), ?_⟩
        obtain ⟨_, ao', cap', e, _, _, h5⟩ := HRU.out
        injection e with e1 e2 e3
        obtain ⟨b', off', e4, hc⟩ := h5 (by rw [← HPL.out]; omega)
        refine ⟨⟨b', off', none⟩, e1.trans e4, fun j u hu => ?_⟩
        have hadd : (⟨b', off', none⟩ : Addr).add j = ⟨b', off' + j, none⟩ := by unfold Addr.add; split <;> simp_all
        rw [hadd]
        exact hc j u (by rw [← HC.out]; exact hu)
      case c3 => omega
      case c4 => intro u hu; rw [HC.out] at hu; obtain ⟨x, _, rfl⟩ := List.mem_map.1 hu; rfl
      intro w3 hr3 hb3'
      have HB3 : Hid (Below w.heap.size w w3) := hb3'
      have HR3 : Hid (w3.heap[w.heap.size]? = some (.cells ((((ps.take (k + 1)).flatten).map S ++ List.replicate (T - (m + pl)) (S [])).toArray) 9 (0, 0))) := (show _ = _ from by
        have e1 := hr3.out
        have e2 := HSp.out
        rw [← hmk.out, ← HT.out, ← HL.out, ← HC.out, ← HS.out, ← HPL.out] at e2
        rw [e1, e2])
      clear hr3 hb3'
      go_wp2_with fail
      go_roundw
      case rel => exact ⟨k + 1, m + pl, _, by omega, by omega, by go_num, by rw [Nat.sub_add_eq], fun h => by simp only [hro (by omega), Addr.add]; simp; rw [if_neg (by omega)]; by_cases h0 : pl = 0 <;> simp [h0], (show _ = _ from by rw [← HS.out, HPL.out]), HR3.out, HB3.out⟩
      case measure => simp [intOf]; omega
    · have hkN : k = N := by omega
      have HO : Hid (wr.ownsRow w.heap.size 9 1 (.slice (some ⟨w.heap.size, 0, none⟩) T T) T (ps.flatten.map S)) := by
        have h1 := hrow.out
        have h2 := hmk.out
        rw [hkN, HN.out, List.take_length] at h1 h2
        have h3 : T - m = 0 := by have := HT.out; omega
        rw [h3] at h1
        simp only [List.replicate_zero, List.append_nil] at h1
        exact owns_of_row h1 (by rw [List.length_map]; exact HT.out.symm) (Nat.le_refl _) (by omega)
      clear hrow hmk
      go_wp2_with fail
      go_ret
      exact ⟨_, rfl, HO.out, hbel.out⟩
end Go.Proofs.YtfkddfmbgbaefaaGreatDoor
namespace Go.Proofs.YtfkddfmbgbaefaaGreatDoor
open Go.RowKit Go.Gs
set_option linter.unusedVariables false

/-- What is known of the world beside: the library's two errors are there. -/
def IsErr (w : World) (g : Nat) : Prop := ∃ ev, w.cell? ⟨g, 0, none⟩ = some ev ∧ (ev = .nilIface ∨ ∃ te pe, ev = .iface te pe)
theorem IsErr.below {w w' : World} {g : Nat} (h : IsErr w g) (hb : Below w.heap.size w w') : IsErr w' g := by
  obtain ⟨ev, h1, h2⟩ := h
  exact ⟨ev, (hb.cell (World.block_lt_of_cell? w _ h1)).trans h1, h2⟩
def KnownE (w : World) : Prop := Known w ∧ IsErr w 0 ∧ IsErr w 1
theorem KnownE.below {w w' : World} (h : KnownE w) (hb : Below w.heap.size w w') : KnownE w' := ⟨h.1.below hb, h.2.1.below hb, h.2.2.below hb⟩

theorem itoa_is (n : Int) (w : World) (h0 : -9223372036854775808 ≤ n) (h1 : n ≤ 9223372036854775807) (hK : Known w) :
    Calls Tryz.prog 49 #[.int .i64 n] w fun e w' => e = .returned (.string ⟨(Lib.itoa n).toArray⟩) ∧ Below w.heap.size w w' := by
  refine (Tryz.strconv_Itoa n h0 h1 w hK.2).mono ?_
  rintro e w1 ⟨rfl, q, os, hw1⟩
  exact ⟨rfl, by rw [hw1]; exact below_grow' _ _ (Nat.le_refl _)⟩
theorem bytes_below {w w' : World} (h : w' = w ∨ ∃ t, w' = Lib.bytesWorld w 5 t) : Below w.heap.size w w' := by
  rcases h with rfl | ⟨t, rfl⟩
  · exact Below.refl _ _
  · exact Lib.bytesWorld_below _ _ _
theorem atoi_ok (s : ByteArray) (n : Int) (w : World) (hs : s.size ≤ 281474976710656) (h : Lib.atoiAll s.data.toList = .ok n) :
    Calls Tryz.prog 38 #[.string s] w fun e w' => e = .returned (.tuple #[.int .i64 n, .nilIface]) ∧ Below w.heap.size w w' := by
  refine (Tryz.strconv_Atoi_ok s (by omega) n h w).mono ?_
  rintro e w' ⟨rfl, hw⟩
  exact ⟨rfl, bytes_below hw⟩
theorem atoi_bad (s : ByteArray) (w : World) (hs : s.size ≤ 281474976710656) (hE : KnownE w) (h : ∀ n, Lib.atoiAll s.data.toList ≠ .ok n) :
    Calls Tryz.prog 38 #[.string s] w fun e w' => ∃ z t p, e = .returned (.tuple #[.int .i64 z, .iface t p]) ∧ Below w.heap.size w w' := by
  cases hc : Lib.atoiAll s.data.toList with
  | ok n => exact absurd hc (h n)
  | «syntax» =>
    obtain ⟨ev, h1, h2⟩ := hE.2.1
    refine (Tryz.strconv_Atoi_syntax s hs hc ev w h1 h2).mono ?_
    rintro e w' ⟨N, rfl, _, _, hb⟩
    exact ⟨_, _, _, rfl, hb⟩
  | range =>
    obtain ⟨ev, h1, h2⟩ := hE.2.2
    refine (Tryz.strconv_Atoi_range s hs hc ev w h1 h2).mono ?_
    rintro e w' ⟨N, rfl, _, _, hb⟩
    exact ⟨_, _, _, rfl, hb⟩

set_option maxRecDepth 100000 in
set_option maxHeartbeats 4000000 in
theorem number_is (s : List UInt8) (w : World) (hs : s.length ≤ 100000) (hE : KnownE w) :
    Calls Tryz.prog 113 #[.string ⟨s.toArray⟩] w fun e w' => e = .returned (.int .i64 (numOf s : Int)) ∧ Below w.heap.size w w' := by
  have hd : (⟨s.toArray⟩ : ByteArray).data.toList = s := rfl
  have hsz : (⟨s.toArray⟩ : ByteArray).size = s.length := by simp [ByteArray.size]
  by_cases hok : ∃ n, Lib.atoiAll s = .ok n
  · obtain ⟨n, hn⟩ := hok
    have hb := Lib.atoiAll_bounds hn
    have hA := atoi_ok ⟨s.toArray⟩ n w (by omega) (by rw [hd]; exact hn)
    have hN := numOf_ok hn
    have hI := fun (W : World) (h : Known W) => itoa_is n W hb.1 hb.2 h
    have HE : Hid (KnownE w) := hE
    by_cases h0 : n < 0
    · have HN : Hid (numOf s = 0) := (show _ = _ by rw [hN, if_neg (by omega)])
      clear hN hI hE hd hsz
      go_enter Tryz.func113, Tryz.ntmps113
      go_wp2_with fail
      refine hA.mono ?_
      rintro e w1 ⟨rfl, hb1⟩
      have HB : Hid (Below w.heap.size w w1) := hb1
      clear hb1 hA
      go_wp2_with fail
      go_ret
      exact ⟨by rw [HN.out]; rfl, HB.out⟩
    · by_cases h1 : 4000 < n
      · have HN : Hid (numOf s = 0) := (show _ = _ by rw [hN, if_neg (by omega)])
        clear hN hI hE hd hsz
        go_enter Tryz.func113, Tryz.ntmps113
        go_wp2_with fail
        refine hA.mono ?_
        rintro e w1 ⟨rfl, hb1⟩
        have HB : Hid (Below w.heap.size w w1) := hb1
        clear hb1 hA
        go_wp2_with fail
        go_ret
        exact ⟨by rw [HN.out]; rfl, HB.out⟩
      · have hI' : ∀ (W : World), Known W → Calls Tryz.prog 49 #[.int .i64 n] W fun e w' => ∃ tx : ByteArray, e = .returned (.string tx) ∧ Hid (Value.string tx = S (Lib.itoa n)) ∧ Below W.heap.size W w' := by
          intro W hK
          refine (hI W hK).mono ?_
          rintro e w' ⟨rfl, hb⟩
          exact ⟨_, rfl, rfl, hb⟩
        obtain ⟨sx, hsx⟩ : ∃ sx : ByteArray, sx = ⟨s.toArray⟩ := ⟨_, rfl⟩
        have HSX : Hid (Value.string sx = S s) := by rw [hsx]; exact rfl
        rw [← hsx] at hA ⊢
        have HN : Hid _ := hN
        have HI : Hid _ := hI'
        have HNn : Hid (0 ≤ n ∧ n ≤ 4000) := ⟨by omega, by omega⟩
        clear hN hI hI' hE hd hsz hsx
        go_enter Tryz.func113, Tryz.ntmps113
        go_wp2_with fail
        refine hA.mono ?_
        rintro e w1 ⟨rfl, hb1⟩
        have HB : Hid (Below w.heap.size w w1) := hb1
        clear hb1 hA
        go_wp2_with fail
        refine (HI.out w1 (HE.out.below HB.out).1).mono ?_
        rintro e w2 ⟨tx, rfl, htx, hb2⟩
        have HB2 : Hid (Below w.heap.size w w2) := HB.out.trans (hb2.mono HB.out.size)
        clear hb2
        by_cases heq : Lib.itoa n = s
        · have hbe : (tx.toList == sx.toList) = true := by rw [str_data htx.out, str_data HSX.out, heq]; simp
          have HD : Hid ((numOf s : Int) = n) := (show _ = _ by
            rw [HN.out, if_pos ⟨HNn.out.1, HNn.out.2, heq⟩]
            have := HNn.out.1
            omega)
          clear heq
          go_wp2_with fail
          go_ret
          exact ⟨by rw [HD.out]; rfl, HB2.out⟩
        · have hbe : (tx.toList == sx.toList) = false := by rw [str_data htx.out, str_data HSX.out]; simpa using heq
          have HD : Hid ((numOf s : Int) = 0) := (show _ = _ by
            rw [HN.out, if_neg (fun h => heq h.2.2)]
            rfl)
          clear heq
          go_wp2_with fail
          go_ret
          exact ⟨by rw [HD.out]; rfl, HB2.out⟩
  · have hA := atoi_bad ⟨s.toArray⟩ w (by omega) hE (by rw [hd]; exact fun n h => hok ⟨n, h⟩)
    have HN : Hid (numOf s = 0) := numOf_bad (fun n h => hok ⟨n, h⟩)
    clear hok hE hd hsz
    go_enter Tryz.func113, Tryz.ntmps113
    go_wp2_with fail
    refine hA.mono ?_
    rintro e w1 ⟨z, t, p, rfl, hb1⟩
    have HB : Hid (Below w.heap.size w w1) := hb1
    clear hb1 hA
    go_wp2_with fail
    go_ret
    exact ⟨by rw [HN.out]; rfl, HB.out⟩
end Go.Proofs.YtfkddfmbgbaefaaGreatDoor
namespace Go.Proofs.YtfkddfmbgbaefaaGreatDoor
open Go.RowKit Go.Gs
set_option linter.unusedVariables false

theorem headNum_nil : headNum [] = 0 := rfl
theorem headNum_cons (x : List UInt8) (r : List (List UInt8)) : headNum (x :: r) = numOf x := by unfold headNum; rw [List.head?_cons, Option.map_some, Option.getD_some]
theorem jbox_cells {w w' : World} {a b c : Value} {t : TypeId} (h : Below (w.alloc (.cells #[a, b, c] t)).heap.size (w.alloc (.cells #[a, b, c] t)) w') : w'.cell? ⟨w.heap.size, 0, none⟩ = some a ∧ w'.cell? ⟨w.heap.size, 1, none⟩ = some b ∧ w'.cell? ⟨w.heap.size, 2, none⟩ = some c := by
  refine ⟨?_, ?_, ?_⟩
  all_goals
    rw [h.cell (by simp), cell_of_row _ _ _ _ _ _ (heap_alloc_new w _)]
    rfl

set_option maxRecDepth 100000 in
set_option maxHeartbeats 4000000 in
theorem sum_is (v : Value) (ps : List (List (List UInt8))) (w : World) (hp : RList w v S ps) (hn : ps.length ≤ 1000) (hsz : ∀ p ∈ ps, ∀ s ∈ p, s.length ≤ 100000) (hE : KnownE w) :
    Calls Tryz.prog 85 #[v] w fun e w' => e = .returned (.int .i64 (sumOf ps : Int)) ∧ Below w.heap.size w w' := by
  obtain ⟨ao, cap, rfl, hc1, hc2⟩ := hp.shape
  have HP : Hid (RList w (.slice ao ps.length cap) S ps) := hp
  obtain ⟨N, hN⟩ : ∃ N, N = ps.length := ⟨_, rfl⟩
  have HN : Hid (N = ps.length) := hN
  have hN4 : N ≤ 1000 := by omega
  have HE : Hid (KnownE w) := hE
  have HSZ : Hid _ := hsz
  rw [← hN]
  clear hN hp hn hc1 hc2 hE hsz
  go_enter Tryz.func85, Tryz.ntmps85
  go_wp2_with fail
  go_loopw [3, 8] (fun s i wr => ∃ k : Nat, ∃ m : Nat, k ≤ N ∧ m ≤ 4000 * k ∧ i = .int .i64 k ∧ s = .int .i64 m ∧ Hid (Below w.heap.size w wr) ∧ Hid (m = sumOf (ps.take k)))
    (fun _ i _ => N - (intOf i).toNat)
  case atStart => exact ⟨0, 0, Nat.zero_le _, by omega, rfl, rfl, Below.refl _ _, (show _ = _ from by simp [sumOf])⟩
  case round =>
    obtain ⟨k, m, hk, hm, rfl, rfl, hbel, hmk⟩ := hrel
    by_cases hlt : k < N
    · obtain ⟨p, hpk⟩ : ∃ p, ps[k]? = some p := ⟨_, List.getElem?_eq_getElem (by have := HN.out; omega)⟩
      have HPr : Hid (RList wr (.slice ao N cap) S ps) := by rw [HN.out]; exact HP.out.below hbel.out
      obtain ⟨b, off, au, cu, rfl, hcell, hru⟩ := HPr.out.at hpk
      have HS : Hid (m + headNum p = sumOf (ps.take (k + 1))) := (show _ = _ from by rw [sumOf_take hpk, ← hmk.out])
      have hpm : p ∈ ps := List.mem_of_getElem? hpk
      cases p with
      | nil =>
        simp only [List.length_nil] at hcell
        rw [headNum_nil] at HS
        clear hpk hru hmk hpm
        go_wp2_with fail
        go_roundw
        case rel => exact ⟨k + 1, m, by omega, by omega, by go_num, rfl, hbel, HS⟩
        case measure => simp [intOf]; omega
      | cons x r =>
        obtain ⟨b1, o1, sx, rfl, hc1, hsx, hcu1, hcu2⟩ := reads_first hru
        obtain rfl : sx = ⟨x.toArray⟩ := by unfold S at hsx; injection hsx
        have hnum := number_is x wr (HSZ.out _ hpm x (by simp)) (HE.out.below hbel.out)
        have hle := numOf_le x
        rw [headNum_cons] at HS
        have hpl : (x :: r).length = r.length + 1 := rfl
        rw [hpl] at hcell hcu2
        clear hsx hru hpl hpk hmk hpm
        generalize r.length = rl at *
        generalize numOf x = z at *
        go_wp2_with (go_at_call 113; refine hnum.mono ?_; rintro e w1 ⟨rfl, hb1⟩)
        have HB1 : Hid (Below w.heap.size w w1) := hbel.out.trans (hb1.mono hbel.out.size)
        clear hb1 hnum
        go_wp2_with fail
        go_roundw
        case rel => exact ⟨k + 1, m + z, by omega, by omega, by go_num, by go_num, HB1, HS⟩
        case measure => simp [intOf]; omega
    · have hkN : k = N := by omega
      have HD : Hid (m = sumOf ps) := (show _ = _ from by
        have h := hmk.out
        rw [hkN, HN.out, List.take_length] at h
        exact h)
      clear hmk
      go_wp2_with fail
      go_ret
      refine ⟨?_, hbel.out⟩
      rw [← HD.out]
      rfl

theorem howFor_cases (k : Int) : (k = 6 ∧ howFor k = 2) ∨ (k = 8 ∧ howFor k = 3) ∨ (k = 7 ∧ howFor k = 4) ∨ (k = 9 ∧ howFor k = 4) ∨ (k = 10 ∧ howFor k = 4) ∨ (k ≠ 6 ∧ k ≠ 7 ∧ k ≠ 8 ∧ k ≠ 9 ∧ k ≠ 10 ∧ howFor k = 1) := by
  unfold howFor
  by_cases h6 : k = 6
  · simp [h6]
  · by_cases h8 : k = 8
    · simp [h8]
    · by_cases h7 : k = 7
      · simp [h7]
      · by_cases h9 : k = 9
        · simp [h9]
        · by_cases h10 : k = 10
          · simp [h10]
          · simp [*]

set_option maxRecDepth 100000 in
set_option maxHeartbeats 4000000 in
theorem for_is (c : Cmd) (w : World) (hw : c.word.length ≤ 9223372036854775807) :
    Calls Tryz.prog 30 #[c.v] w fun e w' => e = .returned (.tuple #[.int .i64 (if chk c = 0 then howFor c.kind else 0), .int .i64 (chk c)]) ∧ Below w.heap.size w w' := by
  have hchk := fun W => check_is c W hw
  obtain ⟨k, word, n⟩ := c
  unfold Cmd.v at hchk ⊢
  simp only at hchk ⊢
  generalize (⟨word.toArray⟩ : ByteArray) = sx at *
  by_cases h0 : chk ⟨k, word, n⟩ = 0
  · rw [h0] at hchk ⊢
    rw [if_pos rfl]
    have hkk := howFor_cases k
    clear h0
    generalize howFor k = h at *
    rcases hkk with ⟨rfl, rfl⟩ | ⟨rfl, rfl⟩ | ⟨rfl, rfl⟩ | ⟨rfl, rfl⟩ | ⟨rfl, rfl⟩ | ⟨h6, h7, h8, h9, h10, rfl⟩
    all_goals
      go_enter Tryz.func30, Tryz.ntmps30
      go_wp2_with fail
      refine (hchk _).mono ?_
      rintro e w1 ⟨rfl, hb1⟩
      obtain ⟨bx0, bx1, bx2⟩ := jbox_cells hb1
      have HB : Hid (Below w.heap.size w w1) := box_of.trans (hb1.mono (by simp))
      clear hb1 hchk
      go_wp2_with fail
      go_ret2
      exact ⟨rfl, HB.out⟩
  · rw [if_neg h0]
    generalize chk ⟨k, word, n⟩ = r at *
    go_enter Tryz.func30, Tryz.ntmps30
    go_wp2_with fail
    refine (hchk _).mono ?_
    rintro e w1 ⟨rfl, hb1⟩
    have HB : Hid (Below w.heap.size w w1) := box_of.trans (hb1.mono (by simp))
    clear hb1 hchk
    go_wp2_with fail
    go_ret2
    exact ⟨rfl, HB.out⟩
end Go.Proofs.YtfkddfmbgbaefaaGreatDoor
namespace Go.Proofs.YtfkddfmbgbaefaaGreatDoor
open Go.RowKit Go.Gs
set_option linter.unusedVariables false

theorem jchk_range {how : Int} {c : Cmd} (h : how < 1 ∨ 4 < how) : jchk how c = 4 := by unfold jchk; rw [if_pos h]
theorem jchk_again {c : Cmd} : jchk 4 c = chk c := by unfold jchk; rw [if_neg (by omega), if_pos rfl]
theorem jchk_zero {how : Int} {c : Cmd} (h1 : 1 ≤ how) (h2 : how < 4) (h : c.kind = 0 ∧ c.word = [] ∧ c.n = 0) : jchk how c = 0 := by unfold jchk; rw [if_neg (by omega), if_neg (by omega), if_pos h]
theorem jchk_some {how : Int} {c : Cmd} (h1 : 1 ≤ how) (h2 : how < 4) (h : ¬ (c.kind = 0 ∧ c.word = [] ∧ c.n = 0)) : jchk how c = 4 := by unfold jchk; rw [if_neg (by omega), if_neg (by omega), if_neg h]

set_option maxRecDepth 100000 in
set_option maxHeartbeats 4000000 in
theorem jcheck_is (how : Int) (c : Cmd) (w : World) (hw : c.word.length ≤ 9223372036854775807) :
    Calls Tryz.prog 33 #[.int .i64 how, c.v] w fun e w' => e = .returned (.int .i64 (jchk how c)) ∧ Below w.heap.size w w' := by
  have hchk := fun W => check_is c W hw
  have hem := @empty_of c.word
  have hfu := @full_of c.word
  obtain ⟨k, word, n⟩ := c
  unfold Cmd.v at hchk ⊢
  simp only at hchk hem hfu ⊢
  by_cases hr : how < 1 ∨ 4 < how
  · rw [jchk_range hr]
    clear hchk hem hfu
    generalize (⟨word.toArray⟩ : ByteArray) = sx at *
    rcases hr with hr | hr
    · go_enter Tryz.func33, Tryz.ntmps33
      go_wp2_with fail
      go_ret
      exact ⟨rfl, box_of⟩
    · have hr' : ¬ how < 1 := by omega
      go_enter Tryz.func33, Tryz.ntmps33
      go_wp2_with fail
      go_ret
      exact ⟨rfl, box_of⟩
  · by_cases h4 : how = 4
    · subst h4
      rw [jchk_again]
      clear hem hfu
      generalize (⟨word.toArray⟩ : ByteArray) = sx at *
      generalize chk ⟨k, word, n⟩ = r at *
      go_enter Tryz.func33, Tryz.ntmps33
      go_wp2_with fail
      refine (hchk _).mono ?_
      rintro e w1 ⟨rfl, hb1⟩
      have HB : Hid (Below w.heap.size w w1) := box_of.trans (hb1.mono (by simp))
      clear hb1 hchk
      go_wp2_with fail
      go_ret
      exact ⟨rfl, HB.out⟩
    · have h1 : ¬ how < 1 := by omega
      have h2 : ¬ 4 < how := by omega
      clear hchk hr
      by_cases hz : k = 0 ∧ word = [] ∧ n = 0
      · obtain ⟨rfl, rfl, rfl⟩ := hz
        rw [jchk_zero (by omega) (by omega) ⟨rfl, rfl, rfl⟩]
        clear hem hfu
        go_enter Tryz.func33, Tryz.ntmps33
        go_wp2_with fail
        go_ret
        exact ⟨rfl, box_of⟩
      · rw [jchk_some (by omega) (by omega) hz]
        obtain ⟨d, hd⟩ : ∃ d, (⟨word.toArray⟩ : ByteArray).toList.isEmpty = d := ⟨_, rfl⟩
        have hfin : ¬ (k = 0 ∧ d = true ∧ n = 0) := by
          rintro ⟨h1, h2, h3⟩
          apply hz
          refine ⟨h1, ?_, h3⟩
          cases word with
          | nil => rfl
          | cons x r => rw [hfu (by simp)] at hd; rw [← hd] at h2; cases h2
        clear hz hem hfu
        generalize (⟨word.toArray⟩ : ByteArray) = sx at *
        go_enter Tryz.func33, Tryz.ntmps33
        go_wp2_with fail
        all_goals first | (go_ret; exact ⟨rfl, box_of⟩) | (exfalso; apply hfin; simp_all)

theorem strs_of {w : World} {b off : Nat} {ls : List (List UInt8)} (hc : ∀ j u, (ls.map S)[j]? = some u → w.cell? ⟨b, off + j, none⟩ = some u) : ∀ j, j < (ls.map fun l => (⟨l.toArray⟩ : ByteArray)).length → w.cell? ⟨b, off + j, none⟩ = some (.string ((ls.map fun l => (⟨l.toArray⟩ : ByteArray)).getD j ByteArray.empty)) := by
  intro j hj
  have hj' : j < ls.length := by simpa using hj
  have := hc j (S ls[j]) (by simp [hj'])
  rw [this]
  simp [S, List.getD_eq_getElem?_getD, hj']
theorem clone_is (v : Value) (ls : List (List UInt8)) (w : World) (hr : Reads w v ls.length (ls.map S)) (hl : ls.length ≤ 100000) :
    Calls Tryz.prog 114 #[v] w fun e w' => ∃ r, e = .returned r ∧ w'.ownsRow w.heap.size 9 1 r ls.length (ls.map S) ∧ Below w.heap.size w w' := by
  obtain ⟨_, ao, cap, rfl, h2, h3, h4⟩ := hr
  cases ao with
  | none =>
    have h0 : ls.length = 0 := by
      rcases Nat.eq_zero_or_pos ls.length with h | h
      · exact h
      · obtain ⟨b, off, e, _⟩ := h4 (by omega); cases e
    have hn : ls = [] := List.eq_nil_of_length_eq_zero h0
    subst hn
    refine (Any.slices_Clone_string_nil Tryz.laysClone _ cap w).mono ?_
    rintro e w' ⟨rfl, rfl⟩
    exact ⟨_, rfl, World.ownsRow_nil _ _ _ _, Below.refl _ _⟩
  | some a =>
    by_cases h0 : ls.length = 0
    · have hn : ls = [] := List.eq_nil_of_length_eq_zero h0
      subst hn
      refine (Any.slices_Clone_string_zero Tryz.laysClone a cap w).mono ?_
      rintro e w' ⟨r, rfl, h5, _, h6⟩
      exact ⟨_, rfl, h5, h6⟩
    · obtain ⟨b, off, e, hc⟩ := h4 h0
      injection e with e
      subst e
      refine (Any.slices_Clone_string Tryz.laysClone b off ls.length cap (ls.map fun l => ⟨l.toArray⟩) w (by simp) (by omega) (strs_of hc)).mono ?_
      rintro e w' ⟨r, rfl, h5, _, h6⟩
      refine ⟨_, rfl, ?_, h6⟩
      have he : ((ls.map fun l => (⟨l.toArray⟩ : ByteArray)).take ls.length).map Value.string = ls.map S := by
        rw [List.take_of_length_le (by simp), List.map_map]
        rfl
      rw [he] at h5
      exact h5
end Go.Proofs.YtfkddfmbgbaefaaGreatDoor
namespace Go.Proofs.YtfkddfmbgbaefaaGreatDoor
open Go.RowKit Go.Gs
set_option linter.unusedVariables false

theorem clone_in {w W : World} {bx : Nat} {a b c : Value} (v : Value) (ls : List (List UInt8)) (hr : Reads W v ls.length (ls.map S)) (hl : ls.length ≤ 100000) (hB : Below w.heap.size w W) (h0 : W.cell? ⟨bx, 0, none⟩ = some a) (h1 : W.cell? ⟨bx, 1, none⟩ = some b) (h2 : W.cell? ⟨bx, 2, none⟩ = some c) :
    Calls Tryz.prog 114 #[v] W fun e w' => ∃ r, e = .returned r ∧ Hid (w'.ownsRow W.heap.size 9 1 r ls.length (ls.map S)) ∧ Hid (Below W.heap.size W w') ∧ w'.cell? ⟨bx, 0, none⟩ = some a ∧ w'.cell? ⟨bx, 1, none⟩ = some b ∧ w'.cell? ⟨bx, 2, none⟩ = some c := by
  refine (clone_is v ls W hr hl).mono ?_
  rintro e w' ⟨r, rfl, h3, h4⟩
  have hlt : bx < W.heap.size := World.block_lt_of_cell? W _ h0
  exact ⟨r, rfl, h3, h4, (h4.cell (p := ⟨bx, 0, none⟩) hlt).trans h0, (h4.cell (p := ⟨bx, 1, none⟩) hlt).trans h1, (h4.cell (p := ⟨bx, 2, none⟩) hlt).trans h2⟩

set_option maxRecDepth 100000 in
set_option maxHeartbeats 4000000 in
theorem cover_is (c : Cmd) (hc : chk c = 0) (v : Value) (ls : List (List UInt8)) (w : World) (hw : c.word.length ≤ 9223372036854775807) (hr : Reads w v ls.length (ls.map S)) (hl : ls.length ≤ 4000) (hsz : ∀ s ∈ ls, s.length ≤ 4000) (hK : Known w) :
    Calls Tryz.prog 86 #[c.v, v] w fun e w' => ∃ r, e = .returned (.tuple #[r, .int .i64 0]) ∧ Reads w' r (made c ls).length ((made c ls).map S) ∧ Below w.heap.size w w' := by
  have hchk := fun W => check_is c W hw
  rw [hc] at hchk
  have hover := fun (v : Value) (W : World) (B : Nat) hB0 hB ho hK => over_is c hc v ls W B hB0 hB ho hl hsz hK
  have hml : 2 < w.heap.size := by
    obtain ⟨⟨m, hm⟩, _⟩ := hK
    exact World.block_lt_of_cell? w _ hm
  obtain ⟨k, word, n⟩ := c
  unfold Cmd.v at hchk hover ⊢
  simp only at hchk hover ⊢
  have HR : Hid (Reads w v ls.length (ls.map S)) := hr
  have HO : Hid _ := hover
  have HK : Hid (Known w) := hK
  have HM : Hid _ := hml
  clear hr hover hK hml
  generalize made ⟨k, word, n⟩ ls = M at *
  generalize (⟨word.toArray⟩ : ByteArray) = sx at *
  go_enter Tryz.func86, Tryz.ntmps86
  go_wp2_with fail
  refine (hchk _).mono ?_
  rintro e w1 ⟨rfl, hb1⟩
  obtain ⟨x0, x1, x2⟩ := jbox_cells hb1
  have HB : Hid (Below w.heap.size w w1) := box_of.trans (hb1.mono (by simp))
  clear hb1 hchk
  go_upto_region 4 with fail
  have HBd : Hid (Below w.heap.size w w1.drew) := HB.out.drew
  have HRd : Hid (Reads w1.drew v ls.length (ls.map S)) := HR.out.below HBd.out
  go_region_with (first
    | (go_at_call 114; refine (clone_in v ls HRd.out (by omega) HBd.out x0 x1 x2).mono ?_; rintro e w2 ⟨r2, rfl, O2, B2, y0, y1, y2⟩)
    | (go_at_call 40; refine (HO.out r2 w2 w1.heap.size (Nat.lt_of_lt_of_le HM.out HB.out.size) B2.out.size O2.out ((HK.out.below HBd.out).below B2.out)).mono ?_; rintro e w3 ⟨r3, rfl, R3, B3⟩))
  all_goals
    have HR3 : Hid _ := R3
    have HB3 : Hid (Below w.heap.size w w3) := HBd.out.trans ((B2.out.mono HBd.out.size).trans (B3.mono HB.out.size))
    clear R3 B3
    go_wp2_with fail
    go_ret2
    exact ⟨r3, rfl, HR3.out, HB3.out⟩
end Go.Proofs.YtfkddfmbgbaefaaGreatDoor
namespace Go.Proofs.YtfkddfmbgbaefaaGreatDoor
open Go.RowKit Go.Gs
set_option linter.unusedVariables false

/-- A row of slices, each of which can be read in 'w'. -/
def LRow (w wr : World) (G : Nat) (cur : List (List (List UInt8))) : Prop :=
  ∃ vs : List Value, wr.heap[G]? = some (.cells vs.toArray 34 (0, 0)) ∧ vs.length = cur.length ∧ ∀ (j : Nat) (p : List (List UInt8)), cur[j]? = some p → ∃ u, vs[j]? = some u ∧ Reads w u p.length (p.map S)
theorem LRow.rlist {w wr : World} {G : Nat} {cur : List (List (List UInt8))} (h : LRow w wr G cur) (hb : Below w.heap.size w wr) (hn : cur.length ≤ 1000) : RList wr (.slice (some ⟨G, 0, none⟩) cur.length cur.length) S cur := by
  obtain ⟨vs, h1, h2, h3⟩ := h
  refine ⟨vs, ⟨h2, _, _, rfl, Nat.le_refl _, by unfold maxLen; omega, fun _ => ⟨G, 0, rfl, fun j u hu => ?_⟩⟩, fun j p hj => ?_⟩
  · rw [Nat.zero_add, cell_of_row _ _ _ _ _ _ h1]
    simpa using hu
  · obtain ⟨u, h4, h5⟩ := h3 j p hj
    exact ⟨u, h4, h5.below hb⟩
theorem LRow.keep {w wr wr' : World} {G : Nat} {cur : List (List (List UInt8))} (h : LRow w wr G cur) (hk : wr'.heap[G]? = wr.heap[G]?) : LRow w wr' G cur := by
  obtain ⟨vs, h1, h2, h3⟩ := h
  exact ⟨vs, by rw [hk]; exact h1, h2, h3⟩
/-- What a cut of the first element is. -/
theorem reads_cut {w : World} {b off n cu : Nat} {x : List UInt8} {r : List (List UInt8)} (h : Reads w (.slice (some ⟨b, off, none⟩) n cu) (x :: r).length ((x :: r).map S)) (a' : Option Addr) (ha : cu ≠ 1 → a' = some ⟨b, off + 1, none⟩) : Reads w (.slice a' r.length (cu - 1)) r.length (r.map S) := by
  obtain ⟨h1, ao, cap, e, h2, h3, h4⟩ := h
  injection e with e1 e2 e3
  subst e1 e3
  simp only [List.length_cons] at h2
  refine ⟨by simp, a', cu - 1, rfl, by omega, Nat.le_trans (Nat.sub_le _ _) h3, fun hr => ?_⟩
  obtain ⟨b', off', e, hc⟩ := h4 (by simp)
  injection e with e
  injection e with e1 e2
  subst e1 e2
  refine ⟨b, off + 1, ha (by omega), fun j u hu => ?_⟩
  rw [Nat.add_assoc, Nat.add_comm 1 j]
  exact hc (j + 1) u (by simpa using hu)
theorem LRow.step {w wr : World} {G k : Nat} {cur : List (List (List UInt8))} {x : List UInt8} {r : List (List UInt8)} {b off n cu : Nat} (h : LRow w wr G cur) (hk : cur[k]? = some (x :: r)) (hr : Reads w (.slice (some ⟨b, off, none⟩) n cu) (x :: r).length ((x :: r).map S)) (a' : Option Addr) (ha : cu ≠ 1 → a' = some ⟨b, off + 1, none⟩) : LRow w (wr.setCell ⟨G, k, none⟩ (.slice a' r.length (cu - 1))) G (cur.modify k (List.drop 1)) := by
  obtain ⟨vs, h1, h2, h3⟩ := h
  obtain ⟨hkl, _⟩ := List.getElem?_eq_some_iff.1 hk
  refine ⟨vs.set k (.slice a' r.length (cu - 1)), ?_, by simp [h2], fun j p hj => ?_⟩
  · rw [heap_setCell_same _ _ _ _ _ _ h1]
    simp
  · rw [List.getElem?_modify] at hj
    by_cases hjk : k = j
    · subst hjk
      rw [hk] at hj
      simp at hj
      subst hj
      exact ⟨_, List.getElem?_set_self (by omega), reads_cut hr a' ha⟩
    · simp [hjk] at hj
      obtain ⟨u, h4, h5⟩ := h3 j p hj
      exact ⟨u, by rw [List.getElem?_set_ne hjk]; exact h4, h5⟩
theorem LRow.at {w wr : World} {G k : Nat} {cur : List (List (List UInt8))} {x : List UInt8} {r : List (List UInt8)} (h : LRow w wr G cur) (hk : cur[k]? = some (x :: r)) : ∃ b off cu sx, wr.cell? ⟨G, k, none⟩ = some (.slice (some ⟨b, off, none⟩) (r.length + 1) cu) ∧ Reads w (.slice (some ⟨b, off, none⟩) (r.length + 1) cu) (x :: r).length ((x :: r).map S) ∧ w.cell? ⟨b, off, none⟩ = some (.string sx) ∧ Value.string sx = S x ∧ r.length + 1 ≤ cu ∧ cu ≤ 9223372036854775807 := by
  obtain ⟨vs, h1, h2, h3⟩ := h
  obtain ⟨u, h4, h5⟩ := h3 k _ hk
  obtain ⟨_, ao, cap, rfl, _⟩ := id h5
  obtain ⟨b, off, sx, rfl, hc, hs, h6, h7⟩ := reads_first h5
  refine ⟨b, off, cap, sx, ?_, h5, hc, hs, h7, h6⟩
  rw [cell_of_row _ _ _ _ _ _ h1]
  simpa using h4

theorem merge_step {cur : List (List (List UInt8))} {m k : Nat} {x : List UInt8} (h : least cur = some (k, x)) : mergeN (m + 1) cur = x :: mergeN m (cur.modify k (List.drop 1)) := by
  conv => lhs; unfold mergeN
  rw [h]
theorem infoList : (Tryz.prog.info? 34).map (fun i => (i.zero, i.size, i.bytes)) = some (some (.slice none 0 0), 1, 24) := by kernel_rfl
theorem infoList1 : (Tryz.prog.info? 34).map (·.size) = some 1 := by kernel_rfl
theorem out_set {D : List (List UInt8)} {x : List UInt8} {m i : Nat} (hi : D.length = i) : ((D.map S ++ List.replicate (m + 1) (S [])).toArray).setIfInBounds i (S x) = ((D ++ [x]).map S ++ List.replicate m (S [])).toArray := by
  rw [List.setIfInBounds_toArray, List.set_append_right _ _ (by simp; omega)]
  simp [hi, List.replicate_succ]

/-- What the loop of merge stands on. -/
def MRel (w wr : World) (ps : List (List (List UInt8))) (T GL GO : Nat) (i : Nat) : Prop :=
  ∃ (D : List (List UInt8)) (cur : List (List (List UInt8))), D.length = i ∧ cur.length = ps.length ∧ cur.flatten.length = T - i ∧ D ++ mergeN (T - i) cur = mergeN T ps ∧ LRow w wr GL cur ∧ wr.heap[GO]? = some (.cells (D.map S ++ List.replicate (T - i) (S [])).toArray 9 (0, 0)) ∧ Below w.heap.size w wr

set_option maxRecDepth 100000 in
set_option maxHeartbeats 4000000 in
theorem merge_is (v : Value) (ps : List (List (List UInt8))) (w : World) (hp : RList w v S ps) (hn : ps.length ≤ 1000) (hb : ps.flatten.length ≤ 100000) :
    Calls Tryz.prog 84 #[v] w fun e w' => ∃ r, e = .returned r ∧ Reads w' r (mergeOf ps).length ((mergeOf ps).map S) ∧ Below w.heap.size w w' := by
  obtain ⟨i0, hi, hz0, hz1, hz2⟩ := info_parts infoStr
  obtain ⟨i1, hi', hy0, hy1, hy2⟩ := info_parts infoList
  have hcount := fun (W : World) (h : Below w.heap.size w W) => count_is v ps W (hp.below h) hn (by omega)
  obtain ⟨ao, cap, rfl, hc1, hc2⟩ := hp.shape
  have HP : Hid (RList w (.slice ao ps.length cap) S ps) := hp
  obtain ⟨N, hN⟩ : ∃ N, N = ps.length := ⟨_, rfl⟩
  have HN : Hid (N = ps.length) := hN
  have hN4 : N ≤ 1000 := by omega
  obtain ⟨T, hT⟩ : ∃ T, T = ps.flatten.length := ⟨_, rfl⟩
  have HT : Hid (T = ps.flatten.length) := hT
  have hTb : T ≤ 100000 := by omega
  have hb2 : i0.bytes * T ≤ 281474976710656 := by rw [hz2]; omega
  have hb3 : T ≤ maxLen := by unfold maxLen; omega
  have hb4 : i1.bytes * N ≤ 281474976710656 := by rw [hy2]; omega
  have hb5 : N ≤ maxLen := by unfold maxLen; omega
  rw [← hT, ← hN] at hcount
  rw [← hN]
  have HCt : Hid _ := hcount
  clear hN hp hn hc1 hc2 hT hb hcount
  go_enter Tryz.func84, Tryz.ntmps84
  go_wp2_with (at_make; refine wpList_make_full _ rfl (.tmp 8) (.tmp 8) 77 rfl w.heap.size 34 i1 (.slice none 0 0) 1 Tryz.underlying77 hi' hy0 hy1 .i64 .i64 _ _ N rfl rfl rfl rfl hb4 hb5 (Nat.le_refl _) ?_)
  intro w1 hout1 hgrow1
  have HB1 : Hid (Below w.heap.size w w1) := below_grown hgrow1 (Nat.le_refl _)
  have hsz1 : w.heap.size < w1.heap.size := by
    have := (row_of_owns hout1).1
    rcases Nat.lt_or_ge w.heap.size w1.heap.size with h | h
    · exact h
    · rw [Array.getElem?_eq_none h] at this; cases this
  obtain ⟨L0, hL0⟩ : ∃ L0, L0 = List.replicate N (.slice none 0 0 : Value) := ⟨_, rfl⟩
  have hL0l : L0.length = N := by rw [hL0]; simp
  have HR1 : Hid (w1.heap[w.heap.size]? = some (.cells L0.toArray 34 (0, 0))) := by
    have := (row_of_owns hout1).1
    rw [toList_madeCells_one, ← hL0] at this
    exact this
  clear hout1 hgrow1 hL0
  obtain ⟨us, hus1, hus2⟩ := id HP.out
  have husl : us.length = N := by rw [HN.out]; exact hus1.1
  have HU2 : Hid _ := hus2
  have HU1 : Hid _ := hus1
  clear hus1 hus2
  go_wp2_with (refine wpList_copy_splice rfl (.tmp 10) (.tmp 11) 77 77 rfl 34 Tryz.underlying77 infoList1 (some ⟨w.heap.size, 0, none⟩) ao N N N cap rfl rfl w.heap.size 0 L0 34 HR1.out us ?c1 ?c2 ?c3 ?c4 w.heap.size w HB1.out (Nat.le_refl _) ?_)
  case c1 => rw [husl]; exact (Nat.min_self N).symm
  case c2 =>
    intro h0
    obtain ⟨_, ao', cap', e, _, _, h5⟩ := HU1.out
    injection e with e1 e2 e3
    obtain ⟨b', off', e4, hc⟩ := h5 (by rw [← HN.out]; omega)
    refine ⟨⟨b', off', none⟩, e1.trans e4, fun j u hu => ?_⟩
    have hadd : (⟨b', off', none⟩ : Addr).add j = ⟨b', off' + j, none⟩ := by unfold Addr.add; split <;> simp_all
    rw [hadd]
    have hcj := hc j u hu
    exact (HB1.out.cell (World.block_lt_of_cell? w _ hcj)).trans hcj
  case c3 => omega
  case c4 =>
    intro u hu
    obtain ⟨j, hj, rfl⟩ := List.mem_iff_getElem.1 hu
    obtain ⟨u', h1, h2⟩ := HU2.out j (ps[j]'(by have := HN.out; omega)) (List.getElem?_eq_getElem _)
    rw [List.getElem?_eq_getElem hj] at h1
    injection h1 with h1
    obtain ⟨_, ao', cap', e, _⟩ := h2
    rw [h1, e]; rfl
  intro w2 hr2 hb2'
  have HB2 : Hid (Below w.heap.size w w2) := hb2'
  have hsz2 : w.heap.size < w2.heap.size := by
    have := hr2.out
    rcases Nat.lt_or_ge w.heap.size w2.heap.size with h | h
    · exact h
    · rw [Array.getElem?_eq_none h] at this; cases this
  have HL2 : Hid (LRow w w2 w.heap.size ps) := ⟨us, by
    have := hr2.out
    rw [this]
    congr 3
    unfold splice
    rw [List.take_zero, List.nil_append, Nat.zero_add, List.drop_of_length_le (by omega), List.append_nil], by rw [husl]; exact HN.out, HU2.out⟩
  clear hr2 hb2' HU1 HU2 husl HR1
  go_wp2_with (first | (go_at_call 111; refine (HCt.out w2 HB2.out).mono ?_; rintro e w9 ⟨rfl, hw9⟩; obtain rfl : w2 = w9 := hw9.symm) | (at_make; refine wpList_make_full _ rfl (.tmp 14) (.tmp 14) 34 rfl w2.heap.size 9 i0 (.string ⟨#[]⟩) 1 Tryz.underlying34 hi hz0 hz1 .i64 .i64 _ _ T rfl rfl rfl rfl hb2 hb3 (Nat.le_refl _) ?_))
  intro w3 hout3 hgrow3
  have HB3 : Hid (Below w.heap.size w w3) := HB2.out.trans (below_grown hgrow3 (Nat.le_of_lt hsz2))
  have HM3 : Hid (MRel w w3 ps T w.heap.size w2.heap.size 0) := by
    refine ⟨[], ps, rfl, rfl, by rw [← HT.out]; rfl, rfl, HL2.out.keep ((below_grown hgrow3 (Nat.le_refl _)).block _ hsz2), ?_, HB3.out⟩
    have := (row_of_owns hout3).1
    rw [toList_madeCells_one] at this
    exact this
  clear hout3 hgrow3 HL2 HB3 HB2 HB1 hw9 HCt
  generalize hGO : w2.heap.size = GO at *
  clear hGO
  go_wp2_with fail
  go_loopw [18] (fun i wr => ∃ k : Nat, k ≤ T ∧ i = .int .i64 k ∧ Hid (MRel w wr ps T w.heap.size GO k)) (fun i _ => T - (intOf i).toNat)
  case atStart => exact ⟨0, Nat.zero_le _, rfl, HM3.out⟩
  case round =>
    obtain ⟨i, hiT, rfl, hrel⟩ := hrel
    obtain ⟨D, cur, hD, hcl, hfl, hmg, hlr, hor, hbel⟩ := hrel.out
    clear hrel
    by_cases hlt : i < T
    · obtain ⟨k, x, hlx⟩ : ∃ k x, least cur = some (k, x) := by
        cases h : least cur with
        | none => rw [least_none h] at hfl; simp at hfl; omega
        | some q => exact ⟨q.1, q.2, rfl⟩
      obtain ⟨r, hck, _⟩ := least_some hlx
      have hkl : k < cur.length := (List.getElem?_eq_some_iff.1 hck).1
      obtain ⟨b, off, cu, sx, hcG, hru, hcx, hsx, hcu1, hcu2⟩ := hlr.at hck
      have hle := least_is _ cur wr (hlr.rlist hbel (by have := HN.out; omega)) (by have := HN.out; omega)
      rw [hcl, ← HN.out, hlx] at hle
      have hcxr : wr.cell? ⟨b, off, none⟩ = some (.string sx) := (hbel.cell (World.block_lt_of_cell? w _ hcx)).trans hcx
      have hne : GO ≠ w.heap.size := by omega
      obtain ⟨m, hm⟩ : ∃ m, T - i = m + 1 := ⟨T - i - 1, by omega⟩
      have hTi : T - (i + 1) = m := by omega
      rw [hm] at hfl hmg hor
      have HREL : Hid (∀ (w4 : World), w4.heap = wr.heap → Below w.heap.size w w4 → ∀ a', (cu ≠ 1 → a' = some ⟨b, off + 1, none⟩) → MRel w ((w4.setCell ⟨GO, i, none⟩ (.string sx)).setCell ⟨w.heap.size, k, none⟩ (.slice a' r.length (cu - 1))) ps T w.heap.size GO (i + 1)) := by
        intro w4 h4 hb4 a' ha
        refine ⟨D ++ [x], cur.modify k (List.drop 1), by simp [hD], by simp [hcl], ?_, ?_, ?_, ?_, ?_⟩
        · have := modify_length hck
          rw [hTi]; omega
        · rw [hTi, ← hmg, merge_step hlx]; simp
        · refine LRow.step ?_ hck hru a' ha
          exact hlr.keep (by rw [heap_setCell_other _ _ _ _ (Ne.symm hne), h4])
        · rw [heap_setCell_other _ _ _ _ hne, heap_setCell_same _ _ _ _ _ _ (by rw [h4]; exact hor), hTi, hsx, out_set hD]
        · exact (hb4.setCell (by simp; omega) _).setCell (by simp) _
      have hcO : wr.cell? ⟨GO, i, none⟩ = some (S []) := by
        rw [cell_of_row _ _ _ _ _ _ hor]
        simp [hD]
      have hfO : wr.frozen? ⟨GO, i, none⟩ = false := frozen_of_row _ _ _ _ _ hor
      have hfG : wr.frozen? ⟨w.heap.size, k, none⟩ = false := by
        obtain ⟨vs, h1, _⟩ := hlr
        exact frozen_of_row _ _ _ _ _ h1
      have Hsx : Hid _ := hsx
      have HB : Hid (Below w.heap.size w wr) := hbel
      have hkN : k < N := by have := HN.out; omega
      simp only [lix] at hle
      clear hsx hbel hlr hor hmg hru hcx hfl hcl hD hck hlx hkl
      generalize r.length = rl at *
      go_wp2_with (go_at_call 112; refine hle.mono ?_; rintro e w4 ⟨rfl, q, rfl⟩)
      have g1 : (wr.drewN q).cell? ⟨w.heap.size, k, none⟩ = some (.slice (some ⟨b, off, none⟩) (rl + 1) cu) := hcG
      have g2 : (wr.drewN q).cell? ⟨b, off, none⟩ = some (.string sx) := hcxr
      have g3 : (wr.drewN q).cell? ⟨GO, i, none⟩ = some (S []) := hcO
      have g4 : (wr.drewN q).frozen? ⟨GO, i, none⟩ = false := hfO
      have g5 : (wr.drewN q).frozen? ⟨w.heap.size, k, none⟩ = false := hfG
      have g6 : ((wr.drewN q).setCell ⟨GO, i, none⟩ (.string sx)).cell? ⟨w.heap.size, k, none⟩ = some (.slice (some ⟨b, off, none⟩) (rl + 1) cu) := by
        rw [World.cell?_setCell_other _ _ _ _ (by intro e; injection e with e; exact hne e)]; exact g1
      have g7 : ((wr.drewN q).setCell ⟨GO, i, none⟩ (.string sx)).frozen? ⟨w.heap.size, k, none⟩ = false := by rw [World.frozen?_setCell]; exact g5
      have HR4 : Hid _ := HREL.out (wr.drewN q) rfl (below_dn HB.out _)
      clear hcG hcxr hcO hfO hfG hle HREL
      go_wp2_with fail
      go_roundw
      case rel => exact ⟨i + 1, by omega, by go_num, HR4.out _ (fun h => by rw [if_neg h])⟩
      case measure => simp [intOf]; omega
    · have hiT2 : i = T := by omega
      have HO : Hid (Reads wr (.slice (some ⟨GO, 0, none⟩) T T) (mergeOf ps).length ((mergeOf ps).map S)) := by
        rw [hiT2, Nat.sub_self] at hmg hor
        have e : D = mergeOf ps := by
          have : D ++ mergeN 0 cur = D := by simp [mergeN]
          rw [this] at hmg
          rw [hmg]
          unfold mergeOf
          rw [HT.out]
        simp only [List.replicate_zero, List.append_nil] at hor
        have h1 := owns_of_row (B := 0) (n := T) hor (by simp [hD, hiT2]) (Nat.zero_le _) (by omega)
        have h2 := Reads.of_owns h1
        have h3 : (mergeOf ps).length = T := by rw [← e]; omega
        rw [h3, ← e]
        exact h2
      have HB : Hid (Below w.heap.size w wr) := hbel
      clear hmg hor hlr hfl hbel hD hcl
      go_wp2_with fail
      go_ret
      exact ⟨_, rfl, HO.out, HB.out⟩
end Go.Proofs.YtfkddfmbgbaefaaGreatDoor
namespace Go.Proofs.YtfkddfmbgbaefaaGreatDoor
open Go.RowKit Go.Gs
set_option linter.unusedVariables false

theorem jchk_how {how : Int} {c : Cmd} (h : jchk how c = 0) : how = 1 ∨ how = 2 ∨ how = 3 ∨ how = 4 := by
  unfold jchk at h
  by_cases hr : how < 1 ∨ 4 < how
  · rw [if_pos hr] at h; cases h
  · omega
theorem joined1 (c : Cmd) (ps : List (List (List UInt8))) : joined 1 c ps = ps.flatten := by simp [joined]
theorem joined2 (c : Cmd) (ps : List (List (List UInt8))) : joined 2 c ps = mergeOf ps := by simp [joined]
theorem joined3 (c : Cmd) (ps : List (List (List UInt8))) : joined 3 c ps = [Lib.itoa (sumOf ps : Int)] := by simp [joined]
theorem joined4 (c : Cmd) (ps : List (List (List UInt8))) : joined 4 c ps = made c ps.flatten := by simp [joined]
theorem behind_in {w W : World} {bx : Nat} {a b c : Value} (v : Value) (ps : List (List (List UInt8))) (hp : RList W v S ps) (hn : ps.length ≤ 1000) (hl : ps.flatten.length ≤ 100000) (hB : Below w.heap.size w W) (h0 : W.cell? ⟨bx, 0, none⟩ = some a) (h1 : W.cell? ⟨bx, 1, none⟩ = some b) (h2 : W.cell? ⟨bx, 2, none⟩ = some c) :
    Calls Tryz.prog 87 #[v] W fun e w' => ∃ r, e = .returned r ∧ Hid (Reads w' r ps.flatten.length (ps.flatten.map S)) ∧ Hid (Below W.heap.size W w') ∧ w'.cell? ⟨bx, 0, none⟩ = some a ∧ w'.cell? ⟨bx, 1, none⟩ = some b ∧ w'.cell? ⟨bx, 2, none⟩ = some c := by
  refine (behind_is v ps W hp hn hl).mono ?_
  rintro e w' ⟨r, rfl, h3, h4⟩
  have hlt : bx < W.heap.size := World.block_lt_of_cell? W _ h0
  exact ⟨r, rfl, Reads.of_owns h3, h4, (h4.cell (p := ⟨bx, 0, none⟩) hlt).trans h0, (h4.cell (p := ⟨bx, 1, none⟩) hlt).trans h1, (h4.cell (p := ⟨bx, 2, none⟩) hlt).trans h2⟩
theorem jbox_new {w : World} {a b c : Value} {t : TypeId} : (w.alloc (.cells #[a, b, c] t)).cell? ⟨w.heap.size, 0, none⟩ = some a ∧ (w.alloc (.cells #[a, b, c] t)).cell? ⟨w.heap.size, 1, none⟩ = some b ∧ (w.alloc (.cells #[a, b, c] t)).cell? ⟨w.heap.size, 2, none⟩ = some c := jbox_cells (Below.refl _ _)

set_option maxRecDepth 100000 in
set_option maxHeartbeats 4000000 in
theorem jover_is (how : Int) (c : Cmd) (hj : jchk how c = 0) (v : Value) (ps : List (List (List UInt8))) (w : World) (hw : c.word.length ≤ 9223372036854775807) (hp : RList w v S ps) (hn : ps.length ≤ 5) (hl : ps.flatten.length ≤ 4000) (hsz : ∀ p ∈ ps, ∀ s ∈ p, s.length ≤ 4000) (hE : KnownE w) :
    Calls Tryz.prog 55 #[.int .i64 how, c.v, v] w fun e w' => ∃ r, e = .returned (.tuple #[r, .int .i64 0]) ∧ Reads w' r (joined how c ps).length ((joined how c ps).map S) ∧ Below w.heap.size w w' := by
  have hcase := jchk_how hj
  have hch := jchk_chk hj
  obtain ⟨k, word, n⟩ := c
  unfold Cmd.v
  simp only at hw ⊢
  have HP : Hid (RList w v S ps) := hp
  have HE : Hid (KnownE w) := hE
  clear hp hE hj
  rcases hcase with rfl | rfl | rfl | rfl
  · rw [joined1]
    clear hch
    generalize (⟨word.toArray⟩ : ByteArray) = sx at *
    have HR : Hid _ := HP.out.below (box_of (o := .cells #[.int .i64 k, .string sx, .int .i64 n] 23))
    go_enter Tryz.func55, Tryz.ntmps55
    go_wp2_with fail
    refine (behind_is v ps _ HR.out (by omega) (by omega)).mono ?_
    rintro e w1 ⟨r, rfl, h1, h2⟩
    have HO : Hid _ := Reads.of_owns h1
    have HB : Hid (Below w.heap.size w w1) := box_of.trans (h2.mono (by simp))
    clear h1 h2 HR
    go_wp2_with fail
    go_ret2
    exact ⟨r, rfl, HO.out, HB.out⟩
  · rw [joined2]
    clear hch
    generalize (⟨word.toArray⟩ : ByteArray) = sx at *
    have HR : Hid _ := HP.out.below (box_of (o := .cells #[.int .i64 k, .string sx, .int .i64 n] 23))
    go_enter Tryz.func55, Tryz.ntmps55
    go_wp2_with fail
    refine (merge_is v ps _ HR.out (by omega) (by omega)).mono ?_
    rintro e w1 ⟨r, rfl, h1, h2⟩
    have HO : Hid _ := h1
    have HB : Hid (Below w.heap.size w w1) := box_of.trans (h2.mono (by simp))
    clear h1 h2 HR
    go_wp2_with fail
    go_ret2
    exact ⟨r, rfl, HO.out, HB.out⟩
  · rw [joined3]
    clear hch
    have hsum := sumOf_le ps
    have hsz' : ∀ p ∈ ps, ∀ s ∈ p, s.length ≤ 100000 := fun p hp s hs => Nat.le_trans (hsz p hp s hs) (by omega)
    have hS := fun (W : World) (h : RList W v S ps) (hE : KnownE W) => sum_is v ps W h (by omega) hsz' hE
    obtain ⟨z, hz⟩ : ∃ z, z = sumOf ps := ⟨_, rfl⟩
    rw [← hz] at hS hsum ⊢
    have hI := fun (W : World) (h : Known W) => itoa_is z W (by omega) (by omega) h
    obtain ⟨t, ht⟩ : ∃ t, t = Lib.itoa (z : Int) := ⟨_, rfl⟩
    rw [← ht] at hI ⊢
    have HS : Hid _ := hS
    have HI : Hid _ := hI
    clear hS hI hz ht hsz hsz'
    generalize (⟨word.toArray⟩ : ByteArray) = sx at *
    have HR : Hid _ := HP.out.below (box_of (o := .cells #[.int .i64 k, .string sx, .int .i64 n] 23))
    have HEb : Hid _ := HE.out.below (box_of (o := .cells #[.int .i64 k, .string sx, .int .i64 n] 23))
    go_enter Tryz.func55, Tryz.ntmps55
    go_wp2_with fail
    refine (HS.out _ HR.out HEb.out).mono ?_
    rintro e w1 ⟨rfl, h2⟩
    have HK1 : Hid (Known w1) := (KnownE.below HEb.out h2).1
    have HB : Hid (Below w.heap.size w w1) := box_of.trans (h2.mono (by simp))
    clear h2 HR HEb
    go_wp2_with fail
    refine (HI.out w1 HK1.out).mono ?_
    rintro e w2 ⟨rfl, h3⟩
    have HB2 : Hid (Below w.heap.size w w2) := HB.out.trans (h3.mono HB.out.size)
    clear h3
    go_wp2_with fail
    go_ret2
    exact ⟨_, rfl, by simpa [S] using reads_new w2 #[S t] 9 (0, 0) 1 rfl (by omega), HB2.out.trans (((Below.refl _ w2).alloc (Nat.le_refl _) _).mono HB2.out.size)⟩
  · rw [joined4]
    have hc0 := hch rfl
    have hcov := fun (v : Value) (W : World) hr hK => cover_is ⟨k, word, n⟩ hc0 v ps.flatten W hw hr hl (fun s hs => by obtain ⟨p, hp, hsp⟩ := List.mem_flatten.1 hs; exact hsz p hp s hsp) hK
    unfold Cmd.v at hcov
    simp only at hcov
    have HCV : Hid _ := hcov
    clear hch hcov hc0 hsz
    generalize made ⟨k, word, n⟩ ps.flatten = M at *
    generalize (⟨word.toArray⟩ : ByteArray) = sx at *
    obtain ⟨W0, hW0⟩ : ∃ W0, W0 = w.alloc (.cells #[.int .i64 k, .string sx, .int .i64 n] 23) := ⟨_, rfl⟩
    have HB0 : Hid (Below w.heap.size w W0.drew) := by rw [hW0]; exact box_of.drew
    have HR : Hid (RList W0.drew v S ps) := HP.out.below HB0.out
    have HK0 : Hid (KnownE W0.drew) := HE.out.below HB0.out
    have hcs : W0.drew.cell? ⟨w.heap.size, 0, none⟩ = some (.int .i64 k) ∧ W0.drew.cell? ⟨w.heap.size, 1, none⟩ = some (.string sx) ∧ W0.drew.cell? ⟨w.heap.size, 2, none⟩ = some (.int .i64 n) := by rw [hW0]; exact jbox_new
    obtain ⟨x0, x1, x2⟩ := hcs
    rw [hW0] at HB0 HR HK0 x0 x1 x2
    clear hW0
    go_enter Tryz.func55, Tryz.ntmps55
    go_upto_region 8 with fail
    go_region_with (first
      | (go_at_call 87; refine (behind_in v ps HR.out (by omega) (by omega) HB0.out x0 x1 x2).mono ?_; rintro e w2 ⟨r2, rfl, O2, B2, y0, y1, y2⟩)
      | (go_at_call 86; refine (HCV.out r2 w2 O2.out (HK0.out.below B2.out).1).mono ?_; rintro e w3 ⟨r3, rfl, R3, B3⟩))
    all_goals
      have HR3 : Hid _ := R3
      have HB3 : Hid (Below w.heap.size w w3) := HB0.out.trans ((B2.out.mono HB0.out.size).trans (B3.mono (Nat.le_trans HB0.out.size B2.out.size)))
      clear R3 B3
      go_wp2_with fail
      go_ret2
      exact ⟨r3, rfl, HR3.out, HB3.out⟩
end Go.Proofs.YtfkddfmbgbaefaaGreatDoor
namespace Go.Proofs.YtfkddfmbgbaefaaGreatDoor
open Go.RowKit Go.Gs
set_option linter.unusedVariables false

/-- What the loop of Do stands on. -/
def DRel (w wr : World) (bss : List (List UInt8)) (G i : Nat) : Prop :=
  ∃ vs : List Value, wr.heap[G]? = some (.cells vs.toArray 34 (0, 0)) ∧ vs.length = bss.length ∧ (∀ (j : Nat) (p : List UInt8), j < i → bss[j]? = some p → ∃ u, vs[j]? = some u ∧ Reads wr u (lines p).length ((lines p).map S)) ∧ (∀ j, i ≤ j → j < bss.length → vs[j]? = some (.slice none 0 0)) ∧ Below w.heap.size w wr
theorem slice_not_S {l : List (List UInt8)} {a : Option Addr} {n c : Nat} : Value.slice a n c ∉ l.map S := by
  intro h
  obtain ⟨x, _, e⟩ := List.mem_map.1 h
  cases e
theorem DRel.cell {w wr : World} {bss : List (List UInt8)} {G i : Nat} (h : DRel w wr bss G i) (hi : i < bss.length) : wr.cell? ⟨G, i, none⟩ = some (.slice none 0 0) ∧ wr.frozen? ⟨G, i, none⟩ = false ∧ G < wr.heap.size := by
  obtain ⟨vs, h1, h2, h3, h4, h5⟩ := h
  refine ⟨?_, frozen_of_row _ _ _ _ _ h1, ?_⟩
  · rw [cell_of_row _ _ _ _ _ _ h1]
    simpa using h4 i (Nat.le_refl _) hi
  · rcases Nat.lt_or_ge G wr.heap.size with h | h
    · exact h
    · rw [Array.getElem?_eq_none h] at h1; cases h1
theorem DRel.below {w wr w1 : World} {bss : List (List UInt8)} {G i : Nat} (h : DRel w wr bss G i) (hb : Below wr.heap.size wr w1) (hG : G < wr.heap.size) : DRel w w1 bss G i := by
  obtain ⟨vs, h1, h2, h3, h4, h5⟩ := h
  refine ⟨vs, by rw [hb.block G hG]; exact h1, h2, fun j p hj hp => ?_, h4, h5.trans (hb.mono h5.size)⟩
  obtain ⟨u, h6, h7⟩ := h3 j p hj hp
  exact ⟨u, h6, h7.below hb⟩
theorem DRel.step {w wr : World} {bss : List (List UInt8)} {G i : Nat} {u : Value} {p : List UInt8} (h : DRel w wr bss G i) (hp : bss[i]? = some p) (hu : Reads wr u (lines p).length ((lines p).map S)) (hG : w.heap.size ≤ G) : DRel w (wr.setCell ⟨G, i, none⟩ u) bss G (i + 1) := by
  have hi : i < bss.length := (List.getElem?_eq_some_iff.1 hp).1
  obtain ⟨hc, _, _⟩ := h.cell hi
  obtain ⟨vs, h1, h2, h3, h4, h5⟩ := h
  refine ⟨vs.set i u, by rw [heap_setCell_same _ _ _ _ _ _ h1]; simp, by simp [h2], fun j q hj hq => ?_, fun j hj hjl => ?_, h5.setCell hG _⟩
  · by_cases hji : i = j
    · subst hji
      rw [hp] at hq
      injection hq with hq
      subst hq
      exact ⟨u, List.getElem?_set_self (by omega), hu.setCell hc u slice_not_S⟩
    · obtain ⟨u', h6, h7⟩ := h3 j q (by omega) hq
      exact ⟨u', by rw [List.getElem?_set_ne hji]; exact h6, h7.setCell hc u slice_not_S⟩
  · rw [List.getElem?_set_ne (by omega)]
    exact h4 j (by omega) hjl
theorem DRel.done {w wr : World} {bss : List (List UInt8)} {G i : Nat} (h : DRel w wr bss G i) (hi : i = bss.length) (hn : bss.length ≤ 1000) : RList wr (.slice (some ⟨G, 0, none⟩) bss.length bss.length) S (bss.map lines) := by
  subst hi
  obtain ⟨vs, h1, h2, h3, h4, h5⟩ := h
  refine ⟨vs, ⟨by simp [h2], _, _, by rw [List.length_map], by simp, by unfold maxLen; omega, fun _ => ⟨G, 0, rfl, fun j u hu => ?_⟩⟩, fun j p hj => ?_⟩
  · rw [Nat.zero_add, cell_of_row _ _ _ _ _ _ h1]
    simpa using hu
  · rw [List.getElem?_map] at hj
    cases hb : bss[j]? with
    | none => rw [hb] at hj; cases hj
    | some q =>
      rw [hb] at hj
      simp only [Option.map_some, Option.some.injEq] at hj
      subst hj
      exact h3 j q (List.getElem?_eq_some_iff.1 hb).1 hb

set_option maxRecDepth 100000 in
set_option maxHeartbeats 4000000 in
theorem jdo_err (how : Int) (c : Cmd) (v : Value) (w : World) (hw : c.word.length ≤ 9223372036854775807) (h : jchk how c ≠ 0) :
    Calls Tryz.prog 29 #[.int .i64 how, c.v, v] w fun e w' => e = .returned (.tuple #[.slice none 0 0, .int .i64 (jchk how c)]) ∧ Below w.heap.size w w' := by
  have hchk := fun W => jcheck_is how c W hw
  generalize jchk how c = r at *
  obtain ⟨k, word, n⟩ := c
  unfold Cmd.v at hchk ⊢
  simp only at hchk ⊢
  generalize (⟨word.toArray⟩ : ByteArray) = sx at *
  go_enter Tryz.func29, Tryz.ntmps29
  go_wp2_with fail
  refine (hchk _).mono ?_
  rintro e w1 ⟨rfl, hb1⟩
  have HB : Hid (Below w.heap.size w w1) := box_of.trans (hb1.mono (by simp))
  clear hb1 hchk
  go_wp2_with fail
  go_ret2
  exact ⟨rfl, HB.out⟩

set_option maxRecDepth 100000 in
set_option maxHeartbeats 4000000 in
theorem jdo_many (how : Int) (c : Cmd) (v : Value) (bss : List (List UInt8)) (w : World) (hw : c.word.length ≤ 9223372036854775807) (h : jchk how c = 0) (hp : RList w v U bss) (hbs : ∀ p ∈ bss, p.length ≤ 1000000000000000) (hm : 5 < bss.length ∨ 4000 < bss.flatten.length) :
    Calls Tryz.prog 29 #[.int .i64 how, c.v, v] w fun e w' => e = .returned (.tuple #[.slice none 0 0, .int .i64 2]) ∧ Below w.heap.size w w' := by
  have hchk := fun W => jcheck_is how c W hw
  rw [h] at hchk
  obtain ⟨k, word, n⟩ := c
  unfold Cmd.v at hchk ⊢
  simp only at hchk ⊢
  generalize (⟨word.toArray⟩ : ByteArray) = sx at *
  obtain ⟨ao, cap, rfl, hc1, hc2⟩ := hp.shape
  have hcm : cap ≤ 9223372036854775807 := by simpa [maxLen] using hc2
  have HP : Hid (RList w (.slice ao bss.length cap) U bss) := hp
  by_cases h5 : 5 < bss.length
  · clear hp hm hc2
    generalize bss.length = N at *
    go_enter Tryz.func29, Tryz.ntmps29
    go_wp2_with fail
    refine (hchk _).mono ?_
    rintro e w1 ⟨rfl, hb1⟩
    have HB : Hid (Below w.heap.size w w1) := box_of.trans (hb1.mono (by simp))
    clear hb1 hchk
    go_wp2_with fail
    go_ret2
    exact ⟨rfl, HB.out⟩
  · have hT : 4000 < bss.flatten.length := by rcases hm with h | h; exact absurd h h5; exact h
    have hTb : bss.flatten.length ≤ 1000000000000000000 := by
      have : bss.flatten.length ≤ 1000000000000000 * bss.length := by
        clear hp hm h5 hT HP hc1
        induction bss with
        | nil => simp
        | cons p r ih =>
          have h1 := hbs p (by simp)
          have h2 := ih (fun q hq => hbs q (by simp [hq]))
          simp only [List.flatten_cons, List.length_append, List.length_cons]
          omega
      omega
    have hsize := fun (W : World) (hb : Below w.heap.size w W) => size_is _ bss W (hp.below hb) (by omega) hTb
    clear hp hm hc2 hbs
    generalize bss.flatten.length = T at *
    generalize bss.length = N at *
    go_enter Tryz.func29, Tryz.ntmps29
    go_wp2_with fail
    refine (hchk _).mono ?_
    rintro e w1 ⟨rfl, hb1⟩
    have HB : Hid (Below w.heap.size w w1) := box_of.trans (hb1.mono (by simp))
    have hs1 := hsize w1 HB.out
    clear hb1 hchk hsize
    go_wp2_with fail
    refine hs1.mono ?_
    rintro e w2 ⟨rfl, hw2⟩
    obtain rfl : w1 = w2 := hw2.symm
    clear hs1 hw2
    go_wp2_with fail
    go_ret2
    exact ⟨rfl, HB.out⟩
end Go.Proofs.YtfkddfmbgbaefaaGreatDoor
namespace Go.Proofs.YtfkddfmbgbaefaaGreatDoor
open Go.RowKit Go.Gs
set_option linter.unusedVariables false

theorem lines_all_short {bss : List (List UInt8)} (h : bss.flatten.length ≤ 4000) : ∀ p ∈ bss.map lines, ∀ s ∈ p, s.length ≤ 4000 := by
  intro p hp s hs
  obtain ⟨b, hb, rfl⟩ := List.mem_map.1 hp
  exact lines_short hs (Nat.le_trans (flat_mem_le hb) h)

set_option maxRecDepth 100000 in
set_option maxHeartbeats 4000000 in
theorem jdo_ok (how : Int) (c : Cmd) (v : Value) (bss : List (List UInt8)) (w : World) (hw : c.word.length ≤ 9223372036854775807) (h : jchk how c = 0) (hp : RList w v U bss) (hn : bss.length ≤ 5) (hT : bss.flatten.length ≤ 4000) (hE : KnownE w) :
    Calls Tryz.prog 29 #[.int .i64 how, c.v, v] w fun e w' => ∃ r, e = .returned (.tuple #[r, .int .i64 0]) ∧ w'.ownsRow w.heap.size 5 1 r (jOut how c bss).length ((jOut how c bss).map U) ∧ Below w.heap.size w w' := by
  obtain ⟨i1, hi', hy0, hy1, hy2⟩ := info_parts infoList
  have hchk := fun W => jcheck_is how c W hw
  rw [h] at hchk
  have hover := fun (v : Value) (W : World) hp hE => jover_is how c h v (bss.map lines) W hw hp (by simpa using hn) (Nat.le_trans (flat_lines_count bss) hT) (lines_all_short hT) hE
  have hlen : (ended (joined how c (bss.map lines))).length ≤ 1000000 := by have := jOut_len how c (jchk_chk h) bss (by omega) hn; unfold jOut at this; omega
  have hend := fun (v : Value) (W : World) hr => ended_reads v (joined how c (bss.map lines)) W hr hlen
  have hdo : ended (joined how c (bss.map lines)) = jOut how c bss := rfl
  rw [hdo] at hend
  clear hlen hdo h
  generalize jOut how c bss = D at *
  generalize joined how c (bss.map lines) = M at *
  obtain ⟨k, word, n⟩ := c
  unfold Cmd.v at hchk hover ⊢
  simp only at hchk hover ⊢
  generalize (⟨word.toArray⟩ : ByteArray) = sx at *
  obtain ⟨ao, cap, rfl, hc1, hc2⟩ := hp.shape
  have hcm : cap ≤ 9223372036854775807 := by simpa [maxLen] using hc2
  have hsize := fun (W : World) (hb : Below w.heap.size w W) => size_is _ bss W (hp.below hb) (by omega) (by omega)
  have HP : Hid (RList w (.slice ao bss.length cap) U bss) := hp
  have HO : Hid _ := hover
  have HE : Hid _ := hend
  have HK : Hid (KnownE w) := hE
  have HTb : Hid (bss.flatten.length ≤ 4000) := hT
  obtain ⟨T, hTT⟩ : ∃ T, T = bss.flatten.length := ⟨_, rfl⟩
  rw [← hTT] at hsize hT
  obtain ⟨N, hN⟩ : ∃ N, N = bss.length := ⟨_, rfl⟩
  have HN : Hid (N = bss.length) := hN
  rw [← hN] at hsize hn hc1 ⊢
  have hb4 : i1.bytes * N ≤ 281474976710656 := by rw [hy2]; omega
  have hb5 : N ≤ maxLen := by unfold maxLen; omega
  clear hp hover hend hE hc2 hTT hN
  go_enter Tryz.func29, Tryz.ntmps29
  go_wp2_with fail
  refine (hchk _).mono ?_
  rintro e w1 ⟨rfl, hb1⟩
  obtain ⟨x0, x1, x2⟩ := jbox_cells hb1
  have HB : Hid (Below w.heap.size w w1) := box_of.trans (hb1.mono (by simp))
  have hs1 := hsize w1 HB.out
  have hsz1 : w.heap.size < w1.heap.size := by have := hb1.size; simp at this; omega
  clear hb1 hchk hsize
  go_wp2_with (first | (go_at_call 54; refine hs1.mono ?_; rintro e w2 ⟨rfl, hw2⟩; obtain rfl : w1 = w2 := hw2.symm) | (at_make; refine wpList_make_full _ rfl (.tmp 31) (.tmp 31) 77 rfl w1.heap.size 34 i1 (.slice none 0 0) 1 Tryz.underlying77 hi' hy0 hy1 .i64 .i64 _ _ N rfl rfl rfl rfl hb4 hb5 (Nat.le_refl _) ?_))
  intro w3 hout3 hgrow3
  have HD3 : Hid (DRel w1 w3 bss w1.heap.size 0) := by
    refine ⟨List.replicate N (.slice none 0 0), ?_, by simp [HN.out], fun j p hj => absurd hj (Nat.not_lt_zero _), fun j _ hj => ?_, below_grown hgrow3 (Nat.le_refl _)⟩
    · have := (row_of_owns hout3).1
      rw [toList_madeCells_one] at this
      exact this
    · rw [List.getElem?_replicate, if_pos (by rw [HN.out]; exact hj)]
  clear hout3 hgrow3 hs1 hw2
  go_wp2_with fail
  go_loopw [35] (fun i wr => ∃ k : Nat, k ≤ N ∧ i = .int .i64 k ∧ Hid (DRel w1 wr bss w1.heap.size k)) (fun i _ => N - (intOf i).toNat)
  case atStart => exact ⟨0, Nat.zero_le _, rfl, HD3.out⟩
  case round =>
    obtain ⟨i, hiN, rfl, hrel⟩ := hrel
    have HBr : Hid (Below w1.heap.size w1 wr) := by obtain ⟨vs, _, _, _, _, h5⟩ := hrel.out; exact h5
    have HBw : Hid (Below w.heap.size w wr) := HB.out.trans (HBr.out.mono HB.out.size)
    by_cases hlt : i < N
    · obtain ⟨p, hpk⟩ : ∃ p, bss[i]? = some p := ⟨_, List.getElem?_eq_getElem (by have := HN.out; omega)⟩
      have HPr : Hid (RList wr (.slice ao N cap) U bss) := by rw [HN.out]; exact HP.out.below HBw.out
      obtain ⟨b, off, au, cu, rfl, hcell, hru⟩ := HPr.out.at hpk
      have hpl : p.length ≤ 4000 := Nat.le_trans (flat_mem_le (List.mem_of_getElem? hpk)) HTb.out
      have hof := of_reads _ p wr hru hpl
      have HPK : Hid _ := hpk
      obtain ⟨hcG, hfG, hG⟩ := hrel.out.cell (by have := HN.out; omega)
      clear hpk hru
      generalize p.length = pl at *
      go_wp2_with fail
      refine hof.mono ?_
      rintro e w4 ⟨l, rfl, hown4, hb4'⟩
      have HR4 : Hid (Reads w4 l (lines p).length ((lines p).map S)) := Reads.of_owns hown4
      have hD4 := hrel.out.below hb4' hG
      obtain ⟨hcG4, hfG4, hG4⟩ := hD4.cell (by have := HN.out; omega)
      have HD5 : Hid (DRel w1 (w4.setCell ⟨w1.heap.size, i, none⟩ l) bss w1.heap.size (i + 1)) := hD4.step HPK.out HR4.out (Nat.le_refl _)
      obtain ⟨_, al, cl, rfl, _⟩ := id HR4.out
      clear hown4 hb4' hrel hD4 hof hcG hfG hcell
      go_wp2_with fail
      go_roundw
      case rel => exact ⟨i + 1, by omega, by go_num, HD5.out⟩
      case measure => simp [intOf]; omega
    · have hiN2 : i = N := by omega
      have HRL : Hid (RList wr (.slice (some ⟨w1.heap.size, 0, none⟩) N N) S (bss.map lines)) := by
        have := hrel.out.done (by rw [hiN2, HN.out]) (by have := HN.out; omega)
        rw [← HN.out] at this
        exact this
      have y0 : wr.cell? ⟨w.heap.size, 0, none⟩ = some (.int .i64 k) := (HBr.out.cell hsz1).trans x0
      have y1 : wr.cell? ⟨w.heap.size, 1, none⟩ = some (.string sx) := (HBr.out.cell hsz1).trans x1
      have y2 : wr.cell? ⟨w.heap.size, 2, none⟩ = some (.int .i64 n) := (HBr.out.cell hsz1).trans x2
      clear hrel x0 x1 x2
      go_wp2_with fail
      refine (HO.out _ wr HRL.out (HK.out.below HBw.out)).mono ?_
      rintro e w5 ⟨r5, rfl, hr5, hb5'⟩
      have HR5 : Hid _ := hr5
      have HB5 : Hid (Below w.heap.size w w5) := HBw.out.trans (hb5'.mono HBw.out.size)
      clear hr5 hb5' y0 y1 y2
      go_wp2_with fail
      refine (HE.out r5 w5 HR5.out).mono ?_
      rintro e w6 ⟨r6, rfl, hown6, hb6⟩
      have HO6 : Hid _ := owns_mono hown6 HB5.out.size
      have HB6 : Hid (Below w.heap.size w w6) := HB5.out.trans (hb6.mono HB5.out.size)
      clear hown6 hb6
      go_wp2_with fail
      go_ret2
      exact ⟨_, rfl, HO6.out, HB6.out⟩
end Go.Proofs.YtfkddfmbgbaefaaGreatDoor
namespace Go.Proofs.YtfkddfmbgbaefaaGreatDoor
open Go.RowKit Go.Gs
set_option linter.unusedVariables false

theorem rlist_new {α : Type} {W : World} {f : α → Value} {t : TypeId} {N : Nat} {C : Array Value} (pss : List (List α)) (hN : pss.length = N) (hC : C.size = N) (hn : N ≤ 1000) (h : ∀ (j : Nat) (p : List α), pss[j]? = some p → ∃ u, C[j]? = some u ∧ Reads W u p.length (p.map f)) : RList (W.alloc (.cells C t)) (.slice (some ⟨W.heap.size, 0, none⟩) N N) f pss := by
  subst hN
  refine ⟨C.toList, reads_new W C t (0, 0) pss.length hC (by omega), fun j p hj => ?_⟩
  obtain ⟨u, h1, h2⟩ := h j p hj
  exact ⟨u, by simpa using h1, h2.below box_of⟩
theorem reads_nil {α : Type} {W : World} {f : α → Value} : Reads W (.slice none 0 0) ([] : List α).length (([] : List α).map f) := ⟨rfl, none, 0, rfl, Nat.le_refl _, by unfold maxLen; omega, fun h => absurd rfl h⟩

theorem reads_lit {W : World} {C : Array Value} {fr : Nat × Nat} {x : List UInt8} {n : Nat} (hC : C.toList = x.map U) (hn : x.length = n) (hm : n ≤ 1000000) : Reads (W.alloc (.cells C 5 fr)) (.slice (some ⟨W.heap.size, 0, none⟩) n n) x.length (x.map U) := by
  subst hn
  have hl : C.size = x.length := by
    have := congrArg List.length hC
    simpa using this
  have := reads_new W C 5 fr x.length hl hm
  rwa [hC] at this
theorem two_lits {w : World} {A B : Array Value} {fa fb : Nat × Nat} {x y : List UInt8} {n m : Nat} {t : TypeId} (hA : A.toList = x.map U) (hx : x.length = n) (hn : n ≤ 1000000) (hB : B.toList = y.map U) (hy : y.length = m) (hm : m ≤ 1000000) :
    RList (((w.alloc (.cells A 5 fa)).alloc (.cells B 5 fb)).alloc (.cells #[.slice (some ⟨w.heap.size, 0, none⟩) n n, .slice (some ⟨w.heap.size + 1, 0, none⟩) m m] t)) (.slice (some ⟨w.heap.size + 1 + 1, 0, none⟩) 2 2) U [x, y] := by
  have h := rlist_new (W := (w.alloc (.cells A 5 fa)).alloc (.cells B 5 fb)) (f := U) (t := t) (N := 2) (C := #[.slice (some ⟨w.heap.size, 0, none⟩) n n, .slice (some ⟨w.heap.size + 1, 0, none⟩) m m]) [x, y] rfl rfl (by omega) (fun j p hj => by
    match j, hj with
    | 0, hj => simp at hj; subst hj; exact ⟨_, rfl, (reads_lit hA hx hn).below box_of⟩
    | 1, hj =>
      simp at hj; subst hj
      refine ⟨_, rfl, ?_⟩
      have := reads_lit (W := w.alloc (.cells A 5 fa)) (fr := fb) hB hy hm
      rwa [show (w.alloc (.cells A 5 fa)).heap.size = w.heap.size + 1 by simp] at this
    | j + 2, hj => simp at hj)
  rwa [show ((w.alloc (.cells A 5 fa)).alloc (.cells B 5 fb)).heap.size = w.heap.size + 1 + 1 by simp] at h
theorem below3a {w : World} {o p q : Obj} : Below w.heap.size w (((w.alloc o).alloc p).alloc q) := (((Below.refl _ w).alloc (Nat.le_refl _) o).alloc (by simp) p).alloc (by simp; omega) q
theorem below_four {w : World} {o p q r : Obj} : Below w.heap.size w ((((w.alloc o).alloc p).alloc q).alloc r) := below3a.alloc (by simp; omega) r
theorem four_lits {w : World} {A B C : Array Value} {fa fb fc : Nat × Nat} {x y z : List UInt8} {n m k : Nat} {t : TypeId} (hA : A.toList = x.map U) (hx : x.length = n) (hn : n ≤ 1000000) (hB : B.toList = y.map U) (hy : y.length = m) (hm : m ≤ 1000000) (hC : C.toList = z.map U) (hz : z.length = k) (hk : k ≤ 1000000) :
    RList ((((w.alloc (.cells A 5 fa)).alloc (.cells B 5 fb)).alloc (.cells C 5 fc)).alloc (.cells #[.slice (some ⟨w.heap.size, 0, none⟩) n n, .slice (some ⟨w.heap.size + 1, 0, none⟩) m m, .slice none 0 0, .slice (some ⟨w.heap.size + 1 + 1, 0, none⟩) k k] t)) (.slice (some ⟨w.heap.size + 1 + 1 + 1, 0, none⟩) 4 4) U [x, y, [], z] := by
  have h := rlist_new (W := ((w.alloc (.cells A 5 fa)).alloc (.cells B 5 fb)).alloc (.cells C 5 fc)) (f := U) (t := t) (N := 4) (C := #[.slice (some ⟨w.heap.size, 0, none⟩) n n, .slice (some ⟨w.heap.size + 1, 0, none⟩) m m, .slice none 0 0, .slice (some ⟨w.heap.size + 1 + 1, 0, none⟩) k k]) [x, y, [], z] rfl rfl (by omega) (fun j p hj => by
    match j, hj with
    | 0, hj => simp at hj; subst hj; exact ⟨_, rfl, ((reads_lit hA hx hn).below box_of).below box_of⟩
    | 1, hj =>
      simp at hj; subst hj
      refine ⟨_, rfl, ?_⟩
      have := (reads_lit (W := w.alloc (.cells A 5 fa)) (fr := fb) hB hy hm).below (box_of (o := .cells C 5 fc))
      rwa [show (w.alloc (.cells A 5 fa)).heap.size = w.heap.size + 1 by simp] at this
    | 2, hj => simp at hj; subst hj; exact ⟨_, rfl, reads_nil⟩
    | 3, hj =>
      simp at hj; subst hj
      refine ⟨_, rfl, ?_⟩
      have := reads_lit (W := (w.alloc (.cells A 5 fa)).alloc (.cells B 5 fb)) (fr := fc) hC hz hk
      rwa [show ((w.alloc (.cells A 5 fa)).alloc (.cells B 5 fb)).heap.size = w.heap.size + 1 + 1 by simp] at this
    | j + 4, hj => simp at hj)
  rwa [show (((w.alloc (.cells A 5 fa)).alloc (.cells B 5 fb)).alloc (.cells C 5 fc)).heap.size = w.heap.size + 1 + 1 + 1 by simp] at h

def zeroC : Cmd := ⟨0, [], 0⟩
def sp1 : List UInt8 := [97, 10, 99, 10]
def sp2 : List UInt8 := [98, 10]
def sp3 : List UInt8 := [50, 10]
def sp4 : List UInt8 := [51]
def sp5 : List UInt8 := [120, 10]
theorem sp_merge : jOut 2 zeroC [sp1, sp2] = [97, 10, 98, 10, 99, 10] := by decide +kernel
theorem itoa_two : Lib.itoa ((2 : Nat) : Int) = [50] := by unfold Lib.itoa; rw [if_neg (by omega), Lib.decDigits, dif_pos (by decide)]; rfl
theorem itoa_three : Lib.itoa ((3 : Nat) : Int) = [51] := by unfold Lib.itoa; rw [if_neg (by omega), Lib.decDigits, dif_pos (by decide)]; rfl
theorem itoa_five : Lib.itoa ((5 : Nat) : Int) = [53] := by unfold Lib.itoa; rw [if_neg (by omega), Lib.decDigits, dif_pos (by decide)]; rfl
theorem sp_sum : jOut 3 zeroC [sp3, sp4, [], sp5] = [53, 10] := by
  have e1 : lines sp3 = [[50]] := by decide +kernel
  have e2 : lines sp4 = [[51]] := by decide +kernel
  have e3 : lines [] = [] := by decide +kernel
  have e4 : lines sp5 = [[120]] := by decide +kernel
  have n1 : headNum [[50]] = 2 := by rw [headNum_cons, ← itoa_two]; exact numOf_itoa 2 (by omega)
  have n2 : headNum [[51]] = 3 := by rw [headNum_cons, ← itoa_three]; exact numOf_itoa 3 (by omega)
  have n3 : headNum [[120]] = 0 := by
    rw [headNum_cons]
    have hs : Lib.atoiAll [120] = .«syntax» := by decide +kernel
    exact numOf_bad (fun n h => by rw [hs] at h; cases h)
  have hsum : sumOf [[[50]], [[51]], [], [[120]]] = 5 := by
    unfold sumOf
    simp only [List.map_cons, List.map_nil, List.sum_cons, List.sum_nil, n1, n2, n3, headNum_nil]
    rfl
  unfold jOut
  simp only [List.map_cons, List.map_nil, e1, e2, e3, e4]
  rw [joined3, hsum, itoa_five]
  rfl

set_option maxRecDepth 100000 in
set_option maxHeartbeats 4000000 in
theorem spliced_true (w : World) (hE : KnownE w) : Calls Tryz.prog 32 #[] w fun e w' => e = .returned (.bool true) ∧ Below w.heap.size w w' := by
  have kc := fun (w : World) (C : Array Value) (n c : Nat) => Lib.run_convert_bytes_const (P := Tryz.prog) w 24 5 C n c Tryz.underlying24 Tryz.underlying5
  have kc1 : ∀ (w : World) (o : Obj) (C : Array Value) (n c : Nat), (convert 24 24 (.slice (some ⟨w.heap.size + 1, 0, none⟩) n c)).run Tryz.prog ((w.alloc o).alloc (.cells C 5)) = .ok (.slice (some ⟨w.heap.size + 1, 0, none⟩) n c) ((w.alloc o).alloc (.cells C 5 (C.size, C.size + 1))) := by
    intro w o C n c
    have := kc (w.alloc o) C n c
    rwa [show (w.alloc o).heap.size = w.heap.size + 1 by simp] at this
  have kc2 : ∀ (w : World) (o p : Obj) (C : Array Value) (n c : Nat), (convert 24 24 (.slice (some ⟨w.heap.size + 1 + 1, 0, none⟩) n c)).run Tryz.prog (((w.alloc o).alloc p).alloc (.cells C 5)) = .ok (.slice (some ⟨w.heap.size + 1 + 1, 0, none⟩) n c) (((w.alloc o).alloc p).alloc (.cells C 5 (C.size, C.size + 1))) := by
    intro w o p C n c
    have := kc ((w.alloc o).alloc p) C n c
    rwa [show ((w.alloc o).alloc p).heap.size = w.heap.size + 1 + 1 by simp] at this
  have HK : Hid (KnownE w) := hE
  clear hE
  go_enter Tryz.func32, Tryz.ntmps32
  go_wp2_with fail
  have HD1 : Hid _ := fun (W : World) (v : Value) hp hE => jdo_ok 2 zeroC v [sp1, sp2] W (by decide) (by decide) hp (by decide) (by decide) hE
  refine (HD1.out _ _ (two_lits ?a1 rfl (by decide) ?a2 rfl (by decide)) (HK.out.below below3a)).mono ?_
  case a1 => rfl
  case a2 => rfl
  rintro e w1 ⟨r1, rfl, hown1, hb1⟩
  rw [sp_merge] at hown1
  have HR1 : Hid (Reads w1 r1 6 ([97, 10, 98, 10, 99, 10].map U)) := Reads.of_owns hown1
  have HB1 : Hid (Below w.heap.size w w1) := below3a.trans (hb1.mono (by simp; omega))
  clear hown1 hb1 HD1
  go_wp2_with fail
  have HD2 : Hid _ := fun (W : World) (v : Value) hp hE => jdo_ok 3 zeroC v [sp3, sp4, [], sp5] W (by decide) (by decide) hp (by decide) (by decide) hE
  refine (HD2.out _ _ (four_lits ?b1 rfl (by decide) ?b2 rfl (by decide) ?b3 rfl (by decide)) ((HK.out.below HB1.out).below below_four)).mono ?_
  case b1 => rfl
  case b2 => rfl
  case b3 => rfl
  rintro e w2 ⟨r2, rfl, hown2, hb2⟩
  rw [sp_sum] at hown2
  have hb12 : Below w1.heap.size w1 w2 := below_four.trans (hb2.mono (by simp; omega))
  have HR2 : Hid (Reads w2 r2 2 ([53, 10].map U)) := Reads.of_owns hown2
  have HR12 : Hid (Reads w2 r1 6 ([97, 10, 98, 10, 99, 10].map U)) := HR1.out.below hb12
  have HB2 : Hid (Below w.heap.size w w2) := HB1.out.trans (hb12.mono HB1.out.size)
  clear hown2 hb2 hb12 HD2 HR1 HB1
  go_wp2_with fail
  have hF := for_is ⟨9, [], 1⟩ w2 (by decide)
  rw [if_pos (by decide)] at hF
  refine hF.mono ?_
  rintro e w3 ⟨rfl, hb3⟩
  have hcv1 := conv_any (bs := [97, 10, 98, 10, 99, 10]) (HR12.out.below hb3)
  have hcv2 := conv_any (bs := [53, 10]) (HR2.out.below hb3)
  have HB3 : Hid (Below w.heap.size w w3) := HB2.out.trans (hb3.mono HB2.out.size)
  clear hb3 HR12 HR2 HB2 hF kc kc1 kc2
  go_wp2_with fail
  go_ret
  exact ⟨rfl, HB3.out⟩
end Go.Proofs.YtfkddfmbgbaefaaGreatDoor
namespace Go.Proofs.YtfkddfmbgbaefaaGreatDoor
open Go.RowKit Go.Gs
set_option linter.unusedVariables false

set_option maxRecDepth 100000 in
set_option maxHeartbeats 4000000 in
theorem small_list (v : Value) (pss : List (List UInt8)) (w : World) (hp : RList w v U pss) (hn : pss.length ≤ 1000) (hb : ∀ p ∈ pss, p.length ≤ 1000000000000000) :
    Calls Tryz.prog 21 #[v] w fun e w' => e = .returned (.bool (decide ((pss.flatten).length ≤ 2000))) ∧ w' = w := by
  obtain ⟨ao, cap, rfl, hc1, hc2⟩ := hp.shape
  have HP : Hid (RList w (.slice ao pss.length cap) U pss) := hp
  obtain ⟨N, hN⟩ : ∃ N, N = pss.length := ⟨_, rfl⟩
  have HN : Hid (N = pss.length) := hN
  have hN4 : N ≤ 1000 := by omega
  have hcN : N ≤ cap := by omega
  have hcm : cap ≤ 9223372036854775807 := by simpa [maxLen] using hc2
  rw [← hN]
  clear hN hp hn hc1 hc2
  go_enter Tryz.func21, Tryz.ntmps21
  go_wp2_with fail
  go_loopw [3, 8] (fun s i wr => ∃ k : Nat, ∃ m : Nat, k ≤ N ∧ m ≤ 2000 ∧ i = .int .i64 k ∧ s = .int .i64 m ∧ wr = w ∧ Hid (m = ((pss.take k).flatten).length))
    (fun _ i _ => N - (intOf i).toNat)
  case atStart => exact ⟨0, 0, Nat.zero_le _, by omega, rfl, rfl, rfl, (show _ = _ from by simp)⟩
  case round =>
    obtain ⟨k, m, hk, hm, rfl, rfl, hw, hmk⟩ := hrel
    obtain rfl : w = wr := hw.symm
    clear hw
    by_cases hlt : k < N
    · obtain ⟨p, hpk⟩ : ∃ p, pss[k]? = some p := ⟨_, List.getElem?_eq_getElem (by have := HN.out; omega)⟩
      have hpb := hb p (List.mem_of_getElem? hpk)
      have HS : Hid (m + p.length = ((pss.take (k + 1)).flatten).length) := (show _ = _ from by rw [flat_step hpk, List.length_append, ← hmk.out])
      have HPr : Hid (RList w (.slice ao N cap) U pss) := by rw [HN.out]; exact HP.out
      obtain ⟨b, off, au, cu, rfl, hcell, _⟩ := HPr.out.at hpk
      clear hpk hmk
      generalize p.length = pl at *
      by_cases hbig : 2000 < m + pl
      · have HD : Hid _ := small_no (pss := pss) (k := k + 1) (by rw [← HS.out]; exact hbig)
        have hgt : (2000 : Int) < (m : Int) + (pl : Int) := by omega
        clear hb
        go_wp2_with fail
        go_ret
        refine ⟨?_, rfl⟩
        show Ending.returned (.bool false) = _
        rw [HD.out]
      · have hgt : ¬ (2000 : Int) < (m : Int) + (pl : Int) := by omega
        go_wp2_with fail
        go_roundw
        case rel => exact ⟨k + 1, m + pl, by omega, by omega, by go_num, by go_num, by simp, HS.out⟩
        case measure => simp [intOf]; omega
    · have hkN : k = N := by omega
      have HD : Hid (decide ((pss.flatten).length ≤ 2000) = true) := (show _ = _ from by
        have h := hmk.out
        rw [hkN, HN.out, List.take_length] at h
        exact decide_eq_true (by omega))
      clear hb hmk
      go_wp2_with fail
      go_ret
      refine ⟨?_, rfl⟩
      show Ending.returned (.bool true) = _
      rw [HD.out]
end Go.Proofs.YtfkddfmbgbaefaaGreatDoor
namespace Go.Proofs.YtfkddfmbgbaefaaGreatDoor
open Go.RowKit Go.Gs
set_option linter.unusedVariables false

/-- What the walk stands on: how and the command in their boxes, three parts. -/
def NA (w W : World) (how : Int) (c : Cmd) (va vb vd : Value) (a b d : List UInt8) : Prop :=
  (W.cell? ⟨w.heap.size, 0, none⟩ = some (.int .i64 how) ∧ W.cell? ⟨w.heap.size + 1, 0, none⟩ = some (.int .i64 c.kind) ∧ W.cell? ⟨w.heap.size + 1, 1, none⟩ = some (.string ⟨c.word.toArray⟩) ∧ W.cell? ⟨w.heap.size + 1, 2, none⟩ = some (.int .i64 c.n)) ∧
  Reads W va a.length (a.map U) ∧ Reads W vb b.length (b.map U) ∧ Reads W vd d.length (d.map U) ∧ KnownE W ∧ Below w.heap.size w W
theorem NA.below {w W W' : World} {how : Int} {c : Cmd} {va vb vd : Value} {a b d : List UInt8} (h : NA w W how c va vb vd a b d) (hb : Below W.heap.size W W') : NA w W' how c va vb vd a b d := by
  obtain ⟨⟨h0, h1, h2, h3⟩, h4, h5, h6, h7, h8⟩ := h
  have hl0 := World.block_lt_of_cell? W _ h0
  have hl1 := World.block_lt_of_cell? W _ h1
  exact ⟨⟨(hb.cell hl0).trans h0, (hb.cell (p := ⟨w.heap.size + 1, 0, none⟩) hl1).trans h1, (hb.cell (p := ⟨w.heap.size + 1, 1, none⟩) hl1).trans h2, (hb.cell (p := ⟨w.heap.size + 1, 2, none⟩) hl1).trans h3⟩, h4.below hb, h5.below hb, h6.below hb, h7.below hb, h8.trans (hb.mono h8.size)⟩
theorem NA.parts {w W : World} {how : Int} {c : Cmd} {va vb vd va' vb' vd' : Value} {a b d a' b' d' : List UInt8} (h : NA w W how c va vb vd a b d) (h1 : Reads W va' a'.length (a'.map U)) (h2 : Reads W vb' b'.length (b'.map U)) (h3 : Reads W vd' d'.length (d'.map U)) : NA w W how c va' vb' vd' a' b' d' :=
  ⟨h.1, h1, h2, h3, h.2.2.2.2⟩
theorem below_two' {w : World} {o p : Obj} : Below w.heap.size w ((w.alloc o).alloc p) := ((Below.refl _ w).alloc (Nat.le_refl _) o).alloc (by simp) p
theorem NA.start {w : World} {how : Int} {c : Cmd} {va vb vd : Value} {a b d : List UInt8} {t t' : TypeId} (h1 : Reads w va a.length (a.map U)) (h2 : Reads w vb b.length (b.map U)) (h3 : Reads w vd d.length (d.map U)) (hE : KnownE w) :
    NA w ((w.alloc (.cells #[.int .i64 how] t)).alloc (.cells #[.int .i64 c.kind, .string ⟨c.word.toArray⟩, .int .i64 c.n] t')) how c va vb vd a b d := by
  have hb : Below w.heap.size w ((w.alloc (.cells #[.int .i64 how] t)).alloc (.cells #[.int .i64 c.kind, .string ⟨c.word.toArray⟩, .int .i64 c.n] t')) := below_two'
  refine ⟨⟨?_, ?_, ?_, ?_⟩, h1.below hb, h2.below hb, h3.below hb, hE.below hb, hb⟩
  · exact Lib.cell?_alloc_some _ (by rw [cell_of_row _ _ _ _ _ _ (heap_alloc_new w _)]; rfl)
  all_goals
    have hs : (w.alloc (.cells #[.int .i64 how] t)).heap.size = w.heap.size + 1 := by simp
    rw [← hs, cell_of_row _ _ _ _ _ _ (heap_alloc_new _ _)]
    rfl

set_option maxRecDepth 100000 in
set_option maxHeartbeats 4000000 in
theorem nest_do (how : Int) (c : Cmd) (hj : jchk how c = 0) (hw : c.word.length ≤ 9223372036854775807) (B0 B1 : Nat) (v : Value) (bss : List (List UInt8)) (W : World) (h0 : W.cell? ⟨B0, 0, none⟩ = some (.int .i64 how)) (h1 : W.cell? ⟨B1, 0, none⟩ = some (.int .i64 c.kind)) (h2 : W.cell? ⟨B1, 1, none⟩ = some (.string ⟨c.word.toArray⟩)) (h3 : W.cell? ⟨B1, 2, none⟩ = some (.int .i64 c.n))
    (hp : RList W v U bss) (hn : bss.length ≤ 5) (hT : bss.flatten.length ≤ 4000) (hE : KnownE W) :
    Calls Tryz.prog 37 #[v, .pointer (some ⟨B0, 0, none⟩), .pointer (some ⟨B1, 0, none⟩)] W fun e w' => ∃ r, e = .returned r ∧ Reads w' r (jOut how c bss).length ((jOut how c bss).map U) ∧ Below W.heap.size W w' := by
  have hdo := jdo_ok how c v bss W hw hj hp hn hT hE
  obtain ⟨ao, cap, rfl, _⟩ := hp.shape
  generalize jOut how c bss = D at *
  obtain ⟨k, word, n⟩ := c
  unfold Cmd.v at hdo
  simp only at hdo h1 h2 h3
  clear hp hn hT hE hj hw
  generalize (⟨word.toArray⟩ : ByteArray) = sx at *
  generalize bss.length = N at *
  go_enter Tryz.func37, Tryz.ntmps37
  go_wp2_with fail
  refine hdo.mono ?_
  rintro e w1 ⟨r, rfl, hown, hb⟩
  have HR : Hid (Reads w1 r D.length (D.map U)) := Reads.of_owns hown
  have HB : Hid (Below W.heap.size W w1) := hb
  clear hown hb hdo
  go_wp2_with fail
  go_ret
  exact ⟨_, rfl, HR.out, HB.out⟩

/-- Two parts, three parts. -/
theorem nest_do2 {w W : World} {how : Int} {c : Cmd} {va vb vd x y : Value} {a b d p q : List UInt8} (h : NA w W how c va vb vd a b d) (hj : jchk how c = 0) (hw : c.word.length ≤ 9223372036854775807) (hx : Reads W x p.length (p.map U)) (hy : Reads W y q.length (q.map U)) (hT : p.length + q.length ≤ 4000) :
    Calls Tryz.prog 37 #[.slice (some ⟨W.heap.size, 0, none⟩) 2 2, .pointer (some ⟨w.heap.size, 0, none⟩), .pointer (some ⟨w.heap.size + 1, 0, none⟩)] (W.alloc (.cells #[x, y] 24)) fun e w' => ∃ o N cp, e = .returned (.slice o N cp) ∧ Hid (Reads w' (.slice o N cp) (jOut how c [p, q]).length ((jOut how c [p, q]).map U)) ∧ Hid (NA w w' how c va vb vd a b d) ∧ Hid (Below W.heap.size W w') := by
  have hb : Below W.heap.size W (W.alloc (.cells #[x, y] 24)) := box_of
  obtain ⟨⟨c0, c1, c2, c3⟩, _, _, _, hE, _⟩ := h.below hb
  have hp : RList (W.alloc (.cells #[x, y] 24)) (.slice (some ⟨W.heap.size, 0, none⟩) 2 2) U [p, q] := rlist_new [p, q] rfl rfl (by omega) (fun j r hj => by
    match j, hj with
    | 0, hj => simp at hj; subst hj; exact ⟨_, rfl, hx⟩
    | 1, hj => simp at hj; subst hj; exact ⟨_, rfl, hy⟩
    | j + 2, hj => simp at hj)
  refine (nest_do how c hj hw _ _ _ [p, q] _ c0 c1 c2 c3 hp (by simp) (by simpa using hT) hE).mono ?_
  rintro e w' ⟨r, rfl, h1, h2⟩
  obtain ⟨_, o, cp, rfl, _⟩ := id h1
  have hB := hb.trans (h2.mono (by simp))
  exact ⟨o, _, cp, rfl, h1, h.below hB, hB⟩
theorem nest_do3 {w W : World} {how : Int} {c : Cmd} {va vb vd x y z : Value} {a b d p q s : List UInt8} (h : NA w W how c va vb vd a b d) (hj : jchk how c = 0) (hw : c.word.length ≤ 9223372036854775807) (hx : Reads W x p.length (p.map U)) (hy : Reads W y q.length (q.map U)) (hz : Reads W z s.length (s.map U)) (hT : p.length + q.length + s.length ≤ 4000) :
    Calls Tryz.prog 37 #[.slice (some ⟨W.heap.size, 0, none⟩) 3 3, .pointer (some ⟨w.heap.size, 0, none⟩), .pointer (some ⟨w.heap.size + 1, 0, none⟩)] (W.alloc (.cells #[x, y, z] 24)) fun e w' => ∃ o N cp, e = .returned (.slice o N cp) ∧ Hid (Reads w' (.slice o N cp) (jOut how c [p, q, s]).length ((jOut how c [p, q, s]).map U)) ∧ Hid (NA w w' how c va vb vd a b d) ∧ Hid (Below W.heap.size W w') := by
  have hb : Below W.heap.size W (W.alloc (.cells #[x, y, z] 24)) := box_of
  obtain ⟨⟨c0, c1, c2, c3⟩, _, _, _, hE, _⟩ := h.below hb
  have hp : RList (W.alloc (.cells #[x, y, z] 24)) (.slice (some ⟨W.heap.size, 0, none⟩) 3 3) U [p, q, s] := rlist_new [p, q, s] rfl rfl (by omega) (fun j r hj => by
    match j, hj with
    | 0, hj => simp at hj; subst hj; exact ⟨_, rfl, hx⟩
    | 1, hj => simp at hj; subst hj; exact ⟨_, rfl, hy⟩
    | 2, hj => simp at hj; subst hj; exact ⟨_, rfl, hz⟩
    | j + 3, hj => simp at hj)
  refine (nest_do how c hj hw _ _ _ [p, q, s] _ c0 c1 c2 c3 hp (by simp) (by simp; omega) hE).mono ?_
  rintro e w' ⟨r, rfl, h1, h2⟩
  obtain ⟨_, o, cp, rfl, _⟩ := id h1
  have hB := hb.trans (h2.mono (by simp))
  exact ⟨o, _, cp, rfl, h1, h.below hB, hB⟩
theorem nest_small {w W : World} {how : Int} {c : Cmd} {va vb vd : Value} {a b d : List UInt8} (h : NA w W how c va vb vd a b d) (ha : a.length ≤ 1000000000000000) (hb' : b.length ≤ 1000000000000000) (hd : d.length ≤ 1000000000000000) :
    Calls Tryz.prog 21 #[.slice (some ⟨W.heap.size, 0, none⟩) 3 3] (W.alloc (.cells #[va, vb, vd] 24)) fun e w' => e = .returned (.bool (decide (a.length + b.length + d.length ≤ 2000))) ∧ Below W.heap.size W w' := by
  have hb : Below W.heap.size W (W.alloc (.cells #[va, vb, vd] 24)) := box_of
  obtain ⟨_, hx, hy, hz, _, _⟩ := h
  have hp : RList (W.alloc (.cells #[va, vb, vd] 24)) (.slice (some ⟨W.heap.size, 0, none⟩) 3 3) U [a, b, d] := rlist_new [a, b, d] rfl rfl (by omega) (fun j r hj => by
    match j, hj with
    | 0, hj => simp at hj; subst hj; exact ⟨_, rfl, hx⟩
    | 1, hj => simp at hj; subst hj; exact ⟨_, rfl, hy⟩
    | 2, hj => simp at hj; subst hj; exact ⟨_, rfl, hz⟩
    | j + 3, hj => simp at hj)
  have hs := small_list _ [a, b, d] _ hp (by simp) (by intro p hp; simp at hp; rcases hp with rfl | rfl | rfl <;> assumption)
  refine hs.mono ?_
  rintro e w' ⟨rfl, rfl⟩
  refine ⟨?_, hb⟩
  have : [a, b, d].flatten.length = a.length + b.length + d.length := by simp; omega
  rw [this]
end Go.Proofs.YtfkddfmbgbaefaaGreatDoor
namespace Go.Proofs.YtfkddfmbgbaefaaGreatDoor
open Go.RowKit Go.Gs
set_option linter.unusedVariables false

set_option maxRecDepth 100000 in
set_option maxHeartbeats 8000000 in
theorem nest_early4 (k n : Int) (word : List UInt8) (oa ob od : Option Addr) (ca cb cd : Nat) (a b d : List UInt8) (w : World) (hw : word.length ≤ 9223372036854775807) (h1 : Reads w (.slice oa a.length ca) a.length (a.map U)) (h2 : Reads w (.slice ob b.length cb) b.length (b.map U)) (h3 : Reads w (.slice od d.length cd) d.length (d.map U)) (hE : KnownE w) (ha : a.length ≤ 1000000000000000) (hb : b.length ≤ 1000000000000000) (hd : d.length ≤ 1000000000000000)
    (hbad : jchk 4 ⟨k, word, n⟩ ≠ 0 ∨ 2000 < a.length + b.length + d.length) :
    Calls Tryz.prog 8 #[.int .i64 4, .agg #[.int .i64 k, .string ⟨word.toArray⟩, .int .i64 n], .slice oa a.length ca, .slice ob b.length cb, .slice od d.length cd] w fun e w' => e = .returned (.bool true) ∧ Below w.heap.size w w' := by
  have N0 : Hid (NA w _ 4 ⟨k, word, n⟩ (.slice oa a.length ca) (.slice ob b.length cb) (.slice od d.length cd) a b d) := NA.start (how := 4) (c := ⟨k, word, n⟩) (t := 3) (t' := 23) h1 h2 h3 hE
  have hC := fun W => jcheck_is 4 ⟨k, word, n⟩ W hw
  unfold Cmd.v at hC
  simp only at hC
  generalize hr : jchk 4 ⟨k, word, n⟩ = r at *
  clear h1 h2 h3 hE hw
  go_enter Tryz.func8, Tryz.ntmps8
  go_wp2_with fail
  refine (spliced_true _ N0.out.2.2.2.2.1).mono ?_
  rintro e w1 ⟨rfl, hb1⟩
  have N1 : Hid (NA w w1 4 ⟨k, word, n⟩ (.slice oa a.length ca) (.slice ob b.length cb) (.slice od d.length cd) a b d) := N0.out.below hb1
  obtain ⟨x0, x1, x2, x3⟩ := N1.out.1
  clear hb1 N0
  go_wp2_with fail
  refine (hC _).mono ?_
  rintro e w2 ⟨rfl, hb2⟩
  have N2 : Hid (NA w w2 4 ⟨k, word, n⟩ (.slice oa a.length ca) (.slice ob b.length cb) (.slice od d.length cd) a b d) := N1.out.below hb2
  clear hb2 N1 hC x0 x1 x2 x3
  have hspl := spliced_true w2 N2.out.2.2.2.2.1
  by_cases hr0 : r = 0
  · subst hr0
    have hbig : 2000 < a.length + b.length + d.length := by rcases hbad with h | h; exact absurd rfl h; exact h
    have hsm := nest_small N2.out ha hb hd
    rw [decide_eq_false (by omega)] at hsm
    clear hbad hbig hspl
    go_wp2_with fail
    refine hsm.mono ?_
    rintro e w3 ⟨rfl, hb3⟩
    have N3 : Hid (NA w w3 4 ⟨k, word, n⟩ (.slice oa a.length ca) (.slice ob b.length cb) (.slice od d.length cd) a b d) := N2.out.below hb3
    clear hb3 hsm N2
    go_wp2_with fail
    refine (spliced_true w3 N3.out.2.2.2.2.1).mono ?_
    rintro e w4 ⟨rfl, hb4⟩
    have N4 : Hid _ := N3.out.below hb4
    clear hb4 N3
    go_wp2_with fail
    go_ret
    exact ⟨rfl, N4.out.2.2.2.2.2⟩
  · clear hbad
    go_wp2_with fail
    refine hspl.mono ?_
    rintro e w3 ⟨rfl, hb3⟩
    have N3 : Hid _ := N2.out.below hb3
    clear hb3 N2 hspl
    go_wp2_with fail
    go_ret
    exact ⟨rfl, N3.out.2.2.2.2.2⟩
set_option maxRecDepth 100000 in
set_option maxHeartbeats 8000000 in
theorem nest_early (how : Int) (h4 : how ≠ 4) (k n : Int) (word : List UInt8) (oa ob od : Option Addr) (ca cb cd : Nat) (a b d : List UInt8) (w : World) (hw : word.length ≤ 9223372036854775807) (h1 : Reads w (.slice oa a.length ca) a.length (a.map U)) (h2 : Reads w (.slice ob b.length cb) b.length (b.map U)) (h3 : Reads w (.slice od d.length cd) d.length (d.map U)) (hE : KnownE w) (ha : a.length ≤ 1000000000000000) (hb : b.length ≤ 1000000000000000) (hd : d.length ≤ 1000000000000000)
    (hbad : jchk how ⟨0, [], 0⟩ ≠ 0 ∨ 2000 < a.length + b.length + d.length) :
    Calls Tryz.prog 8 #[.int .i64 how, .agg #[.int .i64 k, .string ⟨word.toArray⟩, .int .i64 n], .slice oa a.length ca, .slice ob b.length cb, .slice od d.length cd] w fun e w' => e = .returned (.bool true) ∧ Below w.heap.size w w' := by
  have N0 : Hid (NA w _ how ⟨0, [], 0⟩ (.slice oa a.length ca) (.slice ob b.length cb) (.slice od d.length cd) a b d) := NA.start (how := how) (c := ⟨0, [], 0⟩) (t := 3) (t' := 23) h1 h2 h3 hE
  have hC := fun W => jcheck_is how ⟨0, [], 0⟩ W (Nat.zero_le _)
  unfold Cmd.v at hC
  simp only at hC
  generalize hr : jchk how ⟨0, [], 0⟩ = r at *
  have h4' : (how == 4) = false := by simpa using h4
  clear h1 h2 h3 hE hw
  go_enter Tryz.func8, Tryz.ntmps8
  go_wp2_with fail
  refine (spliced_true _ N0.out.2.2.2.2.1).mono ?_
  rintro e w1 ⟨rfl, hb1⟩
  have N1 : Hid (NA w w1 how ⟨0, [], 0⟩ (.slice oa a.length ca) (.slice ob b.length cb) (.slice od d.length cd) a b d) := N0.out.below hb1
  obtain ⟨x0, x1, x2, x3⟩ := N1.out.1
  clear hb1 N0
  go_wp2_with fail
  refine (hC _).mono ?_
  rintro e w2 ⟨rfl, hb2⟩
  have N2 : Hid (NA w w2 how ⟨0, [], 0⟩ (.slice oa a.length ca) (.slice ob b.length cb) (.slice od d.length cd) a b d) := N1.out.below hb2
  clear hb2 N1 hC x0 x1 x2 x3
  have hspl := spliced_true w2 N2.out.2.2.2.2.1
  by_cases hr0 : r = 0
  · subst hr0
    have hbig : 2000 < a.length + b.length + d.length := by rcases hbad with h | h; exact absurd rfl h; exact h
    have hsm := nest_small N2.out ha hb hd
    rw [decide_eq_false (by omega)] at hsm
    clear hbad hbig hspl
    go_wp2_with fail
    refine hsm.mono ?_
    rintro e w3 ⟨rfl, hb3⟩
    have N3 : Hid (NA w w3 how ⟨0, [], 0⟩ (.slice oa a.length ca) (.slice ob b.length cb) (.slice od d.length cd) a b d) := N2.out.below hb3
    clear hb3 hsm N2
    go_wp2_with fail
    refine (spliced_true w3 N3.out.2.2.2.2.1).mono ?_
    rintro e w4 ⟨rfl, hb4⟩
    have N4 : Hid _ := N3.out.below hb4
    clear hb4 N3
    go_wp2_with fail
    go_ret
    exact ⟨rfl, N4.out.2.2.2.2.2⟩
  · clear hbad
    go_wp2_with fail
    refine hspl.mono ?_
    rintro e w3 ⟨rfl, hb3⟩
    have N3 : Hid _ := N2.out.below hb3
    clear hb3 N2 hspl
    go_wp2_with fail
    go_ret
    exact ⟨rfl, N3.out.2.2.2.2.2⟩

theorem three_is (k : Int) : ([7, 9, 10] : List Int).contains k = decide (k = 7 ∨ k = 9 ∨ k = 10) := by
  rw [Bool.eq_iff_iff]
  simp
theorem three_cells (W : World) (e : TypeId) : ∀ j, j < ([7, 9, 10] : List Int).length → (W.alloc (.cells #[.int .i64 7, .int .i64 9, .int .i64 10] e)).cell? ⟨W.heap.size, 0 + j, none⟩ = some (.int .i64 (([7, 9, 10] : List Int).getD j 0)) := by
  intro j hj
  rw [cell_of_row _ _ _ _ _ _ (heap_alloc_new W _)]
  have hj' : j < 3 := hj
  have : j = 0 ∨ j = 1 ∨ j = 2 := by omega
  rcases this with rfl | rfl | rfl <;> rfl
theorem three_in (k : Int) (W : World) (d : Bool) (hd : decide (k = 7 ∨ k = 9 ∨ k = 10) = d) : Calls Tryz.prog 36 #[.slice (some ⟨W.heap.size, 0, none⟩) 3 3, .int .i64 k] (W.alloc (.cells #[.int .i64 7, .int .i64 9, .int .i64 10] 3)) fun e w' => e = .returned (.bool d) ∧ Below W.heap.size W w' := by
  refine (Tryz.slices_Contains_int _ 0 3 3 [7, 9, 10] k _ (by decide) (by omega) (three_cells W _)).mono ?_
  rintro e w1 ⟨rfl, hw1⟩
  rw [show ([7, 9, 10] : List Int).take 3 = [7, 9, 10] from rfl, three_is, hd]
  exact ⟨rfl, by rw [hw1]; exact box_of⟩

set_option maxRecDepth 100000 in
set_option maxHeartbeats 8000000 in
theorem nest_other (k n : Int) (word : List UInt8) (oa ob od : Option Addr) (ca cb cd : Nat) (a b d : List UInt8) (w : World) (hw : word.length ≤ 9223372036854775807) (h1 : Reads w (.slice oa a.length ca) a.length (a.map U)) (h2 : Reads w (.slice ob b.length cb) b.length (b.map U)) (h3 : Reads w (.slice od d.length cd) d.length (d.map U)) (hE : KnownE w) (ha : a.length ≤ 1000000000000000) (hb : b.length ≤ 1000000000000000) (hd : d.length ≤ 1000000000000000) (hj : jchk 4 ⟨k, word, n⟩ = 0) (hsm : a.length + b.length + d.length ≤ 2000) (hk : ¬ (k = 7 ∨ k = 9 ∨ k = 10)) :
    Calls Tryz.prog 8 #[.int .i64 4, .agg #[.int .i64 k, .string ⟨word.toArray⟩, .int .i64 n], .slice oa a.length ca, .slice ob b.length cb, .slice od d.length cd] w fun e w' => e = .returned (.bool true) ∧ Below w.heap.size w w' := by
  have N0 : Hid (NA w _ 4 ⟨k, word, n⟩ (.slice oa a.length ca) (.slice ob b.length cb) (.slice od d.length cd) a b d) := NA.start (how := 4) (c := ⟨k, word, n⟩) (t := 3) (t' := 23) h1 h2 h3 hE
  have hC := fun W => jcheck_is 4 ⟨k, word, n⟩ W hw
  rw [hj] at hC
  unfold Cmd.v at hC
  simp only at hC
  clear h1 h2 h3 hE hw hj
  go_enter Tryz.func8, Tryz.ntmps8
  go_wp2_with fail
  refine (spliced_true _ N0.out.2.2.2.2.1).mono ?_
  rintro e w1 ⟨rfl, hb1⟩
  have N1 : Hid (NA w w1 4 ⟨k, word, n⟩ (.slice oa a.length ca) (.slice ob b.length cb) (.slice od d.length cd) a b d) := N0.out.below hb1
  obtain ⟨x0, x1, x2, x3⟩ := N1.out.1
  clear hb1 N0
  go_wp2_with fail
  refine (hC _).mono ?_
  rintro e w2 ⟨rfl, hb2⟩
  have N2 : Hid (NA w w2 4 ⟨k, word, n⟩ (.slice oa a.length ca) (.slice ob b.length cb) (.slice od d.length cd) a b d) := N1.out.below hb2
  clear hb2 N1 hC x0 x1 x2 x3
  have hs := nest_small N2.out ha hb hd
  rw [decide_eq_true hsm] at hs
  go_wp2_with fail
  refine hs.mono ?_
  rintro e w3 ⟨rfl, hb3⟩
  have N3 : Hid (NA w w3 4 ⟨k, word, n⟩ (.slice oa a.length ca) (.slice ob b.length cb) (.slice od d.length cd) a b d) := N2.out.below hb3
  obtain ⟨x0, x1, x2, x3⟩ := N3.out.1
  have y1 := fun o => Lib.cell?_alloc_some o x1
  clear hb3 hs N2
  have h3i := three_in k w3 false (decide_eq_false hk)
  clear hk
  go_wp2_with fail
  refine h3i.mono ?_
  rintro e w4 ⟨rfl, hb4⟩
  have N4 : Hid _ := N3.out.below hb4
  clear hb4 N3 h3i y1
  go_wp2_with fail
  go_ret
  exact ⟨rfl, N4.out.2.2.2.2.2⟩
end Go.Proofs.YtfkddfmbgbaefaaGreatDoor
namespace Go.Proofs.YtfkddfmbgbaefaaGreatDoor
open Go.RowKit Go.Gs
set_option linter.unusedVariables false


theorem reads_len {w : World} {o : Option Addr} {n c m : Nat} {xs : List Value} (h : Reads w (.slice o n c) m xs) : n = m := by
  obtain ⟨_, ao, cap, e, _⟩ := h
  injection e
theorem reads_prefix {w : World} {o : Option Addr} {n c : Nat} {x y : List UInt8} (h : Reads w (.slice o n c) (x ++ y).length ((x ++ y).map U)) : Reads w (.slice o x.length c) x.length (x.map U) := by
  obtain ⟨_, ao, cap, e, h2, h3, h4⟩ := h
  injection e with e1 e2 e3
  subst e1 e3
  refine ⟨by simp, o, c, rfl, by simp at h2; omega, h3, fun hn => ?_⟩
  obtain ⟨b, off, e, hc⟩ := h4 (by rw [List.length_append]; omega)
  refine ⟨b, off, e, fun j u hu => hc j u ?_⟩
  rw [List.map_append, List.getElem?_append_left (List.getElem?_eq_some_iff.1 hu).1]
  exact hu
theorem nest_eq {W : World} {u v : Value} {p q : List UInt8} (he : p = q) (h1 : Reads W u p.length (p.map U)) (h2 : Reads W v q.length (q.map U)) : Calls Tryz.prog 17 #[u, v] W fun e w' => e = .returned (.bool true) ∧ Below W.heap.size W w' := by
  subst he
  exact eqb_same u v p W h1 h2
theorem srt_doOut (x : List UInt8) : Srt (lines (doOut ⟨6, [], 0⟩ x)) := by
  rw [lines_doOut _ (by decide), made6 _ rfl]
  exact sortOf_sorted _
theorem jOut_comm2 {c : Cmd} {p q : List UInt8} (h1 : Srt (lines p)) (h2 : Srt (lines q)) : jOut 2 c [p, q] = jOut 2 c [q, p] := by
  unfold jOut
  simp only [List.map_cons, List.map_nil]
  rw [joined2, joined2, merge_comm h1 h2]
theorem jOut3 (c : Cmd) (bss : List (List UInt8)) : jOut 3 c bss = Lib.itoa (sumOf (bss.map lines) : Int) ++ [10] := by
  unfold jOut
  rw [joined3]
  simp [ended]
theorem jOut_comm3 {c : Cmd} (a b d : List UInt8) : jOut 3 c [a, b, d] = jOut 3 c [d, a, b] := by
  rw [jOut3, jOut3]
  simp only [List.map_cons, List.map_nil]
  rw [sumOf_three, sumOf_three, show headNum (lines a) + headNum (lines b) + headNum (lines d) = headNum (lines d) + headNum (lines a) + headNum (lines b) by omega]
theorem jOut_two_len (how : Int) (c : Cmd) (hj : jchk how c = 0) (p q : List UInt8) (h : p.length + q.length ≤ 3000) : (jOut how c [p, q]).length ≤ p.length + q.length + 11 := by
  have := jOut_len how c (jchk_chk hj) [p, q] (by simp; omega) (by simp)
  simpa using this

set_option maxRecDepth 100000 in
set_option maxHeartbeats 16000000 in
theorem nest_one (k n : Int) (word : List UInt8) (oa ob od : Option Addr) (ca cb cd : Nat) (a b d : List UInt8) (w : World) (hw : word.length ≤ 9223372036854775807) (h1 : Reads w (.slice oa a.length ca) a.length (a.map U)) (h2 : Reads w (.slice ob b.length cb) b.length (b.map U)) (h3 : Reads w (.slice od d.length cd) d.length (d.map U)) (hE : KnownE w) (ha : a.length ≤ 1000000000000000) (hb : b.length ≤ 1000000000000000) (hd : d.length ≤ 1000000000000000) (hsm : a.length + b.length + d.length ≤ 2000) :
    Calls Tryz.prog 8 #[.int .i64 1, .agg #[.int .i64 k, .string ⟨word.toArray⟩, .int .i64 n], .slice oa a.length ca, .slice ob b.length cb, .slice od d.length cd] w fun e w' => e = .returned (.bool true) ∧ Below w.heap.size w w' := by
  have eg : ∀ args w, (callFunc 37 args).run Tryz.prog w = .ok (.enter 37 args) w := enters_of Tryz.func37 (by kernel_rfl) rfl
  have N0 : Hid (NA w _ 1 ⟨0, [], 0⟩ (.slice oa a.length ca) (.slice ob b.length cb) (.slice od d.length cd) a b d) := NA.start (how := 1) (c := ⟨0, [], 0⟩) (t := 3) (t' := 23) h1 h2 h3 hE
  have hC := fun W => jcheck_is 1 ⟨0, [], 0⟩ W (Nat.zero_le _)
  have HJ : Hid (jchk 1 ⟨0, [], 0⟩ = 0) := (show _ = _ by decide)
  have HW : Hid ((⟨0, [], 0⟩ : Cmd).word.length ≤ 9223372036854775807) := (Nat.zero_le _)
  rw [HJ.out] at hC
  unfold Cmd.v at hC
  simp only at hC
  have HLB1 : Hid ((jOut 1 ⟨0, [], 0⟩ [a, b]).length + d.length ≤ 4000) := by have := jOut_two_len 1 ⟨0, [], 0⟩ HJ.out a b (by omega); exact (show _ ≤ _ by omega)
  have HLB2 : Hid (a.length + (jOut 1 ⟨0, [], 0⟩ [b, d]).length ≤ 4000) := by have := jOut_two_len 1 ⟨0, [], 0⟩ HJ.out b d (by omega); exact (show _ ≤ _ by omega)
  have HL : Hid (jOut 1 ⟨0, [], 0⟩ [jOut 1 ⟨0, [], 0⟩ [a, b], d] = jOut 1 ⟨0, [], 0⟩ [a, b, d]) := nest_says_left _ _ HJ.out _ _ _ (fun h => absurd h (by decide)) (fun h => absurd h (by decide)) (fun h => absurd h (by decide))
  have HR : Hid (jOut 1 ⟨0, [], 0⟩ [a, jOut 1 ⟨0, [], 0⟩ [b, d]] = jOut 1 ⟨0, [], 0⟩ [a, b, d]) := nest_says_right _ _ HJ.out _ _ _ (fun h => absurd h (by decide)) (fun h => absurd h (by decide)) (fun h => absurd h (by decide))
  clear h1 h2 h3 hE hw
  go_enter Tryz.func8, Tryz.ntmps8
  go_wp2_with fail
  refine (spliced_true _ N0.out.2.2.2.2.1).mono ?_
  rintro e w1 ⟨rfl, hb1⟩
  have N1 : Hid (NA w w1 1 ⟨0, [], 0⟩ (.slice oa a.length ca) (.slice ob b.length cb) (.slice od d.length cd) a b d) := N0.out.below hb1
  obtain ⟨x0, x1, x2, x3⟩ := N1.out.1
  clear hb1 N0
  go_wp2_with fail
  refine (hC _).mono ?_
  rintro e w2 ⟨rfl, hb2⟩
  have N2 : Hid (NA w w2 1 ⟨0, [], 0⟩ (.slice oa a.length ca) (.slice ob b.length cb) (.slice od d.length cd) a b d) := N1.out.below hb2
  clear hb2 N1 hC x0 x1 x2 x3
  have hs := nest_small N2.out ha hb hd
  rw [decide_eq_true hsm] at hs
  go_wp2_with fail
  refine hs.mono ?_
  rintro e w3 ⟨rfl, hb3⟩
  have N3 : Hid (NA w w3 1 ⟨0, [], 0⟩ (.slice oa a.length ca) (.slice ob b.length cb) (.slice od d.length cd) a b d) := N2.out.below hb3
  clear hb3 hs N2
  obtain ⟨x0, x1, x2, x3⟩ := N3.out.1
  go_wp2_with fail
  refine (nest_do3 N3.out HJ.out HW.out N3.out.2.1 N3.out.2.2.1 N3.out.2.2.2.1 (by omega)).mono ?_
  rintro e w11 ⟨ow, nw, cw, rfl, WH, N11, B11⟩
  obtain ⟨z0, z1, z2, z3⟩ := N11.out.1
  clear B11 N3 x0 x1 x2 x3
  go_wp2_with fail
  refine (nest_do2 N11.out HJ.out HW.out N11.out.2.1 N11.out.2.2.1 (by omega)).mono ?_
  rintro e w20 ⟨o20, n20, c20, rfl, R20, N20, B20⟩
  have WH20 : Hid (Reads w20 (.slice ow nw cw) (jOut 1 ⟨0, [], 0⟩ [a, b, d]).length ((jOut 1 ⟨0, [], 0⟩ [a, b, d]).map U)) := WH.out.below B20.out
  clear WH B20
  go_wp2_with fail
  refine (nest_do2 N20.out HJ.out HW.out R20.out N20.out.2.2.2.1 HLB1.out).mono ?_
  rintro e w21 ⟨o21, n21, c21, rfl, R21, N21, B21⟩
  have WH21 : Hid (Reads w21 (.slice ow nw cw) (jOut 1 ⟨0, [], 0⟩ [a, b, d]).length ((jOut 1 ⟨0, [], 0⟩ [a, b, d]).map U)) := WH20.out.below B21.out
  have heq1 := nest_eq HL.out R21.out WH21.out
  clear WH20 B21 R20 N20 R21
  go_wp2_with fail
  refine heq1.mono ?_
  rintro e w22 ⟨rfl, hb22⟩
  have N22 : Hid (NA w w22 1 ⟨0, [], 0⟩ (.slice oa a.length ca) (.slice ob b.length cb) (.slice od d.length cd) a b d) := N21.out.below hb22
  have WH22 : Hid (Reads w22 (.slice ow nw cw) (jOut 1 ⟨0, [], 0⟩ [a, b, d]).length ((jOut 1 ⟨0, [], 0⟩ [a, b, d]).map U)) := WH21.out.below hb22
  clear WH21 hb22 N21 heq1
  go_wp2_with fail
  refine (nest_do2 N22.out HJ.out HW.out N22.out.2.2.1 N22.out.2.2.2.1 (by omega)).mono ?_
  rintro e w23 ⟨o23, n23, c23, rfl, R23, N23, B23⟩
  have WH23 : Hid (Reads w23 (.slice ow nw cw) (jOut 1 ⟨0, [], 0⟩ [a, b, d]).length ((jOut 1 ⟨0, [], 0⟩ [a, b, d]).map U)) := WH22.out.below B23.out
  clear WH22 B23 N22
  go_wp2_with fail
  refine (nest_do2 N23.out HJ.out HW.out N23.out.2.1 R23.out HLB2.out).mono ?_
  rintro e w24 ⟨o24, n24, c24, rfl, R24, N24, B24⟩
  have WH24 : Hid (Reads w24 (.slice ow nw cw) (jOut 1 ⟨0, [], 0⟩ [a, b, d]).length ((jOut 1 ⟨0, [], 0⟩ [a, b, d]).map U)) := WH23.out.below B24.out
  have heq2 := nest_eq HR.out R24.out WH24.out
  clear WH23 B24 N23 R23 R24 WH24
  go_wp2_with fail
  refine heq2.mono ?_
  rintro e w25 ⟨rfl, hb25⟩
  have N25 : Hid _ := N24.out.below hb25
  clear hb25 N24 heq2
  go_wp2_with fail
  go_ret
  exact ⟨rfl, N25.out.2.2.2.2.2⟩

set_option maxRecDepth 100000 in
set_option maxHeartbeats 16000000 in
theorem nest_two (k n : Int) (word : List UInt8) (oa ob od : Option Addr) (ca cb cd : Nat) (a b d : List UInt8) (w : World) (hw : word.length ≤ 9223372036854775807) (h1 : Reads w (.slice oa a.length ca) a.length (a.map U)) (h2 : Reads w (.slice ob b.length cb) b.length (b.map U)) (h3 : Reads w (.slice od d.length cd) d.length (d.map U)) (hE : KnownE w) (ha : a.length ≤ 1000000000000000) (hb : b.length ≤ 1000000000000000) (hd : d.length ≤ 1000000000000000) (hsm : a.length + b.length + d.length ≤ 2000) :
    Calls Tryz.prog 8 #[.int .i64 2, .agg #[.int .i64 k, .string ⟨word.toArray⟩, .int .i64 n], .slice oa a.length ca, .slice ob b.length cb, .slice od d.length cd] w fun e w' => e = .returned (.bool true) ∧ Below w.heap.size w w' := by
  have eg : ∀ args w, (callFunc 37 args).run Tryz.prog w = .ok (.enter 37 args) w := enters_of Tryz.func37 (by kernel_rfl) rfl
  have N0 : Hid (NA w _ 2 ⟨0, [], 0⟩ (.slice oa a.length ca) (.slice ob b.length cb) (.slice od d.length cd) a b d) := NA.start (how := 2) (c := ⟨0, [], 0⟩) (t := 3) (t' := 23) h1 h2 h3 hE
  have hC := fun W => jcheck_is 2 ⟨0, [], 0⟩ W (Nat.zero_le _)
  have HJ : Hid (jchk 2 ⟨0, [], 0⟩ = 0) := (show _ = _ by decide)
  have HW : Hid ((⟨0, [], 0⟩ : Cmd).word.length ≤ 9223372036854775807) := (Nat.zero_le _)
  rw [HJ.out] at hC
  unfold Cmd.v at hC
  simp only at hC
  have la := doOut_len ⟨6, [], 0⟩ (by decide) a (by omega)
  have lb := doOut_len ⟨6, [], 0⟩ (by decide) b (by omega)
  have ld := doOut_len ⟨6, [], 0⟩ (by decide) d (by omega)
  have hdo := fun (v : Value) (x : List UInt8) (W : World) hr hn hK => do_ok ⟨6, [], 0⟩ v x W (Nat.zero_le _) (by decide) hr hn hK
  unfold Cmd.v at hdo
  simp only at hdo
  have HDO : Hid _ := hdo
  clear hdo
  have HLB1 : Hid ((jOut 2 ⟨0, [], 0⟩ [(doOut ⟨6, [], 0⟩ a), (doOut ⟨6, [], 0⟩ b)]).length + (doOut ⟨6, [], 0⟩ d).length ≤ 4000) := by have := jOut_two_len 2 ⟨0, [], 0⟩ HJ.out (doOut ⟨6, [], 0⟩ a) (doOut ⟨6, [], 0⟩ b) (by omega); exact (show _ ≤ _ by omega)
  have HLB2 : Hid ((doOut ⟨6, [], 0⟩ a).length + (jOut 2 ⟨0, [], 0⟩ [(doOut ⟨6, [], 0⟩ b), (doOut ⟨6, [], 0⟩ d)]).length ≤ 4000) := by have := jOut_two_len 2 ⟨0, [], 0⟩ HJ.out (doOut ⟨6, [], 0⟩ b) (doOut ⟨6, [], 0⟩ d) (by omega); exact (show _ ≤ _ by omega)
  have HL : Hid (jOut 2 ⟨0, [], 0⟩ [jOut 2 ⟨0, [], 0⟩ [(doOut ⟨6, [], 0⟩ a), (doOut ⟨6, [], 0⟩ b)], (doOut ⟨6, [], 0⟩ d)] = jOut 2 ⟨0, [], 0⟩ [(doOut ⟨6, [], 0⟩ a), (doOut ⟨6, [], 0⟩ b), (doOut ⟨6, [], 0⟩ d)]) := nest_says_left _ _ HJ.out _ _ _ (fun _ => ⟨srt_doOut a, srt_doOut b, srt_doOut d⟩) (fun h => absurd h (by decide)) (fun h => absurd h (by decide))
  have HR : Hid (jOut 2 ⟨0, [], 0⟩ [(doOut ⟨6, [], 0⟩ a), jOut 2 ⟨0, [], 0⟩ [(doOut ⟨6, [], 0⟩ b), (doOut ⟨6, [], 0⟩ d)]] = jOut 2 ⟨0, [], 0⟩ [(doOut ⟨6, [], 0⟩ a), (doOut ⟨6, [], 0⟩ b), (doOut ⟨6, [], 0⟩ d)]) := nest_says_right _ _ HJ.out _ _ _ (fun _ => ⟨srt_doOut a, srt_doOut b, srt_doOut d⟩) (fun h => absurd h (by decide)) (fun h => absurd h (by decide))
  clear h1 h2 h3 hE hw
  go_enter Tryz.func8, Tryz.ntmps8
  go_wp2_with fail
  refine (spliced_true _ N0.out.2.2.2.2.1).mono ?_
  rintro e w1 ⟨rfl, hb1⟩
  have N1 : Hid (NA w w1 2 ⟨0, [], 0⟩ (.slice oa a.length ca) (.slice ob b.length cb) (.slice od d.length cd) a b d) := N0.out.below hb1
  obtain ⟨x0, x1, x2, x3⟩ := N1.out.1
  clear hb1 N0
  go_wp2_with fail
  refine (hC _).mono ?_
  rintro e w2 ⟨rfl, hb2⟩
  have N2 : Hid (NA w w2 2 ⟨0, [], 0⟩ (.slice oa a.length ca) (.slice ob b.length cb) (.slice od d.length cd) a b d) := N1.out.below hb2
  clear hb2 N1 hC x0 x1 x2 x3
  have hs := nest_small N2.out ha hb hd
  rw [decide_eq_true hsm] at hs
  go_wp2_with fail
  refine hs.mono ?_
  rintro e w3 ⟨rfl, hb3⟩
  have N3 : Hid (NA w w3 2 ⟨0, [], 0⟩ (.slice oa a.length ca) (.slice ob b.length cb) (.slice od d.length cd) a b d) := N2.out.below hb3
  clear hb3 hs N2
  obtain ⟨x0, x1, x2, x3⟩ := N3.out.1
  have NB : Hid (NA w (w3.alloc (.cells #[.int .i64 6, .string ⟨#[]⟩, .int .i64 0] 23)) 2 ⟨0, [], 0⟩ (.slice oa a.length ca) (.slice ob b.length cb) (.slice od d.length cd) a b d) := N3.out.below box_of
  clear N3
  go_wp2_with fail
  refine (HDO.out _ a _ NB.out.2.1 (by omega) NB.out.2.2.2.2.1.1).mono ?_
  rintro e w5 ⟨ra, rfl, oa5, hb5⟩
  obtain ⟨s0, s1, s2⟩ := jbox_cells hb5
  have N5 : Hid (NA w w5 2 ⟨0, [], 0⟩ (.slice oa a.length ca) (.slice ob b.length cb) (.slice od d.length cd) a b d) := NB.out.below hb5
  have RA5 : Hid (Reads w5 ra (doOut ⟨6, [], 0⟩ a).length ((doOut ⟨6, [], 0⟩ a).map U)) := Reads.of_owns oa5
  have hlt5 : w3.heap.size < w5.heap.size := World.block_lt_of_cell? w5 _ s0
  clear oa5 hb5 NB x0 x1 x2 x3
  go_wp2_with fail
  refine (HDO.out _ b _ N5.out.2.2.1 (by omega) N5.out.2.2.2.2.1.1).mono ?_
  rintro e w6 ⟨rb, rfl, ob6, hb6⟩
  have N6 : Hid (NA w w6 2 ⟨0, [], 0⟩ (.slice oa a.length ca) (.slice ob b.length cb) (.slice od d.length cd) a b d) := N5.out.below hb6
  have RA6 : Hid (Reads w6 ra (doOut ⟨6, [], 0⟩ a).length ((doOut ⟨6, [], 0⟩ a).map U)) := RA5.out.below hb6
  have RB6 : Hid (Reads w6 rb (doOut ⟨6, [], 0⟩ b).length ((doOut ⟨6, [], 0⟩ b).map U)) := Reads.of_owns ob6
  have t0 : w6.cell? ⟨w3.heap.size, 0, none⟩ = some (.int .i64 6) := (hb6.cell (p := ⟨w3.heap.size, 0, none⟩) hlt5).trans s0
  have t1 : w6.cell? ⟨w3.heap.size, 1, none⟩ = some (.string ⟨#[]⟩) := (hb6.cell (p := ⟨w3.heap.size, 1, none⟩) hlt5).trans s1
  have t2 : w6.cell? ⟨w3.heap.size, 2, none⟩ = some (.int .i64 0) := (hb6.cell (p := ⟨w3.heap.size, 2, none⟩) hlt5).trans s2
  clear ob6 hb6 N5 RA5 s0 s1 s2
  go_wp2_with fail
  refine (HDO.out _ d _ N6.out.2.2.2.1 (by omega) N6.out.2.2.2.2.1.1).mono ?_
  rintro e w7 ⟨rd, rfl, od7, hb7⟩
  have RA7 : Hid (Reads w7 ra (doOut ⟨6, [], 0⟩ a).length ((doOut ⟨6, [], 0⟩ a).map U)) := RA6.out.below hb7
  have RB7 : Hid (Reads w7 rb (doOut ⟨6, [], 0⟩ b).length ((doOut ⟨6, [], 0⟩ b).map U)) := RB6.out.below hb7
  have RD7 : Hid (Reads w7 rd (doOut ⟨6, [], 0⟩ d).length ((doOut ⟨6, [], 0⟩ d).map U)) := Reads.of_owns od7
  have N7 : Hid (NA w w7 2 ⟨0, [], 0⟩ ra rb rd (doOut ⟨6, [], 0⟩ a) (doOut ⟨6, [], 0⟩ b) (doOut ⟨6, [], 0⟩ d)) := (N6.out.below hb7).parts RA7.out RB7.out RD7.out
  obtain ⟨_, pa, qa, rfl, _⟩ := id RA7.out
  obtain ⟨_, pb, qb, rfl, _⟩ := id RB7.out
  obtain ⟨_, pd, qd, rfl, _⟩ := id RD7.out
  obtain ⟨x0, x1, x2, x3⟩ := N7.out.1
  clear od7 hb7 N6 RA6 RB6 t0 t1 t2 RA7 RB7 RD7 HDO
  go_wp2_with fail
  refine (nest_do2 N7.out HJ.out HW.out N7.out.2.1 N7.out.2.2.1 (by omega)).mono ?_
  rintro e w8 ⟨o8, n8, c8, rfl, R8, N8, B8⟩
  clear N7 x0 x1 x2 x3
  go_wp2_with fail
  refine (nest_do2 N8.out HJ.out HW.out N8.out.2.2.1 N8.out.2.1 (by omega)).mono ?_
  rintro e w9 ⟨o9, n9, c9, rfl, R9, N9, B9⟩
  have heq := nest_eq (jOut_comm2 (c := ⟨0, [], 0⟩) (srt_doOut a) (srt_doOut b)) (R8.out.below B9.out) R9.out
  clear R8 R9 B8 B9 N8
  go_wp2_with fail
  refine heq.mono ?_
  rintro e w10 ⟨rfl, hb10⟩
  have N10 : Hid (NA w w10 2 ⟨0, [], 0⟩ (.slice pa (doOut ⟨6, [], 0⟩ a).length qa) (.slice pb (doOut ⟨6, [], 0⟩ b).length qb) (.slice pd (doOut ⟨6, [], 0⟩ d).length qd) (doOut ⟨6, [], 0⟩ a) (doOut ⟨6, [], 0⟩ b) (doOut ⟨6, [], 0⟩ d)) := N9.out.below hb10
  obtain ⟨x0, x1, x2, x3⟩ := N10.out.1
  clear hb10 N9 heq
  go_wp2_with fail
  refine (nest_do3 N10.out HJ.out HW.out N10.out.2.1 N10.out.2.2.1 N10.out.2.2.2.1 (by omega)).mono ?_
  rintro e w11 ⟨ow, nw, cw, rfl, WH, N11, B11⟩
  obtain ⟨z0, z1, z2, z3⟩ := N11.out.1
  clear B11 N10 x0 x1 x2 x3
  go_wp2_with fail
  refine (nest_do2 N11.out HJ.out HW.out N11.out.2.1 N11.out.2.2.1 (by omega)).mono ?_
  rintro e w20 ⟨o20, n20, c20, rfl, R20, N20, B20⟩
  have WH20 : Hid (Reads w20 (.slice ow nw cw) (jOut 2 ⟨0, [], 0⟩ [(doOut ⟨6, [], 0⟩ a), (doOut ⟨6, [], 0⟩ b), (doOut ⟨6, [], 0⟩ d)]).length ((jOut 2 ⟨0, [], 0⟩ [(doOut ⟨6, [], 0⟩ a), (doOut ⟨6, [], 0⟩ b), (doOut ⟨6, [], 0⟩ d)]).map U)) := WH.out.below B20.out
  clear WH B20
  go_wp2_with fail
  refine (nest_do2 N20.out HJ.out HW.out R20.out N20.out.2.2.2.1 HLB1.out).mono ?_
  rintro e w21 ⟨o21, n21, c21, rfl, R21, N21, B21⟩
  have WH21 : Hid (Reads w21 (.slice ow nw cw) (jOut 2 ⟨0, [], 0⟩ [(doOut ⟨6, [], 0⟩ a), (doOut ⟨6, [], 0⟩ b), (doOut ⟨6, [], 0⟩ d)]).length ((jOut 2 ⟨0, [], 0⟩ [(doOut ⟨6, [], 0⟩ a), (doOut ⟨6, [], 0⟩ b), (doOut ⟨6, [], 0⟩ d)]).map U)) := WH20.out.below B21.out
  have heq1 := nest_eq HL.out R21.out WH21.out
  clear WH20 B21 R20 N20 R21
  go_wp2_with fail
  refine heq1.mono ?_
  rintro e w22 ⟨rfl, hb22⟩
  have N22 : Hid (NA w w22 2 ⟨0, [], 0⟩ (.slice pa (doOut ⟨6, [], 0⟩ a).length qa) (.slice pb (doOut ⟨6, [], 0⟩ b).length qb) (.slice pd (doOut ⟨6, [], 0⟩ d).length qd) (doOut ⟨6, [], 0⟩ a) (doOut ⟨6, [], 0⟩ b) (doOut ⟨6, [], 0⟩ d)) := N21.out.below hb22
  have WH22 : Hid (Reads w22 (.slice ow nw cw) (jOut 2 ⟨0, [], 0⟩ [(doOut ⟨6, [], 0⟩ a), (doOut ⟨6, [], 0⟩ b), (doOut ⟨6, [], 0⟩ d)]).length ((jOut 2 ⟨0, [], 0⟩ [(doOut ⟨6, [], 0⟩ a), (doOut ⟨6, [], 0⟩ b), (doOut ⟨6, [], 0⟩ d)]).map U)) := WH21.out.below hb22
  clear WH21 hb22 N21 heq1
  go_wp2_with fail
  refine (nest_do2 N22.out HJ.out HW.out N22.out.2.2.1 N22.out.2.2.2.1 (by omega)).mono ?_
  rintro e w23 ⟨o23, n23, c23, rfl, R23, N23, B23⟩
  have WH23 : Hid (Reads w23 (.slice ow nw cw) (jOut 2 ⟨0, [], 0⟩ [(doOut ⟨6, [], 0⟩ a), (doOut ⟨6, [], 0⟩ b), (doOut ⟨6, [], 0⟩ d)]).length ((jOut 2 ⟨0, [], 0⟩ [(doOut ⟨6, [], 0⟩ a), (doOut ⟨6, [], 0⟩ b), (doOut ⟨6, [], 0⟩ d)]).map U)) := WH22.out.below B23.out
  clear WH22 B23 N22
  go_wp2_with fail
  refine (nest_do2 N23.out HJ.out HW.out N23.out.2.1 R23.out HLB2.out).mono ?_
  rintro e w24 ⟨o24, n24, c24, rfl, R24, N24, B24⟩
  have WH24 : Hid (Reads w24 (.slice ow nw cw) (jOut 2 ⟨0, [], 0⟩ [(doOut ⟨6, [], 0⟩ a), (doOut ⟨6, [], 0⟩ b), (doOut ⟨6, [], 0⟩ d)]).length ((jOut 2 ⟨0, [], 0⟩ [(doOut ⟨6, [], 0⟩ a), (doOut ⟨6, [], 0⟩ b), (doOut ⟨6, [], 0⟩ d)]).map U)) := WH23.out.below B24.out
  have heq2 := nest_eq HR.out R24.out WH24.out
  clear WH23 B24 N23 R23 R24 WH24
  go_wp2_with fail
  refine heq2.mono ?_
  rintro e w25 ⟨rfl, hb25⟩
  have N25 : Hid _ := N24.out.below hb25
  clear hb25 N24 heq2
  go_wp2_with fail
  go_ret
  exact ⟨rfl, N25.out.2.2.2.2.2⟩

set_option maxRecDepth 100000 in
set_option maxHeartbeats 16000000 in
theorem nest_four (k n : Int) (word : List UInt8) (oa ob od : Option Addr) (ca cb cd : Nat) (a b d : List UInt8) (w : World) (hw : word.length ≤ 9223372036854775807) (h1 : Reads w (.slice oa a.length ca) a.length (a.map U)) (h2 : Reads w (.slice ob b.length cb) b.length (b.map U)) (h3 : Reads w (.slice od d.length cd) d.length (d.map U)) (hE : KnownE w) (ha : a.length ≤ 1000000000000000) (hb : b.length ≤ 1000000000000000) (hd : d.length ≤ 1000000000000000) (hj : jchk 4 ⟨k, word, n⟩ = 0) (hk : k = 7 ∨ k = 9 ∨ k = 10) (hsm : a.length + b.length + d.length ≤ 2000) :
    Calls Tryz.prog 8 #[.int .i64 4, .agg #[.int .i64 k, .string ⟨word.toArray⟩, .int .i64 n], .slice oa a.length ca, .slice ob b.length cb, .slice od d.length cd] w fun e w' => e = .returned (.bool true) ∧ Below w.heap.size w w' := by
  have eg : ∀ args w, (callFunc 37 args).run Tryz.prog w = .ok (.enter 37 args) w := enters_of Tryz.func37 (by kernel_rfl) rfl
  have N0 : Hid (NA w _ 4 ⟨k, word, n⟩ (.slice oa a.length ca) (.slice ob b.length cb) (.slice od d.length cd) a b d) := NA.start (how := 4) (c := ⟨k, word, n⟩) (t := 3) (t' := 23) h1 h2 h3 hE
  have hC := fun W => jcheck_is 4 ⟨k, word, n⟩ W hw
  have HJ : Hid (jchk 4 ⟨k, word, n⟩ = 0) := hj
  have HW : Hid ((⟨k, word, n⟩ : Cmd).word.length ≤ 9223372036854775807) := hw
  rw [HJ.out] at hC
  unfold Cmd.v at hC
  simp only at hC
  have HLB1 : Hid ((jOut 4 ⟨k, word, n⟩ [a, b]).length + d.length ≤ 4000) := by have := jOut_two_len 4 ⟨k, word, n⟩ HJ.out a b (by omega); exact (show _ ≤ _ by omega)
  have HLB2 : Hid (a.length + (jOut 4 ⟨k, word, n⟩ [b, d]).length ≤ 4000) := by have := jOut_two_len 4 ⟨k, word, n⟩ HJ.out b d (by omega); exact (show _ ≤ _ by omega)
  have HL : Hid (jOut 4 ⟨k, word, n⟩ [jOut 4 ⟨k, word, n⟩ [a, b], d] = jOut 4 ⟨k, word, n⟩ [a, b, d]) := nest_says_left _ _ HJ.out _ _ _ (fun h => absurd h (by decide)) (fun h => absurd h (by decide)) (fun _ => hk)
  have HR : Hid (jOut 4 ⟨k, word, n⟩ [a, jOut 4 ⟨k, word, n⟩ [b, d]] = jOut 4 ⟨k, word, n⟩ [a, b, d]) := nest_says_right _ _ HJ.out _ _ _ (fun h => absurd h (by decide)) (fun h => absurd h (by decide)) (fun _ => hk)
  clear h1 h2 h3 hE hw hj
  go_enter Tryz.func8, Tryz.ntmps8
  go_wp2_with fail
  refine (spliced_true _ N0.out.2.2.2.2.1).mono ?_
  rintro e w1 ⟨rfl, hb1⟩
  have N1 : Hid (NA w w1 4 ⟨k, word, n⟩ (.slice oa a.length ca) (.slice ob b.length cb) (.slice od d.length cd) a b d) := N0.out.below hb1
  obtain ⟨x0, x1, x2, x3⟩ := N1.out.1
  clear hb1 N0
  go_wp2_with fail
  refine (hC _).mono ?_
  rintro e w2 ⟨rfl, hb2⟩
  have N2 : Hid (NA w w2 4 ⟨k, word, n⟩ (.slice oa a.length ca) (.slice ob b.length cb) (.slice od d.length cd) a b d) := N1.out.below hb2
  clear hb2 N1 hC x0 x1 x2 x3
  have hs := nest_small N2.out ha hb hd
  rw [decide_eq_true hsm] at hs
  go_wp2_with fail
  refine hs.mono ?_
  rintro e w3 ⟨rfl, hb3⟩
  have N3 : Hid (NA w w3 4 ⟨k, word, n⟩ (.slice oa a.length ca) (.slice ob b.length cb) (.slice od d.length cd) a b d) := N2.out.below hb3
  clear hb3 hs N2
  obtain ⟨x0, x1, x2, x3⟩ := N3.out.1
  have y1 := fun o => Lib.cell?_alloc_some o x1
  have h3i := three_in k w3 true (decide_eq_true hk)
  clear hk
  go_wp2_with fail
  refine h3i.mono ?_
  rintro e w4 ⟨rfl, hb4⟩
  have N4 : Hid (NA w w4 4 ⟨k, word, n⟩ (.slice oa a.length ca) (.slice ob b.length cb) (.slice od d.length cd) a b d) := N3.out.below hb4
  clear hb4 N3 h3i y1 x0 x1 x2 x3
  obtain ⟨x0, x1, x2, x3⟩ := N4.out.1
  go_wp2_with fail
  refine (nest_do3 N4.out HJ.out HW.out N4.out.2.1 N4.out.2.2.1 N4.out.2.2.2.1 (by omega)).mono ?_
  rintro e w11 ⟨ow, nw, cw, rfl, WH, N11, B11⟩
  obtain ⟨z0, z1, z2, z3⟩ := N11.out.1
  clear B11 N4 x0 x1 x2 x3
  go_wp2_with fail
  refine (nest_do2 N11.out HJ.out HW.out N11.out.2.1 N11.out.2.2.1 (by omega)).mono ?_
  rintro e w20 ⟨o20, n20, c20, rfl, R20, N20, B20⟩
  have WH20 : Hid (Reads w20 (.slice ow nw cw) (jOut 4 ⟨k, word, n⟩ [a, b, d]).length ((jOut 4 ⟨k, word, n⟩ [a, b, d]).map U)) := WH.out.below B20.out
  clear WH B20
  go_wp2_with fail
  refine (nest_do2 N20.out HJ.out HW.out R20.out N20.out.2.2.2.1 HLB1.out).mono ?_
  rintro e w21 ⟨o21, n21, c21, rfl, R21, N21, B21⟩
  have WH21 : Hid (Reads w21 (.slice ow nw cw) (jOut 4 ⟨k, word, n⟩ [a, b, d]).length ((jOut 4 ⟨k, word, n⟩ [a, b, d]).map U)) := WH20.out.below B21.out
  have heq1 := nest_eq HL.out R21.out WH21.out
  clear WH20 B21 R20 N20 R21
  go_wp2_with fail
  refine heq1.mono ?_
  rintro e w22 ⟨rfl, hb22⟩
  have N22 : Hid (NA w w22 4 ⟨k, word, n⟩ (.slice oa a.length ca) (.slice ob b.length cb) (.slice od d.length cd) a b d) := N21.out.below hb22
  have WH22 : Hid (Reads w22 (.slice ow nw cw) (jOut 4 ⟨k, word, n⟩ [a, b, d]).length ((jOut 4 ⟨k, word, n⟩ [a, b, d]).map U)) := WH21.out.below hb22
  clear WH21 hb22 N21 heq1
  go_wp2_with fail
  refine (nest_do2 N22.out HJ.out HW.out N22.out.2.2.1 N22.out.2.2.2.1 (by omega)).mono ?_
  rintro e w23 ⟨o23, n23, c23, rfl, R23, N23, B23⟩
  have WH23 : Hid (Reads w23 (.slice ow nw cw) (jOut 4 ⟨k, word, n⟩ [a, b, d]).length ((jOut 4 ⟨k, word, n⟩ [a, b, d]).map U)) := WH22.out.below B23.out
  clear WH22 B23 N22
  go_wp2_with fail
  refine (nest_do2 N23.out HJ.out HW.out N23.out.2.1 R23.out HLB2.out).mono ?_
  rintro e w24 ⟨o24, n24, c24, rfl, R24, N24, B24⟩
  have WH24 : Hid (Reads w24 (.slice ow nw cw) (jOut 4 ⟨k, word, n⟩ [a, b, d]).length ((jOut 4 ⟨k, word, n⟩ [a, b, d]).map U)) := WH23.out.below B24.out
  have heq2 := nest_eq HR.out R24.out WH24.out
  clear WH23 B24 N23 R23 R24 WH24
  go_wp2_with fail
  refine heq2.mono ?_
  rintro e w25 ⟨rfl, hb25⟩
  have N25 : Hid _ := N24.out.below hb25
  clear hb25 N24 heq2
  go_wp2_with fail
  go_ret
  exact ⟨rfl, N25.out.2.2.2.2.2⟩

end Go.Proofs.YtfkddfmbgbaefaaGreatDoor
namespace Go.Proofs.YtfkddfmbgbaefaaGreatDoor
open Go.RowKit Go.Gs
set_option linter.unusedVariables false

set_option maxRecDepth 100000 in
set_option maxHeartbeats 16000000 in
theorem nest_three (k n : Int) (word : List UInt8) (oa ob od : Option Addr) (ca cb cd : Nat) (a b d : List UInt8) (w : World) (hw : word.length ≤ 9223372036854775807) (h1 : Reads w (.slice oa a.length ca) a.length (a.map U)) (h2 : Reads w (.slice ob b.length cb) b.length (b.map U)) (h3 : Reads w (.slice od d.length cd) d.length (d.map U)) (hE : KnownE w) (ha : a.length ≤ 1000000000000000) (hb : b.length ≤ 1000000000000000) (hd : d.length ≤ 1000000000000000) (hsm : a.length + b.length + d.length ≤ 2000) :
    Calls Tryz.prog 8 #[.int .i64 3, .agg #[.int .i64 k, .string ⟨word.toArray⟩, .int .i64 n], .slice oa a.length ca, .slice ob b.length cb, .slice od d.length cd] w fun e w' => e = .returned (.bool true) ∧ Below w.heap.size w w' := by
  have eg : ∀ args w, (callFunc 37 args).run Tryz.prog w = .ok (.enter 37 args) w := enters_of Tryz.func37 (by kernel_rfl) rfl
  have N0 : Hid (NA w _ 3 ⟨0, [], 0⟩ (.slice oa a.length ca) (.slice ob b.length cb) (.slice od d.length cd) a b d) := NA.start (how := 3) (c := ⟨0, [], 0⟩) (t := 3) (t' := 23) h1 h2 h3 hE
  have hC := fun W => jcheck_is 3 ⟨0, [], 0⟩ W (Nat.zero_le _)
  have HJ : Hid (jchk 3 ⟨0, [], 0⟩ = 0) := (show _ = _ by decide)
  have HW : Hid ((⟨0, [], 0⟩ : Cmd).word.length ≤ 9223372036854775807) := (Nat.zero_le _)
  rw [HJ.out] at hC
  unfold Cmd.v at hC
  simp only at hC
  have HLB1 : Hid ((jOut 3 ⟨0, [], 0⟩ [a, b]).length + d.length ≤ 4000) := by have := jOut_two_len 3 ⟨0, [], 0⟩ HJ.out a b (by omega); exact (show _ ≤ _ by omega)
  have HLB2 : Hid (a.length + (jOut 3 ⟨0, [], 0⟩ [b, d]).length ≤ 4000) := by have := jOut_two_len 3 ⟨0, [], 0⟩ HJ.out b d (by omega); exact (show _ ≤ _ by omega)
  clear h1 h2 h3 hE hw
  go_enter Tryz.func8, Tryz.ntmps8
  go_wp2_with fail
  refine (spliced_true _ N0.out.2.2.2.2.1).mono ?_
  rintro e w1 ⟨rfl, hb1⟩
  have N1 : Hid (NA w w1 3 ⟨0, [], 0⟩ (.slice oa a.length ca) (.slice ob b.length cb) (.slice od d.length cd) a b d) := N0.out.below hb1
  obtain ⟨x0, x1, x2, x3⟩ := N1.out.1
  clear hb1 N0
  go_wp2_with fail
  refine (hC _).mono ?_
  rintro e w2 ⟨rfl, hb2⟩
  have N2 : Hid (NA w w2 3 ⟨0, [], 0⟩ (.slice oa a.length ca) (.slice ob b.length cb) (.slice od d.length cd) a b d) := N1.out.below hb2
  clear hb2 N1 hC x0 x1 x2 x3
  have hs := nest_small N2.out ha hb hd
  rw [decide_eq_true hsm] at hs
  go_wp2_with fail
  refine hs.mono ?_
  rintro e w3 ⟨rfl, hb3⟩
  have N3 : Hid (NA w w3 3 ⟨0, [], 0⟩ (.slice oa a.length ca) (.slice ob b.length cb) (.slice od d.length cd) a b d) := N2.out.below hb3
  clear hb3 hs N2
  obtain ⟨x0, x1, x2, x3⟩ := N3.out.1
  go_wp2_with fail
  refine (nest_do3 N3.out HJ.out HW.out N3.out.2.1 N3.out.2.2.1 N3.out.2.2.2.1 (by omega)).mono ?_
  rintro e w11 ⟨ow, nw, cw, rfl, WH, N11, B11⟩
  obtain ⟨z0, z1, z2, z3⟩ := N11.out.1
  clear B11 N3 x0 x1 x2 x3
  obtain ⟨z, hz⟩ : ∃ z, z = sumOf [lines a, lines b, lines d] := ⟨_, rfl⟩
  have hzb : z ≤ 12000 := by rw [hz]; exact sumOf_le _
  have HJO : Hid (jOut 3 ⟨0, [], 0⟩ [a, b, d] = Lib.itoa (z : Int) ++ [10]) := (show _ = _ by rw [jOut3, hz]; rfl)
  have HZ : Hid (z = sumOf [lines a, lines b, lines d]) := hz
  clear hz
  have hlen := reads_len WH.out
  have hcw : nw ≤ cw ∧ cw ≤ 9223372036854775807 := by
    obtain ⟨_, ao, cap, e, e2, e3, _⟩ := id WH.out
    injection e with e4 e5 e6
    subst e6
    exact ⟨by omega, by simpa [maxLen] using e3⟩
  obtain ⟨hcw1, hcw2⟩ := hcw
  rw [HJO.out] at hlen
  have hwp := WH.out
  rw [HJO.out] at hwp
  have hcv := conv_any (reads_prefix hwp)
  have hat := atoi_ok ⟨(Lib.itoa (z : Int)).toArray⟩ z w11 (by
    have h := itoa_noFeed 0
    have : (⟨(Lib.itoa (z : Int)).toArray⟩ : ByteArray).size = (Lib.itoa (z : Int)).length := by simp [ByteArray.size]
    rw [this]
    have h5 : (Lib.itoa (z : Int)).length ≤ 5 := by
      unfold Lib.itoa
      rw [if_neg (by omega)]
      exact decDigits_len 4 _ (by simp; omega)
    omega) (atoiAll_itoa z (by omega))
  have hil : (Lib.itoa (z : Int)).length ≤ 5 := by
    unfold Lib.itoa
    rw [if_neg (by omega)]
    exact decDigits_len 4 _ (by simp; omega)
  rw [List.length_append, List.length_singleton] at hlen
  subst hlen
  clear hwp
  obtain ⟨L, hL⟩ : ∃ L, L = (Lib.itoa (z : Int)).length := ⟨_, rfl⟩
  rw [← hL] at hcv hil WH hcw1 ⊢
  clear hL
  generalize (⟨(Lib.itoa (z : Int)).toArray⟩ : ByteArray) = sz at *
  go_wp2_with fail
  refine hat.mono ?_
  rintro e w12 ⟨rfl, hb12⟩
  have N12 : Hid (NA w w12 3 ⟨0, [], 0⟩ (.slice oa a.length ca) (.slice ob b.length cb) (.slice od d.length cd) a b d) := N11.out.below hb12
  have WH12 : Hid (Reads w12 (.slice ow (L + 1) cw) (jOut 3 ⟨0, [], 0⟩ [a, b, d]).length ((jOut 3 ⟨0, [], 0⟩ [a, b, d]).map U)) := WH.out.below hb12
  obtain ⟨x0, x1, x2, x3⟩ := N12.out.1
  clear hb12 N11 WH hat hcv z0 z1 z2 z3
  go_wp2_with fail
  refine (nest_do3 N12.out HJ.out HW.out N12.out.2.2.2.1 N12.out.2.1 N12.out.2.2.1 (by omega)).mono ?_
  rintro e w13 ⟨o13, n13, c13, rfl, R13, N13, B13⟩
  have WH13 : Hid (Reads w13 (.slice ow (L + 1) cw) (jOut 3 ⟨0, [], 0⟩ [a, b, d]).length ((jOut 3 ⟨0, [], 0⟩ [a, b, d]).map U)) := WH12.out.below B13.out
  have heq := nest_eq (jOut_comm3 (c := ⟨0, [], 0⟩) a b d) WH13.out R13.out
  clear B13 N12 WH12 R13 x0 x1 x2 x3
  go_wp2_with fail
  refine heq.mono ?_
  rintro e w14 ⟨rfl, hb14⟩
  have N14 : Hid (NA w w14 3 ⟨0, [], 0⟩ (.slice oa a.length ca) (.slice ob b.length cb) (.slice od d.length cd) a b d) := N13.out.below hb14
  have WH : Hid (Reads w14 (.slice ow (L + 1) cw) (jOut 3 ⟨0, [], 0⟩ [a, b, d]).length ((jOut 3 ⟨0, [], 0⟩ [a, b, d]).map U)) := WH13.out.below hb14
  obtain ⟨x0, x1, x2, x3⟩ := N14.out.1
  clear hb14 N13 WH13 heq
  by_cases hz4 : 4000 < z
  · go_wp2_with fail
    go_ret
    exact ⟨rfl, N14.out.2.2.2.2.2⟩
  · have HL : Hid (jOut 3 ⟨0, [], 0⟩ [jOut 3 ⟨0, [], 0⟩ [a, b], d] = jOut 3 ⟨0, [], 0⟩ [a, b, d]) := nest_says_left _ _ HJ.out _ _ _ (fun h => absurd h (by decide)) (fun _ => by rw [← HZ.out]; omega) (fun h => absurd h (by decide))
    have HR : Hid (jOut 3 ⟨0, [], 0⟩ [a, jOut 3 ⟨0, [], 0⟩ [b, d]] = jOut 3 ⟨0, [], 0⟩ [a, b, d]) := nest_says_right _ _ HJ.out _ _ _ (fun h => absurd h (by decide)) (fun _ => by rw [← HZ.out]; omega) (fun h => absurd h (by decide))
    go_wp2_with fail
    refine (nest_do2 N14.out HJ.out HW.out N14.out.2.1 N14.out.2.2.1 (by omega)).mono ?_
    rintro e w20 ⟨o20, n20, c20, rfl, R20, N20, B20⟩
    have WH20 : Hid (Reads w20 (.slice ow (L + 1) cw) (jOut 3 ⟨0, [], 0⟩ [a, b, d]).length ((jOut 3 ⟨0, [], 0⟩ [a, b, d]).map U)) := WH.out.below B20.out
    clear WH B20
    go_wp2_with fail
    refine (nest_do2 N20.out HJ.out HW.out R20.out N20.out.2.2.2.1 HLB1.out).mono ?_
    rintro e w21 ⟨o21, n21, c21, rfl, R21, N21, B21⟩
    have WH21 : Hid (Reads w21 (.slice ow (L + 1) cw) (jOut 3 ⟨0, [], 0⟩ [a, b, d]).length ((jOut 3 ⟨0, [], 0⟩ [a, b, d]).map U)) := WH20.out.below B21.out
    have heq1 := nest_eq HL.out R21.out WH21.out
    clear WH20 B21 R20 N20 R21
    go_wp2_with fail
    refine heq1.mono ?_
    rintro e w22 ⟨rfl, hb22⟩
    have N22 : Hid (NA w w22 3 ⟨0, [], 0⟩ (.slice oa a.length ca) (.slice ob b.length cb) (.slice od d.length cd) a b d) := N21.out.below hb22
    have WH22 : Hid (Reads w22 (.slice ow (L + 1) cw) (jOut 3 ⟨0, [], 0⟩ [a, b, d]).length ((jOut 3 ⟨0, [], 0⟩ [a, b, d]).map U)) := WH21.out.below hb22
    clear WH21 hb22 N21 heq1
    go_wp2_with fail
    refine (nest_do2 N22.out HJ.out HW.out N22.out.2.2.1 N22.out.2.2.2.1 (by omega)).mono ?_
    rintro e w23 ⟨o23, n23, c23, rfl, R23, N23, B23⟩
    have WH23 : Hid (Reads w23 (.slice ow (L + 1) cw) (jOut 3 ⟨0, [], 0⟩ [a, b, d]).length ((jOut 3 ⟨0, [], 0⟩ [a, b, d]).map U)) := WH22.out.below B23.out
    clear WH22 B23 N22
    go_wp2_with fail
    refine (nest_do2 N23.out HJ.out HW.out N23.out.2.1 R23.out HLB2.out).mono ?_
    rintro e w24 ⟨o24, n24, c24, rfl, R24, N24, B24⟩
    have WH24 : Hid (Reads w24 (.slice ow (L + 1) cw) (jOut 3 ⟨0, [], 0⟩ [a, b, d]).length ((jOut 3 ⟨0, [], 0⟩ [a, b, d]).map U)) := WH23.out.below B24.out
    have heq2 := nest_eq HR.out R24.out WH24.out
    clear WH23 B24 N23 R23 R24 WH24
    go_wp2_with fail
    refine heq2.mono ?_
    rintro e w25 ⟨rfl, hb25⟩
    have N25 : Hid _ := N24.out.below hb25
    clear hb25 N24 heq2
    go_wp2_with fail
    go_ret
    exact ⟨rfl, N25.out.2.2.2.2.2⟩

end Go.Proofs.YtfkddfmbgbaefaaGreatDoor
namespace Go.Proofs.YtfkddfmbgbaefaaGreatDoor
open Go.RowKit Go.Gs
set_option linter.unusedVariables false

theorem joinNest_walk (w : World) (hK : KnownE w) (hsh : w.ShapedOpen Tryz.prog) (how : Int) (hhow : -9223372036854775808 ≤ how ∧ how ≤ 9223372036854775807) (k n : Int) (word : List UInt8) (hw : word.length ≤ 9223372036854775807) (oa : Option Addr) (ca : Nat) (a : List UInt8) (h1 : Reads w (.slice oa a.length ca) a.length (a.map U)) (ha : a.length ≤ 1000000000000000) (ob : Option Addr) (cb : Nat) (b : List UInt8) (h2 : Reads w (.slice ob b.length cb) b.length (b.map U)) (hb : b.length ≤ 1000000000000000) (od : Option Addr) (cd : Nat) (d : List UInt8) (h3 : Reads w (.slice od d.length cd) d.length (d.map U)) (hd : d.length ≤ 1000000000000000) :
    Calls Tryz.prog 8 #[.int .i64 how, .agg #[.int .i64 k, .string ⟨word.toArray⟩, .int .i64 n], .slice oa a.length ca, .slice ob b.length cb, .slice od d.length cd] w fun e w' => e = .returned (.bool true) ∧ Below w.heap.size w w' := by
  by_cases h4 : how = 4
  · subst h4
    by_cases hbad : jchk 4 ⟨k, word, n⟩ ≠ 0 ∨ 2000 < a.length + b.length + d.length
    · exact nest_early4 k n word oa ob od ca cb cd a b d w hw h1 h2 h3 hK ha hb hd hbad
    · simp only [not_or, Decidable.not_not] at hbad
      by_cases hk : k = 7 ∨ k = 9 ∨ k = 10
      · exact nest_four k n word oa ob od ca cb cd a b d w hw h1 h2 h3 hK ha hb hd hbad.1 hk (by omega)
      · exact nest_other k n word oa ob od ca cb cd a b d w hw h1 h2 h3 hK ha hb hd hbad.1 (by omega) hk
  · by_cases hbad : jchk how ⟨0, [], 0⟩ ≠ 0 ∨ 2000 < a.length + b.length + d.length
    · exact nest_early how h4 k n word oa ob od ca cb cd a b d w hw h1 h2 h3 hK ha hb hd hbad
    · simp only [not_or, Decidable.not_not] at hbad
      have hc := jchk_how hbad.1
      rcases hc with rfl | rfl | rfl | rfl
      · exact nest_one k n word oa ob od ca cb cd a b d w hw h1 h2 h3 hK ha hb hd (by omega)
      · exact nest_two k n word oa ob od ca cb cd a b d w hw h1 h2 h3 hK ha hb hd (by omega)
      · exact nest_three k n word oa ob od ca cb cd a b d w hw h1 h2 h3 hK ha hb hd (by omega)
      · exact absurd rfl h4
end Go.Proofs.YtfkddfmbgbaefaaGreatDoor
