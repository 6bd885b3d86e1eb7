/- What the developers' join's least does. -/
import Derived.Test.YtfkddfmbgbaefaaGreatDoorDevJoin1
namespace Go.Proofs.YtfkddfmbgbaefaaGreatDoor
open Go.RowKit Go.Gs
set_option linter.unusedVariables false

theorem less_eq : ∀ (x y : List UInt8), Op.bytesLess x y = decide (x < y)
  | [], [] => by simp [Op.bytesLess]
  | _ :: _, [] => by simp [Op.bytesLess]
  | [], _ :: _ => by simp [Op.bytesLess]
  | a :: x, b :: y => by
    rw [Op.bytesLess, less_eq x y]
    simp only [List.cons_lt_cons_iff]
    by_cases h1 : a < b <;> by_cases h2 : a = b <;> by_cases h3 : x < y <;> simp [h1, h2, h3]
theorem str_data {sx : ByteArray} {l : List UInt8} (h : Value.string sx = S l) : sx.toList = l := by
  unfold S at h
  injection h with h
  rw [h, ByteArray.toList_eq]
theorem less_is {sx tx : ByteArray} {x t : List UInt8} (hs : Value.string sx = S x) (ht : Value.string tx = S t) : Op.bytesLess sx.toList tx.toList = decide (x < t) := by
  rw [str_data hs, str_data ht, less_eq]

theorem below_dn {B : Nat} {a w : World} (h : Below B a w) (q : Nat) : Below B a (w.drewN q) := ⟨h.os, h.tape, h.output, h.size, h.block⟩
def lix : Option (Nat × List UInt8) → Int
  | none => -1
  | some (j, _) => (j : Int)
theorem leastTo_nil {ps : List (List (List UInt8))} {k : Nat} (h : ps[k]? = some []) : leastTo ps (k + 1) = leastTo ps k := by simp [leastTo, h]
theorem leastTo_first {ps : List (List (List UInt8))} {k : Nat} {x : List UInt8} {r : List (List UInt8)} (h : ps[k]? = some (x :: r)) (hn : leastTo ps k = none) : leastTo ps (k + 1) = some (k, x) := by simp [leastTo, h, hn]
theorem leastTo_less {ps : List (List (List UInt8))} {k j : Nat} {x t : List UInt8} {r : List (List UInt8)} (h : ps[k]? = some (x :: r)) (hn : leastTo ps k = some (j, t)) (hl : x < t) : leastTo ps (k + 1) = some (k, x) := by simp [leastTo, h, hn, hl]
theorem leastTo_more {ps : List (List (List UInt8))} {k j : Nat} {x t : List UInt8} {r : List (List UInt8)} (h : ps[k]? = some (x :: r)) (hn : leastTo ps k = some (j, t)) (hl : ¬ x < t) : leastTo ps (k + 1) = some (j, t) := by simp [leastTo, h, hn, hl]
theorem leastTo_at {ps : List (List (List UInt8))} {k j : Nat} {t : List UInt8} (h : leastTo ps k = some (j, t)) : j < k ∧ ∃ r, ps[j]? = some (t :: r) := by
  obtain ⟨h1, h2, _⟩ := leastTo_some ps k j t h
  refine ⟨h1, ?_⟩
  cases hp : ps[j]? with
  | none => rw [hp] at h2; cases h2
  | some p =>
    rw [hp] at h2
    cases p with
    | nil => cases h2
    | cons x r =>
      simp only [Option.bind_some, List.head?_cons, Option.some.injEq] at h2
      exact ⟨r, by rw [h2]⟩
/-- The first of a list that has one. -/
theorem reads_first {w : World} {au : Option Addr} {cu : Nat} {x : List UInt8} {r : List (List UInt8)} (h : Reads w (.slice au (x :: r).length cu) (x :: r).length ((x :: r).map S)) :
    ∃ b off sx, au = some ⟨b, off, none⟩ ∧ w.cell? ⟨b, off, none⟩ = some (.string sx) ∧ Value.string sx = S x ∧ cu ≤ 9223372036854775807 ∧ (x :: r).length ≤ cu := by
  obtain ⟨_, ao, cap, e, h1, h2, h5⟩ := h
  injection e with e1 e2 e3
  subst e1 e3
  obtain ⟨b, off, hao, hc⟩ := h5 (by simp)
  refine ⟨b, off, ⟨x.toArray⟩, hao, ?_, rfl, by simpa [maxLen] using h2, h1⟩
  have := hc 0 (S x) (by simp)
  exact this

set_option maxRecDepth 100000 in
set_option maxHeartbeats 4000000 in
theorem least_is (v : Value) (ps : List (List (List UInt8))) (w : World) (hp : RList w v S ps) (hn : ps.length ≤ 1000) :
    Calls Tryz.prog 112 #[v] w fun e w' => e = .returned (.int .i64 (lix (least ps))) ∧ ∃ q, w' = w.drewN q := by
  obtain ⟨ao, cap, rfl, hc1, hc2⟩ := hp.shape
  have HP : Hid (RList w (.slice ao ps.length cap) S ps) := hp
  obtain ⟨N, hN⟩ : ∃ N, N = ps.length := ⟨_, rfl⟩
  have HN : Hid (N = ps.length) := hN
  have hN4 : N ≤ 1000 := by omega
  have hcN : N ≤ cap := by omega
  have hcm : cap ≤ 9223372036854775807 := by simpa [maxLen] using hc2
  rw [← hN]
  clear hN hp hn hc1 hc2
  go_enter Tryz.func112, Tryz.ntmps112
  go_wp2_with fail
  go_loopw [3, 8] (fun s i wr => ∃ k : Nat, ∃ z : Int, k ≤ N ∧ i = .int .i64 k ∧ s = .int .i64 z ∧ (∃ q, wr = w.drewN q) ∧ Hid (z = lix (leastTo ps k)))
    (fun _ i _ => N - (intOf i).toNat)
  case atStart => exact ⟨0, -1, Nat.zero_le _, rfl, rfl, ⟨0, rfl⟩, (show _ = _ from rfl)⟩
  case round =>
    obtain ⟨k, z, hk, rfl, rfl, ⟨q0, hw⟩, hz⟩ := hrel
    have HPr : Hid (RList wr (.slice ao N cap) S ps) := by rw [hw, HN.out]; exact HP.out.below (below_dn (Below.refl _ _) _)
    have HW : Hid (wr = w.drewN q0) := hw
    clear hw
    by_cases hlt : k < N
    · obtain ⟨p, hpk⟩ : ∃ p, ps[k]? = some p := ⟨_, List.getElem?_eq_getElem (by have := HN.out; omega)⟩
      obtain ⟨b, off, au, cu, rfl, hcell, hru⟩ := HPr.out.at hpk
      cases p with
      | nil =>
        have HL : Hid _ := leastTo_nil hpk
        simp only [List.length_nil] at hcell
        clear hpk hru
        go_wp2_with fail
        go_quiet (fail)
        go_wp2_with fail
        go_roundw
        case rel => exact ⟨k + 1, z, by omega, by go_num, rfl, ⟨_, by rw [HW.out, World.drewN_drewN]⟩, (show _ = _ from by rw [HL.out]; exact hz.out)⟩
        case measure => simp [intOf]; omega
      | cons x r =>
        obtain ⟨b1, o1, sx, rfl, hc1, hsx, hcu1, hcu2⟩ := reads_first hru
        have Hsx : Hid _ := hsx
        have hpl : (x :: r).length = r.length + 1 := rfl
        rw [hpl] at hcell hcu2
        clear hsx hru hpl
        generalize r.length = rl at *
        cases hlk : leastTo ps k with
        | none =>
          have HL : Hid _ := leastTo_first hpk hlk
          obtain rfl : z = -1 := by rw [hz.out, hlk]; rfl
          clear hpk hlk
          go_wp2_with fail
          go_quiet (fail)
          go_wp2_with fail
          go_roundw
          case rel => exact ⟨k + 1, k, by omega, by go_num, rfl, ⟨_, by rw [HW.out, World.drewN_drewN]⟩, (show _ = _ from by rw [HL.out]; rfl)⟩
          case measure => simp [intOf]; omega
        | some jt =>
          obtain ⟨j, t⟩ := jt
          obtain ⟨hjk, r', hpj⟩ := leastTo_at hlk
          obtain ⟨b', off', au', cu', e', hcj, hrj⟩ := HPr.out.at hpj
          injection e' with e'
          injection e' with e1 e2
          subst e1 e2
          obtain ⟨b2, o2, tx, rfl, hc2, htx, hcu3, hcu4⟩ := reads_first hrj
          have Htx : Hid _ := htx
          have hpl : (t :: r').length = r'.length + 1 := rfl
          rw [hpl] at hcj hcu4
          clear htx hrj hpl hpj
          generalize r'.length = rl' at *
          obtain rfl : z = (j : Int) := by rw [hz.out, hlk]; rfl
          have hj0 : decide ((j : Int) < 0) = false := decide_eq_false (by omega)
          have hless := less_is Hsx.out Htx.out
          by_cases hxt : x < t
          · have HL : Hid _ := leastTo_less hpk hlk hxt
            rw [decide_eq_true hxt] at hless
            clear hpk hlk hz hxt
            go_wp2_with fail
            go_quiet (fail)
            go_wp2_with fail
            go_roundw
            case rel => exact ⟨k + 1, k, by omega, by go_num, rfl, ⟨_, by rw [HW.out, World.drewN_drewN]⟩, (show _ = _ from by rw [HL.out]; rfl)⟩
            case measure => simp [intOf]; omega
          · have HL : Hid _ := leastTo_more hpk hlk hxt
            rw [decide_eq_false hxt] at hless
            clear hpk hlk hz hxt
            go_wp2_with fail
            go_quiet (fail)
            go_wp2_with fail
            go_roundw
            case rel => exact ⟨k + 1, j, by omega, by go_num, rfl, ⟨_, by rw [HW.out, World.drewN_drewN]⟩, (show _ = _ from by rw [HL.out]; rfl)⟩
            case measure => simp [intOf]; omega
    · have hkN : k = N := by omega
      have HD : Hid (z = lix (least ps)) := (show _ = _ from by
        have h := hz.out
        rw [hkN, HN.out] at h
        exact h)
      clear hz
      go_wp2_with fail
      go_ret
      refine ⟨?_, ⟨q0, HW.out⟩⟩
      rw [← HD.out]
      rfl
end Go.Proofs.YtfkddfmbgbaefaaGreatDoor
