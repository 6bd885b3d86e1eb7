/- Graphs held against each other: plainly; slices.Equal at ports; the developers' closure. -/
import Derived.Test.YtkifihcficobnabDevGraph1o
namespace Go.Proofs.Ytkifihcficobnab
open Go.RowKit Go.Gs
set_option linter.unusedVariables false

/-- Are nodes alike? -/
def nodeEq (x y : SNode) : Bool := decide (x.kind = y.kind) && decide (x.file = y.file) && (decide (x.c.kind = y.c.kind) && decide (x.c.word = y.c.word) && decide (x.c.n = y.c.n)) && decide (x.how = y.how) && decide (x.wide = y.wide) && decide (x.ins = y.ins)
def nodesEq : List SNode → List SNode → Bool
  | [], [] => true
  | x :: r, y :: s => nodeEq x y && nodesEq r s
  | _, _ => false
theorem nodesEq_len : ∀ {a b : List SNode}, a.length ≠ b.length → nodesEq a b = false
  | [], [], h => absurd rfl h
  | [], _ :: _, _ => rfl
  | _ :: _, [], _ => rfl
  | x :: r, y :: s, h => by
    show (nodeEq x y && nodesEq r s) = false
    rw [nodesEq_len (a := r) (b := s) (by simpa using h)]
    simp
theorem nodesEq_drop : ∀ {a b : List SNode} {k : Nat} {x y : SNode}, a[k]? = some x → b[k]? = some y → nodesEq (a.drop k) (b.drop k) = (nodeEq x y && nodesEq (a.drop (k + 1)) (b.drop (k + 1)))
  | [], _, k, x, y, h, _ => by simp at h
  | _ :: _, [], k, x, y, _, h => by simp at h
  | u :: r, v :: s, 0, x, y, h1, h2 => by
    simp at h1 h2
    subst h1 h2
    rfl
  | u :: r, v :: s, k + 1, x, y, h1, h2 => by
    simpa using nodesEq_drop (a := r) (b := s) (k := k) (x := x) (y := y) (by simpa using h1) (by simpa using h2)
theorem port_take_eq {a b : List (Int × Int)} {k : Nat} {x : Int × Int} (h : a.take k = b.take k) (hx : a[k]? = some x) (hy : b[k]? = some x) : a.take (k + 1) = b.take (k + 1) := by
  rw [List.take_add_one, List.take_add_one, h, hx, hy]
theorem port_ne {a b : List (Int × Int)} {k : Nat} {x y : Int × Int} (hx : a[k]? = some x) (hy : b[k]? = some y) (h : x ≠ y) : a ≠ b := by
  intro e
  rw [e, hy] at hx
  injection hx with hx
  exact h hx.symm

set_option maxRecDepth 100000 in
set_option maxHeartbeats 4000000 in
theorem eqport_is (au av : Option Addr) (cu cv : Nat) (a b : List (Int × Int)) (w : World) (ha : RPorts w (.slice au a.length cu) a) (hb : RPorts w (.slice av b.length cv) b) :
    Calls Try.prog 20 #[.slice au a.length cu, .slice av b.length cv] w fun e w' => e = .returned (.bool (decide (a = b))) ∧ Below w.heap.size w w' := by
  have m2 := rports_le ha
  have m4 := rports_le hb
  have HA : Hid (RPorts w (.slice au a.length cu) a) := ha
  have HB : Hid (RPorts w (.slice av b.length cv) b) := hb
  obtain ⟨NA, hNA⟩ : ∃ N, N = a.length := ⟨_, rfl⟩
  obtain ⟨NB, hNB⟩ : ∃ N, N = b.length := ⟨_, rfl⟩
  have HNA : Hid (NA = a.length) := hNA
  have HNB : Hid (NB = b.length) := hNB
  have hA1 : NA ≤ 9223372036854775807 := by omega
  have hB1 : NB ≤ 9223372036854775807 := by omega
  rw [← hNA, ← hNB]
  rw [← hNA] at HA
  rw [← hNB] at HB
  clear ha hb m2 m4 hNA hNB
  by_cases hne : NA = NB
  · subst hne
    go_enter Try.func20, Try.ntmps20
    go_wp2_with fail
    go_loopw [13] (fun i wr => ∃ k : Nat, k ≤ NA ∧ i = .int .i64 k ∧ Hid (Below w.heap.size w wr) ∧ Hid (a.take k = b.take k)) (fun i _ => NA - (intOf i).toNat)
    case atStart => exact ⟨0, Nat.zero_le _, rfl, Below.refl _ _, (show _ = _ by simp)⟩
    case round =>
      obtain ⟨k, hk, rfl, hbel, hall⟩ := hrel
      by_cases hlt : k < NA
      · obtain ⟨x, hx⟩ : ∃ x, a[k]? = some x := ⟨_, List.getElem?_eq_getElem (by have := HNA.out; omega)⟩
        obtain ⟨y, hy⟩ : ∃ y, b[k]? = some y := ⟨_, List.getElem?_eq_getElem (by have := HNB.out; omega)⟩
        obtain ⟨b1, o1, rfl, c1, c2⟩ := (HA.out.below hbel.out).at hx
        obtain ⟨b2, o2, rfl, d1, d2⟩ := (HB.out.below hbel.out).at hy
        have HE : Hid (x = y → a.take (k + 1) = b.take (k + 1)) := (show _ → _ from fun e => port_take_eq hall.out hx (by rw [e]; exact hy))
        have HN : Hid (x ≠ y → a ≠ b) := (show _ → _ from fun e => port_ne hx hy e)
        obtain ⟨x1, x2⟩ := x
        obtain ⟨y1, y2⟩ := y
        simp only at c1 c2 d1 d2
        clear hx hy hall
        by_cases e1 : x1 = y1
        · subst e1
          by_cases e2 : x2 = y2
          · subst e2
            have HE2 : Hid (a.take (k + 1) = b.take (k + 1)) := HE.out rfl
            clear HE HN
            go_wp2_with fail
            go_region
            all_goals go_wp2_with fail
            all_goals go_roundw
            case rel => exact ⟨k + 1, by omega, by go_num, hbel.out.drew, HE2⟩
            case measure => simp [intOf]; omega
          · have HE2 : Hid (a ≠ b) := HN.out (fun e => e2 (by injection e))
            have q2 : (x2 == y2) = false := by simpa using e2
            clear HE HN
            go_wp2_with fail
            go_region
            all_goals go_wp2_with fail
            all_goals go_ret
            all_goals exact ⟨by rw [decide_eq_false HE2.out]; rfl, hbel.out.drew⟩
        · have HE2 : Hid (a ≠ b) := HN.out (fun e => e1 (by injection e))
          have q1 : (x1 == y1) = false := by simpa using e1
          clear HE HN
          go_wp2_with fail
          go_region
          all_goals go_wp2_with fail
          all_goals go_ret
          all_goals exact ⟨by rw [decide_eq_false HE2.out]; rfl, hbel.out.drew⟩
      · have HE : Hid (a = b) := (show _ = _ by
          have h := hall.out
          rw [List.take_of_length_le (by have := HNA.out; omega), List.take_of_length_le (by have := HNB.out; omega)] at h
          exact h)
        clear hall
        go_wp2_with fail
        go_ret
        exact ⟨by rw [decide_eq_true HE.out]; rfl, hbel.out⟩
  · have HE : Hid (a ≠ b) := (show a ≠ b from fun e => hne (by rw [HNA.out, HNB.out, e]))
    have hq : ¬ (NA : Int) = NB := by omega
    go_enter Try.func20, Try.ntmps20
    go_wp2_with fail
    go_ret
    exact ⟨by rw [decide_eq_false HE.out]; rfl, Below.refl _ _⟩
end Go.Proofs.Ytkifihcficobnab
