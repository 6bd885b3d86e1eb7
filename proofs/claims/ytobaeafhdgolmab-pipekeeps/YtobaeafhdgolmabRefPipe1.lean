/- What the reference's CheckPipe and SamePipe do. -/
import Derived.Test.YtobaeafhdgolmabDevPipe2
namespace Go.Proofs.Ytobaeafhdgolmab
open Go.RowKit Go.Gs
set_option linter.unusedVariables false

set_option maxRecDepth 100000 in
set_option maxHeartbeats 4000000 in
theorem checkPipe_ref (ab : Option Addr) (n cap : Nat) (room : Int) (cl sh : Bool) (w : World) (hn : n ≤ 9223372036854775807) :
    Calls Try.prog 13 #[.agg #[.slice ab n cap, .int .i64 room, .bool cl, .bool sh]] w fun e w' => e = .returned (.int .i64 (pck n room sh)) ∧ Below w.heap.size w w' := by
  by_cases h0 : room < 0
  · have HP : Hid (pck n room sh = 3) := pck_range (.inl h0)
    go_enter Try.func13, Try.ntmps13
    go_wp2_with fail
    go_ret
    exact ⟨by rw [HP.out]; rfl, boxrP⟩
  · by_cases h1 : 1000 < room
    · have HP : Hid (pck n room sh = 3) := pck_range (.inr h1)
      go_enter Try.func13, Try.ntmps13
      go_wp2_with fail
      go_ret
      exact ⟨by rw [HP.out]; rfl, boxrP⟩
    · have hr : ¬ (room < 0 ∨ 1000 < room) := by omega
      have HR : Hid _ := hr
      have HM : Hid _ := fun h => pck_many (n := n) (room := room) (sh := sh) hr h
      have HF : Hid _ := fun h g => pck_form (n := n) (room := room) hr h g
      have HN : Hid _ := fun h g => pck_none (n := n) (room := room) hr h g
      have HO : Hid _ := fun h => pck_open (n := n) (room := room) hr h
      clear hr
      by_cases hz : room = 0
      · subst hz
        have hl : plim 0 = 40000 := rfl
        rw [hl] at HM HF HN HO
        clear hl h0 h1 HR
        by_cases h2 : 40000 < n
        · have HP : Hid _ := HM.out (by omega)
          have h2' : (40000 : Int) < n := by omega
          clear HM HF HN HO h2
          go_enter Try.func13, Try.ntmps13
          go_wp2_with fail
          go_ret
          exact ⟨by rw [HP.out]; rfl, boxrP⟩
        · have h2' : ¬ (40000 : Int) < n := by omega
          cases sh with
          | false =>
            have HP : Hid _ := HO.out h2'
            clear HM HF HN HO h2
            go_enter Try.func13, Try.ntmps13
            go_wp2_with fail
            go_ret
            exact ⟨by rw [HP.out]; rfl, boxrP⟩
          | true =>
            by_cases h3 : 0 < n
            · have HP : Hid _ := HF.out h2' h3
              have h4 : ¬ (n : Int) = 0 := by omega
              clear HM HF HN HO h2
              go_enter Try.func13, Try.ntmps13
              go_wp2_with fail
              go_ret
              exact ⟨by rw [HP.out]; rfl, boxrP⟩
            · have HP : Hid _ := HN.out h2' h3
              have h4 : n = 0 := by omega
              clear HM HF HN HO h2 h2'
              subst h4
              go_enter Try.func13, Try.ntmps13
              go_wp2_with fail
              go_ret
              exact ⟨by rw [HP.out]; rfl, boxrP⟩
      · have hl : plim room = room := by unfold plim; rw [if_neg hz]
        rw [hl] at HM HF HN HO
        clear hl HR
        by_cases h2 : room < (n : Int)
        · have HP : Hid _ := HM.out h2
          clear HM HF HN HO
          go_enter Try.func13, Try.ntmps13
          go_wp2_with fail
          go_ret
          exact ⟨by rw [HP.out]; rfl, boxrP⟩
        · have h5 : ¬ (40000 : Int) < n := by omega
          cases sh with
          | false =>
            have HP : Hid _ := HO.out h2
            clear HM HF HN HO
            go_enter Try.func13, Try.ntmps13
            go_wp2_with fail
            go_ret
            exact ⟨by rw [HP.out]; rfl, boxrP⟩
          | true =>
            by_cases h3 : 0 < n
            · have HP : Hid _ := HF.out h2 h3
              have h4 : ¬ (n : Int) = 0 := by omega
              clear HM HF HN HO
              go_enter Try.func13, Try.ntmps13
              go_wp2_with fail
              go_ret
              exact ⟨by rw [HP.out]; rfl, boxrP⟩
            · have HP : Hid _ := HN.out h2 h3
              have h4 : n = 0 := by omega
              clear HM HF HN HO
              subst h4
              go_enter Try.func13, Try.ntmps13
              go_wp2_with fail
              go_ret
              exact ⟨by rw [HP.out]; rfl, boxrP⟩

set_option maxRecDepth 100000 in
set_option maxHeartbeats 4000000 in
theorem samePipe_ref (ab ac : Option Addr) (ca cc : Nat) (bs : List UInt8) (room : Int) (cl sh : Bool) (w : World) (ha : Reads w (.slice ab bs.length ca) bs.length (bs.map U)) (hc : Reads w (.slice ac bs.length cc) bs.length (bs.map U)) :
    Calls Try.prog 17 #[.agg #[.slice ab bs.length ca, .int .i64 room, .bool cl, .bool sh], .agg #[.slice ac bs.length cc, .int .i64 room, .bool cl, .bool sh]] w fun e w' => e = .returned (.bool true) ∧ Below w.heap.size w w' := by
  have HO : Hid _ := fun (W : World) (hW : Below w.heap.size w W) => eqP_is ab ac ca cc bs bs W (Reads.below ha hW) (Reads.below hc hW)
  have hd : decide (bs = bs) = true := decide_eq_true rfl
  rw [hd] at HO
  generalize bs.length = N at *
  clear ha hc hd
  go_enter Try.func17, Try.ntmps17
  go_wp2_with fail
  refine Calls.mono (HO.out _ boxr2P) ?_
  rintro e w1 ⟨rfl, hb1⟩
  obtain ⟨x1, x2⟩ := box44P hb1
  obtain ⟨c0, c1, c2, c3⟩ := cells4P x1
  obtain ⟨d0, d1, d2, d3⟩ := cells4P x2
  have HB1 : Hid (Below w.heap.size w w1) := boxr2P.trans (hb1.mono boxr2P.size)
  clear hb1 HO x1 x2
  go_wp2_with fail
  go_ret
  exact ⟨rfl, HB1.out⟩
end Go.Proofs.Ytobaeafhdgolmab
