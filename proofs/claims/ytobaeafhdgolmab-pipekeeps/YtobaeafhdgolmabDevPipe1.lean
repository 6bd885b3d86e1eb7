/- What the developers' limit, Check, checkOpen, Over do, for every pipe. -/
import Derived.Test.YtobaeafhdgolmabPBase
namespace Go.Proofs.Ytobaeafhdgolmab
open Go.RowKit Go.Gs
set_option linter.unusedVariables false

theorem pck_range {n : Nat} {room : Int} {sh : Bool} (h : room < 0 ∨ 1000 < room) : pck n room sh = 3 := by unfold pck; rw [if_pos h]
theorem pck_many {n : Nat} {room : Int} {sh : Bool} (h : ¬ (room < 0 ∨ 1000 < room)) (h2 : plim room < (n : Int)) : pck n room sh = 2 := by unfold pck; rw [if_neg h, if_pos h2]
theorem pck_form {n : Nat} {room : Int} (h : ¬ (room < 0 ∨ 1000 < room)) (h2 : ¬ plim room < (n : Int)) (h3 : 0 < n) : pck n room true = 4 := by unfold pck; rw [if_neg h, if_neg h2, if_pos ⟨rfl, h3⟩]
theorem pck_none {n : Nat} {room : Int} (h : ¬ (room < 0 ∨ 1000 < room)) (h2 : ¬ plim room < (n : Int)) (h3 : ¬ 0 < n) : pck n room true = 0 := by unfold pck; rw [if_neg h, if_neg h2, if_neg (fun h => h3 h.2)]
theorem pck_open {n : Nat} {room : Int} (h : ¬ (room < 0 ∨ 1000 < room)) (h2 : ¬ plim room < (n : Int)) : pck n room false = 0 := by unfold pck; rw [if_neg h, if_neg h2, if_neg (fun h => by cases h.1)]

set_option maxRecDepth 100000 in
set_option maxHeartbeats 1000000 in
theorem limit_is (ab : Option Addr) (n cap : Nat) (room : Int) (cl sh : Bool) (w : World) :
    Calls Try.prog 29 #[.agg #[.slice ab n cap, .int .i64 room, .bool cl, .bool sh]] w fun e w' => e = .returned (.int .i64 (plim room)) ∧ Below w.heap.size w w' := by
  by_cases h : room = 0
  · subst h
    go_enter Try.func29, Try.ntmps29
    go_wp2_with fail
    go_ret
    exact ⟨rfl, boxrP⟩
  · have HP : Hid (plim room = room) := (show _ = _ by unfold plim; rw [if_neg h])
    go_enter Try.func29, Try.ntmps29
    go_wp2_with fail
    go_ret
    exact ⟨by rw [HP.out]; rfl, boxrP⟩

set_option maxRecDepth 100000 in
set_option maxHeartbeats 4000000 in
theorem pcheck_is (ab : Option Addr) (n cap : Nat) (room : Int) (cl sh : Bool) (w : World) (hn : n ≤ 9223372036854775807) :
    Calls Try.prog 15 #[.agg #[.slice ab n cap, .int .i64 room, .bool cl, .bool sh]] w fun e w' => e = .returned (.int .i64 (pck n room sh)) ∧ Below w.heap.size w w' := by
  by_cases hr : room < 0 ∨ 1000 < room
  · have HP : Hid (pck n room sh = 3) := pck_range hr
    by_cases h0 : room < 0
    · go_enter Try.func15, Try.ntmps15
      go_wp2_with fail
      go_ret
      exact ⟨by rw [HP.out]; rfl, boxrP⟩
    · have h1 : 1000 < room := by omega
      go_enter Try.func15, Try.ntmps15
      go_wp2_with fail
      go_ret
      exact ⟨by rw [HP.out]; rfl, boxrP⟩
  · have h0 : ¬ room < 0 := by omega
    have h1 : ¬ 1000 < room := by omega
    have HO : Hid _ := fun (W : World) => limit_is ab n cap room cl sh W
    obtain ⟨L, hL⟩ : ∃ L, L = plim room := ⟨_, rfl⟩
    have HL : Hid (L = plim room) := hL
    obtain ⟨W, hW⟩ : ∃ W, W = w.alloc (.cells #[.slice ab n cap, .int .i64 room, .bool cl, .bool sh] 42) := ⟨_, rfl⟩
    have HW : Hid (Below w.heap.size w W) := (show Below _ _ _ by rw [hW]; exact boxrP)
    have c0 : W.cell? ⟨w.heap.size, 0, none⟩ = some (.slice ab n cap) := by rw [hW, cell_of_row _ _ _ _ _ _ (heap_alloc_new w _)]; rfl
    have c1 : W.cell? ⟨w.heap.size, 1, none⟩ = some (.int .i64 room) := by rw [hW, cell_of_row _ _ _ _ _ _ (heap_alloc_new w _)]; rfl
    have c2 : W.cell? ⟨w.heap.size, 2, none⟩ = some (.bool cl) := by rw [hW, cell_of_row _ _ _ _ _ _ (heap_alloc_new w _)]; rfl
    have c3 : W.cell? ⟨w.heap.size, 3, none⟩ = some (.bool sh) := by rw [hW, cell_of_row _ _ _ _ _ _ (heap_alloc_new w _)]; rfl
    have k0 := fun d os => cell_regrown c0 d os
    have k1 := fun d os => cell_regrown c1 d os
    have k2 := fun d os => cell_regrown c2 d os
    have k3 := fun d os => cell_regrown c3 d os
    have cF : ∀ d os, Calls Try.prog 29 #[.agg #[.slice ab n cap, .int .i64 room, .bool cl, .bool sh]] (Go.Sort.grow (redrawn W d) os) fun e w'' => e = .returned (.int .i64 L) ∧ ∃ p : Regrown, w'' = Go.Sort.grow (redrawn W p.d) p.os := fun d os => Calls.regrown_of (by rw [hL]; exact HO.out _)
    rw [← hL] at HO
    go_enter Try.func15, Try.ntmps15
    go_upto_region 3 with fail
    rw [← hW]
    clear hW hL HO c0 c1 c2 c3
    refine wp_region_quiet_below (by kernel_rfl) (by kernel_rfl) ?_
    repeat (first | go_big_quiet_step (exact cF _ _) | quiet_step (exact cF _ _))
    refine wpQuiet_nil ?_
    intro _ hw'
    obtain ⟨⟨dq, osq⟩, hw''⟩ := hw'
    subst hw''
    have q0 := k0 dq osq
    have q3 := k3 dq osq
    have HB3 : Hid (Below w.heap.size w (Go.Sort.grow (redrawn W dq) osq)) := HW.out.trans ((below_regrown W dq osq).mono HW.out.size)
    clear cF k0 k1 k2 k3 HW
    generalize (Go.Sort.grow (redrawn W dq) osq) = w3 at *
    by_cases h2 : L < (n : Int)
    · have HP : Hid (pck n room sh = 2) := pck_many hr (by rw [← HL.out]; exact h2)
      clear hr
      go_wp2_with fail
      go_ret
      exact ⟨by rw [HP.out]; rfl, HB3.out⟩
    · have h2' : ¬ plim room < (n : Int) := by rw [← HL.out]; exact h2
      cases sh with
      | false =>
        have HP : Hid (pck n room false = 0) := pck_open hr h2'
        clear hr h2'
        go_wp2_with fail
        go_ret
        exact ⟨by rw [HP.out]; rfl, HB3.out⟩
      | true =>
        by_cases h3 : 0 < n
        · have HP : Hid (pck n room true = 4) := pck_form hr h2' h3
          clear hr h2'
          go_wp2_with fail
          go_ret
          exact ⟨by rw [HP.out]; rfl, HB3.out⟩
        · have HP : Hid (pck n room true = 0) := pck_none hr h2' h3
          clear hr h2'
          go_wp2_with fail
          go_ret
          exact ⟨by rw [HP.out]; rfl, HB3.out⟩

/-- What checkOpen answers. -/
def pckO (n : Nat) (room : Int) (cl sh : Bool) : Int := if pck n room sh ≠ 0 then pck n room sh else if cl = true then 7 else 0

set_option maxRecDepth 100000 in
set_option maxHeartbeats 1000000 in
theorem checkOpen_is (ab : Option Addr) (n cap : Nat) (room : Int) (cl sh : Bool) (w : World) (hn : n ≤ 9223372036854775807) :
    Calls Try.prog 28 #[.agg #[.slice ab n cap, .int .i64 room, .bool cl, .bool sh]] w fun e w' => e = .returned (.int .i64 (pckO n room cl sh)) ∧ Below w.heap.size w w' := by
  have HO : Hid _ := fun (W : World) => pcheck_is ab n cap room cl sh W hn
  obtain ⟨L, hL⟩ : ∃ L, L = pck n room sh := ⟨_, rfl⟩
  have HP : Hid (pckO n room cl sh = if L ≠ 0 then L else if cl = true then 7 else 0) := (show _ = _ by rw [hL]; rfl)
  rw [← hL] at HO
  clear hL
  go_enter Try.func28, Try.ntmps28
  go_wp2_with fail
  refine (HO.out _).mono ?_
  rintro e w1 ⟨rfl, hb1⟩
  have hx := box4P hb1
  have q2 : w1.cell? ⟨w.heap.size, 2, none⟩ = some (.bool cl) := by rw [cell_of_row _ _ _ _ _ _ hx]; rfl
  have HB : Hid (Below w.heap.size w w1) := boxrP.trans (hb1.mono boxrP.size)
  clear hb1 hx HO
  by_cases h0 : L = 0
  · subst h0
    cases cl with
    | true =>
      go_wp2_with fail
      go_ret
      exact ⟨by rw [HP.out]; rfl, HB.out⟩
    | false =>
      go_wp2_with fail
      go_ret
      exact ⟨by rw [HP.out]; rfl, HB.out⟩
  · have HP2 : Hid (pckO n room cl sh = L) := (show _ = _ by rw [HP.out, if_pos h0])
    clear HP
    go_wp2_with fail
    go_ret
    exact ⟨by rw [HP2.out]; rfl, HB.out⟩

set_option maxRecDepth 100000 in
set_option maxHeartbeats 1000000 in
theorem pover_is (ab : Option Addr) (n cap : Nat) (room : Int) (cl sh : Bool) (w : World) :
    Calls Try.prog 16 #[.agg #[.slice ab n cap, .int .i64 room, .bool cl, .bool sh]] w fun e w' => e = .returned (.bool (cl && decide (n = 0))) ∧ Below w.heap.size w w' := by
  cases cl with
  | false =>
    go_enter Try.func16, Try.ntmps16
    go_wp2_with fail
    go_ret
    exact ⟨rfl, boxrP⟩
  | true =>
    by_cases h0 : n = 0
    · subst h0
      go_enter Try.func16, Try.ntmps16
      go_wp2_with fail
      go_ret
      exact ⟨rfl, boxrP⟩
    · have HD : Hid (decide (n = 0) = false) := decide_eq_false h0
      go_enter Try.func16, Try.ntmps16
      go_wp2_with fail
      go_ret
      refine ⟨?_, boxrP⟩
      show Ending.returned (.bool ((n : Int) == 0)) = _
      rw [HD.out, show ((n : Int) == 0) = false by simpa using h0]
      rfl
end Go.Proofs.Ytobaeafhdgolmab
