/- What line.Bytes does, for every slice of strings. -/
import Derived.Test.YtkifihcficobnaaGreatDoorOfF
import Derived.Test.YtkifihcficobnaaGreatDoorShelf
namespace Go.Proofs.YtkifihcficobnaaGreatDoor
open Go.RowKit Go.Gs
set_option linter.unusedVariables false

theorem indexByte_feed (l : List UInt8) : (0 ≤ Lib.indexByte l 10 ↔ (10 : UInt8) ∈ l) := by
  induction l with
  | nil => simp [Lib.indexByte]
  | cons c l ih =>
    unfold Lib.indexByte
    by_cases h : c = 10
    · simp [h]
    · have hb : (c == 10) = false := by simp [h]
      have hg := Lib.indexByte_ge l 10
      have hm : (10 : UInt8) ∈ c :: l ↔ (10 : UInt8) ∈ l := by
        rw [List.mem_cons]
        exact ⟨fun k => k.resolve_left (fun e => h e.symm), Or.inr⟩
      rw [hm, ← ih, hb]
      by_cases hi : Lib.indexByte l 10 = -1
      · simp [hi]
      · have hb2 : (Lib.indexByte l 10 == -1) = false := by simp [hi]
        rw [hb2]
        simp only [Bool.false_eq_true, if_false]
        omega

theorem bad_step (ls : List (List UInt8)) (k room : Nat) (h : k < ls.length) : bad room (ls.drop k) = if (10 : UInt8) ∈ ls[k] then 4 else if room ≤ ls[k].length then 2 else bad (room - (ls[k].length + 1)) (ls.drop (k + 1)) := by
  rw [List.drop_eq_getElem_cons h, bad]

set_option maxRecDepth 100000 in
set_option maxHeartbeats 400000 in
theorem bytes_none (ao : Option Addr) (cap : Nat) (w : World) :
    Calls Tryz.prog 28 #[.slice ao 0 cap] w fun e w' => e = .returned (.tuple #[.slice none 0 0, .int .i64 0]) ∧ w' = w := by
  go_enter Tryz.func28, Tryz.ntmps28
  go_wp2
  go_loopw [4, 9] (fun v3 i wr => v3 = .int .i64 4000 ∧ i = .int .i64 0 ∧ wr = w) (fun _ _ _ => 0)
  case atStart => exact ⟨rfl, rfl, rfl⟩
  case round =>
    obtain ⟨rfl, rfl, rfl⟩ := hrel
    go_wp2_with (go_at_call 50; refine (ended_none _ _ _).mono ?_; rintro e w' ⟨rfl, rfl⟩)
    go_ret2
    exact ⟨rfl, rfl⟩

set_option maxRecDepth 100000 in
set_option maxHeartbeats 1000000 in
theorem bytes_some (b off cap : Nat) (ls : List (List UInt8)) (w : World) (h0 : 0 < ls.length) (hcap : ls.length ≤ cap) (hcm : cap ≤ 9223372036854775807)
    (hc : ∀ j u, (ls.map S)[j]? = some u → w.cell? ⟨b, off + j, none⟩ = some u) (hsz : ∀ s ∈ ls, s.length ≤ 9223372036854775807) :
    Calls Tryz.prog 28 #[.slice (some ⟨b, off, none⟩) ls.length cap] w fun e w' =>
      (bad 4000 ls ≠ 0 ∧ e = .returned (.tuple #[.slice none 0 0, .int .i64 (bad 4000 ls)]) ∧ w' = w) ∨
      (bad 4000 ls = 0 ∧ ∃ r, e = .returned (.tuple #[r, .int .i64 0]) ∧ w'.ownsRow w.heap.size 5 1 r (ended ls).length ((ended ls).map U) ∧ Below w.heap.size w w') := by
  have hrd : Reads w (.slice (some ⟨b, off, none⟩) ls.length cap) ls.length (ls.map S) := ⟨by simp, _, cap, rfl, hcap, by simpa [maxLen] using hcm, fun _ => ⟨b, off, rfl, hc⟩⟩
  have Hrd : Hid _ := hrd
  clear hrd
  generalize hn : ls.length = n at *
  go_enter Tryz.func28, Tryz.ntmps28
  go_wp2
  go_loopw [4, 9] (fun t i wr => ∃ (k room : Nat), k ≤ n ∧ room ≤ 4000 ∧ i = .int .i64 k ∧ t = .int .i64 room ∧ wr = w ∧ Hid (bad 4000 ls = bad room (ls.drop k)))
    (fun _ i _ => n - (intOf i).toNat)
  case atStart => exact ⟨0, 4000, Nat.zero_le _, Nat.le_refl _, rfl, rfl, rfl, rfl⟩
  case round =>
    obtain ⟨k, room, hk, hroom, rfl, rfl, rfl, hbad⟩ := hrel
    by_cases hlt : k < n
    · have hcell := hc k (S (ls[k]'(by omega))) (by simp [hn, hlt])
      unfold S at hcell
      have hstep : Hid _ := bad_step ls k room (by omega)
      have hszk := hsz (ls[k]'(by omega)) (List.getElem_mem _)
      have hix := indexByte_feed (ls[k]'(by omega))
      clear hc hsz
      generalize hl : ls[k]'(by omega) = l at *
      have Hl : Hid _ := hl
      clear hl
      obtain ⟨sx, hsx⟩ : ∃ sx : ByteArray, sx = ⟨l.toArray⟩ := ⟨_, rfl⟩
      have hsz : sx.size = l.length := by rw [hsx]; simp [ByteArray.size]
      have hcall : ∀ w, Calls Tryz.prog 64 #[.string sx, .int .u8 10] w fun e w' => e = .returned (.int .i64 (Lib.indexByte l 10)) ∧ w' = w := by
        intro w
        have := Tryz.strings_IndexByte sx 10 w
        rw [hsx] at this ⊢
        exact this
      rw [← hsx] at hcell
      rw [← hsz] at hszk
      have Hsz : Hid _ := hsz
      have Hcall : Hid _ := hcall
      clear hsx hsz hcall
      by_cases hf : (10 : UInt8) ∈ l
      · have hi0 := hix.2 hf
        generalize Lib.indexByte l 10 = ix at *
        have Hb : Hid (bad 4000 ls = 4) := by show _ = _; rw [hbad.out, hstep.out, if_pos hf]
        clear hix hstep hbad hf
        go_wp2_with (go_at_call 64; refine (Hcall.out _).mono ?_; rintro e w' ⟨rfl, rfl⟩)
        go_ret2
        exact Or.inl ⟨by rw [Hb.out]; decide, by rw [Hb.out]; rfl, rfl⟩
      · have hi0 : ¬ 0 ≤ Lib.indexByte l 10 := fun h => hf (hix.1 h)
        generalize Lib.indexByte l 10 = ix at *
        by_cases hlr : room ≤ l.length
        · have Hb : Hid (bad 4000 ls = 2) := by show _ = _; rw [hbad.out, hstep.out, if_neg hf, if_pos hlr]
          have hlr' : room ≤ sx.size := by rw [Hsz.out]; exact hlr
          clear hix hstep hbad hf hlr
          go_wp2_with (go_at_call 64; refine (Hcall.out _).mono ?_; rintro e w' ⟨rfl, rfl⟩)
          go_ret2
          exact Or.inl ⟨by rw [Hb.out]; decide, by rw [Hb.out]; rfl, rfl⟩
        · have Hb : Hid (bad 4000 ls = bad (room - (sx.size + 1)) (ls.drop (k + 1))) := by show _ = _; rw [Hsz.out, hbad.out, hstep.out, if_neg hf, if_neg hlr]
          have hlr' : sx.size < room := by rw [Hsz.out]; omega
          clear hix hstep hbad hf hlr
          go_wp2_with (go_at_call 64; refine (Hcall.out _).mono ?_; rintro e w' ⟨rfl, rfl⟩)
          go_roundw
          case rel => exact ⟨k + 1, room - (sx.size + 1), by omega, by omega, by go_num, by go_num, (by first | exact rfl | trivial), Hb⟩
          case measure => simp [intOf]; omega
    · have hkn : k = n := by omega
      subst hkn
      subst hn
      have Hb : Hid (bad 4000 ls = 0) := by show _ = _; rw [hbad.out]; simp [bad]
      have Hle : Hid _ := (bad_ok ls 4000 Hb.out).1
      clear hc hbad
      go_wp2_with (go_at_call 50; refine (ended_reads _ ls _ Hrd.out (by have := Hle.out; omega)).mono ?_; rintro e w' ⟨r, rfl, hown, hbel⟩)
      go_ret2
      exact Or.inr ⟨Hb.out, _, rfl, hown, hbel⟩

/-- Bytes, for every slice of strings that can be read. -/
theorem bytes_reads (v : Value) (ls : List (List UInt8)) (w : World) (hr : Reads w v ls.length (ls.map S)) (hsz : ∀ s ∈ ls, s.length ≤ 9223372036854775807) :
    Calls Tryz.prog 28 #[v] w fun e w' =>
      (bad 4000 ls ≠ 0 ∧ e = .returned (.tuple #[.slice none 0 0, .int .i64 (bad 4000 ls)]) ∧ w' = w) ∨
      (bad 4000 ls = 0 ∧ ∃ r, e = .returned (.tuple #[r, .int .i64 0]) ∧ w'.ownsRow w.heap.size 5 1 r (ended ls).length ((ended ls).map U) ∧ Below w.heap.size w w') := by
  obtain ⟨_, ao, cap, rfl, h2, h3, h4⟩ := hr
  by_cases h0 : ls.length = 0
  · have hb : ls = [] := List.eq_nil_of_length_eq_zero h0
    subst hb
    refine (bytes_none ao cap w).mono ?_
    rintro e w' ⟨rfl, rfl⟩
    exact Or.inr ⟨rfl, _, rfl, by simpa [ended] using World.ownsRow_nil _ _ _ _, Below.refl _ _⟩
  · obtain ⟨b, off, rfl, hc⟩ := h4 h0
    exact bytes_some b off cap ls w (by omega) h2 (by simpa [maxLen] using h3) hc hsz
end Go.Proofs.YtkifihcficobnaaGreatDoor
