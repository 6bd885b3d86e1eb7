/- What the reference's BytesOf does. -/
import Derived.Test.YtkifihcficobnaaDoorRefFns2
import Derived.WalkSpells
namespace Go.Proofs.YtkifihcficobnaaDoor
open Go.RowKit Go.Gs
set_option linter.unusedVariables false

theorem join_reads (v : Value) (ls : List (List UInt8)) (w : World) (hr : Reads w v ls.length (ls.map S)) (hle : (ended ls).length ≤ 900000) :
    Calls Tryd.prog 35 #[v, .string ⟨#[10]⟩] w fun e w' => e = .returned (.string ⟨(Lib.join ls [10]).toArray⟩) ∧ Below w.heap.size w w' := by
  obtain ⟨_, ao, cap, rfl, h2, h3, h4⟩ := hr
  by_cases h0 : ls.length = 0
  · have hb : ls = [] := List.eq_nil_of_length_eq_zero h0
    subst hb
    refine (Tryd.strings_Join_none ao cap _ w).mono ?_
    rintro e w' ⟨rfl, rfl⟩
    exact ⟨rfl, Below.refl _ _⟩
  · obtain ⟨b, off, rfl, hc⟩ := h4 h0
    have hne : ls ≠ [] := fun e => h0 (by rw [e]; rfl)
    have hj : (Lib.join ls [10]).length ≤ 900000 := by
      have := join_ended ls hne
      have h5 : (Lib.join ls [10] ++ [10]).length ≤ 900000 := by rw [this]; exact hle
      simp at h5
      omega
    have hm : (ls.map str).map (·.data.toList) = ls := by
      rw [List.map_map]
      conv => rhs; rw [← List.map_id ls]
      apply List.map_congr_left
      intro l _
      simp [str]
    have hlen := ended_length_ge ls
    have hcell0 := hc 0 (S (ls[0]'(by omega))) (by simp [Nat.pos_of_ne_zero h0])
    have hcs : ∀ (j : Nat) x, (ls.map str)[j]? = some x → w.cell? ⟨b, off + j, none⟩ = some (.string x) := by
      intro j x hx
      rw [List.getElem?_map] at hx
      obtain ⟨l, hl, rfl⟩ := Option.map_eq_some_iff.1 hx
      exact hc j (S l) (by simp [hl])
    have := Tryd.strings_Join b off cap (ls.map str) ⟨#[10]⟩ w hcs (World.block_lt_of_cell? w _ hcell0) (by simp; omega) (by simpa using h2) (by rw [hm]; show (Lib.join ls [10]).length ≤ _; omega)
    rw [hm] at this
    simp only [List.length_map] at this
    exact this

theorem data_feed (J : List UInt8) : ((⟨J.toArray⟩ : ByteArray) ++ ⟨#[10]⟩).data.toList = J ++ [10] := by
  simp [ByteArray.data_append]
theorem size_feed (J : List UInt8) : ((⟨J.toArray⟩ : ByteArray) ++ ⟨#[10]⟩).size = J.length + 1 := by
  rw [ByteArray.size_append]; rfl

set_option maxRecDepth 100000 in
set_option maxHeartbeats 1000000 in
theorem bytesOf_none (ao : Option Addr) (cap : Nat) (w : World) :
    Calls Tryd.prog 12 #[.slice ao 0 cap] w fun e w' => ∃ c, e = .returned (.slice (some ⟨w.heap.size, 0, none⟩) 0 c) ∧ c ≤ maxLen ∧ Below w.heap.size w w' := by
  have hcv := fun (W : World) => run_bytes_of_string (P := Tryd.prog) W 9 22 5 ⟨#[]⟩ Tryd.underlying9 Tryd.underlying22 Tryd.underlying5
  go_enter Tryd.func12, Tryd.ntmps12
  go_wp2_with fail
  refine (Tryd.strings_Join_none ao cap _ _).mono ?_
  rintro e w1 ⟨rfl, rfl⟩
  go_wp2_with fail
  go_ret
  exact ⟨_, rfl, grownCap_le_maxLen _ _ _ _ (Nat.zero_le _), ((Below.refl _ _).alloc (Nat.le_refl _) _).drew⟩

set_option maxRecDepth 100000 in
set_option maxHeartbeats 1000000 in
theorem bytesOf_some (b off cap : Nat) (ls : List (List UInt8)) (w : World) (h0 : 0 < ls.length) (hm : ls.length ≤ 900000) (hr : Reads w (.slice (some ⟨b, off, none⟩) ls.length cap) ls.length (ls.map S)) (hle : (ended ls).length ≤ 900000) :
    Calls Tryd.prog 12 #[.slice (some ⟨b, off, none⟩) ls.length cap] w fun e w' => ∃ r, e = .returned r ∧ Reads w' r (ended ls).length ((ended ls).map U) ∧ Below w.heap.size w w' := by
  have hcv := fun (W : World) (s : ByteArray) => run_bytes_of_string (P := Tryd.prog) W 9 22 5 s Tryd.underlying9 Tryd.underlying22 Tryd.underlying5
  have hE := join_ended ls (List.length_pos_iff.1 h0)
  generalize hJ : Lib.join ls [10] = J at *
  have HJ : Hid _ := hJ
  have HE : Hid _ := hE
  have hJl : J.length + 1 ≤ 900000 := by rw [← hE] at hle; simpa using hle
  clear hJ hE
  go_enter Tryd.func12, Tryd.ntmps12
  go_wp2_with fail
  refine (join_reads _ ls _ hr hle).mono ?_
  rintro e w1 ⟨rfl, hbel⟩
  rw [HJ.out]
  clear hr
  go_wp2_with fail
  go_ret
  refine ⟨_, rfl, ?_, ((hbel.alloc hbel.size _).drew)⟩
  have h := reads_bytes w1 (⟨J.toArray⟩ ++ ⟨#[10]⟩) (grownCap w1 (J.length + 1) 0 5) ((bytesRow (⟨J.toArray⟩ ++ ⟨#[10]⟩) (grownCap w1 (J.length + 1) 0 5)).size, (bytesRow (⟨J.toArray⟩ ++ ⟨#[10]⟩) (grownCap w1 (J.length + 1) 0 5)).size + 1) (by rw [size_feed]; exact grownCap_ge _ _ _ _) (grownCap_le_maxLen _ _ _ _ (by unfold maxLen; omega))
  have h' := h.below (Below.refl _ _).drew
  rw [size_feed, data_feed, HE.out] at h'
  have hl : (ended ls).length = J.length + 1 := by rw [← HE.out]; simp
  rw [hl]
  exact h'

theorem bytesOf (v : Value) (ls : List (List UInt8)) (w : World) (hr : Reads w v ls.length (ls.map S)) (hle : (ended ls).length ≤ 900000) :
    Calls Tryd.prog 12 #[v] w fun e w' => ∃ r, e = .returned r ∧ Reads w' r (ended ls).length ((ended ls).map U) ∧ Below w.heap.size w w' := by
  obtain ⟨h1, ao, cap, rfl, h2, h3, h4⟩ := hr
  by_cases h0 : ls.length = 0
  · have hb : ls = [] := List.eq_nil_of_length_eq_zero h0
    subst hb
    refine (bytesOf_none ao cap w).mono ?_
    rintro e w' ⟨c, rfl, hc, hbel⟩
    exact ⟨_, rfl, ⟨rfl, _, c, rfl, Nat.zero_le _, hc, fun h => absurd rfl h⟩, hbel⟩
  · obtain ⟨b, off, rfl, hc⟩ := h4 h0
    exact bytesOf_some b off cap ls w (by omega) (Nat.le_trans (ended_length_ge ls) hle) ⟨h1, _, cap, rfl, h2, h3, fun _ => ⟨b, off, rfl, hc⟩⟩ hle
end Go.Proofs.YtkifihcficobnaaDoor
