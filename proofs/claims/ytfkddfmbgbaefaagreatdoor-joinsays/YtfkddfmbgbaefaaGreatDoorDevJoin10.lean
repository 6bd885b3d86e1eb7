/- What the developers' join's Do answers. -/
import Derived.Test.YtfkddfmbgbaefaaGreatDoorDevJoin9
namespace Go.Proofs.YtfkddfmbgbaefaaGreatDoor
open Go.RowKit Go.Gs
set_option linter.unusedVariables false

/-- What the loop of Do stands on. -/
def DRel (w wr : World) (bss : List (List UInt8)) (G i : Nat) : Prop :=
  ∃ vs : List Value, wr.heap[G]? = some (.cells vs.toArray 34 (0, 0)) ∧ vs.length = bss.length ∧ (∀ (j : Nat) (p : List UInt8), j < i → bss[j]? = some p → ∃ u, vs[j]? = some u ∧ Reads wr u (lines p).length ((lines p).map S)) ∧ (∀ j, i ≤ j → j < bss.length → vs[j]? = some (.slice none 0 0)) ∧ Below w.heap.size w wr
theorem slice_not_S {l : List (List UInt8)} {a : Option Addr} {n c : Nat} : Value.slice a n c ∉ l.map S := by
  intro h
  obtain ⟨x, _, e⟩ := List.mem_map.1 h
  cases e
theorem DRel.cell {w wr : World} {bss : List (List UInt8)} {G i : Nat} (h : DRel w wr bss G i) (hi : i < bss.length) : wr.cell? ⟨G, i, none⟩ = some (.slice none 0 0) ∧ wr.frozen? ⟨G, i, none⟩ = false ∧ G < wr.heap.size := by
  obtain ⟨vs, h1, h2, h3, h4, h5⟩ := h
  refine ⟨?_, frozen_of_row _ _ _ _ _ h1, ?_⟩
  · rw [cell_of_row _ _ _ _ _ _ h1]
    simpa using h4 i (Nat.le_refl _) hi
  · rcases Nat.lt_or_ge G wr.heap.size with h | h
    · exact h
    · rw [Array.getElem?_eq_none h] at h1; cases h1
theorem DRel.below {w wr w1 : World} {bss : List (List UInt8)} {G i : Nat} (h : DRel w wr bss G i) (hb : Below wr.heap.size wr w1) (hG : G < wr.heap.size) : DRel w w1 bss G i := by
  obtain ⟨vs, h1, h2, h3, h4, h5⟩ := h
  refine ⟨vs, by rw [hb.block G hG]; exact h1, h2, fun j p hj hp => ?_, h4, h5.trans (hb.mono h5.size)⟩
  obtain ⟨u, h6, h7⟩ := h3 j p hj hp
  exact ⟨u, h6, h7.below hb⟩
theorem DRel.step {w wr : World} {bss : List (List UInt8)} {G i : Nat} {u : Value} {p : List UInt8} (h : DRel w wr bss G i) (hp : bss[i]? = some p) (hu : Reads wr u (lines p).length ((lines p).map S)) (hG : w.heap.size ≤ G) : DRel w (wr.setCell ⟨G, i, none⟩ u) bss G (i + 1) := by
  have hi : i < bss.length := (List.getElem?_eq_some_iff.1 hp).1
  obtain ⟨hc, _, _⟩ := h.cell hi
  obtain ⟨vs, h1, h2, h3, h4, h5⟩ := h
  refine ⟨vs.set i u, by rw [heap_setCell_same _ _ _ _ _ _ h1]; simp, by simp [h2], fun j q hj hq => ?_, fun j hj hjl => ?_, h5.setCell hG _⟩
  · by_cases hji : i = j
    · subst hji
      rw [hp] at hq
      injection hq with hq
      subst hq
      exact ⟨u, List.getElem?_set_self (by omega), hu.setCell hc u slice_not_S⟩
    · obtain ⟨u', h6, h7⟩ := h3 j q (by omega) hq
      exact ⟨u', by rw [List.getElem?_set_ne hji]; exact h6, h7.setCell hc u slice_not_S⟩
  · rw [List.getElem?_set_ne (by omega)]
    exact h4 j (by omega) hjl
theorem DRel.done {w wr : World} {bss : List (List UInt8)} {G i : Nat} (h : DRel w wr bss G i) (hi : i = bss.length) (hn : bss.length ≤ 1000) : RList wr (.slice (some ⟨G, 0, none⟩) bss.length bss.length) S (bss.map lines) := by
  subst hi
  obtain ⟨vs, h1, h2, h3, h4, h5⟩ := h
  refine ⟨vs, ⟨by simp [h2], _, _, by rw [List.length_map], by simp, by unfold maxLen; omega, fun _ => ⟨G, 0, rfl, fun j u hu => ?_⟩⟩, fun j p hj => ?_⟩
  · rw [Nat.zero_add, cell_of_row _ _ _ _ _ _ h1]
    simpa using hu
  · rw [List.getElem?_map] at hj
    cases hb : bss[j]? with
    | none => rw [hb] at hj; cases hj
    | some q =>
      rw [hb] at hj
      simp only [Option.map_some, Option.some.injEq] at hj
      subst hj
      exact h3 j q (List.getElem?_eq_some_iff.1 hb).1 hb

set_option maxRecDepth 100000 in
set_option maxHeartbeats 4000000 in
theorem jdo_err (how : Int) (c : Cmd) (v : Value) (w : World) (hw : c.word.length ≤ 9223372036854775807) (h : jchk how c ≠ 0) :
    Calls Tryz.prog 29 #[.int .i64 how, c.v, v] w fun e w' => e = .returned (.tuple #[.slice none 0 0, .int .i64 (jchk how c)]) ∧ Below w.heap.size w w' := by
  have hchk := fun W => jcheck_is how c W hw
  generalize jchk how c = r at *
  obtain ⟨k, word, n⟩ := c
  unfold Cmd.v at hchk ⊢
  simp only at hchk ⊢
  generalize (⟨word.toArray⟩ : ByteArray) = sx at *
  go_enter Tryz.func29, Tryz.ntmps29
  go_wp2_with fail
  refine (hchk _).mono ?_
  rintro e w1 ⟨rfl, hb1⟩
  have HB : Hid (Below w.heap.size w w1) := box_of.trans (hb1.mono (by simp))
  clear hb1 hchk
  go_wp2_with fail
  go_ret2
  exact ⟨rfl, HB.out⟩

set_option maxRecDepth 100000 in
set_option maxHeartbeats 4000000 in
theorem jdo_many (how : Int) (c : Cmd) (v : Value) (bss : List (List UInt8)) (w : World) (hw : c.word.length ≤ 9223372036854775807) (h : jchk how c = 0) (hp : RList w v U bss) (hbs : ∀ p ∈ bss, p.length ≤ 1000000000000000) (hm : 5 < bss.length ∨ 4000 < bss.flatten.length) :
    Calls Tryz.prog 29 #[.int .i64 how, c.v, v] w fun e w' => e = .returned (.tuple #[.slice none 0 0, .int .i64 2]) ∧ Below w.heap.size w w' := by
  have hchk := fun W => jcheck_is how c W hw
  rw [h] at hchk
  obtain ⟨k, word, n⟩ := c
  unfold Cmd.v at hchk ⊢
  simp only at hchk ⊢
  generalize (⟨word.toArray⟩ : ByteArray) = sx at *
  obtain ⟨ao, cap, rfl, hc1, hc2⟩ := hp.shape
  have hcm : cap ≤ 9223372036854775807 := by simpa [maxLen] using hc2
  have HP : Hid (RList w (.slice ao bss.length cap) U bss) := hp
  by_cases h5 : 5 < bss.length
  · clear hp hm hc2
    generalize bss.length = N at *
    go_enter Tryz.func29, Tryz.ntmps29
    go_wp2_with fail
    refine (hchk _).mono ?_
    rintro e w1 ⟨rfl, hb1⟩
    have HB : Hid (Below w.heap.size w w1) := box_of.trans (hb1.mono (by simp))
    clear hb1 hchk
    go_wp2_with fail
    go_ret2
    exact ⟨rfl, HB.out⟩
  · have hT : 4000 < bss.flatten.length := by rcases hm with h | h; exact absurd h h5; exact h
    have hTb : bss.flatten.length ≤ 1000000000000000000 := by
      have : bss.flatten.length ≤ 1000000000000000 * bss.length := by
        clear hp hm h5 hT HP hc1
        induction bss with
        | nil => simp
        | cons p r ih =>
          have h1 := hbs p (by simp)
          have h2 := ih (fun q hq => hbs q (by simp [hq]))
          simp only [List.flatten_cons, List.length_append, List.length_cons]
          omega
      omega
    have hsize := fun (W : World) (hb : Below w.heap.size w W) => size_is _ bss W (hp.below hb) (by omega) hTb
    clear hp hm hc2 hbs
    generalize bss.flatten.length = T at *
    generalize bss.length = N at *
    go_enter Tryz.func29, Tryz.ntmps29
    go_wp2_with fail
    refine (hchk _).mono ?_
    rintro e w1 ⟨rfl, hb1⟩
    have HB : Hid (Below w.heap.size w w1) := box_of.trans (hb1.mono (by simp))
    have hs1 := hsize w1 HB.out
    clear hb1 hchk hsize
    go_wp2_with fail
    refine hs1.mono ?_
    rintro e w2 ⟨rfl, hw2⟩
    obtain rfl : w1 = w2 := hw2.symm
    clear hs1 hw2
    go_wp2_with fail
    go_ret2
    exact ⟨rfl, HB.out⟩
end Go.Proofs.YtfkddfmbgbaefaaGreatDoor
