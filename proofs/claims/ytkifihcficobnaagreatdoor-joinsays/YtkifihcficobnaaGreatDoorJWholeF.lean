/- The walk of the sentence on the whole: where nothing is done. Slices that are appended to, beside others that must stay. -/
import Derived.Test.YtkifihcficobnaaGreatDoorSpliced
import Derived.Test.YtkifihcficobnaaGreatDoorSmallL
import Derived.Test.YtkifihcficobnaaGreatDoorFnsE
import Derived.Test.YtkifihcficobnaaGreatDoorByteFns
import Derived.Maps.AppendAt
import Derived.Test.YtkifihcficobnaaGreatDoorOfF
namespace Go.Proofs.YtkifihcficobnaaGreatDoor
open Go.RowKit Go.Gs
set_option linter.unusedVariables false

/-- What the walk stands on. -/
def JA (w W : World) (c : Cmd) (v : Value) (bss : List (List UInt8)) : Prop :=
  (W.cell? ⟨w.heap.size, 0, none⟩ = some (.int .i64 c.kind) ∧ W.cell? ⟨w.heap.size, 1, none⟩ = some (.string ⟨c.word.toArray⟩) ∧ W.cell? ⟨w.heap.size, 2, none⟩ = some (.int .i64 c.n)) ∧ RList W v U bss ∧ KnownE W ∧ W.ShapedOpen Tryz.prog ∧ Below w.heap.size w W
theorem JA.below {w W W' : World} {c : Cmd} {v : Value} {bss : List (List UInt8)} (h : JA w W c v bss) (hb : Below W.heap.size W W') : JA w W' c v bss := by
  obtain ⟨⟨h0, h1, h2⟩, h3, h4, h5, h6⟩ := h
  have hl := World.block_lt_of_cell? W _ h0
  exact ⟨⟨(hb.cell hl).trans h0, (hb.cell (p := ⟨w.heap.size, 1, none⟩) hl).trans h1, (hb.cell (p := ⟨w.heap.size, 2, none⟩) hl).trans h2⟩, h3.below hb, h4.below hb, sh_below h5 hb, h6.trans (hb.mono h6.size)⟩
theorem JA.start {w : World} {c : Cmd} {v : Value} {bss : List (List UInt8)} (h1 : RList w v U bss) (h2 : KnownE w) (h3 : w.ShapedOpen Tryz.prog) :
    JA w (w.alloc (.cells #[.int .i64 c.kind, .string ⟨c.word.toArray⟩, .int .i64 c.n] 23)) c v bss :=
  ⟨jbox_new, h1.below box_of, h2.below box_of, sh_below h3 box_of, box_of⟩

set_option maxRecDepth 100000 in
set_option maxHeartbeats 8000000 in
theorem whole_early (k n : Int) (word : List UInt8) (ao : Option Addr) (cap : Nat) (bss : List (List UInt8)) (w : World) (hw : word.length ≤ 9223372036854775807) (h1 : RList w (.slice ao bss.length cap) U bss) (h2 : KnownE w) (h3 : w.ShapedOpen Tryz.prog) (hbs : ∀ p ∈ bss, p.length ≤ 1000000000000000)
    (hbad : chk ⟨k, word, n⟩ ≠ 0 ∨ bss.length = 0 ∨ 5 < bss.length ∨ 2000 < bss.flatten.length) :
    Calls Tryz.prog 7 #[.agg #[.int .i64 k, .string ⟨word.toArray⟩, .int .i64 n], .slice ao bss.length cap] w fun e w' => e = .returned (.bool true) ∧ Below w.heap.size w w' := by
  have hcap : bss.length ≤ cap ∧ cap ≤ 9223372036854775807 := by
    obtain ⟨ao', cap', e, h1', h2'⟩ := h1.shape
    injection e with e1 e2 e3
    subst e3
    exact ⟨h1', by simpa [maxLen] using h2'⟩
  obtain ⟨hcN, hcm⟩ := hcap
  have J0 : Hid (JA w _ ⟨k, word, n⟩ (.slice ao bss.length cap) bss) := JA.start (c := ⟨k, word, n⟩) h1 h2 h3
  have hF := fun W => for_is ⟨k, word, n⟩ W hw
  unfold Cmd.v at hF
  simp only at hF
  generalize (if chk ⟨k, word, n⟩ = 0 then howFor k else 0) = hh at *
  generalize chk ⟨k, word, n⟩ = r at *
  have HBS : Hid _ := hbs
  clear h1 h2 h3 hbs hw
  go_enter Tryz.func7, Tryz.ntmps7
  go_wp2_with fail
  refine (hF _).mono ?_
  rintro e w1 ⟨rfl, hb1⟩
  have J1 : Hid (JA w w1 ⟨k, word, n⟩ (.slice ao bss.length cap) bss) := J0.out.below hb1
  clear hb1 hF J0
  go_wp2_with fail
  refine (spliced_true _ J1.out.2.2.1).mono ?_
  rintro e w2 ⟨rfl, hb2⟩
  have J2 : Hid (JA w w2 ⟨k, word, n⟩ (.slice ao bss.length cap) bss) := J1.out.below hb2
  clear hb2 J1
  have hspl := spliced_true w2 J2.out.2.2.1
  by_cases hr : r = 0
  · subst hr
    by_cases h0 : bss.length = 0
    · rw [h0] at J2 hcN ⊢
      clear hbad
      go_wp2_with fail
      refine hspl.mono ?_
      rintro e w3 ⟨rfl, hb3⟩
      have J3 : Hid _ := J2.out.below hb3
      clear hb3 J2 hspl
      go_wp2_with fail
      go_ret
      exact ⟨rfl, J3.out.2.2.2.2⟩
    · by_cases h5 : 5 < bss.length
      · clear hbad
        generalize bss.length = N at *
        have hN0 : ((N : Int) == 0) = false := by simp; omega
        go_wp2_with fail
        refine hspl.mono ?_
        rintro e w3 ⟨rfl, hb3⟩
        have J3 : Hid _ := J2.out.below hb3
        clear hb3 J2 hspl
        go_wp2_with fail
        go_ret
        exact ⟨rfl, J3.out.2.2.2.2⟩
      · have hbig : 2000 < bss.flatten.length := by
          rcases hbad with h | h | h | h
          · exact absurd rfl h
          · exact absurd h h0
          · exact absurd h h5
          · exact h
        have hsm := small_list _ bss w2 J2.out.2.1 (by omega) HBS.out
        rw [decide_eq_false (by omega)] at hsm
        clear hbad hbig
        generalize bss.length = N at *
        have hN0 : ((N : Int) == 0) = false := by simp; omega
        go_wp2_with fail
        refine hsm.mono ?_
        rintro e w3 ⟨rfl, hw3⟩
        obtain rfl : w2 = w3 := hw3.symm
        clear hw3 hsm
        go_wp2_with fail
        refine hspl.mono ?_
        rintro e w4 ⟨rfl, hb4⟩
        have J4 : Hid _ := J2.out.below hb4
        clear hb4 J2 hspl
        go_wp2_with fail
        go_ret
        exact ⟨rfl, J4.out.2.2.2.2⟩
  · clear hbad
    generalize bss.length = N at *
    go_wp2_with fail
    refine hspl.mono ?_
    rintro e w3 ⟨rfl, hb3⟩
    have J3 : Hid _ := J2.out.below hb3
    clear hb3 J2 hspl
    go_wp2_with fail
    go_ret
    exact ⟨rfl, J3.out.2.2.2.2⟩
end Go.Proofs.YtkifihcficobnaaGreatDoor
namespace Go.Proofs.YtkifihcficobnaaGreatDoor
open Go.RowKit Go.Gs
set_option linter.unusedVariables false

def allOf (bss : List (List UInt8)) (k : Nat) : List UInt8 := ended ((bss.take k).map lines).flatten
theorem allOf_step {bss : List (List UInt8)} {k : Nat} {p : List UInt8} (h : bss[k]? = some p) : allOf bss (k + 1) = allOf bss k ++ ended (lines p) := by
  unfold allOf
  rw [List.take_add_one, h]
  simp [ended_append]
theorem allOf_all (bss : List (List UInt8)) : allOf bss bss.length = ended (bss.map lines).flatten := by unfold allOf; rw [List.take_length]
theorem allOf_len (bss : List (List UInt8)) (k : Nat) : (allOf bss k).length ≤ bss.flatten.length + bss.length := by
  unfold allOf
  have h1 := flat_lines_len (bss.take k)
  have h2 := flat_le bss k
  have h3 : (bss.take k).length ≤ bss.length := List.length_take_le' _ _
  omega

/-- What the loop of JoinWhole stands on: kd parts are done, ka are put behind each other. -/
def WRel (w1 wr : World) (c : Cmd) (bss : List (List UInt8)) (kd ka : Nat) (v7 v8 : Value) : Prop :=
  ∃ us : List Value, wr.ownsRow w1.heap.size 24 1 v7 kd us ∧ wr.ownsRow w1.heap.size 5 1 v8 (allOf bss ka).length ((allOf bss ka).map U) ∧ far v7 v8 ∧
    (∀ (j : Nat) (p : List UInt8), j < kd → bss[j]? = some p → ∃ u, us[j]? = some u ∧ Reads wr u (doOut c p).length ((doOut c p).map U) ∧ far u v7 ∧ far u v8 ∧ ∀ g, u.ownBlock = some g → g < wr.heap.size) ∧ Below w1.heap.size w1 wr
theorem WRel.start {w1 : World} {c : Cmd} {bss : List (List UInt8)} : WRel w1 w1 c bss 0 0 (.slice none 0 0) (.slice none 0 0) :=
  ⟨[], World.ownsRow_nil _ _ _ _, by simpa [allOf, ended] using World.ownsRow_nil w1 w1.heap.size 5 1, fun g h => by simp [Value.ownBlock] at h, fun j p hj => absurd hj (Nat.not_lt_zero _), Below.refl _ _⟩
theorem WRel.below {w1 wr w2 : World} {c : Cmd} {bss : List (List UInt8)} {kd ka : Nat} {v7 v8 : Value} (h : WRel w1 wr c bss kd ka v7 v8) (hb : Below wr.heap.size wr w2) : WRel w1 w2 c bss kd ka v7 v8 := by
  obtain ⟨us, h1, h2, h3, h4, h5⟩ := h
  refine ⟨us, owns_below h1 hb, owns_below h2 hb, h3, fun j p hj hp => ?_, h5.trans (hb.mono h5.size)⟩
  obtain ⟨u, e1, e2, e3, e4, e5⟩ := h4 j p hj hp
  exact ⟨u, e1, e2.below hb, e3, e4, fun g hg => Nat.lt_of_lt_of_le (e5 g hg) hb.size⟩
theorem WRel.lt7 {w1 wr : World} {c : Cmd} {bss : List (List UInt8)} {kd ka : Nat} {v7 v8 : Value} (h : WRel w1 wr c bss kd ka v7 v8) : (∀ g, v7.ownBlock = some g → g < wr.heap.size) ∧ (∀ g, v8.ownBlock = some g → g < wr.heap.size) := by
  obtain ⟨us, h1, h2, _⟩ := h
  exact ⟨fun g hg => (h1.lt g hg).2, fun g hg => (h2.lt g hg).2⟩
/-- One more is done. -/
theorem WRel.done {w1 W w4 : World} {c : Cmd} {bss : List (List UInt8)} {k : Nat} {v7 v7' v8 r : Value} {us : List Value} {p : List UInt8} (hp : bss[k]? = some p)
    (h1 : W.ownsRow w1.heap.size 24 1 v7 k us) (h2 : W.ownsRow w1.heap.size 5 1 v8 (allOf bss k).length ((allOf bss k).map U)) (h3 : far v7 v8)
    (h4 : ∀ (j : Nat) (p : List UInt8), j < k → bss[j]? = some p → ∃ u, us[j]? = some u ∧ Reads W u (doOut c p).length ((doOut c p).map U) ∧ far u v7 ∧ far u v8 ∧ ∀ g, u.ownBlock = some g → g < W.heap.size) (h5 : Below w1.heap.size w1 W)
    (hr : Reads W r (doOut c p).length ((doOut c p).map U)) (hr7 : far r v7) (hr8 : far r v8) (hrl : ∀ g, r.ownBlock = some g → g < W.heap.size)
    (hown : w4.ownsRow w1.heap.size 24 1 v7' (k + 1) (us ++ [r])) (hg : W.grownBy w4 v7.ownBlock) (hat : v7'.ownBlock = v7.ownBlock ∨ v7'.ownBlock = some W.heap.size) : WRel w1 w4 c bss (k + 1) k v7' v8 := by
  have hus : us.length = k := by have := h1.1; omega
  have f7 : ∀ u : Value, far u v7 → (∀ g, u.ownBlock = some g → g < W.heap.size) → far u v7' := by
    intro u hu hl g hgu
    rcases hat with e | e
    · rw [e]; exact hu g hgu
    · rw [e]
      intro e'
      injection e' with e'
      have := hl g hgu
      omega
  refine ⟨us ++ [r], hown, owns_grown h2 hg (far_symm h3), far_symm (f7 v8 (far_symm h3) (fun g hg => (h2.lt g hg).2)), fun j q hj hq => ?_, h5.grown hg h5.size (fun k hk => (h1.lt k hk).1)⟩
  by_cases hjk : j < k
  · obtain ⟨u, e1, e2, e3, e4, e5⟩ := h4 j q hjk hq
    exact ⟨u, by rw [List.getElem?_append_left (by omega)]; exact e1, reads_grown e2 hg e3, f7 u e3 e5, e4, fun g hgu => Nat.lt_of_lt_of_le (e5 g hgu) hg.size⟩
  · obtain rfl : j = k := by omega
    rw [hp] at hq
    injection hq with hq
    subst hq
    exact ⟨r, by rw [List.getElem?_append_right (by omega), hus, Nat.sub_self]; rfl, reads_grown hr hg hr7, f7 r hr7 hrl, hr8, fun g hgu => Nat.lt_of_lt_of_le (hrl g hgu) hg.size⟩
/-- One more is put behind the others. -/
theorem WRel.more {w1 W w6 : World} {c : Cmd} {bss : List (List UInt8)} {k m : Nat} {v7 v8 v8' : Value} {p : List UInt8} (hp : bss[k]? = some p) (h : WRel w1 W c bss (k + 1) k v7 v8)
    (hm : m = (ended (lines p)).length) (hown : w6.ownsRow w1.heap.size 5 1 v8' ((allOf bss k).length + m) ((allOf bss k).map U ++ (ended (lines p)).map U)) (hg : W.grownBy w6 v8.ownBlock) (hat : v8'.ownBlock = v8.ownBlock ∨ v8'.ownBlock = some W.heap.size) : WRel w1 w6 c bss (k + 1) (k + 1) v7 v8' := by
  obtain ⟨us, h1, h2, h3, h4, h5⟩ := h
  have f8 : ∀ u : Value, far u v8 → (∀ g, u.ownBlock = some g → g < W.heap.size) → far u v8' := by
    intro u hu hl g hgu
    rcases hat with e | e
    · rw [e]; exact hu g hgu
    · rw [e]
      intro e'
      injection e' with e'
      have := hl g hgu
      omega
  refine ⟨us, owns_grown h1 hg h3, ?_, f8 v7 h3 (fun g hg => (h1.lt g hg).2), fun j q hj hq => ?_, h5.grown hg h5.size (fun k hk => (h2.lt k hk).1)⟩
  · rw [allOf_step hp, List.length_append, List.map_append, ← hm]
    exact hown
  · obtain ⟨u, e1, e2, e3, e4, e5⟩ := h4 j q hj hq
    exact ⟨u, e1, reads_grown e2 hg e4, e3, f8 u e4 e5, fun g hgu => Nat.lt_of_lt_of_le (e5 g hgu) hg.size⟩
theorem WRel.rlist {w1 wr : World} {c : Cmd} {bss : List (List UInt8)} {k ka : Nat} {v7 v8 : Value} (h : WRel w1 wr c bss k ka v7 v8) (hk : k = bss.length) : RList wr v7 U (bss.map (doOut c)) := by
  obtain ⟨us, h1, h2, h3, h4, h5⟩ := h
  refine ⟨us, ?_, fun j q hj => ?_⟩
  · have := Reads.of_owns h1
    rw [List.length_map, ← hk]; exact this
  · rw [List.getElem?_map] at hj
    cases hb : bss[j]? with
    | none => rw [hb] at hj; cases hj
    | some p =>
      rw [hb] at hj
      simp only [Option.map_some, Option.some.injEq] at hj
      subst hj
      obtain ⟨u, e1, e2, _⟩ := h4 j p (by rw [hk]; exact (List.getElem?_eq_some_iff.1 hb).1) hb
      exact ⟨u, e1, e2⟩
end Go.Proofs.YtkifihcficobnaaGreatDoor
