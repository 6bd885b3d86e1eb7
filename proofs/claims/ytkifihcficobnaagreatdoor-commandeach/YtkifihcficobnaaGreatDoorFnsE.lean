/- What the reference's LinesOf and BytesOf do. What the reference's LinesOf does, and where its answer lies. What the reference's BytesOf does. What the reference's Whole does. The reference's BytesOf and Whole: what they answer is new. -/
import Derived.Test.YtkifihcficobnaaGreatDoorOfF
import Derived.Test.YtkifihcficobnaaGreatDoorShelf
import Derived.Test.YtkifihcficobnaaGreatDoorPlainF
import Derived.ChangeAgain
import Derived.Laws.Strings3
import Derived.WalkSpells
namespace Go.Proofs.YtkifihcficobnaaGreatDoor
open Go.RowKit Go.Gs
set_option linter.unusedVariables false

/-- strings.Split at one line feed. -/
theorem split_feed (bs : List UInt8) (w : World) (hsh : w.ShapedOpen Tryz.prog) (hle : bs.length ≤ 900000) :
    Calls Tryz.prog 58 #[.string ⟨bs.toArray⟩, .string ⟨#[10]⟩] w fun e w' =>
      e = .returned (.slice (some ⟨w.heap.size, 0, none⟩) (pieces [] bs).length (pieces [] bs).length) ∧ w' = w.alloc (.cells ((pieces [] bs).map S).toArray 9) := by
  have hcount : Lib.countB ⟨bs.toArray⟩ ⟨#[10]⟩ = bs.count 10 := by
    show Lib.count _ _ = _
    exact Lib.count_one 10 bs
  have hp : (Lib.splitB ⟨#[10]⟩ 0 (Lib.countB ⟨bs.toArray⟩ ⟨#[10]⟩) ⟨bs.toArray⟩).map (·.data.toList) = pieces [] bs := by
    rw [Lib.splitB_data]
    exact splitK_pieces _ bs hcount.symm
  have hlen : Lib.countB ⟨bs.toArray⟩ ⟨#[10]⟩ + 1 = (pieces [] bs).length := by
    have h1 := Lib.splitB_all ⟨#[10]⟩ (by decide) 0 _ ⟨bs.toArray⟩ rfl
    rw [← hp, List.length_map, h1]
  refine (Tryz.strings_Split_shaped ⟨bs.toArray⟩ ⟨#[10]⟩ w hsh (by simp [ByteArray.size]; omega) (by decide)).mono ?_
  rintro e w' ⟨rfl, rfl⟩
  rw [hlen, map_str_S, hp]
  exact ⟨rfl, rfl⟩

theorem lines_eq (bs : List UInt8) (x : List UInt8) (hx : (pieces [] bs).getLast (pieces_ne bs []) = x) : (x = [] → lines bs = (pieces [] bs).dropLast) ∧ (x ≠ [] → lines bs = pieces [] bs) := by
  have := lines_pieces bs []
  rw [hx] at this
  constructor
  · intro e; rw [if_pos e] at this; exact this
  · intro e; rw [if_neg e] at this; exact this

theorem pieces_length (s : List UInt8) : ∀ cur, (pieces cur s).length ≤ s.length + 1 := by
  induction s with
  | nil => intro cur; simp [pieces]
  | cons c s ih => intro cur; unfold pieces; split; simp; exact ih _; have := ih (cur ++ [c]); simp; omega

theorem split_facts (bs : List UInt8) (w : World) (hsh : w.ShapedOpen Tryz.prog) (hle : bs.length ≤ 900000) (P : List (List UInt8)) (hP : pieces [] bs = P) (x : List UInt8) (hx : P[P.length - 1]? = some x) :
    Calls Tryz.prog 58 #[.string ⟨bs.toArray⟩, .string ⟨#[10]⟩] w fun e w' =>
      ∃ g, e = .returned (.slice (some ⟨g, 0, none⟩) P.length P.length) ∧ w'.cell? ⟨g, P.length - 1, none⟩ = some (.string ⟨x.toArray⟩) ∧
        Reads w' (.slice (some ⟨g, 0, none⟩) P.length P.length) P.length (P.map S) ∧ Below w.heap.size w w' := by
  have hpl := pieces_length bs []
  rw [hP] at hpl
  refine (split_feed bs w hsh hle).mono ?_
  rintro e w' ⟨rfl, rfl⟩
  rw [hP]
  refine ⟨w.heap.size, rfl, ?_, by simpa using reads_new w (P.map S).toArray 9 (0, 0) P.length (by simp) (by omega), (Below.refl _ w).alloc (Nat.le_refl _) _⟩
  rw [cell_of_row _ _ _ _ _ _ (heap_alloc_new w _)]
  simp [hx, S]

set_option maxRecDepth 100000 in
set_option maxHeartbeats 1000000 in
theorem linesOf (v : Value) (bs : List UInt8) (w : World) (hr : Reads w v bs.length (bs.map U)) (hsh : w.ShapedOpen Tryz.prog) (hle : bs.length ≤ 900000) :
    Calls Tryz.prog 21 #[v] w fun e w' => ∃ g cap, e = .returned (.slice (some ⟨g, 0, none⟩) (lines bs).length cap) ∧
      Reads w' (.slice (some ⟨g, 0, none⟩) (lines bs).length cap) (lines bs).length ((lines bs).map S) ∧ Below w.heap.size w w' := by
  have hconv := conv_any hr
  have hpn := pieces_ne bs []
  have hLE := lines_eq bs _ rfl
  have hlast : (pieces [] bs)[(pieces [] bs).length - 1]? = some ((pieces [] bs).getLast hpn) := by
    rw [List.getLast_eq_getElem]
    exact List.getElem?_eq_getElem _
  have hlen0 : 0 < (pieces [] bs).length := List.length_pos_iff.2 hpn
  have hlenm : (pieces [] bs).length ≤ 1800000 := by have := pieces_length bs []; omega
  generalize (pieces [] bs).getLast hpn = x at *
  generalize hP : pieces [] bs = P at *
  have HP : Hid _ := hP
  have HL : Hid _ := hlast
  clear hP hlast hpn
  by_cases hx : x = []
  · subst hx
    have Hl : Hid _ := hLE.1 rfl
    clear hLE
    go_enter Tryz.func21, Tryz.ntmps21
    go_wp2_with fail
    refine (split_facts bs _ hsh hle P HP.out _ HL.out).mono ?_
    rintro e w1 ⟨g, rfl, hcell, hrd, hbel⟩
    clear hconv
    have R : Hid (Reads w1 (.slice (some ⟨g, 0, none⟩) (P.length - 1) P.length) (lines bs).length ((lines bs).map S) ∧ (lines bs).length = P.length - 1) := by
      have h1 := reads_take hrd (show P.length - 1 ≤ P.length by omega)
      have h2 : (lines bs).length = P.length - 1 := by rw [Hl.out]; simp
      refine ⟨?_, h2⟩
      rw [h2, Hl.out, List.dropLast_eq_take, List.map_take]
      exact h1
    clear hrd
    go_wp2_with fail
    go_ret
    refine ⟨g, P.length, ?_, ?_, hbel⟩
    · rw [R.out.2]; simp
    · rw [R.out.2]
      have := R.out.1
      rw [R.out.2] at this
      exact this
  · have hxe : x.isEmpty = false := by simp [hx]
    have Hl : Hid _ := hLE.2 hx
    clear hLE hx
    go_enter Tryz.func21, Tryz.ntmps21
    go_wp2_with fail
    refine (split_facts bs _ hsh hle P HP.out _ HL.out).mono ?_
    rintro e w1 ⟨g, rfl, hcell, hrd, hbel⟩
    clear hconv
    have R : Hid _ := hrd
    clear hrd
    go_wp2_with fail
    go_ret
    rw [← Hl.out] at R
    refine ⟨g, _, ?_, R.out, hbel⟩
    rw [Hl.out]
    rfl
end Go.Proofs.YtkifihcficobnaaGreatDoor
namespace Go.Proofs.YtkifihcficobnaaGreatDoor
open Go.RowKit Go.Gs
set_option linter.unusedVariables false

theorem split_facts_new (bs : List UInt8) (w : World) (hsh : w.ShapedOpen Tryz.prog) (hle : bs.length ≤ 900000) (P : List (List UInt8)) (hP : pieces [] bs = P) (x : List UInt8) (hx : P[P.length - 1]? = some x) :
    Calls Tryz.prog 58 #[.string ⟨bs.toArray⟩, .string ⟨#[10]⟩] w fun e w' =>
      ∃ g, e = .returned (.slice (some ⟨g, 0, none⟩) P.length P.length) ∧ w.heap.size ≤ g ∧ w'.cell? ⟨g, P.length - 1, none⟩ = some (.string ⟨x.toArray⟩) ∧
        Reads w' (.slice (some ⟨g, 0, none⟩) P.length P.length) P.length (P.map S) ∧ Below w.heap.size w w' := by
  have hpl := pieces_length bs []
  rw [hP] at hpl
  refine (split_feed bs w hsh hle).mono ?_
  rintro e w' ⟨rfl, rfl⟩
  rw [hP]
  refine ⟨w.heap.size, rfl, Nat.le_refl _, ?_, by simpa using reads_new w (P.map S).toArray 9 (0, 0) P.length (by simp) (by omega), (Below.refl _ w).alloc (Nat.le_refl _) _⟩
  rw [cell_of_row _ _ _ _ _ _ (heap_alloc_new w _)]
  simp [hx, S]

set_option maxRecDepth 100000 in
set_option maxHeartbeats 1000000 in
theorem linesOf_new (v : Value) (bs : List UInt8) (w : World) (hr : Reads w v bs.length (bs.map U)) (hsh : w.ShapedOpen Tryz.prog) (hle : bs.length ≤ 900000) :
    Calls Tryz.prog 21 #[v] w fun e w' => ∃ g cap, e = .returned (.slice (some ⟨g, 0, none⟩) (lines bs).length cap) ∧ w.heap.size ≤ g ∧
      Reads w' (.slice (some ⟨g, 0, none⟩) (lines bs).length cap) (lines bs).length ((lines bs).map S) ∧ Below w.heap.size w w' := by
  have hconv := conv_any hr
  have hpn := pieces_ne bs []
  have hLE := lines_eq bs _ rfl
  have hlast : (pieces [] bs)[(pieces [] bs).length - 1]? = some ((pieces [] bs).getLast hpn) := by
    rw [List.getLast_eq_getElem]
    exact List.getElem?_eq_getElem _
  have hlen0 : 0 < (pieces [] bs).length := List.length_pos_iff.2 hpn
  have hlenm : (pieces [] bs).length ≤ 1800000 := by have := pieces_length bs []; omega
  generalize (pieces [] bs).getLast hpn = x at *
  generalize hP : pieces [] bs = P at *
  have HP : Hid _ := hP
  have HL : Hid _ := hlast
  clear hP hlast hpn
  by_cases hx : x = []
  · subst hx
    have Hl : Hid _ := hLE.1 rfl
    clear hLE
    go_enter Tryz.func21, Tryz.ntmps21
    go_wp2_with fail
    refine (split_facts_new bs _ hsh hle P HP.out _ HL.out).mono ?_
    rintro e w1 ⟨g, rfl, hgn, hcell, hrd, hbel⟩
    have HG : Hid _ := hgn
    clear hgn
    clear hconv
    have R : Hid (Reads w1 (.slice (some ⟨g, 0, none⟩) (P.length - 1) P.length) (lines bs).length ((lines bs).map S) ∧ (lines bs).length = P.length - 1) := by
      have h1 := reads_take hrd (show P.length - 1 ≤ P.length by omega)
      have h2 : (lines bs).length = P.length - 1 := by rw [Hl.out]; simp
      refine ⟨?_, h2⟩
      rw [h2, Hl.out, List.dropLast_eq_take, List.map_take]
      exact h1
    clear hrd
    go_wp2_with fail
    go_ret
    refine ⟨g, P.length, ?_, HG.out, ?_, hbel⟩
    · rw [R.out.2]; simp
    · rw [R.out.2]
      have := R.out.1
      rw [R.out.2] at this
      exact this
  · have hxe : x.isEmpty = false := by simp [hx]
    have Hl : Hid _ := hLE.2 hx
    clear hLE hx
    go_enter Tryz.func21, Tryz.ntmps21
    go_wp2_with fail
    refine (split_facts_new bs _ hsh hle P HP.out _ HL.out).mono ?_
    rintro e w1 ⟨g, rfl, hgn, hcell, hrd, hbel⟩
    have HG : Hid _ := hgn
    clear hgn
    clear hconv
    have R : Hid _ := hrd
    clear hrd
    go_wp2_with fail
    go_ret
    rw [← Hl.out] at R
    refine ⟨g, _, ?_, HG.out, R.out, hbel⟩
    rw [Hl.out]
    rfl
end Go.Proofs.YtkifihcficobnaaGreatDoor
namespace Go.Proofs.YtkifihcficobnaaGreatDoor
open Go.RowKit Go.Gs
set_option linter.unusedVariables false

theorem join_reads (v : Value) (ls : List (List UInt8)) (w : World) (hr : Reads w v ls.length (ls.map S)) (hle : (ended ls).length ≤ 900000) :
    Calls Tryz.prog 56 #[v, .string ⟨#[10]⟩] w fun e w' => e = .returned (.string ⟨(Lib.join ls [10]).toArray⟩) ∧ Below w.heap.size w w' := by
  obtain ⟨_, ao, cap, rfl, h2, h3, h4⟩ := hr
  by_cases h0 : ls.length = 0
  · have hb : ls = [] := List.eq_nil_of_length_eq_zero h0
    subst hb
    refine (Tryz.strings_Join_none ao cap _ w).mono ?_
    rintro e w' ⟨rfl, rfl⟩
    exact ⟨rfl, Below.refl _ _⟩
  · obtain ⟨b, off, rfl, hc⟩ := h4 h0
    have hne : ls ≠ [] := fun e => h0 (by rw [e]; rfl)
    have hj : (Lib.join ls [10]).length ≤ 900000 := by
      have := join_ended ls hne
      have h5 : (Lib.join ls [10] ++ [10]).length ≤ 900000 := by rw [this]; exact hle
      simp at h5
      omega
    have hm : (ls.map str).map (·.data.toList) = ls := by
      rw [List.map_map]
      conv => rhs; rw [← List.map_id ls]
      apply List.map_congr_left
      intro l _
      simp [str]
    have hlen := ended_length_ge ls
    have hcell0 := hc 0 (S (ls[0]'(by omega))) (by simp [Nat.pos_of_ne_zero h0])
    have hcs : ∀ (j : Nat) x, (ls.map str)[j]? = some x → w.cell? ⟨b, off + j, none⟩ = some (.string x) := by
      intro j x hx
      rw [List.getElem?_map] at hx
      obtain ⟨l, hl, rfl⟩ := Option.map_eq_some_iff.1 hx
      exact hc j (S l) (by simp [hl])
    have := Tryz.strings_Join b off cap (ls.map str) ⟨#[10]⟩ w hcs (World.block_lt_of_cell? w _ hcell0) (by simp; omega) (by simpa using h2) (by rw [hm]; show (Lib.join ls [10]).length ≤ _; omega)
    rw [hm] at this
    simp only [List.length_map] at this
    exact this

theorem data_feed (J : List UInt8) : ((⟨J.toArray⟩ : ByteArray) ++ ⟨#[10]⟩).data.toList = J ++ [10] := by
  simp [ByteArray.data_append]
theorem size_feed (J : List UInt8) : ((⟨J.toArray⟩ : ByteArray) ++ ⟨#[10]⟩).size = J.length + 1 := by
  rw [ByteArray.size_append]; rfl

set_option maxRecDepth 100000 in
set_option maxHeartbeats 1000000 in
theorem bytesOf_none (ao : Option Addr) (cap : Nat) (w : World) :
    Calls Tryz.prog 19 #[.slice ao 0 cap] w fun e w' => ∃ c, e = .returned (.slice (some ⟨w.heap.size, 0, none⟩) 0 c) ∧ c ≤ maxLen ∧ Below w.heap.size w w' := by
  have hcv := fun (W : World) => run_bytes_of_string (P := Tryz.prog) W 9 24 5 ⟨#[]⟩ Tryz.underlying9 Tryz.underlying24 Tryz.underlying5
  go_enter Tryz.func19, Tryz.ntmps19
  go_wp2_with fail
  refine (Tryz.strings_Join_none ao cap _ _).mono ?_
  rintro e w1 ⟨rfl, rfl⟩
  go_wp2_with fail
  go_ret
  exact ⟨_, rfl, grownCap_le_maxLen _ _ _ _ (Nat.zero_le _), ((Below.refl _ _).alloc (Nat.le_refl _) _).drew⟩

set_option maxRecDepth 100000 in
set_option maxHeartbeats 1000000 in
theorem bytesOf_some (b off cap : Nat) (ls : List (List UInt8)) (w : World) (h0 : 0 < ls.length) (hm : ls.length ≤ 900000) (hr : Reads w (.slice (some ⟨b, off, none⟩) ls.length cap) ls.length (ls.map S)) (hle : (ended ls).length ≤ 900000) :
    Calls Tryz.prog 19 #[.slice (some ⟨b, off, none⟩) ls.length cap] w fun e w' => ∃ r, e = .returned r ∧ Reads w' r (ended ls).length ((ended ls).map U) ∧ Below w.heap.size w w' := by
  have hcv := fun (W : World) (s : ByteArray) => run_bytes_of_string (P := Tryz.prog) W 9 24 5 s Tryz.underlying9 Tryz.underlying24 Tryz.underlying5
  have hE := join_ended ls (List.length_pos_iff.1 h0)
  generalize hJ : Lib.join ls [10] = J at *
  have HJ : Hid _ := hJ
  have HE : Hid _ := hE
  have hJl : J.length + 1 ≤ 900000 := by rw [← hE] at hle; simpa using hle
  clear hJ hE
  go_enter Tryz.func19, Tryz.ntmps19
  go_wp2_with fail
  refine (join_reads _ ls _ hr hle).mono ?_
  rintro e w1 ⟨rfl, hbel⟩
  rw [HJ.out]
  clear hr
  go_wp2_with fail
  go_ret
  refine ⟨_, rfl, ?_, ((hbel.alloc hbel.size _).drew)⟩
  have h := reads_bytes w1 (⟨J.toArray⟩ ++ ⟨#[10]⟩) (grownCap w1 (J.length + 1) 0 5) ((bytesRow (⟨J.toArray⟩ ++ ⟨#[10]⟩) (grownCap w1 (J.length + 1) 0 5)).size, (bytesRow (⟨J.toArray⟩ ++ ⟨#[10]⟩) (grownCap w1 (J.length + 1) 0 5)).size + 1) (by rw [size_feed]; exact grownCap_ge _ _ _ _) (grownCap_le_maxLen _ _ _ _ (by unfold maxLen; omega))
  have h' := h.below (Below.refl _ _).drew
  rw [size_feed, data_feed, HE.out] at h'
  have hl : (ended ls).length = J.length + 1 := by rw [← HE.out]; simp
  rw [hl]
  exact h'

theorem bytesOf (v : Value) (ls : List (List UInt8)) (w : World) (hr : Reads w v ls.length (ls.map S)) (hle : (ended ls).length ≤ 900000) :
    Calls Tryz.prog 19 #[v] w fun e w' => ∃ r, e = .returned r ∧ Reads w' r (ended ls).length ((ended ls).map U) ∧ Below w.heap.size w w' := by
  obtain ⟨h1, ao, cap, rfl, h2, h3, h4⟩ := hr
  by_cases h0 : ls.length = 0
  · have hb : ls = [] := List.eq_nil_of_length_eq_zero h0
    subst hb
    refine (bytesOf_none ao cap w).mono ?_
    rintro e w' ⟨c, rfl, hc, hbel⟩
    exact ⟨_, rfl, ⟨rfl, _, c, rfl, Nat.zero_le _, hc, fun h => absurd rfl h⟩, hbel⟩
  · obtain ⟨b, off, rfl, hc⟩ := h4 h0
    exact bytesOf_some b off cap ls w (by omega) (Nat.le_trans (ended_length_ge ls) hle) ⟨h1, _, cap, rfl, h2, h3, fun _ => ⟨b, off, rfl, hc⟩⟩ hle
end Go.Proofs.YtkifihcficobnaaGreatDoor
namespace Go.Proofs.YtkifihcficobnaaGreatDoor
open Go.RowKit Go.Gs
set_option linter.unusedVariables false

set_option maxRecDepth 100000 in
set_option maxHeartbeats 1000000 in
theorem whole_is (v : Value) (bs : List UInt8) (w : World) (hr : Reads w v bs.length (bs.map U)) (hsh : w.ShapedOpen Tryz.prog) (hle : bs.length ≤ 50000) :
    Calls Tryz.prog 24 #[v] w fun e w' => ∃ r, e = .returned r ∧ Reads w' r (ended (lines bs)).length ((ended (lines bs)).map U) ∧ Below w.heap.size w w' := by
  have hl := ended_lines bs
  have HR : Hid (Reads w v bs.length (bs.map U)) := hr
  clear hr
  go_enter Tryz.func24, Tryz.ntmps24
  go_wp2_with fail
  refine (linesOf v bs w HR.out hsh (by omega)).mono ?_
  rintro e w1 ⟨g, cap, rfl, hr1, hb1⟩
  have HR1 : Hid _ := hr1
  have HB1 : Hid _ := hb1
  clear hr1 hb1
  go_wp2_with fail
  refine (bytesOf _ (lines bs) w1 HR1.out (by omega)).mono ?_
  rintro e w2 ⟨r2, rfl, hr2, hb2⟩
  have HR2 : Hid _ := hr2
  have HB2 : Hid (Below w.heap.size w w2) := Below.trans HB1.out (Below.mono hb2 (Below.size HB1.out))
  clear hr2 hb2
  go_wp2_with fail
  go_ret
  exact ⟨_, rfl, HR2.out, HB2.out⟩
end Go.Proofs.YtkifihcficobnaaGreatDoor
namespace Go.Proofs.YtkifihcficobnaaGreatDoor
open Go.RowKit Go.Gs
set_option linter.unusedVariables false

set_option maxRecDepth 100000 in
set_option maxHeartbeats 1000000 in
theorem bytesOfN_some (b off cap : Nat) (ls : List (List UInt8)) (w : World) (h0 : 0 < ls.length) (hm : ls.length ≤ 900000) (hr : Reads w (.slice (some ⟨b, off, none⟩) ls.length cap) ls.length (ls.map S)) (hle : (ended ls).length ≤ 900000) :
    Calls Tryz.prog 19 #[.slice (some ⟨b, off, none⟩) ls.length cap] w fun e w' => ∃ r, e = .returned r ∧ Reads w' r (ended ls).length ((ended ls).map U) ∧ Below w.heap.size w w' ∧ (∀ a n c, r = .slice (some a) n c → w.heap.size ≤ a.block) := by
  have hcv := fun (W : World) (s : ByteArray) => run_bytes_of_string (P := Tryz.prog) W 9 24 5 s Tryz.underlying9 Tryz.underlying24 Tryz.underlying5
  have hE := join_ended ls (List.length_pos_iff.1 h0)
  generalize hJ : Lib.join ls [10] = J at *
  have HJ : Hid _ := hJ
  have HE : Hid _ := hE
  have hJl : J.length + 1 ≤ 900000 := by rw [← hE] at hle; simpa using hle
  clear hJ hE
  go_enter Tryz.func19, Tryz.ntmps19
  go_wp2_with fail
  refine (join_reads _ ls _ hr hle).mono ?_
  rintro e w1 ⟨rfl, hbel⟩
  rw [HJ.out]
  clear hr
  go_wp2_with fail
  go_ret
  refine ⟨_, rfl, ?_, ((hbel.alloc hbel.size _).drew), fun a n c e => by injection e with e; injection e with e; rw [← e]; exact hbel.size⟩
  have h := reads_bytes w1 (⟨J.toArray⟩ ++ ⟨#[10]⟩) (grownCap w1 (J.length + 1) 0 5) ((bytesRow (⟨J.toArray⟩ ++ ⟨#[10]⟩) (grownCap w1 (J.length + 1) 0 5)).size, (bytesRow (⟨J.toArray⟩ ++ ⟨#[10]⟩) (grownCap w1 (J.length + 1) 0 5)).size + 1) (by rw [size_feed]; exact grownCap_ge _ _ _ _) (grownCap_le_maxLen _ _ _ _ (by unfold maxLen; omega))
  have h' := h.below (Below.refl _ _).drew
  rw [size_feed, data_feed, HE.out] at h'
  have hl : (ended ls).length = J.length + 1 := by rw [← HE.out]; simp
  rw [hl]
  exact h'

theorem bytesOfN (v : Value) (ls : List (List UInt8)) (w : World) (hr : Reads w v ls.length (ls.map S)) (hle : (ended ls).length ≤ 900000) :
    Calls Tryz.prog 19 #[v] w fun e w' => ∃ r, e = .returned r ∧ Reads w' r (ended ls).length ((ended ls).map U) ∧ Below w.heap.size w w' ∧ (∀ a n c, r = .slice (some a) n c → w.heap.size ≤ a.block) := by
  obtain ⟨h1, ao, cap, rfl, h2, h3, h4⟩ := hr
  by_cases h0 : ls.length = 0
  · have hb : ls = [] := List.eq_nil_of_length_eq_zero h0
    subst hb
    refine (bytesOf_none ao cap w).mono ?_
    rintro e w' ⟨c, rfl, hc, hbel⟩
    exact ⟨_, rfl, ⟨rfl, _, c, rfl, Nat.zero_le _, hc, fun h => absurd rfl h⟩, hbel, fun a n c e => by injection e with e; injection e with e; rw [← e]; exact Nat.le_refl _⟩
  · obtain ⟨b, off, rfl, hc⟩ := h4 h0
    exact bytesOfN_some b off cap ls w (by omega) (Nat.le_trans (ended_length_ge ls) hle) ⟨h1, _, cap, rfl, h2, h3, fun _ => ⟨b, off, rfl, hc⟩⟩ hle

set_option maxRecDepth 100000 in
set_option maxHeartbeats 1000000 in
theorem wholeN_is (v : Value) (bs : List UInt8) (w : World) (hr : Reads w v bs.length (bs.map U)) (hsh : w.ShapedOpen Tryz.prog) (hle : bs.length ≤ 50000) :
    Calls Tryz.prog 24 #[v] w fun e w' => ∃ r, e = .returned r ∧ Reads w' r (ended (lines bs)).length ((ended (lines bs)).map U) ∧ Below w.heap.size w w' ∧ (∀ a n c, r = .slice (some a) n c → w.heap.size ≤ a.block) := by
  have hl := ended_lines bs
  have HR : Hid (Reads w v bs.length (bs.map U)) := hr
  clear hr
  go_enter Tryz.func24, Tryz.ntmps24
  go_wp2_with fail
  refine (linesOf v bs w HR.out hsh (by omega)).mono ?_
  rintro e w1 ⟨g, cap, rfl, hr1, hb1⟩
  have HR1 : Hid _ := hr1
  have HB1 : Hid _ := hb1
  clear hr1 hb1
  go_wp2_with fail
  refine (bytesOfN _ (lines bs) w1 HR1.out (by omega)).mono ?_
  rintro e w2 ⟨r2, rfl, hr2, hb2, hn2⟩
  have HR2 : Hid _ := hr2
  have HB2 : Hid (Below w.heap.size w w2) := Below.trans HB1.out (Below.mono hb2 (Below.size HB1.out))
  have HN2 : Hid (∀ a n c, r2 = .slice (some a) n c → w.heap.size ≤ a.block) := (show ∀ a n c, r2 = .slice (some a) n c → w.heap.size ≤ a.block from fun a n c e => Nat.le_trans (Below.size HB1.out) (hn2 a n c e))
  clear hr2 hb2 hn2
  go_wp2_with fail
  go_ret
  exact ⟨_, rfl, HR2.out, HB2.out, HN2.out⟩
end Go.Proofs.YtkifihcficobnaaGreatDoor
