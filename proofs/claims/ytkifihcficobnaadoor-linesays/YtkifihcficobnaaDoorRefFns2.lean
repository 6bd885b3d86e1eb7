/- What the reference's LinesOf and BytesOf do. -/
import Derived.Test.YtkifihcficobnaaDoorSubs
import Derived.Test.YtkifihcficobnaaDoorShelf
import Derived.Test.YtkifihcficobnaaDoorRefPlain
import Derived.ChangeAgain
import Derived.Laws.Strings3
namespace Go.Proofs.YtkifihcficobnaaDoor
open Go.RowKit Go.Gs
set_option linter.unusedVariables false

/-- strings.Split at one line feed. -/
theorem split_feed (bs : List UInt8) (w : World) (hsh : w.ShapedOpen Tryd.prog) (hle : bs.length ≤ 900000) :
    Calls Tryd.prog 36 #[.string ⟨bs.toArray⟩, .string ⟨#[10]⟩] w fun e w' =>
      e = .returned (.slice (some ⟨w.heap.size, 0, none⟩) (pieces [] bs).length (pieces [] bs).length) ∧ w' = w.alloc (.cells ((pieces [] bs).map S).toArray 9) := by
  have hcount : Lib.countB ⟨bs.toArray⟩ ⟨#[10]⟩ = bs.count 10 := by
    show Lib.count _ _ = _
    exact Lib.count_one 10 bs
  have hp : (Lib.splitB ⟨#[10]⟩ 0 (Lib.countB ⟨bs.toArray⟩ ⟨#[10]⟩) ⟨bs.toArray⟩).map (·.data.toList) = pieces [] bs := by
    rw [Lib.splitB_data]
    exact splitK_pieces _ bs hcount.symm
  have hlen : Lib.countB ⟨bs.toArray⟩ ⟨#[10]⟩ + 1 = (pieces [] bs).length := by
    have h1 := Lib.splitB_all ⟨#[10]⟩ (by decide) 0 _ ⟨bs.toArray⟩ rfl
    rw [← hp, List.length_map, h1]
  refine (Tryd.strings_Split_shaped ⟨bs.toArray⟩ ⟨#[10]⟩ w hsh (by simp [ByteArray.size]; omega) (by decide)).mono ?_
  rintro e w' ⟨rfl, rfl⟩
  rw [hlen, map_str_S, hp]
  exact ⟨rfl, rfl⟩

theorem lines_eq (bs : List UInt8) (x : List UInt8) (hx : (pieces [] bs).getLast (pieces_ne bs []) = x) : (x = [] → lines bs = (pieces [] bs).dropLast) ∧ (x ≠ [] → lines bs = pieces [] bs) := by
  have := lines_pieces bs []
  rw [hx] at this
  constructor
  · intro e; rw [if_pos e] at this; exact this
  · intro e; rw [if_neg e] at this; exact this

theorem pieces_length (s : List UInt8) : ∀ cur, (pieces cur s).length ≤ s.length + 1 := by
  induction s with
  | nil => intro cur; simp [pieces]
  | cons c s ih => intro cur; unfold pieces; split; simp; exact ih _; have := ih (cur ++ [c]); simp; omega

theorem split_facts (bs : List UInt8) (w : World) (hsh : w.ShapedOpen Tryd.prog) (hle : bs.length ≤ 900000) (P : List (List UInt8)) (hP : pieces [] bs = P) (x : List UInt8) (hx : P[P.length - 1]? = some x) :
    Calls Tryd.prog 36 #[.string ⟨bs.toArray⟩, .string ⟨#[10]⟩] w fun e w' =>
      ∃ g, e = .returned (.slice (some ⟨g, 0, none⟩) P.length P.length) ∧ w'.cell? ⟨g, P.length - 1, none⟩ = some (.string ⟨x.toArray⟩) ∧
        Reads w' (.slice (some ⟨g, 0, none⟩) P.length P.length) P.length (P.map S) ∧ Below w.heap.size w w' := by
  have hpl := pieces_length bs []
  rw [hP] at hpl
  refine (split_feed bs w hsh hle).mono ?_
  rintro e w' ⟨rfl, rfl⟩
  rw [hP]
  refine ⟨w.heap.size, rfl, ?_, by simpa using reads_new w (P.map S).toArray 9 (0, 0) P.length (by simp) (by omega), (Below.refl _ w).alloc (Nat.le_refl _) _⟩
  rw [cell_of_row _ _ _ _ _ _ (heap_alloc_new w _)]
  simp [hx, S]

set_option maxRecDepth 100000 in
set_option maxHeartbeats 1000000 in
theorem linesOf (v : Value) (bs : List UInt8) (w : World) (hr : Reads w v bs.length (bs.map U)) (hsh : w.ShapedOpen Tryd.prog) (hle : bs.length ≤ 900000) :
    Calls Tryd.prog 14 #[v] w fun e w' => ∃ g cap, e = .returned (.slice (some ⟨g, 0, none⟩) (lines bs).length cap) ∧
      Reads w' (.slice (some ⟨g, 0, none⟩) (lines bs).length cap) (lines bs).length ((lines bs).map S) ∧ Below w.heap.size w w' := by
  have hconv := conv_any hr
  have hpn := pieces_ne bs []
  have hLE := lines_eq bs _ rfl
  have hlast : (pieces [] bs)[(pieces [] bs).length - 1]? = some ((pieces [] bs).getLast hpn) := by
    rw [List.getLast_eq_getElem]
    exact List.getElem?_eq_getElem _
  have hlen0 : 0 < (pieces [] bs).length := List.length_pos_iff.2 hpn
  have hlenm : (pieces [] bs).length ≤ 1800000 := by have := pieces_length bs []; omega
  generalize (pieces [] bs).getLast hpn = x at *
  generalize hP : pieces [] bs = P at *
  have HP : Hid _ := hP
  have HL : Hid _ := hlast
  clear hP hlast hpn
  by_cases hx : x = []
  · subst hx
    have Hl : Hid _ := hLE.1 rfl
    clear hLE
    go_enter Tryd.func14, Tryd.ntmps14
    go_wp2_with fail
    refine (split_facts bs _ hsh hle P HP.out _ HL.out).mono ?_
    rintro e w1 ⟨g, rfl, hcell, hrd, hbel⟩
    clear hconv
    have R : Hid (Reads w1 (.slice (some ⟨g, 0, none⟩) (P.length - 1) P.length) (lines bs).length ((lines bs).map S) ∧ (lines bs).length = P.length - 1) := by
      have h1 := reads_take hrd (show P.length - 1 ≤ P.length by omega)
      have h2 : (lines bs).length = P.length - 1 := by rw [Hl.out]; simp
      refine ⟨?_, h2⟩
      rw [h2, Hl.out, List.dropLast_eq_take, List.map_take]
      exact h1
    clear hrd
    go_wp2_with fail
    go_ret
    refine ⟨g, P.length, ?_, ?_, hbel⟩
    · rw [R.out.2]; simp
    · rw [R.out.2]
      have := R.out.1
      rw [R.out.2] at this
      exact this
  · have hxe : x.isEmpty = false := by simp [hx]
    have Hl : Hid _ := hLE.2 hx
    clear hLE hx
    go_enter Tryd.func14, Tryd.ntmps14
    go_wp2_with fail
    refine (split_facts bs _ hsh hle P HP.out _ HL.out).mono ?_
    rintro e w1 ⟨g, rfl, hcell, hrd, hbel⟩
    clear hconv
    have R : Hid _ := hrd
    clear hrd
    go_wp2_with fail
    go_ret
    rw [← Hl.out] at R
    refine ⟨g, _, ?_, R.out, hbel⟩
    rw [Hl.out]
    rfl
end Go.Proofs.YtkifihcficobnaaDoor
