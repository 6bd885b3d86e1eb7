/- Plain facts on bytes and lines, and on slices that can be read: no walk. -/
import Derived.WalkKit
namespace Go.Gs
open Go.RowKit

/-! ### Bytes and lines -/

def U (c : UInt8) : Value := .int .u8 (c.toNat : Int)
def S (l : List UInt8) : Value := .string ⟨l.toArray⟩

/-- The lines of what is left, where 'cur' is what has been met of the line at hand. -/
def linesAux (cur : List UInt8) : List UInt8 → List (List UInt8)
  | [] => if cur = [] then [] else [cur]
  | c :: r => if c = 10 then cur :: linesAux [] r else linesAux (cur ++ [c]) r

def lines (b : List UInt8) : List (List UInt8) := linesAux [] b

def ended (l : List (List UInt8)) : List UInt8 := (l.map (fun s => s ++ [10])).flatten

theorem ended_nil : ended [] = [] := rfl
theorem ended_cons (s : List UInt8) (l : List (List UInt8)) : ended (s :: l) = s ++ [10] ++ ended l := by simp [ended]
theorem ended_append (a b : List (List UInt8)) : ended (a ++ b) = ended a ++ ended b := by simp [ended]

theorem linesAux_length (r : List UInt8) : ∀ cur, (linesAux cur r).length ≤ r.length + (if cur = [] then 0 else 1) := by
  induction r with
  | nil => intro cur; unfold linesAux; split <;> simp_all
  | cons c r ih =>
    intro cur
    unfold linesAux
    split
    · have := ih []
      simp only [List.length_cons, if_true] at *
      split <;> omega
    · have := ih (cur ++ [c])
      simp only [List.length_cons, List.append_eq_nil_iff, List.cons_ne_nil, and_false, if_false] at *
      split <;> omega

theorem lines_length (b : List UInt8) : (lines b).length ≤ b.length := by
  have := linesAux_length b []
  simpa [lines] using this

theorem linesAux_noFeed (r : List UInt8) : ∀ cur, (10 ∉ cur) → ∀ s ∈ linesAux cur r, (10 : UInt8) ∉ s := by
  induction r with
  | nil => intro cur h s hs; unfold linesAux at hs; split at hs <;> simp_all
  | cons c r ih =>
    intro cur h s hs
    unfold linesAux at hs
    split at hs
    · simp only [List.mem_cons] at hs
      rcases hs with rfl | hs
      · exact h
      · exact ih [] (by simp) s hs
    · exact ih (cur ++ [c]) (by simp_all [eq_comm]) s hs

theorem lines_noFeed (b : List UInt8) : ∀ s ∈ lines b, (10 : UInt8) ∉ s := linesAux_noFeed b [] (by simp)

/-- A line without a line feed in it, then its end. -/
theorem linesAux_line (s : List UInt8) : ∀ (cur r : List UInt8), (10 : UInt8) ∉ s → linesAux cur (s ++ 10 :: r) = (cur ++ s) :: linesAux [] r := by
  induction s with
  | nil => intro cur r _; simp [linesAux]
  | cons c s ih =>
    intro cur r h
    simp only [List.mem_cons, not_or] at h
    rw [List.cons_append, linesAux, if_neg (fun e => h.1 e.symm), ih _ _ h.2]
    simp

theorem lines_ended (l : List (List UInt8)) (h : ∀ s ∈ l, (10 : UInt8) ∉ s) : lines (ended l) = l := by
  induction l with
  | nil => simp [ended, lines, linesAux]
  | cons s l ih =>
    have hs := h s (by simp)
    have := ih (fun t ht => h t (by simp [ht]))
    rw [ended_cons, List.append_assoc]
    show linesAux [] (s ++ 10 :: ended l) = _
    rw [linesAux_line s [] _ hs]
    simpa [lines] using this

theorem ended_last (l : List (List UInt8)) (h : ended l ≠ []) : (ended l).getLast h = 10 := by
  induction l with
  | nil => exact absurd rfl h
  | cons s l ih =>
    simp only [ended_cons] at h ⊢
    by_cases e : ended l = []
    · simp [e]
    · rw [List.getLast_append_of_ne_nil _ e]; exact ih e

/-- How long lines are, each ended: at most one more than what they came from. -/
theorem ended_linesAux (r : List UInt8) : ∀ cur, (ended (linesAux cur r)).length ≤ cur.length + r.length + 1 := by
  induction r with
  | nil => intro cur; unfold linesAux; split <;> simp_all [ended]
  | cons c r ih =>
    intro cur
    unfold linesAux
    split
    · have := ih []
      simp only [ended_cons, List.length_append, List.length_cons, List.length_nil] at *
      omega
    · have := ih (cur ++ [c])
      simp only [List.length_append, List.length_cons, List.length_nil] at *
      omega

theorem ended_lines (b : List UInt8) : (ended (lines b)).length ≤ b.length + 1 := by
  have := ended_linesAux b []
  simpa [lines] using this

theorem ended_length_sub (l : List (List UInt8)) (i j : Nat) : (ended ((l.take j).drop i)).length ≤ (ended l).length := by
  have h1 : (ended (l.take j)).length ≤ (ended l).length := by
    conv => rhs; rw [← List.take_append_drop j l, ended_append]
    simp
  have h2 : (ended ((l.take j).drop i)).length ≤ (ended (l.take j)).length := by
    conv => rhs; rw [← List.take_append_drop i (l.take j), ended_append]
    simp
  omega

theorem ended_length_ge (l : List (List UInt8)) : l.length ≤ (ended l).length := by
  induction l with
  | nil => simp
  | cons s l ih => rw [ended_cons]; simp; omega

/-! ### What Bytes answers: 0, 4 (ErrForm), 2 (ErrMany) -/

def bad : Nat → List (List UInt8) → Int
  | _, [] => 0
  | room, s :: r => if (10 : UInt8) ∈ s then 4 else if room ≤ s.length then 2 else bad (room - (s.length + 1)) r

theorem bad_ok (l : List (List UInt8)) : ∀ room, bad room l = 0 → (ended l).length ≤ room ∧ ∀ s ∈ l, (10 : UInt8) ∉ s := by
  induction l with
  | nil => intro room _; simp [ended]
  | cons s l ih =>
    intro room h
    unfold bad at h
    split at h
    · cases h
    · split at h
      · cases h
      · have := ih _ h
        rw [ended_cons]
        simp only [List.length_append, List.length_cons, List.length_nil, List.mem_cons] at *
        refine ⟨by omega, ?_⟩
        rintro t (rfl | ht)
        · assumption
        · exact this.2 t ht

theorem bad_cases (l : List (List UInt8)) : ∀ room, bad room l = 0 ∨ bad room l = 2 ∨ bad room l = 4 := by
  induction l with
  | nil => intro room; simp [bad]
  | cons s l ih => intro room; unfold bad; split; simp; split; simp; exact ih _

/-! ### Slices that can be read -/

/-- 'v' is a slice of so many elements of one cell each; they read as 'xs'. -/
def Reads (w : World) (v : Value) (n : Nat) (xs : List Value) : Prop :=
  xs.length = n ∧ ∃ ao cap, v = .slice ao n cap ∧ n ≤ cap ∧ cap ≤ maxLen ∧
    (n ≠ 0 → ∃ b off, ao = some ⟨b, off, none⟩ ∧ ∀ j u, xs[j]? = some u → w.cell? ⟨b, off + j, none⟩ = some u)

theorem Reads.of_owns {w : World} {base : Nat} {e : TypeId} {v : Value} {n : Nat} {xs : List Value} (h : w.ownsRow base e 1 v n xs) : Reads w v n xs := by
  have hl : xs.length = n := by simpa using h.1
  refine ⟨hl, ?_⟩
  rcases h.2 with ⟨rfl, rfl⟩ | ⟨g, cap, cur, rfl, hb, hg, h1, h2, h3, h4⟩
  · exact ⟨none, 0, rfl, Nat.le_refl _, by simp, fun h => absurd rfl h⟩
  · refine ⟨_, cap, rfl, h1, h2, fun _ => ⟨g, 0, rfl, fun j u hu => ?_⟩⟩
    have := h.cells (g := g) rfl j u hu
    have hadd : (⟨g, 0, none⟩ : Addr).add j = ⟨g, 0 + j, none⟩ := by unfold Addr.add; split <;> simp_all
    rwa [hadd] at this

theorem Reads.below {w w' : World} {v : Value} {n : Nat} {xs : List Value} (h : Reads w v n xs) (hb : Below w.heap.size w w') : Reads w' v n xs := by
  obtain ⟨h1, ao, cap, rfl, h2, h3, h4⟩ := h
  refine ⟨h1, ao, cap, rfl, h2, h3, fun hn => ?_⟩
  obtain ⟨b, off, rfl, hc⟩ := h4 hn
  exact ⟨b, off, rfl, fun j u hu => (hb.cell (World.block_lt_of_cell? w _ (hc j u hu))).trans (hc j u hu)⟩

theorem Reads.setCell {w : World} {v : Value} {n : Nat} {xs : List Value} (h : Reads w v n xs) {a : Addr} {old : Value} (ha : w.cell? a = some old) (x : Value) (hne : old ∉ xs) : Reads (w.setCell a x) v n xs := by
  obtain ⟨h1, ao, cap, rfl, h2, h3, h4⟩ := h
  refine ⟨h1, ao, cap, rfl, h2, h3, fun hn => ?_⟩
  obtain ⟨b, off, rfl, hc⟩ := h4 hn
  refine ⟨b, off, rfl, fun j u hu => ?_⟩
  have hcu := hc j u hu
  have hd : a ≠ ⟨b, off + j, none⟩ := by
    rintro rfl
    rw [hcu] at ha
    cases ha
    exact hne (List.mem_of_getElem? hu)
  rw [← hcu]
  exact World.cell?_setCell_other _ _ _ _ hd

end Go.Gs
