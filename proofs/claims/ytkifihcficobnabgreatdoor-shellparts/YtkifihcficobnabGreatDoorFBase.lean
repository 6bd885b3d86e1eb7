/- Facts of no function that walks over files use. -/
import Derived.Test.YtkifihcficobnabGreatDoorPlainE
import Derived.Test.YtkifihcficobnabGreatDoorProg
import Derived.WalkKit
import Derived.WalkLawsBesides
import Derived.WalkSpells
import Derived.Deep.Draws
import Derived.BigQuiet
import Derived.ChangeAgain
import Derived.Outline
namespace Go.Proofs.YtkifihcficobnabGreatDoor
open Go.RowKit Go.Gs
set_option linter.unusedVariables false

theorem boxr_of {w : World} {o : Obj} : Below w.heap.size w (w.alloc o) := (Below.refl _ w).alloc (Nat.le_refl _) o
theorem reads_le' {w : World} {ao : Option Addr} {n cap : Nat} {xs : List Value} (h : Reads w (.slice ao n cap) n xs) : n ≤ 9223372036854775807 := by
  obtain ⟨_, c, e, h1, h2⟩ := h.shape
  unfold maxLen at h2
  omega
theorem str_eq2 (a b : List UInt8) : ((⟨a.toArray⟩ : ByteArray).toList == (⟨b.toArray⟩ : ByteArray).toList) = decide (a = b) := by
  by_cases h : a = b
  · subst h; simp
  · simp [h]
theorem less_eq2 : ∀ (x y : List UInt8), Op.bytesLess x y = decide (x < y)
  | [], [] => by simp [Op.bytesLess]
  | _ :: _, [] => by simp [Op.bytesLess]
  | [], _ :: _ => by simp [Op.bytesLess]
  | a :: x, b :: y => by
    rw [Op.bytesLess, less_eq2 x y]
    simp only [List.cons_lt_cons_iff]
    by_cases h1 : a < b <;> by_cases h2 : a = b <;> by_cases h3 : x < y <;> simp [h1, h2, h3]
theorem box2_cells {w w' : World} {a b : Value} {t : TypeId} (h : Below (w.alloc (.cells #[a, b] t)).heap.size (w.alloc (.cells #[a, b] t)) w') : w'.cell? ⟨w.heap.size, 0, none⟩ = some a ∧ w'.cell? ⟨w.heap.size, 1, none⟩ = some b := by
  have hk : w'.heap[w.heap.size]? = some (.cells #[a, b] t (0, 0)) := (h.block _ (by simp)).trans (heap_alloc_new w _)
  simp [World.cell?, hk]
theorem fileOf_at {fs : List SFile} {n : List UInt8} : ∀ {k : Nat} {f : SFile}, fs[k]? = some f → f.name = n → (∀ g ∈ fs.take k, g.name ≠ n) → fileOf fs n = f.b := by
  induction fs with
  | nil => intro k f h; simp at h
  | cons a r ih =>
    intro k f h hf hno
    cases k with
    | zero =>
      simp at h; subst h
      unfold fileOf
      simp [hf]
    | succ k =>
      have hne : a.name ≠ n := hno a (by simp)
      have := ih (k := k) (by simpa using h) hf (fun g hg => hno g (by simp [hg]))
      rw [← this]
      unfold fileOf
      rw [List.find?_cons_of_neg (by simpa using hne)]
theorem fileOf_no {fs : List SFile} {n : List UInt8} (h : ∀ g ∈ fs, g.name ≠ n) : fileOf fs n = [] := by
  unfold fileOf
  rw [List.find?_eq_none.2 (fun g hg => by simpa using h g hg)]
  rfl

def lastName : Option (List UInt8) → List SFile → Option (List UInt8)
  | q, [] => q
  | _, g :: a => lastName (some g.name) a
theorem from_split : ∀ (a : List SFile) (q : Option (List UInt8)) (f : SFile) (r : List SFile), fchkFrom q a = 0 → fchkFrom q (a ++ f :: r) = if fbad (lastName q a) f = 0 then fchkFrom (some f.name) r else fbad (lastName q a) f
  | [], q, f, r, _ => rfl
  | g :: a, q, f, r, h => by
    rw [fchkFrom] at h
    split at h
    · rename_i h1
      rw [List.cons_append, fchkFrom, if_pos h1, from_split a _ f r h]
      rfl
    · rename_i h1; exact absurd h h1
theorem last_snoc : ∀ (a : List SFile) (q : Option (List UInt8)) (g : SFile), lastName q (a ++ [g]) = some g.name
  | [], q, g => rfl
  | x :: a, q, g => by rw [List.cons_append, lastName]; exact last_snoc a _ g
theorem last_take {fs : List SFile} {k : Nat} {g : SFile} (h : fs[k]? = some g) : lastName none (fs.take (k + 1)) = some g.name := by
  rw [List.take_add_one, h]
  exact last_snoc _ _ _
theorem split_at {fs : List SFile} {k : Nat} {f : SFile} (h : fs[k]? = some f) : fs = fs.take k ++ f :: fs.drop (k + 1) := by
  obtain ⟨hk, e⟩ := List.getElem?_eq_some_iff.1 h
  rw [← e, ← List.drop_eq_getElem_cons hk, List.take_append_drop]
theorem from_bad {fs : List SFile} {k : Nat} {f : SFile} (h : fs[k]? = some f) (h0 : fchkFrom none (fs.take k) = 0) (hb : fbad (lastName none (fs.take k)) f ≠ 0) : fchkFrom none fs = fbad (lastName none (fs.take k)) f := by
  have e := from_split (fs.take k) none f (fs.drop (k + 1)) h0
  rw [← split_at h, if_neg hb] at e
  exact e
theorem from_good {fs : List SFile} {k : Nat} {f : SFile} (h : fs[k]? = some f) (h0 : fchkFrom none (fs.take k) = 0) (hb : fbad (lastName none (fs.take k)) f = 0) : fchkFrom none (fs.take (k + 1)) = 0 := by
  rw [List.take_add_one, h]
  have e := from_split (fs.take k) none f [] h0
  rw [if_pos hb] at e
  exact e
theorem belowq {B : Nat} {a w : World} (h : Below B a w) (q : Nat) : Below B a (w.drewN q) := ⟨h.os, h.tape, h.output, h.size, h.block⟩
theorem fchk_few {fs : List SFile} (h : ¬ 12 < fs.length) : fchk fs = fchkFrom none fs := by unfold fchk; rw [if_neg h]

theorem ne_at2 {α : Type} {a b : List α} {k : Nat} {x y : α} (ha : a[k]? = some x) (hb : b[k]? = some y) (h : x ≠ y) : a ≠ b := by
  intro e
  rw [e, hb] at ha
  injection ha with ha
  exact h ha.symm
theorem take_eq2 {α : Type} {a b : List α} {k : Nat} {x : α} (h : a.take k = b.take k) (ha : a[k]? = some x) (hb : b[k]? = some x) : a.take (k + 1) = b.take (k + 1) := by
  rw [List.take_add_one, List.take_add_one, h, ha, hb]
theorem reads_byte {w : World} {ao : Option Addr} {n cap : Nat} {bs : List UInt8} (h : Reads w (.slice ao n cap) n (bs.map U)) {k : Nat} {c : UInt8} (hk : bs[k]? = some c) :
    ∃ b off, ao = some ⟨b, off, none⟩ ∧ w.cell? ⟨b, off + k, none⟩ = some (.int .u8 (c.toNat : Int)) := by
  obtain ⟨h1, ao', cap', e, _, _, h5⟩ := h
  injection e with e1 e2 e3
  subst e1
  obtain ⟨hkl, _⟩ := List.getElem?_eq_some_iff.1 hk
  rw [List.length_map] at h1
  obtain ⟨b, off, hao, hc⟩ := h5 (by omega)
  exact ⟨b, off, hao, hc k (U c) (by rw [List.getElem?_map, hk]; rfl)⟩

theorem boxr2_of {w : World} {o p : Obj} : Below w.heap.size w ((w.alloc o).alloc p) := (boxr_of (w := w) (o := o)).alloc (by simp) p
theorem infoFile : (Tryz.prog.info? 45).map (fun i => (i.zero, i.size, i.bytes)) = some (some (.agg #[.string ⟨#[]⟩, .slice none 0 0]), 2, 40) := by kernel_rfl
theorem addF {b off j : Nat} : (⟨b, off, none⟩ : Addr).add j = ⟨b, off + j, none⟩ := by unfold Addr.add; split <;> simp_all
theorem putS_word {fs : List SFile} {n b : List UInt8} (h : isWord n = false) : putS fs n b = ([], 1) := by unfold putS; rw [if_pos h]
theorem putS_long {fs : List SFile} {n b : List UInt8} (h : isWord n = true) (hb : 4000 < b.length) : putS fs n b = ([], 2) := by unfold putS; rw [if_neg (by simp [h]), if_pos hb]
theorem putS_many {fs : List SFile} {n b : List UInt8} (h : isWord n = true) (hb : ¬ 4000 < b.length) (hm : 12 < (putF fs n b).length) : putS fs n b = ([], 2) := by unfold putS; rw [if_neg (by simp [h]), if_neg hb, if_pos hm]
theorem putS_ok {fs : List SFile} {n b : List UInt8} (h : isWord n = true) (hb : ¬ 4000 < b.length) (hm : ¬ 12 < (putF fs n b).length) : putS fs n b = (putF fs n b, 0) := by unfold putS; rw [if_neg (by simp [h]), if_neg hb, if_neg hm]
theorem rfiles_nil (w : World) : RFiles w (.slice none 0 0) [] := ⟨none, 0, rfl, Nat.le_refl _, by simp [maxLen], fun h => absurd rfl h⟩
/-- What PutIn ends with. -/
def PutEnd (w : World) (res : List SFile × Int) (e : Ending) (w' : World) : Prop := ∃ ar cr, e = .returned (.tuple #[.slice ar res.1.length cr, .int .i64 res.2]) ∧ RFiles w' (.slice ar res.1.length cr) res.1 ∧ Below w.heap.size w w'
theorem putEnd_err {w w' : World} {res : List SFile × Int} {e : Ending} {r : Int} (h : res = ([], r)) (he : e = .returned (.tuple #[.slice none 0 0, .int .i64 r])) (hb : Below w.heap.size w w') : PutEnd w res e w' := by
  subst h
  exact ⟨none, 0, he, rfiles_nil w', hb⟩
theorem box3_keep {w w' : World} {a b c : Value} {t : TypeId} (h : Below (w.alloc (.cells #[a, b, c] t)).heap.size (w.alloc (.cells #[a, b, c] t)) w') : w'.cell? ⟨w.heap.size, 0, none⟩ = some a ∧ w'.cell? ⟨w.heap.size, 1, none⟩ = some b ∧ w'.cell? ⟨w.heap.size, 2, none⟩ = some c := by
  have hk : w'.heap[w.heap.size]? = some (.cells #[a, b, c] t (0, 0)) := (h.block _ (by simp)).trans (heap_alloc_new w _)
  simp [World.cell?, hk]
end Go.Proofs.YtkifihcficobnabGreatDoor
