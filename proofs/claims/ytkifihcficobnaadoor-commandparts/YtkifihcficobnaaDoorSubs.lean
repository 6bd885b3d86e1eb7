/- Facts on slices that can be read, of no function. -/
import Derived.Test.YtkifihcficobnaaDoorOf
import Derived.Test.YtkifihcficobnaaDoorProg
import Derived.WalkKit
import Derived.WalkLawsBesides
import Derived.Outline
import Derived.ChangeAgain
import Derived.Laws.Strings3
import Derived.Lib.SlBytesConst
import Derived.WalkSpells
namespace Go.Proofs.YtkifihcficobnaaDoor
open Go.RowKit Go.Gs
set_option linter.unusedVariables false

/-- A slice's part reads as the list's part. -/
theorem reads_sub {w : World} {g n cap lo hi : Nat} {xs : List Value} (h : Reads w (.slice (some ⟨g, 0, none⟩) n cap) n xs) (h1 : lo ≤ hi) (h2 : hi ≤ n) :
    Reads w (.slice (some ⟨g, lo, none⟩) (hi - lo) (cap - lo)) (hi - lo) ((xs.take hi).drop lo) := by
  obtain ⟨hl, ao, cap', e, h3, h4, h5⟩ := h
  simp only [Value.slice.injEq, true_and] at e
  obtain ⟨rfl, rfl⟩ := e
  refine ⟨by simp; omega, _, _, rfl, by omega, by omega, fun hn => ?_⟩
  obtain ⟨b, off, e, hc⟩ := h5 (by omega)
  simp only [Option.some.injEq, Addr.mk.injEq, and_true] at e
  obtain ⟨rfl, rfl⟩ := e
  refine ⟨g, lo, rfl, fun j u hu => ?_⟩
  rw [List.getElem?_drop, List.getElem?_take] at hu
  split at hu
  · have := hc _ _ hu
    rwa [Nat.zero_add] at this
  · cases hu

theorem owns_below {w w' : World} {base : Nat} {e : TypeId} {size : Nat} {v : Value} {n : Nat} {xs : List Value} (h : w.ownsRow base e size v n xs) (hb : Below w.heap.size w w') : w'.ownsRow base e size v n xs :=
  h.kept (row := none) ⟨hb.os, hb.tape, hb.output, hb.size, fun k hk _ => hb.block k hk⟩ (by cases hv : v.ownBlock <;> simp)

theorem reads_new (w : World) (C : Array Value) (e : TypeId) (fr : Nat × Nat) (n : Nat) (hn : C.size = n) (hm : n ≤ 1000000) : Reads (w.alloc (.cells C e fr)) (.slice (some ⟨w.heap.size, 0, none⟩) n n) n C.toList := by
  refine ⟨by simpa using hn, _, n, rfl, Nat.le_refl _, by unfold maxLen; omega, fun _ => ⟨w.heap.size, 0, rfl, fun j u hu => ?_⟩⟩
  rw [cell_of_row _ _ _ _ _ _ (heap_alloc_new w _)]
  simpa using hu

theorem owns_shape {w : World} {base : Nat} {e : TypeId} {v : Value} {n : Nat} {xs : List Value} (h : w.ownsRow base e 1 v n xs) (hn : n ≠ 0) : ∃ g cap, v = .slice (some ⟨g, 0, none⟩) n cap := by
  rcases h.2 with ⟨_, h0⟩ | ⟨g, cap, cur, rfl, _⟩
  · exact absurd h0 hn
  · exact ⟨g, cap, rfl⟩

theorem reads_shape {w : World} {v : Value} {n : Nat} {xs : List Value} (h : Reads w v n xs) (hn : n ≠ 0) : ∃ b off cap, v = .slice (some ⟨b, off, none⟩) n cap := by
  obtain ⟨_, ao, cap, rfl, _, _, h4⟩ := h
  obtain ⟨b, off, rfl, _⟩ := h4 hn
  exact ⟨b, off, cap, rfl⟩

/-- 'string(b)' of bytes that can be read. -/
theorem conv_reads {w : World} {b off n cap : Nat} {bs : List UInt8} (h : Reads w (.slice (some ⟨b, off, none⟩) n cap) n (bs.map U)) (hn : n ≠ 0) :
    (convert 22 9 (.slice (some ⟨b, off, none⟩) n cap)).run Tryd.prog w = .ok (.string ⟨bs.toArray⟩) w := by
  obtain ⟨hl, ao, cap', e, _, _, h4⟩ := h
  simp only [Value.slice.injEq, true_and] at e
  obtain ⟨rfl, rfl⟩ := e
  obtain ⟨b', off', e, hc⟩ := h4 hn
  simp only [Option.some.injEq, Addr.mk.injEq, and_true] at e
  obtain ⟨rfl, rfl⟩ := e
  have hl' : bs.length = n := by simpa using hl
  have := conv_run w b off 0 n cap bs (Nat.zero_le _) (by omega) hc
  simpa [← hl', S] using this

theorem sh_below {w w' : World} (h : w.ShapedOpen Tryd.prog) (hb : Below w.heap.size w w') : w'.ShapedOpen Tryd.prog :=
  h.keptBut (hb.frame (fun _ => False)) (fun _ hp => hp.elim)

/-- 'string(b)' of any slice of bytes that can be read. -/
theorem conv_any {w : World} {v : Value} {bs : List UInt8} (h : Reads w v bs.length (bs.map U)) :
    (convert 22 9 v).run Tryd.prog w = .ok (.string ⟨bs.toArray⟩) w := by
  obtain ⟨hl, ao, cap, rfl, h2, h3, h4⟩ := h
  by_cases h0 : bs.length = 0
  · have hb : bs = [] := List.eq_nil_of_length_eq_zero h0
    subst hb
    cases ao with
    | none => exact run_convert_bytes_nil (P := Tryd.prog) w 22 5 Tryd.underlying22 Tryd.underlying5 _ _ 9 Tryd.underlying9
    | some a => exact run_convert_bytes_back (P := Tryd.prog) w 22 9 5 a cap [] Tryd.underlying22 Tryd.underlying5 Tryd.underlying9 (fun j hj => absurd hj (Nat.not_lt_zero _))
  · obtain ⟨b, off, rfl, hc⟩ := h4 h0
    exact conv_reads ⟨hl, _, cap, rfl, h2, h3, fun _ => ⟨b, off, rfl, hc⟩⟩ h0

theorem map_str_S (l : List ByteArray) : l.map Value.string = (l.map (·.data.toList)).map S := by
  rw [List.map_map]
  apply List.map_congr_left
  intro s _
  simp [S]

theorem reads_take {w : World} {g n cap m : Nat} {xs : List Value} (h : Reads w (.slice (some ⟨g, 0, none⟩) n cap) n xs) (h1 : m ≤ n) : Reads w (.slice (some ⟨g, 0, none⟩) m cap) m (xs.take m) := by
  have := reads_sub h (Nat.zero_le m) h1
  simpa using this

theorem reads_bytes (w : World) (s : ByteArray) (cap : Nat) (fr : Nat × Nat) (hcap : s.size ≤ cap) (hm : cap ≤ maxLen) :
    Reads (w.alloc (.cells (bytesRow s cap) 5 fr)) (.slice (some ⟨w.heap.size, 0, none⟩) s.size cap) s.size (s.data.toList.map U) := by
  refine ⟨by rw [List.length_map]; exact Array.length_toList, _, cap, rfl, hcap, hm, fun _ => ⟨w.heap.size, 0, rfl, fun j u hu => ?_⟩⟩
  rw [cell_of_row _ _ _ _ _ _ (heap_alloc_new w _)]
  have hj : j < s.data.size := by
    have := (List.getElem?_eq_some_iff.1 hu).1
    simpa using this
  rw [Nat.zero_add]
  unfold bytesRow
  rw [Array.getElem?_append_left (by simpa using hj)]
  simp only [List.getElem?_map, Array.getElem?_toList] at hu
  rw [Array.getElem?_map]
  exact hu

def str (l : List UInt8) : ByteArray := ⟨l.toArray⟩
theorem str_inj {a b : List UInt8} (h : str a = str b) : a = b := by
  simp only [str, ByteArray.mk.injEq] at h
  simpa using congrArg Array.toList h

theorem map_str_inj (a b : List (List UInt8)) : a.map str = b.map str ↔ a = b := by
  constructor
  · intro h
    induction a generalizing b with
    | nil => cases b with
      | nil => rfl
      | cons _ _ => cases h
    | cons x a ih => cases b with
      | nil => cases h
      | cons y b =>
        simp only [List.map_cons, List.cons.injEq] at h
        rw [str_inj h.1, ih b h.2]
  · rintro rfl; rfl

theorem cells_str {w : World} {b off : Nat} {ls : List (List UInt8)} (hc : ∀ j u, (ls.map S)[j]? = some u → w.cell? ⟨b, off + j, none⟩ = some u) :
    ∀ j, j < (ls.map str).length → w.cell? ⟨b, off + j, none⟩ = some (.string ((ls.map str).getD j ByteArray.empty)) := by
  intro j hj
  have hj' : j < ls.length := by simpa using hj
  rw [hc j (S ls[j]) (by simp [hj'])]
  simp [S, str, hj']
end Go.Proofs.YtkifihcficobnaaDoor
