/- The builder that Print writes into; strings.Join at words. -/
import Derived.Test.YtdfnnhcooliheaaDoorDevScript9
import Derived.Test.YtdfnnhcooliheaaDoorDevScript2
import Derived.Shelf.Strings.BuilderK
import Derived.Shelf.Strings.OnBuilder
namespace Go.Proofs.YtdfnnhcooliheaaDoor
open Go.RowKit Go.Gs Go.Shelf
set_option linter.unusedVariables false

theorem write_any (B b : Nat) (bs : List Value) (s : ByteArray) (w : World) (h : Lib.IsBuilderF 75 5 B b bs w) (hlen : bs.length + s.size ≤ 140737488355328) (hBw : B ≤ w.heap.size) :
    Calls Tryd.prog 45 #[.pointer (some ⟨b, 0, none⟩), .string s] w fun e w' => e = .returned (.tuple #[.int .i64 s.size, .nilIface]) ∧ (Lib.BuilderAtF 75 5 B b (.pointer (some ⟨b, 0, none⟩)) (bs ++ Lib.strCells s) w' ∧ Below B w w' ∧ Lib.OthersKept 5 (some b) w w') :=
  Any.Builder_WriteString_k (P := Tryd.prog) (ρ := Tryd.lays156_ren) { Tryd.lays156 with } Tryd.Builder_Extra_156 B b bs s w h hlen hBw

/-- The builder in block b, laid when the heap ended there. -/
structure PB (w wr : World) (acc : List UInt8) : Prop where
  bld : Lib.IsBuilderF 75 5 w.heap.size w.heap.size (Lib.byteCells acc) wr
  bel : Below w.heap.size w wr
theorem builderF_below {T e : TypeId} {B b : Nat} {bs : List Value} {w w' : World} (h : Lib.IsBuilderF T e B b bs w) (hb : Below w.heap.size w w') : Lib.IsBuilderF T e B b bs w' := by
  have key : ∀ p, Lib.BuilderAtF T e B b p bs w → Lib.BuilderAtF T e B b p bs w' := by
    intro p h
    have hlt := h.lt
    obtain ⟨hB, v, hv, hown, hne⟩ := h
    exact ⟨hB, v, (hb.block b hlt).trans hv, hown.kept (row := none) ⟨hb.os, hb.tape, hb.output, hb.size, fun k hk _ => hb.block k hk⟩ (by cases hv : v.ownBlock <;> simp), hne⟩
  exact h.elim (fun x => .inl (key _ x)) (fun x => .inr (key _ x))
theorem PB.below {w wr w' : World} {acc : List UInt8} (h : PB w wr acc) (hb : Below wr.heap.size wr w') : PB w w' acc := ⟨builderF_below h.bld hb, h.bel.trans (hb.mono h.bel.size)⟩
theorem PB.start (w : World) : PB w (w.alloc (.cells #[.pointer none, .slice none 0 0] 75)) [] := ⟨Lib.IsBuilderF.of (Lib.fresh_isBuilder _ _ w), box_of⟩
theorem swrite_is {w wr : World} {acc : List UInt8} (h : PB w wr acc) (s : ByteArray) (hl : acc.length + s.size ≤ 1000000) :
    Calls Tryd.prog 45 #[.pointer (some ⟨w.heap.size, 0, none⟩), .string s] wr fun e w' => e = .returned (.tuple #[.int .i64 s.size, .nilIface]) ∧ PB w w' (acc ++ s.data.toList) ∧ (∀ k o, wr.heap[k]? = some o → k ≠ w.heap.size → (∀ c fz, o ≠ .cells c 5 fz) → w'.heap[k]? = some o) := by
  refine (write_any w.heap.size w.heap.size (Lib.byteCells acc) s wr h.bld (by simp [Lib.byteCells]; omega) h.bel.size).mono ?_
  rintro e w' ⟨rfl, hb, hbel, hk⟩
  refine ⟨rfl, ⟨?_, h.bel.trans hbel⟩, fun k o h1 h2 h3 => hk k o h1 (by intro e; injection e with e; exact h2 e) h3⟩
  rw [Lib.byteCells_append]
  exact .inr hb
theorem sstring_is {w wr : World} {acc : List UInt8} (h : PB w wr acc) :
    Calls Tryd.prog 47 #[.pointer (some ⟨w.heap.size, 0, none⟩)] wr fun e w' => e = .returned (.string ⟨acc.toArray⟩) ∧ Below w.heap.size w w' := by
  refine (Tryd.Builder_String_any_k w.heap.size w.heap.size acc wr h.bld h.bel.size).mono ?_
  rintro e w' ⟨rfl, _, hbel, _⟩
  exact ⟨rfl, h.bel.trans hbel⟩

theorem join_len {fr : List (List UInt8)} (h : fr.all isWord = true) (h4 : fr.length ≤ 4) : (Lib.join fr [32]).length ≤ 100 := by
  have hw : ∀ s ∈ fr, s.length ≤ 12 := fun s hs => by
    have := List.all_eq_true.1 h s hs
    unfold isWord at this
    simp only [Bool.and_eq_true, decide_eq_true_eq] at this
    exact this.1.2
  have key : ∀ fr : List (List UInt8), (∀ s ∈ fr, s.length ≤ 12) → (Lib.join fr [32]).length ≤ 13 * fr.length := by
    intro fr
    induction fr with
    | nil => intro _; simp [Lib.join_nil]
    | cons x r ih =>
      intro hh
      have h1 := hh x (by simp)
      have h2 := ih (fun s hs => hh s (by simp [hs]))
      cases r with
      | nil => rw [Lib.join_one]; simp; omega
      | cons y r => rw [join_two]; simp at h2 ⊢; omega
  have := key fr hw
  omega
theorem sjoin_is {fr : List (List UInt8)} (af : Option Addr) (cf : Nat) (w : World) (h : Reads w (.slice af fr.length cf) fr.length (fr.map S)) (h1 : 1 ≤ fr.length) (h4 : fr.length ≤ 4) (hw : fr.all isWord = true) :
    Calls Tryd.prog 33 #[.slice af fr.length cf, .string ⟨#[32]⟩] w fun e w' => e = .returned (.string ⟨(Lib.join fr [32]).toArray⟩) ∧ Below w.heap.size w w' := by
  have hjl := join_len hw h4
  obtain ⟨_, ao, cap, e, hcap, hm, hc⟩ := h
  injection e with e1 e2 e3
  subst e1 e3
  obtain ⟨b, off, rfl, hcc⟩ := hc (by omega)
  have hxs : (fr.map (fun s => (⟨s.toArray⟩ : ByteArray))).map (·.data.toList) = fr := by
    rw [List.map_map]
    conv => rhs; rw [← List.map_id fr]
    rfl
  have hcells : ∀ (j : Nat) x, (fr.map (fun s => (⟨s.toArray⟩ : ByteArray)))[j]? = some x → w.cell? ⟨b, off + j, none⟩ = some (.string x) := by
    intro j x hj
    refine hcc j (.string x) ?_
    rw [List.getElem?_map] at hj ⊢
    cases hf : fr[j]? with
    | none => rw [hf] at hj; cases hj
    | some s =>
      rw [hf] at hj
      simp only [Option.map_some, Option.some.injEq] at hj
      rw [← hj]
      rfl
  have hbk : b < w.heap.size := World.block_lt_of_cell? w _ (hcells 0 ⟨(fr[0]'(by omega)).toArray⟩ (by rw [List.getElem?_map, List.getElem?_eq_getElem (by omega)]; rfl))
  have hj := Tryd.strings_Join b off cf (fr.map (fun s => (⟨s.toArray⟩ : ByteArray))) ⟨#[32]⟩ w hcells hbk (by rw [List.length_map]; omega) (by rw [List.length_map]; exact hcap) (by rw [hxs]; show (Lib.join fr [32]).length ≤ _; omega)
  rw [List.length_map, hxs] at hj
  exact hj
end Go.Proofs.YtdfnnhcooliheaaDoor
