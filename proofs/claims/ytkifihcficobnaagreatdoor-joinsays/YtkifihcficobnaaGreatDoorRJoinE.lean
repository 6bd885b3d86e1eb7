/- What the library's ParseInt and FormatInt do; the first loop of the reference's Joined, plainly. What the merging of the reference's Joined stands on: no walk. -/
import Derived.Test.YtkifihcficobnaaGreatDoorFnsE
import Derived.Test.YtkifihcficobnaaGreatDoorRefJoin1
import Derived.Test.YtkifihcficobnaaGreatDoorOfF
import Derived.Test.YtkifihcficobnaaGreatDoorDevJoin9
import Derived.Test.YtkifihcficobnaaGreatDoorPlainF
import Derived.Maps.AppendAt
import Derived.Test.YtkifihcficobnaaGreatDoorMadeG
import Derived.Lib.ParseIntBTie
import Derived.Lib.QuietBelow
namespace Go.Proofs.YtkifihcficobnaaGreatDoor
open Go.RowKit Go.Gs
set_option linter.unusedVariables false

theorem parse_ok (s : ByteArray) (n : Int) (w : World) (hs : s.size ≤ 281474976710656) (h : Lib.atoiAll s.data.toList = .ok n) :
    Calls Tryz.prog 68 #[.string s, .int .i64 10, .int .i64 64] w fun e w' => e = .returned (.tuple #[.int .i64 n, .nilIface]) ∧ Below w.heap.size w w' := by
  refine (Tryz.strconv_ParseInt_10_at64_ok s (by omega) n (by rw [Lib.parseIntB_64]; exact h) w).mono ?_
  rintro e w' ⟨rfl, hw⟩
  exact ⟨rfl, bytes_below hw⟩
theorem parse_bad (s : ByteArray) (w : World) (hs : s.size ≤ 281474976710656) (hE : KnownE w) (h : ∀ n, Lib.atoiAll s.data.toList ≠ .ok n) :
    Calls Tryz.prog 68 #[.string s, .int .i64 10, .int .i64 64] w fun e w' => ∃ z t p, e = .returned (.tuple #[.int .i64 z, .iface t p]) ∧ Below w.heap.size w w' := by
  cases hc : Lib.atoiAll s.data.toList with
  | ok n => exact absurd hc (h n)
  | «syntax» =>
    obtain ⟨ev, h1, h2⟩ := hE.2.1
    refine (Tryz.strconv_ParseInt_10_at64_syntax s hs (by rw [Lib.parseIntB_64]; exact hc) ev w h1 h2).mono ?_
    rintro e w' ⟨N, rfl, _, _, hb⟩
    exact ⟨_, _, _, rfl, hb⟩
  | range =>
    obtain ⟨ev, h1, h2⟩ := hE.2.2
    refine (Tryz.strconv_ParseInt_10_at64_range s hs (by rw [Lib.parseIntB_64]; exact hc) ev w h1 h2).mono ?_
    rintro e w' ⟨N, rfl, _, _, hb⟩
    exact ⟨_, _, _, rfl, hb⟩
theorem format_is (n : Int) (w : World) (h0 : -9223372036854775808 ≤ n) (h1 : n ≤ 9223372036854775807) (hK : Known w) :
    Calls Tryz.prog 69 #[.int .i64 n, .int .i64 10] w fun e w' => ∃ tx : ByteArray, e = .returned (.string tx) ∧ Value.string tx = S (Lib.itoa n) ∧ Below w.heap.size w w' := by
  refine (Tryz.strconv_FormatInt_10 n h0 h1 w hK.2).mono ?_
  rintro e w1 ⟨rfl, q, os, hw1⟩
  exact ⟨_, rfl, rfl, by rw [hw1]; exact below_grow' _ _ (Nat.le_refl _)⟩

theorem lines_shortG {b s : List UInt8} {n : Nat} (h : s ∈ lines b) (hb : b.length ≤ n) : s.length ≤ n := by
  have h1 := line_len h
  have h2 := ended_lines b
  omega
def linesTo (bss : List (List UInt8)) (k : Nat) : List (List UInt8) := ((bss.take k).map lines).flatten
def sumTo (bss : List (List UInt8)) (k : Nat) : Nat := sumOf ((bss.take k).map lines)
theorem linesTo_step {bss : List (List UInt8)} {k : Nat} {p : List UInt8} (h : bss[k]? = some p) : linesTo bss (k + 1) = linesTo bss k ++ lines p := by
  unfold linesTo
  rw [List.take_add_one, h]
  simp
theorem sumTo_step {bss : List (List UInt8)} {k : Nat} {p : List UInt8} (h : bss[k]? = some p) : sumTo bss (k + 1) = sumTo bss k + headNum (lines p) := by
  unfold sumTo
  rw [List.take_add_one, h]
  simp [sumOf]
theorem linesTo_len (bss : List (List UInt8)) (k : Nat) : (linesTo bss k).length ≤ bss.flatten.length := by
  unfold linesTo
  exact Nat.le_trans (flat_lines_count _) (flat_le bss k)
theorem sumTo_le (bss : List (List UInt8)) (k : Nat) : sumTo bss k ≤ 4000 * k := by
  unfold sumTo
  have h1 := sumOf_le ((bss.take k).map lines)
  have h2 : ((bss.take k).map lines).length ≤ k := by simp; omega
  exact Nat.le_trans h1 (Nat.mul_le_mul_left _ h2)
/-- What the first loop of Joined stands on. -/
def J1 (w W0 wr : World) (bss : List (List UInt8)) (k : Nat) (v7 : Value) : Prop :=
  wr.ownsRow (w.heap.size + 1) 9 1 v7 (linesTo bss k).length ((linesTo bss k).map S) ∧ Below (w.heap.size + 1) W0 wr
theorem J1.more {w W0 wr w1 w2 : World} {bss : List (List UInt8)} {k L : Nat} {v7 v7' : Value} {p : List UInt8} (h : J1 w W0 wr bss k v7) (hp : bss[k]? = some p) (hb : Below wr.heap.size wr w1) (hL : L = (lines p).length) (hs : w.heap.size + 1 ≤ wr.heap.size)
    (hown : w2.ownsRow (w.heap.size + 1) 9 1 v7' ((linesTo bss k).length + L) ((linesTo bss k).map S ++ (lines p).map S)) (hg : w1.grownBy w2 v7.ownBlock) : J1 w W0 w2 bss (k + 1) v7' := by
  refine ⟨?_, ?_⟩
  · rw [linesTo_step hp, List.length_append, List.map_append, ← hL]; exact hown
  · have h1 : Below (w.heap.size + 1) W0 w1 := h.2.trans (hb.mono hs)
    exact h1.grown hg (Nat.le_trans hs hb.size) (fun k hk => (h.1.lt k hk).1)
theorem J1.below {w W0 wr w1 : World} {bss : List (List UInt8)} {k : Nat} {v7 : Value} (h : J1 w W0 wr bss k v7) (hb : Below wr.heap.size wr w1) (hs : w.heap.size + 1 ≤ wr.heap.size) : J1 w W0 w1 bss k v7 :=
  ⟨owns_below h.1 hb, h.2.trans (hb.mono hs)⟩
theorem format_val (z : Int) (w : World) (h0 : -9223372036854775808 ≤ z) (h1 : z ≤ 9223372036854775807) (hK : Known w) :
    Calls Tryz.prog 69 #[.int .i64 z, .int .i64 10] w fun e w' => e = .returned (.string ⟨(Lib.itoa z).toArray⟩) ∧ Below w.heap.size w w' := by
  refine (Tryz.strconv_FormatInt_10 z h0 h1 w hK.2).mono ?_
  rintro e w1 ⟨rfl, q, os, hw1⟩
  exact ⟨rfl, by rw [hw1]; exact below_grow' _ _ (Nat.le_refl _)⟩
end Go.Proofs.YtkifihcficobnaaGreatDoor
namespace Go.Proofs.YtkifihcficobnaaGreatDoor
open Go.RowKit Go.Gs
set_option linter.unusedVariables false

def I (a : Nat) : Value := .int .i64 (a : Int)
def sliceLen : Value → Nat
  | .slice _ n _ => n
  | _ => 0
theorem sliceLen_owns {w : World} {B : Nat} {e : TypeId} {v : Value} {n : Nat} {xs : List Value} (h : w.ownsRow B e 1 v n xs) : sliceLen v = n := by
  rcases h.2 with ⟨rfl, h0⟩ | ⟨g, cap, cur, rfl, _⟩
  · rw [h0]; rfl
  · rfl
theorem infoInt : (Tryz.prog.info? 3).map (fun i => (i.zero, i.size, i.bytes)) = some (some (.int .i64 0), 1, 8) := by kernel_rfl

/-- What is left of the parts. -/
def curOf (ps : List (List (List UInt8))) (ats : List Nat) : List (List (List UInt8)) := List.zipWith (fun p a => p.drop a) ps ats
theorem curOf_zero (ps : List (List (List UInt8))) : curOf ps (List.replicate ps.length 0) = ps := by
  unfold curOf
  induction ps with
  | nil => rfl
  | cons p ps ih => simp [List.replicate_succ, ih]
theorem curOf_get {ps : List (List (List UInt8))} {ats : List Nat} {j a : Nat} {p : List (List UInt8)} (hp : ps[j]? = some p) (ha : ats[j]? = some a) : (curOf ps ats)[j]? = some (p.drop a) := by
  unfold curOf
  rw [List.getElem?_zipWith, hp, ha]
theorem curOf_step {ps : List (List (List UInt8))} {ats : List Nat} {b a : Nat} {p : List (List UInt8)} (hp : ps[b]? = some p) (ha : ats[b]? = some a) : curOf ps (ats.set b (a + 1)) = (curOf ps ats).modify b (List.drop 1) := by
  apply List.ext_getElem?
  intro j
  rw [List.getElem?_modify]
  by_cases hj : b = j
  · subst hj
    have h1 : (ats.set b (a + 1))[b]? = some (a + 1) := List.getElem?_set_self (List.getElem?_eq_some_iff.1 ha).1
    rw [curOf_get hp h1, curOf_get hp ha]
    simp
  · unfold curOf
    rw [List.getElem?_zipWith, List.getElem?_zipWith, List.getElem?_set_ne hj]
    simp [hj]
theorem head_at {p : List (List UInt8)} {a : Nat} (h : a < p.length) : (p.drop a).head? = some p[a] := by
  rw [List.head?_drop]
  exact List.getElem?_eq_getElem h

theorem leastTo_skip {cur : List (List (List UInt8))} {j : Nat} (h : cur[j]? = some []) : leastTo cur (j + 1) = leastTo cur j := leastTo_nil h
def firstOf : Option (Nat × List UInt8) → List UInt8
  | none => []
  | some (_, t) => t

/-- What the merging loop stands on. -/
def MJ (w W0 wr : World) (ps : List (List (List UInt8))) (T GA : Nat) (D : List (List UInt8)) (ats : List Nat) (v7 : Value) : Prop :=
  ats.length = ps.length ∧ wr.heap[GA]? = some (.cells (ats.map I).toArray 3 (0, 0)) ∧ w.heap.size + 1 ≤ GA ∧
  wr.ownsRow (w.heap.size + 1) 9 1 v7 D.length (D.map S) ∧ v7.ownBlock ≠ some GA ∧ Below (w.heap.size + 1) W0 wr ∧
  D.length + (curOf ps ats).flatten.length = T ∧ D ++ mergeN (curOf ps ats).flatten.length (curOf ps ats) = mergeN T ps
theorem MJ.below {w W0 wr w1 : World} {ps : List (List (List UInt8))} {T GA : Nat} {D : List (List UInt8)} {ats : List Nat} {v7 : Value} (h : MJ w W0 wr ps T GA D ats v7) (hb : Below wr.heap.size wr w1) (hs : w.heap.size + 1 ≤ wr.heap.size) : MJ w W0 w1 ps T GA D ats v7 := by
  obtain ⟨h1, h2, h3, h4, h5, h6, h7, h8⟩ := h
  refine ⟨h1, ?_, h3, owns_below h4 hb, h5, h6.trans (hb.mono hs), h7, h8⟩
  have hlt : GA < wr.heap.size := by
    rcases Nat.lt_or_ge GA wr.heap.size with h | h
    · exact h
    · rw [Array.getElem?_eq_none h] at h2; cases h2
  rw [hb.block GA hlt]; exact h2
theorem MJ.cell {w W0 wr : World} {ps : List (List (List UInt8))} {T GA j a : Nat} {D : List (List UInt8)} {ats : List Nat} {v7 : Value} (h : MJ w W0 wr ps T GA D ats v7) (ha : ats[j]? = some a) : wr.cell? ⟨GA, j, none⟩ = some (.int .i64 (a : Int)) ∧ wr.frozen? ⟨GA, j, none⟩ = false := by
  obtain ⟨h1, h2, _⟩ := h
  refine ⟨?_, frozen_of_row _ _ _ _ _ h2⟩
  rw [cell_of_row _ _ _ _ _ _ h2]
  simp [ha, I]
/-- One line more. -/
theorem MJ.step {w W0 wr w2 : World} {ps : List (List (List UInt8))} {T GA b a : Nat} {D : List (List UInt8)} {ats : List Nat} {v7 v7' : Value} {x : List UInt8} {sx : ByteArray} {o : Obj} (h : MJ w W0 wr ps T GA D ats v7) (hl : least (curOf ps ats) = some (b, x)) (ha : ats[b]? = some a) (hx : Value.string sx = S x) (hs : w.heap.size + 1 ≤ wr.heap.size)
    (hown : w2.ownsRow (w.heap.size + 1) 9 1 v7' (D.length + 1) (D.map S ++ [.string sx])) (hg : ((wr.setCell ⟨GA, b, none⟩ (.int .i64 ((a : Int) + 1))).alloc o).grownBy w2 v7.ownBlock) (hat : v7'.ownBlock = v7.ownBlock ∨ v7'.ownBlock = some (wr.heap.size + 1)) : MJ w W0 w2 ps T GA (D ++ [x]) (ats.set b (a + 1)) v7' := by
  obtain ⟨h1, h2, h3, h4, h5, h6, h7, h8⟩ := h
  have hlt : GA < wr.heap.size := by
    rcases Nat.lt_or_ge GA wr.heap.size with h | h
    · exact h
    · rw [Array.getElem?_eq_none h] at h2; cases h2
  have hbl : b < ps.length := by rw [← h1]; exact (List.getElem?_eq_some_iff.1 ha).1
  have hpb : ps[b]? = some ps[b] := List.getElem?_eq_getElem hbl
  obtain ⟨r, hr, _⟩ := least_some hl
  have hml := modify_length hr
  have hcs := curOf_step hpb ha
  have hIa : (.int .i64 ((a : Int) + 1) : Value) = I (a + 1) := by unfold I; congr 1
  rw [hIa] at hg
  have hsz : ((wr.setCell ⟨GA, b, none⟩ (I (a + 1))).alloc o).heap.size = wr.heap.size + 1 := by simp
  refine ⟨by simp [h1], ?_, h3, ?_, ?_, ?_, ?_, ?_⟩
  · rw [hg.block GA (by rw [hsz]; omega) (fun e => h5 e.symm), Below.heap_alloc _ _ _ (by simp; omega), heap_setCell_same _ _ _ _ _ _ h2]
    simp
  · rw [hx] at hown
    simpa using hown
  · rcases hat with e | e
    · rw [e]; exact h5
    · rw [e]; intro e'; injection e' with e'; omega
  · have hb1 : Below (w.heap.size + 1) W0 (wr.setCell ⟨GA, b, none⟩ (I (a + 1))) := h6.setCell h3 _
    exact (hb1.alloc (by simp; omega) o).grown hg (by rw [hsz]; omega) (fun k hk => (h4.lt k hk).1)
  · rw [hcs, List.length_append, List.length_singleton]; omega
  · rw [hcs, ← h8, hml, merge_step hl]
    simp
end Go.Proofs.YtkifihcficobnaaGreatDoor
