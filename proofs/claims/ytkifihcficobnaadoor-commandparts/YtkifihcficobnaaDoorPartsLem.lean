/- What the sentence on a command's parts leans on. -/
import Derived.Test.YtkifihcficobnaaDoorDid
import Derived.Test.YtkifihcficobnaaDoorSmall
import Derived.Test.YtkifihcficobnaaDoorConcatS
import Derived.Test.YtkifihcficobnaaDoorEqual
import Derived.Test.YtkifihcficobnaaDoorAt
import Derived.Test.YtkifihcficobnaaDoorShelf4
namespace Go.Proofs.YtkifihcficobnaaDoor
open Go.RowKit Go.Gs
set_option linter.unusedVariables false

theorem pdo (c : Cmd) (hc : chk c = 0) (hw : c.word.length ≤ 9223372036854775807) {w : World} {v : Value} {bs : List UInt8} (h : Reads w v bs.length (bs.map U)) (hK : Known w) (hl : bs.length ≤ 4000) :
    Calls Tryd.prog 17 #[.agg #[.int .i64 c.kind, .string ⟨c.word.toArray⟩, .int .i64 c.n], v] w fun e w' => ∃ o cp N, e = .returned (.tuple #[.slice o N cp, .int .i64 0]) ∧ Hid (Reads w' (.slice o N cp) (doOut c bs).length ((doOut c bs).map U)) ∧ Below w.heap.size w w' := by
  refine (do_ok c v bs w hw hc h hl hK).mono ?_
  rintro e w' ⟨r, rfl, h1, h2⟩
  have h3 := Reads.of_owns h1
  obtain ⟨_, o, cp, rfl, _⟩ := id h3
  exact ⟨o, cp, _, rfl, h3, h2⟩

theorem pdo_err (c : Cmd) (hw : c.word.length ≤ 9223372036854775807) {w : World} {v : Value} {bs : List UInt8} (h : Reads w v bs.length (bs.map U)) (hK : Known w) (r : Int) (hr : doErr c bs = r) (hr0 : r ≠ 0) :
    Calls Tryd.prog 17 #[.agg #[.int .i64 c.kind, .string ⟨c.word.toArray⟩, .int .i64 c.n], v] w fun e w' => e = .returned (.tuple #[.slice none 0 0, .int .i64 r]) ∧ Below w.heap.size w w' := by
  refine (do_is c v bs w hw h hK).mono ?_
  rintro e w' ⟨r', rfl, h1, _, h2⟩
  rw [hr] at h1 ⊢
  rw [h1 hr0]
  exact ⟨rfl, h2⟩

set_option maxRecDepth 100000 in
set_option maxHeartbeats 1000000 in
theorem pof {w : World} {o : Option Addr} {N cp : Nat} {bs : List UInt8} (h : Reads w (.slice o N cp) bs.length (bs.map U)) (hl : bs.length ≤ 4000) (ls : List (List UInt8)) (hls : lines bs = ls) (M : Nat) (hM : ls.length = M) :
    Calls Tryd.prog 20 #[.slice o N cp] w fun e w' => ∃ o cp, e = .returned (.slice o M cp) ∧ Hid (w'.ownsRow w.heap.size 9 1 (.slice o M cp) ls.length (ls.map S)) ∧ Below w.heap.size w w' := by
  subst hls
  subst hM
  have HR : Hid (Reads w (.slice o N cp) bs.length (bs.map U)) := h
  clear h
  go_enter Tryd.func20, Tryd.ntmps20
  go_wp2_with fail
  refine (of_reads _ bs w HR.out hl).mono ?_
  rintro e w1 ⟨l, rfl, hown, hb⟩
  have h3 := Reads.of_owns hown
  obtain ⟨_, o1, cp1, rfl, _⟩ := id h3
  have HO : Hid _ := hown
  have HB : Hid _ := hb
  clear hown hb h3
  go_wp2_with fail
  go_ret
  exact ⟨_, _, rfl, HO.out, HB.out⟩

theorem psmall {w : World} {vb : Value} {b : List UInt8} (h : Reads w vb b.length (b.map U)) (hb : b.length ≤ 1000000000000000) :
    Calls Tryd.prog 19 #[.slice (some ⟨w.heap.size, 0, none⟩) 1 1] (w.alloc (.cells #[vb] 22)) fun e w' => e = .returned (.bool (decide (b.length ≤ 2000))) ∧ Below w.heap.size w w' := by
  have hl : Lists (w.alloc (.cells #[vb] 22)) w.heap.size U [b] := by
    intro j p hj
    match j, hj with
    | 0, hj =>
      cases hj
      refine ⟨vb, ?_, h.below box_of⟩
      rw [cell_of_row _ _ _ _ _ _ (heap_alloc_new w _)]
      rfl
  have hs := small_is w.heap.size [b] (w.alloc (.cells #[vb] 22)) hl (by simp) (by
    intro p hp
    simp only [List.mem_cons, List.not_mem_nil, or_false] at hp
    subst hp
    exact hb)
  refine hs.mono ?_
  rintro e w' ⟨rfl, rfl⟩
  exact ⟨by simp, box_of⟩

theorem pcat {w : World} {o1 o2 : Option Addr} {n1 n2 c1 c2 : Nat} {x y z : List (List UInt8)} (h1 : Reads w (.slice o1 n1 c1) x.length (x.map S)) (h2 : Reads w (.slice o2 n2 c2) y.length (y.map S)) (hz : x ++ y = z) (hl : z.length ≤ 4000) (M : Nat) (hM : z.length = M) :
    Calls Tryd.prog 21 #[.slice (some ⟨w.heap.size, 0, none⟩) 2 2] (w.alloc (.cells #[.slice o1 n1 c1, .slice o2 n2 c2] 23)) fun e w' => ∃ o cp, e = .returned (.slice o M cp) ∧ Hid (w'.ownsRow w.heap.size 9 1 (.slice o M cp) z.length (z.map S)) ∧ Below w.heap.size w w' := by
  subst hM
  have hb : Below w.heap.size w (w.alloc (.cells #[.slice o1 n1 c1, .slice o2 n2 c2] 23)) := box_of
  have hn : Lists (w.alloc (.cells #[.slice o1 n1 c1, .slice o2 n2 c2] 23)) w.heap.size S [x, y] := by
    intro j p hj
    match j, hj with
    | 0, hj => cases hj; exact ⟨_, by rw [cell_of_row _ _ _ _ _ _ (heap_alloc_new w _)]; rfl, h1.below hb⟩
    | 1, hj => cases hj; exact ⟨_, by rw [cell_of_row _ _ _ _ _ _ (heap_alloc_new w _)]; rfl, h2.below hb⟩
  have hC := concat_strs w.heap.size [x, y] _ hn (by simp) (by simp only [List.flatten_cons, List.flatten_nil, List.append_nil, hz]; omega)
  have e1 : [x, y].flatten = z := by simp [hz]
  rw [e1] at hC
  refine hC.mono ?_
  rintro e w' ⟨r, rfl, h3, h4⟩
  have h3' := Reads.of_owns h3
  obtain ⟨_, o2, cp2, rfl, _⟩ := id h3'
  exact ⟨o2, cp2, rfl, owns_mono h3 (by simp), hb.trans (h4.mono (by simp))⟩

theorem psort {w w0 : World} {o : Option Addr} {N cp : Nat} {ls : List (List UInt8)} (hown : w.ownsRow w0.heap.size 9 1 (.slice o N cp) ls.length (ls.map S)) (hl : ls.length ≤ 4000) (hB : Below w0.heap.size w0 w) :
    Calls Tryd.prog 22 #[.slice o N cp] w fun e w' => e = .returned (.tuple #[]) ∧ Hid (Reads w' (.slice o N cp) (sortOf ls).length ((sortOf ls).map S)) ∧ Hid (Below w0.heap.size w0 w') := by
  refine (sort_own _ ls w w0.heap.size hB.size hown (by omega)).mono ?_
  rintro e w' ⟨rfl, h1, h2⟩
  exact ⟨rfl, Reads.of_owns h1, hB.trans h2⟩

theorem pequal {w : World} {u v : Value} {x y : List (List UInt8)} (he : x = y) (h1 : Reads w u x.length (x.map S)) (h2 : Reads w v y.length (y.map S)) :
    Calls Tryd.prog 13 #[u, v] w fun e w' => e = .returned (.bool true) ∧ Below w.heap.size w w' := by
  subst he
  refine (equal_str u v x x w h1 h2).mono ?_
  rintro e w' ⟨rfl, q, rfl⟩
  exact ⟨by simp, below_drewN' (Below.refl _ _) q⟩

theorem down_sorted (ls : List (List UInt8)) (h : ls.Pairwise (fun x y => x ≤ y)) (d : Array ByteArray) (hd : d = (ls.map (fun l => (⟨l.toArray⟩ : ByteArray))).toArray) : Lib.downOK (fun x y : ByteArray => decide (x.data.toList < y.data.toList)) d (d.size - 1) = true := by
  subst hd
  rw [Lib.downOK_iff]
  intro i hi
  have hi' : i + 1 < ls.length := by simp at hi; omega
  have hp := List.pairwise_iff_getElem.1 h i (i + 1) (by omega) hi' (by omega)
  have e1 : ((ls.map (fun l => (⟨l.toArray⟩ : ByteArray))).toArray)[i + 1]! = ⟨(ls[i + 1]).toArray⟩ := by
    rw [getElem!_pos _ _ (by simp; omega)]
    simp
  have e2 : ((ls.map (fun l => (⟨l.toArray⟩ : ByteArray))).toArray)[i]! = ⟨(ls[i]).toArray⟩ := by
    rw [getElem!_pos _ _ (by simp; omega)]
    simp
  rw [e1, e2]
  apply decide_eq_false
  show ¬ (ls[i + 1] < ls[i])
  exact List.not_lt.2 hp

theorem psorted {w : World} {u : Value} {ls : List (List UInt8)} (h1 : Reads w u ls.length (ls.map S)) (hs : ls.Pairwise (fun x y => x ≤ y)) (hl : ls.length ≤ 4000) :
    Calls Tryd.prog 23 #[u] w fun e w' => e = .returned (.bool true) ∧ Below w.heap.size w w' := by
  obtain ⟨_, a1, c1, rfl, p1, p2, p3⟩ := h1
  by_cases h0 : ls.length = 0
  · have h := AnyO.slices_IsSorted_string_none Tryd.laysSorted a1 c1 w
    change Calls Tryd.prog 23 _ _ _ at h
    rw [h0]
    refine h.mono ?_
    rintro e w' ⟨rfl, rfl⟩
    exact ⟨rfl, Below.refl _ _⟩
  · obtain ⟨b, off, rfl, hc⟩ := p3 h0
    have h := AnyO.slices_IsSorted_string Tryd.laysSorted b off c1 (ls.map (fun l => (⟨l.toArray⟩ : ByteArray))).toArray w (by
      intro i hi
      have hi' : i < ls.length := by simpa using hi
      rw [hc i (S ls[i]) (by simp [hi'])]
      rw [getElem!_pos (ls.map (fun l => (⟨l.toArray⟩ : ByteArray))).toArray i hi]
      simp [S]) (by simp; omega)
    change Calls Tryd.prog 23 _ _ _ at h
    rw [down_sorted ls hs _ rfl] at h
    simp only [List.size_toArray, List.length_map] at h
    refine h.mono ?_
    rintro e w' ⟨rfl, q, rfl⟩
    exact ⟨rfl, below_drewN' (Below.refl _ _) q⟩

theorem pcompact {w : World} {w0 : World} {o : Option Addr} {N cp : Nat} {ls : List (List UInt8)} (M : Nat) (hM : (Lib.compact ls).length = M) (hown : w.ownsRow w0.heap.size 9 1 (.slice o N cp) ls.length (ls.map S)) (hl : ls.length ≤ 4000) (hB : Below w0.heap.size w0 w) :
    Calls Tryd.prog 25 #[.slice o N cp] w fun e w' => ∃ o cp, e = .returned (.slice o M cp) ∧ Hid (Below w0.heap.size w0 w') := by
  subst hM
  refine (compact_own _ ls w w0.heap.size hown (by omega)).mono ?_
  rintro e w' ⟨r, rfl, h1, h2⟩
  obtain ⟨_, o2, cp2, rfl, _⟩ := Reads.of_owns h1
  exact ⟨o2, cp2, rfl, hB.trans h2⟩

/-! ### What the parts are, plainly -/

theorem chk_drop (word : List UInt8) : chk ⟨2, word, 0⟩ = chk ⟨1, word, 0⟩ := by
  unfold chk
  simp [uses]
theorem lines_keep (word b : List UInt8) : lines (doOut ⟨1, word, 0⟩ b) = (lines b).filter (fun s => Lib.contains s word) := by
  unfold doOut
  rw [made1 _ rfl, lines_ended _ (noFeed_sub List.filter_sublist (lines_noFeed b))]
theorem lines_drop (word b : List UInt8) : lines (doOut ⟨2, word, 0⟩ b) = (lines b).filter (fun s => !Lib.contains s word) := by
  unfold doOut
  rw [made2 _ rfl, lines_ended _ (noFeed_sub List.filter_sublist (lines_noFeed b))]
theorem lines_sort (b : List UInt8) : lines (doOut ⟨6, [], 0⟩ b) = sortOf (lines b) := by
  unfold doOut
  rw [made6 _ rfl, lines_ended _ (fun s hs => lines_noFeed b s ((sortOf_perm _).mem_iff.1 hs))]
theorem lines_head (n : Int) (b : List UInt8) : lines (doOut ⟨9, [], n⟩ b) = (lines b).take n.toNat := by
  unfold doOut
  rw [made9 _ rfl, lines_ended _ (noFeed_sub (List.take_sublist _ _) (lines_noFeed b))]
theorem lines_tail (n : Int) (b : List UInt8) : lines (doOut ⟨10, [], n⟩ b) = (lines b).drop ((lines b).length - n.toNat) := by
  unfold doOut
  rw [made10 _ rfl, lines_ended _ (noFeed_sub (List.drop_sublist _ _) (lines_noFeed b))]
theorem lines_once (b : List UInt8) : lines (doOut ⟨7, [], 0⟩ (doOut ⟨6, [], 0⟩ b)) = Lib.compact (sortOf (lines b)) := by
  rw [show doOut ⟨7, [], 0⟩ (doOut ⟨6, [], 0⟩ b) = ended (made ⟨7, [], 0⟩ (lines (doOut ⟨6, [], 0⟩ b))) from rfl, lines_sort, made7 _ rfl, lines_ended _ (noFeed_sub (compact_sub _) (fun s hs => lines_noFeed b s ((sortOf_perm _).mem_iff.1 hs)))]
end Go.Proofs.YtkifihcficobnaaDoor
