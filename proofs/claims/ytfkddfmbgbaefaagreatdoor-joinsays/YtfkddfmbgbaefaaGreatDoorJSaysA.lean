/- What the reference's IsEach does. What is put out line by line, kind by kind: no walk. What the reference's Made does to lines, whatever the kind. The closed facts that the sentences on joins ask for. What the sentences' small does. What the sentences' small does, of a slice of slices. What the reference's Whole does. The walk of the sentence on the whole: where nothing is done. What the reference's CheckJoin does. A region that draws its order, walked by what every operation keeps. What the reference's HowFor does. What the reference's HowFor does: the walk. The walk of the sentence on joins. What the reference's LinesOf does, and where its answer lies. Slices that are appended to, beside others that must stay. What the library's ParseInt and FormatInt do; the first loop of the reference's Joined, plainly. What the reference's Joined does: Behind. What the reference's Joined does: Sum. What the reference's Joined does: Again. What the merging of the reference's Joined stands on: no walk. What the reference's Joined does: Merge. From the reading of an argument to a slice that can be read. From the reading of bytes to a slice that can be read, and how many they are. From the reading of a slice of slices of bytes to one that can be read, and how many bytes each has. The sentence on joins: its walk, whatever comes in. -/
import Derived.Test.YtfkddfmbgbaefaaGreatDoorCmdPlain
import Derived.Test.YtfkddfmbgbaefaaGreatDoorShelf
import Derived.WalkKit
import Derived.WalkLawsBesides
import Derived.Outline
import Derived.Test.YtfkddfmbgbaefaaGreatDoorCmdMath
import Derived.Test.YtfkddfmbgbaefaaGreatDoorRefMade5
import Derived.Test.YtfkddfmbgbaefaaGreatDoorDevDo
import Derived.Test.YtfkddfmbgbaefaaGreatDoorDevJoin11
import Derived.Lib.SlBytesConst
import Derived.Test.YtfkddfmbgbaefaaGreatDoorLists
import Derived.Test.YtfkddfmbgbaefaaGreatDoorRList
import Derived.Test.YtfkddfmbgbaefaaGreatDoorRefFns3
import Derived.Test.YtfkddfmbgbaefaaGreatDoorByteFns
import Derived.Maps.AppendAt
import Derived.Test.YtfkddfmbgbaefaaGreatDoorDevJoin6
import Derived.Test.YtfkddfmbgbaefaaGreatDoorRefCheck2
import Derived.Test.YtfkddfmbgbaefaaGreatDoorPlain
import Derived.Orders
import Derived.Test.YtfkddfmbgbaefaaGreatDoorJoinPlain
import Derived.Deep.DeepCutAuto
import Derived.Deep.RegionWith
import Derived.Test.YtfkddfmbgbaefaaGreatDoorRefFns2
import Derived.Lib.ParseIntBTie
import Derived.Lib.QuietBelow
import Derived.BigQuiet
import Derived.Deep.QuietTactic
import Derived.ProofKit
import Derived.OpenShut
import Derived.SliceStrings
import Derived.SizedLaws
import Derived.Deep.Slices
namespace Go.Proofs.YtfkddfmbgbaefaaGreatDoor
open Go.RowKit Go.Gs
set_option linter.unusedVariables false

theorem five_is (k : Int) : ([1, 2, 3, 4, 5] : List Int).contains k = isEach k := by
  rw [Bool.eq_iff_iff]
  simp [isEach]
  omega

theorem five_cells (w : World) (o : Obj) (e : TypeId) : ∀ j, j < ([1, 2, 3, 4, 5] : List Int).length → ((w.alloc o).alloc (.cells #[.int .i64 1, .int .i64 2, .int .i64 3, .int .i64 4, .int .i64 5] e)).cell? ⟨w.heap.size + 1, 0 + j, none⟩ = some (.int .i64 (([1, 2, 3, 4, 5] : List Int).getD j 0)) := by
  intro j hj
  have h := heap_alloc_new (w.alloc o) (.cells #[.int .i64 1, .int .i64 2, .int .i64 3, .int .i64 4, .int .i64 5] e)
  have hs : (w.alloc o).heap.size = w.heap.size + 1 := by simp
  rw [hs] at h
  rw [cell_of_row _ _ _ _ _ _ h]
  have hj' : j < 5 := hj
  have : j = 0 ∨ j = 1 ∨ j = 2 ∨ j = 3 ∨ j = 4 := by omega
  rcases this with rfl | rfl | rfl | rfl | rfl <;> rfl

set_option maxRecDepth 100000 in
set_option maxHeartbeats 1000000 in
theorem isEach_ref (c : Cmd) (w : World) :
    Calls Tryz.prog 16 #[c.v] w fun e w' => e = .returned (.bool (isEach c.kind)) ∧ Below w.heap.size w w' := by
  unfold Cmd.v
  go_enter Tryz.func16, Tryz.ntmps16
  go_wp2_with fail
  refine (Tryz.slices_Contains_int _ 0 5 5 [1, 2, 3, 4, 5] c.kind _ (by decide) (by omega) (five_cells w _ _)).mono ?_
  rintro e w1 ⟨rfl, hw1⟩
  have hB : Hid (Below w.heap.size w w1) := by
    show Below _ _ _
    rw [hw1]
    exact ((Below.refl _ w).alloc (Nat.le_refl _) _).alloc (by simp) _
  clear hw1
  rw [show ([1, 2, 3, 4, 5] : List Int).take 5 = [1, 2, 3, 4, 5] from rfl, five_is]
  go_wp2_with fail
  go_ret
  exact ⟨rfl, hB.out⟩
end Go.Proofs.YtfkddfmbgbaefaaGreatDoor
namespace Go.Gs
open Go.RowKit
set_option linter.unusedVariables false

theorem fm_succ (f : Nat → Option (List UInt8)) (k : Nat) : (List.range (k + 1)).filterMap f = (List.range k).filterMap f ++ (f k).toList := by
  rw [List.range_succ, List.filterMap_append]
  cases h : f k <;> simp [h]
theorem tk_succ {α : Type} {ls : List α} {k : Nat} (h : k < ls.length) : ls.take (k + 1) = ls.take k ++ [ls[k]] := by
  rw [List.take_add_one, List.getElem?_eq_getElem h]
  rfl

theorem fm_filter (ls : List (List UInt8)) (p : List UInt8 → Bool) (f : Nat → Option (List UInt8)) (hf : ∀ i s, ls[i]? = some s → f i = if p s = true then some s else none) : (List.range ls.length).filterMap f = ls.filter p := by
  have : ∀ k, k ≤ ls.length → (List.range k).filterMap f = (ls.take k).filter p := by
    intro k
    induction k with
    | zero => intro _; simp
    | succ k ih =>
      intro h
      rw [fm_succ, ih (by omega), tk_succ (by omega), List.filter_append, hf k _ (List.getElem?_eq_getElem (by omega))]
      congr 1
      split <;> simp_all
  have := this _ (Nat.le_refl _)
  rwa [List.take_length] at this
theorem fm_map (ls : List (List UInt8)) (g : List UInt8 → List UInt8) (f : Nat → Option (List UInt8)) (hf : ∀ i s, ls[i]? = some s → f i = some (g s)) : (List.range ls.length).filterMap f = ls.map g := by
  have : ∀ k, k ≤ ls.length → (List.range k).filterMap f = (ls.take k).map g := by
    intro k
    induction k with
    | zero => intro _; simp
    | succ k ih =>
      intro h
      rw [fm_succ, ih (by omega), tk_succ (by omega), List.map_append, hf k _ (List.getElem?_eq_getElem (by omega))]
      simp
  have := this _ (Nat.le_refl _)
  rwa [List.take_length] at this
theorem fm_head (ls : List (List UInt8)) (n : Int) (f : Nat → Option (List UInt8)) (hf : ∀ i s, ls[i]? = some s → f i = if (i : Int) < n then some s else none) : (List.range ls.length).filterMap f = ls.take n.toNat := by
  have : ∀ k, k ≤ ls.length → (List.range k).filterMap f = (ls.take k).take n.toNat := by
    intro k
    induction k with
    | zero => intro _; simp
    | succ k ih =>
      intro h
      rw [fm_succ, ih (by omega), tk_succ (by omega), List.take_append, hf k _ (List.getElem?_eq_getElem (by omega))]
      congr 1
      rw [List.length_take, Nat.min_eq_left (by omega)]
      by_cases hk : (k : Int) < n
      · rw [if_pos hk, List.take_of_length_le (by simp; omega)]; rfl
      · rw [if_neg hk, show n.toNat - k = 0 by omega]; rfl
  have := this _ (Nat.le_refl _)
  rwa [List.take_length] at this
theorem fm_tail (ls : List (List UInt8)) (n : Int) (hn : 0 ≤ n) (f : Nat → Option (List UInt8)) (hf : ∀ i s, ls[i]? = some s → f i = if (ls.length : Int) - n ≤ (i : Int) then some s else none) : (List.range ls.length).filterMap f = ls.drop (ls.length - n.toNat) := by
  have : ∀ k, k ≤ ls.length → (List.range k).filterMap f = (ls.take k).drop (ls.length - n.toNat) := by
    intro k
    induction k with
    | zero => intro _; simp
    | succ k ih =>
      intro h
      rw [fm_succ, ih (by omega), tk_succ (by omega), List.drop_append, hf k _ (List.getElem?_eq_getElem (by omega))]
      congr 1
      rw [List.length_take, Nat.min_eq_left (by omega)]
      by_cases hk : (ls.length : Int) - n ≤ (k : Int)
      · rw [if_pos hk, show ls.length - n.toNat - k = 0 by omega]; rfl
      · rw [if_neg hk, List.drop_of_length_le (by simp; omega)]; rfl
  have := this _ (Nat.le_refl _)
  rwa [List.take_length] at this
theorem fm_once (ls : List (List UInt8)) (f : Nat → Option (List UInt8)) (hf : ∀ i s, ls[i]? = some s → f i = if i = 0 ∨ ls[i - 1]? ≠ some s then some s else none) : (List.range ls.length).filterMap f = Lib.compact ls := by
  have : ∀ k, k ≤ ls.length → (List.range k).filterMap f = Lib.compactUpTo ls.toArray k := by
    intro k
    induction k with
    | zero => intro _; rfl
    | succ k ih =>
      intro h
      rw [fm_succ, ih (by omega), Lib.compactUpTo_succ, hf k _ (List.getElem?_eq_getElem (show k < ls.length by omega))]
      congr 1
      have e1 : ls.toArray[k]! = ls[k] := by simp [getElem!_pos, show k < ls.length by omega]
      have e2 : ls.toArray[k - 1]! = ls[k - 1] := by simp [getElem!_pos, show k - 1 < ls.length by omega]
      have e3 : ls[k - 1]? = some ls[k - 1] := List.getElem?_eq_getElem (by omega)
      unfold Lib.keeps
      rw [e1, e2, e3]
      by_cases hk : k = 0 ∨ some ls[k - 1] ≠ some ls[k]
      · have hk' : k = 0 ∨ ls[k] ≠ ls[k - 1] := hk.imp id (fun h e => h (by rw [e]))
        rw [if_pos hk, decide_eq_true hk', if_pos rfl]; rfl
      · have hk' : ¬ (k = 0 ∨ ls[k] ≠ ls[k - 1]) := fun h => hk (h.imp id (fun h e => h (by injection e with e; exact e.symm)))
        rw [if_neg hk, decide_eq_false hk']; rfl
  exact this _ (Nat.le_refl _)
end Go.Gs
namespace Go.Proofs.YtfkddfmbgbaefaaGreatDoor
open Go.RowKit Go.Gs
set_option linter.unusedVariables false

theorem made_ref (c : Cmd) (hc : chk c = 0) (v : Value) (ls : List (List UInt8)) (w : World) (hl0 : Reads w v ls.length (ls.map S)) (hLm : ls.length ≤ 100000) (hsz : ∀ s ∈ ls, s.length ≤ 100000) (hsh : w.ShapedOpen Tryz.prog) (hK : Known w) :
    Calls Tryz.prog 19 #[c.v, v] w fun e w' => ∃ r, e = .returned r ∧ Reads w' r (made c ls).length ((made c ls).map S) ∧ Below w.heap.size w w' := by
  have hk := chk_kinds c hc
  have hnum := chk_num hc
  have hsw := chk_le hc
  obtain ⟨⟨m, hm⟩, htab⟩ := hK
  obtain ⟨_, al, cl, rfl, _⟩ := id hl0
  obtain ⟨k, word, n⟩ := c
  unfold Cmd.v
  have own : ∀ (f : Nat → Option (List UInt8)) (D : List (List UInt8)) {args : Array Value}, (List.range ls.length).filterMap f = D →
      (Calls Tryz.prog 19 args w fun e w' => ∃ r, e = .returned r ∧ w'.ownsRow (w.heap.size + 1) 9 1 r (M f ls.length).length ((M f ls.length).map S) ∧ Below w.heap.size w w') →
      (Calls Tryz.prog 19 args w fun e w' => ∃ r, e = .returned r ∧ Reads w' r D.length (D.map S) ∧ Below w.heap.size w w') := by
    intro f D args hD h
    refine h.mono ?_
    rintro e w' ⟨r, rfl, h1, h2⟩
    have : M f ls.length = D := hD
    rw [this] at h1
    exact ⟨r, rfl, Reads.of_owns h1, h2⟩
  have : k = 1 ∨ k = 2 ∨ k = 3 ∨ k = 4 ∨ k = 5 ∨ k = 6 ∨ k = 7 ∨ k = 8 ∨ k = 9 ∨ k = 10 := by simp only at hk; omega
  rcases this with rfl | rfl | rfl | rfl | rfl | rfl | rfl | rfl | rfl | rfl
  · rw [made1 _ rfl]
    have hf : ∀ (i : Nat) s, ls[i]? = some s → (fun i : Nat => (ls[i]?).bind fun s => if Lib.contains s word = true then some s else none) i = if Lib.contains s word = true then some s else none := by intro i s h; simp [h]
    exact own _ _ (fm_filter ls (fun s => Lib.contains s word) _ hf) (made_keep al cl word n ls w hl0 hLm hsz _ hsh hf)
  · rw [made2 _ rfl]
    have hf : ∀ (i : Nat) s, ls[i]? = some s → (fun i : Nat => (ls[i]?).bind fun s => if ¬ Lib.contains s word = true then some s else none) i = if ¬ Lib.contains s word = true then some s else none := by intro i s h; simp [h]
    exact own _ _ (fm_filter ls (fun s => !Lib.contains s word) _ (fun i s h => (hf i s h).trans (by simp))) (made_drop al cl word n ls w hl0 hLm hsz _ hsh hf)
  · rw [made3 _ rfl]
    obtain ⟨a, b, rfl⟩ := two_word (hsw rfl).1
    have hf : ∀ (i : Nat) s, ls[i]? = some s → (fun i : Nat => (ls[i]?).map (swapOf a b)) i = some (swapOf a b s) := by intro i s h; simp [h]
    exact own _ _ (fm_map ls (swapOf a b) _ hf) (made_swap al cl n ls w hl0 hLm hsz a b _ hf)
  · rw [made4 _ rfl]
    obtain ⟨h1, h2⟩ := hnum rfl
    have hf : ∀ (i : Nat) s, ls[i]? = some s → (fun i : Nat => (ls[i]?).map (fieldOf n)) i = some (fieldOf n s) := by intro i s h; simp [h]
    exact own _ _ (fm_map ls (fieldOf n) _ hf) (made_field al cl word n ls w hl0 hLm hsz m hm h1 h2 _ hf)
  · rw [made5 _ rfl]
    have hf : ∀ (i : Nat) s, ls[i]? = some s → (fun i : Nat => (ls[i]?).map List.reverse) i = some s.reverse := by intro i s h; simp [h]
    exact own _ _ (fm_map ls List.reverse _ hf) (made_turn al cl word n ls w hl0 hLm hsz _ hf)
  · rw [made6 _ rfl]
    have hf : ∀ (i : Nat) s, ls[i]? = some s → (fun i : Nat => ls[i]?) i = some s := by intro i s h; simpa using h
    have hM : M (fun i : Nat => ls[i]?) ls.length = ls := by have := fm_map ls id _ hf; rw [List.map_id] at this; exact this
    have h := made_sort al cl word n ls w hl0 hLm hsz _ hf
    rw [hM] at h
    exact h
  · rw [made7 _ rfl]
    have hf : ∀ (i : Nat) s, ls[i]? = some s → (fun i : Nat => (ls[i]?).bind fun s => if i = 0 ∨ ls[i - 1]? ≠ some s then some s else none) i = if i = 0 ∨ ls[i - 1]? ≠ some s then some s else none := by intro i s h; simp [h]
    exact own _ _ (fm_once ls _ hf) (made_once al cl word n ls w hl0 hLm hsz _ hf)
  · rw [made8 _ rfl]
    exact made_count al cl word n ls w hl0 hLm hsz (fun _ => none) (fun _ _ _ => rfl) htab
  · rw [made9 _ rfl]
    have hf : ∀ (i : Nat) s, ls[i]? = some s → (fun i : Nat => (ls[i]?).bind fun s => if (i : Int) < n then some s else none) i = if (i : Int) < n then some s else none := by intro i s h; simp [h]
    exact own _ _ (fm_head ls n _ hf) (made_head al cl word n ls w hl0 hLm hsz _ hf)
  · rw [made10 _ rfl]
    obtain ⟨h1, h2⟩ := hnum rfl
    have hf : ∀ (i : Nat) s, ls[i]? = some s → (fun i : Nat => (ls[i]?).bind fun s => if (ls.length : Int) - n ≤ (i : Int) then some s else none) i = if (ls.length : Int) - n ≤ (i : Int) then some s else none := by intro i s h; simp [h]
    exact own _ _ (fm_tail ls n (by simp only at h1; omega) _ hf) (made_tail al cl word n ls w hl0 hLm hsz _ h1 h2 hf)
end Go.Proofs.YtfkddfmbgbaefaaGreatDoor
namespace Go.Proofs.YtfkddfmbgbaefaaGreatDoor
open Go.RowKit Go.Gs
set_option linter.unusedVariables false

theorem rlist_new {α : Type} {W : World} {f : α → Value} {t : TypeId} {N : Nat} {C : Array Value} (pss : List (List α)) (hN : pss.length = N) (hC : C.size = N) (hn : N ≤ 1000) (h : ∀ (j : Nat) (p : List α), pss[j]? = some p → ∃ u, C[j]? = some u ∧ Reads W u p.length (p.map f)) : RList (W.alloc (.cells C t)) (.slice (some ⟨W.heap.size, 0, none⟩) N N) f pss := by
  subst hN
  refine ⟨C.toList, reads_new W C t (0, 0) pss.length hC (by omega), fun j p hj => ?_⟩
  obtain ⟨u, h1, h2⟩ := h j p hj
  exact ⟨u, by simpa using h1, h2.below box_of⟩
theorem reads_nil {α : Type} {W : World} {f : α → Value} : Reads W (.slice none 0 0) ([] : List α).length (([] : List α).map f) := ⟨rfl, none, 0, rfl, Nat.le_refl _, by unfold maxLen; omega, fun h => absurd rfl h⟩

theorem reads_lit {W : World} {C : Array Value} {fr : Nat × Nat} {x : List UInt8} {n : Nat} (hC : C.toList = x.map U) (hn : x.length = n) (hm : n ≤ 1000000) : Reads (W.alloc (.cells C 5 fr)) (.slice (some ⟨W.heap.size, 0, none⟩) n n) x.length (x.map U) := by
  subst hn
  have hl : C.size = x.length := by
    have := congrArg List.length hC
    simpa using this
  have := reads_new W C 5 fr x.length hl hm
  rwa [hC] at this
theorem two_lits {w : World} {A B : Array Value} {fa fb : Nat × Nat} {x y : List UInt8} {n m : Nat} {t : TypeId} (hA : A.toList = x.map U) (hx : x.length = n) (hn : n ≤ 1000000) (hB : B.toList = y.map U) (hy : y.length = m) (hm : m ≤ 1000000) :
    RList (((w.alloc (.cells A 5 fa)).alloc (.cells B 5 fb)).alloc (.cells #[.slice (some ⟨w.heap.size, 0, none⟩) n n, .slice (some ⟨w.heap.size + 1, 0, none⟩) m m] t)) (.slice (some ⟨w.heap.size + 1 + 1, 0, none⟩) 2 2) U [x, y] := by
  have h := rlist_new (W := (w.alloc (.cells A 5 fa)).alloc (.cells B 5 fb)) (f := U) (t := t) (N := 2) (C := #[.slice (some ⟨w.heap.size, 0, none⟩) n n, .slice (some ⟨w.heap.size + 1, 0, none⟩) m m]) [x, y] rfl rfl (by omega) (fun j p hj => by
    match j, hj with
    | 0, hj => simp at hj; subst hj; exact ⟨_, rfl, (reads_lit hA hx hn).below box_of⟩
    | 1, hj =>
      simp at hj; subst hj
      refine ⟨_, rfl, ?_⟩
      have := reads_lit (W := w.alloc (.cells A 5 fa)) (fr := fb) hB hy hm
      rwa [show (w.alloc (.cells A 5 fa)).heap.size = w.heap.size + 1 by simp] at this
    | j + 2, hj => simp at hj)
  rwa [show ((w.alloc (.cells A 5 fa)).alloc (.cells B 5 fb)).heap.size = w.heap.size + 1 + 1 by simp] at h
theorem below3a {w : World} {o p q : Obj} : Below w.heap.size w (((w.alloc o).alloc p).alloc q) := (((Below.refl _ w).alloc (Nat.le_refl _) o).alloc (by simp) p).alloc (by simp; omega) q
theorem below_four {w : World} {o p q r : Obj} : Below w.heap.size w ((((w.alloc o).alloc p).alloc q).alloc r) := below3a.alloc (by simp; omega) r
theorem four_lits {w : World} {A B C : Array Value} {fa fb fc : Nat × Nat} {x y z : List UInt8} {n m k : Nat} {t : TypeId} (hA : A.toList = x.map U) (hx : x.length = n) (hn : n ≤ 1000000) (hB : B.toList = y.map U) (hy : y.length = m) (hm : m ≤ 1000000) (hC : C.toList = z.map U) (hz : z.length = k) (hk : k ≤ 1000000) :
    RList ((((w.alloc (.cells A 5 fa)).alloc (.cells B 5 fb)).alloc (.cells C 5 fc)).alloc (.cells #[.slice (some ⟨w.heap.size, 0, none⟩) n n, .slice (some ⟨w.heap.size + 1, 0, none⟩) m m, .slice none 0 0, .slice (some ⟨w.heap.size + 1 + 1, 0, none⟩) k k] t)) (.slice (some ⟨w.heap.size + 1 + 1 + 1, 0, none⟩) 4 4) U [x, y, [], z] := by
  have h := rlist_new (W := ((w.alloc (.cells A 5 fa)).alloc (.cells B 5 fb)).alloc (.cells C 5 fc)) (f := U) (t := t) (N := 4) (C := #[.slice (some ⟨w.heap.size, 0, none⟩) n n, .slice (some ⟨w.heap.size + 1, 0, none⟩) m m, .slice none 0 0, .slice (some ⟨w.heap.size + 1 + 1, 0, none⟩) k k]) [x, y, [], z] rfl rfl (by omega) (fun j p hj => by
    match j, hj with
    | 0, hj => simp at hj; subst hj; exact ⟨_, rfl, ((reads_lit hA hx hn).below box_of).below box_of⟩
    | 1, hj =>
      simp at hj; subst hj
      refine ⟨_, rfl, ?_⟩
      have := (reads_lit (W := w.alloc (.cells A 5 fa)) (fr := fb) hB hy hm).below (box_of (o := .cells C 5 fc))
      rwa [show (w.alloc (.cells A 5 fa)).heap.size = w.heap.size + 1 by simp] at this
    | 2, hj => simp at hj; subst hj; exact ⟨_, rfl, reads_nil⟩
    | 3, hj =>
      simp at hj; subst hj
      refine ⟨_, rfl, ?_⟩
      have := reads_lit (W := (w.alloc (.cells A 5 fa)).alloc (.cells B 5 fb)) (fr := fc) hC hz hk
      rwa [show ((w.alloc (.cells A 5 fa)).alloc (.cells B 5 fb)).heap.size = w.heap.size + 1 + 1 by simp] at this
    | j + 4, hj => simp at hj)
  rwa [show (((w.alloc (.cells A 5 fa)).alloc (.cells B 5 fb)).alloc (.cells C 5 fc)).heap.size = w.heap.size + 1 + 1 + 1 by simp] at h

def zeroC : Cmd := ⟨0, [], 0⟩
def sp1 : List UInt8 := [97, 10, 99, 10]
def sp2 : List UInt8 := [98, 10]
def sp3 : List UInt8 := [50, 10]
def sp4 : List UInt8 := [51]
def sp5 : List UInt8 := [120, 10]
theorem sp_merge : jOut 2 zeroC [sp1, sp2] = [97, 10, 98, 10, 99, 10] := by decide +kernel
theorem itoa_two : Lib.itoa ((2 : Nat) : Int) = [50] := by unfold Lib.itoa; rw [if_neg (by omega), Lib.decDigits, dif_pos (by decide)]; rfl
theorem itoa_three : Lib.itoa ((3 : Nat) : Int) = [51] := by unfold Lib.itoa; rw [if_neg (by omega), Lib.decDigits, dif_pos (by decide)]; rfl
theorem itoa_five : Lib.itoa ((5 : Nat) : Int) = [53] := by unfold Lib.itoa; rw [if_neg (by omega), Lib.decDigits, dif_pos (by decide)]; rfl
theorem sp_sum : jOut 3 zeroC [sp3, sp4, [], sp5] = [53, 10] := by
  have e1 : lines sp3 = [[50]] := by decide +kernel
  have e2 : lines sp4 = [[51]] := by decide +kernel
  have e3 : lines [] = [] := by decide +kernel
  have e4 : lines sp5 = [[120]] := by decide +kernel
  have n1 : headNum [[50]] = 2 := by rw [headNum_cons, ← itoa_two]; exact numOf_itoa 2 (by omega)
  have n2 : headNum [[51]] = 3 := by rw [headNum_cons, ← itoa_three]; exact numOf_itoa 3 (by omega)
  have n3 : headNum [[120]] = 0 := by
    rw [headNum_cons]
    have hs : Lib.atoiAll [120] = .«syntax» := by decide +kernel
    exact numOf_bad (fun n h => by rw [hs] at h; cases h)
  have hsum : sumOf [[[50]], [[51]], [], [[120]]] = 5 := by
    unfold sumOf
    simp only [List.map_cons, List.map_nil, List.sum_cons, List.sum_nil, n1, n2, n3, headNum_nil]
    rfl
  unfold jOut
  simp only [List.map_cons, List.map_nil, e1, e2, e3, e4]
  rw [joined3, hsum, itoa_five]
  rfl

set_option maxRecDepth 100000 in
set_option maxHeartbeats 4000000 in
theorem spliced_true (w : World) (hE : KnownE w) : Calls Tryz.prog 32 #[] w fun e w' => e = .returned (.bool true) ∧ Below w.heap.size w w' := by
  have kc := fun (w : World) (C : Array Value) (n c : Nat) => Lib.run_convert_bytes_const (P := Tryz.prog) w 24 5 C n c Tryz.underlying24 Tryz.underlying5
  have kc1 : ∀ (w : World) (o : Obj) (C : Array Value) (n c : Nat), (convert 24 24 (.slice (some ⟨w.heap.size + 1, 0, none⟩) n c)).run Tryz.prog ((w.alloc o).alloc (.cells C 5)) = .ok (.slice (some ⟨w.heap.size + 1, 0, none⟩) n c) ((w.alloc o).alloc (.cells C 5 (C.size, C.size + 1))) := by
    intro w o C n c
    have := kc (w.alloc o) C n c
    rwa [show (w.alloc o).heap.size = w.heap.size + 1 by simp] at this
  have kc2 : ∀ (w : World) (o p : Obj) (C : Array Value) (n c : Nat), (convert 24 24 (.slice (some ⟨w.heap.size + 1 + 1, 0, none⟩) n c)).run Tryz.prog (((w.alloc o).alloc p).alloc (.cells C 5)) = .ok (.slice (some ⟨w.heap.size + 1 + 1, 0, none⟩) n c) (((w.alloc o).alloc p).alloc (.cells C 5 (C.size, C.size + 1))) := by
    intro w o p C n c
    have := kc ((w.alloc o).alloc p) C n c
    rwa [show ((w.alloc o).alloc p).heap.size = w.heap.size + 1 + 1 by simp] at this
  have HK : Hid (KnownE w) := hE
  clear hE
  go_enter Tryz.func32, Tryz.ntmps32
  go_wp2_with fail
  have HD1 : Hid _ := fun (W : World) (v : Value) hp hE => jdo_ok 2 zeroC v [sp1, sp2] W (by decide) (by decide) hp (by decide) (by decide) hE
  refine (HD1.out _ _ (two_lits ?a1 rfl (by decide) ?a2 rfl (by decide)) (HK.out.below below3a)).mono ?_
  case a1 => rfl
  case a2 => rfl
  rintro e w1 ⟨r1, rfl, hown1, hb1⟩
  rw [sp_merge] at hown1
  have HR1 : Hid (Reads w1 r1 6 ([97, 10, 98, 10, 99, 10].map U)) := Reads.of_owns hown1
  have HB1 : Hid (Below w.heap.size w w1) := below3a.trans (hb1.mono (by simp; omega))
  clear hown1 hb1 HD1
  go_wp2_with fail
  have HD2 : Hid _ := fun (W : World) (v : Value) hp hE => jdo_ok 3 zeroC v [sp3, sp4, [], sp5] W (by decide) (by decide) hp (by decide) (by decide) hE
  refine (HD2.out _ _ (four_lits ?b1 rfl (by decide) ?b2 rfl (by decide) ?b3 rfl (by decide)) ((HK.out.below HB1.out).below below_four)).mono ?_
  case b1 => rfl
  case b2 => rfl
  case b3 => rfl
  rintro e w2 ⟨r2, rfl, hown2, hb2⟩
  rw [sp_sum] at hown2
  have hb12 : Below w1.heap.size w1 w2 := below_four.trans (hb2.mono (by simp; omega))
  have HR2 : Hid (Reads w2 r2 2 ([53, 10].map U)) := Reads.of_owns hown2
  have HR12 : Hid (Reads w2 r1 6 ([97, 10, 98, 10, 99, 10].map U)) := HR1.out.below hb12
  have HB2 : Hid (Below w.heap.size w w2) := HB1.out.trans (hb12.mono HB1.out.size)
  clear hown2 hb2 hb12 HD2 HR1 HB1
  go_wp2_with fail
  have hF := for_is ⟨9, [], 1⟩ w2 (by decide)
  rw [if_pos (by decide)] at hF
  refine hF.mono ?_
  rintro e w3 ⟨rfl, hb3⟩
  have hcv1 := conv_any (bs := [97, 10, 98, 10, 99, 10]) (HR12.out.below hb3)
  have hcv2 := conv_any (bs := [53, 10]) (HR2.out.below hb3)
  have HB3 : Hid (Below w.heap.size w w3) := HB2.out.trans (hb3.mono HB2.out.size)
  clear hb3 HR12 HR2 HB2 hF kc kc1 kc2
  go_wp2_with fail
  go_ret
  exact ⟨rfl, HB3.out⟩
end Go.Proofs.YtfkddfmbgbaefaaGreatDoor
namespace Go.Proofs.YtfkddfmbgbaefaaGreatDoor
open Go.RowKit Go.Gs
set_option linter.unusedVariables false

theorem small_no {pss : List (List UInt8)} {k : Nat} (h : 2000 < ((pss.take k).flatten).length) : decide ((pss.flatten).length ≤ 2000) = false := by
  have := flat_le pss k
  exact decide_eq_false (by omega)

set_option maxRecDepth 100000 in
set_option maxHeartbeats 4000000 in
theorem small_is (G : Nat) (pss : List (List UInt8)) (w : World) (hp : Lists w G U pss) (hn : pss.length ≤ 1000) (hb : ∀ p ∈ pss, p.length ≤ 1000000000000000) :
    Calls Tryz.prog 21 #[.slice (some ⟨G, 0, none⟩) pss.length pss.length] w fun e w' => e = .returned (.bool (decide ((pss.flatten).length ≤ 2000))) ∧ w' = w := by
  have HP : Hid (Lists w G U pss) := hp
  obtain ⟨N, hN⟩ : ∃ N, N = pss.length := ⟨_, rfl⟩
  have HN : Hid (N = pss.length) := hN
  have hN4 : N ≤ 1000 := by omega
  rw [← hN]
  clear hN hp hn
  go_enter Tryz.func21, Tryz.ntmps21
  go_wp2_with fail
  go_loopw [3, 8] (fun s i wr => ∃ k : Nat, ∃ m : Nat, k ≤ N ∧ m ≤ 2000 ∧ i = .int .i64 k ∧ s = .int .i64 m ∧ wr = w ∧ Hid (m = ((pss.take k).flatten).length))
    (fun _ i _ => N - (intOf i).toNat)
  case atStart => exact ⟨0, 0, Nat.zero_le _, by omega, rfl, rfl, rfl, (show _ = _ from by simp)⟩
  case round =>
    obtain ⟨k, m, hk, hm, rfl, rfl, hw, hmk⟩ := hrel
    obtain rfl : w = wr := hw.symm
    clear hw
    by_cases hlt : k < N
    · obtain ⟨p, hpk⟩ : ∃ p, pss[k]? = some p := ⟨_, List.getElem?_eq_getElem (by have := HN.out; omega)⟩
      obtain ⟨u, hu, hru⟩ := HP.out k p hpk
      have hpb := hb p (List.mem_of_getElem? hpk)
      obtain ⟨_, ao, cap, rfl, _⟩ := hru
      have HS : Hid (m + p.length = ((pss.take (k + 1)).flatten).length) := (show _ = _ from by rw [flat_step hpk, List.length_append, ← hmk.out])
      by_cases hbig : 2000 < m + p.length
      · have HD : Hid _ := small_no (pss := pss) (k := k + 1) (by rw [← HS.out]; exact hbig)
        have hgt : (2000 : Int) < (m : Int) + (p.length : Int) := by omega
        clear hb
        go_wp2_with fail
        go_ret
        refine ⟨?_, rfl⟩
        show Ending.returned (.bool false) = _
        rw [HD.out]
      · have hgt : ¬ (2000 : Int) < (m : Int) + (p.length : Int) := by omega
        go_wp2_with fail
        go_roundw
        case rel => exact ⟨k + 1, m + p.length, by omega, by omega, by go_num, by go_num, by simp, HS.out⟩
        case measure => simp [intOf]; omega
    · have hkN : k = N := by omega
      have HD : Hid (decide ((pss.flatten).length ≤ 2000) = true) := (show _ = _ from by
        have h := hmk.out
        rw [hkN, HN.out, List.take_length] at h
        exact decide_eq_true (by omega))
      clear hb hmk
      go_wp2_with fail
      go_ret
      refine ⟨?_, rfl⟩
      show Ending.returned (.bool true) = _
      rw [HD.out]
end Go.Proofs.YtfkddfmbgbaefaaGreatDoor
namespace Go.Proofs.YtfkddfmbgbaefaaGreatDoor
open Go.RowKit Go.Gs
set_option linter.unusedVariables false

set_option maxRecDepth 100000 in
set_option maxHeartbeats 4000000 in
theorem small_list (v : Value) (pss : List (List UInt8)) (w : World) (hp : RList w v U pss) (hn : pss.length ≤ 1000) (hb : ∀ p ∈ pss, p.length ≤ 1000000000000000) :
    Calls Tryz.prog 21 #[v] w fun e w' => e = .returned (.bool (decide ((pss.flatten).length ≤ 2000))) ∧ w' = w := by
  obtain ⟨ao, cap, rfl, hc1, hc2⟩ := hp.shape
  have HP : Hid (RList w (.slice ao pss.length cap) U pss) := hp
  obtain ⟨N, hN⟩ : ∃ N, N = pss.length := ⟨_, rfl⟩
  have HN : Hid (N = pss.length) := hN
  have hN4 : N ≤ 1000 := by omega
  have hcN : N ≤ cap := by omega
  have hcm : cap ≤ 9223372036854775807 := by simpa [maxLen] using hc2
  rw [← hN]
  clear hN hp hn hc1 hc2
  go_enter Tryz.func21, Tryz.ntmps21
  go_wp2_with fail
  go_loopw [3, 8] (fun s i wr => ∃ k : Nat, ∃ m : Nat, k ≤ N ∧ m ≤ 2000 ∧ i = .int .i64 k ∧ s = .int .i64 m ∧ wr = w ∧ Hid (m = ((pss.take k).flatten).length))
    (fun _ i _ => N - (intOf i).toNat)
  case atStart => exact ⟨0, 0, Nat.zero_le _, by omega, rfl, rfl, rfl, (show _ = _ from by simp)⟩
  case round =>
    obtain ⟨k, m, hk, hm, rfl, rfl, hw, hmk⟩ := hrel
    obtain rfl : w = wr := hw.symm
    clear hw
    by_cases hlt : k < N
    · obtain ⟨p, hpk⟩ : ∃ p, pss[k]? = some p := ⟨_, List.getElem?_eq_getElem (by have := HN.out; omega)⟩
      have hpb := hb p (List.mem_of_getElem? hpk)
      have HS : Hid (m + p.length = ((pss.take (k + 1)).flatten).length) := (show _ = _ from by rw [flat_step hpk, List.length_append, ← hmk.out])
      have HPr : Hid (RList w (.slice ao N cap) U pss) := by rw [HN.out]; exact HP.out
      obtain ⟨b, off, au, cu, rfl, hcell, _⟩ := HPr.out.at hpk
      clear hpk hmk
      generalize p.length = pl at *
      by_cases hbig : 2000 < m + pl
      · have HD : Hid _ := small_no (pss := pss) (k := k + 1) (by rw [← HS.out]; exact hbig)
        have hgt : (2000 : Int) < (m : Int) + (pl : Int) := by omega
        clear hb
        go_wp2_with fail
        go_ret
        refine ⟨?_, rfl⟩
        show Ending.returned (.bool false) = _
        rw [HD.out]
      · have hgt : ¬ (2000 : Int) < (m : Int) + (pl : Int) := by omega
        go_wp2_with fail
        go_roundw
        case rel => exact ⟨k + 1, m + pl, by omega, by omega, by go_num, by go_num, by simp, HS.out⟩
        case measure => simp [intOf]; omega
    · have hkN : k = N := by omega
      have HD : Hid (decide ((pss.flatten).length ≤ 2000) = true) := (show _ = _ from by
        have h := hmk.out
        rw [hkN, HN.out, List.take_length] at h
        exact decide_eq_true (by omega))
      clear hb hmk
      go_wp2_with fail
      go_ret
      refine ⟨?_, rfl⟩
      show Ending.returned (.bool true) = _
      rw [HD.out]
end Go.Proofs.YtfkddfmbgbaefaaGreatDoor
namespace Go.Proofs.YtfkddfmbgbaefaaGreatDoor
open Go.RowKit Go.Gs
set_option linter.unusedVariables false

set_option maxRecDepth 100000 in
set_option maxHeartbeats 1000000 in
theorem whole_is (v : Value) (bs : List UInt8) (w : World) (hr : Reads w v bs.length (bs.map U)) (hsh : w.ShapedOpen Tryz.prog) (hle : bs.length ≤ 50000) :
    Calls Tryz.prog 23 #[v] w fun e w' => ∃ r, e = .returned r ∧ Reads w' r (ended (lines bs)).length ((ended (lines bs)).map U) ∧ Below w.heap.size w w' := by
  have hl := ended_lines bs
  have HR : Hid (Reads w v bs.length (bs.map U)) := hr
  clear hr
  go_enter Tryz.func23, Tryz.ntmps23
  go_wp2_with fail
  refine (linesOf v bs w HR.out hsh (by omega)).mono ?_
  rintro e w1 ⟨g, cap, rfl, hr1, hb1⟩
  have HR1 : Hid _ := hr1
  have HB1 : Hid _ := hb1
  clear hr1 hb1
  go_wp2_with fail
  refine (bytesOf _ (lines bs) w1 HR1.out (by omega)).mono ?_
  rintro e w2 ⟨r2, rfl, hr2, hb2⟩
  have HR2 : Hid _ := hr2
  have HB2 : Hid (Below w.heap.size w w2) := Below.trans HB1.out (Below.mono hb2 (Below.size HB1.out))
  clear hr2 hb2
  go_wp2_with fail
  go_ret
  exact ⟨_, rfl, HR2.out, HB2.out⟩
end Go.Proofs.YtfkddfmbgbaefaaGreatDoor
namespace Go.Proofs.YtfkddfmbgbaefaaGreatDoor
open Go.RowKit Go.Gs
set_option linter.unusedVariables false

/-- What the walk stands on. -/
def JA (w W : World) (c : Cmd) (v : Value) (bss : List (List UInt8)) : Prop :=
  (W.cell? ⟨w.heap.size, 0, none⟩ = some (.int .i64 c.kind) ∧ W.cell? ⟨w.heap.size, 1, none⟩ = some (.string ⟨c.word.toArray⟩) ∧ W.cell? ⟨w.heap.size, 2, none⟩ = some (.int .i64 c.n)) ∧ RList W v U bss ∧ KnownE W ∧ W.ShapedOpen Tryz.prog ∧ Below w.heap.size w W
theorem JA.below {w W W' : World} {c : Cmd} {v : Value} {bss : List (List UInt8)} (h : JA w W c v bss) (hb : Below W.heap.size W W') : JA w W' c v bss := by
  obtain ⟨⟨h0, h1, h2⟩, h3, h4, h5, h6⟩ := h
  have hl := World.block_lt_of_cell? W _ h0
  exact ⟨⟨(hb.cell hl).trans h0, (hb.cell (p := ⟨w.heap.size, 1, none⟩) hl).trans h1, (hb.cell (p := ⟨w.heap.size, 2, none⟩) hl).trans h2⟩, h3.below hb, h4.below hb, sh_below h5 hb, h6.trans (hb.mono h6.size)⟩
theorem JA.start {w : World} {c : Cmd} {v : Value} {bss : List (List UInt8)} (h1 : RList w v U bss) (h2 : KnownE w) (h3 : w.ShapedOpen Tryz.prog) :
    JA w (w.alloc (.cells #[.int .i64 c.kind, .string ⟨c.word.toArray⟩, .int .i64 c.n] 23)) c v bss :=
  ⟨jbox_new, h1.below box_of, h2.below box_of, sh_below h3 box_of, box_of⟩

set_option maxRecDepth 100000 in
set_option maxHeartbeats 8000000 in
theorem whole_early (k n : Int) (word : List UInt8) (ao : Option Addr) (cap : Nat) (bss : List (List UInt8)) (w : World) (hw : word.length ≤ 9223372036854775807) (h1 : RList w (.slice ao bss.length cap) U bss) (h2 : KnownE w) (h3 : w.ShapedOpen Tryz.prog) (hbs : ∀ p ∈ bss, p.length ≤ 1000000000000000)
    (hbad : chk ⟨k, word, n⟩ ≠ 0 ∨ bss.length = 0 ∨ 5 < bss.length ∨ 2000 < bss.flatten.length) :
    Calls Tryz.prog 7 #[.agg #[.int .i64 k, .string ⟨word.toArray⟩, .int .i64 n], .slice ao bss.length cap] w fun e w' => e = .returned (.bool true) ∧ Below w.heap.size w w' := by
  have hcap : bss.length ≤ cap ∧ cap ≤ 9223372036854775807 := by
    obtain ⟨ao', cap', e, h1', h2'⟩ := h1.shape
    injection e with e1 e2 e3
    subst e3
    exact ⟨h1', by simpa [maxLen] using h2'⟩
  obtain ⟨hcN, hcm⟩ := hcap
  have J0 : Hid (JA w _ ⟨k, word, n⟩ (.slice ao bss.length cap) bss) := JA.start (c := ⟨k, word, n⟩) h1 h2 h3
  have hF := fun W => for_is ⟨k, word, n⟩ W hw
  unfold Cmd.v at hF
  simp only at hF
  generalize (if chk ⟨k, word, n⟩ = 0 then howFor k else 0) = hh at *
  generalize chk ⟨k, word, n⟩ = r at *
  have HBS : Hid _ := hbs
  clear h1 h2 h3 hbs hw
  go_enter Tryz.func7, Tryz.ntmps7
  go_wp2_with fail
  refine (hF _).mono ?_
  rintro e w1 ⟨rfl, hb1⟩
  have J1 : Hid (JA w w1 ⟨k, word, n⟩ (.slice ao bss.length cap) bss) := J0.out.below hb1
  clear hb1 hF J0
  go_wp2_with fail
  refine (spliced_true _ J1.out.2.2.1).mono ?_
  rintro e w2 ⟨rfl, hb2⟩
  have J2 : Hid (JA w w2 ⟨k, word, n⟩ (.slice ao bss.length cap) bss) := J1.out.below hb2
  clear hb2 J1
  have hspl := spliced_true w2 J2.out.2.2.1
  by_cases hr : r = 0
  · subst hr
    by_cases h0 : bss.length = 0
    · rw [h0] at J2 hcN ⊢
      clear hbad
      go_wp2_with fail
      refine hspl.mono ?_
      rintro e w3 ⟨rfl, hb3⟩
      have J3 : Hid _ := J2.out.below hb3
      clear hb3 J2 hspl
      go_wp2_with fail
      go_ret
      exact ⟨rfl, J3.out.2.2.2.2⟩
    · by_cases h5 : 5 < bss.length
      · clear hbad
        generalize bss.length = N at *
        have hN0 : ((N : Int) == 0) = false := by simp; omega
        go_wp2_with fail
        refine hspl.mono ?_
        rintro e w3 ⟨rfl, hb3⟩
        have J3 : Hid _ := J2.out.below hb3
        clear hb3 J2 hspl
        go_wp2_with fail
        go_ret
        exact ⟨rfl, J3.out.2.2.2.2⟩
      · have hbig : 2000 < bss.flatten.length := by
          rcases hbad with h | h | h | h
          · exact absurd rfl h
          · exact absurd h h0
          · exact absurd h h5
          · exact h
        have hsm := small_list _ bss w2 J2.out.2.1 (by omega) HBS.out
        rw [decide_eq_false (by omega)] at hsm
        clear hbad hbig
        generalize bss.length = N at *
        have hN0 : ((N : Int) == 0) = false := by simp; omega
        go_wp2_with fail
        refine hsm.mono ?_
        rintro e w3 ⟨rfl, hw3⟩
        obtain rfl : w2 = w3 := hw3.symm
        clear hw3 hsm
        go_wp2_with fail
        refine hspl.mono ?_
        rintro e w4 ⟨rfl, hb4⟩
        have J4 : Hid _ := J2.out.below hb4
        clear hb4 J2 hspl
        go_wp2_with fail
        go_ret
        exact ⟨rfl, J4.out.2.2.2.2⟩
  · clear hbad
    generalize bss.length = N at *
    go_wp2_with fail
    refine hspl.mono ?_
    rintro e w3 ⟨rfl, hb3⟩
    have J3 : Hid _ := J2.out.below hb3
    clear hb3 J2 hspl
    go_wp2_with fail
    go_ret
    exact ⟨rfl, J3.out.2.2.2.2⟩
end Go.Proofs.YtfkddfmbgbaefaaGreatDoor
namespace Go.Proofs.YtfkddfmbgbaefaaGreatDoor
open Go.RowKit Go.Gs
set_option linter.unusedVariables false

set_option maxRecDepth 100000 in
set_option maxHeartbeats 4000000 in
theorem jcheck_ref (how : Int) (c : Cmd) (w : World) (hkw : (Lit.int .i64 c.kind).wf = true) (hw : c.word.length ≤ 9223372036854775807) :
    Calls Tryz.prog 31 #[.int .i64 how, c.v] w fun e w' => e = .returned (.int .i64 (jchk how c)) ∧ Below w.heap.size w w' := by
  have hchk := fun W => check_ref c W hkw hw
  have hfu := @full_of c.word
  obtain ⟨k, word, n⟩ := c
  unfold Cmd.v at hchk ⊢
  simp only at hchk hfu ⊢
  by_cases hr : how < 1 ∨ 4 < how
  · rw [jchk_range hr]
    clear hchk hfu
    generalize (⟨word.toArray⟩ : ByteArray) = sx at *
    rcases hr with hr | hr
    · go_enter Tryz.func31, Tryz.ntmps31
      go_wp2_with fail
      go_ret
      exact ⟨rfl, box_of⟩
    · have hr' : ¬ how < 1 := by omega
      go_enter Tryz.func31, Tryz.ntmps31
      go_wp2_with fail
      go_ret
      exact ⟨rfl, box_of⟩
  · by_cases h4 : how = 4
    · subst h4
      rw [jchk_again]
      clear hfu
      generalize (⟨word.toArray⟩ : ByteArray) = sx at *
      generalize chk ⟨k, word, n⟩ = r at *
      go_enter Tryz.func31, Tryz.ntmps31
      go_wp2_with fail
      refine (hchk _).mono ?_
      rintro e w1 ⟨rfl, hb1⟩
      have HB : Hid (Below w.heap.size w w1) := box_of.trans (hb1.mono (by simp))
      clear hb1 hchk
      go_wp2_with fail
      go_ret
      exact ⟨rfl, HB.out⟩
    · have h1 : ¬ how < 1 := by omega
      have h2 : ¬ 4 < how := by omega
      have h4' : (how == 4) = false := by simpa using h4
      have h4b : (how != 4) = true := by simpa using h4
      clear hchk hr
      by_cases hz : k = 0 ∧ word = [] ∧ n = 0
      · obtain ⟨rfl, rfl, rfl⟩ := hz
        rw [jchk_zero (by omega) (by omega) ⟨rfl, rfl, rfl⟩]
        clear hfu
        go_enter Tryz.func31, Tryz.ntmps31
        go_wp2_with fail
        go_ret
        exact ⟨rfl, box_of⟩
      · rw [jchk_some (by omega) (by omega) hz]
        obtain ⟨d, hd⟩ : ∃ d, (⟨word.toArray⟩ : ByteArray).toList.isEmpty = d := ⟨_, rfl⟩
        have hfin : ¬ (k = 0 ∧ d = true ∧ n = 0) := by
          rintro ⟨h1, h2, h3⟩
          apply hz
          refine ⟨h1, ?_, h3⟩
          cases word with
          | nil => rfl
          | cons x r => rw [hfu (by simp)] at hd; rw [← hd] at h2; cases h2
        clear hz hfu
        generalize (⟨word.toArray⟩ : ByteArray) = sx at *
        go_enter Tryz.func31, Tryz.ntmps31
        go_wp2_with fail
        all_goals first | (go_ret; exact ⟨rfl, box_of⟩) | (exfalso; apply hfin; simp_all)
end Go.Proofs.YtfkddfmbgbaefaaGreatDoor
namespace Go.Gs
open Go.RowKit
set_option linter.unusedVariables false

section
variable {P : Program} {ops : Array Oper} {Q : Exit → Act → World → Prop}

theorem count_set_true {l : List Bool} {i : Nat} (h : l[i]? = some false) : (l.set i true).count false + 1 = l.count false := by
  induction l generalizing i with
  | nil => simp at h
  | cons b l ih =>
    cases i with
    | zero =>
      simp only [List.getElem?_cons_zero, Option.some.injEq] at h
      subst h
      simp
    | succ i =>
      simp only [List.getElem?_cons_succ] at h
      have := ih h
      simp only [List.set_cons_succ, List.count_cons]
      omega
theorem getD_false {listed : Array Bool} {i : Nat} (h : listed.getD i true = false) : listed.toList[i]? = some false ∧ i < listed.size := by
  rw [Array.getD_eq_getD_getElem?] at h
  cases hl : listed[i]? with
  | none => rw [hl] at h; cases h
  | some b =>
    rw [hl] at h
    simp only [Option.getD_some] at h
    subst h
    exact ⟨by simpa using hl, (Array.getElem?_eq_some_iff.1 hl).1⟩

/-- What every ready operation keeps, all of them keep. -/
theorem wpAny_inv (hac : ∀ (i : Nat) (o : Oper), ops[i]? = some o → ∀ e ∈ o.after, e.on < i) (Inv : (Nat → Bool) → Act → World → Prop)
    (hstep : ∀ (L : Nat → Bool) (i : Nat) (o : Oper) (a : Act) (w : World), ops[i]? = some o → L i = false → (∀ e ∈ o.after, Region.binds .any e = true → L e.on = true) → Inv L a w → wpOp P ops Q i (fun a' w' => Inv (fun j => if j = i then true else L j) a' w') a w)
    (hend : ∀ (L : Nat → Bool) (a : Act) (w : World), (∀ i, i < ops.size → L i = true) → Inv L a w → Q .normal a w) :
    ∀ (fuel : Nat) (listed : Array Bool) (a : Act) (w : World), listed.size = ops.size → listed.toList.count false ≤ fuel → Inv (fun j => listed.getD j false) a w → wpAny P .any ops Q fuel listed a w := by
  have hall : ∀ (listed : Array Bool), listed.size = ops.size → Region.ready .any ops listed = [] → ∀ i, i < ops.size → listed.getD i false = true := by
    intro listed hs hr i
    induction i using Nat.strongRecOn with
    | ind i ih =>
      intro hi
      cases hl : listed[i]? with
      | none => rw [Array.getElem?_eq_none_iff] at hl; omega
      | some b =>
        cases b with
        | true => rw [Array.getD_eq_getD_getElem?, hl]; rfl
        | false =>
          exfalso
          have : i ∈ Region.ready .any ops listed := mem_ready.2 ⟨by rw [Array.getD_eq_getD_getElem?, hl]; rfl, ops[i], by simp [hi], fun e he hb => ih e.on (hac i _ (by simp [hi]) e he) (by have := hac i _ (show ops[i]? = some ops[i] by simp [hi]) e he; omega)⟩
          rw [hr] at this
          cases this
  intro fuel
  induction fuel with
  | zero =>
    intro listed a w hs hc hI
    have hr : Region.ready .any ops listed = [] := by
      rw [List.eq_nil_iff_forall_not_mem]
      intro i hi
      obtain ⟨h1, _⟩ := mem_ready.1 hi
      have h2 := (getD_false h1).1
      have : false ∈ listed.toList := List.mem_of_getElem? h2
      have := List.count_pos_iff.2 this
      omega
    exact ⟨hr, hend _ a w (hall listed hs hr) hI⟩
  | succ fuel ih =>
    intro listed a w hs hc hI
    refine ⟨fun hr => hend _ a w (hall listed hs hr) hI, fun i hi => ?_⟩
    obtain ⟨h1, o, ho, h2⟩ := mem_ready.1 hi
    obtain ⟨h3, h4⟩ := getD_false h1
    have hLi : listed.getD i false = false := by rw [Array.getD_eq_getD_getElem?]; have : listed[i]? = some false := by simpa using h3
                                                 rw [this]; rfl
    refine wpOp_mono ?_ (hstep _ i o a w ho hLi h2 hI)
    intro a' w' hI'
    refine ih _ a' w' (by simp [hs]) ?_ ?_
    · have := count_set_true h3
      rw [Array.toList_setIfInBounds]
      omega
    · have e : (fun j => (listed.setIfInBounds i true).getD j false) = fun j => if j = i then true else listed.getD j false := by
        funext j
        by_cases hj : j = i
        · subst hj
          rw [if_pos rfl, Array.getD_eq_getD_getElem?, Array.getElem?_setIfInBounds_self_of_lt h4]
          rfl
        · rw [if_neg hj, getD_set_ne false (fun e => hj e.symm)]
      rw [e]
      exact hI'
theorem wp_region_inv {id : Nat} {a : Act} {w : World} (hm : P.follows .mixedOrders = true) (hac : ((List.range ops.size).all fun i => ((ops[i]?).map (·.after.all fun e => decide (e.on < i))).getD true) = true) (Inv : (Nat → Bool) → Act → World → Prop)
    (hstep : ∀ (L : Nat → Bool) (i : Nat) (o : Oper) (a : Act) (w : World), ops[i]? = some o → L i = false → (∀ e ∈ o.after, Region.binds .any e = true → L e.on = true) → Inv L a w → wpOp P ops Q i (fun a' w' => Inv (fun j => if j = i then true else L j) a' w') a w)
    (hend : ∀ (L : Nat → Bool) (a : Act) (w : World), (∀ i, i < ops.size → L i = true) → Inv L a w → Q .normal a w)
    (h0 : Inv (fun _ => false) a { w with drawn := w.drawn + 1 }) : (Code.region id ops true).wp P Q a w := by
  refine wp_region_any hm (wpAny_inv ?_ Inv hstep hend ops.size _ a _ (by simp) (by simp) ?_)
  · intro i o ho e he
    have hi : i < ops.size := (Array.getElem?_eq_some_iff.1 ho).1
    have := List.all_eq_true.1 hac i (List.mem_range.2 hi)
    rw [ho] at this
    simp only [Option.map_some, Option.getD_some, Array.all_eq_true_iff_forall_mem, decide_eq_true_eq] at this
    exact this e he
  · have e : (fun j => (Array.replicate ops.size false).getD j false) = fun _ => false := by
      funext j
      rw [Array.getD_eq_getD_getElem?]
      cases h : (Array.replicate ops.size false)[j]? with
      | none => rfl
      | some b =>
        have := Array.mem_of_getElem? h
        rw [Array.mem_replicate] at this
        rw [this.2]; rfl
    rw [e]; exact h0
end
end Go.Gs
namespace Go.Proofs.YtfkddfmbgbaefaaGreatDoor
open Go.RowKit Go.Gs Go.Maps
set_option linter.unusedVariables false
set_option linter.unusedSimpArgs false

def v1 (L : Nat → Bool) (k : Int) : Int := if k = 6 then (if L 1 then 2 else 0) else if k = 8 then (if L 2 then 3 else 0) else if k = 7 then (if L 3 then 4 else 0) else if k = 9 then (if L 4 then 4 else 0) else if k = 10 then (if L 5 then 4 else 0) else 0
def c1 (L : Nat → Bool) : Nat := (L 1).toNat + (L 2).toNat + (L 3).toNat + (L 4).toNat + (L 5).toNat
def v2 (L : Nat → Bool) (x : Bool) : Int := if x = true ∧ L 11 = true then 1 else 0
def allL : Nat → Bool := fun _ => true
def upd (L : Nat → Bool) (i : Nat) : Nat → Bool := fun j => if j = i then true else L j
theorem ev_ne {a : Act} {d s : Nat} {v : Value} (h : s ≠ d) : (a.put (some d) v).eval (.tmp s) = a.eval (.tmp s) := by
  simp only [Act.put, Act.eval]
  rw [Array.getD_eq_getD_getElem?, Array.getD_eq_getD_getElem?, Array.getElem?_setIfInBounds_ne (Ne.symm h)]
theorem ev_eq {a : Act} {d : Nat} {v : Value} (h : d < a.tmps.size) : (a.put (some d) v).eval (.tmp d) = v := by
  simp only [Act.put, Act.eval]
  rw [Array.getD_eq_getD_getElem?, Array.getElem?_setIfInBounds_self_of_lt h]
  rfl
theorem ev_const {a : Act} {v : Value} : a.eval (.const v) = v := rfl
theorem ev_none {a : Act} {s : Nat} {v : Value} : (a.put none v).eval (.tmp s) = a.eval (.tmp s) := rfl
theorem sz_put {a : Act} {d : Option Nat} {v : Value} : (a.put d v).tmps.size = a.tmps.size := by cases d <;> simp [Act.put]
theorem df_put {a : Act} {d : Option Nat} {v : Value} : (a.put d v).defers = a.defers := by cases d <;> rfl
theorem isMap_owns {w : World} {k : TypeId} {R : Value → Option (DataW Unit × List MemPlace)} {b n : Nat} {D : DataW Unit} (h : w.ownsMap Tryz.prog k R b n D) : IsMap D := by
  obtain ⟨es, clock, _, _, _, rfl⟩ := h
  exact ⟨_, rfl⟩
theorem map_below {w w' : World} {k : TypeId} {R : Value → Option (DataW Unit × List MemPlace)} {b n : Nat} {D : DataW Unit} (h : w.ownsMap Tryz.prog k R b n D) (hb : Below w.heap.size w w') : w'.ownsMap Tryz.prog k R b n D := by
  have hlt := h.lt
  obtain ⟨es, clock, h1, h2⟩ := h
  exact ⟨es, clock, (hb.block b hlt).trans h1, h2⟩
theorem elemInt (z : Int) (hz : (Lit.int .i64 z).wf = true) : plainElem (H := Unit) Tryz.prog 3 (.int .i64 z) = some (.lit (.int .i64 z), []) := plainElem_int Tryz.underlying3 hz
theorem zeroInt (w : World) : (zeroValue 3).run Tryz.prog w = .ok (.int .i64 0) w := by kernel_rfl
theorem keyBool : Keyed Tryz.prog 4 := bool_keyed Tryz.underlying4

structure HF (w : World) (c : Cmd) (L : Nat → Bool) (a : Act) (W : World) : Prop where
  sz : a.tmps.size = 14
  df : a.defers = []
  e1 : a.eval (.tmp 1) = .pointer (some ⟨w.heap.size, 0, none⟩)
  be : Below (w.heap.size + 1) (w.alloc (.cells #[.int .i64 c.kind, .string ⟨c.word.toArray⟩, .int .i64 c.n] 23)) W
  m1 : L 0 = true → ∃ b D, a.eval (.tmp 3) = .map (some b) ∧ w.heap.size + 1 ≤ b ∧ W.ownsMap Tryz.prog 3 (plainElem (H := Unit) Tryz.prog 3) b (c1 L) D ∧ ∀ k, D.atKey (.int .i64 k) (.lit (.int .i64 0)) = .lit (.int .i64 (v1 L k))
  m2 : L 10 = true → ∃ b D, a.eval (.tmp 8) = .map (some b) ∧ w.heap.size + 1 ≤ b ∧ W.ownsMap Tryz.prog 4 (plainElem (H := Unit) Tryz.prog 3) b (L 11).toNat D ∧ ∀ x, D.atKey (.bool x) (.lit (.int .i64 0)) = .lit (.int .i64 (v2 L x))
  ne : L 0 = true → L 10 = true → a.eval (.tmp 3) ≠ a.eval (.tmp 8)
  n0 : L 0 = false → v1 L = fun _ => 0
  k0 : L 0 = false → c1 L = 0
  n10 : L 10 = false → L 11 = false
  k6 : L 6 = true → L 1 = true ∧ L 2 = true ∧ L 3 = true ∧ L 4 = true ∧ L 5 = true
  k12 : L 12 = true → L 11 = true
  s4 : L 6 = true → L 0 = true ∧ a.eval (.tmp 4) = a.eval (.tmp 3)
  s5 : L 7 = true → a.eval (.tmp 5) = .pointer (some ⟨w.heap.size, 0, none⟩)
  s6 : L 8 = true → a.eval (.tmp 6) = .int .i64 c.kind
  s7 : L 9 = true → a.eval (.tmp 7) = .int .i64 (v1 allL c.kind)
  s9 : L 12 = true → L 10 = true ∧ a.eval (.tmp 9) = a.eval (.tmp 8)
  s10 : L 13 = true → a.eval (.tmp 10) = c.v
  s11 : L 14 = true → a.eval (.tmp 11) = .bool (isEach c.kind)
  s12 : L 15 = true → a.eval (.tmp 12) = .int .i64 (v2 allL (isEach c.kind))
  s13 : L 16 = true → a.eval (.tmp 13) = .int .i64 (v1 allL c.kind + v2 allL (isEach c.kind))
  s2 : L 17 = true → a.eval (.tmp 2) = .int .i64 (v1 allL c.kind + v2 allL (isEach c.kind))
theorem hf0 {w W W' : World} {c : Cmd} {L : Nat → Bool} {a : Act} {v : Value} (h : HF w c L a W) (hL : L 0 = false) (hv : v = .map (some W.heap.size)) (hW : W' = W.alloc (.map #[] 0)) : HF w c (upd L 0) (a.put (some 3) v) W' := by
  subst hv hW
  have u : ∀ j, j ≠ 0 → upd L 0 j = L j := fun j hj => if_neg hj
  have ui : upd L 0 0 = true := if_pos rfl
  have hv1 : v1 (upd L 0) = v1 L := by funext k; simp [v1, upd]
  have hc1 : c1 (upd L 0) = c1 L := by simp [c1, upd]
  have hv2 : v2 (upd L 0) = v2 L := by funext x; simp [v2, upd]
  have hsz : w.heap.size + 1 ≤ W.heap.size := by have := h.be.size; simpa using this
  refine { sz := by rw [sz_put]; exact h.sz, df := by rw [df_put]; exact h.df, e1 := (ev_ne (by decide)).trans h.e1, be := h.be.alloc hsz _, m1 := ?_, m2 := ?_, ne := ?_, n0 := ?_, k0 := ?_, n10 := ?_, k6 := ?_, k12 := ?_, s4 := ?_, s5 := ?_, s6 := ?_, s7 := ?_, s9 := ?_, s10 := ?_, s11 := ?_, s12 := ?_, s13 := ?_, s2 := ?_ }
  · intro _
    refine ⟨W.heap.size, .map [], ev_eq (by rw [h.sz]; decide), hsz, ?_, fun k => ?_⟩
    · rw [hc1, h.k0 hL]; exact World.ownsMap_made W _ _ _
    · rw [hv1, h.n0 hL]; rfl
  · intro h10
    rw [u 10 (by decide)] at h10
    obtain ⟨b2, D2, h1, h2, h3, h4⟩ := h.m2 h10
    exact ⟨b2, D2, (ev_ne (by decide)).trans h1, h2, by rw [u 11 (by decide)]; exact (h3.alloc _), fun x => by rw [hv2]; exact h4 x⟩
  · intro _ h10
    rw [u 10 (by decide)] at h10
    obtain ⟨b2, D2, h1, h2, h3, h4⟩ := h.m2 h10
    rw [ev_eq (by rw [h.sz]; decide), (ev_ne (by decide)), h1]
    intro e
    injection e with e
    injection e with e
    have := h3.lt
    omega
  · intro e; rw [ui] at e; cases e
  · intro e; rw [ui] at e; cases e
  · intro e; rw [u 10 (by decide)] at e; rw [u 11 (by decide)]; exact h.n10 e
  · intro e; rw [u 6 (by decide)] at e; obtain ⟨q1, q2, q3, q4, q5⟩ := h.k6 e; simp [upd, q1, q2, q3, q4, q5]
  · intro e; rw [u 12 (by decide)] at e; have q := h.k12 e; simp [upd, q]
  · intro e; rw [u 6 (by decide)] at e; have := (h.s4 e).1; rw [hL] at this; cases this
  · intro e; rw [u 7 (by decide)] at e; rw [ev_ne (by decide)]; exact h.s5 e
  · intro e; rw [u 8 (by decide)] at e; rw [ev_ne (by decide)]; exact h.s6 e
  · intro e; rw [u 9 (by decide)] at e; rw [ev_ne (by decide)]; exact h.s7 e
  · intro e; rw [u 12 (by decide)] at e; exact ⟨by rw [u 10 (by decide)]; exact (h.s9 e).1, by rw [ev_ne (by decide), ev_ne (by decide)]; exact (h.s9 e).2⟩
  · intro e; rw [u 13 (by decide)] at e; rw [ev_ne (by decide)]; exact h.s10 e
  · intro e; rw [u 14 (by decide)] at e; rw [ev_ne (by decide)]; exact h.s11 e
  · intro e; rw [u 15 (by decide)] at e; rw [ev_ne (by decide)]; exact h.s12 e
  · intro e; rw [u 16 (by decide)] at e; rw [ev_ne (by decide)]; exact h.s13 e
  · intro e; rw [u 17 (by decide)] at e; rw [ev_ne (by decide)]; exact h.s2 e

theorem hf1 {w W W' : World} {c : Cmd} {L : Nat → Bool} {a : Act} {v : Value} (h : HF w c L a W) (hL : L 1 = false) (h0 : L 0 = true) (b : Nat) (D : DataW Unit) (he : a.eval (.tmp 3) = .map (some b)) (hb : w.heap.size + 1 ≤ b) (hD : IsMap D) (hk : ∀ k, D.atKey (.int .i64 k) (.lit (.int .i64 0)) = .lit (.int .i64 (v1 L k))) (ho : W'.ownsMap Tryz.prog 3 (plainElem (H := Unit) Tryz.prog 3) b (c1 L + 1) (D.put (.int .i64 6) (.lit (.int .i64 2)))) (hg : W.grownBy W' (some b)) : HF w c (upd L 1) (a.put none undef) W' := by
  have u : ∀ j, j ≠ 1 → upd L 1 j = L j := fun j hj => if_neg hj
  have ui : upd L 1 1 = true := if_pos rfl
  have hv2 : v2 (upd L 1) = v2 L := by funext x; simp [v2, upd]
  have hsz : w.heap.size + 1 ≤ W.heap.size := by have := h.be.size; simpa using this
  refine { sz := by rw [sz_put]; exact h.sz, df := by rw [df_put]; exact h.df, e1 := (ev_none (a := a) (s := 1) (v := undef)).trans h.e1, be := h.be.grown hg hsz (fun k hk => by injection hk with hk; omega), m1 := ?_, m2 := ?_, ne := ?_, n0 := ?_, k0 := ?_, n10 := ?_, k6 := ?_, k12 := ?_, s4 := ?_, s5 := ?_, s6 := ?_, s7 := ?_, s9 := ?_, s10 := ?_, s11 := ?_, s12 := ?_, s13 := ?_, s2 := ?_ }
  · intro _
    refine ⟨b, D.put (.int .i64 6) (.lit (.int .i64 2)), (ev_none (a := a) (s := 3) (v := undef)).trans he, hb, ?_, fun k => ?_⟩
    · have : c1 (upd L 1) = c1 L + 1 := by simp [c1, upd, hL] <;> omega
      rw [this]; exact ho
    · by_cases hk6 : k = 6
      · subst hk6
        rw [atKey_put_same hD (by trivial)]
        simp [v1, upd]
      · rw [atKey_put_other (by intro e; injection e with _ e; exact hk6 e), hk k]
        have : v1 (upd L 1) k = v1 L k := by simp [v1, upd, hk6]
        rw [this]
  · intro h10
    rw [u 10 (by decide)] at h10
    obtain ⟨b2, D2, h1, h2, h3, h4⟩ := h.m2 h10
    exact ⟨b2, D2, (ev_none (a := a) (s := 8) (v := undef)).trans h1, h2, by rw [u 11 (by decide)]; exact (h3.kept hg (fun e => by injection e with e; exact h.ne h0 h10 (by rw [he, h1, e]))), fun x => by rw [hv2]; exact h4 x⟩
  · intro h0' h10'
    rw [u 0 (by decide)] at h0'
    rw [u 10 (by decide)] at h10'
    rw [(ev_none (a := a) (s := 3) (v := undef)), (ev_none (a := a) (s := 8) (v := undef))]
    exact h.ne h0' h10'
  · intro e; rw [u 0 (by decide), h0] at e; cases e
  · intro e; rw [u 0 (by decide), h0] at e; cases e
  · intro e; rw [u 10 (by decide)] at e; rw [u 11 (by decide)]; exact h.n10 e
  · intro e; rw [u 6 (by decide)] at e; obtain ⟨q1, q2, q3, q4, q5⟩ := h.k6 e; simp [upd, q1, q2, q3, q4, q5]
  · intro e; rw [u 12 (by decide)] at e; have q := h.k12 e; simp [upd, q]
  · intro e; rw [u 6 (by decide)] at e; exact ⟨by rw [u 0 (by decide)]; exact (h.s4 e).1, (h.s4 e).2⟩
  · intro e; rw [u 7 (by decide)] at e; exact h.s5 e
  · intro e; rw [u 8 (by decide)] at e; exact h.s6 e
  · intro e; rw [u 9 (by decide)] at e; exact h.s7 e
  · intro e; rw [u 12 (by decide)] at e; exact ⟨by rw [u 10 (by decide)]; exact (h.s9 e).1, (h.s9 e).2⟩
  · intro e; rw [u 13 (by decide)] at e; exact h.s10 e
  · intro e; rw [u 14 (by decide)] at e; exact h.s11 e
  · intro e; rw [u 15 (by decide)] at e; exact h.s12 e
  · intro e; rw [u 16 (by decide)] at e; exact h.s13 e
  · intro e; rw [u 17 (by decide)] at e; exact h.s2 e

theorem hf2 {w W W' : World} {c : Cmd} {L : Nat → Bool} {a : Act} {v : Value} (h : HF w c L a W) (hL : L 2 = false) (h0 : L 0 = true) (b : Nat) (D : DataW Unit) (he : a.eval (.tmp 3) = .map (some b)) (hb : w.heap.size + 1 ≤ b) (hD : IsMap D) (hk : ∀ k, D.atKey (.int .i64 k) (.lit (.int .i64 0)) = .lit (.int .i64 (v1 L k))) (ho : W'.ownsMap Tryz.prog 3 (plainElem (H := Unit) Tryz.prog 3) b (c1 L + 1) (D.put (.int .i64 8) (.lit (.int .i64 3)))) (hg : W.grownBy W' (some b)) : HF w c (upd L 2) (a.put none undef) W' := by
  have u : ∀ j, j ≠ 2 → upd L 2 j = L j := fun j hj => if_neg hj
  have ui : upd L 2 2 = true := if_pos rfl
  have hv2 : v2 (upd L 2) = v2 L := by funext x; simp [v2, upd]
  have hsz : w.heap.size + 1 ≤ W.heap.size := by have := h.be.size; simpa using this
  refine { sz := by rw [sz_put]; exact h.sz, df := by rw [df_put]; exact h.df, e1 := (ev_none (a := a) (s := 1) (v := undef)).trans h.e1, be := h.be.grown hg hsz (fun k hk => by injection hk with hk; omega), m1 := ?_, m2 := ?_, ne := ?_, n0 := ?_, k0 := ?_, n10 := ?_, k6 := ?_, k12 := ?_, s4 := ?_, s5 := ?_, s6 := ?_, s7 := ?_, s9 := ?_, s10 := ?_, s11 := ?_, s12 := ?_, s13 := ?_, s2 := ?_ }
  · intro _
    refine ⟨b, D.put (.int .i64 8) (.lit (.int .i64 3)), (ev_none (a := a) (s := 3) (v := undef)).trans he, hb, ?_, fun k => ?_⟩
    · have : c1 (upd L 2) = c1 L + 1 := by simp [c1, upd, hL] <;> omega
      rw [this]; exact ho
    · by_cases hk6 : k = 8
      · subst hk6
        rw [atKey_put_same hD (by trivial)]
        simp [v1, upd]
      · rw [atKey_put_other (by intro e; injection e with _ e; exact hk6 e), hk k]
        have : v1 (upd L 2) k = v1 L k := by simp [v1, upd, hk6]
        rw [this]
  · intro h10
    rw [u 10 (by decide)] at h10
    obtain ⟨b2, D2, h1, h2, h3, h4⟩ := h.m2 h10
    exact ⟨b2, D2, (ev_none (a := a) (s := 8) (v := undef)).trans h1, h2, by rw [u 11 (by decide)]; exact (h3.kept hg (fun e => by injection e with e; exact h.ne h0 h10 (by rw [he, h1, e]))), fun x => by rw [hv2]; exact h4 x⟩
  · intro h0' h10'
    rw [u 0 (by decide)] at h0'
    rw [u 10 (by decide)] at h10'
    rw [(ev_none (a := a) (s := 3) (v := undef)), (ev_none (a := a) (s := 8) (v := undef))]
    exact h.ne h0' h10'
  · intro e; rw [u 0 (by decide), h0] at e; cases e
  · intro e; rw [u 0 (by decide), h0] at e; cases e
  · intro e; rw [u 10 (by decide)] at e; rw [u 11 (by decide)]; exact h.n10 e
  · intro e; rw [u 6 (by decide)] at e; obtain ⟨q1, q2, q3, q4, q5⟩ := h.k6 e; simp [upd, q1, q2, q3, q4, q5]
  · intro e; rw [u 12 (by decide)] at e; have q := h.k12 e; simp [upd, q]
  · intro e; rw [u 6 (by decide)] at e; exact ⟨by rw [u 0 (by decide)]; exact (h.s4 e).1, (h.s4 e).2⟩
  · intro e; rw [u 7 (by decide)] at e; exact h.s5 e
  · intro e; rw [u 8 (by decide)] at e; exact h.s6 e
  · intro e; rw [u 9 (by decide)] at e; exact h.s7 e
  · intro e; rw [u 12 (by decide)] at e; exact ⟨by rw [u 10 (by decide)]; exact (h.s9 e).1, (h.s9 e).2⟩
  · intro e; rw [u 13 (by decide)] at e; exact h.s10 e
  · intro e; rw [u 14 (by decide)] at e; exact h.s11 e
  · intro e; rw [u 15 (by decide)] at e; exact h.s12 e
  · intro e; rw [u 16 (by decide)] at e; exact h.s13 e
  · intro e; rw [u 17 (by decide)] at e; exact h.s2 e

theorem hf3 {w W W' : World} {c : Cmd} {L : Nat → Bool} {a : Act} {v : Value} (h : HF w c L a W) (hL : L 3 = false) (h0 : L 0 = true) (b : Nat) (D : DataW Unit) (he : a.eval (.tmp 3) = .map (some b)) (hb : w.heap.size + 1 ≤ b) (hD : IsMap D) (hk : ∀ k, D.atKey (.int .i64 k) (.lit (.int .i64 0)) = .lit (.int .i64 (v1 L k))) (ho : W'.ownsMap Tryz.prog 3 (plainElem (H := Unit) Tryz.prog 3) b (c1 L + 1) (D.put (.int .i64 7) (.lit (.int .i64 4)))) (hg : W.grownBy W' (some b)) : HF w c (upd L 3) (a.put none undef) W' := by
  have u : ∀ j, j ≠ 3 → upd L 3 j = L j := fun j hj => if_neg hj
  have ui : upd L 3 3 = true := if_pos rfl
  have hv2 : v2 (upd L 3) = v2 L := by funext x; simp [v2, upd]
  have hsz : w.heap.size + 1 ≤ W.heap.size := by have := h.be.size; simpa using this
  refine { sz := by rw [sz_put]; exact h.sz, df := by rw [df_put]; exact h.df, e1 := (ev_none (a := a) (s := 1) (v := undef)).trans h.e1, be := h.be.grown hg hsz (fun k hk => by injection hk with hk; omega), m1 := ?_, m2 := ?_, ne := ?_, n0 := ?_, k0 := ?_, n10 := ?_, k6 := ?_, k12 := ?_, s4 := ?_, s5 := ?_, s6 := ?_, s7 := ?_, s9 := ?_, s10 := ?_, s11 := ?_, s12 := ?_, s13 := ?_, s2 := ?_ }
  · intro _
    refine ⟨b, D.put (.int .i64 7) (.lit (.int .i64 4)), (ev_none (a := a) (s := 3) (v := undef)).trans he, hb, ?_, fun k => ?_⟩
    · have : c1 (upd L 3) = c1 L + 1 := by simp [c1, upd, hL] <;> omega
      rw [this]; exact ho
    · by_cases hk6 : k = 7
      · subst hk6
        rw [atKey_put_same hD (by trivial)]
        simp [v1, upd]
      · rw [atKey_put_other (by intro e; injection e with _ e; exact hk6 e), hk k]
        have : v1 (upd L 3) k = v1 L k := by simp [v1, upd, hk6]
        rw [this]
  · intro h10
    rw [u 10 (by decide)] at h10
    obtain ⟨b2, D2, h1, h2, h3, h4⟩ := h.m2 h10
    exact ⟨b2, D2, (ev_none (a := a) (s := 8) (v := undef)).trans h1, h2, by rw [u 11 (by decide)]; exact (h3.kept hg (fun e => by injection e with e; exact h.ne h0 h10 (by rw [he, h1, e]))), fun x => by rw [hv2]; exact h4 x⟩
  · intro h0' h10'
    rw [u 0 (by decide)] at h0'
    rw [u 10 (by decide)] at h10'
    rw [(ev_none (a := a) (s := 3) (v := undef)), (ev_none (a := a) (s := 8) (v := undef))]
    exact h.ne h0' h10'
  · intro e; rw [u 0 (by decide), h0] at e; cases e
  · intro e; rw [u 0 (by decide), h0] at e; cases e
  · intro e; rw [u 10 (by decide)] at e; rw [u 11 (by decide)]; exact h.n10 e
  · intro e; rw [u 6 (by decide)] at e; obtain ⟨q1, q2, q3, q4, q5⟩ := h.k6 e; simp [upd, q1, q2, q3, q4, q5]
  · intro e; rw [u 12 (by decide)] at e; have q := h.k12 e; simp [upd, q]
  · intro e; rw [u 6 (by decide)] at e; exact ⟨by rw [u 0 (by decide)]; exact (h.s4 e).1, (h.s4 e).2⟩
  · intro e; rw [u 7 (by decide)] at e; exact h.s5 e
  · intro e; rw [u 8 (by decide)] at e; exact h.s6 e
  · intro e; rw [u 9 (by decide)] at e; exact h.s7 e
  · intro e; rw [u 12 (by decide)] at e; exact ⟨by rw [u 10 (by decide)]; exact (h.s9 e).1, (h.s9 e).2⟩
  · intro e; rw [u 13 (by decide)] at e; exact h.s10 e
  · intro e; rw [u 14 (by decide)] at e; exact h.s11 e
  · intro e; rw [u 15 (by decide)] at e; exact h.s12 e
  · intro e; rw [u 16 (by decide)] at e; exact h.s13 e
  · intro e; rw [u 17 (by decide)] at e; exact h.s2 e

theorem hf4 {w W W' : World} {c : Cmd} {L : Nat → Bool} {a : Act} {v : Value} (h : HF w c L a W) (hL : L 4 = false) (h0 : L 0 = true) (b : Nat) (D : DataW Unit) (he : a.eval (.tmp 3) = .map (some b)) (hb : w.heap.size + 1 ≤ b) (hD : IsMap D) (hk : ∀ k, D.atKey (.int .i64 k) (.lit (.int .i64 0)) = .lit (.int .i64 (v1 L k))) (ho : W'.ownsMap Tryz.prog 3 (plainElem (H := Unit) Tryz.prog 3) b (c1 L + 1) (D.put (.int .i64 9) (.lit (.int .i64 4)))) (hg : W.grownBy W' (some b)) : HF w c (upd L 4) (a.put none undef) W' := by
  have u : ∀ j, j ≠ 4 → upd L 4 j = L j := fun j hj => if_neg hj
  have ui : upd L 4 4 = true := if_pos rfl
  have hv2 : v2 (upd L 4) = v2 L := by funext x; simp [v2, upd]
  have hsz : w.heap.size + 1 ≤ W.heap.size := by have := h.be.size; simpa using this
  refine { sz := by rw [sz_put]; exact h.sz, df := by rw [df_put]; exact h.df, e1 := (ev_none (a := a) (s := 1) (v := undef)).trans h.e1, be := h.be.grown hg hsz (fun k hk => by injection hk with hk; omega), m1 := ?_, m2 := ?_, ne := ?_, n0 := ?_, k0 := ?_, n10 := ?_, k6 := ?_, k12 := ?_, s4 := ?_, s5 := ?_, s6 := ?_, s7 := ?_, s9 := ?_, s10 := ?_, s11 := ?_, s12 := ?_, s13 := ?_, s2 := ?_ }
  · intro _
    refine ⟨b, D.put (.int .i64 9) (.lit (.int .i64 4)), (ev_none (a := a) (s := 3) (v := undef)).trans he, hb, ?_, fun k => ?_⟩
    · have : c1 (upd L 4) = c1 L + 1 := by simp [c1, upd, hL] <;> omega
      rw [this]; exact ho
    · by_cases hk6 : k = 9
      · subst hk6
        rw [atKey_put_same hD (by trivial)]
        simp [v1, upd]
      · rw [atKey_put_other (by intro e; injection e with _ e; exact hk6 e), hk k]
        have : v1 (upd L 4) k = v1 L k := by simp [v1, upd, hk6]
        rw [this]
  · intro h10
    rw [u 10 (by decide)] at h10
    obtain ⟨b2, D2, h1, h2, h3, h4⟩ := h.m2 h10
    exact ⟨b2, D2, (ev_none (a := a) (s := 8) (v := undef)).trans h1, h2, by rw [u 11 (by decide)]; exact (h3.kept hg (fun e => by injection e with e; exact h.ne h0 h10 (by rw [he, h1, e]))), fun x => by rw [hv2]; exact h4 x⟩
  · intro h0' h10'
    rw [u 0 (by decide)] at h0'
    rw [u 10 (by decide)] at h10'
    rw [(ev_none (a := a) (s := 3) (v := undef)), (ev_none (a := a) (s := 8) (v := undef))]
    exact h.ne h0' h10'
  · intro e; rw [u 0 (by decide), h0] at e; cases e
  · intro e; rw [u 0 (by decide), h0] at e; cases e
  · intro e; rw [u 10 (by decide)] at e; rw [u 11 (by decide)]; exact h.n10 e
  · intro e; rw [u 6 (by decide)] at e; obtain ⟨q1, q2, q3, q4, q5⟩ := h.k6 e; simp [upd, q1, q2, q3, q4, q5]
  · intro e; rw [u 12 (by decide)] at e; have q := h.k12 e; simp [upd, q]
  · intro e; rw [u 6 (by decide)] at e; exact ⟨by rw [u 0 (by decide)]; exact (h.s4 e).1, (h.s4 e).2⟩
  · intro e; rw [u 7 (by decide)] at e; exact h.s5 e
  · intro e; rw [u 8 (by decide)] at e; exact h.s6 e
  · intro e; rw [u 9 (by decide)] at e; exact h.s7 e
  · intro e; rw [u 12 (by decide)] at e; exact ⟨by rw [u 10 (by decide)]; exact (h.s9 e).1, (h.s9 e).2⟩
  · intro e; rw [u 13 (by decide)] at e; exact h.s10 e
  · intro e; rw [u 14 (by decide)] at e; exact h.s11 e
  · intro e; rw [u 15 (by decide)] at e; exact h.s12 e
  · intro e; rw [u 16 (by decide)] at e; exact h.s13 e
  · intro e; rw [u 17 (by decide)] at e; exact h.s2 e

theorem hf5 {w W W' : World} {c : Cmd} {L : Nat → Bool} {a : Act} {v : Value} (h : HF w c L a W) (hL : L 5 = false) (h0 : L 0 = true) (b : Nat) (D : DataW Unit) (he : a.eval (.tmp 3) = .map (some b)) (hb : w.heap.size + 1 ≤ b) (hD : IsMap D) (hk : ∀ k, D.atKey (.int .i64 k) (.lit (.int .i64 0)) = .lit (.int .i64 (v1 L k))) (ho : W'.ownsMap Tryz.prog 3 (plainElem (H := Unit) Tryz.prog 3) b (c1 L + 1) (D.put (.int .i64 10) (.lit (.int .i64 4)))) (hg : W.grownBy W' (some b)) : HF w c (upd L 5) (a.put none undef) W' := by
  have u : ∀ j, j ≠ 5 → upd L 5 j = L j := fun j hj => if_neg hj
  have ui : upd L 5 5 = true := if_pos rfl
  have hv2 : v2 (upd L 5) = v2 L := by funext x; simp [v2, upd]
  have hsz : w.heap.size + 1 ≤ W.heap.size := by have := h.be.size; simpa using this
  refine { sz := by rw [sz_put]; exact h.sz, df := by rw [df_put]; exact h.df, e1 := (ev_none (a := a) (s := 1) (v := undef)).trans h.e1, be := h.be.grown hg hsz (fun k hk => by injection hk with hk; omega), m1 := ?_, m2 := ?_, ne := ?_, n0 := ?_, k0 := ?_, n10 := ?_, k6 := ?_, k12 := ?_, s4 := ?_, s5 := ?_, s6 := ?_, s7 := ?_, s9 := ?_, s10 := ?_, s11 := ?_, s12 := ?_, s13 := ?_, s2 := ?_ }
  · intro _
    refine ⟨b, D.put (.int .i64 10) (.lit (.int .i64 4)), (ev_none (a := a) (s := 3) (v := undef)).trans he, hb, ?_, fun k => ?_⟩
    · have : c1 (upd L 5) = c1 L + 1 := by simp [c1, upd, hL] <;> omega
      rw [this]; exact ho
    · by_cases hk6 : k = 10
      · subst hk6
        rw [atKey_put_same hD (by trivial)]
        simp [v1, upd]
      · rw [atKey_put_other (by intro e; injection e with _ e; exact hk6 e), hk k]
        have : v1 (upd L 5) k = v1 L k := by simp [v1, upd, hk6]
        rw [this]
  · intro h10
    rw [u 10 (by decide)] at h10
    obtain ⟨b2, D2, h1, h2, h3, h4⟩ := h.m2 h10
    exact ⟨b2, D2, (ev_none (a := a) (s := 8) (v := undef)).trans h1, h2, by rw [u 11 (by decide)]; exact (h3.kept hg (fun e => by injection e with e; exact h.ne h0 h10 (by rw [he, h1, e]))), fun x => by rw [hv2]; exact h4 x⟩
  · intro h0' h10'
    rw [u 0 (by decide)] at h0'
    rw [u 10 (by decide)] at h10'
    rw [(ev_none (a := a) (s := 3) (v := undef)), (ev_none (a := a) (s := 8) (v := undef))]
    exact h.ne h0' h10'
  · intro e; rw [u 0 (by decide), h0] at e; cases e
  · intro e; rw [u 0 (by decide), h0] at e; cases e
  · intro e; rw [u 10 (by decide)] at e; rw [u 11 (by decide)]; exact h.n10 e
  · intro e; rw [u 6 (by decide)] at e; obtain ⟨q1, q2, q3, q4, q5⟩ := h.k6 e; simp [upd, q1, q2, q3, q4, q5]
  · intro e; rw [u 12 (by decide)] at e; have q := h.k12 e; simp [upd, q]
  · intro e; rw [u 6 (by decide)] at e; exact ⟨by rw [u 0 (by decide)]; exact (h.s4 e).1, (h.s4 e).2⟩
  · intro e; rw [u 7 (by decide)] at e; exact h.s5 e
  · intro e; rw [u 8 (by decide)] at e; exact h.s6 e
  · intro e; rw [u 9 (by decide)] at e; exact h.s7 e
  · intro e; rw [u 12 (by decide)] at e; exact ⟨by rw [u 10 (by decide)]; exact (h.s9 e).1, (h.s9 e).2⟩
  · intro e; rw [u 13 (by decide)] at e; exact h.s10 e
  · intro e; rw [u 14 (by decide)] at e; exact h.s11 e
  · intro e; rw [u 15 (by decide)] at e; exact h.s12 e
  · intro e; rw [u 16 (by decide)] at e; exact h.s13 e
  · intro e; rw [u 17 (by decide)] at e; exact h.s2 e

theorem hf6 {w W W' : World} {c : Cmd} {L : Nat → Bool} {a : Act} {v : Value} (h : HF w c L a W) (hL : L 6 = false) (h0 : L 0 = true) (hd : L 1 = true ∧ L 2 = true ∧ L 3 = true ∧ L 4 = true ∧ L 5 = true) (hv : v = a.eval (.tmp 3)) : HF w c (upd L 6) (a.put (some 4) v) W := by
  subst hv
  have u : ∀ j, j ≠ 6 → upd L 6 j = L j := fun j hj => if_neg hj
  have ui : upd L 6 6 = true := if_pos rfl
  have hv1 : v1 (upd L 6) = v1 L := by funext k; simp [v1, upd]
  have hc1 : c1 (upd L 6) = c1 L := by simp [c1, upd]
  have hv2 : v2 (upd L 6) = v2 L := by funext x; simp [v2, upd]
  refine { sz := by rw [sz_put]; exact h.sz, df := by rw [df_put]; exact h.df, e1 := (ev_ne (by decide)).trans h.e1, be := h.be, m1 := ?_, m2 := ?_, ne := ?_, n0 := ?_, k0 := ?_, n10 := ?_, k6 := ?_, k12 := ?_, s4 := ?_, s5 := ?_, s6 := ?_, s7 := ?_, s9 := ?_, s10 := ?_, s11 := ?_, s12 := ?_, s13 := ?_, s2 := ?_ }
  · intro h0
    rw [u 0 (by decide)] at h0
    obtain ⟨b1, D1, h1, h2, h3, h4⟩ := h.m1 h0
    exact ⟨b1, D1, (ev_ne (by decide)).trans h1, h2, by rw [hc1]; exact h3, fun k => by rw [hv1]; exact h4 k⟩
  · intro h10
    rw [u 10 (by decide)] at h10
    obtain ⟨b2, D2, h1, h2, h3, h4⟩ := h.m2 h10
    exact ⟨b2, D2, (ev_ne (by decide)).trans h1, h2, by rw [u 11 (by decide)]; exact h3, fun x => by rw [hv2]; exact h4 x⟩
  · intro h0' h10'
    rw [u 0 (by decide)] at h0'
    rw [u 10 (by decide)] at h10'
    rw [(ev_ne (by decide)), (ev_ne (by decide))]
    exact h.ne h0' h10'
  · intro e; rw [u 0 (by decide)] at e; rw [hv1]; exact h.n0 e
  · intro e; rw [u 0 (by decide)] at e; rw [hc1]; exact h.k0 e
  · intro e; rw [u 10 (by decide)] at e; rw [u 11 (by decide)]; exact h.n10 e
  · intro _; obtain ⟨q1, q2, q3, q4, q5⟩ := hd; simp [upd, q1, q2, q3, q4, q5]
  · intro e; rw [u 12 (by decide)] at e; have q := h.k12 e; simp [upd, q]
  · intro _; exact ⟨by rw [u 0 (by decide)]; exact h0, (ev_eq (by rw [h.sz]; decide)).trans (ev_ne (by decide)).symm⟩
  · intro e; rw [u 7 (by decide)] at e; rw [ev_ne (by decide)]; exact h.s5 e
  · intro e; rw [u 8 (by decide)] at e; rw [ev_ne (by decide)]; exact h.s6 e
  · intro e; rw [u 9 (by decide)] at e; rw [ev_ne (by decide)]; exact h.s7 e
  · intro e; rw [u 12 (by decide)] at e; exact ⟨by rw [u 10 (by decide)]; exact (h.s9 e).1, by rw [ev_ne (by decide), ev_ne (by decide)]; exact (h.s9 e).2⟩
  · intro e; rw [u 13 (by decide)] at e; rw [ev_ne (by decide)]; exact h.s10 e
  · intro e; rw [u 14 (by decide)] at e; rw [ev_ne (by decide)]; exact h.s11 e
  · intro e; rw [u 15 (by decide)] at e; rw [ev_ne (by decide)]; exact h.s12 e
  · intro e; rw [u 16 (by decide)] at e; rw [ev_ne (by decide)]; exact h.s13 e
  · intro e; rw [u 17 (by decide)] at e; rw [ev_ne (by decide)]; exact h.s2 e

theorem hf7 {w W W' : World} {c : Cmd} {L : Nat → Bool} {a : Act} {v : Value} (h : HF w c L a W) (hL : L 7 = false) (hv : v = .pointer (some ⟨w.heap.size, 0, none⟩)) : HF w c (upd L 7) (a.put (some 5) v) W := by
  subst hv
  have u : ∀ j, j ≠ 7 → upd L 7 j = L j := fun j hj => if_neg hj
  have ui : upd L 7 7 = true := if_pos rfl
  have hv1 : v1 (upd L 7) = v1 L := by funext k; simp [v1, upd]
  have hc1 : c1 (upd L 7) = c1 L := by simp [c1, upd]
  have hv2 : v2 (upd L 7) = v2 L := by funext x; simp [v2, upd]
  refine { sz := by rw [sz_put]; exact h.sz, df := by rw [df_put]; exact h.df, e1 := (ev_ne (by decide)).trans h.e1, be := h.be, m1 := ?_, m2 := ?_, ne := ?_, n0 := ?_, k0 := ?_, n10 := ?_, k6 := ?_, k12 := ?_, s4 := ?_, s5 := ?_, s6 := ?_, s7 := ?_, s9 := ?_, s10 := ?_, s11 := ?_, s12 := ?_, s13 := ?_, s2 := ?_ }
  · intro h0
    rw [u 0 (by decide)] at h0
    obtain ⟨b1, D1, h1, h2, h3, h4⟩ := h.m1 h0
    exact ⟨b1, D1, (ev_ne (by decide)).trans h1, h2, by rw [hc1]; exact h3, fun k => by rw [hv1]; exact h4 k⟩
  · intro h10
    rw [u 10 (by decide)] at h10
    obtain ⟨b2, D2, h1, h2, h3, h4⟩ := h.m2 h10
    exact ⟨b2, D2, (ev_ne (by decide)).trans h1, h2, by rw [u 11 (by decide)]; exact h3, fun x => by rw [hv2]; exact h4 x⟩
  · intro h0' h10'
    rw [u 0 (by decide)] at h0'
    rw [u 10 (by decide)] at h10'
    rw [(ev_ne (by decide)), (ev_ne (by decide))]
    exact h.ne h0' h10'
  · intro e; rw [u 0 (by decide)] at e; rw [hv1]; exact h.n0 e
  · intro e; rw [u 0 (by decide)] at e; rw [hc1]; exact h.k0 e
  · intro e; rw [u 10 (by decide)] at e; rw [u 11 (by decide)]; exact h.n10 e
  · intro e; rw [u 6 (by decide)] at e; obtain ⟨q1, q2, q3, q4, q5⟩ := h.k6 e; simp [upd, q1, q2, q3, q4, q5]
  · intro e; rw [u 12 (by decide)] at e; have q := h.k12 e; simp [upd, q]
  · intro e; rw [u 6 (by decide)] at e; exact ⟨by rw [u 0 (by decide)]; exact (h.s4 e).1, by rw [ev_ne (by decide), ev_ne (by decide)]; exact (h.s4 e).2⟩
  · intro _; exact ev_eq (by rw [h.sz]; decide)
  · intro e; rw [u 8 (by decide)] at e; rw [ev_ne (by decide)]; exact h.s6 e
  · intro e; rw [u 9 (by decide)] at e; rw [ev_ne (by decide)]; exact h.s7 e
  · intro e; rw [u 12 (by decide)] at e; exact ⟨by rw [u 10 (by decide)]; exact (h.s9 e).1, by rw [ev_ne (by decide), ev_ne (by decide)]; exact (h.s9 e).2⟩
  · intro e; rw [u 13 (by decide)] at e; rw [ev_ne (by decide)]; exact h.s10 e
  · intro e; rw [u 14 (by decide)] at e; rw [ev_ne (by decide)]; exact h.s11 e
  · intro e; rw [u 15 (by decide)] at e; rw [ev_ne (by decide)]; exact h.s12 e
  · intro e; rw [u 16 (by decide)] at e; rw [ev_ne (by decide)]; exact h.s13 e
  · intro e; rw [u 17 (by decide)] at e; rw [ev_ne (by decide)]; exact h.s2 e

theorem hf8 {w W W' : World} {c : Cmd} {L : Nat → Bool} {a : Act} {v : Value} (h : HF w c L a W) (hL : L 8 = false) (hv : v = .int .i64 c.kind) : HF w c (upd L 8) (a.put (some 6) v) W := by
  subst hv
  have u : ∀ j, j ≠ 8 → upd L 8 j = L j := fun j hj => if_neg hj
  have ui : upd L 8 8 = true := if_pos rfl
  have hv1 : v1 (upd L 8) = v1 L := by funext k; simp [v1, upd]
  have hc1 : c1 (upd L 8) = c1 L := by simp [c1, upd]
  have hv2 : v2 (upd L 8) = v2 L := by funext x; simp [v2, upd]
  refine { sz := by rw [sz_put]; exact h.sz, df := by rw [df_put]; exact h.df, e1 := (ev_ne (by decide)).trans h.e1, be := h.be, m1 := ?_, m2 := ?_, ne := ?_, n0 := ?_, k0 := ?_, n10 := ?_, k6 := ?_, k12 := ?_, s4 := ?_, s5 := ?_, s6 := ?_, s7 := ?_, s9 := ?_, s10 := ?_, s11 := ?_, s12 := ?_, s13 := ?_, s2 := ?_ }
  · intro h0
    rw [u 0 (by decide)] at h0
    obtain ⟨b1, D1, h1, h2, h3, h4⟩ := h.m1 h0
    exact ⟨b1, D1, (ev_ne (by decide)).trans h1, h2, by rw [hc1]; exact h3, fun k => by rw [hv1]; exact h4 k⟩
  · intro h10
    rw [u 10 (by decide)] at h10
    obtain ⟨b2, D2, h1, h2, h3, h4⟩ := h.m2 h10
    exact ⟨b2, D2, (ev_ne (by decide)).trans h1, h2, by rw [u 11 (by decide)]; exact h3, fun x => by rw [hv2]; exact h4 x⟩
  · intro h0' h10'
    rw [u 0 (by decide)] at h0'
    rw [u 10 (by decide)] at h10'
    rw [(ev_ne (by decide)), (ev_ne (by decide))]
    exact h.ne h0' h10'
  · intro e; rw [u 0 (by decide)] at e; rw [hv1]; exact h.n0 e
  · intro e; rw [u 0 (by decide)] at e; rw [hc1]; exact h.k0 e
  · intro e; rw [u 10 (by decide)] at e; rw [u 11 (by decide)]; exact h.n10 e
  · intro e; rw [u 6 (by decide)] at e; obtain ⟨q1, q2, q3, q4, q5⟩ := h.k6 e; simp [upd, q1, q2, q3, q4, q5]
  · intro e; rw [u 12 (by decide)] at e; have q := h.k12 e; simp [upd, q]
  · intro e; rw [u 6 (by decide)] at e; exact ⟨by rw [u 0 (by decide)]; exact (h.s4 e).1, by rw [ev_ne (by decide), ev_ne (by decide)]; exact (h.s4 e).2⟩
  · intro e; rw [u 7 (by decide)] at e; rw [ev_ne (by decide)]; exact h.s5 e
  · intro _; exact ev_eq (by rw [h.sz]; decide)
  · intro e; rw [u 9 (by decide)] at e; rw [ev_ne (by decide)]; exact h.s7 e
  · intro e; rw [u 12 (by decide)] at e; exact ⟨by rw [u 10 (by decide)]; exact (h.s9 e).1, by rw [ev_ne (by decide), ev_ne (by decide)]; exact (h.s9 e).2⟩
  · intro e; rw [u 13 (by decide)] at e; rw [ev_ne (by decide)]; exact h.s10 e
  · intro e; rw [u 14 (by decide)] at e; rw [ev_ne (by decide)]; exact h.s11 e
  · intro e; rw [u 15 (by decide)] at e; rw [ev_ne (by decide)]; exact h.s12 e
  · intro e; rw [u 16 (by decide)] at e; rw [ev_ne (by decide)]; exact h.s13 e
  · intro e; rw [u 17 (by decide)] at e; rw [ev_ne (by decide)]; exact h.s2 e

theorem hf9 {w W W' : World} {c : Cmd} {L : Nat → Bool} {a : Act} {v : Value} (h : HF w c L a W) (hL : L 9 = false) (hv : v = .int .i64 (v1 allL c.kind)) : HF w c (upd L 9) (a.put (some 7) v) W := by
  subst hv
  have u : ∀ j, j ≠ 9 → upd L 9 j = L j := fun j hj => if_neg hj
  have ui : upd L 9 9 = true := if_pos rfl
  have hv1 : v1 (upd L 9) = v1 L := by funext k; simp [v1, upd]
  have hc1 : c1 (upd L 9) = c1 L := by simp [c1, upd]
  have hv2 : v2 (upd L 9) = v2 L := by funext x; simp [v2, upd]
  refine { sz := by rw [sz_put]; exact h.sz, df := by rw [df_put]; exact h.df, e1 := (ev_ne (by decide)).trans h.e1, be := h.be, m1 := ?_, m2 := ?_, ne := ?_, n0 := ?_, k0 := ?_, n10 := ?_, k6 := ?_, k12 := ?_, s4 := ?_, s5 := ?_, s6 := ?_, s7 := ?_, s9 := ?_, s10 := ?_, s11 := ?_, s12 := ?_, s13 := ?_, s2 := ?_ }
  · intro h0
    rw [u 0 (by decide)] at h0
    obtain ⟨b1, D1, h1, h2, h3, h4⟩ := h.m1 h0
    exact ⟨b1, D1, (ev_ne (by decide)).trans h1, h2, by rw [hc1]; exact h3, fun k => by rw [hv1]; exact h4 k⟩
  · intro h10
    rw [u 10 (by decide)] at h10
    obtain ⟨b2, D2, h1, h2, h3, h4⟩ := h.m2 h10
    exact ⟨b2, D2, (ev_ne (by decide)).trans h1, h2, by rw [u 11 (by decide)]; exact h3, fun x => by rw [hv2]; exact h4 x⟩
  · intro h0' h10'
    rw [u 0 (by decide)] at h0'
    rw [u 10 (by decide)] at h10'
    rw [(ev_ne (by decide)), (ev_ne (by decide))]
    exact h.ne h0' h10'
  · intro e; rw [u 0 (by decide)] at e; rw [hv1]; exact h.n0 e
  · intro e; rw [u 0 (by decide)] at e; rw [hc1]; exact h.k0 e
  · intro e; rw [u 10 (by decide)] at e; rw [u 11 (by decide)]; exact h.n10 e
  · intro e; rw [u 6 (by decide)] at e; obtain ⟨q1, q2, q3, q4, q5⟩ := h.k6 e; simp [upd, q1, q2, q3, q4, q5]
  · intro e; rw [u 12 (by decide)] at e; have q := h.k12 e; simp [upd, q]
  · intro e; rw [u 6 (by decide)] at e; exact ⟨by rw [u 0 (by decide)]; exact (h.s4 e).1, by rw [ev_ne (by decide), ev_ne (by decide)]; exact (h.s4 e).2⟩
  · intro e; rw [u 7 (by decide)] at e; rw [ev_ne (by decide)]; exact h.s5 e
  · intro e; rw [u 8 (by decide)] at e; rw [ev_ne (by decide)]; exact h.s6 e
  · intro _; exact ev_eq (by rw [h.sz]; decide)
  · intro e; rw [u 12 (by decide)] at e; exact ⟨by rw [u 10 (by decide)]; exact (h.s9 e).1, by rw [ev_ne (by decide), ev_ne (by decide)]; exact (h.s9 e).2⟩
  · intro e; rw [u 13 (by decide)] at e; rw [ev_ne (by decide)]; exact h.s10 e
  · intro e; rw [u 14 (by decide)] at e; rw [ev_ne (by decide)]; exact h.s11 e
  · intro e; rw [u 15 (by decide)] at e; rw [ev_ne (by decide)]; exact h.s12 e
  · intro e; rw [u 16 (by decide)] at e; rw [ev_ne (by decide)]; exact h.s13 e
  · intro e; rw [u 17 (by decide)] at e; rw [ev_ne (by decide)]; exact h.s2 e

theorem hf10 {w W W' : World} {c : Cmd} {L : Nat → Bool} {a : Act} {v : Value} (h : HF w c L a W) (hL : L 10 = false) (hv : v = .map (some W.heap.size)) (hW : W' = W.alloc (.map #[] 0)) : HF w c (upd L 10) (a.put (some 8) v) W' := by
  subst hv hW
  have u : ∀ j, j ≠ 10 → upd L 10 j = L j := fun j hj => if_neg hj
  have ui : upd L 10 10 = true := if_pos rfl
  have hv1 : v1 (upd L 10) = v1 L := by funext k; simp [v1, upd]
  have hc1 : c1 (upd L 10) = c1 L := by simp [c1, upd]
  have hv2 : v2 (upd L 10) = v2 L := by funext x; simp [v2, upd]
  have hsz : w.heap.size + 1 ≤ W.heap.size := by have := h.be.size; simpa using this
  refine { sz := by rw [sz_put]; exact h.sz, df := by rw [df_put]; exact h.df, e1 := (ev_ne (by decide)).trans h.e1, be := h.be.alloc hsz _, m1 := ?_, m2 := ?_, ne := ?_, n0 := ?_, k0 := ?_, n10 := ?_, k6 := ?_, k12 := ?_, s4 := ?_, s5 := ?_, s6 := ?_, s7 := ?_, s9 := ?_, s10 := ?_, s11 := ?_, s12 := ?_, s13 := ?_, s2 := ?_ }
  · intro h0
    rw [u 0 (by decide)] at h0
    obtain ⟨b1, D1, h1, h2, h3, h4⟩ := h.m1 h0
    exact ⟨b1, D1, (ev_ne (by decide)).trans h1, h2, by rw [hc1]; exact (h3.alloc _), fun k => by rw [hv1]; exact h4 k⟩
  · intro _
    refine ⟨W.heap.size, .map [], ev_eq (by rw [h.sz]; decide), hsz, ?_, fun x => ?_⟩
    · rw [u 11 (by decide), h.n10 hL]; exact World.ownsMap_made W _ _ _
    · have : v2 (upd L 10) x = 0 := by rw [hv2]; unfold v2; rw [h.n10 hL]; simp
      rw [this]; rfl
  · intro h0 _
    rw [u 0 (by decide)] at h0
    obtain ⟨b1, D1, h1, h2, h3, h4⟩ := h.m1 h0
    rw [ev_eq (by rw [h.sz]; decide), (ev_ne (by decide)), h1]
    intro e
    injection e with e
    injection e with e
    have := h3.lt
    omega
  · intro e; rw [u 0 (by decide)] at e; rw [hv1]; exact h.n0 e
  · intro e; rw [u 0 (by decide)] at e; rw [hc1]; exact h.k0 e
  · intro e; rw [ui] at e; cases e
  · intro e; rw [u 6 (by decide)] at e; obtain ⟨q1, q2, q3, q4, q5⟩ := h.k6 e; simp [upd, q1, q2, q3, q4, q5]
  · intro e; rw [u 12 (by decide)] at e; have q := h.k12 e; simp [upd, q]
  · intro e; rw [u 6 (by decide)] at e; exact ⟨by rw [u 0 (by decide)]; exact (h.s4 e).1, by rw [ev_ne (by decide), ev_ne (by decide)]; exact (h.s4 e).2⟩
  · intro e; rw [u 7 (by decide)] at e; rw [ev_ne (by decide)]; exact h.s5 e
  · intro e; rw [u 8 (by decide)] at e; rw [ev_ne (by decide)]; exact h.s6 e
  · intro e; rw [u 9 (by decide)] at e; rw [ev_ne (by decide)]; exact h.s7 e
  · intro e; rw [u 12 (by decide)] at e; have := (h.s9 e).1; rw [hL] at this; cases this
  · intro e; rw [u 13 (by decide)] at e; rw [ev_ne (by decide)]; exact h.s10 e
  · intro e; rw [u 14 (by decide)] at e; rw [ev_ne (by decide)]; exact h.s11 e
  · intro e; rw [u 15 (by decide)] at e; rw [ev_ne (by decide)]; exact h.s12 e
  · intro e; rw [u 16 (by decide)] at e; rw [ev_ne (by decide)]; exact h.s13 e
  · intro e; rw [u 17 (by decide)] at e; rw [ev_ne (by decide)]; exact h.s2 e

theorem hf11 {w W W' : World} {c : Cmd} {L : Nat → Bool} {a : Act} {v : Value} (h : HF w c L a W) (hL : L 11 = false) (h10 : L 10 = true) (b : Nat) (D : DataW Unit) (he : a.eval (.tmp 8) = .map (some b)) (hb : w.heap.size + 1 ≤ b) (hD : IsMap D) (hk : ∀ x, D.atKey (.bool x) (.lit (.int .i64 0)) = .lit (.int .i64 (v2 L x))) (ho : W'.ownsMap Tryz.prog 4 (plainElem (H := Unit) Tryz.prog 3) b ((L 11).toNat + 1) (D.put (.bool true) (.lit (.int .i64 1)))) (hg : W.grownBy W' (some b)) : HF w c (upd L 11) (a.put none undef) W' := by
  have u : ∀ j, j ≠ 11 → upd L 11 j = L j := fun j hj => if_neg hj
  have ui : upd L 11 11 = true := if_pos rfl
  have hv1 : v1 (upd L 11) = v1 L := by funext k; simp [v1, upd]
  have hc1 : c1 (upd L 11) = c1 L := by simp [c1, upd]
  have hsz : w.heap.size + 1 ≤ W.heap.size := by have := h.be.size; simpa using this
  refine { sz := by rw [sz_put]; exact h.sz, df := by rw [df_put]; exact h.df, e1 := (ev_none (a := a) (s := 1) (v := undef)).trans h.e1, be := h.be.grown hg hsz (fun k hk => by injection hk with hk; omega), m1 := ?_, m2 := ?_, ne := ?_, n0 := ?_, k0 := ?_, n10 := ?_, k6 := ?_, k12 := ?_, s4 := ?_, s5 := ?_, s6 := ?_, s7 := ?_, s9 := ?_, s10 := ?_, s11 := ?_, s12 := ?_, s13 := ?_, s2 := ?_ }
  · intro h0
    rw [u 0 (by decide)] at h0
    obtain ⟨b1, D1, h1, h2, h3, h4⟩ := h.m1 h0
    exact ⟨b1, D1, (ev_none (a := a) (s := 3) (v := undef)).trans h1, h2, by rw [hc1]; exact (h3.kept hg (fun e => by injection e with e; exact h.ne h0 h10 (by rw [h1, he, e]))), fun k => by rw [hv1]; exact h4 k⟩
  · intro _
    refine ⟨b, D.put (.bool true) (.lit (.int .i64 1)), (ev_none (a := a) (s := 8) (v := undef)).trans he, hb, ?_, fun x => ?_⟩
    · rw [ui]; rw [hL] at ho; exact ho
    · cases x with
      | true => rw [atKey_put_same hD (by trivial)]; simp [v2, upd]
      | false => rw [atKey_put_other (by intro e; cases e), hk false]; simp [v2]
  · intro h0' h10'
    rw [u 0 (by decide)] at h0'
    rw [u 10 (by decide)] at h10'
    rw [(ev_none (a := a) (s := 3) (v := undef)), (ev_none (a := a) (s := 8) (v := undef))]
    exact h.ne h0' h10'
  · intro e; rw [u 0 (by decide)] at e; rw [hv1]; exact h.n0 e
  · intro e; rw [u 0 (by decide)] at e; rw [hc1]; exact h.k0 e
  · intro e; rw [u 10 (by decide), h10] at e; cases e
  · intro e; rw [u 6 (by decide)] at e; obtain ⟨q1, q2, q3, q4, q5⟩ := h.k6 e; simp [upd, q1, q2, q3, q4, q5]
  · intro e; rw [u 12 (by decide)] at e; have q := h.k12 e; simp [upd, q]
  · intro e; rw [u 6 (by decide)] at e; exact ⟨by rw [u 0 (by decide)]; exact (h.s4 e).1, (h.s4 e).2⟩
  · intro e; rw [u 7 (by decide)] at e; exact h.s5 e
  · intro e; rw [u 8 (by decide)] at e; exact h.s6 e
  · intro e; rw [u 9 (by decide)] at e; exact h.s7 e
  · intro e; rw [u 12 (by decide)] at e; exact ⟨by rw [u 10 (by decide)]; exact (h.s9 e).1, (h.s9 e).2⟩
  · intro e; rw [u 13 (by decide)] at e; exact h.s10 e
  · intro e; rw [u 14 (by decide)] at e; exact h.s11 e
  · intro e; rw [u 15 (by decide)] at e; exact h.s12 e
  · intro e; rw [u 16 (by decide)] at e; exact h.s13 e
  · intro e; rw [u 17 (by decide)] at e; exact h.s2 e

theorem hf12 {w W W' : World} {c : Cmd} {L : Nat → Bool} {a : Act} {v : Value} (h : HF w c L a W) (hL : L 12 = false) (h10 : L 10 = true) (hd : L 11 = true) (hv : v = a.eval (.tmp 8)) : HF w c (upd L 12) (a.put (some 9) v) W := by
  subst hv
  have u : ∀ j, j ≠ 12 → upd L 12 j = L j := fun j hj => if_neg hj
  have ui : upd L 12 12 = true := if_pos rfl
  have hv1 : v1 (upd L 12) = v1 L := by funext k; simp [v1, upd]
  have hc1 : c1 (upd L 12) = c1 L := by simp [c1, upd]
  have hv2 : v2 (upd L 12) = v2 L := by funext x; simp [v2, upd]
  refine { sz := by rw [sz_put]; exact h.sz, df := by rw [df_put]; exact h.df, e1 := (ev_ne (by decide)).trans h.e1, be := h.be, m1 := ?_, m2 := ?_, ne := ?_, n0 := ?_, k0 := ?_, n10 := ?_, k6 := ?_, k12 := ?_, s4 := ?_, s5 := ?_, s6 := ?_, s7 := ?_, s9 := ?_, s10 := ?_, s11 := ?_, s12 := ?_, s13 := ?_, s2 := ?_ }
  · intro h0
    rw [u 0 (by decide)] at h0
    obtain ⟨b1, D1, h1, h2, h3, h4⟩ := h.m1 h0
    exact ⟨b1, D1, (ev_ne (by decide)).trans h1, h2, by rw [hc1]; exact h3, fun k => by rw [hv1]; exact h4 k⟩
  · intro h10
    rw [u 10 (by decide)] at h10
    obtain ⟨b2, D2, h1, h2, h3, h4⟩ := h.m2 h10
    exact ⟨b2, D2, (ev_ne (by decide)).trans h1, h2, by rw [u 11 (by decide)]; exact h3, fun x => by rw [hv2]; exact h4 x⟩
  · intro h0' h10'
    rw [u 0 (by decide)] at h0'
    rw [u 10 (by decide)] at h10'
    rw [(ev_ne (by decide)), (ev_ne (by decide))]
    exact h.ne h0' h10'
  · intro e; rw [u 0 (by decide)] at e; rw [hv1]; exact h.n0 e
  · intro e; rw [u 0 (by decide)] at e; rw [hc1]; exact h.k0 e
  · intro e; rw [u 10 (by decide)] at e; rw [u 11 (by decide)]; exact h.n10 e
  · intro e; rw [u 6 (by decide)] at e; obtain ⟨q1, q2, q3, q4, q5⟩ := h.k6 e; simp [upd, q1, q2, q3, q4, q5]
  · intro _; simp [upd, hd]
  · intro e; rw [u 6 (by decide)] at e; exact ⟨by rw [u 0 (by decide)]; exact (h.s4 e).1, by rw [ev_ne (by decide), ev_ne (by decide)]; exact (h.s4 e).2⟩
  · intro e; rw [u 7 (by decide)] at e; rw [ev_ne (by decide)]; exact h.s5 e
  · intro e; rw [u 8 (by decide)] at e; rw [ev_ne (by decide)]; exact h.s6 e
  · intro e; rw [u 9 (by decide)] at e; rw [ev_ne (by decide)]; exact h.s7 e
  · intro _; exact ⟨by rw [u 10 (by decide)]; exact h10, (ev_eq (by rw [h.sz]; decide)).trans (ev_ne (by decide)).symm⟩
  · intro e; rw [u 13 (by decide)] at e; rw [ev_ne (by decide)]; exact h.s10 e
  · intro e; rw [u 14 (by decide)] at e; rw [ev_ne (by decide)]; exact h.s11 e
  · intro e; rw [u 15 (by decide)] at e; rw [ev_ne (by decide)]; exact h.s12 e
  · intro e; rw [u 16 (by decide)] at e; rw [ev_ne (by decide)]; exact h.s13 e
  · intro e; rw [u 17 (by decide)] at e; rw [ev_ne (by decide)]; exact h.s2 e

theorem hf13 {w W W' : World} {c : Cmd} {L : Nat → Bool} {a : Act} {v : Value} (h : HF w c L a W) (hL : L 13 = false) (hv : v = c.v) : HF w c (upd L 13) (a.put (some 10) v) W := by
  subst hv
  have u : ∀ j, j ≠ 13 → upd L 13 j = L j := fun j hj => if_neg hj
  have ui : upd L 13 13 = true := if_pos rfl
  have hv1 : v1 (upd L 13) = v1 L := by funext k; simp [v1, upd]
  have hc1 : c1 (upd L 13) = c1 L := by simp [c1, upd]
  have hv2 : v2 (upd L 13) = v2 L := by funext x; simp [v2, upd]
  refine { sz := by rw [sz_put]; exact h.sz, df := by rw [df_put]; exact h.df, e1 := (ev_ne (by decide)).trans h.e1, be := h.be, m1 := ?_, m2 := ?_, ne := ?_, n0 := ?_, k0 := ?_, n10 := ?_, k6 := ?_, k12 := ?_, s4 := ?_, s5 := ?_, s6 := ?_, s7 := ?_, s9 := ?_, s10 := ?_, s11 := ?_, s12 := ?_, s13 := ?_, s2 := ?_ }
  · intro h0
    rw [u 0 (by decide)] at h0
    obtain ⟨b1, D1, h1, h2, h3, h4⟩ := h.m1 h0
    exact ⟨b1, D1, (ev_ne (by decide)).trans h1, h2, by rw [hc1]; exact h3, fun k => by rw [hv1]; exact h4 k⟩
  · intro h10
    rw [u 10 (by decide)] at h10
    obtain ⟨b2, D2, h1, h2, h3, h4⟩ := h.m2 h10
    exact ⟨b2, D2, (ev_ne (by decide)).trans h1, h2, by rw [u 11 (by decide)]; exact h3, fun x => by rw [hv2]; exact h4 x⟩
  · intro h0' h10'
    rw [u 0 (by decide)] at h0'
    rw [u 10 (by decide)] at h10'
    rw [(ev_ne (by decide)), (ev_ne (by decide))]
    exact h.ne h0' h10'
  · intro e; rw [u 0 (by decide)] at e; rw [hv1]; exact h.n0 e
  · intro e; rw [u 0 (by decide)] at e; rw [hc1]; exact h.k0 e
  · intro e; rw [u 10 (by decide)] at e; rw [u 11 (by decide)]; exact h.n10 e
  · intro e; rw [u 6 (by decide)] at e; obtain ⟨q1, q2, q3, q4, q5⟩ := h.k6 e; simp [upd, q1, q2, q3, q4, q5]
  · intro e; rw [u 12 (by decide)] at e; have q := h.k12 e; simp [upd, q]
  · intro e; rw [u 6 (by decide)] at e; exact ⟨by rw [u 0 (by decide)]; exact (h.s4 e).1, by rw [ev_ne (by decide), ev_ne (by decide)]; exact (h.s4 e).2⟩
  · intro e; rw [u 7 (by decide)] at e; rw [ev_ne (by decide)]; exact h.s5 e
  · intro e; rw [u 8 (by decide)] at e; rw [ev_ne (by decide)]; exact h.s6 e
  · intro e; rw [u 9 (by decide)] at e; rw [ev_ne (by decide)]; exact h.s7 e
  · intro e; rw [u 12 (by decide)] at e; exact ⟨by rw [u 10 (by decide)]; exact (h.s9 e).1, by rw [ev_ne (by decide), ev_ne (by decide)]; exact (h.s9 e).2⟩
  · intro _; exact ev_eq (by rw [h.sz]; decide)
  · intro e; rw [u 14 (by decide)] at e; rw [ev_ne (by decide)]; exact h.s11 e
  · intro e; rw [u 15 (by decide)] at e; rw [ev_ne (by decide)]; exact h.s12 e
  · intro e; rw [u 16 (by decide)] at e; rw [ev_ne (by decide)]; exact h.s13 e
  · intro e; rw [u 17 (by decide)] at e; rw [ev_ne (by decide)]; exact h.s2 e

theorem hf14 {w W W' : World} {c : Cmd} {L : Nat → Bool} {a : Act} {v : Value} (h : HF w c L a W) (hL : L 14 = false) (hv : v = .bool (isEach c.kind)) (hbb : Below W.heap.size W W') : HF w c (upd L 14) (a.put (some 11) v) W' := by
  subst hv
  have u : ∀ j, j ≠ 14 → upd L 14 j = L j := fun j hj => if_neg hj
  have ui : upd L 14 14 = true := if_pos rfl
  have hv1 : v1 (upd L 14) = v1 L := by funext k; simp [v1, upd]
  have hc1 : c1 (upd L 14) = c1 L := by simp [c1, upd]
  have hv2 : v2 (upd L 14) = v2 L := by funext x; simp [v2, upd]
  have hsz : w.heap.size + 1 ≤ W.heap.size := by have := h.be.size; simpa using this
  refine { sz := by rw [sz_put]; exact h.sz, df := by rw [df_put]; exact h.df, e1 := (ev_ne (by decide)).trans h.e1, be := h.be.trans (hbb.mono hsz), m1 := ?_, m2 := ?_, ne := ?_, n0 := ?_, k0 := ?_, n10 := ?_, k6 := ?_, k12 := ?_, s4 := ?_, s5 := ?_, s6 := ?_, s7 := ?_, s9 := ?_, s10 := ?_, s11 := ?_, s12 := ?_, s13 := ?_, s2 := ?_ }
  · intro h0
    rw [u 0 (by decide)] at h0
    obtain ⟨b1, D1, h1, h2, h3, h4⟩ := h.m1 h0
    exact ⟨b1, D1, (ev_ne (by decide)).trans h1, h2, by rw [hc1]; exact (map_below h3 hbb), fun k => by rw [hv1]; exact h4 k⟩
  · intro h10
    rw [u 10 (by decide)] at h10
    obtain ⟨b2, D2, h1, h2, h3, h4⟩ := h.m2 h10
    exact ⟨b2, D2, (ev_ne (by decide)).trans h1, h2, by rw [u 11 (by decide)]; exact (map_below h3 hbb), fun x => by rw [hv2]; exact h4 x⟩
  · intro h0' h10'
    rw [u 0 (by decide)] at h0'
    rw [u 10 (by decide)] at h10'
    rw [(ev_ne (by decide)), (ev_ne (by decide))]
    exact h.ne h0' h10'
  · intro e; rw [u 0 (by decide)] at e; rw [hv1]; exact h.n0 e
  · intro e; rw [u 0 (by decide)] at e; rw [hc1]; exact h.k0 e
  · intro e; rw [u 10 (by decide)] at e; rw [u 11 (by decide)]; exact h.n10 e
  · intro e; rw [u 6 (by decide)] at e; obtain ⟨q1, q2, q3, q4, q5⟩ := h.k6 e; simp [upd, q1, q2, q3, q4, q5]
  · intro e; rw [u 12 (by decide)] at e; have q := h.k12 e; simp [upd, q]
  · intro e; rw [u 6 (by decide)] at e; exact ⟨by rw [u 0 (by decide)]; exact (h.s4 e).1, by rw [ev_ne (by decide), ev_ne (by decide)]; exact (h.s4 e).2⟩
  · intro e; rw [u 7 (by decide)] at e; rw [ev_ne (by decide)]; exact h.s5 e
  · intro e; rw [u 8 (by decide)] at e; rw [ev_ne (by decide)]; exact h.s6 e
  · intro e; rw [u 9 (by decide)] at e; rw [ev_ne (by decide)]; exact h.s7 e
  · intro e; rw [u 12 (by decide)] at e; exact ⟨by rw [u 10 (by decide)]; exact (h.s9 e).1, by rw [ev_ne (by decide), ev_ne (by decide)]; exact (h.s9 e).2⟩
  · intro e; rw [u 13 (by decide)] at e; rw [ev_ne (by decide)]; exact h.s10 e
  · intro _; exact ev_eq (by rw [h.sz]; decide)
  · intro e; rw [u 15 (by decide)] at e; rw [ev_ne (by decide)]; exact h.s12 e
  · intro e; rw [u 16 (by decide)] at e; rw [ev_ne (by decide)]; exact h.s13 e
  · intro e; rw [u 17 (by decide)] at e; rw [ev_ne (by decide)]; exact h.s2 e

theorem hf15 {w W W' : World} {c : Cmd} {L : Nat → Bool} {a : Act} {v : Value} (h : HF w c L a W) (hL : L 15 = false) (hv : v = .int .i64 (v2 allL (isEach c.kind))) : HF w c (upd L 15) (a.put (some 12) v) W := by
  subst hv
  have u : ∀ j, j ≠ 15 → upd L 15 j = L j := fun j hj => if_neg hj
  have ui : upd L 15 15 = true := if_pos rfl
  have hv1 : v1 (upd L 15) = v1 L := by funext k; simp [v1, upd]
  have hc1 : c1 (upd L 15) = c1 L := by simp [c1, upd]
  have hv2 : v2 (upd L 15) = v2 L := by funext x; simp [v2, upd]
  refine { sz := by rw [sz_put]; exact h.sz, df := by rw [df_put]; exact h.df, e1 := (ev_ne (by decide)).trans h.e1, be := h.be, m1 := ?_, m2 := ?_, ne := ?_, n0 := ?_, k0 := ?_, n10 := ?_, k6 := ?_, k12 := ?_, s4 := ?_, s5 := ?_, s6 := ?_, s7 := ?_, s9 := ?_, s10 := ?_, s11 := ?_, s12 := ?_, s13 := ?_, s2 := ?_ }
  · intro h0
    rw [u 0 (by decide)] at h0
    obtain ⟨b1, D1, h1, h2, h3, h4⟩ := h.m1 h0
    exact ⟨b1, D1, (ev_ne (by decide)).trans h1, h2, by rw [hc1]; exact h3, fun k => by rw [hv1]; exact h4 k⟩
  · intro h10
    rw [u 10 (by decide)] at h10
    obtain ⟨b2, D2, h1, h2, h3, h4⟩ := h.m2 h10
    exact ⟨b2, D2, (ev_ne (by decide)).trans h1, h2, by rw [u 11 (by decide)]; exact h3, fun x => by rw [hv2]; exact h4 x⟩
  · intro h0' h10'
    rw [u 0 (by decide)] at h0'
    rw [u 10 (by decide)] at h10'
    rw [(ev_ne (by decide)), (ev_ne (by decide))]
    exact h.ne h0' h10'
  · intro e; rw [u 0 (by decide)] at e; rw [hv1]; exact h.n0 e
  · intro e; rw [u 0 (by decide)] at e; rw [hc1]; exact h.k0 e
  · intro e; rw [u 10 (by decide)] at e; rw [u 11 (by decide)]; exact h.n10 e
  · intro e; rw [u 6 (by decide)] at e; obtain ⟨q1, q2, q3, q4, q5⟩ := h.k6 e; simp [upd, q1, q2, q3, q4, q5]
  · intro e; rw [u 12 (by decide)] at e; have q := h.k12 e; simp [upd, q]
  · intro e; rw [u 6 (by decide)] at e; exact ⟨by rw [u 0 (by decide)]; exact (h.s4 e).1, by rw [ev_ne (by decide), ev_ne (by decide)]; exact (h.s4 e).2⟩
  · intro e; rw [u 7 (by decide)] at e; rw [ev_ne (by decide)]; exact h.s5 e
  · intro e; rw [u 8 (by decide)] at e; rw [ev_ne (by decide)]; exact h.s6 e
  · intro e; rw [u 9 (by decide)] at e; rw [ev_ne (by decide)]; exact h.s7 e
  · intro e; rw [u 12 (by decide)] at e; exact ⟨by rw [u 10 (by decide)]; exact (h.s9 e).1, by rw [ev_ne (by decide), ev_ne (by decide)]; exact (h.s9 e).2⟩
  · intro e; rw [u 13 (by decide)] at e; rw [ev_ne (by decide)]; exact h.s10 e
  · intro e; rw [u 14 (by decide)] at e; rw [ev_ne (by decide)]; exact h.s11 e
  · intro _; exact ev_eq (by rw [h.sz]; decide)
  · intro e; rw [u 16 (by decide)] at e; rw [ev_ne (by decide)]; exact h.s13 e
  · intro e; rw [u 17 (by decide)] at e; rw [ev_ne (by decide)]; exact h.s2 e

theorem hf16 {w W W' : World} {c : Cmd} {L : Nat → Bool} {a : Act} {v : Value} (h : HF w c L a W) (hL : L 16 = false) (hv : v = .int .i64 (v1 allL c.kind + v2 allL (isEach c.kind))) : HF w c (upd L 16) (a.put (some 13) v) W := by
  subst hv
  have u : ∀ j, j ≠ 16 → upd L 16 j = L j := fun j hj => if_neg hj
  have ui : upd L 16 16 = true := if_pos rfl
  have hv1 : v1 (upd L 16) = v1 L := by funext k; simp [v1, upd]
  have hc1 : c1 (upd L 16) = c1 L := by simp [c1, upd]
  have hv2 : v2 (upd L 16) = v2 L := by funext x; simp [v2, upd]
  refine { sz := by rw [sz_put]; exact h.sz, df := by rw [df_put]; exact h.df, e1 := (ev_ne (by decide)).trans h.e1, be := h.be, m1 := ?_, m2 := ?_, ne := ?_, n0 := ?_, k0 := ?_, n10 := ?_, k6 := ?_, k12 := ?_, s4 := ?_, s5 := ?_, s6 := ?_, s7 := ?_, s9 := ?_, s10 := ?_, s11 := ?_, s12 := ?_, s13 := ?_, s2 := ?_ }
  · intro h0
    rw [u 0 (by decide)] at h0
    obtain ⟨b1, D1, h1, h2, h3, h4⟩ := h.m1 h0
    exact ⟨b1, D1, (ev_ne (by decide)).trans h1, h2, by rw [hc1]; exact h3, fun k => by rw [hv1]; exact h4 k⟩
  · intro h10
    rw [u 10 (by decide)] at h10
    obtain ⟨b2, D2, h1, h2, h3, h4⟩ := h.m2 h10
    exact ⟨b2, D2, (ev_ne (by decide)).trans h1, h2, by rw [u 11 (by decide)]; exact h3, fun x => by rw [hv2]; exact h4 x⟩
  · intro h0' h10'
    rw [u 0 (by decide)] at h0'
    rw [u 10 (by decide)] at h10'
    rw [(ev_ne (by decide)), (ev_ne (by decide))]
    exact h.ne h0' h10'
  · intro e; rw [u 0 (by decide)] at e; rw [hv1]; exact h.n0 e
  · intro e; rw [u 0 (by decide)] at e; rw [hc1]; exact h.k0 e
  · intro e; rw [u 10 (by decide)] at e; rw [u 11 (by decide)]; exact h.n10 e
  · intro e; rw [u 6 (by decide)] at e; obtain ⟨q1, q2, q3, q4, q5⟩ := h.k6 e; simp [upd, q1, q2, q3, q4, q5]
  · intro e; rw [u 12 (by decide)] at e; have q := h.k12 e; simp [upd, q]
  · intro e; rw [u 6 (by decide)] at e; exact ⟨by rw [u 0 (by decide)]; exact (h.s4 e).1, by rw [ev_ne (by decide), ev_ne (by decide)]; exact (h.s4 e).2⟩
  · intro e; rw [u 7 (by decide)] at e; rw [ev_ne (by decide)]; exact h.s5 e
  · intro e; rw [u 8 (by decide)] at e; rw [ev_ne (by decide)]; exact h.s6 e
  · intro e; rw [u 9 (by decide)] at e; rw [ev_ne (by decide)]; exact h.s7 e
  · intro e; rw [u 12 (by decide)] at e; exact ⟨by rw [u 10 (by decide)]; exact (h.s9 e).1, by rw [ev_ne (by decide), ev_ne (by decide)]; exact (h.s9 e).2⟩
  · intro e; rw [u 13 (by decide)] at e; rw [ev_ne (by decide)]; exact h.s10 e
  · intro e; rw [u 14 (by decide)] at e; rw [ev_ne (by decide)]; exact h.s11 e
  · intro e; rw [u 15 (by decide)] at e; rw [ev_ne (by decide)]; exact h.s12 e
  · intro _; exact ev_eq (by rw [h.sz]; decide)
  · intro e; rw [u 17 (by decide)] at e; rw [ev_ne (by decide)]; exact h.s2 e

theorem hf17 {w W W' : World} {c : Cmd} {L : Nat → Bool} {a : Act} {v : Value} (h : HF w c L a W) (hL : L 17 = false) (hv : v = .int .i64 (v1 allL c.kind + v2 allL (isEach c.kind))) : HF w c (upd L 17) (a.put (some 2) v) W := by
  subst hv
  have u : ∀ j, j ≠ 17 → upd L 17 j = L j := fun j hj => if_neg hj
  have ui : upd L 17 17 = true := if_pos rfl
  have hv1 : v1 (upd L 17) = v1 L := by funext k; simp [v1, upd]
  have hc1 : c1 (upd L 17) = c1 L := by simp [c1, upd]
  have hv2 : v2 (upd L 17) = v2 L := by funext x; simp [v2, upd]
  refine { sz := by rw [sz_put]; exact h.sz, df := by rw [df_put]; exact h.df, e1 := (ev_ne (by decide)).trans h.e1, be := h.be, m1 := ?_, m2 := ?_, ne := ?_, n0 := ?_, k0 := ?_, n10 := ?_, k6 := ?_, k12 := ?_, s4 := ?_, s5 := ?_, s6 := ?_, s7 := ?_, s9 := ?_, s10 := ?_, s11 := ?_, s12 := ?_, s13 := ?_, s2 := ?_ }
  · intro h0
    rw [u 0 (by decide)] at h0
    obtain ⟨b1, D1, h1, h2, h3, h4⟩ := h.m1 h0
    exact ⟨b1, D1, (ev_ne (by decide)).trans h1, h2, by rw [hc1]; exact h3, fun k => by rw [hv1]; exact h4 k⟩
  · intro h10
    rw [u 10 (by decide)] at h10
    obtain ⟨b2, D2, h1, h2, h3, h4⟩ := h.m2 h10
    exact ⟨b2, D2, (ev_ne (by decide)).trans h1, h2, by rw [u 11 (by decide)]; exact h3, fun x => by rw [hv2]; exact h4 x⟩
  · intro h0' h10'
    rw [u 0 (by decide)] at h0'
    rw [u 10 (by decide)] at h10'
    rw [(ev_ne (by decide)), (ev_ne (by decide))]
    exact h.ne h0' h10'
  · intro e; rw [u 0 (by decide)] at e; rw [hv1]; exact h.n0 e
  · intro e; rw [u 0 (by decide)] at e; rw [hc1]; exact h.k0 e
  · intro e; rw [u 10 (by decide)] at e; rw [u 11 (by decide)]; exact h.n10 e
  · intro e; rw [u 6 (by decide)] at e; obtain ⟨q1, q2, q3, q4, q5⟩ := h.k6 e; simp [upd, q1, q2, q3, q4, q5]
  · intro e; rw [u 12 (by decide)] at e; have q := h.k12 e; simp [upd, q]
  · intro e; rw [u 6 (by decide)] at e; exact ⟨by rw [u 0 (by decide)]; exact (h.s4 e).1, by rw [ev_ne (by decide), ev_ne (by decide)]; exact (h.s4 e).2⟩
  · intro e; rw [u 7 (by decide)] at e; rw [ev_ne (by decide)]; exact h.s5 e
  · intro e; rw [u 8 (by decide)] at e; rw [ev_ne (by decide)]; exact h.s6 e
  · intro e; rw [u 9 (by decide)] at e; rw [ev_ne (by decide)]; exact h.s7 e
  · intro e; rw [u 12 (by decide)] at e; exact ⟨by rw [u 10 (by decide)]; exact (h.s9 e).1, by rw [ev_ne (by decide), ev_ne (by decide)]; exact (h.s9 e).2⟩
  · intro e; rw [u 13 (by decide)] at e; rw [ev_ne (by decide)]; exact h.s10 e
  · intro e; rw [u 14 (by decide)] at e; rw [ev_ne (by decide)]; exact h.s11 e
  · intro e; rw [u 15 (by decide)] at e; rw [ev_ne (by decide)]; exact h.s12 e
  · intro e; rw [u 16 (by decide)] at e; rw [ev_ne (by decide)]; exact h.s13 e
  · intro _; exact ev_eq (by rw [h.sz]; decide)

end Go.Proofs.YtfkddfmbgbaefaaGreatDoor
namespace Go.Proofs.YtfkddfmbgbaefaaGreatDoor
open Go.RowKit Go.Gs Go.Maps
set_option linter.unusedVariables false
set_option linter.unusedSimpArgs false

theorem c1_le (L : Nat → Bool) : c1 L ≤ 5 := by
  unfold c1
  have h := fun i => Bool.toNat_le (L i)
  have h1 := h 1; have h2 := h 2; have h3 := h 3; have h4 := h 4; have h5 := h 5
  omega
theorem v_bounds (k : Int) : 0 ≤ v1 allL k ∧ v1 allL k ≤ 4 ∧ 0 ≤ v2 allL (isEach k) ∧ v2 allL (isEach k) ≤ 1 := by
  unfold v1 v2 allL
  refine ⟨?_, ?_, ?_, ?_⟩
  all_goals (simp only [if_true]; repeat (split <;> try omega))
theorem v_how (c : Cmd) (h : chk c = 0) : v1 allL c.kind + v2 allL (isEach c.kind) = howFor c.kind := by
  have hk := chk_kinds c h
  have : c.kind = 1 ∨ c.kind = 2 ∨ c.kind = 3 ∨ c.kind = 4 ∨ c.kind = 5 ∨ c.kind = 6 ∨ c.kind = 7 ∨ c.kind = 8 ∨ c.kind = 9 ∨ c.kind = 10 := by omega
  rcases this with e | e | e | e | e | e | e | e | e | e <;> simp [e, v1, v2, allL, isEach, howFor]

set_option maxRecDepth 100000 in
set_option maxHeartbeats 4000000 in
theorem howFor_ref (c : Cmd) (w : World) (hkw : (Lit.int .i64 c.kind).wf = true) :
    Calls Tryz.prog 34 #[c.v] w fun e w' => e = .returned (.int .i64 (v1 allL c.kind + v2 allL (isEach c.kind))) ∧ Below w.heap.size w w' := by
  unfold Cmd.v
  go_enter Tryz.func34, Tryz.ntmps34
  go_wp2_with fail
  rename_i K hK
  refine wp_region_inv (by kernel_rfl) (by kernel_rfl) (fun L a W => HF w c L a W) ?hs ?he ?h0
  case he =>
    intro L a W hall hI
    refine hK a W ?_
    go_wp2_with fail
    refine bodyPost_ret (results_tmp rfl _ _ _) hI.df ⟨?_, below_box hI.be⟩
    have := hI.s2 (hall 17 (by decide))
    simp only [Act.eval] at this
    rw [this]
  case h0 =>
    refine { sz := rfl, df := rfl, e1 := rfl, be := (Below.refl _ _).drew, m1 := ?_, m2 := ?_, ne := ?_, n0 := ?_, k0 := ?_, n10 := ?_, k6 := ?_, k12 := ?_, s4 := ?_, s5 := ?_, s6 := ?_, s7 := ?_, s9 := ?_, s10 := ?_, s11 := ?_, s12 := ?_, s13 := ?_, s2 := ?_ }
    all_goals first | (intro h; cases h; done) | (intro h1 h2; cases h1; done) | (intro _; rfl) | (intro _; funext k; simp [v1])
  case hs =>
  intro L i o a W ho hL hdep hI
  have hi : i < 18 := by have := (Array.getElem?_eq_some_iff.1 ho).1; simpa using this
  have hcase : i = 0 ∨ i = 1 ∨ i = 2 ∨ i = 3 ∨ i = 4 ∨ i = 5 ∨ i = 6 ∨ i = 7 ∨ i = 8 ∨ i = 9 ∨ i = 10 ∨ i = 11 ∨ i = 12 ∨ i = 13 ∨ i = 14 ∨ i = 15 ∨ i = 16 ∨ i = 17 := by omega
  clear hi
  rcases hcase with rfl | rfl | rfl | rfl | rfl | rfl | rfl | rfl | rfl | rfl | rfl | rfl | rfl | rfl | rfl | rfl | rfl | rfl
  · obtain rfl : o = _ := (Option.some.inj ho).symm
    show wpOp _ _ _ 0 (fun a' W' => HF w c (upd L 0) a' W') a W
    unfold wpOp
    rw [ho]
    simp only
    rw [if_pos (by simp [Region.wanted])]
    refine Or.inl ?_
    unfold Oper.wp
    simp [execOp, run_makeMap, Result.andThen]
    exact hf0 hI hL rfl rfl
  · obtain rfl : o = _ := (Option.some.inj ho).symm
    have d0 : L 0 = true := hdep ⟨0, .data⟩ (by simp) rfl
    show wpOp _ _ _ 1 (fun a' W' => HF w c (upd L 1) a' W') a W
    unfold wpOp
    rw [ho]
    simp only
    rw [if_pos (by simp [Region.wanted])]
    refine Or.inl ?_
    unfold Oper.wp
    obtain ⟨b, D, h1, h2, h3, h4⟩ := hI.m1 d0
    obtain ⟨w', hrun, r1, r2⟩ := h3.update keyInt Tryz.underlying81 (show c1 L < maxLen by have := c1_le L; unfold maxLen; omega) (keyOf_int_mk Tryz.underlying3 wf6) (elemInt 2 wf2)
    simp [execOp, h1, ev_const, hrun, Result.andThen]
    exact hf1 (v := undef) hI hL d0 b D h1 h2 (isMap_owns h3) h4 r1 r2
  · obtain rfl : o = _ := (Option.some.inj ho).symm
    have d0 : L 0 = true := hdep ⟨0, .data⟩ (by simp) rfl
    show wpOp _ _ _ 2 (fun a' W' => HF w c (upd L 2) a' W') a W
    unfold wpOp
    rw [ho]
    simp only
    rw [if_pos (by simp [Region.wanted])]
    refine Or.inl ?_
    unfold Oper.wp
    obtain ⟨b, D, h1, h2, h3, h4⟩ := hI.m1 d0
    obtain ⟨w', hrun, r1, r2⟩ := h3.update keyInt Tryz.underlying81 (show c1 L < maxLen by have := c1_le L; unfold maxLen; omega) (keyOf_int_mk Tryz.underlying3 wf8) (elemInt 3 wf3)
    simp [execOp, h1, ev_const, hrun, Result.andThen]
    exact hf2 (v := undef) hI hL d0 b D h1 h2 (isMap_owns h3) h4 r1 r2
  · obtain rfl : o = _ := (Option.some.inj ho).symm
    have d0 : L 0 = true := hdep ⟨0, .data⟩ (by simp) rfl
    show wpOp _ _ _ 3 (fun a' W' => HF w c (upd L 3) a' W') a W
    unfold wpOp
    rw [ho]
    simp only
    rw [if_pos (by simp [Region.wanted])]
    refine Or.inl ?_
    unfold Oper.wp
    obtain ⟨b, D, h1, h2, h3, h4⟩ := hI.m1 d0
    obtain ⟨w', hrun, r1, r2⟩ := h3.update keyInt Tryz.underlying81 (show c1 L < maxLen by have := c1_le L; unfold maxLen; omega) (keyOf_int_mk Tryz.underlying3 wf7) (elemInt 4 wf4)
    simp [execOp, h1, ev_const, hrun, Result.andThen]
    exact hf3 (v := undef) hI hL d0 b D h1 h2 (isMap_owns h3) h4 r1 r2
  · obtain rfl : o = _ := (Option.some.inj ho).symm
    have d0 : L 0 = true := hdep ⟨0, .data⟩ (by simp) rfl
    show wpOp _ _ _ 4 (fun a' W' => HF w c (upd L 4) a' W') a W
    unfold wpOp
    rw [ho]
    simp only
    rw [if_pos (by simp [Region.wanted])]
    refine Or.inl ?_
    unfold Oper.wp
    obtain ⟨b, D, h1, h2, h3, h4⟩ := hI.m1 d0
    obtain ⟨w', hrun, r1, r2⟩ := h3.update keyInt Tryz.underlying81 (show c1 L < maxLen by have := c1_le L; unfold maxLen; omega) (keyOf_int_mk Tryz.underlying3 wf9) (elemInt 4 wf4)
    simp [execOp, h1, ev_const, hrun, Result.andThen]
    exact hf4 (v := undef) hI hL d0 b D h1 h2 (isMap_owns h3) h4 r1 r2
  · obtain rfl : o = _ := (Option.some.inj ho).symm
    have d0 : L 0 = true := hdep ⟨0, .data⟩ (by simp) rfl
    show wpOp _ _ _ 5 (fun a' W' => HF w c (upd L 5) a' W') a W
    unfold wpOp
    rw [ho]
    simp only
    rw [if_pos (by simp [Region.wanted])]
    refine Or.inl ?_
    unfold Oper.wp
    obtain ⟨b, D, h1, h2, h3, h4⟩ := hI.m1 d0
    obtain ⟨w', hrun, r1, r2⟩ := h3.update keyInt Tryz.underlying81 (show c1 L < maxLen by have := c1_le L; unfold maxLen; omega) (keyOf_int_mk Tryz.underlying3 wf10) (elemInt 4 wf4)
    simp [execOp, h1, ev_const, hrun, Result.andThen]
    exact hf5 (v := undef) hI hL d0 b D h1 h2 (isMap_owns h3) h4 r1 r2
  · obtain rfl : o = _ := (Option.some.inj ho).symm
    have d0 : L 0 = true := hdep ⟨0, .data⟩ (by simp) rfl
    have d1 : L 1 = true := hdep ⟨1, .data⟩ (by simp) rfl
    have d2 : L 2 = true := hdep ⟨2, .data⟩ (by simp) rfl
    have d3 : L 3 = true := hdep ⟨3, .data⟩ (by simp) rfl
    have d4 : L 4 = true := hdep ⟨4, .data⟩ (by simp) rfl
    have d5 : L 5 = true := hdep ⟨5, .data⟩ (by simp) rfl
    show wpOp _ _ _ 6 (fun a' W' => HF w c (upd L 6) a' W') a W
    unfold wpOp
    rw [ho]
    simp only
    rw [if_pos (by simp [Region.wanted])]
    refine Or.inl ?_
    unfold Oper.wp
    simp [execOp, Result.andThen]
    exact hf6 (W' := W) hI hL d0 ⟨d1, d2, d3, d4, d5⟩ rfl
  · obtain rfl : o = _ := (Option.some.inj ho).symm
    show wpOp _ _ _ 7 (fun a' W' => HF w c (upd L 7) a' W') a W
    unfold wpOp
    rw [ho]
    simp only
    rw [if_pos (by simp [Region.wanted])]
    refine Or.inl ?_
    unfold Oper.wp
    have e1 := hI.e1
    simp only [Act.eval, Array.getD_eq_getD_getElem?] at e1
    go_simp
    exact hf7 (W' := W) hI hL rfl
  · obtain rfl : o = _ := (Option.some.inj ho).symm
    have d7 : L 7 = true := hdep ⟨7, .data⟩ (by simp) rfl
    show wpOp _ _ _ 8 (fun a' W' => HF w c (upd L 8) a' W') a W
    unfold wpOp
    rw [ho]
    simp only
    rw [if_pos (by simp [Region.wanted])]
    refine Or.inl ?_
    unfold Oper.wp
    have e5 := hI.s5 d7
    obtain ⟨x0, x1, x2⟩ := box_cells hI.be
    simp only [Act.eval, Array.getD_eq_getD_getElem?] at e5
    go_simp
    exact hf8 (W' := W) hI hL rfl
  · obtain rfl : o = _ := (Option.some.inj ho).symm
    have d6 : L 6 = true := hdep ⟨6, .data⟩ (by simp) rfl
    have d8 : L 8 = true := hdep ⟨8, .data⟩ (by simp) rfl
    show wpOp _ _ _ 9 (fun a' W' => HF w c (upd L 9) a' W') a W
    unfold wpOp
    rw [ho]
    simp only
    rw [if_pos (by simp [Region.wanted])]
    refine Or.inl ?_
    unfold Oper.wp
    obtain ⟨h0, e4⟩ := hI.s4 d6
    obtain ⟨d1, d2, d3, d4, d5⟩ := hI.k6 d6
    obtain ⟨b, D, h1, h2, h3, h4⟩ := hI.m1 h0
    obtain ⟨z, hrun, hat, _⟩ := h3.lookup_int keyInt Tryz.underlying81 Tryz.underlying3 (zeroInt W) (keyOf_int_mk Tryz.underlying3 hkw)
    have e6 := hI.s6 d8
    have hz : z = v1 allL c.kind := by
      rw [h4] at hat
      injection hat with hat
      injection hat with _ hat
      rw [← hat]
      simp [v1, allL, d1, d2, d3, d4, d5]
    rw [h1] at e4
    simp [execOp, e4, e6, hrun, Result.andThen]
    exact hf9 (W' := W) hI hL (by rw [hz])
  · obtain rfl : o = _ := (Option.some.inj ho).symm
    show wpOp _ _ _ 10 (fun a' W' => HF w c (upd L 10) a' W') a W
    unfold wpOp
    rw [ho]
    simp only
    rw [if_pos (by simp [Region.wanted])]
    refine Or.inl ?_
    unfold Oper.wp
    simp [execOp, run_makeMap, Result.andThen]
    exact hf10 hI hL rfl rfl
  · obtain rfl : o = _ := (Option.some.inj ho).symm
    have d10 : L 10 = true := hdep ⟨10, .data⟩ (by simp) rfl
    show wpOp _ _ _ 11 (fun a' W' => HF w c (upd L 11) a' W') a W
    unfold wpOp
    rw [ho]
    simp only
    rw [if_pos (by simp [Region.wanted])]
    refine Or.inl ?_
    unfold Oper.wp
    obtain ⟨b, D, h1, h2, h3, h4⟩ := hI.m2 d10
    obtain ⟨w', hrun, r1, r2⟩ := h3.update keyBool Tryz.underlying82 (show (L 11).toNat < maxLen by have := Bool.toNat_le (L 11); unfold maxLen; omega) (keyOf_bool_mk Tryz.underlying4 true) (elemInt 1 wf1)
    simp [execOp, h1, ev_const, hrun, Result.andThen]
    exact hf11 (v := undef) hI hL d10 b D h1 h2 (isMap_owns h3) h4 r1 r2
  · obtain rfl : o = _ := (Option.some.inj ho).symm
    have d10 : L 10 = true := hdep ⟨10, .data⟩ (by simp) rfl
    have d11 : L 11 = true := hdep ⟨11, .data⟩ (by simp) rfl
    show wpOp _ _ _ 12 (fun a' W' => HF w c (upd L 12) a' W') a W
    unfold wpOp
    rw [ho]
    simp only
    rw [if_pos (by simp [Region.wanted])]
    refine Or.inl ?_
    unfold Oper.wp
    simp [execOp, Result.andThen]
    exact hf12 (W' := W) hI hL d10 d11 rfl
  · obtain rfl : o = _ := (Option.some.inj ho).symm
    show wpOp _ _ _ 13 (fun a' W' => HF w c (upd L 13) a' W') a W
    unfold wpOp
    rw [ho]
    simp only
    rw [if_pos (by simp [Region.wanted])]
    refine Or.inl ?_
    unfold Oper.wp
    have e1 := hI.e1
    obtain ⟨x0, x1, x2⟩ := box_cells hI.be
    simp only [Act.eval, Array.getD_eq_getD_getElem?] at e1
    go_simp
    exact hf13 (W' := W) hI hL rfl
  · obtain rfl : o = _ := (Option.some.inj ho).symm
    have d13 : L 13 = true := hdep ⟨13, .data⟩ (by simp) rfl
    show wpOp _ _ _ 14 (fun a' W' => HF w c (upd L 14) a' W') a W
    unfold wpOp
    rw [ho]
    simp only
    rw [if_pos (by simp [Region.wanted])]
    refine Or.inl ?_
    unfold Oper.wp
    have e10 := hI.s10 d13
    unfold Cmd.v at e10
    simp only [Act.eval, Array.getD_eq_getD_getElem?] at e10
    go_simp
    refine (isEach_ref c W).mono ?_
    rintro e w' ⟨rfl, hb⟩
    exact hf14 hI hL rfl hb
  · obtain rfl : o = _ := (Option.some.inj ho).symm
    have d12 : L 12 = true := hdep ⟨12, .data⟩ (by simp) rfl
    have d14 : L 14 = true := hdep ⟨14, .data⟩ (by simp) rfl
    show wpOp _ _ _ 15 (fun a' W' => HF w c (upd L 15) a' W') a W
    unfold wpOp
    rw [ho]
    simp only
    rw [if_pos (by simp [Region.wanted])]
    refine Or.inl ?_
    unfold Oper.wp
    obtain ⟨h0, e9⟩ := hI.s9 d12
    have d11 := hI.k12 d12
    obtain ⟨b, D, h1, h2, h3, h4⟩ := hI.m2 h0
    obtain ⟨z, hrun, hat, _⟩ := h3.lookup_int keyBool Tryz.underlying82 Tryz.underlying3 (zeroInt W) (keyOf_bool_mk Tryz.underlying4 (isEach c.kind))
    have e11 := hI.s11 d14
    have hz : z = v2 allL (isEach c.kind) := by
      rw [h4] at hat
      injection hat with hat
      injection hat with _ hat
      rw [← hat]
      simp [v2, allL, d11]
    rw [h1] at e9
    simp [execOp, e9, e11, hrun, Result.andThen]
    exact hf15 (W' := W) hI hL (by rw [hz])
  · obtain rfl : o = _ := (Option.some.inj ho).symm
    have d9 : L 9 = true := hdep ⟨9, .data⟩ (by simp) rfl
    have d15 : L 15 = true := hdep ⟨15, .data⟩ (by simp) rfl
    show wpOp _ _ _ 16 (fun a' W' => HF w c (upd L 16) a' W') a W
    unfold wpOp
    rw [ho]
    simp only
    rw [if_pos (by simp [Region.wanted])]
    refine Or.inl ?_
    unfold Oper.wp
    have e7 := hI.s7 d9
    have e12 := hI.s12 d15
    have hb := v_bounds c.kind
    simp only [Act.eval, Array.getD_eq_getD_getElem?] at e7 e12
    go_simp
    exact hf16 (W' := W) hI hL (by rw [IntKind.wrap_i64]; congr 1; omega)
  · obtain rfl : o = _ := (Option.some.inj ho).symm
    have d16 : L 16 = true := hdep ⟨16, .data⟩ (by simp) rfl
    show wpOp _ _ _ 17 (fun a' W' => HF w c (upd L 17) a' W') a W
    unfold wpOp
    rw [ho]
    simp only
    rw [if_pos (by simp [Region.wanted])]
    refine Or.inl ?_
    unfold Oper.wp
    have e13 := hI.s13 d16
    simp [execOp, Result.andThen]
    exact hf17 (W' := W) hI hL e13
end Go.Proofs.YtfkddfmbgbaefaaGreatDoor
namespace Go.Proofs.YtfkddfmbgbaefaaGreatDoor
open Go.RowKit Go.Gs
set_option linter.unusedVariables false

/-- What the walk stands on, once Do has answered 'D'. -/
def JX (w W : World) (c : Cmd) (v : Value) (bss : List (List UInt8)) (x : Value) (D : List UInt8) : Prop := JA w W c v bss ∧ Reads W x D.length (D.map U)
theorem JX.below {w W W' : World} {c : Cmd} {v x : Value} {bss : List (List UInt8)} {D : List UInt8} (h : JX w W c v bss x D) (hb : Below W.heap.size W W') : JX w W' c v bss x D := ⟨h.1.below hb, h.2.below hb⟩
theorem JX.drew {w W : World} {c : Cmd} {v x : Value} {bss : List (List UInt8)} {D : List UInt8} (h : JX w W c v bss x D) : JX w W.drew c v bss x D := h.below (Below.refl _ _).drew
theorem JX.cells {w W : World} {k n : Int} {word : List UInt8} {v x : Value} {bss : List (List UInt8)} {D : List UInt8} (h : JX w W ⟨k, word, n⟩ v bss x D) : W.cell? ⟨w.heap.size, 0, none⟩ = some (.int .i64 k) ∧ W.cell? ⟨w.heap.size, 1, none⟩ = some (.string ⟨word.toArray⟩) ∧ W.cell? ⟨w.heap.size, 2, none⟩ = some (.int .i64 n) := h.1.1
theorem jx_any {F : FuncId} {args : Array Value} {w W : World} {k n : Int} {word : List UInt8} {vb x : Value} {bss : List (List UInt8)} {D : List UInt8} {v : Value} (h : JX w W ⟨k, word, n⟩ vb bss x D) (hC : Calls Tryz.prog F args W fun e w' => e = .returned v ∧ Below W.heap.size W w') :
    Calls Tryz.prog F args W fun e w' => e = .returned v ∧ Hid (JX w w' ⟨k, word, n⟩ vb bss x D) ∧ w'.cell? ⟨w.heap.size, 0, none⟩ = some (.int .i64 k) ∧ w'.cell? ⟨w.heap.size, 1, none⟩ = some (.string ⟨word.toArray⟩) ∧ w'.cell? ⟨w.heap.size, 2, none⟩ = some (.int .i64 n) := by
  refine hC.mono ?_
  rintro e w' ⟨rfl, hb⟩
  have h1 := h.below hb
  exact ⟨rfl, h1, h1.cells⟩

set_option maxRecDepth 100000 in
set_option maxHeartbeats 8000000 in
theorem jsays (how k n : Int) (word : List UInt8) (ao : Option Addr) (cap : Nat) (bss : List (List UInt8)) (w : World) (hkw : (Lit.int .i64 k).wf = true) (hw : word.length ≤ 9223372036854775807) (h1 : RList w (.slice ao bss.length cap) U bss) (h2 : KnownE w) (h3 : w.ShapedOpen Tryz.prog) (hbs : ∀ p ∈ bss, p.length ≤ 1000000000000000)
    (r jr hh re : Int) (hr : chk ⟨k, word, n⟩ = r) (hjr : jchk how ⟨k, word, n⟩ = jr) (hhh : (if chk ⟨k, word, n⟩ = 0 then howFor k else 0) = hh) (D : List UInt8)
    (hdo : ∀ W, JA w W ⟨k, word, n⟩ (.slice ao bss.length cap) bss → Calls Tryz.prog 29 #[.int .i64 how, .agg #[.int .i64 k, .string ⟨word.toArray⟩, .int .i64 n], .slice ao bss.length cap] W fun e w' => ∃ ro rc, e = .returned (.tuple #[.slice ro D.length rc, .int .i64 re]) ∧ Reads w' (.slice ro D.length rc) D.length (D.map U) ∧ Below W.heap.size W w')
    (hre : re = if jr ≠ 0 then jr else if 5 < bss.length ∨ 4000 < bss.flatten.length then 2 else 0) (hD : re ≠ 0 → D = [])
    (hJ : re = 0 → ∀ W, JA w W ⟨k, word, n⟩ (.slice ao bss.length cap) bss → Calls Tryz.prog 35 #[.int .i64 how, .agg #[.int .i64 k, .string ⟨word.toArray⟩, .int .i64 n], .slice ao bss.length cap] W fun e w' => ∃ x, e = .returned x ∧ Reads w' x D.length (D.map U) ∧ Below W.heap.size W w') :
    Calls Tryz.prog 6 #[.int .i64 how, .agg #[.int .i64 k, .string ⟨word.toArray⟩, .int .i64 n], .slice ao bss.length cap] w fun e w' => e = .returned (.bool true) ∧ Below w.heap.size w w' := by
  have hcap : bss.length ≤ cap ∧ cap ≤ 9223372036854775807 := by
    obtain ⟨ao', cap', e, h1', h2'⟩ := h1.shape
    injection e with e1 e2 e3
    subst e3
    exact ⟨h1', by simpa [maxLen] using h2'⟩
  obtain ⟨hcN, hcm⟩ := hcap
  have J0 : Hid (JA w _ ⟨k, word, n⟩ (.slice ao bss.length cap) bss) := JA.start (c := ⟨k, word, n⟩) h1 h2 h3
  have hF : ∀ W, Calls Tryz.prog 30 #[.agg #[.int .i64 k, .string ⟨word.toArray⟩, .int .i64 n]] W fun e w' => e = .returned (.tuple #[.int .i64 hh, .int .i64 r]) ∧ Below W.heap.size W w' := fun W => by rw [← hr, ← hhh]; exact for_is ⟨k, word, n⟩ W hw
  have hCR : ∀ W, Calls Tryz.prog 10 #[.agg #[.int .i64 k, .string ⟨word.toArray⟩, .int .i64 n]] W fun e w' => e = .returned (.int .i64 r) ∧ Below W.heap.size W w' := fun W => by rw [← hr]; exact check_ref ⟨k, word, n⟩ W hkw hw
  have hJR : ∀ W, Calls Tryz.prog 31 #[.int .i64 how, .agg #[.int .i64 k, .string ⟨word.toArray⟩, .int .i64 n]] W fun e w' => e = .returned (.int .i64 jr) ∧ Below W.heap.size W w' := fun W => by rw [← hjr]; exact jcheck_ref how ⟨k, word, n⟩ W hkw hw
  have hJC : ∀ W, Calls Tryz.prog 33 #[.int .i64 how, .agg #[.int .i64 k, .string ⟨word.toArray⟩, .int .i64 n]] W fun e w' => e = .returned (.int .i64 jr) ∧ Below W.heap.size W w' := fun W => by rw [← hjr]; exact jcheck_is how ⟨k, word, n⟩ W hw
  have hH : r = 0 → ∀ W, Calls Tryz.prog 34 #[.agg #[.int .i64 k, .string ⟨word.toArray⟩, .int .i64 n]] W fun e w' => e = .returned (.int .i64 hh) ∧ Below W.heap.size W w' := fun h0 W => by
    rw [← hr] at h0
    rw [← hhh, if_pos h0, ← v_how ⟨k, word, n⟩ h0]
    exact howFor_ref ⟨k, word, n⟩ W hkw
  have hh0 : r ≠ 0 → hh = 0 := fun h => by rw [← hhh, hr, if_neg h]
  have HBS : Hid _ := hbs
  have HDO : Hid _ := hdo
  have HRE : Hid (re = if jr ≠ 0 then jr else if 5 < bss.length ∨ 4000 < bss.flatten.length then 2 else 0) := hre
  have HD : Hid (re ≠ 0 → D = []) := hD
  have HJ : Hid _ := hJ
  have HH : Hid _ := hH
  have HH0 : Hid (r ≠ 0 → hh = 0) := hh0
  obtain ⟨N, hN⟩ : ∃ N, N = bss.length := ⟨_, rfl⟩
  have HN : Hid (N = bss.length) := hN
  rw [← hN] at hcN J0 HDO HRE HJ ⊢
  obtain ⟨M, hM⟩ : ∃ M, M = D.length := ⟨_, rfl⟩
  have HM : Hid (M = D.length) := hM
  clear h1 h2 h3 hr hjr hhh hdo hre hD hJ hH hh0 hbs hkw hw hN
  go_enter Tryz.func6, Tryz.ntmps6
  go_wp2_with fail
  refine (HDO.out _ J0.out).mono ?_
  rintro e w1 ⟨ro, rc, rfl, hx1, hb1⟩
  have S1 : Hid (JX w w1 ⟨k, word, n⟩ (.slice ao N cap) bss (.slice ro D.length rc) D) := ⟨J0.out.below hb1, hx1⟩
  obtain ⟨x0, x1, x2⟩ := S1.out.cells
  clear J0 HDO hx1 hb1
  rw [← hM] at S1 ⊢
  clear hM
  go_wp2_with fail
  refine (jx_any S1.out (hF _)).mono ?_
  rintro e w2 ⟨rfl, S2, y0, y1, y2⟩
  clear S1 hF x0 x1 x2
  go_upto_region 3 with fail
  go_cut [11, 12] (fun z1 z2 wx => z1 = .int .i64 r ∧ z2 = .int .i64 jr ∧ Hid (JX w wx ⟨k, word, n⟩ (.slice ao N cap) bss (.slice ro M rc) D))
  case first =>
    have S3 : Hid (JX w w2.drew ⟨k, word, n⟩ (.slice ao N cap) bss (.slice ro M rc) D) := S2.out.drew
    clear S2 HRE HD HJ HH HH0 HBS HN HM hJC
    go_region_with (first
      | (go_at_call 10; refine (jx_any S3.out (hCR _)).mono ?_; rintro e w4 ⟨rfl, S4, p0, p1, p2⟩)
      | (go_at_call 31; refine (jx_any S4.out (hJR _)).mono ?_; rintro e w5 ⟨rfl, S5, q0, q1, q2⟩))
    all_goals (go_wp2_with fail; go_meet; exact ⟨rfl, rfl, S5⟩)
  case rest =>
    obtain ⟨rfl, rfl, S5⟩ := hcut
    obtain ⟨c0, c1, c2⟩ := S5.out.cells
    clear S2 y0 y1 y2 hCR hJR
    go_upto_region 4 with fail
    go_cut [64] (fun z wx => z = .bool false ∧ Hid (JX w wx ⟨k, word, n⟩ (.slice ao N cap) bss (.slice ro M rc) D))
    case first =>
      clear HRE HD HJ HBS HN HM
      go_wp2_with fail
      refine (jx_any S5.out (spliced_true _ S5.out.1.2.2.1)).mono ?_
      rintro e w6 ⟨rfl, S6, p0, p1, p2⟩
      clear S5 c0 c1 c2
      go_wp2_with fail
      refine (jx_any S6.out (hJC _)).mono ?_
      rintro e w7 ⟨rfl, S7, q0, q1, q2⟩
      clear S6 p0 p1 p2
      by_cases hr0 : r = 0
      · have hHW := HH.out hr0
        subst hr0
        clear HH HH0
        go_wp2_with fail
        refine (jx_any S7.out (hHW _)).mono ?_
        rintro e w8 ⟨rfl, S8, t0, t1, t2⟩
        clear S7 q0 q1 q2
        go_wp2_with fail
        go_meet
        exact ⟨by simp, S8⟩
      · have hz := HH0.out hr0
        subst hz
        clear HH HH0
        go_wp2_with fail
        go_meet
        exact ⟨by simp, S7⟩
    case rest =>
      obtain ⟨rfl, S6⟩ := hcut
      obtain ⟨c0, c1, c2⟩ := S6.out.cells
      clear S5 HH HH0 hJC
      obtain ⟨K, hK⟩ : ∃ K : Nat, K = min N 6 := ⟨_, rfl⟩
      have hKN : K ≤ N := by omega
      have hK6 : K ≤ 6 := by omega
      have hKc : K ≤ cap := by omega
      have HK : Hid (K = min N 6) := hK
      have hmin : min (N : Int) 6 = (K : Int) := by omega
      go_wp2_with fail
      rw [← hK]
      clear hmin hK
      go_loopw [13, 71] (fun s i wr => ∃ j : Nat, ∃ m : Nat, j ≤ K ∧ m ≤ 5000 ∧ i = .int .i64 j ∧ s = .int .i64 m ∧ wr = wc ∧ Hid (m = min 5000 ((bss.take j).flatten).length))
        (fun _ i _ => K - (intOf i).toNat)
      case atStart => exact ⟨0, 0, Nat.zero_le _, by omega, rfl, rfl, rfl, (show _ = _ from by simp)⟩
      case round =>
        obtain ⟨j, m, hj, hm, rfl, rfl, hw, hmk⟩ := hrel
        obtain rfl : wc = wr := hw.symm
        clear hw
        by_cases hlt : j < K
        · obtain ⟨p, hpk⟩ : ∃ p, bss[j]? = some p := ⟨_, List.getElem?_eq_getElem (by have := HN.out; omega)⟩
          have hpb := HBS.out p (List.mem_of_getElem? hpk)
          have HPr := S6.out.1.2.1
          obtain ⟨q, hq⟩ : ∃ q : Nat, q = min 5000 p.length := ⟨_, rfl⟩
          obtain ⟨m2, hm2⟩ : ∃ m2 : Nat, m2 = min 5000 (m + q) := ⟨_, rfl⟩
          have HS : Hid (m2 = min 5000 ((bss.take (j + 1)).flatten).length) := (show _ = _ from by
            have := hmk.out
            rw [flat_step hpk, List.length_append]
            omega)
          obtain ⟨b, off, au, cu, rfl, hcell, _⟩ := HPr.at hpk
          clear hpk hmk HPr HRE HD HJ HBS HN HM HK
          generalize p.length = pl at *
          have hmin1 : min (5000 : Int) (pl : Int) = (q : Int) := by omega
          have hmin2 : min (5000 : Int) ((m : Int) + (q : Int)) = (m2 : Int) := by omega
          have hq5 : q ≤ 5000 := by omega
          have hm5 : m2 ≤ 5000 := by omega
          clear hq hm2
          go_wp2_with fail
          go_roundw
          case rel => exact ⟨j + 1, m2, by omega, hm5, by go_num, by go_num, by simp, HS⟩
          case measure => simp [intOf]; omega
        · have hjK : j = K := by omega
          subst hjK
          clear hlt hj HBS
          by_cases hjr0 : jr = 0
          · subst hjr0
            have hre1 : re = if 5 < N ∨ 4000 < bss.flatten.length then 2 else 0 := by have := HRE.out; simpa using this
            by_cases hN5 : 5 < N
            · have hre2 : re = 2 := by rw [hre1, if_pos (.inl hN5)]
              have hM0 : M = 0 := by rw [HM.out, HD.out (by rw [hre2]; decide)]; rfl
              have HB : Hid (Below w.heap.size w wc) := S6.out.1.2.2.2.2
              subst hre2
              subst hM0
              clear HRE HD HJ HN HM HK hre1 hmk S6
              go_wp2_with fail
              go_ret
              exact ⟨rfl, HB.out⟩
            · have hfl : m = min 5000 bss.flatten.length := by
                have h1 := hmk.out
                have h2 := HK.out
                have h3 := HN.out
                rw [show j = bss.length by omega, List.take_length] at h1
                exact h1
              by_cases hm4 : 4000 < m
              · have hre2 : re = 2 := by rw [hre1, if_pos (.inr (by omega))]
                have hM0 : M = 0 := by rw [HM.out, HD.out (by rw [hre2]; decide)]; rfl
                have HB : Hid (Below w.heap.size w wc) := S6.out.1.2.2.2.2
                subst hre2
                subst hM0
                clear HRE HD HJ HN HM HK hre1 hmk S6 hfl
                go_wp2_with fail
                go_ret
                exact ⟨rfl, HB.out⟩
              · have hre2 : re = 0 := by rw [hre1, if_neg (by omega)]
                have hJ := HJ.out hre2 wc S6.out.1
                subst hre2
                clear HRE HD HJ HN HK hre1 hmk hfl
                go_wp2_with fail
                refine hJ.mono ?_
                rintro e w9 ⟨x, rfl, hx9, hb9⟩
                have S9 := S6.out.below hb9
                have hEq := eqb_same _ x D w9 S9.2 hx9
                have HB : Hid (Below w.heap.size w w9) := S9.1.2.2.2.2
                clear hJ S6 S9 hx9 hb9 HM c0 c1 c2
                go_wp2_with fail
                refine hEq.mono ?_
                rintro e w10 ⟨rfl, hb10⟩
                have HB2 : Hid (Below w.heap.size w w10) := HB.out.trans (hb10.mono HB.out.size)
                clear hEq HB hb10
                go_wp2_with fail
                go_ret
                exact ⟨rfl, HB2.out⟩
          · have hre2 : re = jr := by have := HRE.out; rw [if_pos hjr0] at this; exact this
            have hM0 : M = 0 := by rw [HM.out, HD.out (by rw [hre2]; exact hjr0)]; rfl
            have HB : Hid (Below w.heap.size w wc) := S6.out.1.2.2.2.2
            subst hre2
            subst hM0
            clear HRE HD HJ HN HM HK hmk S6
            go_wp2_with fail
            go_ret
            exact ⟨rfl, HB.out⟩
end Go.Proofs.YtfkddfmbgbaefaaGreatDoor
namespace Go.Proofs.YtfkddfmbgbaefaaGreatDoor
open Go.RowKit Go.Gs
set_option linter.unusedVariables false

theorem split_facts_new (bs : List UInt8) (w : World) (hsh : w.ShapedOpen Tryz.prog) (hle : bs.length ≤ 100000) (P : List (List UInt8)) (hP : pieces [] bs = P) (x : List UInt8) (hx : P[P.length - 1]? = some x) :
    Calls Tryz.prog 47 #[.string ⟨bs.toArray⟩, .string ⟨#[10]⟩] w fun e w' =>
      ∃ g, e = .returned (.slice (some ⟨g, 0, none⟩) P.length P.length) ∧ w.heap.size ≤ g ∧ w'.cell? ⟨g, P.length - 1, none⟩ = some (.string ⟨x.toArray⟩) ∧
        Reads w' (.slice (some ⟨g, 0, none⟩) P.length P.length) P.length (P.map S) ∧ Below w.heap.size w w' := by
  have hpl := pieces_length bs []
  rw [hP] at hpl
  refine (split_feed bs w hsh hle).mono ?_
  rintro e w' ⟨rfl, rfl⟩
  rw [hP]
  refine ⟨w.heap.size, rfl, Nat.le_refl _, ?_, by simpa using reads_new w (P.map S).toArray 9 (0, 0) P.length (by simp) (by omega), (Below.refl _ w).alloc (Nat.le_refl _) _⟩
  rw [cell_of_row _ _ _ _ _ _ (heap_alloc_new w _)]
  simp [hx, S]

set_option maxRecDepth 100000 in
set_option maxHeartbeats 1000000 in
theorem linesOf_new (v : Value) (bs : List UInt8) (w : World) (hr : Reads w v bs.length (bs.map U)) (hsh : w.ShapedOpen Tryz.prog) (hle : bs.length ≤ 100000) :
    Calls Tryz.prog 20 #[v] w fun e w' => ∃ g cap, e = .returned (.slice (some ⟨g, 0, none⟩) (lines bs).length cap) ∧ w.heap.size ≤ g ∧
      Reads w' (.slice (some ⟨g, 0, none⟩) (lines bs).length cap) (lines bs).length ((lines bs).map S) ∧ Below w.heap.size w w' := by
  have hconv := conv_any hr
  have hpn := pieces_ne bs []
  have hLE := lines_eq bs _ rfl
  have hlast : (pieces [] bs)[(pieces [] bs).length - 1]? = some ((pieces [] bs).getLast hpn) := by
    rw [List.getLast_eq_getElem]
    exact List.getElem?_eq_getElem _
  have hlen0 : 0 < (pieces [] bs).length := List.length_pos_iff.2 hpn
  have hlenm : (pieces [] bs).length ≤ 200000 := by have := pieces_length bs []; omega
  generalize (pieces [] bs).getLast hpn = x at *
  generalize hP : pieces [] bs = P at *
  have HP : Hid _ := hP
  have HL : Hid _ := hlast
  clear hP hlast hpn
  by_cases hx : x = []
  · subst hx
    have Hl : Hid _ := hLE.1 rfl
    clear hLE
    go_enter Tryz.func20, Tryz.ntmps20
    go_wp2_with fail
    refine (split_facts_new bs _ hsh hle P HP.out _ HL.out).mono ?_
    rintro e w1 ⟨g, rfl, hgn, hcell, hrd, hbel⟩
    have HG : Hid _ := hgn
    clear hgn
    clear hconv
    have R : Hid (Reads w1 (.slice (some ⟨g, 0, none⟩) (P.length - 1) P.length) (lines bs).length ((lines bs).map S) ∧ (lines bs).length = P.length - 1) := by
      have h1 := reads_take hrd (show P.length - 1 ≤ P.length by omega)
      have h2 : (lines bs).length = P.length - 1 := by rw [Hl.out]; simp
      refine ⟨?_, h2⟩
      rw [h2, Hl.out, List.dropLast_eq_take, List.map_take]
      exact h1
    clear hrd
    go_wp2_with fail
    go_ret
    refine ⟨g, P.length, ?_, HG.out, ?_, hbel⟩
    · rw [R.out.2]; simp
    · rw [R.out.2]
      have := R.out.1
      rw [R.out.2] at this
      exact this
  · have hxe : x.isEmpty = false := by simp [hx]
    have Hl : Hid _ := hLE.2 hx
    clear hLE hx
    go_enter Tryz.func20, Tryz.ntmps20
    go_wp2_with fail
    refine (split_facts_new bs _ hsh hle P HP.out _ HL.out).mono ?_
    rintro e w1 ⟨g, rfl, hgn, hcell, hrd, hbel⟩
    have HG : Hid _ := hgn
    clear hgn
    clear hconv
    have R : Hid _ := hrd
    clear hrd
    go_wp2_with fail
    go_ret
    rw [← Hl.out] at R
    refine ⟨g, _, ?_, HG.out, R.out, hbel⟩
    rw [Hl.out]
    rfl
end Go.Proofs.YtfkddfmbgbaefaaGreatDoor
namespace Go.Proofs.YtfkddfmbgbaefaaGreatDoor
open Go.RowKit Go.Gs
set_option linter.unusedVariables false

def far (u v : Value) : Prop := ∀ g, u.ownBlock = some g → v.ownBlock ≠ some g
theorem far_symm {u v : Value} (h : far u v) : far v u := fun g hg hu => h g hu hg
theorem reads_grown {w w' : World} {u v : Value} {n : Nat} {xs : List Value} (h : Reads w u n xs) (hg : w.grownBy w' v.ownBlock) (hf : far u v) : Reads w' u n xs := by
  obtain ⟨h1, ao, cap, rfl, h2, h3, h4⟩ := h
  refine ⟨h1, ao, cap, rfl, h2, h3, fun hn => ?_⟩
  obtain ⟨b, off, rfl, hc⟩ := h4 hn
  refine ⟨b, off, rfl, fun j x hx => ?_⟩
  have hcj := hc j x hx
  have hlt := World.block_lt_of_cell? w _ hcj
  rw [← hcj]
  exact World.cell?_of_block (hg.block b hlt (fun e => hf b rfl e.symm))
theorem owns_grown {w w' : World} {B : Nat} {e : TypeId} {u v : Value} {n : Nat} {xs : List Value} (h : w.ownsRow B e 1 u n xs) (hg : w.grownBy w' v.ownBlock) (hf : far u v) : w'.ownsRow B e 1 u n xs := by
  have hl := h.lt
  refine ⟨h.1, ?_⟩
  rcases h.2 with h0 | ⟨g, cap, cur, rfl, h2, h3, h4⟩
  · exact .inl h0
  · refine .inr ⟨g, cap, cur, rfl, h2, ?_, h4⟩
    rw [hg.block g (hl g rfl).2 (fun e => hf g rfl e.symm)]
    exact h3
theorem reads_block {w : World} {u : Value} {n : Nat} {xs : List Value} (h : w.ownsRow 0 5 1 u n xs) : ∀ g, u.ownBlock = some g → g < w.heap.size := fun g hg => (h.lt g hg).2

def allOf (bss : List (List UInt8)) (k : Nat) : List UInt8 := ended ((bss.take k).map lines).flatten
theorem allOf_step {bss : List (List UInt8)} {k : Nat} {p : List UInt8} (h : bss[k]? = some p) : allOf bss (k + 1) = allOf bss k ++ ended (lines p) := by
  unfold allOf
  rw [List.take_add_one, h]
  simp [ended_append]
theorem allOf_all (bss : List (List UInt8)) : allOf bss bss.length = ended (bss.map lines).flatten := by unfold allOf; rw [List.take_length]
theorem allOf_len (bss : List (List UInt8)) (k : Nat) : (allOf bss k).length ≤ bss.flatten.length + bss.length := by
  unfold allOf
  have h1 := flat_lines_len (bss.take k)
  have h2 := flat_le bss k
  have h3 : (bss.take k).length ≤ bss.length := List.length_take_le' _ _
  omega

/-- What the loop of JoinWhole stands on: kd parts are done, ka are put behind each other. -/
def WRel (w1 wr : World) (c : Cmd) (bss : List (List UInt8)) (kd ka : Nat) (v7 v8 : Value) : Prop :=
  ∃ us : List Value, wr.ownsRow w1.heap.size 24 1 v7 kd us ∧ wr.ownsRow w1.heap.size 5 1 v8 (allOf bss ka).length ((allOf bss ka).map U) ∧ far v7 v8 ∧
    (∀ (j : Nat) (p : List UInt8), j < kd → bss[j]? = some p → ∃ u, us[j]? = some u ∧ Reads wr u (doOut c p).length ((doOut c p).map U) ∧ far u v7 ∧ far u v8 ∧ ∀ g, u.ownBlock = some g → g < wr.heap.size) ∧ Below w1.heap.size w1 wr
theorem WRel.start {w1 : World} {c : Cmd} {bss : List (List UInt8)} : WRel w1 w1 c bss 0 0 (.slice none 0 0) (.slice none 0 0) :=
  ⟨[], World.ownsRow_nil _ _ _ _, by simpa [allOf, ended] using World.ownsRow_nil w1 w1.heap.size 5 1, fun g h => by simp [Value.ownBlock] at h, fun j p hj => absurd hj (Nat.not_lt_zero _), Below.refl _ _⟩
theorem WRel.below {w1 wr w2 : World} {c : Cmd} {bss : List (List UInt8)} {kd ka : Nat} {v7 v8 : Value} (h : WRel w1 wr c bss kd ka v7 v8) (hb : Below wr.heap.size wr w2) : WRel w1 w2 c bss kd ka v7 v8 := by
  obtain ⟨us, h1, h2, h3, h4, h5⟩ := h
  refine ⟨us, owns_below h1 hb, owns_below h2 hb, h3, fun j p hj hp => ?_, h5.trans (hb.mono h5.size)⟩
  obtain ⟨u, e1, e2, e3, e4, e5⟩ := h4 j p hj hp
  exact ⟨u, e1, e2.below hb, e3, e4, fun g hg => Nat.lt_of_lt_of_le (e5 g hg) hb.size⟩
theorem WRel.lt7 {w1 wr : World} {c : Cmd} {bss : List (List UInt8)} {kd ka : Nat} {v7 v8 : Value} (h : WRel w1 wr c bss kd ka v7 v8) : (∀ g, v7.ownBlock = some g → g < wr.heap.size) ∧ (∀ g, v8.ownBlock = some g → g < wr.heap.size) := by
  obtain ⟨us, h1, h2, _⟩ := h
  exact ⟨fun g hg => (h1.lt g hg).2, fun g hg => (h2.lt g hg).2⟩
/-- One more is done. -/
theorem WRel.done {w1 W w4 : World} {c : Cmd} {bss : List (List UInt8)} {k : Nat} {v7 v7' v8 r : Value} {us : List Value} {p : List UInt8} (hp : bss[k]? = some p)
    (h1 : W.ownsRow w1.heap.size 24 1 v7 k us) (h2 : W.ownsRow w1.heap.size 5 1 v8 (allOf bss k).length ((allOf bss k).map U)) (h3 : far v7 v8)
    (h4 : ∀ (j : Nat) (p : List UInt8), j < k → bss[j]? = some p → ∃ u, us[j]? = some u ∧ Reads W u (doOut c p).length ((doOut c p).map U) ∧ far u v7 ∧ far u v8 ∧ ∀ g, u.ownBlock = some g → g < W.heap.size) (h5 : Below w1.heap.size w1 W)
    (hr : Reads W r (doOut c p).length ((doOut c p).map U)) (hr7 : far r v7) (hr8 : far r v8) (hrl : ∀ g, r.ownBlock = some g → g < W.heap.size)
    (hown : w4.ownsRow w1.heap.size 24 1 v7' (k + 1) (us ++ [r])) (hg : W.grownBy w4 v7.ownBlock) (hat : v7'.ownBlock = v7.ownBlock ∨ v7'.ownBlock = some W.heap.size) : WRel w1 w4 c bss (k + 1) k v7' v8 := by
  have hus : us.length = k := by have := h1.1; omega
  have f7 : ∀ u : Value, far u v7 → (∀ g, u.ownBlock = some g → g < W.heap.size) → far u v7' := by
    intro u hu hl g hgu
    rcases hat with e | e
    · rw [e]; exact hu g hgu
    · rw [e]
      intro e'
      injection e' with e'
      have := hl g hgu
      omega
  refine ⟨us ++ [r], hown, owns_grown h2 hg (far_symm h3), far_symm (f7 v8 (far_symm h3) (fun g hg => (h2.lt g hg).2)), fun j q hj hq => ?_, h5.grown hg h5.size (fun k hk => (h1.lt k hk).1)⟩
  by_cases hjk : j < k
  · obtain ⟨u, e1, e2, e3, e4, e5⟩ := h4 j q hjk hq
    exact ⟨u, by rw [List.getElem?_append_left (by omega)]; exact e1, reads_grown e2 hg e3, f7 u e3 e5, e4, fun g hgu => Nat.lt_of_lt_of_le (e5 g hgu) hg.size⟩
  · obtain rfl : j = k := by omega
    rw [hp] at hq
    injection hq with hq
    subst hq
    exact ⟨r, by rw [List.getElem?_append_right (by omega), hus, Nat.sub_self]; rfl, reads_grown hr hg hr7, f7 r hr7 hrl, hr8, fun g hgu => Nat.lt_of_lt_of_le (hrl g hgu) hg.size⟩
/-- One more is put behind the others. -/
theorem WRel.more {w1 W w6 : World} {c : Cmd} {bss : List (List UInt8)} {k m : Nat} {v7 v8 v8' : Value} {p : List UInt8} (hp : bss[k]? = some p) (h : WRel w1 W c bss (k + 1) k v7 v8)
    (hm : m = (ended (lines p)).length) (hown : w6.ownsRow w1.heap.size 5 1 v8' ((allOf bss k).length + m) ((allOf bss k).map U ++ (ended (lines p)).map U)) (hg : W.grownBy w6 v8.ownBlock) (hat : v8'.ownBlock = v8.ownBlock ∨ v8'.ownBlock = some W.heap.size) : WRel w1 w6 c bss (k + 1) (k + 1) v7 v8' := by
  obtain ⟨us, h1, h2, h3, h4, h5⟩ := h
  have f8 : ∀ u : Value, far u v8 → (∀ g, u.ownBlock = some g → g < W.heap.size) → far u v8' := by
    intro u hu hl g hgu
    rcases hat with e | e
    · rw [e]; exact hu g hgu
    · rw [e]
      intro e'
      injection e' with e'
      have := hl g hgu
      omega
  refine ⟨us, owns_grown h1 hg h3, ?_, f8 v7 h3 (fun g hg => (h1.lt g hg).2), fun j q hj hq => ?_, h5.grown hg h5.size (fun k hk => (h2.lt k hk).1)⟩
  · rw [allOf_step hp, List.length_append, List.map_append, ← hm]
    exact hown
  · obtain ⟨u, e1, e2, e3, e4, e5⟩ := h4 j q hj hq
    exact ⟨u, e1, reads_grown e2 hg e4, e3, f8 u e4 e5, fun g hgu => Nat.lt_of_lt_of_le (e5 g hgu) hg.size⟩
theorem WRel.rlist {w1 wr : World} {c : Cmd} {bss : List (List UInt8)} {k ka : Nat} {v7 v8 : Value} (h : WRel w1 wr c bss k ka v7 v8) (hk : k = bss.length) : RList wr v7 U (bss.map (doOut c)) := by
  obtain ⟨us, h1, h2, h3, h4, h5⟩ := h
  refine ⟨us, ?_, fun j q hj => ?_⟩
  · have := Reads.of_owns h1
    rw [List.length_map, ← hk]; exact this
  · rw [List.getElem?_map] at hj
    cases hb : bss[j]? with
    | none => rw [hb] at hj; cases hj
    | some p =>
      rw [hb] at hj
      simp only [Option.map_some, Option.some.injEq] at hj
      subst hj
      obtain ⟨u, e1, e2, _⟩ := h4 j p (by rw [hk]; exact (List.getElem?_eq_some_iff.1 hb).1) hb
      exact ⟨u, e1, e2⟩
end Go.Proofs.YtfkddfmbgbaefaaGreatDoor
namespace Go.Proofs.YtfkddfmbgbaefaaGreatDoor
open Go.RowKit Go.Gs
set_option linter.unusedVariables false

theorem parse_ok (s : ByteArray) (n : Int) (w : World) (hs : s.size ≤ 281474976710656) (h : Lib.atoiAll s.data.toList = .ok n) :
    Calls Tryz.prog 56 #[.string s, .int .i64 10, .int .i64 64] w fun e w' => e = .returned (.tuple #[.int .i64 n, .nilIface]) ∧ Below w.heap.size w w' := by
  refine (Tryz.strconv_ParseInt_10_at64_ok s (by omega) n (by rw [Lib.parseIntB_64]; exact h) w).mono ?_
  rintro e w' ⟨rfl, hw⟩
  exact ⟨rfl, bytes_below hw⟩
theorem parse_bad (s : ByteArray) (w : World) (hs : s.size ≤ 281474976710656) (hE : KnownE w) (h : ∀ n, Lib.atoiAll s.data.toList ≠ .ok n) :
    Calls Tryz.prog 56 #[.string s, .int .i64 10, .int .i64 64] w fun e w' => ∃ z t p, e = .returned (.tuple #[.int .i64 z, .iface t p]) ∧ Below w.heap.size w w' := by
  cases hc : Lib.atoiAll s.data.toList with
  | ok n => exact absurd hc (h n)
  | «syntax» =>
    obtain ⟨ev, h1, h2⟩ := hE.2.1
    refine (Tryz.strconv_ParseInt_10_at64_syntax s hs (by rw [Lib.parseIntB_64]; exact hc) ev w h1 h2).mono ?_
    rintro e w' ⟨N, rfl, _, _, hb⟩
    exact ⟨_, _, _, rfl, hb⟩
  | range =>
    obtain ⟨ev, h1, h2⟩ := hE.2.2
    refine (Tryz.strconv_ParseInt_10_at64_range s hs (by rw [Lib.parseIntB_64]; exact hc) ev w h1 h2).mono ?_
    rintro e w' ⟨N, rfl, _, _, hb⟩
    exact ⟨_, _, _, rfl, hb⟩
theorem format_is (n : Int) (w : World) (h0 : -9223372036854775808 ≤ n) (h1 : n ≤ 9223372036854775807) (hK : Known w) :
    Calls Tryz.prog 57 #[.int .i64 n, .int .i64 10] w fun e w' => ∃ tx : ByteArray, e = .returned (.string tx) ∧ Value.string tx = S (Lib.itoa n) ∧ Below w.heap.size w w' := by
  refine (Tryz.strconv_FormatInt_10 n h0 h1 w hK.2).mono ?_
  rintro e w1 ⟨rfl, q, os, hw1⟩
  exact ⟨_, rfl, rfl, by rw [hw1]; exact below_grow' _ _ (Nat.le_refl _)⟩

def linesTo (bss : List (List UInt8)) (k : Nat) : List (List UInt8) := ((bss.take k).map lines).flatten
def sumTo (bss : List (List UInt8)) (k : Nat) : Nat := sumOf ((bss.take k).map lines)
theorem linesTo_step {bss : List (List UInt8)} {k : Nat} {p : List UInt8} (h : bss[k]? = some p) : linesTo bss (k + 1) = linesTo bss k ++ lines p := by
  unfold linesTo
  rw [List.take_add_one, h]
  simp
theorem sumTo_step {bss : List (List UInt8)} {k : Nat} {p : List UInt8} (h : bss[k]? = some p) : sumTo bss (k + 1) = sumTo bss k + headNum (lines p) := by
  unfold sumTo
  rw [List.take_add_one, h]
  simp [sumOf]
theorem linesTo_len (bss : List (List UInt8)) (k : Nat) : (linesTo bss k).length ≤ bss.flatten.length := by
  unfold linesTo
  exact Nat.le_trans (flat_lines_count _) (flat_le bss k)
theorem sumTo_le (bss : List (List UInt8)) (k : Nat) : sumTo bss k ≤ 4000 * k := by
  unfold sumTo
  have h1 := sumOf_le ((bss.take k).map lines)
  have h2 : ((bss.take k).map lines).length ≤ k := by simp; omega
  exact Nat.le_trans h1 (Nat.mul_le_mul_left _ h2)
/-- What the first loop of Joined stands on. -/
def J1 (w W0 wr : World) (bss : List (List UInt8)) (k : Nat) (v7 : Value) : Prop :=
  wr.ownsRow (w.heap.size + 1) 9 1 v7 (linesTo bss k).length ((linesTo bss k).map S) ∧ Below (w.heap.size + 1) W0 wr
theorem J1.more {w W0 wr w1 w2 : World} {bss : List (List UInt8)} {k L : Nat} {v7 v7' : Value} {p : List UInt8} (h : J1 w W0 wr bss k v7) (hp : bss[k]? = some p) (hb : Below wr.heap.size wr w1) (hL : L = (lines p).length) (hs : w.heap.size + 1 ≤ wr.heap.size)
    (hown : w2.ownsRow (w.heap.size + 1) 9 1 v7' ((linesTo bss k).length + L) ((linesTo bss k).map S ++ (lines p).map S)) (hg : w1.grownBy w2 v7.ownBlock) : J1 w W0 w2 bss (k + 1) v7' := by
  refine ⟨?_, ?_⟩
  · rw [linesTo_step hp, List.length_append, List.map_append, ← hL]; exact hown
  · have h1 : Below (w.heap.size + 1) W0 w1 := h.2.trans (hb.mono hs)
    exact h1.grown hg (Nat.le_trans hs hb.size) (fun k hk => (h.1.lt k hk).1)
theorem J1.below {w W0 wr w1 : World} {bss : List (List UInt8)} {k : Nat} {v7 : Value} (h : J1 w W0 wr bss k v7) (hb : Below wr.heap.size wr w1) (hs : w.heap.size + 1 ≤ wr.heap.size) : J1 w W0 w1 bss k v7 :=
  ⟨owns_below h.1 hb, h.2.trans (hb.mono hs)⟩
theorem format_val (z : Int) (w : World) (h0 : -9223372036854775808 ≤ z) (h1 : z ≤ 9223372036854775807) (hK : Known w) :
    Calls Tryz.prog 57 #[.int .i64 z, .int .i64 10] w fun e w' => e = .returned (.string ⟨(Lib.itoa z).toArray⟩) ∧ Below w.heap.size w w' := by
  refine (Tryz.strconv_FormatInt_10 z h0 h1 w hK.2).mono ?_
  rintro e w1 ⟨rfl, q, os, hw1⟩
  exact ⟨rfl, by rw [hw1]; exact below_grow' _ _ (Nat.le_refl _)⟩
end Go.Proofs.YtfkddfmbgbaefaaGreatDoor
namespace Go.Proofs.YtfkddfmbgbaefaaGreatDoor
open Go.RowKit Go.Gs
set_option linter.unusedVariables false

set_option maxRecDepth 100000 in
set_option maxHeartbeats 16000000 in
theorem joined_one (k n : Int) (word : List UInt8) (ao : Option Addr) (cap : Nat) (bss : List (List UInt8)) (w : World) (h1 : RList w (.slice ao bss.length cap) U bss) (hN5 : bss.length ≤ 5) (hT : bss.flatten.length ≤ 4000) (hE : KnownE w) (hsh : w.ShapedOpen Tryz.prog) :
    Calls Tryz.prog 35 #[.int .i64 1, .agg #[.int .i64 k, .string ⟨word.toArray⟩, .int .i64 n], .slice ao bss.length cap] w fun e w' => ∃ r, e = .returned r ∧ Reads w' r (jOut 1 ⟨k, word, n⟩ bss).length ((jOut 1 ⟨k, word, n⟩ bss).map U) ∧ Below w.heap.size w w' := by
  obtain ⟨i0, hi, hz0, hz1, hz2⟩ := info_parts infoStr
  have hcap : bss.length ≤ cap ∧ cap ≤ 9223372036854775807 := by
    obtain ⟨ao', cap', e, h1', h2'⟩ := h1.shape
    injection e with e1 e2 e3
    subst e3
    exact ⟨h1', by simpa [maxLen] using h2'⟩
  obtain ⟨hcN, hcm⟩ := hcap
  have HP : Hid (RList w (.slice ao bss.length cap) U bss) := h1
  have HE : Hid (KnownE w) := hE
  have HSH : Hid (w.ShapedOpen Tryz.prog) := hsh
  have HT : Hid (bss.flatten.length ≤ 4000) := hT
  have HJL : Hid ((ended (joined 1 ⟨k, word, n⟩ (bss.map lines))).length ≤ 100000) := by have := jOut_len 1 ⟨k, word, n⟩ (fun h => absurd h (by decide)) bss (by omega) hN5; unfold jOut at this; exact Nat.le_trans this (by omega)
  obtain ⟨N, hN⟩ : ∃ N, N = bss.length := ⟨_, rfl⟩
  have HN : Hid (N = bss.length) := hN
  rw [← hN] at hN5 hcN ⊢
  clear h1 hE hsh hT hN
  go_enter Tryz.func35, Tryz.ntmps35
  go_wp2_with fail
  go_loopw [7, 8, 22] (fun v7 s i wr => ∃ (j m : Nat), j ≤ N ∧ m ≤ 4000 * j ∧ i = .int .i64 j ∧ s = .int .i64 m ∧ Hid (m = sumTo bss j) ∧ Hid (J1 w (w.alloc (.cells #[.int .i64 k, .string ⟨word.toArray⟩, .int .i64 n] 23)) wr bss j v7)) (fun _ _ i _ => N - (intOf i).toNat)
  case atStart => exact ⟨0, 0, Nat.zero_le _, by omega, rfl, rfl, (show _ = _ by simp [sumTo, sumOf]), ⟨by simpa [linesTo] using World.ownsRow_nil _ (w.heap.size + 1) 9 1, Below.refl _ _⟩⟩
  case round =>
    obtain ⟨j, m, hj, hm, rfl, rfl, hms, hrel⟩ := hrel
    have HBw : Hid (Below w.heap.size w wr) := below_box' hrel.out.2
    have hws : w.heap.size + 1 ≤ wr.heap.size := by have := hrel.out.2.size; simpa using this
    by_cases hlt : j < N
    · obtain ⟨p, hpk⟩ : ∃ p, bss[j]? = some p := ⟨_, List.getElem?_eq_getElem (by have := HN.out; omega)⟩
      have HPK : Hid (bss[j]? = some p) := hpk
      have HPr : Hid (RList wr (.slice ao N cap) U bss) := by rw [HN.out]; exact HP.out.below HBw.out
      obtain ⟨b, off, au, cu, rfl, hcell, hru⟩ := HPr.out.at hpk
      have hpl : p.length ≤ 4000 := Nat.le_trans (flat_mem_le (List.mem_of_getElem? hpk)) HT.out
      have hlo := linesOf_new (.slice au p.length cu) p wr hru (sh_below HSH.out HBw.out) (by omega)
      have HLT : Hid _ := linesTo_len bss j
      have HLP : Hid _ := lines_length p
      have hSS : sumTo bss (j + 1) = m + headNum (lines p) := by rw [sumTo_step hpk, ← hms.out]
      have HLS : Hid (∀ s ∈ lines p, s.length ≤ 4000) := fun s hs => lines_short hs hpl
      have HHN : Hid _ := headNum_le (lines p)
      clear hpk hru hms
      obtain ⟨pl, hpl'⟩ : ∃ pl, pl = p.length := ⟨_, rfl⟩
      rw [← hpl'] at hlo hcell hpl HLP
      clear hpl'
      obtain ⟨L, hL⟩ : ∃ L, L = (lines p).length := ⟨_, rfl⟩
      have HL : Hid (L = (lines p).length) := hL
      rw [← hL] at hlo HLP
      have hLb : L ≤ 4000 := Nat.le_trans HLP.out hpl
      clear hL
      have hFb : (linesTo bss j).length ≤ 4000 := Nat.le_trans HLT.out HT.out
      go_wp2_with fail
      refine hlo.mono ?_
      rintro e w1 ⟨g, cl, rfl, hgn, hrd1, hb1⟩
      have HOW1 : Hid _ := owns_below hrel.out.1 hb1
      have HRD1 : Hid (Reads w1 (.slice (some ⟨g, 0, none⟩) L cl) (lines p).length ((lines p).map S)) := by have := hrd1; rw [HL.out] at this ⊢; exact this
      have hs1 : w.heap.size + 1 ≤ w1.heap.size := Nat.le_trans hws hb1.size
      have HB1 : Hid (Below wr.heap.size wr w1) := hb1
      have HGN : Hid (wr.heap.size ≤ g) := hgn
      have hclb : L ≤ cl ∧ cl ≤ 9223372036854775807 := by
        obtain ⟨_, ao', cap', e, e2, e3, _⟩ := id HRD1.out
        injection e with e4 e5 e6
        subst e6
        exact ⟨by rw [HL.out]; exact e2, by simpa [maxLen] using e3⟩
      obtain ⟨hcl1, hcl2⟩ := hclb
      have hown1 : w1.ownsRow (w.heap.size + 1) 9 1 u7 (linesTo bss j).length ((linesTo bss j).map S) := HOW1.out
      clear hlo hrd1 hb1 hgn HOW1
      go_wp2_with (at_builtin; refine wpList_append_own _ rfl (.tmp 28) (.tmp 29) 34 rfl (w.heap.size + 1) 9 i0 (.string ⟨#[]⟩) 1 16 Tryz.underlying34 hi hz0 hz1 hz2 rfl (by decide) _ _ _ rfl hown1 ⟨g, 0, none⟩ L cl ((lines p).map S) rfl ?c0 ?c1 ?c2 ?c3 ?c4 ?c5 ?_)
      case c0 => rw [List.length_map, Nat.mul_one]; exact HL.out.symm
      case c1 =>
        intro i u hi
        have hpos : (lines p).length ≠ 0 := by
          have hl := (List.getElem?_eq_some_iff.1 hi).1
          rw [List.length_map] at hl
          omega
        obtain ⟨_, ao', cap', e, _, _, h5⟩ := HRD1.out
        injection e with e1 e2 e3
        subst e1
        obtain ⟨b', off', e, hcc⟩ := h5 hpos
        injection e with e
        injection e with e1 e2
        subst e1 e2
        have hadd : (⟨g, 0, none⟩ : Addr).add i = ⟨g, 0 + i, none⟩ := by unfold Addr.add; split <;> simp_all
        rw [hadd]
        exact hcc i u hi
      case c2 => intro u hu; obtain ⟨x, _, rfl⟩ := List.mem_map.1 hu; rfl
      case c3 => unfold maxLen; omega
      case c4 => omega
      case c5 => exact hs1
      intro v7' w2 hown2 hgrow2 _
      have HJ2 : Hid (J1 w (w.alloc (.cells #[.int .i64 k, .string ⟨word.toArray⟩, .int .i64 n] 23)) w2 bss (j + 1) v7') := hrel.out.more HPK.out HB1.out HL.out hws hown2 hgrow2
      have HRD2 : Hid (Reads w2 (.slice (some ⟨g, 0, none⟩) L cl) (lines p).length ((lines p).map S)) := reads_grown HRD1.out hgrow2 (fun g' hg' e => by
        have h7 := (hrel.out.1.lt g' e).2
        simp only [Value.ownBlock, Option.some.injEq] at hg'
        have := HGN.out
        omega)
      clear hown2 hgrow2 hown1 HRD1 hrel HB1 HGN hcell
      cases hlp : lines p with
      | nil =>
        rw [hlp] at hSS HL
        have hL0 : L = 0 := HL.out
        subst hL0
        have hS0 : sumTo bss (j + 1) = m := hSS
        have HS0 : Hid (m = sumTo bss (j + 1)) := hS0.symm
        clear hSS hS0 HRD2 hlp
        go_wp2_with fail
        go_roundw
        case rel => exact ⟨j + 1, m, by omega, by omega, by go_num, rfl, HS0, HJ2⟩
        case measure => simp [intOf]; omega
      | cons x r =>
        have HXS : Hid (x.length ≤ 4000) := HLS.out x (by rw [hlp]; simp)
        rw [hlp, headNum_cons] at hSS
        rw [hlp] at HL HRD2
        have hLr : L = r.length + 1 := HL.out
        have hL0 : (0 : Int) < (L : Int) := by omega
        obtain ⟨b1, o1, sx, hb1, hcx, hsx, _, _⟩ := reads_first (by have := HRD2.out; rw [HL.out] at this; exact this)
        injection hb1 with hb1
        injection hb1 with hb1 hb2
        subst hb1 hb2
        obtain rfl : sx = ⟨x.toArray⟩ := by unfold S at hsx; injection hsx
        have HSS : Hid (sumTo bss (j + 1) = m + numOf x) := hSS
        have HB2 : Hid (Below w.heap.size w w2) := below_box' HJ2.out.2
        have hKE := HE.out.below HB2.out
        have hd : (⟨x.toArray⟩ : ByteArray).data.toList = x := rfl
        have hsz : (⟨x.toArray⟩ : ByteArray).size = x.length := by simp [ByteArray.size]
        have hxz : (⟨x.toArray⟩ : ByteArray).size ≤ 281474976710656 := by have := HXS.out; omega
        clear hSS hlp HRD2 HLS hsx hLr
        have HN0 : Hid _ := hKE
        by_cases hok : ∃ z, Lib.atoiAll x = .ok z
        · obtain ⟨z, hz⟩ := hok
          have hzb := Lib.atoiAll_bounds hz
          have hpa := parse_ok ⟨x.toArray⟩ z w2 hxz (by rw [hd]; exact hz)
          have HNUM : Hid _ := numOf_ok hz
          clear hz hd hsz hxz hKE
          obtain ⟨sx, hsx⟩ : ∃ sx : ByteArray, sx = ⟨x.toArray⟩ := ⟨_, rfl⟩
          have HSX : Hid (Value.string sx = S x) := by rw [hsx]; exact rfl
          rw [← hsx] at hpa hcx
          clear hsx
          go_wp2_with fail
          refine hpa.mono ?_
          rintro e w3 ⟨rfl, hb3⟩
          have HJ3 : Hid (J1 w (w.alloc (.cells #[.int .i64 k, .string ⟨word.toArray⟩, .int .i64 n] 23)) w3 bss (j + 1) v7') := HJ2.out.below hb3 (by have := HJ2.out.2.size; simpa using this)
          have hcx3 : w3.cell? ⟨g, 0, none⟩ = some (.string sx) := (hb3.cell (World.block_lt_of_cell? w2 _ hcx)).trans hcx
          have HK3 : Hid (Known w3) := (KnownE.below HN0.out hb3).1
          clear hpa hb3 hcx HJ2 HN0 HB2
          by_cases hz0 : 0 ≤ z
          · by_cases hz4 : z ≤ 4000
            · have q1 : decide (0 ≤ z) = true := decide_eq_true hz0
              have q2 : decide (z ≤ 4000) = true := decide_eq_true hz4
              obtain ⟨tx, htx⟩ : ∃ tx : ByteArray, tx = ⟨(Lib.itoa z).toArray⟩ := ⟨_, rfl⟩
              have cF : ∀ d os, Calls Tryz.prog 57 #[.int .i64 z, .int .i64 10] (Go.Sort.grow (redrawn w3 d) os) fun e w'' => e = .returned (.string tx) ∧ ∃ p : Regrown, w'' = Go.Sort.grow (redrawn w3 p.d) p.os := fun d os => Calls.regrown_of (by rw [htx]; exact format_val z _ hzb.1 hzb.2 (HK3.out.below (below_regrown w3 d os)))
              have hcr : ∀ d os, (Go.Sort.grow (redrawn w3 d) os).cell? ⟨g, 0, none⟩ = some (.string sx) := fun d os => cell_regrown hcx3 d os
              have heqb : (tx.toList == sx.toList) = decide (Lib.itoa z = x) := by
                have htx' : Value.string tx = S (Lib.itoa z) := by rw [htx]; rfl
                rw [str_data htx', str_data HSX.out]; by_cases h : Lib.itoa z = x <;> simp [h]
              clear htx
              by_cases heq : Lib.itoa z = x
              · have HS4 : Hid (sumTo bss (j + 1) = m + z.toNat) := (show _ = _ by rw [HSS.out, HNUM.out, if_pos ⟨hz0, hz4, heq⟩])
                rw [decide_eq_true heq] at heqb
                obtain ⟨zn, rfl⟩ := Int.eq_ofNat_of_zero_le hz0
                rw [Int.toNat_natCast] at HS4
                clear heq HNUM hcx3
                go_wp2_with fail
                refine wp_region_quiet_below (by kernel_rfl) (by kernel_rfl) ?_
                repeat (first | go_big_quiet_step (exact cF _ _) | quiet_step (exact cF _ _))
                refine wpQuiet_nil ?_
                intro _ hw'
                obtain ⟨⟨dq, osq⟩, hw''⟩ := hw'
                subst hw''
                have HJ4 : Hid (J1 w (w.alloc (.cells #[.int .i64 k, .string ⟨word.toArray⟩, .int .i64 n] 23)) (Go.Sort.grow (redrawn w3 dq) osq) bss (j + 1) v7') := HJ3.out.below (below_regrown w3 dq osq) (by have := HJ3.out.2.size; simpa using this)
                clear cF hcr HJ3
                go_wp2_with fail
                go_roundw
                case rel => exact ⟨j + 1, m + zn, by omega, by omega, by go_num, by go_num, HS4.out.symm, HJ4⟩
                case measure => simp [intOf]; omega
              · have HS4 : Hid (m = sumTo bss (j + 1)) := (show _ = _ by rw [HSS.out, HNUM.out, if_neg (fun h => heq h.2.2)]; rfl)
                rw [decide_eq_false heq] at heqb
                clear heq HNUM hcx3
                go_wp2_with fail
                refine wp_region_quiet_below (by kernel_rfl) (by kernel_rfl) ?_
                repeat (first | go_big_quiet_step (exact cF _ _) | quiet_step (exact cF _ _))
                refine wpQuiet_nil ?_
                intro _ hw'
                obtain ⟨⟨dq, osq⟩, hw''⟩ := hw'
                subst hw''
                have HJ4 : Hid (J1 w (w.alloc (.cells #[.int .i64 k, .string ⟨word.toArray⟩, .int .i64 n] 23)) (Go.Sort.grow (redrawn w3 dq) osq) bss (j + 1) v7') := HJ3.out.below (below_regrown w3 dq osq) (by have := HJ3.out.2.size; simpa using this)
                clear cF hcr HJ3
                go_wp2_with fail
                go_roundw
                case rel => exact ⟨j + 1, m, by omega, by omega, by go_num, rfl, HS4, HJ4⟩
                case measure => simp [intOf]; omega
            · have q1 : decide (0 ≤ z) = true := decide_eq_true hz0
              have q2 : decide (z ≤ 4000) = false := decide_eq_false hz4
              have HS4 : Hid (m = sumTo bss (j + 1)) := (show _ = _ by rw [HSS.out, HNUM.out, if_neg (fun h => hz4 h.2.1)]; rfl)
              go_wp2_with fail
              go_quiet (fail)
              go_wp2_with fail
              go_roundw
              case rel => exact ⟨j + 1, m, by omega, by omega, by go_num, rfl, HS4, HJ3.out.below (below_dn (Below.refl _ _) _) (by have := HJ3.out.2.size; simpa using this)⟩
              case measure => simp [intOf]; omega
          · have q1 : decide (0 ≤ z) = false := decide_eq_false hz0
            have HS4 : Hid (m = sumTo bss (j + 1)) := (show _ = _ by rw [HSS.out, HNUM.out, if_neg (fun h => hz0 h.1)]; rfl)
            go_wp2_with fail
            go_quiet (fail)
            go_wp2_with fail
            go_roundw
            case rel => exact ⟨j + 1, m, by omega, by omega, by go_num, rfl, HS4, HJ3.out.below (below_dn (Below.refl _ _) _) (by have := HJ3.out.2.size; simpa using this)⟩
            case measure => simp [intOf]; omega
        · have hpa := parse_bad ⟨x.toArray⟩ w2 hxz hKE (by rw [hd]; exact fun z h => hok ⟨z, h⟩)
          have HS4 : Hid (m = sumTo bss (j + 1)) := (show _ = _ by rw [HSS.out, numOf_bad (fun z h => hok ⟨z, h⟩)]; rfl)
          clear hok hd hsz hxz hKE
          go_wp2_with fail
          refine hpa.mono ?_
          rintro e w3 ⟨z, t, p', rfl, hb3⟩
          have HJ3 : Hid (J1 w (w.alloc (.cells #[.int .i64 k, .string ⟨word.toArray⟩, .int .i64 n] 23)) w3 bss (j + 1) v7') := HJ2.out.below hb3 (by have := HJ2.out.2.size; simpa using this)
          clear hpa hb3 HJ2 HB2 hcx
          go_wp2_with fail
          go_quiet (fail)
          go_wp2_with fail
          go_roundw
          case rel => exact ⟨j + 1, m, by omega, by omega, by go_num, rfl, HS4, HJ3.out.below (below_dn (Below.refl _ _) _) (by have := HJ3.out.2.size; simpa using this)⟩
          case measure => simp [intOf]; omega
    · obtain rfl : N = j := by omega
      have HRD : Hid (Reads wr u7 (linesTo bss N).length ((linesTo bss N).map S)) := Reads.of_owns hrel.out.1
      have HFL : Hid (linesTo bss N = joined 1 ⟨k, word, n⟩ (bss.map lines)) := (show _ = _ by rw [joined1, HN.out]; unfold linesTo; rw [List.take_length])
      rw [HFL.out] at HRD
      obtain ⟨_, o7, c7, rfl, _⟩ := id HRD.out
      clear hrel
      go_wp2_with fail
      refine (bytesOf _ (joined 1 ⟨k, word, n⟩ (bss.map lines)) wr HRD.out HJL.out).mono ?_
      rintro e w5 ⟨r5, rfl, hr5, hb5⟩
      have HR5 : Hid (Reads w5 r5 (jOut 1 ⟨k, word, n⟩ bss).length ((jOut 1 ⟨k, word, n⟩ bss).map U)) := hr5
      have HB5 : Hid (Below w.heap.size w w5) := HBw.out.trans (hb5.mono HBw.out.size)
      clear hr5 hb5 HRD
      go_wp2_with fail
      go_ret
      exact ⟨_, rfl, HR5.out, HB5.out⟩
end Go.Proofs.YtfkddfmbgbaefaaGreatDoor
namespace Go.Proofs.YtfkddfmbgbaefaaGreatDoor
open Go.RowKit Go.Gs
set_option linter.unusedVariables false

set_option maxRecDepth 100000 in
set_option maxHeartbeats 16000000 in
theorem joined_three (k n : Int) (word : List UInt8) (ao : Option Addr) (cap : Nat) (bss : List (List UInt8)) (w : World) (h1 : RList w (.slice ao bss.length cap) U bss) (hN5 : bss.length ≤ 5) (hT : bss.flatten.length ≤ 4000) (hE : KnownE w) (hsh : w.ShapedOpen Tryz.prog) :
    Calls Tryz.prog 35 #[.int .i64 3, .agg #[.int .i64 k, .string ⟨word.toArray⟩, .int .i64 n], .slice ao bss.length cap] w fun e w' => ∃ r, e = .returned r ∧ Reads w' r (jOut 3 ⟨k, word, n⟩ bss).length ((jOut 3 ⟨k, word, n⟩ bss).map U) ∧ Below w.heap.size w w' := by
  obtain ⟨i0, hi, hz0, hz1, hz2⟩ := info_parts infoStr
  have hcap : bss.length ≤ cap ∧ cap ≤ 9223372036854775807 := by
    obtain ⟨ao', cap', e, h1', h2'⟩ := h1.shape
    injection e with e1 e2 e3
    subst e3
    exact ⟨h1', by simpa [maxLen] using h2'⟩
  obtain ⟨hcN, hcm⟩ := hcap
  have HP : Hid (RList w (.slice ao bss.length cap) U bss) := h1
  have HE : Hid (KnownE w) := hE
  have HSH : Hid (w.ShapedOpen Tryz.prog) := hsh
  have HT : Hid (bss.flatten.length ≤ 4000) := hT
  have HJL : Hid ((ended (joined 3 ⟨k, word, n⟩ (bss.map lines))).length ≤ 100000) := by have := jOut_len 3 ⟨k, word, n⟩ (fun h => absurd h (by decide)) bss (by omega) hN5; unfold jOut at this; exact Nat.le_trans this (by omega)
  obtain ⟨N, hN⟩ : ∃ N, N = bss.length := ⟨_, rfl⟩
  have HN : Hid (N = bss.length) := hN
  rw [← hN] at hN5 hcN ⊢
  clear h1 hE hsh hT hN
  go_enter Tryz.func35, Tryz.ntmps35
  go_wp2_with fail
  go_loopw [7, 8, 22] (fun v7 s i wr => ∃ (j m : Nat), j ≤ N ∧ m ≤ 4000 * j ∧ i = .int .i64 j ∧ s = .int .i64 m ∧ Hid (m = sumTo bss j) ∧ Hid (J1 w (w.alloc (.cells #[.int .i64 k, .string ⟨word.toArray⟩, .int .i64 n] 23)) wr bss j v7)) (fun _ _ i _ => N - (intOf i).toNat)
  case atStart => exact ⟨0, 0, Nat.zero_le _, by omega, rfl, rfl, (show _ = _ by simp [sumTo, sumOf]), ⟨by simpa [linesTo] using World.ownsRow_nil _ (w.heap.size + 1) 9 1, Below.refl _ _⟩⟩
  case round =>
    obtain ⟨j, m, hj, hm, rfl, rfl, hms, hrel⟩ := hrel
    have HBw : Hid (Below w.heap.size w wr) := below_box' hrel.out.2
    have hws : w.heap.size + 1 ≤ wr.heap.size := by have := hrel.out.2.size; simpa using this
    by_cases hlt : j < N
    · obtain ⟨p, hpk⟩ : ∃ p, bss[j]? = some p := ⟨_, List.getElem?_eq_getElem (by have := HN.out; omega)⟩
      have HPK : Hid (bss[j]? = some p) := hpk
      have HPr : Hid (RList wr (.slice ao N cap) U bss) := by rw [HN.out]; exact HP.out.below HBw.out
      obtain ⟨b, off, au, cu, rfl, hcell, hru⟩ := HPr.out.at hpk
      have hpl : p.length ≤ 4000 := Nat.le_trans (flat_mem_le (List.mem_of_getElem? hpk)) HT.out
      have hlo := linesOf_new (.slice au p.length cu) p wr hru (sh_below HSH.out HBw.out) (by omega)
      have HLT : Hid _ := linesTo_len bss j
      have HLP : Hid _ := lines_length p
      have hSS : sumTo bss (j + 1) = m + headNum (lines p) := by rw [sumTo_step hpk, ← hms.out]
      have HLS : Hid (∀ s ∈ lines p, s.length ≤ 4000) := fun s hs => lines_short hs hpl
      have HHN : Hid _ := headNum_le (lines p)
      clear hpk hru hms
      obtain ⟨pl, hpl'⟩ : ∃ pl, pl = p.length := ⟨_, rfl⟩
      rw [← hpl'] at hlo hcell hpl HLP
      clear hpl'
      obtain ⟨L, hL⟩ : ∃ L, L = (lines p).length := ⟨_, rfl⟩
      have HL : Hid (L = (lines p).length) := hL
      rw [← hL] at hlo HLP
      have hLb : L ≤ 4000 := Nat.le_trans HLP.out hpl
      clear hL
      have hFb : (linesTo bss j).length ≤ 4000 := Nat.le_trans HLT.out HT.out
      go_wp2_with fail
      refine hlo.mono ?_
      rintro e w1 ⟨g, cl, rfl, hgn, hrd1, hb1⟩
      have HOW1 : Hid _ := owns_below hrel.out.1 hb1
      have HRD1 : Hid (Reads w1 (.slice (some ⟨g, 0, none⟩) L cl) (lines p).length ((lines p).map S)) := by have := hrd1; rw [HL.out] at this ⊢; exact this
      have hs1 : w.heap.size + 1 ≤ w1.heap.size := Nat.le_trans hws hb1.size
      have HB1 : Hid (Below wr.heap.size wr w1) := hb1
      have HGN : Hid (wr.heap.size ≤ g) := hgn
      have hclb : L ≤ cl ∧ cl ≤ 9223372036854775807 := by
        obtain ⟨_, ao', cap', e, e2, e3, _⟩ := id HRD1.out
        injection e with e4 e5 e6
        subst e6
        exact ⟨by rw [HL.out]; exact e2, by simpa [maxLen] using e3⟩
      obtain ⟨hcl1, hcl2⟩ := hclb
      have hown1 : w1.ownsRow (w.heap.size + 1) 9 1 u7 (linesTo bss j).length ((linesTo bss j).map S) := HOW1.out
      clear hlo hrd1 hb1 hgn HOW1
      go_wp2_with (at_builtin; refine wpList_append_own _ rfl (.tmp 28) (.tmp 29) 34 rfl (w.heap.size + 1) 9 i0 (.string ⟨#[]⟩) 1 16 Tryz.underlying34 hi hz0 hz1 hz2 rfl (by decide) _ _ _ rfl hown1 ⟨g, 0, none⟩ L cl ((lines p).map S) rfl ?c0 ?c1 ?c2 ?c3 ?c4 ?c5 ?_)
      case c0 => rw [List.length_map, Nat.mul_one]; exact HL.out.symm
      case c1 =>
        intro i u hi
        have hpos : (lines p).length ≠ 0 := by
          have hl := (List.getElem?_eq_some_iff.1 hi).1
          rw [List.length_map] at hl
          omega
        obtain ⟨_, ao', cap', e, _, _, h5⟩ := HRD1.out
        injection e with e1 e2 e3
        subst e1
        obtain ⟨b', off', e, hcc⟩ := h5 hpos
        injection e with e
        injection e with e1 e2
        subst e1 e2
        have hadd : (⟨g, 0, none⟩ : Addr).add i = ⟨g, 0 + i, none⟩ := by unfold Addr.add; split <;> simp_all
        rw [hadd]
        exact hcc i u hi
      case c2 => intro u hu; obtain ⟨x, _, rfl⟩ := List.mem_map.1 hu; rfl
      case c3 => unfold maxLen; omega
      case c4 => omega
      case c5 => exact hs1
      intro v7' w2 hown2 hgrow2 _
      have HJ2 : Hid (J1 w (w.alloc (.cells #[.int .i64 k, .string ⟨word.toArray⟩, .int .i64 n] 23)) w2 bss (j + 1) v7') := hrel.out.more HPK.out HB1.out HL.out hws hown2 hgrow2
      have HRD2 : Hid (Reads w2 (.slice (some ⟨g, 0, none⟩) L cl) (lines p).length ((lines p).map S)) := reads_grown HRD1.out hgrow2 (fun g' hg' e => by
        have h7 := (hrel.out.1.lt g' e).2
        simp only [Value.ownBlock, Option.some.injEq] at hg'
        have := HGN.out
        omega)
      clear hown2 hgrow2 hown1 HRD1 hrel HB1 HGN hcell
      cases hlp : lines p with
      | nil =>
        rw [hlp] at hSS HL
        have hL0 : L = 0 := HL.out
        subst hL0
        have hS0 : sumTo bss (j + 1) = m := hSS
        have HS0 : Hid (m = sumTo bss (j + 1)) := hS0.symm
        clear hSS hS0 HRD2 hlp
        go_wp2_with fail
        go_roundw
        case rel => exact ⟨j + 1, m, by omega, by omega, by go_num, rfl, HS0, HJ2⟩
        case measure => simp [intOf]; omega
      | cons x r =>
        have HXS : Hid (x.length ≤ 4000) := HLS.out x (by rw [hlp]; simp)
        rw [hlp, headNum_cons] at hSS
        rw [hlp] at HL HRD2
        have hLr : L = r.length + 1 := HL.out
        have hL0 : (0 : Int) < (L : Int) := by omega
        obtain ⟨b1, o1, sx, hb1, hcx, hsx, _, _⟩ := reads_first (by have := HRD2.out; rw [HL.out] at this; exact this)
        injection hb1 with hb1
        injection hb1 with hb1 hb2
        subst hb1 hb2
        obtain rfl : sx = ⟨x.toArray⟩ := by unfold S at hsx; injection hsx
        have HSS : Hid (sumTo bss (j + 1) = m + numOf x) := hSS
        have HB2 : Hid (Below w.heap.size w w2) := below_box' HJ2.out.2
        have hKE := HE.out.below HB2.out
        have hd : (⟨x.toArray⟩ : ByteArray).data.toList = x := rfl
        have hsz : (⟨x.toArray⟩ : ByteArray).size = x.length := by simp [ByteArray.size]
        have hxz : (⟨x.toArray⟩ : ByteArray).size ≤ 281474976710656 := by have := HXS.out; omega
        clear hSS hlp HRD2 HLS hsx hLr
        have HN0 : Hid _ := hKE
        by_cases hok : ∃ z, Lib.atoiAll x = .ok z
        · obtain ⟨z, hz⟩ := hok
          have hzb := Lib.atoiAll_bounds hz
          have hpa := parse_ok ⟨x.toArray⟩ z w2 hxz (by rw [hd]; exact hz)
          have HNUM : Hid _ := numOf_ok hz
          clear hz hd hsz hxz hKE
          obtain ⟨sx, hsx⟩ : ∃ sx : ByteArray, sx = ⟨x.toArray⟩ := ⟨_, rfl⟩
          have HSX : Hid (Value.string sx = S x) := by rw [hsx]; exact rfl
          rw [← hsx] at hpa hcx
          clear hsx
          go_wp2_with fail
          refine hpa.mono ?_
          rintro e w3 ⟨rfl, hb3⟩
          have HJ3 : Hid (J1 w (w.alloc (.cells #[.int .i64 k, .string ⟨word.toArray⟩, .int .i64 n] 23)) w3 bss (j + 1) v7') := HJ2.out.below hb3 (by have := HJ2.out.2.size; simpa using this)
          have hcx3 : w3.cell? ⟨g, 0, none⟩ = some (.string sx) := (hb3.cell (World.block_lt_of_cell? w2 _ hcx)).trans hcx
          have HK3 : Hid (Known w3) := (KnownE.below HN0.out hb3).1
          clear hpa hb3 hcx HJ2 HN0 HB2
          by_cases hz0 : 0 ≤ z
          · by_cases hz4 : z ≤ 4000
            · have q1 : decide (0 ≤ z) = true := decide_eq_true hz0
              have q2 : decide (z ≤ 4000) = true := decide_eq_true hz4
              obtain ⟨tx, htx⟩ : ∃ tx : ByteArray, tx = ⟨(Lib.itoa z).toArray⟩ := ⟨_, rfl⟩
              have cF : ∀ d os, Calls Tryz.prog 57 #[.int .i64 z, .int .i64 10] (Go.Sort.grow (redrawn w3 d) os) fun e w'' => e = .returned (.string tx) ∧ ∃ p : Regrown, w'' = Go.Sort.grow (redrawn w3 p.d) p.os := fun d os => Calls.regrown_of (by rw [htx]; exact format_val z _ hzb.1 hzb.2 (HK3.out.below (below_regrown w3 d os)))
              have hcr : ∀ d os, (Go.Sort.grow (redrawn w3 d) os).cell? ⟨g, 0, none⟩ = some (.string sx) := fun d os => cell_regrown hcx3 d os
              have heqb : (tx.toList == sx.toList) = decide (Lib.itoa z = x) := by
                have htx' : Value.string tx = S (Lib.itoa z) := by rw [htx]; rfl
                rw [str_data htx', str_data HSX.out]; by_cases h : Lib.itoa z = x <;> simp [h]
              clear htx
              by_cases heq : Lib.itoa z = x
              · have HS4 : Hid (sumTo bss (j + 1) = m + z.toNat) := (show _ = _ by rw [HSS.out, HNUM.out, if_pos ⟨hz0, hz4, heq⟩])
                rw [decide_eq_true heq] at heqb
                obtain ⟨zn, rfl⟩ := Int.eq_ofNat_of_zero_le hz0
                rw [Int.toNat_natCast] at HS4
                clear heq HNUM hcx3
                go_wp2_with fail
                refine wp_region_quiet_below (by kernel_rfl) (by kernel_rfl) ?_
                repeat (first | go_big_quiet_step (exact cF _ _) | quiet_step (exact cF _ _))
                refine wpQuiet_nil ?_
                intro _ hw'
                obtain ⟨⟨dq, osq⟩, hw''⟩ := hw'
                subst hw''
                have HJ4 : Hid (J1 w (w.alloc (.cells #[.int .i64 k, .string ⟨word.toArray⟩, .int .i64 n] 23)) (Go.Sort.grow (redrawn w3 dq) osq) bss (j + 1) v7') := HJ3.out.below (below_regrown w3 dq osq) (by have := HJ3.out.2.size; simpa using this)
                clear cF hcr HJ3
                go_wp2_with fail
                go_roundw
                case rel => exact ⟨j + 1, m + zn, by omega, by omega, by go_num, by go_num, HS4.out.symm, HJ4⟩
                case measure => simp [intOf]; omega
              · have HS4 : Hid (m = sumTo bss (j + 1)) := (show _ = _ by rw [HSS.out, HNUM.out, if_neg (fun h => heq h.2.2)]; rfl)
                rw [decide_eq_false heq] at heqb
                clear heq HNUM hcx3
                go_wp2_with fail
                refine wp_region_quiet_below (by kernel_rfl) (by kernel_rfl) ?_
                repeat (first | go_big_quiet_step (exact cF _ _) | quiet_step (exact cF _ _))
                refine wpQuiet_nil ?_
                intro _ hw'
                obtain ⟨⟨dq, osq⟩, hw''⟩ := hw'
                subst hw''
                have HJ4 : Hid (J1 w (w.alloc (.cells #[.int .i64 k, .string ⟨word.toArray⟩, .int .i64 n] 23)) (Go.Sort.grow (redrawn w3 dq) osq) bss (j + 1) v7') := HJ3.out.below (below_regrown w3 dq osq) (by have := HJ3.out.2.size; simpa using this)
                clear cF hcr HJ3
                go_wp2_with fail
                go_roundw
                case rel => exact ⟨j + 1, m, by omega, by omega, by go_num, rfl, HS4, HJ4⟩
                case measure => simp [intOf]; omega
            · have q1 : decide (0 ≤ z) = true := decide_eq_true hz0
              have q2 : decide (z ≤ 4000) = false := decide_eq_false hz4
              have HS4 : Hid (m = sumTo bss (j + 1)) := (show _ = _ by rw [HSS.out, HNUM.out, if_neg (fun h => hz4 h.2.1)]; rfl)
              go_wp2_with fail
              go_quiet (fail)
              go_wp2_with fail
              go_roundw
              case rel => exact ⟨j + 1, m, by omega, by omega, by go_num, rfl, HS4, HJ3.out.below (below_dn (Below.refl _ _) _) (by have := HJ3.out.2.size; simpa using this)⟩
              case measure => simp [intOf]; omega
          · have q1 : decide (0 ≤ z) = false := decide_eq_false hz0
            have HS4 : Hid (m = sumTo bss (j + 1)) := (show _ = _ by rw [HSS.out, HNUM.out, if_neg (fun h => hz0 h.1)]; rfl)
            go_wp2_with fail
            go_quiet (fail)
            go_wp2_with fail
            go_roundw
            case rel => exact ⟨j + 1, m, by omega, by omega, by go_num, rfl, HS4, HJ3.out.below (below_dn (Below.refl _ _) _) (by have := HJ3.out.2.size; simpa using this)⟩
            case measure => simp [intOf]; omega
        · have hpa := parse_bad ⟨x.toArray⟩ w2 hxz hKE (by rw [hd]; exact fun z h => hok ⟨z, h⟩)
          have HS4 : Hid (m = sumTo bss (j + 1)) := (show _ = _ by rw [HSS.out, numOf_bad (fun z h => hok ⟨z, h⟩)]; rfl)
          clear hok hd hsz hxz hKE
          go_wp2_with fail
          refine hpa.mono ?_
          rintro e w3 ⟨z, t, p', rfl, hb3⟩
          have HJ3 : Hid (J1 w (w.alloc (.cells #[.int .i64 k, .string ⟨word.toArray⟩, .int .i64 n] 23)) w3 bss (j + 1) v7') := HJ2.out.below hb3 (by have := HJ2.out.2.size; simpa using this)
          clear hpa hb3 HJ2 HB2 hcx
          go_wp2_with fail
          go_quiet (fail)
          go_wp2_with fail
          go_roundw
          case rel => exact ⟨j + 1, m, by omega, by omega, by go_num, rfl, HS4, HJ3.out.below (below_dn (Below.refl _ _) _) (by have := HJ3.out.2.size; simpa using this)⟩
          case measure => simp [intOf]; omega
    · obtain rfl : N = j := by omega
      have HMS : Hid (m = sumOf (bss.map lines)) := (show _ = _ by have := hms.out; rw [HN.out] at this; unfold sumTo at this; rw [List.take_length] at this; exact this)
      have HK : Hid (Known wr) := (HE.out.below HBw.out).1
      have HJO : Hid (joined 3 ⟨k, word, n⟩ (bss.map lines) = [Lib.itoa (m : Int)]) := (show _ = _ by rw [joined3, HMS.out])
      have hit := itoa_is (m : Int) wr (by omega) (by omega) HK.out
      clear hrel hms
      obtain ⟨t, ht⟩ : ∃ t, t = Lib.itoa (m : Int) := ⟨_, rfl⟩
      rw [← ht] at hit HJO
      clear ht
      go_wp2_with fail
      refine hit.mono ?_
      rintro e w4 ⟨rfl, hb4⟩
      have HB4 : Hid (Below w.heap.size w w4) := HBw.out.trans (hb4.mono HBw.out.size)
      have HB4a : Hid (Below w.heap.size w (w4.alloc (.cells #[.string ⟨t.toArray⟩] 9))) := HB4.out.trans (((Below.refl _ w4).alloc (Nat.le_refl _) _).mono HB4.out.size)
      have HRD : Hid (Reads (w4.alloc (.cells #[.string ⟨t.toArray⟩] 9)) (.slice (some ⟨w4.heap.size, 0, none⟩) 1 1) (joined 3 ⟨k, word, n⟩ (bss.map lines)).length ((joined 3 ⟨k, word, n⟩ (bss.map lines)).map S)) := by rw [HJO.out]; exact reads_new w4 #[S t] 9 (0, 0) 1 rfl (by omega)
      clear hb4 hit HB4
      go_wp2_with fail
      refine (bytesOf _ (joined 3 ⟨k, word, n⟩ (bss.map lines)) _ HRD.out HJL.out).mono ?_
      rintro e w5 ⟨r5, rfl, hr5, hb5⟩
      have HR5 : Hid (Reads w5 r5 (jOut 3 ⟨k, word, n⟩ bss).length ((jOut 3 ⟨k, word, n⟩ bss).map U)) := hr5
      have HB5 : Hid (Below w.heap.size w w5) := HB4a.out.trans (hb5.mono HB4a.out.size)
      clear hr5 hb5 HRD
      go_wp2_with fail
      go_ret
      exact ⟨_, rfl, HR5.out, HB5.out⟩
end Go.Proofs.YtfkddfmbgbaefaaGreatDoor
namespace Go.Proofs.YtfkddfmbgbaefaaGreatDoor
open Go.RowKit Go.Gs
set_option linter.unusedVariables false

set_option maxRecDepth 100000 in
set_option maxHeartbeats 16000000 in
theorem joined_four (k n : Int) (word : List UInt8) (ao : Option Addr) (cap : Nat) (bss : List (List UInt8)) (w : World) (hc : chk ⟨k, word, n⟩ = 0) (h1 : RList w (.slice ao bss.length cap) U bss) (hN5 : bss.length ≤ 5) (hT : bss.flatten.length ≤ 4000) (hE : KnownE w) (hsh : w.ShapedOpen Tryz.prog) :
    Calls Tryz.prog 35 #[.int .i64 4, .agg #[.int .i64 k, .string ⟨word.toArray⟩, .int .i64 n], .slice ao bss.length cap] w fun e w' => ∃ r, e = .returned r ∧ Reads w' r (jOut 4 ⟨k, word, n⟩ bss).length ((jOut 4 ⟨k, word, n⟩ bss).map U) ∧ Below w.heap.size w w' := by
  obtain ⟨i0, hi, hz0, hz1, hz2⟩ := info_parts infoStr
  have hcap : bss.length ≤ cap ∧ cap ≤ 9223372036854775807 := by
    obtain ⟨ao', cap', e, h1', h2'⟩ := h1.shape
    injection e with e1 e2 e3
    subst e3
    exact ⟨h1', by simpa [maxLen] using h2'⟩
  obtain ⟨hcN, hcm⟩ := hcap
  have HP : Hid (RList w (.slice ao bss.length cap) U bss) := h1
  have HE : Hid (KnownE w) := hE
  have HSH : Hid (w.ShapedOpen Tryz.prog) := hsh
  have HT : Hid (bss.flatten.length ≤ 4000) := hT
  have HC : Hid (chk ⟨k, word, n⟩ = 0) := hc
  have HJL : Hid ((ended (joined 4 ⟨k, word, n⟩ (bss.map lines))).length ≤ 100000) := by have := jOut_len 4 ⟨k, word, n⟩ (fun _ => hc) bss (by omega) hN5; unfold jOut at this; exact Nat.le_trans this (by omega)
  clear hc
  obtain ⟨N, hN⟩ : ∃ N, N = bss.length := ⟨_, rfl⟩
  have HN : Hid (N = bss.length) := hN
  rw [← hN] at hN5 hcN ⊢
  clear h1 hE hsh hT hN
  go_enter Tryz.func35, Tryz.ntmps35
  go_wp2_with fail
  go_loopw [7, 8, 22] (fun v7 s i wr => ∃ (j m : Nat), j ≤ N ∧ m ≤ 4000 * j ∧ i = .int .i64 j ∧ s = .int .i64 m ∧ Hid (m = sumTo bss j) ∧ Hid (J1 w (w.alloc (.cells #[.int .i64 k, .string ⟨word.toArray⟩, .int .i64 n] 23)) wr bss j v7)) (fun _ _ i _ => N - (intOf i).toNat)
  case atStart => exact ⟨0, 0, Nat.zero_le _, by omega, rfl, rfl, (show _ = _ by simp [sumTo, sumOf]), ⟨by simpa [linesTo] using World.ownsRow_nil _ (w.heap.size + 1) 9 1, Below.refl _ _⟩⟩
  case round =>
    obtain ⟨j, m, hj, hm, rfl, rfl, hms, hrel⟩ := hrel
    have HBw : Hid (Below w.heap.size w wr) := below_box' hrel.out.2
    have hws : w.heap.size + 1 ≤ wr.heap.size := by have := hrel.out.2.size; simpa using this
    by_cases hlt : j < N
    · obtain ⟨p, hpk⟩ : ∃ p, bss[j]? = some p := ⟨_, List.getElem?_eq_getElem (by have := HN.out; omega)⟩
      have HPK : Hid (bss[j]? = some p) := hpk
      have HPr : Hid (RList wr (.slice ao N cap) U bss) := by rw [HN.out]; exact HP.out.below HBw.out
      obtain ⟨b, off, au, cu, rfl, hcell, hru⟩ := HPr.out.at hpk
      have hpl : p.length ≤ 4000 := Nat.le_trans (flat_mem_le (List.mem_of_getElem? hpk)) HT.out
      have hlo := linesOf_new (.slice au p.length cu) p wr hru (sh_below HSH.out HBw.out) (by omega)
      have HLT : Hid _ := linesTo_len bss j
      have HLP : Hid _ := lines_length p
      have hSS : sumTo bss (j + 1) = m + headNum (lines p) := by rw [sumTo_step hpk, ← hms.out]
      have HLS : Hid (∀ s ∈ lines p, s.length ≤ 4000) := fun s hs => lines_short hs hpl
      have HHN : Hid _ := headNum_le (lines p)
      clear hpk hru hms
      obtain ⟨pl, hpl'⟩ : ∃ pl, pl = p.length := ⟨_, rfl⟩
      rw [← hpl'] at hlo hcell hpl HLP
      clear hpl'
      obtain ⟨L, hL⟩ : ∃ L, L = (lines p).length := ⟨_, rfl⟩
      have HL : Hid (L = (lines p).length) := hL
      rw [← hL] at hlo HLP
      have hLb : L ≤ 4000 := Nat.le_trans HLP.out hpl
      clear hL
      have hFb : (linesTo bss j).length ≤ 4000 := Nat.le_trans HLT.out HT.out
      go_wp2_with fail
      refine hlo.mono ?_
      rintro e w1 ⟨g, cl, rfl, hgn, hrd1, hb1⟩
      have HOW1 : Hid _ := owns_below hrel.out.1 hb1
      have HRD1 : Hid (Reads w1 (.slice (some ⟨g, 0, none⟩) L cl) (lines p).length ((lines p).map S)) := by have := hrd1; rw [HL.out] at this ⊢; exact this
      have hs1 : w.heap.size + 1 ≤ w1.heap.size := Nat.le_trans hws hb1.size
      have HB1 : Hid (Below wr.heap.size wr w1) := hb1
      have HGN : Hid (wr.heap.size ≤ g) := hgn
      have hclb : L ≤ cl ∧ cl ≤ 9223372036854775807 := by
        obtain ⟨_, ao', cap', e, e2, e3, _⟩ := id HRD1.out
        injection e with e4 e5 e6
        subst e6
        exact ⟨by rw [HL.out]; exact e2, by simpa [maxLen] using e3⟩
      obtain ⟨hcl1, hcl2⟩ := hclb
      have hown1 : w1.ownsRow (w.heap.size + 1) 9 1 u7 (linesTo bss j).length ((linesTo bss j).map S) := HOW1.out
      clear hlo hrd1 hb1 hgn HOW1
      go_wp2_with (at_builtin; refine wpList_append_own _ rfl (.tmp 28) (.tmp 29) 34 rfl (w.heap.size + 1) 9 i0 (.string ⟨#[]⟩) 1 16 Tryz.underlying34 hi hz0 hz1 hz2 rfl (by decide) _ _ _ rfl hown1 ⟨g, 0, none⟩ L cl ((lines p).map S) rfl ?c0 ?c1 ?c2 ?c3 ?c4 ?c5 ?_)
      case c0 => rw [List.length_map, Nat.mul_one]; exact HL.out.symm
      case c1 =>
        intro i u hi
        have hpos : (lines p).length ≠ 0 := by
          have hl := (List.getElem?_eq_some_iff.1 hi).1
          rw [List.length_map] at hl
          omega
        obtain ⟨_, ao', cap', e, _, _, h5⟩ := HRD1.out
        injection e with e1 e2 e3
        subst e1
        obtain ⟨b', off', e, hcc⟩ := h5 hpos
        injection e with e
        injection e with e1 e2
        subst e1 e2
        have hadd : (⟨g, 0, none⟩ : Addr).add i = ⟨g, 0 + i, none⟩ := by unfold Addr.add; split <;> simp_all
        rw [hadd]
        exact hcc i u hi
      case c2 => intro u hu; obtain ⟨x, _, rfl⟩ := List.mem_map.1 hu; rfl
      case c3 => unfold maxLen; omega
      case c4 => omega
      case c5 => exact hs1
      intro v7' w2 hown2 hgrow2 _
      have HJ2 : Hid (J1 w (w.alloc (.cells #[.int .i64 k, .string ⟨word.toArray⟩, .int .i64 n] 23)) w2 bss (j + 1) v7') := hrel.out.more HPK.out HB1.out HL.out hws hown2 hgrow2
      have HRD2 : Hid (Reads w2 (.slice (some ⟨g, 0, none⟩) L cl) (lines p).length ((lines p).map S)) := reads_grown HRD1.out hgrow2 (fun g' hg' e => by
        have h7 := (hrel.out.1.lt g' e).2
        simp only [Value.ownBlock, Option.some.injEq] at hg'
        have := HGN.out
        omega)
      clear hown2 hgrow2 hown1 HRD1 hrel HB1 HGN hcell
      cases hlp : lines p with
      | nil =>
        rw [hlp] at hSS HL
        have hL0 : L = 0 := HL.out
        subst hL0
        have hS0 : sumTo bss (j + 1) = m := hSS
        have HS0 : Hid (m = sumTo bss (j + 1)) := hS0.symm
        clear hSS hS0 HRD2 hlp
        go_wp2_with fail
        go_roundw
        case rel => exact ⟨j + 1, m, by omega, by omega, by go_num, rfl, HS0, HJ2⟩
        case measure => simp [intOf]; omega
      | cons x r =>
        have HXS : Hid (x.length ≤ 4000) := HLS.out x (by rw [hlp]; simp)
        rw [hlp, headNum_cons] at hSS
        rw [hlp] at HL HRD2
        have hLr : L = r.length + 1 := HL.out
        have hL0 : (0 : Int) < (L : Int) := by omega
        obtain ⟨b1, o1, sx, hb1, hcx, hsx, _, _⟩ := reads_first (by have := HRD2.out; rw [HL.out] at this; exact this)
        injection hb1 with hb1
        injection hb1 with hb1 hb2
        subst hb1 hb2
        obtain rfl : sx = ⟨x.toArray⟩ := by unfold S at hsx; injection hsx
        have HSS : Hid (sumTo bss (j + 1) = m + numOf x) := hSS
        have HB2 : Hid (Below w.heap.size w w2) := below_box' HJ2.out.2
        have hKE := HE.out.below HB2.out
        have hd : (⟨x.toArray⟩ : ByteArray).data.toList = x := rfl
        have hsz : (⟨x.toArray⟩ : ByteArray).size = x.length := by simp [ByteArray.size]
        have hxz : (⟨x.toArray⟩ : ByteArray).size ≤ 281474976710656 := by have := HXS.out; omega
        clear hSS hlp HRD2 HLS hsx hLr
        have HN0 : Hid _ := hKE
        by_cases hok : ∃ z, Lib.atoiAll x = .ok z
        · obtain ⟨z, hz⟩ := hok
          have hzb := Lib.atoiAll_bounds hz
          have hpa := parse_ok ⟨x.toArray⟩ z w2 hxz (by rw [hd]; exact hz)
          have HNUM : Hid _ := numOf_ok hz
          clear hz hd hsz hxz hKE
          obtain ⟨sx, hsx⟩ : ∃ sx : ByteArray, sx = ⟨x.toArray⟩ := ⟨_, rfl⟩
          have HSX : Hid (Value.string sx = S x) := by rw [hsx]; exact rfl
          rw [← hsx] at hpa hcx
          clear hsx
          go_wp2_with fail
          refine hpa.mono ?_
          rintro e w3 ⟨rfl, hb3⟩
          have HJ3 : Hid (J1 w (w.alloc (.cells #[.int .i64 k, .string ⟨word.toArray⟩, .int .i64 n] 23)) w3 bss (j + 1) v7') := HJ2.out.below hb3 (by have := HJ2.out.2.size; simpa using this)
          have hcx3 : w3.cell? ⟨g, 0, none⟩ = some (.string sx) := (hb3.cell (World.block_lt_of_cell? w2 _ hcx)).trans hcx
          have HK3 : Hid (Known w3) := (KnownE.below HN0.out hb3).1
          clear hpa hb3 hcx HJ2 HN0 HB2
          by_cases hz0 : 0 ≤ z
          · by_cases hz4 : z ≤ 4000
            · have q1 : decide (0 ≤ z) = true := decide_eq_true hz0
              have q2 : decide (z ≤ 4000) = true := decide_eq_true hz4
              obtain ⟨tx, htx⟩ : ∃ tx : ByteArray, tx = ⟨(Lib.itoa z).toArray⟩ := ⟨_, rfl⟩
              have cF : ∀ d os, Calls Tryz.prog 57 #[.int .i64 z, .int .i64 10] (Go.Sort.grow (redrawn w3 d) os) fun e w'' => e = .returned (.string tx) ∧ ∃ p : Regrown, w'' = Go.Sort.grow (redrawn w3 p.d) p.os := fun d os => Calls.regrown_of (by rw [htx]; exact format_val z _ hzb.1 hzb.2 (HK3.out.below (below_regrown w3 d os)))
              have hcr : ∀ d os, (Go.Sort.grow (redrawn w3 d) os).cell? ⟨g, 0, none⟩ = some (.string sx) := fun d os => cell_regrown hcx3 d os
              have heqb : (tx.toList == sx.toList) = decide (Lib.itoa z = x) := by
                have htx' : Value.string tx = S (Lib.itoa z) := by rw [htx]; rfl
                rw [str_data htx', str_data HSX.out]; by_cases h : Lib.itoa z = x <;> simp [h]
              clear htx
              by_cases heq : Lib.itoa z = x
              · have HS4 : Hid (sumTo bss (j + 1) = m + z.toNat) := (show _ = _ by rw [HSS.out, HNUM.out, if_pos ⟨hz0, hz4, heq⟩])
                rw [decide_eq_true heq] at heqb
                obtain ⟨zn, rfl⟩ := Int.eq_ofNat_of_zero_le hz0
                rw [Int.toNat_natCast] at HS4
                clear heq HNUM hcx3
                go_wp2_with fail
                refine wp_region_quiet_below (by kernel_rfl) (by kernel_rfl) ?_
                repeat (first | go_big_quiet_step (exact cF _ _) | quiet_step (exact cF _ _))
                refine wpQuiet_nil ?_
                intro _ hw'
                obtain ⟨⟨dq, osq⟩, hw''⟩ := hw'
                subst hw''
                have HJ4 : Hid (J1 w (w.alloc (.cells #[.int .i64 k, .string ⟨word.toArray⟩, .int .i64 n] 23)) (Go.Sort.grow (redrawn w3 dq) osq) bss (j + 1) v7') := HJ3.out.below (below_regrown w3 dq osq) (by have := HJ3.out.2.size; simpa using this)
                clear cF hcr HJ3
                go_wp2_with fail
                go_roundw
                case rel => exact ⟨j + 1, m + zn, by omega, by omega, by go_num, by go_num, HS4.out.symm, HJ4⟩
                case measure => simp [intOf]; omega
              · have HS4 : Hid (m = sumTo bss (j + 1)) := (show _ = _ by rw [HSS.out, HNUM.out, if_neg (fun h => heq h.2.2)]; rfl)
                rw [decide_eq_false heq] at heqb
                clear heq HNUM hcx3
                go_wp2_with fail
                refine wp_region_quiet_below (by kernel_rfl) (by kernel_rfl) ?_
                repeat (first | go_big_quiet_step (exact cF _ _) | quiet_step (exact cF _ _))
                refine wpQuiet_nil ?_
                intro _ hw'
                obtain ⟨⟨dq, osq⟩, hw''⟩ := hw'
                subst hw''
                have HJ4 : Hid (J1 w (w.alloc (.cells #[.int .i64 k, .string ⟨word.toArray⟩, .int .i64 n] 23)) (Go.Sort.grow (redrawn w3 dq) osq) bss (j + 1) v7') := HJ3.out.below (below_regrown w3 dq osq) (by have := HJ3.out.2.size; simpa using this)
                clear cF hcr HJ3
                go_wp2_with fail
                go_roundw
                case rel => exact ⟨j + 1, m, by omega, by omega, by go_num, rfl, HS4, HJ4⟩
                case measure => simp [intOf]; omega
            · have q1 : decide (0 ≤ z) = true := decide_eq_true hz0
              have q2 : decide (z ≤ 4000) = false := decide_eq_false hz4
              have HS4 : Hid (m = sumTo bss (j + 1)) := (show _ = _ by rw [HSS.out, HNUM.out, if_neg (fun h => hz4 h.2.1)]; rfl)
              go_wp2_with fail
              go_quiet (fail)
              go_wp2_with fail
              go_roundw
              case rel => exact ⟨j + 1, m, by omega, by omega, by go_num, rfl, HS4, HJ3.out.below (below_dn (Below.refl _ _) _) (by have := HJ3.out.2.size; simpa using this)⟩
              case measure => simp [intOf]; omega
          · have q1 : decide (0 ≤ z) = false := decide_eq_false hz0
            have HS4 : Hid (m = sumTo bss (j + 1)) := (show _ = _ by rw [HSS.out, HNUM.out, if_neg (fun h => hz0 h.1)]; rfl)
            go_wp2_with fail
            go_quiet (fail)
            go_wp2_with fail
            go_roundw
            case rel => exact ⟨j + 1, m, by omega, by omega, by go_num, rfl, HS4, HJ3.out.below (below_dn (Below.refl _ _) _) (by have := HJ3.out.2.size; simpa using this)⟩
            case measure => simp [intOf]; omega
        · have hpa := parse_bad ⟨x.toArray⟩ w2 hxz hKE (by rw [hd]; exact fun z h => hok ⟨z, h⟩)
          have HS4 : Hid (m = sumTo bss (j + 1)) := (show _ = _ by rw [HSS.out, numOf_bad (fun z h => hok ⟨z, h⟩)]; rfl)
          clear hok hd hsz hxz hKE
          go_wp2_with fail
          refine hpa.mono ?_
          rintro e w3 ⟨z, t, p', rfl, hb3⟩
          have HJ3 : Hid (J1 w (w.alloc (.cells #[.int .i64 k, .string ⟨word.toArray⟩, .int .i64 n] 23)) w3 bss (j + 1) v7') := HJ2.out.below hb3 (by have := HJ2.out.2.size; simpa using this)
          clear hpa hb3 HJ2 HB2 hcx
          go_wp2_with fail
          go_quiet (fail)
          go_wp2_with fail
          go_roundw
          case rel => exact ⟨j + 1, m, by omega, by omega, by go_num, rfl, HS4, HJ3.out.below (below_dn (Below.refl _ _) _) (by have := HJ3.out.2.size; simpa using this)⟩
          case measure => simp [intOf]; omega
    · obtain rfl : N = j := by omega
      have HRD : Hid (Reads wr u7 (linesTo bss N).length ((linesTo bss N).map S)) := Reads.of_owns hrel.out.1
      obtain ⟨F, hF⟩ : ∃ F, F = linesTo bss N := ⟨_, rfl⟩
      have HFN : Hid (F.length ≤ 4000) := by rw [hF]; exact Nat.le_trans (linesTo_len bss N) HT.out
      have HFS : Hid (∀ s ∈ F, s.length ≤ 100000) := fun s hs => by
        rw [hF] at hs
        unfold linesTo at hs
        obtain ⟨p, hp, hsp⟩ := List.mem_flatten.1 hs
        obtain ⟨b', hb', rfl⟩ := List.mem_map.1 hp
        exact Nat.le_trans (lines_short hsp (Nat.le_trans (flat_mem_le (List.mem_of_mem_take hb')) HT.out)) (by omega)
      have HJ4 : Hid (joined 4 ⟨k, word, n⟩ (bss.map lines) = made ⟨k, word, n⟩ F) := (show _ = _ by rw [joined4, hF, HN.out]; unfold linesTo; rw [List.take_length])
      rw [← hF] at HRD
      obtain ⟨bx0, bx1, bx2⟩ := box_cells' hrel.out.2
      have hmd := made_ref ⟨k, word, n⟩ HC.out u7 F wr HRD.out (Nat.le_trans HFN.out (by omega)) HFS.out (sh_below HSH.out HBw.out) (HE.out.below HBw.out).1
      unfold Cmd.v at hmd
      simp only at hmd
      obtain ⟨_, o7, c7, rfl, _⟩ := id HRD.out
      clear hrel HRD hF
      generalize F.length = NF at *
      generalize hMM : made ⟨k, word, n⟩ F = M at *
      clear hMM
      go_wp2_with fail
      refine hmd.mono ?_
      rintro e w4 ⟨r4, rfl, hr4, hb4⟩
      rw [← HJ4.out] at hr4
      have HR4 : Hid _ := hr4
      have HB4 : Hid (Below w.heap.size w w4) := HBw.out.trans (hb4.mono HBw.out.size)
      obtain ⟨_, o4, c4, rfl, _⟩ := id hr4
      clear hr4 hb4 hmd bx0 bx1 bx2
      go_wp2_with fail
      refine (bytesOf _ (joined 4 ⟨k, word, n⟩ (bss.map lines)) w4 HR4.out HJL.out).mono ?_
      rintro e w5 ⟨r5, rfl, hr5, hb5⟩
      have HR5 : Hid (Reads w5 r5 (jOut 4 ⟨k, word, n⟩ bss).length ((jOut 4 ⟨k, word, n⟩ bss).map U)) := hr5
      have HB5 : Hid (Below w.heap.size w w5) := HB4.out.trans (hb5.mono HB4.out.size)
      clear hr5 hb5 HR4
      go_wp2_with fail
      go_ret
      exact ⟨_, rfl, HR5.out, HB5.out⟩
end Go.Proofs.YtfkddfmbgbaefaaGreatDoor
namespace Go.Proofs.YtfkddfmbgbaefaaGreatDoor
open Go.RowKit Go.Gs
set_option linter.unusedVariables false

def I (a : Nat) : Value := .int .i64 (a : Int)
def sliceLen : Value → Nat
  | .slice _ n _ => n
  | _ => 0
theorem sliceLen_owns {w : World} {B : Nat} {e : TypeId} {v : Value} {n : Nat} {xs : List Value} (h : w.ownsRow B e 1 v n xs) : sliceLen v = n := by
  rcases h.2 with ⟨rfl, h0⟩ | ⟨g, cap, cur, rfl, _⟩
  · rw [h0]; rfl
  · rfl
theorem infoInt : (Tryz.prog.info? 3).map (fun i => (i.zero, i.size, i.bytes)) = some (some (.int .i64 0), 1, 8) := by kernel_rfl

/-- What is left of the parts. -/
def curOf (ps : List (List (List UInt8))) (ats : List Nat) : List (List (List UInt8)) := List.zipWith (fun p a => p.drop a) ps ats
theorem curOf_zero (ps : List (List (List UInt8))) : curOf ps (List.replicate ps.length 0) = ps := by
  unfold curOf
  induction ps with
  | nil => rfl
  | cons p ps ih => simp [List.replicate_succ, ih]
theorem curOf_get {ps : List (List (List UInt8))} {ats : List Nat} {j a : Nat} {p : List (List UInt8)} (hp : ps[j]? = some p) (ha : ats[j]? = some a) : (curOf ps ats)[j]? = some (p.drop a) := by
  unfold curOf
  rw [List.getElem?_zipWith, hp, ha]
theorem curOf_step {ps : List (List (List UInt8))} {ats : List Nat} {b a : Nat} {p : List (List UInt8)} (hp : ps[b]? = some p) (ha : ats[b]? = some a) : curOf ps (ats.set b (a + 1)) = (curOf ps ats).modify b (List.drop 1) := by
  apply List.ext_getElem?
  intro j
  rw [List.getElem?_modify]
  by_cases hj : b = j
  · subst hj
    have h1 : (ats.set b (a + 1))[b]? = some (a + 1) := List.getElem?_set_self (List.getElem?_eq_some_iff.1 ha).1
    rw [curOf_get hp h1, curOf_get hp ha]
    simp
  · unfold curOf
    rw [List.getElem?_zipWith, List.getElem?_zipWith, List.getElem?_set_ne hj]
    simp [hj]
theorem head_at {p : List (List UInt8)} {a : Nat} (h : a < p.length) : (p.drop a).head? = some p[a] := by
  rw [List.head?_drop]
  exact List.getElem?_eq_getElem h

theorem leastTo_skip {cur : List (List (List UInt8))} {j : Nat} (h : cur[j]? = some []) : leastTo cur (j + 1) = leastTo cur j := leastTo_nil h
def firstOf : Option (Nat × List UInt8) → List UInt8
  | none => []
  | some (_, t) => t

/-- What the merging loop stands on. -/
def MJ (w W0 wr : World) (ps : List (List (List UInt8))) (T GA : Nat) (D : List (List UInt8)) (ats : List Nat) (v7 : Value) : Prop :=
  ats.length = ps.length ∧ wr.heap[GA]? = some (.cells (ats.map I).toArray 3 (0, 0)) ∧ w.heap.size + 1 ≤ GA ∧
  wr.ownsRow (w.heap.size + 1) 9 1 v7 D.length (D.map S) ∧ v7.ownBlock ≠ some GA ∧ Below (w.heap.size + 1) W0 wr ∧
  D.length + (curOf ps ats).flatten.length = T ∧ D ++ mergeN (curOf ps ats).flatten.length (curOf ps ats) = mergeN T ps
theorem MJ.below {w W0 wr w1 : World} {ps : List (List (List UInt8))} {T GA : Nat} {D : List (List UInt8)} {ats : List Nat} {v7 : Value} (h : MJ w W0 wr ps T GA D ats v7) (hb : Below wr.heap.size wr w1) (hs : w.heap.size + 1 ≤ wr.heap.size) : MJ w W0 w1 ps T GA D ats v7 := by
  obtain ⟨h1, h2, h3, h4, h5, h6, h7, h8⟩ := h
  refine ⟨h1, ?_, h3, owns_below h4 hb, h5, h6.trans (hb.mono hs), h7, h8⟩
  have hlt : GA < wr.heap.size := by
    rcases Nat.lt_or_ge GA wr.heap.size with h | h
    · exact h
    · rw [Array.getElem?_eq_none h] at h2; cases h2
  rw [hb.block GA hlt]; exact h2
theorem MJ.cell {w W0 wr : World} {ps : List (List (List UInt8))} {T GA j a : Nat} {D : List (List UInt8)} {ats : List Nat} {v7 : Value} (h : MJ w W0 wr ps T GA D ats v7) (ha : ats[j]? = some a) : wr.cell? ⟨GA, j, none⟩ = some (.int .i64 (a : Int)) ∧ wr.frozen? ⟨GA, j, none⟩ = false := by
  obtain ⟨h1, h2, _⟩ := h
  refine ⟨?_, frozen_of_row _ _ _ _ _ h2⟩
  rw [cell_of_row _ _ _ _ _ _ h2]
  simp [ha, I]
/-- One line more. -/
theorem MJ.step {w W0 wr w2 : World} {ps : List (List (List UInt8))} {T GA b a : Nat} {D : List (List UInt8)} {ats : List Nat} {v7 v7' : Value} {x : List UInt8} {sx : ByteArray} {o : Obj} (h : MJ w W0 wr ps T GA D ats v7) (hl : least (curOf ps ats) = some (b, x)) (ha : ats[b]? = some a) (hx : Value.string sx = S x) (hs : w.heap.size + 1 ≤ wr.heap.size)
    (hown : w2.ownsRow (w.heap.size + 1) 9 1 v7' (D.length + 1) (D.map S ++ [.string sx])) (hg : ((wr.setCell ⟨GA, b, none⟩ (.int .i64 ((a : Int) + 1))).alloc o).grownBy w2 v7.ownBlock) (hat : v7'.ownBlock = v7.ownBlock ∨ v7'.ownBlock = some (wr.heap.size + 1)) : MJ w W0 w2 ps T GA (D ++ [x]) (ats.set b (a + 1)) v7' := by
  obtain ⟨h1, h2, h3, h4, h5, h6, h7, h8⟩ := h
  have hlt : GA < wr.heap.size := by
    rcases Nat.lt_or_ge GA wr.heap.size with h | h
    · exact h
    · rw [Array.getElem?_eq_none h] at h2; cases h2
  have hbl : b < ps.length := by rw [← h1]; exact (List.getElem?_eq_some_iff.1 ha).1
  have hpb : ps[b]? = some ps[b] := List.getElem?_eq_getElem hbl
  obtain ⟨r, hr, _⟩ := least_some hl
  have hml := modify_length hr
  have hcs := curOf_step hpb ha
  have hIa : (.int .i64 ((a : Int) + 1) : Value) = I (a + 1) := by unfold I; congr 1
  rw [hIa] at hg
  have hsz : ((wr.setCell ⟨GA, b, none⟩ (I (a + 1))).alloc o).heap.size = wr.heap.size + 1 := by simp
  refine ⟨by simp [h1], ?_, h3, ?_, ?_, ?_, ?_, ?_⟩
  · rw [hg.block GA (by rw [hsz]; omega) (fun e => h5 e.symm), Below.heap_alloc _ _ _ (by simp; omega), heap_setCell_same _ _ _ _ _ _ h2]
    simp
  · rw [hx] at hown
    simpa using hown
  · rcases hat with e | e
    · rw [e]; exact h5
    · rw [e]; intro e'; injection e' with e'; omega
  · have hb1 : Below (w.heap.size + 1) W0 (wr.setCell ⟨GA, b, none⟩ (I (a + 1))) := h6.setCell h3 _
    exact (hb1.alloc (by simp; omega) o).grown hg (by rw [hsz]; omega) (fun k hk => (h4.lt k hk).1)
  · rw [hcs, List.length_append, List.length_singleton]; omega
  · rw [hcs, ← h8, hml, merge_step hl]
    simp
end Go.Proofs.YtfkddfmbgbaefaaGreatDoor
namespace Go.Proofs.YtfkddfmbgbaefaaGreatDoor
open Go.RowKit Go.Gs
set_option linter.unusedVariables false

set_option maxRecDepth 100000 in
set_option maxHeartbeats 16000000 in
theorem joined_two (k n : Int) (word : List UInt8) (ao : Option Addr) (cap : Nat) (bss : List (List UInt8)) (w : World) (h1 : RList w (.slice ao bss.length cap) U bss) (hN5 : bss.length ≤ 5) (hT : bss.flatten.length ≤ 4000) (hE : KnownE w) (hsh : w.ShapedOpen Tryz.prog) :
    Calls Tryz.prog 35 #[.int .i64 2, .agg #[.int .i64 k, .string ⟨word.toArray⟩, .int .i64 n], .slice ao bss.length cap] w fun e w' => ∃ r, e = .returned r ∧ Reads w' r (jOut 2 ⟨k, word, n⟩ bss).length ((jOut 2 ⟨k, word, n⟩ bss).map U) ∧ Below w.heap.size w w' := by
  obtain ⟨i0, hi, hz0, hz1, hz2⟩ := info_parts infoStr
  have hcap : bss.length ≤ cap ∧ cap ≤ 9223372036854775807 := by
    obtain ⟨ao', cap', e, h1', h2'⟩ := h1.shape
    injection e with e1 e2 e3
    subst e3
    exact ⟨h1', by simpa [maxLen] using h2'⟩
  obtain ⟨hcN, hcm⟩ := hcap
  have HP : Hid (RList w (.slice ao bss.length cap) U bss) := h1
  have HE : Hid (KnownE w) := hE
  have HSH : Hid (w.ShapedOpen Tryz.prog) := hsh
  have HT : Hid (bss.flatten.length ≤ 4000) := hT
  have HJL : Hid ((ended (joined 2 ⟨k, word, n⟩ (bss.map lines))).length ≤ 100000) := by have := jOut_len 2 ⟨k, word, n⟩ (fun h => absurd h (by decide)) bss (by omega) hN5; unfold jOut at this; exact Nat.le_trans this (by omega)
  obtain ⟨N, hN⟩ : ∃ N, N = bss.length := ⟨_, rfl⟩
  have HN : Hid (N = bss.length) := hN
  rw [← hN] at hN5 hcN ⊢
  clear h1 hE hsh hT hN
  go_enter Tryz.func35, Tryz.ntmps35
  go_wp2_with fail
  go_loopw [7, 8, 22] (fun v7 s i wr => ∃ (j m : Nat), j ≤ N ∧ m ≤ 4000 * j ∧ i = .int .i64 j ∧ s = .int .i64 m ∧ Hid (m = sumTo bss j) ∧ Hid (J1 w (w.alloc (.cells #[.int .i64 k, .string ⟨word.toArray⟩, .int .i64 n] 23)) wr bss j v7)) (fun _ _ i _ => N - (intOf i).toNat)
  case atStart => exact ⟨0, 0, Nat.zero_le _, by omega, rfl, rfl, (show _ = _ by simp [sumTo, sumOf]), ⟨by simpa [linesTo] using World.ownsRow_nil _ (w.heap.size + 1) 9 1, Below.refl _ _⟩⟩
  case round =>
    obtain ⟨j, m, hj, hm, rfl, rfl, hms, hrel⟩ := hrel
    have HBw : Hid (Below w.heap.size w wr) := below_box' hrel.out.2
    have hws : w.heap.size + 1 ≤ wr.heap.size := by have := hrel.out.2.size; simpa using this
    by_cases hlt : j < N
    · obtain ⟨p, hpk⟩ : ∃ p, bss[j]? = some p := ⟨_, List.getElem?_eq_getElem (by have := HN.out; omega)⟩
      have HPK : Hid (bss[j]? = some p) := hpk
      have HPr : Hid (RList wr (.slice ao N cap) U bss) := by rw [HN.out]; exact HP.out.below HBw.out
      obtain ⟨b, off, au, cu, rfl, hcell, hru⟩ := HPr.out.at hpk
      have hpl : p.length ≤ 4000 := Nat.le_trans (flat_mem_le (List.mem_of_getElem? hpk)) HT.out
      have hlo := linesOf_new (.slice au p.length cu) p wr hru (sh_below HSH.out HBw.out) (by omega)
      have HLT : Hid _ := linesTo_len bss j
      have HLP : Hid _ := lines_length p
      have hSS : sumTo bss (j + 1) = m + headNum (lines p) := by rw [sumTo_step hpk, ← hms.out]
      have HLS : Hid (∀ s ∈ lines p, s.length ≤ 4000) := fun s hs => lines_short hs hpl
      have HHN : Hid _ := headNum_le (lines p)
      clear hpk hru hms
      obtain ⟨pl, hpl'⟩ : ∃ pl, pl = p.length := ⟨_, rfl⟩
      rw [← hpl'] at hlo hcell hpl HLP
      clear hpl'
      obtain ⟨L, hL⟩ : ∃ L, L = (lines p).length := ⟨_, rfl⟩
      have HL : Hid (L = (lines p).length) := hL
      rw [← hL] at hlo HLP
      have hLb : L ≤ 4000 := Nat.le_trans HLP.out hpl
      clear hL
      have hFb : (linesTo bss j).length ≤ 4000 := Nat.le_trans HLT.out HT.out
      go_wp2_with fail
      refine hlo.mono ?_
      rintro e w1 ⟨g, cl, rfl, hgn, hrd1, hb1⟩
      have HOW1 : Hid _ := owns_below hrel.out.1 hb1
      have HRD1 : Hid (Reads w1 (.slice (some ⟨g, 0, none⟩) L cl) (lines p).length ((lines p).map S)) := by have := hrd1; rw [HL.out] at this ⊢; exact this
      have hs1 : w.heap.size + 1 ≤ w1.heap.size := Nat.le_trans hws hb1.size
      have HB1 : Hid (Below wr.heap.size wr w1) := hb1
      have HGN : Hid (wr.heap.size ≤ g) := hgn
      have hclb : L ≤ cl ∧ cl ≤ 9223372036854775807 := by
        obtain ⟨_, ao', cap', e, e2, e3, _⟩ := id HRD1.out
        injection e with e4 e5 e6
        subst e6
        exact ⟨by rw [HL.out]; exact e2, by simpa [maxLen] using e3⟩
      obtain ⟨hcl1, hcl2⟩ := hclb
      have hown1 : w1.ownsRow (w.heap.size + 1) 9 1 u7 (linesTo bss j).length ((linesTo bss j).map S) := HOW1.out
      clear hlo hrd1 hb1 hgn HOW1
      go_wp2_with (at_builtin; refine wpList_append_own _ rfl (.tmp 28) (.tmp 29) 34 rfl (w.heap.size + 1) 9 i0 (.string ⟨#[]⟩) 1 16 Tryz.underlying34 hi hz0 hz1 hz2 rfl (by decide) _ _ _ rfl hown1 ⟨g, 0, none⟩ L cl ((lines p).map S) rfl ?c0 ?c1 ?c2 ?c3 ?c4 ?c5 ?_)
      case c0 => rw [List.length_map, Nat.mul_one]; exact HL.out.symm
      case c1 =>
        intro i u hi
        have hpos : (lines p).length ≠ 0 := by
          have hl := (List.getElem?_eq_some_iff.1 hi).1
          rw [List.length_map] at hl
          omega
        obtain ⟨_, ao', cap', e, _, _, h5⟩ := HRD1.out
        injection e with e1 e2 e3
        subst e1
        obtain ⟨b', off', e, hcc⟩ := h5 hpos
        injection e with e
        injection e with e1 e2
        subst e1 e2
        have hadd : (⟨g, 0, none⟩ : Addr).add i = ⟨g, 0 + i, none⟩ := by unfold Addr.add; split <;> simp_all
        rw [hadd]
        exact hcc i u hi
      case c2 => intro u hu; obtain ⟨x, _, rfl⟩ := List.mem_map.1 hu; rfl
      case c3 => unfold maxLen; omega
      case c4 => omega
      case c5 => exact hs1
      intro v7' w2 hown2 hgrow2 _
      have HJ2 : Hid (J1 w (w.alloc (.cells #[.int .i64 k, .string ⟨word.toArray⟩, .int .i64 n] 23)) w2 bss (j + 1) v7') := hrel.out.more HPK.out HB1.out HL.out hws hown2 hgrow2
      have HRD2 : Hid (Reads w2 (.slice (some ⟨g, 0, none⟩) L cl) (lines p).length ((lines p).map S)) := reads_grown HRD1.out hgrow2 (fun g' hg' e => by
        have h7 := (hrel.out.1.lt g' e).2
        simp only [Value.ownBlock, Option.some.injEq] at hg'
        have := HGN.out
        omega)
      clear hown2 hgrow2 hown1 HRD1 hrel HB1 HGN hcell
      cases hlp : lines p with
      | nil =>
        rw [hlp] at hSS HL
        have hL0 : L = 0 := HL.out
        subst hL0
        have hS0 : sumTo bss (j + 1) = m := hSS
        have HS0 : Hid (m = sumTo bss (j + 1)) := hS0.symm
        clear hSS hS0 HRD2 hlp
        go_wp2_with fail
        go_roundw
        case rel => exact ⟨j + 1, m, by omega, by omega, by go_num, rfl, HS0, HJ2⟩
        case measure => simp [intOf]; omega
      | cons x r =>
        have HXS : Hid (x.length ≤ 4000) := HLS.out x (by rw [hlp]; simp)
        rw [hlp, headNum_cons] at hSS
        rw [hlp] at HL HRD2
        have hLr : L = r.length + 1 := HL.out
        have hL0 : (0 : Int) < (L : Int) := by omega
        obtain ⟨b1, o1, sx, hb1, hcx, hsx, _, _⟩ := reads_first (by have := HRD2.out; rw [HL.out] at this; exact this)
        injection hb1 with hb1
        injection hb1 with hb1 hb2
        subst hb1 hb2
        obtain rfl : sx = ⟨x.toArray⟩ := by unfold S at hsx; injection hsx
        have HSS : Hid (sumTo bss (j + 1) = m + numOf x) := hSS
        have HB2 : Hid (Below w.heap.size w w2) := below_box' HJ2.out.2
        have hKE := HE.out.below HB2.out
        have hd : (⟨x.toArray⟩ : ByteArray).data.toList = x := rfl
        have hsz : (⟨x.toArray⟩ : ByteArray).size = x.length := by simp [ByteArray.size]
        have hxz : (⟨x.toArray⟩ : ByteArray).size ≤ 281474976710656 := by have := HXS.out; omega
        clear hSS hlp HRD2 HLS hsx hLr
        have HN0 : Hid _ := hKE
        by_cases hok : ∃ z, Lib.atoiAll x = .ok z
        · obtain ⟨z, hz⟩ := hok
          have hzb := Lib.atoiAll_bounds hz
          have hpa := parse_ok ⟨x.toArray⟩ z w2 hxz (by rw [hd]; exact hz)
          have HNUM : Hid _ := numOf_ok hz
          clear hz hd hsz hxz hKE
          obtain ⟨sx, hsx⟩ : ∃ sx : ByteArray, sx = ⟨x.toArray⟩ := ⟨_, rfl⟩
          have HSX : Hid (Value.string sx = S x) := by rw [hsx]; exact rfl
          rw [← hsx] at hpa hcx
          clear hsx
          go_wp2_with fail
          refine hpa.mono ?_
          rintro e w3 ⟨rfl, hb3⟩
          have HJ3 : Hid (J1 w (w.alloc (.cells #[.int .i64 k, .string ⟨word.toArray⟩, .int .i64 n] 23)) w3 bss (j + 1) v7') := HJ2.out.below hb3 (by have := HJ2.out.2.size; simpa using this)
          have hcx3 : w3.cell? ⟨g, 0, none⟩ = some (.string sx) := (hb3.cell (World.block_lt_of_cell? w2 _ hcx)).trans hcx
          have HK3 : Hid (Known w3) := (KnownE.below HN0.out hb3).1
          clear hpa hb3 hcx HJ2 HN0 HB2
          by_cases hz0 : 0 ≤ z
          · by_cases hz4 : z ≤ 4000
            · have q1 : decide (0 ≤ z) = true := decide_eq_true hz0
              have q2 : decide (z ≤ 4000) = true := decide_eq_true hz4
              obtain ⟨tx, htx⟩ : ∃ tx : ByteArray, tx = ⟨(Lib.itoa z).toArray⟩ := ⟨_, rfl⟩
              have cF : ∀ d os, Calls Tryz.prog 57 #[.int .i64 z, .int .i64 10] (Go.Sort.grow (redrawn w3 d) os) fun e w'' => e = .returned (.string tx) ∧ ∃ p : Regrown, w'' = Go.Sort.grow (redrawn w3 p.d) p.os := fun d os => Calls.regrown_of (by rw [htx]; exact format_val z _ hzb.1 hzb.2 (HK3.out.below (below_regrown w3 d os)))
              have hcr : ∀ d os, (Go.Sort.grow (redrawn w3 d) os).cell? ⟨g, 0, none⟩ = some (.string sx) := fun d os => cell_regrown hcx3 d os
              have heqb : (tx.toList == sx.toList) = decide (Lib.itoa z = x) := by
                have htx' : Value.string tx = S (Lib.itoa z) := by rw [htx]; rfl
                rw [str_data htx', str_data HSX.out]; by_cases h : Lib.itoa z = x <;> simp [h]
              clear htx
              by_cases heq : Lib.itoa z = x
              · have HS4 : Hid (sumTo bss (j + 1) = m + z.toNat) := (show _ = _ by rw [HSS.out, HNUM.out, if_pos ⟨hz0, hz4, heq⟩])
                rw [decide_eq_true heq] at heqb
                obtain ⟨zn, rfl⟩ := Int.eq_ofNat_of_zero_le hz0
                rw [Int.toNat_natCast] at HS4
                clear heq HNUM hcx3
                go_wp2_with fail
                refine wp_region_quiet_below (by kernel_rfl) (by kernel_rfl) ?_
                repeat (first | go_big_quiet_step (exact cF _ _) | quiet_step (exact cF _ _))
                refine wpQuiet_nil ?_
                intro _ hw'
                obtain ⟨⟨dq, osq⟩, hw''⟩ := hw'
                subst hw''
                have HJ4 : Hid (J1 w (w.alloc (.cells #[.int .i64 k, .string ⟨word.toArray⟩, .int .i64 n] 23)) (Go.Sort.grow (redrawn w3 dq) osq) bss (j + 1) v7') := HJ3.out.below (below_regrown w3 dq osq) (by have := HJ3.out.2.size; simpa using this)
                clear cF hcr HJ3
                go_wp2_with fail
                go_roundw
                case rel => exact ⟨j + 1, m + zn, by omega, by omega, by go_num, by go_num, HS4.out.symm, HJ4⟩
                case measure => simp [intOf]; omega
              · have HS4 : Hid (m = sumTo bss (j + 1)) := (show _ = _ by rw [HSS.out, HNUM.out, if_neg (fun h => heq h.2.2)]; rfl)
                rw [decide_eq_false heq] at heqb
                clear heq HNUM hcx3
                go_wp2_with fail
                refine wp_region_quiet_below (by kernel_rfl) (by kernel_rfl) ?_
                repeat (first | go_big_quiet_step (exact cF _ _) | quiet_step (exact cF _ _))
                refine wpQuiet_nil ?_
                intro _ hw'
                obtain ⟨⟨dq, osq⟩, hw''⟩ := hw'
                subst hw''
                have HJ4 : Hid (J1 w (w.alloc (.cells #[.int .i64 k, .string ⟨word.toArray⟩, .int .i64 n] 23)) (Go.Sort.grow (redrawn w3 dq) osq) bss (j + 1) v7') := HJ3.out.below (below_regrown w3 dq osq) (by have := HJ3.out.2.size; simpa using this)
                clear cF hcr HJ3
                go_wp2_with fail
                go_roundw
                case rel => exact ⟨j + 1, m, by omega, by omega, by go_num, rfl, HS4, HJ4⟩
                case measure => simp [intOf]; omega
            · have q1 : decide (0 ≤ z) = true := decide_eq_true hz0
              have q2 : decide (z ≤ 4000) = false := decide_eq_false hz4
              have HS4 : Hid (m = sumTo bss (j + 1)) := (show _ = _ by rw [HSS.out, HNUM.out, if_neg (fun h => hz4 h.2.1)]; rfl)
              go_wp2_with fail
              go_quiet (fail)
              go_wp2_with fail
              go_roundw
              case rel => exact ⟨j + 1, m, by omega, by omega, by go_num, rfl, HS4, HJ3.out.below (below_dn (Below.refl _ _) _) (by have := HJ3.out.2.size; simpa using this)⟩
              case measure => simp [intOf]; omega
          · have q1 : decide (0 ≤ z) = false := decide_eq_false hz0
            have HS4 : Hid (m = sumTo bss (j + 1)) := (show _ = _ by rw [HSS.out, HNUM.out, if_neg (fun h => hz0 h.1)]; rfl)
            go_wp2_with fail
            go_quiet (fail)
            go_wp2_with fail
            go_roundw
            case rel => exact ⟨j + 1, m, by omega, by omega, by go_num, rfl, HS4, HJ3.out.below (below_dn (Below.refl _ _) _) (by have := HJ3.out.2.size; simpa using this)⟩
            case measure => simp [intOf]; omega
        · have hpa := parse_bad ⟨x.toArray⟩ w2 hxz hKE (by rw [hd]; exact fun z h => hok ⟨z, h⟩)
          have HS4 : Hid (m = sumTo bss (j + 1)) := (show _ = _ by rw [HSS.out, numOf_bad (fun z h => hok ⟨z, h⟩)]; rfl)
          clear hok hd hsz hxz hKE
          go_wp2_with fail
          refine hpa.mono ?_
          rintro e w3 ⟨z, t, p', rfl, hb3⟩
          have HJ3 : Hid (J1 w (w.alloc (.cells #[.int .i64 k, .string ⟨word.toArray⟩, .int .i64 n] 23)) w3 bss (j + 1) v7') := HJ2.out.below hb3 (by have := HJ2.out.2.size; simpa using this)
          clear hpa hb3 HJ2 HB2 hcx
          go_wp2_with fail
          go_quiet (fail)
          go_wp2_with fail
          go_roundw
          case rel => exact ⟨j + 1, m, by omega, by omega, by go_num, rfl, HS4, HJ3.out.below (below_dn (Below.refl _ _) _) (by have := HJ3.out.2.size; simpa using this)⟩
          case measure => simp [intOf]; omega
    · obtain rfl : N = j := by omega
      obtain ⟨ps, hps⟩ : ∃ ps, ps = bss.map lines := ⟨_, rfl⟩
      have HPS : Hid (ps = bss.map lines) := hps
      obtain ⟨T, hTT⟩ : ∃ T, T = ps.flatten.length := ⟨_, rfl⟩
      have hTb : T ≤ 4000 := by rw [hTT, hps]; exact Nat.le_trans (flat_lines_count bss) HT.out
      have HTT : Hid (T = ps.flatten.length) := hTT
      have hpsl : ps.length = N := by rw [hps, List.length_map]; exact HN.out.symm
      have HPL : Hid (ps.length = N) := hpsl
      obtain ⟨i1, hi', hy0, hy1, hy2⟩ := info_parts infoInt
      have hb4 : i1.bytes * N ≤ 281474976710656 := by rw [hy2]; omega
      have hb5 : N ≤ maxLen := by unfold maxLen; omega
      have HJ0 : Hid (J1 w (w.alloc (.cells #[.int .i64 k, .string ⟨word.toArray⟩, .int .i64 n] 23)) wr bss N u7) := hrel.out
      clear hrel hms hps hTT hpsl
      go_wp2_with (at_make; refine wpList_make_full _ rfl (.tmp 77) (.tmp 77) 59 rfl (w.heap.size + 1) 3 i1 (.int .i64 0) 1 Tryz.underlying59 hi' hy0 hy1 .i64 .i64 _ _ N rfl rfl rfl rfl hb4 hb5 hws ?_)
      intro w3 hout3 hgrow3
      have HM3 : Hid (MJ w (w.alloc (.cells #[.int .i64 k, .string ⟨word.toArray⟩, .int .i64 n] 23)) w3 ps T wr.heap.size [] (List.replicate N 0) (.slice none 0 0)) := by
        have e0 : curOf ps (List.replicate N 0) = ps := by rw [← HPL.out]; exact curOf_zero ps
        refine ⟨by rw [List.length_replicate]; exact HPL.out.symm, ?_, hws, World.ownsRow_nil _ _ _ _, by simp [Value.ownBlock], HJ0.out.2.trans (below_grown hgrow3 hws), ?_, ?_⟩
        · have := (row_of_owns hout3).1
          rw [toList_madeCells_one] at this
          rw [List.map_replicate]
          exact this
        · rw [e0, HTT.out]; simp
        · rw [e0, HTT.out]; rfl
      generalize hGA : wr.heap.size = GA at *
      clear hout3 hgrow3 HJ0 hGA
      go_wp2_with fail
      go_loopw [7] (fun v7 w9 => ∃ (D : List (List UInt8)) (ats : List Nat), Hid (MJ w (w.alloc (.cells #[.int .i64 k, .string ⟨word.toArray⟩, .int .i64 n] 23)) w9 ps T GA D ats v7)) (fun v7 _ => T - sliceLen v7)
      case atStart => exact ⟨[], _, HM3.out⟩
      case round =>
        obtain ⟨D, ats, hrel⟩ := hrel
        obtain ⟨w9, hw9⟩ : ∃ w9, w9 = wr := ⟨_, rfl⟩
        subst hw9
        have HM9 : Hid (MJ w (w.alloc (.cells #[.int .i64 k, .string ⟨word.toArray⟩, .int .i64 n] 23)) w9 ps T GA D ats u7) := hrel.out
        have HBw9 : Hid (Below w.heap.size w w9) := below_box' hrel.out.2.2.2.2.2.1
        have hws9 : w.heap.size + 1 ≤ w9.heap.size := by have := hrel.out.2.2.2.2.2.1.size; simpa using this
        have HAL : Hid (ats.length = N) := hrel.out.1.trans HPL.out
        obtain ⟨cur, hcur⟩ : ∃ cur, cur = curOf ps ats := ⟨_, rfl⟩
        have HCU : Hid (cur = curOf ps ats) := hcur
        have HCL : Hid (cur.length = N) := (show _ = _ by rw [hcur]; unfold curOf; rw [List.length_zipWith, HPL.out, HAL.out, Nat.min_self])
        clear hcur hrel
        go_wp2_with fail
        go_loopw [15, 16, 81] (fun s f i wx => ∃ (j : Nat) (sx : ByteArray), j ≤ N ∧ i = .int .i64 j ∧ s = .int .i64 (lix (leastTo cur j)) ∧ f = .string sx ∧ Hid (Value.string sx = S (firstOf (leastTo cur j))) ∧ Hid (Below w9.heap.size w9 wx)) (fun _ _ i _ => N - (intOf i).toNat)
        case atStart => exact ⟨0, ⟨#[]⟩, Nat.zero_le _, rfl, rfl, rfl, rfl, Below.refl _ _⟩
        case round =>
          obtain ⟨j, sx, hj, rfl, rfl, rfl, hsx, hbx⟩ := hrel
          have HMx : Hid (MJ w (w.alloc (.cells #[.int .i64 k, .string ⟨word.toArray⟩, .int .i64 n] 23)) wr ps T GA D ats u7) := HM9.out.below hbx.out hws9
          have HBwx : Hid (Below w.heap.size w wr) := HBw9.out.trans (hbx.out.mono HBw9.out.size)
          by_cases hlt : j < N
          · obtain ⟨p, hpk⟩ : ∃ p, bss[j]? = some p := ⟨_, List.getElem?_eq_getElem (by have := HN.out; omega)⟩
            have hpsj : ps[j]? = some (lines p) := by rw [HPS.out, List.getElem?_map, hpk]; rfl
            obtain ⟨a, ha⟩ : ∃ a, ats[j]? = some a := ⟨_, List.getElem?_eq_getElem (by have := HAL.out; omega)⟩
            have hcj : cur[j]? = some ((lines p).drop a) := by rw [HCU.out]; exact curOf_get hpsj ha
            have HPr : Hid (RList wr (.slice ao N cap) U bss) := by rw [HN.out]; exact HP.out.below HBwx.out
            obtain ⟨b, off, au, cu, rfl, hcell, hru⟩ := HPr.out.at hpk
            have hpl : p.length ≤ 4000 := Nat.le_trans (flat_mem_le (List.mem_of_getElem? hpk)) HT.out
            have hlo := linesOf (.slice au p.length cu) p wr hru (sh_below HSH.out HBwx.out) (by omega)
            obtain ⟨hcA, _⟩ := HMx.out.cell ha
            have HLP : Hid _ := lines_length p
            clear hpk hru hpsj
            obtain ⟨pl, hpl'⟩ : ∃ pl, pl = p.length := ⟨_, rfl⟩
            rw [← hpl'] at hlo hcell hpl HLP
            clear hpl'
            obtain ⟨L, hL⟩ : ∃ L, L = (lines p).length := ⟨_, rfl⟩
            have HL : Hid (L = (lines p).length) := hL
            rw [← hL] at hlo HLP
            have hLb : L ≤ 4000 := Nat.le_trans HLP.out hpl
            clear hL
            go_wp2_with fail
            refine hlo.mono ?_
            rintro e w1 ⟨g, cl, rfl, hrd1, hb1⟩
            have hcA1 : w1.cell? ⟨GA, j, none⟩ = some (.int .i64 (a : Int)) := (hb1.cell (World.block_lt_of_cell? wr _ hcA)).trans hcA
            have HBx1 : Hid (Below w9.heap.size w9 w1) := hbx.out.trans (hb1.mono hbx.out.size)
            have HRD1 : Hid (Reads w1 (.slice (some ⟨g, 0, none⟩) L cl) L ((lines p).map S)) := hrd1
            have hclb : L ≤ cl ∧ cl ≤ 9223372036854775807 := by
              obtain ⟨_, ao', cap', e, e2, e3, _⟩ := id HRD1.out
              injection e with e4 e5 e6
              subst e6
              exact ⟨e2, by simpa [maxLen] using e3⟩
            obtain ⟨hcl1, hcl2⟩ := hclb
            clear hlo hrd1 hb1 hcell hcA hbx HMx HBwx
            by_cases haL : a < L
            · have haL' : a < (lines p).length := by rw [← HL.out]; exact haL
              have hh := head_at haL'
              obtain ⟨x, hx⟩ : ∃ x, x = (lines p)[a] := ⟨_, rfl⟩
              rw [← hx] at hh
              have hcx : w1.cell? ⟨g, a, none⟩ = some (S x) := by
                obtain ⟨_, ao', cap', e, _, _, h5⟩ := HRD1.out
                injection e with e1 e2 e3
                subst e1
                obtain ⟨b', off', e, hcc⟩ := h5 (by omega)
                injection e with e
                injection e with e1 e2
                subst e1 e2
                have := hcc a (S x) (by rw [List.getElem?_map, List.getElem?_eq_getElem haL', hx]; rfl)
                rwa [Nat.zero_add] at this
              obtain ⟨xx, hxx⟩ : ∃ xx : ByteArray, xx = ⟨x.toArray⟩ := ⟨_, rfl⟩
              have HXX : Hid (Value.string xx = S x) := by rw [hxx]; exact rfl
              have hcx1 : w1.cell? ⟨g, a, none⟩ = some (.string xx) := by rw [hcx, ← HXX.out]
              obtain ⟨r, hcr⟩ : ∃ r, cur[j]? = some (x :: r) := by
                cases hd : (lines p).drop a with
                | nil => rw [hd] at hh; cases hh
                | cons y r => rw [hd] at hh hcj; injection hh with hh; exact ⟨r, by rw [hcj, hh]⟩
              have haI : (a : Int) < (L : Int) := by omega
              clear hcx hxx hx hh hcj haL'
              cases hlk : leastTo cur j with
              | none =>
                have HL9 : Hid _ := leastTo_first hcr hlk
                simp only [lix]
                clear hcr hlk hsx
                go_wp2_with fail
                go_quiet (fail)
                go_wp2_with fail
                go_roundw
                case rel => exact ⟨j + 1, xx, by omega, by go_num, by rw [HL9.out]; rfl, rfl, (show _ = _ by rw [HL9.out]; exact HXX.out), below_dn HBx1.out _⟩
                case measure => simp [intOf]; omega
              | some jt =>
                obtain ⟨b', t⟩ := jt
                rw [hlk] at hsx
                have hless := less_is HXX.out (show Value.string sx = S t from hsx.out)
                simp only [lix]
                have hb0 : decide ((b' : Int) < 0) = false := decide_eq_false (by omega)
                by_cases hxt : x < t
                · have HL9 : Hid _ := leastTo_less hcr hlk hxt
                  rw [decide_eq_true hxt] at hless
                  clear hcr hlk hxt hsx
                  go_wp2_with fail
                  go_quiet (fail)
                  go_wp2_with fail
                  go_roundw
                  case rel => exact ⟨j + 1, xx, by omega, by go_num, by rw [HL9.out]; rfl, rfl, (show _ = _ by rw [HL9.out]; exact HXX.out), below_dn HBx1.out _⟩
                  case measure => simp [intOf]; omega
                · have HL9 : Hid _ := leastTo_more hcr hlk hxt
                  rw [decide_eq_false hxt] at hless
                  clear hcr hlk hxt
                  go_wp2_with fail
                  go_roundw
                  case rel => exact ⟨j + 1, sx, by omega, by go_num, by rw [HL9.out]; rfl, rfl, (show _ = _ by rw [HL9.out]; exact hsx.out), HBx1.out⟩
                  case measure => simp [intOf]; omega
            · have hnil : (lines p).drop a = [] := List.drop_of_length_le (by rw [← HL.out]; omega)
              rw [hnil] at hcj
              have HL9 : Hid _ := leastTo_nil hcj
              have haI : ¬ (a : Int) < (L : Int) := by omega
              clear hcj hnil
              go_wp2_with fail
              go_roundw
              case rel => exact ⟨j + 1, sx, by omega, by go_num, by rw [HL9.out], rfl, (show _ = _ by rw [HL9.out]; exact hsx.out), HBx1.out⟩
              case measure => simp [intOf]; omega
          · obtain rfl : N = j := by omega
            have HLE : Hid (leastTo cur N = least cur) := (show _ = _ by unfold least; rw [HCL.out])
            rw [HLE.out] at hsx
            rw [HLE.out]
            cases hlk : least cur with
            | none =>
              have HD : Hid (D = joined 2 ⟨k, word, n⟩ (bss.map lines)) := (show _ = _ by
                obtain ⟨_, _, _, _, _, _, h7, h8⟩ := HMx.out
                rw [← HCU.out, least_none hlk] at h8
                rw [joined2, ← HPS.out]
                unfold mergeOf
                rw [← HTT.out, ← h8]
                simp [mergeN])
              have HRD : Hid (Reads wr u7 (joined 2 ⟨k, word, n⟩ (bss.map lines)).length ((joined 2 ⟨k, word, n⟩ (bss.map lines)).map S)) := by rw [← HD.out]; exact Reads.of_owns HMx.out.2.2.2.1
              obtain ⟨_, o7, c7, rfl, _⟩ := id HRD.out
              simp only [lix]
              clear hlk hsx hbx HMx HM9
              go_wp2_with fail
              refine (bytesOf _ (joined 2 ⟨k, word, n⟩ (bss.map lines)) wr HRD.out HJL.out).mono ?_
              rintro e w5 ⟨r5, rfl, hr5, hb5⟩
              have HR5 : Hid (Reads w5 r5 (jOut 2 ⟨k, word, n⟩ bss).length ((jOut 2 ⟨k, word, n⟩ bss).map U)) := hr5
              have HB5 : Hid (Below w.heap.size w w5) := HBwx.out.trans (hb5.mono HBwx.out.size)
              clear hr5 hb5 HRD
              go_wp2_with fail
              go_ret
              exact ⟨_, rfl, HR5.out, HB5.out⟩
            | some bx =>
              obtain ⟨b', x⟩ := bx
              rw [hlk] at hsx
              simp only [lix]
              have hlk' : least (curOf ps ats) = some (b', x) := by rw [← HCU.out]; exact hlk
              obtain ⟨r, hcr, _⟩ := least_some hlk
              have hbN : b' < N := by have := (List.getElem?_eq_some_iff.1 hcr).1; have := HCL.out; omega
              obtain ⟨a, ha⟩ : ∃ a, ats[b']? = some a := ⟨_, List.getElem?_eq_getElem (by have := HAL.out; omega)⟩
              obtain ⟨hcA, hfA⟩ := HMx.out.cell ha
              have hxs : Value.string sx = S x := hsx.out
              have HXS : Hid (Value.string sx = S x) := hxs
              have hwsx : w.heap.size + 1 ≤ wr.heap.size := Nat.le_trans hws9 hbx.out.size
              have haT : a ≤ 4000 := by
                have h1 : (curOf ps ats).flatten.length ≤ T := by obtain ⟨_, _, _, _, _, _, h7, _⟩ := HMx.out; omega
                have hpb : ps[b']? = some (ps[b']'(by have := HPL.out; omega)) := List.getElem?_eq_getElem _
                have h2 := curOf_get hpb ha
                rw [← HCU.out, hcr] at h2
                injection h2 with h2
                have h3 : a < (ps[b']'(by have := HPL.out; omega)).length := by
                  rcases Nat.lt_or_ge a (ps[b']'(by have := HPL.out; omega)).length with h | h
                  · exact h
                  · rw [List.drop_of_length_le h] at h2; cases h2
                have h4 := flat_mem_le (List.mem_of_getElem? hpb)
                have := HTT.out
                omega
              have hDT : D.length < T := by
                obtain ⟨_, _, _, _, _, _, h7, _⟩ := HMx.out
                have h9 := modify_length (by rw [← HCU.out]; exact hcr : (curOf ps ats)[b']? = some (x :: r))
                omega
              have HDT : Hid (D.length < T) := hDT
              have HSL : Hid (sliceLen u7 = D.length) := sliceLen_owns HMx.out.2.2.2.1
              have hown7 : ((wr.setCell ⟨GA, b', none⟩ (.int .i64 ((a : Int) + 1))).alloc (.cells #[.string sx] 9)).ownsRow (w.heap.size + 1) 9 1 u7 D.length (D.map S) := World.ownsRow.alloc (ownsRow_setCell_other HMx.out.2.2.2.1 HMx.out.2.2.2.2.1 _) _
              have hDb : D.length ≤ 4000 := by omega
              clear hlk hsx hbx HM9 hcr hxs
              go_wp2_with (at_builtin; refine wpList_append_own_at _ rfl (.tmp 127) (.tmp 129) 34 rfl (w.heap.size + 1) 9 i0 (.string ⟨#[]⟩) 1 16 Tryz.underlying34 hi hz0 hz1 hz2 rfl (by decide) _ _ _ rfl hown7 ⟨wr.heap.size, 0, none⟩ 1 1 [.string sx] rfl rfl ?c1 ?c2 ?c3 ?c4 ?c5 ?_)
              case c1 =>
                intro j u hj
                match j, hj with
                | 0, hj =>
                  simp at hj; subst hj
                  have hn := heap_alloc_new (wr.setCell ⟨GA, b', none⟩ (.int .i64 ((a : Int) + 1))) (.cells #[.string sx] 9)
                  rw [show (wr.setCell ⟨GA, b', none⟩ (.int .i64 ((a : Int) + 1))).heap.size = wr.heap.size by simp] at hn
                  have hadd : (⟨wr.heap.size, 0, none⟩ : Addr).add 0 = ⟨wr.heap.size, 0, none⟩ := by simp [Addr.add]
                  rw [hadd, cell_of_row _ _ _ _ _ _ hn]
                  rfl
              case c2 => intro u hu; simp at hu; subst hu; rfl
              case c3 => unfold maxLen; omega
              case c4 => omega
              case c5 => simp; omega
              intro v7' w2 hown2 hgrow2 _ hat2
              have HM2 : Hid (MJ w (w.alloc (.cells #[.int .i64 k, .string ⟨word.toArray⟩, .int .i64 n] 23)) w2 ps T GA (D ++ [x]) (ats.set b' (a + 1)) v7') := HMx.out.step hlk' ha HXS.out hwsx hown2 hgrow2 (by simpa using hat2)
              have HSL2 : Hid (sliceLen v7' = D.length + 1) := sliceLen_owns hown2
              clear hown2 hgrow2 hat2 hown7 HMx hcA hfA
              go_wp2_with fail
              go_roundw
              case rel => exact ⟨D ++ [x], _, HM2.out⟩
              case measure => rw [HSL.out, HSL2.out]; have := HDT.out; omega
end Go.Proofs.YtfkddfmbgbaefaaGreatDoor
namespace Go.Gs
open Go.RowKit Go.ChangeShapes Go.WideShapes Go.ChangeAt
set_option linter.unusedVariables false
variable {P : Program} {H : Type} {enc : TypeId × Value → H} {W : World} {base : Nat} {held : Bool} {fuel : Nat} {t e : TypeId} {a : Option Addr} {len cap : Nat} {x : DataW H × List MemPlace}

theorem add_plain {b off j : Nat} : (⟨b, off, none⟩ : Addr).add j = ⟨b, off + j, none⟩ := by unfold Addr.add; split <;> simp_all

theorem U_of {z : Int} (h : (Lit.int .u8 z).wf = true) : U (UInt8.ofNat z.toNat) = .int .u8 z := by
  have hx : 0 ≤ z ∧ z ≤ 255 := by simpa [Lit.wf, IntKind.min, IntKind.max, IntKind.signed, IntKind.bits] using h
  have : ((UInt8.ofNat z.toNat).toNat : Int) = z := by
    rw [UInt8.toNat_ofNat_of_lt' (by show _ < 256; omega)]
    omega
  simp only [U, this]

theorem bytes_of_open (ht : P.underlying t = some (.slice e)) (he : P.underlying e = some (.int .u8)) (hc : P.cellsOf e = 1)
    (hf : DataW.trod enc P W base (fun _ => true) held fuel t [.slice a len cap] = some x) :
    ∃ bs : List UInt8, bs.length = len ∧ Reads W (.slice a len cap) bs.length (bs.map U) := by
  rcases open_ints ht he hc hf with ⟨hcs, _⟩ | ⟨ad, l, c, zs, hcs, _, hl, hm, hz, _, hcell, hwz⟩
  · simp at hcs
    obtain ⟨rfl, rfl, rfl⟩ := hcs
    exact ⟨[], rfl, rfl, none, 0, rfl, Nat.le_refl _, by simp, fun h => absurd rfl h⟩
  · simp at hcs
    obtain ⟨rfl, rfl, rfl⟩ := hcs
    have hz' : zs.length = cap := by simpa using hz
    have hbl : ((zs.take len).map (fun z => UInt8.ofNat z.toNat)).length = len := by simp; omega
    refine ⟨(zs.take len).map (fun z => UInt8.ofNat z.toNat), hbl, by simp, some ad, cap, by rw [hbl], by omega, hm, fun h0 => ?_⟩
    rw [hbl] at h0
    obtain ⟨b, off, spot⟩ := ad
    have h00 := hcell 0 (by omega)
    have hspot : spot = none := by simpa [Addr.add] using World.cell?_spot h00
    subst hspot
    refine ⟨b, off, rfl, fun j u hu => ?_⟩
    have hj : j < len := by
      have := (List.getElem?_eq_some_iff.1 hu).1
      simp at this
      omega
    have hjz : j < zs.length := by omega
    have hcj := hcell j hjz
    rw [add_plain] at hcj
    rw [hcj]
    simp only [List.map_map, List.getElem?_map, List.getElem?_take, hj, if_true, List.getElem?_eq_getElem hjz, Option.map_some, Function.comp_apply, Option.some.injEq] at hu
    rw [U_of (hwz _ (List.getElem_mem hjz))] at hu
    rw [← hu]
    simp [hjz]

theorem strs_of_open (ht : P.underlying t = some (.slice e)) (he : P.underlying e = some .string) (hc : P.cellsOf e = 1)
    (hf : DataW.trod enc P W base (fun _ => true) held fuel t [.slice a len cap] = some x) :
    ∃ ls : List (List UInt8), ls.length = len ∧ Reads W (.slice a len cap) ls.length (ls.map S) ∧ ∀ s ∈ ls, s.length ≤ 9223372036854775807 := by
  rcases open_strings ht he hc hf with ⟨hcs, _⟩ | ⟨ad, l, c, ss, hcs, _, hl, hm, hz, _, hcell, hwz⟩
  · simp at hcs
    obtain ⟨rfl, rfl, rfl⟩ := hcs
    exact ⟨[], rfl, ⟨rfl, none, 0, rfl, Nat.le_refl _, by simp, fun h => absurd rfl h⟩, by simp⟩
  · simp at hcs
    obtain ⟨rfl, rfl, rfl⟩ := hcs
    have hz' : ss.length = cap := by simpa using hz
    have hbl : ((ss.take len).map (fun s => s.data.toList)).length = len := by simp; omega
    refine ⟨(ss.take len).map (fun s => s.data.toList), hbl, ⟨by simp, some ad, cap, by rw [hbl], by omega, hm, fun h0 => ?_⟩, ?_⟩
    · rw [hbl] at h0
      obtain ⟨b, off, spot⟩ := ad
      have h00 := hcell 0 (by omega)
      have hspot : spot = none := by simpa [Addr.add] using World.cell?_spot h00
      subst hspot
      refine ⟨b, off, rfl, fun j u hu => ?_⟩
      have hj : j < len := by
        have := (List.getElem?_eq_some_iff.1 hu).1
        simp at this
        omega
      have hjz : j < ss.length := by omega
      have hcj := hcell j hjz
      rw [add_plain] at hcj
      rw [hcj]
      simp only [List.map_map, List.getElem?_map, List.getElem?_take, hj, if_true, List.getElem?_eq_getElem hjz, Option.map_some, Function.comp_apply, Option.some.injEq] at hu
      rw [← hu]
      simp [hjz, S]
    · intro s hs
      simp only [List.mem_map] at hs
      obtain ⟨y, hy, rfl⟩ := hs
      have h1 : y.size ≤ maxLen := hwz y (List.mem_of_mem_take hy)
      have h2 : y.data.toList.length = y.size := Array.length_toList
      unfold maxLen at h1
      omega
end Go.Gs
namespace Go.Gs
open Go.RowKit Go.ChangeShapes Go.WideShapes Go.ChangeAt
set_option linter.unusedVariables false
variable {P : Program} {H : Type} {enc : TypeId × Value → H} {W : World} {base : Nat} {held : Bool} {fuel : Nat} {t e : TypeId} {a : Option Addr} {len cap : Nat} {x : DataW H × List MemPlace}

theorem bytes_datum (ht : P.underlying t = some (.slice e)) (he : P.underlying e = some (.int .u8)) (hc : P.cellsOf e = 1)
    (hf : DataW.trod enc P W base (fun _ => true) held fuel t [.slice a len cap] = some x) : len = 0 ∨ ∃ elems spare, x.1 = .slice elems spare ∧ elems.length = len := by
  rcases open_ints ht he hc hf with ⟨hcs, _⟩ | ⟨ad, l, c, zs, hcs, _, hl, hm, hz, hx, hcell, hwz⟩
  · simp at hcs
    exact .inl hcs.2.1
  · simp at hcs
    obtain ⟨rfl, rfl, rfl⟩ := hcs
    have hz' : zs.length = cap := by simpa using hz
    refine .inr ⟨_, _, by rw [hx], ?_⟩
    simp [lits]
    omega

theorem bytes_few {ts : List TypeId} {ds : List (DataW H)} {d : DataW H} {j : Nat} (hsz : (DataW.weightsEach P ts ds).all (· ≤ reachBytes) = true) (hts : ts[j]? = some t) (hds : ds[j]? = some d) (ht : P.underlying t = some (.slice e)) (hb : P.bytesOf e = 1)
    (h : len = 0 ∨ ∃ elems spare, d = .slice elems spare ∧ elems.length = len) : len ≤ 1000000000000000 := by
  rcases h with rfl | ⟨elems, spare, rfl, hl⟩
  · omega
  · have := sized_slice hsz hts hds ht
    rw [hb] at this
    unfold reachBytes at this
    omega
end Go.Gs
namespace Go.Proofs.YtfkddfmbgbaefaaGreatDoor
open Go.RowKit Go.Gs Go.ChangeShapes Go.WideShapes Go.ChangeAt
set_option linter.unusedVariables false
variable {P : Program} {H : Type} {enc : TypeId × Value → H} {W : World} {base : Nat} {held : Bool} {fuel : Nat} {t e q : TypeId} {a : Option Addr} {len cap : Nat} {x : DataW H × List MemPlace}

theorem weights_all_mem {e : TypeId} {d : DataW H} : ∀ {l : List (DataW H)}, d ∈ l → ∀ n ∈ d.weights P e, n ∈ DataW.weightsAll P e l := by
  intro l
  induction l with
  | nil => intro h; cases h
  | cons c l ih =>
    intro h n hn
    rw [DataW.weightsAll, List.mem_append]
    rcases List.mem_cons.1 h with rfl | h
    · exact .inl hn
    · exact .inr (ih h n hn)
/-- How many elements a slice within a slice has. -/
theorem few_within {ts : List TypeId} {ds : List (DataW H)} {elems spare el sp : List (DataW H)} {j : Nat} (hsz : (DataW.weightsEach P ts ds).all (· ≤ reachBytes) = true) (hts : ts[j]? = some t) (hds : ds[j]? = some (.slice elems spare)) (ht : P.underlying t = some (.slice e)) (he : P.underlying e = some (.slice q)) (hb : P.bytesOf q = 1)
    (hd : (.slice el sp : DataW H) ∈ elems) : el.length ≤ 1000000000000000 := by
  have h1 : (el.length + sp.length) * P.bytesOf q ∈ DataW.weights P e (.slice el sp : DataW H) := by simp [DataW.weights, he]
  have h2 := weights_all_mem (P := P) hd _ h1
  have h3 : (el.length + sp.length) * P.bytesOf q ∈ DataW.weights P t (.slice elems spare : DataW H) := by
    simp only [DataW.weights, ht]
    exact List.mem_cons_of_mem _ (List.mem_append_left _ h2)
  have h4 := List.all_eq_true.1 hsz _ (DataW.weights_mem_each hts hds _ h3)
  have h5 : (el.length + sp.length) * P.bytesOf q ≤ reachBytes := by simpa using h4
  rw [hb] at h5
  unfold reachBytes at h5
  omega

theorem lists_of_open (ht : P.underlying t = some (.slice e)) (he : P.underlying e = some (.slice q)) (hq : P.underlying q = some (.int .u8)) (ce : P.cellsOf e = 1) (cq : P.cellsOf q = 1)
    (hf : DataW.trod enc P W base (fun _ => true) held fuel t [.slice a len cap] = some x) :
    ∃ bss : List (List UInt8), bss.length = len ∧ RList W (.slice a len cap) U bss ∧ (len = 0 ∨ ∃ elems spare, x.1 = .slice elems spare ∧ elems.length = len ∧ ∀ (j : Nat) (p : List UInt8), bss[j]? = some p → p.length = 0 ∨ ∃ el sp, (.slice el sp : DataW H) ∈ elems ∧ el.length = p.length) := by
  rcases Deep.open_slice1 ht ce hf with ⟨hcs, _⟩ | ⟨ad, l, c, m, n, V, D, Pl, hcs, hb, hl, hm, hmm, hx, hall⟩
  · simp at hcs
    obtain ⟨rfl, rfl, rfl⟩ := hcs
    exact ⟨[], rfl, ⟨[], ⟨rfl, none, 0, rfl, Nat.le_refl _, by simp, fun h => absurd rfl h⟩, fun j p hj => by simp at hj⟩, .inl rfl⟩
  · simp at hcs
    obtain ⟨rfl, rfl, rfl⟩ := hcs
    simp only [if_true] at hmm
    subst hmm
    have each : ∀ i, i < len → ∃ y : List UInt8, Reads W (V i) y.length (y.map U) ∧ (y.length = 0 ∨ ∃ el sp, D i = .slice el sp ∧ el.length = y.length) := by
      intro i hi
      have hi' := (hall i (by omega)).2
      obtain ⟨a', l', c', hv⟩ : ∃ a' l' c', V i = .slice a' l' c' := by
        rcases open_ints he hq cq hi' with ⟨hcs, _⟩ | ⟨ad', l', c', zs, hcs, _⟩
        · exact ⟨none, 0, 0, by simpa using hcs⟩
        · exact ⟨some ad', l', c', by simpa using hcs⟩
      rw [hv] at hi' ⊢
      obtain ⟨bs, hbl, hr⟩ := bytes_of_open he hq cq hi'
      refine ⟨bs, by rw [← hbl] at hr ⊢; exact hr, ?_⟩
      rcases bytes_datum he hq cq hi' with h | ⟨el, sp, h1, h2⟩
      · exact .inl (by omega)
      · exact .inr ⟨el, sp, h1, by omega⟩
    obtain ⟨Y, hY⟩ := Deep.choose_lt each
    have hget : ∀ (j : Nat) (p : List UInt8), ((List.range len).map Y)[j]? = some p → j < len ∧ p = Y j := by
      intro j p hj
      rw [List.getElem?_map] at hj
      cases hr : (List.range len)[j]? with
      | none => rw [hr] at hj; cases hj
      | some i =>
        rw [hr] at hj
        have h1 := (List.getElem?_eq_some_iff.1 hr).1
        rw [List.length_range] at h1
        rw [List.getElem?_range h1] at hr
        injection hr with hr
        simp only [Option.map_some, Option.some.injEq] at hj
        exact ⟨h1, by rw [← hj, ← hr]⟩
    refine ⟨(List.range len).map Y, by simp, ⟨(List.range len).map V, ⟨by simp, some ad, m, by simp, by simpa using hl, hm, fun h0 => ?_⟩, fun j p hj => ?_⟩, .inr ⟨_, _, by rw [hx], by simp, fun j p hj => ?_⟩⟩
    · have h0' : 0 < len := by
        rcases Nat.eq_zero_or_pos len with h | h
        · subst h; simp at h0
        · exact h
      obtain ⟨b, off, spot⟩ := ad
      have h00 := (hall 0 (by omega)).1
      have hspot : spot = none := by simpa [Addr.add] using World.cell?_spot h00
      subst hspot
      refine ⟨b, off, rfl, fun j u hu => ?_⟩
      rw [List.getElem?_map] at hu
      cases hr : (List.range len)[j]? with
      | none => rw [hr] at hu; cases hu
      | some i =>
        rw [hr] at hu
        have h1 := (List.getElem?_eq_some_iff.1 hr).1
        rw [List.length_range] at h1
        rw [List.getElem?_range h1] at hr
        injection hr with hr
        subst hr
        simp only [Option.map_some, Option.some.injEq] at hu
        have := (hall j (by omega)).1
        rw [Gs.add_plain] at this
        rw [this, hu]
    · obtain ⟨h1, h2⟩ := hget j p hj
      subst h2
      exact ⟨V j, by rw [List.getElem?_map, List.getElem?_range h1]; rfl, (hY j h1).1⟩
    · obtain ⟨h1, h2⟩ := hget j p hj
      subst h2
      rcases (hY j h1).2 with h | ⟨el, sp, h3, h4⟩
      · exact .inl h
      · exact .inr ⟨el, sp, by rw [← h3]; exact List.mem_map.2 ⟨j, List.mem_range.2 h1, rfl⟩, h4⟩
end Go.Proofs.YtfkddfmbgbaefaaGreatDoor
namespace Go.Proofs.YtfkddfmbgbaefaaGreatDoor
open Go.RowKit Go.Gs
set_option linter.unusedVariables false

theorem joinSays_walk (w : World) (hK : KnownE w) (hsh : w.ShapedOpen Tryz.prog) (how : Int) (hhow : -9223372036854775808 ≤ how ∧ how ≤ 9223372036854775807) (k n : Int) (word : List UInt8) (hw : word.length ≤ 9223372036854775807) (hkw : (Lit.int .i64 k).wf = true) (ao : Option Addr) (cap : Nat) (bss : List (List UInt8)) (h1 : RList w (.slice ao bss.length cap) U bss) (hbs : ∀ p ∈ bss, p.length ≤ 1000000000000000) :
    Calls Tryz.prog 6 #[.int .i64 how, .agg #[.int .i64 k, .string ⟨word.toArray⟩, .int .i64 n], .slice ao bss.length cap] w fun e w' => e = .returned (.bool true) ∧ Below w.heap.size w w' := by
  by_cases hj : jchk how ⟨k, word, n⟩ = 0
  · by_cases hm : 5 < bss.length ∨ 4000 < bss.flatten.length
    · refine jsays how k n word ao cap bss w hkw hw h1 hK hsh hbs _ _ _ 2 rfl rfl rfl [] (fun W hJ => ?_) (by rw [if_neg (by simp [hj]), if_pos hm]) (fun _ => rfl) (fun h => by cases h)
      refine (jdo_many how ⟨k, word, n⟩ _ bss W hw hj hJ.2.1 hbs hm).mono ?_
      rintro e w' ⟨rfl, hb⟩
      exact ⟨none, 0, rfl, reads_nil, hb⟩
    · refine jsays how k n word ao cap bss w hkw hw h1 hK hsh hbs _ _ _ 0 rfl rfl rfl (jOut how ⟨k, word, n⟩ bss) (fun W hJ => ?_) (by rw [if_neg (by simp [hj]), if_neg hm]) (fun h => absurd rfl h) (fun _ W hJ => ?_)
      · refine (jdo_ok how ⟨k, word, n⟩ _ bss W hw hj hJ.2.1 (by omega) (by omega) hJ.2.2.1).mono ?_
        rintro e w' ⟨r, rfl, ho, hb⟩
        have hr := Reads.of_owns ho
        obtain ⟨_, ro, rc, rfl, _⟩ := id hr
        exact ⟨ro, rc, rfl, hr, hb⟩
      · have h4 : how = 1 ∨ how = 2 ∨ how = 3 ∨ how = 4 := by
          unfold jchk at hj
          split at hj
          · cases hj
          · omega
        rcases h4 with rfl | rfl | rfl | rfl
        · exact joined_one k n word ao cap bss W hJ.2.1 (by omega) (by omega) hJ.2.2.1 hJ.2.2.2.1
        · exact joined_two k n word ao cap bss W hJ.2.1 (by omega) (by omega) hJ.2.2.1 hJ.2.2.2.1
        · exact joined_three k n word ao cap bss W hJ.2.1 (by omega) (by omega) hJ.2.2.1 hJ.2.2.2.1
        · exact joined_four k n word ao cap bss W (by simpa [jchk] using hj) hJ.2.1 (by omega) (by omega) hJ.2.2.1 hJ.2.2.2.1
  · refine jsays how k n word ao cap bss w hkw hw h1 hK hsh hbs _ _ _ (jchk how ⟨k, word, n⟩) rfl rfl rfl [] (fun W hJ => ?_) (by rw [if_pos hj]) (fun _ => rfl) (fun h => absurd h hj)
    refine (jdo_err how ⟨k, word, n⟩ _ W hw hj).mono ?_
    rintro e w' ⟨rfl, hb⟩
    exact ⟨none, 0, rfl, reads_nil, hb⟩
end Go.Proofs.YtfkddfmbgbaefaaGreatDoor
