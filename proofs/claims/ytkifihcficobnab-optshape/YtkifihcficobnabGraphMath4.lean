/- Graphs: every port is taken just if as many are taken as there are. -/
import Derived.Test.YtkifihcficobnabGraphMath3
namespace Go.Gs
open Go.RowKit
set_option linter.unusedVariables false

theorem sub_len {α : Type} [DecidableEq α] : ∀ (t P : List α), t.Nodup → (∀ x ∈ t, x ∈ P) → t.length ≤ P.length
  | [], P, _, _ => Nat.zero_le _
  | x :: r, P, hn, hs => by
    rw [List.nodup_cons] at hn
    have hx : x ∈ P := hs x (by simp)
    have ih := sub_len r (P.erase x) hn.2 (fun y hy => by
      have hne : y ≠ x := fun e => hn.1 (e ▸ hy)
      exact (List.mem_erase_of_ne hne).2 (hs y (by simp [hy])))
    rw [List.length_erase_of_mem hx] at ih
    have : 0 < P.length := List.length_pos_of_mem hx
    simp
    omega
theorem same_len {α : Type} [DecidableEq α] {t P : List α} (ht : t.Nodup) (hP : P.Nodup) (hs : ∀ x ∈ t, x ∈ P) : t.length = P.length ↔ ∀ x ∈ P, x ∈ t := by
  constructor
  · intro h x hx
    exact Decidable.byContradiction fun hc => by
      have := sub_len (x :: t) P (List.nodup_cons.2 ⟨hc, ht⟩) (fun y hy => by rcases List.mem_cons.1 hy with rfl | hy; exact hx; exact hs y hy)
      simp at this
      omega
  · intro h
    have h1 := sub_len t P ht hs
    have h2 := sub_len P t hP h
    omega

/-- All ports of nodes, from number i on. -/
def portsFrom : Nat → List SNode → List (Int × Int)
  | _, [] => []
  | i, n :: r => (List.range (nouts n).toNat).map (fun (k : Nat) => ((i : Int), (k : Int))) ++ portsFrom (i + 1) r
theorem portsFrom_mem : ∀ (ns : List SNode) (i : Nat) (p : Int × Int), p ∈ portsFrom i ns ↔ ∃ (j k : Nat) (n : SNode), ns[j]? = some n ∧ (k : Int) < nouts n ∧ p = (((i + j : Nat) : Int), (k : Int))
  | [], i, p => by simp [portsFrom]
  | m :: r, i, p => by
    unfold portsFrom
    rw [List.mem_append, portsFrom_mem r (i + 1) p]
    constructor
    · rintro (h | ⟨j, k, n, h1, h2, rfl⟩)
      · obtain ⟨k, hk, rfl⟩ := List.mem_map.1 h
        have := List.mem_range.1 hk
        exact ⟨0, k, m, rfl, by omega, by simp⟩
      · exact ⟨j + 1, k, n, by simpa using h1, h2, by congr 2; omega⟩
    · rintro ⟨j, k, n, h1, h2, rfl⟩
      cases j with
      | zero =>
        left
        simp at h1
        subst h1
        exact List.mem_map.2 ⟨k, List.mem_range.2 (by omega), by simp⟩
      | succ j => exact .inr ⟨j, k, n, by simpa using h1, h2, by congr 2; omega⟩
theorem portsFrom_nodup : ∀ (ns : List SNode) (i : Nat), (portsFrom i ns).Nodup
  | [], i => List.nodup_nil
  | m :: r, i => by
    unfold portsFrom
    rw [List.nodup_append]
    refine ⟨?_, portsFrom_nodup r (i + 1), ?_⟩
    · rw [List.nodup_iff_pairwise_ne, List.pairwise_map]
      refine List.Pairwise.imp ?_ (List.nodup_iff_pairwise_ne.1 List.nodup_range)
      intro a b hab e
      injection e with _ e
      exact hab (by omega)
    · intro x hx y hy e
      obtain ⟨k, _, rfl⟩ := List.mem_map.1 hx
      obtain ⟨j, k2, n, _, _, rfl⟩ := (portsFrom_mem r (i + 1) y).1 hy
      injection e with e _
      omega
theorem portsFrom_len : ∀ (ns : List SNode) (i : Nat), (∀ n ∈ ns, 0 ≤ nouts n) → ((portsFrom i ns).length : Int) = allOuts ns
  | [], i, _ => rfl
  | m :: r, i, h => by
    unfold portsFrom allOuts
    rw [List.length_append, List.length_map, List.length_range, List.map_cons, List.sum_cons]
    have ih := portsFrom_len r (i + 1) (fun n hn => h n (by simp [hn]))
    unfold allOuts at ih
    have := h m (by simp)
    omega
theorem portOk_more {a b : List SNode} {p : Int × Int} (h : portOk a p = true) : portOk (a ++ b) p = true := by
  obtain ⟨i, k, n, rfl, hn, hk⟩ := port_nat h
  have hi : i < a.length := (List.getElem?_eq_some_iff.1 hn).1
  unfold portOk
  simp only [Int.toNat_natCast, List.getElem?_append_left hi, hn, Option.map_some, Option.getD_some, Bool.and_eq_true, decide_eq_true_eq]
  refine ⟨⟨⟨by omega, ?_⟩, by omega⟩, hk⟩
  rw [List.length_append]
  omega
/-- What is taken, at the end of a right graph's nodes. -/
theorem taken_all : ∀ (rest ahead : List SNode) (t : List (Int × Int)), (gchkL ahead rest t).1 = 0 → t.Nodup → (∀ p ∈ t, portOk ahead p = true) → (gchkL ahead rest t).2.Nodup ∧ (∀ p ∈ (gchkL ahead rest t).2, portOk (ahead ++ rest) p = true) ∧ ∀ n ∈ rest, nodeChk n = 0
  | [], ahead, t, _, h1, h2 => by
    refine ⟨by simpa [gchkL] using h1, ?_, by intro n hn; cases hn⟩
    intro p hp
    rw [List.append_nil]
    exact h2 p (by simpa [gchkL] using hp)
  | n :: r, ahead, t, h, h1, h2 => by
    obtain ⟨e1, e2, e3, e4⟩ := gchkL_cons h
    obtain ⟨f1, f2, f3⟩ := ins_facts _ _ _ e2
    rw [e4, f1] at h ⊢
    obtain ⟨g1, g2, g3⟩ := taken_all r (ahead ++ [n]) (t ++ n.ins) h (by
      rw [List.nodup_append]
      exact ⟨h1, f3, fun x hx y hy e => (f2 y hy).2 (e ▸ hx)⟩) (by
      intro p hp
      rcases List.mem_append.1 hp with hp | hp
      · exact portOk_more (h2 p hp)
      · exact portOk_more (f2 p hp).1)
    refine ⟨g1, by simpa using g2, ?_⟩
    intro m hm
    rcases List.mem_cons.1 hm with rfl | hm
    · exact e1
    · exact g3 m hm
theorem nouts_nonneg {n : SNode} (h : nodeChk n = 0) : 0 ≤ nouts n := by
  have := nodeMade_count h [] []
  omega
/-- As many are taken as there are, just if each is. -/
theorem taken_iff {ns : List SNode} {t : List (Int × Int)} (h : gchkL [] ns [] = (0, t)) : (t.length : Int) = allOuts ns ↔ ∀ (i k : Nat) (n : SNode), ns[i]? = some n → (k : Int) < nouts n → ((i : Int), (k : Int)) ∈ t := by
  obtain ⟨g1, g2, g3⟩ := taken_all ns [] [] (by rw [h]) List.nodup_nil (by intro p hp; cases hp)
  rw [h] at g1 g2
  simp only [List.nil_append] at g1 g2
  have hl := portsFrom_len ns 0 (fun n hn => nouts_nonneg (g3 n hn))
  have hsub : ∀ p ∈ t, p ∈ portsFrom 0 ns := fun p hp => by
    obtain ⟨i, k, n, rfl, hn, hk⟩ := port_nat (g2 p hp)
    exact (portsFrom_mem ns 0 _).2 ⟨i, k, n, hn, hk, by simp⟩
  have key := same_len g1 (portsFrom_nodup ns 0) hsub
  constructor
  · intro e i k n hn hk
    exact key.1 (by omega) _ ((portsFrom_mem ns 0 _).2 ⟨i, k, n, hn, hk, by simp⟩)
  · intro e
    have := key.2 (fun p hp => by
      obtain ⟨j, k, n, h1, h2, rfl⟩ := (portsFrom_mem ns 0 p).1 hp
      simpa using e j k n h1 h2)
    omega
end Go.Gs
