/- What the reference's SplitOf does. -/
import Derived.Test.YtkifihcficobnaaDoorRefFns3
import Derived.Test.YtkifihcficobnaaDoorRefFns1
import Derived.Test.YtkifihcficobnaaDoorPartsMath
namespace Go.Proofs.YtkifihcficobnaaDoor
open Go.RowKit Go.Gs
set_option linter.unusedVariables false

/-- A slice that can be read and lies below block B. -/
def ReadsB (B : Nat) (w : World) (v : Value) (n : Nat) (xs : List Value) : Prop :=
  Reads w v n xs ∧ ∀ b off c, v = .slice (some ⟨b, off, none⟩) n c → n ≠ 0 → b < B

theorem ReadsB.mono {B B' : Nat} {w : World} {v : Value} {n : Nat} {xs : List Value} (h : ReadsB B w v n xs) (hB : B ≤ B') : ReadsB B' w v n xs :=
  ⟨h.1, fun b off c e hn => Nat.lt_of_lt_of_le (h.2 b off c e hn) hB⟩

theorem ReadsB.of_reads {w : World} {v : Value} {n : Nat} {xs : List Value} (h : Reads w v n xs) : ReadsB w.heap.size w v n xs := by
  refine ⟨h, fun b off c e hn => ?_⟩
  obtain ⟨hl, ao, cap, e', _, _, h4⟩ := h
  obtain ⟨b', off', rfl, hc⟩ := h4 hn
  rw [e] at e'
  simp only [Value.slice.injEq, Option.some.injEq, Addr.mk.injEq, and_true, true_and] at e'
  obtain ⟨⟨rfl, rfl⟩, rfl⟩ := e'
  have h0 : 0 < xs.length := by omega
  exact World.block_lt_of_cell? w _ (hc 0 xs[0] (by simp [h0]))

theorem ReadsB.grown {B : Nat} {w w' : World} {row : Option Nat} {v : Value} {n : Nat} {xs : List Value} (h : ReadsB B w v n xs) (hg : w.grownBy w' row) (hr : ∀ k, row = some k → B ≤ k) : ReadsB B w' v n xs := by
  refine ⟨?_, h.2⟩
  obtain ⟨⟨hl, ao, cap, rfl, h2, h3, h4⟩, hlow⟩ := h
  refine ⟨hl, ao, cap, rfl, h2, h3, fun hn => ?_⟩
  obtain ⟨b, off, rfl, hc⟩ := h4 hn
  have hb := hlow b off cap rfl hn
  refine ⟨b, off, rfl, fun j u hu => hg.cell (hc j u hu) ?_⟩
  intro e
  have := hr b e.symm
  omega

theorem ReadsB.setCell {B : Nat} {w : World} {v : Value} {n : Nat} {xs : List Value} (h : ReadsB B w v n xs) {a : Addr} {old : Value} (ha : w.cell? a = some old) (x : Value) (hne : old ∉ xs) : ReadsB B (w.setCell a x) v n xs :=
  ⟨h.1.setCell ha x hne, h.2⟩

structure SRel (w : World) (bs : List UInt8) (p G g cap i k : Nat) (wr : World) (B : Nat) (vs : List Value) (vk : Value) : Prop where
  own : wr.ownsRow w.heap.size 22 1 (.slice (some ⟨G, 0, none⟩) p p) p vs
  gB : G < B
  bW : B ≤ wr.heap.size
  done : ∀ j, j < k → ∃ u, vs[j]? = some u ∧ ReadsB B wr u (part bs p j).length ((part bs p j).map U)
  now : vs[k]? = some vk
  row : wr.ownsRow B 5 1 vk (ended (((lines bs).take i).drop (k * (lines bs).length / p))).length ((ended (((lines bs).take i).drop (k * (lines bs).length / p))).map U)
  rest : ∀ j, k < j → j < p → vs[j]? = some (.slice none 0 0)
  src : ReadsB B wr (.slice (some ⟨g, 0, none⟩) (lines bs).length cap) (lines bs).length ((lines bs).map S)
  bel : Below w.heap.size w wr

theorem owns_slice {w : World} {base : Nat} {e : TypeId} {v : Value} {n : Nat} {xs : List Value} (h : w.ownsRow base e 1 v n xs) : ∃ ao cap, v = .slice ao n cap := by
  rcases h.2 with ⟨rfl, rfl⟩ | ⟨g, cap, cur, rfl, _⟩
  · exact ⟨_, _, rfl⟩
  · exact ⟨_, _, rfl⟩

theorem not_U (ao : Option Addr) (n cap : Nat) (l : List UInt8) : Value.slice ao n cap ∉ l.map U := by intro h; simp [U] at h
theorem not_S (ao : Option Addr) (n cap : Nat) (l : List (List UInt8)) : Value.slice ao n cap ∉ l.map S := by intro h; simp [S] at h

theorem ended_next (ls : List (List UInt8)) (i lo : Nat) (h : i < ls.length) (hlo : lo ≤ i) : ended ((ls.take (i + 1)).drop lo) = ended ((ls.take i).drop lo) ++ ls[i] ++ [10] := by
  rw [List.take_succ_eq_append_getElem h, List.drop_append_of_le_length (by simp; omega), ended_append]
  simp [ended]

theorem srel_step {w wr w1 : World} {bs : List UInt8} {p G g cap i k B : Nat} {vs : List Value} {vk v' : Value} (h : SRel w bs p G g cap i k wr B vs vk) (hk : k < p) (hi : i < (lines bs).length) (hlo : k * (lines bs).length / p ≤ i)
    (hown1 : w1.ownsRow B 5 1 v' ((ended (((lines bs).take i).drop (k * (lines bs).length / p))).length + (((lines bs)[i]).length + 1)) ((ended (((lines bs).take i).drop (k * (lines bs).length / p))).map U ++ ((lines bs)[i] ++ [10]).map U)) (hg : wr.grownBy w1 vk.ownBlock) :
    SRel w bs p G g cap (i + 1) k (w1.setCell ⟨G, k, none⟩ v') B (vs.set k v') v' := by
  have hvl : vs.length = p := by simpa using h.own.1
  have hrow : ∀ j, vk.ownBlock = some j → B ≤ j := fun j hj => (h.row.lt j hj).1
  have hGne : some G ≠ vk.ownBlock := fun e => by have := hrow G e.symm; have := h.gB; omega
  have ho1 : w1.ownsRow w.heap.size 22 1 (.slice (some ⟨G, 0, none⟩) p p) p vs := h.own.kept hg (Or.inr hGne)
  have hst := ho1.stored k v'
  have hc1 : w1.cell? ⟨G, k, none⟩ = some vk := (ho1.cellAt k (by omega)).trans h.now
  obtain ⟨ao, cp, hvk⟩ := owns_slice h.row
  rw [hvk] at hc1
  refine ⟨hst.1, h.gB, by have := hg.size; have := h.bW; simp; omega, ?_, by simp [hvl, hk], ?_, ?_, ?_, ?_⟩
  · intro j hj
    obtain ⟨u, h1, h2⟩ := h.done j hj
    exact ⟨u, by rw [List.getElem?_set_ne (by omega)]; exact h1, (h2.grown hg hrow).setCell hc1 _ (not_U _ _ _ _)⟩
  · have := ownsRow_setCell_below hown1 (a := ⟨G, k, none⟩) h.gB v'
    have e := ended_next (lines bs) i (k * (lines bs).length / p) hi hlo
    rw [e]
    simpa [Nat.add_assoc] using this
  · intro j h1 h2
    rw [List.getElem?_set_ne (by omega)]
    exact h.rest j h1 h2
  · exact (h.src.grown hg hrow).setCell hc1 _ (not_S _ _ _ _)
  · exact (h.bel.grown hg h.bel.size (fun j hj => Nat.le_trans (Nat.le_trans (h.own.lt G rfl).1 (Nat.le_of_lt h.gB)) (hrow j hj))).setCell (h.own.lt G rfl).1 _

theorem srel_next {w wr : World} {bs : List UInt8} {p G g cap i k B : Nat} {vs : List Value} {vk : Value} (h : SRel w bs p G g cap i k wr B vs vk) (hk : k + 1 < p) (hi : i = (k + 1) * (lines bs).length / p) :
    SRel w bs p G g cap i (k + 1) wr wr.heap.size vs (.slice none 0 0) := by
  have hGs : G < wr.heap.size := Nat.lt_of_lt_of_le h.gB h.bW
  have hpk : ended (((lines bs).take i).drop (k * (lines bs).length / p)) = part bs p k := by rw [hi]; rfl
  refine ⟨h.own, hGs, Nat.le_refl _, ?_, h.rest (k + 1) (by omega) hk, ?_, fun j h1 h2 => h.rest j (by omega) h2, h.src.mono h.bW, h.bel⟩
  · intro j hj
    by_cases e : j = k
    · subst e
      refine ⟨vk, h.now, ?_⟩
      have := h.row
      rw [hpk] at this
      exact ReadsB.of_reads (Reads.of_owns this)
    · obtain ⟨u, h1, h2⟩ := h.done j (by omega)
      exact ⟨u, h1, h2.mono h.bW⟩
  · have : ((lines bs).take i).drop ((k + 1) * (lines bs).length / p) = [] := by rw [hi]; simp
    rw [this]
    exact World.ownsRow_nil _ _ _ _

theorem srel_end {w wr : World} {bs : List UInt8} {p G g cap k B : Nat} {vs : List Value} {vk : Value} (h : SRel w bs p G g cap (lines bs).length k wr B vs vk) (hk : k < p) (hlast : (lines bs).length = (k + 1) * (lines bs).length / p) :
    Grid wr G 0 ((List.range p).map (part bs p)) := by
  refine ⟨fun j hj => ?_⟩
  have hj' : j < p := by simpa using hj
  have hcell : ∀ u, vs[j]? = some u → wr.cell? ⟨G, 0 + j, none⟩ = some u := fun u hu => by rw [Nat.zero_add]; exact (h.own.cellAt j (by omega)).trans hu
  simp only [List.getElem_map, List.getElem_range]
  by_cases h1 : j < k
  · obtain ⟨u, hu, hr⟩ := h.done j h1
    exact ⟨u, hcell u hu, hr.1⟩
  · by_cases h2 : j = k
    · subst h2
      refine ⟨vk, hcell vk h.now, ?_⟩
      have hr := Reads.of_owns h.row
      have e : ended (((lines bs).take (lines bs).length).drop (j * (lines bs).length / p)) = part bs p j := by
        unfold part
        rw [← hlast]
      rw [e] at hr
      exact hr
    · refine ⟨_, hcell _ (h.rest j (by omega) hj'), ?_⟩
      have hz : part bs p j = [] := by
        apply part_empty bs p j hj'
        intro hn
        have h3 := lo_facts (k + 1) (lines bs).length p (by omega) hn
        omega
      rw [hz]
      exact ⟨rfl, none, 0, rfl, Nat.le_refl _, by simp, fun h => absurd rfl h⟩
end Go.Proofs.YtkifihcficobnaaDoor
