/- Nodes in a row of one's own, beside a box of two cells: no walk. -/
import Derived.Test.YtkifihcficobnabGRead
import Derived.Test.YtkifihcficobnabPlanPlain
import Derived.Test.YtkifihcficobnabFOwn
namespace Go.Gs
open Go.RowKit
set_option linter.unusedVariables false

/-- A node and its slice of ports. -/
abbrev NRow := SNode × (Option Addr × Nat)
def encN (x : NRow) : List Value := [.int .i64 x.1.kind, .string ⟨x.1.file.toArray⟩, .int .i64 x.1.c.kind, .string ⟨x.1.c.word.toArray⟩, .int .i64 x.1.c.n, .int .i64 x.1.how, .int .i64 x.1.wide, .slice x.2.1 x.1.ins.length x.2.2]
def nodeCells (out : List NRow) : List Value := (out.map encN).flatten
theorem nodeCells_app (out : List NRow) (r : NRow) : nodeCells (out ++ [r]) = nodeCells out ++ encN r := by simp [nodeCells]
theorem nodeCells_cons (out : List NRow) (r : NRow) : nodeCells (r :: out) = encN r ++ nodeCells out := by simp [nodeCells]
theorem nodeCells_length (out : List NRow) : (nodeCells out).length = out.length * 8 := by
  induction out with
  | nil => rfl
  | cons r l ih =>
    rw [nodeCells_cons, List.length_append, ih]
    simp [encN]
    omega
theorem nodeCells_at : ∀ (out : List NRow) (j : Nat) (r : NRow), out[j]? = some r → ∀ i, i < 8 → (nodeCells out)[j * 8 + i]? = (encN r)[i]?
  | [], j, r, h, i, hi => by simp at h
  | d :: l, 0, r, h, i, hi => by
    simp at h; subst h
    rw [nodeCells_cons, List.getElem?_append_left (by simp [encN]; omega)]
    simp
  | d :: l, j + 1, r, h, i, hi => by
    have ih := nodeCells_at l j r (by simpa using h) i hi
    rw [nodeCells_cons, List.getElem?_append_right (by simp [encN]; omega), show (j + 1) * 8 + i - (encN d).length = j * 8 + i by simp [encN]; omega]
    exact ih
theorem encN_one (r : NRow) : ∀ u ∈ encN r, u.oneCell' = true := by
  intro u hu
  simp [encN] at hu
  rcases hu with rfl | rfl | rfl | rfl | rfl | rfl | rfl | rfl <;> rfl

/-- Blocks that may change: D, go, those of X. -/
def FS (D : Nat) (go : Option Nat) (X : Nat → Prop) (k : Nat) : Prop := k = D ∨ go = some k ∨ X k
/-- No block. -/
def noX (k : Nat) : Prop := False
/-- All other old blocks are as they were. -/
structure Kept (D : Nat) (go : Option Nat) (X : Nat → Prop) (w w' : World) : Prop where
  os : w'.os = w.os
  tape : w'.tape = w.tape
  output : w'.output = w.output
  size : w.heap.size ≤ w'.heap.size
  block : ∀ k, k < w.heap.size → ¬ FS D go X k → w'.heap[k]? = w.heap[k]?
theorem Kept.of_below {D : Nat} {go : Option Nat} {X : Nat → Prop} {w w' : World} (h : Below w.heap.size w w') : Kept D go X w w' := ⟨h.os, h.tape, h.output, h.size, fun k hk _ => h.block k hk⟩
theorem Kept.of_grown {D : Nat} {go x : Option Nat} {X : Nat → Prop} {w w' : World} (h : w.grownBy w' x) (hx : ∀ k, x = some k → FS D go X k) : Kept D go X w w' := ⟨h.os, h.tape, h.output, h.size, fun k hk hn => h.block k hk (fun e => hn (hx k e.symm))⟩
theorem Kept.refl (D : Nat) (go : Option Nat) (X : Nat → Prop) (w : World) : Kept D go X w w := ⟨rfl, rfl, rfl, Nat.le_refl _, fun _ _ _ => rfl⟩
theorem Kept.more {D : Nat} {go : Option Nat} {X X' : Nat → Prop} {w w' : World} (h : Kept D go X w w') (hd : ∀ k, X k → X' k) : Kept D go X' w w' :=
  ⟨h.os, h.tape, h.output, h.size, fun k hk hn => h.block k hk (fun e => hn (by rcases e with e | e | e; exact .inl e; exact .inr (.inl e); exact .inr (.inr (hd k e))))⟩
/-- The row is the same, or a new one. -/
def Nxt (w : World) (go go' : Option Nat) : Prop := go' = go ∨ ∃ g, go' = some g ∧ w.heap.size ≤ g
theorem Nxt.refl (w : World) (go : Option Nat) : Nxt w go go := Or.inl rfl
theorem Nxt.trans {w w1 : World} {go g1 g2 : Option Nat} (h : Nxt w go g1) (k : Nxt w1 g1 g2) (hs : w.heap.size ≤ w1.heap.size) : Nxt w go g2 := by
  rcases k with rfl | ⟨g, e, hg⟩
  · exact h
  · exact Or.inr ⟨g, e, Nat.le_trans hs hg⟩
theorem Nxt.old {w : World} {go go' : Option Nat} (h : Nxt w go go') {k : Nat} (hk : k < w.heap.size) (e : go' = some k) : go = some k := by
  rcases h with rfl | ⟨g, e2, hg⟩
  · exact e
  · rw [e2] at e; injection e with e; omega
/-- Nothing old is new there. -/
def NxtX (w : World) (X X' : Nat → Prop) : Prop := ∀ k, k < w.heap.size → X' k → X k
theorem NxtX.refl (w : World) (X : Nat → Prop) : NxtX w X X := fun _ _ h => h
theorem FS.old {w : World} {D : Nat} {go go' : Option Nat} {X X' : Nat → Prop} (hg : Nxt w go go') (hd : NxtX w X X') {k : Nat} (hk : k < w.heap.size) (h : FS D go' X' k) : FS D go X k := by
  rcases h with e | e | e
  · exact .inl e
  · exact .inr (.inl (hg.old hk e))
  · exact .inr (.inr (hd _ hk e))
theorem Kept.trans {D : Nat} {go g1 : Option Nat} {X X' : Nat → Prop} {w w1 w2 : World} (h : Kept D go X w w1) (k : Kept D g1 X' w1 w2) (hg : Nxt w go g1) (hd : NxtX w X X') : Kept D go X w w2 := by
  refine ⟨k.os.trans h.os, k.tape.trans h.tape, k.output.trans h.output, Nat.le_trans h.size k.size, fun i hi hn => ?_⟩
  rw [k.block i (Nat.lt_of_lt_of_le hi h.size) (fun e => hn (e.old hg hd hi)), h.block i hi hn]
theorem Kept.below {D B : Nat} {go : Option Nat} {X : Nat → Prop} {w w' : World} (h : Kept D go X w w') (hB : B ≤ w.heap.size) (hD : B ≤ D) (hg : ∀ g, go = some g → B ≤ g) (hd : ∀ g, X g → B ≤ g) : Below B w w' :=
  ⟨h.os, h.tape, h.output, h.size, fun k hk => h.block k (by omega) (fun e => by rcases e with e | e | e; omega; (have := hg k e; omega); (have := hd k e; omega))⟩
theorem Kept.set {D : Nat} {go : Option Nat} {X : Nat → Prop} {w w' : World} (h : Kept D go X w w') {a : Addr} {v : Value} (ha : a.block = D) : Kept D go X w (w'.setCell a v) :=
  ⟨h.os, h.tape, h.output, by simpa using h.size, fun k hk hn => (Below.heap_setCell _ _ _ _ (by rw [ha]; exact fun e => hn (.inl e))).trans (h.block k hk hn)⟩

/-- Ports that can be read, in none of these blocks. -/
def POff (w : World) (D : Nat) (go : Option Nat) (X : Nat → Prop) (ao : Option Addr) (cap : Nat) (ps : List (Int × Int)) : Prop := RPorts w (.slice ao ps.length cap) ps ∧ (ps.length ≠ 0 → ∀ a, ao = some a → ¬ FS D go X a.block)
theorem rports_keep {w w' : World} {ao : Option Addr} {cap : Nat} {ps : List (Int × Int)} (h : RPorts w (.slice ao ps.length cap) ps) (hk : ps.length ≠ 0 → ∀ a, ao = some a → a.block < w.heap.size → w'.heap[a.block]? = w.heap[a.block]?) : RPorts w' (.slice ao ps.length cap) ps := by
  obtain ⟨ao', cap', e, h2, h3, h4⟩ := h
  injection e with e1 e2 e3
  subst e1 e3
  refine ⟨ao, cap, rfl, h2, h3, fun hn => ?_⟩
  obtain ⟨b, off, rfl, hc⟩ := h4 hn
  refine ⟨b, off, rfl, fun j p hp => ?_⟩
  obtain ⟨c1, c2⟩ := hc j p hp
  have hlt : b < w.heap.size := World.block_lt_of_cell? w _ c1
  have e := hk hn _ rfl hlt
  simp only [World.cell?] at c1 c2 ⊢
  rw [e]; exact ⟨c1, c2⟩
theorem rports_block {w : World} {a : Addr} {n cap : Nat} {ps : List (Int × Int)} (h : RPorts w (.slice (some a) n cap) ps) (hn : ps.length ≠ 0) : a.block < w.heap.size := by
  obtain ⟨ao', cap', e, h2, h3, h4⟩ := h
  injection e with e1 e2 e3
  subst e1
  obtain ⟨b, off, e4, hc⟩ := h4 hn
  injection e4 with e4
  subst e4
  exact World.block_lt_of_cell? w _ (hc 0 _ (List.getElem?_eq_getElem (by omega))).1
theorem POff.keep {w w' : World} {D : Nat} {go go' : Option Nat} {X X' : Nat → Prop} {ao : Option Addr} {cap : Nat} {ps : List (Int × Int)} (h : POff w D go X ao cap ps) (hk : Kept D go X w w') (hg : Nxt w go go') (hd : NxtX w X X') : POff w' D go' X' ao cap ps := by
  refine ⟨rports_keep h.1 (fun hn a ha hl => hk.block _ hl (h.2 hn a ha)), fun hn a ha hf => h.2 hn a ha ?_⟩
  subst ha
  exact hf.old hg hd (rports_block h.1 hn)
theorem POff.nil (w : World) (D : Nat) (go : Option Nat) (X : Nat → Prop) : POff w D go X none 0 [] := ⟨⟨none, 0, rfl, by simp, by simp [maxLen], fun h => absurd rfl h⟩, fun h => absurd rfl h⟩
/-- Nodes in a row of one's own, their ports in none of these blocks. -/
structure NO (w : World) (B D : Nat) (X : Nat → Prop) (e : TypeId) (v : Value) (rows : List NRow) : Prop where
  own : w.ownsRow B e 8 v rows.length (nodeCells rows)
  good : ∀ r ∈ rows, POff w D v.ownBlock X r.2.1 r.2.2 r.1.ins
  off : v.ownBlock ≠ some D
theorem NO.nil (w : World) (B D : Nat) (X : Nat → Prop) (e : TypeId) : NO w B D X e (.slice none 0 0) [] := ⟨World.ownsRow_nil _ _ _ _, fun r hr => (by cases hr), by simp [Value.ownBlock]⟩
theorem NO.base {w : World} {B D : Nat} {X : Nat → Prop} {e : TypeId} {v : Value} {rows : List NRow} (h : NO w B D X e v rows) : ∀ g, v.ownBlock = some g → B ≤ g ∧ g < w.heap.size := by
  intro g hg
  rcases h.own.2 with ⟨rfl, h0⟩ | ⟨g', cap, cur, rfl, hb, h1, _⟩
  · simp [Value.ownBlock] at hg
  · simp [Value.ownBlock] at hg
    subst hg
    refine ⟨hb, ?_⟩
    rcases Nat.lt_or_ge g' w.heap.size with h2 | h2
    · exact h2
    · rw [Array.getElem?_eq_none h2] at h1; cases h1
theorem NO.form {w : World} {B D : Nat} {X : Nat → Prop} {e : TypeId} {v : Value} {rows : List NRow} (h : NO w B D X e v rows) : ∃ ao cap, v = .slice ao rows.length cap ∧ rows.length ≤ cap ∧ cap ≤ maxLen := by
  rcases h.own.2 with ⟨rfl, h0⟩ | ⟨g, cap, cur, rfl, _, _, h1, h2, _⟩
  · exact ⟨none, 0, by rw [h0], by omega, by simp [maxLen]⟩
  · exact ⟨_, cap, rfl, h1, h2⟩
/-- What leaves that row alone. -/
theorem NO.keep {w w' : World} {B D : Nat} {X X' : Nat → Prop} {e : TypeId} {v : Value} {rows : List NRow} (h : NO w B D X e v rows) (hk : Kept D v.ownBlock X w w') (hv : ∀ g, v.ownBlock = some g → w'.heap[g]? = w.heap[g]?) (hd : NxtX w X X') : NO w' B D X' e v rows := by
  refine ⟨?_, fun r hr => (h.good r hr).keep hk (Nxt.refl _ _) hd, h.off⟩
  refine ⟨h.own.1, ?_⟩
  rcases h.own.2 with ⟨e1, h0⟩ | ⟨g, cap, cur, e1, hb, h1, h2⟩
  · exact Or.inl ⟨e1, h0⟩
  · refine Or.inr ⟨g, cap, cur, e1, hb, ?_, h2⟩
    rw [hv g (by rw [e1]; rfl)]
    exact h1
theorem NO.below {w w' : World} {B D : Nat} {X : Nat → Prop} {e : TypeId} {v : Value} {rows : List NRow} (h : NO w B D X e v rows) (hb : Below w.heap.size w w') : NO w' B D X e v rows :=
  h.keep (Kept.of_below hb) (fun g hg => hb.block g (h.base g hg).2) (NxtX.refl _ _)
theorem NO.set {w : World} {B D : Nat} {X : Nat → Prop} {e : TypeId} {v : Value} {rows : List NRow} (h : NO w B D X e v rows) {a : Addr} {u : Value} (ha : a.block = D) : NO (w.setCell a u) B D X e v rows :=
  h.keep ((Kept.refl _ _ _ _).set ha) (fun g hg => Below.heap_setCell _ _ _ _ (by rw [ha]; intro e2; exact h.off (by rw [hg, e2]))) (NxtX.refl _ _)
theorem NO.app {w w' : World} {B D : Nat} {X : Nat → Prop} {e : TypeId} {v v' : Value} {rows : List NRow} {r : NRow} (h : NO w B D X e v rows) (hr : POff w D v.ownBlock X r.2.1 r.2.2 r.1.ins) (hD : D < w.heap.size)
    (hown : w'.ownsRow B e 8 v' (rows.length + 1) (nodeCells rows ++ encN r)) (hg : w.grownBy w' v.ownBlock) (hl : v'.ownBlock = v.ownBlock ∨ v'.ownBlock = some w.heap.size) : NO w' B D X e v' (rows ++ [r]) ∧ Kept D v.ownBlock noX w w' ∧ Nxt w v.ownBlock v'.ownBlock := by
  have hN : Nxt w v.ownBlock v'.ownBlock := by
    rcases hl with h1 | h1
    · exact Or.inl h1
    · exact Or.inr ⟨_, h1, Nat.le_refl _⟩
  have hk : Kept D v.ownBlock noX w w' := Kept.of_grown hg (fun k e => .inr (.inl e))
  have hk' : Kept D v.ownBlock X w w' := hk.more (fun k e => e.elim)
  refine ⟨⟨by rw [nodeCells_app, List.length_append]; exact hown, fun x hx => ?_, ?_⟩, hk, hN⟩
  · rcases List.mem_append.1 hx with hx | hx
    · exact (h.good x hx).keep hk' hN (NxtX.refl _ _)
    · rw [List.mem_singleton.1 hx]; exact hr.keep hk' hN (NxtX.refl _ _)
  · rcases hl with h1 | h1
    · rw [h1]; exact h.off
    · rw [h1]; intro e2; injection e2 with e2; omega
theorem POff.less {w : World} {D : Nat} {go : Option Nat} {X X' : Nat → Prop} {ao : Option Addr} {cap : Nat} {ps : List (Int × Int)} (h : POff w D go X ao cap ps) (hx : ∀ k, k < w.heap.size → X' k → X k) : POff w D go X' ao cap ps :=
  h.keep (Kept.refl _ _ _ _) (Nxt.refl _ _) hx
theorem NO.less {w : World} {B D : Nat} {X X' : Nat → Prop} {e : TypeId} {v : Value} {rows : List NRow} (h : NO w B D X e v rows) (hx : ∀ k, k < w.heap.size → X' k → X k) : NO w B D X' e v rows :=
  ⟨h.own, fun r hr => (h.good r hr).less hx, h.off⟩
theorem NO.nodes {w : World} {B D : Nat} {X : Nat → Prop} {e : TypeId} {v : Value} {rows : List NRow} (h : NO w B D X e v rows) : RNodes w v (rows.map (·.1)) := by
  have hl : (rows.map (·.1)).length = rows.length := List.length_map _
  rcases h.own.2 with ⟨rfl, h0⟩ | ⟨g, cap, cur, rfl, hb, hg, h1, h2, h3, h4⟩
  · exact ⟨none, 0, by rw [hl, h0], by omega, by simp [maxLen], fun hn => absurd (hl.trans h0) hn⟩
  · refine ⟨_, cap, by rw [hl], by omega, h2, fun _ => ⟨g, 0, rfl, fun j f hj => ?_⟩⟩
    rw [List.getElem?_map] at hj
    cases hr : rows[j]? with
    | none => rw [hr] at hj; cases hj
    | some r =>
      rw [hr] at hj
      simp only [Option.map_some, Option.some.injEq] at hj
      subst hj
      have hjl : j < rows.length := (List.getElem?_eq_some_iff.1 hr).1
      have c : ∀ i, i < 8 → w.cell? ⟨g, j * 8 + i, none⟩ = (encN r)[i]? := fun i hi => by
        have := h.own.cellAt (j * 8 + i) (by omega)
        rw [nodeCells_at rows j r hr i hi] at this
        exact this
      refine ⟨r.2.1, r.2.2, ?_, (h.good r (List.mem_of_getElem? hr)).1⟩
      rw [Nat.zero_add]
      exact ⟨c 0 (by omega), c 1 (by omega), c 2 (by omega), c 3 (by omega), c 4 (by omega), c 5 (by omega), c 6 (by omega), c 7 (by omega)⟩
end Go.Gs
