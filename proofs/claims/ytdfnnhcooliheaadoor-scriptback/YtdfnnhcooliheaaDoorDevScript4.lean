/- What the developers' parsed does: the world's side. -/
import Derived.Test.YtdfnnhcooliheaaDoorDevScript3
import Derived.Test.YtdfnnhcooliheaaDoorSRead
import Derived.Laws.AppendOwn
namespace Go.Proofs.YtdfnnhcooliheaaDoor
open Go.RowKit Go.Gs
set_option linter.unusedVariables false

/-- A slice's row lies from B on. -/
def New (B : Nat) (v : Value) : Prop := ∀ a n c, v = .slice (some a) n c → B ≤ a.block
/-- A slice's row lies below B, and is not p. -/
def Lies (B p : Nat) (v : Value) : Prop := ∀ a n c, v = .slice (some a) n c → a.block < B ∧ a.block ≠ p
theorem cell_keep {w w' : World} {b i : Nat} (h : w'.heap[b]? = w.heap[b]?) : w'.cell? ⟨b, i, none⟩ = w.cell? ⟨b, i, none⟩ := by
  simp only [World.cell?, h]
theorem reads_keep {w w' : World} {v : Value} {n : Nat} {xs : List Value} (h : Reads w v n xs) (hk : ∀ a n c, v = .slice (some a) n c → w'.heap[a.block]? = w.heap[a.block]?) : Reads w' v n xs := by
  obtain ⟨h1, ao, cap, rfl, h2, h3, h4⟩ := h
  refine ⟨h1, ao, cap, rfl, h2, h3, fun hn => ?_⟩
  obtain ⟨b, off, rfl, hc⟩ := h4 hn
  exact ⟨b, off, rfl, fun j u hu => (cell_keep (hk _ _ _ rfl)).trans (hc j u hu)⟩
theorem rcmds_keep {w w' : World} {v : Value} {cs : List Cmd} (h : RCmds w v cs) (hk : ∀ a n c, v = .slice (some a) n c → w'.heap[a.block]? = w.heap[a.block]?) : RCmds w' v cs := by
  obtain ⟨ao, cap, rfl, h2, h3, h4⟩ := h
  refine ⟨ao, cap, rfl, h2, h3, fun hn => ?_⟩
  obtain ⟨b, off, rfl, hc⟩ := h4 hn
  refine ⟨b, off, rfl, fun j c hj => ?_⟩
  obtain ⟨a1, a2, a3⟩ := hc j c hj
  exact ⟨(cell_keep (hk _ _ _ rfl)).trans a1, (cell_keep (hk _ _ _ rfl)).trans a2, (cell_keep (hk _ _ _ rfl)).trans a3⟩

def cmdCells (cs : List Cmd) : List Value := (cs.map fun c => [Value.int .i64 c.kind, .string ⟨c.word.toArray⟩, .int .i64 c.n]).flatten
theorem cmdCells_app (cs : List Cmd) (c : Cmd) : cmdCells (cs ++ [c]) = cmdCells cs ++ [Value.int .i64 c.kind, .string ⟨c.word.toArray⟩, .int .i64 c.n] := by simp [cmdCells]
theorem cmdCells_length (cs : List Cmd) : (cmdCells cs).length = cs.length * 3 := by
  induction cs with
  | nil => rfl
  | cons c r ih =>
    have : cmdCells (c :: r) = [Value.int .i64 c.kind, .string ⟨c.word.toArray⟩, .int .i64 c.n] ++ cmdCells r := by simp [cmdCells]
    rw [this, List.length_append, ih]
    simp
    omega
theorem cmdCells_at : ∀ (cs : List Cmd) (j : Nat) (c : Cmd), cs[j]? = some c → (cmdCells cs)[j * 3]? = some (.int .i64 c.kind) ∧ (cmdCells cs)[j * 3 + 1]? = some (.string ⟨c.word.toArray⟩) ∧ (cmdCells cs)[j * 3 + 2]? = some (.int .i64 c.n)
  | [], j, c, h => by simp at h
  | d :: r, 0, c, h => by
    simp at h; subst h
    simp [cmdCells]
  | d :: r, j + 1, c, h => by
    have e : cmdCells (d :: r) = [Value.int .i64 d.kind, .string ⟨d.word.toArray⟩, .int .i64 d.n] ++ cmdCells r := by simp [cmdCells]
    have ih := cmdCells_at r j c (by simpa using h)
    rw [e]
    refine ⟨?_, ?_, ?_⟩
    · rw [List.getElem?_append_right (by simp; omega)]
      rw [show (j + 1) * 3 - [Value.int .i64 d.kind, .string ⟨d.word.toArray⟩, .int .i64 d.n].length = j * 3 by simp; omega]
      exact ih.1
    · rw [List.getElem?_append_right (by simp; omega)]
      rw [show (j + 1) * 3 + 1 - [Value.int .i64 d.kind, .string ⟨d.word.toArray⟩, .int .i64 d.n].length = j * 3 + 1 by simp; omega]
      exact ih.2.1
    · rw [List.getElem?_append_right (by simp; omega)]
      rw [show (j + 1) * 3 + 2 - [Value.int .i64 d.kind, .string ⟨d.word.toArray⟩, .int .i64 d.n].length = j * 3 + 2 by simp; omega]
      exact ih.2.2
theorem adds {g j : Nat} : (⟨g, 0, none⟩ : Addr).add j = ⟨g, 0 + j, none⟩ := by unfold Addr.add; split <;> simp_all
theorem rcmds_of_owns {w : World} {B : Nat} {e : TypeId} {v : Value} {cs : List Cmd} (h : w.ownsRow B e 3 v cs.length (cmdCells cs)) : RCmds w v cs := by
  rcases h.2 with ⟨rfl, h0⟩ | ⟨g, cap, cur, rfl, hb, hg, h1, h2, h3, h4⟩
  · exact ⟨none, 0, by rw [h0], by omega, by simp [maxLen], fun hn => absurd h0 hn⟩
  · refine ⟨_, cap, rfl, h1, h2, fun _ => ⟨g, 0, rfl, fun j c hj => ?_⟩⟩
    obtain ⟨a1, a2, a3⟩ := cmdCells_at cs j c hj
    have e1 := h.cells (g := g) rfl _ _ a1
    have e2 := h.cells (g := g) rfl _ _ a2
    have e3 := h.cells (g := g) rfl _ _ a3
    rw [adds] at e1 e2 e3
    refine ⟨e1, ?_, ?_⟩
    · rw [Nat.add_assoc]; exact e2
    · rw [Nat.add_assoc]; exact e3
theorem new_of_owns {w : World} {B : Nat} {e : TypeId} {size : Nat} {v : Value} {n : Nat} {xs : List Value} (h : w.ownsRow B e size v n xs) : New B v := by
  rcases h.2 with ⟨rfl, h0⟩ | ⟨g, cap, cur, rfl, hb, _⟩
  · intro a n c e; cases e
  · intro a n c e
    injection e with e1 e2 e3
    injection e1 with e1
    subst e1
    exact hb

theorem owns_below' {w w' : World} {base : Nat} {e : TypeId} {size : Nat} {v : Value} {n : Nat} {xs : List Value} (h : w.ownsRow base e size v n xs) (hb : Below w.heap.size w w') : w'.ownsRow base e size v n xs :=
  h.kept (row := none) ⟨hb.os, hb.tape, hb.output, hb.size, fun k hk _ => hb.block k hk⟩ (by cases hv : v.ownBlock <;> simp)
theorem owns_setCell {w : World} {base : Nat} {e : TypeId} {size : Nat} {v : Value} {n : Nat} {xs : List Value} (h : w.ownsRow base e size v n xs) {p i : Nat} {u : Value} (hp : p < base) : (w.setCell ⟨p, i, none⟩ u).ownsRow base e size v n xs := by
  refine ⟨h.1, ?_⟩
  rcases h.2 with h0 | ⟨g, cap, cur, h1, h2, h3, h4⟩
  · exact .inl h0
  · exact .inr ⟨g, cap, cur, h1, h2, by rw [Below.heap_setCell _ _ _ _ (by show g ≠ p; omega)]; exact h3, h4⟩
theorem setCell_box {w : World} {p : Nat} {a b b' c : Value} {t : TypeId} (h : w.heap[p]? = some (.cells #[a, b, c] t (0, 0))) : (w.setCell ⟨p, 1, none⟩ b').heap[p]? = some (.cells #[a, b', c] t (0, 0)) := by
  simp only [World.setCell, Array.getElem?_modify, if_true, h, Option.map_some]
  rfl

/-- What the loop of parsed stands on. -/
structure PS (w wr : World) (B p : Nat) (vp vf vd : Value) (ps fr : List (List UInt8)) (cs : List Cmd) (tx : ByteArray) : Prop where
  box : wr.heap[p]? = some (.cells #[vf, vd, .string tx] 78 (0, 0))
  own : wr.ownsRow B 43 3 vd cs.length (cmdCells cs)
  wp : w.heap.size ≤ p
  pB : p < B
  Bs : B ≤ wr.heap.size
  bel : Below w.heap.size w wr
  parts : Reads wr vp ps.length (ps.map S)
  from_ : Reads wr vf fr.length (fr.map S)
  lp : Lies B p vp
  lf : Lies B p vf
theorem PS.below {w wr w' : World} {B p : Nat} {vp vf vd : Value} {ps fr : List (List UInt8)} {cs : List Cmd} {tx : ByteArray} (h : PS w wr B p vp vf vd ps fr cs tx) (hb : Below wr.heap.size wr w') : PS w w' B p vp vf vd ps fr cs tx :=
  ⟨(hb.block _ (by have := h.pB; have := h.Bs; omega)).trans h.box, (owns_below' h.own hb), h.wp, h.pB, Nat.le_trans h.Bs hb.size, h.bel.trans (hb.mono h.bel.size), h.parts.below hb, h.from_.below hb, h.lp, h.lf⟩
theorem PS.app {w wr w1 : World} {o : Obj} {B p : Nat} {vp vf vd v' : Value} {ps fr : List (List UInt8)} {cs : List Cmd} {tx : ByteArray} (h : PS w wr B p vp vf vd ps fr cs tx) (c : Cmd)
    (hown : w1.ownsRow B 43 3 v' (cs.length + 1) (cmdCells cs ++ [Value.int .i64 c.kind, .string ⟨c.word.toArray⟩, .int .i64 c.n])) (hg : (wr.alloc o).grownBy w1 vd.ownBlock) :
    PS w (w1.setCell ⟨p, 1, none⟩ v') B p vp vf v' ps fr (cs ++ [c]) tx := by
  have hBs := h.Bs
  have hpB := h.pB
  have hwp := h.wp
  have hlt : ∀ k, vd.ownBlock = some k → B ≤ k := fun k hk => (h.own.lt k hk).1
  have hold : ∀ k, k < B → k ≠ p → (w1.setCell ⟨p, 1, none⟩ v').heap[k]? = wr.heap[k]? := by
    intro k hk hkp
    rw [Below.heap_setCell _ _ _ _ (by exact hkp)]
    rw [hg.block k (by simp; omega) (fun e => by have := hlt k e.symm; omega)]
    exact Below.heap_alloc _ _ _ (by omega)
  have hbox1 : w1.heap[p]? = some (.cells #[vf, vd, .string tx] 78 (0, 0)) := by
    rw [hg.block p (by simp; omega) (fun e => by have := hlt p e.symm; omega)]
    exact (Below.heap_alloc _ _ _ (by omega)).trans h.box
  refine ⟨?_, ?_, hwp, hpB, ?_, ?_, ?_, ?_, h.lp, h.lf⟩
  · exact setCell_box hbox1
  · have e : (cs ++ [c]).length = cs.length + 1 := by simp
    rw [e, cmdCells_app]
    exact owns_setCell hown (by omega)
  · have := hg.size
    simp [World.setCell] at this ⊢
    omega
  · exact ((h.bel.alloc (by have := h.bel.size; omega) o).grown hg (by have := h.bel.size; simp; omega) (fun k hk => by have := hlt k hk; omega)).setCell (p := ⟨p, 1, none⟩) hwp _
  · exact reads_keep h.parts (fun a n c e => hold _ (h.lp a n c e).1 (h.lp a n c e).2)
  · exact reads_keep h.from_ (fun a n c e => hold _ (h.lf a n c e).1 (h.lf a n c e).2)
theorem box_old {w wr : World} {o : Obj} {B p : Nat} {vp vf vd : Value} {ps fr : List (List UInt8)} {cs : List Cmd} {tx : ByteArray} (h : PS w wr B p vp vf vd ps fr cs tx) : (wr.alloc o).heap[p]? = some (.cells #[vf, vd, .string tx] 78 (0, 0)) :=
  (Below.heap_alloc _ _ _ (by have := h.pB; have := h.Bs; omega)).trans h.box
theorem PS.box1 {w wr w1 : World} {o : Obj} {B p : Nat} {vp vf vd : Value} {ps fr : List (List UInt8)} {cs : List Cmd} {tx : ByteArray} (h : PS w wr B p vp vf vd ps fr cs tx) (hg : (wr.alloc o).grownBy w1 vd.ownBlock) : w1.heap[p]? = some (.cells #[vf, vd, .string tx] 78 (0, 0)) := by
  have hBs := h.Bs
  have hpB := h.pB
  rw [hg.block p (by simp; omega) (fun e => by have := (h.own.lt p e.symm).1; omega)]
  exact box_old h
theorem PS.fin {w wr : World} {B p1 g2 m : Nat} {vp : Value} {ad : Option Addr} {nd cd : Nat} {ps fr : List (List UInt8)} {cs : List Cmd} {tt : List UInt8} {tx : ByteArray} {u0 u1 u2 : Value} (h : PS w wr B w.heap.size vp (.slice (some ⟨g2, 0, none⟩) m m) (.slice ad nd cd) ps fr cs tx)
    (hm : m = fr.length) (hnd : nd = cs.length) (hfc : FitsC cs) (hfr : ∀ s ∈ fr, s.length ≤ 9223372036854775807) (htt : tt.length ≤ 100000) (h1 : w.heap.size < p1) (h2 : p1 < g2) :
    Reads (((wr.setCell ⟨w.heap.size, 0, none⟩ u0).setCell ⟨w.heap.size, 1, none⟩ u1).setCell ⟨w.heap.size, 2, none⟩ u2) (.slice (some ⟨g2, 0, none⟩) m m) (⟨fr, cs, tt⟩ : SLine).fr.length ((⟨fr, cs, tt⟩ : SLine).fr.map S) ∧ RCmds (((wr.setCell ⟨w.heap.size, 0, none⟩ u0).setCell ⟨w.heap.size, 1, none⟩ u1).setCell ⟨w.heap.size, 2, none⟩ u2) (.slice ad nd cd) (⟨fr, cs, tt⟩ : SLine).cs ∧ FitsL ⟨fr, cs, tt⟩ ∧ New w.heap.size (.slice (some ⟨g2, 0, none⟩) m m) ∧ New w.heap.size (.slice ad nd cd) := by
  have hold : ∀ k, k ≠ w.heap.size → (((wr.setCell ⟨w.heap.size, 0, none⟩ u0).setCell ⟨w.heap.size, 1, none⟩ u1).setCell ⟨w.heap.size, 2, none⟩ u2).heap[k]? = wr.heap[k]? := by
    intro k hk
    rw [Below.heap_setCell _ _ _ _ (by exact hk), Below.heap_setCell _ _ _ _ (by exact hk), Below.heap_setCell _ _ _ _ (by exact hk)]
  have hpB := h.pB
  refine ⟨reads_keep h.from_ (fun a n c e => hold _ (h.lf a n c e).2), rcmds_keep (rcmds_of_owns h.own) (fun a n c e => ?_), ⟨hfr, hfc, by show tt.length ≤ _; omega⟩, fun a n c e => ?_, fun a n c e => ?_⟩
  · have := new_of_owns h.own a n c e
    exact hold _ (by omega)
  · injection e with e1 e2 e3
    injection e1 with e1
    subst e1
    show _ ≤ g2
    omega
  · have := new_of_owns h.own a n c e
    omega
theorem PS.start {w w3 : World} {g1 g2 : Nat} {n m : Nat} {ps fr : List (List UInt8)} {tx : ByteArray} {a b c : Value} (hb : Below w.heap.size w w3) (hbox : w3.heap[w.heap.size]? = some (.cells #[a, b, c] 78 (0, 0)))
    (hp : Reads w3 (.slice (some ⟨g1, 0, none⟩) n n) ps.length (ps.map S)) (hf : Reads w3 (.slice (some ⟨g2, 0, none⟩) m m) fr.length (fr.map S)) (h1 : w.heap.size < g1) (h2 : g1 < g2) (h3 : g2 < w3.heap.size) :
    PS w (((w3.setCell ⟨w.heap.size, 0, none⟩ (.slice (some ⟨g2, 0, none⟩) m m)).setCell ⟨w.heap.size, 1, none⟩ (.slice none 0 0)).setCell ⟨w.heap.size, 2, none⟩ (.string tx)) w3.heap.size w.heap.size (.slice (some ⟨g1, 0, none⟩) n n) (.slice (some ⟨g2, 0, none⟩) m m) (.slice none 0 0) ps fr [] tx := by
  have hold : ∀ k, k ≠ w.heap.size → (((w3.setCell ⟨w.heap.size, 0, none⟩ (.slice (some ⟨g2, 0, none⟩) m m)).setCell ⟨w.heap.size, 1, none⟩ (.slice none 0 0)).setCell ⟨w.heap.size, 2, none⟩ (.string tx)).heap[k]? = w3.heap[k]? := by
    intro k hk
    rw [Below.heap_setCell _ _ _ _ (by exact hk), Below.heap_setCell _ _ _ _ (by exact hk), Below.heap_setCell _ _ _ _ (by exact hk)]
  refine ⟨?_, World.ownsRow_nil _ _ _ _, Nat.le_refl _, by omega, by simp [World.setCell], below_set3 hb (Nat.le_refl _) _ _ _, ?_, ?_, ?_, ?_⟩
  · simp only [World.setCell, Array.getElem?_modify, if_true, hbox, Option.map_some]
    rfl
  · refine reads_keep hp (fun a n c e => ?_)
    injection e with e1 e2 e3
    injection e1 with e1
    subst e1
    exact hold _ (by show g1 ≠ _; omega)
  · refine reads_keep hf (fun a n c e => ?_)
    injection e with e1 e2 e3
    injection e1 with e1
    subst e1
    exact hold _ (by show g2 ≠ _; omega)
  · intro a n c e
    injection e with e1 e2 e3
    injection e1 with e1
    subst e1
    exact ⟨by show g1 < _; omega, by show g1 ≠ _; omega⟩
  · intro a n c e
    injection e with e1 e2 e3
    injection e1 with e1
    subst e1
    exact ⟨by show g2 < _; omega, by show g2 ≠ _; omega⟩
end Go.Proofs.YtdfnnhcooliheaaDoor
