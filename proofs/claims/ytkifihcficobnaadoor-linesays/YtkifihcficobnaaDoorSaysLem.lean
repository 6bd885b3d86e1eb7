/- The walks of gangsawlaw.LineSays. -/
import Derived.Test.YtkifihcficobnaaDoorRefSplitOf
import Derived.Test.YtkifihcficobnaaDoorEqual
import Derived.Test.YtkifihcficobnaaDoorLined
namespace Go.Proofs.YtkifihcficobnaaDoor
open Go.RowKit Go.Gs
set_option linter.unusedVariables false

theorem equal_same (v1 v2 : Value) (ls ms : List (List UInt8)) (w : World) (h1 : Reads w v1 ls.length (ls.map S)) (h2 : Reads w v2 ms.length (ms.map S)) (h : ls = ms) :
    Calls Tryd.prog 13 #[v1, v2] w fun e w' => e = .returned (.bool true) ∧ Below w.heap.size w w' := by
  refine (equal_str v1 v2 ls ms w h1 h2).mono ?_
  rintro e w' ⟨rfl, q, rfl⟩
  exact ⟨by simp [h], ⟨rfl, rfl, rfl, Nat.le_refl _, fun _ _ => rfl⟩⟩

theorem grid_of {bs : List UInt8} {p G cG base : Nat} {w : World} {vs : List Value} (hown : w.ownsRow base 22 1 (.slice (some ⟨G, 0, none⟩) p cG) p vs) (h : ∀ k, k < p → ∃ u, vs[k]? = some u ∧ Reads w u (part bs p k).length ((part bs p k).map U)) : Grid w G 0 ((List.range p).map (part bs p)) := by
  refine ⟨fun k hk => ?_⟩
  have hk' : k < p := by simpa using hk
  obtain ⟨u, h1, h2⟩ := h k hk'
  simp only [List.getElem_map, List.getElem_range]
  exact ⟨u, by rw [Nat.zero_add]; exact (hown.cellAt k (by omega)).trans h1, h2⟩

theorem lists_sameP (G1 o1 c1 G2 o2 c2 : Nat) (ps : List (List UInt8)) (n : Nat) (hn : ps.length = n) (w : World) (h0 : 0 < n) (hm : n ≤ 1000) (g1 : Grid w G1 o1 ps) (g2 : Grid w G2 o2 ps) :
    Calls Tryd.prog 15 #[.slice (some ⟨G1, o1, none⟩) n c1, .slice (some ⟨G2, o2, none⟩) n c2] w fun e w' => e = .returned (.bool true) ∧ Below w.heap.size w w' := by
  subst hn
  exact lists_same G1 o1 c1 G2 o2 c2 ps w h0 hm g1 g2

end Go.Proofs.YtkifihcficobnaaDoor
