/- What the closed script makes, plainly: no walk. -/
import Derived.Test.YtkifihcficobnabGreatDoorPlainE
namespace Go.Gs
open Go.RowKit
set_option linter.unusedVariables false

def shF : List SFile := [⟨[97], [50, 10, 49]⟩, ⟨[98], [48]⟩]
def shL : List SLine := [⟨[[97], [98], [120]], [⟨6, [], 0⟩], [99]⟩, ⟨[[99]], [⟨8, [], 0⟩], [97]⟩]
theorem shelled_made : runS shF shL = ([⟨[97], [51, 10]⟩, ⟨[98], [48]⟩, ⟨[99], [48, 10, 49, 10, 50, 10]⟩], 0) := by
  have h1 : fchk shF = 0 := by decide
  have h2 : schk shL = 0 := by decide
  have h3 : made ⟨6, [], 0⟩ [[50], [49], [48]] = [[48], [49], [50]] := by
    rw [made6 _ rfl, sorted_unique (sortOf [[50], [49], [48]]) [[48], [49], [50]] ((sortOf_perm _).trans (by decide)) (sortOf_sorted _) (by decide)]
  have h4 : made ⟨8, [], 0⟩ [[48], [49], [50]] = [[51]] := by
    rw [made8 _ rfl]
    show [Lib.itoa 3] = _
    unfold Lib.itoa
    rw [if_neg (by decide), show (3 : Int).toNat = 3 from rfl, Lib.decDigits, dif_pos (by decide)]
    rfl
  unfold runS
  rw [if_pos h1, if_pos h2]
  have e1 : lineOf shF ⟨[[97], [98], [120]], [⟨6, [], 0⟩], [99]⟩ = ([48, 10, 49, 10, 50, 10], 0) := by
    have g : gather shF [[97], [98], [120]] = ([50, 10, 49, 10, 48, 10], 0) := by decide
    unfold lineOf
    rw [g]
    simp only [if_true]
    have l : lines [50, 10, 49, 10, 48, 10] = [[50], [49], [48]] := by decide
    unfold doAll
    simp only [List.foldl_cons, List.foldl_nil]
    rw [l, h3]
    rfl
  have p1 : putS shF [99] [48, 10, 49, 10, 50, 10] = ([⟨[97], [50, 10, 49]⟩, ⟨[98], [48]⟩, ⟨[99], [48, 10, 49, 10, 50, 10]⟩], 0) := by
    rfl
  have e2 : lineOf [⟨[97], [50, 10, 49]⟩, ⟨[98], [48]⟩, ⟨[99], [48, 10, 49, 10, 50, 10]⟩] ⟨[[99]], [⟨8, [], 0⟩], [97]⟩ = ([51, 10], 0) := by
    have g : gather [⟨[97], [50, 10, 49]⟩, ⟨[98], [48]⟩, ⟨[99], [48, 10, 49, 10, 50, 10]⟩] [[99]] = ([48, 10, 49, 10, 50, 10], 0) := by decide
    unfold lineOf
    rw [g]
    simp only [if_true]
    have l : lines [48, 10, 49, 10, 50, 10] = [[48], [49], [50]] := by decide
    unfold doAll
    simp only [List.foldl_cons, List.foldl_nil]
    rw [l, h4]
    rfl
  have p2 : putS [⟨[97], [50, 10, 49]⟩, ⟨[98], [48]⟩, ⟨[99], [48, 10, 49, 10, 50, 10]⟩] [97] [51, 10] = ([⟨[97], [51, 10]⟩, ⟨[98], [48]⟩, ⟨[99], [48, 10, 49, 10, 50, 10]⟩], 0) := by
    rfl
  unfold shL
  rw [runL]
  simp only [e1, p1, if_true]
  rw [runL]
  simp only [e2, p2, if_true]
  rw [runL]
end Go.Gs
