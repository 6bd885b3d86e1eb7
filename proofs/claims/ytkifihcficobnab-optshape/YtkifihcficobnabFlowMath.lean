/- The closed graph of the laws, plainly. -/
import Derived.Test.YtkifihcficobnabGraphMath3
namespace Go.Gs
open Go.RowKit
set_option linter.unusedVariables false

def noC : Cmd := ⟨0, [], 0⟩
/-- That graph. -/
def sorterNs : List SNode := [⟨1, [97], noC, 0, 0, []⟩, ⟨2, [], noC, 0, 2, [(0, 0)]⟩, ⟨3, [], ⟨6, [], 0⟩, 0, 0, [(1, 0)]⟩, ⟨3, [], ⟨6, [], 0⟩, 0, 0, [(1, 1)]⟩, ⟨4, [], noC, 2, 0, [(2, 0), (3, 0)]⟩, ⟨5, [98], noC, 0, 0, [(4, 0)]⟩]
def flowFs : List SFile := [⟨[97], [51, 10, 49, 10, 50, 10, 48]⟩]
theorem sorter_right : gchk sorterNs = 0 := by decide
theorem sorter_short : gchk (sorterNs.take 5) = 4 := by decide
theorem flow_files : fchk flowFs = 0 := by decide
theorem flow_sort1 : made ⟨6, [], 0⟩ [[51], [49]] = [[49], [51]] := by
  rw [made6 _ rfl, sorted_unique (sortOf [[51], [49]]) [[49], [51]] ((sortOf_perm _).trans (by decide)) (sortOf_sorted _) (by decide)]
theorem flow_sort2 : made ⟨6, [], 0⟩ [[50], [48]] = [[48], [50]] := by
  rw [made6 _ rfl, sorted_unique (sortOf [[50], [48]]) [[48], [50]] ((sortOf_perm _).trans (by decide)) (sortOf_sorted _) (by decide)]
theorem flow_outs : outsL flowFs [] sorterNs = [[[51, 10, 49, 10, 50, 10, 48, 10]], [[51, 10, 49, 10], [50, 10, 48, 10]], [[49, 10, 51, 10]], [[48, 10, 50, 10]], [[48, 10, 49, 10, 50, 10, 51, 10]], []] := by
  have n0 : nodeMade ⟨1, [97], noC, 0, 0, []⟩ flowFs [] = [[51, 10, 49, 10, 50, 10, 48, 10]] := by decide
  have n1 : nodeMade ⟨2, [], noC, 0, 2, [(0, 0)]⟩ flowFs [[51, 10, 49, 10, 50, 10, 48, 10]] = [[51, 10, 49, 10], [50, 10, 48, 10]] := by decide
  have n2 : nodeMade ⟨3, [], ⟨6, [], 0⟩, 0, 0, [(1, 0)]⟩ flowFs [[51, 10, 49, 10]] = [[49, 10, 51, 10]] := by
    have l : lines [51, 10, 49, 10] = [[51], [49]] := by decide
    show [ended (made ⟨6, [], 0⟩ (lines [51, 10, 49, 10]))] = _
    rw [l, flow_sort1]
    rfl
  have n3 : nodeMade ⟨3, [], ⟨6, [], 0⟩, 0, 0, [(1, 1)]⟩ flowFs [[50, 10, 48, 10]] = [[48, 10, 50, 10]] := by
    have l : lines [50, 10, 48, 10] = [[50], [48]] := by decide
    show [ended (made ⟨6, [], 0⟩ (lines [50, 10, 48, 10]))] = _
    rw [l, flow_sort2]
    rfl
  have n4 : nodeMade ⟨4, [], noC, 2, 0, [(2, 0), (3, 0)]⟩ flowFs [[49, 10, 51, 10], [48, 10, 50, 10]] = [[48, 10, 49, 10, 50, 10, 51, 10]] := by decide
  have n5 : nodeMade ⟨5, [98], noC, 0, 0, [(4, 0)]⟩ flowFs [[48, 10, 49, 10, 50, 10, 51, 10]] = [] := by decide
  unfold sorterNs
  rw [outsL]
  rw [show nodeMade ⟨1, [97], noC, 0, 0, []⟩ flowFs (List.map (portAt []) (SNode.ins ⟨1, [97], noC, 0, 0, []⟩)) = _ from n0, outsL]
  rw [show nodeMade ⟨2, [], noC, 0, 2, [(0, 0)]⟩ flowFs (List.map (portAt ([] ++ [[[51, 10, 49, 10, 50, 10, 48, 10]]])) (SNode.ins ⟨2, [], noC, 0, 2, [(0, 0)]⟩)) = _ from n1, outsL]
  rw [show nodeMade ⟨3, [], ⟨6, [], 0⟩, 0, 0, [(1, 0)]⟩ flowFs (List.map (portAt ([] ++ [[[51, 10, 49, 10, 50, 10, 48, 10]]] ++ [[[51, 10, 49, 10], [50, 10, 48, 10]]])) (SNode.ins ⟨3, [], ⟨6, [], 0⟩, 0, 0, [(1, 0)]⟩)) = _ from n2, outsL]
  rw [show nodeMade ⟨3, [], ⟨6, [], 0⟩, 0, 0, [(1, 1)]⟩ flowFs (List.map (portAt ([] ++ [[[51, 10, 49, 10, 50, 10, 48, 10]]] ++ [[[51, 10, 49, 10], [50, 10, 48, 10]]] ++ [[[49, 10, 51, 10]]])) (SNode.ins ⟨3, [], ⟨6, [], 0⟩, 0, 0, [(1, 1)]⟩)) = _ from n3, outsL]
  rw [show nodeMade ⟨4, [], noC, 2, 0, [(2, 0), (3, 0)]⟩ flowFs (List.map (portAt ([] ++ [[[51, 10, 49, 10, 50, 10, 48, 10]]] ++ [[[51, 10, 49, 10], [50, 10, 48, 10]]] ++ [[[49, 10, 51, 10]]] ++ [[[48, 10, 50, 10]]])) (SNode.ins ⟨4, [], noC, 2, 0, [(2, 0), (3, 0)]⟩)) = _ from n4, outsL]
  rw [show nodeMade ⟨5, [98], noC, 0, 0, [(4, 0)]⟩ flowFs (List.map (portAt ([] ++ [[[51, 10, 49, 10, 50, 10, 48, 10]]] ++ [[[51, 10, 49, 10], [50, 10, 48, 10]]] ++ [[[49, 10, 51, 10]]] ++ [[[48, 10, 50, 10]]] ++ [[[48, 10, 49, 10, 50, 10, 51, 10]]])) (SNode.ins ⟨5, [98], noC, 0, 0, [(4, 0)]⟩)) = _ from n5, outsL]
  rfl
theorem flow_made : evalS sorterNs flowFs = ([48, 10, 49, 10, 50, 10, 51, 10], 0) := by
  rw [evalS_ok sorter_right flow_files, sunk_last (n := ⟨5, [98], noC, 0, 0, [(4, 0)]⟩) rfl, flow_outs]
  rfl
end Go.Gs
