/- Three short words. -/
import Derived.Below
namespace Go
open Go.RowKit
abbrev Bq (w w':World):Prop:=Below w.heap.size w w'
theorem qH {p:Prop} (h:p):Hid p:=h
theorem qE {a:Type} (x:a):∃z,z=x:=⟨x,rfl⟩
end Go
