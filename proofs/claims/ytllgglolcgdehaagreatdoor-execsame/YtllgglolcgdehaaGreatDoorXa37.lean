/- What flows through the closed graph of the laws. -/
import Derived.Test.YtllgglolcgdehaaGreatDoorXa36
import Derived.Test.YtllgglolcgdehaaGreatDoorXa35
namespace Go.Proofs.YtllgglolcgdehaaGreatDoor
open Go.RowKit Go.Gs
set_option linter.unusedVariables false
theorem sorter_fits:∀n∈sorterNs,FitsN n:=by
 intro n hn
 simp[sorterNs] at hn
 rcases hn with rfl | rfl | rfl | rfl | rfl | rfl <;> (refine⟨by decide,by decide,?_⟩;intro p hp;simp at hp;first | (subst hp;exact⟨by decide,by decide⟩) | (rcases hp with rfl | rfl <;> exact⟨by decide,by decide⟩) | skip)
theorem flow_fits:∀f∈flowFs,FitsF f:=by
 intro f hf
 simp[flowFs] at hf
 subst hf
 show _<=_
 decide
theorem flow_rows (w:World):RFiles ((w.alloc (.cells #[.int .u8 51,.int .u8 10,.int .u8 49,.int .u8 10,.int .u8 50,.int .u8 10,.int .u8 48] 5 (7,8))).alloc (.cells #[.string ⟨#[97]⟩,.slice (some ⟨w.heap.size,0,none⟩) 7 7] 83)) (.slice (some ⟨w.heap.size+1,0,none⟩) 1 1) flowFs:=by
 have h1:=heap_new_at (w:=w.alloc (.cells #[.int .u8 51,.int .u8 10,.int .u8 49,.int .u8 10,.int .u8 50,.int .u8 10,.int .u8 48] 5 (7,8))) (o:=.cells #[.string ⟨#[97]⟩,.slice (some ⟨w.heap.size,0,none⟩) 7 7] 83) (k:=w.heap.size+1) (by simp)
 refine⟨_,1,rfl,by decide,by simp[maxLen],fun _=>⟨_,0,rfl,fun j f hj=>?_⟩⟩
 match j,hj with
 | 0,hj=>
  injection hj with hj
  subst hj
  refine⟨_,(cell_of_row _ _ _ _ _ _ h1).trans rfl,(cell_of_row _ _ _ _ _ _ h1).trans rfl,?_⟩
  have h2:=reads_new w #[.int .u8 51,.int .u8 10,.int .u8 49,.int .u8 10,.int .u8 50,.int .u8 10,.int .u8 48] 5 (7,8) 7 rfl (by omega)
  exact h2.below box_of
 | j+1,hj=>cases hj
end Go.Proofs.YtllgglolcgdehaaGreatDoor
