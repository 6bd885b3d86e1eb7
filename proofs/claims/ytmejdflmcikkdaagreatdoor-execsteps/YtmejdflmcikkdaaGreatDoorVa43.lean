/- What flows through the closed graph of the laws. -/
import Derived.Test.YtmejdflmcikkdaaGreatDoorVAb
import Derived.Test.YtmejdflmcikkdaaGreatDoorVa42
import Derived.Test.YtmejdflmcikkdaaGreatDoorVa17
set_option linter.all false
namespace Go.Proofs.YtmejdflmcikkdaaGreatDoor
open Go.RowKit Go.Gs
theorem aF6:∀n∈B8,G8 n:=by intro n hn;simp[B8]at hn;rcases hn with rfl | rfl | rfl | rfl | rfl | rfl <;> (refine⟨by decide,by decide,?_⟩;intro p hp;simp at hp;first|(subst hp;exact⟨by decide,by decide⟩)|(rcases hp with rfl | rfl <;> exact⟨by decide,by decide⟩) | skip)
theorem aY6:∀f∈I5,al0 f:=by intro f hf;simp[I5]at hf;subst hf;show _<=_;decide
theorem bN5(w:World):o8 ((w.alloc (.cells #[.int .u8 51,.int .u8 10,.int .u8 49,.int .u8 10,.int .u8 50,.int .u8 10,.int .u8 48] 5 (7,8))).alloc (.cells #[.string ⟨#[97]⟩,.slice (some ⟨w.heap.size,0,none⟩) 7 7] 59)) (.slice (some ⟨w.heap.size+1,0,none⟩) 1 1) I5:=by
 have h1:=bn7 (w:=w.alloc (.cells #[.int .u8 51,.int .u8 10,.int .u8 49,.int .u8 10,.int .u8 50,.int .u8 10,.int .u8 48] 5 (7,8))) (o:=.cells #[.string ⟨#[97]⟩,.slice (some ⟨w.heap.size,0,none⟩) 7 7] 59) (k:=w.heap.size+1) (by simp);refine⟨_,1,rfl,by decide,by simp[maxLen],fun _=>⟨_,0,rfl,fun j f hj=>?_⟩⟩
 match j,hj with
 | 0,hj=>injection hj with hj;subst hj;refine⟨_,qR h1 rfl,qR h1 rfl,?_⟩;have h2:=Y9 w #[.int .u8 51,.int .u8 10,.int .u8 49,.int .u8 10,.int .u8 50,.int .u8 10,.int .u8 48] 5 (7,8) 7 rfl qO;exact h2.below g9
 | j+1,hj=>cases hj
end Go.Proofs.YtmejdflmcikkdaaGreatDoor
