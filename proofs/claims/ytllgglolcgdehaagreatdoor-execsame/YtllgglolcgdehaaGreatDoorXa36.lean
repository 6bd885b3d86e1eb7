/- The closed graph of the laws. -/
import Derived.Test.YtllgglolcgdehaaGreatDoorXa11
set_option maxRecDepth 100000
set_option maxHeartbeats 16000000
namespace Go.Proofs.YtllgglolcgdehaaGreatDoor
open Go.RowKit Go.Gs
set_option linter.unusedVariables false
theorem heap_old {w:World} {o x:Obj} {k:Nat} (h:w.heap[k]? = some x):(w.alloc o).heap[k]? = some x:=(Below.heap_alloc _ _ _ (by rcases Nat.lt_or_ge k w.heap.size with h1 | h1;exact h1;rw[Array.getElem?_eq_none h1] at h;cases h)).trans h
theorem heap_new_at {w:World} {o:Obj} {k:Nat} (h:k=w.heap.size):(w.alloc o).heap[k]? = some o:=by rw[h];exact heap_alloc_new w o
theorem ports_at {W:World} {b m:Nat} {cs:Array Value} {t:TypeId} {ps:List (Int × Int)} (hrow:W.heap[b]? = some (.cells cs t (0,0))) (h1:ps.length=m) (h2:m<=6) (hc:∀(j:Nat) p,ps[j]? = some p->cs[0+j*2]? = some (.int .i64 p.1)/\cs[0+j*2+1]? = some (.int .i64 p.2)):RPorts W (.slice (some ⟨b,0,none⟩) ps.length m) ps:=
 ⟨_,_,rfl,by omega,by unfold maxLen;omega,fun _=>⟨_,0,rfl,fun j p hj=>⟨by rw[cell_of_row _ _ _ _ _ _ hrow];exact (hc j p hj).1,by rw[cell_of_row _ _ _ _ _ _ hrow];exact (hc j p hj).2⟩⟩⟩
theorem sorter_rows (w:World):RNodes ((((((((w.alloc (.cells #[.slice (some ⟨w.heap.size+1+1+1+1+1+1+1,0,none⟩) 6 6] 24)).alloc (.cells #[.int .i64 6,.string ⟨#[]⟩,.int .i64 0] 70)).alloc (.cells #[.int .i64 0,.int .i64 0] 79)).alloc (.cells #[.int .i64 1,.int .i64 0] 79)).alloc (.cells #[.int .i64 1,.int .i64 1] 79)).alloc (.cells #[.int .i64 2,.int .i64 0,.int .i64 3,.int .i64 0] 79)).alloc (.cells #[.int .i64 4,.int .i64 0] 79)).alloc (.cells #[.int .i64 1,.string ⟨#[97]⟩,.int .i64 0,.string ⟨#[]⟩,.int .i64 0,.int .i64 0,.int .i64 0,.slice none 0 0,.int .i64 2,.string ⟨#[]⟩,.int .i64 0,.string ⟨#[]⟩,.int .i64 0,.int .i64 0,.int .i64 2,.slice (some ⟨w.heap.size+1+1,0,none⟩) 1 1,.int .i64 3,.string ⟨#[]⟩,.int .i64 6,.string ⟨#[]⟩,.int .i64 0,.int .i64 0,.int .i64 0,.slice (some ⟨w.heap.size+1+1+1,0,none⟩) 1 1,.int .i64 3,.string ⟨#[]⟩,.int .i64 6,.string ⟨#[]⟩,.int .i64 0,.int .i64 0,.int .i64 0,.slice (some ⟨w.heap.size+1+1+1+1,0,none⟩) 1 1,.int .i64 4,.string ⟨#[]⟩,.int .i64 0,.string ⟨#[]⟩,.int .i64 0,.int .i64 2,.int .i64 0,.slice (some ⟨w.heap.size+1+1+1+1+1,0,none⟩) 2 2,.int .i64 5,.string ⟨#[98]⟩,.int .i64 0,.string ⟨#[]⟩,.int .i64 0,.int .i64 0,.int .i64 0,.slice (some ⟨w.heap.size+1+1+1+1+1+1,0,none⟩) 1 1] 73)) (.slice (some ⟨w.heap.size+1+1+1+1+1+1+1,0,none⟩) 6 6) sorterNs:=by
 refine⟨_,6,rfl,by decide,by simp[maxLen],fun _=>⟨_,0,rfl,fun j n hj=>?_⟩⟩
 have hp1:((((((((w.alloc (.cells #[.slice (some ⟨w.heap.size+1+1+1+1+1+1+1,0,none⟩) 6 6] 24)).alloc (.cells #[.int .i64 6,.string ⟨#[]⟩,.int .i64 0] 70)).alloc (.cells #[.int .i64 0,.int .i64 0] 79)).alloc (.cells #[.int .i64 1,.int .i64 0] 79)).alloc (.cells #[.int .i64 1,.int .i64 1] 79)).alloc (.cells #[.int .i64 2,.int .i64 0,.int .i64 3,.int .i64 0] 79)).alloc (.cells #[.int .i64 4,.int .i64 0] 79)).alloc (.cells #[.int .i64 1,.string ⟨#[97]⟩,.int .i64 0,.string ⟨#[]⟩,.int .i64 0,.int .i64 0,.int .i64 0,.slice none 0 0,.int .i64 2,.string ⟨#[]⟩,.int .i64 0,.string ⟨#[]⟩,.int .i64 0,.int .i64 0,.int .i64 2,.slice (some ⟨w.heap.size+1+1,0,none⟩) 1 1,.int .i64 3,.string ⟨#[]⟩,.int .i64 6,.string ⟨#[]⟩,.int .i64 0,.int .i64 0,.int .i64 0,.slice (some ⟨w.heap.size+1+1+1,0,none⟩) 1 1,.int .i64 3,.string ⟨#[]⟩,.int .i64 6,.string ⟨#[]⟩,.int .i64 0,.int .i64 0,.int .i64 0,.slice (some ⟨w.heap.size+1+1+1+1,0,none⟩) 1 1,.int .i64 4,.string ⟨#[]⟩,.int .i64 0,.string ⟨#[]⟩,.int .i64 0,.int .i64 2,.int .i64 0,.slice (some ⟨w.heap.size+1+1+1+1+1,0,none⟩) 2 2,.int .i64 5,.string ⟨#[98]⟩,.int .i64 0,.string ⟨#[]⟩,.int .i64 0,.int .i64 0,.int .i64 0,.slice (some ⟨w.heap.size+1+1+1+1+1+1,0,none⟩) 1 1] 73)).heap[w.heap.size+1+1]? = some (.cells #[.int .i64 0,.int .i64 0] 79 (0,0)):=by
  repeat (first | exact heap_new_at (by simp) | apply heap_old)
 have hp2:((((((((w.alloc (.cells #[.slice (some ⟨w.heap.size+1+1+1+1+1+1+1,0,none⟩) 6 6] 24)).alloc (.cells #[.int .i64 6,.string ⟨#[]⟩,.int .i64 0] 70)).alloc (.cells #[.int .i64 0,.int .i64 0] 79)).alloc (.cells #[.int .i64 1,.int .i64 0] 79)).alloc (.cells #[.int .i64 1,.int .i64 1] 79)).alloc (.cells #[.int .i64 2,.int .i64 0,.int .i64 3,.int .i64 0] 79)).alloc (.cells #[.int .i64 4,.int .i64 0] 79)).alloc (.cells #[.int .i64 1,.string ⟨#[97]⟩,.int .i64 0,.string ⟨#[]⟩,.int .i64 0,.int .i64 0,.int .i64 0,.slice none 0 0,.int .i64 2,.string ⟨#[]⟩,.int .i64 0,.string ⟨#[]⟩,.int .i64 0,.int .i64 0,.int .i64 2,.slice (some ⟨w.heap.size+1+1,0,none⟩) 1 1,.int .i64 3,.string ⟨#[]⟩,.int .i64 6,.string ⟨#[]⟩,.int .i64 0,.int .i64 0,.int .i64 0,.slice (some ⟨w.heap.size+1+1+1,0,none⟩) 1 1,.int .i64 3,.string ⟨#[]⟩,.int .i64 6,.string ⟨#[]⟩,.int .i64 0,.int .i64 0,.int .i64 0,.slice (some ⟨w.heap.size+1+1+1+1,0,none⟩) 1 1,.int .i64 4,.string ⟨#[]⟩,.int .i64 0,.string ⟨#[]⟩,.int .i64 0,.int .i64 2,.int .i64 0,.slice (some ⟨w.heap.size+1+1+1+1+1,0,none⟩) 2 2,.int .i64 5,.string ⟨#[98]⟩,.int .i64 0,.string ⟨#[]⟩,.int .i64 0,.int .i64 0,.int .i64 0,.slice (some ⟨w.heap.size+1+1+1+1+1+1,0,none⟩) 1 1] 73)).heap[w.heap.size+1+1+1]? = some (.cells #[.int .i64 1,.int .i64 0] 79 (0,0)):=by
  repeat (first | exact heap_new_at (by simp) | apply heap_old)
 have hp3:((((((((w.alloc (.cells #[.slice (some ⟨w.heap.size+1+1+1+1+1+1+1,0,none⟩) 6 6] 24)).alloc (.cells #[.int .i64 6,.string ⟨#[]⟩,.int .i64 0] 70)).alloc (.cells #[.int .i64 0,.int .i64 0] 79)).alloc (.cells #[.int .i64 1,.int .i64 0] 79)).alloc (.cells #[.int .i64 1,.int .i64 1] 79)).alloc (.cells #[.int .i64 2,.int .i64 0,.int .i64 3,.int .i64 0] 79)).alloc (.cells #[.int .i64 4,.int .i64 0] 79)).alloc (.cells #[.int .i64 1,.string ⟨#[97]⟩,.int .i64 0,.string ⟨#[]⟩,.int .i64 0,.int .i64 0,.int .i64 0,.slice none 0 0,.int .i64 2,.string ⟨#[]⟩,.int .i64 0,.string ⟨#[]⟩,.int .i64 0,.int .i64 0,.int .i64 2,.slice (some ⟨w.heap.size+1+1,0,none⟩) 1 1,.int .i64 3,.string ⟨#[]⟩,.int .i64 6,.string ⟨#[]⟩,.int .i64 0,.int .i64 0,.int .i64 0,.slice (some ⟨w.heap.size+1+1+1,0,none⟩) 1 1,.int .i64 3,.string ⟨#[]⟩,.int .i64 6,.string ⟨#[]⟩,.int .i64 0,.int .i64 0,.int .i64 0,.slice (some ⟨w.heap.size+1+1+1+1,0,none⟩) 1 1,.int .i64 4,.string ⟨#[]⟩,.int .i64 0,.string ⟨#[]⟩,.int .i64 0,.int .i64 2,.int .i64 0,.slice (some ⟨w.heap.size+1+1+1+1+1,0,none⟩) 2 2,.int .i64 5,.string ⟨#[98]⟩,.int .i64 0,.string ⟨#[]⟩,.int .i64 0,.int .i64 0,.int .i64 0,.slice (some ⟨w.heap.size+1+1+1+1+1+1,0,none⟩) 1 1] 73)).heap[w.heap.size+1+1+1+1]? = some (.cells #[.int .i64 1,.int .i64 1] 79 (0,0)):=by
  repeat (first | exact heap_new_at (by simp) | apply heap_old)
 have hp4:((((((((w.alloc (.cells #[.slice (some ⟨w.heap.size+1+1+1+1+1+1+1,0,none⟩) 6 6] 24)).alloc (.cells #[.int .i64 6,.string ⟨#[]⟩,.int .i64 0] 70)).alloc (.cells #[.int .i64 0,.int .i64 0] 79)).alloc (.cells #[.int .i64 1,.int .i64 0] 79)).alloc (.cells #[.int .i64 1,.int .i64 1] 79)).alloc (.cells #[.int .i64 2,.int .i64 0,.int .i64 3,.int .i64 0] 79)).alloc (.cells #[.int .i64 4,.int .i64 0] 79)).alloc (.cells #[.int .i64 1,.string ⟨#[97]⟩,.int .i64 0,.string ⟨#[]⟩,.int .i64 0,.int .i64 0,.int .i64 0,.slice none 0 0,.int .i64 2,.string ⟨#[]⟩,.int .i64 0,.string ⟨#[]⟩,.int .i64 0,.int .i64 0,.int .i64 2,.slice (some ⟨w.heap.size+1+1,0,none⟩) 1 1,.int .i64 3,.string ⟨#[]⟩,.int .i64 6,.string ⟨#[]⟩,.int .i64 0,.int .i64 0,.int .i64 0,.slice (some ⟨w.heap.size+1+1+1,0,none⟩) 1 1,.int .i64 3,.string ⟨#[]⟩,.int .i64 6,.string ⟨#[]⟩,.int .i64 0,.int .i64 0,.int .i64 0,.slice (some ⟨w.heap.size+1+1+1+1,0,none⟩) 1 1,.int .i64 4,.string ⟨#[]⟩,.int .i64 0,.string ⟨#[]⟩,.int .i64 0,.int .i64 2,.int .i64 0,.slice (some ⟨w.heap.size+1+1+1+1+1,0,none⟩) 2 2,.int .i64 5,.string ⟨#[98]⟩,.int .i64 0,.string ⟨#[]⟩,.int .i64 0,.int .i64 0,.int .i64 0,.slice (some ⟨w.heap.size+1+1+1+1+1+1,0,none⟩) 1 1] 73)).heap[w.heap.size+1+1+1+1+1]? = some (.cells #[.int .i64 2,.int .i64 0,.int .i64 3,.int .i64 0] 79 (0,0)):=by
  repeat (first | exact heap_new_at (by simp) | apply heap_old)
 have hp5:((((((((w.alloc (.cells #[.slice (some ⟨w.heap.size+1+1+1+1+1+1+1,0,none⟩) 6 6] 24)).alloc (.cells #[.int .i64 6,.string ⟨#[]⟩,.int .i64 0] 70)).alloc (.cells #[.int .i64 0,.int .i64 0] 79)).alloc (.cells #[.int .i64 1,.int .i64 0] 79)).alloc (.cells #[.int .i64 1,.int .i64 1] 79)).alloc (.cells #[.int .i64 2,.int .i64 0,.int .i64 3,.int .i64 0] 79)).alloc (.cells #[.int .i64 4,.int .i64 0] 79)).alloc (.cells #[.int .i64 1,.string ⟨#[97]⟩,.int .i64 0,.string ⟨#[]⟩,.int .i64 0,.int .i64 0,.int .i64 0,.slice none 0 0,.int .i64 2,.string ⟨#[]⟩,.int .i64 0,.string ⟨#[]⟩,.int .i64 0,.int .i64 0,.int .i64 2,.slice (some ⟨w.heap.size+1+1,0,none⟩) 1 1,.int .i64 3,.string ⟨#[]⟩,.int .i64 6,.string ⟨#[]⟩,.int .i64 0,.int .i64 0,.int .i64 0,.slice (some ⟨w.heap.size+1+1+1,0,none⟩) 1 1,.int .i64 3,.string ⟨#[]⟩,.int .i64 6,.string ⟨#[]⟩,.int .i64 0,.int .i64 0,.int .i64 0,.slice (some ⟨w.heap.size+1+1+1+1,0,none⟩) 1 1,.int .i64 4,.string ⟨#[]⟩,.int .i64 0,.string ⟨#[]⟩,.int .i64 0,.int .i64 2,.int .i64 0,.slice (some ⟨w.heap.size+1+1+1+1+1,0,none⟩) 2 2,.int .i64 5,.string ⟨#[98]⟩,.int .i64 0,.string ⟨#[]⟩,.int .i64 0,.int .i64 0,.int .i64 0,.slice (some ⟨w.heap.size+1+1+1+1+1+1,0,none⟩) 1 1] 73)).heap[w.heap.size+1+1+1+1+1+1]? = some (.cells #[.int .i64 4,.int .i64 0] 79 (0,0)):=by
  repeat (first | exact heap_new_at (by simp) | apply heap_old)
 have hr:((((((((w.alloc (.cells #[.slice (some ⟨w.heap.size+1+1+1+1+1+1+1,0,none⟩) 6 6] 24)).alloc (.cells #[.int .i64 6,.string ⟨#[]⟩,.int .i64 0] 70)).alloc (.cells #[.int .i64 0,.int .i64 0] 79)).alloc (.cells #[.int .i64 1,.int .i64 0] 79)).alloc (.cells #[.int .i64 1,.int .i64 1] 79)).alloc (.cells #[.int .i64 2,.int .i64 0,.int .i64 3,.int .i64 0] 79)).alloc (.cells #[.int .i64 4,.int .i64 0] 79)).alloc (.cells #[.int .i64 1,.string ⟨#[97]⟩,.int .i64 0,.string ⟨#[]⟩,.int .i64 0,.int .i64 0,.int .i64 0,.slice none 0 0,.int .i64 2,.string ⟨#[]⟩,.int .i64 0,.string ⟨#[]⟩,.int .i64 0,.int .i64 0,.int .i64 2,.slice (some ⟨w.heap.size+1+1,0,none⟩) 1 1,.int .i64 3,.string ⟨#[]⟩,.int .i64 6,.string ⟨#[]⟩,.int .i64 0,.int .i64 0,.int .i64 0,.slice (some ⟨w.heap.size+1+1+1,0,none⟩) 1 1,.int .i64 3,.string ⟨#[]⟩,.int .i64 6,.string ⟨#[]⟩,.int .i64 0,.int .i64 0,.int .i64 0,.slice (some ⟨w.heap.size+1+1+1+1,0,none⟩) 1 1,.int .i64 4,.string ⟨#[]⟩,.int .i64 0,.string ⟨#[]⟩,.int .i64 0,.int .i64 2,.int .i64 0,.slice (some ⟨w.heap.size+1+1+1+1+1,0,none⟩) 2 2,.int .i64 5,.string ⟨#[98]⟩,.int .i64 0,.string ⟨#[]⟩,.int .i64 0,.int .i64 0,.int .i64 0,.slice (some ⟨w.heap.size+1+1+1+1+1+1,0,none⟩) 1 1] 73)).heap[w.heap.size+1+1+1+1+1+1+1]? = some (.cells #[.int .i64 1,.string ⟨#[97]⟩,.int .i64 0,.string ⟨#[]⟩,.int .i64 0,.int .i64 0,.int .i64 0,.slice none 0 0,.int .i64 2,.string ⟨#[]⟩,.int .i64 0,.string ⟨#[]⟩,.int .i64 0,.int .i64 0,.int .i64 2,.slice (some ⟨w.heap.size+1+1,0,none⟩) 1 1,.int .i64 3,.string ⟨#[]⟩,.int .i64 6,.string ⟨#[]⟩,.int .i64 0,.int .i64 0,.int .i64 0,.slice (some ⟨w.heap.size+1+1+1,0,none⟩) 1 1,.int .i64 3,.string ⟨#[]⟩,.int .i64 6,.string ⟨#[]⟩,.int .i64 0,.int .i64 0,.int .i64 0,.slice (some ⟨w.heap.size+1+1+1+1,0,none⟩) 1 1,.int .i64 4,.string ⟨#[]⟩,.int .i64 0,.string ⟨#[]⟩,.int .i64 0,.int .i64 2,.int .i64 0,.slice (some ⟨w.heap.size+1+1+1+1+1,0,none⟩) 2 2,.int .i64 5,.string ⟨#[98]⟩,.int .i64 0,.string ⟨#[]⟩,.int .i64 0,.int .i64 0,.int .i64 0,.slice (some ⟨w.heap.size+1+1+1+1+1+1,0,none⟩) 1 1] 73 (0,0)):=heap_new_at (by simp)
 match j,hj with
 | 0,hj=>
  injection hj with hj
  subst hj
  refine⟨_,_,⟨(cell_of_row _ _ _ _ _ _ hr).trans rfl,(cell_of_row _ _ _ _ _ _ hr).trans rfl,(cell_of_row _ _ _ _ _ _ hr).trans rfl,(cell_of_row _ _ _ _ _ _ hr).trans rfl,(cell_of_row _ _ _ _ _ _ hr).trans rfl,(cell_of_row _ _ _ _ _ _ hr).trans rfl,(cell_of_row _ _ _ _ _ _ hr).trans rfl,(cell_of_row _ _ _ _ _ _ hr).trans rfl⟩,?_⟩
  exact⟨none,0,rfl,Nat.le_refl _,by simp[maxLen],fun h=>absurd rfl h⟩
 | 1,hj=>
  injection hj with hj
  subst hj
  refine⟨_,_,⟨(cell_of_row _ _ _ _ _ _ hr).trans rfl,(cell_of_row _ _ _ _ _ _ hr).trans rfl,(cell_of_row _ _ _ _ _ _ hr).trans rfl,(cell_of_row _ _ _ _ _ _ hr).trans rfl,(cell_of_row _ _ _ _ _ _ hr).trans rfl,(cell_of_row _ _ _ _ _ _ hr).trans rfl,(cell_of_row _ _ _ _ _ _ hr).trans rfl,(cell_of_row _ _ _ _ _ _ hr).trans rfl⟩,?_⟩
  refine ports_at hp1 rfl (by decide) (fun q p hq=>?_)
  match q,hq with
  | 0,hq=>injection hq with hq;subst hq;exact⟨rfl,rfl⟩
  | q+1,hq=>cases hq
 | 2,hj=>
  injection hj with hj
  subst hj
  refine⟨_,_,⟨(cell_of_row _ _ _ _ _ _ hr).trans rfl,(cell_of_row _ _ _ _ _ _ hr).trans rfl,(cell_of_row _ _ _ _ _ _ hr).trans rfl,(cell_of_row _ _ _ _ _ _ hr).trans rfl,(cell_of_row _ _ _ _ _ _ hr).trans rfl,(cell_of_row _ _ _ _ _ _ hr).trans rfl,(cell_of_row _ _ _ _ _ _ hr).trans rfl,(cell_of_row _ _ _ _ _ _ hr).trans rfl⟩,?_⟩
  refine ports_at hp2 rfl (by decide) (fun q p hq=>?_)
  match q,hq with
  | 0,hq=>injection hq with hq;subst hq;exact⟨rfl,rfl⟩
  | q+1,hq=>cases hq
 | 3,hj=>
  injection hj with hj
  subst hj
  refine⟨_,_,⟨(cell_of_row _ _ _ _ _ _ hr).trans rfl,(cell_of_row _ _ _ _ _ _ hr).trans rfl,(cell_of_row _ _ _ _ _ _ hr).trans rfl,(cell_of_row _ _ _ _ _ _ hr).trans rfl,(cell_of_row _ _ _ _ _ _ hr).trans rfl,(cell_of_row _ _ _ _ _ _ hr).trans rfl,(cell_of_row _ _ _ _ _ _ hr).trans rfl,(cell_of_row _ _ _ _ _ _ hr).trans rfl⟩,?_⟩
  refine ports_at hp3 rfl (by decide) (fun q p hq=>?_)
  match q,hq with
  | 0,hq=>injection hq with hq;subst hq;exact⟨rfl,rfl⟩
  | q+1,hq=>cases hq
 | 4,hj=>
  injection hj with hj
  subst hj
  refine⟨_,_,⟨(cell_of_row _ _ _ _ _ _ hr).trans rfl,(cell_of_row _ _ _ _ _ _ hr).trans rfl,(cell_of_row _ _ _ _ _ _ hr).trans rfl,(cell_of_row _ _ _ _ _ _ hr).trans rfl,(cell_of_row _ _ _ _ _ _ hr).trans rfl,(cell_of_row _ _ _ _ _ _ hr).trans rfl,(cell_of_row _ _ _ _ _ _ hr).trans rfl,(cell_of_row _ _ _ _ _ _ hr).trans rfl⟩,?_⟩
  refine ports_at hp4 rfl (by decide) (fun q p hq=>?_)
  match q,hq with
  | 0,hq=>injection hq with hq;subst hq;exact⟨rfl,rfl⟩
  | 1,hq=>injection hq with hq;subst hq;exact⟨rfl,rfl⟩
  | q+2,hq=>cases hq
 | 5,hj=>
  injection hj with hj
  subst hj
  refine⟨_,_,⟨(cell_of_row _ _ _ _ _ _ hr).trans rfl,(cell_of_row _ _ _ _ _ _ hr).trans rfl,(cell_of_row _ _ _ _ _ _ hr).trans rfl,(cell_of_row _ _ _ _ _ _ hr).trans rfl,(cell_of_row _ _ _ _ _ _ hr).trans rfl,(cell_of_row _ _ _ _ _ _ hr).trans rfl,(cell_of_row _ _ _ _ _ _ hr).trans rfl,(cell_of_row _ _ _ _ _ _ hr).trans rfl⟩,?_⟩
  refine ports_at hp5 rfl (by decide) (fun q p hq=>?_)
  match q,hq with
  | 0,hq=>injection hq with hq;subst hq;exact⟨rfl,rfl⟩
  | q+1,hq=>cases hq
 | j+6,hj=>cases hj
theorem sorter_is (w:World):Calls Tryz.prog 65 #[] w fun e w'=>∃g,e=.returned (.agg #[.slice (some ⟨g,0,none⟩) 6 6])/\RNodes w' (.slice (some ⟨g,0,none⟩) 6 6) sorterNs/\Below w.heap.size w w':=by
 go_enter Tryz.func65,Tryz.ntmps65
 go_wp2_with fail
 refine bodyPost_ret (v:=.agg #[.slice (some ⟨w.heap.size+1+1+1+1+1+1+1,0,none⟩) 6 6]) (by simp[results,go_sem]) rfl ⟨_,rfl,?_,?_⟩
 . exact sorter_rows w
 . exact (((((((box_of.trans (box_of.mono (by simp))).trans (box_of.mono (by simp;omega))).trans (box_of.mono (by simp;omega))).trans (box_of.mono (by simp;omega))).trans (box_of.mono (by simp;omega))).trans (box_of.mono (by simp;omega))).trans (box_of.mono (by simp;omega)))
end Go.Proofs.YtllgglolcgdehaaGreatDoor
