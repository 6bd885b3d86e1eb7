/- The closed graph of the laws. -/
import Derived.Test.YtmejdflmcikkdaaGreatDoorVAb
import Derived.Test.YtmejdflmcikkdaaGreatDoorVa06
set_option linter.all false
set_option maxRecDepth 100000
set_option maxHeartbeats 64000000
namespace Go.Proofs.YtmejdflmcikkdaaGreatDoor
open Go.RowKit Go.Gs Tryz
variable {w W:World}{o:Obj}{k b:Nat}{cs:Array Value}{t:TypeId}{ps:List (Int × Int)}
theorem bn7(h:k=w.heap.size):(w.alloc o).heap[k]?=some o:=by rw[h];exact qJ w o
theorem bn8{m:Nat}(Ap:W.heap[b]?=some (.cells cs t (0,0)))(h1:ps.length=m)(h2:m<=6)(hc:∀(j:Nat) p,ps[j]?=some p->cs[0+j*2]?=some (.int .i64 p.1)/\cs[0+j*2+1]?=some (.int .i64 p.2)):D5 W (.slice (some ⟨b,0,none⟩) ps.length m) ps:=
 ⟨_,_,rfl,qO,by unfold maxLen;omega,fun _=>⟨_,0,rfl,fun j p hj=>⟨by rw[qY _ _ _ _ _ _ Ap];exact (hc j p hj).1,by rw[qY _ _ _ _ _ _ Ap];exact (hc j p hj).2⟩⟩⟩
theorem be9{a c:Int}(h:W.heap[b]?=some (.cells #[.int .i64 a,.int .i64 c] t (0,0))):D5 W (.slice (some ⟨b,0,none⟩) 1 1) [(a,c)]:=
 bn8 (ps:=[(a,c)]) h rfl (by decide) (fun q p hq=>by
  match q,hq with
  | 0,hq=>injection hq with hq;subst hq;exact⟨rfl,rfl⟩
  | q+1,hq=>cases hq)
def bf0(w:World)(os:List Obj):World:=os.foldl World.alloc w
theorem ag5:∀(os:List Obj)(w:World),Bq w (bf0 w os)
 | [],w=>Below.refl _ _
 | o::os,w=>g9.trans ((ag5 os (w.alloc o)).mono g9.size)
theorem aN3:∀(os:List Obj)(w:World)(i:Nat)(o:Obj),os[i]?=some o->(bf0 w os).heap[w.heap.size+i]?=some o
 | [],w,i,o,h=>by simp at h
 | a::os,w,0,o,h=>by simp at h;subst h;exact ((ag5 os (w.alloc a)).block _ (by simp)).trans (qJ w a)
 | a::os,w,i+1,o,h=>by have:=aN3 os (w.alloc a) i o (by simpa using h);rw[show (w.alloc a).heap.size=w.heap.size+1 by simp]at this;rw[show w.heap.size+(i+1)=w.heap.size+1+i by omega];exact this
def srOs(p:Nat):List Obj:=[.cells #[.slice (some ⟨p+1+1+1+1+1+1+1,0,none⟩) 6 6] 24,.cells #[.int .i64 6,.string ⟨#[]⟩,.int .i64 0] 54,.cells #[.int .i64 0,.int .i64 0] 74,.cells #[.int .i64 1,.int .i64 0] 74,.cells #[.int .i64 1,.int .i64 1] 74,.cells #[.int .i64 2,.int .i64 0,.int .i64 3,.int .i64 0] 74,.cells #[.int .i64 4,.int .i64 0] 74,.cells #[.int .i64 1,.string ⟨#[97]⟩,.int .i64 0,.string ⟨#[]⟩,.int .i64 0,.int .i64 0,.int .i64 0,.slice none 0 0,.int .i64 2,.string ⟨#[]⟩,.int .i64 0,.string ⟨#[]⟩,.int .i64 0,.int .i64 0,.int .i64 2,.slice (some ⟨p+1+1,0,none⟩) 1 1,.int .i64 3,.string ⟨#[]⟩,.int .i64 6,.string ⟨#[]⟩,.int .i64 0,.int .i64 0,.int .i64 0,.slice (some ⟨p+1+1+1,0,none⟩) 1 1,.int .i64 3,.string ⟨#[]⟩,.int .i64 6,.string ⟨#[]⟩,.int .i64 0,.int .i64 0,.int .i64 0,.slice (some ⟨p+1+1+1+1,0,none⟩) 1 1,.int .i64 4,.string ⟨#[]⟩,.int .i64 0,.string ⟨#[]⟩,.int .i64 0,.int .i64 2,.int .i64 0,.slice (some ⟨p+1+1+1+1+1,0,none⟩) 2 2,.int .i64 5,.string ⟨#[98]⟩,.int .i64 0,.string ⟨#[]⟩,.int .i64 0,.int .i64 0,.int .i64 0,.slice (some ⟨p+1+1+1+1+1+1,0,none⟩) 1 1] 57]
theorem bn9(w:World):y8 (bf0 w (srOs w.heap.size)) (.slice (some ⟨w.heap.size+1+1+1+1+1+1+1,0,none⟩) 6 6) B8:=by
 refine⟨_,6,rfl,by decide,by simp[maxLen],fun _=>⟨_,0,rfl,fun j n hj=>?_⟩⟩;have A:=aN3 (srOs w.heap.size) w;have c:=fun i=>qY _ _ i _ _ _ (A 7 _ rfl)
 match j,hj with
 | 0,hj=>injection hj with hj;subst hj;exact⟨_,_,⟨(c _).trans rfl,(c _).trans rfl,(c _).trans rfl,(c _).trans rfl,(c _).trans rfl,(c _).trans rfl,(c _).trans rfl,(c _).trans rfl⟩,⟨none,0,rfl,qA _,by simp[maxLen],fun h=>absurd rfl h⟩⟩
 | 1,hj=>injection hj with hj;subst hj;exact⟨_,_,⟨(c _).trans rfl,(c _).trans rfl,(c _).trans rfl,(c _).trans rfl,(c _).trans rfl,(c _).trans rfl,(c _).trans rfl,(c _).trans rfl⟩,be9 (A 2 _ rfl)⟩
 | 2,hj=>injection hj with hj;subst hj;exact⟨_,_,⟨(c _).trans rfl,(c _).trans rfl,(c _).trans rfl,(c _).trans rfl,(c _).trans rfl,(c _).trans rfl,(c _).trans rfl,(c _).trans rfl⟩,be9 (A 3 _ rfl)⟩
 | 3,hj=>injection hj with hj;subst hj;exact⟨_,_,⟨(c _).trans rfl,(c _).trans rfl,(c _).trans rfl,(c _).trans rfl,(c _).trans rfl,(c _).trans rfl,(c _).trans rfl,(c _).trans rfl⟩,be9 (A 4 _ rfl)⟩
 | 4,hj=>
  injection hj with hj;subst hj;refine⟨_,_,⟨(c _).trans rfl,(c _).trans rfl,(c _).trans rfl,(c _).trans rfl,(c _).trans rfl,(c _).trans rfl,(c _).trans rfl,(c _).trans rfl⟩,bn8 (A 5 _ rfl) rfl (by decide) (fun q p hq=>?_)⟩
  match q,hq with
  | 0,hq=>injection hq with hq;subst hq;exact⟨rfl,rfl⟩
  | 1,hq=>injection hq with hq;subst hq;exact⟨rfl,rfl⟩
  | q+2,hq=>cases hq
 | 5,hj=>injection hj with hj;subst hj;exact⟨_,_,⟨(c _).trans rfl,(c _).trans rfl,(c _).trans rfl,(c _).trans rfl,(c _).trans rfl,(c _).trans rfl,(c _).trans rfl,(c _).trans rfl⟩,be9 (A 6 _ rfl)⟩
 | j+6,hj=>cases hj
theorem bL2(w:World):Calls prog 30 #[] w fun e w'=>∃g,e=.returned (.agg #[.slice (some ⟨g,0,none⟩) 6 6])/\y8 w' (.slice (some ⟨g,0,none⟩) 6 6) B8/\Bq w w':=by
 go_enter func30,ntmps30;go_wp2_with fail;refine qx (v:=.agg #[.slice (some ⟨w.heap.size+1+1+1+1+1+1+1,0,none⟩) 6 6]) (by simp[results,go_sem]) rfl ⟨_,rfl,?_,?_⟩
 . exact bn9 w
 . exact ag5 (srOs w.heap.size) w
end Go.Proofs.YtmejdflmcikkdaaGreatDoor
