/- What the closed script of the driver's laws makes. -/
import Derived.Test.YtllgglolcgdehaaGreatDoorQAb
import Derived.Test.YtllgglolcgdehaaGreatDoorQd01
set_option maxRecDepth 100000
set_option maxHeartbeats 16000000
namespace Go.Proofs.YtllgglolcgdehaaGreatDoor
open Go.RowKit Go.Gs
set_option linter.unusedVariables false
def drOs (p:Nat):List Obj:=[
 .cells #[.int .u8 98,.int .u8 32,.int .u8 120,.int .u8 10,.int .u8 97,.int .u8 32,.int .u8 121,.int .u8 10,.int .u8 99,.int .u8 32,.int .u8 122] 5 (11,12),
 .cells #[.string ⟨#[97]⟩,.slice (some ⟨p,0,none⟩) 11 11] 83,
 .cells #[.string ⟨#[97]⟩,.string ⟨#[97]⟩] 9,
 .cells #[.int .i64 4,.string ⟨#[]⟩,.int .i64 1,.int .i64 6,.string ⟨#[]⟩,.int .i64 0,.int .i64 7,.string ⟨#[]⟩,.int .i64 0] 70,
 .cells #[.string ⟨#[99]⟩] 9,
 .cells #[.int .i64 8,.string ⟨#[]⟩,.int .i64 0] 70,
 .cells #[.slice (some ⟨p+1+1,0,none⟩) 2 2,.slice (some ⟨p+1+1+1,0,none⟩) 3 3,.string ⟨#[99]⟩,.slice (some ⟨p+1+1+1+1,0,none⟩) 1 1,.slice (some ⟨p+1+1+1+1+1,0,none⟩) 1 1,.string ⟨#[100]⟩] 56,
 .cells #[.int .i64 0,.int .i64 5,.int .i64 2,.int .i64 2,.int .i64 2] 3]
theorem ay1 {W:World} {q n:Nat} {C:Array Value} {t:TypeId} {fr:Nat × Nat} (h:W.heap[q]? = some (.cells C t fr)) (hn:C.size=n) (hm:n<=1000000):Reads W (.slice (some ⟨q,0,none⟩) n n) n C.toList:=by refine⟨by simpa using hn,_,n,rfl,Nat.le_refl _,by unfold maxLen;omega,fun _=>⟨q,0,rfl,fun j u hu=>?_⟩⟩;rw[cell_of_row _ _ _ _ _ _ h,Nat.zero_add];simpa using hu
theorem cm7 (w:World):j9 (af2 w (drOs w.heap.size)) (.slice (some ⟨w.heap.size+1,0,none⟩) 1 1) drF:=by
 have h0:=O6 (drOs w.heap.size) w 0 _ rfl;have h1:=O6 (drOs w.heap.size) w 1 _ rfl;generalize af2 w (drOs w.heap.size)=W at *;refine⟨_,1,rfl,Nat.le_refl _,by simp[maxLen],fun _=>⟨w.heap.size+1,0,rfl,fun j f hj=>?_⟩⟩
 match j,hj with
 | 0,hj=>
  have e:f=⟨[97],[98,32,120,10,97,32,121,10,99,32,122]⟩:=by simpa[drF] using hj.symm
  subst e
  exact⟨_,(cell_of_row _ _ _ _ _ _ h1).trans rfl,(cell_of_row _ _ _ _ _ _ h1).trans rfl,ay1 h0 rfl (by decide)⟩
 | j+1,hj=>simp[drF] at hj
theorem cm8 (w:World):S1 (af2 w (drOs w.heap.size)) (.slice (some ⟨w.heap.size+1+1+1+1+1+1,0,none⟩) 2 2) drL:=by
 have h2:=O6 (drOs w.heap.size) w 2 _ rfl;have h3:=O6 (drOs w.heap.size) w 3 _ rfl;have h4:=O6 (drOs w.heap.size) w 4 _ rfl;have h5:=O6 (drOs w.heap.size) w 5 _ rfl;have h6:=O6 (drOs w.heap.size) w 6 _ rfl;generalize af2 w (drOs w.heap.size)=W at *;refine⟨_,2,rfl,Nat.le_refl _,by simp[maxLen],fun _=>⟨w.heap.size+1+1+1+1+1+1,0,rfl,fun j x hj=>?_⟩⟩
 match j,hj with
 | 0,hj=>
  have e:x=⟨[[97],[97]],[⟨4,[],1⟩,⟨6,[],0⟩,⟨7,[],0⟩],[99]⟩:=by simpa[drL] using hj.symm
  subst e
  refine⟨_,_,(cell_of_row _ _ _ _ _ _ h6).trans rfl,(cell_of_row _ _ _ _ _ _ h6).trans rfl,(cell_of_row _ _ _ _ _ _ h6).trans rfl,ay1 h2 rfl (by decide),?_⟩
  refine⟨_,3,rfl,Nat.le_refl _,by simp[maxLen],fun _=>⟨w.heap.size+1+1+1,0,rfl,fun j c hj=>?_⟩⟩
  match j,hj with
  | 0,hj=>
   have e:c=⟨4,[],1⟩:=by simpa using hj.symm
   subst e
   exact⟨(cell_of_row _ _ _ _ _ _ h3).trans rfl,(cell_of_row _ _ _ _ _ _ h3).trans rfl,(cell_of_row _ _ _ _ _ _ h3).trans rfl⟩
  | 1,hj=>
   have e:c=⟨6,[],0⟩:=by simpa using hj.symm
   subst e
   exact⟨(cell_of_row _ _ _ _ _ _ h3).trans rfl,(cell_of_row _ _ _ _ _ _ h3).trans rfl,(cell_of_row _ _ _ _ _ _ h3).trans rfl⟩
  | 2,hj=>
   have e:c=⟨7,[],0⟩:=by simpa using hj.symm
   subst e
   exact⟨(cell_of_row _ _ _ _ _ _ h3).trans rfl,(cell_of_row _ _ _ _ _ _ h3).trans rfl,(cell_of_row _ _ _ _ _ _ h3).trans rfl⟩
  | j+3,hj=>simp at hj
 | 1,hj=>
  have e:x=⟨[[99]],[⟨8,[],0⟩],[100]⟩:=by simpa[drL] using hj.symm
  subst e
  refine⟨_,_,(cell_of_row _ _ _ _ _ _ h6).trans rfl,(cell_of_row _ _ _ _ _ _ h6).trans rfl,(cell_of_row _ _ _ _ _ _ h6).trans rfl,ay1 h4 rfl (by decide),?_⟩
  refine⟨_,1,rfl,Nat.le_refl _,by simp[maxLen],fun _=>⟨w.heap.size+1+1+1+1+1,0,rfl,fun j c hj=>?_⟩⟩
  match j,hj with
  | 0,hj=>
   have e:c=⟨8,[],0⟩:=by simpa using hj.symm
   subst e
   exact⟨(cell_of_row _ _ _ _ _ _ h5).trans rfl,(cell_of_row _ _ _ _ _ _ h5).trans rfl,(cell_of_row _ _ _ _ _ _ h5).trans rfl⟩
  | j+1,hj=>simp at hj
 | j+2,hj=>simp[drL] at hj
theorem cm9 (w:World):Reads (af2 w (drOs w.heap.size)) (.slice (some ⟨w.heap.size+1+1+1+1+1+1+1,0,none⟩) 5 5) 5 (Zs [0,5,2,2,2]):=ay1 (O6 (drOs w.heap.size) w 7 _ rfl) rfl (by decide)
theorem cw4 (w:World) (hE:t8 w) :
 Calls Tryz.prog 43 #[.slice (some ⟨w.heap.size+1,0,none⟩) 1 1,.slice (some ⟨w.heap.size+1+1+1+1+1+1,0,none⟩) 2 2,.int .i64 3,.int .i64 1,.slice (some ⟨w.heap.size+1+1+1+1+1+1+1,0,none⟩) 5 5] (af2 w (drOs w.heap.size)) fun e w'=>∃b off cr va vc,e=.returned (.tuple #[.slice (some ⟨b,off,none⟩) 3 cr,.int .i64 0])/\3<=cr/\cr<=9223372036854775807/\w'.cell? ⟨b,off+3,none⟩=some va/\w'.cell? ⟨b,off+5,none⟩=some vc/\Reads w' va 6 ([97,10,98,10,99,10].map U)/\Reads w' vc 2 ([51,10].map U)/\Bq w w':=by have hb:=ad2 (drOs w.heap.size) w;have hR:=bM9 3 1 [0,5,2,2,2] _ _ _ 1 2 5 drF drL _ (cm7 w) (by intro f hf;simp[drF] at hf;rcases hf with rfl;(show _<=_;decide)) (cm8 w) (by intro x hx;simp[drL] at hx;rcases hx with rfl | rfl <;> (refine⟨?_,?_,?_⟩ <;> simp[ci0])) (cm9 w) (hE.below hb);rw[aX0 (by decide) (by decide) (by decide),bz8] at hR;refine hR.mono ?_;rintro e w1 ⟨ar,cr,rfl,hf,hb1⟩;obtain⟨b,off,ab,cb,rfl,c0,c1,r0⟩:=hf.at (k:=1) rfl;obtain⟨b',off',ab',cb',e',c2,c3,r2⟩:=hf.at (k:=2) rfl;injection e' with e';injection e' with e1 e2;subst e1 e2;have hle:=ac2 hf;exact⟨b,off,cr,_,_,rfl,hle.1,hle.2,c1,c3,r0,r2,hb.trans (hb1.mono hb.size)⟩
theorem aN5 (w:World) (hE:t8 w):Calls Tryz.prog 44 #[] w fun e w'=>e=.returned (.bool true)/\Bq w w':=by have kc:=fun (w:World) (C:Array Value) (n c:Nat)=>Lib.run_convert_bytes_const (P:=Tryz.prog) w 28 5 C n c Tryz.underlying28 Tryz.underlying5;have kc2:=fun (C:Array Value) (n c:Nat)=>kc w C n c;have HR:Hid _:=cw4 w hE;clear hE;go_enter Tryz.func44,Tryz.ntmps44;go_wp2_with fail;refine Calls.mono HR.out ?_;rintro e w1 ⟨b,off,cr,va,vc,rfl,h3,hcr,hc1,hc2,hra,hrc,hb⟩;have HB:=qH hb;obtain⟨_,a1,q1,rfl,_,_,_⟩:=id hra;obtain⟨_,a2,q2,rfl,_,_,_⟩:=id hrc;have k1:=ag0 (bs:=[97,10,98,10,99,10]) hra;have k2:=ag0 (bs:=[51,10]) hrc;clear hb hra hrc HR kc kc2;go_wp2_with fail;go_ret;exact⟨rfl,HB.out⟩
end Go.Proofs.YtllgglolcgdehaaGreatDoor
