/- The law ExecHead, walked. -/
import Derived.Test.YtllgglolcgdehaaGreatDoorQAb
import Derived.Test.YtllgglolcgdehaaGreatDoorQi01
set_option maxRecDepth 100000
set_option maxHeartbeats 16000000
namespace Go.Proofs.YtllgglolcgdehaaGreatDoor
open Go.RowKit Go.Gs
set_option linter.unusedVariables false
def ak0 (w:World) (os:List Obj):World:=os.foldl World.alloc w
theorem ad4:∀(os:List Obj) (w:World),Bq w (ak0 w os)
 | [],w=>Below.refl _ _
 | o::os,w=>b9.trans ((ad4 os (w.alloc o)).mono b9.size)
theorem X6:∀(os:List Obj) (w:World) (i:Nat) (o:Obj),os[i]? = some o->(ak0 w os).heap[w.heap.size+i]? = some o
 | [],w,i,o,h=>by simp at h
 | a::os,w,0,o,h=>by
  simp at h
  subst h
  exact ((ad4 os (w.alloc a)).block _ (by simp)).trans (heap_alloc_new w a)
 | a::os,w,i+1,o,h=>by
  have:=X6 os (w.alloc a) i o (by simpa using h)
  rw[show (w.alloc a).heap.size=w.heap.size+1 by simp] at this
  rw[show w.heap.size+(i+1)=w.heap.size+1+i by omega]
  exact this
def ac9 (p:Nat) (n:Int) (ab:Option Addr) (N cb:Nat):List Obj:=[
 .cells #[.int .i64 0,.int .i64 0] 79,
 .cells #[.int .i64 1,.int .i64 0] 79,
 .cells #[.int .i64 2,.int .i64 0] 79,
 .cells #[.int .i64 1,.string ⟨#[97]⟩,.int .i64 0,.string ⟨#[]⟩,.int .i64 0,.int .i64 0,.int .i64 0,.slice none 0 0,.int .i64 3,.string ⟨#[]⟩,.int .i64 5,.string ⟨#[]⟩,.int .i64 0,.int .i64 0,.int .i64 0,.slice (some ⟨p,0,none⟩) 1 1,.int .i64 3,.string ⟨#[]⟩,.int .i64 9,.string ⟨#[]⟩,.int .i64 n,.int .i64 0,.int .i64 0,.slice (some ⟨p+1,0,none⟩) 1 1,.int .i64 5,.string ⟨#[98]⟩,.int .i64 0,.string ⟨#[]⟩,.int .i64 0,.int .i64 0,.int .i64 0,.slice (some ⟨p+1+1,0,none⟩) 1 1] 73,
 .cells #[.slice (some ⟨p+1+1+1,0,none⟩) 4 4] 24,
 .cells #[.string ⟨#[97]⟩,.slice ab N cb] 83]
theorem aC0 {W:World} {q:Nat} {k:Int} (h:W.heap[q]? = some (.cells #[.int .i64 k,.int .i64 0] 79 (0,0))):E2 W (.slice (some ⟨q,0,none⟩) 1 1) [(k,0)]:=by
 refine⟨_,1,rfl,Nat.le_refl _,by simp[maxLen],fun _=>⟨q,0,rfl,fun j p hj=>?_⟩⟩
 match j,hj with
 | 0,hj=>
  have e:p=(k,0):=by simpa using hj.symm
  subst e
  exact⟨(cell_of_row _ _ _ _ _ _ h).trans rfl,(cell_of_row _ _ _ _ _ _ h).trans rfl⟩
 | j+1,hj=>simp at hj
theorem aJ5 (w:World) (n:Int) (ab:Option Addr) (N cb:Nat):A2 (ak0 w (ac9 w.heap.size n ab N cb)) (.slice (some ⟨w.heap.size+1+1+1,0,none⟩) 4 4) (K5 n):=by
 have h0:=X6 (ac9 w.heap.size n ab N cb) w 0 _ rfl;have h1:=X6 (ac9 w.heap.size n ab N cb) w 1 _ rfl;have h2:=X6 (ac9 w.heap.size n ab N cb) w 2 _ rfl;have h3:=X6 (ac9 w.heap.size n ab N cb) w 3 _ rfl;generalize ak0 w (ac9 w.heap.size n ab N cb)=W at *;refine⟨_,4,rfl,Nat.le_refl _,by simp[maxLen],fun _=>⟨w.heap.size+1+1+1,0,rfl,fun j nd hj=>?_⟩⟩
 match j,hj with
 | 0,hj=>
  have e:nd=⟨1,[97],⟨0,[],0⟩,0,0,[]⟩:=by simpa[K5] using hj.symm
  subst e
  exact⟨_,_,⟨(cell_of_row _ _ _ _ _ _ h3).trans rfl,(cell_of_row _ _ _ _ _ _ h3).trans rfl,(cell_of_row _ _ _ _ _ _ h3).trans rfl,(cell_of_row _ _ _ _ _ _ h3).trans rfl,(cell_of_row _ _ _ _ _ _ h3).trans rfl,(cell_of_row _ _ _ _ _ _ h3).trans rfl,(cell_of_row _ _ _ _ _ _ h3).trans rfl,(cell_of_row _ _ _ _ _ _ h3).trans rfl⟩,⟨none,0,rfl,Nat.le_refl _,by simp[maxLen],fun h=>absurd rfl h⟩⟩
 | 1,hj=>
  have e:nd=⟨3,[],⟨5,[],0⟩,0,0,[(0,0)]⟩:=by simpa[K5] using hj.symm
  subst e
  exact⟨_,_,⟨(cell_of_row _ _ _ _ _ _ h3).trans rfl,(cell_of_row _ _ _ _ _ _ h3).trans rfl,(cell_of_row _ _ _ _ _ _ h3).trans rfl,(cell_of_row _ _ _ _ _ _ h3).trans rfl,(cell_of_row _ _ _ _ _ _ h3).trans rfl,(cell_of_row _ _ _ _ _ _ h3).trans rfl,(cell_of_row _ _ _ _ _ _ h3).trans rfl,(cell_of_row _ _ _ _ _ _ h3).trans rfl⟩,aC0 h0⟩
 | 2,hj=>
  have e:nd=⟨3,[],⟨9,[],n⟩,0,0,[(1,0)]⟩:=by simpa[K5] using hj.symm
  subst e
  exact⟨_,_,⟨(cell_of_row _ _ _ _ _ _ h3).trans rfl,(cell_of_row _ _ _ _ _ _ h3).trans rfl,(cell_of_row _ _ _ _ _ _ h3).trans rfl,(cell_of_row _ _ _ _ _ _ h3).trans rfl,(cell_of_row _ _ _ _ _ _ h3).trans rfl,(cell_of_row _ _ _ _ _ _ h3).trans rfl,(cell_of_row _ _ _ _ _ _ h3).trans rfl,(cell_of_row _ _ _ _ _ _ h3).trans rfl⟩,aC0 h1⟩
 | 3,hj=>
  have e:nd=⟨5,[98],⟨0,[],0⟩,0,0,[(2,0)]⟩:=by simpa[K5] using hj.symm
  subst e
  exact⟨_,_,⟨(cell_of_row _ _ _ _ _ _ h3).trans rfl,(cell_of_row _ _ _ _ _ _ h3).trans rfl,(cell_of_row _ _ _ _ _ _ h3).trans rfl,(cell_of_row _ _ _ _ _ _ h3).trans rfl,(cell_of_row _ _ _ _ _ _ h3).trans rfl,(cell_of_row _ _ _ _ _ _ h3).trans rfl,(cell_of_row _ _ _ _ _ _ h3).trans rfl,(cell_of_row _ _ _ _ _ _ h3).trans rfl⟩,aC0 h2⟩
 | j+4,hj=>simp[K5] at hj
theorem aJ6 {W:World} {q:Nat} {ab:Option Addr} {cb:Nat} {bs:List UInt8} (h:W.heap[q]? = some (.cells #[.string ⟨#[97]⟩,.slice ab bs.length cb] 83 (0,0))) (hb:Reads W (.slice ab bs.length cb) bs.length (bs.map U)):j9 W (.slice (some ⟨q,0,none⟩) 1 1) [⟨[97],bs⟩]:=by
 refine⟨_,1,rfl,Nat.le_refl _,by simp[maxLen],fun _=>⟨q,0,rfl,fun j f hj=>?_⟩⟩
 match j,hj with
 | 0,hj=>
  have e:f=⟨[97],bs⟩:=by simpa using hj.symm
  subst e
  exact⟨_,(cell_of_row _ _ _ _ _ _ h).trans rfl,(cell_of_row _ _ _ _ _ _ h).trans rfl,hb⟩
 | j+1,hj=>simp at hj
theorem aJ7 (n:Int):∀nd∈K5 n,M4 nd:=by intro nd hn;simp[K5] at hn;rcases hn with rfl | rfl | rfl | rfl <;> (refine⟨by simp,by simp,?_⟩;intro p hp;simp at hp;try (subst hp;decide))
theorem cn0 (n room:Int) (bs:List UInt8) (pk:List Int) (ab aq:Option Addr) (cb cq:Nat) (w:World) (hb:Reads w (.slice ab bs.length cb) bs.length (bs.map U)) (hq:Reads w (.slice aq pk.length cq) pk.length (Zs pk)) (hE:t8 w) (h:(newS (K5 n) [⟨[97],bs⟩] room).2≠0) :
 Calls Tryz.prog 8 #[.int .i64 n,.slice ab bs.length cb,.int .i64 room,.slice aq pk.length cq] w fun e w'=>e=.returned (.bool true)/\Bq w w':=by
 obtain⟨ns,hns⟩:=qE (K5 n);obtain⟨fs,hfs⟩:=qE ([⟨[97],bs⟩]:List SFile);obtain⟨W1,hW1⟩:=qE (ak0 w (ac9 w.heap.size n ab bs.length cb));have hB1:Bq w W1:=by rw[hW1];exact ad4 _ _
 have hNW:=aF4 (some ⟨w.heap.size+1+1+1,0,none⟩) (some ⟨w.heap.size+1+1+1+1+1,0,none⟩) 4 1 ns fs room W1 (by rw[hW1,hns];exact aJ5 w n ab bs.length cb) (by rw[hfs];exact aJ6 (by rw[hW1];exact X6 (ac9 w.heap.size n ab bs.length cb) w 5 _ rfl) (hb.below hB1)) (by rw[hns];exact aJ7 n) (by rw[hfs];intro f hf;simp at hf;subst hf;exact (show (1:Nat)<=9223372036854775807 by decide));have hl4:ns.length=4:=by rw[hns];rfl
 have hl1:fs.length=1:=by rw[hfs];rfl
 rw[hl4,hl1] at hNW;have HMI:Hid (∀V,Bq w V->Calls Tryz.prog 17 #[] V fun e w'=>e=.returned (.bool true)/\Bq V w'):=(show ∀V,_ from fun V hv=>aj8 V (hE.below hv));rw[<- hns,<- hfs] at h;have HNW:Hid _:=hNW;have HB1:=qH hB1;generalize newS ns fs room=nw at *;obtain⟨M0,f0⟩:=nw;simp only at h HNW;unfold ak0 ac9 at hW1;simp only[List.foldl_cons,List.foldl_nil] at hW1;generalize bs.length=NB at *;generalize pk.length=NPK at *;clear hb hq hE hNW hns hfs hl4 hl1 hB1;go_enter Tryz.func8,Tryz.ntmps8;go_wp2_with fail;rw[<- hW1];refine Calls.mono HNW.out ?_;rintro e w2 ⟨v,rfl,hA2,hb2⟩;have HB2:Hid (Bq w w2):=HB1.out.trans (hb2.mono HB1.out.size);obtain⟨an,af',ax,ap,aS,cn,cf',cx,cp,cs,rfl,hM2⟩:=hA2;unfold machV;generalize M0.ns.length=NN at *;generalize M0.fs.length=NF at *;generalize M0.pipes.length=NX at *;generalize M0.ps.length=NP at *;generalize M0.sunk.length=NS at *
 clear hM2 hb2 HNW hW1;go_wp2_with fail;refine Calls.mono (HMI.out _ (HB2.out.trans ((b9 (w:=w2)).mono HB2.out.size))) ?_;rintro e w3 ⟨rfl,hb3⟩;have HB3:Hid (Bq w w3):=HB2.out.trans ((Below.trans (b9 (w:=w2)) (hb3.mono (by simp))).mono HB2.out.size);clear hb3;have HM3:Hid _:=HMI.out _ HB3.out;clear HMI;go_wp2_with fail;refine Calls.mono HM3.out ?_;rintro e w4 ⟨rfl,hb4⟩;have HB4:Hid (Bq w w4):=HB3.out.trans (hb4.mono HB3.out.size);clear hb4;go_wp2_with fail;go_ret;exact⟨rfl,HB4.out⟩
theorem ct4 (n room:Int) (bs:List UInt8) (pk:List Int) (ab aq:Option Addr) (cb cq:Nat) (w:World) (hb:Reads w (.slice ab bs.length cb) bs.length (bs.map U)) (hq:Reads w (.slice aq pk.length cq) pk.length (Zs pk)) (hE:t8 w) (h:(newS (K5 n) [⟨[97],bs⟩] room).2=0) :
 Calls Tryz.prog 8 #[.int .i64 n,.slice ab bs.length cb,.int .i64 room,.slice aq pk.length cq] w fun e w'=>e=.returned (.bool true)/\Bq w w':=by
 obtain⟨ns,hns⟩:=qE (K5 n);obtain⟨fs,hfs⟩:=qE ([⟨[97],bs⟩]:List SFile);obtain⟨W1,hW1⟩:=qE (ak0 w (ac9 w.heap.size n ab bs.length cb));have hB1:Bq w W1:=by rw[hW1];exact ad4 _ _
 have hNW:=aF4 (some ⟨w.heap.size+1+1+1,0,none⟩) (some ⟨w.heap.size+1+1+1+1+1,0,none⟩) 4 1 ns fs room W1 (by rw[hW1,hns];exact aJ5 w n ab bs.length cb) (by rw[hfs];exact aJ6 (by rw[hW1];exact X6 (ac9 w.heap.size n ab bs.length cb) w 5 _ rfl) (hb.below hB1)) (by rw[hns];exact aJ7 n) (by rw[hfs];intro f hf;simp at hf;subst hf;exact (show (1:Nat)<=9223372036854775807 by decide));have hl4:ns.length=4:=by rw[hns];rfl
 have hl1:fs.length=1:=by rw[hfs];rfl
 rw[hl4,hl1] at hNW;have HMI:Hid (∀V,Bq w V->Calls Tryz.prog 17 #[] V fun e w'=>e=.returned (.bool true)/\Bq V w'):=(show ∀V,_ from fun V hv=>aj8 V (hE.below hv));obtain⟨hg,hfc,hbd,hr1,hr2,hnw⟩:=bZ7 h;rw[<- hns,<- hfs] at hnw hbd;rw[<- hns] at hg;rw[<- hfs] at hfc;rw[hnw] at hNW;simp only at hNW;have hfn:∀nd∈ns,M4 nd:=by rw[hns];exact aJ7 n
 have hff:∀f∈fs,M3 f:=by rw[hfs];intro f hf;simp at hf;subst hf;exact (show (1:Nat)<=9223372036854775807 by decide)
 have hre:Go.Gs.Reach ns fs room (o7 ns fs room):=Go.Gs.Reach.fresh (D7 hg) hr1 hr2;have HNW:Hid _:=hNW;have HB1:=qH hB1
 have Ak:Hid (∀(V:World) (an af ax ap aS:Option Addr) (cn cf cx cp cs:Nat),Bq w V->RMach V an af ax ap aS cn cf cx cp cs (o7 ns fs room)->Calls Tryz.prog 24 #[machV an af ax ap aS (o7 ns fs room) cn cf cx cp cs,.slice aq pk.length cq] V fun e w'=>∃v s,e=.returned (.tuple #[v,s,.int .i64 (runR (o7 ns fs room) pk).2.2])/\J4 V.heap.size w' v (runR (o7 ns fs room) pk).1/\Reads w' s (runR (o7 ns fs room) pk).2.1.length (Zs (runR (o7 ns fs room) pk).2.1)/\Bq V w'):=(show ∀(V:World) (an af ax ap aS:Option Addr) (cn cf cx cp cs:Nat),_ from fun V an af ax ap aS cn cf cx cp cs hv hM=>aO9 an af ax ap aS aq cn cf cx cp cs cq (o7 ns fs room) pk V hM (hq.below hv) (U0 hg hfc hfn hff hre) (fun V' hV'=>hE.below (hv.trans (hV'.mono hv.size))) (Go.Gs.Reach ns fs room) (fun _=>ac8 hg hfc hbd) (fun _=>hre))
 have HRR:Hid (runR (o7 ns fs room) pk=if 40000<pk.length then (H7,[],2) else ((l9 (o7 ns fs room) pk).1,(l9 (o7 ns fs room) pk).2,0)):=(show _=_ by unfold runR;rw[if_neg (by simp[hre.chk hg hfc hbd])]);obtain⟨M5,hM5⟩:=qE ((l9 (o7 ns fs room) pk).1);have hr5:Go.Gs.Reach ns fs room M5:=by rw[hM5];exact hre.picks (D7 hg) pk _
 rw[<- hM5] at HRR;obtain⟨kf,rf,hk,hov,hrf,hsk⟩:=ax9 hg hfc hbd hr1 hr5
 have Cb:Hid (∀(V:World) (an af ax ap aS:Option Addr) (cn cf cx cp cs:Nat),Bq w V->RMach V an af ax ap aS cn cf cx cp cs M5->Calls Tryz.prog 25 #[machV an af ax ap aS M5 cn cf cx cp cs] V fun e w'=>∃v,e=.returned (.tuple #[v,.int .i64 0])/\J4 V.heap.size w' v rf/\Bq V w'):=(show ∀(V:World) (an af ax ap aS:Option Addr) (cn cf cx cp cs:Nat),_ from fun V an af ax ap aS cn cf cx cp cs hv hM=>by
  have:=ap9 an af ax ap aS cn cf cx cp cs M5 V hM (U0 hg hfc hfn hff hr5) (fun V' hV'=>hE.below (hv.trans (hV'.mono hv.size))) (Go.Gs.Reach ns fs room) (fun _=>by rw[(J6 hr5).1,(J6 hr5).2];exact ac8 hg hfc hbd) (fun _=>hr5) kf (rf,0) (fun _=>hk)
  rw[show finR M5 (rf,0)=(rf,0) from by unfold finR;rw[if_neg (by simp[hr5.chk hg hfc hbd])]] at this
  exact this)
 obtain⟨p1,p2,x1,ob,hp1,hp2,hx1,hob⟩:=cs6 (by rw[hns] at hr5;exact hr5)
 have Xe:Hid (ob≠[]->x1.shut=true->x1.closed=false -> ∀(V:World) (an af ax ap aS:Option Addr) (cn cf cx cp cs:Nat),Bq w V->RMach V an af ax ap aS cn cf cx cp cs M5->Calls Tryz.prog 14 #[machV an af ax ap aS M5 cn cf cx cp cs,.int .i64 1] V fun e w'=>∃v X p' x',e=.returned (.tuple #[v,.int .i64 0])/\K8 w' v X/\X.ps[1]? = some p'/\p'.out=[[]]/\X.pipes[1]? = some x'/\x'.b=[]/\Bq V w'):=(show _->_->_ -> ∀(V:World) (an af ax ap aS:Option Addr) (cn cf cx cp cs:Nat),_ from fun hne hs hc V an af ax ap aS cn cf cx cp cs hv hM=>by
  have hS:=bz2 an af ax ap aS cn cf cx cp cs M5 1 V hM (U0 hg hfc hfn hff hr5) (fun V' hV'=>hE.below (hv.trans (hV'.mono hv.size)))
  obtain⟨q1,⟨p',q2,q3⟩,x',q4,q5⟩:=bZ8 (by rw[<- hns];exact hg) hfc (by rw[hns] at hr5;exact hr5) hp1 hx1 hob hne hs hc
  have hl:M5.ps.length=4:=by
   obtain⟨_,_,hI⟩:=hr5
   rw[hI.plen,hns]
   rfl
  have e1:stepS M5 1=I4 M5 1:=by
   unfold stepS
   rw[if_neg (by omega)]
   rfl
  have e2:az7 M5 1=I4 M5 1:=by
   unfold az7
   rw[if_neg (by simp[hr5.chk hg hfc hbd]),e1,if_neg (by simp[q1])]
  rw[e2,q1] at hS
  refine hS.mono ?_
  rintro e w' ⟨v,r1,r2,r3⟩
  exact⟨v,_,p',x',r1,r2,q2,q3,q4,q5,r3⟩)
 have HPC:Hid (∀x∈M5.pipes,pchk x=0):=(hr5.shape hg hfc).pipe
 have HEV:Hid (∀(V:World) (q:Nat),Bq W1 V->V.heap[q]? = some (.cells #[.string ⟨#[97]⟩,.slice ab bs.length cb] 83 (0,0))->Calls Tryz.prog 29 #[.agg #[.slice (some ⟨w.heap.size+1+1+1,0,none⟩) 4 4],.slice (some ⟨q,0,none⟩) 1 1] V fun e w'=>∃a c,e=.returned (.tuple #[.slice a (sunk ns fs).length c,.int .i64 0])/\Reads w' (.slice a (sunk ns fs).length c) (sunk ns fs).length ((sunk ns fs).map U)/\Bq V w'):=(show ∀(V:World) (q:Nat),_ from fun V q hv Aj=>by
  have:=ct3 ns (some ⟨w.heap.size+1+1+1,0,none⟩) (some ⟨q,0,none⟩) 4 1 fs V (by rw[hl4];exact A2.below (by rw[hW1,hns];exact aJ5 w n ab bs.length cb) hv) hfn (by rw[hfs];exact aJ6 Aj ((hb.below hB1).below hv)) hff (hE.below (hB1.trans (hv.mono hB1.size)))
  rw[aF8 hg hfc,hl4,hl1] at this
  exact this)
 have HG1:Hid (W1.cell? ⟨w.heap.size+1+1+1+1,0,none⟩=some (.slice (some ⟨w.heap.size+1+1+1,0,none⟩) 4 4)):=(show _=_ by
  have h4:=X6 (ac9 w.heap.size n ab bs.length cb) w 4 _ rfl
  rw[<- hW1] at h4
  exact (cell_of_row _ _ _ _ _ _ h4).trans rfl)
 have HFS:Hid (overS rf=true/\rf.sunk=sunk ns fs):=⟨hov,hsk⟩;have HP1:Hid (M5.ps[1]? = some p1/\M5.ps[2]? = some p2/\M5.pipes[1]? = some x1/\p1.out=[ob]/\M5.ps.length=4/\M5.pipes.length=3):=⟨hp1,hp2,hx1,hob,by obtain⟨_,_,hI⟩:=hr5;rw[hI.plen,hns];rfl,by obtain⟨_,_,hI⟩:=hr5;rw[hI.xlen,hns];rfl⟩;obtain⟨want,Tu⟩:=qE (sunk ns fs);rw[<- Tu] at HEV HFS;obtain⟨M0,hM0⟩:=qE (o7 ns fs room);rw[<- hM0] at HNW Ak HRR;unfold ak0 ac9 at hW1;simp only[List.foldl_cons,List.foldl_nil] at hW1;generalize bs.length=NB at *;generalize Re:pk.length=NPK at *;clear hb hq hE hNW hns hfs hl4 hl1 hB1 h hg hfc hbd hr1 hr2 hnw hfn hff hre hM5 hr5 hk hov hrf hsk hp1 hp2 hx1 hob Tu hM0 Re;go_enter Tryz.func8,Tryz.ntmps8;go_wp2_with fail;rw[<- hW1];refine Calls.mono HNW.out ?_;rintro e w2 ⟨v,rfl,hA2,hb2⟩;have HB2:Hid (Bq w w2):=HB1.out.trans (hb2.mono HB1.out.size);have It:=qH hb2
 obtain⟨an,af',ax,ap,aS,cn,cf',cx,cp,cs,rfl,hM2⟩:=hA2;obtain⟨W2,hW2⟩:=qE (w2.alloc (.cells #[.slice an M0.ns.length cn,.slice af' M0.fs.length cf',.slice ax M0.pipes.length cx,.slice ap M0.ps.length cp,.slice aS M0.sunk.length cs] 30));have hbW:Bq w2 W2:=by rw[hW2];exact b9
 obtain⟨B,hB⟩:=qE w2.heap.size;have HBB:Hid (w.heap.size<=B/\W1.heap.size<=B):=(show _/\_ by rw[hB];exact⟨HB2.out.size,It.out.size⟩);have HBW:Hid (Bq w W2):=HB2.out.trans (hbW.mono HB2.out.size);have Lj:Hid (Bq W1 W2):=It.out.trans (hbW.mono It.out.size);have HBX:Hid (W2.heap[B]? = some (.cells #[.slice an M0.ns.length cn,.slice af' M0.fs.length cf',.slice ax M0.pipes.length cx,.slice ap M0.ps.length cp,.slice aS M0.sunk.length cs] 30 (0,0))/\RMach W2 an af' ax ap aS cn cf' cx cp cs M0):=(show _/\_ from ⟨by rw[hW2,hB];exact heap_alloc_new _ _,hM2.below hbW⟩);unfold machV at Ak ⊢;generalize M0.ns.length=N0 at *;generalize M0.fs.length=N1 at *;generalize M0.pipes.length=N2 at *;generalize M0.ps.length=N3 at *;generalize M0.sunk.length=N4 at *;clear hM2 hb2 HNW hbW hW1;go_upto_region 3 with fail;rw[<- hW2,<- hB];clear hW2 hB;go_wp2_with fail;refine Calls.mono (HMI.out _ HBW.out) ?_
 rintro e w4 ⟨rfl,hb4⟩;have HB4:Hid (Bq w w4):=HBW.out.trans (hb4.mono HBW.out.size);have Ib:Hid (Bq W1 w4):=Lj.out.trans (hb4.mono Lj.out.size);have Ll:Hid (w4.heap[B]? = some (.cells #[.slice an N0 cn,.slice af' N1 cf',.slice ax N2 cx,.slice ap N3 cp,.slice aS N4 cs] 30 (0,0))/\RMach w4 an af' ax ap aS cn cf' cx cp cs M0):=(show _/\_ from ⟨(hb4.block B (aSm HBX.out.1).1).trans HBX.out.1,HBX.out.2.below hb4⟩);obtain⟨x0,xx1,x2,x3,x4,_⟩:=j6 Ll.out.1;have HRC:Hid _:=Ak.out w4 an af' ax ap aS cn cf' cx cp cs HB4.out Ll.out.2;clear hb4 HBX HMI Ak;go_wp2_with fail;refine Calls.mono HRC.out ?_;rintro e w5 ⟨v5,s5,rfl,hA5,hS5,hb5⟩;have HB5:Hid (Bq w w5):=HB4.out.trans (hb5.mono HB4.out.size);have HB15:Hid (Bq W1 w5):=Ib.out.trans (hb5.mono Ib.out.size);have Cd:=(hb5.block B (aSm Ll.out.1).1).trans Ll.out.1;have hBL:B<w4.heap.size:=(aSm Ll.out.1).1
 obtain⟨bn,bf,bx,bp,bS,dn,df,dx,dp,ds,rfl,hN5⟩:=hA5;obtain⟨y0,y1,y2,y3,y4,yf⟩:=j6 Cd;have yf0:=yf 0;have yf1:=yf 1;have yf2:=yf 2;have yf3:=yf 3;have yf4:=yf 4;rw[HRR.out] at hN5 ⊢;unfold machV;clear hb5 hS5 x0 xx1 x2 x3 x4 HRC yf HRR;by_cases hp4:40000<NPK
 . rw[if_pos hp4];simp only;generalize H7.ns.length=Z0 at *;generalize H7.fs.length=Z1 at *;generalize H7.pipes.length=Z2 at *;generalize H7.ps.length=Z3 at *;generalize H7.sunk.length=Z4 at *;clear hN5 Cd Cb HFS Xe HP1 HPC;go_wp2_with fail;go_ret;exact⟨rfl,D3 HB5.out HBB.out.1⟩
 .
  rw[if_neg hp4] at hN5 ⊢;simp only at hN5 ⊢;obtain⟨W6,hW6⟩:=qE (((((w5.setCell ⟨B,0,none⟩ (.slice bn M5.ns.length dn)).setCell ⟨B,1,none⟩ (.slice bf M5.fs.length df)).setCell ⟨B,2,none⟩ (.slice bx M5.pipes.length dx)).setCell ⟨B,3,none⟩ (.slice bp M5.ps.length dp)).setCell ⟨B,4,none⟩ (.slice bS M5.sunk.length ds));have hBX:=(L8 (b:=B) hN5 hBL Cd rfl rfl rfl rfl rfl).2.self;have Dw:=S0 (v0:=.slice bn M5.ns.length dn) (v1:=.slice bf M5.fs.length df) (v2:=.slice bx M5.pipes.length dx) (v3:=.slice bp M5.ps.length dp) (v4:=.slice bS M5.sunk.length ds) Cd;rw[<- hW6] at hBX Dw;have HB6:Hid (Bq w W6):=(show Below _ _ _ by rw[hW6];exact D3 HB5.out HBB.out.1);have Gq:Hid (Bq W1 W6):=(show Below _ _ _ by rw[hW6];exact D3 HB15.out HBB.out.2);obtain⟨hp1,hp2,hx1,hob,Xf,Ri⟩:=HP1.out;have hRM6:=hBX
  obtain⟨gP,oP,ag1,cg1,ao1,co1,hap,c10,c11,c12,c13,c14,_,Rj⟩:=hBX.procs.at hp1;obtain⟨gP',oP',ag2,cg2,ao2,co2,Rk,c20,c21,c22,c23,c24,_,_⟩:=hBX.procs.at hp2;rw[hap] at Rk;injection Rk with Rk;injection Rk with ea eb;subst ea eb;obtain⟨gX,oX,ax1,cx1,hax,d0,d1,d2,d3,_⟩:=hBX.pipes.at hx1;have hol:p1.out.length=1:=by rw[hob];rfl
  rw[hol] at c12 Rj;obtain⟨gO,oO,ab1,cb1,hao,f0,_⟩:=Rj.at (k:=0) (p:=ob) (by rw[hob];rfl);have Qd:=(ag6 Rj).2;have hleP:=af8 hBX.procs;have hleX:=al1 hBX.pipes;have Ax:=qH Dw;have Gt:=qH hBX;have HF6:Hid _:=fun V (hV:Bq w V) (hM:RMach V bn bf bx bp bS dn df dx dp ds M5)=>Cb.out V bn bf bx bp bS dn df dx dp ds hV hM;have HS6:Hid _:=fun a b c=>Xe.out a b c W6 bn bf bx bp bS dn df dx dp ds HB6.out Gt.out;have HXL:=qH Ri;have HOB:Hid (0<ob.length->ob≠[]):=(show _->_ from fun h e=>by rw[e] at h;exact absurd h (by decide));unfold machV at HF6 HS6;rw[Xf] at Ax HF6 HS6 hleP hW6;rw[Ri] at Ax HF6 HS6 hleX hW6;rw[Xf,Ri];subst hap hax hao;generalize M5.ns.length=P0 at *;generalize M5.fs.length=P1 at *;generalize M5.sunk.length=P4 at *;generalize ob.length=OL at *;generalize p2.rd=rd at *;generalize x1.shut=sh at *;generalize x1.closed=cl at *
  generalize p1.got.length=gl1 at *;generalize p1.pos=pp1 at *;generalize p1.rd=rd1 at *;generalize p1.ov=ov1 at *;generalize p2.got.length=gl2 at *;generalize p2.out.length=ol2 at *;generalize p2.pos=pp2 at *;generalize p2.ov=ov2 at *;generalize x1.b.length=bl1 at *;generalize x1.room=ro1 at *;clear hN5 Cd Dw hBX hRM6 Cb Xe HP1 hp1 hp2 hx1 hob Xf Ri hol Rj hBL HB15 Ib Lj It Ll;go_upto_region 8 with fail;rw[<- hW6];obtain⟨z0,z1,z2,z3,z4,_⟩:=j6 Ax.out;clear hW6 y0 y1 y2 y3 y4 yf0 yf1 yf2 yf3 yf4;simp only[Nat.reduceMul,Nat.add_zero] at c10 c11 c12 c13 c14 c20 c21 c22 c23 c24 d0 d1 d2 d3 f0
  cases rd with
  | false=>
   go_upto_region 12 with fail
   obtain⟨t0,t1,t2,t3,t4,_⟩:=j6 Ax.out
   clear z0 z1 z2 z3 z4 c10 c11 c12 c13 c14 c20 c21 c22 c23 c24 d0 d1 d2 d3 f0 HS6
   go_wp2_with fail
   clear t0 t1 t2 t3 t4
   go_loopw [121] (fun z wr=>∃q:Nat,q<=3/\z=.int .i64 q/\Hid (Bq W6 wr)) (fun z _=>3-(intOf z).toNat)
   case atStart=>exact⟨0,Nat.zero_le _,rfl,Below.refl _ _⟩
   case round=>
    obtain⟨q,hq,rfl,hB7⟩:=hrel
    by_cases hq3:q<3
    .
     obtain⟨x,hx⟩:∃x,M5.pipes[q]? = some x:=⟨_,gEl (by have:=HXL.out;omega)⟩
     have hpa:=(RMach.below Gt.out hB7.out).pipes
     obtain⟨gq,oq,aq',cq',hgq,k0,k1,k2,k3,k4⟩:=hpa.at hx
     injection hgq with hgq
     injection hgq with ea eb
     subst ea eb
     have Rl:=R7 k4
     have hck:=HPC.out x (mGt hx)
     have HPK:Hid (∀V,Calls Tryz.prog 37 #[.agg #[.slice aq' x.b.length cq',.int .i64 x.room,.bool x.closed,.bool x.shut]] V fun e w'=>e=.returned (.int .i64 0)/\Bq V w'):=(show ∀V,_ from fun V=>by
      have:=U2 aq' x.b.length cq' x.room x.closed x.shut V (by omega)
      rw[show pck x.b.length x.room x.shut=0 from hck] at this
      exact this)
     generalize x.b.length=xl at *
     generalize x.room=xr at *
     generalize x.closed=xc at *
     generalize x.shut=xs at *
     clear hx hck hpa k4
     go_wp2_with fail
     refine Calls.mono (HPK.out _) ?_
     rintro e w8 ⟨rfl,hb8⟩
     have Ic:Hid (Bq W6 w8):=hB7.out.trans ((Below.trans (b9 (w:=wr)) (hb8.mono (by simp))).mono hB7.out.size)
     clear hb8 HPK
     go_wp2_with fail
     go_roundw
     case rel=>exact⟨q+1,by omega,by go_num,Ic⟩
     case measure=>simp[intOf];omega
    .
     have HBr:Hid (Bq w wr):=HB6.out.trans (hB7.out.mono HB6.out.size)
     have Es:Hid (Bq W1 wr):=Gq.out.trans (hB7.out.mono Gq.out.size)
     have As:=(hB7.out.block B (aSm Ax.out).1).trans Ax.out
     have HFC:Hid _:=HF6.out wr HBr.out (RMach.below Gt.out hB7.out)
     have Cm:=qH As
     obtain⟨u0,u1,u2,u3,u4,_⟩:=j6 As
     clear As HF6 HPC hB7
     go_wp2_with fail
     refine Calls.mono HFC.out ?_
     rintro e w8 ⟨v8,rfl,hA8,hb8⟩
     have Dk:B<wr.heap.size:=(aSm Cm.out).1
     have Ah:=(hb8.block B Dk).trans Cm.out
     obtain⟨en8,ef8,ex8,ep8,eS8,gn8,gf8,gx8,gp8,gs8,rfl,hN8⟩:=hA8
     obtain⟨y0,y1,y2,y3,y4,yf⟩:=j6 Ah
     have yf0:=yf 0
     have yf1:=yf 1
     have yf2:=yf 2
     have yf3:=yf 3
     have yf4:=yf 4
     unfold machV
     obtain⟨W9,hW9⟩:=qE (((((w8.setCell ⟨B,0,none⟩ (.slice en8 rf.ns.length gn8)).setCell ⟨B,1,none⟩ (.slice ef8 rf.fs.length gf8)).setCell ⟨B,2,none⟩ (.slice ex8 rf.pipes.length gx8)).setCell ⟨B,3,none⟩ (.slice ep8 rf.ps.length gp8)).setCell ⟨B,4,none⟩ (.slice eS8 rf.sunk.length gs8))
     have hBX:=(L8 (b:=B) hN8 Dk Ah rfl rfl rfl rfl rfl).2.self.sunk
     have Bh:=S0 (v0:=.slice en8 rf.ns.length gn8) (v1:=.slice ef8 rf.fs.length gf8) (v2:=.slice ex8 rf.pipes.length gx8) (v3:=.slice ep8 rf.ps.length gp8) (v4:=.slice eS8 rf.sunk.length gs8) Ah
     rw[<- hW9] at hBX Bh
     have HB9:Hid (Bq w W9):=(show Below _ _ _ by rw[hW9];exact D3 (HBr.out.trans (hb8.mono HBr.out.size)) HBB.out.1)
     have Dl:Hid (Bq W1 W9):=(show Below _ _ _ by rw[hW9];exact D3 (Es.out.trans (hb8.mono Es.out.size)) HBB.out.2)
     have HSK:=qH hBX
     have Bi:=qH Bh
     have g9:=(Dl.out.cell (bLt W1 _ HG1.out)).trans HG1.out
     have HEC:Hid _:=HEV.out (W9.alloc (.cells #[.string ⟨#[97]⟩,.slice ab NB cb] 83)) W9.heap.size (Dl.out.trans ((b9 (w:=W9)).mono Dl.out.size)) (heap_alloc_new _ _)
     have Ie:Hid (rf.sunk=want):=HFS.out.2
     generalize rf.ns.length=Q0 at *
     generalize rf.fs.length=Q1 at *
     generalize rf.pipes.length=Q2 at *
     generalize rf.ps.length=Q3 at *
     obtain⟨Q4,hQ4⟩:=qE rf.sunk.length
     have HQ4:=qH hQ4
     rw[<- hQ4] at hW9 Bi ⊢
     clear hN8 hBX Ah Bh hb8 HFC u0 u1 u2 u3 u4 yf HEV HG1 HFS hQ4 Dk
     go_upto_region 19 with fail
     rw[<- hW9]
     clear hW9 y0 y1 y2 y3 y4 yf0 yf1 yf2 yf3 yf4
     go_wp2_with fail
     refine Calls.mono HEC.out ?_
     rintro e wa ⟨a4,c4,rfl,hr4,hba⟩
     have Ce:Bq W9 wa:=Below.trans (b9 (w:=W9)) (hba.mono (by simp))
     have HBa:Hid (Bq w wa):=HB9.out.trans (Ce.mono HB9.out.size)
     obtain⟨z0,z1,z2,z3,z4,_⟩:=j6 ((Ce.block B (aSm Bi.out).1).trans Bi.out)
     have HE9:Hid (Calls Tryz.prog 30 #[.slice eS8 Q4 gs8,.slice a4 want.length c4] wa fun e w'=>e=.returned (.bool true)/\Bq wa w'):=(show Calls _ _ _ _ _ by
      have:=Y2 eS8 a4 gs8 c4 rf.sunk want wa (Reads.below HSK.out Ce) hr4
      rw[HQ4.out]
      rw[Ie.out] at this ⊢
      simpa using this)
     generalize want.length=WL at *
     clear hr4 hba Ce HEC g9
     go_wp2_with fail
     refine Calls.mono HE9.out ?_
     rintro e wb ⟨rfl,hbb⟩
     have HBb:Hid (Bq w wb):=HBa.out.trans (hbb.mono HBa.out.size)
     clear hbb HE9
     go_wp2_with fail
     go_ret
     exact⟨rfl,HBb.out⟩
  | true=>
   cases sh with
   | false=>
    go_upto_region 12 with fail
    obtain⟨t0,t1,t2,t3,t4,_⟩:=j6 Ax.out
    clear z0 z1 z2 z3 z4 c10 c11 c12 c13 c14 c20 c21 c22 c23 c24 d0 d1 d2 d3 f0 HS6
    go_wp2_with fail
    clear t0 t1 t2 t3 t4
    go_loopw [121] (fun z wr=>∃q:Nat,q<=3/\z=.int .i64 q/\Hid (Bq W6 wr)) (fun z _=>3-(intOf z).toNat)
    case atStart=>exact⟨0,Nat.zero_le _,rfl,Below.refl _ _⟩
    case round=>
     obtain⟨q,hq,rfl,hB7⟩:=hrel
     by_cases hq3:q<3
     .
      obtain⟨x,hx⟩:∃x,M5.pipes[q]? = some x:=⟨_,gEl (by have:=HXL.out;omega)⟩
      have hpa:=(RMach.below Gt.out hB7.out).pipes
      obtain⟨gq,oq,aq',cq',hgq,k0,k1,k2,k3,k4⟩:=hpa.at hx
      injection hgq with hgq
      injection hgq with ea eb
      subst ea eb
      have Rl:=R7 k4
      have hck:=HPC.out x (mGt hx)
      have HPK:Hid (∀V,Calls Tryz.prog 37 #[.agg #[.slice aq' x.b.length cq',.int .i64 x.room,.bool x.closed,.bool x.shut]] V fun e w'=>e=.returned (.int .i64 0)/\Bq V w'):=(show ∀V,_ from fun V=>by
       have:=U2 aq' x.b.length cq' x.room x.closed x.shut V (by omega)
       rw[show pck x.b.length x.room x.shut=0 from hck] at this
       exact this)
      generalize x.b.length=xl at *
      generalize x.room=xr at *
      generalize x.closed=xc at *
      generalize x.shut=xs at *
      clear hx hck hpa k4
      go_wp2_with fail
      refine Calls.mono (HPK.out _) ?_
      rintro e w8 ⟨rfl,hb8⟩
      have Ic:Hid (Bq W6 w8):=hB7.out.trans ((Below.trans (b9 (w:=wr)) (hb8.mono (by simp))).mono hB7.out.size)
      clear hb8 HPK
      go_wp2_with fail
      go_roundw
      case rel=>exact⟨q+1,by omega,by go_num,Ic⟩
      case measure=>simp[intOf];omega
     .
      have HBr:Hid (Bq w wr):=HB6.out.trans (hB7.out.mono HB6.out.size)
      have Es:Hid (Bq W1 wr):=Gq.out.trans (hB7.out.mono Gq.out.size)
      have As:=(hB7.out.block B (aSm Ax.out).1).trans Ax.out
      have HFC:Hid _:=HF6.out wr HBr.out (RMach.below Gt.out hB7.out)
      have Cm:=qH As
      obtain⟨u0,u1,u2,u3,u4,_⟩:=j6 As
      clear As HF6 HPC hB7
      go_wp2_with fail
      refine Calls.mono HFC.out ?_
      rintro e w8 ⟨v8,rfl,hA8,hb8⟩
      have Dk:B<wr.heap.size:=(aSm Cm.out).1
      have Ah:=(hb8.block B Dk).trans Cm.out
      obtain⟨en8,ef8,ex8,ep8,eS8,gn8,gf8,gx8,gp8,gs8,rfl,hN8⟩:=hA8
      obtain⟨y0,y1,y2,y3,y4,yf⟩:=j6 Ah
      have yf0:=yf 0
      have yf1:=yf 1
      have yf2:=yf 2
      have yf3:=yf 3
      have yf4:=yf 4
      unfold machV
      obtain⟨W9,hW9⟩:=qE (((((w8.setCell ⟨B,0,none⟩ (.slice en8 rf.ns.length gn8)).setCell ⟨B,1,none⟩ (.slice ef8 rf.fs.length gf8)).setCell ⟨B,2,none⟩ (.slice ex8 rf.pipes.length gx8)).setCell ⟨B,3,none⟩ (.slice ep8 rf.ps.length gp8)).setCell ⟨B,4,none⟩ (.slice eS8 rf.sunk.length gs8))
      have hBX:=(L8 (b:=B) hN8 Dk Ah rfl rfl rfl rfl rfl).2.self.sunk
      have Bh:=S0 (v0:=.slice en8 rf.ns.length gn8) (v1:=.slice ef8 rf.fs.length gf8) (v2:=.slice ex8 rf.pipes.length gx8) (v3:=.slice ep8 rf.ps.length gp8) (v4:=.slice eS8 rf.sunk.length gs8) Ah
      rw[<- hW9] at hBX Bh
      have HB9:Hid (Bq w W9):=(show Below _ _ _ by rw[hW9];exact D3 (HBr.out.trans (hb8.mono HBr.out.size)) HBB.out.1)
      have Dl:Hid (Bq W1 W9):=(show Below _ _ _ by rw[hW9];exact D3 (Es.out.trans (hb8.mono Es.out.size)) HBB.out.2)
      have HSK:=qH hBX
      have Bi:=qH Bh
      have g9:=(Dl.out.cell (bLt W1 _ HG1.out)).trans HG1.out
      have HEC:Hid _:=HEV.out (W9.alloc (.cells #[.string ⟨#[97]⟩,.slice ab NB cb] 83)) W9.heap.size (Dl.out.trans ((b9 (w:=W9)).mono Dl.out.size)) (heap_alloc_new _ _)
      have Ie:Hid (rf.sunk=want):=HFS.out.2
      generalize rf.ns.length=Q0 at *
      generalize rf.fs.length=Q1 at *
      generalize rf.pipes.length=Q2 at *
      generalize rf.ps.length=Q3 at *
      obtain⟨Q4,hQ4⟩:=qE rf.sunk.length
      have HQ4:=qH hQ4
      rw[<- hQ4] at hW9 Bi ⊢
      clear hN8 hBX Ah Bh hb8 HFC u0 u1 u2 u3 u4 yf HEV HG1 HFS hQ4 Dk
      go_upto_region 19 with fail
      rw[<- hW9]
      clear hW9 y0 y1 y2 y3 y4 yf0 yf1 yf2 yf3 yf4
      go_wp2_with fail
      refine Calls.mono HEC.out ?_
      rintro e wa ⟨a4,c4,rfl,hr4,hba⟩
      have Ce:Bq W9 wa:=Below.trans (b9 (w:=W9)) (hba.mono (by simp))
      have HBa:Hid (Bq w wa):=HB9.out.trans (Ce.mono HB9.out.size)
      obtain⟨z0,z1,z2,z3,z4,_⟩:=j6 ((Ce.block B (aSm Bi.out).1).trans Bi.out)
      have HE9:Hid (Calls Tryz.prog 30 #[.slice eS8 Q4 gs8,.slice a4 want.length c4] wa fun e w'=>e=.returned (.bool true)/\Bq wa w'):=(show Calls _ _ _ _ _ by
       have:=Y2 eS8 a4 gs8 c4 rf.sunk want wa (Reads.below HSK.out Ce) hr4
       rw[HQ4.out]
       rw[Ie.out] at this ⊢
       simpa using this)
      generalize want.length=WL at *
      clear hr4 hba Ce HEC g9
      go_wp2_with fail
      refine Calls.mono HE9.out ?_
      rintro e wb ⟨rfl,hbb⟩
      have HBb:Hid (Bq w wb):=HBa.out.trans (hbb.mono HBa.out.size)
      clear hbb HE9
      go_wp2_with fail
      go_ret
      exact⟨rfl,HBb.out⟩
   | true=>
    by_cases hO:0<OL
    .
     cases cl with
     | true=>
      go_upto_region 12 with fail
      obtain⟨t0,t1,t2,t3,t4,_⟩:=j6 Ax.out
      clear z0 z1 z2 z3 z4 c10 c11 c12 c13 c14 c20 c21 c22 c23 c24 d0 d1 d2 d3 f0 HS6
      go_wp2_with fail
      clear t0 t1 t2 t3 t4
      go_loopw [121] (fun z wr=>∃q:Nat,q<=3/\z=.int .i64 q/\Hid (Bq W6 wr)) (fun z _=>3-(intOf z).toNat)
      case atStart=>exact⟨0,Nat.zero_le _,rfl,Below.refl _ _⟩
      case round=>
       obtain⟨q,hq,rfl,hB7⟩:=hrel
       by_cases hq3:q<3
       .
        obtain⟨x,hx⟩:∃x,M5.pipes[q]? = some x:=⟨_,gEl (by have:=HXL.out;omega)⟩
        have hpa:=(RMach.below Gt.out hB7.out).pipes
        obtain⟨gq,oq,aq',cq',hgq,k0,k1,k2,k3,k4⟩:=hpa.at hx
        injection hgq with hgq
        injection hgq with ea eb
        subst ea eb
        have Rl:=R7 k4
        have hck:=HPC.out x (mGt hx)
        have HPK:Hid (∀V,Calls Tryz.prog 37 #[.agg #[.slice aq' x.b.length cq',.int .i64 x.room,.bool x.closed,.bool x.shut]] V fun e w'=>e=.returned (.int .i64 0)/\Bq V w'):=(show ∀V,_ from fun V=>by
         have:=U2 aq' x.b.length cq' x.room x.closed x.shut V (by omega)
         rw[show pck x.b.length x.room x.shut=0 from hck] at this
         exact this)
        generalize x.b.length=xl at *
        generalize x.room=xr at *
        generalize x.closed=xc at *
        generalize x.shut=xs at *
        clear hx hck hpa k4
        go_wp2_with fail
        refine Calls.mono (HPK.out _) ?_
        rintro e w8 ⟨rfl,hb8⟩
        have Ic:Hid (Bq W6 w8):=hB7.out.trans ((Below.trans (b9 (w:=wr)) (hb8.mono (by simp))).mono hB7.out.size)
        clear hb8 HPK
        go_wp2_with fail
        go_roundw
        case rel=>exact⟨q+1,by omega,by go_num,Ic⟩
        case measure=>simp[intOf];omega
       .
        have HBr:Hid (Bq w wr):=HB6.out.trans (hB7.out.mono HB6.out.size)
        have Es:Hid (Bq W1 wr):=Gq.out.trans (hB7.out.mono Gq.out.size)
        have As:=(hB7.out.block B (aSm Ax.out).1).trans Ax.out
        have HFC:Hid _:=HF6.out wr HBr.out (RMach.below Gt.out hB7.out)
        have Cm:=qH As
        obtain⟨u0,u1,u2,u3,u4,_⟩:=j6 As
        clear As HF6 HPC hB7
        go_wp2_with fail
        refine Calls.mono HFC.out ?_
        rintro e w8 ⟨v8,rfl,hA8,hb8⟩
        have Dk:B<wr.heap.size:=(aSm Cm.out).1
        have Ah:=(hb8.block B Dk).trans Cm.out
        obtain⟨en8,ef8,ex8,ep8,eS8,gn8,gf8,gx8,gp8,gs8,rfl,hN8⟩:=hA8
        obtain⟨y0,y1,y2,y3,y4,yf⟩:=j6 Ah
        have yf0:=yf 0
        have yf1:=yf 1
        have yf2:=yf 2
        have yf3:=yf 3
        have yf4:=yf 4
        unfold machV
        obtain⟨W9,hW9⟩:=qE (((((w8.setCell ⟨B,0,none⟩ (.slice en8 rf.ns.length gn8)).setCell ⟨B,1,none⟩ (.slice ef8 rf.fs.length gf8)).setCell ⟨B,2,none⟩ (.slice ex8 rf.pipes.length gx8)).setCell ⟨B,3,none⟩ (.slice ep8 rf.ps.length gp8)).setCell ⟨B,4,none⟩ (.slice eS8 rf.sunk.length gs8))
        have hBX:=(L8 (b:=B) hN8 Dk Ah rfl rfl rfl rfl rfl).2.self.sunk
        have Bh:=S0 (v0:=.slice en8 rf.ns.length gn8) (v1:=.slice ef8 rf.fs.length gf8) (v2:=.slice ex8 rf.pipes.length gx8) (v3:=.slice ep8 rf.ps.length gp8) (v4:=.slice eS8 rf.sunk.length gs8) Ah
        rw[<- hW9] at hBX Bh
        have HB9:Hid (Bq w W9):=(show Below _ _ _ by rw[hW9];exact D3 (HBr.out.trans (hb8.mono HBr.out.size)) HBB.out.1)
        have Dl:Hid (Bq W1 W9):=(show Below _ _ _ by rw[hW9];exact D3 (Es.out.trans (hb8.mono Es.out.size)) HBB.out.2)
        have HSK:=qH hBX
        have Bi:=qH Bh
        have g9:=(Dl.out.cell (bLt W1 _ HG1.out)).trans HG1.out
        have HEC:Hid _:=HEV.out (W9.alloc (.cells #[.string ⟨#[97]⟩,.slice ab NB cb] 83)) W9.heap.size (Dl.out.trans ((b9 (w:=W9)).mono Dl.out.size)) (heap_alloc_new _ _)
        have Ie:Hid (rf.sunk=want):=HFS.out.2
        generalize rf.ns.length=Q0 at *
        generalize rf.fs.length=Q1 at *
        generalize rf.pipes.length=Q2 at *
        generalize rf.ps.length=Q3 at *
        obtain⟨Q4,hQ4⟩:=qE rf.sunk.length
        have HQ4:=qH hQ4
        rw[<- hQ4] at hW9 Bi ⊢
        clear hN8 hBX Ah Bh hb8 HFC u0 u1 u2 u3 u4 yf HEV HG1 HFS hQ4 Dk
        go_upto_region 19 with fail
        rw[<- hW9]
        clear hW9 y0 y1 y2 y3 y4 yf0 yf1 yf2 yf3 yf4
        go_wp2_with fail
        refine Calls.mono HEC.out ?_
        rintro e wa ⟨a4,c4,rfl,hr4,hba⟩
        have Ce:Bq W9 wa:=Below.trans (b9 (w:=W9)) (hba.mono (by simp))
        have HBa:Hid (Bq w wa):=HB9.out.trans (Ce.mono HB9.out.size)
        obtain⟨z0,z1,z2,z3,z4,_⟩:=j6 ((Ce.block B (aSm Bi.out).1).trans Bi.out)
        have HE9:Hid (Calls Tryz.prog 30 #[.slice eS8 Q4 gs8,.slice a4 want.length c4] wa fun e w'=>e=.returned (.bool true)/\Bq wa w'):=(show Calls _ _ _ _ _ by
         have:=Y2 eS8 a4 gs8 c4 rf.sunk want wa (Reads.below HSK.out Ce) hr4
         rw[HQ4.out]
         rw[Ie.out] at this ⊢
         simpa using this)
        generalize want.length=WL at *
        clear hr4 hba Ce HEC g9
        go_wp2_with fail
        refine Calls.mono HE9.out ?_
        rintro e wb ⟨rfl,hbb⟩
        have HBb:Hid (Bq w wb):=HBa.out.trans (hbb.mono HBa.out.size)
        clear hbb HE9
        go_wp2_with fail
        go_ret
        exact⟨rfl,HBb.out⟩
     | false=>
      have HSX:Hid _:=HS6.out (HOB.out hO) rfl rfl
      go_wp2_with fail
      refine Calls.mono HSX.out ?_
      rintro e w7 ⟨v7,X,p',x',rfl,hA7,hq1,hq2,hq3,hq4,hb7⟩
      obtain⟨en,ef,ex,ep,eS,gn,gf,gx,gp,gs,rfl,hM7⟩:=hA7
      have hlo:p'.out.length=1:=by rw[hq2];rfl
      have hlP:=(gSm hq1).1
      have hlX:=(gSm hq3).1
      have hleP7:=af8 hM7.procs
      have hleX7:=al1 hM7.pipes
      obtain⟨gP7,oP7,ag7,cg7,ao7,co7,hap7,e0,e1,e2,e3,e4,_,Rm⟩:=hM7.procs.at hq1
      obtain⟨gX7,oX7,ax7,cx7,hax7,i0,i1,i2,i3,_⟩:=hM7.pipes.at hq3
      rw[hlo] at e2 Rm
      have hle7:=(ag6 Rm).2
      obtain⟨gO7,oO7,au7,cu7,hao7,j0,_⟩:=Rm.at (k:=0) (p:=[]) (by rw[hq2];rfl)
      rw[hq4] at i0
      simp only[Nat.reduceMul,Nat.add_zero,List.length_nil] at e0 e1 e2 e3 e4 i0 i1 i2 i3 j0
      unfold machV
      subst hap7 hax7 hao7
      obtain⟨W8,hW8⟩:=qE (w7.alloc (.cells #[.slice en X.ns.length gn,.slice ef X.fs.length gf,.slice (some ⟨gX7,oX7,none⟩) X.pipes.length gx,.slice (some ⟨gP7,oP7,none⟩) X.ps.length gp,.slice eS X.sunk.length gs] 30))
      have Ph:Bq W6 W8:=by rw[hW8];exact hb7.trans ((b9 (w:=w7)).mono hb7.size)
      have HB8:Hid (Bq w W8):=HB6.out.trans (Ph.mono HB6.out.size)
      have HB18:Hid (Bq W1 W8):=Gq.out.trans (Ph.mono Gq.out.size)
      have Pi:Hid (W8.heap[B]? = some (.cells #[.slice bn P0 dn,.slice bf P1 df,.slice (some ⟨gX,oX,none⟩) 3 dx,.slice (some ⟨gP,oP,none⟩) 4 dp,.slice bS P4 ds] 30 (0,0))):=(Ph.block B (aSm Ax.out).1).trans Ax.out
      have HRM8:Hid (RMach W8 bn bf (some ⟨gX,oX,none⟩) (some ⟨gP,oP,none⟩) bS dn df dx dp ds M5):=RMach.below Gt.out Ph
      have m2:=fun o=>((b9 (w:=w7) (o:=o)).cell (bLt w7 _ e2)).trans e2
      have m3:=fun o=>((b9 (w:=w7) (o:=o)).cell (bLt w7 _ j0)).trans j0
      have m4:=fun o=>((b9 (w:=w7) (o:=o)).cell (bLt w7 _ i0)).trans i0
      generalize X.ns.length=X0 at *
      generalize X.fs.length=X1 at *
      generalize X.pipes.length=X2 at *
      generalize X.ps.length=X3 at *
      generalize X.sunk.length=X4 at *
      clear hM7 Rm hq1 hq2 hq3 hq4 hlo hb7 Ph e0 e1 e2 e3 e4 i0 i1 i2 i3 j0 HSX
      go_upto_region 12 with fail
      rw[<- hW8]
      obtain⟨t0,t1,t2,t3,t4,_⟩:=j6 Pi.out
      clear m2 m3 m4 hW8 z0 z1 z2 z3 z4 c10 c11 c12 c13 c14 c20 c21 c22 c23 c24 d0 d1 d2 d3 f0 HS6
      go_wp2_with fail
      clear t0 t1 t2 t3 t4
      go_loopw [121] (fun z wr=>∃q:Nat,q<=3/\z=.int .i64 q/\Hid (Bq W8 wr)) (fun z _=>3-(intOf z).toNat)
      case atStart=>exact⟨0,Nat.zero_le _,rfl,Below.refl _ _⟩
      case round=>
       obtain⟨q,hq,rfl,hB7⟩:=hrel
       by_cases hq3:q<3
       .
        obtain⟨x,hx⟩:∃x,M5.pipes[q]? = some x:=⟨_,gEl (by have:=HXL.out;omega)⟩
        have hpa:=(RMach.below HRM8.out hB7.out).pipes
        obtain⟨gq,oq,aq',cq',hgq,k0,k1,k2,k3,k4⟩:=hpa.at hx
        injection hgq with hgq
        injection hgq with ea eb
        subst ea eb
        have Rl:=R7 k4
        have hck:=HPC.out x (mGt hx)
        have HPK:Hid (∀V,Calls Tryz.prog 37 #[.agg #[.slice aq' x.b.length cq',.int .i64 x.room,.bool x.closed,.bool x.shut]] V fun e w'=>e=.returned (.int .i64 0)/\Bq V w'):=(show ∀V,_ from fun V=>by
         have:=U2 aq' x.b.length cq' x.room x.closed x.shut V (by omega)
         rw[show pck x.b.length x.room x.shut=0 from hck] at this
         exact this)
        generalize x.b.length=xl at *
        generalize x.room=xr at *
        generalize x.closed=xc at *
        generalize x.shut=xs at *
        clear hx hck hpa k4
        go_wp2_with fail
        refine Calls.mono (HPK.out _) ?_
        rintro e w8 ⟨rfl,hb8⟩
        have Ic:Hid (Bq W8 w8):=hB7.out.trans ((Below.trans (b9 (w:=wr)) (hb8.mono (by simp))).mono hB7.out.size)
        clear hb8 HPK
        go_wp2_with fail
        go_roundw
        case rel=>exact⟨q+1,by omega,by go_num,Ic⟩
        case measure=>simp[intOf];omega
       .
        have HBr:Hid (Bq w wr):=HB8.out.trans (hB7.out.mono HB8.out.size)
        have Es:Hid (Bq W1 wr):=HB18.out.trans (hB7.out.mono HB18.out.size)
        have As:=(hB7.out.block B (aSm Pi.out).1).trans Pi.out
        have HFC:Hid _:=HF6.out wr HBr.out (RMach.below HRM8.out hB7.out)
        have Cm:=qH As
        obtain⟨u0,u1,u2,u3,u4,_⟩:=j6 As
        clear As HF6 HPC hB7
        go_wp2_with fail
        refine Calls.mono HFC.out ?_
        rintro e w8 ⟨v8,rfl,hA8,hb8⟩
        have Dk:B<wr.heap.size:=(aSm Cm.out).1
        have Ah:=(hb8.block B Dk).trans Cm.out
        obtain⟨en8,ef8,ex8,ep8,eS8,gn8,gf8,gx8,gp8,gs8,rfl,hN8⟩:=hA8
        obtain⟨y0,y1,y2,y3,y4,yf⟩:=j6 Ah
        have yf0:=yf 0
        have yf1:=yf 1
        have yf2:=yf 2
        have yf3:=yf 3
        have yf4:=yf 4
        unfold machV
        obtain⟨W9,hW9⟩:=qE (((((w8.setCell ⟨B,0,none⟩ (.slice en8 rf.ns.length gn8)).setCell ⟨B,1,none⟩ (.slice ef8 rf.fs.length gf8)).setCell ⟨B,2,none⟩ (.slice ex8 rf.pipes.length gx8)).setCell ⟨B,3,none⟩ (.slice ep8 rf.ps.length gp8)).setCell ⟨B,4,none⟩ (.slice eS8 rf.sunk.length gs8))
        have hBX:=(L8 (b:=B) hN8 Dk Ah rfl rfl rfl rfl rfl).2.self.sunk
        have Bh:=S0 (v0:=.slice en8 rf.ns.length gn8) (v1:=.slice ef8 rf.fs.length gf8) (v2:=.slice ex8 rf.pipes.length gx8) (v3:=.slice ep8 rf.ps.length gp8) (v4:=.slice eS8 rf.sunk.length gs8) Ah
        rw[<- hW9] at hBX Bh
        have HB9:Hid (Bq w W9):=(show Below _ _ _ by rw[hW9];exact D3 (HBr.out.trans (hb8.mono HBr.out.size)) HBB.out.1)
        have Dl:Hid (Bq W1 W9):=(show Below _ _ _ by rw[hW9];exact D3 (Es.out.trans (hb8.mono Es.out.size)) HBB.out.2)
        have HSK:=qH hBX
        have Bi:=qH Bh
        have g9:=(Dl.out.cell (bLt W1 _ HG1.out)).trans HG1.out
        have HEC:Hid _:=HEV.out (W9.alloc (.cells #[.string ⟨#[97]⟩,.slice ab NB cb] 83)) W9.heap.size (Dl.out.trans ((b9 (w:=W9)).mono Dl.out.size)) (heap_alloc_new _ _)
        have Ie:Hid (rf.sunk=want):=HFS.out.2
        generalize rf.ns.length=Q0 at *
        generalize rf.fs.length=Q1 at *
        generalize rf.pipes.length=Q2 at *
        generalize rf.ps.length=Q3 at *
        obtain⟨Q4,hQ4⟩:=qE rf.sunk.length
        have HQ4:=qH hQ4
        rw[<- hQ4] at hW9 Bi ⊢
        clear hN8 hBX Ah Bh hb8 HFC u0 u1 u2 u3 u4 yf HEV HG1 HFS hQ4 Dk
        go_upto_region 19 with fail
        rw[<- hW9]
        clear hW9 y0 y1 y2 y3 y4 yf0 yf1 yf2 yf3 yf4
        go_wp2_with fail
        refine Calls.mono HEC.out ?_
        rintro e wa ⟨a4,c4,rfl,hr4,hba⟩
        have Ce:Bq W9 wa:=Below.trans (b9 (w:=W9)) (hba.mono (by simp))
        have HBa:Hid (Bq w wa):=HB9.out.trans (Ce.mono HB9.out.size)
        obtain⟨z0,z1,z2,z3,z4,_⟩:=j6 ((Ce.block B (aSm Bi.out).1).trans Bi.out)
        have HE9:Hid (Calls Tryz.prog 30 #[.slice eS8 Q4 gs8,.slice a4 want.length c4] wa fun e w'=>e=.returned (.bool true)/\Bq wa w'):=(show Calls _ _ _ _ _ by
         have:=Y2 eS8 a4 gs8 c4 rf.sunk want wa (Reads.below HSK.out Ce) hr4
         rw[HQ4.out]
         rw[Ie.out] at this ⊢
         simpa using this)
        generalize want.length=WL at *
        clear hr4 hba Ce HEC g9
        go_wp2_with fail
        refine Calls.mono HE9.out ?_
        rintro e wb ⟨rfl,hbb⟩
        have HBb:Hid (Bq w wb):=HBa.out.trans (hbb.mono HBa.out.size)
        clear hbb HE9
        go_wp2_with fail
        go_ret
        exact⟨rfl,HBb.out⟩
    .
     have hO0:OL=0:=by omega
     subst hO0
     go_upto_region 12 with fail
     obtain⟨t0,t1,t2,t3,t4,_⟩:=j6 Ax.out
     clear z0 z1 z2 z3 z4 c10 c11 c12 c13 c14 c20 c21 c22 c23 c24 d0 d1 d2 d3 f0 HS6
     go_wp2_with fail
     clear t0 t1 t2 t3 t4
     go_loopw [121] (fun z wr=>∃q:Nat,q<=3/\z=.int .i64 q/\Hid (Bq W6 wr)) (fun z _=>3-(intOf z).toNat)
     case atStart=>exact⟨0,Nat.zero_le _,rfl,Below.refl _ _⟩
     case round=>
      obtain⟨q,hq,rfl,hB7⟩:=hrel
      by_cases hq3:q<3
      .
       obtain⟨x,hx⟩:∃x,M5.pipes[q]? = some x:=⟨_,gEl (by have:=HXL.out;omega)⟩
       have hpa:=(RMach.below Gt.out hB7.out).pipes
       obtain⟨gq,oq,aq',cq',hgq,k0,k1,k2,k3,k4⟩:=hpa.at hx
       injection hgq with hgq
       injection hgq with ea eb
       subst ea eb
       have Rl:=R7 k4
       have hck:=HPC.out x (mGt hx)
       have HPK:Hid (∀V,Calls Tryz.prog 37 #[.agg #[.slice aq' x.b.length cq',.int .i64 x.room,.bool x.closed,.bool x.shut]] V fun e w'=>e=.returned (.int .i64 0)/\Bq V w'):=(show ∀V,_ from fun V=>by
        have:=U2 aq' x.b.length cq' x.room x.closed x.shut V (by omega)
        rw[show pck x.b.length x.room x.shut=0 from hck] at this
        exact this)
       generalize x.b.length=xl at *
       generalize x.room=xr at *
       generalize x.closed=xc at *
       generalize x.shut=xs at *
       clear hx hck hpa k4
       go_wp2_with fail
       refine Calls.mono (HPK.out _) ?_
       rintro e w8 ⟨rfl,hb8⟩
       have Ic:Hid (Bq W6 w8):=hB7.out.trans ((Below.trans (b9 (w:=wr)) (hb8.mono (by simp))).mono hB7.out.size)
       clear hb8 HPK
       go_wp2_with fail
       go_roundw
       case rel=>exact⟨q+1,by omega,by go_num,Ic⟩
       case measure=>simp[intOf];omega
      .
       have HBr:Hid (Bq w wr):=HB6.out.trans (hB7.out.mono HB6.out.size)
       have Es:Hid (Bq W1 wr):=Gq.out.trans (hB7.out.mono Gq.out.size)
       have As:=(hB7.out.block B (aSm Ax.out).1).trans Ax.out
       have HFC:Hid _:=HF6.out wr HBr.out (RMach.below Gt.out hB7.out)
       have Cm:=qH As
       obtain⟨u0,u1,u2,u3,u4,_⟩:=j6 As
       clear As HF6 HPC hB7
       go_wp2_with fail
       refine Calls.mono HFC.out ?_
       rintro e w8 ⟨v8,rfl,hA8,hb8⟩
       have Dk:B<wr.heap.size:=(aSm Cm.out).1
       have Ah:=(hb8.block B Dk).trans Cm.out
       obtain⟨en8,ef8,ex8,ep8,eS8,gn8,gf8,gx8,gp8,gs8,rfl,hN8⟩:=hA8
       obtain⟨y0,y1,y2,y3,y4,yf⟩:=j6 Ah
       have yf0:=yf 0
       have yf1:=yf 1
       have yf2:=yf 2
       have yf3:=yf 3
       have yf4:=yf 4
       unfold machV
       obtain⟨W9,hW9⟩:=qE (((((w8.setCell ⟨B,0,none⟩ (.slice en8 rf.ns.length gn8)).setCell ⟨B,1,none⟩ (.slice ef8 rf.fs.length gf8)).setCell ⟨B,2,none⟩ (.slice ex8 rf.pipes.length gx8)).setCell ⟨B,3,none⟩ (.slice ep8 rf.ps.length gp8)).setCell ⟨B,4,none⟩ (.slice eS8 rf.sunk.length gs8))
       have hBX:=(L8 (b:=B) hN8 Dk Ah rfl rfl rfl rfl rfl).2.self.sunk
       have Bh:=S0 (v0:=.slice en8 rf.ns.length gn8) (v1:=.slice ef8 rf.fs.length gf8) (v2:=.slice ex8 rf.pipes.length gx8) (v3:=.slice ep8 rf.ps.length gp8) (v4:=.slice eS8 rf.sunk.length gs8) Ah
       rw[<- hW9] at hBX Bh
       have HB9:Hid (Bq w W9):=(show Below _ _ _ by rw[hW9];exact D3 (HBr.out.trans (hb8.mono HBr.out.size)) HBB.out.1)
       have Dl:Hid (Bq W1 W9):=(show Below _ _ _ by rw[hW9];exact D3 (Es.out.trans (hb8.mono Es.out.size)) HBB.out.2)
       have HSK:=qH hBX
       have Bi:=qH Bh
       have g9:=(Dl.out.cell (bLt W1 _ HG1.out)).trans HG1.out
       have HEC:Hid _:=HEV.out (W9.alloc (.cells #[.string ⟨#[97]⟩,.slice ab NB cb] 83)) W9.heap.size (Dl.out.trans ((b9 (w:=W9)).mono Dl.out.size)) (heap_alloc_new _ _)
       have Ie:Hid (rf.sunk=want):=HFS.out.2
       generalize rf.ns.length=Q0 at *
       generalize rf.fs.length=Q1 at *
       generalize rf.pipes.length=Q2 at *
       generalize rf.ps.length=Q3 at *
       obtain⟨Q4,hQ4⟩:=qE rf.sunk.length
       have HQ4:=qH hQ4
       rw[<- hQ4] at hW9 Bi ⊢
       clear hN8 hBX Ah Bh hb8 HFC u0 u1 u2 u3 u4 yf HEV HG1 HFS hQ4 Dk
       go_upto_region 19 with fail
       rw[<- hW9]
       clear hW9 y0 y1 y2 y3 y4 yf0 yf1 yf2 yf3 yf4
       go_wp2_with fail
       refine Calls.mono HEC.out ?_
       rintro e wa ⟨a4,c4,rfl,hr4,hba⟩
       have Ce:Bq W9 wa:=Below.trans (b9 (w:=W9)) (hba.mono (by simp))
       have HBa:Hid (Bq w wa):=HB9.out.trans (Ce.mono HB9.out.size)
       obtain⟨z0,z1,z2,z3,z4,_⟩:=j6 ((Ce.block B (aSm Bi.out).1).trans Bi.out)
       have HE9:Hid (Calls Tryz.prog 30 #[.slice eS8 Q4 gs8,.slice a4 want.length c4] wa fun e w'=>e=.returned (.bool true)/\Bq wa w'):=(show Calls _ _ _ _ _ by
        have:=Y2 eS8 a4 gs8 c4 rf.sunk want wa (Reads.below HSK.out Ce) hr4
        rw[HQ4.out]
        rw[Ie.out] at this ⊢
        simpa using this)
       generalize want.length=WL at *
       clear hr4 hba Ce HEC g9
       go_wp2_with fail
       refine Calls.mono HE9.out ?_
       rintro e wb ⟨rfl,hbb⟩
       have HBb:Hid (Bq w wb):=HBa.out.trans (hbb.mono HBa.out.size)
       clear hbb HE9
       go_wp2_with fail
       go_ret
       exact⟨rfl,HBb.out⟩
theorem aZ7 (V:World) (hE:t8 V) (hsh:V.ShapedOpen Tryz.prog) (n:Int) (hn:-9223372036854775808<=n/\n<=9223372036854775807) (ab:Option Addr) (cb:Nat) (bs:List UInt8) (hb:Reads V (.slice ab bs.length cb) bs.length (bs.map U)) (Qx:bs.length<=1000000000000000) (room:Int) (Ag:-9223372036854775808<=room/\room<=9223372036854775807) (aq:Option Addr) (cq:Nat) (pk:List Int) (hq:Reads V (.slice aq pk.length cq) pk.length (pk.map (Value.int .i64))) (hpk:∀z∈pk,-9223372036854775808<=z/\z<=9223372036854775807) :
 Calls Tryz.prog 8 #[.int .i64 n,.slice ab bs.length cb,.int .i64 room,.slice aq pk.length cq] V fun e w'=>e=.returned (.bool true)/\Bq V w':=by
 by_cases h:(newS (K5 n) [⟨[97],bs⟩] room).2=0
 . exact ct4 n room bs pk ab aq cb cq V hb hq hE h
 . exact cn0 n room bs pk ab aq cb cq V hb hq hE h
end Go.Proofs.YtllgglolcgdehaaGreatDoor
