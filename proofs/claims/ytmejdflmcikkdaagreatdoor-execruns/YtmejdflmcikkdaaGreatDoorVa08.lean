/- What the reference's OwnMachine does, for every machine. -/
import Derived.Test.YtmejdflmcikkdaaGreatDoorVAb
import Derived.Test.YtmejdflmcikkdaaGreatDoorVa07
set_option linter.all false
set_option maxRecDepth 100000
set_option maxHeartbeats 64000000
namespace Go.Proofs.YtmejdflmcikkdaaGreatDoor
open Go.RowKit Go.Gs Tryz
variable {wr w3:World}{v:Value}{cur:Array Value}{t:TypeId}{ps:List SProc}{k:Nat}{P:List PSlot}{O:qW}{p:SProc}
structure SizeM (M:SMach):Prop where
 ns:M.ns.length*96<=140737488355328
 ins:∀n∈M.ns,n.ins.length*16<=140737488355328
 fs:M.fs.length*40<=140737488355328
 fb:∀f∈M.fs,f.b.length*1<=140737488355328
 xs:M.pipes.length*40<=140737488355328
 xb:∀x∈M.pipes,x.b.length*1<=140737488355328
 ps:M.ps.length*64<=140737488355328
 got:∀p∈M.ps,p.got.length*24<=140737488355328/\∀b∈p.got,b.length<=140737488355328
 out:∀p∈M.ps,p.out.length*24<=140737488355328/\∀b∈p.out,b.length<=140737488355328
 sunk:M.sunk.length<=140737488355328
theorem az5{W1 w1:World}{b3 j:Nat}{v3:Value}(Ah:Off b3 W1 wr)(hW:b3<W1.heap.size)(Aa:Bq wr w1)(hg:w1.grownBy w3 v.ownBlock)(hv:∀g,v.ownBlock=some g->W1.heap.size<=g)(Ak:wr.heap[b3]?=some (.cells cur t (0,0))):
 w3.heap[b3]?=some (.cells cur t (0,0))/\Off b3 W1 (w3.setCell ⟨b3,j,none⟩ v3)/\(w3.setCell ⟨b3,j,none⟩ v3).heap[b3]?=some (.cells (cur.setIfInBounds j v3) t (0,0)):=by
 have hs:=Ah.size;have hs2:=Aa.size;have h3:w3.heap[b3]?=some (.cells cur t (0,0)):=by rw[hg.block b3 qO (fun e=>by have:=hv _ e.symm;omega),Aa.block _ qO];exact Ak
 refine⟨h3,?_,?_⟩
 . refine Off.set ⟨hg.os.trans (Aa.os.trans Ah.os),hg.tape.trans (Aa.tape.trans Ah.tape),hg.output.trans (Aa.output.trans Ah.output),by have:=hg.size;omega,fun k hk hn=>?_⟩ rfl;rw[hg.block k qO (fun e=>by have:=hv _ e.symm;omega),Aa.block k qO];exact Ah.block k hk hn
 . rw[zH w3 b3 j _ _ (0,0) _ h3,setRow_heap w3 b3 _ _ _ _ h3]
theorem QT.lower{w:World}{D D':Nat}(h:QT w wr D v ps k P O)(hD:D'<=D):QT w wr D' v ps k P O:=
 ⟨ad3 h.own hD,h.ob,h.len,fun i p s hi hp hs=>⟨(h.bys i p s hi hp hs).1.lower hD,(h.bys i p s hi hp hs).2.lower hD⟩,h.rest⟩
def OwnN(ns:List SNode)(W1 wr:World)(b3 k:Nat)(vS:Value):Prop:=
 ∃(a:Option Addr)(c:Nat)(rows:List NRow),rows.map (·.1)=ns.take k/\k<=c/\c<=9223372036854775807/\wr.heap[b3]?=some (.cells #[.slice a k c,.slice none 0 0,.slice none 0 0,.slice none 0 0,vS] 30 (0,0))/\NO wr (b3+2) b3 (fun g=>g<=b3+1) 57 (.slice a k c) rows/\Off b3 W1 wr
def OwnF(fs:List SFile)(W1 wr:World)(b3 k:Nat)(vN vS:Value):Prop:=
 ∃(a:Option Addr)(c:Nat)(rows:List FRow),rows.map (·.1)=fs.take k/\k<=c/\c<=9223372036854775807/\wr.heap[b3]?=some (.cells #[vN,.slice a k c,.slice none 0 0,.slice none 0 0,vS] 30 (0,0))/\FOL wr (W1.heap.size+1) (b3+2) (.slice a k c) rows/\Off b3 W1 wr
def OwnX(xs:List SPipe)(W1 wr:World)(b3 k:Nat)(vN vF vS:Value):Prop:=
 ∃(a:Option Addr)(c:Nat)(X:List Sl)(O:qW),k<=c/\c<=9223372036854775807/\wr.heap[b3]?=some (.cells #[vN,vF,.slice a k c,.slice none 0 0,vS] 30 (0,0))/\PT W1 wr W1.heap.size (.slice a k c) (xs.take k) (xs.take k).length X O/\OLo O W1.heap.size wr/\NoBA O/\Off b3 W1 wr
def OwnP(ps:List SProc)(W1 wr:World)(b3 k:Nat)(vN vF vX vS:Value):Prop:=
 ∃(a:Option Addr)(c:Nat)(P:List PSlot)(O:qW),k<=c/\c<=9223372036854775807/\wr.heap[b3]?=some (.cells #[vN,vF,vX,.slice a k c,vS] 30 (0,0))/\QT W1 wr W1.heap.size (.slice a k c) (ps.take k) (ps.take k).length P O/\OLo O W1.heap.size wr/\NoBA O/\Off b3 W1 wr
theorem cb7{WX w2 W5 w4:World}{gv ov v':Value}{r N1:Nat}(hQT:QT WX wr WX.heap.size v ps ps.length P O)(hlo:OLo O WX.heap.size wr)(hnb:NoBA O)(hsz:WX.heap.size<=wr.heap.size)(hw23:w2.heap.size<=w3.heap.size)(hrl:ps.length=r)
 (h1:∃ss OL,CL w2 wr.heap.size OL (.gots r) (Own.got r) gv ss p.got/\OLo OL (wr.heap.size+1) w2/\OLo OL N1 w2/\∀g o,OL g=some o->o=.gots r\/∃j,o=Own.got r j) (h2:∃ss OL,CL w3 wr.heap.size OL (.outs r) (Own.out r) ov ss p.out/\OLo OL (wr.heap.size+1) w3/\OLo OL w2.heap.size w3/\∀g o,OL g=some o->o=.outs r\/∃j,o=Own.out r j)
 (hs2:wr.heap.size<=w2.heap.size) (Gy:Bq w2 w3) (hb5:Bq wr W5) (hs5:w3.heap.size<=W5.heap.size) (Oh:∀g,g<w3.heap.size->g≠wr.heap.size->W5.heap[g]?=w3.heap[g]?) (hg4:W5.grownBy w4 v.ownBlock) (Ri:v'.ownBlock=v.ownBlock\/v'.ownBlock=some W5.heap.size)
 (ho4:w4.ownsRow WX.heap.size 64 5 v' (ps.length+1) ((l9 ps P).flatten++[gv,.int .i64 p.pos,ov,.bool p.rd,.bool p.ov])):
 ∃P' O',QT WX w4 WX.heap.size v' (ps++[p]) (ps++[p]).length P' O'/\OLo O' WX.heap.size w4/\NoBA O':=by
 obtain⟨ss1,OL1,hc1,hl1,_,hv1⟩:=h1;obtain⟨ss2,OL2,hc2,Qw,hl2,hv2⟩:=h2;have Ze:OLo OL1 wr.heap.size w2:=fun g o hg=>⟨by have:=(hl1 g o hg).1;omega,(hl1 g o hg).2⟩;have Ja:=hlo.join Ze hsz hs2;have Jw:=Ja.join hl2 qO Gy.size;have hlo5:OLo (N2 (N2 O OL1 wr) OL2 w2) WX.heap.size W5:=fun g o hg=>⟨(Jw g o hg).1,by have:=(Jw g o hg).2;omega⟩
 have hC1:=(hc1.lower (B':=WX.heap.size) hsz).keep (w':=W5) (O':=N2 (N2 O OL1 wr) OL2 w2) (fun g o hg _=>by
  have h1:=hl1 g o hg
  rw[Oh g qO qO]
  exact Gy.block g h1.2) (fun g o hg=>S8 Ja g o (ai2 Ze g o hg))
 have hC2:=(hc2.lower (B':=WX.heap.size) hsz).keep (w':=W5) (O':=N2 (N2 O OL1 wr) OL2 w2) (fun g o hg _=>Oh g (Qw g o hg).2 (by have:=(Qw g o hg).1;omega)) (fun g o hg=>ai2 hl2 g o hg);rw[<- hrl]at hC1 hC2;obtain⟨hQ,hlo6⟩:=hQT.app (p:=p) (w1:=W5) (O1:=N2 (N2 O OL1 wr) OL2 w2) (fun g o hg=>hb5.block g (hlo g o hg).2) (fun g o hg=>S8 Ja g o (S8 hlo g o hg)) hlo5 hC1 hC2 hg4 Ri ho4;exact⟨_,_,hQ,hlo6,az2 ((hnb.join hv1 ⟨by simp,by simp⟩ (fun j=>⟨by simp,by simp⟩) wr).join hv2 ⟨by simp,by simp⟩ (fun j=>⟨by simp,by simp⟩) w2) (by simp) (by simp)⟩
theorem ao6(an af ax ap aS:Option Addr)(cn cf cx cp cs:Nat)(M:SMach)(w:World)(h:RMach w an af ax ap aS cn cf cx cp cs M)(hsz:SizeM M):
 Calls prog 5 #[machV an af ax ap aS M cn cf cx cp cs] w fun e w'=>∃D vN vF vX vP sS X P O,e=.returned (.agg #[vN,vF,vX,vP,sl M.sunk sS])/\Raw w' D O ⟨M,vN,vF,vX,vP,.slice none 0 0,.bool true,sS,X,P⟩/\w.heap.size<=D/\Bq w w':=by
 obtain⟨iN,hiN,hiN0,hiN1,hiN2⟩:=info_parts aV6;obtain⟨iP,hiP,hiP0,hiP1,hiP2⟩:=info_parts aV7;obtain⟨iF,hiF,hiF0,hiF1,hiF2⟩:=info_parts aV8;obtain⟨iX,hiX,hiX0,hiX1,hiX2⟩:=info_parts aC4;obtain⟨iQ,hiQ,hiQ0,hiQ1,hiQ2⟩:=info_parts aC5;obtain⟨iB,hiB,Zf,Zg,Zh⟩:=info_parts ag9;have hnl:=M5 h.nodes;have hxl:=ah1 h.pipes;have hpl:=U7 h.procs;have HM:=qH h;have HS:=qH hsz;have hRD:Reads ((w.alloc (.cells #[.slice an M.ns.length cn,.slice af M.fs.length cf,.slice ax M.pipes.length cx,.slice ap M.ps.length cp,.slice aS M.sunk.length cs] 30)).alloc (.cells #[.slice none 0 0,.slice none 0 0,.slice none 0 0,.slice none 0 0,.slice none 0 0] 30)) (.slice aS M.sunk.length cs) M.sunk.length (M.sunk.map U):=h.sunk.below al4;obtain⟨v1,w1,Ae,ho1,hb1⟩:=Y8 hRD hsz.sunk 28;have hs2:((w.alloc (.cells #[.slice an M.ns.length cn,.slice af M.fs.length cf,.slice ax M.pipes.length cx,.slice ap M.ps.length cp,.slice aS M.sunk.length cs] 30)).alloc (.cells #[.slice none 0 0,.slice none 0 0,.slice none 0 0,.slice none 0 0,.slice none 0 0] 30)).heap.size=w.heap.size+1+1:=by simp
 have hx0:w1.heap[w.heap.size]?=some (.cells #[.slice an M.ns.length cn,.slice af M.fs.length cf,.slice ax M.pipes.length cx,.slice ap M.ps.length cp,.slice aS M.sunk.length cs] 30 (0,0)):=(hb1.block _ (by rw[hs2];omega)).trans (xQ _ _ _);have hx1:w1.heap[w.heap.size+1]?=some (.cells #[.slice none 0 0,.slice none 0 0,.slice none 0 0,.slice none 0 0,.slice none 0 0] 30 (0,0)):=(hb1.block _ (by rw[hs2];omega)).trans (xM _ _ _);rw[hs2]at Ae ho1;obtain⟨a1,c1,rfl,_,_⟩:=I0 ho1;have hBw:Bq w w1:=al4.trans (hb1.mono al4.size);have Vl:=hb1.size;rw[hs2]at Vl;obtain⟨W1,hW1⟩:=qE (w1.alloc (.cells #[.slice none 0 0,.slice none 0 0,.slice none 0 0,.slice none 0 0,.slice a1 M.sunk.length c1] 30));have hBW:Bq w1 W1:=by rw[hW1];exact boxE
 have hWs:W1.heap.size=w1.heap.size+1:=by rw[hW1];simp
 have hW3:W1.heap[w1.heap.size]?=some (.cells #[.slice none 0 0,.slice none 0 0,.slice none 0 0,.slice none 0 0,.slice a1 M.sunk.length c1] 30 (0,0)):=by rw[hW1];exact qJ _ _
 have HSK:Hid ((Reads W1 (.slice a1 M.sunk.length c1) M.sunk.length (M.sunk.map U)/\∀a,a1=some a->w.heap.size+2<=a.block/\a.block<w1.heap.size)/\W1.heap.size=w1.heap.size+1/\w.heap.size+1<w1.heap.size):=⟨⟨Reads.of_owns (j5 ho1 (fun g hg=>hBW.block g (ho1.lt g hg).2)),fun a ha=>by have:=ho1.lt a.block (by rw[ha];rfl);omega⟩,hWs,qO⟩;obtain⟨b3,hb3⟩:=qE w1.heap.size;rw[<- hb3]at HSK
 have HK:=qH (show ∀V,Off b3 W1 V->Bq w V/\V.heap[w.heap.size]?=some (.cells #[.slice an M.ns.length cn,.slice af M.fs.length cf,.slice ax M.pipes.length cx,.slice ap M.ps.length cp,.slice aS M.sunk.length cs] 30 (0,0))/\V.heap[w.heap.size+1]?=some (.cells #[.slice none 0 0,.slice none 0 0,.slice none 0 0,.slice none 0 0,.slice none 0 0] 30 (0,0)) from fun V hV=>by
  have h1:Below b3 w1 V:=⟨hV.os.trans hBW.os,hV.tape.trans hBW.tape,hV.output.trans hBW.output,by have:=hV.size;omega,fun k hk=>(hV.block k qO qO).trans (hBW.block k qO)⟩
  exact⟨hBw.trans (h1.mono qO),(h1.block _ qO).trans hx0,(h1.block _ qO).trans hx1⟩)
 have HST:=qH (show OwnN M.ns W1 W1 b3 0 (.slice a1 M.sunk.length c1) from ⟨none,0,[],rfl,qO,qO,by rw[hb3];exact hW3,NO.nil _ _ _ _ _,Off.refl _ _⟩);obtain⟨NN,hNN⟩:=qE M.ns.length;obtain⟨NF,hNF⟩:=qE M.fs.length;obtain⟨NX,hNX⟩:=qE M.pipes.length;obtain⟨NP,hNP⟩:=qE M.ps.length;obtain⟨NS,hNS⟩:=qE M.sunk.length;have HL:Hid (NN=M.ns.length/\NF=M.fs.length/\NX=M.pipes.length/\NP=M.ps.length/\NS=M.sunk.length):=⟨hNN,hNF,hNX,hNP,hNS⟩;unfold machV;rw[<- hNN,<- hNF,<- hNX,<- hNP,<- hNS]at Ae HK ⊢;rw[<- hNS]at HST HSK hW1;rw[<- hNN]at hnl;rw[<- hNX]at hxl;rw[<- hNP]at hpl;clear h hsz hRD ho1 hb1 hs2 hx0 hx1 hBw Vl hBW hWs hW3 hNN hNF hNX hNP hNS;go_enter func5,ntmps5;go_upto_region 2 with (at_builtin;refine j4 _ rfl (.tmp 12) (.tmp 14) 28 rfl _ _ rfl rfl Ae ?_);rw[<- hW1,<- hb3];clear hW1 hb3 Ae;obtain⟨_,hx,_⟩:=HK.o W1 (Off.refl _ _);obtain⟨x0,x1,x2,x3,x4,_⟩:=i8 hx;clear hx;go_wp2_with fail;clear x0 x1 x2 x3 x4;go_loopw [21] (fun i wr=>∃k:Nat,k<=NN/\i=.int .i64 k/\Hid (OwnN M.ns W1 wr b3 k (.slice a1 NS c1))) (fun i _=>NN-(intOf i).toNat)
 case atStart=>exact⟨0,qM _,rfl,HST⟩
 case round=>
  obtain⟨k,hk,rfl,hat⟩:=hrel;clear HST;obtain⟨ra,rc,rows,Dl,hrc1,hrc2,Ak,hNO,Ah⟩:=hat.out;obtain⟨hbw,hx,_⟩:=HK.o wr Ah;by_cases hlt:k<NN
  .
   obtain⟨n,hn⟩:∃n,M.ns[k]?=some n:=⟨_,gEl (by have:=HL.o.1;omega)⟩;have hnm:=mGt hn;have hrn:=HM.o.nodes.below hbw;rw[<- HL.o.1]at hrn;obtain⟨nb,noff,ai,ci,rfl,hNA,hrp⟩:=hrn.at hn;obtain⟨d0,d1,d2,d3,d4,d5,d6,d7⟩:=hNA;have hrl:rows.length=k:=by have:=congrArg List.length Dl;rw[qS,qX]at this;have:=HL.o.1;omega
   have Ab:=hNO.own;rw[hrl]at Ab;have hsz:=Ah.size;rw[HSK.o.2.1]at hsz
   obtain⟨a2,c2,w2,a3,c3,w3,hr2,hr3,Jb,Jc,hES⟩:=aC9 (te:=57) 7 #[.int .i64 n.kind,.string ⟨n.file.toArray⟩,.int .i64 n.c.kind,.string ⟨n.c.word.toArray⟩,.int .i64 n.c.n,.int .i64 n.how,.int .i64 n.wide,.slice ai n.ins.length ci] (fun u=>#[.int .i64 n.kind,.string ⟨n.file.toArray⟩,.int .i64 n.c.kind,.string ⟨n.c.word.toArray⟩,.int .i64 n.c.n,.int .i64 n.how,.int .i64 n.wide,u])
    underlying22 hiN hiN0 hiN1 hiN2 rfl (by decide) (by decide) underlying55 hiP hiP0 hiP1 hiP2 rfl (by decide) (by decide) Ab qO (by have:=HS.o.ns;have:=HL.o.1;omega) (c:=ci) (ag3 n.ins) (aC8 hrp) (aL5 n.ins) (HS.o.ins n hnm) (fun u=>rfl) (fun u hu x hx=>by simp at hx;rcases hx with rfl | rfl | rfl | rfl | rfl | rfl | rfl | rfl <;> first|rfl | exact hu) 22 55
   have Nv:=hNO.below hES.bel;obtain⟨_,_,e2,Nw,Iz⟩:=aW5 hES.leaf;injection e2 with e21 _ e23;subst e21 e23;have hg:=hNO.base
   have Zi:=(NO.app (r:=(n,a2,c2)) Nv ⟨Nw,fun _ a ha hfs=>by
    have h1:=Iz a ha
    rcases hfs with e | e | e
    . omega
    . have:=hg _ e
      omega
    . have e':a.block<=b3+1:=e
      omega⟩ (by have:=hES.bel.size;omega) (by rw[hrl];exact hES.own) hES.grown hES.nxt).1
   obtain⟨Bl,Dn,Do⟩:=az5 (j:=0) (v3:=.slice a3 (k+1) c3) Ah (by have:=HSK.o.2.1;omega) hES.bel hES.grown (fun g hg'=>by have:=hg g hg';have:=HSK.o.2.1;omega) Ak;have HNX:=qH (show OwnN M.ns W1 (w3.setCell ⟨b3,0,none⟩ (.slice a3 (k+1) c3)) b3 (k+1) (.slice a1 NS c1) from ⟨a3,c3,rows++[(n,a2,c2)],by rw[xF,Dl,qZ,hn];rfl,Jb,Jc,Do,NO.set Zi rfl,Dn⟩);obtain⟨y0,y1,y2,y3,y4,y5,y6,y7⟩:=D8 hES.box;have yf:w2.frozen? ⟨wr.heap.size,7,none⟩=false:=xW _ _ _ _ _ hES.box;have hb2:=hES.bel2;have Tv:w2.heap[b3]?=_:=(hb2.block _ qO).trans Ak;obtain⟨z0,_⟩:=i8 Tv;have hbn:b3≠wr.heap.size:=qO;have Rj:wr.heap.size≠b3:=qO;obtain⟨t0,_,_,_,_,tf⟩:=i8 Bl;have tf0:=tf 0;clear hat Dl hNO Ah hbw hx hn hnm hrn hrp Ab hES Nv Nw Iz hg Zi Bl Dn Do hb2 Tv Ak tf;generalize n.kind=m0,(⟨n.file.toArray⟩:ByteArray)=m1,n.c.kind=m2,(⟨n.c.word.toArray⟩:ByteArray)=m3,n.c.n=m4,n.how=m5,n.wide=m6,n.ins.length=m7 at *;go_wp2_with (at_builtin;first|refine j4 _ rfl (.tmp 25) (.tmp 27) 55 rfl _ _ rfl rfl hr2 ?_ | refine j4 _ rfl (.tmp 32) (.tmp 34) 22 rfl _ _ rfl rfl hr3 ?_)
   go_roundw
   case rel=>exact⟨k+1,qO,by go_num,HNX⟩
   case measure=>simp[intOf];omega
  .
   have e9:k=NN:=qO;subst e9;have HN1:=qH hat;have hsN:=Ah.size;have HWN:=qH (show b3+1<=wr.heap.size by rw[HSK.o.2.1]at hsN;exact hsN);have Le:=qH Ah;have HSF:=qH (show OwnF M.fs wr wr b3 0 (.slice ra k rc) (.slice a1 NS c1) from ⟨none,0,[],rfl,qO,qO,Ak,⟨⟨World.ownsRow_nil _ _ _ _,fun r hr=>(by cases hr)⟩,by have:=HWN.o;omega,fun r hr=>(by cases hr)⟩,Off.refl _ _⟩);have HNN:=qH (show ∃rows:List NRow,rows.map (·.1)=M.ns/\NO wr (b3+2) b3 (fun g=>g<=b3+1) 57 (.slice ra k rc) rows from ⟨rows,by rw[Dl,qP (by have:=HL.o.1;omega)],hNO⟩);obtain⟨x0,x1,x2,x3,x4,_⟩:=i8 hx;clear hat hbw hx Dl Ak hNO Ah HN1 hsN hlt hk;obtain⟨WN,hWN⟩:=qE wr;subst hWN;go_wp2_with fail;clear x0 x1 x2 x3 x4;go_loopw [42] (fun i wr=>∃q:Nat,q<=NF/\i=.int .i64 q/\Hid (OwnF M.fs WN wr b3 q (.slice ra k rc) (.slice a1 NS c1))) (fun i _=>NF-(intOf i).toNat)
   case atStart=>exact⟨0,qM _,rfl,HSF⟩
   case round=>
    obtain⟨q,hq,rfl,hat⟩:=hrel;clear HSF;obtain⟨fa,fc,rows,Dl,hrc1f,hrc2f,Ak,hFO,Ah⟩:=hat.out;obtain⟨hbw,hx,_⟩:=HK.o wr (Le.o.trans Ah);have hwn:=HWN.o;have hsz:=Ah.size;by_cases hlt:q<NF
    .
     obtain⟨f,hf⟩:∃f,M.fs[q]?=some f:=⟨_,gEl (by have:=HL.o.2.1;omega)⟩;have hfm:=mGt hf;obtain⟨aof,capf,ef,_,hcapf,hrf⟩:=HM.o.files.below hbw;injection ef with ef1 ef2 ef3;subst ef1 ef3;obtain⟨nb,noff,rfl,hcf⟩:=hrf (by have:=(gSm hf).1;omega);obtain⟨u,d0,d1,hrb⟩:=hcf q f hf;obtain⟨_,ab,cb,rfl,_,_,_⟩:=id hrb;have hrl:rows.length=q:=by have:=congrArg List.length Dl;rw[qS,qX]at this;have:=HL.o.2.1;omega
     have Ab:=hFO.fo.own;rw[hrl]at Ab
     obtain⟨a2,c2,w2,a3,c3,w3,hr2,hr3,Jb,Jc,hES⟩:=aC9 (te:=59) 1 #[.string ⟨f.name.toArray⟩,.slice ab f.b.length cb] (fun u=>#[.string ⟨f.name.toArray⟩,u])
      underlying25 hiF hiF0 hiF1 hiF2 rfl (by decide) (by decide) underlying28 hiB Zf Zg Zh rfl (by decide) (by decide) Ab qO (by have:=HS.o.fs;have:=HL.o.2.1;omega) (c:=cb) (by rw[qS];omega) (ac6 hrb) (aI6 f.b) (HS.o.fb f hfm) (fun u=>rfl) (fun u hu x hx=>by simp at hx;rcases hx with rfl | rfl <;> first|rfl | exact hu) 25 28
     have Zj:=hFO.keep (fun k _ hk=>hES.bel.block k hk);have hg:∀g,(Value.slice fa q fc).ownBlock=some g->WN.heap.size+1<=g/\g<wr.heap.size:=fun g hg'=>Ab.lt g hg';have hl2:∀a,a2=some a->wr.heap.size+1<=a.block:=fun a ha=>(hES.leaf.lt a.block (by rw[ha];rfl)).1
     have Zk:=FOL.app (r:=(f,a2,f.b.length,c2)) Zj ⟨rfl,Reads.of_owns hES.leaf,fun _ a ha e=>by
      have h1:=hl2 a ha
      have:=hg _ e
      omega⟩ (fun _ a ha=>by have h1:=hl2 a ha;omega) (by rw[hrl];exact hES.own) hES.grown hES.nxt
     obtain⟨Bl,Dn,Do⟩:=az5 (j:=1) (v3:=.slice a3 (q+1) c3) Ah qO hES.bel hES.grown (fun g hg'=>by have:=hg g hg';omega) Ak;have HNX:=qH (show OwnF M.fs WN (w3.setCell ⟨b3,1,none⟩ (.slice a3 (q+1) c3)) b3 (q+1) (.slice ra k rc) (.slice a1 NS c1) from ⟨a3,c3,rows++[(f,a2,f.b.length,c2)],by rw[xF,Dl,qZ,hf];rfl,Jb,Jc,Do,Zk.keep (fun k hk _=>Below.heap_setCell _ _ _ _ (by show k≠b3;omega)),Dn⟩);have y0:=qY _ _ 0 _ _ _ hES.box;have y1:=qY _ _ 1 _ _ _ hES.box;simp only[xX,qq,xO]at y0 y1;have yf:w2.frozen? ⟨wr.heap.size,1,none⟩=false:=xW _ _ _ _ _ hES.box;obtain⟨_,z0,_⟩:=i8 ((hES.bel2.block _ qO).trans Ak);have hbn:b3≠wr.heap.size:=qO;have Rj:wr.heap.size≠b3:=qO;obtain⟨_,t0,_,_,_,tf⟩:=i8 Bl;have tf0:=tf 1;clear hat Dl hFO Ah hbw hx hf hfm hrb Ab hES Zj hl2 hg Zk Bl Dn Do Ak tf hrf hcf;generalize (⟨f.name.toArray⟩:ByteArray)=m0,f.b.length=m1 at *;go_wp2_with (at_builtin;first|refine j4 _ rfl (.tmp 46) (.tmp 48) 28 rfl _ _ rfl rfl hr2 ?_ | refine j4 _ rfl (.tmp 52) (.tmp 54) 25 rfl _ _ rfl rfl hr3 ?_)
     go_roundw
     case rel=>exact⟨q+1,qO,by go_num,HNX⟩
     case measure=>simp[intOf];omega
    .
     have e9:q=NF:=qO;subst e9;have HWF:=qH hsz;have Jd:=qH Ah;have HSX:=qH (show OwnX M.pipes wr wr b3 0 (.slice ra k rc) (.slice fa q fc) (.slice a1 NS c1) from ⟨none,0,[],noO,qO,qO,Ak,⟨World.ownsRow_nil _ _ _ _,fun g hg=>(by simp[Value.ownBlock]at hg),rfl,fun q x s _ hx=>(by simp at hx),fun q x s _ hx=>(by simp at hx)⟩,bd7 _ _,bd8,Off.refl _ _⟩);have HFF:=qH (show ∃rows:List FRow,rows.map (·.1)=M.fs/\FOL wr (WN.heap.size+1) (b3+2) (.slice fa q fc) rows from ⟨rows,by rw[Dl,qP (by have:=HL.o.2.1;omega)],hFO⟩);obtain⟨x0,x1,x2,x3,x4,_⟩:=i8 hx;clear hat hbw hx Dl Ak hFO Ah hlt hq hsz hwn;obtain⟨WF,hWF⟩:=qE wr;subst hWF;go_wp2_with fail;clear x0 x1 x2 x3 x4;go_loopw [61] (fun i wr=>∃p:Nat,p<=NX/\i=.int .i64 p/\Hid (OwnX M.pipes WF wr b3 p (.slice ra k rc) (.slice fa q fc) (.slice a1 NS c1))) (fun i _=>NX-(intOf i).toNat)
     case atStart=>exact⟨0,qM _,rfl,HSX⟩
     case round=>
      obtain⟨p,hp,rfl,hat⟩:=hrel;clear HSX;obtain⟨xa,xc,X,O,Oi,Vm,Ak,hPT,hlo,hnb,Ah⟩:=hat.out;obtain⟨hbw,hx,_⟩:=HK.o wr ((Le.o.trans Jd.o).trans Ah);have hwn:=HWN.o;have hwf:=HWF.o;have hsz:=Ah.size;by_cases hlt:p<NX
      .
       obtain⟨x,hxx⟩:∃x,M.pipes[p]?=some x:=⟨_,gEl (by have:=HL.o.2.2.1;omega)⟩;have hrx:=HM.o.pipes.below hbw;rw[<- HL.o.2.2.1]at hrx;obtain⟨nb,noff,ab,cb,rfl,d0,d1,d2,d3,hrb⟩:=hrx.at hxx;have hrl:(M.pipes.take p).length=p:=by rw[qX,<- HL.o.2.2.1];omega
       have Ab:=hPT.own;rw[hrl]at Ab
       obtain⟨a2,c2,w2,a3,c3,w3,hr2,hr3,Jb,Jc,hES⟩:=aC9 (te:=61) 0 #[.slice ab x.b.length cb,.int .i64 x.room,.bool x.closed,.bool x.shut] (fun u=>#[u,.int .i64 x.room,.bool x.closed,.bool x.shut])
        underlying26 hiX hiX0 hiX1 hiX2 rfl (by decide) (by decide) underlying28 hiB Zf Zg Zh rfl (by decide) (by decide) Ab qO (by have:=HS.o.xs;have:=HL.o.2.2.1;omega) (c:=cb) (by rw[qS];omega) (ac6 hrb) (aI6 x.b) (HS.o.xb x (mGt hxx)) (fun u=>rfl) (fun u hu y hy=>by simp at hy;rcases hy with rfl | rfl | rfl | rfl <;> first|rfl | exact hu) 26 28
       obtain⟨X',Zl,Vn⟩:=hPT.app (x:=x) hlo hsz hES.bel (ad3 hES.leaf qO) hES.grown hES.nxt (by rw[hrl];exact hES.own);obtain⟨Bl,Dn,Do⟩:=az5 (j:=2) (v3:=.slice a3 (p+1) c3) Ah qO hES.bel hES.grown (fun g hg'=>(Ab.lt g hg').1) Ak;have Az:∀g o,rowO (.slice a3 (p+1) c3) .pipes (addO O wr ((w2.setCell ⟨wr.heap.size,0,none⟩ (.slice a2 x.b.length c2)).alloc (.cells #[.slice a2 x.b.length c2,.int .i64 x.room,.bool x.closed,.bool x.shut] 61)) (.pipe (M.pipes.take p).length)) g=some o->(w3.setCell ⟨b3,2,none⟩ (.slice a3 (p+1) c3)).heap[g]?=w3.heap[g]?:=fun g o hg=>Below.heap_setCell _ _ _ _ (by have:=(Vn g o hg).1;show g≠b3;omega)
       have HNX:=qH (show OwnX M.pipes WF (w3.setCell ⟨b3,2,none⟩ (.slice a3 (p+1) c3)) b3 (p+1) (.slice ra k rc) (.slice fa q fc) (.slice a1 NS c1) from ⟨a3,c3,X',_,Jb,Jc,Do,by
        rw[qZ,hxx]
        exact Zl.keep (fun g o hg _=>Az g o hg) (fun _ _ _=>rfl),Vn.set _ _,az2 (hnb.add _ _ (by simp) (by simp)) (by simp) (by simp),Dn⟩)
       obtain⟨y0,y1,y2,y3⟩:=C9 hES.box;have yf:w2.frozen? ⟨wr.heap.size,0,none⟩=false:=xW _ _ _ _ _ hES.box;obtain⟨_,_,z0,_⟩:=i8 ((hES.bel2.block _ qO).trans Ak);have hbn:b3≠wr.heap.size:=qO;have Rj:wr.heap.size≠b3:=qO;obtain⟨_,_,t0,_,_,tf⟩:=i8 Bl;have tf0:=tf 2;clear hat hPT hlo hnb Ah hbw hx hxx hrx hrb Ab hES Zl Vn Bl Dn Do Ak tf Az;generalize x.b.length=m0,x.room=m1,x.closed=m2,x.shut=m3 at *;go_wp2_with (at_builtin;first|refine j4 _ rfl (.tmp 65) (.tmp 67) 28 rfl _ _ rfl rfl hr2 ?_ | refine j4 _ rfl (.tmp 71) (.tmp 73) 26 rfl _ _ rfl rfl hr3 ?_)
       go_roundw
       case rel=>exact⟨p+1,qO,by go_num,HNX⟩
       case measure=>simp[intOf];omega
      .
       have e9:p=NX:=qO;subst e9;have HWX:=qH hsz;have Tz:=qH Ah;have HSP:=qH (show OwnP M.ps wr wr b3 0 (.slice ra k rc) (.slice fa q fc) (.slice xa p xc) (.slice a1 NS c1) from ⟨none,0,[],noO,qO,qO,Ak,⟨World.ownsRow_nil _ _ _ _,fun g hg=>(by simp[Value.ownBlock]at hg),rfl,fun q x s _ hx=>(by simp at hx),fun q x s _ hx=>(by simp at hx)⟩,bd7 _ _,bd8,Off.refl _ _⟩);have HXX:=qH (show ∃X O,PT WF wr WF.heap.size (.slice xa p xc) M.pipes M.pipes.length X O/\OLo O WF.heap.size wr/\NoBA O from ⟨X,O,by rw[qP (by have:=HL.o.2.2.1;omega)]at hPT;exact hPT,hlo,hnb⟩);obtain⟨x0,x1,x2,x3,x4,_⟩:=i8 hx;clear hat hbw hx Ak hPT hlo hnb Ah hlt hp hsz hwn hwf;obtain⟨WX,hWX⟩:=qE wr;subst hWX;go_wp2_with fail;clear x0 x1 x2 x3 x4;go_loopw [80] (fun i wr=>∃r:Nat,r<=NP/\i=.int .i64 r/\Hid (OwnP M.ps WX wr b3 r (.slice ra k rc) (.slice fa q fc) (.slice xa p xc) (.slice a1 NS c1))) (fun i _=>NP-(intOf i).toNat)
       case atStart=>exact⟨0,qM _,rfl,HSP⟩
       case round=>
        obtain⟨r,hr,rfl,hat⟩:=hrel;clear HSP;obtain⟨pa,pc,P,O,hpc1,hpc2,Ak,hQT,hlo,hnb,Ah⟩:=hat.out;obtain⟨hbw,hx,hx1⟩:=HK.o wr (((Le.o.trans Jd.o).trans Tz.o).trans Ah);have hwn:=HWN.o;have hwf:=HWF.o;have hwx:=HWX.o;have hsz:=Ah.size;by_cases hlt:r<NP
        .
         obtain⟨y,hy⟩:∃y,M.ps[r]?=some y:=⟨_,gEl (by have:=HL.o.2.2.2.1;omega)⟩;have hym:=mGt hy;have hrp:=HM.o.procs.below hbw;rw[<- HL.o.2.2.2.1]at hrp;obtain⟨nb,noff,ag,cg,ab,cb,rfl,d0,d1,d2,d3,d4,hrg,hro⟩:=hrp.at hy;have hrl:(M.ps.take r).length=r:=by rw[qX,<- HL.o.2.2.2.1];omega
         obtain⟨GL,hGL⟩:=qE y.got.length;obtain⟨OL,hOL⟩:=qE y.out.length;have HGL:=qH hGL;have HOL:=qH hOL;have HC1:Hid _:=bU4 (arr:=#[.slice ag GL cg,.int .i64 y.pos,.slice ab OL cb,.bool y.rd,.bool y.ov]) (te:=64) (u1:=.slice ag GL cg) (u2:=.slice ab OL cb) (.gots r) (Own.got r) (by simp) hGL hrg (HS.o.got y hym).1 (HS.o.got y hym).2;have HC2:Hid _:=bU4 (arr:=#[.slice ag GL cg,.int .i64 y.pos,.slice ab OL cb,.bool y.rd,.bool y.ov]) (te:=64) (u1:=.slice ag GL cg) (u2:=.slice ab OL cb) (.outs r) (Own.out r) (by simp) hOL hro (HS.o.out y hym).1 (HS.o.out y hym).2;have HAT:Hid (wr.heap[b3]?=some (.cells #[.slice ra k rc,.slice fa q fc,.slice xa p xc,.slice pa r pc,.slice a1 NS c1] 30 (0,0))/\QT WX wr WX.heap.size (.slice pa r pc) (M.ps.take r) (M.ps.take r).length P O/\OLo O WX.heap.size wr/\NoBA O/\Off b3 WX wr):=⟨Ak,hQT,hlo,hnb,Ah⟩;have HY:=qH hy;rw[<- hGL]at d0;rw[<- hOL]at d2;generalize Br:y.pos=n1 at *;generalize hrd:y.rd=n3 at *;generalize hov:y.ov=n4 at *;have HYN:Hid (y.pos=n1/\y.rd=n3/\y.ov=n4):=⟨Br,hrd,hov⟩;clear hat Ak hQT hlo hnb Ah hbw hx hx1 hy hym hrp hrg hro hGL hOL Br hrd hov;go_wp2_with fail
         go_region_with (first
          | (go_at_call_of 20 (Value.slice ag GL cg);refine qD (HC1.o _ ?_ ?_ ?_ ?_) ?_;(first|(repeat (first|exact boxE | refine Below.drew ?_)) | assumption);(simp[*]);(simp[*]);(first|exact qJ _ _ | (simp;exact qJ _ _));rintro e w2⟨a2,e2,rfl,y0,y2,yf0,yf2,hB2,hh1,hh2,hh3⟩)
          | (go_at_call_of 20 (Value.slice ab OL cb);refine qD (HC2.o _ ?_ ?_ ?_ ?_) ?_;(exact Hid.o hh3);(simp[*]);(simp[*]);(exact Hid.o hB2);rintro e w3⟨a3,e3,rfl,y0',y2',yf0',yf2',Zm,Oa,Ob,Oc⟩))
         all_goals
          have Gy:=Ob.o;have hB3:=Oc.o;have hs23:=Gy.size;have hs2:=hh3.out.size;obtain⟨Ak,hQT,hlo,hnb,Ah⟩:=HAT.o;obtain⟨W5,hW5⟩:=qE (((w3.setCell ⟨wr.heap.size,0,none⟩ (.slice a2 GL e2)).setCell ⟨wr.heap.size,2,none⟩ (.slice a3 OL e3)).alloc (.cells #[.slice a2 GL e2,.int .i64 n1,.slice a3 OL e3,.bool n3,.bool n4] 64));have hs5:W5.heap.size=w3.heap.size+1:=by rw[hW5];simp
          have Oh:∀g,g<w3.heap.size->g≠wr.heap.size->W5.heap[g]?=w3.heap[g]?:=fun g hg hn=>by rw[hW5,Below.heap_alloc _ _ _ (by simpa using hg),Below.heap_setCell _ _ _ _ hn,Below.heap_setCell _ _ _ _ hn]
          have hb5:Bq wr W5:=by have h1:Bq wr ((w3.setCell ⟨wr.heap.size,0,none⟩ (.slice a2 GL e2)).setCell ⟨wr.heap.size,2,none⟩ (.slice a3 OL e3)):=(hB3.setCell (qA _) _).setCell (qA _) _;rw[hW5];exact h1.alloc h1.size _
          have Ua:W5.heap[w3.heap.size]?=some (.cells #[.slice a2 GL e2,.int .i64 n1,.slice a3 OL e3,.bool n3,.bool n4] 64 (0,0)):=by have h1:=qJ ((w3.setCell ⟨wr.heap.size,0,none⟩ (.slice a2 GL e2)).setCell ⟨wr.heap.size,2,none⟩ (.slice a3 OL e3)) (.cells #[.slice a2 GL e2,.int .i64 n1,.slice a3 OL e3,.bool n3,.bool n4] 64);rw[<- hW5]at h1;simpa using h1
          have Ab:=hQT.own;rw[hrl]at Ab;have Ub:=j5 Ab (fun g hg=>hb5.block g (Ab.lt g hg).2)
          obtain⟨v4,w4,hr4,ho4,hg4,Ri⟩:=Y7 (c:=1) underlying27 hiQ hiQ0 hiQ1 hiQ2 rfl (by decide) (by decide) Ub (m:=1) (ao:=some ⟨w3.heap.size,0,none⟩) (ys:=[.slice a2 GL e2,.int .i64 n1,.slice a3 OL e3,.bool n3,.bool n4]) rfl ⟨fun e=>(by cases e),fun a ha j u hu=>by
           have ha':=qd ha
           rw[<- ha',addP,qY _ _ _ _ _ _ Ua,qk,<- xH]
           exact hu⟩ (fun u hu=>by simp at hu;rcases hu with rfl | rfl | rfl | rfl | rfl <;> rfl) (by have:=HS.o.ps;have:=HL.o.2.2.2.1;omega) qO 27
          obtain⟨a4,c4,rfl,hc41,Zn⟩:=I0 ho4;have Zo:c4<=9223372036854775807:=by unfold maxLen at Zn;exact Zn
          obtain⟨Bl,Dn,Do⟩:=az5 (j:=3) (v3:=.slice a4 (r+1) c4) Ah qO hb5 hg4 (fun g hg'=>(Ab.lt g hg').1) Ak
          have HNX:=qH (show OwnP M.ps WX (w4.setCell ⟨b3,3,none⟩ (.slice a4 (r+1) c4)) b3 (r+1) (.slice ra k rc) (.slice fa q fc) (.slice xa p xc) (.slice a1 NS c1) from by
           obtain⟨e1,e3',e4⟩:=HYN.o
           obtain⟨P',O',q1,q2,q3⟩:=cb7 hQT hlo hnb hsz qO hrl hh1.out Oa.o hs2 Gy hb5 qO Oh hg4 Ri (p:=y) (by rw[hrl,e1,e3',e4];exact ho4)
           refine⟨a4,c4,P',O',hc41,Zo,Do,?_,q2.set _ _,q3,Dn⟩
           rw[qZ,HY.o]
           exact q1.keep (fun g o hg=>Below.heap_setCell _ _ _ _ (by have:=(q2 g o hg).1;show g≠b3;omega)) (fun _ _ h=>h))
          obtain⟨_,y1,_,y3,y4,_⟩:=i8 Zm.o;obtain⟨_,_,_,z0,_⟩:=i8 ((hB3.block _ qO).trans Ak);have hbn:b3≠wr.heap.size:=qO;have Rj:wr.heap.size≠b3:=qO;obtain⟨_,_,_,t0,_,tf⟩:=i8 Bl;have tf0:=tf 3;rw[hW5]at hr4;clear HC1 HC2 HAT hh1 hh2 hh3 Oa Ob Oc Gy hB3 Ak hQT hlo hnb Ah hW5 hs5 Oh hb5 Ua Ab Ub ho4 hg4 Ri Bl Dn Do tf hB2 Zm y0 y2 yf0 yf2 d0 d1 d2 d3 d4;(try simp only[Exit.then])
          go_wp2_with (at_builtin;refine j4 _ rfl (.tmp 93) (.tmp 95) 27 rfl _ _ rfl rfl hr4 ?_)
          go_roundw
          case rel=>exact⟨r+1,qO,by go_num,HNX⟩
          case measure=>simp[intOf];omega
        .
         have e9:r=NP:=qO;subst e9;have hs1:=HSK.o.2.1;have hs3:=HSK.o.2.2;have hof:Off b3 WF wr:=Tz.o.trans Ah
         have Gg:=qH (show ∀wE:World,wE.os=wr.os->wE.tape=wr.tape->wE.output=wr.output->wE.heap.size=wr.heap.size->(∀g,g≠w.heap.size+1->wE.heap[g]?=wr.heap[g]?)->∃X P O,Raw wE WF.heap.size O ⟨M,.slice ra k rc,.slice fa q fc,.slice xa p xc,.slice pa r pc,.slice none 0 0,.bool true,(a1,c1),X,P⟩ from fun wE e1 e2 e3 e4 e5=>by
          obtain⟨rN,hrN,hNO⟩:=HNN.o
          obtain⟨rF,hrF,hFO⟩:=HFF.o
          obtain⟨X,OX,hPT,Vo,hnbX⟩:=HXX.o
          rw[qP (by have:=HL.o.2.2.2.1;omega)]at hQT
          have hcut:∀g,g<WF.heap.size->g≠b3->g≠w.heap.size+1->(cutH wE WF.heap.size).heap[g]?=WF.heap[g]?:=fun g h1 h2 h3=>by
           rw[aj8 qO h1,e5 g h3,hof.block g h1 h2]
          have Zp:=Vo.join hlo hwx qO
          have hloE:OLo (N2 OX O WX) WF.heap.size wE:=fun g o hg=>by rw[e4];exact Zp g o hg
          have hE:∀g o,N2 OX O WX g=some o->wE.heap[g]?=wr.heap[g]?:=fun g o hg=>e5 g (by have:=(Zp g o hg).1;omega)
          refine⟨X,P,N2 OX O WX,bU1 (w:=WF) (w':=WX) hloE (fun g=>?_) qO ?_ ?_ ?_ ?_ _ _ (.inr ⟨⟨true,rfl⟩,cutH wE WF.heap.size,Z5 qO,aw4 qO,?_⟩)⟩
          . unfold N2;split;exact hnbX g;exact hnb g
          . rw[<- hrN]
            have hn:∀g,b3+2<=g->g<WN.heap.size->(cutH wE WF.heap.size).heap[g]?=WN.heap[g]?:=fun g h1 h2=>(hcut g qO qO qO).trans (Jd.o.block g h2 qO)
            have ho2:=Jd.o
            exact (NO.keep (w':=cutH wE WF.heap.size) (X':=fun g=>g<=b3+1) hNO ⟨e1.trans (hof.os.trans ho2.os),e2.trans (hof.tape.trans ho2.tape),e3.trans (hof.output.trans ho2.output),by rw[Z5 qO];exact hwf,fun g h1 h2=>hn g (Nat.lt_of_not_le (fun h=>h2 (.inr (.inr h)))) h1⟩ (fun g hg=>hn g (hNO.base g hg).1 (hNO.base g hg).2) (NxtX.refl _ _)).nodes
          . rw[<- hrF]
            exact (hFO.keep (fun g h1 h2=>hcut g h2 qO qO)).fo.files
          . exact hPT.keep (fun g o hg _=>by
             have:=Vo g o hg
             rw[e5 g qO]
             exact Ah.block g this.2 qO) (fun g o hg=>(S8 Vo g o hg).trans hg.symm)
          . exact (hQT.lower hwx).keep (fun g o hg=>e5 g (by have:=(hlo g o hg).1;omega)) (fun g o hg=>ai2 hlo g o hg)
          . have h1:=HSK.o.1
            rw[HL.o.2.2.2.2]at h1
            refine Q4 h1.1 (fun a ha=>?_)
            have h2:=h1.2 a ha
            have h3:=Le.o.trans Jd.o
            exact (hcut _ (by have:=h3.size;omega) qO qO).trans (h3.block _ qO qO))
         have HBE:=qH hbw;have HDW:=qH (show w.heap.size<=WF.heap.size by omega);obtain⟨c0,c1',c2,c3,c4,_⟩:=i8 Ak;obtain⟨y0,y1,y2,y3,y4,yf⟩:=i8 hx1;have yf0:=yf 0;have yf1:=yf 1;have yf2:=yf 2;have yf3:=yf 3;have yf4:=yf 4;have hbn:b3≠w.heap.size+1:=qO;have Rj:w.heap.size+1≠b3:=qO;clear hat Ak hQT hlo hnb Ah hbw hx hx1 hof yf hlt hr;go_wp2_with fail;(try simp only[Exit.inBlock,Exit.then])
         refine qx (v:=.agg #[.slice ra k rc,.slice fa q fc,.slice xa p xc,.slice pa r pc,.slice a1 NS c1]) ?_ rfl ?_
         . rw[ag4 rfl];go_simp
         . obtain⟨X,P,O,hR⟩:=Gg.o (((((wr.setCell ⟨w.heap.size+1,0,none⟩ (.slice ra k rc)).setCell ⟨w.heap.size+1,1,none⟩ (.slice fa q fc)).setCell ⟨w.heap.size+1,2,none⟩ (.slice xa p xc)).setCell ⟨w.heap.size+1,3,none⟩ (.slice pa r pc)).setCell ⟨w.heap.size+1,4,none⟩ (.slice a1 NS c1)) rfl rfl rfl (by simp) (fun g hg=>by
            rw[Below.heap_setCell _ _ _ _ hg,Below.heap_setCell _ _ _ _ hg,Below.heap_setCell _ _ _ _ hg,Below.heap_setCell _ _ _ _ hg,Below.heap_setCell _ _ _ _ hg])
           refine⟨WF.heap.size,_,_,_,_,(a1,c1),X,P,O,?_,hR,HDW.o,?_⟩
           . unfold sl;rw[<- HL.o.2.2.2.2]
           . repeat (first|refine Below.setCell ?_ (by simp) _ | exact HBE.o)
end Go.Proofs.YtmejdflmcikkdaaGreatDoor
