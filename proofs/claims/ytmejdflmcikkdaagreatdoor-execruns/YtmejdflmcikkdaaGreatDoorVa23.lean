/- What the developers' read does, and more. -/
import Derived.Test.YtmejdflmcikkdaaGreatDoorVAb
import Derived.Test.YtmejdflmcikkdaaGreatDoorVa22
set_option linter.all false
set_option maxRecDepth 100000
set_option maxHeartbeats 64000000
namespace Go.Proofs.YtmejdflmcikkdaaGreatDoor
open Go.RowKit Go.Gs Go.Maps Tryz
variable {G:World->qW->Prop}
variable {x:SPipe}
theorem bz7(M:SMach)(i:Nat)(n:SNode)(q:Nat)(p p':SProc):F3 (M.setP i p') i n q p=F3 M i n q p:=by unfold F3 SMach.setP SMach.setX SMach.pipe;simp only[List.set_set]
theorem bp9(h:pchk x=0):pread x 8=(⟨x.b.drop 8,x.room,x.closed,x.shut⟩,x.b.take 8,0):=by
 unfold pread;rw[qB (by simp[h]),qB qO];by_cases h8:8<=x.b.length
 . rw[zA (by simpa using h8)];rfl
 . rw[Nat.min_eq_right (by simp;omega),qi qO,qi qO,qP qO,qP qO]
theorem aA2:∀{l:qL}{m:Nat}{g b:qU},l[m]?=some g->(l.set m (g++b)).flatten.length=l.flatten.length+b.length
 | [],m,g,b,h=>by simp at h
 | a::r,0,g,b,h=>by simp at h;subst h;simp;omega
 | a::r,m+1,g,b,h=>by have:=aA2 (l:=r) (b:=b) (by simpa using h);simp only[List.set_cons_succ,xC,qI];omega
theorem ap1{M:SMach}(hS:Shape M):M.pipes.length<=300:=by
 rw[hS.xlen];have:∀(l:List SNode),(∀m∈l,m.ins.length<=5)->(b8 l).length<=5*l.length:=by
  intro l
  induction l with
  | nil=>intro _;simp[b8]
  | cons m l ih=>intro hm;have h1:=ih (fun m' hm'=>hm m' (by simp[hm']));have h2:=hm m (by simp);simp only[b8,xy,xC,qI,ql]at *;omega
 have h1:=this M.ns (fun m hm=>(A1 (hS.g.node m hm)).1);have:=hS.g.le60;omega
theorem bX0(D r:Nat)(O:qW)(d:RD)(i q m:Nat)(n:SNode)(p:SProc)(x:SPipe)(g:qU)(w:World)(h:RunM G w D r O d)(hS:Shape d.M)(hn:d.M.ns[i]?=some n)(hp:d.M.ps[i]?=some p)(hm:p.pos=(m:Int))(hgm:p.got[m]?=some g)(hq:q=Gs.f9 d.M.ns i+m)(hx:d.M.pipes[q]?=some x)(Ad:G8 n)(hT:p.got.flatten.length<=60299992)(hsm:∀b∈p.out,b.length<=90000000)(hsk:d.M.sunk.length<=90000000)(hE:∀W,Below D w W->q8 W):
 Calls prog 64 #[.pointer (some ⟨r,0,none⟩),.int .i64 i] w fun e w'=>e=.returned (.int .i64 (Y4 d.M i n q p).2)/\o6 G w' D r (Y4 d.M i n q p).1/\Below D w w':=by
 have hF:=hS.proc i n p hn hp;have hml:m<p.got.length:=(gSm hgm).1;have hat:p.at=g:=by unfold SProc.at;rw[hm,qh,hgm];rfl
 obtain⟨gP,cP,s,hvP,Db,Dw,hgP,hOP,hs,p0,p1,p2,p3,p4,hfP,hGo,hOo,hgl,hol⟩:=h.procAt hp;obtain⟨gG,cG,a,hgv,Kp,Wh,hgG,hOG,ha,hSa,g0,hfG⟩:=RMem.gotAt h hp hs hgm;obtain⟨gX,cX,hvX,Fz,Fo,hOX⟩:=h.formX (Shape.pipes0 hS);obtain⟨t,ht,hRt,x0,x1,x2,x3,hfX,_,hgX⟩:=RMem.atX h hvX hx;obtain⟨gI,cI,hvI,hcI1,hcI2,i0⟩:=h.firstAt hn;have hil:i<d.M.ps.length:=(gSm hp).1;have hin:i<d.M.ns.length:=(gSm hn).1;have hql:q<d.M.pipes.length:=(gSm hx).1;obtain⟨b0,b1,b2,b3,b4,b5,b6⟩:=K9 h.box.1;rw[hvP]at b3;rw[hvX]at b2;rw[hvI]at b5;rw[hgv]at p0;rw[hm]at p1;have hck:pchk x=0:=hS.pipe x (mGt hx);have h300:d.M.pipes.length<=300:=ap1 hS;have hm5:m<=5:=by have:=(A1 (hS.g.node n (mGt hn))).1;have:=hF.glen;omega
 have hqi:IntKind.i64.wrap ((Gs.f9 d.M.ns i:Int)+(m:Int))=(q:Int):=by rw[zx,hq];omega
 have La:d.M.pipe q=x:=aa9 hx;obtain⟨RES,Aj⟩:=qE (Y4 d.M i n q p);rw[<- Aj];have HH:Hid (RunM G w D r O d):=h;have HS:=qH hS;have HN:=qH hn;have HP:=qH hp;have HSl:=qH hs;have HX:=qH hx;have HGM:=qH hgm;have HA:=qH ha;have HGV:=qH hgv;have HVP:=qH hvP;have HVX:=qH hvX;have HM:=qH hm;have HF:=qH hF;have HQ:=qH hq;have HCK:=qH hck;have HRT:=qH hRt;have Gl:=qH Ad;have HSM:=qH hsm;have HSK:=qH hsk;have HE:=qH hE;have HT:=qH hT;have HAT:=qH hat;have HTX:=qH ht;have Bd:=qH (show RES=if x.closed && x.b.isEmpty then (if p.pos+1=p.got.length then (d.M.setP i (D2 n d.M.fs ⟨p.got,p.pos+1,p.out,p.rd,p.ov⟩),0) else (d.M.setP i ⟨p.got,p.pos+1,p.out,p.rd,p.ov⟩,0)) else if x.b.isEmpty then (d.M,8) else (F3 (d.M.setX q ⟨x.b.drop 8,x.room,x.closed,x.shut⟩) i n q (p.setGot (g++x.b.take 8)),0) by rw[Aj];unfold Y4;rw[La,hat]);have HPO:Hid _:=fun W=>bS8 t.1 x.b.length t.2 x.room x.closed x.shut W;obtain⟨NP,hNP⟩:=qE d.M.ps.length;obtain⟨NN,hNN⟩:=qE d.M.ns.length;obtain⟨NX,hNX⟩:=qE d.M.pipes.length;obtain⟨GL,hGL⟩:=qE p.got.length;have HGL:=qH hGL;rw[<- hNP]at b3 hil Db;rw[<- hNN]at b5 hcI1 hin;rw[<- hNX]at b2 Fz hql h300;rw[<- hGL]at p0 Kp hml;obtain⟨FI,hFI⟩:=qE (Gs.f9 d.M.ns i);rw[<- hFI]at i0 hqi hq;unfold sl at x0;obtain⟨ta,tc⟩:=t;simp only at x0 HPO;obtain⟨XL,hXL⟩:=qE x.b.length;have HXL:=qH hXL;obtain⟨xr,hxr⟩:=qE x.room;obtain⟨xc,hxc⟩:=qE x.closed;obtain⟨xs,hxs⟩:=qE x.shut;have HXV:Hid (xr=x.room/\xc=x.closed/\xs=x.shut):=⟨hxr,hxc,hxs⟩;rw[<- hXL]at x0 HPO;rw[<- hxr]at x1 HPO;rw[<- hxc]at x2 HPO;rw[<- hxs]at x3 HPO;have hf300:FI<=300:=qO;clear h hS hn hp hs hx hgm ha hSa hgv hvP hvX hvI hOG hOP hOX hat hm hck hRt ht Ad hsm hsk hE hT hF hNP hNN hNX hGL hXL hxr hxc hxs La Aj hGo hOo hgl hol hfP hfG hfX b0 b1 b4 b6 p2 p3 p4 hgX hgG hgP hFI hq g0;go_enter func64,ntmps64;go_wp2_with fail;go_quiet (fail);go_wp2_with fail;refine qD (HPO.o _) ?_;rintro e w2⟨rfl,hb2⟩;have Gk:Bq w w2:=(P4 (n:=nq)).trans hb2;have hR2:=RMem.below HH.o Gk;have HR2:Hid (RunM G w2 D r O d):=hR2;have HB2:=qH Gk;have x0':=qC Gk x0;have x1':=qC Gk x1;have x2':=qC Gk x2;have x3':=qC Gk x3;obtain⟨gP2,cP2,s2,Pn,_,_,_,Ru,hs2,q0,q1,_,_,_,Wp,_⟩:=RMem.procAt hR2 HP.o;rw[HVP.o]at Pn;injection Pn with e1 e2 e3;injection e1 with e1;injection e1 with e1;subst e1;rw[HSl.o]at hs2;injection hs2 with hs2;subst hs2;rw[HGV.o]at q0;rw[HM.o]at q1;have HOP2:=qH Ru;rw[<- HGL.o]at q0;clear hb2 Gk hR2 e2 e3 Ru HPO b2 b3 b5 p0 p1 x0 x1 x2 x3 i0 hqi;by_cases hov:(xc && decide (XL=0))=true
 .
  have hxcT:xc=true:=by simp at hov;exact hov.1
  have hXL0:XL=0:=by simp at hov;exact hov.2
  have HR9:=qH (show RES=if p.pos+1=p.got.length then (d.M.setP i (D2 n d.M.fs ⟨p.got,p.pos+1,p.out,p.rd,p.ov⟩),0) else (d.M.setP i ⟨p.got,p.pos+1,p.out,p.rd,p.ov⟩,0) by
   rw[Bd.o,qF]
   rw[<- HXV.o.2.1,hxcT]
   have:x.b=[]:=qz.1 (by rw[<- HXL.o];exact hXL0)
   rw[this]
   rfl)
  have hm1:IntKind.i64.wrap ((m:Int)+1)=(m:Int)+1:=by rw[zx];omega
  have Az:=RMem.setNum HR2.o (p':=⟨p.got,p.pos+1,p.out,p.rd,p.ov⟩) (u:=.int .i64 ((m:Int)+1)) (k:=1) HP.o HSl.o HVP.o HOP2.o qO (by unfold F7;simp only[List.set_cons_succ,List.set_cons_zero];rw[HM.o]) rfl rfl;have hBD:Below D w (w2.setCell ⟨gP,i*5+1,none⟩ (.int .i64 ((m:Int)+1))):=(HB2.o.mono HH.o.le).setCell (HR2.o.lo _ _ HOP2.o).1 _;have HSET:Hid _:=Az;have HBD:Hid _:=hBD;have hf1:=Wp (i*5+1);have Uh:p.pos+1=p.got.length->∀N,Calls prog 63 #[.pointer (some ⟨r,0,none⟩),.int .i64 i] ((w2.setCell ⟨gP,i*5+1,none⟩ (.int .i64 ((m:Int)+1))).drewN N) fun e w'=>e=.returned (.int .i64 0)/\o6 G w' D r (d.M.setP i (D2 n d.M.fs ⟨p.got,p.pos+1,p.out,p.rd,p.ov⟩))/\Below D w w':=by
   intro _ N;have hsg:=HS.o.toG;have hBN:Below D w ((w2.setCell ⟨gP,i*5+1,none⟩ (.int .i64 ((m:Int)+1))).drewN N):=hBD.trans P4;have:=aP0 D r O (d.setProc i ⟨p.got,p.pos+1,p.out,p.rd,p.ov⟩ s) i n ⟨p.got,p.pos+1,p.out,p.rd,p.ov⟩ _ (RMem.below Az (P4 (n:=N))) ⟨hsg.gok,hsg.fok,by simpa[RD.setProc,SMach.setP]using hsg.plen⟩ HN.o (j8 HP.o) Gl.o (by have:=HT.o;show p.got.flatten.length<=_;omega) (fun b hb=>by have:=HSM.o b hb;omega) (fun W hW=>HE.o W (hBN.trans hW)) HF.o.olen HF.o.glen;have e1:(d.setProc i ⟨p.got,p.pos+1,p.out,p.rd,p.ov⟩ s).M.setP i (D2 n d.M.fs ⟨p.got,p.pos+1,p.out,p.rd,p.ov⟩)=d.M.setP i (D2 n d.M.fs ⟨p.got,p.pos+1,p.out,p.rd,p.ov⟩):=by unfold RD.setProc SMach.setP;simp only[List.set_set]
   have e2:(d.setProc i ⟨p.got,p.pos+1,p.out,p.rd,p.ov⟩ s).M.fs=d.M.fs:=rfl;rw[e2,e1]at this;refine this.mono ?_;rintro e w'⟨h1,h2,h3⟩;exact⟨h1,h2,hBN.trans h3⟩
  have Ht:Hid _:=Uh;rw[hov];clear Uh Az hBD Wp Bd x0' x1' x2' x3' hov;go_wp2_with fail;go_quiet (fail);by_cases hl:m+1=GL
  . have hlI:p.pos+1=(p.got.length:Int):=by rw[HM.o,<- HGL.o];omega
    have Il:=qH (show RES=(d.M.setP i (D2 n d.M.fs ⟨p.got,p.pos+1,p.out,p.rd,p.ov⟩),0) by rw[HR9.o,qF hlI]);have hlI':((m:Int)+1)=(GL:Int):=qO;have HF2:Hid _:=Ht.o hlI;rw[hlI']at HF2;clear Ht HR9 hlI;go_wp2_with fail;refine qD (HF2.o _) ?_;rintro e w5⟨rfl,hb5⟩;have Ao:Hid _:=hb5;clear hb5 HF2;go_wp2_with fail;go_ret;rw[Il.o];exact⟨rfl,Ao.o⟩
  . have hlI:¬p.pos+1=(p.got.length:Int):=by rw[HM.o,<- HGL.o];omega
    have Il:=qH (show RES=(d.M.setP i ⟨p.got,p.pos+1,p.out,p.rd,p.ov⟩,0) by rw[HR9.o,qB hlI]);have hlI':¬((m:Int)+1)=(GL:Int):=qO;have Ao:=qH (show ∀N,o6 G ((w2.setCell ⟨gP,i*5+1,none⟩ (.int .i64 ((m:Int)+1))).drewN N) D r (d.M.setP i ⟨p.got,p.pos+1,p.out,p.rd,p.ov⟩)/\Below D w ((w2.setCell ⟨gP,i*5+1,none⟩ (.int .i64 ((m:Int)+1))).drewN N) from fun N=>⟨⟨O,d.setProc i ⟨p.got,p.pos+1,p.out,p.rd,p.ov⟩ s,RMem.below HSET.o P4,rfl⟩,HBD.o.trans P4⟩);clear Ht HR9 hlI;go_wp2_with fail;go_ret;rw[Il.o];exact⟨rfl,Ao.o _⟩
 .
  have hovF:(xc && decide (XL=0))=false:=by simpa using hov
  have HR9:=qH (show RES=if x.b.isEmpty then (d.M,8) else (F3 (d.M.setX q ⟨x.b.drop 8,x.room,x.closed,x.shut⟩) i n q (p.setGot (g++x.b.take 8)),0) by
   rw[Bd.o,qB]
   rw[<- HXV.o.2.1]
   intro h
   rw[zX,xl]at h
   apply hov
   rw[h.1,HXL.o,h.2]
   rfl)
  have Wq:ROf w2 O (.pipe q) (ta,tc) x.b:=HR2.o.part (.pipe q) x (ta,tc) HX.o HTX.o;have hRD:=ca8 ta tc x 8 w2 Wq.1 Wq.2.1;rw[bp9 HCK.o]at hRD;unfold M8 at hRD;rw[<- HXL.o,<- HXV.o.1,<- HXV.o.2.1,<- HXV.o.2.2]at hRD;have HRD:Hid _:=hRD;rw[hovF];clear hRD Wq Wp Bd hov hovF q0 q1;go_wp2_with fail;refine qD HRD.o ?_;rintro e w3⟨ar,cr,ab,cb,rfl,hPr,hPb,hb3⟩;unfold M8;simp only at hPr hPb ⊢;have HB3:=qH hb3;have HPR:=qH hPr;have HPBb:=qH hPb;obtain⟨DL,hDL⟩:=qE ((x.b.drop 8).length);obtain⟨TL,hTL⟩:=qE ((x.b.take 8).length);have HDL:=qH hDL;have HTL:=qH hTL;rw[<- hDL,<- hTL];clear hDL hTL hPr hPb hb3 HRD;by_cases he:x.b=[]
  .
   have hT0:TL=0:=by rw[HTL.o,he];rfl
   have Il:=qH (show RES=(d.M,8) by rw[HR9.o,he];rfl)
   have Ao:=qH (show ∀o,o6 G (w3.alloc o) D r d.M/\Below D w (w3.alloc o) from fun o=>by
    have hR3:=RMem.below HR2.o HB3.o
    exact⟨⟨O,d,RMem.below hR3 boxE,rfl⟩,((HB2.o.mono HH.o.le).trans (HB3.o.mono HR2.o.le)).trans (boxE.mono hR3.le)⟩)
   subst hT0;clear HR9 he;go_wp2_with fail;go_ret;rw[Il.o];exact⟨rfl,Ao.o _⟩
  .
   have hT0:¬TL=0:=by rw[HTL.o];intro h0;rw[qX]at h0;have:=xj.2 he;omega
   have hT0':¬(TL:Int)=0:=qO;have hTL8:TL<=8:=by rw[HTL.o,qX];omega
   have Il:=qH (show RES=(F3 (d.M.setX q ⟨x.b.drop 8,x.room,x.closed,x.shut⟩) i n q (p.setGot (g++x.b.take 8)),0) by
    rw[HR9.o,qB]
    rw[xl]
    exact he)
   have hR3:=RMem.fresh HR2.o HB3.o (.pipe q);have Ix:=aV9 (O:=O) (o:=.pipe q) HPR.o;obtain⟨W4,hW4⟩:=qE (w3.alloc (.cells #[.slice ar DL cr,.int .i64 xr,.bool xc,.bool xs] 61));have Ak:W4.heap[w3.heap.size]?=some (.cells #[.slice ar DL cr,.int .i64 xr,.bool xc,.bool xs] 61 (0,0)):=by rw[hW4];exact qJ _ _
   have Ek:Bq w3 W4:=by rw[hW4];exact boxE
   have hR4:=RMem.below hR3 Ek;have hBD:Below D w W4:=(HB2.o.mono HH.o.le).trans ((HB3.o.mono HR2.o.le).trans (Ek.mono hR3.le));have Fe:ROf W4 (addO O w2 w3 (.pipe q)) (.pipe q) (ar,cr) (x.b.drop 8):=Ix.keep (fun k' hk'=>Ek.block k' (hR3.lo k' _ hk').2) (fun _ _ _=>rfl);obtain⟨t4,ht4,_,y0,y1,y2,y3,gfX,gOX,gX4⟩:=RMem.atX hR4 HVX.o HX.o;obtain⟨m0,m1,m2,m3⟩:=C9 Ak;have k1:=RMem.setPipe hR4 (x':=⟨x.b.drop 8,x.room,x.closed,x.shut⟩) (s':=(ar,cr)) HX.o HVX.o gOX Fe;obtain⟨W5,hW5⟩:=qE (((((W4.setCell ⟨gX,q*4,none⟩ (sl (x.b.drop 8) (ar,cr))).setCell ⟨gX,q*4+1,none⟩ (.int .i64 x.room)).setCell ⟨gX,q*4+2,none⟩ (.bool x.closed)).setCell ⟨gX,q*4+3,none⟩ (.bool x.shut)));rw[<- hW5]at k1;have hDX:D<=gX:=(hR4.lo _ _ gOX).1;have hgX2:gX<w2.heap.size:=by have:=(RMem.atX HR2.o HVX.o HX.o);obtain⟨_,_,_,_,_,_,_,_,_,h9⟩:=this;exact h9
   have hBD5:Below D w W5:=by rw[hW5];exact (((hBD.setCell hDX _).setCell hDX _).setCell hDX _).setCell hDX _
   have hrb5:Reads W5 (.slice ab TL cb) TL ((x.b.take 8).map U):=by
    have h1:=HPBb.o.1;rw[<- HTL.o]at h1;refine Q4 (h1.below Ek) (fun a ha=>?_);have hne:a.block≠gX:=by have:=HPBb.o.2.1 a ha;omega
    rw[hW5,Below.heap_setCell _ _ _ _ hne,Below.heap_setCell _ _ _ _ hne,Below.heap_setCell _ _ _ _ hne,Below.heap_setCell _ _ _ _ hne]
   have Po:=RMem.below k1 ((Below.refl _ W5).drew);have hP5:(d.setPipe q ⟨x.b.drop 8,x.room,x.closed,x.shut⟩ (ar,cr)).M.ps[i]?=some p:=HP.o;have hS5:(d.setPipe q ⟨x.b.drop 8,x.room,x.closed,x.shut⟩ (ar,cr)).P[i]?=some s:=HSl.o;obtain⟨gP5,cP5,s5,hvP5,_,_,hgP5,hOP5,hs5,r0,r1,_⟩:=RMem.procAt Po hP5;rw[show (d.setPipe q ⟨x.b.drop 8,x.room,x.closed,x.shut⟩ (ar,cr)).vP=d.vP from rfl,HVP.o]at hvP5;injection hvP5 with e1 e2 e3;injection e1 with e1;injection e1 with e1;subst e1;rw[hS5]at hs5;injection hs5 with hs5;subst hs5;rw[HGV.o]at r0;rw[HM.o]at r1;obtain⟨gG5,cG5,a5,hgv5,_,_,Ws,Wt,ha5,hSa5,u0,hfG5⟩:=RMem.gotAt Po hP5 hS5 HGM.o;rw[HGV.o]at hgv5;injection hgv5 with e4 e5 e6;injection e4 with e4;injection e4 with e4;subst e4;have Ui:Reads W5.drew (.slice ab (x.b.take 8).length cb) (x.b.take 8).length ((x.b.take 8).map U):=by have:=hrb5.below ((Below.refl _ W5).drew);rw[HTL.o]at this;exact this
   obtain⟨s7,w7,O7,Ae,hR7,Pj,Ik,Gm⟩:=RMem.appendGot Po hP5 hS5 HGM.o ha5 Ui (by have h2:=A3 (mGt HGM.o);have:=HT.o;have:=HTL.o;omega) 28;have Wu:O7 gG=some (.gots i):=(Gm gG Ws).trans Wt;have Ec:=RMem.setGot hR7 hP5 hS5 HGM.o HGV.o Wu Pj;have Hu:=Ik.block gP hgP5 (by rw[hOP5];exact fun e=>by cases e);have Pq:=Ik.block gG Ws (by rw[Wt];exact fun e=>by cases e);have r0':w7.cell? ⟨gP,i*5,none⟩=some (.slice (some ⟨gG,0,none⟩) p.got.length cG):=by simp only[World.cell?]at r0 ⊢;rw[Hu];exact r0
   have r1':w7.cell? ⟨gP,i*5+1,none⟩=some (.int .i64 m):=by simp only[World.cell?]at r1 ⊢;rw[Hu];exact r1
   have hfG':w7.frozen? ⟨gG,m,none⟩=false:=by have h2:=hfG5 m;simp only[World.frozen?]at h2 ⊢;rw[Pq];exact h2
   have u0':w7.cell? ⟨gG,m,none⟩=some (sl g a5):=by simp only[World.cell?]at u0 ⊢;rw[Pq];exact u0
   have r0d:W5.cell? ⟨gP,i*5,none⟩=some (.slice (some ⟨gG,0,none⟩) p.got.length cG):=r0;have r1d:W5.cell? ⟨gP,i*5+1,none⟩=some (.int .i64 m):=r1;have u0d:W5.cell? ⟨gG,m,none⟩=some (sl g a5):=u0;obtain⟨W8,hW8⟩:=qE (w7.setCell ⟨gG,m,none⟩ (sl (g++x.b.take 8) s7));rw[<- hW8]at Ec;have Lu:Below D w W8:=by rw[hW8];exact (hBD5.trans (((Below.refl D W5).drew).trans (Ik.below Po))).setCell (hR7.lo _ _ Wu).1 _
   have Uj:Calls prog 98 #[.pointer (some ⟨r,0,none⟩),.int .i64 i] W8 fun e w'=>e=.returned (.int .i64 0)/\o6 G w' D r RES.1/\Below D w w':=by
    have Uw:g++x.b.take 8≠[]:=by intro h0;have:=congrArg List.length h0;rw[qI,<- HTL.o]at this;simp at this;omega
    have hxg:=Q7 HCK.o;have hck8:pchk ⟨x.b.drop 8,x.room,x.closed,x.shut⟩=0:=by
     refine Z4 hxg.1 hxg.2.1 ?_ (fun e=>?_)
     . show ((x.b.drop 8).length:Int)<=plim x.room;have:=hxg.2.2.1;rw[qy];omega
     . show (x.b.drop 8).length=0;have:=hxg.2.2.2 e;rw[qy];omega
    have hS8:Shape ((d.setPipe q ⟨x.b.drop 8,x.room,x.closed,x.shut⟩ (ar,cr)).setProc i (SProc.gotSet p m (g++x.b.take 8)) (s.gotSet m s7)).M:=by
     refine HS.o.change HN.o (SProc.gotSet p m (g++x.b.take 8)) (d.M.pipes.set q ⟨x.b.drop 8,x.room,x.closed,x.shut⟩) d.M.sunk ?_ (by simp) (fun y hy=>?_)
     . exact⟨by unfold SProc.gotSet;simpa using HF.o.glen,HF.o.olen,HF.o.pos0,HF.o.pos1,HF.o.ovrd,HF.o.pos2⟩
     . rcases aH6 hy with rfl | hy
       . exact hck8
       . exact HS.o.pipe y hy
    have:=bW9 D r O7 ((d.setPipe q ⟨x.b.drop 8,x.room,x.closed,x.shut⟩ (ar,cr)).setProc i (SProc.gotSet p m (g++x.b.take 8)) (s.gotSet m s7)) i q m n (SProc.gotSet p m (g++x.b.take 8)) ⟨x.b.drop 8,x.room,x.closed,x.shut⟩ (g++x.b.take 8) W8 Ec hS8 HN.o (j8 HP.o) HM.o (j8 HGM.o) Uw HQ.o (j8 HX.o) Gl.o (by
     have:=aA2 (b:=x.b.take 8) HGM.o
     have h2:=HT.o
     have h3:=HTL.o
     show (p.got.set m (g++x.b.take 8)).flatten.length<=_
     omega) HSM.o HSK.o (fun W hW=>HE.o W (Lu.trans hW))
    refine this.mono ?_;rintro e w'⟨h1,h2,h3⟩;refine⟨h1,?_,Lu.trans h3⟩;rw[Il.o];have e1:F3 ((d.setPipe q ⟨x.b.drop 8,x.room,x.closed,x.shut⟩ (ar,cr)).setProc i (SProc.gotSet p m (g++x.b.take 8)) (s.gotSet m s7)).M i n q (SProc.gotSet p m (g++x.b.take 8))=F3 (d.M.setX q ⟨x.b.drop 8,x.room,x.closed,x.shut⟩) i n q (p.setGot (g++x.b.take 8)):=by
     have e2:p.setGot (g++x.b.take 8)=SProc.gotSet p m (g++x.b.take 8):=by unfold SProc.setGot SProc.gotSet;rw[HM.o,qh]
     rw[e2];exact bz7 (d.M.setX q ⟨x.b.drop 8,x.room,x.closed,x.shut⟩) i n q _ _
    rw[e1]at h2;exact h2
   have HCAME:Hid _:=Uj;have HRZ:=qH (show RES.2=0 by rw[Il.o]);have Au:Hid _:=Ae;have fX0:=gfX (q*4);have fX1:=gfX (q*4+1);have fX2:=gfX (q*4+2);have fX3:=gfX (q*4+3);rw[<- HGL.o]at r0d r0';obtain⟨a5a,a5c⟩:=a5;obtain⟨s7a,s7c⟩:=s7;have hgbl:=t8 hSa5.reads;unfold sl at y0 u0d u0' Au hW8;simp only at y0 u0d u0' Au hW8 hgbl;rw[<- HTL.o]at Au;generalize ht4l:t4.1=ta4 at *;generalize ht4c:t4.2=tc4,g.length=BL,(g++x.b.take 8).length=NL at *;rw[<- HXL.o]at y0;rw[<- HXV.o.1]at y1;rw[<- HXV.o.2.1]at y2;rw[<- HXV.o.2.2]at y3;unfold sl at hW5;simp only at hW5;rw[<- HDL.o,<- HXV.o.1,<- HXV.o.2.1,<- HXV.o.2.2]at hW5;have HW5:Hid _:=hW5;have HW8:Hid _:=hW8;clear Uj Ec Lu hW5 hW8 hR7 Pj Ik Gm Ae Wu Po k1 hBD5 hBD hrb5 Ui hR3 Ix Fe hR4 Ek Ak ht4 gfX gOX gX4 hDX hgX2 r0 r1 u0 hSa5 ha5 hfG5 Wt Ws hOP5 hgP5 hP5 hS5 Hu Pq e2 e3 e5 e6 Il HR9 he x0' x1' x2' x3' ht4l ht4c;go_upto_region 13 with fail;rw[<- hW4];clear hW4;go_upto_region 14 with fail;rw[<- HW5.o];clear HW5 y0 y1 y2 y3 fX0 fX1 fX2 fX3 m0 m1 m2 m3;go_region_law (refine ac9 rfl (.tmp 93) (.tmp 94) 28 rfl (.slice a5a BL a5c) (.slice ab TL cb) (by simp[Act.eval]) (by simp[Act.eval]) Au.o ?_)
   all_goals
    try rw[<- HW8.o]
    go_wp2_with fail;refine qD HCAME.o ?_;rintro e w9⟨rfl,hb9⟩;have Ao:Hid _:=hb9;clear hb9;go_wp2_with fail;go_ret;rw[HRZ.o];exact⟨rfl,Ao.o⟩
end Go.Proofs.YtmejdflmcikkdaaGreatDoor
namespace Go.Proofs.YtmejdflmcikkdaaGreatDoor
open Go.RowKit Go.Gs Go.Maps Tryz
variable {ns:List SNode}{n:SNode}{L:List (Int × Int)}{p:Int × Int}
theorem af5{k:Nat}(h:ns[k]?=some n):b8 (ns.take (k+1))=b8 (ns.take k)++n.ins:=by rw[qZ,h];simp[b8]
def StAt(wr:World)(D r b:Nat)(M:SMach)(vN:Value)(L:List (Int × Int))(k:Nat):Prop:=∃O d,RMem wr D r O (AuxT D d.vI d.vM d.M.ns L k) d/\d.M=M/\d.vN=vN/\d.vM=.map (some b)
theorem bg2{j:Nat}(hn:L.Nodup)(hp:L[j]?=some p):p∉L.take j:=by
 intro hm;obtain⟨i,hi⟩:=qw hm;have hil:i<j:=by have:=(gSm hi).1;rw[qX]at this;omega
 rw[List.getElem?_take_of_lt hil]at hi;obtain⟨h1,e1⟩:=gSm hi;obtain⟨h2,e2⟩:=gSm hp;have f1:=hn.idxOf_getElem i h1;have f2:=hn.idxOf_getElem j h2;rw[e1]at f1;rw[e2]at f2;omega
theorem aP1(g:RightG ns){k j:Nat}(hn:ns[k]?=some n)(hp:n.ins[j]?=some p):p∉b8 (ns.take k)++n.ins.take j:=by
 have hj:j<n.ins.length:=(gSm hp).1;have h1:=aq5 hn hj;rw[hp]at h1;have h2:=bg2 g.nodup h1;have e:(b8 ns).take (Gs.f9 ns k+j)=b8 (ns.take k)++n.ins.take j:=by
  have h3:b8 ns=b8 (ns.take k)++(n.ins++b8 (ns.drop (k+1))):=by
   have hkl:k<ns.length:=(gSm hn).1;have h4:ns=ns.take k++n::ns.drop (k+1):=by rw[<- aq4 hn,xU]
   conv=>lhs;rw[h4]
   rw[U1];congr 1
  rw[h3];unfold Gs.f9;rw[List.take_append,qP qO,Nat.add_sub_cancel_left,zd qO]
 rw[e]at h2;exact h2
theorem aw7(an af ax ap aS : Option Addr)(cn cf cx cp cs : Nat)(M : SMach)(w : World)(h : RMach w an af ax ap aS cn cf cx cp cs M)(hsm : SmallC M)(hS : Shape M)(Ad : ∀ n ∈ M.ns, G8 n):
    Calls prog 21 #[machV an af ax ap aS M cn cf cx cp cs] w fun e w' => ∃ D r, e = .returned (.pointer (some ⟨r, 0, none⟩)) ∧ o6 NoG w' D r M ∧ w.heap.size ≤ D ∧ Bq w w' := by
 have HCL : Hid (∀ W, Bq w W → Calls prog 24 #[machV an af ax ap aS M cn cf cx cp cs] W fun e w' => ∃ D vN vF vX vP sS X P O, e = .returned (.agg #[vN, vF, vX, vP, sl M.sunk sS]) ∧ (∀ vI vM, Raw w' D O ⟨M, vN, vF, vX, vP, vI, vM, sS, X, P⟩) ∧ W.heap.size ≤ D ∧ Bq W w') := (show ∀ W, _ from fun W hW => aL7 an af ax ap aS cn cf cx cp cs M W (h.below hW) hsm);have HS : Hid (Shape M) := hS;have Gl : Hid (∀ n ∈ M.ns, G8 n) := Ad;have h60 : M.ns.length ≤ 60 := hS.g.le60;unfold machV at HCL ⊢;obtain ⟨NN, hNN⟩ : ∃ z, z = M.ns.length := ⟨_, rfl⟩;obtain ⟨NF, hNF⟩ : ∃ z, z = M.fs.length := ⟨_, rfl⟩;obtain ⟨NX, hNX⟩ : ∃ z, z = M.pipes.length := ⟨_, rfl⟩;obtain ⟨NP, hNP⟩ : ∃ z, z = M.ps.length := ⟨_, rfl⟩;obtain ⟨NS, hNS⟩ : ∃ z, z = M.sunk.length := ⟨_, rfl⟩;have HL : Hid (NN = M.ns.length ∧ NF = M.fs.length ∧ NX = M.pipes.length ∧ NP = M.ps.length ∧ NS = M.sunk.length) := ⟨hNN, hNF, hNX, hNP, hNS⟩;rw [← hNN, ← hNF, ← hNX, ← hNP, ← hNS]at HCL ⊢;rw [← hNN]at h60;clear h hsm hS Ad hNN hNF hNX hNP hNS;go_enter func21, ntmps21;go_wp2_with fail;refine qD (HCL.o _ boxE) ?_;rintro e w1⟨D, vN, vF, vX, vP, sS, X, P, O, rfl, Im, hD, hb1⟩;have hRI := Im (.slice none 0 0) (.map (some w1.heap.size));obtain ⟨w0, _, _, hrn, hrf⟩ := hRI.base;obtain ⟨aN, cN, hvN, Va, Ju⟩ := hrn.shape;obtain ⟨aF, cF, hvF, _, _⟩ := hrf.shape;obtain ⟨⟨aX, cX, hvX, _, _⟩, _⟩ := g8 (hRI.part .pipes (by simp) (by simp)).1;obtain ⟨⟨aP, cP, hvP, _, _⟩, _⟩ := g8 (hRI.part .procs (by simp) (by simp)).1;simp only at hvN hvF hvX hvP Va;obtain ⟨O1, hR1⟩ := cb1 hRI rfl rfl;simp only at hR1;subst hvN hvF hvX hvP;rw [← HL.o.1]at Va;have Yo : cN ≤ 9223372036854775807 := by unfold maxLen at Ju; exact Ju
 obtain ⟨W3, hW3⟩ : ∃ W, W = (w1.alloc (.map #[] 0)).alloc (.cells #[.slice aN M.ns.length cN, .slice aF M.fs.length cF, .slice aX M.pipes.length cX, .slice aP M.ps.length cP, sl M.sunk sS, .slice none 0 0, .map (some w1.heap.size)] 71) := ⟨_, rfl⟩;rw [← hW3]at hR1;have Ak := RMem.boxR hR1 rfl;have HST : Hid (StAt W3 D (w1.heap.size + 1) w1.heap.size M (.slice aN M.ns.length cN) [] 0) := (show StAt _ _ _ _ _ _ _ _ from ⟨O1, ⟨M, .slice aN M.ns.length cN, .slice aF M.fs.length cF, .slice aX M.pipes.length cX, .slice aP M.ps.length cP, .slice none 0 0, .map (some w1.heap.size), sS, X, P⟩, hR1, rfl, rfl, rfl⟩);have hB3 : Bq w W3 := by rw [hW3];have h1 : Bq w w1 := boxE.trans (hb1.mono boxE.size);exact (h1.alloc h1.size _).alloc (by have := h1.size; simp; omega) _
 have HB3 : Hid (Bq w W3) := hB3
 have HD : Hid (w.heap.size ≤ D) := (show _ ≤ _ by have : (w.alloc (.cells #[.slice an NN cn, .slice af NF cf, .slice ax NX cx, .slice ap NP cp, .slice aS NS cs] 30)).heap.size = w.heap.size + 1 := by simp
                                                   omega)
 obtain ⟨b0, b1, b2, b3, b4, b5, b6⟩ := K9 Ak;unfold sl at hW3;simp only at hW3 b0;rw [← HL.o.1, ← HL.o.2.1, ← HL.o.2.2.1, ← HL.o.2.2.2.1, ← HL.o.2.2.2.2]at hW3;rw [← HL.o.1]at HST;rw [← HL.o.1]at b0;unfold sl;rw [← HL.o.1, ← HL.o.2.1, ← HL.o.2.2.1, ← HL.o.2.2.2.1, ← HL.o.2.2.2.2];clear Im hRI hrn hrf hR1 Ak hD hb1 hB3 Ju b1 b2 b3 b4 b5 b6 HCL;have hmm := @run_makeMap prog;go_upto_region 2 with fail;rw [← hW3];clear hW3 hmm;go_wp2_with fail;clear b0;go_loopw [4, 21] (fun zp zi wr => ∃ k : Nat, k ≤ NN ∧ zp = .int .i64 (Gs.f9 M.ns k : Int) ∧ zi = .int .i64 k ∧ Hid (StAt wr D (w1.heap.size + 1) w1.heap.size M (.slice aN NN cN) (b8 (M.ns.take k)) k) ∧ Hid (Bq w wr)) (fun _ zi _ => NN - (intOf zi).toNat)
 case atStart => exact ⟨0, qM _, by rw [ab7]; rfl, rfl, HST, HB3⟩
 case round =>
  obtain ⟨k, hk, rfl, rfl, hst, Aa⟩ := hrel;clear HST HB3;by_cases hlt : k < NN
  . obtain ⟨O, d, hR, eM, eN, eMap⟩ := hst.out;clear hst;obtain ⟨n, hn⟩ : ∃ n, M.ns[k]?=some n := ⟨_, List.getElem?_eq_getElem (by have := HL.o.1; omega)⟩;obtain ⟨w0, q1, q2, q3, q4⟩ := hR.base;rw [eN, eM]at q3;obtain ⟨nb, noff, ai, ci, e1, hNA, hrp⟩ := q3.at hn;subst e1;subst q1;have Lq := hNA.below q2;obtain ⟨c0, c1, c2, c3, c4, c5, c6, c7⟩ := Lq;have HRP : Hid (∀ W, Below w0.heap.size wr W → D5 W (.slice ai n.ins.length ci) n.ins) := (show ∀ W, _ from fun W hW => hrp.below (q2.trans hW));have hil : n.ins.length ≤ 5 := (A1 (HS.o.g.node n (zc hn))).1;have hfk : Gs.f9 M.ns k ≤ 300 := by
     have := ap1 HS.o;rw [HS.o.xlen]at this;have h2 : Gs.f9 M.ns k ≤ (b8 M.ns).length := by
      have := aJ8 (ns := M.ns) (i := k) (j := M.ns.length) (by have := HL.o.1; omega);have e : Gs.f9 M.ns M.ns.length = (b8 M.ns).length := by unfold Gs.f9; rw [qj]
      omega
     omega
    have HN : Hid (M.ns[k]?=some n) := hn;have hsuc := W7 hn;obtain ⟨_, _, _, _, _, b5, b6⟩ := K9 (RMem.boxR hR eMap);rw [eMap]at b6;obtain ⟨hA1, _⟩ := hR.part .aux;obtain ⟨⟨aI, cI, hvI, _, _⟩, _⟩ := g8 hA1;obtain ⟨IL, hIL⟩ : ∃ z, z = n.ins.length := ⟨_, rfl⟩;have HIL : Hid (IL = n.ins.length) := hIL;rw [← hIL]at c7 HRP hil hsuc;obtain ⟨fx, hfx⟩ : ∃ z, z = (⟨n.file.toArray⟩ : ByteArray) := ⟨_, rfl⟩;obtain ⟨wx0, hwx⟩ : ∃ z, z = (⟨n.c.word.toArray⟩ : ByteArray) := ⟨_, rfl⟩;rw [← hfx]at c1;rw [← hwx]at c3;generalize n.kind = n0 at *;generalize n.c.kind = n2 at *;generalize n.c.n = n4 at *;generalize n.how = n5 at *;generalize n.wide = n6 at *;obtain ⟨FI, hFI⟩ : ∃ z, z = Gs.f9 M.ns k := ⟨_, rfl⟩;have HFI : Hid (FI = Gs.f9 M.ns k) := hFI;rw [← hFI]at hfk hsuc ⊢;obtain ⟨W1, hW1⟩ : ∃ W, W = wr.alloc (.cells #[.int .i64 n0, .string fx, .int .i64 n2, .string wx0, .int .i64 n4, .int .i64 n5, .int .i64 n6, .slice ai IL ci] 57) := ⟨_, rfl⟩;obtain ⟨W2, hW2⟩ : ∃ W, W = W1.alloc (.cells #[.int .i64 FI] 3) := ⟨_, rfl⟩;have hb1 : Bq wr W1 := by rw [hW1]; exact boxE
    have hb2 : Bq wr W2 := by rw [hW2]; exact hb1.alloc hb1.size _
    have hs1 : W1.heap.size = wr.heap.size + 1 := by rw [hW1]; simp
    have hs2 : W2.heap.size = wr.heap.size + 2 := by rw [hW2]; simp; omega
    have hbx1 : W2.heap[wr.heap.size]?=some (.cells #[.int .i64 n0, .string fx, .int .i64 n2, .string wx0, .int .i64 n4, .int .i64 n5, .int .i64 n6, .slice ai IL ci] 57 (0, 0)) := by rw [hW2, heap_alloc_old _ _ qO, hW1];exact qJ _ _
    have Eu : W2.heap[wr.heap.size + 1]?=some (.cells #[.int .i64 FI] 3 (0, 0)) := by rw [hW2, ← hs1];exact qJ _ _
    have hR2 := RMem.below hR hb2;have hcI : W2.cell? ⟨wr.heap.size + 1, 0, none⟩ = some (.int .i64 (FI : Int)) := by rw [qY _ _ _ _ _ _ Eu]; rfl
    obtain ⟨v', w', O', Ae, ⟨a', c', hv'⟩, hbw, hsw, hrr, hkp, hR3⟩ := RMem.firstUp hR2 qO (c := 1) (m := (FI : Int)) (by rw [eM, hFI]) hcI 45;subst hv';have hOn : ∀ g, wr.heap.size ≤ g → O g ≠ some .aux := fun g hg e => by have := (hR.lo g _ e).2; omega
    have Uk := (hkp wr.heap.size qO (hOn _ (qA _))).trans hbx1;have hrb := hrr.trans (RMem.boxR hR2 eMap);have hfz5 : w'.frozen? ⟨w1.heap.size + 1, 5, none⟩ = false := xW _ _ _ _ _ hrb;obtain ⟨_, _, _, _, _, d5, _⟩ := K9 hrb;obtain ⟨W3x, Pv⟩ : ∃ W, W = w'.setCell ⟨w1.heap.size + 1, 5, none⟩ (.slice a' (k + 1) c') := ⟨_, rfl⟩;rw [← Pv]at hR3;have hrne : w1.heap.size + 1 < wr.heap.size := (hR.lo _ _ hR.boxO).2;have Jj : W3x.heap[wr.heap.size]?=some (.cells #[.int .i64 n0, .string fx, .int .i64 n2, .string wx0, .int .i64 n4, .int .i64 n5, .int .i64 n6, .slice ai IL ci] 57 (0, 0)) := by rw [Pv];exact (Below.heap_setCell _ _ _ _ (by show wr.heap.size ≠ w1.heap.size + 1; omega)).trans Uk
    have hDr : w0.heap.size ≤ w1.heap.size + 1 := (hR.lo _ _ hR.boxO).1;have Wv : Below w0.heap.size wr W3x := by rw [Pv];exact ((hb2.mono hR.le).trans hbw).setCell hDr _
    have HB3x : Hid (Below w0.heap.size wr W3x) := Wv;have Kq : Hid (StAt W3x w0.heap.size (w1.heap.size + 1) w1.heap.size M (.slice (some ⟨nb, noff, none⟩) NN cN) (b8 (M.ns.take k)) (k + 1)) := (show StAt _ _ _ _ _ _ _ _ from ⟨O', d.withI (.slice a' (k + 1) c'), hR3, eM, eN, eMap⟩);obtain ⟨_, _, _, _, _, _, _, i7⟩ := D8 Jj;have Au : Hid _ := Ae;rw [hvI]at Au b5 d5;have HB2w : Hid (Bq w W3x) := Aa.o.trans (Wv.mono HD.o);have HNB : Hid (M.ns.length = NN) := HL.o.1.symm;rw [hW2, hW1]at Au;have fb5 := fun o => ((boxE (w := wr) (o := o)).cell (World.block_lt_of_cell? wr _ b5)).trans b5;clear hR hR2 hR3 hrp q2 q3 q4 hNA hn eM eN hA1 hvI hb1 hb2 hbx1 Eu hcI hbw hkp hOn Uk hrr hrb Jj Wv Ae hIL hfx hwx hFI hs1 hs2 Aa eMap b6 hDr hsw hW1 hW2;go_upto_region 7 with (at_builtin; refine j4 _ rfl (.tmp 29) (.tmp 31) 45 rfl _ _ rfl rfl Au.o ?_);rw [← Pv];clear fb5 Pv Au c0 c1 c2 c3 c4 c5 c6 c7 b5 d5 hfz5;go_wp2_with fail;clear i7;go_loopw [4, 38] (fun zp zj wx => ∃ j : Nat, j ≤ IL ∧ zp = .int .i64 ((FI : Int) + (j : Int)) ∧ zj = .int .i64 j ∧ Hid (StAt wx w0.heap.size (w1.heap.size + 1) w1.heap.size M (.slice (some ⟨nb, noff, none⟩) NN cN) (b8 (M.ns.take k) ++ n.ins.take j) (k + 1)) ∧ Hid (Below w0.heap.size wr wx) ∧ Hid (Bq w wx)) (fun _ zj _ => IL - (intOf zj).toNat)
    case atStart => exact ⟨0, qM _, by simp, rfl, (show StAt _ _ _ _ _ _ _ _ by simpa using Kq.o), HB3x, HB2w⟩
    case round =>
     obtain ⟨j, hj, rfl, rfl, hst, hbx, Ul⟩ := hrel;clear Kq HB3x HB2w;by_cases Ww : j < IL
     . obtain ⟨p, hp⟩ : ∃ p, n.ins[j]?=some p := ⟨_, List.getElem?_eq_getElem (by have := HIL.o; omega)⟩;obtain ⟨O, d, hR, eM, eN, eMap⟩ := hst.out;have Eg := HRP.o _ hbx.out;obtain ⟨pb, poff, e2, p0, p1⟩ := Eg.at hp;subst e2;have hpl := S3 Eg;obtain ⟨_, _, _, _, _, _, b6⟩ := K9 (RMem.boxR hR eMap);rw [eMap]at b6;have Gj : WfP p := (Gl.o n (zc HN.o)).2.2 p (zc hp);have Hz : p ∉ b8 (M.ns.take k) ++ n.ins.take j := aP1 HS.o.g HN.o hp;have hLl : (b8 (M.ns.take k) ++ n.ins.take j).length = FI + j := by rw [qI, qX, HFI.o];unfold Gs.f9;have := HIL.o;omega
       have htk : b8 (M.ns.take k) ++ n.ins.take j ++ [p] = b8 (M.ns.take k) ++ n.ins.take (j + 1) := by rw [zQ];congr 1;rw [qZ, hp];rfl
       have hUP : ∀ W, Bq wr W → ∃ w', (Instr.mapUpdate 69 (.map (some w1.heap.size)) (.agg #[.int .i64 p.1, .int .i64 p.2]) (.int .i64 ((FI : Int) + (j : Int)))).run prog W = .ok () w' ∧ Hid (StAt w' w0.heap.size (w1.heap.size + 1) w1.heap.size M (.slice (some ⟨nb, noff, none⟩) NN cN) (b8 (M.ns.take k) ++ n.ins.take (j + 1)) (k + 1)) ∧ Hid (Below w0.heap.size wr w') := by intro W hW;obtain ⟨w', h1, h2, h3, h4⟩ := RMem.intoUp (RMem.below hR hW) eMap (by rw [hLl]; omega) Gj Hz (m := ((FI : Int) + (j : Int))) (by rw [hLl]; omega);rw [htk]at h4;exact ⟨w', h1, (show StAt _ _ _ _ _ _ _ _ from ⟨O, d, h4, eM, eN, eMap⟩), (hW.mono hR.le).trans h2⟩
       have HDR : Hid (w0.heap.size ≤ wr.heap.size) := hR.le;obtain ⟨q1, q2⟩ := p;simp only at p0 p1 hUP;have hb0 : Bq wr (wr.alloc (.cells #[.int .i64 q1, .int .i64 q2] 74)) := boxE;obtain ⟨y1, u1', s1, t1⟩ := hUP _ hb0.drew;have fb6 := fun o => ((boxE (w := wr) (o := o)).cell (World.block_lt_of_cell? wr _ b6)).trans b6;clear hst hR eM eN eMap Eg hp Gj Hz hLl htk hUP hb0;go_wp2_with fail;go_region
       have hwr : IntKind.i64.wrap ((FI : Int) + (j : Int) + 1) = (FI : Int) + ((j + 1 : Nat) : Int) := by rw [zx]; omega
       have HB4 : Hid (Bq w y1) := Ul.o.trans (t1.out.mono HD.o);clear u1' fb6 b6 p0 p1 hpl;all_goals go_wp2_with fail
       all_goals go_roundw
       case rel => exact ⟨j + 1, by omega, by first|rfl | (congr 1; omega) | go_num, by go_num, s1, (hbx.out.trans t1.out), HB4⟩
       case measure => simp [intOf]; omega
     . have e5 : j = IL := by omega
       have HST5 : Hid (StAt wr w0.heap.size (w1.heap.size + 1) w1.heap.size M (.slice (some ⟨nb, noff, none⟩) NN cN) (b8 (M.ns.take (k + 1))) (k + 1)) := (show StAt _ _ _ _ _ _ _ _ by
         have h1 := hst.out
         rw [e5, HIL.o, qj]at h1
         rw [af5 HN.o]
         exact h1)
       have hfj : (FI : Int) + (j : Int) = ((Gs.f9 M.ns (k + 1) : Nat) : Int) := by omega
       clear hst;go_wp2_with fail;go_roundw
       case rel => exact ⟨k + 1, by omega, by rw [hfj], by go_num, HST5, Ul⟩
       case measure => simp [intOf]; omega
  . have e6 : k = NN := by omega
    have Ao : Hid (o6 NoG wr D (w1.heap.size + 1) M) := (show o6 NoG _ _ _ _ by
      obtain ⟨O, d, hR, eM, eN, eMap⟩ := hst.out
      rw [e6, HL.o.1, qj]at hR
      refine ⟨O, d, ?_, eM⟩
      have h2 := hR.part .aux
      rw [← eM]at h2
      have hA : AuxF D d.vI d.vM d.M.ns wr O := bU5 h2
      exact hR.auxTo (bb4 D d.vI d.vM d.M.ns aw1) ⟨hA, trivial⟩)
    clear hst;go_wp2_with fail;go_ret;exact ⟨D, w1.heap.size + 1, rfl, Ao.o, HD.o, Aa.o⟩
variable {G:World->qW->Prop}
structure SmallM (M:SMach):Prop where
 got:∀p∈M.ps,p.got.flatten.length<=60299992
 out:∀p∈M.ps,∀b∈p.out,b.length<=90000000
 sunk:M.sunk.length<=90000000
theorem aP2(D r:Nat)(O:qW)(d:RD)(i:Int)(w:World)(h:RunM G w D r O d)(hS:Shape d.M)(Ad:∀n∈d.M.ns,G8 n)(hsm:SmallM d.M)(hE:∀W,Below D w W->q8 W):
 Calls prog 22 #[.pointer (some ⟨r,0,none⟩),.int .i64 i] w fun e w'=>e=.returned (.int .i64 (stepS d.M i).2)/\o6 G w' D r (stepS d.M i).1/\Below D w w':=by
 obtain⟨b0,b1,b2,b3,b4,b5,b6⟩:=K9 h.box.1;have hps0:0<d.M.ps.length:=by rw[hS.plen];exact hS.g.pos
 have Px:Hid (o6 G w D r d.M):=(show o6 G w D r d.M from ⟨O,d,h,rfl⟩);obtain⟨gP,cP,hvP,Db,Dw⟩:∃g c,d.vP=.slice (some ⟨g,0,none⟩) d.M.ps.length c/\d.M.ps.length<=c/\c<=9223372036854775807:=by obtain⟨g,c,s,h1,h2,h3,_⟩:=h.procAt (gEl hps0);exact⟨g,c,h1,h2,h3⟩
 rw[hvP]at b3;by_cases Dc:i<0\/(d.M.ps.length:Int)<=i
 .
  have HR:=qH (show stepS d.M i=(d.M,5) by unfold stepS;rw[qF Dc]);rw[HR.o];generalize d.M.ps.length=NP at *;clear h hS Ad hsm hE hvP b0 b1 b2 b4 b5 b6 HR;by_cases hneg:i<0
  . clear Dc;go_enter func22,ntmps22;go_wp2_with fail;go_ret;exact⟨rfl,Px.o,Below.refl _ _⟩
  . have hge:(NP:Int)<=i:=qO;clear Dc;go_enter func22,ntmps22;go_wp2_with fail;go_ret;exact⟨rfl,Px.o,Below.refl _ _⟩
 .
  obtain⟨k,rfl⟩:∃k:Nat,i=(k:Int):=qm qO;have hkl:k<d.M.ps.length:=qO;obtain⟨p,hp⟩:∃p,d.M.ps[k]?=some p:=⟨_,gEl hkl⟩;obtain⟨n,hn⟩:∃n,d.M.ns[k]?=some n:=⟨_,gEl (by rw[<- hS.plen];exact hkl)⟩;have Bo:stepS d.M (k:Int)=Y5 d.M k n p:=by unfold stepS;rw[qB Dc,qh];unfold E3;rw[hn,hp]
  rw[Bo];have hF:=hS.proc k n p hn hp;obtain⟨gP2,cP2,s,Pn,_,_,hgP,hOP,hs,p0,p1,p2,p3,p4,hfP,hGo,hOo,hgl,hol⟩:=h.procAt hp;rw[hvP]at Pn;injection Pn with e1 e2 e3;injection e1 with e1;injection e1 with e1;subst e1;have HH:Hid (RunM G w D r O d):=h;obtain⟨RES,Aj⟩:=qE (Y5 d.M k n p);rw[<- Aj];unfold Y5 at Aj
  cases hov:p.ov with
  | true=>rw[qF hov]at Aj;have HR:=qH Aj;rw[hov]at p4;generalize d.M.ps.length=NP at *;clear h hS Ad hsm hE hvP b0 b1 b2 b4 b5 b6 Aj Bo hF Dc hn hp hs p0 p1 p2 p3 hfP hGo hOo hgl hol hOP e2 e3 hov hgP;go_enter func22,ntmps22;go_wp2_with fail;go_ret;rw[HR.o];exact⟨rfl,Px.o,Below.refl _ _⟩
  | false=>
   rw[qB (by simp[hov])]at Aj;rw[hov]at p4;obtain⟨⟨ao,co,Lx,Ej,Bn⟩,_⟩:=g8 hOo;have hCF:=bv8 ao co p.out w (by have:=h.outs hp hs;rwa [Lx]at this);rw[Lx]at p2;have HCF:Hid _:=hCF;by_cases Bt:p.out.any (fun b=>!b.isEmpty)=true
   .
    rw[qF Bt]at Aj;rw[Bt]at HCF
    have HW:Hid (∀W,Bq w W->Calls prog 61 #[.pointer (some ⟨r,0,none⟩),.int .i64 k] W fun e w'=>e=.returned (.int .i64 RES.2)/\o6 G w' D r RES.1/\Below D w w'):=(show ∀W,Bq w W->Calls prog 61 #[.pointer (some ⟨r,0,none⟩),.int .i64 k] W fun e w'=>e=.returned (.int .i64 RES.2)/\o6 G w' D r RES.1/\Below D w w' from fun W hW=>by
     rw[Aj]
     refine (bI2 D r O d k n p W (RMem.below h hW) hS hn hp).mono ?_
     rintro e w'⟨h1,h2,h3⟩
     exact⟨h1,h2,(hW.mono h.le).trans h3⟩)
    generalize d.M.ps.length=NP,p.out.length=OL at *;clear h hS Ad hsm hE hvP b0 b1 b2 b4 b5 b6 Aj Bo hF Dc hn hp hs p0 p1 p3 hfP hGo hOo hgl hol hOP e2 e3 hov hgP Lx Ej Bn hCF Bt;go_enter func22,ntmps22;go_wp2_with fail;refine qD HCF.o ?_;rintro e w2⟨rfl,hb2⟩;go_wp2_with fail;refine qD (HW.o _ hb2) ?_;rintro e w3⟨rfl,hb3⟩;have HB3:Hid _:=hb3;clear hb3;go_wp2_with fail;go_ret;exact⟨rfl,HB3.o⟩
   .
    have Lj:p.out.any (fun b=>!b.isEmpty)=false:=by simpa using Bt
    rw[qB Bt]at Aj;rw[Lj]at HCF
    cases hrd:p.rd with
    | true=>
     rw[qF hrd]at Aj;rw[hrd]at p3
     have HW:Hid (∀W,Bq w W->Calls prog 62 #[.pointer (some ⟨r,0,none⟩),.int .i64 k] W fun e w'=>e=.returned (.int .i64 RES.2)/\o6 G w' D r RES.1/\Below D w w'):=(show ∀W,Bq w W->Calls prog 62 #[.pointer (some ⟨r,0,none⟩),.int .i64 k] W fun e w'=>e=.returned (.int .i64 RES.2)/\o6 G w' D r RES.1/\Below D w w' from fun W hW=>by
      rw[Aj]
      refine (cc5 D r O d k n p W (RMem.below h hW) hS hn hp).mono ?_
      rintro e w'⟨h1,h2,h3⟩
      exact⟨h1,h2,(hW.mono h.le).trans h3⟩)
     generalize d.M.ps.length=NP,p.out.length=OL at *;clear h hS Ad hsm hE hvP b0 b1 b2 b4 b5 b6 Aj Bo hF Dc hn hp hs p0 p1 hfP hGo hOo hgl hol hOP e2 e3 hov hgP Lx Ej Bn hCF Bt Lj hrd;go_enter func22,ntmps22;go_wp2_with fail;refine qD HCF.o ?_;rintro e w2⟨rfl,hb2⟩;have p3':=qC hb2 p3;go_wp2_with fail;refine qD (HW.o _ hb2) ?_;rintro e w3⟨rfl,hb3⟩;have HB3:Hid _:=hb3;clear hb3;go_wp2_with fail;go_ret;exact⟨rfl,HB3.o⟩
    | false=>
     rw[qB (by simp[hrd])]at Aj;rw[hrd]at p3;obtain⟨⟨ag,cg,hgv,Jx,Jy⟩,_⟩:=g8 hGo;rw[hgv]at p0;have hch:=hS.g.node n (mGt hn);by_cases Di:p.got.isEmpty=true
     .
      have Um:p.got=[]:=xl.1 Di;rw[qF Di]at Aj;have hgl0:p.got.length=0:=by rw[Um];rfl
      have HW:Hid (∀W,Bq w W->Calls prog 63 #[.pointer (some ⟨r,0,none⟩),.int .i64 k] W fun e w'=>e=.returned (.int .i64 RES.2)/\o6 G w' D r RES.1/\Below D w w'):=(show ∀W,Bq w W->Calls prog 63 #[.pointer (some ⟨r,0,none⟩),.int .i64 k] W fun e w'=>e=.returned (.int .i64 RES.2)/\o6 G w' D r RES.1/\Below D w w' from fun W hW=>by
       rw[Aj]
       refine (aP0 D r O d k n p W (RMem.below h hW) hS.toG hn hp (Ad n (mGt hn)) (by have:=hsm.got p (mGt hp);omega) (fun b hb=>by have:=hsm.out p (mGt hp) b hb;omega) (fun V hV=>hE V ((hW.mono h.le).trans hV)) hF.olen hF.glen).mono ?_
       rintro e w'⟨h1,h2,h3⟩
       exact⟨h1,h2,(hW.mono h.le).trans h3⟩)
      rw[hgl0]at p0;generalize d.M.ps.length=NP,p.out.length=OL at *;clear h hS Ad hsm hE hvP b0 b1 b2 b4 b5 b6 Aj Bo hF Dc hn hp hs p1 hfP hGo hOo hgl hol hOP e2 e3 hov hgP Lx Ej Bn hCF Bt Lj hrd hch Di Um hgl0 hgv Jx Jy;go_enter func22,ntmps22;go_wp2_with fail;refine qD HCF.o ?_;rintro e w2⟨rfl,hb2⟩;have p3':=qC hb2 p3;have p0':=qC hb2 p0;go_wp2_with fail;refine qD (HW.o _ hb2) ?_;rintro e w3⟨rfl,hb3⟩;have HB3:Hid _:=hb3;clear hb3;go_wp2_with fail;go_ret;exact⟨rfl,HB3.o⟩
     .
      rw[qB Di]at Aj;have hg0:n.ins.length≠0:=by intro e;rw[<- hF.glen]at e;exact Di (xl.2 (qz.1 e))
      have Nn:=hF.pos2 hrd hg0;have Fv:=hF.pos0;have hglen:=hF.glen;obtain⟨m,hm⟩:∃m:Nat,p.pos=(m:Int):=qm Fv;have hml:m<p.got.length:=qO;have hqx:Gs.f9 d.M.ns k+m<d.M.pipes.length:=by rw[hS.xlen];exact Z3 hn qO
      have HW:Hid (∀W,Bq w W->Calls prog 64 #[.pointer (some ⟨r,0,none⟩),.int .i64 k] W fun e w'=>e=.returned (.int .i64 RES.2)/\o6 G w' D r RES.1/\Below D w w'):=(show ∀W,Bq w W->Calls prog 64 #[.pointer (some ⟨r,0,none⟩),.int .i64 k] W fun e w'=>e=.returned (.int .i64 RES.2)/\o6 G w' D r RES.1/\Below D w w' from fun W hW=>by
       rw[Aj,hm,qh]
       refine (bX0 D r O d k (Gs.f9 d.M.ns k+m) m n p _ _ W (RMem.below h hW) hS hn hp hm (gEl hml) rfl (gEl hqx) (Ad n (mGt hn)) (hsm.got p (mGt hp)) (hsm.out p (mGt hp)) hsm.sunk (fun V hV=>hE V ((hW.mono h.le).trans hV))).mono ?_
       rintro e w'⟨h1,h2,h3⟩
       exact⟨h1,h2,(hW.mono h.le).trans h3⟩)
      have hGL:¬p.got.length=0:=qO;obtain⟨GL,hGLe⟩:=qE p.got.length;rw[<- hGLe]at p0 hGL;generalize d.M.ps.length=NP,p.out.length=OL at *;clear h hS Ad hsm hE hvP b0 b1 b2 b4 b5 b6 Aj Bo hF Dc hn hp hs p1 hfP hGo hOo hgl hol hOP e2 e3 hov hgP Lx Ej Bn hCF Bt Lj hrd hch Di hgv Jx Jy hg0 Nn Fv hglen hm hml hqx hGLe;go_enter func22,ntmps22;go_wp2_with fail;refine qD HCF.o ?_;rintro e w2⟨rfl,hb2⟩;have p3':=qC hb2 p3;have p0':=qC hb2 p0;go_wp2_with fail;refine qD (HW.o _ hb2) ?_;rintro e w3⟨rfl,hb3⟩;have HB3:Hid _:=hb3;clear hb3;go_wp2_with fail;go_ret;exact⟨rfl,HB3.o⟩
end Go.Proofs.YtmejdflmcikkdaaGreatDoor
namespace Go.Proofs.YtmejdflmcikkdaaGreatDoor
open Go.RowKit Go.Gs Go.Maps Tryz
variable {G:World->qW->Prop}
variable {n:SNode}{d:RD}{u v:Value}{ps:List (Int × Int)}{ns:List SNode}{bs:qU}{fs:List SFile}
theorem aw8(h:q9 n=0):nouts n<=5:=by
 unfold nouts;split
 . rcases N9 (L2 h).1 with⟨h4 | h4,_⟩|⟨h4,_,h5⟩|⟨h4,_⟩|⟨h4,_⟩ <;> omega
 . split <;> omega
theorem bq0:∀(l:qL)(c:Nat),(∀b∈l,b.length<=c)->l.flatten.length<=l.length*c
 | [],c,h=>by simp
 | a::r,c,h=>by have h1:=bq0 r c (fun b hb=>h b (by simp[hb]));have h2:=h a (by simp);rw[xC,qI,ql,Nat.succ_mul];omega
theorem aD5{M:SMach}(hS:Shape M)(hg:∀p∈M.ps,(∀b∈p.got,b.length<=100000)/\∀b∈p.out,b.length<=100000)(hs:M.sunk.length<=100000):SmallC M:=by
 have h60:=hS.g.le60;have hf:=S7 hS.fok;refine⟨qO,qO,by have:=ap1 hS;omega,by rw[hS.plen];omega,hs,fun n hn=>?_,fun f hf2=>?_,fun x hx=>?_,fun p hp=>?_⟩
 . have:=(A1 (hS.g.node n hn)).1;omega
 . have:=(U2 hf.2 f hf2).2;omega
 . have h1:=Q7 (hS.pipe x hx);have h2:=ae1 h1.2.1;have:=h1.2.2.1;omega
 . obtain⟨i,hi⟩:=qw hp;obtain⟨n,hn⟩:∃n,M.ns[i]?=some n:=⟨_,gEl (by rw[<- hS.plen];exact (gSm hi).1)⟩;have hF:=hS.proc i n p hn hi;have hch:=hS.g.node n (mGt hn);have h1:=(A1 hch).1;have h2:=aw8 hch;have h3:=hF.glen;have h4:=hF.olen;exact⟨qO,qO,(hg p hp).1,(hg p hp).2⟩
theorem aY8{M:SMach}(hS:Shape M)(hg:∀p∈M.ps,(∀b∈p.got,b.length<=48000)/\∀b∈p.out,b.length<=90000000)(hs:M.sunk.length<=90000000):SmallM M:=by refine⟨fun p hp=>?_,fun p hp=>(hg p hp).2,hs⟩;obtain⟨i,hi⟩:=qw hp;obtain⟨n,hn⟩:∃n,M.ns[i]?=some n:=⟨_,gEl (by rw[<- hS.plen];exact (gSm hi).1)⟩;have hF:=hS.proc i n p hn hi;have h1:=(A1 (hS.g.node n (mGt hn))).1;have h2:=bq0 p.got 48000 (hg p hp).1;have h3:p.got.length*48000<=5*48000:=ze _ (by have:=hF.glen;omega);omega
def E7(w:World)(v:Value)(M:SMach):Prop:=∃an af ax ap aS cn cf cx cp cs,v=machV an af ax ap aS M cn cf cx cp cs/\RMach w an af ax ap aS cn cf cx cp cs M
theorem rnil{w:World}:Reads w (.slice none 0 0) 0 []:=⟨rfl,none,0,rfl,qA _,by simp[maxLen],fun h=>absurd rfl h⟩
theorem E7.zero(w:World):E7 w (.agg #[.slice none 0 0,.slice none 0 0,.slice none 0 0,.slice none 0 0,.slice none 0 0]) I4:=
 ⟨none,none,none,none,none,0,0,0,0,0,rfl,⟨none,0,rfl,qA _,by simp[maxLen],fun h=>absurd rfl h⟩,⟨none,0,rfl,qA _,by simp[maxLen],fun h=>absurd rfl h⟩,⟨none,0,rfl,qA _,by simp[maxLen],fun h=>absurd rfl h⟩,⟨none,0,rfl,qA _,by simp[maxLen],fun h=>absurd rfl h⟩,rnil⟩
theorem RMem.mach{w:World}{D r:Nat}{O:qW}{A:World->qW->Prop}(h:RMem w D r O A d):∃an af ax ap aS cn cf cx cp cs,d.vN=.slice an d.M.ns.length cn/\d.vF=.slice af d.M.fs.length cf/\d.vX=.slice ax d.M.pipes.length cx/\d.vP=.slice ap d.M.ps.length cp/\sl d.M.sunk d.sS=.slice aS d.M.sunk.length cs/\RMach w an af ax ap aS cn cf cx cp cs d.M:=by
 obtain⟨hN,hF⟩:=RMem.nodes h;obtain⟨an,cn,eN,_,_⟩:=hN.shape;obtain⟨af,cf,eF,_,_⟩:=hF.shape;obtain⟨hX,hXo⟩:=h.part .pipes;obtain⟨hP,hPo⟩:=h.part .procs;obtain⟨⟨ax,cx,eX,hx1,hx2⟩,hxf⟩:=g8 hX;obtain⟨⟨ap,cp,eP,hp1,hp2⟩,hpf⟩:=g8 hP;refine⟨an,af,ax,ap,d.sS.1,cn,cf,cx,cp,d.sS.2,eN,eF,eX,eP,rfl,by rw[eN]at hN;exact hN,by rw[eF]at hF;exact hF,⟨ax,cx,rfl,hx1,hx2,fun hn=>?_⟩,⟨ap,cp,rfl,hp1,hp2,fun hn=>?_⟩,RMem.sunkR h⟩
 . obtain⟨g,c,e1,_⟩:=hxf hn;rw[eX]at e1;injection e1 with e1 _ _;refine⟨g,0,e1,fun j x hx=>?_⟩;obtain⟨g',c',s,hv,_,_,_,_,hs,hR,c0,c1,c2,c3,_⟩:=RMem.pipeAt h hx;rw[eX,e1]at hv;injection hv with hv _ _;injection hv with hv;injection hv with hv;subst hv;exact⟨s.1,s.2,by rw[qk];exact c0,by rw[qk];exact c1,by rw[qk];exact c2,by rw[qk];exact c3,hR.1⟩
 . obtain⟨g,c,e1,_⟩:=hpf hn;rw[eP]at e1;injection e1 with e1 _ _;refine⟨g,0,e1,fun j p hp=>?_⟩;obtain⟨g',c',s,hv,_,_,_,_,hs,c0,c1,c2,c3,c4,_,hGo,hOo,_,_⟩:=RMem.procAt h hp;rw[eP,e1]at hv;injection hv with hv _ _;injection hv with hv;injection hv with hv;subst hv;obtain⟨⟨ag,cg,eg,_,_⟩,_⟩:=g8 hGo;obtain⟨⟨ab,cb,eb,_,_⟩,_⟩:=g8 hOo;have hrg:=RMem.gots h hp hs;have hro:=RMem.outs h hp hs;rw[eg]at c0 hrg;rw[eb]at c2 hro;exact⟨ag,cg,ab,cb,by rw[qk];exact c0,by rw[qk];exact c1,by rw[qk];exact c2,by rw[qk];exact c3,by rw[qk];exact c4,hrg,hro⟩
theorem o6.mach{w:World}{D r:Nat}{M:SMach}(h:o6 G w D r M):∃an af ax ap aS cn cf cx cp cs vI vM,w.heap[r]?=some (.cells #[.slice an M.ns.length cn,.slice af M.fs.length cf,.slice ax M.pipes.length cx,.slice ap M.ps.length cp,.slice aS M.sunk.length cs,vI,vM] 71 (0,0))/\RMach w an af ax ap aS cn cf cx cp cs M:=by obtain⟨O,d,h1,rfl⟩:=h;obtain⟨an,af,ax,ap,aS,cn,cf,cx,cp,cs,e1,e2,e3,e4,e5,h2⟩:=RMem.mach h1;have h3:=h1.box.1;rw[e1,e2,e3,e4,e5]at h3;exact⟨an,af,ax,ap,aS,cn,cf,cx,cp,cs,_,_,h3,h2⟩
def Z7(w:World)(x:Nat):Prop:=∀j u,w.cell? ⟨x,j,none⟩=some u->∃a n c,u=.slice a n c
theorem I2{w w':World}{X:Nat->Prop}(hk:∀k,¬X k->w'.heap[k]?=w.heap[k]?){b j:Nat}(hb:¬X b)(h:w.cell? ⟨b,j,none⟩=some u):w'.cell? ⟨b,j,none⟩=some u:=by have:=hk b hb;simp only[World.cell?]at h ⊢;rw[this];exact h
theorem bq1{w w':World}{X:Nat->Prop}(h:D5 w v ps)(hx:∀x,X x->Z7 w x)(hk:∀k,¬X k->w'.heap[k]?=w.heap[k]?):D5 w' v ps:=by
 obtain⟨ao,cap,rfl,h2,h3,h4⟩:=h;refine⟨ao,cap,rfl,h2,h3,fun hn=>?_⟩;obtain⟨b,off,rfl,hc⟩:=h4 hn;refine⟨b,off,rfl,fun j p hp=>?_⟩;obtain⟨c1,c2⟩:=hc j p hp;have hb:¬X b:=fun e=>by
  obtain⟨a,n,c,e⟩:=hx b e _ _ c1
  cases e
 exact⟨I2 hk hb c1,I2 hk hb c2⟩
theorem ap2{w w':World}{X:Nat->Prop}(h:y8 w v ns)(hx:∀x,X x->Z7 w x)(hk:∀k,¬X k->w'.heap[k]?=w.heap[k]?):y8 w' v ns:=by
 obtain⟨ao,cap,rfl,h2,h3,h4⟩:=h;refine⟨ao,cap,rfl,h2,h3,fun hn=>?_⟩;obtain⟨b,off,rfl,hc⟩:=h4 hn;refine⟨b,off,rfl,fun j n hj=>?_⟩;obtain⟨ai,ci,⟨a0,a1,a2,a3,a4,a5,a6,a7⟩,hp⟩:=hc j n hj;have hb:¬X b:=fun e=>by
  obtain⟨a,n,c,e⟩:=hx b e _ _ a0
  cases e
 exact⟨ai,ci,⟨I2 hk hb a0,I2 hk hb a1,I2 hk hb a2,I2 hk hb a3,I2 hk hb a4,I2 hk hb a5,I2 hk hb a6,I2 hk hb a7⟩,bq1 hp hx hk⟩
theorem bq2{w w':World}{X:Nat->Prop}(h:Reads w v bs.length (bs.map U))(hx:∀x,X x->Z7 w x)(hk:∀k,¬X k->w'.heap[k]?=w.heap[k]?):Reads w' v bs.length (bs.map U):=by
 obtain⟨h1,ao,cap,rfl,h2,h3,h4⟩:=h;refine⟨h1,ao,cap,rfl,h2,h3,fun hn=>?_⟩;obtain⟨b,off,rfl,hc⟩:=h4 hn;refine⟨b,off,rfl,fun j u hu=>?_⟩;have hb:¬X b:=fun e=>by
  obtain⟨a,n,c,e⟩:=hx b e _ _ (hc j u hu);rw[qa]at hu
  cases hq:bs[j]? with
  | none=>rw[hq]at hu;cases hu
  | some y=>
   rw[hq]at hu;simp only[xG,qe]at hu;rw[<- hu]at e
   cases e
 exact I2 hk hb (hc j u hu)
theorem ap5{w w':World}{X:Nat->Prop}(h:o8 w v fs)(hx:∀x,X x->Z7 w x)(hk:∀k,¬X k->w'.heap[k]?=w.heap[k]?):o8 w' v fs:=by
 obtain⟨ao,cap,rfl,h2,h3,h4⟩:=h;refine⟨ao,cap,rfl,h2,h3,fun hn=>?_⟩;obtain⟨b,off,rfl,hc⟩:=h4 hn;refine⟨b,off,rfl,fun j f hj=>?_⟩;obtain⟨u,a0,a1,a2⟩:=hc j f hj;have hb:¬X b:=fun e=>by
  obtain⟨a,n,c,e⟩:=hx b e _ _ a0
  cases e
 exact⟨u,I2 hk hb a0,I2 hk hb a1,bq2 a2 hx hk⟩
theorem RMem.apart{w w':World}{D r:Nat}{O:qW}{A:World->qW->Prop}(h:RMem w D r O A d)(hnb:∀b,d.vM≠.bool b){X:Nat->Prop}(hX:∀x,X x->x<D/\Z7 w x)(hsz:w'.heap.size=w.heap.size)(hk:∀k,¬X k->w'.heap[k]?=w.heap[k]?):RMem w' D r O A d:=by
 obtain⟨w0,b1,b2,b3,b4⟩:=h.base;have hle:=h.le;have hx0:∀x,X x->Z7 w0 x:=fun x hx j u hu=>by refine (hX x hx).2 j u ?_;have:=b2.block x (hX x hx).1;simp only[World.cell?]at hu ⊢;rw[this];exact hu
 have hk0:∀k,¬X k->(cutH w' D).heap[k]?=w0.heap[k]?:=fun k hkx=>by
  by_cases hkD:k<D
  . rw[aj8 qO hkD,hk k hkx,b2.block k hkD]
  . rw[xR (by rw[Z5 qO];omega),xR qO]
 refine⟨fun g o hg=>by rw[hsz];exact h.lo g o hg,⟨cutH w' D,Z5 qO,aw4 qO,ap2 b3 hx0 hk0,ap5 b4 hx0 hk0⟩,h.xlen,h.plen,h.slen,h.aux,fun o=>?_⟩;exact (h.part o).keep h.aux (fun k hk2=>hk k (fun hx=>by have:=(h.lo k o hk2).1;have:=(hX k hx).1;omega)) (fun _ _ _=>rfl) (fun k o2 hk2=>(h.lo k o2 hk2).2) (fun _ _=>rfl) (fun _ hb=>absurd hb.choose_spec (hnb _))
theorem RunM.machV{w:World}{D r:Nat}{O:qW}(h:RunM G w D r O d){an af ax ap aS:Option Addr}{cn cf cx cp cs:Nat}(e1:d.vN=.slice an d.M.ns.length cn)(e2:d.vF=.slice af d.M.fs.length cf)(e3:d.vX=.slice ax d.M.pipes.length cx)(e4:d.vP=.slice ap d.M.ps.length cp)(e5:sl d.M.sunk d.sS=.slice aS d.M.sunk.length cs):RMach w an af ax ap aS cn cf cx cp cs d.M:=by obtain⟨an',af',ax',ap',aS',cn',cf',cx',cp',cs',f1,f2,f3,f4,f5,h2⟩:=RMem.mach h;rw[e1]at f1;rw[e2]at f2;rw[e3]at f3;rw[e4]at f4;rw[e5]at f5;injection f1 with f1 _ g1;injection f2 with f2 _ g2;injection f3 with f3 _ g3;injection f4 with f4 _ g4;injection f5 with f5 _ g5;subst f1 f2 f3 f4 f5 g1 g2 g3 g4 g5;exact h2
theorem o6.machX{w:World}{D r:Nat}{M:SMach}(h:o6 G w D r M):D<=r/\∃an af ax ap aS cn cf cx cp cs vI vM,w.heap[r]?=some (.cells #[.slice an M.ns.length cn,.slice af M.fs.length cf,.slice ax M.pipes.length cx,.slice ap M.ps.length cp,.slice aS M.sunk.length cs,vI,vM] 71 (0,0))/\(∀(X:Nat->Prop)(w':World),(∀x,X x->x<D/\Z7 w x)->w'.heap.size=w.heap.size->(∀k,¬X k->w'.heap[k]?=w.heap[k]?)->RMach w' an af ax ap aS cn cf cx cp cs M):=by obtain⟨O,d,h1,rfl⟩:=h;obtain⟨an,af,ax,ap,aS,cn,cf,cx,cp,cs,e1,e2,e3,e4,e5,h2⟩:=RMem.mach h1;have h3:=h1.box.1;rw[e1,e2,e3,e4,e5]at h3;exact⟨(h1.lo _ _ h1.box.2).1,an,af,ax,ap,aS,cn,cf,cx,cp,cs,_,_,h3,fun X w' hX hsz hk=>RunM.machV (RMem.apart h1 (fun b e=>by obtain⟨_,e2⟩:=RunM.isMap h1;rw[e2]at e;cases e) hX hsz hk) e1 e2 e3 e4 e5⟩
def aA3(B:Nat)(w:World)(an af ax ap aS:Option Addr)(cn cf cx cp cs:Nat)(M:SMach):Prop:=∀(X:Nat->Prop)(w':World),(∀x,X x->x<B/\Z7 w x)->w'.heap.size=w.heap.size->(∀k,¬X k->w'.heap[k]?=w.heap[k]?)->RMach w' an af ax ap aS cn cf cx cp cs M
def S9(B:Nat)(w:World)(v:Value)(M:SMach):Prop:=∃an af ax ap aS cn cf cx cp cs,v=machV an af ax ap aS M cn cf cx cp cs/\aA3 B w an af ax ap aS cn cf cx cp cs M
theorem aA3.self{B:Nat}{w:World}{an af ax ap aS:Option Addr}{cn cf cx cp cs:Nat}{M:SMach}(h:aA3 B w an af ax ap aS cn cf cx cp cs M):RMach w an af ax ap aS cn cf cx cp cs M:=h (fun _=>False) w (fun _ hx=>hx.elim) rfl (fun _ _=>rfl)
theorem S9.ans{B:Nat}{w:World}{M:SMach}(h:S9 B w v M):E7 w v M:=by obtain⟨an,af,ax,ap,aS,cn,cf,cx,cp,cs,e,h1⟩:=h;exact⟨an,af,ax,ap,aS,cn,cf,cx,cp,cs,e,h1.self⟩
theorem S9.zero(B:Nat)(w:World):S9 B w (.agg #[.slice none 0 0,.slice none 0 0,.slice none 0 0,.slice none 0 0,.slice none 0 0]) I4:=by refine⟨none,none,none,none,none,0,0,0,0,0,rfl,fun X w' _ _ _=>?_⟩;obtain⟨an,af,ax,ap,aS,cn,cf,cx,cp,cs,e,h1⟩:=E7.zero w';unfold machV at e;simp at e;obtain⟨⟨rfl,_,rfl⟩,⟨rfl,_,rfl⟩,⟨rfl,_,rfl⟩,⟨rfl,_,rfl⟩,rfl,_,rfl⟩:=e;exact h1
theorem aw9{w3 wf:World}{B D bm:Nat}{M:SMach}{an af ax ap aS:Option Addr}{cn cf cx cp cs:Nat}(hRM:aA3 D w3 an af ax ap aS cn cf cx cp cs M)(hbm:bm<D)(hon:Z7 w3 bm)(hB:B<=bm)(hs:wf.heap.size=w3.heap.size)(hk:∀k,k≠bm->wf.heap[k]?=w3.heap[k]?):aA3 B wf an af ax ap aS cn cf cx cp cs M:=by
 intro X w' hX hsz hk2;refine hRM (fun k=>X k\/k=bm) w' (fun x hx=>?_) (hsz.trans hs) (fun k hkx=>(hk2 k (fun h=>hkx (.inl h))).trans (hk k (fun h=>hkx (.inr h))));rcases hx with hx | hx
 . obtain⟨h1,h2⟩:=hX x hx;refine⟨qO,fun j u hu=>h2 j u ?_⟩;have:=hk x qO;simp only[World.cell?]at hu ⊢;rw[this];exact hu
 . rw[hx];exact⟨hbm,hon⟩
theorem bg3{w:World}{bm:Nat}{a b c d e:Value}(h:BX w bm a b c d e):Z7 w (bm+1):=by intro j u hu;rw[qY _ _ _ _ _ _ h.2]at hu;have:j=0\/j=1\/j=2\/j=3\/j=4\/5<=j:=qO;rcases this with rfl | rfl | rfl | rfl | rfl | hj;all_goals first|(simp at hu;exact⟨_,_,_,hu.symm⟩)|(rw[xR (by simpa using hj)]at hu;cases hu)
theorem ak3(an af ax ap aS:Option Addr)(cn cf cx cp cs:Nat)(M:SMach)(w:World)(hM:RMach w an af ax ap aS cn cf cx cp cs M)(Ad:FitsM M):
 Calls prog 10 #[machV an af ax ap aS M cn cf cx cp cs] w fun e w'=>e=.returned (.int .i64 (mchk M))/\Bq w w':=
 bK1 an af ax ap aS cn cf cx cp cs M w hM Ad (fun W hW=>aY3 M.ns an cn W (hM.nodes.below hW) Ad.nodes) (fun W hW=>aD4 af cf M.fs W (hM.files.below hW) Ad.files)
end Go.Proofs.YtmejdflmcikkdaaGreatDoor
