/- What the developers' read does, and more. -/
import Derived.Test.YtllgglolcgdehaaGreatDoorSAb
import Derived.Test.YtllgglolcgdehaaGreatDoorSa36
set_option linter.all false
set_option maxRecDepth 100000
set_option maxHeartbeats 16000000
namespace Go.Proofs.YtllgglolcgdehaaGreatDoor
open Go.RowKit Go.Gs Go.Maps Tryz
variable {G:World->(Nat->Option Own)->Prop}
theorem bG5(M:SMach)(i:Nat)(n:SNode)(q:Nat)(p p':SProc):I7 (M.setP i p') i n q p=I7 M i n q p:=by unfold I7 SMach.setP SMach.setX SMach.pipe;simp only[ze]
theorem bv3{x:SPipe}(h:pchk x=0):pread x 8=(⟨x.b.drop 8,x.room,x.closed,x.shut⟩,x.b.take 8,0):=by
 unfold pread;rw[qA (by simp[h]),qA (by omega)];by_cases h8:8<=x.b.length
 . rw[ql (by simpa using h8)];rfl
 . rw[Nat.min_eq_right (by simp;omega),qt (by omega),qt (by omega),qO (by omega),qO (by omega)]
theorem aB1:∀{l:List (List UInt8)}{m:Nat}{g b:List UInt8},l[m]? = some g->(l.set m (g++b)).flatten.length=l.flatten.length+b.length
 | [],m,g,b,h=>by simp at h
 | a::r,0,g,b,h=>by
  simp at h
  subst h
  simp
  omega
 | a::r,m+1,g,b,h=>by
  have:=aB1 (l:=r) (b:=b) (by simpa using h)
  simp only[List.set_cons_succ,qe,qG]
  omega
theorem aS0{M:SMach}(hS:Shape M):M.pipes.length<=300:=by
 rw[hS.xlen];have:∀(l:List SNode),(∀m∈l,m.ins.length<=5)->(j3 l).length<=5*l.length:=by
  intro l
  induction l with
  | nil=>intro _;simp[j3]
  | cons m l ih=>
   intro hm
   have h1:=ih (fun m' hm'=>hm m' (by simp[hm']))
   have h2:=hm m (by simp)
   simp only[j3,qs,qe,qG,qY]at *
   omega
 have h1:=this M.ns (fun m hm=>(A2 (hS.g.node m hm)).1);have:=hS.g.le60;omega
theorem ch1(D r:Nat)(O:Nat->Option Own)(d:RD)(i q m:Nat)(n:SNode)(p:SProc)(x:SPipe)(g:List UInt8)(w:World)(h:RunM G w D r O d)(hS:Shape d.M)(hn:d.M.ns[i]? = some n)(hp:d.M.ps[i]? = some p)(hm:p.pos=(m:Int))(hgm:p.got[m]? = some g)(hq:q=b7 d.M.ns i+m)(hx:d.M.pipes[q]? = some x)(Ad:S0 n)(hT:p.got.flatten.length<=241192)(hsm:∀b∈p.out,b.length<=90000000)(hsk:d.M.sunk.length<=90000000)(hE:∀W,Below D w W->D6 W):
 Calls prog 121 #[.pointer (some ⟨r,0,none⟩),.int .i64 i] w fun e w'=>e=.returned (.int .i64 (aG7 d.M i n q p).2)/\l9 G w' D r (aG7 d.M i n q p).1/\Below D w w':=by
 have hF:=hS.proc i n p hn hp;have hml:m<p.got.length:=(gSm hgm).1;have hat:p.at=g:=by unfold SProc.at;rw[hm,qq,hgm];rfl
 obtain⟨gP,cP,s,hvP,Dn,En,hgP,hOP,hs,p0,p1,p2,p3,p4,hfP,hGo,hOo,hgl,hol⟩:=h.procAt hp;obtain⟨gG,cG,a,hgv,Je,Vo,hgG,hOG,ha,hSa,g0,hfG⟩:=RMem.gotAt h hp hs hgm;obtain⟨gX,cX,hvX,Ha,Ff,hOX⟩:=h.formX (Shape.pipes0 hS);obtain⟨t,ht,hRt,x0,x1,x2,x3,hfX,_,hgX⟩:=RMem.atX h hvX hx;obtain⟨gI,cI,hvI,hcI1,hcI2,i0⟩:=h.firstAt hn;have hil:i<d.M.ps.length:=(gSm hp).1;have hin:i<d.M.ns.length:=(gSm hn).1;have hql:q<d.M.pipes.length:=(gSm hx).1;obtain⟨b0,b1,b2,b3,b4,b5,b6⟩:=K6 h.box.1;rw[hvP]at b3;rw[hvX]at b2;rw[hvI]at b5;rw[hgv]at p0;rw[hm]at p1;have hck:pchk x=0:=hS.pipe x (mGt hx);have h300:d.M.pipes.length<=300:=aS0 hS;have hm5:m<=5:=by have:=(A2 (hS.g.node n (mGt hn))).1;have:=hF.glen;omega
 have hqi:IntKind.i64.wrap ((b7 d.M.ns i:Int)+(m:Int))=(q:Int):=by rw[zZ,hq];omega
 have Jm:d.M.pipe q=x:=aQ6 hx;obtain⟨RES,Ai⟩:=qE (aG7 d.M i n q p);rw[<- Ai];have HH:=qH h;have HS:=qH hS;have HN:=qH hn;have HP:=qH hp;have HSl:=qH hs;have HX:=qH hx;have HGM:=qH hgm;have HA:=qH ha;have HGV:=qH hgv;have HVP:=qH hvP;have HVX:=qH hvX;have HM:=qH hm;have HF:=qH hF;have HQ:=qH hq;have HCK:=qH hck;have HRT:=qH hRt;have Hh:=qH Ad;have HSM:=qH hsm;have HSK:=qH hsk;have HE:=qH hE;have HT:=qH hT;have HAT:=qH hat;have HTX:=qH ht;have Dc:=qH (show RES=if x.closed && x.b.isEmpty then (if p.pos+1=p.got.length then (d.M.setP i (C3 n d.M.fs ⟨p.got,p.pos+1,p.out,p.rd,p.ov⟩),0) else (d.M.setP i ⟨p.got,p.pos+1,p.out,p.rd,p.ov⟩,0)) else if x.b.isEmpty then (d.M,8) else (I7 (d.M.setX q ⟨x.b.drop 8,x.room,x.closed,x.shut⟩) i n q (p.setGot (g++x.b.take 8)),0) by rw[Ai];unfold aG7;rw[Jm,hat])
 have HPO:Hid _:=fun W=>cd3 t.1 x.b.length t.2 x.room x.closed x.shut W;obtain⟨NP,hNP⟩:=qE d.M.ps.length;obtain⟨NN,hNN⟩:=qE d.M.ns.length;obtain⟨NX,hNX⟩:=qE d.M.pipes.length;obtain⟨GL,hGL⟩:=qE p.got.length;have HGL:=qH hGL;rw[<- hNP]at b3 hil Dn;rw[<- hNN]at b5 hcI1 hin;rw[<- hNX]at b2 Ha hql h300;rw[<- hGL]at p0 Je hml;obtain⟨FI,hFI⟩:=qE (b7 d.M.ns i);rw[<- hFI]at i0 hqi hq;unfold sl at x0;obtain⟨ta,tc⟩:=t;simp only at x0 HPO;obtain⟨XL,hXL⟩:=qE x.b.length;have HXL:=qH hXL;obtain⟨xr,hxr⟩:=qE x.room;obtain⟨xc,hxc⟩:=qE x.closed;obtain⟨xs,hxs⟩:=qE x.shut;have HXV:Hid (xr=x.room/\xc=x.closed/\xs=x.shut):=⟨hxr,hxc,hxs⟩;rw[<- hXL]at x0 HPO;rw[<- hxr]at x1 HPO;rw[<- hxc]at x2 HPO;rw[<- hxs]at x3 HPO;have hf300:FI<=300:=by omega
 clear h hS hn hp hs hx hgm ha hSa hgv hvP hvX hvI hOG hOP hOX hat hm hck hRt ht Ad hsm hsk hE hT hF hNP hNN hNX hGL hXL hxr hxc hxs Jm Ai hGo hOo hgl hol hfP hfG hfX b0 b1 b4 b6 p2 p3 p4 hgX hgG hgP hFI hq g0;go_enter Tryz.func121,Tryz.ntmps121;go_wp2_with fail;go_quiet (fail);go_wp2_with fail;refine qD (HPO.out _) ?_;rintro e w2⟨rfl,hb2⟩;have Fg:Bq w w2:=(ag7 (n:=nq)).trans hb2;have hR2:=RMem.below HH.out Fg;have HR2:=qH hR2;have HB2:=qH Fg;have x0':=qC Fg x0;have x1':=qC Fg x1;have x2':=qC Fg x2;have x3':=qC Fg x3;obtain⟨gP2,cP2,s2,Ny,_,_,_,hOP2,hs2,q0,q1,_,_,_,Vu,_⟩:=RMem.procAt hR2 HP.out;rw[HVP.out]at Ny;injection Ny with e1 e2 e3;injection e1 with e1;injection e1 with e1;subst e1;rw[HSl.out]at hs2;injection hs2 with hs2;subst hs2;rw[HGV.out]at q0;rw[HM.out]at q1;have HOP2:=qH hOP2;rw[<- HGL.out]at q0
 clear hb2 Fg hR2 e2 e3 hOP2 HPO b2 b3 b5 p0 p1 x0 x1 x2 x3 i0 hqi;by_cases hov:(xc && decide (XL=0))=true
 .
  have hxcT:xc=true:=by simp at hov;exact hov.1
  have hXL0:XL=0:=by simp at hov;exact hov.2
  have HR9:=qH (show RES=if p.pos+1=p.got.length then (d.M.setP i (C3 n d.M.fs ⟨p.got,p.pos+1,p.out,p.rd,p.ov⟩),0) else (d.M.setP i ⟨p.got,p.pos+1,p.out,p.rd,p.ov⟩,0) by
   rw[Dc.out,qF]
   rw[<- HXV.out.2.1,hxcT]
   have:x.b=[]:=qn.1 (by rw[<- HXL.out];exact hXL0)
   rw[this]
   rfl)
  have hm1:IntKind.i64.wrap ((m:Int)+1)=(m:Int)+1:=by rw[zZ];omega
  have Be:=RMem.setNum HR2.out (p':=⟨p.got,p.pos+1,p.out,p.rd,p.ov⟩) (u:=.int .i64 ((m:Int)+1)) (k:=1) HP.out HSl.out HVP.out HOP2.out (by omega) (by unfold H3;simp only[List.set_cons_succ,List.set_cons_zero];rw[HM.out]) rfl rfl;have hBD:Below D w (w2.setCell ⟨gP,i*5+1,none⟩ (.int .i64 ((m:Int)+1))):=(HB2.out.mono HH.out.le).setCell (HR2.out.lo _ _ HOP2.out).1 _;have HSET:Hid _:=Be;have HBD:Hid _:=hBD;have hf1:=Vu (i*5+1);have Rk:p.pos+1=p.got.length->∀N,Calls prog 120 #[.pointer (some ⟨r,0,none⟩),.int .i64 i] ((w2.setCell ⟨gP,i*5+1,none⟩ (.int .i64 ((m:Int)+1))).drewN N) fun e w'=>e=.returned (.int .i64 0)/\l9 G w' D r (d.M.setP i (C3 n d.M.fs ⟨p.got,p.pos+1,p.out,p.rd,p.ov⟩))/\Below D w w':=by
   intro _ N;have hsg:=HS.out.toG;have hBN:Below D w ((w2.setCell ⟨gP,i*5+1,none⟩ (.int .i64 ((m:Int)+1))).drewN N):=hBD.trans ag7;have:=aR9 D r O (d.setProc i ⟨p.got,p.pos+1,p.out,p.rd,p.ov⟩ s) i n ⟨p.got,p.pos+1,p.out,p.rd,p.ov⟩ _ (RMem.below Be (ag7 (n:=N))) ⟨hsg.gok,hsg.fok,by simpa[RD.setProc,SMach.setP]using hsg.plen⟩ HN.out (x9 HP.out) Hh.out (by have:=HT.out;show p.got.flatten.length<=_;omega) (fun b hb=>by have:=HSM.out b hb;omega) (fun W hW=>HE.out W (hBN.trans hW)) HF.out.olen HF.out.glen;have e1:(d.setProc i ⟨p.got,p.pos+1,p.out,p.rd,p.ov⟩ s).M.setP i (C3 n d.M.fs ⟨p.got,p.pos+1,p.out,p.rd,p.ov⟩)=d.M.setP i (C3 n d.M.fs ⟨p.got,p.pos+1,p.out,p.rd,p.ov⟩):=by unfold RD.setProc SMach.setP;simp only[ze]
   have e2:(d.setProc i ⟨p.got,p.pos+1,p.out,p.rd,p.ov⟩ s).M.fs=d.M.fs:=rfl;rw[e2,e1]at this;refine this.mono ?_;rintro e w'⟨h1,h2,h3⟩;exact⟨h1,h2,hBN.trans h3⟩
  have Gk:Hid _:=Rk;rw[hov];clear Rk Be hBD Vu Dc x0' x1' x2' x3' hov;go_wp2_with fail;go_quiet (fail);by_cases hl:m+1=GL
  . have hlI:p.pos+1=(p.got.length:Int):=by rw[HM.out,<- HGL.out];omega
    have Fj:=qH (show RES=(d.M.setP i (C3 n d.M.fs ⟨p.got,p.pos+1,p.out,p.rd,p.ov⟩),0) by rw[HR9.out,qF hlI]);have hlI':((m:Int)+1)=(GL:Int):=by omega
    have HF2:Hid _:=Gk.out hlI;rw[hlI']at HF2;clear Gk HR9 hlI;go_wp2_with fail;refine qD (HF2.out _) ?_;rintro e w5⟨rfl,hb5⟩;have Ao:Hid _:=hb5;clear hb5 HF2;go_wp2_with fail;go_ret;rw[Fj.out];exact⟨rfl,Ao.out⟩
  . have hlI:¬p.pos+1=(p.got.length:Int):=by rw[HM.out,<- HGL.out];omega
    have Fj:=qH (show RES=(d.M.setP i ⟨p.got,p.pos+1,p.out,p.rd,p.ov⟩,0) by rw[HR9.out,qA hlI]);have hlI':¬((m:Int)+1)=(GL:Int):=by omega
    have Ao:=qH (show ∀N,l9 G ((w2.setCell ⟨gP,i*5+1,none⟩ (.int .i64 ((m:Int)+1))).drewN N) D r (d.M.setP i ⟨p.got,p.pos+1,p.out,p.rd,p.ov⟩)/\Below D w ((w2.setCell ⟨gP,i*5+1,none⟩ (.int .i64 ((m:Int)+1))).drewN N) from fun N=>⟨⟨O,d.setProc i ⟨p.got,p.pos+1,p.out,p.rd,p.ov⟩ s,RMem.below HSET.out ag7,rfl⟩,HBD.out.trans ag7⟩);clear Gk HR9 hlI;go_wp2_with fail;go_ret;rw[Fj.out];exact⟨rfl,Ao.out _⟩
 .
  have hovF:(xc && decide (XL=0))=false:=by simpa using hov
  have HR9:=qH (show RES=if x.b.isEmpty then (d.M,8) else (I7 (d.M.setX q ⟨x.b.drop 8,x.room,x.closed,x.shut⟩) i n q (p.setGot (g++x.b.take 8)),0) by
   rw[Dc.out,qA]
   rw[<- HXV.out.2.1]
   intro h
   rw[zA,xC]at h
   apply hov
   rw[h.1,HXL.out,h.2]
   rfl)
  have Vv:ROf w2 O (.pipe q) (ta,tc) x.b:=HR2.out.part (.pipe q) x (ta,tc) HX.out HTX.out;have hRD:=cm4 ta tc x 8 w2 Vv.1 Vv.2.1;rw[bv3 HCK.out]at hRD;unfold W9 at hRD;rw[<- HXL.out,<- HXV.out.1,<- HXV.out.2.1,<- HXV.out.2.2]at hRD;have HRD:Hid _:=hRD;rw[hovF];clear hRD Vv Vu Dc hov hovF q0 q1;go_wp2_with fail;refine qD HRD.out ?_;rintro e w3⟨ar,cr,ab,cb,rfl,hPr,hPb,hb3⟩;unfold W9;simp only at hPr hPb ⊢;have HB3:=qH hb3;have HPR:=qH hPr;have HPBb:=qH hPb;obtain⟨DL,hDL⟩:=qE ((x.b.drop 8).length);obtain⟨TL,hTL⟩:=qE ((x.b.take 8).length);have HDL:=qH hDL;have HTL:=qH hTL;rw[<- hDL,<- hTL];clear hDL hTL hPr hPb hb3 HRD;by_cases he:x.b=[]
  .
   have hT0:TL=0:=by rw[HTL.out,he];rfl
   have Fj:=qH (show RES=(d.M,8) by rw[HR9.out,he];rfl)
   have Ao:=qH (show ∀o,l9 G (w3.alloc o) D r d.M/\Below D w (w3.alloc o) from fun o=>by
    have hR3:=RMem.below HR2.out HB3.out
    exact⟨⟨O,d,RMem.below hR3 boxE,rfl⟩,((HB2.out.mono HH.out.le).trans (HB3.out.mono HR2.out.le)).trans (boxE.mono hR3.le)⟩)
   subst hT0;clear HR9 he;go_wp2_with fail;go_ret;rw[Fj.out];exact⟨rfl,Ao.out _⟩
  .
   have hT0:¬TL=0:=by rw[HTL.out];intro h0;rw[qL]at h0;have:=zK.2 he;omega
   have hT0':¬(TL:Int)=0:=by omega
   have hTL8:TL<=8:=by rw[HTL.out,qL];omega
   have Fj:=qH (show RES=(I7 (d.M.setX q ⟨x.b.drop 8,x.room,x.closed,x.shut⟩) i n q (p.setGot (g++x.b.take 8)),0) by
    rw[HR9.out,qA]
    rw[xC]
    exact he)
   have hR3:=RMem.fresh HR2.out HB3.out (.pipe q);have Na:=ba8 (O:=O) (o:=.pipe q) HPR.out;obtain⟨W4,hW4⟩:=qE (w3.alloc (.cells #[.slice ar DL cr,.int .i64 xr,.bool xc,.bool xs] 66));have Bf:W4.heap[w3.heap.size]? = some (.cells #[.slice ar DL cr,.int .i64 xr,.bool xc,.bool xs] 66 (0,0)):=by rw[hW4];exact qN _ _
   have Hg:Bq w3 W4:=by rw[hW4];exact boxE
   have hR4:=RMem.below hR3 Hg;have hBD:Below D w W4:=(HB2.out.mono HH.out.le).trans ((HB3.out.mono HR2.out.le).trans (Hg.mono hR3.le));have Hz:ROf W4 (addO O w2 w3 (.pipe q)) (.pipe q) (ar,cr) (x.b.drop 8):=Na.keep (fun k' hk'=>Hg.block k' (hR3.lo k' _ hk').2) (fun _ _ _=>rfl);obtain⟨t4,ht4,_,y0,y1,y2,y3,gfX,gOX,gX4⟩:=RMem.atX hR4 HVX.out HX.out;obtain⟨m0,m1,m2,m3⟩:=E5 Bf;have k1:=RMem.setPipe hR4 (x':=⟨x.b.drop 8,x.room,x.closed,x.shut⟩) (s':=(ar,cr)) HX.out HVX.out gOX Hz;obtain⟨W5,hW5⟩:=qE (((((W4.setCell ⟨gX,q*4,none⟩ (sl (x.b.drop 8) (ar,cr))).setCell ⟨gX,q*4+1,none⟩ (.int .i64 x.room)).setCell ⟨gX,q*4+2,none⟩ (.bool x.closed)).setCell ⟨gX,q*4+3,none⟩ (.bool x.shut)));rw[<- hW5]at k1;have hDX:D<=gX:=(hR4.lo _ _ gOX).1;have hgX2:gX<w2.heap.size:=by have:=(RMem.atX HR2.out HVX.out HX.out);obtain⟨_,_,_,_,_,_,_,_,_,h9⟩:=this;exact h9
   have hBD5:Below D w W5:=by rw[hW5];exact (((hBD.setCell hDX _).setCell hDX _).setCell hDX _).setCell hDX _
   have hrb5:Reads W5 (.slice ab TL cb) TL ((x.b.take 8).map U):=by
    have h1:=HPBb.out.1;rw[<- HTL.out]at h1;refine aa1 (h1.below Hg) (fun a ha=>?_);have hne:a.block≠gX:=by have:=HPBb.out.2.1 a ha;omega
    rw[hW5,qJ _ _ _ _ hne,qJ _ _ _ _ hne,qJ _ _ _ _ hne,qJ _ _ _ _ hne]
   have Nz:=RMem.below k1 ((qI _ W5).drew);have hP5:(d.setPipe q ⟨x.b.drop 8,x.room,x.closed,x.shut⟩ (ar,cr)).M.ps[i]? = some p:=HP.out;have hS5:(d.setPipe q ⟨x.b.drop 8,x.room,x.closed,x.shut⟩ (ar,cr)).P[i]? = some s:=HSl.out;obtain⟨gP5,cP5,s5,hvP5,_,_,hgP5,hOP5,hs5,r0,r1,_⟩:=RMem.procAt Nz hP5;rw[show (d.setPipe q ⟨x.b.drop 8,x.room,x.closed,x.shut⟩ (ar,cr)).vP=d.vP from rfl,HVP.out]at hvP5;injection hvP5 with e1 e2 e3;injection e1 with e1;injection e1 with e1;subst e1;rw[hS5]at hs5;injection hs5 with hs5;subst hs5;rw[HGV.out]at r0;rw[HM.out]at r1;obtain⟨gG5,cG5,a5,hgv5,_,_,Vw,Vx,ha5,hSa5,u0,hfG5⟩:=RMem.gotAt Nz hP5 hS5 HGM.out;rw[HGV.out]at hgv5;injection hgv5 with e4 e5 e6;injection e4 with e4;injection e4 with e4;subst e4
   have Rl:Reads W5.drew (.slice ab (x.b.take 8).length cb) (x.b.take 8).length ((x.b.take 8).map U):=by have:=hrb5.below ((qI _ W5).drew);rw[HTL.out]at this;exact this
   obtain⟨s7,w7,O7,Aj,hR7,Nw,Hj,Fh⟩:=RMem.appendGot Nz hP5 hS5 HGM.out ha5 Rl (by have h2:=J4 (mGt HGM.out);have:=HT.out;have:=HTL.out;omega) 28;have Vy:O7 gG=some (.gots i):=(Fh gG Vw).trans Vx;have Do:=RMem.setGot hR7 hP5 hS5 HGM.out HGV.out Vy Nw;have Gl:=Hj.block gP hgP5 (by rw[hOP5];exact fun e=>by cases e);have Oa:=Hj.block gG Vw (by rw[Vx];exact fun e=>by cases e);have r0':w7.cell? ⟨gP,i*5,none⟩=some (.slice (some ⟨gG,0,none⟩) p.got.length cG):=by simp only[World.cell?]at r0 ⊢;rw[Gl];exact r0
   have r1':w7.cell? ⟨gP,i*5+1,none⟩=some (.int .i64 m):=by simp only[World.cell?]at r1 ⊢;rw[Gl];exact r1
   have hfG':w7.frozen? ⟨gG,m,none⟩=false:=by have h2:=hfG5 m;simp only[World.frozen?]at h2 ⊢;rw[Oa];exact h2
   have u0':w7.cell? ⟨gG,m,none⟩=some (sl g a5):=by simp only[World.cell?]at u0 ⊢;rw[Oa];exact u0
   have r0d:W5.cell? ⟨gP,i*5,none⟩=some (.slice (some ⟨gG,0,none⟩) p.got.length cG):=r0;have r1d:W5.cell? ⟨gP,i*5+1,none⟩=some (.int .i64 m):=r1;have u0d:W5.cell? ⟨gG,m,none⟩=some (sl g a5):=u0;obtain⟨W8,hW8⟩:=qE (w7.setCell ⟨gG,m,none⟩ (sl (g++x.b.take 8) s7));rw[<- hW8]at Do;have Kq:Below D w W8:=by rw[hW8];exact (hBD5.trans (((qI D W5).drew).trans (Hj.below Nz))).setCell (hR7.lo _ _ Vy).1 _
   have Rm:Calls prog 170 #[.pointer (some ⟨r,0,none⟩),.int .i64 i] W8 fun e w'=>e=.returned (.int .i64 0)/\l9 G w' D r RES.1/\Below D w w':=by
    have hgne:g++x.b.take 8≠[]:=by intro h0;have:=congrArg List.length h0;rw[qG,<- HTL.out]at this;simp at this;omega
    have hxg:=Q0 HCK.out;have hck8:pchk ⟨x.b.drop 8,x.room,x.closed,x.shut⟩=0:=by
     refine I6 hxg.1 hxg.2.1 ?_ (fun e=>?_)
     . show ((x.b.drop 8).length:Int)<=plim x.room;have:=hxg.2.2.1;rw[qo];omega
     . show (x.b.drop 8).length=0;have:=hxg.2.2.2 e;rw[qo];omega
    have hS8:Shape ((d.setPipe q ⟨x.b.drop 8,x.room,x.closed,x.shut⟩ (ar,cr)).setProc i (SProc.gotSet p m (g++x.b.take 8)) (s.gotSet m s7)).M:=by
     refine HS.out.change HN.out (SProc.gotSet p m (g++x.b.take 8)) (d.M.pipes.set q ⟨x.b.drop 8,x.room,x.closed,x.shut⟩) d.M.sunk ?_ (by simp) (fun y hy=>?_)
     . exact⟨by unfold SProc.gotSet;simpa using HF.out.glen,HF.out.olen,HF.out.pos0,HF.out.pos1,HF.out.ovrd,HF.out.pos2⟩
     . rcases aK4 hy with rfl | hy
       . exact hck8
       . exact HS.out.pipe y hy
    have:=ch0 D r O7 ((d.setPipe q ⟨x.b.drop 8,x.room,x.closed,x.shut⟩ (ar,cr)).setProc i (SProc.gotSet p m (g++x.b.take 8)) (s.gotSet m s7)) i q m n (SProc.gotSet p m (g++x.b.take 8)) ⟨x.b.drop 8,x.room,x.closed,x.shut⟩ (g++x.b.take 8) W8 Do hS8 HN.out (x9 HP.out) HM.out (x9 HGM.out) hgne HQ.out (x9 HX.out) Hh.out (by
     have:=aB1 (b:=x.b.take 8) HGM.out
     have h2:=HT.out
     have h3:=HTL.out
     show (p.got.set m (g++x.b.take 8)).flatten.length<=_
     omega) HSM.out HSK.out (fun W hW=>HE.out W (Kq.trans hW))
    refine this.mono ?_;rintro e w'⟨h1,h2,h3⟩;refine⟨h1,?_,Kq.trans h3⟩;rw[Fj.out];have e1:I7 ((d.setPipe q ⟨x.b.drop 8,x.room,x.closed,x.shut⟩ (ar,cr)).setProc i (SProc.gotSet p m (g++x.b.take 8)) (s.gotSet m s7)).M i n q (SProc.gotSet p m (g++x.b.take 8))=I7 (d.M.setX q ⟨x.b.drop 8,x.room,x.closed,x.shut⟩) i n q (p.setGot (g++x.b.take 8)):=by
     have e2:p.setGot (g++x.b.take 8)=SProc.gotSet p m (g++x.b.take 8):=by unfold SProc.setGot SProc.gotSet;rw[HM.out,qq]
     rw[e2];exact bG5 (d.M.setX q ⟨x.b.drop 8,x.room,x.closed,x.shut⟩) i n q _ _
    rw[e1]at h2;exact h2
   have HCAME:Hid _:=Rm;have HRZ:=qH (show RES.2=0 by rw[Fj.out]);have Ar:Hid _:=Aj;have fX0:=gfX (q*4);have fX1:=gfX (q*4+1);have fX2:=gfX (q*4+2);have fX3:=gfX (q*4+3);rw[<- HGL.out]at r0d r0';obtain⟨a5a,a5c⟩:=a5;obtain⟨s7a,s7c⟩:=s7;have hgbl:=F6 hSa5.reads;unfold sl at y0 u0d u0' Ar hW8;simp only at y0 u0d u0' Ar hW8 hgbl;rw[<- HTL.out]at Ar;generalize ht4l:t4.1=ta4 at *;generalize ht4c:t4.2=tc4 at *;generalize g.length=BL at *;generalize (g++x.b.take 8).length=NL at *;rw[<- HXL.out]at y0;rw[<- HXV.out.1]at y1;rw[<- HXV.out.2.1]at y2;rw[<- HXV.out.2.2]at y3;unfold sl at hW5;simp only at hW5;rw[<- HDL.out,<- HXV.out.1,<- HXV.out.2.1,<- HXV.out.2.2]at hW5;have HW5:Hid _:=hW5;have HW8:Hid _:=hW8
   clear Rm Do Kq hW5 hW8 hR7 Nw Hj Fh Aj Vy Nz k1 hBD5 hBD hrb5 Rl hR3 Na Hz hR4 Hg Bf ht4 gfX gOX gX4 hDX hgX2 r0 r1 u0 hSa5 ha5 hfG5 Vx Vw hOP5 hgP5 hP5 hS5 Gl Oa e2 e3 e5 e6 Fj HR9 he x0' x1' x2' x3' ht4l ht4c;go_upto_region 13 with fail;rw[<- hW4];clear hW4;go_upto_region 14 with fail;rw[<- HW5.out];clear HW5 y0 y1 y2 y3 fX0 fX1 fX2 fX3 m0 m1 m2 m3;go_region_law (refine ad4 rfl (.tmp 93) (.tmp 94) 28 rfl (.slice a5a BL a5c) (.slice ab TL cb) (by simp[Act.eval]) (by simp[Act.eval]) Ar.out ?_)
   all_goals
    try rw[<- HW8.out]
    go_wp2_with fail;refine qD HCAME.out ?_;rintro e w9⟨rfl,hb9⟩;have Ao:Hid _:=hb9;clear hb9;go_wp2_with fail;go_ret;rw[HRZ.out];exact⟨rfl,Ao.out⟩
end Go.Proofs.YtllgglolcgdehaaGreatDoor
namespace Go.Proofs.YtllgglolcgdehaaGreatDoor
open Go.RowKit Go.Gs Go.Maps Tryz
variable {G:World->(Nat->Option Own)->Prop}
structure SmallM (M:SMach):Prop where
 got:∀p∈M.ps,p.got.flatten.length<=241192
 out:∀p∈M.ps,∀b∈p.out,b.length<=90000000
 sunk:M.sunk.length<=90000000
theorem bv4(D r:Nat)(O:Nat->Option Own)(d:RD)(i:Int)(w:World)(h:RunM G w D r O d)(hS:Shape d.M)(Ad:∀n∈d.M.ns,S0 n)(hsm:SmallM d.M)(hE:∀W,Below D w W->D6 W):
 Calls prog 57 #[.pointer (some ⟨r,0,none⟩),.int .i64 i] w fun e w'=>e=.returned (.int .i64 (stepS d.M i).2)/\l9 G w' D r (stepS d.M i).1/\Below D w w':=by
 obtain⟨b0,b1,b2,b3,b4,b5,b6⟩:=K6 h.box.1;have hps0:0<d.M.ps.length:=by rw[hS.plen];exact hS.g.pos
 have Ob:Hid (l9 G w D r d.M):=(show l9 G w D r d.M from ⟨O,d,h,rfl⟩);obtain⟨gP,cP,hvP,Dn,En⟩:∃g c,d.vP=.slice (some ⟨g,0,none⟩) d.M.ps.length c/\d.M.ps.length<=c/\c<=9223372036854775807:=by obtain⟨g,c,s,h1,h2,h3,_⟩:=h.procAt (gEl hps0);exact⟨g,c,h1,h2,h3⟩
 rw[hvP]at b3;by_cases Bj:i<0\/(d.M.ps.length:Int)<=i
 .
  have HR:=qH (show stepS d.M i=(d.M,5) by unfold stepS;rw[qF Bj]);rw[HR.out];generalize d.M.ps.length=NP at *;clear h hS Ad hsm hE hvP b0 b1 b2 b4 b5 b6 HR;by_cases hneg:i<0
  . clear Bj;go_enter Tryz.func57,Tryz.ntmps57;go_wp2_with fail;go_ret;exact⟨rfl,Ob.out,qI _ _⟩
  . have hge:(NP:Int)<=i:=by omega
    clear Bj;go_enter Tryz.func57,Tryz.ntmps57;go_wp2_with fail;go_ret;exact⟨rfl,Ob.out,qI _ _⟩
 .
  obtain⟨k,rfl⟩:∃k:Nat,i=(k:Int):=xW (by omega);have hkl:k<d.M.ps.length:=by omega
  obtain⟨p,hp⟩:∃p,d.M.ps[k]? = some p:=⟨_,gEl hkl⟩;obtain⟨n,hn⟩:∃n,d.M.ns[k]? = some n:=⟨_,gEl (by rw[<- hS.plen];exact hkl)⟩;have As:stepS d.M (k:Int)=aP1 d.M k n p:=by unfold stepS;rw[qA Bj,qq];unfold K7;rw[hn,hp]
  rw[As];have hF:=hS.proc k n p hn hp;obtain⟨gP2,cP2,s,Ny,_,_,hgP,hOP,hs,p0,p1,p2,p3,p4,hfP,hGo,hOo,hgl,hol⟩:=h.procAt hp;rw[hvP]at Ny;injection Ny with e1 e2 e3;injection e1 with e1;injection e1 with e1;subst e1;have HH:=qH h;obtain⟨RES,Ai⟩:=qE (aP1 d.M k n p);rw[<- Ai];unfold aP1 at Ai
  cases hov:p.ov with
  | true=>
   rw[qF hov]at Ai
   have HR:=qH Ai
   rw[hov]at p4
   generalize d.M.ps.length=NP at *
   clear h hS Ad hsm hE hvP b0 b1 b2 b4 b5 b6 Ai As hF Bj hn hp hs p0 p1 p2 p3 hfP hGo hOo hgl hol hOP e2 e3 hov hgP
   go_enter Tryz.func57,Tryz.ntmps57
   go_wp2_with fail
   go_ret
   rw[HR.out]
   exact⟨rfl,Ob.out,qI _ _⟩
  | false=>
   rw[qA (by simp[hov])]at Ai
   rw[hov]at p4
   obtain⟨⟨ao,co,Kr,Fq,Ea⟩,_⟩:=j5 hOo
   have hCF:=bE1 ao co p.out w (by have:=h.outs hp hs;rwa [Kr]at this)
   rw[Kr]at p2
   have HCF:Hid _:=hCF
   by_cases Cf:p.out.any (fun b=>!b.isEmpty)=true
   .
    rw[qF Cf]at Ai
    rw[Cf]at HCF
    have HW:Hid (∀W,Bq w W->Calls prog 118 #[.pointer (some ⟨r,0,none⟩),.int .i64 k] W fun e w'=>e=.returned (.int .i64 RES.2)/\l9 G w' D r RES.1/\Below D w w'):=(show ∀W,Bq w W->Calls prog 118 #[.pointer (some ⟨r,0,none⟩),.int .i64 k] W fun e w'=>e=.returned (.int .i64 RES.2)/\l9 G w' D r RES.1/\Below D w w' from fun W hW=>by
     rw[Ai]
     refine (bT3 D r O d k n p W (RMem.below h hW) hS hn hp).mono ?_
     rintro e w'⟨h1,h2,h3⟩
     exact⟨h1,h2,(hW.mono h.le).trans h3⟩)
    generalize d.M.ps.length=NP at *
    generalize p.out.length=OL at *
    clear h hS Ad hsm hE hvP b0 b1 b2 b4 b5 b6 Ai As hF Bj hn hp hs p0 p1 p3 hfP hGo hOo hgl hol hOP e2 e3 hov hgP Kr Fq Ea hCF Cf
    go_enter Tryz.func57,Tryz.ntmps57
    go_wp2_with fail
    refine qD HCF.out ?_
    rintro e w2⟨rfl,hb2⟩
    go_wp2_with fail
    refine qD (HW.out _ hb2) ?_
    rintro e w3⟨rfl,hb3⟩
    have HB3:Hid _:=hb3
    clear hb3
    go_wp2_with fail
    go_ret
    exact⟨rfl,HB3.out⟩
   .
    have Jo:p.out.any (fun b=>!b.isEmpty)=false:=by simpa using Cf
    rw[qA Cf]at Ai
    rw[Jo]at HCF
    cases hrd:p.rd with
    | true=>
     rw[qF hrd]at Ai
     rw[hrd]at p3
     have HW:Hid (∀W,Bq w W->Calls prog 119 #[.pointer (some ⟨r,0,none⟩),.int .i64 k] W fun e w'=>e=.returned (.int .i64 RES.2)/\l9 G w' D r RES.1/\Below D w w'):=(show ∀W,Bq w W->Calls prog 119 #[.pointer (some ⟨r,0,none⟩),.int .i64 k] W fun e w'=>e=.returned (.int .i64 RES.2)/\l9 G w' D r RES.1/\Below D w w' from fun W hW=>by
      rw[Ai]
      refine (co2 D r O d k n p W (RMem.below h hW) hS hn hp).mono ?_
      rintro e w'⟨h1,h2,h3⟩
      exact⟨h1,h2,(hW.mono h.le).trans h3⟩)
     generalize d.M.ps.length=NP at *
     generalize p.out.length=OL at *
     clear h hS Ad hsm hE hvP b0 b1 b2 b4 b5 b6 Ai As hF Bj hn hp hs p0 p1 hfP hGo hOo hgl hol hOP e2 e3 hov hgP Kr Fq Ea hCF Cf Jo hrd
     go_enter Tryz.func57,Tryz.ntmps57
     go_wp2_with fail
     refine qD HCF.out ?_
     rintro e w2⟨rfl,hb2⟩
     have p3':=qC hb2 p3
     go_wp2_with fail
     refine qD (HW.out _ hb2) ?_
     rintro e w3⟨rfl,hb3⟩
     have HB3:Hid _:=hb3
     clear hb3
     go_wp2_with fail
     go_ret
     exact⟨rfl,HB3.out⟩
    | false=>
     rw[qA (by simp[hrd])]at Ai
     rw[hrd]at p3
     obtain⟨⟨ag,cg,hgv,Qa,Qb⟩,_⟩:=j5 hGo
     rw[hgv]at p0
     have hch:=hS.g.node n (mGt hn)
     by_cases Bc:p.got.isEmpty=true
     .
      have Rn:p.got=[]:=xC.1 Bc
      rw[qF Bc]at Ai
      have hgl0:p.got.length=0:=by rw[Rn];rfl
      have HW:Hid (∀W,Bq w W->Calls prog 120 #[.pointer (some ⟨r,0,none⟩),.int .i64 k] W fun e w'=>e=.returned (.int .i64 RES.2)/\l9 G w' D r RES.1/\Below D w w'):=(show ∀W,Bq w W->Calls prog 120 #[.pointer (some ⟨r,0,none⟩),.int .i64 k] W fun e w'=>e=.returned (.int .i64 RES.2)/\l9 G w' D r RES.1/\Below D w w' from fun W hW=>by
       rw[Ai]
       refine (aR9 D r O d k n p W (RMem.below h hW) hS.toG hn hp (Ad n (mGt hn)) (by have:=hsm.got p (mGt hp);omega) (fun b hb=>by have:=hsm.out p (mGt hp) b hb;omega) (fun V hV=>hE V ((hW.mono h.le).trans hV)) hF.olen hF.glen).mono ?_
       rintro e w'⟨h1,h2,h3⟩
       exact⟨h1,h2,(hW.mono h.le).trans h3⟩)
      rw[hgl0]at p0
      generalize d.M.ps.length=NP at *
      generalize p.out.length=OL at *
      clear h hS Ad hsm hE hvP b0 b1 b2 b4 b5 b6 Ai As hF Bj hn hp hs p1 hfP hGo hOo hgl hol hOP e2 e3 hov hgP Kr Fq Ea hCF Cf Jo hrd hch Bc Rn hgl0 hgv Qa Qb
      go_enter Tryz.func57,Tryz.ntmps57
      go_wp2_with fail
      refine qD HCF.out ?_
      rintro e w2⟨rfl,hb2⟩
      have p3':=qC hb2 p3
      have p0':=qC hb2 p0
      go_wp2_with fail
      refine qD (HW.out _ hb2) ?_
      rintro e w3⟨rfl,hb3⟩
      have HB3:Hid _:=hb3
      clear hb3
      go_wp2_with fail
      go_ret
      exact⟨rfl,HB3.out⟩
     .
      rw[qA Bc]at Ai
      have hg0:n.ins.length≠0:=by
       intro e
       rw[<- hF.glen]at e
       exact Bc (xC.2 (qn.1 e))
      have Qu:=hF.pos2 hrd hg0
      have Gg:=hF.pos0
      have hglen:=hF.glen
      obtain⟨m,hm⟩:∃m:Nat,p.pos=(m:Int):=xW Gg
      have hml:m<p.got.length:=by omega
      have hqx:b7 d.M.ns k+m<d.M.pipes.length:=by rw[hS.xlen];exact M1 hn (by omega)
      have HW:Hid (∀W,Bq w W->Calls prog 121 #[.pointer (some ⟨r,0,none⟩),.int .i64 k] W fun e w'=>e=.returned (.int .i64 RES.2)/\l9 G w' D r RES.1/\Below D w w'):=(show ∀W,Bq w W->Calls prog 121 #[.pointer (some ⟨r,0,none⟩),.int .i64 k] W fun e w'=>e=.returned (.int .i64 RES.2)/\l9 G w' D r RES.1/\Below D w w' from fun W hW=>by
       rw[Ai,hm,qq]
       refine (ch1 D r O d k (b7 d.M.ns k+m) m n p _ _ W (RMem.below h hW) hS hn hp hm (gEl hml) rfl (gEl hqx) (Ad n (mGt hn)) (hsm.got p (mGt hp)) (hsm.out p (mGt hp)) hsm.sunk (fun V hV=>hE V ((hW.mono h.le).trans hV))).mono ?_
       rintro e w'⟨h1,h2,h3⟩
       exact⟨h1,h2,(hW.mono h.le).trans h3⟩)
      have hGL:¬p.got.length=0:=by omega
      obtain⟨GL,hGLe⟩:=qE p.got.length
      rw[<- hGLe]at p0 hGL
      generalize d.M.ps.length=NP at *
      generalize p.out.length=OL at *
      clear h hS Ad hsm hE hvP b0 b1 b2 b4 b5 b6 Ai As hF Bj hn hp hs p1 hfP hGo hOo hgl hol hOP e2 e3 hov hgP Kr Fq Ea hCF Cf Jo hrd hch Bc hgv Qa Qb hg0 Qu Gg hglen hm hml hqx hGLe
      go_enter Tryz.func57,Tryz.ntmps57
      go_wp2_with fail
      refine qD HCF.out ?_
      rintro e w2⟨rfl,hb2⟩
      have p3':=qC hb2 p3
      have p0':=qC hb2 p0
      go_wp2_with fail
      refine qD (HW.out _ hb2) ?_
      rintro e w3⟨rfl,hb3⟩
      have HB3:Hid _:=hb3
      clear hb3
      go_wp2_with fail
      go_ret
      exact⟨rfl,HB3.out⟩
end Go.Proofs.YtllgglolcgdehaaGreatDoor
