/- What the developers' came does: who passes whole lines on. -/
import Derived.Test.YtmejdflmcikkdaaGreatDoorVAb
import Derived.Test.YtmejdflmcikkdaaGreatDoorVa19
set_option linter.all false
set_option maxRecDepth 100000
set_option maxHeartbeats 64000000
namespace Go.Proofs.YtmejdflmcikkdaaGreatDoor
open Go.RowKit Go.Gs Go.Maps Tryz
variable {G:World->qW->Prop}
theorem bN9(D r:Nat)(O:qW)(d:RD)(i q m:Nat)(n:SNode)(p:SProc)(x:SPipe)(g:qU)(w:World)(h:RunM G w D r O d)(hS:Shape d.M)(hn:d.M.ns[i]?=some n)(hp:d.M.ps[i]?=some p)(hm:p.pos=(m:Int))(hgm:p.got[m]?=some g)(hg0:g≠[])(hq:q=Gs.f9 d.M.ns i+m)(hx:d.M.pipes[q]?=some x)(Ad:G8 n)(hT:p.got.flatten.length<=60300000)(hsm:∀b∈p.out,b.length<=90000000)(hsk:d.M.sunk.length<=90000000)(hE:∀W,Below D w W->q8 W)(hk5:n.kind≠5)(hps:passes n=true):
 Calls prog 98 #[.pointer (some ⟨r,0,none⟩),.int .i64 i] w fun e w'=>e=.returned (.int .i64 0)/\o6 G w' D r (F3 d.M i n q p)/\Below D w w':=by
 have hF:=hS.proc i n p hn hp;have hch:=hS.g.node n (mGt hn);have hat:p.at=g:=by unfold SProc.at;rw[hm,qh,hgm];rfl
 have hml:m<p.got.length:=(gSm hgm).1;obtain⟨gP,cP,s,hvP,Db,Dw,hgP,hOP,hs,p0,p1,p2,p3,p4,hfP,hGo,hOo,hgl,hol⟩:=h.procAt hp;obtain⟨gG,cG,a,hgv,Kp,Wh,hgG,hOG,ha,hSa,g0,hfG⟩:=RMem.gotAt h hp hs hgm;have hil:i<d.M.ps.length:=(gSm hp).1;obtain⟨b0,b1,b2,b3,b4,b5,b6⟩:=K9 h.box.1;obtain⟨hRN,hRF⟩:=h.nodes;obtain⟨an,cn,hvN,Ih,Dz⟩:=hRN.shape;rw[hvN]at hRN b0;rw[hvP]at b3;rw[hgv]at p0;rw[hm]at p1;obtain⟨nb,noff,ai,ci,rfl,hNA,HPo⟩:=hRN.at hn;obtain⟨c0,c1,c2,c3,c4,c5,c6,c7⟩:=hNA;have hin:i<d.M.ns.length:=(gSm hn).1;have Oz:cn<=9223372036854775807:=by unfold maxLen at Dz;exact Dz
 have Ji:=t8 hSa.reads;have HH:Hid (RunM G w D r O d):=h;have HS:=qH hS;have HN:=qH hn;have HP:=qH hp;have HSl:=qH hs;have HX:=qH hx;have HGM:=qH hgm;have HA:=qH ha;have HSA:=qH hSa;have HGV:=qH hgv;have HVP:=qH hvP;have HOG:=qH hOG;have HOP:=qH hOP;have HAT:=qH hat;have HM:=qH hm;have HG0:=qH hg0;have HCH:=qH hch;have Gl:=qH Ad;have HSM:=qH hsm;have HSK:=qH hsk;have HE:=qH hE;have HT:=qH hT;have HQ:=qH hq;have HF:=qH hF;obtain⟨NP,hNP⟩:=qE d.M.ps.length;obtain⟨NN,hNN⟩:=qE d.M.ns.length;obtain⟨GL,hGL⟩:=qE p.got.length;obtain⟨BL,hBL⟩:=qE g.length;have HBL:=qH hBL;have HGL:=qH hGL;obtain⟨NK,hNK⟩:=qE n.kind;obtain⟨CK,hCK⟩:=qE n.c.kind;obtain⟨CN,hCN⟩:=qE n.c.n;have HNK:=qH hNK;have HCK:=qH hCK;have HCN:=qH hCN;rw[<- hNP]at b3 hil Db;rw[<- hNN]at b0 Ih hin;rw[<- hGL]at p0 Kp hml;unfold sl at g0;obtain⟨aa,ca⟩:=a;simp only at g0 Ji;rw[<- hBL]at g0 Ji;rw[<- hNK]at c0;rw[<- hCK]at c2;rw[<- hCN]at c4;obtain⟨fx,hfx⟩:=qE ((⟨n.file.toArray⟩:ByteArray));obtain⟨wx0,hwx⟩:=qE ((⟨n.c.word.toArray⟩:ByteArray));obtain⟨hw,hhw⟩:=qE n.how;obtain⟨wd,hwd⟩:=qE n.wide;obtain⟨IL,hIL⟩:=qE n.ins.length;have HV:Hid (fx=(⟨n.file.toArray⟩:ByteArray)/\wx0=(⟨n.c.word.toArray⟩:ByteArray)/\hw=n.how/\wd=n.wide/\IL=n.ins.length):=⟨hfx,hwx,hhw,hwd,hIL⟩;rw[<- hfx]at c1;rw[<- hwx]at c3;rw[<- hhw]at c5;rw[<- hwd]at c6;rw[<- hIL]at c7;clear h hS hn hp hs hx hgm ha hSa hgv hvP hOG hOP hat hm hg0 hch Ad hsm hsk hE hT hq hF hNP hNN hGL hBL hNK hCK hCN hfx hwx hhw hwd hIL hRN hRF hvN HPo hGo hOo hgl hol Dz b1 b2 b4 b5 b6 p2 p3 p4 hfP;have fb0:=fun o=>((boxE (w:=w) (o:=o)).cell (bLt w _ b0)).trans b0;have fb3:=fun o=>((boxE (w:=w) (o:=o)).cell (bLt w _ b3)).trans b3;have fc0:=fun o=>((boxE (w:=w) (o:=o)).cell (bLt w _ c0)).trans c0;have fc1:=fun o=>((boxE (w:=w) (o:=o)).cell (bLt w _ c1)).trans c1;have fc2:=fun o=>((boxE (w:=w) (o:=o)).cell (bLt w _ c2)).trans c2;have fc3:=fun o=>((boxE (w:=w) (o:=o)).cell (bLt w _ c3)).trans c3;have fc4:=fun o=>((boxE (w:=w) (o:=o)).cell (bLt w _ c4)).trans c4;have fc5:=fun o=>((boxE (w:=w) (o:=o)).cell (bLt w _ c5)).trans c5;have fc6:=fun o=>((boxE (w:=w) (o:=o)).cell (bLt w _ c6)).trans c6;have fc7:=fun o=>((boxE (w:=w) (o:=o)).cell (bLt w _ c7)).trans c7;have hrl:r<w.heap.size:=bLt w _ b0;have hnbl:nb<w.heap.size:=bLt w _ c0;go_enter func98,ntmps98;go_upto_region 1 with fail;go_region
 obtain⟨W1,hW1⟩:=qE ((w.alloc (.cells #[.int .i64 NK,.string fx,.int .i64 CK,.string wx0,.int .i64 CN,.int .i64 hw,.int .i64 wd,.slice ai IL ci] 57)).drew);have hb1:Bq w W1:=by rw[hW1];exact boxE.drew
 have hbx:W1.heap[w.heap.size]?=some (.cells #[.int .i64 NK,.string fx,.int .i64 CK,.string wx0,.int .i64 CN,.int .i64 hw,.int .i64 wd,.slice ai IL ci] 57 (0,0)):=by rw[hW1];exact qJ _ _
 have p0':=qC hb1 p0;have p1':=qC hb1 p1;have g0':=qC hb1 g0;rw[<- hW1];clear hW1 fb0 fb3 fc0 fc1 fc2 fc3 fc4 fc5 fc6 fc7 b0 b3 c0 c1 c2 c3 c4 c5 c6 c7 p0 p1 g0;go_wp2_with fail;go_quiet (fail);have hb2:Bq w (W1.drewN nq):=hb1.trans P4;have Eu:(W1.drewN nq).heap[w.heap.size]?=some (.cells #[.int .i64 NK,.string fx,.int .i64 CK,.string wx0,.int .i64 CN,.int .i64 hw,.int .i64 wd,.slice ai IL ci] 57 (0,0)):=hbx;have HB2:=qH hb2;have Eo:Hid _:=Eu;clear hbx hb1 hb2 p0' p1' g0';generalize (W1.drewN nq)=W2 at *;obtain⟨c0,c1,c2,c3,c4,c5,c6,c7⟩:=D8 Eu;clear Eu;have hR2:=RMem.below HH.o HB2.o;have HR2:Hid (RunM G W2 D r O d):=hR2;have Nu:Hid (SOf W2 O (.got i m) (aa,ca) g):=hR2.part (.got i m) p s g (aa,ca) HP.o HSl.o HGM.o HA.o;have Ph:Hid (Below D w W2):=HB2.o.mono HH.o.le;clear hR2;have h5:¬NK=5:=fun e=>hk5 (HNK.o.symm.trans e);clear hk5;have hPS:=aO6 n ai n.ins.length ci W2;unfold x8 at hPS;rw[<- HNK.o,<- HCK.o,<- HCN.o,<- HV.o.1,<- HV.o.2.1,<- HV.o.2.2.1,<- HV.o.2.2.2.1,<- HV.o.2.2.2.2]at hPS;have HPS:Hid _:=hPS;have h5':n.kind≠5:=by rw[<- HNK.o];exact h5
 have HC0:=qH (show F3 d.M i n q p=if passes n && g.contains 10 then d.M.setP i ((p.setOut 0 ((p.out[0]?).getD []++through n (g.take (j3 g)))).setGot (g.drop (j3 g))) else if n.kind=3/\n.c.kind=9/\n.c.n<=(g.count 10:Int) then (d.M.setX q ⟨[],(d.M.pipe q).room,(d.M.pipe q).closed,true⟩).setP i (D2 n d.M.fs p) else d.M.setP i p by unfold F3;rw[qB h5',HAT.o]);clear hPS h5';go_wp2_with fail;refine qD HPS.o ?_;rintro e w3⟨rfl,hb3,hx3⟩;have HB3:=qH hb3;have HX3:Hid _:=hx3;have hR3:=RMem.below HR2.o hb3;have HR3:Hid (RunM G w3 D r O d):=hR3;have Pi:Hid (SOf w3 O (.got i m) (aa,ca) g):=hR3.part (.got i m) p s g (aa,ca) HP.o HSl.o HGM.o HA.o;have Ij:Hid (Below D w w3):=Ph.o.trans (hb3.mono HR2.o.le);have Jj:=qK hb3 Eo.o;clear c0 c1 c2 c3 c4 c5 c6 c7;obtain⟨c0,c1,c2,c3,c4,c5,c6,c7⟩:=D8 Jj;clear hb3 hx3 hR3 Jj HPS Eo;have hfn:=bW8;have HIF:=bg0 aa ca g w3 Pi.o.reads HG0.o;rw[<- HBL.o]at HIF;have HIF2:Hid _:=HIF;clear HIF;have HPO1:Hid (nouts n=1):=am5 hps;have Gx:p.out.length=1:=by have:=HF.o.olen;have:=HPO1.o;omega
 obtain⟨ob,hob⟩:∃b,p.out[0]?=some b:=⟨_,gEl qO⟩;have HOB:=qH hob;have HOL1:=qH Gx
 have HCU:Hid (j3 g<=g.length):=(show j3 g<=g.length by
  unfold j3
  have:=(List.dropWhile_suffix (fun c=>c != 10) (l:=g.reverse)).length_le
  simpa using this)
 have HRT:Hid (∀W,Bq w3 W->Reads W (.slice aa (g.take (j3 g)).length ca) (g.take (j3 g)).length ((g.take (j3 g)).map U)):=(show ∀W,Bq w3 W->Reads W (.slice aa (g.take (j3 g)).length ca) (g.take (j3 g)).length ((g.take (j3 g)).map U) from fun W hW=>bz6 (Pi.o.reads.below hW) HCU.o);have HCL:=qH (show (g.take (j3 g)).length=j3 g by rw[qX];have:=HCU.o;omega);clear Gx hob;rcases ae6 hps with⟨k4,k1⟩|⟨k3,k5⟩;have e4:NK=4:=HNK.o.trans k4;have hV:aF5 n W2.heap.size=.func (.func 152) #[] #[]:=by unfold aF5;rw[qF ⟨k4,k1⟩]
 have eg:∀args w,(callFunc 152 args).run prog w=.ok (.enter 152 args) w:=enters_of func152 qQ rfl;have HTT:=qH (show through n (g.take (j3 g))=g.take (j3 g) by unfold through;rw[qF k4]);have HNH:=qH (show ¬(n.kind=3/\n.c.kind=9/\n.c.n<=(g.count 10:Int)) from fun h=>qO);rw[hV];clear hV k4 k1;subst e4
 have HTH:Hid (∀W,Bq w3 W->Calls prog 152 #[.slice aa (j3 g) ca] W fun e w'=>∃au cu,e=.returned (.tuple #[.slice au (through n (g.take (j3 g))).length cu,.int .i64 0])/\Reads w' (.slice au (through n (g.take (j3 g))).length cu) (through n (g.take (j3 g))).length ((through n (g.take (j3 g))).map U)/\Bq W w'):=(show ∀W,Bq w3 W->Calls prog 152 #[.slice aa (j3 g) ca] W fun e w'=>∃au cu,e=.returned (.tuple #[.slice au (through n (g.take (j3 g))).length cu,.int .i64 0])/\Reads w' (.slice au (through n (g.take (j3 g))).length cu) (through n (g.take (j3 g))).length ((through n (g.take (j3 g))).map U)/\Bq W w' from fun W hW=>by
  rw[HTT.o,HCL.o]
  refine (bW6 _ W).mono ?_
  rintro e w'⟨rfl,hb⟩
  have:=(HRT.o W hW).below hb
  rw[HCL.o]at this
  exact⟨aa,ca,rfl,this,hb⟩)
 have HTL:=qH (show (through n (g.take (j3 g))).length<=75000000 by rw[HTT.o,HCL.o];have:=HCU.o;have h2:=A3 (mGt HGM.o);have:=HT.o;omega);rotate_left
 have e4:NK=3:=HNK.o.trans k3;have hV:aF5 n W2.heap.size=.func (.func 154) #[] #[.pointer (some ⟨W2.heap.size,0,none⟩)]:=by unfold aF5;rw[qB qO,qF ⟨k3,k5⟩]
 have eg:∀args w,(callFunc 154 args).run prog w=.ok (.enter 154 args) w:=enters_of func154 qQ rfl;have HTT:=qH (show through n (g.take (j3 g))=ended (made n.c (lines (g.take (j3 g)))) by unfold through;rw[qB qO]);have h9:¬CK=9:=by rw[HCK.o];have:=qp k5;omega
 have HNH:=qH (show ¬(n.kind=3/\n.c.kind=9/\n.c.n<=(g.count 10:Int)) from fun h=>h9 (HCK.o.trans h.2.1));have e9:(CK==9)=false:=by simpa using h9
 have e9':decide (CK=9)=false:=by simpa using h9
 rw[hV]
 have HTH:Hid (∀W,Bq w3 W->Calls prog 154 #[.slice aa (j3 g) ca,.pointer (some ⟨W2.heap.size,0,none⟩)] W fun e w'=>∃au cu,e=.returned (.tuple #[.slice au (through n (g.take (j3 g))).length cu,.int .i64 0])/\Reads w' (.slice au (through n (g.take (j3 g))).length cu) (through n (g.take (j3 g))).length ((through n (g.take (j3 g))).map U)/\Bq W w'):=(show ∀W,Bq w3 W->Calls prog 154 #[.slice aa (j3 g) ca,.pointer (some ⟨W2.heap.size,0,none⟩)] W fun e w'=>∃au cu,e=.returned (.tuple #[.slice au (through n (g.take (j3 g))).length cu,.int .i64 0])/\Reads w' (.slice au (through n (g.take (j3 g))).length cu) (through n (g.take (j3 g))).length ((through n (g.take (j3 g))).map U)/\Bq W w' from fun W hW=>by
  rw[HTT.o]
  have hbxW:=qK hW HX3.o
  rw[HNK.o,HCK.o,HCN.o,HV.o.1,HV.o.2.1,HV.o.2.2.1,HV.o.2.2.2.1,HV.o.2.2.2.2]at hbxW
  have:=bW7 n ai aa ci ca W2.heap.size (g.take (j3 g)) W HCH.o k3 Gl.o hbxW (HRT.o W hW) (by rw[HCL.o];have:=HCU.o;have h2:=A3 (mGt HGM.o);have:=HT.o;omega) (HE.o W (Ij.o.trans (hW.mono HR3.o.le)))
  rw[HCL.o]at this
  exact this)
 have HTL:=qH (show (through n (g.take (j3 g))).length<=75000000 by
  rw[HTT.o]
  have q1:=ah4 n.c (bj8 HCH.o k3) (lines (g.take (j3 g))) (by have:=E6 (g.take (j3 g));rw[HCL.o]at this;have:=HCU.o;have h2:=A3 (mGt HGM.o);have:=HT.o;omega)
  have q2:=E8 (g.take (j3 g))
  rw[HCL.o]at q2
  have:=HCU.o;have h2:=A3 (mGt HGM.o);have:=HT.o;omega)
 clear hV k3 k5 h9;subst e4;rotate_left
 all_goals
  generalize hTG:through n (g.take (j3 g))=TG at *;have HPSS:=qH hps;clear hps HTT hTG;go_wp2_with fail;refine qD HIF2.o ?_;rintro e w4⟨z,rfl,hz,rfl⟩;by_cases hz0:0<=z
  .
   have h10:(10:UInt8)∈g:=hz.1 hz0;have HC2:=qH (show F3 d.M i n q p=d.M.setP i ((p.setOut 0 (ob++TG)).setGot (g.drop (j3 g))) by rw[HC0.o,qF (by rw[HPSS.o];simpa using h10),HOB.o];rfl);have hLF:=bp6 aa ca g w4 Pi.o.reads h10;rw[<- HBL.o]at hLF;have HLF:Hid _:=hLF;have hcp:1<=j3 g:=by
    by_cases h0:j3 g=0
    . have h1:=bS3 g;rw[h0,List.drop_zero]at h1;exact absurd h10 h1
    . omega
   obtain⟨CT,hCT⟩:=qE (j3 g);have HCT:=qH hCT;have hct2:CT<=BL:=by rw[hCT,HBL.o];exact HCU.o
   rw[<- hCT]at HLF HTH hcp;obtain⟨TL,hTL⟩:=qE TG.length;have HTLe:=qH hTL;rw[<- hTL]at HTH;clear HC0 h10 hz hLF hCT hTL;go_wp2_with fail;refine qD HLF.o ?_;rintro e w5⟨rfl,hb5⟩;have HB5:=qH hb5;clear hb5 HLF;have hct3:IntKind.i64.wrap ((CT:Int)-1+1)=(CT:Int):=by rw[zx];omega
   have hct4:(CT:Int)-1+1=(CT:Int):=qO;go_wp2_with fail;refine qD (HTH.o w5 HB5.o) ?_;rintro e w6⟨au,cu,rfl,hrd6,hb6⟩;have hB6:Bq w4 w6:=HB5.o.trans (hb6.mono HB5.o.size);have hR6:=RMem.below HR3.o hB6;have Rq:=RMem.below hR6 ((Below.refl _ w6).drew);obtain⟨gP6,cP6,s6,hvP6,_,_,_,Wj,hs6,q0,q1,q2,_⟩:=RMem.procAt hR6 HP.o;rw[HVP.o]at hvP6;injection hvP6 with e1 e2 e3;injection e1 with e1;injection e1 with e1;subst e1;rw[HSl.o]at hs6;injection hs6 with hs6;subst hs6;obtain⟨gO,cO,a6,Wl,Us,Yc,hgO,hOO,ha6,hSa6,u0,hfO⟩:=RMem.outAt Rq HP.o HSl.o HOB.o;rw[Wl]at q2;have Ug:Reads w6.drew (.slice au TG.length cu) TG.length (TG.map U):=by have:=hrd6.below ((Below.refl _ w6).drew);rw[HTLe.o]at this;exact this
   obtain⟨s7,w7,O7,Ae,hR7,Pj,Ik,Gm⟩:=RMem.appendOut Rq HP.o HSl.o HOB.o ha6 Ug (by have:=HSM.o ob (mGt HOB.o);have:=HTL.o;omega) 28;have Wm:O7 gO=some (.outs i):=(Gm gO hgO).trans hOO;have Ec:=RMem.setOut hR7 HP.o HSl.o HOB.o Wl Wm Pj;have Pg:gP<w6.heap.size:=(hR6.lo _ _ Wj).2;have Hu:=Ik.block gP Pg (by rw[Wj];exact fun e=>by cases e);have Pm:=Ik.block gO hgO (by rw[hOO];exact fun e=>by cases e);have q2':w7.cell? ⟨gP,i*5+2,none⟩=some (.slice (some ⟨gO,0,none⟩) p.out.length cO):=by simp only[World.cell?]at q2 ⊢;rw[Hu];exact q2
   have u0':w7.cell? ⟨gO,0,none⟩=some (sl ob a6):=by simp only[World.cell?]at u0 ⊢;rw[Pm];exact u0
   have Wg:w7.frozen? ⟨gO,0,none⟩=false:=by have h2:=hfO 0;simp only[World.frozen?]at h2 ⊢;rw[Pm];exact h2
   obtain⟨W8,hW8⟩:=qE (w7.setCell ⟨gO,0,none⟩ (sl (ob++TG) s7));rw[<- hW8]at Ec;have Lu:Below D w W8:=by rw[hW8];exact ((Ij.o.trans (hB6.mono HR3.o.le)).trans (((Below.refl D w6).drew).trans (Ik.below Rq))).setCell (hR7.lo _ _ Wm).1 _
   have hp8:(d.setProc i (p.setOut 0 (ob++TG)) (s.outSet 0 s7)).M.ps[i]?=some (p.setOut 0 (ob++TG)):=j8 HP.o;have hs8:(d.setProc i (p.setOut 0 (ob++TG)) (s.outSet 0 s7)).P[i]?=some (s.outSet 0 s7):=j8 HSl.o;obtain⟨gP8,cP8,s8,hvP8,_,_,_,hOP8,Rr,r0,r1,_⟩:=RMem.procAt Ec hp8;rw[show (d.setProc i (p.setOut 0 (ob++TG)) (s.outSet 0 s7)).vP=d.vP from rfl,HVP.o]at hvP8;injection hvP8 with e4 e5 e6;injection e4 with e4;injection e4 with e4;subst e4;rw[hs8]at Rr;injection Rr with Rr;subst Rr;obtain⟨gG8,cG8,a8,hgv8,_,_,hgG8,Wn,ha8,hSa8,v0,hfG8⟩:=RMem.gotAt Ec hp8 hs8 HGM.o;rw[show (s.outSet 0 s7).gv=s.gv from rfl,HGV.o]at hgv8 r0;injection hgv8 with e7 e8 e9x;injection e7 with e7;injection e7 with e7;subst e7;rw[show (s.outSet 0 s7).gs=s.gs from rfl,HA.o]at ha8;injection ha8 with ha8;subst ha8;have Da:∀(s9:Sl)(v:Value),v=sl (g.drop (j3 g)) s9->SOf W8 O7 (.got i m) s9 (g.drop (j3 g))->o6 G (W8.setCell ⟨gG,m,none⟩ v).drew D r (F3 d.M i n q p)/\Below D w (W8.setCell ⟨gG,m,none⟩ v).drew:=by intro s9 v hv hs9;subst hv;have k1:=RMem.setGot Ec hp8 hs8 HGM.o HGV.o Wn hs9;refine⟨o6.drew ⟨O7,(d.setProc i (p.setOut 0 (ob++TG)) (s.outSet 0 s7)).setProc i (SProc.gotSet (p.setOut 0 (ob++TG)) m (g.drop (j3 g))) ((s.outSet 0 s7).gotSet m s9),k1,?_⟩,(Lu.setCell (Ec.lo _ _ Wn).1 _).drew⟩;rw[HC2.o];unfold RD.setProc SMach.setP SProc.gotSet SProc.setGot SProc.setOut;simp only[List.set_set];rw[HM.o,qh]
   have Ao:Hid _:=Da;have Au:Hid _:=Ae;have Rt:Hid _:=hSa8;have hfg8:=hfG8 m;rw[show (p.setOut 0 (ob++TG)).pos=(m:Int) from HM.o]at r1;rw[<- HGL.o]at r0;rw[HOL1.o]at q2 q2';obtain⟨a6a,a6c⟩:=a6;obtain⟨s7a,s7c⟩:=s7;have u0d:w6.cell? ⟨gO,0,none⟩=some (sl ob (a6a,a6c)):=u0;have Vi:=t8 hSa6.reads;unfold sl at u0d u0' Au hW8 v0;simp only at u0d u0' Au hW8 v0 Vi;rw[<- HTLe.o]at Au;rw[<- HBL.o]at v0;have hcO1':1<=cO:=by have:=HOL1.o;omega
   generalize ob.length=OBL,(ob++TG).length=OTL at *;clear Da Ec hp8 hs8 Wn hOP8 hSa8 hfG8 hR7 Pj Ik Gm Ae Wm hR6 Rq hOO ha6 hSa6 u0 hfO hrd6 Ug hb6 hB6 Hu Pm Lu e2 e3 e5 e6 e8 e9x q0 q1 Wl Wj Us;have HW8:Hid _:=hW8;clear hW8 eg hfn hct3 hct4;go_wp2_with fail;go_region_law (refine ac9 rfl (.tmp 93) (.tmp 94) 28 rfl (.slice a6a OBL a6c) (.slice au TL cu) (by simp[Act.eval]) (by simp[Act.eval]) Au.o ?_)
   all_goals
    rw[<- HW8.o];clear HW8;by_cases hce:ca=CT
    .
     rcases id Rt.o with⟨Dt,hbn⟩|⟨g1,off1,cur1,hs1,ho1,hg1,hl1,hl2,hl3,hl4⟩
     . exact absurd hbn HG0.o
     .
      try simp only at hs1
      subst hs1;have HSO:Hid (SOf W8 O7 (.got i m) (some ⟨g1,off1,none⟩,0) (g.drop (j3 g))):=SOf.drop Rt.o rfl HCU.o _ (.inr ⟨rfl,by rw[<- HCT.o,hce]⟩);have hBe:BL=ca:=by have:g.length<=ca:=hl1;rw[<- HBL.o]at this;omega
      clear hg1 hl1 hl2 hl3 hl4 ho1;subst hce;subst hBe;go_wp2_with fail;go_region
      all_goals go_wp2_with fail
      all_goals go_ret
      all_goals refine⟨rfl,?_⟩
      all_goals exact Ao.o (some ⟨g1,off1,none⟩,0) _ (by unfold sl;rw[qy,<- HCT.o,<- HBL.o,xt]) HSO.o
    .
     rcases id Rt.o with⟨Dt,hbn⟩|⟨g1,off1,cur1,hs1,ho1,hg1,hl1,hl2,hl3,hl4⟩
     . exact absurd hbn HG0.o
     .
      try simp only at hs1
      subst hs1;have HSO:Hid (SOf W8 O7 (.got i m) (some ⟨g1,off1+CT,none⟩,ca-CT) (g.drop (j3 g))):=SOf.drop Rt.o rfl HCU.o _ (.inl (by rw[HCT.o]));have hBc:BL<=ca:=by have:g.length<=ca:=hl1;rw[<- HBL.o]at this;exact this
      have hca2:ca<=9223372036854775807:=by unfold maxLen at hl2;exact hl2
      clear hg1 hl1 hl2 hl3 hl4 ho1;go_wp2_with fail;go_region
      all_goals go_wp2_with fail
      all_goals go_ret
      all_goals refine⟨rfl,?_⟩
      all_goals exact Ao.o (some ⟨g1,off1+CT,none⟩,ca-CT) _ (by unfold sl;rw[qy,<- HCT.o,<- HBL.o]) HSO.o
  .
   have h10:¬(10:UInt8)∈g:=fun h=>hz0 (hz.2 h);have HC2:=qH (show F3 d.M i n q p=d.M by rw[HC0.o,qB (by simp;intro _;exact h10),qB HNH.o];exact ar2 HP.o);clear HC0 h10 hz;go_wp2_with fail;go_region
   all_goals go_wp2_with fail
   all_goals go_ret
   all_goals (rw[HC2.o];exact⟨rfl,⟨O,d,RMem.below HR3.o ((Below.refl _ w4).drew),rfl⟩,Ij.o.drew⟩)
end Go.Proofs.YtmejdflmcikkdaaGreatDoor
