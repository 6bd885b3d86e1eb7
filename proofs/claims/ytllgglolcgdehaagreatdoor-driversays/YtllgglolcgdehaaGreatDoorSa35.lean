/- What the developers' came does: who passes whole lines on. -/
import Derived.Test.YtllgglolcgdehaaGreatDoorSAb
import Derived.Test.YtllgglolcgdehaaGreatDoorSa33
set_option linter.all false
set_option maxRecDepth 100000
set_option maxHeartbeats 16000000
namespace Go.Proofs.YtllgglolcgdehaaGreatDoor
open Go.RowKit Go.Gs Go.Maps Tryz
variable {G:World->(Nat->Option Own)->Prop}
theorem bW6(D r:Nat)(O:Nat->Option Own)(d:RD)(i q m:Nat)(n:SNode)(p:SProc)(x:SPipe)(g:List UInt8)(w:World)(h:RunM G w D r O d)(hS:Shape d.M)(hn:d.M.ns[i]? = some n)(hp:d.M.ps[i]? = some p)(hm:p.pos=(m:Int))(hgm:p.got[m]? = some g)(hg0:g≠[])(hq:q=b7 d.M.ns i+m)(hx:d.M.pipes[q]? = some x)(Ad:S0 n)(hT:p.got.flatten.length<=241200)(hsm:∀b∈p.out,b.length<=90000000)(hsk:d.M.sunk.length<=90000000)(hE:∀W,Below D w W->D6 W)(hk5:n.kind≠5)(hps:passes n=true):
 Calls prog 170 #[.pointer (some ⟨r,0,none⟩),.int .i64 i] w fun e w'=>e=.returned (.int .i64 0)/\l9 G w' D r (I7 d.M i n q p)/\Below D w w':=by
 have hF:=hS.proc i n p hn hp;have hch:=hS.g.node n (mGt hn);have hat:p.at=g:=by unfold SProc.at;rw[hm,qq,hgm];rfl
 have hml:m<p.got.length:=(gSm hgm).1;obtain⟨gP,cP,s,hvP,Dn,En,hgP,hOP,hs,p0,p1,p2,p3,p4,hfP,hGo,hOo,hgl,hol⟩:=h.procAt hp;obtain⟨gG,cG,a,hgv,Je,Vo,hgG,hOG,ha,hSa,g0,hfG⟩:=RMem.gotAt h hp hs hgm;have hil:i<d.M.ps.length:=(gSm hp).1;obtain⟨b0,b1,b2,b3,b4,b5,b6⟩:=K6 h.box.1;obtain⟨hRN,hRF⟩:=h.nodes;obtain⟨an,cn,hvN,Jd,Dq⟩:=hRN.shape;rw[hvN]at hRN b0;rw[hvP]at b3;rw[hgv]at p0;rw[hm]at p1;obtain⟨nb,noff,ai,ci,rfl,hNA,HPo⟩:=hRN.at hn;obtain⟨c0,c1,c2,c3,c4,c5,c6,c7⟩:=hNA;have hin:i<d.M.ns.length:=(gSm hn).1;have Nq:cn<=9223372036854775807:=by unfold maxLen at Dq;exact Dq
 have Ie:=F6 hSa.reads;have HH:=qH h;have HS:=qH hS;have HN:=qH hn;have HP:=qH hp;have HSl:=qH hs;have HX:=qH hx;have HGM:=qH hgm;have HA:=qH ha;have HSA:=qH hSa;have HGV:=qH hgv;have HVP:=qH hvP;have HOG:=qH hOG;have HOP:=qH hOP;have HAT:=qH hat;have HM:=qH hm;have HG0:=qH hg0;have HCH:=qH hch;have Hh:=qH Ad;have HSM:=qH hsm;have HSK:=qH hsk;have HE:=qH hE;have HT:=qH hT;have HQ:=qH hq;have HF:=qH hF;obtain⟨NP,hNP⟩:=qE d.M.ps.length;obtain⟨NN,hNN⟩:=qE d.M.ns.length;obtain⟨GL,hGL⟩:=qE p.got.length;obtain⟨BL,hBL⟩:=qE g.length;have HBL:=qH hBL;have HGL:=qH hGL;obtain⟨NK,hNK⟩:=qE n.kind;obtain⟨CK,hCK⟩:=qE n.c.kind;obtain⟨CN,hCN⟩:=qE n.c.n;have HNK:=qH hNK;have HCK:=qH hCK;have HCN:=qH hCN;rw[<- hNP]at b3 hil Dn;rw[<- hNN]at b0 Jd hin;rw[<- hGL]at p0 Je hml;unfold sl at g0;obtain⟨aa,ca⟩:=a;simp only at g0 Ie;rw[<- hBL]at g0 Ie;rw[<- hNK]at c0;rw[<- hCK]at c2
 rw[<- hCN]at c4;obtain⟨fx,hfx⟩:=qE ((⟨n.file.toArray⟩:ByteArray));obtain⟨wx0,hwx⟩:=qE ((⟨n.c.word.toArray⟩:ByteArray));obtain⟨hw,hhw⟩:=qE n.how;obtain⟨wd,hwd⟩:=qE n.wide;obtain⟨IL,hIL⟩:=qE n.ins.length;have HV:Hid (fx=(⟨n.file.toArray⟩:ByteArray)/\wx0=(⟨n.c.word.toArray⟩:ByteArray)/\hw=n.how/\wd=n.wide/\IL=n.ins.length):=⟨hfx,hwx,hhw,hwd,hIL⟩;rw[<- hfx]at c1;rw[<- hwx]at c3;rw[<- hhw]at c5;rw[<- hwd]at c6;rw[<- hIL]at c7;clear h hS hn hp hs hx hgm ha hSa hgv hvP hOG hOP hat hm hg0 hch Ad hsm hsk hE hT hq hF hNP hNN hGL hBL hNK hCK hCN hfx hwx hhw hwd hIL hRN hRF hvN HPo hGo hOo hgl hol Dq b1 b2 b4 b5 b6 p2 p3 p4 hfP;have fb0:=fun o=>((boxE (w:=w) (o:=o)).cell (bLt w _ b0)).trans b0;have fb3:=fun o=>((boxE (w:=w) (o:=o)).cell (bLt w _ b3)).trans b3;have fc0:=fun o=>((boxE (w:=w) (o:=o)).cell (bLt w _ c0)).trans c0
 have fc1:=fun o=>((boxE (w:=w) (o:=o)).cell (bLt w _ c1)).trans c1;have fc2:=fun o=>((boxE (w:=w) (o:=o)).cell (bLt w _ c2)).trans c2;have fc3:=fun o=>((boxE (w:=w) (o:=o)).cell (bLt w _ c3)).trans c3;have fc4:=fun o=>((boxE (w:=w) (o:=o)).cell (bLt w _ c4)).trans c4;have fc5:=fun o=>((boxE (w:=w) (o:=o)).cell (bLt w _ c5)).trans c5;have fc6:=fun o=>((boxE (w:=w) (o:=o)).cell (bLt w _ c6)).trans c6;have fc7:=fun o=>((boxE (w:=w) (o:=o)).cell (bLt w _ c7)).trans c7;have hrl:r<w.heap.size:=bLt w _ b0;have hnbl:nb<w.heap.size:=bLt w _ c0;go_enter Tryz.func170,Tryz.ntmps170;go_upto_region 1 with fail;go_region
 obtain⟨W1,hW1⟩:=qE ((w.alloc (.cells #[.int .i64 NK,.string fx,.int .i64 CK,.string wx0,.int .i64 CN,.int .i64 hw,.int .i64 wd,.slice ai IL ci] 73)).drew);have hb1:Bq w W1:=by rw[hW1];exact boxE.drew
 have hbx:W1.heap[w.heap.size]? = some (.cells #[.int .i64 NK,.string fx,.int .i64 CK,.string wx0,.int .i64 CN,.int .i64 hw,.int .i64 wd,.slice ai IL ci] 73 (0,0)):=by rw[hW1];exact qN _ _
 have p0':=qC hb1 p0;have p1':=qC hb1 p1;have g0':=qC hb1 g0;rw[<- hW1];clear hW1 fb0 fb3 fc0 fc1 fc2 fc3 fc4 fc5 fc6 fc7 b0 b3 c0 c1 c2 c3 c4 c5 c6 c7 p0 p1 g0;go_wp2_with fail;go_quiet (fail);have hb2:Bq w (W1.drewN nq):=hb1.trans ag7;have Ec:(W1.drewN nq).heap[w.heap.size]? = some (.cells #[.int .i64 NK,.string fx,.int .i64 CK,.string wx0,.int .i64 CN,.int .i64 hw,.int .i64 wd,.slice ai IL ci] 73 (0,0)):=hbx;have HB2:=qH hb2;have Eb:Hid _:=Ec;clear hbx hb1 hb2 p0' p1' g0';generalize (W1.drewN nq)=W2 at *;obtain⟨c0,c1,c2,c3,c4,c5,c6,c7⟩:=R9 Ec;clear Ec;have hR2:=RMem.below HH.out HB2.out;have HR2:=qH hR2;have Md:Hid (SOf W2 O (.got i m) (aa,ca) g):=hR2.part (.got i m) p s g (aa,ca) HP.out HSl.out HGM.out HA.out;have Nu:Hid (Below D w W2):=HB2.out.mono HH.out.le;clear hR2;have h5:¬NK=5:=fun e=>hk5 (HNK.out.symm.trans e);clear hk5
 have hPS:=aR6 n ai n.ins.length ci W2;unfold C6 at hPS;rw[<- HNK.out,<- HCK.out,<- HCN.out,<- HV.out.1,<- HV.out.2.1,<- HV.out.2.2.1,<- HV.out.2.2.2.1,<- HV.out.2.2.2.2]at hPS;have HPS:Hid _:=hPS;have h5':n.kind≠5:=by rw[<- HNK.out];exact h5
 have HC0:=qH (show I7 d.M i n q p=if passes n && g.contains 10 then d.M.setP i ((p.setOut 0 ((p.out[0]?).getD []++through n (g.take (l8 g)))).setGot (g.drop (l8 g))) else if n.kind=3/\n.c.kind=9/\n.c.n<=(g.count 10:Int) then (d.M.setX q ⟨[],(d.M.pipe q).room,(d.M.pipe q).closed,true⟩).setP i (C3 n d.M.fs p) else d.M.setP i p by unfold I7;rw[qA h5',HAT.out]);clear hPS h5';go_wp2_with fail;refine qD HPS.out ?_;rintro e w3⟨rfl,hb3,hx3⟩;have HB3:=qH hb3;have HX3:Hid _:=hx3;have hR3:=RMem.below HR2.out hb3;have HR3:=qH hR3;have Nv:Hid (SOf w3 O (.got i m) (aa,ca) g):=hR3.part (.got i m) p s g (aa,ca) HP.out HSl.out HGM.out HA.out;have Hi:Hid (Below D w w3):=Nu.out.trans (hb3.mono HR2.out.le);have Ig:=qK hb3 Eb.out;clear c0 c1 c2 c3 c4 c5 c6 c7;obtain⟨c0,c1,c2,c3,c4,c5,c6,c7⟩:=R9 Ig;clear hb3 hx3 hR3 Ig HPS Eb;have hfn:=cg9
 have HIF:=bj6 aa ca g w3 Nv.out.reads HG0.out;rw[<- HBL.out]at HIF;have HIF2:Hid _:=HIF;clear HIF;have HPO1:Hid (nouts n=1):=aH3 hps;have Ug:p.out.length=1:=by have:=HF.out.olen;have:=HPO1.out;omega
 obtain⟨ob,hob⟩:∃b,p.out[0]? = some b:=⟨_,gEl (by omega)⟩;have HOB:=qH hob;have HOL1:=qH Ug
 have HCU:Hid (l8 g<=g.length):=(show l8 g<=g.length by
  unfold l8
  have:=(List.dropWhile_suffix (fun c=>c != 10) (l:=g.reverse)).length_le
  simpa using this)
 have HRT:Hid (∀W,Bq w3 W->Reads W (.slice aa (g.take (l8 g)).length ca) (g.take (l8 g)).length ((g.take (l8 g)).map U)):=(show ∀W,Bq w3 W->Reads W (.slice aa (g.take (l8 g)).length ca) (g.take (l8 g)).length ((g.take (l8 g)).map U) from fun W hW=>bG4 (Nv.out.reads.below hW) HCU.out);have HCL:=qH (show (g.take (l8 g)).length=l8 g by rw[qL];have:=HCU.out;omega);clear Ug hob;rcases aa4 hps with⟨k4,k1⟩|⟨k3,k5⟩;have e4:NK=4:=HNK.out.trans k4;have hV:aI1 n W2.heap.size=.func (.func 267) #[] #[]:=by unfold aI1;rw[qF ⟨k4,k1⟩]
 have eg:∀args w,(callFunc 267 args).run prog w=.ok (.enter 267 args) w:=enters_of Tryz.func267 (by kernel_rfl) rfl;have HTT:=qH (show through n (g.take (l8 g))=g.take (l8 g) by unfold through;rw[qF k4]);have HNH:=qH (show ¬(n.kind=3/\n.c.kind=9/\n.c.n<=(g.count 10:Int)) from fun h=>by omega);rw[hV];clear hV k4 k1;subst e4
 have HTH:Hid (∀W,Bq w3 W->Calls prog 267 #[.slice aa (l8 g) ca] W fun e w'=>∃au cu,e=.returned (.tuple #[.slice au (through n (g.take (l8 g))).length cu,.int .i64 0])/\Reads w' (.slice au (through n (g.take (l8 g))).length cu) (through n (g.take (l8 g))).length ((through n (g.take (l8 g))).map U)/\Bq W w'):=(show ∀W,Bq w3 W->Calls prog 267 #[.slice aa (l8 g) ca] W fun e w'=>∃au cu,e=.returned (.tuple #[.slice au (through n (g.take (l8 g))).length cu,.int .i64 0])/\Reads w' (.slice au (through n (g.take (l8 g))).length cu) (through n (g.take (l8 g))).length ((through n (g.take (l8 g))).map U)/\Bq W w' from fun W hW=>by
  rw[HTT.out,HCL.out]
  refine (cg7 _ W).mono ?_
  rintro e w'⟨rfl,hb⟩
  have:=(HRT.out W hW).below hb
  rw[HCL.out]at this
  exact⟨aa,ca,rfl,this,hb⟩)
 have HTL:=qH (show (through n (g.take (l8 g))).length<=300000 by rw[HTT.out,HCL.out];have:=HCU.out;have h2:=J4 (mGt HGM.out);have:=HT.out;omega);rotate_left
 have e4:NK=3:=HNK.out.trans k3;have hV:aI1 n W2.heap.size=.func (.func 268) #[] #[.pointer (some ⟨W2.heap.size,0,none⟩)]:=by unfold aI1;rw[qA (by omega),qF ⟨k3,k5⟩]
 have eg:∀args w,(callFunc 268 args).run prog w=.ok (.enter 268 args) w:=enters_of Tryz.func268 (by kernel_rfl) rfl;have HTT:=qH (show through n (g.take (l8 g))=ended (made n.c (lines (g.take (l8 g)))) by unfold through;rw[qA (by omega)]);have h9:¬CK=9:=by rw[HCK.out];have:=qc k5;omega
 have HNH:=qH (show ¬(n.kind=3/\n.c.kind=9/\n.c.n<=(g.count 10:Int)) from fun h=>h9 (HCK.out.trans h.2.1));have e9:(CK==9)=false:=by simpa using h9
 have e9':decide (CK=9)=false:=by simpa using h9
 rw[hV]
 have HTH:Hid (∀W,Bq w3 W->Calls prog 268 #[.slice aa (l8 g) ca,.pointer (some ⟨W2.heap.size,0,none⟩)] W fun e w'=>∃au cu,e=.returned (.tuple #[.slice au (through n (g.take (l8 g))).length cu,.int .i64 0])/\Reads w' (.slice au (through n (g.take (l8 g))).length cu) (through n (g.take (l8 g))).length ((through n (g.take (l8 g))).map U)/\Bq W w'):=(show ∀W,Bq w3 W->Calls prog 268 #[.slice aa (l8 g) ca,.pointer (some ⟨W2.heap.size,0,none⟩)] W fun e w'=>∃au cu,e=.returned (.tuple #[.slice au (through n (g.take (l8 g))).length cu,.int .i64 0])/\Reads w' (.slice au (through n (g.take (l8 g))).length cu) (through n (g.take (l8 g))).length ((through n (g.take (l8 g))).map U)/\Bq W w' from fun W hW=>by
  rw[HTT.out]
  have hbxW:=qK hW HX3.out
  rw[HNK.out,HCK.out,HCN.out,HV.out.1,HV.out.2.1,HV.out.2.2.1,HV.out.2.2.2.1,HV.out.2.2.2.2]at hbxW
  have:=cg8 n ai aa ci ca W2.heap.size (g.take (l8 g)) W HCH.out k3 Hh.out hbxW (HRT.out W hW) (by rw[HCL.out];have:=HCU.out;have h2:=J4 (mGt HGM.out);have:=HT.out;omega) (HE.out W (Hi.out.trans (hW.mono HR3.out.le)))
  rw[HCL.out]at this
  exact this)
 have HTL:=qH (show (through n (g.take (l8 g))).length<=300000 by
  rw[HTT.out]
  have q1:=ag9 n.c (bq9 HCH.out k3) (lines (g.take (l8 g))) (by have:=D9 (g.take (l8 g));rw[HCL.out]at this;have:=HCU.out;have h2:=J4 (mGt HGM.out);have:=HT.out;omega)
  have q2:=C0 (g.take (l8 g))
  rw[HCL.out]at q2
  have:=HCU.out;have h2:=J4 (mGt HGM.out);have:=HT.out;omega)
 clear hV k3 k5 h9;subst e4;rotate_left
 all_goals
  generalize hTG:through n (g.take (l8 g))=TG at *;have HPSS:=qH hps;clear hps HTT hTG;go_wp2_with fail;refine qD HIF2.out ?_;rintro e w4⟨z,rfl,hz,rfl⟩;by_cases hz0:0<=z
  .
   have h10:(10:UInt8)∈g:=hz.1 hz0;have HC2:=qH (show I7 d.M i n q p=d.M.setP i ((p.setOut 0 (ob++TG)).setGot (g.drop (l8 g))) by rw[HC0.out,qF (by rw[HPSS.out];simpa using h10),HOB.out];rfl);have hLF:=bt8 aa ca g w4 Nv.out.reads h10;rw[<- HBL.out]at hLF;have HLF:Hid _:=hLF;have hcp:1<=l8 g:=by
    by_cases h0:l8 g=0
    . have h1:=aQ0 g;rw[h0,List.drop_zero]at h1;exact absurd h10 h1
    . omega
   obtain⟨CT,hCT⟩:=qE (l8 g);have HCT:=qH hCT;have hct2:CT<=BL:=by rw[hCT,HBL.out];exact HCU.out
   rw[<- hCT]at HLF HTH hcp;obtain⟨TL,hTL⟩:=qE TG.length;have HTLe:=qH hTL;rw[<- hTL]at HTH;clear HC0 h10 hz hLF hCT hTL;go_wp2_with fail;refine qD HLF.out ?_;rintro e w5⟨rfl,hb5⟩;have HB5:=qH hb5;clear hb5 HLF;have hct3:IntKind.i64.wrap ((CT:Int)-1+1)=(CT:Int):=by rw[zZ];omega
   have hct4:(CT:Int)-1+1=(CT:Int):=by omega
   go_wp2_with fail;refine qD (HTH.out w5 HB5.out) ?_;rintro e w6⟨au,cu,rfl,Jt,hb6⟩;have hB6:Bq w4 w6:=HB5.out.trans (hb6.mono HB5.out.size);have hR6:=RMem.below HR3.out hB6;have Qd:=RMem.below hR6 ((qI _ w6).drew);obtain⟨gP6,cP6,s6,hvP6,_,_,_,Vq,hs6,q0,q1,q2,_⟩:=RMem.procAt hR6 HP.out;rw[HVP.out]at hvP6;injection hvP6 with e1 e2 e3;injection e1 with e1;injection e1 with e1;subst e1;rw[HSl.out]at hs6;injection hs6 with hs6;subst hs6;obtain⟨gO,cO,a6,Vr,hcO1,hcO2,hgO,hOO,ha6,hSa6,u0,hfO⟩:=RMem.outAt Qd HP.out HSl.out HOB.out;rw[Vr]at q2;have Ri:Reads w6.drew (.slice au TG.length cu) TG.length (TG.map U):=by have:=Jt.below ((qI _ w6).drew);rw[HTLe.out]at this;exact this
   obtain⟨s7,w7,O7,Aj,hR7,Nw,Hj,Fh⟩:=RMem.appendOut Qd HP.out HSl.out HOB.out ha6 Ri (by have:=HSM.out ob (mGt HOB.out);have:=HTL.out;omega) 28;have Vs:O7 gO=some (.outs i):=(Fh gO hgO).trans hOO;have Do:=RMem.setOut hR7 HP.out HSl.out HOB.out Vr Vs Nw;have Ns:gP<w6.heap.size:=(hR6.lo _ _ Vq).2;have Gl:=Hj.block gP Ns (by rw[Vq];exact fun e=>by cases e);have Nx:=Hj.block gO hgO (by rw[hOO];exact fun e=>by cases e);have q2':w7.cell? ⟨gP,i*5+2,none⟩=some (.slice (some ⟨gO,0,none⟩) p.out.length cO):=by simp only[World.cell?]at q2 ⊢;rw[Gl];exact q2
   have u0':w7.cell? ⟨gO,0,none⟩=some (sl ob a6):=by simp only[World.cell?]at u0 ⊢;rw[Nx];exact u0
   have hfO':w7.frozen? ⟨gO,0,none⟩=false:=by have h2:=hfO 0;simp only[World.frozen?]at h2 ⊢;rw[Nx];exact h2
   obtain⟨W8,hW8⟩:=qE (w7.setCell ⟨gO,0,none⟩ (sl (ob++TG) s7));rw[<- hW8]at Do;have Kq:Below D w W8:=by rw[hW8];exact ((Hi.out.trans (hB6.mono HR3.out.le)).trans (((qI D w6).drew).trans (Hj.below Qd))).setCell (hR7.lo _ _ Vs).1 _
   have hp8:(d.setProc i (p.setOut 0 (ob++TG)) (s.outSet 0 s7)).M.ps[i]? = some (p.setOut 0 (ob++TG)):=x9 HP.out;have hs8:(d.setProc i (p.setOut 0 (ob++TG)) (s.outSet 0 s7)).P[i]? = some (s.outSet 0 s7):=x9 HSl.out;obtain⟨gP8,cP8,s8,hvP8,_,_,_,hOP8,Qe,r0,r1,_⟩:=RMem.procAt Do hp8;rw[show (d.setProc i (p.setOut 0 (ob++TG)) (s.outSet 0 s7)).vP=d.vP from rfl,HVP.out]at hvP8;injection hvP8 with e4 e5 e6;injection e4 with e4;injection e4 with e4;subst e4;rw[hs8]at Qe;injection Qe with Qe;subst Qe;obtain⟨gG8,cG8,a8,hgv8,_,_,hgG8,Vt,ha8,hSa8,v0,hfG8⟩:=RMem.gotAt Do hp8 hs8 HGM.out;rw[show (s.outSet 0 s7).gv=s.gv from rfl,HGV.out]at hgv8 r0;injection hgv8 with e7 e8 e9x;injection e7 with e7;injection e7 with e7;subst e7;rw[show (s.outSet 0 s7).gs=s.gs from rfl,HA.out]at ha8;injection ha8 with ha8;subst ha8
   have Ci:∀(s9:Sl)(v:Value),v=sl (g.drop (l8 g)) s9->SOf W8 O7 (.got i m) s9 (g.drop (l8 g))->l9 G (W8.setCell ⟨gG,m,none⟩ v).drew D r (I7 d.M i n q p)/\Below D w (W8.setCell ⟨gG,m,none⟩ v).drew:=by intro s9 v hv hs9;subst hv;have k1:=RMem.setGot Do hp8 hs8 HGM.out HGV.out Vt hs9;refine⟨l9.drew ⟨O7,(d.setProc i (p.setOut 0 (ob++TG)) (s.outSet 0 s7)).setProc i (SProc.gotSet (p.setOut 0 (ob++TG)) m (g.drop (l8 g))) ((s.outSet 0 s7).gotSet m s9),k1,?_⟩,(Kq.setCell (Do.lo _ _ Vt).1 _).drew⟩;rw[HC2.out];unfold RD.setProc SMach.setP SProc.gotSet SProc.setGot SProc.setOut;simp only[ze];rw[HM.out,qq]
   have Ao:Hid _:=Ci;have Ar:Hid _:=Aj;have Qf:Hid _:=hSa8;have hfg8:=hfG8 m;rw[show (p.setOut 0 (ob++TG)).pos=(m:Int) from HM.out]at r1;rw[<- HGL.out]at r0;rw[HOL1.out]at q2 q2';obtain⟨a6a,a6c⟩:=a6;obtain⟨s7a,s7c⟩:=s7;have u0d:w6.cell? ⟨gO,0,none⟩=some (sl ob (a6a,a6c)):=u0;have Ux:=F6 hSa6.reads;unfold sl at u0d u0' Ar hW8 v0;simp only at u0d u0' Ar hW8 v0 Ux;rw[<- HTLe.out]at Ar;rw[<- HBL.out]at v0;have hcO1':1<=cO:=by have:=HOL1.out;omega
   generalize ob.length=OBL at *;generalize (ob++TG).length=OTL at *;clear Ci Do hp8 hs8 Vt hOP8 hSa8 hfG8 hR7 Nw Hj Fh Aj Vs hR6 Qd hOO ha6 hSa6 u0 hfO Jt Ri hb6 hB6 Gl Nx Kq e2 e3 e5 e6 e8 e9x q0 q1 Vr Vq hcO1;have HW8:Hid _:=hW8;clear hW8 eg hfn hct3 hct4;go_wp2_with fail;go_region_law (refine ad4 rfl (.tmp 93) (.tmp 94) 28 rfl (.slice a6a OBL a6c) (.slice au TL cu) (by simp[Act.eval]) (by simp[Act.eval]) Ar.out ?_)
   all_goals
    rw[<- HW8.out];clear HW8;by_cases hce:ca=CT
    .
     rcases id Qf.out with⟨Dh,hbn⟩|⟨g1,off1,cur1,hs1,ho1,hg1,hl1,hl2,hl3,hl4⟩
     . exact absurd hbn HG0.out
     .
      try simp only at hs1
      subst hs1;have HSO:Hid (SOf W8 O7 (.got i m) (some ⟨g1,off1,none⟩,0) (g.drop (l8 g))):=SOf.drop Qf.out rfl HCU.out _ (.inr ⟨rfl,by rw[<- HCT.out,hce]⟩);have hBe:BL=ca:=by have:g.length<=ca:=hl1;rw[<- HBL.out]at this;omega
      clear hg1 hl1 hl2 hl3 hl4 ho1;subst hce;subst hBe;go_wp2_with fail;go_region
      all_goals go_wp2_with fail
      all_goals go_ret
      all_goals refine⟨rfl,?_⟩
      all_goals exact Ao.out (some ⟨g1,off1,none⟩,0) _ (by unfold sl;rw[qo,<- HCT.out,<- HBL.out,zE]) HSO.out
    .
     rcases id Qf.out with⟨Dh,hbn⟩|⟨g1,off1,cur1,hs1,ho1,hg1,hl1,hl2,hl3,hl4⟩
     . exact absurd hbn HG0.out
     .
      try simp only at hs1
      subst hs1;have HSO:Hid (SOf W8 O7 (.got i m) (some ⟨g1,off1+CT,none⟩,ca-CT) (g.drop (l8 g))):=SOf.drop Qf.out rfl HCU.out _ (.inl (by rw[HCT.out]));have hBc:BL<=ca:=by have:g.length<=ca:=hl1;rw[<- HBL.out]at this;exact this
      have hca2:ca<=9223372036854775807:=by unfold maxLen at hl2;exact hl2
      clear hg1 hl1 hl2 hl3 hl4 ho1;go_wp2_with fail;go_region
      all_goals go_wp2_with fail
      all_goals go_ret
      all_goals refine⟨rfl,?_⟩
      all_goals exact Ao.out (some ⟨g1,off1+CT,none⟩,ca-CT) _ (by unfold sl;rw[qo,<- HCT.out,<- HBL.out]) HSO.out
  .
   have h10:¬(10:UInt8)∈g:=fun h=>hz0 (hz.2 h);have HC2:=qH (show I7 d.M i n q p=d.M by rw[HC0.out,qA (by simp;intro _;exact h10),qA HNH.out];exact ar6 HP.out);clear HC0 h10 hz;go_wp2_with fail;go_region
   all_goals go_wp2_with fail
   all_goals go_ret
   all_goals (rw[HC2.out];exact⟨rfl,⟨O,d,RMem.below HR3.out ((qI _ w4).drew),rfl⟩,Hi.out.drew⟩)
end Go.Proofs.YtllgglolcgdehaaGreatDoor
