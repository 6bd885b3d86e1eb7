/- What the developers' came does: who must wait. -/
import Derived.Test.YtllgglolcgdehaaGreatDoorSAb
import Derived.Test.YtllgglolcgdehaaGreatDoorSa33
set_option linter.all false
set_option maxRecDepth 100000
set_option maxHeartbeats 16000000
namespace Go.Proofs.YtllgglolcgdehaaGreatDoor
open Go.RowKit Go.Gs Go.Maps Tryz
variable {G:World->(Nat->Option Own)->Prop}
theorem bW5(D r:Nat)(O:Nat->Option Own)(d:RD)(i q m:Nat)(n:SNode)(p:SProc)(x:SPipe)(g:List UInt8)(w:World)(h:RunM G w D r O d)(hS:Shape d.M)(hn:d.M.ns[i]? = some n)(hp:d.M.ps[i]? = some p)(hm:p.pos=(m:Int))(hgm:p.got[m]? = some g)(hg0:g≠[])(hq:q=b7 d.M.ns i+m)(hx:d.M.pipes[q]? = some x)(Ad:S0 n)(hT:p.got.flatten.length<=241200)(hsm:∀b∈p.out,b.length<=90000000)(hsk:d.M.sunk.length<=90000000)(hE:∀W,Below D w W->D6 W)(hk5:n.kind≠5)(hps:passes n=false):
 Calls prog 170 #[.pointer (some ⟨r,0,none⟩),.int .i64 i] w fun e w'=>e=.returned (.int .i64 0)/\l9 G w' D r (I7 d.M i n q p)/\Below D w w':=by
 have hF:=hS.proc i n p hn hp;have hch:=hS.g.node n (mGt hn);have hat:p.at=g:=by unfold SProc.at;rw[hm,qq,hgm];rfl
 have hml:m<p.got.length:=(gSm hgm).1;obtain⟨gP,cP,s,hvP,Dn,En,hgP,hOP,hs,p0,p1,p2,p3,p4,hfP,hGo,hOo,hgl,hol⟩:=h.procAt hp;obtain⟨gG,cG,a,hgv,Je,Vo,hgG,hOG,ha,hSa,g0,hfG⟩:=RMem.gotAt h hp hs hgm;have hil:i<d.M.ps.length:=(gSm hp).1;obtain⟨b0,b1,b2,b3,b4,b5,b6⟩:=K6 h.box.1;obtain⟨hRN,hRF⟩:=h.nodes;obtain⟨an,cn,hvN,Jd,Dq⟩:=hRN.shape;rw[hvN]at hRN b0;rw[hvP]at b3;rw[hgv]at p0;rw[hm]at p1;obtain⟨nb,noff,ai,ci,rfl,hNA,HPo⟩:=hRN.at hn;obtain⟨c0,c1,c2,c3,c4,c5,c6,c7⟩:=hNA;have hin:i<d.M.ns.length:=(gSm hn).1;have Nq:cn<=9223372036854775807:=by unfold maxLen at Dq;exact Dq
 have Ie:=F6 hSa.reads;have HH:=qH h;have HS:=qH hS;have HN:=qH hn;have HP:=qH hp;have HSl:=qH hs;have HX:=qH hx;have HGM:=qH hgm;have HA:=qH ha;have HSA:=qH hSa;have HGV:=qH hgv;have HVP:=qH hvP;have HOG:=qH hOG;have HOP:=qH hOP;have HAT:=qH hat;have HM:=qH hm;have HG0:=qH hg0;have HCH:=qH hch;have Hh:=qH Ad;have HSM:=qH hsm;have HSK:=qH hsk;have HE:=qH hE;have HT:=qH hT;have HQ:=qH hq;have HF:=qH hF;obtain⟨NP,hNP⟩:=qE d.M.ps.length;obtain⟨NN,hNN⟩:=qE d.M.ns.length;obtain⟨GL,hGL⟩:=qE p.got.length;obtain⟨BL,hBL⟩:=qE g.length;have HBL:=qH hBL;have HGL:=qH hGL;obtain⟨NK,hNK⟩:=qE n.kind;obtain⟨CK,hCK⟩:=qE n.c.kind;obtain⟨CN,hCN⟩:=qE n.c.n;have HNK:=qH hNK;have HCK:=qH hCK;have HCN:=qH hCN;rw[<- hNP]at b3 hil Dn;rw[<- hNN]at b0 Jd hin;rw[<- hGL]at p0 Je hml;unfold sl at g0;obtain⟨aa,ca⟩:=a;simp only at g0 Ie;rw[<- hBL]at g0 Ie;rw[<- hNK]at c0;rw[<- hCK]at c2
 rw[<- hCN]at c4;obtain⟨fx,hfx⟩:=qE ((⟨n.file.toArray⟩:ByteArray));obtain⟨wx0,hwx⟩:=qE ((⟨n.c.word.toArray⟩:ByteArray));obtain⟨hw,hhw⟩:=qE n.how;obtain⟨wd,hwd⟩:=qE n.wide;obtain⟨IL,hIL⟩:=qE n.ins.length;have HV:Hid (fx=(⟨n.file.toArray⟩:ByteArray)/\wx0=(⟨n.c.word.toArray⟩:ByteArray)/\hw=n.how/\wd=n.wide/\IL=n.ins.length):=⟨hfx,hwx,hhw,hwd,hIL⟩;rw[<- hfx]at c1;rw[<- hwx]at c3;rw[<- hhw]at c5;rw[<- hwd]at c6;rw[<- hIL]at c7;clear h hS hn hp hs hx hgm ha hSa hgv hvP hOG hOP hat hm hg0 hch Ad hsm hsk hE hT hq hF hNP hNN hGL hBL hNK hCK hCN hfx hwx hhw hwd hIL hRN hRF hvN HPo hGo hOo hgl hol Dq b1 b2 b4 b5 b6 p2 p3 p4 hfP;have fb0:=fun o=>((boxE (w:=w) (o:=o)).cell (bLt w _ b0)).trans b0;have fb3:=fun o=>((boxE (w:=w) (o:=o)).cell (bLt w _ b3)).trans b3;have fc0:=fun o=>((boxE (w:=w) (o:=o)).cell (bLt w _ c0)).trans c0
 have fc1:=fun o=>((boxE (w:=w) (o:=o)).cell (bLt w _ c1)).trans c1;have fc2:=fun o=>((boxE (w:=w) (o:=o)).cell (bLt w _ c2)).trans c2;have fc3:=fun o=>((boxE (w:=w) (o:=o)).cell (bLt w _ c3)).trans c3;have fc4:=fun o=>((boxE (w:=w) (o:=o)).cell (bLt w _ c4)).trans c4;have fc5:=fun o=>((boxE (w:=w) (o:=o)).cell (bLt w _ c5)).trans c5;have fc6:=fun o=>((boxE (w:=w) (o:=o)).cell (bLt w _ c6)).trans c6;have fc7:=fun o=>((boxE (w:=w) (o:=o)).cell (bLt w _ c7)).trans c7;have hrl:r<w.heap.size:=bLt w _ b0;have hnbl:nb<w.heap.size:=bLt w _ c0;go_enter Tryz.func170,Tryz.ntmps170;go_upto_region 1 with fail;go_region
 obtain⟨W1,hW1⟩:=qE ((w.alloc (.cells #[.int .i64 NK,.string fx,.int .i64 CK,.string wx0,.int .i64 CN,.int .i64 hw,.int .i64 wd,.slice ai IL ci] 73)).drew);have hb1:Bq w W1:=by rw[hW1];exact boxE.drew
 have hbx:W1.heap[w.heap.size]? = some (.cells #[.int .i64 NK,.string fx,.int .i64 CK,.string wx0,.int .i64 CN,.int .i64 hw,.int .i64 wd,.slice ai IL ci] 73 (0,0)):=by rw[hW1];exact qN _ _
 have p0':=qC hb1 p0;have p1':=qC hb1 p1;have g0':=qC hb1 g0;rw[<- hW1];clear hW1 fb0 fb3 fc0 fc1 fc2 fc3 fc4 fc5 fc6 fc7 b0 b3 c0 c1 c2 c3 c4 c5 c6 c7 p0 p1 g0;go_wp2_with fail;go_quiet (fail);have hb2:Bq w (W1.drewN nq):=hb1.trans ag7;have Ec:(W1.drewN nq).heap[w.heap.size]? = some (.cells #[.int .i64 NK,.string fx,.int .i64 CK,.string wx0,.int .i64 CN,.int .i64 hw,.int .i64 wd,.slice ai IL ci] 73 (0,0)):=hbx;have HB2:=qH hb2;have Eb:Hid _:=Ec;clear hbx hb1 hb2 p0' p1' g0';generalize (W1.drewN nq)=W2 at *;obtain⟨c0,c1,c2,c3,c4,c5,c6,c7⟩:=R9 Ec;clear Ec;have hR2:=RMem.below HH.out HB2.out;have HR2:=qH hR2;have Md:Hid (SOf W2 O (.got i m) (aa,ca) g):=hR2.part (.got i m) p s g (aa,ca) HP.out HSl.out HGM.out HA.out;have Nu:Hid (Below D w W2):=HB2.out.mono HH.out.le;clear hR2;have h5:¬NK=5:=fun e=>hk5 (HNK.out.symm.trans e);clear hk5
 have hPS:=aR6 n ai n.ins.length ci W2;unfold C6 at hPS;rw[<- HNK.out,<- HCK.out,<- HCN.out,<- HV.out.1,<- HV.out.2.1,<- HV.out.2.2.1,<- HV.out.2.2.2.1,<- HV.out.2.2.2.2]at hPS;have HPS:Hid _:=hPS;have h5':n.kind≠5:=by rw[<- HNK.out];exact h5
 have HC0:=qH (show I7 d.M i n q p=if passes n && g.contains 10 then d.M.setP i ((p.setOut 0 ((p.out[0]?).getD []++through n (g.take (l8 g)))).setGot (g.drop (l8 g))) else if n.kind=3/\n.c.kind=9/\n.c.n<=(g.count 10:Int) then (d.M.setX q ⟨[],(d.M.pipe q).room,(d.M.pipe q).closed,true⟩).setP i (C3 n d.M.fs p) else d.M.setP i p by unfold I7;rw[qA h5',HAT.out]);clear hPS h5';go_wp2_with fail;refine qD HPS.out ?_;rintro e w3⟨rfl,hb3,hx3⟩;have HB3:=qH hb3;have HX3:Hid _:=hx3;have hR3:=RMem.below HR2.out hb3;have HR3:=qH hR3;have Nv:Hid (SOf w3 O (.got i m) (aa,ca) g):=hR3.part (.got i m) p s g (aa,ca) HP.out HSl.out HGM.out HA.out;have Hi:Hid (Below D w w3):=Nu.out.trans (hb3.mono HR2.out.le);have Ig:=qK hb3 Eb.out;clear c0 c1 c2 c3 c4 c5 c6 c7;obtain⟨c0,c1,c2,c3,c4,c5,c6,c7⟩:=R9 Ig;clear hb3 hx3 hR3 Ig HPS Eb;have hnn:=bv2
 have hV:aI1 n W2.heap.size=.nilFunc:=by unfold aI1;unfold passes at hps;simp only[Bool.or_eq_false_iff,Bool.and_eq_false_iff,decide_eq_false_iff_not]at hps;rw[qA (by rintro⟨q1,q2⟩;rcases hps.1 with h | h;exact h q1;exact h q2),qA (by rintro⟨q1,q2⟩;rcases hps.2 with h | h;exact h q1;(rw[q2]at h;cases h))]
 rw[hV];have HC1:=qH (show I7 d.M i n q p=if n.kind=3/\n.c.kind=9/\n.c.n<=(g.count 10:Int) then (d.M.setX q ⟨[],(d.M.pipe q).room,(d.M.pipe q).closed,true⟩).setP i (C3 n d.M.fs p) else d.M.setP i p by rw[HC0.out,hps];rfl);clear HC0 hV hps;by_cases hhd:NK=3/\CK=9
 .
  obtain⟨rfl,rfl⟩:=hhd
  have HCT:Hid (∀(W:World)(b2 o2 dd:Nat),Bq w3 W->W.cell? ⟨b2,o2,none⟩=some (.int .u8 10)->Calls prog 236 #[.slice aa BL ca,.slice (some ⟨b2,o2,none⟩) 1 dd] W fun e w'=>e=.returned (.int .i64 (g.count 10:Int))/\w'=W):=(show ∀(W:World)(b2 o2 dd:Nat),Bq w3 W->W.cell? ⟨b2,o2,none⟩=some (.int .u8 10)->Calls prog 236 #[.slice aa BL ca,.slice (some ⟨b2,o2,none⟩) 1 dd] W fun e w'=>e=.returned (.int .i64 (g.count 10:Int))/\w'=W from fun W b2 o2 dd hW hc=>by
   have:=bj7 aa ca b2 o2 dd g W (Nv.out.reads.below hW) HG0.out hc
   rw[<- HBL.out]at this
   exact this)
  have HEN:Hid (∀W,Bq w3 W->Calls prog 237 #[.pointer (some ⟨r,0,none⟩),.int .i64 i] W fun e w'=>e=.returned (.int .i64 0)/\l9 G w' D r ((d.M.setX q ⟨[],x.room,x.closed,true⟩).setP i (C3 n d.M.fs p))/\Below D W w'):=(show ∀W,Bq w3 W->Calls prog 237 #[.pointer (some ⟨r,0,none⟩),.int .i64 i] W fun e w'=>e=.returned (.int .i64 0)/\l9 G w' D r ((d.M.setX q ⟨[],x.room,x.closed,true⟩).setP i (C3 n d.M.fs p))/\Below D W w' from fun W hW=>
   bG3 D r O d i q n p x W (RMem.below HR3.out hW) HS.out HN.out HP.out (by rw[HM.out,qq];exact HQ.out) HX.out Hh.out HT.out (fun b hb=>qw (HSM.out b hb) (by omega)) (fun V hV=>HE.out V ((Hi.out.trans (hW.mono HR3.out.le)).trans hV)))
  have fc0:=fun o=>((boxE (w:=w3) (o:=o)).cell (bLt w3 _ c0)).trans c0;have fc2:=fun o=>((boxE (w:=w3) (o:=o)).cell (bLt w3 _ c2)).trans c2;have fc4:=fun o=>((boxE (w:=w3) (o:=o)).cell (bLt w3 _ c4)).trans c4;obtain⟨CT,hCT⟩:=qE (g.count 10:Nat);rw[<- hCT]at HCT;by_cases hct:CN<=(CT:Int)
  . have HC2:=qH (show I7 d.M i n q p=(d.M.setX q ⟨[],x.room,x.closed,true⟩).setP i (C3 n d.M.fs p) by rw[HC1.out,qF ⟨HNK.out.symm,HCK.out.symm,by rw[<- HCN.out,<- hCT];exact hct⟩,aQ6 HX.out]);clear HC1 hCT;go_wp2_with fail;go_region_with (go_at_call 236;refine qD (HCT.out _ _ _ _ (by first|exact boxE | exact boxE.drew | exact (((qI _ w3).drew).alloc (qB _) _)) (by first|(rw[qV _ _ _ _ _ _ (qN _ _)];rfl)|(go_simp;done))) ?_;rintro e w4⟨rfl,rfl⟩)
    all_goals
     go_wp2_with fail;refine qD (HEN.out _ (by first|exact boxE.drew | exact boxE | exact (((qI _ w3).drew).alloc (qB _) _))) ?_;rintro e w5⟨rfl,hr5,hb5⟩;have HX9:Hid _:=And.intro hr5 hb5;clear hr5 hb5;go_wp2_with fail;go_ret;exact⟨rfl,by rw[HC2.out];exact HX9.out.1,(Hi.out.trans (Below.mono (by first|exact boxE.drew | exact boxE | exact (((qI _ w3).drew).alloc (qB _) _)) HR3.out.le)).trans HX9.out.2⟩
  . have HC2:=qH (show I7 d.M i n q p=d.M by rw[HC1.out,qA (fun h=>hct (by rw[HCN.out,hCT];exact h.2.2))];exact ar6 HP.out);clear HC1 hCT HEN;go_wp2_with fail;go_region_with (go_at_call 236;refine qD (HCT.out _ _ _ _ (by first|exact boxE | exact boxE.drew | exact (((qI _ w3).drew).alloc (qB _) _)) (by first|(rw[qV _ _ _ _ _ _ (qN _ _)];rfl)|(go_simp;done))) ?_;rintro e w4⟨rfl,rfl⟩)
    all_goals
     go_wp2_with fail;go_ret;exact⟨rfl,by rw[HC2.out];exact⟨O,d,RMem.below HR3.out (by first|exact boxE.drew | exact boxE | exact (((qI _ w3).drew).alloc (qB _) _)),rfl⟩,Hi.out.trans (Below.mono (by first|exact boxE.drew | exact boxE | exact (((qI _ w3).drew).alloc (qB _) _)) HR3.out.le)⟩
 .
  have HC2:=qH (show I7 d.M i n q p=d.M by rw[HC1.out,qA (fun h=>hhd ⟨HNK.out.trans h.1,HCK.out.trans h.2.1⟩)];exact ar6 HP.out);clear HC1;by_cases h3:NK=3
  .
   have h9:¬CK=9:=fun e=>hhd ⟨h3,e⟩;subst h3;have e9:(CK==9)=false:=by simpa using h9
   have e9':decide (CK=9)=false:=by simpa using h9
   clear hhd h9;go_wp2_with fail;go_region
   all_goals go_wp2_with fail
   all_goals go_ret
   all_goals (rw[HC2.out];exact⟨rfl,⟨O,d,RMem.below HR3.out ((qI _ w3).drew),rfl⟩,Hi.out.drew⟩)
  .
   have e3:(NK==3)=false:=by simpa using h3
   have e3':decide (NK=3)=false:=by simpa using h3
   clear hhd h3;go_wp2_with fail;go_region
   all_goals go_wp2_with fail
   all_goals go_ret
   all_goals (rw[HC2.out];exact⟨rfl,⟨O,d,RMem.below HR3.out ((qI _ w3).drew),rfl⟩,Hi.out.drew⟩)
end Go.Proofs.YtllgglolcgdehaaGreatDoor
