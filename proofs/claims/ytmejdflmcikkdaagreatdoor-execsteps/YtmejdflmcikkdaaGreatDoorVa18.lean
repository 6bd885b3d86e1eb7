/- What the developers' Made (of graphs) does, and more. -/
import Derived.Test.YtmejdflmcikkdaaGreatDoorVAb
import Derived.Lib.SlFresh
import Derived.Test.YtmejdflmcikkdaaGreatDoorVa07
import Derived.Test.YtmejdflmcikkdaaGreatDoorVa17
set_option linter.all false
set_option maxRecDepth 100000
set_option maxHeartbeats 64000000
namespace Go.Proofs.YtmejdflmcikkdaaGreatDoor
open Go.RowKit Go.Gs Tryz
variable {t:TypeId}{o:qL}{e:Ending}{bs:qU}{xs:List SPipe}{x:SPipe}
theorem cg7{w w':World}{a b c d e f g h:Value}(hb:Below (w.alloc (.cells #[a,b,c,d,e,f,g,h] t)).heap.size (w.alloc (.cells #[a,b,c,d,e,f,g,h] t)) w'):
 w'.heap[w.heap.size]?=some (.cells #[a,b,c,d,e,f,g,h] t (0,0)):=(hb.block _ (by simp)).trans (qJ w _)
theorem Q0.from{w w1 w':World}(h:Q0 w1 o e w')(hb:Bq w w1):Q0 w o e w':=by obtain⟨ar,cr,us,h1,h2,h3,h4⟩:=h;exact⟨ar,cr,us,h1,aX1 h2 hb.size,fun j b hj=>by obtain⟨u,a1,a2,a3⟩:=h3 j b hj;exact⟨u,a1,a2,a3.mono hb.size⟩,hb.trans (h4.mono hb.size)⟩
theorem bp4(n:SNode)(ai ao:Option Addr)(ci cap:Nat)(fs:List SFile)(v:Value)(ins:qL)(w:World)(Ax:q9 n=0)(Ad:G8 n)(hv:RList w v U ins)(hi:ins.length=n.ins.length)(hT:ins.flatten.length<=60300000)(hf:o8 w (.slice ao fs.length cap) fs)(hfc:fchk fs=0)(hE:q8 w):
 Calls prog 95 #[x8 n ai n.ins.length ci,.slice ao fs.length cap,v] w fun e w'=>Q0 w (j6 n fs ins) e w':=by have hl5:=(A1 Ax).1;have HC:Hid _:=fun(W:World)=>az8 n ai ci W Ad qO;have HM:Hid _:=fun(W:World)(hW:Bq w W)=>cc4 n ai ao ci cap fs v ins W Ax Ad (hv.below hW) hi hT (hf.below hW) hfc (hE.below hW);obtain⟨av,cv,rfl,hv1,hv2⟩:=hv.shape;rw[Ax]at HC;obtain⟨G,hG⟩:=qE (j6 n fs ins);rw[<- hG]at HM ⊢;rw[hi]at HM ⊢;unfold x8 at *;generalize (⟨n.file.toArray⟩:ByteArray)=fx,(⟨n.c.word.toArray⟩:ByteArray)=wx0,n.c.kind=ck,n.c.n=cn',n.how=hw,n.wide=wd,n.kind=nk,n.ins.length=IL,fs.length=NF at *;clear hG hv hf hE Ad Ax hv1 hv2 hfc hT hi;go_enter func95,ntmps95;go_wp2_with fail;refine qD (HC.o _) ?_;rintro e w1⟨rfl,hb1⟩;obtain⟨c0,c1,c2,c3,c4,c5,c6,c7⟩:=D8 (cg7 hb1);have HB1:Hid (Bq w w1):=boxE.trans (hb1.mono boxE.size);clear hb1 HC;go_wp2_with fail;refine qD (HM.o w1 HB1.o) ?_;rintro e w2 hM2;have hM3:=Q0.from hM2 HB1.o;obtain⟨ar,cr,us,rfl,m1,m2,m3⟩:=hM3;have HX:Hid (Q0 w G (.returned (.tuple #[.slice ar G.length cr,.int .i64 0])) w2):=⟨ar,cr,us,rfl,m1,m2,m3⟩;clear hM2 m1 m2 m3 HM;go_wp2_with fail;go_ret2;exact HX.o
theorem bF7{w:World}{a:Option Addr}{cap:Nat}(hr:Reads w (.slice a bs.length cap) bs.length (bs.map U))(h0:bs≠[]):∃ad,a=some ad/\(Lib.numsL bs).length=bs.length/\∀i,i<bs.length->w.cell? (ad.add i)=some (.int .u8 ((Lib.numsL bs).getD i 0)):=by obtain⟨h1,ao,c,e,h2,h3,h4⟩:=hr;injection e with e1 e2 e3;subst e1 e3;obtain⟨b,off,rfl,hc⟩:=h4 (fun e=>h0 (qz.1 e));refine⟨_,rfl,by simp[Lib.numsL],fun i hi=>?_⟩;rw[addP,hc i (U bs[i]) (by rw[qa,gEl hi];rfl)];simp[U,Lib.numsL,hi]
theorem bg0(a:Option Addr)(cap:Nat)(bs:qU)(w:World)(hr:Reads w (.slice a bs.length cap) bs.length (bs.map U))(h0:bs≠[]):
 Calls prog 124 #[.slice a bs.length cap,.int .u8 10] w fun e w'=>∃z,e=.returned (.int .i64 z)/\(0<=z ↔ (10:UInt8)∈bs)/\w'=w:=by obtain⟨ad,rfl,h1,h2⟩:=bF7 hr h0;refine (Tryz.bytes_IndexByte_at ad bs.length cap (Lib.numsL bs) 10 w h1 h2).mono ?_;rintro e w'⟨rfl,rfl⟩;refine⟨_,rfl,?_,rfl⟩;rw[Lib.bytesOf_numsL];exact aN2 bs
theorem bg1(a:Option Addr)(cap b2 o2 d:Nat)(bs:qU)(w:World)(hr:Reads w (.slice a bs.length cap) bs.length (bs.map U))(h0:bs≠[])(hc2:w.cell? ⟨b2,o2,none⟩=some (.int .u8 10)):
 Calls prog 126 #[.slice a bs.length cap,.slice (some ⟨b2,o2,none⟩) 1 d] w fun e w'=>e=.returned (.int .i64 (bs.count 10:Int))/\w'=w:=by obtain⟨ad,rfl,h1,h2⟩:=bF7 hr h0;refine (Tryz.bytes_Count_one_at ad bs.length cap b2 o2 d (Lib.numsL bs) 10 w h1 h2 hc2).mono ?_;rintro e w'⟨rfl,rfl⟩;refine⟨?_,rfl⟩;rw[Lib.bytesOf_numsL];rfl
theorem aY5(p:UInt8->Bool):∀(l:qU),(∀x∈l,p x=true)->l.dropWhile p=[]
 | [],_=>rfl
 | c::r,h=>by rw[List.dropWhile_cons,qF (h c (by simp)),aY5 p r (fun x hx=>h x (by simp[hx]))]
theorem cf2{k:Nat}(hk:bs[k]?=some 10)(hno:(10:UInt8)∉bs.drop (k+1)):j3 bs=k+1:=by
 have hkl:k<bs.length:=(gSm hk).1;have e:bs=bs.take k++10::bs.drop (k+1):=by rw[gEl hkl]at hk;injection hk with hk;rw[<- hk,<- qt hkl,xU]
 unfold j3;conv=>lhs;rw[e]
 rw[List.reverse_append,List.reverse_cons,zQ];rw[List.dropWhile_append,qF]
 . simp;omega
 . rw[xl];refine aY5 _ _ (fun x hx=>?_);simp only[bne_iff_ne,ne_eq];intro e2;subst e2;exact hno (List.mem_reverse.1 hx)
theorem bp5(a:Option Addr)(cap:Nat)(bs:qU)(w:World)(hr:Reads w (.slice a bs.length cap) bs.length (bs.map U))(hin:(10:UInt8)∈bs):
 Calls prog 156 #[.slice a bs.length cap,.int .u8 10] w fun e w'=>e=.returned (.int .i64 ((j3 bs:Int)-1))/\Bq w w':=by
 have hle:=t8 hr;have HR:=qH hr;have HIN:=qH hin;have h0:0<bs.length:=List.length_pos_of_mem hin;obtain⟨N,hN⟩:=qE bs.length;have HN:=qH hN;obtain⟨Z,hZ⟩:=qE (j3 bs);have HZ:=qH hZ;rw[<- hN]at HR hle h0 ⊢;rw[<- hZ];clear hr hin hN hZ;go_enter func156,ntmps156;go_wp2_with fail;go_loopw [5] (fun i wr=>∃k:Nat,k<=N/\i=.int .i64 ((k:Int)-1)/\Hid (wr=w)/\Hid ((10:UInt8)∉bs.drop k)) (fun i _=>(intOf i+1).toNat)
 case atStart=>exact⟨N,qA _,by go_num,rfl,(show (10:UInt8)∉bs.drop N by rw[HN.o,List.drop_length];simp)⟩
 case round=>
  obtain⟨k,hk,rfl,hw,hno⟩:=hrel;obtain rfl:=hw.out
  cases k with
  | zero=>exact absurd HIN.o (by simpa using hno.out)
  | succ k=>
   obtain⟨c,hc⟩:∃c,bs[k]?=some c:=⟨_,gEl (by have:=HN.o;omega)⟩;obtain⟨b,off,rfl,Ac⟩:=aa5 HR.o hc;have e1:((k+1:Nat):Int)-1=(k:Int):=qO;rw[e1];by_cases h10:c=10
   . subst h10;have HP:=qH (show (Z:Int)-1=(k:Int) by rw[HZ.o,cf2 hc hno.out];omega);clear hno hc hw e1;go_wp2_with fail;go_ret;exact⟨by rw[HP.o];rfl,Below.refl _ _⟩
   .
    have h10':¬(c.toNat:Int)=10:=fun e=>h10 (UInt8.toNat_inj.1 (by simpa using (by omega:c.toNat=10)))
    have HNO:Hid ((10:UInt8)∉bs.drop k):=(show (10:UInt8)∉bs.drop k by
     have hkl:k<bs.length:=(gSm hc).1
     rw[qt hkl,zD,not_or]
     rw[gEl hkl]at hc
     injection hc with hc
     exact⟨fun e=>h10 (by rw[<- hc,<- e]),hno.out⟩)
    generalize (c.toNat:Int)=ci at *;clear hno hc hw e1 h10;go_wp2_with fail;go_roundw
    case rel=>exact⟨k,qO,by go_num,trivial,HNO⟩
    case measure=>first|(simp[intOf];done)|(simp[intOf];omega)
theorem bp6(a:Option Addr)(cap:Nat)(bs:qU)(w:World)(hr:Reads w (.slice a bs.length cap) bs.length (bs.map U))(hin:(10:UInt8)∈bs):
 Calls prog 125 #[.slice a bs.length cap,.int .u8 10] w fun e w'=>e=.returned (.int .i64 ((j3 bs:Int)-1))/\Bq w w':=by have H:Hid _:=bp5 a cap bs w hr hin;generalize (j3 bs:Int)-1=Z,bs.length=N at *;clear hr hin;go_enter func125,ntmps125;go_wp2_with fail;refine qD H.o ?_;rintro e w1⟨rfl,hb⟩;have HB:Hid _:=hb;clear hb H;go_wp2_with fail;go_ret;exact⟨rfl,HB.o⟩
def aF5(n:SNode)(bx:Nat):Value:=if n.kind=4/\n.how=1 then .func (.func 152) #[] #[] else if n.kind=3/\Q3 n.c.kind=true then .func (.func 154) #[] #[.pointer (some ⟨bx,0,none⟩)] else .nilFunc
theorem aO6(n:SNode)(ai:Option Addr)(ni ci:Nat)(w:World):
 Calls prog 123 #[x8 n ai ni ci] w fun e w'=>e=.returned (aF5 n w.heap.size)/\Bq w w'/\w'.heap[w.heap.size]?=some (.cells #[.int .i64 n.kind,.string ⟨n.file.toArray⟩,.int .i64 n.c.kind,.string ⟨n.c.word.toArray⟩,.int .i64 n.c.n,.int .i64 n.how,.int .i64 n.wide,.slice ai ni ci] 57 (0,0)):=by
 have HEa:Hid _:=fun(W:World)=>cb2 n.c W;have hx:=qJ w (.cells #[.int .i64 n.kind,.string ⟨n.file.toArray⟩,.int .i64 n.c.kind,.string ⟨n.c.word.toArray⟩,.int .i64 n.c.n,.int .i64 n.how,.int .i64 n.wide,.slice ai ni ci] 57);unfold x8 aF5;unfold Cmd.v at HEa;generalize hIE:Q3 n.c.kind=IE,(⟨n.file.toArray⟩:ByteArray)=fx,(⟨n.c.word.toArray⟩:ByteArray)=wx0 at *;generalize n.c.kind=ck,n.c.n=cn',n.how=hw,n.wide=wd,n.kind=nk at *;have HX:Hid _:=hx;clear hx hIE;by_cases h4:nk=4
 .
  subst h4;by_cases h1:hw=1
  . subst h1;clear HEa;go_enter func123,ntmps123;go_wp2_with fail;go_ret;exact⟨rfl,boxE,HX.o⟩
  . have HP:=qH (show (if (4:Int)=4/\hw=1 then Value.func (.func 152) #[] #[] else if (4:Int)=3/\IE=true then .func (.func 154) #[] #[.pointer (some ⟨w.heap.size,0,none⟩)] else .nilFunc)=.nilFunc by rw[qB (fun h=>h1 h.2),qB qO]);clear HEa;rw[HP.o];go_enter func123,ntmps123;go_wp2_with fail;go_ret;exact⟨rfl,boxE,HX.o⟩
 .
  by_cases h3:nk=3
  .
   subst h3;have HP:=qH (show (if (3:Int)=4/\hw=1 then Value.func (.func 152) #[] #[] else if (3:Int)=3/\IE=true then .func (.func 154) #[] #[.pointer (some ⟨w.heap.size,0,none⟩)] else .nilFunc)=if IE=true then .func (.func 154) #[] #[.pointer (some ⟨w.heap.size,0,none⟩)] else .nilFunc by rw[qB qO];simp);rw[HP.o];go_enter func123,ntmps123;go_wp2_with fail;refine qD (HEa.o _) ?_;rintro e w1⟨rfl,hb1⟩;have HX1:Hid _:=(hb1.block w.heap.size (by simp)).trans HX.o;have HB1:Hid (Bq w w1):=boxE.trans (hb1.mono boxE.size);clear hb1 HEa
   cases IE
   . go_wp2_with fail;go_ret;exact⟨rfl,HB1.o,HX1.o⟩
   . go_wp2_with fail;go_ret;exact⟨rfl,HB1.o,HX1.o⟩
  . have HP:=qH (show (if nk=4/\hw=1 then Value.func (.func 152) #[] #[] else if nk=3/\IE=true then .func (.func 154) #[] #[.pointer (some ⟨w.heap.size,0,none⟩)] else .nilFunc)=.nilFunc by rw[qB (fun h=>h4 h.1),qB (fun h=>h3 h.1)]);clear HEa;rw[HP.o];go_enter func123,ntmps123;go_wp2_with fail;go_ret;exact⟨rfl,boxE,HX.o⟩
open Go.Maps
variable {G:World->qW->Prop}
theorem aO7{q:Nat}(h:xs[q]?=some x):xs.modify q Z1=xs.set q (Z1 x):=by
 apply xq;intro j;rw[List.getElem?_modify,xE];by_cases e:q=j
 . subst e;rw[h];simp[(gSm h).1]
 . rw[qB e]
   cases xs[j]? <;> simp[e]
def aO8(M:SMach)(i k:Nat):SMach:=⟨M.ns,M.fs,H7 M.ns i k M.pipes,M.ps,M.sunk⟩
theorem bz4{M:SMach}{i k q:Nat}(hq:q=E9 M.ns ((i:Int),(k:Int)))(hx:(aO8 M i k).pipes[q]?=some x):(aO8 M i k).setX q (Z1 x)=aO8 M i (k+1):=by have hx':(H7 M.ns i k M.pipes)[q]?=some x:=hx;unfold aO8 SMach.setX;simp only;rw[H7,<- hq,aO7 hx']
theorem cc5(D r:Nat)(O:qW)(d:RD)(i:Nat)(n:SNode)(p:SProc)(w:World)(h:RunM G w D r O d)(hS:Shape d.M)(hn:d.M.ns[i]?=some n)(hp:d.M.ps[i]?=some p):
 Calls prog 62 #[.pointer (some ⟨r,0,none⟩),.int .i64 i] w fun e w'=>e=.returned (.int .i64 0)/\o6 G w' D r (endS d.M i p)/\Below D w w':=by
 have hF:=hS.proc i n p hn hp;obtain⟨gP,cP,s,hvP,Db,Dw,hgP,hOP,hs,p0,p1,p2,p3,p4,hfP,hGo,hOo,hgl,hol⟩:=h.procAt hp;obtain⟨⟨ao,co,hov,Ej,Bn⟩,_⟩:=g8 hOo;obtain⟨gX,cX,hvX,Fz,Fo,hOX⟩:=h.formX (Shape.pipes0 hS);have hil:i<d.M.ps.length:=(gSm hp).1;obtain⟨b0,b1,b2,b3,b4,b5,b6⟩:=K9 h.box.1;rw[hvP]at b3;rw[hov]at p2;have Ti:co<=9223372036854775807:=by unfold maxLen at Bn;exact Bn
 have HH:Hid (RunM G w D r O d):=h;have HS:=qH hS;have HN:=qH hn;have HP:=qH hp;have HSl:=qH hs;have HVX:=qH hvX;have HVP:=qH hvP;have HCX:Hid (d.M.pipes.length<=cX/\cX<=9223372036854775807):=⟨Fz,Fo⟩;have HF:=qH hF;have HOX:=qH hOX;have HOP:=qH hOP;obtain⟨NL,hNL⟩:=qE p.out.length;have HNL:=qH hNL;obtain⟨NP,hNP⟩:=qE d.M.ps.length;rw[<- hNL]at p2 Ej;rw[<- hNP]at b3 hil Db;clear h hS hn hp hs hvX Fz Fo hov hF hNL hNP hgP hOP p0 p1 p3 p4 hfP hGo hOo hgl hol Bn b0 b1 b2 b4 b5 b6 hvP hOX;go_enter func62,ntmps62;go_wp2_with fail;go_loopw [19] (fun z wr=>∃k:Nat,k<=NL/\z=.int .i64 k/\Hid (Below D w wr)/\Hid (∃dk,RunM G wr D r O dk/\dk.M=aO8 d.M i k/\dk.vX=d.vX/\dk.vP=d.vP/\dk.P=d.P)) (fun z _=>NL-(intOf z).toNat)
 case atStart=>exact⟨0,qM _,rfl,Below.refl _ _,(show ∃dk,RunM G w D r O dk/\dk.M=aO8 d.M i 0/\dk.vX=d.vX/\dk.vP=d.vP/\dk.P=d.P from ⟨d,HH.o,rfl,rfl,rfl,rfl⟩)⟩
 case round=>
  obtain⟨k,hk,rfl,Aa,hdk⟩:=hrel;obtain⟨dk,hR,eM,eX,eP,ePP⟩:=hdk.out;have HR:Hid (RunM G wr D r O dk):=hR;have HM:=qH eM;have Hq:dk.M.pipes.length=d.M.pipes.length:=by rw[eM];exact aa8 _ _ _ _
  have hns:dk.M.ns=d.M.ns:=by rw[eM];rfl
  have Rm:dk.M.ps=d.M.ps:=by rw[eM];rfl
  have Vx:=qH (show dk.vX=.slice (some ⟨gX,0,none⟩) dk.M.pipes.length cX by rw[eX,Hq];exact HVX.o);have Zz:=qH (show dk.vP=.slice (some ⟨gP,0,none⟩) dk.M.ps.length cP by rw[eP,Rm];exact HVP.o);have HEX:Hid (dk.vX=d.vX/\dk.vP=d.vP/\dk.P=d.P):=⟨eX,eP,ePP⟩;have HSl2:=qH (show dk.P[i]?=some s by rw[ePP];exact HSl.o);have HP2:=qH (show dk.M.ps[i]?=some p by rw[Rm];exact HP.o);clear hdk;by_cases hlt:k<NL
  .
   have hkn:(k:Int)<nouts n:=by have:=HF.o.olen;have:=HNL.o;omega
   obtain⟨q,hq⟩:=qE (E9 d.M.ns ((i:Int),(k:Int)));obtain⟨r',j',n',hn',hj',_,Ba,hql⟩:=HS.o.g.reader HN.o hkn;have hqx:q<dk.M.pipes.length:=by rw[Hq,hq,HS.o.xlen,Ba];exact hql
   have HPO:Hid _:=aV3 D r O dk i k q gX cX n wr hR (by rw[hns];exact HS.o.g) (by rw[hns];exact HN.o) hkn (by rw[Hq,hns];exact HS.o.xlen) (by rw[hns];exact hq) Vx.o (by rw[Hq];exact HCX.o);obtain⟨x,hx⟩:∃x,dk.M.pipes[q]?=some x:=⟨_,gEl hqx⟩;have HX:=qH hx;have HQ:=qH hq;clear hR eM eX eP ePP Hq hns Rm hq hn' hj' Ba hql hqx hx hkn;go_wp2_with fail;refine qD HPO.o ?_;rintro e w2⟨rfl,hb2⟩;have hR2:=RMem.below HR.o hb2;obtain⟨t,ht,hRt,x0,x1,x2,x3,hfX,hOX2,hgX⟩:=RMem.atX hR2 Vx.o HX.o;have hfx2:=hfX (q*4+2);have Da:∃dk',RunM G (w2.setCell ⟨gX,q*4+2,none⟩ (.bool true)) D r O dk'/\dk'.M=aO8 d.M i (k+1)/\dk'.vX=d.vX/\dk'.vP=d.vP/\dk'.P=d.P:=by refine⟨dk.setPipe q (Z1 x) t,RMem.setClosed hR2 HX.o ht Vx.o HOX.o,?_,HEX.o.1,HEX.o.2.1,HEX.o.2.2⟩;show dk.M.setX q (Z1 x)=_;have hx2:=HX.o;rw[HM.o]at hx2 ⊢;exact bz4 HQ.o hx2
   have Ao:Hid _:=Da;have HBX:Hid (Below D w (w2.setCell ⟨gX,q*4+2,none⟩ (.bool true))):=((Aa.o.trans (hb2.mono HR.o.le)).setCell (hR2.lo _ _ HOX.o).1 _);clear Da hR2 ht hRt x0 x1 x3 hfX hOX2 hb2 HPO;go_wp2_with fail;go_roundw
   case rel=>exact⟨k+1,qO,by go_num,HBX,Ao⟩
   case measure=>simp[intOf];omega
  . have hkN:k=p.out.length:=by have:=HNL.o;omega
    obtain⟨gP',cP',s',Ci,_,_,_,Vy,hs',q0,q1,q2,q3,q4,hfP',_⟩:=RMem.procAt hR HP2.o;rw[Zz.o]at Ci;injection Ci with e1;injection e1 with e1;injection e1 with e1;subst e1;have hf4:=hfP' (i*5+4);have Da:o6 G (wr.setCell ⟨gP,i*5+4,none⟩ (.bool true)) D r (endS d.M i p)/\Below D w (wr.setCell ⟨gP,i*5+4,none⟩ (.bool true)):=by refine⟨⟨O,dk.setProc i ⟨p.got,p.pos,p.out,p.rd,true⟩ s,RMem.setNum hR HP2.o HSl2.o Zz.o Vy qO rfl rfl rfl,?_⟩,Aa.o.setCell (hR.lo _ _ Vy).1 _⟩;show dk.M.setP i _=_;rw[eM,hkN];rfl
    have Ao:Hid _:=Da;clear Da hR eM eX eP ePP Hq hns Rm hs' q0 q1 q2 q3 hfP' Vy;go_wp2_with fail;go_ret;exact⟨rfl,Ao.o⟩
end Go.Proofs.YtmejdflmcikkdaaGreatDoor
