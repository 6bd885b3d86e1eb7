/- What the developers' Made (of graphs) does, and more. -/
import Derived.Test.YtllgglolcgdehaaGreatDoorSAb
import Derived.Lib.SlFresh
import Derived.Test.YtllgglolcgdehaaGreatDoorSa31
import Derived.Test.YtllgglolcgdehaaGreatDoorSa30
set_option linter.all false
set_option maxRecDepth 100000
set_option maxHeartbeats 16000000
namespace Go.Proofs.YtllgglolcgdehaaGreatDoor
open Go.RowKit Go.Gs Tryz
theorem cs6{w w':World}{a b c d e f g h:Value}{t:TypeId}(hb:Below (w.alloc (.cells #[a,b,c,d,e,f,g,h] t)).heap.size (w.alloc (.cells #[a,b,c,d,e,f,g,h] t)) w'):
 w'.heap[w.heap.size]? = some (.cells #[a,b,c,d,e,f,g,h] t (0,0)):=(hb.block _ (by simp)).trans (qN w _)
theorem R9{w:World}{k:Nat}{a b c d e f g h:Value}{t:TypeId}(hx:w.heap[k]? = some (.cells #[a,b,c,d,e,f,g,h] t (0,0))):
 w.cell? ⟨k,0,none⟩=some a/\w.cell? ⟨k,1,none⟩=some b/\w.cell? ⟨k,2,none⟩=some c/\w.cell? ⟨k,3,none⟩=some d/\w.cell? ⟨k,4,none⟩=some e/\w.cell? ⟨k,5,none⟩=some f/\w.cell? ⟨k,6,none⟩=some g/\w.cell? ⟨k,7,none⟩=some h:=by
 refine⟨?_,?_,?_,?_,?_,?_,?_,?_⟩
 all_goals
  rw[qV _ _ _ _ _ _ hx];rfl
theorem N8.from{w w1 w':World}{o:List (List UInt8)}{e:Ending}(h:N8 w1 o e w')(hb:Bq w w1):N8 w o e w':=by obtain⟨ar,cr,us,h1,h2,h3,h4⟩:=h;exact⟨ar,cr,us,h1,aD7 h2 hb.size,fun j b hj=>by obtain⟨u,a1,a2,a3⟩:=h3 j b hj;exact⟨u,a1,a2,a3.mono hb.size⟩,hb.trans (h4.mono hb.size)⟩
theorem bt6(n:SNode)(ai ao:Option Addr)(ci cap:Nat)(fs:List SFile)(v:Value)(ins:List (List UInt8))(w:World)(Ap:j9 n=0)(Ad:S0 n)(hv:RList w v U ins)(hi:ins.length=n.ins.length)(hT:ins.flatten.length<=241200)(hf:j6 w (.slice ao fs.length cap) fs)(hfc:fchk fs=0)(hE:D6 w):
 Calls prog 167 #[C6 n ai n.ins.length ci,.slice ao fs.length cap,v] w fun e w'=>N8 w (j0 n fs ins) e w':=by
 have hl5:=(A2 Ap).1;have HC:Hid _:=fun(W:World)=>aA8 n ai ci W Ad (by omega);have HM:Hid _:=fun(W:World)(hW:Bq w W)=>co0 n ai ao ci cap fs v ins W Ap Ad (hv.below hW) hi hT (hf.below hW) hfc (hE.below hW);obtain⟨av,cv,rfl,hv1,hv2⟩:=hv.shape;rw[Ap]at HC;obtain⟨G,hG⟩:=qE (j0 n fs ins);rw[<- hG]at HM ⊢;rw[hi]at HM ⊢;unfold C6 at *;generalize (⟨n.file.toArray⟩:ByteArray)=fx at *;generalize (⟨n.c.word.toArray⟩:ByteArray)=wx0 at *;generalize n.c.kind=ck at *;generalize n.c.n=cn' at *;generalize n.how=hw at *;generalize n.wide=wd at *;generalize n.kind=nk at *;generalize n.ins.length=IL at *;generalize fs.length=NF at *;clear hG hv hf hE Ad Ap hv1 hv2 hfc hT hi;go_enter Tryz.func167,Tryz.ntmps167;go_wp2_with fail;refine qD (HC.out _) ?_;rintro e w1⟨rfl,hb1⟩;obtain⟨c0,c1,c2,c3,c4,c5,c6,c7⟩:=R9 (cs6 hb1)
 have HB1:Hid (Bq w w1):=boxE.trans (hb1.mono boxE.size);clear hb1 HC;go_wp2_with fail;refine qD (HM.out w1 HB1.out) ?_;rintro e w2 hM2;have hM3:=N8.from hM2 HB1.out;obtain⟨ar,cr,us,rfl,m1,m2,m3⟩:=hM3;have HX:Hid (N8 w G (.returned (.tuple #[.slice ar G.length cr,.int .i64 0])) w2):=⟨ar,cr,us,rfl,m1,m2,m3⟩;clear hM2 m1 m2 m3 HM;go_wp2_with fail;go_ret2;exact HX.out
theorem bJ8{w:World}{a:Option Addr}{cap:Nat}{bs:List UInt8}(hr:Reads w (.slice a bs.length cap) bs.length (bs.map U))(h0:bs≠[]):∃ad,a=some ad/\(Lib.numsL bs).length=bs.length/\∀i,i<bs.length->w.cell? (ad.add i)=some (.int .u8 ((Lib.numsL bs).getD i 0)):=by obtain⟨h1,ao,c,e,h2,h3,h4⟩:=hr;injection e with e1 e2 e3;subst e1 e3;obtain⟨b,off,rfl,hc⟩:=h4 (fun e=>h0 (qn.1 e));refine⟨_,rfl,by simp[Lib.numsL],fun i hi=>?_⟩;rw[addP,hc i (U bs[i]) (by rw[qQ,gEl hi];rfl)];simp[U,Lib.numsL,hi]
theorem bj6(a:Option Addr)(cap:Nat)(bs:List UInt8)(w:World)(hr:Reads w (.slice a bs.length cap) bs.length (bs.map U))(h0:bs≠[]):
 Calls prog 234 #[.slice a bs.length cap,.int .u8 10] w fun e w'=>∃z,e=.returned (.int .i64 z)/\(0<=z ↔ (10:UInt8)∈bs)/\w'=w:=by obtain⟨ad,rfl,h1,h2⟩:=bJ8 hr h0;refine (Tryz.bytes_IndexByte_at ad bs.length cap (Lib.numsL bs) 10 w h1 h2).mono ?_;rintro e w'⟨rfl,rfl⟩;refine⟨_,rfl,?_,rfl⟩;rw[Lib.bytesOf_numsL];exact an5 bs
theorem bj7(a:Option Addr)(cap b2 o2 d:Nat)(bs:List UInt8)(w:World)(hr:Reads w (.slice a bs.length cap) bs.length (bs.map U))(h0:bs≠[])(hc2:w.cell? ⟨b2,o2,none⟩=some (.int .u8 10)):
 Calls prog 236 #[.slice a bs.length cap,.slice (some ⟨b2,o2,none⟩) 1 d] w fun e w'=>e=.returned (.int .i64 (bs.count 10:Int))/\w'=w:=by obtain⟨ad,rfl,h1,h2⟩:=bJ8 hr h0;refine (Tryz.bytes_Count_one_at ad bs.length cap b2 o2 d (Lib.numsL bs) 10 w h1 h2 hc2).mono ?_;rintro e w'⟨rfl,rfl⟩;refine⟨?_,rfl⟩;rw[Lib.bytesOf_numsL];rfl
theorem bc5(p:UInt8->Bool):∀(l:List UInt8),(∀x∈l,p x=true)->l.dropWhile p=[]
 | [],_=>rfl
 | c::r,h=>by rw[List.dropWhile_cons,qF (h c (by simp)),bc5 p r (fun x hx=>h x (by simp[hx]))]
theorem cq9{bs:List UInt8}{k:Nat}(hk:bs[k]? = some 10)(hno:(10:UInt8)∉bs.drop (k+1)):l8 bs=k+1:=by
 have hkl:k<bs.length:=(gSm hk).1;have e:bs=bs.take k++10::bs.drop (k+1):=by rw[gEl hkl]at hk;injection hk with hk;rw[<- hk,<- qh hkl,qk]
 unfold l8;conv=>lhs;rw[e]
 rw[List.reverse_append,List.reverse_cons,qp];rw[List.dropWhile_append,qF]
 . simp;omega
 . rw[xC];refine bc5 _ _ (fun x hx=>?_);simp only[bne_iff_ne,ne_eq];intro e2;subst e2;exact hno (List.mem_reverse.1 hx)
theorem bt7(a:Option Addr)(cap:Nat)(bs:List UInt8)(w:World)(hr:Reads w (.slice a bs.length cap) bs.length (bs.map U))(hin:(10:UInt8)∈bs):
 Calls prog 270 #[.slice a bs.length cap,.int .u8 10] w fun e w'=>e=.returned (.int .i64 ((l8 bs:Int)-1))/\Bq w w':=by
 have hle:=F6 hr;have HR:=qH hr;have HIN:=qH hin;have h0:0<bs.length:=List.length_pos_of_mem hin;obtain⟨N,hN⟩:=qE bs.length;have HN:=qH hN;obtain⟨Z,hZ⟩:=qE (l8 bs);have HZ:=qH hZ;rw[<- hN]at HR hle h0 ⊢;rw[<- hZ];clear hr hin hN hZ;go_enter Tryz.func270,Tryz.ntmps270;go_wp2_with fail;go_loopw [5] (fun i wr=>∃k:Nat,k<=N/\i=.int .i64 ((k:Int)-1)/\Hid (wr=w)/\Hid ((10:UInt8)∉bs.drop k)) (fun i _=>(intOf i+1).toNat)
 case atStart=>exact⟨N,qB _,by go_num,rfl,(show (10:UInt8)∉bs.drop N by rw[HN.out,List.drop_length];simp)⟩
 case round=>
  obtain⟨k,hk,rfl,hw,hno⟩:=hrel;obtain rfl:=hw.out
  cases k with
  | zero=>exact absurd HIN.out (by simpa using hno.out)
  | succ k=>
   obtain⟨c,hc⟩:∃c,bs[k]? = some c:=⟨_,gEl (by have:=HN.out;omega)⟩
   obtain⟨b,off,rfl,Ac⟩:=bq2 HR.out hc
   have e1:((k+1:Nat):Int)-1=(k:Int):=by omega
   rw[e1]
   by_cases h10:c=10
   . subst h10
     have HP:=qH (show (Z:Int)-1=(k:Int) by rw[HZ.out,cq9 hc hno.out];omega)
     clear hno hc hw e1
     go_wp2_with fail
     go_ret
     exact⟨by rw[HP.out];rfl,qI _ _⟩
   .
    have Xr:¬(c.toNat:Int)=10:=fun e=>h10 (UInt8.toNat_inj.1 (by simpa using (by omega:c.toNat=10)))
    have HNO:Hid ((10:UInt8)∉bs.drop k):=(show (10:UInt8)∉bs.drop k by
     have hkl:k<bs.length:=(gSm hc).1
     rw[qh hkl,xP,not_or]
     rw[gEl hkl]at hc
     injection hc with hc
     exact⟨fun e=>h10 (by rw[<- hc,<- e]),hno.out⟩)
    generalize (c.toNat:Int)=ci at *
    clear hno hc hw e1 h10
    go_wp2_with fail
    go_roundw
    case rel=>exact⟨k,by omega,by go_num,trivial,HNO⟩
    case measure=>first|(simp[intOf];done)|(simp[intOf];omega)
theorem bt8(a:Option Addr)(cap:Nat)(bs:List UInt8)(w:World)(hr:Reads w (.slice a bs.length cap) bs.length (bs.map U))(hin:(10:UInt8)∈bs):
 Calls prog 235 #[.slice a bs.length cap,.int .u8 10] w fun e w'=>e=.returned (.int .i64 ((l8 bs:Int)-1))/\Bq w w':=by have H:Hid _:=bt7 a cap bs w hr hin;generalize (l8 bs:Int)-1=Z at *;generalize bs.length=N at *;clear hr hin;go_enter Tryz.func235,Tryz.ntmps235;go_wp2_with fail;refine qD H.out ?_;rintro e w1⟨rfl,hb⟩;have HB:Hid _:=hb;clear hb H;go_wp2_with fail;go_ret;exact⟨rfl,HB.out⟩
def aI1(n:SNode)(bx:Nat):Value:=if n.kind=4/\n.how=1 then .func (.func 267) #[] #[] else if n.kind=3/\N9 n.c.kind=true then .func (.func 268) #[] #[.pointer (some ⟨bx,0,none⟩)] else .nilFunc
theorem aR6(n:SNode)(ai:Option Addr)(ni ci:Nat)(w:World):
 Calls prog 233 #[C6 n ai ni ci] w fun e w'=>e=.returned (aI1 n w.heap.size)/\Bq w w'/\w'.heap[w.heap.size]? = some (.cells #[.int .i64 n.kind,.string ⟨n.file.toArray⟩,.int .i64 n.c.kind,.string ⟨n.c.word.toArray⟩,.int .i64 n.c.n,.int .i64 n.how,.int .i64 n.wide,.slice ai ni ci] 73 (0,0)):=by
 have HEa:Hid _:=fun(W:World)=>bI1 n.c W;have hx:=qN w (.cells #[.int .i64 n.kind,.string ⟨n.file.toArray⟩,.int .i64 n.c.kind,.string ⟨n.c.word.toArray⟩,.int .i64 n.c.n,.int .i64 n.how,.int .i64 n.wide,.slice ai ni ci] 73);unfold C6 aI1;unfold Cmd.v at HEa;generalize hIE:N9 n.c.kind=IE at *;generalize (⟨n.file.toArray⟩:ByteArray)=fx at *;generalize (⟨n.c.word.toArray⟩:ByteArray)=wx0 at *;generalize n.c.kind=ck at *;generalize n.c.n=cn' at *;generalize n.how=hw at *;generalize n.wide=wd at *;generalize n.kind=nk at *;have HX:Hid _:=hx;clear hx hIE;by_cases h4:nk=4
 .
  subst h4;by_cases h1:hw=1
  . subst h1;clear HEa;go_enter Tryz.func233,Tryz.ntmps233;go_wp2_with fail;go_ret;exact⟨rfl,boxE,HX.out⟩
  . have HP:=qH (show (if (4:Int)=4/\hw=1 then Value.func (.func 267) #[] #[] else if (4:Int)=3/\IE=true then .func (.func 268) #[] #[.pointer (some ⟨w.heap.size,0,none⟩)] else .nilFunc)=.nilFunc by rw[qA (fun h=>h1 h.2),qA (by omega)]);clear HEa;rw[HP.out];go_enter Tryz.func233,Tryz.ntmps233;go_wp2_with fail;go_ret;exact⟨rfl,boxE,HX.out⟩
 .
  by_cases h3:nk=3
  .
   subst h3;have HP:=qH (show (if (3:Int)=4/\hw=1 then Value.func (.func 267) #[] #[] else if (3:Int)=3/\IE=true then .func (.func 268) #[] #[.pointer (some ⟨w.heap.size,0,none⟩)] else .nilFunc)=if IE=true then .func (.func 268) #[] #[.pointer (some ⟨w.heap.size,0,none⟩)] else .nilFunc by rw[qA (by omega)];simp);rw[HP.out];go_enter Tryz.func233,Tryz.ntmps233;go_wp2_with fail;refine qD (HEa.out _) ?_;rintro e w1⟨rfl,hb1⟩;have HX1:Hid _:=(hb1.block w.heap.size (by simp)).trans HX.out;have HB1:Hid (Bq w w1):=boxE.trans (hb1.mono boxE.size);clear hb1 HEa
   cases IE
   . go_wp2_with fail;go_ret;exact⟨rfl,HB1.out,HX1.out⟩
   . go_wp2_with fail;go_ret;exact⟨rfl,HB1.out,HX1.out⟩
  . have HP:=qH (show (if nk=4/\hw=1 then Value.func (.func 267) #[] #[] else if nk=3/\IE=true then .func (.func 268) #[] #[.pointer (some ⟨w.heap.size,0,none⟩)] else .nilFunc)=.nilFunc by rw[qA (fun h=>h4 h.1),qA (fun h=>h3 h.1)]);clear HEa;rw[HP.out];go_enter Tryz.func233,Tryz.ntmps233;go_wp2_with fail;go_ret;exact⟨rfl,boxE,HX.out⟩
open Go.Maps
variable {G:World->(Nat->Option Own)->Prop}
theorem bG0{xs:List SPipe}{q:Nat}{x:SPipe}(h:xs[q]? = some x):xs.modify q U1=xs.set q (U1 x):=by
 apply xX;intro j;rw[List.getElem?_modify,xJ];by_cases e:q=j
 . subst e;rw[h];simp[(gSm h).1]
 . rw[qA e]
   cases xs[j]? <;> simp[e]
def aR7(M:SMach)(i k:Nat):SMach:=⟨M.ns,M.fs,L6 M.ns i k M.pipes,M.ps,M.sunk⟩
theorem bG1{M:SMach}{i k q:Nat}{x:SPipe}(hq:q=D2 M.ns ((i:Int),(k:Int)))(hx:(aR7 M i k).pipes[q]? = some x):(aR7 M i k).setX q (U1 x)=aR7 M i (k+1):=by have hx':(L6 M.ns i k M.pipes)[q]? = some x:=hx;unfold aR7 SMach.setX;simp only;rw[L6,<- hq,bG0 hx']
theorem co2(D r:Nat)(O:Nat->Option Own)(d:RD)(i:Nat)(n:SNode)(p:SProc)(w:World)(h:RunM G w D r O d)(hS:Shape d.M)(hn:d.M.ns[i]? = some n)(hp:d.M.ps[i]? = some p):
 Calls prog 119 #[.pointer (some ⟨r,0,none⟩),.int .i64 i] w fun e w'=>e=.returned (.int .i64 0)/\l9 G w' D r (endS d.M i p)/\Below D w w':=by
 have hF:=hS.proc i n p hn hp;obtain⟨gP,cP,s,hvP,Dn,En,hgP,hOP,hs,p0,p1,p2,p3,p4,hfP,hGo,hOo,hgl,hol⟩:=h.procAt hp;obtain⟨⟨ao,co,hov,Fq,Ea⟩,_⟩:=j5 hOo;obtain⟨gX,cX,hvX,Ha,Ff,hOX⟩:=h.formX (Shape.pipes0 hS);have hil:i<d.M.ps.length:=(gSm hp).1;obtain⟨b0,b1,b2,b3,b4,b5,b6⟩:=K6 h.box.1;rw[hvP]at b3;rw[hov]at p2;have hov2':co<=9223372036854775807:=by unfold maxLen at Ea;exact Ea
 have HH:=qH h;have HS:=qH hS;have HN:=qH hn;have HP:=qH hp;have HSl:=qH hs;have HVX:=qH hvX;have HVP:=qH hvP;have HCX:Hid (d.M.pipes.length<=cX/\cX<=9223372036854775807):=⟨Ha,Ff⟩;have HF:=qH hF;have HOX:=qH hOX;have HOP:=qH hOP;obtain⟨NL,hNL⟩:=qE p.out.length;have HNL:=qH hNL;obtain⟨NP,hNP⟩:=qE d.M.ps.length;rw[<- hNL]at p2 Fq;rw[<- hNP]at b3 hil Dn;clear h hS hn hp hs hvX Ha Ff hov hF hNL hNP hgP hOP p0 p1 p3 p4 hfP hGo hOo hgl hol Ea b0 b1 b2 b4 b5 b6 hvP hOX;go_enter Tryz.func119,Tryz.ntmps119;go_wp2_with fail;go_loopw [19] (fun z wr=>∃k:Nat,k<=NL/\z=.int .i64 k/\Hid (Below D w wr)/\Hid (∃dk,RunM G wr D r O dk/\dk.M=aR7 d.M i k/\dk.vX=d.vX/\dk.vP=d.vP/\dk.P=d.P)) (fun z _=>NL-(intOf z).toNat)
 case atStart=>exact⟨0,qP _,rfl,qI _ _,(show ∃dk,RunM G w D r O dk/\dk.M=aR7 d.M i 0/\dk.vX=d.vX/\dk.vP=d.vP/\dk.P=d.P from ⟨d,HH.out,rfl,rfl,rfl,rfl⟩)⟩
 case round=>
  obtain⟨k,hk,rfl,Aa,hdk⟩:=hrel;obtain⟨dk,hR,eM,eX,eP,ePP⟩:=hdk.out;have HR:=qH hR;have HM:=qH eM;have Gj:dk.M.pipes.length=d.M.pipes.length:=by rw[eM];exact Q2 _ _ _ _
  have hns:dk.M.ns=d.M.ns:=by rw[eM];rfl
  have Pz:dk.M.ps=d.M.ps:=by rw[eM];rfl
  have Vh:=qH (show dk.vX=.slice (some ⟨gX,0,none⟩) dk.M.pipes.length cX by rw[eX,Gj];exact HVX.out);have HVP2:=qH (show dk.vP=.slice (some ⟨gP,0,none⟩) dk.M.ps.length cP by rw[eP,Pz];exact HVP.out);have HEX:Hid (dk.vX=d.vX/\dk.vP=d.vP/\dk.P=d.P):=⟨eX,eP,ePP⟩;have HSl2:=qH (show dk.P[i]? = some s by rw[ePP];exact HSl.out);have HP2:=qH (show dk.M.ps[i]? = some p by rw[Pz];exact HP.out);clear hdk;by_cases hlt:k<NL
  .
   have hkn:(k:Int)<nouts n:=by have:=HF.out.olen;have:=HNL.out;omega
   obtain⟨q,hq⟩:=qE (D2 d.M.ns ((i:Int),(k:Int)));obtain⟨r',j',n',hn',hj',_,Au,hql⟩:=HS.out.g.reader HN.out hkn;have hqx:q<dk.M.pipes.length:=by rw[Gj,hq,HS.out.xlen,Au];exact hql
   have HPO:Hid _:=ba6 D r O dk i k q gX cX n wr hR (by rw[hns];exact HS.out.g) (by rw[hns];exact HN.out) hkn (by rw[Gj,hns];exact HS.out.xlen) (by rw[hns];exact hq) Vh.out (by rw[Gj];exact HCX.out);obtain⟨x,hx⟩:∃x,dk.M.pipes[q]? = some x:=⟨_,gEl hqx⟩;have HX:=qH hx;have HQ:=qH hq;clear hR eM eX eP ePP Gj hns Pz hq hn' hj' Au hql hqx hx hkn;go_wp2_with fail;refine qD HPO.out ?_;rintro e w2⟨rfl,hb2⟩;have hR2:=RMem.below HR.out hb2;obtain⟨t,ht,hRt,x0,x1,x2,x3,hfX,hOX2,hgX⟩:=RMem.atX hR2 Vh.out HX.out;have hfx2:=hfX (q*4+2)
   have Ci:∃dk',RunM G (w2.setCell ⟨gX,q*4+2,none⟩ (.bool true)) D r O dk'/\dk'.M=aR7 d.M i (k+1)/\dk'.vX=d.vX/\dk'.vP=d.vP/\dk'.P=d.P:=by refine⟨dk.setPipe q (U1 x) t,RMem.setClosed hR2 HX.out ht Vh.out HOX.out,?_,HEX.out.1,HEX.out.2.1,HEX.out.2.2⟩;show dk.M.setX q (U1 x)=_;have hx2:=HX.out;rw[HM.out]at hx2 ⊢;exact bG1 HQ.out hx2
   have Ao:Hid _:=Ci;have HBX:Hid (Below D w (w2.setCell ⟨gX,q*4+2,none⟩ (.bool true))):=((Aa.out.trans (hb2.mono HR.out.le)).setCell (hR2.lo _ _ HOX.out).1 _);clear Ci hR2 ht hRt x0 x1 x3 hfX hOX2 hb2 HPO;go_wp2_with fail;go_roundw
   case rel=>exact⟨k+1,by omega,by go_num,HBX,Ao⟩
   case measure=>simp[intOf];omega
  . have hkN:k=p.out.length:=by have:=HNL.out;omega
    obtain⟨gP',cP',s',Ft,_,_,_,Vi,hs',q0,q1,q2,q3,q4,hfP',_⟩:=RMem.procAt hR HP2.out;rw[HVP2.out]at Ft;injection Ft with e1;injection e1 with e1;injection e1 with e1;subst e1;have hf4:=hfP' (i*5+4);have Ci:l9 G (wr.setCell ⟨gP,i*5+4,none⟩ (.bool true)) D r (endS d.M i p)/\Below D w (wr.setCell ⟨gP,i*5+4,none⟩ (.bool true)):=by refine⟨⟨O,dk.setProc i ⟨p.got,p.pos,p.out,p.rd,true⟩ s,RMem.setNum hR HP2.out HSl2.out HVP2.out Vi (by omega) rfl rfl rfl,?_⟩,Aa.out.setCell (hR.lo _ _ Vi).1 _⟩;show dk.M.setP i _=_;rw[eM,hkN];rfl
    have Ao:Hid _:=Ci;clear Ci hR eM eX eP ePP Gj hns Pz hs' q0 q1 q2 q3 hfP' Vi;go_wp2_with fail;go_ret;exact⟨rfl,Ao.out⟩
end Go.Proofs.YtllgglolcgdehaaGreatDoor
