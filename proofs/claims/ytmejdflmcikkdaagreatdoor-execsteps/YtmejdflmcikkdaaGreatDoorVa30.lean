/- What the reference's Joined does, and more. -/
import Derived.Test.YtmejdflmcikkdaaGreatDoorVAb
import Derived.Orders
import Derived.Test.YtmejdflmcikkdaaGreatDoorVa29
set_option linter.all false
set_option maxRecDepth 100000
set_option maxHeartbeats 64000000
namespace Go.Proofs.YtmejdflmcikkdaaGreatDoor
open Go.RowKit Go.Gs Tryz
variable {B B' n k g cap base p G i bM c cs:Nat}{u v old vk vN vF vX vP vS:Value}{e t:TypeId}{xs vs:List Value}{o ls:qL}{q bs:qU}{row:Option Nat}{a ad:Addr}{L:List Int}{r:Int}{ns:List SNode}{fs:List SFile}{aS:Option Addr}
theorem bA7(k n:Int)(word:qU)(ao:Option Addr)(cap:Nat)(bss:qL)(w:World)(h1:RList w (.slice ao bss.length cap) U bss)(hN5:bss.length<=5)(hT:bss.flatten.length<=62500000)(hE:q8 w)(hsh:w.ShapedOpen prog):
 Calls prog 83 #[.int .i64 2,.agg #[.int .i64 k,.string ⟨word.toArray⟩,.int .i64 n],.slice ao bss.length cap] w fun e w'=>∃r,e=.returned r/\Reads w' r (jOut 2 ⟨k,word,n⟩ bss).length ((jOut 2 ⟨k,word,n⟩ bss).map U)/\Bq w w'/\(∀a n c,r=.slice (some a) n c->w.heap.size<=a.block):=by
 obtain⟨i0,hi,hz0,hz1,hz2⟩:=info_parts J9;have hcap:bss.length<=cap/\cap<=9223372036854775807:=by obtain⟨ao',cap',e,h1',h2'⟩:=h1.shape;injection e with e1 e2 e3;subst e3;exact⟨h1',by simpa[maxLen]using h2'⟩
 obtain⟨hcN,hcm⟩:=hcap;have HP:=qH h1;have HE:=qH hE;have HSH:=qH hsh;have HT:=qH hT;have HJL:Hid ((ended (joined 2 ⟨k,word,n⟩ (bss.map lines))).length<=225000000):=by have h1:=U8 2 ⟨k,word,n⟩ (fun h=>absurd h (by decide)) (bss.map lines) (by have:=F6 bss;omega) (by simpa using hN5);have h2:=M6 bss;exact qc h1 qO
 obtain⟨N,hN⟩:=qE bss.length;have HN:=qH hN;rw[<- hN]at hN5 hcN ⊢;clear h1 hE hsh hT hN;go_enter func83,ntmps83;go_wp2_with fail;go_loopw [7,8,22] (fun v7 s i wr=>∃(j m:Nat),j<=N/\m<=4000*j/\i=.int .i64 j/\s=.int .i64 m/\Hid (m=sumTo bss j)/\Hid (J1 w (w.alloc (.cells #[.int .i64 k,.string ⟨word.toArray⟩,.int .i64 n] 54)) wr bss j v7)) (fun _ _ i _=>N-(intOf i).toNat)
 case atStart=>exact⟨0,0,qM _,qO,rfl,rfl,(show _=_ by simp[sumTo,sumOf]),⟨by simpa[A6]using World.ownsRow_nil _ (w.heap.size+1) 9 1,Below.refl _ _⟩⟩
 case round=>
  obtain⟨j,m,hj,hm,rfl,rfl,hms,hrel⟩:=hrel;have HBw:Hid (Bq w wr):=l8 hrel.out.2;have hws:w.heap.size+1<=wr.heap.size:=by have:=hrel.out.2.size;simpa using this
  by_cases hlt:j<N
  .
   obtain⟨p,hpk⟩:∃p,bss[j]?=some p:=⟨_,gEl (by have:=HN.o;omega)⟩;have HPK:=qH hpk;have HPr:Hid (RList wr (.slice ao N cap) U bss):=by rw[HN.o];exact HP.o.below HBw.o
   obtain⟨b,off,au,cu,rfl,Ac,hru⟩:=HPr.o.at hpk;have hpl:p.length<=62500000:=qc (A3 (mGt hpk)) HT.o;have hlo:=af6 (.slice au p.length cu) p wr hru (M4 HSH.o HBw.o) qO;have HLT:Hid _:=ab1 bss j;have HLP:Hid _:=E6 p;have hSS:sumTo bss (j+1)=m+S0 (lines p):=by rw[ak4 hpk,<- hms.out]
   have HLS:Hid (∀s∈lines p,s.length<=62500000):=fun s hs=>X8 hs hpl;have HHN:Hid _:=ac7 (lines p);clear hpk hru hms;obtain⟨pl,Ew⟩:=qE p.length;rw[<- Ew]at hlo Ac hpl HLP;clear Ew;obtain⟨L,hL⟩:=qE ((lines p).length);have HL:=qH hL;rw[<- hL]at hlo HLP;have hLb:L<=62500000:=qc HLP.o hpl;clear hL;have hFb:(A6 bss j).length<=62500000:=qc HLT.o HT.o;go_wp2_with fail;refine hlo.mono ?_;rintro e w1⟨g,cl,rfl,hgn,Ey,hb1⟩;have Gp:Hid _:=A5 hrel.out.1 hb1;have Cc:Hid (Reads w1 (.slice (some ⟨g,0,none⟩) L cl) (lines p).length ((lines p).map S)):=by have:=Ey;rw[HL.o]at this ⊢;exact this
   have hs1:w.heap.size+1<=w1.heap.size:=qc hws hb1.size;have HB1:=qH hb1;have HGN:=qH hgn;have Io:L<=cl/\cl<=9223372036854775807:=by obtain⟨_,ao',cap',e,e2,e3,_⟩:=id Cc.o;injection e with e4 e5 e6;subst e6;exact⟨by rw[HL.o];exact e2,by simpa[maxLen]using e3⟩
   obtain⟨Rw,Rx⟩:=Io;have Ar:w1.ownsRow (w.heap.size+1) 9 1 u7 (A6 bss j).length ((A6 bss j).map S):=Gp.o;clear hlo Ey hb1 hgn Gp;go_wp2_with (at_builtin;refine xB _ rfl (.tmp 28) (.tmp 29) 110 rfl (w.heap.size+1) 9 i0 (.string ⟨#[]⟩) 1 16 underlying110 hi hz0 hz1 hz2 rfl (by decide) _ _ _ rfl Ar ⟨g,0,none⟩ L cl ((lines p).map S) rfl ?c0 ?c1 ?c2 ?c3 ?c4 ?c5 ?_)
   case c0=>rw[qS,zI];exact HL.o.symm
   case c1=>
    intro i u hi;have Br:(lines p).length≠0:=by have hl:=(gSm hi).1;rw[qS]at hl;omega
    obtain⟨_,ao',cap',e,_,_,h5⟩:=Cc.o;injection e with e1 e2 e3;subst e1;obtain⟨b',off',e,hcc⟩:=h5 Br;injection e with e;injection e with e1 e2;subst e1 e2;have Ce:(⟨g,0,none⟩:Addr).add i=⟨g,0+i,none⟩:=by unfold Addr.add;split <;> simp_all
    rw[Ce];exact hcc i u hi
   case c2=>intro u hu;obtain⟨x,_,rfl⟩:=xA.1 hu;rfl
   case c3=>unfold maxLen;omega
   case c4=>omega
   case c5=>exact hs1
   intro v7' w2 Aq Af _;have HJ2:Hid (J1 w (w.alloc (.cells #[.int .i64 k,.string ⟨word.toArray⟩,.int .i64 n] 54)) w2 bss (j+1) v7'):=hrel.out.more HPK.o HB1.o HL.o hws Aq Af
   have Cj:Hid (Reads w2 (.slice (some ⟨g,0,none⟩) L cl) (lines p).length ((lines p).map S)):=af7 Cc.o Af (fun g' hg' e=>by
    have h7:=(hrel.out.1.lt g' e).2
    simp only[Value.ownBlock,qe]at hg'
    have:=HGN.o
    omega)
   clear Aq Af Ar Cc hrel HB1 HGN Ac
   cases hlp:lines p with
   | nil=>
    rw[hlp]at hSS HL;have hL0:L=0:=HL.o;subst hL0;have hS0:sumTo bss (j+1)=m:=hSS;have HS0:Hid (m=sumTo bss (j+1)):=hS0.symm;clear hSS hS0 Cj hlp;go_wp2_with fail;go_roundw
    case rel=>exact⟨j+1,m,qO,qO,by go_num,rfl,HS0,HJ2⟩
    case measure=>simp[intOf];omega
   | cons x r=>
    have HXS:Hid (x.length<=62500000):=HLS.o x (by rw[hlp];simp);rw[hlp,X7]at hSS;rw[hlp]at HL Cj;have hLr:L=r.length+1:=HL.o;have hL0:(0:Int)<(L:Int):=qO;obtain⟨b1,o1,sx,hb1,hcx,hsx,_,_⟩:=M9 (by have:=Cj.o;rw[HL.o]at this;exact this);injection hb1 with hb1;injection hb1 with hb1 hb2;subst hb1 hb2;obtain rfl:sx=⟨x.toArray⟩:=by unfold S at hsx;injection hsx
    have HSS:=qH hSS;have HB2:Hid (Bq w w2):=l8 HJ2.o.2;have hKE:=HE.o.below HB2.o;have hd:(⟨x.toArray⟩:ByteArray).data.toList=x:=rfl;have hsz:(⟨x.toArray⟩:ByteArray).size=x.length:=by simp[ByteArray.size]
    have hxz:(⟨x.toArray⟩:ByteArray).size<=281474976710656:=by have:=HXS.o;omega
    clear hSS hlp Cj HLS hsx hLr;have HN0:Hid _:=hKE;by_cases hok:∃z,Lib.atoiAll x=.ok z
    .
     obtain⟨z,hz⟩:=hok;have hzb:=Lib.atoiAll_bounds hz;have hpa:=aA6 ⟨x.toArray⟩ z w2 hxz (by rw[hd];exact hz);have Bg:Hid _:=an1 hz;clear hz hd hsz hxz hKE;obtain⟨sx,hsx⟩:=qE (⟨x.toArray⟩:ByteArray);have HSX:Hid (Value.string sx=S x):=by rw[hsx];exact rfl
     rw[<- hsx]at hpa hcx;clear hsx;go_wp2_with fail;refine hpa.mono ?_;rintro e w3⟨rfl,hb3⟩;have HJ3:Hid (J1 w (w.alloc (.cells #[.int .i64 k,.string ⟨word.toArray⟩,.int .i64 n] 54)) w3 bss (j+1) v7'):=HJ2.o.below hb3 (by have:=HJ2.o.2.size;simpa using this);have Eh:w3.cell? ⟨g,0,none⟩=some (.string sx):=qC hb3 hcx;have HK3:Hid (Q9 w3):=(q8.below HN0.o hb3).1;clear hpa hb3 hcx HJ2 HN0 HB2;by_cases hz0:0<=z
     .
      by_cases hz4:z<=4000
      .
       have q1:decide (0<=z)=true:=qV hz0;have q2:decide (z<=4000)=true:=qV hz4;obtain⟨tx,htx⟩:=qE (⟨(Lib.itoa z).toArray⟩:ByteArray);have cF:∀d os,Calls prog 111 #[.int .i64 z,.int .i64 10] (Go.Sort.grow (redrawn w3 d) os) fun e w''=>e=.returned (.string tx)/\∃p:Regrown,w''=Go.Sort.grow (redrawn w3 p.d) p.os:=fun d os=>Calls.regrown_of (by rw[htx];exact ak5 z _ hzb.1 hzb.2 (HK3.o.below (below_regrown w3 d os)));have hcr:∀d os,(Go.Sort.grow (redrawn w3 d) os).cell? ⟨g,0,none⟩=some (.string sx):=fun d os=>cell_regrown Eh d os;have Gq:(tx.toList==sx.toList)=decide (Lib.itoa z=x):=by
        have Ks:Value.string tx=S (Lib.itoa z):=by rw[htx];rfl
        rw[K4 Ks,K4 HSX.o];by_cases h:Lib.itoa z=x <;> simp[h]
       clear htx;by_cases heq:Lib.itoa z=x
       . have HS4:=qH (show sumTo bss (j+1)=m+z.toNat by rw[HSS.o,Bg.o,qF ⟨hz0,hz4,heq⟩]);rw[qV heq]at Gq;obtain⟨zn,rfl⟩:=qm hz0;rw[qh]at HS4;clear heq Bg Eh;go_wp2_with fail;refine wp_region_quiet_below qQ qQ ?_;repeat (first|go_big_quiet_step (exact cF _ _) | quiet_step (exact cF _ _))
         refine wpQuiet_nil ?_;intro _ hw';obtain⟨⟨dq,osq⟩,Av⟩:=hw';subst Av;have HJ4:Hid (J1 w (w.alloc (.cells #[.int .i64 k,.string ⟨word.toArray⟩,.int .i64 n] 54)) (Go.Sort.grow (redrawn w3 dq) osq) bss (j+1) v7'):=HJ3.o.below (below_regrown w3 dq osq) (by have:=HJ3.o.2.size;simpa using this);clear cF hcr HJ3;go_wp2_with fail;go_roundw
         case rel=>exact⟨j+1,m+zn,qO,qO,by go_num,by go_num,HS4.o.symm,HJ4⟩
         case measure=>simp[intOf];omega
       . have HS4:=qH (show m=sumTo bss (j+1) by rw[HSS.o,Bg.o,qB (fun h=>heq h.2.2)];rfl);rw[qG heq]at Gq;clear heq Bg Eh;go_wp2_with fail;refine wp_region_quiet_below qQ qQ ?_;repeat (first|go_big_quiet_step (exact cF _ _) | quiet_step (exact cF _ _))
         refine wpQuiet_nil ?_;intro _ hw';obtain⟨⟨dq,osq⟩,Av⟩:=hw';subst Av;have HJ4:Hid (J1 w (w.alloc (.cells #[.int .i64 k,.string ⟨word.toArray⟩,.int .i64 n] 54)) (Go.Sort.grow (redrawn w3 dq) osq) bss (j+1) v7'):=HJ3.o.below (below_regrown w3 dq osq) (by have:=HJ3.o.2.size;simpa using this);clear cF hcr HJ3;go_wp2_with fail;go_roundw
         case rel=>exact⟨j+1,m,qO,qO,by go_num,rfl,HS4,HJ4⟩
         case measure=>simp[intOf];omega
      . have q1:decide (0<=z)=true:=qV hz0;have q2:decide (z<=4000)=false:=qG hz4;have HS4:=qH (show m=sumTo bss (j+1) by rw[HSS.o,Bg.o,qB (fun h=>hz4 h.2.1)];rfl);go_wp2_with fail;go_quiet (fail);go_wp2_with fail;go_roundw
        case rel=>exact⟨j+1,m,qO,qO,by go_num,rfl,HS4,HJ3.o.below (I9 (Below.refl _ _) _) (by have:=HJ3.o.2.size;simpa using this)⟩
        case measure=>simp[intOf];omega
     . have q1:decide (0<=z)=false:=qG hz0;have HS4:=qH (show m=sumTo bss (j+1) by rw[HSS.o,Bg.o,qB (fun h=>hz0 h.1)];rfl);go_wp2_with fail;go_quiet (fail);go_wp2_with fail;go_roundw
       case rel=>exact⟨j+1,m,qO,qO,by go_num,rfl,HS4,HJ3.o.below (I9 (Below.refl _ _) _) (by have:=HJ3.o.2.size;simpa using this)⟩
       case measure=>simp[intOf];omega
    . have hpa:=ar5 ⟨x.toArray⟩ w2 hxz hKE (by rw[hd];exact fun z h=>hok ⟨z,h⟩);have HS4:=qH (show m=sumTo bss (j+1) by rw[HSS.o,ah8 (fun z h=>hok ⟨z,h⟩)];rfl);clear hok hd hsz hxz hKE;go_wp2_with fail;refine hpa.mono ?_;rintro e w3⟨z,t,p',rfl,hb3⟩;have HJ3:Hid (J1 w (w.alloc (.cells #[.int .i64 k,.string ⟨word.toArray⟩,.int .i64 n] 54)) w3 bss (j+1) v7'):=HJ2.o.below hb3 (by have:=HJ2.o.2.size;simpa using this);clear hpa hb3 HJ2 HB2 hcx;go_wp2_with fail;go_quiet (fail);go_wp2_with fail;go_roundw
      case rel=>exact⟨j+1,m,qO,qO,by go_num,rfl,HS4,HJ3.o.below (I9 (Below.refl _ _) _) (by have:=HJ3.o.2.size;simpa using this)⟩
      case measure=>simp[intOf];omega
  .
   obtain rfl:N=j:=qO;obtain⟨ps,hps⟩:=qE (bss.map lines);have HPS:=qH hps;obtain⟨T,hTT⟩:=qE ps.flatten.length;have hTb:T<=62500000:=by rw[hTT,hps];exact qc (F6 bss) HT.o
   have HTT:=qH hTT;have hpsl:ps.length=N:=by rw[hps,qS];exact HN.o.symm
   have HPL:=qH hpsl;obtain⟨i1,hi',hy0,hy1,hy2⟩:=info_parts cc7;have hb4:i1.bytes*N<=281474976710656:=by rw[hy2];omega
   have hb5:N<=maxLen:=by unfold maxLen;omega
   have HJ0:Hid (J1 w (w.alloc (.cells #[.int .i64 k,.string ⟨word.toArray⟩,.int .i64 n] 54)) wr bss N u7):=hrel.out;clear hrel hms hps hTT hpsl;go_wp2_with (at_make;refine wpList_make_full _ rfl (.tmp 77) (.tmp 77) 45 rfl (w.heap.size+1) 3 i1 (.int .i64 0) 1 underlying45 hi' hy0 hy1 .i64 .i64 _ _ N rfl rfl rfl rfl hb4 hb5 hws ?_)
   intro w3 Fg Bf;have HM3:Hid (MJ w (w.alloc (.cells #[.int .i64 k,.string ⟨word.toArray⟩,.int .i64 n] 54)) w3 ps T wr.heap.size [] (List.replicate N 0) (.slice none 0 0)):=by
    have e0:ab2 ps (List.replicate N 0)=ps:=by rw[<- HPL.o];exact bA5 ps
    refine⟨by rw[zz];exact HPL.o.symm,?_,hws,World.ownsRow_nil _ _ _ _,by simp[Value.ownBlock],HJ0.o.2.trans (below_grown Bf hws),?_,?_⟩
    . have:=(V2 Fg).1;rw[xK]at this;rw[List.map_replicate];exact this
    . rw[e0,HTT.o];simp
    . rw[e0,HTT.o];rfl
   generalize hGA:wr.heap.size=GA at *;clear Fg Bf HJ0 hGA;go_wp2_with fail;go_loopw [7] (fun v7 w9=>∃(D:qL)(ats:List Nat),Hid (MJ w (w.alloc (.cells #[.int .i64 k,.string ⟨word.toArray⟩,.int .i64 n] 54)) w9 ps T GA D ats v7)) (fun v7 _=>T-sliceLen v7)
   case atStart=>exact⟨[],_,HM3.o⟩
   case round=>
    obtain⟨D,ats,hrel⟩:=hrel;obtain⟨w9,hw9⟩:=qE wr;subst hw9;have HM9:Hid (MJ w (w.alloc (.cells #[.int .i64 k,.string ⟨word.toArray⟩,.int .i64 n] 54)) w9 ps T GA D ats u7):=hrel.out;have HBw9:Hid (Bq w w9):=l8 hrel.out.2.2.2.2.2.1;have hws9:w.heap.size+1<=w9.heap.size:=by have:=hrel.out.2.2.2.2.2.1.size;simpa using this
    have HAL:Hid (ats.length=N):=hrel.out.1.trans HPL.o;obtain⟨cur,Jp⟩:=qE (ab2 ps ats);have HCU:=qH Jp;have HCL:=qH (show cur.length=N by rw[Jp];unfold ab2;rw[xZ,HPL.o,HAL.o,Nat.min_self]);clear Jp hrel;go_wp2_with fail;go_loopw [15,16,81] (fun s f i wx=>∃(j:Nat)(sx:ByteArray),j<=N/\i=.int .i64 j/\s=.int .i64 (lix (D7 cur j))/\f=.string sx/\Hid (Value.string sx=S (cc9 (D7 cur j)))/\Hid (Bq w9 wx)) (fun _ _ i _=>N-(intOf i).toNat)
    case atStart=>exact⟨0,⟨#[]⟩,qM _,rfl,rfl,rfl,rfl,Below.refl _ _⟩
    case round=>
     obtain⟨j,sx,hj,rfl,rfl,rfl,hsx,hbx⟩:=hrel;have HMx:Hid (MJ w (w.alloc (.cells #[.int .i64 k,.string ⟨word.toArray⟩,.int .i64 n] 54)) wr ps T GA D ats u7):=HM9.o.below hbx.out hws9;have Py:Hid (Bq w wr):=HBw9.o.trans (hbx.out.mono HBw9.o.size);by_cases hlt:j<N
     .
      obtain⟨p,hpk⟩:∃p,bss[j]?=some p:=⟨_,gEl (by have:=HN.o;omega)⟩;have hpsj:ps[j]?=some (lines p):=by rw[HPS.o,qa,hpk];rfl
      obtain⟨a,ha⟩:∃a,ats[j]?=some a:=⟨_,gEl (by have:=HAL.o;omega)⟩;have hcj:cur[j]?=some ((lines p).drop a):=by rw[HCU.o];exact ar6 hpsj ha
      have HPr:Hid (RList wr (.slice ao N cap) U bss):=by rw[HN.o];exact HP.o.below Py.o
      obtain⟨b,off,au,cu,rfl,Ac,hru⟩:=HPr.o.at hpk;have hpl:p.length<=62500000:=qc (A3 (mGt hpk)) HT.o;have hlo:=aA4 (.slice au p.length cu) p wr hru (M4 HSH.o Py.o) qO;obtain⟨hcA,_⟩:=HMx.o.cell ha;have HLP:Hid _:=E6 p;clear hpk hru hpsj;obtain⟨pl,Ew⟩:=qE p.length;rw[<- Ew]at hlo Ac hpl HLP;clear Ew;obtain⟨L,hL⟩:=qE ((lines p).length);have HL:=qH hL;rw[<- hL]at hlo HLP;have hLb:L<=62500000:=qc HLP.o hpl;clear hL;go_wp2_with fail;refine hlo.mono ?_;rintro e w1⟨g,cl,rfl,Ey,hb1⟩;have hcA1:w1.cell? ⟨GA,j,none⟩=some (.int .i64 (a:Int)):=qC hb1 hcA;have Ry:=qT hbx hb1;have Cc:=qH Ey;have Io:L<=cl/\cl<=9223372036854775807:=by obtain⟨_,ao',cap',e,e2,e3,_⟩:=id Cc.o;injection e with e4 e5 e6;subst e6;exact⟨e2,by simpa[maxLen]using e3⟩
      obtain⟨Rw,Rx⟩:=Io;clear hlo Ey hb1 Ac hcA hbx HMx Py;by_cases haL:a<L
      .
       have Xa:a<(lines p).length:=by rw[<- HL.o];exact haL
       have hh:=cc8 Xa;obtain⟨x,hx⟩:=qE ((lines p)[a]);rw[<- hx]at hh;have hcx:w1.cell? ⟨g,a,none⟩=some (S x):=by obtain⟨_,ao',cap',e,_,_,h5⟩:=Cc.o;injection e with e1 e2 e3;subst e1;obtain⟨b',off',e,hcc⟩:=h5 qO;injection e with e;injection e with e1 e2;subst e1 e2;have:=hcc a (S x) (by rw[qa,gEl Xa,hx];rfl);rwa [qk]at this
       obtain⟨xx,hxx⟩:=qE (⟨x.toArray⟩:ByteArray);have HXX:Hid (Value.string xx=S x):=by rw[hxx];exact rfl
       have hcx1:w1.cell? ⟨g,a,none⟩=some (.string xx):=by rw[hcx,<- HXX.o]
       obtain⟨r,hcr⟩:∃r,cur[j]?=some (x::r):=by
        cases hd:(lines p).drop a with
        | nil=>rw[hd]at hh;cases hh
        | cons y r=>rw[hd]at hh hcj;injection hh with hh;exact⟨r,by rw[hcj,hh]⟩
       have haI:(a:Int)<(L:Int):=qO;clear hcx hxx hx hh hcj Xa
       cases hlk:D7 cur j with
       | none=>
        have HL9:Hid _:=as7 hcr hlk;simp only[lix];clear hcr hlk hsx;go_wp2_with fail;go_quiet (fail);go_wp2_with fail;go_roundw
        case rel=>exact⟨j+1,xx,qO,by go_num,by rw[HL9.o];rfl,rfl,(show _=_ by rw[HL9.o];exact HXX.o),I9 Ry.o _⟩
        case measure=>simp[intOf];omega
       | some jt=>
        obtain⟨b',t⟩:=jt;rw[hlk]at hsx;have Ei:=bE5 HXX.o (show Value.string sx=S t from hsx.out);simp only[lix];have hb0:decide ((b':Int)<0)=false:=qG qO;by_cases hxt:x<t
        . have HL9:Hid _:=ay9 hcr hlk hxt;rw[qV hxt]at Ei;clear hcr hlk hxt hsx;go_wp2_with fail;go_quiet (fail);go_wp2_with fail;go_roundw
          case rel=>exact⟨j+1,xx,qO,by go_num,by rw[HL9.o];rfl,rfl,(show _=_ by rw[HL9.o];exact HXX.o),I9 Ry.o _⟩
          case measure=>simp[intOf];omega
        . have HL9:Hid _:=az0 hcr hlk hxt;rw[qG hxt]at Ei;clear hcr hlk hxt;go_wp2_with fail;go_roundw
          case rel=>exact⟨j+1,sx,qO,by go_num,by rw[HL9.o];rfl,rfl,(show _=_ by rw[HL9.o];exact hsx.out),Ry.o⟩
          case measure=>simp[intOf];omega
      . have Dt:(lines p).drop a=[]:=qi (by rw[<- HL.o];omega);rw[Dt]at hcj;have HL9:Hid _:=aE5 hcj;have haI:¬(a:Int)<(L:Int):=qO;clear hcj Dt;go_wp2_with fail;go_roundw
        case rel=>exact⟨j+1,sx,qO,by go_num,by rw[HL9.o],rfl,(show _=_ by rw[HL9.o];exact hsx.out),Ry.o⟩
        case measure=>simp[intOf];omega
     .
      obtain rfl:N=j:=qO;have HLE:=qH (show D7 cur N=least cur by unfold least;rw[HCL.o]);rw[HLE.o]at hsx;rw[HLE.o]
      cases hlk:least cur with
      | none=>
       have HD:=qH (show D=joined 2 ⟨k,word,n⟩ (bss.map lines) by
        obtain⟨_,_,_,_,_,_,h7,h8⟩:=HMx.o
        rw[<- HCU.o,av9 hlk]at h8
        rw[bF3,<- HPS.o]
        unfold V7
        rw[<- HTT.o,<- h8]
        simp[V6])
       have HRD:Hid (Reads wr u7 (joined 2 ⟨k,word,n⟩ (bss.map lines)).length ((joined 2 ⟨k,word,n⟩ (bss.map lines)).map S)):=by rw[<- HD.o];exact Reads.of_owns HMx.o.2.2.2.1
       obtain⟨_,o7,c7,rfl,_⟩:=id HRD.o;simp only[lix];clear hlk hsx hbx HMx HM9;go_wp2_with fail;refine (ai6 _ (joined 2 ⟨k,word,n⟩ (bss.map lines)) wr HRD.o HJL.o).mono ?_;rintro e w5⟨r5,rfl,hr5,hb5,hn5⟩;have HR5:=qH hr5;have HB5:=qT Py hb5;have HN5:Hid (∀a n c,r5=.slice (some a) n c->w.heap.size<=a.block):=(show ∀a n c,r5=.slice (some a) n c->w.heap.size<=a.block from fun a n c e=>qc Py.o.size (hn5 a n c e));clear hr5 hb5 hn5 HRD;go_wp2_with fail;go_ret;exact⟨_,rfl,HR5.o,HB5.o,HN5.o⟩
      | some bx=>
       obtain⟨b',x⟩:=bx;rw[hlk]at hsx;simp only[lix];have hlk':least (ab2 ps ats)=some (b',x):=by rw[<- HCU.o];exact hlk
       obtain⟨r,hcr,_⟩:=least_some hlk;have hbN:b'<N:=by have:=(gSm hcr).1;have:=HCL.o;omega
       obtain⟨a,ha⟩:∃a,ats[b']?=some a:=⟨_,gEl (by have:=HAL.o;omega)⟩;obtain⟨hcA,hfA⟩:=HMx.o.cell ha;have hxs:Value.string sx=S x:=hsx.out;have HXS:=qH hxs;have hwsx:w.heap.size+1<=wr.heap.size:=qc hws9 hbx.out.size;have haT:a<=62500000:=by
        have h1:(ab2 ps ats).flatten.length<=T:=by obtain⟨_,_,_,_,_,_,h7,_⟩:=HMx.o;omega
        have hpb:ps[b']?=some (ps[b']'(by have:=HPL.o;omega)):=gEl _;have h2:=ar6 hpb ha;rw[<- HCU.o,hcr]at h2;injection h2 with h2;have h3:a<(ps[b']'(by have:=HPL.o;omega)).length:=by
         rcases xo a (ps[b']'(by have:=HPL.o;omega)).length with h | h
         . exact h
         . rw[qi h]at h2;cases h2
        have h4:=A3 (mGt hpb);have:=HTT.o;omega
       have hDT:D.length<T:=by obtain⟨_,_,_,_,_,_,h7,_⟩:=HMx.o;have h9:=aa0 (by rw[<- HCU.o];exact hcr:(ab2 ps ats)[b']?=some (x::r));omega
       have HDT:=qH hDT;have HSL:Hid (sliceLen u7=D.length):=at0 HMx.o.2.2.2.1;have Eb:((wr.setCell ⟨GA,b',none⟩ (.int .i64 ((a:Int)+1))).alloc (.cells #[.string sx] 9)).ownsRow (w.heap.size+1) 9 1 u7 D.length (D.map S):=World.ownsRow.alloc (ownsRow_setCell_other HMx.o.2.2.2.1 HMx.o.2.2.2.2.1 _) _;have hDb:D.length<=62500000:=qO;clear hlk hsx hbx HM9 hcr hxs;go_wp2_with (at_builtin;refine wpList_append_own_at _ rfl (.tmp 127) (.tmp 129) 110 rfl (w.heap.size+1) 9 i0 (.string ⟨#[]⟩) 1 16 underlying110 hi hz0 hz1 hz2 rfl (by decide) _ _ _ rfl Eb ⟨wr.heap.size,0,none⟩ 1 1 [.string sx] rfl rfl ?c1 ?c2 ?c3 ?c4 ?c5 ?_)
       case c1=>
        intro j u hj
        match j,hj with
        | 0,hj=>
         simp at hj;subst hj;have hn:=qJ (wr.setCell ⟨GA,b',none⟩ (.int .i64 ((a:Int)+1))) (.cells #[.string sx] 9);rw[show (wr.setCell ⟨GA,b',none⟩ (.int .i64 ((a:Int)+1))).heap.size=wr.heap.size by simp]at hn;have Ce:(⟨wr.heap.size,0,none⟩:Addr).add 0=⟨wr.heap.size,0,none⟩:=by simp[Addr.add]
         rw[Ce,qY _ _ _ _ _ _ hn];rfl
       case c2=>intro u hu;simp at hu;subst hu;rfl
       case c3=>unfold maxLen;omega
       case c4=>omega
       case c5=>simp;omega
       intro v7' w2 Aq Af _ Re;have HM2:Hid (MJ w (w.alloc (.cells #[.int .i64 k,.string ⟨word.toArray⟩,.int .i64 n] 54)) w2 ps T GA (D++[x]) (ats.set b' (a+1)) v7'):=HMx.o.step hlk' ha HXS.o hwsx Aq Af (by simpa using Re);have HSL2:Hid (sliceLen v7'=D.length+1):=at0 Aq;clear Aq Af Re Eb HMx hcA hfA;go_wp2_with fail;go_roundw
       case rel=>exact⟨D++[x],_,HM2.o⟩
       case measure=>rw[HSL.o,HSL2.o];have:=HDT.o;omega
def Y0(B:Nat)(u:Value):Prop:=∀a n c,u=.slice (some a) n c->B<=a.block
theorem Y0.mono(h:Y0 B u)(hb:B'<=B):Y0 B' u:=fun a n c e=>qc hb (h a n c e)
theorem aP6{w:World}(h:w.ownsRow B e 1 v n xs):Y0 B v:=by
 intro a m c hv;rcases h.2 with⟨e1,_⟩|⟨g,cap,cur,e1,_⟩
 . rw[e1]at hv;injection hv with hv;cases hv
 . have h1:v.ownBlock=some g:=by rw[e1];rfl
   have h2:=(h.lt g h1).1;rw[e1]at hv;injection hv with hv;injection hv with hv;rw[<- hv];exact h2
theorem bq8(B n c:Nat):Y0 B (.slice none n c):=by
 intro a m k e;injection e with e
 cases e
def RNew(B:Nat)(w:World)(v:Value)(o:qL):Prop:=
 Y0 B v/\∃us:List Value,Reads w v o.length us/\∀(j:Nat) q,o[j]?=some q->∃u,us[j]?=some u/\Reads w u q.length (q.map U)/\Y0 B u
theorem RNew.list{w:World}(h:RNew B w v o):RList w v U o:=by obtain⟨_,us,h1,h2⟩:=h;refine⟨us,h1,fun j q hj=>?_⟩;obtain⟨u,h3,h4,_⟩:=h2 j q hj;exact⟨u,h3,h4⟩
theorem RNew.mono{w:World}(h:RNew B w v o)(hb:B'<=B):RNew B' w v o:=by obtain⟨h0,us,h1,h2⟩:=h;refine⟨h0.mono hb,us,h1,fun j q hj=>?_⟩;obtain⟨u,h3,h4,h5⟩:=h2 j q hj;exact⟨u,h3,h4,h5.mono hb⟩
theorem RNew.at{w:World}(h:RNew B w v o)(hk:o[k]?=some q):
 ∃b off cap au cu,v=.slice (some ⟨b,off,none⟩) o.length cap/\o.length<=cap/\cap<=maxLen/\w.cell? ⟨b,off+k,none⟩=some (.slice au q.length cu)/\Reads w (.slice au q.length cu) q.length (q.map U)/\Y0 B (.slice au q.length cu):=by obtain⟨_,us,⟨g1,ao,cap,rfl,g2,g3,g4⟩,h2⟩:=h;have hkl:k<o.length:=(gSm hk).1;obtain⟨b,off,rfl,hc⟩:=g4 qO;obtain⟨u,h3,h4,h5⟩:=h2 k q hk;obtain⟨au,cu,rfl,_,_⟩:=h4.shape;exact⟨b,off,cap,au,cu,rfl,g2,g3,hc k _ h3,h4,h5⟩
theorem bX4{w:World}(h:Reads w u q.length (q.map U))(hn:Y0 B u)(hB:B<=w.heap.size)(w':World)(hw:w'=w.alloc (.cells #[u] t)):RNew B w' (.slice (some ⟨w.heap.size,0,none⟩) 1 1) [q]:=by
 subst hw;refine⟨fun a n c e=>(by injection e with e;injection e with e;rw[<- e];exact hB),[u],⟨rfl,_,1,rfl,qA _,by unfold maxLen;omega,fun _=>⟨w.heap.size,0,rfl,fun j x hx=>?_⟩⟩,fun j p hj=>?_⟩
 . match j,hx with
   | 0,hx=>simp at hx;subst hx;rw[qY _ _ _ _ _ _ (qJ w _)];rfl
 . match j,hj with
   | 0,hj=>simp at hj;subst hj;exact⟨u,rfl,h.below ((Below.refl _ w).alloc (qA _) _),hn⟩
open Go.Lib (wpList_append_own_string)
theorem bA8(J:qU):((⟨J.toArray⟩:ByteArray)++⟨#[10]⟩).data.toList=J++[10]:=by simp[ByteArray.data_append]
theorem bG0(n p:Nat)(h:0<p):p*n / p=n:=Nat.mul_div_cancel_left n h
theorem bA9(bs:qU)(p k:Nat)(h:k<p)(hn:¬0<(lines bs).length):partOf bs p k=[]:=by have:lines bs=[]:=qn qO;simp[partOf,this,ended]
theorem bh0{w:World}(h:Reads w (.slice (some ⟨g,0,none⟩) n cap) n xs):∀j u,xs[j]?=some u->w.cell? ⟨g,j,none⟩=some u:=by intro j u hj;obtain⟨hl,_,_,e,_,_,h4⟩:=h;simp only[xT,true_and]at e;obtain⟨rfl,rfl⟩:=e;have hjl:j<xs.length:=(gSm hj).1;obtain⟨b',off',e,hcc⟩:=h4 qO;simp only[qe,Addr.mk.injEq,and_true]at e;obtain⟨rfl,rfl⟩:=e;have:=hcc j u hj;rwa [qk]at this
def T9(B:Nat)(w:World)(v:Value)(n:Nat)(xs:List Value):Prop:=
 Reads w v n xs/\∀b off c,v=.slice (some ⟨b,off,none⟩) n c->n≠0->b<B
theorem T9.mono{w:World}(h:T9 B w v n xs)(hB:B<=B'):T9 B' w v n xs:=
 ⟨h.1,fun b off c e hn=>zJ (h.2 b off c e hn) hB⟩
theorem T9.of_reads{w:World}(h:Reads w v n xs):T9 w.heap.size w v n xs:=by refine⟨h,fun b off c e hn=>?_⟩;obtain⟨hl,ao,cap,e',_,_,h4⟩:=h;obtain⟨b',off',rfl,hc⟩:=h4 hn;rw[e]at e';simp only[xT,qe,Addr.mk.injEq,and_true,true_and]at e';obtain⟨⟨rfl,rfl⟩,rfl⟩:=e';have h0:0<xs.length:=qO;exact bLt w _ (hc 0 xs[0] (by simp[h0]))
theorem T9.grown{w w':World}(h:T9 B w v n xs)(hg:w.grownBy w' row)(hr:∀k,row=some k->B<=k):T9 B w' v n xs:=by refine⟨?_,h.2⟩;obtain⟨⟨hl,ao,cap,rfl,h2,h3,h4⟩,Kt⟩:=h;refine⟨hl,ao,cap,rfl,h2,h3,fun hn=>?_⟩;obtain⟨b,off,rfl,hc⟩:=h4 hn;have hb:=Kt b off cap rfl hn;refine⟨b,off,rfl,fun j u hu=>hg.cell (hc j u hu) ?_⟩;intro e;have:=hr b e.symm;omega
theorem T9.setCell{w:World}(h:T9 B w v n xs)(ha:w.cell? a=some old)(x:Value)(hne:old∉xs):T9 B (w.setCell a x) v n xs:=
 ⟨h.1.setCell ha x hne,h.2⟩
structure SplR (w:World) (bs:qU) (p G g cap i k:Nat) (wr:World) (B:Nat) (vs:List Value) (vk:Value):Prop where
 own:wr.ownsRow w.heap.size 28 1 (.slice (some ⟨G,0,none⟩) p p) p vs
 gB:G<B
 bW:B<=wr.heap.size
 done:∀j,j<k->∃u,vs[j]?=some u/\T9 B wr u (partOf bs p j).length ((partOf bs p j).map U)/\Y0 w.heap.size u
 now:vs[k]?=some vk
 row:wr.ownsRow B 5 1 vk (ended (((lines bs).take i).drop (k*(lines bs).length / p))).length ((ended (((lines bs).take i).drop (k*(lines bs).length / p))).map U)
 rest:∀j,k<j->j<p->vs[j]?=some (.slice none 0 0)
 src:T9 B wr (.slice (some ⟨g,0,none⟩) (lines bs).length cap) (lines bs).length ((lines bs).map S)
 bel:Below w.heap.size w wr
theorem bB0{w:World}(h:w.ownsRow base e 1 v n xs):∃ao cap,v=.slice ao n cap:=by
 rcases h.2 with⟨rfl,rfl⟩|⟨g,cap,cur,rfl,_⟩
 . exact⟨_,_,rfl⟩
 . exact⟨_,_,rfl⟩
theorem ch0(ao:Option Addr)(n cap:Nat)(l:qU):Value.slice ao n cap∉l.map U:=by intro h;simp[U]at h
theorem ch1(ao:Option Addr)(n cap:Nat)(l:qL):Value.slice ao n cap∉l.map S:=by intro h;simp[S]at h
theorem aP7(ls:qL)(i lo:Nat)(h:i<ls.length)(hlo:lo<=i):ended ((ls.take (i+1)).drop lo)=ended ((ls.take i).drop lo)++ls[i]++[10]:=by rw[List.take_succ_eq_append_getElem h,List.drop_append_of_le_length (by simp;omega),R9];simp[ended]
theorem bO5{w wr w1:World}{v':Value}(h:SplR w bs p G g cap i k wr B vs vk)(hk:k<p)(hi:i<(lines bs).length)(hlo:k*(lines bs).length / p<=i)
 (Ar:w1.ownsRow B 5 1 v' ((ended (((lines bs).take i).drop (k*(lines bs).length / p))).length+(((lines bs)[i]).length+1)) ((ended (((lines bs).take i).drop (k*(lines bs).length / p))).map U++((lines bs)[i]++[10]).map U)) (hg:wr.grownBy w1 vk.ownBlock):
 SplR w bs p G g cap (i+1) k (w1.setCell ⟨G,k,none⟩ v') B (vs.set k v') v':=by
 have hvl:vs.length=p:=by simpa using h.own.1
 have Ap:∀j,vk.ownBlock=some j->B<=j:=fun j hj=>(h.row.lt j hj).1;have Xb:some G≠vk.ownBlock:=fun e=>by have:=Ap G e.symm;have:=h.gB;omega
 have ho1:w1.ownsRow w.heap.size 28 1 (.slice (some ⟨G,0,none⟩) p p) p vs:=h.own.kept hg (Or.inr Xb);have hst:=ho1.stored k v';have hc1:w1.cell? ⟨G,k,none⟩=some vk:=(ho1.cellAt k qO).trans h.now;obtain⟨ao,cp,hvk⟩:=bB0 h.row;rw[hvk]at hc1;refine⟨hst.1,h.gB,by have:=hg.size;have:=h.bW;simp;omega,?_,by simp[hvl,hk],?_,?_,?_,?_⟩
 . intro j hj;obtain⟨u,h1,h2,h3⟩:=h.done j hj;exact⟨u,by rw[xe qO];exact h1,(h2.grown hg Ap).setCell hc1 _ (ch0 _ _ _ _),h3⟩
 . have:=ownsRow_setCell_below Ar (a:=⟨G,k,none⟩) h.gB v';have e:=aP7 (lines bs) i (k*(lines bs).length / p) hi hlo;rw[e];simpa[zK]using this
 . intro j h1 h2;rw[xe qO];exact h.rest j h1 h2
 . exact (h.src.grown hg Ap).setCell hc1 _ (ch1 _ _ _ _)
 . exact (h.bel.grown hg h.bel.size (fun j hj=>qc (qc (h.own.lt G rfl).1 (Nat.le_of_lt h.gB)) (Ap j hj))).setCell (h.own.lt G rfl).1 _
theorem bO6{w wr:World}(h:SplR w bs p G g cap i k wr B vs vk)(hk:k+1<p)(hi:i=(k+1)*(lines bs).length / p):
 SplR w bs p G g cap i (k+1) wr wr.heap.size vs (.slice none 0 0):=by
 have hGs:G<wr.heap.size:=zJ h.gB h.bW;have hpk:ended (((lines bs).take i).drop (k*(lines bs).length / p))=partOf bs p k:=by rw[hi];rfl
 refine⟨h.own,hGs,qA _,?_,h.rest (k+1) qO hk,?_,fun j h1 h2=>h.rest j qO h2,h.src.mono h.bW,h.bel⟩
 .
  intro j hj;by_cases e:j=k
  . subst e;refine⟨vk,h.now,?_⟩;have:=h.row;rw[hpk]at this;exact⟨T9.of_reads (Reads.of_owns this),(aP6 this).mono (qc (h.own.lt G rfl).1 (Nat.le_of_lt h.gB))⟩
  . obtain⟨u,h1,h2,h3⟩:=h.done j qO;exact⟨u,h1,h2.mono h.bW,h3⟩
 . have:((lines bs).take i).drop ((k+1)*(lines bs).length / p)=[]:=by rw[hi];simp
   rw[this];exact World.ownsRow_nil _ _ _ _
theorem bX5{w wr:World}(h:SplR w bs p G g cap (lines bs).length k wr B vs vk)(hk:k<p)(hp5:p<=5)(As:(lines bs).length=(k+1)*(lines bs).length / p):
 RNew w.heap.size wr (.slice (some ⟨G,0,none⟩) p p) ((List.range p).map (partOf bs p)):=by
 have hvl:vs.length=p:=by simpa using h.own.1
 have hl:((List.range p).map (partOf bs p)).length=p:=by simp
 refine⟨aP6 h.own,vs,⟨by rw[hl];exact hvl,_,_,by rw[hl],by rw[hl];exact qA _,by unfold maxLen;omega,fun _=>⟨G,0,rfl,fun j u hu=>?_⟩⟩,fun j q hj=>?_⟩
 . have hjl:j<p:=by have:=(gSm hu).1;omega
   rw[qk];exact (h.own.cellAt j qO).trans hu
 .
  rw[qa]at hj;have hj':j<p:=by
   rcases xo j p with h1 | h1
   . exact h1
   . rw[zN (by simpa using h1)]at hj;cases hj
  rw[xd hj']at hj;simp only[xG,qe]at hj;subst hj;by_cases h1:j<k
  . obtain⟨u,hu,hr,hn⟩:=h.done j h1;exact⟨u,hu,hr.1,hn⟩
  .
   by_cases h2:j=k
   . subst h2;refine⟨vk,h.now,?_⟩;have hr:=Reads.of_owns h.row;have e:ended (((lines bs).take (lines bs).length).drop (j*(lines bs).length / p))=partOf bs p j:=by unfold partOf;rw[<- As]
     rw[e]at hr;exact⟨hr,(aP6 h.row).mono (qc (h.own.lt G rfl).1 (Nat.le_of_lt h.gB))⟩
   . refine⟨_,h.rest j qO hj',?_⟩;have hz:partOf bs p j=[]:=by apply bA9 bs p j hj';intro hn;have h3:=aX5 (k+1) (lines bs).length p qO hn;omega
     rw[hz];exact⟨⟨rfl,none,0,rfl,qA _,by simp,fun h=>absurd rfl h⟩,bq8 _ _ _⟩
theorem aP8(n:Int)(h:0<=n/\n<=1000000000):IntKind.i64.wrap n=n:=by rw[zx];omega
theorem bX6{w:World}(h:T9 B w (.slice (some ⟨g,0,none⟩) n cap) n (ls.map S))(i:Nat)(hi:i<ls.length):w.cell? ⟨g,i,none⟩=some (.string ⟨ls[i].toArray⟩):=by have:=bh0 h.1 i (S ls[i]) (by simp[hi]);rw[this];rfl
theorem World.grownBy_refl(w:World)(row:Option Nat):w.grownBy w row:=⟨rfl,rfl,rfl,qA _,fun _ _ _=>rfl⟩
theorem aQ0{w wr w1:World}(h:SplR w bs p G g cap i k wr B vs vk)(hk:k<p)(hg:wr.grownBy w1 vk.ownBlock):
 w1.cell? ⟨G,k,none⟩=some vk/\w1.frozen? ⟨G,k,none⟩=false:=by
 have Xb:some G≠vk.ownBlock:=fun e=>by have:=(h.row.lt G e.symm).1;have:=h.gB;omega
 have ho1:w1.ownsRow w.heap.size 28 1 (.slice (some ⟨G,0,none⟩) p p) p vs:=h.own.kept hg (Or.inr Xb);exact⟨(ho1.cellAt k qO).trans h.now,ho1.frozenAt k⟩
theorem bq9(v:Value)(bs:qU)(p:Nat)(w:World)(hr:Reads w v bs.length (bs.map U))(hsh:w.ShapedOpen prog)(hle:bs.length<=62500000)(hp1:1<=p)(hp5:p<=5):
 Calls prog 82 #[v,.int .i64 (p:Int)] w fun e w'=>∃r,e=.returned r/\RNew w.heap.size w' r ((List.range p).map (partOf bs p))/\Bq w w':=by
 obtain⟨i0,hi,hz0,hz1,hz2⟩:=info_parts bf2;obtain⟨i1,hi1,hy0,hy1,hy2⟩:=info_parts bV1;have hb2:i0.bytes*p<=281474976710656:=by rw[hz2];omega
 have hb3:p<=maxLen:=by unfold maxLen;omega
 have hn4:(lines bs).length<=75000000:=qc (E6 bs) qO;have Om:Hid ((ended (lines bs)).length<=62500001):=qc (E8 bs) qO;go_enter func82,ntmps82;go_wp2_with (first|(go_at_call 56;refine (aA4 v bs _ hr hsh qO).mono ?_;rintro e w1⟨g,cap,rfl,hl,Aa⟩)|(at_make;refine wpList_make_full _ rfl (.tmp 12) (.tmp 12) 62 rfl w.heap.size 28 i0 (.slice none 0 0) 1 underlying62 hi hz0 hz1 .i64 .i64 _ _ p rfl rfl rfl rfl hb2 hb3 ?hsz ?_))
 case hsz=>exact Aa.size
 intro w2 Cm Af;have Dp:∃vs,SplR w bs p w1.heap.size g cap 0 0 w2 w2.heap.size vs (.slice none 0 0):=by
  have Oo:Bq w1 w2:=⟨Af.os,Af.tape,Af.output,Af.size,fun k hk=>Af.block k hk (by simp)⟩;refine⟨_,Cm,(Cm.lt _ rfl).2,qA _,fun j hj=>absurd hj (zm _),?_,by simpa[ended]using World.ownsRow_nil _ _ _ _,fun j _ hj=>?_,T9.of_reads (hl.below Oo),Aa.trans (Oo.mono Aa.size)⟩
  . rw[xK,xP,qF qO]
  . rw[xK,xP,qF hj]
 generalize hG:w1.heap.size=G at *;clear hG Cm Af hl Aa hsh hr;go_wp2_with fail
 go_loopw [7,16] (fun s7 s16 wr=>∃(i k B:Nat)(vs:List Value)(vk:Value),i<=(lines bs).length/\k<p/\s16=.int .i64 i/\s7=.int .i64 k/\k*(lines bs).length / p<=i/\i<=(k+1)*(lines bs).length / p/\SplR w bs p G g cap i k wr B vs vk)
  (fun _ s16 _=>(lines bs).length-(intOf s16).toNat)
 case atStart=>obtain⟨vs,h⟩:=Dp;exact⟨0,0,_,vs,_,qM _,qO,rfl,rfl,by simp,qM _,h⟩
 case round=>
  obtain⟨i,k,B,vs,vk,hin,hkp,rfl,rfl,hlo,hhi,hS⟩:=hrel;by_cases hlt:i<(lines bs).length
  .
   obtain⟨sx,Hsx,Ac⟩:∃sx:ByteArray,Hid (sx=⟨((lines bs)[i]).toArray⟩)/\wr.cell? ⟨g,i,none⟩=some (.string sx):=⟨⟨((lines bs)[i]).toArray⟩,rfl,bX6 hS.src i hlt⟩;have hrel1:∃(k B:Nat)(vs:List Value)(vk:Value),k<p/\(Value.int .i64 (k:Int))=.int .i64 (k:Int)/\k*(lines bs).length / p<=i/\i<=(k+1)*(lines bs).length / p/\SplR w bs p G g cap i k wr B vs vk:=⟨k,B,vs,vk,hkp,rfl,hlo,hhi,hS⟩;clear Dp;go_wp2_with fail;go_loopw [7] (fun s7 wx=>wx=wr/\∃(k B:Nat)(vs:List Value)(vk:Value),k<p/\s7=.int .i64 k/\k*(lines bs).length / p<=i/\i<=(k+1)*(lines bs).length / p/\SplR w bs p G g cap i k wr B vs vk) (fun s7 _=>p-(intOf s7).toNat)
   case atStart=>exact⟨rfl,k,B,vs,vk,hkp,rfl,hlo,hhi,hS⟩
   case round=>
    clear hrel1 hS hlo hhi;obtain⟨rfl,k2,B2,vs2,vk2,Pz,rfl,Jw,hhi2,hS2⟩:=hrel;obtain⟨-,-,hm3,hm4,-,hq2,-,hq4⟩:=ce0 k2 (lines bs).length p Pz hp5 hn4;have HN:Hid _:=And.intro Jw (And.intro hhi2 (And.intro hS2 (fun h:k2+1<p=>bO6 hS2 h)));have hk5:k2<=4:=qO;have As:k2+1=p->(k2+1)*(lines bs).length / p=(lines bs).length:=fun e=>by rw[e];exact bG0 _ _ qO
    have Hlast:Hid _:=As;clear Jw hS2 As;generalize hH:(k2+1)*(lines bs).length / p=hi' at *;have HH:Hid _:=hH;clear hH;have hw4:IntKind.i64.wrap ((k2:Int)+1)=(k2:Int)+1:=aP8 _ qO;have hw5:IntKind.i64.wrap (((k2:Int)+1)*((lines bs).length:Int))=((k2:Int)+1)*((lines bs).length:Int):=aP8 _ ⟨hm3,qO⟩;have hp0:¬p=0:=qO;have hhb:hi'<=375000000:=by rw[<- HH.o];have h1:(k2+1)*(lines bs).length<=5*75000000:=Nat.mul_le_mul qO hn4;exact qc (Nat.div_le_self _ _) h1
    have hw3:IntKind.i64.wrap (hi':Int)=(hi':Int):=aP8 _ qO;by_cases hge:hi'<=i
    .
     have hie:i=hi':=qO;have Hie:Hid _:=hie;clear hie;have Hk:Hid (k2+1<p):=by
      show k2+1<p;rcases xo (k2+1) p with h | h
      . exact h
      . have:=Hlast.o qO;have:=Hie.o;omega
     go_wp2_with fail;go_roundw
     case rel=>
      have h1:=HN.o.2.2.2 Hk.o Hie.o;refine⟨(by first|exact rfl | trivial),k2+1,_,vs2,_,Hk.o,by go_num,?_,?_,h1⟩
      . rw[HH.o];exact hge
      . have:=HH.o;have h2:(k2+1)*(lines bs).length / p<=(k2+1+1)*(lines bs).length / p:=Nat.div_le_div_right (ze _ qO);have:=Hie.o;omega
     case measure=>simp[intOf];omega
    .
     have hge':i<hi':=qO;have hS2:=HN.o.2.2.1;obtain⟨hcG,hfG⟩:=aQ0 hS2 Pz (World.grownBy_refl wr _);have Hcf:Hid _:=fun(w3:World)(hg:wr.grownBy w3 vk2.ownBlock)=>aQ0 hS2 Pz hg;have Ap:=hS2.row;have Hst:Hid _:=fun(w3:World)(v3:Value)=>bO5 (w1:=w3) (v':=v3) hS2 Pz hlt HN.o.1;have hbW:=hS2.bW;have Hen:Hid ((ended (((lines bs).take i).drop (k2*(lines bs).length / p))).length+(((lines bs)[i]).length+1)<=62500001):=by show _<=62500001;have h1:=aP7 (lines bs) i (k2*(lines bs).length / p) hlt HN.o.1;have h2:=Y6 (lines bs) (k2*(lines bs).length / p) (i+1);rw[h1]at h2;simp only[qI,ql,xI]at h2;have:=Om.o;omega
     have hsz:sx.size=((lines bs)[i]).length:=by rw[Hsx.o];simp[ByteArray.size]
     have hlen:(ended (((lines bs).take i).drop (k2*(lines bs).length / p))).length+(sx.size+1)<=62500001:=by rw[hsz];exact Hen.o
     have hcs:Lib.strCells (sx++⟨#[10]⟩)=((lines bs)[i]++[10]).map U:=by rw[Hsx.o];unfold Lib.strCells;rw[bA8];rfl
     have hss:(sx++(⟨#[10]⟩:ByteArray)).size=sx.size+1:=by rw[ByteArray.size_append];rfl
     have Hsz:Hid _:=hsz;have Hcs:Hid _:=hcs;have Hss:Hid _:=hss;generalize hX:(ended (((lines bs).take i).drop (k2*(lines bs).length / p))).length=m at *;have HX:Hid _:=hX;clear hX hsz hcs hss hge hS2;have hlen':m+(sx++(⟨#[10]⟩:ByteArray)).size<=62500001:=by rw[Hss.o];exact hlen
     go_wp2_with (at_builtin;refine wpList_append_own_string _ rfl (.tmp 37) (.tmp 39) 28 9 rfl B2 5 i1 underlying28 underlying9 hi1 hy0 hy1 hy2 _ _ _ rfl Ap (sx++⟨#[10]⟩) rfl (by unfold maxLen;omega) qO hbW ?_;intro v3 w3 Gf Bf _;obtain⟨hc3,hf3⟩:=Hcf.o w3 Bf;obtain⟨g3,c3,rfl⟩:=bt3 Gf (by rw[Hss.o];omega))
     rw[Hss.o,Hcs.o]at Gf;have R:Hid _:=Hst.o w3 (.slice (some ⟨g3,0,none⟩) (m+(sx.size+1)) c3) (by rw[<- Hsz.o];exact Gf) Bf;have Hlo:Hid _:=HN.o.1;clear Gf Bf hc3 hf3 Ap hcG hfG Hcf Hst hbW HN;go_roundw
     case rel=>
      refine⟨i+1,k2,B2,_,_,qO,Pz,by go_num,rfl,?_,?_,R.o⟩
      . have:=Hlo.o;omega
      . rw[HH.o];omega
     case measure=>simp[intOf];omega
  .
   have hkn:i=(lines bs).length:=qO;subst hkn;have As:(lines bs).length=(k+1)*(lines bs).length / p:=by
    have:(k+1)*(lines bs).length / p<=(lines bs).length:=by have h1:(k+1)*(lines bs).length<=p*(lines bs).length:=ze _ qO;have h2:=Nat.div_le_div_right (c:=p) h1;rw[bG0 _ _ qO]at h2;exact h2
    omega
   have R:Hid _:=And.intro (bX5 hS hkp hp5 As) hS.bel;clear As hS hlo hhi Dp;go_wp2_with fail;go_ret;exact⟨_,rfl,R.o.1,R.o.2⟩
theorem bA3(ao:Option Addr)(cap:Nat)(fs:List SFile)(n:qU)(w:World)(hf:o8 w (.slice ao fs.length cap) fs):
 Calls prog 81 #[.slice ao fs.length cap,.string ⟨n.toArray⟩] w fun e w'=>∃ab cb,e=.returned (.slice ab (E0 fs n).length cb)/\Reads w' (.slice ab (E0 fs n).length cb) (E0 fs n).length ((E0 fs n).map U)/\Bq w w':=by
 have hle:=ac2 hf;have HF:=qH hf;obtain⟨N,hN⟩:=qE fs.length;have HN:=qH hN;have hN1:N<=9223372036854775807:=qO;rw[<- hN]at HF ⊢;obtain⟨sx,hsx⟩:=qE (⟨n.toArray⟩:ByteArray);have HSX:=qH hsx;rw[<- hsx];clear hf hle hN hsx;go_enter func81,ntmps81;go_wp2_with fail;go_loopw [9] (fun i wr=>∃k:Nat,k<=N/\i=.int .i64 k/\Hid (Bq w wr)/\Hid (∀g∈fs.take k,g.name≠n)) (fun i _=>N-(intOf i).toNat)
 case atStart=>exact⟨0,qM _,rfl,Below.refl _ _,(show ∀g∈fs.take 0,g.name≠n by simp)⟩
 case round=>
  obtain⟨k,hk,rfl,Aa,hno⟩:=hrel;by_cases hlt:k<N
  .
   obtain⟨f,hfk⟩:∃f,fs[k]?=some f:=⟨_,gEl (by have:=HN.o;omega)⟩;have HFK:=qH hfk;obtain⟨b,off,ab,cb,rfl,hc0,hc1,hr⟩:=(o8.below HF.o Aa.o).at hfk;have HR:=qH hr;have hse:=aH8 f.name n;rw[<- HSX.o]at hse;by_cases hfn:f.name=n
   . have HFO:Hid (E0 fs n=f.b):=bI6 hfk hfn hno.out;have Wz:((⟨f.name.toArray⟩:ByteArray).toList==sx.toList)=true:=by rw[hse];simpa using hfn
     generalize (⟨f.name.toArray⟩:ByteArray)=fx at *;obtain⟨L,hL⟩:=qE f.b.length;have HL:=qH hL;rw[<- hL]at hc1;clear hfk hr hse hfn hno hL;go_wp2_with fail;go_ret;refine⟨ab,cb,?_,?_,Aa.o.alloc Aa.o.size _⟩
     . rw[HFO.o,<- HL.o];rfl
     . rw[HFO.o];exact Reads.below HR.o ac1
   .
    have HNo:Hid (∀g∈fs.take (k+1),g.name≠n):=(show ∀g∈fs.take (k+1),g.name≠n from by
     intro g hg
     rw[qZ,hfk]at hg
     simp only[zO,xY,zC]at hg
     rcases hg with hg | rfl
     . exact hno.out g hg
     . exact hfn)
    have Wz:((⟨f.name.toArray⟩:ByteArray).toList==sx.toList)=false:=by rw[hse];simpa using hfn
    generalize (⟨f.name.toArray⟩:ByteArray)=fx at *;obtain⟨L,hL⟩:=qE f.b.length;rw[<- hL]at hc1;clear hfk hr hse hfn hno hL;go_wp2_with fail;go_roundw
    case rel=>exact⟨k+1,qO,by go_num,Aa.o.alloc Aa.o.size _,HNo⟩
    case measure=>simp[intOf];omega
  .
   have HFO:Hid (E0 fs n=[]):=bI7 (by
    have e:=hno.out
    rw[qP (by have:=HN.o;omega)]at e
    exact e)
   clear hno;go_wp2_with fail;go_ret;refine⟨none,0,by rw[HFO.o];rfl,?_,Aa.o⟩;rw[HFO.o];exact⟨rfl,none,0,rfl,qA _,by simp[maxLen],fun h=>absurd rfl h⟩
theorem cd5(k:Int):([1,2,3,4,5]:List Int).contains k=Q3 k:=by rw[Bool.eq_iff_iff];simp[Q3];omega
theorem bB9(w:World)(o:Obj)(e:TypeId):∀j,j<([1,2,3,4,5]:List Int).length->((w.alloc o).alloc (.cells #[.int .i64 1,.int .i64 2,.int .i64 3,.int .i64 4,.int .i64 5] e)).cell? ⟨w.heap.size+1,0+j,none⟩=some (.int .i64 (([1,2,3,4,5]:List Int).getD j 0)):=by
 intro j hj;have h:=qJ (w.alloc o) (.cells #[.int .i64 1,.int .i64 2,.int .i64 3,.int .i64 4,.int .i64 5] e);have hs:(w.alloc o).heap.size=w.heap.size+1:=by simp
 rw[hs]at h;rw[qY _ _ _ _ _ _ h];have hj':j<5:=hj;have:j=0\/j=1\/j=2\/j=3\/j=4:=qO;rcases this with rfl | rfl | rfl | rfl | rfl <;> rfl
theorem ax1(c:Cmd)(w:World):
 Calls prog 53 #[c.v] w fun e w'=>e=.returned (.bool (Q3 c.kind))/\Bq w w':=by
 unfold Cmd.v;go_enter func53,ntmps53;go_wp2_with fail;refine (Tryz.slices_Contains_int _ 0 5 5 [1,2,3,4,5] c.kind _ (by decide) qO (bB9 w _ _)).mono ?_;rintro e w1⟨rfl,hw1⟩;have hB:Hid (Bq w w1):=by show Below _ _ _;rw[hw1];exact ((Below.refl _ w).alloc (qA _) _).alloc (by simp) _
 clear hw1;rw[show ([1,2,3,4,5]:List Int).take 5=[1,2,3,4,5] from rfl,cd5];go_wp2_with fail;go_ret;exact⟨rfl,hB.out⟩
open Go.Maps
def pcell(r:Int):List Value:=[.slice none 0 0,.int .i64 r,.bool false,.bool false]
structure QS where
 il:Nat
 ol:Nat
 gg:Nat
 go:Nat
def qcell(q:QS):List Value:=[.slice (some ⟨q.gg,0,none⟩) q.il q.il,.int .i64 0,.slice (some ⟨q.go,0,none⟩) q.ol q.ol,.bool false,.bool false]
def ad6(w:World)(g n:Nat):Prop:=∀j,j<n->w.cell? ⟨g,j,none⟩=some (.slice none 0 0)
structure NewAt (w2 wr:World) (bM:Nat) (vN vF vX vP vS:Value) (L:List Int) (Q:List QS):Prop where
 bel:Below w2.heap.size w2 wr
 lo:w2.heap.size<=bM
 box:wr.heap[bM]?=some (.cells #[vN,vF,vX,vP,vS] 30 (0,0))
 rX:wr.ownsRow w2.heap.size 61 4 vX L.length (L.map pcell).flatten
 rP:wr.ownsRow w2.heap.size 64 5 vP Q.length (Q.map qcell).flatten
 nX:vX.ownBlock≠some bM
 nP:vP.ownBlock≠some bM
 nXP:∀g,vX.ownBlock=some g->vP.ownBlock≠some g
 lists:∀q∈Q,q.il<=1000/\q.ol<=1000/\ad6 wr q.gg q.il/\ad6 wr q.go q.ol/\∀g,g=q.gg\/g=q.go->g<wr.heap.size/\g≠bM/\vX.ownBlock≠some g/\vP.ownBlock≠some g/\w2.heap.size<=g
theorem ab3{w w':World}(h:ad6 w g n)(hk:w'.heap[g]?=w.heap[g]?):ad6 w' g n:=fun j hj=>by
 have:=h j hj
 simp only[World.cell?]at this ⊢
 rw[hk]
 exact this
theorem NewAt.below{w2 wr w':World}{Q:List QS}(h:NewAt w2 wr bM vN vF vX vP vS L Q)(hb:Bq wr w'):NewAt w2 w' bM vN vF vX vP vS L Q:=by have hbl:bM<wr.heap.size:=(aSm h.box).1;have hs:=hb.size;refine⟨h.bel.trans (hb.mono h.bel.size),h.lo,(hb.block _ hbl).trans h.box,j5 h.rX (fun g hg=>hb.block g (h.rX.lt g hg).2),j5 h.rP (fun g hg=>hb.block g (h.rP.lt g hg).2),h.nX,h.nP,h.nXP,fun q hq=>?_⟩;obtain⟨a1,a2,a3,a4,a5⟩:=h.lists q hq;refine⟨a1,a2,ab3 a3 (hb.block _ (a5 _ (.inl rfl)).1),ab3 a4 (hb.block _ (a5 _ (.inr rfl)).1),fun g hg=>?_⟩;obtain⟨b1,b2,b3,b4⟩:=a5 g hg;exact⟨qO,b2,b3,b4⟩
theorem bP2:(prog.info? 61).map (fun i=>(i.zero,i.size,i.bytes))=some (some (.agg #[.slice none 0 0,.int .i64 0,.bool false,.bool false]),4,40):=aC4
theorem NewAt.pipe{w2 wr:World}{Q:List QS}(h:NewAt w2 wr bM vN vF vX vP vS L Q)(hL:L.length<=1000)(hc:∀j u,(pcell r)[j]?=some u->wr.cell? (ad.add j)=some u)(ty:TypeId):
 ∃v' w',(Builtin.append_ #[26,26] ty #[vX,.slice (some ad) 1 c]).run prog wr=.ok v' w'/\(∃a' c',v'=.slice a' (L.length+1) c')/\w'.heap[bM]?=wr.heap[bM]? /\ (∀g,g<wr.heap.size->g<w2.heap.size\/vX.ownBlock≠some g->w'.heap[g]?=wr.heap[g]?)/\(∀g,g<wr.heap.size->vX.ownBlock≠some g->v'.ownBlock≠some g)/\NewAt w2 (w'.setCell ⟨bM,2,none⟩ v') bM vN vF v' vP vS (L++[r]) Q:=by
 obtain⟨i0,hi,hi0,hi1,hi2⟩:=info_parts bP2;have hbl:bM<wr.heap.size:=(aSm h.box).1;obtain⟨v',w',hr,Ab,hg,_,hl⟩:=run_append_own_at (P:=prog) wr w2.heap.size 26 ty 61 i0 (.agg #[.slice none 0 0,.int .i64 0,.bool false,.bool false]) 4 40 underlying26 hi hi0 hi1 hi2 rfl (by decide) vX L.length (L.map pcell).flatten h.rX ad 1 c (pcell r) rfl hc (fun u hu=>by unfold pcell at hu;simp at hu;rcases hu with rfl | rfl | rfl | rfl <;> rfl) (by unfold maxLen;omega) qO h.bel.size;have hk:∀g,g<wr.heap.size->vX.ownBlock≠some g->w'.heap[g]?=wr.heap[g]?:=fun g hgs hn=>hg.block g hgs (fun e=>hn e.symm);have hbM:w'.heap[bM]?=wr.heap[bM]?:=hk bM hbl h.nX;obtain⟨⟨a',c',hv',_,_⟩,_⟩:=g8 Ab;have hs:=hg.size;have hnX':v'.ownBlock≠some bM:=fun e=>by
  rcases hl with e1 | e1
  . exact h.nX (by rw[<- e1];exact e)
  . rw[e1]at e;injection e with e;omega
 have hk2:∀g,g≠bM->(w'.setCell ⟨bM,2,none⟩ v').heap[g]?=w'.heap[g]?:=fun g hg'=>Below.heap_setCell _ _ _ _ hg';have Kt:∀g,g<w2.heap.size->vX.ownBlock≠some g:=fun g hg' e=>by have:=(h.rX.lt g e).1;omega
 have Ah:∀g,g<wr.heap.size->vX.ownBlock≠some g->v'.ownBlock≠some g:=fun g h1 h2 e=>by
  rcases hl with e1 | e1
  . exact h2 (by rw[<- e1];exact e)
  . rw[e1]at e;injection e with e;omega
 refine⟨v',w',hr,⟨a',c',hv'⟩,hbM,fun g h1 h2=>hk g h1 (by rcases h2 with h2 | h2;exact Kt g h2;exact h2),Ah,?_⟩;refine⟨⟨hg.os.trans h.bel.os,hg.tape.trans h.bel.tape,hg.output.trans h.bel.output,by have:=h.bel.size;simp;omega,fun g hg'=>?_⟩,h.lo,?_,?_,?_,hnX',h.nP,fun g hg'=>?_,fun q hq=>?_⟩
 . rw[hk2 g (by have:=h.lo;omega),hk g (by have:=h.bel.size;omega) (Kt g hg')];exact h.bel.block g hg'
 . have hb':=hbM.trans h.box;rw[zH w' bM 2 _ _ (0,0) v' hb'];exact setRow_heap w' bM _ _ _ _ hb'
 . rw[xF,zt,qI];refine j5 ?_ (fun g hg'=>hk2 g (fun e=>hnX' (by rw[<- e];exact hg')));simpa using Ab
 . refine j5 h.rP (fun g hg'=>?_);rw[hk2 g (fun e=>h.nP (by rw[<- e];exact hg'))];exact hk g (h.rP.lt g hg').2 (fun e=>h.nXP g e hg')
 .
  rcases hl with e1 | e1
  . exact h.nXP g (by rw[<- e1];exact hg')
  . rw[e1]at hg';injection hg' with hg';intro e;have:=(h.rP.lt g e).2;omega
 . obtain⟨a1,a2,a3,a4,a5⟩:=h.lists q hq;have hq1:=a5 _ (.inl rfl);have hq2:=a5 _ (.inr rfl);refine⟨a1,a2,ab3 a3 ((hk2 _ hq1.2.1).trans (hk _ hq1.1 hq1.2.2.1)),ab3 a4 ((hk2 _ hq2.2.1).trans (hk _ hq2.1 hq2.2.2.1)),fun g hg'=>?_⟩;obtain⟨b1,b2,b3,b4⟩:=a5 g hg';exact⟨by simp;omega,b2,Ah g b1 b3,b4⟩
theorem NewAt.proc{w2 wr:World}{Q:List QS}(h:NewAt w2 wr bM vN vF vX vP vS L Q)(hQ:Q.length<=1000){q:QS}(hc:∀j u,(qcell q)[j]?=some u->wr.cell? (ad.add j)=some u)(ty:TypeId)
 (hq:q.il<=1000/\q.ol<=1000/\ad6 wr q.gg q.il/\ad6 wr q.go q.ol/\∀g,g=q.gg\/g=q.go->g<wr.heap.size/\g≠bM/\vX.ownBlock≠some g/\vP.ownBlock≠some g/\w2.heap.size<=g):
 ∃v' w',(Builtin.append_ #[27,27] ty #[vP,.slice (some ad) 1 c]).run prog wr=.ok v' w'/\(∃a' c',v'=.slice a' (Q.length+1) c')/\w'.heap[bM]?=wr.heap[bM]? /\ (∀g,g<wr.heap.size->vP.ownBlock≠some g->w'.heap[g]?=wr.heap[g]?)/\Bq w2 w'/\NewAt w2 (w'.setCell ⟨bM,3,none⟩ v') bM vN vF vX v' vS L (Q++[q]):=by
 obtain⟨i0,hi,hi0,hi1,hi2⟩:=info_parts aC5;have hbl:bM<wr.heap.size:=(aSm h.box).1;obtain⟨v',w',hr,Ab,hg,_,hl⟩:=run_append_own_at (P:=prog) wr w2.heap.size 27 ty 64 i0 (.agg #[.slice none 0 0,.int .i64 0,.slice none 0 0,.bool false,.bool false]) 5 64 underlying27 hi hi0 hi1 hi2 rfl (by decide) vP Q.length (Q.map qcell).flatten h.rP ad 1 c (qcell q) rfl hc (fun u hu=>by unfold qcell at hu;simp at hu;rcases hu with rfl | rfl | rfl | rfl | rfl <;> rfl) (by unfold maxLen;omega) qO h.bel.size;have hk:∀g,g<wr.heap.size->vP.ownBlock≠some g->w'.heap[g]?=wr.heap[g]?:=fun g hgs hn=>hg.block g hgs (fun e=>hn e.symm);have hbM:w'.heap[bM]?=wr.heap[bM]?:=hk bM hbl h.nP;obtain⟨⟨a',c',hv',_,_⟩,_⟩:=g8 Ab;have hs:=hg.size;have hnP':v'.ownBlock≠some bM:=fun e=>by
  rcases hl with e1 | e1
  . exact h.nP (by rw[<- e1];exact e)
  . rw[e1]at e;injection e with e;omega
 have hk2:∀g,g≠bM->(w'.setCell ⟨bM,3,none⟩ v').heap[g]?=w'.heap[g]?:=fun g hg'=>Below.heap_setCell _ _ _ _ hg';have Kt:∀g,g<w2.heap.size->vP.ownBlock≠some g:=fun g hg' e=>by have:=(h.rP.lt g e).1;omega
 refine⟨v',w',hr,⟨a',c',hv'⟩,hbM,hk,⟨hg.os.trans h.bel.os,hg.tape.trans h.bel.tape,hg.output.trans h.bel.output,by have:=h.bel.size;omega,fun g hg'=>(hk g (by have:=h.bel.size;omega) (Kt g hg')).trans (h.bel.block g hg')⟩,?_⟩;have Ah:∀g,g<wr.heap.size->vP.ownBlock≠some g->v'.ownBlock≠some g:=fun g h1 h2 e=>by
  rcases hl with e1 | e1
  . exact h2 (by rw[<- e1];exact e)
  . rw[e1]at e;injection e with e;omega
 refine⟨⟨hg.os.trans h.bel.os,hg.tape.trans h.bel.tape,hg.output.trans h.bel.output,by have:=h.bel.size;simp;omega,fun g hg'=>?_⟩,h.lo,?_,?_,?_,h.nX,hnP',fun g hg'=>?_,fun p hp=>?_⟩
 . rw[hk2 g (by have:=h.lo;omega),hk g (by have:=h.bel.size;omega) (Kt g hg')];exact h.bel.block g hg'
 . have hb':=hbM.trans h.box;rw[zH w' bM 3 _ _ (0,0) v' hb'];exact setRow_heap w' bM _ _ _ _ hb'
 . refine j5 h.rX (fun g hg'=>?_);rw[hk2 g (fun e=>h.nX (by rw[<- e];exact hg'))];exact hk g (h.rX.lt g hg').2 (h.nXP g hg')
 . rw[xF,zt,qI];refine j5 ?_ (fun g hg'=>hk2 g (fun e=>hnP' (by rw[<- e];exact hg')));simpa using Ab
 . exact Ah g (h.rX.lt g hg').2 (h.nXP g hg')
 .
  have key:p.il<=1000/\p.ol<=1000/\ad6 wr p.gg p.il/\ad6 wr p.go p.ol/\∀g,g=p.gg\/g=p.go->g<wr.heap.size/\g≠bM/\vX.ownBlock≠some g/\vP.ownBlock≠some g/\w2.heap.size<=g:=by
   rcases xY.1 hp with hp | hp
   . exact h.lists p hp
   . rw[zC.1 hp];exact hq
  obtain⟨a1,a2,a3,a4,a5⟩:=key;have hq1:=a5 _ (.inl rfl);have hq2:=a5 _ (.inr rfl);refine⟨a1,a2,ab3 a3 ((hk2 _ hq1.2.1).trans (hk _ hq1.1 hq1.2.2.2.1)),ab3 a4 ((hk2 _ hq2.2.1).trans (hk _ hq2.1 hq2.2.2.2.1)),fun g hg'=>?_⟩;obtain⟨b1,b2,b3,b4⟩:=a5 g hg';exact⟨by simp;omega,b2,b3,Ah g b1 b4.1,b4.2⟩
theorem NewAt.procX{w2 wr:World}{Q:List QS}(h:NewAt w2 wr bM vN vF vX vP vS L Q)(hQ:Q.length<=1000){y W:World}(hy:Bq wr y)(hW:Bq y W){ad gg go il ol:Nat}(hil:il<=1000)(hol:ol<=1000)(hgg:wr.heap.size<=gg/\gg<y.heap.size)(hgo:wr.heap.size<=go/\go<y.heap.size)
 {C1 C2:Array Value} (h1:y.heap[gg]?=some (.cells C1 28 (0,0))) (h2:y.heap[go]?=some (.cells C2 28 (0,0))) (p1:∀j,j<il->C1[j]?=some (.slice none 0 0)) (p2:∀j,j<ol->C2[j]?=some (.slice none 0 0))
 (h3:y.heap[ad]?=some (.cells #[.slice (some ⟨gg,0,none⟩) il il,.int .i64 0,.slice (some ⟨go,0,none⟩) ol ol,.bool false,.bool false] 64 (0,0))) (ty:TypeId):
 ∃v' w',(Builtin.append_ #[27,27] ty #[vP,.slice (some ⟨ad,0,none⟩) 1 1]).run prog W=.ok v' w'/\(∃a' c',v'=.slice a' (Q.length+1) c')/\w'.heap[bM]?=wr.heap[bM]? /\ (∀g,g<wr.heap.size->vP.ownBlock≠some g->w'.heap[g]?=wr.heap[g]?)/\(∀g,g<W.heap.size->vP.ownBlock≠some g->w'.heap[g]?=W.heap[g]?)/\Bq w2 w'/\NewAt w2 (w'.setCell ⟨bM,3,none⟩ v') bM vN vF vX v' vS L (Q++[⟨il,ol,gg,go⟩]):=by
 have hbW:Bq wr W:=hy.trans (hW.mono hy.size);have hN:=h.below hbW;have hs1:=hy.size;have hs2:=hW.size;have hbl:bM<wr.heap.size:=(aSm h.box).1;have hadl:ad<y.heap.size:=(aSm h3).1;have n1:ad6 W gg il:=fun j hj=>by rw[qY _ _ _ _ _ _ ((hW.block gg hgg.2).trans h1)];exact p1 j hj
 have n2:ad6 W go ol:=fun j hj=>by rw[qY _ _ _ _ _ _ ((hW.block go hgo.2).trans h2)];exact p2 j hj
 obtain⟨v',w',e1,e2,e3,e5,e6,e4⟩:=NewAt.proc hN hQ (ad:=⟨ad,0,none⟩) (c:=1) (q:=⟨il,ol,gg,go⟩) (fun j u hu=>by
  rw[addP,qY _ _ _ _ _ _ ((hW.block ad hadl).trans h3),qk]
  rw[<- xH]
  exact hu) ty ⟨hil,hol,n1,n2,fun g hg=>by
   have hgx:wr.heap.size<=g/\g<y.heap.size:=by
    rcases hg with rfl | rfl
    . exact hgg
    . exact hgo
   refine⟨qO,qO,fun e=>?_,fun e=>?_,by have:=h.bel.size;omega⟩
   . have:=(h.rX.lt g e).2
     omega
   . have:=(h.rP.lt g e).2
     omega⟩
 exact⟨v',w',e1,e2,e3.trans (hbW.block bM hbl),fun g hg hn=>(e5 g qO hn).trans (hbW.block g hg),e5,e6,e4⟩
theorem aZ4{w:World}(h:ad6 w g n)(hn:n<=1000):RList w (.slice (some ⟨g,0,none⟩) n n) U (List.replicate n []):=by
 refine⟨List.replicate n (.slice none 0 0),⟨by simp,_,n,by simp,by simp,by unfold maxLen;omega,fun _=>⟨g,0,rfl,fun j u hu=>?_⟩⟩,fun j b hb=>?_⟩
 .
  rw[xP]at hu;split at hu
  . rename_i hj;injection hu with hu;subst hu;rw[qk];exact h j hj
  . cases hu
 .
  rw[xP]at hb;split at hb
  . rename_i hj;injection hb with hb;subst hb;exact⟨.slice none 0 0,by rw[xP,qF hj],rnil⟩
  . cases hb
theorem NewAt.mach{w2 wr:World}{Q:List QS}(h:NewAt w2 wr bM vN vF vX vP vS L Q)(hN:y8 w2 vN ns)(hF:o8 w2 vF fs)(hS:vS=.slice aS 0 cs)(hcs:cs<=maxLen){M:SMach}(e1:M.ns=ns)(e2:M.fs=fs)(e3:M.pipes=L.map (fun r=>⟨[],r,false,false⟩))(e4:M.ps=Q.map (fun q=>⟨List.replicate q.il [],0,List.replicate q.ol [],false,false⟩))(e5:M.sunk=[])(w':World)(hk:∀g,w2.heap.size<=g->w'.heap[g]?=wr.heap[g]?)(hN':y8 w' vN ns)(hF':o8 w' vF fs):
 ∃an af ax ap cn cf cx cp,vN=.slice an M.ns.length cn/\vF=.slice af M.fs.length cf/\vX=.slice ax M.pipes.length cx/\vP=.slice ap M.ps.length cp/\RMach w' an af ax ap aS cn cf cx cp cs M:=by
 subst e1 e2;obtain⟨an,cn,eN,_,_⟩:=hN.shape;obtain⟨af,cf,eF,_,_⟩:=hF.shape;obtain⟨⟨ax,cx,eX,hx1,hx2⟩,hxf⟩:=g8 h.rX;obtain⟨⟨ap,cp,eP,hp1,hp2⟩,hpf⟩:=g8 h.rP;have hl1:M.pipes.length=L.length:=by rw[e3,qS]
 have hl2:M.ps.length=Q.length:=by rw[e4,qS]
 have Ac:∀g j u,w2.heap.size<=g->wr.cell? ⟨g,j,none⟩=some u->w'.cell? ⟨g,j,none⟩=some u:=fun g j u hg hu=>by have:=hk g hg;simp only[World.cell?]at hu ⊢;rw[this];exact hu
 refine⟨an,af,ax,ap,cn,cf,cx,cp,eN,eF,by rw[hl1];exact eX,by rw[hl2];exact eP,by rw[eN]at hN';exact hN',by rw[eF]at hF';exact hF',⟨ax,cx,rfl,qO,hx2,fun hn=>?_⟩,⟨ap,cp,rfl,qO,hp2,fun hn=>?_⟩,?_⟩
 .
  obtain⟨g,c,q1,_,_,_,hc,_⟩:=hxf qO;have hgl:=(h.rX.lt g (by rw[q1];rfl)).1;rw[eX]at q1;injection q1 with q1 _ _;refine⟨g,0,q1,fun j x hx=>?_⟩;rw[e3,qa]at hx
  cases hr:L[j]? with
  | none=>rw[hr]at hx;cases hx
  | some r=>rw[hr]at hx;simp only[xG,qe]at hx;subst hx;have hjl:j<L.length:=(gSm hr).1;have hat:=aa2 (k:=4) (L.map pcell) j (pcell r) (fun y hy=>by obtain⟨z,_,rfl⟩:=xA.1 hy;rfl) (by rw[qa,hr];rfl);rw[qk];exact⟨none,0,Ac g _ _ hgl ((hc (j*4) qO).trans (hat 0 qO)),Ac g _ _ hgl ((hc (j*4+1) qO).trans (hat 1 qO)),Ac g _ _ hgl ((hc (j*4+2) qO).trans (hat 2 qO)),Ac g _ _ hgl ((hc (j*4+3) qO).trans (hat 3 qO)),rnil⟩
 .
  obtain⟨g,c,q1,_,_,_,hc,_⟩:=hpf qO;have hgl:=(h.rP.lt g (by rw[q1];rfl)).1;rw[eP]at q1;injection q1 with q1 _ _;refine⟨g,0,q1,fun j p hp=>?_⟩;rw[e4,qa]at hp
  cases hr:Q[j]? with
  | none=>rw[hr]at hp;cases hp
  | some q=>
   rw[hr]at hp;simp only[xG,qe]at hp;subst hp;have hjl:j<Q.length:=(gSm hr).1;obtain⟨a1,a2,a3,a4,a5⟩:=h.lists q (mGt hr);have hat:=aa2 (k:=5) (Q.map qcell) j (qcell q) (fun y hy=>by obtain⟨z,_,rfl⟩:=xA.1 hy;rfl) (by rw[qa,hr];rfl);rw[qk];have Un:(List.replicate q.il ([]:qU)).length=q.il:=by simp
   have hlen2:(List.replicate q.ol ([]:qU)).length=q.ol:=by simp
   refine⟨some ⟨q.gg,0,none⟩,q.il,some ⟨q.go,0,none⟩,q.ol,?_,Ac g _ _ hgl ((hc (j*5+1) qO).trans (hat 1 qO)),?_,Ac g _ _ hgl ((hc (j*5+3) qO).trans (hat 3 qO)),Ac g _ _ hgl ((hc (j*5+4) qO).trans (hat 4 qO)),?_,?_⟩
   . simp only[Un];exact Ac g _ _ hgl ((hc (j*5) qO).trans (hat 0 qO))
   . simp only[hlen2];exact Ac g _ _ hgl ((hc (j*5+2) qO).trans (hat 2 qO))
   . simp only[Un];exact aZ4 (ab3 a3 (hk _ (a5 _ (.inl rfl)).2.2.2.2)) a1
   . simp only[hlen2];exact aZ4 (ab3 a4 (hk _ (a5 _ (.inr rfl)).2.2.2.2)) a2
 . rw[e5];exact⟨rfl,aS,cs,rfl,qM _,hcs,fun hn=>absurd rfl hn⟩
end Go.Proofs.YtmejdflmcikkdaaGreatDoor
namespace Go.Gs
open Go.RowKit
section
variable {P:Program} {ops:Array Oper} {Q:Exit->Act->World->Prop}
theorem aQ3{l:List Bool}{i:Nat}(h:l[i]?=some false):(l.set i true).count false+1=l.count false:=by
 induction l generalizing i with
 | nil=>simp at h
 | cons b l ih=>
  cases i with
  | zero=>simp only[qq,qe]at h;subst h;simp
  | succ i=>simp only[xO]at h;have:=ih h;simp only[List.set_cons_succ,List.count_cons];omega
theorem aQ4{listed:Array Bool}{i:Nat}(h:listed.getD i true=false):listed.toList[i]?=some false/\i<listed.size:=by
 rw[qN]at h
 cases hl:listed[i]? with
 | none=>rw[hl]at h;cases h
 | some b=>rw[hl]at h;simp only[zE]at h;subst h;exact⟨by simpa using hl,(aSm hl).1⟩
theorem bP3(hac : ∀(i : Nat)(o : Oper), ops[i]?=some o → ∀ e ∈ o.after, e.on < i)(Inv : (Nat → Bool) → Act → World → Prop)
    (Bo : ∀(L : Nat → Bool)(i : Nat)(o : Oper)(a : Act)(w : World), ops[i]?=some o → L i = false → (∀ e ∈ o.after, Region.binds .any e = true → L e.on = true) → Inv L a w → wpOp P ops Q i (fun a' w' => Inv (fun j => if j = i then true else L j) a' w') a w)
    (Cb : ∀(L : Nat → Bool)(a : Act)(w : World), (∀ i, i < ops.size → L i = true) → Inv L a w → Q .normal a w):
    ∀(fuel : Nat)(listed : Array Bool)(a : Act)(w : World), listed.size = ops.size → listed.toList.count false ≤ fuel → Inv (fun j => listed.getD j false) a w → wpAny P .any ops Q fuel listed a w := by
 have An : ∀(listed : Array Bool), listed.size = ops.size → Region.ready .any ops listed = [] → ∀ i, i < ops.size → listed.getD i false = true := by
  intro listed hs hr i
  induction i using Nat.strongRecOn with
  | ind i ih =>
   intro hi
   cases hl : listed[i]? with
   | none => rw [Array.getElem?_eq_none_iff]at hl; omega
   | some b =>
    cases b with
    | true => rw [qN, hl]; rfl
    | false =>
     exfalso;have : i ∈ Region.ready .any ops listed := mem_ready.2 ⟨by rw [qN, hl]; rfl, ops[i], by simp [hi], fun e he hb => ih e.on (hac i _ (by simp [hi]) e he) (by have := hac i _ (show ops[i]?=some ops[i] by simp [hi]) e he; omega)⟩;rw [hr]at this
     cases this
 intro fuel
 induction fuel with
 | zero =>
  intro listed a w hs hc hI;have hr : Region.ready .any ops listed = [] := by rw [List.eq_nil_iff_forall_not_mem];intro i hi;obtain ⟨h1, _⟩ := mem_ready.1 hi;have h2 := (aQ4 h1).1;have : false ∈ listed.toList := zc h2;have := List.count_pos_iff.2 this;omega
  exact ⟨hr, Cb _ a w (An listed hs hr) hI⟩
 | succ fuel ih =>
  intro listed a w hs hc hI;refine ⟨fun hr => Cb _ a w (An listed hs hr) hI, fun i hi => ?_⟩;obtain ⟨h1, o, ho, h2⟩ := mem_ready.1 hi;obtain ⟨h3, h4⟩ := aQ4 h1
  have hLi : listed.getD i false = false := by rw [qN]; have : listed[i]?=some false := by simpa using h3
                                               rw [this]; rfl
  refine wpOp_mono ?_ (Bo _ i o a w ho hLi h2 hI);intro a' w' hI';refine ih _ a' w' (by simp [hs]) ?_ ?_
  . have := aQ3 h3;rw [Array.toList_setIfInBounds];omega
  . have e : (fun j => (listed.setIfInBounds i true).getD j false) = fun j => if j = i then true else listed.getD j false := by
     funext j;by_cases hj : j = i
     . subst hj;rw [qF rfl, qN, zb h4];rfl
     . rw [qB hj, getD_set_ne false (fun e => hj e.symm)]
    rw [e];exact hI'
theorem at1{id:Nat}{a:Act}{w:World}(hm:P.follows .mixedOrders=true)(hac:((List.range ops.size).all fun i=>((ops[i]?).map (·.after.all fun e=>decide (e.on<i))).getD true)=true)(Inv:(Nat->Bool)->Act->World->Prop)
 (Bo:∀(L:Nat->Bool)(i:Nat)(o:Oper)(a:Act)(w:World),ops[i]?=some o->L i=false->(∀e∈o.after,Region.binds .any e=true->L e.on=true)->Inv L a w->wpOp P ops Q i (fun a' w'=>Inv (fun j=>if j=i then true else L j) a' w') a w)
 (Cb:∀(L:Nat->Bool)(a:Act)(w:World),(∀i,i<ops.size->L i=true)->Inv L a w->Q .normal a w)
 (h0:Inv (fun _=>false) a { w with drawn:=w.drawn+1 }):(Code.region id ops true).wp P Q a w:=by
 refine wp_region_any hm (bP3 ?_ Inv Bo Cb ops.size _ a _ (by simp) (by simp) ?_)
 . intro i o ho e he;have hi:i<ops.size:=(aSm ho).1;have:=zw.1 hac i (zB.2 hi);rw[ho]at this;simp only[xG,zE,Array.all_eq_true_iff_forall_mem,zh]at this;exact this e he
 .
  have e:(fun j=>(Array.replicate ops.size false).getD j false)=fun _=>false:=by
   funext j;rw[qN]
   cases h:(Array.replicate ops.size false)[j]? with
   | none=>rfl
   | some b=>have:=Array.mem_of_getElem? h;rw[Array.mem_replicate]at this;rw[this.2];rfl
  rw[e];exact h0
end
end Go.Gs
namespace Go.Gs
open Go.RowKit
variable {a a0:Act}{d s f n:Nat}{v:Value}{V:Nat->Value->World->Prop}{W0 W:World}{L:Nat->Bool}
def updV(L:Nat->Bool)(i:Nat):Nat->Bool:=fun j=>if j=i then true else L j
theorem bY3(h:s≠d):(a.put (some d) v).eval (.tmp s)=a.eval (.tmp s):=by simp only[Act.put,Act.eval];rw[qN,qN,Array.getElem?_setIfInBounds_ne (Ne.symm h)]
theorem bY4(h:d<a.tmps.size):(a.put (some d) v).eval (.tmp d)=v:=by simp only[Act.put,Act.eval];rw[qN,zb h];rfl
structure OV (f n:Nat) (V:Nat->Value->World->Prop) (a0:Act) (W0:World) (L:Nat->Bool) (a:Act) (W:World):Prop where
 sz:a.tmps.size=a0.tmps.size
 df:a.defers=a0.defers
 be:Below W0.heap.size W0 W
 vs:∀i,i<n->L i=true->V i (a.eval (.tmp (f+i))) W
 fr:∀s,s<f\/f+n<=s->a.tmps[s]?=a0.tmps[s]?
theorem OV.old(h:OV f n V a0 W0 L a W)(hs:s<f\/f+n<=s):a.eval (.tmp s)=a0.eval (.tmp s):=by simp only[Act.eval];rw[qN,qN,h.fr s hs]
theorem br3(f:Nat)(g:Nat->Value)(a0:Act):∀m,f+m<=a0.tmps.size->((List.range m).foldl (fun b i=>b.put (some (f+i)) (g i)) a0).defers=a0.defers/\((List.range m).foldl (fun b i=>b.put (some (f+i)) (g i)) a0).tmps.size=a0.tmps.size /\
 ∀s:Nat,((List.range m).foldl (fun b i=>b.put (some (f+i)) (g i)) a0).tmps[s]?=if f<=s/\s<f+m then some (g (s-f)) else a0.tmps[s]?
 | 0,_=>⟨rfl,rfl,fun s=>by rw[qB qO];rfl⟩
 | m+1,hm=>by
  obtain⟨h1,h2,h3⟩:=br3 f g a0 m qO
  rw[List.range_succ,List.foldl_append]
  simp only[List.foldl_cons,List.foldl_nil]
  generalize (List.range m).foldl (fun b i=>b.put (some (f+i)) (g i)) a0=b at *
  refine⟨h1,by simp[Act.put,h2],fun s=>?_⟩
  simp only[Act.put]
  by_cases e:s=f+m
  . subst e
    rw[zb qO,qF qO]
    congr 2
    omega
  . rw[Array.getElem?_setIfInBounds_ne qO,h3 s]
    by_cases e2:f<=s/\s<f+m
    . rw[qF e2,qF qO]
    . rw[qB e2,qB qO]
theorem OV.form(h:OV f n V a0 W0 L a W)(hs:f+n<=a0.tmps.size):a=(List.range n).foldl (fun b i=>b.put (some (f+i)) (a.eval (.tmp (f+i)))) a0:=by
 obtain⟨h1,h2,h3⟩:=br3 f (fun i=>a.eval (.tmp (f+i))) a0 n hs;generalize (List.range n).foldl (fun b i=>b.put (some (f+i)) (a.eval (.tmp (f+i)))) a0=b at *;have ht:a.tmps=b.tmps:=by
  apply Array.ext_getElem?;intro s;rw[h3 s];by_cases e:f<=s/\s<f+n
  . rw[qF e];have hlt:s<a.tmps.size:=by rw[h.sz];omega
    rw[zT hlt];simp only[Act.eval];rw[show f+(s-f)=s by omega,qN,zT hlt];rfl
  . rw[qB e];exact h.fr s qO
 have hd:a.defers=b.defers:=by rw[h1,h.df]
 obtain⟨t1,d1⟩:=a;obtain⟨t2,d2⟩:=b;simp only at ht hd;subst ht hd;rfl
end Go.Gs
