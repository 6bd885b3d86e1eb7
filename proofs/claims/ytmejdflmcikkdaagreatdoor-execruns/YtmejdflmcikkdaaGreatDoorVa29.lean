/- What the library's ParseInt and FormatInt do; the first loop of the reference's Joined, plainly, and more. -/
import Derived.Test.YtmejdflmcikkdaaGreatDoorVAb
import Derived.Lib.ParseIntBTie
import Derived.Test.YtmejdflmcikkdaaGreatDoorVa28
import Derived.Test.YtmejdflmcikkdaaGreatDoorVa25
set_option linter.all false
set_option maxRecDepth 100000
set_option maxHeartbeats 64000000
namespace Go.Proofs.YtmejdflmcikkdaaGreatDoor
open Go.RowKit Go.Gs Tryz
variable {b s x bs cs:qU}{n k B j a T GA:Nat}{bss p D:qL}{w W0 wr w1 w2:World}{v7 v7' v:Value}{e:TypeId}{xs:List Value}{ps:List qL}{ats:List Nat}{sx:ByteArray}{o:Obj}
theorem aA6(s:ByteArray)(n:Int)(w:World)(hs:s.size<=281474976710656)(h:Lib.atoiAll s.data.toList=.ok n):
 Calls prog 110 #[.string s,.int .i64 10,.int .i64 64] w fun e w'=>e=.returned (.tuple #[.int .i64 n,.nilIface])/\Bq w w':=by refine (Tryz.strconv_ParseInt_10_at64_ok s qO n (by rw[Lib.parseIntB_64];exact h) w).mono ?_;rintro e w'⟨rfl,hw⟩;exact⟨rfl,aF1 hw⟩
theorem ar5(s:ByteArray)(w:World)(hs:s.size<=281474976710656)(hE:q8 w)(h:∀n,Lib.atoiAll s.data.toList≠.ok n):
 Calls prog 110 #[.string s,.int .i64 10,.int .i64 64] w fun e w'=>∃z t p,e=.returned (.tuple #[.int .i64 z,.iface t p])/\Bq w w':=by
 cases hc:Lib.atoiAll s.data.toList with
 | ok n=>exact absurd hc (h n)
 | «syntax»=>obtain⟨ev,h1,h2⟩:=hE.2.1;refine (Tryz.strconv_ParseInt_10_at64_syntax s hs (by rw[Lib.parseIntB_64];exact hc) ev w h1 h2).mono ?_;rintro e w'⟨N,rfl,_,_,hb⟩;exact⟨_,_,_,rfl,hb⟩
 | range=>obtain⟨ev,h1,h2⟩:=hE.2.2;refine (Tryz.strconv_ParseInt_10_at64_range s hs (by rw[Lib.parseIntB_64];exact hc) ev w h1 h2).mono ?_;rintro e w'⟨N,rfl,_,_,hb⟩;exact⟨_,_,_,rfl,hb⟩
theorem X8(h:s∈lines b)(hb:b.length<=n):s.length<=n:=by have h1:=ao5 h;have h2:=E8 b;omega
def A6(bss:qL)(k:Nat):qL:=((bss.take k).map lines).flatten
def sumTo(bss:qL)(k:Nat):Nat:=sumOf ((bss.take k).map lines)
theorem bg8{p:qU}(h:bss[k]?=some p):A6 bss (k+1)=A6 bss k++lines p:=by unfold A6;rw[qZ,h];simp
theorem ak4{p:qU}(h:bss[k]?=some p):sumTo bss (k+1)=sumTo bss k+S0 (lines p):=by unfold sumTo;rw[qZ,h];simp[sumOf]
theorem ab1(bss:qL)(k:Nat):(A6 bss k).length<=bss.flatten.length:=by unfold A6;exact qc (F6 _) (bD6 bss k)
def J1(w W0 wr:World)(bss:qL)(k:Nat)(v7:Value):Prop:=
 wr.ownsRow (w.heap.size+1) 9 1 v7 (A6 bss k).length ((A6 bss k).map S)/\Below (w.heap.size+1) W0 wr
theorem J1.more{L:Nat}{p:qU}(h:J1 w W0 wr bss k v7)(hp:bss[k]?=some p)(hb:Bq wr w1)(hL:L=(lines p).length)(hs:w.heap.size+1<=wr.heap.size)
 (Ab:w2.ownsRow (w.heap.size+1) 9 1 v7' ((A6 bss k).length+L) ((A6 bss k).map S++(lines p).map S)) (hg:w1.grownBy w2 v7.ownBlock):J1 w W0 w2 bss (k+1) v7':=by
 refine⟨?_,?_⟩
 . rw[bg8 hp,qI,xF,<- hL];exact Ab
 . have h1:Below (w.heap.size+1) W0 w1:=h.2.trans (hb.mono hs);exact h1.grown hg (qc hs hb.size) (fun k hk=>(h.1.lt k hk).1)
theorem J1.below(h:J1 w W0 wr bss k v7)(hb:Bq wr w1)(hs:w.heap.size+1<=wr.heap.size):J1 w W0 w1 bss k v7:=
 ⟨A5 h.1 hb,h.2.trans (hb.mono hs)⟩
theorem ak5(z:Int)(w:World)(h0:-9223372036854775808<=z)(h1:z<=9223372036854775807)(hK:Q9 w):
 Calls prog 111 #[.int .i64 z,.int .i64 10] w fun e w'=>e=.returned (.string ⟨(Lib.itoa z).toArray⟩)/\Bq w w':=by refine (Tryz.strconv_FormatInt_10 z h0 h1 w hK.2).mono ?_;rintro e w1⟨rfl,q,os,hw1⟩;exact⟨rfl,by rw[hw1];exact af1 _ _ (qA _)⟩
theorem bA4(k n:Int)(word:qU)(ao:Option Addr)(cap:Nat)(bss:qL)(w:World)(h1:RList w (.slice ao bss.length cap) U bss)(hN5:bss.length<=5)(hT:bss.flatten.length<=62500000)(hE:q8 w)(hsh:w.ShapedOpen prog):
 Calls prog 83 #[.int .i64 1,.agg #[.int .i64 k,.string ⟨word.toArray⟩,.int .i64 n],.slice ao bss.length cap] w fun e w'=>∃r,e=.returned r/\Reads w' r (jOut 1 ⟨k,word,n⟩ bss).length ((jOut 1 ⟨k,word,n⟩ bss).map U)/\Bq w w'/\(∀a n c,r=.slice (some a) n c->w.heap.size<=a.block):=by
 obtain⟨i0,hi,hz0,hz1,hz2⟩:=info_parts J9;have hcap:bss.length<=cap/\cap<=9223372036854775807:=by obtain⟨ao',cap',e,h1',h2'⟩:=h1.shape;injection e with e1 e2 e3;subst e3;exact⟨h1',by simpa[maxLen]using h2'⟩
 obtain⟨hcN,hcm⟩:=hcap;have HP:=qH h1;have HE:=qH hE;have HSH:=qH hsh;have HT:=qH hT;have HJL:Hid ((ended (joined 1 ⟨k,word,n⟩ (bss.map lines))).length<=225000000):=by have h1:=U8 1 ⟨k,word,n⟩ (fun h=>absurd h (by decide)) (bss.map lines) (by have:=F6 bss;omega) (by simpa using hN5);have h2:=M6 bss;exact qc h1 qO
 obtain⟨N,hN⟩:=qE bss.length;have HN:=qH hN;rw[<- hN]at hN5 hcN ⊢;clear h1 hE hsh hT hN;go_enter func83,ntmps83;go_wp2_with fail;go_loopw [7,8,22] (fun v7 s i wr=>∃(j m:Nat),j<=N/\m<=4000*j/\i=.int .i64 j/\s=.int .i64 m/\Hid (m=sumTo bss j)/\Hid (J1 w (w.alloc (.cells #[.int .i64 k,.string ⟨word.toArray⟩,.int .i64 n] 54)) wr bss j v7)) (fun _ _ i _=>N-(intOf i).toNat)
 case atStart=>exact⟨0,0,qM _,qO,rfl,rfl,(show _=_ by simp[sumTo,sumOf]),⟨by simpa[A6]using World.ownsRow_nil _ (w.heap.size+1) 9 1,Below.refl _ _⟩⟩
 case round=>
  obtain⟨j,m,hj,hm,rfl,rfl,hms,hrel⟩:=hrel;have HBw:Hid (Bq w wr):=l8 hrel.out.2;have hws:w.heap.size+1<=wr.heap.size:=by have:=hrel.out.2.size;simpa using this
  by_cases hlt:j<N
  .
   obtain⟨p,hpk⟩:∃p,bss[j]?=some p:=⟨_,gEl (by have:=HN.o;omega)⟩;have HPK:=qH hpk;have HPr:Hid (RList wr (.slice ao N cap) U bss):=by rw[HN.o];exact HP.o.below HBw.o
   obtain⟨b,off,au,cu,rfl,Ac,hru⟩:=HPr.o.at hpk;have hpl:p.length<=62500000:=qc (A3 (mGt hpk)) HT.o;have hlo:=af6 (.slice au p.length cu) p wr hru (M4 HSH.o HBw.o) qO;have HLT:Hid _:=ab1 bss j;have HLP:Hid _:=E6 p;have hSS:sumTo bss (j+1)=m+S0 (lines p):=by rw[ak4 hpk,<- hms.out]
   have HLS:Hid (∀s∈lines p,s.length<=62500000):=fun s hs=>X8 hs hpl;have HHN:Hid _:=ac7 (lines p);clear hpk hru hms;obtain⟨pl,Ew⟩:=qE p.length;rw[<- Ew]at hlo Ac hpl HLP;clear Ew;obtain⟨L,hL⟩:=qE ((lines p).length);have HL:=qH hL;rw[<- hL]at hlo HLP;have hLb:L<=62500000:=qc HLP.o hpl;clear hL;have hFb:(A6 bss j).length<=62500000:=qc HLT.o HT.o;go_wp2_with fail;refine hlo.mono ?_;rintro e w1⟨g,cl,rfl,hgn,Ey,hb1⟩;have Gp:Hid _:=A5 hrel.out.1 hb1;have Cc:Hid (Reads w1 (.slice (some ⟨g,0,none⟩) L cl) (lines p).length ((lines p).map S)):=by have:=Ey;rw[HL.o]at this ⊢;exact this
   have hs1:w.heap.size+1<=w1.heap.size:=qc hws hb1.size;have HB1:=qH hb1;have HGN:=qH hgn;have Io:L<=cl/\cl<=9223372036854775807:=by obtain⟨_,ao',cap',e,e2,e3,_⟩:=id Cc.o;injection e with e4 e5 e6;subst e6;exact⟨by rw[HL.o];exact e2,by simpa[maxLen]using e3⟩
   obtain⟨Rw,Rx⟩:=Io;have Ar:w1.ownsRow (w.heap.size+1) 9 1 u7 (A6 bss j).length ((A6 bss j).map S):=Gp.o;clear hlo Ey hb1 hgn Gp;go_wp2_with (at_builtin;refine xB _ rfl (.tmp 28) (.tmp 29) 110 rfl (w.heap.size+1) 9 i0 (.string ⟨#[]⟩) 1 16 underlying110 hi hz0 hz1 hz2 rfl (by decide) _ _ _ rfl Ar ⟨g,0,none⟩ L cl ((lines p).map S) rfl ?c0 ?c1 ?c2 ?c3 ?c4 ?c5 ?_)
   case c0=>rw[qS,zI];exact HL.o.symm
   case c1=>
    intro i u hi;have Br:(lines p).length≠0:=by have hl:=(gSm hi).1;rw[qS]at hl;omega
    obtain⟨_,ao',cap',e,_,_,h5⟩:=Cc.o;injection e with e1 e2 e3;subst e1;obtain⟨b',off',e,hcc⟩:=h5 Br;injection e with e;injection e with e1 e2;subst e1 e2;have Ce:(⟨g,0,none⟩:Addr).add i=⟨g,0+i,none⟩:=by unfold Addr.add;split <;> simp_all
    rw[Ce];exact hcc i u hi
   case c2=>intro u hu;obtain⟨x,_,rfl⟩:=xA.1 hu;rfl
   case c3=>unfold maxLen;omega
   case c4=>omega
   case c5=>exact hs1
   intro v7' w2 Aq Af _;have HJ2:Hid (J1 w (w.alloc (.cells #[.int .i64 k,.string ⟨word.toArray⟩,.int .i64 n] 54)) w2 bss (j+1) v7'):=hrel.out.more HPK.o HB1.o HL.o hws Aq Af
   have Cj:Hid (Reads w2 (.slice (some ⟨g,0,none⟩) L cl) (lines p).length ((lines p).map S)):=af7 Cc.o Af (fun g' hg' e=>by
    have h7:=(hrel.out.1.lt g' e).2
    simp only[Value.ownBlock,qe]at hg'
    have:=HGN.o
    omega)
   clear Aq Af Ar Cc hrel HB1 HGN Ac
   cases hlp:lines p with
   | nil=>
    rw[hlp]at hSS HL;have hL0:L=0:=HL.o;subst hL0;have hS0:sumTo bss (j+1)=m:=hSS;have HS0:Hid (m=sumTo bss (j+1)):=hS0.symm;clear hSS hS0 Cj hlp;go_wp2_with fail;go_roundw
    case rel=>exact⟨j+1,m,qO,qO,by go_num,rfl,HS0,HJ2⟩
    case measure=>simp[intOf];omega
   | cons x r=>
    have HXS:Hid (x.length<=62500000):=HLS.o x (by rw[hlp];simp);rw[hlp,X7]at hSS;rw[hlp]at HL Cj;have hLr:L=r.length+1:=HL.o;have hL0:(0:Int)<(L:Int):=qO;obtain⟨b1,o1,sx,hb1,hcx,hsx,_,_⟩:=M9 (by have:=Cj.o;rw[HL.o]at this;exact this);injection hb1 with hb1;injection hb1 with hb1 hb2;subst hb1 hb2;obtain rfl:sx=⟨x.toArray⟩:=by unfold S at hsx;injection hsx
    have HSS:=qH hSS;have HB2:Hid (Bq w w2):=l8 HJ2.o.2;have hKE:=HE.o.below HB2.o;have hd:(⟨x.toArray⟩:ByteArray).data.toList=x:=rfl;have hsz:(⟨x.toArray⟩:ByteArray).size=x.length:=by simp[ByteArray.size]
    have hxz:(⟨x.toArray⟩:ByteArray).size<=281474976710656:=by have:=HXS.o;omega
    clear hSS hlp Cj HLS hsx hLr;have HN0:Hid _:=hKE;by_cases hok:∃z,Lib.atoiAll x=.ok z
    .
     obtain⟨z,hz⟩:=hok;have hzb:=Lib.atoiAll_bounds hz;have hpa:=aA6 ⟨x.toArray⟩ z w2 hxz (by rw[hd];exact hz);have Bg:Hid _:=an1 hz;clear hz hd hsz hxz hKE;obtain⟨sx,hsx⟩:=qE (⟨x.toArray⟩:ByteArray);have HSX:Hid (Value.string sx=S x):=by rw[hsx];exact rfl
     rw[<- hsx]at hpa hcx;clear hsx;go_wp2_with fail;refine hpa.mono ?_;rintro e w3⟨rfl,hb3⟩;have HJ3:Hid (J1 w (w.alloc (.cells #[.int .i64 k,.string ⟨word.toArray⟩,.int .i64 n] 54)) w3 bss (j+1) v7'):=HJ2.o.below hb3 (by have:=HJ2.o.2.size;simpa using this);have Eh:w3.cell? ⟨g,0,none⟩=some (.string sx):=qC hb3 hcx;have HK3:Hid (Q9 w3):=(q8.below HN0.o hb3).1;clear hpa hb3 hcx HJ2 HN0 HB2;by_cases hz0:0<=z
     .
      by_cases hz4:z<=4000
      .
       have q1:decide (0<=z)=true:=qV hz0;have q2:decide (z<=4000)=true:=qV hz4;obtain⟨tx,htx⟩:=qE (⟨(Lib.itoa z).toArray⟩:ByteArray);have cF:∀d os,Calls prog 111 #[.int .i64 z,.int .i64 10] (Go.Sort.grow (redrawn w3 d) os) fun e w''=>e=.returned (.string tx)/\∃p:Regrown,w''=Go.Sort.grow (redrawn w3 p.d) p.os:=fun d os=>Calls.regrown_of (by rw[htx];exact ak5 z _ hzb.1 hzb.2 (HK3.o.below (below_regrown w3 d os)));have hcr:∀d os,(Go.Sort.grow (redrawn w3 d) os).cell? ⟨g,0,none⟩=some (.string sx):=fun d os=>cell_regrown Eh d os;have Gq:(tx.toList==sx.toList)=decide (Lib.itoa z=x):=by
        have Ks:Value.string tx=S (Lib.itoa z):=by rw[htx];rfl
        rw[K4 Ks,K4 HSX.o];by_cases h:Lib.itoa z=x <;> simp[h]
       clear htx;by_cases heq:Lib.itoa z=x
       . have HS4:=qH (show sumTo bss (j+1)=m+z.toNat by rw[HSS.o,Bg.o,qF ⟨hz0,hz4,heq⟩]);rw[qV heq]at Gq;obtain⟨zn,rfl⟩:=qm hz0;rw[qh]at HS4;clear heq Bg Eh;go_wp2_with fail;refine wp_region_quiet_below qQ qQ ?_;repeat (first|go_big_quiet_step (exact cF _ _) | quiet_step (exact cF _ _))
         refine wpQuiet_nil ?_;intro _ hw';obtain⟨⟨dq,osq⟩,Av⟩:=hw';subst Av;have HJ4:Hid (J1 w (w.alloc (.cells #[.int .i64 k,.string ⟨word.toArray⟩,.int .i64 n] 54)) (Go.Sort.grow (redrawn w3 dq) osq) bss (j+1) v7'):=HJ3.o.below (below_regrown w3 dq osq) (by have:=HJ3.o.2.size;simpa using this);clear cF hcr HJ3;go_wp2_with fail;go_roundw
         case rel=>exact⟨j+1,m+zn,qO,qO,by go_num,by go_num,HS4.o.symm,HJ4⟩
         case measure=>simp[intOf];omega
       . have HS4:=qH (show m=sumTo bss (j+1) by rw[HSS.o,Bg.o,qB (fun h=>heq h.2.2)];rfl);rw[qG heq]at Gq;clear heq Bg Eh;go_wp2_with fail;refine wp_region_quiet_below qQ qQ ?_;repeat (first|go_big_quiet_step (exact cF _ _) | quiet_step (exact cF _ _))
         refine wpQuiet_nil ?_;intro _ hw';obtain⟨⟨dq,osq⟩,Av⟩:=hw';subst Av;have HJ4:Hid (J1 w (w.alloc (.cells #[.int .i64 k,.string ⟨word.toArray⟩,.int .i64 n] 54)) (Go.Sort.grow (redrawn w3 dq) osq) bss (j+1) v7'):=HJ3.o.below (below_regrown w3 dq osq) (by have:=HJ3.o.2.size;simpa using this);clear cF hcr HJ3;go_wp2_with fail;go_roundw
         case rel=>exact⟨j+1,m,qO,qO,by go_num,rfl,HS4,HJ4⟩
         case measure=>simp[intOf];omega
      . have q1:decide (0<=z)=true:=qV hz0;have q2:decide (z<=4000)=false:=qG hz4;have HS4:=qH (show m=sumTo bss (j+1) by rw[HSS.o,Bg.o,qB (fun h=>hz4 h.2.1)];rfl);go_wp2_with fail;go_quiet (fail);go_wp2_with fail;go_roundw
        case rel=>exact⟨j+1,m,qO,qO,by go_num,rfl,HS4,HJ3.o.below (I9 (Below.refl _ _) _) (by have:=HJ3.o.2.size;simpa using this)⟩
        case measure=>simp[intOf];omega
     . have q1:decide (0<=z)=false:=qG hz0;have HS4:=qH (show m=sumTo bss (j+1) by rw[HSS.o,Bg.o,qB (fun h=>hz0 h.1)];rfl);go_wp2_with fail;go_quiet (fail);go_wp2_with fail;go_roundw
       case rel=>exact⟨j+1,m,qO,qO,by go_num,rfl,HS4,HJ3.o.below (I9 (Below.refl _ _) _) (by have:=HJ3.o.2.size;simpa using this)⟩
       case measure=>simp[intOf];omega
    . have hpa:=ar5 ⟨x.toArray⟩ w2 hxz hKE (by rw[hd];exact fun z h=>hok ⟨z,h⟩);have HS4:=qH (show m=sumTo bss (j+1) by rw[HSS.o,ah8 (fun z h=>hok ⟨z,h⟩)];rfl);clear hok hd hsz hxz hKE;go_wp2_with fail;refine hpa.mono ?_;rintro e w3⟨z,t,p',rfl,hb3⟩;have HJ3:Hid (J1 w (w.alloc (.cells #[.int .i64 k,.string ⟨word.toArray⟩,.int .i64 n] 54)) w3 bss (j+1) v7'):=HJ2.o.below hb3 (by have:=HJ2.o.2.size;simpa using this);clear hpa hb3 HJ2 HB2 hcx;go_wp2_with fail;go_quiet (fail);go_wp2_with fail;go_roundw
      case rel=>exact⟨j+1,m,qO,qO,by go_num,rfl,HS4,HJ3.o.below (I9 (Below.refl _ _) _) (by have:=HJ3.o.2.size;simpa using this)⟩
      case measure=>simp[intOf];omega
  . obtain rfl:N=j:=qO;have HRD:Hid (Reads wr u7 (A6 bss N).length ((A6 bss N).map S)):=Reads.of_owns hrel.out.1;have HFL:=qH (show A6 bss N=joined 1 ⟨k,word,n⟩ (bss.map lines) by rw[bF2,HN.o];unfold A6;rw[qj]);rw[HFL.o]at HRD;obtain⟨_,o7,c7,rfl,_⟩:=id HRD.o;clear hrel;go_wp2_with fail;refine (ai6 _ (joined 1 ⟨k,word,n⟩ (bss.map lines)) wr HRD.o HJL.o).mono ?_;rintro e w5⟨r5,rfl,hr5,hb5,hn5⟩;have HR5:=qH hr5;have HB5:=qT HBw hb5;have HN5:Hid (∀a n c,r5=.slice (some a) n c->w.heap.size<=a.block):=(show ∀a n c,r5=.slice (some a) n c->w.heap.size<=a.block from fun a n c e=>qc HBw.o.size (hn5 a n c e));clear hr5 hb5 hn5 HRD;go_wp2_with fail;go_ret;exact⟨_,rfl,HR5.o,HB5.o,HN5.o⟩
theorem bg9(k n:Int)(word:qU)(ao:Option Addr)(cap:Nat)(bss:qL)(w:World)(h1:RList w (.slice ao bss.length cap) U bss)(hN5:bss.length<=5)(hT:bss.flatten.length<=62500000)(hE:q8 w)(hsh:w.ShapedOpen prog):
 Calls prog 83 #[.int .i64 3,.agg #[.int .i64 k,.string ⟨word.toArray⟩,.int .i64 n],.slice ao bss.length cap] w fun e w'=>∃r,e=.returned r/\Reads w' r (jOut 3 ⟨k,word,n⟩ bss).length ((jOut 3 ⟨k,word,n⟩ bss).map U)/\Bq w w'/\(∀a n c,r=.slice (some a) n c->w.heap.size<=a.block):=by
 obtain⟨i0,hi,hz0,hz1,hz2⟩:=info_parts J9;have hcap:bss.length<=cap/\cap<=9223372036854775807:=by obtain⟨ao',cap',e,h1',h2'⟩:=h1.shape;injection e with e1 e2 e3;subst e3;exact⟨h1',by simpa[maxLen]using h2'⟩
 obtain⟨hcN,hcm⟩:=hcap;have HP:=qH h1;have HE:=qH hE;have HSH:=qH hsh;have HT:=qH hT;have HJL:Hid ((ended (joined 3 ⟨k,word,n⟩ (bss.map lines))).length<=225000000):=by have h1:=U8 3 ⟨k,word,n⟩ (fun h=>absurd h (by decide)) (bss.map lines) (by have:=F6 bss;omega) (by simpa using hN5);have h2:=M6 bss;exact qc h1 qO
 obtain⟨N,hN⟩:=qE bss.length;have HN:=qH hN;rw[<- hN]at hN5 hcN ⊢;clear h1 hE hsh hT hN;go_enter func83,ntmps83;go_wp2_with fail;go_loopw [7,8,22] (fun v7 s i wr=>∃(j m:Nat),j<=N/\m<=4000*j/\i=.int .i64 j/\s=.int .i64 m/\Hid (m=sumTo bss j)/\Hid (J1 w (w.alloc (.cells #[.int .i64 k,.string ⟨word.toArray⟩,.int .i64 n] 54)) wr bss j v7)) (fun _ _ i _=>N-(intOf i).toNat)
 case atStart=>exact⟨0,0,qM _,qO,rfl,rfl,(show _=_ by simp[sumTo,sumOf]),⟨by simpa[A6]using World.ownsRow_nil _ (w.heap.size+1) 9 1,Below.refl _ _⟩⟩
 case round=>
  obtain⟨j,m,hj,hm,rfl,rfl,hms,hrel⟩:=hrel;have HBw:Hid (Bq w wr):=l8 hrel.out.2;have hws:w.heap.size+1<=wr.heap.size:=by have:=hrel.out.2.size;simpa using this
  by_cases hlt:j<N
  .
   obtain⟨p,hpk⟩:∃p,bss[j]?=some p:=⟨_,gEl (by have:=HN.o;omega)⟩;have HPK:=qH hpk;have HPr:Hid (RList wr (.slice ao N cap) U bss):=by rw[HN.o];exact HP.o.below HBw.o
   obtain⟨b,off,au,cu,rfl,Ac,hru⟩:=HPr.o.at hpk;have hpl:p.length<=62500000:=qc (A3 (mGt hpk)) HT.o;have hlo:=af6 (.slice au p.length cu) p wr hru (M4 HSH.o HBw.o) qO;have HLT:Hid _:=ab1 bss j;have HLP:Hid _:=E6 p;have hSS:sumTo bss (j+1)=m+S0 (lines p):=by rw[ak4 hpk,<- hms.out]
   have HLS:Hid (∀s∈lines p,s.length<=62500000):=fun s hs=>X8 hs hpl;have HHN:Hid _:=ac7 (lines p);clear hpk hru hms;obtain⟨pl,Ew⟩:=qE p.length;rw[<- Ew]at hlo Ac hpl HLP;clear Ew;obtain⟨L,hL⟩:=qE ((lines p).length);have HL:=qH hL;rw[<- hL]at hlo HLP;have hLb:L<=62500000:=qc HLP.o hpl;clear hL;have hFb:(A6 bss j).length<=62500000:=qc HLT.o HT.o;go_wp2_with fail;refine hlo.mono ?_;rintro e w1⟨g,cl,rfl,hgn,Ey,hb1⟩;have Gp:Hid _:=A5 hrel.out.1 hb1;have Cc:Hid (Reads w1 (.slice (some ⟨g,0,none⟩) L cl) (lines p).length ((lines p).map S)):=by have:=Ey;rw[HL.o]at this ⊢;exact this
   have hs1:w.heap.size+1<=w1.heap.size:=qc hws hb1.size;have HB1:=qH hb1;have HGN:=qH hgn;have Io:L<=cl/\cl<=9223372036854775807:=by obtain⟨_,ao',cap',e,e2,e3,_⟩:=id Cc.o;injection e with e4 e5 e6;subst e6;exact⟨by rw[HL.o];exact e2,by simpa[maxLen]using e3⟩
   obtain⟨Rw,Rx⟩:=Io;have Ar:w1.ownsRow (w.heap.size+1) 9 1 u7 (A6 bss j).length ((A6 bss j).map S):=Gp.o;clear hlo Ey hb1 hgn Gp;go_wp2_with (at_builtin;refine xB _ rfl (.tmp 28) (.tmp 29) 110 rfl (w.heap.size+1) 9 i0 (.string ⟨#[]⟩) 1 16 underlying110 hi hz0 hz1 hz2 rfl (by decide) _ _ _ rfl Ar ⟨g,0,none⟩ L cl ((lines p).map S) rfl ?c0 ?c1 ?c2 ?c3 ?c4 ?c5 ?_)
   case c0=>rw[qS,zI];exact HL.o.symm
   case c1=>
    intro i u hi;have Br:(lines p).length≠0:=by have hl:=(gSm hi).1;rw[qS]at hl;omega
    obtain⟨_,ao',cap',e,_,_,h5⟩:=Cc.o;injection e with e1 e2 e3;subst e1;obtain⟨b',off',e,hcc⟩:=h5 Br;injection e with e;injection e with e1 e2;subst e1 e2;have Ce:(⟨g,0,none⟩:Addr).add i=⟨g,0+i,none⟩:=by unfold Addr.add;split <;> simp_all
    rw[Ce];exact hcc i u hi
   case c2=>intro u hu;obtain⟨x,_,rfl⟩:=xA.1 hu;rfl
   case c3=>unfold maxLen;omega
   case c4=>omega
   case c5=>exact hs1
   intro v7' w2 Aq Af _;have HJ2:Hid (J1 w (w.alloc (.cells #[.int .i64 k,.string ⟨word.toArray⟩,.int .i64 n] 54)) w2 bss (j+1) v7'):=hrel.out.more HPK.o HB1.o HL.o hws Aq Af
   have Cj:Hid (Reads w2 (.slice (some ⟨g,0,none⟩) L cl) (lines p).length ((lines p).map S)):=af7 Cc.o Af (fun g' hg' e=>by
    have h7:=(hrel.out.1.lt g' e).2
    simp only[Value.ownBlock,qe]at hg'
    have:=HGN.o
    omega)
   clear Aq Af Ar Cc hrel HB1 HGN Ac
   cases hlp:lines p with
   | nil=>
    rw[hlp]at hSS HL;have hL0:L=0:=HL.o;subst hL0;have hS0:sumTo bss (j+1)=m:=hSS;have HS0:Hid (m=sumTo bss (j+1)):=hS0.symm;clear hSS hS0 Cj hlp;go_wp2_with fail;go_roundw
    case rel=>exact⟨j+1,m,qO,qO,by go_num,rfl,HS0,HJ2⟩
    case measure=>simp[intOf];omega
   | cons x r=>
    have HXS:Hid (x.length<=62500000):=HLS.o x (by rw[hlp];simp);rw[hlp,X7]at hSS;rw[hlp]at HL Cj;have hLr:L=r.length+1:=HL.o;have hL0:(0:Int)<(L:Int):=qO;obtain⟨b1,o1,sx,hb1,hcx,hsx,_,_⟩:=M9 (by have:=Cj.o;rw[HL.o]at this;exact this);injection hb1 with hb1;injection hb1 with hb1 hb2;subst hb1 hb2;obtain rfl:sx=⟨x.toArray⟩:=by unfold S at hsx;injection hsx
    have HSS:=qH hSS;have HB2:Hid (Bq w w2):=l8 HJ2.o.2;have hKE:=HE.o.below HB2.o;have hd:(⟨x.toArray⟩:ByteArray).data.toList=x:=rfl;have hsz:(⟨x.toArray⟩:ByteArray).size=x.length:=by simp[ByteArray.size]
    have hxz:(⟨x.toArray⟩:ByteArray).size<=281474976710656:=by have:=HXS.o;omega
    clear hSS hlp Cj HLS hsx hLr;have HN0:Hid _:=hKE;by_cases hok:∃z,Lib.atoiAll x=.ok z
    .
     obtain⟨z,hz⟩:=hok;have hzb:=Lib.atoiAll_bounds hz;have hpa:=aA6 ⟨x.toArray⟩ z w2 hxz (by rw[hd];exact hz);have Bg:Hid _:=an1 hz;clear hz hd hsz hxz hKE;obtain⟨sx,hsx⟩:=qE (⟨x.toArray⟩:ByteArray);have HSX:Hid (Value.string sx=S x):=by rw[hsx];exact rfl
     rw[<- hsx]at hpa hcx;clear hsx;go_wp2_with fail;refine hpa.mono ?_;rintro e w3⟨rfl,hb3⟩;have HJ3:Hid (J1 w (w.alloc (.cells #[.int .i64 k,.string ⟨word.toArray⟩,.int .i64 n] 54)) w3 bss (j+1) v7'):=HJ2.o.below hb3 (by have:=HJ2.o.2.size;simpa using this);have Eh:w3.cell? ⟨g,0,none⟩=some (.string sx):=qC hb3 hcx;have HK3:Hid (Q9 w3):=(q8.below HN0.o hb3).1;clear hpa hb3 hcx HJ2 HN0 HB2;by_cases hz0:0<=z
     .
      by_cases hz4:z<=4000
      .
       have q1:decide (0<=z)=true:=qV hz0;have q2:decide (z<=4000)=true:=qV hz4;obtain⟨tx,htx⟩:=qE (⟨(Lib.itoa z).toArray⟩:ByteArray);have cF:∀d os,Calls prog 111 #[.int .i64 z,.int .i64 10] (Go.Sort.grow (redrawn w3 d) os) fun e w''=>e=.returned (.string tx)/\∃p:Regrown,w''=Go.Sort.grow (redrawn w3 p.d) p.os:=fun d os=>Calls.regrown_of (by rw[htx];exact ak5 z _ hzb.1 hzb.2 (HK3.o.below (below_regrown w3 d os)));have hcr:∀d os,(Go.Sort.grow (redrawn w3 d) os).cell? ⟨g,0,none⟩=some (.string sx):=fun d os=>cell_regrown Eh d os;have Gq:(tx.toList==sx.toList)=decide (Lib.itoa z=x):=by
        have Ks:Value.string tx=S (Lib.itoa z):=by rw[htx];rfl
        rw[K4 Ks,K4 HSX.o];by_cases h:Lib.itoa z=x <;> simp[h]
       clear htx;by_cases heq:Lib.itoa z=x
       . have HS4:=qH (show sumTo bss (j+1)=m+z.toNat by rw[HSS.o,Bg.o,qF ⟨hz0,hz4,heq⟩]);rw[qV heq]at Gq;obtain⟨zn,rfl⟩:=qm hz0;rw[qh]at HS4;clear heq Bg Eh;go_wp2_with fail;refine wp_region_quiet_below qQ qQ ?_;repeat (first|go_big_quiet_step (exact cF _ _) | quiet_step (exact cF _ _))
         refine wpQuiet_nil ?_;intro _ hw';obtain⟨⟨dq,osq⟩,Av⟩:=hw';subst Av;have HJ4:Hid (J1 w (w.alloc (.cells #[.int .i64 k,.string ⟨word.toArray⟩,.int .i64 n] 54)) (Go.Sort.grow (redrawn w3 dq) osq) bss (j+1) v7'):=HJ3.o.below (below_regrown w3 dq osq) (by have:=HJ3.o.2.size;simpa using this);clear cF hcr HJ3;go_wp2_with fail;go_roundw
         case rel=>exact⟨j+1,m+zn,qO,qO,by go_num,by go_num,HS4.o.symm,HJ4⟩
         case measure=>simp[intOf];omega
       . have HS4:=qH (show m=sumTo bss (j+1) by rw[HSS.o,Bg.o,qB (fun h=>heq h.2.2)];rfl);rw[qG heq]at Gq;clear heq Bg Eh;go_wp2_with fail;refine wp_region_quiet_below qQ qQ ?_;repeat (first|go_big_quiet_step (exact cF _ _) | quiet_step (exact cF _ _))
         refine wpQuiet_nil ?_;intro _ hw';obtain⟨⟨dq,osq⟩,Av⟩:=hw';subst Av;have HJ4:Hid (J1 w (w.alloc (.cells #[.int .i64 k,.string ⟨word.toArray⟩,.int .i64 n] 54)) (Go.Sort.grow (redrawn w3 dq) osq) bss (j+1) v7'):=HJ3.o.below (below_regrown w3 dq osq) (by have:=HJ3.o.2.size;simpa using this);clear cF hcr HJ3;go_wp2_with fail;go_roundw
         case rel=>exact⟨j+1,m,qO,qO,by go_num,rfl,HS4,HJ4⟩
         case measure=>simp[intOf];omega
      . have q1:decide (0<=z)=true:=qV hz0;have q2:decide (z<=4000)=false:=qG hz4;have HS4:=qH (show m=sumTo bss (j+1) by rw[HSS.o,Bg.o,qB (fun h=>hz4 h.2.1)];rfl);go_wp2_with fail;go_quiet (fail);go_wp2_with fail;go_roundw
        case rel=>exact⟨j+1,m,qO,qO,by go_num,rfl,HS4,HJ3.o.below (I9 (Below.refl _ _) _) (by have:=HJ3.o.2.size;simpa using this)⟩
        case measure=>simp[intOf];omega
     . have q1:decide (0<=z)=false:=qG hz0;have HS4:=qH (show m=sumTo bss (j+1) by rw[HSS.o,Bg.o,qB (fun h=>hz0 h.1)];rfl);go_wp2_with fail;go_quiet (fail);go_wp2_with fail;go_roundw
       case rel=>exact⟨j+1,m,qO,qO,by go_num,rfl,HS4,HJ3.o.below (I9 (Below.refl _ _) _) (by have:=HJ3.o.2.size;simpa using this)⟩
       case measure=>simp[intOf];omega
    . have hpa:=ar5 ⟨x.toArray⟩ w2 hxz hKE (by rw[hd];exact fun z h=>hok ⟨z,h⟩);have HS4:=qH (show m=sumTo bss (j+1) by rw[HSS.o,ah8 (fun z h=>hok ⟨z,h⟩)];rfl);clear hok hd hsz hxz hKE;go_wp2_with fail;refine hpa.mono ?_;rintro e w3⟨z,t,p',rfl,hb3⟩;have HJ3:Hid (J1 w (w.alloc (.cells #[.int .i64 k,.string ⟨word.toArray⟩,.int .i64 n] 54)) w3 bss (j+1) v7'):=HJ2.o.below hb3 (by have:=HJ2.o.2.size;simpa using this);clear hpa hb3 HJ2 HB2 hcx;go_wp2_with fail;go_quiet (fail);go_wp2_with fail;go_roundw
      case rel=>exact⟨j+1,m,qO,qO,by go_num,rfl,HS4,HJ3.o.below (I9 (Below.refl _ _) _) (by have:=HJ3.o.2.size;simpa using this)⟩
      case measure=>simp[intOf];omega
  . obtain rfl:N=j:=qO;have HMS:=qH (show m=sumOf (bss.map lines) by have:=hms.out;rw[HN.o]at this;unfold sumTo at this;rw[qj]at this;exact this);have HK:Hid (Q9 wr):=(HE.o.below HBw.o).1;have HJO:=qH (show joined 3 ⟨k,word,n⟩ (bss.map lines)=[Lib.itoa (m:Int)] by rw[bF4,HMS.o]);have hit:=bf1 (m:Int) wr qO qO HK.o;clear hrel hms;obtain⟨t,ht⟩:=qE (Lib.itoa (m:Int));rw[<- ht]at hit HJO;clear ht;go_wp2_with fail;refine hit.mono ?_;rintro e w4⟨rfl,hb4⟩;have HB4:=qT HBw hb4;have HB4a:Hid (Bq w (w4.alloc (.cells #[.string ⟨t.toArray⟩] 9))):=HB4.o.trans (((Below.refl _ w4).alloc (qA _) _).mono HB4.o.size);have HRD:Hid (Reads (w4.alloc (.cells #[.string ⟨t.toArray⟩] 9)) (.slice (some ⟨w4.heap.size,0,none⟩) 1 1) (joined 3 ⟨k,word,n⟩ (bss.map lines)).length ((joined 3 ⟨k,word,n⟩ (bss.map lines)).map S)):=by rw[HJO.o];exact Y9 w4 #[S t] 9 (0,0) 1 rfl qO
    clear hb4 hit HB4;go_wp2_with fail;refine (ai6 _ (joined 3 ⟨k,word,n⟩ (bss.map lines)) _ HRD.o HJL.o).mono ?_;rintro e w5⟨r5,rfl,hr5,hb5,hn5⟩;have HR5:=qH hr5;have HB5:=qT HB4a hb5;have HN5:Hid (∀a n c,r5=.slice (some a) n c->w.heap.size<=a.block):=(show ∀a n c,r5=.slice (some a) n c->w.heap.size<=a.block from fun a n c e=>qc HB4a.o.size (hn5 a n c e));clear hr5 hb5 hn5 HRD;go_wp2_with fail;go_ret;exact⟨_,rfl,HR5.o,HB5.o,HN5.o⟩
theorem bq7(k n:Int)(word:qU)(ao:Option Addr)(cap:Nat)(bss:qL)(w:World)(hc:chk ⟨k,word,n⟩=0)(h1:RList w (.slice ao bss.length cap) U bss)(hN5:bss.length<=5)(hT:bss.flatten.length<=62500000)(hE:q8 w)(hsh:w.ShapedOpen prog):
 Calls prog 83 #[.int .i64 4,.agg #[.int .i64 k,.string ⟨word.toArray⟩,.int .i64 n],.slice ao bss.length cap] w fun e w'=>∃r,e=.returned r/\Reads w' r (jOut 4 ⟨k,word,n⟩ bss).length ((jOut 4 ⟨k,word,n⟩ bss).map U)/\Bq w w'/\(∀a n c,r=.slice (some a) n c->w.heap.size<=a.block):=by
 obtain⟨i0,hi,hz0,hz1,hz2⟩:=info_parts J9;have hcap:bss.length<=cap/\cap<=9223372036854775807:=by obtain⟨ao',cap',e,h1',h2'⟩:=h1.shape;injection e with e1 e2 e3;subst e3;exact⟨h1',by simpa[maxLen]using h2'⟩
 obtain⟨hcN,hcm⟩:=hcap;have HP:=qH h1;have HE:=qH hE;have HSH:=qH hsh;have HT:=qH hT;have HC:=qH hc;have HJL:Hid ((ended (joined 4 ⟨k,word,n⟩ (bss.map lines))).length<=225000000):=by have h1:=U8 4 ⟨k,word,n⟩ (fun _=>hc) (bss.map lines) (by have:=F6 bss;omega) (by simpa using hN5);have h2:=M6 bss;exact qc h1 qO
 clear hc;obtain⟨N,hN⟩:=qE bss.length;have HN:=qH hN;rw[<- hN]at hN5 hcN ⊢;clear h1 hE hsh hT hN;go_enter func83,ntmps83;go_wp2_with fail;go_loopw [7,8,22] (fun v7 s i wr=>∃(j m:Nat),j<=N/\m<=4000*j/\i=.int .i64 j/\s=.int .i64 m/\Hid (m=sumTo bss j)/\Hid (J1 w (w.alloc (.cells #[.int .i64 k,.string ⟨word.toArray⟩,.int .i64 n] 54)) wr bss j v7)) (fun _ _ i _=>N-(intOf i).toNat)
 case atStart=>exact⟨0,0,qM _,qO,rfl,rfl,(show _=_ by simp[sumTo,sumOf]),⟨by simpa[A6]using World.ownsRow_nil _ (w.heap.size+1) 9 1,Below.refl _ _⟩⟩
 case round=>
  obtain⟨j,m,hj,hm,rfl,rfl,hms,hrel⟩:=hrel;have HBw:Hid (Bq w wr):=l8 hrel.out.2;have hws:w.heap.size+1<=wr.heap.size:=by have:=hrel.out.2.size;simpa using this
  by_cases hlt:j<N
  .
   obtain⟨p,hpk⟩:∃p,bss[j]?=some p:=⟨_,gEl (by have:=HN.o;omega)⟩;have HPK:=qH hpk;have HPr:Hid (RList wr (.slice ao N cap) U bss):=by rw[HN.o];exact HP.o.below HBw.o
   obtain⟨b,off,au,cu,rfl,Ac,hru⟩:=HPr.o.at hpk;have hpl:p.length<=62500000:=qc (A3 (mGt hpk)) HT.o;have hlo:=af6 (.slice au p.length cu) p wr hru (M4 HSH.o HBw.o) qO;have HLT:Hid _:=ab1 bss j;have HLP:Hid _:=E6 p;have hSS:sumTo bss (j+1)=m+S0 (lines p):=by rw[ak4 hpk,<- hms.out]
   have HLS:Hid (∀s∈lines p,s.length<=62500000):=fun s hs=>X8 hs hpl;have HHN:Hid _:=ac7 (lines p);clear hpk hru hms;obtain⟨pl,Ew⟩:=qE p.length;rw[<- Ew]at hlo Ac hpl HLP;clear Ew;obtain⟨L,hL⟩:=qE ((lines p).length);have HL:=qH hL;rw[<- hL]at hlo HLP;have hLb:L<=62500000:=qc HLP.o hpl;clear hL;have hFb:(A6 bss j).length<=62500000:=qc HLT.o HT.o;go_wp2_with fail;refine hlo.mono ?_;rintro e w1⟨g,cl,rfl,hgn,Ey,hb1⟩;have Gp:Hid _:=A5 hrel.out.1 hb1;have Cc:Hid (Reads w1 (.slice (some ⟨g,0,none⟩) L cl) (lines p).length ((lines p).map S)):=by have:=Ey;rw[HL.o]at this ⊢;exact this
   have hs1:w.heap.size+1<=w1.heap.size:=qc hws hb1.size;have HB1:=qH hb1;have HGN:=qH hgn;have Io:L<=cl/\cl<=9223372036854775807:=by obtain⟨_,ao',cap',e,e2,e3,_⟩:=id Cc.o;injection e with e4 e5 e6;subst e6;exact⟨by rw[HL.o];exact e2,by simpa[maxLen]using e3⟩
   obtain⟨Rw,Rx⟩:=Io;have Ar:w1.ownsRow (w.heap.size+1) 9 1 u7 (A6 bss j).length ((A6 bss j).map S):=Gp.o;clear hlo Ey hb1 hgn Gp;go_wp2_with (at_builtin;refine xB _ rfl (.tmp 28) (.tmp 29) 110 rfl (w.heap.size+1) 9 i0 (.string ⟨#[]⟩) 1 16 underlying110 hi hz0 hz1 hz2 rfl (by decide) _ _ _ rfl Ar ⟨g,0,none⟩ L cl ((lines p).map S) rfl ?c0 ?c1 ?c2 ?c3 ?c4 ?c5 ?_)
   case c0=>rw[qS,zI];exact HL.o.symm
   case c1=>
    intro i u hi;have Br:(lines p).length≠0:=by have hl:=(gSm hi).1;rw[qS]at hl;omega
    obtain⟨_,ao',cap',e,_,_,h5⟩:=Cc.o;injection e with e1 e2 e3;subst e1;obtain⟨b',off',e,hcc⟩:=h5 Br;injection e with e;injection e with e1 e2;subst e1 e2;have Ce:(⟨g,0,none⟩:Addr).add i=⟨g,0+i,none⟩:=by unfold Addr.add;split <;> simp_all
    rw[Ce];exact hcc i u hi
   case c2=>intro u hu;obtain⟨x,_,rfl⟩:=xA.1 hu;rfl
   case c3=>unfold maxLen;omega
   case c4=>omega
   case c5=>exact hs1
   intro v7' w2 Aq Af _;have HJ2:Hid (J1 w (w.alloc (.cells #[.int .i64 k,.string ⟨word.toArray⟩,.int .i64 n] 54)) w2 bss (j+1) v7'):=hrel.out.more HPK.o HB1.o HL.o hws Aq Af
   have Cj:Hid (Reads w2 (.slice (some ⟨g,0,none⟩) L cl) (lines p).length ((lines p).map S)):=af7 Cc.o Af (fun g' hg' e=>by
    have h7:=(hrel.out.1.lt g' e).2
    simp only[Value.ownBlock,qe]at hg'
    have:=HGN.o
    omega)
   clear Aq Af Ar Cc hrel HB1 HGN Ac
   cases hlp:lines p with
   | nil=>
    rw[hlp]at hSS HL;have hL0:L=0:=HL.o;subst hL0;have hS0:sumTo bss (j+1)=m:=hSS;have HS0:Hid (m=sumTo bss (j+1)):=hS0.symm;clear hSS hS0 Cj hlp;go_wp2_with fail;go_roundw
    case rel=>exact⟨j+1,m,qO,qO,by go_num,rfl,HS0,HJ2⟩
    case measure=>simp[intOf];omega
   | cons x r=>
    have HXS:Hid (x.length<=62500000):=HLS.o x (by rw[hlp];simp);rw[hlp,X7]at hSS;rw[hlp]at HL Cj;have hLr:L=r.length+1:=HL.o;have hL0:(0:Int)<(L:Int):=qO;obtain⟨b1,o1,sx,hb1,hcx,hsx,_,_⟩:=M9 (by have:=Cj.o;rw[HL.o]at this;exact this);injection hb1 with hb1;injection hb1 with hb1 hb2;subst hb1 hb2;obtain rfl:sx=⟨x.toArray⟩:=by unfold S at hsx;injection hsx
    have HSS:=qH hSS;have HB2:Hid (Bq w w2):=l8 HJ2.o.2;have hKE:=HE.o.below HB2.o;have hd:(⟨x.toArray⟩:ByteArray).data.toList=x:=rfl;have hsz:(⟨x.toArray⟩:ByteArray).size=x.length:=by simp[ByteArray.size]
    have hxz:(⟨x.toArray⟩:ByteArray).size<=281474976710656:=by have:=HXS.o;omega
    clear hSS hlp Cj HLS hsx hLr;have HN0:Hid _:=hKE;by_cases hok:∃z,Lib.atoiAll x=.ok z
    .
     obtain⟨z,hz⟩:=hok;have hzb:=Lib.atoiAll_bounds hz;have hpa:=aA6 ⟨x.toArray⟩ z w2 hxz (by rw[hd];exact hz);have Bg:Hid _:=an1 hz;clear hz hd hsz hxz hKE;obtain⟨sx,hsx⟩:=qE (⟨x.toArray⟩:ByteArray);have HSX:Hid (Value.string sx=S x):=by rw[hsx];exact rfl
     rw[<- hsx]at hpa hcx;clear hsx;go_wp2_with fail;refine hpa.mono ?_;rintro e w3⟨rfl,hb3⟩;have HJ3:Hid (J1 w (w.alloc (.cells #[.int .i64 k,.string ⟨word.toArray⟩,.int .i64 n] 54)) w3 bss (j+1) v7'):=HJ2.o.below hb3 (by have:=HJ2.o.2.size;simpa using this);have Eh:w3.cell? ⟨g,0,none⟩=some (.string sx):=qC hb3 hcx;have HK3:Hid (Q9 w3):=(q8.below HN0.o hb3).1;clear hpa hb3 hcx HJ2 HN0 HB2;by_cases hz0:0<=z
     .
      by_cases hz4:z<=4000
      .
       have q1:decide (0<=z)=true:=qV hz0;have q2:decide (z<=4000)=true:=qV hz4;obtain⟨tx,htx⟩:=qE (⟨(Lib.itoa z).toArray⟩:ByteArray);have cF:∀d os,Calls prog 111 #[.int .i64 z,.int .i64 10] (Go.Sort.grow (redrawn w3 d) os) fun e w''=>e=.returned (.string tx)/\∃p:Regrown,w''=Go.Sort.grow (redrawn w3 p.d) p.os:=fun d os=>Calls.regrown_of (by rw[htx];exact ak5 z _ hzb.1 hzb.2 (HK3.o.below (below_regrown w3 d os)));have hcr:∀d os,(Go.Sort.grow (redrawn w3 d) os).cell? ⟨g,0,none⟩=some (.string sx):=fun d os=>cell_regrown Eh d os;have Gq:(tx.toList==sx.toList)=decide (Lib.itoa z=x):=by
        have Ks:Value.string tx=S (Lib.itoa z):=by rw[htx];rfl
        rw[K4 Ks,K4 HSX.o];by_cases h:Lib.itoa z=x <;> simp[h]
       clear htx;by_cases heq:Lib.itoa z=x
       . have HS4:=qH (show sumTo bss (j+1)=m+z.toNat by rw[HSS.o,Bg.o,qF ⟨hz0,hz4,heq⟩]);rw[qV heq]at Gq;obtain⟨zn,rfl⟩:=qm hz0;rw[qh]at HS4;clear heq Bg Eh;go_wp2_with fail;refine wp_region_quiet_below qQ qQ ?_;repeat (first|go_big_quiet_step (exact cF _ _) | quiet_step (exact cF _ _))
         refine wpQuiet_nil ?_;intro _ hw';obtain⟨⟨dq,osq⟩,Av⟩:=hw';subst Av;have HJ4:Hid (J1 w (w.alloc (.cells #[.int .i64 k,.string ⟨word.toArray⟩,.int .i64 n] 54)) (Go.Sort.grow (redrawn w3 dq) osq) bss (j+1) v7'):=HJ3.o.below (below_regrown w3 dq osq) (by have:=HJ3.o.2.size;simpa using this);clear cF hcr HJ3;go_wp2_with fail;go_roundw
         case rel=>exact⟨j+1,m+zn,qO,qO,by go_num,by go_num,HS4.o.symm,HJ4⟩
         case measure=>simp[intOf];omega
       . have HS4:=qH (show m=sumTo bss (j+1) by rw[HSS.o,Bg.o,qB (fun h=>heq h.2.2)];rfl);rw[qG heq]at Gq;clear heq Bg Eh;go_wp2_with fail;refine wp_region_quiet_below qQ qQ ?_;repeat (first|go_big_quiet_step (exact cF _ _) | quiet_step (exact cF _ _))
         refine wpQuiet_nil ?_;intro _ hw';obtain⟨⟨dq,osq⟩,Av⟩:=hw';subst Av;have HJ4:Hid (J1 w (w.alloc (.cells #[.int .i64 k,.string ⟨word.toArray⟩,.int .i64 n] 54)) (Go.Sort.grow (redrawn w3 dq) osq) bss (j+1) v7'):=HJ3.o.below (below_regrown w3 dq osq) (by have:=HJ3.o.2.size;simpa using this);clear cF hcr HJ3;go_wp2_with fail;go_roundw
         case rel=>exact⟨j+1,m,qO,qO,by go_num,rfl,HS4,HJ4⟩
         case measure=>simp[intOf];omega
      . have q1:decide (0<=z)=true:=qV hz0;have q2:decide (z<=4000)=false:=qG hz4;have HS4:=qH (show m=sumTo bss (j+1) by rw[HSS.o,Bg.o,qB (fun h=>hz4 h.2.1)];rfl);go_wp2_with fail;go_quiet (fail);go_wp2_with fail;go_roundw
        case rel=>exact⟨j+1,m,qO,qO,by go_num,rfl,HS4,HJ3.o.below (I9 (Below.refl _ _) _) (by have:=HJ3.o.2.size;simpa using this)⟩
        case measure=>simp[intOf];omega
     . have q1:decide (0<=z)=false:=qG hz0;have HS4:=qH (show m=sumTo bss (j+1) by rw[HSS.o,Bg.o,qB (fun h=>hz0 h.1)];rfl);go_wp2_with fail;go_quiet (fail);go_wp2_with fail;go_roundw
       case rel=>exact⟨j+1,m,qO,qO,by go_num,rfl,HS4,HJ3.o.below (I9 (Below.refl _ _) _) (by have:=HJ3.o.2.size;simpa using this)⟩
       case measure=>simp[intOf];omega
    . have hpa:=ar5 ⟨x.toArray⟩ w2 hxz hKE (by rw[hd];exact fun z h=>hok ⟨z,h⟩);have HS4:=qH (show m=sumTo bss (j+1) by rw[HSS.o,ah8 (fun z h=>hok ⟨z,h⟩)];rfl);clear hok hd hsz hxz hKE;go_wp2_with fail;refine hpa.mono ?_;rintro e w3⟨z,t,p',rfl,hb3⟩;have HJ3:Hid (J1 w (w.alloc (.cells #[.int .i64 k,.string ⟨word.toArray⟩,.int .i64 n] 54)) w3 bss (j+1) v7'):=HJ2.o.below hb3 (by have:=HJ2.o.2.size;simpa using this);clear hpa hb3 HJ2 HB2 hcx;go_wp2_with fail;go_quiet (fail);go_wp2_with fail;go_roundw
      case rel=>exact⟨j+1,m,qO,qO,by go_num,rfl,HS4,HJ3.o.below (I9 (Below.refl _ _) _) (by have:=HJ3.o.2.size;simpa using this)⟩
      case measure=>simp[intOf];omega
  . obtain rfl:N=j:=qO;have HRD:Hid (Reads wr u7 (A6 bss N).length ((A6 bss N).map S)):=Reads.of_owns hrel.out.1;obtain⟨F,hF⟩:=qE (A6 bss N);have HFN:Hid (F.length<=62500000):=by rw[hF];exact qc (ab1 bss N) HT.o
    have HFS:Hid (∀s∈F,s.length<=225000000):=fun s hs=>by rw[hF]at hs;unfold A6 at hs;obtain⟨p,hp,hsp⟩:=zv.1 hs;obtain⟨b',hb',rfl⟩:=xA.1 hp;exact qc (X8 hsp (qc (A3 (List.mem_of_mem_take hb')) HT.o)) qO
    have HJ4:=qH (show joined 4 ⟨k,word,n⟩ (bss.map lines)=made ⟨k,word,n⟩ F by rw[bF5,hF,HN.o];unfold A6;rw[qj]);rw[<- hF]at HRD;obtain⟨bx0,bx1,bx2⟩:=F9 hrel.out.2;have hmd:=aO1 ⟨k,word,n⟩ HC.o u7 F wr HRD.o (qc HFN.o qO) HFS.o (M4 HSH.o HBw.o) (HE.o.below HBw.o).1;unfold Cmd.v at hmd;simp only at hmd;obtain⟨_,o7,c7,rfl,_⟩:=id HRD.o;clear hrel HRD hF;generalize F.length=NF at *;generalize hMM:made ⟨k,word,n⟩ F=M at *;clear hMM;go_wp2_with fail;refine hmd.mono ?_;rintro e w4⟨r4,rfl,hr4,hb4⟩;rw[<- HJ4.o]at hr4;have HR4:Hid _:=hr4;have HB4:=qT HBw hb4;obtain⟨_,o4,c4,rfl,_⟩:=id hr4;clear hr4 hb4 hmd bx0 bx1 bx2;go_wp2_with fail;refine (ai6 _ (joined 4 ⟨k,word,n⟩ (bss.map lines)) w4 HR4.o HJL.o).mono ?_;rintro e w5⟨r5,rfl,hr5,hb5,hn5⟩;have HR5:=qH hr5;have HB5:=qT HB4 hb5;have HN5:Hid (∀a n c,r5=.slice (some a) n c->w.heap.size<=a.block):=(show ∀a n c,r5=.slice (some a) n c->w.heap.size<=a.block from fun a n c e=>qc HB4.o.size (hn5 a n c e));clear hr5 hb5 hn5 HR4;go_wp2_with fail;go_ret;exact⟨_,rfl,HR5.o,HB5.o,HN5.o⟩
def I(a:Nat):Value:=.int .i64 (a:Int)
def sliceLen:Value->Nat
 | .slice _ n _=>n
 | _=>0
theorem at0(h:w.ownsRow B e 1 v n xs):sliceLen v=n:=by
 rcases h.2 with⟨rfl,h0⟩|⟨g,cap,cur,rfl,_⟩
 . rw[h0];rfl
 . rfl
theorem cc7:(prog.info? 3).map (fun i=>(i.zero,i.size,i.bytes))=some (some (.int .i64 0),1,8):=qQ
def ab2(ps:List qL)(ats:List Nat):List qL:=List.zipWith (fun p a=>p.drop a) ps ats
theorem bA5(ps:List qL):ab2 ps (List.replicate ps.length 0)=ps:=by
 unfold ab2
 induction ps with
 | nil=>rfl
 | cons p ps ih=>simp[List.replicate_succ,ih]
theorem ar6(hp:ps[j]?=some p)(ha:ats[j]?=some a):(ab2 ps ats)[j]?=some (p.drop a):=by unfold ab2;rw[zU,hp,ha]
theorem bA6{b:Nat}(hp:ps[b]?=some p)(ha:ats[b]?=some a):ab2 ps (ats.set b (a+1))=(ab2 ps ats).modify b (List.drop 1):=by
 apply xq;intro j;rw[List.getElem?_modify];by_cases hj:b=j
 . subst hj;have h1:(ats.set b (a+1))[b]?=some (a+1):=zu (gSm ha).1;rw[ar6 hp h1,ar6 hp ha];simp
 . unfold ab2;rw[zU,zU,xe hj];simp[hj]
theorem cc8(h:a<p.length):(p.drop a).head?=some p[a]:=by rw[List.head?_drop];exact gEl h
def cc9:Option (Nat × qU)->qU
 | none=>[]
 | some (_,t)=>t
def MJ(w W0 wr:World)(ps:List qL)(T GA:Nat)(D:qL)(ats:List Nat)(v7:Value):Prop:=
 ats.length=ps.length/\wr.heap[GA]?=some (.cells (ats.map I).toArray 3 (0,0))/\w.heap.size+1<=GA /\
 wr.ownsRow (w.heap.size+1) 9 1 v7 D.length (D.map S)/\v7.ownBlock≠some GA/\Below (w.heap.size+1) W0 wr /\
 D.length+(ab2 ps ats).flatten.length=T/\D++V6 (ab2 ps ats).flatten.length (ab2 ps ats)=V6 T ps
theorem MJ.below(h:MJ w W0 wr ps T GA D ats v7)(hb:Bq wr w1)(hs:w.heap.size+1<=wr.heap.size):MJ w W0 w1 ps T GA D ats v7:=by
 obtain⟨h1,h2,h3,h4,h5,h6,h7,h8⟩:=h;refine⟨h1,?_,h3,A5 h4 hb,h5,h6.trans (hb.mono hs),h7,h8⟩;have hlt:GA<wr.heap.size:=by
  rcases xo GA wr.heap.size with h | h
  . exact h
  . rw[xR h]at h2;cases h2
 rw[hb.block GA hlt];exact h2
theorem MJ.cell(h:MJ w W0 wr ps T GA D ats v7)(ha:ats[j]?=some a):wr.cell? ⟨GA,j,none⟩=some (.int .i64 (a:Int))/\wr.frozen? ⟨GA,j,none⟩=false:=by obtain⟨h1,h2,_⟩:=h;refine⟨?_,xW _ _ _ _ _ h2⟩;rw[qY _ _ _ _ _ _ h2];simp[ha,I]
theorem MJ.step{b:Nat}(h:MJ w W0 wr ps T GA D ats v7)(hl:least (ab2 ps ats)=some (b,x))(ha:ats[b]?=some a)(hx:Value.string sx=S x)(hs:w.heap.size+1<=wr.heap.size)
 (Ab:w2.ownsRow (w.heap.size+1) 9 1 v7' (D.length+1) (D.map S++[.string sx])) (hg:((wr.setCell ⟨GA,b,none⟩ (.int .i64 ((a:Int)+1))).alloc o).grownBy w2 v7.ownBlock) (hat:v7'.ownBlock=v7.ownBlock\/v7'.ownBlock=some (wr.heap.size+1)):MJ w W0 w2 ps T GA (D++[x]) (ats.set b (a+1)) v7':=by
 obtain⟨h1,h2,h3,h4,h5,h6,h7,h8⟩:=h;have hlt:GA<wr.heap.size:=by
  rcases xo GA wr.heap.size with h | h
  . exact h
  . rw[xR h]at h2;cases h2
 have hbl:b<ps.length:=by rw[<- h1];exact (gSm ha).1
 have hpb:ps[b]?=some ps[b]:=gEl hbl;obtain⟨r,hr,_⟩:=least_some hl;have hml:=aa0 hr;have hcs:=bA6 hpb ha;have hIa:(.int .i64 ((a:Int)+1):Value)=I (a+1):=by unfold I;congr 1
 rw[hIa]at hg;have hsz:((wr.setCell ⟨GA,b,none⟩ (I (a+1))).alloc o).heap.size=wr.heap.size+1:=by simp
 refine⟨by simp[h1],?_,h3,?_,?_,?_,?_,?_⟩
 . rw[hg.block GA (by rw[hsz];omega) (fun e=>h5 e.symm),Below.heap_alloc _ _ _ (by simp;omega),heap_setCell_same _ _ _ _ _ _ h2];simp
 . rw[hx]at Ab;simpa using Ab
 . rcases hat with e | e
   . rw[e];exact h5
   . rw[e];intro e';injection e' with e';omega
 . have hb1:Below (w.heap.size+1) W0 (wr.setCell ⟨GA,b,none⟩ (I (a+1))):=h6.setCell h3 _;exact (hb1.alloc (by simp;omega) o).grown hg (by rw[hsz];omega) (fun k hk=>(h4.lt k hk).1)
 . rw[hcs,qI,List.length_singleton];omega
 . rw[hcs,<- h8,hml,aN8 hl];simp
def bB1(w:World)(z:SPipe × Nat × Int)(e:Ending)(w':World):Prop:=
 ∃ar cr,e=.returned (.tuple #[M8 z.1 ar cr,.int .i64 (z.2.1:Int),.int .i64 z.2.2])/\Reads w' (.slice ar z.1.b.length cr) z.1.b.length (z.1.b.map U)/\(ar=none->cr=0)/\(z.1.b≠[]->∀a,ar=some a->w.heap.size<=a.block)/\Bq w w'
def WAt(w:World)(B:Nat)(X1 X2:Obj)(bs cs:qU)(k:Nat)(v:Value)(wr:World):Prop:=
 wr.ownsRow B 5 1 v (bs.length+k) ((bs++cs.take k).map U)/\Bq w wr/\wr.heap[w.heap.size]?=some X1/\wr.heap[w.heap.size+1]?=some X2/\B=w.heap.size+1+1/\B<=wr.heap.size
theorem WAt.app{X1 X2:Obj}{v':Value}{x:UInt8}(h:WAt w B X1 X2 bs cs k v wr)(hx:cs[k]?=some x)
 (Ab:w1.ownsRow B 5 1 v' (bs.length+k+1) ((bs++cs.take k).map U++[.int .u8 (x.toNat:Int)])) (hg:(wr.alloc o).grownBy w1 v.ownBlock):WAt w B X1 X2 bs cs (k+1) v' w1:=by
 obtain⟨h1,h2,h3,h4,h5,h6⟩:=h;have Aa:Below B wr w1:=(((Below.refl B wr).alloc h6 o).grown hg (by simp;omega) (fun g hg=>(h1.lt g hg).1));refine⟨?_,h2.trans (Aa.mono qO),(Aa.block _ qO).trans h3,(Aa.block _ qO).trans h4,h5,qc h6 Aa.size⟩;have e:cs.take (k+1)=cs.take k++[x]:=by rw[qZ,hx];rfl
 rw[e,<- zQ,xF,<- zK];exact Ab
theorem br0(ab ac:Option Addr)(cap cc:Nat)(p:SPipe)(cs:qU)(w:World)(hr:Reads w (.slice ab p.b.length cap) p.b.length (p.b.map U))(hrc:Reads w (.slice ac cs.length cc) cs.length (cs.map U))(h0:pchk p=0)(hnc:ab=none->cap=0):
 Calls prog 52 #[M8 p ab cap,.slice ac cs.length cc] w fun e w'=>bB1 w (pwrite p cs) e w':=by
 obtain⟨i0,hi,hi0,hi1,hi2⟩:=info_parts ag9;obtain⟨bs,room,cl,sh⟩:=p;have hn:=(t8 hr).1;have hm:=(t8 hrc).1;obtain⟨hr1,hr2,hr3,hr4⟩:=aI4 h0;simp only at hr1 hr2 hr3 hr4
 cases cl with
 | true=>
  have HZ:=qH (show pwrite ⟨bs,room,true,sh⟩ cs=(Y3,0,7) by unfold pwrite;rw[qB (fun e=>e h0),qF rfl]);unfold M8;generalize pwrite ⟨bs,room,true,sh⟩ cs=Z at *;simp only;generalize bs.length=N,cs.length=M at *;clear h0 hr hrc hr3 hr4 hnc;go_enter func52,ntmps52;go_wp2_with fail;(try simp only[Exit.inBlock,Exit.then])
  refine qx (v:=.tuple #[.agg #[.slice none 0 0,.int .i64 0,.bool false,.bool false],.int .i64 0,.int .i64 7]) ?_ rfl ?_
  . rw[j9 rfl];go_simp
  . rw[HZ.o];exact⟨none,0,rfl,(PB.none w _).1,fun _=>rfl,fun h=>absurd rfl h,Q2⟩
 | false=>
  cases sh with
  | true=>
   have hb0:=hr4 rfl;obtain rfl:=qn hb0;have HZ:=qH (show pwrite ⟨[],room,false,true⟩ cs=(⟨[],room,false,true⟩,cs.length,0) by unfold pwrite;rw[qB (fun e=>e h0),qB (by simp),qF rfl]);have HR:Hid _:=hr;have HNC:Hid _:=hnc;unfold M8;generalize pwrite ⟨[],room,false,true⟩ cs=Z at *;simp only;generalize cs.length=M at *;clear h0 hrc hr3 hr4 hr hnc;go_enter func52,ntmps52;go_wp2_with fail;(try simp only[Exit.inBlock,Exit.then])
   refine qx (v:=.tuple #[.agg #[.slice ab 0 cap,.int .i64 room,.bool false,.bool true],.int .i64 (M:Int),.int .i64 0]) ?_ rfl ?_
   . rw[j9 rfl];go_simp
   . rw[HZ.o];exact⟨ab,cap,rfl,Reads.below HR.o Q2,HNC.o,fun h=>absurd rfl h,Q2⟩
  | false=>
   have HZ:=qH (show pwrite ⟨bs,room,false,false⟩ cs=(⟨bs++cs.take (pfit cs.length bs.length room),room,false,false⟩,pfit cs.length bs.length room,0) by unfold pwrite;rw[qB (fun e=>e h0),qB (by simp),qB (by simp)]);have hf:=bi5 (m:=cs.length) hr3;obtain⟨q,hq⟩:=qE (pfit cs.length bs.length room);rw[<- hq]at HZ hf;have hlim:=ae1 hr2;have HRC:=qH hrc;obtain⟨N,hN⟩:=qE bs.length;obtain⟨M,hM⟩:=qE cs.length;have HN:=qH hN;have HM:=qH hM;have hq4:(q:Int)<=M/\(q:Int)+N<=plim room/\((q:Int)=M\/(q:Int)+N=plim room):=by rw[hf,hM,hN];split <;> omega
   have hN4:N+q<=40000:=qO;have hqM:q<=M:=qO;have hRD:Reads ((w.alloc (.cells #[.slice ab N cap,.int .i64 room,.bool false,.bool false] 61)).alloc (.cells #[.slice none 0 0,.int .i64 0,.bool false,.bool false] 61)) (.slice ab bs.length cap) bs.length (bs.map U):=hr.below Q2;obtain⟨v1,w1,Ae,Ab,hb1⟩:=Y8 hRD qO 28;have hs2:((w.alloc (.cells #[.slice ab N cap,.int .i64 room,.bool false,.bool false] 61)).alloc (.cells #[.slice none 0 0,.int .i64 0,.bool false,.bool false] 61)).heap.size=w.heap.size+1+1:=by simp
   rw[<- hN]at Ae hn;rw[<- hM]at hm;rw[hs2]at Ae Ab;have HST:Hid (WAt w (w.heap.size+1+1) (.cells #[.slice ab N cap,.int .i64 room,.bool false,.bool false] 61 (0,0)) (.cells #[.slice none 0 0,.int .i64 0,.bool false,.bool false] 61 (0,0)) bs cs 0 v1 w1):=by obtain⟨x1,x2⟩:=aB4 hb1;refine⟨by simpa using Ab,Q2.trans (hb1.mono Q2.size),x1,x2,rfl,by have:=hb1.size;omega⟩
   have HQ:=qH hq4;unfold M8;generalize pwrite ⟨bs,room,false,false⟩ cs=Z at *;simp only;rw[<- hN,<- hM];clear h0 hr hrc hr3 hr4 hq hf hN hM hRD Ab hb1 hs2 hq4 hlim hnc;obtain⟨a1,c1,rfl,hv1,hv2⟩:=I0 HST.o.1;have HBOX:Hid _:=HST;obtain⟨X1,hX1⟩:=qE ((Obj.cells #[.slice ab N cap,.int .i64 room,.bool false,.bool false] 61 (0,0)));rw[<- hX1]at HST;have HX1:=qH hX1;clear HBOX hX1;by_cases hz:room=0;subst hz;have hl:plim 0=40000:=rfl;rotate_left
   have hl:plim room=room:=by unfold plim;rw[qB hz]
   rotate_left
   all_goals
    rw[hl]at HQ;clear hl;go_enter func52,ntmps52;go_wp2_with (at_builtin;refine j4 _ rfl (.tmp 23) (.tmp 25) 28 rfl _ _ rfl rfl Ae ?_)
    clear Ae;go_wp2_with fail;go_loopw [8,9] (fun n v wr=>∃k:Nat,k<=q/\n=.int .i64 k/\Hid (WAt w (w.heap.size+1+1) X1 (.cells #[.slice none 0 0,.int .i64 0,.bool false,.bool false] 61 (0,0)) bs cs k v wr)) (fun n _ _=>q-(intOf n).toNat)
    case atStart=>exact⟨0,qM _,rfl,HST.o⟩
    case round=>
     clear HST hv1 hv2;obtain⟨k,hk,rfl,hat⟩:=hrel;obtain⟨Ab,Aa,hx1,hx2,_,hB⟩:=hat.out;rw[<- HN.o]at Ab;obtain⟨av,cv,rfl,hv1,hv2⟩:=I0 Ab;by_cases hlt:k<q
     . have hkM:(k:Int)<(M:Int):=qO;have hkR:=HQ.o.2.1;have hkR':=Int.lt_of_lt_of_le (show (N:Int)+(k:Int)<(q:Int)+(N:Int) by omega) hkR;obtain⟨x,hx⟩:∃x,cs[k]?=some x:=⟨_,gEl (by have:=HM.o;omega)⟩;obtain⟨b1,o1,rfl,hc1⟩:=aa5 (Reads.below HRC.o Aa) hx;have HAP:Hid _:=fun(w1:World)(v':Value)(o:Obj) h1 h2=>WAt.app (w1:=w1) (v':=v') (o:=o) hat.out hx h1 h2;obtain⟨xs,hxs⟩:=qE ((bs++cs.take k).map U);rw[<- hxs]at Ab HAP;rw[<- HN.o]at HAP;generalize (x.toNat:Int)=xi at *;have Iy:=Ab.alloc (.cells #[.int .u8 xi] 5);obtain⟨v2,w2,Ae,Aq,hg2,_⟩:=Y7 (c:=1) underlying28 hi hi0 hi1 hi2 rfl (by decide) (by decide) Iy (m:=1) (ao:=some ⟨wr.heap.size,0,none⟩) (ys:=[.int .u8 xi]) rfl ⟨fun e=>(by cases e),fun a ha j u hu=>by injection ha with ha;subst ha;exact cell_one_new _ _ _ j u hu⟩ (fun u hu=>by simp at hu;subst hu;rfl) qO (by simp;omega) 28;have R:Hid _:=HAP.o w2 v2 _ Aq hg2;clear hx hat hxs hx1 hx2 Ab Iy Aq hg2 HAP hkR;go_wp2_with (at_builtin;refine j4 _ rfl (.tmp 37) (.tmp 42) 28 rfl _ _ rfl rfl Ae ?_)
       clear Ae hc1;go_wp2_with fail;go_roundw
       case rel=>exact⟨k+1,qO,by go_num,R.o⟩
       case measure=>simp[intOf];omega
     .
      have hkq:k=q:=qO;subst hkq;rw[HX1.o]at hx1;obtain⟨c0,c1,c2,c3⟩:=C9 hx1;obtain⟨d0,d1,d2,d3⟩:=C9 hx2;obtain⟨f0,f1,f2,f3⟩:=ab5 hx1;obtain⟨g0,g1,g2,g3⟩:=ab5 hx2;have HRD:Hid _:=Reads.of_owns Ab;have HBE:=qH Aa;have HV:Hid (∀a,av=some a->w.heap.size+1+1<=a.block):=(show ∀a,av=some a->w.heap.size+1+1<=a.block from fun a ha=>(Ab.lt a.block (by rw[ha];rfl)).1)
      have HNC:Hid (av=none->cv=0):=(show av=none->cv=0 from fun e=>by
       rcases Ab.2 with⟨e1,_⟩|⟨g,cp,cur,e1,_⟩
       . injection e1
       . rw[e]at e1;injection e1 with e1;cases e1)
      have HLEN:=qH (show (bs++cs.take k).length=N+k by rw[qI,qX,<- HN.o,<- HM.o];omega);clear hat Ab Aa hx1 hx2 hB;by_cases hkM:(k:Int)<(M:Int);have hkR:=HQ.o.2.2.resolve_left qO;have hkR':=Int.not_lt.2 (Int.le_of_eq ((Int.add_comm (N:Int) (k:Int)).trans hkR).symm);clear hkR
      all_goals
       go_wp2_with fail;(try simp only[Exit.inBlock,Exit.then])
       first|refine qx (v:=.tuple #[.agg #[.slice av (N+k) cv,.int .i64 room,.bool false,.bool false],.int .i64 (k:Int),.int .i64 0]) ?_ rfl ?_ | refine qx (v:=.tuple #[.agg #[.slice av (N+k) cv,.int .i64 0,.bool false,.bool false],.int .i64 (k:Int),.int .i64 0]) ?_ rfl ?_
       . rw[j9 rfl];go_simp
       . rw[HZ.o];refine⟨av,cv,?_,?_,HNC.o,fun _ a ha=>by have:=HV.o a ha;omega,?_⟩
         . unfold M8;simp only;rw[HLEN.o]
         . show Reads _ (.slice av (bs++cs.take k).length cv) (bs++cs.take k).length ((bs++cs.take k).map U);rw[HLEN.o];repeat (first|refine aU1 ?_ (fun a ha=>by have:=HV.o a ha;omega) _ | exact HRD.o)
         . repeat (first|refine Below.setCell ?_ (by simp) _ | exact HBE.o)
end Go.Proofs.YtmejdflmcikkdaaGreatDoor
