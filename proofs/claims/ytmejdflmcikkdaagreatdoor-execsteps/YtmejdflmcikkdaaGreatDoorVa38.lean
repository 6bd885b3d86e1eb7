/- What the reference's CheckFiles does, and more. -/
import Derived.Test.YtmejdflmcikkdaaGreatDoorVAb
import Derived.Test.YtmejdflmcikkdaaGreatDoorVa30
set_option linter.all false
set_option maxRecDepth 100000
set_option maxHeartbeats 64000000
namespace Go.Proofs.YtmejdflmcikkdaaGreatDoor
open Go.RowKit Go.Gs Tryz
theorem ap6(ao:Option Addr)(cap:Nat)(fs:List SFile)(w:World)(hf:o8 w (.slice ao fs.length cap) fs)(Ad:∀f∈fs,al0 f):
 Calls prog 13 #[.slice ao fs.length cap] w fun e w'=>e=.returned (.int .i64 (fchk fs))/\Bq w w':=by
 have hle:=ac2 hf;have HF:=qH hf;have Gz:Hid _:=Ad;obtain⟨N,hN⟩:=qE fs.length;have HN:=qH hN;have hN1:N<=9223372036854775807:=qO;rw[<- hN]at HF ⊢;by_cases Oy:12<N
 . have HR:=qH (show fchk fs=2 by unfold fchk;rw[qF qO]);have hq:(12:Int)<N:=qO;clear hf Ad hle hN;go_enter func13,ntmps13;go_wp2_with fail;go_ret;exact⟨by rw[HR.o];rfl,Below.refl _ _⟩
 .
  have HR:Hid (fchk fs=x9 none fs):=bl9 qO;have hN12:N<=12:=qO;clear hf Ad hle hN Oy hN1;go_enter func13,ntmps13;go_wp2_with fail;go_loopw [10] (fun i wr=>∃k:Nat,k<=N/\i=.int .i64 k/\Hid (Bq w wr)/\Hid (x9 none (fs.take k)=0)) (fun i _=>N-(intOf i).toNat)
  case atStart=>exact⟨0,qM _,rfl,Below.refl _ _,(show _=_ from rfl)⟩
  case round=>
   obtain⟨k,hk,rfl,Aa,hno⟩:=hrel;by_cases hlt:k<N
   .
    obtain⟨f,hfk⟩:∃f,fs[k]?=some f:=⟨_,gEl (by have:=HN.o;omega)⟩;have HFK:=qH hfk;have HRk:Hid (o8 wr (.slice ao N cap) fs):=o8.below HF.o Aa.o;obtain⟨b,off,ab,cb,rfl,hc0,hc1,hr⟩:=HRk.o.at hfk;obtain⟨iw,hiw⟩:=qE (isWord f.name);have HIW:=qH hiw;have HW:Hid _:=fun(W:World)=>Z8 f.name W (Gz.o f (mGt hfk)) iw hiw.symm;have hbl:=aq7 hr;obtain⟨L,hL⟩:=qE f.b.length;have HL:=qH hL;rw[<- hL]at hc1 hbl;obtain⟨fx,hfx⟩:=qE (⟨f.name.toArray⟩:ByteArray);have HFX:=qH hfx;rw[<- hfx]at hc0 HW;clear hfk hr hiw hL hfx;go_wp2_with fail;have hQ:=HW.o (wr.alloc (.cells #[.string fx,.slice ab L cb] 59));refine qD hQ ?_;rintro e w2⟨rfl,hb2⟩;obtain⟨hx0,hx1⟩:=aL1 hb2;have HB2:Hid (Bq w w2):=(Aa.o.alloc Aa.o.size _).trans (hb2.mono (by simp;exact Nat.le_succ_of_le Aa.o.size));have HR2:Hid (o8 w2 (.slice (some ⟨b,off,none⟩) N cap) fs):=o8.below (o8.below HRk.o ac1) hb2;clear hQ hb2 HW hc0 hc1
    cases iw with
    | false=>have HB:=qH (show fbad (G6 none (fs.take k)) f=1 by unfold fbad;rw[qF HIW.o.symm]);have HE:=qH (show fchk fs=1 by rw[HR.o,ai0 HFK.o hno.out (by rw[HB.o];decide),HB.o]);clear hno HB;go_wp2_with fail;go_ret;exact⟨by rw[HE.o];rfl,HB2.o⟩
    | true=>
     by_cases hl4:4000<L
     . have HB:=qH (show fbad (G6 none (fs.take k)) f=2 by unfold fbad;rw[qB (by simp[<- HIW.o]),qF (by have:=HL.o;omega)]);have HE:=qH (show fchk fs=2 by rw[HR.o,ai0 HFK.o hno.out (by rw[HB.o];decide),HB.o]);have hq:(4000:Int)<L:=qO;clear hno HB;go_wp2_with fail;go_ret;exact⟨by rw[HE.o];rfl,HB2.o⟩
     .
      have hq:¬(4000:Int)<L:=qO;have HB:=qH (show fbad (G6 none (fs.take k)) f=match G6 none (fs.take k) with | none=>0 | some q=>if q<f.name then 0 else 6 by unfold fbad;rw[qB (by simp[<- HIW.o]),qB (by have:=HL.o;omega)];rfl);by_cases hk0:k=0
      . subst hk0;have HG:Hid (x9 none (fs.take 1)=0):=aq8 HFK.o hno.out (by rw[HB.o];rfl);clear hno HB;go_wp2_with fail;go_region
        all_goals go_wp2_with fail
        all_goals go_roundw
        case rel=>exact⟨1,qO,rfl,HB2.o.drew,HG⟩
        case measure=>simp[intOf];omega
      .
       obtain⟨m,rfl⟩:∃m,k=m+1:=⟨k-1,qO⟩;obtain⟨g,hg⟩:∃g,fs[m]?=some g:=⟨_,gEl (by have:=HN.o;omega)⟩;have hln:G6 none (fs.take (m+1))=some g.name:=aW2 hg;obtain⟨b',off',ab',cb',e0,hg0,hg1,_⟩:=HR2.o.at hg;injection e0 with e0;injection e0 with e1 e2;subst e1 e2;have hk1:(0:Int)<((m+1:Nat):Int):=qO;have Vk:((m+1:Nat):Int)-1=(m:Int):=qO;have hmN:m<N:=qO;have hls:=aL0 f.name g.name;have hes:=aH8 f.name g.name;rw[hln]at HB;simp only at HB;by_cases Cf:g.name<f.name
       . have HG:Hid (x9 none (fs.take (m+1+1))=0):=aq8 HFK.o hno.out (by rw[hln,HB.o,qF Cf]);have Rh:Op.bytesLess fx.toList (⟨g.name.toArray⟩:ByteArray).toList=false:=by rw[HFX.o,ByteArray.toList_eq,ByteArray.toList_eq];show Op.bytesLess f.name g.name=false;rw[hls];exact qG (fun h=>List.lt_irrefl _ (List.lt_trans Cf h))
         have hle2:(fx.toList==(⟨g.name.toArray⟩:ByteArray).toList)=false:=by rw[HFX.o,hes];exact qG (fun h=>List.lt_irrefl _ (h ▸ Cf))
         generalize (⟨g.name.toArray⟩:ByteArray)=gx at *;clear hno HB hls hes hln Cf hg hg1;go_wp2_with fail;go_quiet (fail);all_goals go_wp2_with fail
         all_goals go_roundw
         case rel=>exact⟨m+1+1,qO,by go_num,belowq HB2.o _,HG⟩
         case measure=>simp[intOf];omega
       .
        have HE:=qH (show fchk fs=6 by rw[HR.o,ai0 HFK.o hno.out (by rw[hln,HB.o,qB Cf];decide),hln,HB.o,qB Cf]);obtain⟨d1,hd1⟩:=qE (Op.bytesLess fx.toList (⟨g.name.toArray⟩:ByteArray).toList);obtain⟨d2,hd2⟩:=qE ((fx.toList==(⟨g.name.toArray⟩:ByteArray).toList));have hor:d1=true\/d2=true:=by
         rw[hd1,hd2,HFX.o,hes];by_cases hfg:f.name=g.name
         . exact .inr (qV hfg)
         . left;rw[ByteArray.toList_eq,ByteArray.toList_eq];show Op.bytesLess f.name g.name=true;rw[hls];have h3:f.name<=g.name:=List.not_lt.1 Cf;by_cases h:f.name<g.name
           . exact qV h
           . exact absurd (List.le_antisymm h3 (List.not_lt.1 h)) hfg
        generalize (⟨g.name.toArray⟩:ByteArray)=gx at *;clear hno HB hls hes hln Cf hg hg1;rcases hor with rfl | rfl
        . have hd1':=hd1.symm;clear hd1 hd2;go_wp2_with fail;go_quiet (fail);all_goals go_wp2_with fail
          all_goals go_ret
          all_goals exact⟨by rw[HE.o];rfl,belowq HB2.o _⟩
        . have hd2':=hd2.symm;clear hd1 hd2;go_wp2_with fail;go_quiet (fail);all_goals go_wp2_with fail
          all_goals go_ret
          all_goals exact⟨by rw[HE.o];rfl,belowq HB2.o _⟩
   .
    have HE:=qH (show fchk fs=0 by
     rw[HR.o]
     have e:=hno.out
     rw[qP (by have:=HN.o;omega)]at e
     exact e)
    clear hno;go_wp2_with fail;go_ret;exact⟨by rw[HE.o];rfl,Aa.o⟩
variable [DecidableEq SFile]
theorem bP6(x y:SFile)(ab bb:Option Addr)(cb eb:Nat)(w:World)(hx:Reads w (.slice ab x.b.length cb) x.b.length (x.b.map U))(hy:Reads w (.slice bb y.b.length eb) y.b.length (y.b.map U)):
 Calls prog 77 #[.agg #[.string ⟨x.name.toArray⟩,.slice ab x.b.length cb],.agg #[.string ⟨y.name.toArray⟩,.slice bb y.b.length eb]] w fun e w'=>e=.returned (.bool (decide (x=y)))/\Bq w w':=by
 have HE1:Hid _:=fun(W:World)(hb:Bq w W)=>aW4 ab bb cb eb x.b y.b W (Reads.below hx hb) (Reads.below hy hb);have hse:=aH8 x.name y.name
 have HXY:=qH (show x=y ↔ x.name=y.name/\x.b=y.b from ⟨fun h=>by subst h;exact⟨rfl,rfl⟩,fun ⟨h1,h2⟩=>by
  obtain⟨a1,a2⟩:=x
  obtain⟨b1,b2⟩:=y
  simp only at h1 h2
  subst h1 h2
  rfl⟩)
 obtain⟨d0,hd0⟩:=qE (decide (x.name=y.name));obtain⟨d1,hd1⟩:=qE (decide (x.b=y.b))
 have HD:=qH (show decide (x=y)=(d0 && d1) by
  rw[hd0,hd1,<- Bool.decide_and]
  exact decide_eq_decide.2 HXY.o)
 rw[<- hd0]at hse;rw[<- hd1]at HE1;generalize (⟨x.name.toArray⟩:ByteArray)=tx,(⟨y.name.toArray⟩:ByteArray)=ty,x.b.length=NF,y.b.length=MF at *;clear hx hy hd0 hd1 HXY
 cases d0 with
 | false=>
  have Wz:¬tx.toList=ty.toList:=by simpa using hse
  clear hse;go_enter func77,ntmps77;go_wp2_with fail;go_ret;exact⟨by rw[HD.o];rfl,ad1⟩
 | true=>
  have Wz:tx.toList=ty.toList:=by simpa using hse
  clear hse;go_enter func77,ntmps77;go_wp2_with fail;refine qD (HE1.o _ ad1) ?_;rintro e w3⟨rfl,hb3⟩;have HB3:Hid (Bq w w3):=ad1.trans (hb3.mono ad1.size);clear hb3 HE1;go_wp2_with fail;go_ret;exact⟨by rw[HD.o];rfl,HB3.o⟩
end Go.Proofs.YtmejdflmcikkdaaGreatDoor
namespace Go.Proofs.YtmejdflmcikkdaaGreatDoor
open Go.RowKit Go.Gs Tryz
variable [DecidableEq SFile]
theorem bP7(au av:Option Addr)(cu cv:Nat)(a b:List SFile)(w:World)(ha:o8 w (.slice au a.length cu) a)(hb:o8 w (.slice av b.length cv) b):
 Calls prog 76 #[.slice au a.length cu,.slice av b.length cv,.func (.func 77) #[] #[]] w fun e w'=>e=.returned (.bool (decide (a=b)))/\Bq w w':=by
 have m2:=ac2 ha;have m4:=ac2 hb;have HA:=qH ha;have HB:=qH hb;obtain⟨NA,hNA⟩:=qE a.length;obtain⟨NB,hNB⟩:=qE b.length;have HNA:=qH hNA;have HNB:=qH hNB;have hA1:NA<=9223372036854775807:=qO;have hB1:NB<=9223372036854775807:=qO;rw[<- hNA,<- hNB];rw[<- hNA]at HA;rw[<- hNB]at HB;clear ha hb m2 m4 hNA hNB;by_cases hne:NA=NB
 .
  subst hne;go_enter func76,ntmps76;go_wp2_with fail;go_loopw [17] (fun i wr=>∃k:Nat,k<=NA/\i=.int .i64 k/\Hid (Bq w wr)/\Hid (a.take k=b.take k)) (fun i _=>NA-(intOf i).toNat)
  case atStart=>exact⟨0,qM _,rfl,Below.refl _ _,(show _=_ by simp)⟩
  case round=>
   obtain⟨k,hk,rfl,Aa,An⟩:=hrel;by_cases hlt:k<NA
   .
    obtain⟨x,hx⟩:∃x,a[k]?=some x:=⟨_,gEl (by have:=HNA.o;omega)⟩;obtain⟨y,hy⟩:∃y,b[k]?=some y:=⟨_,gEl (by have:=HNB.o;omega)⟩;have HX:=qH hx;have HY:=qH hy;obtain⟨b1,o1,ab,cb,rfl,Iu,hc11,hrx⟩:=(o8.below HA.o Aa.o).at hx;obtain⟨b2,o2,bb,eb,rfl,Xh,Xi,hry⟩:=(o8.below HB.o Aa.o).at hy;have HS:Hid _:=fun(W:World)(hb:Bq wr W)=>bP6 x y ab bb cb eb W (Reads.below hrx hb) (Reads.below hry hb);obtain⟨d,hd⟩:=qE (decide (x=y));have HDD:=qH hd;rw[<- hd]at HS;have hg20:=(ac1 (w:=wr) (o:=.cells #[.string ⟨x.name.toArray⟩,.slice ab x.b.length cb] 59)).cell (bLt wr _ Xh);have hg21:=(ac1 (w:=wr) (o:=.cells #[.string ⟨x.name.toArray⟩,.slice ab x.b.length cb] 59)).cell (bLt wr _ Xi);rw[Xh]at hg20;rw[Xi]at hg21;generalize (⟨x.name.toArray⟩:ByteArray)=tx,(⟨y.name.toArray⟩:ByteArray)=ty,x.b.length=NF,y.b.length=MF at *;clear hx hy hd hrx hry Xh Xi;go_wp2_with fail;refine qD (HS.o _ ad1) ?_;rintro e w3⟨rfl,hb3⟩;have HB3:Hid (Bq w w3):=(qT Aa ad1).out.trans (hb3.mono (qc Aa.o.size ad1.size));clear hb3 HS hg20 hg21 Iu hc11
    cases d with
    | true=>
     have hxy:x=y:=qp HDD.o.symm;have HE:Hid (a.take (k+1)=b.take (k+1)):=bm0 An.o HX.o (by rw[hxy];exact HY.o);clear hxy An;go_wp2_with fail;go_roundw
     case rel=>exact⟨k+1,qO,by go_num,HB3,HE⟩
     case measure=>simp[intOf];omega
    | false=>have HE:Hid (a≠b):=bT7 HX.o HY.o (of_decide_eq_false HDD.o.symm);clear An;go_wp2_with fail;go_ret;exact⟨by rw[qG HE.o];rfl,HB3.o⟩
   .
    have HE:=qH (show a=b by
     have h:=An.o
     rw[qP (by have:=HNA.o;omega),qP (by have:=HNB.o;omega)]at h
     exact h)
    clear An;go_wp2_with fail;go_ret;exact⟨by rw[qV HE.o];rfl,Aa.o⟩
 . have HE:Hid (a≠b):=(show a≠b from fun e=>hne (by rw[HNA.o,HNB.o,e]));have hq:¬(NA:Int)=NB:=qO;go_enter func76,ntmps76;go_wp2_with fail;go_ret;exact⟨by rw[qG HE.o];rfl,Below.refl _ _⟩
theorem aT2(au av:Option Addr)(cu cv:Nat)(a b:List SFile)(w:World)(ha:o8 w (.slice au a.length cu) a)(hb:o8 w (.slice av b.length cv) b):
 Calls prog 40 #[.slice au a.length cu,.slice av b.length cv] w fun e w'=>e=.returned (.bool (decide (a=b)))/\Bq w w':=by have hE:=bP7 au av cu cv a b w ha hb;obtain⟨d,hd⟩:=qE (decide (a=b));rw[<- hd]at hE ⊢;generalize a.length=NA,b.length=NB at *;clear ha hb hd;go_enter func40,ntmps40;go_wp2_with fail;refine qD hE ?_;rintro e w1⟨rfl,hb1⟩;have HB:=qH hb1;clear hb1 hE;go_wp2_with fail;go_ret;exact⟨rfl,HB.o⟩
end Go.Proofs.YtmejdflmcikkdaaGreatDoor
namespace Go.Proofs.YtmejdflmcikkdaaGreatDoor
open Go.RowKit Go.Gs Tryz
theorem aT0(ab:Option Addr)(n cap:Nat)(room:Int)(cl sh:Bool)(w:World)(hn:n<=9223372036854775807):
 Calls prog 28 #[.agg #[.slice ab n cap,.int .i64 room,.bool cl,.bool sh]] w fun e w'=>e=.returned (.int .i64 (pck n room sh))/\Bq w w':=by
 by_cases h0:room<0
 . have HP:Hid (pck n room sh=3):=aq6 (.inl h0);go_enter func28,ntmps28;go_wp2_with fail;go_ret;exact⟨by rw[HP.o];rfl,P6⟩
 .
  by_cases h1:1000<room
  . have HP:Hid (pck n room sh=3):=aq6 (.inr h1);go_enter func28,ntmps28;go_wp2_with fail;go_ret;exact⟨by rw[HP.o];rfl,P6⟩
  .
   have hr:¬(room<0\/1000<room):=qO;have HR:Hid _:=hr;have HM:Hid _:=fun h=>bk4 (n:=n) (room:=room) (sh:=sh) hr h;have HF:Hid _:=fun h g=>bk5 (n:=n) (room:=room) hr h g;have HN:Hid _:=fun h g=>bk6 (n:=n) (room:=room) hr h g;have HO:Hid _:=fun h=>aK5 (n:=n) (room:=room) hr h;clear hr;by_cases hz:room=0
   .
    subst hz;have hl:plim 0=40000:=rfl;rw[hl]at HM HF HN HO;clear hl h0 h1 HR;by_cases h2:40000<n
    . have HP:Hid _:=HM.o qO;have h2':(40000:Int)<n:=qO;clear HM HF HN HO h2;go_enter func28,ntmps28;go_wp2_with fail;go_ret;exact⟨by rw[HP.o];rfl,P6⟩
    .
     have h2':¬(40000:Int)<n:=qO
     cases sh with
     | false=>have HP:Hid _:=HO.o h2';clear HM HF HN HO h2;go_enter func28,ntmps28;go_wp2_with fail;go_ret;exact⟨by rw[HP.o];rfl,P6⟩
     | true=>
      by_cases h3:0<n
      . have HP:Hid _:=HF.o h2' h3;have h4:¬(n:Int)=0:=qO;clear HM HF HN HO h2;go_enter func28,ntmps28;go_wp2_with fail;go_ret;exact⟨by rw[HP.o];rfl,P6⟩
      . have HP:Hid _:=HN.o h2' h3;have h4:n=0:=qO;clear HM HF HN HO h2 h2';subst h4;go_enter func28,ntmps28;go_wp2_with fail;go_ret;exact⟨by rw[HP.o];rfl,P6⟩
   .
    have hl:plim room=room:=by unfold plim;rw[qB hz]
    rw[hl]at HM HF HN HO;clear hl HR;by_cases h2:room<(n:Int)
    . have HP:Hid _:=HM.o h2;clear HM HF HN HO;go_enter func28,ntmps28;go_wp2_with fail;go_ret;exact⟨by rw[HP.o];rfl,P6⟩
    .
     have h5:¬(40000:Int)<n:=qO
     cases sh with
     | false=>have HP:Hid _:=HO.o h2;clear HM HF HN HO;go_enter func28,ntmps28;go_wp2_with fail;go_ret;exact⟨by rw[HP.o];rfl,P6⟩
     | true=>
      by_cases h3:0<n
      . have HP:Hid _:=HF.o h2 h3;have h4:¬(n:Int)=0:=qO;clear HM HF HN HO;go_enter func28,ntmps28;go_wp2_with fail;go_ret;exact⟨by rw[HP.o];rfl,P6⟩
      . have HP:Hid _:=HN.o h2 h3;have h4:n=0:=qO;clear HM HF HN HO;subst h4;go_enter func28,ntmps28;go_wp2_with fail;go_ret;exact⟨by rw[HP.o];rfl,P6⟩
theorem bh1(ab ac:Option Addr)(ca cc:Nat)(bs:qU)(room:Int)(cl sh:Bool)(w:World)(ha:Reads w (.slice ab bs.length ca) bs.length (bs.map U))(hc:Reads w (.slice ac bs.length cc) bs.length (bs.map U)):
 Calls prog 42 #[.agg #[.slice ab bs.length ca,.int .i64 room,.bool cl,.bool sh],.agg #[.slice ac bs.length cc,.int .i64 room,.bool cl,.bool sh]] w fun e w'=>e=.returned (.bool true)/\Bq w w':=by have HO:Hid _:=fun(W:World)(hW:Bq w W)=>bR1 ab ac ca cc bs bs W (Reads.below ha hW) (Reads.below hc hW);have hd:decide (bs=bs)=true:=qV rfl;rw[hd]at HO;generalize bs.length=N at *;clear ha hc hd;go_enter func42,ntmps42;go_wp2_with fail;refine qD (HO.o _ Q2) ?_;rintro e w1⟨rfl,hb1⟩;obtain⟨x1,x2⟩:=aB4 hb1;obtain⟨c0,c1,c2,c3⟩:=C9 x1;obtain⟨d0,d1,d2,d3⟩:=C9 x2;have HB1:Hid (Bq w w1):=Q2.trans (hb1.mono Q2.size);clear hb1 HO x1 x2;go_wp2_with fail;go_ret;exact⟨rfl,HB1.o⟩
end Go.Proofs.YtmejdflmcikkdaaGreatDoor
