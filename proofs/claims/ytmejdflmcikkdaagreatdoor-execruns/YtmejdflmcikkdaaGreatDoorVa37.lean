/- What the reference's SameGraph does. -/
import Derived.Test.YtmejdflmcikkdaaGreatDoorVAb
import Derived.Test.YtmejdflmcikkdaaGreatDoorVa36
set_option linter.all false
set_option maxRecDepth 100000
set_option maxHeartbeats 64000000
namespace Go.Proofs.YtmejdflmcikkdaaGreatDoor
open Go.RowKit Go.Gs Tryz
theorem bP8{w w':World}{a b:Value}{t u:TypeId}(h:Below (w.heap.size+1+1) ((w.alloc (.cells #[a] t)).alloc (.cells #[b] u)) w'):w'.cell? ⟨w.heap.size,0,none⟩=some a/\w'.cell? ⟨w.heap.size+1,0,none⟩=some b:=by
 constructor
 . rw[h.cell (by show w.heap.size<_;omega)];rw[World.cell?_alloc_lt (h:=by simp),qY _ _ _ _ _ _ (qJ w _)];rfl
 . rw[h.cell (by show w.heap.size+1<_;omega)];have hs:(w.alloc (.cells #[a] t)).heap.size=w.heap.size+1:=by simp
   rw[<- hs,qY _ _ _ _ _ _ (qJ _ _)];rfl
theorem aT3(au av:Option Addr)(cu cv:Nat)(a b:List SNode)(w:World)(ha:y8 w (.slice au a.length cu) a)(hb:y8 w (.slice av b.length cv) b):
 Calls prog 39 #[.agg #[.slice au a.length cu],.agg #[.slice av b.length cv]] w fun e w'=>e=.returned (.bool (Y1 a b))/\Bq w w':=by
 have m2:=M5 ha;have m4:=M5 hb;have HA:=qH ha;have HB:=qH hb;obtain⟨NA,hNA⟩:=qE a.length;obtain⟨NB,hNB⟩:=qE b.length;have HNA:=qH hNA;have HNB:=qH hNB;have hA1:NA<=9223372036854775807:=qO;have hB1:NB<=9223372036854775807:=qO;obtain⟨r,hr⟩:=qE (Y1 a b);have HR:=qH hr;rw[<- hNA,<- hNB,<- hr];rw[<- hNA]at HA m2;rw[<- hNB]at HB m4;have HG0:Hid (Bq w ((w.alloc (.cells #[.slice au NA cu] 24)).alloc (.cells #[.slice av NB cv] 24))):=g9.trans (g9.mono (by simp));clear ha hb hNA hNB hr;by_cases hne:NA=NB
 .
  subst hne;go_enter func39,ntmps39;go_wp2_with fail;go_loopw [18] (fun i wr=>∃k:Nat,k<=NA/\i=.int .i64 k/\Hid (Below (w.heap.size+1+1) ((w.alloc (.cells #[.slice au NA cu] 24)).alloc (.cells #[.slice av NA cv] 24)) wr)/\Hid (r=Y1 (a.drop k) (b.drop k))) (fun i _=>NA-(intOf i).toNat)
  case atStart=>exact⟨0,qM _,rfl,Below.refl _ _,HR⟩
  case round=>
   obtain⟨k,hk,rfl,Aa,An⟩:=hrel;obtain⟨g0,g1⟩:=bP8 Aa.o;have HBW:Hid (Bq w wr):=HG0.o.trans (Aa.o.mono qO);by_cases hlt:k<NA
   .
    obtain⟨x,hx⟩:∃x,a[k]?=some x:=⟨_,gEl (by have:=HNA.o;omega)⟩;obtain⟨y,hy⟩:∃y,b[k]?=some y:=⟨_,gEl (by have:=HNB.o;omega)⟩;have hst:=aA9 hx hy;obtain⟨b1,o1,ax,cx,rfl,⟨p0,p1,p2,p3,p4,p5,p6,p7⟩,hrx⟩:=(HA.o.below HBW.o).at hx;obtain⟨b2,o2,ay,cy,rfl,⟨s0,s1,s2,s3,s4,s5,s6,s7⟩,hry⟩:=(HB.o.below HBW.o).at hy;have HS:Hid _:=fun(W:World)(hb:Bq wr W)=>bP5 ax ay cx cy x.ins y.ins W (hrx.below hb) (hry.below hb);rw[<- An.o,cf9]at hst;have keep:∀{o:Obj}{q:Addr}{v:Value},wr.cell? q=some v->(wr.alloc o).cell? q=some v:=fun h=>qC g9 h;generalize decide (x.ins=y.ins)=pe,(⟨x.file.toArray⟩:ByteArray)=xf,(⟨x.c.word.toArray⟩:ByteArray)=xw,x.c.kind=xck,x.c.n=xcn,x.how=xh,x.wide=xwd,x.kind=xk,x.ins.length=xn,(⟨y.file.toArray⟩:ByteArray)=yf,(⟨y.c.word.toArray⟩:ByteArray)=yw,y.c.kind=yck,y.c.n=ycn,y.how=yh,y.wide=ywd,y.kind=yk,y.ins.length=yn at *;obtain⟨fe,hfe⟩:∃d,(xf.toList==yf.toList)=d:=⟨_,rfl⟩;obtain⟨we,hwe⟩:∃d,(xw.toList==yw.toList)=d:=⟨_,rfl⟩;rw[hfe,hwe]at hst;have HST:Hid _:=hst;have t0:=keep (o:=.cells #[.int .i64 xk,.string xf,.int .i64 xck,.string xw,.int .i64 xcn,.int .i64 xh,.int .i64 xwd,.slice ax xn cx] 57) s0;have t1:=keep (o:=.cells #[.int .i64 xk,.string xf,.int .i64 xck,.string xw,.int .i64 xcn,.int .i64 xh,.int .i64 xwd,.slice ax xn cx] 57) s1;have t2:=keep (o:=.cells #[.int .i64 xk,.string xf,.int .i64 xck,.string xw,.int .i64 xcn,.int .i64 xh,.int .i64 xwd,.slice ax xn cx] 57) s2;have t3:=keep (o:=.cells #[.int .i64 xk,.string xf,.int .i64 xck,.string xw,.int .i64 xcn,.int .i64 xh,.int .i64 xwd,.slice ax xn cx] 57) s3;have t4:=keep (o:=.cells #[.int .i64 xk,.string xf,.int .i64 xck,.string xw,.int .i64 xcn,.int .i64 xh,.int .i64 xwd,.slice ax xn cx] 57) s4;have t5:=keep (o:=.cells #[.int .i64 xk,.string xf,.int .i64 xck,.string xw,.int .i64 xcn,.int .i64 xh,.int .i64 xwd,.slice ax xn cx] 57) s5;have t6:=keep (o:=.cells #[.int .i64 xk,.string xf,.int .i64 xck,.string xw,.int .i64 xcn,.int .i64 xh,.int .i64 xwd,.slice ax xn cx] 57) s6;have t7:=keep (o:=.cells #[.int .i64 xk,.string xf,.int .i64 xck,.string xw,.int .i64 xcn,.int .i64 xh,.int .i64 xwd,.slice ax xn cx] 57) s7;have u1:=keep (o:=.cells #[.int .i64 xk,.string xf,.int .i64 xck,.string xw,.int .i64 xcn,.int .i64 xh,.int .i64 xwd,.slice ax xn cx] 57) g1;have Xj:Hid (Bq wr ((wr.alloc (.cells #[.int .i64 xk,.string xf,.int .i64 xck,.string xw,.int .i64 xcn,.int .i64 xh,.int .i64 xwd,.slice ax xn cx] 57)).alloc (.cells #[.int .i64 yk,.string yf,.int .i64 yck,.string yw,.int .i64 ycn,.int .i64 yh,.int .i64 ywd,.slice ay yn cy] 57))):=g9.trans (g9.mono (by simp));have HBY:Hid (Bq w ((wr.alloc (.cells #[.int .i64 xk,.string xf,.int .i64 xck,.string xw,.int .i64 xcn,.int .i64 xh,.int .i64 xwd,.slice ax xn cx] 57)).alloc (.cells #[.int .i64 yk,.string yf,.int .i64 yck,.string yw,.int .i64 ycn,.int .i64 yh,.int .i64 ywd,.slice ay yn cy] 57))):=HBW.o.trans (Xj.o.mono HBW.o.size);have HC:Hid _:=HS.o _ Xj.o;clear hx hy hrx hry hst An keep HS;by_cases e1:xk=yk
    .
     subst e1
     cases fe with
     | false=>have HE:=qH (show r=false by rw[HST.o];simp[eqU]);clear HST HC;go_wp2_with fail;go_ret;exact⟨by rw[HE.o];rfl,HBY.o⟩
     | true=>
      by_cases e2:xck=yck
      .
       subst e2
       cases we with
       | false=>have HE:=qH (show r=false by rw[HST.o];simp[eqU]);clear HST HC;go_wp2_with fail;go_ret;exact⟨by rw[HE.o];rfl,HBY.o⟩
       | true=>
        by_cases e3:xcn=ycn
        .
         subst e3;by_cases e4:xh=yh
         . subst e4;by_cases e5:xwd=ywd
           . subst e5;go_wp2_with fail;refine qD HC.o ?_;rintro e w3⟨rfl,hb3⟩;have HB3:Hid (Below (w.heap.size+1+1) ((w.alloc (.cells #[.slice (some ⟨b1,o1,none⟩) NA cu] 24)).alloc (.cells #[.slice (some ⟨b2,o2,none⟩) NA cv] 24)) w3):=Aa.o.trans ((qT Xj hb3).out.mono (by have:=Aa.o.size;simpa using this));have HB4:Hid (Bq w w3):=HG0.o.trans (HB3.o.mono qO);clear hb3 HC
             cases pe with
             | true=>
              have HE:=qH (show r=Y1 (a.drop (k+1)) (b.drop (k+1)) by rw[HST.o];simp[eqU]);clear HST;go_wp2_with fail;go_roundw
              case rel=>exact⟨k+1,qO,by go_num,HB3,HE⟩
              case measure=>simp[intOf];omega
             | false=>have HE:=qH (show r=false by rw[HST.o];simp[eqU]);clear HST;go_wp2_with fail;go_ret;exact⟨by rw[HE.o];rfl,HB4.o⟩
           . have q5:(xwd==ywd)=false:=by simpa using e5
             have HE:=qH (show r=false by rw[HST.o];simp[eqU,e5]);clear HST HC;go_wp2_with fail;go_ret;exact⟨by rw[HE.o];rfl,HBY.o⟩
         . have q4:(xh==yh)=false:=by simpa using e4
           have HE:=qH (show r=false by rw[HST.o];simp[eqU,e4]);clear HST HC;go_wp2_with fail;go_ret;exact⟨by rw[HE.o];rfl,HBY.o⟩
        . have q3:(xcn==ycn)=false:=by simpa using e3
          have HE:=qH (show r=false by rw[HST.o];simp[eqU,e3]);clear HST HC;go_wp2_with fail;go_ret;exact⟨by rw[HE.o];rfl,HBY.o⟩
      . have q2:(xck==yck)=false:=by simpa using e2
        have HE:=qH (show r=false by rw[HST.o];simp[eqU,e2]);clear HST HC;go_wp2_with fail;go_ret;exact⟨by rw[HE.o];rfl,HBY.o⟩
    . have q1:(xk==yk)=false:=by simpa using e1
      have HE:=qH (show r=false by rw[HST.o];simp[eqU,e1]);clear HST HC;go_wp2_with fail;go_ret;exact⟨by rw[HE.o];rfl,HBY.o⟩
   . have HE:=qH (show r=true by
      rw[An.o,qi (by have:=HNA.o;omega),qi (by have:=HNB.o;omega)];rfl)
     clear An;go_wp2_with fail;go_ret;exact⟨by rw[HE.o];rfl,HBW.o⟩
 . have HE:=qH (show r=false by rw[HR.o];exact aG2 (fun e=>hne (by rw[HNA.o,HNB.o,e])));have hq:¬(NA:Int)=NB:=qO;go_enter func39,ntmps39;go_wp2_with fail;go_ret;exact⟨by rw[HE.o];rfl,HG0.o⟩
end Go.Proofs.YtmejdflmcikkdaaGreatDoor
