/- What the reference's SameGraph does. -/
import Derived.Test.YtllgglolcgdehaaGreatDoorQAb
import Derived.Test.YtllgglolcgdehaaGreatDoorQj00
set_option maxRecDepth 100000
set_option maxHeartbeats 16000000
namespace Go.Proofs.YtllgglolcgdehaaGreatDoor
open Go.RowKit Go.Gs
set_option linter.unusedVariables false
theorem cb4 {w w':World} {a b:Value} {t u:TypeId} (h:Below (w.heap.size+1+1) ((w.alloc (.cells #[a] t)).alloc (.cells #[b] u)) w'):w'.cell? ⟨w.heap.size,0,none⟩=some a/\w'.cell? ⟨w.heap.size+1,0,none⟩=some b:=by
 constructor
 . rw[h.cell (by show w.heap.size<_;omega)];rw[World.cell?_alloc_lt (h:=by simp),cell_of_row _ _ _ _ _ _ (heap_alloc_new w _)];rfl
 . rw[h.cell (by show w.heap.size+1<_;omega)];have hs:(w.alloc (.cells #[a] t)).heap.size=w.heap.size+1:=by simp
   rw[<- hs,cell_of_row _ _ _ _ _ _ (heap_alloc_new _ _)];rfl
theorem aZ5 (au av:Option Addr) (cu cv:Nat) (a b:List SNode) (w:World) (ha:A2 w (.slice au a.length cu) a) (hb:A2 w (.slice av b.length cv) b) :
 Calls Tryz.prog 33 #[.agg #[.slice au a.length cu],.agg #[.slice av b.length cv]] w fun e w'=>e=.returned (.bool (ab8 a b))/\Bq w w':=by
 have m2:=ac3 ha;have m4:=ac3 hb;have HA:=qH ha;have HB:=qH hb;obtain⟨NA,hNA⟩:=qE a.length;obtain⟨NB,hNB⟩:=qE b.length;have HNA:=qH hNA;have HNB:=qH hNB;have hA1:NA<=9223372036854775807:=by omega
 have hB1:NB<=9223372036854775807:=by omega
 obtain⟨r,hr⟩:=qE (ab8 a b);have HR:=qH hr;rw[<- hNA,<- hNB,<- hr];rw[<- hNA] at HA m2;rw[<- hNB] at HB m4;have HG0:Hid (Bq w ((w.alloc (.cells #[.slice au NA cu] 24)).alloc (.cells #[.slice av NB cv] 24))):=b9.trans (b9.mono (by simp));clear ha hb hNA hNB hr;by_cases hne:NA=NB
 .
  subst hne;go_enter Tryz.func33,Tryz.ntmps33;go_wp2_with fail;go_loopw [18] (fun i wr=>∃k:Nat,k<=NA/\i=.int .i64 k/\Hid (Below (w.heap.size+1+1) ((w.alloc (.cells #[.slice au NA cu] 24)).alloc (.cells #[.slice av NA cv] 24)) wr)/\Hid (r=ab8 (a.drop k) (b.drop k))) (fun i _=>NA-(intOf i).toNat)
  case atStart=>exact⟨0,Nat.zero_le _,rfl,Below.refl _ _,HR⟩
  case round=>
   obtain⟨k,hk,rfl,Aa,Ae⟩:=hrel;obtain⟨g0,g1⟩:=cb4 Aa.out;have HBW:Hid (Bq w wr):=HG0.out.trans (Aa.out.mono (by omega));by_cases hlt:k<NA
   .
    obtain⟨x,hx⟩:∃x,a[k]? = some x:=⟨_,gEl (by have:=HNA.out;omega)⟩;obtain⟨y,hy⟩:∃y,b[k]? = some y:=⟨_,gEl (by have:=HNB.out;omega)⟩;have hst:=aG2 hx hy;obtain⟨b1,o1,ax,cx,rfl,⟨p0,p1,p2,p3,p4,p5,p6,p7⟩,hrx⟩:=(HA.out.below HBW.out).at hx;obtain⟨b2,o2,ay,cy,rfl,⟨s0,s1,s2,s3,s4,s5,s6,s7⟩,hry⟩:=(HB.out.below HBW.out).at hy;have HS:Hid _:=fun (W:World) (hb:Bq wr W)=>ca2 ax ay cx cy x.ins y.ins W (hrx.below hb) (hry.below hb);rw[<- Ae.out,cw3] at hst;have keep:∀{o:Obj} {q:Addr} {v:Value},wr.cell? q=some v->(wr.alloc o).cell? q=some v:=fun h=>(b9.cell (bLt wr _ h)).trans h;generalize decide (x.ins=y.ins)=pe at *;generalize (⟨x.file.toArray⟩:ByteArray)=xf at *;generalize (⟨x.c.word.toArray⟩:ByteArray)=xw at *;generalize x.c.kind=xck at *;generalize x.c.n=xcn at *;generalize x.how=xh at *;generalize x.wide=xwd at *;generalize x.kind=xk at *;generalize x.ins.length=xn at *
    generalize (⟨y.file.toArray⟩:ByteArray)=yf at *;generalize (⟨y.c.word.toArray⟩:ByteArray)=yw at *;generalize y.c.kind=yck at *;generalize y.c.n=ycn at *;generalize y.how=yh at *;generalize y.wide=ywd at *;generalize y.kind=yk at *;generalize y.ins.length=yn at *;obtain⟨fe,hfe⟩:∃d,(xf.toList == yf.toList)=d:=⟨_,rfl⟩;obtain⟨we,hwe⟩:∃d,(xw.toList == yw.toList)=d:=⟨_,rfl⟩;rw[hfe,hwe] at hst;have HST:Hid _:=hst;have t0:=keep (o:=.cells #[.int .i64 xk,.string xf,.int .i64 xck,.string xw,.int .i64 xcn,.int .i64 xh,.int .i64 xwd,.slice ax xn cx] 73) s0;have t1:=keep (o:=.cells #[.int .i64 xk,.string xf,.int .i64 xck,.string xw,.int .i64 xcn,.int .i64 xh,.int .i64 xwd,.slice ax xn cx] 73) s1;have t2:=keep (o:=.cells #[.int .i64 xk,.string xf,.int .i64 xck,.string xw,.int .i64 xcn,.int .i64 xh,.int .i64 xwd,.slice ax xn cx] 73) s2
    have t3:=keep (o:=.cells #[.int .i64 xk,.string xf,.int .i64 xck,.string xw,.int .i64 xcn,.int .i64 xh,.int .i64 xwd,.slice ax xn cx] 73) s3;have t4:=keep (o:=.cells #[.int .i64 xk,.string xf,.int .i64 xck,.string xw,.int .i64 xcn,.int .i64 xh,.int .i64 xwd,.slice ax xn cx] 73) s4;have t5:=keep (o:=.cells #[.int .i64 xk,.string xf,.int .i64 xck,.string xw,.int .i64 xcn,.int .i64 xh,.int .i64 xwd,.slice ax xn cx] 73) s5;have t6:=keep (o:=.cells #[.int .i64 xk,.string xf,.int .i64 xck,.string xw,.int .i64 xcn,.int .i64 xh,.int .i64 xwd,.slice ax xn cx] 73) s6;have t7:=keep (o:=.cells #[.int .i64 xk,.string xf,.int .i64 xck,.string xw,.int .i64 xcn,.int .i64 xh,.int .i64 xwd,.slice ax xn cx] 73) s7;have u1:=keep (o:=.cells #[.int .i64 xk,.string xf,.int .i64 xck,.string xw,.int .i64 xcn,.int .i64 xh,.int .i64 xwd,.slice ax xn cx] 73) g1
    have Rh:Hid (Bq wr ((wr.alloc (.cells #[.int .i64 xk,.string xf,.int .i64 xck,.string xw,.int .i64 xcn,.int .i64 xh,.int .i64 xwd,.slice ax xn cx] 73)).alloc (.cells #[.int .i64 yk,.string yf,.int .i64 yck,.string yw,.int .i64 ycn,.int .i64 yh,.int .i64 ywd,.slice ay yn cy] 73))):=b9.trans (b9.mono (by simp));have HBY:Hid (Bq w ((wr.alloc (.cells #[.int .i64 xk,.string xf,.int .i64 xck,.string xw,.int .i64 xcn,.int .i64 xh,.int .i64 xwd,.slice ax xn cx] 73)).alloc (.cells #[.int .i64 yk,.string yf,.int .i64 yck,.string yw,.int .i64 ycn,.int .i64 yh,.int .i64 ywd,.slice ay yn cy] 73))):=HBW.out.trans (Rh.out.mono HBW.out.size);have HC:Hid _:=HS.out _ Rh.out;clear hx hy hrx hry hst Ae keep HS;by_cases e1:xk=yk
    .
     subst e1
     cases fe with
     | false=>
      have HE:Hid (r=false):=(show _=_ by rw[HST.out];simp[eqU])
      clear HST HC
      go_wp2_with fail
      go_ret
      exact⟨by rw[HE.out];rfl,HBY.out⟩
     | true=>
      by_cases e2:xck=yck
      .
       subst e2
       cases we with
       | false=>
        have HE:Hid (r=false):=(show _=_ by rw[HST.out];simp[eqU])
        clear HST HC
        go_wp2_with fail
        go_ret
        exact⟨by rw[HE.out];rfl,HBY.out⟩
       | true=>
        by_cases e3:xcn=ycn
        .
         subst e3
         by_cases e4:xh=yh
         .
          subst e4
          by_cases e5:xwd=ywd
          .
           subst e5
           go_wp2_with fail
           refine Calls.mono HC.out ?_
           rintro e w3 ⟨rfl,hb3⟩
           have HB3:Hid (Below (w.heap.size+1+1) ((w.alloc (.cells #[.slice (some ⟨b1,o1,none⟩) NA cu] 24)).alloc (.cells #[.slice (some ⟨b2,o2,none⟩) NA cv] 24)) w3):=Aa.out.trans ((Rh.out.trans (hb3.mono Rh.out.size)).mono (by have:=Aa.out.size;simpa using this))
           have HB4:Hid (Bq w w3):=HG0.out.trans (HB3.out.mono (by omega))
           clear hb3 HC
           cases pe with
           | true=>
            have HE:Hid (r=ab8 (a.drop (k+1)) (b.drop (k+1))):=(show _=_ by rw[HST.out];simp[eqU])
            clear HST
            go_wp2_with fail
            go_roundw
            case rel=>exact⟨k+1,by omega,by go_num,HB3,HE⟩
            case measure=>simp[intOf];omega
           | false=>
            have HE:Hid (r=false):=(show _=_ by rw[HST.out];simp[eqU])
            clear HST
            go_wp2_with fail
            go_ret
            exact⟨by rw[HE.out];rfl,HB4.out⟩
          . have q5:(xwd == ywd)=false:=by simpa using e5
            have HE:Hid (r=false):=(show _=_ by rw[HST.out];simp[eqU,e5])
            clear HST HC
            go_wp2_with fail
            go_ret
            exact⟨by rw[HE.out];rfl,HBY.out⟩
         . have q4:(xh == yh)=false:=by simpa using e4
           have HE:Hid (r=false):=(show _=_ by rw[HST.out];simp[eqU,e4])
           clear HST HC
           go_wp2_with fail
           go_ret
           exact⟨by rw[HE.out];rfl,HBY.out⟩
        . have q3:(xcn == ycn)=false:=by simpa using e3
          have HE:Hid (r=false):=(show _=_ by rw[HST.out];simp[eqU,e3])
          clear HST HC
          go_wp2_with fail
          go_ret
          exact⟨by rw[HE.out];rfl,HBY.out⟩
      . have q2:(xck == yck)=false:=by simpa using e2
        have HE:Hid (r=false):=(show _=_ by rw[HST.out];simp[eqU,e2])
        clear HST HC
        go_wp2_with fail
        go_ret
        exact⟨by rw[HE.out];rfl,HBY.out⟩
    . have q1:(xk == yk)=false:=by simpa using e1
      have HE:Hid (r=false):=(show _=_ by rw[HST.out];simp[eqU,e1]);clear HST HC;go_wp2_with fail;go_ret;exact⟨by rw[HE.out];rfl,HBY.out⟩
   . have HE:Hid (r=true):=(show _=_ by
      rw[Ae.out,List.drop_of_length_le (by have:=HNA.out;omega),List.drop_of_length_le (by have:=HNB.out;omega)];rfl)
     clear Ae;go_wp2_with fail;go_ret;exact⟨by rw[HE.out];rfl,HBW.out⟩
 . have HE:Hid (r=false):=(show _=_ by rw[HR.out];exact aN4 (fun e=>hne (by rw[HNA.out,HNB.out,e])));have hq:¬(NA:Int)=NB:=by omega
   go_enter Tryz.func33,Tryz.ntmps33;go_wp2_with fail;go_ret;exact⟨by rw[HE.out];rfl,HG0.out⟩
end Go.Proofs.YtllgglolcgdehaaGreatDoor
