/- What the reference's CheckLine does, and more. -/
import Derived.Test.YtllgglolcgdehaaGreatDoorSAb
import Derived.Test.YtllgglolcgdehaaGreatDoorSa10
set_option linter.all false
set_option maxRecDepth 100000
set_option maxHeartbeats 16000000
namespace Go.Proofs.YtllgglolcgdehaaGreatDoor
open Go.RowKit Go.Gs Tryz
def WfL(x:SLine):Prop:=∀c∈x.cs,(Lit.int .i64 c.kind).wf=true
theorem aw3{w w':World}{a b c:Value}{t:TypeId}(h:Below (w.alloc (.cells #[a,b,c] t)).heap.size (w.alloc (.cells #[a,b,c] t)) w'):w'.cell? ⟨w.heap.size,0,none⟩=some a/\w'.cell? ⟨w.heap.size,1,none⟩=some b/\w'.cell? ⟨w.heap.size,2,none⟩=some c:=by
 refine⟨?_,?_,?_⟩
 all_goals
  rw[h.cell (by simp),qV _ _ _ _ _ _ (qN w _)];rfl
theorem aJ4(x:SLine)(af ad:Option Addr)(NF ND cf cd:Nat)(sx:ByteArray)(w:World)(h:NF<1\/4<NF\/6<ND)(hm1:NF<=maxLen)(hm2:ND<=maxLen):
 Calls prog 47 #[.agg #[.slice af NF cf,.slice ad ND cd,.string sx]] w fun e w'=>e=.returned (.int .i64 2)/\Bq w w':=by
 unfold maxLen at hm1 hm2;by_cases h1:NF<1
 . obtain rfl:NF=0:=by omega
   go_enter Tryz.func47,Tryz.ntmps47;go_wp2_with fail;go_ret;exact⟨rfl,i8⟩
 .
  by_cases h2:4<NF
  . have h1':¬((NF:Int)<1):=by omega
    have h2':(4:Int)<NF:=by omega
    clear h;go_enter Tryz.func47,Tryz.ntmps47;go_wp2_with fail;go_ret;exact⟨rfl,i8⟩
  .
   have h1':¬((NF:Int)<1):=by omega
   have h2':¬(4:Int)<NF:=by omega
   have h3':(6:Int)<ND:=by omega
   clear h;go_enter Tryz.func47,Tryz.ntmps47;go_wp2_with fail;go_ret;exact⟨rfl,i8⟩
theorem at0(x:SLine)(af ad:Option Addr)(cf cd:Nat)(w:World)(hf:Reads w (.slice af x.fr.length cf) x.fr.length (x.fr.map S))(hd:H9 w (.slice ad x.cs.length cd) x.cs)(Ad:M3 x)(hwf:WfL x):
 Calls prog 47 #[.agg #[.slice af x.fr.length cf,.slice ad x.cs.length cd,.string ⟨x.tu.toArray⟩]] w fun e w'=>e=.returned (.int .i64 (lchk x))/\Bq w w':=by
 by_cases hm:x.fr.length<1\/4<x.fr.length\/6<x.cs.length
 . rw[aX3 hm];obtain⟨_,_,e1,a1,a2⟩:=hf.shape;obtain⟨_,_,e2,b1,b2⟩:=hd.shape;exact aJ4 x af ad _ _ cf cd _ w hm (by omega) (by omega)
 .
  have HF:=qH hf;have HD:=qH hd;have HM:Hid _:=hm;have Db:Hid _:=Ad;have HWf:=qH hwf;obtain⟨NF,hNF⟩:=qE x.fr.length;obtain⟨ND,hND⟩:=qE x.cs.length;have HNF:=qH hNF;have HND:=qH hND;have h1:1<=NF:=by omega
  have h2:NF<=4:=by omega
  have h3:ND<=6:=by omega
  have hWt:=fun W=>P6 x.tu W Ad.2.2 _ rfl;rw[<- hNF,<- hND];rw[<- hNF]at HF;rw[<- hND]at HD;obtain⟨sx,hsx⟩:=qE (⟨x.tu.toArray⟩:ByteArray);rw[<- hsx]at hWt ⊢;obtain⟨wt,hwt⟩:=qE (isWord x.tu);have HWT:=qH hwt;rw[<- hwt]at hWt;clear hNF hND hf hd hm Ad hsx hwt hwf;go_enter Tryz.func47,Tryz.ntmps47;go_wp2_with fail;go_loopw [27] (fun i wr=>∃k:Nat,k<=NF/\i=.int .i64 k/\Hid (Below (w.alloc (.cells #[.slice af NF cf,.slice ad ND cd,.string sx] 56)).heap.size (w.alloc (.cells #[.slice af NF cf,.slice ad ND cd,.string sx] 56)) wr)/\Hid (∀s∈x.fr.take k,isWord s=true)) (fun i _=>NF-(intOf i).toNat)
  case atStart=>exact⟨0,qP _,rfl,qI _ _,(show ∀s∈x.fr.take 0,isWord s=true by simp)⟩
  case round=>
   obtain⟨k,hk,rfl,hB0,Ae⟩:=hrel;obtain⟨bx0,bx1,bx2⟩:=aw3 hB0.out;have HB0:Hid (Bq w wr):=i8.trans (hB0.out.mono (by simp));by_cases hlt:k<NF
   .
    obtain⟨s,hs⟩:∃s,x.fr[k]? = some s:=⟨_,gEl (by have:=HNF.out;omega)⟩;have HS:=qH hs;obtain⟨b,off,rfl,Ac⟩:=HF.out.at hs;have Es:=HB0.out.cell (bLt w _ Ac);rw[Ac]at Es;have hWs:=fun W=>P6 s W (Db.out.1 s (mGt hs)) _ rfl;generalize (⟨s.toArray⟩:ByteArray)=sy at *;clear Ac hs
    cases hw:isWord s with
    | false=>
     have HR:Hid (lchk x=1):=aX4 HM.out HS.out hw
     rw[hw]at hWs
     clear hw Ae
     go_wp2_with fail
     refine (hWs _).mono ?_
     rintro e w1⟨rfl,hb1⟩
     have HB1:=qT HB0 hb1
     clear hb1
     go_wp2_with fail
     go_ret
     exact⟨by rw[HR.out];rfl,HB1.out⟩
    | true=>
     have HA:Hid (∀s∈x.fr.take (k+1),isWord s=true):=ai0 HS.out Ae.out hw
     rw[hw]at hWs
     clear hw Ae
     go_wp2_with fail
     refine (hWs _).mono ?_
     rintro e w1⟨rfl,hb1⟩
     have HB1:Hid _:=hB0.out.trans (hb1.mono hB0.out.size)
     clear hb1
     go_wp2_with fail
     go_roundw
     case rel=>exact⟨k+1,by omega,by go_num,HB1,HA⟩
     case measure=>simp[intOf];omega
   .
    have Hm:x.fr.all isWord=true:=by have e:=Ae.out;rw[qO (by have:=HNF.out;omega)]at e;exact zS.2 e
    have HA:Hid _:=Hm;clear Ae Hm
    cases wt with
    | false=>
     have HR:Hid (lchk x=1):=bI5 HM.out HA.out HWT.out.symm
     clear HM HA
     go_wp2_with fail
     refine (hWt _).mono ?_
     rintro e w1⟨rfl,hb1⟩
     have HB1:=qT HB0 hb1
     clear hb1
     go_wp2_with fail
     go_ret
     exact⟨by rw[HR.out];rfl,HB1.out⟩
    | true=>
     have HR:Hid (lchk x=G8 (x.cs.map chk)):=bI6 HM.out HA.out HWT.out.symm
     clear HM HA
     go_wp2_with fail
     refine (hWt _).mono ?_
     rintro e w1⟨rfl,hb1⟩
     obtain⟨by0,by1,by2⟩:=aw3 (qT hB0 hb1).out
     have HB1:=qT HB0 hb1
     clear hb1 hWt bx0 bx1 bx2 hB0 HB0
     go_wp2_with fail
     go_loopw [42] (fun i wr=>∃k:Nat,k<=ND/\i=.int .i64 k/\Hid (Bq w wr)/\Hid (∀c∈x.cs.take k,chk c=0)) (fun i _=>ND-(intOf i).toNat)
     case atStart=>exact⟨0,qP _,rfl,HB1,(show ∀c∈x.cs.take 0,chk c=0 by simp)⟩
     case round=>
      obtain⟨k,hk,rfl,Aa,Ae⟩:=hrel
      by_cases hlt:k<ND
      .
       obtain⟨c,hc⟩:∃c,x.cs[k]? = some c:=⟨_,gEl (by have:=HND.out;omega)⟩
       have HS:=qH hc
       obtain⟨b,off,rfl,hc0,hc1,hc2⟩:=(H9.below HD.out Aa.out).at hc
       have hCk:=fun W=>bQ4 c W (HWf.out c (mGt hc)) (Db.out.2.1 c (mGt hc))
       unfold Cmd.v at hCk
       generalize hr:chk c=r at *
       have HRr:=qH hr
       generalize c.kind=ck at *
       generalize c.n=cn at *
       generalize (⟨c.word.toArray⟩:ByteArray)=sy at *
       clear hc hr
       go_wp2_with fail
       refine (hCk _).mono ?_
       rintro e w1⟨rfl,hb1⟩
       have HB:Hid (Bq w w1):=(Aa.out.alloc Aa.out.size _).trans (hb1.mono (by simp;exact zk Aa.out.size))
       clear hb1 Aa
       by_cases hr0:r=0
       . subst hr0
         have HA:Hid (∀c∈x.cs.take (k+1),chk c=0):=ai0 HS.out Ae.out HRr.out
         clear Ae
         go_wp2_with fail
         go_roundw
         case rel=>exact⟨k+1,by omega,by go_num,HB,HA⟩
         case measure=>simp[intOf];omega
       . have HA:=qH (show lchk x=r from by rw[HR.out,aa2 HS.out Ae.out (by rw[HRr.out];exact hr0),HRr.out])
         clear Ae
         go_wp2_with fail
         go_ret
         exact⟨by rw[HA.out];rfl,HB.out⟩
      .
       have HA:Hid (lchk x=0):=by
        show _=_
        rw[HR.out]
        have e:=Ae.out
        rw[qO (by have:=HND.out;omega)]at e
        exact S8 e
       clear Ae HR
       go_wp2_with fail
       go_ret
       exact⟨by rw[HA.out];rfl,Aa.out⟩
theorem bD3(ao:Option Addr)(cap:Nat)(ls:List SLine)(w:World)(hl:I0 w (.slice ao ls.length cap) ls)(Ad:∀x∈ls,M3 x)(hwf:∀x∈ls,WfL x):
 Calls prog 51 #[.slice ao ls.length cap] w fun e w'=>e=.returned (.int .i64 (schk ls))/\Bq w w':=by
 obtain⟨_,_,e0,hm1,hm2⟩:=hl.shape;injection e0 with e1 e2 e3;subst e3;unfold maxLen at hm2;have HL:=qH hl;have Db:Hid _:=Ad;have HWf:=qH hwf;obtain⟨N,hN⟩:=qE ls.length;have HN:=qH hN;rw[<- hN];rw[<- hN]at HL;by_cases Ey:6<N
 .
  have HR:Hid (schk ls=2):=aX6 (by omega);have hq:(6:Int)<N:=by omega
  have hN2:N<=9223372036854775807:=by omega
  clear hl hwf Ad hm1 hN e1 hm2;go_enter Tryz.func51,Tryz.ntmps51;go_wp2_with fail;go_ret;exact⟨by rw[HR.out];rfl,qI _ _⟩
 .
  have HR:Hid (schk ls=G8 (ls.map lchk)):=bo1 (by omega);have hN6:N<=6:=by omega
  clear hl hwf Ad hm1 hN e1 Ey hm2;go_enter Tryz.func51,Tryz.ntmps51;go_wp2_with fail;go_loopw [11] (fun i wr=>∃k:Nat,k<=N/\i=.int .i64 k/\Hid (Bq w wr)/\Hid (∀x∈ls.take k,lchk x=0)) (fun i _=>N-(intOf i).toNat)
  case atStart=>exact⟨0,qP _,rfl,qI _ _,(show ∀x∈ls.take 0,lchk x=0 by simp)⟩
  case round=>
   obtain⟨k,hk,rfl,Aa,Ae⟩:=hrel;by_cases hlt:k<N
   .
    obtain⟨x,hx⟩:∃x,ls[k]? = some x:=⟨_,gEl (by have:=HN.out;omega)⟩;have HS:=qH hx;obtain⟨b,off,af,cf,ad,cd,rfl,hc0,hc1,hc2,hr,hd⟩:=(I0.below HL.out Aa.out).at hx;have hCk:=fun(W:World)(hb:Bq wr W)=>at0 x af ad cf cd W (hr.below hb) (hd.below hb) (Db.out x (mGt hx)) (HWf.out x (mGt hx));generalize hrr:lchk x=r at *;have HRr:=qH hrr;generalize (⟨x.tu.toArray⟩:ByteArray)=sy at *;generalize x.fr.length=NF at *;generalize x.cs.length=ND at *;have HC:Hid _:=hCk;clear hx hrr hr hd hCk;go_wp2_with fail;refine (HC.out _ (i8)).mono ?_;rintro e w1⟨rfl,hb1⟩;have HB:Hid (Bq w w1):=(Aa.out.alloc Aa.out.size _).trans (hb1.mono (by simp;exact zk Aa.out.size));clear hb1 Aa HC;by_cases hr0:r=0
    . subst hr0;have HA:Hid (∀x∈ls.take (k+1),lchk x=0):=ai0 HS.out Ae.out HRr.out;clear Ae;go_wp2_with fail;go_roundw
      case rel=>exact⟨k+1,by omega,by go_num,HB,HA⟩
      case measure=>simp[intOf];omega
    . have HA:=qH (show schk ls=r from by rw[HR.out,aa2 HS.out Ae.out (by rw[HRr.out];exact hr0),HRr.out]);clear Ae;go_wp2_with fail;go_ret;exact⟨by rw[HA.out];rfl,HB.out⟩
   . have HA:Hid (schk ls=0):=by show _=_;rw[HR.out];have e:=Ae.out;rw[qO (by have:=HN.out;omega)]at e;exact S8 e
     clear Ae HR;go_wp2_with fail;go_ret;exact⟨by rw[HA.out];rfl,Aa.out⟩
end Go.Proofs.YtllgglolcgdehaaGreatDoor
