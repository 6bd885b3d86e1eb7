/- What the reference's CheckGraph does. -/
import Derived.Test.YtmejdflmcikkdaaGreatDoorVAb
import Derived.Deep.CutBlock
import Derived.Test.YtmejdflmcikkdaaGreatDoorVa36
set_option linter.all false
set_option maxRecDepth 100000
set_option maxHeartbeats 64000000
namespace Go.Proofs.YtmejdflmcikkdaaGreatDoor
open Go.RowKit Go.Gs Go.Maps Tryz
variable {k:Int}{bf bw bc bh:Bool}
theorem aZ7{k:Nat}(h:k<=60):(Lit.int .i64 (k:Int)).wf=true:=by simp[Lit.wf,IntKind.min,IntKind.max,IntKind.signed,IntKind.bits];omega
def leastOf(k:Int):Int:=if k=1 then 0 else 1
def aQ7(k:Int):Int:=if k=1 then 0 else if k=4 then 5 else 1
def badN(k:Int)(m:Nat)(wd ck cn hw:Int)(fe we:Bool):Bool:=!S1 k m || hasU k wd ck cn hw fe we
theorem br7{n:SNode}(h:A7 n=0):q9 n=if badN n.kind n.ins.length n.wide n.c.kind n.c.n n.how (⟨n.file.toArray⟩:ByteArray).toList.isEmpty (⟨n.c.word.toArray⟩:ByteArray).toList.isEmpty then 4 else 0:=by unfold q9 badN;rw[bF1,qB (by simp[h])]
theorem br8{n:SNode}(h:A7 n≠0):q9 n=A7 n:=by unfold q9;rw[qF h]
theorem bC4{n:SNode}(h:A7 n=0):n.kind=1\/n.kind=5\/n.kind=2\/n.kind=3\/n.kind=4:=by rcases N9 h with⟨h3 | h3,_⟩|⟨h3,_,_⟩|⟨h3,_⟩|⟨h3,_⟩ <;> simp[h3]
def ce1(k wd:Int)(iw:Bool)(ch jc:Int):Int:=
 if k=1\/k=5 then (if iw then 0 else 1) else if k=2 then (if wd<1\/5<wd then 3 else 0) else if k=3 then ch else if k=4 then jc else 4
theorem bY9(h:k=1\/k=5\/k=2\/k=3\/k=4)(h1:bf=decide (k=1\/k=5))(h2:bw=decide (k=2))(h3:bc=decide (k=3\/k=4))(h4:bh=decide (k=4)):
 (bf=true/\bw=false/\bc=false/\bh=false)\/(bf=false/\bw=true/\bc=false/\bh=false)\/(bf=false/\bw=false/\bc=true/\bh=false)\/(bf=false/\bw=false/\bc=true/\bh=true):=by subst h1 h2 h3 h4;rcases h with rfl | rfl | rfl | rfl | rfl <;> decide
theorem cg1(h:k=1\/k=5\/k=2\/k=3\/k=4)(h1:bf=decide (k=1\/k=5))(h2:bw=decide (k=2))(h3:bc=decide (k=3\/k=4))(h4:bh=decide (k=4))(m:Nat)(wd ck cn hw:Int)(fe we:Bool):
 badN k m wd ck cn hw fe we=(decide ((m:Int)<leastOf k) || decide (aQ7 k<(m:Int)) || (!bf && !fe) || (!bw && !decide (wd=0)) || (!bc && !(decide (ck=0) && we && decide (cn=0))) || (!bh && !decide (hw=0))):=by
 have hm:(!S1 k m)=(decide ((m:Int)<leastOf k) || decide (aQ7 k<(m:Int))):=by
  rcases h with rfl | rfl | rfl | rfl | rfl
  all_goals
   simp[S1,leastOf,aQ7];try (by_cases e:m=0 <;> simp[e] <;> omega)
   try (by_cases e:m=1 <;> simp[e] <;> omega)
   try (by_cases e:1<=m <;> by_cases e2:m<=5 <;> simp[e,e2] <;> omega)
 subst h1 h2 h3 h4;unfold badN hasU;rw[hm];simp only[Bool.or_assoc]
theorem bZ0(n:SNode):A7 n=ce1 n.kind n.wide (isWord n.file) (chk n.c) (jchk n.how n.c):=rfl
theorem aQ8(ns:List SNode)(ao:Option Addr)(cap:Nat)(w:World)(hr:y8 w (.slice ao ns.length cap) ns)(Ad:∀n∈ns,G8 n)(hkw:∀n∈ns,(Lit.int .i64 n.c.kind).wf=true):
 Calls prog 12 #[.agg #[.slice ao ns.length cap]] w fun e w'=>e=.returned (.int .i64 (gchk ns))/\Bq w w':=by
 have hle:=M5 hr;have HR:=qH hr;have Gz:=qH Ad;have HKW:=qH hkw;obtain⟨N,hN⟩:=qE ns.length;have HN:=qH hN;obtain⟨r,hrr⟩:=qE (gchk ns);have HRR:=qH hrr;rw[<- hN,<- hrr];rw[<- hN]at HR hle;clear hr hN hrr Ad hkw;by_cases h60:60<N
 . have hr2:r=2:=by rw[HRR.o,aY1 (by rw[<- HN.o];exact h60)]
   subst hr2;have hq:(60:Int)<N:=qO;clear HR HRR;go_enter func12,ntmps12;go_wp2_with fail;go_ret;exact⟨rfl,g9⟩
 .
  have hq:¬(60:Int)<N:=qO;have Et:N<=60:=qO;have hmm:=@run_makeMap prog;go_enter func12,ntmps12;go_wp2_with fail;go_loopw [27] (fun i wr=>∃k:Nat,∃t:List (Int × Int),k<=N/\i=.int .i64 k/\Hid (t.length<=5*k)/\Hid (y9 [] ns []=y9 (ns.take k) (ns.drop k) t)/\Hid (L9 wr (plainElem prog 4) (w.heap.size+1) t.length t)/\Hid (Below (w.heap.size+1) (w.alloc (.cells #[.slice ao N cap] 24)) wr)) (fun i _=>N-(intOf i).toNat)
  case atStart=>exact⟨0,[],qM _,rfl,(show _<=_ from qA _),(show _=_ by simp),bz1 w _ _,(Below.refl _ _).alloc (by simp) _⟩
  case round=>
   obtain⟨k,t,hk,rfl,HTL,HG,HPA,Aa⟩:=hrel;obtain⟨wo,hwo⟩:=qE wr;subst hwo;have hgx:=ai5 Aa.o;have HBW:Hid (Bq w wo):=g9.trans (Aa.o.mono (by simp));by_cases hlt:k<N
   .
    obtain⟨n,hn⟩:∃n,ns[k]?=some n:=⟨_,gEl (by have:=HN.o;omega)⟩;obtain⟨b,off,ai,ci,rfl,hNA,HP⟩:=HR.o.at hn;obtain⟨c0,c1,c2,c3,c4,c5,c6,c7⟩:=hNA.below HBW.o;have hil:=(S3 HP);have hfn:=Gz.o n (mGt hn);have hkn:=HKW.o n (mGt hn);have HIW:Hid _:=fun W=>Z8 n.file W hfn.1 (isWord n.file) rfl;have HCC:Hid _:=fun W=>aY9 n.c W hkn hfn.2.1;have HCJ:Hid _:=fun W=>bA1 n.how n.c W hkn hfn.2.1;unfold Cmd.v at HCC HCJ;have HUX:Hid _:=bZ0 n;have Me:Hid _:=@br7 n;have Ql:Hid _:=@br8 n;have HUK:Hid _:=@bC4 n;obtain⟨nu,hnu⟩:=qE (A7 n);rw[<- hnu]at HUX Me Ql HUK;clear hnu;generalize isWord n.file=iw at HIW HUX;generalize chk n.c=ch at HCC HUX;generalize jchk n.how n.c=jc at HCJ HUX;have HDR:Hid (ns.drop k=n::ns.drop (k+1)):=aq4 hn;have HNN:=qH hn;have HFN:=qH hfn;obtain⟨nk,hnk⟩:=qE n.kind;have HNK:=qH hnk;obtain⟨ni,hni⟩:=qE n.ins.length;have HNI:=qH hni;have HPW:=qH HP;rw[<- hnk]at HUX Me HUK;rw[<- hni]at c7 hil HPW Me;rw[<- hnk]at c0;generalize (⟨n.file.toArray⟩:ByteArray)=fx,(⟨n.c.word.toArray⟩:ByteArray)=wx0,n.c.kind=ck,n.c.n=cn,n.how=hw,n.wide=wd at *;clear hn hfn hnk hni HP hNA hkn;obtain⟨lo,hlo⟩:=qE (leastOf nk);have HLO:=qH hlo;obtain⟨hi,hhi⟩:=qE (aQ7 nk);have HHI:=qH hhi;obtain⟨bf,hbf⟩:=qE (decide (nk=1\/nk=5));have HBF:=qH hbf;obtain⟨bw,hbw⟩:=qE (decide (nk=2));have It:=qH hbw;obtain⟨bc,hbc⟩:=qE (decide (nk=3\/nk=4));have HBC:=qH hbc;obtain⟨bh,hbh⟩:=qE (decide (nk=4));have HBH:=qH hbh;clear hlo hhi hbf hbw hbc hbh;go_upto_block 2 with fail
    have HW0:Hid (J4 (wo.alloc (.cells #[.int .i64 nk,.string fx,.int .i64 ck,.string wx0,.int .i64 cn,.int .i64 hw,.int .i64 wd,.slice ai ni ci] 57)) wo.heap.size (.int .i64 nk) (.string fx) (.int .i64 ck) (.string wx0) (.int .i64 cn) (.int .i64 hw) (.int .i64 wd) (.slice ai ni ci)):=U5 (Below.refl _ _);have Fb:Hid (Bq wo (wo.alloc (.cells #[.int .i64 nk,.string fx,.int .i64 ck,.string wx0,.int .i64 cn,.int .i64 hw,.int .i64 wd,.slice ai ni ci] 57))):=g9;go_cut [6,7,8,9,10,11,12] (fun z6 z7 z8 z9 z10 z11 z12 wx=>z6=.int .i64 nu/\z7=.int .i64 lo/\z8=.int .i64 hi/\z9=.bool bf/\z10=.bool bw/\z11=.bool bc/\z12=.bool bh/\Hid (J4 wx wo.heap.size (.int .i64 nk) (.string fx) (.int .i64 ck) (.string wx0) (.int .i64 cn) (.int .i64 hw) (.int .i64 wd) (.slice ai ni ci))/\Hid (Bq wo wx))
    case first=>
     as_aux_lemma=>
      clear HG HTL HPA Aa Me Ql HUK
      by_cases h1:nk=1
      .
       subst h1
       have hnu:nu=if iw then 0 else 1:=HUX.o
       have q0:lo=0:=by rw[HLO.o];decide
       have q1:hi=0:=by rw[HHI.o];decide
       have q2:bf=true:=by rw[HBF.o];decide
       have q3:bw=false:=by rw[It.o];decide
       have q4:bc=false:=by rw[HBC.o];decide
       have q5:bh=false:=by rw[HBH.o];decide
       subst q0 q1 q2 q3 q4 q5
       go_wp2_with fail
       refine (HIW.o _).mono ?_
       rintro e w1⟨rfl,hb1⟩
       have HW1:=HW0.o.below hb1
       have HB1:=qT Fb hb1
       clear hb1 HW0 Fb
       cases iw
       all_goals
        subst hnu
        go_wp2_with fail
        go_meet
        exact⟨rfl,rfl,rfl,rfl,rfl,rfl,rfl,HW1,HB1⟩
      by_cases h5:nk=5
      .
       subst h5
       have hnu:nu=if iw then 0 else 1:=HUX.o
       have q0:lo=1:=by rw[HLO.o];decide
       have q1:hi=1:=by rw[HHI.o];decide
       have q2:bf=true:=by rw[HBF.o];decide
       have q3:bw=false:=by rw[It.o];decide
       have q4:bc=false:=by rw[HBC.o];decide
       have q5:bh=false:=by rw[HBH.o];decide
       subst q0 q1 q2 q3 q4 q5
       go_wp2_with fail
       refine (HIW.o _).mono ?_
       rintro e w1⟨rfl,hb1⟩
       have HW1:=HW0.o.below hb1
       have HB1:=qT Fb hb1
       clear hb1 HW0 Fb
       cases iw
       all_goals
        subst hnu
        go_wp2_with fail
        go_meet
        exact⟨rfl,rfl,rfl,rfl,rfl,rfl,rfl,HW1,HB1⟩
      by_cases h2:nk=2
      .
       subst h2
       have hnu:nu=if wd<1\/5<wd then 3 else 0:=HUX.o
       have q0:lo=1:=by rw[HLO.o];decide
       have q1:hi=1:=by rw[HHI.o];decide
       have q2:bf=false:=by rw[HBF.o];decide
       have q3:bw=true:=by rw[It.o];decide
       have q4:bc=false:=by rw[HBC.o];decide
       have q5:bh=false:=by rw[HBH.o];decide
       subst q0 q1 q2 q3 q4 q5
       by_cases g1:wd<1
       . rw[qF (.inl g1)]at hnu
         subst hnu
         go_wp2_with fail
         go_meet
         exact⟨rfl,rfl,rfl,rfl,rfl,rfl,rfl,HW0,Fb⟩
       .
        by_cases g5:5<wd
        . rw[qF (.inr g5)]at hnu
          subst hnu
          go_wp2_with fail
          go_meet
          exact⟨rfl,rfl,rfl,rfl,rfl,rfl,rfl,HW0,Fb⟩
        . rw[qB (by rintro (h | h);exact g1 h;exact g5 h)]at hnu
          subst hnu
          go_wp2_with fail
          go_meet
          exact⟨rfl,rfl,rfl,rfl,rfl,rfl,rfl,HW0,Fb⟩
      by_cases h3:nk=3
      .
       subst h3
       have hnu:nu=ch:=HUX.o
       subst hnu
       have q0:lo=1:=by rw[HLO.o];decide
       have q1:hi=1:=by rw[HHI.o];decide
       have q2:bf=false:=by rw[HBF.o];decide
       have q3:bw=false:=by rw[It.o];decide
       have q4:bc=true:=by rw[HBC.o];decide
       have q5:bh=false:=by rw[HBH.o];decide
       subst q0 q1 q2 q3 q4 q5
       go_wp2_with fail
       refine (HCC.o _).mono ?_
       rintro e w1⟨rfl,hb1⟩
       have HW1:=HW0.o.below hb1
       have HB1:=qT Fb hb1
       clear hb1 HW0 Fb
       go_wp2_with fail
       go_meet
       exact⟨rfl,rfl,rfl,rfl,rfl,rfl,rfl,HW1,HB1⟩
      by_cases h4:nk=4
      .
       subst h4
       have hnu:nu=jc:=HUX.o
       subst hnu
       have q0:lo=1:=by rw[HLO.o];decide
       have q1:hi=5:=by rw[HHI.o];decide
       have q2:bf=false:=by rw[HBF.o];decide
       have q3:bw=false:=by rw[It.o];decide
       have q4:bc=true:=by rw[HBC.o];decide
       have q5:bh=true:=by rw[HBH.o];decide
       subst q0 q1 q2 q3 q4 q5
       go_wp2_with fail
       refine (HCJ.o _).mono ?_
       rintro e w1⟨rfl,hb1⟩
       have HW1:=HW0.o.below hb1
       have HB1:=qT Fb hb1
       clear hb1 HW0 Fb
       go_wp2_with fail
       go_meet
       exact⟨rfl,rfl,rfl,rfl,rfl,rfl,rfl,HW1,HB1⟩
      .
       have hnu:nu=4:=by rw[HUX.o];unfold ce1;rw[qB qO,qB h2,qB h3,qB h4]
       subst hnu
       have e1:(nk==1)=false:=by simpa using h1
       have e5:(nk==5)=false:=by simpa using h5
       have e2:(nk==2)=false:=by simpa using h2
       have e3:(nk==3)=false:=by simpa using h3
       have e4:(nk==4)=false:=by simpa using h4
       have q0:lo=1:=by rw[HLO.o];unfold leastOf;rw[qB h1]
       have q1:hi=1:=by rw[HHI.o];unfold aQ7;rw[qB h1,qB h4]
       have q2:bf=false:=by rw[HBF.o,qG qO]
       have q3:bw=false:=by rw[It.o,qG h2]
       have q4:bc=false:=by rw[HBC.o,qG qO]
       have q5:bh=false:=by rw[HBH.o,qG h4]
       subst q0 q1 q2 q3 q4 q5
       clear h1 h2 h3 h4 h5
       go_wp2_with fail
       go_meet
       exact⟨rfl,rfl,rfl,rfl,rfl,rfl,rfl,HW0,Fb⟩
    case rest=>
     obtain⟨rfl,rfl,rfl,rfl,rfl,rfl,rfl,HC8,HBX⟩:=hcut;obtain⟨v1,hv1⟩:=qE wc;subst hv1;clear HW0 Fb HIW HCC HCJ HUX c0 c1 c2 c3 c4 c5 c6 c7;have HB1:Hid (Below (w.heap.size+1) (w.alloc (.cells #[.slice (some ⟨b,off,none⟩) N cap] 24)) v1):=Aa.o.trans (HBX.o.mono (by have:=Aa.o.size;simpa using this));have Ib:Hid (L9 v1 (plainElem prog 4) (w.heap.size+1) t.length t):=HPA.o.below HBX.o;have HNB:=qH (show w.heap.size+1<wo.heap.size from by obtain⟨D,h1,_⟩:=HPA.o;exact h1.lt);clear hgx HPA;by_cases Qm:nu=0
     .
      subst Qm;have HKK:=HUK.o rfl;have Gu:=Me.o rfl;have HFL:Hid _:=bY9 HKK HBF.o It.o HBC.o HBH.o;have hbd:=cg1 HKK HBF.o It.o HBC.o HBH.o ni wd ck cn hw fx.toList.isEmpty wx0.toList.isEmpty;rw[<- HLO.o,<- HHI.o]at hbd;obtain⟨bad,Dc⟩:=qE (badN nk ni wd ck cn hw fx.toList.isEmpty wx0.toList.isEmpty);rw[<- Dc]at hbd Gu;have HBD:Hid _:=hbd;have HNC:=qH Gu;have HK5:Hid _:=HKK;clear hbd Dc Gu Me Ql HUK HLO HHI HBF It HBC HBH HKK;obtain⟨y0,y1,y2,y3,y4,y5,y6,y7⟩:=id HC8.o;go_upto_region 31 with fail;go_cut [117] (fun z wx=>z=.bool bad/\wx=v1)
      case first=>
       as_aux_lemma=>
        have hbd:=HBD.o
        clear HG HTL Ib Aa HB1 HBX HC8 HNC HBD HK5
        obtain⟨fe,hfe⟩:∃d,fx.toList.isEmpty=d:=⟨_,rfl⟩
        obtain⟨we,hwe⟩:∃d,wx0.toList.isEmpty=d:=⟨_,rfl⟩
        rw[hfe,hwe]at hbd
        subst hbd
        rcases HFL.o with⟨rfl,rfl,rfl,rfl⟩|⟨rfl,rfl,rfl,rfl⟩|⟨rfl,rfl,rfl,rfl⟩|⟨rfl,rfl,rfl,rfl⟩
        all_goals
         go_wp2_with fail
         all_goals
          go_meet
          exact⟨by simp_all [ak1],rfl⟩
      case rest=>
       obtain⟨rfl,rfl⟩:=hcut;clear HBD HFL
       cases bad with
       | true=>
        have hr4:r=4:=by rw[HRR.o,R1 (by rw[<- HN.o];exact Et) ((aO5 (HG.o.trans (by rw[HDR.o])) (by rw[HNC.o];decide)).trans HNC.o) (by decide)];rfl
        subst hr4;have HBF:Hid (Bq w wc):=g9.trans (HB1.o.mono (by simp));clear HG HTL Ib Aa HB1 HBX HC8 HNC HK5;go_wp2_with fail;go_ret;exact⟨rfl,HBF.o⟩
       | false=>
        have Gu:Hid (q9 n=0):=HNC.o;have hni5:ni<=5:=by rw[HNI.o];exact aX8 Gu.o
        clear HNC HK5;go_wp2_with fail;go_loopw [121] (fun j wx=>∃m:Nat,∃t':List (Int × Int),m<=ni/\j=.int .i64 m/\Hid (t'.length<=5*k+m)/\Hid (A4 (ns.take k) n.ins t=A4 (ns.take k) (n.ins.drop m) t')/\Hid (L9 wx (plainElem prog 4) (w.heap.size+1) t'.length t')/\Hid (J4 wx wo.heap.size (.int .i64 nk) (.string fx) (.int .i64 ck) (.string wx0) (.int .i64 cn) (.int .i64 hw) (.int .i64 wd) (.slice ai ni ci))/\Hid (Below (w.heap.size+1) (w.alloc (.cells #[.slice (some ⟨b,off,none⟩) N cap] 24)) wx)) (fun j _=>ni-(intOf j).toNat)
        case atStart=>exact⟨0,t,qM _,rfl,HTL,(show _=_ by simp),Ib,HC8,HB1⟩
        case round=>
         clear Ib HC8 HB1 y0 y1 y2 y3 y4 y5 y6 y7 HTL;obtain⟨m,t',hm,rfl,Dx,HI,Dy,HC8,Aw⟩:=hrel;have hgx:=ai5 Aw.o;have Ep:Hid (Bq w wr):=g9.trans (Aw.o.mono (by simp));obtain⟨y0,y1,y2,y3,y4,y5,y6,y7⟩:=id HC8.o;by_cases Zw:m<ni
         .
          obtain⟨p,hp⟩:∃p,n.ins[m]?=some p:=⟨_,gEl (by have:=HNI.o;omega)⟩;obtain⟨pb,po,hao,p0,p1⟩:=(D5.below HPW.o Ep.o).at hp;subst hao;have Gj:WfP p:=HFN.o.2.2 p (mGt hp);have HDP:Hid (n.ins.drop m=p::n.ins.drop (m+1)):=aY2 hp;obtain⟨pp,pq⟩:=p;simp only at p0 p1;have HWP:=qH Gj;obtain⟨po2,Lr⟩:=qE (I1 (ns.take k) (pp,pq));have HPO:=qH Lr;have HTKL:=qH (show (ns.take k).length=k by rw[qX];have:=HN.o;omega);clear hp Gj Lr;obtain⟨q0,q1⟩:=ak2 (w:=wr) (a:=.int .i64 pp) (b:=.int .i64 pq) (t:=74) (Below.refl _ _);have hgq:(wr.alloc (.cells #[.int .i64 pp,.int .i64 pq] 74)).cell? ⟨w.heap.size,0,none⟩=some (.slice (some ⟨b,off,none⟩) N cap):=qC g9 hgx;go_upto_region 36 with fail;go_cut [150] from 125 to 149 (fun z wx=>z=.bool (!po2)/\Hid (Below (wr.alloc (.cells #[.int .i64 pp,.int .i64 pq] 74)).heap.size (wr.alloc (.cells #[.int .i64 pp,.int .i64 pq] 74)) wx))
          case first=>as_aux_lemma=>
           have hpo:=HPO.o;by_cases h0:pp<0
           . have hpf:po2=false:=by rw[hpo,aO2 (by simp only;omega)]
             subst hpf;have g0:decide (pp<0)=true:=qV h0;clear hpo HPO;go_quiet (fail);go_wp2_with fail;go_meet;exact⟨rfl,V5 _ _ _⟩
           . have g0:decide (pp<0)=false:=qG h0;by_cases h1:(k:Int)<=pp
             . have hpf:po2=false:=by rw[hpo,aO3 (by rw[HTKL.o];simp only;omega)]
               subst hpf;have g1:decide ((k:Int)<=pp)=true:=qV h1;clear hpo HPO;go_quiet (fail);go_wp2_with fail;go_meet;exact⟨rfl,V5 _ _ _⟩
             . have g1:decide ((k:Int)<=pp)=false:=qG h1;by_cases h2:pq<0
               . have hpf:po2=false:=by rw[hpo,aO4 (by simp only;omega)]
                 subst hpf;have g2:decide (pq<0)=true:=qV h2;clear hpo HPO;go_quiet (fail);go_wp2_with fail;go_meet;exact⟨rfl,V5 _ _ _⟩
               . have g2:decide (pq<0)=false:=qG h2;obtain⟨i,rfl⟩:=qm (show 0<=pp by omega);obtain⟨x,hx⟩:∃x,ns[i]?=some x:=⟨_,gEl (by have:=HN.o;omega)⟩;have hxt:(ns.take k)[i]?=some x:=by rw[xg,qF qO];exact hx
                 obtain⟨b',off',ai',ci',Xk,Lq,_⟩:=HR.o.at hx;injection Xk with Xk;injection Xk with hb' ho' _;subst hb' ho';obtain⟨c0,c1,c2,c3,c4,c5,c6,c7⟩:=Lq.below Ep.o;have hrv:po2=decide (pq<nouts x):=by rw[hpo,aX6 hxt qO]
                 have cF:∀d os,Calls prog 29 #[x8 x ai' x.ins.length ci'] (Go.Sort.grow (redrawn (wr.alloc (.cells #[.int .i64 (i:Int),.int .i64 pq] 74)) d) os) fun e w''=>e=.returned (.int .i64 (nouts x))/\∃p:Regrown,w''=Go.Sort.grow (redrawn (wr.alloc (.cells #[.int .i64 (i:Int),.int .i64 pq] 74)) p.d) p.os:=fun d os=>Calls.regrown_of (ak7 x ai' x.ins.length ci' _);have hbx:∀{a:Addr}{v:Value},wr.cell? a=some v->∀d os,(Go.Sort.grow (redrawn (wr.alloc (.cells #[.int .i64 (i:Int),.int .i64 pq] 74)) d) os).cell? a=some v:=fun h d os=>cell_regrown (qC g9 h) d os;have k0:=hbx c0;have k1:=hbx c1;have k2:=hbx c2;have k3:=hbx c3;have k4:=hbx c4;have k5:=hbx c5;have k6:=hbx c6;have k7:=hbx c7;have kg:=hbx hgx;have z0:=fun d os=>cell_regrown q0 d os;have z1:=fun d os=>cell_regrown q1 d os;unfold x8 at cF;generalize nouts x=no,(⟨x.file.toArray⟩:ByteArray)=fx',(⟨x.c.word.toArray⟩:ByteArray)=wx',x.c.kind=ck',x.c.n=cn',x.how=hw',x.wide=wd',x.kind=nk',x.ins.length=ni' at *;clear c0 c1 c2 c3 c4 c5 c6 c7 hbx hx hxt Lq hpo HPO y0 y1 y2 y3 y4 y5 y6 y7 p0 p1 q0 q1 hgx hgq;subst hrv;refine wp_region_quiet_below qQ qQ ?_;repeat (first|go_big_quiet_step (exact cF _ _) | quiet_step (exact cF _ _))
                 refine wpQuiet_nil ?_;intro _ hw';obtain⟨⟨dq,osq⟩,Av⟩:=hw';subst Av;clear cF k0 k1 k2 k3 k4 k5 k6 k7 z0 z1 kg;go_wp2_with fail;go_meet;exact⟨by by_cases e:pq<no <;> simp[e] <;> omega,below_regrown _ dq osq⟩
          case rest=>
           obtain⟨hz,HBQ⟩:=hcut;subst hz;obtain⟨wq,hwq⟩:=qE wc;subst hwq;obtain⟨r0,r1⟩:=ak2 HBQ.o;have t5:Bq wr wq:=g9.trans (HBQ.o.mono (by simp));have Fq:Hid (Below (w.heap.size+1) (w.alloc (.cells #[.slice (some ⟨b,off,none⟩) N cap] 24)) wq):=Aw.o.trans (t5.mono (by have:=Aw.o.size;simpa using this));have Ic:Hid (L9 wq (plainElem prog 4) (w.heap.size+1) t'.length t'):=Dy.o.below t5;have Ie:Hid (J4 wq wo.heap.size (.int .i64 nk) (.string fx) (.int .i64 ck) (.string wx0) (.int .i64 cn) (.int .i64 hw) (.int .i64 wd) (.slice (some ⟨pb,po,none⟩) ni ci)):=HC8.o.below t5;have HBF:Hid (Bq w wq):=g9.trans (Fq.o.mono (by simp));clear t5 HBQ Aw Dy HC8 hgx hgq q0 q1 p0 p1 y0 y1 y2 y3 y4 y5 y6 y7 Ep
           cases po2 with
           | false=>
            have hr5:r=5:=by have h5:=bF6 (HI.o.trans (by rw[HDP.o])) HPO.o.symm;rw[HRR.o,R1 (by rw[<- HN.o];exact Et) ((aI1 (HG.o.trans (by rw[HDR.o])) Gu.o (by rw[h5];decide)).trans h5) (by decide)]
            subst hr5;clear Ic Ie Fq;go_wp2_with fail;go_ret;exact⟨rfl,HBF.o⟩
           | true=>
            obtain⟨D,Ab,Ef,Ou⟩:=id Ic.o;have Bw:=V9 wq (pp,pq) HWP.o;have hat:=Ef _ HWP.o;unfold ah3 at Bw;simp only at Bw;have Ov:Hid _:=Ef;have Ox:Hid _:=Ou;clear Ef Ou;by_cases hin:(pp,pq)∈t'
            . have hr6:r=6:=by have h6:=aY0 (HI.o.trans (by rw[HDP.o])) HPO.o.symm hin;rw[HRR.o,R1 (by rw[<- HN.o];exact Et) ((aI1 (HG.o.trans (by rw[HDR.o])) Gu.o (by rw[h6];decide)).trans h6) (by decide)]
              subst hr6;rw[qV hin]at hat;clear Ic Ie Fq;go_wp2_with (at_lookup;refine O5 _ rfl _ _ 94 rfl 74 4 J5 underlying94 underlying4 (ar1 _) (w.heap.size+1) _ D rfl Ab _ _ rfl Bw true hat ?_)
              go_ret;exact⟨rfl,HBF.o⟩
            . rw[qG hin]at hat;have hn0:t'.length<maxLen:=by have:=Dx.o;unfold maxLen;omega
              have HI2:=qH (show A4 (ns.take k) n.ins t=A4 (ns.take k) (n.ins.drop (m+1)) (t'++[(pp,pq)]) from bo6 (HI.o.trans (by rw[HDP.o])) HPO.o.symm hin);have Fa:=qH (show (t'++[(pp,pq)]).length<=5*k+(m+1) by have:=Dx.o;simp;omega)
              go_wp2_with (first
               | (at_lookup;refine O5 _ rfl _ _ 94 rfl 74 4 J5 underlying94 underlying4 (ar1 _) (w.heap.size+1) _ D rfl Ab _ _ rfl Bw false hat ?_)
               | (at_mapUpdate;refine wpList_mapUpdate_own _ rfl _ _ _ 94 rfl 74 4 J5 underlying94 _ (w.heap.size+1) t'.length D rfl Ab hn0 _ _ _ rfl rfl Bw _ [] (plainElem_bool underlying4 true) ?_;intro w5 ho5 hg5))
              have HP5:=qH (show L9 w5 (plainElem prog 4) (w.heap.size+1) (t'++[(pp,pq)]).length (t'++[(pp,pq)]) by
               have h:=L9.put (W:=w) Ab Ov.o Ox.o HWP.o ho5
               simpa using h)
              have Rl:Hid (J4 w5 wo.heap.size (.int .i64 nk) (.string fx) (.int .i64 ck) (.string wx0) (.int .i64 cn) (.int .i64 hw) (.int .i64 wd) (.slice (some ⟨pb,po,none⟩) ni ci)):=Ie.o.grown hg5 (by simp only[ne_eq,qe];have:=HNB.o;omega);have HB5:Hid (Below (w.heap.size+1) (w.alloc (.cells #[.slice (some ⟨b,off,none⟩) N cap] 24)) w5):=aX7 Fq.o hg5;clear ho5 hg5 Ab Ov Ox Ic Ie Fq Bw hat r0 r1;go_wp2_with fail;go_roundw
              case rel=>first|exact⟨m+1,_,qO,by go_num,Fa,HI2,HP5,Rl,HB5⟩|((repeat apply Exists.intro);exact⟨⟨m+1,_,qO,by go_num,Fa,HI2,HP5,Rl,HB5⟩,rfl⟩)
              case measure=>simp[intOf];omega
         .
          have hmn:m=ni:=qO;have HID:=qH (show A4 (ns.take k) n.ins t=(0,t') from bo7 (HI.o.trans (by rw[qi (by rw[<- HNI.o];omega)])));have As:(ns.drop (k+1)).isEmpty=decide ((k:Int)=(N:Int)-1):=by
           by_cases e:k+1=N
           . rw[qV qO,xl];exact List.drop_eq_nil_of_le (by rw[<- HN.o];omega)
           . rw[qG qO]
             cases hd:ns.drop (k+1) with
             | nil=>exact absurd (List.drop_eq_nil_iff.1 hd) (by rw[<- HN.o];omega)
             | cons a b=>rfl
          have Fa:=qH (show t'.length<=5*(k+1) by have:=Dx.o;omega);have HPF:=qH Dy;have HBF:=qH Aw;by_cases hk5:nk=5
          .
           subst hk5;by_cases hkl:k+1=N
           . have q1:((k:Int)==(N:Int)-1)=true:=by simp;omega
             have he:(ns.drop (k+1)).isEmpty=decide (n.kind=5):=by rw[As,qV qO,<- HNK.o];rfl
             have HG2:=qH (show y9 [] ns []=y9 (ns.take (k+1)) (ns.drop (k+1)) t' by
              rw[aA1 (HG.o.trans (by rw[HDR.o])) Gu.o (by rw[HID.o]) he,HID.o,ac3 HNN.o])
             clear HG Dx HI HID As he Dy Aw HC8;go_wp2_with fail;go_roundw
             case rel=>first|exact⟨k+1,t',qO,by go_num,Fa,HG2,HPF,HBF⟩|((repeat apply Exists.intro);exact⟨⟨k+1,t',qO,by go_num,Fa,HG2,HPF,HBF⟩,rfl⟩)
             case measure=>simp[intOf];omega
           . have q1:((k:Int)==(N:Int)-1)=false:=by simp;omega
             have he:(ns.drop (k+1)).isEmpty≠decide (n.kind=5):=by rw[As,qG qO,<- HNK.o];decide
             have hr4:r=4:=by rw[HRR.o,R1 (by rw[<- HN.o];exact Et) (aA0 (HG.o.trans (by rw[HDR.o])) Gu.o (by rw[HID.o]) he) (by decide)]
             subst hr4;clear HG Dx HI HID As he Dy Aw HC8;go_wp2_with fail;go_ret;exact⟨rfl,Ep.o⟩
          .
           have q5:(nk==5)=false:=by simpa using hk5
           by_cases hkl:k+1=N
           . have q1:((k:Int)==(N:Int)-1)=true:=by simp;omega
             have he:(ns.drop (k+1)).isEmpty≠decide (n.kind=5):=by rw[As,qV qO,qG (by rw[<- HNK.o];exact hk5)];decide
             have hr4:r=4:=by rw[HRR.o,R1 (by rw[<- HN.o];exact Et) (aA0 (HG.o.trans (by rw[HDR.o])) Gu.o (by rw[HID.o]) he) (by decide)]
             subst hr4;clear HG Dx HI HID As he Dy Aw HC8;go_wp2_with fail;go_ret;exact⟨rfl,Ep.o⟩
           . have q1:((k:Int)==(N:Int)-1)=false:=by simp;omega
             have he:(ns.drop (k+1)).isEmpty=decide (n.kind=5):=by rw[As,qG qO,qG (by rw[<- HNK.o];exact hk5)]
             have HG2:=qH (show y9 [] ns []=y9 (ns.take (k+1)) (ns.drop (k+1)) t' by
              rw[aA1 (HG.o.trans (by rw[HDR.o])) Gu.o (by rw[HID.o]) he,HID.o,ac3 HNN.o])
             clear HG Dx HI HID As he Dy Aw HC8;go_wp2_with fail;go_roundw
             case rel=>first|exact⟨k+1,t',qO,by go_num,Fa,HG2,HPF,HBF⟩|((repeat apply Exists.intro);exact⟨⟨k+1,t',qO,by go_num,Fa,HG2,HPF,HBF⟩,rfl⟩)
             case measure=>simp[intOf];omega
     . have hrn:r=nu:=by rw[HRR.o,R1 (by rw[<- HN.o];exact Et) ((aO5 (HG.o.trans (by rw[HDR.o])) (by rw[Ql.o Qm];exact Qm)).trans (Ql.o Qm)) Qm]
       subst hrn;have HBF:Hid (Bq w v1):=g9.trans (HB1.o.mono (by simp));clear HC8 HB1 Ib HG HTL;go_wp2_with fail;go_ret;exact⟨rfl,HBF.o⟩
   .
    have hkN:k=N:=qO;have HGE:=qH (show y9 [] ns []=(0,t) by rw[HG.o,qi (by rw[<- HN.o];omega)];rfl);have Cb:=bo8 (by rw[<- HN.o];exact Et) HGE.o;rw[<- HRR.o,<- HN.o]at Cb;by_cases hN0:N=0
    . subst hN0;rw[qF (.inl rfl)]at Cb;subst Cb;clear HG HGE HPA HTL;go_wp2_with fail;go_ret;exact⟨rfl,HBW.o⟩
    .
     have e0:((N:Int)==0)=false:=by simp;omega
     have Ao:=qH Cb;have HTI:Hid _:=aU7 HGE.o
     have HNC:=qH (show ∀(i:Nat)(n:SNode),ns[i]?=some n->q9 n=0 from fun i n hi=>by
      obtain⟨_,_,h1,_⟩:=aJ6 ns [] [] (by rw[HGE.o]) i n hi
      exact h1)
     have HBo:=qH Aa;have HT0:=qH HPA;clear HG HTL Cb HGE HPA Aa hk hkN;go_wp2_with fail;go_loopw [176] (fun i wx=>∃m:Nat,m<=N/\i=.int .i64 m/\Hid (L9 wx (plainElem prog 4) (w.heap.size+1) t.length t)/\Hid (Below (w.heap.size+1) (w.alloc (.cells #[.slice ao N cap] 24)) wx)/\Hid (∀(i q:Nat)(n:SNode),i<m->ns[i]?=some n->(q:Int)<nouts n->((i:Int),(q:Int))∈t)) (fun i _=>N-(intOf i).toNat)
     case atStart=>exact⟨0,qM _,rfl,HT0,HBo,(show ∀i q n,_->_ from fun i q n h=>absurd h (zm _))⟩
     case round=>
      clear HT0 HBo hgx HBW;obtain⟨m,hm,rfl,HT,HB,Na⟩:=hrel;obtain⟨wp,hwp⟩:=qE wr;subst hwp;have hgx:=ai5 HB.o;have HBW:Hid (Bq w wp):=g9.trans (HB.o.mono (by simp));by_cases Zw:m<N
      .
       obtain⟨n,hn⟩:∃n,ns[m]?=some n:=⟨_,gEl (by have:=HN.o;omega)⟩;obtain⟨b,off,ai,ci,hao,hNA,HP⟩:=HR.o.at hn;subst hao;obtain⟨c0,c1,c2,c3,c4,c5,c6,c7⟩:=hNA.below HBW.o;obtain⟨Ls,Ig⟩:=ao8 (HNC.o m n hn);obtain⟨no,hno⟩:=qm Ls;have HOU:Hid _:=fun(W:World)=>ak7 n ai n.ins.length ci W;rw[hno]at HOU Ig;have HNO:=qH hno;have HNN:=qH hn;unfold x8 at HOU;generalize (⟨n.file.toArray⟩:ByteArray)=fx,(⟨n.c.word.toArray⟩:ByteArray)=wx0,n.c.kind=ck,n.c.n=cn,n.how=hw,n.wide=wd,n.kind=nk,n.ins.length=ni at *;have HTb:Hid _:=fun(W:World)(hb:Bq wp W)=>L9.below HT.o hb;clear hn hno Ls hNA HP;go_wp2_with fail;refine (HOU.o _).mono ?_;rintro e w6⟨rfl,hb6⟩;have t6:Bq wp w6:=g9.trans (hb6.mono (by simp));have HT6:Hid (L9 w6 (plainElem prog 4) (w.heap.size+1) t.length t):=HTb.o _ t6;have HB6:Hid (Below (w.heap.size+1) (w.alloc (.cells #[.slice (some ⟨b,off,none⟩) N cap] 24)) w6):=HB.o.trans (t6.mono (by have:=HB.o.size;simpa using this));clear hb6 t6 HOU HT HB HTb hgx HBW c0 c1 c2 c3 c4 c5 c6 c7;go_wp2_with fail;go_loopw [183] (fun i wx=>∃q:Nat,q<=no/\i=.int .i64 q/\Hid (L9 wx (plainElem prog 4) (w.heap.size+1) t.length t)/\Hid (Below (w.heap.size+1) (w.alloc (.cells #[.slice (some ⟨b,off,none⟩) N cap] 24)) wx)/\Hid (∀j:Nat,j<q->((m:Int),(j:Int))∈t)) (fun i _=>no-(intOf i).toNat)
       case atStart=>exact⟨0,qM _,rfl,HT6,HB6,(show ∀j:Nat,_->_ from fun j h=>absurd h (zm _))⟩
       case round=>
        clear HT6 HB6;obtain⟨q,hq,rfl,HT,HB,HQ⟩:=hrel;by_cases hqlt:q<no
        .
         obtain⟨D,Ab,Ef,hwf⟩:=id HT.o;have Xl:WfP ((m:Int),(q:Int)):=⟨aZ7 qO,aZ7 qO⟩;have Bw:=V9 wr ((m:Int),(q:Int)) Xl;have hat:=Ef _ Xl;unfold ah3 at Bw;simp only at Bw;have HHAS:Hid _:=Ef;obtain⟨dd,hdd⟩:=qE (decide (((m:Int),(q:Int))∈t));rw[<- hdd]at hat;have HDD:=qH hdd;clear Ef hwf Xl hdd
         cases dd with
         | false=>
          have hr4:r=4:=by
           rw[Ao.o,qF];refine Or.inr (fun e=>?_);have h1:=(HTI.o.1 e) m q n HNN.o (by rw[HNO.o];omega);have h2:=HDD.o;rw[qV h1]at h2
           cases h2
          subst hr4;have HBF:Hid (Bq w wr):=g9.trans (HB.o.mono (by simp));clear Na HQ Ao HTI HNC HNN HNO HDD HT HB HHAS;go_wp2_with (at_lookup;refine O5 _ rfl _ _ 94 rfl 74 4 J5 underlying94 underlying4 (ar1 _) (w.heap.size+1) _ D rfl Ab _ _ rfl Bw false hat ?_)
          go_ret;exact⟨rfl,HBF.o⟩
         | true=>
          have HQ2:=qH (show ∀j:Nat,j<q+1->((m:Int),(j:Int))∈t from fun j hj=>by
           by_cases e:j=q
           . subst e;exact qp HDD.o.symm
           . exact HQ.o j qO)
          clear Na HQ Ao HTI HNC HNN HNO HDD HHAS;go_wp2_with (at_lookup;refine O5 _ rfl _ _ 94 rfl 74 4 J5 underlying94 underlying4 (ar1 _) (w.heap.size+1) _ D rfl Ab _ _ rfl Bw true hat ?_)
          go_roundw
          case rel=>exact⟨q+1,qO,by go_num,HT,HB,HQ2⟩
          case measure=>simp[intOf];omega
        .
         have hqn:no=q:=qO
         have HALL2:Hid (∀(i q:Nat)(n:SNode),i<m+1->ns[i]?=some n->(q:Int)<nouts n->((i:Int),(q:Int))∈t):=(show ∀(i q:Nat)(n:SNode),_->_->_->_ from fun i j x hi hx hj=>by
          by_cases e:i=m
          . subst e
            rw[HNN.o]at hx
            injection hx with hx
            subst hx
            rw[HNO.o]at hj
            exact HQ.o j qO
          . exact Na.o i j x qO hx hj)
         clear Na HQ Ao HTI HNC HNN HNO;go_wp2_with fail;go_roundw
         case rel=>exact⟨m+1,qO,by go_num,HT,HB,HALL2⟩
         case measure=>simp[intOf];omega
      . have hmN:N=m:=qO;have hr0:r=0:=by
         rw[Ao.o,qB];rintro (h | h)
         . exact hN0 h
         . refine h (HTI.o.2 (fun i q n hi hq=>Na.o i q n ?_ hi hq));have:=(gSm hi).1;have:=HN.o;omega
        subst hr0;clear Na Ao HTI HNC HT HB;go_wp2_with fail;go_ret;exact⟨rfl,HBW.o⟩
end Go.Proofs.YtmejdflmcikkdaaGreatDoor
