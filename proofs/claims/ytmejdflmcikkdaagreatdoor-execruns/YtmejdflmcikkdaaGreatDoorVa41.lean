/- The reference's CheckMachine, for every machine. -/
import Derived.Test.YtmejdflmcikkdaaGreatDoorVAb
import Derived.Test.YtmejdflmcikkdaaGreatDoorVa38
import Derived.Test.YtmejdflmcikkdaaGreatDoorVa40
set_option linter.all false
set_option maxRecDepth 100000
set_option maxHeartbeats 64000000
namespace Go.Proofs.YtmejdflmcikkdaaGreatDoor
open Go.RowKit Go.Gs Tryz
variable {ns:List SNode}{k:Nat}{n:SNode}{l:List Int}
theorem aB2(h:ns[k]?=some n):(b8 (ns.take (k+1))).length=(b8 (ns.take k)).length+n.ins.length:=by unfold b8;rw[qZ,h,zO];simp
theorem aR0{ns:List SNode}(h:∀n∈ns,n.ins.length<=5):∀k,(b8 (ns.take k)).length<=k*5
 | 0=>by simp[b8]
 | k+1=>by
  have ih:=aR0 h k
  cases hk:ns[k]? with
  | none=>
   have:ns.take (k+1)=ns.take k:=by rw[qZ,hk];simp
   rw[this];omega
  | some n=>rw[aB2 hk];have:=h n (mGt hk);omega
theorem aT8(h:∀x∈l,x=0):I8 l=0:=by unfold I8;rw[zW.2 (fun x hx=>by simp[h x hx])];rfl
theorem aR1(h:∀x∈l.take k,x=0)(hk:l[k]?=some 0):∀x∈l.take (k+1),x=0:=by
 intro x hx;rw[qZ,hk,zO,xY,zC]at hx;rcases hx with hx | hx
 . exact h x hx
 . exact hx
theorem av4:∀(ns:List SNode)(ps:List SProc),(∀(i:Nat)(n:SNode)(p:SProc),ns[i]?=some n->ps[i]?=some p->C6 n p=0)->E1 ns ps=0
 | [],_,_=>by simp[E1]
 | _::_,[],_=>by simp[E1]
 | n::ns,p::ps,h=>by rw[E1,qB (by simp[h 0 n p rfl rfl])];exact av4 ns ps (fun i n p hn hp=>h (i+1) n p (by simpa using hn) (by simpa using hp))
theorem ai7(an af ax ap aS:Option Addr)(cn cf cx cp cs:Nat)(M:SMach)(w:World)(hM:RMach w an af ax ap aS cn cf cx cp cs M)(Ad:FitsM M)(hkw:∀n∈M.ns,(Lit.int .i64 n.c.kind).wf=true):
 Calls prog 8 #[machV an af ax ap aS M cn cf cx cp cs] w fun e w'=>e=.returned (.int .i64 (mchk M))/\Bq w w':=by
 have Gz:=qH Ad;have HG:Hid _:=fun(W:World)(hW:Bq w W)=>aQ8 M.ns an cn W (hM.nodes.below hW) Ad.nodes hkw;have HF:Hid _:=fun(W:World)(hW:Bq w W)=>ap6 af cf M.fs W (hM.files.below hW) Ad.files;have hnl:=M5 hM.nodes;have hxl:=ah1 hM.pipes;have hpl:=U7 hM.procs;have hsl:=(t8 hM.sunk).1;have HC0:Hid _:=fun h=>aM3 (M:=M) h;have HC1:Hid _:=fun h1 h2 h3=>aW9 (M:=M) h1 h2 h3;have HC2:Hid _:=fun h1 h2 h3 h4=>aM4 (M:=M) h1 h2 h3 h4;have HC3:Hid _:=fun h1 h2 h3 h4 h5=>aM5 (M:=M) h1 h2 h3 h4 h5;have HC4:Hid _:=fun h1 h2 h3 h4 h5=>bm9 (M:=M) h1 h2 h3 h4 h5;have HM:Hid _:=(show y8 _ _ _/\N6 _ _ _/\J7 _ _ _ from ⟨hM.nodes,hM.pipes,hM.procs⟩);unfold machV;obtain⟨Z,hZ⟩:=qE (mchk M);rw[<- hZ]at HC0 HC1 HC2 HC3 HC4 ⊢;obtain⟨N,hN⟩:=qE M.ns.length;obtain⟨NF,hNF⟩:=qE M.fs.length;obtain⟨NX,hNX⟩:=qE M.pipes.length;obtain⟨NP,hNP⟩:=qE M.ps.length;obtain⟨NS,hNS⟩:=qE M.sunk.length;have HN:Hid (N=M.ns.length/\NX=M.pipes.length/\NP=M.ps.length):=⟨hN,hNX,hNP⟩;rw[<- hN]at HG hnl;rw[<- hNF]at HF;rw[<- hN,<- hNX,<- hNP]at HC1 HC2 HC3 HC4 HM;rw[<- hNS]at HC4 hsl;rw[<- hNX]at hxl;rw[<- hNP]at hpl;rw[<- hN,<- hNF,<- hNX,<- hNP,<- hNS];obtain⟨W0,hW0⟩:=qE (w.alloc (.cells #[.slice an N cn,.slice af NF cf,.slice ax NX cx,.slice ap NP cp,.slice aS NS cs] 30));obtain⟨B,hB⟩:=qE w.heap.size;have hB0:Bq w W0:=by rw[hW0];exact boxE
 have hx0:W0.heap[B]?=some (.cells #[.slice an N cn,.slice af NF cf,.slice ax NX cx,.slice ap NP cp,.slice aS NS cs] 30 (0,0)):=by rw[hW0,hB];exact qJ _ _
 have K0:=qH (show ∀V,Bq W0 V->Bq w V/\V.cell? ⟨B,0,none⟩=some (.slice an N cn)/\V.cell? ⟨B,1,none⟩=some (.slice af NF cf)/\V.cell? ⟨B,2,none⟩=some (.slice ax NX cx)/\V.cell? ⟨B,3,none⟩=some (.slice ap NP cp)/\V.cell? ⟨B,4,none⟩=some (.slice aS NS cs) from fun V hV=>by
  obtain⟨q0,q1,q2,q3,q4,_⟩:=i8 (qK hV hx0)
  exact⟨hB0.trans (hV.mono hB0.size),q0,q1,q2,q3,q4⟩)
 obtain⟨gc,hgc⟩:=qE (gchk M.ns);obtain⟨fc,hfc⟩:=qE (fchk M.fs);have HGC:Hid (gc=gchk M.ns/\fc=fchk M.fs):=⟨hgc,hfc⟩;rw[<- hgc]at HG HC0 HC1 HC2 HC3 HC4;rw[<- hfc]at HF HC0 HC1 HC2 HC3 HC4;clear hM Ad hkw hZ hN hNF hNX hNP hNS hB0 hx0 hgc hfc;go_enter func8,ntmps8;go_upto_region 1 with fail;rw[<- hW0,<- hB];clear hW0 hB;obtain⟨g0,x0,x1,x2,x3,x4⟩:=K0.o _ (Below.refl _ _);have HG0:Hid _:=HG.o _ g0;clear HG g0;go_wp2_with fail;refine qD HG0.o ?_;rintro e w1⟨rfl,hb1⟩;have B1:=qH hb1;clear hb1 HG0 x0 x1 x2 x3 x4;obtain⟨g1,x0,x1,x2,x3,x4⟩:=K0.o _ B1.o;have G1:=qH g1;have HF1:Hid _:=HF.o _ g1;clear HF g1;by_cases h0:gc=0
 case neg=>have HZ:=qH (show Z=gc by rw[HC0.o (by rw[qF h0];exact h0),qF h0]);clear HC0 HC1 HC2 HC3 HC4 K0 HM;go_wp2_with fail;go_ret;exact⟨by rw[HZ.o];rfl,G1.o⟩
 subst h0;go_wp2_with fail;refine qD HF1.o ?_;rintro e w2⟨rfl,hb2⟩;have B2:=qT B1 hb2;clear hb2 HF1 x0 x1 x2 x3 x4 B1 G1;obtain⟨g2,x0,x1,x2,x3,x4⟩:=K0.o _ B2.o;have G2:=qH g2;clear g2;by_cases h0:fc=0
 case neg=>have HZ:=qH (show Z=fc by rw[HC0.o (by rw[qB (by simp)];exact h0),qB (by simp)]);clear HC0 HC1 HC2 HC3 HC4 K0 HM;go_wp2_with fail;go_ret;exact⟨by rw[HZ.o];rfl,G2.o⟩
 subst h0;have HD1:Hid _:=fun h3=>HC1.o trivial rfl h3;have HD2:Hid _:=fun h3 h4=>HC2.o trivial rfl h3 h4;have HD3:Hid _:=fun h3 h4 h5=>HC3.o trivial rfl h3 h4 h5;have HD4:Hid _:=fun h3 h4 h5=>HC4.o trivial rfl h3 h4 h5;have hg:=Q6 HGC.o.1.symm;have HRG:=qH hg;have h60:N<=60:=by rw[HN.o.1];exact hg.le60
 have HI5:=qH (show ∀n∈M.ns,n.ins.length<=5 from fun n hn=>(A1 (hg.node n hn)).1);have HRN:=qH (show ∀V,Bq W0 V->y8 V (.slice an N cn) M.ns/\N6 V (.slice ax NX cx) M.pipes/\J7 V (.slice ap NP cp) M.ps from fun V hV=>⟨HM.o.1.below (K0.o V hV).1,HM.o.2.1.below (K0.o V hV).1,HM.o.2.2.below (K0.o V hV).1⟩);clear HC0 HC1 HC2 HC3 HC4 HM hg G2;go_wp2_with fail;clear x0 x1 x2 x3 x4;go_loopw [5,34] (fun s i wr=>∃k:Nat,k<=N/\i=.int .i64 k/\s=.int .i64 ((b8 (M.ns.take k)).length:Nat)/\Hid (Bq W0 wr)) (fun _ i _=>N-(intOf i).toNat)
 case atStart=>exact⟨0,qM _,rfl,rfl,B2⟩
 case round=>
  obtain⟨k,hk,rfl,rfl,Aa⟩:=hrel;clear B2;have hfew:=aR0 HI5.o k;by_cases hlt:k<N
  . obtain⟨n,hn⟩:∃n,M.ns[k]?=some n:=⟨_,gEl (by have:=HN.o.1;omega)⟩;obtain⟨b,off,ai,ci,rfl,hNA,_⟩:=(HRN.o wr Aa.o).1.at hn;obtain⟨c0,c1,c2,c3,c4,c5,c6,c7⟩:=hNA;have hil:=HI5.o n (mGt hn);have HST:Hid ((b8 (M.ns.take (k+1))).length=(b8 (M.ns.take k)).length+n.ins.length):=aB2 hn;have HBE:=qH (show ∀o,Bq W0 (wr.alloc o) from fun o=>Aa.o.trans (boxE.mono Aa.o.size));generalize n.kind=m0,(⟨n.file.toArray⟩:ByteArray)=m1,n.c.kind=m2,(⟨n.c.word.toArray⟩:ByteArray)=m3,n.c.n=m4,n.how=m5,n.wide=m6,n.ins.length=m7,(b8 (M.ns.take k)).length=S at *;clear hn;go_wp2_with fail;go_roundw
    case rel=>exact⟨k+1,qO,by go_num,by rw[HST.o];go_num,HBE.o _⟩
    case measure=>simp[intOf];omega
  .
   have hkN:k=N:=qO;have HTA:=qH (show b8 (M.ns.take k)=b8 M.ns by rw[qP (by have:=HN.o.1;omega)]);rw[HTA.o]at hfew ⊢;obtain⟨NA,hNA⟩:=qE ((b8 M.ns).length);rw[<- hNA]at HD1 HD2 HD3 HD4 hfew ⊢;clear hNA HTA;obtain⟨g3,x0,x1,x2,x3,x4⟩:=K0.o _ Aa.o;have G3:=qH g3;clear g3;subst hkN;by_cases hpn:NP=k
   case neg=>
    have HZ:Hid (Z=4):=HD1.o (.inl hpn);have e1:¬(NP:Int)=(k:Int):=qO;have e2:((NP:Int)==(k:Int))=false:=by rw[qg];omega
    have e3:((NP:Int) != (k:Int))=true:=by rw[bne_iff_ne];omega
    clear HD1 HD2 HD3 HD4 K0 HRN;go_wp2_with fail;go_ret;exact⟨by rw[HZ.o];rfl,G3.o⟩
   by_cases hxn:NX=NA
   case neg=>
    have HZ:Hid (Z=4):=HD1.o (.inr hxn);have e1:¬(NX:Int)=(NA:Int):=qO;have e2:((NX:Int)==(NA:Int))=false:=by rw[qg];omega
    have e3:((NX:Int) != (NA:Int))=true:=by rw[bne_iff_ne];omega
    subst hpn;clear HD1 HD2 HD3 HD4 K0 HRN;go_wp2_with fail;go_ret;exact⟨by rw[HZ.o];rfl,G3.o⟩
   subst hpn;subst hxn;have hnf:¬(NP≠NP\/NX≠NX):=fun h=>h.elim (fun h=>h rfl) (fun h=>h rfl);have HE2:Hid _:=fun h4=>HD2.o hnf h4;have HE3:Hid _:=fun h4 h5=>HD3.o hnf h4 h5;have HE4:Hid _:=fun h4 h5=>HD4.o hnf h4 h5;clear HD1 HD2 HD3 HD4 hnf G3;go_wp2_with fail;clear x0 x1 x2 x3 x4;go_loopw [62] (fun i wx=>∃q:Nat,q<=NX/\i=.int .i64 q/\Hid (∀x∈(M.pipes.map pchk).take q,x=0)/\Hid (Bq W0 wx)) (fun i _=>NX-(intOf i).toNat)
   case atStart=>exact⟨0,qM _,rfl,(show ∀x∈_,_ from fun x hx=>by simp at hx),Aa⟩
   case round=>
    clear Aa;obtain⟨q,hq,rfl,hz0,Aa⟩:=hrel;by_cases hltq:q<NX
    . obtain⟨x,hx⟩:∃x,M.pipes[q]?=some x:=⟨_,gEl (by have:=HN.o.2.1;omega)⟩;obtain⟨b,off,ab,cb,rfl,c0,c1,c2,c3,hrb⟩:=(HRN.o wr Aa.o).2.1.at hx;have HCP:Hid _:=fun(V:World)=>aT0 ab x.b.length cb x.room x.closed x.shut V (t8 hrb).1;obtain⟨z,hz⟩:=qE (pck x.b.length x.room x.shut);have HPX:=qH (show (M.pipes.map pchk)[q]?=some z by rw[qa,hx,hz];rfl);rw[<- hz]at HCP;have HBE:=qH (show ∀o,Bq W0 (wr.alloc o) from fun o=>Aa.o.trans (boxE.mono Aa.o.size));generalize x.b.length=XL,x.room=xr,x.closed=xc,x.shut=xs at *;clear hx hrb hz;go_wp2_with fail;refine qD (HCP.o _) ?_;rintro e w4⟨rfl,hb4⟩;have HB4:Hid (Bq W0 w4):=(HBE.o _).trans (hb4.mono (HBE.o _).size);clear hb4 HCP HBE c0 c1 c2 c3;by_cases Xn:z=0
      . subst Xn;have HZ1:Hid (∀x∈(M.pipes.map pchk).take (q+1),x=0):=aR1 hz0.out HPX.o;go_wp2_with fail;go_roundw
        case rel=>exact⟨q+1,qO,by go_num,HZ1,HB4⟩
        case measure=>simp[intOf];omega
      . have hbf:=aF0 hz0.out HPX.o Xn;have HZ:=qH (show Z=z by rw[HE2.o (by rw[hbf];exact Xn),hbf]);have G4:Hid (Bq w w4):=(K0.o _ HB4.o).1;clear HE2 HE3 HE4 K0 HRN hbf;go_wp2_with fail;go_ret;exact⟨by rw[HZ.o];rfl,G4.o⟩
    .
     have hbf:I8 (M.pipes.map pchk)=0:=aT8 (by
      have:=hz0.out
      rw[qP (by rw[qS];have:=HN.o.2.1;omega)]at this
      exact this)
     have HF3:Hid _:=fun h5=>HE3.o hbf h5;have HF4:Hid _:=fun h5=>HE4.o hbf h5;clear HE2 HE3 HE4 hbf hz0;obtain⟨g4,x0,x1,x2,x3,x4⟩:=K0.o _ Aa.o;clear g4;go_wp2_with fail;clear x0 x1 x2 x3 x4;go_loopw [75] (fun i wy=>∃r:Nat,r<=NP/\i=.int .i64 r/\Hid (∀(i:Nat)(n:SNode)(p:SProc),i<r->M.ns[i]?=some n->M.ps[i]?=some p->C6 n p=0)/\Hid (Bq W0 wy)) (fun i _=>NP-(intOf i).toNat)
     case atStart=>exact⟨0,qM _,rfl,(show ∀(i:Nat)(n:SNode)(p:SProc),_ from fun i n p hi=>absurd hi (zm _)),Aa⟩
     case round=>
      clear Aa;obtain⟨r,hr,rfl,hpz,Aa⟩:=hrel;by_cases hltr:r<NP
      .
       obtain⟨p,hp⟩:∃p,M.ps[r]?=some p:=⟨_,gEl (by have:=HN.o.2.2;omega)⟩;obtain⟨n,hn⟩:∃n,M.ns[r]?=some n:=⟨_,gEl (by have:=HN.o.1;omega)⟩;obtain⟨b,off,ag,cg,ab,cb,rfl,d0,d1,d2,d3,d4,hlg,hlo⟩:=(HRN.o wr Aa.o).2.2.at hp;obtain⟨nb,noff,ai,ci,rfl,hNA,hrp⟩:=(HRN.o wr Aa.o).1.at hn;obtain⟨c0,c1,c2,c3,c4,c5,c6,c7⟩:=hNA;obtain⟨g5,x0,x1,x2,x3,x4⟩:=K0.o _ Aa.o;have hil:=HI5.o n (mGt hn);have hgl:=V8 hlg;have hol:=V8 hlo
       have HPZ:=qH (show C6 n p≠0->Z=C6 n p from fun h=>by
        have e:=an9 M.ns M.ps r n p hpz.out hn hp h
        rw[HF3.o (by rw[e];exact h),e])
       have HNX:Hid (C6 n p=0->∀(i:Nat)(n:SNode)(p:SProc),i<r+1->M.ns[i]?=some n->M.ps[i]?=some p->C6 n p=0):=(show _->∀(i:Nat)(n:SNode)(p:SProc),_ from fun h i n' p' hi hn' hp'=>by
        rcases xo i r with h1 | h1
        . exact hpz.out i n' p' h1 hn' hp'
        . have h2:i=r:=qO
          rw[h2]at hn' hp'
          rw[hn]at hn'
          rw[hp]at hp'
          injection hn' with hn'
          injection hp' with hp'
          rw[<- hn',<- hp']
          exact h)
       have HPC:=qH (show C6 n p=if p.got.length≠n.ins.length\/(p.out.length:Int)≠nouts n then 4 else if p.pos<0\/(n.ins.length:Int)<p.pos\/(p.ov=true/\p.rd=false)\/(p.rd=false/\0<n.ins.length/\p.pos=n.ins.length) then 3 else if J2 p.got || J2 p.out then 2 else 0 from rfl);have HLS:=qH (show ∀V,Bq wr V->RList V (.slice ag p.got.length cg) U p.got/\RList V (.slice ab p.out.length cb) U p.out from fun V hV=>⟨hlg.below hV,hlo.below hV⟩);have HOU:Hid _:=fun(V:World)=>ak7 n ai n.ins.length ci V;unfold x8 at HOU;obtain⟨PC,hPC⟩:=qE (C6 n p);rw[<- hPC]at HPZ HNX HPC;obtain⟨NO,hNO⟩:=qE (nouts n);rw[<- hNO]at HPC HOU;generalize n.kind=m0,(⟨n.file.toArray⟩:ByteArray)=m1,n.c.kind=m2,(⟨n.c.word.toArray⟩:ByteArray)=m3,n.c.n=m4,n.how=m5,n.wide=m6,n.ins.length=IL,p.got.length=GL,p.out.length=OL,p.pos=pp,p.rd=rd,p.ov=ov at *;obtain⟨W,hW⟩:=qE ((wr.alloc (.cells #[.slice ag GL cg,.int .i64 pp,.slice ab OL cb,.bool rd,.bool ov] 64)).alloc (.cells #[.int .i64 m0,.string m1,.int .i64 m2,.string m3,.int .i64 m4,.int .i64 m5,.int .i64 m6,.slice ai IL ci] 57));have hBW:Bq wr W:=by rw[hW];exact al4
       have q1:W.heap[wr.heap.size]?=some (.cells #[.slice ag GL cg,.int .i64 pp,.slice ab OL cb,.bool rd,.bool ov] 64 (0,0)):=by rw[hW];exact xQ _ _ _
       have q2:W.heap[wr.heap.size+1]?=some (.cells #[.int .i64 m0,.string m1,.int .i64 m2,.string m3,.int .i64 m4,.int .i64 m5,.int .i64 m6,.slice ai IL ci] 57 (0,0)):=by rw[hW];exact xM _ _ _
       have HBW:=qH hBW;have HQ:=qH (show ∀V,Bq W V->V.heap[wr.heap.size]?=some (.cells #[.slice ag GL cg,.int .i64 pp,.slice ab OL cb,.bool rd,.bool ov] 64 (0,0))/\V.heap[wr.heap.size+1]?=some (.cells #[.int .i64 m0,.string m1,.int .i64 m2,.string m3,.int .i64 m4,.int .i64 m5,.int .i64 m6,.slice ai IL ci] 57 (0,0)) from fun V hV=>⟨qK hV q1,qK hV q2⟩);have f0:=fun o=>((boxE (w:=wr) (o:=o)).cell (bLt wr _ x0)).trans x0;have f1:=fun o=>((boxE (w:=wr) (o:=o)).cell (bLt wr _ c0)).trans c0;have f2:=fun o=>((boxE (w:=wr) (o:=o)).cell (bLt wr _ c1)).trans c1;have f3:=fun o=>((boxE (w:=wr) (o:=o)).cell (bLt wr _ c2)).trans c2;have f4:=fun o=>((boxE (w:=wr) (o:=o)).cell (bLt wr _ c3)).trans c3;have f5:=fun o=>((boxE (w:=wr) (o:=o)).cell (bLt wr _ c4)).trans c4;have f6:=fun o=>((boxE (w:=wr) (o:=o)).cell (bLt wr _ c5)).trans c5;have f7:=fun o=>((boxE (w:=wr) (o:=o)).cell (bLt wr _ c6)).trans c6;have f8:=fun o=>((boxE (w:=wr) (o:=o)).cell (bLt wr _ c7)).trans c7;clear hp hn hlg hlo hrp g5 hPC hNO q1 q2 hBW HF3 hpz;go_upto_region 26 with fail;rw[<- hW];clear hW x0 x1 x2 x3 x4 c0 c1 c2 c3 c4 c5 c6 c7 d0 d1 d2 d3 d4 f0 f1 f2 f3 f4 f5 f6 f7 f8;have hq:=HQ.o W (Below.refl _ _);obtain⟨a0,a1,a2,a3,a4,_⟩:=i8 hq.1;obtain⟨b0,b1,b2,b3,b4,b5,b6,b7⟩:=D8 hq.2;have k0:=fun d os=>cell_regrown a0 d os;have k1:=fun d os=>cell_regrown a1 d os;have k2:=fun d os=>cell_regrown a2 d os;have k3:=fun d os=>cell_regrown a3 d os;have k4:=fun d os=>cell_regrown a4 d os;have l0:=fun d os=>cell_regrown b0 d os;have l1:=fun d os=>cell_regrown b1 d os;have l2:=fun d os=>cell_regrown b2 d os;have l3:=fun d os=>cell_regrown b3 d os;have l4:=fun d os=>cell_regrown b4 d os;have l5:=fun d os=>cell_regrown b5 d os;have l6:=fun d os=>cell_regrown b6 d os;have l7:=fun d os=>cell_regrown b7 d os;have cF:∀d os,Calls prog 29 #[.agg #[.int .i64 m0,.string m1,.int .i64 m2,.string m3,.int .i64 m4,.int .i64 m5,.int .i64 m6,.slice ai IL ci]] (Go.Sort.grow (redrawn W d) os) fun e w''=>e=.returned (.int .i64 NO)/\∃p:Regrown,w''=Go.Sort.grow (redrawn W p.d) p.os:=fun d os=>Calls.regrown_of (HOU.o _);have Gi:GL≠IL\/(GL=IL/\¬(OL:Int)=NO)\/(GL=IL/\(OL:Int)=NO):=qO;clear hq a0 a1 a2 a3 a4 b0 b1 b2 b3 b4 b5 b6 b7 HOU;rcases Gi with h1 | ⟨rfl,h1⟩|⟨rfl,rfl⟩;have HZ:=qH (show Z=4 by have e:=HPC.o;rw[qF (.inl h1)]at e;rw[HPZ.o (by rw[e];decide),e]);have e1:¬(GL:Int)=(IL:Int):=qO;have e2:((GL:Int)==(IL:Int))=false:=by rw[qg];omega
       have e3:((GL:Int) != (IL:Int))=true:=by rw[bne_iff_ne];omega
       have e4:decide ((GL:Int)=(IL:Int))=false:=qG e1;rotate_left
       have HZ:=qH (show Z=4 by have e:=HPC.o;rw[qF (.inr h1)]at e;rw[HPZ.o (by rw[e];decide),e]);have e1:¬(OL:Int)=NO:=h1;have e2:((OL:Int)==NO)=false:=by rw[qg];exact h1
       have e3:((OL:Int) != NO)=true:=by rw[bne_iff_ne];exact h1
       have e4:decide ((OL:Int)=NO)=false:=qG e1;rotate_left
       rotate_left
       all_goals
        refine wp_region_quiet_below qQ qQ ?_;repeat (first|go_big_quiet_step (exact cF _ _) | quiet_step (exact cF _ _))
        refine wpQuiet_nil ?_;intro _ hw';obtain⟨⟨dq,osq⟩,Av⟩:=hw';subst Av;have B6:Hid (Bq W (Go.Sort.grow (redrawn W dq) osq)):=below_regrown W dq osq;clear cF k0 k1 k2 k3 k4 l0 l1 l2 l3 l4 l5 l6 l7;generalize (Go.Sort.grow (redrawn W dq) osq)=w6 at *;have B7:Hid (Bq W0 w6):=Aa.o.trans ((HBW.o.trans (B6.o.mono HBW.o.size)).mono Aa.o.size);have G7:Hid (Bq w w6):=(K0.o _ B7.o).1
       . clear HPC HPZ HNX HLS HRN K0 HQ;go_wp2_with fail;go_ret;exact⟨by rw[HZ.o];rfl,G7.o⟩
       . clear HPC HPZ HNX HLS HRN K0 HQ;go_wp2_with fail;go_ret;exact⟨by rw[HZ.o];rfl,G7.o⟩
       have hq:=HQ.o w6 B6.o;obtain⟨a0,a1,a2,a3,a4,_⟩:=i8 hq.1;obtain⟨b0,b1,b2,b3,b4,b5,b6,b7⟩:=D8 hq.2;clear hq;by_cases h1:pp<0
       . have HZ:=qH (show Z=3 by have e:=HPC.o;rw[qB (by simp),qF (.inl h1)]at e;rw[HPZ.o (by rw[e];decide),e]);clear HPC HPZ HNX HLS HRN K0 HQ;go_wp2_with fail;go_ret;exact⟨by rw[HZ.o];rfl,G7.o⟩
       by_cases h2:(GL:Int)<pp
       . have HZ:=qH (show Z=3 by have e:=HPC.o;rw[qB (by simp),qF (.inr (.inl h2))]at e;rw[HPZ.o (by rw[e];decide),e]);clear HPC HPZ HNX HLS HRN K0 HQ;go_wp2_with fail;go_ret;exact⟨by rw[HZ.o];rfl,G7.o⟩
       have hrg:(rd=false/\ov=true)\/(rd=false/\ov=false/\0<GL/\pp=GL)\/(rd=true/\ov=true)\/(rd=true/\ov=false)\/(rd=false/\ov=false/\GL=0)\/(rd=false/\ov=false/\0<GL/\¬pp=GL):=by
        cases rd <;> cases ov <;> simp <;> omega
       rcases hrg with⟨rfl,rfl⟩|⟨rfl,rfl,h3,rfl⟩|⟨rfl,rfl⟩|⟨rfl,rfl⟩|⟨rfl,rfl,rfl⟩|⟨rfl,rfl,h3,h4⟩
       . have HZ:=qH (show Z=3 by have e:=HPC.o;rw[qB (by simp),qF (.inr (.inr (.inl ⟨rfl,rfl⟩)))]at e;rw[HPZ.o (by rw[e];decide),e]);clear HPC HPZ HNX HLS HRN K0 HQ;go_wp2_with fail;go_ret;exact⟨by rw[HZ.o];rfl,G7.o⟩
       . have HZ:=qH (show Z=3 by have e:=HPC.o;rw[qB (by simp),qF (.inr (.inr (.inr ⟨rfl,h3,rfl⟩)))]at e;rw[HPZ.o (by rw[e];decide),e]);clear HPC HPZ HNX HLS HRN K0 HQ;go_wp2_with fail;go_ret;exact⟨by rw[HZ.o];rfl,G7.o⟩
       all_goals
        have HOK:=qH (show PC=if J2 p.got || J2 p.out then 2 else 0 by
         have e:=HPC.o
         rw[qB (by simp),qB (by intro h;rcases h with h | h | ⟨h,h'⟩|⟨h,h',h''⟩ <;> first|exact h1 h | exact h2 h | exact absurd h' (by decide) | exact absurd h (by decide) | exact h4 h'' | omega)]at e
         exact e)
        have HLV:=qH (show ∀V,Bq w6 V->RList V (.slice ag _ cg) U p.got/\RList V (.slice ab OL cb) U p.out from fun V hV=>HLS.o V (HBW.o.trans ((qT B6 hV).out.mono HBW.o.size)));try have e5:(pp==(GL:Int))=false:=by rw[qg];exact h4
        clear HPC HLS HQ HBW B6 G7;go_wp2_with fail;clear a0 a1 a2 a3 a4 b0 b1 b2 b3 b4 b5 b6 b7;obtain⟨wo,hwo⟩:=qE wr;subst hwo;go_loopw [146] (fun i wz=>∃t:Nat,t<=2/\i=.int .i64 t/\Hid (wz.cell? ⟨w6.heap.size,0,none⟩=some (.slice ag _ cg)/\wz.cell? ⟨w6.heap.size,1,none⟩=some (.slice ab OL cb))/\Hid (∀q,q<t->J2 (if q=0 then p.got else p.out)=false)/\Hid (Bq w6 wz)) (fun i _=>2-(intOf i).toNat)
        case atStart=>exact⟨0,qO,rfl,(show _/\_ from ⟨(qY _ _ _ _ _ _ (qJ _ _)).trans rfl,(qY _ _ _ _ _ _ (qJ _ _)).trans rfl⟩),(show ∀q,_ from fun q hq=>absurd hq (zm _)),(show Below _ _ _ from boxE)⟩
        case round=>
         obtain⟨t,ht,rfl,hcl,hlz,hb8⟩:=hrel;by_cases hltt:t<2
         .
          obtain⟨L,aL,LL,cL,hcj,hRL,HLE⟩:∃(L:qL)(aL:Option Addr)(LL cL:Nat),wr.cell? ⟨w6.heap.size,t,none⟩=some (.slice aL LL cL)/\RList wr (.slice aL LL cL) U L/\Hid (L=if t=0 then p.got else p.out):=by
           have h:=HLV.o wr hb8.out;have h01:t=0\/t=1:=qO;rcases h01 with rfl | rfl
           . exact⟨p.got,ag,_,cg,hcl.out.1,h.1,(show _=_ from rfl)⟩
           . exact⟨p.out,ab,_,cb,hcl.out.2,h.2,(show _=_ from rfl)⟩
          have Sm:=V8 hRL;have HRL:=qH hRL;have HLL:Hid (LL=L.length):=Sm.1;have hL1:LL<=cL:=Sm.2.1;have hL2:cL<=9223372036854775807:=Sm.2.2;have h01:(t:Int)=0\/(t:Int)=1:=qO;clear hRL Sm;go_wp2_with fail;obtain⟨wp,hwp⟩:=qE wr;subst hwp;go_loopw [152] (fun i wq=>∃u:Nat,u<=LL/\i=.int .i64 u/\wq=wp/\Hid (∀b∈L.take u,b.length<=40000)) (fun i _=>LL-(intOf i).toNat)
          case atStart=>exact⟨0,qM _,rfl,rfl,(show ∀b∈_,_ from fun b hb=>by simp at hb)⟩
          case round=>
           obtain⟨u,hu,rfl,hwq,hul⟩:=hrel;subst hwq;by_cases hltu:u<LL
           .
            obtain⟨bb,hbb⟩:∃bb,L[u]?=some bb:=⟨_,gEl (by have:=HLL.o;omega)⟩;obtain⟨bk,bo,au,cu,rfl,hcu,hru⟩:=HRL.o.at hbb;have hbl:=(t8 hru).1;by_cases hlong:40000<bb.length
            . have Bt:J2 L=true:=by unfold J2;rw[List.any_eq_true];exact⟨bb,mGt hbb,by simpa using hlong⟩
              have HZ:=qH (show Z=2 by
               have e:PC=2:=by
                rw[HOK.o]
                have h2:=Bt
                rw[HLE.o]at h2
                by_cases ht0:t=0
                . rw[qF ht0]at h2;rw[h2];simp
                . rw[qB ht0]at h2;rw[h2];simp
               rw[HPZ.o (by rw[e];decide),e])
              have G9:Hid (Bq w wr):=(K0.o _ (B7.o.trans (hb8.out.mono B7.o.size))).1;generalize bb.length=BL at *;clear hbb hru Bt HPZ HNX HOK HLV HRN K0;go_wp2_with fail;go_ret;exact⟨by rw[HZ.o];rfl,G9.o⟩
            . have HU1:=qH (show ∀b∈L.take (u+1),b.length<=40000 from fun b hb=>by
               rw[qZ,hbb,zO,xY,zC]at hb
               rcases hb with hb | hb
               . exact hul.out b hb
               . rw[hb];omega)
              generalize bb.length=BL at *;clear hbb hru;go_wp2_with fail;go_roundw
              case rel=>exact⟨u+1,qO,by go_num,(by first|exact rfl | trivial),HU1⟩
              case measure=>simp[intOf];omega
           . have hno:J2 L=false:=by unfold J2;rw[List.any_eq_false];intro b hb;have:=hul.out b (by rw[qP (by have:=HLL.o;omega)];exact hb);simp;omega
             have HL1:=qH (show ∀q,q<t+1->J2 (if q=0 then p.got else p.out)=false from fun q hq=>by
              rcases xo q t with h5 | h5
              . exact hlz.out q h5
              . have h6:q=t:=qO
                rw[h6,<- HLE.o];exact hno)
             clear hno;go_wp2_with fail;go_roundw
             case rel=>exact⟨t+1,qO,by go_num,hcl,HL1,hb8⟩
             case measure=>simp[intOf];omega
         . have HPC0:=qH (show PC=0 by
            have e0:=hlz.out 0 qO
            have e1:=hlz.out 1 qO
            rw[qF rfl]at e0
            rw[qB (by decide)]at e1
            rw[HOK.o,e0,e1]
            rfl)
           have HNZ:Hid _:=HNX.o HPC0.o;have B9:Hid (Bq W0 wr):=B7.o.trans (hb8.out.mono B7.o.size);have ht2:t=2:=qO;subst ht2;go_wp2_with fail;go_roundw
           case rel=>exact⟨r+1,qO,by go_num,HNZ,B9⟩
           case measure=>simp[intOf];omega
      . have hpc:E1 M.ns M.ps=0:=av4 M.ns M.ps (fun i n p hn hp=>hpz.out i n p (by have:=(gSm hp).1;have:=HN.o.2.2;omega) hn hp);have HZ:Hid (Z=if 40000<NS then 2 else 0):=HF4.o hpc;obtain⟨g5,x0,x1,x2,x3,x4⟩:=K0.o _ Aa.o;have G5:=qH g5;clear HF3 HF4 HRN K0 hpc hpz g5;by_cases hs4:40000<NS
        . go_wp2_with fail;go_ret;exact⟨by rw[HZ.o,qF hs4];rfl,G5.o⟩
        . go_wp2_with fail;go_ret;exact⟨by rw[HZ.o,qB hs4];rfl,G5.o⟩
end Go.Proofs.YtmejdflmcikkdaaGreatDoor
