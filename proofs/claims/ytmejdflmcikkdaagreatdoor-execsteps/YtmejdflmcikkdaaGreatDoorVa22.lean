/- What the developers' came does, and more. -/
import Derived.Test.YtmejdflmcikkdaaGreatDoorVAb
import Derived.Test.YtmejdflmcikkdaaGreatDoorVa20
import Derived.Test.YtmejdflmcikkdaaGreatDoorVa21
set_option linter.all false
set_option maxRecDepth 100000
set_option maxHeartbeats 64000000
namespace Go.Proofs.YtmejdflmcikkdaaGreatDoor
open Go.RowKit Go.Gs Go.Maps Tryz
variable {G:World->qW->Prop}
theorem bW9(D r:Nat)(O:qW)(d:RD)(i q m:Nat)(n:SNode)(p:SProc)(x:SPipe)(g:qU)(w:World)(h:RunM G w D r O d)(hS:Shape d.M)(hn:d.M.ns[i]?=some n)(hp:d.M.ps[i]?=some p)(hm:p.pos=(m:Int))(hgm:p.got[m]?=some g)(hg0:g≠[])(hq:q=Gs.f9 d.M.ns i+m)(hx:d.M.pipes[q]?=some x)(Ad:G8 n)(hT:p.got.flatten.length<=60300000)(hsm:∀b∈p.out,b.length<=90000000)(hsk:d.M.sunk.length<=90000000)(hE:∀W,Below D w W->q8 W):
 Calls prog 98 #[.pointer (some ⟨r,0,none⟩),.int .i64 i] w fun e w'=>e=.returned (.int .i64 0)/\o6 G w' D r (F3 d.M i n q p)/\Below D w w':=by
 by_cases hk5:n.kind=5
 . exact bN7 D r O d i q m n p x g w h hS hn hp hm hgm hg0 hq hx Ad hT hsm hsk hE hk5
 . by_cases hps:passes n=true
   . exact bN9 D r O d i q m n p x g w h hS hn hp hm hgm hg0 hq hx Ad hT hsm hsk hE hk5 hps
   . exact bN8 D r O d i q m n p x g w h hS hn hp hm hgm hg0 hq hx Ad hT hsm hsk hE hk5 (by simpa using hps)
end Go.Proofs.YtmejdflmcikkdaaGreatDoor
namespace Go.Proofs.YtmejdflmcikkdaaGreatDoor
open Go.RowKit Go.Gs Tryz
variable {l:List Int}{k:Nat}{z:Int}{w:World}{a b c d e:Value}{t:TypeId}{ns:List SNode}{fs:List SFile}
theorem aF0(h:∀x∈l.take k,x=0)(hk:l[k]?=some z)(hz:z≠0):I8 l=z:=by
 unfold I8;have hkl:k<l.length:=(gSm hk).1;have e:l=l.take k++(z::l.drop (k+1)):=by rw[gEl hkl]at hk;injection hk with hk;rw[<- hk,<- qt hkl,xU]
 rw[e,List.find?_append];have h1:(l.take k).find? (fun x=>x != 0)=none:=by rw[zW];intro x hx;simp[h x hx]
 rw[h1,List.find?_cons,show (z != 0)=true by simpa using hz];rfl
theorem an9:∀(ns:List SNode)(ps:List SProc)(k:Nat)(n:SNode)(p:SProc),(∀(i:Nat)(n:SNode)(p:SProc),i<k->ns[i]?=some n->ps[i]?=some p->C6 n p=0)->ns[k]?=some n->ps[k]?=some p->C6 n p≠0->E1 ns ps=C6 n p
 | [],_,k,n,p,_,hn,_,_=>by simp at hn
 | _::_,[],k,n,p,_,_,hp,_=>by simp at hp
 | m::ns,q::ps,0,n,p,_,hn,hp,hz=>by simp at hn hp;subst hn hp;unfold E1;rw[qF hz]
 | m::ns,q::ps,k+1,n,p,h,hn,hp,hz=>by unfold E1;rw[qB (by simp[h 0 m q qO rfl rfl])];exact an9 ns ps k n p (fun i n p hi hn hp=>h (i+1) n p qO (by simpa using hn) (by simpa using hp)) (by simpa using hn) (by simpa using hp) hz
theorem as9(an af:Option Addr)(cn cf:Nat)(ns:List SNode)(fs:List SFile)(w:World)
 (hG:∀W,Bq w W->Calls prog 65 #[.agg #[.slice an ns.length cn]] W fun e w'=>e=.returned (.int .i64 (gchk ns))/\Bq W w')
 (hF:∀W,Bq w W->Calls prog 66 #[.slice af fs.length cf] W fun e w'=>e=.returned (.int .i64 (fchk fs))/\Bq W w'):
 Calls prog 23 #[.agg #[.slice an ns.length cn],.slice af fs.length cf] w fun e w'=>e=.returned (.int .i64 (if gchk ns≠0 then gchk ns else fchk fs))/\Bq w w':=by
 have HG:Hid _:=hG;have HF:Hid _:=hF;generalize ns.length=N,fs.length=NF,gchk ns=G,fchk fs=F at *;clear hG hF;go_enter func23,ntmps23;go_wp2_with fail;have hQ:=HG.o _ (boxE (w:=w) (o:=.cells #[.slice an N cn] 24));refine qD hQ ?_;rintro e w1⟨rfl,hb1⟩;have HB1:Hid (Bq w w1):=boxE.trans (hb1.mono boxE.size);clear hQ hb1 HG;by_cases h:G=0
 . subst h;go_wp2_with fail;have hQ:=HF.o w1 HB1.o;refine qD hQ ?_;rintro e w2⟨rfl,hb2⟩;have HB2:=qT HB1 hb2;clear hQ hb2 HF HB1;go_wp2_with fail;go_ret;exact⟨rfl,HB2.o⟩
 . have HP:=qH (show (if G≠0 then G else F)=G by rw[qF h]);go_wp2_with fail;go_ret;exact⟨by first|rfl | (rw[HP.o];rfl),HB1.o⟩
theorem bm8(h:(Lit.int .i64 z).wf=true):-9223372036854775808<=z/\z<=9223372036854775807:=by simpa[Lit.wf,IntKind.min,IntKind.max,IntKind.signed,IntKind.bits]using h
theorem boxM{w':World}(h:Below (w.alloc (.cells #[a,b,c,d,e] t)).heap.size (w.alloc (.cells #[a,b,c,d,e] t)) w'):
 w'.heap[w.heap.size]?=some (.cells #[a,b,c,d,e] t (0,0)):=(h.block _ (by simp)).trans (qJ w _)
theorem cells5(h:w.heap[k]?=some (.cells #[a,b,c,d,e] t (0,0))):
 w.cell? ⟨k,0,none⟩=some a/\w.cell? ⟨k,1,none⟩=some b/\w.cell? ⟨k,2,none⟩=some c/\w.cell? ⟨k,3,none⟩=some d/\w.cell? ⟨k,4,none⟩=some e:=by
 refine⟨?_,?_,?_,?_,?_⟩
 all_goals
  rw[qY _ _ _ _ _ _ h];rfl
theorem aM3{M:SMach}(h:(if gchk M.ns≠0 then gchk M.ns else fchk M.fs)≠0):mchk M=(if gchk M.ns≠0 then gchk M.ns else fchk M.fs):=by
 unfold mchk;by_cases h1:gchk M.ns≠0
 . rw[qF h1,qF h1]
 . rw[qB h1]at h;rw[qB h1,qF h,qB h1]
theorem bU9(h:(if gchk ns≠0 then gchk ns else fchk fs)=0):gchk ns=0/\fchk fs=0:=by
 by_cases h1:gchk ns≠0
 . rw[qF h1]at h;exact absurd h h1
 . rw[qB h1]at h;exact⟨by simpa using h1,h⟩
theorem aW9{M:SMach}(h1:gchk M.ns=0)(h2:fchk M.fs=0)(h3:M.ps.length≠M.ns.length\/M.pipes.length≠(b8 M.ns).length):mchk M=4:=by unfold mchk;rw[qB (by simp[h1]),qB (by simp[h2]),qF h3]
theorem aM4{M:SMach}(h1:gchk M.ns=0)(h2:fchk M.fs=0)(h3:¬(M.ps.length≠M.ns.length\/M.pipes.length≠(b8 M.ns).length))(h4:I8 (M.pipes.map pchk)≠0):mchk M=I8 (M.pipes.map pchk):=by unfold mchk;rw[qB (by simp[h1]),qB (by simp[h2]),qB h3,qF h4]
theorem aM5{M:SMach}(h1:gchk M.ns=0)(h2:fchk M.fs=0)(h3:¬(M.ps.length≠M.ns.length\/M.pipes.length≠(b8 M.ns).length))(h4:I8 (M.pipes.map pchk)=0)(h5:E1 M.ns M.ps≠0):mchk M=E1 M.ns M.ps:=by unfold mchk;rw[qB (by simp[h1]),qB (by simp[h2]),qB h3,qB (by simp[h4]),qF h5]
theorem bm9{M:SMach}(h1:gchk M.ns=0)(h2:fchk M.fs=0)(h3:¬(M.ps.length≠M.ns.length\/M.pipes.length≠(b8 M.ns).length))(h4:I8 (M.pipes.map pchk)=0)(h5:E1 M.ns M.ps=0):mchk M=if 40000<M.sunk.length then 2 else 0:=by unfold mchk;rw[qB (by simp[h1]),qB (by simp[h2]),qB h3,qB (by simp[h4]),qB (by simp[h5])]
theorem bK1(an af ax ap aS:Option Addr)(cn cf cx cp cs:Nat)(M:SMach)(w:World)(hM:RMach w an af ax ap aS cn cf cx cp cs M)(Ad:FitsM M)
 (hG:∀W,Bq w W->Calls prog 65 #[.agg #[.slice an M.ns.length cn]] W fun e w'=>e=.returned (.int .i64 (gchk M.ns))/\Bq W w')
 (hF:∀W,Bq w W->Calls prog 66 #[.slice af M.fs.length cf] W fun e w'=>e=.returned (.int .i64 (fchk M.fs))/\Bq W w'):
 Calls prog 10 #[machV an af ax ap aS M cn cf cx cp cs] w fun e w'=>e=.returned (.int .i64 (mchk M))/\Bq w w':=by
 have HM:Hid _:=hM;have Gz:=qH Ad;have HGv:Hid _:=fun(W:World)(hW:Bq w W)=>as9 an af cn cf M.ns M.fs W (fun V hV=>hG V (hW.trans (hV.mono hW.size))) (fun V hV=>hF V (hW.trans (hV.mono hW.size)));have hnl:=M5 hM.nodes;have hfl:=ac2 hM.files;have hxl:=ah1 hM.pipes;have hpl:=U7 hM.procs;have hsl:=(t8 hM.sunk).1;have HC0:Hid _:=fun h=>aM3 (M:=M) h;have HC1:Hid _:=fun h1 h2 h3=>aW9 (M:=M) h1 h2 h3;have HC2:Hid _:=fun h1 h2 h3 h4=>aM4 (M:=M) h1 h2 h3 h4;have HC3:Hid _:=fun h1 h2 h3 h4 h5=>aM5 (M:=M) h1 h2 h3 h4 h5;have HC4:Hid _:=fun h1 h2 h3 h4 h5=>bm9 (M:=M) h1 h2 h3 h4 h5;unfold machV;generalize mchk M=Z at *;obtain⟨N,hN⟩:=qE M.ns.length;obtain⟨NF,hNF⟩:=qE M.fs.length;obtain⟨NX,hNX⟩:=qE M.pipes.length;obtain⟨NP,hNP⟩:=qE M.ps.length;obtain⟨NS,hNS⟩:=qE M.sunk.length;have HN:=qH hN;have HNX:=qH hNX;have HNP:=qH hNP;have HNS:=qH hNS;rw[<- hN,<- hNF]at HGv;rw[<- hN,<- hNX,<- hNP]at HC1 HC2 HC3 HC4;rw[<- hNS]at HC4;rw[<- hN]at hnl;rw[<- hNF]at hfl;rw[<- hNX]at hxl;rw[<- hNP]at hpl;rw[<- hNS]at hsl;rw[<- hN,<- hNF,<- hNX,<- hNP,<- hNS];have RN:=qH (show y8 w (.slice an N cn) M.ns by rw[hN];exact hM.nodes);have RX:=qH (show N6 w (.slice ax NX cx) M.pipes by rw[hNX];exact hM.pipes);have RP:=qH (show J7 w (.slice ap NP cp) M.ps by rw[hNP];exact hM.procs);obtain⟨GV,hGV⟩:=qE ((if gchk M.ns≠0 then gchk M.ns else fchk M.fs));have HGV:=qH hGV;rw[<- hGV]at HGv HC0;clear hM Ad hG hF hN hNF hNX hNP hNS hGV;go_enter func10,ntmps10;go_wp2_with fail;have hQ:=HGv.o _ (boxE (w:=w) (o:=.cells #[.slice an N cn,.slice af NF cf,.slice ax NX cx,.slice ap NP cp,.slice aS NS cs] 30));refine qD hQ ?_;rintro e w1⟨rfl,hb1⟩;have hx1:=boxM hb1;have HB1:Hid (Bq w w1):=boxE.trans (hb1.mono boxE.size);clear hQ hb1 HGv;have HX1:Hid _:=hx1;obtain⟨c0,c1,c2,c3,c4⟩:=cells5 hx1;by_cases hgv:GV=0
 .
  subst hgv;obtain⟨hg0,hf0⟩:=bU9 HGV.o.symm;have HG0:=qH hg0;have HF0:=qH hf0;have g:=Q6 hg0;have HRG:=qH g;have h60:N<=60:=by rw[HN.o];exact g.le60
  have HIN:Hid _:=fun(W:World)(hW:Bq w W)=>bH2 an cn M.ns W ((y8.below (by rw[<- HN.o];exact RN.o) hW)) (fun n hn=>(A1 (g.node n hn)).1) g.le60;rw[<- HN.o]at HIN;obtain⟨NA,hNA⟩:=qE ((b8 M.ns).length);have HNA:=qH hNA;rw[<- hNA]at HC1 HC2 HC3 HC4 HIN;have k0:=fun d os=>cell_regrown c0 d os;have k1:=fun d os=>cell_regrown c1 d os;have k2:=fun d os=>cell_regrown c2 d os;have k3:=fun d os=>cell_regrown c3 d os;have k4:=fun d os=>cell_regrown c4 d os;have cF:∀d os,Calls prog 31 #[.agg #[.slice an N cn]] (Go.Sort.grow (redrawn w1 d) os) fun e w''=>e=.returned (.int .i64 (NA:Int))/\∃p:Regrown,w''=Go.Sort.grow (redrawn w1 p.d) p.os:=fun d os=>Calls.regrown_of (HIN.o _ (HB1.o.trans ((below_regrown w1 d os).mono HB1.o.size)));clear HC0 hg0 hf0 g hNA HGV HIN hx1;by_cases h3:NP=N
  .
   subst h3;by_cases h4:NX=NA
   .
    subst h4;have hnf:¬(NP≠NP\/NX≠NX):=fun h=>h.elim (fun h=>h rfl) (fun h=>h rfl);have HD2:Hid _:=fun h=>HC2.o HG0.o HF0.o hnf h;have HD3:Hid _:=fun h h'=>HC3.o HG0.o HF0.o hnf h h';have HD4:Hid _:=fun h h'=>HC4.o HG0.o HF0.o hnf h h';clear HC1 HC2 HC3 HC4 hnf;go_upto_region 4 with fail;refine wp_region_quiet_below qQ qQ ?_;repeat (first|go_big_quiet_step (exact cF _ _) | quiet_step (exact cF _ _))
    refine wpQuiet_nil ?_;intro _ hw';obtain⟨⟨dq,osq⟩,Av⟩:=hw';subst Av;have HB3:Hid (Bq w (Go.Sort.grow (redrawn w1 dq) osq)):=HB1.o.trans ((below_regrown w1 dq osq).mono HB1.o.size);have x3:(Go.Sort.grow (redrawn w1 dq) osq).heap[w.heap.size]?=some (.cells #[.slice an NP cn,.slice af NF cf,.slice ax NX cx,.slice ap NP cp,.slice aS NS cs] 30 (0,0)):=((below_regrown w1 dq osq).block _ (aSm HX1.o).1).trans HX1.o;clear cF k0 k1 k2 k3 k4 HB1 HX1 c0 c1 c2 c3 c4;generalize (Go.Sort.grow (redrawn w1 dq) osq)=w3 at *;have X3:Hid _:=x3;obtain⟨c0,c1,c2,c3,c4⟩:=cells5 x3;clear x3;go_wp2_with fail;go_loopw [38] (fun i wr=>∃k:Nat,k<=NX/\i=.int .i64 k/\Hid (Bq w3 wr)/\Hid (∀x∈(M.pipes.map pchk).take k,x=0)) (fun i _=>NX-(intOf i).toNat)
    case atStart=>exact⟨0,qM _,rfl,Below.refl _ _,(show ∀x∈(M.pipes.map pchk).take 0,x=0 by simp)⟩
    case round=>
     obtain⟨k,hk,rfl,Aa,hz⟩:=hrel;have HBW:Hid (Bq w wr):=HB3.o.trans (Aa.o.mono HB3.o.size);have x4:=qK Aa.o X3.o;have X4:Hid _:=x4;clear c0 c1 c2 c3 c4;obtain⟨c0,c1,c2,c3,c4⟩:=cells5 x4;clear x4;by_cases hlt:k<NX
     .
      obtain⟨x,hx⟩:∃x,M.pipes[k]?=some x:=⟨_,gEl (by have:=HNX.o;omega)⟩;obtain⟨b,off,ab,cb,rfl,e0,e1,e2,e3,HRd⟩:=(N6.below RX.o HBW.o).at hx;have hxl2:=(t8 HRd).1;have HCK:Hid _:=fun(W:World)=>ah7 ab x.b.length cb x.room x.closed x.shut W hxl2;obtain⟨z,hzz⟩:=qE (pck x.b.length x.room x.shut);have hzk:(M.pipes.map pchk)[k]?=some z:=by rw[qa,hx,hzz];rfl
      have HZK:=qH hzk;rw[<- hzz]at HCK;generalize x.b.length=XL,x.room=xr,x.closed=xc,x.shut=xs at *;clear hx HRd hzz hzk;go_wp2_with fail;refine qD (HCK.o _) ?_;rintro e w4⟨rfl,hb4⟩;have HB4:Hid (Bq wr w4):=boxE.trans (hb4.mono boxE.size);clear hb4 HCK e0 e1 e2 e3;by_cases h0:z=0
      .
       subst h0
       have HZ2:Hid (∀x∈(M.pipes.map pchk).take (k+1),x=0):=(show ∀x∈(M.pipes.map pchk).take (k+1),x=0 by
        intro x hx
        rw[qZ,HZK.o]at hx
        rcases xY.1 hx with hx | hx
        . exact hz.out x hx
        . simpa using hx)
       clear hz;go_wp2_with fail;go_roundw
       case rel=>exact⟨k+1,qO,by go_num,Aa.o.trans (HB4.o.mono Aa.o.size),HZ2⟩
       case measure=>simp[intOf];omega
      . have HP:=qH (show Z=z by
         have hbf:=aF0 hz.out HZK.o h0
         rw[HD2.o (by rw[hbf];exact h0),hbf])
        clear hz HD2 HD3 HD4;go_wp2_with fail;go_ret;exact⟨by rw[HP.o];rfl,HBW.o.trans (HB4.o.mono HBW.o.size)⟩
     .
      have hbz:I8 (M.pipes.map pchk)=0:=aR8 (fun x hx=>hz.out x (by rw[qP (by rw[qS];have:=HNX.o;omega)];exact hx));have HE3:Hid _:=fun h=>HD3.o hbz h;have HE4:Hid _:=fun h=>HD4.o hbz h;clear hz HD2 HD3 HD4 hbz X3 HB3 Aa RX;generalize wr=wa at *;go_wp2_with fail;go_loopw [52] (fun i wr=>∃k:Nat,k<=NP/\i=.int .i64 k/\Hid (Bq wa wr)/\Hid (∀(i:Nat)(n:SNode)(p:SProc),i<k->M.ns[i]?=some n->M.ps[i]?=some p->C6 n p=0)) (fun i _=>NP-(intOf i).toNat)
      case atStart=>exact⟨0,qM _,rfl,Below.refl _ _,(show ∀(i:Nat)(n:SNode)(p:SProc),i<0->M.ns[i]?=some n->M.ps[i]?=some p->C6 n p=0 from fun i n p h=>absurd h qO)⟩
      case round=>
       obtain⟨k,hk,rfl,Aa,hz⟩:=hrel;have HBV:Hid (Bq w wr):=HBW.o.trans (Aa.o.mono HBW.o.size);have x5:=qK Aa.o X4.o;have X5:Hid _:=x5;clear c0 c1 c2 c3 c4;obtain⟨c0,c1,c2,c3,c4⟩:=cells5 x5;clear x5;by_cases hlt:k<NP
       .
        obtain⟨n,hn⟩:∃n,M.ns[k]?=some n:=⟨_,gEl (by have:=HN.o;omega)⟩;obtain⟨p,hp⟩:∃p,M.ps[k]?=some p:=⟨_,gEl (by have:=HNP.o;omega)⟩;obtain⟨b,off,ai,ci,rfl,Lq,HPo⟩:=(y8.below RN.o HBV.o).at hn;obtain⟨b2,off2,ag,cg,ao,co,rfl,p0,p1,p2,p3,p4,HRg,HRo⟩:=(J7.below RP.o HBV.o).at hp;have hil:=S3 HPo;have hps:=bm8 (Gz.o.pos p (mGt hp));have HCP:Hid _:=fun(W:World)(hW:Bq wr W)=>aH1 n ai ci p ag ao cg co W (HRg.below hW) (HRo.below hW) qO hps;obtain⟨c8,c9,c10,c11,c12,c13,c14,c15⟩:=Lq;obtain⟨z,hzz⟩:=qE (C6 n p);have HZA:Hid (z≠0->E1 M.ns M.ps=z):=(show z≠0->E1 M.ns M.ps=z from fun h=>by rw[hzz];exact an9 M.ns M.ps k n p hz.out hn hp (by rw[<- hzz];exact h))
        have HZB:Hid (z=0->∀(i:Nat)(n:SNode)(p:SProc),i<k+1->M.ns[i]?=some n->M.ps[i]?=some p->C6 n p=0):=(show z=0->∀(i:Nat)(n:SNode)(p:SProc),i<k+1->M.ns[i]?=some n->M.ps[i]?=some p->C6 n p=0 from fun h i n' p' hi hn' hp'=>by
         by_cases e:i=k
         . subst e
           rw[hn]at hn'
           rw[hp]at hp'
           injection hn' with hn'
           injection hp' with hp'
           subst hn' hp'
           rw[<- hzz];exact h
         . exact hz.out i n' p' qO hn' hp')
        unfold x8 at HCP;rw[<- hzz]at HCP;generalize (⟨n.file.toArray⟩:ByteArray)=fx,(⟨n.c.word.toArray⟩:ByteArray)=wx0,n.c.kind=ck,n.c.n=cn',n.how=hw,n.wide=wd,n.kind=nk,n.ins.length=IL,p.got.length=GL,p.out.length=OL,p.pos=pp,p.rd=rd,p.ov=ov at *;clear hn hp HPo HRg HRo hzz hz hil hps;obtain⟨W,hW⟩:=qE (wr.alloc (.cells #[.int .i64 nk,.string fx,.int .i64 ck,.string wx0,.int .i64 cn',.int .i64 hw,.int .i64 wd,.slice ai IL ci] 57));have hBW:Bq wr W:=by rw[hW];exact boxE
        have Ep:=qH hBW;have xN:W.heap[wr.heap.size]?=some (.cells #[.int .i64 nk,.string fx,.int .i64 ck,.string wx0,.int .i64 cn',.int .i64 hw,.int .i64 wd,.slice ai IL ci] 57 (0,0)):=by rw[hW];exact qJ _ _
        have a0:=A8 xN 0;have a1:=A8 xN 1;have a2:=A8 xN 2;have a3:=A8 xN 3;have a4:=A8 xN 4;have a5:=A8 xN 5;have a6:=A8 xN 6;have a7:=A8 xN 7;simp at a0 a1 a2 a3 a4 a5 a6 a7;have d3:=qC hBW c3;have r0:=qC hBW p0;have r1:=qC hBW p1;have r2:=qC hBW p2;have r3:=qC hBW p3;have r4:=qC hBW p4;have m0:=fun d os=>cell_regrown a0 d os;have m1:=fun d os=>cell_regrown a1 d os;have m2:=fun d os=>cell_regrown a2 d os;have m3:=fun d os=>cell_regrown a3 d os;have m4:=fun d os=>cell_regrown a4 d os;have m5:=fun d os=>cell_regrown a5 d os;have m6:=fun d os=>cell_regrown a6 d os;have m7:=fun d os=>cell_regrown a7 d os;have m8:=fun d os=>cell_regrown d3 d os;have s0:=fun d os=>cell_regrown r0 d os;have s1:=fun d os=>cell_regrown r1 d os;have s2:=fun d os=>cell_regrown r2 d os;have s3:=fun d os=>cell_regrown r3 d os;have s4:=fun d os=>cell_regrown r4 d os;have cG:∀d os,Calls prog 33 #[.agg #[.int .i64 nk,.string fx,.int .i64 ck,.string wx0,.int .i64 cn',.int .i64 hw,.int .i64 wd,.slice ai IL ci],.agg #[.slice ag GL cg,.int .i64 pp,.slice ao OL co,.bool rd,.bool ov]] (Go.Sort.grow (redrawn W d) os) fun e w''=>e=.returned (.int .i64 z)/\∃p:Regrown,w''=Go.Sort.grow (redrawn W p.d) p.os:=fun d os=>Calls.regrown_of (HCP.o _ (Ep.o.trans ((below_regrown W d os).mono Ep.o.size)));clear HCP xN a0 a1 a2 a3 a4 a5 a6 a7 d3 r0 r1 r2 r3 r4 hBW;go_upto_region 16 with fail;rw[<- hW];clear hW;refine wp_region_quiet_below qQ qQ ?_;repeat (first|go_big_quiet_step (exact cG _ _) | quiet_step (exact cG _ _))
        refine wpQuiet_nil ?_;intro _ hw';obtain⟨⟨dq,osq⟩,Av⟩:=hw';subst Av;have HB6:Hid (Bq wr (Go.Sort.grow (redrawn W dq) osq)):=Ep.o.trans ((below_regrown W dq osq).mono Ep.o.size);clear cG m0 m1 m2 m3 m4 m5 m6 m7 m8 s0 s1 s2 s3 s4 Ep c0 c1 c2 c3 c4 c8 c9 c10 c11 c12 c13 c14 c15 p0 p1 p2 p3 p4;generalize (Go.Sort.grow (redrawn W dq) osq)=w6 at *;by_cases h0:z=0
        . subst h0;have HZ2:Hid _:=HZB.o rfl;clear HZA HZB;go_wp2_with fail;go_roundw
          case rel=>exact⟨k+1,qO,by go_num,Aa.o.trans (HB6.o.mono Aa.o.size),HZ2⟩
          case measure=>simp[intOf];omega
        . have HP:=qH (show Z=z by
           have h1:=HZA.o h0
           rw[HE3.o (by rw[h1];exact h0),h1])
          clear HZA HZB HE3 HE4;go_wp2_with fail;go_ret;exact⟨by rw[HP.o];rfl,HBV.o.trans (HB6.o.mono HBV.o.size)⟩
       . have HP:Hid (Z=if 40000<NS then 2 else 0):=HE4.o (as5 _ _ (fun i n p hn hp=>hz.out i n p (by have:=(gSm hp).1;have:=HNP.o;omega) hn hp));clear hz HE3 HE4;go_wp2_with fail;refine qD (aK3 _ _ _ _) ?_;rintro e w7⟨rfl,hb7⟩;have HB7:=qT HBV hb7;clear hb7;by_cases hs4:40000<NS
         . rw[qV hs4];rw[qF hs4]at HP;go_wp2_with fail;go_ret;exact⟨by rw[HP.o];rfl,HB7.o⟩
         . rw[qG hs4];rw[qB hs4]at HP;go_wp2_with fail;go_ret;exact⟨by rw[HP.o];rfl,HB7.o⟩
   . have h4':¬(NX:Int)=NA:=qO;have HP:Hid (Z=4):=HC1.o HG0.o HF0.o (.inr h4);clear HC1 HC2 HC3 HC4;go_upto_region 4 with fail;refine wp_region_quiet_below qQ qQ ?_;repeat (first|go_big_quiet_step (exact cF _ _) | quiet_step (exact cF _ _))
     refine wpQuiet_nil ?_;intro _ hw';obtain⟨⟨dq,osq⟩,Av⟩:=hw';subst Av;have HB3:Hid (Bq w (Go.Sort.grow (redrawn w1 dq) osq)):=HB1.o.trans ((below_regrown w1 dq osq).mono HB1.o.size);have x3:(Go.Sort.grow (redrawn w1 dq) osq).heap[w.heap.size]?=some (.cells #[.slice an NP cn,.slice af NF cf,.slice ax NX cx,.slice ap NP cp,.slice aS NS cs] 30 (0,0)):=((below_regrown w1 dq osq).block _ (aSm HX1.o).1).trans HX1.o;clear cF k0 k1 k2 k3 k4 HB1 HX1 c0 c1 c2 c3 c4;generalize (Go.Sort.grow (redrawn w1 dq) osq)=w3 at *;clear x3;go_wp2_with fail;go_ret;exact⟨by rw[HP.o];rfl,HB3.o⟩
  . have h3':¬(NP:Int)=N:=qO;have HP:Hid (Z=4):=HC1.o HG0.o HF0.o (.inl h3);clear HC1 HC2 HC3 HC4;go_upto_region 4 with fail;refine wp_region_quiet_below qQ qQ ?_;repeat (first|go_big_quiet_step (exact cF _ _) | quiet_step (exact cF _ _))
    refine wpQuiet_nil ?_;intro _ hw';obtain⟨⟨dq,osq⟩,Av⟩:=hw';subst Av;have HB3:Hid (Bq w (Go.Sort.grow (redrawn w1 dq) osq)):=HB1.o.trans ((below_regrown w1 dq osq).mono HB1.o.size);have x3:(Go.Sort.grow (redrawn w1 dq) osq).heap[w.heap.size]?=some (.cells #[.slice an N cn,.slice af NF cf,.slice ax NX cx,.slice ap NP cp,.slice aS NS cs] 30 (0,0)):=((below_regrown w1 dq osq).block _ (aSm HX1.o).1).trans HX1.o;clear cF k0 k1 k2 k3 k4 HB1 HX1 c0 c1 c2 c3 c4;generalize (Go.Sort.grow (redrawn w1 dq) osq)=w3 at *;clear x3;go_wp2_with fail;go_ret;exact⟨by rw[HP.o];rfl,HB3.o⟩
 . have HP:Hid (Z=GV):=HC0.o hgv;clear HC0 HC1 HC2 HC3 HC4;go_wp2_with fail;go_ret;exact⟨by rw[HP.o];rfl,HB1.o⟩
end Go.Proofs.YtmejdflmcikkdaaGreatDoor
