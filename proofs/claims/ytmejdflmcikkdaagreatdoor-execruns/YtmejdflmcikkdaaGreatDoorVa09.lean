/- What the developers' cloned does, and more. -/
import Derived.Test.YtmejdflmcikkdaaGreatDoorVAb
import Derived.Test.YtmejdflmcikkdaaGreatDoorVa05
set_option linter.all false
set_option maxRecDepth 100000
set_option maxHeartbeats 64000000
namespace Go.Proofs.YtmejdflmcikkdaaGreatDoor
open Go.RowKit Go.Gs Tryz
variable {L:List (Int × Int)}{p q:Int × Int}{D k c b n B j cu:Nat}{ns:List SNode}{w w':World}{O O':qW}{A A':World->qW->Prop}{ad a:Addr}{m:Int}{f:Int × Int->Int}{e:TypeId}{v:Value}{xs:List Value}{sx tx:ByteArray}{l x t:qU}{ps:List qL}{r:qL}{au:Option Addr}{o:Own}
theorem aL7(an af ax ap aS:Option Addr)(cn cf cx cp cs:Nat)(M:SMach)(w:World)(h:RMach w an af ax ap aS cn cf cx cp cs M)(hsm:SmallC M):
 Calls prog 24 #[machV an af ax ap aS M cn cf cx cp cs] w fun e w'=>∃D vN vF vX vP sS X P O,e=.returned (.agg #[vN,vF,vX,vP,sl M.sunk sS])/\(∀vI vM,Raw w' D O ⟨M,vN,vF,vX,vP,vI,vM,sS,X,P⟩)/\w.heap.size<=D/\Bq w w':=by
 obtain⟨rN0,hrN,Uz,Yk,Yl⟩:=bT9 h.nodes;have hlN:rN0.length=M.ns.length:=by rw[<- hrN,qS]
 have HCN:=qH (show ∀W,Bq w W->Calls prog 67 #[.slice an M.ns.length cn] W fun e w'=>∃v',e=.returned v'/\w'.ownsRow W.heap.size 57 8 v' M.ns.length (D4 rN0)/\Bq W w' from fun W hW=>bb7 an M.ns.length cn (D4 rN0) W (by rw[ah5,hlN]) hsm.ns Yl (fun a ha j u hu=>(hW.cell (bLt w _ (Uz a ha j u hu))).trans (Uz a ha j u hu)) (aS5 rN0));have Ym:=qH Yk;have HRN:=qH hrN;have HM:=qH h;have HSM:=qH hsm;unfold machV;obtain⟨NN,hNN⟩:=qE M.ns.length;obtain⟨NF,hNF⟩:=qE M.fs.length;obtain⟨NX,hNX⟩:=qE M.pipes.length;obtain⟨NP,hNP⟩:=qE M.ps.length;obtain⟨NS,hNS⟩:=qE M.sunk.length;have HL:Hid (NN=M.ns.length/\NF=M.fs.length/\NX=M.pipes.length/\NP=M.ps.length/\NS=M.sunk.length):=⟨hNN,hNF,hNX,hNP,hNS⟩;rw[<- hNN,<- hNF,<- hNX,<- hNP,<- hNS];rw[<- hNN]at HCN;clear h hsm hrN Uz Yk Yl hlN hNN hNF hNX hNP hNS;go_enter func24,ntmps24;go_wp2_with fail;obtain⟨W0,hW0⟩:=qE ((w.alloc (.cells #[.slice an NN cn,.slice af NF cf,.slice ax NX cx,.slice ap NP cp,.slice aS NS cs] 30)).alloc (.cells #[.slice none 0 0,.slice none 0 0,.slice none 0 0,.slice none 0 0,.slice none 0 0] 30));rw[<- hW0];have hB0:Bq w W0:=by rw[hW0];exact ((Below.refl _ w).alloc (qA _) _).alloc (by simp) _
 have hS0:W0.heap.size=w.heap.size+2:=by rw[hW0];simp
 have hX0:BX W0 w.heap.size (.slice an NN cn) (.slice af NF cf) (.slice ax NX cx) (.slice ap NP cp) (.slice aS NS cs):=by
  rw[hW0];refine⟨?_,?_⟩
  . rw[heap_alloc_old _ _ (by simp)];exact qJ _ _
  . have:=qJ (w.alloc (.cells #[.slice an NN cn,.slice af NF cf,.slice ax NX cx,.slice ap NP cp,.slice aS NS cs] 30)) (.cells #[.slice none 0 0,.slice none 0 0,.slice none 0 0,.slice none 0 0,.slice none 0 0] 30);simpa using this
 have Nv:∀(w1:World)(v:Value),Bq W0 w1->w1.ownsRow W0.heap.size 57 8 v NN (D4 rN0)->NO w1 (w.heap.size+2) w.heap.size (brX w.heap.size) 57 v rN0:=by
  intro w1 v hb1 Ab;have hlN:rN0.length=NN:=by rw[HL.o.1,<- HRN.o,qS]
  refine⟨by rw[hlN,<- hS0];exact Ab,fun r hr=>?_,fun e=>?_⟩
  .
   have hrp:=Ym.o r hr;refine⟨hrp.below (hB0.trans (hb1.mono hB0.size)),fun hn a ha hfs=>?_⟩;rw[ha]at hrp;have hlt:=ay6 hrp hn;rcases hfs with e | e | e
   . omega
   . have:=(Ab.lt _ e).1;omega
   . have e':a.block=w.heap.size+1:=e;omega
  . have:=(Ab.lt _ e).1;omega
 have Yn:Hid _:=Nv;have HB0:=qH hB0;have HS0:=qH hS0;have HX0:=qH hX0;clear Nv hB0 hS0 hX0 hW0 Ym;refine qD (HCN.o W0 HB0.o) ?_;rintro e w1⟨vN,rfl,Ab,hb1⟩;have hNO:=Yn.o w1 vN hb1 Ab;obtain⟨⟨aN,cN,rfl,Va,Ju⟩,_⟩:=g8 Ab;have Yo:cN<=9223372036854775807:=by unfold maxLen at Ju;exact Ju
 have hX1:=BX.below HX0.o hb1;have HX1:Hid (BX (w1.setCell ⟨w.heap.size,0,none⟩ (.slice aN NN cN)) w.heap.size (.slice aN NN cN) (.slice af NF cf) (.slice ax NX cx) (.slice ap NP cp) (.slice aS NS cs)):=BX.set hX1.1 hX1.2 rfl;have Yp:=qH (show ∃rN,NO (w1.setCell ⟨w.heap.size,0,none⟩ (.slice aN NN cN)) (w.heap.size+2) w.heap.size (brX w.heap.size) 57 (.slice aN NN cN) rN/\rN.map (·.1)=M.ns from ⟨rN0,hNO.set rfl,HRN.o⟩);have HB1:Hid (Bq w (w1.setCell ⟨w.heap.size,0,none⟩ (.slice aN NN cN))):=(HB0.o.trans (hb1.mono (by have:=HS0.o;omega))).setCell (qA _) _;obtain⟨x0,x1,x2,x3,x4,xf⟩:=i8 hX1.1;have xf0:=xf 0;clear hNO Ab hb1 hX1 HCN Yn HX0 xf Ju HRN HS0 HB0;go_wp2_with fail;clear x0 x1 x2 x3 x4 xf0;generalize hw1s:w1.setCell ⟨w.heap.size,0,none⟩ (.slice aN NN cN)=w1s at *;clear hw1s;go_loopw [21] (fun z wr=>∃k:Nat,k<=NN/\z=.int .i64 k/\Hid (BX wr w.heap.size (.slice aN NN cN) (.slice af NF cf) (.slice ax NX cx) (.slice ap NP cp) (.slice aS NS cs))/\Hid (Bq w wr)/\Hid (∃rN,NO wr (w.heap.size+2) w.heap.size (brX w.heap.size) 57 (.slice aN NN cN) rN/\rN.map (·.1)=M.ns)) (fun z _=>NN-(intOf z).toNat)
 case atStart=>exact⟨0,qM _,rfl,HX1,HB1,Yp⟩
 case round=>
  obtain⟨k,hk,rfl,hBX,Aa,Bz⟩:=hrel;clear HX1 HB1 Yp;by_cases hlt:k<NN
  .
   obtain⟨rN,hNO,Dv⟩:=Bz.o;clear Bz;have Vb:=qH Dv;have hrl:rN.length=NN:=by rw[HL.o.1,<- Dv,qS]
   obtain⟨rr,hr⟩:∃rr,rN[k]?=some rr:=⟨_,gEl qO⟩;obtain⟨_,Bj⟩:=g8 hNO.own;obtain⟨gN,cN',e1,_,_,hgN,hcells,Fp⟩:=Bj qO;injection e1 with e1 e2 e3;subst e1;have Ac:∀i,i<8->wr.cell? ⟨gN,k*8+i,none⟩=(encN rr)[i]?:=fun i hi=>by rw[hcells _ qO];exact ac0 rN k rr hr i hi
   have c0:=Ac 0 qO;have c1:=Ac 1 qO;have c2:=Ac 2 qO;have c3:=Ac 3 qO;have c4:=Ac 4 qO;have c5:=Ac 5 qO;have c6:=Ac 6 qO;have c7:=Ac 7 qO;have f7:=Fp (k*8+7);simp only[encN,qq,xO,Nat.add_zero]at c0 c1 c2 c3 c4 c5 c6 c7;have Vd:w.heap.size+2<=gN:=by have:=(hNO.own.lt gN rfl).1;exact this
   have HNO:Hid _:=hNO;have HR:=qH hr;have En:=hNO.good rr (mGt hr);have Ve:rr.1.ins.length<=100000:=HSM.o.ins rr.1 (by rw[<- Dv];exact xA.2 ⟨rr,mGt hr,rfl⟩);obtain⟨x0,x1,x2,x3,x4,xf⟩:=i8 hBX.out.1;obtain⟨nd,ai,ci⟩:=rr;simp only at c0 c1 c2 c3 c4 c5 c6 c7 En Ve;have hCP:∀W,Bq wr W->W.cell? ⟨wr.heap.size,7,none⟩=some (.slice ai nd.ins.length ci)->Calls prog 68 #[.slice ai nd.ins.length ci] W fun e w'=>∃a2 c2,e=.returned (.slice a2 nd.ins.length c2)/\w'.cell? ⟨w.heap.size,0,none⟩=some (.slice (some ⟨gN,0,none⟩) NN cN)/\w'.cell? ⟨wr.heap.size,7,none⟩=some (.slice ai nd.ins.length ci)/\w'.cell? ⟨gN,k*8+7,none⟩=some (.slice ai nd.ins.length ci)/\w'.frozen? ⟨gN,k*8+7,none⟩=false/\Hid (D5 w' (.slice a2 nd.ins.length c2) nd.ins/\(∀a,a2=some a->wr.heap.size<=a.block)/\Bq wr w'):=by
    intro W hW h7;refine (bw9 ai ci nd.ins W (En.1.below hW) Ve).mono ?_;rintro e w'⟨a2,c2,rfl,hrp,Bi,hb⟩;have hB:=hW.trans (hb.mono hW.size);refine⟨a2,c2,rfl,qC hB x0,qC hb h7,qC hB c7,?_,⟨hrp,fun a ha=>?_,hB⟩⟩
    . have:=hB.block gN hgN;simp only[World.frozen?]at f7 ⊢;rw[this];exact f7
    . have:=Bi a ha;have:=hW.size;omega
   have HCP:Hid _:=hCP;obtain⟨IL,hIL⟩:=qE nd.ins.length;have HIL:=qH hIL;rw[<- hIL]at HCP c7;generalize nd.kind=n0,(⟨nd.file.toArray⟩:ByteArray)=n1,nd.c.kind=n2,(⟨nd.c.word.toArray⟩:ByteArray)=n3,nd.c.n=n4,nd.how=n5,nd.wide=n6 at *;clear hCP hNO Dv hr Bj hcells Fp Ac En Ve x1 x2 x3 x4 xf hIL e2 e3 hrl;go_wp2_with fail;have q1:gN≠w.heap.size:=qO;have q2:w.heap.size≠gN:=qO;have q3:gN≠wr.heap.size:=qO;have q4:wr.heap.size≠gN:=qO;go_region_held3 (fun W=>W.cell? ⟨w.heap.size,0,none⟩=some (.slice (some ⟨gN,0,none⟩) NN cN)/\W.cell? ⟨wr.heap.size,7,none⟩=some (.slice ai IL ci)) (go_keep) (first|(go_at_call 68;refine qD (HCP.o _ ?_ ?_) ?_;(repeat (first|exact boxE | refine Below.drew ?_));(simp[*]);rintro e w2⟨a2,d2,rfl,y0,y7,z7,zf,hh⟩))
   obtain⟨Nw,Iz,hB2⟩:=hh.out
   have HNO2:=qH (show ∃rN,NO (w2.setCell ⟨gN,k*8+7,none⟩ (.slice a2 IL d2)) (w.heap.size+2) w.heap.size (brX w.heap.size) 57 (.slice (some ⟨gN,0,none⟩) NN cN) rN/\rN.map (·.1)=M.ns from by
    have h1:=HNO.o.below hB2
    have h2:=NO.setIn h1 (r':=(nd,a2,d2)) HR.o rfl ⟨(by have h5:=Nw;rw[HIL.o]at h5;exact h5),fun hn a ha hfs=>by
     have h3:=Iz a ha
     rcases hfs with e | e | e
     . have:=Aa.o.size
       omega
     . injection e with e
       omega
     . have e':a.block=w.heap.size+1:=e
       have:=BX.lt hBX.out
       omega⟩
    have e3:(Value.slice a2 IL d2)=.slice a2 nd.ins.length d2:=by rw[HIL.o]
    rw[e3]
    exact⟨rN.set k (nd,a2,d2),h2,(ca9 (r':=(nd,a2,d2)) HR.o rfl).trans Vb.o⟩)
   have Eo:Hid (BX (w2.setCell ⟨gN,k*8+7,none⟩ (.slice a2 IL d2)) w.heap.size (.slice (some ⟨gN,0,none⟩) NN cN) (.slice af NF cf) (.slice ax NX cx) (.slice ap NP cp) (.slice aS NS cs)):=BX.other (BX.below hBX.out hB2) (by show w.heap.size+1<gN;omega);have Jv:Hid (Bq w (w2.setCell ⟨gN,k*8+7,none⟩ (.slice a2 IL d2))):=(qT Aa hB2).out.setCell (by show w.heap.size<=gN;omega) _;clear hh Nw Iz hB2 y0 y7 z7 zf HCP q1 q2 q3 q4 c0 c1 c2 c3 c4 c5 c6 c7;go_wp2_with fail;go_roundw
   case rel=>exact⟨k+1,qO,by go_num,Eo,Jv,HNO2⟩
   case measure=>simp[intOf];omega
  .
   have HW1:=qH Bz;clear Bz;obtain⟨rF0,hrF,Vf,Yq,Yr⟩:=bU0 HM.o.files;have hlF:rF0.length=M.fs.length:=by rw[<- hrF,qS]
   have HCF:=qH (show ∀W,Bq w W->Calls prog 69 #[.slice af NF cf] W fun e w'=>∃v',e=.returned v'/\w'.ownsRow W.heap.size 59 2 v' NF (E5 rF0)/\Bq W w' from fun W hW=>by
    have:=bc5 af M.fs.length cf (E5 rF0) W (by rw[al1,hlF]) HSM.o.fs Yr (fun a ha j u hu=>(hW.cell (bLt w _ (Vf a ha j u hu))).trans (Vf a ha j u hu)) (ba7 rF0)
    rw[<- HL.o.2.1]at this
    exact this)
   have HFP:=qH Yq;have HRF:=qH hrF;have HLF:Hid (rF0.length=NF):=hlF.trans HL.o.2.1.symm;obtain⟨x0,x1,x2,x3,x4,xf⟩:=i8 hBX.out.1;have xf1:=xf 1;clear hrF Vf Yq Yr hlF x0 x2 x3 x4 xf;go_wp2_with fail;refine qD (HCF.o wr Aa.o) ?_;rintro e v1⟨vF,rfl,Ab,hb1⟩;obtain⟨⟨aF,cF,rfl,hcF1,Vg⟩,_⟩:=g8 Ab;have hcF2':cF<=9223372036854775807:=by unfold maxLen at Vg;exact Vg
   have hX1:=BX.below hBX.out hb1;have Nx:=hBX.out.lt;have HX1:Hid (BX (v1.setCell ⟨w.heap.size,1,none⟩ (.slice aF NF cF)) w.heap.size (.slice aN NN cN) (.slice aF NF cF) (.slice ax NX cx) (.slice ap NP cp) (.slice aS NS cs)):=BX.set hX1.1 hX1.2 rfl;have HB1:Hid (Bq w (v1.setCell ⟨w.heap.size,1,none⟩ (.slice aF NF cF))):=(Aa.o.trans (hb1.mono (by have:=Aa.o.size;omega))).setCell (qA _) _;have HO1:Hid (Off w.heap.size wr (v1.setCell ⟨w.heap.size,1,none⟩ (.slice aF NF cF))):=(Off.of_below hb1).set rfl
   have HF1:=qH (show ∃rF,FO2 (v1.setCell ⟨w.heap.size,1,none⟩ (.slice aF NF cF)) wr.heap.size w.heap.size (.slice aF NF cF) rF/\rF.map (·.1)=M.fs from by
    have hbw:Bq w v1:=Aa.o.trans (hb1.mono Aa.o.size)
    have hlo:w.heap.size+2<=wr.heap.size:=qO
    have h1:FO2 v1 wr.heap.size w.heap.size (.slice aF NF cF) rF0:=by
     refine⟨⟨by rw[HLF.o];exact Ab,fun r hr=>?_⟩,hlo,fun r hr h0 a ha=>?_⟩
     . obtain⟨q1,q2⟩:=HFP.o r hr
       refine⟨q1,q2.below hbw,fun h0 a ha e=>?_⟩
       rw[ha]at q2
       have:=ai1 q2 h0
       have:=(Ab.lt _ e).1
       omega
     . obtain⟨q1,q2⟩:=HFP.o r hr
       rw[ha]at q2
       have:=ai1 q2 h0
       omega
    exact⟨rF0,h1.off' (OffB.of ((Off.refl _ _).set rfl)),HRF.o⟩)
   obtain⟨x0,x1',x2,x3,x4,xf⟩:=i8 hX1.1;have xf1':=xf 1;have HWS:=qH (show w.heap.size+2<=wr.heap.size by omega);clear Ab hb1 hX1 HCF xf Vg HRF x0 x2 x3 x4 HFP HLF x1 xf1 Nx hBX;go_wp2_with fail;clear x1' xf1';generalize hv1s:v1.setCell ⟨w.heap.size,1,none⟩ (.slice aF NF cF)=v1s at *;clear hv1s;obtain⟨wa,hwa⟩:=qE wr;rw[<- hwa]at HO1 HWS HW1 HF1;clear Aa;clear hwa;go_loopw [43] (fun z wr=>∃k:Nat,k<=NF/\z=.int .i64 k/\Hid (BX wr w.heap.size (.slice aN NN cN) (.slice aF NF cF) (.slice ax NX cx) (.slice ap NP cp) (.slice aS NS cs))/\Hid (Bq w wr)/\Hid (Off w.heap.size wa wr)/\Hid (∃rF,FO2 wr wa.heap.size w.heap.size (.slice aF NF cF) rF/\rF.map (·.1)=M.fs)) (fun z _=>NF-(intOf z).toNat)
   case atStart=>exact⟨0,qM _,rfl,HX1,HB1,HO1,HF1⟩
   case round=>
    obtain⟨k,hk,rfl,hBX,Aa,Ah,Bz⟩:=hrel;clear HX1 HB1 HO1 HF1;by_cases hlt:k<NF
    .
     obtain⟨rF,hFO,Dv⟩:=Bz.o;clear Bz;have Vb:=qH Dv;have hrl:rF.length=NF:=by rw[HL.o.2.1,<- Dv,qS]
     obtain⟨rr,hr⟩:∃rr,rF[k]?=some rr:=⟨_,gEl qO⟩;obtain⟨_,Bj⟩:=g8 hFO.fo.own;obtain⟨gF,cF',e1,_,_,hgF,hcells,Fp⟩:=Bj qO;injection e1 with e1 e2 e3;subst e1;obtain⟨a1,a2⟩:=ae2 rF k rr hr;have c0:=hcells (k*2) qO;have c1:=hcells (k*2+1) qO;rw[a1]at c0;rw[a2]at c1;have f1:=Fp (k*2+1);have Qz:wa.heap.size<=gF:=(hFO.fo.own.lt gF rfl).1;have Vd:w.heap.size+2<=gF:=by have:=HWS.o;omega
     have HFO:=qH hFO;have HR:=qH hr;obtain⟨g1,g2,g3⟩:=hFO.fo.good rr (mGt hr);have hbl:rr.1.b.length<=100000:=HSM.o.fb rr.1 (by rw[<- Dv];exact xA.2 ⟨rr,mGt hr,rfl⟩);obtain⟨x0,x1,x2,x3,x4,xf⟩:=i8 hBX.out.1;obtain⟨fl,fa,fn,fc⟩:=rr;simp only at c0 c1 g1 g2 g3 hbl;rw[g1]at g2;have HCB:Hid _:=aW6 (bm:=w.heap.size) (j1:=1) (j2:=1) g1 g2 hbl x1 c1 f1;have HG1:=qH g1;generalize (⟨fl.name.toArray⟩:ByteArray)=n0 at *;clear hFO Dv hr Bj hcells Fp g1 g2 g3 hbl x0 x2 x3 x4 xf e2 e3 hrl a1 a2;go_wp2_with fail;have q1:gF≠w.heap.size:=qO;have q2:w.heap.size≠gF:=qO;have q3:gF≠wr.heap.size:=qO;have q4:wr.heap.size≠gF:=qO;go_region_held3 (fun W=>W.cell? ⟨w.heap.size,1,none⟩=some (.slice (some ⟨gF,0,none⟩) NF cF)/\W.cell? ⟨wr.heap.size,1,none⟩=some (.slice fa fn fc)) (go_keep) (first|(go_at_call 70;refine qD (HCB.o _ ?_ ?_) ?_;(repeat (first|exact boxE | refine Below.drew ?_));(simp[*]);rintro e w2⟨b2,d2,rfl,y0,y7,z7,zf,hh⟩))
     obtain⟨Aq,hB2⟩:=hh.out
     have HF2:=qH (show ∃rF,FO2 (w2.setCell ⟨gF,k*2+1,none⟩ (.slice b2 fn d2)) wa.heap.size w.heap.size (.slice (some ⟨gF,0,none⟩) NF cF) rF/\rF.map (·.1)=M.fs from by
      have h1:FO2 w2 wa.heap.size w.heap.size (.slice (some ⟨gF,0,none⟩) NF cF) rF:=HFO.o.off' (OffB.of (Off.of_below hB2))
      have hrd:=Reads.of_owns Aq
      have Bi:∀a,b2=some a->wr.heap.size<=a.block:=fun a ha=>by
       rcases id Aq.2 with⟨e1,h0⟩|⟨g,cap,cur,e1,hb,_⟩
       . injection e1 with e1
         rw[ha]at e1
         cases e1
       . injection e1 with e1
         rw[ha]at e1
         injection e1 with e1
         subst e1
         exact hb
      have h2:ax7 w2 (some gF) (fl,b2,fn,d2):=⟨HG1.o,by show Reads w2 (.slice b2 fn d2) _ _;rw[HG1.o]at hrd ⊢;exact hrd,fun h0 a ha he=>by
       have:=Bi a ha
       injection he with he
       omega⟩
      refine⟨_,⟨h1.fo.set HR.o (r':=(fl,b2,fn,d2)) rfl h2,h1.lo,fun r hr h0 a ha=>?_⟩,(bU2 (r':=(fl,b2,fn,d2)) HR.o rfl).trans Vb.o⟩
      rcases zS hr with hr | rfl
      . exact h1.good r hr h0 a ha
      . have:=Bi a ha
        have:=BX.lt hBX.out
        omega)
     have Eo:Hid (BX (w2.setCell ⟨gF,k*2+1,none⟩ (.slice b2 fn d2)) w.heap.size (.slice aN NN cN) (.slice (some ⟨gF,0,none⟩) NF cF) (.slice ax NX cx) (.slice ap NP cp) (.slice aS NS cs)):=BX.other (BX.below hBX.out hB2) (by show w.heap.size+1<gF;omega);have Jv:Hid (Bq w (w2.setCell ⟨gF,k*2+1,none⟩ (.slice b2 fn d2))):=(qT Aa hB2).out.setCell (by show w.heap.size<=gF;omega) _;have Ny:Hid (Off w.heap.size wa (w2.setCell ⟨gF,k*2+1,none⟩ (.slice b2 fn d2))):=(Ah.o.trans (Off.of_below hB2)).setNew Qz;clear hh Aq hB2 y0 y7 z7 zf HCB q1 q2 q3 q4 c0 c1;go_wp2_with fail;go_roundw
     case rel=>exact⟨k+1,qO,by go_num,Eo,Jv,Ny,HF2⟩
     case measure=>simp[intOf];omega
    .
     have HW2:=qH Bz;clear Bz;obtain⟨X0,hXl,hXc,hXr,Ys⟩:=bm2 HM.o.pipes
     have HCX:=qH (show ∀W,Bq w W->Calls prog 71 #[.slice ax NX cx] W fun e w'=>∃v',e=.returned v'/\w'.ownsRow W.heap.size 61 4 v' NX (A9 M.pipes X0).flatten/\Bq W w' from fun W hW=>by
      have:=bb9 ax M.pipes.length cx (A9 M.pipes X0).flatten W (by rw[ah2 _ (N7 _ _)];unfold A9;rw[xZ,hXl,Nat.min_self]) HSM.o.xs Ys (fun a ha j u hu=>(hW.cell (bLt w _ (hXc a ha j u hu))).trans (hXc a ha j u hu)) (bd5 _ _)
      rw[<- HL.o.2.2.1]at this
      exact this)
     have HXR:=qH hXr;have HXL:=qH hXl;obtain⟨x0,x1,x2,x3,x4,xf⟩:=i8 hBX.out.1;have xf2:=xf 2;clear hXl hXc hXr Ys x0 x1 x3 x4 xf;go_wp2_with fail;refine qD (HCX.o wr Aa.o) ?_;rintro e v2⟨vX,rfl,Ab,hb1⟩;obtain⟨⟨aX,cX,rfl,Fz,Fo⟩,_⟩:=g8 Ab;have hcX2':cX<=9223372036854775807:=by unfold maxLen at Fo;exact Fo
     have hX1:=BX.below hBX.out hb1;have Nx:=hBX.out.lt;have HX1:Hid (BX (v2.setCell ⟨w.heap.size,2,none⟩ (.slice aX NX cX)) w.heap.size (.slice aN NN cN) (.slice aF NF cF) (.slice aX NX cX) (.slice ap NP cp) (.slice aS NS cs)):=BX.set hX1.1 hX1.2 rfl;have HB1:Hid (Bq w (v2.setCell ⟨w.heap.size,2,none⟩ (.slice aX NX cX))):=(Aa.o.trans (hb1.mono (by have:=Aa.o.size;omega))).setCell (qA _) _;have HO1:Hid (Off w.heap.size wr (v2.setCell ⟨w.heap.size,2,none⟩ (.slice aX NX cX))):=(Off.of_below hb1).set rfl
     have HP1:=qH (show ∃X O,PT w (v2.setCell ⟨w.heap.size,2,none⟩ (.slice aX NX cX)) wr.heap.size (.slice aX NX cX) M.pipes 0 X O/\OLo O wr.heap.size (v2.setCell ⟨w.heap.size,2,none⟩ (.slice aX NX cX))/\NoBA O from by
      refine⟨X0,rowO (.slice aX NX cX) .pipes noO,⟨?_,aL6 _ _ _,HXL.o,fun q x s hq=>absurd hq qO,fun q x s _ hx hs=>HXR.o q x s hx hs⟩,bd6 (bd7 _ wr) (fun g hg=>?_) ?_,az2 bd8 (by simp) (by simp)⟩
      . rw[<- HL.o.2.2.1]
        refine j5 Ab (fun g hg=>Below.heap_setCell _ _ _ _ (fun e=>?_))
        have:=(Ab.lt g hg).1
        have e':g=w.heap.size:=e
        omega
      . rw[show (v2.setCell ⟨w.heap.size,2,none⟩ (.slice aX NX cX)).heap.size=v2.heap.size by simp]
        exact Ab.lt g hg
      . rw[show (v2.setCell ⟨w.heap.size,2,none⟩ (.slice aX NX cX)).heap.size=v2.heap.size by simp]
        exact hb1.size)
     obtain⟨x0,x1,x2',x3,x4,xf⟩:=i8 hX1.1;have xf2':=xf 2;have Ln:=qH (show w.heap.size+2<=wr.heap.size by omega);clear Ab hb1 hX1 HCX xf Fo x0 x1 x3 x4 HXR HXL x2 xf2 Nx hBX hlt;go_wp2_with fail;clear x2' xf2';generalize hv2s:v2.setCell ⟨w.heap.size,2,none⟩ (.slice aX NX cX)=v2s at *;clear hv2s;obtain⟨wb,hwb⟩:=qE wr;rw[<- hwb]at HO1 Ln HW2 HP1 Ah;have HOAB:=qH Ah;clear Aa Ah;clear hwb;go_loopw [64] (fun z wr=>∃k:Nat,k<=NX/\z=.int .i64 k/\Hid (BX wr w.heap.size (.slice aN NN cN) (.slice aF NF cF) (.slice aX NX cX) (.slice ap NP cp) (.slice aS NS cs))/\Hid (Bq w wr)/\Hid (Off w.heap.size wb wr)/\Hid (∃X O,PT w wr wb.heap.size (.slice aX NX cX) M.pipes k X O/\OLo O wb.heap.size wr/\NoBA O)) (fun z _=>NX-(intOf z).toNat)
     case atStart=>exact⟨0,qM _,rfl,HX1,HB1,HO1,HP1⟩
     case round=>
      obtain⟨k,hk,rfl,hBX,Aa,Ah,Bz⟩:=hrel;clear HX1 HB1 HO1 HP1;by_cases hlt:k<NX
      .
       obtain⟨X,O,hPT,hlo,hnb⟩:=Bz.o;clear Bz;obtain⟨x,hx⟩:∃x,M.pipes[k]?=some x:=⟨_,gEl (by have:=HL.o.2.2.1;omega)⟩;obtain⟨s,hs⟩:∃s,X[k]?=some s:=⟨_,gEl (by have:=hPT.len;have:=HL.o.2.2.1;omega)⟩;have Ab:=hPT.own;rw[<- HL.o.2.2.1]at Ab;obtain⟨_,Bj⟩:=g8 Ab;obtain⟨gX,cX',e1,_,_,hgX,hcells,Fp⟩:=Bj qO;injection e1 with e1 e2 e3;subst e1;have Ap:(A9 M.pipes X)[k]?=some (P7 x s):=Z2 hx hs;have hat:=aa2 _ k _ (N7 M.pipes X) Ap;have c0:=(hcells (k*4) qO).trans (hat 0 qO);have c1:=(hcells (k*4+1) qO).trans (hat 1 qO);have c2:=(hcells (k*4+2) qO).trans (hat 2 qO);have c3:=(hcells (k*4+3) qO).trans (hat 3 qO);simp only[P7,qq,xO]at c0 c1 c2 c3;have f0:=Fp (k*4);have Qz:wb.heap.size<=gX:=(Ab.lt gX rfl).1;have Vd:w.heap.size+2<=gX:=by have:=Ln.o;omega
       have HPT:=qH hPT;have HLO:=qH hlo;have HNB:=qH hnb;have HX:=qH hx;have hrd:=(hPT.rest k x s (qA _) hx hs).below Aa.o;have hbl:x.b.length<=100000:=HSM.o.xb x (mGt hx);obtain⟨x0,x1,x2,x3,x4,xf⟩:=i8 hBX.out.1;unfold sl at c0 hrd;obtain⟨fa,fc⟩:=s;simp only at c0 hrd;obtain⟨BL,hBL⟩:=qE x.b.length;have HBL:=qH hBL;rw[<- hBL]at c0;have HCB:Hid _:=aW6 (bm:=w.heap.size) (j1:=2) (j2:=0) hBL hrd hbl x2 c0 f0;generalize x.room=n1,x.closed=n2,x.shut=n3 at *;clear hPT hlo hnb hx hs Bj hcells Fp hrd hbl x0 x1 x3 x4 xf e2 e3 Ap hat Ab hBL;go_wp2_with fail;have q1:gX≠w.heap.size:=qO;have q2:w.heap.size≠gX:=qO;have q3:gX≠wr.heap.size:=qO;have q4:wr.heap.size≠gX:=qO;go_region_held3 (fun W=>W.cell? ⟨w.heap.size,2,none⟩=some (.slice (some ⟨gX,0,none⟩) NX cX)/\W.cell? ⟨wr.heap.size,0,none⟩=some (.slice fa BL fc)) (go_keep) (first|(go_at_call 70;refine qD (HCB.o _ ?_ ?_) ?_;(repeat (first|exact boxE | refine Below.drew ?_));(simp[*]);rintro e w2⟨b2,d2,rfl,y0,y7,z7,zf,hh⟩))
       obtain⟨Aq,hB2⟩:=hh.out
       have HP2:=qH (show ∃X O,PT w (w2.setCell ⟨gX,k*4,none⟩ (.slice b2 BL d2)) wb.heap.size (.slice (some ⟨gX,0,none⟩) NX cX) M.pipes (k+1) X O/\OLo O wb.heap.size (w2.setCell ⟨gX,k*4,none⟩ (.slice b2 BL d2))/\NoBA O from by
        rw[HBL.o]at Aq
        obtain⟨s2,h1,h2⟩:=PT.step HL.o.2.2.1 HPT.o HLO.o (by have:=Ah.o.size;omega) HX.o hB2 Aq
        rw[<- HBL.o]at h1 h2
        exact⟨_,_,h1,h2,HNB.o.add _ _ (by simp) (by simp)⟩)
       have Eo:Hid (BX (w2.setCell ⟨gX,k*4,none⟩ (.slice b2 BL d2)) w.heap.size (.slice aN NN cN) (.slice aF NF cF) (.slice (some ⟨gX,0,none⟩) NX cX) (.slice ap NP cp) (.slice aS NS cs)):=BX.other (BX.below hBX.out hB2) (by show w.heap.size+1<gX;omega);have Jv:Hid (Bq w (w2.setCell ⟨gX,k*4,none⟩ (.slice b2 BL d2))):=(qT Aa hB2).out.setCell (by show w.heap.size<=gX;omega) _;have Ny:Hid (Off w.heap.size wb (w2.setCell ⟨gX,k*4,none⟩ (.slice b2 BL d2))):=(Ah.o.trans (Off.of_below hB2)).setNew Qz;clear hh Aq hB2 y0 y7 z7 zf HCB q1 q2 q3 q4 c0 c1 c2 c3;go_wp2_with fail;go_roundw
       case rel=>exact⟨k+1,qO,by go_num,Eo,Jv,Ny,HP2⟩
       case measure=>simp[intOf];omega
      .
       obtain⟨X9,O9,Lo,Yt,Yu⟩:=Bz.o
       have Yv:Hid (PT w wr wb.heap.size (.slice aX NX cX) M.pipes NX X9 O9):=(show PT w wr wb.heap.size (.slice aX NX cX) M.pipes NX X9 O9 from by
        have e:k=NX:=qO
        rw[e]at Lo
        exact Lo)
       have Nz:=qH Yt;have HNB9:=qH Yu;clear Bz Lo Yt Yu;obtain⟨P0,hPl,hPc,hPr,Yw,hP1⟩:=bm3 HM.o.procs
       have HCX:=qH (show ∀W,Bq w W->Calls prog 72 #[.slice ap NP cp] W fun e w'=>∃v',e=.returned v'/\w'.ownsRow W.heap.size 64 5 v' NP (l9 M.ps P0).flatten/\Bq W w' from fun W hW=>by
        have:=bc4 ap M.ps.length cp (l9 M.ps P0).flatten W (by rw[ah2 _ (J3 _ _)];unfold l9;rw[xZ,hPl,Nat.min_self]) HSM.o.ps Yw (fun a ha j u hu=>(hW.cell (bLt w _ (hPc a ha j u hu))).trans (hPc a ha j u hu)) hP1
        rw[<- HL.o.2.2.2.1]at this
        exact this)
       have HPR:=qH hPr;have HPL:=qH hPl;obtain⟨x0,x1,x2,x3,x4,xf⟩:=i8 hBX.out.1;have xf3:=xf 3;clear hPl hPc hPr Yw hP1 x0 x1 x2 x4 xf;go_wp2_with fail;refine qD (HCX.o wr Aa.o) ?_;rintro e v3⟨vP,rfl,Ab,hb1⟩;obtain⟨⟨aP,cP,rfl,Db,Dw⟩,_⟩:=g8 Ab;have Yx:cP<=9223372036854775807:=by unfold maxLen at Dw;exact Dw
       have hX1:=BX.below hBX.out hb1;have Nx:=hBX.out.lt;have hws:=Ah.o.size;have HX1:Hid (BX (v3.setCell ⟨w.heap.size,3,none⟩ (.slice aP NP cP)) w.heap.size (.slice aN NN cN) (.slice aF NF cF) (.slice aX NX cX) (.slice aP NP cP) (.slice aS NS cs)):=BX.set hX1.1 hX1.2 rfl;have HB1:Hid (Bq w (v3.setCell ⟨w.heap.size,3,none⟩ (.slice aP NP cP))):=(Aa.o.trans (hb1.mono (by have:=Aa.o.size;omega))).setCell (qA _) _;have HO1:Hid (Off w.heap.size wr (v3.setCell ⟨w.heap.size,3,none⟩ (.slice aP NP cP))):=(Off.of_below hb1).set rfl
       have HP1:=qH (show ∃P O,QT w (v3.setCell ⟨w.heap.size,3,none⟩ (.slice aP NP cP)) wb.heap.size (.slice aP NP cP) M.ps 0 P O/\OLo O wb.heap.size (v3.setCell ⟨w.heap.size,3,none⟩ (.slice aP NP cP))/\NoBA O/\∀g o,O9 g=some o->O g=some o from by
        refine⟨P0,rowO (.slice aP NP cP) .procs O9,⟨?_,aL6 _ _ _,HPL.o,fun q x s hq=>absurd hq qO,fun q x s _ hx hs=>HPR.o q x s hx hs⟩,bd6 Nz.o (fun g hg=>?_) ?_,az2 HNB9.o (by simp) (by simp),bU3 Nz.o (fun g hg=>(Ab.lt g hg).1)⟩
        . rw[<- HL.o.2.2.2.1]
          refine j5 (ad3 Ab hws) (fun g hg=>Below.heap_setCell _ _ _ _ (fun e=>?_))
          have:=(Ab.lt g hg).1
          have e':g=w.heap.size:=e
          omega
        . rw[show (v3.setCell ⟨w.heap.size,3,none⟩ (.slice aP NP cP)).heap.size=v3.heap.size by simp]
          have:=Ab.lt g hg
          omega
        . rw[show (v3.setCell ⟨w.heap.size,3,none⟩ (.slice aP NP cP)).heap.size=v3.heap.size by simp]
          exact hb1.size)
       obtain⟨x0,x1,x2,x3',x4,xf⟩:=i8 hX1.1;have xf3':=xf 3;have HWS3:=qH (show w.heap.size+2<=wr.heap.size by omega);have HGP:=qH (show ∀g,(Value.slice aP NP cP).ownBlock=some g->wr.heap.size<=g from fun g hg=>(Ab.lt g hg).1);clear Ab hb1 hX1 HCX xf Dw x0 x1 x2 x4 HPR HPL x3 xf3 Nx hBX hlt hws;go_wp2_with fail;clear x3' xf3';generalize hv3s:v3.setCell ⟨w.heap.size,3,none⟩ (.slice aP NP cP)=v3s at *;clear hv3s;obtain⟨wc,hwc⟩:=qE wr;rw[<- hwc]at HO1 HWS3 Yv Nz Ah HGP;have Vh:=qH Ah;clear Aa Ah;clear hwc;go_loopw [85] (fun z wr=>∃k:Nat,k<=NP/\z=.int .i64 k/\Hid (BX wr w.heap.size (.slice aN NN cN) (.slice aF NF cF) (.slice aX NX cX) (.slice aP NP cP) (.slice aS NS cs))/\Hid (Bq w wr)/\Hid (Off w.heap.size wc wr)/\Hid (∃P O,QT w wr wb.heap.size (.slice aP NP cP) M.ps k P O/\OLo O wb.heap.size wr/\NoBA O/\∀g o,O9 g=some o->O g=some o)) (fun z _=>NP-(intOf z).toNat)
       case atStart=>exact⟨0,qM _,rfl,HX1,HB1,HO1,HP1⟩
       case round=>
        obtain⟨k,hk,rfl,hBX,Aa,Ah,Bz⟩:=hrel;clear HX1 HB1 HO1 HP1;by_cases hlt:k<NP
        .
         obtain⟨P,O,hQT,hlo,hnb,hO9⟩:=Bz.o;clear Bz;obtain⟨p,hp⟩:∃p,M.ps[k]?=some p:=⟨_,gEl (by have:=HL.o.2.2.2.1;omega)⟩;obtain⟨s,hs⟩:∃s,P[k]?=some s:=⟨_,gEl (by have:=hQT.len;have:=HL.o.2.2.2.1;omega)⟩;have Ab:=hQT.own;rw[<- HL.o.2.2.2.1]at Ab;obtain⟨_,Bj⟩:=g8 Ab;obtain⟨gP,cP',e1,_,_,hgP,hcells,Fp⟩:=Bj qO;injection e1 with e1 e2 e3;subst e1;have Ap:(l9 M.ps P)[k]?=some (F7 p s):=Z2 hp hs;have hat:=aa2 _ k _ (J3 M.ps P) Ap;have c0:=(hcells (k*5) qO).trans (hat 0 qO);have c1:=(hcells (k*5+1) qO).trans (hat 1 qO);have c2:=(hcells (k*5+2) qO).trans (hat 2 qO);have c3:=(hcells (k*5+3) qO).trans (hat 3 qO);have c4:=(hcells (k*5+4) qO).trans (hat 4 qO);simp only[F7,qq,xO]at c0 c1 c2 c3 c4;have f0:=Fp (k*5);have f2:=Fp (k*5+2);obtain⟨hrg,hro⟩:=hQT.rest k p s (qA _) hp hs;obtain⟨ag,cg,hgv,_,_⟩:=hrg.shape;obtain⟨ab,cb,hov,_,_⟩:=hro.shape;rw[hgv]at c0 hrg;rw[hov]at c2 hro;have Qz:wb.heap.size<=gP:=(Ab.lt gP rfl).1;have Yy:wc.heap.size<=gP:=HGP.o gP rfl;have Vd:w.heap.size+2<=gP:=by have:=Ln.o;omega
         obtain⟨q1,q2,q3,q4⟩:=HSM.o.pl p (mGt hp);obtain⟨x0,x1,x2,x3,x4,xf⟩:=i8 hBX.out.1;obtain⟨GL,hGL⟩:=qE p.got.length;obtain⟨OL,hOL⟩:=qE p.out.length;have HGL:=qH hGL;have HOL:=qH hOL;rw[<- hGL]at c0;rw[<- hOL]at c2;have HC1:Hid _:=aW7 (bm:=w.heap.size) (j1:=3) (g:=gP) (o1:=k*5) (o2:=k*5+2) (u1:=.slice ag GL cg) (u2:=.slice ab OL cb) (.gots k) (Own.got k) (by simp) hGL (hrg.below Aa.o) q1 q3 x3 c0 f0 c2 f2;have HC2:Hid _:=aW7 (bm:=w.heap.size) (j1:=3) (g:=gP) (o1:=k*5) (o2:=k*5+2) (u1:=.slice ag GL cg) (u2:=.slice ab OL cb) (.outs k) (Own.out k) (by simp) hOL (hro.below Aa.o) q2 q4 x3 c0 f0 c2 f2;have HQT:=qH hQT;have HLO:=qH hlo;have HNB:=qH hnb;have HO9:=qH hO9;have HP:=qH hp;generalize p.pos=n1,p.rd=n3,p.ov=n4 at *;clear hQT hlo hnb hO9 hp hs Bj hcells Fp hrg hro x0 x1 x2 x4 xf e2 e3 Ap hat Ab hGL hOL q1 q2 q3 q4 hgv hov;go_wp2_with fail;have q1:gP≠w.heap.size:=qO;have q2:w.heap.size≠gP:=qO;have q3:gP≠wr.heap.size:=qO;have q4:wr.heap.size≠gP:=qO;go_region_held3 (fun W=>W.cell? ⟨w.heap.size,3,none⟩=some (.slice (some ⟨gP,0,none⟩) NP cP)/\W.cell? ⟨wr.heap.size,0,none⟩=some (.slice ag GL cg)/\W.cell? ⟨wr.heap.size,2,none⟩=some (.slice ab OL cb)) (go_keep) (first|(go_at_call_of 73 (Value.slice ag GL cg);refine qD (HC1.o _ ?_ ?_ ?_) ?_;(first|(repeat (first|exact boxE | refine Below.drew ?_)) | assumption);(simp[*]);(simp[*]);rintro e w2⟨a2,d2,rfl,y0,y1,y2,z0,zf0,z2,zf2,hh1,hh2,hh3⟩)|(go_at_call_of 73 (Value.slice ab OL cb);refine qD (HC2.o _ ?_ ?_ ?_) ?_;(exact Hid.o hh3);(simp[*]);(simp[*]);rintro e w3⟨a3,d3,rfl,y0',y1',y2',z0',zf0',z2',zf2',Oa,Ob,Oc⟩))
         have hB2:=hh3.out;have Gy:=Ob.o;have hB3:=Oc.o
         have HQ2:=qH (show ∃P O,QT w ((w3.setCell ⟨gP,k*5,none⟩ (.slice a2 GL d2)).setCell ⟨gP,k*5+2,none⟩ (.slice a3 OL d3)) wb.heap.size (.slice (some ⟨gP,0,none⟩) NP cP) M.ps (k+1) P O/\OLo O wb.heap.size ((w3.setCell ⟨gP,k*5,none⟩ (.slice a2 GL d2)).setCell ⟨gP,k*5+2,none⟩ (.slice a3 OL d3))/\NoBA O/\∀g o,O9 g=some o->O g=some o from by
          obtain⟨ss1,OL1,hc1,hl1,_,hv1⟩:=hh1.out
          obtain⟨ss2,OL2,hc2,_,hl2,hv2⟩:=Oa.o
          have hDr:wb.heap.size<=wr.heap.size:=by have:=Ah.o.size;have:=Vh.o.size;omega
          have Ja:=HLO.o.join hl1 hDr hB2.size
          have Jw:=Ja.join hl2 (by have:=hB2.size;omega) Gy.size
          have hQ3:=HQT.o.keep (w':=w3) (O':=N2 (N2 O OL1 wr) OL2 w2) (fun g o hg=>hB3.block g (HLO.o g o hg).2) (fun g o hg=>S8 Ja g o (S8 HLO.o g o hg))
          have hC1:=(hc1.lower hDr).keep (w':=w3) (O':=N2 (N2 O OL1 wr) OL2 w2) (fun g o hg _=>Gy.block g (hl1 g o hg).2) (fun g o hg=>S8 Ja g o (ai2 hl1 g o hg))
          have hC2:=(hc2.lower hDr).keep (w':=w3) (O':=N2 (N2 O OL1 wr) OL2 w2) (fun g o hg _=>rfl) (fun g o hg=>ai2 hl2 g o hg)
          exact⟨_,_,QT.step HL.o.2.2.2.1 hQ3 HP.o hC1 hC2,(Jw.set _ _).set _ _,(HNB.o.join hv1 ⟨by simp,by simp⟩ (fun j=>⟨by simp,by simp⟩) wr).join hv2 ⟨by simp,by simp⟩ (fun j=>⟨by simp,by simp⟩) w2,fun g o hg=>S8 Ja g o (S8 HLO.o g o (HO9.o g o hg))⟩)
         have Eo:Hid (BX ((w3.setCell ⟨gP,k*5,none⟩ (.slice a2 GL d2)).setCell ⟨gP,k*5+2,none⟩ (.slice a3 OL d3)) w.heap.size (.slice aN NN cN) (.slice aF NF cF) (.slice aX NX cX) (.slice (some ⟨gP,0,none⟩) NP cP) (.slice aS NS cs)):=BX.other (BX.other (BX.below hBX.out hB3) (by show w.heap.size+1<gP;omega)) (by show w.heap.size+1<gP;omega);have Jv:Hid (Bq w ((w3.setCell ⟨gP,k*5,none⟩ (.slice a2 GL d2)).setCell ⟨gP,k*5+2,none⟩ (.slice a3 OL d3))):=((qT Aa hB3).out.setCell (by show w.heap.size<=gP;omega) _).setCell (by show w.heap.size<=gP;omega) _;have Ny:Hid (Off w.heap.size wc ((w3.setCell ⟨gP,k*5,none⟩ (.slice a2 GL d2)).setCell ⟨gP,k*5+2,none⟩ (.slice a3 OL d3))):=((Ah.o.trans (Off.of_below hB3)).setNew Yy).setNew Yy;clear hh1 hh2 hh3 Oa Ob Oc hB2 Gy hB3 y0 y1 y2 z0 zf0 z2 zf2 y0' y1' y2' z0' zf0' z2' zf2' HC1 HC2 q1 q2 q3 q4 c0 c1 c2 c3 c4;go_wp2_with fail;go_roundw
         case rel=>exact⟨k+1,qO,by go_num,Eo,Jv,Ny,HQ2⟩
         case measure=>simp[intOf];omega
        .
         obtain⟨P9,O10,Rb,Hn,Tq,Tt⟩:=Bz.o;have e9:k=NP:=qO;rw[e9,HL.o.2.2.2.1]at Rb;rw[<- HL.o.2.2.2.1]at Rb;have hDr:wb.heap.size<=wr.heap.size:=by have:=Ah.o.size;have:=Vh.o.size;omega
         have Lo:PT w wr wb.heap.size (.slice aX NX cX) M.pipes NX X9 O10:=Yv.o.keep (fun g o hg _=>Ah.o.block g (Nz.o g o hg).2 (by have:=(Nz.o g o hg).1;have:=Ln.o;omega)) (fun g o hg=>(Tt g o hg).trans hg.symm)
         have Yz:Hid (∀(w5 wF:World)(a5:Option Addr)(c5:Nat),Bq wr w5->w5.ownsRow wr.heap.size 5 1 (.slice a5 NS c5) NS (M.sunk.map U)->OffB w.heap.size w5 wF->wF.heap.size=w5.heap.size->∃X P O,∀vI vM,Raw wF wb.heap.size O ⟨M,.slice aN NN cN,.slice aF NF cF,.slice aX NX cX,.slice aP NP cP,vI,vM,(a5,c5),X,P⟩):=(show ∀(w5 wF:World)(a5:Option Addr)(c5:Nat),_ from by
          intro w5 wF a5 c5 hb5 ho5 hF hFs
          obtain⟨rN,hNO,hNm⟩:=HW1.o
          obtain⟨rF,hFO,hFm⟩:=HW2.o
          have hb2:∀g',(Value.slice a5 NS c5).ownBlock=some g'->addO O10 wr w5 .sunk g'=some .sunk:=fun g' hg'=>by
           have:=ho5.lt g' hg'
           unfold addO
           rw[qF ⟨this.1,this.2⟩]
          rw[HL.o.2.2.2.2]at ho5
          obtain⟨s5,e5,hs5,_⟩:=SOf.of_owns ho5 (by rw[<- HL.o.2.2.2.2];exact hb2)
          unfold sl at e5
          injection e5 with e5 e6 e7
          subst e5 e7
          have hkF:∀g o,addO O10 wr w5 .sunk g=some o->wF.heap[g]?=w5.heap[g]?:=fun g o hg=>by
           have h1:=Hn.add hb5 hDr .sunk g o hg
           have:=Ln.o
           exact hF.block g h1.2 qO qO
          have hold:∀g o,O10 g=some o->addO O10 wr w5 .sunk g=some o:=fun g o hg=>(J0 (Hn g o hg).2).trans hg
          have Za:OLo (addO O10 wr w5 .sunk) wb.heap.size wF:=fun g o hg=>by
           rw[hFs]
           exact Hn.add hb5 hDr .sunk g o hg
          refine⟨X9,P9,addO O10 wr w5 .sunk,fun vI vM=>?_⟩
          have Zb:OffB w.heap.size wb wF:=by
           have h1:Off w.heap.size wb w5:=(Vh.o.trans Ah.o).trans (Off.of_below hb5)
           exact⟨hF.os.trans h1.os,hF.tape.trans h1.tape,hF.output.trans h1.output,by have:=h1.size;omega,fun k hk n1 n2=>(hF.block k (by have:=h1.size;omega) n1 n2).trans (h1.block k hk n1)⟩
          have e1:(s5.1,s5.2)=s5:=rfl
          refine ce9 (w:=w) (w2:=wb) (B:=w.heap.size+2) (B':=wa.heap.size) Za (Tq.add _ _ (by simp) (by simp)) rfl Zb (qA _) (NO.off hNO (qA _) (OffB.of HOAB.o)) hNm hFO hFm ?_ ?_ vI vM (.inl (hs5.move (fun g hg=>hkF g _ hg)))
          . have h1:=Lo.keep (w':=w5) (O':=addO O10 wr w5 .sunk) (fun g o hg _=>hb5.block g (Hn g o hg).2) (fun g o hg=>(hold g o hg).trans hg.symm)
            rw[HL.o.2.2.1]at h1
            rw[HL.o.2.2.1]
            exact h1.keep (fun g o hg _=>hkF g o hg) (fun _ _ _=>rfl)
          . have h1:=Rb.keep (w':=w5) (O':=addO O10 wr w5 .sunk) (fun g o hg=>hb5.block g (Hn g o hg).2) hold
            rw[HL.o.2.2.2.1]at h1
            rw[HL.o.2.2.2.1]
            exact h1.keep hkF (fun _ _ h=>h))
         have HCS:=qH (show Calls prog 70 #[.slice aS NS cs] wr fun e w'=>∃v',e=.returned v'/\w'.ownsRow wr.heap.size 5 1 v' NS (M.sunk.map U)/\Bq wr w' from by
          have:=bd2 aS cs M.sunk wr (HM.o.sunk.below Aa.o) HSM.o.sunk
          rw[<- HL.o.2.2.2.2]at this
          exact this)
         obtain⟨x0,x1,x2,x3,x4,xf⟩:=i8 hBX.out.1;have HDW:=qH (show w.heap.size<=wb.heap.size by have:=Ln.o;omega);clear Bz Rb Hn Tq Tt Lo hDr x0 x1 x2 x3 xf e9;go_wp2_with fail;refine qD HCS.o ?_;rintro e w5⟨vS,rfl,ho5,hb5⟩;obtain⟨⟨a5,c5,rfl,_,_⟩,_⟩:=g8 ho5;have hX5:=BX.below hBX.out hb5;obtain⟨x0,x1,x2,x3,x4',xf⟩:=i8 hX5.1;obtain⟨y0,y1,y2,y3,y4,yf⟩:=i8 hX5.2;have xf4:=xf 4;have yf0:=yf 0;have yf1:=yf 1;have yf2:=yf 2;have yf3:=yf 3;have yf4:=yf 4;have Gg:=qH (show ∀wF,OffB w.heap.size w5 wF->wF.heap.size=w5.heap.size->∃X P O,∀vI vM,Raw wF wb.heap.size O ⟨M,.slice aN NN cN,.slice aF NF cF,.slice aX NX cX,.slice aP NP cP,vI,vM,(a5,c5),X,P⟩ from fun wF h1 h2=>Yz.o w5 wF a5 c5 hb5 ho5 h1 h2);have HB5:=qT Aa hb5;clear hX5 xf yf ho5 hb5 HCS Yz x4;go_wp2_with fail;(try simp only[Exit.inBlock,Exit.then])
         refine qx (v:=.agg #[.slice aN NN cN,.slice aF NF cF,.slice aX NX cX,.slice aP NP cP,.slice a5 NS c5]) ?_ rfl ?_
         . rw[ag4 rfl];go_simp
         . obtain⟨X,P,O,hR⟩:=Gg.o ((((((w5.setCell ⟨w.heap.size,4,none⟩ (.slice a5 NS c5)).setCell ⟨w.heap.size+1,0,none⟩ (.slice aN NN cN)).setCell ⟨w.heap.size+1,1,none⟩ (.slice aF NF cF)).setCell ⟨w.heap.size+1,2,none⟩ (.slice aX NX cX)).setCell ⟨w.heap.size+1,3,none⟩ (.slice aP NP cP)).setCell ⟨w.heap.size+1,4,none⟩ (.slice a5 NS c5)) (by repeat (first|refine OffB.set ?_ rfl | exact OffB.of ((Off.refl w.heap.size w5).set rfl))) (by simp);refine⟨wb.heap.size,.slice aN NN cN,.slice aF NF cF,.slice aX NX cX,.slice aP NP cP,(a5,c5),X,P,O,?_,hR,HDW.o,?_⟩
           . unfold sl;rw[<- HL.o.2.2.2.2]
           . repeat (first|refine Below.setCell ?_ (by simp) _ | exact HB5.o)
open Go.Maps
def ab0(L:List (Int × Int))(p:Int × Int):Int:=if p∈L then (L.idxOf p:Int) else 0
theorem aW8(ns:List SNode):ab0 (b8 ns)=aV1 ns:=by funext p;unfold ab0 aV1 E9;rfl
theorem bJ3(h:p∉L):ab0 (L++[p]) p=(L.length:Int):=by unfold ab0;rw[qF (by simp),List.idxOf_append,qB h];simp
theorem bJ4(h:q≠p):ab0 (L++[p]) q=ab0 L q:=by
 unfold ab0;by_cases hq:q∈L
 . rw[qF (by simp[hq]),qF hq,List.idxOf_append,qF hq]
 . rw[qB (by simp[hq,h]),qB hq]
def K7(ns:List SNode)(k:Nat):List Value:=(List.range k).map (fun i=>.int .i64 (Gs.f9 ns i:Int))
theorem as8(ns:List SNode)(k:Nat):K7 ns (k+1)=K7 ns k++[.int .i64 (Gs.f9 ns k:Int)]:=by unfold K7;rw[List.range_succ,xF];rfl
def AuxT(D:Nat)(vI vM:Value)(ns:List SNode)(L:List (Int × Int))(k:Nat)(w:World)(O:qW):Prop:=
 w.ownsRow D 3 1 vI k (K7 ns k)/\N8 O vI .aux/\∃b n,vM=.map (some b)/\J8 w b n (ab0 L)/\n<=L.length/\O b=some .aux
theorem be3(D:Nat)(vI vM:Value)(ns:List SNode)(L:List (Int × Int))(k:Nat):al2 (AuxT D vI vM ns L k):=by intro w w' O O' h hk hO;obtain⟨h1,h2,b,n,h3,h4,h6,h5⟩:=h;exact⟨j5 h1 (fun g hg=>hk g (h2 g hg)),fun g hg=>(hO _ _ (h2 g hg)).trans (h2 g hg),b,n,h3,h4.keep (hk b h5),h6,(hO _ _ h5).trans h5⟩
theorem bU5{vI vM:Value}(h:AuxT D vI vM ns (b8 ns) ns.length w O):AuxF D vI vM ns w O:=by obtain⟨h1,h2,b,n,h3,h4,h6,h5⟩:=h;rw[aW8]at h4;exact⟨h1,h2,b,n,h3,h4,h5⟩
theorem RMem.auxTo{r:Nat}{d:RD}(h:RMem w D r O A d)(hA:al2 A')(h2:A' w O):RMem w D r O A' d:=by
 refine⟨h.lo,h.base,h.xlen,h.plen,h.slen,hA,fun o=>?_⟩;have:=h.part o
 cases o using Own.elimE with
 | aux=>exact h2
 | box=>exact this
 | pipes=>exact this
 | procs=>exact this
 | gots i=>exact this
 | outs i=>exact this
 | pipe q=>exact this
 | got i j=>exact this
 | out i j=>exact this
 | sunk=>exact this
def RD.withI(d:RD)(v:Value):RD:=⟨d.M,d.vN,d.vF,d.vX,d.vP,v,d.vM,d.sS,d.X,d.P⟩
theorem RMem.swap{r:Nat}{d:RD}(h:RMem w D r O A d)(v:Value)(hvm:∃n,d.vM=.map n)(hos:w'.os=w.os)(hta:w'.tape=w.tape)(Cm:w'.output=w.output)(hsz:w.heap.size<=w'.heap.size)
 (hk:∀k,k<w.heap.size->O k≠some .box->O k≠some .aux->w'.heap[k]?=w.heap[k]?) (hO:∀k,k<w.heap.size->O' k=O k) (hlo:∀g o,O' g=some o->D<=g/\g<w'.heap.size)
 (Ak:w'.heap[r]?=some (.cells #[d.vN,d.vF,d.vX,d.vP,sl d.M.sunk d.sS,v,d.vM] 71 (0,0))) (hA:al2 A') (h2:A' w' O'):RMem w' D r O' A' (d.withI v):=by
 obtain⟨w0,b1,b2,b3,b4⟩:=h.base;have hle:=h.le;have hb:Below D w w':=⟨hos,hta,Cm,hsz,fun k hkD=>hk k qO (fun e=>by have:=(h.lo k _ e).1;omega) (fun e=>by have:=(h.lo k _ e).1;omega)⟩;refine⟨hlo,⟨w0,b1,b2.trans hb,b3,b4⟩,h.xlen,h.plen,h.slen,hA,fun o=>?_⟩;have key:∀o,o≠Own.box->o≠Own.aux->Part w' D r O' A d o:=fun o n1 n2=>(h.part o).keep h.aux (fun k hk2=>hk k (h.lo k o hk2).2 (fun e=>n1 (by rw[hk2]at e;injection e)) (fun e=>n2 (by rw[hk2]at e;injection e))) (fun k o2 hk2=>hO k (h.lo k o2 hk2).2) (fun k o2 hk2=>(h.lo k o2 hk2).2) hO (fun _ _=>hb)
 cases o using Own.elimE with
 | aux=>exact h2
 | box=>obtain⟨n,hn⟩:=hvm;refine⟨?_,(hO r (h.lo r _ h.boxO).2).trans h.boxO⟩;show _=some (ax8 (d.withI v));unfold ax8;show _=some (match d.vM with | .bool _=>Obj.cells #[d.vN,d.vF,d.vX,d.vP,sl d.M.sunk d.sS] 30 (0,0) | _=>Obj.cells #[d.vN,d.vF,d.vX,d.vP,sl d.M.sunk d.sS,v,d.vM] 71 (0,0));rw[hn]at Ak ⊢;exact Ak
 | pipes=>exact key Own.pipes (by simp) (by simp)
 | procs=>exact key Own.procs (by simp) (by simp)
 | gots i=>exact key (.gots i) (by simp) (by simp)
 | outs i=>exact key (.outs i) (by simp) (by simp)
 | pipe q=>exact key (.pipe q) (by simp) (by simp)
 | got i j=>exact key (.got i j) (by simp) (by simp)
 | out i j=>exact key (.out i j) (by simp) (by simp)
 | sunk=>exact key Own.sunk (by simp) (by simp)
theorem cb1{d:RD}(h:Raw w D O d)(hI:d.vI=.slice none 0 0)(hM:d.vM=.map (some w.heap.size)):
 ∃O',RMem ((w.alloc (.map #[] 0)).alloc (.cells #[d.vN,d.vF,d.vX,d.vP,sl d.M.sunk d.sS,d.vI,d.vM] 71)) D (w.heap.size+1) O' (AuxT D d.vI d.vM d.M.ns [] 0) d:=by
 obtain⟨W,hW⟩:=qE (((w.alloc (.map #[] 0)).alloc (.cells #[d.vN,d.vF,d.vX,d.vP,sl d.M.sunk d.sS,d.vI,d.vM] 71)));have hb:Bq w W:=by rw[hW];exact ((Below.refl _ w).alloc (qA _) _).alloc (by simp) _
 have hs:W.heap.size=w.heap.size+2:=by rw[hW];simp
 have Ak:W.heap[w.heap.size+1]?=some (.cells #[d.vN,d.vF,d.vX,d.vP,sl d.M.sunk d.sS,d.vI,d.vM] 71 (0,0)):=by rw[hW];exact xM _ _ _
 have Dv:J8 W w.heap.size 0 (fun _=>0):=(aV0 w).keep (by rw[hW];rw[xQ,qJ]);have hD:D<=w.heap.size:=by obtain⟨w0,h1,h2,_⟩:=h.base;have:=h2.size;omega
 rw[<- hW];clear hW;refine⟨fun k=>if k=w.heap.size then some .aux else if k=w.heap.size+1 then some .box else O k,?_⟩;have hold:∀k,k<w.heap.size->(if k=w.heap.size then some Own.aux else if k=w.heap.size+1 then some Own.box else O k)=O k:=fun k hk=>by rw[qB qO,qB qO]
 obtain⟨w0,b1,b2,b3,b4⟩:=h.base;have hA0:al2 (fun(_:World)(_:qW)=>True):=fun _ _ _ _ _ _ _=>trivial;refine⟨fun g o hg=>?_,⟨w0,b1,b2.trans (hb.mono hD),b3,b4⟩,h.xlen,h.plen,h.slen,be3 _ _ _ _ _ _,fun o=>?_⟩
 .
  by_cases e1:g=w.heap.size
  . omega
  . by_cases e2:g=w.heap.size+1
    . omega
    . simp only[qB e1,qB e2]at hg;have:=h.lo g o hg;omega
 .
  have key:∀o,o≠Own.box->o≠Own.aux->Part W D 0 (fun k=>if k=w.heap.size then some .aux else if k=w.heap.size+1 then some .box else O k) (fun _ _=>True) d o:=fun o n1 n2=>(h.part o n1 n2).keep hA0 (fun k hk=>hb.block k (h.lo k o hk).2) (fun k o2 hk=>hold k (h.lo k o2 hk).2) (fun k o2 hk=>(h.lo k o2 hk).2) hold (fun _ _=>hb.mono hD)
  cases o using Own.elimE with
  | aux=>
   refine⟨by rw[hI];exact World.ownsRow_nil _ _ _ _,fun g hg=>by rw[hI]at hg;simp[Value.ownBlock]at hg,w.heap.size,0,hM,?_,qA _,by simp⟩;have e:ab0 []=fun _=>0:=by funext p;simp[ab0]
   rw[e];exact Dv
  | box=>exact⟨by unfold ax8;rw[hM]at Ak ⊢;exact Ak,by simp⟩
  | pipes=>exact key Own.pipes (by simp) (by simp)
  | procs=>exact key Own.procs (by simp) (by simp)
  | gots i=>exact key (.gots i) (by simp) (by simp)
  | outs i=>exact key (.outs i) (by simp) (by simp)
  | pipe q=>exact key (.pipe q) (by simp) (by simp)
  | got i j=>exact key (.got i j) (by simp) (by simp)
  | out i j=>exact key (.out i j) (by simp) (by simp)
  | sunk=>exact key Own.sunk (by simp) (by simp)
theorem bm4:(prog.info? 3).map (fun i=>(i.zero,i.size,i.bytes))=some (some (.int .i64 0),1,8):=qQ
theorem RMem.firstUp{r:Nat}{d:RD}(h:RMem w D r O (AuxT D d.vI d.vM d.M.ns L k) d)(hk:k<=1000)(hm:m=(Gs.f9 d.M.ns k:Int))(hc:w.cell? ad=some (.int .i64 m))(ty:TypeId):
 ∃v' w' O',(Builtin.append_ #[45,45] ty #[d.vI,.slice (some ad) 1 c]).run prog w=.ok v' w'/\(∃a' c',v'=.slice a' (k+1) c')/\Below D w w'/\w.heap.size<=w'.heap.size/\w'.heap[r]?=w.heap[r]? /\ (∀g,g<w.heap.size->O g≠some .aux->w'.heap[g]?=w.heap[g]?)/\RMem (w'.setCell ⟨r,5,none⟩ v') D r O' (AuxT D v' d.vM d.M.ns L (k+1)) (d.withI v'):=by
 obtain⟨h1,h2,b,n,h3,h4,h6,h5⟩:=h.part .aux;obtain⟨i0,hi,hi0,hi1,hi2⟩:=info_parts bm4;have hle:=h.le
 obtain⟨v',w',hr,Ab,hg,_,hl⟩:=run_append_own_at (P:=prog) w D 45 ty 3 i0 (.int .i64 0) 1 8 underlying45 hi hi0 hi1 hi2 rfl (by decide) d.vI k (K7 d.M.ns k) h1 ad 1 c [.int .i64 m] rfl (fun j u hu=>by
  cases j with
  | zero=>
   simp at hu
   subst hu
   rw[show ad.add 0=ad by cases ad;rfl]
   exact hc
  | succ j=>simp at hu) (fun u hu=>by simp at hu;subst hu;rfl) (by unfold maxLen;omega) qO hle
 have Be:∀g,g<w.heap.size->O g≠some .aux->w'.heap[g]?=w.heap[g]?:=fun g hgs ho=>hg.block g hgs (fun e=>ho (h2 g e.symm));have hrl:=h.lo r _ h.boxO;have hr':w'.heap[r]?=w.heap[r]?:=Be r hrl.2 (by rw[h.boxO];simp);have Aa:Below D w w':=⟨hg.os,hg.tape,hg.output,hg.size,fun g hgD=>Be g qO (fun e=>by have:=(h.lo g _ e).1;omega)⟩;obtain⟨⟨a',c',hv',_,_⟩,_⟩:=g8 Ab;have Vi:∀g,v'.ownBlock=some g->D<=g/\g<w'.heap.size:=fun g hg'=>Ab.lt g hg';have Tu:=hr'.trans (h.boxR h3);have hO':∀k',k'<w.heap.size->(if k'=w.heap.size/\v'.ownBlock=some w.heap.size then some Own.aux else O k')=O k':=fun k' hk'=>by rw[qB qO]
 refine⟨v',w',fun k'=>if k'=w.heap.size/\v'.ownBlock=some w.heap.size then some .aux else O k',hr,⟨a',c',hv'⟩,Aa,hg.size,hr',Be,?_⟩;have hne:∀g,v'.ownBlock=some g->g≠r:=fun g hg' e=>by
  subst e;rcases hl with e1 | e1
  . have:=h2 g (by rw[<- e1];exact hg');rw[h.boxO]at this
    cases this
  . rw[e1]at hg';injection hg' with hg';omega
 refine h.swap v' ⟨_,h3⟩ hg.os hg.tape hg.output (by simpa using hg.size) (fun k' hk' n1 n2=>?_) hO' (fun g o hg'=>?_) ?_ (be3 _ _ _ _ _ _) ?_
 . rw[Below.heap_setCell _ _ _ _ (fun e=>n1 (by have e':k'=r:=e;subst e';exact h.boxO))];exact Be k' hk' n2
 .
  rw[show (w'.setCell ⟨r,5,none⟩ v').heap.size=w'.heap.size by simp];have hgs:=hg.size;by_cases e:g=w.heap.size/\v'.ownBlock=some w.heap.size
  . have:=Vi w.heap.size e.2;omega
  . rw[qB e]at hg';have:=h.lo g o hg';omega
 . rw[zH w' r 5 _ _ (0,0) v' Tu];exact setRow_heap w' r _ _ _ _ Tu
 .
  refine⟨?_,fun g hg'=>?_,b,n,h3,h4.keep ?_,h6,?_⟩
  . rw[as8,<- hm];exact j5 Ab (fun g hg'=>Below.heap_setCell _ _ _ _ (hne g hg'))
  .
   show (if g=w.heap.size/\v'.ownBlock=some w.heap.size then some Own.aux else O g)=some Own.aux;rcases hl with e1 | e1
   . have h7:=h2 g (by rw[<- e1];exact hg');by_cases e:g=w.heap.size/\v'.ownBlock=some w.heap.size
     . rw[qF e]
     . rw[qB e];exact h7
   . have:w.heap.size=g:=by rw[e1]at hg';injection hg'
     rw[qF ⟨this.symm,e1⟩]
  .
   have hbr:b≠r:=fun e=>by
    subst e;rw[h.boxO]at h5
    cases h5
   rw[Below.heap_setCell _ _ _ _ hbr];refine hg.block b (h.lo b _ h5).2 (fun e=>?_);obtain⟨_,⟨es,clock,q1,_⟩,_⟩:=h4;have:=h1.2;rcases this with⟨e2,_⟩|⟨g2,cap,cur,e2,_,q2,_⟩
   . rw[e2]at e;simp[Value.ownBlock]at e
   . rw[e2]at e;simp[Value.ownBlock]at e;subst e;rw[q1]at q2
     cases q2
  . have:=(h.lo b _ h5).2;show (if b=w.heap.size/\v'.ownBlock=some w.heap.size then some Own.aux else O b)=some Own.aux;rw[qB qO];exact h5
theorem bE7(h:J8 w b n (ab0 L))(hn:n<=L.length)(hL:L.length<=1000)(hp:WfP p)(Hz:p∉L)(hm:m=(L.length:Int)):
 ∃w',(Instr.mapUpdate 69 (.map (some b)) (ah3 p) (.int .i64 m)).run prog w=.ok () w'/\J8 w' b (n+1) (ab0 (L++[p]))/\w.grownBy w' (some b):=by obtain⟨Dm,Ab,hat⟩:=h;obtain⟨w',Ae,Ag,hg⟩:=Ab.update (t:=69) (e:=3) J5 underlying69 (by unfold maxLen;omega) (V9 w p hp) (plainElem_int underlying3 (show (Lit.int .i64 m).wf=true by rw[hm];simp[Lit.wf,IntKind.min,IntKind.max,IntKind.signed,IntKind.bits];omega));exact⟨w',Ae,J8.put (f:=ab0 L) (g:=ab0 (L++[p])) Ab hat hp (by rw[bJ3 Hz,<- hm];exact Ag) (fun q hq=>bJ4 hq),hg⟩
theorem aL8{N:Nat}(h:J8 w b n f)(ho:w.ownsRow B e k v N xs):v.ownBlock≠some b:=fun hg=>by
 obtain⟨_,⟨es,clock,q1,_⟩,_⟩:=h
 rcases ho.2 with⟨e2,_⟩|⟨g2,cap,cur,e2,_,q2,_⟩
 . rw[e2]at hg
   simp[Value.ownBlock]at hg
 .
  rw[e2]at hg
  simp[Value.ownBlock]at hg
  subst hg
  rw[q1]at q2
  cases q2
theorem RMem.intoUp{r:Nat}{d:RD}(h:RMem w D r O (AuxT D d.vI d.vM d.M.ns L k) d)(hb:d.vM=.map (some b))(hL:L.length<=1000)(hp:WfP p)(hn:p∉L)(hm:m=(L.length:Int)):
 ∃w',(Instr.mapUpdate 69 (.map (some b)) (ah3 p) (.int .i64 m)).run prog w=.ok () w'/\Below D w w'/\(∀g,g<w.heap.size->g≠b->w'.heap[g]?=w.heap[g]?)/\RMem w' D r O (AuxT D d.vI d.vM d.M.ns (L++[p]) k) d:=by
 obtain⟨h1,h2,b',n,h3,h4,h6,h5⟩:=h.part .aux;rw[hb]at h3;injection h3 with h3;injection h3 with h3;subst h3;have hle:=h.le;have hap:=aL8 h4 h1;obtain⟨w',Ae,Lp,hg⟩:=bE7 h4 h6 hL hp hn hm;have Be:∀g,g<w.heap.size->g≠b->w'.heap[g]?=w.heap[g]?:=fun g hgs ho=>hg.block g hgs (fun e=>ho (by injection e));have hbD:=(h.lo b _ h5).1;have hrb:r≠b:=fun e=>by
  subst e;rw[h.boxO]at h5
  cases h5
 refine⟨w',Ae,⟨hg.os,hg.tape,hg.output,hg.size,fun g hgD=>Be g qO qO⟩,Be,?_⟩;exact h.swap (A':=AuxT D d.vI d.vM d.M.ns (L++[p]) k) (w':=w') (O':=O) d.vI ⟨_,hb⟩ hg.os hg.tape hg.output hg.size (fun k' hk' n1 n2=>Be k' hk' (fun e=>n2 (by rw[e];exact h5))) (fun _ _=>rfl) (fun g o hg'=>by have:=h.lo g o hg';have:=hg.size;omega) ((Be r (h.lo r _ h.boxO).2 hrb).trans (h.boxR hb)) (be3 _ _ _ _ _ _) ⟨j5 h1 (fun g hg'=>Be g (h1.lt g hg').2 (fun e=>hap (by rw[hg',e]))),h2,b,n+1,hb,Lp,by simp;omega,h5⟩
theorem bl2(v:Value)(pss:List qL)(w:World)(hp:RList w v S pss)(hn:pss.length<=1000)(hb:pss.flatten.length<=1000000000000000000):
 Calls prog 234 #[v] w fun e w'=>e=.returned (.int .i64 (pss.flatten.length:Int))/\w'=w:=by
 obtain⟨ao,cap,rfl,hc1,hc2⟩:=hp.shape;have HP:=qH hp;obtain⟨N,hN⟩:=qE pss.length;have HN:=qH hN;have hN4:N<=1000:=qO;have HT:=qH hb;rw[<- hN];clear hN hp hn hc1 hc2 hb;go_enter func234,ntmps234;go_wp2_with fail
 go_loopw [3,8] (fun s i wr=>∃k:Nat,∃m:Nat,k<=N/\m<=1000000000000000000/\i=.int .i64 k/\s=.int .i64 m/\wr=w/\Hid (m=((pss.take k).flatten).length))
  (fun _ i _=>N-(intOf i).toNat)
 case atStart=>exact⟨0,0,qM _,qO,rfl,rfl,rfl,(show _=_ from by simp)⟩
 case round=>
  obtain⟨k,m,hk,hm,rfl,rfl,hw,hmk⟩:=hrel;obtain rfl:w=wr:=hw.symm;clear hw;by_cases hlt:k<N
  .
   obtain⟨p,hpk⟩:∃p,pss[k]?=some p:=⟨_,gEl (by have:=HN.o;omega)⟩;have Qs:m+p.length<=1000000000000000000:=by have h1:=av8 hpk;have h2:=hmk.out;have h3:=HT.o;omega
   have HS:=qH (show m+p.length=((pss.take (k+1)).flatten).length from by rw[aq2 hpk,qI,<- hmk.out]);obtain⟨b,off,au,cu,rfl,Ac,_⟩:=HP.o.at hpk;clear hpk hmk;generalize p.length=pl at *;go_wp2_with fail;go_roundw
   case rel=>exact⟨k+1,m+pl,qO,qO,by go_num,by go_num,by simp,HS.o⟩
   case measure=>simp[intOf];omega
  .
   have hkN:k=N:=qO
   have HD:=qH (show m=pss.flatten.length from by
    have h:=hmk.out
    rw[hkN,HN.o,qj]at h
    exact h)
   clear hmk;go_wp2_with fail;go_ret;refine⟨?_,rfl⟩;rw[<- HD.o];rfl
theorem bE4:∀(x y:qU),Op.bytesLess x y=decide (x<y)
 | [],[]=>by simp[Op.bytesLess]
 | _::_,[]=>by simp[Op.bytesLess]
 | [],_::_=>by simp[Op.bytesLess]
 | a::x,b::y=>by rw[Op.bytesLess,bE4 x y];simp only[zV];by_cases h1:a<b <;> by_cases h2:a=b <;> by_cases h3:x<y <;> simp[h1,h2,h3]
theorem K4(h:Value.string sx=S l):sx.toList=l:=by unfold S at h;injection h with h;rw[h,ByteArray.toList_eq]
theorem bE5(hs:Value.string sx=S x)(ht:Value.string tx=S t):Op.bytesLess sx.toList tx.toList=decide (x<t):=by rw[K4 hs,K4 ht,bE4]
theorem I9{a:World}(h:Below B a w)(q:Nat):Below B a (w.drewN q):=⟨h.os,h.tape,h.output,h.size,h.block⟩
def lix:Option (Nat × qU)->Int
 | none=>-1
 | some (j,_)=>(j:Int)
theorem aE5(h:ps[k]?=some []):D7 ps (k+1)=D7 ps k:=by simp[D7,h]
theorem as7(h:ps[k]?=some (x::r))(hn:D7 ps k=none):D7 ps (k+1)=some (k,x):=by simp[D7,h,hn]
theorem ay9(h:ps[k]?=some (x::r))(hn:D7 ps k=some (j,t))(hl:x<t):D7 ps (k+1)=some (k,x):=by simp[D7,h,hn,hl]
theorem az0(h:ps[k]?=some (x::r))(hn:D7 ps k=some (j,t))(hl:¬x<t):D7 ps (k+1)=some (j,t):=by simp[D7,h,hn,hl]
theorem bw3(h:D7 ps k=some (j,t)):j<k/\∃r,ps[j]?=some (t::r):=by
 obtain⟨h1,h2,_⟩:=ax5 ps k j t h;refine⟨h1,?_⟩
 cases hp:ps[j]? with
 | none=>rw[hp]at h2;cases h2
 | some p=>
  rw[hp]at h2
  cases p with
  | nil=>cases h2
  | cons x r=>simp only[Option.bind_some,zo,qe]at h2;exact⟨r,by rw[h2]⟩
theorem M9(h:Reads w (.slice au (x::r).length cu) (x::r).length ((x::r).map S)):
 ∃b off sx,au=some ⟨b,off,none⟩/\w.cell? ⟨b,off,none⟩=some (.string sx)/\Value.string sx=S x/\cu<=9223372036854775807/\(x::r).length<=cu:=by obtain⟨_,ao,cap,e,h1,h2,h5⟩:=h;injection e with e1 e2 e3;subst e1 e3;obtain⟨b,off,hao,hc⟩:=h5 (by simp);refine⟨b,off,⟨x.toArray⟩,hao,?_,rfl,by simpa[maxLen]using h2,h1⟩;have:=hc 0 (S x) (by simp);exact this
theorem bT2(v:Value)(ps:List qL)(w:World)(hp:RList w v S ps)(hn:ps.length<=1000):
 Calls prog 235 #[v] w fun e w'=>e=.returned (.int .i64 (lix (least ps)))/\∃q,w'=w.drewN q:=by
 obtain⟨ao,cap,rfl,hc1,hc2⟩:=hp.shape;have HP:=qH hp;obtain⟨N,hN⟩:=qE ps.length;have HN:=qH hN;have hN4:N<=1000:=qO;have hcN:N<=cap:=qO;have hcm:cap<=9223372036854775807:=by simpa[maxLen]using hc2
 rw[<- hN];clear hN hp hn hc1 hc2;go_enter func235,ntmps235;go_wp2_with fail
 go_loopw [3,8] (fun s i wr=>∃k:Nat,∃z:Int,k<=N/\i=.int .i64 k/\s=.int .i64 z/\(∃q,wr=w.drewN q)/\Hid (z=lix (D7 ps k)))
  (fun _ i _=>N-(intOf i).toNat)
 case atStart=>exact⟨0,-1,qM _,rfl,rfl,⟨0,rfl⟩,(show _=_ from rfl)⟩
 case round=>
  obtain⟨k,z,hk,rfl,rfl,⟨q0,hw⟩,hz⟩:=hrel;have HPr:Hid (RList wr (.slice ao N cap) S ps):=by rw[hw,HN.o];exact HP.o.below (I9 (Below.refl _ _) _)
  have HW:=qH hw;clear hw;by_cases hlt:k<N
  .
   obtain⟨p,hpk⟩:∃p,ps[k]?=some p:=⟨_,gEl (by have:=HN.o;omega)⟩;obtain⟨b,off,au,cu,rfl,Ac,hru⟩:=HPr.o.at hpk
   cases p with
   | nil=>
    have HL:Hid _:=aE5 hpk;simp only[xI]at Ac;clear hpk hru;go_wp2_with fail;go_quiet (fail);go_wp2_with fail;go_roundw
    case rel=>exact⟨k+1,z,qO,by go_num,rfl,⟨_,by rw[HW.o,World.drewN_drewN]⟩,(show _=_ from by rw[HL.o];exact hz.out)⟩
    case measure=>simp[intOf];omega
   | cons x r=>
    obtain⟨b1,o1,sx,rfl,hc1,hsx,Yh,Qx⟩:=M9 hru;have Hsx:Hid _:=hsx;have hpl:(x::r).length=r.length+1:=rfl;rw[hpl]at Ac Qx;clear hsx hru hpl;generalize r.length=rl at *
    cases hlk:D7 ps k with
    | none=>
     have HL:Hid _:=as7 hpk hlk;obtain rfl:z = -1:=by rw[hz.out,hlk];rfl
     clear hpk hlk;go_wp2_with fail;go_quiet (fail);go_wp2_with fail;go_roundw
     case rel=>exact⟨k+1,k,qO,by go_num,rfl,⟨_,by rw[HW.o,World.drewN_drewN]⟩,(show _=_ from by rw[HL.o];rfl)⟩
     case measure=>simp[intOf];omega
    | some jt=>
     obtain⟨j,t⟩:=jt;obtain⟨hjk,r',hpj⟩:=bw3 hlk;obtain⟨b',off',au',cu',e',hcj,hrj⟩:=HPr.o.at hpj;injection e' with e';injection e' with e1 e2;subst e1 e2;obtain⟨b2,o2,tx,rfl,hc2,htx,hcu3,hcu4⟩:=M9 hrj;have Htx:Hid _:=htx;have hpl:(t::r').length=r'.length+1:=rfl;rw[hpl]at hcj hcu4;clear htx hrj hpl hpj;generalize r'.length=rl' at *;obtain rfl:z=(j:Int):=by rw[hz.out,hlk];rfl
     have hj0:decide ((j:Int)<0)=false:=qG qO;have Ei:=bE5 Hsx.o Htx.o;by_cases hxt:x<t
     . have HL:Hid _:=ay9 hpk hlk hxt;rw[qV hxt]at Ei;clear hpk hlk hz hxt;go_wp2_with fail;go_quiet (fail);go_wp2_with fail;go_roundw
       case rel=>exact⟨k+1,k,qO,by go_num,rfl,⟨_,by rw[HW.o,World.drewN_drewN]⟩,(show _=_ from by rw[HL.o];rfl)⟩
       case measure=>simp[intOf];omega
     . have HL:Hid _:=az0 hpk hlk hxt;rw[qG hxt]at Ei;clear hpk hlk hz hxt;go_wp2_with fail;go_quiet (fail);go_wp2_with fail;go_roundw
       case rel=>exact⟨k+1,j,qO,by go_num,rfl,⟨_,by rw[HW.o,World.drewN_drewN]⟩,(show _=_ from by rw[HL.o];rfl)⟩
       case measure=>simp[intOf];omega
  .
   have hkN:k=N:=qO
   have HD:=qH (show z=lix (least ps) from by
    have h:=hz.out
    rw[hkN,HN.o]at h
    exact h)
   clear hz;go_wp2_with fail;go_ret;refine⟨?_,⟨q0,HW.o⟩⟩;rw[<- HD.o];rfl
structure KeptO (O O':qW) (w w':World):Prop where
 os:w'.os=w.os
 tape:w'.tape=w.tape
 output:w'.output=w.output
 size:w.heap.size<=w'.heap.size
 block:∀k,k<w.heap.size->O k=none->w'.heap[k]?=w.heap[k]?
 old:∀k,k<w.heap.size->O' k=O k
theorem KeptO.trans{O1 O2:qW}{w1 w2:World}(h:KeptO O O1 w w1)(k:KeptO O1 O2 w1 w2):KeptO O O2 w w2:=
 ⟨k.os.trans h.os,k.tape.trans h.tape,k.output.trans h.output,qc h.size k.size,fun j hj hO=>(k.block j (zJ hj h.size) ((h.old j hj).trans hO)).trans (h.block j hj hO),fun j hj=>(k.old j (zJ hj h.size)).trans (h.old j hj)⟩
theorem KeptO.of_below(h:Bq w w')(ho:∀k,k<w.heap.size->O' k=O k):KeptO O O' w w':=⟨h.os,h.tape,h.output,h.size,fun k hk _=>h.block k hk,ho⟩
theorem KeptO.set(h:KeptO O O' w w')(ha:O' a.block=some o):KeptO O O' w (w'.setCell a v):=
 ⟨h.os,h.tape,h.output,by simpa using h.size,fun k hk hn=>(Below.heap_setCell _ _ _ _ (fun e=>by have:=(h.old k hk).trans hn;rw[e,ha]at this;cases this)).trans (h.block k hk hn),h.old⟩
theorem KeptO.refl(O:qW)(w:World):KeptO O O w w:=⟨rfl,rfl,rfl,qA _,fun _ _ _=>rfl,fun _ _=>rfl⟩
theorem KeptO.below(h:KeptO O O' w w')(hlo:∀g o,O g=some o->D<=g/\g<w.heap.size)(hD:D<=w.heap.size):Below D w w':=
 ⟨h.os,h.tape,h.output,h.size,fun k hk=>h.block k qO (by
  cases e:O k with
  | none=>rfl
  | some o=>exact absurd (hlo k o e).1 qO)⟩
def RefA(A:World->qW->Prop)(w:World)(D r:Nat)(O:qW)(M:SMach):Prop:=∃d,RMem w D r O A d/\d.vM=.bool true/\d.M=M
theorem RefA.below{r:Nat}{M:SMach}(h:RefA A w D r O M)(hb:Bq w w'):RefA A w' D r O M:=by obtain⟨d,h1,h2⟩:=h;exact⟨d,h1.below hb,h2⟩
theorem cb3{d:RD}(h:Raw w D O d)(hv:d.vM=.bool true):
 ∃O',RefA NoG (w.alloc (.cells #[d.vN,d.vF,d.vX,d.vP,sl d.M.sunk d.sS] 30)) D w.heap.size O' d.M/\∀k,k<w.heap.size->O' k=O k:=by
 obtain⟨W,hW⟩:=qE (w.alloc (.cells #[d.vN,d.vF,d.vX,d.vP,sl d.M.sunk d.sS] 30));have hb:Bq w W:=by rw[hW];exact (Below.refl _ w).alloc (qA _) _
 have hs:W.heap.size=w.heap.size+1:=by rw[hW];simp
 have Ak:W.heap[w.heap.size]?=some (.cells #[d.vN,d.vF,d.vX,d.vP,sl d.M.sunk d.sS] 30 (0,0)):=by rw[hW];exact qJ _ _
 obtain⟨w0,b1,b2,b3,b4⟩:=h.base;have hD:D<=w.heap.size:=by have:=b2.size;omega
 rw[<- hW];clear hW;have hold:∀k,k<w.heap.size->(if k=w.heap.size then some Own.box else O k)=O k:=fun k hk=>by rw[qB qO]
 refine⟨fun k=>if k=w.heap.size then some .box else O k,⟨d,⟨fun g o hg=>?_,⟨w0,b1,b2.trans (hb.mono hD),b3,b4⟩,h.xlen,h.plen,h.slen,aw1,fun o=>?_⟩,hv,rfl⟩,hold⟩
 .
  by_cases e1:g=w.heap.size
  . omega
  . simp only[qB e1]at hg;have:=h.lo g o hg;omega
 .
  have hA0:al2 (fun(_:World)(_:qW)=>True):=fun _ _ _ _ _ _ _=>trivial;have key:∀o,o≠Own.box->o≠Own.aux->Part W D 0 (fun k=>if k=w.heap.size then some .box else O k) (fun _ _=>True) d o:=fun o n1 n2=>(h.part o n1 n2).keep hA0 (fun k hk=>hb.block k (h.lo k o hk).2) (fun k o2 hk=>hold k (h.lo k o2 hk).2) (fun k o2 hk=>(h.lo k o2 hk).2) hold (fun _ _=>hb.mono hD)
  cases o using Own.elimE with
  | aux=>trivial
  | box=>exact⟨by unfold ax8;rw[hv];exact Ak,by simp⟩
  | pipes=>exact key Own.pipes (by simp) (by simp)
  | procs=>exact key Own.procs (by simp) (by simp)
  | gots i=>exact key (.gots i) (by simp) (by simp)
  | outs i=>exact key (.outs i) (by simp) (by simp)
  | pipe q=>exact key (.pipe q) (by simp) (by simp)
  | got i j=>exact key (.got i j) (by simp) (by simp)
  | out i j=>exact key (.out i j) (by simp) (by simp)
  | sunk=>exact key Own.sunk (by simp) (by simp)
theorem aH9(g j:Nat)(au ac:Option Addr)(cu cc:Nat)(b c:qU)(w:World)(Ac:w.cell? ⟨g,j,none⟩=some (.slice au b.length cu))(hfz:w.frozen? ⟨g,j,none⟩=false)(hb:Reads w (.slice au b.length cu) b.length (b.map U))(hc:Reads w (.slice ac c.length cc) c.length (c.map U))(hl:b.length+c.length<=140737488355328):
 Calls prog 49 #[.pointer (some ⟨g,j,none⟩),.slice ac c.length cc] w fun e w'=>e=.returned (.tuple #[])/\∃w1 v,w1.ownsRow w.heap.size 5 1 v (b++c).length ((b++c).map U)/\Bq w w1/\w'=w1.setCell ⟨g,j,none⟩ v:=by
 obtain⟨i0,hi,hi0,hi1,hi2⟩:=info_parts ag9;obtain⟨v1,w1,Zc,ho1,hb1⟩:=Y8 hb qO 28;obtain⟨v2,w2,Zd,ho2,hg2,Re⟩:=Y7 (c:=cc) underlying28 hi hi0 hi1 hi2 rfl (by decide) (by decide) ho1 (m:=c.length) (ao:=ac) (ys:=c.map U) (by simp) (ac6 (hc.below hb1)) (aI6 c) qO hb1.size 28;have hb2:Bq w w2:=hb1.grown hg2 hb1.size (fun g' hg'=>(ho1.lt g' hg').1);obtain⟨a1,c1,rfl,_,_⟩:=I0 ho1;obtain⟨a2,c2,rfl,_,_⟩:=I0 ho2;have hgl:g<w.heap.size:=bLt w _ Ac;have Ge:w2.cell? ⟨g,j,none⟩=some (.slice au b.length cu):=(hb2.cell hgl).trans Ac;have hfz2:w2.frozen? ⟨g,j,none⟩=false:=by have:=hb2.block g hgl;simp only[World.frozen?]at hfz ⊢;rw[this];exact hfz
 have HE:=qH (show ∃w1 v,w1.ownsRow w.heap.size 5 1 v (b++c).length ((b++c).map U)/\Bq w w1/\w2.setCell ⟨g,j,none⟩ (.slice a2 (b.length+c.length) c2)=w1.setCell ⟨g,j,none⟩ v from ⟨w2,_,by rw[qI,xF];exact ho2,hb2,rfl⟩);generalize b.length=m0,c.length=m1 at *;clear hb hc ho1 hb1 ho2 hg2 Re hb2;go_enter func49,ntmps49;go_wp2_with (at_builtin;first|refine j4 _ rfl (.tmp 5) (.tmp 8) 28 rfl _ _ rfl rfl Zc ?_ | refine j4 _ rfl (.tmp 9) (.tmp 10) 28 rfl _ _ rfl rfl Zd ?_)
 refine bodyPost_end (v:=.tuple #[]) (by simp[results,go_sem]) rfl ?_;exact⟨rfl,HE.o⟩
end Go.Proofs.YtmejdflmcikkdaaGreatDoor
