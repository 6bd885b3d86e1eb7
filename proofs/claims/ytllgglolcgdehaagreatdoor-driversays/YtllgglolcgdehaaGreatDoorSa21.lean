/- What the developers' cloned does, and more. -/
import Derived.Test.YtllgglolcgdehaaGreatDoorSAb
import Derived.Test.YtllgglolcgdehaaGreatDoorSa20
set_option linter.all false
set_option maxRecDepth 100000
set_option maxHeartbeats 16000000
namespace Go.Proofs.YtllgglolcgdehaaGreatDoor
open Go.RowKit Go.Gs Tryz
theorem aR1(an af ax ap aS:Option Addr)(cn cf cx cp cs:Nat)(M:SMach)(w:World)(h:RMach w an af ax ap aS cn cf cx cp cs M)(hsm:SmallC M):
 Calls prog 59 #[machV an af ax ap aS M cn cf cx cp cs] w fun e w'=>∃D vN vF vX vP sS X P O,e=.returned (.agg #[vN,vF,vX,vP,sl M.sunk sS])/\(∀vI vM,Raw w' D O ⟨M,vN,vF,vX,vP,vI,vM,sS,X,P⟩)/\w.heap.size<=D/\Bq w w':=by
 obtain⟨rN0,hrN,Un,hrNp,hrN0⟩:=ce0 h.nodes;have hlN:rN0.length=M.ns.length:=by rw[<- hrN,qM]
 have HCN:=qH (show ∀W,Bq w W->Calls prog 122 #[.slice an M.ns.length cn] W fun e w'=>∃v',e=.returned v'/\w'.ownsRow W.heap.size 73 8 v' M.ns.length (A8 rN0)/\Bq W w' from fun W hW=>bh3 an M.ns.length cn (A8 rN0) W (by rw[ah5,hlN]) hsm.ns hrN0 (fun a ha j u hu=>(hW.cell (bLt w _ (Un a ha j u hu))).trans (Un a ha j u hu)) (aU8 rN0));have HRNP:=qH hrNp;have HRN:=qH hrN;have HM:=qH h;have HSM:=qH hsm;unfold machV;obtain⟨NN,hNN⟩:=qE M.ns.length;obtain⟨NF,hNF⟩:=qE M.fs.length;obtain⟨NX,hNX⟩:=qE M.pipes.length;obtain⟨NP,hNP⟩:=qE M.ps.length;obtain⟨NS,hNS⟩:=qE M.sunk.length;have HL:Hid (NN=M.ns.length/\NF=M.fs.length/\NX=M.pipes.length/\NP=M.ps.length/\NS=M.sunk.length):=⟨hNN,hNF,hNX,hNP,hNS⟩;rw[<- hNN,<- hNF,<- hNX,<- hNP,<- hNS];rw[<- hNN]at HCN;clear h hsm hrN Un hrNp hrN0 hlN hNN hNF hNX hNP hNS;go_enter Tryz.func59,Tryz.ntmps59
 go_wp2_with fail;obtain⟨W0,hW0⟩:=qE ((w.alloc (.cells #[.slice an NN cn,.slice af NF cf,.slice ax NX cx,.slice ap NP cp,.slice aS NS cs] 30)).alloc (.cells #[.slice none 0 0,.slice none 0 0,.slice none 0 0,.slice none 0 0,.slice none 0 0] 30));rw[<- hW0];have hB0:Bq w W0:=by rw[hW0];exact ((qI _ w).alloc (qB _) _).alloc (by simp) _
 have hS0:W0.heap.size=w.heap.size+2:=by rw[hW0];simp
 have hX0:BX W0 w.heap.size (.slice an NN cn) (.slice af NF cf) (.slice ax NX cx) (.slice ap NP cp) (.slice aS NS cs):=by
  rw[hW0];refine⟨?_,?_⟩
  . rw[heap_alloc_old _ _ (by simp)];exact qN _ _
  . have:=qN (w.alloc (.cells #[.slice an NN cn,.slice af NF cf,.slice ax NX cx,.slice ap NP cp,.slice aS NS cs] 30)) (.cells #[.slice none 0 0,.slice none 0 0,.slice none 0 0,.slice none 0 0,.slice none 0 0] 30);simpa using this
 have hNO1:∀(w1:World)(v:Value),Bq W0 w1->w1.ownsRow W0.heap.size 73 8 v NN (A8 rN0)->NO w1 (w.heap.size+2) w.heap.size (brX w.heap.size) 73 v rN0:=by
  intro w1 v hb1 Ab;have hlN:rN0.length=NN:=by rw[HL.out.1,<- HRN.out,qM]
  refine⟨by rw[hlN,<- hS0];exact Ab,fun r hr=>?_,fun e=>?_⟩
  .
   have hrp:=HRNP.out r hr;refine⟨hrp.below (hB0.trans (hb1.mono hB0.size)),fun hn a ha hfs=>?_⟩;rw[ha]at hrp;have hlt:=ay1 hrp hn;rcases hfs with e | e | e
   . omega
   . have:=(Ab.lt _ e).1;omega
   . have e':a.block=w.heap.size+1:=e;omega
  . have:=(Ab.lt _ e).1;omega
 have HNO1:Hid _:=hNO1;have HB0:=qH hB0;have HS0:=qH hS0;have HX0:=qH hX0;clear hNO1 hB0 hS0 hX0 hW0 HRNP;refine qD (HCN.out W0 HB0.out) ?_;rintro e w1⟨vN,rfl,Ab,hb1⟩;have hNO:=HNO1.out w1 vN hb1 Ab;obtain⟨⟨aN,cN,rfl,Uo,Ja⟩,_⟩:=j5 Ab;have hcN2':cN<=9223372036854775807:=by unfold maxLen at Ja;exact Ja
 have hX1:=BX.below HX0.out hb1;have HX1:Hid (BX (w1.setCell ⟨w.heap.size,0,none⟩ (.slice aN NN cN)) w.heap.size (.slice aN NN cN) (.slice af NF cf) (.slice ax NX cx) (.slice ap NP cp) (.slice aS NS cs)):=BX.set hX1.1 hX1.2 rfl;have HNOs:=qH (show ∃rN,NO (w1.setCell ⟨w.heap.size,0,none⟩ (.slice aN NN cN)) (w.heap.size+2) w.heap.size (brX w.heap.size) 73 (.slice aN NN cN) rN/\rN.map (·.1)=M.ns from ⟨rN0,hNO.set rfl,HRN.out⟩);have HB1:Hid (Bq w (w1.setCell ⟨w.heap.size,0,none⟩ (.slice aN NN cN))):=(HB0.out.trans (hb1.mono (by have:=HS0.out;omega))).setCell (qB _) _;obtain⟨x0,x1,x2,x3,x4,xf⟩:=A3 hX1.1;have xf0:=xf 0;clear hNO Ab hb1 hX1 HCN HNO1 HX0 xf Ja HRN HS0 HB0;go_wp2_with fail;clear x0 x1 x2 x3 x4 xf0;generalize hw1s:w1.setCell ⟨w.heap.size,0,none⟩ (.slice aN NN cN)=w1s at *;clear hw1s
 go_loopw [21] (fun z wr=>∃k:Nat,k<=NN/\z=.int .i64 k/\Hid (BX wr w.heap.size (.slice aN NN cN) (.slice af NF cf) (.slice ax NX cx) (.slice ap NP cp) (.slice aS NS cs))/\Hid (Bq w wr)/\Hid (∃rN,NO wr (w.heap.size+2) w.heap.size (brX w.heap.size) 73 (.slice aN NN cN) rN/\rN.map (·.1)=M.ns)) (fun z _=>NN-(intOf z).toNat)
 case atStart=>exact⟨0,qP _,rfl,HX1,HB1,HNOs⟩
 case round=>
  obtain⟨k,hk,rfl,hBX,Aa,Bw⟩:=hrel;clear HX1 HB1 HNOs;by_cases hlt:k<NN
  .
   obtain⟨rN,hNO,Ba⟩:=Bw.out;clear Bw;have Up:=qH Ba;have hrl:rN.length=NN:=by rw[HL.out.1,<- Ba,qM]
   obtain⟨rr,hr⟩:∃rr,rN[k]? = some rr:=⟨_,gEl (by omega)⟩;obtain⟨_,Bo⟩:=j5 hNO.own;obtain⟨gN,cN',e1,_,_,hgN,hcells,Eo⟩:=Bo (by omega);injection e1 with e1 e2 e3;subst e1;have Ac:∀i,i<8->wr.cell? ⟨gN,k*8+i,none⟩=(encN rr)[i]?:=fun i hi=>by rw[hcells _ (by omega)];exact ab4 rN k rr hr i hi
   have c0:=Ac 0 (by omega);have c1:=Ac 1 (by omega);have c2:=Ac 2 (by omega);have c3:=Ac 3 (by omega);have c4:=Ac 4 (by omega);have c5:=Ac 5 (by omega);have c6:=Ac 6 (by omega);have c7:=Ac 7 (by omega);have f7:=Eo (k*8+7);simp only[encN,xM,xu,Nat.add_zero]at c0 c1 c2 c3 c4 c5 c6 c7;have Ur:w.heap.size+2<=gN:=by have:=(hNO.own.lt gN rfl).1;exact this
   have HNO:Hid _:=hNO;have HR:=qH hr;have Av:=hNO.good rr (mGt hr);have Ce:rr.1.ins.length<=100000:=HSM.out.ins rr.1 (by rw[<- Ba];exact qg.2 ⟨rr,mGt hr,rfl⟩);obtain⟨x0,x1,x2,x3,x4,xf⟩:=A3 hBX.out.1;obtain⟨nd,ai,ci⟩:=rr;simp only at c0 c1 c2 c3 c4 c5 c6 c7 Av Ce;have hCP:∀W,Bq wr W->W.cell? ⟨wr.heap.size,7,none⟩=some (.slice ai nd.ins.length ci)->Calls prog 123 #[.slice ai nd.ins.length ci] W fun e w'=>∃a2 c2,e=.returned (.slice a2 nd.ins.length c2)/\w'.cell? ⟨w.heap.size,0,none⟩=some (.slice (some ⟨gN,0,none⟩) NN cN)/\w'.cell? ⟨wr.heap.size,7,none⟩=some (.slice ai nd.ins.length ci)/\w'.cell? ⟨gN,k*8+7,none⟩=some (.slice ai nd.ins.length ci)/\w'.frozen? ⟨gN,k*8+7,none⟩=false/\Hid (F2 w' (.slice a2 nd.ins.length c2) nd.ins/\(∀a,a2=some a->wr.heap.size<=a.block)/\Bq wr w'):=by
    intro W hW h7;refine (bE9 ai ci nd.ins W (Av.1.below hW) Ce).mono ?_;rintro e w'⟨a2,c2,rfl,hrp,Bl,hb⟩;have hB:=hW.trans (hb.mono hW.size);refine⟨a2,c2,rfl,qC hB x0,qC hb h7,qC hB c7,?_,⟨hrp,fun a ha=>?_,hB⟩⟩
    . have:=hB.block gN hgN;simp only[World.frozen?]at f7 ⊢;rw[this];exact f7
    . have:=Bl a ha;have:=hW.size;omega
   have HCP:Hid _:=hCP;obtain⟨IL,hIL⟩:=qE nd.ins.length;have HIL:=qH hIL;rw[<- hIL]at HCP c7;generalize nd.kind=n0 at *;generalize (⟨nd.file.toArray⟩:ByteArray)=n1 at *;generalize nd.c.kind=n2 at *;generalize (⟨nd.c.word.toArray⟩:ByteArray)=n3 at *;generalize nd.c.n=n4 at *;generalize nd.how=n5 at *;generalize nd.wide=n6 at *;clear hCP hNO Ba hr Bo hcells Eo Ac Av Ce x1 x2 x3 x4 xf hIL e2 e3 hrl;go_wp2_with fail;have q1:gN≠w.heap.size:=by omega
   have q2:w.heap.size≠gN:=by omega
   have q3:gN≠wr.heap.size:=by omega
   have q4:wr.heap.size≠gN:=by omega
   go_region_held3 (fun W=>W.cell? ⟨w.heap.size,0,none⟩=some (.slice (some ⟨gN,0,none⟩) NN cN)/\W.cell? ⟨wr.heap.size,7,none⟩=some (.slice ai IL ci)) (go_keep) (first|(go_at_call 123;refine qD (HCP.out _ ?_ ?_) ?_;(repeat (first|exact boxE | refine Below.drew ?_));(simp[*]);rintro e w2⟨a2,d2,rfl,y0,y7,z7,zf,hh⟩))
   obtain⟨hrp2,Qw,hB2⟩:=hh.out
   have HNO2:=qH (show ∃rN,NO (w2.setCell ⟨gN,k*8+7,none⟩ (.slice a2 IL d2)) (w.heap.size+2) w.heap.size (brX w.heap.size) 73 (.slice (some ⟨gN,0,none⟩) NN cN) rN/\rN.map (·.1)=M.ns from by
    have h1:=HNO.out.below hB2
    have h2:=NO.setIn h1 (r':=(nd,a2,d2)) HR.out rfl ⟨(by have h5:=hrp2;rw[HIL.out]at h5;exact h5),fun hn a ha hfs=>by
     have h3:=Qw a ha
     rcases hfs with e | e | e
     . have:=Aa.out.size
       omega
     . injection e with e
       omega
     . have e':a.block=w.heap.size+1:=e
       have:=BX.lt hBX.out
       omega⟩
    have e3:(Value.slice a2 IL d2)=.slice a2 nd.ins.length d2:=by rw[HIL.out]
    rw[e3]
    exact⟨rN.set k (nd,a2,d2),h2,(cm6 (r':=(nd,a2,d2)) HR.out rfl).trans Up.out⟩)
   have Eb:Hid (BX (w2.setCell ⟨gN,k*8+7,none⟩ (.slice a2 IL d2)) w.heap.size (.slice (some ⟨gN,0,none⟩) NN cN) (.slice af NF cf) (.slice ax NX cx) (.slice ap NP cp) (.slice aS NS cs)):=BX.other (BX.below hBX.out hB2) (by show w.heap.size+1<gN;omega);have Jb:Hid (Bq w (w2.setCell ⟨gN,k*8+7,none⟩ (.slice a2 IL d2))):=(qT Aa hB2).out.setCell (by show w.heap.size<=gN;omega) _;clear hh hrp2 Qw hB2 y0 y7 z7 zf HCP q1 q2 q3 q4 c0 c1 c2 c3 c4 c5 c6 c7;go_wp2_with fail;go_roundw
   case rel=>exact⟨k+1,by omega,by go_num,Eb,Jb,HNO2⟩
   case measure=>simp[intOf];omega
  .
   have HW1:=qH Bw;clear Bw;obtain⟨rF0,hrF,Us,hrFp,hrF0⟩:=ce1 HM.out.files;have hlF:rF0.length=M.fs.length:=by rw[<- hrF,qM]
   have HCF:=qH (show ∀W,Bq w W->Calls prog 124 #[.slice af NF cf] W fun e w'=>∃v',e=.returned v'/\w'.ownsRow W.heap.size 83 2 v' NF (Gs.f8 rF0)/\Bq W w' from fun W hW=>by
    have:=bh7 af M.fs.length cf (Gs.f8 rF0) W (by rw[o8,hlF]) HSM.out.fs hrF0 (fun a ha j u hu=>(hW.cell (bLt w _ (Us a ha j u hu))).trans (Us a ha j u hu)) (ab3 rF0)
    rw[<- HL.out.2.1]at this
    exact this)
   have HFP:=qH hrFp;have HRF:=qH hrF;have HLF:Hid (rF0.length=NF):=hlF.trans HL.out.2.1.symm;obtain⟨x0,x1,x2,x3,x4,xf⟩:=A3 hBX.out.1;have xf1:=xf 1;clear hrF Us hrFp hrF0 hlF x0 x2 x3 x4 xf;go_wp2_with fail;refine qD (HCF.out wr Aa.out) ?_;rintro e v1⟨vF,rfl,Ab,hb1⟩;obtain⟨⟨aF,cF,rfl,hcF1,Ut⟩,_⟩:=j5 Ab;have hcF2':cF<=9223372036854775807:=by unfold maxLen at Ut;exact Ut
   have hX1:=BX.below hBX.out hb1;have Nc:=hBX.out.lt;have HX1:Hid (BX (v1.setCell ⟨w.heap.size,1,none⟩ (.slice aF NF cF)) w.heap.size (.slice aN NN cN) (.slice aF NF cF) (.slice ax NX cx) (.slice ap NP cp) (.slice aS NS cs)):=BX.set hX1.1 hX1.2 rfl;have HB1:Hid (Bq w (v1.setCell ⟨w.heap.size,1,none⟩ (.slice aF NF cF))):=(Aa.out.trans (hb1.mono (by have:=Aa.out.size;omega))).setCell (qB _) _;have HO1:Hid (Off w.heap.size wr (v1.setCell ⟨w.heap.size,1,none⟩ (.slice aF NF cF))):=(Off.of_below hb1).set rfl
   have HF1:=qH (show ∃rF,FO2 (v1.setCell ⟨w.heap.size,1,none⟩ (.slice aF NF cF)) wr.heap.size w.heap.size (.slice aF NF cF) rF/\rF.map (·.1)=M.fs from by
    have hbw:Bq w v1:=Aa.out.trans (hb1.mono Aa.out.size)
    have hlo:w.heap.size+2<=wr.heap.size:=by omega
    have h1:FO2 v1 wr.heap.size w.heap.size (.slice aF NF cF) rF0:=by
     refine⟨⟨by rw[HLF.out];exact Ab,fun r hr=>?_⟩,hlo,fun r hr h0 a ha=>?_⟩
     . obtain⟨q1,q2⟩:=HFP.out r hr
       refine⟨q1,q2.below hbw,fun h0 a ha e=>?_⟩
       rw[ha]at q2
       have:=aQ8 q2 h0
       have:=(Ab.lt _ e).1
       omega
     . obtain⟨q1,q2⟩:=HFP.out r hr
       rw[ha]at q2
       have:=aQ8 q2 h0
       omega
    exact⟨rF0,h1.off' (OffB.of ((Off.refl _ _).set rfl)),HRF.out⟩)
   obtain⟨x0,x1',x2,x3,x4,xf⟩:=A3 hX1.1;have xf1':=xf 1;have HWS:=qH (show w.heap.size+2<=wr.heap.size by omega);clear Ab hb1 hX1 HCF xf Ut HRF x0 x2 x3 x4 HFP HLF x1 xf1 Nc hBX;go_wp2_with fail;clear x1' xf1';generalize hv1s:v1.setCell ⟨w.heap.size,1,none⟩ (.slice aF NF cF)=v1s at *;clear hv1s;obtain⟨wa,hwa⟩:=qE wr;rw[<- hwa]at HO1 HWS HW1 HF1;clear Aa;clear hwa;go_loopw [43] (fun z wr=>∃k:Nat,k<=NF/\z=.int .i64 k/\Hid (BX wr w.heap.size (.slice aN NN cN) (.slice aF NF cF) (.slice ax NX cx) (.slice ap NP cp) (.slice aS NS cs))/\Hid (Bq w wr)/\Hid (Off w.heap.size wa wr)/\Hid (∃rF,FO2 wr wa.heap.size w.heap.size (.slice aF NF cF) rF/\rF.map (·.1)=M.fs)) (fun z _=>NF-(intOf z).toNat)
   case atStart=>exact⟨0,qP _,rfl,HX1,HB1,HO1,HF1⟩
   case round=>
    obtain⟨k,hk,rfl,hBX,Aa,Aq,Bw⟩:=hrel;clear HX1 HB1 HO1 HF1;by_cases hlt:k<NF
    .
     obtain⟨rF,hFO,Ba⟩:=Bw.out;clear Bw;have Up:=qH Ba;have hrl:rF.length=NF:=by rw[HL.out.2.1,<- Ba,qM]
     obtain⟨rr,hr⟩:∃rr,rF[k]? = some rr:=⟨_,gEl (by omega)⟩;obtain⟨_,Bo⟩:=j5 hFO.fo.own;obtain⟨gF,cF',e1,_,_,hgF,hcells,Eo⟩:=Bo (by omega);injection e1 with e1 e2 e3;subst e1;obtain⟨a1,a2⟩:=U6 rF k rr hr;have c0:=hcells (k*2) (by omega);have c1:=hcells (k*2+1) (by omega);rw[a1]at c0;rw[a2]at c1;have f1:=Eo (k*2+1);have Pn:wa.heap.size<=gF:=(hFO.fo.own.lt gF rfl).1;have Ur:w.heap.size+2<=gF:=by have:=HWS.out;omega
     have HFO:=qH hFO;have HR:=qH hr;obtain⟨g1,g2,g3⟩:=hFO.fo.good rr (mGt hr);have hbl:rr.1.b.length<=100000:=HSM.out.fb rr.1 (by rw[<- Ba];exact qg.2 ⟨rr,mGt hr,rfl⟩);obtain⟨x0,x1,x2,x3,x4,xf⟩:=A3 hBX.out.1;obtain⟨fl,fa,fn,fc⟩:=rr;simp only at c0 c1 g1 g2 g3 hbl;rw[g1]at g2;have HCB:Hid _:=bb4 (bm:=w.heap.size) (j1:=1) (j2:=1) g1 g2 hbl x1 c1 f1;have HG1:=qH g1;generalize (⟨fl.name.toArray⟩:ByteArray)=n0 at *;clear hFO Ba hr Bo hcells Eo g1 g2 g3 hbl x0 x2 x3 x4 xf e2 e3 hrl a1 a2;go_wp2_with fail;have q1:gF≠w.heap.size:=by omega
     have q2:w.heap.size≠gF:=by omega
     have q3:gF≠wr.heap.size:=by omega
     have q4:wr.heap.size≠gF:=by omega
     go_region_held3 (fun W=>W.cell? ⟨w.heap.size,1,none⟩=some (.slice (some ⟨gF,0,none⟩) NF cF)/\W.cell? ⟨wr.heap.size,1,none⟩=some (.slice fa fn fc)) (go_keep) (first|(go_at_call 125;refine qD (HCB.out _ ?_ ?_) ?_;(repeat (first|exact boxE | refine Below.drew ?_));(simp[*]);rintro e w2⟨b2,d2,rfl,y0,y7,z7,zf,hh⟩))
     obtain⟨Bt,hB2⟩:=hh.out
     have HF2:=qH (show ∃rF,FO2 (w2.setCell ⟨gF,k*2+1,none⟩ (.slice b2 fn d2)) wa.heap.size w.heap.size (.slice (some ⟨gF,0,none⟩) NF cF) rF/\rF.map (·.1)=M.fs from by
      have h1:FO2 w2 wa.heap.size w.heap.size (.slice (some ⟨gF,0,none⟩) NF cF) rF:=HFO.out.off' (OffB.of (Off.of_below hB2))
      have hrd:=Reads.of_owns Bt
      have Bl:∀a,b2=some a->wr.heap.size<=a.block:=fun a ha=>by
       rcases id Bt.2 with⟨e1,h0⟩|⟨g,cap,cur,e1,hb,_⟩
       . injection e1 with e1
         rw[ha]at e1
         cases e1
       . injection e1 with e1
         rw[ha]at e1
         injection e1 with e1
         subst e1
         exact hb
      have h2:ac6 w2 (some gF) (fl,b2,fn,d2):=⟨HG1.out,by show Reads w2 (.slice b2 fn d2) _ _;rw[HG1.out]at hrd ⊢;exact hrd,fun h0 a ha he=>by
       have:=Bl a ha
       injection he with he
       omega⟩
      refine⟨_,⟨h1.fo.set HR.out (r':=(fl,b2,fn,d2)) rfl h2,h1.lo,fun r hr h0 a ha=>?_⟩,(ce2 (r':=(fl,b2,fn,d2)) HR.out rfl).trans Up.out⟩
      rcases xm hr with hr | rfl
      . exact h1.good r hr h0 a ha
      . have:=Bl a ha
        have:=BX.lt hBX.out
        omega)
     have Eb:Hid (BX (w2.setCell ⟨gF,k*2+1,none⟩ (.slice b2 fn d2)) w.heap.size (.slice aN NN cN) (.slice (some ⟨gF,0,none⟩) NF cF) (.slice ax NX cx) (.slice ap NP cp) (.slice aS NS cs)):=BX.other (BX.below hBX.out hB2) (by show w.heap.size+1<gF;omega);have Jb:Hid (Bq w (w2.setCell ⟨gF,k*2+1,none⟩ (.slice b2 fn d2))):=(qT Aa hB2).out.setCell (by show w.heap.size<=gF;omega) _;have Nh:Hid (Off w.heap.size wa (w2.setCell ⟨gF,k*2+1,none⟩ (.slice b2 fn d2))):=(Aq.out.trans (Off.of_below hB2)).setNew Pn;clear hh Bt hB2 y0 y7 z7 zf HCB q1 q2 q3 q4 c0 c1;go_wp2_with fail;go_roundw
     case rel=>exact⟨k+1,by omega,by go_num,Eb,Jb,Nh,HF2⟩
     case measure=>simp[intOf];omega
    .
     have HW2:=qH Bw;clear Bw;obtain⟨X0,hXl,hXc,hXr,hX00⟩:=bs3 HM.out.pipes
     have HCX:=qH (show ∀W,Bq w W->Calls prog 126 #[.slice ax NX cx] W fun e w'=>∃v',e=.returned v'/\w'.ownsRow W.heap.size 66 4 v' NX (y9 M.pipes X0).flatten/\Bq W w' from fun W hW=>by
      have:=bh5 ax M.pipes.length cx (y9 M.pipes X0).flatten W (by rw[ai4 _ (J5 _ _)];unfold y9;rw[xg,hXl,Nat.min_self]) HSM.out.xs hX00 (fun a ha j u hu=>(hW.cell (bLt w _ (hXc a ha j u hu))).trans (hXc a ha j u hu)) (bi7 _ _)
      rw[<- HL.out.2.2.1]at this
      exact this)
     have HXR:=qH hXr;have HXL:=qH hXl;obtain⟨x0,x1,x2,x3,x4,xf⟩:=A3 hBX.out.1;have xf2:=xf 2;clear hXl hXc hXr hX00 x0 x1 x3 x4 xf;go_wp2_with fail;refine qD (HCX.out wr Aa.out) ?_;rintro e v2⟨vX,rfl,Ab,hb1⟩;obtain⟨⟨aX,cX,rfl,Ha,Ff⟩,_⟩:=j5 Ab;have hcX2':cX<=9223372036854775807:=by unfold maxLen at Ff;exact Ff
     have hX1:=BX.below hBX.out hb1;have Nc:=hBX.out.lt;have HX1:Hid (BX (v2.setCell ⟨w.heap.size,2,none⟩ (.slice aX NX cX)) w.heap.size (.slice aN NN cN) (.slice aF NF cF) (.slice aX NX cX) (.slice ap NP cp) (.slice aS NS cs)):=BX.set hX1.1 hX1.2 rfl;have HB1:Hid (Bq w (v2.setCell ⟨w.heap.size,2,none⟩ (.slice aX NX cX))):=(Aa.out.trans (hb1.mono (by have:=Aa.out.size;omega))).setCell (qB _) _;have HO1:Hid (Off w.heap.size wr (v2.setCell ⟨w.heap.size,2,none⟩ (.slice aX NX cX))):=(Off.of_below hb1).set rfl
     have HP1:=qH (show ∃X O,PT w (v2.setCell ⟨w.heap.size,2,none⟩ (.slice aX NX cX)) wr.heap.size (.slice aX NX cX) M.pipes 0 X O/\OLo O wr.heap.size (v2.setCell ⟨w.heap.size,2,none⟩ (.slice aX NX cX))/\NoBA O from by
      refine⟨X0,rowO (.slice aX NX cX) .pipes noO,⟨?_,bs5 _ _ _,HXL.out,fun q x s hq=>absurd hq (by omega),fun q x s _ hx hs=>HXR.out q x s hx hs⟩,bJ4 (cq8 _ wr) (fun g hg=>?_) ?_,bs6 cm5 (by simp) (by simp)⟩
      . rw[<- HL.out.2.2.1]
        refine l6 Ab (fun g hg=>qJ _ _ _ _ (fun e=>?_))
        have:=(Ab.lt g hg).1
        have e':g=w.heap.size:=e
        omega
      . rw[show (v2.setCell ⟨w.heap.size,2,none⟩ (.slice aX NX cX)).heap.size=v2.heap.size by simp]
        exact Ab.lt g hg
      . rw[show (v2.setCell ⟨w.heap.size,2,none⟩ (.slice aX NX cX)).heap.size=v2.heap.size by simp]
        exact hb1.size)
     obtain⟨x0,x1,x2',x3,x4,xf⟩:=A3 hX1.1;have xf2':=xf 2;have Jx:=qH (show w.heap.size+2<=wr.heap.size by omega);clear Ab hb1 hX1 HCX xf Ff x0 x1 x3 x4 HXR HXL x2 xf2 Nc hBX hlt;go_wp2_with fail;clear x2' xf2';generalize hv2s:v2.setCell ⟨w.heap.size,2,none⟩ (.slice aX NX cX)=v2s at *;clear hv2s;obtain⟨wb,hwb⟩:=qE wr;rw[<- hwb]at HO1 Jx HW2 HP1 Aq;have HOAB:=qH Aq;clear Aa Aq;clear hwb;go_loopw [64] (fun z wr=>∃k:Nat,k<=NX/\z=.int .i64 k/\Hid (BX wr w.heap.size (.slice aN NN cN) (.slice aF NF cF) (.slice aX NX cX) (.slice ap NP cp) (.slice aS NS cs))/\Hid (Bq w wr)/\Hid (Off w.heap.size wb wr)/\Hid (∃X O,PT w wr wb.heap.size (.slice aX NX cX) M.pipes k X O/\OLo O wb.heap.size wr/\NoBA O)) (fun z _=>NX-(intOf z).toNat)
     case atStart=>exact⟨0,qP _,rfl,HX1,HB1,HO1,HP1⟩
     case round=>
      obtain⟨k,hk,rfl,hBX,Aa,Aq,Bw⟩:=hrel;clear HX1 HB1 HO1 HP1;by_cases hlt:k<NX
      .
       obtain⟨X,O,hPT,hlo,hnb⟩:=Bw.out;clear Bw;obtain⟨x,hx⟩:∃x,M.pipes[k]? = some x:=⟨_,gEl (by have:=HL.out.2.2.1;omega)⟩;obtain⟨s,hs⟩:∃s,X[k]? = some s:=⟨_,gEl (by have:=hPT.len;have:=HL.out.2.2.1;omega)⟩;have Ab:=hPT.own;rw[<- HL.out.2.2.1]at Ab;obtain⟨_,Bo⟩:=j5 Ab;obtain⟨gX,cX',e1,_,_,hgX,hcells,Eo⟩:=Bo (by omega);injection e1 with e1 e2 e3;subst e1;have An:(y9 M.pipes X)[k]? = some (K2 x s):=Y5 hx hs;have hat:=Y9 _ k _ (J5 M.pipes X) An;have c0:=(hcells (k*4) (by omega)).trans (hat 0 (by omega));have c1:=(hcells (k*4+1) (by omega)).trans (hat 1 (by omega));have c2:=(hcells (k*4+2) (by omega)).trans (hat 2 (by omega));have c3:=(hcells (k*4+3) (by omega)).trans (hat 3 (by omega));simp only[K2,xM,xu]at c0 c1 c2 c3;have f0:=Eo (k*4);have Pn:wb.heap.size<=gX:=(Ab.lt gX rfl).1
       have Ur:w.heap.size+2<=gX:=by have:=Jx.out;omega
       have HPT:=qH hPT;have HLO:=qH hlo;have HNB:=qH hnb;have HX:=qH hx;have hrd:=(hPT.rest k x s (qB _) hx hs).below Aa.out;have hbl:x.b.length<=100000:=HSM.out.xb x (mGt hx);obtain⟨x0,x1,x2,x3,x4,xf⟩:=A3 hBX.out.1;unfold sl at c0 hrd;obtain⟨fa,fc⟩:=s;simp only at c0 hrd;obtain⟨BL,hBL⟩:=qE x.b.length;have HBL:=qH hBL;rw[<- hBL]at c0;have HCB:Hid _:=bb4 (bm:=w.heap.size) (j1:=2) (j2:=0) hBL hrd hbl x2 c0 f0;generalize x.room=n1 at *;generalize x.closed=n2 at *;generalize x.shut=n3 at *;clear hPT hlo hnb hx hs Bo hcells Eo hrd hbl x0 x1 x3 x4 xf e2 e3 An hat Ab hBL;go_wp2_with fail;have q1:gX≠w.heap.size:=by omega
       have q2:w.heap.size≠gX:=by omega
       have q3:gX≠wr.heap.size:=by omega
       have q4:wr.heap.size≠gX:=by omega
       go_region_held3 (fun W=>W.cell? ⟨w.heap.size,2,none⟩=some (.slice (some ⟨gX,0,none⟩) NX cX)/\W.cell? ⟨wr.heap.size,0,none⟩=some (.slice fa BL fc)) (go_keep) (first|(go_at_call 125;refine qD (HCB.out _ ?_ ?_) ?_;(repeat (first|exact boxE | refine Below.drew ?_));(simp[*]);rintro e w2⟨b2,d2,rfl,y0,y7,z7,zf,hh⟩))
       obtain⟨Bt,hB2⟩:=hh.out
       have HP2:=qH (show ∃X O,PT w (w2.setCell ⟨gX,k*4,none⟩ (.slice b2 BL d2)) wb.heap.size (.slice (some ⟨gX,0,none⟩) NX cX) M.pipes (k+1) X O/\OLo O wb.heap.size (w2.setCell ⟨gX,k*4,none⟩ (.slice b2 BL d2))/\NoBA O from by
        rw[HBL.out]at Bt
        obtain⟨s2,h1,h2⟩:=PT.step HL.out.2.2.1 HPT.out HLO.out (by have:=Aq.out.size;omega) HX.out hB2 Bt
        rw[<- HBL.out]at h1 h2
        exact⟨_,_,h1,h2,HNB.out.add _ _ (by simp) (by simp)⟩)
       have Eb:Hid (BX (w2.setCell ⟨gX,k*4,none⟩ (.slice b2 BL d2)) w.heap.size (.slice aN NN cN) (.slice aF NF cF) (.slice (some ⟨gX,0,none⟩) NX cX) (.slice ap NP cp) (.slice aS NS cs)):=BX.other (BX.below hBX.out hB2) (by show w.heap.size+1<gX;omega);have Jb:Hid (Bq w (w2.setCell ⟨gX,k*4,none⟩ (.slice b2 BL d2))):=(qT Aa hB2).out.setCell (by show w.heap.size<=gX;omega) _;have Nh:Hid (Off w.heap.size wb (w2.setCell ⟨gX,k*4,none⟩ (.slice b2 BL d2))):=(Aq.out.trans (Off.of_below hB2)).setNew Pn;clear hh Bt hB2 y0 y7 z7 zf HCB q1 q2 q3 q4 c0 c1 c2 c3;go_wp2_with fail;go_roundw
       case rel=>exact⟨k+1,by omega,by go_num,Eb,Jb,Nh,HP2⟩
       case measure=>simp[intOf];omega
      .
       obtain⟨X9,O9,Jy,hlo9,hnb9⟩:=Bw.out
       have HPT9:Hid (PT w wr wb.heap.size (.slice aX NX cX) M.pipes NX X9 O9):=(show PT w wr wb.heap.size (.slice aX NX cX) M.pipes NX X9 O9 from by
        have e:k=NX:=by omega
        rw[e]at Jy
        exact Jy)
       have Ni:=qH hlo9;have HNB9:=qH hnb9;clear Bw Jy hlo9 hnb9;obtain⟨P0,hPl,hPc,hPr,hP00,hP1⟩:=bs4 HM.out.procs
       have HCX:=qH (show ∀W,Bq w W->Calls prog 127 #[.slice ap NP cp] W fun e w'=>∃v',e=.returned v'/\w'.ownsRow W.heap.size 76 5 v' NP (v6 M.ps P0).flatten/\Bq W w' from fun W hW=>by
        have:=bh6 ap M.ps.length cp (v6 M.ps P0).flatten W (by rw[ai4 _ (J6 _ _)];unfold v6;rw[xg,hPl,Nat.min_self]) HSM.out.ps hP00 (fun a ha j u hu=>(hW.cell (bLt w _ (hPc a ha j u hu))).trans (hPc a ha j u hu)) hP1
        rw[<- HL.out.2.2.2.1]at this
        exact this)
       have HPR:=qH hPr;have HPL:=qH hPl;obtain⟨x0,x1,x2,x3,x4,xf⟩:=A3 hBX.out.1;have xf3:=xf 3;clear hPl hPc hPr hP00 hP1 x0 x1 x2 x4 xf;go_wp2_with fail;refine qD (HCX.out wr Aa.out) ?_;rintro e v3⟨vP,rfl,Ab,hb1⟩;obtain⟨⟨aP,cP,rfl,Dn,En⟩,_⟩:=j5 Ab;have hcP2':cP<=9223372036854775807:=by unfold maxLen at En;exact En
       have hX1:=BX.below hBX.out hb1;have Nc:=hBX.out.lt;have hws:=Aq.out.size;have HX1:Hid (BX (v3.setCell ⟨w.heap.size,3,none⟩ (.slice aP NP cP)) w.heap.size (.slice aN NN cN) (.slice aF NF cF) (.slice aX NX cX) (.slice aP NP cP) (.slice aS NS cs)):=BX.set hX1.1 hX1.2 rfl;have HB1:Hid (Bq w (v3.setCell ⟨w.heap.size,3,none⟩ (.slice aP NP cP))):=(Aa.out.trans (hb1.mono (by have:=Aa.out.size;omega))).setCell (qB _) _;have HO1:Hid (Off w.heap.size wr (v3.setCell ⟨w.heap.size,3,none⟩ (.slice aP NP cP))):=(Off.of_below hb1).set rfl
       have HP1:=qH (show ∃P O,QT w (v3.setCell ⟨w.heap.size,3,none⟩ (.slice aP NP cP)) wb.heap.size (.slice aP NP cP) M.ps 0 P O/\OLo O wb.heap.size (v3.setCell ⟨w.heap.size,3,none⟩ (.slice aP NP cP))/\NoBA O/\∀g o,O9 g=some o->O g=some o from by
        refine⟨P0,rowO (.slice aP NP cP) .procs O9,⟨?_,bs5 _ _ _,HPL.out,fun q x s hq=>absurd hq (by omega),fun q x s _ hx hs=>HPR.out q x s hx hs⟩,bJ4 Ni.out (fun g hg=>?_) ?_,bs6 HNB9.out (by simp) (by simp),ce3 Ni.out (fun g hg=>(Ab.lt g hg).1)⟩
        . rw[<- HL.out.2.2.2.1]
          refine l6 (aR0 Ab hws) (fun g hg=>qJ _ _ _ _ (fun e=>?_))
          have:=(Ab.lt g hg).1
          have e':g=w.heap.size:=e
          omega
        . rw[show (v3.setCell ⟨w.heap.size,3,none⟩ (.slice aP NP cP)).heap.size=v3.heap.size by simp]
          have:=Ab.lt g hg
          omega
        . rw[show (v3.setCell ⟨w.heap.size,3,none⟩ (.slice aP NP cP)).heap.size=v3.heap.size by simp]
          exact hb1.size)
       obtain⟨x0,x1,x2,x3',x4,xf⟩:=A3 hX1.1;have xf3':=xf 3;have HWS3:=qH (show w.heap.size+2<=wr.heap.size by omega);have HGP:=qH (show ∀g,(Value.slice aP NP cP).ownBlock=some g->wr.heap.size<=g from fun g hg=>(Ab.lt g hg).1);clear Ab hb1 hX1 HCX xf En x0 x1 x2 x4 HPR HPL x3 xf3 Nc hBX hlt hws;go_wp2_with fail;clear x3' xf3';generalize hv3s:v3.setCell ⟨w.heap.size,3,none⟩ (.slice aP NP cP)=v3s at *;clear hv3s;obtain⟨wc,hwc⟩:=qE wr;rw[<- hwc]at HO1 HWS3 HPT9 Ni Aq HGP;have Uu:=qH Aq;clear Aa Aq;clear hwc;go_loopw [85] (fun z wr=>∃k:Nat,k<=NP/\z=.int .i64 k/\Hid (BX wr w.heap.size (.slice aN NN cN) (.slice aF NF cF) (.slice aX NX cX) (.slice aP NP cP) (.slice aS NS cs))/\Hid (Bq w wr)/\Hid (Off w.heap.size wc wr)/\Hid (∃P O,QT w wr wb.heap.size (.slice aP NP cP) M.ps k P O/\OLo O wb.heap.size wr/\NoBA O/\∀g o,O9 g=some o->O g=some o)) (fun z _=>NP-(intOf z).toNat)
       case atStart=>exact⟨0,qP _,rfl,HX1,HB1,HO1,HP1⟩
       case round=>
        obtain⟨k,hk,rfl,hBX,Aa,Aq,Bw⟩:=hrel;clear HX1 HB1 HO1 HP1;by_cases hlt:k<NP
        .
         obtain⟨P,O,hQT,hlo,hnb,hO9⟩:=Bw.out;clear Bw;obtain⟨p,hp⟩:∃p,M.ps[k]? = some p:=⟨_,gEl (by have:=HL.out.2.2.2.1;omega)⟩;obtain⟨s,hs⟩:∃s,P[k]? = some s:=⟨_,gEl (by have:=hQT.len;have:=HL.out.2.2.2.1;omega)⟩;have Ab:=hQT.own;rw[<- HL.out.2.2.2.1]at Ab;obtain⟨_,Bo⟩:=j5 Ab;obtain⟨gP,cP',e1,_,_,hgP,hcells,Eo⟩:=Bo (by omega);injection e1 with e1 e2 e3;subst e1;have An:(v6 M.ps P)[k]? = some (H3 p s):=Y5 hp hs;have hat:=Y9 _ k _ (J6 M.ps P) An;have c0:=(hcells (k*5) (by omega)).trans (hat 0 (by omega));have c1:=(hcells (k*5+1) (by omega)).trans (hat 1 (by omega));have c2:=(hcells (k*5+2) (by omega)).trans (hat 2 (by omega));have c3:=(hcells (k*5+3) (by omega)).trans (hat 3 (by omega));have c4:=(hcells (k*5+4) (by omega)).trans (hat 4 (by omega));simp only[H3,xM,xu]at c0 c1 c2 c3 c4
         have f0:=Eo (k*5);have f2:=Eo (k*5+2);obtain⟨hrg,hro⟩:=hQT.rest k p s (qB _) hp hs;obtain⟨ag,cg,hgv,_,_⟩:=hrg.shape;obtain⟨ab,cb,hov,_,_⟩:=hro.shape;rw[hgv]at c0 hrg;rw[hov]at c2 hro;have Pn:wb.heap.size<=gP:=(Ab.lt gP rfl).1;have hgpc:wc.heap.size<=gP:=HGP.out gP rfl;have Ur:w.heap.size+2<=gP:=by have:=Jx.out;omega
         obtain⟨q1,q2,q3,q4⟩:=HSM.out.pl p (mGt hp);obtain⟨x0,x1,x2,x3,x4,xf⟩:=A3 hBX.out.1;obtain⟨GL,hGL⟩:=qE p.got.length;obtain⟨OL,hOL⟩:=qE p.out.length;have HGL:=qH hGL;have HOL:=qH hOL;rw[<- hGL]at c0;rw[<- hOL]at c2;have HC1:Hid _:=bb5 (bm:=w.heap.size) (j1:=3) (g:=gP) (o1:=k*5) (o2:=k*5+2) (u1:=.slice ag GL cg) (u2:=.slice ab OL cb) (.gots k) (Own.got k) (by simp) hGL (hrg.below Aa.out) q1 q3 x3 c0 f0 c2 f2;have HC2:Hid _:=bb5 (bm:=w.heap.size) (j1:=3) (g:=gP) (o1:=k*5) (o2:=k*5+2) (u1:=.slice ag GL cg) (u2:=.slice ab OL cb) (.outs k) (Own.out k) (by simp) hOL (hro.below Aa.out) q2 q4 x3 c0 f0 c2 f2;have HQT:=qH hQT;have HLO:=qH hlo;have HNB:=qH hnb;have HO9:=qH hO9;have HP:=qH hp;generalize p.pos=n1 at *;generalize p.rd=n3 at *;generalize p.ov=n4 at *;clear hQT hlo hnb hO9 hp hs Bo hcells Eo hrg hro x0 x1 x2 x4 xf e2 e3 An hat Ab hGL hOL q1 q2 q3 q4 hgv hov
         go_wp2_with fail;have q1:gP≠w.heap.size:=by omega
         have q2:w.heap.size≠gP:=by omega
         have q3:gP≠wr.heap.size:=by omega
         have q4:wr.heap.size≠gP:=by omega
         go_region_held3 (fun W=>W.cell? ⟨w.heap.size,3,none⟩=some (.slice (some ⟨gP,0,none⟩) NP cP)/\W.cell? ⟨wr.heap.size,0,none⟩=some (.slice ag GL cg)/\W.cell? ⟨wr.heap.size,2,none⟩=some (.slice ab OL cb)) (go_keep) (first|(go_at_call_of 128 (Value.slice ag GL cg);refine qD (HC1.out _ ?_ ?_ ?_) ?_;(first|(repeat (first|exact boxE | refine Below.drew ?_)) | assumption);(simp[*]);(simp[*]);rintro e w2⟨a2,d2,rfl,y0,y1,y2,z0,zf0,z2,zf2,hh1,hh2,hh3⟩)|(go_at_call_of 128 (Value.slice ab OL cb);refine qD (HC2.out _ ?_ ?_ ?_) ?_;(exact Hid.out hh3);(simp[*]);(simp[*]);rintro e w3⟨a3,d3,rfl,y0',y1',y2',z0',zf0',z2',zf2',hh1',hh2',hh3'⟩))
         have hB2:=hh3.out;have Uw:=hh2'.out;have hB3:=hh3'.out
         have HQ2:=qH (show ∃P O,QT w ((w3.setCell ⟨gP,k*5,none⟩ (.slice a2 GL d2)).setCell ⟨gP,k*5+2,none⟩ (.slice a3 OL d3)) wb.heap.size (.slice (some ⟨gP,0,none⟩) NP cP) M.ps (k+1) P O/\OLo O wb.heap.size ((w3.setCell ⟨gP,k*5,none⟩ (.slice a2 GL d2)).setCell ⟨gP,k*5+2,none⟩ (.slice a3 OL d3))/\NoBA O/\∀g o,O9 g=some o->O g=some o from by
          obtain⟨ss1,OL1,hc1,hl1,_,hv1⟩:=hh1.out
          obtain⟨ss2,OL2,hc2,_,hl2,hv2⟩:=hh1'.out
          have hDr:wb.heap.size<=wr.heap.size:=by have:=Aq.out.size;have:=Uu.out.size;omega
          have Po:=HLO.out.join hl1 hDr hB2.size
          have hlo2:=Po.join hl2 (by have:=hB2.size;omega) Uw.size
          have hQ3:=HQT.out.keep (w':=w3) (O':=af0 (af0 O OL1 wr) OL2 w2) (fun g o hg=>hB3.block g (HLO.out g o hg).2) (fun g o hg=>ai9 Po g o (ai9 HLO.out g o hg))
          have hC1:=(hc1.lower hDr).keep (w':=w3) (O':=af0 (af0 O OL1 wr) OL2 w2) (fun g o hg _=>Uw.block g (hl1 g o hg).2) (fun g o hg=>ai9 Po g o (ba9 hl1 g o hg))
          have hC2:=(hc2.lower hDr).keep (w':=w3) (O':=af0 (af0 O OL1 wr) OL2 w2) (fun g o hg _=>rfl) (fun g o hg=>ba9 hl2 g o hg)
          exact⟨_,_,QT.step HL.out.2.2.2.1 hQ3 HP.out hC1 hC2,(hlo2.set _ _).set _ _,(HNB.out.join hv1 ⟨by simp,by simp⟩ (fun j=>⟨by simp,by simp⟩) wr).join hv2 ⟨by simp,by simp⟩ (fun j=>⟨by simp,by simp⟩) w2,fun g o hg=>ai9 Po g o (ai9 HLO.out g o (HO9.out g o hg))⟩)
         have Eb:Hid (BX ((w3.setCell ⟨gP,k*5,none⟩ (.slice a2 GL d2)).setCell ⟨gP,k*5+2,none⟩ (.slice a3 OL d3)) w.heap.size (.slice aN NN cN) (.slice aF NF cF) (.slice aX NX cX) (.slice (some ⟨gP,0,none⟩) NP cP) (.slice aS NS cs)):=BX.other (BX.other (BX.below hBX.out hB3) (by show w.heap.size+1<gP;omega)) (by show w.heap.size+1<gP;omega);have Jb:Hid (Bq w ((w3.setCell ⟨gP,k*5,none⟩ (.slice a2 GL d2)).setCell ⟨gP,k*5+2,none⟩ (.slice a3 OL d3))):=((qT Aa hB3).out.setCell (by show w.heap.size<=gP;omega) _).setCell (by show w.heap.size<=gP;omega) _;have Nh:Hid (Off w.heap.size wc ((w3.setCell ⟨gP,k*5,none⟩ (.slice a2 GL d2)).setCell ⟨gP,k*5+2,none⟩ (.slice a3 OL d3))):=((Aq.out.trans (Off.of_below hB3)).setNew hgpc).setNew hgpc;clear hh1 hh2 hh3 hh1' hh2' hh3' hB2 Uw hB3 y0 y1 y2 z0 zf0 z2 zf2 y0' y1' y2' z0' zf0' z2' zf2' HC1 HC2 q1 q2 q3 q4 c0 c1 c2 c3 c4;go_wp2_with fail;go_roundw
         case rel=>exact⟨k+1,by omega,by go_num,Eb,Jb,Nh,HQ2⟩
         case measure=>simp[intOf];omega
        .
         obtain⟨P9,O10,Pq,Gi,Qx,Qy⟩:=Bw.out;have e9:k=NP:=by omega
         rw[e9,HL.out.2.2.2.1]at Pq;rw[<- HL.out.2.2.2.1]at Pq;have hDr:wb.heap.size<=wr.heap.size:=by have:=Aq.out.size;have:=Uu.out.size;omega
         have Jy:PT w wr wb.heap.size (.slice aX NX cX) M.pipes NX X9 O10:=HPT9.out.keep (fun g o hg _=>Aq.out.block g (Ni.out g o hg).2 (by have:=(Ni.out g o hg).1;have:=Jx.out;omega)) (fun g o hg=>(Qy g o hg).trans hg.symm)
         have HRAW:Hid (∀(w5 wF:World)(a5:Option Addr)(c5:Nat),Bq wr w5->w5.ownsRow wr.heap.size 5 1 (.slice a5 NS c5) NS (M.sunk.map U)->OffB w.heap.size w5 wF->wF.heap.size=w5.heap.size->∃X P O,∀vI vM,Raw wF wb.heap.size O ⟨M,.slice aN NN cN,.slice aF NF cF,.slice aX NX cX,.slice aP NP cP,vI,vM,(a5,c5),X,P⟩):=(show ∀(w5 wF:World)(a5:Option Addr)(c5:Nat),_ from by
          intro w5 wF a5 c5 hb5 ho5 hF hFs
          obtain⟨rN,hNO,hNm⟩:=HW1.out
          obtain⟨rF,hFO,hFm⟩:=HW2.out
          have hb2:∀g',(Value.slice a5 NS c5).ownBlock=some g'->addO O10 wr w5 .sunk g'=some .sunk:=fun g' hg'=>by
           have:=ho5.lt g' hg'
           unfold addO
           rw[qF ⟨this.1,this.2⟩]
          rw[HL.out.2.2.2.2]at ho5
          obtain⟨s5,e5,hs5,_⟩:=SOf.of_owns ho5 (by rw[<- HL.out.2.2.2.2];exact hb2)
          unfold sl at e5
          injection e5 with e5 e6 e7
          subst e5 e7
          have hkF:∀g o,addO O10 wr w5 .sunk g=some o->wF.heap[g]? = w5.heap[g]?:=fun g o hg=>by
           have h1:=Gi.add hb5 hDr .sunk g o hg
           have:=Jx.out
           exact hF.block g h1.2 (by omega) (by omega)
          have hold:∀g o,O10 g=some o->addO O10 wr w5 .sunk g=some o:=fun g o hg=>(aQ9 (Gi g o hg).2).trans hg
          have hlo11:OLo (addO O10 wr w5 .sunk) wb.heap.size wF:=fun g o hg=>by
           rw[hFs]
           exact Gi.add hb5 hDr .sunk g o hg
          refine⟨X9,P9,addO O10 wr w5 .sunk,fun vI vM=>?_⟩
          have hoffF:OffB w.heap.size wb wF:=by
           have h1:Off w.heap.size wb w5:=(Uu.out.trans Aq.out).trans (Off.of_below hb5)
           exact⟨hF.os.trans h1.os,hF.tape.trans h1.tape,hF.output.trans h1.output,by have:=h1.size;omega,fun k hk n1 n2=>(hF.block k (by have:=h1.size;omega) n1 n2).trans (h1.block k hk n1)⟩
          have e1:(s5.1,s5.2)=s5:=rfl
          refine cq7 (w:=w) (w2:=wb) (B:=w.heap.size+2) (B':=wa.heap.size) hlo11 (Qx.add _ _ (by simp) (by simp)) rfl hoffF (qB _) (NO.off hNO (qB _) (OffB.of HOAB.out)) hNm hFO hFm ?_ ?_ (hs5.move (fun g hg=>hkF g _ hg)) vI vM
          . have h1:=Jy.keep (w':=w5) (O':=addO O10 wr w5 .sunk) (fun g o hg _=>hb5.block g (Gi g o hg).2) (fun g o hg=>(hold g o hg).trans hg.symm)
            rw[HL.out.2.2.1]at h1
            rw[HL.out.2.2.1]
            exact h1.keep (fun g o hg _=>hkF g o hg) (fun _ _ _=>rfl)
          . have h1:=Pq.keep (w':=w5) (O':=addO O10 wr w5 .sunk) (fun g o hg=>hb5.block g (Gi g o hg).2) hold
            rw[HL.out.2.2.2.1]at h1
            rw[HL.out.2.2.2.1]
            exact h1.keep hkF (fun _ _ h=>h))
         have HCS:=qH (show Calls prog 125 #[.slice aS NS cs] wr fun e w'=>∃v',e=.returned v'/\w'.ownsRow wr.heap.size 5 1 v' NS (M.sunk.map U)/\Bq wr w' from by
          have:=bi6 aS cs M.sunk wr (HM.out.sunk.below Aa.out) HSM.out.sunk
          rw[<- HL.out.2.2.2.2]at this
          exact this)
         obtain⟨x0,x1,x2,x3,x4,xf⟩:=A3 hBX.out.1;have HDW:=qH (show w.heap.size<=wb.heap.size by have:=Jx.out;omega);clear Bw Pq Gi Qx Qy Jy hDr x0 x1 x2 x3 xf e9;go_wp2_with fail;refine qD HCS.out ?_;rintro e w5⟨vS,rfl,ho5,hb5⟩;obtain⟨⟨a5,c5,rfl,_,_⟩,_⟩:=j5 ho5;have hX5:=BX.below hBX.out hb5;obtain⟨x0,x1,x2,x3,x4',xf⟩:=A3 hX5.1;obtain⟨y0,y1,y2,y3,y4,yf⟩:=A3 hX5.2;have xf4:=xf 4;have yf0:=yf 0;have yf1:=yf 1;have yf2:=yf 2;have yf3:=yf 3;have yf4:=yf 4;have Da:=qH (show ∀wF,OffB w.heap.size w5 wF->wF.heap.size=w5.heap.size->∃X P O,∀vI vM,Raw wF wb.heap.size O ⟨M,.slice aN NN cN,.slice aF NF cF,.slice aX NX cX,.slice aP NP cP,vI,vM,(a5,c5),X,P⟩ from fun wF h1 h2=>HRAW.out w5 wF a5 c5 hb5 ho5 h1 h2);have HB5:=qT Aa hb5;clear hX5 xf yf ho5 hb5 HCS HRAW x4;go_wp2_with fail;(try simp only[Exit.inBlock,Exit.then])
         refine xA (v:=.agg #[.slice aN NN cN,.slice aF NF cF,.slice aX NX cX,.slice aP NP cP,.slice a5 NS c5]) ?_ rfl ?_
         . rw[aU9 rfl];go_simp
         . obtain⟨X,P,O,hR⟩:=Da.out ((((((w5.setCell ⟨w.heap.size,4,none⟩ (.slice a5 NS c5)).setCell ⟨w.heap.size+1,0,none⟩ (.slice aN NN cN)).setCell ⟨w.heap.size+1,1,none⟩ (.slice aF NF cF)).setCell ⟨w.heap.size+1,2,none⟩ (.slice aX NX cX)).setCell ⟨w.heap.size+1,3,none⟩ (.slice aP NP cP)).setCell ⟨w.heap.size+1,4,none⟩ (.slice a5 NS c5)) (by repeat (first|refine OffB.set ?_ rfl | exact OffB.of ((Off.refl w.heap.size w5).set rfl))) (by simp);refine⟨wb.heap.size,.slice aN NN cN,.slice aF NF cF,.slice aX NX cX,.slice aP NP cP,(a5,c5),X,P,O,?_,hR,HDW.out,?_⟩
           . unfold sl;rw[<- HL.out.2.2.2.2]
           . repeat (first|refine xQ ?_ (by simp) _ | exact HB5.out)
open Go.Maps
def aj1(L:List (Int × Int))(p:Int × Int):Int:=if p∈L then (L.idxOf p:Int) else 0
theorem bT6(ns:List SNode):aj1 (j3 ns)=ba2 ns:=by funext p;unfold aj1 ba2 D2;rfl
theorem bT7{L:List (Int × Int)}{p:Int × Int}(h:p∉L):aj1 (L++[p]) p=(L.length:Int):=by unfold aj1;rw[qF (by simp),List.idxOf_append,qA h];simp
theorem bT8{L:List (Int × Int)}{p q:Int × Int}(h:q≠p):aj1 (L++[p]) q=aj1 L q:=by
 unfold aj1;by_cases hq:q∈L
 . rw[qF (by simp[hq]),qF hq,List.idxOf_append,qF hq]
 . rw[qA (by simp[hq,h]),qA hq]
def ap6(ns:List SNode)(k:Nat):List Value:=(List.range k).map (fun i=>.int .i64 (b7 ns i:Int))
theorem aV1(ns:List SNode)(k:Nat):ap6 ns (k+1)=ap6 ns k++[.int .i64 (b7 ns k:Int)]:=by unfold ap6;rw[zl,qz];rfl
def AuxT(D:Nat)(vI vM:Value)(ns:List SNode)(L:List (Int × Int))(k:Nat)(w:World)(O:Nat->Option Own):Prop:=
 w.ownsRow D 3 1 vI k (ap6 ns k)/\R7 O vI .aux/\∃b n,vM=.map (some b)/\S1 w b n (aj1 L)/\n<=L.length/\O b=some .aux
theorem bj0(D:Nat)(vI vM:Value)(ns:List SNode)(L:List (Int × Int))(k:Nat):ao8 (AuxT D vI vM ns L k):=by intro w w' O O' h hk hO;obtain⟨h1,h2,b,n,h3,h4,h6,h5⟩:=h;exact⟨l6 h1 (fun g hg=>hk g (h2 g hg)),fun g hg=>(hO _ _ (h2 g hg)).trans (h2 g hg),b,n,h3,h4.keep (hk b h5),h6,(hO _ _ h5).trans h5⟩
theorem ce5{D:Nat}{vI vM:Value}{ns:List SNode}{w:World}{O:Nat->Option Own}(h:AuxT D vI vM ns (j3 ns) ns.length w O):AuxF D vI vM ns w O:=by obtain⟨h1,h2,b,n,h3,h4,h6,h5⟩:=h;rw[bT6]at h4;exact⟨h1,h2,b,n,h3,h4,h5⟩
theorem RMem.auxTo{w:World}{D r:Nat}{O:Nat->Option Own}{A A':World->(Nat->Option Own)->Prop}{d:RD}(h:RMem w D r O A d)(hA:ao8 A')(h2:A' w O):RMem w D r O A' d:=by
 refine⟨h.lo,h.base,h.xlen,h.plen,h.slen,hA,fun o=>?_⟩;have:=h.part o
 cases o using Own.elimE with
 | aux=>exact h2
 | box=>exact this
 | pipes=>exact this
 | procs=>exact this
 | gots i=>exact this
 | outs i=>exact this
 | pipe q=>exact this
 | got i j=>exact this
 | out i j=>exact this
 | sunk=>exact this
def RD.withI(d:RD)(v:Value):RD:=⟨d.M,d.vN,d.vF,d.vX,d.vP,v,d.vM,d.sS,d.X,d.P⟩
theorem RMem.swap{w w':World}{D r:Nat}{O O':Nat->Option Own}{A A':World->(Nat->Option Own)->Prop}{d:RD}(h:RMem w D r O A d)(v:Value)(hos:w'.os=w.os)(hta:w'.tape=w.tape)(Am:w'.output=w.output)(hsz:w.heap.size<=w'.heap.size)
 (hk:∀k,k<w.heap.size->O k≠some .box->O k≠some .aux->w'.heap[k]? = w.heap[k]?) (hO:∀k,k<w.heap.size->O' k=O k) (hlo:∀g o,O' g=some o->D<=g/\g<w'.heap.size)
 (Bf:w'.heap[r]? = some (.cells #[d.vN,d.vF,d.vX,d.vP,sl d.M.sunk d.sS,v,d.vM] 111 (0,0))) (hA:ao8 A') (h2:A' w' O'):RMem w' D r O' A' (d.withI v):=by
 obtain⟨w0,b1,b2,b3,b4⟩:=h.base;have hle:=h.le;have hb:Below D w w':=⟨hos,hta,Am,hsz,fun k hkD=>hk k (by omega) (fun e=>by have:=(h.lo k _ e).1;omega) (fun e=>by have:=(h.lo k _ e).1;omega)⟩;refine⟨hlo,⟨w0,b1,b2.trans hb,b3,b4⟩,h.xlen,h.plen,h.slen,hA,fun o=>?_⟩;have key:∀o,o≠Own.box->o≠Own.aux->Part w' D r O' A d o:=fun o n1 n2=>(h.part o).keep h.aux (fun k hk2=>hk k (h.lo k o hk2).2 (fun e=>n1 (by rw[hk2]at e;injection e)) (fun e=>n2 (by rw[hk2]at e;injection e))) (fun k o2 hk2=>hO k (h.lo k o2 hk2).2) (fun k o2 hk2=>(h.lo k o2 hk2).2) hO
 cases o using Own.elimE with
 | aux=>exact h2
 | box=>exact⟨Bf,(hO r (h.lo r _ h.box.2).2).trans h.box.2⟩
 | pipes=>exact key Own.pipes (by simp) (by simp)
 | procs=>exact key Own.procs (by simp) (by simp)
 | gots i=>exact key (.gots i) (by simp) (by simp)
 | outs i=>exact key (.outs i) (by simp) (by simp)
 | pipe q=>exact key (.pipe q) (by simp) (by simp)
 | got i j=>exact key (.got i j) (by simp) (by simp)
 | out i j=>exact key (.out i j) (by simp) (by simp)
 | sunk=>exact key Own.sunk (by simp) (by simp)
theorem cm8{w:World}{D:Nat}{O:Nat->Option Own}{d:RD}(h:Raw w D O d)(hI:d.vI=.slice none 0 0)(hM:d.vM=.map (some w.heap.size)):
 ∃O',RMem ((w.alloc (.map #[] 0)).alloc (.cells #[d.vN,d.vF,d.vX,d.vP,sl d.M.sunk d.sS,d.vI,d.vM] 111)) D (w.heap.size+1) O' (AuxT D d.vI d.vM d.M.ns [] 0) d:=by
 obtain⟨W,hW⟩:=qE (((w.alloc (.map #[] 0)).alloc (.cells #[d.vN,d.vF,d.vX,d.vP,sl d.M.sunk d.sS,d.vI,d.vM] 111)));have hb:Bq w W:=by rw[hW];exact ((qI _ w).alloc (qB _) _).alloc (by simp) _
 have hs:W.heap.size=w.heap.size+2:=by rw[hW];simp
 have Bf:W.heap[w.heap.size+1]? = some (.cells #[d.vN,d.vF,d.vX,d.vP,sl d.M.sunk d.sS,d.vI,d.vM] 111 (0,0)):=by rw[hW];exact zn _ _ _
 have Ba:S1 W w.heap.size 0 (fun _=>0):=(bR8 w).keep (by rw[hW];rw[zm,qN]);have hD:D<=w.heap.size:=by obtain⟨w0,h1,h2,_⟩:=h.base;have:=h2.size;omega
 rw[<- hW];clear hW;refine⟨fun k=>if k=w.heap.size then some .aux else if k=w.heap.size+1 then some .box else O k,?_⟩;have hold:∀k,k<w.heap.size->(if k=w.heap.size then some Own.aux else if k=w.heap.size+1 then some Own.box else O k)=O k:=fun k hk=>by rw[qA (by omega),qA (by omega)]
 obtain⟨w0,b1,b2,b3,b4⟩:=h.base;have hA0:ao8 (fun(_:World)(_:Nat->Option Own)=>True):=fun _ _ _ _ _ _ _=>trivial;refine⟨fun g o hg=>?_,⟨w0,b1,b2.trans (hb.mono hD),b3,b4⟩,h.xlen,h.plen,h.slen,bj0 _ _ _ _ _ _,fun o=>?_⟩
 .
  by_cases e1:g=w.heap.size
  . omega
  . by_cases e2:g=w.heap.size+1
    . omega
    . simp only[qA e1,qA e2]at hg;have:=h.lo g o hg;omega
 .
  have key:∀o,o≠Own.box->o≠Own.aux->Part W D 0 (fun k=>if k=w.heap.size then some .aux else if k=w.heap.size+1 then some .box else O k) (fun _ _=>True) d o:=fun o n1 n2=>(h.part o n1 n2).keep hA0 (fun k hk=>hb.block k (h.lo k o hk).2) (fun k o2 hk=>hold k (h.lo k o2 hk).2) (fun k o2 hk=>(h.lo k o2 hk).2) hold
  cases o using Own.elimE with
  | aux=>
   refine⟨by rw[hI];exact World.ownsRow_nil _ _ _ _,fun g hg=>by rw[hI]at hg;simp[Value.ownBlock]at hg,w.heap.size,0,hM,?_,qB _,by simp⟩
   have e:aj1 []=fun _=>0:=by funext p;simp[aj1]
   rw[e]
   exact Ba
  | box=>exact⟨Bf,by simp⟩
  | pipes=>exact key Own.pipes (by simp) (by simp)
  | procs=>exact key Own.procs (by simp) (by simp)
  | gots i=>exact key (.gots i) (by simp) (by simp)
  | outs i=>exact key (.outs i) (by simp) (by simp)
  | pipe q=>exact key (.pipe q) (by simp) (by simp)
  | got i j=>exact key (.got i j) (by simp) (by simp)
  | out i j=>exact key (.out i j) (by simp) (by simp)
  | sunk=>exact key Own.sunk (by simp) (by simp)
theorem ce6:(prog.info? 3).map (fun i=>(i.zero,i.size,i.bytes))=some (some (.int .i64 0),1,8):=by kernel_rfl
theorem RMem.firstUp{w:World}{D r:Nat}{O:Nat->Option Own}{d:RD}{L:List (Int × Int)}{k:Nat}(h:RMem w D r O (AuxT D d.vI d.vM d.M.ns L k) d)(hk:k<=1000){ad:Addr}{c:Nat}{m:Int}(hm:m=(b7 d.M.ns k:Int))(hc:w.cell? ad=some (.int .i64 m))(ty:TypeId):
 ∃v' w' O',(Builtin.append_ #[45,45] ty #[d.vI,.slice (some ad) 1 c]).run prog w=.ok v' w'/\(∃a' c',v'=.slice a' (k+1) c')/\Below D w w'/\w.heap.size<=w'.heap.size/\w'.heap[r]? = w.heap[r]? /\ (∀g,g<w.heap.size->O g≠some .aux->w'.heap[g]? = w.heap[g]?)/\RMem (w'.setCell ⟨r,5,none⟩ v') D r O' (AuxT D v' d.vM d.M.ns L (k+1)) (d.withI v'):=by
 obtain⟨h1,h2,b,n,h3,h4,h6,h5⟩:=h.part .aux;obtain⟨i0,hi,hi0,hi1,hi2⟩:=info_parts ce6;have hle:=h.le
 obtain⟨v',w',hr,Ab,hg,_,hl⟩:=run_append_own_at (P:=prog) w D 45 ty 3 i0 (.int .i64 0) 1 8 underlying45 hi hi0 hi1 hi2 rfl (by decide) d.vI k (ap6 d.M.ns k) h1 ad 1 c [.int .i64 m] rfl (fun j u hu=>by
  cases j with
  | zero=>
   simp at hu
   subst hu
   rw[show ad.add 0=ad by cases ad;rfl]
   exact hc
  | succ j=>simp at hu) (fun u hu=>by simp at hu;subst hu;rfl) (by unfold maxLen;omega) (by omega) hle
 have Bi:∀g,g<w.heap.size->O g≠some .aux->w'.heap[g]? = w.heap[g]?:=fun g hgs ho=>hg.block g hgs (fun e=>ho (h2 g e.symm));have hrl:=h.lo r _ h.box.2;have hr':w'.heap[r]? = w.heap[r]?:=Bi r hrl.2 (by rw[h.box.2];simp);have Aa:Below D w w':=⟨hg.os,hg.tape,hg.output,hg.size,fun g hgD=>Bi g (by omega) (fun e=>by have:=(h.lo g _ e).1;omega)⟩;obtain⟨⟨a',c',hv',_,_⟩,_⟩:=j5 Ab;have Ux:∀g,v'.ownBlock=some g->D<=g/\g<w'.heap.size:=fun g hg'=>Ab.lt g hg';have Qz:=hr'.trans h.box.1;have hO':∀k',k'<w.heap.size->(if k'=w.heap.size/\v'.ownBlock=some w.heap.size then some Own.aux else O k')=O k':=fun k' hk'=>by rw[qA (by omega)]
 refine⟨v',w',fun k'=>if k'=w.heap.size/\v'.ownBlock=some w.heap.size then some .aux else O k',hr,⟨a',c',hv'⟩,Aa,hg.size,hr',Bi,?_⟩;have hne:∀g,v'.ownBlock=some g->g≠r:=fun g hg' e=>by
  subst e;rcases hl with e1 | e1
  . have:=h2 g (by rw[<- e1];exact hg');rw[h.box.2]at this
    cases this
  . rw[e1]at hg';injection hg' with hg';omega
 refine h.swap v' hg.os hg.tape hg.output (by simpa using hg.size) (fun k' hk' n1 n2=>?_) hO' (fun g o hg'=>?_) ?_ (bj0 _ _ _ _ _ _) ?_
 . rw[qJ _ _ _ _ (fun e=>n1 (by have e':k'=r:=e;subst e';exact h.box.2))];exact Bi k' hk' n2
 .
  rw[show (w'.setCell ⟨r,5,none⟩ v').heap.size=w'.heap.size by simp];have hgs:=hg.size;by_cases e:g=w.heap.size/\v'.ownBlock=some w.heap.size
  . have:=Ux w.heap.size e.2;omega
  . rw[qA e]at hg';have:=h.lo g o hg';omega
 . rw[zL w' r 5 _ _ (0,0) v' Qz];exact zV w' r _ _ _ _ Qz
 .
  refine⟨?_,fun g hg'=>?_,b,n,h3,h4.keep ?_,h6,?_⟩
  . rw[aV1,<- hm];exact l6 Ab (fun g hg'=>qJ _ _ _ _ (hne g hg'))
  .
   show (if g=w.heap.size/\v'.ownBlock=some w.heap.size then some Own.aux else O g)=some Own.aux;rcases hl with e1 | e1
   . have h7:=h2 g (by rw[<- e1];exact hg');by_cases e:g=w.heap.size/\v'.ownBlock=some w.heap.size
     . rw[qF e]
     . rw[qA e];exact h7
   . have:w.heap.size=g:=by rw[e1]at hg';injection hg'
     rw[qF ⟨this.symm,e1⟩]
  .
   have hbr:b≠r:=fun e=>by
    subst e;rw[h.box.2]at h5
    cases h5
   rw[qJ _ _ _ _ hbr];refine hg.block b (h.lo b _ h5).2 (fun e=>?_);obtain⟨_,⟨es,clock,q1,_⟩,_⟩:=h4;have:=h1.2;rcases this with⟨e2,_⟩|⟨g2,cap,cur,e2,_,q2,_⟩
   . rw[e2]at e;simp[Value.ownBlock]at e
   . rw[e2]at e;simp[Value.ownBlock]at e;subst e;rw[q1]at q2
     cases q2
  . have:=(h.lo b _ h5).2;show (if b=w.heap.size/\v'.ownBlock=some w.heap.size then some Own.aux else O b)=some Own.aux;rw[qA (by omega)];exact h5
theorem RMem.intoUp{w:World}{D r:Nat}{O:Nat->Option Own}{d:RD}{L:List (Int × Int)}{k b:Nat}(h:RMem w D r O (AuxT D d.vI d.vM d.M.ns L k) d)(hb:d.vM=.map (some b))(hL:L.length<=1000){p:Int × Int}(hp:WfP p)(hn:p∉L){m:Int}(hm:m=(L.length:Int)):
 ∃w',(Instr.mapUpdate 109 (.map (some b)) (aG9 p) (.int .i64 m)).run prog w=.ok () w'/\Below D w w'/\(∀g,g<w.heap.size->g≠b->w'.heap[g]? = w.heap[g]?)/\RMem w' D r O (AuxT D d.vI d.vM d.M.ns (L++[p]) k) d:=by
 obtain⟨h1,h2,b',n,h3,h4,h6,h5⟩:=h.part .aux;rw[hb]at h3;injection h3 with h3;injection h3 with h3;subst h3;have hle:=h.le;obtain⟨Dm,Ab,hat⟩:=h4;obtain⟨w',Aj,Ag,hg⟩:=Ab.update (t:=109) (e:=3) V3 underlying109 (by unfold maxLen;omega) (ad2 w p hp) (plainElem_int underlying3 (show (Lit.int .i64 m).wf=true by rw[hm];simp[Lit.wf,IntKind.min,IntKind.max,IntKind.signed,IntKind.bits];omega));have Bi:∀g,g<w.heap.size->g≠b->w'.heap[g]? = w.heap[g]?:=fun g hgs ho=>hg.block g hgs (fun e=>ho (by injection e));have hbD:=(h.lo b _ h5).1;have hrb:r≠b:=fun e=>by
  subst e;rw[h.box.2]at h5
  cases h5
 have Uy:S1 w' b (n+1) (aj1 (L++[p])):=S1.put (f:=aj1 L) (g:=aj1 (L++[p])) Ab hat hp (by rw[bT7 hn,<- hm];exact Ag) (fun q hq=>bT8 hq);refine⟨w',Aj,⟨hg.os,hg.tape,hg.output,hg.size,fun g hgD=>Bi g (by omega) (by omega)⟩,Bi,?_⟩
 have:=h.swap (A':=AuxT D d.vI d.vM d.M.ns (L++[p]) k) (w':=w') (O':=O) d.vI hg.os hg.tape hg.output hg.size (fun k' hk' n1 n2=>Bi k' hk' (fun e=>n2 (by rw[e];exact h5))) (fun _ _=>rfl) (fun g o hg'=>by have:=h.lo g o hg';have:=hg.size;omega) ((Bi r (h.lo r _ h.box.2).2 hrb).trans h.box.1) (bj0 _ _ _ _ _ _) ⟨l6 h1 (fun g hg'=>by
  refine hg.block g (h1.lt g hg').2 (fun e=>?_)
  have e1:g=b:=by injection e
  subst e1
  obtain⟨es,clock,q1,_⟩:=Ab
  rcases id h1.2 with⟨e2,_⟩|⟨g2,cap,cur,e2,_,q2,_⟩
  . rw[e2]at hg'
    simp[Value.ownBlock]at hg'
  . rw[e2]at hg'
    simp[Value.ownBlock]at hg'
    subst hg'
    rw[q1]at q2
    cases q2),h2,b,n+1,hb,Uy,by simp;omega,h5⟩
 exact this
end Go.Proofs.YtllgglolcgdehaaGreatDoor
