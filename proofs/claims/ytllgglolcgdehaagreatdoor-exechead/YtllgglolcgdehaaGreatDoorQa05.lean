/- What the developers' cloned does, and more. -/
import Derived.Test.YtllgglolcgdehaaGreatDoorQAb
import Derived.Test.YtllgglolcgdehaaGreatDoorQa04
set_option maxRecDepth 100000
set_option maxHeartbeats 16000000
namespace Go.Proofs.YtllgglolcgdehaaGreatDoor
open Go.RowKit Go.Gs
set_option linter.unusedVariables false
theorem aS8 (an af ax ap aS:Option Addr) (cn cf cx cp cs:Nat) (M:SMach) (w:World) (h:RMach w an af ax ap aS cn cf cx cp cs M) (hsm:SmallC M) :
 Calls Tryz.prog 59 #[machV an af ax ap aS M cn cf cx cp cs] w fun e w'=>∃D vN vF vX vP sS X P O,e=.returned (.agg #[vN,vF,vX,vP,sl M.sunk sS])/\(∀vI vM,Raw w' D O ⟨M,vN,vF,vX,vP,vI,vM,sS,X,P⟩)/\w.heap.size<=D/\Bq w w':=by
 obtain⟨rN0,hrN,Ul,Xx,Xy⟩:=ce2 h.nodes;have hlN:rN0.length=M.ns.length:=by rw[<- hrN,List.length_map]
 have HCN:Hid (∀W,Bq w W->Calls Tryz.prog 122 #[.slice an M.ns.length cn] W fun e w'=>∃v',e=.returned v'/\w'.ownsRow W.heap.size 73 8 v' M.ns.length (C7 rN0)/\Bq W w'):=(show ∀W,Bq w W->_ from fun W hW=>bh2 an M.ns.length cn (C7 rN0) W (by rw[am0,hlN]) hsm.ns Xy (fun a ha j u hu=>(hW.cell (bLt w _ (Ul a ha j u hu))).trans (Ul a ha j u hu)) (aY0 rN0));have Xz:=qH Xx;have HRN:=qH hrN;have HM:=qH h;have HSM:=qH hsm;unfold machV;obtain⟨NN,hNN⟩:=qE M.ns.length;obtain⟨NF,hNF⟩:=qE M.fs.length;obtain⟨NX,hNX⟩:=qE M.pipes.length;obtain⟨NP,hNP⟩:=qE M.ps.length;obtain⟨NS,hNS⟩:=qE M.sunk.length;have HL:Hid (NN=M.ns.length/\NF=M.fs.length/\NX=M.pipes.length/\NP=M.ps.length/\NS=M.sunk.length):=⟨hNN,hNF,hNX,hNP,hNS⟩;rw[<- hNN,<- hNF,<- hNX,<- hNP,<- hNS];rw[<- hNN] at HCN;clear h hsm hrN Ul Xx Xy hlN hNN hNF hNX hNP hNS
 go_enter Tryz.func59,Tryz.ntmps59;go_wp2_with fail;obtain⟨W0,hW0⟩:=qE ((w.alloc (.cells #[.slice an NN cn,.slice af NF cf,.slice ax NX cx,.slice ap NP cp,.slice aS NS cs] 30)).alloc (.cells #[.slice none 0 0,.slice none 0 0,.slice none 0 0,.slice none 0 0,.slice none 0 0] 30));rw[<- hW0];have hB0:Bq w W0:=by rw[hW0];exact ((Below.refl _ w).alloc (Nat.le_refl _) _).alloc (by simp) _
 have hS0:W0.heap.size=w.heap.size+2:=by rw[hW0];simp
 have hX0:BX W0 w.heap.size (.slice an NN cn) (.slice af NF cf) (.slice ax NX cx) (.slice ap NP cp) (.slice aS NS cs):=by
  rw[hW0];refine⟨?_,?_⟩
  . rw[heap_alloc_old _ _ (by simp)];exact heap_alloc_new _ _
  . have:=heap_alloc_new (w.alloc (.cells #[.slice an NN cn,.slice af NF cf,.slice ax NX cx,.slice ap NP cp,.slice aS NS cs] 30)) (.cells #[.slice none 0 0,.slice none 0 0,.slice none 0 0,.slice none 0 0,.slice none 0 0] 30);simpa using this
 have Ya:∀(w1:World) (v:Value),Bq W0 w1->w1.ownsRow W0.heap.size 73 8 v NN (C7 rN0)->NO w1 (w.heap.size+2) w.heap.size (brX w.heap.size) 73 v rN0:=by
  intro w1 v hb1 Ab;have hlN:rN0.length=NN:=by rw[HL.out.1,<- HRN.out,List.length_map]
  refine⟨by rw[hlN,<- hS0];exact Ab,fun r hr=>?_,fun e=>?_⟩
  .
   have hrp:=Xz.out r hr;refine⟨hrp.below (hB0.trans (hb1.mono hB0.size)),fun hn a ha hfs=>?_⟩;rw[ha] at hrp;have hlt:=aD8 hrp hn;rcases hfs with e | e | e
   . omega
   . have:=(Ab.lt _ e).1;omega
   . have e':a.block=w.heap.size+1:=e;omega
  . have:=(Ab.lt _ e).1;omega
 have Yb:Hid _:=Ya;have HB0:=qH hB0;have HS0:=qH hS0;have HX0:=qH hX0;clear Ya hB0 hS0 hX0 hW0 Xz;refine Calls.mono (HCN.out W0 HB0.out) ?_;rintro e w1 ⟨vN,rfl,Ab,hb1⟩;have hNO:=Yb.out w1 vN hb1 Ab;obtain⟨⟨aN,cN,rfl,Um,Je⟩,_⟩:=j8 Ab;have Yc:cN<=9223372036854775807:=by unfold maxLen at Je;exact Je
 have hX1:=BX.below HX0.out hb1;have HX1:Hid (BX (w1.setCell ⟨w.heap.size,0,none⟩ (.slice aN NN cN)) w.heap.size (.slice aN NN cN) (.slice af NF cf) (.slice ax NX cx) (.slice ap NP cp) (.slice aS NS cs)):=BX.set hX1.1 hX1.2 rfl;have Yd:Hid (∃rN,NO (w1.setCell ⟨w.heap.size,0,none⟩ (.slice aN NN cN)) (w.heap.size+2) w.heap.size (brX w.heap.size) 73 (.slice aN NN cN) rN/\rN.map (·.1)=M.ns):=(show ∃rN,_ from ⟨rN0,hNO.set rfl,HRN.out⟩);have HB1:Hid (Bq w (w1.setCell ⟨w.heap.size,0,none⟩ (.slice aN NN cN))):=(HB0.out.trans (hb1.mono (by have:=HS0.out;omega))).setCell (Nat.le_refl _) _;obtain⟨x0,x1,x2,x3,x4,xf⟩:=j6 hX1.1;have xf0:=xf 0;clear hNO Ab hb1 hX1 HCN Yb HX0 xf Je HRN HS0 HB0;go_wp2_with fail;clear x0 x1 x2 x3 x4 xf0;generalize hw1s:w1.setCell ⟨w.heap.size,0,none⟩ (.slice aN NN cN)=w1s at *;clear hw1s
 go_loopw [21] (fun z wr=>∃k:Nat,k<=NN/\z=.int .i64 k/\Hid (BX wr w.heap.size (.slice aN NN cN) (.slice af NF cf) (.slice ax NX cx) (.slice ap NP cp) (.slice aS NS cs))/\Hid (Bq w wr)/\Hid (∃rN,NO wr (w.heap.size+2) w.heap.size (brX w.heap.size) 73 (.slice aN NN cN) rN/\rN.map (·.1)=M.ns)) (fun z _=>NN-(intOf z).toNat)
 case atStart=>exact⟨0,Nat.zero_le _,rfl,HX1,HB1,Yd⟩
 case round=>
  obtain⟨k,hk,rfl,hBX,Aa,Ci⟩:=hrel;clear HX1 HB1 Yd;by_cases hlt:k<NN
  .
   obtain⟨rN,hNO,Bf⟩:=Ci.out;clear Ci;have Un:=qH Bf;have hrl:rN.length=NN:=by rw[HL.out.1,<- Bf,List.length_map]
   obtain⟨rr,hr⟩:∃rr,rN[k]? = some rr:=⟨_,gEl (by omega)⟩;obtain⟨_,Bv⟩:=j8 hNO.own;obtain⟨gN,cN',e1,_,_,hgN,hcells,Fe⟩:=Bv (by omega);injection e1 with e1 e2 e3;subst e1;have Ac:∀i,i<8->wr.cell? ⟨gN,k*8+i,none⟩=(encN rr)[i]?:=fun i hi=>by rw[hcells _ (by omega)];exact af1 rN k rr hr i hi
   have c0:=Ac 0 (by omega);have c1:=Ac 1 (by omega);have c2:=Ac 2 (by omega);have c3:=Ac 3 (by omega);have c4:=Ac 4 (by omega);have c5:=Ac 5 (by omega);have c6:=Ac 6 (by omega);have c7:=Ac 7 (by omega);have f7:=Fe (k*8+7);simp only[encN,List.getElem?_cons_zero,List.getElem?_cons_succ,Nat.add_zero] at c0 c1 c2 c3 c4 c5 c6 c7;have Uo:w.heap.size+2<=gN:=by have:=(hNO.own.lt gN rfl).1;exact this
   have HNO:Hid _:=hNO;have HR:=qH hr;have Ap:=hNO.good rr (mGt hr);have Db:rr.1.ins.length<=100000:=HSM.out.ins rr.1 (by rw[<- Bf];exact List.mem_map.2 ⟨rr,mGt hr,rfl⟩);obtain⟨x0,x1,x2,x3,x4,xf⟩:=j6 hBX.out.1;obtain⟨nd,ai,ci⟩:=rr;simp only at c0 c1 c2 c3 c4 c5 c6 c7 Ap Db;have hCP:∀W,Bq wr W->W.cell? ⟨wr.heap.size,7,none⟩=some (.slice ai nd.ins.length ci)->Calls Tryz.prog 123 #[.slice ai nd.ins.length ci] W fun e w'=>∃a2 c2,e=.returned (.slice a2 nd.ins.length c2)/\w'.cell? ⟨w.heap.size,0,none⟩=some (.slice (some ⟨gN,0,none⟩) NN cN)/\w'.cell? ⟨wr.heap.size,7,none⟩=some (.slice ai nd.ins.length ci)/\w'.cell? ⟨gN,k*8+7,none⟩=some (.slice ai nd.ins.length ci)/\w'.frozen? ⟨gN,k*8+7,none⟩=false/\Hid (E2 w' (.slice a2 nd.ins.length c2) nd.ins/\(∀a,a2=some a->wr.heap.size<=a.block)/\Bq wr w'):=by
    intro W hW h7;refine (bC8 ai ci nd.ins W (Ap.1.below hW) Db).mono ?_;rintro e w' ⟨a2,c2,rfl,hrp,Bo,hb⟩;have hB:=hW.trans (hb.mono hW.size);refine⟨a2,c2,rfl,(hB.cell (bLt wr _ x0)).trans x0,(hb.cell (bLt W _ h7)).trans h7,(hB.cell (bLt wr _ c7)).trans c7,?_,⟨hrp,fun a ha=>?_,hB⟩⟩
    . have:=hB.block gN hgN;simp only[World.frozen?] at f7 ⊢;rw[this];exact f7
    . have:=Bo a ha;have:=hW.size;omega
   have HCP:Hid _:=hCP;obtain⟨IL,hIL⟩:=qE nd.ins.length;have HIL:=qH hIL;rw[<- hIL] at HCP c7;generalize nd.kind=n0 at *;generalize (⟨nd.file.toArray⟩:ByteArray)=n1 at *;generalize nd.c.kind=n2 at *;generalize (⟨nd.c.word.toArray⟩:ByteArray)=n3 at *;generalize nd.c.n=n4 at *;generalize nd.how=n5 at *;generalize nd.wide=n6 at *;clear hCP hNO Bf hr Bv hcells Fe Ac Ap Db x1 x2 x3 x4 xf hIL e2 e3 hrl;go_wp2_with fail;have q1:gN≠w.heap.size:=by omega
   have q2:w.heap.size≠gN:=by omega
   have q3:gN≠wr.heap.size:=by omega
   have q4:wr.heap.size≠gN:=by omega
   go_region_held3 (fun W=>W.cell? ⟨w.heap.size,0,none⟩=some (.slice (some ⟨gN,0,none⟩) NN cN)/\W.cell? ⟨wr.heap.size,7,none⟩=some (.slice ai IL ci)) (go_keep) (first | (go_at_call 123;refine Calls.mono (HCP.out _ ?_ ?_) ?_;(repeat (first | exact boxE | refine Below.drew ?_));(simp[*]);rintro e w2 ⟨a2,d2,rfl,y0,y7,z7,zf,hh⟩))
   obtain⟨Ye,Ry,hB2⟩:=hh.out
   have HNO2:Hid (∃rN,NO (w2.setCell ⟨gN,k*8+7,none⟩ (.slice a2 IL d2)) (w.heap.size+2) w.heap.size (brX w.heap.size) 73 (.slice (some ⟨gN,0,none⟩) NN cN) rN/\rN.map (·.1)=M.ns):=(show ∃rN,_ from by
    have h1:=HNO.out.below hB2
    have h2:=NO.setIn h1 (r':=(nd,a2,d2)) HR.out rfl ⟨(by have h5:=Ye;rw[HIL.out] at h5;exact h5),fun hn a ha hfs=>by
     have h3:=Ry a ha
     rcases hfs with e | e | e
     . have:=Aa.out.size
       omega
     . injection e with e
       omega
     . have e':a.block=w.heap.size+1:=e
       have:=BX.lt hBX.out
       omega⟩
    have e3:(Value.slice a2 IL d2)=.slice a2 nd.ins.length d2:=by rw[HIL.out]
    rw[e3]
    exact⟨rN.set k (nd,a2,d2),h2,(cp2 (r':=(nd,a2,d2)) HR.out rfl).trans Un.out⟩)
   have Dz:Hid (BX (w2.setCell ⟨gN,k*8+7,none⟩ (.slice a2 IL d2)) w.heap.size (.slice (some ⟨gN,0,none⟩) NN cN) (.slice af NF cf) (.slice ax NX cx) (.slice ap NP cp) (.slice aS NS cs)):=BX.other (BX.below hBX.out hB2) (by show w.heap.size+1<gN;omega);have Jf:Hid (Bq w (w2.setCell ⟨gN,k*8+7,none⟩ (.slice a2 IL d2))):=(Aa.out.trans (hB2.mono Aa.out.size)).setCell (by show w.heap.size<=gN;omega) _;clear hh Ye Ry hB2 y0 y7 z7 zf HCP q1 q2 q3 q4 c0 c1 c2 c3 c4 c5 c6 c7;go_wp2_with fail;go_roundw
   case rel=>exact⟨k+1,by omega,by go_num,Dz,Jf,HNO2⟩
   case measure=>simp[intOf];omega
  .
   have HW1:=qH Ci;clear Ci;obtain⟨rF0,hrF,Up,Yf,Yg⟩:=ce3 HM.out.files;have hlF:rF0.length=M.fs.length:=by rw[<- hrF,List.length_map]
   have HCF:Hid (∀W,Bq w W->Calls Tryz.prog 124 #[.slice af NF cf] W fun e w'=>∃v',e=.returned v'/\w'.ownsRow W.heap.size 83 2 v' NF (j4 rF0)/\Bq W w'):=(show ∀W,Bq w W->_ from fun W hW=>by
    have:=bh6 af M.fs.length cf (j4 rF0) W (by rw[q9,hlF]) HSM.out.fs Yg (fun a ha j u hu=>(hW.cell (bLt w _ (Up a ha j u hu))).trans (Up a ha j u hu)) (ae8 rF0)
    rw[<- HL.out.2.1] at this
    exact this)
   have HFP:=qH Yf;have HRF:=qH hrF;have HLF:Hid (rF0.length=NF):=hlF.trans HL.out.2.1.symm;obtain⟨x0,x1,x2,x3,x4,xf⟩:=j6 hBX.out.1;have xf1:=xf 1;clear hrF Up Yf Yg hlF x0 x2 x3 x4 xf;go_wp2_with fail;refine Calls.mono (HCF.out wr Aa.out) ?_;rintro e v1 ⟨vF,rfl,Ab,hb1⟩;obtain⟨⟨aF,cF,rfl,hcF1,Ur⟩,_⟩:=j8 Ab;have hcF2':cF<=9223372036854775807:=by unfold maxLen at Ur;exact Ur
   have hX1:=BX.below hBX.out hb1;have Na:=hBX.out.lt;have HX1:Hid (BX (v1.setCell ⟨w.heap.size,1,none⟩ (.slice aF NF cF)) w.heap.size (.slice aN NN cN) (.slice aF NF cF) (.slice ax NX cx) (.slice ap NP cp) (.slice aS NS cs)):=BX.set hX1.1 hX1.2 rfl;have HB1:Hid (Bq w (v1.setCell ⟨w.heap.size,1,none⟩ (.slice aF NF cF))):=(Aa.out.trans (hb1.mono (by have:=Aa.out.size;omega))).setCell (Nat.le_refl _) _;have HO1:Hid (Off w.heap.size wr (v1.setCell ⟨w.heap.size,1,none⟩ (.slice aF NF cF))):=(Off.of_below hb1).set rfl
   have HF1:Hid (∃rF,FO2 (v1.setCell ⟨w.heap.size,1,none⟩ (.slice aF NF cF)) wr.heap.size w.heap.size (.slice aF NF cF) rF/\rF.map (·.1)=M.fs):=(show ∃rF,_ from by
    have hbw:Bq w v1:=Aa.out.trans (hb1.mono Aa.out.size)
    have hlo:w.heap.size+2<=wr.heap.size:=by omega
    have h1:FO2 v1 wr.heap.size w.heap.size (.slice aF NF cF) rF0:=by
     refine⟨⟨by rw[HLF.out];exact Ab,fun r hr=>?_⟩,hlo,fun r hr h0 a ha=>?_⟩
     . obtain⟨q1,q2⟩:=HFP.out r hr
       refine⟨q1,q2.below hbw,fun h0 a ha e=>?_⟩
       rw[ha] at q2
       have:=aR5 q2 h0
       have:=(Ab.lt _ e).1
       omega
     . obtain⟨q1,q2⟩:=HFP.out r hr
       rw[ha] at q2
       have:=aR5 q2 h0
       omega
    exact⟨rF0,h1.off' (OffB.of ((Off.refl _ _).set rfl)),HRF.out⟩)
   obtain⟨x0,x1',x2,x3,x4,xf⟩:=j6 hX1.1;have xf1':=xf 1;have HWS:Hid (w.heap.size+2<=wr.heap.size):=(show _<=_ by omega);clear Ab hb1 hX1 HCF xf Ur HRF x0 x2 x3 x4 HFP HLF x1 xf1 Na hBX;go_wp2_with fail;clear x1' xf1';generalize hv1s:v1.setCell ⟨w.heap.size,1,none⟩ (.slice aF NF cF)=v1s at *;clear hv1s;obtain⟨wa,hwa⟩:=qE wr;rw[<- hwa] at HO1 HWS HW1 HF1;clear Aa;clear hwa;go_loopw [43] (fun z wr=>∃k:Nat,k<=NF/\z=.int .i64 k/\Hid (BX wr w.heap.size (.slice aN NN cN) (.slice aF NF cF) (.slice ax NX cx) (.slice ap NP cp) (.slice aS NS cs))/\Hid (Bq w wr)/\Hid (Off w.heap.size wa wr)/\Hid (∃rF,FO2 wr wa.heap.size w.heap.size (.slice aF NF cF) rF/\rF.map (·.1)=M.fs)) (fun z _=>NF-(intOf z).toNat)
   case atStart=>exact⟨0,Nat.zero_le _,rfl,HX1,HB1,HO1,HF1⟩
   case round=>
    obtain⟨k,hk,rfl,hBX,Aa,Aq,Ci⟩:=hrel;clear HX1 HB1 HO1 HF1;by_cases hlt:k<NF
    .
     obtain⟨rF,hFO,Bf⟩:=Ci.out;clear Ci;have Un:=qH Bf;have hrl:rF.length=NF:=by rw[HL.out.2.1,<- Bf,List.length_map]
     obtain⟨rr,hr⟩:∃rr,rF[k]? = some rr:=⟨_,gEl (by omega)⟩;obtain⟨_,Bv⟩:=j8 hFO.fo.own;obtain⟨gF,cF',e1,_,_,hgF,hcells,Fe⟩:=Bv (by omega);injection e1 with e1 e2 e3;subst e1;obtain⟨a1,a2⟩:=ad7 rF k rr hr;have c0:=hcells (k*2) (by omega);have c1:=hcells (k*2+1) (by omega);rw[a1] at c0;rw[a2] at c1;have f1:=Fe (k*2+1);have Py:wa.heap.size<=gF:=(hFO.fo.own.lt gF rfl).1;have Uo:w.heap.size+2<=gF:=by have:=HWS.out;omega
     have HFO:=qH hFO;have HR:=qH hr;obtain⟨g1,g2,g3⟩:=hFO.fo.good rr (mGt hr);have hbl:rr.1.b.length<=100000:=HSM.out.fb rr.1 (by rw[<- Bf];exact List.mem_map.2 ⟨rr,mGt hr,rfl⟩);obtain⟨x0,x1,x2,x3,x4,xf⟩:=j6 hBX.out.1;obtain⟨fl,fa,fn,fc⟩:=rr;simp only at c0 c1 g1 g2 g3 hbl;rw[g1] at g2;have HCB:Hid _:=bd0 (bm:=w.heap.size) (j1:=1) (j2:=1) g1 g2 hbl x1 c1 f1;have HG1:=qH g1;generalize (⟨fl.name.toArray⟩:ByteArray)=n0 at *;clear hFO Bf hr Bv hcells Fe g1 g2 g3 hbl x0 x2 x3 x4 xf e2 e3 hrl a1 a2;go_wp2_with fail;have q1:gF≠w.heap.size:=by omega
     have q2:w.heap.size≠gF:=by omega
     have q3:gF≠wr.heap.size:=by omega
     have q4:wr.heap.size≠gF:=by omega
     go_region_held3 (fun W=>W.cell? ⟨w.heap.size,1,none⟩=some (.slice (some ⟨gF,0,none⟩) NF cF)/\W.cell? ⟨wr.heap.size,1,none⟩=some (.slice fa fn fc)) (go_keep) (first | (go_at_call 125;refine Calls.mono (HCB.out _ ?_ ?_) ?_;(repeat (first | exact boxE | refine Below.drew ?_));(simp[*]);rintro e w2 ⟨b2,d2,rfl,y0,y7,z7,zf,hh⟩))
     obtain⟨Dh,hB2⟩:=hh.out
     have HF2:Hid (∃rF,FO2 (w2.setCell ⟨gF,k*2+1,none⟩ (.slice b2 fn d2)) wa.heap.size w.heap.size (.slice (some ⟨gF,0,none⟩) NF cF) rF/\rF.map (·.1)=M.fs):=(show ∃rF,_ from by
      have h1:FO2 w2 wa.heap.size w.heap.size (.slice (some ⟨gF,0,none⟩) NF cF) rF:=HFO.out.off' (OffB.of (Off.of_below hB2))
      have hrd:=Reads.of_owns Dh
      have Bo:∀a,b2=some a->wr.heap.size<=a.block:=fun a ha=>by
       rcases id Dh.2 with ⟨e1,h0⟩ | ⟨g,cap,cur,e1,hb,_⟩
       . injection e1 with e1
         rw[ha] at e1
         cases e1
       . injection e1 with e1
         rw[ha] at e1
         injection e1 with e1
         subst e1
         exact hb
      have h2:ag8 w2 (some gF) (fl,b2,fn,d2):=⟨HG1.out,by show Reads w2 (.slice b2 fn d2) _ _;rw[HG1.out] at hrd ⊢;exact hrd,fun h0 a ha he=>by
       have:=Bo a ha
       injection he with he
       omega⟩
      refine⟨_,⟨h1.fo.set HR.out (r':=(fl,b2,fn,d2)) rfl h2,h1.lo,fun r hr h0 a ha=>?_⟩,(ce4 (r':=(fl,b2,fn,d2)) HR.out rfl).trans Un.out⟩
      rcases List.mem_or_eq_of_mem_set hr with hr | rfl
      . exact h1.good r hr h0 a ha
      . have:=Bo a ha
        have:=BX.lt hBX.out
        omega)
     have Dz:Hid (BX (w2.setCell ⟨gF,k*2+1,none⟩ (.slice b2 fn d2)) w.heap.size (.slice aN NN cN) (.slice (some ⟨gF,0,none⟩) NF cF) (.slice ax NX cx) (.slice ap NP cp) (.slice aS NS cs)):=BX.other (BX.below hBX.out hB2) (by show w.heap.size+1<gF;omega);have Jf:Hid (Bq w (w2.setCell ⟨gF,k*2+1,none⟩ (.slice b2 fn d2))):=(Aa.out.trans (hB2.mono Aa.out.size)).setCell (by show w.heap.size<=gF;omega) _;have Nb:Hid (Off w.heap.size wa (w2.setCell ⟨gF,k*2+1,none⟩ (.slice b2 fn d2))):=(Aq.out.trans (Off.of_below hB2)).setNew Py;clear hh Dh hB2 y0 y7 z7 zf HCB q1 q2 q3 q4 c0 c1;go_wp2_with fail;go_roundw
     case rel=>exact⟨k+1,by omega,by go_num,Dz,Jf,Nb,HF2⟩
     case measure=>simp[intOf];omega
    .
     have HW2:=qH Ci;clear Ci;obtain⟨X0,hXl,hXc,hXr,Yh⟩:=bq8 HM.out.pipes
     have HCX:Hid (∀W,Bq w W->Calls Tryz.prog 126 #[.slice ax NX cx] W fun e w'=>∃v',e=.returned v'/\w'.ownsRow W.heap.size 66 4 v' NX (A4 M.pipes X0).flatten/\Bq W w'):=(show ∀W,Bq w W->_ from fun W hW=>by
      have:=bh4 ax M.pipes.length cx (A4 M.pipes X0).flatten W (by rw[al2 _ (M7 _ _)];unfold A4;rw[List.length_zipWith,hXl,Nat.min_self]) HSM.out.xs Yh (fun a ha j u hu=>(hW.cell (bLt w _ (hXc a ha j u hu))).trans (hXc a ha j u hu)) (bi5 _ _)
      rw[<- HL.out.2.2.1] at this
      exact this)
     have HXR:=qH hXr;have HXL:=qH hXl;obtain⟨x0,x1,x2,x3,x4,xf⟩:=j6 hBX.out.1;have xf2:=xf 2;clear hXl hXc hXr Yh x0 x1 x3 x4 xf;go_wp2_with fail;refine Calls.mono (HCX.out wr Aa.out) ?_;rintro e v2 ⟨vX,rfl,Ab,hb1⟩;obtain⟨⟨aX,cX,rfl,Hn,Fo⟩,_⟩:=j8 Ab;have hcX2':cX<=9223372036854775807:=by unfold maxLen at Fo;exact Fo
     have hX1:=BX.below hBX.out hb1;have Na:=hBX.out.lt;have HX1:Hid (BX (v2.setCell ⟨w.heap.size,2,none⟩ (.slice aX NX cX)) w.heap.size (.slice aN NN cN) (.slice aF NF cF) (.slice aX NX cX) (.slice ap NP cp) (.slice aS NS cs)):=BX.set hX1.1 hX1.2 rfl;have HB1:Hid (Bq w (v2.setCell ⟨w.heap.size,2,none⟩ (.slice aX NX cX))):=(Aa.out.trans (hb1.mono (by have:=Aa.out.size;omega))).setCell (Nat.le_refl _) _;have HO1:Hid (Off w.heap.size wr (v2.setCell ⟨w.heap.size,2,none⟩ (.slice aX NX cX))):=(Off.of_below hb1).set rfl
     have HP1:Hid (∃X O,PT w (v2.setCell ⟨w.heap.size,2,none⟩ (.slice aX NX cX)) wr.heap.size (.slice aX NX cX) M.pipes 0 X O/\OLo O wr.heap.size (v2.setCell ⟨w.heap.size,2,none⟩ (.slice aX NX cX))/\NoBA O):=(show ∃X O,_ from by
      refine⟨X0,rowO (.slice aX NX cX) .pipes noO,⟨?_,br0 _ _ _,HXL.out,fun q x s hq=>absurd hq (by omega),fun q x s _ hx hs=>HXR.out q x s hx hs⟩,bL1 (cv5 _ wr) (fun g hg=>?_) ?_,br1 cp1 (by simp) (by simp)⟩
      . rw[<- HL.out.2.2.1]
        refine o5 Ab (fun g hg=>Below.heap_setCell _ _ _ _ (fun e=>?_))
        have:=(Ab.lt g hg).1
        have e':g=w.heap.size:=e
        omega
      . rw[show (v2.setCell ⟨w.heap.size,2,none⟩ (.slice aX NX cX)).heap.size=v2.heap.size by simp]
        exact Ab.lt g hg
      . rw[show (v2.setCell ⟨w.heap.size,2,none⟩ (.slice aX NX cX)).heap.size=v2.heap.size by simp]
        exact hb1.size)
     obtain⟨x0,x1,x2',x3,x4,xf⟩:=j6 hX1.1;have xf2':=xf 2;have Ku:Hid (w.heap.size+2<=wr.heap.size):=(show _<=_ by omega);clear Ab hb1 hX1 HCX xf Fo x0 x1 x3 x4 HXR HXL x2 xf2 Na hBX hlt;go_wp2_with fail;clear x2' xf2';generalize hv2s:v2.setCell ⟨w.heap.size,2,none⟩ (.slice aX NX cX)=v2s at *;clear hv2s;obtain⟨wb,hwb⟩:=qE wr;rw[<- hwb] at HO1 Ku HW2 HP1 Aq;have HOAB:=qH Aq;clear Aa Aq;clear hwb;go_loopw [64] (fun z wr=>∃k:Nat,k<=NX/\z=.int .i64 k/\Hid (BX wr w.heap.size (.slice aN NN cN) (.slice aF NF cF) (.slice aX NX cX) (.slice ap NP cp) (.slice aS NS cs))/\Hid (Bq w wr)/\Hid (Off w.heap.size wb wr)/\Hid (∃X O,PT w wr wb.heap.size (.slice aX NX cX) M.pipes k X O/\OLo O wb.heap.size wr/\NoBA O)) (fun z _=>NX-(intOf z).toNat)
     case atStart=>exact⟨0,Nat.zero_le _,rfl,HX1,HB1,HO1,HP1⟩
     case round=>
      obtain⟨k,hk,rfl,hBX,Aa,Aq,Ci⟩:=hrel;clear HX1 HB1 HO1 HP1;by_cases hlt:k<NX
      .
       obtain⟨X,O,hPT,hlo,hnb⟩:=Ci.out;clear Ci;obtain⟨x,hx⟩:∃x,M.pipes[k]? = some x:=⟨_,gEl (by have:=HL.out.2.2.1;omega)⟩;obtain⟨s,hs⟩:∃s,X[k]? = some s:=⟨_,gEl (by have:=hPT.len;have:=HL.out.2.2.1;omega)⟩;have Ab:=hPT.own;rw[<- HL.out.2.2.1] at Ab;obtain⟨_,Bv⟩:=j8 Ab;obtain⟨gX,cX',e1,_,_,hgX,hcells,Fe⟩:=Bv (by omega);injection e1 with e1 e2 e3;subst e1;have Aj:(A4 M.pipes X)[k]? = some (P8 x s):=ac4 hx hs;have hat:=ad1 _ k _ (M7 M.pipes X) Aj;have c0:=(hcells (k*4) (by omega)).trans (hat 0 (by omega));have c1:=(hcells (k*4+1) (by omega)).trans (hat 1 (by omega));have c2:=(hcells (k*4+2) (by omega)).trans (hat 2 (by omega));have c3:=(hcells (k*4+3) (by omega)).trans (hat 3 (by omega));simp only[P8,List.getElem?_cons_zero,List.getElem?_cons_succ] at c0 c1 c2 c3;have f0:=Fe (k*4);have Py:wb.heap.size<=gX:=(Ab.lt gX rfl).1
       have Uo:w.heap.size+2<=gX:=by have:=Ku.out;omega
       have HPT:=qH hPT;have HLO:=qH hlo;have HNB:=qH hnb;have HX:=qH hx;have hrd:=(hPT.rest k x s (Nat.le_refl _) hx hs).below Aa.out;have hbl:x.b.length<=100000:=HSM.out.xb x (mGt hx);obtain⟨x0,x1,x2,x3,x4,xf⟩:=j6 hBX.out.1;unfold sl at c0 hrd;obtain⟨fa,fc⟩:=s;simp only at c0 hrd;obtain⟨BL,hBL⟩:=qE x.b.length;have HBL:=qH hBL;rw[<- hBL] at c0;have HCB:Hid _:=bd0 (bm:=w.heap.size) (j1:=2) (j2:=0) hBL hrd hbl x2 c0 f0;generalize x.room=n1 at *;generalize x.closed=n2 at *;generalize x.shut=n3 at *;clear hPT hlo hnb hx hs Bv hcells Fe hrd hbl x0 x1 x3 x4 xf e2 e3 Aj hat Ab hBL;go_wp2_with fail;have q1:gX≠w.heap.size:=by omega
       have q2:w.heap.size≠gX:=by omega
       have q3:gX≠wr.heap.size:=by omega
       have q4:wr.heap.size≠gX:=by omega
       go_region_held3 (fun W=>W.cell? ⟨w.heap.size,2,none⟩=some (.slice (some ⟨gX,0,none⟩) NX cX)/\W.cell? ⟨wr.heap.size,0,none⟩=some (.slice fa BL fc)) (go_keep) (first | (go_at_call 125;refine Calls.mono (HCB.out _ ?_ ?_) ?_;(repeat (first | exact boxE | refine Below.drew ?_));(simp[*]);rintro e w2 ⟨b2,d2,rfl,y0,y7,z7,zf,hh⟩))
       obtain⟨Dh,hB2⟩:=hh.out
       have HP2:Hid (∃X O,PT w (w2.setCell ⟨gX,k*4,none⟩ (.slice b2 BL d2)) wb.heap.size (.slice (some ⟨gX,0,none⟩) NX cX) M.pipes (k+1) X O/\OLo O wb.heap.size (w2.setCell ⟨gX,k*4,none⟩ (.slice b2 BL d2))/\NoBA O):=(show ∃X O,_ from by
        rw[HBL.out] at Dh
        obtain⟨s2,h1,h2⟩:=PT.step HL.out.2.2.1 HPT.out HLO.out (by have:=Aq.out.size;omega) HX.out hB2 Dh
        rw[<- HBL.out] at h1 h2
        exact⟨_,_,h1,h2,HNB.out.add _ _ (by simp) (by simp)⟩)
       have Dz:Hid (BX (w2.setCell ⟨gX,k*4,none⟩ (.slice b2 BL d2)) w.heap.size (.slice aN NN cN) (.slice aF NF cF) (.slice (some ⟨gX,0,none⟩) NX cX) (.slice ap NP cp) (.slice aS NS cs)):=BX.other (BX.below hBX.out hB2) (by show w.heap.size+1<gX;omega);have Jf:Hid (Bq w (w2.setCell ⟨gX,k*4,none⟩ (.slice b2 BL d2))):=(Aa.out.trans (hB2.mono Aa.out.size)).setCell (by show w.heap.size<=gX;omega) _;have Nb:Hid (Off w.heap.size wb (w2.setCell ⟨gX,k*4,none⟩ (.slice b2 BL d2))):=(Aq.out.trans (Off.of_below hB2)).setNew Py;clear hh Dh hB2 y0 y7 z7 zf HCB q1 q2 q3 q4 c0 c1 c2 c3;go_wp2_with fail;go_roundw
       case rel=>exact⟨k+1,by omega,by go_num,Dz,Jf,Nb,HP2⟩
       case measure=>simp[intOf];omega
      .
       obtain⟨X9,O9,Kv,Yi,Yj⟩:=Ci.out
       have Yk:Hid (PT w wr wb.heap.size (.slice aX NX cX) M.pipes NX X9 O9):=(show PT w wr wb.heap.size (.slice aX NX cX) M.pipes NX X9 O9 from by
        have e:k=NX:=by omega
        rw[e] at Kv
        exact Kv)
       have Nc:=qH Yi;have HNB9:=qH Yj;clear Ci Kv Yi Yj;obtain⟨P0,hPl,hPc,hPr,Yl,hP1⟩:=bq9 HM.out.procs
       have HCX:Hid (∀W,Bq w W->Calls Tryz.prog 127 #[.slice ap NP cp] W fun e w'=>∃v',e=.returned v'/\w'.ownsRow W.heap.size 76 5 v' NP (v6 M.ps P0).flatten/\Bq W w'):=(show ∀W,Bq w W->_ from fun W hW=>by
        have:=bh5 ap M.ps.length cp (v6 M.ps P0).flatten W (by rw[al2 _ (M8 _ _)];unfold v6;rw[List.length_zipWith,hPl,Nat.min_self]) HSM.out.ps Yl (fun a ha j u hu=>(hW.cell (bLt w _ (hPc a ha j u hu))).trans (hPc a ha j u hu)) hP1
        rw[<- HL.out.2.2.2.1] at this
        exact this)
       have HPR:=qH hPr;have HPL:=qH hPl;obtain⟨x0,x1,x2,x3,x4,xf⟩:=j6 hBX.out.1;have xf3:=xf 3;clear hPl hPc hPr Yl hP1 x0 x1 x2 x4 xf;go_wp2_with fail;refine Calls.mono (HCX.out wr Aa.out) ?_;rintro e v3 ⟨vP,rfl,Ab,hb1⟩;obtain⟨⟨aP,cP,rfl,Dy,Fb⟩,_⟩:=j8 Ab;have hcP2':cP<=9223372036854775807:=by unfold maxLen at Fb;exact Fb
       have hX1:=BX.below hBX.out hb1;have Na:=hBX.out.lt;have hws:=Aq.out.size;have HX1:Hid (BX (v3.setCell ⟨w.heap.size,3,none⟩ (.slice aP NP cP)) w.heap.size (.slice aN NN cN) (.slice aF NF cF) (.slice aX NX cX) (.slice aP NP cP) (.slice aS NS cs)):=BX.set hX1.1 hX1.2 rfl;have HB1:Hid (Bq w (v3.setCell ⟨w.heap.size,3,none⟩ (.slice aP NP cP))):=(Aa.out.trans (hb1.mono (by have:=Aa.out.size;omega))).setCell (Nat.le_refl _) _;have HO1:Hid (Off w.heap.size wr (v3.setCell ⟨w.heap.size,3,none⟩ (.slice aP NP cP))):=(Off.of_below hb1).set rfl
       have HP1:Hid (∃P O,QT w (v3.setCell ⟨w.heap.size,3,none⟩ (.slice aP NP cP)) wb.heap.size (.slice aP NP cP) M.ps 0 P O/\OLo O wb.heap.size (v3.setCell ⟨w.heap.size,3,none⟩ (.slice aP NP cP))/\NoBA O /\ ∀g o,O9 g=some o->O g=some o):=(show ∃P O,_ from by
        refine⟨P0,rowO (.slice aP NP cP) .procs O9,⟨?_,br0 _ _ _,HPL.out,fun q x s hq=>absurd hq (by omega),fun q x s _ hx hs=>HPR.out q x s hx hs⟩,bL1 Nc.out (fun g hg=>?_) ?_,br1 HNB9.out (by simp) (by simp),ce5 Nc.out (fun g hg=>(Ab.lt g hg).1)⟩
        . rw[<- HL.out.2.2.2.1]
          refine o5 (aR7 Ab hws) (fun g hg=>Below.heap_setCell _ _ _ _ (fun e=>?_))
          have:=(Ab.lt g hg).1
          have e':g=w.heap.size:=e
          omega
        . rw[show (v3.setCell ⟨w.heap.size,3,none⟩ (.slice aP NP cP)).heap.size=v3.heap.size by simp]
          have:=Ab.lt g hg
          omega
        . rw[show (v3.setCell ⟨w.heap.size,3,none⟩ (.slice aP NP cP)).heap.size=v3.heap.size by simp]
          exact hb1.size)
       obtain⟨x0,x1,x2,x3',x4,xf⟩:=j6 hX1.1;have xf3':=xf 3;have HWS3:Hid (w.heap.size+2<=wr.heap.size):=(show _<=_ by omega);have HGP:Hid (∀g,(Value.slice aP NP cP).ownBlock=some g->wr.heap.size<=g):=(show ∀g,_ from fun g hg=>(Ab.lt g hg).1);clear Ab hb1 hX1 HCX xf Fb x0 x1 x2 x4 HPR HPL x3 xf3 Na hBX hlt hws;go_wp2_with fail;clear x3' xf3';generalize hv3s:v3.setCell ⟨w.heap.size,3,none⟩ (.slice aP NP cP)=v3s at *;clear hv3s;obtain⟨wc,hwc⟩:=qE wr;rw[<- hwc] at HO1 HWS3 Yk Nc Aq HGP;have Us:=qH Aq;clear Aa Aq;clear hwc
       go_loopw [85] (fun z wr=>∃k:Nat,k<=NP/\z=.int .i64 k/\Hid (BX wr w.heap.size (.slice aN NN cN) (.slice aF NF cF) (.slice aX NX cX) (.slice aP NP cP) (.slice aS NS cs))/\Hid (Bq w wr)/\Hid (Off w.heap.size wc wr)/\Hid (∃P O,QT w wr wb.heap.size (.slice aP NP cP) M.ps k P O/\OLo O wb.heap.size wr/\NoBA O /\ ∀g o,O9 g=some o->O g=some o)) (fun z _=>NP-(intOf z).toNat)
       case atStart=>exact⟨0,Nat.zero_le _,rfl,HX1,HB1,HO1,HP1⟩
       case round=>
        obtain⟨k,hk,rfl,hBX,Aa,Aq,Ci⟩:=hrel;clear HX1 HB1 HO1 HP1;by_cases hlt:k<NP
        .
         obtain⟨P,O,hQT,hlo,hnb,hO9⟩:=Ci.out;clear Ci;obtain⟨p,hp⟩:∃p,M.ps[k]? = some p:=⟨_,gEl (by have:=HL.out.2.2.2.1;omega)⟩;obtain⟨s,hs⟩:∃s,P[k]? = some s:=⟨_,gEl (by have:=hQT.len;have:=HL.out.2.2.2.1;omega)⟩;have Ab:=hQT.own;rw[<- HL.out.2.2.2.1] at Ab;obtain⟨_,Bv⟩:=j8 Ab;obtain⟨gP,cP',e1,_,_,hgP,hcells,Fe⟩:=Bv (by omega);injection e1 with e1 e2 e3;subst e1;have Aj:(v6 M.ps P)[k]? = some (I6 p s):=ac4 hp hs;have hat:=ad1 _ k _ (M8 M.ps P) Aj;have c0:=(hcells (k*5) (by omega)).trans (hat 0 (by omega));have c1:=(hcells (k*5+1) (by omega)).trans (hat 1 (by omega));have c2:=(hcells (k*5+2) (by omega)).trans (hat 2 (by omega));have c3:=(hcells (k*5+3) (by omega)).trans (hat 3 (by omega));have c4:=(hcells (k*5+4) (by omega)).trans (hat 4 (by omega));simp only[I6,List.getElem?_cons_zero,List.getElem?_cons_succ] at c0 c1 c2 c3 c4
         have f0:=Fe (k*5);have f2:=Fe (k*5+2);obtain⟨hrg,hro⟩:=hQT.rest k p s (Nat.le_refl _) hp hs;obtain⟨ag,cg,hgv,_,_⟩:=hrg.shape;obtain⟨ab,cb,hov,_,_⟩:=hro.shape;rw[hgv] at c0 hrg;rw[hov] at c2 hro;have Py:wb.heap.size<=gP:=(Ab.lt gP rfl).1;have Ym:wc.heap.size<=gP:=HGP.out gP rfl;have Uo:w.heap.size+2<=gP:=by have:=Ku.out;omega
         obtain⟨q1,q2,q3,q4⟩:=HSM.out.pl p (mGt hp);obtain⟨x0,x1,x2,x3,x4,xf⟩:=j6 hBX.out.1;obtain⟨GL,hGL⟩:=qE p.got.length;obtain⟨OL,hOL⟩:=qE p.out.length;have HGL:=qH hGL;have HOL:=qH hOL;rw[<- hGL] at c0;rw[<- hOL] at c2;have HC1:Hid _:=bd1 (bm:=w.heap.size) (j1:=3) (g:=gP) (o1:=k*5) (o2:=k*5+2) (u1:=.slice ag GL cg) (u2:=.slice ab OL cb) (.gots k) (Own.got k) (by simp) hGL (hrg.below Aa.out) q1 q3 x3 c0 f0 c2 f2;have HC2:Hid _:=bd1 (bm:=w.heap.size) (j1:=3) (g:=gP) (o1:=k*5) (o2:=k*5+2) (u1:=.slice ag GL cg) (u2:=.slice ab OL cb) (.outs k) (Own.out k) (by simp) hOL (hro.below Aa.out) q2 q4 x3 c0 f0 c2 f2;have HQT:=qH hQT;have HLO:=qH hlo;have HNB:=qH hnb;have HO9:=qH hO9;have HP:=qH hp;generalize p.pos=n1 at *;generalize p.rd=n3 at *;generalize p.ov=n4 at *;clear hQT hlo hnb hO9 hp hs Bv hcells Fe hrg hro x0 x1 x2 x4 xf e2 e3 Aj hat Ab hGL hOL q1 q2 q3 q4 hgv hov
         go_wp2_with fail;have q1:gP≠w.heap.size:=by omega
         have q2:w.heap.size≠gP:=by omega
         have q3:gP≠wr.heap.size:=by omega
         have q4:wr.heap.size≠gP:=by omega
         go_region_held3 (fun W=>W.cell? ⟨w.heap.size,3,none⟩=some (.slice (some ⟨gP,0,none⟩) NP cP)/\W.cell? ⟨wr.heap.size,0,none⟩=some (.slice ag GL cg)/\W.cell? ⟨wr.heap.size,2,none⟩=some (.slice ab OL cb)) (go_keep) (first | (go_at_call_of 128 (Value.slice ag GL cg);refine Calls.mono (HC1.out _ ?_ ?_ ?_) ?_;(first | (repeat (first | exact boxE | refine Below.drew ?_)) | assumption);(simp[*]);(simp[*]);rintro e w2 ⟨a2,d2,rfl,y0,y1,y2,z0,zf0,z2,zf2,hh1,hh2,hh3⟩) | (go_at_call_of 128 (Value.slice ab OL cb);refine Calls.mono (HC2.out _ ?_ ?_ ?_) ?_;(exact Hid.out hh3);(simp[*]);(simp[*]);rintro e w3 ⟨a3,d3,rfl,y0',y1',y2',z0',zf0',z2',zf2',Yn,Yo,Yp⟩))
         have hB2:=hh3.out;have Ut:=Yo.out;have hB3:=Yp.out
         have HQ2:Hid (∃P O,QT w ((w3.setCell ⟨gP,k*5,none⟩ (.slice a2 GL d2)).setCell ⟨gP,k*5+2,none⟩ (.slice a3 OL d3)) wb.heap.size (.slice (some ⟨gP,0,none⟩) NP cP) M.ps (k+1) P O/\OLo O wb.heap.size ((w3.setCell ⟨gP,k*5,none⟩ (.slice a2 GL d2)).setCell ⟨gP,k*5+2,none⟩ (.slice a3 OL d3))/\NoBA O /\ ∀g o,O9 g=some o->O g=some o):=(show ∃P O,_ from by
          obtain⟨ss1,OL1,hc1,hl1,_,hv1⟩:=hh1.out
          obtain⟨ss2,OL2,hc2,_,hl2,hv2⟩:=Yn.out
          have hDr:wb.heap.size<=wr.heap.size:=by have:=Aq.out.size;have:=Us.out.size;omega
          have Pz:=HLO.out.join hl1 hDr hB2.size
          have hlo2:=Pz.join hl2 (by have:=hB2.size;omega) Ut.size
          have hQ3:=HQT.out.keep (w':=w3) (O':=aj1 (aj1 O OL1 wr) OL2 w2) (fun g o hg=>hB3.block g (HLO.out g o hg).2) (fun g o hg=>am2 Pz g o (am2 HLO.out g o hg))
          have hC1:=(hc1.lower hDr).keep (w':=w3) (O':=aj1 (aj1 O OL1 wr) OL2 w2) (fun g o hg _=>Ut.block g (hl1 g o hg).2) (fun g o hg=>am2 Pz g o (bc9 hl1 g o hg))
          have hC2:=(hc2.lower hDr).keep (w':=w3) (O':=aj1 (aj1 O OL1 wr) OL2 w2) (fun g o hg _=>rfl) (fun g o hg=>bc9 hl2 g o hg)
          exact⟨_,_,QT.step HL.out.2.2.2.1 hQ3 HP.out hC1 hC2,(hlo2.set _ _).set _ _,(HNB.out.join hv1 ⟨by simp,by simp⟩ (fun j=>⟨by simp,by simp⟩) wr).join hv2 ⟨by simp,by simp⟩ (fun j=>⟨by simp,by simp⟩) w2,fun g o hg=>am2 Pz g o (am2 HLO.out g o (HO9.out g o hg))⟩)
         have Dz:Hid (BX ((w3.setCell ⟨gP,k*5,none⟩ (.slice a2 GL d2)).setCell ⟨gP,k*5+2,none⟩ (.slice a3 OL d3)) w.heap.size (.slice aN NN cN) (.slice aF NF cF) (.slice aX NX cX) (.slice (some ⟨gP,0,none⟩) NP cP) (.slice aS NS cs)):=BX.other (BX.other (BX.below hBX.out hB3) (by show w.heap.size+1<gP;omega)) (by show w.heap.size+1<gP;omega);have Jf:Hid (Bq w ((w3.setCell ⟨gP,k*5,none⟩ (.slice a2 GL d2)).setCell ⟨gP,k*5+2,none⟩ (.slice a3 OL d3))):=((Aa.out.trans (hB3.mono Aa.out.size)).setCell (by show w.heap.size<=gP;omega) _).setCell (by show w.heap.size<=gP;omega) _;have Nb:Hid (Off w.heap.size wc ((w3.setCell ⟨gP,k*5,none⟩ (.slice a2 GL d2)).setCell ⟨gP,k*5+2,none⟩ (.slice a3 OL d3))):=((Aq.out.trans (Off.of_below hB3)).setNew Ym).setNew Ym;clear hh1 hh2 hh3 Yn Yo Yp hB2 Ut hB3 y0 y1 y2 z0 zf0 z2 zf2 y0' y1' y2' z0' zf0' z2' zf2' HC1 HC2 q1 q2 q3 q4 c0 c1 c2 c3 c4
         go_wp2_with fail;go_roundw
         case rel=>exact⟨k+1,by omega,by go_num,Dz,Jf,Nb,HQ2⟩
         case measure=>simp[intOf];omega
        .
         obtain⟨P9,O10,Qa,Gx,Rz,Si⟩:=Ci.out;have e9:k=NP:=by omega
         rw[e9,HL.out.2.2.2.1] at Qa;rw[<- HL.out.2.2.2.1] at Qa;have hDr:wb.heap.size<=wr.heap.size:=by have:=Aq.out.size;have:=Us.out.size;omega
         have Kv:PT w wr wb.heap.size (.slice aX NX cX) M.pipes NX X9 O10:=Yk.out.keep (fun g o hg _=>Aq.out.block g (Nc.out g o hg).2 (by have:=(Nc.out g o hg).1;have:=Ku.out;omega)) (fun g o hg=>(Si g o hg).trans hg.symm)
         have Yq:Hid (∀(w5 wF:World) (a5:Option Addr) (c5:Nat),Bq wr w5->w5.ownsRow wr.heap.size 5 1 (.slice a5 NS c5) NS (M.sunk.map U)->OffB w.heap.size w5 wF->wF.heap.size=w5.heap.size -> ∃X P O,∀vI vM,Raw wF wb.heap.size O ⟨M,.slice aN NN cN,.slice aF NF cF,.slice aX NX cX,.slice aP NP cP,vI,vM,(a5,c5),X,P⟩):=(show ∀(w5 wF:World) (a5:Option Addr) (c5:Nat),_ from by
          intro w5 wF a5 c5 hb5 ho5 hF hFs
          obtain⟨rN,hNO,hNm⟩:=HW1.out
          obtain⟨rF,hFO,hFm⟩:=HW2.out
          have hb2:∀g',(Value.slice a5 NS c5).ownBlock=some g'->addO O10 wr w5 .sunk g'=some .sunk:=fun g' hg'=>by
           have:=ho5.lt g' hg'
           unfold addO
           rw[if_pos ⟨this.1,this.2⟩]
          rw[HL.out.2.2.2.2] at ho5
          obtain⟨s5,e5,hs5,_⟩:=SOf.of_owns ho5 (by rw[<- HL.out.2.2.2.2];exact hb2)
          unfold sl at e5
          injection e5 with e5 e6 e7
          subst e5 e7
          have hkF:∀g o,addO O10 wr w5 .sunk g=some o->wF.heap[g]? = w5.heap[g]?:=fun g o hg=>by
           have h1:=Gx.add hb5 hDr .sunk g o hg
           have:=Ku.out
           exact hF.block g h1.2 (by omega) (by omega)
          have hold:∀g o,O10 g=some o->addO O10 wr w5 .sunk g=some o:=fun g o hg=>(aR6 (Gx g o hg).2).trans hg
          have Yr:OLo (addO O10 wr w5 .sunk) wb.heap.size wF:=fun g o hg=>by
           rw[hFs]
           exact Gx.add hb5 hDr .sunk g o hg
          refine⟨X9,P9,addO O10 wr w5 .sunk,fun vI vM=>?_⟩
          have Ys:OffB w.heap.size wb wF:=by
           have h1:Off w.heap.size wb w5:=(Us.out.trans Aq.out).trans (Off.of_below hb5)
           exact⟨hF.os.trans h1.os,hF.tape.trans h1.tape,hF.output.trans h1.output,by have:=h1.size;omega,fun k hk n1 n2=>(hF.block k (by have:=h1.size;omega) n1 n2).trans (h1.block k hk n1)⟩
          have e1:(s5.1,s5.2)=s5:=rfl
          refine cv4 (w:=w) (w2:=wb) (B:=w.heap.size+2) (B':=wa.heap.size) Yr (Rz.add _ _ (by simp) (by simp)) rfl Ys (Nat.le_refl _) (NO.off hNO (Nat.le_refl _) (OffB.of HOAB.out)) hNm hFO hFm ?_ ?_ (hs5.move (fun g hg=>hkF g _ hg)) vI vM
          . have h1:=Kv.keep (w':=w5) (O':=addO O10 wr w5 .sunk) (fun g o hg _=>hb5.block g (Gx g o hg).2) (fun g o hg=>(hold g o hg).trans hg.symm)
            rw[HL.out.2.2.1] at h1
            rw[HL.out.2.2.1]
            exact h1.keep (fun g o hg _=>hkF g o hg) (fun _ _ _=>rfl)
          . have h1:=Qa.keep (w':=w5) (O':=addO O10 wr w5 .sunk) (fun g o hg=>hb5.block g (Gx g o hg).2) hold
            rw[HL.out.2.2.2.1] at h1
            rw[HL.out.2.2.2.1]
            exact h1.keep hkF (fun _ _ h=>h))
         have HCS:Hid (Calls Tryz.prog 125 #[.slice aS NS cs] wr fun e w'=>∃v',e=.returned v'/\w'.ownsRow wr.heap.size 5 1 v' NS (M.sunk.map U)/\Bq wr w'):=(show Calls _ _ _ _ _ from by
          have:=bi4 aS cs M.sunk wr (HM.out.sunk.below Aa.out) HSM.out.sunk
          rw[<- HL.out.2.2.2.2] at this
          exact this)
         obtain⟨x0,x1,x2,x3,x4,xf⟩:=j6 hBX.out.1;have HDW:Hid (w.heap.size<=wb.heap.size):=(show _<=_ by have:=Ku.out;omega);clear Ci Qa Gx Rz Si Kv hDr x0 x1 x2 x3 xf e9;go_wp2_with fail;refine Calls.mono HCS.out ?_;rintro e w5 ⟨vS,rfl,ho5,hb5⟩;obtain⟨⟨a5,c5,rfl,_,_⟩,_⟩:=j8 ho5;have hX5:=BX.below hBX.out hb5;obtain⟨x0,x1,x2,x3,x4',xf⟩:=j6 hX5.1;obtain⟨y0,y1,y2,y3,y4,yf⟩:=j6 hX5.2;have xf4:=xf 4;have yf0:=yf 0;have yf1:=yf 1;have yf2:=yf 2;have yf3:=yf 3;have yf4:=yf 4;have Cb:Hid (∀wF,OffB w.heap.size w5 wF->wF.heap.size=w5.heap.size -> ∃X P O,∀vI vM,Raw wF wb.heap.size O ⟨M,.slice aN NN cN,.slice aF NF cF,.slice aX NX cX,.slice aP NP cP,vI,vM,(a5,c5),X,P⟩):=(show ∀wF,_ from fun wF h1 h2=>Yq.out w5 wF a5 c5 hb5 ho5 h1 h2);have HB5:Hid (Bq w w5):=Aa.out.trans (hb5.mono Aa.out.size);clear hX5 xf yf ho5 hb5 HCS Yq x4;go_wp2_with fail
         (try simp only[Exit.inBlock,Exit.then])
         refine bodyPost_ret (v:=.agg #[.slice aN NN cN,.slice aF NF cF,.slice aX NX cX,.slice aP NP cP,.slice a5 NS c5]) ?_ rfl ?_
         . rw[aY1 rfl];go_simp
         . obtain⟨X,P,O,hR⟩:=Cb.out ((((((w5.setCell ⟨w.heap.size,4,none⟩ (.slice a5 NS c5)).setCell ⟨w.heap.size+1,0,none⟩ (.slice aN NN cN)).setCell ⟨w.heap.size+1,1,none⟩ (.slice aF NF cF)).setCell ⟨w.heap.size+1,2,none⟩ (.slice aX NX cX)).setCell ⟨w.heap.size+1,3,none⟩ (.slice aP NP cP)).setCell ⟨w.heap.size+1,4,none⟩ (.slice a5 NS c5)) (by repeat (first | refine OffB.set ?_ rfl | exact OffB.of ((Off.refl w.heap.size w5).set rfl))) (by simp);refine⟨wb.heap.size,.slice aN NN cN,.slice aF NF cF,.slice aX NX cX,.slice aP NP cP,(a5,c5),X,P,O,?_,hR,HDW.out,?_⟩
           . unfold sl;rw[<- HL.out.2.2.2.2]
           . repeat (first | refine Below.setCell ?_ (by simp) _ | exact HB5.out)
end Go.Proofs.YtllgglolcgdehaaGreatDoor
namespace Go.Proofs.YtllgglolcgdehaaGreatDoor
open Go.RowKit Go.Gs Go.Maps
set_option linter.unusedVariables false
def am6 (L:List (Int × Int)) (p:Int × Int):Int:=if p∈L then (L.idxOf p:Int) else 0
theorem bR1 (ns:List SNode):am6 (j7 ns)=bb8 ns:=by funext p;unfold am6 bb8 D9;rfl
theorem bR2 {L:List (Int × Int)} {p:Int × Int} (h:p∉L):am6 (L++[p]) p=(L.length:Int):=by unfold am6;rw[if_pos (by simp),List.idxOf_append,if_neg h];simp
theorem bR3 {L:List (Int × Int)} {p q:Int × Int} (h:q≠p):am6 (L++[p]) q=am6 L q:=by
 unfold am6;by_cases hq:q∈L
 . rw[if_pos (by simp[hq]),if_pos hq,List.idxOf_append,if_pos hq]
 . rw[if_neg (by simp[hq,h]),if_neg hq]
def at1 (ns:List SNode) (k:Nat):List Value:=(List.range k).map (fun i=>.int .i64 (b7 ns i:Int))
theorem aY2 (ns:List SNode) (k:Nat):at1 ns (k+1)=at1 ns k++[.int .i64 (b7 ns k:Int)]:=by unfold at1;rw[List.range_succ,List.map_append];rfl
def AuxT (D:Nat) (vI vM:Value) (ns:List SNode) (L:List (Int × Int)) (k:Nat) (w:World) (O:Nat->Option Own):Prop:=
 w.ownsRow D 3 1 vI k (at1 ns k)/\X7 O vI .aux /\ ∃b n,vM=.map (some b)/\Y8 w b n (am6 L)/\n<=L.length/\O b=some .aux
theorem bi9 (D:Nat) (vI vM:Value) (ns:List SNode) (L:List (Int × Int)) (k:Nat):ar6 (AuxT D vI vM ns L k):=by intro w w' O O' h hk hO;obtain⟨h1,h2,b,n,h3,h4,h6,h5⟩:=h;exact⟨o5 h1 (fun g hg=>hk g (h2 g hg)),fun g hg=>(hO _ _ (h2 g hg)).trans (h2 g hg),b,n,h3,h4.keep (hk b h5),h6,(hO _ _ h5).trans h5⟩
theorem cf2 {D:Nat} {vI vM:Value} {ns:List SNode} {w:World} {O:Nat->Option Own} (h:AuxT D vI vM ns (j7 ns) ns.length w O):AuxF D vI vM ns w O:=by obtain⟨h1,h2,b,n,h3,h4,h6,h5⟩:=h;rw[bR1] at h4;exact⟨h1,h2,b,n,h3,h4,h5⟩
theorem RMem.auxTo {w:World} {D r:Nat} {O:Nat->Option Own} {A A':World->(Nat->Option Own)->Prop} {d:RD} (h:RMem w D r O A d) (hA:ar6 A') (h2:A' w O):RMem w D r O A' d:=by
 refine⟨h.lo,h.base,h.xlen,h.plen,h.slen,hA,fun o=>?_⟩;have:=h.part o
 cases o using Own.elimE with
 | aux=>exact h2
 | box=>exact this
 | pipes=>exact this
 | procs=>exact this
 | gots i=>exact this
 | outs i=>exact this
 | pipe q=>exact this
 | got i j=>exact this
 | out i j=>exact this
 | sunk=>exact this
def RD.withI (d:RD) (v:Value):RD:=⟨d.M,d.vN,d.vF,d.vX,d.vP,v,d.vM,d.sS,d.X,d.P⟩
theorem RMem.swap {w w':World} {D r:Nat} {O O':Nat->Option Own} {A A':World->(Nat->Option Own)->Prop} {d:RD} (h:RMem w D r O A d) (v:Value) (hos:w'.os=w.os) (hta:w'.tape=w.tape) (Ai:w'.output=w.output) (hsz:w.heap.size<=w'.heap.size)
 (hk:∀k,k<w.heap.size->O k≠some .box->O k≠some .aux->w'.heap[k]? = w.heap[k]?) (hO:∀k,k<w.heap.size->O' k=O k) (hlo:∀g o,O' g=some o->D<=g/\g<w'.heap.size)
 (Bc:w'.heap[r]? = some (.cells #[d.vN,d.vF,d.vX,d.vP,sl d.M.sunk d.sS,v,d.vM] 111 (0,0))) (hA:ar6 A') (h2:A' w' O'):RMem w' D r O' A' (d.withI v):=by
 obtain⟨w0,b1,b2,b3,b4⟩:=h.base;have hle:=h.le;have hb:Below D w w':=⟨hos,hta,Ai,hsz,fun k hkD=>hk k (by omega) (fun e=>by have:=(h.lo k _ e).1;omega) (fun e=>by have:=(h.lo k _ e).1;omega)⟩;refine⟨hlo,⟨w0,b1,b2.trans hb,b3,b4⟩,h.xlen,h.plen,h.slen,hA,fun o=>?_⟩;have key:∀o,o≠Own.box->o≠Own.aux->Part w' D r O' A d o:=fun o n1 n2=>(h.part o).keep h.aux (fun k hk2=>hk k (h.lo k o hk2).2 (fun e=>n1 (by rw[hk2] at e;injection e)) (fun e=>n2 (by rw[hk2] at e;injection e))) (fun k o2 hk2=>hO k (h.lo k o2 hk2).2) (fun k o2 hk2=>(h.lo k o2 hk2).2) hO
 cases o using Own.elimE with
 | aux=>exact h2
 | box=>exact⟨Bc,(hO r (h.lo r _ h.box.2).2).trans h.box.2⟩
 | pipes=>exact key Own.pipes (by simp) (by simp)
 | procs=>exact key Own.procs (by simp) (by simp)
 | gots i=>exact key (.gots i) (by simp) (by simp)
 | outs i=>exact key (.outs i) (by simp) (by simp)
 | pipe q=>exact key (.pipe q) (by simp) (by simp)
 | got i j=>exact key (.got i j) (by simp) (by simp)
 | out i j=>exact key (.out i j) (by simp) (by simp)
 | sunk=>exact key Own.sunk (by simp) (by simp)
theorem cp6 {w:World} {D:Nat} {O:Nat->Option Own} {d:RD} (h:Raw w D O d) (hI:d.vI=.slice none 0 0) (hM:d.vM=.map (some w.heap.size)) :
 ∃O',RMem ((w.alloc (.map #[] 0)).alloc (.cells #[d.vN,d.vF,d.vX,d.vP,sl d.M.sunk d.sS,d.vI,d.vM] 111)) D (w.heap.size+1) O' (AuxT D d.vI d.vM d.M.ns [] 0) d:=by
 obtain⟨W,hW⟩:=qE (((w.alloc (.map #[] 0)).alloc (.cells #[d.vN,d.vF,d.vX,d.vP,sl d.M.sunk d.sS,d.vI,d.vM] 111)));have hb:Bq w W:=by rw[hW];exact ((Below.refl _ w).alloc (Nat.le_refl _) _).alloc (by simp) _
 have hs:W.heap.size=w.heap.size+2:=by rw[hW];simp
 have Bc:W.heap[w.heap.size+1]? = some (.cells #[d.vN,d.vF,d.vX,d.vP,sl d.M.sunk d.sS,d.vI,d.vM] 111 (0,0)):=by rw[hW];exact heap_alloc2_new _ _ _
 have Bf:Y8 W w.heap.size 0 (fun _=>0):=(bO4 w).keep (by rw[hW];rw[heap_alloc2_old,heap_alloc_new]);have hD:D<=w.heap.size:=by obtain⟨w0,h1,h2,_⟩:=h.base;have:=h2.size;omega
 rw[<- hW];clear hW;refine⟨fun k=>if k=w.heap.size then some .aux else if k=w.heap.size+1 then some .box else O k,?_⟩;have hold:∀k,k<w.heap.size->(if k=w.heap.size then some Own.aux else if k=w.heap.size+1 then some Own.box else O k)=O k:=fun k hk=>by rw[if_neg (by omega),if_neg (by omega)]
 obtain⟨w0,b1,b2,b3,b4⟩:=h.base;have hA0:ar6 (fun (_:World) (_:Nat->Option Own)=>True):=fun _ _ _ _ _ _ _=>trivial;refine⟨fun g o hg=>?_,⟨w0,b1,b2.trans (hb.mono hD),b3,b4⟩,h.xlen,h.plen,h.slen,bi9 _ _ _ _ _ _,fun o=>?_⟩
 .
  by_cases e1:g=w.heap.size
  . omega
  . by_cases e2:g=w.heap.size+1
    . omega
    . simp only[if_neg e1,if_neg e2] at hg;have:=h.lo g o hg;omega
 .
  have key:∀o,o≠Own.box->o≠Own.aux->Part W D 0 (fun k=>if k=w.heap.size then some .aux else if k=w.heap.size+1 then some .box else O k) (fun _ _=>True) d o:=fun o n1 n2=>(h.part o n1 n2).keep hA0 (fun k hk=>hb.block k (h.lo k o hk).2) (fun k o2 hk=>hold k (h.lo k o2 hk).2) (fun k o2 hk=>(h.lo k o2 hk).2) hold
  cases o using Own.elimE with
  | aux=>
   refine⟨by rw[hI];exact World.ownsRow_nil _ _ _ _,fun g hg=>by rw[hI] at hg;simp[Value.ownBlock] at hg,w.heap.size,0,hM,?_,Nat.le_refl _,by simp⟩
   have e:am6 []=fun _=>0:=by funext p;simp[am6]
   rw[e]
   exact Bf
  | box=>exact⟨Bc,by simp⟩
  | pipes=>exact key Own.pipes (by simp) (by simp)
  | procs=>exact key Own.procs (by simp) (by simp)
  | gots i=>exact key (.gots i) (by simp) (by simp)
  | outs i=>exact key (.outs i) (by simp) (by simp)
  | pipe q=>exact key (.pipe q) (by simp) (by simp)
  | got i j=>exact key (.got i j) (by simp) (by simp)
  | out i j=>exact key (.out i j) (by simp) (by simp)
  | sunk=>exact key Own.sunk (by simp) (by simp)
theorem cf5:(Tryz.prog.info? 3).map (fun i=>(i.zero,i.size,i.bytes))=some (some (.int .i64 0),1,8):=by kernel_rfl
theorem RMem.firstUp {w:World} {D r:Nat} {O:Nat->Option Own} {d:RD} {L:List (Int × Int)} {k:Nat} (h:RMem w D r O (AuxT D d.vI d.vM d.M.ns L k) d) (hk:k<=1000) {ad:Addr} {c:Nat} {m:Int} (hm:m=(b7 d.M.ns k:Int)) (hc:w.cell? ad=some (.int .i64 m)) (ty:TypeId) :
 ∃v' w' O',(Builtin.append_ #[45,45] ty #[d.vI,.slice (some ad) 1 c]).run Tryz.prog w=.ok v' w'/\(∃a' c',v'=.slice a' (k+1) c')/\Below D w w'/\w.heap.size<=w'.heap.size/\w'.heap[r]? = w.heap[r]? /\ (∀g,g<w.heap.size->O g≠some .aux->w'.heap[g]? = w.heap[g]?)/\RMem (w'.setCell ⟨r,5,none⟩ v') D r O' (AuxT D v' d.vM d.M.ns L (k+1)) (d.withI v'):=by
 obtain⟨h1,h2,b,n,h3,h4,h6,h5⟩:=h.part .aux;obtain⟨i0,hi,hi0,hi1,hi2⟩:=info_parts cf5;have hle:=h.le
 obtain⟨v',w',hr,Ab,hg,_,hl⟩:=run_append_own_at (P:=Tryz.prog) w D 45 ty 3 i0 (.int .i64 0) 1 8 Tryz.underlying45 hi hi0 hi1 hi2 rfl (by decide) d.vI k (at1 d.M.ns k) h1 ad 1 c [.int .i64 m] rfl (fun j u hu=>by
  cases j with
  | zero=>
   simp at hu
   subst hu
   rw[show ad.add 0=ad by cases ad;rfl]
   exact hc
  | succ j=>simp at hu) (fun u hu=>by simp at hu;subst hu;rfl) (by unfold maxLen;omega) (by omega) hle
 have Bn:∀g,g<w.heap.size->O g≠some .aux->w'.heap[g]? = w.heap[g]?:=fun g hgs ho=>hg.block g hgs (fun e=>ho (h2 g e.symm));have hrl:=h.lo r _ h.box.2;have hr':w'.heap[r]? = w.heap[r]?:=Bn r hrl.2 (by rw[h.box.2];simp);have Aa:Below D w w':=⟨hg.os,hg.tape,hg.output,hg.size,fun g hgD=>Bn g (by omega) (fun e=>by have:=(h.lo g _ e).1;omega)⟩;obtain⟨⟨a',c',hv',_,_⟩,_⟩:=j8 Ab;have Uu:∀g,v'.ownBlock=some g->D<=g/\g<w'.heap.size:=fun g hg'=>Ab.lt g hg';have Sj:=hr'.trans h.box.1;have hO':∀k',k'<w.heap.size->(if k'=w.heap.size/\v'.ownBlock=some w.heap.size then some Own.aux else O k')=O k':=fun k' hk'=>by rw[if_neg (by omega)]
 refine⟨v',w',fun k'=>if k'=w.heap.size/\v'.ownBlock=some w.heap.size then some .aux else O k',hr,⟨a',c',hv'⟩,Aa,hg.size,hr',Bn,?_⟩;have hne:∀g,v'.ownBlock=some g->g≠r:=fun g hg' e=>by
  subst e;rcases hl with e1 | e1
  . have:=h2 g (by rw[<- e1];exact hg');rw[h.box.2] at this
    cases this
  . rw[e1] at hg';injection hg' with hg';omega
 refine h.swap v' hg.os hg.tape hg.output (by simpa using hg.size) (fun k' hk' n1 n2=>?_) hO' (fun g o hg'=>?_) ?_ (bi9 _ _ _ _ _ _) ?_
 . rw[Below.heap_setCell _ _ _ _ (fun e=>n1 (by have e':k'=r:=e;subst e';exact h.box.2))];exact Bn k' hk' n2
 .
  rw[show (w'.setCell ⟨r,5,none⟩ v').heap.size=w'.heap.size by simp];have hgs:=hg.size;by_cases e:g=w.heap.size/\v'.ownBlock=some w.heap.size
  . have:=Uu w.heap.size e.2;omega
  . rw[if_neg e] at hg';have:=h.lo g o hg';omega
 . rw[setCell_eq_setRow w' r 5 _ _ (0,0) v' Sj];exact setRow_heap w' r _ _ _ _ Sj
 .
  refine⟨?_,fun g hg'=>?_,b,n,h3,h4.keep ?_,h6,?_⟩
  . rw[aY2,<- hm];exact o5 Ab (fun g hg'=>Below.heap_setCell _ _ _ _ (hne g hg'))
  .
   show (if g=w.heap.size/\v'.ownBlock=some w.heap.size then some Own.aux else O g)=some Own.aux;rcases hl with e1 | e1
   . have h7:=h2 g (by rw[<- e1];exact hg');by_cases e:g=w.heap.size/\v'.ownBlock=some w.heap.size
     . rw[if_pos e]
     . rw[if_neg e];exact h7
   . have:w.heap.size=g:=by rw[e1] at hg';injection hg'
     rw[if_pos ⟨this.symm,e1⟩]
  .
   have hbr:b≠r:=fun e=>by
    subst e;rw[h.box.2] at h5
    cases h5
   rw[Below.heap_setCell _ _ _ _ hbr];refine hg.block b (h.lo b _ h5).2 (fun e=>?_);obtain⟨_,⟨es,clock,q1,_⟩,_⟩:=h4;have:=h1.2;rcases this with ⟨e2,_⟩ | ⟨g2,cap,cur,e2,_,q2,_⟩
   . rw[e2] at e;simp[Value.ownBlock] at e
   . rw[e2] at e;simp[Value.ownBlock] at e;subst e;rw[q1] at q2
     cases q2
  . have:=(h.lo b _ h5).2;show (if b=w.heap.size/\v'.ownBlock=some w.heap.size then some Own.aux else O b)=some Own.aux;rw[if_neg (by omega)];exact h5
theorem RMem.intoUp {w:World} {D r:Nat} {O:Nat->Option Own} {d:RD} {L:List (Int × Int)} {k b:Nat} (h:RMem w D r O (AuxT D d.vI d.vM d.M.ns L k) d) (hb:d.vM=.map (some b)) (hL:L.length<=1000) {p:Int × Int} (hp:WfP p) (hn:p∉L) {m:Int} (hm:m=(L.length:Int)) :
 ∃w',(Instr.mapUpdate 109 (.map (some b)) (aK3 p) (.int .i64 m)).run Tryz.prog w=.ok () w'/\Below D w w'/\(∀g,g<w.heap.size->g≠b->w'.heap[g]? = w.heap[g]?)/\RMem w' D r O (AuxT D d.vI d.vM d.M.ns (L++[p]) k) d:=by
 obtain⟨h1,h2,b',n,h3,h4,h6,h5⟩:=h.part .aux;rw[hb] at h3;injection h3 with h3;injection h3 with h3;subst h3;have hle:=h.le;obtain⟨Dm,Ab,hat⟩:=h4;obtain⟨w',Ao,Bg,hg⟩:=Ab.update (t:=109) (e:=3) aa3 Tryz.underlying109 (by unfold maxLen;omega) (ah1 w p hp) (plainElem_int Tryz.underlying3 (show (Lit.int .i64 m).wf=true by rw[hm];simp[Lit.wf,IntKind.min,IntKind.max,IntKind.signed,IntKind.bits];omega));have Bn:∀g,g<w.heap.size->g≠b->w'.heap[g]? = w.heap[g]?:=fun g hgs ho=>hg.block g hgs (fun e=>ho (by injection e));have hbD:=(h.lo b _ h5).1;have hrb:r≠b:=fun e=>by
  subst e;rw[h.box.2] at h5
  cases h5
 have hput:Y8 w' b (n+1) (am6 (L++[p])):=Y8.put (f:=am6 L) (g:=am6 (L++[p])) Ab hat hp (by rw[bR2 hn,<- hm];exact Bg) (fun q hq=>bR3 hq);refine⟨w',Ao,⟨hg.os,hg.tape,hg.output,hg.size,fun g hgD=>Bn g (by omega) (by omega)⟩,Bn,?_⟩
 have:=h.swap (A':=AuxT D d.vI d.vM d.M.ns (L++[p]) k) (w':=w') (O':=O) d.vI hg.os hg.tape hg.output hg.size (fun k' hk' n1 n2=>Bn k' hk' (fun e=>n2 (by rw[e];exact h5))) (fun _ _=>rfl) (fun g o hg'=>by have:=h.lo g o hg';have:=hg.size;omega) ((Bn r (h.lo r _ h.box.2).2 hrb).trans h.box.1) (bi9 _ _ _ _ _ _) ⟨o5 h1 (fun g hg'=>by
  refine hg.block g (h1.lt g hg').2 (fun e=>?_)
  have e1:g=b:=by injection e
  subst e1
  obtain⟨es,clock,q1,_⟩:=Ab
  rcases id h1.2 with ⟨e2,_⟩ | ⟨g2,cap,cur,e2,_,q2,_⟩
  . rw[e2] at hg'
    simp[Value.ownBlock] at hg'
  . rw[e2] at hg'
    simp[Value.ownBlock] at hg'
    subst hg'
    rw[q1] at q2
    cases q2),h2,b,n+1,hb,hput,by simp;omega,h5⟩
 exact this
end Go.Proofs.YtllgglolcgdehaaGreatDoor
namespace Go.Proofs.YtllgglolcgdehaaGreatDoor
open Go.RowKit Go.Gs
set_option linter.unusedVariables false
theorem br9 (v:Value) (pss:List (List (List UInt8))) (w:World) (hp:RList w v S pss) (hn:pss.length<=1000) (hb:pss.flatten.length<=1000000000000000000) :
 Calls Tryz.prog 251 #[v] w fun e w'=>e=.returned (.int .i64 (pss.flatten.length:Int))/\w'=w:=by
 obtain⟨ao,cap,rfl,hc1,hc2⟩:=hp.shape;have HP:=qH hp;obtain⟨N,hN⟩:=qE pss.length;have HN:=qH hN;have hN4:N<=1000:=by omega
 have HT:=qH hb;rw[<- hN];clear hN hp hn hc1 hc2 hb;go_enter Tryz.func251,Tryz.ntmps251;go_wp2_with fail
 go_loopw [3,8] (fun s i wr=>∃k:Nat,∃m:Nat,k<=N/\m<=1000000000000000000/\i=.int .i64 k/\s=.int .i64 m/\wr=w/\Hid (m=((pss.take k).flatten).length))
  (fun _ i _=>N-(intOf i).toNat)
 case atStart=>exact⟨0,0,Nat.zero_le _,by omega,rfl,rfl,rfl,(show _=_ from by simp)⟩
 case round=>
  obtain⟨k,m,hk,hm,rfl,rfl,hw,hmk⟩:=hrel;obtain rfl:w=wr:=hw.symm;clear hw;by_cases hlt:k<N
  .
   obtain⟨p,hpk⟩:∃p,pss[k]? = some p:=⟨_,gEl (by have:=HN.out;omega)⟩;have Qb:m+p.length<=1000000000000000000:=by have h1:=az9 hpk;have h2:=hmk.out;have h3:=HT.out;omega
   have HS:Hid (m+p.length=((pss.take (k+1)).flatten).length):=(show _=_ from by rw[aw5 hpk,List.length_append,<- hmk.out]);obtain⟨b,off,au,cu,rfl,Ac,_⟩:=HP.out.at hpk;clear hpk hmk;generalize p.length=pl at *;go_wp2_with fail;go_roundw
   case rel=>exact⟨k+1,m+pl,by omega,by omega,by go_num,by go_num,by simp,HS.out⟩
   case measure=>simp[intOf];omega
  .
   have hkN:k=N:=by omega
   have HD:Hid (m=pss.flatten.length):=(show _=_ from by
    have h:=hmk.out
    rw[hkN,HN.out,List.take_length] at h
    exact h)
   clear hmk;go_wp2_with fail;go_ret;refine⟨?_,rfl⟩;rw[<- HD.out];rfl
theorem bL5:∀(x y:List UInt8),Op.bytesLess x y=decide (x<y)
 | [],[]=>by simp[Op.bytesLess]
 | _::_,[]=>by simp[Op.bytesLess]
 | [],_::_=>by simp[Op.bytesLess]
 | a::x,b::y=>by
  rw[Op.bytesLess,bL5 x y]
  simp only[List.cons_lt_cons_iff]
  by_cases h1:a<b <;> by_cases h2:a=b <;> by_cases h3:x<y <;> simp[h1,h2,h3]
theorem am7 {sx:ByteArray} {l:List UInt8} (h:Value.string sx=S l):sx.toList=l:=by unfold S at h;injection h with h;rw[h,ByteArray.toList_eq]
theorem cp8 {sx tx:ByteArray} {x t:List UInt8} (hs:Value.string sx=S x) (ht:Value.string tx=S t):Op.bytesLess sx.toList tx.toList=decide (x<t):=by rw[am7 hs,am7 ht,bL5]
theorem bs0 {B:Nat} {a w:World} (h:Below B a w) (q:Nat):Below B a (w.drewN q):=⟨h.os,h.tape,h.output,h.size,h.block⟩
def lix:Option (Nat × List UInt8)->Int
 | none=>-1
 | some (j,_)=>(j:Int)
theorem bs2 {ps:List (List (List UInt8))} {k:Nat} (h:ps[k]? = some []):F3 ps (k+1)=F3 ps k:=by simp[F3,h]
theorem aY3 {ps:List (List (List UInt8))} {k:Nat} {x:List UInt8} {r:List (List UInt8)} (h:ps[k]? = some (x::r)) (hn:F3 ps k=none):F3 ps (k+1)=some (k,x):=by simp[F3,h,hn]
theorem bj0 {ps:List (List (List UInt8))} {k j:Nat} {x t:List UInt8} {r:List (List UInt8)} (h:ps[k]? = some (x::r)) (hn:F3 ps k=some (j,t)) (hl:x<t):F3 ps (k+1)=some (k,x):=by simp[F3,h,hn,hl]
theorem bj1 {ps:List (List (List UInt8))} {k j:Nat} {x t:List UInt8} {r:List (List UInt8)} (h:ps[k]? = some (x::r)) (hn:F3 ps k=some (j,t)) (hl:¬x<t):F3 ps (k+1)=some (j,t):=by simp[F3,h,hn,hl]
theorem bD6 {ps:List (List (List UInt8))} {k j:Nat} {t:List UInt8} (h:F3 ps k=some (j,t)):j<k /\ ∃r,ps[j]? = some (t::r):=by
 obtain⟨h1,h2,_⟩:=aC3 ps k j t h;refine⟨h1,?_⟩
 cases hp:ps[j]? with
 | none=>rw[hp] at h2;cases h2
 | some p=>
  rw[hp] at h2
  cases p with
  | nil=>cases h2
  | cons x r=>
   simp only[Option.bind_some,List.head?_cons,Option.some.injEq] at h2
   exact⟨r,by rw[h2]⟩
theorem aj3 {w:World} {au:Option Addr} {cu:Nat} {x:List UInt8} {r:List (List UInt8)} (h:Reads w (.slice au (x::r).length cu) (x::r).length ((x::r).map S)) :
 ∃b off sx,au=some ⟨b,off,none⟩/\w.cell? ⟨b,off,none⟩=some (.string sx)/\Value.string sx=S x/\cu<=9223372036854775807/\(x::r).length<=cu:=by obtain⟨_,ao,cap,e,h1,h2,h5⟩:=h;injection e with e1 e2 e3;subst e1 e3;obtain⟨b,off,hao,hc⟩:=h5 (by simp);refine⟨b,off,⟨x.toArray⟩,hao,?_,rfl,by simpa[maxLen] using h2,h1⟩;have:=hc 0 (S x) (by simp);exact this
theorem cf6 (v:Value) (ps:List (List (List UInt8))) (w:World) (hp:RList w v S ps) (hn:ps.length<=1000) :
 Calls Tryz.prog 252 #[v] w fun e w'=>e=.returned (.int .i64 (lix (least ps))) /\ ∃q,w'=w.drewN q:=by
 obtain⟨ao,cap,rfl,hc1,hc2⟩:=hp.shape;have HP:=qH hp;obtain⟨N,hN⟩:=qE ps.length;have HN:=qH hN;have hN4:N<=1000:=by omega
 have hcN:N<=cap:=by omega
 have hcm:cap<=9223372036854775807:=by simpa[maxLen] using hc2
 rw[<- hN];clear hN hp hn hc1 hc2;go_enter Tryz.func252,Tryz.ntmps252;go_wp2_with fail
 go_loopw [3,8] (fun s i wr=>∃k:Nat,∃z:Int,k<=N/\i=.int .i64 k/\s=.int .i64 z/\(∃q,wr=w.drewN q)/\Hid (z=lix (F3 ps k)))
  (fun _ i _=>N-(intOf i).toNat)
 case atStart=>exact⟨0,-1,Nat.zero_le _,rfl,rfl,⟨0,rfl⟩,(show _=_ from rfl)⟩
 case round=>
  obtain⟨k,z,hk,rfl,rfl,⟨q0,hw⟩,hz⟩:=hrel;have HPr:Hid (RList wr (.slice ao N cap) S ps):=by rw[hw,HN.out];exact HP.out.below (bs0 (Below.refl _ _) _)
  have HW:=qH hw;clear hw;by_cases hlt:k<N
  .
   obtain⟨p,hpk⟩:∃p,ps[k]? = some p:=⟨_,gEl (by have:=HN.out;omega)⟩;obtain⟨b,off,au,cu,rfl,Ac,hru⟩:=HPr.out.at hpk
   cases p with
   | nil=>
    have HL:Hid _:=bs2 hpk
    simp only[List.length_nil] at Ac
    clear hpk hru
    go_wp2_with fail
    go_quiet (fail)
    go_wp2_with fail
    go_roundw
    case rel=>exact⟨k+1,z,by omega,by go_num,rfl,⟨_,by rw[HW.out,World.drewN_drewN]⟩,(show _=_ from by rw[HL.out];exact hz.out)⟩
    case measure=>simp[intOf];omega
   | cons x r=>
    obtain⟨b1,o1,sx,rfl,hc1,hsx,Yt,Qc⟩:=aj3 hru
    have Hsx:Hid _:=hsx
    have hpl:(x::r).length=r.length+1:=rfl
    rw[hpl] at Ac Qc
    clear hsx hru hpl
    generalize r.length=rl at *
    cases hlk:F3 ps k with
    | none=>
     have HL:Hid _:=aY3 hpk hlk
     obtain rfl:z = -1:=by rw[hz.out,hlk];rfl
     clear hpk hlk
     go_wp2_with fail
     go_quiet (fail)
     go_wp2_with fail
     go_roundw
     case rel=>exact⟨k+1,k,by omega,by go_num,rfl,⟨_,by rw[HW.out,World.drewN_drewN]⟩,(show _=_ from by rw[HL.out];rfl)⟩
     case measure=>simp[intOf];omega
    | some jt=>
     obtain⟨j,t⟩:=jt
     obtain⟨hjk,r',hpj⟩:=bD6 hlk
     obtain⟨b',off',au',cu',e',hcj,hrj⟩:=HPr.out.at hpj
     injection e' with e'
     injection e' with e1 e2
     subst e1 e2
     obtain⟨b2,o2,tx,rfl,hc2,htx,hcu3,hcu4⟩:=aj3 hrj
     have Htx:Hid _:=htx
     have hpl:(t::r').length=r'.length+1:=rfl
     rw[hpl] at hcj hcu4
     clear htx hrj hpl hpj
     generalize r'.length=rl' at *
     obtain rfl:z=(j:Int):=by rw[hz.out,hlk];rfl
     have hj0:decide ((j:Int)<0)=false:=decide_eq_false (by omega)
     have hless:=cp8 Hsx.out Htx.out
     by_cases hxt:x<t
     .
      have HL:Hid _:=bj0 hpk hlk hxt
      rw[decide_eq_true hxt] at hless
      clear hpk hlk hz hxt
      go_wp2_with fail
      go_quiet (fail)
      go_wp2_with fail
      go_roundw
      case rel=>exact⟨k+1,k,by omega,by go_num,rfl,⟨_,by rw[HW.out,World.drewN_drewN]⟩,(show _=_ from by rw[HL.out];rfl)⟩
      case measure=>simp[intOf];omega
     .
      have HL:Hid _:=bj1 hpk hlk hxt
      rw[decide_eq_false hxt] at hless
      clear hpk hlk hz hxt
      go_wp2_with fail
      go_quiet (fail)
      go_wp2_with fail
      go_roundw
      case rel=>exact⟨k+1,j,by omega,by go_num,rfl,⟨_,by rw[HW.out,World.drewN_drewN]⟩,(show _=_ from by rw[HL.out];rfl)⟩
      case measure=>simp[intOf];omega
  .
   have hkN:k=N:=by omega
   have HD:Hid (z=lix (least ps)):=(show _=_ from by
    have h:=hz.out
    rw[hkN,HN.out] at h
    exact h)
   clear hz;go_wp2_with fail;go_ret;refine⟨?_,⟨q0,HW.out⟩⟩;rw[<- HD.out];rfl
theorem V7 {w:World} {B:Nat} {t:TypeId} {G n:Nat} {xs:List Value} (h:w.ownsRow B t 1 (.slice (some ⟨G,0,none⟩) n n) n xs):w.heap[G]? = some (.cells xs.toArray t (0,0))/\xs.length=n/\B<=G:=by
 obtain⟨h1,h2 | ⟨g,cap,cur,h2,h3,h4,h5,h6,h7,h8⟩⟩:=h
 . cases h2.1
 . injection h2 with e1 e2 e3;injection e1 with e1;injection e1 with e1;subst e1 e3;have hx:cur=xs.toArray:=by rw[<- h8,List.take_of_length_le (by simp;omega)]
   exact⟨by rw[h4,hx],by omega,h3⟩
theorem at6 {w:World} {B:Nat} {t:TypeId} {G n:Nat} {xs:List Value} (h:w.heap[G]? = some (.cells xs.toArray t (0,0))) (hl:xs.length=n) (hB:B<=G) (hm:n<=1000000):w.ownsRow B t 1 (.slice (some ⟨G,0,none⟩) n n) n xs:=
 ⟨by omega,.inr ⟨G,n,xs.toArray,rfl,hB,h,Nat.le_refl _,by unfold maxLen;omega,by simp[hl],by rw[Nat.mul_one,<- hl];simp⟩⟩
theorem below_grown {B:Nat} {w w1:World} (h:w.grownBy w1 none) (hB:B<=w.heap.size):Below B w w1:=⟨h.os,h.tape,h.output,h.size,fun k hk=>h.block k (by omega) (by simp)⟩
theorem cf8 {ps:List (List (List UInt8))} {k:Nat} {p:List (List UInt8)} (h:ps[k]? = some p):splice (((ps.take k).flatten).map S++List.replicate (ps.flatten.length-((ps.take k).flatten).length) (S [])) ((ps.take k).flatten).length (p.map S)=((ps.take (k+1)).flatten).map S++List.replicate (ps.flatten.length-((ps.take (k+1)).flatten).length) (S []):=by have h1:=az9 h;rw[aw5 h];generalize ((ps.take k).flatten)=A at *;unfold splice;rw[List.take_append_of_le_length (by simp),List.take_of_length_le (by simp),List.drop_append,List.drop_of_length_le (by simp)];simp only[List.length_map,List.nil_append,List.drop_replicate,List.map_append,List.length_append,List.append_assoc];congr 3;omega
theorem cf9:(Tryz.prog.info? 9).map (·.size)=some 1:=by kernel_rfl
theorem bd5 (v:Value) (ps:List (List (List UInt8))) (w:World) (hp:RList w v S ps) (hn:ps.length<=1000) (hb:ps.flatten.length<=1000000) :
 Calls Tryz.prog 198 #[v] w fun e w'=>∃r,e=.returned r/\w'.ownsRow w.heap.size 9 1 r ps.flatten.length (ps.flatten.map S)/\Bq w w':=by
 obtain⟨i0,hi,hz0,hz1,hz2⟩:=info_parts aO3;have Cc:=br9 v ps w hp hn (by omega);obtain⟨ao,cap,rfl,hc1,hc2⟩:=hp.shape;have HP:=qH hp;obtain⟨N,hN⟩:=qE ps.length;have HN:=qH hN;have hN4:N<=1000:=by omega
 obtain⟨T,hT⟩:=qE ps.flatten.length;have HT:=qH hT;have hTb:T<=1000000:=by omega
 have hb2:i0.bytes*T<=281474976710656:=by rw[hz2];omega
 have hb3:T<=maxLen:=by unfold maxLen;omega
 rw[<- hT,<- hN] at Cc;rw[<- hT,<- hN];clear hN hp hn hc1 hc2 hT hb;go_enter Tryz.func198,Tryz.ntmps198;go_wp2_with (first | (go_at_call 251;refine Cc.mono ?_;rintro e w9 ⟨rfl,hw9⟩;obtain rfl:w=w9:=hw9.symm) | (at_make;refine wpList_make_full _ rfl (.tmp 8) (.tmp 8) 53 rfl w.heap.size 9 i0 (.string ⟨#[]⟩) 1 Tryz.underlying53 hi hz0 hz1 .i64 .i64 _ _ T rfl rfl rfl rfl hb2 hb3 (Nat.le_refl _) ?_))
 intro w2 Ai An;have HB2:Hid (Bq w w2):=below_grown An (Nat.le_refl _);have HR2:Hid (w2.heap[w.heap.size]? = some (.cells ((((ps.take 0).flatten).map S++List.replicate (T-0) (S [])).toArray) 9 (0,0))):=by have:=(V7 Ai).1;rw[toList_madeCells_one] at this;exact this
 clear Ai An hw9 Cc;go_wp2_with fail
 go_loopw [4,13] (fun s i wr=>∃k m:Nat,∃ro,k<=N/\m<=T/\i=.int .i64 k/\s=.slice ro (T-m) (T-m)/\(m<T->ro=some ⟨w.heap.size,m,none⟩)/\Hid (m=((ps.take k).flatten).length)/\Hid (wr.heap[w.heap.size]? = some (.cells ((((ps.take k).flatten).map S++List.replicate (T-m) (S [])).toArray) 9 (0,0)))/\Hid (Bq w wr))
  (fun _ i _=>N-(intOf i).toNat)
 case atStart=>exact⟨0,0,_,Nat.zero_le _,Nat.zero_le _,rfl,rfl,fun _=>rfl,(show _=_ from by simp),HR2.out,HB2.out⟩
 case round=>
  obtain⟨k,m,ro,hk,hm,rfl,rfl,hro,hmk,Aj,Aa⟩:=hrel;by_cases hlt:k<N
  .
   obtain⟨p,hpk⟩:∃p,ps[k]? = some p:=⟨_,gEl (by have:=HN.out;omega)⟩;have Qb:m+p.length<=T:=by have h1:=az9 hpk;have h2:=hmk.out;have h3:=HT.out;omega
   have HS:Hid (m+p.length=((ps.take (k+1)).flatten).length):=(show _=_ from by rw[aw5 hpk,List.length_append,<- hmk.out]);have HSp:Hid _:=cf8 hpk;have HPr:Hid (RList wr (.slice ao N cap) S ps):=by rw[HN.out];exact HP.out.below Aa.out
   obtain⟨b,off,au,cu,rfl,Ac,hru⟩:=HPr.out.at hpk;obtain⟨L,hL⟩:=qE (((ps.take k).flatten).map S++List.replicate (T-m) (S []));have HL:=qH hL;have hLl:L.length=T:=by rw[hL,List.length_append,List.length_map,List.length_replicate,<- hmk.out];omega
   obtain⟨cs,hcs⟩:=qE (p.map S);have hcl:cs.length=p.length:=by rw[hcs];simp
   have HC:=qH hcs;have HRU:Hid _:=hru;have Sm:wr.heap[w.heap.size]? = some (.cells L.toArray 9 (0,0)):=by rw[hL];exact Aj.out
   have HROW:Hid _:=Sm;clear hpk Aj hL hcs hru Sm;obtain⟨pl,hpl⟩:=qE p.length;have HPL:=qH hpl;rw[<- hpl] at Ac Qb hcl;clear hpl;go_wp2_with (refine wpList_copy_splice rfl (.tmp 18) (.tmp 19) 53 53 rfl 9 Tryz.underlying53 cf9 ro au (T-m) (T-m) pl cu rfl rfl w.heap.size m L 9 HROW.out cs ?c1 ?c2 ?c3 ?c4 w.heap.size w Aa.out (Nat.le_refl _) ?_)
   case c1=>rw[hcl];exact (Nat.min_eq_left (by omega)).symm
   case c2=>
    intro h0;refine⟨hro (by omega),?_⟩;obtain⟨_,ao',cap',e,_,_,h5⟩:=HRU.out;injection e with e1 e2 e3;obtain⟨b',off',e4,hc⟩:=h5 (by rw[<- HPL.out];omega);refine⟨⟨b',off',none⟩,e1.trans e4,fun j u hu=>?_⟩;have Ee:(⟨b',off',none⟩:Addr).add j=⟨b',off'+j,none⟩:=by unfold Addr.add;split <;> simp_all
    rw[Ee];exact hc j u (by rw[<- HC.out];exact hu)
   case c3=>omega
   case c4=>intro u hu;rw[HC.out] at hu;obtain⟨x,_,rfl⟩:=List.mem_map.1 hu;rfl
   intro w3 hr3 Kw;have HB3:=qH Kw
   have HR3:Hid (w3.heap[w.heap.size]? = some (.cells ((((ps.take (k+1)).flatten).map S++List.replicate (T-(m+pl)) (S [])).toArray) 9 (0,0))):=(show _=_ from by
    have e1:=hr3.out
    have e2:=HSp.out
    rw[<- hmk.out,<- HT.out,<- HL.out,<- HC.out,<- HS.out,<- HPL.out] at e2
    rw[e1,e2])
   clear hr3 Kw;go_wp2_with fail;go_roundw
   case rel=>exact⟨k+1,m+pl,_,by omega,by omega,by go_num,by rw[Nat.sub_add_eq],fun h=>by simp only[hro (by omega),Addr.add];simp;rw[if_neg (by omega)];by_cases h0:pl=0 <;> simp[h0],(show _=_ from by rw[<- HS.out,HPL.out]),HR3.out,HB3.out⟩
   case measure=>simp[intOf];omega
  .
   have hkN:k=N:=by omega
   have HO:Hid (wr.ownsRow w.heap.size 9 1 (.slice (some ⟨w.heap.size,0,none⟩) T T) T (ps.flatten.map S)):=by
    have h1:=Aj.out;have h2:=hmk.out;rw[hkN,HN.out,List.take_length] at h1 h2;have h3:T-m=0:=by have:=HT.out;omega
    rw[h3] at h1;simp only[List.replicate_zero,List.append_nil] at h1;exact at6 h1 (by rw[List.length_map];exact HT.out.symm) (Nat.le_refl _) (by omega)
   clear Aj hmk;go_wp2_with fail;go_ret;exact⟨_,rfl,HO.out,Aa.out⟩
end Go.Proofs.YtllgglolcgdehaaGreatDoor
