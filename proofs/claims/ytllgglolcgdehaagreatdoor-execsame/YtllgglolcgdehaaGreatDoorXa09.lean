/- What the developers' cloned does, and more. -/
import Derived.Test.YtllgglolcgdehaaGreatDoorXa08
set_option maxRecDepth 100000
set_option maxHeartbeats 16000000
namespace Go.Proofs.YtllgglolcgdehaaGreatDoor
open Go.RowKit Go.Gs
set_option linter.unusedVariables false
theorem clonedE_is (an af ax ap aS:Option Addr) (cn cf cx cp cs:Nat) (M:SMach) (w:World) (h:RMach w an af ax ap aS cn cf cx cp cs M) (hsm:SmallC M) :
 Calls Tryz.prog 59 #[machV an af ax ap aS M cn cf cx cp cs] w fun e w'=>∃D vN vF vX vP sS X P O,e=.returned (.agg #[vN,vF,vX,vP,sl M.sunk sS])/\(∀vI vM,Raw w' D O ⟨M,vN,vF,vX,vP,vI,vM,sS,X,P⟩)/\w.heap.size<=D/\Below w.heap.size w w':=by
 obtain⟨rN0,hrN,hrNc,hrNp,hrN0⟩:=rows_ofN h.nodes
 have hlN:rN0.length=M.ns.length:=by rw[<- hrN,List.length_map]
 have HCN:Hid (∀W,Below w.heap.size w W->Calls Tryz.prog 122 #[.slice an M.ns.length cn] W fun e w'=>∃v',e=.returned v'/\w'.ownsRow W.heap.size 73 8 v' M.ns.length (nodeCells rN0)/\Below W.heap.size W w'):=(show ∀W,Below w.heap.size w W->_ from fun W hW=>cloneNode_is an M.ns.length cn (nodeCells rN0) W (by rw[nodeCells_length,hlN]) hsm.ns hrN0 (fun a ha j u hu=>(hW.cell (bLt w _ (hrNc a ha j u hu))).trans (hrNc a ha j u hu)) (nodeCells_one rN0))
 have HRNP:Hid (∀r∈rN0,RPorts w (.slice r.2.1 r.1.ins.length r.2.2) r.1.ins):=hrNp
 have HRN:Hid (rN0.map (·.1)=M.ns):=hrN
 have HM:Hid (RMach w an af ax ap aS cn cf cx cp cs M):=h
 have HSM:Hid (SmallC M):=hsm
 unfold machV
 obtain⟨NN,hNN⟩:∃z,z=M.ns.length:=⟨_,rfl⟩
 obtain⟨NF,hNF⟩:∃z,z=M.fs.length:=⟨_,rfl⟩
 obtain⟨NX,hNX⟩:∃z,z=M.pipes.length:=⟨_,rfl⟩
 obtain⟨NP,hNP⟩:∃z,z=M.ps.length:=⟨_,rfl⟩
 obtain⟨NS,hNS⟩:∃z,z=M.sunk.length:=⟨_,rfl⟩
 have HL:Hid (NN=M.ns.length/\NF=M.fs.length/\NX=M.pipes.length/\NP=M.ps.length/\NS=M.sunk.length):=⟨hNN,hNF,hNX,hNP,hNS⟩
 rw[<- hNN,<- hNF,<- hNX,<- hNP,<- hNS]
 rw[<- hNN] at HCN
 clear h hsm hrN hrNc hrNp hrN0 hlN hNN hNF hNX hNP hNS
 go_enter Tryz.func59,Tryz.ntmps59
 go_wp2_with fail
 obtain⟨W0,hW0⟩:∃W,W=(w.alloc (.cells #[.slice an NN cn,.slice af NF cf,.slice ax NX cx,.slice ap NP cp,.slice aS NS cs] 30)).alloc (.cells #[.slice none 0 0,.slice none 0 0,.slice none 0 0,.slice none 0 0,.slice none 0 0] 30):=⟨_,rfl⟩
 rw[<- hW0]
 have hB0:Below w.heap.size w W0:=by rw[hW0];exact ((Below.refl _ w).alloc (Nat.le_refl _) _).alloc (by simp) _
 have hS0:W0.heap.size=w.heap.size+2:=by rw[hW0];simp
 have hX0:BX W0 w.heap.size (.slice an NN cn) (.slice af NF cf) (.slice ax NX cx) (.slice ap NP cp) (.slice aS NS cs):=by
  rw[hW0]
  refine⟨?_,?_⟩
  . rw[heap_alloc_old _ _ (by simp)]
    exact heap_alloc_new _ _
  . have:=heap_alloc_new (w.alloc (.cells #[.slice an NN cn,.slice af NF cf,.slice ax NX cx,.slice ap NP cp,.slice aS NS cs] 30)) (.cells #[.slice none 0 0,.slice none 0 0,.slice none 0 0,.slice none 0 0,.slice none 0 0] 30)
    simpa using this
 have hNO1:∀(w1:World) (v:Value),Below W0.heap.size W0 w1->w1.ownsRow W0.heap.size 73 8 v NN (nodeCells rN0)->NO w1 (w.heap.size+2) w.heap.size (brX w.heap.size) 73 v rN0:=by
  intro w1 v hb1 hown
  have hlN:rN0.length=NN:=by rw[HL.out.1,<- HRN.out,List.length_map]
  refine⟨by rw[hlN,<- hS0];exact hown,fun r hr=>?_,fun e=>?_⟩
  .
   have hrp:=HRNP.out r hr
   refine⟨hrp.below (hB0.trans (hb1.mono hB0.size)),fun hn a ha hfs=>?_⟩
   rw[ha] at hrp
   have hlt:=rports_block hrp hn
   rcases hfs with e | e | e
   . omega
   . have:=(hown.lt _ e).1
     omega
   . have e':a.block=w.heap.size+1:=e
     omega
  . have:=(hown.lt _ e).1
    omega
 have HNO1:Hid _:=hNO1
 have HB0:Hid (Below w.heap.size w W0):=hB0
 have HS0:Hid (W0.heap.size=w.heap.size+2):=hS0
 have HX0:Hid (BX W0 w.heap.size (.slice an NN cn) (.slice af NF cf) (.slice ax NX cx) (.slice ap NP cp) (.slice aS NS cs)):=hX0
 clear hNO1 hB0 hS0 hX0 hW0 HRNP
 refine Calls.mono (HCN.out W0 HB0.out) ?_
 rintro e w1 ⟨vN,rfl,hown,hb1⟩
 have hNO:=HNO1.out w1 vN hb1 hown
 obtain⟨⟨aN,cN,rfl,hcN1,hcN2⟩,_⟩:=owns_formE hown
 have hcN2':cN<=9223372036854775807:=by unfold maxLen at hcN2;exact hcN2
 have hX1:=BX.below HX0.out hb1
 have HX1:Hid (BX (w1.setCell ⟨w.heap.size,0,none⟩ (.slice aN NN cN)) w.heap.size (.slice aN NN cN) (.slice af NF cf) (.slice ax NX cx) (.slice ap NP cp) (.slice aS NS cs)):=BX.set hX1.1 hX1.2 rfl
 have HNOs:Hid (∃rN,NO (w1.setCell ⟨w.heap.size,0,none⟩ (.slice aN NN cN)) (w.heap.size+2) w.heap.size (brX w.heap.size) 73 (.slice aN NN cN) rN/\rN.map (·.1)=M.ns):=(show ∃rN,_ from ⟨rN0,hNO.set rfl,HRN.out⟩)
 have HB1:Hid (Below w.heap.size w (w1.setCell ⟨w.heap.size,0,none⟩ (.slice aN NN cN))):=(HB0.out.trans (hb1.mono (by have:=HS0.out;omega))).setCell (Nat.le_refl _) _
 obtain⟨x0,x1,x2,x3,x4,xf⟩:=cells5C hX1.1
 have xf0:=xf 0
 clear hNO hown hb1 hX1 HCN HNO1 HX0 xf hcN2 HRN HS0 HB0
 go_wp2_with fail
 clear x0 x1 x2 x3 x4 xf0
 generalize hw1s:w1.setCell ⟨w.heap.size,0,none⟩ (.slice aN NN cN)=w1s at *
 clear hw1s
 go_loopw [21] (fun z wr=>∃k:Nat,k<=NN/\z=.int .i64 k/\Hid (BX wr w.heap.size (.slice aN NN cN) (.slice af NF cf) (.slice ax NX cx) (.slice ap NP cp) (.slice aS NS cs))/\Hid (Below w.heap.size w wr)/\Hid (∃rN,NO wr (w.heap.size+2) w.heap.size (brX w.heap.size) 73 (.slice aN NN cN) rN/\rN.map (·.1)=M.ns)) (fun z _=>NN-(intOf z).toNat)
 case atStart=>exact⟨0,Nat.zero_le _,rfl,HX1,HB1,HNOs⟩
 case round=>
  obtain⟨k,hk,rfl,hBX,hbel,hinv⟩:=hrel
  clear HX1 HB1 HNOs
  by_cases hlt:k<NN
  .
   obtain⟨rN,hNO,hmap⟩:=hinv.out
   clear hinv
   have HMAP:Hid (rN.map (·.1)=M.ns):=hmap
   have hrl:rN.length=NN:=by rw[HL.out.1,<- hmap,List.length_map]
   obtain⟨rr,hr⟩:∃rr,rN[k]? = some rr:=⟨_,gEl (by omega)⟩
   obtain⟨_,hform⟩:=owns_formE hNO.own
   obtain⟨gN,cN',e1,_,_,hgN,hcells,hfrz⟩:=hform (by omega)
   injection e1 with e1 e2 e3
   subst e1
   have hcell:∀i,i<8->wr.cell? ⟨gN,k*8+i,none⟩=(encN rr)[i]?:=fun i hi=>by
    rw[hcells _ (by omega)]
    exact nodeCells_at rN k rr hr i hi
   have c0:=hcell 0 (by omega)
   have c1:=hcell 1 (by omega)
   have c2:=hcell 2 (by omega)
   have c3:=hcell 3 (by omega)
   have c4:=hcell 4 (by omega)
   have c5:=hcell 5 (by omega)
   have c6:=hcell 6 (by omega)
   have c7:=hcell 7 (by omega)
   have f7:=hfrz (k*8+7)
   simp only[encN,List.getElem?_cons_zero,List.getElem?_cons_succ,Nat.add_zero] at c0 c1 c2 c3 c4 c5 c6 c7
   have hbmg:w.heap.size+2<=gN:=by
    have:=(hNO.own.lt gN rfl).1
    exact this
   have HNO:Hid _:=hNO
   have HR:Hid (rN[k]? = some rr):=hr
   have hgood:=hNO.good rr (mGt hr)
   have hinl:rr.1.ins.length<=100000:=HSM.out.ins rr.1 (by rw[<- hmap];exact List.mem_map.2 ⟨rr,mGt hr,rfl⟩)
   obtain⟨x0,x1,x2,x3,x4,xf⟩:=cells5C hBX.out.1
   obtain⟨nd,ai,ci⟩:=rr
   simp only at c0 c1 c2 c3 c4 c5 c6 c7 hgood hinl
   have hCP:∀W,Below wr.heap.size wr W->W.cell? ⟨wr.heap.size,7,none⟩=some (.slice ai nd.ins.length ci)->Calls Tryz.prog 123 #[.slice ai nd.ins.length ci] W fun e w'=>∃a2 c2,e=.returned (.slice a2 nd.ins.length c2)/\w'.cell? ⟨w.heap.size,0,none⟩=some (.slice (some ⟨gN,0,none⟩) NN cN)/\w'.cell? ⟨wr.heap.size,7,none⟩=some (.slice ai nd.ins.length ci)/\w'.cell? ⟨gN,k*8+7,none⟩=some (.slice ai nd.ins.length ci)/\w'.frozen? ⟨gN,k*8+7,none⟩=false/\Hid (RPorts w' (.slice a2 nd.ins.length c2) nd.ins/\(∀a,a2=some a->wr.heap.size<=a.block)/\Below wr.heap.size wr w'):=by
    intro W hW h7
    refine (clonePorts ai ci nd.ins W (hgood.1.below hW) hinl).mono ?_
    rintro e w' ⟨a2,c2,rfl,hrp,hnew,hb⟩
    have hB:=hW.trans (hb.mono hW.size)
    refine⟨a2,c2,rfl,(hB.cell (bLt wr _ x0)).trans x0,(hb.cell (bLt W _ h7)).trans h7,(hB.cell (bLt wr _ c7)).trans c7,?_,⟨hrp,fun a ha=>?_,hB⟩⟩
    . have:=hB.block gN hgN
      simp only[World.frozen?] at f7 ⊢
      rw[this]
      exact f7
    . have:=hnew a ha
      have:=hW.size
      omega
   have HCP:Hid _:=hCP
   obtain⟨IL,hIL⟩:∃z,z=nd.ins.length:=⟨_,rfl⟩
   have HIL:Hid (IL=nd.ins.length):=hIL
   rw[<- hIL] at HCP c7
   generalize nd.kind=n0 at *
   generalize (⟨nd.file.toArray⟩:ByteArray)=n1 at *
   generalize nd.c.kind=n2 at *
   generalize (⟨nd.c.word.toArray⟩:ByteArray)=n3 at *
   generalize nd.c.n=n4 at *
   generalize nd.how=n5 at *
   generalize nd.wide=n6 at *
   clear hCP hNO hmap hr hform hcells hfrz hcell hgood hinl x1 x2 x3 x4 xf hIL e2 e3 hrl
   go_wp2_with fail
   have q1:gN≠w.heap.size:=by omega
   have q2:w.heap.size≠gN:=by omega
   have q3:gN≠wr.heap.size:=by omega
   have q4:wr.heap.size≠gN:=by omega
   go_region_held3 (fun W=>W.cell? ⟨w.heap.size,0,none⟩=some (.slice (some ⟨gN,0,none⟩) NN cN)/\W.cell? ⟨wr.heap.size,7,none⟩=some (.slice ai IL ci)) (go_keep) (first | (go_at_call 123;refine Calls.mono (HCP.out _ ?_ ?_) ?_;(repeat (first | exact boxE | refine Below.drew ?_));(simp[*]);rintro e w2 ⟨a2,d2,rfl,y0,y7,z7,zf,hh⟩))
   obtain⟨hrp2,hnew2,hB2⟩:=hh.out
   have HNO2:Hid (∃rN,NO (w2.setCell ⟨gN,k*8+7,none⟩ (.slice a2 IL d2)) (w.heap.size+2) w.heap.size (brX w.heap.size) 73 (.slice (some ⟨gN,0,none⟩) NN cN) rN/\rN.map (·.1)=M.ns):=(show ∃rN,_ from by
    have h1:=HNO.out.below hB2
    have h2:=NO.setIn h1 (r':=(nd,a2,d2)) HR.out rfl ⟨(by have h5:=hrp2;rw[HIL.out] at h5;exact h5),fun hn a ha hfs=>by
     have h3:=hnew2 a ha
     rcases hfs with e | e | e
     . have:=hbel.out.size
       omega
     . injection e with e
       omega
     . have e':a.block=w.heap.size+1:=e
       have:=BX.lt hBX.out
       omega⟩
    have e3:(Value.slice a2 IL d2)=.slice a2 nd.ins.length d2:=by rw[HIL.out]
    rw[e3]
    exact⟨rN.set k (nd,a2,d2),h2,(setFstN (r':=(nd,a2,d2)) HR.out rfl).trans HMAP.out⟩)
   have HBX2:Hid (BX (w2.setCell ⟨gN,k*8+7,none⟩ (.slice a2 IL d2)) w.heap.size (.slice (some ⟨gN,0,none⟩) NN cN) (.slice af NF cf) (.slice ax NX cx) (.slice ap NP cp) (.slice aS NS cs)):=BX.other (BX.below hBX.out hB2) (by show w.heap.size+1<gN;omega)
   have HBE2:Hid (Below w.heap.size w (w2.setCell ⟨gN,k*8+7,none⟩ (.slice a2 IL d2))):=(hbel.out.trans (hB2.mono hbel.out.size)).setCell (by show w.heap.size<=gN;omega) _
   clear hh hrp2 hnew2 hB2 y0 y7 z7 zf HCP q1 q2 q3 q4 c0 c1 c2 c3 c4 c5 c6 c7
   go_wp2_with fail
   go_roundw
   case rel=>exact⟨k+1,by omega,by go_num,HBX2,HBE2,HNO2⟩
   case measure=>simp[intOf];omega
  .
   have HW1:Hid (∃rN,NO wr (w.heap.size+2) w.heap.size (brX w.heap.size) 73 (.slice aN NN cN) rN/\rN.map (·.1)=M.ns):=hinv
   clear hinv
   obtain⟨rF0,hrF,hrFc,hrFp,hrF0⟩:=rows_ofF HM.out.files
   have hlF:rF0.length=M.fs.length:=by rw[<- hrF,List.length_map]
   have HCF:Hid (∀W,Below w.heap.size w W->Calls Tryz.prog 124 #[.slice af NF cf] W fun e w'=>∃v',e=.returned v'/\w'.ownsRow W.heap.size 83 2 v' NF (rowCells rF0)/\Below W.heap.size W w'):=(show ∀W,Below w.heap.size w W->_ from fun W hW=>by
    have:=cloneFile_is af M.fs.length cf (rowCells rF0) W (by rw[rowCells_length,hlF]) HSM.out.fs hrF0 (fun a ha j u hu=>(hW.cell (bLt w _ (hrFc a ha j u hu))).trans (hrFc a ha j u hu)) (rowCells_one rF0)
    rw[<- HL.out.2.1] at this
    exact this)
   have HFP:Hid (∀r∈rF0,r.2.2.1=r.1.b.length/\Reads w (.slice r.2.1 r.2.2.1 r.2.2.2) r.1.b.length (r.1.b.map U)):=hrFp
   have HRF:Hid (rF0.map (·.1)=M.fs):=hrF
   have HLF:Hid (rF0.length=NF):=hlF.trans HL.out.2.1.symm
   obtain⟨x0,x1,x2,x3,x4,xf⟩:=cells5C hBX.out.1
   have xf1:=xf 1
   clear hrF hrFc hrFp hrF0 hlF x0 x2 x3 x4 xf
   go_wp2_with fail
   refine Calls.mono (HCF.out wr hbel.out) ?_
   rintro e v1 ⟨vF,rfl,hown,hb1⟩
   obtain⟨⟨aF,cF,rfl,hcF1,hcF2⟩,_⟩:=owns_formE hown
   have hcF2':cF<=9223372036854775807:=by unfold maxLen at hcF2;exact hcF2
   have hX1:=BX.below hBX.out hb1
   have hbmw:=hBX.out.lt
   have HX1:Hid (BX (v1.setCell ⟨w.heap.size,1,none⟩ (.slice aF NF cF)) w.heap.size (.slice aN NN cN) (.slice aF NF cF) (.slice ax NX cx) (.slice ap NP cp) (.slice aS NS cs)):=BX.set hX1.1 hX1.2 rfl
   have HB1:Hid (Below w.heap.size w (v1.setCell ⟨w.heap.size,1,none⟩ (.slice aF NF cF))):=(hbel.out.trans (hb1.mono (by have:=hbel.out.size;omega))).setCell (Nat.le_refl _) _
   have HO1:Hid (Off w.heap.size wr (v1.setCell ⟨w.heap.size,1,none⟩ (.slice aF NF cF))):=(Off.of_below hb1).set rfl
   have HF1:Hid (∃rF,FO2 (v1.setCell ⟨w.heap.size,1,none⟩ (.slice aF NF cF)) wr.heap.size w.heap.size (.slice aF NF cF) rF/\rF.map (·.1)=M.fs):=(show ∃rF,_ from by
    have hbw:Below w.heap.size w v1:=hbel.out.trans (hb1.mono hbel.out.size)
    have hlo:w.heap.size+2<=wr.heap.size:=by omega
    have h1:FO2 v1 wr.heap.size w.heap.size (.slice aF NF cF) rF0:=by
     refine⟨⟨by rw[HLF.out];exact hown,fun r hr=>?_⟩,hlo,fun r hr h0 a ha=>?_⟩
     . obtain⟨q1,q2⟩:=HFP.out r hr
       refine⟨q1,q2.below hbw,fun h0 a ha e=>?_⟩
       rw[ha] at q2
       have:=reads_lt q2 h0
       have:=(hown.lt _ e).1
       omega
     . obtain⟨q1,q2⟩:=HFP.out r hr
       rw[ha] at q2
       have:=reads_lt q2 h0
       omega
    exact⟨rF0,h1.off' (OffB.of ((Off.refl _ _).set rfl)),HRF.out⟩)
   obtain⟨x0,x1',x2,x3,x4,xf⟩:=cells5C hX1.1
   have xf1':=xf 1
   have HWS:Hid (w.heap.size+2<=wr.heap.size):=(show _<=_ by omega)
   clear hown hb1 hX1 HCF xf hcF2 HRF x0 x2 x3 x4 HFP HLF x1 xf1 hbmw hBX
   go_wp2_with fail
   clear x1' xf1'
   generalize hv1s:v1.setCell ⟨w.heap.size,1,none⟩ (.slice aF NF cF)=v1s at *
   clear hv1s
   obtain⟨wa,hwa⟩:∃W,W=wr:=⟨_,rfl⟩
   rw[<- hwa] at HO1 HWS HW1 HF1
   clear hbel
   clear hwa
   go_loopw [43] (fun z wr=>∃k:Nat,k<=NF/\z=.int .i64 k/\Hid (BX wr w.heap.size (.slice aN NN cN) (.slice aF NF cF) (.slice ax NX cx) (.slice ap NP cp) (.slice aS NS cs))/\Hid (Below w.heap.size w wr)/\Hid (Off w.heap.size wa wr)/\Hid (∃rF,FO2 wr wa.heap.size w.heap.size (.slice aF NF cF) rF/\rF.map (·.1)=M.fs)) (fun z _=>NF-(intOf z).toNat)
   case atStart=>exact⟨0,Nat.zero_le _,rfl,HX1,HB1,HO1,HF1⟩
   case round=>
    obtain⟨k,hk,rfl,hBX,hbel,hoff,hinv⟩:=hrel
    clear HX1 HB1 HO1 HF1
    by_cases hlt:k<NF
    .
     obtain⟨rF,hFO,hmap⟩:=hinv.out
     clear hinv
     have HMAP:Hid (rF.map (·.1)=M.fs):=hmap
     have hrl:rF.length=NF:=by rw[HL.out.2.1,<- hmap,List.length_map]
     obtain⟨rr,hr⟩:∃rr,rF[k]? = some rr:=⟨_,gEl (by omega)⟩
     obtain⟨_,hform⟩:=owns_formE hFO.fo.own
     obtain⟨gF,cF',e1,_,_,hgF,hcells,hfrz⟩:=hform (by omega)
     injection e1 with e1 e2 e3
     subst e1
     obtain⟨a1,a2⟩:=rowCells_at rF k rr hr
     have c0:=hcells (k*2) (by omega)
     have c1:=hcells (k*2+1) (by omega)
     rw[a1] at c0
     rw[a2] at c1
     have f1:=hfrz (k*2+1)
     have hbma:wa.heap.size<=gF:=(hFO.fo.own.lt gF rfl).1
     have hbmg:w.heap.size+2<=gF:=by have:=HWS.out;omega
     have HFO:Hid (FO2 wr wa.heap.size w.heap.size (.slice (some ⟨gF,0,none⟩) NF cF) rF):=hFO
     have HR:Hid (rF[k]? = some rr):=hr
     obtain⟨g1,g2,g3⟩:=hFO.fo.good rr (mGt hr)
     have hbl:rr.1.b.length<=100000:=HSM.out.fb rr.1 (by rw[<- hmap];exact List.mem_map.2 ⟨rr,mGt hr,rfl⟩)
     obtain⟨x0,x1,x2,x3,x4,xf⟩:=cells5C hBX.out.1
     obtain⟨fl,fa,fn,fc⟩:=rr
     simp only at c0 c1 g1 g2 g3 hbl
     rw[g1] at g2
     have HCB:Hid _:=bclone_at (bm:=w.heap.size) (j1:=1) (j2:=1) g1 g2 hbl x1 c1 f1
     have HG1:Hid (fn=fl.b.length):=g1
     generalize (⟨fl.name.toArray⟩:ByteArray)=n0 at *
     clear hFO hmap hr hform hcells hfrz g1 g2 g3 hbl x0 x2 x3 x4 xf e2 e3 hrl a1 a2
     go_wp2_with fail
     have q1:gF≠w.heap.size:=by omega
     have q2:w.heap.size≠gF:=by omega
     have q3:gF≠wr.heap.size:=by omega
     have q4:wr.heap.size≠gF:=by omega
     go_region_held3 (fun W=>W.cell? ⟨w.heap.size,1,none⟩=some (.slice (some ⟨gF,0,none⟩) NF cF)/\W.cell? ⟨wr.heap.size,1,none⟩=some (.slice fa fn fc)) (go_keep) (first | (go_at_call 125;refine Calls.mono (HCB.out _ ?_ ?_) ?_;(repeat (first | exact boxE | refine Below.drew ?_));(simp[*]);rintro e w2 ⟨b2,d2,rfl,y0,y7,z7,zf,hh⟩))
     obtain⟨hown2,hB2⟩:=hh.out
     have HF2:Hid (∃rF,FO2 (w2.setCell ⟨gF,k*2+1,none⟩ (.slice b2 fn d2)) wa.heap.size w.heap.size (.slice (some ⟨gF,0,none⟩) NF cF) rF/\rF.map (·.1)=M.fs):=(show ∃rF,_ from by
      have h1:FO2 w2 wa.heap.size w.heap.size (.slice (some ⟨gF,0,none⟩) NF cF) rF:=HFO.out.off' (OffB.of (Off.of_below hB2))
      have hrd:=Reads.of_owns hown2
      have hnew:∀a,b2=some a->wr.heap.size<=a.block:=fun a ha=>by
       rcases id hown2.2 with ⟨e1,h0⟩ | ⟨g,cap,cur,e1,hb,_⟩
       . injection e1 with e1
         rw[ha] at e1
         cases e1
       . injection e1 with e1
         rw[ha] at e1
         injection e1 with e1
         subst e1
         exact hb
      have h2:GoodO w2 (some gF) (fl,b2,fn,d2):=⟨HG1.out,by show Reads w2 (.slice b2 fn d2) _ _;rw[HG1.out] at hrd ⊢;exact hrd,fun h0 a ha he=>by
       have:=hnew a ha
       injection he with he
       omega⟩
      refine⟨_,⟨h1.fo.set HR.out (r':=(fl,b2,fn,d2)) rfl h2,h1.lo,fun r hr h0 a ha=>?_⟩,(set_fstF (r':=(fl,b2,fn,d2)) HR.out rfl).trans HMAP.out⟩
      rcases List.mem_or_eq_of_mem_set hr with hr | rfl
      . exact h1.good r hr h0 a ha
      . have:=hnew a ha
        have:=BX.lt hBX.out
        omega)
     have HBX2:Hid (BX (w2.setCell ⟨gF,k*2+1,none⟩ (.slice b2 fn d2)) w.heap.size (.slice aN NN cN) (.slice (some ⟨gF,0,none⟩) NF cF) (.slice ax NX cx) (.slice ap NP cp) (.slice aS NS cs)):=BX.other (BX.below hBX.out hB2) (by show w.heap.size+1<gF;omega)
     have HBE2:Hid (Below w.heap.size w (w2.setCell ⟨gF,k*2+1,none⟩ (.slice b2 fn d2))):=(hbel.out.trans (hB2.mono hbel.out.size)).setCell (by show w.heap.size<=gF;omega) _
     have HOF2:Hid (Off w.heap.size wa (w2.setCell ⟨gF,k*2+1,none⟩ (.slice b2 fn d2))):=(hoff.out.trans (Off.of_below hB2)).setNew hbma
     clear hh hown2 hB2 y0 y7 z7 zf HCB q1 q2 q3 q4 c0 c1
     go_wp2_with fail
     go_roundw
     case rel=>exact⟨k+1,by omega,by go_num,HBX2,HBE2,HOF2,HF2⟩
     case measure=>simp[intOf];omega
    .
     have HW2:Hid (∃rF,FO2 wr wa.heap.size w.heap.size (.slice aF NF cF) rF/\rF.map (·.1)=M.fs):=hinv
     clear hinv
     obtain⟨X0,hXl,hXc,hXr,hX00⟩:=pipes_slots HM.out.pipes
     have HCX:Hid (∀W,Below w.heap.size w W->Calls Tryz.prog 126 #[.slice ax NX cx] W fun e w'=>∃v',e=.returned v'/\w'.ownsRow W.heap.size 66 4 v' NX (pipeRows M.pipes X0).flatten/\Below W.heap.size W w'):=(show ∀W,Below w.heap.size w W->_ from fun W hW=>by
      have:=clonePipe_is ax M.pipes.length cx (pipeRows M.pipes X0).flatten W (by rw[flat_len _ (pipeRows_len _ _)];unfold pipeRows;rw[List.length_zipWith,hXl,Nat.min_self]) HSM.out.xs hX00 (fun a ha j u hu=>(hW.cell (bLt w _ (hXc a ha j u hu))).trans (hXc a ha j u hu)) (pipeRows_one _ _)
      rw[<- HL.out.2.2.1] at this
      exact this)
     have HXR:Hid (∀(q:Nat) (x:SPipe) (s:Sl),M.pipes[q]? = some x->X0[q]? = some s->Reads w (sl x.b s) x.b.length (x.b.map U)):=hXr
     have HXL:Hid (X0.length=M.pipes.length):=hXl
     obtain⟨x0,x1,x2,x3,x4,xf⟩:=cells5C hBX.out.1
     have xf2:=xf 2
     clear hXl hXc hXr hX00 x0 x1 x3 x4 xf
     go_wp2_with fail
     refine Calls.mono (HCX.out wr hbel.out) ?_
     rintro e v2 ⟨vX,rfl,hown,hb1⟩
     obtain⟨⟨aX,cX,rfl,hcX1,hcX2⟩,_⟩:=owns_formE hown
     have hcX2':cX<=9223372036854775807:=by unfold maxLen at hcX2;exact hcX2
     have hX1:=BX.below hBX.out hb1
     have hbmw:=hBX.out.lt
     have HX1:Hid (BX (v2.setCell ⟨w.heap.size,2,none⟩ (.slice aX NX cX)) w.heap.size (.slice aN NN cN) (.slice aF NF cF) (.slice aX NX cX) (.slice ap NP cp) (.slice aS NS cs)):=BX.set hX1.1 hX1.2 rfl
     have HB1:Hid (Below w.heap.size w (v2.setCell ⟨w.heap.size,2,none⟩ (.slice aX NX cX))):=(hbel.out.trans (hb1.mono (by have:=hbel.out.size;omega))).setCell (Nat.le_refl _) _
     have HO1:Hid (Off w.heap.size wr (v2.setCell ⟨w.heap.size,2,none⟩ (.slice aX NX cX))):=(Off.of_below hb1).set rfl
     have HP1:Hid (∃X O,PT w (v2.setCell ⟨w.heap.size,2,none⟩ (.slice aX NX cX)) wr.heap.size (.slice aX NX cX) M.pipes 0 X O/\OLo O wr.heap.size (v2.setCell ⟨w.heap.size,2,none⟩ (.slice aX NX cX))/\NoBA O):=(show ∃X O,_ from by
      refine⟨X0,rowO (.slice aX NX cX) .pipes noO,⟨?_,rowO_own _ _ _,HXL.out,fun q x s hq=>absurd hq (by omega),fun q x s _ hx hs=>HXR.out q x s hx hs⟩,rowO_lo (noO_lo _ wr) (fun g hg=>?_) ?_,rowO_nob noO_nob (by simp) (by simp)⟩
      . rw[<- HL.out.2.2.1]
        refine ownsRow_keep hown (fun g hg=>Below.heap_setCell _ _ _ _ (fun e=>?_))
        have:=(hown.lt g hg).1
        have e':g=w.heap.size:=e
        omega
      . rw[show (v2.setCell ⟨w.heap.size,2,none⟩ (.slice aX NX cX)).heap.size=v2.heap.size by simp]
        exact hown.lt g hg
      . rw[show (v2.setCell ⟨w.heap.size,2,none⟩ (.slice aX NX cX)).heap.size=v2.heap.size by simp]
        exact hb1.size)
     obtain⟨x0,x1,x2',x3,x4,xf⟩:=cells5C hX1.1
     have xf2':=xf 2
     have HWS2:Hid (w.heap.size+2<=wr.heap.size):=(show _<=_ by omega)
     clear hown hb1 hX1 HCX xf hcX2 x0 x1 x3 x4 HXR HXL x2 xf2 hbmw hBX hlt
     go_wp2_with fail
     clear x2' xf2'
     generalize hv2s:v2.setCell ⟨w.heap.size,2,none⟩ (.slice aX NX cX)=v2s at *
     clear hv2s
     obtain⟨wb,hwb⟩:∃W,W=wr:=⟨_,rfl⟩
     rw[<- hwb] at HO1 HWS2 HW2 HP1 hoff
     have HOAB:Hid (Off w.heap.size wa wb):=hoff
     clear hbel hoff
     clear hwb
     go_loopw [64] (fun z wr=>∃k:Nat,k<=NX/\z=.int .i64 k/\Hid (BX wr w.heap.size (.slice aN NN cN) (.slice aF NF cF) (.slice aX NX cX) (.slice ap NP cp) (.slice aS NS cs))/\Hid (Below w.heap.size w wr)/\Hid (Off w.heap.size wb wr)/\Hid (∃X O,PT w wr wb.heap.size (.slice aX NX cX) M.pipes k X O/\OLo O wb.heap.size wr/\NoBA O)) (fun z _=>NX-(intOf z).toNat)
     case atStart=>exact⟨0,Nat.zero_le _,rfl,HX1,HB1,HO1,HP1⟩
     case round=>
      obtain⟨k,hk,rfl,hBX,hbel,hoff,hinv⟩:=hrel
      clear HX1 HB1 HO1 HP1
      by_cases hlt:k<NX
      .
       obtain⟨X,O,hPT,hlo,hnb⟩:=hinv.out
       clear hinv
       obtain⟨x,hx⟩:∃x,M.pipes[k]? = some x:=⟨_,gEl (by have:=HL.out.2.2.1;omega)⟩
       obtain⟨s,hs⟩:∃s,X[k]? = some s:=⟨_,gEl (by have:=hPT.len;have:=HL.out.2.2.1;omega)⟩
       have hown:=hPT.own
       rw[<- HL.out.2.2.1] at hown
       obtain⟨_,hform⟩:=owns_formE hown
       obtain⟨gX,cX',e1,_,_,hgX,hcells,hfrz⟩:=hform (by omega)
       injection e1 with e1 e2 e3
       subst e1
       have hrow:(pipeRows M.pipes X)[k]? = some (pipeRow x s):=zip_at hx hs
       have hat:=flat_at _ k _ (pipeRows_len M.pipes X) hrow
       have c0:=(hcells (k*4) (by omega)).trans (hat 0 (by omega))
       have c1:=(hcells (k*4+1) (by omega)).trans (hat 1 (by omega))
       have c2:=(hcells (k*4+2) (by omega)).trans (hat 2 (by omega))
       have c3:=(hcells (k*4+3) (by omega)).trans (hat 3 (by omega))
       simp only[pipeRow,List.getElem?_cons_zero,List.getElem?_cons_succ] at c0 c1 c2 c3
       have f0:=hfrz (k*4)
       have hbma:wb.heap.size<=gX:=(hown.lt gX rfl).1
       have hbmg:w.heap.size+2<=gX:=by have:=HWS2.out;omega
       have HPT:Hid (PT w wr wb.heap.size (.slice (some ⟨gX,0,none⟩) NX cX) M.pipes k X O):=hPT
       have HLO:Hid (OLo O wb.heap.size wr):=hlo
       have HNB:Hid (NoBA O):=hnb
       have HX:Hid (M.pipes[k]? = some x):=hx
       have hrd:=(hPT.rest k x s (Nat.le_refl _) hx hs).below hbel.out
       have hbl:x.b.length<=100000:=HSM.out.xb x (mGt hx)
       obtain⟨x0,x1,x2,x3,x4,xf⟩:=cells5C hBX.out.1
       unfold sl at c0 hrd
       obtain⟨fa,fc⟩:=s
       simp only at c0 hrd
       obtain⟨BL,hBL⟩:∃z,z=x.b.length:=⟨_,rfl⟩
       have HBL:Hid (BL=x.b.length):=hBL
       rw[<- hBL] at c0
       have HCB:Hid _:=bclone_at (bm:=w.heap.size) (j1:=2) (j2:=0) hBL hrd hbl x2 c0 f0
       generalize x.room=n1 at *
       generalize x.closed=n2 at *
       generalize x.shut=n3 at *
       clear hPT hlo hnb hx hs hform hcells hfrz hrd hbl x0 x1 x3 x4 xf e2 e3 hrow hat hown hBL
       go_wp2_with fail
       have q1:gX≠w.heap.size:=by omega
       have q2:w.heap.size≠gX:=by omega
       have q3:gX≠wr.heap.size:=by omega
       have q4:wr.heap.size≠gX:=by omega
       go_region_held3 (fun W=>W.cell? ⟨w.heap.size,2,none⟩=some (.slice (some ⟨gX,0,none⟩) NX cX)/\W.cell? ⟨wr.heap.size,0,none⟩=some (.slice fa BL fc)) (go_keep) (first | (go_at_call 125;refine Calls.mono (HCB.out _ ?_ ?_) ?_;(repeat (first | exact boxE | refine Below.drew ?_));(simp[*]);rintro e w2 ⟨b2,d2,rfl,y0,y7,z7,zf,hh⟩))
       obtain⟨hown2,hB2⟩:=hh.out
       have HP2:Hid (∃X O,PT w (w2.setCell ⟨gX,k*4,none⟩ (.slice b2 BL d2)) wb.heap.size (.slice (some ⟨gX,0,none⟩) NX cX) M.pipes (k+1) X O/\OLo O wb.heap.size (w2.setCell ⟨gX,k*4,none⟩ (.slice b2 BL d2))/\NoBA O):=(show ∃X O,_ from by
        rw[HBL.out] at hown2
        obtain⟨s2,h1,h2⟩:=PT.step HL.out.2.2.1 HPT.out HLO.out (by have:=hoff.out.size;omega) HX.out hB2 hown2
        rw[<- HBL.out] at h1 h2
        exact⟨_,_,h1,h2,HNB.out.add _ _ (by simp) (by simp)⟩)
       have HBX2:Hid (BX (w2.setCell ⟨gX,k*4,none⟩ (.slice b2 BL d2)) w.heap.size (.slice aN NN cN) (.slice aF NF cF) (.slice (some ⟨gX,0,none⟩) NX cX) (.slice ap NP cp) (.slice aS NS cs)):=BX.other (BX.below hBX.out hB2) (by show w.heap.size+1<gX;omega)
       have HBE2:Hid (Below w.heap.size w (w2.setCell ⟨gX,k*4,none⟩ (.slice b2 BL d2))):=(hbel.out.trans (hB2.mono hbel.out.size)).setCell (by show w.heap.size<=gX;omega) _
       have HOF2:Hid (Off w.heap.size wb (w2.setCell ⟨gX,k*4,none⟩ (.slice b2 BL d2))):=(hoff.out.trans (Off.of_below hB2)).setNew hbma
       clear hh hown2 hB2 y0 y7 z7 zf HCB q1 q2 q3 q4 c0 c1 c2 c3
       go_wp2_with fail
       go_roundw
       case rel=>exact⟨k+1,by omega,by go_num,HBX2,HBE2,HOF2,HP2⟩
       case measure=>simp[intOf];omega
      .
       obtain⟨X9,O9,hPT9,hlo9,hnb9⟩:=hinv.out
       have HPT9:Hid (PT w wr wb.heap.size (.slice aX NX cX) M.pipes NX X9 O9):=(show PT w wr wb.heap.size (.slice aX NX cX) M.pipes NX X9 O9 from by
        have e:k=NX:=by omega
        rw[e] at hPT9
        exact hPT9)
       have HLO9:Hid (OLo O9 wb.heap.size wr):=hlo9
       have HNB9:Hid (NoBA O9):=hnb9
       clear hinv hPT9 hlo9 hnb9
       obtain⟨P0,hPl,hPc,hPr,hP00,hP1⟩:=procs_slots HM.out.procs
       have HCX:Hid (∀W,Below w.heap.size w W->Calls Tryz.prog 127 #[.slice ap NP cp] W fun e w'=>∃v',e=.returned v'/\w'.ownsRow W.heap.size 76 5 v' NP (procRows M.ps P0).flatten/\Below W.heap.size W w'):=(show ∀W,Below w.heap.size w W->_ from fun W hW=>by
        have:=cloneProc_is ap M.ps.length cp (procRows M.ps P0).flatten W (by rw[flat_len _ (procRows_len _ _)];unfold procRows;rw[List.length_zipWith,hPl,Nat.min_self]) HSM.out.ps hP00 (fun a ha j u hu=>(hW.cell (bLt w _ (hPc a ha j u hu))).trans (hPc a ha j u hu)) hP1
        rw[<- HL.out.2.2.2.1] at this
        exact this)
       have HPR:Hid (∀(i:Nat) (p:SProc) (s:PSlot),M.ps[i]? = some p->P0[i]? = some s->RList w s.gv U p.got/\RList w s.ov U p.out):=hPr
       have HPL:Hid (P0.length=M.ps.length):=hPl
       obtain⟨x0,x1,x2,x3,x4,xf⟩:=cells5C hBX.out.1
       have xf3:=xf 3
       clear hPl hPc hPr hP00 hP1 x0 x1 x2 x4 xf
       go_wp2_with fail
       refine Calls.mono (HCX.out wr hbel.out) ?_
       rintro e v3 ⟨vP,rfl,hown,hb1⟩
       obtain⟨⟨aP,cP,rfl,hcP1,hcP2⟩,_⟩:=owns_formE hown
       have hcP2':cP<=9223372036854775807:=by unfold maxLen at hcP2;exact hcP2
       have hX1:=BX.below hBX.out hb1
       have hbmw:=hBX.out.lt
       have hws:=hoff.out.size
       have HX1:Hid (BX (v3.setCell ⟨w.heap.size,3,none⟩ (.slice aP NP cP)) w.heap.size (.slice aN NN cN) (.slice aF NF cF) (.slice aX NX cX) (.slice aP NP cP) (.slice aS NS cs)):=BX.set hX1.1 hX1.2 rfl
       have HB1:Hid (Below w.heap.size w (v3.setCell ⟨w.heap.size,3,none⟩ (.slice aP NP cP))):=(hbel.out.trans (hb1.mono (by have:=hbel.out.size;omega))).setCell (Nat.le_refl _) _
       have HO1:Hid (Off w.heap.size wr (v3.setCell ⟨w.heap.size,3,none⟩ (.slice aP NP cP))):=(Off.of_below hb1).set rfl
       have HP1:Hid (∃P O,QT w (v3.setCell ⟨w.heap.size,3,none⟩ (.slice aP NP cP)) wb.heap.size (.slice aP NP cP) M.ps 0 P O/\OLo O wb.heap.size (v3.setCell ⟨w.heap.size,3,none⟩ (.slice aP NP cP))/\NoBA O /\ ∀g o,O9 g=some o->O g=some o):=(show ∃P O,_ from by
        refine⟨P0,rowO (.slice aP NP cP) .procs O9,⟨?_,rowO_own _ _ _,HPL.out,fun q x s hq=>absurd hq (by omega),fun q x s _ hx hs=>HPR.out q x s hx hs⟩,rowO_lo HLO9.out (fun g hg=>?_) ?_,rowO_nob HNB9.out (by simp) (by simp),rowO_old HLO9.out (fun g hg=>(hown.lt g hg).1)⟩
        . rw[<- HL.out.2.2.2.1]
          refine ownsRow_keep (owns_lower hown hws) (fun g hg=>Below.heap_setCell _ _ _ _ (fun e=>?_))
          have:=(hown.lt g hg).1
          have e':g=w.heap.size:=e
          omega
        . rw[show (v3.setCell ⟨w.heap.size,3,none⟩ (.slice aP NP cP)).heap.size=v3.heap.size by simp]
          have:=hown.lt g hg
          omega
        . rw[show (v3.setCell ⟨w.heap.size,3,none⟩ (.slice aP NP cP)).heap.size=v3.heap.size by simp]
          exact hb1.size)
       obtain⟨x0,x1,x2,x3',x4,xf⟩:=cells5C hX1.1
       have xf3':=xf 3
       have HWS3:Hid (w.heap.size+2<=wr.heap.size):=(show _<=_ by omega)
       have HGP:Hid (∀g,(Value.slice aP NP cP).ownBlock=some g->wr.heap.size<=g):=(show ∀g,_ from fun g hg=>(hown.lt g hg).1)
       clear hown hb1 hX1 HCX xf hcP2 x0 x1 x2 x4 HPR HPL x3 xf3 hbmw hBX hlt hws
       go_wp2_with fail
       clear x3' xf3'
       generalize hv3s:v3.setCell ⟨w.heap.size,3,none⟩ (.slice aP NP cP)=v3s at *
       clear hv3s
       obtain⟨wc,hwc⟩:∃W,W=wr:=⟨_,rfl⟩
       rw[<- hwc] at HO1 HWS3 HPT9 HLO9 hoff HGP
       have HOBC:Hid (Off w.heap.size wb wc):=hoff
       clear hbel hoff
       clear hwc
       go_loopw [85] (fun z wr=>∃k:Nat,k<=NP/\z=.int .i64 k/\Hid (BX wr w.heap.size (.slice aN NN cN) (.slice aF NF cF) (.slice aX NX cX) (.slice aP NP cP) (.slice aS NS cs))/\Hid (Below w.heap.size w wr)/\Hid (Off w.heap.size wc wr)/\Hid (∃P O,QT w wr wb.heap.size (.slice aP NP cP) M.ps k P O/\OLo O wb.heap.size wr/\NoBA O /\ ∀g o,O9 g=some o->O g=some o)) (fun z _=>NP-(intOf z).toNat)
       case atStart=>exact⟨0,Nat.zero_le _,rfl,HX1,HB1,HO1,HP1⟩
       case round=>
        obtain⟨k,hk,rfl,hBX,hbel,hoff,hinv⟩:=hrel
        clear HX1 HB1 HO1 HP1
        by_cases hlt:k<NP
        .
         obtain⟨P,O,hQT,hlo,hnb,hO9⟩:=hinv.out
         clear hinv
         obtain⟨p,hp⟩:∃p,M.ps[k]? = some p:=⟨_,gEl (by have:=HL.out.2.2.2.1;omega)⟩
         obtain⟨s,hs⟩:∃s,P[k]? = some s:=⟨_,gEl (by have:=hQT.len;have:=HL.out.2.2.2.1;omega)⟩
         have hown:=hQT.own
         rw[<- HL.out.2.2.2.1] at hown
         obtain⟨_,hform⟩:=owns_formE hown
         obtain⟨gP,cP',e1,_,_,hgP,hcells,hfrz⟩:=hform (by omega)
         injection e1 with e1 e2 e3
         subst e1
         have hrow:(procRows M.ps P)[k]? = some (procRow p s):=zip_at hp hs
         have hat:=flat_at _ k _ (procRows_len M.ps P) hrow
         have c0:=(hcells (k*5) (by omega)).trans (hat 0 (by omega))
         have c1:=(hcells (k*5+1) (by omega)).trans (hat 1 (by omega))
         have c2:=(hcells (k*5+2) (by omega)).trans (hat 2 (by omega))
         have c3:=(hcells (k*5+3) (by omega)).trans (hat 3 (by omega))
         have c4:=(hcells (k*5+4) (by omega)).trans (hat 4 (by omega))
         simp only[procRow,List.getElem?_cons_zero,List.getElem?_cons_succ] at c0 c1 c2 c3 c4
         have f0:=hfrz (k*5)
         have f2:=hfrz (k*5+2)
         obtain⟨hrg,hro⟩:=hQT.rest k p s (Nat.le_refl _) hp hs
         obtain⟨ag,cg,hgv,_,_⟩:=hrg.shape
         obtain⟨ab,cb,hov,_,_⟩:=hro.shape
         rw[hgv] at c0 hrg
         rw[hov] at c2 hro
         have hbma:wb.heap.size<=gP:=(hown.lt gP rfl).1
         have hgpc:wc.heap.size<=gP:=HGP.out gP rfl
         have hbmg:w.heap.size+2<=gP:=by have:=HWS2.out;omega
         obtain⟨q1,q2,q3,q4⟩:=HSM.out.pl p (mGt hp)
         obtain⟨x0,x1,x2,x3,x4,xf⟩:=cells5C hBX.out.1
         obtain⟨GL,hGL⟩:∃z,z=p.got.length:=⟨_,rfl⟩
         obtain⟨OL,hOL⟩:∃z,z=p.out.length:=⟨_,rfl⟩
         have HGL:Hid (GL=p.got.length):=hGL
         have HOL:Hid (OL=p.out.length):=hOL
         rw[<- hGL] at c0
         rw[<- hOL] at c2
         have HC1:Hid _:=cloned_at (bm:=w.heap.size) (j1:=3) (g:=gP) (o1:=k*5) (o2:=k*5+2) (u1:=.slice ag GL cg) (u2:=.slice ab OL cb) (.gots k) (Own.got k) (by simp) hGL (hrg.below hbel.out) q1 q3 x3 c0 f0 c2 f2
         have HC2:Hid _:=cloned_at (bm:=w.heap.size) (j1:=3) (g:=gP) (o1:=k*5) (o2:=k*5+2) (u1:=.slice ag GL cg) (u2:=.slice ab OL cb) (.outs k) (Own.out k) (by simp) hOL (hro.below hbel.out) q2 q4 x3 c0 f0 c2 f2
         have HQT:Hid (QT w wr wb.heap.size (.slice (some ⟨gP,0,none⟩) NP cP) M.ps k P O):=hQT
         have HLO:Hid (OLo O wb.heap.size wr):=hlo
         have HNB:Hid (NoBA O):=hnb
         have HO9:Hid (∀g o,O9 g=some o->O g=some o):=hO9
         have HP:Hid (M.ps[k]? = some p):=hp
         generalize p.pos=n1 at *
         generalize p.rd=n3 at *
         generalize p.ov=n4 at *
         clear hQT hlo hnb hO9 hp hs hform hcells hfrz hrg hro x0 x1 x2 x4 xf e2 e3 hrow hat hown hGL hOL q1 q2 q3 q4 hgv hov
         go_wp2_with fail
         have q1:gP≠w.heap.size:=by omega
         have q2:w.heap.size≠gP:=by omega
         have q3:gP≠wr.heap.size:=by omega
         have q4:wr.heap.size≠gP:=by omega
         go_region_held3 (fun W=>W.cell? ⟨w.heap.size,3,none⟩=some (.slice (some ⟨gP,0,none⟩) NP cP)/\W.cell? ⟨wr.heap.size,0,none⟩=some (.slice ag GL cg)/\W.cell? ⟨wr.heap.size,2,none⟩=some (.slice ab OL cb)) (go_keep) (first | (go_at_call_of 128 (Value.slice ag GL cg);refine Calls.mono (HC1.out _ ?_ ?_ ?_) ?_;(first | (repeat (first | exact boxE | refine Below.drew ?_)) | assumption);(simp[*]);(simp[*]);rintro e w2 ⟨a2,d2,rfl,y0,y1,y2,z0,zf0,z2,zf2,hh1,hh2,hh3⟩) | (go_at_call_of 128 (Value.slice ab OL cb);refine Calls.mono (HC2.out _ ?_ ?_ ?_) ?_;(exact Hid.out hh3);(simp[*]);(simp[*]);rintro e w3 ⟨a3,d3,rfl,y0',y1',y2',z0',zf0',z2',zf2',hh1',hh2',hh3'⟩))
         have hB2:=hh3.out
         have hB23:=hh2'.out
         have hB3:=hh3'.out
         have HQ2:Hid (∃P O,QT w ((w3.setCell ⟨gP,k*5,none⟩ (.slice a2 GL d2)).setCell ⟨gP,k*5+2,none⟩ (.slice a3 OL d3)) wb.heap.size (.slice (some ⟨gP,0,none⟩) NP cP) M.ps (k+1) P O/\OLo O wb.heap.size ((w3.setCell ⟨gP,k*5,none⟩ (.slice a2 GL d2)).setCell ⟨gP,k*5+2,none⟩ (.slice a3 OL d3))/\NoBA O /\ ∀g o,O9 g=some o->O g=some o):=(show ∃P O,_ from by
          obtain⟨ss1,OL1,hc1,hl1,_,hv1⟩:=hh1.out
          obtain⟨ss2,OL2,hc2,_,hl2,hv2⟩:=hh1'.out
          have hDr:wb.heap.size<=wr.heap.size:=by have:=hoff.out.size;have:=HOBC.out.size;omega
          have hlo1:=HLO.out.join hl1 hDr hB2.size
          have hlo2:=hlo1.join hl2 (by have:=hB2.size;omega) hB23.size
          have hQ3:=HQT.out.keep (w':=w3) (O':=joinO (joinO O OL1 wr) OL2 w2) (fun g o hg=>hB3.block g (HLO.out g o hg).2) (fun g o hg=>joinO_old hlo1 g o (joinO_old HLO.out g o hg))
          have hC1:=(hc1.lower hDr).keep (w':=w3) (O':=joinO (joinO O OL1 wr) OL2 w2) (fun g o hg _=>hB23.block g (hl1 g o hg).2) (fun g o hg=>joinO_old hlo1 g o (joinO_new hl1 g o hg))
          have hC2:=(hc2.lower hDr).keep (w':=w3) (O':=joinO (joinO O OL1 wr) OL2 w2) (fun g o hg _=>rfl) (fun g o hg=>joinO_new hl2 g o hg)
          exact⟨_,_,QT.step HL.out.2.2.2.1 hQ3 HP.out hC1 hC2,(hlo2.set _ _).set _ _,(HNB.out.join hv1 ⟨by simp,by simp⟩ (fun j=>⟨by simp,by simp⟩) wr).join hv2 ⟨by simp,by simp⟩ (fun j=>⟨by simp,by simp⟩) w2,fun g o hg=>joinO_old hlo1 g o (joinO_old HLO.out g o (HO9.out g o hg))⟩)
         have HBX2:Hid (BX ((w3.setCell ⟨gP,k*5,none⟩ (.slice a2 GL d2)).setCell ⟨gP,k*5+2,none⟩ (.slice a3 OL d3)) w.heap.size (.slice aN NN cN) (.slice aF NF cF) (.slice aX NX cX) (.slice (some ⟨gP,0,none⟩) NP cP) (.slice aS NS cs)):=BX.other (BX.other (BX.below hBX.out hB3) (by show w.heap.size+1<gP;omega)) (by show w.heap.size+1<gP;omega)
         have HBE2:Hid (Below w.heap.size w ((w3.setCell ⟨gP,k*5,none⟩ (.slice a2 GL d2)).setCell ⟨gP,k*5+2,none⟩ (.slice a3 OL d3))):=((hbel.out.trans (hB3.mono hbel.out.size)).setCell (by show w.heap.size<=gP;omega) _).setCell (by show w.heap.size<=gP;omega) _
         have HOF2:Hid (Off w.heap.size wc ((w3.setCell ⟨gP,k*5,none⟩ (.slice a2 GL d2)).setCell ⟨gP,k*5+2,none⟩ (.slice a3 OL d3))):=((hoff.out.trans (Off.of_below hB3)).setNew hgpc).setNew hgpc
         clear hh1 hh2 hh3 hh1' hh2' hh3' hB2 hB23 hB3 y0 y1 y2 z0 zf0 z2 zf2 y0' y1' y2' z0' zf0' z2' zf2' HC1 HC2 q1 q2 q3 q4 c0 c1 c2 c3 c4
         go_wp2_with fail
         go_roundw
         case rel=>exact⟨k+1,by omega,by go_num,HBX2,HBE2,HOF2,HQ2⟩
         case measure=>simp[intOf];omega
        .
         obtain⟨P9,O10,hQT9,hlo10,hnb10,hO910⟩:=hinv.out
         have e9:k=NP:=by omega
         rw[e9,HL.out.2.2.2.1] at hQT9
         rw[<- HL.out.2.2.2.1] at hQT9
         have hDr:wb.heap.size<=wr.heap.size:=by have:=hoff.out.size;have:=HOBC.out.size;omega
         have hPT9:PT w wr wb.heap.size (.slice aX NX cX) M.pipes NX X9 O10:=HPT9.out.keep (fun g o hg _=>hoff.out.block g (HLO9.out g o hg).2 (by have:=(HLO9.out g o hg).1;have:=HWS2.out;omega)) (fun g o hg=>(hO910 g o hg).trans hg.symm)
         have HRAW:Hid (∀(w5 wF:World) (a5:Option Addr) (c5:Nat),Below wr.heap.size wr w5->w5.ownsRow wr.heap.size 5 1 (.slice a5 NS c5) NS (M.sunk.map U)->OffB w.heap.size w5 wF->wF.heap.size=w5.heap.size -> ∃X P O,∀vI vM,Raw wF wb.heap.size O ⟨M,.slice aN NN cN,.slice aF NF cF,.slice aX NX cX,.slice aP NP cP,vI,vM,(a5,c5),X,P⟩):=(show ∀(w5 wF:World) (a5:Option Addr) (c5:Nat),_ from by
          intro w5 wF a5 c5 hb5 ho5 hF hFs
          obtain⟨rN,hNO,hNm⟩:=HW1.out
          obtain⟨rF,hFO,hFm⟩:=HW2.out
          have hb2:∀g',(Value.slice a5 NS c5).ownBlock=some g'->addO O10 wr w5 .sunk g'=some .sunk:=fun g' hg'=>by
           have:=ho5.lt g' hg'
           unfold addO
           rw[if_pos ⟨this.1,this.2⟩]
          rw[HL.out.2.2.2.2] at ho5
          obtain⟨s5,e5,hs5,_⟩:=SOf.of_owns ho5 (by rw[<- HL.out.2.2.2.2];exact hb2)
          unfold sl at e5
          injection e5 with e5 e6 e7
          subst e5 e7
          have hkF:∀g o,addO O10 wr w5 .sunk g=some o->wF.heap[g]? = w5.heap[g]?:=fun g o hg=>by
           have h1:=hlo10.add hb5 hDr .sunk g o hg
           have:=HWS2.out
           exact hF.block g h1.2 (by omega) (by omega)
          have hold:∀g o,O10 g=some o->addO O10 wr w5 .sunk g=some o:=fun g o hg=>(addO_old (hlo10 g o hg).2).trans hg
          have hlo11:OLo (addO O10 wr w5 .sunk) wb.heap.size wF:=fun g o hg=>by
           rw[hFs]
           exact hlo10.add hb5 hDr .sunk g o hg
          refine⟨X9,P9,addO O10 wr w5 .sunk,fun vI vM=>?_⟩
          have hoffF:OffB w.heap.size wb wF:=by
           have h1:Off w.heap.size wb w5:=(HOBC.out.trans hoff.out).trans (Off.of_below hb5)
           exact⟨hF.os.trans h1.os,hF.tape.trans h1.tape,hF.output.trans h1.output,by have:=h1.size;omega,fun k hk n1 n2=>(hF.block k (by have:=h1.size;omega) n1 n2).trans (h1.block k hk n1)⟩
          have e1:(s5.1,s5.2)=s5:=rfl
          refine raw_of (w:=w) (w2:=wb) (B:=w.heap.size+2) (B':=wa.heap.size) hlo11 (hnb10.add _ _ (by simp) (by simp)) rfl hoffF (Nat.le_refl _) (NO.off hNO (Nat.le_refl _) (OffB.of HOAB.out)) hNm hFO hFm ?_ ?_ (hs5.move (fun g hg=>hkF g _ hg)) vI vM
          . have h1:=hPT9.keep (w':=w5) (O':=addO O10 wr w5 .sunk) (fun g o hg _=>hb5.block g (hlo10 g o hg).2) (fun g o hg=>(hold g o hg).trans hg.symm)
            rw[HL.out.2.2.1] at h1
            rw[HL.out.2.2.1]
            exact h1.keep (fun g o hg _=>hkF g o hg) (fun _ _ _=>rfl)
          . have h1:=hQT9.keep (w':=w5) (O':=addO O10 wr w5 .sunk) (fun g o hg=>hb5.block g (hlo10 g o hg).2) hold
            rw[HL.out.2.2.2.1] at h1
            rw[HL.out.2.2.2.1]
            exact h1.keep hkF (fun _ _ h=>h))
         have HCS:Hid (Calls Tryz.prog 125 #[.slice aS NS cs] wr fun e w'=>∃v',e=.returned v'/\w'.ownsRow wr.heap.size 5 1 v' NS (M.sunk.map U)/\Below wr.heap.size wr w'):=(show Calls _ _ _ _ _ from by
          have:=bcloneE aS cs M.sunk wr (HM.out.sunk.below hbel.out) HSM.out.sunk
          rw[<- HL.out.2.2.2.2] at this
          exact this)
         obtain⟨x0,x1,x2,x3,x4,xf⟩:=cells5C hBX.out.1
         have HDW:Hid (w.heap.size<=wb.heap.size):=(show _<=_ by have:=HWS2.out;omega)
         clear hinv hQT9 hlo10 hnb10 hO910 hPT9 hDr x0 x1 x2 x3 xf e9
         go_wp2_with fail
         refine Calls.mono HCS.out ?_
         rintro e w5 ⟨vS,rfl,ho5,hb5⟩
         obtain⟨⟨a5,c5,rfl,_,_⟩,_⟩:=owns_formE ho5
         have hX5:=BX.below hBX.out hb5
         obtain⟨x0,x1,x2,x3,x4',xf⟩:=cells5C hX5.1
         obtain⟨y0,y1,y2,y3,y4,yf⟩:=cells5C hX5.2
         have xf4:=xf 4
         have yf0:=yf 0
         have yf1:=yf 1
         have yf2:=yf 2
         have yf3:=yf 3
         have yf4:=yf 4
         have HFIN:Hid (∀wF,OffB w.heap.size w5 wF->wF.heap.size=w5.heap.size -> ∃X P O,∀vI vM,Raw wF wb.heap.size O ⟨M,.slice aN NN cN,.slice aF NF cF,.slice aX NX cX,.slice aP NP cP,vI,vM,(a5,c5),X,P⟩):=(show ∀wF,_ from fun wF h1 h2=>HRAW.out w5 wF a5 c5 hb5 ho5 h1 h2)
         have HB5:Hid (Below w.heap.size w w5):=hbel.out.trans (hb5.mono hbel.out.size)
         clear hX5 xf yf ho5 hb5 HCS HRAW x4
         go_wp2_with fail
         (try simp only[Exit.inBlock,Exit.then])
         refine bodyPost_ret (v:=.agg #[.slice aN NN cN,.slice aF NF cF,.slice aX NX cX,.slice aP NP cP,.slice a5 NS c5]) ?_ rfl ?_
         . rw[results_cell1 rfl]
           go_simp
         . obtain⟨X,P,O,hR⟩:=HFIN.out ((((((w5.setCell ⟨w.heap.size,4,none⟩ (.slice a5 NS c5)).setCell ⟨w.heap.size+1,0,none⟩ (.slice aN NN cN)).setCell ⟨w.heap.size+1,1,none⟩ (.slice aF NF cF)).setCell ⟨w.heap.size+1,2,none⟩ (.slice aX NX cX)).setCell ⟨w.heap.size+1,3,none⟩ (.slice aP NP cP)).setCell ⟨w.heap.size+1,4,none⟩ (.slice a5 NS c5)) (by repeat (first | refine OffB.set ?_ rfl | exact OffB.of ((Off.refl w.heap.size w5).set rfl))) (by simp)
           refine⟨wb.heap.size,.slice aN NN cN,.slice aF NF cF,.slice aX NX cX,.slice aP NP cP,(a5,c5),X,P,O,?_,hR,HDW.out,?_⟩
           . unfold sl
             rw[<- HL.out.2.2.2.2]
           . repeat (first | refine Below.setCell ?_ (by simp) _ | exact HB5.out)
end Go.Proofs.YtllgglolcgdehaaGreatDoor
namespace Go.Proofs.YtllgglolcgdehaaGreatDoor
open Go.RowKit Go.Gs Go.Maps
set_option linter.unusedVariables false
def intoL (L:List (Int × Int)) (p:Int × Int):Int:=if p∈L then (L.idxOf p:Int) else 0
theorem intoL_all (ns:List SNode):intoL (allIns ns)=intoZ ns:=by
 funext p
 unfold intoL intoZ intoOf
 rfl
theorem intoL_new {L:List (Int × Int)} {p:Int × Int} (h:p∉L):intoL (L++[p]) p=(L.length:Int):=by
 unfold intoL
 rw[if_pos (by simp),List.idxOf_append,if_neg h]
 simp
theorem intoL_old {L:List (Int × Int)} {p q:Int × Int} (h:q≠p):intoL (L++[p]) q=intoL L q:=by
 unfold intoL
 by_cases hq:q∈L
 . rw[if_pos (by simp[hq]),if_pos hq,List.idxOf_append,if_pos hq]
 . rw[if_neg (by simp[hq,h]),if_neg hq]
def firstsTo (ns:List SNode) (k:Nat):List Value:=(List.range k).map (fun i=>.int .i64 (firstIn ns i:Int))
theorem firstsTo_succ (ns:List SNode) (k:Nat):firstsTo ns (k+1)=firstsTo ns k++[.int .i64 (firstIn ns k:Int)]:=by unfold firstsTo;rw[List.range_succ,List.map_append];rfl
def AuxT (D:Nat) (vI vM:Value) (ns:List SNode) (L:List (Int × Int)) (k:Nat) (w:World) (O:Nat->Option Own):Prop:=
 w.ownsRow D 3 1 vI k (firstsTo ns k)/\OwnedBy O vI .aux /\ ∃b n,vM=.map (some b)/\IntoIs w b n (intoL L)/\n<=L.length/\O b=some .aux
theorem auxT_ok (D:Nat) (vI vM:Value) (ns:List SNode) (L:List (Int × Int)) (k:Nat):AuxOk (AuxT D vI vM ns L k):=by
 intro w w' O O' h hk hO
 obtain⟨h1,h2,b,n,h3,h4,h6,h5⟩:=h
 exact⟨ownsRow_keep h1 (fun g hg=>hk g (h2 g hg)),fun g hg=>(hO _ _ (h2 g hg)).trans (h2 g hg),b,n,h3,h4.keep (hk b h5),h6,(hO _ _ h5).trans h5⟩
theorem auxT_end {D:Nat} {vI vM:Value} {ns:List SNode} {w:World} {O:Nat->Option Own} (h:AuxT D vI vM ns (allIns ns) ns.length w O):AuxF D vI vM ns w O:=by
 obtain⟨h1,h2,b,n,h3,h4,h6,h5⟩:=h
 rw[intoL_all] at h4
 exact⟨h1,h2,b,n,h3,h4,h5⟩
theorem RMem.auxTo {w:World} {D r:Nat} {O:Nat->Option Own} {A A':World->(Nat->Option Own)->Prop} {d:RD} (h:RMem w D r O A d) (hA:AuxOk A') (h2:A' w O):RMem w D r O A' d:=by
 refine⟨h.lo,h.base,h.xlen,h.plen,h.slen,hA,fun o=>?_⟩
 have:=h.part o
 cases o using Own.elimE with
 | aux=>exact h2
 | box=>exact this
 | pipes=>exact this
 | procs=>exact this
 | gots i=>exact this
 | outs i=>exact this
 | pipe q=>exact this
 | got i j=>exact this
 | out i j=>exact this
 | sunk=>exact this
def RD.withI (d:RD) (v:Value):RD:=⟨d.M,d.vN,d.vF,d.vX,d.vP,v,d.vM,d.sS,d.X,d.P⟩
theorem RMem.swap {w w':World} {D r:Nat} {O O':Nat->Option Own} {A A':World->(Nat->Option Own)->Prop} {d:RD} (h:RMem w D r O A d) (v:Value) (hos:w'.os=w.os) (hta:w'.tape=w.tape) (hout:w'.output=w.output) (hsz:w.heap.size<=w'.heap.size)
 (hk:∀k,k<w.heap.size->O k≠some .box->O k≠some .aux->w'.heap[k]? = w.heap[k]?) (hO:∀k,k<w.heap.size->O' k=O k) (hlo:∀g o,O' g=some o->D<=g/\g<w'.heap.size)
 (hbox:w'.heap[r]? = some (.cells #[d.vN,d.vF,d.vX,d.vP,sl d.M.sunk d.sS,v,d.vM] 111 (0,0))) (hA:AuxOk A') (h2:A' w' O'):RMem w' D r O' A' (d.withI v):=by
 obtain⟨w0,b1,b2,b3,b4⟩:=h.base
 have hle:=h.le
 have hb:Below D w w':=⟨hos,hta,hout,hsz,fun k hkD=>hk k (by omega) (fun e=>by have:=(h.lo k _ e).1;omega) (fun e=>by have:=(h.lo k _ e).1;omega)⟩
 refine⟨hlo,⟨w0,b1,b2.trans hb,b3,b4⟩,h.xlen,h.plen,h.slen,hA,fun o=>?_⟩
 have key:∀o,o≠Own.box->o≠Own.aux->Part w' D r O' A d o:=fun o n1 n2=>(h.part o).keep h.aux (fun k hk2=>hk k (h.lo k o hk2).2 (fun e=>n1 (by rw[hk2] at e;injection e)) (fun e=>n2 (by rw[hk2] at e;injection e))) (fun k o2 hk2=>hO k (h.lo k o2 hk2).2) (fun k o2 hk2=>(h.lo k o2 hk2).2) hO
 cases o using Own.elimE with
 | aux=>exact h2
 | box=>exact⟨hbox,(hO r (h.lo r _ h.box.2).2).trans h.box.2⟩
 | pipes=>exact key Own.pipes (by simp) (by simp)
 | procs=>exact key Own.procs (by simp) (by simp)
 | gots i=>exact key (.gots i) (by simp) (by simp)
 | outs i=>exact key (.outs i) (by simp) (by simp)
 | pipe q=>exact key (.pipe q) (by simp) (by simp)
 | got i j=>exact key (.got i j) (by simp) (by simp)
 | out i j=>exact key (.out i j) (by simp) (by simp)
 | sunk=>exact key Own.sunk (by simp) (by simp)
theorem raw_run {w:World} {D:Nat} {O:Nat->Option Own} {d:RD} (h:Raw w D O d) (hI:d.vI=.slice none 0 0) (hM:d.vM=.map (some w.heap.size)) :
 ∃O',RMem ((w.alloc (.map #[] 0)).alloc (.cells #[d.vN,d.vF,d.vX,d.vP,sl d.M.sunk d.sS,d.vI,d.vM] 111)) D (w.heap.size+1) O' (AuxT D d.vI d.vM d.M.ns [] 0) d:=by
 obtain⟨W,hW⟩:∃W,W=((w.alloc (.map #[] 0)).alloc (.cells #[d.vN,d.vF,d.vX,d.vP,sl d.M.sunk d.sS,d.vI,d.vM] 111)):=⟨_,rfl⟩
 have hb:Below w.heap.size w W:=by rw[hW];exact ((Below.refl _ w).alloc (Nat.le_refl _) _).alloc (by simp) _
 have hs:W.heap.size=w.heap.size+2:=by rw[hW];simp
 have hbox:W.heap[w.heap.size+1]? = some (.cells #[d.vN,d.vF,d.vX,d.vP,sl d.M.sunk d.sS,d.vI,d.vM] 111 (0,0)):=by rw[hW];exact heap_alloc2_new _ _ _
 have hmap:IntoIs W w.heap.size 0 (fun _=>0):=(into_made w).keep (by rw[hW];rw[heap_alloc2_old,heap_alloc_new])
 have hD:D<=w.heap.size:=by
  obtain⟨w0,h1,h2,_⟩:=h.base
  have:=h2.size
  omega
 rw[<- hW]
 clear hW
 refine⟨fun k=>if k=w.heap.size then some .aux else if k=w.heap.size+1 then some .box else O k,?_⟩
 have hold:∀k,k<w.heap.size->(if k=w.heap.size then some Own.aux else if k=w.heap.size+1 then some Own.box else O k)=O k:=fun k hk=>by rw[if_neg (by omega),if_neg (by omega)]
 obtain⟨w0,b1,b2,b3,b4⟩:=h.base
 have hA0:AuxOk (fun (_:World) (_:Nat->Option Own)=>True):=fun _ _ _ _ _ _ _=>trivial
 refine⟨fun g o hg=>?_,⟨w0,b1,b2.trans (hb.mono hD),b3,b4⟩,h.xlen,h.plen,h.slen,auxT_ok _ _ _ _ _ _,fun o=>?_⟩
 .
  by_cases e1:g=w.heap.size
  . omega
  . by_cases e2:g=w.heap.size+1
    . omega
    . simp only[if_neg e1,if_neg e2] at hg
      have:=h.lo g o hg
      omega
 .
  have key:∀o,o≠Own.box->o≠Own.aux->Part W D 0 (fun k=>if k=w.heap.size then some .aux else if k=w.heap.size+1 then some .box else O k) (fun _ _=>True) d o:=fun o n1 n2=>(h.part o n1 n2).keep hA0 (fun k hk=>hb.block k (h.lo k o hk).2) (fun k o2 hk=>hold k (h.lo k o2 hk).2) (fun k o2 hk=>(h.lo k o2 hk).2) hold
  cases o using Own.elimE with
  | aux=>
   refine⟨by rw[hI];exact World.ownsRow_nil _ _ _ _,fun g hg=>by rw[hI] at hg;simp[Value.ownBlock] at hg,w.heap.size,0,hM,?_,Nat.le_refl _,by simp⟩
   have e:intoL []=fun _=>0:=by funext p;simp[intoL]
   rw[e]
   exact hmap
  | box=>exact⟨hbox,by simp⟩
  | pipes=>exact key Own.pipes (by simp) (by simp)
  | procs=>exact key Own.procs (by simp) (by simp)
  | gots i=>exact key (.gots i) (by simp) (by simp)
  | outs i=>exact key (.outs i) (by simp) (by simp)
  | pipe q=>exact key (.pipe q) (by simp) (by simp)
  | got i j=>exact key (.got i j) (by simp) (by simp)
  | out i j=>exact key (.out i j) (by simp) (by simp)
  | sunk=>exact key Own.sunk (by simp) (by simp)
theorem infoIntE:(Tryz.prog.info? 3).map (fun i=>(i.zero,i.size,i.bytes))=some (some (.int .i64 0),1,8):=by kernel_rfl
theorem RMem.firstUp {w:World} {D r:Nat} {O:Nat->Option Own} {d:RD} {L:List (Int × Int)} {k:Nat} (h:RMem w D r O (AuxT D d.vI d.vM d.M.ns L k) d) (hk:k<=1000) {ad:Addr} {c:Nat} {m:Int} (hm:m=(firstIn d.M.ns k:Int)) (hc:w.cell? ad=some (.int .i64 m)) (ty:TypeId) :
 ∃v' w' O',(Builtin.append_ #[45,45] ty #[d.vI,.slice (some ad) 1 c]).run Tryz.prog w=.ok v' w'/\(∃a' c',v'=.slice a' (k+1) c')/\Below D w w'/\w.heap.size<=w'.heap.size/\w'.heap[r]? = w.heap[r]? /\ (∀g,g<w.heap.size->O g≠some .aux->w'.heap[g]? = w.heap[g]?)/\RMem (w'.setCell ⟨r,5,none⟩ v') D r O' (AuxT D v' d.vM d.M.ns L (k+1)) (d.withI v'):=by
 obtain⟨h1,h2,b,n,h3,h4,h6,h5⟩:=h.part .aux
 obtain⟨i0,hi,hi0,hi1,hi2⟩:=info_parts infoIntE
 have hle:=h.le
 obtain⟨v',w',hr,hown,hg,_,hl⟩:=run_append_own_at (P:=Tryz.prog) w D 45 ty 3 i0 (.int .i64 0) 1 8 Tryz.underlying45 hi hi0 hi1 hi2 rfl (by decide) d.vI k (firstsTo d.M.ns k) h1 ad 1 c [.int .i64 m] rfl (fun j u hu=>by
  cases j with
  | zero=>
   simp at hu
   subst hu
   rw[show ad.add 0=ad by cases ad;rfl]
   exact hc
  | succ j=>simp at hu) (fun u hu=>by simp at hu;subst hu;rfl) (by unfold maxLen;omega) (by omega) hle
 have hkeep:∀g,g<w.heap.size->O g≠some .aux->w'.heap[g]? = w.heap[g]?:=fun g hgs ho=>hg.block g hgs (fun e=>ho (h2 g e.symm))
 have hrl:=h.lo r _ h.box.2
 have hr':w'.heap[r]? = w.heap[r]?:=hkeep r hrl.2 (by rw[h.box.2];simp)
 have hbel:Below D w w':=⟨hg.os,hg.tape,hg.output,hg.size,fun g hgD=>hkeep g (by omega) (fun e=>by have:=(h.lo g _ e).1;omega)⟩
 obtain⟨⟨a',c',hv',_,_⟩,_⟩:=owns_formE hown
 have hobl:∀g,v'.ownBlock=some g->D<=g/\g<w'.heap.size:=fun g hg'=>hown.lt g hg'
 have hbox':=hr'.trans h.box.1
 have hO':∀k',k'<w.heap.size->(if k'=w.heap.size/\v'.ownBlock=some w.heap.size then some Own.aux else O k')=O k':=fun k' hk'=>by rw[if_neg (by omega)]
 refine⟨v',w',fun k'=>if k'=w.heap.size/\v'.ownBlock=some w.heap.size then some .aux else O k',hr,⟨a',c',hv'⟩,hbel,hg.size,hr',hkeep,?_⟩
 have hne:∀g,v'.ownBlock=some g->g≠r:=fun g hg' e=>by
  subst e
  rcases hl with e1 | e1
  . have:=h2 g (by rw[<- e1];exact hg')
    rw[h.box.2] at this
    cases this
  . rw[e1] at hg'
    injection hg' with hg'
    omega
 refine h.swap v' hg.os hg.tape hg.output (by simpa using hg.size) (fun k' hk' n1 n2=>?_) hO' (fun g o hg'=>?_) ?_ (auxT_ok _ _ _ _ _ _) ?_
 . rw[Below.heap_setCell _ _ _ _ (fun e=>n1 (by have e':k'=r:=e;subst e';exact h.box.2))]
   exact hkeep k' hk' n2
 .
  rw[show (w'.setCell ⟨r,5,none⟩ v').heap.size=w'.heap.size by simp]
  have hgs:=hg.size
  by_cases e:g=w.heap.size/\v'.ownBlock=some w.heap.size
  . have:=hobl w.heap.size e.2
    omega
  . rw[if_neg e] at hg'
    have:=h.lo g o hg'
    omega
 . rw[setCell_eq_setRow w' r 5 _ _ (0,0) v' hbox']
   exact setRow_heap w' r _ _ _ _ hbox'
 .
  refine⟨?_,fun g hg'=>?_,b,n,h3,h4.keep ?_,h6,?_⟩
  . rw[firstsTo_succ,<- hm]
    exact ownsRow_keep hown (fun g hg'=>Below.heap_setCell _ _ _ _ (hne g hg'))
  .
   show (if g=w.heap.size/\v'.ownBlock=some w.heap.size then some Own.aux else O g)=some Own.aux
   rcases hl with e1 | e1
   . have h7:=h2 g (by rw[<- e1];exact hg')
     by_cases e:g=w.heap.size/\v'.ownBlock=some w.heap.size
     . rw[if_pos e]
     . rw[if_neg e];exact h7
   . have:w.heap.size=g:=by rw[e1] at hg';injection hg'
     rw[if_pos ⟨this.symm,e1⟩]
  .
   have hbr:b≠r:=fun e=>by
    subst e
    rw[h.box.2] at h5
    cases h5
   rw[Below.heap_setCell _ _ _ _ hbr]
   refine hg.block b (h.lo b _ h5).2 (fun e=>?_)
   obtain⟨_,⟨es,clock,q1,_⟩,_⟩:=h4
   have:=h1.2
   rcases this with ⟨e2,_⟩ | ⟨g2,cap,cur,e2,_,q2,_⟩
   . rw[e2] at e
     simp[Value.ownBlock] at e
   . rw[e2] at e
     simp[Value.ownBlock] at e
     subst e
     rw[q1] at q2
     cases q2
  . have:=(h.lo b _ h5).2
    show (if b=w.heap.size/\v'.ownBlock=some w.heap.size then some Own.aux else O b)=some Own.aux
    rw[if_neg (by omega)]
    exact h5
theorem RMem.intoUp {w:World} {D r:Nat} {O:Nat->Option Own} {d:RD} {L:List (Int × Int)} {k b:Nat} (h:RMem w D r O (AuxT D d.vI d.vM d.M.ns L k) d) (hb:d.vM=.map (some b)) (hL:L.length<=1000) {p:Int × Int} (hp:WfP p) (hn:p∉L) {m:Int} (hm:m=(L.length:Int)) :
 ∃w',(Instr.mapUpdate 109 (.map (some b)) (portV p) (.int .i64 m)).run Tryz.prog w=.ok () w'/\Below D w w'/\(∀g,g<w.heap.size->g≠b->w'.heap[g]? = w.heap[g]?)/\RMem w' D r O (AuxT D d.vI d.vM d.M.ns (L++[p]) k) d:=by
 obtain⟨h1,h2,b',n,h3,h4,h6,h5⟩:=h.part .aux
 rw[hb] at h3
 injection h3 with h3
 injection h3 with h3
 subst h3
 have hle:=h.le
 obtain⟨Dm,hown,hat⟩:=h4
 obtain⟨w',hrun,hown',hg⟩:=hown.update (t:=109) (e:=3) portKeyed Tryz.underlying109 (by unfold maxLen;omega) (port_key w p hp) (plainElem_int Tryz.underlying3 (show (Lit.int .i64 m).wf=true by rw[hm];simp[Lit.wf,IntKind.min,IntKind.max,IntKind.signed,IntKind.bits];omega))
 have hkeep:∀g,g<w.heap.size->g≠b->w'.heap[g]? = w.heap[g]?:=fun g hgs ho=>hg.block g hgs (fun e=>ho (by injection e))
 have hbD:=(h.lo b _ h5).1
 have hrb:r≠b:=fun e=>by
  subst e
  rw[h.box.2] at h5
  cases h5
 have hput:IntoIs w' b (n+1) (intoL (L++[p])):=IntoIs.put (f:=intoL L) (g:=intoL (L++[p])) hown hat hp (by rw[intoL_new hn,<- hm];exact hown') (fun q hq=>intoL_old hq)
 refine⟨w',hrun,⟨hg.os,hg.tape,hg.output,hg.size,fun g hgD=>hkeep g (by omega) (by omega)⟩,hkeep,?_⟩
 have:=h.swap (A':=AuxT D d.vI d.vM d.M.ns (L++[p]) k) (w':=w') (O':=O) d.vI hg.os hg.tape hg.output hg.size (fun k' hk' n1 n2=>hkeep k' hk' (fun e=>n2 (by rw[e];exact h5))) (fun _ _=>rfl) (fun g o hg'=>by have:=h.lo g o hg';have:=hg.size;omega) ((hkeep r (h.lo r _ h.box.2).2 hrb).trans h.box.1) (auxT_ok _ _ _ _ _ _) ⟨ownsRow_keep h1 (fun g hg'=>by
  refine hg.block g (h1.lt g hg').2 (fun e=>?_)
  have e1:g=b:=by injection e
  subst e1
  obtain⟨es,clock,q1,_⟩:=hown
  rcases id h1.2 with ⟨e2,_⟩ | ⟨g2,cap,cur,e2,_,q2,_⟩
  . rw[e2] at hg'
    simp[Value.ownBlock] at hg'
  . rw[e2] at hg'
    simp[Value.ownBlock] at hg'
    subst hg'
    rw[q1] at q2
    cases q2),h2,b,n+1,hb,hput,by simp;omega,h5⟩
 exact this
end Go.Proofs.YtllgglolcgdehaaGreatDoor
