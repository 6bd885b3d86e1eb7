/- ExecLine's walk, and more. -/
import Derived.Test.YtllgglolcgdehaaGreatDoorJb03
namespace Go.Proofs.YtllgglolcgdehaaGreatDoor
open Go.RowKit Go.Gs Go.Maps
set_option linter.unusedVariables false
set_option maxRecDepth 100000 in
set_option maxHeartbeats 8000000 in
theorem execLine_is (an af ax ap aS:Option Addr) (cn cf cx cp cs:Nat) (M:SMach) (i:Int) (w:World) (h:RMach w an af ax ap aS cn cf cx cp cs M) (hfit:FitsM M) (hE:KnownE w) :
 Calls Tryz.prog 7 #[machV an af ax ap aS M cn cf cx cp cs,.int .i64 i] w fun e w'=>e=.returned (.bool true)/\Below w.heap.size w w':=by
 have HSP:Hid (∀ W,Below w.heap.size w W->Calls Tryz.prog 14 #[machV an af ax ap aS M cn cf cx cp cs,.int .i64 i] W fun e w'=>∃ v,e=.returned (.tuple #[v,.int .i64 (stepR M i).2])/\MachAns w' v (stepR M i).1/\Below W.heap.size W w'):=(show ∀ W,_ from fun W hW=>StepE_is an af ax ap aS cn cf cx cp cs M i W (h.below hW) hfit (fun V hV=>hE.below (hW.trans (hV.mono hW.size))))
 have HML:Hid (∀ W,Below w.heap.size w W->Calls Tryz.prog 17 #[] W fun e w'=>e=.returned (.bool true)/\Below W.heap.size W w'):=(show ∀ W,_ from fun W hW=>milled_true W (hE.below hW))
 have HNE:Hid ((stepR M i).2=0->mchk M=0 /\ ∃ (a:Nat) (n:SNode),i=(a:Int)/\M.ns[a]? = some n/\(stepR M i).1=(stepS M i).1/\Near M a n (stepS M i).1):=(show _->_ from line_near)
 have HM:Hid (RMach w an af ax ap aS cn cf cx cp cs M):=h
 obtain ⟨RE,hRE⟩:∃ z,z=(stepR M i).2:=⟨_,rfl⟩
 obtain ⟨RM,hRM⟩:∃ z,z=(stepR M i).1:=⟨_,rfl⟩
 rw [<- hRE,<- hRM] at HSP HNE
 unfold machV at HSP ⊢
 obtain ⟨NN,hNN⟩:∃ z,z=M.ns.length:=⟨_,rfl⟩
 obtain ⟨NF,hNF⟩:∃ z,z=M.fs.length:=⟨_,rfl⟩
 obtain ⟨NX,hNX⟩:∃ z,z=M.pipes.length:=⟨_,rfl⟩
 obtain ⟨NP,hNP⟩:∃ z,z=M.ps.length:=⟨_,rfl⟩
 obtain ⟨NS,hNS⟩:∃ z,z=M.sunk.length:=⟨_,rfl⟩
 rw [<- hNN,<- hNF,<- hNX,<- hNP,<- hNS] at HSP ⊢
 have HNN:Hid (NN=M.ns.length):=hNN
 have HNF:Hid (NF=M.fs.length):=hNF
 have HNX:Hid (NX=M.pipes.length):=hNX
 have HNP:Hid (NP=M.ps.length):=hNP
 have HNS:Hid (NS=M.sunk.length):=hNS
 clear h hfit hE hRE hRM hNN hNF hNX hNP hNS
 go_enter Tryz.func7,Tryz.ntmps7
 go_wp2_with fail
 refine Calls.mono (HSP.out _ boxE) ?_
 rintro e w1 ⟨v,rfl,hA1,hb1⟩
 obtain ⟨bn,bf,bx,bp,bS,dn,df,dx,dp,ds,rfl,hM1⟩:=hA1
 have hx1:=(hb1.block w.heap.size (by simp)).trans (heap_alloc_new w (.cells #[.slice an NN cn,.slice af NF cf,.slice ax NX cx,.slice ap NP cp,.slice aS NS cs] 30))
 have hb01:Below w.heap.size w w1:=Below.trans (boxE (w:=w)) (hb1.mono (by simp))
 have HB1:Hid (Below w.heap.size w w1):=hb01
 have HX1:Hid (w1.heap[w.heap.size]? = some (.cells #[.slice an NN cn,.slice af NF cf,.slice ax NX cx,.slice ap NP cp,.slice aS NS cs] 30 (0,0))):=hx1
 have HM1:Hid (RMach w1 bn bf bx bp bS dn df dx dp ds RM):=hM1
 unfold machV
 obtain ⟨QN,hQN⟩:∃ z,z=RM.ns.length:=⟨_,rfl⟩
 obtain ⟨QF,hQF⟩:∃ z,z=RM.fs.length:=⟨_,rfl⟩
 obtain ⟨QX,hQX⟩:∃ z,z=RM.pipes.length:=⟨_,rfl⟩
 obtain ⟨QP,hQP⟩:∃ z,z=RM.ps.length:=⟨_,rfl⟩
 obtain ⟨QS,hQS⟩:∃ z,z=RM.sunk.length:=⟨_,rfl⟩
 rw [<- hQN,<- hQF,<- hQX,<- hQP,<- hQS]
 have HQN:Hid (QN=RM.ns.length):=hQN
 have HQF:Hid (QF=RM.fs.length):=hQF
 have HQX:Hid (QX=RM.pipes.length):=hQX
 have HQP:Hid (QP=RM.ps.length):=hQP
 have HQS:Hid (QS=RM.sunk.length):=hQS
 clear hM1 hx1 hb01 hb1 HSP hQN hQF hQX hQP hQS
 go_wp2_with fail
 refine Calls.mono (HML.out _ (HB1.out.trans (boxE.mono HB1.out.size))) ?_
 rintro e w2 ⟨rfl,hb2⟩
 have HL2:Hid (LA w2 w.heap.size w1.heap.size (.slice an NN cn) (.slice af NF cf) (.slice ax NX cx) (.slice ap NP cp) (.slice aS NS cs) (.slice bn QN dn) (.slice bf QF df) (.slice bx QX dx) (.slice bp QP dp) (.slice bS QS ds)):=
  (show LA _ _ _ _ _ _ _ _ _ _ _ _ _ from ⟨((hb2.block _ (by have:=(Array.getElem?_eq_some_iff.1 HX1.out).1;simp;omega)).trans ((boxE (w:=w1)).block _ (Array.getElem?_eq_some_iff.1 HX1.out).1)).trans HX1.out,(hb2.block _ (by simp)).trans (heap_alloc_new _ _)⟩)
 have HB12:Hid (Below w1.heap.size w1 w2):=Below.trans (boxE (w:=w1)) (hb2.mono (by simp))
 have HB2:Hid (Below w.heap.size w w2):=HB1.out.trans (HB12.out.mono HB1.out.size)
 clear hb2
 by_cases he:RE=0
 . subst he
   obtain ⟨hm,a,n0,rfl,hn0,e1,hnear⟩:=HNE.out rfl
   obtain ⟨hS,_,_⟩:=mchk_zero hm
   have HSH:Hid (Shape M):=hS
   have HN0:Hid (M.ns[a]? = some n0):=hn0
   have HNR:Hid (Near M a n0 (stepS M (a:Int)).1):=hnear
   have q1:QN=NN:=by rw [HQN.out,e1,hnear.ns,HNN.out]
   have q2:QF=NF:=by rw [HQF.out,e1,hnear.fs,HNF.out]
   have q3:QX=NX:=by rw [HQX.out,e1,hnear.xl,HNX.out]
   have q4:QP=NP:=by rw [HQP.out,e1,near_ps hnear,HNP.out]
   subst q1 q2 q3 q4
   have HMa:Hid (∀ W,Below w2.heap.size w2 W->RMach W an af ax ap aS cn cf cx cp cs M):=(show ∀ W,_ from fun W hW=>HM.out.below (HB2.out.trans (hW.mono HB2.out.size)))
   have HMb:Hid (∀ W,Below w2.heap.size w2 W->RMach W bn bf bx bp bS dn df dx dp ds RM):=(show ∀ W,_ from fun W hW=>HM1.out.below (HB12.out.trans (hW.mono HB12.out.size)))
   have HRNS:Hid (RM.ns=M.ns):=e1 ▸ hnear.ns
   have HRFS:Hid (RM.fs=M.fs):=e1 ▸ hnear.fs
   rw [<- e1] at HNR
   have hsk:QS >= NS/\(n0.kind=5\/RM.sunk=M.sunk):=by
    rw [HQS.out,HNS.out,e1]
    exact ⟨hnear.sk.2,hnear.sk.1⟩
   have HSK:Hid (QS >= NS/\(n0.kind=5\/RM.sunk=M.sunk)):=hsk
   have HSG:Hid (∀ W,Below w2.heap.size w2 W->Calls Tryz.prog 33 #[.agg #[.slice bn QN dn],.agg #[.slice an QN cn]] W fun e w'=>e=.returned (.bool true)/\Below W.heap.size W w'):=(show ∀ W,_ from fun W hW=>by
    have h1:=(HMb.out W hW).nodes
    have h2:=(HMa.out W hW).nodes
    rw [HRNS.out] at h1
    have h3:=sameGraph_ref bn an dn cn M.ns M.ns W h1 h2
    rw [nodesEq_same,<- HNN.out] at h3
    exact h3)
   haveI:DecidableEq SFile:=fun a b=>Classical.propDecidable _
   have HSF:Hid (∀ W,Below w2.heap.size w2 W->Calls Tryz.prog 34 #[.slice bf QF df,.slice af QF cf] W fun e w'=>e=.returned (.bool true)/\Below W.heap.size W w'):=(show ∀ W,_ from fun W hW=>by
    have h1:=(HMb.out W hW).files
    have h2:=(HMa.out W hW).files
    rw [HRFS.out] at h1
    have h3:=sameFiles_ref bf af df cf M.fs M.fs W h1 h2
    rw [decide_eq_true rfl,<- HNF.out] at h3
    exact h3)
   have hLT:=HL2.out.lt
   have hlt1:=hLT.1
   have hlt2:=hLT.2
   obtain ⟨c0,c1,c2,c3,c4,_⟩:=cells5C HL2.out.m
   obtain ⟨d0,d1,d2,d3,d4,_⟩:=cells5C HL2.out.x
   clear hm hn0 e1 hnear hS hsk hLT HNE HML HM HM1 HX1 HB1 HB12
   go_wp2_with fail
   clear c0 c1 c2 c3 c4 d0 d1 d2 d3 d4
   refine Calls.mono (HSG.out _ (Below.refl _ _)) ?_
   rintro e w3 ⟨rfl,hb3⟩
   obtain ⟨c0,c1,c2,c3,c4,_⟩:=cells5C (HL2.out.below hb3).m
   obtain ⟨d0,d1,d2,d3,d4,_⟩:=cells5C (HL2.out.below hb3).x
   have HB23:Hid (Below w2.heap.size w2 w3):=hb3
   clear hb3 HSG
   go_wp2_with fail
   clear c0 c1 c2 c3 c4 d0 d1 d2 d3 d4
   refine Calls.mono (HSF.out _ HB23.out) ?_
   rintro e w4 ⟨rfl,hb4⟩
   have HB24:Hid (Below w2.heap.size w2 w4):=HB23.out.trans (hb4.mono HB23.out.size)
   obtain ⟨c0,c1,c2,c3,c4,_⟩:=cells5C (HL2.out.below HB24.out).m
   obtain ⟨d0,d1,d2,d3,d4,_⟩:=cells5C (HL2.out.below HB24.out).x
   have m1:=rnodes_le (HMa.out _ HB24.out).nodes
   clear hb4 HSF HB23
   go_wp2_with fail
   have HNle:Hid (QN<=9223372036854775807):=(show _<=_ by have:=HNN.out;omega)
   have hNle:=HNle.out
   have hXle:QX<=9223372036854775807:=by
    obtain ⟨_,c,e,h1,h2⟩:=(HMa.out _ HB24.out).pipes
    injection e with e1 e2 e3
    have:=HNX.out
    unfold maxLen at h2
    omega
   clear c0 c1 c2 c3 c4 d0 d1 d2 d3 d4 m1
   go_loopw [7,61] (fun k j wr=>∃ jn:Nat,jn<=QN/\j=.int .i64 jn/\k=.int .i64 ((firstIn M.ns jn:Nat):Int)/\Hid (Below w2.heap.size w2 wr)) (fun _ j _=>QN-(intOf j).toNat)
   case atStart=>exact ⟨0,Nat.zero_le _,rfl,by rw [firstIn_zero];rfl,HB24⟩
   case round=>
    obtain ⟨wo,rfl⟩:∃ z,z=wr:=⟨_,rfl⟩
    obtain ⟨jn,hjn,rfl,rfl,hbel⟩:=hrel
    obtain ⟨c0,c1,c2,c3,c4,cz⟩:=cells5C (HL2.out.below hbel.out).m
    obtain ⟨d0,d1,d2,d3,d4,dz⟩:=cells5C (HL2.out.below hbel.out).x
    obtain ⟨hm1,hm2⟩:=(HL2.out.below hbel.out).lt
    clear cz dz
    by_cases hlt:jn < QN
    . obtain ⟨n,hn⟩:∃ n,M.ns[jn]? = some n:=⟨_,List.getElem?_eq_getElem (by have:=HNN.out;omega)⟩
      have HN1:Hid (M.ns[jn]? = some n):=hn
      obtain ⟨b1,o1,ai,ci,rfl,hNA,hPR⟩:=(HMa.out _ hbel.out).nodes.at hn
      obtain ⟨v0,v1,v2,v3,v4,v5,v6,v7⟩:=hNA
      have hb1:=World.block_lt_of_cell? _ _ v0
      simp only at hb1
      have hb1':b1 ≠ wo.heap.size:=by omega
      obtain ⟨IL,hIL⟩:∃ z,z=n.ins.length:=⟨_,rfl⟩
      rw [<- hIL] at v7 hPR
      have HIL:Hid (IL=n.ins.length):=hIL
      have hIL5:IL<=5:=by have:=(right_ins (HSH.out.g.node n (List.mem_of_getElem? hn))).1;omega
      have HPR:Hid (RPorts wo (.slice ai IL ci) n.ins):=hPR
      obtain ⟨KK,hKK⟩:∃ z,z=firstIn M.ns jn:=⟨_,rfl⟩
      rw [<- hKK]
      have HKK:Hid (KK=firstIn M.ns jn):=hKK
      generalize n.kind=nk at *
      generalize (⟨n.file.toArray⟩:ByteArray)=fx at *
      generalize n.c.kind=ck at *
      generalize (⟨n.c.word.toArray⟩:ByteArray)=wx0 at *
      generalize n.c.n=cn' at *
      generalize n.how=hw at *
      generalize n.wide=wd at *
      clear hPR hIL hKK hn
      by_cases hja:jn=a
      . as_aux_lemma=>
         subst hja
         obtain ⟨W,hW⟩:∃ W,W=wo.alloc (.cells #[.int .i64 nk,.string fx,.int .i64 ck,.string wx0,.int .i64 cn',.int .i64 hw,.int .i64 wd,.slice ai IL ci] 73):=⟨_,rfl⟩
         have hBW:Below wo.heap.size wo W:=by rw [hW];exact boxE
         have HBW:Hid (Below wo.heap.size wo W):=hBW
         have HXN:Hid (W.heap[wo.heap.size]? = some (.cells #[.int .i64 nk,.string fx,.int .i64 ck,.string wx0,.int .i64 cn',.int .i64 hw,.int .i64 wd,.slice ai IL ci] 73 (0,0))):=(show _=_ by rw [hW];exact heap_alloc_new _ _)
         clear hBW c1 c2 c3 c4 d0 d1 d2 d3 d4
         go_upto_region 10 with fail
         rw [<- hW]
         clear hW
         dsimp only [List.append]
         refine wp_region_quiet_below (by as_aux_lemma=>kernel_rfl) (by as_aux_lemma=>kernel_rfl) ?_
         repeat (go_big_quiet_step (fail))
         refine wpQuiet_nil ?_
         intro _ hw'
         obtain ⟨⟨dq,osq⟩,hw''⟩:=hw'
         subst hw''
         have HBI:Hid (Below wo.heap.size wo (Go.Sort.grow (redrawn W dq) osq)):=HBW.out.trans ((below_regrown W dq osq).mono HBW.out.size)
         have j7:(Go.Sort.grow (redrawn W dq) osq).cell? ⟨wo.heap.size,7,none⟩=some (.slice ai IL ci):=cellsAt (((below_regrown W dq osq).block _ (Array.getElem?_eq_some_iff.1 HXN.out).1).trans HXN.out) 7
         clear c0 v0 v1 v2 v3 v4 v5 v6 v7 HBW HXN
         generalize (Go.Sort.grow (redrawn W dq) osq)=w6 at *
         go_wp2_with fail
         clear j7
         go_loopw [7,149] (fun k j wr=>∃ q:Nat,q<=IL/\j=.int .i64 q/\k=.int .i64 ((KK+q:Nat):Int)/\Hid (Below wo.heap.size wo wr)) (fun _ j _=>IL-(intOf j).toNat)
         case atStart=>exact ⟨0,Nat.zero_le _,rfl,rfl,HBI⟩
         case round=>
          obtain ⟨q,hq,rfl,rfl,hbe2⟩:=hrel
          by_cases hqlt:q < IL
          . obtain ⟨pt,hpt⟩:∃ pt,n.ins[q]? = some pt:=⟨_,List.getElem?_eq_getElem (by have:=HIL.out;omega)⟩
            have hxq:KK+q < QX:=by have:=hn_pipes HSH.out HN1.out (q:=q) (by have:=HIL.out;omega);have h2:=HKK.out;have h3:=HNX.out;omega
            obtain ⟨KQ,hKQ⟩:∃ z,z=KK+q:=⟨_,rfl⟩
            rw [<- hKQ] at hxq ⊢
            have HKQ:Hid (KQ=KK+q):=hKQ
            clear hKQ
            obtain ⟨x,hx⟩:∃ x,M.pipes[KQ]? = some x:=⟨_,List.getElem?_eq_getElem (by have:=HNX.out;omega)⟩
            obtain ⟨y,hy⟩:∃ y,RM.pipes[KQ]? = some y:=⟨_,List.getElem?_eq_getElem (by have:=HQX.out;omega)⟩
            have hxy:=HNR.out.xs _ _ _ hx hy
            have hB2:=hbel.out.trans (hbe2.out.mono hbel.out.size)
            obtain ⟨b4,o4,rfl,hp1,hp2⟩:=(HPR.out.below hbe2.out).at hpt
            obtain ⟨b5,o5,ab,cb,rfl,x0,x1,x2,x3,hxr⟩:=(HMa.out _ hB2).pipes.at hx
            obtain ⟨b6,o6,bb,eb,rfl,y0,y1,y2,y3,hyr⟩:=(HMb.out _ hB2).pipes.at hy
            have hl4:=World.block_lt_of_cell? _ _ hp1
            simp only at hl4
            have hrm:y.room=x.room:=hxy.2.1
            have hcl:x.closed=false\/(x.closed=true/\y.closed=true):=by
             cases h:x.closed
             . exact .inl rfl
             . exact .inr ⟨rfl,hxy.2.2.1 h⟩
            have hsh:x.shut=false\/(x.shut=true/\y.shut=true):=by
             cases h:x.shut
             . exact .inl rfl
             . exact .inr ⟨rfl,hxy.2.2.2 h⟩
            rw [hrm] at y1
            obtain ⟨W,hW⟩:∃ W,W=wr.alloc (.cells #[.int .i64 pt.1,.int .i64 pt.2] 79):=⟨_,rfl⟩
            have hBW:Below wr.heap.size wr W:=by rw [hW];exact boxE
            have HBW:Hid (Below wr.heap.size wr W):=hBW
            have xP:W.heap[wr.heap.size]? = some (.cells #[.int .i64 pt.1,.int .i64 pt.2] 79 (0,0)):=by rw [hW];exact heap_alloc_new _ _
            have a0:=cellsAt xP 0
            simp at a0
            have k0:=fun d os=>cell_regrown a0 d os
            have k1:=fun d os=>cell_regrown (cells5C (HL2.out.below (hB2.trans (hBW.mono hB2.size))).m).2.2.1 d os
            have k2:=fun d os=>cell_regrown (cells5C (HL2.out.below (hB2.trans (hBW.mono hB2.size))).x).2.2.1 d os
            have s0:=fun d os=>cell_regrown ((hBW.cell (World.block_lt_of_cell? wr _ x0)).trans x0) d os
            have s1:=fun d os=>cell_regrown ((hBW.cell (World.block_lt_of_cell? wr _ x1)).trans x1) d os
            have s2:=fun d os=>cell_regrown ((hBW.cell (World.block_lt_of_cell? wr _ x2)).trans x2) d os
            have s3:=fun d os=>cell_regrown ((hBW.cell (World.block_lt_of_cell? wr _ x3)).trans x3) d os
            have t0:=fun d os=>cell_regrown ((hBW.cell (World.block_lt_of_cell? wr _ y0)).trans y0) d os
            have t1:=fun d os=>cell_regrown ((hBW.cell (World.block_lt_of_cell? wr _ y1)).trans y1) d os
            have t2:=fun d os=>cell_regrown ((hBW.cell (World.block_lt_of_cell? wr _ y2)).trans y2) d os
            have t3:=fun d os=>cell_regrown ((hBW.cell (World.block_lt_of_cell? wr _ y3)).trans y3) d os
            generalize x.b.length=XL at *
            generalize x.room=rm at *
            generalize x.closed=xc at *
            generalize x.shut=xs at *
            generalize y.b.length=YL at *
            generalize y.closed=yc at *
            generalize y.shut=ys at *
            clear hx hxr hyr xP a0 hBW hB2 hy hxy hpt hrm
            obtain ⟨pa,pb⟩:=pt
            simp only at *
            go_upto_region 15 with fail
            rw [<- hW]
            clear hW
            refine wp_region_quiet_below (by as_aux_lemma=>kernel_rfl) (by as_aux_lemma=>kernel_rfl) ?_
            repeat (first | go_big_quiet_step (fail) | quiet_step (fail))
            refine wpQuiet_nil ?_
            intro _ hw'
            obtain ⟨⟨dq,osq⟩,hw''⟩:=hw'
            subst hw''
            have HB6:Hid (Below wo.heap.size wo (Go.Sort.grow (redrawn W dq) osq)):=hbe2.out.trans ((HBW.out.trans ((below_regrown W dq osq).mono HBW.out.size)).mono hbe2.out.size)
            have HB7:Hid (Below wr.heap.size wr (Go.Sort.grow (redrawn W dq) osq)):=HBW.out.trans ((below_regrown W dq osq).mono HBW.out.size)
            have e0:=(cells5C (HL2.out.below (hbel.out.trans (HB6.out.mono hbel.out.size))).m).2.2.1
            have e1:=(cells5C (HL2.out.below (hbel.out.trans (HB6.out.mono hbel.out.size))).x).2.2.1
            have f1:=(HB7.out.cell (World.block_lt_of_cell? wr _ x1)).trans x1
            have f2:=(HB7.out.cell (World.block_lt_of_cell? wr _ x2)).trans x2
            have f3:=(HB7.out.cell (World.block_lt_of_cell? wr _ x3)).trans x3
            have g1:=(HB7.out.cell (World.block_lt_of_cell? wr _ y1)).trans y1
            have g2:=(HB7.out.cell (World.block_lt_of_cell? wr _ y2)).trans y2
            have g3:=(HB7.out.cell (World.block_lt_of_cell? wr _ y3)).trans y3
            clear k0 k1 k2 s0 s1 s2 s3 t0 t1 t2 t3 HBW HB7 x0 x1 x2 x3 y0 y1 y2 y3
            generalize (Go.Sort.grow (redrawn W dq) osq)=w6 at *
            rcases hcl with rfl | ⟨rfl,rfl⟩
            . rcases hsh with rfl | ⟨rfl,rfl⟩
              . go_upto_region 17 with fail
                refine wp_region_quiet_lit (by as_aux_lemma=>kernel_rfl) (by as_aux_lemma=>kernel_rfl) ?_
                repeat (go_big_quiet_step (fail))
                refine wpQuiet_nil ?_
                intro _ hw'
                obtain ⟨nq,hw''⟩:=hw'
                subst hw''
                go_wp2_with fail
                go_roundw
                case rel=>exact ⟨q+1,by omega,by go_num,by rw [show KK+(q+1)=KQ+1 from by have:=HKQ.out;omega];go_num,HB6.out.trans ((below_drewG _ _ _).mono HB6.out.size)⟩
                case measure=>simp [intOf];omega
              . go_upto_region 17 with fail
                refine wp_region_quiet_lit (by as_aux_lemma=>kernel_rfl) (by as_aux_lemma=>kernel_rfl) ?_
                repeat (go_big_quiet_step (fail))
                refine wpQuiet_nil ?_
                intro _ hw'
                obtain ⟨nq,hw''⟩:=hw'
                subst hw''
                go_wp2_with fail
                go_roundw
                case rel=>exact ⟨q+1,by omega,by go_num,by rw [show KK+(q+1)=KQ+1 from by have:=HKQ.out;omega];go_num,HB6.out.trans ((below_drewG _ _ _).mono HB6.out.size)⟩
                case measure=>simp [intOf];omega
            . rcases hsh with rfl | ⟨rfl,rfl⟩
              . go_upto_region 17 with fail
                refine wp_region_quiet_lit (by as_aux_lemma=>kernel_rfl) (by as_aux_lemma=>kernel_rfl) ?_
                repeat (go_big_quiet_step (fail))
                refine wpQuiet_nil ?_
                intro _ hw'
                obtain ⟨nq,hw''⟩:=hw'
                subst hw''
                go_wp2_with fail
                go_roundw
                case rel=>exact ⟨q+1,by omega,by go_num,by rw [show KK+(q+1)=KQ+1 from by have:=HKQ.out;omega];go_num,HB6.out.trans ((below_drewG _ _ _).mono HB6.out.size)⟩
                case measure=>simp [intOf];omega
              . go_upto_region 17 with fail
                refine wp_region_quiet_lit (by as_aux_lemma=>kernel_rfl) (by as_aux_lemma=>kernel_rfl) ?_
                repeat (go_big_quiet_step (fail))
                refine wpQuiet_nil ?_
                intro _ hw'
                obtain ⟨nq,hw''⟩:=hw'
                subst hw''
                go_wp2_with fail
                go_roundw
                case rel=>exact ⟨q+1,by omega,by go_num,by rw [show KK+(q+1)=KQ+1 from by have:=HKQ.out;omega];go_num,HB6.out.trans ((below_drewG _ _ _).mono HB6.out.size)⟩
                case measure=>simp [intOf];omega
          . have hqe:q=IL:=by omega
            subst hqe
            go_wp2_with fail
            go_roundw
            case rel=>exact ⟨jn+1,by omega,by go_num,by rw [firstIn_succ HN1.out,<- HIL.out,<- HKK.out],hbel.out.trans (hbe2.out.mono hbel.out.size)⟩
            case measure=>simp [intOf];omega
      . as_aux_lemma=>
         have hja':¬ (jn:Int)=(a:Int):=by omega
         have hjb:decide ((jn:Int)=(a:Int))=false:=decide_eq_false hja'
         have hjc:decide (jn=a)=false:=decide_eq_false hja
         have hjd:((jn:Int) != (a:Int))=true:=bne_iff_ne.2 hja'
         have hje:((jn:Int) == (a:Int))=false:=beq_eq_false_iff_ne.2 hja'
         obtain ⟨p,hp⟩:∃ p,M.ps[jn]? = some p:=⟨_,List.getElem?_eq_getElem (by have:=HSH.out.plen;have:=HNN.out;omega)⟩
         have hp':RM.ps[jn]? = some p:=(near_p HNR.out hja).trans hp
         have hjp:jn < QP:=by have:=HSH.out.plen;have:=HNN.out;have:=HNP.out;omega
         have hPle:QP<=9223372036854775807:=by have:=HSH.out.plen;have:=HNN.out;have:=HNP.out;omega
         obtain ⟨b2,o2,ag,cg,ao,co,rfl,p0,p1,p2,p3,p4,hrg,hro⟩:=(HMa.out _ hbel.out).procs.at hp
         obtain ⟨b3,o3,bg,eg,bo,eo,rfl,r0,r1,r2,r3,r4,hrg',hro'⟩:=(HMb.out _ hbel.out).procs.at hp'
         have HLG:Hid (∀ W,Below wo.heap.size wo W->Calls Tryz.prog 35 #[.slice bg p.got.length eg,.slice ag p.got.length cg] W fun e w'=>e=.returned (.bool true)/\Below W.heap.size W w'):=(show ∀ W,_ from fun W hW=>lists_same bg ag eg cg p.got W (hrg'.below hW) (hrg.below hW))
         have HLO:Hid (∀ W,Below wo.heap.size wo W->Calls Tryz.prog 35 #[.slice bo p.out.length eo,.slice ao p.out.length co] W fun e w'=>e=.returned (.bool true)/\Below W.heap.size W w'):=(show ∀ W,_ from fun W hW=>lists_same bo ao eo co p.out W (hro'.below hW) (hro.below hW))
         have hb2:=World.block_lt_of_cell? _ _ p0
         have hb3:=World.block_lt_of_cell? _ _ r0
         simp only at hb2 hb3
         have hb2':b2 ≠ wo.heap.size:=by omega
         have hb3':b3 ≠ wo.heap.size:=by omega
         generalize p.got.length=GL at *
         generalize p.out.length=OL at *
         generalize p.pos=pp at *
         generalize p.rd=rd at *
         generalize p.ov=ov at *
         clear hp hp' hrg hro hrg' hro' c1 c2 c4 d0 d1 d2 d4
         obtain ⟨W,hW⟩:∃ W,W=wo.alloc (.cells #[.int .i64 nk,.string fx,.int .i64 ck,.string wx0,.int .i64 cn',.int .i64 hw,.int .i64 wd,.slice ai IL ci] 73):=⟨_,rfl⟩
         have hBW:Below wo.heap.size wo W:=by rw [hW];exact boxE
         have HBW:Hid (Below wo.heap.size wo W):=hBW
         have HXN:Hid (W.heap[wo.heap.size]? = some (.cells #[.int .i64 nk,.string fx,.int .i64 ck,.string wx0,.int .i64 cn',.int .i64 hw,.int .i64 wd,.slice ai IL ci] 73 (0,0))):=(show _=_ by rw [hW];exact heap_alloc_new _ _)
         have k3:=fun d os=>cell_regrown ((hBW.cell (World.block_lt_of_cell? wo _ c3)).trans c3) d os
         have k4:=fun d os=>cell_regrown ((hBW.cell (World.block_lt_of_cell? wo _ d3)).trans d3) d os
         have s0:=fun d os=>cell_regrown ((hBW.cell (World.block_lt_of_cell? wo _ p0)).trans p0) d os
         have t0:=fun d os=>cell_regrown ((hBW.cell (World.block_lt_of_cell? wo _ r0)).trans r0) d os
         have s1:=fun d os=>cell_regrown ((hBW.cell (World.block_lt_of_cell? wo _ p1)).trans p1) d os
         have t1:=fun d os=>cell_regrown ((hBW.cell (World.block_lt_of_cell? wo _ r1)).trans r1) d os
         have s2:=fun d os=>cell_regrown ((hBW.cell (World.block_lt_of_cell? wo _ p2)).trans p2) d os
         have t2:=fun d os=>cell_regrown ((hBW.cell (World.block_lt_of_cell? wo _ r2)).trans r2) d os
         have s3:=fun d os=>cell_regrown ((hBW.cell (World.block_lt_of_cell? wo _ p3)).trans p3) d os
         have t3:=fun d os=>cell_regrown ((hBW.cell (World.block_lt_of_cell? wo _ r3)).trans r3) d os
         have s4:=fun d os=>cell_regrown ((hBW.cell (World.block_lt_of_cell? wo _ p4)).trans p4) d os
         have t4:=fun d os=>cell_regrown ((hBW.cell (World.block_lt_of_cell? wo _ r4)).trans r4) d os
         have cG:∀ d os,Calls Tryz.prog 35 #[.slice bg GL eg,.slice ag GL cg] (Go.Sort.grow (redrawn W d) os) fun e w''=>e=.returned (.bool true) /\ ∃ p:Regrown,w''=Go.Sort.grow (redrawn W p.d) p.os:=fun d os=>Calls.regrown_of (HLG.out _ (hBW.trans ((below_regrown W d os).mono hBW.size)))
         have cO:∀ d os,Calls Tryz.prog 35 #[.slice bo OL eo,.slice ao OL co] (Go.Sort.grow (redrawn W d) os) fun e w''=>e=.returned (.bool true) /\ ∃ p:Regrown,w''=Go.Sort.grow (redrawn W p.d) p.os:=fun d os=>Calls.regrown_of (HLO.out _ (hBW.trans ((below_regrown W d os).mono hBW.size)))
         clear hBW HLG HLO
         go_upto_region 10 with fail
         rw [<- hW]
         clear hW
         dsimp only [List.append]
         refine wp_region_quiet_below (by as_aux_lemma=>kernel_rfl) (by as_aux_lemma=>kernel_rfl) ?_
         repeat (go_big_quiet_step (first | exact cG _ _ | exact cO _ _))
         refine wpQuiet_nil ?_
         intro _ hw'
         obtain ⟨⟨dq,osq⟩,hw''⟩:=hw'
         subst hw''
         have HBI:Hid (Below wo.heap.size wo (Go.Sort.grow (redrawn W dq) osq)):=HBW.out.trans ((below_regrown W dq osq).mono HBW.out.size)
         have j7:(Go.Sort.grow (redrawn W dq) osq).cell? ⟨wo.heap.size,7,none⟩=some (.slice ai IL ci):=cellsAt (((below_regrown W dq osq).block _ (Array.getElem?_eq_some_iff.1 HXN.out).1).trans HXN.out) 7
         clear c0 v0 v1 v2 v3 v4 v5 v6 v7 HBW HXN
         clear k3 k4 s0 s1 s2 s3 s4 t0 t1 t2 t3 t4 cG cO p0 p1 p2 p3 p4 r0 r1 r2 r3 r4 c3 d3
         generalize (Go.Sort.grow (redrawn W dq) osq)=w6 at *
         go_wp2_with fail
         clear j7
         go_loopw [7,149] (fun k j wr=>∃ q:Nat,q<=IL/\j=.int .i64 q/\k=.int .i64 ((KK+q:Nat):Int)/\Hid (Below wo.heap.size wo wr)) (fun _ j _=>IL-(intOf j).toNat)
         case atStart=>exact ⟨0,Nat.zero_le _,rfl,rfl,HBI⟩
         case round=>
          obtain ⟨q,hq,rfl,rfl,hbe2⟩:=hrel
          by_cases hqlt:q < IL
          . obtain ⟨pt,hpt⟩:∃ pt,n.ins[q]? = some pt:=⟨_,List.getElem?_eq_getElem (by have:=HIL.out;omega)⟩
            have hxq:KK+q < QX:=by have:=hn_pipes HSH.out HN1.out (q:=q) (by have:=HIL.out;omega);have h2:=HKK.out;have h3:=HNX.out;omega
            obtain ⟨KQ,hKQ⟩:∃ z,z=KK+q:=⟨_,rfl⟩
            rw [<- hKQ] at hxq ⊢
            have HKQ:Hid (KQ=KK+q):=hKQ
            clear hKQ
            obtain ⟨x,hx⟩:∃ x,M.pipes[KQ]? = some x:=⟨_,List.getElem?_eq_getElem (by have:=HNX.out;omega)⟩
            obtain ⟨y,hy⟩:∃ y,RM.pipes[KQ]? = some y:=⟨_,List.getElem?_eq_getElem (by have:=HQX.out;omega)⟩
            have hxy:=HNR.out.xs _ _ _ hx hy
            have hB2:=hbel.out.trans (hbe2.out.mono hbel.out.size)
            obtain ⟨b4,o4,rfl,hp1,hp2⟩:=(HPR.out.below hbe2.out).at hpt
            obtain ⟨b5,o5,ab,cb,rfl,x0,x1,x2,x3,hxr⟩:=(HMa.out _ hB2).pipes.at hx
            obtain ⟨b6,o6,bb,eb,rfl,y0,y1,y2,y3,hyr⟩:=(HMb.out _ hB2).pipes.at hy
            have hl4:=World.block_lt_of_cell? _ _ hp1
            simp only at hl4
            have hrm:y.room=x.room:=hxy.2.1
            have hcl:x.closed=false\/(x.closed=true/\y.closed=true):=by
             cases h:x.closed
             . exact .inl rfl
             . exact .inr ⟨rfl,hxy.2.2.1 h⟩
            have hsh:x.shut=false\/(x.shut=true/\y.shut=true):=by
             cases h:x.shut
             . exact .inl rfl
             . exact .inr ⟨rfl,hxy.2.2.2 h⟩
            rw [hrm] at y1
            obtain ⟨W,hW⟩:∃ W,W=wr.alloc (.cells #[.int .i64 pt.1,.int .i64 pt.2] 79):=⟨_,rfl⟩
            have hBW:Below wr.heap.size wr W:=by rw [hW];exact boxE
            have HBW:Hid (Below wr.heap.size wr W):=hBW
            have xP:W.heap[wr.heap.size]? = some (.cells #[.int .i64 pt.1,.int .i64 pt.2] 79 (0,0)):=by rw [hW];exact heap_alloc_new _ _
            have a0:=cellsAt xP 0
            simp at a0
            have k0:=fun d os=>cell_regrown a0 d os
            have k1:=fun d os=>cell_regrown (cells5C (HL2.out.below (hB2.trans (hBW.mono hB2.size))).m).2.2.1 d os
            have k2:=fun d os=>cell_regrown (cells5C (HL2.out.below (hB2.trans (hBW.mono hB2.size))).x).2.2.1 d os
            have s0:=fun d os=>cell_regrown ((hBW.cell (World.block_lt_of_cell? wr _ x0)).trans x0) d os
            have s1:=fun d os=>cell_regrown ((hBW.cell (World.block_lt_of_cell? wr _ x1)).trans x1) d os
            have s2:=fun d os=>cell_regrown ((hBW.cell (World.block_lt_of_cell? wr _ x2)).trans x2) d os
            have s3:=fun d os=>cell_regrown ((hBW.cell (World.block_lt_of_cell? wr _ x3)).trans x3) d os
            by_cases hpa:pt.1=(a:Int)
            . have t0:=fun d os=>cell_regrown ((hBW.cell (World.block_lt_of_cell? wr _ y0)).trans y0) d os
              have t1:=fun d os=>cell_regrown ((hBW.cell (World.block_lt_of_cell? wr _ y1)).trans y1) d os
              have t2:=fun d os=>cell_regrown ((hBW.cell (World.block_lt_of_cell? wr _ y2)).trans y2) d os
              have t3:=fun d os=>cell_regrown ((hBW.cell (World.block_lt_of_cell? wr _ y3)).trans y3) d os
              generalize x.b.length=XL at *
              generalize x.room=rm at *
              generalize x.closed=xc at *
              generalize x.shut=xs at *
              generalize y.b.length=YL at *
              generalize y.closed=yc at *
              generalize y.shut=ys at *
              clear hx hxr hyr xP a0 hBW hB2 hy hxy hpt hrm
              obtain ⟨pa,pb⟩:=pt
              simp only at *
              subst hpa
              go_upto_region 15 with fail
              rw [<- hW]
              clear hW
              refine wp_region_quiet_below (by as_aux_lemma=>kernel_rfl) (by as_aux_lemma=>kernel_rfl) ?_
              repeat (first | go_big_quiet_step (fail) | quiet_step (fail))
              refine wpQuiet_nil ?_
              intro _ hw'
              obtain ⟨⟨dq,osq⟩,hw''⟩:=hw'
              subst hw''
              have HB6:Hid (Below wo.heap.size wo (Go.Sort.grow (redrawn W dq) osq)):=hbe2.out.trans ((HBW.out.trans ((below_regrown W dq osq).mono HBW.out.size)).mono hbe2.out.size)
              have HB7:Hid (Below wr.heap.size wr (Go.Sort.grow (redrawn W dq) osq)):=HBW.out.trans ((below_regrown W dq osq).mono HBW.out.size)
              have e0:=(cells5C (HL2.out.below (hbel.out.trans (HB6.out.mono hbel.out.size))).m).2.2.1
              have e1:=(cells5C (HL2.out.below (hbel.out.trans (HB6.out.mono hbel.out.size))).x).2.2.1
              have f1:=(HB7.out.cell (World.block_lt_of_cell? wr _ x1)).trans x1
              have f2:=(HB7.out.cell (World.block_lt_of_cell? wr _ x2)).trans x2
              have f3:=(HB7.out.cell (World.block_lt_of_cell? wr _ x3)).trans x3
              have g1:=(HB7.out.cell (World.block_lt_of_cell? wr _ y1)).trans y1
              have g2:=(HB7.out.cell (World.block_lt_of_cell? wr _ y2)).trans y2
              have g3:=(HB7.out.cell (World.block_lt_of_cell? wr _ y3)).trans y3
              clear k0 k1 k2 s0 s1 s2 s3 t0 t1 t2 t3 HBW HB7 x0 x1 x2 x3 y0 y1 y2 y3
              generalize (Go.Sort.grow (redrawn W dq) osq)=w6 at *
              rcases hcl with rfl | ⟨rfl,rfl⟩
              . rcases hsh with rfl | ⟨rfl,rfl⟩
                . go_upto_region 17 with fail
                  refine wp_region_quiet_lit (by as_aux_lemma=>kernel_rfl) (by as_aux_lemma=>kernel_rfl) ?_
                  repeat (go_big_quiet_step (fail))
                  refine wpQuiet_nil ?_
                  intro _ hw'
                  obtain ⟨nq,hw''⟩:=hw'
                  subst hw''
                  go_wp2_with fail
                  go_roundw
                  case rel=>exact ⟨q+1,by omega,by go_num,by rw [show KK+(q+1)=KQ+1 from by have:=HKQ.out;omega];go_num,HB6.out.trans ((below_drewG _ _ _).mono HB6.out.size)⟩
                  case measure=>simp [intOf];omega
                . go_upto_region 17 with fail
                  refine wp_region_quiet_lit (by as_aux_lemma=>kernel_rfl) (by as_aux_lemma=>kernel_rfl) ?_
                  repeat (go_big_quiet_step (fail))
                  refine wpQuiet_nil ?_
                  intro _ hw'
                  obtain ⟨nq,hw''⟩:=hw'
                  subst hw''
                  go_wp2_with fail
                  go_roundw
                  case rel=>exact ⟨q+1,by omega,by go_num,by rw [show KK+(q+1)=KQ+1 from by have:=HKQ.out;omega];go_num,HB6.out.trans ((below_drewG _ _ _).mono HB6.out.size)⟩
                  case measure=>simp [intOf];omega
              . rcases hsh with rfl | ⟨rfl,rfl⟩
                . go_upto_region 17 with fail
                  refine wp_region_quiet_lit (by as_aux_lemma=>kernel_rfl) (by as_aux_lemma=>kernel_rfl) ?_
                  repeat (go_big_quiet_step (fail))
                  refine wpQuiet_nil ?_
                  intro _ hw'
                  obtain ⟨nq,hw''⟩:=hw'
                  subst hw''
                  go_wp2_with fail
                  go_roundw
                  case rel=>exact ⟨q+1,by omega,by go_num,by rw [show KK+(q+1)=KQ+1 from by have:=HKQ.out;omega];go_num,HB6.out.trans ((below_drewG _ _ _).mono HB6.out.size)⟩
                  case measure=>simp [intOf];omega
                . go_upto_region 17 with fail
                  refine wp_region_quiet_lit (by as_aux_lemma=>kernel_rfl) (by as_aux_lemma=>kernel_rfl) ?_
                  repeat (go_big_quiet_step (fail))
                  refine wpQuiet_nil ?_
                  intro _ hw'
                  obtain ⟨nq,hw''⟩:=hw'
                  subst hw''
                  go_wp2_with fail
                  go_roundw
                  case rel=>exact ⟨q+1,by omega,by go_num,by rw [show KK+(q+1)=KQ+1 from by have:=HKQ.out;omega];go_num,HB6.out.trans ((below_drewG _ _ _).mono HB6.out.size)⟩
                  case measure=>simp [intOf];omega
            . have hyx:y=x:=by
               rcases hxy.1 with e | e
               . exact e
               . exact absurd (show Mine M a n0 (firstIn M.ns jn+q) from by rw [<- HKK.out,<- HKQ.out];exact e) (mine_not HSH.out.g HN0.out HN1.out hpt hja hpa)
              subst hyx
              have t0:=fun d os=>cell_regrown ((hBW.cell (World.block_lt_of_cell? wr _ y0)).trans y0) d os
              have t1:=fun d os=>cell_regrown ((hBW.cell (World.block_lt_of_cell? wr _ y1)).trans y1) d os
              have t2:=fun d os=>cell_regrown ((hBW.cell (World.block_lt_of_cell? wr _ y2)).trans y2) d os
              have t3:=fun d os=>cell_regrown ((hBW.cell (World.block_lt_of_cell? wr _ y3)).trans y3) d os
              have cS:∀ d os,Calls Tryz.prog 36 #[.agg #[.slice bb y.b.length eb,.int .i64 y.room,.bool y.closed,.bool y.shut],.agg #[.slice ab y.b.length cb,.int .i64 y.room,.bool y.closed,.bool y.shut]] (Go.Sort.grow (redrawn W d) os) fun e w''=>e=.returned (.bool true) /\ ∃ p:Regrown,w''=Go.Sort.grow (redrawn W p.d) p.os:=fun d os=>Calls.regrown_of (samePipe_ref bb ab eb cb y.b y.room y.closed y.shut _ (hyr.below (hBW.trans ((below_regrown W d os).mono hBW.size))) (hxr.below (hBW.trans ((below_regrown W d os).mono hBW.size))))
              generalize y.b.length=XL at *
              generalize y.room=rm at *
              generalize y.closed=xc at *
              generalize y.shut=xs at *
              clear hx hxr hyr xP a0 hBW hB2 hy hxy hpt hrm hcl hsh
              obtain ⟨pa,pb⟩:=pt
              simp only at *
              have hpb:decide (pa=(a:Int))=false:=decide_eq_false hpa
              have hpc:(pa != (a:Int))=true:=bne_iff_ne.2 hpa
              have hpd:(pa == (a:Int))=false:=beq_eq_false_iff_ne.2 hpa
              go_upto_region 15 with fail
              rw [<- hW]
              clear hW
              refine wp_region_quiet_below (by as_aux_lemma=>kernel_rfl) (by as_aux_lemma=>kernel_rfl) ?_
              repeat (first | go_big_quiet_step (exact cS _ _) | quiet_step (exact cS _ _))
              refine wpQuiet_nil ?_
              intro _ hw'
              obtain ⟨⟨dq,osq⟩,hw''⟩:=hw'
              subst hw''
              clear cS
              have HB6:Hid (Below wo.heap.size wo (Go.Sort.grow (redrawn W dq) osq)):=hbe2.out.trans ((HBW.out.trans ((below_regrown W dq osq).mono HBW.out.size)).mono hbe2.out.size)
              have HB7:Hid (Below wr.heap.size wr (Go.Sort.grow (redrawn W dq) osq)):=HBW.out.trans ((below_regrown W dq osq).mono HBW.out.size)
              have e0:=(cells5C (HL2.out.below (hbel.out.trans (HB6.out.mono hbel.out.size))).m).2.2.1
              have e1:=(cells5C (HL2.out.below (hbel.out.trans (HB6.out.mono hbel.out.size))).x).2.2.1
              have f1:=(HB7.out.cell (World.block_lt_of_cell? wr _ x1)).trans x1
              have f2:=(HB7.out.cell (World.block_lt_of_cell? wr _ x2)).trans x2
              have f3:=(HB7.out.cell (World.block_lt_of_cell? wr _ x3)).trans x3
              have g1:=(HB7.out.cell (World.block_lt_of_cell? wr _ y1)).trans y1
              have g2:=(HB7.out.cell (World.block_lt_of_cell? wr _ y2)).trans y2
              have g3:=(HB7.out.cell (World.block_lt_of_cell? wr _ y3)).trans y3
              clear k0 k1 k2 s0 s1 s2 s3 t0 t1 t2 t3 HBW HB7 x0 x1 x2 x3 y0 y1 y2 y3
              generalize (Go.Sort.grow (redrawn W dq) osq)=w6 at *
              cases xc
              . cases xs
                . go_upto_region 17 with fail
                  refine wp_region_quiet_lit (by as_aux_lemma=>kernel_rfl) (by as_aux_lemma=>kernel_rfl) ?_
                  repeat (go_big_quiet_step (fail))
                  refine wpQuiet_nil ?_
                  intro _ hw'
                  obtain ⟨nq,hw''⟩:=hw'
                  subst hw''
                  go_wp2_with fail
                  go_roundw
                  case rel=>exact ⟨q+1,by omega,by go_num,by rw [show KK+(q+1)=KQ+1 from by have:=HKQ.out;omega];go_num,HB6.out.trans ((below_drewG _ _ _).mono HB6.out.size)⟩
                  case measure=>simp [intOf];omega
                . go_upto_region 17 with fail
                  refine wp_region_quiet_lit (by as_aux_lemma=>kernel_rfl) (by as_aux_lemma=>kernel_rfl) ?_
                  repeat (go_big_quiet_step (fail))
                  refine wpQuiet_nil ?_
                  intro _ hw'
                  obtain ⟨nq,hw''⟩:=hw'
                  subst hw''
                  go_wp2_with fail
                  go_roundw
                  case rel=>exact ⟨q+1,by omega,by go_num,by rw [show KK+(q+1)=KQ+1 from by have:=HKQ.out;omega];go_num,HB6.out.trans ((below_drewG _ _ _).mono HB6.out.size)⟩
                  case measure=>simp [intOf];omega
              . cases xs
                . go_upto_region 17 with fail
                  refine wp_region_quiet_lit (by as_aux_lemma=>kernel_rfl) (by as_aux_lemma=>kernel_rfl) ?_
                  repeat (go_big_quiet_step (fail))
                  refine wpQuiet_nil ?_
                  intro _ hw'
                  obtain ⟨nq,hw''⟩:=hw'
                  subst hw''
                  go_wp2_with fail
                  go_roundw
                  case rel=>exact ⟨q+1,by omega,by go_num,by rw [show KK+(q+1)=KQ+1 from by have:=HKQ.out;omega];go_num,HB6.out.trans ((below_drewG _ _ _).mono HB6.out.size)⟩
                  case measure=>simp [intOf];omega
                . go_upto_region 17 with fail
                  refine wp_region_quiet_lit (by as_aux_lemma=>kernel_rfl) (by as_aux_lemma=>kernel_rfl) ?_
                  repeat (go_big_quiet_step (fail))
                  refine wpQuiet_nil ?_
                  intro _ hw'
                  obtain ⟨nq,hw''⟩:=hw'
                  subst hw''
                  go_wp2_with fail
                  go_roundw
                  case rel=>exact ⟨q+1,by omega,by go_num,by rw [show KK+(q+1)=KQ+1 from by have:=HKQ.out;omega];go_num,HB6.out.trans ((below_drewG _ _ _).mono HB6.out.size)⟩
                  case measure=>simp [intOf];omega
          . have hqe:q=IL:=by omega
            subst hqe
            go_wp2_with fail
            go_roundw
            case rel=>exact ⟨jn+1,by omega,by go_num,by rw [firstIn_succ HN1.out,<- HIL.out,<- HKK.out],hbel.out.trans (hbe2.out.mono hbel.out.size)⟩
            case measure=>simp [intOf];omega
    . have hje:jn=QN:=by omega
      have hS8:=HSK.out
      obtain ⟨b1,o1,ai,ci,rfl,hNA,hPR⟩:=(HMa.out _ hbel.out).nodes.at HN0.out
      obtain ⟨v0,v1,v2,v3,v4,v5,v6,v7⟩:=hNA
      have haN:a < QN:=by rw [HNN.out];exact (List.getElem?_eq_some_iff.1 HN0.out).1
      have hsm:=(HMa.out _ hbel.out).sunk
      have hsx:=(HMb.out _ hbel.out).sunk
      obtain ⟨hge,hor⟩:=hS8
      have HQSl:Hid (QS<=9223372036854775807):=(show _<=_ by obtain ⟨_,_,c,e,h1,h2,_⟩:=hsx;injection e with e1 e2 e3;have:=HQS.out;unfold maxLen at h2;omega)
      have hQSl:=HQSl.out
      have hge':(QS:Int) >= (NS:Int):=by omega
      by_cases hk5:n0.kind=5
      . rw [hk5] at v0
        clear c1 c2 c3 d0 d1 d2 d3 v1 v2 v3 v4 v5 v6 v7 hPR hsm hsx hor
        go_wp2_with fail
        go_ret
        exact ⟨rfl,HB2.out.trans (hbel.out.mono HB2.out.size)⟩
      . have hsk:RM.sunk=M.sunk:=hor.resolve_left hk5
        rw [hsk] at hsx
        have hQ:QS=NS:=by rw [HQS.out,HNS.out,hsk]
        have HEQ:Hid _:=eqP_is bS aS ds cs M.sunk M.sunk wo hsx hsm
        rw [decide_eq_true rfl,<- HNS.out] at HEQ
        subst hQ
        have hk5b:decide (n0.kind=5)=false:=decide_eq_false hk5
        generalize n0.kind=nk at *
        clear c1 c2 c3 d0 d1 d2 d3 v1 v2 v3 v4 v5 v6 v7 hPR hsm hsx hor hsk
        go_wp2_with fail
        refine Calls.mono HEQ.out ?_
        rintro e w8 ⟨rfl,hb8⟩
        have hB8:=hbel.out.trans (hb8.mono hbel.out.size)
        have l0:=(cells5C (HL2.out.below hB8).m).2.2.2.2.1
        have l1:=(cells5C (HL2.out.below hB8).x).2.2.2.2.1
        have HB8:Hid (Below w.heap.size w w8):=HB2.out.trans (hB8.mono HB2.out.size)
        clear hb8 hB8 HEQ c0 c4 d4 v0
        go_wp2_with fail
        go_ret
        exact ⟨rfl,HB8.out⟩
 . go_wp2_with fail
   refine Calls.mono (HML.out _ HB2.out) ?_
   rintro e w3 ⟨rfl,hb3⟩
   have HB3:Hid (Below w.heap.size w w3):=HB2.out.trans (hb3.mono HB2.out.size)
   clear hb3
   go_wp2_with fail
   go_ret
   exact ⟨rfl,HB3.out⟩
end Go.Proofs.YtllgglolcgdehaaGreatDoor
namespace Go.Proofs.YtllgglolcgdehaaGreatDoor
open Go.RowKit Go.Gs
set_option linter.unusedVariables false
theorem execLine_walk (W:World) (hE:KnownE W) (hsh:W.ShapedOpen Tryz.prog) (an af ax ap aS:Option Addr) (cn cf cx cp cs:Nat) (M:SMach) (h:RMach W an af ax ap aS cn cf cx cp cs M) (hf:FitsM M) (i:Int) (hi:-9223372036854775808<=i/\i<=9223372036854775807) :
 Calls Tryz.prog 7 #[machV an af ax ap aS M cn cf cx cp cs,.int .i64 i] W fun e w'=>e=.returned (.bool true)/\Below W.heap.size W w':=
 execLine_is an af ax ap aS cn cf cx cp cs M i W h hf hE
end Go.Proofs.YtllgglolcgdehaaGreatDoor
