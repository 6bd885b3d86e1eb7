/- The closed machine of the laws. -/
import Derived.Test.YtllgglolcgdehaaGreatDoorXa37
import Derived.Test.YtllgglolcgdehaaGreatDoorXa34
set_option maxRecDepth 100000
set_option maxHeartbeats 16000000
namespace Go.Proofs.YtllgglolcgdehaaGreatDoor
open Go.RowKit Go.Gs Go.Maps
set_option linter.unusedVariables false
theorem milled_true (w:World) (hE:KnownE w):Calls Tryz.prog 17 #[] w fun e w'=>e=.returned (.bool true)/\Below w.heap.size w w':=by
 have HE:Hid (KnownE w):=hE
 clear hE
 go_enter Tryz.func17,Tryz.ntmps17
 go_wp2_with fail
 refine (sorter_is w).mono ?_
 rintro e w1 ⟨g,rfl,hr1,hb1⟩
 have HR1:Hid (RNodes w1 (.slice (some ⟨g,0,none⟩) 6 6) sorterNs):=hr1
 have HB1:Hid (Below w.heap.size w w1):=hb1
 have kc:=fun (w:World) (C:Array Value) (n c:Nat)=>Lib.run_convert_bytes_const (P:=Tryz.prog) w 28 5 C n c Tryz.underlying28 Tryz.underlying5
 have kc2:=fun (C:Array Value) (n c:Nat)=>kc w1 C n c
 clear hr1 hb1
 go_wp2_with fail
 have hfr:=flow_rows w1
 have hX:Below w1.heap.size w1 ((w1.alloc (.cells #[.int .u8 51,.int .u8 10,.int .u8 49,.int .u8 10,.int .u8 50,.int .u8 10,.int .u8 48] 5 (7,8))).alloc (.cells #[.string ⟨#[97]⟩,.slice (some ⟨w1.heap.size,0,none⟩) 7 7] 83)):=box_of.trans (box_of.mono (by simp))
 have hQ:=NewE_is (some ⟨g,0,none⟩) (some ⟨w1.heap.size+1,0,none⟩) 6 1 sorterNs flowFs 1 _ (HR1.out.below hX) hfr sorter_fits flow_fits
 rw[mill_new] at hQ
 refine Calls.mono hQ ?_
 rintro e w2 ⟨v,rfl,hA2,hb2⟩
 have hX2:Below w1.heap.size w1 w2:=hX.trans (hb2.mono hX.size)
 have HB2:Hid (Below w.heap.size w w2):=HB1.out.trans (hX2.mono HB1.out.size)
 obtain⟨an,af,ax,ap,aS,cn,cf,cx,cp,cs,rfl,hM2⟩:=hA2
 clear hfr hX hX2 hQ hb2 kc kc2 HR1 HB1
 have HS:Hid (∀W,Below w2.heap.size w2 W->Calls Tryz.prog 14 #[machV an af ax ap aS (freshM sorterNs flowFs 1) cn cf cx cp cs,.int .i64 5] W fun e w'=>∃v,e=.returned (.tuple #[v,.int .i64 8])/\MachAns w' v zeroM/\Below W.heap.size W w'):=(show ∀W,_ from fun W hW=>by
  have hS:=StepE_is an af ax ap aS cn cf cx cp cs (freshM sorterNs flowFs 1) 5 W (hM2.below hW) (reach_fits sorter_right flow_files sorter_fits flow_fits mill_reach) (fun V hV=>HE.out.below ((HB2.out.trans (hW.mono HB2.out.size)).trans (hV.mono (by have:=HB2.out.size;have:=hW.size;omega))))
  rw[mill_step] at hS
  exact hS)
 have HF:Hid (∀W,Below w2.heap.size w2 W->Calls Tryz.prog 25 #[machV an af ax ap aS (freshM sorterNs flowFs 1) cn cf cx cp cs] W fun e w'=>∃v r,e=.returned (.tuple #[v,.int .i64 0])/\MachAns w' v r/\r.sunk=[48,10,49,10,50,10,51,10]/\Below W.heap.size W w'):=(show ∀W,_ from fun W hW=>by
  obtain⟨k,r,hF,ho,hr,hs⟩:=reach_fin sorter_right flow_files mill_bound (by decide) mill_reach
  rw[mill_sunk] at hs
  have hS:=FinishE_is an af ax ap aS cn cf cx cp cs (freshM sorterNs flowFs 1) W (hM2.below hW) (reach_fits sorter_right flow_files sorter_fits flow_fits mill_reach) (fun V hV=>HE.out.below ((HB2.out.trans (hW.mono HB2.out.size)).trans (hV.mono (by have:=HB2.out.size;have:=hW.size;omega)))) (Go.Gs.Reach sorterNs flowFs 1) (fun _=>reach_inv sorter_right flow_files mill_bound) (fun _=>mill_reach) k (r,0) (fun _=>hF)
  rw[show finR (freshM sorterNs flowFs 1) (r,0)=(r,0) from by unfold finR;rw[if_neg (by simp[mill_chk])]] at hS
  refine hS.mono ?_
  rintro e w' ⟨v,h1,h2,h3⟩
  exact⟨v,r,h1,h2,hs,h3⟩)
 clear hM2 HE
 unfold machV at HS HF ⊢
 generalize (freshM sorterNs flowFs 1).ns.length=NN at *
 generalize (freshM sorterNs flowFs 1).fs.length=NF at *
 generalize (freshM sorterNs flowFs 1).pipes.length=NX at *
 generalize (freshM sorterNs flowFs 1).ps.length=NP at *
 generalize (freshM sorterNs flowFs 1).sunk.length=NS at *
 go_wp2_with fail
 refine Calls.mono (HS.out _ box_of) ?_
 rintro e w3 ⟨v,rfl,hA3,hb3⟩
 have hb23:Below w2.heap.size w2 w3:=Below.trans (box_of (w:=w2)) (hb3.mono (by simp))
 have hx3:=(hb3.block w2.heap.size (by simp)).trans (heap_alloc_new w2 (.cells #[.slice an NN cn,.slice af NF cf,.slice ax NX cx,.slice ap NP cp,.slice aS NS cs] 30))
 obtain⟨an3,af3,ax3,ap3,aS3,cn3,cf3,cx3,cp3,cs3,rfl,hM3⟩:=hA3
 obtain⟨x0,x1,x2,x3,x4,_⟩:=cells5C hx3
 have HB3:Hid (Below w.heap.size w w3):=HB2.out.trans (hb23.mono HB2.out.size)
 have HB23:Hid (Below w2.heap.size w2 w3):=hb23
 clear hM3 hb3 hb23 HS
 unfold machV
 generalize zeroM.ns.length=NN3 at *
 generalize zeroM.fs.length=NF3 at *
 generalize zeroM.pipes.length=NX3 at *
 generalize zeroM.ps.length=NP3 at *
 generalize zeroM.sunk.length=NS3 at *
 have hlt3:w2.heap.size<w3.heap.size:=(aSm hx3).1
 have hne3:w2.heap.size≠w3.heap.size:=by omega
 clear hx3
 go_wp2_with fail
 refine Calls.mono (HF.out _ (HB23.out.trans ((box_of (w:=w3)).mono HB23.out.size))) ?_
 rintro e w4 ⟨v,r,rfl,hA4,hs4,hb4⟩
 have HB4:Hid (Below w.heap.size w w4):=HB3.out.trans ((Below.trans (box_of (w:=w3)) (hb4.mono (by simp))).mono HB3.out.size)
 obtain⟨an4,af4,ax4,ap4,aS4,cn4,cf4,cx4,cp4,cs4,rfl,hM4⟩:=hA4
 have hrd:=hM4.sunk
 rw[hs4] at hrd
 have k1:∀o,_:=fun o=>conv_any (bs:=[48,10,49,10,50,10,51,10]) (hrd.below (box_of (o:=o)))
 simp only[List.length_cons,List.length_nil,Nat.zero_add,Nat.reduceAdd] at k1
 unfold machV
 have hS8:r.sunk.length=8:=by rw[hs4];rfl
 rw[hS8]
 generalize r.ns.length=NN4 at *
 generalize r.fs.length=NF4 at *
 generalize r.pipes.length=NX4 at *
 generalize r.ps.length=NP4 at *
 clear hM4 hb4 HF hrd hs4 hS8 x0 x1 x2 x3 x4 hlt3 hne3 HB23 HB2 HB3
 go_wp2_with fail
 go_ret
 exact⟨rfl,HB4.out.trans ((box_of (w:=w4)).mono HB4.out.size)⟩
end Go.Proofs.YtllgglolcgdehaaGreatDoor
