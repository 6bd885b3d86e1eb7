/- The closed machine of the laws, and more. -/
import Derived.Deep.SlicePairs
import Derived.Test.YtllgglolcgdehaaGreatDoorJa35
import Derived.Test.YtllgglolcgdehaaGreatDoorJa33
namespace Go.Proofs.YtllgglolcgdehaaGreatDoor
open Go.RowKit Go.Gs Go.Maps
set_option linter.unusedVariables false
set_option maxRecDepth 100000 in
set_option maxHeartbeats 8000000 in
theorem milled_true (w:World) (hE:KnownE w):Calls Tryz.prog 17 #[] w fun e w'=>e=.returned (.bool true)/\Below w.heap.size w w':=by
 have HE:Hid (KnownE w):=hE
 clear hE
 go_enter Tryz.func17,Tryz.ntmps17
 go_wp2_with fail
 refine (sorter_is w).mono ?_
 rintro e w1 ⟨g,rfl,hr1,hb1⟩
 have HR1:Hid (RNodes w1 (.slice (some ⟨g,0,none⟩) 6 6) sorterNs):=hr1
 have HB1:Hid (Below w.heap.size w w1):=hb1
 have kc:=fun (w:World) (C:Array Value) (n c:Nat)=>Lib.run_convert_bytes_const (P:=Tryz.prog) w 28 5 C n c Tryz.underlying28 Tryz.underlying5
 have kc2:=fun (C:Array Value) (n c:Nat)=>kc w1 C n c
 clear hr1 hb1
 go_wp2_with fail
 have hfr:=flow_rows w1
 have hX:Below w1.heap.size w1 ((w1.alloc (.cells #[.int .u8 51,.int .u8 10,.int .u8 49,.int .u8 10,.int .u8 50,.int .u8 10,.int .u8 48] 5 (7,8))).alloc (.cells #[.string ⟨#[97]⟩,.slice (some ⟨w1.heap.size,0,none⟩) 7 7] 83)):=box_of.trans (box_of.mono (by simp))
 have hQ:=NewE_is (some ⟨g,0,none⟩) (some ⟨w1.heap.size+1,0,none⟩) 6 1 sorterNs flowFs 1 _ (HR1.out.below hX) hfr sorter_fits flow_fits
 rw [mill_new] at hQ
 refine Calls.mono hQ ?_
 rintro e w2 ⟨v,rfl,hA2,hb2⟩
 have hX2:Below w1.heap.size w1 w2:=hX.trans (hb2.mono hX.size)
 have HB2:Hid (Below w.heap.size w w2):=HB1.out.trans (hX2.mono HB1.out.size)
 obtain ⟨an,af,ax,ap,aS,cn,cf,cx,cp,cs,rfl,hM2⟩:=hA2
 clear hfr hX hX2 hQ hb2 kc kc2 HR1 HB1
 have HS:Hid (∀ W,Below w2.heap.size w2 W->Calls Tryz.prog 14 #[machV an af ax ap aS (freshM sorterNs flowFs 1) cn cf cx cp cs,.int .i64 5] W fun e w'=>∃ v,e=.returned (.tuple #[v,.int .i64 8])/\MachAns w' v zeroM/\Below W.heap.size W w'):=(show ∀ W,_ from fun W hW=>by
  have hS:=StepE_is an af ax ap aS cn cf cx cp cs (freshM sorterNs flowFs 1) 5 W (hM2.below hW) (reach_fits sorter_right flow_files sorter_fits flow_fits mill_reach) (fun V hV=>HE.out.below ((HB2.out.trans (hW.mono HB2.out.size)).trans (hV.mono (by have:=HB2.out.size;have:=hW.size;omega))))
  rw [mill_step] at hS
  exact hS)
 have HF:Hid (∀ W,Below w2.heap.size w2 W->Calls Tryz.prog 25 #[machV an af ax ap aS (freshM sorterNs flowFs 1) cn cf cx cp cs] W fun e w'=>∃ v r,e=.returned (.tuple #[v,.int .i64 0])/\MachAns w' v r/\r.sunk=[48,10,49,10,50,10,51,10]/\Below W.heap.size W w'):=(show ∀ W,_ from fun W hW=>by
  obtain ⟨k,r,hF,ho,hr,hs⟩:=reach_fin sorter_right flow_files mill_bound (by decide) mill_reach
  rw [mill_sunk] at hs
  have hS:=FinishE_is an af ax ap aS cn cf cx cp cs (freshM sorterNs flowFs 1) W (hM2.below hW) (reach_fits sorter_right flow_files sorter_fits flow_fits mill_reach) (fun V hV=>HE.out.below ((HB2.out.trans (hW.mono HB2.out.size)).trans (hV.mono (by have:=HB2.out.size;have:=hW.size;omega)))) (Go.Gs.Reach sorterNs flowFs 1) (fun _=>reach_inv sorter_right flow_files mill_bound) (fun _=>mill_reach) k (r,0) (fun _=>hF)
  rw [show finR (freshM sorterNs flowFs 1) (r,0)=(r,0) from by unfold finR;rw [if_neg (by simp [mill_chk])]] at hS
  refine hS.mono ?_
  rintro e w' ⟨v,h1,h2,h3⟩
  exact ⟨v,r,h1,h2,hs,h3⟩)
 clear hM2 HE
 unfold machV at HS HF ⊢
 generalize (freshM sorterNs flowFs 1).ns.length=NN at *
 generalize (freshM sorterNs flowFs 1).fs.length=NF at *
 generalize (freshM sorterNs flowFs 1).pipes.length=NX at *
 generalize (freshM sorterNs flowFs 1).ps.length=NP at *
 generalize (freshM sorterNs flowFs 1).sunk.length=NS at *
 go_wp2_with fail
 refine Calls.mono (HS.out _ box_of) ?_
 rintro e w3 ⟨v,rfl,hA3,hb3⟩
 have hb23:Below w2.heap.size w2 w3:=Below.trans (box_of (w:=w2)) (hb3.mono (by simp))
 have hx3:=(hb3.block w2.heap.size (by simp)).trans (heap_alloc_new w2 (.cells #[.slice an NN cn,.slice af NF cf,.slice ax NX cx,.slice ap NP cp,.slice aS NS cs] 30))
 obtain ⟨an3,af3,ax3,ap3,aS3,cn3,cf3,cx3,cp3,cs3,rfl,hM3⟩:=hA3
 obtain ⟨x0,x1,x2,x3,x4,_⟩:=cells5C hx3
 have HB3:Hid (Below w.heap.size w w3):=HB2.out.trans (hb23.mono HB2.out.size)
 have HB23:Hid (Below w2.heap.size w2 w3):=hb23
 clear hM3 hb3 hb23 HS
 unfold machV
 generalize zeroM.ns.length=NN3 at *
 generalize zeroM.fs.length=NF3 at *
 generalize zeroM.pipes.length=NX3 at *
 generalize zeroM.ps.length=NP3 at *
 generalize zeroM.sunk.length=NS3 at *
 have hlt3:w2.heap.size < w3.heap.size:=(Array.getElem?_eq_some_iff.1 hx3).1
 have hne3:w2.heap.size ≠ w3.heap.size:=by omega
 clear hx3
 go_wp2_with fail
 refine Calls.mono (HF.out _ (HB23.out.trans ((box_of (w:=w3)).mono HB23.out.size))) ?_
 rintro e w4 ⟨v,r,rfl,hA4,hs4,hb4⟩
 have HB4:Hid (Below w.heap.size w w4):=HB3.out.trans ((Below.trans (box_of (w:=w3)) (hb4.mono (by simp))).mono HB3.out.size)
 obtain ⟨an4,af4,ax4,ap4,aS4,cn4,cf4,cx4,cp4,cs4,rfl,hM4⟩:=hA4
 have hrd:=hM4.sunk
 rw [hs4] at hrd
 have k1:∀ o,_:=fun o=>conv_any (bs:=[48,10,49,10,50,10,51,10]) (hrd.below (box_of (o:=o)))
 simp only [List.length_cons,List.length_nil,Nat.zero_add,Nat.reduceAdd] at k1
 unfold machV
 have hS8:r.sunk.length=8:=by rw [hs4];rfl
 rw [hS8]
 generalize r.ns.length=NN4 at *
 generalize r.fs.length=NF4 at *
 generalize r.pipes.length=NX4 at *
 generalize r.ps.length=NP4 at *
 clear hM4 hb4 HF hrd hs4 hS8 x0 x1 x2 x3 x4 hlt3 hne3 HB23 HB2 HB3
 go_wp2_with fail
 go_ret
 exact ⟨rfl,HB4.out.trans ((box_of (w:=w4)).mono HB4.out.size)⟩
end Go.Proofs.YtllgglolcgdehaaGreatDoor
namespace Go.Gs
open Go.RowKit Go.ChangeShapes Go.WideShapes Go.ChangeAt
set_option linter.unusedVariables false
variable {P:Program} {H:Type} {enc:TypeId × Value->H} {W:World} {base:Nat} {held:Bool} {fuel:Nat} {t e:TypeId} {a:Option Addr} {len cap:Nat} {x:DataW H × List MemPlace}
theorem add_plain {b off j:Nat}:(⟨b,off,none⟩:Addr).add j=⟨b,off+j,none⟩:=by unfold Addr.add;split <;> simp_all
theorem U_of {z:Int} (h:(Lit.int .u8 z).wf=true):U (UInt8.ofNat z.toNat)=.int .u8 z:=by
 have hx:0<=z/\z<=255:=by simpa [Lit.wf,IntKind.min,IntKind.max,IntKind.signed,IntKind.bits] using h
 have:((UInt8.ofNat z.toNat).toNat:Int)=z:=by
  rw [UInt8.toNat_ofNat_of_lt' (by show _ < 256;omega)]
  omega
 simp only [U,this]
theorem bytes_of_open (ht:P.underlying t=some (.slice e)) (he:P.underlying e=some (.int .u8)) (hc:P.cellsOf e=1)
 (hf:DataW.trod enc P W base (fun _=>true) held fuel t [.slice a len cap]=some x) :
 ∃ bs:List UInt8,bs.length=len/\Reads W (.slice a len cap) bs.length (bs.map U):=by
 rcases open_ints ht he hc hf with ⟨hcs,_⟩ | ⟨ad,l,c,zs,hcs,_,hl,hm,hz,_,hcell,hwz⟩
 . simp at hcs
   obtain ⟨rfl,rfl,rfl⟩:=hcs
   exact ⟨[],rfl,rfl,none,0,rfl,Nat.le_refl _,by simp,fun h=>absurd rfl h⟩
 . simp at hcs
   obtain ⟨rfl,rfl,rfl⟩:=hcs
   have hz':zs.length=cap:=by simpa using hz
   have hbl:((zs.take len).map (fun z=>UInt8.ofNat z.toNat)).length=len:=by simp;omega
   refine ⟨(zs.take len).map (fun z=>UInt8.ofNat z.toNat),hbl,by simp,some ad,cap,by rw [hbl],by omega,hm,fun h0=>?_⟩
   rw [hbl] at h0
   obtain ⟨b,off,spot⟩:=ad
   have h00:=hcell 0 (by omega)
   have hspot:spot=none:=by simpa [Addr.add] using World.cell?_spot h00
   subst hspot
   refine ⟨b,off,rfl,fun j u hu=>?_⟩
   have hj:j < len:=by
    have:=(List.getElem?_eq_some_iff.1 hu).1
    simp at this
    omega
   have hjz:j < zs.length:=by omega
   have hcj:=hcell j hjz
   rw [add_plain] at hcj
   rw [hcj]
   simp only [List.map_map,List.getElem?_map,List.getElem?_take,hj,if_true,List.getElem?_eq_getElem hjz,Option.map_some,Function.comp_apply,Option.some.injEq] at hu
   rw [U_of (hwz _ (List.getElem_mem hjz))] at hu
   rw [<- hu]
   simp [hjz]
end Go.Gs
namespace Go.Proofs.YtllgglolcgdehaaGreatDoor
open Go.RowKit Go.Gs Go.ChangeShapes Go.WideShapes Go.ChangeAt
set_option linter.unusedVariables false
variable {H:Type} {enc:TypeId × Value->H} {W:World} {base:Nat} {held:Bool} {fuel:Nat} {x:DataW H × List MemPlace}
theorem spot_none5 {w:World} {a:Addr} {k:Nat} {v:Value} (h:w.cell? (a.add k)=some v) (hk:k=0):a.spot=none:=by
 obtain ⟨b,off,spot⟩:=a
 subst hk
 simpa [Addr.add] using World.cell?_spot h
theorem files_of_open {v:Value} (hf:DataW.trod enc Tryz.prog W base (fun _=>true) held fuel 25 [v]=some x) :
 ∃ fs:List SFile,RFiles W v fs/\(∀ f ∈ fs,FitsF f) /\ ∀ n c,v=.slice none n c->c=0:=by
 rcases Deep.open_slice_pairs Tryz.underlying25 Tryz.underlying83 (by kernel_rfl) rfl rfl (by kernel_rfl) (by kernel_rfl) hf with ⟨hcs,_⟩ | ⟨a,len,cap,m,n,V0,V1,D0,D1,P0,P1,hcs,hb,hl,hm,hmm,_,hall⟩
 . simp at hcs
   subst hcs
   exact ⟨[],⟨none,0,rfl,Nat.le_refl _,by simp,fun h=>absurd rfl h⟩,(by intro c hc;cases hc),fun n c e=>by injection e with _ _ e;exact e.symm⟩
 . simp at hcs
   subst hcs
   simp only [if_true] at hmm
   subst hmm
   have each:∀ i,i < len -> ∃ f:SFile,V0 i=.string ⟨f.name.toArray⟩/\Reads W (V1 i) f.b.length (f.b.map U)/\FitsF f:=by
    intro i hi
    obtain ⟨_,_,g0,g1⟩:=hall i (by omega)
    obtain ⟨s,e2,_,hs⟩:=DataW.trod_string Tryz.underlying9 g0
    simp at e2
    obtain ⟨a',l',c',hv⟩:∃ a' l' c',V1 i=.slice a' l' c':=by
     rcases open_ints Tryz.underlying28 Tryz.underlying5 (by kernel_rfl) g1 with ⟨hcs,_⟩ | ⟨ad',l',c',zs,hcs,_⟩
     . exact ⟨none,0,0,by simpa using hcs⟩
     . exact ⟨some ad',l',c',by simpa using hcs⟩
    rw [hv] at g1 ⊢
    obtain ⟨bs,hbl,hr⟩:=bytes_of_open Tryz.underlying28 Tryz.underlying5 (by kernel_rfl) g1
    refine ⟨⟨s.data.toList,bs⟩,e2,hr,?_⟩
    unfold FitsF
    unfold maxLen at hs
    have:s.data.toList.length=s.size:=Array.length_toList
    show s.data.toList.length<=_
    omega
   haveI:Inhabited SFile:=⟨⟨[],[]⟩⟩
   obtain ⟨Y,hY⟩:=Deep.choose_lt each
   have hget:∀ (j:Nat) (p:SFile),((List.range len).map Y)[j]? = some p->j < len/\p=Y j:=by
    intro j p hj
    rw [List.getElem?_map] at hj
    by_cases h1:j < len
    . rw [List.getElem?_range h1] at hj
      simp only [Option.map_some,Option.some.injEq] at hj
      exact ⟨h1,hj.symm⟩
    . rw [List.getElem?_eq_none (by simp;omega)] at hj
      cases hj
   refine ⟨(List.range len).map Y,⟨some a,m,by simp,by simpa using hl,hm,fun h0=>?_⟩,fun f hf=>?_,fun n c e=>by injection e with e;cases e⟩
   . have h0':0 < len:=by
      rcases Nat.eq_zero_or_pos len with h | h
      . subst h;simp at h0
      . exact h
     have hspot:=spot_none5 (hall 0 (by omega)).1 rfl
     obtain ⟨b,off,spot⟩:=a
     simp only at hspot
     subst hspot
     refine ⟨b,off,rfl,fun j f hj=>?_⟩
     obtain ⟨h1,rfl⟩:=hget j f hj
     obtain ⟨c0,c1,_,_⟩:=hall j (by omega)
     obtain ⟨q0,q1,_⟩:=hY j h1
     rw [Gs.add_plain] at c0 c1
     exact ⟨V1 j,by rw [c0,q0],by rw [Nat.add_assoc];exact c1,q1⟩
   . obtain ⟨i,hi,rfl⟩:=List.mem_map.1 hf
     exact (hY i (List.mem_range.1 hi)).2.2
end Go.Proofs.YtllgglolcgdehaaGreatDoor
namespace Go.Gs
open Go.RowKit Go.ChangeShapes Go.WideShapes Go.ChangeAt
set_option linter.unusedVariables false
variable {P:Program} {H:Type} {enc:TypeId × Value->H} {W:World} {base:Nat} {held:Bool} {fuel:Nat} {t e:TypeId} {v:Value} {x:DataW H × List MemPlace}
theorem add_plainP {b off j:Nat}:(⟨b,off,none⟩:Addr).add j=⟨b,off+j,none⟩:=by unfold Addr.add;split <;> simp_all
theorem row_of_open {k:IntKind} (ht:P.underlying t=some (.slice e)) (he:P.underlying e=some (.int k)) (hc:P.cellsOf e=1)
 (hf:DataW.trod enc P W base (fun _=>true) held fuel t [v]=some x) :
 ∃ (zs:List Int) (a:Option Addr) (cap:Nat),v=.slice a zs.length cap/\Reads W (.slice a zs.length cap) zs.length (zs.map (Value.int k))/\(a=none->cap=0) /\ ∀ z ∈ zs,(Lit.int k z).wf=true:=by
 rcases open_ints ht he hc hf with ⟨hcs,_⟩ | ⟨ad,l,c,zs,hcs,_,hl,hm,hz,_,hcell,hwz⟩
 . simp at hcs
   subst hcs
   exact ⟨[],none,0,rfl,⟨rfl,none,0,rfl,Nat.le_refl _,by simp,fun h=>absurd rfl h⟩,fun _=>rfl,by simp⟩
 . simp at hcs
   subst hcs
   have hz':zs.length=c:=by simpa using hz
   have hbl:(zs.take l).length=l:=by rw [List.length_take];omega
   refine ⟨zs.take l,some ad,c,by rw [hbl],⟨by rw [List.length_map],some ad,c,by rw [hbl],by omega,hm,fun h0=>?_⟩,(fun h=>by cases h),fun z hzm=>hwz z (List.mem_of_mem_take hzm)⟩
   rw [hbl] at h0
   obtain ⟨b,off,spot⟩:=ad
   have h00:=hcell 0 (by omega)
   have hspot:spot=none:=by simpa [Addr.add] using World.cell?_spot h00
   subst hspot
   refine ⟨b,off,rfl,fun j u hu=>?_⟩
   have hj:j < l:=by
    have:=(List.getElem?_eq_some_iff.1 hu).1
    simp at this
    omega
   have hjz:j < zs.length:=by omega
   have hcj:=hcell j hjz
   rw [add_plainP] at hcj
   rw [hcj]
   simp only [List.getElem?_map,List.getElem?_take,hj,if_true,List.getElem?_eq_getElem hjz,Option.map_some,Option.some.injEq] at hu
   rw [<- hu]
   simp [hjz]
end Go.Gs
