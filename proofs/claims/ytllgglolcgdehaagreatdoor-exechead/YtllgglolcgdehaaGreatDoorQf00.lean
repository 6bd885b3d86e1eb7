/- Graphs, plainly, and more. -/
import Derived.Test.YtllgglolcgdehaaGreatDoorQAb
import Derived.Test.YtllgglolcgdehaaGreatDoorQc00
import Derived.Test.YtllgglolcgdehaaGreatDoorQa26
set_option maxRecDepth 100000
set_option maxHeartbeats 16000000
namespace Go.Gs
open Go.RowKit
def aw0 (ns:List SNode) (fs:List SFile):List UInt8 × Int:=if gchk ns≠0 then ([],gchk ns) else if fchk fs≠0 then ([],fchk fs) else (sunk ns fs,0)
end Go.Gs
namespace Go.Gs
open Go.RowKit
set_option linter.unusedVariables false
theorem aF8 {ns:List SNode} {fs:List SFile} (h:gchk ns=0) (hf:fchk fs=0):aw0 ns fs=(sunk ns fs,0):=by unfold aw0;rw[if_neg (by simp[h]),if_neg (by simp[hf])]
def A5:List SNode:=[⟨1,[97],noC,0,0,[]⟩,⟨2,[],noC,0,2,[(0,0)]⟩,⟨3,[],⟨6,[],0⟩,0,0,[(1,0)]⟩,⟨3,[],⟨6,[],0⟩,0,0,[(1,1)]⟩,⟨4,[],noC,2,0,[(2,0),(3,0)]⟩,⟨5,[98],noC,0,0,[(4,0)]⟩]
def D5:List SFile:=[⟨[97],[51,10,49,10,50,10,48]⟩]
theorem I3:gchk A5=0:=by decide
theorem V9:fchk D5=0:=by decide
theorem bI7:made ⟨6,[],0⟩ [[51],[49]]=[[49],[51]]:=by rw[aC2 _ rfl,Y9 (U3 [[51],[49]]) [[49],[51]] ((F9 _).trans (by decide)) (N9 _) (by decide)]
theorem bI8:made ⟨6,[],0⟩ [[50],[48]]=[[48],[50]]:=by rw[aC2 _ rfl,Y9 (U3 [[50],[48]]) [[48],[50]] ((F9 _).trans (by decide)) (N9 _) (by decide)]
theorem bY0:j5 D5 [] A5=[[[51,10,49,10,50,10,48,10]],[[51,10,49,10],[50,10,48,10]],[[49,10,51,10]],[[48,10,50,10]],[[48,10,49,10,50,10,51,10]],[]]:=by
 have n0:i8 ⟨1,[97],noC,0,0,[]⟩ D5 []=[[51,10,49,10,50,10,48,10]]:=by decide
 have n1:i8 ⟨2,[],noC,0,2,[(0,0)]⟩ D5 [[51,10,49,10,50,10,48,10]]=[[51,10,49,10],[50,10,48,10]]:=by decide
 have n2:i8 ⟨3,[],⟨6,[],0⟩,0,0,[(1,0)]⟩ D5 [[51,10,49,10]]=[[49,10,51,10]]:=by
  have l:lines [51,10,49,10]=[[51],[49]]:=by decide
  show [ended (made ⟨6,[],0⟩ (lines [51,10,49,10]))]=_;rw[l,bI7];rfl
 have n3:i8 ⟨3,[],⟨6,[],0⟩,0,0,[(1,1)]⟩ D5 [[50,10,48,10]]=[[48,10,50,10]]:=by
  have l:lines [50,10,48,10]=[[50],[48]]:=by decide
  show [ended (made ⟨6,[],0⟩ (lines [50,10,48,10]))]=_;rw[l,bI8];rfl
 have n4:i8 ⟨4,[],noC,2,0,[(2,0),(3,0)]⟩ D5 [[49,10,51,10],[48,10,50,10]]=[[48,10,49,10,50,10,51,10]]:=by decide
 have n5:i8 ⟨5,[98],noC,0,0,[(4,0)]⟩ D5 [[48,10,49,10,50,10,51,10]]=[]:=by decide
 unfold A5;rw[j5];rw[show i8 ⟨1,[97],noC,0,0,[]⟩ D5 (List.map (j3 []) (SNode.ins ⟨1,[97],noC,0,0,[]⟩))=_ from n0,j5];rw[show i8 ⟨2,[],noC,0,2,[(0,0)]⟩ D5 (List.map (j3 ([]++[[[51,10,49,10,50,10,48,10]]])) (SNode.ins ⟨2,[],noC,0,2,[(0,0)]⟩))=_ from n1,j5];rw[show i8 ⟨3,[],⟨6,[],0⟩,0,0,[(1,0)]⟩ D5 (List.map (j3 ([]++[[[51,10,49,10,50,10,48,10]]]++[[[51,10,49,10],[50,10,48,10]]])) (SNode.ins ⟨3,[],⟨6,[],0⟩,0,0,[(1,0)]⟩))=_ from n2,j5];rw[show i8 ⟨3,[],⟨6,[],0⟩,0,0,[(1,1)]⟩ D5 (List.map (j3 ([]++[[[51,10,49,10,50,10,48,10]]]++[[[51,10,49,10],[50,10,48,10]]]++[[[49,10,51,10]]])) (SNode.ins ⟨3,[],⟨6,[],0⟩,0,0,[(1,1)]⟩))=_ from n3,j5]
 rw[show i8 ⟨4,[],noC,2,0,[(2,0),(3,0)]⟩ D5 (List.map (j3 ([]++[[[51,10,49,10,50,10,48,10]]]++[[[51,10,49,10],[50,10,48,10]]]++[[[49,10,51,10]]]++[[[48,10,50,10]]])) (SNode.ins ⟨4,[],noC,2,0,[(2,0),(3,0)]⟩))=_ from n4,j5];rw[show i8 ⟨5,[98],noC,0,0,[(4,0)]⟩ D5 (List.map (j3 ([]++[[[51,10,49,10,50,10,48,10]]]++[[[51,10,49,10],[50,10,48,10]]]++[[[49,10,51,10]]]++[[[48,10,50,10]]]++[[[48,10,49,10,50,10,51,10]]])) (SNode.ins ⟨5,[98],noC,0,0,[(4,0)]⟩))=_ from n5,j5];rfl
theorem bY1:aw0 A5 D5=([48,10,49,10,50,10,51,10],0):=by rw[aF8 I3 V9,aw6 (n:=⟨5,[98],noC,0,0,[(4,0)]⟩) rfl,bY0];rfl
end Go.Gs
namespace Go.Proofs.YtllgglolcgdehaaGreatDoor
open Go.RowKit Go.Gs Go.Maps
set_option linter.unusedVariables false
variable {G:World->(Nat->Option Own)->Prop}
theorem J4.ans {B:Nat} {w:World} {v:Value} {M:SMach} (h:J4 B w v M):K8 w v M:=by obtain⟨an,af,ax,ap,aS,cn,cf,cx,cp,cs,e,h1⟩:=h;exact⟨an,af,ax,ap,aS,cn,cf,cx,cp,cs,e,h1.self⟩
end Go.Proofs.YtllgglolcgdehaaGreatDoor
namespace Go.Proofs.YtllgglolcgdehaaGreatDoor
open Go.RowKit Go.Gs Go.Maps
set_option linter.unusedVariables false
def az7 (M:SMach) (i:Int):SMach × Int:=if mchk M≠0 then (H7,mchk M) else if (stepS M i).2≠0 then (H7,(stepS M i).2) else stepS M i
theorem cl3 (an af ax ap aS:Option Addr) (cn cf cx cp cs:Nat) (M:SMach) (i:Int) (w:World) (h:RMach w an af ax ap aS cn cf cx cp cs M) (Ad:FitsM M) (hE:∀W,Bq w W->t8 W) :
 Calls Tryz.prog 14 #[machV an af ax ap aS M cn cf cx cp cs,.int .i64 i] w fun e w'=>∃v,e=.returned (.tuple #[v,.int .i64 (az7 M i).2])/\J4 w.heap.size w' v (az7 M i).1/\Bq w w':=by
 have HCK:Hid (∀W,Bq w W->Calls Tryz.prog 18 #[machV an af ax ap aS M cn cf cx cp cs] W fun e w'=>e=.returned (.int .i64 (mchk M))/\Bq W w'):=(show ∀W,_ from fun W hW=>aB3 an af ax ap aS cn cf cx cp cs M W (h.below hW) Ad)
 have HST:Hid (mchk M=0 -> ∀W,Bq w W->Calls Tryz.prog 56 #[machV an af ax ap aS M cn cf cx cp cs] W fun e w'=>∃D r,e=.returned (.pointer (some ⟨r,0,none⟩))/\l6 NoG w' D r M/\W.heap.size<=D/\Bq W w'):=(show mchk M=0 -> ∀W,_ from fun h0 W hW=>by
  obtain⟨q1,q2,q3⟩:=al9 h0
  exact aB2 an af ax ap aS cn cf cx cp cs M W (h.below hW) (aI9 q1 (fun p hp=>⟨fun b hb=>by have:=(q2 p hp).1 b hb;omega,fun b hb=>by have:=(q2 p hp).2 b hb;omega⟩) (by omega)) q1 Ad.nodes)
 have HSP:Hid (mchk M=0 -> ∀(D r:Nat) (W:World),l6 NoG W D r M->w.heap.size<=D->Bq w W->Calls Tryz.prog 57 #[.pointer (some ⟨r,0,none⟩),.int .i64 i] W fun e w'=>e=.returned (.int .i64 (stepS M i).2)/\l6 NoG w' D r (stepS M i).1/\Below D W w'):=(show mchk M=0 -> ∀(D r:Nat) (W:World),_ from fun h0 D r W hR hD hW=>by
  obtain⟨q1,q2,q3⟩:=al9 h0
  obtain⟨O,d,hR1,rfl⟩:=hR
  exact aW1 D r O d i W hR1 q1 Ad.nodes (bf0 q1 (fun p hp=>⟨fun b hb=>by have:=(q2 p hp).1 b hb;omega,fun b hb=>by have:=(q2 p hp).2 b hb;omega⟩) (by omega)) (fun V hV=>hE V (hW.trans (hV.mono hD))))
 unfold machV at HCK HST ⊢;obtain⟨RES,Af⟩:=qE (az7 M i);rw[<- Af];unfold az7 at Af;generalize M.ns.length=NN at *;generalize M.fs.length=NF at *;generalize M.pipes.length=NX at *;generalize M.ps.length=NP at *;generalize M.sunk.length=NS at *;clear h Ad hE;by_cases h0:mchk M=0
 .
  have Ia:Hid _:=HST.out h0;have Fg:Hid _:=HSP.out h0;rw[if_neg (by simpa using h0)] at Af;rw[h0] at HCK;have Bw:=qH Af;clear HST HSP Af h0;go_enter Tryz.func14,Tryz.ntmps14;go_wp2_with fail;obtain⟨W0,hW0⟩:=qE ((w.alloc (.cells #[.slice an NN cn,.slice af NF cf,.slice ax NX cx,.slice ap NP cp,.slice aS NS cs] 30)).alloc (.cells #[.slice none 0 0,.slice none 0 0,.slice none 0 0,.slice none 0 0,.slice none 0 0] 30));rw[<- hW0];have hB0:Bq w W0:=by rw[hW0];exact ((Below.refl _ w).alloc (Nat.le_refl _) _).alloc (by simp) _
  have hX0:BX W0 w.heap.size (.slice an NN cn) (.slice af NF cf) (.slice ax NX cx) (.slice ap NP cp) (.slice aS NS cs):=by rw[hW0];exact⟨heap_alloc2_old _ _ _,heap_alloc2_new _ _ _⟩
  refine Calls.mono (HCK.out W0 hB0) ?_;rintro e w1 ⟨rfl,hb1⟩;have hB1:Bq w w1:=hB0.trans (hb1.mono hB0.size);have hX1:=BX.below hX0 hb1;obtain⟨x0,x1,x2,x3,x4,_⟩:=j6 hX1.1;have HB1:=qH hB1;have HX1:=qH hX1;clear hW0 hB0 hX0 hb1 hB1 hX1 HCK;go_wp2_with fail;refine Calls.mono (Ia.out w1 HB1.out) ?_;rintro e w2 ⟨D,r,rfl,hR2,hD,hb2⟩;have hB2:Bq w w2:=HB1.out.trans (hb2.mono HB1.out.size);have hDw:w.heap.size<=D:=by have:=HB1.out.size;omega
  have hX2:=BX.below HX1.out hb2;have HX2:=qH hX2;have HC3:Hid _:=Fg.out D r w2 hR2 hDw hB2;have HB2:=qH hB2;have HDX:Hid (w.heap.size+2<=D):=(show _<=_ by have:=BX.lt HX1.out;omega);have HDW:=qH hDw;clear hR2 hD hb2 hB2 hDw hX2 Ia Fg x0 x1 x2 x3 x4 HX1;go_wp2_with fail;refine Calls.mono HC3.out ?_;rintro e w3 ⟨rfl,hR3,hb3⟩;have hB3:Bq w w3:=HB2.out.trans (hb3.mono HDW.out);have hX3:BX w3 w.heap.size (.slice an NN cn) (.slice af NF cf) (.slice ax NX cx) (.slice ap NP cp) (.slice aS NS cs):=BX.keep HX2.out (fun k hk=>hb3.block k (by have:=HDX.out;omega));have HB3:=qH hB3;obtain⟨y0,y1,y2,y3,y4,yf⟩:=j6 hX3.2;have yf0:=yf 0;have yf1:=yf 1;have yf2:=yf 2;have yf3:=yf 3;have yf4:=yf 4;obtain⟨E,hE⟩:=qE ((stepS M i).2);rw[<- hE];by_cases he:E=0
  .
   have HR5:Hid (RES=stepS M i):=(show _=_ by rw[Bw.out,if_neg (by rw[<- hE];simpa using he)]);obtain⟨hrD,bn,bf,bx,bp,bS,dn,df,dx,dp,ds,vI,vM,Bc,hRM⟩:=l6.machX hR3;have HRM:Hid (∀(w':World),w'.heap.size=w3.heap.size->(∀k,k≠w.heap.size+1->w'.heap[k]? = w3.heap[k]?)->ac0 w.heap.size w' bn bf bx bp bS dn df dx dp ds (stepS M i).1):=(show ∀(w':World),_ from fun w' h1 h2=>ap8 hRM (by have:=HDX.out;omega) (bm1 hX3) (by omega) h1 h2);obtain⟨c0,c1,c2,c3,c4,_,_⟩:=O5 Bc;have hrw:r≠w.heap.size+1:=by have:=HDX.out;omega
   have hrw':w.heap.size+1≠r:=by omega
   subst he;generalize hn5:(stepS M i).1.ns.length=N5 at *;generalize hf5:(stepS M i).1.fs.length=F5 at *;generalize hx5:(stepS M i).1.pipes.length=X5 at *;generalize hp5:(stepS M i).1.ps.length=P5 at *;generalize hs5:(stepS M i).1.sunk.length=S5 at *;clear hR3 hb3 hB3 hX3 yf Bw HC3 Bc hRM HX2;go_wp2_with fail;(try simp only[Exit.inBlock,Exit.then])
   refine bodyPost_ret (v:=.tuple #[.agg #[.slice bn N5 dn,.slice bf F5 df,.slice bx X5 dx,.slice bp P5 dp,.slice bS S5 ds],.int .i64 0]) ?_ rfl ?_
   . rw[results_cell_tmp rfl];go_simp
   .
    refine⟨.agg #[.slice bn N5 dn,.slice bf F5 df,.slice bx X5 dx,.slice bp P5 dp,.slice bS S5 ds],?_,?_,?_⟩
    . rw[HR5.out,<- hE]
    . rw[HR5.out]
      have Aq:ac0 w.heap.size ((((((w3.setCell ⟨w.heap.size+1,0,none⟩ (.slice bn N5 dn)).setCell ⟨w.heap.size+1,1,none⟩ (.slice bf F5 df)).setCell ⟨w.heap.size+1,2,none⟩ (.slice bx X5 dx)).setCell ⟨w.heap.size+1,3,none⟩ (.slice bp P5 dp)).setCell ⟨w.heap.size+1,4,none⟩ (.slice bS S5 ds))) bn bf bx bp bS dn df dx dp ds (stepS M i).1:=HRM.out _ (by simp) (fun k hk=>by
       rw[Below.heap_setCell _ _ _ _ hk,Below.heap_setCell _ _ _ _ hk,Below.heap_setCell _ _ _ _ hk,Below.heap_setCell _ _ _ _ hk,Below.heap_setCell _ _ _ _ hk])
      exact⟨bn,bf,bx,bp,bS,dn,df,dx,dp,ds,by unfold machV;rw[hn5,hf5,hx5,hp5,hs5],Aq⟩
    . repeat (first | refine Below.setCell ?_ (by simp) _ | exact HB3.out)
  .
   have HR5:Hid (RES=(H7,E)):=(show _=_ by rw[Bw.out,if_pos (by rw[<- hE];exact he),<- hE]);clear hR3 hb3 hB3 hX3 yf Bw HC3 hE HX2;go_wp2_with fail;(try simp only[Exit.inBlock,Exit.then])
   refine bodyPost_ret (v:=.tuple #[.agg #[.slice none 0 0,.slice none 0 0,.slice none 0 0,.slice none 0 0,.slice none 0 0],.int .i64 E]) ?_ rfl ?_
   . rw[results_cell_tmp rfl];go_simp
   . rw[HR5.out];exact⟨_,rfl,J4.zero _ _,by repeat (first | refine Below.setCell ?_ (by simp) _ | exact HB3.out)⟩
 .
  obtain⟨K,hK⟩:=qE (mchk M);rw[<- hK] at HCK h0;rw[if_pos (by rw[<- hK];exact h0)] at Af;rw[<- hK] at Af;have Bw:=qH Af;clear HST HSP Af hK;go_enter Tryz.func14,Tryz.ntmps14;go_wp2_with fail;obtain⟨W0,hW0⟩:=qE ((w.alloc (.cells #[.slice an NN cn,.slice af NF cf,.slice ax NX cx,.slice ap NP cp,.slice aS NS cs] 30)).alloc (.cells #[.slice none 0 0,.slice none 0 0,.slice none 0 0,.slice none 0 0,.slice none 0 0] 30));rw[<- hW0];have hB0:Bq w W0:=by rw[hW0];exact ((Below.refl _ w).alloc (Nat.le_refl _) _).alloc (by simp) _
  have hX0:BX W0 w.heap.size (.slice an NN cn) (.slice af NF cf) (.slice ax NX cx) (.slice ap NP cp) (.slice aS NS cs):=by rw[hW0];exact⟨heap_alloc2_old _ _ _,heap_alloc2_new _ _ _⟩
  refine Calls.mono (HCK.out W0 hB0) ?_;rintro e w1 ⟨rfl,hb1⟩;have HB1:Hid (Bq w w1):=hB0.trans (hb1.mono hB0.size);have hX1:=BX.below hX0 hb1;obtain⟨y0,y1,y2,y3,y4,yf⟩:=j6 hX1.2;have yf0:=yf 0;have yf1:=yf 1;have yf2:=yf 2;have yf3:=yf 3;have yf4:=yf 4;clear hW0 hB0 hX0 hb1 hX1 HCK yf;go_wp2_with fail;(try simp only[Exit.inBlock,Exit.then])
  refine bodyPost_ret (v:=.tuple #[.agg #[.slice none 0 0,.slice none 0 0,.slice none 0 0,.slice none 0 0,.slice none 0 0],.int .i64 K]) ?_ rfl ?_
  . rw[results_cell_tmp rfl];go_simp
  . rw[Bw.out];exact⟨_,rfl,J4.zero _ _,by repeat (first | refine Below.setCell ?_ (by simp) _ | exact HB1.out)⟩
theorem bz2 (an af ax ap aS:Option Addr) (cn cf cx cp cs:Nat) (M:SMach) (i:Int) (w:World) (h:RMach w an af ax ap aS cn cf cx cp cs M) (Ad:FitsM M) (hE:∀W,Bq w W->t8 W) :
 Calls Tryz.prog 14 #[machV an af ax ap aS M cn cf cx cp cs,.int .i64 i] w fun e w'=>∃v,e=.returned (.tuple #[v,.int .i64 (az7 M i).2])/\K8 w' v (az7 M i).1/\Bq w w':=by refine (cl3 an af ax ap aS cn cf cx cp cs M i w h Ad hE).mono ?_;rintro e w' ⟨v,h1,h2,h3⟩;exact⟨v,h1,h2.ans,h3⟩
theorem bI9 (an af ax ap aS:Option Addr) (cn cf cx cp cs:Nat) (M:SMach) (w:World) (h:RMach w an af ax ap aS cn cf cx cp cs M) (Ad:FitsM M) (hE:∀W,Bq w W->t8 W)
 (I:SMach->Prop) (hI:mchk M=0->InvM M.ns M.fs I) (hM:mchk M=0->I M) (k0:Nat) (res:SMach × Int) (Eu:mchk M=0->Fins k0 M res) :
 Calls Tryz.prog 25 #[machV an af ax ap aS M cn cf cx cp cs] w fun e w'=>∃v,e=.returned (.tuple #[v,.int .i64 (finR M res).2])/\K8 w' v (finR M res).1/\Bq w w':=by refine (ap9 an af ax ap aS cn cf cx cp cs M w h Ad hE I hI hM k0 res Eu).mono ?_;rintro e w' ⟨v,h1,h2,h3⟩;exact⟨v,h1,h2.ans,h3⟩
theorem aB5:T0 A5 D5:=at0 I3 (fun f hf=>by simp[D5] at hf;subst hf;decide) (by decide)
theorem ai0:Go.Gs.Reach A5 D5 1 (o7 A5 D5 1):=Go.Gs.Reach.fresh (D7 I3) (by decide) (by decide)
theorem cl4:newS A5 D5 1=(o7 A5 D5 1,0):=by unfold newS;rw[if_neg (by simp[I3]),if_neg (by simp[V9]),if_neg (by decide)]
theorem aW5:(stepS (o7 A5 D5 1) 5).2=8:=by decide
theorem bz3:mchk (o7 A5 D5 1)=0:=ai0.chk I3 V9 aB5
theorem bY2:az7 (o7 A5 D5 1) 5=(H7,8):=by unfold az7;rw[if_neg (by simp[bz3]),if_pos (by rw[aW5];decide),aW5]
theorem bY3:Go.Gs.sunk A5 D5=[48,10,49,10,50,10,51,10]:=by have h:=bY1;rw[aF8 I3 V9] at h;exact congrArg Prod.fst h
end Go.Proofs.YtllgglolcgdehaaGreatDoor
namespace Go.Proofs.YtllgglolcgdehaaGreatDoor
open Go.RowKit Go.Gs
set_option linter.unusedVariables false
theorem bz4 {w:World} {o:Obj} {k:Nat} (h:k=w.heap.size):(w.alloc o).heap[k]? = some o:=by rw[h];exact heap_alloc_new w o
theorem bz5 {W:World} {b m:Nat} {cs:Array Value} {t:TypeId} {ps:List (Int × Int)} (Aj:W.heap[b]? = some (.cells cs t (0,0))) (h1:ps.length=m) (h2:m<=6) (hc:∀(j:Nat) p,ps[j]? = some p->cs[0+j*2]? = some (.int .i64 p.1)/\cs[0+j*2+1]? = some (.int .i64 p.2)):E2 W (.slice (some ⟨b,0,none⟩) ps.length m) ps:=
 ⟨_,_,rfl,by omega,by unfold maxLen;omega,fun _=>⟨_,0,rfl,fun j p hj=>⟨by rw[cell_of_row _ _ _ _ _ _ Aj];exact (hc j p hj).1,by rw[cell_of_row _ _ _ _ _ _ Aj];exact (hc j p hj).2⟩⟩⟩
theorem bm7 {W:World} {b:Nat} {t:TypeId} {a c:Int} (h:W.heap[b]? = some (.cells #[.int .i64 a,.int .i64 c] t (0,0))):E2 W (.slice (some ⟨b,0,none⟩) 1 1) [(a,c)]:=
 bz5 (ps:=[(a,c)]) h rfl (by decide) (fun q p hq=>by
  match q,hq with
  | 0,hq=>injection hq with hq;subst hq;exact⟨rfl,rfl⟩
  | q+1,hq=>cases hq)
def srOs (p:Nat):List Obj:=[.cells #[.slice (some ⟨p+1+1+1+1+1+1+1,0,none⟩) 6 6] 24,.cells #[.int .i64 6,.string ⟨#[]⟩,.int .i64 0] 70,.cells #[.int .i64 0,.int .i64 0] 79,.cells #[.int .i64 1,.int .i64 0] 79,.cells #[.int .i64 1,.int .i64 1] 79,.cells #[.int .i64 2,.int .i64 0,.int .i64 3,.int .i64 0] 79,.cells #[.int .i64 4,.int .i64 0] 79,.cells #[.int .i64 1,.string ⟨#[97]⟩,.int .i64 0,.string ⟨#[]⟩,.int .i64 0,.int .i64 0,.int .i64 0,.slice none 0 0,.int .i64 2,.string ⟨#[]⟩,.int .i64 0,.string ⟨#[]⟩,.int .i64 0,.int .i64 0,.int .i64 2,.slice (some ⟨p+1+1,0,none⟩) 1 1,.int .i64 3,.string ⟨#[]⟩,.int .i64 6,.string ⟨#[]⟩,.int .i64 0,.int .i64 0,.int .i64 0,.slice (some ⟨p+1+1+1,0,none⟩) 1 1,.int .i64 3,.string ⟨#[]⟩,.int .i64 6,.string ⟨#[]⟩,.int .i64 0,.int .i64 0,.int .i64 0,.slice (some ⟨p+1+1+1+1,0,none⟩) 1 1,.int .i64 4,.string ⟨#[]⟩,.int .i64 0,.string ⟨#[]⟩,.int .i64 0,.int .i64 2,.int .i64 0,.slice (some ⟨p+1+1+1+1+1,0,none⟩) 2 2,.int .i64 5,.string ⟨#[98]⟩,.int .i64 0,.string ⟨#[]⟩,.int .i64 0,.int .i64 0,.int .i64 0,.slice (some ⟨p+1+1+1+1+1+1,0,none⟩) 1 1] 73]
theorem bz6 (w:World):A2 (af2 w (srOs w.heap.size)) (.slice (some ⟨w.heap.size+1+1+1+1+1+1+1,0,none⟩) 6 6) A5:=by
 refine⟨_,6,rfl,by decide,by simp[maxLen],fun _=>⟨_,0,rfl,fun j n hj=>?_⟩⟩;have A:=O6 (srOs w.heap.size) w;have c:=fun i=>cell_of_row _ _ i _ _ _ (A 7 _ rfl)
 match j,hj with
 | 0,hj=>injection hj with hj;subst hj;exact⟨_,_,⟨(c _).trans rfl,(c _).trans rfl,(c _).trans rfl,(c _).trans rfl,(c _).trans rfl,(c _).trans rfl,(c _).trans rfl,(c _).trans rfl⟩,⟨none,0,rfl,Nat.le_refl _,by simp[maxLen],fun h=>absurd rfl h⟩⟩
 | 1,hj=>injection hj with hj;subst hj;exact⟨_,_,⟨(c _).trans rfl,(c _).trans rfl,(c _).trans rfl,(c _).trans rfl,(c _).trans rfl,(c _).trans rfl,(c _).trans rfl,(c _).trans rfl⟩,bm7 (A 2 _ rfl)⟩
 | 2,hj=>injection hj with hj;subst hj;exact⟨_,_,⟨(c _).trans rfl,(c _).trans rfl,(c _).trans rfl,(c _).trans rfl,(c _).trans rfl,(c _).trans rfl,(c _).trans rfl,(c _).trans rfl⟩,bm7 (A 3 _ rfl)⟩
 | 3,hj=>injection hj with hj;subst hj;exact⟨_,_,⟨(c _).trans rfl,(c _).trans rfl,(c _).trans rfl,(c _).trans rfl,(c _).trans rfl,(c _).trans rfl,(c _).trans rfl,(c _).trans rfl⟩,bm7 (A 4 _ rfl)⟩
 | 4,hj=>
  injection hj with hj
  subst hj
  refine⟨_,_,⟨(c _).trans rfl,(c _).trans rfl,(c _).trans rfl,(c _).trans rfl,(c _).trans rfl,(c _).trans rfl,(c _).trans rfl,(c _).trans rfl⟩,bz5 (A 5 _ rfl) rfl (by decide) (fun q p hq=>?_)⟩
  match q,hq with
  | 0,hq=>injection hq with hq;subst hq;exact⟨rfl,rfl⟩
  | 1,hq=>injection hq with hq;subst hq;exact⟨rfl,rfl⟩
  | q+2,hq=>cases hq
 | 5,hj=>injection hj with hj;subst hj;exact⟨_,_,⟨(c _).trans rfl,(c _).trans rfl,(c _).trans rfl,(c _).trans rfl,(c _).trans rfl,(c _).trans rfl,(c _).trans rfl,(c _).trans rfl⟩,bm7 (A 6 _ rfl)⟩
 | j+6,hj=>cases hj
theorem bY4 (w:World):Calls Tryz.prog 65 #[] w fun e w'=>∃g,e=.returned (.agg #[.slice (some ⟨g,0,none⟩) 6 6])/\A2 w' (.slice (some ⟨g,0,none⟩) 6 6) A5/\Bq w w':=by
 go_enter Tryz.func65,Tryz.ntmps65;go_wp2_with fail;refine bodyPost_ret (v:=.agg #[.slice (some ⟨w.heap.size+1+1+1+1+1+1+1,0,none⟩) 6 6]) (by simp[results,go_sem]) rfl ⟨_,rfl,?_,?_⟩
 . exact bz6 w
 . exact ad2 (srOs w.heap.size) w
theorem aw1:∀n∈A5,M4 n:=by intro n hn;simp[A5] at hn;rcases hn with rfl | rfl | rfl | rfl | rfl | rfl <;> (refine⟨by decide,by decide,?_⟩;intro p hp;simp at hp;first | (subst hp;exact⟨by decide,by decide⟩) | (rcases hp with rfl | rfl <;> exact⟨by decide,by decide⟩) | skip)
theorem aJ2:∀f∈D5,M3 f:=by intro f hf;simp[D5] at hf;subst hf;show _<=_;decide
theorem bY5 (w:World):j9 ((w.alloc (.cells #[.int .u8 51,.int .u8 10,.int .u8 49,.int .u8 10,.int .u8 50,.int .u8 10,.int .u8 48] 5 (7,8))).alloc (.cells #[.string ⟨#[97]⟩,.slice (some ⟨w.heap.size,0,none⟩) 7 7] 83)) (.slice (some ⟨w.heap.size+1,0,none⟩) 1 1) D5:=by
 have h1:=bz4 (w:=w.alloc (.cells #[.int .u8 51,.int .u8 10,.int .u8 49,.int .u8 10,.int .u8 50,.int .u8 10,.int .u8 48] 5 (7,8))) (o:=.cells #[.string ⟨#[97]⟩,.slice (some ⟨w.heap.size,0,none⟩) 7 7] 83) (k:=w.heap.size+1) (by simp);refine⟨_,1,rfl,by decide,by simp[maxLen],fun _=>⟨_,0,rfl,fun j f hj=>?_⟩⟩
 match j,hj with
 | 0,hj=>
  injection hj with hj
  subst hj
  refine⟨_,(cell_of_row _ _ _ _ _ _ h1).trans rfl,(cell_of_row _ _ _ _ _ _ h1).trans rfl,?_⟩
  have h2:=aG6 w #[.int .u8 51,.int .u8 10,.int .u8 49,.int .u8 10,.int .u8 50,.int .u8 10,.int .u8 48] 5 (7,8) 7 rfl (by omega)
  exact h2.below b9
 | j+1,hj=>cases hj
end Go.Proofs.YtllgglolcgdehaaGreatDoor
namespace Go.Proofs.YtllgglolcgdehaaGreatDoor
open Go.RowKit Go.Gs Go.Maps
set_option linter.unusedVariables false
theorem aj8 (w:World) (hE:t8 w):Calls Tryz.prog 17 #[] w fun e w'=>e=.returned (.bool true)/\Bq w w':=by
 have HE:=qH hE;clear hE;go_enter Tryz.func17,Tryz.ntmps17;go_wp2_with fail;refine (bY4 w).mono ?_;rintro e w1 ⟨g,rfl,hr1,hb1⟩;have HR1:=qH hr1;have HB1:=qH hb1;have kc:=fun (w:World) (C:Array Value) (n c:Nat)=>Lib.run_convert_bytes_const (P:=Tryz.prog) w 28 5 C n c Tryz.underlying28 Tryz.underlying5;have kc2:=fun (C:Array Value) (n c:Nat)=>kc w1 C n c;clear hr1 hb1;go_wp2_with fail;have hfr:=bY5 w1;have hX:Bq w1 ((w1.alloc (.cells #[.int .u8 51,.int .u8 10,.int .u8 49,.int .u8 10,.int .u8 50,.int .u8 10,.int .u8 48] 5 (7,8))).alloc (.cells #[.string ⟨#[97]⟩,.slice (some ⟨w1.heap.size,0,none⟩) 7 7] 83)):=b9.trans (b9.mono (by simp));have hQ:=aF4 (some ⟨g,0,none⟩) (some ⟨w1.heap.size+1,0,none⟩) 6 1 A5 D5 1 _ (HR1.out.below hX) hfr aw1 aJ2;rw[cl4] at hQ;refine Calls.mono hQ ?_;rintro e w2 ⟨v,rfl,hA2,hb2⟩
 have hX2:Bq w1 w2:=hX.trans (hb2.mono hX.size);have HB2:Hid (Bq w w2):=HB1.out.trans (hX2.mono HB1.out.size);obtain⟨an,af,ax,ap,aS,cn,cf,cx,cp,cs,rfl,hM2⟩:=hA2;clear hfr hX hX2 hQ hb2 kc kc2 HR1 HB1
 have HS:Hid (∀W,Bq w2 W->Calls Tryz.prog 14 #[machV an af ax ap aS (o7 A5 D5 1) cn cf cx cp cs,.int .i64 5] W fun e w'=>∃v,e=.returned (.tuple #[v,.int .i64 8])/\K8 w' v H7/\Bq W w'):=(show ∀W,_ from fun W hW=>by
  have hS:=bz2 an af ax ap aS cn cf cx cp cs (o7 A5 D5 1) 5 W (hM2.below hW) (U0 I3 V9 aw1 aJ2 ai0) (fun V hV=>HE.out.below ((HB2.out.trans (hW.mono HB2.out.size)).trans (hV.mono (by have:=HB2.out.size;have:=hW.size;omega))))
  rw[bY2] at hS
  exact hS)
 have HF:Hid (∀W,Bq w2 W->Calls Tryz.prog 25 #[machV an af ax ap aS (o7 A5 D5 1) cn cf cx cp cs] W fun e w'=>∃v r,e=.returned (.tuple #[v,.int .i64 0])/\K8 w' v r/\r.sunk=[48,10,49,10,50,10,51,10]/\Bq W w'):=(show ∀W,_ from fun W hW=>by
  obtain⟨k,r,hF,ho,hr,hs⟩:=ax9 I3 V9 aB5 (by decide) ai0
  rw[bY3] at hs
  have hS:=bI9 an af ax ap aS cn cf cx cp cs (o7 A5 D5 1) W (hM2.below hW) (U0 I3 V9 aw1 aJ2 ai0) (fun V hV=>HE.out.below ((HB2.out.trans (hW.mono HB2.out.size)).trans (hV.mono (by have:=HB2.out.size;have:=hW.size;omega)))) (Go.Gs.Reach A5 D5 1) (fun _=>ac8 I3 V9 aB5) (fun _=>ai0) k (r,0) (fun _=>hF)
  rw[show finR (o7 A5 D5 1) (r,0)=(r,0) from by unfold finR;rw[if_neg (by simp[bz3])]] at hS
  refine hS.mono ?_
  rintro e w' ⟨v,h1,h2,h3⟩
  exact⟨v,r,h1,h2,hs,h3⟩)
 clear hM2 HE;unfold machV at HS HF ⊢;generalize (o7 A5 D5 1).ns.length=NN at *;generalize (o7 A5 D5 1).fs.length=NF at *;generalize (o7 A5 D5 1).pipes.length=NX at *;generalize (o7 A5 D5 1).ps.length=NP at *;generalize (o7 A5 D5 1).sunk.length=NS at *;go_wp2_with fail;refine Calls.mono (HS.out _ b9) ?_;rintro e w3 ⟨v,rfl,hA3,hb3⟩;have Fv:Bq w2 w3:=Below.trans (b9 (w:=w2)) (hb3.mono (by simp));have hx3:=(hb3.block w2.heap.size (by simp)).trans (heap_alloc_new w2 (.cells #[.slice an NN cn,.slice af NF cf,.slice ax NX cx,.slice ap NP cp,.slice aS NS cs] 30));obtain⟨an3,af3,ax3,ap3,aS3,cn3,cf3,cx3,cp3,cs3,rfl,hM3⟩:=hA3;obtain⟨x0,x1,x2,x3,x4,_⟩:=j6 hx3;have HB3:Hid (Bq w w3):=HB2.out.trans (Fv.mono HB2.out.size);have Jn:=qH Fv;clear hM3 hb3 Fv HS;unfold machV;generalize H7.ns.length=NN3 at *
 generalize H7.fs.length=NF3 at *;generalize H7.pipes.length=NX3 at *;generalize H7.ps.length=NP3 at *;generalize H7.sunk.length=NS3 at *;have hlt3:w2.heap.size<w3.heap.size:=(aSm hx3).1;have hne3:w2.heap.size≠w3.heap.size:=by omega
 clear hx3;go_wp2_with fail;refine Calls.mono (HF.out _ (Jn.out.trans ((b9 (w:=w3)).mono Jn.out.size))) ?_;rintro e w4 ⟨v,r,rfl,hA4,hs4,hb4⟩;have HB4:Hid (Bq w w4):=HB3.out.trans ((Below.trans (b9 (w:=w3)) (hb4.mono (by simp))).mono HB3.out.size);obtain⟨an4,af4,ax4,ap4,aS4,cn4,cf4,cx4,cp4,cs4,rfl,hM4⟩:=hA4;have hrd:=hM4.sunk;rw[hs4] at hrd;have k1:∀o,_:=fun o=>ag0 (bs:=[48,10,49,10,50,10,51,10]) (hrd.below (b9 (o:=o)));simp only[List.length_cons,List.length_nil,Nat.zero_add,Nat.reduceAdd] at k1;unfold machV;have hS8:r.sunk.length=8:=by rw[hs4];rfl
 rw[hS8];generalize r.ns.length=NN4 at *;generalize r.fs.length=NF4 at *;generalize r.pipes.length=NX4 at *;generalize r.ps.length=NP4 at *;clear hM4 hb4 HF hrd hs4 hS8 x0 x1 x2 x3 x4 hlt3 hne3 Jn HB2 HB3;go_wp2_with fail;go_ret;exact⟨rfl,HB4.out.trans ((b9 (w:=w4)).mono HB4.out.size)⟩
end Go.Proofs.YtllgglolcgdehaaGreatDoor
