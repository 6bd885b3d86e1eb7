/- What the developers' add of a draft does, and more. -/
import Derived.Test.YtllgglolcgdehaaGreatDoorXa11
set_option maxRecDepth 100000
set_option maxHeartbeats 16000000
namespace Go.Proofs.YtllgglolcgdehaaGreatDoor
open Go.RowKit Go.Gs
set_option linter.unusedVariables false
theorem infoPortO:(Tryz.prog.info? 79).map (fun i=>(i.zero,i.size,i.bytes))=some (some (.agg #[.int .i64 0,.int .i64 0]),2,16):=by kernel_rfl
theorem infoNodeO:(Tryz.prog.info? 73).map (fun i=>(i.zero,i.size,i.bytes))=some (some (.agg #[.int .i64 0,.string ⟨#[]⟩,.int .i64 0,.string ⟨#[]⟩,.int .i64 0,.int .i64 0,.int .i64 0,.slice none 0 0]),8,96):=by kernel_rfl
def pCells (ps:List (Int × Int)):List Value:=(ps.map fun p=>[.int .i64 p.1,.int .i64 p.2]).flatten
theorem pCells_length (ps:List (Int × Int)):(pCells ps).length=ps.length*2:=by
 induction ps with
 | nil=>rfl
 | cons p r ih=>
  have:pCells (p::r)=[.int .i64 p.1,.int .i64 p.2]++pCells r:=rfl
  rw[this,List.length_append,ih]
  simp;omega
theorem pCells_at:∀(ps:List (Int × Int)) (j:Nat) (p:Int × Int),ps[j]? = some p->(pCells ps)[j*2]? = some (.int .i64 p.1)/\(pCells ps)[j*2+1]? = some (.int .i64 p.2)
 | [],j,p,h=>by simp at h
 | d::l,0,p,h=>by simp at h;subst h;exact⟨rfl,rfl⟩
 | d::l,j+1,p,h=>by
  have ih:=pCells_at l j p (by simpa using h)
  have e:pCells (d::l)=[.int .i64 d.1,.int .i64 d.2]++pCells l:=rfl
  rw[e]
  refine⟨?_,?_⟩
  . rw[List.getElem?_append_right (by simp;omega)];simpa[show (j+1)*2-2=j*2 by omega] using ih.1
  . rw[List.getElem?_append_right (by simp;omega)];simpa[show (j+1)*2+1-2=j*2+1 by omega] using ih.2
def AddEnd (w:World) (B D:Nat) (X:Nat->Prop) (v vo:Value) (rows:List NRow) (r:NRow) (k:Nat) (e:Ending) (w':World):Prop:=
 ∃v' b,e=.returned (.slice (some ⟨b,0,none⟩) k k)/\w'.heap[D]? = some (.cells #[v',vo] 144 (0,0))/\NO w' B D X 73 v' (rows++[r])/\w.heap.size<=b/\v'.ownBlock≠some b /\
  w'.heap[b]? = some (.cells (pCells (newPorts rows.length k)).toArray 79 (0,0))/\Kept D v.ownBlock noX w w'/\Nxt w v.ownBlock v'.ownBlock
theorem newPorts_succ (m k:Nat):pCells (newPorts m (k+1))=pCells (newPorts m k)++[.int .i64 (m:Int),.int .i64 (k:Int)]:=by
 simp[pCells,newPorts,List.range_succ]
theorem set_two (cs:List Value) (j:Nat) (a b:Value) (h:j+1<cs.length):((cs.set j a).set (j+1) b).take (j+2)=cs.take j++[a,b]:=by
 apply List.ext_getElem?
 intro i
 rw[List.getElem?_take]
 by_cases h1:i<j
 . rw[if_pos (by omega),List.getElem?_set_ne (by omega),List.getElem?_set_ne (by omega),List.getElem?_append_left (by simp;omega),List.getElem?_take,if_pos h1]
 .
  by_cases h2:i=j
  . subst h2
    rw[if_pos (by omega),List.getElem?_set_ne (by omega),List.getElem?_set_self (by omega),List.getElem?_append_right (by simp;omega)]
    simp[Nat.min_eq_left (by omega:i<=cs.length)]
  .
   by_cases h3:i=j+1
   . subst h3
     rw[if_pos (by omega),List.getElem?_set_self (by simp;omega),List.getElem?_append_right (by simp;omega)]
     simp[Nat.min_eq_left (by omega:j<=cs.length)]
   . rw[if_neg (by omega),List.getElem?_eq_none]
     simp
     omega
def PAt (w wr:World) (G N m k:Nat):Prop:=∃cs:List Value,wr.heap[G]? = some (.cells cs.toArray 79 (0,0))/\cs.length=N*2/\cs.take (k*2)=pCells (newPorts m k)/\(∀j,j<N*2 -> ∃x,cs[j]? = some (.int .i64 x))/\Below w.heap.size w wr
theorem PAt.start {w w3:World} {N m:Nat} (ho:w3.ownsRow w.heap.size 79 2 (.slice (some ⟨w.heap.size,0,none⟩) N N) N (madeCells (Value.agg #[.int .i64 0,.int .i64 0]).cells (N*2)).toList) (hg:w.grownBy w3 none):PAt w w3 w.heap.size N m 0/\w.heap.size<w3.heap.size:=by
 obtain⟨h1,h2 | ⟨g,cap,cur,h2,h3,h4,h5,h6,h7,h8⟩⟩:=ho
 . cases h2.1
 .
  injection h2 with e1 e2 e3
  injection e1 with e1
  injection e1 with e1
  subst e1 e3
  have hx:cur.toList=(madeCells (Value.agg #[.int .i64 0,.int .i64 0]).cells (N*2)).toList:=by
   rw[<- h8,List.take_of_length_le (by simp[h7])]
  have hlt:w.heap.size<w3.heap.size:=by
   rcases Nat.lt_or_ge w.heap.size w3.heap.size with h | h
   . exact h
   . rw[Array.getElem?_eq_none h] at h4;cases h4
  refine⟨⟨cur.toList,by rw[h4],by rw[hx,h1],by simp[pCells,newPorts],fun j hj=>⟨0,?_⟩,below_grownO hg (Nat.le_refl _)⟩,hlt⟩
  rw[hx,Array.getElem?_toList]
  unfold madeCells
  rw[Array.getElem?_map,Array.getElem?_range]
  have hm:j % 2=0\/j % 2=1:=by omega
  rcases hm with hm | hm <;> simp[hj,Value.cells,hm]
theorem PAt.cells {w wr:World} {G N m k:Nat} (h:PAt w wr G N m k) (hk:k<N):∃x y,wr.cell? ⟨G,k*2,none⟩=some (.int .i64 x)/\wr.cell? ⟨G,k*2+1,none⟩=some (.int .i64 y)/\wr.frozen? ⟨G,k*2,none⟩=false/\wr.frozen? ⟨G,k*2+1,none⟩=false:=by
 obtain⟨cs,h1,h2,h3,h4,h5⟩:=h
 obtain⟨x,hx⟩:=h4 (k*2) (by omega)
 obtain⟨y,hy⟩:=h4 (k*2+1) (by omega)
 exact⟨x,y,by rw[cell_of_row _ _ _ _ _ _ h1];simpa using hx,by rw[cell_of_row _ _ _ _ _ _ h1];simpa using hy,frozen_of_row _ _ _ _ _ h1,frozen_of_row _ _ _ _ _ h1⟩
theorem PAt.step {w wr:World} {G N m k:Nat} (h:PAt w wr G N m k) (hk:k<N) (hG:w.heap.size<=G):PAt w ((wr.setCell ⟨G,k*2,none⟩ (.int .i64 (m:Int))).setCell ⟨G,k*2+1,none⟩ (.int .i64 (k:Int))) G N m (k+1):=by
 obtain⟨cs,h1,h2,h3,h4,h5⟩:=h
 have e1:(wr.setCell ⟨G,k*2,none⟩ (.int .i64 (m:Int))).heap[G]? = some (.cells (cs.set (k*2) (.int .i64 (m:Int))).toArray 79 (0,0)):=by
  rw[heap_setCell_same _ _ _ _ _ _ h1];simp
 refine⟨(cs.set (k*2) (.int .i64 (m:Int))).set (k*2+1) (.int .i64 (k:Int)),by rw[heap_setCell_same _ _ _ _ _ _ e1];simp,by simp[h2],?_,fun j hj=>?_,(h5.setCell hG _).setCell hG _⟩
 . rw[show (k+1)*2=k*2+2 by omega,set_two cs (k*2) _ _ (by omega),h3,newPorts_succ]
 .
  obtain⟨x,hx⟩:=h4 j hj
  by_cases e:j=k*2+1
  . exact⟨_,by rw[e,List.getElem?_set_self (by simp;omega)]⟩
  . rw[List.getElem?_set_ne (by omega)]
    by_cases e':j=k*2
    . exact⟨_,by rw[e',List.getElem?_set_self (by omega)]⟩
    . exact⟨x,by rw[List.getElem?_set_ne (by omega)];exact hx⟩
theorem PAt.done {w wr:World} {G N m k:Nat} (h:PAt w wr G N m k) (hk:k=N):wr.heap[G]? = some (.cells (pCells (newPorts m N)).toArray 79 (0,0)):=by
 subst hk
 obtain⟨cs,h1,h2,h3,h4,h5⟩:=h
 rw[List.take_of_length_le (by omega)] at h3
 rw[h1,h3]
theorem cells_newO (w:World) (cs:List Value) (t:TypeId):∀j u,cs[j]? = some u->(w.alloc (.cells cs.toArray t)).cell? ((⟨w.heap.size,0,none⟩:Addr).add j)=some u:=by
 intro j u hj
 have e:((⟨w.heap.size,0,none⟩:Addr).add j)=⟨w.heap.size,j,none⟩:=by
  simp[Addr.add]
  try omega
 rw[e,cell_of_row _ _ _ _ _ _ (heap_alloc_new w _)]
 simpa using hj
theorem add_fin {w w2 wr W w':World} {B D:Nat} {X:Nat->Prop} {v vo v':Value} {rows:List NRow} {r:NRow} {k:Nat} (HD:w.heap[D]? = some (.cells #[v,vo] 144 (0,0))) (hN:NO w B D X 73 v rows) (hP:POff w D v.ownBlock X r.2.1 r.2.2 r.1.ins)
 (h2:w.heap.size<=w2.heap.size) (hw2:w2.heap.size<wr.heap.size) (hbr:Below w.heap.size w wr) (hbW:Below wr.heap.size wr W) (hp:wr.heap[w2.heap.size]? = some (.cells (pCells (newPorts rows.length k)).toArray 79 (0,0)))
 (hown:w'.ownsRow B 73 8 v' (rows.length+1) (nodeCells rows++encN r)) (hg:W.grownBy w' v.ownBlock) (hl:v'.ownBlock=v.ownBlock\/v'.ownBlock=some W.heap.size) :
 AddEnd w B D X v vo rows r k (.returned (.slice (some ⟨w2.heap.size,0,none⟩) k k)) (w'.setCell ⟨D,0,none⟩ v'):=by
 have hbw:Below w.heap.size w W:=hbr.trans (hbW.mono hbr.size)
 have hDl:D<w.heap.size:=by
  rcases Nat.lt_or_ge D w.heap.size with h | h
  . exact h
  . rw[Array.getElem?_eq_none h] at HD;cases HD
 have hNW:=hN.below hbw
 have hPW:POff W D v.ownBlock X r.2.1 r.2.2 r.1.ins:=hP.keep (Kept.of_below hbw) (Nxt.refl _ _) (NxtX.refl _ _)
 obtain⟨q1,q2,q3⟩:=hNW.app hPW (Nat.lt_of_lt_of_le hDl hbw.size) hown hg hl
 have hWs:=hbW.size
 have hDW:w'.heap[D]? = some (.cells #[v,vo] 144 (0,0)):=by
  rw[hg.block D (by have:=hbw.size;omega) (fun e=>hN.off e.symm),hbw.block D hDl];exact HD
 have hne:v'.ownBlock≠some w2.heap.size:=by
  rcases hl with e | e
  . rw[e];intro e2;have:=(hN.base _ e2).2;omega
  . rw[e];intro e2;injection e2 with e2;omega
 refine⟨v',_,rfl,?_,q1.set rfl,h2,hne,?_,?_,?_⟩
 . rw[heap_setCell_same _ _ _ _ _ _ hDW];simp
 . rw[Below.heap_setCell _ _ _ _ (by simp;omega),hg.block _ (by omega) (fun e=>by have:=(hN.base _ e.symm).2;omega),hbW.block _ hw2]
   exact hp
 . refine Kept.set ?_ rfl
   exact (Kept.of_below hbw).trans q2 (Nxt.refl _ _) (NxtX.refl _ _)
 . rcases q3 with e | ⟨g,e,hg'⟩
   . exact .inl e
   . exact .inr ⟨g,e,by have:=hbw.size;omega⟩
theorem add_is (n:SNode) (ai:Option Addr) (ci D B:Nat) (X:Nat->Prop) (v vo:Value) (rows:List NRow) (w:World) (k:Nat) (hk:nouts n=(k:Int)) (h5:k<=5)
 (hD:w.heap[D]? = some (.cells #[v,vo] 144 (0,0))) (hN:NO w B D X 73 v rows) (hP:POff w D v.ownBlock X ai ci n.ins) (hl:rows.length<=60) (hB:B<=D) (hBw:B<=w.heap.size) :
 Calls Tryz.prog 90 #[.pointer (some ⟨D,0,none⟩),nodeV n ai n.ins.length ci] w fun e w'=>AddEnd w B D X v vo rows (n,ai,ci) k e w':=by
 have HO:Hid _:=fun (W:World)=>outs_is n ai n.ins.length ci W
 have HNO:Hid (NO w B D X 73 v rows):=hN
 have HPO:Hid (POff w D v.ownBlock X ai ci n.ins):=hP
 have HD:Hid (w.heap[D]? = some (.cells #[v,vo] 144 (0,0))):=hD
 obtain⟨av,cv,rfl,hv1,hv2⟩:=hN.form
 have hcD0:w.cell? ⟨D,0,none⟩=some (.slice av rows.length cv):=by rw[cell_of_row _ _ _ _ _ _ hD];rfl
 have hDl:D<w.heap.size:=bLt w _ hcD0
 have HC0:Hid _:=hcD0
 obtain⟨i1,hi',hy0,hy1,hy2⟩:=info_parts infoPortO
 have hb4:i1.bytes*k<=281474976710656:=by rw[hy2];omega
 have hb5:k<=maxLen:=by unfold maxLen;omega
 rw[hk] at HO
 unfold nodeV at HO ⊢
 have HER:Hid (encN (n,ai,ci)=[.int .i64 n.kind,.string ⟨n.file.toArray⟩,.int .i64 n.c.kind,.string ⟨n.c.word.toArray⟩,.int .i64 n.c.n,.int .i64 n.how,.int .i64 n.wide,.slice ai n.ins.length ci]):=(show _=_ from rfl)
 obtain⟨r,hr⟩:∃r:NRow,r=(n,ai,ci):=⟨_,rfl⟩
 rw[<- hr] at HER ⊢
 have HPO':Hid (POff w D (Value.slice av rows.length cv).ownBlock X r.2.1 r.2.2 r.1.ins):=by rw[hr];exact HPO
 clear hP HPO hr hk hN hD hcD0
 generalize n.kind=nk at *
 generalize (⟨n.file.toArray⟩:ByteArray)=fx at *
 generalize n.c.kind=ck at *
 generalize (⟨n.c.word.toArray⟩:ByteArray)=wx at *
 generalize n.c.n=cn at *
 generalize n.how=hw at *
 generalize n.wide=wd at *
 generalize n.ins.length=ni at *
 obtain⟨NR,hNR⟩:∃N,N=rows.length:=⟨_,rfl⟩
 have HNR:Hid (NR=rows.length):=hNR
 rw[<- hNR] at hl hv1 HC0 HD HNO HPO' ⊢
 clear hNR
 go_enter Tryz.func90,Tryz.ntmps90
 go_wp2_with fail
 refine Calls.mono (HO.out _) ?_
 rintro e w2 ⟨rfl,hb2⟩
 have hbx:Below w.heap.size w w2:=box_of.trans (hb2.mono (by simp))
 have HB2:Hid (Below w.heap.size w w2):=hbx
 have HN8:Hid (w2.heap[w.heap.size]? = some (.cells #[.int .i64 nk,.string fx,.int .i64 ck,.string wx,.int .i64 cn,.int .i64 hw,.int .i64 wd,.slice ai ni ci] 73 (0,0))):=(show _=_ by rw[hb2.block _ (by simp)];exact heap_alloc_new w _)
 have hs2:w.heap.size<w2.heap.size:=by have:=hb2.size;simp at this;omega
 clear hb2 HO hbx
 go_wp2_with (at_make;refine wpList_make_full _ rfl (.tmp 8) (.tmp 8) 71 rfl w2.heap.size 79 i1 (.agg #[.int .i64 0,.int .i64 0]) 2 Tryz.underlying71 hi' hy0 hy1 .i64 .i64 _ _ k rfl rfl rfl rfl hb4 hb5 (Nat.le_refl _) ?_)
 intro w3 hout3 hgrow3
 obtain⟨hp3,hs3⟩:=PAt.start (m:=NR) hout3 hgrow3
 have HP3:Hid (PAt w2 w3 w2.heap.size k NR 0):=hp3
 clear hout3 hgrow3 hp3
 go_wp2_with fail
 go_loopw [12] (fun i wr=>∃j:Nat,j<=k/\i=.int .i64 j/\Hid (PAt w2 wr w2.heap.size k NR j)) (fun i _=>k-(intOf i).toNat)
 case atStart=>exact⟨0,Nat.zero_le _,rfl,HP3.out⟩
 case round=>
  obtain⟨j,hjk,rfl,hrel⟩:=hrel
  have HBr:Hid (Below w2.heap.size w2 wr):=by obtain⟨cs,_,_,_,_,h5⟩:=hrel.out;exact h5
  have HBw:Hid (Below w.heap.size w wr):=HB2.out.trans (HBr.out.mono HB2.out.size)
  have hc0:=(HBw.out.cell (bLt w _ HC0.out)).trans HC0.out
  by_cases hlt:j<k
  . obtain⟨x,y,q1,q2,q3,q4⟩:=hrel.out.cells hlt
    have HST:Hid _:=hrel.out.step hlt (Nat.le_refl _)
    clear hrel
    go_wp2_with fail
    exact⟨⟨j+1,by omega,by go_num,HST.out⟩,by simp[intOf];omega⟩
  .
   have hjk':j=k:=by omega
   have HPD:Hid (wr.heap[w2.heap.size]? = some (.cells (pCells (newPorts NR k)).toArray 79 (0,0))):=hrel.out.done hjk'
   have hw2r:w2.heap.size<wr.heap.size:=by
    have:=HPD.out
    rcases Nat.lt_or_ge w2.heap.size wr.heap.size with h | h
    . exact h
    . rw[Array.getElem?_eq_none h] at this;cases this
   have hn8:wr.heap[w.heap.size]? = some (.cells #[.int .i64 nk,.string fx,.int .i64 ck,.string wx,.int .i64 cn,.int .i64 hw,.int .i64 wd,.slice ai ni ci] 73 (0,0)):=(HBr.out.block _ hs2).trans HN8.out
   have n8:∀i:Nat,wr.cell? ⟨w.heap.size,i,none⟩=#[.int .i64 nk,.string fx,.int .i64 ck,.string wx,.int .i64 cn,.int .i64 hw,.int .i64 wd,.slice ai ni ci][i]?:=fun i=>cell_of_row _ _ _ _ _ _ hn8
   have c0:=n8 0
   have c1:=n8 1
   have c2:=n8 2
   have c3:=n8 3
   have c4:=n8 4
   have c5:=n8 5
   have c6:=n8 6
   have c7:=n8 7
   simp at c0 c1 c2 c3 c4 c5 c6 c7
   have hc0q:∀q,(wr.alloc q).cell? ⟨D,0,none⟩=some (.slice av NR cv):=fun q=>(box_of.cell (bLt wr _ hc0)).trans hc0
   obtain⟨i2,hj',hz0,hz1,hz2⟩:=info_parts infoNodeO
   have HOW:Hid _:=fun (W:World) (hb:Below wr.heap.size wr W)=>(HNO.out.below (HBw.out.trans (hb.mono HBw.out.size))).own
   rw[<- HNR.out] at HOW
   have hfD:∀w':World,w'.heap[D]? = some (.cells #[.slice av NR cv,vo] 144 (0,0))->w'.cell? ⟨D,0,none⟩=some (.slice av NR cv)/\w'.frozen? ⟨D,0,none⟩=false:=fun w' h=>⟨by rw[cell_of_row _ _ _ _ _ _ h];rfl,frozen_of_row _ _ _ _ _ h⟩
   clear hrel n8 hn8
   go_upto_region 7 with fail
   have HDW:Hid _:=fun (W w':World) (hb:Below wr.heap.size wr W) (hg:W.grownBy w' (Value.slice av NR cv).ownBlock)=>hfD w' (by
    have hbw:=HBw.out.trans (hb.mono HBw.out.size)
    rw[hg.block D (by have:=hbw.size;omega) (fun e=>HNO.out.off e.symm),hbw.block D hDl];exact HD.out)
   clear hfD
   go_region_law (refine step_append_ownO rfl (.tmp 30) (.tmp 32) 22 rfl B 73 i2 _ 8 96 Tryz.underlying22 hj' hz0 hz1 hz2 rfl (by omega) (.slice av NR cv) NR (nodeCells rows) (by simp[Act.eval]) (HOW.out _ (by first | exact box_of | exact box_of.drew)) ⟨wr.heap.size,0,none⟩ 1 1 (encN r) (by simp[Act.eval]) (by rw[HER.out];rfl) (by rw[HER.out];exact cells_newO _ _ _) (encN_one r) (by unfold maxLen;omega) (by omega) (by have:=HBw.out.size;simp;omega) ?_;intro v4 w4 ow4 gr4 nn4 bl4;obtain⟨d0,f0⟩:=HDW.out _ _ (by first | exact box_of | exact box_of.drew) gr4;obtain⟨a4,c4,rfl,_,_⟩:=owns_formO ow4)
   all_goals
    have HF:Hid (AddEnd w B D X (.slice av NR cv) vo rows r k (.returned (.slice (some ⟨w2.heap.size,0,none⟩) k k)) (w4.setCell ⟨D,0,none⟩ (.slice a4 (NR+1) c4))):=
     add_fin HD.out HNO.out HPO'.out (by omega) hw2r HBw.out (by first | exact box_of | exact box_of.drew) (by rw[<- HNR.out];exact HPD.out) (by rw[<- HNR.out];exact ow4) gr4 bl4
    clear ow4 gr4 nn4 bl4 d0 f0 HDW HOW
    go_wp2_with fail
    go_ret
    exact HF.out
theorem lchk_many {x:SLine} (h:x.fr.length<1\/4<x.fr.length\/6<x.cs.length):lchk x=2:=by unfold lchk;rw[if_pos h]
theorem lchk_from {x:SLine} (h:¬(x.fr.length<1\/4<x.fr.length\/6<x.cs.length)) {k:Nat} {s:List UInt8} (hk:x.fr[k]? = some s) (hs:isWord s=false):lchk x=1:=by
 unfold lchk
 rw[if_neg h,if_pos]
 rw[List.all_eq_false]
 exact⟨s,mGt hk,by simp[hs]⟩
theorem lchk_to {x:SLine} (h:¬(x.fr.length<1\/4<x.fr.length\/6<x.cs.length)) (hf:x.fr.all isWord=true) (hs:isWord x.tu=false):lchk x=1:=by
 unfold lchk
 rw[if_neg h,if_neg (by simp[hf]),if_pos hs]
theorem lchk_do {x:SLine} (h:¬(x.fr.length<1\/4<x.fr.length\/6<x.cs.length)) (hf:x.fr.all isWord=true) (hs:isWord x.tu=true):lchk x=firstBad (x.cs.map chk):=by
 unfold lchk
 rw[if_neg h,if_neg (by simp[hf]),if_neg (by simp[hs])]
theorem firstBad_at {α:Type} {f:α->Int}:∀{cs:List α} {k:Nat} {c:α},cs[k]? = some c->(∀d∈cs.take k,f d=0)->f c≠0->firstBad (cs.map f)=f c
 | [],k,c,h,_,_=>by simp at h
 | d::r,0,c,h,_,hc=>by
  simp at h;subst h
  rw[List.map_cons,firstBad,if_neg hc]
 | d::r,k+1,c,h,ha,hc=>by
  rw[List.map_cons,firstBad,if_pos (ha d (by simp))]
  exact firstBad_at (k:=k) (by simpa using h) (fun e he=>ha e (by simp[he])) hc
theorem firstBad_none {α:Type} {f:α->Int}:∀{cs:List α},(∀d∈cs,f d=0)->firstBad (cs.map f)=0
 | [],_=>rfl
 | d::r,h=>by
  rw[List.map_cons,firstBad,if_pos (h d (by simp))]
  exact firstBad_none (fun e he=>h e (by simp[he]))
theorem take_all {α:Type} {p:α->Prop} {l:List α} {k:Nat} {c:α} (hl:l[k]? = some c) (h:∀x∈l.take k,p x) (hc:p c):∀x∈l.take (k+1),p x:=by
 intro x hx
 rw[List.take_add_one,hl] at hx
 simp only[Option.toList_some,List.mem_append,List.mem_singleton] at hx
 rcases hx with hx | rfl
 . exact h x hx
 . exact hc
theorem checkLine_many (x:SLine) (af ad:Option Addr) (NF ND cf cd:Nat) (sx:ByteArray) (w:World) (h:NF<1\/4<NF\/6<ND) (hm1:NF<=maxLen) (hm2:ND<=maxLen) :
 Calls Tryz.prog 89 #[.agg #[.slice af NF cf,.slice ad ND cd,.string sx]] w fun e w'=>e=.returned (.int .i64 2)/\Below w.heap.size w w':=by
 unfold maxLen at hm1 hm2
 by_cases h1:NF<1
 .
  obtain rfl:NF=0:=by omega
  go_enter Tryz.func89,Tryz.ntmps89
  go_wp2_with fail
  go_ret
  exact⟨rfl,box_of⟩
 .
  by_cases h2:4<NF
  .
   have h1':¬((NF:Int)<1):=by omega
   have h2':(4:Int)<NF:=by omega
   clear h
   go_enter Tryz.func89,Tryz.ntmps89
   go_wp2_with fail
   go_ret
   exact⟨rfl,box_of⟩
  .
   have h1':¬((NF:Int)<1):=by omega
   have h2':¬(4:Int)<NF:=by omega
   have h3':(6:Int)<ND:=by omega
   clear h
   go_enter Tryz.func89,Tryz.ntmps89
   go_wp2_with fail
   go_ret
   exact⟨rfl,box_of⟩
theorem checkLine_is (x:SLine) (af ad:Option Addr) (cf cd:Nat) (w:World) (hf:Reads w (.slice af x.fr.length cf) x.fr.length (x.fr.map S)) (hd:RCmds w (.slice ad x.cs.length cd) x.cs) (hfit:FitsL x) :
 Calls Tryz.prog 89 #[.agg #[.slice af x.fr.length cf,.slice ad x.cs.length cd,.string ⟨x.tu.toArray⟩]] w fun e w'=>e=.returned (.int .i64 (lchk x))/\Below w.heap.size w w':=by
 by_cases hm:x.fr.length<1\/4<x.fr.length\/6<x.cs.length
 . rw[lchk_many hm]
   obtain⟨_,_,e1,a1,a2⟩:=hf.shape
   obtain⟨_,_,e2,b1,b2⟩:=hd.shape
   exact checkLine_many x af ad _ _ cf cd _ w hm (by omega) (by omega)
 .
  have HF:Hid (Reads w (.slice af x.fr.length cf) x.fr.length (x.fr.map S)):=hf
  have HD:Hid (RCmds w (.slice ad x.cs.length cd) x.cs):=hd
  have HM:Hid _:=hm
  have HFit:Hid _:=hfit
  obtain⟨NF,hNF⟩:∃N,N=x.fr.length:=⟨_,rfl⟩
  obtain⟨ND,hND⟩:∃N,N=x.cs.length:=⟨_,rfl⟩
  have HNF:Hid (NF=x.fr.length):=hNF
  have HND:Hid (ND=x.cs.length):=hND
  have h1:1<=NF:=by omega
  have h2:NF<=4:=by omega
  have h3:ND<=6:=by omega
  have hWt:=fun W=>word_is x.tu W hfit.2.2
  rw[<- hNF,<- hND]
  rw[<- hNF] at HF
  rw[<- hND] at HD
  obtain⟨sx,hsx⟩:∃sx:ByteArray,sx=⟨x.tu.toArray⟩:=⟨_,rfl⟩
  rw[<- hsx] at hWt ⊢
  obtain⟨wt,hwt⟩:∃b,b=isWord x.tu:=⟨_,rfl⟩
  have HWT:Hid (wt=isWord x.tu):=hwt
  rw[<- hwt] at hWt
  clear hNF hND hf hd hm hfit hsx hwt
  go_enter Tryz.func89,Tryz.ntmps89
  go_wp2_with fail
  go_loopw [27] (fun i wr=>∃k:Nat,k<=NF/\i=.int .i64 k/\wr=w.alloc (.cells #[.slice af NF cf,.slice ad ND cd,.string sx] 56)/\Hid (∀s∈x.fr.take k,isWord s=true)) (fun i _=>NF-(intOf i).toNat)
  case atStart=>exact⟨0,Nat.zero_le _,rfl,rfl,(show ∀s∈x.fr.take 0,isWord s=true by simp)⟩
  case round=>
   obtain⟨k,hk,rfl,rfl,hall⟩:=hrel
   by_cases hlt:k<NF
   .
    obtain⟨s,hs⟩:∃s,x.fr[k]? = some s:=⟨_,gEl (by have:=HNF.out;omega)⟩
    have HS:Hid (x.fr[k]? = some s):=hs
    obtain⟨b,off,rfl,hcell⟩:=HF.out.at hs
    have hcell':=(box_of (w:=w) (o:=.cells #[.slice (some ⟨b,off,none⟩) NF cf,.slice ad ND cd,.string sx] 56)).cell (bLt w _ hcell)
    rw[hcell] at hcell'
    have hWs:=fun W=>word_is s W (HFit.out.1 s (mGt hs))
    generalize (⟨s.toArray⟩:ByteArray)=sy at *
    clear hcell hs
    cases hw:isWord s with
    | false=>
     have HR:Hid (lchk x=1):=lchk_from HM.out HS.out hw
     rw[hw] at hWs
     clear hw hall
     go_wp2_with fail
     refine (hWs _).mono ?_
     rintro e w1 ⟨rfl,rfl⟩
     go_wp2_with fail
     go_ret
     exact⟨by rw[HR.out];rfl,box_of⟩
    | true=>
     have HA:Hid (∀s∈x.fr.take (k+1),isWord s=true):=take_all HS.out hall.out hw
     rw[hw] at hWs
     clear hw hall
     go_wp2_with fail
     refine (hWs _).mono ?_
     rintro e w1 ⟨rfl,hw1⟩
     subst hw1
     go_wp2_with fail
     go_roundw
     case rel=>exact⟨k+1,by omega,by go_num,by first | rfl | trivial,HA⟩
     case measure=>simp[intOf];omega
   .
    have hall':x.fr.all isWord=true:=by
     have e:=hall.out
     rw[List.take_of_length_le (by have:=HNF.out;omega)] at e
     exact List.all_eq_true.2 e
    have HA:Hid _:=hall'
    clear hall hall'
    cases wt with
    | false=>
     have HR:Hid (lchk x=1):=lchk_to HM.out HA.out HWT.out.symm
     clear HM HA
     go_wp2_with fail
     refine (hWt _).mono ?_
     rintro e w1 ⟨rfl,rfl⟩
     go_wp2_with fail
     go_ret
     exact⟨by rw[HR.out];rfl,box_of⟩
    | true=>
     have HR:Hid (lchk x=firstBad (x.cs.map chk)):=lchk_do HM.out HA.out HWT.out.symm
     clear HM HA
     go_wp2_with fail
     refine (hWt _).mono ?_
     rintro e w1 ⟨rfl,rfl⟩
     clear hWt
     go_wp2_with fail
     go_loopw [42] (fun i wr=>∃k:Nat,k<=ND/\i=.int .i64 k/\Hid (Below w.heap.size w wr)/\Hid (∀c∈x.cs.take k,chk c=0)) (fun i _=>ND-(intOf i).toNat)
     case atStart=>exact⟨0,Nat.zero_le _,rfl,box_of,(show ∀c∈x.cs.take 0,chk c=0 by simp)⟩
     case round=>
      obtain⟨k,hk,rfl,hbel,hall⟩:=hrel
      by_cases hlt:k<ND
      .
       obtain⟨c,hc⟩:∃c,x.cs[k]? = some c:=⟨_,gEl (by have:=HND.out;omega)⟩
       have HS:Hid (x.cs[k]? = some c):=hc
       obtain⟨b,off,rfl,hc0,hc1,hc2⟩:=(RCmds.below HD.out hbel.out).at hc
       have hCk:=fun W=>check_is c W (HFit.out.2.1 c (mGt hc))
       unfold Cmd.v at hCk
       generalize hr:chk c=r at *
       have HRr:Hid (chk c=r):=hr
       generalize c.kind=ck at *
       generalize c.n=cn at *
       generalize (⟨c.word.toArray⟩:ByteArray)=sy at *
       clear hc hr
       go_wp2_with fail
       refine (hCk _).mono ?_
       rintro e w1 ⟨rfl,hb1⟩
       have HB:Hid (Below w.heap.size w w1):=(hbel.out.alloc hbel.out.size _).trans (hb1.mono (by simp;exact Nat.le_succ_of_le hbel.out.size))
       clear hb1 hbel
       by_cases hr0:r=0
       . subst hr0
         have HA:Hid (∀c∈x.cs.take (k+1),chk c=0):=take_all HS.out hall.out HRr.out
         clear hall
         go_wp2_with fail
         go_roundw
         case rel=>exact⟨k+1,by omega,by go_num,HB,HA⟩
         case measure=>simp[intOf];omega
       . have HA:Hid (lchk x=r):=(show _=_ from by rw[HR.out,firstBad_at HS.out hall.out (by rw[HRr.out];exact hr0),HRr.out])
         clear hall
         go_wp2_with fail
         go_ret
         exact⟨by rw[HA.out];rfl,HB.out⟩
      .
       have HA:Hid (lchk x=0):=by
        show _=_
        rw[HR.out]
        have e:=hall.out
        rw[List.take_of_length_le (by have:=HND.out;omega)] at e
        exact firstBad_none e
       clear hall HR
       go_wp2_with fail
       go_ret
       exact⟨by rw[HA.out];rfl,hbel.out⟩
end Go.Proofs.YtllgglolcgdehaaGreatDoor
