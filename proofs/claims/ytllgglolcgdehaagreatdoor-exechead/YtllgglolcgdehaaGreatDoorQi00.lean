/- Graphs, and more. -/
import Derived.Test.YtllgglolcgdehaaGreatDoorQAb
import Derived.SizedLaws
import Derived.Test.YtllgglolcgdehaaGreatDoorQf00
set_option maxRecDepth 100000
set_option maxHeartbeats 16000000
namespace Go.Gs
open Go.RowKit
set_option linter.unusedVariables false
theorem aW8 {fs:List SFile} {ns:List SNode} (h:gchk ns=0) (hf:∀f∈fs,f.b.length<=4000) {j k:Nat} (hjk:j<=k) (hk:k<=ns.length) {p:Int × Int} (hp:A7 (ns.take j) p=true) :
 ∃(i q:Nat) (o:List (List UInt8)) (b:List UInt8),p=((i:Int),(q:Int))/\(j5 fs [] (ns.take k))[i]? = some o/\o[q]? = some b:=by
 obtain⟨i,q,m,rfl,hm,hq⟩:=U1 hp;have hij:i<(ns.take j).length:=(gSm hm).1;rw[List.length_take] at hij;have hm':ns[i]? = some m:=by rwa [List.getElem?_take_of_lt (by omega)] at hm
 have hr:=(ah3 h hf hm').1;have hc:=m9 hr fs (m.ins.map (j3 (j5 fs [] (ns.take i))));have hql:q<(i8 m fs (m.ins.map (j3 (j5 fs [] (ns.take i))))).length:=by omega
 exact⟨i,q,_,_,rfl,aQ3 fs ns hm' (by omega) hk,gEl hql⟩
theorem bZ5 {ns:List SNode} {fs:List SFile} (h:gchk ns≠0):aw0 ns fs=([],gchk ns):=by unfold aw0;rw[if_pos h]
theorem bz9 {ns:List SNode} {fs:List SFile} (h:gchk ns=0) (hf:fchk fs≠0):aw0 ns fs=([],fchk fs):=by unfold aw0;rw[if_neg (by simp[h]),if_pos hf]
end Go.Gs
namespace Go.Proofs.YtllgglolcgdehaaGreatDoor
open Go.RowKit Go.Gs
set_option linter.unusedVariables false
theorem cs5:(Tryz.prog.info? 28).map (fun i=>(i.zero,i.size,i.bytes))=some (some (.slice none 0 0),1,24):=by kernel_rfl
def CRel (w wr:World) (bss:List (List UInt8)) (G i:Nat):Prop:=
 ∃vs:List Value,wr.heap[G]? = some (.cells vs.toArray 28 (0,0))/\vs.length=bss.length/\(∀(j:Nat) (p:List UInt8),j<i->bss[j]? = some p -> ∃u,vs[j]? = some u/\Reads wr u p.length (p.map U))/\(∀j,i<=j->j<bss.length->vs[j]? = some (.slice none 0 0))/\Bq w wr
theorem aq3 {l:List UInt8} {a:Option Addr} {n c:Nat}:Value.slice a n c∉l.map U:=by
 intro h;obtain⟨x,_,e⟩:=List.mem_map.1 h
 cases e
theorem CRel.cell {w wr:World} {bss:List (List UInt8)} {G i:Nat} (h:CRel w wr bss G i) (hi:i<bss.length):wr.cell? ⟨G,i,none⟩=some (.slice none 0 0)/\wr.frozen? ⟨G,i,none⟩=false/\G<wr.heap.size:=by
 obtain⟨vs,h1,h2,h3,h4,h5⟩:=h;refine⟨?_,frozen_of_row _ _ _ _ _ h1,?_⟩
 . rw[cell_of_row _ _ _ _ _ _ h1];simpa using h4 i (Nat.le_refl _) hi
 . rcases Nat.lt_or_ge G wr.heap.size with h | h
   . exact h
   . rw[Array.getElem?_eq_none h] at h1;cases h1
theorem CRel.below {w wr w1:World} {bss:List (List UInt8)} {G i:Nat} (h:CRel w wr bss G i) (hb:Bq wr w1) (hG:G<wr.heap.size):CRel w w1 bss G i:=by obtain⟨vs,h1,h2,h3,h4,h5⟩:=h;refine⟨vs,by rw[hb.block G hG];exact h1,h2,fun j p hj hp=>?_,h4,h5.trans (hb.mono h5.size)⟩;obtain⟨u,h6,h7⟩:=h3 j p hj hp;exact⟨u,h6,h7.below hb⟩
theorem CRel.step {w wr:World} {bss:List (List UInt8)} {G i:Nat} {u:Value} {p:List UInt8} (h:CRel w wr bss G i) (hp:bss[i]? = some p) (hu:Reads wr u p.length (p.map U)) (hG:w.heap.size<=G):CRel w (wr.setCell ⟨G,i,none⟩ u) bss G (i+1):=by
 have hi:i<bss.length:=(gSm hp).1;obtain⟨hc,_,_⟩:=h.cell hi;obtain⟨vs,h1,h2,h3,h4,h5⟩:=h;refine⟨vs.set i u,by rw[heap_setCell_same _ _ _ _ _ _ h1];simp,by simp[h2],fun j q hj hq=>?_,fun j hj hjl=>?_,h5.setCell hG _⟩
 .
  by_cases hji:i=j
  . subst hji;rw[hp] at hq;injection hq with hq;subst hq;exact⟨u,List.getElem?_set_self (by omega),hu.setCell hc u aq3⟩
  . obtain⟨u',h6,h7⟩:=h3 j q (by omega) hq;exact⟨u',by rw[List.getElem?_set_ne hji];exact h6,h7.setCell hc u aq3⟩
 . rw[List.getElem?_set_ne (by omega)];exact h4 j (by omega) hjl
theorem CRel.done {w wr:World} {bss:List (List UInt8)} {G i:Nat} (h:CRel w wr bss G i) (hi:i=bss.length) (hn:bss.length<=1000):RList wr (.slice (some ⟨G,0,none⟩) bss.length bss.length) U bss:=by
 subst hi;obtain⟨vs,h1,h2,h3,h4,h5⟩:=h;refine⟨vs,⟨by simp[h2],_,_,rfl,by simp,by unfold maxLen;omega,fun _=>⟨G,0,rfl,fun j u hu=>?_⟩⟩,fun j p hj=>?_⟩
 . rw[Nat.zero_add,cell_of_row _ _ _ _ _ _ h1];simpa using hu
 . exact h3 j p (gSm hj).1 hj
def ai1 (w:World) (OB N:Nat) (outs:List (List (List UInt8))):Prop:=
 ∃us:List Value,w.heap[OB]? = some (.cells us.toArray 74 (0,0))/\us.length=N/\outs.length<=N/\(∀(j:Nat) o,outs[j]? = some o -> ∃u,us[j]? = some u/\RList w u U o /\ ∀a n c,u=.slice (some a) n c->a.block≠OB) /\
  ∀j,outs.length<=j->j<N->us[j]? = some (.slice none 0 0)
theorem ai1.lt {w:World} {OB N:Nat} {outs:List (List (List UInt8))} (h:ai1 w OB N outs):OB<w.heap.size:=by
 obtain⟨us,h1,_⟩:=h;rcases Nat.lt_or_ge OB w.heap.size with h | h
 . exact h
 . rw[Array.getElem?_eq_none h] at h1;cases h1
theorem ai1.below {w w':World} {OB N:Nat} {outs:List (List (List UInt8))} (h:ai1 w OB N outs) (hb:Bq w w'):ai1 w' OB N outs:=by have hl:=h.lt;obtain⟨us,h1,h2,h3,h4,h5⟩:=h;refine⟨us,by rw[hb.block OB hl];exact h1,h2,h3,fun j o hj=>?_,h5⟩;obtain⟨u,a1,a2,a3⟩:=h4 j o hj;exact⟨u,a1,a2.below hb,a3⟩
theorem ai1.at {w:World} {OB N:Nat} {outs:List (List (List UInt8))} (h:ai1 w OB N outs) {i k:Nat} {o:List (List UInt8)} {b:List UInt8} (hi:outs[i]? = some o) (hk:o[k]? = some b) :
 ∃b1 off1 m1 c1 au cu,w.cell? ⟨OB,i,none⟩=some (.slice (some ⟨b1,off1,none⟩) m1 c1)/\k<m1/\m1<=9223372036854775807/\w.cell? ⟨b1,off1+k,none⟩=some (.slice au b.length cu)/\Reads w (.slice au b.length cu) b.length (b.map U)/\i<N:=by obtain⟨us,h1,h2,h3,h4,h5⟩:=h;obtain⟨u,a1,a2,a3⟩:=h4 i o hi;obtain⟨ao,cap,rfl,hs1,hs2⟩:=a2.shape;obtain⟨b1,off1,au,cu,rfl,hc,hr⟩:=a2.at hk;have hil:i<outs.length:=(gSm hi).1;have hkl:k<o.length:=(gSm hk).1;unfold maxLen at hs2;refine⟨b1,off1,o.length,cap,au,cu,?_,hkl,by omega,hc,hr,by omega⟩;rw[cell_of_row _ _ _ _ _ _ h1];simpa using a1
theorem bg1 (n:SNode) (ai:Option Addr) (ci CB OB N:Nat) (outs:List (List (List UInt8))) (w:World) (hc:w.cell? ⟨CB,0,none⟩=some (.slice (some ⟨OB,0,none⟩) N N)) (ho:ai1 w OB N outs) (Ew:N<=60) (hp:E2 w (.slice ai n.ins.length ci) n.ins) (h5:n.ins.length<=5)
 (hok:∀p∈n.ins,∃(i k:Nat) (o:List (List UInt8)) (b:List UInt8),p=((i:Int),(k:Int))/\outs[i]? = some o/\o[k]? = some b) :
 Calls Tryz.prog 94 #[D2 n ai n.ins.length ci,.pointer (some ⟨CB,0,none⟩)] w fun e w'=>∃r,e=.returned r/\RList w' r U (n.ins.map (j3 outs))/\Bq w w':=by
 obtain⟨i1,hi',hy0,hy1,hy2⟩:=info_parts cs5;have hle:=L2 hp;have HP:=qH hp;have HO:=qH ho;have HOK:Hid _:=hok;have HC:=qH hc;obtain⟨M,hM⟩:=qE n.ins.length;have HM:=qH hM;obtain⟨bss,Qy⟩:=qE (n.ins.map (j3 outs));have HBS:=qH Qy;have HML:Hid (M=bss.length):=(show _=_ by rw[hM,Qy];simp);have hM5:M<=5:=by omega
 have hb4:i1.bytes*M<=281474976710656:=by rw[hy2];omega
 have hb5:M<=maxLen:=by unfold maxLen;omega
 unfold D2;rw[<- hM,<- Qy];rw[<- hM] at HP hle;generalize (⟨n.file.toArray⟩:ByteArray)=fx;generalize (⟨n.c.word.toArray⟩:ByteArray)=wx0;generalize n.c.kind=ck;generalize n.c.n=cn;generalize n.how=hw;generalize n.wide=wd;generalize n.kind=nk;clear hp ho hc hok hM Qy h5;go_enter Tryz.func94,Tryz.ntmps94;go_wp2_with (at_make;refine wpList_make_full _ rfl (.tmp 9) (.tmp 9) 74 rfl (w.heap.size+1) 28 i1 (.slice none 0 0) 1 Tryz.underlying74 hi' hy0 hy1 .i64 .i64 _ _ M rfl rfl rfl rfl hb4 hb5 (by simp) ?_)
 intro w3 Cj Ba;have hC8:Q9 w3 w.heap.size (.int .i64 nk) (.string fx) (.int .i64 ck) (.string wx0) (.int .i64 cn) (.int .i64 hw) (.int .i64 wd) (.slice ai M ci):=aa0 (below_grown Ba (Nat.le_refl _));obtain⟨y0,y1,y2,y3,y4,y5,y6,y7⟩:=hC8;have HD3:Hid (CRel (w.alloc (.cells #[.int .i64 nk,.string fx,.int .i64 ck,.string wx0,.int .i64 cn,.int .i64 hw,.int .i64 wd,.slice ai M ci] 73)) w3 bss (w.heap.size+1) 0):=by
  refine⟨List.replicate M (.slice none 0 0),?_,by simp[HML.out],fun j p hj=>absurd hj (Nat.not_lt_zero _),fun j _ hj=>?_,below_grown Ba (Nat.le_refl _)⟩
  . have:=(V7 Cj).1;rw[toList_madeCells_one] at this;exact this
  . rw[List.getElem?_replicate,if_pos (by rw[HML.out];exact hj)]
 clear Cj Ba;go_wp2_with fail;go_loopw [14] (fun i wr=>∃k:Nat,k<=M/\i=.int .i64 k/\Hid (CRel (w.alloc (.cells #[.int .i64 nk,.string fx,.int .i64 ck,.string wx0,.int .i64 cn,.int .i64 hw,.int .i64 wd,.slice ai M ci] 73)) wr bss (w.heap.size+1) k)) (fun i _=>M-(intOf i).toNat)
 case atStart=>exact⟨0,Nat.zero_le _,rfl,HD3.out⟩
 case round=>
  clear HD3 y0 y1 y2 y3 y4 y5 y6 y7;obtain⟨j,hjM,rfl,hrel⟩:=hrel;have HBr:Hid (Bq w wr):=by obtain⟨vs,_,_,_,_,h5⟩:=hrel.out;exact b9.trans (h5.mono (by simp))
  by_cases hlt:j<M
  .
   obtain⟨p,hpk⟩:∃p,n.ins[j]? = some p:=⟨_,gEl (by have:=HM.out;omega)⟩;obtain⟨i,k,o,b,rfl,hoi,hbk⟩:=HOK.out p (mGt hpk);obtain⟨pb,po,rfl,p0,p1⟩:=(HP.out.below HBr.out).at hpk;obtain⟨b1,off1,m1,c1,au,cu,hc1,hkm,hm1,hc2,hrb,hiN⟩:=(HO.out.below HBr.out).at hoi hbk;have hcc:=(HBr.out.cell (bLt w _ HC.out)).trans HC.out;have hpb:bss[j]? = some b:=by rw[HBS.out,List.getElem?_map,hpk];simp[j3,hoi,hbk]
   obtain⟨hcG,hfG,hG⟩:=hrel.out.cell (by have:=HML.out;omega);have hbx:Bq wr (wr.alloc (.cells #[.int .i64 (i:Int),.int .i64 (k:Int)] 79)).drew:=b9.drew;have hD4:=hrel.out.below hbx hG;have HD5:Hid (CRel (w.alloc (.cells #[.int .i64 nk,.string fx,.int .i64 ck,.string wx0,.int .i64 cn,.int .i64 hw,.int .i64 wd,.slice (some ⟨pb,po,none⟩) M ci] 73)) (((wr.setCell ⟨w.heap.size+1,j,none⟩ (.slice au b.length cu)).alloc (.cells #[.int .i64 (i:Int),.int .i64 (k:Int)] 79)).drew) bss (w.heap.size+1) (j+1)):=(hrel.out.step hpb hrb (by simp)).below b9.drew (by simpa using hG);have q0:=(hbx.cell (bLt wr _ hcc)).trans hcc;have q1:=(hbx.cell (bLt wr _ hc1)).trans hc1;have q2:=(hbx.cell (bLt wr _ hc2)).trans hc2;obtain⟨q3,q4,_⟩:=hD4.cell (by have:=HML.out;omega);generalize b.length=bl at *;clear hpk hoi hbk hrb hpb hD4 hbx hrel hcG hfG;go_wp2_with fail;go_region_with fail
   all_goals
    go_wp2_with fail
    go_roundw
    case rel=>exact⟨j+1,by omega,by go_num,HD5.out⟩
    case measure=>simp[intOf];omega
  .
   have hjM':j=M:=by omega
   have HF:Hid (RList wr (.slice (some ⟨w.heap.size+1,0,none⟩) M M) U bss):=(show RList _ _ _ _ by
    have h:=hrel.out.done (by rw[<- HML.out];exact hjM') (by rw[<- HML.out];omega)
    rw[<- HML.out] at h
    exact h)
   clear hrel;go_wp2_with fail;go_ret;exact⟨_,rfl,HF.out,HBr.out⟩
theorem bZ6 {w:World} {v:Value} {n:Nat} {xs:List Value} (h:Reads w v n xs) {a:Addr} (x:Value) (hne:∀q m c,v=.slice (some q) m c->q.block≠a.block):Reads (w.setCell a x) v n xs:=by obtain⟨h1,ao,cap,rfl,h2,h3,h4⟩:=h;refine⟨h1,ao,cap,rfl,h2,h3,fun hn=>?_⟩;obtain⟨b,off,rfl,hc⟩:=h4 hn;refine⟨b,off,rfl,fun j u hu=>?_⟩;rw[World.cell?_setCell_other (h:=fun e=>hne _ _ _ rfl (by rw[e]))];exact hc j u hu
theorem bJ4 {w:World} {OB N:Nat} {outs:List (List (List UInt8))} (h:ai1 w OB N outs) (hk:outs.length<N) {u:Value} {o:List (List UInt8)} (hu:RList w u U o) (hne:∀q m c,u=.slice (some q) m c->q.block≠OB) :
 ai1 (w.setCell ⟨OB,outs.length,none⟩ u) OB N (outs++[o]):=by
 obtain⟨us,h1,h2,h3,h4,h5⟩:=h;have hc:w.cell? ⟨OB,outs.length,none⟩=some (.slice none 0 0):=by rw[cell_of_row _ _ _ _ _ _ h1];simpa using h5 _ (Nat.le_refl _) hk
 have keep:∀{x:Value} {q:List (List UInt8)},RList w x U q->(∀a n c,x=.slice (some a) n c->a.block≠OB)->RList (w.setCell ⟨OB,outs.length,none⟩ u) x U q:=by rintro x q ⟨ys,g1,g2⟩ hx;refine⟨ys,bZ6 g1 u hx,fun j p hj=>?_⟩;obtain⟨y,g3,g4⟩:=g2 j p hj;exact⟨y,g3,g4.setCell hc u aq3⟩
 refine⟨us.set outs.length u,by rw[heap_setCell_same _ _ _ _ _ _ h1];simp,by simp[h2],by simp;omega,fun j q hj=>?_,fun j hj hjN=>?_⟩
 .
  by_cases e:j=outs.length
  . subst e;rw[List.getElem?_append_right (Nat.le_refl _)] at hj;simp at hj;subst hj;exact⟨u,List.getElem?_set_self (by omega),keep hu hne,hne⟩
  . have hjl:j<outs.length:=by have:=(gSm hj).1;rw[List.length_append] at this;simp at this;omega
    rw[List.getElem?_append_left hjl] at hj;obtain⟨x,g1,g2,g3⟩:=h4 j q hj;exact⟨x,by rw[List.getElem?_set_ne (fun h=>e h.symm)];exact g1,keep g2 g3,g3⟩
 . rw[List.length_append] at hj;simp at hj;rw[List.getElem?_set_ne (by omega)];exact h5 j (by omega) hjN
theorem bJ5 {w:World} {OB N:Nat} {outs:List (List (List UInt8))} (h:ai1 w OB N outs) (hk:outs.length<N):w.cell? ⟨OB,outs.length,none⟩=some (.slice none 0 0)/\w.frozen? ⟨OB,outs.length,none⟩=false:=by obtain⟨us,h1,h2,h3,h4,h5⟩:=h;refine⟨?_,frozen_of_row _ _ _ _ _ h1⟩;rw[cell_of_row _ _ _ _ _ _ h1];simpa using h5 _ (Nat.le_refl _) hk
theorem bn1 {w w':World} {o:List (List UInt8)} {e:Ending} (h:T9 w o e w'):∃ar cr,e=.returned (.tuple #[.slice ar o.length cr,.int .i64 0])/\RList w' (.slice ar o.length cr) U o/\(∀q m c,Value.slice ar o.length cr=.slice (some q) m c->w.heap.size<=q.block)/\Bq w w':=by
 obtain⟨ar,cr,us,rfl,h1,h2,h3⟩:=h;refine⟨ar,cr,rfl,⟨us,Reads.of_owns h1,fun j b hj=>by obtain⟨u,a1,a2,_⟩:=h2 j b hj;exact⟨u,a1,a2⟩⟩,fun q m c hq=>?_,h3⟩;rcases h1.2 with ⟨e1,_⟩ | ⟨g,cap,cur,e1,hg,_⟩
 . rw[e1] at hq;injection hq with hq;cases hq
 . rw[e1] at hq;injection hq with hq;injection hq with hq;rw[<- hq];exact hg
end Go.Proofs.YtllgglolcgdehaaGreatDoor
namespace Go.Gs
open Go.RowKit
set_option linter.unusedVariables false
def K5 (n:Int):List SNode:=[⟨1,[97],⟨0,[],0⟩,0,0,[]⟩,⟨3,[],⟨5,[],0⟩,0,0,[(0,0)]⟩,⟨3,[],⟨9,[],n⟩,0,0,[(1,0)]⟩,⟨5,[98],⟨0,[],0⟩,0,0,[(2,0)]⟩]
theorem bZ7 {n room:Int} {fs:List SFile} (h:(newS (K5 n) fs room).2=0):gchk (K5 n)=0/\fchk fs=0/\T0 (K5 n) fs/\1<=room/\room<=1000/\newS (K5 n) fs room=(o7 (K5 n) fs room,0):=by
 have hn:gchk (K5 n)=0/\fchk fs=0 /\ ¬(room<1\/1000<room):=by
  unfold newS at h;split at h
  . rename_i h1;exact absurd h h1
  .
   split at h
   . rename_i h2;exact absurd h h2
   . split at h
     . cases h
     . rename_i h1 h2 h3;exact⟨by simpa using h1,by simpa using h2,h3⟩
 refine⟨hn.1,hn.2.1,at0 hn.1 (fun f hf=>(J2 (I0 hn.2.1).2 f hf).2) ?_,by omega,by omega,?_⟩
 . have:cnt 1 (K5 n)=1:=rfl;omega
 . unfold newS;rw[if_neg (by simp[hn.1]),if_neg (by simp[hn.2.1]),if_neg hn.2.2]
theorem cs6 {n room:Int} {fs:List SFile} {M:SMach} (h:Reach (K5 n) fs room M):∃p1 p2 x1 b,M.ps[1]? = some p1/\M.ps[2]? = some p2/\M.pipes[1]? = some x1/\p1.out=[b]:=by obtain⟨C,E,hI⟩:=h;have h4:M.ps.length=4:=hI.plen;have h3:M.pipes.length=3:=hI.xlen;obtain⟨p1,hp1⟩:∃p,M.ps[1]? = some p:=⟨_,gEl (by omega)⟩;obtain⟨p2,hp2⟩:∃p,M.ps[2]? = some p:=⟨_,gEl (by omega)⟩;obtain⟨x1,hx1⟩:∃x,M.pipes[1]? = some x:=⟨_,gEl (by omega)⟩;have ho:=(hI.proc 1 _ p1 rfl hp1).olen;have ho1:p1.out.length=1:=ho;obtain⟨b,hb⟩:=List.length_eq_one_iff.1 ho1;exact⟨p1,p2,x1,b,hp1,hp2,hx1,hb⟩
theorem bZ8 {n room:Int} {fs:List SFile} {M:SMach} (hg:gchk (K5 n)=0) (hf:fchk fs=0) (h:Reach (K5 n) fs room M) {p:SProc} {x:SPipe} {b:List UInt8} (hp:M.ps[1]? = some p) (hx:M.pipes[1]? = some x) (hb:p.out=[b]) (hne:b≠[]) (hs:x.shut=true) (hc:x.closed=false) :
 (I4 M 1).2=0/\(∃p',(I4 M 1).1.ps[1]? = some p'/\p'.out=[[]]) /\ ∃x',(I4 M 1).1.pipes[1]? = some x'/\x'.b=[]:=by
 have hck:pchk x=0:=(h.shape hg hf).pipe x (mGt hx);obtain⟨C,E,hI⟩:=h;have hn:M.ns[1]? = some ⟨3,[],⟨5,[],0⟩,0,0,[(0,0)]⟩:=by rw[hI.ens];rfl
 have hpo:=hI.proc 1 _ p rfl hp;have hov:p.ov=false:=by
  cases e:p.ov with
  | false=>rfl
  | true=>exact absurd (hpo.ovout e b (by rw[hb];simp)) hne
 have e1:I4 M 1=ay6 M 1 ⟨3,[],⟨5,[],0⟩,0,0,[(0,0)]⟩ p:=by unfold I4;rw[hn,hp]
 have hi:D9 M.ns (((1:Nat):Int),((0:Nat):Int))=1:=by unfold D9;rw[hI.ens];rfl
 have hpi:M.pipe 1=x:=by unfold SMach.pipe;rw[hx];rfl
 have hw:pwrite x b=(⟨[],x.room,x.closed,x.shut⟩,b.length,0):=by unfold pwrite;rw[if_neg (by simp[hck]),if_neg (by simp[hc]),if_pos hs]
 have hl:0<b.length:=List.length_pos_iff.2 hne;have e2:I4 M 1=((M.setX 1 ⟨[],x.room,x.closed,x.shut⟩).setP 1 (p.setOut 0 []),0):=by rw[e1];unfold ay6;rw[if_neg (by simp[hov]),if_pos (by rw[hb];simp[hne]),hb];unfold J3;rw[hi,hpi,hw,if_pos hl];simp
 have h4:M.ps.length=4:=hI.plen;have h3:M.pipes.length=3:=hI.xlen;rw[e2];refine⟨rfl,⟨p.setOut 0 [],?_,?_⟩,⟨[],x.room,x.closed,x.shut⟩,?_,rfl⟩
 . show (M.ps.set 1 _)[1]? = _;rw[List.getElem?_set,if_pos rfl,if_pos (by omega)]
 . show p.out.set 0 []=_;rw[hb];rfl
 . show (M.pipes.set 1 _)[1]? = _;rw[List.getElem?_set,if_pos rfl,if_pos (by omega)]
end Go.Gs
namespace Go.Gs
open Go.RowKit Go.ChangeShapes Go.WideShapes Go.ChangeAt
set_option linter.unusedVariables false
variable {P:Program} {H:Type} {enc:TypeId × Value->H} {W:World} {base:Nat} {held:Bool} {fuel:Nat} {t e:TypeId} {a:Option Addr} {len cap:Nat} {x:DataW H × List MemPlace}
theorem bA0 (ht:P.underlying t=some (.slice e)) (he:P.underlying e=some (.int .u8)) (hc:P.cellsOf e=1)
 (hf:DataW.trod enc P W base (fun _=>true) held fuel t [.slice a len cap]=some x):len=0 \/ ∃elems spare,x.1=.slice elems spare/\elems.length=len:=by
 rcases open_ints ht he hc hf with ⟨hcs,_⟩ | ⟨ad,l,c,zs,hcs,_,hl,hm,hz,hx,Ac,hwz⟩
 . simp at hcs;exact .inl hcs.2.1
 . simp at hcs;obtain⟨rfl,rfl,rfl⟩:=hcs;have hz':zs.length=cap:=by simpa using hz
   refine .inr ⟨_,_,by rw[hx],?_⟩;simp[lits];omega
theorem bZ9 {ts:List TypeId} {ds:List (DataW H)} {d:DataW H} {j:Nat} (hsz:(DataW.weightsEach P ts ds).all (· <= reachBytes)=true) (hts:ts[j]? = some t) (hds:ds[j]? = some d) (ht:P.underlying t=some (.slice e)) (hb:P.bytesOf e=1)
 (h:len=0 \/ ∃elems spare,d=.slice elems spare/\elems.length=len):len<=1000000000000000:=by
 rcases h with rfl | ⟨elems,spare,rfl,hl⟩
 . omega
 . have:=sized_slice hsz hts hds ht;rw[hb] at this;unfold reachBytes at this;omega
end Go.Gs
