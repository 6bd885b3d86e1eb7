/- What the developers' lists (of graphs) does. -/
import Derived.Test.YtllgglolcgdehaaGreatDoorSAb
import Derived.Test.YtllgglolcgdehaaGreatDoorSa24
import Derived.Test.YtllgglolcgdehaaGreatDoorSa23
set_option linter.all false
set_option maxRecDepth 100000
set_option maxHeartbeats 16000000
namespace Go.Proofs.YtllgglolcgdehaaGreatDoor
open Go.RowKit Go.Gs Tryz
theorem cn9:(prog.info? 53).map (fun i=>(i.zero,i.size,i.bytes))=some (some (.slice none 0 0),1,24):=by kernel_rfl
def GRel(w wr:World)(bss:List (List UInt8))(G i:Nat):Prop:=
 ∃vs:List Value,wr.heap[G]? = some (.cells vs.toArray 53 (0,0))/\vs.length=bss.length/\(∀(j:Nat)(p:List UInt8),j<i->bss[j]? = some p->∃u,vs[j]? = some u/\Reads wr u (lines p).length ((lines p).map S))/\(∀j,i<=j->j<bss.length->vs[j]? = some (.slice none 0 0))/\Bq w wr
theorem aB0{l:List (List UInt8)}{a:Option Addr}{n c:Nat}:Value.slice a n c∉l.map S:=by
 intro h;obtain⟨x,_,e⟩:=qg.1 h
 cases e
theorem GRel.cell{w wr:World}{bss:List (List UInt8)}{G i:Nat}(h:GRel w wr bss G i)(hi:i<bss.length):wr.cell? ⟨G,i,none⟩=some (.slice none 0 0)/\wr.frozen? ⟨G,i,none⟩=false/\G<wr.heap.size:=by
 obtain⟨vs,h1,h2,h3,h4,h5⟩:=h;refine⟨?_,xK _ _ _ _ _ h1,?_⟩
 . rw[qV _ _ _ _ _ _ h1];simpa using h4 i (qB _) hi
 . rcases zD G wr.heap.size with h | h
   . exact h
   . rw[xE h]at h1;cases h1
theorem GRel.below{w wr w1:World}{bss:List (List UInt8)}{G i:Nat}(h:GRel w wr bss G i)(hb:Bq wr w1)(hG:G<wr.heap.size):GRel w w1 bss G i:=by obtain⟨vs,h1,h2,h3,h4,h5⟩:=h;refine⟨vs,by rw[hb.block G hG];exact h1,h2,fun j p hj hp=>?_,h4,h5.trans (hb.mono h5.size)⟩;obtain⟨u,h6,h7⟩:=h3 j p hj hp;exact⟨u,h6,h7.below hb⟩
theorem GRel.step{w wr:World}{bss:List (List UInt8)}{G i:Nat}{u:Value}{p:List UInt8}(h:GRel w wr bss G i)(hp:bss[i]? = some p)(hu:Reads wr u (lines p).length ((lines p).map S))(hG:w.heap.size<=G):GRel w (wr.setCell ⟨G,i,none⟩ u) bss G (i+1):=by
 have hi:i<bss.length:=(gSm hp).1;obtain⟨hc,_,_⟩:=h.cell hi;obtain⟨vs,h1,h2,h3,h4,h5⟩:=h;refine⟨vs.set i u,by rw[xp _ _ _ _ _ _ h1];simp,by simp[h2],fun j q hj hq=>?_,fun j hj hjl=>?_,h5.setCell hG _⟩
 .
  by_cases hji:i=j
  . subst hji;rw[hp]at hq;injection hq with hq;subst hq;exact⟨u,xy (by omega),hu.setCell hc u aB0⟩
  . obtain⟨u',h6,h7⟩:=h3 j q (by omega) hq;exact⟨u',by rw[xU hji];exact h6,h7.setCell hc u aB0⟩
 . rw[xU (by omega)];exact h4 j (by omega) hjl
theorem GRel.done{w wr:World}{bss:List (List UInt8)}{G i:Nat}(h:GRel w wr bss G i)(hi:i=bss.length)(hn:bss.length<=1000):RList wr (.slice (some ⟨G,0,none⟩) bss.length bss.length) S (bss.map lines):=by
 subst hi;obtain⟨vs,h1,h2,h3,h4,h5⟩:=h;refine⟨vs,⟨by simp[h2],_,_,by rw[qM],by simp,by unfold maxLen;omega,fun _=>⟨G,0,rfl,fun j u hu=>?_⟩⟩,fun j p hj=>?_⟩
 . rw[qa,qV _ _ _ _ _ _ h1];simpa using hu
 .
  rw[qQ]at hj
  cases hb:bss[j]? with
  | none=>rw[hb]at hj;cases hj
  | some q=>
   rw[hb]at hj
   simp only[qu,qW]at hj
   subst hj
   exact h3 j q (gSm hb).1 hb
theorem cg3(v:Value)(bss:List (List UInt8))(w:World)(hp:RList w v U bss)(hn:bss.length<=5)(hT:bss.flatten.length<=300000):
 Calls prog 151 #[v] w fun e w'=>∃r,e=.returned r/\RList w' r S (bss.map lines)/\Bq w w':=by
 obtain⟨ao,cap,rfl,hc1,hc2⟩:=hp.shape;have hcm:cap<=9223372036854775807:=by simpa[maxLen]using hc2
 have HP:=qH hp;have HTb:=qH hT;obtain⟨i1,hi',hy0,hy1,hy2⟩:=info_parts cn9;obtain⟨N,hN⟩:=qE bss.length;have HN:=qH hN;have hN5:N<=5:=by omega
 have hb4:i1.bytes*N<=281474976710656:=by rw[hy2];omega
 have hb5:N<=maxLen:=by unfold maxLen;omega
 rw[<- hN];rw[<- hN]at hc1;clear hp hn hT hN hc2;go_enter Tryz.func151,Tryz.ntmps151;go_wp2_with (at_make;refine wpList_make_full _ rfl (.tmp 7) (.tmp 7) 190 rfl w.heap.size 53 i1 (.slice none 0 0) 1 underlying190 hi' hy0 hy1 .i64 .i64 _ _ N rfl rfl rfl rfl hb4 hb5 (qB _) ?_)
 intro w3 Eh Cm;have HD3:Hid (GRel w w3 bss w.heap.size 0):=by
  refine⟨List.replicate N (.slice none 0 0),?_,by simp[HN.out],fun j p hj=>absurd hj (Nat.not_lt_zero _),fun j _ hj=>?_,below_grown Cm (qB _)⟩
  . have:=(aa5 Eh).1;rw[zF]at this;exact this
  . rw[xw,qF (by rw[HN.out];exact hj)]
 clear Eh Cm;go_wp2_with fail;go_loopw [11] (fun i wr=>∃k:Nat,k<=N/\i=.int .i64 k/\Hid (GRel w wr bss w.heap.size k)) (fun i _=>N-(intOf i).toNat)
 case atStart=>exact⟨0,qP _,rfl,HD3.out⟩
 case round=>
  obtain⟨i,hiN,rfl,hrel⟩:=hrel;have HBr:Hid (Bq w wr):=by obtain⟨vs,_,_,_,_,h5⟩:=hrel.out;exact h5
  by_cases hlt:i<N
  .
   obtain⟨p,hpk⟩:∃p,bss[i]? = some p:=⟨_,gEl (by have:=HN.out;omega)⟩;have HPr:Hid (RList wr (.slice ao N cap) U bss):=by rw[HN.out];exact HP.out.below HBr.out
   obtain⟨b,off,au,cu,rfl,Ac,hru⟩:=HPr.out.at hpk;have hpl:p.length<=300000:=qw (J4 (mGt hpk)) HTb.out;have hof:=aq7 _ p wr hru (by omega);have HPK:Hid _:=hpk;obtain⟨hcG,hfG,hG⟩:=hrel.out.cell (by have:=HN.out;omega);clear hpk hru;generalize p.length=pl at *;go_wp2_with fail;refine hof.mono ?_;rintro e w4⟨l,rfl,Hq,hb4'⟩;have HR4:Hid (Reads w4 l (lines p).length ((lines p).map S)):=Reads.of_owns Hq;have hD4:=hrel.out.below hb4' hG;obtain⟨hcG4,hfG4,hG4⟩:=hD4.cell (by have:=HN.out;omega);have HD5:Hid (GRel w (w4.setCell ⟨w.heap.size,i,none⟩ l) bss w.heap.size (i+1)):=hD4.step HPK.out HR4.out (qB _);obtain⟨_,al,cl,rfl,_⟩:=id HR4.out;clear Hq hb4' hrel hD4 hof hcG hfG Ac;go_wp2_with fail;go_roundw
   case rel=>exact⟨i+1,by omega,by go_num,HD5.out⟩
   case measure=>simp[intOf];omega
  .
   have hiN':i=N:=by omega
   have HF:=qH (show RList wr (.slice (some ⟨w.heap.size,0,none⟩) N N) S (bss.map lines) by
    have h:=hrel.out.done (by rw[<- HN.out];exact hiN') (by rw[<- HN.out];omega)
    rw[<- HN.out]at h
    exact h)
   clear hrel;go_wp2_with fail;go_ret;exact⟨_,rfl,HF.out,HBr.out⟩
end Go.Proofs.YtllgglolcgdehaaGreatDoor
