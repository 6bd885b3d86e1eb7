/- What the developers' each does with a function that makes bytes of a line's bytes, and more. -/
import Derived.Test.YtllgglolcgdehaaGreatDoorQAb
import Derived.Test.YtllgglolcgdehaaGreatDoorQSh2
import Derived.Lib.SlSplitV
import Derived.Lib.AppendStr
import Derived.Test.YtllgglolcgdehaaGreatDoorQa06
set_option maxRecDepth 100000
set_option maxHeartbeats 16000000
namespace Go.Proofs.YtllgglolcgdehaaGreatDoor
open Go.RowKit Go.Gs
set_option linter.unusedVariables false
def aH7 (g:Nat) (lb:Array Value) (F:List UInt8->List UInt8) (blk:Option Nat) (w:World):Prop:=
 ∀(W:World) (b cap:Nat) (x:List UInt8),w.grownBy W blk->w.heap.size<=b->b<W.heap.size->x.length<=cap->cap<=maxLen->x.length<=300000->Sort.Holds U W b 0 x.toArray ->
  Calls Tryz.prog g (#[.slice (some ⟨b,0,none⟩) x.length cap]++lb) W fun e w'=>∃r,e=.returned r/\(convert 28 9 r).run Tryz.prog w'=.ok (.string ⟨(F x).toArray⟩) w'/\Below b W w'
theorem grown_of {w W:World} {blk:Option Nat} (h:Bq w W):w.grownBy W blk:=⟨h.os,h.tape,h.output,h.size,fun k hk _=>h.block k hk⟩
theorem at7 {w w1 w2:World} {blk:Option Nat} (h:w.grownBy w1 blk) (k:w1.grownBy w2 blk):w.grownBy w2 blk:=
 ⟨k.os.trans h.os,k.tape.trans h.tape,k.output.trans h.output,Nat.le_trans h.size k.size,fun j hj hne=>(k.block j (Nat.lt_of_lt_of_le hj h.size) hne).trans (h.block j hj hne)⟩
theorem bR4 {w:World} {g k:Nat} {u:Value}:w.grownBy (w.setCell ⟨g,k,none⟩ u) (some g):=
 ⟨rfl,rfl,rfl,by simp,fun j hj hne=>Below.heap_setCell w _ u j (fun e=>hne (by rw[e]))⟩
theorem grown_below {w W:World} {g B:Nat} (h:w.grownBy W (some g)) (hB:B<=w.heap.size) (hg:B<=g):Below B w W:=
 ⟨h.os,h.tape,h.output,h.size,fun k hk=>h.block k (by omega) (fun e=>by cases e;omega)⟩
theorem ap6 {w W:World} {blk:Option Nat} {a:Addr} {u:Value} (h:w.grownBy W blk) (hc:w.cell? a=some u) (hne:some a.block≠blk):W.cell? a=some u:=
 (World.cell?_of_block (h.block a.block (bLt w _ hc) hne)).trans hc
theorem bD7 (w:World) (s:ByteArray) (cap:Nat) (fr:Nat × Nat) (l:List UInt8) (hl:s.data.toList=l) (hfr:l.length<=fr.1) (hcap:l.length<=cap):Sort.Holds U (w.alloc (.cells (bytesRow s cap) 5 fr)) w.heap.size 0 l.toArray:=by
 subst hl;intro j hj;have hj':j<s.data.size:=by simpa using hj
 have Bo:(w.alloc (.cells (bytesRow s cap) 5 fr)).heap[w.heap.size]? = some (.cells (bytesRow s cap) 5 fr):=heap_alloc_new w _;constructor
 . rw[cell_of_row _ _ _ _ _ _ Bo,Nat.zero_add];unfold bytesRow;rw[Array.getElem?_append_left (by simpa using hj'),Array.getElem?_map,Array.getElem?_eq_getElem hj'];show some (U s.data[j])=some (U (s.data.toList.toArray)[j]!);rw[getElem!_pos _ j hj]
 . simp only[World.frozen?,Bo];have:s.data.size<=fr.1:=by simpa using hfr
   simp;omega
theorem bR5 (ls:List (List UInt8)) (F:List UInt8->List UInt8) (k:Nat) (x:List UInt8) (hx:ls[k]? = some x):(((ls.take k).map F++ls.drop k).map S).set k (S (F x))=((ls.take (k+1)).map F++ls.drop (k+1)).map S:=by
 obtain⟨hk,he⟩:=gSm hx;have h1:ls.drop k=x::ls.drop (k+1):=by rw[List.drop_eq_getElem_cons hk,he]
 have h2:ls.take (k+1)=ls.take k++[x]:=by rw[List.take_add_one,hx];rfl
 have h3:((ls.take k).map F).length=k:=by simp;omega
 rw[h1,h2];simp only[List.map_append,List.map_cons,List.map_nil,List.append_assoc,List.cons_append,List.nil_append];rw[List.set_append_right _ _ (by simp;omega)];simp[Nat.min_eq_left (Nat.le_of_lt hk)]
theorem bR6 {w:World} {B g cap L:Nat} {ls:List (List UInt8)} {F:List UInt8->List UInt8} (hL:L=ls.length) (h:w.ownsRow B 9 1 (.slice (some ⟨g,0,none⟩) ls.length cap) ls.length (ls.map S)):w.ownsRow B 9 1 (.slice (some ⟨g,0,none⟩) L cap) L (((ls.take 0).map F++ls.drop 0).map S):=by rw[hL];exact h
theorem bR7 {w wr:World} {g gf:Nat} {lb:Array Value} {F:List UInt8->List UInt8} {x:List UInt8} {sx:ByteArray} (hF:aH7 gf lb F (some g) w) (hgr:w.grownBy wr (some g)) (hsx:sx=⟨x.toArray⟩) (hx:x.length<=300000) :
 Calls Tryz.prog gf (#[.slice (some ⟨wr.heap.size,0,none⟩) sx.size (grownCap wr sx.size 0 5)]++lb) (wr.alloc (.cells (bytesRow sx (grownCap wr sx.size 0 5)) 5 ((bytesRow sx (grownCap wr sx.size 0 5)).size,(bytesRow sx (grownCap wr sx.size 0 5)).size+1))).drew
  fun e w'=>∃r,e=.returned r/\(convert 28 9 r).run Tryz.prog w'=.ok (.string ⟨(F x).toArray⟩) w'/\Bq wr w':=by
 have hs:sx.size=x.length:=by subst hsx;simp[ByteArray.size]
 have hd:sx.data.toList=x:=by subst hsx;rfl
 have hc1:x.length<=grownCap wr sx.size 0 5:=by rw[<- hs];exact grownCap_ge _ _ _ _
 have hc2:grownCap wr sx.size 0 5 <= maxLen:=grownCap_le_maxLen _ _ _ _ (by rw[hs];unfold maxLen;omega);have Aj:x.length<=(bytesRow sx (grownCap wr sx.size 0 5)).size:=by unfold bytesRow;have:sx.data.size=x.length:=hs;simp;omega
 have hB:Bq wr (wr.alloc (.cells (bytesRow sx (grownCap wr sx.size 0 5)) 5 ((bytesRow sx (grownCap wr sx.size 0 5)).size,(bytesRow sx (grownCap wr sx.size 0 5)).size+1))).drew:=
  ((Below.refl _ wr).alloc (Nat.le_refl _) _).drew
 have h:=hF (wr.alloc (.cells (bytesRow sx (grownCap wr sx.size 0 5)) 5 ((bytesRow sx (grownCap wr sx.size 0 5)).size,(bytesRow sx (grownCap wr sx.size 0 5)).size+1))).drew wr.heap.size (grownCap wr sx.size 0 5) x
  (at7 hgr (grown_of hB)) hgr.size (by simp) hc1 hc2 hx (bD7 wr sx _ _ x hd Aj hc1)
 rw[<- hs] at h;refine h.mono ?_;rintro e w' ⟨r,rfl,h1,h2⟩;exact⟨r,rfl,h1,hB.trans h2⟩
theorem bD8 {w wr w1:World} {B g cap L k:Nat} {ls:List (List UInt8)} {F:List UInt8->List UInt8} {x:List UInt8} (Ab:wr.ownsRow B 9 1 (.slice (some ⟨g,0,none⟩) L cap) L (((ls.take k).map F++ls.drop k).map S)) (hgr:w.grownBy wr (some g)) (hb:Bq wr w1) (hx:ls[k]? = some x) :
 (w1.setCell ⟨g,k,none⟩ (.string ⟨(F x).toArray⟩)).ownsRow B 9 1 (.slice (some ⟨g,0,none⟩) L cap) L (((ls.take (k+1)).map F++ls.drop (k+1)).map S)/\w.grownBy (w1.setCell ⟨g,k,none⟩ (.string ⟨(F x).toArray⟩)) (some g):=by have h1:=((I8 Ab hb).stored k (S (F x))).1;rw[bR5 ls F k x hx] at h1;exact⟨h1,at7 (at7 hgr (grown_of hb)) bR4⟩
theorem cg0 {wr:World} {B g cap L k:Nat} {ls:List (List UInt8)} {F:List UInt8->List UInt8} (hk:k=L) (hL:L=ls.length) (Ab:wr.ownsRow B 9 1 (.slice (some ⟨g,0,none⟩) L cap) L (((ls.take k).map F++ls.drop k).map S)) :
 Reads wr (.slice (some ⟨g,0,none⟩) L cap) (ls.map F).length ((ls.map F).map S):=by have h:=Reads.of_owns Ab;rw[hk,hL,List.take_length,List.drop_length,List.append_nil] at h;rw[hL,List.length_map];exact h
theorem bR8 (g cap gf:Nat) (lb:Array Value) (F:List UInt8->List UInt8) (eg:∀args w,(callFunc gf args).run Tryz.prog w=.ok (.enter gf args) w) (ls:List (List UInt8)) (w:World) (B:Nat) (hB:B<=w.heap.size) (Ab:w.ownsRow B 9 1 (.slice (some ⟨g,0,none⟩) ls.length cap) ls.length (ls.map S)) (hl:ls.length<=300000) (hsz:∀s∈ls,s.length<=300000) (hF:aH7 gf lb F (some g) w) :
 Calls Tryz.prog 206 #[.slice (some ⟨g,0,none⟩) ls.length cap,.func (.func gf) #[] lb] w fun e w'=>∃r,e=.returned r/\Reads w' r (ls.map F).length ((ls.map F).map S)/\Below B w w':=by
 have hg:=Ab.lt g rfl;have hcv:=fun (W:World) (s:ByteArray)=>run_bytes_of_string (P:=Tryz.prog) W 9 28 5 s Tryz.underlying9 Tryz.underlying28 Tryz.underlying5;have hcap:ls.length<=cap/\cap<=maxLen:=by
  rcases Ab.2 with ⟨e0,_⟩ | ⟨g',cap',cur,e0,_,_,h1,h2,_⟩
  . cases e0
  . cases e0;exact⟨h1,h2⟩
 obtain⟨L,hL⟩:=qE ls.length;have HL:=qH hL;have Ho:Hid _:=Ab;have HF:Hid _:=hF;have hL4:L<=300000:=by omega
 rw[<- hL];clear hF Ab;rw[<- hL] at hcap;clear hL hl;have Uk:cap<=9223372036854775807:=by simpa[maxLen] using hcap.2
 have hcap1:=hcap.1;go_enter Tryz.func206,Tryz.ntmps206;go_wp2_with fail
 go_loopw [9] (fun i wr=>∃k:Nat,k<=L/\i=.int .i64 k/\Hid (wr.ownsRow B 9 1 (.slice (some ⟨g,0,none⟩) L cap) L (((ls.take k).map F++ls.drop k).map S))/\Hid (w.grownBy wr (some g)))
  (fun i _=>L-(intOf i).toNat)
 case atStart=>exact⟨0,Nat.zero_le _,rfl,bR6 HL.out Ho.out,grown_of (Below.refl _ _)⟩
 case round=>
  obtain⟨k,hk,rfl,Ab,hgr⟩:=hrel;by_cases hlt:k<L
  .
   obtain⟨x,hx⟩:∃x,ls[k]? = some x:=⟨_,gEl (by have:=HL.out;omega)⟩;have hxl:x.length<=300000:=hsz x (mGt hx);have Nh:wr.cell? ⟨g,k,none⟩=some (.string ⟨x.toArray⟩):=by rw[Ab.out.cellAt k (by omega),List.getElem?_map,List.getElem?_append_right (by simp;omega)];simp only[List.length_map,List.length_take];rw[Nat.min_eq_left (by have:=HL.out;omega),Nat.sub_self,List.getElem?_drop,Nat.add_zero,hx];rfl
   obtain⟨sx,hsx,Ac⟩:∃sx:ByteArray,Hid (sx=⟨x.toArray⟩)/\wr.cell? ⟨g,k,none⟩=some (.string sx):=⟨_,rfl,Nh⟩;have Hx:Hid _:=hx;clear Nh hx hcv;have hcv:=run_bytes_of_string (P:=Tryz.prog) wr 9 28 5 sx Tryz.underlying9 Tryz.underlying28 Tryz.underlying5;go_wp2_with fail;refine (bR7 HF.out hgr.out hsx.out hxl).mono ?_;rintro e w1 ⟨r,rfl,hcb,hb1⟩;have hcell1:w1.cell? ⟨g,k,none⟩=some (.string sx):=(hb1.cell (bLt wr _ Ac)).trans Ac;have hfro1:w1.frozen? ⟨g,k,none⟩=false:=(I8 Ab.out hb1).frozenAt k;have HA:Hid _:=bD8 (w:=w) Ab.out hgr.out hb1 Hx.out;clear hcv Ac Ab hgr hb1;go_wp2_with fail;go_roundw
   case rel=>exact⟨k+1,by omega,by go_num,HA.out.1,HA.out.2⟩
   case measure=>simp[intOf];omega
  . have hkL:k=L:=by omega
    have HR:Hid _:=cg0 hkL HL.out Ab.out;have HB:Hid _:=grown_below hgr.out hB hg.1;clear Ab hgr;go_wp2_with fail;go_ret;exact⟨_,rfl,HR.out,HB.out⟩
theorem aS9 (v:Value) (gf:Nat) (lb:Array Value) (F:List UInt8->List UInt8) (eg:∀args w,(callFunc gf args).run Tryz.prog w=.ok (.enter gf args) w) (ls:List (List UInt8)) (w:World) (B:Nat) (hB:B<=w.heap.size) (Ab:w.ownsRow B 9 1 v ls.length (ls.map S)) (hl:ls.length<=300000) (hsz:∀s∈ls,s.length<=300000) (hF:∀g,v.ownBlock=some g->aH7 gf lb F (some g) w) :
 Calls Tryz.prog 206 #[v,.func (.func gf) #[] lb] w fun e w'=>∃r,e=.returned r/\Reads w' r (ls.map F).length ((ls.map F).map S)/\Below B w w':=by
 rcases af9 Ab with ⟨rfl,rfl⟩ | ⟨g,cap,rfl,hBg,hgw,hcap,hcm,hH⟩
 .
  go_enter Tryz.func206,Tryz.ntmps206;go_wp2_with fail;go_loopw [9] (fun i wr=>i=.int .i64 0/\wr=w) (fun _ _=>0)
  case atStart=>exact⟨rfl,rfl⟩
  case round=>obtain⟨rfl,rfl⟩:=hrel;go_wp2_with fail;go_ret;exact⟨_,rfl,⟨rfl,none,0,rfl,Nat.le_refl _,by simp,fun h=>absurd rfl h⟩,Below.refl _ _⟩
 . exact bR8 g cap gf lb F eg ls w B hB Ab hl hsz (hF g rfl)
theorem oneU:OneCell U:=fun _=>rfl
theorem aL6 {W:World} {b cap:Nat} {x:List UInt8} (h:Sort.Holds U W b 0 x.toArray) (h1:x.length<=cap) (h2:cap<=maxLen):Reads W (.slice (some ⟨b,0,none⟩) x.length cap) x.length (x.map U):=by
 refine⟨by simp,_,cap,rfl,h1,h2,fun _=>⟨b,0,rfl,fun j u hu=>?_⟩⟩;rw[List.getElem?_map] at hu
 cases hj:x[j]? with
 | none=>rw[hj] at hu;cases hu
 | some c=>
  rw[hj] at hu
  obtain⟨hlt,he⟩:=gSm hj
  have:=(h j (by simpa using hlt)).1
  rw[this]
  simp only[Option.map_some] at hu
  rw[<- hu]
  simp[getElem!_pos,hlt,he]
theorem bR9 (w:World) (blk:Option Nat):aH7 209 #[] List.reverse blk w:=by
 intro W b cap x hgr hb1 hb2 hc1 hc2 hx hH;have Uw:=AnyE.slices_Reverse Tryz.laysRev U oneU b 0 cap x W hH (by omega);change Calls Tryz.prog 260 _ _ _ at Uw;have HH:Hid _:=hH;clear hgr hH;show Calls Tryz.prog 209 #[.slice (some ⟨b,0,none⟩) x.length cap] W _;go_enter Tryz.func209,Tryz.ntmps209;go_wp2_with fail;refine Uw.mono ?_;rintro e w1 ⟨rfl,n,hw1⟩;have HC:Hid ((convert 28 9 (.slice (some ⟨b,0,none⟩) x.length cap)).run Tryz.prog w1=.ok (.string ⟨x.reverse.toArray⟩) w1):=by
  have h1:Sort.Holds U w1 b 0 x.reverse.toArray:=by rw[hw1];exact Sort.holds_putRow U _ b 0 _ _ (Sort.holds_ahead U W n b 0 _ HH.out) (by simp)
  have h2:=aL6 (cap:=cap) h1 (by simpa using hc1) hc2;have h3:=ag0 (bs:=x.reverse) h2;rw[List.length_reverse] at h3;exact h3
 have HB:Hid (Below b W w1):=by rw[hw1];exact Lib.below_putRow (Below.refl _ _) (Nat.le_refl _)
 clear hw1 Uw;go_wp2_with fail;go_ret;exact⟨_,rfl,HC.out,HB.out⟩
theorem bS0 {W:World} {b k:Nat} {d e:List UInt8} {c:UInt8} (h:Sort.Holds U W b 0 d.toArray) (he:e=d.set k c):Sort.Holds U (W.setCell ⟨b,k,none⟩ (U c)) b 0 e.toArray:=by
 subst he;intro j hj;have hj':j<d.length:=by simpa using hj
 obtain⟨h1,h2⟩:=h j (by simpa using hj');rw[Nat.zero_add] at h1 h2 ⊢;by_cases hjk:j=k
 .
  subst hjk;refine⟨?_,?_⟩
  . rw[World.cell?_setCell_same _ _ _ h1];simp[getElem!_pos,hj']
  . rw[World.frozen?_setCell];exact h2
 . refine⟨?_,?_⟩
   . rw[World.cell?_setCell_other _ _ _ _ (by intro e;cases e;exact hjk rfl),h1];simp[getElem!_pos,hj',Ne.symm hjk]
   . rw[World.frozen?_setCell];exact h2
theorem bs3 (a c:UInt8) (x:List UInt8) (k:Nat) (hk:k<x.length):((x.take k).map (fun y=>if y=a then c else y)++x.drop k)[k]? = some x[k]:=by rw[List.getElem?_append_right (by simp;omega)];simp only[List.length_map,List.length_take];rw[Nat.min_eq_left (by omega),Nat.sub_self,List.getElem?_drop,Nat.add_zero];exact gEl hk
theorem bd6 (a c:UInt8) (x:List UInt8) (k:Nat) (hk:k<x.length) (y:UInt8) (hy:y=if x[k]=a then c else x[k]):(x.take (k+1)).map (fun y=>if y=a then c else y)++x.drop (k+1)=((x.take k).map (fun y=>if y=a then c else y)++x.drop k).set k y:=by
 have h1:x.drop k=x[k]::x.drop (k+1):=List.drop_eq_getElem_cons hk;have h2:x.take (k+1)=x.take k++[x[k]]:=by rw[List.take_add_one,gEl hk];rfl
 have h3:((x.take k).map (fun y=>if y=a then c else y)).length=k:=by simp;omega
 rw[h1,h2,List.set_append_right _ _ (by omega),h3,Nat.sub_self,List.set_cons_zero];subst hy;simp only[List.map_append,List.map_cons,List.map_nil,List.append_assoc,List.cons_append,List.nil_append]
theorem bS1 (w:World) (blk:Option Nat) (ba bt:Nat) (a c:UInt8) (ha:w.cell? ⟨ba,0,none⟩=some (U a)) (ht:w.cell? ⟨bt,0,none⟩=some (U c)) (hna:some ba≠blk) (hnt:some bt≠blk) :
 aH7 257 #[.pointer (some ⟨ba,0,none⟩),.pointer (some ⟨bt,0,none⟩)] (Y7 a c) blk w:=by
 intro W b cap x hgr hb1 hb2 hc1 hc2 hx hH;have ha1:W.cell? ⟨ba,0,none⟩=some (U a):=ap6 hgr ha hna;have ht1:W.cell? ⟨bt,0,none⟩=some (U c):=ap6 hgr ht hnt;have hba:ba<b:=Nat.lt_of_lt_of_le (bLt w _ ha) hb1;have hbt:bt<b:=Nat.lt_of_lt_of_le (bLt w _ ht) hb1;have HH:Hid _:=hH;clear hgr hH ha ht;show Calls Tryz.prog 257 #[.slice (some ⟨b,0,none⟩) x.length cap,.pointer (some ⟨ba,0,none⟩),.pointer (some ⟨bt,0,none⟩)] W _;obtain⟨L,hL⟩:=qE x.length;have HL:=qH hL;have hL4:L<=300000:=by omega
 have hLc:L<=cap:=by omega
 have Uk:cap<=9223372036854775807:=by simpa[maxLen] using hc2
 rw[<- hL];clear hL hc1 hx;go_enter Tryz.func257,Tryz.ntmps257;go_wp2_with fail
 go_loopw [9] (fun i wr=>∃k:Nat,k<=L/\i=.int .i64 k/\Hid (Sort.Holds U wr b 0 ((x.take k).map (fun y=>if y=a then c else y)++x.drop k).toArray)/\Hid (Below b W wr))
  (fun i _=>L-(intOf i).toNat)
 case atStart=>exact⟨0,Nat.zero_le _,rfl,HH.out,Below.refl _ _⟩
 case round=>
  obtain⟨k,hk,rfl,hh,Aa⟩:=hrel;by_cases hlt:k<L
  .
   have hkx:k<x.length:=by have:=HL.out;omega
   have hlen:((x.take k).map (fun y=>if y=a then c else y)++x.drop k).length=x.length:=by simp;omega
   have Hj:=hh.out k (by simp only[List.size_toArray];omega);have Ac:wr.cell? ⟨b,k,none⟩=some (U x[k]):=by have:=Hj.1;rw[Nat.zero_add] at this;rw[this];simp only[List.getElem!_toArray];rw[List.getElem!_eq_getElem?_getD,bs3 a c x k hkx];rfl
   have hfro:wr.frozen? ⟨b,k,none⟩=false:=by have:=Hj.2;rwa [Nat.zero_add] at this
   have ha2:wr.cell? ⟨ba,0,none⟩=some (U a):=(Aa.out.cell hba).trans ha1;have ht2:wr.cell? ⟨bt,0,none⟩=some (U c):=(Aa.out.cell hbt).trans ht1;clear Hj ha1 ht1;unfold U at Ac ha2 ht2;by_cases hxa:x[k]=a
   . have HS:Hid _:=bd6 a c x k hkx c (by rw[if_pos hxa]);have hxe:(x[k].toNat:Int)=(a.toNat:Int):=by rw[hxa]
     rw[hxe] at Ac;clear hxe hxa;have HN:Hid (Sort.Holds U (wr.setCell ⟨b,k,none⟩ (U c)) b 0 ((x.take (k+1)).map (fun y=>if y=a then c else y)++x.drop (k+1)).toArray):=bS0 hh.out HS.out;have HB:Hid (Below b W (wr.setCell ⟨b,k,none⟩ (U c))):=Aa.out.setCell (Nat.le_refl _) _;clear hh Aa;go_wp2_with fail;go_roundw
     case rel=>exact⟨k+1,by omega,by go_num,HN.out,HB.out⟩
     case measure=>simp[intOf];omega
   .
    have HS:Hid _:=bd6 a c x k hkx x[k] (by rw[if_neg hxa]);have Bm:((x.take k).map (fun y=>if y=a then c else y)++x.drop k).set k x[k]=(x.take k).map (fun y=>if y=a then c else y)++x.drop k:=by
     apply List.ext_getElem?;intro j;by_cases hj:j=k
     . subst hj;rw[List.getElem?_set_self (by omega),bs3 a c x j hkx]
     . rw[List.getElem?_set_ne (Ne.symm hj)]
    have hne:¬((x[k].toNat:Int)=(a.toNat:Int)):=fun h=>hxa (UInt8.toNat_inj.1 (by exact_mod_cast h));have HN:Hid (Sort.Holds U wr b 0 ((x.take (k+1)).map (fun y=>if y=a then c else y)++x.drop (k+1)).toArray):=by rw[HS.out,Bm];exact hh.out
    clear Bm HS hh;go_wp2_with fail;go_roundw
    case rel=>exact⟨k+1,by omega,by go_num,HN.out,Aa.out⟩
    case measure=>simp[intOf];omega
  . have hkL:k=L:=by omega
    have HC:Hid ((convert 28 9 (.slice (some ⟨b,0,none⟩) L cap)).run Tryz.prog wr=.ok (.string ⟨(Y7 a c x).toArray⟩) wr):=by have h1:=hh.out;rw[hkL,HL.out,List.take_length,List.drop_length,List.append_nil] at h1;have h2:=aL6 (x:=x.map (fun y=>if y=a then c else y)) (cap:=cap) h1 (by have:=HL.out;simp;omega) hc2;have h3:=ag0 h2;rw[List.length_map,<- HL.out] at h3;exact h3
    clear hh ha1 ht1;go_wp2_with fail;go_ret;exact⟨_,rfl,HC.out,Aa.out⟩
def aT0 (x:List UInt8):List Int:=x.map fun c=>(c.toNat:Int)
theorem bs4 (x:List UInt8):Lib.bytesOf (aT0 x)=x:=by
 unfold Lib.bytesOf aT0;rw[List.map_map];conv=>rhs;rw[<- List.map_id x]
 apply List.map_congr_left;intro c _;simp
theorem bs5 (x:List UInt8):∀n∈aT0 x,0<=n/\n<256:=by intro n hn;obtain⟨c,_,rfl⟩:=List.mem_map.1 hn;have:=c.toNat_lt;omega
theorem bD9 (n:Int) (x p:List UInt8) (h1:1<=n) (hp:(Lib.split x [32])[(n-1).toNat]? = some p):P7 n x=p:=by unfold P7;rw[hp];rfl
theorem bE0 (n:Int) (x:List UInt8) (h:(Lib.split x [32]).length<n):P7 n x=[]:=by unfold P7;rw[List.getElem?_eq_none (by omega)];rfl
theorem bd7 (x:List UInt8):(Lib.split x [32]).length=Lib.count x [32]+1:=by have h:=Lib.splitB_all ⟨#[32]⟩ (by decide) 0 _ ⟨x.toArray⟩ rfl;have h2:=congrArg List.length (Lib.splitB_data ⟨#[32]⟩ 0 (Lib.countB ⟨x.toArray⟩ ⟨#[32]⟩) ⟨x.toArray⟩);rw[List.length_map,h] at h2;exact h2.symm
theorem count_le (x:List UInt8):Lib.count x [32]<=x.length:=by have h:=Lib.countB_le ⟨#[32]⟩ (by decide) _ ⟨x.toArray⟩ (Nat.le_refl _);simpa[ByteArray.size] using h
theorem bs6 (W:World) (b cap b2:Nat) (x:List UInt8) (m:Int) (h1:x.length<=cap) (h2:cap<=maxLen) (hx:x.length<=300000) (hH:Sort.Holds U W b 0 x.toArray) (hs:W.cell? ⟨b2,0,none⟩=some (.int .u8 32)) (hm:W.cell? ⟨0,0,none⟩=some (.int .i64 m)) :
 Calls Tryz.prog 259 #[.slice (some ⟨b,0,none⟩) x.length cap,.slice (some ⟨b2,0,none⟩) 1 1] W fun e w'=>
  e=.returned (.slice (some ⟨W.heap.size,0,none⟩) (Lib.split x [32]).length (Lib.split x [32]).length)/\Bq W w' /\
   ∀j p,(Lib.split x [32])[j]? = some p -> ∃v,w'.cell? ⟨W.heap.size,j,none⟩=some v/\(convert 28 9 v).run Tryz.prog w'=.ok (.string ⟨p.toArray⟩) w':=by
 have Ee:∀(b o i:Nat),(⟨b,o,none⟩:Addr).add i=⟨b,o+i,none⟩:=fun b o i=>by unfold Addr.add;split <;> simp_all
 have hc1:∀i,i<x.length->W.cell? ((⟨b,0,none⟩:Addr).add i)=some (.int .u8 ((aT0 x).getD i 0)):=by intro i hi;rw[Ee,(hH i (by simpa using hi)).1];simp[aT0,U,getElem!_pos,hi]
 have hc2:∀i,i<1->W.cell? ((⟨b2,0,none⟩:Addr).add i)=some (.int .u8 (([32]:List Int).getD i 0)):=by
  intro i hi;obtain rfl:i=0:=by omega
  rw[Ee];exact hs
 have h:=Tryz.bytes_Split ⟨b,0,none⟩ ⟨b2,0,none⟩ x.length cap 1 1 (aT0 x) [32] m W (by simp[aT0]) rfl (bs5 x) (by decide) hc1 hc2 h1 (by omega) (by omega) (by unfold maxLen at h2;omega) (Nat.le_refl _) hm;rw[bs4,show Lib.bytesOf [32]=[32] from rfl] at h;refine h.mono ?_;rintro e w' ⟨rfl,q,rfl⟩;have hl:=bd7 x;refine⟨by rw[hl],below_drewN' ((Below.refl _ W).alloc (Nat.le_refl _) _) q,?_⟩;intro j p hj;have hlen:=Lib.splitV_length [32] 0 (Lib.count x [32]) ⟨b,0,none⟩ cap x;have hjl:j<(Lib.splitV [32] 0 (Lib.count x [32]) ⟨b,0,none⟩ cap x).length:=by rw[hlen];exact (gSm hj).1
 obtain⟨v,hv⟩:∃v,(Lib.splitV [32] 0 (Lib.count x [32]) ⟨b,0,none⟩ cap x)[j]? = some v:=⟨_,gEl hjl⟩;obtain⟨a',off,len,cp,rfl,h3,h4,h5,h6⟩:=Lib.splitV_spec [32] 0 (by decide) (by decide) (Lib.count x [32]) ⟨b,0,none⟩ cap x h1 j v hv;have hp:p=(x.drop off).take len:=by have:(Lib.split x [32])[j]? = some ((x.drop off).take len):=h5;rw[hj] at this;exact Option.some.inj this
 refine⟨.slice (some a') len cp,?_,?_⟩
 . show (W.alloc _).cell? _=_;rw[cell_of_row _ _ _ _ _ _ (heap_alloc_new W _)];simpa using hv
 .
  have hpl:p.length=len:=by rw[hp];simp;omega
  have:=run_convert_bytes_back (P:=Tryz.prog) ((W.alloc (.cells (Lib.splitV [32] 0 (Lib.count x [32]) ⟨b,0,none⟩ cap x).toArray 28)).drewN q) 28 9 5 a' cp p Tryz.underlying28 Tryz.underlying5 Tryz.underlying9 (fun i hi=>by
   rw[h6 i (by omega),Ee]
   have hox:off+i<x.length:=by omega
   have hcx:=(hH (off+i) (by simpa using hox)).1
   show (W.alloc _).cell? _=_
   rw[Lib.cell?_alloc_some _ (by simpa using hcx)]
   subst hp
   simp[U,hox])
  rw[hpl] at this;exact this
theorem bE1 (w:World) (blk:Option Nat) (bn:Nat) (n m:Int) (hn1:1<=n) (hn2:n<=1000) (hbn:w.cell? ⟨bn,0,none⟩=some (.int .i64 n)) (hnb:some bn≠blk) (hm:w.cell? ⟨0,0,none⟩=some (.int .i64 m)) (hnm:some 0 ≠ blk) :
 aH7 258 #[.pointer (some ⟨bn,0,none⟩)] (P7 n) blk w:=by
 intro W b cap x hgr hb1 hb2 hc1 hc2 hx hH;have hn0:W.cell? ⟨bn,0,none⟩=some (.int .i64 n):=ap6 hgr hbn hnb;have hm0:W.cell? ⟨0,0,none⟩=some (.int .i64 m):=ap6 hgr hm hnm;have hmb:0 < W.heap.size:=bLt W _ hm0;have hbw:bn<W.heap.size:=bLt W _ hn0;clear hgr hbn hm
 have hsp:=bs6 (W.alloc (.cells #[.int .u8 32] 5)) b cap W.heap.size x m hc1 hc2 hx
  (fun j hj=>⟨Lib.cell?_alloc_some _ (hH j hj).1,by rw[World.frozen?_alloc_old _ _ _ (by show b≠W.heap.size;omega)];exact (hH j hj).2⟩) (by simp) (Lib.cell?_alloc_some _ hm0)
 have hPl:=bd7 x;have hPc:=count_le x;have HF1:=bD9 n x;have HF2:=bE0 n x;generalize hP:Lib.split x [32]=P at *;clear hH hP;show Calls Tryz.prog 258 #[.slice (some ⟨b,0,none⟩) x.length cap,.pointer (some ⟨bn,0,none⟩)] W _;obtain⟨N,hN⟩:=qE P.length;have hN4:N<=300001:=by omega
 have hN1:1<=N:=by omega
 rw[<- hN] at hsp HF2;by_cases hnN:n<=N
 .
  obtain⟨p,hp⟩:∃p,P[(n-1).toNat]? = some p:=⟨_,gEl (by omega)⟩;have HE:Hid _:=HF1 p hn1 hp;have Hp:Hid _:=hp;clear HF1 HF2 hp hPl hPc hN;go_enter Tryz.func258,Tryz.ntmps258;go_wp2_with fail;refine hsp.mono ?_;rintro e w1 ⟨rfl,Aa,hpc⟩;obtain⟨v,hv,hcv⟩:=hpc _ _ Hp.out;have hn1':w1.cell? ⟨bn,0,none⟩=some (.int .i64 n):=(Aa.cell (by show bn<_;simp;omega)).trans (Lib.cell?_alloc_some _ hn0);have HB:Hid (Below b W w1):=(((Below.refl _ W).alloc (Nat.le_refl _) _).trans (Aa.mono (by simp))).mono (by omega);have Yu:((n-1).toNat:Int)=n-1:=by omega
  obtain⟨i,hi⟩:=qE ((n-1).toNat:Nat);have hni:n=(i:Int)+1:=by omega
  rw[<- hi] at hv;have HC:Hid _:=hcv;clear hsp hpc Aa hcv Yu hi hn0 hm0;subst hni;have hv':w1.cell? ⟨W.heap.size+1,i,none⟩=some v:=by simpa using hv
  clear hv;go_wp2_with fail;go_ret;exact⟨_,rfl,by rw[HE.out];exact HC.out,HB.out⟩
 . have HE:Hid _:=HF2 (by omega);clear HF1 HF2 hPl hPc hN;go_enter Tryz.func258,Tryz.ntmps258;go_wp2_with fail;refine hsp.mono ?_;rintro e w1 ⟨rfl,Aa,hpc⟩;have hn1':w1.cell? ⟨bn,0,none⟩=some (.int .i64 n):=(Aa.cell (by show bn<_;simp;omega)).trans (Lib.cell?_alloc_some _ hn0);have HB:Hid (Below b W w1):=(((Below.refl _ W).alloc (Nat.le_refl _) _).trans (Aa.mono (by simp))).mono (by omega);clear hsp hpc Aa hn0 hm0;go_wp2_with fail;go_ret;refine⟨_,rfl,?_,HB.out⟩;rw[HE.out];exact run_convert_bytes_nil (P:=Tryz.prog) _ 28 5 Tryz.underlying28 Tryz.underlying5 _ _ 9 Tryz.underlying9
theorem bS2 (sx:ByteArray) (n:Int) (v:Value) (ls:List (List UInt8)) (w:World) (B:Nat) (hB:B<=w.heap.size) (Ab:w.ownsRow B 9 1 v ls.length (ls.map S)) (hl:ls.length<=300000) (hsz:∀s∈ls,s.length<=300000) :
 Calls Tryz.prog 157 #[.agg #[.int .i64 5,.string sx,.int .i64 n],v] w fun e w'=>∃r,e=.returned r/\Reads w' r (ls.map List.reverse).length ((ls.map List.reverse).map S)/\Below B w w':=by
 have hsf:=fun (a:Addr) (c:Array Value) (w:World)=>run_store Tryz.prog w a (.func (.func 203) #[] c) .plain rfl;have eg:∀args w,(callFunc 209 args).run Tryz.prog w=.ok (.enter 209 args) w:=enters_of Tryz.func209 (by kernel_rfl) rfl;have Ho:=qH Ab;have HE:Hid _:=eg;clear Ab eg;go_enter Tryz.func157,Tryz.ntmps157;go_wp2_with fail;refine (aS9 v 209 #[] List.reverse HE.out ls _ B ?_ (I8 Ho.out C9) hl hsz (fun g _=>bR9 _ _)).mono ?_
 . have:=(C9 (w:=w) (o:=.cells #[.int .i64 5,.string sx,.int .i64 n] 70) (p:=.cells #[.nilFunc] 127)).size;simp;omega
 rintro e w1 ⟨r,rfl,hr1,Bz⟩;have R:Hid _:=hr1;have HB:Hid (Below B w w1):=((C9.mono hB).trans Bz);clear hr1 Bz;go_wp2_with fail;go_ret;exact⟨_,rfl,R.out,HB.out⟩
theorem bs7 (n:Int) (w:World) :
 Calls Tryz.prog 208 #[.int .i64 n] w fun e w'=>e=.returned (.func (.func 258) #[] #[.pointer (some ⟨w.heap.size,0,none⟩)])/\w'=w.alloc (.cells #[.int .i64 n] 3):=by go_enter Tryz.func208,Tryz.ntmps208;go_wp2_with fail;go_ret;exact⟨rfl,rfl⟩
theorem bE2 (a c:UInt8) (w:World) :
 Calls Tryz.prog 207 #[U a,U c] w fun e w'=>e=.returned (.func (.func 257) #[] #[.pointer (some ⟨w.heap.size,0,none⟩),.pointer (some ⟨w.heap.size+1,0,none⟩)])/\w'=(w.alloc (.cells #[U a] 5)).alloc (.cells #[U c] 5):=by unfold U;go_enter Tryz.func207,Tryz.ntmps207;go_wp2_with fail;go_ret;exact⟨rfl,rfl⟩
theorem bE3 {w:World} {o p:Obj} {u:Value} {t:TypeId}:(((w.alloc o).alloc p).alloc (.cells #[u] t)).cell? ⟨w.heap.size+2,0,none⟩=some u:=by
 have h:((w.alloc o).alloc p).heap.size=w.heap.size+2:=by simp
 rw[<- h,cell_of_row _ _ _ _ _ _ (heap_alloc_new _ _)];rfl
theorem aL7 {B:Nat} {w:World} (q:Nat) (os:Array Obj) (hB:B<=w.heap.size):Below B w (Sort.grow (w.drewN q) os):=by have h1:Bq w (w.drewN q):=below_drewN' (Below.refl _ _) q;have h2:=Go.Proofs.below_grown (w.drewN q) 0 os;rw[Sort.ahead_zero] at h2;exact (h1.trans (h2.mono h1.size)).mono hB
theorem bs8 {w:World} {o p q:Obj}:Bq w (((w.alloc o).alloc p).alloc q):=C9.alloc (by simp;omega) q
theorem bE4 (sx:ByteArray) (n m:Int) (v:Value) (ls:List (List UInt8)) (w:World) (B:Nat) (hB0:0 < B) (hB:B<=w.heap.size) (Ab:w.ownsRow B 9 1 v ls.length (ls.map S)) (hl:ls.length<=300000) (hsz:∀s∈ls,s.length<=300000) (hn1:1<=n) (hn2:n<=1000) (hm:w.cell? ⟨0,0,none⟩=some (.int .i64 m)) :
 Calls Tryz.prog 157 #[.agg #[.int .i64 4,.string sx,.int .i64 n],v] w fun e w'=>∃r,e=.returned r/\Reads w' r (ls.map (P7 n)).length ((ls.map (P7 n)).map S)/\Below B w w':=by
 have hsf:=fun (a:Addr) (c:Array Value) (w:World)=>run_store Tryz.prog w a (.func (.func 203) #[] c) .plain rfl;have eg:∀args w,(callFunc 258 args).run Tryz.prog w=.ok (.enter 258 args) w:=enters_of Tryz.func258 (by kernel_rfl) rfl;have Ho:=qH Ab;have HE:Hid _:=eg;have HM:Hid _:=hm;clear Ab eg hm;go_enter Tryz.func157,Tryz.ntmps157;go_wp2_with fail;refine (bs7 n _).mono ?_;rintro e w3 ⟨rfl,hw3⟩;have hb3:Bq w w3:=by rw[hw3];exact bs8
 have hc3:w3.cell? ⟨w.heap.size+2,0,none⟩=some (.int .i64 n):=by rw[hw3];exact bE3
 have hm3:w3.cell? ⟨0,0,none⟩=some (.int .i64 m):=(hb3.cell (by show 0 < _;omega)).trans HM.out
 have hE:=aS9 v 258 #[.pointer (some ⟨w.heap.size+2,0,none⟩)] (P7 n) HE.out ls w3 B (by have:=hb3.size;omega) (I8 Ho.out hb3) hl hsz
  (fun g hg=>by
   obtain⟨h1,h2⟩:=Ho.out.lt g hg
   exact bE1 w3 (some g) (w.heap.size+2) n m hn1 hn2 hc3 (by intro e;cases e;omega) hm3 (by intro e;cases e;omega))
 have HB3:Hid _:=hb3;clear hw3 hb3 hc3 hm3;go_wp2_with fail;refine hE.mono ?_;rintro e w1 ⟨r,rfl,hr1,Bz⟩;have R:Hid _:=hr1;have HB:Hid (Below B w w1):=((HB3.out.mono hB).trans Bz);clear hr1 Bz hE;go_wp2_with fail;go_ret;exact⟨_,rfl,R.out,HB.out⟩
theorem bE5 (sx:ByteArray) (n:Int) (ao:Option Addr) (L cap:Nat) (w:World) (hL:L<=300000) (htab:∀W,Bq w W->Lib.TabIs Tryz.prog W "internal/strconv.uint64pow10" .u64 Lib.pow10Tab) :
 Calls Tryz.prog 157 #[.agg #[.int .i64 8,.string sx,.int .i64 n],.slice ao L cap] w fun e w'=>∃r,e=.returned r/\Reads w' r 1 [S (Lib.itoa (L:Int))]/\Bq w w':=by
 have hsf:=fun (a:Addr) (c:Array Value) (w:World)=>run_store Tryz.prog w a (.func (.func 203) #[] c) .plain rfl;have hI:=fun (W:World) (h:Bq w W)=>Tryz.strconv_Itoa L (by omega) (by omega) W (htab W h);obtain⟨t,ht⟩:=qE (Lib.itoa (L:Int));rw[<- ht] at hI ⊢;have HI:Hid _:=hI;clear htab hI ht;go_enter Tryz.func157,Tryz.ntmps157;go_wp2_with fail;refine (HI.out _ C9).mono ?_;rintro e w1 ⟨rfl,q,os,hw1⟩;have HB:Hid (Bq w w1):=by rw[hw1];exact C9.trans (aL7 _ _ (by simp;omega))
 clear hw1;go_wp2_with fail;go_ret;exact⟨_,rfl,by simpa[S] using aG6 w1 #[S t] 9 (0,0) 1 rfl (by omega),HB.out.trans (((Below.refl _ w1).alloc (Nat.le_refl _) _).mono HB.out.size)⟩
end Go.Proofs.YtllgglolcgdehaaGreatDoor
namespace Go.Proofs.YtllgglolcgdehaaGreatDoor
open Go.RowKit Go.Gs Go.Lib
set_option linter.unusedVariables false
theorem cv6:(Tryz.prog.info? 5).map (fun i=>(i.zero,i.size,i.bytes))=some (some (.int .u8 0),1,1):=by kernel_rfl
theorem aA8 (ao:Option Addr) (cap:Nat) (w:World) :
 Calls Tryz.prog 152 #[.slice ao 0 cap] w fun e w'=>e=.returned (.slice none 0 0)/\w'=w:=by
 go_enter Tryz.func152,Tryz.ntmps152;go_wp2;go_loopw [3,8] (fun v3 i wr=>v3=.slice none 0 0/\i=.int .i64 0/\wr=w) (fun _ _ _=>0)
 case atStart=>exact⟨rfl,rfl,rfl⟩
 case round=>obtain⟨rfl,rfl,rfl⟩:=hrel;go_wp2;go_ret;exact⟨rfl,rfl⟩
theorem aN8 (ls:List (List UInt8)) (k:Nat) (h:k<ls.length):ended (ls.take (k+1))=ended (ls.take k)++ls[k]++[10]:=by rw[List.take_succ_eq_append_getElem h,I1];simp[ended]
theorem aY4 (ls:List (List UInt8)) (k:Nat):(ended (ls.take k)).length<=(ended ls).length:=by have:=al0 ls 0 k;simpa using this
theorem cp9 {w wr w1 w2:World} {v v1 v2:Value} {n:Nat} {E l:List UInt8} {o:Obj}
 (Ab:wr.ownsRow w.heap.size 5 1 v n (E.map U)) (Aa:Bq w wr)
 (Bj:w1.ownsRow w.heap.size 5 1 v1 (n+l.length) (E.map U++l.map U)) (Du:wr.grownBy w1 v.ownBlock)
 (Dh:w2.ownsRow w.heap.size 5 1 v2 (n+l.length+1) (E.map U++(l.map U++[.int .u8 10]))) (An:(w1.alloc o).grownBy w2 v1.ownBlock) :
 w2.ownsRow w.heap.size 5 1 v2 (n+l.length+1) ((E++l++[10]).map U)/\Bq w w2:=by have hb1:Bq w w1:=Aa.grown Du (by have:=Aa.size;omega) (fun k hk=>(Ab.lt k hk).1);refine⟨by simpa[U] using Dh,?_⟩;exact (hb1.alloc (by have:=hb1.size;omega) o).grown An (by have:=hb1.size;simp;omega) (fun k hk=>(Bj.lt k hk).1)
theorem bE6 (b off cap:Nat) (ls:List (List UInt8)) (w:World) (h0:0<ls.length) (hle:(ended ls).length<=1000000)
 (hc:∀j u,(ls.map S)[j]? = some u->w.cell? ⟨b,off+j,none⟩=some u) :
 Calls Tryz.prog 152 #[.slice (some ⟨b,off,none⟩) ls.length cap] w fun e w'=>∃r,e=.returned r /\
  w'.ownsRow w.heap.size 5 1 r (ended ls).length ((ended ls).map U)/\Bq w w':=by
 obtain⟨i0,hi,hz0,hz1,hz2⟩:=info_parts cv6;have hbB:b<w.heap.size:=bLt w _ (hc 0 (S ls[0]) (by simp[h0]));have hnl:ls.length<=1000000:=Nat.le_trans (aq5 ls) hle;generalize hn:ls.length=n at *;go_enter Tryz.func152,Tryz.ntmps152;go_wp2
 go_loopw [3,8] (fun v3 i wr=>∃(k m:Nat),k<=n/\i=.int .i64 k/\Hid (m=(ended (ls.take k)).length)/\wr.ownsRow w.heap.size 5 1 v3 m ((ended (ls.take k)).map U)/\Bq w wr)
  (fun _ i _=>n-(intOf i).toNat)
 case atStart=>exact⟨0,0,Nat.zero_le _,rfl,by simp[Hid,ended],by simpa[ended] using World.ownsRow_nil _ _ _ _,Below.refl _ _⟩
 case round=>
  obtain⟨k,m,hk,rfl,hm,Ab,Aa⟩:=hrel;by_cases hlt:k<n
  .
   have Ac:wr.cell? ⟨b,off+k,none⟩=some (.string ⟨(ls[k]'(by omega)).toArray⟩):=(Aa.cell (by exact hbB)).trans (hc k _ (by simp[S,hn,hlt]));have Hs:Hid _:=aN8 ls k (by omega);have Qd:=aY4 ls (k+1);have hlen:m+(ls[k]'(by omega)).length+1<=1000000:=by rw[Hs.out] at Qd;simp only[List.length_append,List.length_cons,List.length_nil,hm.out] at *;omega
   clear Qd hc;generalize hl:ls[k]'(by omega)=l at *;have Hl:Hid _:=hl;clear hl;obtain⟨sx,hsx⟩:=qE (⟨l.toArray⟩:ByteArray);have hsz:sx.size=l.length:=by rw[hsx];simp[ByteArray.size]
   have hcs:strCells sx=l.map U:=by rw[hsx];simp[strCells,U]
   rw[<- hsx] at Ac;have Hsx:Hid _:=hsx;have Hsz:Hid _:=hsz;have Hcs:Hid _:=hcs;have hb63:m+sx.size+1<=1000000:=by omega
   clear hsx hsz hcs;generalize hE:(ended (ls.take k))=E at *;have HE:Hid _:=hE;clear hE;have hsz0:=Aa.size;go_wp2_with (first | (at_builtin;refine wpList_append_own_string _ rfl (.tmp 12) (.tmp 13) 28 9 rfl w.heap.size 5 i0 Tryz.underlying28 Tryz.underlying9 hi hz0 hz1 hz2 _ _ _ rfl Ab sx rfl (by unfold maxLen;omega) (by omega) (by omega) ?_;intro v1 w1 Bj Du _) | (at_builtin;refine wpList_append_own _ rfl (.tmp 15) (.tmp 16) 28 rfl w.heap.size 5 i0 (.int .u8 0) 1 1 Tryz.underlying28 hi hz0 hz1 hz2 rfl (by decide) _ _ _ rfl (Bj.alloc _) ⟨w1.heap.size,0,none⟩ 1 1 [.int .u8 10] rfl rfl ?c1 ?c2 ?c3 ?c4 ?c5 ?_))
   case c1=>
    intro j u hj
    match j,hj with
    | 0,hj=>simp at hj;subst hj;simp[Addr.add]
   case c2=>intro u hu;simp at hu;subst hu;rfl
   case c3=>unfold maxLen;omega
   case c4=>omega
   case c5=>have:=Du.size;simp;omega
   . intro v2 w2 Dh An _;rw[Hcs.out,Hsz.out] at Bj Dh;have R:=cp9 Ab Aa Bj Du Dh An;rw[<- Hs.out] at R;have hm2:m+l.length+1=(ended (ls.take (k+1))).length:=by rw[Hs.out,hm.out];simp;omega
     have Hm2:Hid _:=hm2;clear hm2 Bj Dh Du An Ab Aa Ac;go_wp2;go_roundw
     case rel=>exact⟨k+1,m+l.length+1,by omega,by go_num,Hm2,R.1,R.2⟩
     case measure=>simp[intOf];omega
  . have hkn:k=n:=by omega
    subst hkn;subst hn;rw[List.take_length] at hm Ab;clear hc;go_wp2;go_ret;rw[hm.out] at Ab;exact⟨_,rfl,Ab,Aa⟩
theorem aa5 (v:Value) (ls:List (List UInt8)) (w:World) (hr:Reads w v ls.length (ls.map S)) (hle:(ended ls).length<=1000000) :
 Calls Tryz.prog 152 #[v] w fun e w'=>∃r,e=.returned r /\
  w'.ownsRow w.heap.size 5 1 r (ended ls).length ((ended ls).map U)/\Bq w w':=by
 obtain⟨_,ao,cap,rfl,h2,h3,h4⟩:=hr;by_cases h0:ls.length=0
 . have hb:ls=[]:=List.eq_nil_of_length_eq_zero h0;subst hb;refine (aA8 ao cap w).mono ?_;rintro e w' ⟨rfl,rfl⟩;exact⟨_,rfl,by simpa[ended] using World.ownsRow_nil _ _ _ _,Below.refl _ _⟩
 . obtain⟨b,off,rfl,hc⟩:=h4 h0;exact bE6 b off cap ls w (by omega) hle hc
end Go.Proofs.YtllgglolcgdehaaGreatDoor
namespace Go.Proofs.YtllgglolcgdehaaGreatDoor
open Go.RowKit Go.Gs
set_option linter.unusedVariables false
theorem av0 (l:List UInt8):(0<=Lib.indexByte l 10 ↔ (10:UInt8)∈l):=by
 induction l with
 | nil=>simp[Lib.indexByte]
 | cons c l ih=>
  unfold Lib.indexByte
  by_cases h:c=10
  . simp[h]
  .
   have hb:(c == 10)=false:=by simp[h]
   have hg:=Lib.indexByte_ge l 10
   have hm:(10:UInt8)∈c::l ↔ (10:UInt8)∈l:=by
    rw[List.mem_cons]
    exact⟨fun k=>k.resolve_left (fun e=>h e.symm),Or.inr⟩
   rw[hm,<- ih,hb]
   by_cases hi:Lib.indexByte l 10 = -1
   . simp[hi]
   . have hb2:(Lib.indexByte l 10 == -1)=false:=by simp[hi]
     rw[hb2]
     simp only[Bool.false_eq_true,if_false]
     omega
end Go.Proofs.YtllgglolcgdehaaGreatDoor
