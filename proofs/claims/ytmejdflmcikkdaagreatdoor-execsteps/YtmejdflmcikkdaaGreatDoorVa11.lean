/- What the developers' each does with a function that makes bytes of a line's bytes, and more. -/
import Derived.Test.YtmejdflmcikkdaaGreatDoorVAb
import Derived.Test.YtmejdflmcikkdaaGreatDoorVSh2
import Derived.Lib.SlSplitV
import Derived.Test.YtmejdflmcikkdaaGreatDoorVa06
set_option linter.all false
set_option maxRecDepth 100000
set_option maxHeartbeats 64000000
namespace Go.Proofs.YtmejdflmcikkdaaGreatDoor
open Go.RowKit Go.Gs Tryz
variable {w W w1 wr:World}{blk:Option Nat}{g k B cap L b:Nat}{u:Value}{a:Addr}{ls:qL}{F:qU->qU}{lb:Array Value}{x d e:qU}{sx:ByteArray}{c:UInt8}{o p:Obj}{t:TypeId}
def aD1(g:Nat)(lb:Array Value)(F:qU->qU)(blk:Option Nat)(w:World):Prop:=
 ∀(W:World)(b cap:Nat)(x:qU),w.grownBy W blk->w.heap.size<=b->b<W.heap.size->x.length<=cap->cap<=maxLen->x.length<=75000000->Sort.Holds U W b 0 x.toArray ->
  Calls prog g (#[.slice (some ⟨b,0,none⟩) x.length cap]++lb) W fun e w'=>∃r,e=.returned r/\(convert 28 9 r).run prog w'=.ok (.string ⟨(F x).toArray⟩) w'/\Below b W w'
theorem grown_of(h:Bq w W):w.grownBy W blk:=⟨h.os,h.tape,h.output,h.size,fun k hk _=>h.block k hk⟩
theorem ao0{w2:World}(h:w.grownBy w1 blk)(k:w1.grownBy w2 blk):w.grownBy w2 blk:=
 ⟨k.os.trans h.os,k.tape.trans h.tape,k.output.trans h.output,qc h.size k.size,fun j hj hne=>(k.block j (zJ hj h.size) hne).trans (h.block j hj hne)⟩
theorem bK2:w.grownBy (w.setCell ⟨g,k,none⟩ u) (some g):=
 ⟨rfl,rfl,rfl,by simp,fun j hj hne=>Below.heap_setCell w _ u j (fun e=>hne (by rw[e]))⟩
theorem grown_below(h:w.grownBy W (some g))(hB:B<=w.heap.size)(hg:B<=g):Below B w W:=
 ⟨h.os,h.tape,h.output,h.size,fun k hk=>h.block k qO (fun e=>by cases e;omega)⟩
theorem ak0(h:w.grownBy W blk)(hc:w.cell? a=some u)(hne:some a.block≠blk):W.cell? a=some u:=
 (World.cell?_of_block (h.block a.block (bLt w _ hc) hne)).trans hc
theorem aM6(w:World)(s:ByteArray)(cap:Nat)(fr:Nat × Nat)(l:qU)(hl:s.data.toList=l)(hfr:l.length<=fr.1)(hcap:l.length<=cap):Sort.Holds U (w.alloc (.cells (bytesRow s cap) 5 fr)) w.heap.size 0 l.toArray:=by
 subst hl;intro j hj;have hj':j<s.data.size:=by simpa using hj
 have Bi:(w.alloc (.cells (bytesRow s cap) 5 fr)).heap[w.heap.size]?=some (.cells (bytesRow s cap) 5 fr):=qJ w _;constructor
 . rw[qY _ _ _ _ _ _ Bi,qk];unfold bytesRow;rw[Array.getElem?_append_left (by simpa using hj'),Array.getElem?_map,zT hj'];show some (U s.data[j])=some (U (s.data.toList.toArray)[j]!);rw[getElem!_pos _ j hj]
 . simp only[World.frozen?,Bi];have:s.data.size<=fr.1:=by simpa using hfr
   simp;omega
theorem bK3(ls:qL)(F:qU->qU)(k:Nat)(x:qU)(hx:ls[k]?=some x):(((ls.take k).map F++ls.drop k).map S).set k (S (F x))=((ls.take (k+1)).map F++ls.drop (k+1)).map S:=by
 obtain⟨hk,he⟩:=gSm hx;have h1:ls.drop k=x::ls.drop (k+1):=by rw[qt hk,he]
 have h2:ls.take (k+1)=ls.take k++[x]:=by rw[qZ,hx];rfl
 have h3:((ls.take k).map F).length=k:=by simp;omega
 rw[h1,h2];simp only[xF,xy,List.map_nil,zQ,zY,zR];rw[zG _ _ (by simp;omega)];simp[zA (Nat.le_of_lt hk)]
theorem bK4(hL:L=ls.length)(h:w.ownsRow B 9 1 (.slice (some ⟨g,0,none⟩) ls.length cap) ls.length (ls.map S)):w.ownsRow B 9 1 (.slice (some ⟨g,0,none⟩) L cap) L (((ls.take 0).map F++ls.drop 0).map S):=by rw[hL];exact h
theorem bK5{gf:Nat}(hF:aD1 gf lb F (some g) w)(hgr:w.grownBy wr (some g))(hsx:sx=⟨x.toArray⟩)(hx:x.length<=75000000):
 Calls prog gf (#[.slice (some ⟨wr.heap.size,0,none⟩) sx.size (grownCap wr sx.size 0 5)]++lb) (wr.alloc (.cells (bytesRow sx (grownCap wr sx.size 0 5)) 5 ((bytesRow sx (grownCap wr sx.size 0 5)).size,(bytesRow sx (grownCap wr sx.size 0 5)).size+1))).drew
  fun e w'=>∃r,e=.returned r/\(convert 28 9 r).run prog w'=.ok (.string ⟨(F x).toArray⟩) w'/\Bq wr w':=by
 have hs:sx.size=x.length:=by subst hsx;simp[ByteArray.size]
 have hd:sx.data.toList=x:=by subst hsx;rfl
 have hc1:x.length<=grownCap wr sx.size 0 5:=by rw[<- hs];exact grownCap_ge _ _ _ _
 have hc2:grownCap wr sx.size 0 5 <= maxLen:=grownCap_le_maxLen _ _ _ _ (by rw[hs];unfold maxLen;omega);have Ap:x.length<=(bytesRow sx (grownCap wr sx.size 0 5)).size:=by unfold bytesRow;have:sx.data.size=x.length:=hs;simp;omega
 have hB:Bq wr (wr.alloc (.cells (bytesRow sx (grownCap wr sx.size 0 5)) 5 ((bytesRow sx (grownCap wr sx.size 0 5)).size,(bytesRow sx (grownCap wr sx.size 0 5)).size+1))).drew:=
  ((Below.refl _ wr).alloc (qA _) _).drew
 have h:=hF (wr.alloc (.cells (bytesRow sx (grownCap wr sx.size 0 5)) 5 ((bytesRow sx (grownCap wr sx.size 0 5)).size,(bytesRow sx (grownCap wr sx.size 0 5)).size+1))).drew wr.heap.size (grownCap wr sx.size 0 5) x
  (ao0 hgr (grown_of hB)) hgr.size (by simp) hc1 hc2 hx (aM6 wr sx _ _ x hd Ap hc1)
 rw[<- hs]at h;refine h.mono ?_;rintro e w'⟨r,rfl,h1,h2⟩;exact⟨r,rfl,h1,hB.trans h2⟩
theorem bx5(Ab:wr.ownsRow B 9 1 (.slice (some ⟨g,0,none⟩) L cap) L (((ls.take k).map F++ls.drop k).map S))(hgr:w.grownBy wr (some g))(hb:Bq wr w1)(hx:ls[k]?=some x):
 (w1.setCell ⟨g,k,none⟩ (.string ⟨(F x).toArray⟩)).ownsRow B 9 1 (.slice (some ⟨g,0,none⟩) L cap) L (((ls.take (k+1)).map F++ls.drop (k+1)).map S)/\w.grownBy (w1.setCell ⟨g,k,none⟩ (.string ⟨(F x).toArray⟩)) (some g):=by have h1:=((A5 Ab hb).stored k (S (F x))).1;rw[bK3 ls F k x hx]at h1;exact⟨h1,ao0 (ao0 hgr (grown_of hb)) bK2⟩
theorem bV0(hk:k=L)(hL:L=ls.length)(Ab:wr.ownsRow B 9 1 (.slice (some ⟨g,0,none⟩) L cap) L (((ls.take k).map F++ls.drop k).map S)):
 Reads wr (.slice (some ⟨g,0,none⟩) L cap) (ls.map F).length ((ls.map F).map S):=by have h:=Reads.of_owns Ab;rw[hk,hL,qj,List.drop_length,xz]at h;rw[hL,qS];exact h
theorem bK6(g cap gf:Nat)(lb:Array Value)(F:qU->qU)(eg:∀args w,(callFunc gf args).run prog w=.ok (.enter gf args) w)(ls:qL)(w:World)(B:Nat)(hB:B<=w.heap.size)(Ab:w.ownsRow B 9 1 (.slice (some ⟨g,0,none⟩) ls.length cap) ls.length (ls.map S))(hl:ls.length<=75000000)(hsz:∀s∈ls,s.length<=75000000)(hF:aD1 gf lb F (some g) w):
 Calls prog 229 #[.slice (some ⟨g,0,none⟩) ls.length cap,.func (.func gf) #[] lb] w fun e w'=>∃r,e=.returned r/\Reads w' r (ls.map F).length ((ls.map F).map S)/\Below B w w':=by
 have hg:=Ab.lt g rfl;have hcv:=fun(W:World)(s:ByteArray)=>run_bytes_of_string (P:=prog) W 9 28 5 s underlying9 underlying28 underlying5;have hcap:ls.length<=cap/\cap<=maxLen:=by
  rcases Ab.2 with⟨e0,_⟩|⟨g',cap',cur,e0,_,_,h1,h2,_⟩
  . cases e0
  . cases e0;exact⟨h1,h2⟩
 obtain⟨L,hL⟩:=qE ls.length;have HL:=qH hL;have Ho:Hid _:=Ab;have HF:Hid _:=hF;have hL4:L<=75000000:=qO;rw[<- hL];clear hF Ab;rw[<- hL]at hcap;clear hL hl;have Rf:cap<=9223372036854775807:=by simpa[maxLen]using hcap.2
 have hcap1:=hcap.1;go_enter func229,ntmps229;go_wp2_with fail
 go_loopw [9] (fun i wr=>∃k:Nat,k<=L/\i=.int .i64 k/\Hid (wr.ownsRow B 9 1 (.slice (some ⟨g,0,none⟩) L cap) L (((ls.take k).map F++ls.drop k).map S))/\Hid (w.grownBy wr (some g)))
  (fun i _=>L-(intOf i).toNat)
 case atStart=>exact⟨0,qM _,rfl,bK4 HL.o Ho.o,grown_of (Below.refl _ _)⟩
 case round=>
  obtain⟨k,hk,rfl,Ab,hgr⟩:=hrel;by_cases hlt:k<L
  .
   obtain⟨x,hx⟩:∃x,ls[k]?=some x:=⟨_,gEl (by have:=HL.o;omega)⟩;have hxl:x.length<=75000000:=hsz x (mGt hx);have Ai:wr.cell? ⟨g,k,none⟩=some (.string ⟨x.toArray⟩):=by rw[Ab.o.cellAt k qO,qa,qu (by simp;omega)];simp only[qS,qX];rw[zA (by have:=HL.o;omega),xt,xu,Nat.add_zero,hx];rfl
   obtain⟨sx,hsx,Ac⟩:∃sx:ByteArray,Hid (sx=⟨x.toArray⟩)/\wr.cell? ⟨g,k,none⟩=some (.string sx):=⟨_,rfl,Ai⟩;have Hx:Hid _:=hx;clear Ai hx hcv;have hcv:=run_bytes_of_string (P:=prog) wr 9 28 5 sx underlying9 underlying28 underlying5;go_wp2_with fail;refine (bK5 HF.o hgr.out hsx.out hxl).mono ?_;rintro e w1⟨r,rfl,hcb,hb1⟩;have Of:w1.cell? ⟨g,k,none⟩=some (.string sx):=qC hb1 Ac;have hfro1:w1.frozen? ⟨g,k,none⟩=false:=(A5 Ab.o hb1).frozenAt k;have HA:Hid _:=bx5 (w:=w) Ab.o hgr.out hb1 Hx.o;clear hcv Ac Ab hgr hb1;go_wp2_with fail;go_roundw
   case rel=>exact⟨k+1,qO,by go_num,HA.o.1,HA.o.2⟩
   case measure=>simp[intOf];omega
  . have hkL:k=L:=qO;have HR:Hid _:=bV0 hkL HL.o Ab.o;have HB:Hid _:=grown_below hgr.out hB hg.1;clear Ab hgr;go_wp2_with fail;go_ret;exact⟨_,rfl,HR.o,HB.o⟩
theorem aM7(v:Value)(gf:Nat)(lb:Array Value)(F:qU->qU)(eg:∀args w,(callFunc gf args).run prog w=.ok (.enter gf args) w)(ls:qL)(w:World)(B:Nat)(hB:B<=w.heap.size)(Ab:w.ownsRow B 9 1 v ls.length (ls.map S))(hl:ls.length<=75000000)(hsz:∀s∈ls,s.length<=75000000)(hF:∀g,v.ownBlock=some g->aD1 gf lb F (some g) w):
 Calls prog 229 #[v,.func (.func gf) #[] lb] w fun e w'=>∃r,e=.returned r/\Reads w' r (ls.map F).length ((ls.map F).map S)/\Below B w w':=by
 rcases Z6 Ab with⟨rfl,rfl⟩|⟨g,cap,rfl,hBg,hgw,hcap,hcm,hH⟩
 .
  go_enter func229,ntmps229;go_wp2_with fail;go_loopw [9] (fun i wr=>i=.int .i64 0/\wr=w) (fun _ _=>0)
  case atStart=>exact⟨rfl,rfl⟩
  case round=>obtain⟨rfl,rfl⟩:=hrel;go_wp2_with fail;go_ret;exact⟨_,rfl,⟨rfl,none,0,rfl,qA _,by simp,fun h=>absurd rfl h⟩,Below.refl _ _⟩
 . exact bK6 g cap gf lb F eg ls w B hB Ab hl hsz (hF g rfl)
theorem oneU:OneCell U:=fun _=>rfl
theorem ao4(h:Sort.Holds U W b 0 x.toArray)(h1:x.length<=cap)(h2:cap<=maxLen):Reads W (.slice (some ⟨b,0,none⟩) x.length cap) x.length (x.map U):=by
 refine⟨by simp,_,cap,rfl,h1,h2,fun _=>⟨b,0,rfl,fun j u hu=>?_⟩⟩;rw[qa]at hu
 cases hj:x[j]? with
 | none=>rw[hj]at hu;cases hu
 | some c=>rw[hj]at hu;obtain⟨hlt,he⟩:=gSm hj;have:=(h j (by simpa using hlt)).1;rw[this];simp only[xG]at hu;rw[<- hu];simp[getElem!_pos,hlt,he]
theorem bK7(w:World)(blk:Option Nat):aD1 232 #[] List.reverse blk w:=by
 intro W b cap x hgr hb1 hb2 hc1 hc2 hx hH;have Vj:=AnyE.slices_Reverse Tryz.laysRev U oneU b 0 cap x W hH qO;change Calls prog 246 _ _ _ at Vj;have HH:Hid _:=hH;clear hgr hH;show Calls prog 232 #[.slice (some ⟨b,0,none⟩) x.length cap] W _;go_enter func232,ntmps232;go_wp2_with fail;refine Vj.mono ?_;rintro e w1⟨rfl,n,hw1⟩;have HC:Hid ((convert 28 9 (.slice (some ⟨b,0,none⟩) x.length cap)).run prog w1=.ok (.string ⟨x.reverse.toArray⟩) w1):=by
  have h1:Sort.Holds U w1 b 0 x.reverse.toArray:=by rw[hw1];exact Sort.holds_putRow U _ b 0 _ _ (Sort.holds_ahead U W n b 0 _ HH.o) (by simp)
  have h2:=ao4 (cap:=cap) h1 (by simpa using hc1) hc2;have h3:=ah0 (bs:=x.reverse) h2;rw[List.length_reverse]at h3;exact h3
 have HB:Hid (Below b W w1):=by rw[hw1];exact Lib.below_putRow (Below.refl _ _) (qA _)
 clear hw1 Vj;go_wp2_with fail;go_ret;exact⟨_,rfl,HC.o,HB.o⟩
theorem aX0(h:Sort.Holds U W b 0 d.toArray)(he:e=d.set k c):Sort.Holds U (W.setCell ⟨b,k,none⟩ (U c)) b 0 e.toArray:=by
 subst he;intro j hj;have hj':j<d.length:=by simpa using hj
 obtain⟨h1,h2⟩:=h j (by simpa using hj');rw[qk]at h1 h2 ⊢;by_cases hjk:j=k
 .
  subst hjk;refine⟨?_,?_⟩
  . rw[World.cell?_setCell_same _ _ _ h1];simp[getElem!_pos,hj']
  . rw[World.frozen?_setCell];exact h2
 . refine⟨?_,?_⟩
   . rw[World.cell?_setCell_other _ _ _ _ (by intro e;cases e;exact hjk rfl),h1];simp[getElem!_pos,hj',Ne.symm hjk]
   . rw[World.frozen?_setCell];exact h2
theorem az4(a c:UInt8)(x:qU)(k:Nat)(hk:k<x.length):((x.take k).map (fun y=>if y=a then c else y)++x.drop k)[k]?=some x[k]:=by rw[qu (by simp;omega)];simp only[qS,qX];rw[zA qO,xt,xu,Nat.add_zero];exact gEl hk
theorem aq9(a c:UInt8)(x:qU)(k:Nat)(hk:k<x.length)(y:UInt8)(hy:y=if x[k]=a then c else x[k]):(x.take (k+1)).map (fun y=>if y=a then c else y)++x.drop (k+1)=((x.take k).map (fun y=>if y=a then c else y)++x.drop k).set k y:=by
 have h1:x.drop k=x[k]::x.drop (k+1):=qt hk;have h2:x.take (k+1)=x.take k++[x[k]]:=by rw[qZ,gEl hk];rfl
 have h3:((x.take k).map (fun y=>if y=a then c else y)).length=k:=by simp;omega
 rw[h1,h2,zG _ _ qO,h3,xt,List.set_cons_zero];subst hy;simp only[xF,xy,List.map_nil,zQ,zY,zR]
theorem bK8(w:World)(blk:Option Nat)(ba bt:Nat)(a c:UInt8)(ha:w.cell? ⟨ba,0,none⟩=some (U a))(ht:w.cell? ⟨bt,0,none⟩=some (U c))(hna:some ba≠blk)(hnt:some bt≠blk):
 aD1 243 #[.pointer (some ⟨ba,0,none⟩),.pointer (some ⟨bt,0,none⟩)] (P2 a c) blk w:=by
 intro W b cap x hgr hb1 hb2 hc1 hc2 hx hH;have ha1:W.cell? ⟨ba,0,none⟩=some (U a):=ak0 hgr ha hna;have ht1:W.cell? ⟨bt,0,none⟩=some (U c):=ak0 hgr ht hnt;have hba:ba<b:=zJ (bLt w _ ha) hb1;have hbt:bt<b:=zJ (bLt w _ ht) hb1;have HH:Hid _:=hH;clear hgr hH ha ht;show Calls prog 243 #[.slice (some ⟨b,0,none⟩) x.length cap,.pointer (some ⟨ba,0,none⟩),.pointer (some ⟨bt,0,none⟩)] W _;obtain⟨L,hL⟩:=qE x.length;have HL:=qH hL;have hL4:L<=75000000:=qO;have hLc:L<=cap:=qO;have Rf:cap<=9223372036854775807:=by simpa[maxLen]using hc2
 rw[<- hL];clear hL hc1 hx;go_enter func243,ntmps243;go_wp2_with fail
 go_loopw [9] (fun i wr=>∃k:Nat,k<=L/\i=.int .i64 k/\Hid (Sort.Holds U wr b 0 ((x.take k).map (fun y=>if y=a then c else y)++x.drop k).toArray)/\Hid (Below b W wr))
  (fun i _=>L-(intOf i).toNat)
 case atStart=>exact⟨0,qM _,rfl,HH.o,Below.refl _ _⟩
 case round=>
  obtain⟨k,hk,rfl,hh,Aa⟩:=hrel;by_cases hlt:k<L
  .
   have hkx:k<x.length:=by have:=HL.o;omega
   have hlen:((x.take k).map (fun y=>if y=a then c else y)++x.drop k).length=x.length:=by simp;omega
   have Em:=hh.out k (by simp only[List.size_toArray];omega);have Ac:wr.cell? ⟨b,k,none⟩=some (U x[k]):=by have:=Em.1;rw[qk]at this;rw[this];simp only[List.getElem!_toArray];rw[List.getElem!_eq_getElem?_getD,az4 a c x k hkx];rfl
   have hfro:wr.frozen? ⟨b,k,none⟩=false:=by have:=Em.2;rwa [qk]at this
   have ha2:wr.cell? ⟨ba,0,none⟩=some (U a):=(Aa.o.cell hba).trans ha1;have ht2:wr.cell? ⟨bt,0,none⟩=some (U c):=(Aa.o.cell hbt).trans ht1;clear Em ha1 ht1;unfold U at Ac ha2 ht2;by_cases hxa:x[k]=a
   . have HS:Hid _:=aq9 a c x k hkx c (by rw[qF hxa]);have hxe:(x[k].toNat:Int)=(a.toNat:Int):=by rw[hxa]
     rw[hxe]at Ac;clear hxe hxa;have HN:Hid (Sort.Holds U (wr.setCell ⟨b,k,none⟩ (U c)) b 0 ((x.take (k+1)).map (fun y=>if y=a then c else y)++x.drop (k+1)).toArray):=aX0 hh.out HS.o;have HB:Hid (Below b W (wr.setCell ⟨b,k,none⟩ (U c))):=Aa.o.setCell (qA _) _;clear hh Aa;go_wp2_with fail;go_roundw
     case rel=>exact⟨k+1,qO,by go_num,HN.o,HB.o⟩
     case measure=>simp[intOf];omega
   .
    have HS:Hid _:=aq9 a c x k hkx x[k] (by rw[qB hxa]);have Az:((x.take k).map (fun y=>if y=a then c else y)++x.drop k).set k x[k]=(x.take k).map (fun y=>if y=a then c else y)++x.drop k:=by
     apply xq;intro j;by_cases hj:j=k
     . subst hj;rw[zu qO,az4 a c x j hkx]
     . rw[xe (Ne.symm hj)]
    have hne:¬((x[k].toNat:Int)=(a.toNat:Int)):=fun h=>hxa (UInt8.toNat_inj.1 (by exact_mod_cast h));have HN:Hid (Sort.Holds U wr b 0 ((x.take (k+1)).map (fun y=>if y=a then c else y)++x.drop (k+1)).toArray):=by rw[HS.o,Az];exact hh.out
    clear Az HS hh;go_wp2_with fail;go_roundw
    case rel=>exact⟨k+1,qO,by go_num,HN.o,Aa.o⟩
    case measure=>simp[intOf];omega
  . have hkL:k=L:=qO;have HC:Hid ((convert 28 9 (.slice (some ⟨b,0,none⟩) L cap)).run prog wr=.ok (.string ⟨(P2 a c x).toArray⟩) wr):=by have h1:=hh.out;rw[hkL,HL.o,qj,List.drop_length,xz]at h1;have h2:=ao4 (x:=x.map (fun y=>if y=a then c else y)) (cap:=cap) h1 (by have:=HL.o;simp;omega) hc2;have h3:=ah0 h2;rw[qS,<- HL.o]at h3;exact h3
    clear hh ha1 ht1;go_wp2_with fail;go_ret;exact⟨_,rfl,HC.o,Aa.o⟩
def aM8(x:qU):List Int:=x.map fun c=>(c.toNat:Int)
theorem bn0(x:qU):Lib.bytesOf (aM8 x)=x:=by
 unfold Lib.bytesOf aM8;rw[zP];conv=>rhs;rw[<- List.map_id x]
 apply zq;intro c _;simp
theorem bn1(x:qU):∀n∈aM8 x,0<=n/\n<256:=by intro n hn;obtain⟨c,_,rfl⟩:=xA.1 hn;have:=c.toNat_lt;omega
theorem aM9(n:Int)(x p:qU)(h1:1<=n)(hp:(Lib.split x [32])[(n-1).toNat]?=some p):H6 n x=p:=by unfold H6;rw[hp];rfl
theorem aN0(n:Int)(x:qU)(h:(Lib.split x [32]).length<n):H6 n x=[]:=by unfold H6;rw[zN qO];rfl
theorem aD2(x:qU):(Lib.split x [32]).length=Lib.count x [32]+1:=by have h:=Lib.splitB_all ⟨#[32]⟩ (by decide) 0 _ ⟨x.toArray⟩ rfl;have h2:=congrArg List.length (Lib.splitB_data ⟨#[32]⟩ 0 (Lib.countB ⟨x.toArray⟩ ⟨#[32]⟩) ⟨x.toArray⟩);rw[qS,h]at h2;exact h2.symm
theorem count_le(x:qU):Lib.count x [32]<=x.length:=by have h:=Lib.countB_le ⟨#[32]⟩ (by decide) _ ⟨x.toArray⟩ (qA _);simpa[ByteArray.size]using h
theorem bn2(W:World)(b cap b2:Nat)(x:qU)(m:Int)(h1:x.length<=cap)(h2:cap<=maxLen)(hx:x.length<=75000000)(hH:Sort.Holds U W b 0 x.toArray)(hs:W.cell? ⟨b2,0,none⟩=some (.int .u8 32))(hm:W.cell? ⟨0,0,none⟩=some (.int .i64 m)):
 Calls prog 245 #[.slice (some ⟨b,0,none⟩) x.length cap,.slice (some ⟨b2,0,none⟩) 1 1] W fun e w'=>
  e=.returned (.slice (some ⟨W.heap.size,0,none⟩) (Lib.split x [32]).length (Lib.split x [32]).length)/\Bq W w' /\
   ∀j p,(Lib.split x [32])[j]?=some p->∃v,w'.cell? ⟨W.heap.size,j,none⟩=some v/\(convert 28 9 v).run prog w'=.ok (.string ⟨p.toArray⟩) w':=by
 have Ce:∀(b o i:Nat),(⟨b,o,none⟩:Addr).add i=⟨b,o+i,none⟩:=fun b o i=>by unfold Addr.add;split <;> simp_all
 have hc1:∀i,i<x.length->W.cell? ((⟨b,0,none⟩:Addr).add i)=some (.int .u8 ((aM8 x).getD i 0)):=by intro i hi;rw[Ce,(hH i (by simpa using hi)).1];simp[aM8,U,getElem!_pos,hi]
 have hc2:∀i,i<1->W.cell? ((⟨b2,0,none⟩:Addr).add i)=some (.int .u8 (([32]:List Int).getD i 0)):=by intro i hi;obtain rfl:i=0:=qO;rw[Ce];exact hs
 have h:=Tryz.bytes_Split ⟨b,0,none⟩ ⟨b2,0,none⟩ x.length cap 1 1 (aM8 x) [32] m W (by simp[aM8]) rfl (bn1 x) (by decide) hc1 hc2 h1 qO qO (by unfold maxLen at h2;omega) (qA _) hm;rw[bn0,show Lib.bytesOf [32]=[32] from rfl]at h;refine h.mono ?_;rintro e w'⟨rfl,q,rfl⟩;have hl:=aD2 x;refine⟨by rw[hl],below_drewN' ((Below.refl _ W).alloc (qA _) _) q,?_⟩;intro j p hj;have hlen:=Lib.splitV_length [32] 0 (Lib.count x [32]) ⟨b,0,none⟩ cap x;have hjl:j<(Lib.splitV [32] 0 (Lib.count x [32]) ⟨b,0,none⟩ cap x).length:=by rw[hlen];exact (gSm hj).1
 obtain⟨v,hv⟩:∃v,(Lib.splitV [32] 0 (Lib.count x [32]) ⟨b,0,none⟩ cap x)[j]?=some v:=⟨_,gEl hjl⟩;obtain⟨a',off,len,cp,rfl,h3,h4,h5,h6⟩:=Lib.splitV_spec [32] 0 (by decide) (by decide) (Lib.count x [32]) ⟨b,0,none⟩ cap x h1 j v hv;have hp:p=(x.drop off).take len:=by have:(Lib.split x [32])[j]?=some ((x.drop off).take len):=h5;rw[hj]at this;exact qd this
 refine⟨.slice (some a') len cp,?_,?_⟩
 . show (W.alloc _).cell? _=_;rw[qY _ _ _ _ _ _ (qJ W _)];simpa using hv
 .
  have hpl:p.length=len:=by rw[hp];simp;omega
  have:=run_convert_bytes_back (P:=prog) ((W.alloc (.cells (Lib.splitV [32] 0 (Lib.count x [32]) ⟨b,0,none⟩ cap x).toArray 28)).drewN q) 28 9 5 a' cp p underlying28 underlying5 underlying9 (fun i hi=>by
   rw[h6 i qO,Ce]
   have hox:off+i<x.length:=qO
   have hcx:=(hH (off+i) (by simpa using hox)).1
   show (W.alloc _).cell? _=_
   rw[Lib.cell?_alloc_some _ (by simpa using hcx)]
   subst hp
   simp[U,hox])
  rw[hpl]at this;exact this
theorem bx6(w:World)(blk:Option Nat)(bn:Nat)(n m:Int)(hn1:1<=n)(hn2:n<=1000)(hbn:w.cell? ⟨bn,0,none⟩=some (.int .i64 n))(hnb:some bn≠blk)(hm:w.cell? ⟨0,0,none⟩=some (.int .i64 m))(hnm:some 0 ≠ blk):
 aD1 244 #[.pointer (some ⟨bn,0,none⟩)] (H6 n) blk w:=by
 intro W b cap x hgr hb1 hb2 hc1 hc2 hx hH;have hn0:W.cell? ⟨bn,0,none⟩=some (.int .i64 n):=ak0 hgr hbn hnb;have hm0:W.cell? ⟨0,0,none⟩=some (.int .i64 m):=ak0 hgr hm hnm;have hmb:0 < W.heap.size:=bLt W _ hm0;have hbw:bn<W.heap.size:=bLt W _ hn0;clear hgr hbn hm
 have hsp:=bn2 (W.alloc (.cells #[.int .u8 32] 5)) b cap W.heap.size x m hc1 hc2 hx
  (fun j hj=>⟨Lib.cell?_alloc_some _ (hH j hj).1,by rw[World.frozen?_alloc_old _ _ _ (by show b≠W.heap.size;omega)];exact (hH j hj).2⟩) (by simp) (Lib.cell?_alloc_some _ hm0)
 have hPl:=aD2 x;have hPc:=count_le x;have HF1:=aM9 n x;have HF2:=aN0 n x;generalize hP:Lib.split x [32]=P at *;clear hH hP;show Calls prog 244 #[.slice (some ⟨b,0,none⟩) x.length cap,.pointer (some ⟨bn,0,none⟩)] W _;obtain⟨N,hN⟩:=qE P.length;have hN4:N<=75000001:=qO;have hN1:1<=N:=qO;rw[<- hN]at hsp HF2;by_cases hnN:n<=N
 . obtain⟨p,hp⟩:∃p,P[(n-1).toNat]?=some p:=⟨_,gEl qO⟩;have HE:Hid _:=HF1 p hn1 hp;have Hp:Hid _:=hp;clear HF1 HF2 hp hPl hPc hN;go_enter func244,ntmps244;go_wp2_with fail;refine hsp.mono ?_;rintro e w1⟨rfl,Aa,hpc⟩;obtain⟨v,hv,hcv⟩:=hpc _ _ Hp.o;have hn1':w1.cell? ⟨bn,0,none⟩=some (.int .i64 n):=(Aa.cell (by show bn<_;simp;omega)).trans (Lib.cell?_alloc_some _ hn0);have HB:Hid (Below b W w1):=(((Below.refl _ W).alloc (qA _) _).trans (Aa.mono (by simp))).mono qO;have Vk:((n-1).toNat:Int)=n-1:=qO;obtain⟨i,hi⟩:=qE ((n-1).toNat:Nat);have hni:n=(i:Int)+1:=qO;rw[<- hi]at hv;have HC:Hid _:=hcv;clear hsp hpc Aa hcv Vk hi hn0 hm0;subst hni;have hv':w1.cell? ⟨W.heap.size+1,i,none⟩=some v:=by simpa using hv
   clear hv;go_wp2_with fail;go_ret;exact⟨_,rfl,by rw[HE.o];exact HC.o,HB.o⟩
 . have HE:Hid _:=HF2 qO;clear HF1 HF2 hPl hPc hN;go_enter func244,ntmps244;go_wp2_with fail;refine hsp.mono ?_;rintro e w1⟨rfl,Aa,hpc⟩;have hn1':w1.cell? ⟨bn,0,none⟩=some (.int .i64 n):=(Aa.cell (by show bn<_;simp;omega)).trans (Lib.cell?_alloc_some _ hn0);have HB:Hid (Below b W w1):=(((Below.refl _ W).alloc (qA _) _).trans (Aa.mono (by simp))).mono qO;clear hsp hpc Aa hn0 hm0;go_wp2_with fail;go_ret;refine⟨_,rfl,?_,HB.o⟩;rw[HE.o];exact run_convert_bytes_nil (P:=prog) _ 28 5 underlying28 underlying5 _ _ 9 underlying9
theorem bK9(sx:ByteArray)(n:Int)(v:Value)(ls:qL)(w:World)(B:Nat)(hB:B<=w.heap.size)(Ab:w.ownsRow B 9 1 v ls.length (ls.map S))(hl:ls.length<=75000000)(hsz:∀s∈ls,s.length<=75000000):
 Calls prog 195 #[.agg #[.int .i64 5,.string sx,.int .i64 n],v] w fun e w'=>∃r,e=.returned r/\Reads w' r (ls.map List.reverse).length ((ls.map List.reverse).map S)/\Below B w w':=by
 have hsf:=fun(a:Addr)(c:Array Value)(w:World)=>run_store prog w a (.func (.func 226) #[] c) .plain rfl;have eg:∀args w,(callFunc 232 args).run prog w=.ok (.enter 232 args) w:=enters_of func232 qQ rfl;have Ho:=qH Ab;have HE:Hid _:=eg;clear Ab eg;go_enter func195,ntmps195;go_wp2_with fail;refine (aM7 v 232 #[] List.reverse HE.o ls _ B ?_ (A5 Ho.o C5) hl hsz (fun g _=>bK7 _ _)).mono ?_
 . have:=(C5 (w:=w) (o:=.cells #[.int .i64 5,.string sx,.int .i64 n] 54) (p:=.cells #[.nilFunc] 95)).size;simp;omega
 rintro e w1⟨r,rfl,hr1,Bm⟩;have R:Hid _:=hr1;have HB:Hid (Below B w w1):=((C5.mono hB).trans Bm);clear hr1 Bm;go_wp2_with fail;go_ret;exact⟨_,rfl,R.o,HB.o⟩
theorem bn3(n:Int)(w:World):
 Calls prog 231 #[.int .i64 n] w fun e w'=>e=.returned (.func (.func 244) #[] #[.pointer (some ⟨w.heap.size,0,none⟩)])/\w'=w.alloc (.cells #[.int .i64 n] 3):=by go_enter func231,ntmps231;go_wp2_with fail;go_ret;exact⟨rfl,rfl⟩
theorem bx7(a c:UInt8)(w:World):
 Calls prog 230 #[U a,U c] w fun e w'=>e=.returned (.func (.func 243) #[] #[.pointer (some ⟨w.heap.size,0,none⟩),.pointer (some ⟨w.heap.size+1,0,none⟩)])/\w'=(w.alloc (.cells #[U a] 5)).alloc (.cells #[U c] 5):=by unfold U;go_enter func230,ntmps230;go_wp2_with fail;go_ret;exact⟨rfl,rfl⟩
theorem bx8:(((w.alloc o).alloc p).alloc (.cells #[u] t)).cell? ⟨w.heap.size+2,0,none⟩=some u:=by
 have h:((w.alloc o).alloc p).heap.size=w.heap.size+2:=by simp
 rw[<- h,qY _ _ _ _ _ _ (qJ _ _)];rfl
theorem af1(q:Nat)(os:Array Obj)(hB:B<=w.heap.size):Below B w (Sort.grow (w.drewN q) os):=by have h1:Bq w (w.drewN q):=below_drewN' (Below.refl _ _) q;have h2:=Go.Proofs.below_grown (w.drewN q) 0 os;rw[Sort.ahead_zero]at h2;exact (h1.trans (h2.mono h1.size)).mono hB
theorem bn4{q:Obj}:Bq w (((w.alloc o).alloc p).alloc q):=C5.alloc (by simp;omega) q
theorem bx9(sx:ByteArray)(n m:Int)(v:Value)(ls:qL)(w:World)(B:Nat)(hB0:0 < B)(hB:B<=w.heap.size)(Ab:w.ownsRow B 9 1 v ls.length (ls.map S))(hl:ls.length<=75000000)(hsz:∀s∈ls,s.length<=75000000)(hn1:1<=n)(hn2:n<=1000)(hm:w.cell? ⟨0,0,none⟩=some (.int .i64 m)):
 Calls prog 195 #[.agg #[.int .i64 4,.string sx,.int .i64 n],v] w fun e w'=>∃r,e=.returned r/\Reads w' r (ls.map (H6 n)).length ((ls.map (H6 n)).map S)/\Below B w w':=by
 have hsf:=fun(a:Addr)(c:Array Value)(w:World)=>run_store prog w a (.func (.func 226) #[] c) .plain rfl;have eg:∀args w,(callFunc 244 args).run prog w=.ok (.enter 244 args) w:=enters_of func244 qQ rfl;have Ho:=qH Ab;have HE:Hid _:=eg;have HM:Hid _:=hm;clear Ab eg hm;go_enter func195,ntmps195;go_wp2_with fail;refine (bn3 n _).mono ?_;rintro e w3⟨rfl,hw3⟩;have hb3:Bq w w3:=by rw[hw3];exact bn4
 have hc3:w3.cell? ⟨w.heap.size+2,0,none⟩=some (.int .i64 n):=by rw[hw3];exact bx8
 have hm3:w3.cell? ⟨0,0,none⟩=some (.int .i64 m):=(hb3.cell (by show 0 < _;omega)).trans HM.o
 have hE:=aM7 v 244 #[.pointer (some ⟨w.heap.size+2,0,none⟩)] (H6 n) HE.o ls w3 B (by have:=hb3.size;omega) (A5 Ho.o hb3) hl hsz
  (fun g hg=>by
   obtain⟨h1,h2⟩:=Ho.o.lt g hg
   exact bx6 w3 (some g) (w.heap.size+2) n m hn1 hn2 hc3 (by intro e;cases e;omega) hm3 (by intro e;cases e;omega))
 have HB3:Hid _:=hb3;clear hw3 hb3 hc3 hm3;go_wp2_with fail;refine hE.mono ?_;rintro e w1⟨r,rfl,hr1,Bm⟩;have R:Hid _:=hr1;have HB:Hid (Below B w w1):=((HB3.o.mono hB).trans Bm);clear hr1 Bm hE;go_wp2_with fail;go_ret;exact⟨_,rfl,R.o,HB.o⟩
theorem by0(sx:ByteArray)(n:Int)(ao:Option Addr)(L cap:Nat)(w:World)(hL:L<=75000000)(htab:∀W,Bq w W->Lib.TabIs prog W "internal/strconv.uint64pow10" .u64 Lib.pow10Tab) :
 Calls prog 195 #[.agg #[.int .i64 8,.string sx,.int .i64 n],.slice ao L cap] w fun e w'=>∃r,e=.returned r/\Reads w' r 1 [S (Lib.itoa (L:Int))]/\Bq w w':=by
 have hsf:=fun(a:Addr)(c:Array Value)(w:World)=>run_store prog w a (.func (.func 226) #[] c) .plain rfl;have hI:=fun(W:World)(h:Bq w W)=>Tryz.strconv_Itoa L qO qO W (htab W h);obtain⟨t,ht⟩:=qE (Lib.itoa (L:Int));rw[<- ht]at hI ⊢;have HI:Hid _:=hI;clear htab hI ht;go_enter func195,ntmps195;go_wp2_with fail;refine (HI.o _ C5).mono ?_;rintro e w1⟨rfl,q,os,hw1⟩;have HB:Hid (Bq w w1):=by rw[hw1];exact C5.trans (af1 _ _ (by simp;omega))
 clear hw1;go_wp2_with fail;go_ret;exact⟨_,rfl,by simpa[S]using Y9 w1 #[S t] 9 (0,0) 1 rfl qO,HB.o.trans (((Below.refl _ w1).alloc (qA _) _).mono HB.o.size)⟩
theorem by1{u1 u2:Value}:
 (((((w.alloc o).alloc p).alloc (.cells #[u1] t)).alloc (.cells #[u2] t))).cell? ⟨w.heap.size+2,0,none⟩=some u1/\(((((w.alloc o).alloc p).alloc (.cells #[u1] t)).alloc (.cells #[u2] t))).cell? ⟨w.heap.size+3,0,none⟩=some u2 /\
  Bq w (((((w.alloc o).alloc p).alloc (.cells #[u1] t)).alloc (.cells #[u2] t))):=by
 have h1:((w.alloc o).alloc p).heap.size=w.heap.size+2:=by simp
 have h2:(((w.alloc o).alloc p).alloc (.cells #[u1] t)).heap.size=w.heap.size+3:=by simp
 refine⟨?_,?_,?_⟩
 . have hA:(((w.alloc o).alloc p).alloc (.cells #[u1] t)).cell? ⟨w.heap.size+2,0,none⟩=some u1:=by rw[<- h1,qY _ _ _ _ _ _ (qJ _ _)];rfl
   exact Lib.cell?_alloc_some _ hA
 . rw[<- h2,qY _ _ _ _ _ _ (qJ _ _)];rfl
 . exact (C5.alloc (by simp;omega) _).alloc (by simp;omega) _
theorem bL0(a c:UInt8)(v:Value)(ls:qL)(w:World)(B:Nat)(hB:B<=w.heap.size)(Ab:w.ownsRow B 9 1 v ls.length (ls.map S))(hl:ls.length<=75000000)(hsz:∀s∈ls,s.length<=75000000):
 Calls prog 229 #[v,.func (.func 243) #[] #[.pointer (some ⟨w.heap.size+2,0,none⟩),.pointer (some ⟨w.heap.size+3,0,none⟩)]] ((((w.alloc o).alloc p).alloc (.cells #[U a] 5)).alloc (.cells #[U c] 5)).drew fun e w'=>∃r,e=.returned r/\Reads w' r (ls.map (P2 a c)).length ((ls.map (P2 a c)).map S)/\Below B w w':=by
 have eg:∀args w,(callFunc 243 args).run prog w=.ok (.enter 243 args) w:=enters_of func243 qQ rfl;obtain⟨h1,h2,h3⟩:=by1 (w:=w) (o:=o) (p:=p) (u1:=U a) (u2:=U c) (t:=5);generalize hw3:((((w.alloc o).alloc p).alloc (.cells #[U a] 5)).alloc (.cells #[U c] 5))=w3 at *
 have hE:=aM7 v 243 #[.pointer (some ⟨w.heap.size+2,0,none⟩),.pointer (some ⟨w.heap.size+3,0,none⟩)] (P2 a c) eg ls w3.drew B (by have:=h3.size;simp;omega) (A5 Ab h3.drew) hl hsz
  (fun g hg=>by
   obtain⟨h5,h6⟩:=Ab.lt g hg
   exact bK8 w3.drew (some g) (w.heap.size+2) (w.heap.size+3) a c h1 h2 (by intro e;cases e;omega) (by intro e;cases e;omega))
 refine hE.mono ?_;rintro e w4⟨r,rfl,hr,hb⟩;exact⟨r,rfl,hr,(h3.drew.mono hB).trans hb⟩
theorem bL1(a c:UInt8)(n:Int)(v:Value)(ls:qL)(w:World)(B:Nat)(hB:B<=w.heap.size)(Ab:w.ownsRow B 9 1 v ls.length (ls.map S))(hl:ls.length<=75000000)(hsz:∀s∈ls,s.length<=75000000):
 Calls prog 195 #[.agg #[.int .i64 3,.string ⟨#[a,c]⟩,.int .i64 n],v] w fun e w'=>∃r,e=.returned r/\Reads w' r (ls.map (P2 a c)).length ((ls.map (P2 a c)).map S)/\Below B w w':=by
 have hsf:=fun(a:Addr)(c:Array Value)(w:World)=>run_store prog w a (.func (.func 226) #[] c) .plain rfl;have eg:∀args w,(callFunc 243 args).run prog w=.ok (.enter 243 args) w:=enters_of func243 qQ rfl;have Ho:=qH Ab;have HE:Hid _:=eg;clear Ab eg;go_enter func195,ntmps195;go_wp2_with fail
 go_region_with (first
  | (go_at_call 230;refine (bx7 a c _).mono ?_;rintro e w3⟨rfl,hw3⟩)
  | (go_at_call 229;refine (bL0 a c v ls w B hB Ho.o hl hsz).mono ?_;rintro e w4⟨r,rfl,hr4,hb4⟩))
 all_goals (have R:Hid _:=hr4;have HB:Hid _:=hb4;clear hr4 hb4 hw3;go_wp2_with fail;go_ret;exact⟨_,rfl,R.o,HB.o⟩)
end Go.Proofs.YtmejdflmcikkdaaGreatDoor
