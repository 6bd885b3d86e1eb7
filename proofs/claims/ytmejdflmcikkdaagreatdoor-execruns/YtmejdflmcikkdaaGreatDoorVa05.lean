/- What the developers' clonedLists does, and more. -/
import Derived.Test.YtmejdflmcikkdaaGreatDoorVAb
import Derived.Deep.RegionHeld3
import Derived.Test.YtmejdflmcikkdaaGreatDoorVa04
set_option linter.all false
set_option maxRecDepth 100000
set_option maxHeartbeats 64000000
namespace Go.Proofs.YtmejdflmcikkdaaGreatDoor
open Go.RowKit Go.Gs Tryz
variable {w:World}{v:Value}{l:qL}{ao:Option Addr}{c k:Nat}{xs:List Value}{α:Type}{ro:Own}{bo:Nat->Own}{ss:List Sl}{O:qW}{b:qU}
structure CL (w:World) (B:Nat) (O:qW) (ro:Own) (bo:Nat->Own) (v:Value) (ss:List Sl) (l:qL):Prop where
 own:w.ownsRow B 28 1 v l.length (L6 l ss)
 ob:N8 O v ro
 len:ss.length=l.length
 bys:∀(j:Nat)(b:qU)(s:Sl),l[j]?=some b->ss[j]?=some s->SOf w O (bo j) s b
def bw1:Value->Sl
 | .slice a _ c=>(a,c)
 | _=>nilS
theorem bl6(h:RList w v U l):∃ss:List Sl,ss.length=l.length/\Reads w v l.length (L6 l ss)/\∀(j:Nat)(b:qU)(s:Sl),l[j]?=some b->ss[j]?=some s->Reads w (sl b s) b.length (b.map U):=by
 obtain⟨cells,hr,hc⟩:=h;have hcl:cells.length=l.length:=hr.1;have hat:∀(j:Nat)(b:qU),l[j]?=some b->∃s:Sl,cells[j]?=some (sl b s)/\bw1 (sl b s)=s/\Reads w (sl b s) b.length (b.map U):=by
  intro j b hb;obtain⟨u,hu,hru⟩:=hc j b hb;obtain⟨_,ao,cap,e,_⟩:=id hru;refine⟨(ao,cap),?_,rfl,?_⟩
  . rw[hu,e];rfl
  . rw[e]at hru;exact hru
 have e1:L6 l (cells.map bw1)=cells:=by
  apply xq;intro j;unfold L6
  cases hb:l[j]? with
  | none=>
   rw[zU,hb];have:cells[j]?=none:=by rw[List.getElem?_eq_none_iff]at hb ⊢;omega
   rw[this]
  | some b=>obtain⟨s,hs,hs2,_⟩:=hat j b hb;rw[zU,hb,qa,hs];simp[hs2]
 refine⟨cells.map bw1,by rw[qS,hcl],by rw[e1];exact hr,fun j b s hb hs=>?_⟩;obtain⟨s',hs',hs2,hrd⟩:=hat j b hb;rw[qa,hs']at hs;simp[hs2]at hs;subst hs;exact hrd
theorem bI3(l:qL)(ss:List Sl):∀u∈L6 l ss,u.oneCell'=true:=by intro u hu;obtain⟨j,hj⟩:=qw hu;unfold L6 at hj;obtain⟨b,s,_,_,e⟩:=zM.1 hj;rw[<- e];rfl
theorem U9{n:Nat}(h:Reads w (.slice ao n c) n xs):(ao=none->n=0)/\∀a,ao=some a->∀j u,xs[j]?=some u->w.cell? (a.add j)=some u:=ac6 h
theorem bd2(ab:Option Addr)(cb:Nat)(bs:qU)(w:World)(hr:Reads w (.slice ab bs.length cb) bs.length (bs.map U))(hl:bs.length<=100000):
 Calls prog 70 #[.slice ab bs.length cb] w fun e w'=>∃v',e=.returned v'/\w'.ownsRow w.heap.size 5 1 v' bs.length (bs.map U)/\Bq w w':=
 bc7 ab bs.length cb (bs.map U) w (by simp) hl (U9 hr).1 (U9 hr).2 (aI6 bs)
structure CLTo (w wr:World) (v:Value) (ro:Own) (bo:Nat->Own) (l:qL) (k:Nat) (ss:List Sl) (O:qW):Prop where
 own:wr.ownsRow w.heap.size 28 1 v l.length (L6 l ss)
 ob:N8 O v ro
 len:ss.length=l.length
 lo:∀g o,O g=some o->w.heap.size<=g/\g<wr.heap.size
 vals:∀g o,O g=some o->o=ro\/∃j,o=bo j
 bys:∀(j:Nat)(b:qU)(s:Sl),j<k->l[j]?=some b->ss[j]?=some s->SOf wr O (bo j) s b
 rest:∀(j:Nat)(b:qU)(s:Sl),k<=j->l[j]?=some b->ss[j]?=some s->Reads w (sl b s) b.length (b.map U)
theorem am8{l:List α}{b:α}(h:l[k]?=some b):l.set k b=l:=by
 apply xq;intro j;by_cases e:k=j
 . subst e;rw[j8 h,h]
 . rw[D6 e]
theorem CLTo.step{wr w2:World}{g N:Nat}(hN:N=l.length)(h:CLTo w wr (.slice (some ⟨g,0,none⟩) N c) ro bo l k ss O)(hne:∀j,bo j≠ro)(hb:l[k]?=some b)(hle:Bq wr w2)(hws:w.heap.size<=wr.heap.size)
 {v2:Value} (ho:w2.ownsRow wr.heap.size 5 1 v2 b.length (b.map U)):
 ∃s2,CLTo w (w2.setCell ⟨g,k,none⟩ v2) (.slice (some ⟨g,0,none⟩) N c) ro bo l (k+1) (ss.set k s2) (addO O wr w2 (bo k)):=by
 subst hN;have hgo:O g=some ro:=h.ob g rfl;have hgl:=(h.lo g ro hgo);have hb2:∀g',v2.ownBlock=some g'->addO O wr w2 (bo k) g'=some (bo k):=fun g' hg'=>by have:=ho.lt g' hg';unfold addO;rw[qF ⟨this.1,this.2⟩]
 obtain⟨s2,e2,hso,_⟩:=SOf.of_owns ho hb2;subst e2;have hkl:k<l.length:=(gSm hb).1;have hold:∀k',k'<wr.heap.size->addO O wr w2 (bo k) k'=O k':=fun k' hk'=>by unfold addO;rw[qB qO]
 have hg2:addO O wr w2 (bo k) g=some ro:=(hold g hgl.2).trans hgo
 have Ap:w2.ownsRow w.heap.size 28 1 (.slice (some ⟨g,0,none⟩) l.length c) l.length (L6 l ss):=j5 h.own (fun g' hg'=>by
  have e1:g=g':=by injection hg'
  subst e1
  exact hle.block g hgl.2)
 refine⟨s2,?_,fun g' hg'=>?_,by simpa using h.len,fun g' o hg'=>?_,fun g' o hg'=>?_,fun j b' s hj hb' hs=>?_,fun j b' s hj hb' hs=>?_⟩
 . have:=O6 Ap k qO (sl b s2);rw[aB8,am8 hb]at this;exact this
 . have e1:g=g':=by injection hg'
   subst e1;exact hg2
 .
  show w.heap.size<=g'/\g'<(w2.setCell _ _).heap.size;have hsz:(w2.setCell ⟨g,k,none⟩ (sl b s2)).heap.size=w2.heap.size:=by simp
  rw[hsz];have:=hle.size;unfold addO at hg';split at hg'
  . omega
  . have:=h.lo g' o hg';omega
 .
  unfold addO at hg';split at hg'
  . injection hg' with hg';exact .inr ⟨k,hg'.symm⟩
  . exact h.vals g' o hg'
 .
  have hk':∀k',addO O wr w2 (bo k) k'=some (bo j)->(w2.setCell ⟨g,k,none⟩ (sl b s2)).heap[k']?=w2.heap[k']?:=fun k' hk'=>Below.heap_setCell _ _ _ _ (fun e=>by
   subst e
   rw[hg2]at hk'
   injection hk' with hk'
   exact hne j hk'.symm)
  by_cases e:j=k
  . subst e;rw[hb]at hb';injection hb' with hb';subst hb';have hsl:ss.length=l.length:=h.len;have e3:(ss.set j s2)[j]?=some s2:=by rw[xE,qF rfl,qF qO]
    rw[e3]at hs;injection hs with hs;subst hs;exact hso.keep hk' (fun _ _=>rfl)
  . rw[D6 (fun e2=>e e2.symm)]at hs;have h1:=h.bys j b' s qO hb' hs;have h2:=h1.keep (w':=w2) (O':=addO O wr w2 (bo k)) (fun k' hk''=>hle.block k' (h.lo k' _ hk'').2) hold;exact h2.keep hk' (fun _ _=>rfl)
 . rw[D6 (fun e2=>qO)]at hs;exact h.rest j b' s qO hb' hs
theorem bw2(ro:Own)(bo:Nat->Own)(hne:∀j,bo j≠ro)(ao:Option Addr)(c:Nat)(l:qL)(w:World)(h:RList w (.slice ao l.length c) U l)(hn:l.length<=100000)(hb:∀b∈l,b.length<=100000):
 Calls prog 73 #[.slice ao l.length c] w fun e w'=>∃v' ss O,e=.returned v'/\CL w' w.heap.size O ro bo v' ss l/\((∀g o,O g=some o->w.heap.size<=g/\g<w'.heap.size)/\∀g o,O g=some o->o=ro\/∃j,o=bo j)/\Bq w w':=by
 obtain⟨ss0,hl0,hr0,hb0⟩:=bl6 h;have hC:=bc6 ao l.length c (L6 l ss0) w (by have:=hr0.1;omega) hn (U9 hr0).1 (U9 hr0).2 (bI3 l ss0);have HC:Hid _:=hC;have HB0:=qH hb0;have HB:=qH hb;have HL0:=qH hl0;obtain⟨N,hN⟩:=qE l.length;have HN:=qH hN;rw[<- hN]at HC hn ⊢;clear h hb hl0 hr0 hb0 hC hN;go_enter func73,ntmps73;go_wp2_with fail;refine qD HC.o ?_;rintro e w1⟨v',rfl,Ab,hb1⟩;have HB1:=qH hb1;have HOW:=qH Ab;obtain⟨⟨ao1,c1,rfl,hc1,hc2⟩,Bj⟩:=g8 Ab;have hc2':c1<=9223372036854775807:=by unfold maxLen at hc2;exact hc2
 have hST:∃O,CLTo w w1 (.slice ao1 N c1) ro bo l 0 ss0 O:=by
  refine⟨fun k=>if some k=(Value.slice ao1 N c1).ownBlock then some ro else none,by rw[<- HN.o];exact HOW.o,fun g hg=>by simp[hg],HL0.o,fun g o hg=>?_,fun g o hg=>?_,fun j b s hj=>absurd hj qO,fun j b s _ hb hs=>HB0.o j b s hb hs⟩
  . by_cases e:some g=(Value.slice ao1 N c1).ownBlock
    . exact Ab.lt g e.symm
    . rw[qB e]at hg;cases hg
  . by_cases e:some g=(Value.slice ao1 N c1).ownBlock
    . rw[qF e]at hg;injection hg with hg;exact .inl hg.symm
    . rw[qB e]at hg;cases hg
 obtain⟨O0,hST⟩:=hST;have HST:Hid _:=hST;by_cases h0:N=0
 .
  have Ao:Hid (CL w1 w.heap.size O0 ro bo (.slice ao1 N c1) ss0 l/\((∀g o,O0 g=some o->w.heap.size<=g/\g<w1.heap.size)/\∀g o,O0 g=some o->o=ro\/∃j,o=bo j)):=⟨⟨hST.own,hST.ob,hST.len,fun j b s hb _=>by
   have:=(gSm hb).1
   have:=HN.o
   omega⟩,hST.lo,hST.vals⟩
  subst h0;clear hST Ab Bj hb1 HC;go_wp2_with fail;go_loopw [10] (fun i wr=>i=.int .i64 0/\wr=w1) (fun i _=>0)
  case atStart=>exact⟨rfl,rfl⟩
  case round=>obtain⟨rfl,rfl⟩:=hrel;go_wp2_with fail;go_ret;exact⟨_,ss0,O0,rfl,Ao.o.1,Ao.o.2,HB1.o⟩
 .
  obtain⟨g,cg,e1,_,_,_,_,_⟩:=Bj h0;injection e1 with e1 e2 e3;subst e1;clear hST Ab Bj hb1 HC e3;go_wp2_with fail;go_loopw [10] (fun i wr=>∃k:Nat,k<=N/\i=.int .i64 k/\Hid (Bq w wr)/\Hid (∃ss O,CLTo w wr (.slice (some ⟨g,0,none⟩) N c1) ro bo l k ss O)) (fun i _=>N-(intOf i).toNat)
  case atStart=>exact⟨0,qM _,rfl,HB1,(show ∃ss O,CLTo w w1 (.slice (some ⟨g,0,none⟩) N c1) ro bo l 0 ss O from ⟨ss0,O0,HST.o⟩)⟩
  case round=>
   obtain⟨k,hk,rfl,Aa,Bz⟩:=hrel;clear HST;obtain⟨ss,O,hI⟩:=Bz.o;have HI:Hid _:=hI;clear Bz;by_cases hlt:k<N
   .
    obtain⟨b,hb⟩:∃b,l[k]?=some b:=⟨_,gEl (by have:=HN.o;omega)⟩;obtain⟨s,hs⟩:∃s,ss[k]?=some s:=⟨_,gEl (by have:=hI.len;have:=HN.o;omega)⟩;have HBb:=qH hb;have Ac:wr.cell? ⟨g,k,none⟩=some (sl b s):=by have h1:=hI.own;rw[<- HN.o]at h1;rw[h1.cellAt k qO];exact am0 hb hs
    have hfz:wr.frozen? ⟨g,k,none⟩=false:=by have h1:=hI.own;rw[<- HN.o]at h1;exact h1.frozenAt k
    have hrd:=hI.rest k b s (qA _) hb hs;unfold sl at Ac hrd;have HCB:Hid _:=bd2 s.1 s.2 b wr (hrd.below Aa.o) (HB.o b (mGt hb));obtain⟨sa,sc⟩:=s;obtain⟨BL,hBL⟩:=qE b.length;have HBL:=qH hBL;simp only at Ac HCB;rw[<- hBL]at Ac HCB;clear hI hrd hb hs hBL;go_wp2_with fail;refine qD HCB.o ?_;rintro e w2⟨v2,rfl,ho2,hb2⟩;obtain⟨⟨ao2,c2,hv2,_,_⟩,_⟩:=g8 ho2;subst hv2;have Ge:=qC hb2 Ac;have hfz2:w2.frozen? ⟨g,k,none⟩=false:=by have hgl:g<wr.heap.size:=bLt wr _ Ac;have:=hb2.block g hgl;simp only[World.frozen?]at hfz ⊢;rw[this];exact hfz
    have Bo:=CLTo.step HN.o HI.o hne HBb.o hb2 Aa.o.size (by rw[HBL.o]at ho2;exact ho2);have hwg:w.heap.size<=g:=(HI.o.lo g _ (HI.o.ob g rfl)).1
    have Hm:=qH (show ∃ss O,CLTo w (w2.setCell ⟨g,k,none⟩ (.slice ao2 BL c2)) (.slice (some ⟨g,0,none⟩) N c1) ro bo l (k+1) ss O from by
     obtain⟨s2,h2⟩:=Bo
     rw[<- HBL.o]at h2
     exact⟨_,_,h2⟩)
    have HB2:Hid (Bq w (w2.setCell ⟨g,k,none⟩ (.slice ao2 BL c2))):=(qT Aa hb2).out.setCell hwg _;clear Bo ho2 hb2 Ac hfz HCB;go_wp2_with fail;go_roundw
    case rel=>exact⟨k+1,qO,by go_num,HB2,Hm⟩
    case measure=>simp[intOf];omega
   .
    have Ao:Hid (CL wr w.heap.size O ro bo (.slice (some ⟨g,0,none⟩) N c1) ss l/\((∀g o,O g=some o->w.heap.size<=g/\g<wr.heap.size)/\∀g o,O g=some o->o=ro\/∃j,o=bo j)):=⟨⟨hI.own,hI.ob,hI.len,fun j b s hb hs=>hI.bys j b s (by
     have:=(gSm hb).1
     have:=HN.o
     omega) hb hs⟩,hI.lo,hI.vals⟩
    clear hI;go_wp2_with fail;go_ret;exact⟨_,ss,O,rfl,Ao.o.1,Ao.o.2,Aa.o⟩
end Go.Proofs.YtmejdflmcikkdaaGreatDoor
namespace Go.Gs
open Go.RowKit
variable {D k cap B:Nat}{go x go':Option Nat}{X X':Nat->Prop}{w w':World}{a:Addr}{v u:Value}{ao:Option Addr}{ps:List (Int × Int)}{e:TypeId}
abbrev NRow:=SNode × (Option Addr × Nat)
def encN(x:NRow):List Value:=[.int .i64 x.1.kind,.string ⟨x.1.file.toArray⟩,.int .i64 x.1.c.kind,.string ⟨x.1.c.word.toArray⟩,.int .i64 x.1.c.n,.int .i64 x.1.how,.int .i64 x.1.wide,.slice x.2.1 x.1.ins.length x.2.2]
def D4(out:List NRow):List Value:=(out.map encN).flatten
theorem aS1(out:List NRow)(r:NRow):D4 (out++[r])=D4 out++encN r:=by simp[D4]
theorem ad0(out:List NRow)(r:NRow):D4 (r::out)=encN r++D4 out:=by simp[D4]
theorem ah5(out:List NRow):(D4 out).length=out.length*8:=by
 induction out with
 | nil=>rfl
 | cons r l ih=>rw[ad0,qI,ih];simp[encN];omega
theorem ac0:∀(out:List NRow)(j:Nat)(r:NRow),out[j]?=some r->∀i,i<8->(D4 out)[j*8+i]?=(encN r)[i]?
 | [],j,r,h,i,hi=>by simp at h
 | d::l,0,r,h,i,hi=>by simp at h;subst h;rw[ad0,xJ (by simp[encN];omega)];simp
 | d::l,j+1,r,h,i,hi=>by have ih:=ac0 l j r (by simpa using h) i hi;rw[ad0,qu (by simp[encN];omega),show (j+1)*8+i-(encN d).length=j*8+i by simp[encN];omega];exact ih
theorem bS6(r:NRow):∀u∈encN r,u.oneCell'=true:=by intro u hu;simp[encN]at hu;rcases hu with rfl | rfl | rfl | rfl | rfl | rfl | rfl | rfl <;> rfl
def FS(D:Nat)(go:Option Nat)(X:Nat->Prop)(k:Nat):Prop:=k=D\/go=some k\/X k
def noX(k:Nat):Prop:=False
structure Kept (D:Nat) (go:Option Nat) (X:Nat->Prop) (w w':World):Prop where
 os:w'.os=w.os
 tape:w'.tape=w.tape
 output:w'.output=w.output
 size:w.heap.size<=w'.heap.size
 block:∀k,k<w.heap.size->¬FS D go X k->w'.heap[k]?=w.heap[k]?
theorem Kept.of_below(h:Bq w w'):Kept D go X w w':=⟨h.os,h.tape,h.output,h.size,fun k hk _=>h.block k hk⟩
theorem Kept.of_grown(h:w.grownBy w' x)(hx:∀k,x=some k->FS D go X k):Kept D go X w w':=⟨h.os,h.tape,h.output,h.size,fun k hk hn=>h.block k hk (fun e=>hn (hx k e.symm))⟩
theorem Kept.refl(D:Nat)(go:Option Nat)(X:Nat->Prop)(w:World):Kept D go X w w:=⟨rfl,rfl,rfl,qA _,fun _ _ _=>rfl⟩
theorem Kept.more(h:Kept D go X w w')(hd:∀k,X k->X' k):Kept D go X' w w':=
 ⟨h.os,h.tape,h.output,h.size,fun k hk hn=>h.block k hk (fun e=>hn (by rcases e with e | e | e;exact .inl e;exact .inr (.inl e);exact .inr (.inr (hd k e))))⟩
def Nxt(w:World)(go go':Option Nat):Prop:=go'=go\/∃g,go'=some g/\w.heap.size<=g
theorem Nxt.refl(w:World)(go:Option Nat):Nxt w go go:=Or.inl rfl
theorem Nxt.old(h:Nxt w go go')(hk:k<w.heap.size)(e:go'=some k):go=some k:=by
 rcases h with rfl | ⟨g,e2,hg⟩
 . exact e
 . rw[e2]at e;injection e with e;omega
def NxtX(w:World)(X X':Nat->Prop):Prop:=∀k,k<w.heap.size->X' k->X k
theorem NxtX.refl(w:World)(X:Nat->Prop):NxtX w X X:=fun _ _ h=>h
theorem FS.old(hg:Nxt w go go')(hd:NxtX w X X')(hk:k<w.heap.size)(h:FS D go' X' k):FS D go X k:=by
 rcases h with e | e | e
 . exact .inl e
 . exact .inr (.inl (hg.old hk e))
 . exact .inr (.inr (hd _ hk e))
theorem Kept.set(h:Kept D go X w w')(ha:a.block=D):Kept D go X w (w'.setCell a v):=
 ⟨h.os,h.tape,h.output,by simpa using h.size,fun k hk hn=>(Below.heap_setCell _ _ _ _ (by rw[ha];exact fun e=>hn (.inl e))).trans (h.block k hk hn)⟩
def POff(w:World)(D:Nat)(go:Option Nat)(X:Nat->Prop)(ao:Option Addr)(cap:Nat)(ps:List (Int × Int)):Prop:=D5 w (.slice ao ps.length cap) ps/\(ps.length≠0->∀a,ao=some a->¬FS D go X a.block)
theorem bk3(h:D5 w (.slice ao ps.length cap) ps)(hk:ps.length≠0->∀a,ao=some a->a.block<w.heap.size->w'.heap[a.block]?=w.heap[a.block]?):D5 w' (.slice ao ps.length cap) ps:=by obtain⟨ao',cap',e,h2,h3,h4⟩:=h;injection e with e1 e2 e3;subst e1 e3;refine⟨ao,cap,rfl,h2,h3,fun hn=>?_⟩;obtain⟨b,off,rfl,hc⟩:=h4 hn;refine⟨b,off,rfl,fun j p hp=>?_⟩;obtain⟨c1,c2⟩:=hc j p hp;have hlt:b<w.heap.size:=bLt w _ c1;have e:=hk hn _ rfl hlt;simp only[World.cell?]at c1 c2 ⊢;rw[e];exact⟨c1,c2⟩
theorem ay6{n:Nat}(h:D5 w (.slice (some a) n cap) ps)(hn:ps.length≠0):a.block<w.heap.size:=by obtain⟨ao',cap',e,h2,h3,h4⟩:=h;injection e with e1 e2 e3;subst e1;obtain⟨b,off,e4,hc⟩:=h4 hn;injection e4 with e4;subst e4;exact bLt w _ (hc 0 _ (gEl qO)).1
theorem POff.keep(h:POff w D go X ao cap ps)(hk:Kept D go X w w')(hg:Nxt w go go')(hd:NxtX w X X'):POff w' D go' X' ao cap ps:=by refine⟨bk3 h.1 (fun hn a ha hl=>hk.block _ hl (h.2 hn a ha)),fun hn a ha hf=>h.2 hn a ha ?_⟩;subst ha;exact hf.old hg hd (ay6 h.1 hn)
structure NO (w:World) (B D:Nat) (X:Nat->Prop) (e:TypeId) (v:Value) (rows:List NRow):Prop where
 own:w.ownsRow B e 8 v rows.length (D4 rows)
 good:∀r∈rows,POff w D v.ownBlock X r.2.1 r.2.2 r.1.ins
 off:v.ownBlock≠some D
theorem NO.nil(w:World)(B D:Nat)(X:Nat->Prop)(e:TypeId):NO w B D X e (.slice none 0 0) []:=⟨World.ownsRow_nil _ _ _ _,fun r hr=>(by cases hr),by simp[Value.ownBlock]⟩
theorem NO.base{rows:List NRow}(h:NO w B D X e v rows):∀g,v.ownBlock=some g->B<=g/\g<w.heap.size:=by
 intro g hg;rcases h.own.2 with⟨rfl,h0⟩|⟨g',cap,cur,rfl,hb,h1,_⟩
 . simp[Value.ownBlock]at hg
 .
  simp[Value.ownBlock]at hg;subst hg;refine⟨hb,?_⟩;rcases xo g' w.heap.size with h2 | h2
  . exact h2
  . rw[xR h2]at h1;cases h1
theorem NO.keep{rows:List NRow}(h:NO w B D X e v rows)(hk:Kept D v.ownBlock X w w')(hv:∀g,v.ownBlock=some g->w'.heap[g]?=w.heap[g]?)(hd:NxtX w X X'):NO w' B D X' e v rows:=by
 refine⟨?_,fun r hr=>(h.good r hr).keep hk (Nxt.refl _ _) hd,h.off⟩;refine⟨h.own.1,?_⟩;rcases h.own.2 with⟨e1,h0⟩|⟨g,cap,cur,e1,hb,h1,h2⟩
 . exact Or.inl ⟨e1,h0⟩
 . refine Or.inr ⟨g,cap,cur,e1,hb,?_,h2⟩;rw[hv g (by rw[e1];rfl)];exact h1
theorem NO.below{rows:List NRow}(h:NO w B D X e v rows)(hb:Bq w w'):NO w' B D X e v rows:=
 h.keep (Kept.of_below hb) (fun g hg=>hb.block g (h.base g hg).2) (NxtX.refl _ _)
theorem NO.set{rows:List NRow}(h:NO w B D X e v rows)(ha:a.block=D):NO (w.setCell a u) B D X e v rows:=
 h.keep ((Kept.refl _ _ _ _).set ha) (fun g hg=>Below.heap_setCell _ _ _ _ (by rw[ha];intro e2;exact h.off (by rw[hg,e2]))) (NxtX.refl _ _)
theorem NO.app{v':Value}{rows:List NRow}{r:NRow}(h:NO w B D X e v rows)(hr:POff w D v.ownBlock X r.2.1 r.2.2 r.1.ins)(hD:D<w.heap.size)
 (Ab:w'.ownsRow B e 8 v' (rows.length+1) (D4 rows++encN r)) (hg:w.grownBy w' v.ownBlock) (hl:v'.ownBlock=v.ownBlock\/v'.ownBlock=some w.heap.size):NO w' B D X e v' (rows++[r])/\Kept D v.ownBlock noX w w'/\Nxt w v.ownBlock v'.ownBlock:=by
 have hN:Nxt w v.ownBlock v'.ownBlock:=by
  rcases hl with h1 | h1
  . exact Or.inl h1
  . exact Or.inr ⟨_,h1,qA _⟩
 have hk:Kept D v.ownBlock noX w w':=Kept.of_grown hg (fun k e=>.inr (.inl e));have hk':Kept D v.ownBlock X w w':=hk.more (fun k e=>e.elim);refine⟨⟨by rw[aS1,qI];exact Ab,fun x hx=>?_,?_⟩,hk,hN⟩
 . rcases xY.1 hx with hx | hx
   . exact (h.good x hx).keep hk' hN (NxtX.refl _ _)
   . rw[zC.1 hx];exact hr.keep hk' hN (NxtX.refl _ _)
 . rcases hl with h1 | h1
   . rw[h1];exact h.off
   . rw[h1];intro e2;injection e2 with e2;omega
theorem NO.nodes{rows:List NRow}(h:NO w B D X e v rows):y8 w v (rows.map (·.1)):=by
 have hl:(rows.map (·.1)).length=rows.length:=qS _;rcases h.own.2 with⟨rfl,h0⟩|⟨g,cap,cur,rfl,hb,hg,h1,h2,h3,h4⟩
 . exact⟨none,0,by rw[hl,h0],qO,by simp[maxLen],fun hn=>absurd (hl.trans h0) hn⟩
 .
  refine⟨_,cap,by rw[hl],qO,h2,fun _=>⟨g,0,rfl,fun j f hj=>?_⟩⟩;rw[qa]at hj
  cases hr:rows[j]? with
  | none=>rw[hr]at hj;cases hj
  | some r=>
   rw[hr]at hj;simp only[xG,qe]at hj;subst hj;have hjl:j<rows.length:=(gSm hr).1;have c:∀i,i<8->w.cell? ⟨g,j*8+i,none⟩=(encN r)[i]?:=fun i hi=>by have:=h.own.cellAt (j*8+i) qO;rw[ac0 rows j r hr i hi]at this;exact this
   refine⟨r.2.1,r.2.2,?_,(h.good r (mGt hr)).1⟩;rw[qk];exact⟨c 0 qO,c 1 qO,c 2 qO,c 3 qO,c 4 qO,c 5 qO,c 6 qO,c 7 qO⟩
end Go.Gs
namespace Go.Proofs.YtmejdflmcikkdaaGreatDoor
open Go.RowKit Go.Gs Tryz
variable {g D k B n cap N B' bm ci j j1 fc GL L:Nat}{w w' w1 w2 wr wF:World}{a:Addr}{v gv ov vN vF vX vP c d v1 v3 u1 u2 v' v2:Value}{e t ty te:TypeId}{Z:Nat->Prop}{r':NRow}{ao ai fa:Option Addr}{ns:List SNode}{bs b:qU}{rows rF:List FRow}{fs:List SFile}{O O' OL O1:qW}{o ro:Own}{s sS:Sl}{xs:List SPipe}{X ss gs os:List Sl}{x:SPipe}{bo:Nat->Own}{l:qL}{ps:List SProc}{P:List PSlot}{p:SProc}{rN:List NRow}{cur arr:Array Value}{r:FRow}{fn:Func}{i il:TypeInfo}
theorem X6{α β:Type}:∀{xs:List α}{P:Nat->α->β->Prop},(∀(j:Nat)(x:α),xs[j]?=some x->∃y,P j x y)->∃ys:List β,ys.length=xs.length/\∀(j:Nat)(x:α)(y:β),xs[j]?=some x->ys[j]?=some y->P j x y
 | [],P,h=>⟨[],rfl,fun j x y hx=>by simp at hx⟩
 | a::r,P,h=>by
  obtain⟨y0,hy0⟩:=h 0 a rfl;obtain⟨ys,h1,h2⟩:=X6 (xs:=r) (P:=fun j x y=>P (j+1) x y) (fun j x hx=>h (j+1) x (by simpa using hx));refine⟨y0::ys,by simp[h1],fun j x y hx hy=>?_⟩
  cases j with
  | zero=>simp at hx hy;subst hx hy;exact hy0
  | succ j=>exact h2 j x y (by simpa using hx) (by simpa using hy)
structure Off (g:Nat) (w w':World):Prop where
 os:w'.os=w.os
 tape:w'.tape=w.tape
 output:w'.output=w.output
 size:w.heap.size<=w'.heap.size
 block:∀k,k<w.heap.size->k≠g->w'.heap[k]?=w.heap[k]?
theorem Off.refl(g:Nat)(w:World):Off g w w:=⟨rfl,rfl,rfl,qA _,fun _ _ _=>rfl⟩
theorem Off.of_below(h:Bq w w'):Off g w w':=⟨h.os,h.tape,h.output,h.size,fun k hk _=>h.block k hk⟩
theorem Off.trans(h:Off g w w1)(k:Off g w1 w2):Off g w w2:=⟨k.os.trans h.os,k.tape.trans h.tape,k.output.trans h.output,by have:=h.size;have:=k.size;omega,fun j hj hn=>(k.block j (by have:=h.size;omega) hn).trans (h.block j hj hn)⟩
theorem Off.set(h:Off g w w')(ha:a.block=g):Off g w (w'.setCell a v):=
 ⟨h.os,h.tape,h.output,by simpa using h.size,fun k hk hn=>(Below.heap_setCell _ _ _ _ (by rw[ha];exact hn)).trans (h.block k hk hn)⟩
theorem Off.setNew(h:Off g w w')(ha:w.heap.size<=a.block):Off g w (w'.setCell a v):=
 ⟨h.os,h.tape,h.output,by simpa using h.size,fun k hk hn=>(Below.heap_setCell _ _ _ _ qO).trans (h.block k hk hn)⟩
def cutH(w:World)(D:Nat):World:={ w with heap:=w.heap.extract 0 D }
theorem Z5(h:D<=w.heap.size):(cutH w D).heap.size=D:=by unfold cutH;simp;omega
theorem aj8(h:D<=w.heap.size)(hk:k<D):(cutH w D).heap[k]?=w.heap[k]?:=by unfold cutH;simp only[Array.getElem?_extract];rw[qF qO,qk]
theorem aw4(h:D<=w.heap.size):Below D (cutH w D) w:=⟨rfl,rfl,rfl,by rw[Z5 h];exact h,fun k hk=>(aj8 h hk).symm⟩
structure OffB (g:Nat) (w w':World):Prop where
 os:w'.os=w.os
 tape:w'.tape=w.tape
 output:w'.output=w.output
 size:w.heap.size<=w'.heap.size
 block:∀k,k<w.heap.size->k≠g->k≠g+1->w'.heap[k]?=w.heap[k]?
theorem OffB.of(h:Off g w w'):OffB g w w':=⟨h.os,h.tape,h.output,h.size,fun k hk h1 _=>h.block k hk h1⟩
theorem OffB.set(h:OffB g w w')(ha:a.block=g+1):OffB g w (w'.setCell a v):=
 ⟨h.os,h.tape,h.output,by simpa using h.size,fun k hk hn hn2=>(Below.heap_setCell _ _ _ _ (by rw[ha];exact hn2)).trans (h.block k hk hn hn2)⟩
theorem bI8(h:OffB g w w'):OffB g w (cutH w' w.heap.size):=⟨h.os,h.tape,h.output,by rw[Z5 h.size];exact qA _,fun k hk hn hn2=>(aj8 h.size hk).trans (h.block k hk hn hn2)⟩
def brX(D k:Nat):Prop:=k=D+1
theorem NO.off{rows:List NRow}(h:NO w B D (brX D) e v rows)(hB:D+2<=B)(ho:OffB D w w'):NO w' B D (brX D) e v rows:=
 h.keep ⟨ho.os,ho.tape,ho.output,ho.size,fun k hk hn=>ho.block k hk (fun e=>hn (.inl e)) (fun e=>hn (.inr (.inr e)))⟩ (fun g hg=>by
  have:=h.base g hg
  exact ho.block g this.2 qO qO) (NxtX.refl _ _)
theorem aS2:∀(rows:List NRow)(k:Nat)(r r':NRow),rows[k]?=some r->r'.1=r.1->D4 (rows.set k r')=(D4 rows).set (k*8+7) (.slice r'.2.1 r'.1.ins.length r'.2.2):=by intro rows k r r' hk e;have h1:=aa7 (k:=8) (rows.map encN) k (encN r) (fun x hx=>by obtain⟨y,_,rfl⟩:=xA.1 hx;rfl) (by rw[qa,hk];rfl) 7 (.slice r'.2.1 r'.1.ins.length r'.2.2) qO;unfold D4;rw[h1,List.map_set];congr 2;unfold encN;rw[e];rfl
theorem NO.setIn{rows:List NRow}(h:NO w B D Z e (.slice (some ⟨g,0,none⟩) n cap) rows){r:NRow}(hk:rows[k]?=some r)(hn:r'.1=r.1)(hr:POff w D (some g) Z r'.2.1 r'.2.2 r'.1.ins):
 NO (w.setCell ⟨g,k*8+7,none⟩ (.slice r'.2.1 r'.1.ins.length r'.2.2)) B D Z e (.slice (some ⟨g,0,none⟩) n cap) (rows.set k r'):=by
 have hkl:k<rows.length:=(gSm hk).1;have hnn:n=rows.length:=by
  rcases h.own.2 with⟨h2,_⟩|⟨_,_,_,h2,_⟩
  . cases h2
  . injection h2
 subst hnn;have hK:Kept D (some g) Z w (w.setCell ⟨g,k*8+7,none⟩ (.slice r'.2.1 r'.1.ins.length r'.2.2)):=⟨rfl,rfl,rfl,by simp,fun q _ hq=>Below.heap_setCell _ _ _ _ (fun e=>hq (.inr (.inl (by rw[e]))))⟩;refine⟨?_,fun x hx=>?_,h.off⟩
 . rw[List.length_set,aS2 rows k r r' hk hn];exact O6 h.own _ qO _
 . rcases zS hx with hx | rfl
   . exact (h.good x hx).keep hK (Nxt.refl _ _) (NxtX.refl _ _)
   . exact hr.keep hK (Nxt.refl _ _) (NxtX.refl _ _)
theorem aS5(rows:List NRow):∀u∈D4 rows,u.oneCell'=true:=by intro u hu;unfold D4 at hu;rw[zv]at hu;obtain⟨l,hl,hu⟩:=hu;obtain⟨r,_,rfl⟩:=xA.1 hl;exact bS6 r u hu
theorem bT9(h:y8 w (.slice ao n cap) ns):∃rows:List NRow,rows.map (·.1)=ns/\(∀a,ao=some a->∀j u,(D4 rows)[j]?=some u->w.cell? (a.add j)=some u)/\(∀r∈rows,D5 w (.slice r.2.1 r.1.ins.length r.2.2) r.1.ins)/\(ao=none->n=0):=by
 obtain⟨ao',cap',e,h2,h3,h4⟩:=h;injection e with e1 e2 e3;subst e1 e2;by_cases h0:ns.length=0
 . have:ns=[]:=qz.1 h0;subst this;exact⟨[],rfl,fun a _ j u hu=>by simp[D4]at hu,fun r hr=>(by cases hr),fun _=>rfl⟩
 .
  obtain⟨b,off,hao,hc⟩:=h4 h0
  obtain⟨ys,hl,hy⟩:=X6 (P:=fun j x (y:Option Addr × Nat)=>aw0 w b (off+j*8) x y.1 y.2/\D5 w (.slice y.1 x.ins.length y.2) x.ins) (fun j x hx=>by
   obtain⟨ai,ci,a1,a2⟩:=hc j x hx
   exact⟨(ai,ci),a1,a2⟩)
  have hzl:(ns.zip ys).length=ns.length:=by rw[List.length_zip];omega
  have hz:∀(j:Nat)(r:NRow),(ns.zip ys)[j]?=some r->aw0 w b (off+j*8) r.1 r.2.1 r.2.2/\D5 w (.slice r.2.1 r.1.ins.length r.2.2) r.1.ins:=by intro j r hr;rw[List.getElem?_zip_eq_some]at hr;exact hy j r.1 r.2 hr.1 hr.2
  refine⟨ns.zip ys,by rw[List.map_fst_zip qO],fun a ha j u hu=>?_,fun r hr=>?_,fun h=>by rw[hao]at h;cases h⟩
  . rw[hao]at ha;injection ha with ha;subst ha;rw[addP];have hjl:j<(D4 (ns.zip ys)).length:=(gSm hu).1;rw[ah5,hzl]at hjl;obtain⟨r,hr⟩:∃r,(ns.zip ys)[j / 8]?=some r:=⟨_,gEl (by rw[hzl];omega)⟩;have hj8:j=j / 8*8+j % 8:=qO;have hm:j % 8<8:=qO;rw[hj8,ac0 _ _ r hr _ hm]at hu;obtain⟨c0,c1,c2,c3,c4,c5,c6,c7⟩:=(hz _ r hr).1;have Ah:off+j=off+j / 8*8+j % 8:=qO;rw[Ah];generalize j % 8=m,j / 8=q at *;have:m=0\/m=1\/m=2\/m=3\/m=4\/m=5\/m=6\/m=7:=qO;rcases this with rfl | rfl | rfl | rfl | rfl | rfl | rfl | rfl
    all_goals
     simp[encN]at hu;subst hu;assumption
  . obtain⟨j,hj⟩:=qw hr;exact (hz j r hj).2
structure FO2 (w:World) (B D:Nat) (v:Value) (rows:List FRow):Prop where
 fo:FO w B 59 v rows
 lo:D+2<=B
 good:∀r∈rows,r.1.b.length≠0->∀a,r.2.1=some a->a.block≠D/\a.block≠D+1
theorem ai1(h:Reads w (.slice (some a) n cap) bs.length (bs.map U))(h0:bs.length≠0):a.block<w.heap.size:=by
 obtain⟨h1,ao,cap,e,h2,h3,h4⟩:=h;obtain⟨b,off,e2,hc⟩:=h4 h0;injection e with e1 _ _;rw[<- e1]at e2;injection e2 with e2;subst e2;have hl:0<(bs.map U).length:=by rw[qS];omega
 exact bLt w _ (hc 0 _ (gEl hl))
theorem FO2.off'(h:FO2 w B D v rows)(ho:OffB D w w'):FO2 w' B D v rows:=by
 refine⟨⟨?_,fun r hr=>?_⟩,h.lo,h.good⟩
 . exact j5 h.fo.own (fun g hg=>by
    have h1:=h.fo.own.lt g hg
    have h2:=h.lo
    exact ho.block g h1.2 qO qO)
 .
  obtain⟨g1,g2,g3⟩:=h.fo.good r hr;refine⟨g1,?_,g3⟩;by_cases h0:r.1.b.length=0
  . obtain⟨h1,ao,cap,e,h2,h3,h4⟩:=g2;exact⟨h1,ao,cap,e,h2,h3,fun hn=>absurd h0 hn⟩
  . refine Q4 g2 (fun a ha=>ho.block _ ?_ (h.good r hr h0 a ha).1 (h.good r hr h0 a ha).2);rw[ha]at g2;exact ai1 g2 h0
theorem bU0(h:o8 w (.slice ao n cap) fs):∃rows:List FRow,rows.map (·.1)=fs/\(∀a,ao=some a->∀j u,(E5 rows)[j]?=some u->w.cell? (a.add j)=some u)/\(∀r∈rows,r.2.2.1=r.1.b.length/\Reads w (.slice r.2.1 r.2.2.1 r.2.2.2) r.1.b.length (r.1.b.map U))/\(ao=none->n=0):=by
 obtain⟨ao',cap',e,h2,h3,h4⟩:=h;injection e with e1 e2 e3;subst e1 e2;by_cases h0:fs.length=0
 . have:fs=[]:=qz.1 h0;subst this;exact⟨[],rfl,fun a _ j u hu=>by simp[E5]at hu,fun r hr=>(by cases hr),fun _=>rfl⟩
 .
  obtain⟨b,off,hao,hc⟩:=h4 h0
  obtain⟨ys,hl,hy⟩:=X6 (P:=fun j (x:SFile) (y:Option Addr × Nat × Nat)=>w.cell? ⟨b,off+j*2,none⟩=some (.string ⟨x.name.toArray⟩)/\w.cell? ⟨b,off+j*2+1,none⟩=some (.slice y.1 y.2.1 y.2.2)/\y.2.1=x.b.length/\Reads w (.slice y.1 y.2.1 y.2.2) x.b.length (x.b.map U)) (fun j x hx=>by
   obtain⟨u,a1,a2,a3⟩:=hc j x hx
   obtain⟨q1,aa,cc,e,q2⟩:=id a3
   subst e
   exact⟨(aa,x.b.length,cc),a1,a2,rfl,a3⟩)
  have hzl:(fs.zip ys).length=fs.length:=by rw[List.length_zip];omega
  have hz:∀(j:Nat)(r:FRow),(fs.zip ys)[j]?=some r->w.cell? ⟨b,off+j*2,none⟩=some (.string ⟨r.1.name.toArray⟩)/\w.cell? ⟨b,off+j*2+1,none⟩=some (.slice r.2.1 r.2.2.1 r.2.2.2)/\r.2.2.1=r.1.b.length/\Reads w (.slice r.2.1 r.2.2.1 r.2.2.2) r.1.b.length (r.1.b.map U):=by intro j r hr;rw[List.getElem?_zip_eq_some]at hr;exact hy j r.1 r.2 hr.1 hr.2
  refine⟨fs.zip ys,by rw[List.map_fst_zip qO],fun a ha j u hu=>?_,fun r hr=>?_,fun h=>by rw[hao]at h;cases h⟩
  . rw[hao]at ha;injection ha with ha;subst ha;rw[addP];exact bv0 (b:=b) (off:=off) (rows:=fs.zip ys) (fun j r hr=>⟨(hz j r hr).1,(hz j r hr).2.1⟩) j u hu
  . obtain⟨j,hj⟩:=qw hr;exact (hz j r hj).2.2
def OLo(O:qW)(D:Nat)(w:World):Prop:=∀g o,O g=some o->D<=g/\g<w.heap.size
theorem OLo.add(h:OLo O D w)(hb:Bq w w')(hD:D<=w.heap.size)(o:Own):OLo (addO O w w' o) D w':=by
 intro g o' hg;have:=hb.size;unfold addO at hg;split at hg
 . omega
 . have:=h g o' hg;omega
theorem OLo.set(h:OLo O D w)(a:Addr)(v:Value):OLo O D (w.setCell a v):=fun g o hg=>by
 have:=h g o hg
 rw[show (w.setCell a v).heap.size=w.heap.size by simp]
 exact this
theorem J0(h:k<w.heap.size):addO O w w' o k=O k:=by unfold addO;rw[qB qO]
theorem ROf.of_sof(h:SOf w O o s b):ROf w O o s b:=by
 refine⟨h.reads,fun h0=>?_,fun _ a ha=>?_⟩
 . rcases h with⟨rfl,_⟩|⟨g,off,cur,hs,_⟩
   . rfl
   . rw[h0]at hs;cases hs
 .
  rcases h with⟨rfl,_⟩|⟨g,off,cur,hs,ho,_⟩
  . cases ha
  . rw[hs]at ha;injection ha with ha;subst ha;exact ho
structure PT (w wr:World) (D:Nat) (v:Value) (xs:List SPipe) (k:Nat) (X:List Sl) (O:qW):Prop where
 own:wr.ownsRow D 61 4 v xs.length (A9 xs X).flatten
 ob:N8 O v .pipes
 len:X.length=xs.length
 bys:∀(q:Nat)(x:SPipe)(s:Sl),q<k->xs[q]?=some x->X[q]?=some s->ROf wr O (.pipe q) s x.b
 rest:∀(q:Nat)(x:SPipe)(s:Sl),k<=q->xs[q]?=some x->X[q]?=some s->Reads w (sl x.b s) x.b.length (x.b.map U)
theorem PT.keep(h:PT w wr D v xs k X O)(hk:∀g o,O g=some o->(o=.pipes\/∃q,o=.pipe q)->w'.heap[g]?=wr.heap[g]?)(hO:∀g o,O g=some o->O' g=O g):PT w w' D v xs k X O':=
 ⟨j5 h.own (fun g hg=>hk g _ (h.ob g hg) (.inl rfl)),fun g hg=>(hO g _ (h.ob g hg)).trans (h.ob g hg),h.len,fun q x s hq hx hs=>(h.bys q x s hq hx hs).keep (fun g hg=>hk g _ hg (.inr ⟨q,rfl⟩)) hO,h.rest⟩
theorem PT.step{c:Nat}(hN:N=xs.length)(h:PT w wr D (.slice (some ⟨g,0,none⟩) N c) xs k X O)(hlo:OLo O D wr)(hD:D<=wr.heap.size)(hx:xs[k]?=some x)(hle:Bq wr w2)
 {v2:Value} (ho:w2.ownsRow wr.heap.size 5 1 v2 x.b.length (x.b.map U)):
 ∃s2,PT w (w2.setCell ⟨g,k*4,none⟩ v2) D (.slice (some ⟨g,0,none⟩) N c) xs (k+1) (X.set k s2) (addO O wr w2 (.pipe k))/\OLo (addO O wr w2 (.pipe k)) D (w2.setCell ⟨g,k*4,none⟩ v2):=by
 subst hN;have hgo:O g=some .pipes:=h.ob g rfl;have hgl:=hlo g _ hgo;have hb2:∀g',v2.ownBlock=some g'->addO O wr w2 (.pipe k) g'=some (.pipe k):=fun g' hg'=>by have:=ho.lt g' hg';unfold addO;rw[qF ⟨this.1,this.2⟩]
 obtain⟨s2,e2,hso,_⟩:=SOf.of_owns ho hb2;subst e2;have hkl:k<xs.length:=(gSm hx).1;have hg2:addO O wr w2 (.pipe k) g=some .pipes:=(J0 hgl.2).trans hgo;have h1:PT w w2 D (.slice (some ⟨g,0,none⟩) xs.length c) xs k X (addO O wr w2 (.pipe k)):=h.keep (fun g' o hg' _=>hle.block g' (hlo g' o hg').2) (fun g' o hg'=>J0 (hlo g' o hg').2);obtain⟨s,hs⟩:∃s,X[k]?=some s:=⟨_,gEl (by rw[h.len];exact hkl)⟩
 have hk':∀q k',addO O wr w2 (.pipe k) k'=some (.pipe q)->(w2.setCell ⟨g,k*4,none⟩ (sl x.b s2)).heap[k']?=w2.heap[k']?:=fun q k' hk'=>Below.heap_setCell _ _ _ _ (fun e=>by
  subst e
  rw[hg2]at hk'
  cases hk')
 refine⟨s2,⟨?_,fun g' hg'=>?_,by simpa using h.len,fun q x' s' hq hx' hs'=>?_,fun q x' s' hq hx' hs'=>?_⟩,(hlo.add hle hD _).set _ _⟩
 . have Ap:(A9 xs X)[k]?=some (P7 x s):=Z2 hx hs;have h2:=O6 h1.own (k*4) qO (sl x.b s2);have f0:=aa7 _ k _ (N7 xs X) Ap 0 (sl x.b s2) qO;rw[Nat.add_zero]at f0;have e1:(P7 x s).set 0 (sl x.b s2)=P7 x s2:=rfl;rw[f0,e1]at h2;unfold A9 at h2;rw[ae3,am8 hx]at h2;exact h2
 . have e1:g=g':=by injection hg'
   subst e1;exact hg2
 .
  by_cases e:q=k
  . subst e;rw[hx]at hx';injection hx' with hx';subst hx';rw[j8 hs]at hs';injection hs' with hs';subst hs';exact ROf.of_sof (hso.keep (hk' q) (fun _ _=>rfl))
  . rw[D6 (fun e2=>e e2.symm)]at hs';exact (h1.bys q x' s' qO hx' hs').keep (hk' q) (fun _ _ _=>rfl)
 . rw[D6 (fun e2=>qO)]at hs';exact h.rest q x' s' qO hx' hs'
theorem bm2(h:N6 w (.slice ao n cap) xs):∃X:List Sl,X.length=xs.length/\(∀a,ao=some a->∀j u,(A9 xs X).flatten[j]?=some u->w.cell? (a.add j)=some u)/\(∀(q:Nat)(x:SPipe)(s:Sl),xs[q]?=some x->X[q]?=some s->Reads w (sl x.b s) x.b.length (x.b.map U))/\(ao=none->n=0):=by
 obtain⟨ao',cap',e,h2,h3,h4⟩:=h;injection e with e1 e2 e3;subst e1 e2;by_cases h0:xs.length=0
 . have:xs=[]:=qz.1 h0;subst this;exact⟨[],rfl,fun a _ j u hu=>by simp[A9]at hu,fun q x s hx=>by simp at hx,fun _=>rfl⟩
 .
  obtain⟨b,off,hao,hc⟩:=h4 h0
  obtain⟨X,hl,hy⟩:=X6 (P:=fun j (x:SPipe) (s:Sl)=>w.cell? ⟨b,off+j*4,none⟩=some (sl x.b s)/\w.cell? ⟨b,off+j*4+1,none⟩=some (.int .i64 x.room)/\w.cell? ⟨b,off+j*4+2,none⟩=some (.bool x.closed)/\w.cell? ⟨b,off+j*4+3,none⟩=some (.bool x.shut)/\Reads w (sl x.b s) x.b.length (x.b.map U)) (fun j x hx=>by
   obtain⟨ab,cb,a0,a1,a2,a3,a4⟩:=hc j x hx
   exact⟨(ab,cb),a0,a1,a2,a3,a4⟩)
  refine⟨X,hl,fun a ha j u hu=>?_,fun q x s hx hs=>(hy q x s hx hs).2.2.2.2,fun h=>by rw[hao]at h;cases h⟩;rw[hao]at ha;injection ha with ha;subst ha;rw[addP];have hjl:j<(A9 xs X).flatten.length:=(gSm hu).1;rw[ah2 _ (N7 xs X)]at hjl;have hrl:(A9 xs X).length=xs.length:=by unfold A9;rw[xZ];omega
  rw[hrl]at hjl;obtain⟨x,hx⟩:∃x,xs[j / 4]?=some x:=⟨_,gEl qO⟩;obtain⟨s,hs⟩:∃s,X[j / 4]?=some s:=⟨_,gEl qO⟩;have hj4:j=j / 4*4+j % 4:=qO;have hm:j % 4<4:=qO;have Ap:(A9 xs X)[j / 4]?=some (P7 x s):=Z2 hx hs;rw[hj4,aa2 _ _ _ (N7 xs X) Ap _ hm]at hu;obtain⟨c0,c1,c2,c3,_⟩:=hy _ x s hx hs;have Ah:off+j=off+j / 4*4+j % 4:=qO;rw[Ah];generalize j % 4=m,j / 4=q at *;have:m=0\/m=1\/m=2\/m=3:=qO;rcases this with rfl | rfl | rfl | rfl
  all_goals
   simp[P7]at hu;subst hu;assumption
theorem bd5(xs:List SPipe)(X:List Sl):∀u∈(A9 xs X).flatten,u.oneCell'=true:=by intro u hu;rw[zv]at hu;obtain⟨l,hl,hu⟩:=hu;obtain⟨j,hj⟩:=qw hl;unfold A9 at hj;obtain⟨x,s,_,_,rfl⟩:=zM.1 hj;unfold P7 at hu;simp at hu;rcases hu with rfl | rfl | rfl | rfl <;> rfl
theorem SOf.lift(h:SOf w O o s b)(hO:∀k o,O k=some o->O' k=some o):SOf w O' o s b:=by
 rcases h with h | ⟨g,off,cur,hs,ho,h1⟩
 . exact .inl h
 . exact .inr ⟨g,off,cur,hs,hO g o ho,h1⟩
theorem SOf.move(h:SOf w O o s b)(hk:∀k,O k=some o->w'.heap[k]?=w.heap[k]?):SOf w' O o s b:=h.keep hk (fun _ _=>rfl)
theorem CL.keep(h:CL w B O ro bo v ss l)(hk:∀g o,O g=some o->(o=ro\/∃j,o=bo j)->w'.heap[g]?=w.heap[g]?)(hO:∀g o,O g=some o->O' g=some o):CL w' B O' ro bo v ss l:=
 ⟨j5 h.own (fun g hg=>hk g _ (h.ob g hg) (.inl rfl)),fun g hg=>hO g _ (h.ob g hg),h.len,fun j b s hb hs=>((h.bys j b s hb hs).move (fun g hg=>hk g _ hg (.inr ⟨j,rfl⟩))).lift hO⟩
theorem CL.lower(h:CL w B O ro bo v ss l)(hB:B'<=B):CL w B' O ro bo v ss l:=by
 refine⟨⟨h.own.1,?_⟩,h.ob,h.len,h.bys⟩;rcases h.own.2 with h0 | ⟨g,cap,cur,e,hb,h1⟩
 . exact .inl h0
 . exact .inr ⟨g,cap,cur,e,qO,h1⟩
structure QT (w wr:World) (D:Nat) (v:Value) (ps:List SProc) (k:Nat) (P:List PSlot) (O:qW):Prop where
 own:wr.ownsRow D 64 5 v ps.length (l9 ps P).flatten
 ob:N8 O v .procs
 len:P.length=ps.length
 bys:∀(i:Nat)(p:SProc)(s:PSlot),i<k->ps[i]?=some p->P[i]?=some s->CL wr D O (.gots i) (Own.got i) s.gv s.gs p.got/\CL wr D O (.outs i) (Own.out i) s.ov s.os p.out
 rest:∀(i:Nat)(p:SProc)(s:PSlot),k<=i->ps[i]?=some p->P[i]?=some s->RList w s.gv U p.got/\RList w s.ov U p.out
theorem QT.keep(h:QT w wr D v ps k P O)(hk:∀g o,O g=some o->w'.heap[g]?=wr.heap[g]?)(hO:∀g o,O g=some o->O' g=some o):QT w w' D v ps k P O':=
 ⟨j5 h.own (fun g hg=>hk g _ (h.ob g hg)),fun g hg=>hO g _ (h.ob g hg),h.len,fun i p s hi hp hs=>⟨(h.bys i p s hi hp hs).1.keep (fun g o hg _=>hk g o hg) hO,(h.bys i p s hi hp hs).2.keep (fun g o hg _=>hk g o hg) hO⟩,h.rest⟩
theorem QT.step{c:Nat}(hN:N=ps.length)(h:QT w wr D (.slice (some ⟨g,0,none⟩) N c) ps k P O)(hp:ps[k]?=some p)
 (h1:CL wr D O (.gots k) (Own.got k) gv gs p.got) (h2:CL wr D O (.outs k) (Own.out k) ov os p.out):
 QT w ((wr.setCell ⟨g,k*5,none⟩ gv).setCell ⟨g,k*5+2,none⟩ ov) D (.slice (some ⟨g,0,none⟩) N c) ps (k+1) (P.set k ⟨gv,ov,gs,os⟩) O:=by
 subst hN;have hgo:O g=some .procs:=h.ob g rfl;have hkl:k<ps.length:=(gSm hp).1;obtain⟨s,hs⟩:∃s,P[k]?=some s:=⟨_,gEl (by rw[h.len];exact hkl)⟩;have hk':∀o k',o≠Own.procs->O k'=some o->((wr.setCell ⟨g,k*5,none⟩ gv).setCell ⟨g,k*5+2,none⟩ ov).heap[k']?=wr.heap[k']?:=fun o k' ho hk'=>by
  have hne:k'≠g:=fun e=>by subst e;rw[hgo]at hk';injection hk' with hk';exact ho hk'.symm
  rw[Below.heap_setCell _ _ _ _ hne,Below.heap_setCell _ _ _ _ hne]
 have kc:∀{ro:Own}{bo:Nat->Own}{v:Value}{ss:List Sl}{l:qL},ro≠Own.procs->(∀j,bo j≠Own.procs)->CL wr D O ro bo v ss l->CL ((wr.setCell ⟨g,k*5,none⟩ gv).setCell ⟨g,k*5+2,none⟩ ov) D O ro bo v ss l:=fun hr hb hc=>hc.keep (fun g' o hg' hx=>hk' o g' (by rcases hx with rfl | ⟨j,rfl⟩;exact hr;exact hb j) hg') (fun _ _ h=>h);refine⟨?_,h.ob,by simpa using h.len,fun i p' s' hi hp' hs'=>?_,fun i p' s' hi hp' hs'=>?_⟩
 .
  have Ap:(l9 ps P)[k]?=some (F7 p s):=Z2 hp hs;have k0:=O6 h.own (k*5) qO gv;have k1:=O6 k0 (k*5+2) qO ov;have f0:=aa7 _ k _ (J3 ps P) Ap 0 gv qO;rw[Nat.add_zero]at f0;rw[f0]at k1;have hl1:∀r∈(l9 ps P).set k ((F7 p s).set 0 gv),r.length=5:=fun r hr=>by
   rcases zS hr with h | h
   . exact J3 ps P r h
   . rw[h];rfl
  rw[aa7 _ k _ hl1 (j8 Ap) 2 ov qO,List.set_set]at k1;have e1:((F7 p s).set 0 gv).set 2 ov=F7 p ⟨gv,ov,gs,os⟩:=rfl;rw[e1]at k1;unfold l9 at k1;rw[ae3,am8 hp]at k1;exact k1
 .
  by_cases e:i=k
  . subst e;rw[hp]at hp';injection hp' with hp';subst hp';rw[j8 hs]at hs';injection hs' with hs';subst hs';exact⟨kc (by simp) (by simp) h1,kc (by simp) (by simp) h2⟩
  . rw[D6 (fun e2=>e e2.symm)]at hs';obtain⟨q1,q2⟩:=h.bys i p' s' qO hp' hs';exact⟨kc (by simp) (by simp) q1,kc (by simp) (by simp) q2⟩
 . rw[D6 (fun e2=>qO)]at hs';exact h.rest i p' s' qO hp' hs'
theorem bm3(h:J7 w (.slice ao n cap) ps):∃P:List PSlot,P.length=ps.length/\(∀a,ao=some a->∀j u,(l9 ps P).flatten[j]?=some u->w.cell? (a.add j)=some u)/\(∀(i:Nat)(p:SProc)(s:PSlot),ps[i]?=some p->P[i]?=some s->RList w s.gv U p.got/\RList w s.ov U p.out)/\(ao=none->n=0)/\∀u∈(l9 ps P).flatten,u.oneCell'=true:=by
 obtain⟨ao',cap',e,h2,h3,h4⟩:=h;injection e with e1 e2 e3;subst e1 e2;by_cases h0:ps.length=0
 . have:ps=[]:=qz.1 h0;subst this;exact⟨[],rfl,fun a _ j u hu=>by simp[l9]at hu,fun q x s hx=>by simp at hx,fun _=>rfl,fun u hu=>by simp[l9]at hu⟩
 .
  obtain⟨b,off,hao,hc⟩:=h4 h0
  obtain⟨P,hl,hy⟩:=X6 (P:=fun j (p:SProc) (s:PSlot)=>(∃ag cg ab cb,s.gv=.slice ag p.got.length cg/\s.ov=.slice ab p.out.length cb)/\w.cell? ⟨b,off+j*5,none⟩=some s.gv/\w.cell? ⟨b,off+j*5+1,none⟩=some (.int .i64 p.pos)/\w.cell? ⟨b,off+j*5+2,none⟩=some s.ov/\w.cell? ⟨b,off+j*5+3,none⟩=some (.bool p.rd)/\w.cell? ⟨b,off+j*5+4,none⟩=some (.bool p.ov)/\RList w s.gv U p.got/\RList w s.ov U p.out) (fun j x hx=>by
   obtain⟨ag,cg,ab,cb,a0,a1,a2,a3,a4,a5,a6⟩:=hc j x hx
   exact⟨⟨.slice ag x.got.length cg,.slice ab x.out.length cb,[],[]⟩,⟨ag,cg,ab,cb,rfl,rfl⟩,a0,a1,a2,a3,a4,a5,a6⟩)
  refine⟨P,hl,fun a ha j u hu=>?_,fun q x s hx hs=>(hy q x s hx hs).2.2.2.2.2.2,fun h=>(by rw[hao]at h;cases h),fun u hu=>?_⟩
  .
   rw[hao]at ha;injection ha with ha;subst ha;rw[addP];have hjl:j<(l9 ps P).flatten.length:=(gSm hu).1;rw[ah2 _ (J3 ps P)]at hjl;have hrl:(l9 ps P).length=ps.length:=by unfold l9;rw[xZ];omega
   rw[hrl]at hjl;obtain⟨x,hx⟩:∃x,ps[j / 5]?=some x:=⟨_,gEl qO⟩;obtain⟨s,hs⟩:∃s,P[j / 5]?=some s:=⟨_,gEl qO⟩;have hj4:j=j / 5*5+j % 5:=qO;have hm:j % 5<5:=qO;have Ap:(l9 ps P)[j / 5]?=some (F7 x s):=Z2 hx hs;rw[hj4,aa2 _ _ _ (J3 ps P) Ap _ hm]at hu;obtain⟨_,c0,c1,c2,c3,c4,_⟩:=hy _ x s hx hs;have Ah:off+j=off+j / 5*5+j % 5:=qO;rw[Ah];generalize j % 5=m,j / 5=q at *;have:m=0\/m=1\/m=2\/m=3\/m=4:=qO;rcases this with rfl | rfl | rfl | rfl | rfl
   all_goals
    simp[F7]at hu;subst hu;assumption
  .
   rw[zv]at hu;obtain⟨l,hl2,hu⟩:=hu;obtain⟨j,hj⟩:=qw hl2;unfold l9 at hj;obtain⟨x,s,hx,hs,rfl⟩:=zM.1 hj;obtain⟨⟨ag,cg,ab,cb,e1,e2⟩,_⟩:=hy j x s hx hs;unfold F7 at hu;simp at hu;rcases hu with rfl | rfl | rfl | rfl | rfl
   . rw[e1];rfl
   . rfl
   . rw[e2];rfl
   . rfl
   . rfl
def N2(O OL:qW)(w:World)(k:Nat):Option Own:=if k<w.heap.size then O k else OL k
theorem S8(h:OLo O D w):∀k o,O k=some o->N2 O OL w k=some o:=fun k o hk=>by
 unfold N2
 rw[qF (h k o hk).2]
 exact hk
theorem ai2(h:OLo OL w.heap.size w'):∀k o,OL k=some o->N2 O OL w k=some o:=fun k o hk=>by
 unfold N2
 rw[qB (by have:=h k o hk;omega)]
 exact hk
theorem OLo.join(h:OLo O D w)(h2:OLo OL w.heap.size w')(hD:D<=w.heap.size)(hs:w.heap.size<=w'.heap.size):OLo (N2 O OL w) D w':=by
 intro g o hg;unfold N2 at hg;split at hg
 . have:=h g o hg;omega
 . have:=h2 g o hg;omega
structure Raw (w:World) (D:Nat) (O:qW) (d:RD):Prop where
 lo:OLo O D w
 none:∀g,O g≠some .box/\O g≠some .aux
 base:∃w0:World,w0.heap.size=D/\Below D w0 w/\y8 w0 d.vN d.M.ns/\o8 w0 d.vF d.M.fs
 xlen:d.X.length=d.M.pipes.length
 plen:d.P.length=d.M.ps.length
 slen:∀(i:Nat)(p:SProc)(s:PSlot),d.M.ps[i]?=some p->d.P[i]?=some s->s.gs.length=p.got.length/\s.os.length=p.out.length
 part:∀o,o≠Own.box->o≠Own.aux->Part w D 0 O (fun _ _=>True) d o
theorem bU1{M:SMach}(hlo:OLo O D wF)(hno:∀g,O g≠some .box/\O g≠some .aux)(hDs:D<=wF.heap.size)(hN:y8 (cutH wF D) vN M.ns)(hF:o8 (cutH wF D) vF M.fs)
 (hX:PT w wF D vX M.pipes M.pipes.length X O) (hP:QT w' wF D vP M.ps M.ps.length P O) (vI vM:Value) (hS:Part wF D 0 O (fun _ _=>True) ⟨M,vN,vF,vX,vP,vI,vM,sS,X,P⟩ .sunk):Raw wF D O ⟨M,vN,vF,vX,vP,vI,vM,sS,X,P⟩:=by
 refine⟨hlo,hno,⟨cutH wF D,Z5 hDs,aw4 hDs,hN,hF⟩,hX.len,hP.len,fun i p s hp hs=>?_,fun o h1 h2=>?_⟩
 . have:=hP.bys i p s (gSm hp).1 hp hs;exact⟨this.1.len,this.2.len⟩
 .
  cases o using Own.elimE with
  | box=>exact absurd rfl h1
  | aux=>exact absurd rfl h2
  | pipes=>exact⟨hX.own,hX.ob⟩
  | procs=>exact⟨hP.own,hP.ob⟩
  | gots i=>exact fun p s hp hs=>⟨(hP.bys i p s (gSm hp).1 hp hs).1.own,(hP.bys i p s (gSm hp).1 hp hs).1.ob⟩
  | outs i=>exact fun p s hp hs=>⟨(hP.bys i p s (gSm hp).1 hp hs).2.own,(hP.bys i p s (gSm hp).1 hp hs).2.ob⟩
  | pipe q=>exact fun x s hx hs=>hX.bys q x s (gSm hx).1 hx hs
  | got i j=>exact fun p s b a hp hs hb ha=>(hP.bys i p s (gSm hp).1 hp hs).1.bys j b a hb ha
  | out i j=>exact fun p s b a hp hs hb ha=>(hP.bys i p s (gSm hp).1 hp hs).2.bys j b a hb ha
  | sunk=>exact hS
theorem ce9{M:SMach}
 (hlo:OLo O D wF) (hno:∀g,O g≠some .box/\O g≠some .aux) (hD:w2.heap.size=D) (Ah:OffB bm w2 wF) (hBb:bm+2<=B) (hN:NO w2 B bm (brX bm) 57 vN rN) (hNe:rN.map (·.1)=M.ns) (hF:FO2 w2 B' bm vF rF) (hFe:rF.map (·.1)=M.fs)
 (hX:PT w wF D vX M.pipes M.pipes.length X O) (hP:QT w wF D vP M.ps M.ps.length P O) (vI vM:Value) (hS:Part wF D 0 O (fun _ _=>True) ⟨M,vN,vF,vX,vP,vI,vM,sS,X,P⟩ .sunk):Raw wF D O ⟨M,vN,vF,vX,vP,vI,vM,sS,X,P⟩:=by
 have h0:=bI8 Ah;rw[hD]at h0;refine bU1 hlo hno (by have:=Ah.size;omega) ?_ ?_ hX hP vI vM hS
 . rw[<- hNe];exact (NO.off hN hBb h0).nodes
 . rw[<- hFe];exact (hF.off' h0).fo.files
def aj9(ps:List (Int × Int)):List Value:=(ps.map (fun p=>[Value.int .i64 p.1,Value.int .i64 p.2])).flatten
theorem ag3(ps:List (Int × Int)):(aj9 ps).length=ps.length*2:=by unfold aj9;rw[ah2 (k:=2) _ (fun r hr=>by obtain⟨p,_,rfl⟩:=xA.1 hr;rfl),qS]
theorem aC7(ps:List (Int × Int))(j:Nat)(p:Int × Int)(h:ps[j]?=some p)(i:Nat)(hi:i<2):(aj9 ps)[j*2+i]? = [Value.int .i64 p.1,Value.int .i64 p.2][i]?:=
 aa2 (k:=2) _ j _ (fun r hr=>by obtain⟨p,_,rfl⟩:=xA.1 hr;rfl) (by rw[qa,h];rfl) i hi
theorem aC8{ps:List (Int × Int)}(h:D5 w (.slice ai ps.length ci) ps):SrcC w ai ps.length (aj9 ps):=by
 obtain⟨ao',cap',e,h2,h3,h4⟩:=h;injection e with e1 e2 e3;subst e1 e3;refine⟨fun h0=>?_,fun a ha j u hu=>?_⟩
 .
  by_cases hn:ps.length=0
  . exact hn
  . obtain⟨b,off,e,_⟩:=h4 hn;rw[h0]at e
    cases e
 .
  have hjl:j<(aj9 ps).length:=(gSm hu).1;rw[ag3]at hjl;obtain⟨b,off,e,hc⟩:=h4 qO;rw[ha]at e;injection e with e;subst e;rw[addP];obtain⟨p,hp⟩:∃p,ps[j / 2]?=some p:=⟨_,gEl qO⟩;have hj:j=j / 2*2+j % 2:=qO;rw[hj,aC7 ps _ p hp _ qO]at hu;obtain⟨c0,c1⟩:=hc _ p hp;have Ah:off+j=off+j / 2*2+j % 2:=qO;rw[Ah];have hm:j % 2<2:=qO;generalize j % 2=m,j / 2=q at *;have:m=0\/m=1:=qO;rcases this with rfl | rfl
  all_goals
   simp at hu;subst hu;assumption
theorem aL5(ps:List (Int × Int)):∀u∈aj9 ps,u.oneCell'=true:=by intro u hu;unfold aj9 at hu;rw[zv]at hu;obtain⟨l,hl2,hu⟩:=hu;obtain⟨p,_,rfl⟩:=xA.1 hl2;simp at hu;rcases hu with rfl | rfl <;> rfl
theorem aW5{ps:List (Int × Int)}(Ab:w.ownsRow B 74 2 v ps.length (aj9 ps)):∃a2 c2,v=.slice a2 ps.length c2/\D5 w (.slice a2 ps.length c2) ps/\∀a,a2=some a->B<=a.block:=by
 rcases id Ab.2 with⟨rfl,h0⟩|⟨g,cap,cur,rfl,hB,hg,q1,q2,q3,q4⟩
 . exact⟨none,0,by rw[h0],⟨none,0,by rw[h0],qO,by simp[maxLen],fun hn=>absurd h0 hn⟩,fun a h=>(by cases h)⟩
 . refine⟨some ⟨g,0,none⟩,cap,rfl,⟨_,cap,rfl,q1,q2,fun hn=>⟨g,0,rfl,fun j p hp=>?_⟩⟩,fun a h=>(by injection h with h;subst h;exact hB)⟩;have hjl:j<ps.length:=(gSm hp).1;rw[qk];have c0:=Ab.cellAt (j*2) qO;have c1:=Ab.cellAt (j*2+1) qO;have d0:=aC7 ps j p hp 0 qO;rw[Nat.add_zero]at d0;rw[d0]at c0;rw[aC7 ps j p hp 1 qO]at c1;exact⟨c0,c1⟩
theorem bw9(ai:Option Addr)(ci:Nat)(ps:List (Int × Int))(w:World)(h:D5 w (.slice ai ps.length ci) ps)(hl:ps.length<=100000):
 Calls prog 68 #[.slice ai ps.length ci] w fun e w'=>∃a2 c2,e=.returned (.slice a2 ps.length c2)/\D5 w' (.slice a2 ps.length c2) ps/\(∀a,a2=some a->w.heap.size<=a.block)/\Bq w w':=by refine (bb8 ai ps.length ci (aj9 ps) w (ag3 ps) hl (aC8 h).1 (aC8 h).2 (aL5 ps)).mono ?_;rintro e w'⟨v',rfl,Ab,hb⟩;obtain⟨a2,c2,e2,h2,h3⟩:=aW5 Ab;exact⟨a2,c2,by rw[e2],h2,h3,hb⟩
theorem i8{a b e:Value}(h:w.heap[k]?=some (.cells #[a,b,c,d,e] t (0,0))):
 w.cell? ⟨k,0,none⟩=some a/\w.cell? ⟨k,1,none⟩=some b/\w.cell? ⟨k,2,none⟩=some c/\w.cell? ⟨k,3,none⟩=some d/\w.cell? ⟨k,4,none⟩=some e/\∀j,w.frozen? ⟨k,j,none⟩=false:=by
 refine⟨?_,?_,?_,?_,?_,fun j=>xW _ _ _ _ _ h⟩
 all_goals
  rw[qY _ _ _ _ _ _ h];rfl
def BX(w:World)(bm:Nat)(a b c d e:Value):Prop:=w.heap[bm]?=some (.cells #[a,b,c,d,e] 30 (0,0))/\w.heap[bm+1]?=some (.cells #[.slice none 0 0,.slice none 0 0,.slice none 0 0,.slice none 0 0,.slice none 0 0] 30 (0,0))
theorem BX.keep{a b e:Value}(h:BX w bm a b c d e)(hk:∀k,k=bm\/k=bm+1->w'.heap[k]?=w.heap[k]?):BX w' bm a b c d e:=⟨(hk _ (.inl rfl)).trans h.1,(hk _ (.inr rfl)).trans h.2⟩
theorem BX.lt{a b e:Value}(h:BX w bm a b c d e):bm+1<w.heap.size:=(aSm h.2).1
theorem BX.below{a b e:Value}(h:BX w bm a b c d e)(hb:Bq w w'):BX w' bm a b c d e:=h.keep (fun k hk=>hb.block k (by have:=h.lt;omega))
theorem BX.other{a b e:Value}(h:BX w bm a b c d e){p:Addr}(hp:bm+1<p.block):BX (w.setCell p v) bm a b c d e:=h.keep (fun k hk=>Below.heap_setCell _ _ _ _ qO)
theorem BX.set{a b e:Value}(h:w.heap[bm]?=some (.cells cur 30 (0,0)))(h2:w.heap[bm+1]?=some (.cells #[.slice none 0 0,.slice none 0 0,.slice none 0 0,.slice none 0 0,.slice none 0 0] 30 (0,0)))(hc:cur.setIfInBounds j v=#[a,b,c,d,e]):BX (w.setCell ⟨bm,j,none⟩ v) bm a b c d e:=by refine⟨?_,(Below.heap_setCell _ _ _ _ (by simp)).trans h2⟩;rw[zH w bm j cur _ (0,0) v h,<- hc];exact setRow_heap w bm cur _ _ _ h
theorem bU2{r':FRow}(h:rows[k]?=some r)(e:r'.1=r.1):(rows.set k r').map (·.1)=rows.map (·.1):=by rw[List.map_set,e];exact am8 (by rw[qa,h];rfl)
def NoBA(O:qW):Prop:=∀g,O g≠some .box/\O g≠some .aux
theorem NoBA.add(h:NoBA O)(w w':World)(h1:o≠Own.box)(h2:o≠Own.aux):NoBA (addO O w w' o):=by
 intro g;unfold addO;split
 . exact⟨fun e=>h1 (by injection e),fun e=>h2 (by injection e)⟩
 . exact h g
theorem NoBA.join(h:NoBA O)(hv:∀g o,OL g=some o->o=ro\/∃j,o=bo j)(h1:ro≠Own.box/\ro≠Own.aux)(h2:∀j,bo j≠Own.box/\bo j≠Own.aux)(w:World):NoBA (N2 O OL w):=by
 intro g;unfold N2;split
 . exact h g
 .
  refine⟨fun e=>?_,fun e=>?_⟩
  . rcases hv g _ e with e1 | ⟨j,e1⟩
    . exact h1.1 e1.symm
    . exact (h2 j).1 e1.symm
  . rcases hv g _ e with e1 | ⟨j,e1⟩
    . exact h1.2 e1.symm
    . exact (h2 j).2 e1.symm
theorem ag4{p:Tmp}(h:fn.results=#[.cell p ty])(tmps:Array Value)(P:Program)(w:World):
 (results fn tmps).run P w=((asAddr (tmps.getD p undef)).run P w).andThen fun a w₁=>(loadVar ty a).run P w₁:=by simp only[results,h];simp[Sem.run_bind,Result.andThen]
def rowO(v:Value)(o:Own)(O:qW)(k:Nat):Option Own:=if some k=v.ownBlock then some o else O k
theorem aL6(v:Value)(o:Own)(O:qW):N8 (rowO v o O) v o:=fun g hg=>by unfold rowO;rw[qF hg.symm]
theorem bd6(h:OLo O D w)(hv:∀g,v.ownBlock=some g->D<=g/\g<w'.heap.size)(hs:w.heap.size<=w'.heap.size):OLo (rowO v o O) D w':=by
 intro g o' hg;unfold rowO at hg;split at hg
 . rename_i e;exact hv g e.symm
 . have:=h g o' hg;omega
theorem az2(h:NoBA O)(h1:o≠Own.box)(h2:o≠Own.aux):NoBA (rowO v o O):=by
 intro g;unfold rowO;split
 . exact⟨fun e=>h1 (by injection e),fun e=>h2 (by injection e)⟩
 . exact h g
theorem bU3(h:OLo O D w)(hv:∀g,v.ownBlock=some g->w.heap.size<=g):∀g o',O g=some o'->rowO v o O g=some o':=by
 intro g o' hg;unfold rowO;rw[qB]
 . exact hg
 . intro e;have:=hv g e.symm;have:=(h g o' hg).2;omega
def noO(k:Nat):Option Own:=none
theorem bd7(D:Nat)(w:World):OLo noO D w:=fun g o hg=>by cases hg
theorem bd8:NoBA noO:=fun g=>⟨fun e=>(by cases e),fun e=>(by cases e)⟩
structure SmallC (M:SMach):Prop where
 ns:M.ns.length<=100000
 fs:M.fs.length<=100000
 xs:M.pipes.length<=100000
 ps:M.ps.length<=100000
 sunk:M.sunk.length<=100000
 ins:∀n∈M.ns,n.ins.length<=100000
 fb:∀f∈M.fs,f.b.length<=100000
 xb:∀x∈M.pipes,x.b.length<=100000
 pl:∀p∈M.ps,p.got.length<=100000/\p.out.length<=100000/\(∀b∈p.got,b.length<=100000)/\∀b∈p.out,b.length<=100000
theorem ca9{rows:List NRow}{r:NRow}(h:rows[k]?=some r)(e:r'.1=r.1):(rows.set k r').map (·.1)=rows.map (·.1):=by rw[List.map_set,e];exact am8 (by rw[qa,h];rfl)
theorem ad3{size:Nat}{xs:List Value}(h:w.ownsRow B e size v n xs)(hB:B'<=B):w.ownsRow B' e size v n xs:=by
 refine⟨h.1,?_⟩;rcases h.2 with h0 | ⟨g,cap,cur,e1,hb,h1⟩
 . exact .inl h0
 . exact .inr ⟨g,cap,cur,e1,qO,h1⟩
theorem K6(hb:Bq w w')(hg:g<w.heap.size)(h:w.frozen? ⟨g,j,none⟩=false):w'.frozen? ⟨g,j,none⟩=false:=by have:=hb.block g hg;simp only[World.frozen?]at h ⊢;rw[this];exact h
theorem aW6{j2 off BL:Nat}(hBL:BL=b.length)(hrd:Reads wr (.slice fa b.length fc) b.length (b.map U))(hl:b.length<=100000)(x1:wr.cell? ⟨bm,j1,none⟩=some v1)(c1:wr.cell? ⟨g,off,none⟩=some v3)(f1:wr.frozen? ⟨g,off,none⟩=false):
 ∀W,Bq wr W->W.cell? ⟨wr.heap.size,j2,none⟩=some (.slice fa BL fc)->Calls prog 70 #[.slice fa BL fc] W fun e w'=>∃a2 c2,e=.returned (.slice a2 BL c2)/\w'.cell? ⟨bm,j1,none⟩=some v1/\w'.cell? ⟨wr.heap.size,j2,none⟩=some (.slice fa BL fc)/\w'.cell? ⟨g,off,none⟩=some v3/\w'.frozen? ⟨g,off,none⟩=false/\Hid (w'.ownsRow wr.heap.size 5 1 (.slice a2 BL c2) BL (b.map U)/\Bq wr w'):=by intro W hW h7;subst hBL;refine (bd2 fa fc b W (hrd.below hW) hl).mono ?_;rintro e w'⟨v',rfl,Ab,hb⟩;obtain⟨⟨a2,c2,hv,_,_⟩,_⟩:=g8 Ab;subst hv;have hB:=hW.trans (hb.mono hW.size);exact⟨a2,c2,rfl,qC hB x1,qC hb h7,qC hB c1,K6 hB (bLt wr _ c1) f1,⟨ad3 Ab hW.size,hB⟩⟩
theorem aW7{o1 o2:Nat}{v4:Value}(ro:Own)(bo:Nat->Own)(hne:∀j,bo j≠ro)(hGL:GL=l.length)(hrd:RList wr (.slice fa l.length fc) U l)(hn:l.length<=100000)(hl:∀b∈l,b.length<=100000)(x1:wr.cell? ⟨bm,j1,none⟩=some v1)(c1:wr.cell? ⟨g,o1,none⟩=some v3)(f1:wr.frozen? ⟨g,o1,none⟩=false)(c2:wr.cell? ⟨g,o2,none⟩=some v4)(f2:wr.frozen? ⟨g,o2,none⟩=false):
 ∀W,Bq wr W->W.cell? ⟨wr.heap.size,0,none⟩=some u1->W.cell? ⟨wr.heap.size,2,none⟩=some u2->Calls prog 73 #[.slice fa GL fc] W fun e w'=>∃a2 d2,e=.returned (.slice a2 GL d2)/\w'.cell? ⟨bm,j1,none⟩=some v1/\w'.cell? ⟨wr.heap.size,0,none⟩=some u1/\w'.cell? ⟨wr.heap.size,2,none⟩=some u2/\w'.cell? ⟨g,o1,none⟩=some v3/\w'.frozen? ⟨g,o1,none⟩=false/\w'.cell? ⟨g,o2,none⟩=some v4/\w'.frozen? ⟨g,o2,none⟩=false/\Hid (∃ss OL,CL w' wr.heap.size OL ro bo (.slice a2 GL d2) ss l/\OLo OL wr.heap.size w'/\OLo OL W.heap.size w'/\∀g o,OL g=some o->o=ro\/∃j,o=bo j)/\Hid (Bq W w')/\Hid (Bq wr w'):=by intro W hW h0 h2;subst hGL;refine (bw2 ro bo hne fa fc l W (hrd.below hW) hn hl).mono ?_;rintro e w'⟨v',ss,OL,rfl,hc,hlo,hb⟩;obtain⟨⟨a2,d2,hv,_,_⟩,_⟩:=g8 hc.own;subst hv;have hB:=hW.trans (hb.mono hW.size);exact⟨a2,d2,rfl,qC hB x1,qC hb h0,qC hb h2,qC hB c1,K6 hB (bLt wr _ c1) f1,qC hB c2,K6 hB (bLt wr _ c2) f2,(show ∃ss OL,_ from ⟨ss,OL,hc.lower hW.size,fun g o hg=>(by have:=hlo.1 g o hg;have:=hW.size;omega),hlo.1,hlo.2⟩),hb,hB⟩
theorem bd9{xs:List Value}(hlo:OLo O1 D w1)(hv:N8 O1 v ro)(hg:w1.grownBy w2 v.ownBlock)(hat:v'.ownBlock=v.ownBlock\/v'.ownBlock=some w1.heap.size)(Ab:w2.ownsRow D e k v' n xs):
 OLo (rowO v' ro O1) D w2/\N8 (rowO v' ro O1) v' ro/\(∀g o,O1 g=some o->rowO v' ro O1 g=some o)/\(∀g o,O1 g=some o->o≠ro->w2.heap[g]?=w1.heap[g]?):=by
 refine⟨bd6 hlo (fun g hg'=>Ab.lt g hg') hg.size,aL6 _ _ _,fun g o ho=>?_,fun g o ho hn=>hg.block g (hlo g o ho).2 (fun e=>hn ?_)⟩
 .
  unfold rowO;by_cases e:some g=v'.ownBlock
  . rw[qF e];rcases hat with h | h
    . rw[<- ho,hv g (by rw[<- h];exact e.symm)]
    . rw[h]at e;injection e with e;have:=(hlo g o ho).2;omega
  . rw[qB e];exact ho
 . have:=hv g e.symm;rw[ho]at this;injection this
theorem CL.app(h:CL wr B O ro bo v ss l)(hne:∀j,bo j≠ro)(hlo:OLo O B wr)(hB:B<=wr.heap.size)(hb:Bq wr w1)
 (ho:w1.ownsRow wr.heap.size 5 1 v2 b.length (b.map U)) (hg:w1.grownBy w2 v.ownBlock) (hat:v'.ownBlock=v.ownBlock\/v'.ownBlock=some w1.heap.size) (Ab:w2.ownsRow B 28 1 v' (l.length+1) (L6 l ss++[v2])):
 ∃s2,v2=sl b s2/\CL w2 B (rowO v' ro (addO O wr w1 (bo l.length))) ro bo v' (ss++[s2]) (l++[b])/\OLo (rowO v' ro (addO O wr w1 (bo l.length))) B w2:=by
 have hO1:∀g o,O g=some o->addO O wr w1 (bo l.length) g=some o:=fun g o hg'=>(J0 (hlo g o hg').2).trans hg';obtain⟨k1,k2,k3,k4⟩:=bd9 (hlo.add hb hB (bo l.length)) (fun g hg'=>hO1 g _ (h.ob g hg')) hg hat Ab
 obtain⟨s2,e2,hso,_⟩:=SOf.of_owns (O:=addO O wr w1 (bo l.length)) (o:=bo l.length) ho (fun g' hg'=>by
  have:=ho.lt g' hg'
  unfold addO
  rw[qF ⟨this.1,this.2⟩])
 subst e2;have hkp:∀(j:Nat)(b':qU)(s:Sl),SOf w1 (addO O wr w1 (bo l.length)) (bo j) s b'->SOf w2 (rowO v' ro (addO O wr w1 (bo l.length))) (bo j) s b':=fun j b' s hs=>(hs.move (fun g hg'=>k4 g _ hg' (hne j))).lift k3;refine⟨s2,rfl,⟨?_,k2,by simp[h.len],fun j b' s hb' hs'=>?_⟩,k1⟩
 . have e:L6 (l++[b]) (ss++[s2])=L6 l ss++[sl b s2]:=by unfold L6;rw[List.zipWith_append (by rw[h.len])];rfl
   rw[e,qI];exact Ab
 .
  have hjl:=(gSm hb').1;rw[qI,List.length_singleton]at hjl;by_cases hj:j<l.length
  . rw[xJ hj]at hb';rw[xJ (by rw[h.len];exact hj)]at hs';exact hkp j b' s (((h.bys j b' s hb' hs').move (fun g hg'=>hb.block g (hlo g _ hg').2)).lift hO1)
  . obtain rfl:j=l.length:=qO;rw[qu (qA _)]at hb';rw[qu (by rw[h.len];exact qA _),h.len]at hs';simp at hb' hs';subst hb' hs';exact hkp _ b s2 hso
theorem bI9{P:Own->Prop}(h:∀g o,O g=some o->P o)(ho:P o):∀g o',rowO v o O g=some o'->P o':=fun g o' hg=>by
 unfold rowO at hg
 split at hg
 . injection hg with hg;subst hg;exact ho
 . exact h g o' hg
theorem bJ0{P:Own->Prop}(h:∀g o,O g=some o->P o)(ho:P o):∀g o',addO O w w' o g=some o'->P o':=fun g o' hg=>by
 unfold addO at hg
 split at hg
 . injection hg with hg;subst hg;exact ho
 . exact h g o' hg
def OwnAt(w wr:World)(ro:Own)(bo:Nat->Own)(v:Value)(l:qL):Prop:=
 ∃ss O,CL wr w.heap.size O ro bo v ss l/\OLo O w.heap.size wr/\(∀g o,O g=some o->o=ro\/∃j,o=bo j)/\Bq w wr
theorem cb0(ro:Own)(bo:Nat->Own)(hne:∀j,bo j≠ro)(ao:Option Addr)(c:Nat)(l:qL)(w:World)(h:RList w (.slice ao l.length c) U l)(hn:l.length*24<=140737488355328)(hb:∀b∈l,b.length<=140737488355328):
 Calls prog 20 #[.slice ao l.length c] w fun e w'=>∃v',e=.returned v'/\OwnAt w w' ro bo v' l:=by
 obtain⟨i0,hi,hi0,hi1,hi2⟩:=info_parts ah6;obtain⟨ss0,hl0,hr0,hb0⟩:=bl6 h;have hle:=V8 h
 have HB0:Hid (∀(j:Nat)(b:qU),l[j]?=some b->∃s:Sl,(∀a,ao=some a->w.cell? (a.add j)=some (sl b s))/\Reads w (sl b s) b.length (b.map U)):=(show ∀(j:Nat)(b:qU),_ from fun j b hb=>by
  obtain⟨s,hs⟩:∃s,ss0[j]?=some s:=⟨_,gEl (by rw[hl0];exact (gSm hb).1)⟩
  exact⟨s,fun a ha=>(U9 hr0).2 a ha j _ (am0 hb hs),hb0 j b s hb hs⟩)
 have HA:Hid (ao=none->l.length=0):=(U9 hr0).1;have HB:=qH hb;obtain⟨N,hN⟩:=qE l.length;have HN:=qH hN;rw[<- hN]at hn hle HA ⊢;have HST:=qH (show OwnAt w w ro bo (.slice none 0 0) (l.take 0) from ⟨[],noO,⟨World.ownsRow_nil _ _ _ _,fun g hg=>(by simp[Value.ownBlock]at hg),rfl,fun j b s hb=>(by simp at hb)⟩,bd7 _ _,fun g o hg=>(by cases hg),Below.refl _ _⟩);clear h hb hl0 hr0 hb0 hN;go_enter func20,ntmps20;go_wp2_with fail;go_loopw [3,8] (fun v i wr=>∃k:Nat,k<=N/\i=.int .i64 k/\Hid (OwnAt w wr ro bo v (l.take k))) (fun _ i _=>N-(intOf i).toNat)
 case atStart=>exact⟨0,qM _,rfl,HST⟩
 case round=>
  obtain⟨k,hk,rfl,hat⟩:=hrel;clear HST;by_cases hlt:k<N
  .
   obtain⟨b,hb⟩:∃b,l[k]?=some b:=⟨_,gEl (by have:=HN.o;omega)⟩;obtain⟨s,hc,hrd⟩:=HB0.o k b hb;obtain⟨sa,sc⟩:=s
   cases ao with
   | none=>exact absurd (HA.o rfl) qO
   | some a=>
    have hc':=hc a rfl;obtain⟨ss,O,hCL,hOL,To,Aa⟩:=hat.out;have hlk:(l.take k).length=k:=by rw[qX,<- HN.o];omega
    have Ab:=hCL.own;rw[hlk]at Ab;obtain⟨av,cv,rfl,hv1,hv2⟩:=I0 Ab;unfold sl at hc' hrd;have Ac:wr.cell? (a.add k)=some (.slice sa b.length sc):=qC Aa hc';obtain⟨v2,w1,Ae,ho2,hb1⟩:=Y8 (hrd.below Aa) (HB.o b (mGt hb)) 28;obtain⟨a2,c2,rfl,_,_⟩:=I0 ho2;have hbA:Bq wr (w1.alloc (.cells #[.slice a2 b.length c2] 28)):=hb1.alloc hb1.size _;have Iy:(w1.alloc (.cells #[.slice a2 b.length c2] 28)).ownsRow w.heap.size 28 1 (.slice av k cv) k (L6 (l.take k) ss):=j5 Ab (fun g hg=>hbA.block g (Ab.lt g hg).2);obtain⟨v3,w3,Yi,Gf,hg3,Qy⟩:=Y7 (c:=1) underlying62 hi hi0 hi1 hi2 rfl (by decide) (by decide) Iy (m:=1) (ao:=some ⟨w1.heap.size,0,none⟩) (ys:=[.slice a2 b.length c2]) rfl ⟨fun e=>(by cases e),fun a ha j u hu=>by injection ha with ha;subst ha;exact cell_one_new _ _ _ j u hu⟩ (fun u hu=>by simp at hu;subst hu;rfl) qO (by have:=Aa.size;have:=hbA.size;omega) 62
    have Hm:=qH (show OwnAt w w3 ro bo v3 (l.take (k+1)) from by
     rw[qZ,hb]
     obtain⟨s2,_,q1,q2⟩:=hCL.app hne hOL Aa.size hbA (ho2.alloc _) hg3 Qy (by rw[hlk];exact Gf)
     have h5:Bq w (w1.alloc (.cells #[.slice a2 b.length c2] 28)):=Aa.trans (hbA.mono Aa.size)
     exact⟨_,_,q1,q2,bI9 (bJ0 To (.inr ⟨_,rfl⟩)) (.inl rfl),h5.grown hg3 h5.size (fun g hg'=>(Ab.lt g hg').1)⟩)
    clear hc hc' hrd hat hb hCL hOL To Aa Ab ho2 hb1 hbA Iy Gf hg3 Qy;go_wp2_with (at_builtin;first|refine j4 _ rfl (.tmp 13) (.tmp 14) 28 rfl _ _ rfl rfl Ae ?_ | refine j4 _ rfl (.tmp 12) (.tmp 16) 62 rfl _ _ rfl rfl Yi ?_)
    go_roundw
    case rel=>exact⟨k+1,qO,by go_num,Hm⟩
    case measure=>simp[intOf];omega
  . have HE:=qH (show l.take k=l from qP (by have:=HN.o;omega));rw[HE.o]at hat;go_wp2_with fail;go_ret;exact⟨_,rfl,hat.out⟩
structure ElemStep (wr w2 w3:World) (B:Nat) (e el:TypeId) (K Kl n m j:Nat) (v v2 v3:Value) (xs ys:List Value) (arr:Array Value) (te:TypeId) (f:Value->Array Value):Prop where
 box:w2.heap[wr.heap.size]?=some (.cells arr te (0,0))
 bel2:Below wr.heap.size wr w2
 bel:Below wr.heap.size wr ((w2.setCell ⟨wr.heap.size,j,none⟩ v2).alloc (.cells (f v2) te))
 leaf:((w2.setCell ⟨wr.heap.size,j,none⟩ v2).alloc (.cells (f v2) te)).ownsRow (wr.heap.size+1) el Kl v2 m ys
 grown:((w2.setCell ⟨wr.heap.size,j,none⟩ v2).alloc (.cells (f v2) te)).grownBy w3 v.ownBlock
 own:w3.ownsRow B e K v3 (n+1) (xs++(f v2).toList)
 nxt:v3.ownBlock=v.ownBlock\/v3.ownBlock=some ((w2.setCell ⟨wr.heap.size,j,none⟩ v2).alloc (.cells (f v2) te)).heap.size
theorem aC9{tl el:TypeId}{z zl:Value}{K bytes Kl bl:Nat}(j:Nat)(arr:Array Value)(f:Value->Array Value)
 (ht:prog.underlying t=some (.slice e)) (hi:prog.info? e=some i) (hz:i.zero=some z) (hsi:i.size=K) (hby:i.bytes=bytes) (hzs:z.cells.size=K) (hK0:0<K) (hb0:0<bytes)
 (htl:prog.underlying tl=some (.slice el)) (hil:prog.info? el=some il) (hzl:il.zero=some zl) (hsil:il.size=Kl) (hbyl:il.bytes=bl) (hzsl:zl.cells.size=Kl) (hKl0:0<Kl) (hbl0:0<bl)
 {v:Value} {n:Nat} {xs:List Value} (Ab:wr.ownsRow B e K v n xs) (hB:B<=wr.heap.size+1) (hn:(n+1)*bytes<=140737488355328)
 {ao:Option Addr} {m c:Nat} {ys:List Value} (hl:ys.length=m*Kl) (Jm:SrcC wr ao m ys) (h1:∀u∈ys,u.oneCell'=true) (hm:m*bl<=140737488355328)
 (hf:∀u,(f u).size=K) (hf1:∀u,u.oneCell'=true->∀x∈(f u).toList,x.oneCell'=true) (ty tyl:TypeId):
 ∃a2 c2 w2 a3 c3 w3,(Builtin.append_ #[tl,tl] tyl #[.slice (some ⟨wr.heap.size+1,0,none⟩) 0 0,.slice ao m c]).run prog ((wr.alloc (.cells arr te)).alloc (.cells #[] el))=.ok (.slice a2 m c2) w2 /\
  (Builtin.append_ #[t,t] ty #[v,.slice (some ⟨w2.heap.size,0,none⟩) 1 1]).run prog ((w2.setCell ⟨wr.heap.size,j,none⟩ (.slice a2 m c2)).alloc (.cells (f (.slice a2 m c2)) te))=.ok (.slice a3 (n+1) c3) w3/\n+1<=c3/\c3<=9223372036854775807 /\
  ElemStep wr w2 w3 B e el K Kl n m j v (.slice a2 m c2) (.slice a3 (n+1) c3) xs ys arr te f:=by
 have hbx:Bq wr (wr.alloc (.cells arr te)):=(Below.refl _ wr).alloc (qA _) _;have hs1:(wr.alloc (.cells arr te)).heap.size=wr.heap.size+1:=by simp
 obtain⟨v2,w2,hr2,ho2,hb2⟩:=bi7 (w:=wr.alloc (.cells arr te)) (c:=c) htl hil hzl hsil hbyl hzsl hKl0 hbl0 hl ⟨Jm.1,fun a ha j u hu=>(hbx.cell (bLt wr _ (Jm.2 a ha j u hu))).trans (Jm.2 a ha j u hu)⟩ h1 hm tyl;rw[hs1]at hr2 ho2;obtain⟨a2,c2,rfl,_,_⟩:=I0 ho2;have Ux:=hb2.size;have hw2:Bq wr w2:=hbx.trans (hb2.mono hbx.size);have hw3:Bq wr (w2.setCell ⟨wr.heap.size,j,none⟩ (.slice a2 m c2)):=hw2.setCell (qA _) _;have hw4:Bq wr ((w2.setCell ⟨wr.heap.size,j,none⟩ (.slice a2 m c2)).alloc (.cells (f (.slice a2 m c2)) te)):=hw3.alloc hw3.size _;have Ld:=j5 Ab (fun g hg=>hw4.block g (Ab.lt g hg).2);have hs3:(w2.setCell ⟨wr.heap.size,j,none⟩ (.slice a2 m c2)).heap.size=w2.heap.size:=by simp
 have Ap:((w2.setCell ⟨wr.heap.size,j,none⟩ (.slice a2 m c2)).alloc (.cells (f (.slice a2 m c2)) te)).heap[w2.heap.size]?=some (.cells (f (.slice a2 m c2)) te (0,0)):=by have h:=qJ (w2.setCell ⟨wr.heap.size,j,none⟩ (.slice a2 m c2)) (.cells (f (.slice a2 m c2)) te);rw[hs3]at h;exact h
 have Yj:SrcC ((w2.setCell ⟨wr.heap.size,j,none⟩ (.slice a2 m c2)).alloc (.cells (f (.slice a2 m c2)) te)) (some ⟨w2.heap.size,0,none⟩) 1 (f (.slice a2 m c2)).toList:=by refine⟨fun e=>(by cases e),fun a ha q u hu=>?_⟩;have ha':=qd ha;rw[<- ha'];rw[addP,qY _ _ _ _ _ _ Ap,qk,<- xH];exact hu
 obtain⟨v3,w3,hr3,ho3,hg3,Qy⟩:=Y7 (w:=(w2.setCell ⟨wr.heap.size,j,none⟩ (.slice a2 m c2)).alloc (.cells (f (.slice a2 m c2)) te)) (c:=1) ht hi hz hsi hby hzs hK0 hb0 Ld (m:=1) (ao:=some ⟨w2.heap.size,0,none⟩) (ys:=(f (.slice a2 m c2)).toList) (by rw[zF,hf];omega) Yj (hf1 _ rfl) hn (by simp;omega) ty;obtain⟨a3,c3,rfl,q1,q2⟩:=I0 ho3;refine⟨a2,c2,w2,a3,c3,w3,hr2,hr3,q1,by unfold maxLen at q2;exact q2,?_,hw2,hw4,?_,hg3,ho3,Qy⟩
 . rw[hb2.block _ (by rw[hs1];omega)];exact qJ _ _
 . refine j5 ho2 (fun g hg=>?_);have:=ho2.lt g hg;rw[Below.heap_alloc _ _ _ (by rw[hs3];omega),Below.heap_setCell _ _ _ _ (by show g≠wr.heap.size;omega)]
theorem PT.app(h:PT w wr D v xs xs.length X O)(hlo:OLo O D wr)(hD:D<=wr.heap.size)(hb:Bq wr w1)
 (ho:w1.ownsRow wr.heap.size 5 1 v2 x.b.length (x.b.map U)) (hg:w1.grownBy w2 v.ownBlock) (hat:v'.ownBlock=v.ownBlock\/v'.ownBlock=some w1.heap.size) (Ab:w2.ownsRow D 61 4 v' (xs.length+1) ((A9 xs X).flatten++[v2,.int .i64 x.room,.bool x.closed,.bool x.shut])):
 ∃X',PT w w2 D v' (xs++[x]) (xs++[x]).length X' (rowO v' .pipes (addO O wr w1 (.pipe xs.length)))/\OLo (rowO v' .pipes (addO O wr w1 (.pipe xs.length))) D w2:=by
 have hO1:∀g o,O g=some o->addO O wr w1 (.pipe xs.length) g=some o:=fun g o hg'=>(J0 (hlo g o hg').2).trans hg';obtain⟨k1,k2,k3,k4⟩:=bd9 (hlo.add hb hD (.pipe xs.length)) (fun g hg'=>hO1 g _ (h.ob g hg')) hg hat Ab
 obtain⟨s2,e2,hso,_⟩:=SOf.of_owns (O:=addO O wr w1 (.pipe xs.length)) (o:=.pipe xs.length) ho (fun g' hg'=>by
  have:=ho.lt g' hg'
  unfold addO
  rw[qF ⟨this.1,this.2⟩])
 subst e2;have hkp:∀(q:Nat)(b':qU)(s:Sl),ROf w1 (addO O wr w1 (.pipe xs.length)) (.pipe q) s b'->ROf w2 (rowO v' .pipes (addO O wr w1 (.pipe xs.length))) (.pipe q) s b':=fun q b' s hs=>hs.keep (fun g hg'=>k4 g _ hg' (by simp)) (fun g o hg'=>(k3 g o hg').trans hg'.symm);refine⟨X++[s2],⟨?_,k2,by simp[h.len],fun q y s hq hy hs=>?_,fun q y s hq hy _=>absurd (gSm hy).1 qO⟩,k1⟩
 . have e:(A9 (xs++[x]) (X++[s2])).flatten=(A9 xs X).flatten++[sl x.b s2,.int .i64 x.room,.bool x.closed,.bool x.shut]:=by unfold A9;rw[List.zipWith_append (by rw[h.len]),zt];rfl
   rw[e,qI];exact Ab
 .
  rw[qI,List.length_singleton]at hq;by_cases hj:q<xs.length
  . rw[xJ hj]at hy;rw[xJ (by rw[h.len];exact hj)]at hs;exact hkp q y.b s ((h.bys q y s hj hy hs).keep (fun g hg'=>hb.block g (hlo g _ hg').2) (fun g o hg'=>(hO1 g o hg').trans hg'.symm))
  . obtain rfl:q=xs.length:=qO;rw[qu (qA _)]at hy;rw[qu (by rw[h.len];exact qA _),h.len]at hs;simp at hy hs;subst hy hs;exact hkp _ _ _ (ROf.of_sof hso)
theorem QT.app(h:QT w wr D v ps ps.length P O)(hk1:∀g o,O g=some o->w1.heap[g]?=wr.heap[g]?)(hO1:∀g o,O g=some o->O1 g=some o)(hlo:OLo O1 D w1)
 (h1:CL w1 D O1 (.gots ps.length) (Own.got ps.length) gv gs p.got) (h2:CL w1 D O1 (.outs ps.length) (Own.out ps.length) ov os p.out) (hg:w1.grownBy w2 v.ownBlock) (hat:v'.ownBlock=v.ownBlock\/v'.ownBlock=some w1.heap.size)
 (Ab:w2.ownsRow D 64 5 v' (ps.length+1) ((l9 ps P).flatten++[gv,.int .i64 p.pos,ov,.bool p.rd,.bool p.ov])):
 QT w w2 D v' (ps++[p]) (ps++[p]).length (P++[⟨gv,ov,gs,os⟩]) (rowO v' .procs O1)/\OLo (rowO v' .procs O1) D w2:=by
 obtain⟨k1,k2,k3,k4⟩:=bd9 hlo (fun g hg'=>hO1 g _ (h.ob g hg')) hg hat Ab;have kc:∀{ro:Own}{bo:Nat->Own}{u:Value}{ss:List Sl}{l:qL},ro≠Own.procs->(∀j,bo j≠Own.procs)->CL w1 D O1 ro bo u ss l->CL w2 D (rowO v' .procs O1) ro bo u ss l:=fun hr hb hc=>hc.keep (fun g' o hg' hx=>k4 g' o hg' (by rcases hx with rfl | ⟨j,rfl⟩;exact hr;exact hb j)) k3;refine⟨⟨?_,k2,by simp[h.len],fun i q s hi hq hs=>?_,fun i q s hi hq _=>absurd (gSm hq).1 qO⟩,k1⟩
 . have e:(l9 (ps++[p]) (P++[⟨gv,ov,gs,os⟩])).flatten=(l9 ps P).flatten++[gv,.int .i64 p.pos,ov,.bool p.rd,.bool p.ov]:=by unfold l9;rw[List.zipWith_append (by rw[h.len]),zt];rfl
   rw[e,qI];exact Ab
 .
  rw[qI,List.length_singleton]at hi;by_cases hj:i<ps.length
  . rw[xJ hj]at hq;rw[xJ (by rw[h.len];exact hj)]at hs;obtain⟨q1,q2⟩:=h.bys i q s hj hq hs;exact⟨kc (by simp) (by simp) (q1.keep (fun g o hg' _=>hk1 g o hg') hO1),kc (by simp) (by simp) (q2.keep (fun g o hg' _=>hk1 g o hg') hO1)⟩
  . obtain rfl:i=ps.length:=qO;rw[qu (qA _)]at hq;rw[qu (by rw[h.len];exact qA _),h.len]at hs;simp at hq hs;subst hq hs;exact⟨kc (by simp) (by simp) h1,kc (by simp) (by simp) h2⟩
structure FOL (w:World) (B L:Nat) (v:Value) (rows:List FRow):Prop where
 fo:FO w B 59 v rows
 lo:L<=B
 good:∀r∈rows,r.1.b.length≠0->∀a,r.2.1=some a->L<=a.block
theorem FOL.keep(h:FOL w B L v rows)(hk:∀k,L<=k->k<w.heap.size->w'.heap[k]?=w.heap[k]?):FOL w' B L v rows:=by
 refine⟨⟨j5 h.fo.own (fun g hg=>by have h1:=h.fo.own.lt g hg;have:=h.lo;exact hk g qO h1.2),fun r hr=>?_⟩,h.lo,h.good⟩;obtain⟨g1,g2,g3⟩:=h.fo.good r hr;refine⟨g1,?_,g3⟩;by_cases h0:r.1.b.length=0
 . obtain⟨h1,ao,cap,e,h2,h3,h4⟩:=g2;exact⟨h1,ao,cap,e,h2,h3,fun hn=>absurd h0 hn⟩
 . refine Q4 g2 (fun a ha=>hk _ (h.good r hr h0 a ha) ?_);rw[ha]at g2;exact ai1 g2 h0
theorem FOL.app(h:FOL w B L v rows)(hr:ax7 w v.ownBlock r)(hr2:r.1.b.length≠0->∀a,r.2.1=some a->L<=a.block)
 (Ab:w'.ownsRow B 59 2 v' (rows.length+1) (E5 rows++encF r)) (hg:w.grownBy w' v.ownBlock) (hl:v'.ownBlock=v.ownBlock\/v'.ownBlock=some w.heap.size):FOL w' B L v' (rows++[r]):=by
 have kp:∀x:FRow,ax7 w v.ownBlock x->ax7 w' v'.ownBlock x:=fun x hx=>by
  obtain⟨q1,q2,q3⟩:=hx.keep (w':=w') (fun k hk hn=>hg.block k hk (fun e=>hn e.symm));refine⟨q1,q2,fun h0 a ha=>?_⟩;rcases hl with e | e
  . rw[e];exact q3 h0 a ha
  . rw[e];intro e2;injection e2 with e2;have h2:=hx.2.1;rw[ha]at h2;have:=ai1 h2 h0;omega
 refine⟨⟨by rw[ba6,qI];exact Ab,fun x hx=>?_⟩,h.lo,fun x hx=>?_⟩
 . rcases xY.1 hx with hx | hx
   . exact kp x (h.fo.good x hx)
   . rw[zC.1 hx];exact kp r hr
 . rcases xY.1 hx with hx | hx
   . exact h.good x hx
   . rw[zC.1 hx];exact hr2
theorem bU4(ro:Own)(bo:Nat->Own)(hne:∀j,bo j≠ro)(hGL:GL=l.length)(hrd:RList wr (.slice fa l.length fc) U l)(hn:l.length*24<=140737488355328)(hl:∀b∈l,b.length<=140737488355328):
 ∀W,Bq wr W->W.cell? ⟨wr.heap.size,0,none⟩=some u1->W.cell? ⟨wr.heap.size,2,none⟩=some u2->W.heap[wr.heap.size]?=some (.cells arr te (0,0))->Calls prog 20 #[.slice fa GL fc] W fun e w'=>∃a2 d2,e=.returned (.slice a2 GL d2)/\w'.cell? ⟨wr.heap.size,0,none⟩=some u1/\w'.cell? ⟨wr.heap.size,2,none⟩=some u2/\w'.frozen? ⟨wr.heap.size,0,none⟩=false/\w'.frozen? ⟨wr.heap.size,2,none⟩=false/\Hid (w'.heap[wr.heap.size]?=some (.cells arr te (0,0)))/\Hid (∃ss OL,CL w' wr.heap.size OL ro bo (.slice a2 GL d2) ss l/\OLo OL (wr.heap.size+1) w'/\OLo OL W.heap.size w'/\∀g o,OL g=some o->o=ro\/∃j,o=bo j)/\Hid (Bq W w')/\Hid (Bq wr w'):=by intro W hW h0 h2 hbx;subst hGL;refine (cb0 ro bo hne fa fc l W (hrd.below hW) hn hl).mono ?_;rintro e w'⟨v',rfl,ss,OL,hc,hlo,hva,hb⟩;obtain⟨a2,d2,rfl,_,_⟩:=I0 hc.own;have Uy:=(hb.block _ (bLt W _ h0)).trans hbx;exact⟨a2,d2,rfl,qC hb h0,qC hb h2,xW _ _ _ _ _ Uy,xW _ _ _ _ _ Uy,Uy,(show ∃ss OL,_ from ⟨ss,OL,hc.lower hW.size,fun g o hg=>(by have:=hlo g o hg;have:wr.heap.size<W.heap.size:=bLt W _ h0;omega),hlo,hva⟩),hb,hW.trans (hb.mono hW.size)⟩
theorem bx3(k:Int)(w:World):
 Calls prog 203 #[.int .i64 k] w fun e w'=>e=.returned (.bool (decide (uses k=1)))/\w'=w:=by
 by_cases h1:k=1
 . subst h1;go_enter func203,ntmps203;go_wp2;go_ret;exact⟨rfl,rfl⟩
 .
  by_cases h2:k=2
  . subst h2;go_enter func203,ntmps203;go_wp2;go_ret;exact⟨rfl,rfl⟩
  .
   by_cases h3:k=3
   . subst h3;go_enter func203,ntmps203;go_wp2;go_ret;exact⟨rfl,rfl⟩
   .
    have hu:decide (uses k=1)=false:=by
     apply qG;unfold uses;split
     . omega
     . split
       . decide
       . split <;> decide
    rw[hu];go_enter func203,ntmps203;go_wp2;go_ret;exact⟨by simp[h1,h2,h3],rfl⟩
theorem be0(k:Int)(w:World):
 Calls prog 204 #[.int .i64 k] w fun e w'=>e=.returned (.bool (decide (uses k=2)))/\w'=w:=by
 by_cases h1:k=4
 . subst h1;go_enter func204,ntmps204;go_wp2;go_ret;exact⟨rfl,rfl⟩
 .
  by_cases h2:k=9
  . subst h2;go_enter func204,ntmps204;go_wp2;go_ret;exact⟨rfl,rfl⟩
  .
   by_cases h3:k=10
   . subst h3;go_enter func204,ntmps204;go_wp2;go_ret;exact⟨rfl,rfl⟩
   .
    have hu:decide (uses k=2)=false:=by
     apply qG;unfold uses;split
     . decide
     . split
       . omega
       . split <;> decide
    rw[hu];go_enter func204,ntmps204;go_wp2;go_ret;exact⟨by simp[h1,h2,h3],rfl⟩
theorem g9{o:Obj}:Bq w (w.alloc o):=(Below.refl _ w).alloc (qA _) o
theorem bJ1{l:qU}{c:UInt8}(hl:l[k]?=some c)(h:∀x∈l.take k,I3 x=true)(hc:I3 c=true):∀x∈l.take (k+1),I3 x=true:=by
 intro x hx;rw[qZ,hl]at hx;simp only[zO,xY,zC]at hx;rcases hx with hx | rfl
 . exact h x hx
 . exact hc
theorem no_word{l:qU}{c:UInt8}(hl:l[k]?=some c)(hc:I3 c=false):l.all I3=false:=by rw[List.all_eq_false];exact⟨c,mGt hl,by simp[hc]⟩
theorem bJ2(l : qU)(w : World)(h0 : 0 < l.length)(h1 : l.length ≤ 12):
    Calls prog 101 #[.string ⟨l.toArray⟩] w fun e w' => e = .returned (.bool (l.all I3)) ∧ w' = w := by
 have hsz : (⟨l.toArray⟩ : ByteArray).size = l.length := by simp [ByteArray.size]
 have Em : Hid (∀ k (h : k < l.length) (h' : k < (⟨l.toArray⟩ : ByteArray).size), l[k]?=some ((⟨l.toArray⟩ : ByteArray)[k]'h')) := by intro k h h';rw [List.getElem?_eq_getElem h];rfl
 generalize hsx : (⟨l.toArray⟩ : ByteArray) = sx at *;have hem : sx.toList.isEmpty = false := by
  subst hsx
  cases l with
  | nil => simp at h0
  | cons c l => simp
 clear hsx;go_enter func101, ntmps101;go_wp2_with fail;go_loopw [14] (fun i wr => ∃ k : Nat, k ≤ l.length ∧ i = .int .i64 k ∧ wr = w ∧ Hid (∀ x ∈ l.take k, I3 x = true)) (fun i _ => l.length - (intOf i).toNat)
 case atStart => exact ⟨0, qM _, rfl, rfl, by intro x hx; simp at hx⟩
 case round =>
  obtain ⟨k, hk, rfl, rfl, An⟩ := hrel;by_cases hlt : k < l.length
  . have hg : Hid _ := Em.o k hlt qO;go_wp2_with fail
    all_goals first
      | (go_ret; refine ⟨?_, rfl⟩; show Ending.returned (.bool false) = _; rw [no_word hg.out (by simp [I3]; omega)])
      | (go_roundw
         case rel => exact ⟨k + 1, by omega, by go_num, by simp, bJ1 hg.out An.o (by simp [I3]; omega)⟩
         case measure => simp [intOf]; omega)
  . go_wp2_with fail;go_ret;refine ⟨?_, rfl⟩;have hkl : k = l.length := by omega
    have h := An.o;rw [hkl, qj]at h;show Ending.returned (.bool true) = _;rw [zw.2 h]
theorem be1(l:qU)(w:World)(hm:l.length<=9223372036854775807):
 Calls prog 101 #[.string ⟨l.toArray⟩] w fun e w'=>e=.returned (.bool (isWord l))/\w'=w:=by
 by_cases h0:l=[]
 . subst h0;go_enter func101,ntmps101;go_wp2;go_ret;exact⟨rfl,rfl⟩
 .
  have hl0:0<l.length:=xj.2 h0;by_cases h1:l.length<=12
  . have:isWord l=l.all I3:=by simp[isWord,hl0,h1]
    rw[this];exact bJ2 l w hl0 h1
  .
   have hw:isWord l=false:=by simp[isWord,h1]
   rw[hw];have hsz:(⟨l.toArray⟩:ByteArray).size=l.length:=by simp[ByteArray.size]
   generalize hsx:(⟨l.toArray⟩:ByteArray)=sx at *;have hem:sx.toList.isEmpty=false:=by
    subst hsx
    cases l with
    | nil=>simp at h0
    | cons c l=>simp
   clear hsx;go_enter func101,ntmps101;go_wp2;go_ret;exact⟨rfl,rfl⟩
theorem cb2(c:Cmd)(w:World):
 Calls prog 153 #[c.v] w fun e w'=>e=.returned (.bool (Q3 c.kind))/\Bq w w':=by
 obtain⟨k,word,n⟩:=c;unfold Cmd.v Q3;simp only;by_cases h1:1<=k
 .
  by_cases h2:k<=5
  . rw[qV (show 1<=k/\k<=5 from ⟨h1,h2⟩)];go_enter func153,ntmps153;go_wp2;go_ret;exact⟨by first|rfl | simp | (simp;omega),g9⟩
  . rw[qG (show ¬(1<=k/\k<=5) from fun h=>h2 h.2)];go_enter func153,ntmps153;go_wp2;go_ret;exact⟨by first|rfl | simp | (simp;omega),g9⟩
 . rw[qG (show ¬(1<=k/\k<=5) from fun h=>h1 h.1)];go_enter func153,ntmps153;go_wp2;go_ret;exact⟨by first|rfl | simp | (simp;omega),g9⟩
end Go.Proofs.YtmejdflmcikkdaaGreatDoor
