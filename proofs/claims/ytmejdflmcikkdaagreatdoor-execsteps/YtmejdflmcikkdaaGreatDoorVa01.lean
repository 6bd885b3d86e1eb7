/- A machine in memory of its own, each block with its owner, and more. -/
import Derived.Test.YtmejdflmcikkdaaGreatDoorVAb
import Derived.Deep.AppendSrc
import Derived.Deep.Upon
import Derived.Maps.OwnSet
import Derived.DeepKeys4
import Derived.MapViews
import Derived.Test.YtmejdflmcikkdaaGreatDoorVa00
set_option linter.all false
set_option maxRecDepth 100000
set_option maxHeartbeats 64000000
namespace Go.Proofs.YtmejdflmcikkdaaGreatDoor
open Go.RowKit Go.Gs Tryz
abbrev Own:=Unit ⊕ Unit ⊕ Unit ⊕ Nat ⊕ Nat ⊕ Nat ⊕ (Nat × Nat) ⊕ (Nat × Nat) ⊕ Unit ⊕ Unit
abbrev qW:=Nat->Option Own
abbrev Own.box:Own:=.inl ()
abbrev Own.pipes:Own:=.inr (.inl ())
abbrev Own.procs:Own:=.inr (.inr (.inl ()))
abbrev Own.gots(i:Nat):Own:=.inr (.inr (.inr (.inl i)))
abbrev Own.outs(i:Nat):Own:=.inr (.inr (.inr (.inr (.inl i))))
abbrev Own.pipe(q:Nat):Own:=.inr (.inr (.inr (.inr (.inr (.inl q)))))
abbrev Own.got(i j:Nat):Own:=.inr (.inr (.inr (.inr (.inr (.inr (.inl (i,j)))))))
abbrev Own.out(i k:Nat):Own:=.inr (.inr (.inr (.inr (.inr (.inr (.inr (.inl (i,k))))))))
abbrev Own.sunk:Own:=.inr (.inr (.inr (.inr (.inr (.inr (.inr (.inr (.inl ()))))))))
abbrev Own.aux:Own:=.inr (.inr (.inr (.inr (.inr (.inr (.inr (.inr (.inr ()))))))))
theorem Own.elimE{motive:Own->Prop}(box:motive Own.box)(pipes:motive Own.pipes)(procs:motive Own.procs)(gots:∀i,motive (Own.gots i))(outs:∀i,motive (Own.outs i))(pipe:∀q,motive (Own.pipe q))(got:∀i j,motive (Own.got i j))(out:∀i k,motive (Own.out i k))(sunk:motive Own.sunk)(aux:motive Own.aux):∀o,motive o
 | .inl ()=>box
 | .inr (.inl ())=>pipes
 | .inr (.inr (.inl ()))=>procs
 | .inr (.inr (.inr (.inl i)))=>gots i
 | .inr (.inr (.inr (.inr (.inl i))))=>outs i
 | .inr (.inr (.inr (.inr (.inr (.inl q)))))=>pipe q
 | .inr (.inr (.inr (.inr (.inr (.inr (.inl (i,j)))))))=>got i j
 | .inr (.inr (.inr (.inr (.inr (.inr (.inr (.inl (i,k))))))))=>out i k
 | .inr (.inr (.inr (.inr (.inr (.inr (.inr (.inr (.inl ()))))))))=>sunk
 | .inr (.inr (.inr (.inr (.inr (.inr (.inr (.inr (.inr ()))))))))=>aux
abbrev Sl:=Option Addr × Nat
def sl(b:qU)(s:Sl):Value:=.slice s.1 b.length s.2
def nilS:Sl:=(none,0)
def ROf(w:World)(O:qW)(o:Own)(s:Sl)(b:qU):Prop:=
 Reads w (sl b s) b.length (b.map U)/\(s.1=none->s.2=0)/\(b≠[]->∀a,s.1=some a->O a.block=some o)
def SOf(w:World)(O:qW)(o:Own)(s:Sl)(b:qU):Prop:=
 (s=nilS/\b=[])\/∃g off cur,s.1=some ⟨g,off,none⟩/\O g=some o/\w.heap[g]?=some (.cells cur 5 (0,0))/\b.length<=s.2/\s.2<=maxLen/\off+s.2<=cur.size/\(cur.toList.drop off).take b.length=b.map U
theorem SOf.nil(w:World)(O:qW)(o:Own):SOf w O o nilS []:=.inl ⟨rfl,rfl⟩
theorem SOf.reads{w:World}{O:qW}{o:Own}{s:Sl}{b:qU}(h:SOf w O o s b):Reads w (sl b s) b.length (b.map U):=by
 rcases h with⟨rfl,rfl⟩|⟨g,off,cur,hs,ho,hg,h1,h2,h3,h4⟩
 . exact⟨rfl,none,0,rfl,qA _,by simp[maxLen],fun h=>absurd rfl h⟩
 .
  refine⟨by simp,s.1,s.2,rfl,h1,h2,fun hn=>⟨g,off,hs,fun j u hu=>?_⟩⟩;rw[qY _ _ _ _ _ _ hg];rw[<- h4,xg]at hu;split at hu
  . rw[xu]at hu;simpa using hu
  . cases hu
theorem SOf.keep{w w':World}{O O':qW}{o:Own}{s:Sl}{b:qU}(h:SOf w O o s b)(hk:∀k,O k=some o->w'.heap[k]?=w.heap[k]?)(hO:∀k,k<w.heap.size->O' k=O k):SOf w' O' o s b:=by
 rcases h with h | ⟨g,off,cur,hs,ho,hg,h1⟩
 . exact .inl h
 . exact .inr ⟨g,off,cur,hs,(hO g (aSm hg).1).trans ho,(hk g ho).trans hg,h1⟩
theorem SOf.drop{w:World}{O:qW}{o:Own}{s:Sl}{b:qU}(h:SOf w O o s b){g off:Nat}(hs:s.1=some ⟨g,off,none⟩){n:Nat}(hn:n<=b.length)(s':Sl)(hs':s'=(some ⟨g,off+n,none⟩,s.2-n)\/(s'=(some ⟨g,off,none⟩,0)/\n=s.2)):SOf w O o s' (b.drop n):=by
 rcases h with⟨rfl,rfl⟩|⟨g',off',cur,hs2,ho,hg,h1,h2,h3,h4⟩
 . cases hs
 .
  rw[hs]at hs2;injection hs2 with hs2;injection hs2 with e1 e2;subst e1 e2;refine .inr ?_;rcases hs' with rfl | ⟨rfl,hn2⟩
  . refine⟨g,off+n,cur,rfl,ho,hg,by rw[qy];show _<=s.2-n;omega,by show s.2-n<=_;omega,by show off+n+(s.2-n)<=_;omega,?_⟩;rw[List.map_drop,<- h4,<- List.drop_drop,qy,List.drop_take]
  . refine⟨g,off,cur,rfl,ho,hg,by rw[qy];show _<=0;omega,qM _,by show off+0<=_;omega,?_⟩;have:b.drop n=[]:=qi qO;rw[this];simp
theorem SOf.of_owns{w:World}{O:qW}{o:Own}{B:Nat}{v:Value}{b:qU}(h:w.ownsRow B 5 1 v b.length (b.map U))(hO:∀g,v.ownBlock=some g->O g=some o):∃s,v=sl b s/\SOf w O o s b/\∀a,s.1=some a->v.ownBlock=some a.block:=by
 rcases h.2 with⟨rfl,h0⟩|⟨g,cap,cur,rfl,hb,hg,h1,h2,h3,h4⟩
 . have:b=[]:=qz.1 h0;subst this;exact⟨nilS,rfl,SOf.nil _ _ _,fun a h=>by cases h⟩
 . refine⟨(some ⟨g,0,none⟩,cap),rfl,.inr ⟨g,0,cur,rfl,hO g rfl,hg,h1,h2,by show 0+cap<=_;omega,?_⟩,fun a h=>by injection h with h;subst h;rfl⟩;rw[List.drop_zero];simpa using h4
theorem ROf.keep{w w':World}{O O':qW}{o:Own}{s:Sl}{b:qU}(h:ROf w O o s b)(hk:∀k,O k=some o->w'.heap[k]?=w.heap[k]?)(hO:∀k o,O k=some o->O' k=O k):ROf w' O' o s b:=by
 refine⟨?_,h.2.1,fun hn a ha=>(hO _ _ (h.2.2 hn a ha)).trans (h.2.2 hn a ha)⟩;by_cases h0:b=[]
 . subst h0;obtain⟨h1,ao,cap,e,h2,h3,h4⟩:=h.1;exact⟨h1,ao,cap,e,h2,h3,fun hn=>absurd rfl hn⟩
 . exact Q4 h.1 (fun a ha=>hk _ (h.2.2 h0 a ha))
theorem ROf.nil(w:World)(O:qW)(o:Own):ROf w O o nilS []:=⟨⟨rfl,none,0,rfl,qA _,by simp[maxLen],fun h=>absurd rfl h⟩,fun _=>rfl,fun h=>absurd rfl h⟩
theorem aa2{k:Nat}:∀(rows:List (List Value))(j:Nat)(row:List Value),(∀r∈rows,r.length=k)->rows[j]?=some row->∀i,i<k->rows.flatten[j*k+i]?=row[i]?
 | [],j,row,_,h,i,_=>by simp at h
 | d::l,0,row,hl,h,i,hi=>by simp at h;subst h;rw[xC,xJ (by rw[hl d (by simp)];omega)];simp
 | d::l,j+1,row,hl,h,i,hi=>by have hd:=hl d (by simp);rw[xC,qu (by rw[hd,Nat.add_mul];omega),hd,show (j+1)*k+i-k=j*k+i by rw[Nat.add_mul];omega];exact aa2 l j row (fun r hr=>hl r (by simp[hr])) (by simpa using h) i hi
theorem aa7{k:Nat}:∀(rows:List (List Value))(j:Nat)(row:List Value),(∀r∈rows,r.length=k)->rows[j]?=some row->∀i u,i<k->rows.flatten.set (j*k+i) u=(rows.set j (row.set i u)).flatten
 | [],j,row,_,h,i,u,_=>by simp at h
 | d::l,0,row,hl,h,i,u,hi=>by simp at h;subst h;rw[xC,List.set_append_left _ _ (by rw[hl d (by simp)];omega)];simp
 | d::l,j+1,row,hl,h,i,u,hi=>by have hd:=hl d (by simp);rw[xC,zG _ _ (by rw[hd,Nat.add_mul];omega),hd,show (j+1)*k+i-k=j*k+i by rw[Nat.add_mul];omega,aa7 l j row (fun r hr=>hl r (by simp[hr])) (by simpa using h) i u hi];simp
theorem ah2{k:Nat}:∀(rows:List (List Value)),(∀r∈rows,r.length=k)->rows.flatten.length=rows.length*k
 | [],_=>by simp
 | d::l,hl=>by rw[xC,qI,hl d (by simp),ah2 l (fun r hr=>hl r (by simp[hr])),ql,Nat.add_mul];omega
theorem Z2{α β γ:Type}{f:α->β->γ}{xs:List α}{ys:List β}{j:Nat}{x:α}{y:β}(hx:xs[j]?=some x)(hy:ys[j]?=some y):(List.zipWith f xs ys)[j]?=some (f x y):=by rw[zU,hx,hy]
theorem ae3{α β γ:Type}{f:α->β->γ}:∀(xs:List α)(ys:List β)(j:Nat)(x:α)(y:β),(List.zipWith f xs ys).set j (f x y)=List.zipWith f (xs.set j x) (ys.set j y)
 | [],ys,j,x,y=>by simp
 | a::xs,[],j,x,y=>by simp
 | a::xs,b::ys,0,x,y=>by simp
 | a::xs,b::ys,j+1,x,y=>by simp[ae3 xs ys j x y]
def P7(x:SPipe)(s:Sl):List Value:=[sl x.b s,.int .i64 x.room,.bool x.closed,.bool x.shut]
def A9(xs:List SPipe)(X:List Sl):List (List Value):=List.zipWith P7 xs X
theorem N7(xs:List SPipe)(X:List Sl):∀r∈A9 xs X,r.length=4:=by intro r hr;obtain⟨i,hi⟩:=qw hr;unfold A9 at hi;obtain⟨x,y,_,_,e⟩:=zM.1 hi;rw[<- e];rfl
structure PSlot where
 gv:Value
 ov:Value
 gs:List Sl
 os:List Sl
def F7(p:SProc)(s:PSlot):List Value:=[s.gv,.int .i64 p.pos,s.ov,.bool p.rd,.bool p.ov]
def l9(ps:List SProc)(P:List PSlot):List (List Value):=List.zipWith F7 ps P
theorem J3(ps:List SProc)(P:List PSlot):∀r∈l9 ps P,r.length=5:=by intro r hr;obtain⟨i,hi⟩:=qw hr;unfold l9 at hi;obtain⟨x,y,_,_,e⟩:=zM.1 hi;rw[<- e];rfl
def L6(l:qL)(ss:List Sl):List Value:=List.zipWith sl l ss
structure RD where
 M:SMach
 vN:Value
 vF:Value
 vX:Value
 vP:Value
 vI:Value
 vM:Value
 sS:Sl
 X:List Sl
 P:List PSlot
def N8(O:qW)(v:Value)(o:Own):Prop:=∀g,v.ownBlock=some g->O g=some o
def ax8(d:RD):Obj:=match d.vM with
 | .bool _=>.cells #[d.vN,d.vF,d.vX,d.vP,sl d.M.sunk d.sS] 30 (0,0)
 | _=>.cells #[d.vN,d.vF,d.vX,d.vP,sl d.M.sunk d.sS,d.vI,d.vM] 71 (0,0)
def Part(w:World)(D r:Nat)(O:qW)(A:World->qW->Prop)(d:RD):Own->Prop
 | .inl ()=>w.heap[r]?=some (ax8 d)/\O r=some .box
 | .inr (.inl ())=>w.ownsRow D 61 4 d.vX d.M.pipes.length (A9 d.M.pipes d.X).flatten/\N8 O d.vX .pipes
 | .inr (.inr (.inl ()))=>w.ownsRow D 64 5 d.vP d.M.ps.length (l9 d.M.ps d.P).flatten/\N8 O d.vP .procs
 | .inr (.inr (.inr (.inl i)))=>∀p s,d.M.ps[i]?=some p->d.P[i]?=some s->w.ownsRow D 28 1 s.gv p.got.length (L6 p.got s.gs)/\N8 O s.gv (.gots i)
 | .inr (.inr (.inr (.inr (.inl i))))=>∀p s,d.M.ps[i]?=some p->d.P[i]?=some s->w.ownsRow D 28 1 s.ov p.out.length (L6 p.out s.os)/\N8 O s.ov (.outs i)
 | .inr (.inr (.inr (.inr (.inr (.inl q)))))=>∀x s,d.M.pipes[q]?=some x->d.X[q]?=some s->ROf w O (.pipe q) s x.b
 | .inr (.inr (.inr (.inr (.inr (.inr (.inl (i,j)))))))=>∀p s b a,d.M.ps[i]?=some p->d.P[i]?=some s->p.got[j]?=some b->s.gs[j]?=some a->SOf w O (.got i j) a b
 | .inr (.inr (.inr (.inr (.inr (.inr (.inr (.inl (i,k))))))))=>∀p s b a,d.M.ps[i]?=some p->d.P[i]?=some s->p.out[k]?=some b->s.os[k]?=some a->SOf w O (.out i k) a b
 | .inr (.inr (.inr (.inr (.inr (.inr (.inr (.inr (.inl ()))))))))=>SOf w O .sunk d.sS d.M.sunk\/((∃b,d.vM=.bool b)/\∃w0:World,w0.heap.size=D/\Below D w0 w/\Reads w0 (sl d.M.sunk d.sS) d.M.sunk.length (d.M.sunk.map U))
 | .inr (.inr (.inr (.inr (.inr (.inr (.inr (.inr (.inr ()))))))))=>A w O
def al2(A:World->qW->Prop):Prop:=∀(w w':World)(O O':qW),A w O->(∀k,O k=some .aux->w'.heap[k]?=w.heap[k]?)->(∀k o,O k=some o->O' k=O k)->A w' O'
theorem j5{w w':World}{B:Nat}{e:TypeId}{size n:Nat}{v:Value}{xs:List Value}(h:w.ownsRow B e size v n xs)(hk:∀g,v.ownBlock=some g->w'.heap[g]?=w.heap[g]?):w'.ownsRow B e size v n xs:=by
 refine⟨h.1,?_⟩;rcases h.2 with h0 | ⟨g,cap,cur,e1,hb,h1,h2⟩
 . exact .inl h0
 . refine .inr ⟨g,cap,cur,e1,hb,?_,h2⟩;rw[hk g (by rw[e1];rfl)];exact h1
theorem Part.keep{w w':World}{D r:Nat}{O O':qW}{A:World->qW->Prop}(hA:al2 A){d:RD}{o:Own}(h:Part w D r O A d o)(hk:∀k,O k=some o->w'.heap[k]?=w.heap[k]?)(hO:∀k o,O k=some o->O' k=O k)(hlo:∀k o,O k=some o->k<w.heap.size)(hO2:∀k,k<w.heap.size->O' k=O k)(hb:o=.sunk->(∃b,d.vM=.bool b)->Below D w w'):Part w' D r O' A d o:=by
 have Ab:∀v:Value,N8 O v o->N8 O' v o:=fun v hv g hg=>(hO _ _ (hv g hg)).trans (hv g hg)
 cases o using Own.elimE with
 | box=>exact⟨(hk r h.2).trans h.1,(hO _ _ h.2).trans h.2⟩
 | pipes=>exact⟨j5 h.1 (fun g hg=>hk g (h.2 g hg)),Ab _ h.2⟩
 | procs=>exact⟨j5 h.1 (fun g hg=>hk g (h.2 g hg)),Ab _ h.2⟩
 | gots i=>exact fun p s hp hs=>⟨j5 (h p s hp hs).1 (fun g hg=>hk g ((h p s hp hs).2 g hg)),Ab _ (h p s hp hs).2⟩
 | outs i=>exact fun p s hp hs=>⟨j5 (h p s hp hs).1 (fun g hg=>hk g ((h p s hp hs).2 g hg)),Ab _ (h p s hp hs).2⟩
 | pipe q=>exact fun x s hx hs=>(h x s hx hs).keep hk hO
 | got i j=>exact fun p s b a hp hs hb ha=>(h p s b a hp hs hb ha).keep hk hO2
 | out i k=>exact fun p s b a hp hs hb ha=>(h p s b a hp hs hb ha).keep hk hO2
 | sunk=>exact h.imp (fun h=>SOf.keep h hk hO2) (fun ⟨hv,w0,h1,h2,h3⟩=>⟨hv,w0,h1,h2.trans (hb rfl hv),h3⟩)
 | aux=>exact hA w w' O O' h hk hO
structure RMem (w:World) (D r:Nat) (O:qW) (A:World->qW->Prop) (d:RD):Prop where
 lo:∀g o,O g=some o->D<=g/\g<w.heap.size
 base:∃w0:World,w0.heap.size=D/\Below D w0 w/\y8 w0 d.vN d.M.ns/\o8 w0 d.vF d.M.fs
 xlen:d.X.length=d.M.pipes.length
 plen:d.P.length=d.M.ps.length
 slen:∀(i:Nat)(p:SProc)(s:PSlot),d.M.ps[i]?=some p->d.P[i]?=some s->s.gs.length=p.got.length/\s.os.length=p.out.length
 aux:al2 A
 part:∀o,Part w D r O A d o
theorem RMem.nodes{w:World}{D r:Nat}{O:qW}{A:World->qW->Prop}{d:RD}(h:RMem w D r O A d):y8 w d.vN d.M.ns/\o8 w d.vF d.M.fs:=by obtain⟨w0,h1,h2,h3,h4⟩:=h.base;subst h1;exact⟨h3.below h2,h4.below h2⟩
theorem RMem.le{w:World}{D r:Nat}{O:qW}{A:World->qW->Prop}{d:RD}(h:RMem w D r O A d):D<=w.heap.size:=by obtain⟨w0,h1,h2,_⟩:=h.base;have:=h2.size;omega
structure Touch (O:qW) (o:Own) (w w':World):Prop where
 os:w'.os=w.os
 tape:w'.tape=w.tape
 output:w'.output=w.output
 size:w.heap.size<=w'.heap.size
 block:∀k,k<w.heap.size->O k≠some o->w'.heap[k]?=w.heap[k]?
theorem Touch.of_below{O:qW}{o:Own}{w w':World}(h:Bq w w'):Touch O o w w':=⟨h.os,h.tape,h.output,h.size,fun k hk _=>h.block k hk⟩
theorem Touch.set{O:qW}{o:Own}{w w':World}(h:Touch O o w w'){a:Addr}{v:Value}(ha:O a.block=some o):Touch O o w (w'.setCell a v):=
 ⟨h.os,h.tape,h.output,by simpa using h.size,fun k hk hn=>(Below.heap_setCell _ _ _ _ (fun e=>hn (by rw[e];exact ha))).trans (h.block k hk hn)⟩
theorem Touch.refl(O:qW)(o:Own)(w:World):Touch O o w w:=⟨rfl,rfl,rfl,qA _,fun _ _ _=>rfl⟩
theorem Touch.below{w w':World}{D r:Nat}{O:qW}{A:World->qW->Prop}{d:RD}(h:RMem w D r O A d){o:Own}(t:Touch O o w w'):Below D w w':=
 ⟨t.os,t.tape,t.output,t.size,fun k hk=>t.block k (by have:=h.le;omega) (fun e=>by have:=(h.lo k o e).1;omega)⟩
theorem RMem.upd{w w':World}{D r:Nat}{O O':qW}{A:World->qW->Prop}{d d':RD}(h:RMem w D r O A d){o:Own}(t:Touch O o w w')(hO:∀k,k<w.heap.size->O' k=O k)(hlo:∀g o,O' g=some o->D<=g/\g<w'.heap.size)
 (hN:d'.vN=d.vN) (hF:d'.vF=d.vF) (hns:d'.M.ns=d.M.ns) (hfs:d'.M.fs=d.M.fs) (hxl:d'.X.length=d'.M.pipes.length) (hpl:d'.P.length=d'.M.ps.length)
 (hsl:∀(i:Nat)(p:SProc)(s:PSlot),d'.M.ps[i]?=some p->d'.P[i]?=some s->s.gs.length=p.got.length/\s.os.length=p.out.length)
 (hoth:∀o',o'≠o->Part w D r O A d o'->Part w D r O A d' o') (Ab:Part w' D r O' A d' o):RMem w' D r O' A d':=by
 have hb:=t.below h;obtain⟨w0,b1,b2,b3,b4⟩:=h.base;refine⟨hlo,⟨w0,b1,b2.trans hb,by rw[hN,hns];exact b3,by rw[hF,hfs];exact b4⟩,hxl,hpl,hsl,h.aux,fun o'=>?_⟩;by_cases e:o'=o
 . subst e;exact Ab
 . exact (hoth o' e (h.part o')).keep h.aux (fun k hk=>t.block k (h.lo k o' hk).2 (fun e2=>e (by rw[hk]at e2;injection e2))) (fun k o2 hk=>hO k (h.lo k o2 hk).2) (fun k o2 hk=>(h.lo k o2 hk).2) hO (fun _ _=>hb)
def RD.setPipe(d:RD)(q:Nat)(x:SPipe)(s:Sl):RD:=⟨d.M.setX q x,d.vN,d.vF,d.vX,d.vP,d.vI,d.vM,d.sS,d.X.set q s,d.P⟩
def RD.setProc(d:RD)(i:Nat)(p:SProc)(s:PSlot):RD:=⟨d.M.setP i p,d.vN,d.vF,d.vX,d.vP,d.vI,d.vM,d.sS,d.X,d.P.set i s⟩
def RD.setSunk(d:RD)(b:qU)(s:Sl):RD:=⟨⟨d.M.ns,d.M.fs,d.M.pipes,d.M.ps,b⟩,d.vN,d.vF,d.vX,d.vP,d.vI,d.vM,s,d.X,d.P⟩
section
variable {w w':World} {D r:Nat} {O O':qW} {A:World->qW->Prop} {d:RD}
theorem RMem.grow(h:RMem w D r O A d)(hb:Bq w w')(hO:∀k,k<w.heap.size->O' k=O k)(hlo:∀g o,O' g=some o->w.heap.size<=g->g<w'.heap.size):RMem w' D r O' A d:=by
 have hle:=h.le;refine h.upd (o:=.aux) (Touch.of_below hb) hO (fun g o hg=>?_) rfl rfl rfl rfl h.xlen h.plen h.slen (fun _ _ hp=>hp) ?_
 .
  by_cases hgs:g<w.heap.size
  . have:=h.lo g o (by rw[<- hO g hgs];exact hg);have:=hb.size;omega
  . exact⟨qO,hlo g o hg qO⟩
 . exact (h.part .aux).keep h.aux (fun k hk=>hb.block k (h.lo k _ hk).2) (fun k o hk=>hO k (h.lo k o hk).2) (fun k o hk=>(h.lo k o hk).2) hO (fun e=>by cases e)
theorem RMem.below(h:RMem w D r O A d)(hb:Bq w w'):RMem w' D r O A d:=h.grow hb (fun _ _=>rfl) (fun g o hg hge=>absurd (h.lo g o hg).2 qO)
theorem K9{w:World}{k:Nat}{a b c d e f g:Value}{t:TypeId}(h:w.heap[k]?=some (.cells #[a,b,c,d,e,f,g] t (0,0))):
 w.cell? ⟨k,0,none⟩=some a/\w.cell? ⟨k,1,none⟩=some b/\w.cell? ⟨k,2,none⟩=some c/\w.cell? ⟨k,3,none⟩=some d/\w.cell? ⟨k,4,none⟩=some e/\w.cell? ⟨k,5,none⟩=some f/\w.cell? ⟨k,6,none⟩=some g:=by
 refine⟨?_,?_,?_,?_,?_,?_,?_⟩
 all_goals
  rw[qY _ _ _ _ _ _ h];rfl
theorem D8{w:World}{k:Nat}{a b c d e f g h:Value}{t:TypeId}(hx:w.heap[k]?=some (.cells #[a,b,c,d,e,f,g,h] t (0,0))):
 w.cell? ⟨k,0,none⟩=some a/\w.cell? ⟨k,1,none⟩=some b/\w.cell? ⟨k,2,none⟩=some c/\w.cell? ⟨k,3,none⟩=some d/\w.cell? ⟨k,4,none⟩=some e/\w.cell? ⟨k,5,none⟩=some f/\w.cell? ⟨k,6,none⟩=some g/\w.cell? ⟨k,7,none⟩=some h:=by
 refine⟨?_,?_,?_,?_,?_,?_,?_,?_⟩
 all_goals
  rw[qY _ _ _ _ _ _ hx];rfl
theorem RMem.boxO(h:RMem w D r O A d):O r=some .box:=(h.part .box).2
theorem RMem.boxR(h:RMem w D r O A d){n:Option Nat}(hv:d.vM=.map n):w.heap[r]?=some (.cells #[d.vN,d.vF,d.vX,d.vP,sl d.M.sunk d.sS,d.vI,d.vM] 71 (0,0)):=by have h1:=(h.part .box).1;unfold ax8 at h1;rw[hv]at h1 ⊢;exact h1
theorem RMem.boxM(h:RMem w D r O A d){b:Bool}(hv:d.vM=.bool b):w.heap[r]?=some (.cells #[d.vN,d.vF,d.vX,d.vP,sl d.M.sunk d.sS] 30 (0,0)):=by have h1:=(h.part .box).1;unfold ax8 at h1;rw[hv]at h1;exact h1
theorem RMem.sunkR(h:RMem w D r O A d):Reads w (sl d.M.sunk d.sS) d.M.sunk.length (d.M.sunk.map U):=by
 rcases h.part .sunk with h | ⟨_,w0,h1,h2,h3⟩
 . exact h.reads
 . subst h1;exact h3.below h2
theorem g8{B:Nat}{e:TypeId}{size n:Nat}{v:Value}{xs:List Value}(h:w.ownsRow B e size v n xs):(∃ao cap,v=.slice ao n cap/\n<=cap/\cap<=maxLen)/\(n≠0->∃g cap,v=.slice (some ⟨g,0,none⟩) n cap/\n<=cap/\cap<=9223372036854775807/\g<w.heap.size/\(∀j,j<n*size->w.cell? ⟨g,j,none⟩=xs[j]?)/\∀j,w.frozen? ⟨g,j,none⟩=false):=by
 rcases id h.2 with⟨rfl,h0⟩|⟨g,cap,cur,rfl,hb,hg,h1,h2,h3,h4⟩
 . exact⟨⟨none,0,by rw[h0],qO,by simp[maxLen]⟩,fun hn=>absurd h0 hn⟩
 . exact⟨⟨_,cap,rfl,h1,h2⟩,fun _=>⟨g,cap,rfl,h1,by unfold maxLen at h2;omega,(aSm hg).1,fun j hj=>h.cellAt j hj,fun j=>xW _ _ _ _ _ hg⟩⟩
theorem RMem.pipeAt(h:RMem w D r O A d){q:Nat}{x:SPipe}(hx:d.M.pipes[q]?=some x):
 ∃g c s,d.vX=.slice (some ⟨g,0,none⟩) d.M.pipes.length c/\d.M.pipes.length<=c/\c<=9223372036854775807/\g<w.heap.size/\O g=some .pipes/\d.X[q]?=some s/\ROf w O (.pipe q) s x.b /\
  w.cell? ⟨g,q*4,none⟩=some (sl x.b s)/\w.cell? ⟨g,q*4+1,none⟩=some (.int .i64 x.room)/\w.cell? ⟨g,q*4+2,none⟩=some (.bool x.closed)/\w.cell? ⟨g,q*4+3,none⟩=some (.bool x.shut)/\∀j,w.frozen? ⟨g,j,none⟩=false:=by
 have hql:q<d.M.pipes.length:=(gSm hx).1;obtain⟨h1,h2⟩:=h.part .pipes;obtain⟨g,c,e,hc,hc2,hg,Ac,hf⟩:=(g8 h1).2 qO;obtain⟨s,hs⟩:∃s,d.X[q]?=some s:=⟨_,gEl (by rw[h.xlen];exact hql)⟩;have Ap:(A9 d.M.pipes d.X)[q]?=some (P7 x s):=Z2 hx hs;have hat:=aa2 _ q _ (N7 d.M.pipes d.X) Ap;refine⟨g,c,s,e,hc,hc2,hg,h2 g (by rw[e];rfl),hs,h.part (.pipe q) x s hx hs,?_,?_,?_,?_,hf⟩
 . rw[Ac _ qO];exact hat 0 qO
 . rw[Ac _ qO];exact hat 1 qO
 . rw[Ac _ qO];exact hat 2 qO
 . rw[Ac _ qO];exact hat 3 qO
theorem RMem.procAt(h:RMem w D r O A d){i:Nat}{p:SProc}(hp:d.M.ps[i]?=some p):
 ∃g c s,d.vP=.slice (some ⟨g,0,none⟩) d.M.ps.length c/\d.M.ps.length<=c/\c<=9223372036854775807/\g<w.heap.size/\O g=some .procs/\d.P[i]?=some s /\
  w.cell? ⟨g,i*5,none⟩=some s.gv/\w.cell? ⟨g,i*5+1,none⟩=some (.int .i64 p.pos)/\w.cell? ⟨g,i*5+2,none⟩=some s.ov/\w.cell? ⟨g,i*5+3,none⟩=some (.bool p.rd)/\w.cell? ⟨g,i*5+4,none⟩=some (.bool p.ov)/\(∀j,w.frozen? ⟨g,j,none⟩=false) /\
  w.ownsRow D 28 1 s.gv p.got.length (L6 p.got s.gs)/\w.ownsRow D 28 1 s.ov p.out.length (L6 p.out s.os)/\s.gs.length=p.got.length/\s.os.length=p.out.length:=by
 have hil:i<d.M.ps.length:=(gSm hp).1;obtain⟨h1,h2⟩:=h.part .procs;obtain⟨g,c,e,hc,hc2,hg,Ac,hf⟩:=(g8 h1).2 qO;obtain⟨s,hs⟩:∃s,d.P[i]?=some s:=⟨_,gEl (by rw[h.plen];exact hil)⟩;have Ap:(l9 d.M.ps d.P)[i]?=some (F7 p s):=Z2 hp hs;have hat:=aa2 _ i _ (J3 d.M.ps d.P) Ap;refine⟨g,c,s,e,hc,hc2,hg,h2 g (by rw[e];rfl),hs,?_,?_,?_,?_,?_,hf,(h.part (.gots i) p s hp hs).1,(h.part (.outs i) p s hp hs).1,(h.slen i p s hp hs).1,(h.slen i p s hp hs).2⟩
 . rw[Ac _ qO];exact hat 0 qO
 . rw[Ac _ qO];exact hat 1 qO
 . rw[Ac _ qO];exact hat 2 qO
 . rw[Ac _ qO];exact hat 3 qO
 . rw[Ac _ qO];exact hat 4 qO
theorem am0{l:qL}{ss:List Sl}{j:Nat}{b:qU}{s:Sl}(hb:l[j]?=some b)(hs:ss[j]?=some s):(L6 l ss)[j]?=some (sl b s):=Z2 hb hs
theorem RMem.gotAt(h:RMem w D r O A d){i j:Nat}{p:SProc}{s:PSlot}{b:qU}(hp:d.M.ps[i]?=some p)(hs:d.P[i]?=some s)(hb:p.got[j]?=some b):
 ∃g c a,s.gv=.slice (some ⟨g,0,none⟩) p.got.length c/\p.got.length<=c/\c<=9223372036854775807/\g<w.heap.size/\O g=some (.gots i)/\s.gs[j]?=some a/\SOf w O (.got i j) a b/\w.cell? ⟨g,j,none⟩=some (sl b a)/\∀j,w.frozen? ⟨g,j,none⟩=false:=by have hjl:j<p.got.length:=(gSm hb).1;obtain⟨h1,h2⟩:=h.part (.gots i) p s hp hs;obtain⟨g,c,e,hc,hc2,hg,Ac,hf⟩:=(g8 h1).2 qO;obtain⟨a,ha⟩:∃a,s.gs[j]?=some a:=⟨_,gEl (by rw[(h.slen i p s hp hs).1];exact hjl)⟩;exact⟨g,c,a,e,hc,hc2,hg,h2 g (by rw[e];rfl),ha,h.part (.got i j) p s b a hp hs hb ha,by rw[Ac _ qO];exact am0 hb ha,hf⟩
theorem RMem.outAt(h:RMem w D r O A d){i j:Nat}{p:SProc}{s:PSlot}{b:qU}(hp:d.M.ps[i]?=some p)(hs:d.P[i]?=some s)(hb:p.out[j]?=some b):
 ∃g c a,s.ov=.slice (some ⟨g,0,none⟩) p.out.length c/\p.out.length<=c/\c<=9223372036854775807/\g<w.heap.size/\O g=some (.outs i)/\s.os[j]?=some a/\SOf w O (.out i j) a b/\w.cell? ⟨g,j,none⟩=some (sl b a)/\∀j,w.frozen? ⟨g,j,none⟩=false:=by have hjl:j<p.out.length:=(gSm hb).1;obtain⟨h1,h2⟩:=h.part (.outs i) p s hp hs;obtain⟨g,c,e,hc,hc2,hg,Ac,hf⟩:=(g8 h1).2 qO;obtain⟨a,ha⟩:∃a,s.os[j]?=some a:=⟨_,gEl (by rw[(h.slen i p s hp hs).2];exact hjl)⟩;exact⟨g,c,a,e,hc,hc2,hg,h2 g (by rw[e];rfl),ha,h.part (.out i j) p s b a hp hs hb ha,by rw[Ac _ qO];exact am0 hb ha,hf⟩
theorem bj5{B:Nat}{v:Value}{l:qL}{ss:List Sl}(h:w.ownsRow B 28 1 v l.length (L6 l ss))(hl:ss.length=l.length)(hs:∀(j:Nat)(b:qU)(a:Sl),l[j]?=some b->ss[j]?=some a->Reads w (sl b a) b.length (b.map U)):RList w v U l:=by refine⟨L6 l ss,Reads.of_owns h,fun j b hb=>?_⟩;obtain⟨a,ha⟩:∃a,ss[j]?=some a:=⟨_,gEl (by rw[hl];exact (gSm hb).1)⟩;exact⟨_,am0 hb ha,hs j b a hb ha⟩
theorem RMem.gots(h:RMem w D r O A d){i:Nat}{p:SProc}{s:PSlot}(hp:d.M.ps[i]?=some p)(hs:d.P[i]?=some s):RList w s.gv U p.got:=
 bj5 (h.part (.gots i) p s hp hs).1 (h.slen i p s hp hs).1 (fun j b a hb ha=>(h.part (.got i j) p s b a hp hs hb ha).reads)
theorem RMem.outs(h:RMem w D r O A d){i:Nat}{p:SProc}{s:PSlot}(hp:d.M.ps[i]?=some p)(hs:d.P[i]?=some s):RList w s.ov U p.out:=
 bj5 (h.part (.outs i) p s hp hs).1 (h.slen i p s hp hs).2 (fun j b a hb ha=>(h.part (.out i j) p s b a hp hs hb ha).reads)
theorem D6{α:Type}{l:List α}{i j:Nat}{a:α}(h:i≠j):(l.set i a)[j]?=l[j]?:=by rw[xE,qB h]
theorem j8{α:Type}{l:List α}{i:Nat}{a b:α}(h:l[i]?=some b):(l.set i a)[i]?=some a:=by rw[xE,qF rfl,qF (gSm h).1]
theorem ai9(h:RMem w D r O A d)(hs:w.heap.size<=w'.heap.size):∀g o,O g=some o->D<=g/\g<w'.heap.size:=fun g o hg=>⟨(h.lo g o hg).1,by have:=(h.lo g o hg).2;omega⟩
theorem am1(h:RMem w D r O A d){i:Nat}{p':SProc}{s':PSlot}(h1:s'.gs.length=p'.got.length)(h2:s'.os.length=p'.out.length):∀(j:Nat)(p:SProc)(s:PSlot),(d.M.ps.set i p')[j]?=some p->(d.P.set i s')[j]?=some s->s.gs.length=p.got.length/\s.os.length=p.out.length:=by
 intro j p s hp hs;by_cases e:i=j
 .
  subst e;rw[xE,qF rfl]at hp hs;split at hp
  . split at hs
    . injection hp with hp;injection hs with hs;subst hp hs;exact⟨h1,h2⟩
    . cases hs
  . cases hp
 . rw[D6 e]at hp hs;exact h.slen j p s hp hs
theorem RMem.setPipeC(h:RMem w D r O A d){q g c k:Nat}{x x':SPipe}{s s':Sl}{u:Value}(hx:d.M.pipes[q]?=some x)(hs:d.X[q]?=some s)(hv:d.vX=.slice (some ⟨g,0,none⟩) d.M.pipes.length c)(hg:O g=some .pipes)(hk:k<4)(Ap:(P7 x s).set k u=P7 x' s')(hr:ROf w O (.pipe q) s' x'.b):
 RMem (w.setCell ⟨g,q*4+k,none⟩ u) D r O A (d.setPipe q x' s'):=by
 have hql:q<d.M.pipes.length:=(gSm hx).1;refine h.upd (o:=.pipes) ((Touch.refl O .pipes w).set hg) (fun _ _=>rfl) (ai9 h (by simp)) rfl rfl rfl rfl (by simpa[RD.setPipe,SMach.setX]using h.xlen) h.plen h.slen ?_ ?_
 .
  intro o' ho' hp
  cases o' using Own.elimE with
  | pipes=>exact absurd rfl ho'
  | pipe q'=>
   intro y t hy ht;by_cases e:q=q'
   . subst e;have hy':(d.M.pipes.set q x')[q]?=some y:=hy;have ht':(d.X.set q s')[q]?=some t:=ht;rw[j8 hx]at hy';rw[j8 hs]at ht';injection hy' with e1;injection ht' with e2;subst e1 e2;exact hr
   . exact hp y t (by have:(d.M.pipes.set q x')[q']?=some y:=hy;rwa [D6 e]at this) (by have:(d.X.set q s')[q']?=some t:=ht;rwa [D6 e]at this)
  | box=>exact hp
  | procs=>exact hp
  | gots i=>exact hp
  | outs i=>exact hp
  | got i j=>exact hp
  | out i j=>exact hp
  | sunk=>exact hp
  | aux=>exact hp
 .
  obtain⟨h1,h2⟩:=h.part .pipes;refine⟨?_,h2⟩;have hrw:(A9 d.M.pipes d.X)[q]?=some (P7 x s):=Z2 hx hs;rw[hv]at h1;have k0:=O6 h1 (q*4+k) qO u;rw[aa7 _ q _ (N7 d.M.pipes d.X) hrw k u hk,Ap]at k0;have e1:(A9 d.M.pipes d.X).set q (P7 x' s')=A9 (d.M.pipes.set q x') (d.X.set q s'):=by unfold A9;rw[<- ae3]
  rw[e1]at k0;have hlen:(d.setPipe q x' s').M.pipes.length=d.M.pipes.length:=by simp[RD.setPipe,SMach.setX]
  show World.ownsRow _ D 61 4 d.vX (d.setPipe q x' s').M.pipes.length _;rw[hlen,hv];exact k0
theorem RD.setPipe2(d:RD)(q:Nat)(x y:SPipe)(s t:Sl):(d.setPipe q x s).setPipe q y t=d.setPipe q y t:=by simp[RD.setPipe,SMach.setX]
theorem RMem.setPipe(h:RMem w D r O A d){q g c:Nat}{x x':SPipe}{s':Sl}(hx:d.M.pipes[q]?=some x)(hv:d.vX=.slice (some ⟨g,0,none⟩) d.M.pipes.length c)(hg:O g=some .pipes)(hr:ROf w O (.pipe q) s' x'.b):
 RMem ((((w.setCell ⟨g,q*4,none⟩ (sl x'.b s')).setCell ⟨g,q*4+1,none⟩ (.int .i64 x'.room)).setCell ⟨g,q*4+2,none⟩ (.bool x'.closed)).setCell ⟨g,q*4+3,none⟩ (.bool x'.shut)) D r O A (d.setPipe q x' s'):=by
 obtain⟨s,hs⟩:∃s,d.X[q]?=some s:=⟨_,gEl (by rw[h.xlen];exact (gSm hx).1)⟩;have hlen:∀(y:SPipe),(d.setPipe q y s').M.pipes.length=d.M.pipes.length:=fun y=>by simp[RD.setPipe,SMach.setX]
 have hX:∀(y:SPipe),(d.setPipe q y s').M.pipes[q]?=some y:=fun y=>j8 hx;have hS:∀(y:SPipe),(d.setPipe q y s').X[q]?=some s':=fun y=>j8 hs;have hV:∀(y:SPipe),(d.setPipe q y s').vX=.slice (some ⟨g,0,none⟩) (d.setPipe q y s').M.pipes.length c:=fun y=>by rw[hlen];exact hv
 have hR:∀{v:World}{a:Addr}{u:Value},a.block=g->ROf v O (.pipe q) s' x'.b->ROf (v.setCell a u) O (.pipe q) s' x'.b:=fun ha hv'=>hv'.keep (fun k hk=>Below.heap_setCell _ _ _ _ (fun e=>by rw[e,ha,hg]at hk;cases hk)) (fun _ _ _=>rfl);have h0:=h.setPipeC (k:=0) (x':=⟨x'.b,x.room,x.closed,x.shut⟩) (s':=s') hx hs hv hg qO rfl hr;have r0:=hR (a:=⟨g,q*4+0,none⟩) (u:=sl x'.b s') rfl hr;have h1:=h0.setPipeC (k:=1) (x':=⟨x'.b,x'.room,x.closed,x.shut⟩) (s':=s') (hX _) (hS _) (hV _) hg qO rfl r0;have r1:=hR (a:=⟨g,q*4+1,none⟩) (u:=.int .i64 x'.room) rfl r0;rw[RD.setPipe2]at h1;have h2:=h1.setPipeC (k:=2) (x':=⟨x'.b,x'.room,x'.closed,x.shut⟩) (s':=s') (hX _) (hS _) (hV _) hg qO rfl r1;have r2:=hR (a:=⟨g,q*4+2,none⟩) (u:=.bool x'.closed) rfl r1;rw[RD.setPipe2]at h2;have h3:=h2.setPipeC (k:=3) (x':=x') (s':=s') (hX _) (hS _) (hV _) hg qO rfl r2;rw[RD.setPipe2]at h3;exact h3
theorem RMem.setClosed(h:RMem w D r O A d){q g c:Nat}{x:SPipe}{s:Sl}(hx:d.M.pipes[q]?=some x)(hs:d.X[q]?=some s)(hv:d.vX=.slice (some ⟨g,0,none⟩) d.M.pipes.length c)(hg:O g=some .pipes):
 RMem (w.setCell ⟨g,q*4+2,none⟩ (.bool true)) D r O A (d.setPipe q (Z1 x) s):=
 h.setPipeC (k:=2) hx hs hv hg qO rfl (h.part (.pipe q) x s hx hs)
theorem RMem.setNum(h:RMem w D r O A d){i g c k:Nat}{p p':SProc}{s:PSlot}{u:Value}(hp:d.M.ps[i]?=some p)(hs:d.P[i]?=some s)(hv:d.vP=.slice (some ⟨g,0,none⟩) d.M.ps.length c)(hg:O g=some .procs)(hk:k<5)(Ap:(F7 p s).set k u=F7 p' s)(Di:p'.got=p.got)(Cm:p'.out=p.out):
 RMem (w.setCell ⟨g,i*5+k,none⟩ u) D r O A (d.setProc i p' s):=by
 have hil:i<d.M.ps.length:=(gSm hp).1;have hss:d.P.set i s=d.P:=by
  apply xq;intro j;by_cases e:i=j
  . subst e;rw[j8 hs,hs]
  . rw[D6 e]
 have hpn:∀(j:Nat)(q:SProc),(d.M.ps.set i p')[j]?=some q->∃q0,d.M.ps[j]?=some q0/\q.got=q0.got/\q.out=q0.out:=by
  intro j q hq;by_cases e:i=j
  . subst e;rw[j8 hp]at hq;injection hq with hq;subst hq;exact⟨p,hp,Di,Cm⟩
  . rw[D6 e]at hq;exact⟨q,hq,rfl,rfl⟩
 have hPs:(d.setProc i p' s).P=d.P:=hss;refine h.upd (o:=.procs) ((Touch.refl O .procs w).set hg) (fun _ _=>rfl) (ai9 h (by simp)) rfl rfl rfl rfl h.xlen (by simpa[RD.setProc,SMach.setP]using h.plen) (am1 h (by rw[Di];exact (h.slen i p s hp hs).1) (by rw[Cm];exact (h.slen i p s hp hs).2)) ?_ ?_
 .
  intro o' ho' hpt
  cases o' using Own.elimE with
  | procs=>exact absurd rfl ho'
  | gots j=>intro q t hq ht;rw[hPs]at ht;obtain⟨q0,h1,h2,h3⟩:=hpn j q hq;rw[h2];exact hpt q0 t h1 ht
  | outs j=>intro q t hq ht;rw[hPs]at ht;obtain⟨q0,h1,h2,h3⟩:=hpn j q hq;rw[h3];exact hpt q0 t h1 ht
  | got j k=>intro q t b a hq ht hb ha;rw[hPs]at ht;obtain⟨q0,h1,h2,h3⟩:=hpn j q hq;rw[h2]at hb;exact hpt q0 t b a h1 ht hb ha
  | out j k=>intro q t b a hq ht hb ha;rw[hPs]at ht;obtain⟨q0,h1,h2,h3⟩:=hpn j q hq;rw[h3]at hb;exact hpt q0 t b a h1 ht hb ha
  | box=>exact hpt
  | pipes=>exact hpt
  | pipe q=>exact hpt
  | sunk=>exact hpt
  | aux=>exact hpt
 .
  obtain⟨h1,h2⟩:=h.part .procs;refine⟨?_,h2⟩;have hr0:(l9 d.M.ps d.P)[i]?=some (F7 p s):=Z2 hp hs;have hl:=J3 d.M.ps d.P;rw[hv]at h1;have k0:=O6 h1 (i*5+k) qO u;rw[aa7 _ i _ hl hr0 k u hk,Ap]at k0;have e1:(l9 d.M.ps d.P).set i (F7 p' s)=l9 (d.M.ps.set i p') (d.P.set i s):=by unfold l9;rw[<- ae3]
  rw[e1]at k0;have hlen:(d.setProc i p' s).M.ps.length=d.M.ps.length:=by simp[RD.setProc,SMach.setP]
  show World.ownsRow _ D 64 5 d.vP (d.setProc i p' s).M.ps.length _;rw[hlen,hv];exact k0
end
end Go.Proofs.YtmejdflmcikkdaaGreatDoor
namespace Go.Proofs.YtmejdflmcikkdaaGreatDoor
open Go.RowKit Go.Gs Tryz
section
variable {w w':World} {D r:Nat} {O O':qW} {A:World->qW->Prop} {d:RD}
def SProc.gotSet(p:SProc)(j:Nat)(b:qU):SProc:=⟨p.got.set j b,p.pos,p.out,p.rd,p.ov⟩
def PSlot.gotSet(s:PSlot)(j:Nat)(a:Sl):PSlot:=⟨s.gv,s.ov,s.gs.set j a,s.os⟩
def PSlot.outSet(s:PSlot)(j:Nat)(a:Sl):PSlot:=⟨s.gv,s.ov,s.gs,s.os.set j a⟩
theorem aB8(l:qL)(ss:List Sl)(j:Nat)(b:qU)(a:Sl):(L6 l ss).set j (sl b a)=L6 (l.set j b) (ss.set j a):=ae3 l ss j b a
theorem af9{i:Nat}{p p':SProc}{s s':PSlot}(hp:d.M.ps[i]?=some p)(hs:d.P[i]?=some s)(Ap:F7 p' s'=F7 p s):l9 (d.M.ps.set i p') (d.P.set i s')=l9 d.M.ps d.P:=by
 unfold l9;rw[<- ae3,Ap];apply xq;intro j;by_cases e:i=j
 . subst e;have:(List.zipWith F7 d.M.ps d.P)[i]?=some (F7 p s):=Z2 hp hs;rw[j8 this,this]
 . rw[D6 e]
theorem RMem.setGot(h:RMem w D r O A d){i j g c:Nat}{p:SProc}{s:PSlot}{b0 b:qU}{a:Sl}(hp:d.M.ps[i]?=some p)(hs:d.P[i]?=some s)(hb0:p.got[j]?=some b0)(hv:s.gv=.slice (some ⟨g,0,none⟩) p.got.length c)(hg:O g=some (.gots i))(ha:SOf w O (.got i j) a b):
 RMem (w.setCell ⟨g,j,none⟩ (sl b a)) D r O A (d.setProc i (SProc.gotSet p j b) (s.gotSet j a)):=by
 have hjl:j<p.got.length:=(gSm hb0).1;obtain⟨hl1,hl2⟩:=h.slen i p s hp hs;refine h.upd (o:=.gots i) ((Touch.refl O (.gots i) w).set hg) (fun _ _=>rfl) (ai9 h (by simp)) rfl rfl rfl rfl h.xlen (by simpa[RD.setProc,SMach.setP]using h.plen) (am1 h (by simpa[SProc.gotSet,PSlot.gotSet]using hl1) hl2) ?_ ?_
 .
  intro o' ho' hpt
  cases o' using Own.elimE with
  | procs=>
   refine⟨?_,hpt.2⟩;have e1:l9 (d.setProc i (SProc.gotSet p j b) (s.gotSet j a)).M.ps (d.setProc i (SProc.gotSet p j b) (s.gotSet j a)).P=l9 d.M.ps d.P:=af9 hp hs rfl;have hlen:(d.setProc i (SProc.gotSet p j b) (s.gotSet j a)).M.ps.length=d.M.ps.length:=by simp[RD.setProc,SMach.setP]
   rw[e1,hlen];exact hpt.1
  | gots i'=>have hne:i≠i':=fun e=>ho' (by rw[e]);intro q t hq ht;exact hpt q t (by have:(d.M.ps.set i (SProc.gotSet p j b))[i']?=some q:=hq;rwa [D6 hne]at this) (by have:(d.P.set i (s.gotSet j a))[i']?=some t:=ht;rwa [D6 hne]at this)
  | outs i'=>
   intro q t hq ht;by_cases e:i=i'
   . subst e;have e1:SProc.gotSet p j b=q:=by have:(d.M.ps.set i (SProc.gotSet p j b))[i]?=some q:=hq;rw[j8 hp]at this;injection this
     have e2:s.gotSet j a=t:=by have:(d.P.set i (s.gotSet j a))[i]?=some t:=ht;rw[j8 hs]at this;injection this
     subst e1 e2;exact hpt p s hp hs
   . exact hpt q t (by have:(d.M.ps.set i (SProc.gotSet p j b))[i']?=some q:=hq;rwa [D6 e]at this) (by have:(d.P.set i (s.gotSet j a))[i']?=some t:=ht;rwa [D6 e]at this)
  | got i' j'=>
   intro q t b' a' hq ht hb' ha';by_cases e:i=i'
   .
    subst e;have e1:SProc.gotSet p j b=q:=by have:(d.M.ps.set i (SProc.gotSet p j b))[i]?=some q:=hq;rw[j8 hp]at this;injection this
    have e2:s.gotSet j a=t:=by have:(d.P.set i (s.gotSet j a))[i]?=some t:=ht;rw[j8 hs]at this;injection this
    subst e1 e2;by_cases ej:j=j'
    . subst ej;have e3:b=b':=by have:(p.got.set j b)[j]?=some b':=hb';rw[j8 hb0]at this;injection this
      have e4:a=a':=by have:(s.gs.set j a)[j]?=some a':=ha';rw[j8 (gEl (by rw[hl1];exact hjl))]at this;injection this
      subst e3 e4;exact ha
    . exact hpt p s b' a' hp hs (by have:(p.got.set j b)[j']?=some b':=hb';rwa [D6 ej]at this) (by have:(s.gs.set j a)[j']?=some a':=ha';rwa [D6 ej]at this)
   . exact hpt q t b' a' (by have:(d.M.ps.set i (SProc.gotSet p j b))[i']?=some q:=hq;rwa [D6 e]at this) (by have:(d.P.set i (s.gotSet j a))[i']?=some t:=ht;rwa [D6 e]at this) hb' ha'
  | out i' k=>
   intro q t b' a' hq ht hb' ha';by_cases e:i=i'
   . subst e;have e1:SProc.gotSet p j b=q:=by have:(d.M.ps.set i (SProc.gotSet p j b))[i]?=some q:=hq;rw[j8 hp]at this;injection this
     have e2:s.gotSet j a=t:=by have:(d.P.set i (s.gotSet j a))[i]?=some t:=ht;rw[j8 hs]at this;injection this
     subst e1 e2;exact hpt p s b' a' hp hs hb' ha'
   . exact hpt q t b' a' (by have:(d.M.ps.set i (SProc.gotSet p j b))[i']?=some q:=hq;rwa [D6 e]at this) (by have:(d.P.set i (s.gotSet j a))[i']?=some t:=ht;rwa [D6 e]at this) hb' ha'
  | box=>exact hpt
  | pipes=>exact hpt
  | pipe q=>exact hpt
  | sunk=>exact hpt
  | aux=>exact hpt
 .
  intro q t hq ht;have e1:SProc.gotSet p j b=q:=by have:(d.M.ps.set i (SProc.gotSet p j b))[i]?=some q:=hq;rw[j8 hp]at this;injection this
  have e2:s.gotSet j a=t:=by have:(d.P.set i (s.gotSet j a))[i]?=some t:=ht;rw[j8 hs]at this;injection this
  subst e1 e2;obtain⟨h1,h2⟩:=h.part (.gots i) p s hp hs;refine⟨?_,h2⟩;rw[hv]at h1;have k0:=O6 h1 j qO (sl b a);rw[aB8]at k0;show World.ownsRow _ D 28 1 s.gv (p.got.set j b).length (L6 (p.got.set j b) (s.gs.set j a));rw[List.length_set,hv];exact k0
theorem RMem.setOut(h:RMem w D r O A d){i j g c:Nat}{p:SProc}{s:PSlot}{b0 b:qU}{a:Sl}(hp:d.M.ps[i]?=some p)(hs:d.P[i]?=some s)(hb0:p.out[j]?=some b0)(hv:s.ov=.slice (some ⟨g,0,none⟩) p.out.length c)(hg:O g=some (.outs i))(ha:SOf w O (.out i j) a b):
 RMem (w.setCell ⟨g,j,none⟩ (sl b a)) D r O A (d.setProc i (p.setOut j b) (s.outSet j a)):=by
 have hjl:j<p.out.length:=(gSm hb0).1;obtain⟨hl1,hl2⟩:=h.slen i p s hp hs;refine h.upd (o:=.outs i) ((Touch.refl O (.outs i) w).set hg) (fun _ _=>rfl) (ai9 h (by simp)) rfl rfl rfl rfl h.xlen (by simpa[RD.setProc,SMach.setP]using h.plen) (am1 h hl1 (by simpa[SProc.setOut,PSlot.outSet]using hl2)) ?_ ?_
 .
  intro o' ho' hpt
  cases o' using Own.elimE with
  | procs=>
   refine⟨?_,hpt.2⟩;have e1:l9 (d.setProc i (p.setOut j b) (s.outSet j a)).M.ps (d.setProc i (p.setOut j b) (s.outSet j a)).P=l9 d.M.ps d.P:=af9 hp hs rfl;have hlen:(d.setProc i (p.setOut j b) (s.outSet j a)).M.ps.length=d.M.ps.length:=by simp[RD.setProc,SMach.setP]
   rw[e1,hlen];exact hpt.1
  | outs i'=>have hne:i≠i':=fun e=>ho' (by rw[e]);intro q t hq ht;exact hpt q t (by have:(d.M.ps.set i (p.setOut j b))[i']?=some q:=hq;rwa [D6 hne]at this) (by have:(d.P.set i (s.outSet j a))[i']?=some t:=ht;rwa [D6 hne]at this)
  | gots i'=>
   intro q t hq ht;by_cases e:i=i'
   . subst e;have e1:p.setOut j b=q:=by have:(d.M.ps.set i (p.setOut j b))[i]?=some q:=hq;rw[j8 hp]at this;injection this
     have e2:s.outSet j a=t:=by have:(d.P.set i (s.outSet j a))[i]?=some t:=ht;rw[j8 hs]at this;injection this
     subst e1 e2;exact hpt p s hp hs
   . exact hpt q t (by have:(d.M.ps.set i (p.setOut j b))[i']?=some q:=hq;rwa [D6 e]at this) (by have:(d.P.set i (s.outSet j a))[i']?=some t:=ht;rwa [D6 e]at this)
  | out i' j'=>
   intro q t b' a' hq ht hb' ha';by_cases e:i=i'
   .
    subst e;have e1:p.setOut j b=q:=by have:(d.M.ps.set i (p.setOut j b))[i]?=some q:=hq;rw[j8 hp]at this;injection this
    have e2:s.outSet j a=t:=by have:(d.P.set i (s.outSet j a))[i]?=some t:=ht;rw[j8 hs]at this;injection this
    subst e1 e2;by_cases ej:j=j'
    . subst ej;have e3:b=b':=by have:(p.out.set j b)[j]?=some b':=hb';rw[j8 hb0]at this;injection this
      have e4:a=a':=by have:(s.os.set j a)[j]?=some a':=ha';rw[j8 (gEl (by rw[hl2];exact hjl))]at this;injection this
      subst e3 e4;exact ha
    . exact hpt p s b' a' hp hs (by have:(p.out.set j b)[j']?=some b':=hb';rwa [D6 ej]at this) (by have:(s.os.set j a)[j']?=some a':=ha';rwa [D6 ej]at this)
   . exact hpt q t b' a' (by have:(d.M.ps.set i (p.setOut j b))[i']?=some q:=hq;rwa [D6 e]at this) (by have:(d.P.set i (s.outSet j a))[i']?=some t:=ht;rwa [D6 e]at this) hb' ha'
  | got i' k=>
   intro q t b' a' hq ht hb' ha';by_cases e:i=i'
   . subst e;have e1:p.setOut j b=q:=by have:(d.M.ps.set i (p.setOut j b))[i]?=some q:=hq;rw[j8 hp]at this;injection this
     have e2:s.outSet j a=t:=by have:(d.P.set i (s.outSet j a))[i]?=some t:=ht;rw[j8 hs]at this;injection this
     subst e1 e2;exact hpt p s b' a' hp hs hb' ha'
   . exact hpt q t b' a' (by have:(d.M.ps.set i (p.setOut j b))[i']?=some q:=hq;rwa [D6 e]at this) (by have:(d.P.set i (s.outSet j a))[i']?=some t:=ht;rwa [D6 e]at this) hb' ha'
  | box=>exact hpt
  | pipes=>exact hpt
  | pipe q=>exact hpt
  | sunk=>exact hpt
  | aux=>exact hpt
 .
  intro q t hq ht;have e1:p.setOut j b=q:=by have:(d.M.ps.set i (p.setOut j b))[i]?=some q:=hq;rw[j8 hp]at this;injection this
  have e2:s.outSet j a=t:=by have:(d.P.set i (s.outSet j a))[i]?=some t:=ht;rw[j8 hs]at this;injection this
  subst e1 e2;obtain⟨h1,h2⟩:=h.part (.outs i) p s hp hs;refine⟨?_,h2⟩;rw[hv]at h1;have k0:=O6 h1 j qO (sl b a);rw[aB8]at k0;show World.ownsRow _ D 28 1 s.ov (p.out.set j b).length (L6 (p.out.set j b) (s.os.set j a));rw[List.length_set,hv];exact k0
theorem RMem.setSunk(h:RMem w D r O A d){b:qU}{a:Sl}(ha:SOf w O .sunk a b):RMem (w.setCell ⟨r,4,none⟩ (sl b a)) D r O A (d.setSunk b a):=by
 have hbx:=h.part .box;refine h.upd (o:=.box) ((Touch.refl O .box w).set hbx.2) (fun _ _=>rfl) (ai9 h (by simp)) rfl rfl rfl rfl h.xlen h.plen h.slen ?_ ?_
 .
  intro o' ho' hpt
  cases o' using Own.elimE with
  | box=>exact absurd rfl ho'
  | sunk=>exact .inl ha
  | pipes=>exact hpt
  | procs=>exact hpt
  | gots i=>exact hpt
  | outs i=>exact hpt
  | pipe q=>exact hpt
  | got i j=>exact hpt
  | out i j=>exact hpt
  | aux=>exact hpt
 .
  refine⟨?_,hbx.2⟩;have hb1:=hbx.1;show _=some (ax8 (d.setSunk b a));unfold ax8 at hb1 ⊢;show _=some (match d.vM with | .bool _=>Obj.cells #[d.vN,d.vF,d.vX,d.vP,sl b a] 30 (0,0) | _=>Obj.cells #[d.vN,d.vF,d.vX,d.vP,sl b a,d.vI,d.vM] 71 (0,0));split at hb1
  next _ b' hv=>rw[zH w r 4 _ _ (0,0) _ hb1,setRow_heap w r _ _ _ _ hb1];first|rfl | (rw[hv];rfl)
  next _ hv=>rw[zH w r 4 _ _ (0,0) _ hb1,setRow_heap w r _ _ _ _ hb1];first|rfl | (split <;> first|rfl | (rename_i b' h';exact absurd h' (fun e=>hv b' e)))
structure Ext (O O':qW) (o:Own) (w w':World):Prop where
 old:∀k,k<w.heap.size->O' k=O k
 new:∀g o',O' g=some o'->w.heap.size<=g->g<w'.heap.size
theorem src_of{tx:TypeId}(hk:prog.underlying tx=some (.slice 5)){ax:Option Addr}{cx:Nat}{c:qU}(hr:Reads w (.slice ax c.length cx) c.length (c.map U)):Src prog 1 tx (.slice ax c.length cx) c.length (c.map U) w:=by
 obtain⟨h1,ao,cap,e,h2,h3,h4⟩:=hr;injection e with e1 e2 e3;subst e1 e3
 cases hc:c with
 | nil=>
  cases ax with
  | none=>exact Src.ofNil w hk cx
  | some a=>exact Src.ofSlice w hk a 0 cx [] rfl (fun j u h=>by simp at h) (fun u h=>by cases h)
 | cons x l=>obtain⟨b,off,rfl,Ac⟩:=h4 (by rw[hc];simp);rw[<- hc];refine Src.ofSlice w hk ⟨b,off,none⟩ c.length cx (c.map U) (by simp) (fun j u hj=>?_) aI5;rw[addP];exact Ac j u hj
theorem bj6{s:Sl}{b:qU}{o:Own}(h:SOf w O o s b):(Builtin.firstCells 1 b.length (sl b s)).run prog w.drew=.ok (b.map U).toArray w.drew:=by
 have hr:=h.reads;obtain⟨h1,ao,cap,e,h2,h3,h4⟩:=hr;unfold sl at e ⊢;injection e with e1 e2 e3
 cases hb:b with
 | nil=>
  cases hs:s.1 with
  | none=>exact run_firstCells_none w.drew 1 0 0 s.2
  | some a=>exact run_firstCells_some w.drew 1 0 a 0 s.2 [] rfl (fun j v h=>by simp at h)
 | cons x l=>obtain⟨g,off,e4,hc⟩:=h4 (by rw[hb];simp);rw[<- hb];rw[e1,e4];refine run_firstCells_some w.drew 1 b.length ⟨g,off,none⟩ b.length s.2 (b.map U) (by simp) (fun j u hj=>?_);rw[addP];have:=hc j u hj;simpa using this
theorem aj0{g:Nat}{t:TypeId}:∀(vs:List Value)(o:Nat)(w:World)(cur:Array Value),w.heap[g]?=some (.cells cur t (0,0))->o+vs.length<=cur.size ->
 ∃cur',(w.setCells g o vs).heap[g]?=some (.cells cur' t (0,0))/\cur'.size=cur.size/\∀j,cur'[j]?=if o<=j/\j<o+vs.length then vs[j-o]? else cur[j]?
 | [],o,w,cur,h,_=>⟨cur,h,rfl,fun j=>by rw[qB (by simp)]⟩
 | v::vs,o,w,cur,h,hl=>by
  simp only[ql]at hl
  have h1:(w.setCell ⟨g,o,none⟩ v).heap[g]?=some (.cells (cur.setIfInBounds o v) t (0,0)):=by
   rw[zH w g o cur t (0,0) v h]
   exact setRow_heap w g cur _ t _ h
  obtain⟨cur',h2,h3,h4⟩:=aj0 vs (o+1) (w.setCell ⟨g,o,none⟩ v) _ h1 (by simp;omega)
  refine⟨cur',h2,by simpa using h3,fun j=>?_⟩
  rw[h4 j]
  by_cases hj:o<=j/\j<o+(v::vs).length
  .
   rw[qF hj]
   simp only[ql]at hj
   by_cases e:j=o
   . subst e
     rw[qB qO,Array.getElem?_setIfInBounds,qF rfl,qF qO]
     simp
   . rw[qF qO,show j-o=(j-(o+1))+1 by omega,xO]
  . rw[qB hj]
    simp only[ql]at hj
    rw[qB qO,Array.getElem?_setIfInBounds,qB qO]
theorem ac8(g:Nat):∀(vs:List Value)(o:Nat)(w:World),(w.setCells g o vs).tape=w.tape
 | [],_,_=>rfl
 | v::vs,o,w=>(ac8 g vs (o+1) (w.setCell ⟨g,o,none⟩ v)).trans rfl
theorem aj1{xs:List Value}{off n:Nat}{ys:List Value}(hn:ys.length=n)(h:∀j,j<n->xs[off+j]?=ys[j]?):(xs.drop off).take n=ys:=by
 apply xq;intro j;rw[xg];by_cases hj:j<n
 . rw[qF hj,xu];exact h j hj
 . rw[qB hj,zN qO]
theorem ba8{xs:List Value}{off n:Nat}{ys:List Value}(h:(xs.drop off).take n=ys){j:Nat}(hj:j<n):xs[off+j]?=ys[j]?:=by rw[<- h,xg,qF hj,xu]
theorem aJ2{s:Sl}{b c:qU}{o:Own}(h:SOf w O o s b)(hlo:∀g o,O g=some o->g<w.heap.size)(ty:TypeId)(ht:prog.underlying 28 = some (.slice 5)){ax:Option Addr}{cx:Nat}(hr:Reads w (.slice ax c.length cx) c.length (c.map U))(hl:b.length+c.length<=140737488355328):
 ∃s' w' O',(Builtin.append_ #[28,28] ty #[sl b s,.slice ax c.length cx]).run prog w=.ok (sl (b++c) s') w'/\Ext O O' o w w'/\Touch O o w w'/\SOf w' O' o s' (b++c)/\SOf w' O' o s b:=by
 obtain⟨i0,hi,hi0,hi1,hi2⟩:=info_parts ba3;have Jm:=src_of (tx:=28) ht hr;have hle:b.length<=s.2:=by obtain⟨_,ao,cap,e,h2,_,_⟩:=h.reads;unfold sl at e;injection e with e1 e2 e3;omega
 by_cases h0:c=[]
 .
  subst h0;refine⟨s,w,O,?_,⟨fun _ _=>rfl,fun g o' hg hge=>?_⟩,Touch.refl _ _ _,by rw[xz];exact h,h⟩
  . have:=run_append_nothing (P:=prog) w 28 28 ty 5 i0 ht hi s.1 b.length s.2 hle (.slice ax 0 cx) (by rw[hi1];exact Jm);rw[xz];exact this
  . exact absurd (hlo g o' hg) qO
 .
  have hc0:0<c.length:=xj.2 h0;by_cases Nk:b.length+c.length<=s.2
  .
   rcases id h with⟨rfl,rfl⟩|⟨g,off,cur,hs,ho,hg,h1,h2,h3,h4⟩
   . have:nilS.2=0:=rfl;omega
   .
    have hgl:g<w.heap.size:=(aSm hg).1;obtain⟨cur',hg',Jn,Jo⟩:=aj0 (c.map U) (off+b.length*1) w cur hg (by rw[qS];omega)
    have Ae:=run_append_room_src (P:=prog) w 28 28 ty 5 i0 ht hi g off b.length s.2 (.slice ax c.length cx) c.length (c.map U) (by rw[hi1];exact Jm) Nk (fun j hj=>by
     rw[hi1,qY _ _ _ _ _ _ hg,qS]at *
     rw[zT qO]
     rfl) (fun j hj=>xW _ _ _ _ _ hg)
    rw[hi1]at Ae;have hT:Touch O o w (w.setCells g (off+b.length*1) (c.map U)):=by have hk:=World.keptBut_setCells g (may:=fun p=>p.block=g) (c.map U) (off+b.length*1) w (fun _ _=>rfl);refine⟨World.os_setCells _ _ _ _,ac8 _ _ _ _,World.output_setCells _ _ _ _,hk.size,fun k hk2 hn=>World.heap_setCells_other w g _ _ hk2 (fun e=>hn (by rw[e];exact ho))⟩
    have hold:∀j,j<b.length->cur'.toList[off+j]?=(b.map U)[j]?:=by intro j hj;rw[xH,Jo,qB qO,<- xH];exact ba8 h4 hj
    refine⟨s,_,O,?_,⟨fun _ _=>rfl,fun g' o' hg' hge=>absurd (hlo g' o' hg') qO⟩,hT,.inr ⟨g,off,cur',hs,ho,hg',?_,h2,qO,?_⟩,.inr ⟨g,off,cur',hs,ho,hg',h1,h2,qO,?_⟩⟩
    . unfold sl;rw[hs,qI];exact Ae
    . rw[qI];exact Nk
    . refine aj1 (by simp) (fun j hj=>?_);rw[qI]at hj;rw[xF];by_cases hjb:j<b.length
      . rw[xJ (by rw[qS];exact hjb)];exact hold j hjb
      . rw[qu (by rw[qS];omega),xH,Jo,qF (by rw[qS];omega),qS];rw[show off+j-(off+b.length*1)=j-b.length by omega]
    . exact aj1 (by simp) hold
  .
   have Ae:=run_append_grow_src (P:=prog) w 28 28 ty 5 i0 (.int .u8 0) ht hi hi0 s.1 b.length s.2 (b.map U) (by rw[hi1];exact bj6 h) (.slice ax c.length cx) c.length (c.map U) (by rw[hi1];exact Jm) qO qO (growslice_fits qO (by rw[hi2];omega));have hge:=grownCap_ge w (b.length+c.length) s.2 5;have hcm:grownCap w (b.length+c.length) s.2 5 <= maxLen:=grownCap_le_maxLen w (b.length+c.length) s.2 5 (by unfold maxLen;omega);generalize grownCap w (b.length+c.length) s.2 5 = GC at *;obtain⟨cur,Jp⟩:=qE (((b.map U++c.map U).toArray++Builtin.zeroCells (Value.int .u8 0).cells (GC-(b.length+c.length))));rw[<- Jp]at Ae;have Bi:(w.drew.alloc (.cells cur 5)).heap[w.heap.size]?=some (.cells cur 5 (0,0)):=qJ w.drew _;have Aa:Bq w (w.drew.alloc (.cells cur 5)):=((Below.refl _ w).drew).alloc (qA _) _;have hEq:∀k,k<w.heap.size->(if k=w.heap.size then some o else O k)=O k:=fun k hk=>by rw[qB qO]
   refine⟨(some ⟨w.heap.size,0,none⟩,GC),_,fun k=>if k=w.heap.size then some o else O k,?_,⟨hEq,fun g' o' hg' hge2=>?_⟩,Touch.of_below Aa,.inr ⟨w.heap.size,0,cur,rfl,by simp,Bi,by rw[qI];exact hge,hcm,?_,?_⟩,h.keep (fun k hk=>Aa.block k (hlo k o hk)) hEq⟩
   . unfold sl;rw[qI];exact Ae
   . by_cases e:g'=w.heap.size
     . subst e;exact (aSm Bi).1
     . rw[qB e]at hg';exact absurd (hlo g' o' hg') qO
   . rw[Jp,Array.size_append,size_zeroCells];simp[Value.cells];omega
   . rw[Jp,List.drop_zero,Array.toList_append];simp only;rw[<- xF,zd (by simp)];rw[qP (by simp)]
theorem RMem.append(h:RMem w D r O A d){o:Own}{s:Sl}{b c:qU}(hS:SOf w O o s b)(Ya:∀w1 O1,SOf w1 O1 o s b->Part w1 D r O1 A d o){ax:Option Addr}{cx:Nat}(hr:Reads w (.slice ax c.length cx) c.length (c.map U))(hl:b.length+c.length<=140737488355328)(ty:TypeId):
 ∃s' w' O',(Builtin.append_ #[28,28] ty #[sl b s,.slice ax c.length cx]).run prog w=.ok (sl (b++c) s') w'/\RMem w' D r O' A d/\SOf w' O' o s' (b++c)/\Touch O o w w'/\(∀k,k<w.heap.size->O' k=O k):=by
 obtain⟨s',w',O',Ae,he,ht,h1,h2⟩:=aJ2 hS (fun g o hg=>(h.lo g o hg).2) ty underlying28 hr hl;refine⟨s',w',O',Ae,h.upd ht he.old (fun g o' hg=>?_) rfl rfl rfl rfl h.xlen h.plen h.slen (fun _ _ hp=>hp) (Ya w' O' h2),h1,ht,he.old⟩;by_cases hgl:g<w.heap.size
 . have:=h.lo g o' (by rw[<- he.old g hgl];exact hg);have:=ht.size;omega
 . have:=he.new g o' hg qO;have:=h.le;omega
theorem RMem.appendGot(h:RMem w D r O A d){i j:Nat}{p:SProc}{s:PSlot}{b c:qU}{a:Sl}(hp:d.M.ps[i]?=some p)(hs:d.P[i]?=some s)(hb:p.got[j]?=some b)(ha:s.gs[j]?=some a){ax:Option Addr}{cx:Nat}(hr:Reads w (.slice ax c.length cx) c.length (c.map U))(hl:b.length+c.length<=140737488355328)(ty:TypeId):
 ∃s' w' O',(Builtin.append_ #[28,28] ty #[sl b a,.slice ax c.length cx]).run prog w=.ok (sl (b++c) s') w'/\RMem w' D r O' A d/\SOf w' O' (.got i j) s' (b++c)/\Touch O (.got i j) w w'/\(∀k,k<w.heap.size->O' k=O k):=
 h.append (h.part (.got i j) p s b a hp hs hb ha) (fun w1 O1 h1 p' s' b' a' hp' hs' hb' ha'=>by
  rw[hp]at hp';injection hp' with e1;subst e1
  rw[hs]at hs';injection hs' with e2;subst e2
  rw[hb]at hb';injection hb' with e3;subst e3
  rw[ha]at ha';injection ha' with e4;subst e4
  exact h1) hr hl ty
theorem RMem.appendOut(h:RMem w D r O A d){i j:Nat}{p:SProc}{s:PSlot}{b c:qU}{a:Sl}(hp:d.M.ps[i]?=some p)(hs:d.P[i]?=some s)(hb:p.out[j]?=some b)(ha:s.os[j]?=some a){ax:Option Addr}{cx:Nat}(hr:Reads w (.slice ax c.length cx) c.length (c.map U))(hl:b.length+c.length<=140737488355328)(ty:TypeId):
 ∃s' w' O',(Builtin.append_ #[28,28] ty #[sl b a,.slice ax c.length cx]).run prog w=.ok (sl (b++c) s') w'/\RMem w' D r O' A d/\SOf w' O' (.out i j) s' (b++c)/\Touch O (.out i j) w w'/\(∀k,k<w.heap.size->O' k=O k):=
 h.append (h.part (.out i j) p s b a hp hs hb ha) (fun w1 O1 h1 p' s' b' a' hp' hs' hb' ha'=>by
  rw[hp]at hp';injection hp' with e1;subst e1
  rw[hs]at hs';injection hs' with e2;subst e2
  rw[hb]at hb';injection hb' with e3;subst e3
  rw[ha]at ha';injection ha' with e4;subst e4
  exact h1) hr hl ty
theorem RMem.appendSunk(h:RMem w D r O A d)(hS:SOf w O .sunk d.sS d.M.sunk){c:qU}{ax:Option Addr}{cx:Nat}(hr:Reads w (.slice ax c.length cx) c.length (c.map U))(hl:d.M.sunk.length+c.length<=140737488355328)(ty:TypeId):
 ∃s' w' O',(Builtin.append_ #[28,28] ty #[sl d.M.sunk d.sS,.slice ax c.length cx]).run prog w=.ok (sl (d.M.sunk++c) s') w'/\RMem w' D r O' A d/\SOf w' O' .sunk s' (d.M.sunk++c)/\Touch O .sunk w w'/\(∀k,k<w.heap.size->O' k=O k):=
 h.append hS (fun w1 O1 h1=>.inl h1) hr hl ty
end
end Go.Proofs.YtmejdflmcikkdaaGreatDoor
namespace Go.Proofs.YtmejdflmcikkdaaGreatDoor
open Go.RowKit Go.Gs Go.Maps Go.ChangeShapes Go.WideShapes Tryz
variable {p q:Int × Int}
theorem aJ3:(match prog.underlying 74 with | some (.array _ _) | some (.struct _)=>true | _=>false)=true:=by rw[underlying74]
theorem bZ8:prog.keyTypeAt 2 74 = true:=qQ
theorem aU3:prog.tiled 2 74 = true:=qQ
theorem bZ9:Go.WideMaps.KeyLaw prog 74:=deep_law (m:=2) qO bZ8 aU3 aJ3
theorem J5:Keyed prog 74:=Keyed.of_law bZ9
theorem bS0:prog.keyTypeAt (prog.types.size+1) 74 = true:=qQ
theorem aU4:prog.cellsOf 74 = 2:=qQ
def ah3(p:Int × Int):Value:=.agg #[.int .i64 p.1,.int .i64 p.2]
theorem bv1(p:Int × Int):(ah3 p).formed prog 74 = true:=by simp[ah3,Value.formed,underlying74,aU4]
def WfP(p:Int × Int):Prop:=(Lit.int .i64 p.1).wf=true/\(Lit.int .i64 p.2).wf=true
theorem intCells:prog.cellsOf 3 = 1:=qQ
theorem bG8(w:World)(p:Int × Int)(h:WfP p):DataW.Trod (H:=Unit) (fun _=>()) prog w 0 (fun _=>true) false 74 (ah3 p) (.agg [.lit (.int .i64 p.1),.lit (.int .i64 p.2)]) []:=by
 refine⟨2,?_⟩
 have:=trod_struct2_mk (H:=Unit) (enc:=fun _=>()) (P:=prog) (w:=w) (base:=0) (spare:=fun _=>true) (held:=false) (n:=1) (cs:=[.int .i64 p.1,.int .i64 p.2]) (y0:=(.lit (.int .i64 p.1),[])) (y1:=(.lit (.int .i64 p.2),[])) underlying74 (by rw[aU4];rfl)
  (by simp only[intCells];exact trod_int_mk 0 underlying3 h.1) (by simp only[intCells];exact trod_int_mk 0 underlying3 h.2)
 simpa[ah3,Value.cells]using this
def ae4(p:Int × Int):Lit:=(DataW.agg [.lit (.int .i64 p.1),.lit (.int .i64 p.2)]:DataW Unit).asKey
theorem V9(w:World)(p:Int × Int)(h:WfP p):keyOf prog 74 (ah3 p)=some (ae4 p):=(keyOf_asKey bS0 aJ3 (bv1 p) (bG8 w p h)).1
theorem aB9(w:World)(hp:WfP p)(hq:WfP q)(h:ae4 p=ae4 q):p=q:=by have h1:=V9 w p hp;have h2:=V9 w q hq;rw[<- h]at h2;have:=keyOf_inj_deep aU3 aJ3 h1 h2;simp only[ah3,Value.agg.injEq,Array.mk.injEq,List.cons.injEq,Value.int.injEq,true_and,and_true]at this;exact Prod.ext this.1 this.2
theorem aU5(w:World)(p:Int × Int)(h:WfP p):WideAt.IsKeyLit (ae4 p):=J5.key (V9 w p h)
def K3(w:World)(R:Value->Option (DataW Unit × List MemPlace))(b n:Nat)(t:List (Int × Int)):Prop:=
 ∃D:DataW Unit,w.ownsMap prog 74 R b n D/\(∀p,WfP p->Go.Maps.has D (ae4 p)=decide (p∈t))/\Go.Maps.size D=t.length/\∀p∈t,WfP p
end Go.Proofs.YtmejdflmcikkdaaGreatDoor
namespace Go.Gs
open Go.RowKit
theorem aU6(n:Nat)(h:n<=999999999):(Lib.itoa (n:Int)).length<=9:=by unfold Lib.itoa;rw[qB qO];exact aR7 8 _ (by simp;omega)
theorem ah4(c:Cmd)(h:chk c=0)(ls:qL)(hl:ls.length<=999999999):(ended (made c ls)).length<=(ended ls).length+10:=by
 have hk:=aB7 c h;by_cases e8:c.kind=8
 . rw[bR5 c e8];have:=aU6 ls.length hl;simp[ended];omega
 have:c.kind=1\/c.kind=2\/c.kind=3\/c.kind=4\/c.kind=5\/c.kind=6\/c.kind=7\/c.kind=9\/c.kind=10:=qO;rcases this with e | e | e | e | e | e | e | e | e
 . rw[made1 c e];have:=K8 (List.filter_sublist (p:=fun s=>Lib.contains s c.word) (l:=ls));omega
 . rw[made2 c e];have:=K8 (List.filter_sublist (p:=fun s=>!Lib.contains s c.word) (l:=ls));omega
 . rw[made3 c e];have:=O8 (P2 (c.word.getD 0 0) (c.word.getD 1 0)) (fun s=>by simp[P2]) ls;omega
 . rw[bD7 c e];have:=O8 (H6 c.n) (aD9 c.n) ls;omega
 . rw[bD8 c e];have:=O8 List.reverse (fun s=>by simp) ls;omega
 . rw[aI8 c e];have:=al8 (aa6 ls);omega
 . rw[bR4 c e];have:=K8 (bj0 ls);omega
 . rw[bR6 c e];have:=K8 (List.take_sublist c.n.toNat ls);omega
 . rw[bt5 c e];have:=K8 (List.drop_sublist (ls.length-c.n.toNat) ls);omega
theorem U8(how:Int)(c:Cmd)(hc:how=4->chk c=0)(ps:List qL)(hl:ps.flatten.length<=999999999)(h5:ps.length<=5):(ended (joined how c ps)).length<=(ended ps.flatten).length+10:=by
 unfold joined;split
 . have:=al8 (ba5 ps);omega
 .
  split
  . have h1:=bj2 ps;have h2:=aU6 (sumOf ps) qO;simp[ended];omega
  . split
    . rename_i h4;have:=ah4 c (hc h4) ps.flatten hl;omega
    . omega
theorem bv2(ls:qL)(p:Nat):∀m,m<=p->(((List.range m).map (fun k=>ended ((ls.take ((k+1)*ls.length / p)).drop (k*ls.length / p)))).flatten)=ended (ls.take (m*ls.length / p)):=by
 intro m
 induction m with
 | zero=>intro _;simp[ended]
 | succ m ih=>intro h;have hle:m*ls.length / p<=(m+1)*ls.length / p:=Nat.div_le_div_right (ze _ qO);rw[List.range_succ,xF,zt,ih qO];simp only[xy,List.map_nil,xC,List.flatten_nil,xz];rw[<- R9];congr 1;have e:=xU (m*ls.length / p) (ls.take ((m+1)*ls.length / p));rw[List.take_take,zA hle]at e;exact e
theorem bj7(bs:qU)(p:Nat)(hp:0<p):((List.range p).map (partOf bs p)).flatten=ended (lines bs):=by have:=bv2 (lines bs) p p (qA _);rw[Nat.mul_div_cancel_left _ hp,qj]at this;exact this
theorem L2{n:SNode}(h:q9 n=0):A7 n=0/\S1 n.kind n.ins.length=true/\Z0 n=false:=by
 unfold q9 at h;by_cases h0:A7 n=0
 .
  rw[qB (by simp[h0])]at h;by_cases h1:(!S1 n.kind n.ins.length || Z0 n)=true
  . rw[qF h1]at h;cases h
  . simp at h1;exact⟨h0,h1.1,h1.2⟩
 . rw[qF h0]at h;exact absurd h h0
theorem N9{n:SNode}(h:A7 n=0):((n.kind=1\/n.kind=5)/\isWord n.file=true)\/(n.kind=2/\1<=n.wide/\n.wide<=5)\/(n.kind=3/\chk n.c=0)\/(n.kind=4/\jchk n.how n.c=0):=by
 unfold A7 at h;by_cases h1:n.kind=1\/n.kind=5
 . rw[qF h1]at h
   cases hw:isWord n.file with
   | true=>exact .inl ⟨h1,rfl⟩
   | false=>rw[hw]at h;cases h
 .
  rw[qB h1]at h;by_cases h2:n.kind=2
  . rw[qF h2]at h;by_cases hr:n.wide<1\/5<n.wide
    . rw[qF hr]at h;cases h
    . exact .inr (.inl ⟨h2,qO,qO⟩)
  .
   rw[qB h2]at h;by_cases h3:n.kind=3
   . rw[qF h3]at h;exact .inr (.inr (.inl ⟨h3,h⟩))
   . rw[qB h3]at h;by_cases h4:n.kind=4
     . rw[qF h4]at h;exact .inr (.inr (.inr ⟨h4,h⟩))
     . rw[qB h4]at h;cases h
theorem aJ4(a:qU):([a]:qL).flatten.length=a.length:=by simp
theorem aj2{n:SNode}(h:q9 n=0)(fs:List SFile)(hf:∀f∈fs,f.b.length<=4000)(ins:qL)(hi:ins.length=n.ins.length)(hl:ins.flatten.length<=225000000):
 (j6 n fs ins).flatten.length<=ins.flatten.length+4020:=by
 obtain⟨h1,h2,_⟩:=L2 h;unfold j6;rcases N9 h1 with⟨h3 | h3,_⟩|⟨h3,h4,h5⟩|⟨h3,h4⟩|⟨h3,h4⟩
 .
  rw[qF h3];have e1:=E8 (E0 fs n.file);have e2:(E0 fs n.file).length<=4000:=by
   unfold E0
   cases hq:fs.find? (fun f=>f.name==n.file) with
   | none=>simp
   | some f=>exact hf f (List.mem_of_find?_eq_some hq)
  rw[aJ4];omega
 . rw[qB qO,qB qO,qB qO,qB qO];simp
 .
  rw[qB qO,qF h3,bj7 _ _ qO];have e1:=E8 (ins.head?.getD []);have e2:(ins.head?.getD []).length<=ins.flatten.length:=by
   cases ins with
   | nil=>simp
   | cons a r=>simp
  omega
 .
  rw[qB qO,qB qO,qF h3];have e1:=E8 (ins.head?.getD []);have e2:(ins.head?.getD []).length<=ins.flatten.length:=by
   cases ins with
   | nil=>simp
   | cons a r=>simp
  have e3:=ah4 n.c h4 (lines (ins.head?.getD [])) (by have:=E6 (ins.head?.getD []);omega);rw[aJ4];omega
 . rw[qB qO,qB qO,qB qO,qF h3];have h5:ins.length<=5:=by rw[hi];unfold S1 at h2;rw[qB qO,qF h3]at h2;exact (qp h2).2
   have e1:=U8 n.how n.c (aJ1 h4) (ins.map lines) (by have:=F6 ins;omega) (by simpa using h5);have e2:=M6 ins;rw[aJ4];omega
theorem aq3(ahead:List SNode):∀(ps t:List (Int × Int)),(A4 ahead ps t).1=0->(A4 ahead ps t).2=t++ps/\(∀p∈ps,I1 ahead p=true/\p∉t)/\ps.Nodup
 | [],t,_=>by simp[A4]
 | p::r,t,h=>by
  unfold A4 at h ⊢;by_cases h1:I1 ahead p=false
  . rw[qF h1]at h;cases h
  .
   rw[qB h1]at h ⊢;by_cases h2:p∈t
   . rw[qF h2]at h;cases h
   .
    rw[qB h2]at h ⊢;obtain⟨e1,e2,e3⟩:=aq3 ahead r (t++[p]) h;refine⟨by rw[e1];simp,?_,?_⟩
    . intro q hq;rcases zD.1 hq with rfl | hq
      . exact⟨by simpa using h1,h2⟩
      . have:=e2 q hq;exact⟨this.1,fun hm=>this.2 (by simp[hm])⟩
    . rw[List.nodup_cons];exact⟨fun hm=>(e2 p hm).2 (by simp),e3⟩
theorem aJ5{ns:List SNode}{p:Int × Int}(h:I1 ns p=true):∃(i k:Nat)(n:SNode),p=(↑i,↑k)/\ns[i]?=some n/\(k:Int)<nouts n:=by
 unfold I1 at h;simp only[zX,zh]at h;obtain⟨⟨⟨h1,h2⟩,h3⟩,h4⟩:=h;refine⟨p.1.toNat,p.2.toNat,?_⟩
 cases hn:ns[p.1.toNat]? with
 | none=>rw[hn]at h4;cases h4
 | some n=>
  rw[hn]at h4;refine⟨n,Prod.ext (by simp;omega) (by simp;omega),rfl,?_⟩;have:p.2<nouts n:=by simpa using h4
  omega
theorem Q5{n:SNode}(h:q9 n=0)(fs:List SFile)(ins:qL):((j6 n fs ins).length:Int)=nouts n:=by
 obtain⟨h1,_,_⟩:=L2 h;unfold j6 nouts;rcases N9 h1 with⟨h3 | h3,_⟩|⟨h3,h4,h5⟩|⟨h3,h4⟩|⟨h3,h4⟩
 . rw[qF h3,qB qO,qB qO];rfl
 . rw[qB qO,qB qO,qB qO,qB qO,qB qO,qF h3];rfl
 . rw[qB qO,qF h3,qF h3];simp;omega
 . rw[qB qO,qB qO,qF h3,qB qO,qB qO];rfl
 . rw[qB qO,qB qO,qB qO,qF h3,qB qO,qB qO];rfl
theorem aJ6:∀(rest ahead:List SNode)(t:List (Int × Int)),(y9 ahead rest t).1=0->∀(k:Nat)(n:SNode),rest[k]?=some n ->
 ∃tk,y9 ahead rest t=y9 (ahead++rest.take k) (rest.drop k) tk/\q9 n=0/\(A4 (ahead++rest.take k) n.ins tk).1=0/\((rest.drop (k+1)).isEmpty=decide (n.kind=5))
 | [],_,_,_,k,n,hk=>by simp at hk
 | m::r,ahead,t,h,k,n,hk=>by
  have h0:=h
  unfold y9 at h
  by_cases h1:q9 m≠0
  . rw[qF h1]at h;exact absurd h h1
  .
   rw[qB h1]at h
   by_cases h2:(A4 ahead m.ins t).1≠0
   . rw[qF h2]at h;exact absurd h h2
   .
    rw[qB h2]at h
    by_cases h3:r.isEmpty≠decide (m.kind=5)
    . rw[qF h3]at h;cases h
    .
     rw[qB h3]at h
     cases k with
     | zero=>
      simp at hk
      subst hk
      exact⟨t,by simp,by simpa using h1,by simpa using h2,by simpa using h3⟩
     | succ k=>
      obtain⟨tk,e1,e2,e3,e4⟩:=aJ6 r (ahead++[m]) _ h k n (by simpa using hk)
      refine⟨tk,?_,e2,?_,by simpa using e4⟩
      . conv=>lhs;unfold y9
        rw[qB h1,qB h2,qB h3,e1]
        simp
      . simpa using e3
theorem aj3{ahead r:List SNode}{n:SNode}{t:List (Int × Int)}(h:(y9 ahead (n::r) t).1=0):
 q9 n=0/\(A4 ahead n.ins t).1=0/\(r.isEmpty=decide (n.kind=5))/\y9 ahead (n::r) t=y9 (ahead++[n]) r (A4 ahead n.ins t).2:=by
 have h0:=h;unfold y9 at h;by_cases h1:q9 n≠0
 . rw[qF h1]at h;exact absurd h h1
 .
  rw[qB h1]at h;by_cases h2:(A4 ahead n.ins t).1≠0
  . rw[qF h2]at h;exact absurd h h2
  .
   rw[qB h2]at h;by_cases h3:r.isEmpty≠decide (n.kind=5)
   . rw[qF h3]at h;cases h
   . refine⟨by simpa using h1,by simpa using h2,by simpa using h3,?_⟩;conv=>lhs;unfold y9
     rw[qB h1,qB h2,qB h3]
theorem aq4{ns:List SNode}{k:Nat}{n:SNode}(h:ns[k]?=some n):ns.drop k=n::ns.drop (k+1):=by obtain⟨hk,e⟩:=gSm h;rw[<- e,<- qt hk]
theorem ac3{ns:List SNode}{k:Nat}{n:SNode}(h:ns[k]?=some n):ns.take (k+1)=ns.take k++[n]:=by rw[qZ,h,zO]
theorem bG9{ns:List SNode}(h:gchk ns=0):ns.length<=60/\(y9 [] ns []).1=0/\0<ns.length/\((y9 [] ns []).2.length:Int)=N3 ns:=by
 unfold gchk at h;by_cases h1:60<ns.length
 . rw[qF h1]at h;cases h
 .
  rw[qB h1]at h;by_cases h2:(y9 [] ns []).1≠0
  . rw[qF h2]at h;exact absurd h h2
  . rw[qB h2]at h;by_cases h3:ns.length=0\/((y9 [] ns []).2.length:Int)≠N3 ns
    . rw[qF h3]at h;cases h
    . refine⟨qO,by simpa using h2,qO,?_⟩;exact Decidable.byContradiction fun hc=>h3 (.inr hc)
theorem A1{n:SNode}(h:q9 n=0):n.ins.length<=5/\(n.kind=2\/n.kind=3\/n.kind=5->n.ins.length=1):=by
 obtain⟨h1,h2,_⟩:=L2 h;unfold S1 at h2;by_cases g1:n.kind=1
 . rw[qF g1]at h2;have:=qp h2;exact⟨qO,qO⟩
 . rw[qB g1]at h2;by_cases g4:n.kind=4
   . rw[qF g4]at h2;exact⟨(qp h2).2,qO⟩
   . rw[qB g4]at h2;have:=qp h2;exact⟨qO,fun _=>this⟩
theorem aH5{α:Type}[DecidableEq α]:∀(t P:List α),t.Nodup->(∀x∈t,x∈P)->t.length<=P.length
 | [],P,_,_=>qM _
 | x::r,P,hn,hs=>by
  rw[List.nodup_cons]at hn;have hx:x∈P:=hs x (by simp)
  have ih:=aH5 r (P.erase x) hn.2 (fun y hy=>by
   have hne:y≠x:=fun e=>hn.1 (e ▸ hy)
   exact (List.mem_erase_of_ne hne).2 (hs y (by simp[hy])))
  rw[List.length_erase_of_mem hx]at ih;have:0<P.length:=List.length_pos_of_mem hx;simp;omega
theorem bS1{α:Type}[DecidableEq α]{t P:List α}(ht:t.Nodup)(hP:P.Nodup)(hs:∀x∈t,x∈P):t.length=P.length ↔ ∀x∈P,x∈t:=by
 constructor
 . intro h x hx;exact Decidable.byContradiction fun hc=>by have:=aH5 (x::t) P (List.nodup_cons.2 ⟨hc,ht⟩) (fun y hy=>by rcases zD.1 hy with rfl | hy;exact hx;exact hs y hy);simp at this;omega
 . intro h;have h1:=aH5 t P ht hs;have h2:=aH5 P t hP h;omega
def S4:Nat->List SNode->List (Int × Int)
 | _,[]=>[]
 | i,n::r=>(List.range (nouts n).toNat).map (fun(k:Nat)=>((i:Int),(k:Int)))++S4 (i+1) r
theorem U0:∀(ns:List SNode)(i:Nat)(p:Int × Int),p∈S4 i ns ↔ ∃(j k:Nat)(n:SNode),ns[j]?=some n/\(k:Int)<nouts n/\p=(((i+j:Nat):Int),(k:Int))
 | [],i,p=>by simp[S4]
 | m::r,i,p=>by
  unfold S4;rw[xY,U0 r (i+1) p];constructor
  . rintro (h | ⟨j,k,n,h1,h2,rfl⟩)
    . obtain⟨k,hk,rfl⟩:=xA.1 h;have:=zB.1 hk;exact⟨0,k,m,rfl,qO,by simp⟩
    . exact⟨j+1,k,n,by simpa using h1,h2,by congr 2;omega⟩
  .
   rintro⟨j,k,n,h1,h2,rfl⟩
   cases j with
   | zero=>left;simp at h1;subst h1;exact xA.2 ⟨k,zB.2 qO,by simp⟩
   | succ j=>exact .inr ⟨j,k,n,by simpa using h1,h2,by congr 2;omega⟩
theorem al3:∀(ns:List SNode)(i:Nat),(S4 i ns).Nodup
 | [],i=>List.nodup_nil
 | m::r,i=>by
  unfold S4;rw[List.nodup_append];refine⟨?_,al3 r (i+1),?_⟩
  . rw[List.nodup_iff_pairwise_ne,List.pairwise_map];refine List.Pairwise.imp ?_ (List.nodup_iff_pairwise_ne.1 List.nodup_range);intro a b hab e;injection e with _ e;exact hab qO
  . intro x hx y hy e;obtain⟨k,_,rfl⟩:=xA.1 hx;obtain⟨j,k2,n,_,_,rfl⟩:=(U0 r (i+1) y).1 hy;injection e with e _;omega
theorem as4:∀(ns:List SNode)(i:Nat),(∀n∈ns,0<=nouts n)->((S4 i ns).length:Int)=N3 ns
 | [],i,_=>rfl
 | m::r,i,h=>by unfold S4 N3;rw[qI,qS,List.length_range,xy,List.sum_cons];have ih:=as4 r (i+1) (fun n hn=>h n (by simp[hn]));unfold N3 at ih;have:=h m (by simp);omega
theorem aE0{a b:List SNode}{p:Int × Int}(h:I1 a p=true):I1 (a++b) p=true:=by obtain⟨i,k,n,rfl,hn,hk⟩:=aJ5 h;have hi:i<a.length:=(gSm hn).1;unfold I1;simp only[qh,xJ hi,hn,xG,zE,zX,zh];refine⟨⟨⟨qO,?_⟩,qO⟩,hk⟩;rw[qI];omega
theorem aC0:∀(rest ahead:List SNode)(t:List (Int × Int)),(y9 ahead rest t).1=0->t.Nodup->(∀p∈t,I1 ahead p=true)->(y9 ahead rest t).2.Nodup/\(∀p∈(y9 ahead rest t).2,I1 (ahead++rest) p=true)/\∀n∈rest,q9 n=0
 | [],ahead,t,_,h1,h2=>by refine⟨by simpa[y9]using h1,?_,by intro n hn;cases hn⟩;intro p hp;rw[xz];exact h2 p (by simpa[y9]using hp)
 | n::r,ahead,t,h,h1,h2=>by
  obtain⟨e1,e2,e3,e4⟩:=aj3 h;obtain⟨f1,f2,f3⟩:=aq3 _ _ _ e2;rw[e4,f1]at h ⊢
  obtain⟨g1,g2,g3⟩:=aC0 r (ahead++[n]) (t++n.ins) h (by
   rw[List.nodup_append]
   exact⟨h1,f3,fun x hx y hy e=>(f2 y hy).2 (e ▸ hx)⟩) (by
   intro p hp
   rcases xY.1 hp with hp | hp
   . exact aE0 (h2 p hp)
   . exact aE0 (f2 p hp).1)
  refine⟨g1,by simpa using g2,?_⟩;intro m hm;rcases zD.1 hm with rfl | hm
  . exact e1
  . exact g3 m hm
theorem aj6{n:SNode}(h:q9 n=0):0<=nouts n:=by have:=Q5 h [] [];omega
theorem aU7{ns:List SNode}{t:List (Int × Int)}(h:y9 [] ns []=(0,t)):(t.length:Int)=N3 ns ↔ ∀(i k:Nat)(n:SNode),ns[i]?=some n->(k:Int)<nouts n->((i:Int),(k:Int))∈t:=by
 obtain⟨g1,g2,g3⟩:=aC0 ns [] [] (by rw[h]) List.nodup_nil (by intro p hp;cases hp);rw[h]at g1 g2;simp only[zR]at g1 g2;have hl:=as4 ns 0 (fun n hn=>aj6 (g3 n hn));have Qr:∀p∈t,p∈S4 0 ns:=fun p hp=>by obtain⟨i,k,n,rfl,hn,hk⟩:=aJ5 (g2 p hp);exact (U0 ns 0 _).2 ⟨i,k,n,hn,hk,by simp⟩
 have key:=bS1 g1 (al3 ns 0) Qr;constructor
 . intro e i k n hn hk;exact key.1 qO _ ((U0 ns 0 _).2 ⟨i,k,n,hn,hk,by simp⟩)
 .
  intro e
  have:=key.2 (fun p hp=>by
   obtain⟨j,k,n,h1,h2,rfl⟩:=(U0 ns 0 p).1 hp
   simpa using e j k n h1 h2)
  omega
theorem U1(a b:List SNode):b8 (a++b)=b8 a++b8 b:=by simp[b8]
theorem aJ7(n:SNode):b8 [n]=n.ins:=by simp[b8]
theorem aE1:∀(rest ahead:List SNode)(t:List (Int × Int)),(y9 ahead rest t).1=0->y9 ahead rest t=(0,t++b8 rest)
 | [],ahead,t,h=>by simp[y9,b8]
 | n::r,ahead,t,h=>by obtain⟨e1,e2,e3,e4⟩:=aj3 h;obtain⟨f1,f2,f3⟩:=aq3 _ _ _ e2;rw[e4]at h ⊢;rw[aE1 r _ _ h,f1];simp[b8]
theorem ab7(ns:List SNode):f9 ns 0=0:=by simp[f9,b8]
theorem W7{ns:List SNode}{i:Nat}{n:SNode}(h:ns[i]?=some n):f9 ns (i+1)=f9 ns i+n.ins.length:=by unfold f9;rw[ac3 h,U1,aJ7,qI]
theorem aJ8{ns:List SNode}{i j:Nat}(h:i<=j):f9 ns i<=f9 ns j:=by unfold f9;obtain⟨d,rfl⟩:∃d,j=i+d:=⟨j-i,qO⟩;rw[List.take_add,U1,qI];omega
theorem ay0{ns:List SNode}{i j:Nat}{n:SNode}(h:ns[i]?=some n)(hij:i<j):f9 ns i+n.ins.length<=f9 ns j:=by rw[<- W7 h];exact aJ8 hij
theorem ae5{ns:List SNode}{i j a b:Nat}{n m:SNode}(hn:ns[i]?=some n)(hm:ns[j]?=some m)(ha:a<n.ins.length)(hb:b<m.ins.length)(e:f9 ns i+a=f9 ns j+b):i=j/\a=b:=by
 rcases Nat.lt_trichotomy i j with h | h | h
 . have:=ay0 hn h;omega
 . subst h;exact⟨rfl,qO⟩
 . have:=ay0 hm h;omega
theorem aq5{ns:List SNode}{i j:Nat}{n:SNode}(h:ns[i]?=some n)(hj:j<n.ins.length):(b8 ns)[f9 ns i+j]?=n.ins[j]?:=by
 have e:b8 ns=b8 (ns.take i)++(n.ins++b8 (ns.drop (i+1))):=by
  conv=>lhs;rw[show ns=ns.take i++ns.drop i from (xU i ns).symm,aq4 h]
  rw[U1,show n::ns.drop (i+1)=[n]++ns.drop (i+1) from rfl,U1,aJ7]
 unfold f9;rw[e,qu qO,show (b8 (ns.take i)).length+j-(b8 (ns.take i)).length=j by omega,xJ hj]
theorem Z3{ns:List SNode}{i j:Nat}{n:SNode}(h:ns[i]?=some n)(hj:j<n.ins.length):f9 ns i+j<(b8 ns).length:=by have:=aq5 h hj;rw[gEl hj]at this;exact (gSm this).1
theorem bv3:∀(ns:List SNode)(q:Nat),q<(b8 ns).length->∃i j n,ns[i]?=some n/\j<n.ins.length/\q=f9 ns i+j:=by
 intro ns q hq;have key:∀k,k<=ns.length->q<f9 ns k->∃i j n,ns[i]?=some n/\j<n.ins.length/\q=f9 ns i+j:=by
  intro k
  induction k with
  | zero=>intro _ h;rw[ab7]at h;omega
  | succ k ih=>
   intro hk h;obtain⟨n,hn⟩:∃n,ns[k]?=some n:=⟨_,gEl qO⟩;rw[W7 hn]at h;by_cases h2:q<f9 ns k
   . exact ih qO h2
   . exact⟨k,q-f9 ns k,n,hn,qO,qO⟩
 exact key ns.length (qA _) (by unfold f9;rw[qj];exact hq)
structure RightG (ns:List SNode):Prop where
 le60:ns.length<=60
 pos:0<ns.length
 node:∀n∈ns,q9 n=0
 nodup:(b8 ns).Nodup
 port:∀(i:Nat)(n:SNode),ns[i]?=some n->∀p∈n.ins,I1 (ns.take i) p=true
 every:∀(i k:Nat)(n:SNode),ns[i]?=some n->(k:Int)<nouts n->((i:Int),(k:Int))∈b8 ns
 sink:∀(i:Nat)(n:SNode),ns[i]?=some n->(n.kind=5 ↔ i+1=ns.length)
theorem am2:∀(rest ahead:List SNode)(t:List (Int × Int)),(y9 ahead rest t).1=0->∀(k:Nat)(n:SNode),rest[k]?=some n->(∀p∈n.ins,I1 (ahead++rest.take k) p=true)/\(n.kind=5 ↔ k+1=rest.length)
 | [],ahead,t,h,k,n,hn=>by simp at hn
 | m::r,ahead,t,h,0,n,hn=>by
  simp at hn;subst hn;obtain⟨e1,e2,e3,e4⟩:=aj3 h;obtain⟨f1,f2,f3⟩:=aq3 _ _ _ e2;refine⟨fun p hp=>by simpa using (f2 p hp).1,?_⟩;constructor
  . intro h5;rw[qV h5]at e3;rw[xl]at e3;rw[e3];rfl
  .
   intro hl;have:r=[]:=by
    cases r with
    | nil=>rfl
    | cons=>simp at hl
   rw[this]at e3;exact qp e3.symm
 | m::r,ahead,t,h,k+1,n,hn=>by obtain⟨e1,e2,e3,e4⟩:=aj3 h;rw[e4]at h;obtain⟨h1,h2⟩:=am2 r _ _ h k n (by simpa using hn);refine⟨fun p hp=>by simpa using h1 p hp,?_⟩;rw[h2];simp
theorem Q6{ns:List SNode}(h:gchk ns=0):RightG ns:=by
 obtain⟨h1,h2,h3,h4⟩:=bG9 h;have ht:=aE1 ns [] [] h2;rw[zR]at ht;obtain⟨a1,a2,a3⟩:=aC0 ns [] [] h2 (by simp) (by simp);rw[ht]at a1 h4;refine⟨h1,h3,a3,a1,fun i n hn p hp=>?_,(aU7 ht).1 h4,fun i n hn=>?_⟩
 . have:=(am2 ns [] [] h2 i n hn).1 p hp;simpa using this
 . exact (am2 ns [] [] h2 i n hn).2
theorem RightG.src{ns:List SNode}(g:RightG ns){r:Nat}{n:SNode}(hn:ns[r]?=some n){j:Nat}{p:Int × Int}(hp:n.ins[j]?=some p):
 ∃(i k:Nat)(m:SNode),p=((i:Int),(k:Int))/\i<r/\ns[i]?=some m/\(k:Int)<nouts m:=by obtain⟨i,k,m,e,hm,hk⟩:=aJ5 (g.port r n hn p (mGt hp));have hi:i<(ns.take r).length:=(gSm hm).1;rw[qX]at hi;refine⟨i,k,m,e,qO,?_,hk⟩;rwa [List.getElem?_take_of_lt qO]at hm
theorem RightG.into{ns:List SNode}(g:RightG ns){r j:Nat}{n:SNode}(hn:ns[r]?=some n){p:Int × Int}(hp:n.ins[j]?=some p):E9 ns p=f9 ns r+j:=by have hj:j<n.ins.length:=(gSm hp).1;have h1:=aq5 hn hj;rw[hp]at h1;obtain⟨hq,e⟩:=gSm h1;have:=g.nodup.idxOf_getElem _ hq;rw[e]at this;exact this
theorem RightG.reader{ns:List SNode}(g:RightG ns){i k:Nat}{m:SNode}(hm:ns[i]?=some m)(hk:(k:Int)<nouts m):
 ∃(r j:Nat)(n:SNode),ns[r]?=some n/\n.ins[j]?=some ((i:Int),(k:Int))/\i<r/\E9 ns ((i:Int),(k:Int))=f9 ns r+j/\f9 ns r+j<(b8 ns).length:=by obtain⟨q,hq⟩:=qw (g.every i k m hm hk);have hql:q<(b8 ns).length:=(gSm hq).1;obtain⟨r,j,n,hn,hj,rfl⟩:=bv3 ns q hql;rw[aq5 hn hj]at hq;obtain⟨i',k',m',e,hir,_,_⟩:=g.src hn hq;simp only[Prod.mk.injEq]at e;exact⟨r,j,n,hn,hq,qO,g.into hn hq,hql⟩
def Whol(b:qU):Prop:=ended (lines b)=b
theorem bS2:Whol []:=by simp[Whol,lines,A2,ended]
theorem Whol.last{b:qU}(h:Whol b)(hn:b≠[]):b.getLast hn=10:=by
 have h2:ended (lines b)≠[]:=by rw[h];exact hn
 have:=bt0 (lines b) h2;have e:(ended (lines b)).getLast h2=b.getLast hn:=by congr 1
 rw[<- e];exact this
theorem ag0:∀(b cur:qU),ended (A2 cur (b++[10]))=cur++b++[10]
 | [],cur=>by simp[A2,ended]
 | c::r,cur=>by
  rw[zY,A2];by_cases h:c=10
  . rw[qF h,F8,ag0 r []];simp[h]
  . rw[qB h,ag0 r];simp
theorem bH0(b:qU):Whol (b++[10]):=by have:=ag0 b [];simpa[Whol,lines]using this
theorem am3:∀(l:qU),l.dropWhile (fun c=>c != 10)=[]\/∃r,l.dropWhile (fun c=>c != 10)=10::r
 | []=>by simp
 | c::r=>by
  rw[List.dropWhile_cons];by_cases h:c=10
  . subst h;right;exact⟨r,by simp⟩
  . rw[qF (by simpa using h)];exact am3 r
theorem ay1:∀(l:qU),(10:UInt8)∉l.takeWhile (fun c=>c != 10)
 | []=>by simp
 | c::r=>by
  rw[List.takeWhile_cons];by_cases h:c=10
  . subst h;simp
  . rw[qF (by simpa using h)];have:=ay1 r;simp only[zD,not_or];exact⟨fun e=>h e.symm,this⟩
theorem aC1(b:qU):b.take (j3 b)=(b.reverse.dropWhile (fun c=>c != 10)).reverse/\b.drop (j3 b)=(b.reverse.takeWhile (fun c=>c != 10)).reverse:=by
 have e:b=(b.reverse.dropWhile (fun c=>c != 10)).reverse++(b.reverse.takeWhile (fun c=>c != 10)).reverse:=by rw[<- List.reverse_append,List.takeWhile_append_dropWhile,List.reverse_reverse]
 have hl:j3 b=(b.reverse.dropWhile (fun c=>c != 10)).reverse.length:=by simp[j3]
 constructor
 . conv=>lhs;rw[hl];arg 2;rw[e]
   exact List.take_left
 . conv=>lhs;rw[hl];arg 2;rw[e]
   exact List.drop_left
theorem aJ9(b:qU):Whol (b.take (j3 b)):=by
 rw[(aC1 b).1];rcases am3 b.reverse with h | ⟨r,h⟩
 . rw[h];exact bS2
 . rw[h,List.reverse_cons];exact bH0 _
theorem bS3(b:qU):(10:UInt8)∉b.drop (j3 b):=by rw[(aC1 b).2,List.mem_reverse];exact ay1 _
theorem bv4{b:qU}(h:(10:UInt8)∉b):j3 b=0:=by
 have:=(aC1 b).1;have hw:=aJ9 b;by_cases h0:b.take (j3 b)=[]
 . rw[List.take_eq_nil_iff]at h0;rcases h0 with h0 | h0
   . exact h0
   . rw[h0];rfl
 . have h1:=hw.last h0;exact absurd (List.mem_of_mem_take (h1 ▸ List.getLast_mem h0)) h
structure PipeOk (d e c:qU) (x:SPipe) (o:qU) (ovw rdr:Bool):Prop where
 good:pchk x=0
 closed:x.closed=ovw
 shut:x.shut=true->rdr=true
 flow:x.shut=false->e=c++x.b++o
 all:x.shut=false->rdr=true->c=d
structure WaitOk (n:SNode) (ins:qL) (c:Nat->qU) (e:Nat->qU) (p:SProc) (m:Nat):Prop where
 pos:p.pos=m
 lt:ins.length≠0->m<ins.length
 past:∀(j:Nat)(d:qU),j<m->ins[j]?=some d->c j=d
 next:∀j,m<j->j<ins.length->c j=[]
 sink:n.kind=5->p.got[0]?.getD []=[]
 pass:n.kind≠5->passes n=true->(∀j,j≠m->p.got[j]?.getD []=[])/\∃W,(10:UInt8)∉p.got[m]?.getD []/\c m=W++p.got[m]?.getD []/\Whol W/\e 0=through n ((ins.take m).flatten++W)
 hold:n.kind≠5->passes n=false->(∀j,j<ins.length->p.got[j]?.getD []=c j)/\(∀k,e k=[])/\(n.kind=3->n.c.kind=9->((c 0).count 10:Int)<n.c.n)
structure ProcOk (n:SNode) (ds ins:qL) (c e:Nat->qU) (p:SProc) (sunk:qU):Prop where
 glen:p.got.length=ins.length
 olen:p.out.length=ds.length
 rng:0<=p.pos/\p.pos<=ins.length
 ovrd:p.ov=true->p.rd=true
 ovout:p.ov=true->∀b∈p.out,b=[]
 pre:∀(k:Nat)(d:qU),ds[k]?=some d->e k <+: d
 cpre:∀(j:Nat)(d:qU),ins[j]?=some d->c j <+: d
 rde:p.rd=true->∀(k:Nat)(d:qU),ds[k]?=some d->e k=d
 small:∀j,j<ins.length->(p.got[j]?.getD []).length<=(c j).length
 osmall:∀(k:Nat)(d:qU),ds[k]?=some d->(p.out[k]?.getD []).length<=d.length
 snk:n.kind=5->sunk=c 0
 snk2:n.kind=5->p.rd=true->∀d,ins[0]?=some d->c 0=d
 wait:p.rd=false->∃m,WaitOk n ins c e p m
structure MInv (ns:List SNode) (fs:List SFile) (room:Int) (M:SMach) (C:Nat->qU) (E:Nat->Nat->qU):Prop where
 ens:M.ns=ns
 efs:M.fs=fs
 plen:M.ps.length=ns.length
 xlen:M.pipes.length=(b8 ns).length
 proc:∀(i:Nat)(n:SNode)(p:SProc),ns[i]?=some n->M.ps[i]?=some p->ProcOk n (j6 n fs (n.ins.map (aJ0 (bj4 fs [] ns)))) (n.ins.map (aJ0 (bj4 fs [] ns))) (fun j=>C (f9 ns i+j)) (E i) p M.sunk
 pipe:∀(r:Nat)(n:SNode)(j i k:Nat)(pr pw:SProc)(x:SPipe),ns[r]?=some n->n.ins[j]?=some ((i:Int),(k:Int))->M.ps[r]?=some pr->M.ps[i]?=some pw->M.pipes[f9 ns r+j]?=some x ->
  x.room=roomOf ns room ((i:Int),(k:Int))/\PipeOk (aJ0 (bj4 fs [] ns) ((i:Int),(k:Int))) (E i k) (C (f9 ns r+j)) x (pw.out[k]?.getD []) pw.ov pr.rd
theorem ce4{α:Type}{l:List α}{i j:Nat}{a b:α}(h:(l.set i a)[j]?=some b):(j=i/\b=a)\/(j≠i/\l[j]?=some b):=by
 rw[xE]at h;by_cases e:i=j
 .
  subst e;rw[qF rfl]at h;split at h
  . left;injection h with h;exact⟨rfl,h.symm⟩
  . cases h
 . rw[qB e]at h;exact Or.inr ⟨fun q=>e q.symm,h⟩
theorem aK0{x:SPipe}{b:qU}(h:pchk x=0)(hc:x.closed=false)(hs:x.shut=true):pwrite x b=(⟨[],x.room,x.closed,x.shut⟩,b.length,0):=by unfold pwrite;rw[qB (by simp[h]),qB (by simp[hc]),qF hs]
theorem aK1{x:SPipe}{b:qU}(h:pchk x=0)(hc:x.closed=false)(hs:x.shut=false):pwrite x b=(⟨x.b++b.take (pfit b.length x.b.length x.room),x.room,x.closed,x.shut⟩,pfit b.length x.b.length x.room,0):=by unfold pwrite;rw[qB (by simp[h]),qB (by simp[hc]),qB (by simp[hs])]
theorem Q7{x:SPipe}(h:pchk x=0):0<=x.room/\x.room<=1000/\(x.b.length:Int)<=plim x.room/\(x.shut=true->x.b.length=0):=aI4 h
theorem Z4{x:SPipe}(h0:0<=x.room)(h1:x.room<=1000)(h2:(x.b.length:Int)<=plim x.room)(h3:x.shut=true->x.b.length=0):pchk x=0:=by unfold pchk pck;rw[qB qO,qB qO,qB];rintro⟨h4,h5⟩;have:=h3 h4;omega
theorem aa8(ns:List SNode)(i:Nat)(xs:List SPipe):∀K,(H7 ns i K xs).length=xs.length
 | 0=>rfl
 | K+1=>by rw[H7,List.length_modify,aa8 ns i xs K]
theorem am4(ns:List SNode)(i:Nat)(xs:List SPipe):∀(K q:Nat)(x:SPipe),(H7 ns i K xs)[q]?=some x ->
 ∃y,xs[q]?=some y/\((∃k:Nat,k<K/\q=E9 ns ((i:Int),(k:Int)))->x=Z1 y)/\((∀k:Nat,k<K->q≠E9 ns ((i:Int),(k:Int)))->x=y)
 | 0,q,x,h=>⟨x,h,fun ⟨k,hk,_⟩=>absurd hk qO,fun _=>rfl⟩
 | K+1,q,x,h=>by
  rw[H7,List.getElem?_modify]at h
  cases hz:(H7 ns i K xs)[q]? with
  | none=>rw[hz]at h;cases h
  | some z=>
   rw[hz]at h
   obtain⟨y,hy,h1,h2⟩:=am4 ns i xs K q z hz
   have h':(if E9 ns ((i:Int),(K:Int))=q then Z1 z else z)=x:=by
    injection h
   by_cases e:E9 ns ((i:Int),(K:Int))=q
   . rw[qF e]at h'
     refine⟨y,hy,fun _=>?_,fun hc=>absurd e.symm (hc K qO)⟩
     rw[<- h']
     by_cases hq:∃k:Nat,k<K/\q=E9 ns ((i:Int),(k:Int))
     . rw[h1 hq];rfl
     . rw[h2 (fun k hk he=>hq ⟨k,hk,he⟩)]
   .
    rw[qB e]at h'
    subst h'
    refine⟨y,hy,?_,?_⟩
    . rintro⟨k,hk,he⟩
      by_cases hkK:k=K
      . subst hkK;exact absurd he.symm e
      . exact h1 ⟨k,qO,he⟩
    . intro hc
      exact h2 (fun k hk=>hc k qO)
theorem ae6{n:SNode}(h:passes n=true):(n.kind=4/\n.how=1)\/(n.kind=3/\Q3 n.c.kind=true):=by unfold passes at h;simpa only[Bool.or_eq_true,zX,zh]using h
theorem am5{n:SNode}(h:passes n=true):nouts n=1:=by
 unfold nouts;rcases ae6 h with⟨h4,h1⟩|⟨h3,h5⟩
 . rw[qB qO,qB qO]
 . rw[qB qO,qB qO]
theorem bD9{l:List SPipe}{q:Nat}{x y:SPipe}(hq:l[q]?=some y):(l.set q x)[q]?=some x:=by rw[xE,qF rfl,qF (gSm hq).1]
theorem bj8{n:SNode}(h:q9 n=0)(h3:n.kind=3):chk n.c=0:=by
 rcases N9 (L2 h).1 with⟨h4 | h4,_⟩|⟨h4,_⟩|⟨_,h4⟩|⟨h4,_⟩
 . omega
 . omega
 . omega
 . exact h4
 . omega
theorem RightG.last{ns:List SNode}(g:RightG ns):∃n p,ns[ns.length-1]?=some n/\n.kind=5/\n.ins=[p]:=by
 have:=g.pos;obtain⟨n,hn⟩:∃n,ns[ns.length-1]?=some n:=⟨_,gEl qO⟩;have h5:=(g.sink _ n hn).2 qO;have h1:=(A1 (g.node n (mGt hn))).2 (Or.inr (Or.inr h5))
 match hi:n.ins,h1 with
 | [p],_=>exact⟨n,p,hn,h5,hi⟩
theorem aR8{l:List Int}(h:∀x∈l,x=0):I8 l=0:=by
 unfold I8;have:l.find? (fun x=>x != 0)=none:=by rw[zW];intro x hx;simp[h x hx]
 rw[this];rfl
theorem as5:∀(ns:List SNode)(ps:List SProc),(∀(i:Nat)(n:SNode)(p:SProc),ns[i]?=some n->ps[i]?=some p->C6 n p=0)->E1 ns ps=0
 | [],_,_=>by simp[E1]
 | n::ns,[],_=>by simp[E1]
 | n::ns,p::ps,h=>by unfold E1;rw[qB (by simp[h 0 n p rfl rfl])];exact as5 ns ps (fun i n' p' hn hp=>h (i+1) n' p' (by simpa using hn) (by simpa using hp))
def noC:Cmd:=⟨0,[],0⟩
def B8:List SNode:=[⟨1,[97],noC,0,0,[]⟩,⟨2,[],noC,0,2,[(0,0)]⟩,⟨3,[],⟨6,[],0⟩,0,0,[(1,0)]⟩,⟨3,[],⟨6,[],0⟩,0,0,[(1,1)]⟩,⟨4,[],noC,2,0,[(2,0),(3,0)]⟩,⟨5,[98],noC,0,0,[(4,0)]⟩]
def I5:List SFile:=[⟨[97],[51,10,49,10,50,10,48]⟩]
theorem bb5:gchk B8=0:=by decide
theorem bv5:fchk I5=0:=by decide
theorem bv6:made ⟨6,[],0⟩ [[51],[49]]=[[49],[51]]:=by rw[aI8 _ rfl,as2 (P3 [[51],[49]]) [[49],[51]] ((aa6 _).trans (by decide)) (as1 _) (by decide)]
theorem bv7:made ⟨6,[],0⟩ [[50],[48]]=[[48],[50]]:=by rw[aI8 _ rfl,as2 (P3 [[50],[48]]) [[48],[50]] ((aa6 _).trans (by decide)) (as1 _) (by decide)]
section
variable (nm:SNode->List SFile->qL->qL)
def bY5(n:SNode)(fs:List SFile)(p:SProc):SProc:=⟨p.got.map (fun _=>[]),p.pos,List.zipWith (· ++ ·) p.out (nm n fs p.got),true,p.ov⟩
def ch7(M:SMach)(i:Nat)(n:SNode)(q:Nat)(p:SProc):SMach:=
 if n.kind=5 then ⟨M.ns,M.fs,M.pipes,M.ps.set i (p.setGot []),M.sunk++p.at⟩
 else if passes n && p.at.contains 10 then M.setP i ((p.setOut 0 ((p.out[0]?).getD []++through n (p.at.take (j3 p.at)))).setGot (p.at.drop (j3 p.at)))
 else if n.kind=3/\n.c.kind=9/\n.c.n<=(p.at.count 10:Int) then (M.setX q ⟨[],(M.pipe q).room,(M.pipe q).closed,true⟩).setP i (bY5 nm n M.fs p)
 else M.setP i p
def ch8(M:SMach)(i:Nat)(n:SNode)(q:Nat)(p:SProc):SMach × Int:=
 if (M.pipe q).closed && (M.pipe q).b.isEmpty then
  (if p.pos+1=p.got.length then (M.setP i (bY5 nm n M.fs ⟨p.got,p.pos+1,p.out,p.rd,p.ov⟩),0) else (M.setP i ⟨p.got,p.pos+1,p.out,p.rd,p.ov⟩,0))
 else if (M.pipe q).b.isEmpty then (M,8)
 else (ch7 nm (M.setX q ⟨(M.pipe q).b.drop 8,(M.pipe q).room,(M.pipe q).closed,(M.pipe q).shut⟩) i n q (p.setGot (p.at++(M.pipe q).b.take 8)),0)
def ch9(M:SMach)(i:Nat)(n:SNode)(p:SProc):SMach × Int:=
 if p.ov then (M,7)
 else if p.out.any (fun b=>!b.isEmpty) then E2 M i p 0 p.out
 else if p.rd then (endS M i p,0)
 else if p.got.isEmpty then (M.setP i (bY5 nm n M.fs p),0)
 else ch8 nm M i n (f9 M.ns i+p.pos.toNat) p
def goQ(M:SMach)(i:Nat):SMach × Int:=
 match M.ns[i]?,M.ps[i]? with
 | some n,some p=>ch9 nm M i n p
 | _,_=>(M,5)
def aD7(M:SMach):Nat->SMach × Bool
 | 0=>(M,false)
 | k+1=>((goQ nm (aD7 M k).1 k).1,(aD7 M k).2 || decide ((goQ nm (aD7 M k).1 k).2=0))
def finQ:Nat->SMach->Option (SMach × Int)
 | 0,M=>none
 | k+1,M=>if overS M then some (M,0) else
  match aD7 nm M M.ps.length with
  | (N,true)=>finQ k N
  | (_,false)=>some (I4,8)
end
theorem aZ5(M:SMach):∀k,aD7 j6 M k=j7 M k
 | 0=>rfl
 | k+1=>by unfold aD7 j7;rw[aZ5 M k];rfl
theorem aZ6:∀(k:Nat)(M:SMach)(r:SMach × Int),finQ j6 k M=some r->∃j,Fins j M r
 | 0,M,r,h=>by cases h
 | k+1,M,r,h=>by
  unfold finQ at h;by_cases h1:overS M=true
  . rw[qF h1]at h;exact⟨0,.inl ⟨h1,(qd h).symm⟩⟩
  .
   rw[qB h1,aZ5]at h;have h1':overS M=false:=by simpa using h1
   have e:j7 M M.ps.length=H4 M:=rfl;rw[e]at h
   cases h2:H4 M with
   | mk N b=>
    rw[h2]at h
    cases b with
    | true=>obtain⟨j,hj⟩:=aZ6 k N r h;exact⟨j+1,h1',by rw[h2],by rw[h2];exact hj⟩
    | false=>exact⟨0,.inr ⟨h1',by rw[h2],(qd h).symm⟩⟩
def nmC(n:SNode)(fs:List SFile)(ins:qL):qL:=
 if n.kind=3/\n.c.kind=6/\ins=[[51,10,49,10]] then [[49,10,51,10]] else if n.kind=3/\n.c.kind=6/\ins=[[50,10,48,10]] then [[48,10,50,10]] else j6 n fs ins
theorem cf8:j6=nmC:=by
 funext n fs ins;unfold nmC;have key:∀(c:Cmd)(l:qL),c.kind=6->made c l=made ⟨6,[],0⟩ l:=fun c l h=>by rw[aI8 _ h,aI8 _ rfl]
 by_cases h1:n.kind=3/\n.c.kind=6/\ins=[[51,10,49,10]]
 . obtain⟨e1,e2,rfl⟩:=h1;rw[qF ⟨e1,e2,rfl⟩,(show j6 n fs _=_ by unfold j6;rw[qB qO,qB qO,qF e1])];show [ended (made n.c (lines [51,10,49,10]))]=_;rw[show lines [51,10,49,10]=[[51],[49]] by decide,key _ _ e2,bv6];rfl
 .
  rw[qB h1];by_cases h2:n.kind=3/\n.c.kind=6/\ins=[[50,10,48,10]]
  . obtain⟨e1,e2,rfl⟩:=h2;rw[qF ⟨e1,e2,rfl⟩,(show j6 n fs _=_ by unfold j6;rw[qB qO,qB qO,qF e1])];show [ended (made n.c (lines [50,10,48,10]))]=_;rw[show lines [50,10,48,10]=[[50],[48]] by decide,key _ _ e2,bv7];rfl
  . rw[qB h2]
theorem bP4:(finQ nmC 60 (E4 B8 I5 1)).map (fun r=>(r.1.sunk,r.2))=some ([48,10,49,10,50,10,51,10],0):=qQ
theorem bY6:∃k r,Fins k (E4 B8 I5 1) (r,0)/\r.sunk=[48,10,49,10,50,10,51,10]:=by
 have h:=bP4
 cases e:finQ nmC 60 (E4 B8 I5 1) with
 | none=>rw[e]at h;cases h
 | some r=>rw[e]at h;obtain⟨r,z⟩:=r;injection h with h;injection h with h1 h2;simp only at h1 h2;subst h2;rw[<- cf8]at e;obtain⟨j,hj⟩:=aZ6 60 _ _ e;exact⟨j,r,hj,h1⟩
end Go.Gs
