/- What the developers' New does, and more. -/
import Derived.Test.YtmejdflmcikkdaaGreatDoorVAb
import Derived.Test.YtmejdflmcikkdaaGreatDoorVa30
set_option linter.all false
set_option maxRecDepth 100000
set_option maxHeartbeats 64000000
namespace Go.Proofs.YtmejdflmcikkdaaGreatDoor
open Go.RowKit Go.Gs Go.Maps Tryz
variable {ns:List SNode}{fs:List SFile}{w A B W0 W W' w0 wr:World}{t:TypeId}{wrs g bM B6 IL OL f i k c':Nat}{vP node isl v:Value}{C1 C2:Array Value}{V:Nat->Value->World->Prop}{a0 a:Act}{L:Nat->Bool}{Fin:World->Prop}{a' an af:Option Addr}{P:Program}{ops:Array Oper}{Q:Exit->Act->World->Prop}{o:Oper}{b:List (Int × Int)}{x y:Int × Int}
theorem aT1(n:SNode)(ai:Option Addr)(ni ci:Nat)(room:Int)(w:World):
 Calls prog 26 #[x8 n ai ni ci,.int .i64 room] w fun e w'=>e=.returned (.int .i64 (if n.kind=2 then 0 else room))/\Bq w w':=by
 unfold x8;generalize n.kind=k;generalize n.wide=wd;generalize (⟨n.file.toArray⟩:ByteArray)=fx;generalize (⟨n.c.word.toArray⟩:ByteArray)=wx;generalize n.c.kind=ck;generalize n.c.n=cn;generalize n.how=hw;by_cases h2:k=2
 . subst h2;go_enter func26,ntmps26;go_wp2_with fail;go_ret;exact⟨rfl,boxE⟩
 . have HE:=qH (show (if k=2 then (0:Int) else room)=room by rw[qB h2]);rw[HE.o];go_enter func26,ntmps26;go_wp2_with fail;go_ret;exact⟨rfl,boxE⟩
def ad8(ns:List SNode)(fs:List SFile):SMach:=⟨ns,fs,[],[],[]⟩
theorem bh5(hg:gchk ns=0)(hf:fchk fs=0):SmallC (ad8 ns fs):=by
 have g:=Q6 hg;have h60:=g.le60;have hf2:=S7 hf;refine⟨by show ns.length<=_;omega,by show fs.length<=_;omega,by simp[ad8],by simp[ad8],by simp[ad8],fun n hn=>?_,fun f hf3=>?_,fun x hx=>by simp[ad8]at hx,fun p hp=>by simp[ad8]at hp⟩
 . have:=(A1 (g.node n hn)).1;omega
 . have:=(U2 hf2.2 f hf3).2;omega
theorem bY7(g:RightG ns)(k:Nat):(b8 (ns.take k)).length<=300:=by
 have:∀(l:List SNode),(∀m∈l,m.ins.length<=5)->(b8 l).length<=5*l.length:=by
  intro l
  induction l with
  | nil=>intro _;simp[b8]
  | cons m l ih=>intro hm;have h1:=ih (fun m' hm'=>hm m' (by simp[hm']));have h2:=hm m (by simp);simp only[b8,xy,xC,qI,ql]at *;omega
 have h1:=this (ns.take k) (fun m hm=>(A1 (g.node m (List.mem_of_mem_take hm))).1);rw[qX]at h1;have:=g.le60;omega
theorem br5{x:Nat}(h:w.heap[x]?=some (.cells #[.slice none 0 0,.slice none 0 0,.slice none 0 0,.slice none 0 0,.slice none 0 0] t (0,0))):Z7 w x:=by intro j u hu;rw[qY _ _ _ _ _ _ h]at hu;have:j=0\/j=1\/j=2\/j=3\/j=4\/5<=j:=qO;rcases this with rfl | rfl | rfl | rfl | rfl | hj;all_goals first|(simp at hu;exact⟨_,_,_,hu.symm⟩)|(rw[xR (by simpa using hj)]at hu;cases hu)
def V18(wrs bM B6:Nat)(vP node isl:Value)(IL OL:Nat)(C1 C2:Array Value):Nat->Value->World->Prop
 | 0,x,W=>x=.pointer (some ⟨bM,3,none⟩)
 | 1,x,W=>x=vP
 | 2,x,W=>x=.pointer (some ⟨B6,7,none⟩)
 | 3,x,W=>x=isl
 | 4,x,W=>x=.int .i64 (IL:Int)
 | 5,x,W=>∃gg,x=.slice (some ⟨gg,0,none⟩) IL IL/\wrs<=gg/\W.heap[gg]?=some (.cells C1 28 (0,0))
 | 6,x,W=>x=node
 | 7,x,W=>x=.int .i64 (OL:Int)
 | 8,x,W=>∃go,x=.slice (some ⟨go,0,none⟩) OL OL/\wrs<=go/\W.heap[go]?=some (.cells C2 28 (0,0))
 | 9,x,W=>∃gg go,x=.agg #[.slice (some ⟨gg,0,none⟩) IL IL,.int .i64 0,.slice (some ⟨go,0,none⟩) OL OL,.bool false,.bool false]/\(wrs<=gg/\W.heap[gg]?=some (.cells C1 28 (0,0)))/\(wrs<=go/\W.heap[go]?=some (.cells C2 28 (0,0)))
 | 10,x,W=>∃ad gg go,x=.slice (some ⟨ad,0,none⟩) 1 1/\(wrs<=ad/\W.heap[ad]?=some (.cells #[.slice (some ⟨gg,0,none⟩) IL IL,.int .i64 0,.slice (some ⟨go,0,none⟩) OL OL,.bool false,.bool false] 64 (0,0)))/\(wrs<=gg/\W.heap[gg]?=some (.cells C1 28 (0,0)))/\(wrs<=go/\W.heap[go]?=some (.cells C2 28 (0,0)))
 | 12,x,W=>x=.pointer (some ⟨bM,3,none⟩)
 | _,x,W=>True
def ak6(wrs:Nat)(A B:World):Prop:=∀g,wrs<=g->g<A.heap.size->B.heap[g]?=A.heap[g]?
theorem ak6.some(h:ak6 wrs A B){o:Obj}(hg:wrs<=g)(ho:A.heap[g]?=some o):B.heap[g]?=some o:=(h g hg (aSm ho).1).trans ho
theorem V18.keep(hk:ak6 wrs A B):∀(j:Nat)(x:Value),V18 wrs bM B6 vP node isl IL OL C1 C2 j x A->V18 wrs bM B6 vP node isl IL OL C1 C2 j x B
 | 0,x,h=>h
 | 1,x,h=>h
 | 2,x,h=>h
 | 3,x,h=>h
 | 4,x,h=>h
 | 5,x,⟨gg,h1,h2,h3⟩=>⟨gg,h1,h2,hk.some h2 h3⟩
 | 6,x,h=>h
 | 7,x,h=>h
 | 8,x,⟨gg,h1,h2,h3⟩=>⟨gg,h1,h2,hk.some h2 h3⟩
 | 9,x,⟨gg,go,h1,h2,h3⟩=>⟨gg,go,h1,⟨h2.1,hk.some h2.1 h2.2⟩,⟨h3.1,hk.some h3.1 h3.2⟩⟩
 | 10,x,⟨ad,gg,go,h1,h0,h2,h3⟩=>⟨ad,gg,go,h1,⟨h0.1,hk.some h0.1 h0.2⟩,⟨h2.1,hk.some h2.1 h2.2⟩,⟨h3.1,hk.some h3.1 h3.2⟩⟩
 | 11,x,h=>trivial
 | 12,x,h=>h
 | n+13,x,h=>trivial
theorem OV.put2{n:Nat}(h:OV f n V a0 W0 L a W)(hV:∀j x,V j x W->V j x W')(hi:i<n)(hs:f+n<=a0.tmps.size)(hb:Bq W0 W')(hv:V i v W'):
 OV f n V a0 W0 (updV L i) (a.put (some (f+i)) v) W':=by
 refine⟨by simp[Act.put,h.sz],h.df,hb,fun j hj hL=>?_,fun s hs'=>?_⟩
 .
  by_cases e:j=i
  . subst e;rw[bY4 (by rw[h.sz];omega)];exact hv
  . rw[bY3 qO];exact hV _ _ (h.vs j hj (by simpa[updV,e]using hL))
 . have:(a.put (some (f+i)) v).tmps[s]?=a.tmps[s]?:=by simp only[Act.put];rw[Array.getElem?_setIfInBounds_ne qO]
   rw[this];exact h.fr s hs'
def H9:Nat->List Nat
 | 1=>[0]
 | 3=>[2]
 | 4=>[3]
 | 5=>[4]
 | 7=>[6]
 | 8=>[7]
 | 9=>[5,8]
 | 10=>[9]
 | _=>[]
def DC18(L:Nat->Bool):Prop:=∀j,L j=true->∀d∈H9 j,L d=true
theorem DC18.upd(h:DC18 L)(hd:∀d∈H9 i,L d=true):DC18 (updV L i):=by
 intro j hj d hdj;unfold updV at hj ⊢;by_cases e:d=i
 . rw[qF e]
 .
  rw[qB e];by_cases e2:j=i
  . subst e2;exact hd d hdj
  . rw[qB e2]at hj;exact h j hj d hdj
theorem DC18.all(h:DC18 L)(h1:L 1=true)(h10:L 10=true):∀j,j<=10->L j=true:=by have h0:=h 1 h1 0 (by simp[H9]);have h9:=h 10 h10 9 (by simp[H9]);have h5:=h 9 h9 5 (by simp[H9]);have h8:=h 9 h9 8 (by simp[H9]);have h4:=h 5 h5 4 (by simp[H9]);have h3:=h 4 h4 3 (by simp[H9]);have h2:=h 3 h3 2 (by simp[H9]);have h7:=h 8 h8 7 (by simp[H9]);have h6:=h 7 h7 6 (by simp[H9]);intro j hj;have:j=0\/j=1\/j=2\/j=3\/j=4\/j=5\/j=6\/j=7\/j=8\/j=9\/j=10:=qO;rcases this with rfl | rfl | rfl | rfl | rfl | rfl | rfl | rfl | rfl | rfl | rfl <;> assumption
structure NI (f:Nat) (w0 wr:World) (bM B6:Nat) (vP node isl:Value) (IL OL:Nat) (C1 C2:Array Value) (k:Nat) (Fin:World->Prop) (a0:Act) (L:Nat->Bool) (a:Act) (W:World):Prop where
 ov:OV f 13 (V18 wr.heap.size bM B6 vP node isl IL OL C1 C2) a0 w0 L a W
 p0:L 11=false->Below wr.heap.size wr W
 cl:L 11=true->∀j,j<=10->L j=true
 c13:L 13=true->L 11=true
 dc:DC18 L
 p1:L 11=true->L 13=false->∃a' c',a.eval (.tmp (f+11))=.slice a' (k+1) c'/\W.cell? ⟨bM,3,none⟩=some vP/\W.frozen? ⟨bM,3,none⟩=false/\Fin (W.setCell ⟨bM,3,none⟩ (.slice a' (k+1) c'))
 p2:L 13=true->Fin W
theorem NI.start(a0:Act)(hb:Bq w0 wr):NI f w0 wr bM B6 vP node isl IL OL C1 C2 k Fin a0 (fun _=>false) a0 { wr with drawn:=wr.drawn+1 }:=
 ⟨⟨rfl,rfl,hb.drew,fun i _ h=>(by cases h),fun s _=>rfl⟩,fun _=>(Below.refl _ wr).drew,fun h=>(by cases h),fun h=>(by cases h),(fun j h=>by cases h),fun h=>(by cases h),fun h=>(by cases h)⟩
theorem NI.not11(h:NI f w0 wr bM B6 vP node isl IL OL C1 C2 k Fin a0 L a W)(hL:L i=false)(hi:i<=10):L 11=false:=by
 cases e:L 11 with
 | false=>rfl
 | true=>
  have:=h.cl e i hi;rw[hL]at this
  cases this
theorem NI.put(h:NI f w0 wr bM B6 vP node isl IL OL C1 C2 k Fin a0 L a W)(hL:L i=false)(hi:i<=10)(hs:f+13<=a0.tmps.size)(hw0:w0.heap.size<=wr.heap.size)(hb:Bq W W')(hv:V18 wr.heap.size bM B6 vP node isl IL OL C1 C2 i v W')(hd:∀d∈H9 i,L d=true):
 NI f w0 wr bM B6 vP node isl IL OL C1 C2 k Fin a0 (updV L i) (a.put (some (f+i)) v) W':=by
 have h11:L 11=false:=h.not11 hL hi;have hbW:=h.p0 h11;have u11:updV L i 11=L 11:=by unfold updV;rw[qB qO]
 have u13:updV L i 13=L 13:=by unfold updV;rw[qB qO]
 refine⟨OV.put2 h.ov (V18.keep (fun g hg hgs=>hb.block g hgs)) qO hs (h.ov.be.trans (hb.mono h.ov.be.size)) hv,fun _=>hbW.trans (hb.mono hbW.size),fun e=>?_,fun e=>?_,h.dc.upd hd,fun e=>?_,fun e=>?_⟩
 . rw[u11,h11]at e
   cases e
 . rw[u13]at e;rw[h.c13 e]at h11
   cases h11
 . rw[u11,h11]at e
   cases e
 . rw[u13]at e;rw[h.c13 e]at h11
   cases h11
theorem NI.put12(h:NI f w0 wr bM B6 vP node isl IL OL C1 C2 k Fin a0 L a W)(hs:f+13<=a0.tmps.size):
 NI f w0 wr bM B6 vP node isl IL OL C1 C2 k Fin a0 (updV L 12) (a.put (some (f+12)) (.pointer (some ⟨bM,3,none⟩))) W:=by
 refine⟨OV.put2 h.ov (fun _ _ h=>h) qO hs h.ov.be rfl,fun e=>h.p0 e,fun e j hj=>?_,fun e=>h.c13 e,h.dc.upd (by simp[H9]),fun e1 e2=>?_,fun e=>h.p2 e⟩
 . have:=h.cl e j hj;unfold updV;rw[qB qO];exact this
 . obtain⟨a',c',q1,q2⟩:=h.p1 e1 e2;exact⟨a',c',by rw[bY3 qO];exact q1,q2⟩
theorem NI.put11(h:NI f w0 wr bM B6 vP node isl IL OL C1 C2 k Fin a0 L a W)(hs:f+13<=a0.tmps.size)(hL:L 11=false)(An:∀j,j<=10->L j=true)(hk:ak6 wr.heap.size W W')(hb:Bq w0 W')(h1:W'.cell? ⟨bM,3,none⟩=some vP)(h2:W'.frozen? ⟨bM,3,none⟩=false)(h3:Fin (W'.setCell ⟨bM,3,none⟩ (.slice a' (k+1) c'))):
 NI f w0 wr bM B6 vP node isl IL OL C1 C2 k Fin a0 (updV L 11) (a.put (some (f+11)) (.slice a' (k+1) c')) W':=by
 have u13:updV L 11 13=L 13:=rfl;have n13:L 13=false:=by
  cases e:L 13 with
  | false=>rfl
  | true=>rw[h.c13 e]at hL;cases hL
 refine⟨OV.put2 h.ov (V18.keep hk) qO hs hb trivial,fun e=>?_,fun e j hj=>?_,fun e=>?_,h.dc.upd (by simp[H9]),fun e1 e2=>⟨a',c',?_,h1,h2,h3⟩,fun e=>?_⟩
 . simp[updV]at e
 . unfold updV;rw[qB qO];exact An j hj
 . simp[updV]
 . rw[bY4 (by rw[h.ov.sz];omega)]
 . rw[u13,n13]at e
   cases e
theorem NI.put13(h:NI f w0 wr bM B6 vP node isl IL OL C1 C2 k Fin a0 L a W)(h11:L 11=true)(hk:ak6 wr.heap.size W W')(hb:Bq w0 W')(hF:Fin W'):
 NI f w0 wr bM B6 vP node isl IL OL C1 C2 k Fin a0 (updV L 13) a W':=by
 have u11:updV L 13 11=L 11:=rfl;refine⟨⟨h.ov.sz,h.ov.df,hb,fun i hi e=>?_,h.ov.fr⟩,fun e=>?_,fun e j hj=>?_,fun e=>by rw[u11];exact h11,h.dc.upd (by simp[H9]),fun e1 e2=>?_,fun _=>hF⟩
 . have:L i=true:=by unfold updV at e;rw[qB qO]at e;exact e
   exact V18.keep hk _ _ (h.ov.vs i hi this)
 . rw[u11,h11]at e
   cases e
 . have:=h.cl h11 j hj;unfold updV;rw[qB qO];exact this
 . simp[updV]at e2
def Q1(w0 wr:World)(bM:Nat)(vN vF vS:Value)(ns:List SNode)(room:Int)(L:List (Int × Int))(k av:Nat):Prop:=
 ∃vX vP Q,NewAt w0 wr bM vN vF vX vP vS (L.map (roomOf ns room)) Q/\Q.map (fun q=>(q.il,q.ol))=(ns.take k).map (fun n=>(n.ins.length,(nouts n).toNat))/\vX.ownBlock≠some av/\vP.ownBlock≠some av
theorem br6{cn cf:Nat}(hN:y8 w (.slice an ns.length cn) ns)(hF:o8 w (.slice af fs.length cf) fs):RMach w an af none none none cn cf 0 0 0 (ad8 ns fs):=
 ⟨hN,hF,⟨none,0,rfl,qA _,by simp[maxLen],fun h=>absurd rfl h⟩,⟨none,0,rfl,qA _,by simp[maxLen],fun h=>absurd rfl h⟩,rnil⟩
theorem D9(ho:ops[i]?=some o)(hw:Region.wanted o (yielded ops a.tmps)=true)(h:o.wp P a w (fun a' W'=>NI f w0 wr bM B6 vP node isl IL OL C1 C2 k Fin a0 (updV L i) a' W') Q):wpOp P ops Q i (fun a' W'=>NI f w0 wr bM B6 vP node isl IL OL C1 C2 k Fin a0 (fun j=>if j=i then true else L j) a' W') a w:=by unfold wpOp;rw[ho];simp only;rw[qF hw];exact Or.inl h
theorem bG3(an af:Option Addr)(cn cf:Nat)(ns:List SNode)(fs:List SFile)(room:Int)(w:World)(hN:y8 w (.slice an ns.length cn) ns)(hF:o8 w (.slice af fs.length cf) fs)(hfn:∀n∈ns,G8 n)(hff:∀f∈fs,al0 f):
 Calls prog 7 #[.agg #[.slice an ns.length cn],.slice af fs.length cf,.int .i64 room] w fun e w'=>∃v,e=.returned (.tuple #[v,.int .i64 (newS ns fs room).2])/\E7 w' v (newS ns fs room).1/\Bq w w':=by
 have HCG:=qH (show ∀W,Bq w W->Calls prog 23 #[.agg #[.slice an ns.length cn],.slice af fs.length cf] W fun e w'=>e=.returned (.int .i64 (if gchk ns≠0 then gchk ns else fchk fs))/\Bq W w' from fun W hW=>as9 an af cn cf ns fs W (fun V hV=>aY3 ns an cn V ((hN.below hW).below hV) hfn) (fun V hV=>aD4 af cf fs V ((hF.below hW).below hV) hff));have HCL:=qH (show gchk ns=0->fchk fs=0->∀W,Bq w W->Calls prog 24 #[.agg #[.slice an ns.length cn,.slice af fs.length cf,.slice none 0 0,.slice none 0 0,.slice none 0 0]] W fun e w'=>∃D vN vF vX vP sS X P O,e=.returned (.agg #[vN,vF,vX,vP,sl [] sS])/\(∀vI vM,Raw w' D O ⟨ad8 ns fs,vN,vF,vX,vP,vI,vM,sS,X,P⟩)/\W.heap.size<=D/\Bq W w' from fun h1 h2 W hW=>aL7 an af none none none cn cf 0 0 0 (ad8 ns fs) W (br6 (hN.below hW) (hF.below hW)) (bh5 h1 h2));have HN:=qH hN;obtain⟨K,hK⟩:=qE ((if gchk ns≠0 then gchk ns else fchk fs));rw[<- hK]at HCG;have hle:=M5 hN
 have HNS:=qH (show newS ns fs room=if K≠0 then (I4,K) else if room<1\/1000<room then (I4,3) else (E4 ns fs room,0) by
  unfold newS
  rw[hK]
  by_cases h1:gchk ns=0 <;> simp[h1])
 have HK0:=qH (show K=0->gchk ns=0/\fchk fs=0 from fun h=>by
  rw[hK]at h
  by_cases h1:gchk ns=0
  . rw[qB (by simpa using h1)]at h
    exact⟨h1,h⟩
  . rw[qF h1]at h
    exact absurd h h1)
 obtain⟨RES,Aj⟩:=qE (newS ns fs room);rw[<- Aj]at HNS ⊢;have HFN:=qH hfn;obtain⟨NN,hNN⟩:=qE ns.length;obtain⟨NF,hNF⟩:=qE fs.length;have HL:Hid (NN=ns.length/\NF=fs.length):=⟨hNN,hNF⟩;rw[<- hNN,<- hNF]at HCG HCL ⊢;rw[<- hNN]at HN hle;clear hN hF hfn hff hK Aj hNN hNF;go_enter func7,ntmps7;go_wp2_with fail;obtain⟨W0,hW0⟩:=qE ((w.alloc (.cells #[.slice an NN cn] 24)).alloc (.cells #[.slice none 0 0,.slice none 0 0,.slice none 0 0,.slice none 0 0,.slice none 0 0] 30));rw[<- hW0];have hB0:Bq w W0:=by rw[hW0];exact ((Below.refl _ w).alloc (qA _) _).alloc (by simp) _
 have hX0:W0.heap[w.heap.size]?=some (.cells #[.slice an NN cn] 24 (0,0))/\W0.heap[w.heap.size+1]?=some (.cells #[.slice none 0 0,.slice none 0 0,.slice none 0 0,.slice none 0 0,.slice none 0 0] 30 (0,0)):=by rw[hW0];exact⟨xQ _ _ _,xM _ _ _⟩
 refine qD (HCG.o W0 hB0) ?_;rintro e w1⟨rfl,hb1⟩;have hlt0:w.heap.size+1<W0.heap.size:=(aSm hX0.2).1;have hX1:=And.intro ((hb1.block _ qO).trans hX0.1) ((hb1.block _ hlt0).trans hX0.2);have HB1:Hid (Bq w w1):=hB0.trans (hb1.mono hB0.size);have HX1:=qH hX1;obtain⟨y0,y1,y2,y3,y4,yf⟩:=i8 hX1.2;have yf0:=yf 0;have yf1:=yf 1;have yf2:=yf 2;have yf3:=yf 3;have yf4:=yf 4;have x0:w1.cell? ⟨w.heap.size,0,none⟩=some (.slice an NN cn):=qR hX1.1 rfl;clear hW0 hB0 hX0 hb1 hX1 HCG yf hlt0;by_cases h0:K=0
 .
  by_cases hr:room<1\/1000<room
  .
   have HR:=qH (show RES=(I4,3) by rw[HNS.o,qB (by simpa using h0),qF hr]);subst h0;clear HNS;by_cases hr1:room<1
   . clear hr;go_wp2_with fail;(try simp only[Exit.inBlock,Exit.then])
     refine qx (v:=.tuple #[.agg #[.slice none 0 0,.slice none 0 0,.slice none 0 0,.slice none 0 0,.slice none 0 0],.int .i64 3]) ?_ rfl ?_
     . rw[results_cell_tmp rfl];go_simp
     . rw[HR.o];exact⟨_,rfl,E7.zero _,by repeat (first|refine Below.setCell ?_ (by simp) _ | exact HB1.o)⟩
   . have hr2:1000<room:=qO;clear hr;go_wp2_with fail;(try simp only[Exit.inBlock,Exit.then])
     refine qx (v:=.tuple #[.agg #[.slice none 0 0,.slice none 0 0,.slice none 0 0,.slice none 0 0,.slice none 0 0],.int .i64 3]) ?_ rfl ?_
     . rw[results_cell_tmp rfl];go_simp
     . rw[HR.o];exact⟨_,rfl,E7.zero _,by repeat (first|refine Below.setCell ?_ (by simp) _ | exact HB1.o)⟩
  .
   have HR:=qH (show RES=(E4 ns fs room,0) by rw[HNS.o,qB (by simpa using h0),qB hr]);obtain⟨hg0,hf0⟩:=HK0.o h0;have HG:Hid (RightG ns):=Q6 hg0;have HCL2:Hid _:=HCL.o hg0 hf0;have hr1:¬room<1:=qO;have hr2:¬1000<room:=qO;subst h0;clear HNS HK0 HCL hg0 hf0 hr y0 y1 y2 y3 y4 yf0 yf1 yf2 yf3 yf4;go_wp2_with fail;refine qD (HCL2.o w1 HB1.o) ?_;rintro e w2⟨D,vN,vF,vX,vP,sS,X,P,O,rfl,Im,hD,hb2⟩;have hRI:=Im (.slice none 0 0) (.slice none 0 0);obtain⟨w0,hw0,Ha,hrn,hrf⟩:=hRI.base;obtain⟨aN,cN,hvN,_,_⟩:=hrn.shape;obtain⟨aF,cF,hvF,_,_⟩:=hrf.shape;have hPX:=hRI.part .pipes (by simp) (by simp);have hPP:=hRI.part .procs (by simp) (by simp);obtain⟨⟨aX,cX,hvX,_,_⟩,_⟩:=g8 hPX.1;obtain⟨⟨aP,cP,hvP,_,_⟩,_⟩:=g8 hPP.1;simp only at hvN hvF hvX hvP;have hvS:sl [] sS=.slice sS.1 0 sS.2:=rfl;have hcS:sS.2<=maxLen:=by
    rcases hRI.part .sunk (by simp) (by simp) with (⟨e1,_⟩|⟨_,_,_,_,_,_,_,h9,_⟩)|⟨⟨_,e1⟩,_⟩
    . have e2:sS=nilS:=e1;rw[e2];simp[nilS]
    . exact h9
    . cases e1
   have HN0:Hid (y8 w0 vN ns/\o8 w0 vF fs):=⟨hrn,hrf⟩;subst hw0;have hbM:w2.heap.size<(w2.alloc (.cells #[vN,vF,vX,vP,sl [] sS] 30)).heap.size:=by simp
   have hNA:NewAt w0 (w2.alloc (.cells #[vN,vF,vX,vP,sl [] sS] 30)) w2.heap.size vN vF vX vP (sl [] sS) [] []:=by
    have hbx:Bq w2 (w2.alloc (.cells #[vN,vF,vX,vP,sl [] sS] 30)):=boxE;refine⟨Ha.trans (hbx.mono Ha.size),Ha.size,qJ _ _,j5 hPX.1 (fun g hg=>hbx.block g (hPX.1.lt g hg).2),j5 hPP.1 (fun g hg=>hbx.block g (hPP.1.lt g hg).2),fun e=>?_,fun e=>?_,fun g hg e=>?_,fun q hq=>by cases hq⟩
    . have:=(hPX.1.lt _ e).2;omega
    . have:=(hPP.1.lt _ e).2;omega
    . have q1:=hPX.2 g hg;have q2:=hPP.2 g e;rw[q1]at q2
      cases q2
   obtain⟨w3,hw3⟩:=qE (w2.alloc (.cells #[vN,vF,vX,vP,sl [] sS] 30));rw[<- hw3]at hNA;have hDw:w.heap.size+2<=w0.heap.size:=by have:=(aSm HX1.o.2).1;omega
   have hX2:=And.intro (qK hb2 HX1.o.1) (qK hb2 HX1.o.2);have HX0:Hid (w0.heap[w.heap.size]?=some (.cells #[.slice an NN cn] 24 (0,0))/\w0.heap[w.heap.size+1]?=some (.cells #[.slice none 0 0,.slice none 0 0,.slice none 0 0,.slice none 0 0,.slice none 0 0] 30 (0,0))):=⟨(Ha.block _ qO).symm.trans hX2.1,(Ha.block _ qO).symm.trans hX2.2⟩
   have HBW:=qH (show ∀W,Bq w0 W->Bq w W from fun W hW=>by
    have h1:Bq w w2:=HB1.o.trans (hb2.mono HB1.o.size)
    refine⟨?_,?_,?_,?_,fun k hk=>?_⟩
    . exact hW.os.trans (Ha.os.symm.trans h1.os)
    . exact hW.tape.trans (Ha.tape.symm.trans h1.tape)
    . exact hW.output.trans (Ha.output.symm.trans h1.output)
    . have:=hW.size
      omega
    . rw[hW.block k qO,<- Ha.block k qO]
      exact h1.block k hk)
   have HDW:=qH hDw;have HCS:=qH hcS;have HNT:=qH (show Q1 w0 w3 w2.heap.size vN vF (sl [] sS) ns room [] 0 w2.heap.size from ⟨vX,vP,[],hNA,by simp,hNA.nX,hNA.nP⟩);have e1:(ad8 ns fs).ns.length=NN:=HL.o.1.symm;have e2:(ad8 ns fs).fs.length=NF:=HL.o.2.symm;rw[e1]at hvN;rw[e2]at hvF;subst hvN hvF hvX hvP;have Qb:Hid (Bq w0 w3):=hNA.bel;have x0':=qC hb2 x0;have hx3:w3.cell? ⟨w.heap.size,0,none⟩=some (.slice an NN cn):=by rw[hw3];exact qC boxE x0'
   have Xd:=qH (show NN<=60 by have:=HG.o.le60;have:=HL.o.1;omega);have h60:=Xd.o;have hvS':sl [] sS=.slice sS.1 0 sS.2:=rfl;rw[hvS']at hw3 HNT;unfold sl;simp only[xI];obtain⟨sa,sc⟩:=sS;simp only at hw3 HNT HCS;clear Im hRI Ha hrn hrf hPX hPP hvS hcS hNA hbM hDw hX2 hD hb2 HCL2 x0 x0' e1 e2 hvS';go_upto_region 7 with fail;rw[<- hw3];clear hw3;go_wp2_with fail;clear hx3;go_loopw [37] (fun z wr=>∃k:Nat,k<=NN/\z=.int .i64 k/\Hid (Q1 w0 wr w2.heap.size (.slice aN NN cN) (.slice aF NF cF) (.slice sa 0 sc) ns room (b8 (ns.take k)) k w2.heap.size)/\Hid (Bq w0 wr)) (fun z _=>NN-(intOf z).toNat)
   case atStart=>exact⟨0,qM _,rfl,HNT,Qb⟩
   case round=>
    obtain⟨k,hk,rfl,hnt,Aa⟩:=hrel;clear HNT Qb;by_cases hlt:k<NN
    .
     obtain⟨n,hn⟩:∃n,ns[k]?=some n:=⟨_,gEl (by have:=HL.o.1;omega)⟩;obtain⟨nb,noff,ai,ci,e1,hNA,hrp⟩:=HN.o.at hn;subst e1;obtain⟨c0,c1,c2,c3,c4,c5,c6,c7⟩:=hNA.below (HBW.o wr Aa.o);have hil:n.ins.length<=5:=(A1 (HG.o.node n (mGt hn))).1;have HNk:=qH hn;have HRP:=qH (show ∀W,Bq w0 W->D5 W (.slice ai n.ins.length ci) n.ins from fun W hW=>hrp.below (HBW.o W hW));obtain⟨IL,hIL⟩:=qE n.ins.length;have HIL:=qH hIL;rw[<- hIL]at c7 HRP hil;obtain⟨fx,hfx⟩:=qE ((⟨n.file.toArray⟩:ByteArray));obtain⟨wx0,hwx⟩:=qE ((⟨n.c.word.toArray⟩:ByteArray));obtain⟨n0,hn0⟩:=qE n.kind;obtain⟨n2,hn2⟩:=qE n.c.kind;obtain⟨n4,hn4⟩:=qE n.c.n;obtain⟨n5,hn5⟩:=qE n.how;obtain⟨n6,hn6⟩:=qE n.wide;rw[<- hn0]at c0;rw[<- hfx]at c1;rw[<- hn2]at c2;rw[<- hwx]at c3;rw[<- hn4]at c4;rw[<- hn5]at c5;rw[<- hn6]at c6
     have Qc:=qH (show ∀W,Calls prog 27 #[.agg #[.int .i64 n0,.string fx,.int .i64 n2,.string wx0,.int .i64 n4,.int .i64 n5,.int .i64 n6,.slice ai IL ci]] W fun e w'=>e=.returned (.int .i64 (nouts n))/\Bq W w' from fun W=>by
      have:=aI0 n ai IL ci W
      unfold x8 at this
      rw[<- hn0,<- hfx,<- hn2,<- hwx,<- hn4,<- hn5,<- hn6]at this
      exact this)
     obtain⟨W1,hW1⟩:=qE (wr.alloc (.cells #[.int .i64 n0,.string fx,.int .i64 n2,.string wx0,.int .i64 n4,.int .i64 n5,.int .i64 n6,.slice ai IL ci] 57));have hb1:Bq wr W1:=by rw[hW1];exact boxE
     have hbx:W1.heap[wr.heap.size]?=some (.cells #[.int .i64 n0,.string fx,.int .i64 n2,.string wx0,.int .i64 n4,.int .i64 n5,.int .i64 n6,.slice ai IL ci] 57 (0,0)):=by rw[hW1];exact qJ _ _
     have Ip:=qH (show Q1 w0 W1 w2.heap.size (.slice aN NN cN) (.slice aF NF cF) (.slice sa 0 sc) ns room (b8 (ns.take k)) k wr.heap.size by
      obtain⟨vX,vP,Q,h1,h2,_,_⟩:=hnt.out
      exact⟨vX,vP,Q,h1.below hb1,h2,fun e=>by have:=(h1.rX.lt _ e).2;omega,fun e=>by have:=(h1.rP.lt _ e).2;omega⟩)
     have Iq:=qH hbx;obtain⟨_,_,_,_,_,_,_,i7⟩:=D8 hbx;have HB1:=qT Aa hb1;have HWQ:Hid (w0.heap.size<=wr.heap.size):=Aa.o.size;clear hnt Aa hn hrp hIL hfx hwx hn0 hn2 hn4 hn5 hn6 hb1 hbx hNA;go_upto_region 10 with fail;rw[<- hW1];clear hW1 c0 c1 c2 c3 c4 c5 c6 c7;go_wp2_with fail;clear i7;obtain⟨B6,hB6⟩:=qE wr.heap.size;rw[<- hB6]at Iq HWQ Ip ⊢;clear hB6
     have HB6:=qH (show B6≠w2.heap.size from fun e=>by
      have h1:=Iq.o
      obtain⟨vX,vP,Q,h2,_⟩:=Ip.o
      rw[e,h2.box]at h1
      cases h1)
     go_loopw [44] (fun z wx=>∃j:Nat,j<=IL/\z=.int .i64 j/\Hid (Q1 w0 wx w2.heap.size (.slice aN NN cN) (.slice aF NF cF) (.slice sa 0 sc) ns room (b8 (ns.take k)++n.ins.take j) k B6)/\Hid (Bq w0 wx)/\Hid (wx.heap[B6]?=some (.cells #[.int .i64 n0,.string fx,.int .i64 n2,.string wx0,.int .i64 n4,.int .i64 n5,.int .i64 n6,.slice ai IL ci] 57 (0,0)))) (fun z _=>IL-(intOf z).toNat)
     case atStart=>exact⟨0,qM _,rfl,(show Q1 _ _ _ _ _ _ _ _ _ _ _ by simpa using Ip.o),HB1,Iq⟩
     case round=>
      obtain⟨j,hj,rfl,hnt,Aa,hbx⟩:=hrel;clear Ip HB1 Iq;by_cases Ww:j<IL
      .
       obtain⟨p,hp⟩:∃p,n.ins[j]?=some p:=⟨_,gEl (by have:=HIL.o;omega)⟩;have Eg:=HRP.o _ Aa.o;obtain⟨pb,poff,e2,p0,p1⟩:=Eg.at hp;subst e2;have hpl:=S3 Eg;obtain⟨pi,pk,pm,hpe,hpik,hpm,_⟩:=HG.o.src HNk.o hp;obtain⟨nb',noff',bi,di,e3,Qd,_⟩:=HN.o.at hpm;injection e3 with e3;injection e3 with e3 e4;subst e3 e4;obtain⟨c0,c1,c2,c3,c4,c5,c6,c7⟩:=Qd.below (HBW.o wr Aa.o);obtain⟨vX,vP,Q,Cd,hQm,hx1,hx2⟩:=hnt.out;have hRm:roomOf ns room p=if pm.kind=2 then 0 else room:=by unfold roomOf;rw[hpe];simp only[qh,hpm,xG,qe]
       have HRB:=qH (show ∀W,Calls prog 26 #[x8 pm bi pm.ins.length di,.int .i64 room] W fun e w'=>e=.returned (.int .i64 (roomOf ns room p))/\Bq W w' from fun W=>by rw[hRm];exact aT1 pm bi pm.ins.length di room W);have hrm:0<=roomOf ns room p/\roomOf ns room p<=1000:=by rw[hRm];split <;> omega
       have HPN:=qH (show ∀W,Calls prog 25 #[.int .i64 (roomOf ns room p)] W fun e w'=>e=.returned (.tuple #[.agg #[.slice none 0 0,.int .i64 (roomOf ns room p),.bool false,.bool false],.int .i64 0])/\Bq W w' from fun W=>by
        have:=ce7 (roomOf ns room p) W
        unfold pnew at this
        rw[qB qO]at this
        exact this)
       unfold x8 at HRB;have hpi:p.1=(pi:Int):=by rw[hpe]
       rw[hpi]at p0;obtain⟨RM,hRM⟩:=qE (roomOf ns room p);have HRM:=qH hRM;rw[<- hRM]at HRB HPN;have hx0:wr.cell? ⟨w.heap.size,0,none⟩=some (.slice (some ⟨nb,noff,none⟩) NN cn):=by have h1:=(Aa.o.block _ (by have:=HDW.o;omega)).trans HX0.o.1;rw[qY _ _ _ _ _ _ h1];rfl
       have HNA:=qH Cd;have HQM:=qH hQm;have HXP:Hid (vX.ownBlock≠some B6/\vP.ownBlock≠some B6):=⟨hx1,hx2⟩;have HP:=qH hp;have hpin:pi<NN:=qO;generalize pm.kind=m0,(⟨pm.file.toArray⟩:ByteArray)=m1,pm.c.kind=m2,(⟨pm.c.word.toArray⟩:ByteArray)=m3,pm.c.n=m4,pm.how=m5,pm.wide=m6,pm.ins.length=m7,p.2=pq at *;have fx0:=fun o=>((boxE (w:=wr) (o:=o)).cell (bLt wr _ hx0)).trans hx0;have fc0:=fun o=>((boxE (w:=wr) (o:=o)).cell (bLt wr _ c0)).trans c0;have fc1:=fun o=>((boxE (w:=wr) (o:=o)).cell (bLt wr _ c1)).trans c1;have fc2:=fun o=>((boxE (w:=wr) (o:=o)).cell (bLt wr _ c2)).trans c2;have fc3:=fun o=>((boxE (w:=wr) (o:=o)).cell (bLt wr _ c3)).trans c3;have fc4:=fun o=>((boxE (w:=wr) (o:=o)).cell (bLt wr _ c4)).trans c4;have fc5:=fun o=>((boxE (w:=wr) (o:=o)).cell (bLt wr _ c5)).trans c5;have fc6:=fun o=>((boxE (w:=wr) (o:=o)).cell (bLt wr _ c6)).trans c6;have fc7:=fun o=>((boxE (w:=wr) (o:=o)).cell (bLt wr _ c7)).trans c7;clear Eg hp hpm hpe Qd Cd hQm hx1 hx2 hRm hRM hnt hpi;go_wp2_with fail;refine qD (HRB.o _) ?_;rintro e y2⟨rfl,hb2⟩;have HB2:Hid (Bq wr y2):=boxE.trans (hb2.mono boxE.size);clear hb2 HRB fx0 fc0 fc1 fc2 fc3 fc4 fc5 fc6 fc7 c0 c1 c2 c3 c4 c5 c6 c7 hx0;go_wp2_with fail;refine qD (HPN.o _) ?_;rintro e y3⟨rfl,hb3⟩;have HB3:=qT HB2 hb3;obtain⟨y4,hy4⟩:=qE (y3.alloc (.cells #[.slice none 0 0,.int .i64 RM,.bool false,.bool false] 61));obtain⟨y5,hy5⟩:=qE (y4.alloc (.cells #[.slice none 0 0,.int .i64 RM,.bool false,.bool false] 61));have hb4:Bq wr y4:=by rw[hy4];exact HB3.o.alloc HB3.o.size _
       have hb5:Bq wr y5:=by rw[hy5];exact hb4.alloc hb4.size _
       have hbp:y5.heap[y4.heap.size]?=some (.cells #[.slice none 0 0,.int .i64 RM,.bool false,.bool false] 61 (0,0)):=by rw[hy5];exact qJ _ _
       have Qe:y4.heap[y3.heap.size]?=some (.cells #[.slice none 0 0,.int .i64 RM,.bool false,.bool false] 61 (0,0)):=by rw[hy4];exact qJ _ _
       have hN4:=HNA.o.below hb4;have hN5:=HNA.o.below hb5;obtain⟨_,_,b2,_,_,_⟩:=i8 hN4.box
       obtain⟨v',w',Ae,⟨a',c',hv'⟩,hbM,hkp,hof,hN6⟩:=NewAt.pipe hN5 (by rw[qS,qI,qX];have h1:=bY7 HG.o k;have:=HIL.o;omega) (ad:=⟨y4.heap.size,0,none⟩) (c:=1) (r:=RM) (fun q u hu=>by
        rw[addP,qY _ _ _ _ _ _ hbp,qk]
        rw[<- xH]
        exact hu) 26
       obtain⟨⟨aX',cX',Qf,_,_⟩,_⟩:=g8 hN5.rX;have hwb:=hbM.trans hN5.box;obtain⟨_,_,d2,_,_,df⟩:=i8 hwb;have df2:=df 2;obtain⟨Z,hZ⟩:=qE (w'.setCell ⟨w2.heap.size,2,none⟩ v');rw[<- hZ]at hN6;have Ir:B6<wr.heap.size:=(aSm hbx.out).1
       have Rz:=qH (show Z.heap[B6]?=some (.cells #[.int .i64 n0,.string fx,.int .i64 n2,.string wx0,.int .i64 n4,.int .i64 n5,.int .i64 n6,.slice (some ⟨pb,poff,none⟩) IL ci] 57 (0,0)) by
        rw[hZ,Below.heap_setCell _ _ _ _ HB6.o,hkp B6 (by have:=hb5.size;omega) (.inr HXP.o.1),hb5.block B6 Ir]
        exact hbx.out)
       have Si:=qH (show Q1 w0 Z w2.heap.size (.slice aN NN cN) (.slice aF NF cF) (.slice sa 0 sc) ns room (b8 (ns.take k)++n.ins.take (j+1)) k B6 by
        refine⟨v',vP,Q,?_,HQM.o,hof B6 (by have:=hb5.size;omega) HXP.o.1,HXP.o.2⟩
        have e5:(b8 (ns.take k)++n.ins.take j).map (roomOf ns room)++[RM]=(b8 (ns.take k)++n.ins.take (j+1)).map (roomOf ns room):=by
         rw[qZ,HP.o,HRM.o]
         simp
        rw[<- e5]
        exact hN6)
       have Sj:Hid (Bq w0 Z):=hN6.bel;have Au:Hid _:=Ae;rw[Qf]at Au b2 d2;rw[hv']at Au hZ;generalize ((b8 (ns.take k)++n.ins.take j).map (roomOf ns room)).length=LL at *;rw[hy5]at Au;obtain⟨g0,g1,g2,g3⟩:=C9 Qe;clear hN4 hN5 hN6 hkp hof Ae hbM hwb df hbp Qe hb4 hb5 Qf hv' hy5 hb3 HPN;go_upto_region 14 with fail;rw[<- hy4];clear hy4;go_upto_region 17 with (at_builtin;refine j4 _ rfl (.tmp 65) (.tmp 67) 26 rfl _ _ rfl rfl Au.o ?_);rw[<- hZ];clear hZ Au b2 d2 df2 g0 g1 g2 g3;go_wp2_with fail;go_roundw
       case rel=>exact⟨j+1,qO,by go_num,Si,Sj,Rz⟩
       case measure=>simp[intOf];omega
      .
       obtain⟨vX,vP,Q,Cd,hQm,hx1,hx2⟩:=hnt.out;have ej:j=IL:=qO;have hQl:Q.length=k:=by have:=congrArg List.length hQm;rw[qS,qS,qX]at this;have:=HL.o.1;omega
       have hch:=HG.o.node n (mGt HNk.o);obtain⟨OL,hOL⟩:∃z:Nat,nouts n=(z:Int):=qm (aj6 hch);have hol:OL<=5:=by have:=aw8 hch;omega
       obtain⟨⟨aP',cP',Ci,_,_⟩,_⟩:=g8 Cd.rP;have hLe:(b8 (ns.take k)++n.ins.take j)=b8 (ns.take (k+1)):=by rw[af5 HNk.o,ej,HIL.o,qj]
       obtain⟨i0,hi,hi0,hi1,hi2⟩:=info_parts ah6;have hmk:∀(m:Nat)(W:World),m<=5->(Instr.makeSlice 62 (.int .i64 (m:Int)) (.int .i64 (m:Int))).run prog W=.ok (.slice (some ⟨W.heap.size,0,none⟩) m m) (W.alloc (.cells (madeCells (Value.slice none 0 0).cells m) 28)):=fun m W hm=>by have:=run_makeSlice (P:=prog) W 62 28 i0 (.slice none 0 0) underlying62 hi hi0 .i64 .i64 (m:Int) (m:Int) qO qO (by rw[hi1];omega) (by rw[hi2];omega) qO;rw[hi1,qh,zI]at this;exact this
       have hmc:∀m j,j<m->(madeCells (Value.slice none 0 0).cells m)[j]?=some (.slice none 0 0):=fun m j hj=>by have h1:=xK (.slice none 0 0) m;rw[<- xH];show (madeCells #[Value.slice none 0 0] m).toList[j]?=_;rw[h1,xP,qF hj]
       have hm1:=fun W=>hmk IL W hil;have hm2:=fun W=>hmk OL W hol;obtain⟨C1,hC1⟩:=qE (madeCells (Value.slice none 0 0).cells IL);obtain⟨C2,hC2⟩:=qE (madeCells (Value.slice none 0 0).cells OL);rw[<- hC1]at hm1;rw[<- hC2]at hm2;have HC1:=qH (show ∀j,j<IL->C1[j]?=some (.slice none 0 0) from fun j hj=>by rw[hC1];exact hmc IL j hj);have HC2:=qH (show ∀j,j<OL->C2[j]?=some (.slice none 0 0) from fun j hj=>by rw[hC2];exact hmc OL j hj);have Ir:B6<wr.heap.size:=(aSm hbx.out).1;have Qg:w2.heap.size<wr.heap.size:=(aSm Cd.box).1;obtain⟨_,_,_,b3,_,bf⟩:=i8 Cd.box;rw[Ci]at b3;have bf3:=bf 3;obtain⟨i0',i1',i2',i3',i4',i5',i6',i7'⟩:=D8 hbx.out
       have Ao:Hid (∀(W w':World)(v':Value)(gg go:Nat),w'.heap[w2.heap.size]?=wr.heap[w2.heap.size]? -> NewAt w0 (w'.setCell ⟨w2.heap.size,3,none⟩ v') w2.heap.size (.slice aN NN cN) (.slice aF NF cF) vX v' (.slice sa 0 sc) ((b8 (ns.take k)++n.ins.take j).map (roomOf ns room)) (Q++[⟨IL,OL,gg,go⟩])->Q1 w0 (w'.setCell ⟨w2.heap.size,3,none⟩ v') w2.heap.size (.slice aN NN cN) (.slice aF NF cF) (.slice sa 0 sc) ns room (b8 (ns.take (k+1))) (k+1) w2.heap.size/\Bq w0 (w'.setCell ⟨w2.heap.size,3,none⟩ v')):=(show ∀(W w':World)(v':Value)(gg go:Nat),_ from fun W w' v' gg go _ h1=>by
        rw[hLe]at h1
        refine⟨⟨vX,v',_,h1,?_,h1.nX,h1.nP⟩,h1.bel⟩
        rw[xF,hQm,qZ,HNk.o,xF]
        simp[hOL,HIL.o])
       have HPX:Hid (∀(y W:World)(ad gg go:Nat),Bq wr y->Bq y W->wr.heap.size<=gg/\gg<y.heap.size->wr.heap.size<=go/\go<y.heap.size->y.heap[gg]?=some (.cells C1 28 (0,0))->y.heap[go]?=some (.cells C2 28 (0,0))->y.heap[ad]?=some (.cells #[.slice (some ⟨gg,0,none⟩) IL IL,.int .i64 0,.slice (some ⟨go,0,none⟩) OL OL,.bool false,.bool false] 64 (0,0)) ->
        ∃v' w',(Builtin.append_ #[27,27] 27 #[.slice aP' k cP',.slice (some ⟨ad,0,none⟩) 1 1]).run prog W=.ok v' w'/\∃a' c',v'=.slice a' (k+1) c'/\w'.cell? ⟨w2.heap.size,3,none⟩=some (.slice aP' k cP')/\w'.frozen? ⟨w2.heap.size,3,none⟩=false/\(ak6 wr.heap.size W w'/\Bq w0 w')/\Hid (Q1 w0 (w'.setCell ⟨w2.heap.size,3,none⟩ (.slice a' (k+1) c')) w2.heap.size (.slice aN NN cN) (.slice aF NF cF) (.slice sa 0 sc) ns room (b8 (ns.take (k+1))) (k+1) w2.heap.size/\Bq w0 (w'.setCell ⟨w2.heap.size,3,none⟩ (.slice a' (k+1) c')))):=(show ∀(y W:World)(ad gg go:Nat),_ from fun y W ad gg go q1 q2 q3 q4 q5 q6 q7=>by
        obtain⟨v',w',r1,⟨a',c',r2⟩,r3,r5,r6,r7,r4⟩:=NewAt.procX Cd qO q1 q2 (il:=IL) (ol:=OL) qO qO q3 q4 q5 q6 HC1.o HC2.o q7 27
        rw[Ci,hQl]at r1
        rw[hQl]at r2
        have hbw:=r3.trans Cd.box
        obtain⟨_,_,_,d3,_,df⟩:=i8 hbw
        rw[Ci,hQl]at d3
        subst r2
        exact⟨_,w',r1,a',c',rfl,d3,df 3,⟨fun g hg hgs=>r6 g hgs (fun e=>by have:=(Cd.rP.lt g e).2;omega),r7⟩,Ao.o W w' _ gg go r3 r4⟩)
       rw[hQl]at b3;rw[hOL]at Qc;have HBB:=qH Aa;have HWR:Hid (w0.heap.size<=wr.heap.size):=Aa.o.size;have Xe:=hbx;clear hnt Cd hQm hx1 hx2 hQl hch hOL Ci hLe hi hi0 hi1 hi2 hmk hmc hC1 hC2 bf Ao hbx ej;have HI8:=qH (show ∀W,Bq wr W->W.heap[B6]?=some (.cells #[.int .i64 n0,.string fx,.int .i64 n2,.string wx0,.int .i64 n4,.int .i64 n5,.int .i64 n6,.slice ai IL ci] 57 (0,0))/\W.cell? ⟨w2.heap.size,3,none⟩=some (.slice aP' k cP') from fun W hW=>⟨(hW.block B6 Ir).trans Xe.o,qC hW b3⟩);have Xf:=qH Qg;have HM1:=qH hm1;have HM2:=qH hm2;clear hm1 hm2 b3 bf3 i0' i1' i2' i3' i4' i5' i6' i7' Ir Qg;go_upto_region 18 with fail;refine at1 qQ qQ (fun L a W=>NI 71 w0 wr w2.heap.size B6 (.slice aP' k cP') (.agg #[.int .i64 n0,.string fx,.int .i64 n2,.string wx0,.int .i64 n4,.int .i64 n5,.int .i64 n6,.slice ai IL ci]) (.slice ai IL ci) IL OL C1 C2 k (fun Z=>Q1 w0 Z w2.heap.size (.slice aN NN cN) (.slice aF NF cF) (.slice sa 0 sc) ns room (b8 (ns.take (k+1))) (k+1) w2.heap.size/\Bq w0 Z) ?A0 L a W) ?hs ?he ?h0
       case h0=>exact NI.start _ HBB.o
       case he=>
        intro L a W An hI;have hf:=hI.ov.form (show 71+13<=86 by decide);have HF2:Hid (Q1 w0 W w2.heap.size (.slice aN NN cN) (.slice aF NF cF) (.slice sa 0 sc) ns room (b8 (ns.take (k+1))) (k+1) w2.heap.size/\Bq w0 W):=hI.p2 (An 13 (by decide));rw[hf,show List.range 13=[0,1,2,3,4,5,6,7,8,9,10,11,12] from rfl];simp only[List.foldl,Nat.reduceAdd];clear hf An hI;generalize a.eval (.tmp 71)=x71;generalize a.eval (.tmp 72)=x72;generalize a.eval (.tmp 73)=x73;generalize a.eval (.tmp 74)=x74;generalize a.eval (.tmp 75)=x75;generalize a.eval (.tmp 76)=x76;generalize a.eval (.tmp 77)=x77;generalize a.eval (.tmp 78)=x78;generalize a.eval (.tmp 79)=x79;generalize a.eval (.tmp 80)=x80;generalize a.eval (.tmp 81)=x81;generalize a.eval (.tmp 82)=x82;generalize a.eval (.tmp 83)=x83;simp only[Act.put,List.setIfInBounds_toArray,List.set];go_wp2_with fail;go_roundw
        case rel=>exact⟨k+1,qO,by go_num,HF2.o.1,HF2.o.2⟩
        case measure=>simp[intOf];omega
       case hs=>
        intro L i o a W ho hL Bh hI;have hi:i<14:=by have:=(aSm ho).1;simpa using this
        have Gi:i=0\/i=1\/i=2\/i=3\/i=4\/i=5\/i=6\/i=7\/i=8\/i=9\/i=10\/i=11\/i=12\/i=13:=qO;clear hi;have hsz:71+13<=86:=by decide
        rcases Gi with rfl | rfl | rfl | rfl | rfl | rfl | rfl | rfl | rfl | rfl | rfl | rfl | rfl | rfl
        . obtain rfl:o=_:=(qd ho).symm;refine D9 ho (by simp[Region.wanted]) ?_;unfold Oper.wp;have o9:a.eval (.tmp 9)=.pointer (some ⟨w2.heap.size,0,none⟩):=(hI.ov.old (by decide)).trans rfl;simp only[Act.eval,qN]at o9;go_simp;exact hI.put hL (by decide) hsz HWR.o (Below.refl _ _) rfl (by simp[H9])
        . obtain rfl:o=_:=(qd ho).symm;have d0:L 0=true:=Bh ⟨0,.data⟩ (by simp) rfl;refine D9 ho (by simp[Region.wanted]) ?_;unfold Oper.wp;have e71:a.eval (.tmp 71)=.pointer (some ⟨w2.heap.size,3,none⟩):=hI.ov.vs 0 (by decide) d0;have hbW:=hI.p0 (hI.not11 hL (by decide));obtain⟨i0,i1,i2,i3,i4,i5,i6,i7⟩:=D8 (HI8.o W hbW).1;have b3:=(HI8.o W hbW).2;simp only[Act.eval,qN]at e71;go_simp;exact hI.put hL (by decide) hsz HWR.o (Below.refl _ _) rfl (by simp[H9,d0])
        . obtain rfl:o=_:=(qd ho).symm;refine D9 ho (by simp[Region.wanted]) ?_;unfold Oper.wp;have o11:a.eval (.tmp 11)=.pointer (some ⟨B6,0,none⟩):=(hI.ov.old (by decide)).trans rfl;simp only[Act.eval,qN]at o11;go_simp;exact hI.put hL (by decide) hsz HWR.o (Below.refl _ _) rfl (by simp[H9])
        . obtain rfl:o=_:=(qd ho).symm;have d2:L 2=true:=Bh ⟨2,.data⟩ (by simp) rfl;refine D9 ho (by simp[Region.wanted]) ?_;unfold Oper.wp;have e73:a.eval (.tmp 73)=.pointer (some ⟨B6,7,none⟩):=hI.ov.vs 2 (by decide) d2;have hbW:=hI.p0 (hI.not11 hL (by decide));obtain⟨i0,i1,i2,i3,i4,i5,i6,i7⟩:=D8 (HI8.o W hbW).1;have b3:=(HI8.o W hbW).2;simp only[Act.eval,qN]at e73;go_simp;exact hI.put hL (by decide) hsz HWR.o (Below.refl _ _) rfl (by simp[H9,d2])
        . obtain rfl:o=_:=(qd ho).symm;have d3:L 3=true:=Bh ⟨3,.data⟩ (by simp) rfl;refine D9 ho (by simp[Region.wanted]) ?_;unfold Oper.wp;have e74:a.eval (.tmp 74)=.slice ai IL ci:=hI.ov.vs 3 (by decide) d3;simp only[Act.eval,qN]at e74;go_simp;exact hI.put hL (by decide) hsz HWR.o (Below.refl _ _) rfl (by simp[H9,d3])
        . obtain rfl:o=_:=(qd ho).symm;have d4:L 4=true:=Bh ⟨4,.data⟩ (by simp) rfl;refine D9 ho (by simp[Region.wanted]) ?_;unfold Oper.wp;have e75:a.eval (.tmp 75)=.int .i64 (IL:Int):=hI.ov.vs 4 (by decide) d4;have hbW:=hI.p0 (hI.not11 hL (by decide));have hm:=HM1.o W;simp only[Act.eval,qN]at e75;go_simp;exact hI.put hL (by decide) hsz HWR.o boxE ⟨W.heap.size,rfl,hbW.size,qJ _ _⟩ (by simp[H9,d4])
        . obtain rfl:o=_:=(qd ho).symm;refine D9 ho (by simp[Region.wanted]) ?_;unfold Oper.wp;have o11:a.eval (.tmp 11)=.pointer (some ⟨B6,0,none⟩):=(hI.ov.old (by decide)).trans rfl;have hbW:=hI.p0 (hI.not11 hL (by decide));obtain⟨i0,i1,i2,i3,i4,i5,i6,i7⟩:=D8 (HI8.o W hbW).1;have b3:=(HI8.o W hbW).2;simp only[Act.eval,qN]at o11;go_simp;exact hI.put hL (by decide) hsz HWR.o (Below.refl _ _) rfl (by simp[H9])
        . obtain rfl:o=_:=(qd ho).symm;have d6:L 6=true:=Bh ⟨6,.data⟩ (by simp) rfl;refine D9 ho (by simp[Region.wanted]) ?_;unfold Oper.wp;have e77:a.eval (.tmp 77)=.agg #[.int .i64 n0,.string fx,.int .i64 n2,.string wx0,.int .i64 n4,.int .i64 n5,.int .i64 n6,.slice ai IL ci]:=hI.ov.vs 6 (by decide) d6;simp only[Act.eval,qN]at e77;go_simp;refine qD (Qc.o W) ?_;rintro e w7⟨rfl,hb7⟩;exact hI.put hL (by decide) hsz HWR.o hb7 rfl (by simp[H9,d6])
        . obtain rfl:o=_:=(qd ho).symm;have d7:L 7=true:=Bh ⟨7,.data⟩ (by simp) rfl;refine D9 ho (by simp[Region.wanted]) ?_;unfold Oper.wp;have e78:a.eval (.tmp 78)=.int .i64 (OL:Int):=hI.ov.vs 7 (by decide) d7;have hbW:=hI.p0 (hI.not11 hL (by decide));have hm:=HM2.o W;simp only[Act.eval,qN]at e78;go_simp;exact hI.put hL (by decide) hsz HWR.o boxE ⟨W.heap.size,rfl,hbW.size,qJ _ _⟩ (by simp[H9,d7])
        . obtain rfl:o=_:=(qd ho).symm;have d5:L 5=true:=Bh ⟨5,.data⟩ (by simp) rfl;have d8:L 8=true:=Bh ⟨8,.data⟩ (by simp) rfl;refine D9 ho (by simp[Region.wanted]) ?_;unfold Oper.wp;obtain⟨gg,e76,g1,g2⟩:∃gg,a.eval (.tmp 76)=.slice (some ⟨gg,0,none⟩) IL IL/\wr.heap.size<=gg/\W.heap[gg]?=some (.cells C1 28 (0,0)):=hI.ov.vs 5 (by decide) d5;obtain⟨go,e79,g3,g4⟩:∃go,a.eval (.tmp 79)=.slice (some ⟨go,0,none⟩) OL OL/\wr.heap.size<=go/\W.heap[go]?=some (.cells C2 28 (0,0)):=hI.ov.vs 8 (by decide) d8;simp only[Act.eval,qN]at e76 e79;go_simp;exact hI.put hL (by decide) hsz HWR.o (Below.refl _ _) ⟨gg,go,rfl,⟨g1,g2⟩,⟨g3,g4⟩⟩ (by simp[H9,d5,d8])
        . obtain rfl:o=_:=(qd ho).symm;have d9:L 9=true:=Bh ⟨9,.data⟩ (by simp) rfl;refine D9 ho (by simp[Region.wanted]) ?_;unfold Oper.wp;have hbW:=hI.p0 (hI.not11 hL (by decide));obtain⟨gg,go,e80,⟨g1,g2⟩,⟨g3,g4⟩⟩:∃gg go,a.eval (.tmp 80)=.agg #[.slice (some ⟨gg,0,none⟩) IL IL,.int .i64 0,.slice (some ⟨go,0,none⟩) OL OL,.bool false,.bool false]/\(wr.heap.size<=gg/\W.heap[gg]?=some (.cells C1 28 (0,0)))/\(wr.heap.size<=go/\W.heap[go]?=some (.cells C2 28 (0,0))):=hI.ov.vs 9 (by decide) d9;simp only[Act.eval,qN]at e80;go_simp;exact hI.put hL (by decide) hsz HWR.o boxE ⟨W.heap.size,gg,go,rfl,⟨hbW.size,qJ _ _⟩,⟨g1,qK boxE g2⟩,⟨g3,qK boxE g4⟩⟩ (by simp[H9,d9])
        . obtain rfl:o=_:=(qd ho).symm;have d1:L 1=true:=Bh ⟨1,.data⟩ (by simp) rfl;have d10:L 10=true:=Bh ⟨10,.data⟩ (by simp) rfl;show wpOp _ _ _ 11 (fun a' W'=>NI 71 w0 wr w2.heap.size B6 (.slice aP' k cP') (.agg #[.int .i64 n0,.string fx,.int .i64 n2,.string wx0,.int .i64 n4,.int .i64 n5,.int .i64 n6,.slice ai IL ci]) (.slice ai IL ci) IL OL C1 C2 k (fun Z=>Q1 w0 Z w2.heap.size (.slice aN NN cN) (.slice aF NF cF) (.slice sa 0 sc) ns room (b8 (ns.take (k+1))) (k+1) w2.heap.size/\Bq w0 Z) _ (updV L 11) a' W') a W;unfold wpOp;rw[ho];simp only;rw[qF (by simp[Region.wanted])];refine Or.inl ?_;have e72:a.eval (.tmp 72)=.slice aP' k cP':=hI.ov.vs 1 (by decide) d1;obtain⟨ad,gg,go,e81,⟨g0,g5⟩,⟨g1,g2⟩,⟨g3,g4⟩⟩:∃ad gg go,a.eval (.tmp 81)=.slice (some ⟨ad,0,none⟩) 1 1/\(wr.heap.size<=ad/\W.heap[ad]?=some (.cells #[.slice (some ⟨gg,0,none⟩) IL IL,.int .i64 0,.slice (some ⟨go,0,none⟩) OL OL,.bool false,.bool false] 64 (0,0)))/\(wr.heap.size<=gg/\W.heap[gg]?=some (.cells C1 28 (0,0)))/\(wr.heap.size<=go/\W.heap[go]?=some (.cells C2 28 (0,0))):=hI.ov.vs 10 (by decide) d10;have hbW:=hI.p0 hL;obtain⟨v',w',Ae,a',c',rfl,z3,zf,hkp,hh⟩:=HPX.o W W ad gg go hbW (Below.refl _ _) ⟨g1,(aSm g2).1⟩ ⟨g3,(aSm g4).1⟩ g2 g4 g5;have An:∀j,j<=10->L j=true:=hI.dc.all d1 d10;unfold Oper.wp;simp[execOp,resolve,invoke,builtin,e72,e81,Ae,Result.andThen];exact hI.put11 hsz hL An hkp.1 hkp.2 z3 zf hh.out
        . obtain rfl:o=_:=(qd ho).symm;refine D9 ho (by simp[Region.wanted]) ?_;unfold Oper.wp;have o9:a.eval (.tmp 9)=.pointer (some ⟨w2.heap.size,0,none⟩):=(hI.ov.old (by decide)).trans rfl;simp only[Act.eval,qN]at o9;go_simp;exact hI.put12 hsz
        . obtain rfl:o=_:=(qd ho).symm;have d11:L 11=true:=Bh ⟨11,.data⟩ (by simp) rfl;have d12:L 12=true:=Bh ⟨12,.data⟩ (by simp) rfl;show wpOp _ _ _ 13 (fun a' W'=>NI 71 w0 wr w2.heap.size B6 (.slice aP' k cP') (.agg #[.int .i64 n0,.string fx,.int .i64 n2,.string wx0,.int .i64 n4,.int .i64 n5,.int .i64 n6,.slice ai IL ci]) (.slice ai IL ci) IL OL C1 C2 k (fun Z=>Q1 w0 Z w2.heap.size (.slice aN NN cN) (.slice aF NF cF) (.slice sa 0 sc) ns room (b8 (ns.take (k+1))) (k+1) w2.heap.size/\Bq w0 Z) _ (updV L 13) a' W') a W;unfold wpOp;rw[ho];simp only;rw[qF (by simp[Region.wanted])];refine Or.inl ?_;have e83:a.eval (.tmp 83)=.pointer (some ⟨w2.heap.size,3,none⟩):=hI.ov.vs 12 (by decide) d12;obtain⟨a',c',e82,q1,q2,q3⟩:=hI.p1 d11 hL;have e82:a.eval (.tmp 82)=_:=e82;unfold Oper.wp;simp only[Act.eval,qN]at e83 e82;go_simp;exact hI.put13 d11 (fun g hg hgs=>Below.heap_setCell _ _ _ _ (by have:=Xf.o;show g≠w2.heap.size;omega)) q3.2 q3
    .
     have ek:k=NN:=qO;obtain⟨vX,vP,Q,hNA,hQm,_,_⟩:=hnt.out;have ek':k=ns.length:=by have:=HL.o.1;omega
     rw[ek',qj]at hNA hQm;have hX2:=(Aa.o.block _ (by have:=HDW.o;omega)).trans HX0.o.2;have Gt:Z7 wr (w.heap.size+1):=br5 hX2;obtain⟨⟨aX9,cX9,Qh,_,_⟩,_⟩:=g8 hNA.rX;obtain⟨⟨aP9,cP9,Qi,_,_⟩,_⟩:=g8 hNA.rP
     have HMA:=qH (show ∀wF:World,(∀g,g≠w.heap.size+1->wF.heap[g]?=wr.heap[g]?)->E7 wF (.agg #[.slice aN NN cN,.slice aF NF cF,vX,vP,.slice sa 0 sc]) (E4 ns fs room) from fun wF hwF=>by
      obtain⟨bn,bf,bx,bp,dn,df,dx,dp,e1,e2,e3,e4,hRM⟩:=NewAt.mach hNA (ns:=ns) (fs:=fs) HN0.o.1 HN0.o.2 rfl HCS.o (M:=E4 ns fs room) rfl rfl (by unfold E4;simp[zP]) (by
       unfold E4
       have h1:=congrArg (List.map (fun(p:Nat × Nat)=>(⟨List.replicate p.1 [],0,List.replicate p.2 [],false,false⟩:SProc))) hQm
       rw[zP,zP]at h1
       exact h1.symm) rfl wF (fun g hg=>hwF g (by have:=HDW.o;omega)) (ap2 (X:=fun k=>k=w.heap.size+1) (HN0.o.1.below Aa.o) (fun x hx=>by rw[hx];exact Gt) hwF) (ap5 (X:=fun k=>k=w.heap.size+1) (HN0.o.2.below Aa.o) (fun x hx=>by rw[hx];exact Gt) hwF)
      exact⟨bn,bf,bx,bp,sa,dn,df,dx,dp,sc,by unfold machV;rw[<- e1,<- e2,<- e3,<- e4];rfl,hRM⟩)
     obtain⟨c0,c1,c2,c3,c4,_⟩:=i8 hNA.box;obtain⟨y0,y1,y2,y3,y4,yf⟩:=i8 hX2;have yf0:=yf 0;have yf1:=yf 1;have yf2:=yf 2;have yf3:=yf 3;have yf4:=yf 4;have Xg:w2.heap.size≠w.heap.size+1:=by have:=hNA.lo;have:=HDW.o;omega
     have hbMw':w.heap.size+1≠w2.heap.size:=fun e=>Xg e.symm;have HBF:Hid (Bq w wr):=HBW.o wr Aa.o;rw[Qh]at c2 HMA;rw[Qi]at c3 HMA;generalize ((b8 ns).map (roomOf ns room)).length=LX,Q.length=LP at *;clear hnt hNA hQm hX2 Gt yf Qh Qi Aa;go_wp2_with fail;(try simp only[Exit.inBlock,Exit.then])
     refine qx (v:=.tuple #[.agg #[.slice aN NN cN,.slice aF NF cF,.slice aX9 LX cX9,.slice aP9 LP cP9,.slice sa 0 sc],.int .i64 0]) ?_ rfl ?_
     . rw[results_cell_tmp rfl];go_simp
     . rw[HR.o];refine⟨_,rfl,HMA.o _ (fun g hg=>?_),?_⟩
       . rw[Below.heap_setCell _ _ _ _ hg,Below.heap_setCell _ _ _ _ hg,Below.heap_setCell _ _ _ _ hg,Below.heap_setCell _ _ _ _ hg,Below.heap_setCell _ _ _ _ hg]
       . repeat (first|refine Below.setCell ?_ (by simp) _ | exact HBF.o)
 .
  have HR:=qH (show RES=(I4,K) by rw[HNS.o,qF h0]);clear HNS HK0 HCL;go_wp2_with fail;(try simp only[Exit.inBlock,Exit.then])
  refine qx (v:=.tuple #[.agg #[.slice none 0 0,.slice none 0 0,.slice none 0 0,.slice none 0 0,.slice none 0 0],.int .i64 K]) ?_ rfl ?_
  . rw[results_cell_tmp rfl];go_simp
  . rw[HR.o];exact⟨_,rfl,E7.zero _,by repeat (first|refine Below.setCell ?_ (by simp) _ | exact HB1.o)⟩
def ax2(x y:SNode):Bool:=decide (x.kind=y.kind) && decide (x.file=y.file) && (decide (x.c.kind=y.c.kind) && decide (x.c.word=y.c.word) && decide (x.c.n=y.c.n)) && decide (x.how=y.how) && decide (x.wide=y.wide) && decide (x.ins=y.ins)
def Y1:List SNode->List SNode->Bool
 | [],[]=>true
 | x::r,y::s=>ax2 x y && Y1 r s
 | _,_=>false
theorem aG2:∀{a b:List SNode},a.length≠b.length->Y1 a b=false
 | [],[],h=>absurd rfl h
 | [],_::_,_=>rfl
 | _::_,[],_=>rfl
 | x::r,y::s,h=>by show (ax2 x y && Y1 r s)=false;rw[aG2 (a:=r) (b:=s) (by simpa using h)];simp
theorem aA9:∀{a b:List SNode}{k:Nat}{x y:SNode},a[k]?=some x->b[k]?=some y->Y1 (a.drop k) (b.drop k)=(ax2 x y && Y1 (a.drop (k+1)) (b.drop (k+1)))
 | [],_,k,x,y,h,_=>by simp at h
 | _::_,[],k,x,y,_,h=>by simp at h
 | u::r,v::s,0,x,y,h1,h2=>by simp at h1 h2;subst h1 h2;rfl
 | u::r,v::s,k+1,x,y,h1,h2=>by simpa using aA9 (a:=r) (b:=s) (k:=k) (x:=x) (y:=y) (by simpa using h1) (by simpa using h2)
theorem bh6{a:List (Int × Int)}(h:a.take k=b.take k)(hx:a[k]?=some x)(hy:b[k]?=some x):a.take (k+1)=b.take (k+1):=by rw[qZ,qZ,h,hx,hy]
theorem cd6{a:List (Int × Int)}(hx:a[k]?=some x)(hy:b[k]?=some y)(h:x≠y):a≠b:=by intro e;rw[e,hy]at hx;injection hx with hx;exact h hx.symm
theorem bP5(au av:Option Addr)(cu cv:Nat)(a b:List (Int × Int))(w:World)(ha:D5 w (.slice au a.length cu) a)(hb:D5 w (.slice av b.length cv) b):
 Calls prog 75 #[.slice au a.length cu,.slice av b.length cv] w fun e w'=>e=.returned (.bool (decide (a=b)))/\Bq w w':=by
 have m2:=S3 ha;have m4:=S3 hb;have HA:=qH ha;have HB:=qH hb;obtain⟨NA,hNA⟩:=qE a.length;obtain⟨NB,hNB⟩:=qE b.length;have HNA:=qH hNA;have HNB:=qH hNB;have hA1:NA<=9223372036854775807:=qO;have hB1:NB<=9223372036854775807:=qO;rw[<- hNA,<- hNB];rw[<- hNA]at HA;rw[<- hNB]at HB;clear ha hb m2 m4 hNA hNB;by_cases hne:NA=NB
 .
  subst hne;go_enter func75,ntmps75;go_wp2_with fail;go_loopw [13] (fun i wr=>∃k:Nat,k<=NA/\i=.int .i64 k/\Hid (Bq w wr)/\Hid (a.take k=b.take k)) (fun i _=>NA-(intOf i).toNat)
  case atStart=>exact⟨0,qM _,rfl,Below.refl _ _,(show _=_ by simp)⟩
  case round=>
   obtain⟨k,hk,rfl,Aa,An⟩:=hrel;by_cases hlt:k<NA
   .
    obtain⟨x,hx⟩:∃x,a[k]?=some x:=⟨_,gEl (by have:=HNA.o;omega)⟩;obtain⟨y,hy⟩:∃y,b[k]?=some y:=⟨_,gEl (by have:=HNB.o;omega)⟩;obtain⟨b1,o1,rfl,c1,c2⟩:=(HA.o.below Aa.o).at hx;obtain⟨b2,o2,rfl,d1,d2⟩:=(HB.o.below Aa.o).at hy;have HE:=qH (show x=y->a.take (k+1)=b.take (k+1) from fun e=>bh6 An.o hx (by rw[e];exact hy));have HN:=qH (show x≠y->a≠b from fun e=>cd6 hx hy e);obtain⟨x1,x2⟩:=x;obtain⟨y1,y2⟩:=y;simp only at c1 c2 d1 d2;clear hx hy An;by_cases e1:x1=y1
    .
     subst e1;by_cases e2:x2=y2
     . subst e2;have HE2:Hid (a.take (k+1)=b.take (k+1)):=HE.o rfl;clear HE HN;go_wp2_with fail;go_region
       all_goals go_wp2_with fail
       all_goals go_roundw
       case rel=>exact⟨k+1,qO,by go_num,Aa.o.drew,HE2⟩
       case measure=>simp[intOf];omega
     . have HE2:Hid (a≠b):=HN.o (fun e=>e2 (by injection e));have q2:(x2==y2)=false:=by simpa using e2
       clear HE HN;go_wp2_with fail;go_region
       all_goals go_wp2_with fail
       all_goals go_ret
       all_goals exact⟨by rw[qG HE2.o];rfl,Aa.o.drew⟩
    . have HE2:Hid (a≠b):=HN.o (fun e=>e1 (by injection e));have q1:(x1==y1)=false:=by simpa using e1
      clear HE HN;go_wp2_with fail;go_region
      all_goals go_wp2_with fail
      all_goals go_ret
      all_goals exact⟨by rw[qG HE2.o];rfl,Aa.o.drew⟩
   .
    have HE:=qH (show a=b by
     have h:=An.o
     rw[qP (by have:=HNA.o;omega),qP (by have:=HNB.o;omega)]at h
     exact h)
    clear An;go_wp2_with fail;go_ret;exact⟨by rw[qV HE.o];rfl,Aa.o⟩
 . have HE:Hid (a≠b):=(show a≠b from fun e=>hne (by rw[HNA.o,HNB.o,e]));have hq:¬(NA:Int)=NB:=qO;go_enter func75,ntmps75;go_wp2_with fail;go_ret;exact⟨by rw[qG HE.o];rfl,Below.refl _ _⟩
def eqU(k l:Int)(fe:Bool)(ck dk:Int)(we:Bool)(cn dn hw iw wd vd:Int)(pe:Bool):Bool:=decide (k=l) && fe && (decide (ck=dk) && we && decide (cn=dn)) && decide (hw=iw) && decide (wd=vd) && pe
theorem cf9(x y:SNode):ax2 x y=eqU x.kind y.kind ((⟨x.file.toArray⟩:ByteArray).toList==(⟨y.file.toArray⟩:ByteArray).toList) x.c.kind y.c.kind ((⟨x.c.word.toArray⟩:ByteArray).toList==(⟨y.c.word.toArray⟩:ByteArray).toList) x.c.n y.c.n x.how y.how x.wide y.wide (decide (x.ins=y.ins)):=by unfold ax2 eqU;rw[bE8,bE8]
theorem ak7(n:SNode)(ai:Option Addr)(ni ci:Nat)(w:World):
 Calls prog 29 #[x8 n ai ni ci] w fun e w'=>e=.returned (.int .i64 (nouts n))/\Bq w w':=by
 unfold x8 nouts;generalize n.kind=k;generalize n.wide=wd;generalize (⟨n.file.toArray⟩:ByteArray)=fx;generalize (⟨n.c.word.toArray⟩:ByteArray)=wx;generalize n.c.kind=ck;generalize n.c.n=cn;generalize n.how=hw;by_cases h2:k=2
 . subst h2;go_enter func29,ntmps29;go_wp2_with fail;go_ret;exact⟨rfl,g9⟩
 .
  by_cases h5:k=5
  . subst h5;go_enter func29,ntmps29;go_wp2_with fail;go_ret;exact⟨rfl,g9⟩
  . rw[qB h2,qB h5];have e2:(k==2)=false:=by simpa using h2
    have e5:(k==5)=false:=by simpa using h5
    go_enter func29,ntmps29;go_wp2_with fail;go_ret;exact⟨rfl,g9⟩
end Go.Proofs.YtmejdflmcikkdaaGreatDoor
