/- What the developers' New does, and more. -/
import Derived.Test.YtllgglolcgdehaaGreatDoorSAb
import Derived.Test.YtllgglolcgdehaaGreatDoorSa38
set_option linter.all false
set_option maxRecDepth 100000
set_option maxHeartbeats 16000000
namespace Go.Proofs.YtllgglolcgdehaaGreatDoor
open Go.RowKit Go.Gs Go.Maps Tryz
theorem aV3(n:SNode)(ai:Option Addr)(ni ci:Nat)(room:Int)(w:World):
 Calls prog 61 #[C6 n ai ni ci,.int .i64 room] w fun e w'=>e=.returned (.int .i64 (if n.kind=2 then 0 else room))/\Bq w w':=by
 unfold C6;generalize n.kind=k;generalize n.wide=wd;generalize (⟨n.file.toArray⟩:ByteArray)=fx;generalize (⟨n.c.word.toArray⟩:ByteArray)=wx;generalize n.c.kind=ck;generalize n.c.n=cn;generalize n.how=hw;by_cases h2:k=2
 . subst h2;go_enter Tryz.func61,Tryz.ntmps61;go_wp2_with fail;go_ret;exact⟨rfl,boxE⟩
 . have HE:=qH (show (if k=2 then (0:Int) else room)=room by rw[qA h2]);rw[HE.out];go_enter Tryz.func61,Tryz.ntmps61;go_wp2_with fail;go_ret;exact⟨rfl,boxE⟩
def ad7(ns:List SNode)(fs:List SFile):SMach:=⟨ns,fs,[],[],[]⟩
theorem bk5{ns:List SNode}{fs:List SFile}(hg:gchk ns=0)(hf:fchk fs=0):SmallC (ad7 ns fs):=by
 have g:=F8 hg;have h60:=g.le60;have hf2:=G2 hf;refine⟨by show ns.length<=_;omega,by show fs.length<=_;omega,by simp[ad7],by simp[ad7],by simp[ad7],fun n hn=>?_,fun f hf3=>?_,fun x hx=>by simp[ad7]at hx,fun p hp=>by simp[ad7]at hp⟩
 . have:=(A2 (g.node n hn)).1;omega
 . have:=(J2 hf2.2 f hf3).2;omega
theorem cr0{ns:List SNode}(g:RightG ns)(k:Nat):(j3 (ns.take k)).length<=300:=by
 have:∀(l:List SNode),(∀m∈l,m.ins.length<=5)->(j3 l).length<=5*l.length:=by
  intro l
  induction l with
  | nil=>intro _;simp[j3]
  | cons m l ih=>
   intro hm
   have h1:=ih (fun m' hm'=>hm m' (by simp[hm']))
   have h2:=hm m (by simp)
   simp only[j3,qs,qe,qG,qY]at *
   omega
 have h1:=this (ns.take k) (fun m hm=>(A2 (g.node m (xo hm))).1);rw[qL]at h1;have:=g.le60;omega
theorem ci6{w:World}{x:Nat}{t:TypeId}(h:w.heap[x]? = some (.cells #[.slice none 0 0,.slice none 0 0,.slice none 0 0,.slice none 0 0,.slice none 0 0] t (0,0))):Y6 w x:=by
 intro j u hu;rw[qV _ _ _ _ _ _ h]at hu;have:j=0\/j=1\/j=2\/j=3\/j=4\/5<=j:=by omega
 rcases this with rfl | rfl | rfl | rfl | rfl | hj;all_goals first|(simp at hu;exact⟨_,_,_,hu.symm⟩)|(rw[xE (by simpa using hj)]at hu;cases hu)
def V18(wrs bM B6:Nat)(vP node isl:Value)(IL OL:Nat)(C1 C2:Array Value):Nat->Value->World->Prop
 | 0,x,W=>x=.pointer (some ⟨bM,3,none⟩)
 | 1,x,W=>x=vP
 | 2,x,W=>x=.pointer (some ⟨B6,7,none⟩)
 | 3,x,W=>x=isl
 | 4,x,W=>x=.int .i64 (IL:Int)
 | 5,x,W=>∃gg,x=.slice (some ⟨gg,0,none⟩) IL IL/\wrs<=gg/\W.heap[gg]? = some (.cells C1 28 (0,0))
 | 6,x,W=>x=node
 | 7,x,W=>x=.int .i64 (OL:Int)
 | 8,x,W=>∃go,x=.slice (some ⟨go,0,none⟩) OL OL/\wrs<=go/\W.heap[go]? = some (.cells C2 28 (0,0))
 | 9,x,W=>∃gg go,x=.agg #[.slice (some ⟨gg,0,none⟩) IL IL,.int .i64 0,.slice (some ⟨go,0,none⟩) OL OL,.bool false,.bool false]/\(wrs<=gg/\W.heap[gg]? = some (.cells C1 28 (0,0)))/\(wrs<=go/\W.heap[go]? = some (.cells C2 28 (0,0)))
 | 10,x,W=>∃ad gg go,x=.slice (some ⟨ad,0,none⟩) 1 1/\(wrs<=ad/\W.heap[ad]? = some (.cells #[.slice (some ⟨gg,0,none⟩) IL IL,.int .i64 0,.slice (some ⟨go,0,none⟩) OL OL,.bool false,.bool false] 76 (0,0)))/\(wrs<=gg/\W.heap[gg]? = some (.cells C1 28 (0,0)))/\(wrs<=go/\W.heap[go]? = some (.cells C2 28 (0,0)))
 | 12,x,W=>x=.pointer (some ⟨bM,3,none⟩)
 | _,x,W=>True
def ar7(wrs:Nat)(A B:World):Prop:=∀g,wrs<=g->g<A.heap.size->B.heap[g]? = A.heap[g]?
theorem ar7.some{wrs:Nat}{A B:World}(h:ar7 wrs A B){g:Nat}{o:Obj}(hg:wrs<=g)(ho:A.heap[g]? = some o):B.heap[g]? = some o:=(h g hg (aSm ho).1).trans ho
theorem V18.keep{wrs bM B6:Nat}{vP node isl:Value}{IL OL:Nat}{C1 C2:Array Value}{A B:World}(hk:ar7 wrs A B):∀(j:Nat)(x:Value),V18 wrs bM B6 vP node isl IL OL C1 C2 j x A->V18 wrs bM B6 vP node isl IL OL C1 C2 j x B
 | 0,x,h=>h
 | 1,x,h=>h
 | 2,x,h=>h
 | 3,x,h=>h
 | 4,x,h=>h
 | 5,x,⟨gg,h1,h2,h3⟩=>⟨gg,h1,h2,hk.some h2 h3⟩
 | 6,x,h=>h
 | 7,x,h=>h
 | 8,x,⟨gg,h1,h2,h3⟩=>⟨gg,h1,h2,hk.some h2 h3⟩
 | 9,x,⟨gg,go,h1,h2,h3⟩=>⟨gg,go,h1,⟨h2.1,hk.some h2.1 h2.2⟩,⟨h3.1,hk.some h3.1 h3.2⟩⟩
 | 10,x,⟨ad,gg,go,h1,h0,h2,h3⟩=>⟨ad,gg,go,h1,⟨h0.1,hk.some h0.1 h0.2⟩,⟨h2.1,hk.some h2.1 h2.2⟩,⟨h3.1,hk.some h3.1 h3.2⟩⟩
 | 11,x,h=>trivial
 | 12,x,h=>h
 | n+13,x,h=>trivial
theorem OV.put2{f n:Nat}{V:Nat->Value->World->Prop}{a0:Act}{W0:World}{L:Nat->Bool}{a:Act}{W W':World}{v:Value}{i:Nat}(h:OV f n V a0 W0 L a W)(hV:∀j x,V j x W->V j x W')(hi:i<n)(hs:f+n<=a0.tmps.size)(hb:Bq W0 W')(hv:V i v W'):
 OV f n V a0 W0 (updV L i) (a.put (some (f+i)) v) W':=by
 refine⟨by simp[Act.put,h.sz],h.df,hb,fun j hj hL=>?_,fun s hs'=>?_⟩
 .
  by_cases e:j=i
  . subst e;rw[ci4 (by rw[h.sz];omega)];exact hv
  . rw[ci2 (by omega)];exact hV _ _ (h.vs j hj (by simpa[updV,e]using hL))
 . have:(a.put (some (f+i)) v).tmps[s]? = a.tmps[s]?:=by simp only[Act.put];rw[Array.getElem?_setIfInBounds_ne (by omega)]
   rw[this];exact h.fr s hs'
def K9:Nat->List Nat
 | 1=>[0]
 | 3=>[2]
 | 4=>[3]
 | 5=>[4]
 | 7=>[6]
 | 8=>[7]
 | 9=>[5,8]
 | 10=>[9]
 | _=>[]
def DC18(L:Nat->Bool):Prop:=∀j,L j=true->∀d∈K9 j,L d=true
theorem DC18.upd{L:Nat->Bool}(h:DC18 L){i:Nat}(hd:∀d∈K9 i,L d=true):DC18 (updV L i):=by
 intro j hj d hdj;unfold updV at hj ⊢;by_cases e:d=i
 . rw[qF e]
 .
  rw[qA e];by_cases e2:j=i
  . subst e2;exact hd d hdj
  . rw[qA e2]at hj;exact h j hj d hdj
theorem DC18.all{L:Nat->Bool}(h:DC18 L)(h1:L 1=true)(h10:L 10=true):∀j,j<=10->L j=true:=by
 have h0:=h 1 h1 0 (by simp[K9]);have h9:=h 10 h10 9 (by simp[K9]);have h5:=h 9 h9 5 (by simp[K9]);have h8:=h 9 h9 8 (by simp[K9]);have h4:=h 5 h5 4 (by simp[K9]);have h3:=h 4 h4 3 (by simp[K9]);have h2:=h 3 h3 2 (by simp[K9]);have h7:=h 8 h8 7 (by simp[K9]);have h6:=h 7 h7 6 (by simp[K9]);intro j hj;have:j=0\/j=1\/j=2\/j=3\/j=4\/j=5\/j=6\/j=7\/j=8\/j=9\/j=10:=by omega
 rcases this with rfl | rfl | rfl | rfl | rfl | rfl | rfl | rfl | rfl | rfl | rfl <;> assumption
structure NI (w0 wr:World) (bM B6:Nat) (vP node isl:Value) (IL OL:Nat) (C1 C2:Array Value) (k:Nat) (Fin:World->Prop) (a0:Act) (L:Nat->Bool) (a:Act) (W:World):Prop where
 ov:OV 71 13 (V18 wr.heap.size bM B6 vP node isl IL OL C1 C2) a0 w0 L a W
 p0:L 11=false->Below wr.heap.size wr W
 cl:L 11=true->∀j,j<=10->L j=true
 c13:L 13=true->L 11=true
 dc:DC18 L
 p1:L 11=true->L 13=false->∃a' c',a.eval (.tmp 82)=.slice a' (k+1) c'/\W.cell? ⟨bM,3,none⟩=some vP/\W.frozen? ⟨bM,3,none⟩=false/\Fin (W.setCell ⟨bM,3,none⟩ (.slice a' (k+1) c'))
 p2:L 13=true->Fin W
theorem NI.start{w0 wr:World}{bM B6:Nat}{vP node isl:Value}{IL OL:Nat}{C1 C2:Array Value}{k:Nat}{Fin:World->Prop}(a0:Act)(hb:Bq w0 wr):NI w0 wr bM B6 vP node isl IL OL C1 C2 k Fin a0 (fun _=>false) a0 { wr with drawn:=wr.drawn+1 }:=
 ⟨⟨rfl,rfl,hb.drew,fun i _ h=>(by cases h),fun s _=>rfl⟩,fun _=>(qI _ wr).drew,fun h=>(by cases h),fun h=>(by cases h),(fun j h=>by cases h),fun h=>(by cases h),fun h=>(by cases h)⟩
theorem NI.not11{w0 wr:World}{bM B6:Nat}{vP node isl:Value}{IL OL:Nat}{C1 C2:Array Value}{k:Nat}{Fin:World->Prop}{a0:Act}{L:Nat->Bool}{a:Act}{W:World}{i:Nat}(h:NI w0 wr bM B6 vP node isl IL OL C1 C2 k Fin a0 L a W)(hL:L i=false)(hi:i<=10):L 11=false:=by
 cases e:L 11 with
 | false=>rfl
 | true=>
  have:=h.cl e i hi
  rw[hL]at this
  cases this
theorem NI.put{w0 wr:World}{bM B6:Nat}{vP node isl:Value}{IL OL:Nat}{C1 C2:Array Value}{k:Nat}{Fin:World->Prop}{a0:Act}{L:Nat->Bool}{a:Act}{W W':World}{v:Value}{i:Nat}(h:NI w0 wr bM B6 vP node isl IL OL C1 C2 k Fin a0 L a W)(hL:L i=false)(hi:i<=10)(hs:71+13<=a0.tmps.size)(hw0:w0.heap.size<=wr.heap.size)(hb:Bq W W')(hv:V18 wr.heap.size bM B6 vP node isl IL OL C1 C2 i v W')(hd:∀d∈K9 i,L d=true):
 NI w0 wr bM B6 vP node isl IL OL C1 C2 k Fin a0 (updV L i) (a.put (some (71+i)) v) W':=by
 have h11:L 11=false:=h.not11 hL hi;have hbW:=h.p0 h11;have u11:updV L i 11=L 11:=by unfold updV;rw[qA (by omega)]
 have u13:updV L i 13=L 13:=by unfold updV;rw[qA (by omega)]
 refine⟨OV.put2 h.ov (V18.keep (fun g hg hgs=>hb.block g hgs)) (by omega) hs (h.ov.be.trans (hb.mono h.ov.be.size)) hv,fun _=>hbW.trans (hb.mono hbW.size),fun e=>?_,fun e=>?_,h.dc.upd hd,fun e=>?_,fun e=>?_⟩
 . rw[u11,h11]at e
   cases e
 . rw[u13]at e;rw[h.c13 e]at h11
   cases h11
 . rw[u11,h11]at e
   cases e
 . rw[u13]at e;rw[h.c13 e]at h11
   cases h11
theorem NI.put12{w0 wr:World}{bM B6:Nat}{vP node isl:Value}{IL OL:Nat}{C1 C2:Array Value}{k:Nat}{Fin:World->Prop}{a0:Act}{L:Nat->Bool}{a:Act}{W:World}(h:NI w0 wr bM B6 vP node isl IL OL C1 C2 k Fin a0 L a W)(hs:71+13<=a0.tmps.size):
 NI w0 wr bM B6 vP node isl IL OL C1 C2 k Fin a0 (updV L 12) (a.put (some 83) (.pointer (some ⟨bM,3,none⟩))) W:=by
 refine⟨OV.put2 h.ov (fun _ _ h=>h) (by omega) hs h.ov.be rfl,fun e=>h.p0 e,fun e j hj=>?_,fun e=>h.c13 e,h.dc.upd (by simp[K9]),fun e1 e2=>?_,fun e=>h.p2 e⟩
 . have:=h.cl e j hj;unfold updV;rw[qA (by omega)];exact this
 . obtain⟨a',c',q1,q2⟩:=h.p1 e1 e2;exact⟨a',c',by rw[ci2 (by omega)];exact q1,q2⟩
theorem NI.put11{w0 wr:World}{bM B6:Nat}{vP node isl:Value}{IL OL:Nat}{C1 C2:Array Value}{k:Nat}{Fin:World->Prop}{a0:Act}{L:Nat->Bool}{a:Act}{W W':World}(h:NI w0 wr bM B6 vP node isl IL OL C1 C2 k Fin a0 L a W)(hs:71+13<=a0.tmps.size)(hL:L 11=false)(Ae:∀j,j<=10->L j=true)(hk:ar7 wr.heap.size W W')(hb:Bq w0 W'){a':Option Addr}{c':Nat}(h1:W'.cell? ⟨bM,3,none⟩=some vP)(h2:W'.frozen? ⟨bM,3,none⟩=false)(h3:Fin (W'.setCell ⟨bM,3,none⟩ (.slice a' (k+1) c'))):
 NI w0 wr bM B6 vP node isl IL OL C1 C2 k Fin a0 (updV L 11) (a.put (some 82) (.slice a' (k+1) c')) W':=by
 have u13:updV L 11 13=L 13:=rfl;have n13:L 13=false:=by
  cases e:L 13 with
  | false=>rfl
  | true=>rw[h.c13 e]at hL;cases hL
 refine⟨OV.put2 h.ov (V18.keep hk) (by omega) hs hb trivial,fun e=>?_,fun e j hj=>?_,fun e=>?_,h.dc.upd (by simp[K9]),fun e1 e2=>⟨a',c',?_,h1,h2,h3⟩,fun e=>?_⟩
 . simp[updV]at e
 . unfold updV;rw[qA (by omega)];exact Ae j hj
 . simp[updV]
 . rw[ci4 (by rw[h.ov.sz];omega)]
 . rw[u13,n13]at e
   cases e
theorem NI.put13{w0 wr:World}{bM B6:Nat}{vP node isl:Value}{IL OL:Nat}{C1 C2:Array Value}{k:Nat}{Fin:World->Prop}{a0:Act}{L:Nat->Bool}{a:Act}{W W':World}(h:NI w0 wr bM B6 vP node isl IL OL C1 C2 k Fin a0 L a W)(h11:L 11=true)(hk:ar7 wr.heap.size W W')(hb:Bq w0 W')(hF:Fin W'):
 NI w0 wr bM B6 vP node isl IL OL C1 C2 k Fin a0 (updV L 13) a W':=by
 have u11:updV L 13 11=L 11:=rfl;refine⟨⟨h.ov.sz,h.ov.df,hb,fun i hi e=>?_,h.ov.fr⟩,fun e=>?_,fun e j hj=>?_,fun e=>by rw[u11];exact h11,h.dc.upd (by simp[K9]),fun e1 e2=>?_,fun _=>hF⟩
 . have:L i=true:=by unfold updV at e;rw[qA (by omega)]at e;exact e
   exact V18.keep hk _ _ (h.ov.vs i hi this)
 . rw[u11,h11]at e
   cases e
 . have:=h.cl h11 j hj;unfold updV;rw[qA (by omega)];exact this
 . simp[updV]at e2
def am2(w0 wr:World)(bM:Nat)(vN vF vS:Value)(ns:List SNode)(room:Int)(L:List (Int × Int))(k av:Nat):Prop:=
 ∃vX vP Q,NewAt w0 wr bM vN vF vX vP vS (L.map (roomOf ns room)) Q/\Q.map (fun q=>(q.il,q.ol))=(ns.take k).map (fun n=>(n.ins.length,(nouts n).toNat))/\vX.ownBlock≠some av/\vP.ownBlock≠some av
theorem bw4{w:World}{an af:Option Addr}{cn cf:Nat}{ns:List SNode}{fs:List SFile}(hN:D4 w (.slice an ns.length cn) ns)(hF:j6 w (.slice af fs.length cf) fs):RMach w an af none none none cn cf 0 0 0 (ad7 ns fs):=
 ⟨hN,hF,⟨none,0,rfl,qB _,by simp[maxLen],fun h=>absurd rfl h⟩,⟨none,0,rfl,qB _,by simp[maxLen],fun h=>absurd rfl h⟩,rnil⟩
theorem M4{P:Program}{ops:Array Oper}{Q:Exit->Act->World->Prop}{i:Nat}{a:Act}{w:World}{o:Oper}{w0 wr:World}{bM B6:Nat}{vP node isl:Value}{IL OL:Nat}{C1 C2:Array Value}{k:Nat}{Fin:World->Prop}{a0:Act}{L:Nat->Bool}(ho:ops[i]? = some o)(hw:Region.wanted o (yielded ops a.tmps)=true)(h:o.wp P a w (fun a' W'=>NI w0 wr bM B6 vP node isl IL OL C1 C2 k Fin a0 (updV L i) a' W') Q):wpOp P ops Q i (fun a' W'=>NI w0 wr bM B6 vP node isl IL OL C1 C2 k Fin a0 (fun j=>if j=i then true else L j) a' W') a w:=by unfold wpOp;rw[ho];simp only;rw[qF hw];exact Or.inl h
theorem co8(an af:Option Addr)(cn cf:Nat)(ns:List SNode)(fs:List SFile)(room:Int)(w:World)(hN:D4 w (.slice an ns.length cn) ns)(hF:j6 w (.slice af fs.length cf) fs)(hfn:∀n∈ns,S0 n)(hff:∀f∈fs,M9 f):
 Calls prog 15 #[.agg #[.slice an ns.length cn],.slice af fs.length cf,.int .i64 room] w fun e w'=>∃v,e=.returned (.tuple #[v,.int .i64 (newS ns fs room).2])/\ab8 w' v (newS ns fs room).1/\Bq w w':=by
 have HCG:=qH (show ∀W,Bq w W->Calls prog 58 #[.agg #[.slice an ns.length cn],.slice af fs.length cf] W fun e w'=>e=.returned (.int .i64 (if gchk ns≠0 then gchk ns else fchk fs))/\Bq W w' from fun W hW=>at7 an af cn cf ns fs W (fun V hV=>bc4 ns an cn V ((hN.below hW).below hV) hfn) (fun V hV=>ac0 af cf fs V ((hF.below hW).below hV) hff));have HCL:=qH (show gchk ns=0->fchk fs=0->∀W,Bq w W->Calls prog 59 #[.agg #[.slice an ns.length cn,.slice af fs.length cf,.slice none 0 0,.slice none 0 0,.slice none 0 0]] W fun e w'=>∃D vN vF vX vP sS X P O,e=.returned (.agg #[vN,vF,vX,vP,sl [] sS])/\(∀vI vM,Raw w' D O ⟨ad7 ns fs,vN,vF,vX,vP,vI,vM,sS,X,P⟩)/\W.heap.size<=D/\Bq W w' from fun h1 h2 W hW=>aR1 an af none none none cn cf 0 0 0 (ad7 ns fs) W (bw4 (hN.below hW) (hF.below hW)) (bk5 h1 h2));have HN:=qH hN
 obtain⟨K,hK⟩:=qE ((if gchk ns≠0 then gchk ns else fchk fs));rw[<- hK]at HCG;have hle:=aq6 hN
 have HNS:=qH (show newS ns fs room=if K≠0 then (S9,K) else if room<1\/1000<room then (S9,3) else (L9 ns fs room,0) by
  unfold newS
  rw[hK]
  by_cases h1:gchk ns=0 <;> simp[h1])
 have HK0:=qH (show K=0->gchk ns=0/\fchk fs=0 from fun h=>by
  rw[hK]at h
  by_cases h1:gchk ns=0
  . rw[qA (by simpa using h1)]at h
    exact⟨h1,h⟩
  . rw[qF h1]at h
    exact absurd h h1)
 obtain⟨RES,Ai⟩:=qE (newS ns fs room);rw[<- Ai]at HNS ⊢;have HFN:=qH hfn;obtain⟨NN,hNN⟩:=qE ns.length;obtain⟨NF,hNF⟩:=qE fs.length;have HL:Hid (NN=ns.length/\NF=fs.length):=⟨hNN,hNF⟩;rw[<- hNN,<- hNF]at HCG HCL ⊢;rw[<- hNN]at HN hle;clear hN hF hfn hff hK Ai hNN hNF;go_enter Tryz.func15,Tryz.ntmps15;go_wp2_with fail;obtain⟨W0,hW0⟩:=qE ((w.alloc (.cells #[.slice an NN cn] 24)).alloc (.cells #[.slice none 0 0,.slice none 0 0,.slice none 0 0,.slice none 0 0,.slice none 0 0] 30));rw[<- hW0];have hB0:Bq w W0:=by rw[hW0];exact ((qI _ w).alloc (qB _) _).alloc (by simp) _
 have hX0:W0.heap[w.heap.size]? = some (.cells #[.slice an NN cn] 24 (0,0))/\W0.heap[w.heap.size+1]? = some (.cells #[.slice none 0 0,.slice none 0 0,.slice none 0 0,.slice none 0 0,.slice none 0 0] 30 (0,0)):=by rw[hW0];exact⟨zm _ _ _,zn _ _ _⟩
 refine qD (HCG.out W0 hB0) ?_;rintro e w1⟨rfl,hb1⟩;have hlt0:w.heap.size+1<W0.heap.size:=(aSm hX0.2).1;have hX1:=And.intro ((hb1.block _ (by omega)).trans hX0.1) ((hb1.block _ hlt0).trans hX0.2);have HB1:Hid (Bq w w1):=hB0.trans (hb1.mono hB0.size);have HX1:=qH hX1;obtain⟨y0,y1,y2,y3,y4,yf⟩:=A3 hX1.2;have yf0:=yf 0;have yf1:=yf 1;have yf2:=yf 2;have yf3:=yf 3;have yf4:=yf 4;have x0:w1.cell? ⟨w.heap.size,0,none⟩=some (.slice an NN cn):=qR hX1.1 rfl;clear hW0 hB0 hX0 hb1 hX1 HCG yf hlt0;by_cases h0:K=0
 .
  by_cases hr:room<1\/1000<room
  .
   have HR:=qH (show RES=(S9,3) by rw[HNS.out,qA (by simpa using h0),qF hr]);subst h0;clear HNS;by_cases hr1:room<1
   . clear hr;go_wp2_with fail;(try simp only[Exit.inBlock,Exit.then])
     refine xA (v:=.tuple #[.agg #[.slice none 0 0,.slice none 0 0,.slice none 0 0,.slice none 0 0,.slice none 0 0],.int .i64 3]) ?_ rfl ?_
     . rw[results_cell_tmp rfl];go_simp
     . rw[HR.out];exact⟨_,rfl,ab8.zero _,by repeat (first|refine xQ ?_ (by simp) _ | exact HB1.out)⟩
   .
    have hr2:1000<room:=by omega
    clear hr;go_wp2_with fail;(try simp only[Exit.inBlock,Exit.then])
    refine xA (v:=.tuple #[.agg #[.slice none 0 0,.slice none 0 0,.slice none 0 0,.slice none 0 0,.slice none 0 0],.int .i64 3]) ?_ rfl ?_
    . rw[results_cell_tmp rfl];go_simp
    . rw[HR.out];exact⟨_,rfl,ab8.zero _,by repeat (first|refine xQ ?_ (by simp) _ | exact HB1.out)⟩
  .
   have HR:=qH (show RES=(L9 ns fs room,0) by rw[HNS.out,qA (by simpa using h0),qA hr]);obtain⟨hg0,hf0⟩:=HK0.out h0;have HG:Hid (RightG ns):=F8 hg0;have HCL2:Hid _:=HCL.out hg0 hf0;have hr1:¬room<1:=by omega
   have hr2:¬1000<room:=by omega
   subst h0;clear HNS HK0 HCL hg0 hf0 hr y0 y1 y2 y3 y4 yf0 yf1 yf2 yf3 yf4;go_wp2_with fail;refine qD (HCL2.out w1 HB1.out) ?_;rintro e w2⟨D,vN,vF,vX,vP,sS,X,P,O,rfl,Oc,hD,hb2⟩;have hRI:=Oc (.slice none 0 0) (.slice none 0 0);obtain⟨w0,hw0,Fv,hrn,hrf⟩:=hRI.base;obtain⟨aN,cN,hvN,_,_⟩:=hrn.shape;obtain⟨aF,cF,hvF,_,_⟩:=hrf.shape;have hPX:=hRI.part .pipes (by simp) (by simp);have hPP:=hRI.part .procs (by simp) (by simp);obtain⟨⟨aX,cX,hvX,_,_⟩,_⟩:=j5 hPX.1;obtain⟨⟨aP,cP,hvP,_,_⟩,_⟩:=j5 hPP.1;simp only at hvN hvF hvX hvP;have hvS:sl [] sS=.slice sS.1 0 sS.2:=rfl;have hcS:sS.2<=maxLen:=by
    rcases hRI.part .sunk (by simp) (by simp) with⟨e1,_⟩|⟨_,_,_,_,_,_,_,h9,_⟩
    . have e2:sS=nilS:=e1;rw[e2];simp[nilS]
    . exact h9
   have HN0:Hid (D4 w0 vN ns/\j6 w0 vF fs):=⟨hrn,hrf⟩;subst hw0;have hbM:w2.heap.size<(w2.alloc (.cells #[vN,vF,vX,vP,sl [] sS] 30)).heap.size:=by simp
   have hNA:NewAt w0 (w2.alloc (.cells #[vN,vF,vX,vP,sl [] sS] 30)) w2.heap.size vN vF vX vP (sl [] sS) [] []:=by
    have hbx:Bq w2 (w2.alloc (.cells #[vN,vF,vX,vP,sl [] sS] 30)):=boxE;refine⟨Fv.trans (hbx.mono Fv.size),Fv.size,qN _ _,l6 hPX.1 (fun g hg=>hbx.block g (hPX.1.lt g hg).2),l6 hPP.1 (fun g hg=>hbx.block g (hPP.1.lt g hg).2),fun e=>?_,fun e=>?_,fun g hg e=>?_,fun q hq=>by cases hq⟩
    . have:=(hPX.1.lt _ e).2;omega
    . have:=(hPP.1.lt _ e).2;omega
    . have q1:=hPX.2 g hg;have q2:=hPP.2 g e;rw[q1]at q2
      cases q2
   obtain⟨w3,hw3⟩:=qE (w2.alloc (.cells #[vN,vF,vX,vP,sl [] sS] 30));rw[<- hw3]at hNA;have hDw:w.heap.size+2<=w0.heap.size:=by have:=(aSm HX1.out.2).1;omega
   have hX2:=And.intro (qK hb2 HX1.out.1) (qK hb2 HX1.out.2);have HX0:Hid (w0.heap[w.heap.size]? = some (.cells #[.slice an NN cn] 24 (0,0))/\w0.heap[w.heap.size+1]? = some (.cells #[.slice none 0 0,.slice none 0 0,.slice none 0 0,.slice none 0 0,.slice none 0 0] 30 (0,0))):=⟨(Fv.block _ (by omega)).symm.trans hX2.1,(Fv.block _ (by omega)).symm.trans hX2.2⟩
   have HBW:=qH (show ∀W,Bq w0 W->Bq w W from fun W hW=>by
    have h1:Bq w w2:=HB1.out.trans (hb2.mono HB1.out.size)
    refine⟨?_,?_,?_,?_,fun k hk=>?_⟩
    . exact hW.os.trans (Fv.os.symm.trans h1.os)
    . exact hW.tape.trans (Fv.tape.symm.trans h1.tape)
    . exact hW.output.trans (Fv.output.symm.trans h1.output)
    . have:=hW.size
      omega
    . rw[hW.block k (by omega),<- Fv.block k (by omega)]
      exact h1.block k hk)
   have HDW:=qH hDw;have HCS:=qH hcS;have HNT:=qH (show am2 w0 w3 w2.heap.size vN vF (sl [] sS) ns room [] 0 w2.heap.size from ⟨vX,vP,[],hNA,by simp,hNA.nX,hNA.nP⟩);have e1:(ad7 ns fs).ns.length=NN:=HL.out.1.symm;have e2:(ad7 ns fs).fs.length=NF:=HL.out.2.symm;rw[e1]at hvN;rw[e2]at hvF;subst hvN hvF hvX hvP;have HBX3:Hid (Bq w0 w3):=hNA.bel;have x0':=qC hb2 x0;have hx3:w3.cell? ⟨w.heap.size,0,none⟩=some (.slice an NN cn):=by rw[hw3];exact qC boxE x0'
   have HG60:=qH (show NN<=60 by have:=HG.out.le60;have:=HL.out.1;omega);have h60:=HG60.out;have hvS':sl [] sS=.slice sS.1 0 sS.2:=rfl;rw[hvS']at hw3 HNT;unfold sl;simp only[qy];obtain⟨sa,sc⟩:=sS;simp only at hw3 HNT HCS;clear Oc hRI Fv hrn hrf hPX hPP hvS hcS hNA hbM hDw hX2 hD hb2 HCL2 x0 x0' e1 e2 hvS';go_upto_region 7 with fail;rw[<- hw3];clear hw3;go_wp2_with fail;clear hx3;go_loopw [37] (fun z wr=>∃k:Nat,k<=NN/\z=.int .i64 k/\Hid (am2 w0 wr w2.heap.size (.slice aN NN cN) (.slice aF NF cF) (.slice sa 0 sc) ns room (j3 (ns.take k)) k w2.heap.size)/\Hid (Bq w0 wr)) (fun z _=>NN-(intOf z).toNat)
   case atStart=>exact⟨0,qP _,rfl,HNT,HBX3⟩
   case round=>
    obtain⟨k,hk,rfl,hnt,Aa⟩:=hrel;clear HNT HBX3;by_cases hlt:k<NN
    .
     obtain⟨n,hn⟩:∃n,ns[k]? = some n:=⟨_,gEl (by have:=HL.out.1;omega)⟩;obtain⟨nb,noff,ai,ci,e1,hNA,hrp⟩:=HN.out.at hn;subst e1;obtain⟨c0,c1,c2,c3,c4,c5,c6,c7⟩:=hNA.below (HBW.out wr Aa.out);have hil:n.ins.length<=5:=(A2 (HG.out.node n (mGt hn))).1;have HNk:=qH hn;have HRP:=qH (show ∀W,Bq w0 W->F2 W (.slice ai n.ins.length ci) n.ins from fun W hW=>hrp.below (HBW.out W hW));obtain⟨IL,hIL⟩:=qE n.ins.length;have HIL:=qH hIL;rw[<- hIL]at c7 HRP hil;obtain⟨fx,hfx⟩:=qE ((⟨n.file.toArray⟩:ByteArray));obtain⟨wx0,hwx⟩:=qE ((⟨n.c.word.toArray⟩:ByteArray));obtain⟨n0,hn0⟩:=qE n.kind;obtain⟨n2,hn2⟩:=qE n.c.kind;obtain⟨n4,hn4⟩:=qE n.c.n;obtain⟨n5,hn5⟩:=qE n.how;obtain⟨n6,hn6⟩:=qE n.wide;rw[<- hn0]at c0;rw[<- hfx]at c1;rw[<- hn2]at c2;rw[<- hwx]at c3;rw[<- hn4]at c4;rw[<- hn5]at c5;rw[<- hn6]at c6
     have HOUT:=qH (show ∀W,Calls prog 62 #[.agg #[.int .i64 n0,.string fx,.int .i64 n2,.string wx0,.int .i64 n4,.int .i64 n5,.int .i64 n6,.slice ai IL ci]] W fun e w'=>e=.returned (.int .i64 (nouts n))/\Bq W w' from fun W=>by
      have:=ay2 n ai IL ci W
      unfold C6 at this
      rw[<- hn0,<- hfx,<- hn2,<- hwx,<- hn4,<- hn5,<- hn6]at this
      exact this)
     obtain⟨W1,hW1⟩:=qE (wr.alloc (.cells #[.int .i64 n0,.string fx,.int .i64 n2,.string wx0,.int .i64 n4,.int .i64 n5,.int .i64 n6,.slice ai IL ci] 73));have hb1:Bq wr W1:=by rw[hW1];exact boxE
     have hbx:W1.heap[wr.heap.size]? = some (.cells #[.int .i64 n0,.string fx,.int .i64 n2,.string wx0,.int .i64 n4,.int .i64 n5,.int .i64 n6,.slice ai IL ci] 73 (0,0)):=by rw[hW1];exact qN _ _
     have Qg:=qH (show am2 w0 W1 w2.heap.size (.slice aN NN cN) (.slice aF NF cF) (.slice sa 0 sc) ns room (j3 (ns.take k)) k wr.heap.size by
      obtain⟨vX,vP,Q,h1,h2,_,_⟩:=hnt.out
      exact⟨vX,vP,Q,h1.below hb1,h2,fun e=>by have:=(h1.rX.lt _ e).2;omega,fun e=>by have:=(h1.rP.lt _ e).2;omega⟩)
     have Qh:=qH hbx;obtain⟨_,_,_,_,_,_,_,i7⟩:=R9 hbx;have HB1:=qT Aa hb1;have HWQ:Hid (w0.heap.size<=wr.heap.size):=Aa.out.size;clear hnt Aa hn hrp hIL hfx hwx hn0 hn2 hn4 hn5 hn6 hb1 hbx hNA;go_upto_region 10 with fail;rw[<- hW1];clear hW1 c0 c1 c2 c3 c4 c5 c6 c7;go_wp2_with fail;clear i7;obtain⟨B6,hB6⟩:=qE wr.heap.size;rw[<- hB6]at Qh HWQ Qg ⊢;clear hB6
     have HB6:=qH (show B6≠w2.heap.size from fun e=>by
      have h1:=Qh.out
      obtain⟨vX,vP,Q,h2,_⟩:=Qg.out
      rw[e,h2.box]at h1
      cases h1)
     go_loopw [44] (fun z wx=>∃j:Nat,j<=IL/\z=.int .i64 j/\Hid (am2 w0 wx w2.heap.size (.slice aN NN cN) (.slice aF NF cF) (.slice sa 0 sc) ns room (j3 (ns.take k)++n.ins.take j) k B6)/\Hid (Bq w0 wx)/\Hid (wx.heap[B6]? = some (.cells #[.int .i64 n0,.string fx,.int .i64 n2,.string wx0,.int .i64 n4,.int .i64 n5,.int .i64 n6,.slice ai IL ci] 73 (0,0)))) (fun z _=>IL-(intOf z).toNat)
     case atStart=>exact⟨0,qP _,rfl,(show am2 _ _ _ _ _ _ _ _ _ _ _ by simpa using Qg.out),HB1,Qh⟩
     case round=>
      obtain⟨j,hj,rfl,hnt,Aa,hbx⟩:=hrel;clear Qg HB1 Qh;by_cases hltj:j<IL
      .
       obtain⟨p,hp⟩:∃p,n.ins[j]? = some p:=⟨_,gEl (by have:=HIL.out;omega)⟩;have Jg:=HRP.out _ Aa.out;obtain⟨pb,poff,e2,p0,p1⟩:=Jg.at hp;subst e2;have hpl:=Y3 Jg;obtain⟨pi,pk,pm,hpe,hpik,hpm,_⟩:=HG.out.src HNk.out hp;obtain⟨nb',noff',bi,di,e3,hNA3,_⟩:=HN.out.at hpm;injection e3 with e3;injection e3 with e3 e4;subst e3 e4;obtain⟨c0,c1,c2,c3,c4,c5,c6,c7⟩:=hNA3.below (HBW.out wr Aa.out);obtain⟨vX,vP,Q,Fz,hQm,hx1,hx2⟩:=hnt.out;have hRm:roomOf ns room p=if pm.kind=2 then 0 else room:=by unfold roomOf;rw[hpe];simp only[qq,hpm,qu,qW]
       have HRB:=qH (show ∀W,Calls prog 61 #[C6 pm bi pm.ins.length di,.int .i64 room] W fun e w'=>e=.returned (.int .i64 (roomOf ns room p))/\Bq W w' from fun W=>by rw[hRm];exact aV3 pm bi pm.ins.length di room W);have hrm:0<=roomOf ns room p/\roomOf ns room p<=1000:=by rw[hRm];split <;> omega
       have HPN:=qH (show ∀W,Calls prog 60 #[.int .i64 (roomOf ns room p)] W fun e w'=>e=.returned (.tuple #[.agg #[.slice none 0 0,.int .i64 (roomOf ns room p),.bool false,.bool false],.int .i64 0])/\Bq W w' from fun W=>by
        have:=cq4 (roomOf ns room p) W
        unfold pnew at this
        rw[qA (by omega)]at this
        exact this)
       unfold C6 at HRB;have hpi:p.1=(pi:Int):=by rw[hpe]
       rw[hpi]at p0;obtain⟨RM,hRM⟩:=qE (roomOf ns room p);have HRM:=qH hRM;rw[<- hRM]at HRB HPN;have hx0:wr.cell? ⟨w.heap.size,0,none⟩=some (.slice (some ⟨nb,noff,none⟩) NN cn):=by have h1:=(Aa.out.block _ (by have:=HDW.out;omega)).trans HX0.out.1;rw[qV _ _ _ _ _ _ h1];rfl
       have HNA:=qH Fz;have HQM:=qH hQm;have HXP:Hid (vX.ownBlock≠some B6/\vP.ownBlock≠some B6):=⟨hx1,hx2⟩;have HP:=qH hp;have hpin:pi<NN:=by omega
       generalize pm.kind=m0 at *;generalize (⟨pm.file.toArray⟩:ByteArray)=m1 at *;generalize pm.c.kind=m2 at *;generalize (⟨pm.c.word.toArray⟩:ByteArray)=m3 at *;generalize pm.c.n=m4 at *;generalize pm.how=m5 at *;generalize pm.wide=m6 at *;generalize pm.ins.length=m7 at *;generalize p.2=pq at *;have fx0:=fun o=>((boxE (w:=wr) (o:=o)).cell (bLt wr _ hx0)).trans hx0;have fc0:=fun o=>((boxE (w:=wr) (o:=o)).cell (bLt wr _ c0)).trans c0;have fc1:=fun o=>((boxE (w:=wr) (o:=o)).cell (bLt wr _ c1)).trans c1;have fc2:=fun o=>((boxE (w:=wr) (o:=o)).cell (bLt wr _ c2)).trans c2;have fc3:=fun o=>((boxE (w:=wr) (o:=o)).cell (bLt wr _ c3)).trans c3;have fc4:=fun o=>((boxE (w:=wr) (o:=o)).cell (bLt wr _ c4)).trans c4;have fc5:=fun o=>((boxE (w:=wr) (o:=o)).cell (bLt wr _ c5)).trans c5;have fc6:=fun o=>((boxE (w:=wr) (o:=o)).cell (bLt wr _ c6)).trans c6
       have fc7:=fun o=>((boxE (w:=wr) (o:=o)).cell (bLt wr _ c7)).trans c7;clear Jg hp hpm hpe hNA3 Fz hQm hx1 hx2 hRm hRM hnt hpi;go_wp2_with fail;refine qD (HRB.out _) ?_;rintro e y2⟨rfl,hb2⟩;have HB2:Hid (Bq wr y2):=boxE.trans (hb2.mono boxE.size);clear hb2 HRB fx0 fc0 fc1 fc2 fc3 fc4 fc5 fc6 fc7 c0 c1 c2 c3 c4 c5 c6 c7 hx0;go_wp2_with fail;refine qD (HPN.out _) ?_;rintro e y3⟨rfl,hb3⟩;have HB3:=qT HB2 hb3;obtain⟨y4,hy4⟩:=qE (y3.alloc (.cells #[.slice none 0 0,.int .i64 RM,.bool false,.bool false] 66));obtain⟨y5,hy5⟩:=qE (y4.alloc (.cells #[.slice none 0 0,.int .i64 RM,.bool false,.bool false] 66));have hb4:Bq wr y4:=by rw[hy4];exact HB3.out.alloc HB3.out.size _
       have hb5:Bq wr y5:=by rw[hy5];exact hb4.alloc hb4.size _
       have hbp:y5.heap[y4.heap.size]? = some (.cells #[.slice none 0 0,.int .i64 RM,.bool false,.bool false] 66 (0,0)):=by rw[hy5];exact qN _ _
       have hbp4:y4.heap[y3.heap.size]? = some (.cells #[.slice none 0 0,.int .i64 RM,.bool false,.bool false] 66 (0,0)):=by rw[hy4];exact qN _ _
       have hN4:=HNA.out.below hb4;have hN5:=HNA.out.below hb5;obtain⟨_,_,b2,_,_,_⟩:=A3 hN4.box
       obtain⟨v',w',Aj,⟨a',c',hv'⟩,hbM,hkp,hof,hN6⟩:=NewAt.pipe hN5 (by rw[qM,qG,qL];have h1:=cr0 HG.out k;have:=HIL.out;omega) (ad:=⟨y4.heap.size,0,none⟩) (c:=1) (r:=RM) (fun q u hu=>by
        rw[addP,qV _ _ _ _ _ _ hbp,qa]
        rw[<- xk]
        exact hu) 26
       obtain⟨⟨aX',cX',hvX',_,_⟩,_⟩:=j5 hN5.rX;have hwb:=hbM.trans hN5.box;obtain⟨_,_,d2,_,_,df⟩:=A3 hwb;have df2:=df 2;obtain⟨Z,hZ⟩:=qE (w'.setCell ⟨w2.heap.size,2,none⟩ v');rw[<- hZ]at hN6;have Qi:B6<wr.heap.size:=(aSm hbx.out).1
       have HBX6:=qH (show Z.heap[B6]? = some (.cells #[.int .i64 n0,.string fx,.int .i64 n2,.string wx0,.int .i64 n4,.int .i64 n5,.int .i64 n6,.slice (some ⟨pb,poff,none⟩) IL ci] 73 (0,0)) by
        rw[hZ,qJ _ _ _ _ HB6.out,hkp B6 (by have:=hb5.size;omega) (.inr HXP.out.1),hb5.block B6 Qi]
        exact hbx.out)
       have HNT6:=qH (show am2 w0 Z w2.heap.size (.slice aN NN cN) (.slice aF NF cF) (.slice sa 0 sc) ns room (j3 (ns.take k)++n.ins.take (j+1)) k B6 by
        refine⟨v',vP,Q,?_,HQM.out,hof B6 (by have:=hb5.size;omega) HXP.out.1,HXP.out.2⟩
        have e5:(j3 (ns.take k)++n.ins.take j).map (roomOf ns room)++[RM]=(j3 (ns.take k)++n.ins.take (j+1)).map (roomOf ns room):=by
         rw[qX,HP.out,HRM.out]
         simp
        rw[<- e5]
        exact hN6)
       have HBE6:Hid (Bq w0 Z):=hN6.bel;have Ar:Hid _:=Aj;rw[hvX']at Ar b2 d2;rw[hv']at Ar hZ;generalize ((j3 (ns.take k)++n.ins.take j).map (roomOf ns room)).length=LL at *;rw[hy5]at Ar;obtain⟨g0,g1,g2,g3⟩:=E5 hbp4;clear hN4 hN5 hN6 hkp hof Aj hbM hwb df hbp hbp4 hb4 hb5 hvX' hv' hy5 hb3 HPN;go_upto_region 14 with fail;rw[<- hy4];clear hy4;go_upto_region 17 with (at_builtin;refine V9 _ rfl (.tmp 65) (.tmp 67) 26 rfl _ _ rfl rfl Ar.out ?_);rw[<- hZ];clear hZ Ar b2 d2 df2 g0 g1 g2 g3;go_wp2_with fail;go_roundw
       case rel=>exact⟨j+1,by omega,by go_num,HNT6,HBE6,HBX6⟩
       case measure=>simp[intOf];omega
      .
       obtain⟨vX,vP,Q,Fz,hQm,hx1,hx2⟩:=hnt.out;have ej:j=IL:=by omega
       have hQl:Q.length=k:=by have:=congrArg List.length hQm;rw[qM,qM,qL]at this;have:=HL.out.1;omega
       have hch:=HG.out.node n (mGt HNk.out);obtain⟨OL,hOL⟩:∃z:Nat,nouts n=(z:Int):=xW (aj3 hch);have hol:OL<=5:=by have:=ch2 hch;omega
       obtain⟨⟨aP',cP',Ft,_,_⟩,_⟩:=j5 Fz.rP;have hLe:(j3 (ns.take k)++n.ins.take j)=j3 (ns.take (k+1)):=by rw[aI2 HNk.out,ej,HIL.out,qZ]
       obtain⟨i0,hi,hi0,hi1,hi2⟩:=info_parts ba5;have hmk:∀(m:Nat)(W:World),m<=5->(Instr.makeSlice 74 (.int .i64 (m:Int)) (.int .i64 (m:Int))).run prog W=.ok (.slice (some ⟨W.heap.size,0,none⟩) m m) (W.alloc (.cells (madeCells (Value.slice none 0 0).cells m) 28)):=fun m W hm=>by have:=run_makeSlice (P:=prog) W 74 28 i0 (.slice none 0 0) underlying74 hi hi0 .i64 .i64 (m:Int) (m:Int) (by omega) (by omega) (by rw[hi1];omega) (by rw[hi2];omega) (by omega);rw[hi1,qq,Nat.mul_one]at this;exact this
       have hmc:∀m j,j<m->(madeCells (Value.slice none 0 0).cells m)[j]? = some (.slice none 0 0):=fun m j hj=>by have h1:=zF (.slice none 0 0) m;rw[<- xk];show (madeCells #[Value.slice none 0 0] m).toList[j]? = _;rw[h1,xw,qF hj]
       have hm1:=fun W=>hmk IL W hil;have hm2:=fun W=>hmk OL W hol;obtain⟨C1,hC1⟩:=qE (madeCells (Value.slice none 0 0).cells IL);obtain⟨C2,hC2⟩:=qE (madeCells (Value.slice none 0 0).cells OL);rw[<- hC1]at hm1;rw[<- hC2]at hm2;have HC1:=qH (show ∀j,j<IL->C1[j]? = some (.slice none 0 0) from fun j hj=>by rw[hC1];exact hmc IL j hj);have HC2:=qH (show ∀j,j<OL->C2[j]? = some (.slice none 0 0) from fun j hj=>by rw[hC2];exact hmc OL j hj);have Qi:B6<wr.heap.size:=(aSm hbx.out).1;have hbMl:w2.heap.size<wr.heap.size:=(aSm Fz.box).1;obtain⟨_,_,_,b3,_,bf⟩:=A3 Fz.box;rw[Ft]at b3;have bf3:=bf 3;obtain⟨i0',i1',i2',i3',i4',i5',i6',i7'⟩:=R9 hbx.out
       have Ao:Hid (∀(W w':World)(v':Value)(gg go:Nat),w'.heap[w2.heap.size]? = wr.heap[w2.heap.size]? -> NewAt w0 (w'.setCell ⟨w2.heap.size,3,none⟩ v') w2.heap.size (.slice aN NN cN) (.slice aF NF cF) vX v' (.slice sa 0 sc) ((j3 (ns.take k)++n.ins.take j).map (roomOf ns room)) (Q++[⟨IL,OL,gg,go⟩])->am2 w0 (w'.setCell ⟨w2.heap.size,3,none⟩ v') w2.heap.size (.slice aN NN cN) (.slice aF NF cF) (.slice sa 0 sc) ns room (j3 (ns.take (k+1))) (k+1) w2.heap.size/\Bq w0 (w'.setCell ⟨w2.heap.size,3,none⟩ v')):=(show ∀(W w':World)(v':Value)(gg go:Nat),_ from fun W w' v' gg go _ h1=>by
        rw[hLe]at h1
        refine⟨⟨vX,v',_,h1,?_,h1.nX,h1.nP⟩,h1.bel⟩
        rw[qz,hQm,qX,HNk.out,qz]
        simp[hOL,HIL.out])
       have HPX:Hid (∀(y W:World)(ad gg go:Nat),Bq wr y->Bq y W->wr.heap.size<=gg/\gg<y.heap.size->wr.heap.size<=go/\go<y.heap.size->y.heap[gg]? = some (.cells C1 28 (0,0))->y.heap[go]? = some (.cells C2 28 (0,0))->y.heap[ad]? = some (.cells #[.slice (some ⟨gg,0,none⟩) IL IL,.int .i64 0,.slice (some ⟨go,0,none⟩) OL OL,.bool false,.bool false] 76 (0,0)) ->
        ∃v' w',(Builtin.append_ #[27,27] 27 #[.slice aP' k cP',.slice (some ⟨ad,0,none⟩) 1 1]).run prog W=.ok v' w'/\∃a' c',v'=.slice a' (k+1) c'/\w'.cell? ⟨w2.heap.size,3,none⟩=some (.slice aP' k cP')/\w'.frozen? ⟨w2.heap.size,3,none⟩=false/\(ar7 wr.heap.size W w'/\Bq w0 w')/\Hid (am2 w0 (w'.setCell ⟨w2.heap.size,3,none⟩ (.slice a' (k+1) c')) w2.heap.size (.slice aN NN cN) (.slice aF NF cF) (.slice sa 0 sc) ns room (j3 (ns.take (k+1))) (k+1) w2.heap.size/\Bq w0 (w'.setCell ⟨w2.heap.size,3,none⟩ (.slice a' (k+1) c')))):=(show ∀(y W:World)(ad gg go:Nat),_ from fun y W ad gg go q1 q2 q3 q4 q5 q6 q7=>by
        obtain⟨v',w',r1,⟨a',c',r2⟩,r3,r5,r6,r7,r4⟩:=NewAt.procX Fz (by omega) q1 q2 (il:=IL) (ol:=OL) (by omega) (by omega) q3 q4 q5 q6 HC1.out HC2.out q7 27
        rw[Ft,hQl]at r1
        rw[hQl]at r2
        have hbw:=r3.trans Fz.box
        obtain⟨_,_,_,d3,_,df⟩:=A3 hbw
        rw[Ft,hQl]at d3
        subst r2
        exact⟨_,w',r1,a',c',rfl,d3,df 3,⟨fun g hg hgs=>r6 g hgs (fun e=>by have:=(Fz.rP.lt g e).2;omega),r7⟩,Ao.out W w' _ gg go r3 r4⟩)
       rw[hQl]at b3;rw[hOL]at HOUT;have HBB:=qH Aa;have HWR:Hid (w0.heap.size<=wr.heap.size):=Aa.out.size;have hbx9:=hbx;clear hnt Fz hQm hx1 hx2 hQl hch hOL Ft hLe hi hi0 hi1 hi2 hmk hmc hC1 hC2 bf Ao hbx ej;have HI8:=qH (show ∀W,Bq wr W->W.heap[B6]? = some (.cells #[.int .i64 n0,.string fx,.int .i64 n2,.string wx0,.int .i64 n4,.int .i64 n5,.int .i64 n6,.slice ai IL ci] 73 (0,0))/\W.cell? ⟨w2.heap.size,3,none⟩=some (.slice aP' k cP') from fun W hW=>⟨(hW.block B6 Qi).trans hbx9.out,qC hW b3⟩);have HBMl:=qH hbMl;have HM1:=qH hm1;have HM2:=qH hm2;clear hm1 hm2 b3 bf3 i0' i1' i2' i3' i4' i5' i6' i7' Qi hbMl;go_upto_region 18 with fail
       refine aV2 (by kernel_rfl) (by kernel_rfl) (fun L a W=>NI w0 wr w2.heap.size B6 (.slice aP' k cP') (.agg #[.int .i64 n0,.string fx,.int .i64 n2,.string wx0,.int .i64 n4,.int .i64 n5,.int .i64 n6,.slice ai IL ci]) (.slice ai IL ci) IL OL C1 C2 k (fun Z=>am2 w0 Z w2.heap.size (.slice aN NN cN) (.slice aF NF cF) (.slice sa 0 sc) ns room (j3 (ns.take (k+1))) (k+1) w2.heap.size/\Bq w0 Z) ?A0 L a W) ?hs ?he ?h0
       case h0=>exact NI.start _ HBB.out
       case he=>
        intro L a W Ae hI;have hf:=hI.ov.form (show 71+13<=86 by decide);have HF2:Hid (am2 w0 W w2.heap.size (.slice aN NN cN) (.slice aF NF cF) (.slice sa 0 sc) ns room (j3 (ns.take (k+1))) (k+1) w2.heap.size/\Bq w0 W):=hI.p2 (Ae 13 (by decide));rw[hf,show List.range 13=[0,1,2,3,4,5,6,7,8,9,10,11,12] from rfl];simp only[List.foldl,Nat.reduceAdd];clear hf Ae hI;generalize a.eval (.tmp 71)=x71;generalize a.eval (.tmp 72)=x72;generalize a.eval (.tmp 73)=x73;generalize a.eval (.tmp 74)=x74;generalize a.eval (.tmp 75)=x75;generalize a.eval (.tmp 76)=x76;generalize a.eval (.tmp 77)=x77;generalize a.eval (.tmp 78)=x78;generalize a.eval (.tmp 79)=x79;generalize a.eval (.tmp 80)=x80;generalize a.eval (.tmp 81)=x81;generalize a.eval (.tmp 82)=x82;generalize a.eval (.tmp 83)=x83;simp only[Act.put,List.setIfInBounds_toArray,List.set];go_wp2_with fail;go_roundw
        case rel=>exact⟨k+1,by omega,by go_num,HF2.out.1,HF2.out.2⟩
        case measure=>simp[intOf];omega
       case hs=>
        intro L i o a W ho hL Ef hI;have hi:i<14:=by have:=(aSm ho).1;simpa using this
        have Nk:i=0\/i=1\/i=2\/i=3\/i=4\/i=5\/i=6\/i=7\/i=8\/i=9\/i=10\/i=11\/i=12\/i=13:=by omega
        clear hi;have hsz:71+13<=86:=by decide
        rcases Nk with rfl | rfl | rfl | rfl | rfl | rfl | rfl | rfl | rfl | rfl | rfl | rfl | rfl | rfl
        . obtain rfl:o=_:=(xO ho).symm;refine M4 ho (by simp[Region.wanted]) ?_;unfold Oper.wp;have o9:a.eval (.tmp 9)=.pointer (some ⟨w2.heap.size,0,none⟩):=(hI.ov.old (by decide)).trans rfl;simp only[Act.eval,qS]at o9;go_simp;exact hI.put hL (by decide) hsz HWR.out (qI _ _) rfl (by simp[K9])
        . obtain rfl:o=_:=(xO ho).symm;have d0:L 0=true:=Ef ⟨0,.data⟩ (by simp) rfl;refine M4 ho (by simp[Region.wanted]) ?_;unfold Oper.wp;have e71:a.eval (.tmp 71)=.pointer (some ⟨w2.heap.size,3,none⟩):=hI.ov.vs 0 (by decide) d0;have hbW:=hI.p0 (hI.not11 hL (by decide));obtain⟨i0,i1,i2,i3,i4,i5,i6,i7⟩:=R9 (HI8.out W hbW).1;have b3:=(HI8.out W hbW).2;simp only[Act.eval,qS]at e71;go_simp;exact hI.put hL (by decide) hsz HWR.out (qI _ _) rfl (by simp[K9,d0])
        . obtain rfl:o=_:=(xO ho).symm;refine M4 ho (by simp[Region.wanted]) ?_;unfold Oper.wp;have o11:a.eval (.tmp 11)=.pointer (some ⟨B6,0,none⟩):=(hI.ov.old (by decide)).trans rfl;simp only[Act.eval,qS]at o11;go_simp;exact hI.put hL (by decide) hsz HWR.out (qI _ _) rfl (by simp[K9])
        . obtain rfl:o=_:=(xO ho).symm;have d2:L 2=true:=Ef ⟨2,.data⟩ (by simp) rfl;refine M4 ho (by simp[Region.wanted]) ?_;unfold Oper.wp;have e73:a.eval (.tmp 73)=.pointer (some ⟨B6,7,none⟩):=hI.ov.vs 2 (by decide) d2;have hbW:=hI.p0 (hI.not11 hL (by decide));obtain⟨i0,i1,i2,i3,i4,i5,i6,i7⟩:=R9 (HI8.out W hbW).1;have b3:=(HI8.out W hbW).2;simp only[Act.eval,qS]at e73;go_simp;exact hI.put hL (by decide) hsz HWR.out (qI _ _) rfl (by simp[K9,d2])
        . obtain rfl:o=_:=(xO ho).symm;have d3:L 3=true:=Ef ⟨3,.data⟩ (by simp) rfl;refine M4 ho (by simp[Region.wanted]) ?_;unfold Oper.wp;have e74:a.eval (.tmp 74)=.slice ai IL ci:=hI.ov.vs 3 (by decide) d3;simp only[Act.eval,qS]at e74;go_simp;exact hI.put hL (by decide) hsz HWR.out (qI _ _) rfl (by simp[K9,d3])
        . obtain rfl:o=_:=(xO ho).symm;have d4:L 4=true:=Ef ⟨4,.data⟩ (by simp) rfl;refine M4 ho (by simp[Region.wanted]) ?_;unfold Oper.wp;have e75:a.eval (.tmp 75)=.int .i64 (IL:Int):=hI.ov.vs 4 (by decide) d4;have hbW:=hI.p0 (hI.not11 hL (by decide));have hm:=HM1.out W;simp only[Act.eval,qS]at e75;go_simp;exact hI.put hL (by decide) hsz HWR.out boxE ⟨W.heap.size,rfl,hbW.size,qN _ _⟩ (by simp[K9,d4])
        . obtain rfl:o=_:=(xO ho).symm;refine M4 ho (by simp[Region.wanted]) ?_;unfold Oper.wp;have o11:a.eval (.tmp 11)=.pointer (some ⟨B6,0,none⟩):=(hI.ov.old (by decide)).trans rfl;have hbW:=hI.p0 (hI.not11 hL (by decide));obtain⟨i0,i1,i2,i3,i4,i5,i6,i7⟩:=R9 (HI8.out W hbW).1;have b3:=(HI8.out W hbW).2;simp only[Act.eval,qS]at o11;go_simp;exact hI.put hL (by decide) hsz HWR.out (qI _ _) rfl (by simp[K9])
        . obtain rfl:o=_:=(xO ho).symm;have d6:L 6=true:=Ef ⟨6,.data⟩ (by simp) rfl;refine M4 ho (by simp[Region.wanted]) ?_;unfold Oper.wp;have e77:a.eval (.tmp 77)=.agg #[.int .i64 n0,.string fx,.int .i64 n2,.string wx0,.int .i64 n4,.int .i64 n5,.int .i64 n6,.slice ai IL ci]:=hI.ov.vs 6 (by decide) d6;simp only[Act.eval,qS]at e77;go_simp;refine qD (HOUT.out W) ?_;rintro e w7⟨rfl,hb7⟩;exact hI.put hL (by decide) hsz HWR.out hb7 rfl (by simp[K9,d6])
        . obtain rfl:o=_:=(xO ho).symm;have d7:L 7=true:=Ef ⟨7,.data⟩ (by simp) rfl;refine M4 ho (by simp[Region.wanted]) ?_;unfold Oper.wp;have e78:a.eval (.tmp 78)=.int .i64 (OL:Int):=hI.ov.vs 7 (by decide) d7;have hbW:=hI.p0 (hI.not11 hL (by decide));have hm:=HM2.out W;simp only[Act.eval,qS]at e78;go_simp;exact hI.put hL (by decide) hsz HWR.out boxE ⟨W.heap.size,rfl,hbW.size,qN _ _⟩ (by simp[K9,d7])
        . obtain rfl:o=_:=(xO ho).symm;have d5:L 5=true:=Ef ⟨5,.data⟩ (by simp) rfl;have d8:L 8=true:=Ef ⟨8,.data⟩ (by simp) rfl;refine M4 ho (by simp[Region.wanted]) ?_;unfold Oper.wp;obtain⟨gg,e76,g1,g2⟩:∃gg,a.eval (.tmp 76)=.slice (some ⟨gg,0,none⟩) IL IL/\wr.heap.size<=gg/\W.heap[gg]? = some (.cells C1 28 (0,0)):=hI.ov.vs 5 (by decide) d5;obtain⟨go,e79,g3,g4⟩:∃go,a.eval (.tmp 79)=.slice (some ⟨go,0,none⟩) OL OL/\wr.heap.size<=go/\W.heap[go]? = some (.cells C2 28 (0,0)):=hI.ov.vs 8 (by decide) d8;simp only[Act.eval,qS]at e76 e79;go_simp;exact hI.put hL (by decide) hsz HWR.out (qI _ _) ⟨gg,go,rfl,⟨g1,g2⟩,⟨g3,g4⟩⟩ (by simp[K9,d5,d8])
        . obtain rfl:o=_:=(xO ho).symm;have d9:L 9=true:=Ef ⟨9,.data⟩ (by simp) rfl;refine M4 ho (by simp[Region.wanted]) ?_;unfold Oper.wp;have hbW:=hI.p0 (hI.not11 hL (by decide));obtain⟨gg,go,e80,⟨g1,g2⟩,⟨g3,g4⟩⟩:∃gg go,a.eval (.tmp 80)=.agg #[.slice (some ⟨gg,0,none⟩) IL IL,.int .i64 0,.slice (some ⟨go,0,none⟩) OL OL,.bool false,.bool false]/\(wr.heap.size<=gg/\W.heap[gg]? = some (.cells C1 28 (0,0)))/\(wr.heap.size<=go/\W.heap[go]? = some (.cells C2 28 (0,0))):=hI.ov.vs 9 (by decide) d9;simp only[Act.eval,qS]at e80;go_simp;exact hI.put hL (by decide) hsz HWR.out boxE ⟨W.heap.size,gg,go,rfl,⟨hbW.size,qN _ _⟩,⟨g1,qK boxE g2⟩,⟨g3,qK boxE g4⟩⟩ (by simp[K9,d9])
        . obtain rfl:o=_:=(xO ho).symm;have d1:L 1=true:=Ef ⟨1,.data⟩ (by simp) rfl;have d10:L 10=true:=Ef ⟨10,.data⟩ (by simp) rfl;show wpOp _ _ _ 11 (fun a' W'=>NI w0 wr w2.heap.size B6 (.slice aP' k cP') (.agg #[.int .i64 n0,.string fx,.int .i64 n2,.string wx0,.int .i64 n4,.int .i64 n5,.int .i64 n6,.slice ai IL ci]) (.slice ai IL ci) IL OL C1 C2 k (fun Z=>am2 w0 Z w2.heap.size (.slice aN NN cN) (.slice aF NF cF) (.slice sa 0 sc) ns room (j3 (ns.take (k+1))) (k+1) w2.heap.size/\Bq w0 Z) _ (updV L 11) a' W') a W;unfold wpOp;rw[ho];simp only;rw[qF (by simp[Region.wanted])];refine Or.inl ?_;have e72:a.eval (.tmp 72)=.slice aP' k cP':=hI.ov.vs 1 (by decide) d1
          obtain⟨ad,gg,go,e81,⟨g0,g5⟩,⟨g1,g2⟩,⟨g3,g4⟩⟩:∃ad gg go,a.eval (.tmp 81)=.slice (some ⟨ad,0,none⟩) 1 1/\(wr.heap.size<=ad/\W.heap[ad]? = some (.cells #[.slice (some ⟨gg,0,none⟩) IL IL,.int .i64 0,.slice (some ⟨go,0,none⟩) OL OL,.bool false,.bool false] 76 (0,0)))/\(wr.heap.size<=gg/\W.heap[gg]? = some (.cells C1 28 (0,0)))/\(wr.heap.size<=go/\W.heap[go]? = some (.cells C2 28 (0,0))):=hI.ov.vs 10 (by decide) d10;have hbW:=hI.p0 hL;obtain⟨v',w',Aj,a',c',rfl,z3,zf,hkp,hh⟩:=HPX.out W W ad gg go hbW (qI _ _) ⟨g1,(aSm g2).1⟩ ⟨g3,(aSm g4).1⟩ g2 g4 g5;have Ae:∀j,j<=10->L j=true:=hI.dc.all d1 d10;unfold Oper.wp;simp[execOp,resolve,invoke,builtin,e72,e81,Aj,Result.andThen];exact hI.put11 hsz hL Ae hkp.1 hkp.2 z3 zf hh.out
        . obtain rfl:o=_:=(xO ho).symm;refine M4 ho (by simp[Region.wanted]) ?_;unfold Oper.wp;have o9:a.eval (.tmp 9)=.pointer (some ⟨w2.heap.size,0,none⟩):=(hI.ov.old (by decide)).trans rfl;simp only[Act.eval,qS]at o9;go_simp;exact hI.put12 hsz
        . obtain rfl:o=_:=(xO ho).symm;have d11:L 11=true:=Ef ⟨11,.data⟩ (by simp) rfl;have d12:L 12=true:=Ef ⟨12,.data⟩ (by simp) rfl;show wpOp _ _ _ 13 (fun a' W'=>NI w0 wr w2.heap.size B6 (.slice aP' k cP') (.agg #[.int .i64 n0,.string fx,.int .i64 n2,.string wx0,.int .i64 n4,.int .i64 n5,.int .i64 n6,.slice ai IL ci]) (.slice ai IL ci) IL OL C1 C2 k (fun Z=>am2 w0 Z w2.heap.size (.slice aN NN cN) (.slice aF NF cF) (.slice sa 0 sc) ns room (j3 (ns.take (k+1))) (k+1) w2.heap.size/\Bq w0 Z) _ (updV L 13) a' W') a W;unfold wpOp;rw[ho];simp only;rw[qF (by simp[Region.wanted])];refine Or.inl ?_;have e83:a.eval (.tmp 83)=.pointer (some ⟨w2.heap.size,3,none⟩):=hI.ov.vs 12 (by decide) d12;obtain⟨a',c',e82,q1,q2,q3⟩:=hI.p1 d11 hL;unfold Oper.wp;simp only[Act.eval,qS]at e83 e82;go_simp
          exact hI.put13 d11 (fun g hg hgs=>qJ _ _ _ _ (by have:=HBMl.out;show g≠w2.heap.size;omega)) q3.2 q3
    .
     have ek:k=NN:=by omega
     obtain⟨vX,vP,Q,hNA,hQm,_,_⟩:=hnt.out;have ek':k=ns.length:=by have:=HL.out.1;omega
     rw[ek',qZ]at hNA hQm;have hX2:=(Aa.out.block _ (by have:=HDW.out;omega)).trans HX0.out.2;have Oh:Y6 wr (w.heap.size+1):=ci6 hX2;obtain⟨⟨aX9,cX9,hvX9,_,_⟩,_⟩:=j5 hNA.rX;obtain⟨⟨aP9,cP9,hvP9,_,_⟩,_⟩:=j5 hNA.rP
     have HMA:=qH (show ∀wF:World,(∀g,g≠w.heap.size+1->wF.heap[g]? = wr.heap[g]?)->ab8 wF (.agg #[.slice aN NN cN,.slice aF NF cF,vX,vP,.slice sa 0 sc]) (L9 ns fs room) from fun wF hwF=>by
      obtain⟨bn,bf,bx,bp,dn,df,dx,dp,e1,e2,e3,e4,hRM⟩:=NewAt.mach hNA (ns:=ns) (fs:=fs) HN0.out.1 HN0.out.2 rfl HCS.out (M:=L9 ns fs room) rfl rfl (by unfold L9;simp[xh]) (by
       unfold L9
       have h1:=congrArg (List.map (fun(p:Nat × Nat)=>(⟨List.replicate p.1 [],0,List.replicate p.2 [],false,false⟩:SProc))) hQm
       rw[xh,xh]at h1
       exact h1.symm) rfl wF (fun g hg=>hwF g (by have:=HDW.out;omega)) (aI3 (X:=fun k=>k=w.heap.size+1) (HN0.out.1.below Aa.out) (fun x hx=>by rw[hx];exact Oh) hwF) (aI4 (X:=fun k=>k=w.heap.size+1) (HN0.out.2.below Aa.out) (fun x hx=>by rw[hx];exact Oh) hwF)
      exact⟨bn,bf,bx,bp,sa,dn,df,dx,dp,sc,by unfold machV;rw[<- e1,<- e2,<- e3,<- e4];rfl,hRM⟩)
     obtain⟨c0,c1,c2,c3,c4,_⟩:=A3 hNA.box;obtain⟨y0,y1,y2,y3,y4,yf⟩:=A3 hX2;have yf0:=yf 0;have yf1:=yf 1;have yf2:=yf 2;have yf3:=yf 3;have yf4:=yf 4;have hbMw:w2.heap.size≠w.heap.size+1:=by have:=hNA.lo;have:=HDW.out;omega
     have hbMw':w.heap.size+1≠w2.heap.size:=fun e=>hbMw e.symm;have HBF:Hid (Bq w wr):=HBW.out wr Aa.out;rw[hvX9]at c2 HMA;rw[hvP9]at c3 HMA;generalize ((j3 ns).map (roomOf ns room)).length=LX at *;generalize Q.length=LP at *;clear hnt hNA hQm hX2 Oh yf hvX9 hvP9 Aa;go_wp2_with fail;(try simp only[Exit.inBlock,Exit.then])
     refine xA (v:=.tuple #[.agg #[.slice aN NN cN,.slice aF NF cF,.slice aX9 LX cX9,.slice aP9 LP cP9,.slice sa 0 sc],.int .i64 0]) ?_ rfl ?_
     . rw[results_cell_tmp rfl];go_simp
     . rw[HR.out];refine⟨_,rfl,HMA.out _ (fun g hg=>?_),?_⟩
       . rw[qJ _ _ _ _ hg,qJ _ _ _ _ hg,qJ _ _ _ _ hg,qJ _ _ _ _ hg,qJ _ _ _ _ hg]
       . repeat (first|refine xQ ?_ (by simp) _ | exact HBF.out)
 .
  have HR:=qH (show RES=(S9,K) by rw[HNS.out,qF h0]);clear HNS HK0 HCL;go_wp2_with fail;(try simp only[Exit.inBlock,Exit.then])
  refine xA (v:=.tuple #[.agg #[.slice none 0 0,.slice none 0 0,.slice none 0 0,.slice none 0 0,.slice none 0 0],.int .i64 K]) ?_ rfl ?_
  . rw[results_cell_tmp rfl];go_simp
  . rw[HR.out];exact⟨_,rfl,ab8.zero _,by repeat (first|refine xQ ?_ (by simp) _ | exact HB1.out)⟩
def af4(w:World)(os:List Obj):World:=os.foldl World.alloc w
theorem Z7:∀(os:List Obj)(w:World),Bq w (af4 w os)
 | [],w=>qI _ _
 | o::os,w=>i8.trans ((Z7 os (w.alloc o)).mono i8.size)
theorem G5:∀(os:List Obj)(w:World)(i:Nat)(o:Obj),os[i]? = some o->(af4 w os).heap[w.heap.size+i]? = some o
 | [],w,i,o,h=>by simp at h
 | a::os,w,0,o,h=>by
  simp at h
  subst h
  exact ((Z7 os (w.alloc a)).block _ (by simp)).trans (qN w a)
 | a::os,w,i+1,o,h=>by
  have:=G5 os (w.alloc a) i o (by simpa using h)
  rw[show (w.alloc a).heap.size=w.heap.size+1 by simp]at this
  rw[show w.heap.size+(i+1)=w.heap.size+1+i by omega]
  exact this
theorem aS9{w:World}{b:Nat}{a0 a1 a2 a3 a4 v0 v1 v2 v3 v4:Value}{t:TypeId}(h:w.heap[b]? = some (.cells #[a0,a1,a2,a3,a4] t (0,0))):
 (((((w.setCell ⟨b,0,none⟩ v0).setCell ⟨b,1,none⟩ v1).setCell ⟨b,2,none⟩ v2).setCell ⟨b,3,none⟩ v3).setCell ⟨b,4,none⟩ v4).heap[b]? = some (.cells #[v0,v1,v2,v3,v4] t (0,0)):=by
 have step:∀(W:World)(cur:Array Value)(j:Nat)(v:Value),W.heap[b]? = some (.cells cur t (0,0))->(W.setCell ⟨b,j,none⟩ v).heap[b]? = some (.cells (cur.setIfInBounds j v) t (0,0)):=fun W cur j v hW=>by rw[zL W b j cur t (0,0) v hW];exact zV W b cur _ t (0,0) hW
 exact step _ _ 4 _ (step _ _ 3 _ (step _ _ 2 _ (step _ _ 1 _ (step _ _ 0 _ h))))
theorem bH2{w:World}{b k:Nat}{v0 v1 v2 v3 v4:Value}(hk:k≠b):
 (((((w.setCell ⟨b,0,none⟩ v0).setCell ⟨b,1,none⟩ v1).setCell ⟨b,2,none⟩ v2).setCell ⟨b,3,none⟩ v3).setCell ⟨b,4,none⟩ v4).heap[k]? = w.heap[k]?:=by rw[qJ _ _ _ _ hk,qJ _ _ _ _ hk,qJ _ _ _ _ hk,qJ _ _ _ _ hk,qJ _ _ _ _ hk]
theorem aw9{w w0:World}{B b:Nat}{v0 v1 v2 v3 v4:Value}(h:Below B w0 w)(hb:B<=b):
 Below B w0 (((((w.setCell ⟨b,0,none⟩ v0).setCell ⟨b,1,none⟩ v1).setCell ⟨b,2,none⟩ v2).setCell ⟨b,3,none⟩ v3).setCell ⟨b,4,none⟩ v4):=((((h.setCell hb _).setCell hb _).setCell hb _).setCell hb _).setCell hb _
def BoxM(w:World)(b:Nat)(M:SMach):Prop:=∃an af ax ap aS cn cf cx cp cs,w.heap[b]? = some (.cells #[.slice an M.ns.length cn,.slice af M.fs.length cf,.slice ax M.pipes.length cx,.slice ap M.ps.length cp,.slice aS M.sunk.length cs] 30 (0,0))/\RMach w an af ax ap aS cn cf cx cp cs M
theorem cs7{w:World}{b:Nat}{a1 a2 a3 a4 a5:Option Addr}{n1 n2 n3 n4 n5 c1 c2 c3 c4 c5:Nat}{t:TypeId}(h:w.heap[b]? = some (.cells #[.slice a1 n1 c1,.slice a2 n2 c2,.slice a3 n3 c3,.slice a4 n4 c4,.slice a5 n5 c5] t (0,0))):Y6 w b:=by
 intro j u hu;rw[qV _ _ _ _ _ _ h]at hu;have:j=0\/j=1\/j=2\/j=3\/j=4\/5<=j:=by omega
 rcases this with rfl | rfl | rfl | rfl | rfl | hj;all_goals first|(simp at hu;exact⟨_,_,_,hu.symm⟩)|(rw[xE (by simpa using hj)]at hu;cases hu)
theorem bd1{w:World}{B b:Nat}{M:SMach}{an af ax ap aS a1 a2 a3 a4 a5:Option Addr}{cn cf cx cp cs n1 n2 n3 n4 n5 c1 c2 c3 c4 c5:Nat}(hN:aB2 B w an af ax ap aS cn cf cx cp cs M)(hb:b<B)
 (h:w.heap[b]? = some (.cells #[.slice a1 n1 c1,.slice a2 n2 c2,.slice a3 n3 c3,.slice a4 n4 c4,.slice a5 n5 c5] 30 (0,0))) {v0 v1 v2 v3 v4:Value} (e0:v0=.slice an M.ns.length cn) (e1:v1=.slice af M.fs.length cf) (e2:v2=.slice ax M.pipes.length cx) (e3:v3=.slice ap M.ps.length cp) (e4:v4=.slice aS M.sunk.length cs):
 BoxM (((((w.setCell ⟨b,0,none⟩ v0).setCell ⟨b,1,none⟩ v1).setCell ⟨b,2,none⟩ v2).setCell ⟨b,3,none⟩ v3).setCell ⟨b,4,none⟩ v4) b M/\aB2 b (((((w.setCell ⟨b,0,none⟩ v0).setCell ⟨b,1,none⟩ v1).setCell ⟨b,2,none⟩ v2).setCell ⟨b,3,none⟩ v3).setCell ⟨b,4,none⟩ v4) an af ax ap aS cn cf cx cp cs M:=by have h2:=aw8 (B:=b) (wf:=(((((w.setCell ⟨b,0,none⟩ v0).setCell ⟨b,1,none⟩ v1).setCell ⟨b,2,none⟩ v2).setCell ⟨b,3,none⟩ v3).setCell ⟨b,4,none⟩ v4)) hN hb (cs7 h) (qB _) (by simp) (fun k hk=>bH2 hk);refine⟨⟨an,af,ax,ap,aS,cn,cf,cx,cp,cs,?_,h2.self⟩,h2⟩;rw[aS9 h,e0,e1,e2,e3,e4]
theorem bH3{l:SLine}{W room:Int}{fs:List SFile}(h1:(t8 l W).2=0)(h2:(newS (t8 l W).1 fs room).2=0):
 gchk (t8 l W).1=0/\fchk fs=0/\Z5 (t8 l W).1 fs/\1<=room/\room<=1000/\newS (t8 l W).1 fs room=(L9 (t8 l W).1 fs room,0)/\Go.Gs.Reach (t8 l W).1 fs room (L9 (t8 l W).1 fs room)/\lchk l=0/\(1<=W/\W<=5)/\(t8 l W).1=plan l W.toNat:=by
 have hp:lchk l=0/\¬(W<1\/5<W):=by
  unfold t8 at h1;split at h1
  . rename_i h;exact absurd h1 h
  . split at h1
    . cases h1
    . rename_i h3 h4;exact⟨by simpa using h3,h4⟩
 have e:=ay5 hp.1 hp.2;have hw:1<=W.toNat/\W.toNat<=5:=by omega
 rw[e]at h2 ⊢;simp only at h2 ⊢;have hg:=ac5 hw hp.1;have hn:fchk fs=0/\¬(room<1\/1000<room):=by
  unfold newS at h2;rw[qA (by simp[hg])]at h2;split at h2
  . rename_i h;exact absurd h2 h
  . split at h2
    . cases h2
    . rename_i h3 h4;exact⟨by simpa using h3,h4⟩
 have hsz:∀f∈fs,f.b.length<=4000:=fun f hf=>(J2 (G2 hn.1).2 f hf).2;refine⟨hg,hn.1,bk4 hw hp.1 hsz,by omega,by omega,?_,Go.Gs.Reach.fresh (F8 hg) (by omega) (by omega),hp.1,by omega,trivial⟩;unfold newS;rw[qA (by simp[hg]),qA (by simp[hn.1]),qA hn.2]
theorem af5{w w':World}{res:List UInt8 × Int}{e:Ending}{r:Int}(h:res=([],r))(he:e=.returned (.tuple #[.slice none 0 0,.int .i64 r]))(hb:Bq w w'):ak4 w res e w':=by subst h;exact⟨none,0,he,rnil,hb⟩
theorem aT0{w w':World}{x y z:Value}(hb:Below (w.alloc (.cells #[x,y,z] 56)).heap.size (w.alloc (.cells #[x,y,z] 56)) w'):w'.cell? ⟨w.heap.size,0,none⟩=some x/\w'.cell? ⟨w.heap.size,1,none⟩=some y/\w'.cell? ⟨w.heap.size,2,none⟩=some z:=by
 refine⟨?_,?_,?_⟩
 all_goals
  rw[hb.cell (by simp),qV _ _ _ _ _ _ (qN w _)];rfl
theorem bY0{ns:List SNode}{fs:List SFile}{room:Int}(hg:gchk ns=0)(hf:fchk fs=0)(hb:Z5 ns fs)(hr:1<=room){M:SMach}(h:Go.Gs.Reach ns fs room M)(pk:List Int):∃k r,Fins k (t7 M pk).1 (r,0)/\overS r=true/\Go.Gs.Reach ns fs room r/\r.sunk=sunk ns fs:=
 bX4 hg hf hb hr (h.picks (F8 hg) pk M)
theorem bw5(l:SLine)(W room:Int)(fs:List SFile)(pk:List Int)(af ad ao aq:Option Addr)(cf cd cap cq:Nat)(w:World)(hf:Reads w (.slice af l.fr.length cf) l.fr.length (l.fr.map S))(hd:H9 w (.slice ad l.cs.length cd) l.cs)(Ad:M3 l)(hfs:j6 w (.slice ao fs.length cap) fs)(hff:∀f∈fs,M9 f)(hq:Reads w (.slice aq pk.length cq) pk.length (Zs pk))(hE:D6 w):
 Calls prog 42 #[.slice ao fs.length cap,.agg #[.slice af l.fr.length cf,.slice ad l.cs.length cd,.string ⟨l.tu.toArray⟩],.int .i64 W,.int .i64 room,.slice aq pk.length cq] w fun e w'=>ak4 w (q9 W room pk.length fs l) e w':=by
 have HP:=qH (show ∀V,Bq w V->Calls prog 28 #[.agg #[.slice af l.fr.length cf,.slice ad l.cs.length cd,.string ⟨l.tu.toArray⟩],.int .i64 W] V fun e w'=>aK0 V (t8 l W) e w' from fun V hb=>co4 l W af ad cf cd V (hf.below hb) (hd.below hb) Ad);have HGA:=qH (show ∀V,Bq w V->Calls prog 104 #[.slice ao fs.length cap,.slice af l.fr.length cf] V fun e w'=>ak4 V (o6 fs l.fr) e w' from fun V hb=>aY5 ao af cap cf fs l.fr V (hfs.below hb) hff (hf.below hb));have hfn:∀n∈(t8 l W).1,S0 n:=by
  unfold t8;split
  . intro n hn;cases hn
  . split
    . intro n hn;cases hn
    . rename_i h1 h2;intro n hn;exact Go.Gs.right_fits (ac5 (by omega) (by simpa using h1)) hn
 have HNW:Hid (∀(V:World)(an:Option Addr)(cn:Nat),Bq w V->D4 V (.slice an (t8 l W).1.length cn) (t8 l W).1->Calls prog 15 #[.agg #[.slice an (t8 l W).1.length cn],.slice ao fs.length cap,.int .i64 room] V fun e w'=>∃v,e=.returned (.tuple #[v,.int .i64 (newS (t8 l W).1 fs room).2])/\ab8 w' v (newS (t8 l W).1 fs room).1/\Bq V w'):=(show ∀(V:World)(an:Option Addr)(cn:Nat),_ from fun V an cn hb hr=>co8 an ao cn cap (t8 l W).1 fs room V hr (hfs.below hb) hfn hff)
 have Ar:Hid (∀(V:World)(an af ax ap aS:Option Addr)(cn cf cx cp cs:Nat)(M:SMach),Bq w V->RMach V an af ax ap aS cn cf cx cp cs M->FitsM M->mchk M=0->∀I:SMach->Prop,InvM M.ns M.fs I->I M->Calls prog 24 #[machV an af ax ap aS M cn cf cx cp cs,.slice aq pk.length cq] V fun e w'=>∃v s,e=.returned (.tuple #[v,s,.int .i64 (runR M pk).2.2])/\Z6 V.heap.size w' v (runR M pk).1/\Reads w' s (runR M pk).2.1.length (Zs (runR M pk).2.1)/\Bq V w'):=(show ∀(V:World)(an af ax ap aS:Option Addr)(cn cf cx cp cs:Nat)(M:SMach),_ from fun V an af ax ap aS cn cf cx cp cs M hb hM hfm h0 I hI hIM=>co6 an af ax ap aS aq cn cf cx cp cs cq M pk V hM (hq.below hb) hfm (fun V' hV'=>hE.below (hb.trans (hV'.mono hb.size))) I (fun _=>hI) (fun _=>hIM))
 have Da:Hid (∀(V:World)(an af ax ap aS:Option Addr)(cn cf cx cp cs:Nat)(M:SMach),Bq w V->RMach V an af ax ap aS cn cf cx cp cs M->FitsM M->mchk M=0->∀I:SMach->Prop,InvM M.ns M.fs I->I M->∀k r,Fins k M (r,0)->Calls prog 25 #[machV an af ax ap aS M cn cf cx cp cs] V fun e w'=>∃v,e=.returned (.tuple #[v,.int .i64 0])/\Z6 V.heap.size w' v r/\Bq V w'):=(show ∀(V:World)(an af ax ap aS:Option Addr)(cn cf cx cp cs:Nat)(M:SMach),_ from fun V an af ax ap aS cn cf cx cp cs M hb hM hfm h0 I hI hIM k r hk=>by
  have:=bG7 an af ax ap aS cn cf cx cp cs M V hM hfm (fun V' hV'=>hE.below (hb.trans (hV'.mono hb.size))) I (fun _=>hI) (fun _=>hIM) k (r,0) (fun _=>hk)
  rw[show finR M (r,0)=(r,0) from by unfold finR;rw[qA (by simp[h0])]]at this
  exact this)
 have HD:=qH (show q9 W room pk.length fs l=if (t8 l W).2≠0 then ([],(t8 l W).2) else if (o6 fs l.fr).2≠0 then ([],(o6 fs l.fr).2) else if room<1\/1000<room then ([],3) else if 40000<pk.length then ([],2) else ((m9 fs l).1,0) from rfl)
 have HOK:=qH (show (t8 l W).2=0->(o6 fs l.fr).2=0->¬(room<1\/1000<room)->newS (t8 l W).1 fs room=(L9 (t8 l W).1 fs room,0)/\∃I:SMach->Prop,InvM (t8 l W).1 fs I/\I (L9 (t8 l W).1 fs room)/\(∀M,I M->FitsM M/\mchk M=0/\M.ns=(t8 l W).1/\M.fs=fs)/\∃k r,Fins k (t7 (L9 (t8 l W).1 fs room) pk).1 (r,0)/\r.sunk=(m9 fs l).1 from fun h1 h2 h3=>by
  obtain⟨g1,g2⟩:=ak6 h2
  have hnw:(newS (t8 l W).1 fs room).2=0:=by
   have hg:gchk (t8 l W).1=0:=by
    unfold t8 at h1 ⊢
    split
    . rename_i h;rw[qF h]at h1;exact absurd h1 h
    . rename_i h
      rw[qA h]at h1
      split
      . rename_i h';rw[qF h']at h1;cases h1
      . exact ac5 (by omega) (by simpa using h)
   unfold newS
   rw[qA (by simp[hg]),qA (by simp[g1]),qA h3]
  obtain⟨hg,hfc,hbd,hr1,hr2,hnw2,hre,_,_,_⟩:=bH3 h1 hnw
  obtain⟨k,r,hk,ho,hr,hs⟩:=bY0 hg hfc hbd hr1 hre pk
  exact⟨hnw2,Go.Gs.Reach (t8 l W).1 fs room,bX2 hg hfc hbd,hre,fun M hM=>⟨bG8 hg hfc hfn hff hM,hM.chk hg hfc hbd,(af2 hM).1,(af2 hM).2⟩,k,r,hk,by rw[hs,bC2 h1 h2]⟩)
 have HN3:=qH (show (t8 l W).2=0->(o6 fs l.fr).2=0->(room<1\/1000<room)->(newS (t8 l W).1 fs room).2=3 from fun h1 h2 h3=>by
  obtain⟨g1,g2⟩:=ak6 h2
  have hg:gchk (t8 l W).1=0:=by
   unfold t8 at h1 ⊢
   split
   . rename_i h;rw[qF h]at h1;exact absurd h1 h
   . rename_i h
     rw[qA h]at h1
     split
     . rename_i h';rw[qF h']at h1;cases h1
     . exact ac5 (by omega) (by simpa using h)
  unfold newS
  rw[qA (by simp[hg]),qA (by simp[g1]),qF h3])
 obtain⟨pe,hpe⟩:=qE ((t8 l W).2);obtain⟨ge,hge⟩:=qE ((o6 fs l.fr).2);obtain⟨RES,Ai⟩:=qE (q9 W room pk.length fs l);rw[<- Ai]at HD ⊢;rw[<- hpe,<- hge]at HD HOK HN3;obtain⟨GB,hGB⟩:=qE ((o6 fs l.fr).1);have HGT:=qH (show o6 fs l.fr=(GB,ge) by rw[hGB,hge]);have HPT:=qH (show t8 l W=((t8 l W).1,pe) by rw[hpe]);generalize (⟨l.tu.toArray⟩:ByteArray)=tx at *;generalize l.fr.length=NFR at *;generalize l.cs.length=NCS at *;generalize fs.length=NFS at *;generalize hNPK:pk.length=NPK at *;have HNPK:=qH hNPK;clear hf hd Ad hfs hff hq hE hfn hpe hge Ai hGB hNPK;go_enter Tryz.func42,Tryz.ntmps42;go_wp2_with fail;refine qD (HP.out _ i8) ?_;rintro e w1⟨an1,cn1,rfl,hn1,hb1⟩;rw[HPT.out]at hn1 ⊢;simp only at hn1 ⊢;have hB1:Bq w w1:=Below.trans (i8 (w:=w)) (hb1.mono (by simp));have hrw1:=(hb1.block w.heap.size (by simp)).trans (qN w _)
 obtain⟨x0,x1,x2⟩:=aT0 hb1;have HB1:=qH hB1;have HN1:=qH hn1;have HX1:Hid (w1.cell? ⟨w.heap.size,0,none⟩=some (.slice af NFR cf)/\w.heap.size<w1.heap.size):=⟨x0,(aSm hrw1).1⟩;clear hn1 hb1 hB1 HP hrw1 x0 x1 x2;by_cases hp0:pe=0
 .
  subst hp0;have HD2:Hid _:=HD.out;rw[qA (by simp)]at HD2;have Wa:Hid _:=HOK.out rfl;have Wb:Hid _:=HN3.out rfl;have HG2:Hid _:=HGA.out (w1.alloc (.cells #[.slice an1 (t8 l W).1.length cn1] 24)) (HB1.out.trans ((i8 (w:=w1)).mono HB1.out.size));have HX2:=qH (show (w1.alloc (.cells #[.slice an1 (t8 l W).1.length cn1] 24)).cell? ⟨w.heap.size,0,none⟩=some (.slice af NFR cf) from ((i8 (w:=w1)).cell HX1.out.2).trans HX1.out.1);have x0:=HX2.out;clear HD HOK HN3 HGA;go_wp2_with fail;refine qD HG2.out ?_;rintro e w2⟨a2,c2,rfl,hr2,hb2⟩;rw[HGT.out];simp only;have Ek:Bq w1 w2:=Below.trans (i8 (w:=w1)) (hb2.mono (by simp));have HB2:=qT HB1 Ek;have HN2:Hid (D4 w2 (.slice an1 (t8 l W).1.length cn1) (t8 l W).1):=D4.below HN1.out Ek
  have g0:w2.cell? ⟨w1.heap.size,0,none⟩=some (.slice an1 (t8 l W).1.length cn1):=by rw[hb2.cell (by simp),qV _ _ _ _ _ _ (qN w1 _)];rfl
  generalize GB.length=GL at *;clear hr2 hb2 Ek HG2 HN1 HX1 x0;by_cases hg0:ge=0
  .
   subst hg0;have HD3:Hid _:=HD2.out;rw[qA (by simp)]at HD3;have Wc:Hid _:=Wa.out rfl;have We:Hid _:=Wb.out rfl;have HC3:Hid _:=HNW.out w2 an1 cn1 HB2.out HN2.out;clear HD2 Wa Wb HNW HN2;obtain⟨NL,hNL⟩:=qE ((t8 l W).1.length);rw[<- hNL]at HC3 g0;clear hNL;go_wp2_with fail;refine qD HC3.out ?_;rintro e w3⟨v,rfl,hA3,hb3⟩;have HB3:=qT HB2 hb3;obtain⟨an,af',ax,ap,aS,cn,cf',cx,cp,cs,rfl,hM3⟩:=hA3;clear hb3 HC3 g0;by_cases hr0:room<1\/1000<room
   . have HR:=qH (show RES=([],3) by rw[HD3.out,qF hr0]);rw[We.out hr0];unfold machV;generalize (newS (t8 l W).1 fs room).1.ns.length=N0 at *;generalize (newS (t8 l W).1 fs room).1.fs.length=N1 at *;generalize (newS (t8 l W).1 fs room).1.pipes.length=N2 at *;generalize (newS (t8 l W).1 fs room).1.ps.length=N3 at *;generalize (newS (t8 l W).1 fs room).1.sunk.length=N4 at *;clear hM3 HD3 Wc We Ar Da hr0;go_wp2_with fail;go_ret2;exact af5 HR.out rfl (HB3.out.trans ((i8 (w:=w3)).mono HB3.out.size))
   .
    obtain⟨hnw,I,hI,hIM,Ae,kf,rf,Eu,Rt⟩:=Wc.out hr0;have HD4:Hid _:=HD3.out;rw[qA hr0]at HD4;rw[hnw]at hM3 ⊢;simp only at hM3 ⊢;obtain⟨M,hM⟩:=qE (L9 (t8 l W).1 fs room);rw[<- hM]at hM3 hIM Eu ⊢;obtain⟨m1,m2,m3,m4⟩:=Ae M hIM;have HI:=qH (show InvM M.ns M.fs I by rw[m3,m4];exact hI);obtain⟨W4,hW4⟩:=qE (w3.alloc (.cells #[.slice an M.ns.length cn,.slice af' M.fs.length cf',.slice ax M.pipes.length cx,.slice ap M.ps.length cp,.slice aS M.sunk.length cs] 30));have hb4:Bq w3 W4:=by rw[hW4];exact i8
    have HB4:=qT HB3 hb4;have Ru:W4.heap[w3.heap.size]? = some (.cells #[.slice an M.ns.length cn,.slice af' M.fs.length cf',.slice ax M.pipes.length cx,.slice ap M.ps.length cp,.slice aS M.sunk.length cs] 30 (0,0)):=by rw[hW4];exact qN _ _
    have HRU:Hid _:=Ar.out W4 an af' ax ap aS cn cf' cx cp cs M HB4.out (hM3.below hb4) m1 m2 I HI.out hIM;have Jp:=qH Ru;have HRR:=qH (show runR M pk=if 40000<NPK then (S9,[],2) else ((t7 M pk).1,(t7 M pk).2,0) by unfold runR;rw[qA (by simp[m2]),HNPK.out])
    have HIP:=qH (show InvM (t7 M pk).1.ns (t7 M pk).1.fs I/\I (t7 M pk).1/\FitsM (t7 M pk).1/\mchk (t7 M pk).1=0 by
     have h1:=HI.out.picks pk M hIM
     obtain⟨p1,p2,p3,p4⟩:=Ae _ h1
     exact⟨by rw[p3,p4];exact hI,h1,p1,p2⟩)
    have HFI:Hid (Fins kf (t7 M pk).1 (rf,0)/\rf.sunk=(m9 fs l).1):=⟨Eu,Rt⟩;obtain⟨BM,hBM⟩:=qE w3.heap.size;have HBM:=qH (show w.heap.size<=BM by rw[hBM];exact HB3.out.size);unfold machV at HRU ⊢;generalize M.ns.length=N0 at *;generalize M.fs.length=N1 at *;generalize M.pipes.length=N2 at *;generalize M.ps.length=N3 at *;generalize M.sunk.length=N4 at *;rw[<- hBM]at Jp;clear hM3 HD3 Wc We Ar hI hIM Ae Eu Rt hnw m1 m2 m3 m4 HI Ru hb4 hM;go_upto_region 10 with fail;rw[<- hW4,<- hBM];obtain⟨z0,z1,z2,z3,z4,_⟩:=A3 Jp.out;clear hW4 hBM;go_wp2_with fail;refine qD HRU.out ?_;rintro e w5⟨v5,s5,rfl,hA5,hS5,hb5⟩;have HB5:=qT HB4 hb5;have Ih:=qK hb5 Jp.out;have Oi:BM<W4.heap.size:=(aSm Jp.out).1;obtain⟨bn,bf,bx,bp,bS,dn,df,dx,dp,ds,rfl,hN5⟩:=hA5;obtain⟨x0,x1,x2,x3,x4,xf⟩:=A3 Ih;have xf0:=xf 0;have xf1:=xf 1;have xf2:=xf 2
    have xf3:=xf 3;have xf4:=xf 4;rw[HRR.out]at hN5 ⊢;unfold machV;clear hb5 hS5 z0 z1 z2 z3 z4 HRU xf HRR;by_cases hp4:40000<NPK
    . have HR:=qH (show RES=([],2) by rw[HD4.out,qF hp4]);rw[qF hp4];simp only;generalize S9.ns.length=Z0 at *;generalize S9.fs.length=Z1 at *;generalize S9.pipes.length=Z2 at *;generalize S9.ps.length=Z3 at *;generalize S9.sunk.length=Z4 at *;clear hN5 Ih Da HIP HFI HD4;go_wp2_with fail;go_ret2;exact af5 HR.out rfl (aw9 HB5.out HBM.out)
    .
     have HR:=qH (show RES=((m9 fs l).1,0) by rw[HD4.out,qA hp4]);rw[qA hp4]at hN5 ⊢;simp only at hN5 ⊢;obtain⟨M5,hM5⟩:=qE ((t7 M pk).1);rw[<- hM5]at hN5 HIP HFI ⊢;obtain⟨W6,hW6⟩:=qE (((((w5.setCell ⟨BM,0,none⟩ (.slice bn M5.ns.length dn)).setCell ⟨BM,1,none⟩ (.slice bf M5.fs.length df)).setCell ⟨BM,2,none⟩ (.slice bx M5.pipes.length dx)).setCell ⟨BM,3,none⟩ (.slice bp M5.ps.length dp)).setCell ⟨BM,4,none⟩ (.slice bS M5.sunk.length ds));have hBX:=(bd1 (b:=BM) hN5 Oi Ih rfl rfl rfl rfl rfl).2.self;have Oj:=aS9 (v0:=.slice bn M5.ns.length dn) (v1:=.slice bf M5.fs.length df) (v2:=.slice bx M5.pipes.length dx) (v3:=.slice bp M5.ps.length dp) (v4:=.slice bS M5.sunk.length ds) Ih;rw[<- hW6]at hBX Oj;have HB6:=qH (show Bq w W6 by rw[hW6];exact aw9 HB5.out HBM.out)
     have HFC:Hid _:=Da.out W6 bn bf bx bp bS dn df dx dp ds M5 HB6.out hBX HIP.out.2.2.1 HIP.out.2.2.2 I HIP.out.1 HIP.out.2.1 kf rf HFI.out.1;have Ol:=qH Oj;unfold machV at HFC;generalize M5.ns.length=N0 at *;generalize M5.fs.length=N1 at *;generalize M5.pipes.length=N2 at *;generalize M5.ps.length=N3 at *;generalize M5.sunk.length=N4 at *;clear hN5 Ih Da HD4 hBX hM5 Oj Oi;go_upto_region 13 with fail;rw[<- hW6];obtain⟨z0,z1,z2,z3,z4,_⟩:=A3 Ol.out;clear hW6 x0 x1 x2 x3 x4 xf0 xf1 xf2 xf3 xf4;go_wp2_with fail;refine qD HFC.out ?_;rintro e w7⟨v7,rfl,hA7,hb7⟩;have HB7:=qT HB6 hb7;have Jq:=qK hb7 Ol.out;have Oi:BM<W6.heap.size:=(aSm Ol.out).1;obtain⟨cn7,cf7,cx7,cp7,cS7,en,ef,ex,ep,es,rfl,hN7⟩:=hA7;obtain⟨x0,x1,x2,x3,x4,xf⟩:=A3 Jq;have xf0:=xf 0;have xf1:=xf 1;have xf2:=xf 2;have xf3:=xf 3;have xf4:=xf 4;unfold machV
     obtain⟨W8,hW8⟩:=qE (((((w7.setCell ⟨BM,0,none⟩ (.slice cn7 rf.ns.length en)).setCell ⟨BM,1,none⟩ (.slice cf7 rf.fs.length ef)).setCell ⟨BM,2,none⟩ (.slice cx7 rf.pipes.length ex)).setCell ⟨BM,3,none⟩ (.slice cp7 rf.ps.length ep)).setCell ⟨BM,4,none⟩ (.slice cS7 rf.sunk.length es));have hBX:=(bd1 (b:=BM) hN7 Oi Jq rfl rfl rfl rfl rfl).2.self.sunk;have Om:=aS9 (v0:=.slice cn7 rf.ns.length en) (v1:=.slice cf7 rf.fs.length ef) (v2:=.slice cx7 rf.pipes.length ex) (v3:=.slice cp7 rf.ps.length ep) (v4:=.slice cS7 rf.sunk.length es) Jq;rw[<- hW8]at hBX Om;have HRS:=qH hBX;have HB8:=qH (show Bq w W8 by rw[hW8];exact aw9 HB7.out HBM.out);obtain⟨q0,q1,q2,q3,q4,_⟩:=A3 Om;have HSK:Hid (rf.sunk=(m9 fs l).1):=HFI.out.2;generalize rf.ns.length=R0 at *;generalize rf.fs.length=R1 at *;generalize rf.pipes.length=R2 at *;generalize rf.ps.length=R3 at *
     generalize hR4:rf.sunk.length=R4 at *;clear hN7 Jq hBX Oi z0 z1 z2 z3 z4 hb7 HFC HFI HIP xf Om;go_upto_region 14 with fail;rw[<- hW8];clear hW8 x0 x1 x2 x3 x4 xf0 xf1 xf2 xf3 xf4;go_wp2_with fail;go_ret2;refine⟨cS7,es,?_,?_,HB8.out⟩
     . rw[HR.out,<- HSK.out,<- hR4];rfl
     . rw[HR.out,<- HSK.out];have:=HRS.out;rw[<- hR4]at this;exact this
  . have HR:=qH (show RES=([],ge) by rw[HD2.out,qF hg0]);generalize (t8 l W).1.length=NL at *;clear HD2 Wa Wb HNW HN2;go_wp2_with fail;go_ret2;exact af5 HR.out rfl HB2.out
 . have HR:=qH (show RES=([],pe) by rw[HD.out,qF hp0]);generalize (t8 l W).1.length=NL at *;clear HD HOK HN3;go_wp2_with fail;go_ret2;exact af5 HR.out rfl (HB1.out.trans ((i8 (w:=w1)).mono HB1.out.size))
theorem bw6(w:World):I0 w (.slice none 0 0) []:=⟨none,0,rfl,by simp,by simp[maxLen],fun h=>absurd rfl h⟩
theorem ci7(fs:List SFile):runS fs []=if fchk fs=0 then (fs,0) else ([],fchk fs):=by
 unfold runS;split
 . rfl
 . rfl
theorem aI6{W room:Int}{n:Nat}{fs:List SFile}{ls:List SLine}(h:fchk fs≠0):K3 W room n fs ls=([],fchk fs):=by unfold K3;rw[qA h]
theorem bd2{W room:Int}{n:Nat}{fs:List SFile}{ls:List SLine}(h:fchk fs=0)(h2:schk ls≠0):K3 W room n fs ls=([],schk ls):=by unfold K3;rw[qF h,qA h2]
theorem bw7{W room:Int}{n:Nat}{fs:List SFile}{ls:List SLine}(h:fchk fs=0)(h2:schk ls=0):K3 W room n fs ls=P4 W room n fs ls:=by unfold K3;rw[qF h,qF h2]
theorem bK3(W room:Int)(pk:List Int)(ao al aq:Option Addr)(cap cl cq:Nat)(fs:List SFile)(ls:List SLine)(w:World)(hf:j6 w (.slice ao fs.length cap) fs)(Ad:∀f∈fs,M9 f)(hl:I0 w (.slice al ls.length cl) ls)(hfl:∀x∈ls,M3 x)(hq:Reads w (.slice aq pk.length cq) pk.length (Zs pk))(hE:D6 w):
 Calls prog 43 #[.slice ao fs.length cap,.slice al ls.length cl,.int .i64 W,.int .i64 room,.slice aq pk.length cq] w fun e w'=>ak3 w (K3 W room pk.length fs ls) e w':=by
 have HRN:Hid (Calls prog 53 #[.slice ao fs.length cap,.slice none 0 0] w fun e w'=>ak3 w (runS fs []) e w'):=cp6 ao none cap 0 fs [] w hf Ad (bw6 w) (fun x hx=>by cases hx) hE.1;rw[ci7]at HRN;have HSC:=qH (show ∀V,Bq w V->Calls prog 107 #[.slice al ls.length cl] V fun e w'=>e=.returned (.int .i64 (schk ls))/\Bq V w' from fun V hb=>aX7 al cl ls V (hl.below hb) hfl);have HL:=qH hl;have HFL:=qH hfl;have HE:=qH hE;have HQ:=qH hq;have hle:=aD8 hl;obtain⟨N,hN⟩:=qE fs.length;obtain⟨M,hM⟩:=qE ls.length;have HM:=qH hM;obtain⟨P,hP⟩:=qE pk.length;have HP:=qH hP;rw[<- hN]at HRN ⊢;rw[<- hM]at HSC HL hle ⊢;rw[<- hP]at HQ ⊢;clear hf Ad hl hfl hq hE hN hM hP;by_cases h0:fchk fs=0
 .
  have HCK:=qH h0;rw[qF h0]at HRN;clear h0;by_cases h1:schk ls=0
  .
   obtain⟨hm6,Ae⟩:=aC3 h1;rw[<- HM.out]at hm6;have Xi:=qH Ae;have HRS:Hid (K3 W room P fs ls=P4 W room P fs ls):=bw7 HCK.out h1;rw[h1]at HSC;clear Ae h1;go_enter Tryz.func43,Tryz.ntmps43;go_wp2_with fail;refine qD HRN.out ?_;rintro e w1⟨a1,c1,rfl,hf1,hb1⟩;simp only at hf1 ⊢;have HB1:=qH hb1;obtain⟨N1,hN1⟩:=qE fs.length;rw[<- hN1]at hf1 ⊢;have HF1:=qH hf1;have HN1:=qH hN1;clear hb1 HRN hf1 hN1;go_wp2_with fail;have hQ:=HSC.out w1 HB1.out;refine qD hQ ?_;rintro e w2⟨rfl,hb2⟩;have HB2:=qT HB1 hb2;have HF2:Hid (j6 w2 (.slice a1 N1 c1) fs):=j6.below HF1.out hb2;clear hb2 hQ HSC HB1 HF1;go_wp2_with fail
   go_loopw [12,33] (fun fv i wr=>∃k:Nat,∃cur:List SFile,∃ac cc nc,k<=M/\i=.int .i64 k/\fv=.slice ac nc cc/\Hid (nc=cur.length)/\Hid (j6 wr (.slice ac nc cc) cur)/\Hid (fchk cur=0)/\Hid (P4 W room P fs ls=P4 W room P cur (ls.drop k))/\Hid (Bq w wr)) (fun _ i _=>M-(intOf i).toNat)
   case atStart=>exact⟨0,fs,a1,c1,_,qP _,rfl,rfl,HN1,HF2,HCK,(show _=_ from rfl),HB2⟩
   case round=>
    clear HF2 HB2;obtain⟨k,cur,ac,cc,nc,hk,rfl,rfl,HNC,HRF,HRI,HRL,Aa⟩:=hrel;by_cases hlt:k<M
    .
     obtain⟨x,hx⟩:∃x,ls[k]? = some x:=⟨_,gEl (by have:=HM.out;omega)⟩;obtain⟨b,off,af,cf,ad,cd,rfl,hc0,hc1,hc2,hr,hd⟩:=(I0.below HL.out Aa.out).at hx;have hfx:=HFL.out x (mGt hx)
     have HLI:=qH (show Calls prog 42 #[.slice ac nc cc,.agg #[.slice af x.fr.length cf,.slice ad x.cs.length cd,.string ⟨x.tu.toArray⟩],.int .i64 W,.int .i64 room,.slice aq P cq] wr fun e w'=>ak4 wr (q9 W room P cur x) e w' by
      have:=bw5 x W room cur pk af ad ac aq cf cd cc cq wr hr hd hfx (by rw[<- HNC.out];exact HRF.out) (right_fits HRI.out) (by rw[<- HP.out];exact Reads.below HQ.out Aa.out) (HE.out.below Aa.out)
      rw[<- HNC.out,<- HP.out]at this
      exact this)
     have HPU:Hid _:=fun(V:World)(hb:Bq wr V)(ab:Option Addr)(cb:Nat)(hrb:Reads V (.slice ab (q9 W room P cur x).1.length cb) (q9 W room P cur x).1.length ((q9 W room P cur x).1.map U))=>ca7 ac ab cc cb cur x.tu (q9 W room P cur x).1 V (by rw[<- HNC.out];exact HRF.out.below hb) (right_fits HRI.out) hrb hfx.2.2;rw[<- HNC.out,aY8 HRI.out]at HPU;have HDR:Hid (ls.drop k=x::ls.drop (k+1)):=drop_at hx;have HC2:=qH (show ∀V,Bq wr V->V.cell? ⟨b,off+k*3+2,none⟩=some (.string ⟨x.tu.toArray⟩) from fun V hV=>qC hV hc2);obtain⟨le,Fo⟩:=qE ((q9 W room P cur x).2);have HLE:=qH Fo;generalize (⟨x.tu.toArray⟩:ByteArray)=tx at *;generalize x.fr.length=NF at *;generalize x.cs.length=ND at *;clear hx hr hd hfx Fo;go_wp2_with fail;refine qD HLI.out ?_;rintro e w4⟨ab,cb,rfl,hrb,hb4⟩;have Ln:=qH hb4
     have HB4:Hid (Bq w w4):=Aa.out.trans (Ln.out.mono Aa.out.size);have hx2:=HC2.out w4 hb4;have HRB:Hid _:=hrb;rw[<- HLE.out];by_cases Gt:le=0
     . subst Gt;obtain⟨pe,hpe⟩:=qE ((putS cur x.tu (q9 W room P cur x).1).2);have HPE:=qH hpe;obtain⟨PN,hPN⟩:=qE ((q9 W room P cur x).1.length);have hP:=HPU.out w4 Ln.out ab cb HRB.out;rw[<- hPN]at hP ⊢;have HPP:Hid _:=hP;clear hb4 HLI hrb hP HPU hPN hpe HRB hc0 hc1 hc2 HC2;go_wp2_with fail;refine qD HPP.out ?_;rintro e w5⟨ar,cr,rfl,Ir,hb5⟩;have HB5:=qT HB4 hb5;have HR5:=qH Ir;rw[<- HPE.out];by_cases Lo:pe=0
       . subst Lo;have Tz:=qH (show P4 W room P fs ls=P4 W room P (putS cur x.tu (q9 W room P cur x).1).1 (ls.drop (k+1)) by rw[HRL.out,HDR.out,bp6 HLE.out.symm HPE.out.symm]);have Ua:Hid (fchk (putS cur x.tu (q9 W room P cur x).1).1=0):=aj7 HRI.out HPE.out.symm;obtain⟨QN,hQN⟩:=qE ((putS cur x.tu (q9 W room P cur x).1).1.length);have HQN:=qH hQN;rw[<- hQN]at HR5 ⊢;clear hb5 HPP Ir hQN hx2;go_wp2_with fail;go_roundw
         case rel=>exact⟨k+1,_,_,_,_,by omega,by go_num,rfl,HQN,HR5,Ua,Tz,HB5⟩
         case measure=>simp[intOf];omega
       . have HR:=qH (show K3 W room P fs ls=([],pe) by rw[HRS.out,HRL.out,HDR.out,aY9 HLE.out.symm (by rw[<- HPE.out];exact Lo),<- HPE.out]);generalize (putS cur x.tu (q9 W room P cur x).1).1.length=QN at *;clear hb5 HPP Ir hx2 HR5;go_wp2_with fail;go_ret2;exact E2 HR.out rfl HB5.out
     . have HR:=qH (show K3 W room P fs ls=([],le) by rw[HRS.out,HRL.out,HDR.out,aO8 (by rw[<- HLE.out];exact Gt),<- HLE.out]);generalize (q9 W room P cur x).1.length=PN at *;clear hb4 HLI hrb HPU HRB hc0 hc1 hc2 HC2;go_wp2_with fail;go_ret2;exact E2 HR.out rfl HB4.out
    . have HR:=qH (show K3 W room P fs ls=(cur,0) by rw[HRS.out,HRL.out,qt (by have:=HM.out;omega)];rfl);go_wp2_with fail;go_ret2;refine⟨ac,cc,?_,?_,Aa.out⟩
      . rw[HR.out,<- HNC.out];rfl
      . rw[HR.out];have:=HRF.out;rw[HNC.out]at this;exact this
  . have HR:Hid (K3 W room P fs ls=([],schk ls)):=bd2 HCK.out h1;obtain⟨sk,hsk⟩:=qE (schk ls);rw[<- hsk]at HSC HR h1;clear hsk;go_enter Tryz.func43,Tryz.ntmps43;go_wp2_with fail;refine qD HRN.out ?_;rintro e w1⟨a1,c1,rfl,hf1,hb1⟩;simp only;have HB1:=qH hb1;generalize fs.length=N1 at *;clear hb1 HRN hf1;go_wp2_with fail;have hQ:=HSC.out w1 HB1.out;refine qD hQ ?_;rintro e w2⟨rfl,hb2⟩;have HB2:=qT HB1 hb2;clear hb2 hQ HSC HB1;go_wp2_with fail;go_ret2;exact E2 HR.out rfl HB2.out
 . have HR:Hid (K3 W room P fs ls=([],fchk fs)):=aI6 h0;rw[qA h0]at HRN;obtain⟨ck,hck⟩:=qE (fchk fs);rw[<- hck]at HRN HR h0;clear hck;go_enter Tryz.func43,Tryz.ntmps43;go_wp2_with fail;refine qD HRN.out ?_;rintro e w1⟨a1,c1,rfl,hf1,hb1⟩;simp only;have HB1:=qH hb1;clear hb1 HRN hf1;go_wp2_with fail;go_ret2;exact E2 HR.out rfl HB1.out
end Go.Proofs.YtllgglolcgdehaaGreatDoor
