/- What the developers' New does, and more. -/
import Derived.Test.YtllgglolcgdehaaGreatDoorQAb
import Derived.Test.YtllgglolcgdehaaGreatDoorQa25
set_option maxRecDepth 100000
set_option maxHeartbeats 16000000
namespace Go.Proofs.YtllgglolcgdehaaGreatDoor
open Go.RowKit Go.Gs Go.Maps
set_option linter.unusedVariables false
theorem aZ1 (n:SNode) (ai:Option Addr) (ni ci:Nat) (room:Int) (w:World) :
 Calls Tryz.prog 61 #[D2 n ai ni ci,.int .i64 room] w fun e w'=>e=.returned (.int .i64 (if n.kind=2 then 0 else room))/\Bq w w':=by
 unfold D2;generalize n.kind=k;generalize n.wide=wd;generalize (⟨n.file.toArray⟩:ByteArray)=fx;generalize (⟨n.c.word.toArray⟩:ByteArray)=wx;generalize n.c.kind=ck;generalize n.c.n=cn;generalize n.how=hw;by_cases h2:k=2
 . subst h2;go_enter Tryz.func61,Tryz.ntmps61;go_wp2_with fail;go_ret;exact⟨rfl,boxE⟩
 . have HE:Hid ((if k=2 then (0:Int) else room)=room):=(show _=_ by rw[if_neg h2]);rw[HE.out];go_enter Tryz.func61,Tryz.ntmps61;go_wp2_with fail;go_ret;exact⟨rfl,boxE⟩
def ah9 (ns:List SNode) (fs:List SFile):SMach:=⟨ns,fs,[],[],[]⟩
theorem bm4 {ns:List SNode} {fs:List SFile} (hg:gchk ns=0) (hf:fchk fs=0):SmallC (ah9 ns fs):=by
 have g:=D7 hg;have h60:=g.le60;have hf2:=I0 hf;refine⟨by show ns.length<=_;omega,by show fs.length<=_;omega,by simp[ah9],by simp[ah9],by simp[ah9],fun n hn=>?_,fun f hf3=>?_,fun x hx=>by simp[ah9] at hx,fun p hp=>by simp[ah9] at hp⟩
 . have:=(y9 (g.node n hn)).1;omega
 . have:=(J2 hf2.2 f hf3).2;omega
theorem cw1 {ns:List SNode} (g:RightG ns) (k:Nat):(j7 (ns.take k)).length<=300:=by
 have:∀(l:List SNode),(∀m∈l,m.ins.length<=5)->(j7 l).length<=5*l.length:=by
  intro l
  induction l with
  | nil=>intro _;simp[j7]
  | cons m l ih=>
   intro hm
   have h1:=ih (fun m' hm'=>hm m' (by simp[hm']))
   have h2:=hm m (by simp)
   simp only[j7,List.map_cons,List.flatten_cons,List.length_append,List.length_cons] at *
   omega
 have h1:=this (ns.take k) (fun m hm=>(y9 (g.node m (List.mem_of_mem_take hm))).1);rw[List.length_take] at h1;have:=g.le60;omega
theorem cl0 {w:World} {x:Nat} {t:TypeId} (h:w.heap[x]? = some (.cells #[.slice none 0 0,.slice none 0 0,.slice none 0 0,.slice none 0 0,.slice none 0 0] t (0,0))):ab7 w x:=by
 intro j u hu;rw[cell_of_row _ _ _ _ _ _ h] at hu;have:j=0\/j=1\/j=2\/j=3\/j=4\/5<=j:=by omega
 rcases this with rfl | rfl | rfl | rfl | rfl | hj;all_goals first | (simp at hu;exact⟨_,_,_,hu.symm⟩) | (rw[Array.getElem?_eq_none (by simpa using hj)] at hu;cases hu)
def V18 (wrs bM B6:Nat) (vP node isl:Value) (IL OL:Nat) (C1 C2:Array Value):Nat->Value->World->Prop
 | 0,x,W=>x=.pointer (some ⟨bM,3,none⟩)
 | 1,x,W=>x=vP
 | 2,x,W=>x=.pointer (some ⟨B6,7,none⟩)
 | 3,x,W=>x=isl
 | 4,x,W=>x=.int .i64 (IL:Int)
 | 5,x,W=>∃gg,x=.slice (some ⟨gg,0,none⟩) IL IL/\wrs<=gg/\W.heap[gg]? = some (.cells C1 28 (0,0))
 | 6,x,W=>x=node
 | 7,x,W=>x=.int .i64 (OL:Int)
 | 8,x,W=>∃go,x=.slice (some ⟨go,0,none⟩) OL OL/\wrs<=go/\W.heap[go]? = some (.cells C2 28 (0,0))
 | 9,x,W=>∃gg go,x=.agg #[.slice (some ⟨gg,0,none⟩) IL IL,.int .i64 0,.slice (some ⟨go,0,none⟩) OL OL,.bool false,.bool false]/\(wrs<=gg/\W.heap[gg]? = some (.cells C1 28 (0,0)))/\(wrs<=go/\W.heap[go]? = some (.cells C2 28 (0,0)))
 | 10,x,W=>∃ad gg go,x=.slice (some ⟨ad,0,none⟩) 1 1/\(wrs<=ad/\W.heap[ad]? = some (.cells #[.slice (some ⟨gg,0,none⟩) IL IL,.int .i64 0,.slice (some ⟨go,0,none⟩) OL OL,.bool false,.bool false] 76 (0,0)))/\(wrs<=gg/\W.heap[gg]? = some (.cells C1 28 (0,0)))/\(wrs<=go/\W.heap[go]? = some (.cells C2 28 (0,0)))
 | 12,x,W=>x=.pointer (some ⟨bM,3,none⟩)
 | _,x,W=>True
def ay0 (wrs:Nat) (A B:World):Prop:=∀g,wrs<=g->g<A.heap.size->B.heap[g]? = A.heap[g]?
theorem ay0.some {wrs:Nat} {A B:World} (h:ay0 wrs A B) {g:Nat} {o:Obj} (hg:wrs<=g) (ho:A.heap[g]? = some o):B.heap[g]? = some o:=(h g hg (aSm ho).1).trans ho
theorem V18.keep {wrs bM B6:Nat} {vP node isl:Value} {IL OL:Nat} {C1 C2:Array Value} {A B:World} (hk:ay0 wrs A B):∀(j:Nat) (x:Value),V18 wrs bM B6 vP node isl IL OL C1 C2 j x A->V18 wrs bM B6 vP node isl IL OL C1 C2 j x B
 | 0,x,h=>h
 | 1,x,h=>h
 | 2,x,h=>h
 | 3,x,h=>h
 | 4,x,h=>h
 | 5,x,⟨gg,h1,h2,h3⟩=>⟨gg,h1,h2,hk.some h2 h3⟩
 | 6,x,h=>h
 | 7,x,h=>h
 | 8,x,⟨gg,h1,h2,h3⟩=>⟨gg,h1,h2,hk.some h2 h3⟩
 | 9,x,⟨gg,go,h1,h2,h3⟩=>⟨gg,go,h1,⟨h2.1,hk.some h2.1 h2.2⟩,⟨h3.1,hk.some h3.1 h3.2⟩⟩
 | 10,x,⟨ad,gg,go,h1,h0,h2,h3⟩=>⟨ad,gg,go,h1,⟨h0.1,hk.some h0.1 h0.2⟩,⟨h2.1,hk.some h2.1 h2.2⟩,⟨h3.1,hk.some h3.1 h3.2⟩⟩
 | 11,x,h=>trivial
 | 12,x,h=>h
 | n+13,x,h=>trivial
theorem OV.put2 {f n:Nat} {V:Nat->Value->World->Prop} {a0:Act} {W0:World} {L:Nat->Bool} {a:Act} {W W':World} {v:Value} {i:Nat} (h:OV f n V a0 W0 L a W) (hV:∀j x,V j x W->V j x W') (hi:i<n) (hs:f+n<=a0.tmps.size) (hb:Bq W0 W') (hv:V i v W') :
 OV f n V a0 W0 (updV L i) (a.put (some (f+i)) v) W':=by
 refine⟨by simp[Act.put,h.sz],h.df,hb,fun j hj hL=>?_,fun s hs'=>?_⟩
 .
  by_cases e:j=i
  . subst e;rw[ck8 (by rw[h.sz];omega)];exact hv
  . rw[ck7 (by omega)];exact hV _ _ (h.vs j hj (by simpa[updV,e] using hL))
 . have:(a.put (some (f+i)) v).tmps[s]? = a.tmps[s]?:=by simp only[Act.put];rw[Array.getElem?_setIfInBounds_ne (by omega)]
   rw[this];exact h.fr s hs'
def S4:Nat->List Nat
 | 1=>[0]
 | 3=>[2]
 | 4=>[3]
 | 5=>[4]
 | 7=>[6]
 | 8=>[7]
 | 9=>[5,8]
 | 10=>[9]
 | _=>[]
def DC18 (L:Nat->Bool):Prop:=∀j,L j=true -> ∀d∈S4 j,L d=true
theorem DC18.upd {L:Nat->Bool} (h:DC18 L) {i:Nat} (hd:∀d∈S4 i,L d=true):DC18 (updV L i):=by
 intro j hj d hdj;unfold updV at hj ⊢;by_cases e:d=i
 . rw[if_pos e]
 .
  rw[if_neg e];by_cases e2:j=i
  . subst e2;exact hd d hdj
  . rw[if_neg e2] at hj;exact h j hj d hdj
theorem DC18.all {L:Nat->Bool} (h:DC18 L) (h1:L 1=true) (h10:L 10=true):∀j,j<=10->L j=true:=by
 have h0:=h 1 h1 0 (by simp[S4]);have h9:=h 10 h10 9 (by simp[S4]);have h5:=h 9 h9 5 (by simp[S4]);have h8:=h 9 h9 8 (by simp[S4]);have h4:=h 5 h5 4 (by simp[S4]);have h3:=h 4 h4 3 (by simp[S4]);have h2:=h 3 h3 2 (by simp[S4]);have h7:=h 8 h8 7 (by simp[S4]);have h6:=h 7 h7 6 (by simp[S4]);intro j hj;have:j=0\/j=1\/j=2\/j=3\/j=4\/j=5\/j=6\/j=7\/j=8\/j=9\/j=10:=by omega
 rcases this with rfl | rfl | rfl | rfl | rfl | rfl | rfl | rfl | rfl | rfl | rfl <;> assumption
structure NI (w0 wr:World) (bM B6:Nat) (vP node isl:Value) (IL OL:Nat) (C1 C2:Array Value) (k:Nat) (Fin:World->Prop) (a0:Act) (L:Nat->Bool) (a:Act) (W:World):Prop where
 ov:OV 71 13 (V18 wr.heap.size bM B6 vP node isl IL OL C1 C2) a0 w0 L a W
 p0:L 11=false->Below wr.heap.size wr W
 cl:L 11=true -> ∀j,j<=10->L j=true
 c13:L 13=true->L 11=true
 dc:DC18 L
 p1:L 11=true->L 13=false -> ∃a' c',a.eval (.tmp 82)=.slice a' (k+1) c'/\W.cell? ⟨bM,3,none⟩=some vP/\W.frozen? ⟨bM,3,none⟩=false/\Fin (W.setCell ⟨bM,3,none⟩ (.slice a' (k+1) c'))
 p2:L 13=true->Fin W
theorem NI.start {w0 wr:World} {bM B6:Nat} {vP node isl:Value} {IL OL:Nat} {C1 C2:Array Value} {k:Nat} {Fin:World->Prop} (a0:Act) (hb:Bq w0 wr):NI w0 wr bM B6 vP node isl IL OL C1 C2 k Fin a0 (fun _=>false) a0 { wr with drawn:=wr.drawn+1 }:=
 ⟨⟨rfl,rfl,hb.drew,fun i _ h=>(by cases h),fun s _=>rfl⟩,fun _=>(Below.refl _ wr).drew,fun h=>(by cases h),fun h=>(by cases h),(fun j h=>by cases h),fun h=>(by cases h),fun h=>(by cases h)⟩
theorem NI.not11 {w0 wr:World} {bM B6:Nat} {vP node isl:Value} {IL OL:Nat} {C1 C2:Array Value} {k:Nat} {Fin:World->Prop} {a0:Act} {L:Nat->Bool} {a:Act} {W:World} {i:Nat} (h:NI w0 wr bM B6 vP node isl IL OL C1 C2 k Fin a0 L a W) (hL:L i=false) (hi:i<=10):L 11=false:=by
 cases e:L 11 with
 | false=>rfl
 | true=>
  have:=h.cl e i hi
  rw[hL] at this
  cases this
theorem NI.put {w0 wr:World} {bM B6:Nat} {vP node isl:Value} {IL OL:Nat} {C1 C2:Array Value} {k:Nat} {Fin:World->Prop} {a0:Act} {L:Nat->Bool} {a:Act} {W W':World} {v:Value} {i:Nat} (h:NI w0 wr bM B6 vP node isl IL OL C1 C2 k Fin a0 L a W) (hL:L i=false) (hi:i<=10) (hs:71+13<=a0.tmps.size) (hw0:w0.heap.size<=wr.heap.size) (hb:Bq W W') (hv:V18 wr.heap.size bM B6 vP node isl IL OL C1 C2 i v W') (hd:∀d∈S4 i,L d=true) :
 NI w0 wr bM B6 vP node isl IL OL C1 C2 k Fin a0 (updV L i) (a.put (some (71+i)) v) W':=by
 have h11:L 11=false:=h.not11 hL hi;have hbW:=h.p0 h11;have u11:updV L i 11=L 11:=by unfold updV;rw[if_neg (by omega)]
 have u13:updV L i 13=L 13:=by unfold updV;rw[if_neg (by omega)]
 refine⟨OV.put2 h.ov (V18.keep (fun g hg hgs=>hb.block g hgs)) (by omega) hs (h.ov.be.trans (hb.mono h.ov.be.size)) hv,fun _=>hbW.trans (hb.mono hbW.size),fun e=>?_,fun e=>?_,h.dc.upd hd,fun e=>?_,fun e=>?_⟩
 . rw[u11,h11] at e
   cases e
 . rw[u13] at e;rw[h.c13 e] at h11
   cases h11
 . rw[u11,h11] at e
   cases e
 . rw[u13] at e;rw[h.c13 e] at h11
   cases h11
theorem NI.put12 {w0 wr:World} {bM B6:Nat} {vP node isl:Value} {IL OL:Nat} {C1 C2:Array Value} {k:Nat} {Fin:World->Prop} {a0:Act} {L:Nat->Bool} {a:Act} {W:World} (h:NI w0 wr bM B6 vP node isl IL OL C1 C2 k Fin a0 L a W) (hs:71+13<=a0.tmps.size) :
 NI w0 wr bM B6 vP node isl IL OL C1 C2 k Fin a0 (updV L 12) (a.put (some 83) (.pointer (some ⟨bM,3,none⟩))) W:=by
 refine⟨OV.put2 h.ov (fun _ _ h=>h) (by omega) hs h.ov.be rfl,fun e=>h.p0 e,fun e j hj=>?_,fun e=>h.c13 e,h.dc.upd (by simp[S4]),fun e1 e2=>?_,fun e=>h.p2 e⟩
 . have:=h.cl e j hj;unfold updV;rw[if_neg (by omega)];exact this
 . obtain⟨a',c',q1,q2⟩:=h.p1 e1 e2;exact⟨a',c',by rw[ck7 (by omega)];exact q1,q2⟩
theorem NI.put11 {w0 wr:World} {bM B6:Nat} {vP node isl:Value} {IL OL:Nat} {C1 C2:Array Value} {k:Nat} {Fin:World->Prop} {a0:Act} {L:Nat->Bool} {a:Act} {W W':World} (h:NI w0 wr bM B6 vP node isl IL OL C1 C2 k Fin a0 L a W) (hs:71+13<=a0.tmps.size) (hL:L 11=false) (Ae:∀j,j<=10->L j=true) (hk:ay0 wr.heap.size W W') (hb:Bq w0 W') {a':Option Addr} {c':Nat} (h1:W'.cell? ⟨bM,3,none⟩=some vP) (h2:W'.frozen? ⟨bM,3,none⟩=false) (h3:Fin (W'.setCell ⟨bM,3,none⟩ (.slice a' (k+1) c'))) :
 NI w0 wr bM B6 vP node isl IL OL C1 C2 k Fin a0 (updV L 11) (a.put (some 82) (.slice a' (k+1) c')) W':=by
 have u13:updV L 11 13=L 13:=rfl;have n13:L 13=false:=by
  cases e:L 13 with
  | false=>rfl
  | true=>rw[h.c13 e] at hL;cases hL
 refine⟨OV.put2 h.ov (V18.keep hk) (by omega) hs hb trivial,fun e=>?_,fun e j hj=>?_,fun e=>?_,h.dc.upd (by simp[S4]),fun e1 e2=>⟨a',c',?_,h1,h2,h3⟩,fun e=>?_⟩
 . simp[updV] at e
 . unfold updV;rw[if_neg (by omega)];exact Ae j hj
 . simp[updV]
 . rw[ck8 (by rw[h.ov.sz];omega)]
 . rw[u13,n13] at e
   cases e
theorem NI.put13 {w0 wr:World} {bM B6:Nat} {vP node isl:Value} {IL OL:Nat} {C1 C2:Array Value} {k:Nat} {Fin:World->Prop} {a0:Act} {L:Nat->Bool} {a:Act} {W W':World} (h:NI w0 wr bM B6 vP node isl IL OL C1 C2 k Fin a0 L a W) (h11:L 11=true) (hk:ay0 wr.heap.size W W') (hb:Bq w0 W') (hF:Fin W') :
 NI w0 wr bM B6 vP node isl IL OL C1 C2 k Fin a0 (updV L 13) a W':=by
 have u11:updV L 13 11=L 11:=rfl;refine⟨⟨h.ov.sz,h.ov.df,hb,fun i hi e=>?_,h.ov.fr⟩,fun e=>?_,fun e j hj=>?_,fun e=>by rw[u11];exact h11,h.dc.upd (by simp[S4]),fun e1 e2=>?_,fun _=>hF⟩
 . have:L i=true:=by unfold updV at e;rw[if_neg (by omega)] at e;exact e
   exact V18.keep hk _ _ (h.ov.vs i hi this)
 . rw[u11,h11] at e
   cases e
 . have:=h.cl h11 j hj;unfold updV;rw[if_neg (by omega)];exact this
 . simp[updV] at e2
def R9 (w0 wr:World) (bM:Nat) (vN vF vS:Value) (ns:List SNode) (room:Int) (L:List (Int × Int)) (k av:Nat):Prop:=
 ∃vX vP Q,NewAt w0 wr bM vN vF vX vP vS (L.map (roomOf ns room)) Q/\Q.map (fun q=>(q.il,q.ol))=(ns.take k).map (fun n=>(n.ins.length,(nouts n).toNat))/\vX.ownBlock≠some av/\vP.ownBlock≠some av
theorem bz1 {w:World} {an af:Option Addr} {cn cf:Nat} {ns:List SNode} {fs:List SFile} (hN:A2 w (.slice an ns.length cn) ns) (hF:j9 w (.slice af fs.length cf) fs):RMach w an af none none none cn cf 0 0 0 (ah9 ns fs):=
 ⟨hN,hF,⟨none,0,rfl,Nat.le_refl _,by simp[maxLen],fun h=>absurd rfl h⟩,⟨none,0,rfl,Nat.le_refl _,by simp[maxLen],fun h=>absurd rfl h⟩,rnil⟩
theorem aF4 (an af:Option Addr) (cn cf:Nat) (ns:List SNode) (fs:List SFile) (room:Int) (w:World) (hN:A2 w (.slice an ns.length cn) ns) (hF:j9 w (.slice af fs.length cf) fs) (hfn:∀n∈ns,M4 n) (hff:∀f∈fs,M3 f) :
 Calls Tryz.prog 15 #[.agg #[.slice an ns.length cn],.slice af fs.length cf,.int .i64 room] w fun e w'=>∃v,e=.returned (.tuple #[v,.int .i64 (newS ns fs room).2])/\K8 w' v (newS ns fs room).1/\Bq w w':=by
 have HCG:Hid (∀W,Bq w W->Calls Tryz.prog 58 #[.agg #[.slice an ns.length cn],.slice af fs.length cf] W fun e w'=>e=.returned (.int .i64 (if gchk ns≠0 then gchk ns else fchk fs))/\Bq W w'):=(show ∀W,_ from fun W hW=>az2 an af cn cf ns fs W (fun V hV=>aI7 ns an cn V ((hN.below hW).below hV) hfn) (fun V hV=>aa9 af cf fs V ((hF.below hW).below hV) hff));have HCL:Hid (gchk ns=0->fchk fs=0 -> ∀W,Bq w W->Calls Tryz.prog 59 #[.agg #[.slice an ns.length cn,.slice af fs.length cf,.slice none 0 0,.slice none 0 0,.slice none 0 0]] W fun e w'=>∃D vN vF vX vP sS X P O,e=.returned (.agg #[vN,vF,vX,vP,sl [] sS])/\(∀vI vM,Raw w' D O ⟨ah9 ns fs,vN,vF,vX,vP,vI,vM,sS,X,P⟩)/\W.heap.size<=D/\Bq W w'):=(show gchk ns=0->fchk fs=0 -> ∀W,_ from fun h1 h2 W hW=>aS8 an af none none none cn cf 0 0 0 (ah9 ns fs) W (bz1 (hN.below hW) (hF.below hW)) (bm4 h1 h2))
 have HN:=qH hN;obtain⟨K,hK⟩:=qE ((if gchk ns≠0 then gchk ns else fchk fs));rw[<- hK] at HCG;have hle:=ac3 hN
 have HNS:Hid (newS ns fs room=if K≠0 then (H7,K) else if room<1\/1000<room then (H7,3) else (o7 ns fs room,0)):=(show _=_ by
  unfold newS
  rw[hK]
  by_cases h1:gchk ns=0 <;> simp[h1])
 have HK0:Hid (K=0->gchk ns=0/\fchk fs=0):=(show K=0->_ from fun h=>by
  rw[hK] at h
  by_cases h1:gchk ns=0
  . rw[if_neg (by simpa using h1)] at h
    exact⟨h1,h⟩
  . rw[if_pos h1] at h
    exact absurd h h1)
 obtain⟨RES,Af⟩:=qE (newS ns fs room);rw[<- Af] at HNS ⊢;have HFN:=qH hfn;obtain⟨NN,hNN⟩:=qE ns.length;obtain⟨NF,hNF⟩:=qE fs.length;have HL:Hid (NN=ns.length/\NF=fs.length):=⟨hNN,hNF⟩;rw[<- hNN,<- hNF] at HCG HCL ⊢;rw[<- hNN] at HN hle;clear hN hF hfn hff hK Af hNN hNF;go_enter Tryz.func15,Tryz.ntmps15;go_wp2_with fail;obtain⟨W0,hW0⟩:=qE ((w.alloc (.cells #[.slice an NN cn] 24)).alloc (.cells #[.slice none 0 0,.slice none 0 0,.slice none 0 0,.slice none 0 0,.slice none 0 0] 30));rw[<- hW0];have hB0:Bq w W0:=by rw[hW0];exact ((Below.refl _ w).alloc (Nat.le_refl _) _).alloc (by simp) _
 have hX0:W0.heap[w.heap.size]? = some (.cells #[.slice an NN cn] 24 (0,0))/\W0.heap[w.heap.size+1]? = some (.cells #[.slice none 0 0,.slice none 0 0,.slice none 0 0,.slice none 0 0,.slice none 0 0] 30 (0,0)):=by rw[hW0];exact⟨heap_alloc2_old _ _ _,heap_alloc2_new _ _ _⟩
 refine Calls.mono (HCG.out W0 hB0) ?_;rintro e w1 ⟨rfl,hb1⟩;have hlt0:w.heap.size+1<W0.heap.size:=(aSm hX0.2).1;have hX1:=And.intro ((hb1.block _ (by omega)).trans hX0.1) ((hb1.block _ hlt0).trans hX0.2);have HB1:Hid (Bq w w1):=hB0.trans (hb1.mono hB0.size);have HX1:=qH hX1;obtain⟨y0,y1,y2,y3,y4,yf⟩:=j6 hX1.2;have yf0:=yf 0;have yf1:=yf 1;have yf2:=yf 2;have yf3:=yf 3;have yf4:=yf 4;have x0:w1.cell? ⟨w.heap.size,0,none⟩=some (.slice an NN cn):=by rw[cell_of_row _ _ _ _ _ _ hX1.1];rfl
 clear hW0 hB0 hX0 hb1 hX1 HCG yf hlt0;by_cases h0:K=0
 .
  by_cases hr:room<1\/1000<room
  .
   have HR:Hid (RES=(H7,3)):=(show _=_ by rw[HNS.out,if_neg (by simpa using h0),if_pos hr]);subst h0;clear HNS;by_cases hr1:room<1
   . clear hr;go_wp2_with fail;(try simp only[Exit.inBlock,Exit.then])
     refine bodyPost_ret (v:=.tuple #[.agg #[.slice none 0 0,.slice none 0 0,.slice none 0 0,.slice none 0 0,.slice none 0 0],.int .i64 3]) ?_ rfl ?_
     . rw[results_cell_tmp rfl];go_simp
     . rw[HR.out];exact⟨_,rfl,K8.zero _,by repeat (first | refine Below.setCell ?_ (by simp) _ | exact HB1.out)⟩
   .
    have hr2:1000<room:=by omega
    clear hr;go_wp2_with fail;(try simp only[Exit.inBlock,Exit.then])
    refine bodyPost_ret (v:=.tuple #[.agg #[.slice none 0 0,.slice none 0 0,.slice none 0 0,.slice none 0 0,.slice none 0 0],.int .i64 3]) ?_ rfl ?_
    . rw[results_cell_tmp rfl];go_simp
    . rw[HR.out];exact⟨_,rfl,K8.zero _,by repeat (first | refine Below.setCell ?_ (by simp) _ | exact HB1.out)⟩
  .
   have HR:Hid (RES=(o7 ns fs room,0)):=(show _=_ by rw[HNS.out,if_neg (by simpa using h0),if_neg hr]);obtain⟨hg0,hf0⟩:=HK0.out h0;have HG:Hid (RightG ns):=D7 hg0;have HCL2:Hid _:=HCL.out hg0 hf0;have hr1:¬room<1:=by omega
   have hr2:¬1000<room:=by omega
   subst h0;clear HNS HK0 HCL hg0 hf0 hr y0 y1 y2 y3 y4 yf0 yf1 yf2 yf3 yf4;go_wp2_with fail;refine Calls.mono (HCL2.out w1 HB1.out) ?_;rintro e w2 ⟨D,vN,vF,vX,vP,sS,X,P,O,rfl,Oj,hD,hb2⟩;have hRI:=Oj (.slice none 0 0) (.slice none 0 0);obtain⟨w0,hw0,Gn,hrn,hrf⟩:=hRI.base;obtain⟨aN,cN,hvN,_,_⟩:=hrn.shape;obtain⟨aF,cF,hvF,_,_⟩:=hrf.shape;have hPX:=hRI.part .pipes (by simp) (by simp);have hPP:=hRI.part .procs (by simp) (by simp);obtain⟨⟨aX,cX,hvX,_,_⟩,_⟩:=j8 hPX.1;obtain⟨⟨aP,cP,hvP,_,_⟩,_⟩:=j8 hPP.1;simp only at hvN hvF hvX hvP;have hvS:sl [] sS=.slice sS.1 0 sS.2:=rfl;have hcS:sS.2<=maxLen:=by
    rcases hRI.part .sunk (by simp) (by simp) with ⟨e1,_⟩ | ⟨_,_,_,_,_,_,_,h9,_⟩
    . have e2:sS=nilS:=e1;rw[e2];simp[nilS]
    . exact h9
   have HN0:Hid (A2 w0 vN ns/\j9 w0 vF fs):=⟨hrn,hrf⟩;subst hw0;have hbM:w2.heap.size<(w2.alloc (.cells #[vN,vF,vX,vP,sl [] sS] 30)).heap.size:=by simp
   have hNA:NewAt w0 (w2.alloc (.cells #[vN,vF,vX,vP,sl [] sS] 30)) w2.heap.size vN vF vX vP (sl [] sS) [] []:=by
    have hbx:Bq w2 (w2.alloc (.cells #[vN,vF,vX,vP,sl [] sS] 30)):=boxE;refine⟨Gn.trans (hbx.mono Gn.size),Gn.size,heap_alloc_new _ _,o5 hPX.1 (fun g hg=>hbx.block g (hPX.1.lt g hg).2),o5 hPP.1 (fun g hg=>hbx.block g (hPP.1.lt g hg).2),fun e=>?_,fun e=>?_,fun g hg e=>?_,fun q hq=>by cases hq⟩
    . have:=(hPX.1.lt _ e).2;omega
    . have:=(hPP.1.lt _ e).2;omega
    . have q1:=hPX.2 g hg;have q2:=hPP.2 g e;rw[q1] at q2
      cases q2
   obtain⟨w3,hw3⟩:=qE (w2.alloc (.cells #[vN,vF,vX,vP,sl [] sS] 30));rw[<- hw3] at hNA;have hDw:w.heap.size+2<=w0.heap.size:=by have:=(aSm HX1.out.2).1;omega
   have hX2:=And.intro ((hb2.block _ (aSm HX1.out.1).1).trans HX1.out.1) ((hb2.block _ (aSm HX1.out.2).1).trans HX1.out.2);have HX0:Hid (w0.heap[w.heap.size]? = some (.cells #[.slice an NN cn] 24 (0,0))/\w0.heap[w.heap.size+1]? = some (.cells #[.slice none 0 0,.slice none 0 0,.slice none 0 0,.slice none 0 0,.slice none 0 0] 30 (0,0))):=⟨(Gn.block _ (by omega)).symm.trans hX2.1,(Gn.block _ (by omega)).symm.trans hX2.2⟩
   have HBW:Hid (∀W,Bq w0 W->Bq w W):=(show ∀W,_ from fun W hW=>by
    have h1:Bq w w2:=HB1.out.trans (hb2.mono HB1.out.size)
    refine⟨?_,?_,?_,?_,fun k hk=>?_⟩
    . exact hW.os.trans (Gn.os.symm.trans h1.os)
    . exact hW.tape.trans (Gn.tape.symm.trans h1.tape)
    . exact hW.output.trans (Gn.output.symm.trans h1.output)
    . have:=hW.size
      omega
    . rw[hW.block k (by omega),<- Gn.block k (by omega)]
      exact h1.block k hk)
   have HDW:=qH hDw;have HCS:=qH hcS;have HNT:Hid (R9 w0 w3 w2.heap.size vN vF (sl [] sS) ns room [] 0 w2.heap.size):=(show R9 _ _ _ _ _ _ _ _ _ _ _ from ⟨vX,vP,[],hNA,by simp,hNA.nX,hNA.nP⟩);have e1:(ah9 ns fs).ns.length=NN:=HL.out.1.symm;have e2:(ah9 ns fs).fs.length=NF:=HL.out.2.symm;rw[e1] at hvN;rw[e2] at hvF;subst hvN hvF hvX hvP;have HBX3:Hid (Bq w0 w3):=hNA.bel;have x0':=(hb2.cell (bLt w1 _ x0)).trans x0;have hx3:w3.cell? ⟨w.heap.size,0,none⟩=some (.slice an NN cn):=by rw[hw3];exact (boxE.cell (bLt w2 _ x0')).trans x0'
   have HG60:Hid (NN<=60):=(show _<=_ by have:=HG.out.le60;have:=HL.out.1;omega);have h60:=HG60.out;have hvS':sl [] sS=.slice sS.1 0 sS.2:=rfl;rw[hvS'] at hw3 HNT;unfold sl;simp only[List.length_nil];obtain⟨sa,sc⟩:=sS;simp only at hw3 HNT HCS;clear Oj hRI Gn hrn hrf hPX hPP hvS hcS hNA hbM hDw hX2 hD hb2 HCL2 x0 x0' e1 e2 hvS';go_upto_region 7 with fail;rw[<- hw3];clear hw3;go_wp2_with fail;clear hx3;go_loopw [37] (fun z wr=>∃k:Nat,k<=NN/\z=.int .i64 k/\Hid (R9 w0 wr w2.heap.size (.slice aN NN cN) (.slice aF NF cF) (.slice sa 0 sc) ns room (j7 (ns.take k)) k w2.heap.size)/\Hid (Bq w0 wr)) (fun z _=>NN-(intOf z).toNat)
   case atStart=>exact⟨0,Nat.zero_le _,rfl,HNT,HBX3⟩
   case round=>
    obtain⟨k,hk,rfl,hnt,Aa⟩:=hrel;clear HNT HBX3;by_cases hlt:k<NN
    .
     obtain⟨n,hn⟩:∃n,ns[k]? = some n:=⟨_,gEl (by have:=HL.out.1;omega)⟩;obtain⟨nb,noff,ai,ci,e1,hNA,hrp⟩:=HN.out.at hn;subst e1;obtain⟨c0,c1,c2,c3,c4,c5,c6,c7⟩:=hNA.below (HBW.out wr Aa.out);have hil:n.ins.length<=5:=(y9 (HG.out.node n (mGt hn))).1;have HNk:=qH hn;have HRP:Hid (∀W,Bq w0 W->E2 W (.slice ai n.ins.length ci) n.ins):=(show ∀W,_ from fun W hW=>hrp.below (HBW.out W hW));obtain⟨IL,hIL⟩:=qE n.ins.length;have HIL:=qH hIL;rw[<- hIL] at c7 HRP hil;obtain⟨fx,hfx⟩:=qE ((⟨n.file.toArray⟩:ByteArray));obtain⟨wx0,hwx⟩:=qE ((⟨n.c.word.toArray⟩:ByteArray));obtain⟨n0,hn0⟩:=qE n.kind;obtain⟨n2,hn2⟩:=qE n.c.kind;obtain⟨n4,hn4⟩:=qE n.c.n;obtain⟨n5,hn5⟩:=qE n.how;obtain⟨n6,hn6⟩:=qE n.wide;rw[<- hn0] at c0;rw[<- hfx] at c1;rw[<- hn2] at c2;rw[<- hwx] at c3;rw[<- hn4] at c4;rw[<- hn5] at c5;rw[<- hn6] at c6
     have Qs:Hid (∀W,Calls Tryz.prog 62 #[.agg #[.int .i64 n0,.string fx,.int .i64 n2,.string wx0,.int .i64 n4,.int .i64 n5,.int .i64 n6,.slice ai IL ci]] W fun e w'=>e=.returned (.int .i64 (nouts n))/\Bq W w'):=(show ∀W,_ from fun W=>by
      have:=aE5 n ai IL ci W
      unfold D2 at this
      rw[<- hn0,<- hfx,<- hn2,<- hwx,<- hn4,<- hn5,<- hn6] at this
      exact this)
     obtain⟨W1,hW1⟩:=qE (wr.alloc (.cells #[.int .i64 n0,.string fx,.int .i64 n2,.string wx0,.int .i64 n4,.int .i64 n5,.int .i64 n6,.slice ai IL ci] 73));have hb1:Bq wr W1:=by rw[hW1];exact boxE
     have hbx:W1.heap[wr.heap.size]? = some (.cells #[.int .i64 n0,.string fx,.int .i64 n2,.string wx0,.int .i64 n4,.int .i64 n5,.int .i64 n6,.slice ai IL ci] 73 (0,0)):=by rw[hW1];exact heap_alloc_new _ _
     have Qu:Hid (R9 w0 W1 w2.heap.size (.slice aN NN cN) (.slice aF NF cF) (.slice sa 0 sc) ns room (j7 (ns.take k)) k wr.heap.size):=(show R9 _ _ _ _ _ _ _ _ _ _ _ by
      obtain⟨vX,vP,Q,h1,h2,_,_⟩:=hnt.out
      exact⟨vX,vP,Q,h1.below hb1,h2,fun e=>by have:=(h1.rX.lt _ e).2;omega,fun e=>by have:=(h1.rP.lt _ e).2;omega⟩)
     have Qv:=qH hbx;obtain⟨_,_,_,_,_,_,_,i7⟩:=Y4 hbx;have HB1:Hid (Bq w0 W1):=Aa.out.trans (hb1.mono Aa.out.size);have HWQ:Hid (w0.heap.size<=wr.heap.size):=Aa.out.size;clear hnt Aa hn hrp hIL hfx hwx hn0 hn2 hn4 hn5 hn6 hb1 hbx hNA;go_upto_region 10 with fail;rw[<- hW1];clear hW1 c0 c1 c2 c3 c4 c5 c6 c7;go_wp2_with fail;clear i7;obtain⟨B6,hB6⟩:=qE wr.heap.size;rw[<- hB6] at Qv HWQ Qu ⊢;clear hB6
     have HB6:Hid (B6≠w2.heap.size):=(show _≠_ from fun e=>by
      have h1:=Qv.out
      obtain⟨vX,vP,Q,h2,_⟩:=Qu.out
      rw[e,h2.box] at h1
      cases h1)
     go_loopw [44] (fun z wx=>∃j:Nat,j<=IL/\z=.int .i64 j/\Hid (R9 w0 wx w2.heap.size (.slice aN NN cN) (.slice aF NF cF) (.slice sa 0 sc) ns room (j7 (ns.take k)++n.ins.take j) k B6)/\Hid (Bq w0 wx)/\Hid (wx.heap[B6]? = some (.cells #[.int .i64 n0,.string fx,.int .i64 n2,.string wx0,.int .i64 n4,.int .i64 n5,.int .i64 n6,.slice ai IL ci] 73 (0,0)))) (fun z _=>IL-(intOf z).toNat)
     case atStart=>exact⟨0,Nat.zero_le _,rfl,(show R9 _ _ _ _ _ _ _ _ _ _ _ by simpa using Qu.out),HB1,Qv⟩
     case round=>
      obtain⟨j,hj,rfl,hnt,Aa,hbx⟩:=hrel;clear Qu HB1 Qv;by_cases hltj:j<IL
      .
       obtain⟨p,hp⟩:∃p,n.ins[j]? = some p:=⟨_,gEl (by have:=HIL.out;omega)⟩;have Jl:=HRP.out _ Aa.out;obtain⟨pb,poff,e2,p0,p1⟩:=Jl.at hp;subst e2;have hpl:=L2 Jl;obtain⟨pi,pk,pm,hpe,hpik,hpm,_⟩:=HG.out.src HNk.out hp;obtain⟨nb',noff',bi,di,e3,hNA3,_⟩:=HN.out.at hpm;injection e3 with e3;injection e3 with e3 e4;subst e3 e4;obtain⟨c0,c1,c2,c3,c4,c5,c6,c7⟩:=hNA3.below (HBW.out wr Aa.out);obtain⟨vX,vP,Q,Gp,hQm,hx1,hx2⟩:=hnt.out;have hRm:roomOf ns room p=if pm.kind=2 then 0 else room:=by unfold roomOf;rw[hpe];simp only[Int.toNat_natCast,hpm,Option.map_some,Option.some.injEq]
       have HRB:Hid (∀W,Calls Tryz.prog 61 #[D2 pm bi pm.ins.length di,.int .i64 room] W fun e w'=>e=.returned (.int .i64 (roomOf ns room p))/\Bq W w'):=(show ∀W,_ from fun W=>by rw[hRm];exact aZ1 pm bi pm.ins.length di room W);have hrm:0<=roomOf ns room p/\roomOf ns room p<=1000:=by rw[hRm];split <;> omega
       have HPN:Hid (∀W,Calls Tryz.prog 60 #[.int .i64 (roomOf ns room p)] W fun e w'=>e=.returned (.tuple #[.agg #[.slice none 0 0,.int .i64 (roomOf ns room p),.bool false,.bool false],.int .i64 0])/\Bq W w'):=(show ∀W,_ from fun W=>by
        have:=cv1 (roomOf ns room p) W
        unfold pnew at this
        rw[if_neg (by omega)] at this
        exact this)
       unfold D2 at HRB;have hpi:p.1=(pi:Int):=by rw[hpe]
       rw[hpi] at p0;obtain⟨RM,hRM⟩:=qE (roomOf ns room p);have HRM:=qH hRM;rw[<- hRM] at HRB HPN;have hx0:wr.cell? ⟨w.heap.size,0,none⟩=some (.slice (some ⟨nb,noff,none⟩) NN cn):=by have h1:=(Aa.out.block _ (by have:=HDW.out;omega)).trans HX0.out.1;rw[cell_of_row _ _ _ _ _ _ h1];rfl
       have HNA:=qH Gp;have HQM:=qH hQm;have HXP:Hid (vX.ownBlock≠some B6/\vP.ownBlock≠some B6):=⟨hx1,hx2⟩;have HP:=qH hp;have hpin:pi<NN:=by omega
       generalize pm.kind=m0 at *;generalize (⟨pm.file.toArray⟩:ByteArray)=m1 at *;generalize pm.c.kind=m2 at *;generalize (⟨pm.c.word.toArray⟩:ByteArray)=m3 at *;generalize pm.c.n=m4 at *;generalize pm.how=m5 at *;generalize pm.wide=m6 at *;generalize pm.ins.length=m7 at *;generalize p.2=pq at *;have fx0:=fun o=>((boxE (w:=wr) (o:=o)).cell (bLt wr _ hx0)).trans hx0;have fc0:=fun o=>((boxE (w:=wr) (o:=o)).cell (bLt wr _ c0)).trans c0;have fc1:=fun o=>((boxE (w:=wr) (o:=o)).cell (bLt wr _ c1)).trans c1;have fc2:=fun o=>((boxE (w:=wr) (o:=o)).cell (bLt wr _ c2)).trans c2;have fc3:=fun o=>((boxE (w:=wr) (o:=o)).cell (bLt wr _ c3)).trans c3;have fc4:=fun o=>((boxE (w:=wr) (o:=o)).cell (bLt wr _ c4)).trans c4;have fc5:=fun o=>((boxE (w:=wr) (o:=o)).cell (bLt wr _ c5)).trans c5;have fc6:=fun o=>((boxE (w:=wr) (o:=o)).cell (bLt wr _ c6)).trans c6
       have fc7:=fun o=>((boxE (w:=wr) (o:=o)).cell (bLt wr _ c7)).trans c7;clear Jl hp hpm hpe hNA3 Gp hQm hx1 hx2 hRm hRM hnt hpi;go_wp2_with fail;refine Calls.mono (HRB.out _) ?_;rintro e y2 ⟨rfl,hb2⟩;have HB2:Hid (Bq wr y2):=boxE.trans (hb2.mono boxE.size);clear hb2 HRB fx0 fc0 fc1 fc2 fc3 fc4 fc5 fc6 fc7 c0 c1 c2 c3 c4 c5 c6 c7 hx0;go_wp2_with fail;refine Calls.mono (HPN.out _) ?_;rintro e y3 ⟨rfl,hb3⟩;have HB3:Hid (Bq wr y3):=HB2.out.trans (hb3.mono HB2.out.size);obtain⟨y4,hy4⟩:=qE (y3.alloc (.cells #[.slice none 0 0,.int .i64 RM,.bool false,.bool false] 66));obtain⟨y5,hy5⟩:=qE (y4.alloc (.cells #[.slice none 0 0,.int .i64 RM,.bool false,.bool false] 66));have hb4:Bq wr y4:=by rw[hy4];exact HB3.out.alloc HB3.out.size _
       have hb5:Bq wr y5:=by rw[hy5];exact hb4.alloc hb4.size _
       have hbp:y5.heap[y4.heap.size]? = some (.cells #[.slice none 0 0,.int .i64 RM,.bool false,.bool false] 66 (0,0)):=by rw[hy5];exact heap_alloc_new _ _
       have hbp4:y4.heap[y3.heap.size]? = some (.cells #[.slice none 0 0,.int .i64 RM,.bool false,.bool false] 66 (0,0)):=by rw[hy4];exact heap_alloc_new _ _
       have hN4:=HNA.out.below hb4;have hN5:=HNA.out.below hb5;obtain⟨_,_,b2,_,_,_⟩:=j6 hN4.box
       obtain⟨v',w',Ao,⟨a',c',hv'⟩,hbM,hkp,hof,hN6⟩:=NewAt.pipe hN5 (by rw[List.length_map,List.length_append,List.length_take];have h1:=cw1 HG.out k;have:=HIL.out;omega) (ad:=⟨y4.heap.size,0,none⟩) (c:=1) (r:=RM) (fun q u hu=>by
        rw[addP,cell_of_row _ _ _ _ _ _ hbp,Nat.zero_add]
        rw[<- Array.getElem?_toList]
        exact hu) 26
       obtain⟨⟨aX',cX',hvX',_,_⟩,_⟩:=j8 hN5.rX;have hwb:=hbM.trans hN5.box;obtain⟨_,_,d2,_,_,df⟩:=j6 hwb;have df2:=df 2;obtain⟨Z,hZ⟩:=qE (w'.setCell ⟨w2.heap.size,2,none⟩ v');rw[<- hZ] at hN6;have Qw:B6<wr.heap.size:=(aSm hbx.out).1
       have HBX6:Hid (Z.heap[B6]? = some (.cells #[.int .i64 n0,.string fx,.int .i64 n2,.string wx0,.int .i64 n4,.int .i64 n5,.int .i64 n6,.slice (some ⟨pb,poff,none⟩) IL ci] 73 (0,0))):=(show _=_ by
        rw[hZ,Below.heap_setCell _ _ _ _ HB6.out,hkp B6 (by have:=hb5.size;omega) (.inr HXP.out.1),hb5.block B6 Qw]
        exact hbx.out)
       have HNT6:Hid (R9 w0 Z w2.heap.size (.slice aN NN cN) (.slice aF NF cF) (.slice sa 0 sc) ns room (j7 (ns.take k)++n.ins.take (j+1)) k B6):=(show R9 _ _ _ _ _ _ _ _ _ _ _ by
        refine⟨v',vP,Q,?_,HQM.out,hof B6 (by have:=hb5.size;omega) HXP.out.1,HXP.out.2⟩
        have e5:(j7 (ns.take k)++n.ins.take j).map (roomOf ns room)++[RM]=(j7 (ns.take k)++n.ins.take (j+1)).map (roomOf ns room):=by
         rw[List.take_add_one,HP.out,HRM.out]
         simp
        rw[<- e5]
        exact hN6)
       have HBE6:Hid (Bq w0 Z):=hN6.bel;have Ak:Hid _:=Ao;rw[hvX'] at Ak b2 d2;rw[hv'] at Ak hZ;generalize ((j7 (ns.take k)++n.ins.take j).map (roomOf ns room)).length=LL at *;rw[hy5] at Ak;obtain⟨g0,g1,g2,g3⟩:=E7 hbp4;clear hN4 hN5 hN6 hkp hof Ao hbM hwb df hbp hbp4 hb4 hb5 hvX' hv' hy5 hb3 HPN;go_upto_region 14 with fail;rw[<- hy4];clear hy4;go_upto_region 17 with (at_builtin;refine ab4 _ rfl (.tmp 65) (.tmp 67) 26 rfl _ _ rfl rfl Ak.out ?_);rw[<- hZ];clear hZ Ak b2 d2 df2 g0 g1 g2 g3;go_wp2_with fail;go_roundw
       case rel=>exact⟨j+1,by omega,by go_num,HNT6,HBE6,HBX6⟩
       case measure=>simp[intOf];omega
      .
       obtain⟨vX,vP,Q,Gp,hQm,hx1,hx2⟩:=hnt.out;have ej:j=IL:=by omega
       have hQl:Q.length=k:=by have:=congrArg List.length hQm;rw[List.length_map,List.length_map,List.length_take] at this;have:=HL.out.1;omega
       have hch:=HG.out.node n (mGt HNk.out);obtain⟨OL,hOL⟩:∃z:Nat,nouts n=(z:Int):=Int.eq_ofNat_of_zero_le (ao0 hch);have hol:OL<=5:=by have:=ck2 hch;omega
       obtain⟨⟨aP',cP',Gm,_,_⟩,_⟩:=j8 Gp.rP;have hLe:(j7 (ns.take k)++n.ins.take j)=j7 (ns.take (k+1)):=by rw[aM6 HNk.out,ej,HIL.out,List.take_length]
       obtain⟨i0,hi,hi0,hi1,hi2⟩:=info_parts bc5;have hmk:∀(m:Nat) (W:World),m<=5->(Instr.makeSlice 74 (.int .i64 (m:Int)) (.int .i64 (m:Int))).run Tryz.prog W=.ok (.slice (some ⟨W.heap.size,0,none⟩) m m) (W.alloc (.cells (madeCells (Value.slice none 0 0).cells m) 28)):=fun m W hm=>by have:=run_makeSlice (P:=Tryz.prog) W 74 28 i0 (.slice none 0 0) Tryz.underlying74 hi hi0 .i64 .i64 (m:Int) (m:Int) (by omega) (by omega) (by rw[hi1];omega) (by rw[hi2];omega) (by omega);rw[hi1,Int.toNat_natCast,Nat.mul_one] at this;exact this
       have hmc:∀m j,j<m->(madeCells (Value.slice none 0 0).cells m)[j]? = some (.slice none 0 0):=fun m j hj=>by have h1:=toList_madeCells_one (.slice none 0 0) m;rw[<- Array.getElem?_toList];show (madeCells #[Value.slice none 0 0] m).toList[j]? = _;rw[h1,List.getElem?_replicate,if_pos hj]
       have hm1:=fun W=>hmk IL W hil;have hm2:=fun W=>hmk OL W hol;obtain⟨C1,hC1⟩:=qE (madeCells (Value.slice none 0 0).cells IL);obtain⟨C2,hC2⟩:=qE (madeCells (Value.slice none 0 0).cells OL);rw[<- hC1] at hm1;rw[<- hC2] at hm2;have HC1:Hid (∀j,j<IL->C1[j]? = some (.slice none 0 0)):=(show ∀j,_ from fun j hj=>by rw[hC1];exact hmc IL j hj);have HC2:Hid (∀j,j<OL->C2[j]? = some (.slice none 0 0)):=(show ∀j,_ from fun j hj=>by rw[hC2];exact hmc OL j hj);have Qw:B6<wr.heap.size:=(aSm hbx.out).1;have hbMl:w2.heap.size<wr.heap.size:=(aSm Gp.box).1;obtain⟨_,_,_,b3,_,bf⟩:=j6 Gp.box;rw[Gm] at b3;have bf3:=bf 3;obtain⟨i0',i1',i2',i3',i4',i5',i6',i7'⟩:=Y4 hbx.out
       have Am:Hid (∀(W w':World) (v':Value) (gg go:Nat),w'.heap[w2.heap.size]? = wr.heap[w2.heap.size]? -> NewAt w0 (w'.setCell ⟨w2.heap.size,3,none⟩ v') w2.heap.size (.slice aN NN cN) (.slice aF NF cF) vX v' (.slice sa 0 sc) ((j7 (ns.take k)++n.ins.take j).map (roomOf ns room)) (Q++[⟨IL,OL,gg,go⟩])->R9 w0 (w'.setCell ⟨w2.heap.size,3,none⟩ v') w2.heap.size (.slice aN NN cN) (.slice aF NF cF) (.slice sa 0 sc) ns room (j7 (ns.take (k+1))) (k+1) w2.heap.size/\Bq w0 (w'.setCell ⟨w2.heap.size,3,none⟩ v')):=(show ∀(W w':World) (v':Value) (gg go:Nat),_ from fun W w' v' gg go _ h1=>by
        rw[hLe] at h1
        refine⟨⟨vX,v',_,h1,?_,h1.nX,h1.nP⟩,h1.bel⟩
        rw[List.map_append,hQm,List.take_add_one,HNk.out,List.map_append]
        simp[hOL,HIL.out])
       have HPX:Hid (∀(y W:World) (ad gg go:Nat),Bq wr y->Bq y W->wr.heap.size<=gg/\gg<y.heap.size->wr.heap.size<=go/\go<y.heap.size->y.heap[gg]? = some (.cells C1 28 (0,0))->y.heap[go]? = some (.cells C2 28 (0,0))->y.heap[ad]? = some (.cells #[.slice (some ⟨gg,0,none⟩) IL IL,.int .i64 0,.slice (some ⟨go,0,none⟩) OL OL,.bool false,.bool false] 76 (0,0)) ->
        ∃v' w',(Builtin.append_ #[27,27] 27 #[.slice aP' k cP',.slice (some ⟨ad,0,none⟩) 1 1]).run Tryz.prog W=.ok v' w' /\ ∃a' c',v'=.slice a' (k+1) c'/\w'.cell? ⟨w2.heap.size,3,none⟩=some (.slice aP' k cP')/\w'.frozen? ⟨w2.heap.size,3,none⟩=false/\(ay0 wr.heap.size W w'/\Bq w0 w')/\Hid (R9 w0 (w'.setCell ⟨w2.heap.size,3,none⟩ (.slice a' (k+1) c')) w2.heap.size (.slice aN NN cN) (.slice aF NF cF) (.slice sa 0 sc) ns room (j7 (ns.take (k+1))) (k+1) w2.heap.size/\Bq w0 (w'.setCell ⟨w2.heap.size,3,none⟩ (.slice a' (k+1) c')))):=(show ∀(y W:World) (ad gg go:Nat),_ from fun y W ad gg go q1 q2 q3 q4 q5 q6 q7=>by
        obtain⟨v',w',r1,⟨a',c',r2⟩,r3,r5,r6,r7,r4⟩:=NewAt.procX Gp (by omega) q1 q2 (il:=IL) (ol:=OL) (by omega) (by omega) q3 q4 q5 q6 HC1.out HC2.out q7 27
        rw[Gm,hQl] at r1
        rw[hQl] at r2
        have hbw:=r3.trans Gp.box
        obtain⟨_,_,_,d3,_,df⟩:=j6 hbw
        rw[Gm,hQl] at d3
        subst r2
        exact⟨_,w',r1,a',c',rfl,d3,df 3,⟨fun g hg hgs=>r6 g hgs (fun e=>by have:=(Gp.rP.lt g e).2;omega),r7⟩,Am.out W w' _ gg go r3 r4⟩)
       rw[hQl] at b3;rw[hOL] at Qs;have HBB:=qH Aa;have HWR:Hid (w0.heap.size<=wr.heap.size):=Aa.out.size;have hbx9:=hbx;clear hnt Gp hQm hx1 hx2 hQl hch hOL Gm hLe hi hi0 hi1 hi2 hmk hmc hC1 hC2 bf Am hbx ej;have HI8:Hid (∀W,Bq wr W->W.heap[B6]? = some (.cells #[.int .i64 n0,.string fx,.int .i64 n2,.string wx0,.int .i64 n4,.int .i64 n5,.int .i64 n6,.slice ai IL ci] 73 (0,0))/\W.cell? ⟨w2.heap.size,3,none⟩=some (.slice aP' k cP')):=(show ∀W,_ from fun W hW=>⟨(hW.block B6 Qw).trans hbx9.out,(hW.cell (bLt wr _ b3)).trans b3⟩);have HBMl:=qH hbMl;have HM1:=qH hm1;have HM2:=qH hm2;clear hm1 hm2 b3 bf3 i0' i1' i2' i3' i4' i5' i6' i7' Qw hbMl;go_upto_region 18 with fail
       refine aZ0 (by kernel_rfl) (by kernel_rfl) (fun L a W=>NI w0 wr w2.heap.size B6 (.slice aP' k cP') (.agg #[.int .i64 n0,.string fx,.int .i64 n2,.string wx0,.int .i64 n4,.int .i64 n5,.int .i64 n6,.slice ai IL ci]) (.slice ai IL ci) IL OL C1 C2 k (fun Z=>R9 w0 Z w2.heap.size (.slice aN NN cN) (.slice aF NF cF) (.slice sa 0 sc) ns room (j7 (ns.take (k+1))) (k+1) w2.heap.size/\Bq w0 Z) ?A0 L a W) ?hs ?he ?h0
       case h0=>exact NI.start _ HBB.out
       case he=>
        intro L a W Ae hI;have hf:=hI.ov.form (show 71+13<=86 by decide);have HF2:Hid (R9 w0 W w2.heap.size (.slice aN NN cN) (.slice aF NF cF) (.slice sa 0 sc) ns room (j7 (ns.take (k+1))) (k+1) w2.heap.size/\Bq w0 W):=hI.p2 (Ae 13 (by decide));rw[hf,show List.range 13=[0,1,2,3,4,5,6,7,8,9,10,11,12] from rfl];simp only[List.foldl,Nat.reduceAdd];clear hf Ae hI;generalize a.eval (.tmp 71)=x71;generalize a.eval (.tmp 72)=x72;generalize a.eval (.tmp 73)=x73;generalize a.eval (.tmp 74)=x74;generalize a.eval (.tmp 75)=x75;generalize a.eval (.tmp 76)=x76;generalize a.eval (.tmp 77)=x77;generalize a.eval (.tmp 78)=x78;generalize a.eval (.tmp 79)=x79;generalize a.eval (.tmp 80)=x80;generalize a.eval (.tmp 81)=x81;generalize a.eval (.tmp 82)=x82;generalize a.eval (.tmp 83)=x83;simp only[Act.put,List.setIfInBounds_toArray,List.set];go_wp2_with fail;go_roundw
        case rel=>exact⟨k+1,by omega,by go_num,HF2.out.1,HF2.out.2⟩
        case measure=>simp[intOf];omega
       case hs=>
        intro L i o a W ho hL Ey hI;have hi:i<14:=by have:=(aSm ho).1;simpa using this
        have Np:i=0\/i=1\/i=2\/i=3\/i=4\/i=5\/i=6\/i=7\/i=8\/i=9\/i=10\/i=11\/i=12\/i=13:=by omega
        clear hi;have hsz:71+13<=86:=by decide
        rcases Np with rfl | rfl | rfl | rfl | rfl | rfl | rfl | rfl | rfl | rfl | rfl | rfl | rfl | rfl
        . obtain rfl:o=_:=(Option.some.inj ho).symm;show wpOp _ _ _ 0 (fun a' W'=>NI w0 wr w2.heap.size B6 (.slice aP' k cP') (.agg #[.int .i64 n0,.string fx,.int .i64 n2,.string wx0,.int .i64 n4,.int .i64 n5,.int .i64 n6,.slice ai IL ci]) (.slice ai IL ci) IL OL C1 C2 k (fun Z=>R9 w0 Z w2.heap.size (.slice aN NN cN) (.slice aF NF cF) (.slice sa 0 sc) ns room (j7 (ns.take (k+1))) (k+1) w2.heap.size/\Bq w0 Z) _ (updV L 0) a' W') a W;unfold wpOp;rw[ho];simp only;rw[if_pos (by simp[Region.wanted])];refine Or.inl ?_;unfold Oper.wp;have o9:a.eval (.tmp 9)=.pointer (some ⟨w2.heap.size,0,none⟩):=(hI.ov.old (by decide)).trans rfl;simp only[Act.eval,Array.getD_eq_getD_getElem?] at o9;go_simp;exact hI.put hL (by decide) hsz HWR.out (Below.refl _ _) rfl (by simp[S4])
        . obtain rfl:o=_:=(Option.some.inj ho).symm;have d0:L 0=true:=Ey ⟨0,.data⟩ (by simp) rfl;show wpOp _ _ _ 1 (fun a' W'=>NI w0 wr w2.heap.size B6 (.slice aP' k cP') (.agg #[.int .i64 n0,.string fx,.int .i64 n2,.string wx0,.int .i64 n4,.int .i64 n5,.int .i64 n6,.slice ai IL ci]) (.slice ai IL ci) IL OL C1 C2 k (fun Z=>R9 w0 Z w2.heap.size (.slice aN NN cN) (.slice aF NF cF) (.slice sa 0 sc) ns room (j7 (ns.take (k+1))) (k+1) w2.heap.size/\Bq w0 Z) _ (updV L 1) a' W') a W;unfold wpOp;rw[ho];simp only;rw[if_pos (by simp[Region.wanted])];refine Or.inl ?_;unfold Oper.wp;have e71:a.eval (.tmp 71)=.pointer (some ⟨w2.heap.size,3,none⟩):=hI.ov.vs 0 (by decide) d0;have hbW:=hI.p0 (hI.not11 hL (by decide));obtain⟨i0,i1,i2,i3,i4,i5,i6,i7⟩:=Y4 (HI8.out W hbW).1;have b3:=(HI8.out W hbW).2;simp only[Act.eval,Array.getD_eq_getD_getElem?] at e71;go_simp
          exact hI.put hL (by decide) hsz HWR.out (Below.refl _ _) rfl (by simp[S4,d0])
        . obtain rfl:o=_:=(Option.some.inj ho).symm;show wpOp _ _ _ 2 (fun a' W'=>NI w0 wr w2.heap.size B6 (.slice aP' k cP') (.agg #[.int .i64 n0,.string fx,.int .i64 n2,.string wx0,.int .i64 n4,.int .i64 n5,.int .i64 n6,.slice ai IL ci]) (.slice ai IL ci) IL OL C1 C2 k (fun Z=>R9 w0 Z w2.heap.size (.slice aN NN cN) (.slice aF NF cF) (.slice sa 0 sc) ns room (j7 (ns.take (k+1))) (k+1) w2.heap.size/\Bq w0 Z) _ (updV L 2) a' W') a W;unfold wpOp;rw[ho];simp only;rw[if_pos (by simp[Region.wanted])];refine Or.inl ?_;unfold Oper.wp;have o11:a.eval (.tmp 11)=.pointer (some ⟨B6,0,none⟩):=(hI.ov.old (by decide)).trans rfl;simp only[Act.eval,Array.getD_eq_getD_getElem?] at o11;go_simp;exact hI.put hL (by decide) hsz HWR.out (Below.refl _ _) rfl (by simp[S4])
        . obtain rfl:o=_:=(Option.some.inj ho).symm;have d2:L 2=true:=Ey ⟨2,.data⟩ (by simp) rfl;show wpOp _ _ _ 3 (fun a' W'=>NI w0 wr w2.heap.size B6 (.slice aP' k cP') (.agg #[.int .i64 n0,.string fx,.int .i64 n2,.string wx0,.int .i64 n4,.int .i64 n5,.int .i64 n6,.slice ai IL ci]) (.slice ai IL ci) IL OL C1 C2 k (fun Z=>R9 w0 Z w2.heap.size (.slice aN NN cN) (.slice aF NF cF) (.slice sa 0 sc) ns room (j7 (ns.take (k+1))) (k+1) w2.heap.size/\Bq w0 Z) _ (updV L 3) a' W') a W;unfold wpOp;rw[ho];simp only;rw[if_pos (by simp[Region.wanted])];refine Or.inl ?_;unfold Oper.wp;have e73:a.eval (.tmp 73)=.pointer (some ⟨B6,7,none⟩):=hI.ov.vs 2 (by decide) d2;have hbW:=hI.p0 (hI.not11 hL (by decide));obtain⟨i0,i1,i2,i3,i4,i5,i6,i7⟩:=Y4 (HI8.out W hbW).1;have b3:=(HI8.out W hbW).2;simp only[Act.eval,Array.getD_eq_getD_getElem?] at e73;go_simp
          exact hI.put hL (by decide) hsz HWR.out (Below.refl _ _) rfl (by simp[S4,d2])
        . obtain rfl:o=_:=(Option.some.inj ho).symm;have d3:L 3=true:=Ey ⟨3,.data⟩ (by simp) rfl;show wpOp _ _ _ 4 (fun a' W'=>NI w0 wr w2.heap.size B6 (.slice aP' k cP') (.agg #[.int .i64 n0,.string fx,.int .i64 n2,.string wx0,.int .i64 n4,.int .i64 n5,.int .i64 n6,.slice ai IL ci]) (.slice ai IL ci) IL OL C1 C2 k (fun Z=>R9 w0 Z w2.heap.size (.slice aN NN cN) (.slice aF NF cF) (.slice sa 0 sc) ns room (j7 (ns.take (k+1))) (k+1) w2.heap.size/\Bq w0 Z) _ (updV L 4) a' W') a W;unfold wpOp;rw[ho];simp only;rw[if_pos (by simp[Region.wanted])];refine Or.inl ?_;unfold Oper.wp;have e74:a.eval (.tmp 74)=.slice ai IL ci:=hI.ov.vs 3 (by decide) d3;simp only[Act.eval,Array.getD_eq_getD_getElem?] at e74;go_simp;exact hI.put hL (by decide) hsz HWR.out (Below.refl _ _) rfl (by simp[S4,d3])
        . obtain rfl:o=_:=(Option.some.inj ho).symm;have d4:L 4=true:=Ey ⟨4,.data⟩ (by simp) rfl;show wpOp _ _ _ 5 (fun a' W'=>NI w0 wr w2.heap.size B6 (.slice aP' k cP') (.agg #[.int .i64 n0,.string fx,.int .i64 n2,.string wx0,.int .i64 n4,.int .i64 n5,.int .i64 n6,.slice ai IL ci]) (.slice ai IL ci) IL OL C1 C2 k (fun Z=>R9 w0 Z w2.heap.size (.slice aN NN cN) (.slice aF NF cF) (.slice sa 0 sc) ns room (j7 (ns.take (k+1))) (k+1) w2.heap.size/\Bq w0 Z) _ (updV L 5) a' W') a W;unfold wpOp;rw[ho];simp only;rw[if_pos (by simp[Region.wanted])];refine Or.inl ?_;unfold Oper.wp;have e75:a.eval (.tmp 75)=.int .i64 (IL:Int):=hI.ov.vs 4 (by decide) d4;have hbW:=hI.p0 (hI.not11 hL (by decide));have hm:=HM1.out W;simp only[Act.eval,Array.getD_eq_getD_getElem?] at e75;go_simp;exact hI.put hL (by decide) hsz HWR.out boxE ⟨W.heap.size,rfl,hbW.size,heap_alloc_new _ _⟩ (by simp[S4,d4])
        . obtain rfl:o=_:=(Option.some.inj ho).symm;show wpOp _ _ _ 6 (fun a' W'=>NI w0 wr w2.heap.size B6 (.slice aP' k cP') (.agg #[.int .i64 n0,.string fx,.int .i64 n2,.string wx0,.int .i64 n4,.int .i64 n5,.int .i64 n6,.slice ai IL ci]) (.slice ai IL ci) IL OL C1 C2 k (fun Z=>R9 w0 Z w2.heap.size (.slice aN NN cN) (.slice aF NF cF) (.slice sa 0 sc) ns room (j7 (ns.take (k+1))) (k+1) w2.heap.size/\Bq w0 Z) _ (updV L 6) a' W') a W;unfold wpOp;rw[ho];simp only;rw[if_pos (by simp[Region.wanted])];refine Or.inl ?_;unfold Oper.wp;have o11:a.eval (.tmp 11)=.pointer (some ⟨B6,0,none⟩):=(hI.ov.old (by decide)).trans rfl;have hbW:=hI.p0 (hI.not11 hL (by decide));obtain⟨i0,i1,i2,i3,i4,i5,i6,i7⟩:=Y4 (HI8.out W hbW).1;have b3:=(HI8.out W hbW).2;simp only[Act.eval,Array.getD_eq_getD_getElem?] at o11;go_simp;exact hI.put hL (by decide) hsz HWR.out (Below.refl _ _) rfl (by simp[S4])
        . obtain rfl:o=_:=(Option.some.inj ho).symm;have d6:L 6=true:=Ey ⟨6,.data⟩ (by simp) rfl;show wpOp _ _ _ 7 (fun a' W'=>NI w0 wr w2.heap.size B6 (.slice aP' k cP') (.agg #[.int .i64 n0,.string fx,.int .i64 n2,.string wx0,.int .i64 n4,.int .i64 n5,.int .i64 n6,.slice ai IL ci]) (.slice ai IL ci) IL OL C1 C2 k (fun Z=>R9 w0 Z w2.heap.size (.slice aN NN cN) (.slice aF NF cF) (.slice sa 0 sc) ns room (j7 (ns.take (k+1))) (k+1) w2.heap.size/\Bq w0 Z) _ (updV L 7) a' W') a W;unfold wpOp;rw[ho];simp only;rw[if_pos (by simp[Region.wanted])];refine Or.inl ?_;unfold Oper.wp;have e77:a.eval (.tmp 77)=.agg #[.int .i64 n0,.string fx,.int .i64 n2,.string wx0,.int .i64 n4,.int .i64 n5,.int .i64 n6,.slice ai IL ci]:=hI.ov.vs 6 (by decide) d6;simp only[Act.eval,Array.getD_eq_getD_getElem?] at e77;go_simp;refine Calls.mono (Qs.out W) ?_;rintro e w7 ⟨rfl,hb7⟩
          exact hI.put hL (by decide) hsz HWR.out hb7 rfl (by simp[S4,d6])
        . obtain rfl:o=_:=(Option.some.inj ho).symm;have d7:L 7=true:=Ey ⟨7,.data⟩ (by simp) rfl;show wpOp _ _ _ 8 (fun a' W'=>NI w0 wr w2.heap.size B6 (.slice aP' k cP') (.agg #[.int .i64 n0,.string fx,.int .i64 n2,.string wx0,.int .i64 n4,.int .i64 n5,.int .i64 n6,.slice ai IL ci]) (.slice ai IL ci) IL OL C1 C2 k (fun Z=>R9 w0 Z w2.heap.size (.slice aN NN cN) (.slice aF NF cF) (.slice sa 0 sc) ns room (j7 (ns.take (k+1))) (k+1) w2.heap.size/\Bq w0 Z) _ (updV L 8) a' W') a W;unfold wpOp;rw[ho];simp only;rw[if_pos (by simp[Region.wanted])];refine Or.inl ?_;unfold Oper.wp;have e78:a.eval (.tmp 78)=.int .i64 (OL:Int):=hI.ov.vs 7 (by decide) d7;have hbW:=hI.p0 (hI.not11 hL (by decide));have hm:=HM2.out W;simp only[Act.eval,Array.getD_eq_getD_getElem?] at e78;go_simp;exact hI.put hL (by decide) hsz HWR.out boxE ⟨W.heap.size,rfl,hbW.size,heap_alloc_new _ _⟩ (by simp[S4,d7])
        . obtain rfl:o=_:=(Option.some.inj ho).symm;have d5:L 5=true:=Ey ⟨5,.data⟩ (by simp) rfl;have d8:L 8=true:=Ey ⟨8,.data⟩ (by simp) rfl;show wpOp _ _ _ 9 (fun a' W'=>NI w0 wr w2.heap.size B6 (.slice aP' k cP') (.agg #[.int .i64 n0,.string fx,.int .i64 n2,.string wx0,.int .i64 n4,.int .i64 n5,.int .i64 n6,.slice ai IL ci]) (.slice ai IL ci) IL OL C1 C2 k (fun Z=>R9 w0 Z w2.heap.size (.slice aN NN cN) (.slice aF NF cF) (.slice sa 0 sc) ns room (j7 (ns.take (k+1))) (k+1) w2.heap.size/\Bq w0 Z) _ (updV L 9) a' W') a W;unfold wpOp;rw[ho];simp only;rw[if_pos (by simp[Region.wanted])];refine Or.inl ?_;unfold Oper.wp;obtain⟨gg,e76,g1,g2⟩:∃gg,a.eval (.tmp 76)=.slice (some ⟨gg,0,none⟩) IL IL/\wr.heap.size<=gg/\W.heap[gg]? = some (.cells C1 28 (0,0)):=hI.ov.vs 5 (by decide) d5
          obtain⟨go,e79,g3,g4⟩:∃go,a.eval (.tmp 79)=.slice (some ⟨go,0,none⟩) OL OL/\wr.heap.size<=go/\W.heap[go]? = some (.cells C2 28 (0,0)):=hI.ov.vs 8 (by decide) d8;simp only[Act.eval,Array.getD_eq_getD_getElem?] at e76 e79;go_simp;exact hI.put hL (by decide) hsz HWR.out (Below.refl _ _) ⟨gg,go,rfl,⟨g1,g2⟩,⟨g3,g4⟩⟩ (by simp[S4,d5,d8])
        . obtain rfl:o=_:=(Option.some.inj ho).symm;have d9:L 9=true:=Ey ⟨9,.data⟩ (by simp) rfl;show wpOp _ _ _ 10 (fun a' W'=>NI w0 wr w2.heap.size B6 (.slice aP' k cP') (.agg #[.int .i64 n0,.string fx,.int .i64 n2,.string wx0,.int .i64 n4,.int .i64 n5,.int .i64 n6,.slice ai IL ci]) (.slice ai IL ci) IL OL C1 C2 k (fun Z=>R9 w0 Z w2.heap.size (.slice aN NN cN) (.slice aF NF cF) (.slice sa 0 sc) ns room (j7 (ns.take (k+1))) (k+1) w2.heap.size/\Bq w0 Z) _ (updV L 10) a' W') a W;unfold wpOp;rw[ho];simp only;rw[if_pos (by simp[Region.wanted])];refine Or.inl ?_;unfold Oper.wp;have hbW:=hI.p0 (hI.not11 hL (by decide))
          obtain⟨gg,go,e80,⟨g1,g2⟩,⟨g3,g4⟩⟩:∃gg go,a.eval (.tmp 80)=.agg #[.slice (some ⟨gg,0,none⟩) IL IL,.int .i64 0,.slice (some ⟨go,0,none⟩) OL OL,.bool false,.bool false]/\(wr.heap.size<=gg/\W.heap[gg]? = some (.cells C1 28 (0,0)))/\(wr.heap.size<=go/\W.heap[go]? = some (.cells C2 28 (0,0))):=hI.ov.vs 9 (by decide) d9;simp only[Act.eval,Array.getD_eq_getD_getElem?] at e80;go_simp;exact hI.put hL (by decide) hsz HWR.out boxE ⟨W.heap.size,gg,go,rfl,⟨hbW.size,heap_alloc_new _ _⟩,⟨g1,(boxE.block gg (aSm g2).1).trans g2⟩,⟨g3,(boxE.block go (aSm g4).1).trans g4⟩⟩ (by simp[S4,d9])
        . obtain rfl:o=_:=(Option.some.inj ho).symm;have d1:L 1=true:=Ey ⟨1,.data⟩ (by simp) rfl;have d10:L 10=true:=Ey ⟨10,.data⟩ (by simp) rfl;show wpOp _ _ _ 11 (fun a' W'=>NI w0 wr w2.heap.size B6 (.slice aP' k cP') (.agg #[.int .i64 n0,.string fx,.int .i64 n2,.string wx0,.int .i64 n4,.int .i64 n5,.int .i64 n6,.slice ai IL ci]) (.slice ai IL ci) IL OL C1 C2 k (fun Z=>R9 w0 Z w2.heap.size (.slice aN NN cN) (.slice aF NF cF) (.slice sa 0 sc) ns room (j7 (ns.take (k+1))) (k+1) w2.heap.size/\Bq w0 Z) _ (updV L 11) a' W') a W;unfold wpOp;rw[ho];simp only;rw[if_pos (by simp[Region.wanted])];refine Or.inl ?_;have e72:a.eval (.tmp 72)=.slice aP' k cP':=hI.ov.vs 1 (by decide) d1
          obtain⟨ad,gg,go,e81,⟨g0,g5⟩,⟨g1,g2⟩,⟨g3,g4⟩⟩:∃ad gg go,a.eval (.tmp 81)=.slice (some ⟨ad,0,none⟩) 1 1/\(wr.heap.size<=ad/\W.heap[ad]? = some (.cells #[.slice (some ⟨gg,0,none⟩) IL IL,.int .i64 0,.slice (some ⟨go,0,none⟩) OL OL,.bool false,.bool false] 76 (0,0)))/\(wr.heap.size<=gg/\W.heap[gg]? = some (.cells C1 28 (0,0)))/\(wr.heap.size<=go/\W.heap[go]? = some (.cells C2 28 (0,0))):=hI.ov.vs 10 (by decide) d10;have hbW:=hI.p0 hL;obtain⟨v',w',Ao,a',c',rfl,z3,zf,hkp,hh⟩:=HPX.out W W ad gg go hbW (Below.refl _ _) ⟨g1,(aSm g2).1⟩ ⟨g3,(aSm g4).1⟩ g2 g4 g5;have Ae:∀j,j<=10->L j=true:=hI.dc.all d1 d10;unfold Oper.wp;simp[execOp,resolve,invoke,builtin,e72,e81,Ao,Result.andThen];exact hI.put11 hsz hL Ae hkp.1 hkp.2 z3 zf hh.out
        . obtain rfl:o=_:=(Option.some.inj ho).symm;show wpOp _ _ _ 12 (fun a' W'=>NI w0 wr w2.heap.size B6 (.slice aP' k cP') (.agg #[.int .i64 n0,.string fx,.int .i64 n2,.string wx0,.int .i64 n4,.int .i64 n5,.int .i64 n6,.slice ai IL ci]) (.slice ai IL ci) IL OL C1 C2 k (fun Z=>R9 w0 Z w2.heap.size (.slice aN NN cN) (.slice aF NF cF) (.slice sa 0 sc) ns room (j7 (ns.take (k+1))) (k+1) w2.heap.size/\Bq w0 Z) _ (updV L 12) a' W') a W;unfold wpOp;rw[ho];simp only;rw[if_pos (by simp[Region.wanted])];refine Or.inl ?_;unfold Oper.wp;have o9:a.eval (.tmp 9)=.pointer (some ⟨w2.heap.size,0,none⟩):=(hI.ov.old (by decide)).trans rfl;simp only[Act.eval,Array.getD_eq_getD_getElem?] at o9;go_simp;exact hI.put12 hsz
        . obtain rfl:o=_:=(Option.some.inj ho).symm;have d11:L 11=true:=Ey ⟨11,.data⟩ (by simp) rfl;have d12:L 12=true:=Ey ⟨12,.data⟩ (by simp) rfl;show wpOp _ _ _ 13 (fun a' W'=>NI w0 wr w2.heap.size B6 (.slice aP' k cP') (.agg #[.int .i64 n0,.string fx,.int .i64 n2,.string wx0,.int .i64 n4,.int .i64 n5,.int .i64 n6,.slice ai IL ci]) (.slice ai IL ci) IL OL C1 C2 k (fun Z=>R9 w0 Z w2.heap.size (.slice aN NN cN) (.slice aF NF cF) (.slice sa 0 sc) ns room (j7 (ns.take (k+1))) (k+1) w2.heap.size/\Bq w0 Z) _ (updV L 13) a' W') a W;unfold wpOp;rw[ho];simp only;rw[if_pos (by simp[Region.wanted])];refine Or.inl ?_;have e83:a.eval (.tmp 83)=.pointer (some ⟨w2.heap.size,3,none⟩):=hI.ov.vs 12 (by decide) d12;obtain⟨a',c',e82,q1,q2,q3⟩:=hI.p1 d11 hL;unfold Oper.wp;simp only[Act.eval,Array.getD_eq_getD_getElem?] at e83 e82;go_simp
          exact hI.put13 d11 (fun g hg hgs=>Below.heap_setCell _ _ _ _ (by have:=HBMl.out;show g≠w2.heap.size;omega)) q3.2 q3
    .
     have ek:k=NN:=by omega
     obtain⟨vX,vP,Q,hNA,hQm,_,_⟩:=hnt.out;have ek':k=ns.length:=by have:=HL.out.1;omega
     rw[ek',List.take_length] at hNA hQm;have hX2:=(Aa.out.block _ (by have:=HDW.out;omega)).trans HX0.out.2;have Oq:ab7 wr (w.heap.size+1):=cl0 hX2;obtain⟨⟨aX9,cX9,hvX9,_,_⟩,_⟩:=j8 hNA.rX;obtain⟨⟨aP9,cP9,hvP9,_,_⟩,_⟩:=j8 hNA.rP
     have HMA:Hid (∀wF:World,(∀g,g≠w.heap.size+1->wF.heap[g]? = wr.heap[g]?)->K8 wF (.agg #[.slice aN NN cN,.slice aF NF cF,vX,vP,.slice sa 0 sc]) (o7 ns fs room)):=(show ∀wF:World,_ from fun wF hwF=>by
      obtain⟨bn,bf,bx,bp,dn,df,dx,dp,e1,e2,e3,e4,hRM⟩:=NewAt.mach hNA (ns:=ns) (fs:=fs) HN0.out.1 HN0.out.2 rfl HCS.out (M:=o7 ns fs room) rfl rfl (by unfold o7;simp[List.map_map]) (by
       unfold o7
       have h1:=congrArg (List.map (fun (p:Nat × Nat)=>(⟨List.replicate p.1 [],0,List.replicate p.2 [],false,false⟩:SProc))) hQm
       rw[List.map_map,List.map_map] at h1
       exact h1.symm) rfl wF (fun g hg=>hwF g (by have:=HDW.out;omega)) (aM7 (X:=fun k=>k=w.heap.size+1) (HN0.out.1.below Aa.out) (fun x hx=>by rw[hx];exact Oq) hwF) (aM8 (X:=fun k=>k=w.heap.size+1) (HN0.out.2.below Aa.out) (fun x hx=>by rw[hx];exact Oq) hwF)
      exact⟨bn,bf,bx,bp,sa,dn,df,dx,dp,sc,by unfold machV;rw[<- e1,<- e2,<- e3,<- e4];rfl,hRM⟩)
     obtain⟨c0,c1,c2,c3,c4,_⟩:=j6 hNA.box;obtain⟨y0,y1,y2,y3,y4,yf⟩:=j6 hX2;have yf0:=yf 0;have yf1:=yf 1;have yf2:=yf 2;have yf3:=yf 3;have yf4:=yf 4;have hbMw:w2.heap.size≠w.heap.size+1:=by have:=hNA.lo;have:=HDW.out;omega
     have hbMw':w.heap.size+1≠w2.heap.size:=fun e=>hbMw e.symm;have HBF:Hid (Bq w wr):=HBW.out wr Aa.out;rw[hvX9] at c2 HMA;rw[hvP9] at c3 HMA;generalize ((j7 ns).map (roomOf ns room)).length=LX at *;generalize Q.length=LP at *;clear hnt hNA hQm hX2 Oq yf hvX9 hvP9 Aa;go_wp2_with fail;(try simp only[Exit.inBlock,Exit.then])
     refine bodyPost_ret (v:=.tuple #[.agg #[.slice aN NN cN,.slice aF NF cF,.slice aX9 LX cX9,.slice aP9 LP cP9,.slice sa 0 sc],.int .i64 0]) ?_ rfl ?_
     . rw[results_cell_tmp rfl];go_simp
     . rw[HR.out];refine⟨_,rfl,HMA.out _ (fun g hg=>?_),?_⟩
       . rw[Below.heap_setCell _ _ _ _ hg,Below.heap_setCell _ _ _ _ hg,Below.heap_setCell _ _ _ _ hg,Below.heap_setCell _ _ _ _ hg,Below.heap_setCell _ _ _ _ hg]
       . repeat (first | refine Below.setCell ?_ (by simp) _ | exact HBF.out)
 .
  have HR:Hid (RES=(H7,K)):=(show _=_ by rw[HNS.out,if_pos h0]);clear HNS HK0 HCL;go_wp2_with fail;(try simp only[Exit.inBlock,Exit.then])
  refine bodyPost_ret (v:=.tuple #[.agg #[.slice none 0 0,.slice none 0 0,.slice none 0 0,.slice none 0 0,.slice none 0 0],.int .i64 K]) ?_ rfl ?_
  . rw[results_cell_tmp rfl];go_simp
  . rw[HR.out];exact⟨_,rfl,K8.zero _,by repeat (first | refine Below.setCell ?_ (by simp) _ | exact HB1.out)⟩
theorem S0 {w:World} {b:Nat} {a0 a1 a2 a3 a4 v0 v1 v2 v3 v4:Value} {t:TypeId} (h:w.heap[b]? = some (.cells #[a0,a1,a2,a3,a4] t (0,0))) :
 (((((w.setCell ⟨b,0,none⟩ v0).setCell ⟨b,1,none⟩ v1).setCell ⟨b,2,none⟩ v2).setCell ⟨b,3,none⟩ v3).setCell ⟨b,4,none⟩ v4).heap[b]? = some (.cells #[v0,v1,v2,v3,v4] t (0,0)):=by
 have step:∀(W:World) (cur:Array Value) (j:Nat) (v:Value),W.heap[b]? = some (.cells cur t (0,0))->(W.setCell ⟨b,j,none⟩ v).heap[b]? = some (.cells (cur.setIfInBounds j v) t (0,0)):=fun W cur j v hW=>by rw[setCell_eq_setRow W b j cur t (0,0) v hW];exact setRow_heap W b cur _ t (0,0) hW
 exact step _ _ 4 _ (step _ _ 3 _ (step _ _ 2 _ (step _ _ 1 _ (step _ _ 0 _ h))))
theorem aq1 {w:World} {b k:Nat} {v0 v1 v2 v3 v4:Value} (hk:k≠b) :
 (((((w.setCell ⟨b,0,none⟩ v0).setCell ⟨b,1,none⟩ v1).setCell ⟨b,2,none⟩ v2).setCell ⟨b,3,none⟩ v3).setCell ⟨b,4,none⟩ v4).heap[k]? = w.heap[k]?:=by rw[Below.heap_setCell _ _ _ _ hk,Below.heap_setCell _ _ _ _ hk,Below.heap_setCell _ _ _ _ hk,Below.heap_setCell _ _ _ _ hk,Below.heap_setCell _ _ _ _ hk]
theorem D3 {w w0:World} {B b:Nat} {v0 v1 v2 v3 v4:Value} (h:Below B w0 w) (hb:B<=b) :
 Below B w0 (((((w.setCell ⟨b,0,none⟩ v0).setCell ⟨b,1,none⟩ v1).setCell ⟨b,2,none⟩ v2).setCell ⟨b,3,none⟩ v3).setCell ⟨b,4,none⟩ v4):=((((h.setCell hb _).setCell hb _).setCell hb _).setCell hb _).setCell hb _
def BoxM (w:World) (b:Nat) (M:SMach):Prop:=∃an af ax ap aS cn cf cx cp cs,w.heap[b]? = some (.cells #[.slice an M.ns.length cn,.slice af M.fs.length cf,.slice ax M.pipes.length cx,.slice ap M.ps.length cp,.slice aS M.sunk.length cs] 30 (0,0))/\RMach w an af ax ap aS cn cf cx cp cs M
theorem ct6 {w:World} {b:Nat} {a1 a2 a3 a4 a5:Option Addr} {n1 n2 n3 n4 n5 c1 c2 c3 c4 c5:Nat} {t:TypeId} (h:w.heap[b]? = some (.cells #[.slice a1 n1 c1,.slice a2 n2 c2,.slice a3 n3 c3,.slice a4 n4 c4,.slice a5 n5 c5] t (0,0))):ab7 w b:=by
 intro j u hu;rw[cell_of_row _ _ _ _ _ _ h] at hu;have:j=0\/j=1\/j=2\/j=3\/j=4\/5<=j:=by omega
 rcases this with rfl | rfl | rfl | rfl | rfl | hj;all_goals first | (simp at hu;exact⟨_,_,_,hu.symm⟩) | (rw[Array.getElem?_eq_none (by simpa using hj)] at hu;cases hu)
theorem L8 {w:World} {B b:Nat} {M:SMach} {an af ax ap aS a1 a2 a3 a4 a5:Option Addr} {cn cf cx cp cs n1 n2 n3 n4 n5 c1 c2 c3 c4 c5:Nat} (hN:ac0 B w an af ax ap aS cn cf cx cp cs M) (hb:b<B)
 (h:w.heap[b]? = some (.cells #[.slice a1 n1 c1,.slice a2 n2 c2,.slice a3 n3 c3,.slice a4 n4 c4,.slice a5 n5 c5] 30 (0,0))) {v0 v1 v2 v3 v4:Value} (e0:v0=.slice an M.ns.length cn) (e1:v1=.slice af M.fs.length cf) (e2:v2=.slice ax M.pipes.length cx) (e3:v3=.slice ap M.ps.length cp) (e4:v4=.slice aS M.sunk.length cs) :
 BoxM (((((w.setCell ⟨b,0,none⟩ v0).setCell ⟨b,1,none⟩ v1).setCell ⟨b,2,none⟩ v2).setCell ⟨b,3,none⟩ v3).setCell ⟨b,4,none⟩ v4) b M/\ac0 b (((((w.setCell ⟨b,0,none⟩ v0).setCell ⟨b,1,none⟩ v1).setCell ⟨b,2,none⟩ v2).setCell ⟨b,3,none⟩ v3).setCell ⟨b,4,none⟩ v4) an af ax ap aS cn cf cx cp cs M:=by have h2:=ap8 (B:=b) (wf:=(((((w.setCell ⟨b,0,none⟩ v0).setCell ⟨b,1,none⟩ v1).setCell ⟨b,2,none⟩ v2).setCell ⟨b,3,none⟩ v3).setCell ⟨b,4,none⟩ v4)) hN hb (ct6 h) (Nat.le_refl _) (by simp) (fun k hk=>aq1 hk);refine⟨⟨an,af,ax,ap,aS,cn,cf,cx,cp,cs,?_,h2.self⟩,h2⟩;rw[S0 h,e0,e1,e2,e3,e4]
end Go.Proofs.YtllgglolcgdehaaGreatDoor
namespace Go.Gs
open Go.RowKit Go.ChangeShapes Go.WideShapes Go.ChangeAt
set_option linter.unusedVariables false
variable {P:Program} {H:Type} {enc:TypeId × Value->H} {W:World} {base:Nat} {held:Bool} {fuel:Nat} {t e:TypeId} {a:Option Addr} {len cap:Nat} {x:DataW H × List MemPlace}
theorem add_plain {b off j:Nat}:(⟨b,off,none⟩:Addr).add j=⟨b,off+j,none⟩:=by unfold Addr.add;split <;> simp_all
theorem cy1 {z:Int} (h:(Lit.int .u8 z).wf=true):U (UInt8.ofNat z.toNat)=.int .u8 z:=by
 have hx:0<=z/\z<=255:=by simpa[Lit.wf,IntKind.min,IntKind.max,IntKind.signed,IntKind.bits] using h
 have:((UInt8.ofNat z.toNat).toNat:Int)=z:=by rw[UInt8.toNat_ofNat_of_lt' (by show _<256;omega)];omega
 simp only[U,this]
theorem az6 (ht:P.underlying t=some (.slice e)) (he:P.underlying e=some (.int .u8)) (hc:P.cellsOf e=1)
 (hf:DataW.trod enc P W base (fun _=>true) held fuel t [.slice a len cap]=some x) :
 ∃bs:List UInt8,bs.length=len/\Reads W (.slice a len cap) bs.length (bs.map U):=by
 rcases open_ints ht he hc hf with ⟨hcs,_⟩ | ⟨ad,l,c,zs,hcs,_,hl,hm,hz,_,Ac,hwz⟩
 . simp at hcs;obtain⟨rfl,rfl,rfl⟩:=hcs;exact⟨[],rfl,rfl,none,0,rfl,Nat.le_refl _,by simp,fun h=>absurd rfl h⟩
 .
  simp at hcs;obtain⟨rfl,rfl,rfl⟩:=hcs;have hz':zs.length=cap:=by simpa using hz
  have hbl:((zs.take len).map (fun z=>UInt8.ofNat z.toNat)).length=len:=by simp;omega
  refine⟨(zs.take len).map (fun z=>UInt8.ofNat z.toNat),hbl,by simp,some ad,cap,by rw[hbl],by omega,hm,fun h0=>?_⟩;rw[hbl] at h0;obtain⟨b,off,spot⟩:=ad;have h00:=Ac 0 (by omega);have Br:spot=none:=by simpa[Addr.add] using World.cell?_spot h00
  subst Br;refine⟨b,off,rfl,fun j u hu=>?_⟩;have hj:j<len:=by have:=(gSm hu).1;simp at this;omega
  have hjz:j<zs.length:=by omega
  have hcj:=Ac j hjz;rw[add_plain] at hcj;rw[hcj];simp only[List.map_map,List.getElem?_map,List.getElem?_take,hj,if_true,gEl hjz,Option.map_some,Function.comp_apply,Option.some.injEq] at hu;rw[cy1 (hwz _ (List.getElem_mem hjz))] at hu;rw[<- hu];simp[hjz]
end Go.Gs
