/- The closed machine of the laws, by reckoning its rounds, and more. -/
import Derived.Test.YtmejdflmcikkdaaGreatDoorVAb
import Derived.Deep.SlicePairs
import Derived.Lib.SmallJoins
import Derived.SizedLaws
import Derived.Test.YtmejdflmcikkdaaGreatDoorVa43
import Derived.Test.YtmejdflmcikkdaaGreatDoorVa39
set_option linter.all false
set_option maxRecDepth 100000
set_option maxHeartbeats 64000000
namespace Go.Proofs.YtmejdflmcikkdaaGreatDoor
open Go.RowKit Go.Gs Go.Maps Tryz
variable {P:Program}{f0 f1 f2:Field}
theorem bC5{M:SMach}(h:Shape M):∀p∈M.ps,(Lit.int .i64 p.pos).wf=true:=by
 intro p hp;obtain⟨i,hi⟩:=qw hp;obtain⟨n,hn⟩:∃n,M.ns[i]?=some n:=⟨_,gEl (by rw[<- h.plen];exact (gSm hi).1)⟩;have hF:=h.proc i n p hn hi;have h1:=(A1 (h.g.node n (mGt hn))).1;have h2:=hF.pos0;have h3:=hF.pos1;have h4:p.pos<=5:=qO;have h5:∀z:Int,0<=z->z<=5->(Lit.int .i64 z).wf=true:=by intro z h0 h5;have:z=0\/z=1\/z=2\/z=3\/z=4\/z=5:=qO;rcases this with rfl | rfl | rfl | rfl | rfl | rfl <;> rfl
 exact h5 _ h2 h4
theorem bZ1:newS B8 I5 1=(E4 B8 I5 1,0):=by unfold newS;rw[qB (by simp[bb5]),qB (by simp[bv5]),qB (by decide)]
theorem aQ9:(stepS (E4 B8 I5 1) 5).2=8:=by decide
theorem aB1:mchk (E4 B8 I5 1)=0:=by decide
theorem bP9:ab6 (E4 B8 I5 1) 5=(I4,8):=by unfold ab6;rw[qB (by simp[aB1]),qF (by rw[aQ9];decide),aQ9]
theorem aZ8:FitsM (E4 B8 I5 1):=⟨aF6,aY6,bC5 (M7 aB1).1⟩
theorem aG3(w:World)(hE:q8 w):Calls prog 9 #[] w fun e w'=>e=.returned (.bool true)/\Bq w w':=by
 have HE:=qH hE;clear hE;go_enter func9,ntmps9;go_wp2_with fail;refine (bL2 w).mono ?_;rintro e w1⟨g,rfl,hr1,hb1⟩;have HR1:=qH hr1;have HB1:=qH hb1;have kc:=fun(w:World)(C:Array Value)(n c:Nat)=>Lib.run_convert_bytes_const (P:=prog) w 28 5 C n c underlying28 underlying5;have kc2:=fun(C:Array Value)(n c:Nat)=>kc w1 C n c;clear hr1 hb1;go_wp2_with fail;have hfr:=bN5 w1;have hX:Bq w1 ((w1.alloc (.cells #[.int .u8 51,.int .u8 10,.int .u8 49,.int .u8 10,.int .u8 50,.int .u8 10,.int .u8 48] 5 (7,8))).alloc (.cells #[.string ⟨#[97]⟩,.slice (some ⟨w1.heap.size,0,none⟩) 7 7] 59)):=g9.trans (g9.mono (by simp));have hQ:=bG3 (some ⟨g,0,none⟩) (some ⟨w1.heap.size+1,0,none⟩) 6 1 B8 I5 1 _ (HR1.o.below hX) hfr aF6 aY6;rw[bZ1]at hQ;refine qD hQ ?_;rintro e w2⟨v,rfl,hA2,hb2⟩;have hX2:Bq w1 w2:=hX.trans (hb2.mono hX.size);have HB2:=qT HB1 hX2;obtain⟨an,af,ax,ap,aS,cn,cf,cx,cp,cs,rfl,hM2⟩:=hA2;clear hfr hX hX2 hQ hb2 kc kc2 HR1 HB1
 have HS:=qH (show ∀W,Bq w2 W->Calls prog 6 #[machV an af ax ap aS (E4 B8 I5 1) cn cf cx cp cs,.int .i64 5] W fun e w'=>∃v,e=.returned (.tuple #[v,.int .i64 8])/\E7 w' v I4/\Bq W w' from fun W hW=>by
  have hS:=br1 an af ax ap aS cn cf cx cp cs (E4 B8 I5 1) 5 W (hM2.below hW) aZ8 (fun V hV=>HE.o.below ((qT HB2 hW).out.trans (hV.mono (by have:=HB2.o.size;have:=hW.size;omega))))
  rw[bP9]at hS
  exact hS)
 have HF:=qH (show ∀W,Bq w2 W->Calls prog 17 #[machV an af ax ap aS (E4 B8 I5 1) cn cf cx cp cs] W fun e w'=>∃v r,e=.returned (.tuple #[v,.int .i64 0])/\E7 w' v r/\r.sunk=[48,10,49,10,50,10,51,10]/\Bq W w' from fun W hW=>by
  obtain⟨k,r,hF,hs⟩:=bY6
  have hS:=aQ5 an af ax ap aS cn cf cx cp cs (E4 B8 I5 1) W (hM2.below hW) aZ8 (fun V hV=>HE.o.below ((qT HB2 hW).out.trans (hV.mono (by have:=HB2.o.size;have:=hW.size;omega)))) (TotI B8 I5) (fun _=>aA7 B8 I5) (fun _=>aI2 aB1) k (r,0) (fun _=>hF)
  rw[show finR (E4 B8 I5 1) (r,0)=(r,0) from by unfold finR;rw[qB (by simp[aB1])]]at hS
  refine hS.mono ?_
  rintro e w'⟨v,h1,h2,h3⟩
  exact⟨v,r,h1,h2,hs,h3⟩)
 clear hM2 HE;unfold machV at HS HF ⊢;generalize (E4 B8 I5 1).ns.length=NN,(E4 B8 I5 1).fs.length=NF,(E4 B8 I5 1).pipes.length=NX,(E4 B8 I5 1).ps.length=NP,(E4 B8 I5 1).sunk.length=NS at *;go_wp2_with fail;refine qD (HS.o _ g9) ?_;rintro e w3⟨v,rfl,hA3,hb3⟩;have Ko:Bq w2 w3:=Below.trans (g9 (w:=w2)) (hb3.mono (by simp));have hx3:=(hb3.block w2.heap.size (by simp)).trans (qJ w2 (.cells #[.slice an NN cn,.slice af NF cf,.slice ax NX cx,.slice ap NP cp,.slice aS NS cs] 30));obtain⟨an3,af3,ax3,ap3,aS3,cn3,cf3,cx3,cp3,cs3,rfl,hM3⟩:=hA3;obtain⟨x0,x1,x2,x3,x4,_⟩:=i8 hx3;have HB3:=qT HB2 Ko;have Xm:=qH Ko;clear hM3 hb3 Ko HS;unfold machV;generalize I4.ns.length=NN3,I4.fs.length=NF3,I4.pipes.length=NX3,I4.ps.length=NP3,I4.sunk.length=NS3 at *;have hlt3:w2.heap.size<w3.heap.size:=(aSm hx3).1;have hne3:w2.heap.size≠w3.heap.size:=qO;clear hx3;go_wp2_with fail;refine qD (HF.o _ (Xm.o.trans ((g9 (w:=w3)).mono Xm.o.size))) ?_;rintro e w4⟨v,r,rfl,hA4,hs4,hb4⟩;have HB4:Hid (Bq w w4):=HB3.o.trans ((Below.trans (g9 (w:=w3)) (hb4.mono (by simp))).mono HB3.o.size);obtain⟨an4,af4,ax4,ap4,aS4,cn4,cf4,cx4,cp4,cs4,rfl,hM4⟩:=hA4;have hrd:=hM4.sunk;rw[hs4]at hrd;have k1:∀o,_:=fun o=>ah0 (bs:=[48,10,49,10,50,10,51,10]) (hrd.below (g9 (o:=o)));simp only[ql,xI,qk,Nat.reduceAdd]at k1;unfold machV;have hS8:r.sunk.length=8:=by rw[hs4];rfl
 rw[hS8];generalize r.ns.length=NN4,r.fs.length=NF4,r.pipes.length=NX4,r.ps.length=NP4 at *;clear hM4 hb4 HF hrd hs4 hS8 x0 x1 x2 x3 x4 hlt3 hne3 Xm HB2 HB3;go_wp2_with fail;go_ret;exact⟨rfl,HB4.o.trans ((g9 (w:=w4)).mono HB4.o.size)⟩
open Go.ChangeShapes Go.WideShapes Go.ChangeAt
variable {H:Type} {enc:TypeId × Value->H} {W:World} {base:Nat} {held:Bool} {fuel:Nat} {x:DataW H × List MemPlace}
theorem aT4{v:Value}(hf:DataW.trod enc prog W base (fun _=>true) held fuel 55 [v]=some x):
 ∃ps:List (Int × Int),D5 W v ps/\∀p∈ps,(Lit.int .i64 p.1).wf=true/\(Lit.int .i64 p.2).wf=true:=by
 rcases Deep.open_slice_pairs underlying55 underlying74 qQ rfl rfl qQ qQ hf with⟨hcs,_⟩|⟨a,len,cap,m,n,V0,V1,D0,D1,P0,P1,hcs,hb,hl,hm,hmm,_,An⟩
 . simp at hcs;subst hcs;exact⟨[],⟨none,0,rfl,qA _,by simp,fun h=>absurd rfl h⟩,(by intro c hc;cases hc)⟩
 .
  simp at hcs;subst hcs;simp only[if_true]at hmm;subst hmm;have each:∀i,i<len->∃p:Int × Int,V0 i=.int .i64 p.1/\V1 i=.int .i64 p.2/\(Lit.int .i64 p.1).wf=true/\(Lit.int .i64 p.2).wf=true:=by intro i hi;obtain⟨_,_,g0,g1⟩:=An i qO;obtain⟨z0,e0,_,w0⟩:=zg underlying3 g0;obtain⟨z1,e1,_,w1⟩:=zg underlying3 g1;simp at e0 e1;exact⟨(z0,z1),e0,e1,w0,w1⟩
  obtain⟨Y,hY⟩:=Deep.choose_lt each;refine⟨(List.range len).map Y,⟨some a,m,by simp,by simpa using hl,hm,fun h0=>?_⟩,fun p hp=>?_⟩
  .
   have h0':0<len:=by
    rcases za len with h | h
    . subst h;simp at h0
    . exact h
   have Bc:=ar8 (An 0 qO).1 rfl;obtain⟨b,off,spot⟩:=a;simp only at Bc;subst Bc;refine⟨b,off,rfl,fun j f hj=>?_⟩;obtain⟨h1,rfl⟩:=ar7 hj;obtain⟨c0,c1,_,_⟩:=An j qO;obtain⟨q0,q1,_⟩:=hY j h1;rw[ak8]at c0 c1;exact⟨by rw[c0,q0],by rw[zK,c1,q1]⟩
  . obtain⟨i,hi,rfl⟩:=xA.1 hp;exact (hY i (zB.1 hi)).2.2
theorem eight{cs:List Value}(h:cs.length=8):∃v0 v1 v2 v3 v4 v5 v6 v7,cs=[v0,v1,v2,v3,v4,v5,v6,v7]:=by
 match cs,h with
 | [v0,v1,v2,v3,v4,v5,v6,v7],_=>exact⟨v0,v1,v2,v3,v4,v5,v6,v7,rfl⟩
theorem br9{t:TypeId}{f3 f4 f5:Field}{v0 v1 v2 v3 v4 v5 v6 v7:Value}(he:P.underlying t=some (.struct #[f0,f1,f2,f3,f4,f5]))(o0:f0.offset=0)(o1:f1.offset=1)(o2:f2.offset=2)(o3:f3.offset=5)(o4:f4.offset=6)(o5:f5.offset=7)
 (c0:P.cellsOf f0.type=1) (c1:P.cellsOf f1.type=1) (c2:P.cellsOf f2.type=3) (c3:P.cellsOf f3.type=1) (c4:P.cellsOf f4.type=1) (c5:P.cellsOf f5.type=1)
 (h:DataW.trod enc P W base (fun _=>true) held fuel t [v0,v1,v2,v3,v4,v5,v6,v7]=some x):
 ∃k y0 y1 y2 y3 y4 y5,DataW.trod enc P W base (fun _=>true) held k f0.type [v0]=some y0/\DataW.trod enc P W base (fun _=>true) held k f1.type [v1]=some y1/\DataW.trod enc P W base (fun _=>true) held k f2.type [v2,v3,v4]=some y2/\DataW.trod enc P W base (fun _=>true) held k f3.type [v5]=some y3/\DataW.trod enc P W base (fun _=>true) held k f4.type [v6]=some y4/\DataW.trod enc P W base (fun _=>true) held k f5.type [v7]=some y5:=by
 obtain⟨xs,k,_,_,_,hxl,hf⟩:=zk he h
 match xs,hxl with
 | [y0,y1,y2,y3,y4,y5],_=>have g0:=hf 0 f0 rfl;have g1:=hf 1 f1 rfl;have g2:=hf 2 f2 rfl;have g3:=hf 3 f3 rfl;have g4:=hf 4 f4 rfl;have g5:=hf 5 f5 rfl;simp[o0,o1,o2,o3,o4,o5,c0,c1,c2,c3,c4,c5]at g0 g1 g2 g3 g4 g5;exact⟨k,y0,y1,y2,y3,y4,y5,g0,g1,g2,g3,g4,g5⟩
theorem bC6{t:TypeId}{v0 v1 v2:Value}(he:P.underlying t=some (.struct #[f0,f1,f2]))(o0:f0.offset=0)(o1:f1.offset=1)(o2:f2.offset=2)(c0:P.cellsOf f0.type=1)(c1:P.cellsOf f1.type=1)(c2:P.cellsOf f2.type=1)
 (h:DataW.trod enc P W base (fun _=>true) held fuel t [v0,v1,v2]=some x):
 ∃k y0 y1 y2,DataW.trod enc P W base (fun _=>true) held k f0.type [v0]=some y0/\DataW.trod enc P W base (fun _=>true) held k f1.type [v1]=some y1/\DataW.trod enc P W base (fun _=>true) held k f2.type [v2]=some y2:=by
 obtain⟨xs,k,_,_,_,hxl,hf⟩:=zk he h
 match xs,hxl with
 | [y0,y1,y2],_=>have g0:=hf 0 f0 rfl;have g1:=hf 1 f1 rfl;have g2:=hf 2 f2 rfl;simp[o0,o1,o2,c0,c1,c2]at g0 g1 g2;exact⟨k,y0,y1,y2,g0,g1,g2⟩
theorem bh8{cs:List Value}(hlen:cs.length=8)(h:DataW.trod enc prog W base (fun _=>true) held fuel 57 cs=some x):
 ∃(n:SNode)(ai:Option Addr)(ci:Nat),cs=[.int .i64 n.kind,.string ⟨n.file.toArray⟩,.int .i64 n.c.kind,.string ⟨n.c.word.toArray⟩,.int .i64 n.c.n,.int .i64 n.how,.int .i64 n.wide,.slice ai n.ins.length ci]/\D5 W (.slice ai n.ins.length ci) n.ins/\G8 n/\(Lit.int .i64 n.c.kind).wf=true:=by
 obtain⟨v0,v1,v2,v3,v4,v5,v6,v7,rfl⟩:=eight hlen;obtain⟨k,y0,y1,y2,y3,y4,y5,g0,g1,g2,g3,g4,g5⟩:=br9 underlying57 rfl rfl rfl rfl rfl rfl qQ qQ qQ qQ qQ qQ h;obtain⟨k2,q0,q1,q2,m0,m1,m2⟩:=bC6 underlying54 rfl rfl rfl qQ qQ qQ g2;obtain⟨nk,e0,_,_⟩:=zg underlying3 g0;obtain⟨fx,e1,_,hs1⟩:=DataW.trod_string underlying9 g1;obtain⟨ck,e2,_,hwf⟩:=zg underlying3 m0;obtain⟨wx,e3,_,hs3⟩:=DataW.trod_string underlying9 m1;obtain⟨cn,e4,_,_⟩:=zg underlying3 m2;obtain⟨hw,e5,_,_⟩:=zg underlying3 g3;obtain⟨wd,e6,_,_⟩:=zg underlying3 g4;obtain⟨ps,hps,hwp⟩:=aT4 g5;obtain⟨ai,ci,e7,_,_⟩:=hps.shape;simp only[List.cons.injEq,and_true]at e0 e1 e2 e3 e4 e5 e6;unfold maxLen at hs1 hs3;refine⟨⟨nk,fx.data.toList,⟨ck,wx.data.toList,cn⟩,hw,wd,ps⟩,ai,ci,?_,by rw[<- e7];exact hps,⟨?_,?_,hwp⟩,hwf⟩
 . rw[e0,e1,e2,e3,e4,e5,e6,e7]
 . have:fx.data.toList.length=fx.size:=zF;show fx.data.toList.length<=_;omega
 . have:wx.data.toList.length=wx.size:=zF;show wx.data.toList.length<=_;omega
theorem at6{v:Value}(hf:DataW.trod enc prog W base (fun _=>true) held fuel 22 [v]=some x):
 ∃ns:List SNode,y8 W v ns/\(∀n∈ns,G8 n)/\(∀n∈ns,(Lit.int .i64 n.c.kind).wf=true):=by
 rcases Deep.open_slice underlying22 hf with⟨h0,_⟩|⟨a,len,cap,m,n,D,Pl,hcs,hb,hl,hm,hmm,_,hx⟩
 . simp at h0;subst h0;exact⟨[],⟨none,0,rfl,qA _,by simp,fun h=>absurd rfl h⟩,(by intro c hc;cases hc),(by intro c hc;cases hc)⟩
 .
  simp at hcs;subst hcs;have hlm:len<=m:=by rw[hmm];split <;> omega
  have each:∀i,i<len->∃p:SNode × Option Addr × Nat,(∀(j:Nat) u,[Value.int .i64 p.1.kind,.string ⟨p.1.file.toArray⟩,.int .i64 p.1.c.kind,.string ⟨p.1.c.word.toArray⟩,.int .i64 p.1.c.n,.int .i64 p.1.how,.int .i64 p.1.wide,.slice p.2.1 p.1.ins.length p.2.2][j]?=some u->W.cell? (a.add (i*8+j))=some u)/\D5 W (.slice p.2.1 p.1.ins.length p.2.2) p.1.ins/\G8 p.1/\(Lit.int .i64 p.1.c.kind).wf=true:=by
   intro i hi;obtain⟨cs',h1,h2⟩:=hx i qO;rw[show prog.cellsOf 57 = 8 by kernel_rfl]at h1;obtain⟨_,hlen,Ac⟩:=World.cells?_some h1;obtain⟨nn,ai,ci,rfl,hp,hfn,hw⟩:=bh8 hlen h2;refine⟨(nn,ai,ci),fun j u hj=>?_,hp,hfn,hw⟩;have hjl:j<8:=by have:=(gSm hj).1;simpa using this
   have e:=Ac j hjl;rw[Deep.add_add]at e;rw[e];exact hj
  haveI:Inhabited (SNode × Option Addr × Nat):=⟨(⟨0,[],⟨0,[],0⟩,0,0,[]⟩,none,0)⟩;obtain⟨Y,hY⟩:=Deep.choose_lt each;refine⟨(List.range len).map (fun i=>(Y i).1),⟨some a,cap,by simp,by simpa using hl,hm,fun h0=>?_⟩,fun q hq=>?_,fun q hq=>?_⟩
  .
   have h0':0<len:=by
    rcases za len with h | h
    . subst h;simp at h0
    . exact h
   have Bc:=ar8 ((hY 0 h0').1 0 _ rfl) rfl;obtain⟨b,off,spot⟩:=a;simp only at Bc;subst Bc;refine⟨b,off,rfl,fun j q hj=>?_⟩;obtain⟨h1,rfl⟩:=ar7 hj;obtain⟨q0,q1,_,_⟩:=hY j h1;have cell:∀(k:Nat) u,[Value.int .i64 (Y j).1.kind,.string ⟨(Y j).1.file.toArray⟩,.int .i64 (Y j).1.c.kind,.string ⟨(Y j).1.c.word.toArray⟩,.int .i64 (Y j).1.c.n,.int .i64 (Y j).1.how,.int .i64 (Y j).1.wide,.slice (Y j).2.1 (Y j).1.ins.length (Y j).2.2][k]?=some u->W.cell? ⟨b,off+j*8+k,none⟩=some u:=by intro k u hu;have:=q0 k u hu;rw[ak8]at this;rw[zK];exact this
   exact⟨(Y j).2.1,(Y j).2.2,⟨cell 0 _ rfl,cell 1 _ rfl,cell 2 _ rfl,cell 3 _ rfl,cell 4 _ rfl,cell 5 _ rfl,cell 6 _ rfl,cell 7 _ rfl⟩,q1⟩
  . obtain⟨i,hi,rfl⟩:=xA.1 hq;exact (hY i (zB.1 hi)).2.2.1
  . obtain⟨i,hi,rfl⟩:=xA.1 hq;exact (hY i (zB.1 hi)).2.2.2
end Go.Proofs.YtmejdflmcikkdaaGreatDoor
namespace Go.Gs
open Go.RowKit Go.ChangeShapes Go.WideShapes Go.ChangeAt
variable {P:Program} {H:Type} {enc:TypeId × Value->H} {W:World} {base:Nat} {held:Bool} {fuel:Nat} {t e:TypeId} {a:Option Addr} {len cap:Nat} {x:DataW H × List MemPlace}
variable {z:Int}
theorem add_plain{b off j:Nat}:(⟨b,off,none⟩:Addr).add j=⟨b,off+j,none⟩:=by unfold Addr.add;split <;> simp_all
theorem ci5(h:(Lit.int .u8 z).wf=true):U (UInt8.ofNat z.toNat)=.int .u8 z:=by
 have hx:0<=z/\z<=255:=by simpa[Lit.wf,IntKind.min,IntKind.max,IntKind.signed,IntKind.bits]using h
 have:((UInt8.ofNat z.toNat).toNat:Int)=z:=by rw[UInt8.toNat_ofNat_of_lt' (by show _<256;omega)];omega
 simp only[U,this]
theorem at7(ht:P.underlying t=some (.slice e))(he:P.underlying e=some (.int .u8))(hc:P.cellsOf e=1)
 (hf:DataW.trod enc P W base (fun _=>true) held fuel t [.slice a len cap]=some x):
 ∃bs:qU,bs.length=len/\Reads W (.slice a len cap) bs.length (bs.map U):=by
 rcases open_ints ht he hc hf with⟨hcs,_⟩|⟨ad,l,c,zs,hcs,_,hl,hm,hz,_,Ac,hwz⟩
 . simp at hcs;obtain⟨rfl,rfl,rfl⟩:=hcs;exact⟨[],rfl,rfl,none,0,rfl,qA _,by simp,fun h=>absurd rfl h⟩
 .
  simp at hcs;obtain⟨rfl,rfl,rfl⟩:=hcs;have hz':zs.length=cap:=by simpa using hz
  have hbl:((zs.take len).map (fun z=>UInt8.ofNat z.toNat)).length=len:=by simp;omega
  refine⟨(zs.take len).map (fun z=>UInt8.ofNat z.toNat),hbl,by simp,some ad,cap,by rw[hbl],qO,hm,fun h0=>?_⟩;rw[hbl]at h0;obtain⟨b,off,spot⟩:=ad;have h00:=Ac 0 qO;have Bc:spot=none:=by simpa[Addr.add]using World.cell?_spot h00
  subst Bc;refine⟨b,off,rfl,fun j u hu=>?_⟩;have hj:j<len:=by have:=(gSm hu).1;simp at this;omega
  have hjz:j<zs.length:=qO;have hcj:=Ac j hjz;rw[add_plain]at hcj;rw[hcj];simp only[zP,qa,xg,hj,if_true,gEl hjz,xG,Function.comp_apply,qe]at hu;rw[ci5 (hwz _ (zZ hjz))]at hu;rw[<- hu];simp[hjz]
end Go.Gs
namespace Go.Proofs.YtmejdflmcikkdaaGreatDoor
open Go.RowKit Go.Gs Go.ChangeShapes Go.WideShapes Go.ChangeAt Tryz
variable {H:Type} {enc:TypeId × Value->H} {W:World} {base:Nat} {held:Bool} {fuel:Nat} {x:DataW H × List MemPlace}
variable {a:Addr}
theorem bC7{w:World}{k:Nat}{v:Value}(h:w.cell? (a.add k)=some v)(hk:k=0):a.spot=none:=by obtain⟨b,off,spot⟩:=a;subst hk;simpa[Addr.add]using World.cell?_spot h
theorem av0{v:Value}(hf:DataW.trod enc prog W base (fun _=>true) held fuel 25 [v]=some x):
 ∃fs:List SFile,o8 W v fs/\(∀f∈fs,al0 f)/\∀n c,v=.slice none n c->c=0:=by
 rcases Deep.open_slice_pairs underlying25 underlying59 qQ rfl rfl qQ qQ hf with⟨hcs,_⟩|⟨a,len,cap,m,n,V0,V1,D0,D1,P0,P1,hcs,hb,hl,hm,hmm,_,An⟩
 . simp at hcs;subst hcs;exact⟨[],⟨none,0,rfl,qA _,by simp,fun h=>absurd rfl h⟩,(by intro c hc;cases hc),fun n c e=>by injection e with _ _ e;exact e.symm⟩
 .
  simp at hcs;subst hcs;simp only[if_true]at hmm;subst hmm;have each:∀i,i<len->∃f:SFile,V0 i=.string ⟨f.name.toArray⟩/\Reads W (V1 i) f.b.length (f.b.map U)/\al0 f:=by
   intro i hi;obtain⟨_,_,g0,g1⟩:=An i qO;obtain⟨s,e2,_,hs⟩:=DataW.trod_string underlying9 g0;simp at e2;obtain⟨a',l',c',hv⟩:∃a' l' c',V1 i=.slice a' l' c':=by
    rcases open_ints underlying28 underlying5 qQ g1 with⟨hcs,_⟩|⟨ad',l',c',zs,hcs,_⟩
    . exact⟨none,0,0,by simpa using hcs⟩
    . exact⟨some ad',l',c',by simpa using hcs⟩
   rw[hv]at g1 ⊢;obtain⟨bs,hbl,hr⟩:=at7 underlying28 underlying5 qQ g1;refine⟨⟨s.data.toList,bs⟩,e2,hr,?_⟩;unfold al0;unfold maxLen at hs;have:s.data.toList.length=s.size:=zF;show s.data.toList.length<=_;omega
  haveI:Inhabited SFile:=⟨⟨[],[]⟩⟩;obtain⟨Y,hY⟩:=Deep.choose_lt each;have Em:∀(j:Nat)(p:SFile),((List.range len).map Y)[j]?=some p->j<len/\p=Y j:=by
   intro j p hj;rw[qa]at hj;by_cases h1:j<len
   . rw[xd h1]at hj;simp only[xG,qe]at hj;exact⟨h1,hj.symm⟩
   . rw[zN (by simp;omega)]at hj
     cases hj
  refine⟨(List.range len).map Y,⟨some a,m,by simp,by simpa using hl,hm,fun h0=>?_⟩,fun f hf=>?_,fun n c e=>by injection e with e;cases e⟩
  .
   have h0':0<len:=by
    rcases za len with h | h
    . subst h;simp at h0
    . exact h
   have Bc:=bC7 (An 0 qO).1 rfl;obtain⟨b,off,spot⟩:=a;simp only at Bc;subst Bc;refine⟨b,off,rfl,fun j f hj=>?_⟩;obtain⟨h1,rfl⟩:=Em j f hj;obtain⟨c0,c1,_,_⟩:=An j qO;obtain⟨q0,q1,_⟩:=hY j h1;rw[Gs.add_plain]at c0 c1;exact⟨V1 j,by rw[c0,q0],by rw[zK];exact c1,q1⟩
  . obtain⟨i,hi,rfl⟩:=xA.1 hf;exact (hY i (zB.1 hi)).2.2
end Go.Proofs.YtmejdflmcikkdaaGreatDoor
namespace Go.Gs
open Go.RowKit Go.ChangeShapes Go.WideShapes Go.ChangeAt
variable {P:Program} {H:Type} {enc:TypeId × Value->H} {W:World} {base:Nat} {held:Bool} {fuel:Nat} {t e:TypeId} {a:Option Addr} {len cap:Nat} {x:DataW H × List MemPlace}
theorem bs0(ht:P.underlying t=some (.slice e))(he:P.underlying e=some (.int .u8))(hc:P.cellsOf e=1)
 (hf:DataW.trod enc P W base (fun _=>true) held fuel t [.slice a len cap]=some x):len=0\/∃elems spare,x.1=.slice elems spare/\elems.length=len:=by
 rcases open_ints ht he hc hf with⟨hcs,_⟩|⟨ad,l,c,zs,hcs,_,hl,hm,hz,hx,Ac,hwz⟩
 . simp at hcs;exact .inl hcs.2.1
 . simp at hcs;obtain⟨rfl,rfl,rfl⟩:=hcs;have hz':zs.length=cap:=by simpa using hz
   refine .inr ⟨_,_,by rw[hx],?_⟩;simp[lits];omega
end Go.Gs
namespace Go.Proofs.YtmejdflmcikkdaaGreatDoor
open Go.RowKit Go.Gs Go.ChangeShapes Go.WideShapes Go.ChangeAt Tryz
variable {P:Program} {H:Type} {enc:TypeId × Value->H} {W:World} {base:Nat} {held:Bool} {fuel:Nat} {t e q:TypeId} {a:Option Addr} {len cap:Nat} {x:DataW H × List MemPlace}
theorem aH4{e:TypeId}{d:DataW H}:∀{l:List (DataW H)},d∈l->∀n∈d.weights P e,n∈DataW.weightsAll P e l:=by
 intro l
 induction l with
 | nil=>intro h;cases h
 | cons c l ih=>
  intro h n hn;rw[DataW.weightsAll,xY];rcases zD.1 h with rfl | h
  . exact .inl hn
  . exact .inr (ih h n hn)
theorem aT5(ht:P.underlying t=some (.slice e))(he:P.underlying e=some (.slice q))(hq:P.underlying q=some (.int .u8))(ce:P.cellsOf e=1)(cq:P.cellsOf q=1)
 (hf:DataW.trod enc P W base (fun _=>true) held fuel t [.slice a len cap]=some x):
 ∃bss:qL,bss.length=len/\RList W (.slice a len cap) U bss/\(len=0\/∃elems spare,x.1=.slice elems spare/\elems.length=len/\∀(j:Nat)(p:qU),bss[j]?=some p->p.length=0\/∃el sp,(.slice el sp:DataW H)∈elems/\el.length=p.length):=by
 rcases Deep.open_slice1 ht ce hf with⟨hcs,_⟩|⟨ad,l,c,m,n,V,D,Pl,hcs,hb,hl,hm,hmm,hx,An⟩
 . simp at hcs;obtain⟨rfl,rfl,rfl⟩:=hcs;exact⟨[],rfl,⟨[],⟨rfl,none,0,rfl,qA _,by simp,fun h=>absurd rfl h⟩,fun j p hj=>by simp at hj⟩,.inl rfl⟩
 .
  simp at hcs;obtain⟨rfl,rfl,rfl⟩:=hcs;simp only[if_true]at hmm;subst hmm;have each:∀i,i<len->∃y:qU,Reads W (V i) y.length (y.map U)/\(y.length=0\/∃el sp,D i=.slice el sp/\el.length=y.length):=by
   intro i hi;have hi':=(An i qO).2;obtain⟨a',l',c',hv⟩:∃a' l' c',V i=.slice a' l' c':=by
    rcases open_ints he hq cq hi' with⟨hcs,_⟩|⟨ad',l',c',zs,hcs,_⟩
    . exact⟨none,0,0,by simpa using hcs⟩
    . exact⟨some ad',l',c',by simpa using hcs⟩
   rw[hv]at hi' ⊢;obtain⟨bs,hbl,hr⟩:=at7 he hq cq hi';refine⟨bs,by rw[<- hbl]at hr ⊢;exact hr,?_⟩;rcases bs0 he hq cq hi' with h | ⟨el,sp,h1,h2⟩
   . exact .inl qO
   . exact .inr ⟨el,sp,h1,qO⟩
  obtain⟨Y,hY⟩:=Deep.choose_lt each;have Em:∀(j:Nat)(p:qU),((List.range len).map Y)[j]?=some p->j<len/\p=Y j:=by
   intro j p hj;rw[qa]at hj
   cases hr:(List.range len)[j]? with
   | none=>rw[hr]at hj;cases hj
   | some i=>rw[hr]at hj;have h1:=(gSm hr).1;rw[List.length_range]at h1;rw[xd h1]at hr;injection hr with hr;simp only[xG,qe]at hj;exact⟨h1,by rw[<- hj,<- hr]⟩
  refine⟨(List.range len).map Y,by simp,⟨(List.range len).map V,⟨by simp,some ad,m,by simp,by simpa using hl,hm,fun h0=>?_⟩,fun j p hj=>?_⟩,.inr ⟨_,_,by rw[hx],by simp,fun j p hj=>?_⟩⟩
  .
   have h0':0<len:=by
    rcases za len with h | h
    . subst h;simp at h0
    . exact h
   obtain⟨b,off,spot⟩:=ad;have h00:=(An 0 qO).1;have Bc:spot=none:=by simpa[Addr.add]using World.cell?_spot h00
   subst Bc;refine⟨b,off,rfl,fun j u hu=>?_⟩;rw[qa]at hu
   cases hr:(List.range len)[j]? with
   | none=>rw[hr]at hu;cases hu
   | some i=>rw[hr]at hu;have h1:=(gSm hr).1;rw[List.length_range]at h1;rw[xd h1]at hr;injection hr with hr;subst hr;simp only[xG,qe]at hu;have:=(An j qO).1;rw[Gs.add_plain]at this;rw[this,hu]
  . obtain⟨h1,h2⟩:=Em j p hj;subst h2;exact⟨V j,by rw[qa,xd h1];rfl,(hY j h1).1⟩
  . obtain⟨h1,h2⟩:=Em j p hj;subst h2;rcases (hY j h1).2 with h | ⟨el,sp,h3,h4⟩
    . exact .inl h
    . exact .inr ⟨el,sp,by rw[<- h3];exact xA.2 ⟨j,zB.2 h1,rfl⟩,h4⟩
end Go.Proofs.YtmejdflmcikkdaaGreatDoor
namespace Go.Gs
open Go.RowKit Go.ChangeShapes Go.WideShapes Go.ChangeAt
variable {P:Program} {H:Type} {enc:TypeId × Value->H} {W:World} {base:Nat} {held:Bool} {fuel:Nat} {t e:TypeId} {v:Value} {x:DataW H × List MemPlace}
variable {z:Int}{k:IntKind}
theorem bC8{b off j:Nat}:(⟨b,off,none⟩:Addr).add j=⟨b,off+j,none⟩:=by unfold Addr.add;split <;> simp_all
theorem ci0(h:(Lit.int .u8 z).wf=true):U (UInt8.ofNat z.toNat)=.int .u8 z:=by
 have hx:0<=z/\z<=255:=by simpa[Lit.wf,IntKind.min,IntKind.max,IntKind.signed,IntKind.bits]using h
 have:((UInt8.ofNat z.toNat).toNat:Int)=z:=by rw[UInt8.toNat_ofNat_of_lt' (by show _<256;omega)];omega
 simp only[U,this]
theorem aG4(ht:P.underlying t=some (.slice e))(he:P.underlying e=some (.int k))(hc:P.cellsOf e=1)
 (hf:DataW.trod enc P W base (fun _=>true) held fuel t [v]=some x):
 ∃(zs:List Int)(a:Option Addr)(cap:Nat),v=.slice a zs.length cap/\Reads W (.slice a zs.length cap) zs.length (zs.map (Value.int k))/\(a=none->cap=0)/\∀z∈zs,(Lit.int k z).wf=true:=by
 rcases open_ints ht he hc hf with⟨hcs,_⟩|⟨ad,l,c,zs,hcs,_,hl,hm,hz,_,Ac,hwz⟩
 . simp at hcs;subst hcs;exact⟨[],none,0,rfl,⟨rfl,none,0,rfl,qA _,by simp,fun h=>absurd rfl h⟩,fun _=>rfl,by simp⟩
 .
  simp at hcs;subst hcs;have hz':zs.length=c:=by simpa using hz
  have hbl:(zs.take l).length=l:=by rw[qX];omega
  refine⟨zs.take l,some ad,c,by rw[hbl],⟨by rw[qS],some ad,c,by rw[hbl],qO,hm,fun h0=>?_⟩,(fun h=>by cases h),fun z hzm=>hwz z (List.mem_of_mem_take hzm)⟩;rw[hbl]at h0;obtain⟨b,off,spot⟩:=ad;have h00:=Ac 0 qO;have Bc:spot=none:=by simpa[Addr.add]using World.cell?_spot h00
  subst Bc;refine⟨b,off,rfl,fun j u hu=>?_⟩;have hj:j<l:=by have:=(gSm hu).1;simp at this;omega
  have hjz:j<zs.length:=qO;have hcj:=Ac j hjz;rw[bC8]at hcj;rw[hcj];simp only[qa,xg,hj,if_true,gEl hjz,xG,qe]at hu;rw[<- hu];simp[hjz]
theorem ap9(ht:P.underlying t=some (.slice e))(he:P.underlying e=some (.int .u8))(hc:P.cellsOf e=1)
 (hf:DataW.trod enc P W base (fun _=>true) held fuel t [v]=some x):
 ∃(bs:qU)(a:Option Addr)(cap:Nat),v=.slice a bs.length cap/\Reads W (.slice a bs.length cap) bs.length (bs.map U)/\(a=none->cap=0):=by
 obtain⟨zs,a,cap,h1,h2,h3,h4⟩:=aG4 ht he hc hf;have hl:(zs.map (fun z=>UInt8.ofNat z.toNat)).length=zs.length:=by simp
 refine⟨zs.map (fun z=>UInt8.ofNat z.toNat),a,cap,by rw[hl];exact h1,?_,h3⟩;rw[hl,zP];have e:zs.map (U ∘ fun z=>UInt8.ofNat z.toNat)=zs.map (Value.int .u8):=zq fun z hz=>ci0 (h4 z hz);rw[e];exact h2
end Go.Gs
namespace Go.Proofs.YtmejdflmcikkdaaGreatDoor
open Go.RowKit Go.Gs Go.ChangeShapes Go.WideShapes Go.ChangeAt Tryz
variable {H:Type} {enc:TypeId × Value->H} {W:World} {base:Nat} {held:Bool} {fuel:Nat} {x:DataW H × List MemPlace}
variable {P:Program}{f0 f1 f2 f3:Field}{r:Go.Reach}
theorem bs1{t:TypeId}{v0 v1 v2 v3:Value}(he:P.underlying t=some (.struct #[f0,f1,f2,f3]))(o0:f0.offset=0)(o1:f1.offset=1)(o2:f2.offset=2)(o3:f3.offset=3)(c0:P.cellsOf f0.type=1)(c1:P.cellsOf f1.type=1)(c2:P.cellsOf f2.type=1)(c3:P.cellsOf f3.type=1)
 (h:DataW.trod enc P W base (fun _=>true) held fuel t [v0,v1,v2,v3]=some x):
 ∃k y0 y1 y2 y3,DataW.trod enc P W base (fun _=>true) held k f0.type [v0]=some y0/\DataW.trod enc P W base (fun _=>true) held k f1.type [v1]=some y1/\DataW.trod enc P W base (fun _=>true) held k f2.type [v2]=some y2/\DataW.trod enc P W base (fun _=>true) held k f3.type [v3]=some y3:=by
 obtain⟨xs,k,_,_,_,hxl,hf⟩:=zk he h
 match xs,hxl with
 | [y0,y1,y2,y3],_=>have g0:=hf 0 f0 rfl;have g1:=hf 1 f1 rfl;have g2:=hf 2 f2 rfl;have g3:=hf 3 f3 rfl;simp[o0,o1,o2,o3,c0,c1,c2,c3]at g0 g1 g2 g3;exact⟨k,y0,y1,y2,y3,g0,g1,g2,g3⟩
theorem aG5{t:TypeId}{f4:Field}{v0 v1 v2 v3 v4:Value}(he:P.underlying t=some (.struct #[f0,f1,f2,f3,f4]))(o0:f0.offset=0)(o1:f1.offset=1)(o2:f2.offset=2)(o3:f3.offset=3)(o4:f4.offset=4)(c0:P.cellsOf f0.type=1)(c1:P.cellsOf f1.type=1)(c2:P.cellsOf f2.type=1)(c3:P.cellsOf f3.type=1)(c4:P.cellsOf f4.type=1)
 (h:DataW.trod enc P W base (fun _=>true) held fuel t [v0,v1,v2,v3,v4]=some x):
 ∃k y0 y1 y2 y3 y4,DataW.trod enc P W base (fun _=>true) held k f0.type [v0]=some y0/\DataW.trod enc P W base (fun _=>true) held k f1.type [v1]=some y1/\DataW.trod enc P W base (fun _=>true) held k f2.type [v2]=some y2/\DataW.trod enc P W base (fun _=>true) held k f3.type [v3]=some y3/\DataW.trod enc P W base (fun _=>true) held k f4.type [v4]=some y4:=by
 obtain⟨xs,k,_,_,_,hxl,hf⟩:=zk he h
 match xs,hxl with
 | [y0,y1,y2,y3,y4],_=>have g0:=hf 0 f0 rfl;have g1:=hf 1 f1 rfl;have g2:=hf 2 f2 rfl;have g3:=hf 3 f3 rfl;have g4:=hf 4 f4 rfl;simp[o0,o1,o2,o3,o4,c0,c1,c2,c3,c4]at g0 g1 g2 g3 g4;exact⟨k,y0,y1,y2,y3,y4,g0,g1,g2,g3,g4⟩
theorem cd8{cs:List Value}(h:cs.length=4):∃v0 v1 v2 v3,cs=[v0,v1,v2,v3]:=by
 match cs,h with
 | [v0,v1,v2,v3],_=>exact⟨v0,v1,v2,v3,rfl⟩
theorem bG4{cs:List Value}(h:cs.length=5):∃v0 v1 v2 v3 v4,cs=[v0,v1,v2,v3,v4]:=by
 match cs,h with
 | [v0,v1,v2,v3,v4],_=>exact⟨v0,v1,v2,v3,v4,rfl⟩
theorem bs2{t e:TypeId}{v:Value}(ht:P.underlying t=some (.slice e))(hf:DataW.trod enc P W base (fun _=>true) held fuel t [v]=some x):∃a l c,v=.slice a l c:=by
 rcases Deep.open_slice ht hf with⟨h0,_⟩|⟨a,len,cap,m,n,D,Pl,hcs,_⟩
 . simp at h0;exact⟨none,0,0,h0⟩
 . simp at hcs;exact⟨some a,len,cap,hcs⟩
theorem av1{v:Value}(hf:DataW.trod enc prog W base (fun _=>true) held fuel 62 [v]=some x):∃(bss:qL)(a:Option Addr)(c:Nat),v=.slice a bss.length c/\RList W (.slice a bss.length c) U bss:=by obtain⟨a,l,c,rfl⟩:=bs2 underlying62 hf;obtain⟨bss,h1,h2,_⟩:=aT5 underlying62 underlying28 underlying5 qQ qQ hf;subst h1;exact⟨bss,a,c,rfl,h2⟩
theorem bh9{cs:List Value}(hlen:cs.length=4)(h:DataW.trod enc prog W base (fun _=>true) held fuel 61 cs=some x):
 ∃(p:SPipe)(ab:Option Addr)(cb:Nat),cs=[.slice ab p.b.length cb,.int .i64 p.room,.bool p.closed,.bool p.shut]/\Reads W (.slice ab p.b.length cb) p.b.length (p.b.map U):=by obtain⟨v0,v1,v2,v3,rfl⟩:=cd8 hlen;obtain⟨k,y0,y1,y2,y3,g0,g1,g2,g3⟩:=bs1 underlying61 rfl rfl rfl rfl qQ qQ qQ qQ h;obtain⟨bs,ab,cb,rfl,hr,_⟩:=ap9 underlying28 underlying5 qQ g0;obtain⟨rm,e1,_,_⟩:=zg underlying3 g1;obtain⟨cl,e2,_⟩:=DataW.trod_bool underlying4 g2;obtain⟨sh,e3,_⟩:=DataW.trod_bool underlying4 g3;simp only[List.cons.injEq,and_true]at e1 e2 e3;exact⟨⟨bs,rm,cl,sh⟩,ab,cb,by rw[e1,e2,e3],hr⟩
theorem bi0{cs:List Value}(hlen:cs.length=5)(h:DataW.trod enc prog W base (fun _=>true) held fuel 64 cs=some x):
 ∃(p:SProc)(ag ao:Option Addr)(cg co:Nat),cs=[.slice ag p.got.length cg,.int .i64 p.pos,.slice ao p.out.length co,.bool p.rd,.bool p.ov]/\RList W (.slice ag p.got.length cg) U p.got/\RList W (.slice ao p.out.length co) U p.out/\(Lit.int .i64 p.pos).wf=true:=by obtain⟨v0,v1,v2,v3,v4,rfl⟩:=bG4 hlen;obtain⟨k,y0,y1,y2,y3,y4,g0,g1,g2,g3,g4⟩:=aG5 underlying64 rfl rfl rfl rfl rfl qQ qQ qQ qQ qQ h;obtain⟨gs,ag,cg,rfl,hg⟩:=av1 g0;obtain⟨ps,e1,_,hw⟩:=zg underlying3 g1;obtain⟨os,ao,co,rfl,ho⟩:=av1 g2;obtain⟨rd,e3,_⟩:=DataW.trod_bool underlying4 g3;obtain⟨ov,e4,_⟩:=DataW.trod_bool underlying4 g4;simp only[List.cons.injEq,and_true]at e1 e3 e4;exact⟨⟨gs,ps,os,rd,ov⟩,ag,ao,cg,co,by rw[e1,e3,e4],hg,ho,hw⟩
theorem aT6{v:Value}(hf:DataW.trod enc prog W base (fun _=>true) held fuel 26 [v]=some x):∃xs:List SPipe,N6 W v xs:=by
 rcases Deep.open_slice underlying26 hf with⟨h0,_⟩|⟨a,len,cap,m,n,D,Pl,hcs,hb,hl,hm,hmm,_,hx⟩
 . simp at h0;subst h0;exact⟨[],none,0,rfl,qA _,by simp,fun h=>absurd rfl h⟩
 .
  simp at hcs;subst hcs;have hlm:len<=m:=by rw[hmm];split <;> omega
  have each:∀i,i<len->∃p:SPipe × Option Addr × Nat,(∀(j:Nat) u,[Value.slice p.2.1 p.1.b.length p.2.2,.int .i64 p.1.room,.bool p.1.closed,.bool p.1.shut][j]?=some u->W.cell? (a.add (i*4+j))=some u)/\Reads W (.slice p.2.1 p.1.b.length p.2.2) p.1.b.length (p.1.b.map U):=by
   intro i hi;obtain⟨cs',h1,h2⟩:=hx i qO;rw[show prog.cellsOf 61 = 4 by kernel_rfl]at h1;obtain⟨_,hlen,Ac⟩:=World.cells?_some h1;obtain⟨nn,ai,ci,rfl,hp⟩:=bh9 hlen h2;refine⟨(nn,ai,ci),fun j u hj=>?_,hp⟩;have hjl:j<4:=by have:=(gSm hj).1;simpa using this
   have e:=Ac j hjl;rw[Deep.add_add]at e;rw[e];exact hj
  haveI:Inhabited (SPipe × Option Addr × Nat):=⟨(⟨[],0,false,false⟩,none,0)⟩;obtain⟨Y,hY⟩:=Deep.choose_lt each;refine⟨(List.range len).map (fun i=>(Y i).1),some a,cap,by simp,by simpa using hl,hm,fun h0=>?_⟩;have h0':0<len:=by
   rcases za len with h | h
   . subst h;simp at h0
   . exact h
  have Bc:=ar8 ((hY 0 h0').1 0 _ rfl) rfl;obtain⟨b,off,spot⟩:=a;simp only at Bc;subst Bc;refine⟨b,off,rfl,fun j q hj=>?_⟩;obtain⟨h1,rfl⟩:=ar7 hj;obtain⟨q0,q1⟩:=hY j h1;have cell:∀(k:Nat) u,[Value.slice (Y j).2.1 (Y j).1.b.length (Y j).2.2,.int .i64 (Y j).1.room,.bool (Y j).1.closed,.bool (Y j).1.shut][k]?=some u->W.cell? ⟨b,off+j*4+k,none⟩=some u:=by intro k u hu;have:=q0 k u hu;rw[ak8]at this;rw[zK];exact this
  exact⟨(Y j).2.1,(Y j).2.2,cell 0 _ rfl,cell 1 _ rfl,cell 2 _ rfl,cell 3 _ rfl,q1⟩
theorem aT7{v:Value}(hf:DataW.trod enc prog W base (fun _=>true) held fuel 27 [v]=some x):∃ps:List SProc,J7 W v ps/\∀p∈ps,(Lit.int .i64 p.pos).wf=true:=by
 rcases Deep.open_slice underlying27 hf with⟨h0,_⟩|⟨a,len,cap,m,n,D,Pl,hcs,hb,hl,hm,hmm,_,hx⟩
 . simp at h0;subst h0;exact⟨[],⟨none,0,rfl,qA _,by simp,fun h=>absurd rfl h⟩,by simp⟩
 .
  simp at hcs;subst hcs;have hlm:len<=m:=by rw[hmm];split <;> omega
  have each:∀i,i<len->∃p:SProc × Option Addr × Option Addr × Nat × Nat,(∀(j:Nat) u,[Value.slice p.2.1 p.1.got.length p.2.2.2.1,.int .i64 p.1.pos,.slice p.2.2.1 p.1.out.length p.2.2.2.2,.bool p.1.rd,.bool p.1.ov][j]?=some u->W.cell? (a.add (i*5+j))=some u)/\RList W (.slice p.2.1 p.1.got.length p.2.2.2.1) U p.1.got/\RList W (.slice p.2.2.1 p.1.out.length p.2.2.2.2) U p.1.out/\(Lit.int .i64 p.1.pos).wf=true:=by
   intro i hi;obtain⟨cs',h1,h2⟩:=hx i qO;rw[show prog.cellsOf 64 = 5 by kernel_rfl]at h1;obtain⟨_,hlen,Ac⟩:=World.cells?_some h1;obtain⟨nn,ag,ao,cg,co,rfl,hp,hq,hw⟩:=bi0 hlen h2;refine⟨(nn,ag,ao,cg,co),fun j u hj=>?_,hp,hq,hw⟩;have hjl:j<5:=by have:=(gSm hj).1;simpa using this
   have e:=Ac j hjl;rw[Deep.add_add]at e;rw[e];exact hj
  haveI:Inhabited (SProc × Option Addr × Option Addr × Nat × Nat):=⟨(⟨[],0,[],false,false⟩,none,none,0,0)⟩;obtain⟨Y,hY⟩:=Deep.choose_lt each;refine⟨(List.range len).map (fun i=>(Y i).1),⟨some a,cap,by simp,by simpa using hl,hm,fun h0=>?_⟩,fun q hq=>?_⟩
  .
   have h0':0<len:=by
    rcases za len with h | h
    . subst h;simp at h0
    . exact h
   have Bc:=ar8 ((hY 0 h0').1 0 _ rfl) rfl;obtain⟨b,off,spot⟩:=a;simp only at Bc;subst Bc;refine⟨b,off,rfl,fun j q hj=>?_⟩;obtain⟨h1,rfl⟩:=ar7 hj;obtain⟨q0,q1,q2,_⟩:=hY j h1;have cell:∀(k:Nat) u,[Value.slice (Y j).2.1 (Y j).1.got.length (Y j).2.2.2.1,.int .i64 (Y j).1.pos,.slice (Y j).2.2.1 (Y j).1.out.length (Y j).2.2.2.2,.bool (Y j).1.rd,.bool (Y j).1.ov][k]?=some u->W.cell? ⟨b,off+j*5+k,none⟩=some u:=by intro k u hu;have:=q0 k u hu;rw[ak8]at this;rw[zK];exact this
   exact⟨(Y j).2.1,(Y j).2.2.2.1,(Y j).2.2.1,(Y j).2.2.2.2,cell 0 _ rfl,cell 1 _ rfl,cell 2 _ rfl,cell 3 _ rfl,cell 4 _ rfl,q1,q2⟩
  . obtain⟨i,hi,rfl⟩:=xA.1 hq;exact (hY i (zB.1 hi)).2.2.2
open Go.Joins in
theorem bi1{b0:Nat}{v:Value}{d:DataW H}{p:List MemPlace}(hv:Value.okWide prog W r b0 30 v)(h:DataW.Trod enc prog W base (fun _=>true) held 30 v d p):
 ∃(M:SMach)(an af ax ap aS:Option Addr)(cn cf cx cp cs:Nat),v=machV an af ax ap aS M cn cf cx cp cs/\RMach W an af ax ap aS cn cf cx cp cs M/\FitsM M/\∀n∈M.ns,(Lit.int .i64 n.c.kind).wf=true:=by
 obtain⟨cs,rfl,hsz⟩:=okWide_struct underlying30 hv;obtain⟨fuel,hf⟩:=h;have h5:prog.cellsOf 30 = 5:=qQ;have hlen:cs.toList.length=5:=by rw[zF];exact hsz.trans h5
 obtain⟨l⟩:=cs;obtain⟨v0,v1,v2,v3,v4,e⟩:=bG4 hlen;simp only at e;subst e;obtain⟨k,y0,y1,y2,y3,y4,g0,g1,g2,g3,g4⟩:=aG5 underlying30 rfl rfl rfl rfl rfl qQ qQ qQ qQ qQ (show DataW.trod enc prog W base (fun _=>true) held fuel 30 [v0,v1,v2,v3,v4]=_ from hf);obtain⟨xs,k2,_,_,_,hxl,hg⟩:=zk underlying24 g0
 match xs,hxl with
 | [z0],_=>have m0:=hg 0 _ rfl;simp at m0;obtain⟨ns,hns,hfn,hkn⟩:=at6 m0;obtain⟨fs,hfs,hff,_⟩:=av0 g1;obtain⟨ps,hps⟩:=aT6 g2;obtain⟨qs,hqs,hqw⟩:=aT7 g3;obtain⟨sk,aS,cS,rfl,hsk,_⟩:=ap9 underlying28 underlying5 qQ g4;obtain⟨an,cn,rfl,_,_⟩:=hns.shape;obtain⟨af,cf,rfl,k3⟩:=id hfs;obtain⟨ax,cx,rfl,k4⟩:=id hps;obtain⟨ap,cp,rfl,k5⟩:=id hqs;exact⟨⟨ns,fs,ps,qs,sk⟩,an,af,ax,ap,aS,cn,cf,cx,cp,cS,rfl,⟨hns,hfs,hps,hqs,hsk⟩,⟨hfn,hff,hqw⟩,hkn⟩
end Go.Proofs.YtmejdflmcikkdaaGreatDoor
namespace Go.Proofs.YtmejdflmcikkdaaGreatDoor
open Go.RowKit Go.Gs Go.ChangeShapes Go.WideShapes Go.ChangeAt Tryz
variable {P:Program} {H:Type} {enc:TypeId × Value->H} {W:World} {base:Nat} {held:Bool} {fuel:Nat} {x:DataW H × List MemPlace} {t e:TypeId} {a:Option Addr} {len cap:Nat}
variable {fs:Array Field}{f:Field}{r:Go.Reach}
def av2(P:Program)(t:TypeId)(d:DataW H):Prop:=∀n∈d.weights P t,n<=reachBytes
theorem aZ9{ts:List TypeId}{ds:List (DataW H)}{d:DataW H}{j:Nat}(hsz:(DataW.weightsEach P ts ds).all (· <= reachBytes)=true)(hts:ts[j]?=some t)(hds:ds[j]?=some d):av2 P t d:=fun n hn=>by
 have h4:=zw.1 hsz _ (DataW.weights_mem_each hts hds _ hn)
 simpa using h4
theorem R7(ht:P.underlying t=some (.slice e))(hf:DataW.trod enc P W base (fun _=>true) held fuel t [.slice a len cap]=some x)(hl:av2 P t x.1):
 len*P.bytesOf e<=reachBytes/\∀i,i<len->∀b off,a=some ⟨b,off,none⟩->∃cs' k y,cs'.length=P.cellsOf e/\(∀j,j<P.cellsOf e->W.cell? ⟨b,off+i*P.cellsOf e+j,none⟩=cs'[j]?)/\DataW.trod enc P W base (fun _=>true) held k e cs'=some y/\av2 P e y.1:=by
 rcases Deep.open_slice ht hf with⟨h0,_⟩|⟨ad,l,c,m,n,D,Pl,hcs,hb,hle,hm,hmm,hx,An⟩
 . simp at h0;obtain⟨rfl,rfl,rfl⟩:=h0;exact⟨by simp,fun i hi=>absurd hi qO⟩
 .
  simp at hcs;obtain⟨rfl,rfl,rfl⟩:=hcs;have hlm:len<=m:=by rw[hmm];split <;> omega
  rw[hx]at hl;unfold av2 at hl;simp only[DataW.weights,ht]at hl;refine⟨?_,fun i hi b off hab=>?_⟩
  . have:=hl _ (List.mem_cons_self ..);simp only[qS,List.length_range]at this;exact qc (Nat.mul_le_mul qO (qA _)) this
  . obtain⟨cs',h1,h2⟩:=An i qO;obtain⟨_,hlen,Ac⟩:=World.cells?_some h1;injection hab with hab;subst hab;refine⟨cs',n,(D i,Pl i),hlen,fun j hj=>?_,h2,fun n' hn'=>hl n' ?_⟩
    . rw[<- Ac j hj,Deep.add_add,addP,zK]
    . refine List.mem_cons_of_mem _ (List.mem_append_left _ (aH4 (d:=D i) ?_ _ hn'));exact xA.2 ⟨i,zB.2 hi,rfl⟩
theorem I6{j:Nat}{cs:List Value}{v:Value}(ht:P.underlying t=some (.struct fs))(hf:DataW.trod enc P W base (fun _=>true) held fuel t cs=some x)(hl:av2 P t x.1)(hj:fs[j]?=some f)(hc:P.cellsOf f.type=1)(hv:cs[f.offset]?=some v):
 ∃k y,DataW.trod enc P W base (fun _=>true) held k f.type [v]=some y/\av2 P f.type y.1:=by
 obtain⟨xs,k,_,rfl,_,hxl,hg⟩:=zk ht hf;have h0:=hg j f hj;have ho:=(gSm hv);have e1:(cs.drop f.offset).take (P.cellsOf f.type)=[v]:=by rw[hc,qt ho.1,ho.2];rfl
 rw[e1]at h0;have hjl:=(aSm hj).1;obtain⟨y,hy⟩:∃y,xs[j]?=some y:=⟨_,gEl (by rw[hxl];exact hjl)⟩;rw[hy]at h0;refine⟨k,y,h0,fun n hn=>hl n ?_⟩;simp only[DataW.weights,ht];exact DataW.weights_mem_each (ts:=fs.toList.map (·.type)) (j:=j) (t:=f.type) (d:=y.1) (by rw[qa,xH,hj];rfl) (by rw[qa,hy];rfl) n hn
theorem ad9{n:Nat}(h:n<=reachBytes):n<=140737488355328:=by unfold reachBytes at h;omega
theorem af8(hf:DataW.trod enc prog W base (fun _=>true) held fuel 28 [.slice a len cap]=some x)(hl:av2 prog 28 x.1):len<=140737488355328:=by have h:=(R7 underlying28 hf hl).1;rw[show prog.bytesOf 5 = 1 by kernel_rfl,zI]at h;exact ad9 h
theorem aG6{bss:qL}(hf:DataW.trod enc prog W base (fun _=>true) held fuel 62 [.slice a len cap]=some x)(hl:av2 prog 62 x.1)(hr:RList W (.slice a len cap) U bss)(hn:len=bss.length):bss.length*24<=140737488355328/\∀b∈bss,b.length<=140737488355328:=by
 obtain⟨h1,h2⟩:=R7 underlying62 hf hl;rw[show prog.bytesOf 28 = 24 by kernel_rfl]at h1;rw[show prog.cellsOf 28 = 1 by kernel_rfl]at h2;refine⟨by rw[<- hn];exact ad9 h1,fun b hb=>?_⟩;obtain⟨i,hi⟩:=qw hb;have hil:=(gSm hi).1;obtain⟨g,off,au,cu,e1,hc,_⟩:=hr.at hi;obtain⟨cs',k,y,hlen,Ac,hd,hL⟩:=h2 i qO g off e1;have h3:=Ac 0 qO;rw[zI,Nat.add_zero,hc]at h3
 match cs',hlen with
 | [v],_=>simp only[qq,qe]at h3;subst h3;exact af8 hd hL
theorem bi2{M:SMach}{an af ax ap aS:Option Addr}{cn cf cx cp cs:Nat}{d:DataW H}{p:List MemPlace}(h:DataW.Trod enc prog W base (fun _=>true) held 30 (machV an af ax ap aS M cn cf cx cp cs) d p)(hL:av2 prog 30 d)(hM:RMach W an af ax ap aS cn cf cx cp cs M):SizeM M:=by
 obtain⟨fuel,hf⟩:=h;have hf':DataW.trod enc prog W base (fun _=>true) held fuel 30 [.slice an M.ns.length cn,.slice af M.fs.length cf,.slice ax M.pipes.length cx,.slice ap M.ps.length cp,.slice aS M.sunk.length cs]=some (d,p):=hf;obtain⟨k0,y0,g0,l0⟩:=I6 (j:=0) underlying30 hf' hL rfl qQ rfl;obtain⟨k1,y1,g1,l1⟩:=I6 (j:=1) underlying30 hf' hL rfl qQ rfl;obtain⟨k2,y2,g2,l2⟩:=I6 (j:=2) underlying30 hf' hL rfl qQ rfl;obtain⟨k3,y3,g3,l3⟩:=I6 (j:=3) underlying30 hf' hL rfl qQ rfl;obtain⟨k4,y4,g4,l4⟩:=I6 (j:=4) underlying30 hf' hL rfl qQ rfl;obtain⟨k5,y5,g5,l5⟩:=I6 (j:=0) underlying24 g0 l0 rfl qQ rfl;obtain⟨n1,n2⟩:=R7 underlying22 g5 l5;obtain⟨f1,f2⟩:=R7 underlying25 g1 l1;obtain⟨x1,x2⟩:=R7 underlying26 g2 l2;obtain⟨p1,p2⟩:=R7 underlying27 g3 l3;rw[show prog.bytesOf 57 = 96 by kernel_rfl]at n1;rw[show prog.bytesOf 59 = 40 by kernel_rfl]at f1;rw[show prog.bytesOf 61 = 40 by kernel_rfl]at x1;rw[show prog.bytesOf 64 = 64 by kernel_rfl]at p1;rw[show prog.cellsOf 57 = 8 by kernel_rfl]at n2;rw[show prog.cellsOf 59 = 2 by kernel_rfl]at f2;rw[show prog.cellsOf 61 = 4 by kernel_rfl]at x2;rw[show prog.cellsOf 64 = 5 by kernel_rfl]at p2;have Qn:∀q∈M.ps,(q.got.length*24<=140737488355328/\∀b∈q.got,b.length<=140737488355328)/\(q.out.length*24<=140737488355328/\∀b∈q.out,b.length<=140737488355328):=fun q hq=>by
  obtain⟨i,hi⟩:=qw hq;obtain⟨g,off,ag,cg,ab,cb,e1,hc0,_,hc2,_,_,hR1,hR2⟩:=hM.procs.at hi;obtain⟨cs',k,y,hlen,Ac,hd,hl⟩:=p2 i (gSm hi).1 g off e1;have e0:cs'[0]?=some (.slice ag q.got.length cg):=by rw[<- Ac 0 qO];exact hc0
  have e2:cs'[2]?=some (.slice ab q.out.length cb):=by rw[<- Ac 2 qO];exact hc2
  obtain⟨j1,z1,b1,c1⟩:=I6 (j:=0) underlying64 hd hl rfl qQ e0;obtain⟨j2,z2,b2,c2⟩:=I6 (j:=2) underlying64 hd hl rfl qQ e2;exact⟨aG6 b1 c1 hR1 rfl,aG6 b2 c2 hR2 rfl⟩
 refine⟨ad9 n1,fun q hq=>?_,ad9 f1,fun q hq=>?_,ad9 x1,fun q hq=>?_,ad9 p1,fun q hq=>(Qn q hq).1,fun q hq=>(Qn q hq).2,af8 g4 l4⟩
 . obtain⟨i,hi⟩:=qw hq;obtain⟨g,off,ai,ci,e1,hNA,_⟩:=hM.nodes.at hi;obtain⟨_,_,_,_,_,_,_,c7⟩:=hNA;obtain⟨cs',k,y,hlen,Ac,hd,hl⟩:=n2 i (gSm hi).1 g off e1;have e7:cs'[7]?=some (.slice ai q.ins.length ci):=by rw[<- Ac 7 qO];exact c7
   obtain⟨j1,z1,b1,c1⟩:=I6 (j:=5) underlying57 hd hl rfl qQ e7;have h9:=(R7 underlying55 b1 c1).1;rw[show prog.bytesOf 74 = 16 by kernel_rfl]at h9;exact ad9 h9
 . obtain⟨i,hi⟩:=qw hq;obtain⟨g,off,ab,cb,e1,_,hc1,_⟩:=hM.files.at hi;obtain⟨cs',k,y,hlen,Ac,hd,hl⟩:=f2 i (gSm hi).1 g off e1;have e7:cs'[1]?=some (.slice ab q.b.length cb):=by rw[<- Ac 1 qO];exact hc1
   obtain⟨j1,z1,b1,c1⟩:=I6 (j:=1) underlying59 hd hl rfl qQ e7;rw[zI];exact af8 b1 c1
 . obtain⟨i,hi⟩:=qw hq;obtain⟨g,off,ab,cb,e1,hc0,_⟩:=hM.pipes.at hi;obtain⟨cs',k,y,hlen,Ac,hd,hl⟩:=x2 i (gSm hi).1 g off e1;have e7:cs'[0]?=some (.slice ab q.b.length cb):=by rw[<- Ac 0 qO];exact hc0
   obtain⟨j1,z1,b1,c1⟩:=I6 (j:=0) underlying61 hd hl rfl qQ e7;rw[zI];exact af8 b1 c1
open Go.Joins in
theorem av3{b0:Nat}{v:Value}{d:DataW H}{p:List MemPlace}(hv:Value.okWide prog W r b0 30 v)(h:DataW.Trod enc prog W base (fun _=>true) held 30 v d p)(hL:av2 prog 30 d):
 ∃(M:SMach)(an af ax ap aS:Option Addr)(cn cf cx cp cs:Nat),v=machV an af ax ap aS M cn cf cx cp cs/\RMach W an af ax ap aS cn cf cx cp cs M/\FitsM M/\(∀n∈M.ns,(Lit.int .i64 n.c.kind).wf=true)/\SizeM M:=by obtain⟨M,an,af,ax,ap,aS,cn,cf,cx,cp,cs,rfl,h1,h2,h3⟩:=bi1 hv h;exact⟨M,an,af,ax,ap,aS,cn,cf,cx,cp,cs,rfl,h1,h2,h3,bi2 h hL h1⟩
end Go.Proofs.YtmejdflmcikkdaaGreatDoor
