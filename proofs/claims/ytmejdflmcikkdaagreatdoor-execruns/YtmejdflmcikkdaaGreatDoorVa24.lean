/- The law ExecSteps, and more. -/
import Derived.Test.YtmejdflmcikkdaaGreatDoorVAb
import Derived.Lib.IndexBytes
import Derived.Lib.IndexLaws
import Derived.Shelf.Strings.SlTrimAscii
import Derived.Carry
import Derived.Test.YtmejdflmcikkdaaGreatDoorVa08
import Derived.Test.YtmejdflmcikkdaaGreatDoorVa23
set_option linter.all false
set_option maxRecDepth 100000
set_option maxHeartbeats 64000000
namespace Go.Proofs.YtmejdflmcikkdaaGreatDoor
open Go.RowKit Go.Gs Go.Maps Tryz
variable {W w wr:World}{b D cn k:Nat}{a0 a1 a2 a3 a4:Value}{O:qW}{sS:Sl}{X:List Sl}{P:List PSlot}{ns:List SNode}{an:Option Addr}{L:List (Int × Int)}{p:Int × Int}{m:Int}
def MB(W:World)(b:Nat)(a0 a1 a2 a3 a4:Value):Prop:=W.heap[b]?=some (.cells #[a0,a1,a2,a3,a4] 30 (0,0))
theorem MB.below{W':World}(h:MB W b a0 a1 a2 a3 a4)(hb:Bq W W'):MB W' b a0 a1 a2 a3 a4:=qK hb h
theorem MB.cells(h:MB W b a0 a1 a2 a3 a4):W.cell? ⟨b,0,none⟩=some a0/\W.cell? ⟨b,1,none⟩=some a1/\W.cell? ⟨b,2,none⟩=some a2/\W.cell? ⟨b,3,none⟩=some a3/\W.cell? ⟨b,4,none⟩=some a4:=by obtain⟨h0,h1,h2,h3,h4,_⟩:=i8 h;exact⟨h0,h1,h2,h3,h4⟩
theorem MB.new:MB (W.alloc (.cells #[a0,a1,a2,a3,a4] 30)) W.heap.size a0 a1 a2 a3 a4:=qJ _ _
theorem ar4{r:Nat}{M:SMach}(h:RefA NoG w D r O M):∃a0 a1 a2 a3 a4 c0 c1 c2 c3 c4,MB w r (.slice a0 M.ns.length c0) (.slice a1 M.fs.length c1) (.slice a2 M.pipes.length c2) (.slice a3 M.ps.length c3) (.slice a4 M.sunk.length c4)/\RMach w a0 a1 a2 a3 a4 c0 c1 c2 c3 c4 M:=by obtain⟨d,h1,h2,rfl⟩:=h;obtain⟨a0,a1,a2,a3,a4,c0,c1,c2,c3,c4,e0,e1,e2,e3,e4,hR⟩:=h1.mach;refine⟨a0,a1,a2,a3,a4,c0,c1,c2,c3,c4,?_,hR⟩;have:=h1.boxM h2;rw[e0,e1,e2,e3,e4]at this;exact this
theorem bF9{M:SMach}{vN vF vX vP:Value}(h:Raw w D O ⟨M,vN,vF,vX,vP,.slice none 0 0,.bool true,sS,X,P⟩):
 ∃a0 a1 a2 a3 a4 c0 c1 c2 c3 c4,vN=.slice a0 M.ns.length c0/\vF=.slice a1 M.fs.length c1/\vX=.slice a2 M.pipes.length c2/\vP=.slice a3 M.ps.length c3/\sl M.sunk sS=.slice a4 M.sunk.length c4/\RMach (w.alloc (.cells #[.slice a0 M.ns.length c0,.slice a1 M.fs.length c1,.slice a2 M.pipes.length c2,.slice a3 M.ps.length c3,.slice a4 M.sunk.length c4] 30)) a0 a1 a2 a3 a4 c0 c1 c2 c3 c4 M/\∃O',RefA NoG (w.alloc (.cells #[.slice a0 M.ns.length c0,.slice a1 M.fs.length c1,.slice a2 M.pipes.length c2,.slice a3 M.ps.length c3,.slice a4 M.sunk.length c4] 30)) D w.heap.size O' M:=by
 obtain⟨O',hA,_⟩:=cb3 h rfl;obtain⟨a0,a1,a2,a3,a4,c0,c1,c2,c3,c4,hb,hR⟩:=ar4 hA;have hb':MB _ w.heap.size vN vF vX vP (sl M.sunk sS):=qJ w (.cells #[vN,vF,vX,vP,sl M.sunk sS] 30);unfold MB at hb hb';rw[hb]at hb';have e:=qd hb';injection e with e1 _ _;have e2:=congrArg Array.toList e1;simp only[List.cons.injEq,and_true]at e2;obtain⟨e0,e1,e2,e3,e4⟩:=e2;refine⟨a0,a1,a2,a3,a4,c0,c1,c2,c3,c4,e0.symm,e1.symm,e2.symm,e3.symm,e4.symm,?_,O',?_⟩
 . rw[e0,e1,e2,e3,e4];exact hR
 . rw[e0,e1,e2,e3,e4];exact hA
theorem Below.deep{W1 W2:World}(h1:Bq W W1)(h2:Below D W1 W2)(hD:W.heap.size<=D):Bq W W2:=h1.trans (h2.mono hD)
structure PipesAt (w wr:World) (ns:List SNode) (an:Option Addr) (cn k:Nat) (L:List (Int × Int)):Prop where
 bel:Below w.heap.size w wr
 arg:wr.heap[w.heap.size]?=some (.cells #[.slice an ns.length cn] 24 (0,0))
 row:wr.ownsRow w.heap.size 3 1 (.slice (some ⟨w.heap.size+1,0,none⟩) ns.length ns.length) ns.length (K7 ns k++List.replicate (ns.length-k) (.int .i64 0))
 box:wr.heap[w.heap.size+2]?=some (.cells #[.slice (some ⟨w.heap.size+1,0,none⟩) ns.length ns.length] 45 (0,0))
 map:∃n,n<=L.length/\J8 wr (w.heap.size+3) n (ab0 L)
 size:w.heap.size+4<=wr.heap.size
theorem PipesAt.below{w':World}(h:PipesAt w wr ns an cn k L)(hb:Bq wr w'):PipesAt w w' ns an cn k L:=by have hs:=h.size;obtain⟨n,h1,h2⟩:=h.map;exact⟨h.bel.trans (hb.mono h.bel.size),(hb.block _ qO).trans h.arg,j5 h.row (fun g hg=>hb.block g (h.row.lt g hg).2),(hb.block _ qO).trans h.box,⟨n,h1,h2.keep (hb.block _ qO)⟩,by have:=hb.size;omega⟩
theorem PipesAt.first(h:PipesAt w wr ns an cn k L)(hk:k<ns.length):PipesAt w (wr.setCell ⟨w.heap.size+1,k,none⟩ (.int .i64 (Gs.f9 ns k:Int))) ns an cn (k+1) L:=by
 obtain⟨n,h1,h2⟩:=h.map;have hne:∀g,g≠w.heap.size+1->(wr.setCell ⟨w.heap.size+1,k,none⟩ (.int .i64 (Gs.f9 ns k:Int))).heap[g]?=wr.heap[g]?:=fun g hg=>Below.heap_setCell _ _ _ _ hg;refine⟨h.bel.setCell (by simp) _,(hne _ qO).trans h.arg,?_,(hne _ qO).trans h.box,⟨n,h1,h2.keep (hne _ qO)⟩,by simpa using h.size⟩;have e:K7 ns (k+1)++List.replicate (ns.length-(k+1)) (Value.int .i64 0)=(K7 ns k++List.replicate (ns.length-k) (Value.int .i64 0)).set k (.int .i64 (Gs.f9 ns k:Int)):=by
  have hl:(K7 ns k).length=k:=by simp[K7]
  rw[zG _ _ qO,hl,xt,as8,show ns.length-k=(ns.length-(k+1))+1 by omega,List.replicate_succ,List.set_cons_zero,zQ];rfl
 rw[e];exact O6 h.row k qO _
theorem PipesAt.port(h:PipesAt w wr ns an cn k L)(hL:L.length<=1000)(hp:WfP p)(Hz:p∉L)(hm:m=(L.length:Int)):
 ∃w',(Instr.mapUpdate 69 (.map (some (w.heap.size+3))) (ah3 p) (.int .i64 m)).run prog wr=.ok () w'/\PipesAt w w' ns an cn k (L++[p])/\∀g,g<wr.heap.size->g≠w.heap.size+3->w'.heap[g]?=wr.heap[g]?:=by obtain⟨n,h1,h2⟩:=h.map;have hs:=h.size;obtain⟨w',Ae,Lp,hg⟩:=bE7 h2 h1 hL hp Hz hm;have hk:∀g,g<wr.heap.size->g≠w.heap.size+3->w'.heap[g]?=wr.heap[g]?:=fun g hgs ho=>hg.block g hgs (fun e=>ho (by injection e));refine⟨w',Ae,⟨h.bel.grown hg h.bel.size (fun g e=>by injection e with e;omega),(hk _ qO qO).trans h.arg,j5 h.row (fun g hg'=>hk g (h.row.lt g hg').2 (fun e=>aL8 h2 h.row (by rw[hg',e]))),(hk _ qO qO).trans h.box,⟨n+1,by simp;omega,Lp⟩,by have:=hg.size;omega⟩,hk⟩
theorem bq3(an:Option Addr)(cn:Nat)(ns:List SNode)(w:World)(h:y8 w (.slice an ns.length cn) ns)(hg:RightG ns)(Ad:∀n∈ns,G8 n):
 Calls prog 48 #[.agg #[.slice an ns.length cn]] w fun e w'=>e=.returned (.tuple #[.func (.func 79) #[] #[.pointer (some ⟨w.heap.size+2,0,none⟩)],.map (some (w.heap.size+3))])/\PipesAt w w' ns an cn ns.length (b8 ns):=by
 obtain⟨i0,hi,hi0,hi1,hi2⟩:=info_parts bm4;have hnl:=M5 h;have h60:=hg.le60;have HG:=qH hg;have Gl:=qH Ad;have HI5:=qH (show ∀n∈ns,n.ins.length<=5 from fun n hn=>(A1 (hg.node n hn)).1)
 have H3:=qH (show ∀k,k<=ns.length->Gs.f9 ns k<=k*5 from fun k hk=>by
  induction k with
  | zero=>rw[ab7];omega
  | succ k ih=>
   obtain⟨n,hn⟩:∃n,ns[k]?=some n:=⟨_,gEl qO⟩
   rw[W7 hn]
   have:=ih qO
   have:=(A1 (hg.node n (mGt hn))).1
   omega)
 have HRN:=qH (show ∀V,Bq w V->y8 V (.slice an ns.length cn) ns from fun V hV=>h.below hV);have hmk:∀(W:World),(Instr.makeSlice 45 (.int .i64 (ns.length:Int)) (.int .i64 (ns.length:Int))).run prog W=.ok (.slice (some ⟨W.heap.size,0,none⟩) ns.length ns.length) (W.alloc (.cells (madeCells (Value.int .i64 0).cells ns.length) 3)):=fun W=>by have:=run_makeSlice (P:=prog) W 45 3 i0 (.int .i64 0) underlying45 hi hi0 .i64 .i64 (ns.length:Int) (ns.length:Int) qO qO (by rw[hi1];omega) (by rw[hi2];omega) qO;rw[hi1,qh,zI]at this;exact this
 have hmm:=@run_makeMap prog;obtain⟨N,hN⟩:=qE ns.length;obtain⟨W0,hW0⟩:=qE ((((w.alloc (.cells #[.slice an N cn] 24)).alloc (.cells (madeCells #[Value.int .i64 0] N) 3)).alloc (.cells #[.slice (some ⟨w.heap.size+1,0,none⟩) N N] 45)).alloc (.map #[] 0))
 have HST:=qH (show PipesAt w W0 ns an cn 0 (b8 (ns.take 0)) from by
  obtain⟨w1,hw1⟩:=qE (w.alloc (.cells #[.slice an N cn] 24))
  obtain⟨w2,hw2⟩:=qE (w1.alloc (.cells (madeCells #[Value.int .i64 0] N) 3))
  obtain⟨w3,hw3⟩:=qE (w2.alloc (.cells #[.slice (some ⟨w.heap.size+1,0,none⟩) N N] 45))
  rw[<- hw1,<- hw2,<- hw3]at hW0
  have s1:w1.heap.size=w.heap.size+1:=by rw[hw1];simp
  have s2:w2.heap.size=w.heap.size+2:=by rw[hw2];simp[s1]
  have s3:w3.heap.size=w.heap.size+3:=by rw[hw3];simp[s2]
  have b1:Bq w w1:=by rw[hw1];exact boxE
  have b2:Bq w1 w2:=by rw[hw2];exact boxE
  have b3:Bq w2 w3:=by rw[hw3];exact boxE
  have b4:Bq w3 W0:=by rw[hW0];exact boxE
  have r2:w2.ownsRow w.heap.size 3 1 (.slice (some ⟨w.heap.size+1,0,none⟩) N N) N (List.replicate N (.int .i64 0)):=by
   have e:(madeCells #[Value.int .i64 0] N).toList=List.replicate N (.int .i64 0):=xK _ _
   have h1:=qJ w1 (.cells (madeCells #[Value.int .i64 0] N) 3)
   rw[<- hw2,s1]at h1
   have hl:(madeCells #[Value.int .i64 0] N).size=N:=by rw[<- zF,e];simp
   exact⟨by simp,.inr ⟨w.heap.size+1,N,_,rfl,qO,h1,qA _,by unfold maxLen;omega,qO,by rw[e,qP (by simp)]⟩⟩
  have r4:=j5 r2 (fun g hg=>(b4.block g (by have:=(r2.lt g hg).2;omega)).trans (b3.block g (r2.lt g hg).2))
  refine⟨b1.trans ((b2.trans ((b3.trans (b4.mono b3.size)).mono b2.size)).mono b1.size),?_,?_,?_,⟨0,qM _,?_⟩,by have:=b4.size;rw[hW0];simp;omega⟩
  . rw[b4.block _ qO,b3.block _ qO,b2.block _ qO,hw1,<- hN];exact qJ _ _
  . rw[<- hN]
    exact r4
  . have e:=qJ w2 (.cells #[.slice (some ⟨w.heap.size+1,0,none⟩) N N] 45)
    rw[<- hw3,s2]at e
    rw[b4.block _ qO,<- hN]
    exact e
  . have e:=aV0 w3
    rw[<- hW0,s3]at e
    have e0:ab0 (b8 (ns.take 0))=fun _=>0:=by funext p;simp[ab0,b8]
    rw[e0]
    exact e)
 have HN:=qH hN;rw[<- hN]at hmk hnl h60 H3 HRN ⊢;clear h hg Ad hN;go_enter func48,ntmps48;go_upto_region 4 with fail;rw[<- hW0];clear hW0 hmk hmm;have x0:=qY _ _ 0 _ _ _ HST.o.arg;rw[<- HN.o]at x0;simp only[xX,qq]at x0;go_wp2_with fail;clear x0;go_loopw [5,18] (fun s i wr=>∃k:Nat,k<=N/\i=.int .i64 k/\s=.int .i64 (Gs.f9 ns k:Nat)/\Hid (PipesAt w wr ns an cn k (b8 (ns.take k)))) (fun _ i _=>N-(intOf i).toNat)
 case atStart=>exact⟨0,qM _,rfl,by rw[ab7];rfl,HST⟩
 case round=>
  obtain⟨k,hk,rfl,rfl,hat⟩:=hrel;clear HST;have hfk:=H3.o k hk;by_cases hlt:k<N
  .
   obtain⟨n,hn⟩:∃n,ns[k]?=some n:=⟨_,gEl (by have:=HN.o;omega)⟩;obtain⟨nb,noff,ai,ci,rfl,hNA0,hrp⟩:=(HRN.o w (Below.refl _ _)).at hn;have hNA:=hNA0.below hat.out.bel;clear hNA0;obtain⟨c0,c1,c2,c3,c4,c5,c6,c7⟩:=hNA;have hil:=HI5.o n (mGt hn);have hrl:=S3 hrp;have hs:=hat.out.size;have hbx:=qY _ _ 0 _ _ _ hat.out.box;rw[<- HN.o]at hbx;simp only[xX,qq]at hbx;have fx:=fun o=>((boxE (w:=wr) (o:=o)).cell (bLt wr _ hbx)).trans hbx;have HNk:=qH hn;obtain⟨W1,hW1⟩:=qE (wr.alloc (.cells #[.int .i64 n.kind,.string ⟨n.file.toArray⟩,.int .i64 n.c.kind,.string ⟨n.c.word.toArray⟩,.int .i64 n.c.n,.int .i64 n.how,.int .i64 n.wide,.slice ai n.ins.length ci] 57));have hB1:Bq wr W1:=by rw[hW1];exact boxE
   have hP1:=hat.out.below hB1;have Ap:=hP1.row;have hck:W1.cell? ⟨w.heap.size+1,k,none⟩=some (.int .i64 0):=by
    rw[Ap.cellAt k (by have:=HN.o;omega)];have hl:(K7 ns k).length=k:=by simp[K7]
    rw[qu qO,hl,xt,xP,qF (by have:=HN.o;omega)]
   have hfz:W1.frozen? ⟨w.heap.size+1,k,none⟩=false:=Ap.frozenAt k;have hP2:=hP1.first (by have:=HN.o;omega);have hbn:W1.heap[wr.heap.size]?=some (.cells #[.int .i64 n.kind,.string ⟨n.file.toArray⟩,.int .i64 n.c.kind,.string ⟨n.c.word.toArray⟩,.int .i64 n.c.n,.int .i64 n.how,.int .i64 n.wide,.slice ai n.ins.length ci] 57 (0,0)):=by rw[hW1];exact qJ _ _
   have Df:=qH (show PipesAt w (W1.setCell ⟨w.heap.size+1,k,none⟩ (.int .i64 (Gs.f9 ns k:Int))) ns (some ⟨nb,noff,none⟩) cn (k+1) (b8 (ns.take k)++n.ins.take 0) by simpa using hP2);have HBN:=qH (show (W1.setCell ⟨w.heap.size+1,k,none⟩ (.int .i64 (Gs.f9 ns k:Int))).heap[wr.heap.size]?=some (.cells #[.int .i64 n.kind,.string ⟨n.file.toArray⟩,.int .i64 n.c.kind,.string ⟨n.c.word.toArray⟩,.int .i64 n.c.n,.int .i64 n.how,.int .i64 n.wide,.slice ai n.ins.length ci] 57 (0,0)) from (Below.heap_setCell _ _ _ _ (by show wr.heap.size≠w.heap.size+1;omega)).trans hbn);obtain⟨FI,hFI⟩:=qE (Gs.f9 ns k);have HFI:=qH hFI;obtain⟨IL,hIL⟩:=qE n.ins.length;have HIL:=qH hIL;rw[<- hFI]at Df HBN hfk ⊢;rw[<- hIL]at HBN hil hrl c7 hW1;rw[hW1]at hck hfz;have HRP:=qH (show ∀V,Bq w V->D5 V (.slice ai n.ins.length ci) n.ins from fun V hV=>hrp.below hV);clear hn hrp hat hbx hB1 hP1 Ap hP2 hbn hFI hIL;generalize n.kind=m0,(⟨n.file.toArray⟩:ByteArray)=m1,n.c.kind=m2,(⟨n.c.word.toArray⟩:ByteArray)=m3,n.c.n=m4,n.how=m5,n.wide=m6 at *;go_upto_region 8 with fail;rw[<- hW1];have x7:=qY _ _ 7 _ _ _ HBN.o;simp only[xX,qq,xO]at x7;clear hW1 hck hfz c0 c1 c2 c3 c4 c5 c6 c7 fx;generalize (W1.setCell ⟨w.heap.size+1,k,none⟩ (.int .i64 (FI:Int)))=W2 at *;go_wp2_with fail;clear x7;obtain⟨wo,hwo⟩:=qE wr;subst hwo;go_loopw [30] (fun i wx=>∃j:Nat,j<=IL/\i=.int .i64 j/\Hid (PipesAt w wx ns (some ⟨nb,noff,none⟩) cn (k+1) (b8 (ns.take k)++n.ins.take j))/\Hid (wx.heap[wo.heap.size]?=some (.cells #[.int .i64 m0,.string m1,.int .i64 m2,.string m3,.int .i64 m4,.int .i64 m5,.int .i64 m6,.slice ai IL ci] 57 (0,0)))) (fun i _=>IL-(intOf i).toNat)
   case atStart=>exact⟨0,qM _,rfl,Df,HBN⟩
   case round=>
    obtain⟨j,hj,rfl,hat,hbx⟩:=hrel;clear Df HBN;by_cases Ww:j<IL
    . obtain⟨p,hp⟩:∃p,n.ins[j]?=some p:=⟨_,gEl (by have:=HIL.o;omega)⟩;have Eg:=HRP.o wr hat.out.bel;rw[<- HIL.o]at Eg;obtain⟨pb,poff,e2,p0,p1⟩:=Eg.at hp;subst e2;have Gj:WfP p:=(Gl.o n (mGt HNk.o)).2.2 p (mGt hp);have Hz:p∉b8 (ns.take k)++n.ins.take j:=aP1 HG.o HNk.o hp;have hLl:(b8 (ns.take k)++n.ins.take j).length=FI+j:=by rw[qI,qX,HFI.o];unfold Gs.f9;have:=HIL.o;omega
      have htk:b8 (ns.take k)++n.ins.take j++[p]=b8 (ns.take k)++n.ins.take (j+1):=by rw[zQ,qZ,hp];rfl
      obtain⟨w',Ae,hP',hkp⟩:=(hat.out.below (boxE (o:=.cells #[.int .i64 p.1,.int .i64 p.2] 74))).port (by rw[hLl];omega) Gj Hz (m:=((FI:Int)+(j:Int))) (by rw[hLl];omega);rw[htk]at hP';have hs:=hat.out.size;have hbl:wo.heap.size<wr.heap.size:=(aSm hbx.out).1;have HP':=qH hP';have HB':Hid _:=(hkp _ (by simp;omega) qO).trans ((Below.heap_alloc _ _ _ hbl).trans hbx.out);obtain⟨q1,q2⟩:=p;unfold ah3 at Ae;simp only at p0 p1 Ae;clear hat hbx Eg hp Gj Hz hLl htk hP' hkp;go_wp2_with fail;go_roundw
      case rel=>exact⟨j+1,qO,by go_num,HP',HB'⟩
      case measure=>simp[intOf];omega
    .
     have e5:j=IL:=qO
     have HP5:=qH (show PipesAt w wr ns (some ⟨nb,noff,none⟩) cn (k+1) (b8 (ns.take (k+1))) by
      have h1:=hat.out
      rw[e5,HIL.o,qj]at h1
      rw[af5 HNk.o]
      exact h1)
     have x7:=qY _ _ 7 _ _ _ hbx.out;simp only[xX,qq,xO]at x7;have HF2:=qH (show Gs.f9 ns (k+1)=FI+IL by rw[W7 HNk.o,HFI.o,HIL.o]);clear hat hbx;go_wp2_with fail;go_roundw
     case rel=>exact⟨k+1,qO,by go_num,by rw[HF2.o];go_num,HP5⟩
     case measure=>simp[intOf];omega
  .
   have e6:k=N:=qO
   have Ao:=qH (show PipesAt w wr ns an cn ns.length (b8 ns) by
    have h1:=hat.out
    rw[e6,HN.o,qj]at h1
    exact h1)
   clear hat;go_wp2_with fail;go_ret2;exact⟨rfl,by rw[HN.o];exact Ao.o⟩
theorem cf5(b4 g c N i:Nat)(pos fi:Int)(w:World)(h:w.cell? ⟨b4,0,none⟩=some (.slice (some ⟨g,0,none⟩) N c))(hc:w.cell? ⟨g,i,none⟩=some (.int .i64 fi))(hi:i<N)(hN:N<=60)(h1:0<=fi/\fi<=1000)(h2:0<=pos/\pos<=1000):
 Calls prog 79 #[.int .i64 i,.int .i64 pos,.pointer (some ⟨b4,0,none⟩)] w fun e w'=>e=.returned (.int .i64 (fi+pos))/\w'=w:=by go_enter func79,ntmps79;go_wp2_with fail;go_ret;exact⟨by go_num,rfl⟩
end Go.Proofs.YtmejdflmcikkdaaGreatDoor
namespace Go.Gs
open Go.RowKit
def pieces(cur:qU):qU->qL
 | []=>[cur]
 | c::r=>if c=10 then cur::pieces [] r else pieces (cur++[c]) r
theorem bq4(s:qU):∀cur,(10:UInt8)∉s->pieces cur s=[cur++s]:=by
 induction s with
 | nil=>intro cur _;simp[pieces]
 | cons c s ih=>intro cur h;simp only[zD,not_or]at h;rw[pieces,qB (fun e=>h.1 e.symm),ih _ h.2];simp
theorem bq5(s:qU):∀(cur r:qU),(10:UInt8)∉s->pieces cur (s++10::r)=(cur++s)::pieces [] r:=by
 induction s with
 | nil=>intro cur r _;simp[pieces]
 | cons c s ih=>intro cur r h;simp only[zD,not_or]at h;rw[zY,pieces,qB (fun e=>h.1 e.symm),ih _ _ h.2];simp
theorem ac5(s:qU):∀cur,pieces cur s≠[]:=by
 induction s with
 | nil=>intro cur;simp[pieces]
 | cons c s ih=>intro cur;unfold pieces;split;simp;exact ih _
theorem bg4(s:qU):∀cur,A2 cur s=if (pieces cur s).getLast (ac5 s cur)=[] then (pieces cur s).dropLast else pieces cur s:=by
 induction s with
 | nil=>intro cur;simp[pieces,A2]
 | cons c s ih=>
  intro cur;by_cases hc:c=10
  . have e:pieces cur (c::s)=cur::pieces [] s:=by rw[pieces,qF hc]
    have el:A2 cur (c::s)=cur::A2 [] s:=by rw[A2,qF hc]
    simp only[e,el];rw[List.getLast_cons (ac5 s []),List.dropLast_cons_of_ne_nil (ac5 s []),ih []];split <;> rfl
  . have e:pieces cur (c::s)=pieces (cur++[c]) s:=by rw[pieces,qB hc]
    have el:A2 cur (c::s)=A2 (cur++[c]) s:=by rw[A2,qB hc]
    simp only[e,el];exact ih _
theorem aS8:∀(k:Nat)(s:qU),s.count 10=k->Lib.splitK [10] 0 k s=pieces [] s:=by
 intro k
 induction k with
 | zero=>intro s h;have hn:(10:UInt8)∉s:=List.count_eq_zero.1 h;rw[bq4 s [] hn];rfl
 | succ k ih=>
  intro s h;have hm:(10:UInt8)∈s:=List.count_pos_iff.1 qO;unfold Lib.splitK;rw[Lib.index_one];have hge:=Lib.indexByte_ge s 10;by_cases hi:Lib.indexByte s 10 = -1
  . exfalso;obtain⟨j,hj⟩:=List.mem_iff_getElem?.1 hm;exact Lib.indexByte_none hi j hj
  .
   obtain⟨i,hii⟩:=qm (show 0<=Lib.indexByte s 10 by omega);obtain⟨hs,Wx⟩:=Lib.indexByte_some hii;have hb:(Lib.indexByte s 10 == -1)=false:=by simp[hi]
   rw[hb,hii];simp only[zy,if_false,Nat.add_zero,ql,xI,qk];show s.take ((i:Int).toNat)::Lib.splitK [10] 0 k (s.drop ((i:Int).toNat+1))=_;rw[qh];obtain⟨hlt,hsi⟩:=gSm hs;have hcut:s=s.take i++10::s.drop (i+1):=by conv=>lhs;rw[<- xU i s,qt hlt,hsi]
   have hno:(10:UInt8)∉s.take i:=by
    intro hmem;obtain⟨j,hj⟩:=List.mem_iff_getElem?.1 hmem;rw[xg]at hj;split at hj
    . exact Wx j qO hj
    . cases hj
   have Bv:(s.drop (i+1)).count 10=k:=by rw[hcut,List.count_append,List.count_cons_self,List.count_eq_zero.2 hno]at h;omega
   rw[ih _ Bv];conv=>rhs;rw[hcut,bq5 _ _ _ hno]
   simp
theorem aP3(ls:qL)(h:ls≠[]):Lib.join ls [10]++[10]=ended ls:=by
 cases ls with
 | nil=>exact absurd rfl h
 | cons x r=>
  rw[Lib.join_cons];clear h
  induction r generalizing x with
  | nil=>simp[Lib.joinTail,ended]
  | cons y r ih=>have:=ih y;rw[F8,<- this];simp[Lib.joinTail]
end Go.Gs
namespace Go.Proofs.YtmejdflmcikkdaaGreatDoor
open Go.RowKit Go.Gs Tryz
variable {w w1 w2:World}{o:Obj}{t:TypeId}{k:Int}{us:ByteArray}{l:qU}{b n:Nat}{xs:List Value}
theorem aP4(bs:qU)(w:World)(hsh:w.ShapedOpen prog)(hle:bs.length<=225000000):
 Calls prog 87 #[.string ⟨bs.toArray⟩,.string ⟨#[10]⟩] w fun e w'=>
  e=.returned (.slice (some ⟨w.heap.size,0,none⟩) (pieces [] bs).length (pieces [] bs).length)/\w'=w.alloc (.cells ((pieces [] bs).map S).toArray 9):=by
 have Bv:Lib.countB ⟨bs.toArray⟩ ⟨#[10]⟩=bs.count 10:=by show Lib.count _ _=_;exact Lib.count_one 10 bs
 have hp:(Lib.splitB ⟨#[10]⟩ 0 (Lib.countB ⟨bs.toArray⟩ ⟨#[10]⟩) ⟨bs.toArray⟩).map (·.data.toList)=pieces [] bs:=by rw[Lib.splitB_data];exact aS8 _ bs Bv.symm
 have hlen:Lib.countB ⟨bs.toArray⟩ ⟨#[10]⟩+1=(pieces [] bs).length:=by have h1:=Lib.splitB_all ⟨#[10]⟩ (by decide) 0 _ ⟨bs.toArray⟩ rfl;rw[<- hp,qS,h1]
 refine (Tryz.strings_Split_shaped ⟨bs.toArray⟩ ⟨#[10]⟩ w hsh (by simp[ByteArray.size];omega) (by decide)).mono ?_;rintro e w'⟨rfl,rfl⟩;rw[hlen,aU2,hp];exact⟨rfl,rfl⟩
theorem bq6(bs:qU)(x:qU)(hx:(pieces [] bs).getLast (ac5 bs [])=x):(x=[]->lines bs=(pieces [] bs).dropLast)/\(x≠[]->lines bs=pieces [] bs):=by
 have:=bg4 bs [];rw[hx]at this;constructor
 . intro e;rw[qF e]at this;exact this
 . intro e;rw[qB e]at this;exact this
theorem aa3(s:qU):∀cur,(pieces cur s).length<=s.length+1:=by
 induction s with
 | nil=>intro cur;simp[pieces]
 | cons c s ih=>intro cur;unfold pieces;split;simp;exact ih _;have:=ih (cur++[c]);simp;omega
theorem aF9(bs:qU)(w:World)(hsh:w.ShapedOpen prog)(hle:bs.length<=225000000)(P:qL)(hP:pieces [] bs=P)(x:qU)(hx:P[P.length-1]?=some x):
 Calls prog 87 #[.string ⟨bs.toArray⟩,.string ⟨#[10]⟩] w fun e w'=>
  ∃g,e=.returned (.slice (some ⟨g,0,none⟩) P.length P.length)/\w'.cell? ⟨g,P.length-1,none⟩=some (.string ⟨x.toArray⟩) /\
   Reads w' (.slice (some ⟨g,0,none⟩) P.length P.length) P.length (P.map S)/\Bq w w':=by have hpl:=aa3 bs [];rw[hP]at hpl;refine (aP4 bs w hsh hle).mono ?_;rintro e w'⟨rfl,rfl⟩;rw[hP];refine⟨w.heap.size,rfl,?_,by simpa using Y9 w (P.map S).toArray 9 (0,0) P.length (by simp) qO,(Below.refl _ w).alloc (qA _) _⟩;rw[qY _ _ _ _ _ _ (qJ w _)];simp[hx,S]
theorem aA4(v:Value)(bs:qU)(w:World)(hr:Reads w v bs.length (bs.map U))(hsh:w.ShapedOpen prog)(hle:bs.length<=225000000):
 Calls prog 56 #[v] w fun e w'=>∃g cap,e=.returned (.slice (some ⟨g,0,none⟩) (lines bs).length cap) /\
  Reads w' (.slice (some ⟨g,0,none⟩) (lines bs).length cap) (lines bs).length ((lines bs).map S)/\Bq w w':=by
 have Ea:=ah0 hr;have hpn:=ac5 bs [];have hLE:=bq6 bs _ rfl;have As:(pieces [] bs)[(pieces [] bs).length-1]?=some ((pieces [] bs).getLast hpn):=by rw[List.getLast_eq_getElem];exact gEl _
 have hlen0:0<(pieces [] bs).length:=xj.2 hpn;have hlenm:(pieces [] bs).length<=450000000:=by have:=aa3 bs [];omega
 generalize (pieces [] bs).getLast hpn=x at *;generalize hP:pieces [] bs=P at *;have HP:Hid _:=hP;have HL:Hid _:=As;clear hP As hpn;by_cases hx:x=[]
 .
  subst hx;have Hl:Hid _:=hLE.1 rfl;clear hLE;go_enter func56,ntmps56;go_wp2_with fail;refine (aF9 bs _ hsh hle P HP.o _ HL.o).mono ?_;rintro e w1⟨g,rfl,Ac,hrd,Aa⟩;clear Ea;have R:Hid (Reads w1 (.slice (some ⟨g,0,none⟩) (P.length-1) P.length) (lines bs).length ((lines bs).map S)/\(lines bs).length=P.length-1):=by
   have h1:=av7 hrd (show P.length-1<=P.length by omega);have h2:(lines bs).length=P.length-1:=by rw[Hl.o];simp
   refine⟨?_,h2⟩;rw[h2,Hl.o,List.dropLast_eq_take,List.map_take];exact h1
  clear hrd;go_wp2_with fail;go_ret;refine⟨g,P.length,?_,?_,Aa⟩
  . rw[R.o.2];simp
  . rw[R.o.2];have:=R.o.1;rw[R.o.2]at this;exact this
 . have hxe:x.isEmpty=false:=by simp[hx]
   have Hl:Hid _:=hLE.2 hx;clear hLE hx;go_enter func56,ntmps56;go_wp2_with fail;refine (aF9 bs _ hsh hle P HP.o _ HL.o).mono ?_;rintro e w1⟨g,rfl,Ac,hrd,Aa⟩;clear Ea;have R:Hid _:=hrd;clear hrd;go_wp2_with fail;go_ret;rw[<- Hl.o]at R;refine⟨g,_,?_,R.o,Aa⟩;rw[Hl.o];rfl
theorem al5(bs:qU)(w:World)(hsh:w.ShapedOpen prog)(hle:bs.length<=225000000)(P:qL)(hP:pieces [] bs=P)(x:qU)(hx:P[P.length-1]?=some x):
 Calls prog 87 #[.string ⟨bs.toArray⟩,.string ⟨#[10]⟩] w fun e w'=>
  ∃g,e=.returned (.slice (some ⟨g,0,none⟩) P.length P.length)/\w.heap.size<=g/\w'.cell? ⟨g,P.length-1,none⟩=some (.string ⟨x.toArray⟩) /\
   Reads w' (.slice (some ⟨g,0,none⟩) P.length P.length) P.length (P.map S)/\Bq w w':=by have hpl:=aa3 bs [];rw[hP]at hpl;refine (aP4 bs w hsh hle).mono ?_;rintro e w'⟨rfl,rfl⟩;rw[hP];refine⟨w.heap.size,rfl,qA _,?_,by simpa using Y9 w (P.map S).toArray 9 (0,0) P.length (by simp) qO,(Below.refl _ w).alloc (qA _) _⟩;rw[qY _ _ _ _ _ _ (qJ w _)];simp[hx,S]
theorem af6(v:Value)(bs:qU)(w:World)(hr:Reads w v bs.length (bs.map U))(hsh:w.ShapedOpen prog)(hle:bs.length<=225000000):
 Calls prog 56 #[v] w fun e w'=>∃g cap,e=.returned (.slice (some ⟨g,0,none⟩) (lines bs).length cap)/\w.heap.size<=g /\
  Reads w' (.slice (some ⟨g,0,none⟩) (lines bs).length cap) (lines bs).length ((lines bs).map S)/\Bq w w':=by
 have Ea:=ah0 hr;have hpn:=ac5 bs [];have hLE:=bq6 bs _ rfl;have As:(pieces [] bs)[(pieces [] bs).length-1]?=some ((pieces [] bs).getLast hpn):=by rw[List.getLast_eq_getElem];exact gEl _
 have hlen0:0<(pieces [] bs).length:=xj.2 hpn;have hlenm:(pieces [] bs).length<=450000000:=by have:=aa3 bs [];omega
 generalize (pieces [] bs).getLast hpn=x at *;generalize hP:pieces [] bs=P at *;have HP:Hid _:=hP;have HL:Hid _:=As;clear hP As hpn;by_cases hx:x=[]
 .
  subst hx;have Hl:Hid _:=hLE.1 rfl;clear hLE;go_enter func56,ntmps56;go_wp2_with fail;refine (al5 bs _ hsh hle P HP.o _ HL.o).mono ?_;rintro e w1⟨g,rfl,hgn,Ac,hrd,Aa⟩;have HG:Hid _:=hgn;clear hgn;clear Ea;have R:Hid (Reads w1 (.slice (some ⟨g,0,none⟩) (P.length-1) P.length) (lines bs).length ((lines bs).map S)/\(lines bs).length=P.length-1):=by
   have h1:=av7 hrd (show P.length-1<=P.length by omega);have h2:(lines bs).length=P.length-1:=by rw[Hl.o];simp
   refine⟨?_,h2⟩;rw[h2,Hl.o,List.dropLast_eq_take,List.map_take];exact h1
  clear hrd;go_wp2_with fail;go_ret;refine⟨g,P.length,?_,HG.o,?_,Aa⟩
  . rw[R.o.2];simp
  . rw[R.o.2];have:=R.o.1;rw[R.o.2]at this;exact this
 . have hxe:x.isEmpty=false:=by simp[hx]
   have Hl:Hid _:=hLE.2 hx;clear hLE hx;go_enter func56,ntmps56;go_wp2_with fail;refine (al5 bs _ hsh hle P HP.o _ HL.o).mono ?_;rintro e w1⟨g,rfl,hgn,Ac,hrd,Aa⟩;have HG:Hid _:=hgn;clear hgn;clear Ea;have R:Hid _:=hrd;clear hrd;go_wp2_with fail;go_ret;rw[<- Hl.o]at R;refine⟨g,_,?_,HG.o,R.o,Aa⟩;rw[Hl.o];rfl
def cutset:qU:=[97,98,99,100,101,102,103,104,105,106,107,108,109,110,111,112,113,114,115,116,117,118,119,120,121,122,48,49,50,51,52,53,54,55,56,57]
theorem bX1:∀n:Fin 256,cutset.contains (UInt8.ofNat n.val)=I3 (UInt8.ofNat n.val):=by decide +kernel
theorem cf6(c:UInt8):cutset.contains c=I3 c:=by have h:=bX1 ⟨c.toNat,c.toNat_lt⟩;simpa using h
theorem ag6(p:UInt8->Bool)(l:qU):l.dropWhile p=[] ↔ ∀x∈l,p x=true:=by
 induction l with
 | nil=>simp
 | cons y l ih=>
  rw[List.dropWhile_cons];by_cases h:p y=true
  . rw[qF h,ih];simp[h]
  . rw[qB h];simp[h]
theorem aP5(p:UInt8->Bool)(l:qU):∀y r,l.dropWhile p=y::r->p y=false:=by
 induction l with
 | nil=>intro y r h;cases h
 | cons x l ih=>
  intro y r h;rw[List.dropWhile_cons]at h;by_cases hx:p x=true
  . rw[qF hx]at h;exact ih y r h
  . rw[qB hx]at h
    cases h;simpa using hx
theorem bX2(l cs:qU):(Lib.trimS l cs=[]) ↔ l.all (cs.contains ·)=true:=by
 unfold Lib.trimS Lib.trimLeftS Lib.trimRightS;rw[ag6,zw];constructor
 .
  intro h
  cases hd:l.reverse.dropWhile (cs.contains ·) with
  | nil=>rw[ag6]at hd;intro x hx;exact hd x (by simpa using hx)
  | cons y r=>
   have h3:=aP5 _ _ y r hd;have h4:=h y (by rw[hd];simp);rw[h3]at h4
   cases h4
 .
  intro h x hx;have h2:l.reverse.dropWhile (cs.contains ·)=[]:=by rw[ag6];intro y hy;exact h y (by simpa using hy)
  rw[h2]at hx
  cases hx
theorem bX3(s:qU):s.all (cutset.contains ·)=s.all I3:=by congr 1;funext c;exact cf6 c
theorem bO0(s:qU)(w:World)(hsz:s.length<=9223372036854775807):
 Calls prog 78 #[.string ⟨s.toArray⟩,.string ⟨cutset.toArray⟩] w fun e w'=>∃t:qU,e=.returned (.string ⟨t.toArray⟩)/\t.isEmpty=s.all I3/\Bq w w':=by refine (Any.strings_Trim_laid Tryz.lays160 qQ ⟨s.toArray⟩ ⟨cutset.toArray⟩ w (by simpa[ByteArray.size]using hsz) (by decide) (ascii_of_all (by decide))).mono ?_;rintro e w'⟨rfl,hb⟩;refine⟨_,rfl,?_,hb⟩;rw[<- bX3];rw[Bool.eq_iff_iff,xl];exact bX2 s cutset
theorem Z8(s:qU)(w:World)(hsz:s.length<=9223372036854775807)(d:Bool)(hd:isWord s=d):
 Calls prog 45 #[.string ⟨s.toArray⟩] w fun e w'=>e=.returned (.bool d)/\Bq w w':=by
 by_cases h0:0<s.length
 .
  by_cases h12:s.length<=12
  . have hd':s.all I3=d:=by rw[<- hd];simp[isWord,h0,h12]
    have Hd:Hid _:=hd';clear hd hd';go_enter func45,ntmps45;go_wp2_with fail;refine (bO0 s _ hsz).mono ?_;rintro e w'⟨t,rfl,ht,hb⟩;rw[Hd.o]at ht;go_wp2_with fail;go_ret;exact⟨rfl,hb⟩
  . have hd':d=false:=by rw[<- hd];simp[isWord,h12]
    subst hd';clear hd;go_enter func45,ntmps45;go_wp2_with fail;go_ret;exact⟨rfl,Below.refl _ _⟩
 . have hd':d=false:=by rw[<- hd];simp[isWord,h0]
   subst hd';clear hd;go_enter func45,ntmps45;go_wp2_with fail;go_ret;exact⟨rfl,Below.refl _ _⟩
open Go.Maps
theorem ad5:Keyed prog 3:=int_keyed underlying3
theorem cc6(w:World):(zeroValue 9).run prog w=.ok (.string ⟨#[]⟩) w:=qQ
theorem ag7(i:Nat)(h:i<=100):i<maxLen:=by unfold maxLen;omega
theorem wf1:(Lit.int .i64 1).wf=true:=qQ
theorem wf2:(Lit.int .i64 2).wf=true:=qQ
theorem wf3:(Lit.int .i64 3).wf=true:=qQ
theorem wf4:(Lit.int .i64 4).wf=true:=qQ
theorem wf5:(Lit.int .i64 5).wf=true:=qQ
theorem wf6:(Lit.int .i64 6).wf=true:=qQ
theorem wf7:(Lit.int .i64 7).wf=true:=qQ
theorem wf8:(Lit.int .i64 8).wf=true:=qQ
theorem wf9:(Lit.int .i64 9).wf=true:=qQ
theorem wf10:(Lit.int .i64 10).wf=true:=qQ
theorem bg5:plainElem (H:=Unit) prog 9 (.string ⟨#[119]⟩)=some (.lit (.string [119]),[]):=plainElem_string underlying9 (by show 1<=maxLen;unfold maxLen;omega)
theorem bg6:plainElem (H:=Unit) prog 9 (.string ⟨#[110]⟩)=some (.lit (.string [110]),[]):=plainElem_string underlying9 (by show 1<=maxLen;unfold maxLen;omega)
theorem elem45:plainElem (H:=Unit) prog 9 (.string ⟨#[45]⟩)=some (.lit (.string [45]),[]):=plainElem_string underlying9 (by show 1<=maxLen;unfold maxLen;omega)
theorem cg8(w:World)(o:Obj):((w.alloc o).alloc (.map #[] 0)).ownsMap prog 3 (plainElem (H:=Unit) prog 9) (w.heap.size+1) 0 (.map []):=by have:=World.ownsMap_made (w.alloc o) prog 3 (plainElem (H:=Unit) prog 9);simpa using this
theorem bz8{m:Obj}(hg:((w.alloc o).alloc m).grownBy w1 (some (w.heap.size+1))):Below (w.heap.size+1) (w.alloc o) w1:=
 ((Below.refl _ (w.alloc o)).alloc (by simp) m).grown hg (by simp) (fun k hk=>by simp only[qe]at hk;omega)
theorem T0(h:Below (w.heap.size+1) (w.alloc o) w1)(hg:w1.grownBy w2 (some (w.heap.size+1))):Below (w.heap.size+1) (w.alloc o) w2:=
 h.grown hg (by have:=h.size;simpa using this) (fun k hk=>by simp only[qe]at hk;omega)
theorem bO1{a b c:Value}(h:Below (w.heap.size+1) (w.alloc (.cells #[a,b,c] t)) w1):
 w1.cell? ⟨w.heap.size,0,none⟩=some a/\w1.cell? ⟨w.heap.size,1,none⟩=some b/\w1.cell? ⟨w.heap.size,2,none⟩=some c:=by
 refine⟨?_,?_,?_⟩
 all_goals
  rw[h.cell (by simp),qY _ _ _ _ _ _ (qJ w _)];rfl
theorem bO2(h:Below (w.heap.size+1) (w.alloc o) w1):Bq w w1:=
 ((Below.refl _ w).alloc (qA _) o).trans (h.mono qO)
def al6(k:Int):qU:=if uses k=1 then [119] else if uses k=2 then [110] else if uses k=3 then [45] else []
theorem bz9(k:Int):DataW.atKey (DataW.put (DataW.put (DataW.put (DataW.put (DataW.put (DataW.put (DataW.put (DataW.put (DataW.put (DataW.put (.map []:DataW Unit) (.int .i64 1) (.lit (.string [119]))) (.int .i64 2) (.lit (.string [119]))) (.int .i64 3) (.lit (.string [119]))) (.int .i64 4) (.lit (.string [110]))) (.int .i64 5) (.lit (.string [45]))) (.int .i64 6) (.lit (.string [45]))) (.int .i64 7) (.lit (.string [45]))) (.int .i64 8) (.lit (.string [45]))) (.int .i64 9) (.lit (.string [110]))) (.int .i64 10) (.lit (.string [110]))) (.int .i64 k) (.lit (.string []))=.lit (.string (al6 k)):=by
 by_cases hk:1<=k/\k<=10
 . have:k=1\/k=2\/k=3\/k=4\/k=5\/k=6\/k=7\/k=8\/k=9\/k=10:=qO;rcases this with rfl | rfl | rfl | rfl | rfl | rfl | rfl | rfl | rfl | rfl <;> rfl
 .
  have hu:al6 k=[]:=by unfold al6 uses;rw[qB (show ¬(1<=k/\k<=3) by omega),qB (show ¬(k=4\/k=9\/k=10) by omega),qB (show ¬(5<=k/\k<=8) by omega)];rfl
  rw[hu];repeat rw[atKey_put_other (by intro e;injection e with _ e;omega)]
  rfl
theorem cg9(h:DataW.atKey (DataW.put (DataW.put (DataW.put (DataW.put (DataW.put (DataW.put (DataW.put (DataW.put (DataW.put (DataW.put (.map []:DataW Unit) (.int .i64 1) (.lit (.string [119]))) (.int .i64 2) (.lit (.string [119]))) (.int .i64 3) (.lit (.string [119]))) (.int .i64 4) (.lit (.string [110]))) (.int .i64 5) (.lit (.string [45]))) (.int .i64 6) (.lit (.string [45]))) (.int .i64 7) (.lit (.string [45]))) (.int .i64 8) (.lit (.string [45]))) (.int .i64 9) (.lit (.string [110]))) (.int .i64 10) (.lit (.string [110]))) (.int .i64 k) (.lit (.string []))=.lit (.string us.data.toList))(hl:al6 k=l):us=⟨l.toArray⟩:=by rw[bz9,hl]at h;injection h with h;injection h with h;rw[h]
theorem aA5{x y:Value}(h:Bq w1 w2)(h0:w1.cell? ⟨b,0,none⟩=some x)(h1:w1.cell? ⟨b,1,none⟩=some y):w2.cell? ⟨b,0,none⟩=some x/\w2.cell? ⟨b,1,none⟩=some y:=
 ⟨qC h h0,qC h h1⟩
theorem bA0(k:Int):uses k=0\/uses k=1\/uses k=2\/uses k=3:=by
 unfold uses;split
 . exact Or.inr (Or.inl rfl)
 .
  split
  . exact Or.inr (Or.inr (Or.inl rfl))
  . split
    . exact Or.inr (Or.inr (Or.inr rfl))
    . exact Or.inl rfl
theorem aY9(c:Cmd)(w:World)(hkw:(Lit.int .i64 c.kind).wf=true)(hsz:c.word.length<=9223372036854775807):
 Calls prog 46 #[c.v] w fun e w'=>e=.returned (.int .i64 (chk c))/\Bq w w':=by
 have hwe:c.word.isEmpty=true ↔ c.word=[]:=xl;have hmm:=@run_makeMap prog;unfold Cmd.v;go_enter func46,ntmps46;go_upto_region 2 with (first|(refine C7 _ rfl (.tmp 4) (.const (.int .i64 1)) (.const (.string ⟨#[119]⟩)) 125 rfl 3 9 ad5 underlying125 (plainElem prog 9) (w.heap.size+1) 0 _ rfl (cg8 w _) (ag7 0 (by decide)) _ _ (.int .i64 1) rfl rfl (keyOf_int_mk underlying3 wf1) (.lit (.string [119])) [] bg5 ?_;intro w1 ho1 hg1;have hb1:=bz8 hg1;clear hg1)|(refine C7 _ rfl (.tmp 4) (.const (.int .i64 2)) (.const (.string ⟨#[119]⟩)) 125 rfl 3 9 ad5 underlying125 (plainElem prog 9) (w.heap.size+1) 1 _ rfl ho1 (ag7 1 (by decide)) _ _ (.int .i64 2) rfl rfl (keyOf_int_mk underlying3 wf2) (.lit (.string [119])) [] bg5 ?_;intro w2 ho2 hg2;have hb2:=T0 hb1 hg2;clear hg2 ho1 hb1)|(refine C7 _ rfl (.tmp 4) (.const (.int .i64 3)) (.const (.string ⟨#[119]⟩)) 125 rfl 3 9 ad5 underlying125 (plainElem prog 9) (w.heap.size+1) 2 _ rfl ho2 (ag7 2 (by decide)) _ _ (.int .i64 3) rfl rfl (keyOf_int_mk underlying3 wf3) (.lit (.string [119])) [] bg5 ?_;intro w3 ho3 hg3;have hb3:=T0 hb2 hg3;clear hg3 ho2 hb2)|(refine C7 _ rfl (.tmp 4) (.const (.int .i64 4)) (.const (.string ⟨#[110]⟩)) 125 rfl 3 9 ad5 underlying125 (plainElem prog 9) (w.heap.size+1) 3 _ rfl ho3 (ag7 3 (by decide)) _ _ (.int .i64 4) rfl rfl (keyOf_int_mk underlying3 wf4) (.lit (.string [110])) [] bg6 ?_;intro w4 ho4 hg4;have hb4:=T0 hb3 hg4;clear hg4 ho3 hb3)|(refine C7 _ rfl (.tmp 4) (.const (.int .i64 5)) (.const (.string ⟨#[45]⟩)) 125 rfl 3 9 ad5 underlying125 (plainElem prog 9) (w.heap.size+1) 4 _ rfl ho4 (ag7 4 (by decide)) _ _ (.int .i64 5) rfl rfl (keyOf_int_mk underlying3 wf5) (.lit (.string [45])) [] elem45 ?_;intro w5 ho5 hg5;have hb5:=T0 hb4 hg5;clear hg5 ho4 hb4)|(refine C7 _ rfl (.tmp 4) (.const (.int .i64 6)) (.const (.string ⟨#[45]⟩)) 125 rfl 3 9 ad5 underlying125 (plainElem prog 9) (w.heap.size+1) 5 _ rfl ho5 (ag7 5 (by decide)) _ _ (.int .i64 6) rfl rfl (keyOf_int_mk underlying3 wf6) (.lit (.string [45])) [] elem45 ?_;intro w6 ho6 hg6;have hb6:=T0 hb5 hg6;clear hg6 ho5 hb5)|(refine C7 _ rfl (.tmp 4) (.const (.int .i64 7)) (.const (.string ⟨#[45]⟩)) 125 rfl 3 9 ad5 underlying125 (plainElem prog 9) (w.heap.size+1) 6 _ rfl ho6 (ag7 6 (by decide)) _ _ (.int .i64 7) rfl rfl (keyOf_int_mk underlying3 wf7) (.lit (.string [45])) [] elem45 ?_;intro w7 ho7 hg7;have hb7:=T0 hb6 hg7;clear hg7 ho6 hb6)|(refine C7 _ rfl (.tmp 4) (.const (.int .i64 8)) (.const (.string ⟨#[45]⟩)) 125 rfl 3 9 ad5 underlying125 (plainElem prog 9) (w.heap.size+1) 7 _ rfl ho7 (ag7 7 (by decide)) _ _ (.int .i64 8) rfl rfl (keyOf_int_mk underlying3 wf8) (.lit (.string [45])) [] elem45 ?_;intro w8 ho8 hg8;have hb8:=T0 hb7 hg8;clear hg8 ho7 hb7)|(refine C7 _ rfl (.tmp 4) (.const (.int .i64 9)) (.const (.string ⟨#[110]⟩)) 125 rfl 3 9 ad5 underlying125 (plainElem prog 9) (w.heap.size+1) 8 _ rfl ho8 (ag7 8 (by decide)) _ _ (.int .i64 9) rfl rfl (keyOf_int_mk underlying3 wf9) (.lit (.string [110])) [] bg6 ?_;intro w9 ho9 hg9;have hb9:=T0 hb8 hg9;clear hg9 ho8 hb8)|(refine C7 _ rfl (.tmp 4) (.const (.int .i64 10)) (.const (.string ⟨#[110]⟩)) 125 rfl 3 9 ad5 underlying125 (plainElem prog 9) (w.heap.size+1) 9 _ rfl ho9 (ag7 9 (by decide)) _ _ (.int .i64 10) rfl rfl (keyOf_int_mk underlying3 wf10) (.lit (.string [110])) [] bg6 ?_;intro w10 ho10 hg10;have Wy:=T0 hb9 hg10;clear hg10 ho9 hb9;obtain⟨hk0,hk1,hk2⟩:=bO1 Wy;have Ds:Hid _:=bO2 Wy;clear Wy)|(at_lookup;refine ax9 _ rfl (.tmp 5) (.tmp 7) 125 rfl 3 9 ad5 underlying125 underlying9 (cc6 _) (w.heap.size+1) 10 _ rfl ho10 _ _ rfl (keyOf_int_mk underlying3 hkw) ?_;intro us hus;obtain rfl:=cg9 hus rfl;clear hus ho10 hmm hkw));rcases bA0 c.kind with hu | hu | hu | hu
 . have HU:al6 c.kind=[]:=by simp[al6,hu]
   have HV:=qH (show chk c=4 by simp[chk,hu]);rw[HU];clear hwe hu HU;go_wp2_with fail;go_ret;exact⟨by rw[HV.o];rfl,Ds.o⟩
 .
  have HU:al6 c.kind=[119]:=by simp[al6,hu]
  by_cases hn:c.n=0
  .
   have hnb:(c.n != 0)=false:=by simp[hn]
   cases hW:isWord c.word with
   | false=>
    have HV:=qH (show chk c=1 by simp[chk,hu,hn,hW]);rw[HU];clear hwe hu HU hn;go_wp2_with (go_at_call 45;refine (Z8 c.word _ hsz false hW).mono ?_;rintro e w11⟨rfl,Gn⟩;obtain⟨hk3,hk4⟩:=aA5 Gn hk0 hk1;have Kr:Hid _:=Ds.o.trans (Gn.mono Ds.o.size))
    go_ret;exact⟨by rw[HV.o];rfl,Kr.o⟩
   | true=>
    by_cases hk:c.kind=3
    .
     have h3:uses 3=1:=by decide
     have hkb:(c.kind==3)=true:=by simp[hk]
     by_cases h2:c.word.length=2
     . have h2b:((c.word.length:Int) != 2)=false:=by simp[h2]
       have HV:=qH (show chk c=0 by simp[chk,h3,hn,hW,hk,h2]);rw[HU];clear hwe hu HU hn hk h2 h3;go_wp2_with (go_at_call 45;refine (Z8 c.word _ hsz true hW).mono ?_;rintro e w11⟨rfl,Gn⟩;obtain⟨hk3,hk4⟩:=aA5 Gn hk0 hk1;have Kr:Hid _:=Ds.o.trans (Gn.mono Ds.o.size))
       go_ret;exact⟨by rw[HV.o];rfl,Kr.o⟩
     . have h2b:((c.word.length:Int) != 2)=true:=by rw[bne_iff_ne];omega
       have HV:=qH (show chk c=1 by simp[chk,h3,hn,hW,hk,h2]);rw[HU];clear hwe hu HU hn hk h2 h3;go_wp2_with (go_at_call 45;refine (Z8 c.word _ hsz true hW).mono ?_;rintro e w11⟨rfl,Gn⟩;obtain⟨hk3,hk4⟩:=aA5 Gn hk0 hk1;have Kr:Hid _:=Ds.o.trans (Gn.mono Ds.o.size))
       go_ret;exact⟨by rw[HV.o];rfl,Kr.o⟩
    . have hkb:(c.kind==3)=false:=by simp[hk]
      have HV:=qH (show chk c=0 by simp[chk,hu,hn,hW,hk]);rw[HU];clear hwe hu HU hn hk;go_wp2_with (go_at_call 45;refine (Z8 c.word _ hsz true hW).mono ?_;rintro e w11⟨rfl,Gn⟩;obtain⟨hk3,hk4⟩:=aA5 Gn hk0 hk1;have Kr:Hid _:=Ds.o.trans (Gn.mono Ds.o.size))
      go_ret;exact⟨by rw[HV.o];rfl,Kr.o⟩
  . have hnb:(c.n != 0)=true:=by simp[hn]
    have HV:=qH (show chk c=4 by simp[chk,hu,hn]);rw[HU];clear hwe hu HU hn;go_wp2_with fail;go_ret;exact⟨by rw[HV.o];rfl,Ds.o⟩
 .
  have HU:al6 c.kind=[110]:=by simp[al6,hu]
  cases hw:c.word.isEmpty with
  | false=>
   have hne:c.word≠[]:=fun e=>by rw[hwe.2 e]at hw;cases hw
   have HV:=qH (show chk c=4 by simp[chk,hu,hne]);rw[HU];clear hwe hu HU hne;go_wp2_with fail;go_ret;exact⟨by rw[HV.o];rfl,Ds.o⟩
  | true=>
   have he:=hwe.1 hw;by_cases h1:c.n<1
   . have HV:=qH (show chk c=3 by simp[chk,hu,he,h1]);rw[HU];clear hwe hu HU he;go_wp2_with fail;go_ret;exact⟨by rw[HV.o];rfl,Ds.o⟩
   . by_cases h2:1000<c.n
     . have HV:=qH (show chk c=3 by simp[chk,hu,he,h2]);rw[HU];clear hwe hu HU he;go_wp2_with fail;go_ret;exact⟨by rw[HV.o];rfl,Ds.o⟩
     . have HV:=qH (show chk c=0 by simp[chk,hu,he,h1,h2]);rw[HU];clear hwe hu HU he;go_wp2_with fail;go_ret;exact⟨by rw[HV.o];rfl,Ds.o⟩
 .
  have HU:al6 c.kind=[45]:=by simp[al6,hu]
  cases hw:c.word.isEmpty with
  | false=>
   have hne:c.word≠[]:=fun e=>by rw[hwe.2 e]at hw;cases hw
   have HV:=qH (show chk c=4 by simp[chk,hu,hne]);rw[HU];clear hwe hu HU hne;go_wp2_with fail;go_ret;exact⟨by rw[HV.o];rfl,Ds.o⟩
  | true=>
   have he:=hwe.1 hw;by_cases hn:c.n=0
   . have hnb:(c.n != 0)=false:=by simp[hn]
     have HV:=qH (show chk c=0 by simp[chk,hu,he,hn]);rw[HU];clear hwe hu HU he hn;go_wp2_with fail;go_ret;exact⟨by rw[HV.o];rfl,Ds.o⟩
   . have hnb:(c.n != 0)=true:=by simp[hn]
     have HV:=qH (show chk c=4 by simp[chk,hu,he,hn]);rw[HU];clear hwe hu HU he hn;go_wp2_with fail;go_ret;exact⟨by rw[HV.o];rfl,Ds.o⟩
theorem bA1(how:Int)(c:Cmd)(w:World)(hkw:(Lit.int .i64 c.kind).wf=true)(hw:c.word.length<=9223372036854775807):
 Calls prog 47 #[.int .i64 how,c.v] w fun e w'=>e=.returned (.int .i64 (jchk how c))/\Bq w w':=by
 have Ax:=fun W=>aY9 c W hkw hw;have hfu:=@full_of c.word;obtain⟨k,word,n⟩:=c;unfold Cmd.v at Ax ⊢;simp only at Ax hfu ⊢;by_cases hr:how<1\/4<how
 .
  rw[aN6 hr];clear Ax hfu;generalize (⟨word.toArray⟩:ByteArray)=sx at *;rcases hr with hr | hr
  . go_enter func47,ntmps47;go_wp2_with fail;go_ret;exact⟨rfl,g9⟩
  . have hr':¬how<1:=qO;go_enter func47,ntmps47;go_wp2_with fail;go_ret;exact⟨rfl,g9⟩
 .
  by_cases h4:how=4
  . subst h4;rw[aN7];clear hfu;generalize (⟨word.toArray⟩:ByteArray)=sx,chk ⟨k,word,n⟩=r at *;go_enter func47,ntmps47;go_wp2_with fail;refine (Ax _).mono ?_;rintro e w1⟨rfl,hb1⟩;have HB:Hid (Bq w w1):=g9.trans (hb1.mono (by simp));clear hb1 Ax;go_wp2_with fail;go_ret;exact⟨rfl,HB.o⟩
  .
   have h1:¬how<1:=qO;have h2:¬4<how:=qO;have h4':(how==4)=false:=by simpa using h4
   have h4b:(how != 4)=true:=by simpa using h4
   clear Ax hr;by_cases hz:k=0/\word=[]/\n=0
   . obtain⟨rfl,rfl,rfl⟩:=hz;rw[aX2 qO qO ⟨rfl,rfl,rfl⟩];clear hfu;go_enter func47,ntmps47;go_wp2_with fail;go_ret;exact⟨rfl,g9⟩
   .
    rw[aX3 qO qO hz];obtain⟨d,hd⟩:∃d,(⟨word.toArray⟩:ByteArray).toList.isEmpty=d:=⟨_,rfl⟩;have Ed:¬(k=0/\d=true/\n=0):=by
     rintro⟨h1,h2,h3⟩;apply hz;refine⟨h1,?_,h3⟩
     cases word with
     | nil=>rfl
     | cons x r=>rw[hfu (by simp)]at hd;rw[<- hd]at h2;cases h2
    clear hz hfu;generalize (⟨word.toArray⟩:ByteArray)=sx at *;go_enter func47,ntmps47;go_wp2_with fail;all_goals first|(go_ret;exact⟨rfl,g9⟩)|(exfalso;apply Ed;simp_all)
def far(u v:Value):Prop:=∀g,u.ownBlock=some g->v.ownBlock≠some g
theorem af7{w':World}{u v:Value}(h:Reads w u n xs)(hg:w.grownBy w' v.ownBlock)(hf:far u v):Reads w' u n xs:=by obtain⟨h1,ao,cap,rfl,h2,h3,h4⟩:=h;refine⟨h1,ao,cap,rfl,h2,h3,fun hn=>?_⟩;obtain⟨b,off,rfl,hc⟩:=h4 hn;refine⟨b,off,rfl,fun j x hx=>?_⟩;have hcj:=hc j x hx;have hlt:=bLt w _ hcj;rw[<- hcj];exact World.cell?_of_block (hg.block b hlt (fun e=>hf b rfl e.symm))
end Go.Proofs.YtmejdflmcikkdaaGreatDoor
