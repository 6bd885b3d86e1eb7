/- What the developers' add of a draft does, and more. -/
import Derived.Test.YtllgglolcgdehaaGreatDoorSAb
import Derived.Test.YtllgglolcgdehaaGreatDoorSa02
set_option linter.all false
set_option maxRecDepth 100000
set_option maxHeartbeats 16000000
namespace Go.Proofs.YtllgglolcgdehaaGreatDoor
open Go.RowKit Go.Gs Tryz
theorem aD0:(prog.info? 79).map (fun i=>(i.zero,i.size,i.bytes))=some (some (.agg #[.int .i64 0,.int .i64 0]),2,16):=by kernel_rfl
theorem bM8:(prog.info? 73).map (fun i=>(i.zero,i.size,i.bytes))=some (some (.agg #[.int .i64 0,.string ⟨#[]⟩,.int .i64 0,.string ⟨#[]⟩,.int .i64 0,.int .i64 0,.int .i64 0,.slice none 0 0]),8,96):=by kernel_rfl
def A4(ps:List (Int × Int)):List Value:=(ps.map fun p=>[.int .i64 p.1,.int .i64 p.2]).flatten
theorem as8(ps:List (Int × Int)):(A4 ps).length=ps.length*2:=by
 induction ps with
 | nil=>rfl
 | cons p r ih=>
  have:A4 (p::r)=[.int .i64 p.1,.int .i64 p.2]++A4 r:=rfl
  rw[this,qG,ih]
  simp;omega
theorem aD1:∀(ps:List (Int × Int))(j:Nat)(p:Int × Int),ps[j]? = some p->(A4 ps)[j*2]? = some (.int .i64 p.1)/\(A4 ps)[j*2+1]? = some (.int .i64 p.2)
 | [],j,p,h=>by simp at h
 | d::l,0,p,h=>by simp at h;subst h;exact⟨rfl,rfl⟩
 | d::l,j+1,p,h=>by
  have ih:=aD1 l j p (by simpa using h)
  have e:A4 (d::l)=[.int .i64 d.1,.int .i64 d.2]++A4 l:=rfl
  rw[e]
  refine⟨?_,?_⟩
  . rw[qj (by simp;omega)];simpa[show (j+1)*2-2=j*2 by omega]using ih.1
  . rw[qj (by simp;omega)];simpa[show (j+1)*2+1-2=j*2+1 by omega]using ih.2
def aM8(w:World)(B D:Nat)(X:Nat->Prop)(v vo:Value)(rows:List NRow)(r:NRow)(k:Nat)(e:Ending)(w':World):Prop:=
 ∃v' b,e=.returned (.slice (some ⟨b,0,none⟩) k k)/\w'.heap[D]? = some (.cells #[v',vo] 144 (0,0))/\NO w' B D X 73 v' (rows++[r])/\w.heap.size<=b/\v'.ownBlock≠some b /\
  w'.heap[b]? = some (.cells (A4 (l5 rows.length k)).toArray 79 (0,0))/\Kept D v.ownBlock noX w w'/\Nxt w v.ownBlock v'.ownBlock
theorem aU1(m k:Nat):A4 (l5 m (k+1))=A4 (l5 m k)++[.int .i64 (m:Int),.int .i64 (k:Int)]:=by simp[A4,l5,zl]
theorem ck0(cs:List Value)(j:Nat)(a b:Value)(h:j+1<cs.length):((cs.set j a).set (j+1) b).take (j+2)=cs.take j++[a,b]:=by
 apply xX;intro i;rw[xR];by_cases h1:i<j
 . rw[qF (by omega),xU (by omega),xU (by omega),xe (by simp;omega),xR,qF h1]
 .
  by_cases h2:i=j
  . subst h2;rw[qF (by omega),xU (by omega),xy (by omega),qj (by simp;omega)];simp[ql (by omega:i<=cs.length)]
  . by_cases h3:i=j+1
    . subst h3;rw[qF (by omega),xy (by simp;omega),qj (by simp;omega)];simp[ql (by omega:j<=cs.length)]
    . rw[qA (by omega),qm];simp;omega
def PAt(w wr:World)(G N m k:Nat):Prop:=∃cs:List Value,wr.heap[G]? = some (.cells cs.toArray 79 (0,0))/\cs.length=N*2/\cs.take (k*2)=A4 (l5 m k)/\(∀j,j<N*2->∃x,cs[j]? = some (.int .i64 x))/\Bq w wr
theorem PAt.start{w w3:World}{N m:Nat}(ho:w3.ownsRow w.heap.size 79 2 (.slice (some ⟨w.heap.size,0,none⟩) N N) N (madeCells (Value.agg #[.int .i64 0,.int .i64 0]).cells (N*2)).toList)(hg:w.grownBy w3 none):PAt w w3 w.heap.size N m 0/\w.heap.size<w3.heap.size:=by
 obtain⟨h1,h2 | ⟨g,cap,cur,h2,h3,h4,h5,h6,h7,h8⟩⟩:=ho
 . cases h2.1
 .
  injection h2 with e1 e2 e3;injection e1 with e1;injection e1 with e1;subst e1 e3;have hx:cur.toList=(madeCells (Value.agg #[.int .i64 0,.int .i64 0]).cells (N*2)).toList:=by rw[<- h8,qO (by simp[h7])]
  have hlt:w.heap.size<w3.heap.size:=by
   rcases zD w.heap.size w3.heap.size with h | h
   . exact h
   . rw[xE h]at h4;cases h4
  refine⟨⟨cur.toList,by rw[h4],by rw[hx,h1],by simp[A4,l5],fun j hj=>⟨0,?_⟩,be6 hg (qB _)⟩,hlt⟩;rw[hx,xk];unfold madeCells;rw[Array.getElem?_map,Array.getElem?_range];have hm:j % 2=0\/j % 2=1:=by omega
  rcases hm with hm | hm <;> simp[hj,Value.cells,hm]
theorem PAt.cells{w wr:World}{G N m k:Nat}(h:PAt w wr G N m k)(hk:k<N):∃x y,wr.cell? ⟨G,k*2,none⟩=some (.int .i64 x)/\wr.cell? ⟨G,k*2+1,none⟩=some (.int .i64 y)/\wr.frozen? ⟨G,k*2,none⟩=false/\wr.frozen? ⟨G,k*2+1,none⟩=false:=by obtain⟨cs,h1,h2,h3,h4,h5⟩:=h;obtain⟨x,hx⟩:=h4 (k*2) (by omega);obtain⟨y,hy⟩:=h4 (k*2+1) (by omega);exact⟨x,y,by rw[qV _ _ _ _ _ _ h1];simpa using hx,by rw[qV _ _ _ _ _ _ h1];simpa using hy,xK _ _ _ _ _ h1,xK _ _ _ _ _ h1⟩
theorem PAt.step{w wr:World}{G N m k:Nat}(h:PAt w wr G N m k)(hk:k<N)(hG:w.heap.size<=G):PAt w ((wr.setCell ⟨G,k*2,none⟩ (.int .i64 (m:Int))).setCell ⟨G,k*2+1,none⟩ (.int .i64 (k:Int))) G N m (k+1):=by
 obtain⟨cs,h1,h2,h3,h4,h5⟩:=h;have e1:(wr.setCell ⟨G,k*2,none⟩ (.int .i64 (m:Int))).heap[G]? = some (.cells (cs.set (k*2) (.int .i64 (m:Int))).toArray 79 (0,0)):=by rw[xp _ _ _ _ _ _ h1];simp
 refine⟨(cs.set (k*2) (.int .i64 (m:Int))).set (k*2+1) (.int .i64 (k:Int)),by rw[xp _ _ _ _ _ _ e1];simp,by simp[h2],?_,fun j hj=>?_,(h5.setCell hG _).setCell hG _⟩
 . rw[show (k+1)*2=k*2+2 by omega,ck0 cs (k*2) _ _ (by omega),h3,aU1]
 .
  obtain⟨x,hx⟩:=h4 j hj;by_cases e:j=k*2+1
  . exact⟨_,by rw[e,xy (by simp;omega)]⟩
  . rw[xU (by omega)];by_cases e':j=k*2
    . exact⟨_,by rw[e',xy (by omega)]⟩
    . exact⟨x,by rw[xU (by omega)];exact hx⟩
theorem PAt.done{w wr:World}{G N m k:Nat}(h:PAt w wr G N m k)(hk:k=N):wr.heap[G]? = some (.cells (A4 (l5 m N)).toArray 79 (0,0)):=by subst hk;obtain⟨cs,h1,h2,h3,h4,h5⟩:=h;rw[qO (by omega)]at h3;rw[h1,h3]
theorem bA3(w:World)(cs:List Value)(t:TypeId):∀j u,cs[j]? = some u->(w.alloc (.cells cs.toArray t)).cell? ((⟨w.heap.size,0,none⟩:Addr).add j)=some u:=by
 intro j u hj;have e:((⟨w.heap.size,0,none⟩:Addr).add j)=⟨w.heap.size,j,none⟩:=by simp[Addr.add];try omega
 rw[e,qV _ _ _ _ _ _ (qN w _)];simpa using hj
theorem ck1{w w2 wr W w':World}{B D:Nat}{X:Nat->Prop}{v vo v':Value}{rows:List NRow}{r:NRow}{k:Nat}(HD:w.heap[D]? = some (.cells #[v,vo] 144 (0,0)))(hN:NO w B D X 73 v rows)(hP:POff w D v.ownBlock X r.2.1 r.2.2 r.1.ins)
 (h2:w.heap.size<=w2.heap.size) (hw2:w2.heap.size<wr.heap.size) (hbr:Bq w wr) (hbW:Bq wr W) (hp:wr.heap[w2.heap.size]? = some (.cells (A4 (l5 rows.length k)).toArray 79 (0,0)))
 (Ab:w'.ownsRow B 73 8 v' (rows.length+1) (A8 rows++encN r)) (hg:W.grownBy w' v.ownBlock) (hl:v'.ownBlock=v.ownBlock\/v'.ownBlock=some W.heap.size):
 aM8 w B D X v vo rows r k (.returned (.slice (some ⟨w2.heap.size,0,none⟩) k k)) (w'.setCell ⟨D,0,none⟩ v'):=by
 have hbw:Bq w W:=hbr.trans (hbW.mono hbr.size);have hDl:D<w.heap.size:=by
  rcases zD D w.heap.size with h | h
  . exact h
  . rw[xE h]at HD;cases HD
 have hNW:=hN.below hbw;have hPW:POff W D v.ownBlock X r.2.1 r.2.2 r.1.ins:=hP.keep (Kept.of_below hbw) (Nxt.refl _ _) (NxtX.refl _ _);obtain⟨q1,q2,q3⟩:=hNW.app hPW (xT hDl hbw.size) Ab hg hl;have hWs:=hbW.size;have hDW:w'.heap[D]? = some (.cells #[v,vo] 144 (0,0)):=by rw[hg.block D (by have:=hbw.size;omega) (fun e=>hN.off e.symm),hbw.block D hDl];exact HD
 have hne:v'.ownBlock≠some w2.heap.size:=by
  rcases hl with e | e
  . rw[e];intro e2;have:=(hN.base _ e2).2;omega
  . rw[e];intro e2;injection e2 with e2;omega
 refine⟨v',_,rfl,?_,q1.set rfl,h2,hne,?_,?_,?_⟩
 . rw[xp _ _ _ _ _ _ hDW];simp
 . rw[qJ _ _ _ _ (by simp;omega),hg.block _ (by omega) (fun e=>by have:=(hN.base _ e.symm).2;omega),hbW.block _ hw2];exact hp
 . refine Kept.set ?_ rfl;exact (Kept.of_below hbw).trans q2 (Nxt.refl _ _) (NxtX.refl _ _)
 . rcases q3 with e | ⟨g,e,hg'⟩
   . exact .inl e
   . exact .inr ⟨g,e,by have:=hbw.size;omega⟩
theorem aM9(n:SNode)(ai:Option Addr)(ci D B:Nat)(X:Nat->Prop)(v vo:Value)(rows:List NRow)(w:World)(k:Nat)(hk:nouts n=(k:Int))(h5:k<=5)
 (hD:w.heap[D]? = some (.cells #[v,vo] 144 (0,0))) (hN:NO w B D X 73 v rows) (hP:POff w D v.ownBlock X ai ci n.ins) (hl:rows.length<=60) (hB:B<=D) (hBw:B<=w.heap.size):
 Calls prog 90 #[.pointer (some ⟨D,0,none⟩),C6 n ai n.ins.length ci] w fun e w'=>aM8 w B D X v vo rows (n,ai,ci) k e w':=by
 have HO:Hid _:=fun(W:World)=>ay2 n ai n.ins.length ci W;have HNO:=qH hN;have HPO:=qH hP;have HD:=qH hD;obtain⟨av,cv,rfl,hv1,hv2⟩:=hN.form;have Su:w.cell? ⟨D,0,none⟩=some (.slice av rows.length cv):=qR hD rfl;have hDl:D<w.heap.size:=bLt w _ Su;have HC0:Hid _:=Su;obtain⟨i1,hi',hy0,hy1,hy2⟩:=info_parts aD0;have hb4:i1.bytes*k<=281474976710656:=by rw[hy2];omega
 have hb5:k<=maxLen:=by unfold maxLen;omega
 rw[hk]at HO;unfold C6 at HO ⊢;have HER:=qH (show encN (n,ai,ci)=[.int .i64 n.kind,.string ⟨n.file.toArray⟩,.int .i64 n.c.kind,.string ⟨n.c.word.toArray⟩,.int .i64 n.c.n,.int .i64 n.how,.int .i64 n.wide,.slice ai n.ins.length ci] from rfl);obtain⟨r,hr⟩:=qE ((n,ai,ci):NRow);rw[<- hr]at HER ⊢;have Wt:Hid (POff w D (Value.slice av rows.length cv).ownBlock X r.2.1 r.2.2 r.1.ins):=by rw[hr];exact HPO
 clear hP HPO hr hk hN hD Su;generalize n.kind=nk at *;generalize (⟨n.file.toArray⟩:ByteArray)=fx at *;generalize n.c.kind=ck at *;generalize (⟨n.c.word.toArray⟩:ByteArray)=wx at *;generalize n.c.n=cn at *;generalize n.how=hw at *;generalize n.wide=wd at *;generalize n.ins.length=ni at *;obtain⟨NR,hNR⟩:=qE rows.length;have HNR:=qH hNR;rw[<- hNR]at hl hv1 HC0 HD HNO Wt ⊢;clear hNR;go_enter Tryz.func90,Tryz.ntmps90;go_wp2_with fail;refine qD (HO.out _) ?_;rintro e w2⟨rfl,hb2⟩;have hbx:Bq w w2:=i8.trans (hb2.mono (by simp));have HB2:=qH hbx;have HN8:=qH (show w2.heap[w.heap.size]? = some (.cells #[.int .i64 nk,.string fx,.int .i64 ck,.string wx,.int .i64 cn,.int .i64 hw,.int .i64 wd,.slice ai ni ci] 73 (0,0)) by rw[hb2.block _ (by simp)];exact qN w _);have hs2:w.heap.size<w2.heap.size:=by have:=hb2.size;simp at this;omega
 clear hb2 HO hbx;go_wp2_with (at_make;refine wpList_make_full _ rfl (.tmp 8) (.tmp 8) 71 rfl w2.heap.size 79 i1 (.agg #[.int .i64 0,.int .i64 0]) 2 underlying71 hi' hy0 hy1 .i64 .i64 _ _ k rfl rfl rfl rfl hb4 hb5 (qB _) ?_)
 intro w3 Eh Cm;obtain⟨hp3,hs3⟩:=PAt.start (m:=NR) Eh Cm;have HP3:=qH hp3;clear Eh Cm hp3;go_wp2_with fail;go_loopw [12] (fun i wr=>∃j:Nat,j<=k/\i=.int .i64 j/\Hid (PAt w2 wr w2.heap.size k NR j)) (fun i _=>k-(intOf i).toNat)
 case atStart=>exact⟨0,qP _,rfl,HP3.out⟩
 case round=>
  obtain⟨j,hjk,rfl,hrel⟩:=hrel;have HBr:Hid (Bq w2 wr):=by obtain⟨cs,_,_,_,_,h5⟩:=hrel.out;exact h5
  have HBw:Hid (Bq w wr):=HB2.out.trans (HBr.out.mono HB2.out.size);have hc0:=qC HBw.out HC0.out;by_cases hlt:j<k
  . obtain⟨x,y,q1,q2,q3,q4⟩:=hrel.out.cells hlt;have HST:Hid _:=hrel.out.step hlt (qB _);clear hrel;go_wp2_with fail;exact⟨⟨j+1,by omega,by go_num,HST.out⟩,by simp[intOf];omega⟩
  .
   have hjk':j=k:=by omega
   have HPD:Hid (wr.heap[w2.heap.size]? = some (.cells (A4 (l5 NR k)).toArray 79 (0,0))):=hrel.out.done hjk';have hw2r:w2.heap.size<wr.heap.size:=by
    have:=HPD.out;rcases zD w2.heap.size wr.heap.size with h | h
    . exact h
    . rw[xE h]at this;cases this
   have hn8:wr.heap[w.heap.size]? = some (.cells #[.int .i64 nk,.string fx,.int .i64 ck,.string wx,.int .i64 cn,.int .i64 hw,.int .i64 wd,.slice ai ni ci] 73 (0,0)):=(HBr.out.block _ hs2).trans HN8.out;have n8:∀i:Nat,wr.cell? ⟨w.heap.size,i,none⟩=#[.int .i64 nk,.string fx,.int .i64 ck,.string wx,.int .i64 cn,.int .i64 hw,.int .i64 wd,.slice ai ni ci][i]?:=fun i=>qV _ _ _ _ _ _ hn8;have c0:=n8 0;have c1:=n8 1;have c2:=n8 2;have c3:=n8 3;have c4:=n8 4;have c5:=n8 5;have c6:=n8 6;have c7:=n8 7;simp at c0 c1 c2 c3 c4 c5 c6 c7;have hc0q:∀q,(wr.alloc q).cell? ⟨D,0,none⟩=some (.slice av NR cv):=fun q=>qC i8 hc0;obtain⟨i2,hj',hz0,hz1,hz2⟩:=info_parts bM8;have HOW:Hid _:=fun(W:World)(hb:Bq wr W)=>(HNO.out.below (qT HBw hb).out).own;rw[<- HNR.out]at HOW
   have hfD:∀w':World,w'.heap[D]? = some (.cells #[.slice av NR cv,vo] 144 (0,0))->w'.cell? ⟨D,0,none⟩=some (.slice av NR cv)/\w'.frozen? ⟨D,0,none⟩=false:=fun w' h=>⟨qR h rfl,xK _ _ _ _ _ h⟩;clear hrel n8 hn8;go_upto_region 7 with fail
   have HDW:Hid _:=fun(W w':World)(hb:Bq wr W)(hg:W.grownBy w' (Value.slice av NR cv).ownBlock)=>hfD w' (by
    have hbw:=HBw.out.trans (hb.mono HBw.out.size)
    rw[hg.block D (by have:=hbw.size;omega) (fun e=>HNO.out.off e.symm),hbw.block D hDl];exact HD.out)
   clear hfD;go_region_law (refine ah8 rfl (.tmp 30) (.tmp 32) 22 rfl B 73 i2 _ 8 96 underlying22 hj' hz0 hz1 hz2 rfl (by omega) (.slice av NR cv) NR (A8 rows) (by simp[Act.eval]) (HOW.out _ (by first|exact i8 | exact i8.drew)) ⟨wr.heap.size,0,none⟩ 1 1 (encN r) (by simp[Act.eval]) (by rw[HER.out];rfl) (by rw[HER.out];exact bA3 _ _ _) (bm5 r) (by unfold maxLen;omega) (by omega) (by have:=HBw.out.size;simp;omega) ?_;intro v4 w4 ow4 gr4 nn4 bl4;obtain⟨d0,f0⟩:=HDW.out _ _ (by first|exact i8 | exact i8.drew) gr4;obtain⟨a4,c4,rfl,_,_⟩:=ak2 ow4)
   all_goals
    have HF:Hid (aM8 w B D X (.slice av NR cv) vo rows r k (.returned (.slice (some ⟨w2.heap.size,0,none⟩) k k)) (w4.setCell ⟨D,0,none⟩ (.slice a4 (NR+1) c4))):=
     ck1 HD.out HNO.out Wt.out (by omega) hw2r HBw.out (by first|exact i8 | exact i8.drew) (by rw[<- HNR.out];exact HPD.out) (by rw[<- HNR.out];exact ow4) gr4 bl4
    clear ow4 gr4 nn4 bl4 d0 f0 HDW HOW;go_wp2_with fail;go_ret;exact HF.out
def DSt(w:World)(B D:Nat)(go:Option Nat)(X:Nat->Prop)(d:PD):Prop:=∃(v:Value)(rows:List NRow)(ao:Option Addr)(co:Nat),go=v.ownBlock/\w.heap[D]? = some (.cells #[v,.slice ao d.2.length co] 144 (0,0))/\NO w B D X 73 v rows/\rows.map (·.1)=d.1/\POff w D v.ownBlock X ao co d.2/\B<=D/\∀k,X k->k<w.heap.size
def D7(w w':World)(B D:Nat)(go:Option Nat)(X:Nat->Prop)(d:PD):Prop:=∃go',DSt w' B D go' X d/\Kept D go noX w w'/\Nxt w go go'
theorem I9{w:World}{D:Nat}{o:Obj}(h:w.heap[D]? = some o):D<w.heap.size:=by
 rcases zD D w.heap.size with h1 | h1
 . exact h1
 . rw[xE h1]at h;cases h
theorem DSt.below{w w':World}{B D:Nat}{go:Option Nat}{X:Nat->Prop}{d:PD}(h:DSt w B D go X d)(hb:Bq w w'):DSt w' B D go X d:=by obtain⟨v,rows,ao,co,h1,h2,h3,h4,h5,h6,h7⟩:=h;exact⟨v,rows,ao,co,h1,(hb.block _ (I9 h2)).trans h2,h3.below hb,h4,h5.keep (Kept.of_below hb) (Nxt.refl _ _) (NxtX.refl _ _),h6,fun k hk=>xT (h7 k hk) hb.size⟩
theorem D7.pre{w0 w w':World}{B D:Nat}{go:Option Nat}{X:Nat->Prop}{d:PD}(h:D7 w w' B D go X d)(hb:Bq w0 w):D7 w0 w' B D go X d:=by
 obtain⟨go',h1,h2,h3⟩:=h;refine⟨go',h1,(Kept.of_below hb).trans h2 (Nxt.refl _ _) (NxtX.refl _ _),?_⟩;rcases h3 with e | ⟨g,e,hg⟩
 . exact .inl e
 . exact .inr ⟨g,e,qw hb.size hg⟩
theorem D7.post{w w' w2:World}{B D:Nat}{go:Option Nat}{X:Nat->Prop}{d:PD}(h:D7 w w' B D go X d)(hb:Bq w' w2):D7 w w2 B D go X d:=by obtain⟨go',h1,h2,h3⟩:=h;exact⟨go',h1.below hb,h2.trans (Kept.of_below hb) h3 (NxtX.refl _ _),h3⟩
theorem bn5{w:World}{b n k:Nat}(h:w.heap[b]? = some (.cells (A4 (l5 n k)).toArray 79 (0,0)))(hk:k<=5):F2 w (.slice (some ⟨b,0,none⟩) (l5 n k).length k) (l5 n k):=by refine⟨_,k,rfl,by rw[L2];exact qB _,by unfold maxLen;omega,fun _=>⟨b,0,rfl,fun j p hp=>?_⟩⟩;obtain⟨a1,a2⟩:=aD1 _ j p hp;rw[qa,qV _ _ _ _ _ _ h,qV _ _ _ _ _ _ h];exact⟨by simpa using a1,by simpa using a2⟩
theorem bn6{w w':World}{B D b k:Nat}{X:Nat->Prop}(hX:∀k,X k->k<w.heap.size){v v' vo:Value}{rows:List NRow}{r:NRow}(hB:B<=D)(hDl:D<w.heap.size)(hk5:k<=5)(hD:w'.heap[D]? = some (.cells #[v',vo] 144 (0,0)))(hN:NO w' B D X 73 v' (rows++[r]))(hb:w.heap.size<=b)(hne:v'.ownBlock≠some b)
 (hp:w'.heap[b]? = some (.cells (A4 (l5 rows.length k)).toArray 79 (0,0))) (hk:Kept D v.ownBlock noX w w') (hn:Nxt w v.ownBlock v'.ownBlock):
 D7 w (w'.setCell ⟨D,1,none⟩ (.slice (some ⟨b,0,none⟩) k k)) B D v.ownBlock X (rows.map (·.1)++[r.1],l5 rows.length k):=by
 have hbD:b≠D:=by omega
 refine⟨v'.ownBlock,⟨v',rows++[r],some ⟨b,0,none⟩,k,rfl,?_,hN.set rfl,by simp,⟨?_,?_⟩,hB,fun k h=>xT (hX k h) (by simpa using hk.size)⟩,hk.set rfl,hn⟩
 . rw[xp _ _ _ _ _ _ hD];simp[L2]
 . have hp':(w'.setCell ⟨D,1,none⟩ (.slice (some ⟨b,0,none⟩) k k)).heap[b]? = some (.cells (A4 (l5 rows.length k)).toArray 79 (0,0)):=(qJ _ _ _ _ hbD).trans hp;exact bn5 hp' hk5
 .
  intro _ a ha hf;injection ha with ha;subst ha;rcases hf with e | e | e
  . exact hbD e
  . exact hne e
  . have:=hX _ e;simp only at this;omega
theorem be9(how:Int)(c:Cmd)(B D:Nat)(go:Option Nat)(X:Nat->Prop)(d:PD)(w:World)(h:DSt w B D go X d)(hl:d.1.length<=60)(hBw:B<=w.heap.size):
 Calls prog 141 #[.pointer (some ⟨D,0,none⟩),.int .i64 how,c.v] w fun e w'=>e=.returned (.tuple #[])/\D7 w w' B D go X (I3 how c d):=by
 obtain⟨v,rows,ao,co,rfl,hD,hN,Az,hP,hB,hX⟩:=h;obtain⟨ns,op⟩:=d;simp only at hD Az hP hl ⊢;have hDl:=I9 hD;have hrl:rows.length<=60:=by rw[<- Az]at hl;simpa using hl
 have Dl:Hid _:=fun(W:World)(hb:Bq w W)=>aM9 (ah1 how c op) ao co D B X v (.slice ao op.length co) rows W 1 rfl (by omega) ((hb.block _ hDl).trans hD) (hN.below hb) (hP.keep (Kept.of_below hb) (Nxt.refl _ _) (NxtX.refl _ _)) hrl hB (qw hBw hb.size)
 have Da:Hid _:=fun(W w':World)(v':Value)(b:Nat)(hb:Bq w W)(q1:w'.heap[D]? = some (.cells #[v',.slice ao op.length co] 144 (0,0)))(q2:NO w' B D X 73 v' (rows++[(ah1 how c op,ao,co)]))(q3:W.heap.size<=b)(q4:v'.ownBlock≠some b) q5 (q6:Kept D v.ownBlock noX W w') (q7:Nxt W v.ownBlock v'.ownBlock)=>
  (bn6 (X:=X) (fun k h=>xT (hX k h) hb.size) (k:=1) (vo:=.slice ao op.length co) (v:=v) hB (xT hDl hb.size) (by omega) q1 q2 q3 q4 q5 q6 q7).pre hb
 have Eu:(rows.map (·.1)++[(ah1 how c op,ao,co).1],l5 rows.length 1)=I3 how c (ns,op):=by rw[Az,Q7];unfold I3;simp only[<- Az,qM]
 rw[Eu]at Da;have hD1:∀W,Bq w W->W.cell? ⟨D,1,none⟩=some (.slice ao op.length co):=fun W hb=>by rw[qV _ _ _ _ _ _ ((hb.block _ hDl).trans hD)];rfl
 have HCF:Hid _:=fun(W:World)(v':Value)(q:W.heap[D]? = some (.cells #[v',.slice ao op.length co] 144 (0,0)))=>(show W.cell? ⟨D,1,none⟩=some (.slice ao op.length co)/\W.frozen? ⟨D,1,none⟩=false from ⟨qR q rfl,xK _ _ _ _ _ q⟩);unfold C6 ah1 at Dl;simp only at Dl;unfold Cmd.v;generalize op.length=NO' at *;generalize (⟨c.word.toArray⟩:ByteArray)=wx at *;generalize c.kind=ck at *;generalize c.n=cn at *;have hq1:=hD1 _ (i8 (w:=w) (o:=.cells #[.int .i64 ck,.string wx,.int .i64 cn] 70));clear hD hN hP Eu hD1 Az hrl hl;go_enter Tryz.func141,Tryz.ntmps141;go_upto_region 1 with fail
 go_region_with (first
  | (go_at_call 90;refine (Dl.out _ (by first|exact i8 | exact i8.drew)).mono ?_;rintro e w4⟨v4,b4,rfl,q1,q2,q3,q4,q5,q6,q7⟩;obtain⟨d1,f1⟩:=HCF.out _ _ q1))
 all_goals
  have HF:Hid _:=Da.out _ _ _ _ (by first|exact i8 | exact i8.drew) q1 q2 q3 q4 q5 q6 q7;clear q1 q2 q3 q4 q5 q6 q7;refine bodyPost_end (v:=.tuple #[]) (by simp[results,go_sem]) rfl ?_;exact⟨rfl,HF.out⟩
theorem aN0(B D:Nat)(go:Option Nat)(X:Nat->Prop)(d:PD)(w:World)(h:DSt w B D go X d)(hl:d.1.length<=60)(hBw:B<=w.heap.size):
 Calls prog 91 #[.pointer (some ⟨D,0,none⟩)] w fun e w'=>e=.returned (.tuple #[])/\D7 w w' B D go X (E9 d):=by
 have HJ:Hid _:=be9 1 noC B D go X d w h hl hBw;have HS:=qH h;obtain⟨v,rows,ao,co,rfl,hD,hN,Az,hP,hB,hX⟩:=h;have hD1:w.cell? ⟨D,1,none⟩=some (.slice ao d.2.length co):=qR hD rfl;have hm:=Y3 hP.1;obtain⟨N,hN'⟩:=qE d.2.length;unfold Cmd.v noC at HJ;simp only at HJ;unfold E9;rw[<- hN']at hD1 hm ⊢;clear hD hN hP Az hN' hl;by_cases h1:1<N
 . rw[qF h1];go_enter Tryz.func91,Tryz.ntmps91;go_wp2_with fail;refine qD HJ.out ?_;rintro e w4⟨rfl,hst⟩;have HF:Hid _:=hst;clear hst HJ;go_wp2_with fail;refine bodyPost_end (v:=.tuple #[]) (by simp[results,go_sem]) rfl ?_;exact⟨rfl,HF.out⟩
 . rw[qA h1];clear HJ;go_enter Tryz.func91,Tryz.ntmps91;go_wp2_with fail;refine bodyPost_end (v:=.tuple #[]) (by simp[results,go_sem]) rfl ?_;exact⟨rfl,_,HS.out,Kept.refl _ _ _ _,Nxt.refl _ _⟩
theorem DSt.less{w:World}{B D:Nat}{go:Option Nat}{X X':Nat->Prop}{d:PD}(h:DSt w B D go X d)(hx:∀k,k<w.heap.size->X' k->X k)(hl:∀k,X' k->k<w.heap.size):DSt w B D go X' d:=by obtain⟨v,rows,ao,co,h1,h2,h3,h4,h5,h6,h7⟩:=h;exact⟨v,rows,ao,co,h1,h2,h3.less hx,h4,h5.less hx,h6,hl⟩
theorem aw1{w w':World}{B:Nat}{e:TypeId}{size:Nat}{v:Value}{n:Nat}{xs:List Value}(h:w.ownsRow B e size v n xs)(hk:∀g,v.ownBlock=some g->g<w.heap.size->w'.heap[g]? = w.heap[g]?):w'.ownsRow B e size v n xs:=by
 refine⟨h.1,?_⟩;rcases h.2 with⟨e1,h0⟩|⟨g,cap,cur,e1,hb,h1,h2⟩
 . exact Or.inl ⟨e1,h0⟩
 . refine Or.inr ⟨g,cap,cur,e1,hb,?_,h2⟩;rw[hk g (by rw[e1];rfl) (I9 h1)];exact h1
theorem aN1{w:World}{B:Nat}{e:TypeId}{size:Nat}{v:Value}{n:Nat}{xs:List Value}(h:w.ownsRow B e size v n xs):∀g,v.ownBlock=some g->g<w.heap.size:=by
 intro g hg;rcases h.2 with⟨rfl,h0⟩|⟨g',cap,cur,rfl,hb,h1,_⟩
 . simp[Value.ownBlock]at hg
 . simp[Value.ownBlock]at hg;subst hg;exact I9 h1
theorem aF9{w:World}{B:Nat}{v:Value}{ps:List (Int × Int)}(h:w.ownsRow B 79 2 v ps.length (A4 ps)):∃ao cap,v=.slice ao ps.length cap/\F2 w (.slice ao ps.length cap) ps:=by
 rcases id h.2 with⟨rfl,h0⟩|⟨g,cap,cur,rfl,hb,hg,h1,h2,h3,h4⟩
 . exact⟨none,0,by rw[h0],none,0,rfl,by omega,by simp[maxLen],fun hn=>absurd h0 hn⟩
 . refine⟨_,cap,rfl,_,cap,rfl,h1,h2,fun _=>⟨g,0,rfl,fun j p hp=>?_⟩⟩;obtain⟨a1,a2⟩:=aD1 ps j p hp;have hjl:j<ps.length:=(gSm hp).1;have c1:=h.cellAt (j*2) (by omega);have c2:=h.cellAt (j*2+1) (by omega);rw[a1]at c1;rw[a2]at c2;exact⟨by rw[qa];exact c1,by rw[qa];exact c2⟩
theorem aN2{w:World}{b:Nat}{cs:List Value}{t:TypeId}(h:w.heap[b]? = some (.cells cs.toArray t (0,0))):∀j u,cs[j]? = some u->w.cell? ((⟨b,0,none⟩:Addr).add j)=some u:=by
 intro j u hj;have e:((⟨b,0,none⟩:Addr).add j)=⟨b,j,none⟩:=by simp[Addr.add];try omega
 rw[e,qV _ _ _ _ _ _ h];simpa using hj
theorem aN3(ps:List (Int × Int)):∀u∈A4 ps,u.oneCell'=true:=by intro u hu;unfold A4 at hu;rw[xz]at hu;obtain⟨l,hl,hul⟩:=hu;obtain⟨p,_,rfl⟩:=qg.1 hl;simp at hul;rcases hul with rfl | rfl <;> rfl
def wk(c:Cmd)(ns:List SNode)(op:List (Int × Int))(k:Nat):PD:=(op.take k).foldl (ah2 c) (ns,[])
theorem bI4{c:Cmd}{ns:List SNode}{op:List (Int × Int)}{k:Nat}{p:Int × Int}(h:op[k]? = some p):wk c ns op (k+1)=ah2 c (wk c ns op k) p:=by unfold wk;rw[qX,h,xa,List.foldl_append];rfl
theorem bZ7{c:Cmd}{ns:List SNode}{op:List (Int × Int)}{k:Nat}(h:k<=op.length):(wk c ns op k).1.length=ns.length+k/\(wk c ns op k).2.length=k:=by have:=ah3 c (op.take k) (ns,[]);simp only[qy,qa,qL,ql h]at this;exact this
def LRel(W wr:World)(B D:Nat)(go1:Option Nat)(X0:Nat->Prop)(ns1:List SNode)(op1:List (Int × Int))(ao1:Option Addr)(co1:Nat)(c:Cmd)(k:Nat)(dv v:Value)(rows:List NRow):Prop:=
 wr.heap[D]? = some (.cells #[v,.slice ao1 op1.length co1] 144 (0,0))/\NO wr B D (fun q=>X0 q\/dv.ownBlock=some q) 73 v rows/\rows.map (·.1)=(wk c ns1 op1 k).1 /\
 wr.ownsRow B 79 2 dv k (A4 (wk c ns1 op1 k).2)/\(∀g,dv.ownBlock=some g->v.ownBlock≠some g/\W.heap.size<=g)/\Kept D go1 noX W wr/\Nxt W go1 v.ownBlock
theorem LRel.start{W:World}{B D:Nat}{go1:Option Nat}{X0:Nat->Prop}{ns1:List SNode}{op1:List (Int × Int)}{ao1:Option Addr}{co1:Nat}(c:Cmd){v:Value}{rows:List NRow}(e1:go1=v.ownBlock)(h1:W.heap[D]? = some (.cells #[v,.slice ao1 op1.length co1] 144 (0,0)))(h2:NO W B D X0 73 v rows)(h3:rows.map (·.1)=ns1):LRel W W B D go1 X0 ns1 op1 ao1 co1 c 0 (.slice none 0 0) v rows:=by refine⟨h1,h2.less (fun k _ hk=>by rcases hk with hk | hk;exact hk;simp[Value.ownBlock]at hk),by simp[wk,h3],?_,fun g hg=>by simp[Value.ownBlock]at hg,Kept.refl _ _ _ _,Or.inl e1.symm⟩;exact World.ownsRow_nil _ _ _ _
theorem LRel.ports{W wr:World}{B D:Nat}{go1:Option Nat}{X0:Nat->Prop}{ns1:List SNode}{op1:List (Int × Int)}{ao1:Option Addr}{co1:Nat}{c:Cmd}{k:Nat}{dv v:Value}{rows:List NRow}(h:LRel W wr B D go1 X0 ns1 op1 ao1 co1 c k dv v rows)(hp:POff W D go1 X0 ao1 co1 op1):POff wr D v.ownBlock X0 ao1 co1 op1:=
 hp.keep (h.2.2.2.2.2.1.more (fun k e=>e.elim)) h.2.2.2.2.2.2 (NxtX.refl _ _)
theorem LRel.add{W wr W2:World}{B D X2:Nat}{go1:Option Nat}{X0:Nat->Prop}{ns1:List SNode}{op1:List (Int × Int)}{ao1:Option Addr}{co1:Nat}{c:Cmd}{k:Nat}{dv v:Value}{rows:List NRow}(h:LRel W wr B D go1 X0 ns1 op1 ao1 co1 c k dv v rows)(p:Int × Int)(hX0:∀q,X0 q->q<W.heap.size)
 (hb:Bq wr W2) (hc:W2.heap[X2]? = some (.cells #[.int .i64 p.1,.int .i64 p.2] 79 (0,0))) (hx:wr.heap.size<=X2) (hl:rows.length<=60) (hB:B<=D) (hBw:B<=wr.heap.size):
 Calls prog 90 #[.pointer (some ⟨D,0,none⟩),C6 (V6 c p) (some ⟨X2,0,none⟩) 1 1] W2 fun e w'=>aM8 W2 B D (fun q=>X0 q\/dv.ownBlock=some q) v (.slice ao1 op1.length co1) rows (V6 c p,some ⟨X2,0,none⟩,1) 1 e w':=by
 obtain⟨h1,h2,h3,h4,h5,h6,h7⟩:=h;have hDl:=I9 h1;refine aM9 (V6 c p) (some ⟨X2,0,none⟩) 1 D B _ v _ rows W2 1 rfl (by omega) ((hb.block _ hDl).trans h1) (h2.below hb) ⟨⟨_,1,rfl,by simp[V6],by simp[maxLen],fun _=>⟨X2,0,rfl,fun j q hq=>?_⟩⟩,?_⟩ hl hB (qw hBw hb.size)
 .
  cases j with
  | zero=>
   simp[V6]at hq
   subst hq
   rw[qV _ _ _ _ _ _ hc,qV _ _ _ _ _ _ hc]
   exact⟨rfl,rfl⟩
  | succ j=>simp[V6]at hq
 .
  intro _ a ha hf;injection ha with ha;subst ha;rcases hf with e | e | e | e
  . simp only at e;omega
  . have:=(h2.base _ e).2;simp only at this;omega
  . have:=hX0 _ e;have:=h6.size;simp only at *;omega
  . have:=aN1 h4 _ e;simp only at this;omega
theorem LRel.own4{W wr W2 w4:World}{B D:Nat}{go1:Option Nat}{X0:Nat->Prop}{ns1:List SNode}{op1:List (Int × Int)}{ao1:Option Addr}{co1:Nat}{c:Cmd}{k:Nat}{dv v:Value}{rows:List NRow}(h:LRel W wr B D go1 X0 ns1 op1 ao1 co1 c k dv v rows)(hb:Bq wr W2)(hk:Kept D v.ownBlock noX W2 w4)(hDW:D<W.heap.size):w4.ownsRow B 79 2 dv k (A4 (wk c ns1 op1 k).2):=by
 obtain⟨h1,h2,h3,h4,h5,h6,h7⟩:=h;refine aw1 h4 (fun g hg hl=>?_);rw[hk.block g (xT hl hb.size) (fun e=>?_),hb.block g hl];rcases e with e | e | e
 . have:=(h5 g hg).2;omega
 . exact (h5 g hg).1 e
 . exact e
theorem LRel.step{W wr W2 w4 w5:World}{B D:Nat}{go1:Option Nat}{X0:Nat->Prop}{ns1:List SNode}{op1:List (Int × Int)}{ao1:Option Addr}{co1:Nat}{c:Cmd}{k:Nat}{dv v:Value}{rows:List NRow}(h:LRel W wr B D go1 X0 ns1 op1 ao1 co1 c k dv v rows){p:Int × Int}(hp:op1[k]? = some p)(hDW:D<W.heap.size)(hX0:∀q,X0 q->q<W.heap.size)
 (hb:Bq wr W2) {v4 dv5:Value} {r:NRow} (hr:r.1=V6 c p) (q1:w4.heap[D]? = some (.cells #[v4,.slice ao1 op1.length co1] 144 (0,0))) (q2:NO w4 B D (fun q=>X0 q\/dv.ownBlock=some q) 73 v4 (rows++[r])) (q6:Kept D v.ownBlock noX W2 w4) (q7:Nxt W2 v.ownBlock v4.ownBlock)
 (ow:w5.ownsRow B 79 2 dv5 (k+1) (A4 (wk c ns1 op1 k).2++A4 (l5 rows.length 1))) (gr:w4.grownBy w5 dv.ownBlock) (bl:dv5.ownBlock=dv.ownBlock\/dv5.ownBlock=some w4.heap.size):
 LRel W w5 B D go1 X0 ns1 op1 ao1 co1 c (k+1) dv5 v4 (rows++[r]):=by
 obtain⟨h1,h2,h3,h4,h5,h6,h7⟩:=h;have hkl:k<=op1.length:=by have:=(gSm hp).1;omega
 have hrl:rows.length=(wk c ns1 op1 k).1.length:=by rw[<- h3];simp
 have hs1:=hb.size;have hs2:=q6.size;have hs0:=h6.size;have hne:∀g,dv.ownBlock=some g->v4.ownBlock≠some g:=by
  intro g hg e;rcases q7 with e7 | ⟨g',e7,hg'⟩
  . exact (h5 g hg).1 (by rw[<- e7];exact e)
  . rw[e7]at e;injection e with e;have:=aN1 h4 g hg;omega
 have hv4:∀g,v4.ownBlock=some g->g<w4.heap.size:=fun g hg=>(q2.base g hg).2;have hND:Nxt w4 dv.ownBlock dv5.ownBlock:=by
  rcases bl with e | e
  . exact .inl e
  . exact .inr ⟨_,e,qB _⟩
 have hkd:Kept D v4.ownBlock (fun q=>X0 q\/dv.ownBlock=some q) w4 w5:=Kept.of_grown gr (fun k e=>.inr (.inr (.inr e)));refine⟨?_,q2.keep hkd (fun g hg=>gr.block g (hv4 g hg) (fun e=>hne g e.symm hg)) (fun q hq hx=>?_),?_,?_,?_,?_,?_⟩
 . rw[gr.block D (by omega) (fun e=>by have:=(h5 D e.symm).2;omega)];exact q1
 . rcases hx with hx | hx
   . exact .inl hx
   . exact .inr (hND.old hq hx)
 . rw[qz,h3,bI4 hp,qs,List.map_nil,hr];rfl
 . have e2:A4 (wk c ns1 op1 (k+1)).2=A4 (wk c ns1 op1 k).2++A4 (l5 rows.length 1):=by rw[bI4 hp,Q7,hrl];simp[ah2,A4]
   rw[e2];exact ow
 .
  intro g hg;rcases bl with e | e
  . rw[e]at hg;exact⟨hne g hg,(h5 g hg).2⟩
  . rw[e]at hg;injection hg with hg;refine⟨fun e3=>?_,by omega⟩;have:=hv4 g e3;omega
 . have k1:Kept D go1 noX W W2:=h6.trans (Kept.of_below hb) h7 (NxtX.refl _ _);have k2:Kept D go1 noX W w4:=k1.trans q6 h7 (NxtX.refl _ _);refine⟨gr.os.trans k2.os,gr.tape.trans k2.tape,gr.output.trans k2.output,qw k2.size gr.size,fun i hi hn=>?_⟩;rw[gr.block i (by omega) (fun e=>by have:=(h5 i e.symm).2;omega)];exact k2.block i hi hn
 . exact h7.trans q7 (by omega)
theorem LRel.done{W wr:World}{B D:Nat}{go1:Option Nat}{X0:Nat->Prop}{ns1:List SNode}{op1:List (Int × Int)}{ao1:Option Addr}{co1:Nat}{c:Cmd}{k:Nat}{dv v:Value}{rows:List NRow}(h:LRel W wr B D go1 X0 ns1 op1 ao1 co1 c k dv v rows)(hk:k=op1.length)(hDW:D<W.heap.size)(hB:B<=D)(hX0:∀q,X0 q->q<W.heap.size):
 D7 W (wr.setCell ⟨D,1,none⟩ dv) B D go1 X0 (J9 c (ns1,op1)):=by
 subst hk;obtain⟨h1,h2,h3,h4,h5,h6,h7⟩:=h;have hw:wk c ns1 op1 op1.length=J9 c (ns1,op1):=by unfold wk J9;rw[qZ]
 have hl2:=(bZ7 (c:=c) (ns:=ns1) (op:=op1) (qB _)).2;rw[hw]at h3 h4 hl2;have hs0:=h6.size;have h4':wr.ownsRow B 79 2 dv (J9 c (ns1,op1)).2.length (A4 (J9 c (ns1,op1)).2):=by rw[hl2];exact h4
 obtain⟨ao,cap,rfl,hrp⟩:=aF9 h4';have Aq:∀a,ao=some a->¬FS D v.ownBlock X0 a.block:=by
  intro a ha hf;have ho:(Value.slice ao (J9 c (ns1,op1)).2.length cap).ownBlock=some a.block:=by rw[ha];rfl
  have hg:=h5 _ ho;rcases hf with e | e | e
  . omega
  . exact hg.1 e
  . have:=hX0 _ e;omega
 refine⟨v.ownBlock,⟨v,rows,ao,cap,rfl,?_,(h2.less (fun k _ hk=>Or.inl hk)).set rfl,h3,⟨?_,fun _=>Aq⟩,hB,fun k hk=>by have:=hX0 k hk;simp;omega⟩,h6.set rfl,h7⟩
 . rw[xp _ _ _ _ _ _ h1];simp
 . refine aF8 hrp (fun hn a ha hl=>qJ _ _ _ _ (fun e=>Aq a ha (.inl e)))
end Go.Proofs.YtllgglolcgdehaaGreatDoor
namespace Go.Gs
open Go.RowKit
theorem Y8{P:Program}(w:World)(dT sT ty elem:TypeId)(g o dLen dCap:Nat)(a:Addr)(sLen sCap:Nat)(cur:Array Value)(t:TypeId)(cs:List Value)(k m:Nat)
 (hu:P.underlying dT=some (.slice elem)) (hs:(P.info? elem).map (·.size)=some k)
 (hg:w.heap[g]? = some (.cells cur t (0,0))) (hm:Nat.min sLen dLen=m) (hn:cs.length=m*k)
 (La:∀j v,cs[j]? = some v->w.cell? (a.add j)=some v) (Ad:o+cs.length<=cur.size) (h1:∀v∈cs,v.oneCell'=true):
 (Builtin.copy_ #[dT,sT] ty #[.slice (some ⟨g,o,none⟩) dLen dCap,.slice (some a) sLen sCap]).run P w =
  .ok (goInt m) (w.setRow g (cur.toList.take o++cs++cur.toList.drop (o+cs.length)).toArray):=by
 have hl:=run_loadCells_list (P:=P) w a cs La;have hst:=run_storeCells_at P g o t cs 0 cur w hg (by simpa using Ad) h1
 cases hq:P.info? elem with
 | none=>simp[hq]at hs
 | some i=>
  have hi:i.size=k:=by simpa[hq]using hs
  rw[hn]at hl
  simp[Builtin.copy_,run_underlying hu,Builtin.lenOf,Builtin.firstCells,sizeOf,typeInfo,hq,hi,hm,hl,hst]
def insR(rows:List FRow)(i:Nat)(r:FRow):List FRow:=rows.take i++r::rows.drop i
theorem O8(rows:List FRow)(i:Nat)(r:FRow)(hi:i<=rows.length):(insR rows i r).length=rows.length+1:=by simp[insR];omega
theorem aN4(rows:List FRow)(i:Nat)(r:FRow):f8 (insR rows i r)=f8 (rows.take i)++(encF r++f8 (rows.drop i)):=by rw[insR,al8,K1]
theorem ay3{rows:List FRow}{i:Nat}{r x:FRow}(h:x∈insR rows i r):x∈rows\/x=r:=by
 unfold insR at h;rw[xB,xP]at h;rcases h with h | h | h
 . exact .inl (xo h)
 . exact .inr h
 . exact .inl (List.mem_of_mem_drop h)
theorem bM9(cur:List Value)(rows:List FRow)(i:Nat)(r:FRow)(hi:i<=rows.length)(hc:cur.take (rows.length*2)=f8 rows)(hl:(rows.length+1)*2<=cur.length)(c1:List Value)
 (h1:c1=cur.take (i*2+2)++f8 (rows.drop i)++cur.drop (i*2+2+(f8 (rows.drop i)).length)):
 c1.length=cur.length/\(c1.take (i*2)++encF r++c1.drop (i*2+(encF r).length)).length=cur.length/\(c1.take (i*2)++encF r++c1.drop (i*2+(encF r).length)).take ((rows.length+1)*2)=f8 (insR rows i r):=by
 have hd:(f8 (rows.drop i)).length=(rows.length-i)*2:=by rw[o8,qo]
 have ht:(f8 (rows.take i)).length=i*2:=by rw[o8,qL,ql hi]
 have he:(encF r).length=2:=rfl;have hl1:c1.length=cur.length:=by rw[h1,qG,qG,qL,qo,hd];omega
 have e1:c1.take (i*2)=f8 (rows.take i):=by rw[h1,qp,xF (by rw[qL];omega),List.take_take,ql (by omega),<- af9,<- hc,List.take_take,ql (by omega)]
 have e2:c1.drop (i*2+(encF r).length)=f8 (rows.drop i)++cur.drop (i*2+2+(f8 (rows.drop i)).length):=by rw[h1,qp,he,List.drop_append,qt (by rw[qL];omega),qL,ql (by omega),zE,List.drop_zero,xn]
 refine⟨hl1,?_,?_⟩
 . rw[qG,qG,qL,qo,he];omega
 . rw[e1,e2,aN4,qp,<- qp (encF r),<- qp,xF (by rw[qG,qG,ht,he,hd];omega),qO (by rw[qG,qG,ht,he,hd];omega)]
theorem bZ8(cur:List Value)(rows:List FRow)(i:Nat)(r:FRow)(hi:i<=rows.length)(hc:cur.take (i*2)=f8 (rows.take i))(hl:(rows.length+1)*2<=cur.length)(c1:List Value)
 (h1:c1=cur.take (i*2)++encF r++cur.drop (i*2+(encF r).length)):
 c1.length=cur.length/\(c1.take (i*2+2)++f8 (rows.drop i)++c1.drop (i*2+2+(f8 (rows.drop i)).length)).length=cur.length/\(c1.take (i*2+2)++f8 (rows.drop i)++c1.drop (i*2+2+(f8 (rows.drop i)).length)).take ((rows.length+1)*2)=f8 (insR rows i r):=by
 have hd:(f8 (rows.drop i)).length=(rows.length-i)*2:=by rw[o8,qo]
 have ht:(f8 (rows.take i)).length=i*2:=by rw[o8,qL,ql hi]
 have he:(encF r).length=2:=rfl;have hl1:c1.length=cur.length:=by rw[h1,qG,qG,qL,qo,he];omega
 have e1:c1.take (i*2+2)=f8 (rows.take i)++encF r:=by rw[h1,hc,xF (by rw[qG,ht,he];omega),qO (by rw[qG,ht,he];omega)]
 refine⟨hl1,?_,?_⟩
 . rw[qG,qG,qL,qo,hd];omega
 . rw[e1,aN4,xF (by rw[qG,qG,ht,he,hd];omega),qO (by rw[qG,qG,ht,he,hd];omega),qp]
theorem FO.move{w w':World}{B:Nat}{e:TypeId}{v v':Value}{rows rows':List FRow}{r:FRow}(h:FO w B e v rows)(Ab:w'.ownsRow B e 2 v' rows'.length (f8 rows'))(hk:∀k,k<w.heap.size->v.ownBlock≠some k->w'.heap[k]? = w.heap[k]?)
 (hat:v'.ownBlock=v.ownBlock\/v'.ownBlock=some w.heap.size) (hm:∀x∈rows',x∈rows\/x=r) (hr:∀(W:World)(go:Option Nat),ac6 W go r):FO w' B e v' rows':=by
 refine⟨Ab,fun x hx=>?_⟩;rcases hm x hx with hx | rfl
 .
  have g0:=h.good x hx;have g1:=g0.keep hk;refine⟨g1.1,g1.2.1,fun hne a ha hg=>?_⟩;rcases hat with hat | hat
  . exact g0.2.2 hne a ha (by rw[<- hat];exact hg)
  . obtain⟨h1,ao',cap',e',h2,h3,h4⟩:=g0.2.1;obtain⟨b,off,rfl,hc⟩:=h4 hne;injection e' with e1 e2 e3;rw[ha]at e1;injection e1 with e1;subst e1;have hl:0<(x.1.b.map U).length:=by rw[h1];omega
    have:=bLt w _ (hc 0 _ (gEl hl));rw[hat]at hg;injection hg with hg;simp only at this hg;omega
 . exact hr _ _
theorem bA4(n:List UInt8)(W:World)(go:Option Nat):ac6 W go (⟨n,[]⟩,none,0,0):=⟨rfl,⟨rfl,none,0,rfl,qB _,by simp[maxLen],fun h=>absurd rfl h⟩,fun h=>absurd rfl h⟩
theorem bn7(rows:List FRow)(r:FRow):insR rows rows.length r=rows++[r]:=by simp[insR]
end Go.Gs
