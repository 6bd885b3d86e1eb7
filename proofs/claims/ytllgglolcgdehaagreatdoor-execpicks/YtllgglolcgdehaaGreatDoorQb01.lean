/- What the developers' join and behind of a draft do, and more. -/
import Derived.Test.YtllgglolcgdehaaGreatDoorQAb
import Derived.Test.YtllgglolcgdehaaGreatDoorQb00
set_option maxRecDepth 100000
set_option maxHeartbeats 16000000
namespace Go.Proofs.YtllgglolcgdehaaGreatDoor
open Go.RowKit Go.Gs
set_option linter.unusedVariables false
def DSt (w:World) (B D:Nat) (go:Option Nat) (X:Nat->Prop) (d:PD):Prop:=∃(v:Value) (rows:List NRow) (ao:Option Addr) (co:Nat),go=v.ownBlock/\w.heap[D]? = some (.cells #[v,.slice ao d.2.length co] 144 (0,0))/\NO w B D X 73 v rows/\rows.map (·.1)=d.1/\POff w D v.ownBlock X ao co d.2/\B<=D /\ ∀k,X k->k<w.heap.size
def E6 (w w':World) (B D:Nat) (go:Option Nat) (X:Nat->Prop) (d:PD):Prop:=∃go',DSt w' B D go' X d/\Kept D go noX w w'/\Nxt w go go'
theorem L6 {w:World} {D:Nat} {o:Obj} (h:w.heap[D]? = some o):D<w.heap.size:=by
 rcases Nat.lt_or_ge D w.heap.size with h1 | h1
 . exact h1
 . rw[Array.getElem?_eq_none h1] at h;cases h
theorem DSt.below {w w':World} {B D:Nat} {go:Option Nat} {X:Nat->Prop} {d:PD} (h:DSt w B D go X d) (hb:Bq w w'):DSt w' B D go X d:=by obtain⟨v,rows,ao,co,h1,h2,h3,h4,h5,h6,h7⟩:=h;exact⟨v,rows,ao,co,h1,(hb.block _ (L6 h2)).trans h2,h3.below hb,h4,h5.keep (Kept.of_below hb) (Nxt.refl _ _) (NxtX.refl _ _),h6,fun k hk=>Nat.lt_of_lt_of_le (h7 k hk) hb.size⟩
theorem E6.pre {w0 w w':World} {B D:Nat} {go:Option Nat} {X:Nat->Prop} {d:PD} (h:E6 w w' B D go X d) (hb:Bq w0 w):E6 w0 w' B D go X d:=by
 obtain⟨go',h1,h2,h3⟩:=h;refine⟨go',h1,(Kept.of_below hb).trans h2 (Nxt.refl _ _) (NxtX.refl _ _),?_⟩;rcases h3 with e | ⟨g,e,hg⟩
 . exact .inl e
 . exact .inr ⟨g,e,Nat.le_trans hb.size hg⟩
theorem E6.post {w w' w2:World} {B D:Nat} {go:Option Nat} {X:Nat->Prop} {d:PD} (h:E6 w w' B D go X d) (hb:Bq w' w2):E6 w w2 B D go X d:=by obtain⟨go',h1,h2,h3⟩:=h;exact⟨go',h1.below hb,h2.trans (Kept.of_below hb) h3 (NxtX.refl _ _),h3⟩
theorem bw7 {w:World} {b n k:Nat} (h:w.heap[b]? = some (.cells (A8 (l8 n k)).toArray 79 (0,0))) (hk:k<=5):E2 w (.slice (some ⟨b,0,none⟩) (l8 n k).length k) (l8 n k):=by refine⟨_,k,rfl,by rw[T8];exact Nat.le_refl _,by unfold maxLen;omega,fun _=>⟨b,0,rfl,fun j p hp=>?_⟩⟩;obtain⟨a1,a2⟩:=aI5 _ j p hp;rw[Nat.zero_add,cell_of_row _ _ _ _ _ _ h,cell_of_row _ _ _ _ _ _ h];exact⟨by simpa using a1,by simpa using a2⟩
theorem bw8 {w w':World} {B D b k:Nat} {X:Nat->Prop} (hX:∀k,X k->k<w.heap.size) {v v' vo:Value} {rows:List NRow} {r:NRow} (hB:B<=D) (hDl:D<w.heap.size) (hk5:k<=5) (hD:w'.heap[D]? = some (.cells #[v',vo] 144 (0,0))) (hN:NO w' B D X 73 v' (rows++[r])) (hb:w.heap.size<=b) (hne:v'.ownBlock≠some b)
 (hp:w'.heap[b]? = some (.cells (A8 (l8 rows.length k)).toArray 79 (0,0))) (hk:Kept D v.ownBlock noX w w') (hn:Nxt w v.ownBlock v'.ownBlock) :
 E6 w (w'.setCell ⟨D,1,none⟩ (.slice (some ⟨b,0,none⟩) k k)) B D v.ownBlock X (rows.map (·.1)++[r.1],l8 rows.length k):=by
 have hbD:b≠D:=by omega
 refine⟨v'.ownBlock,⟨v',rows++[r],some ⟨b,0,none⟩,k,rfl,?_,hN.set rfl,by simp,⟨?_,?_⟩,hB,fun k h=>Nat.lt_of_lt_of_le (hX k h) (by simpa using hk.size)⟩,hk.set rfl,hn⟩
 . rw[heap_setCell_same _ _ _ _ _ _ hD];simp[T8]
 . have hp':(w'.setCell ⟨D,1,none⟩ (.slice (some ⟨b,0,none⟩) k k)).heap[b]? = some (.cells (A8 (l8 rows.length k)).toArray 79 (0,0)):=(Below.heap_setCell _ _ _ _ hbD).trans hp;exact bw7 hp' hk5
 .
  intro _ a ha hf;injection ha with ha;subst ha;rcases hf with e | e | e
  . exact hbD e
  . exact hne e
  . have:=hX _ e;simp only at this;omega
theorem bl2 (how:Int) (c:Cmd) (B D:Nat) (go:Option Nat) (X:Nat->Prop) (d:PD) (w:World) (h:DSt w B D go X d) (hl:d.1.length<=60) (hBw:B<=w.heap.size) :
 Calls Tryz.prog 141 #[.pointer (some ⟨D,0,none⟩),.int .i64 how,c.v] w fun e w'=>e=.returned (.tuple #[])/\E6 w w' B D go X (K4 how c d):=by
 obtain⟨v,rows,ao,co,rfl,hD,hN,Bl,hP,hB,hX⟩:=h;obtain⟨ns,op⟩:=d;simp only at hD Bl hP hl ⊢;have hDl:=L6 hD;have hrl:rows.length<=60:=by rw[<- Bl] at hl;simpa using hl
 have Ea:Hid _:=fun (W:World) (hb:Bq w W)=>aU6 (am9 how c op) ao co D B X v (.slice ao op.length co) rows W 1 rfl (by omega) ((hb.block _ hDl).trans hD) (hN.below hb) (hP.keep (Kept.of_below hb) (Nxt.refl _ _) (NxtX.refl _ _)) hrl hB (Nat.le_trans hBw hb.size)
 have Cb:Hid _:=fun (W w':World) (v':Value) (b:Nat) (hb:Bq w W) (q1:w'.heap[D]? = some (.cells #[v',.slice ao op.length co] 144 (0,0))) (q2:NO w' B D X 73 v' (rows++[(am9 how c op,ao,co)])) (q3:W.heap.size<=b) (q4:v'.ownBlock≠some b) q5 (q6:Kept D v.ownBlock noX W w') (q7:Nxt W v.ownBlock v'.ownBlock)=>
  (bw8 (X:=X) (fun k h=>Nat.lt_of_lt_of_le (hX k h) hb.size) (k:=1) (vo:=.slice ao op.length co) (v:=v) hB (Nat.lt_of_lt_of_le hDl hb.size) (by omega) q1 q2 q3 q4 q5 q6 q7).pre hb
 have Eu:(rows.map (·.1)++[(am9 how c op,ao,co).1],l8 rows.length 1)=K4 how c (ns,op):=by rw[Bl,Y3];unfold K4;simp only[<- Bl,List.length_map]
 rw[Eu] at Cb;have hD1:∀W,Bq w W->W.cell? ⟨D,1,none⟩=some (.slice ao op.length co):=fun W hb=>by rw[cell_of_row _ _ _ _ _ _ ((hb.block _ hDl).trans hD)];rfl
 have HCF:Hid _:=fun (W:World) (v':Value) (q:W.heap[D]? = some (.cells #[v',.slice ao op.length co] 144 (0,0)))=>(show W.cell? ⟨D,1,none⟩=some (.slice ao op.length co)/\W.frozen? ⟨D,1,none⟩=false from ⟨by rw[cell_of_row _ _ _ _ _ _ q];rfl,frozen_of_row _ _ _ _ _ q⟩);unfold D2 am9 at Ea;simp only at Ea;unfold Cmd.v;generalize op.length=NO' at *;generalize (⟨c.word.toArray⟩:ByteArray)=wx at *;generalize c.kind=ck at *;generalize c.n=cn at *;have hq1:=hD1 _ (b9 (w:=w) (o:=.cells #[.int .i64 ck,.string wx,.int .i64 cn] 70));clear hD hN hP Eu hD1 Bl hrl hl;go_enter Tryz.func141,Tryz.ntmps141;go_upto_region 1 with fail
 go_region_with (first
  | (go_at_call 90;refine (Ea.out _ (by first | exact b9 | exact b9.drew)).mono ?_;rintro e w4 ⟨v4,b4,rfl,q1,q2,q3,q4,q5,q6,q7⟩;obtain⟨d1,f1⟩:=HCF.out _ _ q1))
 all_goals
  have HF:Hid _:=Cb.out _ _ _ _ (by first | exact b9 | exact b9.drew) q1 q2 q3 q4 q5 q6 q7
  clear q1 q2 q3 q4 q5 q6 q7
  refine bodyPost_end (v:=.tuple #[]) (by simp[results,go_sem]) rfl ?_
  exact⟨rfl,HF.out⟩
theorem aU9 (B D:Nat) (go:Option Nat) (X:Nat->Prop) (d:PD) (w:World) (h:DSt w B D go X d) (hl:d.1.length<=60) (hBw:B<=w.heap.size) :
 Calls Tryz.prog 91 #[.pointer (some ⟨D,0,none⟩)] w fun e w'=>e=.returned (.tuple #[])/\E6 w w' B D go X (G9 d):=by
 have HJ:Hid _:=bl2 1 noC B D go X d w h hl hBw;have HS:=qH h;obtain⟨v,rows,ao,co,rfl,hD,hN,Bl,hP,hB,hX⟩:=h;have hD1:w.cell? ⟨D,1,none⟩=some (.slice ao d.2.length co):=by rw[cell_of_row _ _ _ _ _ _ hD];rfl
 have hm:=L2 hP.1;obtain⟨N,hN'⟩:=qE d.2.length;unfold Cmd.v noC at HJ;simp only at HJ;unfold G9;rw[<- hN'] at hD1 hm ⊢;clear hD hN hP Bl hN' hl;by_cases h1:1<N
 . rw[if_pos h1];go_enter Tryz.func91,Tryz.ntmps91;go_wp2_with fail;refine Calls.mono HJ.out ?_;rintro e w4 ⟨rfl,hst⟩;have HF:Hid _:=hst;clear hst HJ;go_wp2_with fail;refine bodyPost_end (v:=.tuple #[]) (by simp[results,go_sem]) rfl ?_;exact⟨rfl,HF.out⟩
 . rw[if_neg h1];clear HJ;go_enter Tryz.func91,Tryz.ntmps91;go_wp2_with fail;refine bodyPost_end (v:=.tuple #[]) (by simp[results,go_sem]) rfl ?_;exact⟨rfl,_,HS.out,Kept.refl _ _ _ _,Nxt.refl _ _⟩
theorem DSt.less {w:World} {B D:Nat} {go:Option Nat} {X X':Nat->Prop} {d:PD} (h:DSt w B D go X d) (hx:∀k,k<w.heap.size->X' k->X k) (hl:∀k,X' k->k<w.heap.size):DSt w B D go X' d:=by obtain⟨v,rows,ao,co,h1,h2,h3,h4,h5,h6,h7⟩:=h;exact⟨v,rows,ao,co,h1,h2,h3.less hx,h4,h5.less hx,h6,hl⟩
theorem aB1 {w w':World} {B:Nat} {e:TypeId} {size:Nat} {v:Value} {n:Nat} {xs:List Value} (h:w.ownsRow B e size v n xs) (hk:∀g,v.ownBlock=some g->g<w.heap.size->w'.heap[g]? = w.heap[g]?):w'.ownsRow B e size v n xs:=by
 refine⟨h.1,?_⟩;rcases h.2 with ⟨e1,h0⟩ | ⟨g,cap,cur,e1,hb,h1,h2⟩
 . exact Or.inl ⟨e1,h0⟩
 . refine Or.inr ⟨g,cap,cur,e1,hb,?_,h2⟩;rw[hk g (by rw[e1];rfl) (L6 h1)];exact h1
theorem aV0 {w:World} {B:Nat} {e:TypeId} {size:Nat} {v:Value} {n:Nat} {xs:List Value} (h:w.ownsRow B e size v n xs):∀g,v.ownBlock=some g->g<w.heap.size:=by
 intro g hg;rcases h.2 with ⟨rfl,h0⟩ | ⟨g',cap,cur,rfl,hb,h1,_⟩
 . simp[Value.ownBlock] at hg
 . simp[Value.ownBlock] at hg;subst hg;exact L6 h1
theorem aM3 {w:World} {B:Nat} {v:Value} {ps:List (Int × Int)} (h:w.ownsRow B 79 2 v ps.length (A8 ps)):∃ao cap,v=.slice ao ps.length cap/\E2 w (.slice ao ps.length cap) ps:=by
 rcases id h.2 with ⟨rfl,h0⟩ | ⟨g,cap,cur,rfl,hb,hg,h1,h2,h3,h4⟩
 . exact⟨none,0,by rw[h0],none,0,rfl,by omega,by simp[maxLen],fun hn=>absurd h0 hn⟩
 . refine⟨_,cap,rfl,_,cap,rfl,h1,h2,fun _=>⟨g,0,rfl,fun j p hp=>?_⟩⟩;obtain⟨a1,a2⟩:=aI5 ps j p hp;have hjl:j<ps.length:=(gSm hp).1;have c1:=h.cellAt (j*2) (by omega);have c2:=h.cellAt (j*2+1) (by omega);rw[a1] at c1;rw[a2] at c2;exact⟨by rw[Nat.zero_add];exact c1,by rw[Nat.zero_add];exact c2⟩
theorem aV1 {w:World} {b:Nat} {cs:List Value} {t:TypeId} (h:w.heap[b]? = some (.cells cs.toArray t (0,0))):∀j u,cs[j]? = some u->w.cell? ((⟨b,0,none⟩:Addr).add j)=some u:=by
 intro j u hj;have e:((⟨b,0,none⟩:Addr).add j)=⟨b,j,none⟩:=by simp[Addr.add];try omega
 rw[e,cell_of_row _ _ _ _ _ _ h];simpa using hj
theorem aV2 (ps:List (Int × Int)):∀u∈A8 ps,u.oneCell'=true:=by intro u hu;unfold A8 at hu;rw[List.mem_flatten] at hu;obtain⟨l,hl,hul⟩:=hu;obtain⟨p,_,rfl⟩:=List.mem_map.1 hl;simp at hul;rcases hul with rfl | rfl <;> rfl
def wk (c:Cmd) (ns:List SNode) (op:List (Int × Int)) (k:Nat):PD:=(op.take k).foldl (an0 c) (ns,[])
theorem bM2 {c:Cmd} {ns:List SNode} {op:List (Int × Int)} {k:Nat} {p:Int × Int} (h:op[k]? = some p):wk c ns op (k+1)=an0 c (wk c ns op k) p:=by unfold wk;rw[List.take_add_one,h,Option.toList_some,List.foldl_append];rfl
theorem cj2 {c:Cmd} {ns:List SNode} {op:List (Int × Int)} {k:Nat} (h:k<=op.length):(wk c ns op k).1.length=ns.length+k/\(wk c ns op k).2.length=k:=by have:=an2 c (op.take k) (ns,[]);simp only[List.length_nil,Nat.zero_add,List.length_take,Nat.min_eq_left h] at this;exact this
def LRel (W wr:World) (B D:Nat) (go1:Option Nat) (X0:Nat->Prop) (ns1:List SNode) (op1:List (Int × Int)) (ao1:Option Addr) (co1:Nat) (c:Cmd) (k:Nat) (dv v:Value) (rows:List NRow):Prop:=
 wr.heap[D]? = some (.cells #[v,.slice ao1 op1.length co1] 144 (0,0))/\NO wr B D (fun q=>X0 q\/dv.ownBlock=some q) 73 v rows/\rows.map (·.1)=(wk c ns1 op1 k).1 /\
 wr.ownsRow B 79 2 dv k (A8 (wk c ns1 op1 k).2)/\(∀g,dv.ownBlock=some g->v.ownBlock≠some g/\W.heap.size<=g)/\Kept D go1 noX W wr/\Nxt W go1 v.ownBlock
theorem LRel.start {W:World} {B D:Nat} {go1:Option Nat} {X0:Nat->Prop} {ns1:List SNode} {op1:List (Int × Int)} {ao1:Option Addr} {co1:Nat} (c:Cmd) {v:Value} {rows:List NRow} (e1:go1=v.ownBlock) (h1:W.heap[D]? = some (.cells #[v,.slice ao1 op1.length co1] 144 (0,0))) (h2:NO W B D X0 73 v rows) (h3:rows.map (·.1)=ns1):LRel W W B D go1 X0 ns1 op1 ao1 co1 c 0 (.slice none 0 0) v rows:=by refine⟨h1,h2.less (fun k _ hk=>by rcases hk with hk | hk;exact hk;simp[Value.ownBlock] at hk),by simp[wk,h3],?_,fun g hg=>by simp[Value.ownBlock] at hg,Kept.refl _ _ _ _,Or.inl e1.symm⟩;exact World.ownsRow_nil _ _ _ _
theorem LRel.ports {W wr:World} {B D:Nat} {go1:Option Nat} {X0:Nat->Prop} {ns1:List SNode} {op1:List (Int × Int)} {ao1:Option Addr} {co1:Nat} {c:Cmd} {k:Nat} {dv v:Value} {rows:List NRow} (h:LRel W wr B D go1 X0 ns1 op1 ao1 co1 c k dv v rows) (hp:POff W D go1 X0 ao1 co1 op1):POff wr D v.ownBlock X0 ao1 co1 op1:=
 hp.keep (h.2.2.2.2.2.1.more (fun k e=>e.elim)) h.2.2.2.2.2.2 (NxtX.refl _ _)
theorem LRel.add {W wr W2:World} {B D X2:Nat} {go1:Option Nat} {X0:Nat->Prop} {ns1:List SNode} {op1:List (Int × Int)} {ao1:Option Addr} {co1:Nat} {c:Cmd} {k:Nat} {dv v:Value} {rows:List NRow} (h:LRel W wr B D go1 X0 ns1 op1 ao1 co1 c k dv v rows) (p:Int × Int) (hX0:∀q,X0 q->q<W.heap.size)
 (hb:Bq wr W2) (hc:W2.heap[X2]? = some (.cells #[.int .i64 p.1,.int .i64 p.2] 79 (0,0))) (hx:wr.heap.size<=X2) (hl:rows.length<=60) (hB:B<=D) (hBw:B<=wr.heap.size) :
 Calls Tryz.prog 90 #[.pointer (some ⟨D,0,none⟩),D2 (ab6 c p) (some ⟨X2,0,none⟩) 1 1] W2 fun e w'=>aU5 W2 B D (fun q=>X0 q\/dv.ownBlock=some q) v (.slice ao1 op1.length co1) rows (ab6 c p,some ⟨X2,0,none⟩,1) 1 e w':=by
 obtain⟨h1,h2,h3,h4,h5,h6,h7⟩:=h;have hDl:=L6 h1;refine aU6 (ab6 c p) (some ⟨X2,0,none⟩) 1 D B _ v _ rows W2 1 rfl (by omega) ((hb.block _ hDl).trans h1) (h2.below hb) ⟨⟨_,1,rfl,by simp[ab6],by simp[maxLen],fun _=>⟨X2,0,rfl,fun j q hq=>?_⟩⟩,?_⟩ hl hB (Nat.le_trans hBw hb.size)
 .
  cases j with
  | zero=>
   simp[ab6] at hq
   subst hq
   rw[cell_of_row _ _ _ _ _ _ hc,cell_of_row _ _ _ _ _ _ hc]
   exact⟨rfl,rfl⟩
  | succ j=>simp[ab6] at hq
 .
  intro _ a ha hf;injection ha with ha;subst ha;rcases hf with e | e | e | e
  . simp only at e;omega
  . have:=(h2.base _ e).2;simp only at this;omega
  . have:=hX0 _ e;have:=h6.size;simp only at *;omega
  . have:=aV0 h4 _ e;simp only at this;omega
theorem LRel.own4 {W wr W2 w4:World} {B D:Nat} {go1:Option Nat} {X0:Nat->Prop} {ns1:List SNode} {op1:List (Int × Int)} {ao1:Option Addr} {co1:Nat} {c:Cmd} {k:Nat} {dv v:Value} {rows:List NRow} (h:LRel W wr B D go1 X0 ns1 op1 ao1 co1 c k dv v rows) (hb:Bq wr W2) (hk:Kept D v.ownBlock noX W2 w4) (hDW:D<W.heap.size):w4.ownsRow B 79 2 dv k (A8 (wk c ns1 op1 k).2):=by
 obtain⟨h1,h2,h3,h4,h5,h6,h7⟩:=h;refine aB1 h4 (fun g hg hl=>?_);rw[hk.block g (Nat.lt_of_lt_of_le hl hb.size) (fun e=>?_),hb.block g hl];rcases e with e | e | e
 . have:=(h5 g hg).2;omega
 . exact (h5 g hg).1 e
 . exact e
theorem LRel.step {W wr W2 w4 w5:World} {B D:Nat} {go1:Option Nat} {X0:Nat->Prop} {ns1:List SNode} {op1:List (Int × Int)} {ao1:Option Addr} {co1:Nat} {c:Cmd} {k:Nat} {dv v:Value} {rows:List NRow} (h:LRel W wr B D go1 X0 ns1 op1 ao1 co1 c k dv v rows) {p:Int × Int} (hp:op1[k]? = some p) (hDW:D<W.heap.size) (hX0:∀q,X0 q->q<W.heap.size)
 (hb:Bq wr W2) {v4 dv5:Value} {r:NRow} (hr:r.1=ab6 c p) (q1:w4.heap[D]? = some (.cells #[v4,.slice ao1 op1.length co1] 144 (0,0))) (q2:NO w4 B D (fun q=>X0 q\/dv.ownBlock=some q) 73 v4 (rows++[r])) (q6:Kept D v.ownBlock noX W2 w4) (q7:Nxt W2 v.ownBlock v4.ownBlock)
 (ow:w5.ownsRow B 79 2 dv5 (k+1) (A8 (wk c ns1 op1 k).2++A8 (l8 rows.length 1))) (gr:w4.grownBy w5 dv.ownBlock) (bl:dv5.ownBlock=dv.ownBlock\/dv5.ownBlock=some w4.heap.size) :
 LRel W w5 B D go1 X0 ns1 op1 ao1 co1 c (k+1) dv5 v4 (rows++[r]):=by
 obtain⟨h1,h2,h3,h4,h5,h6,h7⟩:=h;have hkl:k<=op1.length:=by have:=(gSm hp).1;omega
 have hrl:rows.length=(wk c ns1 op1 k).1.length:=by rw[<- h3];simp
 have hs1:=hb.size;have hs2:=q6.size;have hs0:=h6.size;have hne:∀g,dv.ownBlock=some g->v4.ownBlock≠some g:=by
  intro g hg e;rcases q7 with e7 | ⟨g',e7,hg'⟩
  . exact (h5 g hg).1 (by rw[<- e7];exact e)
  . rw[e7] at e;injection e with e;have:=aV0 h4 g hg;omega
 have hv4:∀g,v4.ownBlock=some g->g<w4.heap.size:=fun g hg=>(q2.base g hg).2;have hND:Nxt w4 dv.ownBlock dv5.ownBlock:=by
  rcases bl with e | e
  . exact .inl e
  . exact .inr ⟨_,e,Nat.le_refl _⟩
 have hkd:Kept D v4.ownBlock (fun q=>X0 q\/dv.ownBlock=some q) w4 w5:=Kept.of_grown gr (fun k e=>.inr (.inr (.inr e)));refine⟨?_,q2.keep hkd (fun g hg=>gr.block g (hv4 g hg) (fun e=>hne g e.symm hg)) (fun q hq hx=>?_),?_,?_,?_,?_,?_⟩
 . rw[gr.block D (by omega) (fun e=>by have:=(h5 D e.symm).2;omega)];exact q1
 . rcases hx with hx | hx
   . exact .inl hx
   . exact .inr (hND.old hq hx)
 . rw[List.map_append,h3,bM2 hp,List.map_cons,List.map_nil,hr];rfl
 . have e2:A8 (wk c ns1 op1 (k+1)).2=A8 (wk c ns1 op1 k).2++A8 (l8 rows.length 1):=by rw[bM2 hp,Y3,hrl];simp[an0,A8]
   rw[e2];exact ow
 .
  intro g hg;rcases bl with e | e
  . rw[e] at hg;exact⟨hne g hg,(h5 g hg).2⟩
  . rw[e] at hg;injection hg with hg;refine⟨fun e3=>?_,by omega⟩;have:=hv4 g e3;omega
 . have k1:Kept D go1 noX W W2:=h6.trans (Kept.of_below hb) h7 (NxtX.refl _ _);have k2:Kept D go1 noX W w4:=k1.trans q6 h7 (NxtX.refl _ _);refine⟨gr.os.trans k2.os,gr.tape.trans k2.tape,gr.output.trans k2.output,Nat.le_trans k2.size gr.size,fun i hi hn=>?_⟩;rw[gr.block i (by omega) (fun e=>by have:=(h5 i e.symm).2;omega)];exact k2.block i hi hn
 . exact h7.trans q7 (by omega)
theorem LRel.done {W wr:World} {B D:Nat} {go1:Option Nat} {X0:Nat->Prop} {ns1:List SNode} {op1:List (Int × Int)} {ao1:Option Addr} {co1:Nat} {c:Cmd} {k:Nat} {dv v:Value} {rows:List NRow} (h:LRel W wr B D go1 X0 ns1 op1 ao1 co1 c k dv v rows) (hk:k=op1.length) (hDW:D<W.heap.size) (hB:B<=D) (hX0:∀q,X0 q->q<W.heap.size) :
 E6 W (wr.setCell ⟨D,1,none⟩ dv) B D go1 X0 (O8 c (ns1,op1)):=by
 subst hk;obtain⟨h1,h2,h3,h4,h5,h6,h7⟩:=h;have hw:wk c ns1 op1 op1.length=O8 c (ns1,op1):=by unfold wk O8;rw[List.take_length]
 have hl2:=(cj2 (c:=c) (ns:=ns1) (op:=op1) (Nat.le_refl _)).2;rw[hw] at h3 h4 hl2;have hs0:=h6.size;have h4':wr.ownsRow B 79 2 dv (O8 c (ns1,op1)).2.length (A8 (O8 c (ns1,op1)).2):=by rw[hl2];exact h4
 obtain⟨ao,cap,rfl,hrp⟩:=aM3 h4';have Aq:∀a,ao=some a -> ¬FS D v.ownBlock X0 a.block:=by
  intro a ha hf;have ho:(Value.slice ao (O8 c (ns1,op1)).2.length cap).ownBlock=some a.block:=by rw[ha];rfl
  have hg:=h5 _ ho;rcases hf with e | e | e
  . omega
  . exact hg.1 e
  . have:=hX0 _ e;omega
 refine⟨v.ownBlock,⟨v,rows,ao,cap,rfl,?_,(h2.less (fun k _ hk=>Or.inl hk)).set rfl,h3,⟨?_,fun _=>Aq⟩,hB,fun k hk=>by have:=hX0 k hk;simp;omega⟩,h6.set rfl,h7⟩
 . rw[heap_setCell_same _ _ _ _ _ _ h1];simp
 . refine aL3 hrp (fun hn a ha hl=>Below.heap_setCell _ _ _ _ (fun e=>Aq a ha (.inl e)))
theorem bl3 (k:Int):(k=6/\E1 k=2)\/(k=8/\E1 k=3)\/(k=7/\E1 k=4)\/(k=9/\E1 k=4)\/(k=10/\E1 k=4)\/(k≠6/\k≠7/\k≠8/\k≠9/\k≠10/\E1 k=1):=by
 unfold E1;by_cases h6:k=6
 . simp[h6]
 .
  by_cases h8:k=8
  . simp[h8]
  .
   by_cases h7:k=7
   . simp[h7]
   . by_cases h9:k=9
     . simp[h9]
     . by_cases h10:k=10
       . simp[h10]
       . simp[*]
theorem cv8 (c:Cmd) (w:World) (hw:c.word.length<=9223372036854775807) :
 Calls Tryz.prog 143 #[c.v] w fun e w'=>e=.returned (.tuple #[.int .i64 (if chk c=0 then E1 c.kind else 0),.int .i64 (chk c)])/\Bq w w':=by
 have Ar:=fun W=>am4 c W hw;obtain⟨k,word,n⟩:=c;unfold Cmd.v at Ar ⊢;simp only at Ar ⊢;generalize (⟨word.toArray⟩:ByteArray)=sx at *;by_cases h0:chk ⟨k,word,n⟩=0
 .
  rw[h0] at Ar ⊢;rw[if_pos rfl];have hkk:=bl3 k;clear h0;generalize E1 k=h at *;rcases hkk with ⟨rfl,rfl⟩ | ⟨rfl,rfl⟩ | ⟨rfl,rfl⟩ | ⟨rfl,rfl⟩ | ⟨rfl,rfl⟩ | ⟨h6,h7,h8,h9,h10,rfl⟩
  all_goals
   go_enter Tryz.func143,Tryz.ntmps143
   go_wp2_with fail
   refine (Ar _).mono ?_
   rintro e w1 ⟨rfl,hb1⟩
   obtain⟨bx0,bx1,bx2⟩:=cx2 hb1
   have HB:Hid (Bq w w1):=b9.trans (hb1.mono (by simp))
   clear hb1 Ar
   go_wp2_with fail
   go_ret2
   exact⟨rfl,HB.out⟩
 . rw[if_neg h0];generalize chk ⟨k,word,n⟩=r at *;go_enter Tryz.func143,Tryz.ntmps143;go_wp2_with fail;refine (Ar _).mono ?_;rintro e w1 ⟨rfl,hb1⟩;have HB:Hid (Bq w w1):=b9.trans (hb1.mono (by simp));clear hb1 Ar;go_wp2_with fail;go_ret2;exact⟨rfl,HB.out⟩
end Go.Proofs.YtllgglolcgdehaaGreatDoor
