/- Ports as keys of a map that a call makes, and more. -/
import Derived.Test.YtllgglolcgdehaaGreatDoorQAb
import Derived.Maps.Own
import Derived.Maps.OwnOps
import Derived.Maps.OwnSet
import Derived.Maps.Views
import Derived.DeepKeys4
import Derived.MapViews
import Derived.ChangeSame
import Derived.Test.YtllgglolcgdehaaGreatDoorQa00
set_option maxRecDepth 100000
set_option maxHeartbeats 16000000
namespace Go.Proofs.YtllgglolcgdehaaGreatDoor
open Go.RowKit Go.Gs Go.Maps Go.ChangeShapes Go.WideShapes
set_option linter.unusedVariables false
theorem aQ2:(match Tryz.prog.underlying 79 with | some (.array _ _) | some (.struct _)=>true | _=>false)=true:=by rw[Tryz.underlying79]
theorem cn8:Tryz.prog.keyTypeAt 2 79 = true:=by kernel_rfl
theorem ba2:Tryz.prog.tiled 2 79 = true:=by kernel_rfl
theorem cn9:Go.WideMaps.KeyLaw Tryz.prog 79:=deep_law (m:=2) (by omega) cn8 ba2 aQ2
theorem aa3:Keyed Tryz.prog 79:=Keyed.of_law cn9
theorem cc2:Tryz.prog.keyTypeAt (Tryz.prog.types.size+1) 79 = true:=by kernel_rfl
theorem ba3:Tryz.prog.cellsOf 79 = 2:=by kernel_rfl
def aK3 (p:Int × Int):Value:=.agg #[.int .i64 p.1,.int .i64 p.2]
theorem bB6 (p:Int × Int):(aK3 p).formed Tryz.prog 79 = true:=by simp[aK3,Value.formed,Tryz.underlying79,ba3]
def WfP (p:Int × Int):Prop:=(Lit.int .i64 p.1).wf=true/\(Lit.int .i64 p.2).wf=true
theorem intCells:Tryz.prog.cellsOf 3 = 1:=by kernel_rfl
theorem bN4 (w:World) (p:Int × Int) (h:WfP p):DataW.Trod (H:=Unit) (fun _=>()) Tryz.prog w 0 (fun _=>true) false 79 (aK3 p) (.agg [.lit (.int .i64 p.1),.lit (.int .i64 p.2)]) []:=by
 refine⟨2,?_⟩
 have:=trod_struct2_mk (H:=Unit) (enc:=fun _=>()) (P:=Tryz.prog) (w:=w) (base:=0) (spare:=fun _=>true) (held:=false) (n:=1) (cs:=[.int .i64 p.1,.int .i64 p.2]) (y0:=(.lit (.int .i64 p.1),[])) (y1:=(.lit (.int .i64 p.2),[])) Tryz.underlying79 (by rw[ba3];rfl)
  (by simp only[intCells];exact trod_int_mk 0 Tryz.underlying3 h.1) (by simp only[intCells];exact trod_int_mk 0 Tryz.underlying3 h.2)
 simpa[aK3,Value.cells] using this
def as1 (p:Int × Int):Lit:=(DataW.agg [.lit (.int .i64 p.1),.lit (.int .i64 p.2)]:DataW Unit).asKey
theorem ah1 (w:World) (p:Int × Int) (h:WfP p):keyOf Tryz.prog 79 (aK3 p)=some (as1 p):=(keyOf_asKey cc2 aQ2 (bB6 p) (bN4 w p h)).1
theorem ba4 (w:World) {p q:Int × Int} (hp:WfP p) (hq:WfP q) (h:as1 p=as1 q):p=q:=by have h1:=ah1 w p hp;have h2:=ah1 w q hq;rw[<- h] at h2;have:=keyOf_inj_deep ba2 aQ2 h1 h2;simp only[aK3,Value.agg.injEq,Array.mk.injEq,List.cons.injEq,Value.int.injEq,true_and,and_true] at this;exact Prod.ext this.1 this.2
theorem bN5 (w:World) (p:Int × Int) (h:WfP p):WideAt.IsKeyLit (as1 p):=aa3.key (ah1 w p h)
def J8 (w:World) (R:Value->Option (DataW Unit × List MemPlace)) (b n:Nat) (t:List (Int × Int)):Prop:=
 ∃D:DataW Unit,w.ownsMap Tryz.prog 79 R b n D/\(∀p,WfP p->Go.Maps.has D (as1 p)=decide (p∈t))/\Go.Maps.size D=t.length /\ ∀p∈t,WfP p
end Go.Proofs.YtllgglolcgdehaaGreatDoor
namespace Go.Gs
open Go.RowKit
set_option linter.unusedVariables false
abbrev J1:=List ((Int × Int) × Nat)
def J1.sum (L:J1):Nat:=(L.map (·.2)).sum
theorem J1.sum_append (a b:J1):J1.sum (a++b)=J1.sum a+J1.sum b:=by simp[J1.sum]
theorem ba5 (p:Int × Int) (s:Nat):∀(L:J1),(p,s)∈L->J1.sum (L.filter (fun x=>x.1 != p))+s<=J1.sum L
 | [],h=>by simp at h
 | x::r,h=>by
  have hr:J1.sum (r.filter (fun x=>x.1 != p))<=J1.sum r:=by
   clear h
   induction r with
   | nil=>simp[J1.sum]
   | cons y q ih=>
    rw[List.filter_cons]
    split
    . simp only[J1.sum,List.map_cons,List.sum_cons] at ih ⊢;omega
    . simp only[J1.sum,List.map_cons,List.sum_cons] at ih ⊢;omega
  rcases List.mem_cons.1 h with rfl | h
  . rw[List.filter_cons,if_neg (by simp)]
    simp only[J1.sum,List.map_cons,List.sum_cons] at hr ⊢
    omega
  . have ih:=ba5 p s r h
    rw[List.filter_cons]
    split
    . simp only[J1.sum,List.map_cons,List.sum_cons] at ih ⊢;omega
    . simp only[J1.sum,List.map_cons,List.sum_cons] at ih ⊢;omega
theorem ah2 (f:Int × Int->Nat):∀(ps:List (Int × Int)) (L:J1),ps.Nodup->(∀p∈ps,(p,f p)∈L) ->
 ∃L':J1,J1.sum L'+(ps.map f).sum<=J1.sum L /\ ∀x∈L,x.1∉ps->x∈L'
 | [],L,_,_=>⟨L,by simp,fun x h _=>h⟩
 | p::r,L,hn,h=>by
  rw[List.nodup_cons] at hn
  have h1:=ba5 p (f p) L (h p (by simp))
  obtain⟨L',h2,h3⟩:=ah2 f r (L.filter (fun x=>x.1 != p)) hn.2 (fun q hq=>by
   rw[List.mem_filter]
   refine⟨h q (by simp[hq]),?_⟩
   have:q≠p:=fun e=>hn.1 (e ▸ hq)
   simpa using this)
  refine⟨L',by simp only[List.map_cons,List.sum_cons];omega,fun x hx hp=>?_⟩
  rw[List.mem_cons,not_or] at hp
  exact h3 x (List.mem_filter.2 ⟨hx,by simpa using hp.1⟩) hp.2
theorem ba6 (k:Nat) (outs:List (List UInt8)):J1.sum ((List.range outs.length).map (fun (j:Nat)=>(((k:Int),(j:Int)),(outs[j]?.getD []).length)))=outs.flatten.length:=by
 unfold J1.sum;rw[List.map_map,as0];congr 1;apply List.ext_getElem?;intro i;by_cases hi:i<outs.length
 . simp[hi]
 . simp[hi]
def bo7 (fs:List SFile) (ns:List SNode) (k:Nat):Prop:=
 ∃(tk:List (Int × Int)) (L:J1),y8 [] ns []=y8 (ns.take k) (ns.drop k) tk/\J1.sum L<=4020*k /\
  ∀p,A7 (ns.take k) p=true->p∉tk->(p,(j3 (j5 fs [] (ns.take k)) p).length)∈L
theorem V2 {ahead r:List SNode} {n:SNode} {t:List (Int × Int)} (h:(y8 ahead (n::r) t).1=0) :
 l7 n=0/\(D4 ahead n.ins t).1=0/\(r.isEmpty=decide (n.kind=5))/\y8 ahead (n::r) t=y8 (ahead++[n]) r (D4 ahead n.ins t).2:=by
 have h0:=h;unfold y8 at h;by_cases h1:l7 n≠0
 . rw[if_pos h1] at h;exact absurd h h1
 .
  rw[if_neg h1] at h;by_cases h2:(D4 ahead n.ins t).1≠0
  . rw[if_pos h2] at h;exact absurd h h2
  .
   rw[if_neg h2] at h;by_cases h3:r.isEmpty≠decide (n.kind=5)
   . rw[if_pos h3] at h;cases h
   . refine⟨by simpa using h1,by simpa using h2,by simpa using h3,?_⟩;conv=>lhs;unfold y8
     rw[if_neg h1,if_neg h2,if_neg h3]
theorem Y0 {ns:List SNode} {k:Nat} {n:SNode} (h:ns[k]? = some n):ns.drop k=n::ns.drop (k+1):=by obtain⟨hk,e⟩:=gSm h;rw[<- e,<- List.drop_eq_getElem_cons hk]
theorem ac6 {ns:List SNode} {k:Nat} {n:SNode} (h:ns[k]? = some n):ns.take (k+1)=ns.take k++[n]:=by rw[List.take_add_one,h,Option.toList_some]
theorem ba7 {fs:List SFile} {ns:List SNode} {k:Nat} {n:SNode} (hg:(y8 [] ns []).1=0) (ha:bo7 fs ns k) (hn:ns[k]? = some n) :
 l7 n=0/\(∀p∈n.ins,A7 (ns.take k) p=true)/\((ns.drop (k+1)).isEmpty=decide (n.kind=5))/\(n.ins.map (j3 (j5 fs [] (ns.take k)))).flatten.length<=4020*k:=by obtain⟨tk,L,h1,h2,h3⟩:=ha;rw[h1,Y0 hn] at hg;obtain⟨e1,e2,e3,e4⟩:=V2 hg;obtain⟨f1,f2,f3⟩:=aa2 _ _ _ e2;refine⟨e1,fun p hp=>(f2 p hp).1,e3,?_⟩;obtain⟨L',g1,_⟩:=ah2 (fun p=>(j3 (j5 fs [] (ns.take k)) p).length) n.ins L f3 (fun p hp=>h3 p (f2 p hp).1 (f2 p hp).2);rw[as0,List.map_map];have:(List.map (List.length ∘ j3 (j5 fs [] (ns.take k))) n.ins).sum=(List.map (fun p=>(j3 (j5 fs [] (ns.take k)) p).length) n.ins).sum:=rfl;omega
theorem bo8 (fs:List SFile) (ns:List SNode):bo7 fs ns 0:=⟨[],[],by simp,by simp[J1.sum],fun p h=>by
 obtain⟨i,j,n,_,hn,_⟩:=U1 h
 simp at hn⟩
theorem bB7 {fs:List SFile} {ns:List SNode} {k:Nat} {n:SNode} (hf:∀f∈fs,f.b.length<=4000) (h60:ns.length<=60) (hg:(y8 [] ns []).1=0) (ha:bo7 fs ns k) (hn:ns[k]? = some n):bo7 fs ns (k+1):=by
 have hk:k<ns.length:=(gSm hn).1;obtain⟨q1,q2,q3,q4⟩:=ba7 hg ha hn;obtain⟨tk,L,h1,h2,h3⟩:=ha;have hg0:=hg;rw[h1,Y0 hn] at hg;obtain⟨e1,e2,e3,e4⟩:=V2 hg;obtain⟨f1,f2,f3⟩:=aa2 _ _ _ e2;obtain⟨L',g1,g2⟩:=ah2 (fun p=>(j3 (j5 fs [] (ns.take k)) p).length) n.ins L f3 (fun p hp=>h3 p (f2 p hp).1 (f2 p hp).2);have hml:=aC8 e1 fs hf (n.ins.map (j3 (j5 fs [] (ns.take k)))) (by simp) (by omega);obtain⟨outs,ho⟩:=qE (i8 n fs (n.ins.map (j3 (j5 fs [] (ns.take k)))));have Cc:=m9 e1 fs (n.ins.map (j3 (j5 fs [] (ns.take k))));have Ai:=al5 fs ns k hn;rw[<- ho] at hml Cc Ai;refine⟨tk++n.ins,L'++(List.range outs.length).map (fun (j:Nat)=>(((k:Int),(j:Int)),(outs[j]?.getD []).length)),?_,?_,?_⟩
 . rw[h1,Y0 hn,e4,f1,ac6 hn]
 . rw[J1.sum_append,ba6];have hs:(n.ins.map (j3 (j5 fs [] (ns.take k)))).flatten.length=(List.map (fun p=>(j3 (j5 fs [] (ns.take k)) p).length) n.ins).sum:=by rw[as0,List.map_map];rfl
   omega
 .
  intro p hp hpt;rw[List.mem_append,not_or] at hpt;obtain⟨i,j,m,rfl,hm,hj⟩:=U1 hp;rw[List.mem_append];have hik:i<(ns.take (k+1)).length:=(gSm hm).1;rw[List.length_take] at hik;rw[Ai];by_cases hlt:i<k
  .
   left;have hp':A7 (ns.take k) ((i:Int),(j:Int))=true:=by
    unfold A7;have hm':(ns.take k)[i]? = some m:=by rw[List.getElem?_take_of_lt hlt];rwa [List.getElem?_take_of_lt (by omega)] at hm
    simp only[Int.toNat_natCast,hm',Option.map_some,Option.getD_some,Bool.and_eq_true,decide_eq_true_eq];refine⟨⟨⟨by omega,?_⟩,by omega⟩,hj⟩;rw[List.length_take];omega
   have hin:=h3 _ hp' hpt.1;have hpa:j3 (j5 fs [] (ns.take k)++[outs]) ((i:Int),(j:Int))=j3 (j5 fs [] (ns.take k)) ((i:Int),(j:Int)):=by unfold j3;rw[List.getElem?_append_left (by rw[I7,List.length_take];simp;omega)]
   rw[hpa];exact g2 _ hin hpt.2
  . right;have Ua:i=k:=by omega
    subst Ua;have hmn:m=n:=by rw[List.getElem?_take_of_lt (by omega),hn] at hm;injection hm with hm;exact hm.symm
    subst hmn;rw[List.mem_map];refine⟨j,List.mem_range.2 (by omega),?_⟩;unfold j3;rw[List.getElem?_append_right (by rw[I7,List.length_take];simp;omega),I7,List.length_take,Nat.min_eq_left (by omega)];simp
theorem ba8 {fs:List SFile} {ns:List SNode} (hf:∀f∈fs,f.b.length<=4000) (h60:ns.length<=60) (hg:(y8 [] ns []).1=0):∀k,k<=ns.length->bo7 fs ns k
 | 0,_=>bo8 fs ns
 | k+1,h=>by
  have hk:k<ns.length:=by omega
  exact bB7 hf h60 hg (ba8 hf h60 hg k (by omega)) (gEl hk)
theorem al6 {ns:List SNode} (h:gchk ns=0):ns.length<=60/\(y8 [] ns []).1=0/\0<ns.length/\((y8 [] ns []).2.length:Int)=G7 ns:=by
 unfold gchk at h;by_cases h1:60<ns.length
 . rw[if_pos h1] at h;cases h
 .
  rw[if_neg h1] at h;by_cases h2:(y8 [] ns []).1≠0
  . rw[if_pos h2] at h;exact absurd h h2
  . rw[if_neg h2] at h;by_cases h3:ns.length=0\/((y8 [] ns []).2.length:Int)≠G7 ns
    . rw[if_pos h3] at h;cases h
    . refine⟨by omega,by simpa using h2,by omega,?_⟩;exact Decidable.byContradiction fun hc=>h3 (.inr hc)
theorem ah3 {fs:List SFile} {ns:List SNode} (h:gchk ns=0) (hf:∀f∈fs,f.b.length<=4000) {k:Nat} {n:SNode} (hn:ns[k]? = some n) :
 l7 n=0/\(∀p∈n.ins,A7 (ns.take k) p=true)/\((n.kind=5) ↔ k+1=ns.length)/\(n.ins.map (j3 (j5 fs [] (ns.take k)))).flatten.length<=241200:=by
 obtain⟨h1,h2,h3,_⟩:=al6 h;have hk:k<ns.length:=(gSm hn).1;obtain⟨q1,q2,q3,q4⟩:=ba7 h2 (ba8 hf h1 h2 k (by omega)) hn;refine⟨q1,q2,?_,by omega⟩;constructor
 . intro e;rw[decide_eq_true e] at q3;have:(ns.drop (k+1)).length=0:=by rw[List.isEmpty_iff.1 q3];rfl
   rw[List.length_drop] at this;omega
 . intro e;have:(ns.drop (k+1)).isEmpty=true:=by rw[List.isEmpty_iff];exact List.drop_eq_nil_of_le (by omega)
   rw[this] at q3;exact of_decide_eq_true q3.symm
theorem aQ3 (fs:List SFile) (ns:List SNode) {i k:Nat} {m:SNode} (hi:ns[i]? = some m) (hik:i<k) (hk:k<=ns.length):(j5 fs [] (ns.take k))[i]? = some (i8 m fs (m.ins.map (j3 (j5 fs [] (ns.take i))))):=by
 have h1:ns.take k=ns.take (i+1)++(ns.take k).drop (i+1):=by have:=List.take_append_drop (i+1) (ns.take k);rw[List.take_take,Nat.min_eq_left (by omega)] at this;exact this.symm
 have hl:(j5 fs [] (ns.take i)).length=i:=by have:i<ns.length:=(gSm hi).1;rw[I7,List.length_take];simp;omega
 rw[h1,X8,an9]
 . rw[al5 fs ns i hi,List.getElem?_append_right (by omega),hl];simp
 . rw[al5 fs ns i hi,List.length_append,hl];simp
theorem bN6 {fs:List SFile} {ns:List SNode} {j:Nat} (hj:j<=ns.length) {p:Int × Int} (hp:A7 (ns.take j) p=true):j3 (j5 fs [] ns) p=j3 (j5 fs [] (ns.take j)) p:=by obtain⟨i,q,m,rfl,hm,hq⟩:=U1 hp;have hij:i<(ns.take j).length:=(gSm hm).1;rw[List.length_take] at hij;exact bo6 fs ns j (by simp) (by simp;omega) hj
theorem y9 {n:SNode} (h:l7 n=0):n.ins.length<=5/\(n.kind=2\/n.kind=3\/n.kind=5->n.ins.length=1):=by
 obtain⟨h1,h2,_⟩:=G8 h;unfold M1 at h2;by_cases g1:n.kind=1
 . rw[if_pos g1] at h2;have:=of_decide_eq_true h2;exact⟨by omega,by omega⟩
 . rw[if_neg g1] at h2;by_cases g4:n.kind=4
   . rw[if_pos g4] at h2;exact⟨(of_decide_eq_true h2).2,by omega⟩
   . rw[if_neg g4] at h2;have:=of_decide_eq_true h2;exact⟨by omega,fun _=>this⟩
theorem aw6 {ns:List SNode} {fs:List SFile} {n:SNode} (h:ns[ns.length-1]? = some n):sunk ns fs=j3 (j5 fs [] ns) (n.ins.head?.getD (0,0)):=by unfold sunk;rw[List.getLast?_eq_getElem?,h];rfl
theorem aO5 {α:Type} [DecidableEq α]:∀(t P:List α),t.Nodup->(∀x∈t,x∈P)->t.length<=P.length
 | [],P,_,_=>Nat.zero_le _
 | x::r,P,hn,hs=>by
  rw[List.nodup_cons] at hn
  have hx:x∈P:=hs x (by simp)
  have ih:=aO5 r (P.erase x) hn.2 (fun y hy=>by
   have hne:y≠x:=fun e=>hn.1 (e ▸ hy)
   exact (List.mem_erase_of_ne hne).2 (hs y (by simp[hy])))
  rw[List.length_erase_of_mem hx] at ih
  have:0<P.length:=List.length_pos_of_mem hx
  simp
  omega
theorem cc3 {α:Type} [DecidableEq α] {t P:List α} (ht:t.Nodup) (hP:P.Nodup) (hs:∀x∈t,x∈P):t.length=P.length ↔ ∀x∈P,x∈t:=by
 constructor
 . intro h x hx;exact Decidable.byContradiction fun hc=>by have:=aO5 (x::t) P (List.nodup_cons.2 ⟨hc,ht⟩) (fun y hy=>by rcases List.mem_cons.1 hy with rfl | hy;exact hx;exact hs y hy);simp at this;omega
 . intro h;have h1:=aO5 t P ht hs;have h2:=aO5 P t hP h;omega
def Y1:Nat->List SNode->List (Int × Int)
 | _,[]=>[]
 | i,n::r=>(List.range (nouts n).toNat).map (fun (k:Nat)=>((i:Int),(k:Int)))++Y1 (i+1) r
theorem Z5:∀(ns:List SNode) (i:Nat) (p:Int × Int),p∈Y1 i ns ↔ ∃(j k:Nat) (n:SNode),ns[j]? = some n/\(k:Int)<nouts n/\p=(((i+j:Nat):Int),(k:Int))
 | [],i,p=>by simp[Y1]
 | m::r,i,p=>by
  unfold Y1
  rw[List.mem_append,Z5 r (i+1) p]
  constructor
  . rintro (h | ⟨j,k,n,h1,h2,rfl⟩)
    . obtain⟨k,hk,rfl⟩:=List.mem_map.1 h
      have:=List.mem_range.1 hk
      exact⟨0,k,m,rfl,by omega,by simp⟩
    . exact⟨j+1,k,n,by simpa using h1,h2,by congr 2;omega⟩
  .
   rintro ⟨j,k,n,h1,h2,rfl⟩
   cases j with
   | zero=>
    left
    simp at h1
    subst h1
    exact List.mem_map.2 ⟨k,List.mem_range.2 (by omega),by simp⟩
   | succ j=>exact .inr ⟨j,k,n,by simpa using h1,h2,by congr 2;omega⟩
theorem aq6:∀(ns:List SNode) (i:Nat),(Y1 i ns).Nodup
 | [],i=>List.nodup_nil
 | m::r,i=>by
  unfold Y1
  rw[List.nodup_append]
  refine⟨?_,aq6 r (i+1),?_⟩
  . rw[List.nodup_iff_pairwise_ne,List.pairwise_map]
    refine List.Pairwise.imp ?_ (List.nodup_iff_pairwise_ne.1 List.nodup_range)
    intro a b hab e
    injection e with _ e
    exact hab (by omega)
  . intro x hx y hy e
    obtain⟨k,_,rfl⟩:=List.mem_map.1 hx
    obtain⟨j,k2,n,_,_,rfl⟩:=(Z5 r (i+1) y).1 hy
    injection e with e _
    omega
theorem ay7:∀(ns:List SNode) (i:Nat),(∀n∈ns,0<=nouts n)->((Y1 i ns).length:Int)=G7 ns
 | [],i,_=>rfl
 | m::r,i,h=>by
  unfold Y1 G7
  rw[List.length_append,List.length_map,List.length_range,List.map_cons,List.sum_cons]
  have ih:=ay7 r (i+1) (fun n hn=>h n (by simp[hn]))
  unfold G7 at ih
  have:=h m (by simp)
  omega
theorem as2 {a b:List SNode} {p:Int × Int} (h:A7 a p=true):A7 (a++b) p=true:=by obtain⟨i,k,n,rfl,hn,hk⟩:=U1 h;have hi:i<a.length:=(gSm hn).1;unfold A7;simp only[Int.toNat_natCast,List.getElem?_append_left hi,hn,Option.map_some,Option.getD_some,Bool.and_eq_true,decide_eq_true_eq];refine⟨⟨⟨by omega,?_⟩,by omega⟩,hk⟩;rw[List.length_append];omega
theorem aH0:∀(rest ahead:List SNode) (t:List (Int × Int)),(y8 ahead rest t).1=0->t.Nodup->(∀p∈t,A7 ahead p=true)->(y8 ahead rest t).2.Nodup/\(∀p∈(y8 ahead rest t).2,A7 (ahead++rest) p=true) /\ ∀n∈rest,l7 n=0
 | [],ahead,t,_,h1,h2=>by
  refine⟨by simpa[y8] using h1,?_,by intro n hn;cases hn⟩
  intro p hp
  rw[List.append_nil]
  exact h2 p (by simpa[y8] using hp)
 | n::r,ahead,t,h,h1,h2=>by
  obtain⟨e1,e2,e3,e4⟩:=V2 h
  obtain⟨f1,f2,f3⟩:=aa2 _ _ _ e2
  rw[e4,f1] at h ⊢
  obtain⟨g1,g2,g3⟩:=aH0 r (ahead++[n]) (t++n.ins) h (by
   rw[List.nodup_append]
   exact⟨h1,f3,fun x hx y hy e=>(f2 y hy).2 (e ▸ hx)⟩) (by
   intro p hp
   rcases List.mem_append.1 hp with hp | hp
   . exact as2 (h2 p hp)
   . exact as2 (f2 p hp).1)
  refine⟨g1,by simpa using g2,?_⟩
  intro m hm
  rcases List.mem_cons.1 hm with rfl | hm
  . exact e1
  . exact g3 m hm
theorem ao0 {n:SNode} (h:l7 n=0):0<=nouts n:=by have:=m9 h [] [];omega
theorem bN7 {ns:List SNode} {t:List (Int × Int)} (h:y8 [] ns []=(0,t)):(t.length:Int)=G7 ns ↔ ∀(i k:Nat) (n:SNode),ns[i]? = some n->(k:Int)<nouts n->((i:Int),(k:Int))∈t:=by
 obtain⟨g1,g2,g3⟩:=aH0 ns [] [] (by rw[h]) List.nodup_nil (by intro p hp;cases hp);rw[h] at g1 g2;simp only[List.nil_append] at g1 g2;have hl:=ay7 ns 0 (fun n hn=>ao0 (g3 n hn));have Kq:∀p∈t,p∈Y1 0 ns:=fun p hp=>by obtain⟨i,k,n,rfl,hn,hk⟩:=U1 (g2 p hp);exact (Z5 ns 0 _).2 ⟨i,k,n,hn,hk,by simp⟩
 have key:=cc3 g1 (aq6 ns 0) Kq;constructor
 . intro e i k n hn hk;exact key.1 (by omega) _ ((Z5 ns 0 _).2 ⟨i,k,n,hn,hk,by simp⟩)
 .
  intro e
  have:=key.2 (fun p hp=>by
   obtain⟨j,k,n,h1,h2,rfl⟩:=(Z5 ns 0 p).1 hp
   simpa using e j k n h1 h2)
  omega
theorem Z6 (a b:List SNode):j7 (a++b)=j7 a++j7 b:=by simp[j7]
theorem aQ4 (n:SNode):j7 [n]=n.ins:=by simp[j7]
theorem aK4:∀(rest ahead:List SNode) (t:List (Int × Int)),(y8 ahead rest t).1=0->y8 ahead rest t=(0,t++j7 rest)
 | [],ahead,t,h=>by simp[y8,j7]
 | n::r,ahead,t,h=>by
  obtain⟨e1,e2,e3,e4⟩:=V2 h
  obtain⟨f1,f2,f3⟩:=aa2 _ _ _ e2
  rw[e4] at h ⊢
  rw[aK4 r _ _ h,f1]
  simp[j7]
theorem aC9 (ns:List SNode):b7 ns 0=0:=by simp[b7,j7]
theorem ao4 {ns:List SNode} {i:Nat} {n:SNode} (h:ns[i]? = some n):b7 ns (i+1)=b7 ns i+n.ins.length:=by unfold b7;rw[ac6 h,Z6,aQ4,List.length_append]
theorem aQ5 {ns:List SNode} {i j:Nat} (h:i<=j):b7 ns i<=b7 ns j:=by unfold b7;obtain⟨d,rfl⟩:∃d,j=i+d:=⟨j-i,by omega⟩;rw[List.take_add,Z6,List.length_append];omega
theorem aD0 {ns:List SNode} {i j:Nat} {n:SNode} (h:ns[i]? = some n) (hij:i<j):b7 ns i+n.ins.length<=b7 ns j:=by rw[<- ao4 h];exact aQ5 hij
theorem S3 {ns:List SNode} {i j a b:Nat} {n m:SNode} (hn:ns[i]? = some n) (hm:ns[j]? = some m) (ha:a<n.ins.length) (hb:b<m.ins.length) (e:b7 ns i+a=b7 ns j+b):i=j/\a=b:=by
 rcases Nat.lt_trichotomy i j with h | h | h
 . have:=aD0 hn h;omega
 . subst h;exact⟨rfl,by omega⟩
 . have:=aD0 hm h;omega
theorem al7 {ns:List SNode} {i j:Nat} {n:SNode} (h:ns[i]? = some n) (hj:j<n.ins.length):(j7 ns)[b7 ns i+j]? = n.ins[j]?:=by
 have e:j7 ns=j7 (ns.take i)++(n.ins++j7 (ns.drop (i+1))):=by
  conv=>lhs;rw[show ns=ns.take i++ns.drop i from (List.take_append_drop i ns).symm,Y0 h]
  rw[Z6,show n::ns.drop (i+1)=[n]++ns.drop (i+1) from rfl,Z6,aQ4]
 unfold b7;rw[e,List.getElem?_append_right (by omega),show (j7 (ns.take i)).length+j-(j7 (ns.take i)).length=j by omega,List.getElem?_append_left hj]
theorem S9 {ns:List SNode} {i j:Nat} {n:SNode} (h:ns[i]? = some n) (hj:j<n.ins.length):b7 ns i+j<(j7 ns).length:=by have:=al7 h hj;rw[gEl hj] at this;exact (gSm this).1
theorem aA2:∀(ns:List SNode) (q:Nat),q<(j7 ns).length -> ∃i j n,ns[i]? = some n/\j<n.ins.length/\q=b7 ns i+j:=by
 intro ns q hq;have key:∀k,k<=ns.length->q<b7 ns k -> ∃i j n,ns[i]? = some n/\j<n.ins.length/\q=b7 ns i+j:=by
  intro k
  induction k with
  | zero=>intro _ h;rw[aC9] at h;omega
  | succ k ih=>
   intro hk h
   obtain⟨n,hn⟩:∃n,ns[k]? = some n:=⟨_,gEl (by omega)⟩
   rw[ao4 hn] at h
   by_cases h2:q<b7 ns k
   . exact ih (by omega) h2
   . exact⟨k,q-b7 ns k,n,hn,by omega,by omega⟩
 exact key ns.length (Nat.le_refl _) (by unfold b7;rw[List.take_length];exact hq)
structure RightG (ns:List SNode):Prop where
 le60:ns.length<=60
 pos:0<ns.length
 node:∀n∈ns,l7 n=0
 nodup:(j7 ns).Nodup
 port:∀(i:Nat) (n:SNode),ns[i]? = some n -> ∀p∈n.ins,A7 (ns.take i) p=true
 every:∀(i k:Nat) (n:SNode),ns[i]? = some n->(k:Int)<nouts n->((i:Int),(k:Int))∈j7 ns
 sink:∀(i:Nat) (n:SNode),ns[i]? = some n->(n.kind=5 ↔ i+1=ns.length)
theorem as3:∀(rest ahead:List SNode) (t:List (Int × Int)),(y8 ahead rest t).1=0 -> ∀(k:Nat) (n:SNode),rest[k]? = some n->(∀p∈n.ins,A7 (ahead++rest.take k) p=true)/\(n.kind=5 ↔ k+1=rest.length)
 | [],ahead,t,h,k,n,hn=>by simp at hn
 | m::r,ahead,t,h,0,n,hn=>by
  simp at hn
  subst hn
  obtain⟨e1,e2,e3,e4⟩:=V2 h
  obtain⟨f1,f2,f3⟩:=aa2 _ _ _ e2
  refine⟨fun p hp=>by simpa using (f2 p hp).1,?_⟩
  constructor
  . intro h5
    rw[decide_eq_true h5] at e3
    rw[List.isEmpty_iff] at e3
    rw[e3];rfl
  .
   intro hl
   have:r=[]:=by
    cases r with
    | nil=>rfl
    | cons=>simp at hl
   rw[this] at e3
   exact of_decide_eq_true e3.symm
 | m::r,ahead,t,h,k+1,n,hn=>by
  obtain⟨e1,e2,e3,e4⟩:=V2 h
  rw[e4] at h
  obtain⟨h1,h2⟩:=as3 r _ _ h k n (by simpa using hn)
  refine⟨fun p hp=>by simpa using h1 p hp,?_⟩
  rw[h2]
  simp
theorem D7 {ns:List SNode} (h:gchk ns=0):RightG ns:=by
 obtain⟨h1,h2,h3,h4⟩:=al6 h;have ht:=aK4 ns [] [] h2;rw[List.nil_append] at ht;obtain⟨a1,a2,a3⟩:=aH0 ns [] [] h2 (by simp) (by simp);rw[ht] at a1 h4;refine⟨h1,h3,a3,a1,fun i n hn p hp=>?_,(bN7 ht).1 h4,fun i n hn=>?_⟩
 . have:=(as3 ns [] [] h2 i n hn).1 p hp;simpa using this
 . exact (as3 ns [] [] h2 i n hn).2
theorem RightG.src {ns:List SNode} (g:RightG ns) {r:Nat} {n:SNode} (hn:ns[r]? = some n) {j:Nat} {p:Int × Int} (hp:n.ins[j]? = some p) :
 ∃(i k:Nat) (m:SNode),p=((i:Int),(k:Int))/\i<r/\ns[i]? = some m/\(k:Int)<nouts m:=by obtain⟨i,k,m,e,hm,hk⟩:=U1 (g.port r n hn p (mGt hp));have hi:i<(ns.take r).length:=(gSm hm).1;rw[List.length_take] at hi;refine⟨i,k,m,e,by omega,?_,hk⟩;rwa [List.getElem?_take_of_lt (by omega)] at hm
theorem RightG.into {ns:List SNode} (g:RightG ns) {r j:Nat} {n:SNode} (hn:ns[r]? = some n) {p:Int × Int} (hp:n.ins[j]? = some p):D9 ns p=b7 ns r+j:=by have hj:j<n.ins.length:=(gSm hp).1;have h1:=al7 hn hj;rw[hp] at h1;obtain⟨hq,e⟩:=gSm h1;have:=g.nodup.idxOf_getElem _ hq;rw[e] at this;exact this
theorem RightG.reader {ns:List SNode} (g:RightG ns) {i k:Nat} {m:SNode} (hm:ns[i]? = some m) (hk:(k:Int)<nouts m) :
 ∃(r j:Nat) (n:SNode),ns[r]? = some n/\n.ins[j]? = some ((i:Int),(k:Int))/\i<r/\D9 ns ((i:Int),(k:Int))=b7 ns r+j/\b7 ns r+j<(j7 ns).length:=by obtain⟨q,hq⟩:=List.getElem?_of_mem (g.every i k m hm hk);have hql:q<(j7 ns).length:=(gSm hq).1;obtain⟨r,j,n,hn,hj,rfl⟩:=aA2 ns q hql;rw[al7 hn hj] at hq;obtain⟨i',k',m',e,hir,_,_⟩:=g.src hn hq;simp only[Prod.mk.injEq] at e;exact⟨r,j,n,hn,hq,by omega,g.into hn hq,hql⟩
theorem RightG.outs {ns:List SNode} (g:RightG ns) (fs:List SFile) {i:Nat} {n:SNode} (hn:ns[i]? = some n):(j5 fs [] ns)[i]? = some (i8 n fs (n.ins.map (j3 (j5 fs [] ns)))):=by have hi:i<ns.length:=(gSm hn).1;have h1:=aQ3 fs ns hn (k:=ns.length) hi (Nat.le_refl _);rw[List.take_length] at h1;rw[h1];congr 2;apply List.map_congr_left;intro p hp;exact (bN6 (by omega) (g.port i n hn p hp)).symm
theorem aQ6 (outs:List (List (List UInt8))) (i k:Nat):j3 outs ((i:Int),(k:Int))=(outs[i]?.getD [])[k]?.getD []:=by simp[j3]
def Whol (b:List UInt8):Prop:=ended (lines b)=b
theorem al8:Whol []:=by simp[Whol,lines,x9,ended]
theorem ao5 (l:List (List UInt8)) (h:∀s∈l,(10:UInt8)∉s):Whol (ended l):=by unfold Whol;rw[J5 l h]
theorem bB8 (b:List UInt8):Whol (ended (lines b)):=ao5 _ (G6 b)
theorem ao6 {a:List UInt8} (h:Whol a) (b:List UInt8):lines (a++b)=lines a++lines b:=by
 conv=>lhs;rw[<- h]
 exact aA0 _ _ (G6 a)
theorem Whol.append {a b:List UInt8} (h:Whol a) (k:Whol b):Whol (a++b):=by unfold Whol;rw[ao6 h,I1,h,k]
theorem aH1:∀(l:List (List UInt8)),(∀b∈l,Whol b)->Whol l.flatten
 | [],_=>al8
 | b::r,h=>by
  rw[List.flatten_cons]
  exact (h b (by simp)).append (aH1 r (fun c hc=>h c (by simp[hc])))
theorem Whol.last {b:List UInt8} (h:Whol b) (hn:b≠[]):b.getLast hn=10:=by
 have h2:ended (lines b)≠[]:=by rw[h];exact hn
 have:=bA6 (lines b) h2;have e:(ended (lines b)).getLast h2=b.getLast hn:=by congr 1
 rw[<- e];exact this
theorem ak3:∀(b cur:List UInt8),ended (x9 cur (b++[10]))=cur++b++[10]
 | [],cur=>by simp[x9,ended]
 | c::r,cur=>by
  rw[List.cons_append,x9]
  by_cases h:c=10
  . rw[if_pos h,E4,ak3 r []]
    simp[h]
  . rw[if_neg h,ak3 r]
    simp
theorem bN8 (b:List UInt8):Whol (b++[10]):=by have:=ak3 b [];simpa[Whol,lines] using this
theorem as4:∀(l:List UInt8),l.dropWhile (fun c=>c != 10)=[] \/ ∃r,l.dropWhile (fun c=>c != 10)=10::r
 | []=>by simp
 | c::r=>by
  rw[List.dropWhile_cons]
  by_cases h:c=10
  . subst h;right;exact⟨r,by simp⟩
  . rw[if_pos (by simpa using h)];exact as4 r
theorem aD1:∀(l:List UInt8),(10:UInt8)∉l.takeWhile (fun c=>c != 10)
 | []=>by simp
 | c::r=>by
  rw[List.takeWhile_cons]
  by_cases h:c=10
  . subst h;simp
  . rw[if_pos (by simpa using h)]
    have:=aD1 r
    simp only[List.mem_cons,not_or]
    exact⟨fun e=>h e.symm,this⟩
theorem ba9 (b:List UInt8):b.take (o6 b)=(b.reverse.dropWhile (fun c=>c != 10)).reverse/\b.drop (o6 b)=(b.reverse.takeWhile (fun c=>c != 10)).reverse:=by
 have e:b=(b.reverse.dropWhile (fun c=>c != 10)).reverse++(b.reverse.takeWhile (fun c=>c != 10)).reverse:=by rw[<- List.reverse_append,List.takeWhile_append_dropWhile,List.reverse_reverse]
 have hl:o6 b=(b.reverse.dropWhile (fun c=>c != 10)).reverse.length:=by simp[o6]
 constructor
 . conv=>lhs;rw[hl];arg 2;rw[e]
   exact List.take_left
 . conv=>lhs;rw[hl];arg 2;rw[e]
   exact List.drop_left
theorem bo9 (b:List UInt8):Whol (b.take (o6 b)):=by
 rw[(ba9 b).1];rcases as4 b.reverse with h | ⟨r,h⟩
 . rw[h];exact al8
 . rw[h,List.reverse_cons];exact bN8 _
theorem aQ7 (b:List UInt8):(10:UInt8)∉b.drop (o6 b):=by rw[(ba9 b).2,List.mem_reverse];exact aD1 _
theorem bN9 {w g d:List UInt8} (e:w++g=d) (hd:Whol d) (hg:(10:UInt8)∉g):g=[]:=by
 cases hgn:g with
 | nil=>rfl
 | cons c r=>
  exfalso
  have hne:g≠[]:=by rw[hgn];simp
  have hd0:d≠[]:=by rw[<- e];simp[hgn]
  have h1:=hd.last hd0
  have h2:d.getLast hd0=g.getLast hne:=by
   have:(w++g).getLast (by simp[hgn])=g.getLast hne:=List.getLast_append_of_ne_nil _ hne
   rw[<- this];congr 1;exact e.symm
  rw[h2] at h1
  exact hg (h1 ▸ List.getLast_mem hne)
theorem aK5:∀(l:List (List UInt8)),(∀s∈l,(10:UInt8)∉s)->(ended l).count 10=l.length
 | [],_=>by simp[ended]
 | s::l,h=>by
  have hs:=h s (by simp)
  rw[E4,List.count_append,List.count_append,List.count_eq_zero_of_not_mem hs,aK5 l (fun t ht=>h t (by simp[ht]))]
  simp
  omega
theorem bO0 {c d:List UInt8} (h:c <+: d) (N:Nat) (hN:N<=c.count 10):(lines c).take N=(lines d).take N:=by
 obtain⟨r,rfl⟩:=h;have e:c=c.take (o6 c)++c.drop (o6 c):=(List.take_append_drop _ _).symm;have hw:=bo9 c;have hr:=aQ7 c;generalize c.take (o6 c)=W at *;generalize c.drop (o6 c)=g at *;subst e;rw[ao6 hw,List.append_assoc,ao6 hw];have hc:(W++g).count 10=(lines W).length:=by
  rw[List.count_append,List.count_eq_zero_of_not_mem hr];conv=>lhs;rw[<- hw]
  rw[aK5 _ (G6 W)];omega
 rw[List.take_append_of_le_length (by omega),List.take_append_of_le_length (by omega)]
theorem bb4 {n:SNode} (h:l7 n=0) (fs:List SFile) (ins:List (List UInt8)):∀b∈i8 n fs ins,Whol b:=by
 obtain⟨h1,h2,_⟩:=G8 h;unfold i8;intro b hb;rcases I9 h1 with ⟨h3 | h3,_⟩ | ⟨h3,h4,h5⟩ | ⟨h3,h4⟩ | ⟨h3,h4⟩
 . rw[if_pos h3,List.mem_singleton] at hb;rw[hb];exact bB8 _
 . rw[if_neg (by omega),if_neg (by omega),if_neg (by omega),if_neg (by omega)] at hb;simp at hb
 . rw[if_neg (by omega),if_pos h3,List.mem_map] at hb;obtain⟨k,_,rfl⟩:=hb;refine ao5 _ (fun s hs=>?_);exact G6 _ s (List.mem_of_mem_take (List.mem_of_mem_drop hs))
 . rw[if_neg (by omega),if_neg (by omega),if_pos h3,List.mem_singleton] at hb;rw[hb];exact ao5 _ (ad6 _ h4 _ (G6 _))
 . rw[if_neg (by omega),if_neg (by omega),if_neg (by omega),if_pos h3,List.mem_singleton] at hb;rw[hb];refine ao5 _ (ay5 _ _ (ar7 h4) _ (fun p hp=>?_));obtain⟨x,_,rfl⟩:=List.mem_map.1 hp;exact G6 x
structure PipeOk (d e c:List UInt8) (x:SPipe) (o:List UInt8) (ovw rdr:Bool):Prop where
 good:pchk x=0
 closed:x.closed=ovw
 shut:x.shut=true->rdr=true
 flow:x.shut=false->e=c++x.b++o
 all:x.shut=false->rdr=true->c=d
structure WaitOk (n:SNode) (ins:List (List UInt8)) (c:Nat->List UInt8) (e:Nat->List UInt8) (p:SProc) (m:Nat):Prop where
 pos:p.pos=m
 lt:ins.length≠0->m<ins.length
 past:∀(j:Nat) (d:List UInt8),j<m->ins[j]? = some d->c j=d
 next:∀j,m<j->j<ins.length->c j=[]
 sink:n.kind=5->p.got[0]?.getD []=[]
 pass:n.kind≠5->passes n=true->(∀j,j≠m->p.got[j]?.getD []=[]) /\ ∃W,(10:UInt8)∉p.got[m]?.getD []/\c m=W++p.got[m]?.getD []/\Whol W/\e 0=through n ((ins.take m).flatten++W)
 hold:n.kind≠5->passes n=false->(∀j,j<ins.length->p.got[j]?.getD []=c j)/\(∀k,e k=[])/\(n.kind=3->n.c.kind=9->((c 0).count 10:Int)<n.c.n)
structure ProcOk (n:SNode) (ds ins:List (List UInt8)) (c e:Nat->List UInt8) (p:SProc) (sunk:List UInt8):Prop where
 glen:p.got.length=ins.length
 olen:p.out.length=ds.length
 rng:0<=p.pos/\p.pos<=ins.length
 ovrd:p.ov=true->p.rd=true
 ovout:p.ov=true -> ∀b∈p.out,b=[]
 pre:∀(k:Nat) (d:List UInt8),ds[k]? = some d->e k <+: d
 cpre:∀(j:Nat) (d:List UInt8),ins[j]? = some d->c j <+: d
 rde:p.rd=true -> ∀(k:Nat) (d:List UInt8),ds[k]? = some d->e k=d
 small:∀j,j<ins.length->(p.got[j]?.getD []).length<=(c j).length
 osmall:∀(k:Nat) (d:List UInt8),ds[k]? = some d->(p.out[k]?.getD []).length<=d.length
 snk:n.kind=5->sunk=c 0
 snk2:n.kind=5->p.rd=true -> ∀d,ins[0]? = some d->c 0=d
 wait:p.rd=false -> ∃m,WaitOk n ins c e p m
structure MInv (ns:List SNode) (fs:List SFile) (room:Int) (M:SMach) (C:Nat->List UInt8) (E:Nat->Nat->List UInt8):Prop where
 ens:M.ns=ns
 efs:M.fs=fs
 plen:M.ps.length=ns.length
 xlen:M.pipes.length=(j7 ns).length
 proc:∀(i:Nat) (n:SNode) (p:SProc),ns[i]? = some n->M.ps[i]? = some p->ProcOk n (i8 n fs (n.ins.map (j3 (j5 fs [] ns)))) (n.ins.map (j3 (j5 fs [] ns))) (fun j=>C (b7 ns i+j)) (E i) p M.sunk
 pipe:∀(r:Nat) (n:SNode) (j i k:Nat) (pr pw:SProc) (x:SPipe),ns[r]? = some n->n.ins[j]? = some ((i:Int),(k:Int))->M.ps[r]? = some pr->M.ps[i]? = some pw->M.pipes[b7 ns r+j]? = some x ->
  x.room=roomOf ns room ((i:Int),(k:Int))/\PipeOk (j3 (j5 fs [] ns) ((i:Int),(k:Int))) (E i k) (C (b7 ns r+j)) x (pw.out[k]?.getD []) pw.ov pr.rd
theorem ae5 {α:Type} {l:List α} {i j:Nat} {a b:α} (h:(l.set i a)[j]? = some b):(j=i/\b=a)\/(j≠i/\l[j]? = some b):=by
 rw[List.getElem?_set] at h;by_cases e:i=j
 .
  subst e;rw[if_pos rfl] at h;split at h
  . left;injection h with h;exact⟨rfl,h.symm⟩
  . cases h
 . rw[if_neg e] at h;exact Or.inr ⟨fun q=>e q.symm,h⟩
theorem cc4 {n:SNode} (h:l7 n=0) (fs:List SFile) (ins:List (List UInt8)) {k:Nat} (hk:(k:Int)<nouts n):k<(i8 n fs ins).length:=by have:=m9 h fs ins;omega
theorem aw7 {ns:List SNode} (g:RightG ns) (fs:List SFile) {i k:Nat} {m:SNode} (hm:ns[i]? = some m) (hk:(k:Int)<nouts m) :
 (i8 m fs (m.ins.map (j3 (j5 fs [] ns))))[k]? = some (j3 (j5 fs [] ns) ((i:Int),(k:Int))):=by rw[aQ6,g.outs fs hm];have:=cc4 (g.node m (mGt hm)) fs (m.ins.map (j3 (j5 fs [] ns))) hk;simp only[Option.getD_some];rw[gEl this];rfl
theorem aQ8 {n:SNode} (h:l7 n=0) (hp:passes n=true):n.ins.length≠0:=by
 obtain⟨h1,h2,_⟩:=G8 h;unfold passes at hp;simp only[Bool.or_eq_true,Bool.and_eq_true,decide_eq_true_eq] at hp;unfold M1 at h2;rcases hp with ⟨h3,_⟩ | ⟨h3,_⟩
 . rw[if_neg (by omega),if_pos h3] at h2;have:=of_decide_eq_true h2;omega
 . rw[if_neg (by omega),if_neg (by omega)] at h2;have:=of_decide_eq_true h2;omega
theorem ai9 {ns:List SNode} {fs:List SFile} {room:Int} {M:SMach} {C:Nat->List UInt8} {E:Nat->Nat->List UInt8} (g:RightG ns) (h:MInv ns fs room M C E) {a:Nat} {n:SNode} {p:SProc} (hn:ns[a]? = some n) (hp:M.ps[a]? = some p)
 (p':SProc) (X:List SPipe) (s':List UInt8) (C':Nat->List UInt8) (e':Nat->List UInt8) (hX:X.length=M.pipes.length) (hov:p'.ov=p.ov)
 (hpr:ProcOk n (i8 n fs (n.ins.map (j3 (j5 fs [] ns)))) (n.ins.map (j3 (j5 fs [] ns))) (fun j=>C' (b7 ns a+j)) e' p' s')
 (hs:n.kind≠5->s'=M.sunk)
 (Kp:∀q,(∀m,m<n.ins.length->q≠b7 ns a+m)->X[q]? = M.pipes[q]? /\ C' q=C q)
 (Ab:∀(m i k:Nat) (pw:SProc) (x y:SPipe),n.ins[m]? = some ((i:Int),(k:Int))->M.ps[i]? = some pw->M.pipes[b7 ns a+m]? = some y->X[b7 ns a+m]? = some x ->
  x.room=y.room/\PipeOk (j3 (j5 fs [] ns) ((i:Int),(k:Int))) (E i k) (C' (b7 ns a+m)) x (pw.out[k]?.getD []) pw.ov p'.rd)
 (Ai:∀k:Nat,(k:Int)<nouts n -> ∃z,e' k=E a k++z/\(p'.out[k]?.getD [])=(p.out[k]?.getD [])++z) :
 MInv ns fs room ⟨M.ns,M.fs,X,M.ps.set a p',s'⟩ C' (fun i=>if i=a then e' else E i):=by
 have hal:a<M.ps.length:=(gSm hp).1;have Po:∀i n',ns[i]? = some n'->i≠a -> ∀j,j<n'.ins.length->C' (b7 ns i+j)=C (b7 ns i+j):=by intro i n' hn' hi j hj;refine (Kp _ (fun m hm e=>hi ?_)).2;exact (S3 hn' hn hj hm e).1
 refine⟨h.ens,h.efs,by simpa using h.plen,hX.trans h.xlen,?_,?_⟩
 .
  intro i n' q hn' hq;rcases ae5 hq with ⟨rfl,rfl⟩ | ⟨hi,hq⟩
  . rw[hn] at hn';injection hn' with hn';subst hn';simp only[if_true];exact hpr
  .
   have ho:=h.proc i n' q hn' hq;simp only[if_neg hi];have Ln:(n'.ins.map (j3 (j5 fs [] ns))).length=n'.ins.length:=List.length_map _;have hlt:∀j,n'.ins.length<=j->(q.got[j]?.getD [])=[]:=fun j hj=>by rw[List.getElem?_eq_none (by rw[ho.glen,Ln];exact hj)];rfl
   have hCm:∀j,j<(n'.ins.map (j3 (j5 fs [] ns))).length->C' (b7 ns i+j)=C (b7 ns i+j):=fun j hj=>Po i n' hn' hi j (by rw[<- Ln];exact hj);have hCd:∀(j:Nat) (d:List UInt8),(n'.ins.map (j3 (j5 fs [] ns)))[j]? = some d->C' (b7 ns i+j)=C (b7 ns i+j):=fun j d hd=>hCm j (gSm hd).1;refine⟨ho.glen,ho.olen,ho.rng,ho.ovrd,ho.ovout,ho.pre,?_,ho.rde,?_,ho.osmall,?_,fun h5 hr5 d hd=>by rw[hCd 0 d hd];exact ho.snk2 h5 hr5 d hd,?_⟩
   . intro j d hd;rw[hCd j d hd];exact ho.cpre j d hd
   . intro j hj;rw[hCm j hj];exact ho.small j hj
   . intro h5;have h1:n'.ins.length=1:=(y9 (g.node n' (mGt hn'))).2 (Or.inr (Or.inr h5));have h6:n.kind≠5:=fun h6=>hi (by have:=(g.sink i n' hn').1 h5;have:=(g.sink a n hn).1 h6;omega);rw[hs h6,hCm 0 (by omega)];exact ho.snk h5
   .
    intro hrd;obtain⟨m,hw⟩:=ho.wait hrd;refine⟨m,hw.pos,hw.lt,?_,?_,hw.sink,?_,?_⟩
    . intro j d hj hd;rw[hCd j d hd];exact hw.past j d hj hd
    . intro j hj hjl;rw[hCm j hjl];exact hw.next j hj hjl
    . intro h5 Jt;have h0:n'.ins.length≠0:=aQ8 (g.node n' (mGt hn')) Jt;rw[hCm m (hw.lt (by omega))];exact hw.pass h5 Jt
    . intro h5 Jt;obtain⟨q1,q2,q3⟩:=hw.hold h5 Jt;refine⟨fun j hj=>by rw[hCm j hj];exact q1 j hj,q2,fun h3 h9=>?_⟩;have h1:n'.ins.length=1:=(y9 (g.node n' (mGt hn'))).2 (Or.inr (Or.inl h3));rw[hCm 0 (by omega)];exact q3 h3 h9
 .
  intro r n' j i k pr pw x hn' hj hr hi hx;have hjl:j<n'.ins.length:=(gSm hj).1;obtain⟨i2,k2,m,e,hir,hm,hk⟩:=g.src hn' hj;simp only[Prod.mk.injEq,Int.natCast_inj] at e;obtain⟨rfl,rfl⟩:=e;have hne:i≠r:=by omega
  by_cases hra:r=a
  .
   subst hra;rw[hn] at hn';injection hn' with hn';subst hn';rcases ae5 hr with ⟨_,rfl⟩ | ⟨hc,_⟩
   . rcases ae5 hi with ⟨hc,_⟩ | ⟨_,hi⟩
     . exact absurd hc hne
     . obtain⟨y,hy⟩:∃y,M.pipes[b7 ns r+j]? = some y:=by refine⟨_,gEl ?_⟩;rw[h.xlen];exact S9 hn hjl
       obtain⟨q1,q2⟩:=Ab j i k pw x y hj hi hy hx;obtain⟨q3,_⟩:=h.pipe r n j i k p pw y hn hj hp hi hy;simp only[if_neg hne];exact⟨q1.trans q3,q2⟩
   . exact absurd rfl hc
  .
   rcases ae5 hr with ⟨hc,_⟩ | ⟨_,hr2⟩
   . exact absurd hc hra
   . obtain⟨o1,o2⟩:=Kp (b7 ns r+j) (fun m' hm' e=>hra (S3 hn' hn hjl hm' e).1);rw[show (⟨M.ns,M.fs,X,M.ps.set a p',s'⟩:SMach).pipes=X from rfl,o1] at hx;rw[o2];rcases ae5 hi with ⟨rfl,rfl⟩ | ⟨hia,hi⟩
     . obtain⟨q1,q2⟩:=h.pipe r n' j i k pr p x hn' hj hr2 hp hx;simp only[if_true];rw[hn] at hm;injection hm with hm;subst hm;obtain⟨z,z1,z2⟩:=Ai k hk;refine⟨q1,q2.good,by rw[hov];exact q2.closed,q2.shut,fun hsh=>?_,q2.all⟩;rw[z1,z2,q2.flow hsh];simp
     . simp only[if_neg hia];exact h.pipe r n' j i k pr pw x hn' hj hr2 hi hx
theorem bp0 {ns:List SNode} {fs:List SFile} {room:Int} {M:SMach} {C:Nat->List UInt8} {E:Nat->Nat->List UInt8} (g:RightG ns) (h:MInv ns fs room M C E) {a:Nat} {n:SNode} {p:SProc} (hn:ns[a]? = some n) (hp:M.ps[a]? = some p)
 (p':SProc) (X:List SPipe) (hX:X.length=M.pipes.length) (hrd:p'.rd=p.rd)
 (hpr:ProcOk n (i8 n fs (n.ins.map (j3 (j5 fs [] ns)))) (n.ins.map (j3 (j5 fs [] ns))) (fun j=>C (b7 ns a+j)) (E a) p' M.sunk)
 (Kp:∀q,(∀k:Nat,(k:Int)<nouts n->q≠D9 ns ((a:Int),(k:Int)))->X[q]? = M.pipes[q]?)
 (Ab:∀(k:Nat) (x y:SPipe),(k:Int)<nouts n->M.pipes[D9 ns ((a:Int),(k:Int))]? = some y->X[D9 ns ((a:Int),(k:Int))]? = some x ->
  x.room=y.room /\ ∀d c rdr,PipeOk d (E a k) c y (p.out[k]?.getD []) p.ov rdr->PipeOk d (E a k) c x (p'.out[k]?.getD []) p'.ov rdr) :
 MInv ns fs room ⟨M.ns,M.fs,X,M.ps.set a p',M.sunk⟩ C E:=by
 refine⟨h.ens,h.efs,by simpa using h.plen,hX.trans h.xlen,?_,?_⟩
 .
  intro i n' q hn' hq;rcases ae5 hq with ⟨rfl,rfl⟩ | ⟨hi,hq⟩
  . rw[hn] at hn';injection hn' with hn';subst hn';exact hpr
  . exact h.proc i n' q hn' hq
 .
  intro r n' j i k pr pw x hn' hj hr hi hx;have hjl:j<n'.ins.length:=(gSm hj).1;obtain⟨i2,k2,m,e,hir,hm,hk⟩:=g.src hn' hj;simp only[Prod.mk.injEq,Int.natCast_inj] at e;obtain⟨rfl,rfl⟩:=e;have Av:=g.into hn' hj;obtain⟨pr0,hr0,erd⟩:∃pr0,M.ps[r]? = some pr0/\pr.rd=pr0.rd:=by
   rcases ae5 hr with ⟨rfl,rfl⟩ | ⟨_,hr⟩
   . exact⟨p,hp,hrd⟩
   . exact⟨pr,hr,rfl⟩
  obtain⟨y,hy⟩:∃y,M.pipes[b7 ns r+j]? = some y:=by refine⟨_,gEl ?_⟩;rw[h.xlen];exact S9 hn' hjl
  rw[erd];rcases ae5 hi with ⟨rfl,rfl⟩ | ⟨hia,hi2⟩
  . rw[hn] at hm;injection hm with hm;subst hm;obtain⟨q1,q2⟩:=h.pipe r n' j i k pr0 p y hn' hj hr0 hp hy;obtain⟨o1,o2⟩:=Ab k x y hk (by rw[Av];exact hy) (by rw[Av];exact hx);exact⟨o1.trans q1,o2 _ _ _ q2⟩
  .
   have ho:=Kp (b7 ns r+j) (fun k' hk' e=>by
    obtain⟨r',j',n'',Fh,hj',_,e2,_⟩:=g.reader hn hk'
    have Hg:j'<n''.ins.length:=(gSm hj').1
    obtain⟨rfl,rfl⟩:=S3 hn' Fh hjl Hg (e.trans e2)
    rw[hn'] at Fh
    injection Fh with Fh
    subst Fh
    rw[hj] at hj'
    simp only[Option.some.injEq,Prod.mk.injEq,Int.natCast_inj] at hj'
    exact hia hj'.1)
   rw[show (⟨M.ns,M.fs,X,M.ps.set a p',M.sunk⟩:SMach).pipes=X from rfl,ho] at hx;exact h.pipe r n' j i k pr0 pw x hn' hj hr0 hi2 hx
theorem aA3 {x:SPipe} {b:List UInt8} (h:pchk x=0) (hc:x.closed=false) (hs:x.shut=true):pwrite x b=(⟨[],x.room,x.closed,x.shut⟩,b.length,0):=by unfold pwrite;rw[if_neg (by simp[h]),if_neg (by simp[hc]),if_pos hs]
theorem aA4 {x:SPipe} {b:List UInt8} (h:pchk x=0) (hc:x.closed=false) (hs:x.shut=false):pwrite x b=(⟨x.b++b.take (pfit b.length x.b.length x.room),x.room,x.closed,x.shut⟩,pfit b.length x.b.length x.room,0):=by unfold pwrite;rw[if_neg (by simp[h]),if_neg (by simp[hc]),if_neg (by simp[hs])]
theorem V3 {x:SPipe} (h:pchk x=0):0<=x.room/\x.room<=1000/\(x.b.length:Int)<=plim x.room/\(x.shut=true->x.b.length=0):=bg5 h
theorem J9 {x:SPipe} (h0:0<=x.room) (h1:x.room<=1000) (h2:(x.b.length:Int)<=plim x.room) (h3:x.shut=true->x.b.length=0):pchk x=0:=by unfold pchk pck;rw[if_neg (by omega),if_neg (by omega),if_neg];rintro ⟨h4,h5⟩;have:=h3 h4;omega
theorem WaitOk.congr {n:SNode} {ins:List (List UInt8)} {c e:Nat->List UInt8} {p p':SProc} {m:Nat} (h:WaitOk n ins c e p m) (h1:p'.got=p.got) (h2:p'.pos=p.pos):WaitOk n ins c e p' m:=by
 obtain⟨a1,a2,a3,a4,a5,a6,a7⟩:=h;refine⟨by rw[h2];exact a1,a2,a3,a4,?_,?_,?_⟩
 . rw[h1];exact a5
 . rw[h1];exact a6
 . rw[h1];exact a7
theorem V4 {l:List (List UInt8)} {k j:Nat} {b:List UInt8} (hk:k<l.length):((l.set k b)[j]?.getD [])=if j=k then b else l[j]?.getD []:=by
 rw[List.getElem?_set];by_cases e:k=j
 . subst e;simp[hk]
 . rw[if_neg e,if_neg (fun q=>e q.symm)]
theorem bO1 {ns:List SNode} {fs:List SFile} {room:Int} {M:SMach} {C:Nat->List UInt8} {E:Nat->Nat->List UInt8} (g:RightG ns) (h:MInv ns fs room M C E) {a:Nat} {n:SNode} {p:SProc} (hn:ns[a]? = some n) (hp:M.ps[a]? = some p) (hov:p.ov=false)
 {k:Nat} {b:List UInt8} (hb:p.out[k]? = some b) :
 MInv ns fs room ((M.setX (D9 M.ns ((a:Int),(k:Int))) (pwrite (M.pipe (D9 M.ns ((a:Int),(k:Int)))) b).1).setP a (p.setOut k (b.drop (pwrite (M.pipe (D9 M.ns ((a:Int),(k:Int)))) b).2.1))) C E:=by
 have hpr:=h.proc a n p hn hp;have hkl:k<p.out.length:=(gSm hb).1;have hch:=g.node n (mGt hn);have hk:(k:Int)<nouts n:=by have:=m9 hch fs (n.ins.map (j3 (j5 fs [] ns)));have:=hpr.olen;omega
 obtain⟨r,j,n',hn',hj,har,Av,hql⟩:=g.reader hn hk;obtain⟨x,hx⟩:∃x,M.pipes[b7 ns r+j]? = some x:=⟨_,gEl (by rw[h.xlen];exact hql)⟩;obtain⟨pr,hr⟩:∃pr,M.ps[r]? = some pr:=⟨_,gEl (by rw[h.plen];exact (gSm hn').1)⟩;obtain⟨q1,q2⟩:=h.pipe r n' j a k pr p x hn' hj hr hp hx;rw[h.ens,Av];have hxp:M.pipe (b7 ns r+j)=x:=by unfold SMach.pipe;rw[hx];rfl
 rw[hxp];have hcl:x.closed=false:=q2.closed.trans hov;unfold SMach.setX SMach.setP;have hbd:p.out[k]?.getD []=b:=by rw[hb];rfl
 refine bp0 g h hn hp (p.setOut k _) _ (by simp) rfl ?_ ?_ ?_
 .
  refine⟨hpr.glen,by unfold SProc.setOut;simpa using hpr.olen,hpr.rng,fun h1=>?_,fun h1=>?_,hpr.pre,hpr.cpre,hpr.rde,hpr.small,?_,hpr.snk,hpr.snk2,fun h1=>?_⟩
  . exact absurd (hov.symm.trans h1) (by simp)
  . exact absurd (hov.symm.trans h1) (by simp)
  . intro k' d hd;unfold SProc.setOut;rw[V4 hkl];have:=hpr.osmall k' d hd;split
    . rename_i e;subst e;rw[hbd] at this;rw[List.length_drop];omega
    . exact this
  . obtain⟨m,hw⟩:=hpr.wait h1;exact⟨m,hw.congr rfl rfl⟩
 . intro q hq;rw[List.getElem?_set,if_neg];intro e;exact hq k hk (e.symm.trans Av.symm)
 .
  intro k' x' y hk' hy hx';by_cases e:k'=k
  .
   subst e;rw[Av] at hy hx';rw[hx] at hy;injection hy with hy;subst hy;rcases ae5 hx' with ⟨_,rfl⟩ | ⟨hc,_⟩
   .
    have Ap:=V3 q2.good;by_cases hsh:x.shut=true
    . rw[aA3 q2.good hcl hsh];refine⟨rfl,fun d c rdr ho=>⟨?_,ho.closed,ho.shut,fun h2=>?_,fun h2=>?_⟩⟩
      . refine J9 Ap.1 Ap.2.1 ?_ (fun _=>rfl);show ((0:Nat):Int)<=plim x.room;have:=Ap.2.2.1;omega
      . exact absurd (hsh.symm.trans h2) (by simp)
      . exact absurd (hsh.symm.trans h2) (by simp)
    . have Ub:x.shut=false:=by simpa using hsh
      rw[aA4 q2.good hcl Ub];refine⟨rfl,fun d c rdr ho=>⟨?_,ho.closed,ho.shut,fun h2=>?_,ho.all⟩⟩
      . refine J9 Ap.1 Ap.2.1 ?_ (fun h2=>absurd (Ub.symm.trans h2) (by simp));have h3:=bo1 (m:=b.length) Ap.2.1 Ap.2.2.1;have h4:pfit b.length x.b.length x.room<=b.length:=bg6;show ((x.b++b.take (pfit b.length x.b.length x.room)).length:Int)<=plim x.room;rw[List.length_append,List.length_take,Nat.min_eq_left h4];exact h3.2
      . have h3:=ho.flow Ub;rw[hbd] at h3;rw[h3];unfold SProc.setOut;rw[V4 hkl,if_pos rfl];simp
   . exact absurd rfl hc
  .
   have hne:D9 ns ((a:Int),(k':Int))≠b7 ns r+j:=by intro e2;obtain⟨r',j',n'',Fh,hj',_,e3,_⟩:=g.reader hn hk';have hjl:j<n'.ins.length:=(gSm hj).1;have Hg:j'<n''.ins.length:=(gSm hj').1;obtain⟨rfl,rfl⟩:=S3 hn' Fh hjl Hg (e2.symm.trans e3);rw[hn'] at Fh;injection Fh with Fh;subst Fh;rw[hj] at hj';simp only[Option.some.injEq,Prod.mk.injEq,Int.natCast_inj] at hj';exact e hj'.2.symm
   rcases ae5 hx' with ⟨hc,_⟩ | ⟨_,hx2⟩
   . exact absurd hc hne
   . rw[hy] at hx2;injection hx2 with hx2;subst hx2;refine⟨rfl,fun d c rdr ho=>?_⟩;unfold SProc.setOut;rw[V4 hkl,if_neg e];exact ho
theorem V5 (ns:List SNode) (i:Nat) (xs:List SPipe):∀K,(S7 ns i K xs).length=xs.length
 | 0=>rfl
 | K+1=>by rw[S7,List.length_modify,V5 ns i xs K]
theorem ae0 (ns:List SNode) (i:Nat) (xs:List SPipe):∀(K q:Nat) (x:SPipe),(S7 ns i K xs)[q]? = some x ->
 ∃y,xs[q]? = some y/\((∃k:Nat,k<K/\q=D9 ns ((i:Int),(k:Int)))->x=Z8 y)/\((∀k:Nat,k<K->q≠D9 ns ((i:Int),(k:Int)))->x=y)
 | 0,q,x,h=>⟨x,h,fun ⟨k,hk,_⟩=>absurd hk (by omega),fun _=>rfl⟩
 | K+1,q,x,h=>by
  rw[S7,List.getElem?_modify] at h
  cases hz:(S7 ns i K xs)[q]? with
  | none=>rw[hz] at h;cases h
  | some z=>
   rw[hz] at h
   obtain⟨y,hy,h1,h2⟩:=ae0 ns i xs K q z hz
   have h':(if D9 ns ((i:Int),(K:Int))=q then Z8 z else z)=x:=by
    injection h
   by_cases e:D9 ns ((i:Int),(K:Int))=q
   . rw[if_pos e] at h'
     refine⟨y,hy,fun _=>?_,fun hc=>absurd e.symm (hc K (by omega))⟩
     rw[<- h']
     by_cases hq:∃k:Nat,k<K/\q=D9 ns ((i:Int),(k:Int))
     . rw[h1 hq];rfl
     . rw[h2 (fun k hk he=>hq ⟨k,hk,he⟩)]
   .
    rw[if_neg e] at h'
    subst h'
    refine⟨y,hy,?_,?_⟩
    . rintro ⟨k,hk,he⟩
      by_cases hkK:k=K
      . subst hkK;exact absurd he.symm e
      . exact h1 ⟨k,by omega,he⟩
    . intro hc
      exact h2 (fun k hk=>hc k (by omega))
theorem co0 {ns:List SNode} {fs:List SFile} {room:Int} {M:SMach} {C:Nat->List UInt8} {E:Nat->Nat->List UInt8} (g:RightG ns) (h:MInv ns fs room M C E) {a:Nat} {n:SNode} {p:SProc} (hn:ns[a]? = some n) (hp:M.ps[a]? = some p) (hov:p.ov=false) (hrd:p.rd=true)
 (Ai:∀b∈p.out,b=[]):MInv ns fs room (endS M a p) C E:=by
 have hpr:=h.proc a n p hn hp;have hch:=g.node n (mGt hn);have Eg:=m9 hch fs (n.ins.map (j3 (j5 fs [] ns)));have hol:=hpr.olen;unfold endS;rw[h.ens];have hens:(⟨ns,M.fs,S7 ns a p.out.length M.pipes,M.ps.set a ⟨p.got,p.pos,p.out,p.rd,true⟩,M.sunk⟩:SMach)=⟨M.ns,M.fs,S7 ns a p.out.length M.pipes,M.ps.set a ⟨p.got,p.pos,p.out,p.rd,true⟩,M.sunk⟩:=by rw[h.ens]
 rw[hens];refine bp0 g h hn hp ⟨p.got,p.pos,p.out,p.rd,true⟩ _ (V5 _ _ _ _) rfl ?_ ?_ ?_
 . exact⟨hpr.glen,hpr.olen,hpr.rng,fun _=>hrd,fun _=>Ai,hpr.pre,hpr.cpre,hpr.rde,hpr.small,hpr.osmall,hpr.snk,hpr.snk2,fun h1=>absurd (hrd.symm.trans h1) (by simp)⟩
 .
  intro q hq;by_cases hql:q<M.pipes.length
  . obtain⟨x,hx⟩:∃x,(S7 ns a p.out.length M.pipes)[q]? = some x:=⟨_,gEl (by rw[V5];exact hql)⟩;obtain⟨y,hy,_,h2⟩:=ae0 _ _ _ _ _ _ hx;rw[hx,hy,h2 (fun k hk=>hq k (by omega))]
  . rw[List.getElem?_eq_none (by rw[V5];omega),List.getElem?_eq_none (by omega)]
 . intro k x y hk hy hx;obtain⟨y',hy',h1,_⟩:=ae0 _ _ _ _ _ _ hx;rw[hy] at hy';injection hy' with hy';subst hy';rw[h1 ⟨k,by omega,rfl⟩];exact⟨rfl,fun d c rdr ho=>⟨ho.good,rfl,ho.shut,ho.flow,ho.all⟩⟩
theorem ae1 {n:SNode} (h:passes n=true):(n.kind=4/\n.how=1)\/(n.kind=3/\U6 n.c.kind=true):=by unfold passes at h;simpa only[Bool.or_eq_true,Bool.and_eq_true,decide_eq_true_eq] using h
theorem ah4 {n:SNode} (h:passes n=true) {a:List UInt8} (ha:Whol a) (b:List UInt8):through n (a++b)=through n a++through n b:=by
 unfold through;rcases ae1 h with ⟨h4,_⟩ | ⟨h3,h5⟩
 . rw[if_pos h4,if_pos h4,if_pos h4]
 . rw[if_neg (by omega),if_neg (by omega),if_neg (by omega),ao6 ha,ai5 _ h5,I1]
theorem aK6 {n:SNode} (h:passes n=true):through n []=[]:=by
 have h1:=ah4 h al8 [];rw[List.append_nil] at h1;have h2:(through n []).length=(through n []).length+(through n []).length:=by
  conv=>lhs;rw[h1]
  simp
 exact List.length_eq_zero_iff.1 (by omega)
theorem aq7:∀(l:List (List UInt8)),(∀b∈l,Whol b)->ended ((l.map lines).flatten)=l.flatten
 | [],_=>rfl
 | b::r,h=>by
  rw[List.map_cons,List.flatten_cons,List.flatten_cons,I1,h b (by simp),aq7 r (fun c hc=>h c (by simp[hc]))]
theorem as5 {n:SNode} (h:passes n=true) (hc:l7 n=0) (fs:List SFile) (ins:List (List UInt8)) (hl:ins.length=n.ins.length) (hw:∀b∈ins,Whol b):i8 n fs ins=[through n ins.flatten]:=by
 unfold i8 through;rcases ae1 h with ⟨h4,h1⟩ | ⟨h3,h5⟩
 . rw[if_neg (by omega),if_neg (by omega),if_neg (by omega),if_pos h4,if_pos h4];unfold joined;rw[if_neg (by omega),if_neg (by omega),if_neg (by omega),aq7 _ hw]
 . have h1:=(y9 hc).2 (Or.inr (Or.inl h3));rw[if_neg (by omega),if_neg (by omega),if_pos h3,if_neg (by omega)]
   match ins,(hl.trans h1:ins.length=1) with
   | [b],_=>simp
theorem aK7 {n:SNode} (h:passes n=true):nouts n=1:=by
 unfold nouts;rcases ae1 h with ⟨h4,h1⟩ | ⟨h3,h5⟩
 . rw[if_neg (by omega),if_neg (by omega)]
 . rw[if_neg (by omega),if_neg (by omega)]
theorem bg9 {n:SNode} {ds ins:List (List UInt8)} {c e:Nat->List UInt8} {p:SProc} {sunk:List UInt8} (fs:List SFile) (hc:l7 n=0) (gl:p.got.length=ins.length) (ol:p.out.length=ds.length) (rng:0<=p.pos/\p.pos<=ins.length) (hov:p.ov=false) (Ai:∀b∈p.out,b=[])
 (dl:ds.length=(i8 n fs p.got).length) (cpre:∀(j:Nat) (d:List UInt8),ins[j]? = some d->c j <+: d) (snk:n.kind=5->sunk=c 0) (snk2:n.kind=5 -> ∀d,ins[0]? = some d->c 0=d)
 (he:∀(k:Nat) (d:List UInt8),ds[k]? = some d->e k++((i8 n fs p.got)[k]?.getD [])=d) :
 ProcOk n ds ins c (fun k=>e k++((i8 n fs p.got)[k]?.getD [])) (D6 n fs p) sunk /\
 ∀k:Nat,k<ds.length->((D6 n fs p).out[k]?.getD [])=(p.out[k]?.getD [])++((i8 n fs p.got)[k]?.getD []):=by
 have hz:∀k:Nat,k<ds.length->((D6 n fs p).out[k]?.getD [])=(p.out[k]?.getD [])++((i8 n fs p.got)[k]?.getD []):=by intro k hk;unfold D6;simp only[List.getElem?_zipWith];rw[gEl (by omega:k<p.out.length),gEl (by omega:k<(i8 n fs p.got).length)];rfl
 have ho:∀k:Nat,(p.out[k]?.getD [])=[]:=by
  intro k
  cases hk:p.out[k]? with
  | none=>rfl
  | some b=>exact Ai b (mGt hk)
 refine⟨⟨?_,?_,rng,fun h=>?_,fun h=>?_,?_,cpre,?_,?_,?_,snk,fun h _=>snk2 h,fun h=>?_⟩,hz⟩
 . unfold D6;simpa using gl
 . unfold D6;simp only[List.length_zipWith];omega
 . exact absurd (hov.symm.trans h) (by simp)
 . exact absurd (hov.symm.trans h) (by simp)
 . intro k d hd;show e k++_ <+: d;rw[he k d hd];exact List.prefix_refl _
 . intro _ k d hd;exact he k d hd
 . intro j hj;unfold D6;simp only[List.getElem?_map]
   cases p.got[j]? <;> simp
 . intro k d hd;rw[hz k (gSm hd).1,ho k,<- he k d hd];simp
 . exact absurd h (by simp[D6])
theorem bB9 {n:SNode} (h:n.kind=5) {fs:List SFile} {ins:List (List UInt8)}:i8 n fs ins=[]:=by unfold i8;rw[if_neg (by omega),if_neg (by omega),if_neg (by omega),if_neg (by omega)]
theorem bp1 {e c b o d:List UInt8} (h:e <+: d) (he:e=c++b++o) (k:Nat):c++b.take k <+: d:=by
 obtain⟨r,rfl⟩:=h;subst he;refine⟨b.drop k++o++r,?_⟩;have e:b.take k++(b.drop k++(o++r))=b++(o++r):=by rw[<- List.append_assoc,List.take_append_drop]
 simp only[List.append_assoc];rw[e]
theorem cc5 {ns:List SNode} {fs:List SFile} {room:Int} {M:SMach} {C:Nat->List UInt8} {E:Nat->Nat->List UInt8} (g:RightG ns) (h:MInv ns fs room M C E) {a:Nat} {n:SNode} {p:SProc} (hn:ns[a]? = some n) (hp:M.ps[a]? = some p) (hov:p.ov=false) (hrd:p.rd=false)
 (Ai:∀b∈p.out,b=[]) (Bd:p.got≠[]) (hcl:(M.pipe (b7 ns a+p.pos.toNat)).closed=true) (hem:(M.pipe (b7 ns a+p.pos.toNat)).b=[]) :
 ∃E',MInv ns fs room (if p.pos+1=p.got.length then M.setP a (D6 n M.fs ⟨p.got,p.pos+1,p.out,p.rd,p.ov⟩) else M.setP a ⟨p.got,p.pos+1,p.out,p.rd,p.ov⟩) C E':=by
 have hpr:=h.proc a n p hn hp;have hch:=g.node n (mGt hn);have Eg:=m9 hch fs (n.ins.map (j3 (j5 fs [] ns)));have Db:(n.ins.map (j3 (j5 fs [] ns))).length=n.ins.length:=List.length_map _;have hgl:p.got.length=n.ins.length:=hpr.glen.trans Db;have hg0:n.ins.length≠0:=by intro e;exact Bd (List.length_eq_zero_iff.1 (hgl.trans e))
 obtain⟨m,hw⟩:=hpr.wait hrd;have hmt:p.pos.toNat=m:=by rw[hw.pos];simp
 rw[hmt] at hcl hem;have hml:m<n.ins.length:=by rw[<- Db];exact hw.lt (by omega)
 obtain⟨po,hpo⟩:∃po,n.ins[m]? = some po:=⟨_,gEl hml⟩;obtain⟨i,k,m',epo,hia,hm',hk⟩:=g.src hn hpo;subst epo;obtain⟨x,hx⟩:∃x,M.pipes[b7 ns a+m]? = some x:=⟨_,gEl (by rw[h.xlen];exact S9 hn hml)⟩;have hxp:M.pipe (b7 ns a+m)=x:=by unfold SMach.pipe;rw[hx];rfl
 rw[hxp] at hcl hem;obtain⟨pw,hpw⟩:∃pw,M.ps[i]? = some pw:=⟨_,gEl (by rw[h.plen];exact (gSm hm').1)⟩;obtain⟨q1,q2⟩:=h.pipe a n m i k p pw x hn hpo hp hpw hx;have hsh:x.shut=false:=by
  cases hs:x.shut with
  | false=>rfl
  | true=>exact absurd (hrd.symm.trans (q2.shut hs)) (by simp)
 have hwp:=h.proc i m' pw hm' hpw;have hwo:pw.ov=true:=q2.closed.symm.trans hcl;have hds:=aw7 g fs hm' hk;have hEd:E i k=j3 (j5 fs [] ns) ((i:Int),(k:Int)):=hwp.rde (hwp.ovrd hwo) k _ hds;have hpo0:pw.out[k]?.getD []=[]:=by
  cases hk2:pw.out[k]? with
  | none=>rfl
  | some b=>exact hwp.ovout hwo b (mGt hk2)
 have hCm:C (b7 ns a+m)=j3 (j5 fs [] ns) ((i:Int),(k:Int)):=by have:=q2.flow hsh;rw[hem,hpo0,hEd] at this;simpa using this.symm
 have Hh:(n.ins.map (j3 (j5 fs [] ns)))[m]? = some (j3 (j5 fs [] ns) ((i:Int),(k:Int))):=by rw[List.getElem?_map,hpo];rfl
 have hwh:∀b∈n.ins.map (j3 (j5 fs [] ns)),Whol b:=by
  intro b hb;obtain⟨j,hj⟩:=List.getElem?_of_mem hb;rw[List.getElem?_map] at hj
  cases hq:n.ins[j]? with
  | none=>rw[hq] at hj;cases hj
  | some po=>
   rw[hq] at hj
   injection hj with hj
   obtain⟨i2,k2,m2,e2,_,hm2,hk2⟩:=g.src hn hq
   subst e2
   rw[<- hj]
   exact bb4 (g.node m2 (mGt hm2)) fs _ _ (mGt (aw7 g fs hm2 hk2))
 generalize Uc:n.ins.map (j3 (j5 fs [] ns))=INS at *;have hgm:passes n=true->n.kind≠5->(∀j:Nat,p.got[j]?.getD []=[])/\E a 0=through n ((INS.take (m+1)).flatten):=by
  intro hps h5;obtain⟨w1,W,w2,w3,w4,w5⟩:=hw.pass h5 hps;have hg:=bN9 (w3.symm.trans hCm) (hwh _ (mGt Hh)) w2;refine⟨fun j=>?_,?_⟩
  . by_cases hj:j=m
    . subst hj;exact hg
    . exact w1 j hj
  . rw[w5,List.take_add_one,Hh];have:W=j3 (j5 fs [] ns) ((i:Int),(k:Int)):=by rw[<- hCm];show W=C (b7 ns a+m);rw[w3,hg,List.append_nil]
    rw[this];simp
 have Ju:∀(j:Nat) (d:List UInt8),j<m+1->INS[j]? = some d->C (b7 ns a+j)=d:=by
  intro j d hj hd;by_cases e:j=m
  . subst e;rw[Hh] at hd;injection hd with hd;rw[hCm,hd]
  . exact hw.past j d (by omega) hd
 unfold SMach.setP;have Lo:p.pos+1=((m+1:Nat):Int):=by rw[hw.pos];omega
 by_cases Dt:p.pos+1=p.got.length
 .
  rw[if_pos Dt,show D6 n M.fs ⟨p.got,p.pos+1,p.out,p.rd,p.ov⟩=D6 n fs ⟨p.got,p.pos+1,p.out,p.rd,p.ov⟩ by rw[h.efs]];have hm1:m+1=n.ins.length:=by omega
  obtain⟨G,hG⟩:=qE (i8 n fs p.got);have hcntG:=m9 hch fs p.got;have hE:∀(kk:Nat) (d:List UInt8),(i8 n fs INS)[kk]? = some d->E a kk++((i8 n fs p.got)[kk]?.getD [])=d:=by
   intro kk d hd;by_cases h5:n.kind=5
   . rw[bB9 h5] at hd;simp at hd
   .
    cases hps:passes n with
    | true=>
     obtain⟨y1,y2⟩:=hgm hps h5
     have hgw:∀b∈p.got,Whol b:=by
      intro b hb
      obtain⟨j,hj⟩:=List.getElem?_of_mem hb
      have:=y1 j
      rw[hj] at this
      simp at this
      rw[this];exact al8
     have hgf:p.got.flatten=[]:=by
      rw[List.flatten_eq_nil_iff]
      intro b hb
      obtain⟨j,hj⟩:=List.getElem?_of_mem hb
      have:=y1 j
      rw[hj] at this
      simpa using this
     rw[as5 hps hch fs INS Db hwh] at hd
     rw[as5 hps hch fs p.got hgl hgw,hgf,aK6 hps]
     rw[List.take_of_length_le (by omega)] at y2
     have hk0:kk=0:=by
      have:=(gSm hd).1
      simp at this
      exact this
     subst hk0
     simp only[List.getElem?_cons_zero,Option.some.injEq] at hd
     rw[y2,hd]
     simp
    | false=>
     obtain⟨y1,y2,_⟩:=hw.hold h5 hps
     have hgi:p.got=INS:=by
      apply List.ext_getElem?
      intro j
      by_cases hj:j<INS.length
      . have e1:=y1 j hj
        have e2:=Ju j INS[j] (by omega) (gEl hj)
        have e3:j<p.got.length:=by omega
        rw[gEl e3] at e1 ⊢
        rw[gEl hj,<- e2]
        congr 1
      . rw[List.getElem?_eq_none (by omega),List.getElem?_eq_none (by omega)]
     rw[y2 kk,hgi,hd]
     rfl
  obtain⟨z1,z2⟩:=bg9 (n:=n) (ds:=i8 n fs INS) (ins:=INS) (c:=fun j=>C (b7 ns a+j)) (e:=E a) (p:=⟨p.got,p.pos+1,p.out,p.rd,p.ov⟩) (sunk:=M.sunk) fs hch hpr.glen hpr.olen ⟨by show 0<=p.pos+1;omega,by show p.pos+1<=_;omega⟩ hov Ai (by show (i8 n fs INS).length=(i8 n fs p.got).length;omega) hpr.cpre hpr.snk (fun _ d hd=>Ju 0 d (by omega) hd) hE;refine⟨fun i=>if i=a then (fun k=>E a k++((i8 n fs p.got)[k]?.getD [])) else E i,?_⟩;refine ai9 g h hn hp (D6 n fs ⟨p.got,p.pos+1,p.out,p.rd,p.ov⟩) M.pipes M.sunk C _ rfl rfl (by rw[Uc];exact z1) (fun _=>rfl) (fun q _=>⟨rfl,rfl⟩) ?_ ?_
  . intro m2 i2 k2 pw2 x2 y Cf Eh hy hx2;rw[hy] at hx2;injection hx2 with hx2;subst hx2;obtain⟨s1,s2⟩:=h.pipe a n m2 i2 k2 p pw2 y hn Cf hp Eh hy;refine⟨rfl,s2.good,s2.closed,fun _=>rfl,s2.flow,fun _ _=>?_⟩;have hm2:m2<n.ins.length:=(gSm Cf).1;exact Ju m2 _ (by omega) (by rw[<- Uc,List.getElem?_map,Cf];rfl)
  . intro kk hkk;exact⟨_,rfl,z2 kk (by omega)⟩
 .
  rw[if_neg Dt];have hm1:m+1<n.ins.length:=by omega
  refine⟨fun i=>if i=a then E a else E i,?_⟩;refine ai9 g h hn hp ⟨p.got,p.pos+1,p.out,p.rd,p.ov⟩ M.pipes M.sunk C (E a) rfl rfl ?_ (fun _=>rfl) (fun q _=>⟨rfl,rfl⟩) ?_ ?_
  . rw[Uc];refine⟨hpr.glen,hpr.olen,⟨by show 0<=p.pos+1;omega,by show p.pos+1<=_;omega⟩,hpr.ovrd,hpr.ovout,hpr.pre,hpr.cpre,hpr.rde,hpr.small,hpr.osmall,hpr.snk,hpr.snk2,fun _=>⟨m+1,Lo,fun _=>by omega,Ju,fun j hj hjl=>hw.next j (by omega) hjl,hw.sink,fun h5 hps=>?_,hw.hold⟩⟩;obtain⟨y1,y2⟩:=hgm hps h5;refine⟨fun j _=>y1 j,[],by show (10:UInt8)∉p.got[m+1]?.getD [];rw[y1];simp,?_,al8,?_⟩
    . show C (b7 ns a+(m+1))=[]++p.got[m+1]?.getD [];rw[y1];exact hw.next (m+1) (by omega) (by omega)
    . rw[List.append_nil];exact y2
  . intro m2 i2 k2 pw2 x2 y Cf Eh hy hx2;rw[hy] at hx2;injection hx2 with hx2;subst hx2;obtain⟨s1,s2⟩:=h.pipe a n m2 i2 k2 p pw2 y hn Cf hp Eh hy;exact⟨rfl,s2⟩
  . intro kk hkk;exact⟨[],by simp,by simp⟩
theorem bC0 {ns:List SNode} {fs:List SFile} {room:Int} {M:SMach} {C:Nat->List UInt8} {E:Nat->Nat->List UInt8} (g:RightG ns) (h:MInv ns fs room M C E) {a:Nat} {n:SNode} {p:SProc} (hn:ns[a]? = some n) (hp:M.ps[a]? = some p) (hov:p.ov=false) (hrd:p.rd=false)
 (Ai:∀b∈p.out,b=[]) (Bd:p.got=[]):∃E',MInv ns fs room (M.setP a (D6 n M.fs p)) C E':=by
 have hpr:=h.proc a n p hn hp;have hch:=g.node n (mGt hn);have Db:(n.ins.map (j3 (j5 fs [] ns))).length=n.ins.length:=List.length_map _;have hi0:n.ins=[]:=List.length_eq_zero_iff.1 (by rw[<- Db,<- hpr.glen,Bd];rfl);have Lp:n.kind≠5/\passes n=false:=by
  constructor
  . intro h5;have:=(y9 hch).2 (Or.inr (Or.inr h5));rw[hi0] at this
    cases this
  . cases hps:passes n with
    | false=>rfl
    | true=>exact absurd (by rw[hi0];rfl) (aQ8 hch hps)
 obtain⟨m,hw⟩:=hpr.wait hrd;obtain⟨_,y2,_⟩:=hw.hold Lp.1 Lp.2;have hII:n.ins.map (j3 (j5 fs [] ns))=p.got:=by rw[hi0,Bd];rfl
 obtain⟨z1,z2⟩:=bg9 (n:=n) (ds:=i8 n fs p.got) (ins:=p.got) (c:=fun j=>C (b7 ns a+j)) (e:=E a) (p:=p) (sunk:=M.sunk) fs hch rfl (by rw[<- hII];exact hpr.olen) (by rw[<- hII];exact hpr.rng) hov Ai rfl (by rw[<- hII];exact hpr.cpre) hpr.snk (fun e=>absurd e Lp.1) (fun k d hd=>by rw[y2,hd];rfl);unfold SMach.setP;rw[show D6 n M.fs p=D6 n fs p by rw[h.efs]];refine⟨fun i=>if i=a then (fun k=>E a k++((i8 n fs p.got)[k]?.getD [])) else E i,?_⟩;refine ai9 g h hn hp (D6 n fs p) M.pipes M.sunk C _ rfl rfl (by rw[hII];exact z1) (fun _=>rfl) (fun q _=>⟨rfl,rfl⟩) ?_ ?_
 . intro m2 i2 k2 pw2 x2 y Cf;rw[hi0] at Cf;simp at Cf
 . intro kk hkk;have:=m9 hch fs p.got;exact⟨_,rfl,z2 kk (by omega)⟩
theorem aQ9 {n:SNode} (h:passes n=true) {a b:List UInt8} (ha:Whol a) (hp:a <+: b):through n a <+: through n b:=by obtain⟨r,rfl⟩:=hp;rw[ah4 h ha];exact List.prefix_append _ _
theorem bp2 {INS:List (List UInt8)} {m:Nat} {d W:List UInt8} (hm:INS[m]? = some d) (hW:W <+: d):(INS.take m).flatten++W <+: INS.flatten:=by
 obtain⟨r,rfl⟩:=hW;have hml:m<INS.length:=(gSm hm).1;refine⟨r++(INS.drop (m+1)).flatten,?_⟩;conv=>rhs;rw[<- List.take_append_drop m INS,List.drop_eq_getElem_cons hml]
 rw[gEl hml] at hm;injection hm with hm;rw[hm];simp
theorem aO6 {l:List SPipe} {q:Nat} {x y:SPipe} (hq:l[q]? = some y):(l.set q x)[q]? = some x:=by rw[List.getElem?_set,if_pos rfl,if_pos (gSm hq).1]
theorem cc6 {ns:List SNode} {fs:List SFile} {room:Int} {M:SMach} {C:Nat->List UInt8} {E:Nat->Nat->List UInt8} (g:RightG ns) (h:MInv ns fs room M C E) {a:Nat} {n:SNode} {p:SProc} (hn:ns[a]? = some n) (hp:M.ps[a]? = some p) (hov:p.ov=false) (hrd:p.rd=false)
 (Ai:∀b∈p.out,b=[]) (Bd:p.got≠[]) {q:Nat} (hq:q=b7 ns a+p.pos.toNat) (hem:(M.pipe q).b≠[]) :
 ∃C' E',MInv ns fs room (K9 (M.setX q ⟨(M.pipe q).b.drop 8,(M.pipe q).room,(M.pipe q).closed,(M.pipe q).shut⟩) a n q (p.setGot (p.at++(M.pipe q).b.take 8))) C' E':=by
 have hpr:=h.proc a n p hn hp;have hch:=g.node n (mGt hn);have Eg:=m9 hch fs (n.ins.map (j3 (j5 fs [] ns)));have Db:(n.ins.map (j3 (j5 fs [] ns))).length=n.ins.length:=List.length_map _;have hgl:p.got.length=n.ins.length:=hpr.glen.trans Db;have hg0:n.ins.length≠0:=by intro e;exact Bd (List.length_eq_zero_iff.1 (hgl.trans e))
 obtain⟨m,hw⟩:=hpr.wait hrd;have hmt:p.pos.toNat=m:=by rw[hw.pos];simp
 rw[hmt] at hq;subst hq;have hml:m<n.ins.length:=by rw[<- Db];exact hw.lt (by omega)
 obtain⟨po,hpo⟩:∃po,n.ins[m]? = some po:=⟨_,gEl hml⟩;obtain⟨i,k,m',epo,hia,hm',hk⟩:=g.src hn hpo;subst epo;obtain⟨x,hx⟩:∃x,M.pipes[b7 ns a+m]? = some x:=⟨_,gEl (by rw[h.xlen];exact S9 hn hml)⟩;have hxp:M.pipe (b7 ns a+m)=x:=by unfold SMach.pipe;rw[hx];rfl
 rw[hxp] at hem ⊢;obtain⟨pw,hpw⟩:∃pw,M.ps[i]? = some pw:=⟨_,gEl (by rw[h.plen];exact (gSm hm').1)⟩;obtain⟨q1,q2⟩:=h.pipe a n m i k p pw x hn hpo hp hpw hx;have Ap:=V3 q2.good;have hsh:x.shut=false:=by
  cases hs:x.shut with
  | false=>rfl
  | true=>exact absurd (hrd.symm.trans (q2.shut hs)) (by simp)
 have hwp:=h.proc i m' pw hm' hpw;have hds:=aw7 g fs hm' hk;have Gu:=q2.flow hsh;have hcp:C (b7 ns a+m)++x.b.take 8 <+: j3 (j5 fs [] ns) ((i:Int),(k:Int)):=bp1 (hwp.pre k _ hds) Gu 8;have Hh:(n.ins.map (j3 (j5 fs [] ns)))[m]? = some (j3 (j5 fs [] ns) ((i:Int),(k:Int))):=by rw[List.getElem?_map,hpo];rfl
 have hwh:∀b∈n.ins.map (j3 (j5 fs [] ns)),Whol b:=by
  intro b hb;obtain⟨j,hj⟩:=List.getElem?_of_mem hb;rw[List.getElem?_map] at hj
  cases hq:n.ins[j]? with
  | none=>rw[hq] at hj;cases hj
  | some po=>
   rw[hq] at hj
   injection hj with hj
   obtain⟨i2,k2,m2,e2,_,hm2,hk2⟩:=g.src hn hq
   subst e2
   rw[<- hj]
   exact bb4 (g.node m2 (mGt hm2)) fs _ _ (mGt (aw7 g fs hm2 hk2))
 obtain⟨bite,Ro⟩:=qE (x.b.take 8);obtain⟨C1,hC1⟩:=qE (fun q=>if q=b7 ns a+m then C (b7 ns a+m)++bite else C q:Nat->List UInt8);have Iy:C1 (b7 ns a+m)=C (b7 ns a+m)++bite:=by rw[hC1];simp
 have Iz:∀j,j≠m->C1 (b7 ns a+j)=C (b7 ns a+j):=fun j hj=>by rw[hC1];simp only;rw[if_neg (by omega)]
 rw[<- Ro] at hcp ⊢;have Fj:∀(j:Nat) (d:List UInt8),(n.ins.map (j3 (j5 fs [] ns)))[j]? = some d->C1 (b7 ns a+j) <+: d:=by
  intro j d hd;by_cases e:j=m
  . subst e;rw[Hh] at hd;injection hd with hd;rw[Iy,<- hd];exact hcp
  . rw[Iz j e];exact hpr.cpre j d hd
 have Lq:p.at=p.got[m]?.getD []:=by unfold SProc.at;rw[hmt]
 have Ud:m<p.got.length:=by omega
 obtain⟨p1,hp1⟩:=qE (p.setGot (p.at++bite));rw[<- hp1];have Pq:p1.got=p.got.set m (p.at++bite):=by rw[hp1];unfold SProc.setGot;rw[hmt]
 have Be:p1.pos=p.pos:=by rw[hp1];rfl
 have Az:p1.out=p.out:=by rw[hp1];rfl
 have Dn:p1.rd=false:=by rw[hp1];exact hrd
 have Bt:p1.ov=false:=by rw[hp1];exact hov
 have Ig:p1.at=p.at++bite:=by unfold SProc.at;rw[Be,hmt,Pq,V4 Ud,if_pos rfl,Lq]
 have Pv:∀j,j≠m->p1.got[j]?.getD []=p.got[j]?.getD []:=fun j hj=>by rw[Pq,V4 Ud,if_neg hj]
 have Kr:p1.got[m]?.getD []=p.at++bite:=by rw[Pq,V4 Ud,if_pos rfl]
 have Lr:p1.got.length=p.got.length:=by rw[Pq];simp
 have Bo:∀(X:List SPipe) (rd':Bool),X=M.pipes.set (b7 ns a+m) ⟨x.b.drop 8,x.room,x.closed,x.shut⟩->rd'=false ->
  ∀(m2 i2 k2:Nat) (pw2:SProc) (x2 y:SPipe),n.ins[m2]? = some ((i2:Int),(k2:Int))->M.ps[i2]? = some pw2->M.pipes[b7 ns a+m2]? = some y->X[b7 ns a+m2]? = some x2 ->
  x2.room=y.room/\PipeOk (j3 (j5 fs [] ns) ((i2:Int),(k2:Int))) (E i2 k2) (C1 (b7 ns a+m2)) x2 (pw2.out[k2]?.getD []) pw2.ov rd':=by
  intro X rd' hX Ei m2 i2 k2 pw2 x2 y Cf Eh hy hx2
  subst hX Ei
  rcases ae5 hx2 with ⟨e,rfl⟩ | ⟨e,hx3⟩
  .
   have e':m2=m:=by omega
   subst e'
   rw[hpo] at Cf
   simp only[Option.some.injEq,Prod.mk.injEq,Int.natCast_inj] at Cf
   obtain⟨rfl,rfl⟩:=Cf
   rw[hpw] at Eh
   injection Eh with Eh
   subst Eh
   rw[hx] at hy
   injection hy with hy
   subst hy
   refine⟨rfl,?_,q2.closed,fun h2=>absurd (hsh.symm.trans h2) (by simp),fun _=>?_,fun _ h2=>absurd h2 (by simp)⟩
   . refine J9 Ap.1 Ap.2.1 ?_ (fun h2=>absurd (hsh.symm.trans h2) (by simp))
     show ((x.b.drop 8).length:Int)<=plim x.room
     have:=Ap.2.2.1
     rw[List.length_drop]
     omega
   . rw[Iy,Gu,Ro]
     have:x.b.take 8++x.b.drop 8=x.b:=List.take_append_drop 8 x.b
     show C (b7 ns a+m2)++x.b++pw.out[k]?.getD []=C (b7 ns a+m2)++x.b.take 8++x.b.drop 8++pw.out[k]?.getD []
     rw[List.append_assoc (C (b7 ns a+m2)) (x.b.take 8),this]
  .
   have e':m2≠m:=by omega
   rw[hy] at hx3
   injection hx3 with hx3
   subst hx3
   obtain⟨s1,s2⟩:=h.pipe a n m2 i2 k2 p pw2 y hn Cf hp Eh hy
   rw[Iz m2 e',<- hrd]
   exact⟨rfl,s2⟩
 have Ih:∀(z:SPipe) (q:Nat),(∀m2,m2<n.ins.length->q≠b7 ns a+m2)->(M.pipes.set (b7 ns a+m) z)[q]? = M.pipes[q]? /\ C1 q=C q:=by
  intro z q hq;have:=hq m hml;refine⟨?_,?_⟩
  . rw[List.getElem?_set,if_neg (fun e=>this e.symm)]
  . rw[hC1];simp only;rw[if_neg this]
 have Ja:∀(j:Nat) (d:List UInt8),j<m->(n.ins.map (j3 (j5 fs [] ns)))[j]? = some d->C1 (b7 ns a+j)=d:=fun j d hj hd=>by rw[Iz j (by omega)];exact hw.past j d hj hd
 have Hi:∀j,m<j->j<(n.ins.map (j3 (j5 fs [] ns))).length->C1 (b7 ns a+j)=[]:=fun j hj hjl=>by rw[Iz j (by omega)];exact hw.next j hj hjl
 have Xl:∀j,j<(n.ins.map (j3 (j5 fs [] ns))).length->(p1.got[j]?.getD []).length<=(C1 (b7 ns a+j)).length:=by
  intro j hj;by_cases e:j=m
  . subst e;have:=hpr.small j hj;rw[Kr,Iy,Lq,List.length_append,List.length_append];exact Nat.add_le_add_right this _
  . rw[Pv j e,Iz j e];exact hpr.small j hj
 unfold K9;by_cases h5:n.kind=5
 .
  -- a sink
  rw[if_pos h5];have h1:=(y9 hch).2 (Or.inr (Or.inr h5));have hm0:m=0:=by omega
  subst hm0;have hat0:p.at=[]:=by rw[Lq];exact hw.sink h5
  refine⟨C1,fun i=>if i=a then E a else E i,?_⟩;refine ai9 g h hn hp (p1.setGot []) (M.pipes.set (b7 ns a+0) _) (M.sunk++p1.at) C1 (E a) (by simp) (by rw[hov];exact Bt) ?_ (fun e=>absurd h5 e) (Ih _) (Bo _ _ rfl Dn) (fun kk hkk=>⟨[],by simp,by unfold SProc.setGot;simp[Az]⟩);have hsg:(p1.setGot []).got=p1.got.set 0 []:=by unfold SProc.setGot;rw[Be,hmt]
  have hsz:∀j:Nat,(p1.setGot []).got[j]?.getD []=[]:=by
   intro j;rw[hsg];by_cases e:j=0
   . subst e;rw[V4 (by omega),if_pos rfl]
   . rw[List.getElem?_eq_none (by rw[List.length_set];omega)];rfl
  refine⟨by rw[hsg,List.length_set,Lr];exact hpr.glen,by show p1.out.length=_;rw[Az];exact hpr.olen,by show 0<=p1.pos/\p1.pos<=_;rw[Be];exact hpr.rng,fun e=>absurd (Bt.symm.trans e) (by simp),fun e=>absurd (Bt.symm.trans e) (by simp),hpr.pre,Fj,fun e=>absurd (Dn.symm.trans e) (by simp),fun j hj=>by rw[hsz j];simp,by show ∀(k:Nat) (d:List UInt8),_->(p1.out[k]?.getD []).length<=_;rw[Az];exact hpr.osmall,fun _=>?_,fun _ e=>absurd (Dn.symm.trans e) (by simp),fun _=>⟨0,?_,fun _=>by omega,fun j d hj=>absurd hj (by omega),Hi,fun _=>hsz 0,fun e=>absurd h5 e,fun e=>absurd h5 e⟩⟩
  . rw[Ig,hat0,Iy,hpr.snk h5];rfl
  . show p1.pos=_;rw[Be];exact hw.pos
 .
  rw[if_neg h5]
  cases hps:passes n with
  | true=>
   obtain⟨w1,W,w2,w3,w4,w5⟩:=hw.pass h5 hps
   rw[<- Lq] at w2 w3
   have hno1:nouts n=1:=aK7 hps
   have hdsl:(i8 n fs (n.ins.map (j3 (j5 fs [] ns)))).length=1:=by omega
   have hD:=as5 hps hch fs (n.ins.map (j3 (j5 fs [] ns))) Db hwh
   by_cases h10:p1.at.contains 10=true
   .
    rw[if_pos (by rw[h10];rfl)]
    obtain⟨X1,hX1⟩:=qE (p1.at.take (o6 p1.at))
    obtain⟨X2,hX2⟩:=qE (p1.at.drop (o6 p1.at))
    have hX12:X1++X2=p.at++bite:=by rw[hX1,hX2,List.take_append_drop,Ig]
    have hXw:Whol X1:=by rw[hX1];exact bo9 _
    have hXn:(10:UInt8)∉X2:=by rw[hX2];exact aQ7 _
    rw[<- hX1,<- hX2]
    have hfw:Whol ((List.take m (n.ins.map (j3 (j5 fs [] ns)))).flatten++W):=(aH1 _ (fun b hb=>hwh b (List.mem_of_mem_take hb))).append w4
    have hE0:E a 0++through n X1=through n ((List.take m (n.ins.map (j3 (j5 fs [] ns)))).flatten++(W++X1)):=by
     rw[w5,<- ah4 hps hfw,List.append_assoc]
    have hCW:C1 (b7 ns a+m)=(W++X1)++X2:=by rw[Iy,show C (b7 ns a+m)=W++p.at from w3,List.append_assoc,List.append_assoc,hX12]
    have Rq:through n ((List.take m (n.ins.map (j3 (j5 fs [] ns)))).flatten++(W++X1)) <+: through n (n.ins.map (j3 (j5 fs [] ns))).flatten:=by
     refine aQ9 hps ((aH1 _ (fun b hb=>hwh b (List.mem_of_mem_take hb))).append (w4.append hXw)) (bp2 Hh ?_)
     refine List.IsPrefix.trans ⟨X2,rfl⟩ ?_
     rw[<- hCW]
     exact Fj m _ Hh
    have Ue:p1.out.length=1:=by rw[Az,hpr.olen,hdsl]
    have ho0:p1.out[0]?.getD []=[]:=by
     rw[Az]
     cases hk2:p.out[0]? with
     | none=>rfl
     | some b=>exact Ai b (mGt hk2)
    rw[ho0,List.nil_append]
    refine⟨C1,fun i=>if i=a then (fun kk=>if kk=0 then E a 0++through n X1 else E a kk) else E i,?_⟩
    unfold SMach.setX SMach.setP
    obtain⟨p2,hp2⟩:=qE ((p1.setOut 0 (through n X1)).setGot X2)
    have Uf:p2.got=p1.got.set m X2:=by rw[hp2];show p1.got.set p1.pos.toNat X2=_;rw[Be,hmt]
    have Ug:p2.got[m]?.getD []=X2:=by rw[Uf,V4 (by omega),if_pos rfl]
    have Xm:∀j,j≠m->p2.got[j]?.getD []=p.got[j]?.getD []:=fun j hj=>by rw[Uf,V4 (by omega),if_neg hj,Pv j hj]
    have Jb:p2.out=p1.out.set 0 (through n X1):=by rw[hp2];rfl
    have Ls:p2.pos=p.pos:=by rw[hp2,<- Be];rfl
    have Rr:p2.rd=false:=by rw[hp2,<- Dn];rfl
    have Lt:p2.ov=false:=by rw[hp2,<- Bt];rfl
    rw[<- hp2]
    refine ai9 g h hn hp p2 (M.pipes.set (b7 ns a+m) _) M.sunk C1 _ (by simp) (by rw[hov];exact Lt) ?_ (fun _=>rfl) (Ih _) (Bo _ _ rfl Rr) ?_
    .
     refine⟨by rw[Uf,List.length_set,Lr];exact hpr.glen,by rw[Jb,List.length_set,Az];exact hpr.olen,by rw[Ls];exact hpr.rng,fun e=>absurd (Lt.symm.trans e) (by simp),fun e=>absurd (Lt.symm.trans e) (by simp),?_,Fj,fun e=>absurd (Rr.symm.trans e) (by simp),?_,?_,fun e=>absurd e h5,fun e=>absurd e h5,fun _=>⟨m,by rw[Ls];exact hw.pos,fun _=>by omega,Ja,Hi,fun e=>absurd e h5,fun _ _=>⟨fun j hj=>by rw[Xm j hj];exact w1 j hj,W++X1,by rw[Ug];exact hXn,by rw[Ug];exact hCW,w4.append hXw,?_⟩,fun _ e=>absurd (hps.symm.trans e) (by simp)⟩⟩
     .
      intro kk d hd
      rw[hD] at hd
      have hk0:kk=0:=by
       have:=(gSm hd).1
       simp at this
       exact this
      subst hk0
      simp only[List.getElem?_cons_zero,Option.some.injEq] at hd
      simp only[if_true]
      rw[hE0,<- hd]
      exact Rq
     . intro j hj
       by_cases e:j=m
       . subst e
         rw[Ug,hCW,List.length_append]
         omega
       . rw[Xm j e,Iz j e];exact hpr.small j hj
     .
      intro kk d hd
      rw[hD] at hd
      have hk0:kk=0:=by
       have:=(gSm hd).1
       simp at this
       exact this
      subst hk0
      simp only[List.getElem?_cons_zero,Option.some.injEq] at hd
      rw[Jb,V4 (by omega),if_pos rfl]
      have:=Rq.length_le
      rw[<- hE0,List.length_append,hd] at this
      omega
     . simp only[if_true];exact hE0
    . intro kk hkk
      have hk0:kk=0:=by omega
      subst hk0
      refine⟨through n X1,by simp,?_⟩
      rw[Jb,V4 (by omega),if_pos rfl,<- Az,ho0]
      rfl
   .
    rw[if_neg (by simp only[Bool.and_eq_true,not_and];exact fun _=>h10),if_neg (by
     rintro ⟨k3,k9,_⟩
     rcases ae1 hps with ⟨k4,_⟩ | ⟨_,k5⟩
     . omega
     . have:=of_decide_eq_true k5
       omega)]
    have Xn:(10:UInt8)∉p.at++bite:=by rw[<- Ig];simpa using h10
    refine⟨C1,fun i=>if i=a then E a else E i,?_⟩
    unfold SMach.setX SMach.setP
    refine ai9 g h hn hp p1 (M.pipes.set (b7 ns a+m) _) M.sunk C1 (E a) (by simp) (by rw[hov];exact Bt) ?_ (fun _=>rfl) (Ih _) (Bo _ _ rfl Dn) (fun kk hkk=>⟨[],by simp,by simp[Az]⟩)
    refine⟨Lr.trans hpr.glen,by rw[Az];exact hpr.olen,by rw[Be];exact hpr.rng,fun e=>absurd (Bt.symm.trans e) (by simp),fun e=>absurd (Bt.symm.trans e) (by simp),hpr.pre,Fj,fun e=>absurd (Dn.symm.trans e) (by simp),Xl,by rw[Az];exact hpr.osmall,fun e=>absurd e h5,fun e=>absurd e h5,fun _=>⟨m,by rw[Be];exact hw.pos,fun _=>by omega,Ja,Hi,fun e=>absurd e h5,fun _ _=>⟨fun j hj=>by rw[Pv j hj];exact w1 j hj,W,by rw[Kr];exact Xn,by rw[Kr];show C1 (b7 ns a+m)=_;rw[Iy,show C (b7 ns a+m)=W++p.at from w3,List.append_assoc],w4,w5⟩,fun _ e=>absurd (hps.symm.trans e) (by simp)⟩⟩
  | false=>
   obtain⟨y1,y2,y3⟩:=hw.hold h5 hps
   rw[if_neg (by simp)]
   have hgc:∀j,j<(n.ins.map (j3 (j5 fs [] ns))).length->p1.got[j]?.getD []=C1 (b7 ns a+j):=by
    intro j hj
    by_cases e:j=m
    . subst e
      rw[Kr,Iy,Lq,y1 j hj]
    . rw[Pv j e,Iz j e];exact y1 j hj
   by_cases hhd:n.kind=3/\n.c.kind=9/\n.c.n<=(p1.at.count 10:Int)
   .
    rw[if_pos hhd]
    obtain⟨k3,k9,kN⟩:=hhd
    have h1:=(y9 hch).2 (Or.inr (Or.inl k3))
    have hm0:m=0:=by omega
    subst hm0
    have Rt:p1.got=[p1.at]:=by
     have hl1:p1.got.length=1:=by omega
     match hpg:p1.got,hl1 with
     | [b],_=>
      have:=Kr
      rw[hpg] at this
      simp only[List.getElem?_cons_zero,Option.getD_some] at this
      rw[this,Ig]
    have Xo:n.ins.map (j3 (j5 fs [] ns))=[j3 (j5 fs [] ns) ((i:Int),(k:Int))]:=by
     have hl1:(n.ins.map (j3 (j5 fs [] ns))).length=1:=by omega
     match hpg:n.ins.map (j3 (j5 fs [] ns)),hl1 with
     | [b],_=>
      have:=Hh
      rw[hpg] at this
      simp only[List.getElem?_cons_zero,Option.some.injEq] at this
      rw[this]
    have hat1:p1.at=C1 (b7 ns a+0):=by
     have:=hgc 0 (by omega)
     rw[Rt] at this
     simpa using this
    have hmm:i8 n fs p1.got=i8 n fs (n.ins.map (j3 (j5 fs [] ns))):=by
     rw[Rt,Xo]
     unfold i8
     rw[if_neg (by omega),if_neg (by omega),if_pos k3,if_neg (by omega),if_neg (by omega),if_pos k3]
     simp only[List.head?_cons,Option.getD_some]
     rw[aJ9 _ k9,aJ9 _ k9,bO0 (hat1 ▸ Fj 0 _ Hh) n.c.n.toNat (by omega)]
    obtain⟨z1,z2⟩:=bg9 (n:=n) (ds:=i8 n fs (n.ins.map (j3 (j5 fs [] ns)))) (ins:=n.ins.map (j3 (j5 fs [] ns))) (c:=fun j=>C1 (b7 ns a+j)) (e:=E a) (p:=p1) (sunk:=M.sunk) fs hch (Lr.trans hpr.glen) (by rw[Az];exact hpr.olen) (by rw[Be];exact hpr.rng) Bt (by rw[Az];exact Ai) (by rw[hmm]) Fj (fun e=>absurd e h5) (fun e=>absurd e h5) (fun kk d hd=>by rw[y2 kk,hmm,hd];rfl)
    refine⟨C1,fun i=>if i=a then (fun k=>E a k++((i8 n fs p1.got)[k]?.getD [])) else E i,?_⟩
    unfold SMach.setX SMach.setP
    simp only[List.set_set]
    rw[show D6 n M.fs p1=D6 n fs p1 by rw[h.efs]]
    have hpx:(⟨M.ns,M.fs,M.pipes.set (b7 ns a+0) ⟨x.b.drop 8,x.room,x.closed,x.shut⟩,M.ps,M.sunk⟩:SMach).pipe (b7 ns a+0)=⟨x.b.drop 8,x.room,x.closed,x.shut⟩:=by
     unfold SMach.pipe
     rw[aO6 hx]
     rfl
    rw[hpx]
    refine ai9 g h hn hp (D6 n fs p1) (M.pipes.set (b7 ns a+0) _) M.sunk C1 _ (by simp) (by rw[hov];exact Bt) z1 (fun _=>rfl) (Ih _) ?_ ?_
    .
     intro m2 i2 k2 pw2 x2 y Cf Eh hy hx2
     have hm2:m2=0:=by
      have:=(gSm Cf).1
      omega
     subst hm2
     rw[aO6 hx] at hx2
     injection hx2 with hx2
     rw[hx] at hy
     injection hy with hy
     subst hx2 hy
     rw[hpo] at Cf
     simp only[Option.some.injEq,Prod.mk.injEq,Int.natCast_inj] at Cf
     obtain⟨rfl,rfl⟩:=Cf
     rw[hpw] at Eh
     injection Eh with Eh
     subst Eh
     refine⟨rfl,J9 Ap.1 Ap.2.1 ?_ (fun _=>rfl),q2.closed,fun _=>rfl,fun e=>absurd e (by simp),fun e=>absurd e (by simp)⟩
     show ((0:Nat):Int)<=plim x.room
     have:=Ap.2.2.1
     omega
    . intro kk hkk
      exact⟨_,rfl,by rw[<- Az];exact z2 kk (by omega)⟩
   .
    rw[if_neg hhd]
    refine⟨C1,fun i=>if i=a then E a else E i,?_⟩
    unfold SMach.setX SMach.setP
    refine ai9 g h hn hp p1 (M.pipes.set (b7 ns a+m) _) M.sunk C1 (E a) (by simp) (by rw[hov];exact Bt) ?_ (fun _=>rfl) (Ih _) (Bo _ _ rfl Dn) (fun kk hkk=>⟨[],by simp,by simp[Az]⟩)
    refine⟨Lr.trans hpr.glen,by rw[Az];exact hpr.olen,by rw[Be];exact hpr.rng,fun e=>absurd (Bt.symm.trans e) (by simp),fun e=>absurd (Bt.symm.trans e) (by simp),hpr.pre,Fj,fun e=>absurd (Dn.symm.trans e) (by simp),Xl,by rw[Az];exact hpr.osmall,fun e=>absurd e h5,fun e=>absurd e h5,fun _=>⟨m,by rw[Be];exact hw.pos,fun _=>by omega,Ja,Hi,fun e=>absurd e h5,fun _ e=>absurd (hps.symm.trans e) (by simp),fun _ _=>⟨hgc,y2,fun k3 k9=>?_⟩⟩⟩
    have h1:=(y9 hch).2 (Or.inr (Or.inl k3))
    have hm0:m=0:=by omega
    subst hm0
    have e1:=hgc 0 (by omega)
    rw[Kr,<- Ig] at e1
    rw[<- e1]
    have:¬n.c.n<=(p1.at.count 10:Int):=fun e=>hhd ⟨k3,k9,e⟩
    omega
theorem cc7 {ns:List SNode} {fs:List SFile} {room:Int} {M:SMach} {C:Nat->List UInt8} {E:Nat->Nat->List UInt8} (g:RightG ns) (h:MInv ns fs room M C E) (a:Nat):∃C' E',MInv ns fs room (I4 M a).1 C' E':=by
 unfold I4
 cases hn:M.ns[a]? with
 | none=>exact⟨C,E,h⟩
 | some n=>
  cases hp:M.ps[a]? with
  | none=>exact⟨C,E,h⟩
  | some p=>
   rw[h.ens] at hn
   simp only
   unfold ay6
   by_cases hov:p.ov=true
   . rw[if_pos hov];exact⟨C,E,h⟩
   .
    rw[if_neg hov]
    have Ej:p.ov=false:=by simpa using hov
    by_cases Dc:p.out.any (fun b=>!b.isEmpty)=true
    .
     rw[if_pos Dc]
     have key:∀(r:List (List UInt8)) (k:Nat),p.out.drop k=r -> ∃C' E',MInv ns fs room (J3 M a p k r).1 C' E':=by
      intro r
      induction r with
      | nil=>intro k _;exact⟨C,E,h⟩
      | cons b r ih=>
       intro k hk
       have hb:p.out[k]? = some b:=by
        have:(p.out.drop k)[0]? = some b:=by rw[hk];rfl
        rw[List.getElem?_drop] at this
        exact this
       unfold J3
       split
       . exact⟨C,E,bO1 g h hn hp Ej hb⟩
       . refine ih (k+1) ?_
         rw[<- List.drop_drop,hk]
         rfl
     exact key p.out 0 rfl
    .
     rw[if_neg Dc]
     have Ai:∀b∈p.out,b=[]:=by
      intro b hb
      have h1:¬(∃x∈p.out,(!x.isEmpty)=true):=fun hx=>Dc (List.any_eq_true.2 hx)
      cases hbe:b with
      | nil=>rfl
      | cons c r=>exact absurd ⟨b,hb,by rw[hbe];rfl⟩ h1
     by_cases hrd:p.rd=true
     . rw[if_pos hrd]
       exact⟨C,E,co0 g h hn hp Ej hrd Ai⟩
     .
      rw[if_neg hrd]
      have Ei:p.rd=false:=by simpa using hrd
      by_cases Bd:p.got.isEmpty=true
      . rw[if_pos Bd]
        obtain⟨E',h'⟩:=bC0 g h hn hp Ej Ei Ai (List.isEmpty_iff.1 Bd)
        exact⟨C,E',h'⟩
      .
       rw[if_neg Bd]
       have Ru:p.got≠[]:=fun e=>Bd (List.isEmpty_iff.2 e)
       unfold aK1
       rw[h.ens]
       by_cases hc:((M.pipe (b7 ns a+p.pos.toNat)).closed && (M.pipe (b7 ns a+p.pos.toNat)).b.isEmpty)=true
       . rw[if_pos hc]
         simp only[Bool.and_eq_true,List.isEmpty_iff] at hc
         obtain⟨E',h'⟩:=cc5 g h hn hp Ej Ei Ai Ru hc.1 hc.2
         refine⟨C,E',?_⟩
         split
         . rename_i e;rw[if_pos e] at h';exact h'
         . rename_i e;rw[if_neg e] at h';exact h'
       . rw[if_neg hc]
         by_cases he:(M.pipe (b7 ns a+p.pos.toNat)).b.isEmpty=true
         . rw[if_pos he];exact⟨C,E,h⟩
         . rw[if_neg he]
           exact cc6 g h hn hp Ej Ei Ai Ru rfl (fun e=>he (List.isEmpty_iff.2 e))
theorem aa4 (m j:Nat):((List.replicate m ([]:List UInt8))[j]?.getD [])=[]:=by rw[List.getElem?_replicate];split <;> rfl
theorem cc8 {c:Cmd} (h:chk c=0) (h9:c.kind=9):1<=c.n:=by
 unfold chk at h;have hu:uses c.kind=2:=by rw[h9];decide
 rw[if_neg (by omega)] at h;split at h
 . cases h
 .
  split at h
  . cases h
  . rename_i h1;have:¬(c.n<1\/1000<c.n):=fun e=>h1 ⟨hu,e⟩;omega
theorem bp3 {n:SNode} (h:l7 n=0) (h3:n.kind=3):chk n.c=0:=by
 rcases I9 (G8 h).1 with ⟨h4 | h4,_⟩ | ⟨h4,_⟩ | ⟨_,h4⟩ | ⟨h4,_⟩
 . omega
 . omega
 . omega
 . exact h4
 . omega
theorem bO2 {ns:List SNode} {fs:List SFile} {room:Int} (g:RightG ns) (h1:1<=room) (h2:room<=1000):MInv ns fs room (o7 ns fs room) (fun _=>[]) (fun _ _=>[]):=by
 refine⟨rfl,rfl,by simp[o7],by simp[o7],?_,?_⟩
 .
  intro i n p hn hp;have hp':p=S8 n:=by unfold o7 at hp;rw[List.getElem?_map,hn] at hp;injection hp with hp;exact hp.symm
  subst hp';have hch:=g.node n (mGt hn);have Eg:=m9 hch fs (n.ins.map (j3 (j5 fs [] ns)))
  refine⟨by simp[S8],by unfold S8;simp only[List.length_replicate];omega,⟨by simp[S8],by unfold S8;simp only;omega⟩,fun e=>absurd e (by simp[S8]),fun e=>absurd e (by simp[S8]),fun k d _=>List.nil_prefix,fun j d _=>List.nil_prefix,fun e=>absurd e (by simp[S8]),fun j _=>by unfold S8;simp only;rw[aa4];simp,fun k d _=>by unfold S8;simp only;rw[aa4];simp,fun _=>rfl,fun _ e=>absurd e (by simp[S8]),fun _=>⟨0,rfl,fun e=>by omega,fun j d hj=>absurd hj (by omega),fun j _ _=>rfl,fun _=>by unfold S8;simp only;rw[aa4],fun h5 hps=>⟨fun j _=>by unfold S8;simp only;rw[aa4],[],by unfold S8;simp only;rw[aa4];simp,by unfold S8;simp only;rw[aa4];rfl,al8,?_⟩,fun h5 hps=>⟨fun j _=>by unfold S8;simp only;rw[aa4],fun _=>rfl,fun h3 h9=>?_⟩⟩⟩
  . simp only[List.take_zero,List.flatten_nil,List.append_nil];exact (aK6 hps).symm
  . have:=cc8 (bp3 hch h3) h9;simp;omega
 .
  intro r n j i k pr pw x hn hj hr hw hx;have hjl:j<n.ins.length:=(gSm hj).1;obtain⟨i2,k2,m,e,hir,hm,hk⟩:=g.src hn hj;simp only[Prod.mk.injEq,Int.natCast_inj] at e;obtain⟨rfl,rfl⟩:=e;unfold o7 at hr hw hx;rw[List.getElem?_map,hn] at hr;rw[List.getElem?_map,hm] at hw;rw[List.getElem?_map,al7 hn hjl,hj] at hx;injection hr with hr;injection hw with hw;injection hx with hx;subst hr hw hx;refine⟨rfl,?_,rfl,fun e=>absurd e (by simp),fun _=>?_,fun _ e=>absurd e (by simp[S8])⟩
  . have:0<=roomOf ns room ((i:Int),(k:Int))/\roomOf ns room ((i:Int),(k:Int))<=1000:=by unfold roomOf;split <;> omega
    refine J9 this.1 this.2 ?_ (fun _=>rfl);show ((0:Nat):Int)<=plim (roomOf ns room ((i:Int),(k:Int)));unfold plim;split <;> omega
  . unfold S8;simp only;rw[aa4];rfl
theorem RightG.last {ns:List SNode} (g:RightG ns):∃n p,ns[ns.length-1]? = some n/\n.kind=5/\n.ins=[p]:=by
 have:=g.pos;obtain⟨n,hn⟩:∃n,ns[ns.length-1]? = some n:=⟨_,gEl (by omega)⟩;have h5:=(g.sink _ n hn).2 (by omega);have h1:=(y9 (g.node n (mGt hn))).2 (Or.inr (Or.inr h5))
 match hi:n.ins,h1 with
 | [p],_=>exact⟨n,p,hn,h5,hi⟩
theorem bp4 {ns:List SNode} {fs:List SFile} {room:Int} {M:SMach} {C:Nat->List UInt8} {E:Nat->Nat->List UInt8} (g:RightG ns) (h:MInv ns fs room M C E):M.sunk <+: sunk ns fs/\(overS M=true->M.sunk=sunk ns fs):=by
 obtain⟨n,po,hn,h5,hi⟩:=g.last;obtain⟨p,hp⟩:∃p,M.ps[ns.length-1]? = some p:=⟨_,gEl (by rw[h.plen];have:=g.pos;omega)⟩;have hpr:=h.proc _ n p hn hp;rw[aw6 hn,hi];simp only[List.head?_cons,Option.getD_some];have hin:(n.ins.map (j3 (j5 fs [] ns)))[0]? = some (j3 (j5 fs [] ns) po):=by rw[hi];rfl
 rw[hpr.snk h5];refine⟨hpr.cpre 0 _ hin,fun ho=>hpr.snk2 h5 (hpr.ovrd ?_) _ hin⟩;have:=List.all_eq_true.1 ho p (mGt hp);exact this
def T0 (ns:List SNode) (fs:List SFile):Prop:=∀(i k:Nat),(j3 (j5 fs [] ns) ((i:Int),(k:Int))).length<=40000
theorem ay8 {l:List Int} (h:∀x∈l,x=0):Q7 l=0:=by
 unfold Q7;have:l.find? (fun x=>x != 0)=none:=by rw[List.find?_eq_none];intro x hx;simp[h x hx]
 rw[this];rfl
theorem ak4:∀(ns:List SNode) (ps:List SProc),(∀(i:Nat) (n:SNode) (p:SProc),ns[i]? = some n->ps[i]? = some p->F4 n p=0)->H8 ns ps=0
 | [],_,_=>by simp[H8]
 | n::ns,[],_=>by simp[H8]
 | n::ns,p::ps,h=>by
  unfold H8
  rw[if_neg (by simp[h 0 n p rfl rfl])]
  exact ak4 ns ps (fun i n' p' hn hp=>h (i+1) n' p' (by simpa using hn) (by simpa using hp))
theorem ay9 {l:List (List UInt8)} (h:∀j:Nat,(l[j]?.getD []).length<=40000):ab2 l=false:=by unfold ab2;rw[List.any_eq_false];intro b hb;obtain⟨j,hj⟩:=List.getElem?_of_mem hb;have:=h j;rw[hj] at this;simp at this ⊢;omega
theorem cc9 {ns:List SNode} {fs:List SFile} {room:Int} {M:SMach} {C:Nat->List UInt8} {E:Nat->Nat->List UInt8} (hg:gchk ns=0) (hf:fchk fs=0) (g:RightG ns) (hb:T0 ns fs) (h:MInv ns fs room M C E):mchk M=0:=by
 have Ln:∀(i:Nat) (n:SNode),ns[i]? = some n -> ∀(j:Nat) (d:List UInt8),(n.ins.map (j3 (j5 fs [] ns)))[j]? = some d->d.length<=40000:=by
  intro i n hn j d hd;rw[List.getElem?_map] at hd
  cases hq:n.ins[j]? with
  | none=>rw[hq] at hd;cases hd
  | some po=>
   rw[hq] at hd
   injection hd with hd
   obtain⟨i2,k2,m2,e2,_,_,_⟩:=g.src hn hq
   subst e2
   rw[<- hd]
   exact hb i2 k2
 unfold mchk;rw[h.ens,h.efs,if_neg (by simp[hg]),if_neg (by simp[hf]),if_neg (by rw[h.plen,h.xlen];simp),ay8,if_neg (by simp),ak4,if_neg (by simp),if_neg]
 . have h1:=(bp4 g h).1.length_le;obtain⟨n,po,hn,h5,hi⟩:=g.last;rw[aw6 hn,hi] at h1;have:=Ln _ n hn 0 (j3 (j5 fs [] ns) po) (by rw[hi];rfl);simp only[List.head?_cons,Option.getD_some] at h1;omega
 .
  intro i n p hn hp;have hpr:=h.proc i n p hn hp;have hch:=g.node n (mGt hn);have Eg:=m9 hch fs (n.ins.map (j3 (j5 fs [] ns)));have Db:(n.ins.map (j3 (j5 fs [] ns))).length=n.ins.length:=List.length_map _;have hgl:=hpr.glen;have hol:=hpr.olen;have hr:=hpr.rng;unfold F4;rw[if_neg (by omega),if_neg,if_neg]
  .
   rw[ay9,ay9]
   . simp
   . intro j;by_cases hj:j<p.out.length
     . have:=hpr.osmall j _ (gEl (by omega));have hd:=aw7 g fs hn (k:=j) (by omega);have hbk:=hb i j;rw[gEl (by omega:j<(i8 n fs (n.ins.map (j3 (j5 fs [] ns)))).length)] at hd;injection hd with hd;rw[hd] at this;omega
     . rw[List.getElem?_eq_none (by omega)];simp
   . intro j;by_cases hj:j<p.got.length
     . have h1:=hpr.small j (by omega);have h2:=(hpr.cpre j _ (gEl (by omega))).length_le;have h3:=Ln i n hn j _ (gEl (by omega));omega
     . rw[List.getElem?_eq_none (by omega)];simp
  .
   rintro (e | e | ⟨e1,e2⟩ | ⟨e1,e2,e3⟩)
   . omega
   . omega
   . exact absurd ((hpr.ovrd e1).symm.trans e2) (by simp)
   . obtain⟨m,hw⟩:=hpr.wait e1;have:=hw.lt (by omega);have:=hw.pos;omega
 . intro x hx;obtain⟨y,hy,rfl⟩:=List.mem_map.1 hx;obtain⟨q,hq⟩:=List.getElem?_of_mem hy;have hql:q<(j7 ns).length:=by rw[<- h.xlen];exact (gSm hq).1
   obtain⟨r,j,n,hn,hj,rfl⟩:=aA2 ns q hql;obtain⟨po,hpo⟩:∃po,n.ins[j]? = some po:=⟨_,gEl hj⟩;obtain⟨i,k,m,e,_,hm,_⟩:=g.src hn hpo;subst e;obtain⟨pr,hr⟩:∃pr,M.ps[r]? = some pr:=⟨_,gEl (by rw[h.plen];exact (gSm hn).1)⟩;obtain⟨pw,hw⟩:∃pw,M.ps[i]? = some pw:=⟨_,gEl (by rw[h.plen];exact (gSm hm).1)⟩;exact (h.pipe r n j i k pr pw y hn hpo hr hw hq).2.good
theorem aK8 {M:SMach} {a:Nat} {n:SNode} {p:SProc} (hn:M.ns[a]? = some n) (hp:M.ps[a]? = some p) (h:(I4 M a).2≠0) (hov:p.ov=false) :
 (∃(k:Nat) (b:List UInt8),p.out[k]? = some b/\b≠[] /\ ¬0<(pwrite (M.pipe (D9 M.ns ((a:Int),(k:Int)))) b).2.1) \/
 ((∀b∈p.out,b=[])/\p.rd=false/\p.got≠[]/\(M.pipe (b7 M.ns a+p.pos.toNat)).b=[]/\(M.pipe (b7 M.ns a+p.pos.toNat)).closed=false):=by
 unfold I4 at h;rw[hn,hp] at h;simp only at h;unfold ay6 at h;rw[if_neg (by simp[hov])] at h;by_cases Dc:p.out.any (fun b=>!b.isEmpty)=true
 .
  rw[if_pos Dc] at h;obtain⟨b,hb,hbe⟩:=List.any_eq_true.1 Dc;obtain⟨k,hk⟩:=List.getElem?_of_mem hb;left;refine⟨k,b,hk,fun e=>by simp[e] at hbe,?_⟩;have key:∀(r:List (List UInt8)) (s:Nat),p.out.drop s=r->(J3 M a p s r).2≠0 -> ∀(j:Nat) (b:List UInt8),s<=j->p.out[j]? = some b -> ¬0<(pwrite (M.pipe (D9 M.ns ((a:Int),(j:Int)))) b).2.1:=by
   intro r
   induction r with
   | nil=>
    intro s hs _ j b hj hb
    have:p.out.length<=s:=by
     have:=congrArg List.length hs
     simp at this
     omega
    rw[List.getElem?_eq_none (by omega)] at hb
    cases hb
   | cons c r ih=>
    intro s hs hw j b hj hb
    have hc:p.out[s]? = some c:=by
     have:(p.out.drop s)[0]? = some c:=by rw[hs];rfl
     rw[List.getElem?_drop] at this
     exact this
    unfold J3 at hw
    by_cases Gk:0<(pwrite (M.pipe (D9 M.ns ((a:Int),(s:Int)))) c).2.1
    . rw[if_pos Gk] at hw
      exact absurd rfl hw
    .
     rw[if_neg Gk] at hw
     by_cases e:j=s
     . subst e
       rw[hc] at hb
       injection hb with hb
       subst hb
       exact Gk
     . exact ih (s+1) (by rw[<- List.drop_drop,hs];rfl) hw j b (by omega) hb
  exact key p.out 0 rfl h k b (by omega) hk
 .
  rw[if_neg Dc] at h;right;have Ai:∀b∈p.out,b=[]:=by
   intro b hb;have h1:¬(∃x∈p.out,(!x.isEmpty)=true):=fun hx=>Dc (List.any_eq_true.2 hx)
   cases hbe:b with
   | nil=>rfl
   | cons c r=>exact absurd ⟨b,hb,by rw[hbe];rfl⟩ h1
  by_cases hrd:p.rd=true
  . rw[if_pos hrd] at h;exact absurd rfl h
  .
   rw[if_neg hrd] at h;by_cases Bd:p.got.isEmpty=true
   . rw[if_pos Bd] at h;exact absurd rfl h
   .
    rw[if_neg Bd] at h;unfold aK1 at h;by_cases hc:((M.pipe (b7 M.ns a+p.pos.toNat)).closed && (M.pipe (b7 M.ns a+p.pos.toNat)).b.isEmpty)=true
    . rw[if_pos hc] at h;exfalso;split at h <;> exact h rfl
    . rw[if_neg hc] at h;by_cases he:(M.pipe (b7 M.ns a+p.pos.toNat)).b.isEmpty=true
      . refine⟨Ai,by simpa using hrd,fun e=>Bd (List.isEmpty_iff.2 e),List.isEmpty_iff.1 he,?_⟩;rw[he,Bool.and_true] at hc;simpa using hc
      . rw[if_neg he] at h;exact absurd rfl h
theorem bO3 {ns:List SNode} {fs:List SFile} {room:Int} {M:SMach} {C:Nat->List UInt8} {E:Nat->Nat->List UInt8} (g:RightG ns) (hb:T0 ns fs) (Ag:1<=room) (h:MInv ns fs room M C E) (hno:overS M=false):∃a,a<M.ps.length/\(I4 M a).2=0:=by
 refine Classical.byContradiction fun Ae=>?_;have hst:∀a,a<M.ps.length->(I4 M a).2≠0:=fun a ha e=>Ae ⟨a,ha,e⟩;have Hj:∀a,a<ns.length -> ∃n p,ns[a]? = some n/\M.ps[a]? = some p:=fun a ha=>⟨_,_,gEl ha,gEl (by rw[h.plen];exact ha)⟩
 have hwr:∀(a:Nat) (n:SNode) (p:SProc) (k:Nat) (b:List UInt8),ns[a]? = some n->M.ps[a]? = some p->p.ov=false->p.out[k]? = some b->b≠[] -> ¬0<(pwrite (M.pipe (D9 M.ns ((a:Int),(k:Int)))) b).2.1 ->
  n.kind≠2 /\ ∃r pr,a<r/\M.ps[r]? = some pr/\pr.ov=false/\(M.pipe (D9 ns ((a:Int),(k:Int)))).b≠[]:=by
  intro a n p k b hn hp hov hk hbn Et
  have hpr:=h.proc a n p hn hp
  have hch:=g.node n (mGt hn)
  have Eg:=m9 hch fs (n.ins.map (j3 (j5 fs [] ns)))
  have hkl:k<p.out.length:=(gSm hk).1
  have hol:=hpr.olen
  have hkn:(k:Int)<nouts n:=by omega
  obtain⟨r,j,n',hn',hj,har,Av,hql⟩:=g.reader hn hkn
  obtain⟨x,hx⟩:∃x,M.pipes[b7 ns r+j]? = some x:=⟨_,gEl (by rw[h.xlen];exact hql)⟩
  obtain⟨pr,hr⟩:∃pr,M.ps[r]? = some pr:=⟨_,gEl (by rw[h.plen];exact (gSm hn').1)⟩
  obtain⟨q1,q2⟩:=h.pipe r n' j a k pr p x hn' hj hr hp hx
  rw[h.ens,Av] at Et
  rw[Av]
  have hxp:M.pipe (b7 ns r+j)=x:=by unfold SMach.pipe;rw[hx];rfl
  rw[hxp] at Et ⊢
  have hcl:x.closed=false:=q2.closed.trans hov
  have hbl:0<b.length:=List.length_pos_iff.2 hbn
  have hsh:x.shut=false:=by
   cases hs:x.shut with
   | false=>rfl
   | true=>rw[aA3 q2.good hcl hs] at Et;exact absurd hbl Et
  rw[aA4 q2.good hcl hsh] at Et
  have Ap:=V3 q2.good
  have Ad:plim x.room<=(x.b.length:Int):=by
   have:=bo2 (m:=b.length) Ap.2.2.1
   simp only at Et
   rw[show pfit b.length x.b.length x.room=0 by omega] at this
   split at this <;> omega
  have Gu:=q2.flow hsh
  rw[hk] at Gu
  simp only[Option.getD_some] at Gu
  have hds:=aw7 g fs hn hkn
  have hpre:=(hpr.pre k _ hds).length_le
  have hbk:=hb a k
  have hlen:(E a k).length=(C (b7 ns r+j)).length+x.b.length+b.length:=by rw[Gu];simp;omega
  refine⟨fun h2=>?_,r,pr,har,hr,?_,fun e=>?_⟩
  . have:x.room=0:=by rw[q1];unfold roomOf;rw[if_pos (by simp[hn,h2])]
    rw[this] at Ad
    unfold plim at Ad
    rw[if_pos rfl] at Ad
    omega
  .
   cases ho:pr.ov with
   | false=>rfl
   | true=>
    have hrd:=(h.proc r n' pr hn' hr).ovrd ho
    have:=q2.all hsh hrd
    rw[this] at hlen
    omega
  .
   rw[e] at Ad
   unfold plim at Ad
   split at Ad
   . simp at Ad
   .
    have:x.room=room:=by
     rw[q1]
     unfold roomOf
     split
     . rename_i h2
       rename_i h3
       exact absurd (by rw[q1];unfold roomOf;rw[if_pos h2]) h3
     . rfl
    simp at Ad
    omega
 have hrd:∀(a:Nat) (n:SNode) (p:SProc),ns[a]? = some n->M.ps[a]? = some p->p.rd=false->p.got≠[]->(M.pipe (b7 ns a+p.pos.toNat)).b=[]->(M.pipe (b7 ns a+p.pos.toNat)).closed=false ->
  ∃(i:Nat) (pw:SProc) (k:Nat),i<a/\M.ps[i]? = some pw/\pw.ov=false /\ ∃m,ns[i]? = some m/\(k:Int)<nouts m/\D9 ns ((i:Int),(k:Int))=b7 ns a+p.pos.toNat:=by
  intro a n p hn hp hrd Bd hem hcl
  have hpr:=h.proc a n p hn hp
  have Db:(n.ins.map (j3 (j5 fs [] ns))).length=n.ins.length:=List.length_map _
  have hgl:p.got.length=n.ins.length:=hpr.glen.trans Db
  have hg0:n.ins.length≠0:=fun e=>Bd (List.length_eq_zero_iff.1 (hgl.trans e))
  obtain⟨m,hw⟩:=hpr.wait hrd
  have hmt:p.pos.toNat=m:=by rw[hw.pos];simp
  rw[hmt] at hcl ⊢
  have hml:m<n.ins.length:=by rw[<- Db];exact hw.lt (by omega)
  obtain⟨po,hpo⟩:∃po,n.ins[m]? = some po:=⟨_,gEl hml⟩
  obtain⟨i,k,m',epo,hia,hm',hk⟩:=g.src hn hpo
  subst epo
  obtain⟨x,hx⟩:∃x,M.pipes[b7 ns a+m]? = some x:=⟨_,gEl (by rw[h.xlen];exact S9 hn hml)⟩
  have hxp:M.pipe (b7 ns a+m)=x:=by unfold SMach.pipe;rw[hx];rfl
  rw[hxp] at hcl
  obtain⟨pw,hpw⟩:∃pw,M.ps[i]? = some pw:=⟨_,gEl (by rw[h.plen];exact (gSm hm').1)⟩
  obtain⟨q1,q2⟩:=h.pipe a n m i k p pw x hn hpo hp hpw hx
  exact⟨i,pw,k,hia,hpw,q2.closed.symm.trans hcl,m',hm',hk,g.into hn hpo⟩
 have noread:∀(a:Nat) (n:SNode) (p:SProc),ns[a]? = some n->M.ps[a]? = some p->p.rd=false->p.got≠[]->(M.pipe (b7 ns a+p.pos.toNat)).b=[]->(M.pipe (b7 ns a+p.pos.toNat)).closed=false->False:=by
  intro a
  induction a using Nat.strongRecOn with
  | ind a ih=>
   intro n p hn hp h1 h2 h3 h4
   obtain⟨i,pw,k,hia,hpw,hov,m,hm,hk,hq⟩:=hrd a n p hn hp h1 h2 h3 h4
   have hst':=hst i (gSm hpw).1
   rcases aK8 (by rw[h.ens];exact hm) hpw hst' hov with ⟨k',b,hk',hb',hs'⟩ | ⟨s1,s2,s3,s4,s5⟩
   .
    obtain⟨h2',r,pr,har,hr,hro,hne⟩:=hwr i m pw k' b hm hpw hov hk' hb' hs'
    have hpr:=h.proc i m pw hm hpw
    have hch:=g.node m (mGt hm)
    have Eg:=m9 hch fs (m.ins.map (j3 (j5 fs [] ns)))
    have hkl:k'<pw.out.length:=(gSm hk').1
    have hol:=hpr.olen
    have hno:nouts m<=1:=by unfold nouts;rw[if_neg h2'];split <;> omega
    have e1:k'=k:=by omega
    subst e1
    rw[hq] at hne
    exact hne h3
   . rw[h.ens] at s4 s5
     exact ih i hia m pw hm hpw s2 s3 s4 s5
 have hex:∃a,a<ns.length /\ ∃p,M.ps[a]? = some p/\p.ov=false:=by
  have:¬∀p∈M.ps,p.ov=true:=by
   intro hc;have:overS M=true:=List.all_eq_true.2 hc;rw[hno] at this
   cases this
  simp only[Classical.not_forall] at this;obtain⟨p,hp,ho⟩:=this;obtain⟨a,ha⟩:=List.getElem?_of_mem hp;exact⟨a,by rw[<- h.plen];exact (gSm ha).1,p,ha,by simpa using ho⟩
 have key:∀d a,ns.length-a=d->a<ns.length -> ∀p,M.ps[a]? = some p->p.ov=false->False:=by
  intro d
  induction d using Nat.strongRecOn with
  | ind d ih=>
   intro a hd ha p hp hov
   obtain⟨n,_,hn,_⟩:=Hj a ha
   rcases aK8 (by rw[h.ens];exact hn) hp (hst a (gSm hp).1) hov with ⟨k,b,hk,hbn,hs⟩ | ⟨s1,s2,s3,s4,s5⟩
   . obtain⟨_,r,pr,har,hr,hro,_⟩:=hwr a n p k b hn hp hov hk hbn hs
     have hrl:r<ns.length:=by rw[<- h.plen];exact (gSm hr).1
     exact ih (ns.length-r) (by omega) r rfl hrl pr hr hro
   . rw[h.ens] at s4 s5
     exact noread a n p hn hp s2 s3 s4 s5
 obtain⟨a,ha,p,hp,ho⟩:=hex;exact key _ a rfl ha p hp ho
def noC:Cmd:=⟨0,[],0⟩
def cnt (k:Int) (ns:List SNode):Nat:=ns.countP (fun n=>decide (n.kind=k))
theorem V6 (k:Int) (a b:List SNode):cnt k (a++b)=cnt k a+cnt k b:=by simp[cnt]
theorem ao8 (k:Int) (n:SNode):cnt k [n]=if n.kind=k then 1 else 0:=by simp[cnt,List.countP_cons]
theorem cnt_le (k:Int) (ns:List SNode):cnt k ns<=ns.length:=List.countP_le_length
end Go.Gs
