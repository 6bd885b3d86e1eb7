/- The form of a machine is kept; rounds end, and more. -/
import Derived.Test.YtllgglolcgdehaaGreatDoorSAb
import Derived.Shelf.Abstract
import Derived.Test.YtllgglolcgdehaaGreatDoorSa17
set_option linter.all false
set_option maxRecDepth 100000
set_option maxHeartbeats 16000000
namespace Go.Gs
open Go.RowKit
structure ProcF (n:SNode) (p:SProc):Prop where
 glen:p.got.length=n.ins.length
 olen:(p.out.length:Int)=nouts n
 pos0:0<=p.pos
 pos1:p.pos<=n.ins.length
 ovrd:p.ov=true->p.rd=true
 pos2:p.rd=false->n.ins.length≠0->p.pos<n.ins.length
structure Shape (M:SMach):Prop where
 gok:gchk M.ns=0
 fok:fchk M.fs=0
 plen:M.ps.length=M.ns.length
 xlen:M.pipes.length=(j3 M.ns).length
 proc:∀(i:Nat)(n:SNode)(p:SProc),M.ns[i]? = some n->M.ps[i]? = some p->ProcF n p
 pipe:∀x∈M.pipes,pchk x=0
theorem Shape.g{M:SMach}(h:Shape M):RightG M.ns:=F8 h.gok
theorem bh1{l:List Int}(h:K5 l=0):∀x∈l,x=0:=by
 unfold K5 at h
 cases hf:l.find? (fun x=>x != 0) with
 | none=>
  intro x hx
  have:=zq.1 hf x hx
  simpa using this
 | some y=>
  rw[hf]at h
  have:=List.find?_some hf
  simp at h this
  exact absurd h this
theorem aA3:∀(ns:List SNode)(ps:List SProc),G0 ns ps=0->∀(i:Nat)(n:SNode)(p:SProc),ns[i]? = some n->ps[i]? = some p->E1 n p=0
 | [],_,_,i,n,p,hn,_=>by simp at hn
 | _::_,[],_,i,n,p,_,hp=>by simp at hp
 | m::ns,q::ps,h,0,n,p,hn,hp=>by
  simp at hn hp
  subst hn hp
  unfold G0 at h
  by_cases e:E1 m q=0
  . exact e
  . rw[qF e]at h;exact h
 | m::ns,q::ps,h,i+1,n,p,hn,hp=>by
  unfold G0 at h
  by_cases e:E1 m q=0
  . rw[qA (by simp[e])]at h
    exact aA3 ns ps h i n p (by simpa using hn) (by simpa using hp)
  . rw[qF e]at h;exact absurd h e
theorem aH5{l:List (List UInt8)}(h:V7 l=false):∀b∈l,b.length<=40000:=by intro b hb;unfold V7 at h;rw[List.any_eq_false]at h;have:=h b hb;simp at this;exact this
theorem aA4{n:SNode}{p:SProc}(h:E1 n p=0):ProcF n p/\(∀b∈p.got,b.length<=40000)/\∀b∈p.out,b.length<=40000:=by
 unfold E1 at h;split at h
 . cases h
 .
  rename_i h1;split at h
  . cases h
  .
   rename_i h2;split at h
   . cases h
   .
    rename_i h3;simp only[not_or]at h1 h2;simp only[Bool.or_eq_true,not_or,Bool.not_eq_true]at h3;refine⟨⟨by omega,by omega,by omega,by omega,fun e=>?_,fun e e2=>?_⟩,aH5 h3.1,aH5 h3.2⟩
    . cases hr:p.rd with
      | true=>rfl
      | false=>exact absurd ⟨e,hr⟩ h2.2.2.1
    . have:=h2.2.2.2;have h4:¬(p.pos=n.ins.length):=fun e3=>this ⟨e,by omega,e3⟩;omega
theorem aE1{M:SMach}(h:mchk M=0):Shape M/\(∀p∈M.ps,(∀b∈p.got,b.length<=40000)/\∀b∈p.out,b.length<=40000)/\M.sunk.length<=40000:=by
 unfold mchk at h;split at h
 . rename_i e;exact absurd h e
 .
  rename_i h1;split at h
  . rename_i e;exact absurd h e
  .
   rename_i h2;split at h
   . cases h
   .
    rename_i h3;split at h
    . rename_i e;exact absurd h e
    .
     rename_i h4;split at h
     . rename_i e;exact absurd h e
     . rename_i h5;split at h
       . cases h
       . rename_i h6;have hpl:M.ps.length=M.ns.length:=by omega
         have Ae:=aA3 M.ns M.ps (by omega);refine⟨⟨by omega,by omega,hpl,by omega,fun i n p hn hp=>(aA4 (Ae i n p hn hp)).1,fun x hx=>bh1 (by omega) _ (List.mem_map_of_mem hx)⟩,fun p hp=>?_,by omega⟩;obtain⟨i,hi⟩:=qb hp;have hil:i<M.ns.length:=by rw[<- hpl];exact (gSm hi).1
         exact (aA4 (Ae i _ p (gEl hil) hi)).2
theorem Shape.change{M:SMach}(h:Shape M){a:Nat}{n:SNode}(hn:M.ns[a]? = some n)(p':SProc)(X:List SPipe)(s:List UInt8)(hp:ProcF n p')(hX:X.length=M.pipes.length)(hx:∀x∈X,pchk x=0):Shape ⟨M.ns,M.fs,X,M.ps.set a p',s⟩:=by
 refine⟨h.gok,h.fok,by simpa using h.plen,hX.trans h.xlen,fun i n' q hn' hq=>?_,hx⟩;rcases aa9 hq with⟨rfl,rfl⟩|⟨_,hq⟩
 . rw[show (⟨M.ns,M.fs,X,M.ps.set i q,s⟩:SMach).ns=M.ns from rfl,hn]at hn';injection hn' with hn';subst hn';exact hp
 . exact h.proc i n' q hn' hq
theorem aZ9{n:SNode}{p:SProc}(hc:j9 n=0)(fs:List SFile)(h:ProcF n p)(Fp:p.pos<=n.ins.length):ProcF n (C3 n fs p):=by have:=o5 hc fs p.got;have:=h.olen;refine⟨by unfold C3;simpa using h.glen,?_,h.pos0,Fp,fun _=>rfl,fun e=>absurd e (by simp[C3])⟩;unfold C3;simp only[xg];omega
theorem aK4{xs:List SPipe}{q:Nat}{y x:SPipe}(h:x∈xs.set q y):x=y\/x∈xs:=by
 rcases xm h with h | h
 . exact Or.inr h
 . exact Or.inl h
theorem aH6{x:SPipe}{b:List UInt8}(h:pchk x=0)(hn:0<(pwrite x b).2.1):pchk (pwrite x b).1=0/\(pwrite x b).2.1<=b.length/\(pwrite x b).1.closed=x.closed/\(pwrite x b).1.shut=x.shut/\(pwrite x b).1.room=x.room:=by
 have hg:=Q0 h
 cases hc:x.closed with
 | true=>
  have:pwrite x b=(ab0,0,7):=by unfold pwrite;rw[qA (by simp[h]),qF hc]
  rw[this]at hn
  exact absurd hn (by simp)
 | false=>
  cases hs:x.shut with
  | true=>
   rw[aw5 h hc hs]
   refine⟨I6 hg.1 hg.2.1 ?_ (fun _=>rfl),qB _,hc,hs,rfl⟩
   show ((0:Nat):Int)<=plim x.room
   have:=hg.2.2.1
   omega
  | false=>
   rw[aw6 h hc hs]
   refine⟨I6 hg.1 hg.2.1 ?_ (fun e=>absurd (hs.symm.trans e) (by simp)),bg6,hc,hs,rfl⟩
   have h3:=bp9 (m:=b.length) hg.2.1 hg.2.2.1
   have h4:pfit b.length x.b.length x.room<=b.length:=bg6
   show ((x.b++b.take (pfit b.length x.b.length x.room)).length:Int)<=plim x.room
   rw[qG,qL,ql h4]
   exact h3.2
abbrev T4:=Nat × Nat × Nat × Nat
def r4:T4->T4->Prop:=Prod.Lex (· < ·) (Prod.Lex (· < ·) (Prod.Lex (· < ·) (· < ·)))
theorem cs3:∀x,Acc r4 x:=(Prod.lex ⟨_,Nat.lt_wfRel.wf⟩ (Prod.lex ⟨_,Nat.lt_wfRel.wf⟩ (Prod.lex ⟨_,Nat.lt_wfRel.wf⟩ ⟨_,Nat.lt_wfRel.wf⟩))).wf.apply
def RL:List T4->List T4->Prop
 | a::l,b::l'=>(r4 a b/\l.length=l'.length)\/(a=b/\RL l l')
 | _,_=>False
theorem RL.len:∀{l l':List T4},RL l l'->l.length=l'.length
 | a::l,b::l',h=>by
  rcases h with⟨_,h⟩|⟨_,h⟩
  . simp[h]
  . simp[RL.len h]
 | [],[],h=>h.elim
 | [],_::_,h=>h.elim
 | _::_,[],h=>h.elim
theorem RL.acc_cons{m:Nat}(hm:∀l:List T4,l.length=m->Acc RL l):∀(b:T4),Acc r4 b->∀l:List T4,l.length=m->Acc RL (b::l):=by
 intro b hb
 induction hb with
 | intro b _ ihb=>
  intro l hl
  have hacc:=hm l hl
  induction hacc with
  | intro l _ ihl=>
   refine Acc.intro _ (fun y hy=>?_)
   cases y with
   | nil=>exact hy.elim
   | cons a l2=>
    rcases hy with⟨h,hl2⟩|⟨rfl,h⟩
    . exact ihb a h l2 (hl2.trans hl)
    . exact ihl l2 h (h.len.trans hl)
theorem RL.acc:∀(m:Nat)(l:List T4),l.length=m->Acc RL l
 | 0,l,h=>by
  obtain rfl:=qn.1 h
  exact Acc.intro _ (fun y hy=>by cases y <;> exact hy.elim)
 | m+1,[],h=>by simp at h
 | m+1,b::l,h=>RL.acc_cons (RL.acc m) b (cs3 b) l (by simpa using h)
theorem RL.at:∀(l l':List T4)(a:Nat)(x y:T4),l.length=l'.length->l[a]? = some x->l'[a]? = some y->(∀i,i<a->l[i]? = l'[i]?)->r4 x y->RL l l'
 | [],_,a,x,y,_,h,_,_,_=>by simp at h
 | _::_,[],a,x,y,_,_,h,_,_=>by simp at h
 | u::l,v::l',0,x,y,hl,h1,h2,_,hr=>by
  simp at h1 h2 hl
  subst h1 h2
  exact Or.inl ⟨hr,hl⟩
 | u::l,v::l',a+1,x,y,hl,h1,h2,hs,hr=>by
  have h0:=hs 0 (by omega)
  simp at h0
  subst h0
  exact Or.inr ⟨rfl,RL.at l l' a x y (by simpa using hl) (by simpa using h1) (by simpa using h2) (fun i hi=>by simpa using hs (i+1) (by omega)) hr⟩
def ab6(M:SMach)(i m:Nat):Nat:=((List.range m).map (fun j=>(M.pipe (b7 M.ns i+j)).b.length)).sum
def ba0(M:SMach)(i:Nat):T4:=
 match M.ns[i]?,M.ps[i]? with
 | some n,some p=>((if p.rd then 0 else 1)+(if p.ov then 0 else 1),n.ins.length-p.pos.toNat,ab6 M i n.ins.length,p.out.flatten.length)
 | _,_=>(0,0,0,0)
def mu(M:SMach):List T4:=(List.range M.ns.length).map (ba0 M)
theorem cl8{a b:Nat}{x y:Nat × Nat × Nat}(h:a<b):r4 (a,x) (b,y):=Prod.Lex.left _ _ h
theorem cs9{a b c:Nat}{x y:Nat × Nat}(h:b<c):r4 (a,b,x) (a,c,y):=Prod.Lex.right _ (Prod.Lex.left _ _ h)
theorem cq0{a b c d x y:Nat}(h:c<d):r4 (a,b,c,x) (a,b,d,y):=Prod.Lex.right _ (Prod.Lex.right _ (Prod.Lex.left _ _ h))
theorem ct0{a b c d e:Nat}(h:d<e):r4 (a,b,c,d) (a,b,c,e):=Prod.Lex.right _ (Prod.Lex.right _ (Prod.Lex.right _ h))
theorem aE2{f g:Nat->Nat}:∀(m:Nat),(∀j,j<m->f j=g j)->((List.range m).map f).sum=((List.range m).map g).sum:=by intro m h;congr 1;apply zJ;intro j hj;exact h j (xt.1 hj)
theorem cc6{f g:Nat->Nat}:∀(m:Nat)(a:Nat),a<m->(∀j,j<m->j≠a->f j=g j)->f a<g a->((List.range m).map f).sum<((List.range m).map g).sum:=by
 intro m
 induction m with
 | zero=>intro a ha;omega
 | succ m ih=>
  intro a ha h hlt
  rw[zl,qz,qz,List.sum_append_nat,List.sum_append_nat]
  simp only[qs,List.map_nil,zc,List.sum_nil]
  by_cases e:a=m
  . subst e
    have:=aE2 (f:=f) (g:=g) a (fun j hj=>h j (by omega) (by omega))
    omega
  . have h1:=ih a (by omega) (fun j hj hja=>h j (by omega) hja) hlt
    have h2:=h m (by omega) (fun e2=>e e2.symm)
    omega
theorem ab7{M:SMach}{a:Nat}{n:SNode}{p p':SProc}{X:List SPipe}{s:List UInt8}(hn:M.ns[a]? = some n)(hp:M.ps[a]? = some p)(hpl:M.ps.length=M.ns.length)
 (hX:∀(i:Nat)(n':SNode)(j:Nat),M.ns[i]? = some n'->i<a->j<n'.ins.length->X[b7 M.ns i+j]? = M.pipes[b7 M.ns i+j]?)
 (hr:r4 (ba0 ⟨M.ns,M.fs,X,M.ps.set a p',s⟩ a) (ba0 M a)):RL (mu ⟨M.ns,M.fs,X,M.ps.set a p',s⟩) (mu M):=by
 have hal:a<M.ns.length:=(gSm hn).1;unfold mu;refine RL.at _ _ a _ _ (by simp) (by rw[qQ,xq hal];rfl) (by rw[qQ,xq hal];rfl) (fun i hi=>?_) hr;rw[qQ,qQ,xq (by show i<M.ns.length;omega)];simp only[qu,qW];unfold ba0;obtain⟨n',hn'⟩:∃n',M.ns[i]? = some n':=⟨_,gEl (by omega)⟩;obtain⟨q,hq⟩:∃q,M.ps[i]? = some q:=⟨_,gEl (by omega)⟩;have hq2:(M.ps.set a p')[i]? = some q:=by rw[xJ,qA (by omega),hq]
 simp only[hn',hq,hq2];congr 3;unfold ab6;refine aE2 _ (fun j hj=>?_);unfold SMach.pipe;rw[hX i n' j hn' hi hj]
theorem G1{M:SMach}{a:Nat}{n:SNode}{p:SProc}(hn:M.ns[a]? = some n)(hp:M.ps[a]? = some p):ba0 M a=((if p.rd then 0 else 1)+(if p.ov then 0 else 1),n.ins.length-p.pos.toNat,ab6 M a n.ins.length,p.out.flatten.length):=by unfold ba0;rw[hn,hp]
theorem aU5{l:List (List UInt8)}{k:Nat}{b c:List UInt8}(h:l[k]? = some b)(hc:c.length<b.length):(l.set k c).flatten.length<l.flatten.length:=by
 have hk:k<l.length:=(gSm h).1;rw[gEl hk]at h;injection h with h;rw[List.set_eq_take_append_cons_drop,qF hk];conv=>rhs;rw[<- qk k l,qh hk]
 rw[h];simp;omega
theorem aA5{M:SMach}{a:Nat}{p p':SProc}(hp:M.ps[a]? = some p):(M.ps.set a p')[a]? = some p':=by rw[xJ,qF rfl,qF (gSm hp).1]
theorem br1{xs:List SPipe}(h:∀x∈xs,pchk x=0)(ns:List SNode)(i:Nat):∀K,∀x∈L6 ns i K xs,pchk x=0:=by
 intro K x hx;obtain⟨q,hq⟩:=qb hx;obtain⟨y,hy,h1,h2⟩:=aa3 ns i xs K q x hq;have hgy:=h y (mGt hy);by_cases hk:∃k:Nat,k<K/\q=D2 ns ((i:Int),(k:Int))
 . rw[h1 hk];exact hgy
 . rw[h2 (fun k hkK e=>hk ⟨k,hkK,e⟩)];exact hgy
theorem bE0{M:SMach}(h:Shape M)(a:Nat):Shape (K7 M a).1/\(K7 M a).1.ns=M.ns/\(K7 M a).1.fs=M.fs/\(((K7 M a).2≠0/\(K7 M a).1=M)\/((K7 M a).2=0/\RL (mu (K7 M a).1) (mu M))):=by
 unfold K7
 cases hn:M.ns[a]? with
 | none=>exact⟨h,rfl,rfl,Or.inl ⟨by simp,rfl⟩⟩
 | some n=>
  cases hp:M.ps[a]? with
  | none=>exact⟨h,rfl,rfl,Or.inl ⟨by simp,rfl⟩⟩
  | some p=>
   simp only
   have hF:=h.proc a n p hn hp
   have hch:=h.g.node n (mGt hn)
   have Jm:∀q,pchk (M.pipe q)=0:=by
    intro q
    unfold SMach.pipe
    cases hq:M.pipes[q]? with
    | none=>simp[ab0,pchk,pck,plim]
    | some x=>exact h.pipe x (mGt hq)
   unfold aP1
   by_cases hov:p.ov=true
   . rw[qF hov];exact⟨h,rfl,rfl,Or.inl ⟨by simp,rfl⟩⟩
   .
    rw[qA hov]
    have Dz:p.ov=false:=by simpa using hov
    by_cases Cf:p.out.any (fun b=>!b.isEmpty)=true
    .
     rw[qF Cf]
     have key:∀(r:List (List UInt8))(k:Nat),p.out.drop k=r->Shape (I5 M a p k r).1/\(I5 M a p k r).1.ns=M.ns/\(I5 M a p k r).1.fs=M.fs/\(((I5 M a p k r).2≠0/\(I5 M a p k r).1=M)\/((I5 M a p k r).2=0/\RL (mu (I5 M a p k r).1) (mu M))):=by
      intro r
      induction r with
      | nil=>intro k _;exact⟨h,rfl,rfl,Or.inl ⟨by simp[I5],rfl⟩⟩
      | cons b r ih=>
       intro k hk
       have hb:p.out[k]? = some b:=by
        have:(p.out.drop k)[0]? = some b:=by rw[hk];rfl
        rw[xd]at this
        exact this
       unfold I5
       by_cases Fp:0<(pwrite (M.pipe (D2 M.ns ((a:Int),(k:Int)))) b).2.1
       .
        rw[qF Fp]
        unfold SMach.setX SMach.setP
        have hgd:=aH6 (Jm _) Fp
        have hkl:k<p.out.length:=(gSm hb).1
        obtain⟨r',j',n',hn',hj',har,Au,hql⟩:=h.g.reader (k:=k) hn (by have:=hF.olen;omega)
        refine⟨?_,rfl,rfl,Or.inr ⟨rfl,?_⟩⟩
        . exact h.change hn (p.setOut k _) _ M.sunk ⟨hF.glen,by unfold SProc.setOut;simpa using hF.olen,hF.pos0,hF.pos1,hF.ovrd,hF.pos2⟩ (by simp) (fun x hx=>by
           rcases aK4 hx with rfl | hx
           . exact hgd.1
           . exact h.pipe x hx)
        .
         refine ab7 (n:=n) (p:=p) hn hp h.plen ?_ ?_
         . intro i n2 j hn2 hia hj
           rw[xJ,qA]
           intro e
           rw[Au]at e
           have Gv:j'<n'.ins.length:=(gSm hj').1
           have:=(K8 hn' hn2 Gv hj e).1
           omega
         .
          rw[G1 (M:=⟨M.ns,M.fs,_,M.ps.set a _,_⟩) hn (aA5 hp),G1 hn hp]
          have hin:ab6 ⟨M.ns,M.fs,M.pipes.set (D2 M.ns ((a:Int),(k:Int))) (pwrite (M.pipe (D2 M.ns ((a:Int),(k:Int)))) b).1,M.ps.set a (p.setOut k (b.drop (pwrite (M.pipe (D2 M.ns ((a:Int),(k:Int)))) b).2.1)),M.sunk⟩ a n.ins.length=ab6 M a n.ins.length:=by
           unfold ab6
           refine aE2 _ (fun j hj=>?_)
           unfold SMach.pipe
           simp only
           rw[xJ,qA]
           intro e
           rw[Au]at e
           have Gv:j'<n'.ins.length:=(gSm hj').1
           have:=(K8 hn' hn Gv hj e).1
           omega
          rw[hin]
          refine ct0 (aU5 hb ?_)
          rw[qo]
          have:=hgd.2.1
          omega
       . rw[qA Fp]
         refine ih (k+1) ?_
         rw[<- List.drop_drop,hk]
         rfl
     exact key p.out 0 rfl
    .
     rw[qA Cf]
     by_cases hrd:p.rd=true
     .
      rw[qF hrd]
      refine⟨?_,rfl,rfl,Or.inr ⟨rfl,?_⟩⟩
      . exact h.change hn ⟨p.got,p.pos,p.out,p.rd,true⟩ _ M.sunk ⟨hF.glen,hF.olen,hF.pos0,hF.pos1,fun _=>hrd,hF.pos2⟩ (Q2 _ _ _ _) (br1 h.pipe _ _ _)
      .
       refine ab7 (n:=n) (p:=p) hn hp h.plen ?_ ?_
       . intro i n2 j hn2 hia hj
         obtain⟨x,hx⟩:∃x,(L6 M.ns a p.out.length M.pipes)[b7 M.ns i+j]? = some x:=⟨_,gEl (by rw[Q2,h.xlen];exact M1 hn2 hj)⟩
         obtain⟨y,hy,_,h2⟩:=aa3 _ _ _ _ _ _ hx
         rw[hx,hy,h2]
         intro k hk e
         obtain⟨r',j',n',hn',hj',har,Au,hql⟩:=h.g.reader (k:=k) hn (by have:=hF.olen;omega)
         rw[Au]at e
         have Gv:j'<n'.ins.length:=(gSm hj').1
         have:=(K8 hn2 hn' hj Gv e).1
         omega
       . rw[G1 (M:=⟨M.ns,M.fs,_,M.ps.set a _,_⟩) hn (aA5 hp),G1 hn hp]
         refine cl8 ?_
         simp[Dz]
     .
      rw[qA hrd]
      have Dy:p.rd=false:=by simpa using hrd
      by_cases Bc:p.got.isEmpty=true
      . rw[qF Bc]
        refine⟨h.change hn (C3 n M.fs p) M.pipes M.sunk (aZ9 hch _ hF hF.pos1) rfl h.pipe,rfl,rfl,Or.inr ⟨rfl,?_⟩⟩
        refine ab7 (n:=n) (p:=p) hn hp h.plen (fun i n2 j _ _ _=>rfl) ?_
        rw[G1 (M:=⟨M.ns,M.fs,_,M.ps.set a _,_⟩) hn (aA5 hp),G1 hn hp]
        refine cl8 ?_
        simp[Dy,C3,Dz]
      .
       rw[qA Bc]
       have hg0:n.ins.length≠0:=by
        intro e
        rw[<- hF.glen]at e
        exact Bc (xC.2 (qn.1 e))
       have Qu:=hF.pos2 Dy hg0
       have Gg:=hF.pos0
       have hgl:=hF.glen
       unfold aG7
       by_cases hc:((M.pipe (b7 M.ns a+p.pos.toNat)).closed && (M.pipe (b7 M.ns a+p.pos.toNat)).b.isEmpty)=true
       .
        rw[qF hc]
        by_cases hl:p.pos+1=p.got.length
        . rw[qF hl]
          refine⟨h.change hn (C3 n M.fs ⟨p.got,p.pos+1,p.out,p.rd,p.ov⟩) M.pipes M.sunk ?_ rfl h.pipe,rfl,rfl,Or.inr ⟨rfl,?_⟩⟩
          . have:=o5 hch M.fs p.got
            have:=hF.olen
            refine⟨by unfold C3;simpa using hF.glen,by unfold C3;simp only[xg];omega,by show 0<=p.pos+1;omega,by show p.pos+1<=_;omega,fun _=>rfl,fun e=>absurd e (by simp[C3])⟩
          . refine ab7 (n:=n) (p:=p) hn hp h.plen (fun i n2 j _ _ _=>rfl) ?_
            rw[G1 (M:=⟨M.ns,M.fs,_,M.ps.set a _,_⟩) hn (aA5 hp),G1 hn hp]
            refine cl8 ?_
            simp[Dy,C3,Dz]
        . rw[qA hl]
          refine⟨h.change hn ⟨p.got,p.pos+1,p.out,p.rd,p.ov⟩ M.pipes M.sunk ⟨hF.glen,hF.olen,by show 0<=p.pos+1;omega,by show p.pos+1<=_;omega,hF.ovrd,fun _ _=>by show p.pos+1<_;omega⟩ rfl h.pipe,rfl,rfl,Or.inr ⟨rfl,?_⟩⟩
          refine ab7 (n:=n) (p:=p) hn hp h.plen (fun i n2 j _ _ _=>rfl) ?_
          rw[G1 (M:=⟨M.ns,M.fs,_,M.ps.set a _,_⟩) hn (aA5 hp),G1 hn hp]
          refine cs9 ?_
          show n.ins.length-(p.pos+1).toNat<n.ins.length-p.pos.toNat
          omega
       .
        rw[qA hc]
        by_cases he:(M.pipe (b7 M.ns a+p.pos.toNat)).b.isEmpty=true
        . rw[qF he];exact⟨h,rfl,rfl,Or.inl ⟨by simp,rfl⟩⟩
        .
         rw[qA he]
         obtain⟨m,hm⟩:=qE (p.pos.toNat:Nat)
         rw[<- hm]at he ⊢
         have hml:m<n.ins.length:=by omega
         obtain⟨x,hx⟩:∃x,M.pipes[b7 M.ns a+m]? = some x:=⟨_,gEl (by rw[h.xlen];exact M1 hn hml)⟩
         have hxp:M.pipe (b7 M.ns a+m)=x:=by unfold SMach.pipe;rw[hx];rfl
         rw[hxp]at he ⊢
         have hxg:=Q0 (h.pipe x (mGt hx))
         have hxb:x.b≠[]:=fun e=>he (xC.2 e)
         have hsf:x.shut=false:=by
          cases hs:x.shut with
          | false=>rfl
          | true=>exact absurd (qn.1 (hxg.2.2.2 hs)) hxb
         have hg1:pchk ⟨x.b.drop 8,x.room,x.closed,x.shut⟩=0:=by
          refine I6 hxg.1 hxg.2.1 ?_ (fun e=>absurd (hsf.symm.trans e) (by simp))
          show ((x.b.drop 8).length:Int)<=plim x.room
          rw[qo]
          have:=hxg.2.2.1
          omega
         have hg2:pchk ⟨[],x.room,x.closed,true⟩=0:=by
          refine I6 hxg.1 hxg.2.1 ?_ (fun _=>rfl)
          show ((0:Nat):Int)<=plim x.room
          have:=hxg.2.2.1
          omega
         have Be:∀z,pchk z=0->∀y∈M.pipes.set (b7 M.ns a+m) z,pchk y=0:=by
          intro z hz y hy
          rcases aK4 hy with rfl | hy
          . exact hz
          . exact h.pipe y hy
         have Gy:∀(z:SPipe)(i:Nat)(n2:SNode)(j:Nat),M.ns[i]? = some n2->i<a->j<n2.ins.length->(M.pipes.set (b7 M.ns a+m) z)[b7 M.ns i+j]? = M.pipes[b7 M.ns i+j]?:=by
          intro z i n2 j hn2 hia hj
          rw[xJ,qA]
          intro e
          have:=(K8 hn hn2 hml hj e).1
          omega
         have hless:∀(z:SPipe)(P:List SProc)(s:List UInt8),z.b.length<x.b.length->ab6 ⟨M.ns,M.fs,M.pipes.set (b7 M.ns a+m) z,P,s⟩ a n.ins.length<ab6 M a n.ins.length:=by
          intro z P s hz
          unfold ab6
          refine cc6 _ m hml (fun j hj hjm=>?_) ?_
          . unfold SMach.pipe
            simp only
            rw[xJ,qA (by omega)]
          . unfold SMach.pipe
            simp only
            rw[aK3 hx,hx]
            exact hz
         have hd8:(x.b.drop 8).length<x.b.length:=by
          have:=zK.2 hxb
          rw[qo]
          omega
         obtain⟨p1,hp1⟩:=qE (p.setGot (p.at++x.b.take 8))
         rw[<- hp1]
         have hF1:ProcF n p1:=by
          rw[hp1]
          exact⟨by unfold SProc.setGot;simpa using hF.glen,hF.olen,hF.pos0,hF.pos1,hF.ovrd,hF.pos2⟩
         have Df:p1.rd=false:=by rw[hp1];exact Dy
         have Bn:p1.ov=false:=by rw[hp1];exact Dz
         have Bd:p1.pos=p.pos:=by rw[hp1];rfl
         unfold I7
         by_cases h5:n.kind=5
         . rw[qF h5]
           refine⟨h.change hn (p1.setGot []) _ _ ⟨by unfold SProc.setGot;simpa using hF1.glen,hF1.olen,hF1.pos0,hF1.pos1,hF1.ovrd,hF1.pos2⟩ (by simp[SMach.setX]) (Be _ hg1),rfl,rfl,Or.inr ⟨rfl,?_⟩⟩
           refine ab7 (n:=n) (p:=p) hn hp h.plen (Gy _) ?_
           rw[G1 (M:=⟨M.ns,M.fs,_,M.ps.set a _,_⟩) hn (aA5 hp),G1 hn hp]
           rw[show (p1.setGot []).rd=p.rd from Df.trans Dy.symm,show (p1.setGot []).ov=p.ov from Bn.trans Dz.symm,show (p1.setGot []).pos=p.pos from Bd]
           exact cq0 (hless _ _ _ hd8)
         .
          rw[qA h5]
          split
          . refine⟨h.change hn ((p1.setOut 0 _).setGot _) _ _ ⟨by unfold SProc.setGot SProc.setOut;simpa using hF1.glen,by unfold SProc.setGot SProc.setOut;simpa using hF1.olen,hF1.pos0,hF1.pos1,hF1.ovrd,hF1.pos2⟩ (by simp[SMach.setX]) (Be _ hg1),rfl,rfl,Or.inr ⟨rfl,?_⟩⟩
            refine ab7 (n:=n) (p:=p) hn hp h.plen (Gy _) ?_
            rw[G1 (M:=⟨M.ns,M.fs,_,M.ps.set a _,_⟩) hn (aA5 hp),G1 hn hp]
            rw[show ((p1.setOut 0 ((p1.out[0]?).getD []++through n (p1.at.take (l8 p1.at)))).setGot (p1.at.drop (l8 p1.at))).rd=p.rd from Df.trans Dy.symm,show ((p1.setOut 0 ((p1.out[0]?).getD []++through n (p1.at.take (l8 p1.at)))).setGot (p1.at.drop (l8 p1.at))).ov=p.ov from Bn.trans Dz.symm,show ((p1.setOut 0 ((p1.out[0]?).getD []++through n (p1.at.take (l8 p1.at)))).setGot (p1.at.drop (l8 p1.at))).pos=p.pos from Bd]
            exact cq0 (hless _ _ _ hd8)
          .
           split
           . have hpx:(M.setX (b7 M.ns a+m) ⟨x.b.drop 8,x.room,x.closed,x.shut⟩).pipe (b7 M.ns a+m)=⟨x.b.drop 8,x.room,x.closed,x.shut⟩:=by
              unfold SMach.pipe SMach.setX
              simp only
              rw[aK3 hx]
              rfl
             rw[hpx]
             unfold SMach.setX SMach.setP
             rw[show ((M.pipes.set (b7 M.ns a+m) ⟨x.b.drop 8,x.room,x.closed,x.shut⟩).set (b7 M.ns a+m) ⟨[],x.room,x.closed,true⟩)=M.pipes.set (b7 M.ns a+m) ⟨[],x.room,x.closed,true⟩ from ze ..]
             refine⟨h.change hn (C3 n M.fs p1) _ _ (aZ9 hch _ hF1 hF1.pos1) (by simp) (Be _ hg2),rfl,rfl,Or.inr ⟨rfl,?_⟩⟩
             refine ab7 (n:=n) (p:=p) hn hp h.plen (Gy _) ?_
             rw[G1 (M:=⟨M.ns,M.fs,_,M.ps.set a _,_⟩) hn (aA5 hp),G1 hn hp]
             refine cl8 ?_
             simp[Dy,C3,Bn,Dz]
           . refine⟨h.change hn p1 _ _ hF1 (by simp[SMach.setX]) (Be _ hg1),rfl,rfl,Or.inr ⟨rfl,?_⟩⟩
             refine ab7 (n:=n) (p:=p) hn hp h.plen (Gy _) ?_
             rw[G1 (M:=⟨M.ns,M.fs,_,M.ps.set a _,_⟩) hn (aA5 hp),G1 hn hp]
             rw[show p1.rd=p.rd from Df.trans Dy.symm,show p1.ov=p.ov from Bn.trans Dz.symm,show p1.pos=p.pos from Bd]
             exact cq0 (hless _ _ _ hd8)
theorem ap3{M:SMach}(h:Shape M):∀k,Shape (roundTo M k).1/\(roundTo M k).1.ns=M.ns/\(roundTo M k).1.fs=M.fs /\
 (((roundTo M k).2=false/\(roundTo M k).1=M/\∀a,a<k->(K7 M a).2≠0)\/((roundTo M k).2=true/\Relation.TransGen RL (mu (roundTo M k).1) (mu M)))
 | 0=>⟨h,rfl,rfl,Or.inl ⟨rfl,rfl,fun a ha=>absurd ha (by omega)⟩⟩
 | k+1=>by
  obtain⟨h1,h2,h3,h4⟩:=ap3 h k
  obtain⟨s1,s2,s3,s4⟩:=bE0 h1 k
  refine⟨s1,s2.trans h2,s3.trans h3,?_⟩
  unfold roundTo
  simp only
  rcases h4 with⟨a1,a2,a3⟩|⟨a1,a2⟩
  .
   rcases s4 with⟨b1,b2⟩|⟨b1,b2⟩
   . left
     refine⟨by rw[a1,qU b1];rfl,b2.trans a2,fun a ha=>?_⟩
     by_cases e:a=k
     . subst e;rw[a2]at b1;exact b1
     . exact a3 a (by omega)
   . right
     refine⟨by rw[a1,qd b1];rfl,?_⟩
     have b3:=Relation.TransGen.single b2
     rw[a2]at b3 ⊢
     exact b3
  . right
    rcases s4 with⟨b1,b2⟩|⟨b1,b2⟩
    . refine⟨by rw[a1];rfl,?_⟩
      rw[b2];exact a2
    . exact⟨by rw[a1];rfl,Relation.TransGen.trans (Relation.TransGen.single b2) a2⟩
theorem cq1{M:SMach}(h:Shape M):∃k r,Fins k M r:=by
 have key:∀l:List T4,Acc (Relation.TransGen RL) l->∀M:SMach,Shape M->mu M=l->∃k r,Fins k M r:=by
  intro l hl
  induction hl with
  | intro l _ ih=>
   intro M h hM
   cases ho:overS M with
   | true=>exact⟨0,_,Or.inl ⟨ho,rfl⟩⟩
   | false=>
    obtain⟨h1,h2,h3,h4⟩:=ap3 h M.ps.length
    rcases h4 with⟨a1,a2,a3⟩|⟨a1,a2⟩
    . exact⟨0,_,Or.inr ⟨ho,a1,rfl⟩⟩
    . obtain⟨k,r,hk⟩:=ih (mu (V8 M).1) (hM ▸ a2) (V8 M).1 h1 rfl
      exact⟨k+1,r,ho,a1,hk⟩
 exact key (mu M) ((RL.acc (mu M).length (mu M) rfl).transGen) M h rfl
theorem ba1{ns:List SNode}{fs:List SFile}{room:Int}{M:SMach}{C:Nat->List UInt8}{E:Nat->Nat->List UInt8}(hg:gchk ns=0)(hf:fchk fs=0)(h:MInv ns fs room M C E):Shape M:=by
 have g:=F8 hg;refine⟨by rw[h.ens];exact hg,by rw[h.efs];exact hf,by rw[h.ens];exact h.plen,by rw[h.ens];exact h.xlen,fun i n p hn hp=>?_,fun x hx=>?_⟩
 . rw[h.ens]at hn;have hpr:=h.proc i n p hn hp;have hch:=g.node n (mGt hn);have Ds:=o5 hch fs (n.ins.map (f9 (j4 fs [] ns)));have Ce:(n.ins.map (f9 (j4 fs [] ns))).length=n.ins.length:=qM _;have h1:=hpr.rng;rw[Ce]at h1;refine⟨hpr.glen.trans Ce,by rw[hpr.olen];exact Ds,h1.1,h1.2,hpr.ovrd,fun e e2=>?_⟩;obtain⟨m,hw⟩:=hpr.wait e;have:=hw.lt (by omega);have:=hw.pos;omega
 . obtain⟨q,hq⟩:=qb hx;have hql:q<(j3 ns).length:=by rw[<- h.xlen];exact (gSm hq).1
   obtain⟨r,j,n,hn,hj,rfl⟩:=aw4 ns q hql;obtain⟨po,hpo⟩:∃po,n.ins[j]? = some po:=⟨_,gEl hj⟩;obtain⟨i,k,m,e,_,hm,_⟩:=g.src hn hpo;subst e;obtain⟨pr,hr⟩:∃pr,M.ps[r]? = some pr:=⟨_,gEl (by rw[h.plen];exact (gSm hn).1)⟩;obtain⟨pw,hw⟩:∃pw,M.ps[i]? = some pw:=⟨_,gEl (by rw[h.plen];exact (gSm hm).1)⟩;exact (h.pipe r n j i k pr pw x hn hpo hr hw hq).2.good
def Reach(ns:List SNode)(fs:List SFile)(room:Int)(M:SMach):Prop:=∃C E,MInv ns fs room M C E
theorem Reach.step{ns:List SNode}{fs:List SFile}{room:Int}{M:SMach}(g:RightG ns)(h:Reach ns fs room M)(a:Nat):Reach ns fs room (K7 M a).1:=by obtain⟨C,E,h⟩:=h;exact cc3 g h a
theorem Reach.stepS{ns:List SNode}{fs:List SFile}{room:Int}{M:SMach}(g:RightG ns)(h:Reach ns fs room M)(a:Int):Reach ns fs room (stepS M a).1:=by
 unfold Go.Gs.stepS;split
 . exact h
 . exact h.step g _
theorem Reach.picks{ns:List SNode}{fs:List SFile}{room:Int}(g:RightG ns):∀(l:List Int)(M:SMach),Reach ns fs room M->Reach ns fs room (t7 M l).1
 | [],M,h=>h
 | i::r,M,h=>Reach.picks g r _ (h.stepS g i)
theorem Reach.roundTo{ns:List SNode}{fs:List SFile}{room:Int}{M:SMach}(g:RightG ns)(h:Reach ns fs room M):∀k,Reach ns fs room (roundTo M k).1
 | 0=>h
 | k+1=>(Reach.roundTo g h k).step g k
theorem Reach.fresh{ns:List SNode}{fs:List SFile}{room:Int}(g:RightG ns)(h1:1<=room)(h2:room<=1000):Reach ns fs room (L9 ns fs room):=⟨_,_,bR6 g h1 h2⟩
theorem Reach.shape{ns:List SNode}{fs:List SFile}{room:Int}{M:SMach}(hg:gchk ns=0)(hf:fchk fs=0)(h:Reach ns fs room M):Shape M:=by obtain⟨C,E,h⟩:=h;exact ba1 hg hf h
theorem Reach.chk{ns:List SNode}{fs:List SFile}{room:Int}{M:SMach}(hg:gchk ns=0)(hf:fchk fs=0)(hb:Z5 ns fs)(h:Reach ns fs room M):mchk M=0:=by obtain⟨C,E,h⟩:=h;exact cc5 hg hf (F8 hg) hb h
theorem Reach.sunk{ns:List SNode}{fs:List SFile}{room:Int}{M:SMach}(g:RightG ns)(h:Reach ns fs room M):M.sunk <+: Go.Gs.sunk ns fs/\(overS M=true->M.sunk=Go.Gs.sunk ns fs):=by obtain⟨C,E,h⟩:=h;exact br0 g h
theorem Reach.fin{ns:List SNode}{fs:List SFile}{room:Int}(hg:gchk ns=0)(hf:fchk fs=0)(hb:Z5 ns fs)(Bh:1<=room):∀{k:Nat}{M:SMach}{r:SMach × Int},Fins k M r->Reach ns fs room M ->
 r.2=0/\overS r.1=true/\Reach ns fs room r.1/\r.1.sunk=Go.Gs.sunk ns fs
 | 0,M,r,hF,h=>by
  have g:=F8 hg
  rcases hF with⟨ho,rfl⟩|⟨ho,hs,rfl⟩
  . exact⟨rfl,ho,h,(h.sunk g).2 ho⟩
  .
   exfalso
   obtain⟨C,E,hI⟩:=h
   obtain⟨a,ha,hst⟩:=bR7 g hb Bh hI ho
   obtain⟨_,_,_,h4⟩:=ap3 (ba1 hg hf hI) M.ps.length
   rcases h4 with⟨_,_,a3⟩|⟨a1,_⟩
   . exact a3 a ha hst
   . unfold V8 at hs
     rw[a1]at hs
     cases hs
 | k+1,M,r,hF,h=>Reach.fin hg hf hb Bh hF.2.2 (h.roundTo (F8 hg) _)
end Go.Gs
namespace Go.Proofs.YtllgglolcgdehaaGreatDoor
open Go.RowKit Go.Gs Go.Maps Tryz
variable {G:World->(Nat->Option Own)->Prop}
theorem cc7(w:World):(zeroValue 3).run prog w=.ok (.int .i64 0) w:=by kernel_rfl
def S1(w:World)(b n:Nat)(f:Int × Int->Int):Prop:=
 ∃D:DataW Unit,w.ownsMap prog 79 (plainElem prog 3) b n D/\∀p,WfP p->D.atKey (ao9 p) (.lit (.int .i64 0))=.lit (.int .i64 (f p))
theorem S1.keep{w w':World}{b n:Nat}{f:Int × Int->Int}(h:S1 w b n f)(hb:w'.heap[b]? = w.heap[b]?):S1 w' b n f:=by obtain⟨D,⟨es,clock,h1,h2⟩,h3⟩:=h;exact⟨D,⟨es,clock,hb.trans h1,h2⟩,h3⟩
theorem S1.put{w w':World}{b n:Nat}{f g:Int × Int->Int}{D:DataW Unit}{p:Int × Int}(h1:w.ownsMap prog 79 (plainElem prog 3) b n D)(h2:∀p,WfP p->D.atKey (ao9 p) (.lit (.int .i64 0))=.lit (.int .i64 (f p)))
 (hp:WfP p) (ho:w'.ownsMap prog 79 (plainElem prog 3) b (n+1) (D.put (ao9 p) (.lit (.int .i64 (g p))))) (hg:∀q,q≠p->g q=f q):S1 w' b (n+1) g:=by
 refine⟨_,ho,fun q hq=>?_⟩;by_cases e:q=p
 . subst e;rw[Go.Maps.atKey_put_same h1.isMap (V3.key (ad2 w q hq))]
 . rw[Go.Maps.atKey_put_other (fun h=>e (aZ6 w hq hp h)),h2 q hq,hg q e]
theorem bR8(w:World):S1 (w.alloc (.map #[] 0)) w.heap.size 0 (fun _=>0):=
 ⟨.map [],World.ownsMap_made w prog 79 (plainElem prog 3),fun p _=>by simp[DataW.atKey]⟩
theorem S1.look{w:World}{b n:Nat}{f:Int × Int->Int}(h:S1 w b n f){p:Int × Int}(hp:WfP p):(Instr.lookup 109 (.map (some b)) (aG9 p) false).run prog w=.ok (.int .i64 (f p)) w:=by
 obtain⟨D,Ab,hat⟩:=h;obtain⟨c,Aj,It,_⟩:=Ab.lookup_int V3 underlying109 underlying3 (cc7 w) (ad2 w p hp);rw[hat p hp]at It;have e:f p=c:=by simpa using It
 rw[Aj,e]
def ba2(ns:List SNode)(p:Int × Int):Int:=if p∈j3 ns then (D2 ns p:Int) else 0
def firsts(ns:List SNode):List Value:=(List.range ns.length).map (fun i=>.int .i64 (b7 ns i:Int))
def AuxF(D:Nat)(vI vM:Value)(ns:List SNode)(w:World)(O:Nat->Option Own):Prop:=
 w.ownsRow D 3 1 vI ns.length (firsts ns)/\R7 O vI .aux/\∃b n,vM=.map (some b)/\S1 w b n (ba2 ns)/\O b=some .aux
theorem cl9(D:Nat)(vI vM:Value)(ns:List SNode):ao8 (AuxF D vI vM ns):=by intro w w' O O' h hk hO;obtain⟨h1,h2,b,n,h3,h4,h5⟩:=h;exact⟨l6 h1 (fun g hg=>hk g (h2 g hg)),fun g hg=>(hO _ _ (h2 g hg)).trans (h2 g hg),b,n,h3,h4.keep (hk b h5),(hO _ _ h5).trans h5⟩
def RunM(G:World->(Nat->Option Own)->Prop)(w:World)(D r:Nat)(O:Nat->Option Own)(d:RD):Prop:=RMem w D r O (fun w O=>AuxF D d.vI d.vM d.M.ns w O/\G w O) d
abbrev NoG:World->(Nat->Option Own)->Prop:=fun _ _=>True
theorem bh2(D:Nat)(vI vM:Value)(ns:List SNode){G:World->(Nat->Option Own)->Prop}(hG:ao8 G):ao8 (fun w O=>AuxF D vI vM ns w O/\G w O):=fun w w' O O' h hk hO=>⟨cl9 D vI vM ns w w' O O' h.1 hk hO,hG w w' O O' h.2 hk hO⟩
theorem cq2:ao8 NoG:=fun _ _ _ _ _ _ _=>trivial
def l9(G:World->(Nat->Option Own)->Prop)(w:World)(D r:Nat)(M:SMach):Prop:=∃O d,RunM G w D r O d/\d.M=M
theorem RunM.firstAt{w:World}{D r:Nat}{O:Nat->Option Own}{d:RD}(h:RunM G w D r O d){i:Nat}{n:SNode}(hn:d.M.ns[i]? = some n):
 ∃g c,d.vI=.slice (some ⟨g,0,none⟩) d.M.ns.length c/\d.M.ns.length<=c/\c<=9223372036854775807/\w.cell? ⟨g,i,none⟩=some (.int .i64 (b7 d.M.ns i:Int)):=by have hil:i<d.M.ns.length:=(gSm hn).1;obtain⟨⟨h1,h2,_⟩,_⟩:=h.part .aux;obtain⟨g,c,e,hc,hc2,hg,Ac,hf⟩:=(j5 h1).2 (by omega);refine⟨g,c,e,hc,hc2,?_⟩;rw[Ac i (by omega)];unfold firsts;rw[qQ,xq hil];rfl
theorem RunM.intoAt{w:World}{D r:Nat}{O:Nat->Option Own}{d:RD}(h:RunM G w D r O d):∃b n,d.vM=.map (some b)/\S1 w b n (ba2 d.M.ns):=by obtain⟨⟨_,_,b,n,h3,h4,_⟩,_⟩:=h.part .aux;exact⟨b,n,h3,h4⟩
theorem cm0(w:World):(zeroValue 28).run prog w=.ok (.slice none 0 0) w:=by kernel_rfl
theorem bR9(n:Nat):P8 (List.replicate n []) (List.replicate n nilS)=List.replicate n (.slice none 0 0):=by unfold P8;rw[List.zipWith_replicate];simp[sl,nilS]
theorem RMem.clearGot{w : World}{D r : Nat}{O : Nat → Option Own}{A : World → (Nat → Option Own) → Prop}{d : RD}(h : RMem w D r O A d){i : Nat}{p : SProc}{s : PSlot}(hp : d.M.ps[i]? = some p)(hs : d.P[i]? = some s)(ty : TypeId):
    ∃ w' s', (Builtin.clear_ #[74] ty #[s.gv]).run prog w = .ok (.tuple #[]) w' ∧ RMem w' D r O A (d.setProc i ⟨p.got.map (fun _ => []), p.pos, p.out, p.rd, p.ov⟩ s') ∧ s'.gv = s.gv ∧ s'.ov = s.ov ∧ s'.os = s.os ∧ Touch O (.gots i) w w' := by
 obtain ⟨hl1, hl2⟩ := h.slen i p s hp hs;obtain ⟨h1, h2⟩ := h.part (.gots i) p s hp hs;have Ba : p.got.map (fun _ => ([] : List UInt8)) = List.replicate p.got.length [] := by rw [List.map_const']
 have key : ∀ w', Touch O (.gots i) w w' → w'.ownsRow D 28 1 s.gv p.got.length (List.replicate p.got.length (.slice none 0 0)) → RMem w' D r O A (d.setProc i ⟨p.got.map (fun _ => []), p.pos, p.out, p.rd, p.ov⟩ ⟨s.gv, s.ov, List.replicate p.got.length nilS, s.os⟩) := by
  intro w' ht Ab;refine h.upd (o := .gots i) ht (fun _ _ => rfl) (ak8 h ht.size) rfl rfl rfl rfl h.xlen (by simpa [RD.setProc, SMach.setP]using h.plen) (az8 h (by simp) hl2) ?_ ?_
  . intro o' ho' hpt;have hPq : ∀(i' : Nat)(q : SProc), (d.setProc i ⟨p.got.map (fun _ => []), p.pos, p.out, p.rd, p.ov⟩ ⟨s.gv, s.ov, List.replicate p.got.length nilS, s.os⟩).M.ps[i']? = some q → i ≠ i' → d.M.ps[i']? = some q := fun i' q hq e => by have : (d.M.ps.set i ⟨p.got.map (fun _ => []), p.pos, p.out, p.rd, p.ov⟩)[i']? = some q := hq;rwa [C4 e]at this
    have hPt : ∀(i' : Nat)(t : PSlot), (d.setProc i ⟨p.got.map (fun _ => []), p.pos, p.out, p.rd, p.ov⟩ ⟨s.gv, s.ov, List.replicate p.got.length nilS, s.os⟩).P[i']? = some t → i ≠ i' → d.P[i']? = some t := fun i' t ht e => by have : (d.P.set i ⟨s.gv, s.ov, List.replicate p.got.length nilS, s.os⟩)[i']? = some t := ht;rwa [C4 e]at this
    have hPi : ∀ q, (d.setProc i ⟨p.got.map (fun _ => []), p.pos, p.out, p.rd, p.ov⟩ ⟨s.gv, s.ov, List.replicate p.got.length nilS, s.os⟩).M.ps[i]? = some q → ⟨p.got.map (fun _ => []), p.pos, p.out, p.rd, p.ov⟩ = q := fun q hq => by have : (d.M.ps.set i ⟨p.got.map (fun _ => []), p.pos, p.out, p.rd, p.ov⟩)[i]? = some q := hq;rw [x9 hp]at this; injection this
    have hTi : ∀ t, (d.setProc i ⟨p.got.map (fun _ => []), p.pos, p.out, p.rd, p.ov⟩ ⟨s.gv, s.ov, List.replicate p.got.length nilS, s.os⟩).P[i]? = some t → ⟨s.gv, s.ov, List.replicate p.got.length nilS, s.os⟩ = t := fun t ht => by have : (d.P.set i ⟨s.gv, s.ov, List.replicate p.got.length nilS, s.os⟩)[i]? = some t := ht;rw [x9 hs]at this; injection this
    cases o' using Own.elimE with
    | procs =>
      refine ⟨?_, hpt.2⟩
      have e1 : v6 (d.setProc i ⟨p.got.map (fun _ => []), p.pos, p.out, p.rd, p.ov⟩ ⟨s.gv, s.ov, List.replicate p.got.length nilS, s.os⟩).M.ps (d.setProc i ⟨p.got.map (fun _ => []), p.pos, p.out, p.rd, p.ov⟩ ⟨s.gv, s.ov, List.replicate p.got.length nilS, s.os⟩).P = v6 d.M.ps d.P := ag4 hp hs rfl
      have hlen : (d.setProc i ⟨p.got.map (fun _ => []), p.pos, p.out, p.rd, p.ov⟩ ⟨s.gv, s.ov, List.replicate p.got.length nilS, s.os⟩).M.ps.length = d.M.ps.length := by simp [RD.setProc, SMach.setP]
      rw [e1, hlen]
      exact hpt.1
    | gots i' =>
      have hne : i ≠ i' := fun e => ho' (by rw [e])
      intro q t hq ht
      exact hpt q t (hPq i' q hq hne) (hPt i' t ht hne)
    | outs i' =>
      intro q t hq ht
      by_cases e : i = i'
      . subst e
        obtain rfl := hPi q hq
        obtain rfl := hTi t ht
        exact hpt p s hp hs
      . exact hpt q t (hPq i' q hq e) (hPt i' t ht e)
    | got i' j' =>
      intro q t b' a' hq ht hb' ha'
      by_cases e : i = i'
      . subst e
        obtain rfl := hPi q hq
        obtain rfl := hTi t ht
        have e3 : b' = [] := by
          simp only [Ba]at hb'
          rw [xw]at hb'
          split at hb'
          . injection hb' with hb'; exact hb'.symm
          . cases hb'
        have e4 : a' = nilS := by
          simp only at ha'
          rw [xw]at ha'
          split at ha'
          . injection ha' with ha'; exact ha'.symm
          . cases ha'
        subst e3 e4
        exact SOf.nil _ _ _
      . exact hpt q t b' a' (hPq i' q hq e) (hPt i' t ht e) hb' ha'
    | out i' k =>
      intro q t b' a' hq ht hb' ha'
      by_cases e : i = i'
      . subst e
        obtain rfl := hPi q hq
        obtain rfl := hTi t ht
        exact hpt p s b' a' hp hs hb' ha'
      . exact hpt q t b' a' (hPq i' q hq e) (hPt i' t ht e) hb' ha'
    | box => exact hpt
    | pipes => exact hpt
    | pipe q => exact hpt
    | sunk => exact hpt
    | aux => exact hpt
  . intro q t hq ht;have e1 : (⟨p.got.map (fun _ => []), p.pos, p.out, p.rd, p.ov⟩ : SProc) = q := by have : (d.M.ps.set i ⟨p.got.map (fun _ => []), p.pos, p.out, p.rd, p.ov⟩)[i]? = some q := hq;rw [x9 hp]at this; injection this
    have e2 : (⟨s.gv, s.ov, List.replicate p.got.length nilS, s.os⟩ : PSlot) = t := by have : (d.P.set i ⟨s.gv, s.ov, List.replicate p.got.length nilS, s.os⟩)[i]? = some t := ht;rw [x9 hs]at this; injection this
    subst e1 e2;refine ⟨?_, h2⟩;simp only [Ba, bR9, List.length_replicate];exact Ab
 by_cases h0 : p.got.length = 0
 . have hg0 : p.got = [] := qn.1 h0
   refine ⟨w, _, ?_, key w (Touch.refl _ _ _) (by rw [h0]; rw [h0]at h1; have e1 : P8 p.got s.gs = [] := by rw [hg0]; rfl
                                                  rw [e1]at h1; exact h1), rfl, rfl, rfl, Touch.refl _ _ _⟩
   obtain ⟨⟨ao, cap, hv, _, _⟩, _⟩ := j5 h1;rw [hv, h0]
   cases ao with
   | none => simp [Builtin.clear_, run_underlying underlying74]
   | some a => simp [Builtin.clear_, run_underlying underlying74]
 . rcases id h1.2 with⟨_, hc⟩|⟨g, cap, cur, hv, hb, hg, hl, hm, hsz, htk⟩
   . exact absurd hc h0
   . have hgo : O g = some (.gots i) := h2 g (by rw [hv]; rfl);obtain ⟨cur', hg', Im, It⟩ := ak9 (List.replicate p.got.length (.slice none 0 0)) 0 w cur hg (by simp; omega);have Aj := Lib.run_clear_slice (P := prog) w 74 28 ty (.slice none 0 0) underlying74 cm0 rfl rfl g 0 p.got.length cap (by omega) (fun j hj => by rw [qa, qV _ _ _ _ _ _ hg, zX (by omega)]; rfl) (fun j hj => xK _ _ _ _ _ hg);have hk := World.keptBut_setCells g (may := fun p => p.block = g) (List.replicate p.got.length (Value.slice none 0 0)) 0 w (fun _ _ => rfl);have hT : Touch O (.gots i) w (w.setCells g 0 (List.replicate p.got.length (.slice none 0 0))) := ⟨World.os_setCells _ _ _ _, ad1 _ _ _ _, World.output_setCells _ _ _ _, hk.size, fun k hk2 hn => World.heap_setCells_other w g _ _ hk2 (fun e => hn (by rw [e]; exact hgo))⟩
     refine ⟨_, _, by rw [hv]; exact Aj, key _ hT ⟨by simp, .inr ⟨g, cap, cur', hv, hb, hg', hl, hm, by omega, ?_⟩⟩, rfl, rfl, rfl, hT⟩
     have := al0 (xs := cur'.toList) (off := 0) (n := p.got.length * 1) (ys := List.replicate p.got.length (.slice none 0 0)) (by simp) (fun j hj => by
       rw [qa, xk, It j, qF (by simp; omega), Nat.sub_zero])
     rwa [List.drop_zero]at this
theorem ad4{P:Program}{ops:Array Oper}{o:Oper}{a:Act}{w:World}{K:Act->World->Prop}{Q:Exit->Act->World->Prop}{E:Prop}
 (hg:o.guard=none) (s x:Operand) (t:TypeId) (hop:o.op=Op.call { callee:=Callee.builtin Builtin.append,args:=#[s,x],argTypes:=#[t,t] }) (v u:Value) (hs:a.eval s=v) (hx:a.eval x=u) {v':Value} {w':World} (Aj:(Builtin.append_ #[t,t] o.type #[v,u]).run P w=.ok v' w') (hK:K (a.put o.dst v') w'):
 if Region.wanted o (yielded ops a.tmps)=true then Oper.wp P o a w K Q else E:=by
 have hw:Region.wanted o (yielded ops a.tmps)=true:=by simp[Region.wanted,hg]
 rw[qF hw];unfold Oper.wp;simp[execOp,hop,resolve,invoke,builtin,hs,hx,Aj,Result.andThen];exact hK
theorem V9(w:World){P:Program}{ops:Array Oper}{rest:List Oper}{o:Oper}{a:Act}{Q:Exit->Act->World->Prop}(hgd:o.guard=none)(s x:Operand)(t:TypeId)
 (ho:o.op=.call { callee:=.builtin .append,args:=#[s,x],argTypes:=#[t,t] }) (v u:Value) (hs:a.eval s=v) (hx:a.eval x=u) {v':Value} {w':World} (Aj:(Builtin.append_ #[t,t] o.type #[v,u]).run P w=.ok v' w') (hK:wpList P ops Q rest (a.put o.dst v') w'):wpList P ops Q (o::rest) a w:=by refine wpList_plain hgd fun K hK'=>?_;unfold Oper.wp;simp[execOp,ho,resolve,invoke,builtin,hs,hx,Aj,Result.andThen];exact hK' _ _ hK
theorem aA6{P:Program}(w:World){ops:Array Oper}{rest:List Oper}{o:Oper}{a:Act}{Q:Exit->Act->World->Prop}(hgd:o.guard=none)(d:Operand)(t:TypeId)
 (ho:o.op=.call { callee:=.builtin .clear,args:=#[d],argTypes:=#[t] }) (v:Value) (hd:a.eval d=v) {v':Value} {w':World}
 (hr:(Builtin.clear_ #[t] o.type #[v]).run P w=.ok v' w') (h:wpList P ops Q rest (a.put o.dst v') w'):wpList P ops Q (o::rest) a w:=by refine wpList_plain hgd fun K hK'=>?_;unfold Oper.wp;simp[execOp,ho,resolve,invoke,builtin,hd,hr,Result.andThen];exact hK' _ _ h
end Go.Proofs.YtllgglolcgdehaaGreatDoor
namespace Go.Proofs.YtllgglolcgdehaaGreatDoor
open Go.RowKit Go.Gs Tryz
theorem aQ3(ab:Option Addr)(n cap:Nat)(w:World):
 Calls prog 68 #[.slice ab n cap] w fun e w'=>e=.returned (.bool (decide (40000<n)))/\Bq w w':=by
 have hz:decide (40000<(n:Int))=decide (40000<n):=by
  by_cases h:40000<n
  . rw[qd h,qd (by omega)]
  . rw[qU h,qU (by omega)]
 by_cases h:40000<n
 . have h':40000<(n:Int):=by omega
   rw[qd h];go_enter Tryz.func68,Tryz.ntmps68;go_wp2_with fail;go_ret;exact⟨by first|rfl | (simp[h']),qI _ _⟩
 . have h':¬40000<(n:Int):=by omega
   rw[qU h];go_enter Tryz.func68,Tryz.ntmps68;go_wp2_with fail;go_ret;exact⟨by first|rfl | (simp[h']),qI _ _⟩
theorem cc8(ab:Option Addr)(n cap:Nat)(w:World):
 Calls prog 117 #[.slice ab n cap] w fun e w'=>e=.returned (.bool (decide (0<n)))/\Bq w w':=by
 by_cases h:0<n
 . have h':0<(n:Int):=by omega
   rw[qd h];go_enter Tryz.func117,Tryz.ntmps117;go_wp2_with fail;go_ret;exact⟨by first|rfl | (simp[h']),qI _ _⟩
 . have h':¬0<(n:Int):=by omega
   rw[qU h];go_enter Tryz.func117,Tryz.ntmps117;go_wp2_with fail;go_ret;exact⟨by first|rfl | (simp[h']),qI _ _⟩
theorem bS0(F:Nat)(t:Nat->Bool)(hF:∀(ab:Option Addr)(n cap:Nat)(w:World),Calls prog F #[.slice ab n cap] w fun e w'=>e=.returned (.bool (t n))/\Bq w w')
 (hE:∀args w,(callFunc F args).run prog w=.ok (.enter F args) w)
 (al:Option Addr) (cl:Nat) (pss:List (List UInt8)) (w:World) (hl:RList w (.slice al pss.length cl) U pss):
 Calls prog 164 #[.slice al pss.length cl,.func (.func F) #[] #[]] w fun e w'=>∃i:Int,e=.returned (.int .i64 i)/\(pss.any (fun b=>t b.length)=true ↔ 0<=i)/\Bq w w':=by
 have hle:=aP3 hl;have HL:=qH hl;have HF:Hid _:=hF;obtain⟨M,hM⟩:=qE pss.length;have HM:=qH hM;rw[<- hM]at HL hle ⊢;clear hl hM hF;go_enter Tryz.func164,Tryz.ntmps164;go_wp2_with fail;go_loopw [8] (fun i wr=>∃k:Nat,k<=M/\i=.int .i64 k/\Hid (Bq w wr)/\Hid (∀b∈pss.take k,t b.length=false)) (fun i _=>M-(intOf i).toNat)
 case atStart=>exact⟨0,qP _,rfl,qI _ _,(show ∀b∈pss.take 0,t b.length=false by simp)⟩
 case round=>
  obtain⟨k,hk,rfl,Aa,hno⟩:=hrel;by_cases hlt:k<M
  .
   obtain⟨x,hx⟩:∃x,pss[k]? = some x:=⟨_,gEl (by have:=HM.out;omega)⟩;have HX:=qH hx;obtain⟨b,off,au,cu,rfl,hc0,hr⟩:=(RList.below HL.out Aa.out).at hx;have HC:Hid _:=HF.out au x.length cu wr;obtain⟨d,hdd⟩:=qE (t x.length);have HD2:Hid (d=true->pss.any (fun b=>t b.length)=true):=(show d=true->pss.any (fun b=>t b.length)=true from fun h=>List.any_eq_true.2 ⟨x,mGt hx,hdd.symm.trans h⟩)
   have HD3:Hid (d=false->∀b∈pss.take (k+1),t b.length=false):=(show d=false->∀b∈pss.take (k+1),t b.length=false from fun h b hb=>by
    rw[qX,hx]at hb
    rcases xB.1 hb with hb | hb
    . exact hno.out b hb
    . simp at hb
      rw[hb]
      exact hdd.symm.trans h)
   rw[<- hdd]at HC;generalize x.length=NX at *;clear hx hr hdd;go_wp2_with fail;refine qD HC.out ?_;rintro e w3⟨rfl,hb3⟩;have HB3:=qT Aa hb3;clear hb3 HC hc0
   cases d with
   | true=>
    go_wp2_with fail
    go_ret
    exact⟨_,rfl,⟨fun _=>by omega,fun _=>HD2.out trivial⟩,HB3.out⟩
   | false=>
    go_wp2_with fail
    go_roundw
    case rel=>exact⟨k+1,by omega,by go_num,HB3,HD3.out trivial⟩
    case measure=>simp[intOf];omega
  .
   have HN:=qH (show pss.any (fun b=>t b.length)=false by
    rw[List.any_eq_false]
    intro b hb e
    have h1:=hno.out b (by rw[qO (by have:=HM.out;omega)];exact hb)
    rw[h1]at e
    cases e)
   clear hno;go_wp2_with fail;go_ret;exact⟨_,rfl,⟨fun e=>(by rw[HN.out]at e;cases e),fun e=>absurd e (by omega)⟩,Aa.out⟩
theorem aA7(F:Nat)(t:Nat->Bool)(hF:∀(ab:Option Addr)(n cap:Nat)(w:World),Calls prog F #[.slice ab n cap] w fun e w'=>e=.returned (.bool (t n))/\Bq w w')
 (hE:∀args w,(callFunc F args).run prog w=.ok (.enter F args) w)
 (al:Option Addr) (cl:Nat) (pss:List (List UInt8)) (w:World) (hl:RList w (.slice al pss.length cl) U pss):
 Calls prog 116 #[.slice al pss.length cl,.func (.func F) #[] #[]] w fun e w'=>e=.returned (.bool (pss.any (fun b=>t b.length)))/\Bq w w':=by
 have HI:Hid _:=bS0 F t hF hE al cl pss w hl;generalize pss.any (fun b=>t b.length)=A at *;generalize pss.length=N at *;clear hF hE hl;go_enter Tryz.func116,Tryz.ntmps116;go_wp2_with fail;refine qD HI.out ?_;rintro e w1⟨i,rfl,hi,hb⟩;have HB:=qH hb
 have HI2:=qH (show decide (0<=i)=A by
  by_cases h:0<=i
  . rw[qd h,hi.2 h]
  . rw[qU h]
    cases hA:A with
    | false=>rfl
    | true=>exact absurd (hi.1 hA) h)
 clear hi hb HI;by_cases h:0<=i
 . go_wp2_with fail;go_ret;exact⟨by rw[<- HI2.out];first|rfl | simp[h],HB.out⟩
 . go_wp2_with fail;go_ret;exact⟨by rw[<- HI2.out];first|rfl | simp[h],HB.out⟩
theorem aQ4(al:Option Addr)(cl:Nat)(pss:List (List UInt8))(w:World)(hl:RList w (.slice al pss.length cl) U pss):
 Calls prog 116 #[.slice al pss.length cl,.func (.func 68) #[] #[]] w fun e w'=>e=.returned (.bool (V7 pss))/\Bq w w':=
 aA7 _ (fun n=>decide (40000<n)) aQ3 (enters_of Tryz.func68 (by kernel_rfl) rfl) al cl pss w hl
theorem bE1(al:Option Addr)(cl:Nat)(pss:List (List UInt8))(w:World)(hl:RList w (.slice al pss.length cl) U pss):
 Calls prog 116 #[.slice al pss.length cl,.func (.func 117) #[] #[]] w fun e w'=>e=.returned (.bool (pss.any (fun b=>!b.isEmpty)))/\Bq w w':=by
 have e1:(fun b:List UInt8=>!b.isEmpty)=fun b=>decide (0<b.length):=by
  funext b
  cases b <;> simp
 rw[e1];exact aA7 _ (fun n=>decide (0<n)) cc8 (enters_of Tryz.func117 (by kernel_rfl) rfl) al cl pss w hl
theorem aH7{ns:List SNode}{k:Nat}{n:SNode}(h:ns[k]? = some n):(j3 (ns.take (k+1))).length=(j3 (ns.take k)).length+n.ins.length:=by rw[qX,h];simp[j3]
theorem boxE{w:World}{o:Obj}:Bq w (w.alloc o):=(qI _ w).alloc (qB _) o
theorem bS1(an:Option Addr)(cn:Nat)(ns:List SNode)(w:World)(hr:D4 w (.slice an ns.length cn) ns)(hok:∀n∈ns,n.ins.length<=5)(h60:ns.length<=60):
 Calls prog 66 #[.agg #[.slice an ns.length cn]] w fun e w'=>e=.returned (.int .i64 ((j3 ns).length:Int))/\Bq w w':=by
 have HR:=qH hr;have HOK:=qH hok;obtain⟨N,hN⟩:=qE ns.length;have HN:=qH hN
 have HAL:Hid (∀k,(j3 (ns.take k)).length<=5*k):=(show ∀k,(j3 (ns.take k)).length<=5*k by
  intro k
  induction k with
  | zero=>simp[j3]
  | succ k ih=>
   cases hk:ns[k]? with
   | none=>rw[qX,hk];simp;omega
   | some n=>
    rw[aH7 hk]
    have:=hok n (mGt hk)
    omega)
 rw[<- hN]at h60 HR ⊢;clear hr hok hN;go_enter Tryz.func66,Tryz.ntmps66;go_wp2_with fail;go_loopw [3,9] (fun s i wr=>∃k t:Nat,k<=N/\i=.int .i64 k/\s=.int .i64 t/\t<=300/\Hid (t=(j3 (ns.take k)).length)/\Hid (Bq w wr)) (fun s i _=>N-(intOf i).toNat)
 case atStart=>exact⟨0,0,qP _,rfl,rfl,by omega,(show _=_ by simp[j3]),boxE⟩
 case round=>
  obtain⟨k,t,hk,rfl,rfl,ht,HT,Aa⟩:=hrel;by_cases hlt:k<N
  . obtain⟨n,hn⟩:∃n,ns[k]? = some n:=⟨_,gEl (by have:=HN.out;omega)⟩;obtain⟨b,off,ai,ci,rfl,hNA,HP⟩:=HR.out.at hn;obtain⟨c0,c1,c2,c3,c4,c5,c6,c7⟩:=hNA.below Aa.out;have h5:n.ins.length<=5:=HOK.out n (mGt hn);have HT2:=qH (show t+n.ins.length=(j3 (ns.take (k+1))).length by rw[aH7 hn,HT.out]);have HT3:=qH (show t+n.ins.length<=300 by rw[HT2.out];have:=HAL.out (k+1);omega);generalize n.ins.length=L at *;generalize (⟨n.file.toArray⟩:ByteArray)=fx at *;generalize (⟨n.c.word.toArray⟩:ByteArray)=wx0 at *;generalize n.c.kind=ck at *;generalize n.c.n=cn' at *;generalize n.how=hw at *;generalize n.wide=wd at *;generalize n.kind=nk at *;clear hn hNA HP;go_wp2_with fail;go_roundw
    case rel=>exact⟨k+1,t+L,by omega,by go_num,by go_num,HT3.out,HT2,Aa.out.trans (boxE.mono Aa.out.size)⟩
    case measure=>simp[intOf];omega
  . have HE:=qH (show t=(j3 ns).length by rw[HT.out,qO (by have:=HN.out;omega)]);clear HT;go_wp2_with fail;go_ret;exact⟨by rw[<- HE.out];rfl,Aa.out⟩
abbrev N7(f:Nat)(t:TypeId)(k:Nat):Prop:=∀(ao:Option Addr)(N c:Nat)(xs:List Value)(w:World),xs.length=N*k->N<=100000->(ao=none->N=0)->(∀a,ao=some a->∀j u,xs[j]? = some u->w.cell? (a.add j)=some u)->(∀u∈xs,u.oneCell'=true) ->
 Calls prog f #[.slice ao N c] w fun e w'=>∃v',e=.returned v'/\w'.ownsRow w.heap.size t k v' N xs/\Below w.heap.size w w'
theorem cq3{st e:TypeId}(h:prog.underlying st=some (.slice e))(w:World)(a:Option Addr)(n c n' c':Nat):(binOp .eql st (.slice a n c) (.slice none n' c')).run prog w=.ok (.bool a.isNone) w:=Lib.run_eql_slice_nil w _ _ a n c n' c' h
theorem bS2:(prog.info? 73).map (fun i=>(i.zero,i.size,i.bytes))=some (some (.agg #[.int .i64 0,.string ⟨#[]⟩,.int .i64 0,.string ⟨#[]⟩,.int .i64 0,.int .i64 0,.int .i64 0,.slice none 0 0]),8,96):=by kernel_rfl
theorem bS3:(prog.info? 79).map (fun i=>(i.zero,i.size,i.bytes))=some (some (.agg #[.int .i64 0,.int .i64 0]),2,16):=by kernel_rfl
theorem ba3:(prog.info? 66).map (fun i=>(i.zero,i.size,i.bytes))=some (some (.agg #[.slice none 0 0,.int .i64 0,.bool false,.bool false]),4,40):=by kernel_rfl
theorem ba4:(prog.info? 76).map (fun i=>(i.zero,i.size,i.bytes))=some (some (.agg #[.slice none 0 0,.int .i64 0,.slice none 0 0,.bool false,.bool false]),5,64):=by kernel_rfl
theorem bS4:(prog.info? 83).map (fun i=>(i.zero,i.size,i.bytes))=some (some (.agg #[.string ⟨#[]⟩,.slice none 0 0]),2,40):=by kernel_rfl
theorem ba5:(prog.info? 28).map (fun i=>(i.zero,i.size,i.bytes))=some (some (.slice none 0 0),1,24):=by kernel_rfl
theorem bS5:(prog.info? 5).map (fun i=>(i.zero,i.size,i.bytes))=some (some (.int .u8 0),1,1):=by kernel_rfl
theorem U3:N7 122 73 8/\N7 123 79 2/\N7 126 66 4/\N7 127 76 5/\N7 124 83 2/\N7 171 28 1/\N7 125 5 1:=by
 refine⟨?_,?_,?_,?_,?_,?_,?_⟩;obtain⟨i0,hi,hi0,hi1,hi2⟩:=info_parts bS2;have hu:=underlying22;rotate_left
 obtain⟨i0,hi,hi0,hi1,hi2⟩:=info_parts bS3;have hu:=underlying71;rotate_left
 obtain⟨i0,hi,hi0,hi1,hi2⟩:=info_parts ba3;have hu:=underlying26;rotate_left
 obtain⟨i0,hi,hi0,hi1,hi2⟩:=info_parts ba4;have hu:=underlying27;rotate_left
 obtain⟨i0,hi,hi0,hi1,hi2⟩:=info_parts bS4;have hu:=underlying25;rotate_left
 obtain⟨i0,hi,hi0,hi1,hi2⟩:=info_parts ba5;have hu:=underlying74;rotate_left
 obtain⟨i0,hi,hi0,hi1,hi2⟩:=info_parts bS5;have hu:=underlying28;rotate_left
 all_goals
  intro ao N c xs w hl hn h0 hc h1;have hq:=cq3 hu;have HC:Hid _:=hc;have H1:Hid _:=h1;have HL:Hid _:=hl;have H0:Hid _:=h0;clear hc h1 hl h0
  cases ao with
  | none=>
   obtain rfl:=H0.out rfl
   have hx:xs=[]:=qi (by have:=HL.out;omega)
   have HX:=qH hx
   first|go_enter Tryz.func122,Tryz.ntmps122 | go_enter Tryz.func123,Tryz.ntmps123 | go_enter Tryz.func126,Tryz.ntmps126 | go_enter Tryz.func127,Tryz.ntmps127 | go_enter Tryz.func124,Tryz.ntmps124 | go_enter Tryz.func171,Tryz.ntmps171 | go_enter Tryz.func125,Tryz.ntmps125
   go_wp2_with fail
   go_ret
   exact⟨_,rfl,by first|exact World.ownsRow_nil _ _ _ _ | (rw[HX.out];exact World.ownsRow_nil _ _ _ _),qI _ _⟩
  | some a=>
   first|go_enter Tryz.func122,Tryz.ntmps122 | go_enter Tryz.func123,Tryz.ntmps123 | go_enter Tryz.func126,Tryz.ntmps126 | go_enter Tryz.func127,Tryz.ntmps127 | go_enter Tryz.func124,Tryz.ntmps124 | go_enter Tryz.func171,Tryz.ntmps171 | go_enter Tryz.func125,Tryz.ntmps125
   go_wp2_with (at_builtin;refine qx _ rfl _ _ _ rfl w.heap.size _ i0 _ _ _ hu hi hi0 hi1 hi2 rfl (by decide) _ _ _ rfl (World.ownsRow_made w #[] 0 (qB _) (qP _) rfl) a N c xs rfl HL.out (fun j u hj=>by have h:=HC.out a rfl j u hj;rw[boxE.cell (bLt w _ h)];exact h) H1.out (by unfold maxLen;omega) (by omega) (by first|simp | omega) ?_)
   intro v' w1 Ab hg Dh
   have HB:Hid (Bq w w1):=boxE.grown hg (by simp) (fun k hk=>by injection hk with hk;subst hk;exact qB _)
   have HO:Hid _:=Ab
   clear Ab hg Dh
   go_wp2
   go_ret
   exact⟨v',rfl,by unfold World.ownsRow;simpa using HO.out,HB.out⟩
theorem bh3:N7 122 73 8:=U3.1
theorem bh4:N7 123 79 2:=U3.2.1
theorem bh5:N7 126 66 4:=U3.2.2.1
theorem bh6:N7 127 76 5:=U3.2.2.2.1
theorem bh7:N7 124 83 2:=U3.2.2.2.2.1
theorem bh8:N7 171 28 1:=U3.2.2.2.2.2.1
theorem bh9:N7 125 5 1:=U3.2.2.2.2.2.2
open Go.Maps
variable {G:World->(Nat->Option Own)->Prop}
theorem ag7{B n:Nat}{w:World}:Below B w (w.drewN n):=⟨rfl,rfl,rfl,qB _,fun _ _=>rfl⟩
theorem cm1{i k:Nat}(hi:i<=1000)(hk:k<=1000):WfP ((i:Int),(k:Int)):=by constructor <;> (simp[Lit.wf,IntKind.min,IntKind.max,IntKind.signed,IntKind.bits];omega)
theorem cc9{ns:List SNode}{p:Int × Int}(h:p∈j3 ns):ba2 ns p=(D2 ns p:Int):=by unfold ba2;rw[qF h]
theorem ba6(D r:Nat)(O:Nat->Option Own)(d:RD)(i k q g c:Nat)(n:SNode)(w:World)(h:RunM G w D r O d)(hg:RightG d.M.ns)(hn:d.M.ns[i]? = some n)(hk:(k:Int)<nouts n)(hxl:d.M.pipes.length=(j3 d.M.ns).length)(hq:q=D2 d.M.ns ((i:Int),(k:Int)))
 (hv:d.vX=.slice (some ⟨g,0,none⟩) d.M.pipes.length c) (hc:d.M.pipes.length<=c/\c<=9223372036854775807):
 Calls prog 165 #[.pointer (some ⟨r,0,none⟩),.int .i64 i,.int .i64 k] w fun e w'=>e=.returned (.pointer (some ⟨g,q*4,none⟩))/\Bq w w':=by
 have hi60:i<60:=xT (gSm hn).1 hg.le60;have hk5:k<60:=by
  have hch:=hg.node n (mGt hn);have:nouts n<=5:=by
   unfold nouts;split
   . rcases H7 (E8 hch).1 with⟨h4 | h4,_⟩|⟨h4,_,h5⟩|⟨h4,_⟩|⟨h4,_⟩ <;> omega
   . split <;> omega
  omega
 obtain⟨r',j',n',hn',hj',_,Au,hql⟩:=hg.reader hn hk;obtain⟨b,m,hvM,hI⟩:=h.intoAt;have hlook:∀N,(Instr.lookup 109 (.map (some b)) (.agg #[.int .i64 i,.int .i64 k]) false).run prog (w.drewN N)=.ok (.int .i64 (q:Int)) (w.drewN N):=fun N=>by have h1:=S1.look (w:=w.drewN N) (S1.keep hI rfl) (cm1 (i:=i) (k:=k) (by omega) (by omega));rw[cc9 (hg.every i k n hn hk),<- hq]at h1;exact h1
 have hqx:q<d.M.pipes.length:=by rw[hq,hxl,Au];exact hql
 obtain⟨c0,c1,c2,c3,c4,c5,c6⟩:=K6 h.box.1;rw[hv]at c2;rw[hvM]at c6;generalize d.M.pipes.length=NX at *;clear h hv hvM hI hq hxl hn hk hg hn' hj' Au hql c0 c1 c3 c4 c5;go_enter Tryz.func165,Tryz.ntmps165;go_wp2_with fail;go_quiet (fail);all_goals go_wp2_with fail
 all_goals go_ret
 all_goals exact⟨rfl,by first|exact qI _ _ | exact ag7⟩
end Go.Proofs.YtllgglolcgdehaaGreatDoor
namespace Go.Proofs.YtllgglolcgdehaaGreatDoor
open Go.RowKit Go.Gs Tryz
theorem ba7{n:Nat}{room:Int}{sh:Bool}(h:room<0\/1000<room):pck n room sh=3:=by unfold pck;rw[qF h]
theorem cd0{n:Nat}{room:Int}{sh:Bool}(h:¬(room<0\/1000<room))(h2:plim room<(n:Int)):pck n room sh=2:=by unfold pck;rw[qA h,qF h2]
theorem cd1{n:Nat}{room:Int}(h:¬(room<0\/1000<room))(h2:¬plim room<(n:Int))(h3:0<n):pck n room true=4:=by unfold pck;rw[qA h,qA h2,qF ⟨rfl,h3⟩]
theorem cd2{n:Nat}{room:Int}(h:¬(room<0\/1000<room))(h2:¬plim room<(n:Int))(h3:¬0<n):pck n room true=0:=by unfold pck;rw[qA h,qA h2,qA (fun h=>h3 h.2)]
theorem br2{n:Nat}{room:Int}(h:¬(room<0\/1000<room))(h2:¬plim room<(n:Int)):pck n room false=0:=by unfold pck;rw[qA h,qA h2,qA (fun h=>by cases h.1)]
theorem br3(ab:Option Addr)(n cap:Nat)(room:Int)(cl sh:Bool)(w:World):
 Calls prog 102 #[.agg #[.slice ab n cap,.int .i64 room,.bool cl,.bool sh]] w fun e w'=>e=.returned (.int .i64 (plim room))/\Bq w w':=by
 by_cases h:room=0
 . subst h;go_enter Tryz.func102,Tryz.ntmps102;go_wp2_with fail;go_ret;exact⟨rfl,ae5⟩
 . have HP:=qH (show plim room=room by unfold plim;rw[qA h]);go_enter Tryz.func102,Tryz.ntmps102;go_wp2_with fail;go_ret;exact⟨by rw[HP.out];rfl,ae5⟩
theorem ai7(ab:Option Addr)(n cap:Nat)(room:Int)(cl sh:Bool)(w:World)(hn:n<=9223372036854775807):
 Calls prog 37 #[.agg #[.slice ab n cap,.int .i64 room,.bool cl,.bool sh]] w fun e w'=>e=.returned (.int .i64 (pck n room sh))/\Bq w w':=by
 by_cases hr:room<0\/1000<room
 .
  have HP:Hid (pck n room sh=3):=ba7 hr;by_cases h0:room<0
  . go_enter Tryz.func37,Tryz.ntmps37;go_wp2_with fail;go_ret;exact⟨by rw[HP.out];rfl,ae5⟩
  . have h1:1000<room:=by omega
    go_enter Tryz.func37,Tryz.ntmps37;go_wp2_with fail;go_ret;exact⟨by rw[HP.out];rfl,ae5⟩
 .
  have h0:¬room<0:=by omega
  have h1:¬1000<room:=by omega
  have HO:Hid _:=fun(W:World)=>br3 ab n cap room cl sh W;obtain⟨L,hL⟩:=qE (plim room);have HL:=qH hL;obtain⟨W,hW⟩:=qE (w.alloc (.cells #[.slice ab n cap,.int .i64 room,.bool cl,.bool sh] 66));have HW:=qH (show Bq w W by rw[hW];exact ae5);have c0:W.cell? ⟨w.heap.size,0,none⟩=some (.slice ab n cap):=by rw[hW,qV _ _ _ _ _ _ (qN w _)];rfl
  have c1:W.cell? ⟨w.heap.size,1,none⟩=some (.int .i64 room):=by rw[hW,qV _ _ _ _ _ _ (qN w _)];rfl
  have c2:W.cell? ⟨w.heap.size,2,none⟩=some (.bool cl):=by rw[hW,qV _ _ _ _ _ _ (qN w _)];rfl
  have c3:W.cell? ⟨w.heap.size,3,none⟩=some (.bool sh):=by rw[hW,qV _ _ _ _ _ _ (qN w _)];rfl
  have k0:=fun d os=>cell_regrown c0 d os;have k1:=fun d os=>cell_regrown c1 d os;have k2:=fun d os=>cell_regrown c2 d os;have k3:=fun d os=>cell_regrown c3 d os;have cF:∀d os,Calls prog 102 #[.agg #[.slice ab n cap,.int .i64 room,.bool cl,.bool sh]] (Go.Sort.grow (redrawn W d) os) fun e w''=>e=.returned (.int .i64 L)/\∃p:Regrown,w''=Go.Sort.grow (redrawn W p.d) p.os:=fun d os=>Calls.regrown_of (by rw[hL];exact HO.out _);rw[<- hL]at HO;go_enter Tryz.func37,Tryz.ntmps37;go_upto_region 3 with fail;rw[<- hW];clear hW hL HO c0 c1 c2 c3;refine wp_region_quiet_below (by kernel_rfl) (by kernel_rfl) ?_;repeat (first|go_big_quiet_step (exact cF _ _) | quiet_step (exact cF _ _))
  refine wpQuiet_nil ?_;intro _ hw';obtain⟨⟨dq,osq⟩,Cb⟩:=hw';subst Cb;have q0:=k0 dq osq;have q3:=k3 dq osq;have HB3:Hid (Bq w (Go.Sort.grow (redrawn W dq) osq)):=HW.out.trans ((below_regrown W dq osq).mono HW.out.size);clear cF k0 k1 k2 k3 HW;generalize (Go.Sort.grow (redrawn W dq) osq)=w3 at *;by_cases h2:L<(n:Int)
  . have HP:Hid (pck n room sh=2):=cd0 hr (by rw[<- HL.out];exact h2);clear hr;go_wp2_with fail;go_ret;exact⟨by rw[HP.out];rfl,HB3.out⟩
  .
   have h2':¬plim room<(n:Int):=by rw[<- HL.out];exact h2
   cases sh with
   | false=>
    have HP:Hid (pck n room false=0):=br2 hr h2'
    clear hr h2'
    go_wp2_with fail
    go_ret
    exact⟨by rw[HP.out];rfl,HB3.out⟩
   | true=>
    by_cases h3:0<n
    . have HP:Hid (pck n room true=4):=cd1 hr h2' h3
      clear hr h2'
      go_wp2_with fail
      go_ret
      exact⟨by rw[HP.out];rfl,HB3.out⟩
    . have HP:Hid (pck n room true=0):=cd2 hr h2' h3
      clear hr h2'
      go_wp2_with fail
      go_ret
      exact⟨by rw[HP.out];rfl,HB3.out⟩
def pckO(n:Nat)(room:Int)(cl sh:Bool):Int:=if pck n room sh≠0 then pck n room sh else if cl=true then 7 else 0
theorem bi0(ab:Option Addr)(n cap:Nat)(room:Int)(cl sh:Bool)(w:World)(hn:n<=9223372036854775807):
 Calls prog 232 #[.agg #[.slice ab n cap,.int .i64 room,.bool cl,.bool sh]] w fun e w'=>e=.returned (.int .i64 (pckO n room cl sh))/\Bq w w':=by
 have HO:Hid _:=fun(W:World)=>ai7 ab n cap room cl sh W hn;obtain⟨L,hL⟩:=qE (pck n room sh);have HP:=qH (show pckO n room cl sh=if L≠0 then L else if cl=true then 7 else 0 by rw[hL];rfl);rw[<- hL]at HO;clear hL;go_enter Tryz.func232,Tryz.ntmps232;go_wp2_with fail;refine (HO.out _).mono ?_;rintro e w1⟨rfl,hb1⟩;have hx:=cs1 hb1;have q2:w1.cell? ⟨w.heap.size,2,none⟩=some (.bool cl):=qR hx rfl;have HB:Hid (Bq w w1):=ae5.trans (hb1.mono ae5.size);clear hb1 hx HO;by_cases h0:L=0
 .
  subst h0
  cases cl with
  | true=>
   go_wp2_with fail
   go_ret
   exact⟨by rw[HP.out];rfl,HB.out⟩
  | false=>
   go_wp2_with fail
   go_ret
   exact⟨by rw[HP.out];rfl,HB.out⟩
 . have HP2:=qH (show pckO n room cl sh=L by rw[HP.out,qF h0]);clear HP;go_wp2_with fail;go_ret;exact⟨by rw[HP2.out];rfl,HB.out⟩
theorem cd3(ab:Option Addr)(n cap:Nat)(room:Int)(cl sh:Bool)(w:World):
 Calls prog 168 #[.agg #[.slice ab n cap,.int .i64 room,.bool cl,.bool sh]] w fun e w'=>e=.returned (.bool (cl && decide (n=0)))/\Bq w w':=by
 cases cl with
 | false=>
  go_enter Tryz.func168,Tryz.ntmps168
  go_wp2_with fail
  go_ret
  exact⟨rfl,ae5⟩
 | true=>
  by_cases h0:n=0
  . subst h0
    go_enter Tryz.func168,Tryz.ntmps168
    go_wp2_with fail
    go_ret
    exact⟨rfl,ae5⟩
  .
   have HD:Hid (decide (n=0)=false):=qU h0
   go_enter Tryz.func168,Tryz.ntmps168
   go_wp2_with fail
   go_ret
   refine⟨?_,ae5⟩
   show Ending.returned (.bool ((n:Int)==0))=_
   rw[HD.out,show ((n:Int)==0)=false by simpa using h0]
   rfl
theorem cd4{room:Int}(h:pck 0 room false≠0):pnew room=(ab0,pck 0 room false):=by
 by_cases hr:room<0\/1000<room
 . rw[ba7 hr];unfold pnew;rw[qF hr]
 . refine absurd (br2 hr ?_) h;unfold plim;split <;> omega
theorem cm2{room:Int}(h:pck 0 room false=0):pnew room=(⟨[],room,false,false⟩,0):=by have:=bg5 h;unfold pnew;rw[qA (by omega)]
theorem bS6{p:SPipe}(h:pchk p≠0):pshut p=(ab0,pchk p):=by unfold pshut;rw[qF h]
theorem br4{p:SPipe}(h:pchk p=0):pshut p=(⟨[],p.room,p.closed,true⟩,0):=by unfold pshut;rw[qA (fun e=>e h)]
theorem bJ2(p:SPipe):pckO p.b.length p.room p.closed p.shut=if pchk p≠0 then pchk p else if p.closed=true then 7 else 0:=rfl
theorem bi1{p:SPipe}(h:pckO p.b.length p.room p.closed p.shut=0):pchk p=0/\p.closed=false:=by
 rw[bJ2]at h;by_cases h1:pchk p=0
 . by_cases h2:p.closed=true
   . simp[h1,h2]at h
   . exact⟨h1,by simpa using h2⟩
 . simp[h1]at h
theorem cq4(room:Int)(w:World):
 Calls prog 60 #[.int .i64 room] w fun e w'=>e=.returned (.tuple #[W9 (pnew room).1 none 0,.int .i64 (pnew room).2])/\Bq w w':=by
 have HO:Hid _:=fun(W:World)=>ai7 none 0 0 room false false W (by omega);have HB:Hid _:=fun h=>cd4 (room:=room) h;have HK:Hid _:=fun h=>cm2 (room:=room) h;obtain⟨L,hL⟩:=qE (pck 0 room false);rw[<- hL]at HO HB HK;clear hL;go_enter Tryz.func60,Tryz.ntmps60;go_wp2_with fail;refine (HO.out _).mono ?_;rintro e w1⟨rfl,hb1⟩;obtain⟨x1,x2⟩:=bg8 hb1;obtain⟨c0,c1,c2,c3⟩:=E5 x1;obtain⟨d0,d1,d2,d3⟩:=E5 x2;obtain⟨f0,f1,f2,f3⟩:=ae6 x1;have HB1:Hid (Bq w w1):=ao6.trans (hb1.mono ao6.size);clear hb1 HO x1 x2;by_cases h0:L=0
 .
  subst h0;go_wp2_with fail;(try simp only[Exit.inBlock,Exit.then])
  refine xA (v:=.tuple #[.agg #[.slice none 0 0,.int .i64 room,.bool false,.bool false],.int .i64 0]) ?_ rfl ⟨?_,?_⟩
  . rw[results_cell_tmp rfl];go_simp
  . rw[HK.out trivial];rfl
  . exact aG8 HB1.out (qB _) _ _ _ _
 .
  go_wp2_with fail;(try simp only[Exit.inBlock,Exit.then])
  refine xA (v:=.tuple #[.agg #[.slice none 0 0,.int .i64 0,.bool false,.bool false],.int .i64 L]) ?_ rfl ⟨?_,?_⟩
  . rw[results_cell_tmp rfl];go_simp
  . rw[HB.out h0];rfl
  . exact aG8 HB1.out (qB _) _ _ _ _
theorem cm3(ab:Option Addr)(cap:Nat)(p:SPipe)(w:World)(hn:p.b.length<=9223372036854775807):
 Calls prog 274 #[W9 p ab cap] w fun e w'=>e=.returned (.tuple #[W9 (pshut p).1 none 0,.int .i64 (pshut p).2])/\Bq w w':=by
 obtain⟨bs,room,cl,sh⟩:=p;have HO:Hid _:=fun(W:World)=>ai7 ab bs.length cap room cl sh W hn;have HB:Hid _:=fun h=>bS6 (p:=⟨bs,room,cl,sh⟩) h;have HK:Hid _:=fun h=>br4 (p:=⟨bs,room,cl,sh⟩) h;unfold pchk at HB HK;unfold W9;generalize hZ:pshut ⟨bs,room,cl,sh⟩=Z at *;simp only at HB HK hn ⊢;obtain⟨L,hL⟩:=qE (pck bs.length room sh);obtain⟨N,hN⟩:=qE bs.length;rw[<- hL]at HO HB HK;rw[<- hN]at HO hn ⊢;clear hL hN hZ;go_enter Tryz.func274,Tryz.ntmps274;go_wp2_with fail;refine (HO.out _).mono ?_;rintro e w1⟨rfl,hb1⟩;obtain⟨x1,x2⟩:=bg8 hb1;obtain⟨c0,c1,c2,c3⟩:=E5 x1;obtain⟨d0,d1,d2,d3⟩:=E5 x2;obtain⟨f0,f1,f2,f3⟩:=ae6 x1;obtain⟨g0,g1,g2,g3⟩:=ae6 x2;have HB1:Hid (Bq w w1):=ao6.trans (hb1.mono ao6.size);clear hb1 HO x1 x2;by_cases h0:L=0
 .
  obtain rfl:=HK.out h0;clear HK HB;subst h0;go_wp2_with fail;(try simp only[Exit.inBlock,Exit.then])
  refine xA (v:=.tuple #[.agg #[.slice none 0 0,.int .i64 room,.bool cl,.bool true],.int .i64 0]) ?_ rfl ⟨rfl,?_⟩
  . rw[results_cell_tmp rfl];go_simp
  . repeat (first|refine xQ ?_ (by simp) _ | exact HB1.out)
 .
  obtain rfl:=HB.out h0;clear HK HB;go_wp2_with fail;(try simp only[Exit.inBlock,Exit.then])
  refine xA (v:=.tuple #[.agg #[.slice none 0 0,.int .i64 0,.bool false,.bool false],.int .i64 L]) ?_ rfl ⟨rfl,?_⟩
  . rw[results_cell_tmp rfl];go_simp
  . repeat (first|refine xQ ?_ (by simp) _ | exact HB1.out)
theorem bS7{p:SPipe}{m:Int}(h:pchk p≠0):pread p m=(ab0,[],pchk p):=by unfold pread;rw[qF h]
theorem br5{p:SPipe}{m:Int}(h:pchk p=0)(h2:m<0\/4000<m):pread p m=(ab0,[],3):=by unfold pread;rw[qA (fun e=>e h),qF h2]
theorem cd5{p:SPipe}{m:Int}(h:pchk p=0)(h2:¬(m<0\/4000<m)):pread p m=(⟨p.b.drop (min m.toNat p.b.length),p.room,p.closed,p.shut⟩,p.b.take (min m.toNat p.b.length),0):=by unfold pread;rw[qA (fun e=>e h),qA h2]
theorem br6{w:World}{b off n cap k:Nat}{bs:List UInt8}(h:Reads w (.slice (some ⟨b,off,none⟩) n cap) n (bs.map U))(hk:k<=n):Reads w (.slice (some ⟨b,off+k,none⟩) (n-k) (cap-k)) (n-k) ((bs.drop k).map U):=by obtain⟨hl,ao,cap',e,h3,h4,h5⟩:=h;injection e with e1 e2 e3;subst e1 e3;rw[qM]at hl;refine⟨by simp;omega,_,_,rfl,by omega,by omega,fun hn=>?_⟩;obtain⟨b',off',e,hc⟩:=h5 (by omega);injection e with e;injection e with e1 e2;subst e1 e2;refine⟨b,off+k,rfl,fun j u hu=>?_⟩;rw[List.map_drop,xd]at hu;have:=hc _ _ hu;rwa [<- Nat.add_assoc]at this
theorem br7{w:World}{ao:Option Addr}{n cap k:Nat}{bs:List UInt8}(h:Reads w (.slice ao n cap) n (bs.map U))(hk:k<=n):Reads w (.slice ao k cap) k ((bs.take k).map U):=by
 obtain⟨hl,ao',cap',e,h3,h4,h5⟩:=h;injection e with e1 e2 e3;subst e1 e3;rw[qM]at hl;refine⟨by simp;omega,_,_,rfl,by omega,by omega,fun hn=>?_⟩;obtain⟨b',off',e,hc⟩:=h5 (by omega);refine⟨b',off',e,fun j u hu=>?_⟩;rw[List.map_take,xR]at hu;split at hu
 . exact hc _ _ hu
 . cases hu
end Go.Proofs.YtllgglolcgdehaaGreatDoor
