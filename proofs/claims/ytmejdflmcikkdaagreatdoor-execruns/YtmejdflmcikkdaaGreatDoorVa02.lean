/- The form of a machine is kept; rounds end, and more. -/
import Derived.Test.YtmejdflmcikkdaaGreatDoorVAb
import Derived.Shelf.Abstract
import Derived.Test.YtmejdflmcikkdaaGreatDoorVa01
set_option linter.all false
set_option maxRecDepth 100000
set_option maxHeartbeats 64000000
namespace Go.Gs
open Go.RowKit
variable {l:qL}{n:SNode}{p p':SProc}{a q c d k:Nat}{xs X:List SPipe}{x:SPipe}{b s:qU}{y:Nat × Nat × Nat}{f:Nat->Nat}
structure ProcF (n:SNode) (p:SProc):Prop where
 glen:p.got.length=n.ins.length
 olen:(p.out.length:Int)=nouts n
 pos0:0<=p.pos
 pos1:p.pos<=n.ins.length
 ovrd:p.ov=true->p.rd=true
 pos2:p.rd=false->n.ins.length≠0->p.pos<n.ins.length
structure Shape (M:SMach):Prop where
 gok:gchk M.ns=0
 fok:fchk M.fs=0
 plen:M.ps.length=M.ns.length
 xlen:M.pipes.length=(b8 M.ns).length
 proc:∀(i:Nat)(n:SNode)(p:SProc),M.ns[i]?=some n->M.ps[i]?=some p->ProcF n p
 pipe:∀x∈M.pipes,pchk x=0
theorem Shape.g{M:SMach}(h:Shape M):RightG M.ns:=Q6 h.gok
theorem ba9{l:List Int}(h:I8 l=0):∀x∈l,x=0:=by
 unfold I8 at h
 cases hf:l.find? (fun x=>x != 0) with
 | none=>intro x hx;have:=zW.1 hf x hx;simpa using this
 | some y=>rw[hf]at h;have:=List.find?_some hf;simp at h this;exact absurd h this
theorem ay2:∀(ns:List SNode)(ps:List SProc),E1 ns ps=0->∀(i:Nat)(n:SNode)(p:SProc),ns[i]?=some n->ps[i]?=some p->C6 n p=0
 | [],_,_,i,n,p,hn,_=>by simp at hn
 | _::_,[],_,i,n,p,_,hp=>by simp at hp
 | m::ns,q::ps,h,0,n,p,hn,hp=>by
  simp at hn hp;subst hn hp;unfold E1 at h;by_cases e:C6 m q=0
  . exact e
  . rw[qF e]at h;exact h
 | m::ns,q::ps,h,i+1,n,p,hn,hp=>by
  unfold E1 at h;by_cases e:C6 m q=0
  . rw[qB (by simp[e])]at h;exact ay2 ns ps h i n p (by simpa using hn) (by simpa using hp)
  . rw[qF e]at h;exact absurd h e
theorem aE2(h:J2 l=false):∀b∈l,b.length<=40000:=by intro b hb;unfold J2 at h;rw[List.any_eq_false]at h;have:=h b hb;simp at this;exact this
theorem ay3(h:C6 n p=0):ProcF n p/\(∀b∈p.got,b.length<=40000)/\∀b∈p.out,b.length<=40000:=by
 unfold C6 at h;split at h
 . cases h
 .
  rename_i h1;split at h
  . cases h
  .
   rename_i h2;split at h
   . cases h
   .
    rename_i h3;simp only[not_or]at h1 h2;simp only[Bool.or_eq_true,not_or,Bool.not_eq_true]at h3;refine⟨⟨qO,qO,qO,qO,fun e=>?_,fun e e2=>?_⟩,aE2 h3.1,aE2 h3.2⟩
    . cases hr:p.rd with
      | true=>rfl
      | false=>exact absurd ⟨e,hr⟩ h2.2.2.1
    . have:=h2.2.2.2;have h4:¬(p.pos=n.ins.length):=fun e3=>this ⟨e,qO,e3⟩;omega
theorem M7{M:SMach}(h:mchk M=0):Shape M/\(∀p∈M.ps,(∀b∈p.got,b.length<=40000)/\∀b∈p.out,b.length<=40000)/\M.sunk.length<=40000:=by
 unfold mchk at h;split at h
 . rename_i e;exact absurd h e
 .
  rename_i h1;split at h
  . rename_i e;exact absurd h e
  .
   rename_i h2;split at h
   . cases h
   .
    rename_i h3;split at h
    . rename_i e;exact absurd h e
    .
     rename_i h4;split at h
     . rename_i e;exact absurd h e
     . rename_i h5;split at h
       . cases h
       . rename_i h6;have hpl:M.ps.length=M.ns.length:=qO;have An:=ay2 M.ns M.ps qO;refine⟨⟨qO,qO,hpl,qO,fun i n p hn hp=>(ay3 (An i n p hn hp)).1,fun x hx=>ba9 qO _ (List.mem_map_of_mem hx)⟩,fun p hp=>?_,qO⟩;obtain⟨i,hi⟩:=qw hp;have hil:i<M.ns.length:=by rw[<- hpl];exact (gSm hi).1
         exact (ay3 (An i _ p (gEl hil) hi)).2
theorem Shape.change{M:SMach}(h:Shape M)(hn:M.ns[a]?=some n)(p':SProc)(X:List SPipe)(s:qU)(hp:ProcF n p')(hX:X.length=M.pipes.length)(hx:∀x∈X,pchk x=0):Shape ⟨M.ns,M.fs,X,M.ps.set a p',s⟩:=by
 refine⟨h.gok,h.fok,by simpa using h.plen,hX.trans h.xlen,fun i n' q hn' hq=>?_,hx⟩;rcases ce4 hq with⟨rfl,rfl⟩|⟨_,hq⟩
 . rw[show (⟨M.ns,M.fs,X,M.ps.set i q,s⟩:SMach).ns=M.ns from rfl,hn]at hn';injection hn' with hn';subst hn';exact hp
 . exact h.proc i n' q hn' hq
theorem aU8(hc:q9 n=0)(fs:List SFile)(h:ProcF n p)(Br:p.pos<=n.ins.length):ProcF n (D2 n fs p):=by have:=Q5 hc fs p.got;have:=h.olen;refine⟨by unfold D2;simpa using h.glen,?_,h.pos0,Br,fun _=>rfl,fun e=>absurd e (by simp[D2])⟩;unfold D2;simp only[xZ];omega
theorem aH6{y:SPipe}(h:x∈xs.set q y):x=y\/x∈xs:=by
 rcases zS h with h | h
 . exact Or.inr h
 . exact Or.inl h
theorem am6(h:pchk x=0)(hn:0<(pwrite x b).2.1):pchk (pwrite x b).1=0/\(pwrite x b).2.1<=b.length/\(pwrite x b).1.closed=x.closed/\(pwrite x b).1.shut=x.shut/\(pwrite x b).1.room=x.room:=by
 have hg:=Q7 h
 cases hc:x.closed with
 | true=>
  have:pwrite x b=(Y3,0,7):=by unfold pwrite;rw[qB (by simp[h]),qF hc]
  rw[this]at hn;exact absurd hn (by simp)
 | false=>
  cases hs:x.shut with
  | true=>rw[aK0 h hc hs];refine⟨Z4 hg.1 hg.2.1 ?_ (fun _=>rfl),qA _,hc,hs,rfl⟩;show ((0:Nat):Int)<=plim x.room;have:=hg.2.2.1;omega
  | false=>rw[aK1 h hc hs];refine⟨Z4 hg.1 hg.2.1 ?_ (fun e=>absurd (hs.symm.trans e) (by simp)),ba2,hc,hs,rfl⟩;have h3:=bQ9 (m:=b.length) hg.2.1 hg.2.2.1;have h4:pfit b.length x.b.length x.room<=b.length:=ba2;show ((x.b++b.take (pfit b.length x.b.length x.room)).length:Int)<=plim x.room;rw[qI,qX,zA h4];exact h3.2
abbrev T4:=Nat × Nat × Nat × Nat
def r4:T4->T4->Prop:=Prod.Lex (· < ·) (Prod.Lex (· < ·) (Prod.Lex (· < ·) (· < ·)))
def RL:List T4->List T4->Prop
 | a::l,b::l'=>(r4 a b/\l.length=l'.length)\/(a=b/\RL l l')
 | _,_=>False
theorem RL.at:∀(l l':List T4)(a:Nat)(x y:T4),l.length=l'.length->l[a]?=some x->l'[a]?=some y->(∀i,i<a->l[i]?=l'[i]?)->r4 x y->RL l l'
 | [],_,a,x,y,_,h,_,_,_=>by simp at h
 | _::_,[],a,x,y,_,_,h,_,_=>by simp at h
 | u::l,v::l',0,x,y,hl,h1,h2,_,hr=>by simp at h1 h2 hl;subst h1 h2;exact Or.inl ⟨hr,hl⟩
 | u::l,v::l',a+1,x,y,hl,h1,h2,hs,hr=>by have h0:=hs 0 qO;simp at h0;subst h0;exact Or.inr ⟨rfl,RL.at l l' a x y (by simpa using hl) (by simpa using h1) (by simpa using h2) (fun i hi=>by simpa using hs (i+1) qO) hr⟩
def ab8(M:SMach)(i m:Nat):Nat:=((List.range m).map (fun j=>(M.pipe (f9 M.ns i+j)).b.length)).sum
def aU9(M:SMach)(i:Nat):T4:=
 match M.ns[i]?,M.ps[i]? with
 | some n,some p=>((if p.rd then 0 else 1)+(if p.ov then 0 else 1),n.ins.length-p.pos.toNat,ab8 M i n.ins.length,p.out.flatten.length)
 | _,_=>(0,0,0,0)
def mu(M:SMach):List T4:=(List.range M.ns.length).map (aU9 M)
theorem ca0{b:Nat}{x:Nat × Nat × Nat}(h:a<b):r4 (a,x) (b,y):=Prod.Lex.left _ _ h
theorem ci2{b:Nat}{x y:Nat × Nat}(h:b<c):r4 (a,b,x) (a,c,y):=Prod.Lex.right _ (Prod.Lex.left _ _ h)
theorem ce5{b x y:Nat}(h:c<d):r4 (a,b,c,x) (a,b,d,y):=Prod.Lex.right _ (Prod.Lex.right _ (Prod.Lex.left _ _ h))
theorem ci4{b e:Nat}(h:d<e):r4 (a,b,c,d) (a,b,c,e):=Prod.Lex.right _ (Prod.Lex.right _ (Prod.Lex.right _ h))
theorem aC2{g:Nat->Nat}:∀(m:Nat),(∀j,j<m->f j=g j)->((List.range m).map f).sum=((List.range m).map g).sum:=by intro m h;congr 1;apply zq;intro j hj;exact h j (zB.1 hj)
theorem bS4{g:Nat->Nat}:∀(m:Nat)(a:Nat),a<m->(∀j,j<m->j≠a->f j=g j)->f a<g a->((List.range m).map f).sum<((List.range m).map g).sum:=by
 intro m
 induction m with
 | zero=>intro a ha;omega
 | succ m ih=>
  intro a ha h hlt;rw[List.range_succ,xF,xF,List.sum_append_nat,List.sum_append_nat];simp only[xy,List.map_nil,List.sum_cons,List.sum_nil];by_cases e:a=m
  . subst e;have:=aC2 (f:=f) (g:=g) a (fun j hj=>h j qO qO);omega
  . have h1:=ih a qO (fun j hj hja=>h j qO hja) hlt;have h2:=h m qO (fun e2=>e e2.symm);omega
theorem ab9{M:SMach}(hn:M.ns[a]?=some n)(hp:M.ps[a]?=some p)(hpl:M.ps.length=M.ns.length)
 (hX:∀(i:Nat)(n':SNode)(j:Nat),M.ns[i]?=some n'->i<a->j<n'.ins.length->X[f9 M.ns i+j]?=M.pipes[f9 M.ns i+j]?)
 (hr:r4 (aU9 ⟨M.ns,M.fs,X,M.ps.set a p',s⟩ a) (aU9 M a)):RL (mu ⟨M.ns,M.fs,X,M.ps.set a p',s⟩) (mu M):=by
 have hal:a<M.ns.length:=(gSm hn).1;unfold mu;refine RL.at _ _ a _ _ (by simp) (by rw[qa,xd hal];rfl) (by rw[qa,xd hal];rfl) (fun i hi=>?_) hr;rw[qa,qa,xd (by show i<M.ns.length;omega)];simp only[xG,qe];unfold aU9;obtain⟨n',hn'⟩:∃n',M.ns[i]?=some n':=⟨_,gEl qO⟩;obtain⟨q,hq⟩:∃q,M.ps[i]?=some q:=⟨_,gEl qO⟩;have hq2:(M.ps.set a p')[i]?=some q:=by rw[xE,qB qO,hq]
 simp only[hn',hq,hq2];congr 3;unfold ab8;refine aC2 _ (fun j hj=>?_);unfold SMach.pipe;rw[hX i n' j hn' hi hj]
theorem H8{M:SMach}(hn:M.ns[a]?=some n)(hp:M.ps[a]?=some p):aU9 M a=((if p.rd then 0 else 1)+(if p.ov then 0 else 1),n.ins.length-p.pos.toNat,ab8 M a n.ins.length,p.out.flatten.length):=by unfold aU9;rw[hn,hp]
theorem aR9{c:qU}(h:l[k]?=some b)(hc:c.length<b.length):(l.set k c).flatten.length<l.flatten.length:=by
 have hk:k<l.length:=(gSm h).1;rw[gEl hk]at h;injection h with h;rw[List.set_eq_take_append_cons_drop,qF hk];conv=>rhs;rw[<- xU k l,qt hk]
 rw[h];simp;omega
theorem ay4{M:SMach}(hp:M.ps[a]?=some p):(M.ps.set a p')[a]?=some p':=by rw[xE,qF rfl,qF (gSm hp).1]
theorem bj9(h:∀x∈xs,pchk x=0)(ns:List SNode)(i:Nat):∀K,∀x∈H7 ns i K xs,pchk x=0:=by
 intro K x hx;obtain⟨q,hq⟩:=qw hx;obtain⟨y,hy,h1,h2⟩:=am4 ns i xs K q x hq;have hgy:=h y (mGt hy);by_cases hk:∃k:Nat,k<K/\q=E9 ns ((i:Int),(k:Int))
 . rw[h1 hk];exact hgy
 . rw[h2 (fun k hkK e=>hk ⟨k,hkK,e⟩)];exact hgy
theorem aK2{M:SMach}(h:Shape M)(a:Nat):Shape (E3 M a).1/\(E3 M a).1.ns=M.ns/\(E3 M a).1.fs=M.fs/\(((E3 M a).2≠0/\(E3 M a).1=M)\/((E3 M a).2=0/\RL (mu (E3 M a).1) (mu M))):=by
 unfold E3
 cases hn:M.ns[a]? with
 | none=>exact⟨h,rfl,rfl,Or.inl ⟨by simp,rfl⟩⟩
 | some n=>
  cases hp:M.ps[a]? with
  | none=>exact⟨h,rfl,rfl,Or.inl ⟨by simp,rfl⟩⟩
  | some p=>
   simp only;have hF:=h.proc a n p hn hp;have hch:=h.g.node n (mGt hn);have La:∀q,pchk (M.pipe q)=0:=by
    intro q;unfold SMach.pipe
    cases hq:M.pipes[q]? with
    | none=>simp[Y3,pchk,pck,plim]
    | some x=>exact h.pipe x (mGt hq)
   unfold Y5;by_cases hov:p.ov=true
   . rw[qF hov];exact⟨h,rfl,rfl,Or.inl ⟨by simp,rfl⟩⟩
   .
    rw[qB hov];have Ez:p.ov=false:=by simpa using hov
    by_cases Bt:p.out.any (fun b=>!b.isEmpty)=true
    .
     rw[qF Bt];have key:∀(r:qL)(k:Nat),p.out.drop k=r->Shape (E2 M a p k r).1/\(E2 M a p k r).1.ns=M.ns/\(E2 M a p k r).1.fs=M.fs/\(((E2 M a p k r).2≠0/\(E2 M a p k r).1=M)\/((E2 M a p k r).2=0/\RL (mu (E2 M a p k r).1) (mu M))):=by
      intro r
      induction r with
      | nil=>intro k _;exact⟨h,rfl,rfl,Or.inl ⟨by simp[E2],rfl⟩⟩
      | cons b r ih=>
       intro k hk;have hb:p.out[k]?=some b:=by
        have:(p.out.drop k)[0]?=some b:=by rw[hk];rfl
        rw[xu]at this;exact this
       unfold E2;by_cases Br:0<(pwrite (M.pipe (E9 M.ns ((a:Int),(k:Int)))) b).2.1
       .
        rw[qF Br];unfold SMach.setX SMach.setP;have hgd:=am6 (La _) Br;have hkl:k<p.out.length:=(gSm hb).1;obtain⟨r',j',n',hn',hj',har,Ba,hql⟩:=h.g.reader (k:=k) hn (by have:=hF.olen;omega);refine⟨?_,rfl,rfl,Or.inr ⟨rfl,?_⟩⟩
        . exact h.change hn (p.setOut k _) _ M.sunk ⟨hF.glen,by unfold SProc.setOut;simpa using hF.olen,hF.pos0,hF.pos1,hF.ovrd,hF.pos2⟩ (by simp) (fun x hx=>by
           rcases aH6 hx with rfl | hx
           . exact hgd.1
           . exact h.pipe x hx)
        . refine ab9 (n:=n) (p:=p) hn hp h.plen ?_ ?_
          . intro i n2 j hn2 hia hj;rw[xE,qB];intro e;rw[Ba]at e;have Nl:j'<n'.ins.length:=(gSm hj').1;have:=(ae5 hn' hn2 Nl hj e).1;omega
          . rw[H8 (M:=⟨M.ns,M.fs,_,M.ps.set a _,_⟩) hn (ay4 hp),H8 hn hp];have hin:ab8 ⟨M.ns,M.fs,M.pipes.set (E9 M.ns ((a:Int),(k:Int))) (pwrite (M.pipe (E9 M.ns ((a:Int),(k:Int)))) b).1,M.ps.set a (p.setOut k (b.drop (pwrite (M.pipe (E9 M.ns ((a:Int),(k:Int)))) b).2.1)),M.sunk⟩ a n.ins.length=ab8 M a n.ins.length:=by unfold ab8;refine aC2 _ (fun j hj=>?_);unfold SMach.pipe;simp only;rw[xE,qB];intro e;rw[Ba]at e;have Nl:j'<n'.ins.length:=(gSm hj').1;have:=(ae5 hn' hn Nl hj e).1;omega
            rw[hin];refine ci4 (aR9 hb ?_);rw[qy];have:=hgd.2.1;omega
       . rw[qB Br];refine ih (k+1) ?_;rw[<- List.drop_drop,hk];rfl
     exact key p.out 0 rfl
    .
     rw[qB Bt];by_cases hrd:p.rd=true
     . rw[qF hrd];refine⟨?_,rfl,rfl,Or.inr ⟨rfl,?_⟩⟩
       . exact h.change hn ⟨p.got,p.pos,p.out,p.rd,true⟩ _ M.sunk ⟨hF.glen,hF.olen,hF.pos0,hF.pos1,fun _=>hrd,hF.pos2⟩ (aa8 _ _ _ _) (bj9 h.pipe _ _ _)
       . refine ab9 (n:=n) (p:=p) hn hp h.plen ?_ ?_
         . intro i n2 j hn2 hia hj;obtain⟨x,hx⟩:∃x,(H7 M.ns a p.out.length M.pipes)[f9 M.ns i+j]?=some x:=⟨_,gEl (by rw[aa8,h.xlen];exact Z3 hn2 hj)⟩;obtain⟨y,hy,_,h2⟩:=am4 _ _ _ _ _ _ hx;rw[hx,hy,h2];intro k hk e;obtain⟨r',j',n',hn',hj',har,Ba,hql⟩:=h.g.reader (k:=k) hn (by have:=hF.olen;omega);rw[Ba]at e;have Nl:j'<n'.ins.length:=(gSm hj').1;have:=(ae5 hn2 hn' hj Nl e).1;omega
         . rw[H8 (M:=⟨M.ns,M.fs,_,M.ps.set a _,_⟩) hn (ay4 hp),H8 hn hp];refine ca0 ?_;simp[Ez]
     .
      rw[qB hrd];have Dj:p.rd=false:=by simpa using hrd
      by_cases Di:p.got.isEmpty=true
      . rw[qF Di];refine⟨h.change hn (D2 n M.fs p) M.pipes M.sunk (aU8 hch _ hF hF.pos1) rfl h.pipe,rfl,rfl,Or.inr ⟨rfl,?_⟩⟩;refine ab9 (n:=n) (p:=p) hn hp h.plen (fun i n2 j _ _ _=>rfl) ?_;rw[H8 (M:=⟨M.ns,M.fs,_,M.ps.set a _,_⟩) hn (ay4 hp),H8 hn hp];refine ca0 ?_;simp[Dj,D2,Ez]
      .
       rw[qB Di];have hg0:n.ins.length≠0:=by intro e;rw[<- hF.glen]at e;exact Di (xl.2 (qz.1 e))
       have Nn:=hF.pos2 Dj hg0;have Fv:=hF.pos0;have hgl:=hF.glen;unfold Y4;by_cases hc:((M.pipe (f9 M.ns a+p.pos.toNat)).closed && (M.pipe (f9 M.ns a+p.pos.toNat)).b.isEmpty)=true
       . rw[qF hc];by_cases hl:p.pos+1=p.got.length
         . rw[qF hl];refine⟨h.change hn (D2 n M.fs ⟨p.got,p.pos+1,p.out,p.rd,p.ov⟩) M.pipes M.sunk ?_ rfl h.pipe,rfl,rfl,Or.inr ⟨rfl,?_⟩⟩
           . have:=Q5 hch M.fs p.got;have:=hF.olen;refine⟨by unfold D2;simpa using hF.glen,by unfold D2;simp only[xZ];omega,by show 0<=p.pos+1;omega,by show p.pos+1<=_;omega,fun _=>rfl,fun e=>absurd e (by simp[D2])⟩
           . refine ab9 (n:=n) (p:=p) hn hp h.plen (fun i n2 j _ _ _=>rfl) ?_;rw[H8 (M:=⟨M.ns,M.fs,_,M.ps.set a _,_⟩) hn (ay4 hp),H8 hn hp];refine ca0 ?_;simp[Dj,D2,Ez]
         . rw[qB hl];refine⟨h.change hn ⟨p.got,p.pos+1,p.out,p.rd,p.ov⟩ M.pipes M.sunk ⟨hF.glen,hF.olen,by show 0<=p.pos+1;omega,by show p.pos+1<=_;omega,hF.ovrd,fun _ _=>by show p.pos+1<_;omega⟩ rfl h.pipe,rfl,rfl,Or.inr ⟨rfl,?_⟩⟩;refine ab9 (n:=n) (p:=p) hn hp h.plen (fun i n2 j _ _ _=>rfl) ?_;rw[H8 (M:=⟨M.ns,M.fs,_,M.ps.set a _,_⟩) hn (ay4 hp),H8 hn hp];refine ci2 ?_;show n.ins.length-(p.pos+1).toNat<n.ins.length-p.pos.toNat;omega
       .
        rw[qB hc];by_cases he:(M.pipe (f9 M.ns a+p.pos.toNat)).b.isEmpty=true
        . rw[qF he];exact⟨h,rfl,rfl,Or.inl ⟨by simp,rfl⟩⟩
        .
         rw[qB he];obtain⟨m,hm⟩:=qE (p.pos.toNat:Nat);rw[<- hm]at he ⊢;have hml:m<n.ins.length:=qO;obtain⟨x,hx⟩:∃x,M.pipes[f9 M.ns a+m]?=some x:=⟨_,gEl (by rw[h.xlen];exact Z3 hn hml)⟩;have hxp:M.pipe (f9 M.ns a+m)=x:=by unfold SMach.pipe;rw[hx];rfl
         rw[hxp]at he ⊢;have hxg:=Q7 (h.pipe x (mGt hx));have hxb:x.b≠[]:=fun e=>he (xl.2 e);have hsf:x.shut=false:=by
          cases hs:x.shut with
          | false=>rfl
          | true=>exact absurd (qz.1 (hxg.2.2.2 hs)) hxb
         have hg1:pchk ⟨x.b.drop 8,x.room,x.closed,x.shut⟩=0:=by refine Z4 hxg.1 hxg.2.1 ?_ (fun e=>absurd (hsf.symm.trans e) (by simp));show ((x.b.drop 8).length:Int)<=plim x.room;rw[qy];have:=hxg.2.2.1;omega
         have hg2:pchk ⟨[],x.room,x.closed,true⟩=0:=by refine Z4 hxg.1 hxg.2.1 ?_ (fun _=>rfl);show ((0:Nat):Int)<=plim x.room;have:=hxg.2.2.1;omega
         have Az:∀z,pchk z=0->∀y∈M.pipes.set (f9 M.ns a+m) z,pchk y=0:=by
          intro z hz y hy;rcases aH6 hy with rfl | hy
          . exact hz
          . exact h.pipe y hy
         have Hw:∀(z:SPipe)(i:Nat)(n2:SNode)(j:Nat),M.ns[i]?=some n2->i<a->j<n2.ins.length->(M.pipes.set (f9 M.ns a+m) z)[f9 M.ns i+j]?=M.pipes[f9 M.ns i+j]?:=by intro z i n2 j hn2 hia hj;rw[xE,qB];intro e;have:=(ae5 hn hn2 hml hj e).1;omega
         have Ei:∀(z:SPipe)(P:List SProc)(s:qU),z.b.length<x.b.length->ab8 ⟨M.ns,M.fs,M.pipes.set (f9 M.ns a+m) z,P,s⟩ a n.ins.length<ab8 M a n.ins.length:=by
          intro z P s hz;unfold ab8;refine bS4 _ m hml (fun j hj hjm=>?_) ?_
          . unfold SMach.pipe;simp only;rw[xE,qB qO]
          . unfold SMach.pipe;simp only;rw[bD9 hx,hx];exact hz
         have hd8:(x.b.drop 8).length<x.b.length:=by have:=xj.2 hxb;rw[qy];omega
         obtain⟨p1,hp1⟩:=qE (p.setGot (p.at++x.b.take 8));rw[<- hp1];have hF1:ProcF n p1:=by rw[hp1];exact⟨by unfold SProc.setGot;simpa using hF.glen,hF.olen,hF.pos0,hF.pos1,hF.ovrd,hF.pos2⟩
         have Np:p1.rd=false:=by rw[hp1];exact Dj
         have Lc:p1.ov=false:=by rw[hp1];exact Ez
         have Jq:p1.pos=p.pos:=by rw[hp1];rfl
         unfold F3;by_cases h5:n.kind=5
         . rw[qF h5];refine⟨h.change hn (p1.setGot []) _ _ ⟨by unfold SProc.setGot;simpa using hF1.glen,hF1.olen,hF1.pos0,hF1.pos1,hF1.ovrd,hF1.pos2⟩ (by simp[SMach.setX]) (Az _ hg1),rfl,rfl,Or.inr ⟨rfl,?_⟩⟩;refine ab9 (n:=n) (p:=p) hn hp h.plen (Hw _) ?_;rw[H8 (M:=⟨M.ns,M.fs,_,M.ps.set a _,_⟩) hn (ay4 hp),H8 hn hp];rw[show (p1.setGot []).rd=p.rd from Np.trans Dj.symm,show (p1.setGot []).ov=p.ov from Lc.trans Ez.symm,show (p1.setGot []).pos=p.pos from Jq];exact ce5 (Ei _ _ _ hd8)
         . rw[qB h5];split
           . refine⟨h.change hn ((p1.setOut 0 _).setGot _) _ _ ⟨by unfold SProc.setGot SProc.setOut;simpa using hF1.glen,by unfold SProc.setGot SProc.setOut;simpa using hF1.olen,hF1.pos0,hF1.pos1,hF1.ovrd,hF1.pos2⟩ (by simp[SMach.setX]) (Az _ hg1),rfl,rfl,Or.inr ⟨rfl,?_⟩⟩;refine ab9 (n:=n) (p:=p) hn hp h.plen (Hw _) ?_;rw[H8 (M:=⟨M.ns,M.fs,_,M.ps.set a _,_⟩) hn (ay4 hp),H8 hn hp];rw[show ((p1.setOut 0 ((p1.out[0]?).getD []++through n (p1.at.take (j3 p1.at)))).setGot (p1.at.drop (j3 p1.at))).rd=p.rd from Np.trans Dj.symm,show ((p1.setOut 0 ((p1.out[0]?).getD []++through n (p1.at.take (j3 p1.at)))).setGot (p1.at.drop (j3 p1.at))).ov=p.ov from Lc.trans Ez.symm,show ((p1.setOut 0 ((p1.out[0]?).getD []++through n (p1.at.take (j3 p1.at)))).setGot (p1.at.drop (j3 p1.at))).pos=p.pos from Jq];exact ce5 (Ei _ _ _ hd8)
           . split
             . have hpx:(M.setX (f9 M.ns a+m) ⟨x.b.drop 8,x.room,x.closed,x.shut⟩).pipe (f9 M.ns a+m)=⟨x.b.drop 8,x.room,x.closed,x.shut⟩:=by unfold SMach.pipe SMach.setX;simp only;rw[bD9 hx];rfl
               rw[hpx];unfold SMach.setX SMach.setP;rw[show ((M.pipes.set (f9 M.ns a+m) ⟨x.b.drop 8,x.room,x.closed,x.shut⟩).set (f9 M.ns a+m) ⟨[],x.room,x.closed,true⟩)=M.pipes.set (f9 M.ns a+m) ⟨[],x.room,x.closed,true⟩ from List.set_set ..];refine⟨h.change hn (D2 n M.fs p1) _ _ (aU8 hch _ hF1 hF1.pos1) (by simp) (Az _ hg2),rfl,rfl,Or.inr ⟨rfl,?_⟩⟩;refine ab9 (n:=n) (p:=p) hn hp h.plen (Hw _) ?_;rw[H8 (M:=⟨M.ns,M.fs,_,M.ps.set a _,_⟩) hn (ay4 hp),H8 hn hp];refine ca0 ?_;simp[Dj,D2,Lc,Ez]
             . refine⟨h.change hn p1 _ _ hF1 (by simp[SMach.setX]) (Az _ hg1),rfl,rfl,Or.inr ⟨rfl,?_⟩⟩;refine ab9 (n:=n) (p:=p) hn hp h.plen (Hw _) ?_;rw[H8 (M:=⟨M.ns,M.fs,_,M.ps.set a _,_⟩) hn (ay4 hp),H8 hn hp];rw[show p1.rd=p.rd from Np.trans Dj.symm,show p1.ov=p.ov from Lc.trans Ez.symm,show p1.pos=p.pos from Jq];exact ce5 (Ei _ _ _ hd8)
def Reach(ns:List SNode)(fs:List SFile)(room:Int)(M:SMach):Prop:=∃C E,MInv ns fs room M C E
end Go.Gs
namespace Go.Proofs.YtmejdflmcikkdaaGreatDoor
open Go.RowKit Go.Gs Go.Maps Tryz
variable {G:World->qW->Prop}
variable {f g:Int × Int->Int}{D:DataW Unit}{p:Int × Int}{d:RD}{n:SNode}{s:PSlot}{P:Program}{ops:Array Oper}{o:Oper}{a:Act}{rest:List Oper}
theorem bS5(w:World):(zeroValue 3).run prog w=.ok (.int .i64 0) w:=qQ
def J8(w:World)(b n:Nat)(f:Int × Int->Int):Prop:=
 ∃D:DataW Unit,w.ownsMap prog 74 (plainElem prog 3) b n D/\∀p,WfP p->D.atKey (ae4 p) (.lit (.int .i64 0))=.lit (.int .i64 (f p))
theorem J8.keep{w w':World}{b n:Nat}(h:J8 w b n f)(hb:w'.heap[b]?=w.heap[b]?):J8 w' b n f:=by obtain⟨D,⟨es,clock,h1,h2⟩,h3⟩:=h;exact⟨D,⟨es,clock,hb.trans h1,h2⟩,h3⟩
theorem J8.lt{w:World}{b n:Nat}(h:J8 w b n f):b<w.heap.size:=by obtain⟨D,⟨es,clock,h1,h2⟩,h3⟩:=h;exact (aSm h1).1
theorem J8.put{w w':World}{b n:Nat}(h1:w.ownsMap prog 74 (plainElem prog 3) b n D)(h2:∀p,WfP p->D.atKey (ae4 p) (.lit (.int .i64 0))=.lit (.int .i64 (f p)))
 (hp:WfP p) (ho:w'.ownsMap prog 74 (plainElem prog 3) b (n+1) (D.put (ae4 p) (.lit (.int .i64 (g p))))) (hg:∀q,q≠p->g q=f q):J8 w' b (n+1) g:=by
 refine⟨_,ho,fun q hq=>?_⟩;by_cases e:q=p
 . subst e;rw[Go.Maps.atKey_put_same h1.isMap (J5.key (V9 w q hq))]
 . rw[Go.Maps.atKey_put_other (fun h=>e (aB9 w hq hp h)),h2 q hq,hg q e]
theorem aV0(w:World):J8 (w.alloc (.map #[] 0)) w.heap.size 0 (fun _=>0):=
 ⟨.map [],World.ownsMap_made w prog 74 (plainElem prog 3),fun p _=>by simp[DataW.atKey]⟩
theorem J8.look{w:World}{b n:Nat}(h:J8 w b n f)(hp:WfP p):(Instr.lookup 69 (.map (some b)) (ah3 p) false).run prog w=.ok (.int .i64 (f p)) w:=by
 obtain⟨D,Ab,hat⟩:=h;obtain⟨c,Ae,Jo,_⟩:=Ab.lookup_int J5 underlying69 underlying3 (bS5 w) (V9 w p hp);rw[hat p hp]at Jo;have e:f p=c:=by simpa using Jo
 rw[Ae,e]
def aV1(ns:List SNode)(p:Int × Int):Int:=if p∈b8 ns then (E9 ns p:Int) else 0
def firsts(ns:List SNode):List Value:=(List.range ns.length).map (fun i=>.int .i64 (Gs.f9 ns i:Int))
def AuxF(D:Nat)(vI vM:Value)(ns:List SNode)(w:World)(O:qW):Prop:=
 w.ownsRow D 3 1 vI ns.length (firsts ns)/\N8 O vI .aux/\∃b n,vM=.map (some b)/\J8 w b n (aV1 ns)/\O b=some .aux
theorem bE0(D:Nat)(vI vM:Value)(ns:List SNode):al2 (AuxF D vI vM ns):=by intro w w' O O' h hk hO;obtain⟨h1,h2,b,n,h3,h4,h5⟩:=h;exact⟨j5 h1 (fun g hg=>hk g (h2 g hg)),fun g hg=>(hO _ _ (h2 g hg)).trans (h2 g hg),b,n,h3,h4.keep (hk b h5),(hO _ _ h5).trans h5⟩
def RunM(G:World->qW->Prop)(w:World)(D r:Nat)(O:qW)(d:RD):Prop:=RMem w D r O (fun w O=>AuxF D d.vI d.vM d.M.ns w O/\G w O) d
abbrev NoG:World->qW->Prop:=fun _ _=>True
theorem bb4(D:Nat)(vI vM:Value)(ns:List SNode){G:World->qW->Prop}(hG:al2 G):al2 (fun w O=>AuxF D vI vM ns w O/\G w O):=fun w w' O O' h hk hO=>⟨bE0 D vI vM ns w w' O O' h.1 hk hO,hG w w' O O' h.2 hk hO⟩
theorem aw1:al2 NoG:=fun _ _ _ _ _ _ _=>trivial
def o6(G:World->qW->Prop)(w:World)(D r:Nat)(M:SMach):Prop:=∃O d,RunM G w D r O d/\d.M=M
theorem RunM.isMap{w:World}{D r:Nat}{O:qW}(h:RunM G w D r O d):∃b,d.vM=.map (some b):=by obtain⟨⟨_,_,b,n,h3,_⟩,_⟩:=h.part .aux;exact⟨b,h3⟩
theorem RunM.box{w:World}{D r:Nat}{O:qW}(h:RunM G w D r O d):w.heap[r]?=some (.cells #[d.vN,d.vF,d.vX,d.vP,sl d.M.sunk d.sS,d.vI,d.vM] 71 (0,0))/\O r=some .box:=by obtain⟨b,hv⟩:=h.isMap;exact⟨RMem.boxR h hv,RMem.boxO h⟩
theorem RunM.sunkS{w:World}{D r:Nat}{O:qW}(h:RunM G w D r O d):SOf w O .sunk d.sS d.M.sunk:=by
 obtain⟨b,hv⟩:=h.isMap;rcases h.part .sunk with h | ⟨⟨_,h⟩,_⟩
 . exact h
 . rw[hv]at h;cases h
theorem RunM.firstAt{w:World}{D r:Nat}{O:qW}(h:RunM G w D r O d){i:Nat}(hn:d.M.ns[i]?=some n):
 ∃g c,d.vI=.slice (some ⟨g,0,none⟩) d.M.ns.length c/\d.M.ns.length<=c/\c<=9223372036854775807/\w.cell? ⟨g,i,none⟩=some (.int .i64 (Gs.f9 d.M.ns i:Int)):=by have hil:i<d.M.ns.length:=(gSm hn).1;obtain⟨⟨h1,h2,_⟩,_⟩:=h.part .aux;obtain⟨g,c,e,hc,hc2,hg,Ac,hf⟩:=(g8 h1).2 qO;refine⟨g,c,e,hc,hc2,?_⟩;rw[Ac i qO];unfold firsts;rw[qa,xd hil];rfl
theorem RunM.intoAt{w:World}{D r:Nat}{O:qW}(h:RunM G w D r O d):∃b n,d.vM=.map (some b)/\J8 w b n (aV1 d.M.ns):=by obtain⟨⟨_,_,b,n,h3,h4,_⟩,_⟩:=h.part .aux;exact⟨b,n,h3,h4⟩
theorem ca1(w:World):(zeroValue 28).run prog w=.ok (.slice none 0 0) w:=qQ
theorem aV2(n:Nat):L6 (List.replicate n []) (List.replicate n nilS)=List.replicate n (.slice none 0 0):=by unfold L6;rw[List.zipWith_replicate];simp[sl,nilS]
theorem RMem.clearGot{w:World}{D r:Nat}{O:Nat → Option Own}{A:World → (Nat → Option Own) → Prop}(h : RMem w D r O A d){i:Nat}{p:SProc}(hp : d.M.ps[i]?=some p)(hs : d.P[i]?=some s)(ty : TypeId):
    ∃ w' s', (Builtin.clear_ #[62] ty #[s.gv]).run prog w = .ok (.tuple #[]) w' ∧ RMem w' D r O A (d.setProc i ⟨p.got.map (fun _ => []), p.pos, p.out, p.rd, p.ov⟩ s') ∧ s'.gv = s.gv ∧ s'.ov = s.ov ∧ s'.os = s.os ∧ Touch O (.gots i) w w' := by
 obtain ⟨hl1, hl2⟩ := h.slen i p s hp hs;obtain ⟨h1, h2⟩ := h.part (.gots i) p s hp hs;have Dv : p.got.map (fun _ => ([] : qU)) = List.replicate p.got.length [] := by rw [List.map_const']
 have key : ∀ w', Touch O (.gots i) w w' → w'.ownsRow D 28 1 s.gv p.got.length (List.replicate p.got.length (.slice none 0 0)) → RMem w' D r O A (d.setProc i ⟨p.got.map (fun _ => []), p.pos, p.out, p.rd, p.ov⟩ ⟨s.gv, s.ov, List.replicate p.got.length nilS, s.os⟩) := by
  intro w' ht Ab;refine h.upd (o := .gots i) ht (fun _ _ => rfl) (ai9 h ht.size) rfl rfl rfl rfl h.xlen (by simpa [RD.setProc, SMach.setP]using h.plen) (am1 h (by simp) hl2) ?_ ?_
  . intro o' ho' hpt;have hPq : ∀(i' : Nat)(q : SProc), (d.setProc i ⟨p.got.map (fun _ => []), p.pos, p.out, p.rd, p.ov⟩ ⟨s.gv, s.ov, List.replicate p.got.length nilS, s.os⟩).M.ps[i']?=some q → i ≠ i' → d.M.ps[i']?=some q := fun i' q hq e => by have : (d.M.ps.set i ⟨p.got.map (fun _ => []), p.pos, p.out, p.rd, p.ov⟩)[i']?=some q := hq;rwa [D6 e]at this
    have hPt : ∀(i' : Nat)(t : PSlot), (d.setProc i ⟨p.got.map (fun _ => []), p.pos, p.out, p.rd, p.ov⟩ ⟨s.gv, s.ov, List.replicate p.got.length nilS, s.os⟩).P[i']?=some t → i ≠ i' → d.P[i']?=some t := fun i' t ht e => by have : (d.P.set i ⟨s.gv, s.ov, List.replicate p.got.length nilS, s.os⟩)[i']?=some t := ht;rwa [D6 e]at this
    have hPi : ∀ q, (d.setProc i ⟨p.got.map (fun _ => []), p.pos, p.out, p.rd, p.ov⟩ ⟨s.gv, s.ov, List.replicate p.got.length nilS, s.os⟩).M.ps[i]?=some q → ⟨p.got.map (fun _ => []), p.pos, p.out, p.rd, p.ov⟩ = q := fun q hq => by have : (d.M.ps.set i ⟨p.got.map (fun _ => []), p.pos, p.out, p.rd, p.ov⟩)[i]?=some q := hq;rw [j8 hp]at this; injection this
    have hTi : ∀ t, (d.setProc i ⟨p.got.map (fun _ => []), p.pos, p.out, p.rd, p.ov⟩ ⟨s.gv, s.ov, List.replicate p.got.length nilS, s.os⟩).P[i]?=some t → ⟨s.gv, s.ov, List.replicate p.got.length nilS, s.os⟩ = t := fun t ht => by have : (d.P.set i ⟨s.gv, s.ov, List.replicate p.got.length nilS, s.os⟩)[i]?=some t := ht;rw [j8 hs]at this; injection this
    cases o' using Own.elimE with
    | procs =>
     refine ⟨?_, hpt.2⟩;have e1 : l9 (d.setProc i ⟨p.got.map (fun _ => []), p.pos, p.out, p.rd, p.ov⟩ ⟨s.gv, s.ov, List.replicate p.got.length nilS, s.os⟩).M.ps (d.setProc i ⟨p.got.map (fun _ => []), p.pos, p.out, p.rd, p.ov⟩ ⟨s.gv, s.ov, List.replicate p.got.length nilS, s.os⟩).P = l9 d.M.ps d.P := af9 hp hs rfl;have hlen : (d.setProc i ⟨p.got.map (fun _ => []), p.pos, p.out, p.rd, p.ov⟩ ⟨s.gv, s.ov, List.replicate p.got.length nilS, s.os⟩).M.ps.length = d.M.ps.length := by simp [RD.setProc, SMach.setP]
     rw [e1, hlen];exact hpt.1
    | gots i' =>have hne : i ≠ i' := fun e => ho' (by rw [e]);intro q t hq ht;exact hpt q t (hPq i' q hq hne) (hPt i' t ht hne)
    | outs i' =>
     intro q t hq ht;by_cases e : i = i'
     . subst e;obtain rfl := hPi q hq;obtain rfl := hTi t ht;exact hpt p s hp hs
     . exact hpt q t (hPq i' q hq e) (hPt i' t ht e)
    | got i' j' =>
     intro q t b' a' hq ht hb' ha';by_cases e : i = i'
     . subst e;obtain rfl := hPi q hq;obtain rfl := hTi t ht;have e3 : b' = [] := by
        simp only [Dv]at hb';rw [xP]at hb';split at hb'
        . injection hb' with hb'; exact hb'.symm
        . cases hb'
       have e4 : a' = nilS := by
        simp only at ha';rw [xP]at ha';split at ha'
        . injection ha' with ha'; exact ha'.symm
        . cases ha'
       subst e3 e4;exact SOf.nil _ _ _
     . exact hpt q t b' a' (hPq i' q hq e) (hPt i' t ht e) hb' ha'
    | out i' k =>
     intro q t b' a' hq ht hb' ha';by_cases e : i = i'
     . subst e;obtain rfl := hPi q hq;obtain rfl := hTi t ht;exact hpt p s b' a' hp hs hb' ha'
     . exact hpt q t b' a' (hPq i' q hq e) (hPt i' t ht e) hb' ha'
    | box => exact hpt
    | pipes => exact hpt
    | pipe q => exact hpt
    | sunk => exact hpt
    | aux => exact hpt
  . intro q t hq ht;have e1 : (⟨p.got.map (fun _ => []), p.pos, p.out, p.rd, p.ov⟩ : SProc) = q := by have : (d.M.ps.set i ⟨p.got.map (fun _ => []), p.pos, p.out, p.rd, p.ov⟩)[i]?=some q := hq;rw [j8 hp]at this; injection this
    have e2 : (⟨s.gv, s.ov, List.replicate p.got.length nilS, s.os⟩ : PSlot) = t := by have : (d.P.set i ⟨s.gv, s.ov, List.replicate p.got.length nilS, s.os⟩)[i]?=some t := ht;rw [j8 hs]at this; injection this
    subst e1 e2;refine ⟨?_, h2⟩;simp only [Dv, aV2, zz];exact Ab
 by_cases h0 : p.got.length = 0
 . have hg0 : p.got = [] := qz.1 h0
   refine ⟨w, _, ?_, key w (Touch.refl _ _ _) (by rw [h0]; rw [h0]at h1; have e1 : L6 p.got s.gs = [] := by rw [hg0]; rfl
                                                  rw [e1]at h1; exact h1), rfl, rfl, rfl, Touch.refl _ _ _⟩
   obtain ⟨⟨ao, cap, hv, _, _⟩, _⟩ := g8 h1;rw [hv, h0]
   cases ao with
   | none => simp [Builtin.clear_, run_underlying underlying62]
   | some a => simp [Builtin.clear_, run_underlying underlying62]
 . rcases id h1.2 with⟨_, hc⟩|⟨g, cap, cur, hv, hb, hg, hl, hm, hsz, htk⟩
   . exact absurd hc h0
   . have hgo : O g = some (.gots i) := h2 g (by rw [hv]; rfl);obtain ⟨cur', hg', Jn, Jo⟩ := aj0 (List.replicate p.got.length (.slice none 0 0)) 0 w cur hg (by simp; omega);have Ae := Lib.run_clear_slice (P := prog) w 62 28 ty (.slice none 0 0) underlying62 ca1 rfl rfl g 0 p.got.length cap qO (fun j hj => by rw [qk, qY _ _ _ _ _ _ hg, zT qO]; rfl) (fun j hj => xW _ _ _ _ _ hg);have hk := World.keptBut_setCells g (may := fun p => p.block = g) (List.replicate p.got.length (Value.slice none 0 0)) 0 w (fun _ _ => rfl);have hT : Touch O (.gots i) w (w.setCells g 0 (List.replicate p.got.length (.slice none 0 0))) := ⟨World.os_setCells _ _ _ _, ac8 _ _ _ _, World.output_setCells _ _ _ _, hk.size, fun k hk2 hn => World.heap_setCells_other w g _ _ hk2 (fun e => hn (by rw [e]; exact hgo))⟩;refine ⟨_, _, by rw [hv]; exact Ae, key _ hT ⟨by simp, .inr ⟨g, cap, cur', hv, hb, hg', hl, hm, by omega, ?_⟩⟩, rfl, rfl, rfl, hT⟩
     have := aj1 (xs := cur'.toList) (off := 0) (n := p.got.length * 1) (ys := List.replicate p.got.length (.slice none 0 0)) (by simp) (fun j hj => by
       rw [qk, xH, Jo j, qF (by simp; omega), Nat.sub_zero])
     rwa [List.drop_zero]at this
theorem ac9{w:World}{K:Act->World->Prop}{Q:Exit->Act->World->Prop}{E:Prop}
 (hg:o.guard=none) (s x:Operand) (t:TypeId) (hop:o.op=Op.call { callee:=Callee.builtin Builtin.append,args:=#[s,x],argTypes:=#[t,t] }) (v u:Value) (hs:a.eval s=v) (hx:a.eval x=u) {v':Value} {w':World} (Ae:(Builtin.append_ #[t,t] o.type #[v,u]).run P w=.ok v' w') (hK:K (a.put o.dst v') w'):
 if Region.wanted o (yielded ops a.tmps)=true then Oper.wp P o a w K Q else E:=by
 have hw:Region.wanted o (yielded ops a.tmps)=true:=by simp[Region.wanted,hg]
 rw[qF hw];unfold Oper.wp;simp[execOp,hop,resolve,invoke,builtin,hs,hx,Ae,Result.andThen];exact hK
theorem ay5(w:World){Q:Exit->Act->World->Prop}(hgd:o.guard=none)(d:Operand)(t:TypeId)
 (ho:o.op=.call { callee:=.builtin .clear,args:=#[d],argTypes:=#[t] }) (v:Value) (hd:a.eval d=v) {v':Value} {w':World}
 (hr:(Builtin.clear_ #[t] o.type #[v]).run P w=.ok v' w') (h:wpList P ops Q rest (a.put o.dst v') w'):wpList P ops Q (o::rest) a w:=by refine wpList_plain hgd fun K hK'=>?_;unfold Oper.wp;simp[execOp,ho,resolve,invoke,builtin,hd,hr,Result.andThen];exact hK' _ _ h
end Go.Proofs.YtmejdflmcikkdaaGreatDoor
namespace Go.Proofs.YtmejdflmcikkdaaGreatDoor
open Go.RowKit Go.Gs Tryz
variable {ns:List SNode}{k:Nat}{n:SNode}{w:World}{o:Obj}
theorem aK3(ab:Option Addr)(n cap:Nat)(w:World):
 Calls prog 34 #[.slice ab n cap] w fun e w'=>e=.returned (.bool (decide (40000<n)))/\Bq w w':=by
 have hz:decide (40000<(n:Int))=decide (40000<n):=by
  by_cases h:40000<n
  . rw[qV h,qV qO]
  . rw[qG h,qG qO]
 by_cases h:40000<n
 . have h':40000<(n:Int):=qO;rw[qV h];go_enter func34,ntmps34;go_wp2_with fail;go_ret;exact⟨by first|rfl | (simp[h']),Below.refl _ _⟩
 . have h':¬40000<(n:Int):=qO;rw[qG h];go_enter func34,ntmps34;go_wp2_with fail;go_ret;exact⟨by first|rfl | (simp[h']),Below.refl _ _⟩
theorem bS7(ab:Option Addr)(n cap:Nat)(w:World):
 Calls prog 60 #[.slice ab n cap] w fun e w'=>e=.returned (.bool (decide (0<n)))/\Bq w w':=by
 by_cases h:0<n
 . have h':0<(n:Int):=qO;rw[qV h];go_enter func60,ntmps60;go_wp2_with fail;go_ret;exact⟨by first|rfl | (simp[h']),Below.refl _ _⟩
 . have h':¬0<(n:Int):=qO;rw[qG h];go_enter func60,ntmps60;go_wp2_with fail;go_ret;exact⟨by first|rfl | (simp[h']),Below.refl _ _⟩
theorem bH1(F:Nat)(t:Nat->Bool)(hF:∀(ab:Option Addr)(n cap:Nat)(w:World),Calls prog F #[.slice ab n cap] w fun e w'=>e=.returned (.bool (t n))/\Bq w w')
 (hE:∀args w,(callFunc F args).run prog w=.ok (.enter F args) w)
 (al:Option Addr) (cl:Nat) (pss:qL) (w:World) (hl:RList w (.slice al pss.length cl) U pss):
 Calls prog 92 #[.slice al pss.length cl,.func (.func F) #[] #[]] w fun e w'=>∃i:Int,e=.returned (.int .i64 i)/\(pss.any (fun b=>t b.length)=true ↔ 0<=i)/\Bq w w':=by
 have hle:=V8 hl;have HL:=qH hl;have HF:Hid _:=hF;obtain⟨M,hM⟩:=qE pss.length;have HM:=qH hM;rw[<- hM]at HL hle ⊢;clear hl hM hF;go_enter func92,ntmps92;go_wp2_with fail;go_loopw [8] (fun i wr=>∃k:Nat,k<=M/\i=.int .i64 k/\Hid (Bq w wr)/\Hid (∀b∈pss.take k,t b.length=false)) (fun i _=>M-(intOf i).toNat)
 case atStart=>exact⟨0,qM _,rfl,Below.refl _ _,(show ∀b∈pss.take 0,t b.length=false by simp)⟩
 case round=>
  obtain⟨k,hk,rfl,Aa,hno⟩:=hrel;by_cases hlt:k<M
  .
   obtain⟨x,hx⟩:∃x,pss[k]?=some x:=⟨_,gEl (by have:=HM.o;omega)⟩;have HX:=qH hx;obtain⟨b,off,au,cu,rfl,hc0,hr⟩:=(RList.below HL.o Aa.o).at hx;have HC:Hid _:=HF.o au x.length cu wr;obtain⟨d,hdd⟩:=qE (t x.length);have HD2:Hid (d=true->pss.any (fun b=>t b.length)=true):=(show d=true->pss.any (fun b=>t b.length)=true from fun h=>List.any_eq_true.2 ⟨x,mGt hx,hdd.symm.trans h⟩)
   have HD3:Hid (d=false->∀b∈pss.take (k+1),t b.length=false):=(show d=false->∀b∈pss.take (k+1),t b.length=false from fun h b hb=>by
    rw[qZ,hx]at hb
    rcases xY.1 hb with hb | hb
    . exact hno.out b hb
    . simp at hb
      rw[hb]
      exact hdd.symm.trans h)
   rw[<- hdd]at HC;generalize x.length=NX at *;clear hx hr hdd;go_wp2_with fail;refine qD HC.o ?_;rintro e w3⟨rfl,hb3⟩;have HB3:=qT Aa hb3;clear hb3 HC hc0
   cases d with
   | true=>go_wp2_with fail;go_ret;exact⟨_,rfl,⟨fun _=>qO,fun _=>HD2.o trivial⟩,HB3.o⟩
   | false=>
    go_wp2_with fail;go_roundw
    case rel=>exact⟨k+1,qO,by go_num,HB3,HD3.o trivial⟩
    case measure=>simp[intOf];omega
  .
   have HN:=qH (show pss.any (fun b=>t b.length)=false by
    rw[List.any_eq_false]
    intro b hb e
    have h1:=hno.out b (by rw[qP (by have:=HM.o;omega)];exact hb)
    rw[h1]at e
    cases e)
   clear hno;go_wp2_with fail;go_ret;exact⟨_,rfl,⟨fun e=>(by rw[HN.o]at e;cases e),fun e=>absurd e qO⟩,Aa.o⟩
theorem ay7(F:Nat)(t:Nat->Bool)(hF:∀(ab:Option Addr)(n cap:Nat)(w:World),Calls prog F #[.slice ab n cap] w fun e w'=>e=.returned (.bool (t n))/\Bq w w')
 (hE:∀args w,(callFunc F args).run prog w=.ok (.enter F args) w)
 (al:Option Addr) (cl:Nat) (pss:qL) (w:World) (hl:RList w (.slice al pss.length cl) U pss):
 Calls prog 59 #[.slice al pss.length cl,.func (.func F) #[] #[]] w fun e w'=>e=.returned (.bool (pss.any (fun b=>t b.length)))/\Bq w w':=by
 have HI:Hid _:=bH1 F t hF hE al cl pss w hl;generalize pss.any (fun b=>t b.length)=A,pss.length=N at *;clear hF hE hl;go_enter func59,ntmps59;go_wp2_with fail;refine qD HI.o ?_;rintro e w1⟨i,rfl,hi,hb⟩;have HB:=qH hb
 have HI2:=qH (show decide (0<=i)=A by
  by_cases h:0<=i
  . rw[qV h,hi.2 h]
  . rw[qG h]
    cases hA:A with
    | false=>rfl
    | true=>exact absurd (hi.1 hA) h)
 clear hi hb HI;by_cases h:0<=i
 . go_wp2_with fail;go_ret;exact⟨by rw[<- HI2.o];first|rfl | simp[h],HB.o⟩
 . go_wp2_with fail;go_ret;exact⟨by rw[<- HI2.o];first|rfl | simp[h],HB.o⟩
theorem aK4(al:Option Addr)(cl:Nat)(pss:qL)(w:World)(hl:RList w (.slice al pss.length cl) U pss):
 Calls prog 59 #[.slice al pss.length cl,.func (.func 34) #[] #[]] w fun e w'=>e=.returned (.bool (J2 pss))/\Bq w w':=
 ay7 _ (fun n=>decide (40000<n)) aK3 (enters_of func34 qQ rfl) al cl pss w hl
theorem bv8(al:Option Addr)(cl:Nat)(pss:qL)(w:World)(hl:RList w (.slice al pss.length cl) U pss):
 Calls prog 59 #[.slice al pss.length cl,.func (.func 60) #[] #[]] w fun e w'=>e=.returned (.bool (pss.any (fun b=>!b.isEmpty)))/\Bq w w':=by
 have e1:(fun b:qU=>!b.isEmpty)=fun b=>decide (0<b.length):=by
  funext b
  cases b <;> simp
 rw[e1];exact ay7 _ (fun n=>decide (0<n)) bS7 (enters_of func60 qQ rfl) al cl pss w hl
theorem aE3(h:ns[k]?=some n):(b8 (ns.take (k+1))).length=(b8 (ns.take k)).length+n.ins.length:=by rw[qZ,h];simp[b8]
theorem boxE:Bq w (w.alloc o):=(Below.refl _ w).alloc (qA _) o
theorem bH2(an:Option Addr)(cn:Nat)(ns:List SNode)(w:World)(hr:y8 w (.slice an ns.length cn) ns)(hok:∀n∈ns,n.ins.length<=5)(h60:ns.length<=60):
 Calls prog 31 #[.agg #[.slice an ns.length cn]] w fun e w'=>e=.returned (.int .i64 ((b8 ns).length:Int))/\Bq w w':=by
 have HR:=qH hr;have HOK:=qH hok;obtain⟨N,hN⟩:=qE ns.length;have HN:=qH hN
 have HAL:Hid (∀k,(b8 (ns.take k)).length<=5*k):=(show ∀k,(b8 (ns.take k)).length<=5*k by
  intro k
  induction k with
  | zero=>simp[b8]
  | succ k ih=>
   cases hk:ns[k]? with
   | none=>rw[qZ,hk];simp;omega
   | some n=>
    rw[aE3 hk]
    have:=hok n (mGt hk)
    omega)
 rw[<- hN]at h60 HR ⊢;clear hr hok hN;go_enter func31,ntmps31;go_wp2_with fail;go_loopw [3,9] (fun s i wr=>∃k t:Nat,k<=N/\i=.int .i64 k/\s=.int .i64 t/\t<=300/\Hid (t=(b8 (ns.take k)).length)/\Hid (Bq w wr)) (fun s i _=>N-(intOf i).toNat)
 case atStart=>exact⟨0,0,qM _,rfl,rfl,qO,(show _=_ by simp[b8]),boxE⟩
 case round=>
  obtain⟨k,t,hk,rfl,rfl,ht,HT,Aa⟩:=hrel;by_cases hlt:k<N
  . obtain⟨n,hn⟩:∃n,ns[k]?=some n:=⟨_,gEl (by have:=HN.o;omega)⟩;obtain⟨b,off,ai,ci,rfl,hNA,HP⟩:=HR.o.at hn;obtain⟨c0,c1,c2,c3,c4,c5,c6,c7⟩:=hNA.below Aa.o;have h5:n.ins.length<=5:=HOK.o n (mGt hn);have HT2:=qH (show t+n.ins.length=(b8 (ns.take (k+1))).length by rw[aE3 hn,HT.o]);have HT3:=qH (show t+n.ins.length<=300 by rw[HT2.o];have:=HAL.o (k+1);omega);generalize n.ins.length=L,(⟨n.file.toArray⟩:ByteArray)=fx,(⟨n.c.word.toArray⟩:ByteArray)=wx0,n.c.kind=ck,n.c.n=cn',n.how=hw,n.wide=wd,n.kind=nk at *;clear hn hNA HP;go_wp2_with fail;go_roundw
    case rel=>exact⟨k+1,t+L,qO,by go_num,by go_num,HT3.o,HT2,Aa.o.trans (boxE.mono Aa.o.size)⟩
    case measure=>simp[intOf];omega
  . have HE:=qH (show t=(b8 ns).length by rw[HT.o,qP (by have:=HN.o;omega)]);clear HT;go_wp2_with fail;go_ret;exact⟨by rw[<- HE.o];rfl,Aa.o⟩
abbrev P8(f:Nat)(t:TypeId)(k:Nat):Prop:=∀(ao:Option Addr)(N c:Nat)(xs:List Value)(w:World),xs.length=N*k->N<=100000->(ao=none->N=0)->(∀a,ao=some a->∀j u,xs[j]?=some u->w.cell? (a.add j)=some u)->(∀u∈xs,u.oneCell'=true) ->
 Calls prog f #[.slice ao N c] w fun e w'=>∃v',e=.returned v'/\w'.ownsRow w.heap.size t k v' N xs/\Below w.heap.size w w'
theorem ce6{st e:TypeId}(h:prog.underlying st=some (.slice e))(w:World)(a:Option Addr)(n c n' c':Nat):(binOp .eql st (.slice a n c) (.slice none n' c')).run prog w=.ok (.bool a.isNone) w:=Lib.run_eql_slice_nil w _ _ a n c n' c' h
theorem aV6:(prog.info? 57).map (fun i=>(i.zero,i.size,i.bytes))=some (some (.agg #[.int .i64 0,.string ⟨#[]⟩,.int .i64 0,.string ⟨#[]⟩,.int .i64 0,.int .i64 0,.int .i64 0,.slice none 0 0]),8,96):=qQ
theorem aV7:(prog.info? 74).map (fun i=>(i.zero,i.size,i.bytes))=some (some (.agg #[.int .i64 0,.int .i64 0]),2,16):=qQ
theorem aC4:(prog.info? 61).map (fun i=>(i.zero,i.size,i.bytes))=some (some (.agg #[.slice none 0 0,.int .i64 0,.bool false,.bool false]),4,40):=qQ
theorem aC5:(prog.info? 64).map (fun i=>(i.zero,i.size,i.bytes))=some (some (.agg #[.slice none 0 0,.int .i64 0,.slice none 0 0,.bool false,.bool false]),5,64):=qQ
theorem aV8:(prog.info? 59).map (fun i=>(i.zero,i.size,i.bytes))=some (some (.agg #[.string ⟨#[]⟩,.slice none 0 0]),2,40):=qQ
theorem ah6:(prog.info? 28).map (fun i=>(i.zero,i.size,i.bytes))=some (some (.slice none 0 0),1,24):=qQ
theorem U4:P8 67 57 8/\P8 68 74 2/\P8 71 61 4/\P8 72 64 5/\P8 69 59 2/\P8 102 28 1/\P8 70 5 1:=by
 refine⟨?_,?_,?_,?_,?_,?_,?_⟩;obtain⟨i0,hi,hi0,hi1,hi2⟩:=info_parts aV6;have hu:=underlying22;rotate_left
 obtain⟨i0,hi,hi0,hi1,hi2⟩:=info_parts aV7;have hu:=underlying55;rotate_left
 obtain⟨i0,hi,hi0,hi1,hi2⟩:=info_parts aC4;have hu:=underlying26;rotate_left
 obtain⟨i0,hi,hi0,hi1,hi2⟩:=info_parts aC5;have hu:=underlying27;rotate_left
 obtain⟨i0,hi,hi0,hi1,hi2⟩:=info_parts aV8;have hu:=underlying25;rotate_left
 obtain⟨i0,hi,hi0,hi1,hi2⟩:=info_parts ah6;have hu:=underlying62;rotate_left
 obtain⟨i0,hi,hi0,hi1,hi2⟩:=info_parts ag9;have hu:=underlying28;rotate_left
 all_goals
  intro ao N c xs w hl hn h0 hc h1;have hq:=ce6 hu;have HC:Hid _:=hc;have H1:Hid _:=h1;have HL:Hid _:=hl;have H0:Hid _:=h0;clear hc h1 hl h0
  cases ao with
  | none=>
   obtain rfl:=H0.o rfl;have hx:xs=[]:=qn (by have:=HL.o;omega);have HX:=qH hx;first|go_enter func67,ntmps67 | go_enter func68,ntmps68 | go_enter func71,ntmps71 | go_enter func72,ntmps72 | go_enter func69,ntmps69 | go_enter func102,ntmps102 | go_enter func70,ntmps70
   go_wp2_with fail;go_ret;exact⟨_,rfl,by first|exact World.ownsRow_nil _ _ _ _ | (rw[HX.o];exact World.ownsRow_nil _ _ _ _),Below.refl _ _⟩
  | some a=>
   first|go_enter func67,ntmps67 | go_enter func68,ntmps68 | go_enter func71,ntmps71 | go_enter func72,ntmps72 | go_enter func69,ntmps69 | go_enter func102,ntmps102 | go_enter func70,ntmps70
   go_wp2_with (at_builtin;refine xB _ rfl _ _ _ rfl w.heap.size _ i0 _ _ _ hu hi hi0 hi1 hi2 rfl (by decide) _ _ _ rfl (World.ownsRow_made w #[] 0 (qA _) (qM _) rfl) a N c xs rfl HL.o (fun j u hj=>by have h:=HC.o a rfl j u hj;rw[boxE.cell (bLt w _ h)];exact h) H1.o (by unfold maxLen;omega) qO (by first|simp | omega) ?_)
   intro v' w1 Ab hg Dt;have HB:Hid (Bq w w1):=boxE.grown hg (by simp) (fun k hk=>by injection hk with hk;subst hk;exact qA _);have HO:Hid _:=Ab;clear Ab hg Dt;go_wp2;go_ret;exact⟨v',rfl,by unfold World.ownsRow;simpa using HO.o,HB.o⟩
theorem bb7:P8 67 57 8:=U4.1
theorem bb8:P8 68 74 2:=U4.2.1
theorem bb9:P8 71 61 4:=U4.2.2.1
theorem bc4:P8 72 64 5:=U4.2.2.2.1
theorem bc5:P8 69 59 2:=U4.2.2.2.2.1
theorem bc6:P8 102 28 1:=U4.2.2.2.2.2.1
theorem bc7:P8 70 5 1:=U4.2.2.2.2.2.2
end Go.Proofs.YtmejdflmcikkdaaGreatDoor
namespace Go.Gs
open Go.RowKit
variable {n:SNode}{b:qU}{x:SPipe}{a:Nat}{p:SProc}{fs:List SFile}
def F4(p:SProc):Nat:=p.got.flatten.length+p.out.flatten.length+(if p.rd then 0 else 4100)
def ad2(xs:List SPipe):Nat:=(xs.map (fun x=>x.b.length)).sum
def total(M:SMach):Nat:=ad2 M.pipes+(M.ps.map F4).sum+M.sunk.length
theorem an6{α:Type}(f:α->Nat):∀(l:List α)(j:Nat)(x y:α),l[j]?=some x->((l.set j y).map f).sum+f x=(l.map f).sum+f y
 | [],j,x,y,h=>by simp at h
 | a::l,0,x,y,h=>by simp at h;subst h;simp only[List.set,xy,List.sum_cons];omega
 | a::l,j+1,x,y,h=>by have:=an6 f l j x y (by simpa using h);simp only[List.set,xy,List.sum_cons];omega
theorem aL3{α:Type}(f:α->Nat):∀(l:List α)(x:α),x∈l->f x<=(l.map f).sum
 | [],x,h=>by simp at h
 | a::l,x,h=>by
  rw[xy,List.sum_cons];rcases zD.1 h with rfl | h
  . omega
  . have:=aL3 f l x h;omega
theorem bd4{α:Type}(f:α->Nat)(c:Nat):∀(l:List α),(∀x∈l,f x<=c)->(l.map f).sum<=l.length*c
 | [],_=>by simp
 | a::l,h=>by have h1:=bd4 f c l (fun x hx=>h x (by simp[hx]));have h2:=h a (by simp);rw[xy,List.sum_cons,ql,Nat.add_mul];omega
theorem ac4:∀(l:qL)(j:Nat)(b0 b:qU),l[j]?=some b0->(l.set j b).flatten.length+b0.length=l.flatten.length+b.length
 | [],j,b0,b,h=>by simp at h
 | a::l,0,b0,b,h=>by simp at h;subst h;simp[List.set,xC,qI];omega
 | a::l,j+1,b0,b,h=>by have:=ac4 l j b0 b (by simpa using h);simp only[List.set,xC,qI];omega
theorem aL4(c:Nat):∀(l:qL),(∀b∈l,b.length<=c)->l.flatten.length<=l.length*c
 | [],_=>by simp
 | a::l,h=>by have h1:=aL4 c l (fun x hx=>h x (by simp[hx]));have h2:=h a (by simp);rw[xC,qI,ql,Nat.add_mul];omega
theorem aE7:∀(l:qL),(l.map (fun _=>([]:qU))).flatten.length=0
 | []=>rfl
 | a::l=>by simpa using aE7 l
theorem aW3:∀(a b:qL),(List.zipWith (· ++ ·) a b).flatten.length<=a.flatten.length+b.flatten.length
 | [],b=>by simp
 | x::a,[]=>by simp
 | x::a,y::b=>by have:=aW3 a b;simp only[List.zipWith_cons_cons,xC,qI];omega
theorem an7(ns:List SNode)(i:Nat)(xs:List SPipe):∀K,(H7 ns i K xs).map (fun x=>x.b.length)=xs.map (fun x=>x.b.length)
 | 0=>rfl
 | K+1=>by
  rw[<- an7 ns i xs K];show ((H7 ns i K xs).modify (E9 ns ((i:Int),(K:Int))) Z1).map _=_;apply xq;intro j;rw[qa,qa,List.getElem?_modify]
  cases (H7 ns i K xs)[j]? with
  | none=>rfl
  | some x=>
   by_cases e:E9 ns ((i:Int),(K:Int))=j
   . simp[e,Z1]
   . simp[e]
theorem bw8(c:Cmd)(h:Q3 c.kind=true)(ls:qL):(ended (made c ls)).length<=(ended ls).length:=by
 have hk:1<=c.kind/\c.kind<=5:=by unfold Q3 at h;exact qp h
 have:c.kind=1\/c.kind=2\/c.kind=3\/c.kind=4\/c.kind=5:=qO;rcases this with e | e | e | e | e
 . rw[made1 c e];exact K8 (List.filter_sublist (p:=fun s=>Lib.contains s c.word) (l:=ls))
 . rw[made2 c e];exact K8 (List.filter_sublist (p:=fun s=>!Lib.contains s c.word) (l:=ls))
 . rw[made3 c e];have:=O8 (P2 (c.word.getD 0 0) (c.word.getD 1 0)) (fun s=>by simp[P2]) ls;omega
 . rw[bD7 c e];have:=O8 (H6 c.n) (aD9 c.n) ls;omega
 . rw[bD8 c e];have:=O8 List.reverse (fun s=>by simp) ls;omega
theorem aE8(h:passes n=true)(hb:Whol b):(through n b).length<=b.length:=by
 unfold through;rcases ae6 h with⟨h4,_⟩|⟨h3,h5⟩
 . rw[qF h4];exact qA _
 . rw[qB qO];have:=bw8 n.c h5 (lines b);have e:ended (lines b)=b:=hb;rw[e]at this;exact this
theorem bm1(h:pchk x=0)(hn:0<(pwrite x b).2.1):(pwrite x b).1.b.length+(b.drop (pwrite x b).2.1).length<=x.b.length+b.length:=by
 cases hc:x.closed with
 | true=>
  have:pwrite x b=(Y3,0,7):=by unfold pwrite;rw[qB (by simp[h]),qF hc]
  rw[this]at hn;exact absurd hn (by simp)
 | false=>
  cases hs:x.shut with
  | true=>rw[aK0 h hc hs];simp
  | false=>rw[aK1 h hc hs];have h4:pfit b.length x.b.length x.room<=b.length:=ba2;simp only[qI,qX,qy];omega
theorem K5{M:SMach}(hp:M.ps[a]?=some p)(p':SProc)(X:List SPipe)(s:qU)(h:ad2 X+F4 p'+s.length<=ad2 M.pipes+F4 p+M.sunk.length):total ⟨M.ns,M.fs,X,M.ps.set a p',s⟩<=total M:=by have:=an6 F4 M.ps a p p' hp;unfold total;simp only;omega
theorem an8(hc:q9 n=0)(hf:∀f∈fs,f.b.length<=4000)(hg:p.got.length=n.ins.length)(hl:p.got.flatten.length<=225000000)(hr:p.rd=false):F4 (D2 n fs p)<=F4 p:=by have h1:=aj2 hc fs hf p.got hg hl;have h2:=aW3 p.out (j6 n fs p.got);have h3:=aE7 p.got;unfold F4 D2;simp only[hr,if_true];rw[h3];simp only[zy,if_false];omega
theorem bT8{M:SMach}(h:Shape M)(ht:total M<=225000000)(a:Nat):total (E3 M a).1<=total M:=by
 unfold E3
 cases hn:M.ns[a]? with
 | none=>exact qA _
 | some n=>
  cases hp:M.ps[a]? with
  | none=>exact qA _
  | some p=>
   simp only;have hF:=h.proc a n p hn hp;have hch:=h.g.node n (mGt hn);have hfs:∀f∈M.fs,f.b.length<=4000:=fun f hf=>(U2 (S7 h.fok).2 f hf).2;have hbp:=aL3 F4 M.ps p (mGt hp);have hgl:p.got.flatten.length<=225000000:=by
    have:p.got.flatten.length<=F4 p:=by unfold F4;omega
    unfold total at ht;omega
   unfold Y5;by_cases hov:p.ov=true
   . rw[qF hov];exact qA _
   .
    rw[qB hov];by_cases Bt:p.out.any (fun b=>!b.isEmpty)=true
    .
     rw[qF Bt];have key:∀(r:qL)(k:Nat),p.out.drop k=r->total (E2 M a p k r).1<=total M:=by
      intro r
      induction r with
      | nil=>intro k _;exact qA _
      | cons b r ih=>
       intro k hk;have hb:p.out[k]?=some b:=by
        have:(p.out.drop k)[0]?=some b:=by rw[hk];rfl
        rw[xu]at this;exact this
       unfold E2;by_cases Br:0<(pwrite (M.pipe (E9 M.ns ((a:Int),(k:Int)))) b).2.1
       . rw[qF Br];unfold SMach.setX SMach.setP;have hkl:k<p.out.length:=(gSm hb).1;obtain⟨r',j',n',hn',hj',har,Ba,hql⟩:=h.g.reader (k:=k) hn (by have:=hF.olen;omega);obtain⟨x,hx⟩:∃x,M.pipes[E9 M.ns ((a:Int),(k:Int))]?=some x:=⟨_,gEl (by rw[h.xlen,Ba];exact hql)⟩;have hxp:M.pipe (E9 M.ns ((a:Int),(k:Int)))=x:=by unfold SMach.pipe;rw[hx];rfl
         rw[hxp]at Br ⊢;refine K5 hp _ _ _ ?_;have h1:=bm1 (h.pipe x (mGt hx)) Br;have h2:=an6 (fun x:SPipe=>x.b.length) M.pipes _ x (pwrite x b).1 hx;have h3:=ac4 p.out k b (b.drop (pwrite x b).2.1) hb;unfold ad2 F4 SProc.setOut;try dsimp only
         try dsimp only at h2
         omega
       . rw[qB Br];refine ih (k+1) ?_;rw[<- List.drop_drop,hk];rfl
     exact key p.out 0 rfl
    .
     rw[qB Bt];by_cases hrd:p.rd=true
     . rw[qF hrd];unfold endS;refine K5 hp _ _ _ ?_;unfold ad2;rw[an7];exact qA _
     .
      rw[qB hrd];have Dj:p.rd=false:=by simpa using hrd
      by_cases Di:p.got.isEmpty=true
      . rw[qF Di];unfold SMach.setP;refine K5 hp _ _ _ ?_;have:=an8 hch hfs hF.glen hgl Dj;omega
      .
       rw[qB Di];have hg0:n.ins.length≠0:=by intro e;rw[<- hF.glen]at e;exact Di (xl.2 (qz.1 e))
       have Nn:=hF.pos2 Dj hg0;have Fv:=hF.pos0;have hgln:=hF.glen;unfold Y4;by_cases hc:((M.pipe (f9 M.ns a+p.pos.toNat)).closed && (M.pipe (f9 M.ns a+p.pos.toNat)).b.isEmpty)=true
       . rw[qF hc];by_cases hl:p.pos+1=p.got.length
         . rw[qF hl];unfold SMach.setP;refine K5 hp _ _ _ ?_;have:=an8 (p:=⟨p.got,p.pos+1,p.out,p.rd,p.ov⟩) hch hfs hF.glen hgl Dj;have e:F4 ⟨p.got,p.pos+1,p.out,p.rd,p.ov⟩=F4 p:=rfl;omega
         . rw[qB hl];unfold SMach.setP;exact K5 hp _ _ _ (qA _)
       .
        rw[qB hc];by_cases he:(M.pipe (f9 M.ns a+p.pos.toNat)).b.isEmpty=true
        . rw[qF he];exact qA _
        .
         rw[qB he];obtain⟨m,hm⟩:=qE (p.pos.toNat:Nat);have hml:m<n.ins.length:=qO;rw[<- hm]at he ⊢;obtain⟨x,hx⟩:∃x,M.pipes[f9 M.ns a+m]?=some x:=⟨_,gEl (by rw[h.xlen];exact Z3 hn hml)⟩;have hxp:M.pipe (f9 M.ns a+m)=x:=by unfold SMach.pipe;rw[hx];rfl
         rw[hxp];obtain⟨b0,hb0⟩:∃b0,p.got[m]?=some b0:=⟨_,gEl qO⟩;have hat:p.at=b0:=by unfold SProc.at;rw[<- hm,hb0];rfl
         rw[hat];obtain⟨x',hx'⟩:=qE ((⟨x.b.drop 8,x.room,x.closed,x.shut⟩:SPipe));obtain⟨B,hB⟩:=qE (b0++x.b.take 8);obtain⟨p',hp'⟩:=qE (p.setGot B);obtain⟨q,hq⟩:=qE (f9 M.ns a+m);rw[<- hx',<- hB,<- hp',<- hq];rw[<- hq]at hx;have s1:=an6 (fun x:SPipe=>x.b.length) M.pipes q x x' hx;have s2:=ac4 p.got m b0 B hb0;have e1:x'.b.length+(x.b.take 8).length=x.b.length:=by rw[hx'];simp only[qy,qX];omega
         have e2:B.length=b0.length+(x.b.take 8).length:=by rw[hB,qI]
         have e3:p'.got=p.got.set m B:=by rw[hp'];unfold SProc.setGot;rw[<- hm]
         have e4:p'.got[m]?=some B:=by rw[e3];rw[xE,qF rfl,qF qO]
         have e5:p'.pos=p.pos/\p'.out=p.out/\p'.rd=p.rd/\p'.ov=p.ov:=by rw[hp'];exact⟨rfl,rfl,rfl,rfl⟩
         have e6:p'.at=B:=by unfold SProc.at;rw[e5.1,<- hm,e4];rfl
         have e7:ad2 (M.pipes.set q x')+F4 p'=ad2 M.pipes+F4 p:=by
          unfold ad2 F4;rw[e3,e5.2.1,e5.2.2.1];try dsimp only at s1
          omega
         have hqx:(M.pipes.set q x')[q]?=some x':=by rw[xE,qF rfl,qF (gSm hx).1]
         unfold F3 SMach.setX SMach.setP;by_cases h5:n.kind=5
         . rw[qF h5];refine K5 hp _ _ _ ?_;rw[e6,qI];have s3:=ac4 p'.got m B [] e4;have e8:F4 (p'.setGot [])+B.length=F4 p':=by
            unfold F4 SProc.setGot;rw[e5.1,<- hm];simp only[xI]at s3;try dsimp only
            omega
           try dsimp only
           omega
         .
          rw[qB h5];by_cases hps:(passes n && p'.at.contains 10)=true
          . rw[qF hps];refine K5 hp _ _ _ ?_;rw[zX]at hps;have hol:=am5 hps.1;have Gx:p.out.length=1:=by have:=hF.olen;omega
            obtain⟨ob,hob⟩:∃b,p'.out[0]?=some b:=⟨_,gEl (by rw[e5.2.1];omega)⟩;rw[hob,e6];have t1:=aE8 hps.1 (aJ9 B);have t2:=ac4 p'.out 0 ob (ob++through n (B.take (j3 B))) hob;have t3:=ac4 p'.got m B (B.drop (j3 B)) e4;rw[qI]at t2;rw[qX]at t1;rw[qy]at t3;have e8:F4 ((p'.setOut 0 ((some ob).getD []++through n (B.take (j3 B)))).setGot (B.drop (j3 B)))<=F4 p':=by unfold F4 SProc.setGot SProc.setOut;rw[e5.1,<- hm];simp only[zE];omega
            try dsimp only
            omega
          . rw[qB hps];by_cases h9:n.kind=3/\n.c.kind=9/\n.c.n<=(p'.at.count 10:Int)
            . rw[qF h9];refine K5 hp _ _ _ ?_;have s4:=an6 (fun x:SPipe=>x.b.length) (M.pipes.set q x') q x' ⟨[],((⟨M.ns,M.fs,M.pipes.set q x',M.ps,M.sunk⟩:SMach).pipe q).room,((⟨M.ns,M.fs,M.pipes.set q x',M.ps,M.sunk⟩:SMach).pipe q).closed,true⟩ hqx;have hgl2:p'.got.flatten.length<=225000000:=by
               have k1:p'.got.flatten.length<=F4 p':=by unfold F4;omega
               have k2:ad2 M.pipes+(M.ps.map F4).sum<=total M:=by unfold total;omega
               omega
              have s5:=an8 (p:=p') hch hfs (by rw[e3,List.length_set];exact hF.glen) hgl2 (by rw[e5.2.2.1];exact Dj);unfold ad2 at e7 ⊢;simp only[xI]at s4;try dsimp only
              try dsimp only at s4 e7
              omega
            . rw[qB h9];refine K5 hp _ _ _ ?_;try dsimp only
              omega
end Go.Gs
