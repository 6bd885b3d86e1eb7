/- What holds of a machine is kept by writing and by ending, and more. -/
import Derived.Test.YtllgglolcgdehaaGreatDoorXa01
namespace Go.Gs
open Go.RowKit
set_option linter.unusedVariables false
theorem inv_outs {ns:List SNode} {fs:List SFile} {room:Int} {M:SMach} {C:Nat->List UInt8} {E:Nat->Nat->List UInt8} (g:RightG ns) (h:MInv ns fs room M C E) {a:Nat} {n:SNode} {p:SProc} (hn:ns[a]? = some n) (hp:M.ps[a]? = some p)
 (p':SProc) (X:List SPipe) (hX:X.length=M.pipes.length) (hrd:p'.rd=p.rd)
 (hpr:ProcOk n (nodeMade n fs (n.ins.map (portAt (outsL fs [] ns)))) (n.ins.map (portAt (outsL fs [] ns))) (fun j=>C (firstIn ns a+j)) (E a) p' M.sunk)
 (hoth:∀q,(∀k:Nat,(k:Int)<nouts n->q≠intoOf ns ((a:Int),(k:Int)))->X[q]? = M.pipes[q]?)
 (hown:∀(k:Nat) (x y:SPipe),(k:Int)<nouts n->M.pipes[intoOf ns ((a:Int),(k:Int))]? = some y->X[intoOf ns ((a:Int),(k:Int))]? = some x ->
  x.room=y.room /\ ∀d c rdr,PipeOk d (E a k) c y (p.out[k]?.getD []) p.ov rdr->PipeOk d (E a k) c x (p'.out[k]?.getD []) p'.ov rdr) :
 MInv ns fs room ⟨M.ns,M.fs,X,M.ps.set a p',M.sunk⟩ C E:=by
 refine⟨h.ens,h.efs,by simpa using h.plen,hX.trans h.xlen,?_,?_⟩
 .
  intro i n' q hn' hq
  rcases set_at hq with ⟨rfl,rfl⟩ | ⟨hi,hq⟩
  . rw[hn] at hn'
    injection hn' with hn'
    subst hn'
    exact hpr
  . exact h.proc i n' q hn' hq
 .
  intro r n' j i k pr pw x hn' hj hr hi hx
  have hjl:j<n'.ins.length:=(gSm hj).1
  obtain⟨i2,k2,m,e,hir,hm,hk⟩:=g.src hn' hj
  simp only[Prod.mk.injEq,Int.natCast_inj] at e
  obtain⟨rfl,rfl⟩:=e
  have hinto:=g.into hn' hj
  obtain⟨pr0,hr0,erd⟩:∃pr0,M.ps[r]? = some pr0/\pr.rd=pr0.rd:=by
   rcases set_at hr with ⟨rfl,rfl⟩ | ⟨_,hr⟩
   . exact⟨p,hp,hrd⟩
   . exact⟨pr,hr,rfl⟩
  obtain⟨y,hy⟩:∃y,M.pipes[firstIn ns r+j]? = some y:=by
   refine⟨_,gEl ?_⟩
   rw[h.xlen];exact allIns_len hn' hjl
  rw[erd]
  rcases set_at hi with ⟨rfl,rfl⟩ | ⟨hia,hi2⟩
  .
   rw[hn] at hm
   injection hm with hm
   subst hm
   obtain⟨q1,q2⟩:=h.pipe r n' j i k pr0 p y hn' hj hr0 hp hy
   obtain⟨o1,o2⟩:=hown k x y hk (by rw[hinto];exact hy) (by rw[hinto];exact hx)
   exact⟨o1.trans q1,o2 _ _ _ q2⟩
  .
   have ho:=hoth (firstIn ns r+j) (fun k' hk' e=>by
    obtain⟨r',j',n'',hn'',hj',_,e2,_⟩:=g.reader hn hk'
    have hjl':j'<n''.ins.length:=(gSm hj').1
    obtain⟨rfl,rfl⟩:=firstIn_inj hn' hn'' hjl hjl' (e.trans e2)
    rw[hn'] at hn''
    injection hn'' with hn''
    subst hn''
    rw[hj] at hj'
    simp only[Option.some.injEq,Prod.mk.injEq,Int.natCast_inj] at hj'
    exact hia hj'.1)
   rw[show (⟨M.ns,M.fs,X,M.ps.set a p',M.sunk⟩:SMach).pipes=X from rfl,ho] at hx
   exact h.pipe r n' j i k pr0 pw x hn' hj hr0 hi2 hx
theorem pwrite_ok0 {x:SPipe} {b:List UInt8} (h:pchk x=0) (hc:x.closed=false) (hs:x.shut=true):pwrite x b=(⟨[],x.room,x.closed,x.shut⟩,b.length,0):=by
 unfold pwrite;rw[if_neg (by simp[h]),if_neg (by simp[hc]),if_pos hs]
theorem pwrite_ok1 {x:SPipe} {b:List UInt8} (h:pchk x=0) (hc:x.closed=false) (hs:x.shut=false):pwrite x b=(⟨x.b++b.take (pfit b.length x.b.length x.room),x.room,x.closed,x.shut⟩,pfit b.length x.b.length x.room,0):=by
 unfold pwrite;rw[if_neg (by simp[h]),if_neg (by simp[hc]),if_neg (by simp[hs])]
theorem pchk_parts {x:SPipe} (h:pchk x=0):0<=x.room/\x.room<=1000/\(x.b.length:Int)<=plim x.room/\(x.shut=true->x.b.length=0):=pck_ok h
theorem pchk_intro {x:SPipe} (h0:0<=x.room) (h1:x.room<=1000) (h2:(x.b.length:Int)<=plim x.room) (h3:x.shut=true->x.b.length=0):pchk x=0:=by
 unfold pchk pck
 rw[if_neg (by omega),if_neg (by omega),if_neg]
 rintro ⟨h4,h5⟩
 have:=h3 h4
 omega
theorem WaitOk.congr {n:SNode} {ins:List (List UInt8)} {c e:Nat->List UInt8} {p p':SProc} {m:Nat} (h:WaitOk n ins c e p m) (h1:p'.got=p.got) (h2:p'.pos=p.pos):WaitOk n ins c e p' m:=by
 obtain⟨a1,a2,a3,a4,a5,a6,a7⟩:=h
 refine⟨by rw[h2];exact a1,a2,a3,a4,?_,?_,?_⟩
 . rw[h1];exact a5
 . rw[h1];exact a6
 . rw[h1];exact a7
theorem getD_set {l:List (List UInt8)} {k j:Nat} {b:List UInt8} (hk:k<l.length):((l.set k b)[j]?.getD [])=if j=k then b else l[j]?.getD []:=by
 rw[List.getElem?_set]
 by_cases e:k=j
 . subst e;simp[hk]
 . rw[if_neg e,if_neg (fun q=>e q.symm)]
theorem inv_write {ns:List SNode} {fs:List SFile} {room:Int} {M:SMach} {C:Nat->List UInt8} {E:Nat->Nat->List UInt8} (g:RightG ns) (h:MInv ns fs room M C E) {a:Nat} {n:SNode} {p:SProc} (hn:ns[a]? = some n) (hp:M.ps[a]? = some p) (hov:p.ov=false)
 {k:Nat} {b:List UInt8} (hb:p.out[k]? = some b) :
 MInv ns fs room ((M.setX (intoOf M.ns ((a:Int),(k:Int))) (pwrite (M.pipe (intoOf M.ns ((a:Int),(k:Int)))) b).1).setP a (p.setOut k (b.drop (pwrite (M.pipe (intoOf M.ns ((a:Int),(k:Int)))) b).2.1))) C E:=by
 have hpr:=h.proc a n p hn hp
 have hkl:k<p.out.length:=(gSm hb).1
 have hch:=g.node n (mGt hn)
 have hk:(k:Int)<nouts n:=by
  have:=nodeMade_count hch fs (n.ins.map (portAt (outsL fs [] ns)))
  have:=hpr.olen
  omega
 obtain⟨r,j,n',hn',hj,har,hinto,hql⟩:=g.reader hn hk
 obtain⟨x,hx⟩:∃x,M.pipes[firstIn ns r+j]? = some x:=⟨_,gEl (by rw[h.xlen];exact hql)⟩
 obtain⟨pr,hr⟩:∃pr,M.ps[r]? = some pr:=⟨_,gEl (by rw[h.plen];exact (gSm hn').1)⟩
 obtain⟨q1,q2⟩:=h.pipe r n' j a k pr p x hn' hj hr hp hx
 rw[h.ens,hinto]
 have hxp:M.pipe (firstIn ns r+j)=x:=by unfold SMach.pipe;rw[hx];rfl
 rw[hxp]
 have hcl:x.closed=false:=q2.closed.trans hov
 unfold SMach.setX SMach.setP
 have hbd:p.out[k]?.getD []=b:=by rw[hb];rfl
 refine inv_outs g h hn hp (p.setOut k _) _ (by simp) rfl ?_ ?_ ?_
 .
  refine⟨hpr.glen,by unfold SProc.setOut;simpa using hpr.olen,hpr.rng,fun h1=>?_,fun h1=>?_,hpr.pre,hpr.cpre,hpr.rde,hpr.small,?_,hpr.snk,hpr.snk2,fun h1=>?_⟩
  . exact absurd (hov.symm.trans h1) (by simp)
  . exact absurd (hov.symm.trans h1) (by simp)
  .
   intro k' d hd
   unfold SProc.setOut
   rw[getD_set hkl]
   have:=hpr.osmall k' d hd
   split
   . rename_i e
     subst e
     rw[hbd] at this
     rw[List.length_drop]
     omega
   . exact this
  . obtain⟨m,hw⟩:=hpr.wait h1
    exact⟨m,hw.congr rfl rfl⟩
 . intro q hq
   rw[List.getElem?_set,if_neg]
   intro e
   exact hq k hk (e.symm.trans hinto.symm)
 .
  intro k' x' y hk' hy hx'
  by_cases e:k'=k
  .
   subst e
   rw[hinto] at hy hx'
   rw[hx] at hy
   injection hy with hy
   subst hy
   rcases set_at hx' with ⟨_,rfl⟩ | ⟨hc,_⟩
   .
    have hgood:=pchk_parts q2.good
    by_cases hsh:x.shut=true
    .
     rw[pwrite_ok0 q2.good hcl hsh]
     refine⟨rfl,fun d c rdr ho=>⟨?_,ho.closed,ho.shut,fun h2=>?_,fun h2=>?_⟩⟩
     . refine pchk_intro hgood.1 hgood.2.1 ?_ (fun _=>rfl)
       show ((0:Nat):Int)<=plim x.room
       have:=hgood.2.2.1
       omega
     . exact absurd (hsh.symm.trans h2) (by simp)
     . exact absurd (hsh.symm.trans h2) (by simp)
    .
     have hsh':x.shut=false:=by simpa using hsh
     rw[pwrite_ok1 q2.good hcl hsh']
     refine⟨rfl,fun d c rdr ho=>⟨?_,ho.closed,ho.shut,fun h2=>?_,ho.all⟩⟩
     . refine pchk_intro hgood.1 hgood.2.1 ?_ (fun h2=>absurd (hsh'.symm.trans h2) (by simp))
       have h3:=pfit_sum (m:=b.length) hgood.2.1 hgood.2.2.1
       have h4:pfit b.length x.b.length x.room<=b.length:=pfit_le
       show ((x.b++b.take (pfit b.length x.b.length x.room)).length:Int)<=plim x.room
       rw[List.length_append,List.length_take,Nat.min_eq_left h4]
       exact h3.2
     . have h3:=ho.flow hsh'
       rw[hbd] at h3
       rw[h3]
       unfold SProc.setOut
       rw[getD_set hkl,if_pos rfl]
       simp
   . exact absurd rfl hc
  .
   have hne:intoOf ns ((a:Int),(k':Int))≠firstIn ns r+j:=by
    intro e2
    obtain⟨r',j',n'',hn'',hj',_,e3,_⟩:=g.reader hn hk'
    have hjl:j<n'.ins.length:=(gSm hj).1
    have hjl':j'<n''.ins.length:=(gSm hj').1
    obtain⟨rfl,rfl⟩:=firstIn_inj hn' hn'' hjl hjl' (e2.symm.trans e3)
    rw[hn'] at hn''
    injection hn'' with hn''
    subst hn''
    rw[hj] at hj'
    simp only[Option.some.injEq,Prod.mk.injEq,Int.natCast_inj] at hj'
    exact e hj'.2.symm
   rcases set_at hx' with ⟨hc,_⟩ | ⟨_,hx2⟩
   . exact absurd hc hne
   .
    rw[hy] at hx2
    injection hx2 with hx2
    subst hx2
    refine⟨rfl,fun d c rdr ho=>?_⟩
    unfold SProc.setOut
    rw[getD_set hkl,if_neg e]
    exact ho
theorem closeTo_len (ns:List SNode) (i:Nat) (xs:List SPipe):∀K,(closeTo ns i K xs).length=xs.length
 | 0=>rfl
 | K+1=>by rw[closeTo,List.length_modify,closeTo_len ns i xs K]
theorem closeTo_get (ns:List SNode) (i:Nat) (xs:List SPipe):∀(K q:Nat) (x:SPipe),(closeTo ns i K xs)[q]? = some x ->
 ∃y,xs[q]? = some y/\((∃k:Nat,k<K/\q=intoOf ns ((i:Int),(k:Int)))->x=closeP y)/\((∀k:Nat,k<K->q≠intoOf ns ((i:Int),(k:Int)))->x=y)
 | 0,q,x,h=>⟨x,h,fun ⟨k,hk,_⟩=>absurd hk (by omega),fun _=>rfl⟩
 | K+1,q,x,h=>by
  rw[closeTo,List.getElem?_modify] at h
  cases hz:(closeTo ns i K xs)[q]? with
  | none=>rw[hz] at h;cases h
  | some z=>
   rw[hz] at h
   obtain⟨y,hy,h1,h2⟩:=closeTo_get ns i xs K q z hz
   have h':(if intoOf ns ((i:Int),(K:Int))=q then closeP z else z)=x:=by
    injection h
   by_cases e:intoOf ns ((i:Int),(K:Int))=q
   . rw[if_pos e] at h'
     refine⟨y,hy,fun _=>?_,fun hc=>absurd e.symm (hc K (by omega))⟩
     rw[<- h']
     by_cases hq:∃k:Nat,k<K/\q=intoOf ns ((i:Int),(k:Int))
     . rw[h1 hq];rfl
     . rw[h2 (fun k hk he=>hq ⟨k,hk,he⟩)]
   .
    rw[if_neg e] at h'
    subst h'
    refine⟨y,hy,?_,?_⟩
    . rintro ⟨k,hk,he⟩
      by_cases hkK:k=K
      . subst hkK;exact absurd he.symm e
      . exact h1 ⟨k,by omega,he⟩
    . intro hc
      exact h2 (fun k hk=>hc k (by omega))
theorem inv_end {ns:List SNode} {fs:List SFile} {room:Int} {M:SMach} {C:Nat->List UInt8} {E:Nat->Nat->List UInt8} (g:RightG ns) (h:MInv ns fs room M C E) {a:Nat} {n:SNode} {p:SProc} (hn:ns[a]? = some n) (hp:M.ps[a]? = some p) (hov:p.ov=false) (hrd:p.rd=true)
 (hout:∀b∈p.out,b=[]):MInv ns fs room (endS M a p) C E:=by
 have hpr:=h.proc a n p hn hp
 have hch:=g.node n (mGt hn)
 have hcnt:=nodeMade_count hch fs (n.ins.map (portAt (outsL fs [] ns)))
 have hol:=hpr.olen
 unfold endS
 rw[h.ens]
 have hens:(⟨ns,M.fs,closeTo ns a p.out.length M.pipes,M.ps.set a ⟨p.got,p.pos,p.out,p.rd,true⟩,M.sunk⟩:SMach)=⟨M.ns,M.fs,closeTo ns a p.out.length M.pipes,M.ps.set a ⟨p.got,p.pos,p.out,p.rd,true⟩,M.sunk⟩:=by rw[h.ens]
 rw[hens]
 refine inv_outs g h hn hp ⟨p.got,p.pos,p.out,p.rd,true⟩ _ (closeTo_len _ _ _ _) rfl ?_ ?_ ?_
 . exact⟨hpr.glen,hpr.olen,hpr.rng,fun _=>hrd,fun _=>hout,hpr.pre,hpr.cpre,hpr.rde,hpr.small,hpr.osmall,hpr.snk,hpr.snk2,fun h1=>absurd (hrd.symm.trans h1) (by simp)⟩
 .
  intro q hq
  by_cases hql:q<M.pipes.length
  . obtain⟨x,hx⟩:∃x,(closeTo ns a p.out.length M.pipes)[q]? = some x:=⟨_,gEl (by rw[closeTo_len];exact hql)⟩
    obtain⟨y,hy,_,h2⟩:=closeTo_get _ _ _ _ _ _ hx
    rw[hx,hy,h2 (fun k hk=>hq k (by omega))]
  . rw[List.getElem?_eq_none (by rw[closeTo_len];omega),List.getElem?_eq_none (by omega)]
 .
  intro k x y hk hy hx
  obtain⟨y',hy',h1,_⟩:=closeTo_get _ _ _ _ _ _ hx
  rw[hy] at hy'
  injection hy' with hy'
  subst hy'
  rw[h1 ⟨k,by omega,rfl⟩]
  exact⟨rfl,fun d c rdr ho=>⟨ho.good,rfl,ho.shut,ho.flow,ho.all⟩⟩
theorem passes_kind {n:SNode} (h:passes n=true):(n.kind=4/\n.how=1)\/(n.kind=3/\isEach n.c.kind=true):=by
 unfold passes at h
 simpa only[Bool.or_eq_true,Bool.and_eq_true,decide_eq_true_eq] using h
theorem through_append {n:SNode} (h:passes n=true) {a:List UInt8} (ha:Whol a) (b:List UInt8):through n (a++b)=through n a++through n b:=by
 unfold through
 rcases passes_kind h with ⟨h4,_⟩ | ⟨h3,h5⟩
 . rw[if_pos h4,if_pos h4,if_pos h4]
 . rw[if_neg (by omega),if_neg (by omega),if_neg (by omega),lines_whol ha,made_append _ h5,ended_append]
theorem through_nil {n:SNode} (h:passes n=true):through n []=[]:=by
 have h1:=through_append h whol_nil []
 rw[List.append_nil] at h1
 have h2:(through n []).length=(through n []).length+(through n []).length:=by
  conv=>lhs;rw[h1]
  simp
 exact List.length_eq_zero_iff.1 (by omega)
theorem flat_lines_whol:∀(l:List (List UInt8)),(∀b∈l,Whol b)->ended ((l.map lines).flatten)=l.flatten
 | [],_=>rfl
 | b::r,h=>by
  rw[List.map_cons,List.flatten_cons,List.flatten_cons,ended_append,h b (by simp),flat_lines_whol r (fun c hc=>h c (by simp[hc]))]
theorem passes_made {n:SNode} (h:passes n=true) (hc:nodeChk n=0) (fs:List SFile) (ins:List (List UInt8)) (hl:ins.length=n.ins.length) (hw:∀b∈ins,Whol b):nodeMade n fs ins=[through n ins.flatten]:=by
 unfold nodeMade through
 rcases passes_kind h with ⟨h4,h1⟩ | ⟨h3,h5⟩
 . rw[if_neg (by omega),if_neg (by omega),if_neg (by omega),if_pos h4,if_pos h4]
   unfold joined
   rw[if_neg (by omega),if_neg (by omega),if_neg (by omega),flat_lines_whol _ hw]
 . have h1:=(right_ins hc).2 (Or.inr (Or.inl h3))
   rw[if_neg (by omega),if_neg (by omega),if_pos h3,if_neg (by omega)]
   match ins,(hl.trans h1:ins.length=1) with
   | [b],_=>simp
theorem passes_outs {n:SNode} (h:passes n=true):nouts n=1:=by
 unfold nouts
 rcases passes_kind h with ⟨h4,h1⟩ | ⟨h3,h5⟩
 . rw[if_neg (by omega),if_neg (by omega)]
 . rw[if_neg (by omega),if_neg (by omega)]
theorem full_ok {n:SNode} {ds ins:List (List UInt8)} {c e:Nat->List UInt8} {p:SProc} {sunk:List UInt8} (fs:List SFile) (hc:nodeChk n=0) (gl:p.got.length=ins.length) (ol:p.out.length=ds.length) (rng:0<=p.pos/\p.pos<=ins.length) (hov:p.ov=false) (hout:∀b∈p.out,b=[])
 (dl:ds.length=(nodeMade n fs p.got).length) (cpre:∀(j:Nat) (d:List UInt8),ins[j]? = some d->c j <+: d) (snk:n.kind=5->sunk=c 0) (snk2:n.kind=5 -> ∀d,ins[0]? = some d->c 0=d)
 (he:∀(k:Nat) (d:List UInt8),ds[k]? = some d->e k++((nodeMade n fs p.got)[k]?.getD [])=d) :
 ProcOk n ds ins c (fun k=>e k++((nodeMade n fs p.got)[k]?.getD [])) (fullP n fs p) sunk /\
 ∀k:Nat,k<ds.length->((fullP n fs p).out[k]?.getD [])=(p.out[k]?.getD [])++((nodeMade n fs p.got)[k]?.getD []):=by
 have hz:∀k:Nat,k<ds.length->((fullP n fs p).out[k]?.getD [])=(p.out[k]?.getD [])++((nodeMade n fs p.got)[k]?.getD []):=by
  intro k hk
  unfold fullP
  simp only[List.getElem?_zipWith]
  rw[gEl (by omega:k<p.out.length),gEl (by omega:k<(nodeMade n fs p.got).length)]
  rfl
 have ho:∀k:Nat,(p.out[k]?.getD [])=[]:=by
  intro k
  cases hk:p.out[k]? with
  | none=>rfl
  | some b=>exact hout b (mGt hk)
 refine⟨⟨?_,?_,rng,fun h=>?_,fun h=>?_,?_,cpre,?_,?_,?_,snk,fun h _=>snk2 h,fun h=>?_⟩,hz⟩
 . unfold fullP;simpa using gl
 . unfold fullP
   simp only[List.length_zipWith]
   omega
 . exact absurd (hov.symm.trans h) (by simp)
 . exact absurd (hov.symm.trans h) (by simp)
 . intro k d hd
   show e k++_ <+: d
   rw[he k d hd]
   exact List.prefix_refl _
 . intro _ k d hd
   exact he k d hd
 . intro j hj
   unfold fullP
   simp only[List.getElem?_map]
   cases p.got[j]? <;> simp
 . intro k d hd
   rw[hz k (gSm hd).1,ho k,<- he k d hd]
   simp
 . exact absurd h (by simp[fullP])
theorem made_sinkM {n:SNode} (h:n.kind=5) {fs:List SFile} {ins:List (List UInt8)}:nodeMade n fs ins=[]:=by unfold nodeMade;rw[if_neg (by omega),if_neg (by omega),if_neg (by omega),if_neg (by omega)]
theorem prefix_room {e c b o d:List UInt8} (h:e <+: d) (he:e=c++b++o) (k:Nat):c++b.take k <+: d:=by
 obtain⟨r,rfl⟩:=h
 subst he
 refine⟨b.drop k++o++r,?_⟩
 have e:b.take k++(b.drop k++(o++r))=b++(o++r):=by rw[<- List.append_assoc,List.take_append_drop]
 simp only[List.append_assoc]
 rw[e]
theorem inv_next {ns:List SNode} {fs:List SFile} {room:Int} {M:SMach} {C:Nat->List UInt8} {E:Nat->Nat->List UInt8} (g:RightG ns) (h:MInv ns fs room M C E) {a:Nat} {n:SNode} {p:SProc} (hn:ns[a]? = some n) (hp:M.ps[a]? = some p) (hov:p.ov=false) (hrd:p.rd=false)
 (hout:∀b∈p.out,b=[]) (hgot:p.got≠[]) (hcl:(M.pipe (firstIn ns a+p.pos.toNat)).closed=true) (hem:(M.pipe (firstIn ns a+p.pos.toNat)).b=[]) :
 ∃E',MInv ns fs room (if p.pos+1=p.got.length then M.setP a (fullP n M.fs ⟨p.got,p.pos+1,p.out,p.rd,p.ov⟩) else M.setP a ⟨p.got,p.pos+1,p.out,p.rd,p.ov⟩) C E':=by
 have hpr:=h.proc a n p hn hp
 have hch:=g.node n (mGt hn)
 have hcnt:=nodeMade_count hch fs (n.ins.map (portAt (outsL fs [] ns)))
 have hinl:(n.ins.map (portAt (outsL fs [] ns))).length=n.ins.length:=List.length_map _
 have hgl:p.got.length=n.ins.length:=hpr.glen.trans hinl
 have hg0:n.ins.length≠0:=by
  intro e
  exact hgot (List.length_eq_zero_iff.1 (hgl.trans e))
 obtain⟨m,hw⟩:=hpr.wait hrd
 have hmt:p.pos.toNat=m:=by rw[hw.pos];simp
 rw[hmt] at hcl hem
 have hml:m<n.ins.length:=by rw[<- hinl];exact hw.lt (by omega)
 obtain⟨po,hpo⟩:∃po,n.ins[m]? = some po:=⟨_,gEl hml⟩
 obtain⟨i,k,m',epo,hia,hm',hk⟩:=g.src hn hpo
 subst epo
 obtain⟨x,hx⟩:∃x,M.pipes[firstIn ns a+m]? = some x:=⟨_,gEl (by rw[h.xlen];exact allIns_len hn hml)⟩
 have hxp:M.pipe (firstIn ns a+m)=x:=by unfold SMach.pipe;rw[hx];rfl
 rw[hxp] at hcl hem
 obtain⟨pw,hpw⟩:∃pw,M.ps[i]? = some pw:=⟨_,gEl (by rw[h.plen];exact (gSm hm').1)⟩
 obtain⟨q1,q2⟩:=h.pipe a n m i k p pw x hn hpo hp hpw hx
 have hsh:x.shut=false:=by
  cases hs:x.shut with
  | false=>rfl
  | true=>exact absurd (hrd.symm.trans (q2.shut hs)) (by simp)
 have hwp:=h.proc i m' pw hm' hpw
 have hwo:pw.ov=true:=q2.closed.symm.trans hcl
 have hds:=port_ds g fs hm' hk
 have hEd:E i k=portAt (outsL fs [] ns) ((i:Int),(k:Int)):=hwp.rde (hwp.ovrd hwo) k _ hds
 have hpo0:pw.out[k]?.getD []=[]:=by
  cases hk2:pw.out[k]? with
  | none=>rfl
  | some b=>exact hwp.ovout hwo b (mGt hk2)
 have hCm:C (firstIn ns a+m)=portAt (outsL fs [] ns) ((i:Int),(k:Int)):=by
  have:=q2.flow hsh
  rw[hem,hpo0,hEd] at this
  simpa using this.symm
 have hinm:(n.ins.map (portAt (outsL fs [] ns)))[m]? = some (portAt (outsL fs [] ns) ((i:Int),(k:Int))):=by rw[List.getElem?_map,hpo];rfl
 have hwh:∀b∈n.ins.map (portAt (outsL fs [] ns)),Whol b:=by
  intro b hb
  obtain⟨j,hj⟩:=List.getElem?_of_mem hb
  rw[List.getElem?_map] at hj
  cases hq:n.ins[j]? with
  | none=>rw[hq] at hj;cases hj
  | some po=>
   rw[hq] at hj
   injection hj with hj
   obtain⟨i2,k2,m2,e2,_,hm2,hk2⟩:=g.src hn hq
   subst e2
   rw[<- hj]
   exact made_whol (g.node m2 (mGt hm2)) fs _ _ (mGt (port_ds g fs hm2 hk2))
 generalize hINS:n.ins.map (portAt (outsL fs [] ns))=INS at *
 have hgm:passes n=true->n.kind≠5->(∀j:Nat,p.got[j]?.getD []=[])/\E a 0=through n ((INS.take (m+1)).flatten):=by
  intro hps h5
  obtain⟨w1,W,w2,w3,w4,w5⟩:=hw.pass h5 hps
  have hg:=whol_rest (w3.symm.trans hCm) (hwh _ (mGt hinm)) w2
  refine⟨fun j=>?_,?_⟩
  . by_cases hj:j=m
    . subst hj;exact hg
    . exact w1 j hj
  .
   rw[w5,List.take_add_one,hinm]
   have:W=portAt (outsL fs [] ns) ((i:Int),(k:Int)):=by
    rw[<- hCm]
    show W=C (firstIn ns a+m)
    rw[w3,hg,List.append_nil]
   rw[this]
   simp
 have hpast:∀(j:Nat) (d:List UInt8),j<m+1->INS[j]? = some d->C (firstIn ns a+j)=d:=by
  intro j d hj hd
  by_cases e:j=m
  . subst e
    rw[hinm] at hd
    injection hd with hd
    rw[hCm,hd]
  . exact hw.past j d (by omega) hd
 unfold SMach.setP
 have hpos1:p.pos+1=((m+1:Nat):Int):=by rw[hw.pos];omega
 by_cases hlast:p.pos+1=p.got.length
 .
  rw[if_pos hlast,show fullP n M.fs ⟨p.got,p.pos+1,p.out,p.rd,p.ov⟩=fullP n fs ⟨p.got,p.pos+1,p.out,p.rd,p.ov⟩ by rw[h.efs]]
  have hm1:m+1=n.ins.length:=by omega
  obtain⟨G,hG⟩:∃G,G=nodeMade n fs p.got:=⟨_,rfl⟩
  have hcntG:=nodeMade_count hch fs p.got
  have hE:∀(kk:Nat) (d:List UInt8),(nodeMade n fs INS)[kk]? = some d->E a kk++((nodeMade n fs p.got)[kk]?.getD [])=d:=by
   intro kk d hd
   by_cases h5:n.kind=5
   . rw[made_sinkM h5] at hd
     simp at hd
   .
    cases hps:passes n with
    | true=>
     obtain⟨y1,y2⟩:=hgm hps h5
     have hgw:∀b∈p.got,Whol b:=by
      intro b hb
      obtain⟨j,hj⟩:=List.getElem?_of_mem hb
      have:=y1 j
      rw[hj] at this
      simp at this
      rw[this];exact whol_nil
     have hgf:p.got.flatten=[]:=by
      rw[List.flatten_eq_nil_iff]
      intro b hb
      obtain⟨j,hj⟩:=List.getElem?_of_mem hb
      have:=y1 j
      rw[hj] at this
      simpa using this
     rw[passes_made hps hch fs INS hinl hwh] at hd
     rw[passes_made hps hch fs p.got hgl hgw,hgf,through_nil hps]
     rw[List.take_of_length_le (by omega)] at y2
     have hk0:kk=0:=by
      have:=(gSm hd).1
      simp at this
      exact this
     subst hk0
     simp only[List.getElem?_cons_zero,Option.some.injEq] at hd
     rw[y2,hd]
     simp
    | false=>
     obtain⟨y1,y2,_⟩:=hw.hold h5 hps
     have hgi:p.got=INS:=by
      apply List.ext_getElem?
      intro j
      by_cases hj:j<INS.length
      . have e1:=y1 j hj
        have e2:=hpast j INS[j] (by omega) (gEl hj)
        have e3:j<p.got.length:=by omega
        rw[gEl e3] at e1 ⊢
        rw[gEl hj,<- e2]
        congr 1
      . rw[List.getElem?_eq_none (by omega),List.getElem?_eq_none (by omega)]
     rw[y2 kk,hgi,hd]
     rfl
  obtain⟨z1,z2⟩:=full_ok (n:=n) (ds:=nodeMade n fs INS) (ins:=INS) (c:=fun j=>C (firstIn ns a+j)) (e:=E a) (p:=⟨p.got,p.pos+1,p.out,p.rd,p.ov⟩) (sunk:=M.sunk) fs hch hpr.glen hpr.olen ⟨by show 0<=p.pos+1;omega,by show p.pos+1<=_;omega⟩ hov hout (by show (nodeMade n fs INS).length=(nodeMade n fs p.got).length;omega) hpr.cpre hpr.snk (fun _ d hd=>hpast 0 d (by omega) hd) hE
  refine⟨fun i=>if i=a then (fun k=>E a k++((nodeMade n fs p.got)[k]?.getD [])) else E i,?_⟩
  refine inv_own g h hn hp (fullP n fs ⟨p.got,p.pos+1,p.out,p.rd,p.ov⟩) M.pipes M.sunk C _ rfl rfl (by rw[hINS];exact z1) (fun _=>rfl) (fun q _=>⟨rfl,rfl⟩) ?_ ?_
  .
   intro m2 i2 k2 pw2 x2 y hpo2 hpw2 hy hx2
   rw[hy] at hx2
   injection hx2 with hx2
   subst hx2
   obtain⟨s1,s2⟩:=h.pipe a n m2 i2 k2 p pw2 y hn hpo2 hp hpw2 hy
   refine⟨rfl,s2.good,s2.closed,fun _=>rfl,s2.flow,fun _ _=>?_⟩
   have hm2:m2<n.ins.length:=(gSm hpo2).1
   exact hpast m2 _ (by omega) (by rw[<- hINS,List.getElem?_map,hpo2];rfl)
  . intro kk hkk
    exact⟨_,rfl,z2 kk (by omega)⟩
 .
  rw[if_neg hlast]
  have hm1:m+1<n.ins.length:=by omega
  refine⟨fun i=>if i=a then E a else E i,?_⟩
  refine inv_own g h hn hp ⟨p.got,p.pos+1,p.out,p.rd,p.ov⟩ M.pipes M.sunk C (E a) rfl rfl ?_ (fun _=>rfl) (fun q _=>⟨rfl,rfl⟩) ?_ ?_
  .
   rw[hINS]
   refine⟨hpr.glen,hpr.olen,⟨by show 0<=p.pos+1;omega,by show p.pos+1<=_;omega⟩,hpr.ovrd,hpr.ovout,hpr.pre,hpr.cpre,hpr.rde,hpr.small,hpr.osmall,hpr.snk,hpr.snk2,fun _=>⟨m+1,hpos1,fun _=>by omega,hpast,fun j hj hjl=>hw.next j (by omega) hjl,hw.sink,fun h5 hps=>?_,hw.hold⟩⟩
   obtain⟨y1,y2⟩:=hgm hps h5
   refine⟨fun j _=>y1 j,[],by show (10:UInt8)∉p.got[m+1]?.getD [];rw[y1];simp,?_,whol_nil,?_⟩
   . show C (firstIn ns a+(m+1))=[]++p.got[m+1]?.getD []
     rw[y1]
     exact hw.next (m+1) (by omega) (by omega)
   . rw[List.append_nil];exact y2
  .
   intro m2 i2 k2 pw2 x2 y hpo2 hpw2 hy hx2
   rw[hy] at hx2
   injection hx2 with hx2
   subst hx2
   obtain⟨s1,s2⟩:=h.pipe a n m2 i2 k2 p pw2 y hn hpo2 hp hpw2 hy
   exact⟨rfl,s2⟩
  . intro kk hkk
    exact⟨[],by simp,by simp⟩
theorem inv_source {ns:List SNode} {fs:List SFile} {room:Int} {M:SMach} {C:Nat->List UInt8} {E:Nat->Nat->List UInt8} (g:RightG ns) (h:MInv ns fs room M C E) {a:Nat} {n:SNode} {p:SProc} (hn:ns[a]? = some n) (hp:M.ps[a]? = some p) (hov:p.ov=false) (hrd:p.rd=false)
 (hout:∀b∈p.out,b=[]) (hgot:p.got=[]):∃E',MInv ns fs room (M.setP a (fullP n M.fs p)) C E':=by
 have hpr:=h.proc a n p hn hp
 have hch:=g.node n (mGt hn)
 have hinl:(n.ins.map (portAt (outsL fs [] ns))).length=n.ins.length:=List.length_map _
 have hi0:n.ins=[]:=List.length_eq_zero_iff.1 (by rw[<- hinl,<- hpr.glen,hgot];rfl)
 have hkind:n.kind≠5/\passes n=false:=by
  constructor
  . intro h5
    have:=(right_ins hch).2 (Or.inr (Or.inr h5))
    rw[hi0] at this
    cases this
  . cases hps:passes n with
    | false=>rfl
    | true=>exact absurd (by rw[hi0];rfl) (passes_ins hch hps)
 obtain⟨m,hw⟩:=hpr.wait hrd
 obtain⟨_,y2,_⟩:=hw.hold hkind.1 hkind.2
 have hII:n.ins.map (portAt (outsL fs [] ns))=p.got:=by rw[hi0,hgot];rfl
 obtain⟨z1,z2⟩:=full_ok (n:=n) (ds:=nodeMade n fs p.got) (ins:=p.got) (c:=fun j=>C (firstIn ns a+j)) (e:=E a) (p:=p) (sunk:=M.sunk) fs hch rfl (by rw[<- hII];exact hpr.olen) (by rw[<- hII];exact hpr.rng) hov hout rfl (by rw[<- hII];exact hpr.cpre) hpr.snk (fun e=>absurd e hkind.1) (fun k d hd=>by rw[y2,hd];rfl)
 unfold SMach.setP
 rw[show fullP n M.fs p=fullP n fs p by rw[h.efs]]
 refine⟨fun i=>if i=a then (fun k=>E a k++((nodeMade n fs p.got)[k]?.getD [])) else E i,?_⟩
 refine inv_own g h hn hp (fullP n fs p) M.pipes M.sunk C _ rfl rfl (by rw[hII];exact z1) (fun _=>rfl) (fun q _=>⟨rfl,rfl⟩) ?_ ?_
 . intro m2 i2 k2 pw2 x2 y hpo2
   rw[hi0] at hpo2
   simp at hpo2
 . intro kk hkk
   have:=nodeMade_count hch fs p.got
   exact⟨_,rfl,z2 kk (by omega)⟩
theorem through_prefix {n:SNode} (h:passes n=true) {a b:List UInt8} (ha:Whol a) (hp:a <+: b):through n a <+: through n b:=by
 obtain⟨r,rfl⟩:=hp
 rw[through_append h ha]
 exact List.prefix_append _ _
theorem flat_prefix {INS:List (List UInt8)} {m:Nat} {d W:List UInt8} (hm:INS[m]? = some d) (hW:W <+: d):(INS.take m).flatten++W <+: INS.flatten:=by
 obtain⟨r,rfl⟩:=hW
 have hml:m<INS.length:=(gSm hm).1
 refine⟨r++(INS.drop (m+1)).flatten,?_⟩
 conv=>rhs;rw[<- List.take_append_drop m INS,List.drop_eq_getElem_cons hml]
 rw[gEl hml] at hm
 injection hm with hm
 rw[hm]
 simp
theorem set_get {l:List SPipe} {q:Nat} {x y:SPipe} (hq:l[q]? = some y):(l.set q x)[q]? = some x:=by
 rw[List.getElem?_set,if_pos rfl,if_pos (gSm hq).1]
theorem inv_came {ns:List SNode} {fs:List SFile} {room:Int} {M:SMach} {C:Nat->List UInt8} {E:Nat->Nat->List UInt8} (g:RightG ns) (h:MInv ns fs room M C E) {a:Nat} {n:SNode} {p:SProc} (hn:ns[a]? = some n) (hp:M.ps[a]? = some p) (hov:p.ov=false) (hrd:p.rd=false)
 (hout:∀b∈p.out,b=[]) (hgot:p.got≠[]) {q:Nat} (hq:q=firstIn ns a+p.pos.toNat) (hem:(M.pipe q).b≠[]) :
 ∃C' E',MInv ns fs room (cameS (M.setX q ⟨(M.pipe q).b.drop 8,(M.pipe q).room,(M.pipe q).closed,(M.pipe q).shut⟩) a n q (p.setGot (p.at++(M.pipe q).b.take 8))) C' E':=by
 have hpr:=h.proc a n p hn hp
 have hch:=g.node n (mGt hn)
 have hcnt:=nodeMade_count hch fs (n.ins.map (portAt (outsL fs [] ns)))
 have hinl:(n.ins.map (portAt (outsL fs [] ns))).length=n.ins.length:=List.length_map _
 have hgl:p.got.length=n.ins.length:=hpr.glen.trans hinl
 have hg0:n.ins.length≠0:=by
  intro e
  exact hgot (List.length_eq_zero_iff.1 (hgl.trans e))
 obtain⟨m,hw⟩:=hpr.wait hrd
 have hmt:p.pos.toNat=m:=by rw[hw.pos];simp
 rw[hmt] at hq
 subst hq
 have hml:m<n.ins.length:=by rw[<- hinl];exact hw.lt (by omega)
 obtain⟨po,hpo⟩:∃po,n.ins[m]? = some po:=⟨_,gEl hml⟩
 obtain⟨i,k,m',epo,hia,hm',hk⟩:=g.src hn hpo
 subst epo
 obtain⟨x,hx⟩:∃x,M.pipes[firstIn ns a+m]? = some x:=⟨_,gEl (by rw[h.xlen];exact allIns_len hn hml)⟩
 have hxp:M.pipe (firstIn ns a+m)=x:=by unfold SMach.pipe;rw[hx];rfl
 rw[hxp] at hem ⊢
 obtain⟨pw,hpw⟩:∃pw,M.ps[i]? = some pw:=⟨_,gEl (by rw[h.plen];exact (gSm hm').1)⟩
 obtain⟨q1,q2⟩:=h.pipe a n m i k p pw x hn hpo hp hpw hx
 have hgood:=pchk_parts q2.good
 have hsh:x.shut=false:=by
  cases hs:x.shut with
  | false=>rfl
  | true=>exact absurd (hrd.symm.trans (q2.shut hs)) (by simp)
 have hwp:=h.proc i m' pw hm' hpw
 have hds:=port_ds g fs hm' hk
 have hflow:=q2.flow hsh
 have hcp:C (firstIn ns a+m)++x.b.take 8 <+: portAt (outsL fs [] ns) ((i:Int),(k:Int)):=prefix_room (hwp.pre k _ hds) hflow 8
 have hinm:(n.ins.map (portAt (outsL fs [] ns)))[m]? = some (portAt (outsL fs [] ns) ((i:Int),(k:Int))):=by rw[List.getElem?_map,hpo];rfl
 have hwh:∀b∈n.ins.map (portAt (outsL fs [] ns)),Whol b:=by
  intro b hb
  obtain⟨j,hj⟩:=List.getElem?_of_mem hb
  rw[List.getElem?_map] at hj
  cases hq:n.ins[j]? with
  | none=>rw[hq] at hj;cases hj
  | some po=>
   rw[hq] at hj
   injection hj with hj
   obtain⟨i2,k2,m2,e2,_,hm2,hk2⟩:=g.src hn hq
   subst e2
   rw[<- hj]
   exact made_whol (g.node m2 (mGt hm2)) fs _ _ (mGt (port_ds g fs hm2 hk2))
 obtain⟨bite,hbite⟩:∃z,z=x.b.take 8:=⟨_,rfl⟩
 obtain⟨C1,hC1⟩:∃C1:Nat->List UInt8,C1=fun q=>if q=firstIn ns a+m then C (firstIn ns a+m)++bite else C q:=⟨_,rfl⟩
 have hC1m:C1 (firstIn ns a+m)=C (firstIn ns a+m)++bite:=by rw[hC1];simp
 have hC1o:∀j,j≠m->C1 (firstIn ns a+j)=C (firstIn ns a+j):=fun j hj=>by rw[hC1];simp only;rw[if_neg (by omega)]
 rw[<- hbite] at hcp ⊢
 have hC1cp:∀(j:Nat) (d:List UInt8),(n.ins.map (portAt (outsL fs [] ns)))[j]? = some d->C1 (firstIn ns a+j) <+: d:=by
  intro j d hd
  by_cases e:j=m
  . subst e
    rw[hinm] at hd
    injection hd with hd
    rw[hC1m,<- hd];exact hcp
  . rw[hC1o j e];exact hpr.cpre j d hd
 have hatm:p.at=p.got[m]?.getD []:=by unfold SProc.at;rw[hmt]
 have hgml:m<p.got.length:=by omega
 obtain⟨p1,hp1⟩:∃p1,p1=p.setGot (p.at++bite):=⟨_,rfl⟩
 rw[<- hp1]
 have hp1g:p1.got=p.got.set m (p.at++bite):=by rw[hp1];unfold SProc.setGot;rw[hmt]
 have hp1pos:p1.pos=p.pos:=by rw[hp1];rfl
 have hp1out:p1.out=p.out:=by rw[hp1];rfl
 have hp1rd:p1.rd=false:=by rw[hp1];exact hrd
 have hp1ov:p1.ov=false:=by rw[hp1];exact hov
 have hp1at:p1.at=p.at++bite:=by unfold SProc.at;rw[hp1pos,hmt,hp1g,getD_set hgml,if_pos rfl,hatm]
 have hp1o:∀j,j≠m->p1.got[j]?.getD []=p.got[j]?.getD []:=fun j hj=>by rw[hp1g,getD_set hgml,if_neg hj]
 have hp1m:p1.got[m]?.getD []=p.at++bite:=by rw[hp1g,getD_set hgml,if_pos rfl]
 have hp1l:p1.got.length=p.got.length:=by rw[hp1g];simp
 have hnew:∀(X:List SPipe) (rd':Bool),X=M.pipes.set (firstIn ns a+m) ⟨x.b.drop 8,x.room,x.closed,x.shut⟩->rd'=false ->
  ∀(m2 i2 k2:Nat) (pw2:SProc) (x2 y:SPipe),n.ins[m2]? = some ((i2:Int),(k2:Int))->M.ps[i2]? = some pw2->M.pipes[firstIn ns a+m2]? = some y->X[firstIn ns a+m2]? = some x2 ->
  x2.room=y.room/\PipeOk (portAt (outsL fs [] ns) ((i2:Int),(k2:Int))) (E i2 k2) (C1 (firstIn ns a+m2)) x2 (pw2.out[k2]?.getD []) pw2.ov rd':=by
  intro X rd' hX hrd' m2 i2 k2 pw2 x2 y hpo2 hpw2 hy hx2
  subst hX hrd'
  rcases set_at hx2 with ⟨e,rfl⟩ | ⟨e,hx3⟩
  .
   have e':m2=m:=by omega
   subst e'
   rw[hpo] at hpo2
   simp only[Option.some.injEq,Prod.mk.injEq,Int.natCast_inj] at hpo2
   obtain⟨rfl,rfl⟩:=hpo2
   rw[hpw] at hpw2
   injection hpw2 with hpw2
   subst hpw2
   rw[hx] at hy
   injection hy with hy
   subst hy
   refine⟨rfl,?_,q2.closed,fun h2=>absurd (hsh.symm.trans h2) (by simp),fun _=>?_,fun _ h2=>absurd h2 (by simp)⟩
   . refine pchk_intro hgood.1 hgood.2.1 ?_ (fun h2=>absurd (hsh.symm.trans h2) (by simp))
     show ((x.b.drop 8).length:Int)<=plim x.room
     have:=hgood.2.2.1
     rw[List.length_drop]
     omega
   . rw[hC1m,hflow,hbite]
     have:x.b.take 8++x.b.drop 8=x.b:=List.take_append_drop 8 x.b
     show C (firstIn ns a+m2)++x.b++pw.out[k]?.getD []=C (firstIn ns a+m2)++x.b.take 8++x.b.drop 8++pw.out[k]?.getD []
     rw[List.append_assoc (C (firstIn ns a+m2)) (x.b.take 8),this]
  .
   have e':m2≠m:=by omega
   rw[hy] at hx3
   injection hx3 with hx3
   subst hx3
   obtain⟨s1,s2⟩:=h.pipe a n m2 i2 k2 p pw2 y hn hpo2 hp hpw2 hy
   rw[hC1o m2 e',<- hrd]
   exact⟨rfl,s2⟩
 have hothX:∀(z:SPipe) (q:Nat),(∀m2,m2<n.ins.length->q≠firstIn ns a+m2)->(M.pipes.set (firstIn ns a+m) z)[q]? = M.pipes[q]? /\ C1 q=C q:=by
  intro z q hq
  have:=hq m hml
  refine⟨?_,?_⟩
  . rw[List.getElem?_set,if_neg (fun e=>this e.symm)]
  . rw[hC1];simp only;rw[if_neg this]
 have hpast1:∀(j:Nat) (d:List UInt8),j<m->(n.ins.map (portAt (outsL fs [] ns)))[j]? = some d->C1 (firstIn ns a+j)=d:=fun j d hj hd=>by rw[hC1o j (by omega)];exact hw.past j d hj hd
 have hnext1:∀j,m<j->j<(n.ins.map (portAt (outsL fs [] ns))).length->C1 (firstIn ns a+j)=[]:=fun j hj hjl=>by rw[hC1o j (by omega)];exact hw.next j hj hjl
 have hsm1:∀j,j<(n.ins.map (portAt (outsL fs [] ns))).length->(p1.got[j]?.getD []).length<=(C1 (firstIn ns a+j)).length:=by
  intro j hj
  by_cases e:j=m
  . subst e
    have:=hpr.small j hj
    rw[hp1m,hC1m,hatm,List.length_append,List.length_append]
    exact Nat.add_le_add_right this _
  . rw[hp1o j e,hC1o j e];exact hpr.small j hj
 unfold cameS
 by_cases h5:n.kind=5
 .
  -- a sink
  rw[if_pos h5]
  have h1:=(right_ins hch).2 (Or.inr (Or.inr h5))
  have hm0:m=0:=by omega
  subst hm0
  have hat0:p.at=[]:=by rw[hatm];exact hw.sink h5
  refine⟨C1,fun i=>if i=a then E a else E i,?_⟩
  refine inv_own g h hn hp (p1.setGot []) (M.pipes.set (firstIn ns a+0) _) (M.sunk++p1.at) C1 (E a) (by simp) (by rw[hov];exact hp1ov) ?_ (fun e=>absurd h5 e) (hothX _) (hnew _ _ rfl hp1rd) (fun kk hkk=>⟨[],by simp,by unfold SProc.setGot;simp[hp1out]⟩)
  have hsg:(p1.setGot []).got=p1.got.set 0 []:=by unfold SProc.setGot;rw[hp1pos,hmt]
  have hsz:∀j:Nat,(p1.setGot []).got[j]?.getD []=[]:=by
   intro j
   rw[hsg]
   by_cases e:j=0
   . subst e;rw[getD_set (by omega),if_pos rfl]
   . rw[List.getElem?_eq_none (by rw[List.length_set];omega)];rfl
  refine⟨by rw[hsg,List.length_set,hp1l];exact hpr.glen,by show p1.out.length=_;rw[hp1out];exact hpr.olen,by show 0<=p1.pos/\p1.pos<=_;rw[hp1pos];exact hpr.rng,fun e=>absurd (hp1ov.symm.trans e) (by simp),fun e=>absurd (hp1ov.symm.trans e) (by simp),hpr.pre,hC1cp,fun e=>absurd (hp1rd.symm.trans e) (by simp),fun j hj=>by rw[hsz j];simp,by show ∀(k:Nat) (d:List UInt8),_->(p1.out[k]?.getD []).length<=_;rw[hp1out];exact hpr.osmall,fun _=>?_,fun _ e=>absurd (hp1rd.symm.trans e) (by simp),fun _=>⟨0,?_,fun _=>by omega,fun j d hj=>absurd hj (by omega),hnext1,fun _=>hsz 0,fun e=>absurd h5 e,fun e=>absurd h5 e⟩⟩
  . rw[hp1at,hat0,hC1m,hpr.snk h5];rfl
  . show p1.pos=_
    rw[hp1pos];exact hw.pos
 .
  rw[if_neg h5]
  cases hps:passes n with
  | true=>
   obtain⟨w1,W,w2,w3,w4,w5⟩:=hw.pass h5 hps
   rw[<- hatm] at w2 w3
   have hno1:nouts n=1:=passes_outs hps
   have hdsl:(nodeMade n fs (n.ins.map (portAt (outsL fs [] ns)))).length=1:=by omega
   have hD:=passes_made hps hch fs (n.ins.map (portAt (outsL fs [] ns))) hinl hwh
   by_cases h10:p1.at.contains 10=true
   .
    rw[if_pos (by rw[h10];rfl)]
    obtain⟨X1,hX1⟩:∃z,z=p1.at.take (cutOf p1.at):=⟨_,rfl⟩
    obtain⟨X2,hX2⟩:∃z,z=p1.at.drop (cutOf p1.at):=⟨_,rfl⟩
    have hX12:X1++X2=p.at++bite:=by rw[hX1,hX2,List.take_append_drop,hp1at]
    have hXw:Whol X1:=by rw[hX1];exact cut_whol _
    have hXn:(10:UInt8)∉X2:=by rw[hX2];exact cut_rest _
    rw[<- hX1,<- hX2]
    have hfw:Whol ((List.take m (n.ins.map (portAt (outsL fs [] ns)))).flatten++W):=(whol_flat _ (fun b hb=>hwh b (List.mem_of_mem_take hb))).append w4
    have hE0:E a 0++through n X1=through n ((List.take m (n.ins.map (portAt (outsL fs [] ns)))).flatten++(W++X1)):=by
     rw[w5,<- through_append hps hfw,List.append_assoc]
    have hCW:C1 (firstIn ns a+m)=(W++X1)++X2:=by rw[hC1m,show C (firstIn ns a+m)=W++p.at from w3,List.append_assoc,List.append_assoc,hX12]
    have hpre0:through n ((List.take m (n.ins.map (portAt (outsL fs [] ns)))).flatten++(W++X1)) <+: through n (n.ins.map (portAt (outsL fs [] ns))).flatten:=by
     refine through_prefix hps ((whol_flat _ (fun b hb=>hwh b (List.mem_of_mem_take hb))).append (w4.append hXw)) (flat_prefix hinm ?_)
     refine List.IsPrefix.trans ⟨X2,rfl⟩ ?_
     rw[<- hCW]
     exact hC1cp m _ hinm
    have hol1:p1.out.length=1:=by rw[hp1out,hpr.olen,hdsl]
    have ho0:p1.out[0]?.getD []=[]:=by
     rw[hp1out]
     cases hk2:p.out[0]? with
     | none=>rfl
     | some b=>exact hout b (mGt hk2)
    rw[ho0,List.nil_append]
    refine⟨C1,fun i=>if i=a then (fun kk=>if kk=0 then E a 0++through n X1 else E a kk) else E i,?_⟩
    unfold SMach.setX SMach.setP
    obtain⟨p2,hp2⟩:∃p2,p2=(p1.setOut 0 (through n X1)).setGot X2:=⟨_,rfl⟩
    have hp2g:p2.got=p1.got.set m X2:=by rw[hp2];show p1.got.set p1.pos.toNat X2=_;rw[hp1pos,hmt]
    have hp2m:p2.got[m]?.getD []=X2:=by rw[hp2g,getD_set (by omega),if_pos rfl]
    have hp2o:∀j,j≠m->p2.got[j]?.getD []=p.got[j]?.getD []:=fun j hj=>by rw[hp2g,getD_set (by omega),if_neg hj,hp1o j hj]
    have hp2out:p2.out=p1.out.set 0 (through n X1):=by rw[hp2];rfl
    have hp2pos:p2.pos=p.pos:=by rw[hp2,<- hp1pos];rfl
    have hp2rd:p2.rd=false:=by rw[hp2,<- hp1rd];rfl
    have hp2ov:p2.ov=false:=by rw[hp2,<- hp1ov];rfl
    rw[<- hp2]
    refine inv_own g h hn hp p2 (M.pipes.set (firstIn ns a+m) _) M.sunk C1 _ (by simp) (by rw[hov];exact hp2ov) ?_ (fun _=>rfl) (hothX _) (hnew _ _ rfl hp2rd) ?_
    .
     refine⟨by rw[hp2g,List.length_set,hp1l];exact hpr.glen,by rw[hp2out,List.length_set,hp1out];exact hpr.olen,by rw[hp2pos];exact hpr.rng,fun e=>absurd (hp2ov.symm.trans e) (by simp),fun e=>absurd (hp2ov.symm.trans e) (by simp),?_,hC1cp,fun e=>absurd (hp2rd.symm.trans e) (by simp),?_,?_,fun e=>absurd e h5,fun e=>absurd e h5,fun _=>⟨m,by rw[hp2pos];exact hw.pos,fun _=>by omega,hpast1,hnext1,fun e=>absurd e h5,fun _ _=>⟨fun j hj=>by rw[hp2o j hj];exact w1 j hj,W++X1,by rw[hp2m];exact hXn,by rw[hp2m];exact hCW,w4.append hXw,?_⟩,fun _ e=>absurd (hps.symm.trans e) (by simp)⟩⟩
     .
      intro kk d hd
      rw[hD] at hd
      have hk0:kk=0:=by
       have:=(gSm hd).1
       simp at this
       exact this
      subst hk0
      simp only[List.getElem?_cons_zero,Option.some.injEq] at hd
      simp only[if_true]
      rw[hE0,<- hd]
      exact hpre0
     . intro j hj
       by_cases e:j=m
       . subst e
         rw[hp2m,hCW,List.length_append]
         omega
       . rw[hp2o j e,hC1o j e];exact hpr.small j hj
     .
      intro kk d hd
      rw[hD] at hd
      have hk0:kk=0:=by
       have:=(gSm hd).1
       simp at this
       exact this
      subst hk0
      simp only[List.getElem?_cons_zero,Option.some.injEq] at hd
      rw[hp2out,getD_set (by omega),if_pos rfl]
      have:=hpre0.length_le
      rw[<- hE0,List.length_append,hd] at this
      omega
     . simp only[if_true];exact hE0
    . intro kk hkk
      have hk0:kk=0:=by omega
      subst hk0
      refine⟨through n X1,by simp,?_⟩
      rw[hp2out,getD_set (by omega),if_pos rfl,<- hp1out,ho0]
      rfl
   .
    rw[if_neg (by simp only[Bool.and_eq_true,not_and];exact fun _=>h10),if_neg (by
     rintro ⟨k3,k9,_⟩
     rcases passes_kind hps with ⟨k4,_⟩ | ⟨_,k5⟩
     . omega
     . have:=of_decide_eq_true k5
       omega)]
    have h10':(10:UInt8)∉p.at++bite:=by rw[<- hp1at];simpa using h10
    refine⟨C1,fun i=>if i=a then E a else E i,?_⟩
    unfold SMach.setX SMach.setP
    refine inv_own g h hn hp p1 (M.pipes.set (firstIn ns a+m) _) M.sunk C1 (E a) (by simp) (by rw[hov];exact hp1ov) ?_ (fun _=>rfl) (hothX _) (hnew _ _ rfl hp1rd) (fun kk hkk=>⟨[],by simp,by simp[hp1out]⟩)
    refine⟨hp1l.trans hpr.glen,by rw[hp1out];exact hpr.olen,by rw[hp1pos];exact hpr.rng,fun e=>absurd (hp1ov.symm.trans e) (by simp),fun e=>absurd (hp1ov.symm.trans e) (by simp),hpr.pre,hC1cp,fun e=>absurd (hp1rd.symm.trans e) (by simp),hsm1,by rw[hp1out];exact hpr.osmall,fun e=>absurd e h5,fun e=>absurd e h5,fun _=>⟨m,by rw[hp1pos];exact hw.pos,fun _=>by omega,hpast1,hnext1,fun e=>absurd e h5,fun _ _=>⟨fun j hj=>by rw[hp1o j hj];exact w1 j hj,W,by rw[hp1m];exact h10',by rw[hp1m];show C1 (firstIn ns a+m)=_;rw[hC1m,show C (firstIn ns a+m)=W++p.at from w3,List.append_assoc],w4,w5⟩,fun _ e=>absurd (hps.symm.trans e) (by simp)⟩⟩
  | false=>
   obtain⟨y1,y2,y3⟩:=hw.hold h5 hps
   rw[if_neg (by simp)]
   have hgc:∀j,j<(n.ins.map (portAt (outsL fs [] ns))).length->p1.got[j]?.getD []=C1 (firstIn ns a+j):=by
    intro j hj
    by_cases e:j=m
    . subst e
      rw[hp1m,hC1m,hatm,y1 j hj]
    . rw[hp1o j e,hC1o j e];exact y1 j hj
   by_cases hhd:n.kind=3/\n.c.kind=9/\n.c.n<=(p1.at.count 10:Int)
   .
    rw[if_pos hhd]
    obtain⟨k3,k9,kN⟩:=hhd
    have h1:=(right_ins hch).2 (Or.inr (Or.inl k3))
    have hm0:m=0:=by omega
    subst hm0
    have hgot1:p1.got=[p1.at]:=by
     have hl1:p1.got.length=1:=by omega
     match hpg:p1.got,hl1 with
     | [b],_=>
      have:=hp1m
      rw[hpg] at this
      simp only[List.getElem?_cons_zero,Option.getD_some] at this
      rw[this,hp1at]
    have hins1:n.ins.map (portAt (outsL fs [] ns))=[portAt (outsL fs [] ns) ((i:Int),(k:Int))]:=by
     have hl1:(n.ins.map (portAt (outsL fs [] ns))).length=1:=by omega
     match hpg:n.ins.map (portAt (outsL fs [] ns)),hl1 with
     | [b],_=>
      have:=hinm
      rw[hpg] at this
      simp only[List.getElem?_cons_zero,Option.some.injEq] at this
      rw[this]
    have hat1:p1.at=C1 (firstIn ns a+0):=by
     have:=hgc 0 (by omega)
     rw[hgot1] at this
     simpa using this
    have hmm:nodeMade n fs p1.got=nodeMade n fs (n.ins.map (portAt (outsL fs [] ns))):=by
     rw[hgot1,hins1]
     unfold nodeMade
     rw[if_neg (by omega),if_neg (by omega),if_pos k3,if_neg (by omega),if_neg (by omega),if_pos k3]
     simp only[List.head?_cons,Option.getD_some]
     rw[made9 _ k9,made9 _ k9,head_same (hat1 ▸ hC1cp 0 _ hinm) n.c.n.toNat (by omega)]
    obtain⟨z1,z2⟩:=full_ok (n:=n) (ds:=nodeMade n fs (n.ins.map (portAt (outsL fs [] ns)))) (ins:=n.ins.map (portAt (outsL fs [] ns))) (c:=fun j=>C1 (firstIn ns a+j)) (e:=E a) (p:=p1) (sunk:=M.sunk) fs hch (hp1l.trans hpr.glen) (by rw[hp1out];exact hpr.olen) (by rw[hp1pos];exact hpr.rng) hp1ov (by rw[hp1out];exact hout) (by rw[hmm]) hC1cp (fun e=>absurd e h5) (fun e=>absurd e h5) (fun kk d hd=>by rw[y2 kk,hmm,hd];rfl)
    refine⟨C1,fun i=>if i=a then (fun k=>E a k++((nodeMade n fs p1.got)[k]?.getD [])) else E i,?_⟩
    unfold SMach.setX SMach.setP
    simp only[List.set_set]
    rw[show fullP n M.fs p1=fullP n fs p1 by rw[h.efs]]
    have hpx:(⟨M.ns,M.fs,M.pipes.set (firstIn ns a+0) ⟨x.b.drop 8,x.room,x.closed,x.shut⟩,M.ps,M.sunk⟩:SMach).pipe (firstIn ns a+0)=⟨x.b.drop 8,x.room,x.closed,x.shut⟩:=by
     unfold SMach.pipe
     rw[set_get hx]
     rfl
    rw[hpx]
    refine inv_own g h hn hp (fullP n fs p1) (M.pipes.set (firstIn ns a+0) _) M.sunk C1 _ (by simp) (by rw[hov];exact hp1ov) z1 (fun _=>rfl) (hothX _) ?_ ?_
    .
     intro m2 i2 k2 pw2 x2 y hpo2 hpw2 hy hx2
     have hm2:m2=0:=by
      have:=(gSm hpo2).1
      omega
     subst hm2
     rw[set_get hx] at hx2
     injection hx2 with hx2
     rw[hx] at hy
     injection hy with hy
     subst hx2 hy
     rw[hpo] at hpo2
     simp only[Option.some.injEq,Prod.mk.injEq,Int.natCast_inj] at hpo2
     obtain⟨rfl,rfl⟩:=hpo2
     rw[hpw] at hpw2
     injection hpw2 with hpw2
     subst hpw2
     refine⟨rfl,pchk_intro hgood.1 hgood.2.1 ?_ (fun _=>rfl),q2.closed,fun _=>rfl,fun e=>absurd e (by simp),fun e=>absurd e (by simp)⟩
     show ((0:Nat):Int)<=plim x.room
     have:=hgood.2.2.1
     omega
    . intro kk hkk
      exact⟨_,rfl,by rw[<- hp1out];exact z2 kk (by omega)⟩
   .
    rw[if_neg hhd]
    refine⟨C1,fun i=>if i=a then E a else E i,?_⟩
    unfold SMach.setX SMach.setP
    refine inv_own g h hn hp p1 (M.pipes.set (firstIn ns a+m) _) M.sunk C1 (E a) (by simp) (by rw[hov];exact hp1ov) ?_ (fun _=>rfl) (hothX _) (hnew _ _ rfl hp1rd) (fun kk hkk=>⟨[],by simp,by simp[hp1out]⟩)
    refine⟨hp1l.trans hpr.glen,by rw[hp1out];exact hpr.olen,by rw[hp1pos];exact hpr.rng,fun e=>absurd (hp1ov.symm.trans e) (by simp),fun e=>absurd (hp1ov.symm.trans e) (by simp),hpr.pre,hC1cp,fun e=>absurd (hp1rd.symm.trans e) (by simp),hsm1,by rw[hp1out];exact hpr.osmall,fun e=>absurd e h5,fun e=>absurd e h5,fun _=>⟨m,by rw[hp1pos];exact hw.pos,fun _=>by omega,hpast1,hnext1,fun e=>absurd e h5,fun _ e=>absurd (hps.symm.trans e) (by simp),fun _ _=>⟨hgc,y2,fun k3 k9=>?_⟩⟩⟩
    have h1:=(right_ins hch).2 (Or.inr (Or.inl k3))
    have hm0:m=0:=by omega
    subst hm0
    have e1:=hgc 0 (by omega)
    rw[hp1m,<- hp1at] at e1
    rw[<- e1]
    have:¬n.c.n<=(p1.at.count 10:Int):=fun e=>hhd ⟨k3,k9,e⟩
    omega
theorem inv_step {ns:List SNode} {fs:List SFile} {room:Int} {M:SMach} {C:Nat->List UInt8} {E:Nat->Nat->List UInt8} (g:RightG ns) (h:MInv ns fs room M C E) (a:Nat):∃C' E',MInv ns fs room (stepN M a).1 C' E':=by
 unfold stepN
 cases hn:M.ns[a]? with
 | none=>exact⟨C,E,h⟩
 | some n=>
  cases hp:M.ps[a]? with
  | none=>exact⟨C,E,h⟩
  | some p=>
   rw[h.ens] at hn
   simp only
   unfold stepP
   by_cases hov:p.ov=true
   . rw[if_pos hov];exact⟨C,E,h⟩
   .
    rw[if_neg hov]
    have hov':p.ov=false:=by simpa using hov
    by_cases hany:p.out.any (fun b=>!b.isEmpty)=true
    .
     rw[if_pos hany]
     have key:∀(r:List (List UInt8)) (k:Nat),p.out.drop k=r -> ∃C' E',MInv ns fs room (writeS M a p k r).1 C' E':=by
      intro r
      induction r with
      | nil=>intro k _;exact⟨C,E,h⟩
      | cons b r ih=>
       intro k hk
       have hb:p.out[k]? = some b:=by
        have:(p.out.drop k)[0]? = some b:=by rw[hk];rfl
        rw[List.getElem?_drop] at this
        exact this
       unfold writeS
       split
       . exact⟨C,E,inv_write g h hn hp hov' hb⟩
       . refine ih (k+1) ?_
         rw[<- List.drop_drop,hk]
         rfl
     exact key p.out 0 rfl
    .
     rw[if_neg hany]
     have hout:∀b∈p.out,b=[]:=by
      intro b hb
      have h1:¬(∃x∈p.out,(!x.isEmpty)=true):=fun hx=>hany (List.any_eq_true.2 hx)
      cases hbe:b with
      | nil=>rfl
      | cons c r=>exact absurd ⟨b,hb,by rw[hbe];rfl⟩ h1
     by_cases hrd:p.rd=true
     . rw[if_pos hrd]
       exact⟨C,E,inv_end g h hn hp hov' hrd hout⟩
     .
      rw[if_neg hrd]
      have hrd':p.rd=false:=by simpa using hrd
      by_cases hgot:p.got.isEmpty=true
      . rw[if_pos hgot]
        obtain⟨E',h'⟩:=inv_source g h hn hp hov' hrd' hout (List.isEmpty_iff.1 hgot)
        exact⟨C,E',h'⟩
      .
       rw[if_neg hgot]
       have hgot':p.got≠[]:=fun e=>hgot (List.isEmpty_iff.2 e)
       unfold readS
       rw[h.ens]
       by_cases hc:((M.pipe (firstIn ns a+p.pos.toNat)).closed && (M.pipe (firstIn ns a+p.pos.toNat)).b.isEmpty)=true
       . rw[if_pos hc]
         simp only[Bool.and_eq_true,List.isEmpty_iff] at hc
         obtain⟨E',h'⟩:=inv_next g h hn hp hov' hrd' hout hgot' hc.1 hc.2
         refine⟨C,E',?_⟩
         split
         . rename_i e;rw[if_pos e] at h';exact h'
         . rename_i e;rw[if_neg e] at h';exact h'
       . rw[if_neg hc]
         by_cases he:(M.pipe (firstIn ns a+p.pos.toNat)).b.isEmpty=true
         . rw[if_pos he];exact⟨C,E,h⟩
         . rw[if_neg he]
           exact inv_came g h hn hp hov' hrd' hout hgot' rfl (fun e=>he (List.isEmpty_iff.2 e))
theorem repl_getD (m j:Nat):((List.replicate m ([]:List UInt8))[j]?.getD [])=[]:=by
 rw[List.getElem?_replicate]
 split <;> rfl
theorem head_pos {c:Cmd} (h:chk c=0) (h9:c.kind=9):1<=c.n:=by
 unfold chk at h
 have hu:uses c.kind=2:=by rw[h9];decide
 rw[if_neg (by omega)] at h
 split at h
 . cases h
 .
  split at h
  . cases h
  . rename_i h1
    have:¬(c.n<1\/1000<c.n):=fun e=>h1 ⟨hu,e⟩
    omega
theorem work_chk {n:SNode} (h:nodeChk n=0) (h3:n.kind=3):chk n.c=0:=by
 rcases used_kinds (node_kinds h).1 with ⟨h4 | h4,_⟩ | ⟨h4,_⟩ | ⟨_,h4⟩ | ⟨h4,_⟩
 . omega
 . omega
 . omega
 . exact h4
 . omega
theorem inv_fresh {ns:List SNode} {fs:List SFile} {room:Int} (g:RightG ns) (h1:1<=room) (h2:room<=1000):MInv ns fs room (freshM ns fs room) (fun _=>[]) (fun _ _=>[]):=by
 refine⟨rfl,rfl,by simp[freshM],by simp[freshM],?_,?_⟩
 .
  intro i n p hn hp
  have hp':p=freshP n:=by
   unfold freshM at hp
   rw[List.getElem?_map,hn] at hp
   injection hp with hp
   exact hp.symm
  subst hp'
  have hch:=g.node n (mGt hn)
  have hcnt:=nodeMade_count hch fs (n.ins.map (portAt (outsL fs [] ns)))
  refine⟨by simp[freshP],by unfold freshP;simp only[List.length_replicate];omega,⟨by simp[freshP],by unfold freshP;simp only;omega⟩,fun e=>absurd e (by simp[freshP]),fun e=>absurd e (by simp[freshP]),fun k d _=>List.nil_prefix,fun j d _=>List.nil_prefix,fun e=>absurd e (by simp[freshP]),fun j _=>by unfold freshP;simp only;rw[repl_getD];simp,fun k d _=>by unfold freshP;simp only;rw[repl_getD];simp,fun _=>rfl,fun _ e=>absurd e (by simp[freshP]),fun _=>⟨0,rfl,fun e=>by omega,fun j d hj=>absurd hj (by omega),fun j _ _=>rfl,fun _=>by unfold freshP;simp only;rw[repl_getD],fun h5 hps=>⟨fun j _=>by unfold freshP;simp only;rw[repl_getD],[],by unfold freshP;simp only;rw[repl_getD];simp,by unfold freshP;simp only;rw[repl_getD];rfl,whol_nil,?_⟩,fun h5 hps=>⟨fun j _=>by unfold freshP;simp only;rw[repl_getD],fun _=>rfl,fun h3 h9=>?_⟩⟩⟩
  . simp only[List.take_zero,List.flatten_nil,List.append_nil]
    exact (through_nil hps).symm
  . have:=head_pos (work_chk hch h3) h9
    simp
    omega
 .
  intro r n j i k pr pw x hn hj hr hw hx
  have hjl:j<n.ins.length:=(gSm hj).1
  obtain⟨i2,k2,m,e,hir,hm,hk⟩:=g.src hn hj
  simp only[Prod.mk.injEq,Int.natCast_inj] at e
  obtain⟨rfl,rfl⟩:=e
  unfold freshM at hr hw hx
  rw[List.getElem?_map,hn] at hr
  rw[List.getElem?_map,hm] at hw
  rw[List.getElem?_map,allIns_at hn hjl,hj] at hx
  injection hr with hr
  injection hw with hw
  injection hx with hx
  subst hr hw hx
  refine⟨rfl,?_,rfl,fun e=>absurd e (by simp),fun _=>?_,fun _ e=>absurd e (by simp[freshP])⟩
  . have:0<=roomOf ns room ((i:Int),(k:Int))/\roomOf ns room ((i:Int),(k:Int))<=1000:=by unfold roomOf;split <;> omega
    refine pchk_intro this.1 this.2 ?_ (fun _=>rfl)
    show ((0:Nat):Int)<=plim (roomOf ns room ((i:Int),(k:Int)))
    unfold plim
    split <;> omega
  . unfold freshP;simp only;rw[repl_getD];rfl
theorem RightG.last {ns:List SNode} (g:RightG ns):∃n p,ns[ns.length-1]? = some n/\n.kind=5/\n.ins=[p]:=by
 have:=g.pos
 obtain⟨n,hn⟩:∃n,ns[ns.length-1]? = some n:=⟨_,gEl (by omega)⟩
 have h5:=(g.sink _ n hn).2 (by omega)
 have h1:=(right_ins (g.node n (mGt hn))).2 (Or.inr (Or.inr h5))
 match hi:n.ins,h1 with
 | [p],_=>exact⟨n,p,hn,h5,hi⟩
theorem inv_sunk {ns:List SNode} {fs:List SFile} {room:Int} {M:SMach} {C:Nat->List UInt8} {E:Nat->Nat->List UInt8} (g:RightG ns) (h:MInv ns fs room M C E):M.sunk <+: sunk ns fs/\(overS M=true->M.sunk=sunk ns fs):=by
 obtain⟨n,po,hn,h5,hi⟩:=g.last
 obtain⟨p,hp⟩:∃p,M.ps[ns.length-1]? = some p:=⟨_,gEl (by rw[h.plen];have:=g.pos;omega)⟩
 have hpr:=h.proc _ n p hn hp
 rw[sunk_last hn,hi]
 simp only[List.head?_cons,Option.getD_some]
 have hin:(n.ins.map (portAt (outsL fs [] ns)))[0]? = some (portAt (outsL fs [] ns) po):=by rw[hi];rfl
 rw[hpr.snk h5]
 refine⟨hpr.cpre 0 _ hin,fun ho=>hpr.snk2 h5 (hpr.ovrd ?_) _ hin⟩
 have:=List.all_eq_true.1 ho p (mGt hp)
 exact this
def Bounded (ns:List SNode) (fs:List SFile):Prop:=∀(i k:Nat),(portAt (outsL fs [] ns) ((i:Int),(k:Int))).length<=40000
theorem badFirst_zero {l:List Int} (h:∀x∈l,x=0):badFirst l=0:=by
 unfold badFirst
 have:l.find? (fun x=>x != 0)=none:=by
  rw[List.find?_eq_none]
  intro x hx
  simp[h x hx]
 rw[this];rfl
theorem procsChk_zero:∀(ns:List SNode) (ps:List SProc),(∀(i:Nat) (n:SNode) (p:SProc),ns[i]? = some n->ps[i]? = some p->procChk n p=0)->procsChk ns ps=0
 | [],_,_=>by simp[procsChk]
 | n::ns,[],_=>by simp[procsChk]
 | n::ns,p::ps,h=>by
  unfold procsChk
  rw[if_neg (by simp[h 0 n p rfl rfl])]
  exact procsChk_zero ns ps (fun i n' p' hn hp=>h (i+1) n' p' (by simpa using hn) (by simpa using hp))
theorem anyLong_false {l:List (List UInt8)} (h:∀j:Nat,(l[j]?.getD []).length<=40000):anyLong l=false:=by
 unfold anyLong
 rw[List.any_eq_false]
 intro b hb
 obtain⟨j,hj⟩:=List.getElem?_of_mem hb
 have:=h j
 rw[hj] at this
 simp at this ⊢
 omega
theorem inv_mchk {ns:List SNode} {fs:List SFile} {room:Int} {M:SMach} {C:Nat->List UInt8} {E:Nat->Nat->List UInt8} (hg:gchk ns=0) (hf:fchk fs=0) (g:RightG ns) (hb:Bounded ns fs) (h:MInv ns fs room M C E):mchk M=0:=by
 have hins:∀(i:Nat) (n:SNode),ns[i]? = some n -> ∀(j:Nat) (d:List UInt8),(n.ins.map (portAt (outsL fs [] ns)))[j]? = some d->d.length<=40000:=by
  intro i n hn j d hd
  rw[List.getElem?_map] at hd
  cases hq:n.ins[j]? with
  | none=>rw[hq] at hd;cases hd
  | some po=>
   rw[hq] at hd
   injection hd with hd
   obtain⟨i2,k2,m2,e2,_,_,_⟩:=g.src hn hq
   subst e2
   rw[<- hd]
   exact hb i2 k2
 unfold mchk
 rw[h.ens,h.efs,if_neg (by simp[hg]),if_neg (by simp[hf]),if_neg (by rw[h.plen,h.xlen];simp),badFirst_zero,if_neg (by simp),procsChk_zero,if_neg (by simp),if_neg]
 .
  have h1:=(inv_sunk g h).1.length_le
  obtain⟨n,po,hn,h5,hi⟩:=g.last
  rw[sunk_last hn,hi] at h1
  have:=hins _ n hn 0 (portAt (outsL fs [] ns) po) (by rw[hi];rfl)
  simp only[List.head?_cons,Option.getD_some] at h1
  omega
 .
  intro i n p hn hp
  have hpr:=h.proc i n p hn hp
  have hch:=g.node n (mGt hn)
  have hcnt:=nodeMade_count hch fs (n.ins.map (portAt (outsL fs [] ns)))
  have hinl:(n.ins.map (portAt (outsL fs [] ns))).length=n.ins.length:=List.length_map _
  have hgl:=hpr.glen
  have hol:=hpr.olen
  have hr:=hpr.rng
  unfold procChk
  rw[if_neg (by omega),if_neg,if_neg]
  .
   rw[anyLong_false,anyLong_false]
   . simp
   .
    intro j
    by_cases hj:j<p.out.length
    . have:=hpr.osmall j _ (gEl (by omega))
      have hd:=port_ds g fs hn (k:=j) (by omega)
      have hbk:=hb i j
      rw[gEl (by omega:j<(nodeMade n fs (n.ins.map (portAt (outsL fs [] ns)))).length)] at hd
      injection hd with hd
      rw[hd] at this
      omega
    . rw[List.getElem?_eq_none (by omega)];simp
   .
    intro j
    by_cases hj:j<p.got.length
    . have h1:=hpr.small j (by omega)
      have h2:=(hpr.cpre j _ (gEl (by omega))).length_le
      have h3:=hins i n hn j _ (gEl (by omega))
      omega
    . rw[List.getElem?_eq_none (by omega)];simp
  .
   rintro (e | e | ⟨e1,e2⟩ | ⟨e1,e2,e3⟩)
   . omega
   . omega
   . exact absurd ((hpr.ovrd e1).symm.trans e2) (by simp)
   . obtain⟨m,hw⟩:=hpr.wait e1
     have:=hw.lt (by omega)
     have:=hw.pos
     omega
 .
  intro x hx
  obtain⟨y,hy,rfl⟩:=List.mem_map.1 hx
  obtain⟨q,hq⟩:=List.getElem?_of_mem hy
  have hql:q<(allIns ns).length:=by rw[<- h.xlen];exact (gSm hq).1
  obtain⟨r,j,n,hn,hj,rfl⟩:=pipe_owner ns q hql
  obtain⟨po,hpo⟩:∃po,n.ins[j]? = some po:=⟨_,gEl hj⟩
  obtain⟨i,k,m,e,_,hm,_⟩:=g.src hn hpo
  subst e
  obtain⟨pr,hr⟩:∃pr,M.ps[r]? = some pr:=⟨_,gEl (by rw[h.plen];exact (gSm hn).1)⟩
  obtain⟨pw,hw⟩:∃pw,M.ps[i]? = some pw:=⟨_,gEl (by rw[h.plen];exact (gSm hm).1)⟩
  exact (h.pipe r n j i k pr pw y hn hpo hr hw hq).2.good
theorem stuck_cases {M:SMach} {a:Nat} {n:SNode} {p:SProc} (hn:M.ns[a]? = some n) (hp:M.ps[a]? = some p) (h:(stepN M a).2≠0) (hov:p.ov=false) :
 (∃(k:Nat) (b:List UInt8),p.out[k]? = some b/\b≠[] /\ ¬0<(pwrite (M.pipe (intoOf M.ns ((a:Int),(k:Int)))) b).2.1) \/
 ((∀b∈p.out,b=[])/\p.rd=false/\p.got≠[]/\(M.pipe (firstIn M.ns a+p.pos.toNat)).b=[]/\(M.pipe (firstIn M.ns a+p.pos.toNat)).closed=false):=by
 unfold stepN at h
 rw[hn,hp] at h
 simp only at h
 unfold stepP at h
 rw[if_neg (by simp[hov])] at h
 by_cases hany:p.out.any (fun b=>!b.isEmpty)=true
 .
  rw[if_pos hany] at h
  obtain⟨b,hb,hbe⟩:=List.any_eq_true.1 hany
  obtain⟨k,hk⟩:=List.getElem?_of_mem hb
  left
  refine⟨k,b,hk,fun e=>by simp[e] at hbe,?_⟩
  have key:∀(r:List (List UInt8)) (s:Nat),p.out.drop s=r->(writeS M a p s r).2≠0 -> ∀(j:Nat) (b:List UInt8),s<=j->p.out[j]? = some b -> ¬0<(pwrite (M.pipe (intoOf M.ns ((a:Int),(j:Int)))) b).2.1:=by
   intro r
   induction r with
   | nil=>
    intro s hs _ j b hj hb
    have:p.out.length<=s:=by
     have:=congrArg List.length hs
     simp at this
     omega
    rw[List.getElem?_eq_none (by omega)] at hb
    cases hb
   | cons c r ih=>
    intro s hs hw j b hj hb
    have hc:p.out[s]? = some c:=by
     have:(p.out.drop s)[0]? = some c:=by rw[hs];rfl
     rw[List.getElem?_drop] at this
     exact this
    unfold writeS at hw
    by_cases hpos:0<(pwrite (M.pipe (intoOf M.ns ((a:Int),(s:Int)))) c).2.1
    . rw[if_pos hpos] at hw
      exact absurd rfl hw
    .
     rw[if_neg hpos] at hw
     by_cases e:j=s
     . subst e
       rw[hc] at hb
       injection hb with hb
       subst hb
       exact hpos
     . exact ih (s+1) (by rw[<- List.drop_drop,hs];rfl) hw j b (by omega) hb
  exact key p.out 0 rfl h k b (by omega) hk
 .
  rw[if_neg hany] at h
  right
  have hout:∀b∈p.out,b=[]:=by
   intro b hb
   have h1:¬(∃x∈p.out,(!x.isEmpty)=true):=fun hx=>hany (List.any_eq_true.2 hx)
   cases hbe:b with
   | nil=>rfl
   | cons c r=>exact absurd ⟨b,hb,by rw[hbe];rfl⟩ h1
  by_cases hrd:p.rd=true
  . rw[if_pos hrd] at h
    exact absurd rfl h
  .
   rw[if_neg hrd] at h
   by_cases hgot:p.got.isEmpty=true
   . rw[if_pos hgot] at h
     exact absurd rfl h
   .
    rw[if_neg hgot] at h
    unfold readS at h
    by_cases hc:((M.pipe (firstIn M.ns a+p.pos.toNat)).closed && (M.pipe (firstIn M.ns a+p.pos.toNat)).b.isEmpty)=true
    . rw[if_pos hc] at h
      exfalso
      split at h <;> exact h rfl
    . rw[if_neg hc] at h
      by_cases he:(M.pipe (firstIn M.ns a+p.pos.toNat)).b.isEmpty=true
      . refine⟨hout,by simpa using hrd,fun e=>hgot (List.isEmpty_iff.2 e),List.isEmpty_iff.1 he,?_⟩
        rw[he,Bool.and_true] at hc
        simpa using hc
      . rw[if_neg he] at h
        exact absurd rfl h
theorem inv_lives {ns:List SNode} {fs:List SFile} {room:Int} {M:SMach} {C:Nat->List UInt8} {E:Nat->Nat->List UInt8} (g:RightG ns) (hb:Bounded ns fs) (hroom:1<=room) (h:MInv ns fs room M C E) (hno:overS M=false):∃a,a<M.ps.length/\(stepN M a).2=0:=by
 refine Classical.byContradiction fun hall=>?_
 have hst:∀a,a<M.ps.length->(stepN M a).2≠0:=fun a ha e=>hall ⟨a,ha,e⟩
 have hget:∀a,a<ns.length -> ∃n p,ns[a]? = some n/\M.ps[a]? = some p:=fun a ha=>⟨_,_,gEl ha,gEl (by rw[h.plen];exact ha)⟩
 have hwr:∀(a:Nat) (n:SNode) (p:SProc) (k:Nat) (b:List UInt8),ns[a]? = some n->M.ps[a]? = some p->p.ov=false->p.out[k]? = some b->b≠[] -> ¬0<(pwrite (M.pipe (intoOf M.ns ((a:Int),(k:Int)))) b).2.1 ->
  n.kind≠2 /\ ∃r pr,a<r/\M.ps[r]? = some pr/\pr.ov=false/\(M.pipe (intoOf ns ((a:Int),(k:Int)))).b≠[]:=by
  intro a n p k b hn hp hov hk hbn hstuck
  have hpr:=h.proc a n p hn hp
  have hch:=g.node n (mGt hn)
  have hcnt:=nodeMade_count hch fs (n.ins.map (portAt (outsL fs [] ns)))
  have hkl:k<p.out.length:=(gSm hk).1
  have hol:=hpr.olen
  have hkn:(k:Int)<nouts n:=by omega
  obtain⟨r,j,n',hn',hj,har,hinto,hql⟩:=g.reader hn hkn
  obtain⟨x,hx⟩:∃x,M.pipes[firstIn ns r+j]? = some x:=⟨_,gEl (by rw[h.xlen];exact hql)⟩
  obtain⟨pr,hr⟩:∃pr,M.ps[r]? = some pr:=⟨_,gEl (by rw[h.plen];exact (gSm hn').1)⟩
  obtain⟨q1,q2⟩:=h.pipe r n' j a k pr p x hn' hj hr hp hx
  rw[h.ens,hinto] at hstuck
  rw[hinto]
  have hxp:M.pipe (firstIn ns r+j)=x:=by unfold SMach.pipe;rw[hx];rfl
  rw[hxp] at hstuck ⊢
  have hcl:x.closed=false:=q2.closed.trans hov
  have hbl:0<b.length:=List.length_pos_iff.2 hbn
  have hsh:x.shut=false:=by
   cases hs:x.shut with
   | false=>rfl
   | true=>rw[pwrite_ok0 q2.good hcl hs] at hstuck;exact absurd hbl hstuck
  rw[pwrite_ok1 q2.good hcl hsh] at hstuck
  have hgood:=pchk_parts q2.good
  have hfit:plim x.room<=(x.b.length:Int):=by
   have:=pfit_int (m:=b.length) hgood.2.2.1
   simp only at hstuck
   rw[show pfit b.length x.b.length x.room=0 by omega] at this
   split at this <;> omega
  have hflow:=q2.flow hsh
  rw[hk] at hflow
  simp only[Option.getD_some] at hflow
  have hds:=port_ds g fs hn hkn
  have hpre:=(hpr.pre k _ hds).length_le
  have hbk:=hb a k
  have hlen:(E a k).length=(C (firstIn ns r+j)).length+x.b.length+b.length:=by rw[hflow];simp;omega
  refine⟨fun h2=>?_,r,pr,har,hr,?_,fun e=>?_⟩
  . have:x.room=0:=by rw[q1];unfold roomOf;rw[if_pos (by simp[hn,h2])]
    rw[this] at hfit
    unfold plim at hfit
    rw[if_pos rfl] at hfit
    omega
  .
   cases ho:pr.ov with
   | false=>rfl
   | true=>
    have hrd:=(h.proc r n' pr hn' hr).ovrd ho
    have:=q2.all hsh hrd
    rw[this] at hlen
    omega
  .
   rw[e] at hfit
   unfold plim at hfit
   split at hfit
   . simp at hfit
   .
    have:x.room=room:=by
     rw[q1]
     unfold roomOf
     split
     . rename_i h2
       rename_i h3
       exact absurd (by rw[q1];unfold roomOf;rw[if_pos h2]) h3
     . rfl
    simp at hfit
    omega
 have hrd:∀(a:Nat) (n:SNode) (p:SProc),ns[a]? = some n->M.ps[a]? = some p->p.rd=false->p.got≠[]->(M.pipe (firstIn ns a+p.pos.toNat)).b=[]->(M.pipe (firstIn ns a+p.pos.toNat)).closed=false ->
  ∃(i:Nat) (pw:SProc) (k:Nat),i<a/\M.ps[i]? = some pw/\pw.ov=false /\ ∃m,ns[i]? = some m/\(k:Int)<nouts m/\intoOf ns ((i:Int),(k:Int))=firstIn ns a+p.pos.toNat:=by
  intro a n p hn hp hrd hgot hem hcl
  have hpr:=h.proc a n p hn hp
  have hinl:(n.ins.map (portAt (outsL fs [] ns))).length=n.ins.length:=List.length_map _
  have hgl:p.got.length=n.ins.length:=hpr.glen.trans hinl
  have hg0:n.ins.length≠0:=fun e=>hgot (List.length_eq_zero_iff.1 (hgl.trans e))
  obtain⟨m,hw⟩:=hpr.wait hrd
  have hmt:p.pos.toNat=m:=by rw[hw.pos];simp
  rw[hmt] at hcl ⊢
  have hml:m<n.ins.length:=by rw[<- hinl];exact hw.lt (by omega)
  obtain⟨po,hpo⟩:∃po,n.ins[m]? = some po:=⟨_,gEl hml⟩
  obtain⟨i,k,m',epo,hia,hm',hk⟩:=g.src hn hpo
  subst epo
  obtain⟨x,hx⟩:∃x,M.pipes[firstIn ns a+m]? = some x:=⟨_,gEl (by rw[h.xlen];exact allIns_len hn hml)⟩
  have hxp:M.pipe (firstIn ns a+m)=x:=by unfold SMach.pipe;rw[hx];rfl
  rw[hxp] at hcl
  obtain⟨pw,hpw⟩:∃pw,M.ps[i]? = some pw:=⟨_,gEl (by rw[h.plen];exact (gSm hm').1)⟩
  obtain⟨q1,q2⟩:=h.pipe a n m i k p pw x hn hpo hp hpw hx
  exact⟨i,pw,k,hia,hpw,q2.closed.symm.trans hcl,m',hm',hk,g.into hn hpo⟩
 have noread:∀(a:Nat) (n:SNode) (p:SProc),ns[a]? = some n->M.ps[a]? = some p->p.rd=false->p.got≠[]->(M.pipe (firstIn ns a+p.pos.toNat)).b=[]->(M.pipe (firstIn ns a+p.pos.toNat)).closed=false->False:=by
  intro a
  induction a using Nat.strongRecOn with
  | ind a ih=>
   intro n p hn hp h1 h2 h3 h4
   obtain⟨i,pw,k,hia,hpw,hov,m,hm,hk,hq⟩:=hrd a n p hn hp h1 h2 h3 h4
   have hst':=hst i (gSm hpw).1
   rcases stuck_cases (by rw[h.ens];exact hm) hpw hst' hov with ⟨k',b,hk',hb',hs'⟩ | ⟨s1,s2,s3,s4,s5⟩
   .
    obtain⟨h2',r,pr,har,hr,hro,hne⟩:=hwr i m pw k' b hm hpw hov hk' hb' hs'
    have hpr:=h.proc i m pw hm hpw
    have hch:=g.node m (mGt hm)
    have hcnt:=nodeMade_count hch fs (m.ins.map (portAt (outsL fs [] ns)))
    have hkl:k'<pw.out.length:=(gSm hk').1
    have hol:=hpr.olen
    have hno:nouts m<=1:=by unfold nouts;rw[if_neg h2'];split <;> omega
    have e1:k'=k:=by omega
    subst e1
    rw[hq] at hne
    exact hne h3
   . rw[h.ens] at s4 s5
     exact ih i hia m pw hm hpw s2 s3 s4 s5
 have hex:∃a,a<ns.length /\ ∃p,M.ps[a]? = some p/\p.ov=false:=by
  have:¬∀p∈M.ps,p.ov=true:=by
   intro hc
   have:overS M=true:=List.all_eq_true.2 hc
   rw[hno] at this
   cases this
  simp only[Classical.not_forall] at this
  obtain⟨p,hp,ho⟩:=this
  obtain⟨a,ha⟩:=List.getElem?_of_mem hp
  exact⟨a,by rw[<- h.plen];exact (gSm ha).1,p,ha,by simpa using ho⟩
 have key:∀d a,ns.length-a=d->a<ns.length -> ∀p,M.ps[a]? = some p->p.ov=false->False:=by
  intro d
  induction d using Nat.strongRecOn with
  | ind d ih=>
   intro a hd ha p hp hov
   obtain⟨n,_,hn,_⟩:=hget a ha
   rcases stuck_cases (by rw[h.ens];exact hn) hp (hst a (gSm hp).1) hov with ⟨k,b,hk,hbn,hs⟩ | ⟨s1,s2,s3,s4,s5⟩
   . obtain⟨_,r,pr,har,hr,hro,_⟩:=hwr a n p k b hn hp hov hk hbn hs
     have hrl:r<ns.length:=by rw[<- h.plen];exact (gSm hr).1
     exact ih (ns.length-r) (by omega) r rfl hrl pr hr hro
   . rw[h.ens] at s4 s5
     exact noread a n p hn hp s2 s3 s4 s5
 obtain⟨a,ha,p,hp,ho⟩:=hex
 exact key _ a rfl ha p hp ho
structure ProcF (n:SNode) (p:SProc):Prop where
 glen:p.got.length=n.ins.length
 olen:(p.out.length:Int)=nouts n
 pos0:0<=p.pos
 pos1:p.pos<=n.ins.length
 ovrd:p.ov=true->p.rd=true
 pos2:p.rd=false->n.ins.length≠0->p.pos<n.ins.length
structure Shape (M:SMach):Prop where
 gok:gchk M.ns=0
 fok:fchk M.fs=0
 plen:M.ps.length=M.ns.length
 xlen:M.pipes.length=(allIns M.ns).length
 proc:∀(i:Nat) (n:SNode) (p:SProc),M.ns[i]? = some n->M.ps[i]? = some p->ProcF n p
 pipe:∀x∈M.pipes,pchk x=0
theorem Shape.g {M:SMach} (h:Shape M):RightG M.ns:=right_graph h.gok
theorem badFirst_all {l:List Int} (h:badFirst l=0):∀x∈l,x=0:=by
 unfold badFirst at h
 cases hf:l.find? (fun x=>x != 0) with
 | none=>
  intro x hx
  have:=List.find?_eq_none.1 hf x hx
  simpa using this
 | some y=>
  rw[hf] at h
  have:=List.find?_some hf
  simp at h this
  exact absurd h this
theorem procsChk_all:∀(ns:List SNode) (ps:List SProc),procsChk ns ps=0 -> ∀(i:Nat) (n:SNode) (p:SProc),ns[i]? = some n->ps[i]? = some p->procChk n p=0
 | [],_,_,i,n,p,hn,_=>by simp at hn
 | _::_,[],_,i,n,p,_,hp=>by simp at hp
 | m::ns,q::ps,h,0,n,p,hn,hp=>by
  simp at hn hp
  subst hn hp
  unfold procsChk at h
  by_cases e:procChk m q=0
  . exact e
  . rw[if_pos e] at h;exact h
 | m::ns,q::ps,h,i+1,n,p,hn,hp=>by
  unfold procsChk at h
  by_cases e:procChk m q=0
  . rw[if_neg (by simp[e])] at h
    exact procsChk_all ns ps h i n p (by simpa using hn) (by simpa using hp)
  . rw[if_pos e] at h;exact absurd h e
theorem anyLong_all {l:List (List UInt8)} (h:anyLong l=false):∀b∈l,b.length<=40000:=by
 intro b hb
 unfold anyLong at h
 rw[List.any_eq_false] at h
 have:=h b hb
 simp at this
 exact this
theorem procChk_zero {n:SNode} {p:SProc} (h:procChk n p=0):ProcF n p/\(∀b∈p.got,b.length<=40000) /\ ∀b∈p.out,b.length<=40000:=by
 unfold procChk at h
 split at h
 . cases h
 .
  rename_i h1
  split at h
  . cases h
  .
   rename_i h2
   split at h
   . cases h
   .
    rename_i h3
    simp only[not_or] at h1 h2
    simp only[Bool.or_eq_true,not_or,Bool.not_eq_true] at h3
    refine⟨⟨by omega,by omega,by omega,by omega,fun e=>?_,fun e e2=>?_⟩,anyLong_all h3.1,anyLong_all h3.2⟩
    . cases hr:p.rd with
      | true=>rfl
      | false=>exact absurd ⟨e,hr⟩ h2.2.2.1
    . have:=h2.2.2.2
      have h4:¬(p.pos=n.ins.length):=fun e3=>this ⟨e,by omega,e3⟩
      omega
theorem mchk_zero {M:SMach} (h:mchk M=0):Shape M/\(∀p∈M.ps,(∀b∈p.got,b.length<=40000) /\ ∀b∈p.out,b.length<=40000)/\M.sunk.length<=40000:=by
 unfold mchk at h
 split at h
 . rename_i e;exact absurd h e
 .
  rename_i h1
  split at h
  . rename_i e;exact absurd h e
  .
   rename_i h2
   split at h
   . cases h
   .
    rename_i h3
    split at h
    . rename_i e;exact absurd h e
    .
     rename_i h4
     split at h
     . rename_i e;exact absurd h e
     .
      rename_i h5
      split at h
      . cases h
      . rename_i h6
        have hpl:M.ps.length=M.ns.length:=by omega
        have hall:=procsChk_all M.ns M.ps (by omega)
        refine⟨⟨by omega,by omega,hpl,by omega,fun i n p hn hp=>(procChk_zero (hall i n p hn hp)).1,fun x hx=>badFirst_all (by omega) _ (List.mem_map_of_mem hx)⟩,fun p hp=>?_,by omega⟩
        obtain⟨i,hi⟩:=List.getElem?_of_mem hp
        have hil:i<M.ns.length:=by rw[<- hpl];exact (gSm hi).1
        exact (procChk_zero (hall i _ p (gEl hil) hi)).2
theorem Shape.change {M:SMach} (h:Shape M) {a:Nat} {n:SNode} (hn:M.ns[a]? = some n) (p':SProc) (X:List SPipe) (s:List UInt8) (hp:ProcF n p') (hX:X.length=M.pipes.length) (hx:∀x∈X,pchk x=0):Shape ⟨M.ns,M.fs,X,M.ps.set a p',s⟩:=by
 refine⟨h.gok,h.fok,by simpa using h.plen,hX.trans h.xlen,fun i n' q hn' hq=>?_,hx⟩
 rcases set_at hq with ⟨rfl,rfl⟩ | ⟨_,hq⟩
 . rw[show (⟨M.ns,M.fs,X,M.ps.set i q,s⟩:SMach).ns=M.ns from rfl,hn] at hn'
   injection hn' with hn'
   subst hn'
   exact hp
 . exact h.proc i n' q hn' hq
theorem full_form {n:SNode} {p:SProc} (hc:nodeChk n=0) (fs:List SFile) (h:ProcF n p) (hpos:p.pos<=n.ins.length):ProcF n (fullP n fs p):=by
 have:=nodeMade_count hc fs p.got
 have:=h.olen
 refine⟨by unfold fullP;simpa using h.glen,?_,h.pos0,hpos,fun _=>rfl,fun e=>absurd e (by simp[fullP])⟩
 unfold fullP
 simp only[List.length_zipWith]
 omega
theorem mem_set {xs:List SPipe} {q:Nat} {y x:SPipe} (h:x∈xs.set q y):x=y\/x∈xs:=by
 rcases List.mem_or_eq_of_mem_set h with h | h
 . exact Or.inr h
 . exact Or.inl h
theorem pwrite_good {x:SPipe} {b:List UInt8} (h:pchk x=0) (hn:0<(pwrite x b).2.1):pchk (pwrite x b).1=0/\(pwrite x b).2.1<=b.length/\(pwrite x b).1.closed=x.closed/\(pwrite x b).1.shut=x.shut/\(pwrite x b).1.room=x.room:=by
 have hg:=pchk_parts h
 cases hc:x.closed with
 | true=>
  have:pwrite x b=(zeroP,0,7):=by unfold pwrite;rw[if_neg (by simp[h]),if_pos hc]
  rw[this] at hn
  exact absurd hn (by simp)
 | false=>
  cases hs:x.shut with
  | true=>
   rw[pwrite_ok0 h hc hs]
   refine⟨pchk_intro hg.1 hg.2.1 ?_ (fun _=>rfl),Nat.le_refl _,hc,hs,rfl⟩
   show ((0:Nat):Int)<=plim x.room
   have:=hg.2.2.1
   omega
  | false=>
   rw[pwrite_ok1 h hc hs]
   refine⟨pchk_intro hg.1 hg.2.1 ?_ (fun e=>absurd (hs.symm.trans e) (by simp)),pfit_le,hc,hs,rfl⟩
   have h3:=pfit_sum (m:=b.length) hg.2.1 hg.2.2.1
   have h4:pfit b.length x.b.length x.room<=b.length:=pfit_le
   show ((x.b++b.take (pfit b.length x.b.length x.room)).length:Int)<=plim x.room
   rw[List.length_append,List.length_take,Nat.min_eq_left h4]
   exact h3.2
abbrev T4:=Nat × Nat × Nat × Nat
def r4:T4->T4->Prop:=Prod.Lex (· < ·) (Prod.Lex (· < ·) (Prod.Lex (· < ·) (· < ·)))
theorem r4_wf:∀x,Acc r4 x:=(Prod.lex ⟨_,Nat.lt_wfRel.wf⟩ (Prod.lex ⟨_,Nat.lt_wfRel.wf⟩ (Prod.lex ⟨_,Nat.lt_wfRel.wf⟩ ⟨_,Nat.lt_wfRel.wf⟩))).wf.apply
def RL:List T4->List T4->Prop
 | a::l,b::l'=>(r4 a b/\l.length=l'.length)\/(a=b/\RL l l')
 | _,_=>False
theorem RL.len:∀{l l':List T4},RL l l'->l.length=l'.length
 | a::l,b::l',h=>by
  rcases h with ⟨_,h⟩ | ⟨_,h⟩
  . simp[h]
  . simp[RL.len h]
 | [],[],h=>h.elim
 | [],_::_,h=>h.elim
 | _::_,[],h=>h.elim
theorem RL.acc_cons {m:Nat} (hm:∀l:List T4,l.length=m->Acc RL l):∀(b:T4),Acc r4 b -> ∀l:List T4,l.length=m->Acc RL (b::l):=by
 intro b hb
 induction hb with
 | intro b _ ihb=>
  intro l hl
  have hacc:=hm l hl
  induction hacc with
  | intro l _ ihl=>
   refine Acc.intro _ (fun y hy=>?_)
   cases y with
   | nil=>exact hy.elim
   | cons a l2=>
    rcases hy with ⟨h,hl2⟩ | ⟨rfl,h⟩
    . exact ihb a h l2 (hl2.trans hl)
    . exact ihl l2 h (h.len.trans hl)
theorem RL.acc:∀(m:Nat) (l:List T4),l.length=m->Acc RL l
 | 0,l,h=>by
  obtain rfl:=List.length_eq_zero_iff.1 h
  exact Acc.intro _ (fun y hy=>by cases y <;> exact hy.elim)
 | m+1,[],h=>by simp at h
 | m+1,b::l,h=>RL.acc_cons (RL.acc m) b (r4_wf b) l (by simpa using h)
theorem RL.at:∀(l l':List T4) (a:Nat) (x y:T4),l.length=l'.length->l[a]? = some x->l'[a]? = some y->(∀i,i<a->l[i]? = l'[i]?)->r4 x y->RL l l'
 | [],_,a,x,y,_,h,_,_,_=>by simp at h
 | _::_,[],a,x,y,_,_,h,_,_=>by simp at h
 | u::l,v::l',0,x,y,hl,h1,h2,_,hr=>by
  simp at h1 h2 hl
  subst h1 h2
  exact Or.inl ⟨hr,hl⟩
 | u::l,v::l',a+1,x,y,hl,h1,h2,hs,hr=>by
  have h0:=hs 0 (by omega)
  simp at h0
  subst h0
  exact Or.inr ⟨rfl,RL.at l l' a x y (by simpa using hl) (by simpa using h1) (by simpa using h2) (fun i hi=>by simpa using hs (i+1) (by omega)) hr⟩
def inBytes (M:SMach) (i m:Nat):Nat:=((List.range m).map (fun j=>(M.pipe (firstIn M.ns i+j)).b.length)).sum
def left4 (M:SMach) (i:Nat):T4:=
 match M.ns[i]?,M.ps[i]? with
 | some n,some p=>((if p.rd then 0 else 1)+(if p.ov then 0 else 1),n.ins.length-p.pos.toNat,inBytes M i n.ins.length,p.out.flatten.length)
 | _,_=>(0,0,0,0)
def mu (M:SMach):List T4:=(List.range M.ns.length).map (left4 M)
theorem r4_1 {a b:Nat} {x y:Nat × Nat × Nat} (h:a<b):r4 (a,x) (b,y):=Prod.Lex.left _ _ h
theorem r4_2 {a b c:Nat} {x y:Nat × Nat} (h:b<c):r4 (a,b,x) (a,c,y):=Prod.Lex.right _ (Prod.Lex.left _ _ h)
theorem r4_3 {a b c d x y:Nat} (h:c<d):r4 (a,b,c,x) (a,b,d,y):=Prod.Lex.right _ (Prod.Lex.right _ (Prod.Lex.left _ _ h))
theorem r4_4 {a b c d e:Nat} (h:d<e):r4 (a,b,c,d) (a,b,c,e):=Prod.Lex.right _ (Prod.Lex.right _ (Prod.Lex.right _ h))
theorem sum_congr {f g:Nat->Nat}:∀(m:Nat),(∀j,j<m->f j=g j)->((List.range m).map f).sum=((List.range m).map g).sum:=by
 intro m h
 congr 1
 apply List.map_congr_left
 intro j hj
 exact h j (List.mem_range.1 hj)
theorem sum_less {f g:Nat->Nat}:∀(m:Nat) (a:Nat),a<m->(∀j,j<m->j≠a->f j=g j)->f a<g a->((List.range m).map f).sum<((List.range m).map g).sum:=by
 intro m
 induction m with
 | zero=>intro a ha;omega
 | succ m ih=>
  intro a ha h hlt
  rw[List.range_succ,List.map_append,List.map_append,List.sum_append_nat,List.sum_append_nat]
  simp only[List.map_cons,List.map_nil,List.sum_cons,List.sum_nil]
  by_cases e:a=m
  . subst e
    have:=sum_congr (f:=f) (g:=g) a (fun j hj=>h j (by omega) (by omega))
    omega
  . have h1:=ih a (by omega) (fun j hj hja=>h j (by omega) hja) hlt
    have h2:=h m (by omega) (fun e2=>e e2.symm)
    omega
theorem mu_less {M:SMach} {a:Nat} {n:SNode} {p p':SProc} {X:List SPipe} {s:List UInt8} (hn:M.ns[a]? = some n) (hp:M.ps[a]? = some p) (hpl:M.ps.length=M.ns.length)
 (hX:∀(i:Nat) (n':SNode) (j:Nat),M.ns[i]? = some n'->i<a->j<n'.ins.length->X[firstIn M.ns i+j]? = M.pipes[firstIn M.ns i+j]?)
 (hr:r4 (left4 ⟨M.ns,M.fs,X,M.ps.set a p',s⟩ a) (left4 M a)):RL (mu ⟨M.ns,M.fs,X,M.ps.set a p',s⟩) (mu M):=by
 have hal:a<M.ns.length:=(gSm hn).1
 unfold mu
 refine RL.at _ _ a _ _ (by simp) (by rw[List.getElem?_map,List.getElem?_range hal];rfl) (by rw[List.getElem?_map,List.getElem?_range hal];rfl) (fun i hi=>?_) hr
 rw[List.getElem?_map,List.getElem?_map,List.getElem?_range (by show i<M.ns.length;omega)]
 simp only[Option.map_some,Option.some.injEq]
 unfold left4
 obtain⟨n',hn'⟩:∃n',M.ns[i]? = some n':=⟨_,gEl (by omega)⟩
 obtain⟨q,hq⟩:∃q,M.ps[i]? = some q:=⟨_,gEl (by omega)⟩
 have hq2:(M.ps.set a p')[i]? = some q:=by rw[List.getElem?_set,if_neg (by omega),hq]
 simp only[hn',hq,hq2]
 congr 3
 unfold inBytes
 refine sum_congr _ (fun j hj=>?_)
 unfold SMach.pipe
 rw[hX i n' j hn' hi hj]
theorem left4_at {M:SMach} {a:Nat} {n:SNode} {p:SProc} (hn:M.ns[a]? = some n) (hp:M.ps[a]? = some p):left4 M a=((if p.rd then 0 else 1)+(if p.ov then 0 else 1),n.ins.length-p.pos.toNat,inBytes M a n.ins.length,p.out.flatten.length):=by
 unfold left4;rw[hn,hp]
theorem flat_set_less {l:List (List UInt8)} {k:Nat} {b c:List UInt8} (h:l[k]? = some b) (hc:c.length<b.length):(l.set k c).flatten.length<l.flatten.length:=by
 have hk:k<l.length:=(gSm h).1
 rw[gEl hk] at h
 injection h with h
 rw[List.set_eq_take_append_cons_drop,if_pos hk]
 conv=>rhs;rw[<- List.take_append_drop k l,List.drop_eq_getElem_cons hk]
 rw[h]
 simp
 omega
theorem ps_at {M:SMach} {a:Nat} {p p':SProc} (hp:M.ps[a]? = some p):(M.ps.set a p')[a]? = some p':=by
 rw[List.getElem?_set,if_pos rfl,if_pos (gSm hp).1]
theorem modify_good {xs:List SPipe} (h:∀x∈xs,pchk x=0) (ns:List SNode) (i:Nat):∀K,∀x∈closeTo ns i K xs,pchk x=0:=by
 intro K x hx
 obtain⟨q,hq⟩:=List.getElem?_of_mem hx
 obtain⟨y,hy,h1,h2⟩:=closeTo_get ns i xs K q x hq
 have hgy:=h y (mGt hy)
 by_cases hk:∃k:Nat,k<K/\q=intoOf ns ((i:Int),(k:Int))
 . rw[h1 hk];exact hgy
 . rw[h2 (fun k hkK e=>hk ⟨k,hkK,e⟩)];exact hgy
theorem shape_step {M:SMach} (h:Shape M) (a:Nat):Shape (stepN M a).1/\(stepN M a).1.ns=M.ns/\(stepN M a).1.fs=M.fs/\(((stepN M a).2≠0/\(stepN M a).1=M)\/((stepN M a).2=0/\RL (mu (stepN M a).1) (mu M))):=by
 unfold stepN
 cases hn:M.ns[a]? with
 | none=>exact⟨h,rfl,rfl,Or.inl ⟨by simp,rfl⟩⟩
 | some n=>
  cases hp:M.ps[a]? with
  | none=>exact⟨h,rfl,rfl,Or.inl ⟨by simp,rfl⟩⟩
  | some p=>
   simp only
   have hF:=h.proc a n p hn hp
   have hch:=h.g.node n (mGt hn)
   have hpipe:∀q,pchk (M.pipe q)=0:=by
    intro q
    unfold SMach.pipe
    cases hq:M.pipes[q]? with
    | none=>simp[zeroP,pchk,pck,plim]
    | some x=>exact h.pipe x (mGt hq)
   unfold stepP
   by_cases hov:p.ov=true
   . rw[if_pos hov];exact⟨h,rfl,rfl,Or.inl ⟨by simp,rfl⟩⟩
   .
    rw[if_neg hov]
    have hov':p.ov=false:=by simpa using hov
    by_cases hany:p.out.any (fun b=>!b.isEmpty)=true
    .
     rw[if_pos hany]
     have key:∀(r:List (List UInt8)) (k:Nat),p.out.drop k=r->Shape (writeS M a p k r).1/\(writeS M a p k r).1.ns=M.ns/\(writeS M a p k r).1.fs=M.fs/\(((writeS M a p k r).2≠0/\(writeS M a p k r).1=M)\/((writeS M a p k r).2=0/\RL (mu (writeS M a p k r).1) (mu M))):=by
      intro r
      induction r with
      | nil=>intro k _;exact⟨h,rfl,rfl,Or.inl ⟨by simp[writeS],rfl⟩⟩
      | cons b r ih=>
       intro k hk
       have hb:p.out[k]? = some b:=by
        have:(p.out.drop k)[0]? = some b:=by rw[hk];rfl
        rw[List.getElem?_drop] at this
        exact this
       unfold writeS
       by_cases hpos:0<(pwrite (M.pipe (intoOf M.ns ((a:Int),(k:Int)))) b).2.1
       .
        rw[if_pos hpos]
        unfold SMach.setX SMach.setP
        have hgd:=pwrite_good (hpipe _) hpos
        have hkl:k<p.out.length:=(gSm hb).1
        obtain⟨r',j',n',hn',hj',har,hinto,hql⟩:=h.g.reader (k:=k) hn (by have:=hF.olen;omega)
        refine⟨?_,rfl,rfl,Or.inr ⟨rfl,?_⟩⟩
        . exact h.change hn (p.setOut k _) _ M.sunk ⟨hF.glen,by unfold SProc.setOut;simpa using hF.olen,hF.pos0,hF.pos1,hF.ovrd,hF.pos2⟩ (by simp) (fun x hx=>by
           rcases mem_set hx with rfl | hx
           . exact hgd.1
           . exact h.pipe x hx)
        .
         refine mu_less (n:=n) (p:=p) hn hp h.plen ?_ ?_
         . intro i n2 j hn2 hia hj
           rw[List.getElem?_set,if_neg]
           intro e
           rw[hinto] at e
           have hjl':j'<n'.ins.length:=(gSm hj').1
           have:=(firstIn_inj hn' hn2 hjl' hj e).1
           omega
         .
          rw[left4_at (M:=⟨M.ns,M.fs,_,M.ps.set a _,_⟩) hn (ps_at hp),left4_at hn hp]
          have hin:inBytes ⟨M.ns,M.fs,M.pipes.set (intoOf M.ns ((a:Int),(k:Int))) (pwrite (M.pipe (intoOf M.ns ((a:Int),(k:Int)))) b).1,M.ps.set a (p.setOut k (b.drop (pwrite (M.pipe (intoOf M.ns ((a:Int),(k:Int)))) b).2.1)),M.sunk⟩ a n.ins.length=inBytes M a n.ins.length:=by
           unfold inBytes
           refine sum_congr _ (fun j hj=>?_)
           unfold SMach.pipe
           simp only
           rw[List.getElem?_set,if_neg]
           intro e
           rw[hinto] at e
           have hjl':j'<n'.ins.length:=(gSm hj').1
           have:=(firstIn_inj hn' hn hjl' hj e).1
           omega
          rw[hin]
          refine r4_4 (flat_set_less hb ?_)
          rw[List.length_drop]
          have:=hgd.2.1
          omega
       . rw[if_neg hpos]
         refine ih (k+1) ?_
         rw[<- List.drop_drop,hk]
         rfl
     exact key p.out 0 rfl
    .
     rw[if_neg hany]
     by_cases hrd:p.rd=true
     .
      rw[if_pos hrd]
      refine⟨?_,rfl,rfl,Or.inr ⟨rfl,?_⟩⟩
      . exact h.change hn ⟨p.got,p.pos,p.out,p.rd,true⟩ _ M.sunk ⟨hF.glen,hF.olen,hF.pos0,hF.pos1,fun _=>hrd,hF.pos2⟩ (closeTo_len _ _ _ _) (modify_good h.pipe _ _ _)
      .
       refine mu_less (n:=n) (p:=p) hn hp h.plen ?_ ?_
       . intro i n2 j hn2 hia hj
         obtain⟨x,hx⟩:∃x,(closeTo M.ns a p.out.length M.pipes)[firstIn M.ns i+j]? = some x:=⟨_,gEl (by rw[closeTo_len,h.xlen];exact allIns_len hn2 hj)⟩
         obtain⟨y,hy,_,h2⟩:=closeTo_get _ _ _ _ _ _ hx
         rw[hx,hy,h2]
         intro k hk e
         obtain⟨r',j',n',hn',hj',har,hinto,hql⟩:=h.g.reader (k:=k) hn (by have:=hF.olen;omega)
         rw[hinto] at e
         have hjl':j'<n'.ins.length:=(gSm hj').1
         have:=(firstIn_inj hn2 hn' hj hjl' e).1
         omega
       . rw[left4_at (M:=⟨M.ns,M.fs,_,M.ps.set a _,_⟩) hn (ps_at hp),left4_at hn hp]
         refine r4_1 ?_
         simp[hov']
     .
      rw[if_neg hrd]
      have hrd':p.rd=false:=by simpa using hrd
      by_cases hgot:p.got.isEmpty=true
      . rw[if_pos hgot]
        refine⟨h.change hn (fullP n M.fs p) M.pipes M.sunk (full_form hch _ hF hF.pos1) rfl h.pipe,rfl,rfl,Or.inr ⟨rfl,?_⟩⟩
        refine mu_less (n:=n) (p:=p) hn hp h.plen (fun i n2 j _ _ _=>rfl) ?_
        rw[left4_at (M:=⟨M.ns,M.fs,_,M.ps.set a _,_⟩) hn (ps_at hp),left4_at hn hp]
        refine r4_1 ?_
        simp[hrd',fullP,hov']
      .
       rw[if_neg hgot]
       have hg0:n.ins.length≠0:=by
        intro e
        rw[<- hF.glen] at e
        exact hgot (List.isEmpty_iff.2 (List.length_eq_zero_iff.1 e))
       have hposl:=hF.pos2 hrd' hg0
       have hpos0:=hF.pos0
       have hgl:=hF.glen
       unfold readS
       by_cases hc:((M.pipe (firstIn M.ns a+p.pos.toNat)).closed && (M.pipe (firstIn M.ns a+p.pos.toNat)).b.isEmpty)=true
       .
        rw[if_pos hc]
        by_cases hl:p.pos+1=p.got.length
        . rw[if_pos hl]
          refine⟨h.change hn (fullP n M.fs ⟨p.got,p.pos+1,p.out,p.rd,p.ov⟩) M.pipes M.sunk ?_ rfl h.pipe,rfl,rfl,Or.inr ⟨rfl,?_⟩⟩
          . have:=nodeMade_count hch M.fs p.got
            have:=hF.olen
            refine⟨by unfold fullP;simpa using hF.glen,by unfold fullP;simp only[List.length_zipWith];omega,by show 0<=p.pos+1;omega,by show p.pos+1<=_;omega,fun _=>rfl,fun e=>absurd e (by simp[fullP])⟩
          . refine mu_less (n:=n) (p:=p) hn hp h.plen (fun i n2 j _ _ _=>rfl) ?_
            rw[left4_at (M:=⟨M.ns,M.fs,_,M.ps.set a _,_⟩) hn (ps_at hp),left4_at hn hp]
            refine r4_1 ?_
            simp[hrd',fullP,hov']
        . rw[if_neg hl]
          refine⟨h.change hn ⟨p.got,p.pos+1,p.out,p.rd,p.ov⟩ M.pipes M.sunk ⟨hF.glen,hF.olen,by show 0<=p.pos+1;omega,by show p.pos+1<=_;omega,hF.ovrd,fun _ _=>by show p.pos+1<_;omega⟩ rfl h.pipe,rfl,rfl,Or.inr ⟨rfl,?_⟩⟩
          refine mu_less (n:=n) (p:=p) hn hp h.plen (fun i n2 j _ _ _=>rfl) ?_
          rw[left4_at (M:=⟨M.ns,M.fs,_,M.ps.set a _,_⟩) hn (ps_at hp),left4_at hn hp]
          refine r4_2 ?_
          show n.ins.length-(p.pos+1).toNat<n.ins.length-p.pos.toNat
          omega
       .
        rw[if_neg hc]
        by_cases he:(M.pipe (firstIn M.ns a+p.pos.toNat)).b.isEmpty=true
        . rw[if_pos he];exact⟨h,rfl,rfl,Or.inl ⟨by simp,rfl⟩⟩
        .
         rw[if_neg he]
         obtain⟨m,hm⟩:∃m:Nat,m=p.pos.toNat:=⟨_,rfl⟩
         rw[<- hm] at he ⊢
         have hml:m<n.ins.length:=by omega
         obtain⟨x,hx⟩:∃x,M.pipes[firstIn M.ns a+m]? = some x:=⟨_,gEl (by rw[h.xlen];exact allIns_len hn hml)⟩
         have hxp:M.pipe (firstIn M.ns a+m)=x:=by unfold SMach.pipe;rw[hx];rfl
         rw[hxp] at he ⊢
         have hxg:=pchk_parts (h.pipe x (mGt hx))
         have hxb:x.b≠[]:=fun e=>he (List.isEmpty_iff.2 e)
         have hsf:x.shut=false:=by
          cases hs:x.shut with
          | false=>rfl
          | true=>exact absurd (List.length_eq_zero_iff.1 (hxg.2.2.2 hs)) hxb
         have hg1:pchk ⟨x.b.drop 8,x.room,x.closed,x.shut⟩=0:=by
          refine pchk_intro hxg.1 hxg.2.1 ?_ (fun e=>absurd (hsf.symm.trans e) (by simp))
          show ((x.b.drop 8).length:Int)<=plim x.room
          rw[List.length_drop]
          have:=hxg.2.2.1
          omega
         have hg2:pchk ⟨[],x.room,x.closed,true⟩=0:=by
          refine pchk_intro hxg.1 hxg.2.1 ?_ (fun _=>rfl)
          show ((0:Nat):Int)<=plim x.room
          have:=hxg.2.2.1
          omega
         have hset:∀z,pchk z=0 -> ∀y∈M.pipes.set (firstIn M.ns a+m) z,pchk y=0:=by
          intro z hz y hy
          rcases mem_set hy with rfl | hy
          . exact hz
          . exact h.pipe y hy
         have hother:∀(z:SPipe) (i:Nat) (n2:SNode) (j:Nat),M.ns[i]? = some n2->i<a->j<n2.ins.length->(M.pipes.set (firstIn M.ns a+m) z)[firstIn M.ns i+j]? = M.pipes[firstIn M.ns i+j]?:=by
          intro z i n2 j hn2 hia hj
          rw[List.getElem?_set,if_neg]
          intro e
          have:=(firstIn_inj hn hn2 hml hj e).1
          omega
         have hless:∀(z:SPipe) (P:List SProc) (s:List UInt8),z.b.length<x.b.length->inBytes ⟨M.ns,M.fs,M.pipes.set (firstIn M.ns a+m) z,P,s⟩ a n.ins.length<inBytes M a n.ins.length:=by
          intro z P s hz
          unfold inBytes
          refine sum_less _ m hml (fun j hj hjm=>?_) ?_
          . unfold SMach.pipe
            simp only
            rw[List.getElem?_set,if_neg (by omega)]
          . unfold SMach.pipe
            simp only
            rw[set_get hx,hx]
            exact hz
         have hd8:(x.b.drop 8).length<x.b.length:=by
          have:=List.length_pos_iff.2 hxb
          rw[List.length_drop]
          omega
         obtain⟨p1,hp1⟩:∃p1,p1=p.setGot (p.at++x.b.take 8):=⟨_,rfl⟩
         rw[<- hp1]
         have hF1:ProcF n p1:=by
          rw[hp1]
          exact⟨by unfold SProc.setGot;simpa using hF.glen,hF.olen,hF.pos0,hF.pos1,hF.ovrd,hF.pos2⟩
         have hp1rd:p1.rd=false:=by rw[hp1];exact hrd'
         have hp1ov:p1.ov=false:=by rw[hp1];exact hov'
         have hp1pos:p1.pos=p.pos:=by rw[hp1];rfl
         unfold cameS
         by_cases h5:n.kind=5
         . rw[if_pos h5]
           refine⟨h.change hn (p1.setGot []) _ _ ⟨by unfold SProc.setGot;simpa using hF1.glen,hF1.olen,hF1.pos0,hF1.pos1,hF1.ovrd,hF1.pos2⟩ (by simp[SMach.setX]) (hset _ hg1),rfl,rfl,Or.inr ⟨rfl,?_⟩⟩
           refine mu_less (n:=n) (p:=p) hn hp h.plen (hother _) ?_
           rw[left4_at (M:=⟨M.ns,M.fs,_,M.ps.set a _,_⟩) hn (ps_at hp),left4_at hn hp]
           rw[show (p1.setGot []).rd=p.rd from hp1rd.trans hrd'.symm,show (p1.setGot []).ov=p.ov from hp1ov.trans hov'.symm,show (p1.setGot []).pos=p.pos from hp1pos]
           exact r4_3 (hless _ _ _ hd8)
         .
          rw[if_neg h5]
          split
          . refine⟨h.change hn ((p1.setOut 0 _).setGot _) _ _ ⟨by unfold SProc.setGot SProc.setOut;simpa using hF1.glen,by unfold SProc.setGot SProc.setOut;simpa using hF1.olen,hF1.pos0,hF1.pos1,hF1.ovrd,hF1.pos2⟩ (by simp[SMach.setX]) (hset _ hg1),rfl,rfl,Or.inr ⟨rfl,?_⟩⟩
            refine mu_less (n:=n) (p:=p) hn hp h.plen (hother _) ?_
            rw[left4_at (M:=⟨M.ns,M.fs,_,M.ps.set a _,_⟩) hn (ps_at hp),left4_at hn hp]
            rw[show ((p1.setOut 0 ((p1.out[0]?).getD []++through n (p1.at.take (cutOf p1.at)))).setGot (p1.at.drop (cutOf p1.at))).rd=p.rd from hp1rd.trans hrd'.symm,show ((p1.setOut 0 ((p1.out[0]?).getD []++through n (p1.at.take (cutOf p1.at)))).setGot (p1.at.drop (cutOf p1.at))).ov=p.ov from hp1ov.trans hov'.symm,show ((p1.setOut 0 ((p1.out[0]?).getD []++through n (p1.at.take (cutOf p1.at)))).setGot (p1.at.drop (cutOf p1.at))).pos=p.pos from hp1pos]
            exact r4_3 (hless _ _ _ hd8)
          .
           split
           . have hpx:(M.setX (firstIn M.ns a+m) ⟨x.b.drop 8,x.room,x.closed,x.shut⟩).pipe (firstIn M.ns a+m)=⟨x.b.drop 8,x.room,x.closed,x.shut⟩:=by
              unfold SMach.pipe SMach.setX
              simp only
              rw[set_get hx]
              rfl
             rw[hpx]
             unfold SMach.setX SMach.setP
             rw[show ((M.pipes.set (firstIn M.ns a+m) ⟨x.b.drop 8,x.room,x.closed,x.shut⟩).set (firstIn M.ns a+m) ⟨[],x.room,x.closed,true⟩)=M.pipes.set (firstIn M.ns a+m) ⟨[],x.room,x.closed,true⟩ from List.set_set ..]
             refine⟨h.change hn (fullP n M.fs p1) _ _ (full_form hch _ hF1 hF1.pos1) (by simp) (hset _ hg2),rfl,rfl,Or.inr ⟨rfl,?_⟩⟩
             refine mu_less (n:=n) (p:=p) hn hp h.plen (hother _) ?_
             rw[left4_at (M:=⟨M.ns,M.fs,_,M.ps.set a _,_⟩) hn (ps_at hp),left4_at hn hp]
             refine r4_1 ?_
             simp[hrd',fullP,hp1ov,hov']
           . refine⟨h.change hn p1 _ _ hF1 (by simp[SMach.setX]) (hset _ hg1),rfl,rfl,Or.inr ⟨rfl,?_⟩⟩
             refine mu_less (n:=n) (p:=p) hn hp h.plen (hother _) ?_
             rw[left4_at (M:=⟨M.ns,M.fs,_,M.ps.set a _,_⟩) hn (ps_at hp),left4_at hn hp]
             rw[show p1.rd=p.rd from hp1rd.trans hrd'.symm,show p1.ov=p.ov from hp1ov.trans hov'.symm,show p1.pos=p.pos from hp1pos]
             exact r4_3 (hless _ _ _ hd8)
theorem round_cases {M:SMach} (h:Shape M):∀k,Shape (roundTo M k).1/\(roundTo M k).1.ns=M.ns/\(roundTo M k).1.fs=M.fs /\
 (((roundTo M k).2=false/\(roundTo M k).1=M /\ ∀a,a<k->(stepN M a).2≠0)\/((roundTo M k).2=true/\Relation.TransGen RL (mu (roundTo M k).1) (mu M)))
 | 0=>⟨h,rfl,rfl,Or.inl ⟨rfl,rfl,fun a ha=>absurd ha (by omega)⟩⟩
 | k+1=>by
  obtain⟨h1,h2,h3,h4⟩:=round_cases h k
  obtain⟨s1,s2,s3,s4⟩:=shape_step h1 k
  refine⟨s1,s2.trans h2,s3.trans h3,?_⟩
  unfold roundTo
  simp only
  rcases h4 with ⟨a1,a2,a3⟩ | ⟨a1,a2⟩
  .
   rcases s4 with ⟨b1,b2⟩ | ⟨b1,b2⟩
   . left
     refine⟨by rw[a1,decide_eq_false b1];rfl,b2.trans a2,fun a ha=>?_⟩
     by_cases e:a=k
     . subst e;rw[a2] at b1;exact b1
     . exact a3 a (by omega)
   . right
     refine⟨by rw[a1,decide_eq_true b1];rfl,?_⟩
     have b3:=Relation.TransGen.single b2
     rw[a2] at b3 ⊢
     exact b3
  . right
    rcases s4 with ⟨b1,b2⟩ | ⟨b1,b2⟩
    . refine⟨by rw[a1];rfl,?_⟩
      rw[b2];exact a2
    . exact⟨by rw[a1];rfl,Relation.TransGen.trans (Relation.TransGen.single b2) a2⟩
theorem fin_ex {M:SMach} (h:Shape M):∃k r,Fins k M r:=by
 have key:∀l:List T4,Acc (Relation.TransGen RL) l -> ∀M:SMach,Shape M->mu M=l -> ∃k r,Fins k M r:=by
  intro l hl
  induction hl with
  | intro l _ ih=>
   intro M h hM
   cases ho:overS M with
   | true=>exact⟨0,_,Or.inl ⟨ho,rfl⟩⟩
   | false=>
    obtain⟨h1,h2,h3,h4⟩:=round_cases h M.ps.length
    rcases h4 with ⟨a1,a2,a3⟩ | ⟨a1,a2⟩
    . exact⟨0,_,Or.inr ⟨ho,a1,rfl⟩⟩
    . obtain⟨k,r,hk⟩:=ih (mu (roundS M).1) (hM ▸ a2) (roundS M).1 h1 rfl
      exact⟨k+1,r,ho,a1,hk⟩
 exact key (mu M) ((RL.acc (mu M).length (mu M) rfl).transGen) M h rfl
theorem inv_shape {ns:List SNode} {fs:List SFile} {room:Int} {M:SMach} {C:Nat->List UInt8} {E:Nat->Nat->List UInt8} (hg:gchk ns=0) (hf:fchk fs=0) (h:MInv ns fs room M C E):Shape M:=by
 have g:=right_graph hg
 refine⟨by rw[h.ens];exact hg,by rw[h.efs];exact hf,by rw[h.ens];exact h.plen,by rw[h.ens];exact h.xlen,fun i n p hn hp=>?_,fun x hx=>?_⟩
 .
  rw[h.ens] at hn
  have hpr:=h.proc i n p hn hp
  have hch:=g.node n (mGt hn)
  have hcnt:=nodeMade_count hch fs (n.ins.map (portAt (outsL fs [] ns)))
  have hinl:(n.ins.map (portAt (outsL fs [] ns))).length=n.ins.length:=List.length_map _
  have h1:=hpr.rng
  rw[hinl] at h1
  refine⟨hpr.glen.trans hinl,by rw[hpr.olen];exact hcnt,h1.1,h1.2,hpr.ovrd,fun e e2=>?_⟩
  obtain⟨m,hw⟩:=hpr.wait e
  have:=hw.lt (by omega)
  have:=hw.pos
  omega
 .
  obtain⟨q,hq⟩:=List.getElem?_of_mem hx
  have hql:q<(allIns ns).length:=by rw[<- h.xlen];exact (gSm hq).1
  obtain⟨r,j,n,hn,hj,rfl⟩:=pipe_owner ns q hql
  obtain⟨po,hpo⟩:∃po,n.ins[j]? = some po:=⟨_,gEl hj⟩
  obtain⟨i,k,m,e,_,hm,_⟩:=g.src hn hpo
  subst e
  obtain⟨pr,hr⟩:∃pr,M.ps[r]? = some pr:=⟨_,gEl (by rw[h.plen];exact (gSm hn).1)⟩
  obtain⟨pw,hw⟩:∃pw,M.ps[i]? = some pw:=⟨_,gEl (by rw[h.plen];exact (gSm hm).1)⟩
  exact (h.pipe r n j i k pr pw x hn hpo hr hw hq).2.good
def Reach (ns:List SNode) (fs:List SFile) (room:Int) (M:SMach):Prop:=∃C E,MInv ns fs room M C E
theorem Reach.step {ns:List SNode} {fs:List SFile} {room:Int} {M:SMach} (g:RightG ns) (h:Reach ns fs room M) (a:Nat):Reach ns fs room (stepN M a).1:=by
 obtain⟨C,E,h⟩:=h
 exact inv_step g h a
theorem Reach.stepS {ns:List SNode} {fs:List SFile} {room:Int} {M:SMach} (g:RightG ns) (h:Reach ns fs room M) (a:Int):Reach ns fs room (stepS M a).1:=by
 unfold Go.Gs.stepS
 split
 . exact h
 . exact h.step g _
theorem Reach.picks {ns:List SNode} {fs:List SFile} {room:Int} (g:RightG ns):∀(l:List Int) (M:SMach),Reach ns fs room M->Reach ns fs room (picksS M l).1
 | [],M,h=>h
 | i::r,M,h=>Reach.picks g r _ (h.stepS g i)
theorem Reach.roundTo {ns:List SNode} {fs:List SFile} {room:Int} {M:SMach} (g:RightG ns) (h:Reach ns fs room M):∀k,Reach ns fs room (roundTo M k).1
 | 0=>h
 | k+1=>(Reach.roundTo g h k).step g k
theorem Reach.fresh {ns:List SNode} {fs:List SFile} {room:Int} (g:RightG ns) (h1:1<=room) (h2:room<=1000):Reach ns fs room (freshM ns fs room):=⟨_,_,inv_fresh g h1 h2⟩
theorem Reach.shape {ns:List SNode} {fs:List SFile} {room:Int} {M:SMach} (hg:gchk ns=0) (hf:fchk fs=0) (h:Reach ns fs room M):Shape M:=by
 obtain⟨C,E,h⟩:=h
 exact inv_shape hg hf h
theorem Reach.chk {ns:List SNode} {fs:List SFile} {room:Int} {M:SMach} (hg:gchk ns=0) (hf:fchk fs=0) (hb:Bounded ns fs) (h:Reach ns fs room M):mchk M=0:=by
 obtain⟨C,E,h⟩:=h
 exact inv_mchk hg hf (right_graph hg) hb h
theorem Reach.sunk {ns:List SNode} {fs:List SFile} {room:Int} {M:SMach} (g:RightG ns) (h:Reach ns fs room M):M.sunk <+: Go.Gs.sunk ns fs/\(overS M=true->M.sunk=Go.Gs.sunk ns fs):=by
 obtain⟨C,E,h⟩:=h
 exact inv_sunk g h
theorem Reach.fin {ns:List SNode} {fs:List SFile} {room:Int} (hg:gchk ns=0) (hf:fchk fs=0) (hb:Bounded ns fs) (hroom:1<=room):∀{k:Nat} {M:SMach} {r:SMach × Int},Fins k M r->Reach ns fs room M ->
 r.2=0/\overS r.1=true/\Reach ns fs room r.1/\r.1.sunk=Go.Gs.sunk ns fs
 | 0,M,r,hF,h=>by
  have g:=right_graph hg
  rcases hF with ⟨ho,rfl⟩ | ⟨ho,hs,rfl⟩
  . exact⟨rfl,ho,h,(h.sunk g).2 ho⟩
  .
   exfalso
   obtain⟨C,E,hI⟩:=h
   obtain⟨a,ha,hst⟩:=inv_lives g hb hroom hI ho
   obtain⟨_,_,_,h4⟩:=round_cases (inv_shape hg hf hI) M.ps.length
   rcases h4 with ⟨_,_,a3⟩ | ⟨a1,_⟩
   . exact a3 a ha hst
   . unfold roundS at hs
     rw[a1] at hs
     cases hs
 | k+1,M,r,hF,h=>Reach.fin hg hf hb hroom hF.2.2 (h.roundTo (right_graph hg) _)
end Go.Gs
