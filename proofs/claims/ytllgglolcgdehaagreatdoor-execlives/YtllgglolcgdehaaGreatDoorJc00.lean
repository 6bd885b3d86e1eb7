/- Scripts, plainly, and more. -/
import Derived.Test.YtllgglolcgdehaaGreatDoorJa36
namespace Go.Gs
open Go.RowKit
set_option linter.unusedVariables false
structure SLine where
 fr:List (List UInt8)
 cs:List Cmd
 tu:List UInt8
def firstBad:List Int->Int
 | []=>0
 | e::r=>if e=0 then firstBad r else e
def lchk (l:SLine):Int:=
 if l.fr.length < 1\/4 < l.fr.length\/6 < l.cs.length then 2
 else if l.fr.all isWord=false then 1
 else if isWord l.tu=false then 1
 else firstBad (l.cs.map chk)
theorem sortOf_congr {l m:List (List UInt8)} (h:l.Perm m):sortOf l=sortOf m:=
 sorted_unique _ _ (((sortOf_perm l).trans h).trans (sortOf_perm m).symm) (sortOf_sorted l) (sortOf_sorted m)
theorem sortOf_len (ls:List (List UInt8)):(sortOf ls).length=ls.length:=(sortOf_perm ls).length_eq
def howFor (k:Int):Int:=if k=6 then 2 else if k=8 then 3 else if k=7\/k=9\/k=10 then 4 else 1
theorem mergeN_sorted:∀ (n:Nat) (ps:List (List (List UInt8))),ps.flatten.length=n->(∀ p ∈ ps,p.Pairwise (fun x y=>x<=y))->(mergeN n ps).Pairwise (fun x y=>x<=y):=by
 intro n
 induction n with
 | zero=>intro ps h _;exact List.Pairwise.nil
 | succ n ih=>
  intro ps h hs
  unfold mergeN
  cases hl:least ps with
  | none=>exact List.Pairwise.nil
  | some q=>
   obtain ⟨k,s⟩:=q
   obtain ⟨r,hr,hle⟩:=least_some hl
   have hm:=modify_length hr
   simp only
   refine List.Pairwise.cons ?_ (ih _ (by omega) ?_)
   . intro x hx
     have hx':x ∈ ps.flatten:=(modify_flatten hr).mem_iff.2 (List.mem_cons_of_mem _ ((mergeN_perm n _ (by omega)).mem_iff.1 hx))
     obtain ⟨p,hp,hxp⟩:=List.mem_flatten.1 hx'
     have hsp:=hs p hp
     cases p with
     | nil=>cases hxp
     | cons y q=>
      have h1:=hle _ hp y rfl
      rcases List.mem_cons.1 hxp with rfl | hxq
      . exact h1
      . exact List.le_trans h1 ((List.pairwise_cons.1 hsp).1 x hxq)
   . intro p hp
     obtain ⟨i,hi,rfl⟩:=List.mem_iff_getElem.1 hp
     rw [List.getElem_modify]
     have hi':i < ps.length:=by simpa using hi
     split
     . exact (hs _ (List.getElem_mem hi')).sublist (List.drop_sublist _ _)
     . exact hs _ (List.getElem_mem hi')
theorem mergeOf_sorted (ps:List (List (List UInt8))) (h:∀ p ∈ ps,p.Pairwise (fun x y=>x<=y)):mergeOf ps=sortOf ps.flatten:=
 sorted_unique _ _ ((mergeN_perm _ _ rfl).trans (sortOf_perm _).symm) (mergeN_sorted _ _ rfl h) (sortOf_sorted _)
theorem last_cons (s:List UInt8) (a:List (List UInt8)) (p:Option (List UInt8)):(s::a).getLast?.or p=a.getLast?.or (some s):=by
 rw [List.getLast?_cons]
 cases h:a.getLast? <;> simp
def comp:Option (List UInt8)->List (List UInt8)->List (List UInt8)
 | _,[]=>[]
 | p,s::r=>if p=some s then comp p r else s::comp (some s) r
theorem comp_append (a b:List (List UInt8)):∀ p,comp p (a++b)=comp p a++comp (a.getLast?.or p) b:=by
 induction a with
 | nil=>intro p;rfl
 | cons s a ih=>
  intro p
  rw [List.cons_append,comp,comp,ih,ih]
  have e:=last_cons s a p
  rw [e]
  split
  . rename_i hp;rw [hp]
  . rfl
theorem comp_last (a:List (List UInt8)):∀ p,(comp p a).getLast?.or p=a.getLast?.or p:=by
 induction a with
 | nil=>intro p;rfl
 | cons s a ih=>
  intro p
  have e:=last_cons s a p
  rw [e,comp]
  split
  . rename_i hp;rw [ih p,hp]
  . rw [last_cons];exact ih _
theorem comp_comp (a:List (List UInt8)):∀ p q,(q=none\/q=p)->comp p (comp q a)=comp p a:=by
 induction a with
 | nil=>intro p q _;rfl
 | cons s a ih=>
  intro p q hq
  by_cases hqs:q=some s
  . rcases hq with h | h
    . rw [h] at hqs;cases hqs
    . subst h
      rw [comp,if_pos hqs]
      rw [ih q q (.inr rfl)]
  . conv=>lhs;rw [comp,if_neg hqs]
    rw [comp]
    conv=>rhs;rw [comp]
    split
    . rename_i hp;rw [hp];exact ih _ _ (.inr rfl)
    . rw [ih _ _ (.inr rfl)]
theorem comp_flatten (ps:List (List (List UInt8))):∀ p,comp p (ps.map (comp none)).flatten=comp p ps.flatten:=by
 induction ps with
 | nil=>intro p;rfl
 | cons a ps ih=>
  intro p
  rw [List.map_cons,List.flatten_cons,List.flatten_cons,comp_append,comp_append,comp_comp _ _ _ (.inl rfl),ih]
  have:=comp_last a none
  simp only [Option.or_none] at this
  rw [this]
theorem compactUpTo_comp (l:List (List UInt8)):∀ m,m<=l.length->Lib.compactUpTo l.toArray m=comp none (l.take m):=by
 intro m
 induction m with
 | zero=>intro _;rfl
 | succ m ih=>
  intro h
  rw [Lib.compactUpTo_succ,ih (by omega),List.take_add_one,List.getElem?_eq_getElem (show m < l.length by omega),Option.toList_some,comp_append]
  congr 1
  have e1:l.toArray[m]! = l[m]:=by simp [getElem!_pos,show m < l.length by omega]
  unfold Lib.keeps
  rw [e1,Option.or_none,comp,comp]
  by_cases h0:m=0
  . subst h0;simp [comp]
  . have e2:l.toArray[m-1]! = l[m-1]:=by simp [getElem!_pos,show m-1 < l.length by omega]
    have e3:(l.take m).getLast? = some l[m-1]:=by
     rw [List.getLast?_eq_getElem?,List.length_take,Nat.min_eq_left (by omega),List.getElem?_take,if_pos (by omega),List.getElem?_eq_getElem (by omega)]
    rw [e2,e3]
    by_cases hx:l[m-1]=l[m]
    . simp [hx,h0]
    . simp [hx,h0,Ne.symm hx,comp]
theorem compact_comp (l:List (List UInt8)):Lib.compact l=comp none l:=by
 unfold Lib.compact
 rw [compactUpTo_comp l _ (Nat.le_refl _),List.take_length]
theorem compact_flatten (ps:List (List (List UInt8))):Lib.compact (ps.map Lib.compact).flatten=Lib.compact ps.flatten:=by
 have e:(Lib.compact:List (List UInt8)->List (List UInt8))=comp none:=funext compact_comp
 rw [e]
 exact comp_flatten ps none
theorem take_flatten {α:Type} (n:Nat) (ps:List (List α)):∀ m,m<=n->(ps.map (List.take n)).flatten.take m=ps.flatten.take m:=by
 induction ps with
 | nil=>intro m _;rfl
 | cons a ps ih=>
  intro m hm
  rw [List.map_cons,List.flatten_cons,List.flatten_cons,List.take_append,List.take_append,List.take_take,Nat.min_eq_left hm,List.length_take]
  congr 1
  have e:m-min n a.length=m-a.length:=by omega
  rw [e]
  exact ih _ (by omega)
def lastOf {α:Type} (n:Nat) (l:List α):List α:=l.drop (l.length-n)
theorem lastOf_eq {α:Type} (n:Nat) (l:List α):lastOf n l=(l.reverse.take n).reverse:=by
 unfold lastOf
 rw [List.take_reverse,List.reverse_reverse]
theorem last_flatten {α:Type} (n:Nat) (ps:List (List α)):lastOf n (ps.map (lastOf n)).flatten=lastOf n ps.flatten:=by
 rw [lastOf_eq,lastOf_eq]
 congr 1
 rw [List.reverse_flatten,List.reverse_flatten,List.map_map]
 have e:(List.reverse ∘ lastOf n:List α->List α)=List.take n ∘ List.reverse:=by
  funext l
  simp [lastOf_eq]
 rw [e,<- List.map_map,<- List.map_reverse]
 exact take_flatten n _ n (Nat.le_refl _)
theorem count_sum (ps:List (List (List UInt8))) (h:∀ p ∈ ps,p.length<=4000):sumOf (ps.map fun p=>[Lib.itoa (p.length:Int)])=ps.flatten.length:=by
 unfold sumOf
 induction ps with
 | nil=>rfl
 | cons p ps ih=>
  have:=ih (fun q hq=>h q (by simp [hq]))
  simp only [List.map_cons,List.sum_cons,List.flatten_cons,List.length_append] at this ⊢
  rw [this]
  have hn:headNum [Lib.itoa (p.length:Int)]=p.length:=by
   unfold headNum
   rw [List.head?_cons,Option.map_some,Option.getD_some,numOf_itoa p.length (h p (by simp))]
  rw [hn]
theorem join_whole (c:Cmd) (hc:chk c=0) (ps:List (List (List UInt8))) (h:∀ p ∈ ps,p.length<=4000):joined (howFor c.kind) c (ps.map (made c))=made c ps.flatten:=by
 have hk:=chk_kinds c hc
 have:c.kind=1\/c.kind=2\/c.kind=3\/c.kind=4\/c.kind=5\/c.kind=6\/c.kind=7\/c.kind=8\/c.kind=9\/c.kind=10:=by omega
 have each:isEach c.kind=true->(ps.map (made c)).flatten=made c ps.flatten:=by
  intro he
  clear h
  induction ps with
  | nil=>
   have hk:c.kind=1\/c.kind=2\/c.kind=3\/c.kind=4\/c.kind=5:=by
    have:=of_decide_eq_true he
    omega
   rcases hk with hk | hk | hk | hk | hk <;> simp [made,hk]
  | cons p ps ih=>rw [List.map_cons,List.flatten_cons,List.flatten_cons,made_append c he,ih]
 rcases this with e | e | e | e | e | e | e | e | e | e
 . simpa [joined,howFor,e] using each (by simp [isEach,e])
 . simpa [joined,howFor,e] using each (by simp [isEach,e])
 . simpa [joined,howFor,e] using each (by simp [isEach,e])
 . simpa [joined,howFor,e] using each (by simp [isEach,e])
 . simpa [joined,howFor,e] using each (by simp [isEach,e])
 . have e1:joined (howFor c.kind) c (ps.map (made c))=mergeOf (ps.map (made c)):=by simp [joined,howFor,e]
   have e2:made c=sortOf:=funext (made6 c e)
   rw [e1,e2,mergeOf_sorted _ (by
    intro p hp
    obtain ⟨q,_,rfl⟩:=List.mem_map.1 hp
    exact sortOf_sorted q)]
   apply sortOf_congr
   clear h each e1
   induction ps with
   | nil=>exact List.Perm.nil
   | cons p ps ih=>
    rw [List.map_cons,List.flatten_cons,List.flatten_cons]
    exact (sortOf_perm p).append ih
 . have e1:joined (howFor c.kind) c (ps.map (made c))=made c (ps.map (made c)).flatten:=by simp [joined,howFor,e]
   have e2:made c=Lib.compact:=funext (made7 c e)
   rw [e1,e2]
   exact compact_flatten ps
 . have e1:joined (howFor c.kind) c (ps.map (made c))=[Lib.itoa (sumOf (ps.map (made c)):Int)]:=by simp [joined,howFor,e]
   have e2:made c=fun p=>[Lib.itoa (p.length:Int)]:=funext (made8 c e)
   rw [e1,e2,count_sum ps h]
 . have e1:joined (howFor c.kind) c (ps.map (made c))=made c (ps.map (made c)).flatten:=by simp [joined,howFor,e]
   have e2:made c=List.take c.n.toNat:=funext (made9 c e)
   rw [e1,e2]
   exact take_flatten _ ps _ (Nat.le_refl _)
 . have e1:joined (howFor c.kind) c (ps.map (made c))=made c (ps.map (made c)).flatten:=by simp [joined,howFor,e]
   have e2:made c=lastOf c.n.toNat:=funext (made10 c e)
   rw [e1,e2]
   exact last_flatten _ ps
def RCmds (w:World) (v:Value) (cs:List Cmd):Prop:=
 ∃ ao cap,v=.slice ao cs.length cap/\cs.length<=cap/\cap<=maxLen /\
  (cs.length ≠ 0 -> ∃ b off,ao=some ⟨b,off,none⟩ /\ ∀ j c,cs[j]? = some c->w.cell? ⟨b,off+j*3,none⟩=some (.int .i64 c.kind)/\w.cell? ⟨b,off+j*3+1,none⟩=some (.string ⟨c.word.toArray⟩)/\w.cell? ⟨b,off+j*3+2,none⟩=some (.int .i64 c.n))
theorem RCmds.below {w w':World} {v:Value} {cs:List Cmd} (h:RCmds w v cs) (hb:Below w.heap.size w w'):RCmds w' v cs:=by
 obtain ⟨ao,cap,rfl,h2,h3,h4⟩:=h
 refine ⟨ao,cap,rfl,h2,h3,fun hn=>?_⟩
 obtain ⟨b,off,rfl,hc⟩:=h4 hn
 refine ⟨b,off,rfl,fun j c hj=>?_⟩
 obtain ⟨a1,a2,a3⟩:=hc j c hj
 exact ⟨(hb.cell (World.block_lt_of_cell? w _ a1)).trans a1,(hb.cell (World.block_lt_of_cell? w _ a2)).trans a2,(hb.cell (World.block_lt_of_cell? w _ a3)).trans a3⟩
theorem RCmds.shape {w:World} {v:Value} {cs:List Cmd} (h:RCmds w v cs):∃ ao cap,v=.slice ao cs.length cap/\cs.length<=cap/\cap<=maxLen:=by
 obtain ⟨ao,cap,h1,h2,h3,_⟩:=h
 exact ⟨ao,cap,h1,h2,h3⟩
theorem RCmds.at {w:World} {ao:Option Addr} {n cap:Nat} {cs:List Cmd} (h:RCmds w (.slice ao n cap) cs) {k:Nat} {c:Cmd} (hk:cs[k]? = some c) :
 ∃ b off,ao=some ⟨b,off,none⟩/\w.cell? ⟨b,off+k*3,none⟩=some (.int .i64 c.kind)/\w.cell? ⟨b,off+k*3+1,none⟩=some (.string ⟨c.word.toArray⟩)/\w.cell? ⟨b,off+k*3+2,none⟩=some (.int .i64 c.n):=by
 obtain ⟨ao',cap',e,_,_,h5⟩:=h
 injection e with e1 e2 e3
 subst e1
 obtain ⟨hkl,_⟩:=List.getElem?_eq_some_iff.1 hk
 obtain ⟨b,off,hao,hc⟩:=h5 (by omega)
 exact ⟨b,off,hao,hc k c hk⟩
theorem Reads.at {w:World} {ao:Option Addr} {n cap:Nat} {fr:List (List UInt8)} (h:Reads w (.slice ao n cap) n (fr.map S)) {k:Nat} {s:List UInt8} (hk:fr[k]? = some s) :
 ∃ b off,ao=some ⟨b,off,none⟩/\w.cell? ⟨b,off+k,none⟩=some (.string ⟨s.toArray⟩):=by
 obtain ⟨h1,ao',cap',e,_,_,h5⟩:=h
 injection e with e1 e2 e3
 subst e1
 obtain ⟨hkl,_⟩:=List.getElem?_eq_some_iff.1 hk
 rw [List.length_map] at h1
 obtain ⟨b,off,hao,hc⟩:=h5 (by omega)
 exact ⟨b,off,hao,hc k (S s) (by rw [List.getElem?_map,hk];rfl)⟩
def FitsC (cs:List Cmd):Prop:=∀ c ∈ cs,c.word.length<=9223372036854775807
def FitsL (x:SLine):Prop:=(∀ s ∈ x.fr,s.length<=9223372036854775807)/\FitsC x.cs/\x.tu.length<=9223372036854775807
def Ahead (fs:List SFile) (ns:List SNode) (k:Nat):Prop:=
 ∃ (tk:List (Int × Int)) (L:Sizes),gchkL [] ns []=gchkL (ns.take k) (ns.drop k) tk/\Sizes.sum L<=4020*k /\
  ∀ p,portOk (ns.take k) p=true->p ∉ tk->(p,(portAt (outsL fs [] (ns.take k)) p).length) ∈ L
theorem ahead_ins {fs:List SFile} {ns:List SNode} {k:Nat} {n:SNode} (hg:(gchkL [] ns []).1=0) (ha:Ahead fs ns k) (hn:ns[k]? = some n) :
 nodeChk n=0/\(∀ p ∈ n.ins,portOk (ns.take k) p=true)/\((ns.drop (k+1)).isEmpty=decide (n.kind=5))/\(n.ins.map (portAt (outsL fs [] (ns.take k)))).flatten.length<=4020*k:=by
 obtain ⟨tk,L,h1,h2,h3⟩:=ha
 rw [h1,drop_node hn] at hg
 obtain ⟨e1,e2,e3,e4⟩:=gchkL_cons hg
 obtain ⟨f1,f2,f3⟩:=ins_facts _ _ _ e2
 refine ⟨e1,fun p hp=>(f2 p hp).1,e3,?_⟩
 obtain ⟨L',g1,_⟩:=sizes_many (fun p=>(portAt (outsL fs [] (ns.take k)) p).length) n.ins L f3 (fun p hp=>h3 p (f2 p hp).1 (f2 p hp).2)
 rw [flat_sum,List.map_map]
 have:(List.map (List.length ∘ portAt (outsL fs [] (ns.take k))) n.ins).sum=(List.map (fun p=>(portAt (outsL fs [] (ns.take k)) p).length) n.ins).sum:=rfl
 omega
theorem ahead_start (fs:List SFile) (ns:List SNode):Ahead fs ns 0:=⟨[],[],by simp,by simp [Sizes.sum],fun p h=>by
 obtain ⟨i,j,n,_,hn,_⟩:=port_nat h
 simp at hn⟩
theorem ahead_step {fs:List SFile} {ns:List SNode} {k:Nat} {n:SNode} (hf:∀ f ∈ fs,f.b.length<=4000) (h60:ns.length<=60) (hg:(gchkL [] ns []).1=0) (ha:Ahead fs ns k) (hn:ns[k]? = some n):Ahead fs ns (k+1):=by
 have hk:k < ns.length:=(List.getElem?_eq_some_iff.1 hn).1
 obtain ⟨q1,q2,q3,q4⟩:=ahead_ins hg ha hn
 obtain ⟨tk,L,h1,h2,h3⟩:=ha
 have hg0:=hg
 rw [h1,drop_node hn] at hg
 obtain ⟨e1,e2,e3,e4⟩:=gchkL_cons hg
 obtain ⟨f1,f2,f3⟩:=ins_facts _ _ _ e2
 obtain ⟨L',g1,g2⟩:=sizes_many (fun p=>(portAt (outsL fs [] (ns.take k)) p).length) n.ins L f3 (fun p hp=>h3 p (f2 p hp).1 (f2 p hp).2)
 have hml:=nodeMade_len e1 fs hf (n.ins.map (portAt (outsL fs [] (ns.take k)))) (by simp) (by omega)
 obtain ⟨outs,ho⟩:∃ outs,outs=nodeMade n fs (n.ins.map (portAt (outsL fs [] (ns.take k)))):=⟨_,rfl⟩
 have hcount:=nodeMade_count e1 fs (n.ins.map (portAt (outsL fs [] (ns.take k))))
 have hout:=outs_take fs ns k hn
 rw [<- ho] at hml hcount hout
 refine ⟨tk++n.ins,L'++(List.range outs.length).map (fun (j:Nat)=>(((k:Int),(j:Int)),(outs[j]?.getD []).length)),?_,?_,?_⟩
 . rw [h1,drop_node hn,e4,f1,take_node hn]
 . rw [Sizes.sum_append,sizes_new]
   have hs:(n.ins.map (portAt (outsL fs [] (ns.take k)))).flatten.length=(List.map (fun p=>(portAt (outsL fs [] (ns.take k)) p).length) n.ins).sum:=by
    rw [flat_sum,List.map_map];rfl
   omega
 . intro p hp hpt
   rw [List.mem_append,not_or] at hpt
   obtain ⟨i,j,m,rfl,hm,hj⟩:=port_nat hp
   rw [List.mem_append]
   have hik:i < (ns.take (k+1)).length:=(List.getElem?_eq_some_iff.1 hm).1
   rw [List.length_take] at hik
   rw [hout]
   by_cases hlt:i < k
   . left
     have hp':portOk (ns.take k) ((i:Int),(j:Int))=true:=by
      unfold portOk
      have hm':(ns.take k)[i]? = some m:=by
       rw [List.getElem?_take_of_lt hlt]
       rwa [List.getElem?_take_of_lt (by omega)] at hm
      simp only [Int.toNat_natCast,hm',Option.map_some,Option.getD_some,Bool.and_eq_true,decide_eq_true_eq]
      refine ⟨⟨⟨by omega,?_⟩,by omega⟩,hj⟩
      rw [List.length_take]
      omega
     have hin:=h3 _ hp' hpt.1
     have hpa:portAt (outsL fs [] (ns.take k)++[outs]) ((i:Int),(j:Int))=portAt (outsL fs [] (ns.take k)) ((i:Int),(j:Int)):=by
      unfold portAt
      rw [List.getElem?_append_left (by rw [outsL_len,List.length_take];simp;omega)]
     rw [hpa]
     exact g2 _ hin hpt.2
   . right
     have hik':i=k:=by omega
     subst hik'
     have hmn:m=n:=by
      rw [List.getElem?_take_of_lt (by omega),hn] at hm
      injection hm with hm
      exact hm.symm
     subst hmn
     rw [List.mem_map]
     refine ⟨j,List.mem_range.2 (by omega),?_⟩
     unfold portAt
     rw [List.getElem?_append_right (by rw [outsL_len,List.length_take];simp;omega),outsL_len,List.length_take,Nat.min_eq_left (by omega)]
     simp
theorem ahead_all {fs:List SFile} {ns:List SNode} (hf:∀ f ∈ fs,f.b.length<=4000) (h60:ns.length<=60) (hg:(gchkL [] ns []).1=0):∀ k,k<=ns.length->Ahead fs ns k
 | 0,_=>ahead_start fs ns
 | k+1,h=>by
  have hk:k < ns.length:=by omega
  exact ahead_step hf h60 hg (ahead_all hf h60 hg k (by omega)) (List.getElem?_eq_getElem hk)
theorem right_node {fs:List SFile} {ns:List SNode} (h:gchk ns=0) (hf:∀ f ∈ fs,f.b.length<=4000) {k:Nat} {n:SNode} (hn:ns[k]? = some n) :
 nodeChk n=0/\(∀ p ∈ n.ins,portOk (ns.take k) p=true)/\((n.kind=5) ↔ k+1=ns.length)/\(n.ins.map (portAt (outsL fs [] (ns.take k)))).flatten.length<=241200:=by
 obtain ⟨h1,h2,h3,_⟩:=gchk_zero h
 have hk:k < ns.length:=(List.getElem?_eq_some_iff.1 hn).1
 obtain ⟨q1,q2,q3,q4⟩:=ahead_ins h2 (ahead_all hf h1 h2 k (by omega)) hn
 refine ⟨q1,q2,?_,by omega⟩
 constructor
 . intro e
   rw [decide_eq_true e] at q3
   have:(ns.drop (k+1)).length=0:=by rw [List.isEmpty_iff.1 q3];rfl
   rw [List.length_drop] at this
   omega
 . intro e
   have:(ns.drop (k+1)).isEmpty=true:=by rw [List.isEmpty_iff];exact List.drop_eq_nil_of_le (by omega)
   rw [this] at q3
   exact of_decide_eq_true q3.symm
theorem Reach.lives {ns:List SNode} {fs:List SFile} {room:Int} {M:SMach} (g:RightG ns) (hb:Bounded ns fs) (hroom:1<=room) (h:Reach ns fs room M) (ho:overS M=false):∃ a,a < M.ps.length/\(stepN M a).2=0:=by
 obtain ⟨C,E,h⟩:=h
 exact inv_lives g hb hroom h ho
theorem Reach.rooms {ns:List SNode} {fs:List SFile} {room:Int} {M:SMach} (g:RightG ns) (h:Reach ns fs room M):∀ x ∈ M.pipes,0 < x.room->(x.b.length:Int)<=x.room/\x.room=room:=by
 obtain ⟨C,E,h⟩:=h
 intro x hx h0
 obtain ⟨q,hq⟩:=List.getElem?_of_mem hx
 have hql:q < (allIns ns).length:=by rw [<- h.xlen];exact (List.getElem?_eq_some_iff.1 hq).1
 obtain ⟨r,j,n,hn,hj,rfl⟩:=pipe_owner ns q hql
 obtain ⟨po,hpo⟩:∃ po,n.ins[j]? = some po:=⟨_,List.getElem?_eq_getElem hj⟩
 obtain ⟨i,k,m,e,_,hm,_⟩:=g.src hn hpo
 subst e
 obtain ⟨pr,hr⟩:∃ pr,M.ps[r]? = some pr:=⟨_,List.getElem?_eq_getElem (by rw [h.plen];exact (List.getElem?_eq_some_iff.1 hn).1)⟩
 obtain ⟨pw,hw⟩:∃ pw,M.ps[i]? = some pw:=⟨_,List.getElem?_eq_getElem (by rw [h.plen];exact (List.getElem?_eq_some_iff.1 hm).1)⟩
 obtain ⟨q1,q2⟩:=h.pipe r n j i k pr pw x hn hpo hr hw hq
 have:=(pchk_parts q2.good).2.2.1
 unfold plim at this
 rw [if_neg (by omega)] at this
 refine ⟨this,?_⟩
 rw [q1] at h0 ⊢
 unfold roomOf at h0 ⊢
 split
 . rename_i e;rw [if_pos e] at h0;exact absurd h0 (by omega)
 . rfl
abbrev PD:=List SNode × List (Int × Int)
def srcN (f:List UInt8):SNode:=⟨1,f,noC,0,0,[]⟩
def splitN (w:Nat) (ps:List (Int × Int)):SNode:=⟨2,[],noC,0,(w:Int),ps⟩
def workN (c:Cmd) (p:Int × Int):SNode:=⟨3,[],c,0,0,[p]⟩
def joinN (how:Int) (c:Cmd) (ps:List (Int × Int)):SNode:=⟨4,[],c,how,0,ps⟩
def sinkN (f:List UInt8) (ps:List (Int × Int)):SNode:=⟨5,f,noC,0,0,ps⟩
def newPorts (i k:Nat):List (Int × Int):=(List.range k).map fun (j:Nat)=>((i:Int),(j:Int))
def onePort (i:Nat):Int × Int:=((i:Int),0)
def pSrc (d:PD) (f:List UInt8):PD:=(d.1++[srcN f],d.2++[onePort d.1.length])
def pJoinAll (how:Int) (c:Cmd) (d:PD):PD:=(d.1++[joinN how c d.2],[onePort d.1.length])
def pBehind (d:PD):PD:=if 1 < d.2.length then pJoinAll 1 noC d else d
def pSplit (w:Nat) (d:PD):PD:=if d.2.length=1/\w ≠ 1 then (d.1++[splitN w d.2],newPorts d.1.length w) else d
def pWork (c:Cmd) (d:PD) (p:Int × Int):PD:=(d.1++[workN c p],d.2++[onePort d.1.length])
def pWorks (c:Cmd) (d:PD):PD:=d.2.foldl (pWork c) (d.1,[])
def pJoin (w:Nat) (c:Cmd) (d:PD):PD:=if w=1\/isEach c.kind=true then d else pJoinAll (howFor c.kind) (if howFor c.kind=4 then c else noC) d
def pCmd (w:Nat) (d:PD) (c:Cmd):PD:=pJoin w c (pWorks c (pSplit w d))
def pStart (fr:List (List UInt8)):PD:=fr.foldl pSrc ([],[])
def pFrom (fr:List (List UInt8)):PD:=pBehind (pStart fr)
def pDone (w:Nat) (fr:List (List UInt8)) (cs:List Cmd):PD:=cs.foldl (pCmd w) (pFrom fr)
def pSink (tu:List UInt8) (d:PD):List SNode:=d.1++[sinkN tu d.2]
def plan (l:SLine) (w:Nat):List SNode:=pSink l.tu (pBehind (pDone w l.fr l.cs))
theorem newPorts_len (i k:Nat):(newPorts i k).length=k:=by simp [newPorts]
theorem newPorts_one (i:Nat):newPorts i 1=[onePort i]:=by simp [newPorts,onePort]
theorem pStart_snoc (fr:List (List UInt8)) (f:List UInt8):pStart (fr++[f])=pSrc (pStart fr) f:=by simp [pStart]
theorem pDone_snoc (w:Nat) (fr:List (List UInt8)) (cs:List Cmd) (c:Cmd):pDone w fr (cs++[c])=pCmd w (pDone w fr cs) c:=by simp [pDone]
theorem works_len (c:Cmd):∀ (op:List (Int × Int)) (d:PD),(op.foldl (pWork c) d).1.length=d.1.length+op.length/\(op.foldl (pWork c) d).2.length=d.2.length+op.length
 | [],d=>by simp
 | p::r,d=>by
  have:=works_len c r (pWork c d p)
  simp only [List.foldl_cons,List.length_cons]
  simp only [pWork,List.length_append,List.length_cons,List.length_nil] at this ⊢
  omega
theorem pStart_len:∀ (fr:List (List UInt8)) (d:PD),(fr.foldl pSrc d).1.length=d.1.length+fr.length/\(fr.foldl pSrc d).2.length=d.2.length+fr.length
 | [],d=>by simp
 | p::r,d=>by
  have:=pStart_len r (pSrc d p)
  simp only [List.foldl_cons,List.length_cons]
  simp only [pSrc,List.length_append,List.length_cons,List.length_nil] at this ⊢
  omega
theorem pBehind_len {d:PD} (h:1<=d.2.length):(pBehind d).2.length=1/\d.1.length<=(pBehind d).1.length/\(pBehind d).1.length<=d.1.length+1:=by
 unfold pBehind
 split
 . simp [pJoinAll]
 . omega
theorem pFrom_len {fr:List (List UInt8)} (h1:1<=fr.length) (h4:fr.length<=4):(pFrom fr).2.length=1/\(pFrom fr).1.length<=5:=by
 obtain ⟨a,b⟩:=pStart_len fr ([],[])
 simp only [List.length_nil,Nat.zero_add] at a b
 obtain ⟨c,d,e⟩:=pBehind_len (d:=pStart fr) (by unfold pStart;omega)
 unfold pFrom
 unfold pStart at c d e ⊢
 omega
theorem pSplit_len {w:Nat} {d:PD} (hw:1<=w/\w<=5) (h:d.2.length=1\/d.2.length=w):(pSplit w d).2.length=w/\d.1.length<=(pSplit w d).1.length/\(pSplit w d).1.length<=d.1.length+1:=by
 unfold pSplit
 split
 . simp [newPorts_len]
 . rename_i h1
   rcases h with h | h
   . have:w=1:=by by_cases e:w=1;exact e;exact absurd ⟨h,e⟩ h1
     omega
   . omega
theorem pCmd_len {w:Nat} {d:PD} (hw:1<=w/\w<=5) (h:d.2.length=1\/d.2.length=w) (c:Cmd):((pCmd w d c).2.length=1\/(pCmd w d c).2.length=w)/\(pCmd w d c).1.length<=d.1.length+7:=by
 obtain ⟨a,b,e⟩:=pSplit_len hw h
 have w1:=works_len c (pSplit w d).2 ((pSplit w d).1,[])
 simp only [List.length_nil,Nat.zero_add] at w1
 unfold pCmd pJoin
 split
 . unfold pWorks;omega
 . unfold pWorks
   refine ⟨Or.inl rfl,?_⟩
   simp only [pJoinAll,List.length_append,List.length_cons,List.length_nil]
   omega
theorem pDone_len {w:Nat} {fr:List (List UInt8)} (hw:1<=w/\w<=5) (h1:1<=fr.length) (h4:fr.length<=4) (cs:List Cmd):((pDone w fr cs).2.length=1\/(pDone w fr cs).2.length=w)/\(pDone w fr cs).1.length<=5+7*cs.length:=by
 have gen:∀ (cs:List Cmd) (d:PD),(d.2.length=1\/d.2.length=w)->((cs.foldl (pCmd w) d).2.length=1\/(cs.foldl (pCmd w) d).2.length=w)/\(cs.foldl (pCmd w) d).1.length<=d.1.length+7*cs.length:=by
  intro cs
  induction cs with
  | nil=>intro d h;simp [h]
  | cons c r ih=>
   intro d h
   obtain ⟨a,b⟩:=pCmd_len hw h c
   obtain ⟨e,f⟩:=ih (pCmd w d c) a
   simp only [List.foldl_cons,List.length_cons]
   exact ⟨e,by omega⟩
 obtain ⟨a,b⟩:=pFrom_len h1 h4
 obtain ⟨e,f⟩:=gen cs (pFrom fr) (Or.inl a)
 unfold pDone
 exact ⟨e,by omega⟩
theorem plan_len {l:SLine} {w:Nat} (hw:1<=w/\w<=5) (h:lchk l=0):(plan l w).length<=49/\(pBehind (pDone w l.fr l.cs)).2.length=1:=by
 have h0:¬ (l.fr.length < 1\/4 < l.fr.length\/6 < l.cs.length):=by
  intro h1;unfold lchk at h;rw [if_pos h1] at h;cases h
 obtain ⟨a,b⟩:=pDone_len hw (by omega:1<=l.fr.length) (by omega) l.cs
 obtain ⟨c,d,e⟩:=pBehind_len (d:=pDone w l.fr l.cs) (by omega)
 refine ⟨?_,c⟩
 unfold plan pSink
 simp only [List.length_append,List.length_cons,List.length_nil]
 omega
theorem nodeCells_app (out:List NRow) (r:NRow):nodeCells (out++[r])=nodeCells out++encN r:=by simp [nodeCells]
def noX (k:Nat):Prop:=False
theorem Kept.of_grown {D:Nat} {go x:Option Nat} {X:Nat->Prop} {w w':World} (h:w.grownBy w' x) (hx:∀ k,x=some k->FS D go X k):Kept D go X w w':=⟨h.os,h.tape,h.output,h.size,fun k hk hn=>h.block k hk (fun e=>hn (hx k e.symm))⟩
theorem Kept.more {D:Nat} {go:Option Nat} {X X':Nat->Prop} {w w':World} (h:Kept D go X w w') (hd:∀ k,X k->X' k):Kept D go X' w w':=
 ⟨h.os,h.tape,h.output,h.size,fun k hk hn=>h.block k hk (fun e=>hn (by rcases e with e | e | e;exact .inl e;exact .inr (.inl e);exact .inr (.inr (hd k e))))⟩
theorem Nxt.trans {w w1:World} {go g1 g2:Option Nat} (h:Nxt w go g1) (k:Nxt w1 g1 g2) (hs:w.heap.size<=w1.heap.size):Nxt w go g2:=by
 rcases k with rfl | ⟨g,e,hg⟩
 . exact h
 . exact Or.inr ⟨g,e,Nat.le_trans hs hg⟩
theorem Kept.trans {D:Nat} {go g1:Option Nat} {X X':Nat->Prop} {w w1 w2:World} (h:Kept D go X w w1) (k:Kept D g1 X' w1 w2) (hg:Nxt w go g1) (hd:NxtX w X X'):Kept D go X w w2:=by
 refine ⟨k.os.trans h.os,k.tape.trans h.tape,k.output.trans h.output,Nat.le_trans h.size k.size,fun i hi hn=>?_⟩
 rw [k.block i (Nat.lt_of_lt_of_le hi h.size) (fun e=>hn (e.old hg hd hi)),h.block i hi hn]
theorem Kept.below {D B:Nat} {go:Option Nat} {X:Nat->Prop} {w w':World} (h:Kept D go X w w') (hB:B<=w.heap.size) (hD:B<=D) (hg:∀ g,go=some g->B<=g) (hd:∀ g,X g->B<=g):Below B w w':=
 ⟨h.os,h.tape,h.output,h.size,fun k hk=>h.block k (by omega) (fun e=>by rcases e with e | e | e;omega;(have:=hg k e;omega);(have:=hd k e;omega))⟩
theorem POff.nil (w:World) (D:Nat) (go:Option Nat) (X:Nat->Prop):POff w D go X none 0 []:=⟨⟨none,0,rfl,by simp,by simp [maxLen],fun h=>absurd rfl h⟩,fun h=>absurd rfl h⟩
theorem NO.nil (w:World) (B D:Nat) (X:Nat->Prop) (e:TypeId):NO w B D X e (.slice none 0 0) []:=⟨World.ownsRow_nil _ _ _ _,fun r hr=>(by cases hr),by simp [Value.ownBlock]⟩
theorem NO.form {w:World} {B D:Nat} {X:Nat->Prop} {e:TypeId} {v:Value} {rows:List NRow} (h:NO w B D X e v rows):∃ ao cap,v=.slice ao rows.length cap/\rows.length<=cap/\cap<=maxLen:=by
 rcases h.own.2 with ⟨rfl,h0⟩ | ⟨g,cap,cur,rfl,_,_,h1,h2,_⟩
 . exact ⟨none,0,by rw [h0],by omega,by simp [maxLen]⟩
 . exact ⟨_,cap,rfl,h1,h2⟩
theorem NO.app {w w':World} {B D:Nat} {X:Nat->Prop} {e:TypeId} {v v':Value} {rows:List NRow} {r:NRow} (h:NO w B D X e v rows) (hr:POff w D v.ownBlock X r.2.1 r.2.2 r.1.ins) (hD:D < w.heap.size)
 (hown:w'.ownsRow B e 8 v' (rows.length+1) (nodeCells rows++encN r)) (hg:w.grownBy w' v.ownBlock) (hl:v'.ownBlock=v.ownBlock\/v'.ownBlock=some w.heap.size):NO w' B D X e v' (rows++[r])/\Kept D v.ownBlock noX w w'/\Nxt w v.ownBlock v'.ownBlock:=by
 have hN:Nxt w v.ownBlock v'.ownBlock:=by
  rcases hl with h1 | h1
  . exact Or.inl h1
  . exact Or.inr ⟨_,h1,Nat.le_refl _⟩
 have hk:Kept D v.ownBlock noX w w':=Kept.of_grown hg (fun k e=>.inr (.inl e))
 have hk':Kept D v.ownBlock X w w':=hk.more (fun k e=>e.elim)
 refine ⟨⟨by rw [nodeCells_app,List.length_append];exact hown,fun x hx=>?_,?_⟩,hk,hN⟩
 . rcases List.mem_append.1 hx with hx | hx
   . exact (h.good x hx).keep hk' hN (NxtX.refl _ _)
   . rw [List.mem_singleton.1 hx];exact hr.keep hk' hN (NxtX.refl _ _)
 . rcases hl with h1 | h1
   . rw [h1];exact h.off
   . rw [h1];intro e2;injection e2 with e2;omega
theorem POff.less {w:World} {D:Nat} {go:Option Nat} {X X':Nat->Prop} {ao:Option Addr} {cap:Nat} {ps:List (Int × Int)} (h:POff w D go X ao cap ps) (hx:∀ k,k < w.heap.size->X' k->X k):POff w D go X' ao cap ps:=
 h.keep (Kept.refl _ _ _ _) (Nxt.refl _ _) hx
theorem NO.less {w:World} {B D:Nat} {X X':Nat->Prop} {e:TypeId} {v:Value} {rows:List NRow} (h:NO w B D X e v rows) (hx:∀ k,k < w.heap.size->X' k->X k):NO w B D X' e v rows:=
 ⟨h.own,fun r hr=>(h.good r hr).less hx,h.off⟩
end Go.Gs
namespace Go.Proofs.YtllgglolcgdehaaGreatDoor
open Go.RowKit Go.Gs
set_option linter.unusedVariables false
theorem box3O {w w':World} {a b c:Value} {t:TypeId} (h:Below (w.alloc (.cells #[a,b,c] t)).heap.size (w.alloc (.cells #[a,b,c] t)) w'):w'.cell? ⟨w.heap.size,0,none⟩=some a/\w'.cell? ⟨w.heap.size,1,none⟩=some b/\w'.cell? ⟨w.heap.size,2,none⟩=some c:=by
 refine ⟨?_,?_,?_⟩
 all_goals
  rw [h.cell (by simp),cell_of_row _ _ _ _ _ _ (heap_alloc_new w _)]
  rfl
theorem below_grownO {B:Nat} {w w1:World} (h:w.grownBy w1 none) (hB:B<=w.heap.size):Below B w w1:=⟨h.os,h.tape,h.output,h.size,fun k hk=>h.block k (by omega) (by simp)⟩
theorem owns_formO {w:World} {B:Nat} {e:TypeId} {size:Nat} {v:Value} {n:Nat} {xs:List Value} (h:w.ownsRow B e size v n xs):∃ a c,v=.slice a n c/\n<=c/\c<=maxLen:=by
 rcases h.2 with ⟨rfl,h0⟩ | ⟨g,cap,cur,rfl,_,_,h1,h2,_⟩
 . exact ⟨none,0,by rw [h0],by omega,by simp [maxLen]⟩
 . exact ⟨_,cap,rfl,h1,h2⟩
theorem step_append_ownO {P:Program} {ops:Array Oper} {o:Oper} {a:Act} {w:World} {K:Act->World->Prop} {Q:Exit->Act->World->Prop} {E:Prop}
 (hgd:o.guard=none) (s x:Operand) (t:TypeId) (ho:o.op=.call { callee:=.builtin .append,args:=#[s,x],argTypes:=#[t,t] })
 (base:Nat) (e:TypeId) (i:TypeInfo) (z:Value) (size bytes:Nat) (ht:P.underlying t=some (.slice e)) (hi:P.info? e=some i) (hz:i.zero=some z)
 (hsize:i.size=size) (hby:i.bytes=bytes) (hzs:z.cells.size=size) (hsz:0 < size)
 (v:Value) (n:Nat) (xs:List Value) (hs:a.eval s=v) (hown:w.ownsRow base e size v n xs)
 (ad:Addr) (m c:Nat) (news:List Value) (hx:a.eval x=.slice (some ad) m c) (hl:news.length=m*size) (hnews:∀ j u,news[j]? = some u->w.cell? (ad.add j)=some u) (h1:∀ u ∈ news,u.oneCell'=true)
 (h63:n+m<=maxLen) (hbytes:(n+m)*bytes<=140737488355328) (hbase:base<=w.heap.size)
 (h:∀ v' w',w'.ownsRow base e size v' (n+m) (xs++news)->w.grownBy w' v.ownBlock->(v'=.slice none 0 0 ↔ v=.slice none 0 0/\m=0)->(v'.ownBlock=v.ownBlock\/v'.ownBlock=some w.heap.size)->K (a.put o.dst v') w') :
 if Region.wanted o (yielded ops a.tmps)=true then Oper.wp P o a w K Q else E:=by
 have hw:Region.wanted o (yielded ops a.tmps)=true:=by simp [Region.wanted,hgd]
 rw [if_pos hw]
 obtain ⟨v',w',hr,h2,h3,h4,h5⟩:=run_append_own_at (P:=P) w base t o.type e i z size bytes ht hi hz hsize hby hzs hsz v n xs hown ad m c news hl hnews h1 h63 hbytes hbase
 unfold Oper.wp execOp
 simp only [ho,resolve,invoke,builtin,Sem.run_bind,Sem.run_pure,Result.andThen_ok,List.map_toArray,List.map_cons,List.map_nil,hs,hx,hr]
 exact h v' w' h2 h3 h4 h5
end Go.Proofs.YtllgglolcgdehaaGreatDoor
namespace Go.Gs
open Go.RowKit
set_option linter.unusedVariables false
theorem firstBad_zero:∀ l:List Int,firstBad l=0 ↔ ∀ e ∈ l,e=0
 | []=>by simp [firstBad]
 | e::r=>by
  unfold firstBad
  split
  . rename_i h
    rw [firstBad_zero r];simp [h]
  . rename_i h
    simp [h]
theorem lchk_zero {x:SLine} (h:lchk x=0):1<=x.fr.length/\x.fr.length<=4/\x.cs.length<=6/\x.fr.all isWord=true/\isWord x.tu=true /\ ∀ c ∈ x.cs,chk c=0:=by
 unfold lchk at h
 split at h
 . cases h
 . split at h
   . cases h
   . split at h
     . cases h
     . rename_i h1 h2 h3
       refine ⟨by omega,by omega,by omega,by simpa using h2,by simpa using h3,fun c hc=>?_⟩
       exact (firstBad_zero _).1 h (chk c) (List.mem_map.2 ⟨c,hc,rfl⟩)
def allLines (fs:List SFile) (fr:List (List UInt8)):List (List UInt8):=(fr.map fun s=>lines (fileOf fs s)).flatten
theorem cnt_src (k:Int):∀ (fr:List (List UInt8)) (d:PD),cnt k (fr.foldl pSrc d).1=cnt k d.1+if k=1 then fr.length else 0
 | [],d=>by simp
 | f::r,d=>by
  rw [List.foldl_cons,cnt_src k r]
  simp only [pSrc,cnt_append,cnt_one,srcN,List.length_cons]
  by_cases h:k=1
  . subst h;simp;omega
  . have h':¬ (1:Int)=k:=fun e=>h e.symm
    simp [h,h']
theorem cnt_behind {k:Int} (h:k ≠ 4) (d:PD):cnt k (pBehind d).1=cnt k d.1:=by
 have h':¬ (4:Int)=k:=fun e=>h e.symm
 unfold pBehind
 split
 . simp [pJoinAll,cnt_append,cnt_one,joinN,h']
 . rfl
theorem cnt_split {k:Int} {w:Nat} (h:k ≠ 2\/w=1) (d:PD):cnt k (pSplit w d).1=cnt k d.1:=by
 unfold pSplit
 split
 . rename_i h1
   rcases h with h | h
   . have h':¬ (2:Int)=k:=fun e=>h e.symm
     simp [cnt_append,cnt_one,splitN,h']
   . exact absurd h h1.2
 . rfl
theorem cnt_works (k:Int) (c:Cmd):∀ (op:List (Int × Int)) (d:PD),cnt k (op.foldl (pWork c) d).1=cnt k d.1+if k=3 then op.length else 0
 | [],d=>by simp
 | f::r,d=>by
  rw [List.foldl_cons,cnt_works k c r]
  simp only [pWork,cnt_append,cnt_one,workN,List.length_cons]
  by_cases h:k=3
  . subst h;simp;omega
  . have h':¬ (3:Int)=k:=fun e=>h e.symm
    simp [h,h']
theorem cnt_join {k:Int} (h:k ≠ 4) (w:Nat) (c:Cmd) (d:PD):cnt k (pJoin w c d).1=cnt k d.1:=by
 have h':¬ (4:Int)=k:=fun e=>h e.symm
 unfold pJoin
 split
 . rfl
 . simp [pJoinAll,cnt_append,cnt_one,joinN,h']
theorem cnt_cmd {k:Int} {w:Nat} (h4:k ≠ 4) (h2:k ≠ 2\/w=1) {d:PD} (hw:1<=w/\w<=5) (h:d.2.length=1\/d.2.length=w) (c:Cmd):cnt k (pCmd w d c).1=cnt k d.1+if k=3 then w else 0:=by
 obtain ⟨a,_,_⟩:=pSplit_len hw h
 unfold pCmd pWorks
 rw [cnt_join h4,cnt_works,cnt_split h2,a]
theorem cnt_cmds {k:Int} {w:Nat} (h4:k ≠ 4) (h2:k ≠ 2\/w=1) (hw:1<=w/\w<=5):∀ (cs:List Cmd) (d:PD),(d.2.length=1\/d.2.length=w)->cnt k (cs.foldl (pCmd w) d).1=cnt k d.1+if k=3 then w*cs.length else 0
 | [],d,h=>by simp
 | c::r,d,h=>by
  rw [List.foldl_cons,cnt_cmds h4 h2 hw r _ (pCmd_len hw h c).1,cnt_cmd h4 h2 hw h]
  by_cases h3:k=3
  . simp [h3,Nat.mul_add];omega
  . simp [h3]
theorem cnt_plan {l:SLine} {w:Nat} (hw:1<=w/\w<=5) (h:lchk l=0) {k:Int} (h4:k ≠ 4) (h2:k ≠ 2\/w=1):cnt k (plan l w)=(if k=1 then l.fr.length else 0)+(if k=3 then w*l.cs.length else 0)+(if k=5 then 1 else 0):=by
 have h0:¬ (l.fr.length < 1\/4 < l.fr.length\/6 < l.cs.length):=by
  intro h1;unfold lchk at h;rw [if_pos h1] at h;cases h
 obtain ⟨a,_⟩:=pFrom_len (fr:=l.fr) (by omega) (by omega)
 unfold plan pSink
 rw [cnt_append,cnt_behind h4]
 unfold pDone
 rw [cnt_cmds h4 h2 hw _ _ (Or.inl a)]
 unfold pFrom
 rw [cnt_behind h4]
 unfold pStart
 rw [cnt_src,cnt_one]
 have e:cnt k ([]:List SNode)=0:=rfl
 simp only [sinkN,e]
 by_cases h5:k=5
 . subst h5;simp
 . have h':¬ (5:Int)=k:=fun e=>h5 e.symm
   simp [h5,h']
theorem insChk_ok (ns:List SNode):∀ (ins t:List (Int × Int)),(∀ p ∈ ins,portOk ns p=true)->(t++ins).Nodup->insChk ns ins t=(0,t++ins)
 | [],t,_,_=>by simp [insChk]
 | p::r,t,h,hn=>by
  have h1:portOk ns p=true:=h p (by simp)
  have h2:p ∉ t:=fun hp=>by
   have:=(List.nodup_append.1 hn).2.2 p hp p (by simp)
   exact this rfl
  rw [insChk,if_neg (by simp [h1]),if_neg h2,insChk_ok ns r (t++[p]) (fun q hq=>h q (by simp [hq])) (by simpa using hn)]
  simp
def PSt (fs:List SFile) (ns:List SNode) (t A:List (Int × Int)) (vals:List (List UInt8)):Prop:=
 (∀ rest,rest ≠ []->gchkL [] (ns++rest) []=gchkL ns rest t)/\(t++A).Nodup/\(∀ p ∈ t++A,portOk ns p=true)/\((t.length+A.length:Nat):Int)=allOuts ns/\A.map (portAt (outsL fs [] ns))=vals
theorem newPorts_mem {i k:Nat} {p:Int × Int} (h:p ∈ newPorts i k):∃ j:Nat,j < k/\p=((i:Int),(j:Int)):=by
 unfold newPorts at h
 obtain ⟨j,hj,rfl⟩:=List.mem_map.1 h
 exact ⟨j,List.mem_range.1 hj,rfl⟩
theorem newPorts_nodup (i k:Nat):(newPorts i k).Nodup:=by
 unfold newPorts
 rw [List.nodup_iff_pairwise_ne,List.pairwise_map]
 refine List.Pairwise.imp ?_ (List.nodup_iff_pairwise_ne.1 List.nodup_range)
 intro a b hab e
 injection e with _ e2
 exact hab (by omega)
theorem port_old {fs:List SFile} {ns:List SNode} {n:SNode} {p:Int × Int} (h:portOk ns p=true):portAt (outsL fs [] (ns++[n])) p=portAt (outsL fs [] ns) p:=by
 obtain ⟨i,k,m,rfl,hi,hk⟩:=port_nat h
 have hl:i < ns.length:=(List.getElem?_eq_some_iff.1 hi).1
 rw [outsL_append]
 unfold portAt
 rw [outsL_keep fs [n] (outsL fs [] ns) _ (by rw [outsL_len];simp;exact hl)]
theorem port_new {fs:List SFile} {ns:List SNode} {n:SNode} (j:Nat):portAt (outsL fs [] (ns++[n])) ((ns.length:Int),(j:Int))=(nodeMade n fs (n.ins.map (portAt (outsL fs [] ns))))[j]?.getD []:=by
 rw [outsL_append]
 unfold portAt
 have e:(outsL fs (outsL fs [] ns) [n])[ns.length]? = some (nodeMade n fs (n.ins.map (portAt (outsL fs [] ns)))):=by
  rw [outsL,outsL,List.getElem?_append_right (by rw [outsL_len];simp),outsL_len]
  simp
 simp only [Int.toNat_natCast]
 rw [e]
 rfl
theorem PSt.step {fs:List SFile} {ns:List SNode} {t ins R:List (Int × Int)} {iv rv:List (List UInt8)} (h:PSt fs ns t (ins++R) (iv++rv)) (hl:ins.length=iv.length) {n:SNode} (hn:nodeChk n=0) (hk:n.kind ≠ 5) (hi:n.ins=ins) :
 PSt fs (ns++[n]) (t++ins) (R++newPorts ns.length (nouts n).toNat) (rv++nodeMade n fs iv):=by
 obtain ⟨h1,h2,h3,h4,h5⟩:=h
 have hnn:=nouts_nonneg hn
 have hsub:(t++ins).Nodup:=by
  rw [<- List.append_assoc] at h2
  exact (List.nodup_append.1 h2).1
 rw [List.map_append] at h5
 obtain ⟨v1,v2⟩:=List.append_inj h5 (by simpa using hl)
 have hcnt:=nodeMade_count hn fs iv
 refine ⟨?_,?_,?_,?_,?_⟩
 . intro rest hr
   rw [List.append_assoc,h1 ([n]++rest) (by simp)]
   rw [List.singleton_append,gchkL,if_neg (by simp [hn]),hi,insChk_ok ns ins t (fun p hp=>h3 p (by simp [hp])) hsub,if_neg (by simp)]
   have hre:rest.isEmpty=false:=by cases rest with | nil=>exact absurd rfl hr | cons _ _=>rfl
   rw [if_neg (by simp [hre,hk])]
 . have hold:∀ p ∈ t++(ins++R),p ∉ newPorts ns.length (nouts n).toNat:=by
    intro p hp hq
    obtain ⟨j,hj,rfl⟩:=newPorts_mem hq
    obtain ⟨i,k,m,e,hi',_⟩:=port_nat (h3 _ hp)
    injection e with e1 _
    have:=(List.getElem?_eq_some_iff.1 hi').1
    omega
   rw [show t++ins++(R++newPorts ns.length (nouts n).toNat)=(t++(ins++R))++newPorts ns.length (nouts n).toNat by simp]
   rw [List.nodup_append]
   exact ⟨h2,newPorts_nodup _ _,fun a ha b hb e=>hold a ha (e ▸ hb)⟩
 . intro p hp
   have hp':p ∈ t++(ins++R)\/p ∈ newPorts ns.length (nouts n).toNat:=by
    simp only [List.mem_append] at hp ⊢
    rcases hp with (a | a) | (a | a)
    . exact Or.inl (Or.inl a)
    . exact Or.inl (Or.inr (Or.inl a))
    . exact Or.inl (Or.inr (Or.inr a))
    . exact Or.inr a
   rcases hp' with hp' | hp'
   . exact portOk_more (h3 p hp')
   . obtain ⟨j,hj,rfl⟩:=newPorts_mem hp'
     unfold portOk
     simp
     constructor
     . omega
     . omega
 . have ea:allOuts (ns++[n])=allOuts ns+nouts n:=by simp [allOuts]
   rw [ea,<- h4]
   simp only [List.length_append,newPorts_len]
   omega
 . rw [List.map_append]
   congr 1
   . rw [<- v2]
     refine List.map_congr_left ?_
     intro p hp
     exact port_old (h3 p (by simp [hp]))
   . unfold newPorts
     rw [List.map_map]
     apply List.ext_getElem?
     intro j
     rw [List.getElem?_map]
     by_cases hj:j < (nouts n).toNat
     . have hjl:j < (nodeMade n fs iv).length:=by omega
       rw [List.getElem?_range hj]
       simp only [Option.map_some,Function.comp]
       rw [port_new,hi,v1,List.getElem?_eq_getElem hjl]
       rfl
     . rw [List.getElem?_eq_none (by simpa using hj),List.getElem?_eq_none (by omega)]
       rfl
theorem srcN_right {f:List UInt8} (h:isWord f=true):nodeChk (srcN f)=0:=by
 simp [nodeChk,nodeUsed,srcN,h,mayHave,hasUnused,zeroC,noC]
theorem sinkN_right {f:List UInt8} (h:isWord f=true) {p:Int × Int}:nodeChk (sinkN f [p])=0:=by
 simp [nodeChk,nodeUsed,sinkN,h,mayHave,hasUnused,zeroC,noC]
theorem splitN_right {w:Nat} (h:1<=w/\w<=5) {p:Int × Int}:nodeChk (splitN w [p])=0:=by
 have h1:¬ ((w:Int) < 1\/5 < (w:Int)):=by omega
 simp [nodeChk,nodeUsed,splitN,h1,mayHave,hasUnused,zeroC,noC]
theorem workN_right {c:Cmd} (h:chk c=0) {p:Int × Int}:nodeChk (workN c p)=0:=by
 simp [nodeChk,nodeUsed,workN,h,mayHave,hasUnused]
theorem joinN_right {how:Int} {c:Cmd} (h:jchk how c=0) {ps:List (Int × Int)} (hp:1<=ps.length/\ps.length<=5):nodeChk (joinN how c ps)=0:=by
 simp [nodeChk,nodeUsed,joinN,h,mayHave,hasUnused,hp]
def PV (fs:List SFile) (d:PD) (t:List (Int × Int)) (pss:List (List (List UInt8))):Prop:=
 PSt fs d.1 t d.2 (pss.map ended)/\(∀ p ∈ pss,∀ s ∈ p,(10:UInt8) ∉ s)/\d.2.length=pss.length
theorem lines_of_parts {pss:List (List (List UInt8))} (h:∀ p ∈ pss,∀ s ∈ p,(10:UInt8) ∉ s):(pss.map ended).map lines=pss:=by
 rw [List.map_map]
 conv=>rhs;rw [<- List.map_id pss]
 exact List.map_congr_left (fun p hp=>lines_ended p (h p hp))
theorem PV.src {fs:List SFile}:∀ (fr:List (List UInt8)) (d:PD) (t:List (Int × Int)) (pss:List (List (List UInt8))),PV fs d t pss->(∀ f ∈ fr,isWord f=true)->PV fs (fr.foldl pSrc d) t (pss++fr.map (fun f=>lines (fileOf fs f)))
 | [],d,t,pss,h,_=>by simpa using h
 | f::r,d,t,pss,h,hw=>by
  have h1:PV fs (pSrc d f) t (pss++[lines (fileOf fs f)]):=by
   obtain ⟨a,b,c⟩:=h
   have st:=PSt.step (ins:=[]) (iv:=[]) (R:=d.2) (rv:=pss.map ended) (by simpa using a) rfl (srcN_right (hw f (by simp))) (by simp [srcN]) rfl
   refine ⟨?_,?_,?_⟩
   . have e1:newPorts d.1.length (nouts (srcN f)).toNat=[onePort d.1.length]:=newPorts_one _
     rw [e1] at st
     simpa [pSrc,nodeMade,srcN] using st
   . intro p hp
     rcases List.mem_append.1 hp with hp | hp
     . exact b p hp
     . rw [List.mem_singleton.1 hp];exact lines_noFeed _
   . simp [pSrc,c]
  have:=PV.src r _ t _ h1 (fun x hx=>hw x (by simp [hx]))
  simpa using this
theorem PV.join {fs:List SFile} {d:PD} {t:List (Int × Int)} {pss:List (List (List UInt8))} (h:PV fs d t pss) {how:Int} {c:Cmd} (hj:jchk how c=0) (hl:1<=d.2.length/\d.2.length<=5) :
 PV fs (pJoinAll how c d) (t++d.2) [joined how c pss]:=by
 obtain ⟨a,b,e⟩:=h
 have st:=PSt.step (ins:=d.2) (iv:=pss.map ended) (R:=[]) (rv:=[]) (by simpa using a) (by simpa using e) (joinN_right hj hl) (by simp [joinN]) rfl
 have e1:newPorts d.1.length (nouts (joinN how c d.2)).toNat=[onePort d.1.length]:=newPorts_one _
 have e2:nodeMade (joinN how c d.2) fs (pss.map ended)=[ended (joined how c pss)]:=by
  have:=lines_of_parts b
  simp [nodeMade,joinN]
  rw [List.map_map] at this
  rw [this]
 rw [e1,e2] at st
 refine ⟨by simpa [pJoinAll] using st,?_,rfl⟩
 intro p hp
 rw [List.mem_singleton.1 hp]
 refine joined_noFeed how c ?_ pss b
 intro h4
 unfold jchk at hj
 rw [if_neg (by omega),if_pos h4] at hj
 exact hj
theorem PV.works {fs:List SFile} {c:Cmd} (hc:chk c=0):∀ (op:List (Int × Int)) (iv:List (List (List UInt8))) (ns:List SNode) (D t:List (Int × Int)) (dv:List (List (List UInt8))),op.length=iv.length->PSt fs ns t (op++D) ((iv++dv).map ended)->(∀ p ∈ iv,∀ s ∈ p,(10:UInt8) ∉ s) ->
 PSt fs (op.foldl (pWork c) (ns,D)).1 (t++op) (op.foldl (pWork c) (ns,D)).2 ((dv++iv.map (made c)).map ended)
 | [],iv,ns,D,t,dv,hl,h,hf=>by
  have:iv=[]:=List.length_eq_zero_iff.1 hl.symm
  subst this
  simpa using h
 | p::r,iv,ns,D,t,dv,hl,h,hf=>by
  cases iv with
  | nil=>simp at hl
  | cons x iv=>
   have st:=PSt.step (ins:=[p]) (iv:=[ended x]) (R:=r++D) (rv:=(iv++dv).map ended) (by simpa using h) rfl (n:=workN c p) (workN_right hc) (by simp [workN]) rfl
   have e1:newPorts ns.length (nouts (workN c p)).toNat=[onePort ns.length]:=newPorts_one _
   have e2:nodeMade (workN c p) fs [ended x]=[ended (made c x)]:=by simp [nodeMade,workN,lines_ended x (hf x (by simp))]
   rw [e1,e2] at st
   have ih:=PV.works hc r iv (ns++[workN c p]) (D++[onePort ns.length]) (t++[p]) (dv++[made c x]) (by simpa using hl) (by simpa using st) (fun q hq=>hf q (by simp [hq]))
   simpa [pWork] using ih
theorem made_flat {c:Cmd} (h:isEach c.kind=true):∀ pss:List (List (List UInt8)),(pss.map (made c)).flatten=made c pss.flatten
 | []=>by
  have:=made_append c h [] []
  simp at this
  simp [this]
 | p::r=>by
  rw [List.map_cons,List.flatten_cons,made_flat h r,List.flatten_cons,made_append c h]
theorem made_count {c:Cmd} (h:chk c=0) (ls:List (List UInt8)) (hl:ls.length<=4000):(made c ls).length<=4000:=by
 have:(made c ls).length<=max ls.length 1:=by
  unfold made
  repeat' split
  all_goals (try simp)
  all_goals (first
   | exact Nat.le_trans (List.length_filter_le _ _) (by omega)
   | exact Nat.le_trans (compact_sub _).length_le (by omega)
   | (rw [sortOf_len];omega)
   | omega)
 omega
theorem joined_same {how:Int} (c c':Cmd) (h:how ≠ 4) (ps:List (List (List UInt8))):joined how c ps=joined how c' ps:=by
 unfold joined
 rw [if_neg h,if_neg h]
theorem PV.split {fs:List SFile} {d:PD} {t:List (Int × Int)} {L:List (List UInt8)} (h:PV fs d t [L]) {w:Nat} (hw:1<=w/\w<=5) :
 ∃ pss,PV fs (d.1++[splitN w d.2],newPorts d.1.length w) (t++d.2) pss/\pss.flatten=L/\pss.length=w:=by
 obtain ⟨a,b,e⟩:=h
 obtain ⟨p,hp⟩:∃ p,d.2=[p]:=List.length_eq_one_iff.1 (by simpa using e)
 have hL:=b L (by simp)
 have st:=PSt.step (ins:=[p]) (iv:=[ended L]) (R:=[]) (rv:=[]) (by rw [hp] at a;simpa using a) rfl (n:=splitN w [p]) (splitN_right hw) (by simp [splitN]) rfl
 have e1:nouts (splitN w [p])=(w:Int):=by simp [nouts,splitN]
 have e2:nodeMade (splitN w [p]) fs [ended L]=((List.range w).map (fun k=>(L.take ((k+1)*L.length / w)).drop (k*L.length / w))).map ended:=by
  simp [nodeMade,splitN,partOf,lines_ended L hL]
 rw [e1,e2,Int.toNat_natCast] at st
 have hnf:∀ q ∈ (List.range w).map (fun k=>(L.take ((k+1)*L.length / w)).drop (k*L.length / w)),∀ s ∈ q,(10:UInt8) ∉ s:=by
  intro q hq s hs
  obtain ⟨k,_,rfl⟩:=List.mem_map.1 hq
  exact hL s (List.mem_of_mem_take (List.mem_of_mem_drop hs))
 refine ⟨_,⟨by rw [hp];simpa using st,hnf,by simp [newPorts_len]⟩,?_,by simp⟩
 have hw2:=parts_whole (ended L) w hw.1
 rw [lines_ended L hL] at hw2
 have e3:ended (((List.range w).map (fun k=>(L.take ((k+1)*L.length / w)).drop (k*L.length / w))).flatten)=ended L:=by
  rw [<- hw2]
  unfold partOf
  rw [lines_ended L hL]
  generalize List.range w=rs
  induction rs with
  | nil=>rfl
  | cons k r ih=>simp [ended_append,ih]
 have:=congrArg lines e3
 rw [lines_ended L hL,lines_ended] at this
 . exact this
 . intro s hs
   obtain ⟨q,hq,hsq⟩:=List.mem_flatten.1 hs
   exact hnf q hq s hsq
def PBw (fs:List SFile) (w:Nat) (d:PD) (L:List (List UInt8)):Prop:=∃ t pss,PV fs d t pss/\pss.flatten=L/\(d.2.length=1\/d.2.length=w)/\L.length<=4000
theorem flat_part {pss:List (List (List UInt8))} {p:List (List UInt8)} (h:p ∈ pss):p.length<=pss.flatten.length:=by
 obtain ⟨a,b,rfl⟩:=List.append_of_mem h
 simp
 omega
theorem PBw.cmd {fs:List SFile} {w:Nat} (hw:1<=w/\w<=5) {d:PD} {L:List (List UInt8)} (h:PBw fs w d L) {c:Cmd} (hc:chk c=0):PBw fs w (pCmd w d c) (made c L):=by
 obtain ⟨t,pss,hv,hL,hd,h4⟩:=h
 have hsp:∃ t' pss',PV fs (pSplit w d) t' pss'/\pss'.flatten=L/\pss'.length=w:=by
  unfold pSplit
  split
  . rename_i h1
    have hp1:pss.length=1:=by rw [<- hv.2.2];exact h1.1
    obtain ⟨x,rfl⟩:=List.length_eq_one_iff.1 hp1
    obtain rfl:x=L:=by simpa using hL
    obtain ⟨q,a,b,e⟩:=hv.split hw
    exact ⟨_,q,a,b,e⟩
  . rename_i h1
    refine ⟨t,pss,hv,hL,?_⟩
    rw [<- hv.2.2]
    rcases hd with h | h
    . have:w=1:=by by_cases e:w=1;exact e;exact absurd ⟨h,e⟩ h1
      omega
    . exact h
 obtain ⟨t',ps,hv',hL',hlen⟩:=hsp
 unfold pCmd
 generalize pSplit w d=d1 at hv' ⊢
 obtain ⟨a,b,e⟩:=hv'
 have hwk:=PV.works hc d1.2 ps d1.1 [] t' [] e (by simpa using a) b
 have hlw:=works_len c d1.2 (d1.1,[])
 simp only [List.length_nil,Nat.zero_add,List.nil_append] at hwk hlw
 have hv2:PV fs (pWorks c d1) (t'++d1.2) (ps.map (made c)):=by
  refine ⟨hwk,?_,by unfold pWorks;rw [hlw.2,e];simp⟩
  intro p hp
  obtain ⟨x,hx,rfl⟩:=List.mem_map.1 hp
  exact made_noFeed c hc x (b x hx)
 have hlen2:(pWorks c d1).2.length=w:=by rw [hv2.2.2];simpa using hlen
 have hm4:=made_count hc L h4
 unfold pJoin
 split
 . rename_i h1
   refine ⟨_,_,hv2,?_,Or.inr hlen2,hm4⟩
   rcases h1 with h1 | h1
   . rw [h1] at hlen
     obtain ⟨x,rfl⟩:=List.length_eq_one_iff.1 hlen
     obtain rfl:x=L:=by simpa using hL'
     simp
   . rw [made_flat h1,hL']
 . rename_i h1
   have hcw:∀ p ∈ ps,p.length<=4000:=fun p hp=>by
    have:=flat_part hp
    rw [hL'] at this
    omega
   have hjw:=join_whole c hc ps hcw
   rw [hL'] at hjw
   have hhow:1<=howFor c.kind/\howFor c.kind<=4:=by unfold howFor;repeat' split;all_goals omega
   have hjc:jchk (howFor c.kind) (if howFor c.kind=4 then c else noC)=0:=by
    unfold jchk
    rw [if_neg (by omega)]
    by_cases h4':howFor c.kind=4
    . rw [if_pos h4',if_pos h4'];exact hc
    . rw [if_neg h4',if_neg h4'];simp [noC]
   have hj:=hv2.join hjc (by omega)
   refine ⟨_,_,hj,?_,Or.inl rfl,hm4⟩
   rw [List.flatten_cons,List.flatten_nil,List.append_nil,<- hjw]
   by_cases h4':howFor c.kind=4
   . rw [if_pos h4']
   . rw [if_neg h4'];exact joined_same _ _ h4' _
theorem PBw.cmds {fs:List SFile} {w:Nat} (hw:1<=w/\w<=5):∀ (cs:List Cmd) (d:PD) (L:List (List UInt8)),PBw fs w d L->(∀ c ∈ cs,chk c=0)->PBw fs w (cs.foldl (pCmd w) d) (cs.foldl (fun L c=>made c L) L)
 | [],d,L,h,_=>h
 | c::r,d,L,h,hc=>PBw.cmds hw r _ _ (h.cmd hw (hc c (by simp))) (fun x hx=>hc x (by simp [hx]))
theorem PV.behind {fs:List SFile} {d:PD} {t:List (Int × Int)} {pss:List (List (List UInt8))} (h:PV fs d t pss) (hl:1<=d.2.length/\d.2.length<=5):∃ t',PV fs (pBehind d) t' [pss.flatten]:=by
 unfold pBehind
 split
 . have hj:=h.join (how:=1) (c:=noC) (by simp [jchk,noC]) hl
   exact ⟨_,by simpa [joined] using hj⟩
 . rename_i h1
   refine ⟨t,?_⟩
   have:pss.length=1:=by rw [<- h.2.2];omega
   obtain ⟨x,rfl⟩:=List.length_eq_one_iff.1 this
   simpa using h
theorem lchk_all {l:SLine} (h:lchk l=0):(1<=l.fr.length/\l.fr.length<=4/\l.cs.length<=6)/\(∀ f ∈ l.fr,isWord f=true)/\isWord l.tu=true /\ ∀ c ∈ l.cs,chk c=0:=by
 obtain ⟨a,b,c,d,e,f⟩:=lchk_zero h
 exact ⟨⟨a,b,c⟩,List.all_eq_true.1 d,e,f⟩
theorem plan_pv {fs:List SFile} {l:SLine} {w:Nat} (hw:1<=w/\w<=5) (h:lchk l=0) (hg:(allLines fs l.fr).length<=4000):∃ t,PV fs (pBehind (pDone w l.fr l.cs)) t [l.cs.foldl (fun L c=>made c L) (allLines fs l.fr)]:=by
 obtain ⟨h1,h2,h3,h4⟩:=lchk_all h
 have s0:PV fs ([],[]) [] []:=⟨⟨fun rest _=>rfl,by simp,by simp,by simp [allOuts],rfl⟩,by simp,rfl⟩
 have s1:=PV.src l.fr ([],[]) [] [] s0 h2
 rw [List.nil_append] at s1
 have s1':PV fs (pStart l.fr) [] (l.fr.map (fun f=>lines (fileOf fs f))):=s1
 have hl:=pStart_len l.fr ([],[])
 simp only [List.length_nil,Nat.zero_add] at hl
 obtain ⟨t2,s2⟩:=s1'.behind (by unfold pStart;omega)
 have s3:PBw fs w (pFrom l.fr) (allLines fs l.fr):=⟨t2,_,s2,by simp [allLines],Or.inl s2.2.2,hg⟩
 obtain ⟨t4,pss,s4,hf,hd,_⟩:=s3.cmds hw l.cs _ _ h4
 obtain ⟨t5,s5⟩:=s4.behind (by omega)
 rw [hf] at s5
 exact ⟨t5,s5⟩
theorem sink_right {fs:List SFile} {d:PD} {t:List (Int × Int)} {L:List (List UInt8)} (h:PV fs d t [L]) {tu:List UInt8} (ht:isWord tu=true) (h60:(pSink tu d).length<=60):gchk (pSink tu d)=0/\sunk (pSink tu d) fs=ended L:=by
 obtain ⟨⟨a1,a2,a3,a4,a5⟩,b,e⟩:=h
 obtain ⟨p,hp⟩:∃ p,d.2=[p]:=List.length_eq_one_iff.1 (by simpa using e)
 rw [hp] at a2 a3 a4 a5
 have hgl:gchkL [] (d.1++[sinkN tu [p]]) []=(0,t++[p]):=by
  rw [a1 _ (by simp),gchkL,if_neg (by simp [sinkN_right ht]),show (sinkN tu [p]).ins=[p] from rfl,insChk_ok d.1 [p] t (fun q hq=>a3 q (by simp at hq;simp [hq])) a2,if_neg (by simp),if_neg (by simp [sinkN]),gchkL]
 constructor
 . unfold pSink at h60 ⊢
   rw [hp] at h60 ⊢
   unfold gchk
   rw [if_neg (by omega),hgl,if_neg (by simp),if_neg]
   have ea:allOuts (d.1++[sinkN tu [p]])=allOuts d.1+0:=by simp [allOuts,nouts,sinkN]
   rw [ea,<- a4]
   simp
 . unfold pSink
   rw [hp]
   have hs:sunk (d.1++[sinkN tu [p]]) fs=portAt (outsL fs [] (d.1++[sinkN tu [p]])) p:=by
    unfold sunk
    rw [List.getLast?_append]
    rfl
   rw [hs,port_old (a3 p (by simp))]
   simpa using a5
theorem plan_right {l:SLine} {w:Nat} (hw:1<=w/\w<=5) (h:lchk l=0):gchk (plan l w)=0:=by
 have e0:∀ fr:List (List UInt8),allLines [] fr=[]:=by
  intro fr
  induction fr with
  | nil=>rfl
  | cons f r ih=>rw [show allLines [] (f::r)=lines (fileOf [] f)++allLines [] r from rfl,ih];rfl
 obtain ⟨t,hv⟩:=plan_pv (fs:=[]) hw h (by rw [e0];simp)
 exact (sink_right hv (lchk_all h).2.2.1 (by have:=(plan_len hw h).1;unfold plan at this;omega)).1
theorem bounded_plan {l:SLine} {w:Nat} {fs:List SFile} (hw:1<=w/\w<=5) (h:lchk l=0) (hf:∀ f ∈ fs,f.b.length<=4000):Bounded (plan l w) fs:=by
 refine bounded_few (plan_right hw h) hf ?_
 rw [cnt_plan hw h (by omega) (by omega)]
 have:=(lchk_all h).1.2.1
 simp
 omega
end Go.Gs
namespace Go.Proofs.YtllgglolcgdehaaGreatDoor
open Go.RowKit Go.Gs Go.ChangeShapes Go.WideShapes Go.ChangeAt
set_option linter.unusedVariables false
variable {P:Program} {H:Type} {enc:TypeId × Value->H} {W:World} {base:Nat} {held:Bool} {fuel:Nat} {t e q:TypeId} {x:DataW H × List MemPlace}
theorem open_triples {spare:Nat->Bool} {f0 f1 f2:Field} {cs:List Value} (ht:P.underlying t=some (.slice e)) (he:P.underlying e=some (.struct #[f0,f1,f2]))
 (ce:P.cellsOf e=3) (o0:f0.offset=0) (o1:f1.offset=1) (o2:f2.offset=2) (c0:P.cellsOf f0.type=1) (c1:P.cellsOf f1.type=1) (c2:P.cellsOf f2.type=1)
 (h:DataW.trod enc P W base spare held fuel t cs=some x) :
 cs=[.slice none 0 0] \/
 ∃ (a:Addr) (len cap:Nat) (V:Nat->Value × Value × Value),cs=[.slice (some a) len cap]/\len<=cap/\cap<=maxLen /\
  ∀ i,i < len->W.cell? (a.add (i*3))=some (V i).1/\W.cell? (a.add (i*3+1))=some (V i).2.1/\W.cell? (a.add (i*3+2))=some (V i).2.2 /\
   ∃ n y0 y1 y2,DataW.trod enc P W base spare held n f0.type [(V i).1]=some y0/\DataW.trod enc P W base spare held n f1.type [(V i).2.1]=some y1/\DataW.trod enc P W base spare held n f2.type [(V i).2.2]=some y2:=by
 rcases Deep.open_slice ht h with ⟨h0,_⟩ | ⟨a,len,cap,m,n,D,Pl,rfl,hb,hl,hm,hmm,rfl,hx⟩
 . exact Or.inl h0
 right
 have hlm:len<=m:=by rw [hmm];split <;> omega
 have each:∀ i,i < len -> ∃ q:Value × Value × Value,W.cell? (a.add (i*3))=some q.1/\W.cell? (a.add (i*3+1))=some q.2.1/\W.cell? (a.add (i*3+2))=some q.2.2 /\
  ∃ n y0 y1 y2,DataW.trod enc P W base spare held n f0.type [q.1]=some y0/\DataW.trod enc P W base spare held n f1.type [q.2.1]=some y1/\DataW.trod enc P W base spare held n f2.type [q.2.2]=some y2:=by
  intro i hi
  obtain ⟨cs',h1,h2⟩:=hx i (by omega)
  rw [ce] at h1
  obtain ⟨_,hlen,hcell⟩:=World.cells?_some h1
  obtain ⟨xs,k,hk,hxy,_,hxl,hf⟩:=DataW.trod_struct he h2
  match xs,hxl,cs',hlen with
  | [y0,y1,y2],_,[v0,v1,v2],_=>
   have g0:=hf 0 f0 rfl
   have g1:=hf 1 f1 rfl
   have g2:=hf 2 f2 rfl
   simp [o0,o1,o2,c0,c1,c2] at g0 g1 g2
   have e0:=hcell 0 (by omega)
   have e1:=hcell 1 (by omega)
   have e2:=hcell 2 (by omega)
   rw [Deep.add_add] at e0 e1 e2
   exact ⟨(v0,v1,v2),by simpa using e0,by simpa using e1,by simpa using e2,k,y0,y1,y2,g0,g1,g2⟩
 obtain ⟨q,hq⟩:=Deep.choose_lt each
 exact ⟨a,len,cap,q,rfl,hl,hm,hq⟩
theorem strs_of_open (ht:P.underlying t=some (.slice e)) (he:P.underlying e=some .string) (ce:P.cellsOf e=1) {v:Value}
 (hf:DataW.trod enc P W base (fun _=>true) held fuel t [v]=some x) :
 ∃ fr:List (List UInt8),Reads W v fr.length (fr.map S) /\ ∀ s ∈ fr,s.length<=9223372036854775807:=by
 rcases Deep.open_slice1 ht ce hf with ⟨hcs,_⟩ | ⟨ad,len,cap,m,n,V,D,Pl,hcs,hb,hl,hm,hmm,hx,hall⟩
 . simp at hcs
   subst hcs
   exact ⟨[],⟨rfl,none,0,rfl,Nat.le_refl _,by simp,fun h=>absurd rfl h⟩,by simp⟩
 . simp at hcs
   subst hcs
   simp only [if_true] at hmm
   subst hmm
   have each:∀ i,i < len -> ∃ y:List UInt8,V i=S y/\y.length<=9223372036854775807:=by
    intro i hi
    obtain ⟨s,e2,_,hs⟩:=DataW.trod_string he (hall i (by omega)).2
    simp at e2
    refine ⟨s.data.toList,by rw [e2];rfl,?_⟩
    unfold maxLen at hs
    have:s.data.toList.length=s.size:=Array.length_toList
    omega
   obtain ⟨Y,hY⟩:=Deep.choose_lt each
   refine ⟨(List.range len).map Y,⟨by simp,some ad,m,by simp,by simpa using hl,hm,fun h0=>?_⟩,fun s hs=>?_⟩
   . have h0':0 < len:=by
      rcases Nat.eq_zero_or_pos len with h | h
      . subst h;simp at h0
      . exact h
     have hspot:=spot_none (hall 0 (by omega)).1 rfl
     obtain ⟨b,off,spot⟩:=ad
     simp only at hspot
     subst hspot
     refine ⟨b,off,rfl,fun j u hu=>?_⟩
     rw [List.map_map] at hu
     obtain ⟨h1,h2⟩:=range_get hu
     have:=(hall j (by omega)).1
     rw [add_plain4] at this
     rw [this,h2,Function.comp,(hY j h1).1]
   . obtain ⟨i,hi,rfl⟩:=List.mem_map.1 hs
     exact (hY i (List.mem_range.1 hi)).2
theorem cmds_of_open {f0 f1 f2:Field} (ht:P.underlying t=some (.slice e)) (he:P.underlying e=some (.struct #[f0,f1,f2]))
 (ce:P.cellsOf e=3) (o0:f0.offset=0) (o1:f1.offset=1) (o2:f2.offset=2) (c0:P.cellsOf f0.type=1) (c1:P.cellsOf f1.type=1) (c2:P.cellsOf f2.type=1)
 (u0:P.underlying f0.type=some (.int .i64)) (u1:P.underlying f1.type=some .string) (u2:P.underlying f2.type=some (.int .i64)) {v:Value}
 (hf:DataW.trod enc P W base (fun _=>true) held fuel t [v]=some x):∃ cs:List Cmd,RCmds W v cs/\FitsC cs /\ ∀ n c,v=.slice none n c->c=0:=by
 rcases open_triples ht he ce o0 o1 o2 c0 c1 c2 hf with hcs | ⟨a,len,cap,V,hcs,hl,hm,hall⟩
 . simp at hcs
   subst hcs
   exact ⟨[],⟨none,0,rfl,Nat.le_refl _,by simp,fun h=>absurd rfl h⟩,(by intro c hc;cases hc),fun n c e=>by injection e with _ _ e;exact e.symm⟩
 . simp at hcs
   subst hcs
   have each:∀ i,i < len -> ∃ c:Cmd,V i=(.int .i64 c.kind,.string ⟨c.word.toArray⟩,.int .i64 c.n)/\c.word.length<=9223372036854775807:=by
    intro i hi
    obtain ⟨_,_,_,n,y0,y1,y2,g0,g1,g2⟩:=hall i hi
    obtain ⟨k,e1,_,_⟩:=DataW.trod_int u0 g0
    obtain ⟨s,e2,_,hs⟩:=DataW.trod_string u1 g1
    obtain ⟨n,e3,_,_⟩:=DataW.trod_int u2 g2
    simp at e1 e2 e3
    refine ⟨⟨k,s.data.toList,n⟩,by rw [<- e1,<- e3];exact Prod.ext rfl (Prod.ext e2 rfl),?_⟩
    unfold maxLen at hs
    have:s.data.toList.length=s.size:=Array.length_toList
    show s.data.toList.length<=_
    omega
   haveI:Inhabited Cmd:=⟨⟨0,[],0⟩⟩
   obtain ⟨Y,hY⟩:=Deep.choose_lt each
   refine ⟨(List.range len).map Y,⟨some a,cap,by simp,by simpa using hl,hm,fun h0=>?_⟩,fun c hc=>?_,fun n c e=>by injection e with e;cases e⟩
   . have h0':0 < len:=by
      rcases Nat.eq_zero_or_pos len with h | h
      . subst h;simp at h0
      . exact h
     have hspot:=spot_none (hall 0 h0').1 rfl
     obtain ⟨b,off,spot⟩:=a
     simp only at hspot
     subst hspot
     refine ⟨b,off,rfl,fun j u hu=>?_⟩
     obtain ⟨h1,h2⟩:=range_get hu
     subst h2
     obtain ⟨b0,b1,b2,_⟩:=hall j h1
     rw [add_plain4,(hY j h1).1] at b0 b1 b2
     exact ⟨b0,b1,b2⟩
   . obtain ⟨i,hi,rfl⟩:=List.mem_map.1 hc
     exact (hY i (List.mem_range.1 hi)).2
theorem line_of_open {vf vd vt:Value} {n:Nat} {y0 y1 y2:DataW H × List MemPlace} (g0:DataW.trod enc Tryz.prog W base (fun _=>true) held n 53 [vf]=some y0) (g1:DataW.trod enc Tryz.prog W base (fun _=>true) held n 54 [vd]=some y1) (g2:DataW.trod enc Tryz.prog W base (fun _=>true) held n 9 [vt]=some y2) :
 ∃ x:SLine,vt=.string ⟨x.tu.toArray⟩/\Reads W vf x.fr.length (x.fr.map S)/\RCmds W vd x.cs/\FitsL x /\ ∀ n c,vd=.slice none n c->c=0:=by
 obtain ⟨fr,r1,r2⟩:=strs_of_open Tryz.underlying53 Tryz.underlying9 (by kernel_rfl) g0
 obtain ⟨cs,r3,r4,r5⟩:=cmds_of_open Tryz.underlying54 Tryz.underlying70 (by kernel_rfl) rfl rfl rfl (by kernel_rfl) (by kernel_rfl) (by kernel_rfl) Tryz.underlying3 Tryz.underlying9 Tryz.underlying3 g1
 obtain ⟨s,e2,_,hs⟩:=DataW.trod_string Tryz.underlying9 g2
 simp at e2
 refine ⟨⟨fr,cs,s.data.toList⟩,e2,r1,r3,⟨r2,r4,?_⟩,r5⟩
 unfold maxLen at hs
 have:s.data.toList.length=s.size:=Array.length_toList
 show s.data.toList.length<=_
 omega
end Go.Proofs.YtllgglolcgdehaaGreatDoor
namespace Go.Gs
open Go.RowKit Go.ChangeShapes Go.WideShapes Go.ChangeAt
set_option linter.unusedVariables false
variable {P:Program} {H:Type} {enc:TypeId × Value->H} {W:World} {base:Nat} {held:Bool} {fuel:Nat} {t e:TypeId} {a:Option Addr} {len cap:Nat} {x:DataW H × List MemPlace}
theorem strs_of_open (ht:P.underlying t=some (.slice e)) (he:P.underlying e=some .string) (hc:P.cellsOf e=1)
 (hf:DataW.trod enc P W base (fun _=>true) held fuel t [.slice a len cap]=some x) :
 ∃ ls:List (List UInt8),ls.length=len/\Reads W (.slice a len cap) ls.length (ls.map S) /\ ∀ s ∈ ls,s.length<=9223372036854775807:=by
 rcases open_strings ht he hc hf with ⟨hcs,_⟩ | ⟨ad,l,c,ss,hcs,_,hl,hm,hz,_,hcell,hwz⟩
 . simp at hcs
   obtain ⟨rfl,rfl,rfl⟩:=hcs
   exact ⟨[],rfl,⟨rfl,none,0,rfl,Nat.le_refl _,by simp,fun h=>absurd rfl h⟩,by simp⟩
 . simp at hcs
   obtain ⟨rfl,rfl,rfl⟩:=hcs
   have hz':ss.length=cap:=by simpa using hz
   have hbl:((ss.take len).map (fun s=>s.data.toList)).length=len:=by simp;omega
   refine ⟨(ss.take len).map (fun s=>s.data.toList),hbl,⟨by simp,some ad,cap,by rw [hbl],by omega,hm,fun h0=>?_⟩,?_⟩
   . rw [hbl] at h0
     obtain ⟨b,off,spot⟩:=ad
     have h00:=hcell 0 (by omega)
     have hspot:spot=none:=by simpa [Addr.add] using World.cell?_spot h00
     subst hspot
     refine ⟨b,off,rfl,fun j u hu=>?_⟩
     have hj:j < len:=by
      have:=(List.getElem?_eq_some_iff.1 hu).1
      simp at this
      omega
     have hjz:j < ss.length:=by omega
     have hcj:=hcell j hjz
     rw [add_plain] at hcj
     rw [hcj]
     simp only [List.map_map,List.getElem?_map,List.getElem?_take,hj,if_true,List.getElem?_eq_getElem hjz,Option.map_some,Function.comp_apply,Option.some.injEq] at hu
     rw [<- hu]
     simp [hjz,S]
   . intro s hs
     simp only [List.mem_map] at hs
     obtain ⟨y,hy,rfl⟩:=hs
     have h1:y.size<=maxLen:=hwz y (List.mem_of_mem_take hy)
     have h2:y.data.toList.length=y.size:=Array.length_toList
     unfold maxLen at h1
     omega
end Go.Gs
namespace Go.Proofs.YtllgglolcgdehaaGreatDoor
open Go.RowKit Go.Gs
set_option linter.unusedVariables false
theorem howFor_cases (k:Int):(k=6/\howFor k=2)\/(k=8/\howFor k=3)\/(k=7/\howFor k=4)\/(k=9/\howFor k=4)\/(k=10/\howFor k=4)\/(k ≠ 6/\k ≠ 7/\k ≠ 8/\k ≠ 9/\k ≠ 10/\howFor k=1):=by
 unfold howFor
 by_cases h6:k=6
 . simp [h6]
 . by_cases h8:k=8
   . simp [h8]
   . by_cases h7:k=7
     . simp [h7]
     . by_cases h9:k=9
       . simp [h9]
       . by_cases h10:k=10
         . simp [h10]
         . simp [*]
set_option maxRecDepth 100000 in
set_option maxHeartbeats 4000000 in
theorem for_is (c:Cmd) (w:World) (hw:c.word.length<=9223372036854775807) :
 Calls Tryz.prog 143 #[c.v] w fun e w'=>e=.returned (.tuple #[.int .i64 (if chk c=0 then howFor c.kind else 0),.int .i64 (chk c)])/\Below w.heap.size w w':=by
 have hchk:=fun W=>check_is c W hw
 obtain ⟨k,word,n⟩:=c
 unfold Cmd.v at hchk ⊢
 simp only at hchk ⊢
 generalize (⟨word.toArray⟩:ByteArray)=sx at *
 by_cases h0:chk ⟨k,word,n⟩=0
 . rw [h0] at hchk ⊢
   rw [if_pos rfl]
   have hkk:=howFor_cases k
   clear h0
   generalize howFor k=h at *
   rcases hkk with ⟨rfl,rfl⟩ | ⟨rfl,rfl⟩ | ⟨rfl,rfl⟩ | ⟨rfl,rfl⟩ | ⟨rfl,rfl⟩ | ⟨h6,h7,h8,h9,h10,rfl⟩
   all_goals
    go_enter Tryz.func143,Tryz.ntmps143
    go_wp2_with fail
    refine (hchk _).mono ?_
    rintro e w1 ⟨rfl,hb1⟩
    obtain ⟨bx0,bx1,bx2⟩:=box3O hb1
    have HB:Hid (Below w.heap.size w w1):=box_of.trans (hb1.mono (by simp))
    clear hb1 hchk
    go_wp2_with fail
    go_ret2
    exact ⟨rfl,HB.out⟩
 . rw [if_neg h0]
   generalize chk ⟨k,word,n⟩=r at *
   go_enter Tryz.func143,Tryz.ntmps143
   go_wp2_with fail
   refine (hchk _).mono ?_
   rintro e w1 ⟨rfl,hb1⟩
   have HB:Hid (Below w.heap.size w w1):=box_of.trans (hb1.mono (by simp))
   clear hb1 hchk
   go_wp2_with fail
   go_ret2
   exact ⟨rfl,HB.out⟩
end Go.Proofs.YtllgglolcgdehaaGreatDoor
namespace Go.Gs
open Go.RowKit
set_option linter.unusedVariables false
theorem wordlen {s:List UInt8} (h:isWord s=true):s.length<=12:=by
 unfold isWord at h
 simp at h
 omega
theorem chk_wordlen {c:Cmd} (h:chk c=0):c.word.length<=12:=by
 unfold chk at h
 split at h
 . cases h
 . split at h
   . cases h
   . rename_i h1 h2
     split at h
     . cases h
     . split at h
       . cases h
       . rename_i h3 h4
         by_cases hu:uses c.kind=1
         . have:isWord c.word=true:=by
            cases hw:isWord c.word with
            | true=>rfl
            | false=>exact absurd ⟨hu,Or.inl hw⟩ h4
           exact wordlen this
         . have:c.word=[]:=by
            by_cases e:c.word=[]
            . exact e
            . exact absurd (Or.inl ⟨hu,e⟩) h2
           rw [this];simp
theorem wf_nat {k:Nat} (h:k<=1000):(Lit.int .i64 (k:Int)).wf=true:=by
 simp [Lit.wf,IntKind.min,IntKind.max,IntKind.signed,IntKind.bits]
 omega
theorem right_fits {ns:List SNode} (h:gchk ns=0) {n:SNode} (hn:n ∈ ns):FitsN n:=by
 obtain ⟨k,hk⟩:=List.getElem?_of_mem hn
 have h60:=(gchk_zero h).1
 obtain ⟨r1,r2,r3,r4⟩:=right_node (fs:=[]) h (fun f hf=>by cases hf) hk
 obtain ⟨q1,q2,q3⟩:=node_kinds r1
 have hnouts:∀ m ∈ ns,nouts m<=5:=by
  intro m hm
  obtain ⟨j,hj⟩:=List.getElem?_of_mem hm
  obtain ⟨m1,_⟩:=right_node (fs:=[]) h (fun f hf=>by cases hf) hj
  have:=used_kinds (node_kinds m1).1
  unfold nouts
  split
  . rcases this with ⟨a | a,_⟩ | ⟨_,_,a⟩ | ⟨a,_⟩ | ⟨a,_⟩ <;> omega
  . split <;> omega
 refine ⟨?_,?_,?_⟩
 . unfold hasUnused at q3
   simp only [Bool.or_eq_false_iff,Bool.and_eq_false_iff,Bool.not_eq_false',decide_eq_true_eq] at q3
   rcases q3.1.1.1 with a | a
   . rcases used_kinds q1 with ⟨_,b⟩ | ⟨b,_⟩ | ⟨b,_⟩ | ⟨b,_⟩
     . have:=wordlen b;omega
     . omega
     . omega
     . omega
   . rw [List.isEmpty_iff.1 a];simp
 . have hz:zeroC n.c=true->n.c.word.length<=12:=by
    intro hz
    unfold zeroC at hz
    simp at hz
    rw [hz.1.2];simp
   have:n.c.word.length<=12:=by
    unfold hasUnused at q3
    simp only [Bool.or_eq_false_iff,Bool.and_eq_false_iff,Bool.not_eq_false',decide_eq_true_eq] at q3
    rcases q3.1.2 with a | a
    . rcases used_kinds q1 with ⟨b,_⟩ | ⟨b,_⟩ | ⟨_,b⟩ | ⟨_,b⟩
      . omega
      . omega
      . exact chk_wordlen b
      . unfold jchk at b
        split at b
        . cases b
        . split at b
          . exact chk_wordlen b
          . split at b
            . rename_i hh
              rw [hh.2.1];simp
            . cases b
    . exact hz a
   omega
 . intro p hp
   obtain ⟨i,j,m,rfl,hi,hj⟩:=port_nat (r2 p hp)
   have hi':i < ns.length:=by
    have:=(List.getElem?_eq_some_iff.1 hi).1
    rw [List.length_take] at this
    omega
   have hm:m ∈ ns:=List.mem_of_mem_take (List.mem_of_getElem? hi)
   have:=hnouts m hm
   exact ⟨wf_nat (by omega),wf_nat (by omega)⟩
end Go.Gs
namespace Go.Proofs.YtllgglolcgdehaaGreatDoor
open Go.RowKit Go.Gs Go.Maps
set_option linter.unusedVariables false
def Zs (l:List Int):List Value:=l.map (fun e=>Value.int .i64 e)
theorem readsE_le {w:World} {ao:Option Addr} {n cap:Nat} {xs:List Value} (h:Reads w (.slice ao n cap) n xs):n<=cap/\cap<=9223372036854775807:=by
 obtain ⟨_,ao',c,e,h1,h2,_⟩:=h
 unfold maxLen at h2
 injection e with e1 e2 e3
 omega
theorem readsE_at {w:World} {ao:Option Addr} {n cap:Nat} {xs:List Value} (h:Reads w (.slice ao n cap) n xs) {j:Nat} {u:Value} (hj:xs[j]? = some u):∃ b off,ao=some ⟨b,off,none⟩/\w.cell? ⟨b,off+j,none⟩=some u:=by
 obtain ⟨hl,ao',c,e,h1,h2,h3⟩:=h
 injection e with e1 e2 e3
 subst e1
 have:=(List.getElem?_eq_some_iff.1 hj).1
 obtain ⟨b,off,q,hc⟩:=h3 (by omega)
 exact ⟨b,off,q,hc j u hj⟩
end Go.Proofs.YtllgglolcgdehaaGreatDoor
