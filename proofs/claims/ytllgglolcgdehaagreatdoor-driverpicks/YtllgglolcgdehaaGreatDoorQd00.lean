/- Scripts, plainly, and more. -/
import Derived.Test.YtllgglolcgdehaaGreatDoorQAb
import Derived.Test.YtllgglolcgdehaaGreatDoorQb03
set_option maxRecDepth 100000
set_option maxHeartbeats 16000000
namespace Go.Gs
open Go.RowKit
set_option linter.unusedVariables false
def schk (ls:List SLine):Int:=if 6<ls.length then 2 else K3 (ls.map lchk)
def putF:List SFile->List UInt8->List UInt8->List SFile
 | [],n,b=>[⟨n,b⟩]
 | f::r,n,b=>if f.name=n then ⟨n,b⟩::r else if n<f.name then ⟨n,b⟩::f::r else f::putF r n b
def putS (l:List SFile) (n b:List UInt8):List SFile × Int:=
 if isWord n=false then ([],1)
 else if 4000<b.length then ([],2)
 else if 12<(putF l n b).length then ([],2)
 else (putF l n b,0)
def runL:List SFile->List SLine->List SFile × Int
 | l,[]=>(l,0)
 | l,x::r=>if (A3 l x).2=0 then (if (putS l x.tu (A3 l x).1).2=0 then runL (putS l x.tu (A3 l x).1).1 r else ([],(putS l x.tu (A3 l x).1).2)) else ([],(A3 l x).2)
def runS (l:List SFile) (s:List SLine):List SFile × Int:=if fchk l=0 then (if schk s=0 then runL l s else ([],schk s)) else ([],fchk l)
def S1 (w:World) (v:Value) (ls:List SLine):Prop:=
 ∃ao cap,v=.slice ao ls.length cap/\ls.length<=cap/\cap<=maxLen /\
  (ls.length≠0 -> ∃b off,ao=some ⟨b,off,none⟩ /\ ∀j x,ls[j]? = some x -> ∃vf vd,w.cell? ⟨b,off+j*3,none⟩=some vf/\w.cell? ⟨b,off+j*3+1,none⟩=some vd/\w.cell? ⟨b,off+j*3+2,none⟩=some (.string ⟨x.tu.toArray⟩)/\Reads w vf x.fr.length (x.fr.map S)/\P6 w vd x.cs)
theorem S1.below {w w':World} {v:Value} {ls:List SLine} (h:S1 w v ls) (hb:Bq w w'):S1 w' v ls:=by obtain⟨ao,cap,rfl,h2,h3,h4⟩:=h;refine⟨ao,cap,rfl,h2,h3,fun hn=>?_⟩;obtain⟨b,off,rfl,hc⟩:=h4 hn;refine⟨b,off,rfl,fun j c hj=>?_⟩;obtain⟨vf,vd,a1,a2,a3,a4,a5⟩:=hc j c hj;exact⟨vf,vd,(hb.cell (bLt w _ a1)).trans a1,(hb.cell (bLt w _ a2)).trans a2,(hb.cell (bLt w _ a3)).trans a3,a4.below hb,a5.below hb⟩
theorem S1.shape {w:World} {v:Value} {ls:List SLine} (h:S1 w v ls):∃ao cap,v=.slice ao ls.length cap/\ls.length<=cap/\cap<=maxLen:=by obtain⟨ao,cap,h1,h2,h3,_⟩:=h;exact⟨ao,cap,h1,h2,h3⟩
theorem S1.at {w:World} {ao:Option Addr} {n cap:Nat} {ls:List SLine} (h:S1 w (.slice ao n cap) ls) {k:Nat} {x:SLine} (hk:ls[k]? = some x) :
 ∃b off af cf ad cd,ao=some ⟨b,off,none⟩/\w.cell? ⟨b,off+k*3,none⟩=some (.slice af x.fr.length cf)/\w.cell? ⟨b,off+k*3+1,none⟩=some (.slice ad x.cs.length cd)/\w.cell? ⟨b,off+k*3+2,none⟩=some (.string ⟨x.tu.toArray⟩)/\Reads w (.slice af x.fr.length cf) x.fr.length (x.fr.map S)/\P6 w (.slice ad x.cs.length cd) x.cs:=by obtain⟨ao',cap',e,_,_,h5⟩:=h;injection e with e1 e2 e3;subst e1;obtain⟨hkl,_⟩:=gSm hk;obtain⟨b,off,hao,hc⟩:=h5 (by omega);obtain⟨vf,vd,a1,a2,a3,a4,a5⟩:=hc k x hk;obtain⟨af,cf,rfl,_,_⟩:=a4.shape;obtain⟨ad,cd,rfl,_,_⟩:=a5.shape;exact⟨b,off,af,cf,ad,cd,hao,a1,a2,a3,a4,a5⟩
theorem aF9 (out:List FRow) (r:FRow):j4 (out++[r])=j4 out++encF r:=by simp[j4]
theorem ar0 (a b:List FRow):j4 (a++b)=j4 a++j4 b:=by simp[j4]
theorem ak9:∀(out:List FRow) (i:Nat),(j4 out).take (i*2)=j4 (out.take i)
 | [],i=>by simp[j4]
 | d::l,0=>by simp[j4]
 | d::l,i+1=>by
  rw[List.take_succ_cons,O4,O4,List.take_append,show (encF d).length=2 from rfl,show (i+1)*2-2=i*2 by omega,ak9 l i,List.take_of_length_le (by simp[encF];omega)]
theorem az8 (out:List FRow) (i:Nat) (hi:i<=out.length):(j4 out).drop (i*2)=j4 (out.drop i):=by
 have h:=List.take_append_drop (i*2) (j4 out);have h2:j4 out=j4 (out.take i)++j4 (out.drop i):=by rw[<- ar0,List.take_append_drop]
 have hl:(j4 (out.take i)).length=i*2:=by rw[q9,List.length_take,Nat.min_eq_left hi]
 conv=>lhs;rw[h2]
 rw[List.drop_append,hl,Nat.sub_self,List.drop_zero,List.drop_of_length_le (by omega),List.nil_append]
theorem cs0 {w:World} {ao:Option Addr} {n cap:Nat} {fs:List SFile} (h:j9 w (.slice ao n cap) fs):∃rows:List FRow,rows.map (·.1)=fs /\ ∀(j:Nat) (r:FRow),rows[j]? = some r ->
 (∃b off,ao=some ⟨b,off,none⟩/\w.cell? ⟨b,off+j*2,none⟩=some (.string ⟨r.1.name.toArray⟩)/\w.cell? ⟨b,off+j*2+1,none⟩=some (.slice r.2.1 r.2.2.1 r.2.2.2))/\r.2.2.1=r.1.b.length/\Reads w (.slice r.2.1 r.2.2.1 r.2.2.2) r.1.b.length (r.1.b.map U):=by
 have each:∀i,i<fs.length -> ∃r:FRow,fs[i]? = some r.1/\(∃b off,ao=some ⟨b,off,none⟩/\w.cell? ⟨b,off+i*2,none⟩=some (.string ⟨r.1.name.toArray⟩)/\w.cell? ⟨b,off+i*2+1,none⟩=some (.slice r.2.1 r.2.2.1 r.2.2.2))/\r.2.2.1=r.1.b.length/\Reads w (.slice r.2.1 r.2.2.1 r.2.2.2) r.1.b.length (r.1.b.map U):=by intro i hi;have hf:fs[i]? = some fs[i]:=gEl hi;obtain⟨b,off,ab,cb,e1,e2,e3,e4⟩:=h.at hf;exact⟨(fs[i],ab,fs[i].b.length,cb),hf,⟨b,off,e1,e2,e3⟩,rfl,e4⟩
 haveI:Inhabited SFile:=⟨⟨[],[]⟩⟩;obtain⟨Y,hY⟩:=Deep.choose_lt each;refine⟨(List.range fs.length).map Y,?_,?_⟩
 .
  apply List.ext_getElem?;intro i;by_cases hi:i<fs.length
  . rw[List.getElem?_map,List.getElem?_map,List.getElem?_range hi];exact (hY i hi).1.symm
  . rw[List.getElem?_eq_none (by simp;omega),List.getElem?_eq_none (by omega)]
 .
  intro j r hj;rw[List.getElem?_map] at hj;by_cases hi:j<fs.length
  . rw[List.getElem?_range hi] at hj;simp only[Option.map_some,Option.some.injEq] at hj;subst hj;exact (hY j hi).2
  . rw[List.getElem?_eq_none (by simp;omega)] at hj
    cases hj
theorem FO.below {w w':World} {B:Nat} {e:TypeId} {v:Value} {rows:List FRow} (h:FO w B e v rows) (hb:Bq w w'):FO w' B e v rows:=
 ⟨h.own.kept (row:=none) ⟨hb.os,hb.tape,hb.output,hb.size,fun k hk _=>hb.block k hk⟩ (by cases hv:v.ownBlock <;> simp),fun r hr=>(h.good r hr).keep (fun k hk _=>hb.block k hk)⟩
theorem FO.shape {w:World} {B:Nat} {e:TypeId} {v:Value} {rows:List FRow} (h:FO w B e v rows):∃ao cap,v=.slice ao rows.length cap/\rows.length<=cap/\cap<=maxLen:=by
 rcases h.own.2 with ⟨rfl,h0⟩ | ⟨g,cap,cur,rfl,_,_,h1,h2,_⟩
 . exact⟨none,0,by rw[h0],by omega,by simp[maxLen]⟩
 . exact⟨_,cap,rfl,h1,h2⟩
theorem FO.form {w:World} {B:Nat} {e:TypeId} {v:Value} {rows:List FRow} (h:FO w B e v rows) (hn:rows.length≠0):∃g cap,v=.slice (some ⟨g,0,none⟩) rows.length cap/\B<=g:=by
 rcases h.own.2 with ⟨rfl,h0⟩ | ⟨g,cap,cur,rfl,hb,_,h1,h2,_⟩
 . exact absurd h0 hn
 . exact⟨g,cap,rfl,hb⟩
theorem ad3 {P:Program} (w:World) (dT sT ty elem:TypeId) (g o dLen dCap:Nat) (a:Addr) (sLen sCap:Nat) (cur:Array Value) (t:TypeId) (cs:List Value) (k m:Nat)
 (hu:P.underlying dT=some (.slice elem)) (hs:(P.info? elem).map (·.size)=some k)
 (hg:w.heap[g]? = some (.cells cur t (0,0))) (hm:Nat.min sLen dLen=m) (hn:cs.length=m*k)
 (Lm:∀j v,cs[j]? = some v->w.cell? (a.add j)=some v) (Ad:o+cs.length<=cur.size) (h1:∀v∈cs,v.oneCell'=true) :
 (Builtin.copy_ #[dT,sT] ty #[.slice (some ⟨g,o,none⟩) dLen dCap,.slice (some a) sLen sCap]).run P w =
  .ok (goInt m) (w.setRow g (cur.toList.take o++cs++cur.toList.drop (o+cs.length)).toArray):=by
 have hl:=run_loadCells_list (P:=P) w a cs Lm;have hst:=run_storeCells_at P g o t cs 0 cur w hg (by simpa using Ad) h1
 cases hq:P.info? elem with
 | none=>simp[hq] at hs
 | some i=>
  have hi:i.size=k:=by simpa[hq] using hs
  rw[hn] at hl
  simp[Builtin.copy_,run_underlying hu,Builtin.lenOf,Builtin.firstCells,sizeOf,typeInfo,hq,hi,hm,hl,hst]
def insR (rows:List FRow) (i:Nat) (r:FRow):List FRow:=rows.take i++r::rows.drop i
theorem W7 (rows:List FRow) (i:Nat) (r:FRow) (hi:i<=rows.length):(insR rows i r).length=rows.length+1:=by simp[insR];omega
theorem aW6 (rows:List FRow) (i:Nat) (r:FRow):j4 (insR rows i r)=j4 (rows.take i)++(encF r++j4 (rows.drop i)):=by rw[insR,ar0,O4]
theorem aG0 {rows:List FRow} {i:Nat} {r x:FRow} (h:x∈insR rows i r):x∈rows\/x=r:=by
 unfold insR at h;rw[List.mem_append,List.mem_cons] at h;rcases h with h | h | h
 . exact .inl (List.mem_of_mem_take h)
 . exact .inr h
 . exact .inl (List.mem_of_mem_drop h)
theorem bY6 (cur:List Value) (rows:List FRow) (i:Nat) (r:FRow) (hi:i<=rows.length) (hc:cur.take (rows.length*2)=j4 rows) (hl:(rows.length+1)*2<=cur.length) (c1:List Value)
 (h1:c1=cur.take (i*2+2)++j4 (rows.drop i)++cur.drop (i*2+2+(j4 (rows.drop i)).length)) :
 c1.length=cur.length/\(c1.take (i*2)++encF r++c1.drop (i*2+(encF r).length)).length=cur.length/\(c1.take (i*2)++encF r++c1.drop (i*2+(encF r).length)).take ((rows.length+1)*2)=j4 (insR rows i r):=by
 have hd:(j4 (rows.drop i)).length=(rows.length-i)*2:=by rw[q9,List.length_drop]
 have ht:(j4 (rows.take i)).length=i*2:=by rw[q9,List.length_take,Nat.min_eq_left hi]
 have he:(encF r).length=2:=rfl;have hl1:c1.length=cur.length:=by rw[h1,List.length_append,List.length_append,List.length_take,List.length_drop,hd];omega
 have e1:c1.take (i*2)=j4 (rows.take i):=by rw[h1,List.append_assoc,List.take_append_of_le_length (by rw[List.length_take];omega),List.take_take,Nat.min_eq_left (by omega),<- ak9,<- hc,List.take_take,Nat.min_eq_left (by omega)]
 have e2:c1.drop (i*2+(encF r).length)=j4 (rows.drop i)++cur.drop (i*2+2+(j4 (rows.drop i)).length):=by rw[h1,List.append_assoc,he,List.drop_append,List.drop_of_length_le (by rw[List.length_take];omega),List.length_take,Nat.min_eq_left (by omega),Nat.sub_self,List.drop_zero,List.nil_append]
 refine⟨hl1,?_,?_⟩
 . rw[List.length_append,List.length_append,List.length_take,List.length_drop,he];omega
 . rw[e1,e2,aW6,List.append_assoc,<- List.append_assoc (encF r),<- List.append_assoc,List.take_append_of_le_length (by rw[List.length_append,List.length_append,ht,he,hd];omega),List.take_of_length_le (by rw[List.length_append,List.length_append,ht,he,hd];omega)]
theorem cl5 (cur:List Value) (rows:List FRow) (i:Nat) (r:FRow) (hi:i<=rows.length) (hc:cur.take (i*2)=j4 (rows.take i)) (hl:(rows.length+1)*2<=cur.length) (c1:List Value)
 (h1:c1=cur.take (i*2)++encF r++cur.drop (i*2+(encF r).length)) :
 c1.length=cur.length/\(c1.take (i*2+2)++j4 (rows.drop i)++c1.drop (i*2+2+(j4 (rows.drop i)).length)).length=cur.length/\(c1.take (i*2+2)++j4 (rows.drop i)++c1.drop (i*2+2+(j4 (rows.drop i)).length)).take ((rows.length+1)*2)=j4 (insR rows i r):=by
 have hd:(j4 (rows.drop i)).length=(rows.length-i)*2:=by rw[q9,List.length_drop]
 have ht:(j4 (rows.take i)).length=i*2:=by rw[q9,List.length_take,Nat.min_eq_left hi]
 have he:(encF r).length=2:=rfl;have hl1:c1.length=cur.length:=by rw[h1,List.length_append,List.length_append,List.length_take,List.length_drop,he];omega
 have e1:c1.take (i*2+2)=j4 (rows.take i)++encF r:=by rw[h1,hc,List.take_append_of_le_length (by rw[List.length_append,ht,he];omega),List.take_of_length_le (by rw[List.length_append,ht,he];omega)]
 refine⟨hl1,?_,?_⟩
 . rw[List.length_append,List.length_append,List.length_take,List.length_drop,hd];omega
 . rw[e1,aW6,List.take_append_of_le_length (by rw[List.length_append,List.length_append,ht,he,hd];omega),List.take_of_length_le (by rw[List.length_append,List.length_append,ht,he,hd];omega),List.append_assoc]
theorem FO.move {w w':World} {B:Nat} {e:TypeId} {v v':Value} {rows rows':List FRow} {r:FRow} (h:FO w B e v rows) (Ab:w'.ownsRow B e 2 v' rows'.length (j4 rows')) (hk:∀k,k<w.heap.size->v.ownBlock≠some k->w'.heap[k]? = w.heap[k]?)
 (hat:v'.ownBlock=v.ownBlock\/v'.ownBlock=some w.heap.size) (hm:∀x∈rows',x∈rows\/x=r) (hr:∀(W:World) (go:Option Nat),ag8 W go r):FO w' B e v' rows':=by
 refine⟨Ab,fun x hx=>?_⟩;rcases hm x hx with hx | rfl
 .
  have g0:=h.good x hx;have g1:=g0.keep hk;refine⟨g1.1,g1.2.1,fun hne a ha hg=>?_⟩;rcases hat with hat | hat
  . exact g0.2.2 hne a ha (by rw[<- hat];exact hg)
  . obtain⟨h1,ao',cap',e',h2,h3,h4⟩:=g0.2.1;obtain⟨b,off,rfl,hc⟩:=h4 hne;injection e' with e1 e2 e3;rw[ha] at e1;injection e1 with e1;subst e1;have hl:0<(x.1.b.map U).length:=by rw[h1];omega
    have:=bLt w _ (hc 0 _ (gEl hl));rw[hat] at hg;injection hg with hg;simp only at this hg;omega
 . exact hr _ _
theorem bJ0 (n:List UInt8) (W:World) (go:Option Nat):ag8 W go (⟨n,[]⟩,none,0,0):=⟨rfl,⟨rfl,none,0,rfl,Nat.le_refl _,by simp[maxLen],fun h=>absurd rfl h⟩,fun h=>absurd rfl h⟩
theorem bz7 (rows:List FRow) (r:FRow):insR rows rows.length r=rows++[r]:=by simp[insR]
theorem aJ3 {ls:List SLine} (h:schk ls=0):ls.length<=6 /\ ∀x∈ls,lchk x=0:=by
 unfold schk at h;split at h
 . cases h
 . exact⟨by omega,fun x hx=>(ak6 _).1 h _ (List.mem_map.2 ⟨x,hx,rfl⟩)⟩
theorem aP0 {p:Option (List UInt8)} {f:SFile} (h1:isWord f.name=true) (h2:f.b.length<=4000) (h3:∀q,p=some q->q<f.name):fbad p f=0:=by
 unfold fbad;rw[if_neg (by simp[h1]),if_neg (by omega)]
 cases p with
 | none=>rfl
 | some q=>simp only;rw[if_pos (h3 q rfl)]
theorem bf6:∀(l:List SFile) (p:Option (List UInt8)) (n b:List UInt8),q8 p l=0->isWord n=true->b.length<=4000->(∀q,p=some q->q<n)->q8 p (putF l n b)=0
 | [],p,n,b,_,hn,hb,hp=>by
  rw[putF,J7]
  exact⟨aP0 hn hb hp,rfl⟩
 | f::r,p,n,b,h,hn,hb,hp=>by
  rw[J7] at h
  obtain⟨h1,h2,h3⟩:=aw8 h.1
  rw[putF]
  split
  . rename_i hf
    rw[J7]
    exact⟨aP0 hn hb hp,by rw[hf] at h;exact h.2⟩
  .
   rename_i hf
   split
   . rename_i hlt
     rw[J7,J7]
     exact⟨aP0 hn hb hp,aP0 h1 h2 (by intro q hq;injection hq with hq;subst hq;exact hlt),h.2⟩
   .
    rename_i hlt
    rw[J7]
    refine⟨h.1,bf6 r _ n b h.2 hn hb ?_⟩
    intro q hq
    injection hq with hq
    subst hq
    exact aH5 hlt hf
theorem cs1 {l:List SFile} (h1:l.length<=12) (h2:q8 none l=0):fchk l=0:=by unfold fchk;rw[if_neg (by omega),h2]
theorem bY7 {l:List SFile} {n b:List UInt8} (h:(putS l n b).2=0):isWord n=true/\b.length<=4000/\(putF l n b).length<=12/\(putS l n b).1=putF l n b:=by
 unfold putS at h ⊢;split at h
 . cases h
 .
  split at h
  . cases h
  . split at h
    . cases h
    . rename_i h1 h2 h3;rw[if_neg h1,if_neg h2,if_neg h3];exact⟨by simpa using h1,by omega,by omega,rfl⟩
theorem aB6 {l:List SFile} {n b:List UInt8} (hl:fchk l=0) (h:(putS l n b).2=0):fchk (putS l n b).1=0:=by obtain⟨h1,h2,h3,h4⟩:=bY7 h;rw[h4];exact cs1 h3 (bf6 l none n b (I0 hl).2 h1 h2 (by intro q hq;cases hq))
theorem aJ4:∀{l:List SFile} {p:Option (List UInt8)} {n:List UInt8} (b:List UInt8),q8 p l=0->E3 l n=true->putF l n b=l.set (K2 l n) ⟨n,b⟩
 | [],p,n,b,_,ht=>by simp[E3] at ht
 | g::r,p,n,b,hr,ht=>by
  obtain⟨h1,h2⟩:=J7.1 hr
  by_cases hg:g.name<n
  . rw[ap1 hg] at ht
    rw[putF,if_neg (br3 hg),if_neg (fun h=>List.lt_irrefl _ (List.lt_trans hg h)),K2,if_pos hg,List.set_cons_succ,aJ4 b h2 ht]
  . rw[ap2 hg] at ht
    rw[putF,if_pos (of_decide_eq_true ht),K2,if_neg hg,List.set_cons_zero]
theorem bm8:∀{l:List SFile} {p:Option (List UInt8)} {n:List UInt8} (b:List UInt8),q8 p l=0->E3 l n=false->putF l n b=l.take (K2 l n)++⟨n,b⟩::l.drop (K2 l n)
 | [],p,n,b,_,_=>rfl
 | g::r,p,n,b,hr,ht=>by
  obtain⟨h1,h2⟩:=J7.1 hr
  by_cases hg:g.name<n
  . rw[ap1 hg] at ht
    rw[putF,if_neg (br3 hg),if_neg (fun h=>List.lt_irrefl _ (List.lt_trans hg h)),K2,if_pos hg,List.take_succ_cons,List.drop_succ_cons,bm8 b h2 ht]
    rfl
  . rw[ap2 hg] at ht
    have hne:=of_decide_eq_false ht
    have hlt:n<g.name:=aH5 hg (fun e=>hne e.symm)
    rw[putF,if_neg hne,if_pos hlt,K2,if_neg hg]
    rfl
theorem aZ4 {l:List SFile} {p:Option (List UInt8)} {n:List UInt8} (b:List UInt8) (h:q8 p l=0) (ht:E3 l n=true):(putF l n b).length=l.length:=by rw[aJ4 b h ht,List.length_set]
theorem aN2 {l:List SFile} {p:Option (List UInt8)} {n:List UInt8} (b:List UInt8) (h:q8 p l=0) (ht:E3 l n=false):(putF l n b).length=l.length+1:=by rw[bm8 b h ht,List.length_append,List.length_cons,List.length_take,List.length_drop];have:=aR8 l n;omega
end Go.Gs
namespace Go.Proofs.YtllgglolcgdehaaGreatDoor
open Go.RowKit Go.Gs
set_option linter.unusedVariables false
theorem aG1:(Tryz.prog.info? 83).map (fun i=>(i.zero,i.size,i.bytes))=some (some (.agg #[.string ⟨#[]⟩,.slice none 0 0]),2,40):=by kernel_rfl
theorem bY8 {fs:List SFile} {n b:List UInt8} (h:isWord n=false):putS fs n b=([],1):=by unfold putS;rw[if_pos h]
theorem bY9 {fs:List SFile} {n b:List UInt8} (h:isWord n=true) (hb:4000<b.length):putS fs n b=([],2):=by unfold putS;rw[if_neg (by simp[h]),if_pos hb]
theorem bZ0 {fs:List SFile} {n b:List UInt8} (h:isWord n=true) (hb:¬4000<b.length) (hm:12<(putF fs n b).length):putS fs n b=([],2):=by unfold putS;rw[if_neg (by simp[h]),if_neg hb,if_pos hm]
theorem bM7 {fs:List SFile} {n b:List UInt8} (h:isWord n=true) (hb:¬4000<b.length) (hm:¬12<(putF fs n b).length):putS fs n b=(putF fs n b,0):=by unfold putS;rw[if_neg (by simp[h]),if_neg hb,if_neg hm]
theorem bJ1 (w:World):j9 w (.slice none 0 0) []:=⟨none,0,rfl,Nat.le_refl _,by simp[maxLen],fun h=>absurd rfl h⟩
def aw2 (w:World) (res:List SFile × Int) (e:Ending) (w':World):Prop:=∃ar cr,e=.returned (.tuple #[.slice ar res.1.length cr,.int .i64 res.2])/\j9 w' (.slice ar res.1.length cr) res.1/\Bq w w'
theorem J0 {w w':World} {res:List SFile × Int} {e:Ending} {r:Int} (h:res=([],r)) (he:e=.returned (.tuple #[.slice none 0 0,.int .i64 r])) (hb:Bq w w'):aw2 w res e w':=by subst h;exact⟨none,0,he,bJ1 w',hb⟩
theorem bZ1 (ao:Option Addr) (N c:Nat) (xs:List Value) (w:World) (hl:xs.length=N*2) (hn:N<=100000) (h0:ao=none->N=0) (hc:∀a,ao=some a -> ∀j u,xs[j]? = some u->w.cell? (a.add j)=some u) (h1:∀u∈xs,u.oneCell'=true) :
 Calls Tryz.prog 124 #[.slice ao N c] w fun e w'=>∃v',e=.returned v'/\w'.ownsRow w.heap.size 83 2 v' N xs/\Bq w w':=by
 obtain⟨i0,hi,hi0,hi1,hi2⟩:=info_parts aG1;have hq:∀(w:World) (a:Option Addr) (n c n' c':Nat),(binOp .eql 25 (.slice a n c) (.slice none n' c')).run Tryz.prog w=.ok (.bool a.isNone) w:=fun w a n c n' c'=>Lib.run_eql_slice_nil w _ _ a n c n' c' Tryz.underlying25;have HC:Hid _:=hc;have H1:Hid _:=h1;have HL:Hid _:=hl;have H0:Hid _:=h0;clear hc h1 hl h0
 cases ao with
 | none=>
  obtain rfl:=H0.out rfl
  have hx:xs=[]:=List.eq_nil_of_length_eq_zero (by have:=HL.out;omega)
  have HX:=qH hx
  go_enter Tryz.func124,Tryz.ntmps124
  go_wp2_with fail
  go_ret
  exact⟨_,rfl,by first | exact World.ownsRow_nil _ _ _ _ | (rw[HX.out];exact World.ownsRow_nil _ _ _ _),Below.refl _ _⟩
 | some a=>
  go_enter Tryz.func124,Tryz.ntmps124
  go_wp2_with (at_builtin;refine wpList_append_own _ rfl _ _ 25 rfl w.heap.size 83 i0 (.agg #[.string ⟨#[]⟩,.slice none 0 0]) 2 40 Tryz.underlying25 hi hi0 hi1 hi2 rfl (by decide) _ _ _ rfl (World.ownsRow_made w #[] 0 (Nat.le_refl _) (Nat.zero_le _) rfl) a N c xs rfl ?qc1 ?qc2 ?qc3 ?qc4 ?qc5 ?qc6 ?_)
  case qc1=>exact HL.out
  case qc2=>
   intro j u hj
   have h:=HC.out a rfl j u hj
   rw[F6.cell (bLt w _ h)]
   exact h
  case qc3=>exact H1.out
  case qc4=>unfold maxLen;omega
  case qc5=>omega
  all_goals try (case qc6=>simp)
  .
   intro v' w1 Ab hg Dp
   have HB:Hid (Bq w w1):=F6.grown hg (by simp) (fun k hk=>by injection hk with hk;subst hk;exact Nat.le_refl _)
   have HO:Hid (w1.ownsRow w.heap.size 83 2 v' N xs):=(show w1.ownsRow w.heap.size 83 2 v' N xs by simpa using Ab)
   clear Ab hg Dp
   go_wp2
   go_ret
   exact⟨v',rfl,HO.out,HB.out⟩
theorem bZ2 (ao:Option Addr) (cap:Nat) (fs:List SFile) (w:World) (hf:j9 w (.slice ao fs.length cap) fs) (hn:fs.length<=100000) :
 Calls Tryz.prog 124 #[.slice ao fs.length cap] w fun e w'=>∃v' rows,e=.returned v'/\FO w' w.heap.size 83 v' rows/\rows.map (·.1)=fs/\Bq w w':=by
 obtain⟨rows,Bl,hrc⟩:=cs0 hf;have hlen:rows.length=fs.length:=by rw[<- Bl,List.length_map]
 have h0:ao=none->fs.length=0:=by
  intro h;subst h;rcases Nat.eq_zero_or_pos fs.length with h | h
  . exact h
  . obtain⟨f,hfk⟩:∃f,fs[0]? = some f:=⟨_,gEl h⟩;obtain⟨_,_,_,_,e,_⟩:=hf.at hfk
    cases e
 refine (bZ1 ao fs.length cap (j4 rows) w (by rw[q9,hlen]) hn h0 ?_ (ae8 rows)).mono ?_
 . intro a ha j u hu;have hne:0<rows.length:=by have:=(gSm hu).1;rw[q9] at this;omega
   obtain⟨⟨b,off,e,_⟩,_⟩:=hrc 0 rows[0] (gEl hne);rw[ha] at e;injection e with e;subst e;rw[addF];refine aQ0 (fun k r hk=>?_) j u hu;obtain⟨⟨b',off',e,c0,c1⟩,_⟩:=hrc k r hk;rw[ha] at e;injection e with e;injection e with e1 e2;subst e1 e2;exact⟨c0,c1⟩
 . rintro e w' ⟨v',rfl,Ab,hb⟩;refine⟨v',rows,rfl,⟨by rw[hlen];exact Ab,fun r hr=>?_⟩,Bl,hb⟩;obtain⟨j,hj,e⟩:=List.mem_iff_getElem.1 hr;obtain⟨_,g1,g2⟩:=hrc j r (by rw[gEl hj,e]);refine⟨g1,g2.below hb,fun hne a ha hg=>?_⟩;have hlt:=(Ab.lt a.block hg).1;obtain⟨h1,ao',cap',e',h2,h3,h4⟩:=g2;obtain⟨b,off,rfl,hc⟩:=h4 hne;injection e' with e1 e2 e3;rw[ha] at e1;injection e1 with e1;subst e1;have hl:0<(r.1.b.map U).length:=by rw[h1];omega
   have:=bLt w _ (hc 0 _ (gEl hl));simp only at this hlt;omega
theorem cs2 {rows:List FRow} {k:Nat} {r r':FRow} (h:rows[k]? = some r) (e:r'.1=r.1):(rows.set k r').map (·.1)=rows.map (·.1):=by
 rw[List.map_set,e];apply List.ext_getElem?;intro j;rw[List.getElem?_set];split
 . rename_i hj;subst hj;rw[List.getElem?_map,h];simp;exact (gSm h).1
 . rfl
theorem _root_.Go.Gs.FO.cells2 {w:World} {B:Nat} {e:TypeId} {g n cap:Nat} {rows:List FRow} (h:FO w B e (.slice (some ⟨g,0,none⟩) n cap) rows) {k:Nat} {r:FRow} (hk:rows[k]? = some r):w.cell? ⟨g,k*2,none⟩=some (.string ⟨r.1.name.toArray⟩)/\w.cell? ⟨g,k*2+1,none⟩=some (.slice r.2.1 r.2.2.1 r.2.2.2)/\w.frozen? ⟨g,k*2+1,none⟩=false:=by
 have hkl:k<rows.length:=(gSm hk).1;have hnn:n=rows.length:=by
  rcases h.own.2 with ⟨h2,_⟩ | ⟨_,_,_,h2,_⟩
  . cases h2
  . injection h2
 subst hnn;obtain⟨a1,a2⟩:=ad7 rows k r hk;have c1:=h.own.cellAt (k*2) (by omega);have c2:=h.own.cellAt (k*2+1) (by omega);rw[a1] at c1;rw[a2] at c2;exact⟨c1,c2,h.own.frozenAt _⟩
theorem bf8 (ao:Option Addr) (cap:Nat) (fs:List SFile) (w:World) (hf:j9 w (.slice ao fs.length cap) fs) (hn:fs.length<=12) (hb4:∀f∈fs,f.b.length<=4000) :
 Calls Tryz.prog 113 #[.slice ao fs.length cap] w fun e w'=>∃v' rows,e=.returned v'/\FO w' w.heap.size 83 v' rows/\rows.map (·.1)=fs/\Bq w w':=by
 have hC:=bZ2 ao cap fs w hf (by omega);have H4:Hid _:=hb4;have HC:Hid _:=hC;obtain⟨N,hN⟩:=qE fs.length;have HN:=qH hN;rw[<- hN] at HC hn ⊢;clear hf hC hb4 hN;go_enter Tryz.func113,Tryz.ntmps113;go_wp2_with fail;refine Calls.mono HC.out ?_;rintro e w1 ⟨v',rows,rfl,hfo,Bf,hb1⟩;have HLR:rows.length=N:=by rw[HN.out,<- Bf,List.length_map]
 by_cases h0:N=0
 .
  obtain⟨a0,c0,hv,_,_⟩:=hfo.shape;rw[HLR,h0] at hv;subst hv;subst h0;have HE:Hid _:=And.intro hfo (And.intro Bf hb1);clear hfo Bf hb1 HC HLR;go_wp2_with fail;go_loopw [10] (fun i wr=>i=.int .i64 0/\wr=w1) (fun i _=>0)
  case atStart=>exact⟨rfl,rfl⟩
  case round=>obtain⟨rfl,rfl⟩:=hrel;go_wp2_with fail;go_ret;exact⟨_,rows,rfl,HE.out.1,HE.out.2.1,HE.out.2.2⟩
 .
  obtain⟨g,cg,hv,hBg⟩:=hfo.form (by omega);rw[HLR] at hv;subst hv;have HFO:Hid _:=hfo;have HM:Hid _:=Bf;have HB1:Hid _:=hb1;have HW:=qH hBg;clear hfo Bf hb1 HC HLR hBg;go_wp2_with fail;go_loopw [10] (fun i wr=>∃k:Nat,∃rows:List FRow,k<=N/\i=.int .i64 k/\Hid (FO wr w.heap.size 83 (.slice (some ⟨g,0,none⟩) N cg) rows)/\Hid (rows.map (·.1)=fs)/\Hid (Bq w wr)) (fun i _=>N-(intOf i).toNat)
  case atStart=>exact⟨0,rows,Nat.zero_le _,rfl,HFO,HM,HB1⟩
  case round=>
   clear HFO HM HB1;obtain⟨k,rows,hk,rfl,HFO,HM,Aa⟩:=hrel;by_cases hlt:k<N
   .
    obtain⟨r,hr⟩:∃r,rows[k]? = some r:=⟨_,gEl (by have h1:=congrArg List.length HM.out;rw[List.length_map] at h1;have:=HN.out;omega)⟩;have HK:=qH hr;obtain⟨hc0,hc1,hfz⟩:=HFO.out.cells2 hr;have hgd:=HFO.out.good r (mGt hr);have hr4:r.1.b.length<=4000:=H4.out r.1 (by rw[<- HM.out];exact List.mem_map.2 ⟨r,mGt hr,rfl⟩);have HG:Hid _:=hgd;have hrd:=hgd.2.1;rw[hgd.1] at hrd hc1;have HQ:Hid _:=fun (W:World) (hb:Bq wr W)=>aI8 r.2.1 r.2.2.2 r.1.b W (Reads.below hrd hb) (by omega);obtain⟨rx,hrx⟩:=qE (⟨r.1.name.toArray⟩:ByteArray);rw[<- hrx] at hc0;obtain⟨r1,hr1⟩:=qE r.2.1;obtain⟨r2,hr2⟩:=qE r.1.b.length;obtain⟨r3,hr3⟩:=qE r.2.2.2;have HR2:=qH hr2;rw[<- hr1,<- hr2,<- hr3] at hc1 HQ;clear hr hgd hrd hr4 hrx hr1 hr2 hr3;go_wp2_with fail;have hQ:=HQ.out _ (F6 (w:=wr) (o:=.cells #[.string rx,.slice r1 r2 r3] 83));refine Calls.mono hQ ?_;rintro e w2 ⟨ar,cr,rfl,Wl,Bo,hb2⟩
    have It:Bq wr w2:=F6.trans (hb2.mono F6.size);have HFO2:Hid (FO w2 w.heap.size 83 (.slice (some ⟨g,0,none⟩) N cg) rows):=HFO.out.below It;have HB2:Hid (Bq w w2):=Aa.out.trans (It.mono Aa.out.size);obtain⟨hd0,hd1,hdz⟩:=HFO2.out.cells2 HK.out;have hgl:=(HFO.out.own.lt g rfl).2
    have HGO:Hid (ag8 w2 (some g) (r.1,ar,r2,cr)):=⟨HR2.out,by show Reads w2 (.slice ar r2 cr) _ _;rw[HR2.out] at Wl ⊢;exact Wl,fun _ a ha he=>by
     have:=Bo a ha
     injection he with he
     simp at this
     omega⟩
    have HFS:Hid _:=HFO2.out.set HK.out (r':=(r.1,ar,r2,cr)) rfl HGO.out;clear hQ Wl Bo hb2 It HQ hc0 hc1 hfz hgl hd0;go_wp2_with fail;go_roundw
    case rel=>exact⟨k+1,_,by omega,by go_num,HFS,(show _=_ by rw[cs2 (r':=(r.1,ar,r2,cr)) HK.out rfl];exact HM.out),HB2.out.setCell (p:=⟨g,k*2+1,none⟩) HW.out _⟩
    case measure=>simp[intOf];omega
   . go_wp2_with fail;go_ret;exact⟨_,rows,rfl,HFO.out,HM.out,Aa.out⟩
end Go.Proofs.YtllgglolcgdehaaGreatDoor
namespace Go.Gs
open Go.RowKit
set_option linter.unusedVariables false
theorem aN3:∀(cs:List Cmd) (L:List (List UInt8)),(∀c∈cs,chk c=0)->(∀s∈L,(10:UInt8)∉s)->aa8 cs (ended L)=ended (cs.foldl (fun L c=>made c L) L)
 | [],L,_,_=>rfl
 | c::r,L,hc,hL=>by
  rw[show aa8 (c::r) (ended L)=aa8 r (ended (made c (lines (ended L)))) from rfl,J5 L hL,List.foldl_cons]
  exact aN3 r _ (fun x hx=>hc x (by simp[hx])) (ad6 c (hc c (by simp)) L hL)
theorem bZ3 {fs:List SFile} {l:SLine} {w:Nat} (hw:1<=w/\w<=5) (h:lchk l=0) (hg:(gather fs l.fr).2=0):sunk (plan l w) fs=(A3 fs l).1/\(A3 fs l).2=0:=by
 obtain⟨h1,h2,h3,h4⟩:=av3 h;have ga:=be5 fs l.fr (by omega);have hb:bad 4000 (l5 fs l.fr)=0:=by
  by_cases e:bad 4000 (l5 fs l.fr)=0
  . exact e
  . rw[ga,if_neg e] at hg;exact hg
 rw[if_pos hb] at ga;have hlen:(ended (l5 fs l.fr)).length<=4000:=by
  rw[aB0 _ _ (ae6 fs l.fr)] at hb;split at hb
  . cases hb
  . omega
 have Cc:=aq5 (l5 fs l.fr);obtain⟨t,hv⟩:=bM0 (fs:=fs) hw h (by omega);have hs:=(aU4 hv h3 (by have:=(aT9 hw h).1;unfold plan at this;omega)).2;unfold A3;rw[if_pos hg];refine⟨?_,rfl⟩;simp only;rw[ga];simp only;rw[aN3 l.cs _ h4 (ae6 fs l.fr)];exact hs
end Go.Gs
namespace Go.Proofs.YtllgglolcgdehaaGreatDoor
open Go.RowKit Go.Gs Go.Maps
set_option linter.unusedVariables false
theorem bJ2 {l:SLine} {W room:Int} {fs:List SFile} (h1:(o4 l W).2=0) (h2:(newS (o4 l W).1 fs room).2=0) :
 gchk (o4 l W).1=0/\fchk fs=0/\T0 (o4 l W).1 fs/\1<=room/\room<=1000/\newS (o4 l W).1 fs room=(o7 (o4 l W).1 fs room,0)/\Go.Gs.Reach (o4 l W).1 fs room (o7 (o4 l W).1 fs room)/\lchk l=0/\(1<=W/\W<=5)/\(o4 l W).1=plan l W.toNat:=by
 have hp:lchk l=0 /\ ¬(W<1\/5<W):=by
  unfold o4 at h1;split at h1
  . rename_i h;exact absurd h1 h
  . split at h1
    . cases h1
    . rename_i h3 h4;exact⟨by simpa using h3,h4⟩
 have e:=av8 hp.1 hp.2;have hw:1<=W.toNat/\W.toNat<=5:=by omega
 rw[e] at h2 ⊢;simp only at h2 ⊢;have hg:=aa1 hw hp.1;have hn:fchk fs=0 /\ ¬(room<1\/1000<room):=by
  unfold newS at h2;rw[if_neg (by simp[hg])] at h2;split at h2
  . rename_i h;exact absurd h2 h
  . split at h2
    . cases h2
    . rename_i h3 h4;exact⟨by simpa using h3,h4⟩
 have hsz:∀f∈fs,f.b.length<=4000:=fun f hf=>(J2 (I0 hn.1).2 f hf).2;refine⟨hg,hn.1,aF0 hw hp.1 hsz,by omega,by omega,?_,Go.Gs.Reach.fresh (D7 hg) (by omega) (by omega),hp.1,by omega,trivial⟩;unfold newS;rw[if_neg (by simp[hg]),if_neg (by simp[hn.1]),if_neg hn.2]
end Go.Proofs.YtllgglolcgdehaaGreatDoor
namespace Go.Proofs.YtllgglolcgdehaaGreatDoor
open Go.RowKit Go.Gs
set_option linter.unusedVariables false
theorem bZ4 {ls:List SLine} (h:6<ls.length):schk ls=2:=by unfold schk;rw[if_pos h]
theorem cl6 {ls:List SLine} (h:¬6<ls.length):schk ls=K3 (ls.map lchk):=by unfold schk;rw[if_neg h]
theorem bf9 (ao:Option Addr) (cap:Nat) (ls:List SLine) (w:World) (hl:S1 w (.slice ao ls.length cap) ls) (Ad:∀x∈ls,Y5 x) :
 Calls Tryz.prog 107 #[.slice ao ls.length cap] w fun e w'=>e=.returned (.int .i64 (schk ls))/\Bq w w':=by
 obtain⟨_,_,e0,hm1,hm2⟩:=hl.shape;injection e0 with e1 e2 e3;subst e3;unfold maxLen at hm2;have HL:=qH hl;have En:Hid _:=Ad;obtain⟨N,hN⟩:=qE ls.length;have HN:=qH hN;rw[<- hN];rw[<- hN] at HL;by_cases Nv:6<N
 .
  have HR:Hid (schk ls=2):=bZ4 (by omega);have hq:(6:Int)<N:=by omega
  have hN2:N<=9223372036854775807:=by omega
  clear hl Ad hm1 hN e1 hm2;go_enter Tryz.func107,Tryz.ntmps107;go_wp2_with fail;go_ret;exact⟨by rw[HR.out];rfl,Below.refl _ _⟩
 .
  have HR:Hid (schk ls=K3 (ls.map lchk)):=cl6 (by omega);have hN6:N<=6:=by omega
  clear hl Ad hm1 hN e1 Nv hm2;go_enter Tryz.func107,Tryz.ntmps107;go_wp2_with fail;go_loopw [11] (fun i wr=>∃k:Nat,k<=N/\i=.int .i64 k/\Hid (Bq w wr)/\Hid (∀x∈ls.take k,lchk x=0)) (fun i _=>N-(intOf i).toNat)
  case atStart=>exact⟨0,Nat.zero_le _,rfl,Below.refl _ _,(show ∀x∈ls.take 0,lchk x=0 by simp)⟩
  case round=>
   obtain⟨k,hk,rfl,Aa,Ae⟩:=hrel;by_cases hlt:k<N
   .
    obtain⟨x,hx⟩:∃x,ls[k]? = some x:=⟨_,gEl (by have:=HN.out;omega)⟩;have HS:=qH hx;obtain⟨b,off,af,cf,ad,cd,rfl,hc0,hc1,hc2,hr,hd⟩:=(S1.below HL.out Aa.out).at hx;have hCk:=fun (W:World) (hb:Bq wr W)=>af6 x af ad cf cd W (hr.below hb) (hd.below hb) (En.out x (mGt hx));generalize hrr:lchk x=r at *;have HRr:=qH hrr;generalize (⟨x.tu.toArray⟩:ByteArray)=sy at *;generalize x.fr.length=NF at *;generalize x.cs.length=ND at *;have HC:Hid _:=hCk;clear hx hrr hr hd hCk;go_wp2_with fail;refine (HC.out _ (b9)).mono ?_;rintro e w1 ⟨rfl,hb1⟩;have HB:Hid (Bq w w1):=(Aa.out.alloc Aa.out.size _).trans (hb1.mono (by simp;exact Nat.le_succ_of_le Aa.out.size));clear hb1 Aa HC;by_cases hr0:r=0
    . subst hr0;have HA:Hid (∀x∈ls.take (k+1),lchk x=0):=aV4 HS.out Ae.out HRr.out;clear Ae;go_wp2_with fail;go_roundw
      case rel=>exact⟨k+1,by omega,by go_num,HB,HA⟩
      case measure=>simp[intOf];omega
    . have HA:Hid (schk ls=r):=(show _=_ from by rw[HR.out,av7 HS.out Ae.out (by rw[HRr.out];exact hr0),HRr.out]);clear Ae;go_wp2_with fail;go_ret;exact⟨by rw[HA.out];rfl,HB.out⟩
   . have HA:Hid (schk ls=0):=by show _=_;rw[HR.out];have e:=Ae.out;rw[List.take_of_length_le (by have:=HN.out;omega)] at e;exact ak7 e
     clear Ae HR;go_wp2_with fail;go_ret;exact⟨by rw[HA.out];rfl,Aa.out⟩
theorem bm9:(Tryz.prog.info? 83).map (·.size)=some 2:=by kernel_rfl
theorem aW7 {w:World} {vb:Nat} {r:FRow} (h:w.heap[vb]? = some (.cells #[.string ⟨r.1.name.toArray⟩,.slice r.2.1 r.2.2.1 r.2.2.2] 83 (0,0))):∀j u,(encF r)[j]? = some u->w.cell? ((⟨vb,0,none⟩:Addr).add j)=some u:=by
 intro j u hj;rw[addF];simp only[World.cell?,h]
 match j,hj with
 | 0,hj=>simp[encF] at hj;subst hj;rfl
 | 1,hj=>simp[encF] at hj;subst hj;rfl
theorem bJ3 (v:Value) (rows:List FRow) (r:FRow) (vb B:Nat) (w:World) (hFO:FO w B 83 v rows) (hn:rows.length<=12) (hB:B<=w.heap.size) (hvb:w.heap[vb]? = some (.cells #[.string ⟨r.1.name.toArray⟩,.slice r.2.1 r.2.2.1 r.2.2.2] 83 (0,0))) (hr:∀(W:World) (go:Option Nat),ag8 W go r) :
 Calls Tryz.prog 158 #[v,.int .i64 rows.length,.slice (some ⟨vb,0,none⟩) 1 1] w fun e w'=>∃v',e=.returned v'/\FO w' B 83 v' (insR rows rows.length r)/\Below B w w':=by
 obtain⟨i0,hi,hi0,hi1,hi2⟩:=info_parts aG1;have HFO:Hid _:=hFO;have HBX:Hid _:=aW7 hvb;have HR:Hid _:=hr;obtain⟨ao,cap,rfl,hc1,hc2⟩:=hFO.shape;obtain⟨N,hN⟩:=qE rows.length;have HN:=qH hN;rw[<- hN] at HFO hn hc1 ⊢;unfold maxLen at hc2;obtain⟨xs,hxs⟩:=qE (encF r);have HX:=qH hxs;clear hFO hvb hr hN hxs;by_cases hcn:N=cap
 .
  subst hcn;go_enter Tryz.func158,Tryz.ntmps158;go_wp2_with (at_builtin;refine wpList_append_own_at _ rfl _ _ 25 rfl B 83 i0 (.agg #[.string ⟨#[]⟩,.slice none 0 0]) 2 40 Tryz.underlying25 hi hi0 hi1 hi2 rfl (by decide) _ N (j4 rows) rfl ?o1 ⟨vb,0,none⟩ 1 1 xs rfl ?c0 ?c1 ?c2 ?c3 ?c4 ?c5 ?_)
  case o1=>have h:=HFO.out.own;rw[<- HN.out] at h;exact h
  case c0=>rw[HX.out];rfl
  case c1=>rw[HX.out];exact HBX.out
  case c2=>rw[HX.out];exact ar5 r
  case c3=>unfold maxLen;omega
  case c4=>omega
  case c5=>exact hB
  intro v' w1 Ab hg Dp hat
  have HE:Hid (FO w1 B 83 v' (insR rows N r)):=HFO.out.move (by
   rw[W7 _ _ _ (by rw[<- HN.out];exact Nat.le_refl _),<- HN.out]
   have e:insR rows N r=rows++[r]:=by rw[HN.out];exact bz7 rows r
   rw[e,aF9,<- HX.out]
   exact Ab) (fun k hk hne=>hg.block k hk (fun e=>hne e.symm)) hat (fun x hx=>aG0 hx) HR.out
  have HB:Hid (Below B w w1):=(Below.refl B w).grown hg hB (fun k hk=>(HFO.out.own.lt k hk).1);clear Ab hg Dp hat;go_wp2;go_ret;exact⟨v',rfl,HE.out,HB.out⟩
 .
  have hcn':¬cap=N:=fun e=>hcn e.symm;go_enter Tryz.func158,Tryz.ntmps158;go_wp2_with (at_builtin;refine wpList_append_own_at _ rfl _ _ 25 rfl B 83 i0 (.agg #[.string ⟨#[]⟩,.slice none 0 0]) 2 40 Tryz.underlying25 hi hi0 hi1 hi2 rfl (by decide) _ N (j4 rows) rfl ?o1 ⟨vb,0,none⟩ 1 1 xs rfl ?c0 ?c1 ?c2 ?c3 ?c4 ?c5 ?_)
  case o1=>have h:=HFO.out.own;rw[<- HN.out] at h;exact h
  case c0=>rw[HX.out];rfl
  case c1=>rw[HX.out];exact HBX.out
  case c2=>rw[HX.out];exact ar5 r
  case c3=>unfold maxLen;omega
  case c4=>omega
  case c5=>exact hB
  intro v' w1 Ab hg Dp hat
  have HE:Hid (FO w1 B 83 v' (insR rows N r)):=HFO.out.move (by
   rw[W7 _ _ _ (by rw[<- HN.out];exact Nat.le_refl _),<- HN.out]
   have e:insR rows N r=rows++[r]:=by rw[HN.out];exact bz7 rows r
   rw[e,aF9,<- HX.out]
   exact Ab) (fun k hk hne=>hg.block k hk (fun e=>hne e.symm)) hat (fun x hx=>aG0 hx) HR.out
  have HB:Hid (Below B w w1):=(Below.refl B w).grown hg hB (fun k hk=>(HFO.out.own.lt k hk).1);clear Ab hg Dp hat;go_wp2;go_ret;exact⟨v',rfl,HE.out,HB.out⟩
theorem bn0 (g cap:Nat) (rows:List FRow) (i:Nat) (r:FRow) (vb B:Nat) (w:World) (hFO:FO w B 83 (.slice (some ⟨g,0,none⟩) rows.length cap) rows) (hn:rows.length<=12) (hin:i<rows.length) (Ag:rows.length+1<=cap) (hB:B<=w.heap.size) (hne:vb≠g) (hvb:w.heap[vb]? = some (.cells #[.string ⟨r.1.name.toArray⟩,.slice r.2.1 r.2.2.1 r.2.2.2] 83 (0,0))) (hr:∀(W:World) (go:Option Nat),ag8 W go r) :
 Calls Tryz.prog 158 #[.slice (some ⟨g,0,none⟩) rows.length cap,.int .i64 i,.slice (some ⟨vb,0,none⟩) 1 1] w fun e w'=>∃v',e=.returned v'/\FO w' B 83 v' (insR rows i r)/\Below B w w':=by
 obtain⟨hBg,cur,hg,hcm,hcs,Ip⟩:B<=g /\ ∃cur:Array Value,w.heap[g]? = some (.cells cur 83 (0,0))/\cap<=maxLen/\cur.size=cap*2/\cur.toList.take (rows.length*2)=j4 rows:=by
  rcases hFO.own.2 with ⟨h,_⟩ | ⟨g',cap',cur,h,hb,hg,h1,h2,h3,h4⟩
  . cases h
  . injection h with e1 e2 e3;injection e1 with e1;injection e1 with e1;subst e1 e3;exact⟨hb,cur,hg,h2,h3,h4⟩
 obtain⟨c1,hc1⟩:=qE (cur.toList.take (i*2+2)++j4 (rows.drop i)++cur.toList.drop (i*2+2+(j4 (rows.drop i)).length));obtain⟨hl1,hl2,ht2⟩:=bY6 cur.toList rows i r (by omega) Ip (by rw[Array.length_toList (xs:=cur),hcs];omega) c1 hc1;obtain⟨c2,hc2⟩:=qE (c1.take (i*2)++encF r++c1.drop (i*2+(encF r).length));rw[<- hc2] at hl2 ht2;have hdl:(j4 (rows.drop i)).length=(rows.length-i)*2:=by rw[q9,List.length_drop]
 have Wm:∀ty dc sc,(Builtin.copy_ #[25,25] ty #[.slice (some ⟨g,(i+1)*2,none⟩) (rows.length-i) dc,.slice (some ⟨g,i*2,none⟩) (rows.length+1-i) sc]).run Tryz.prog w.drew=.ok (goInt ((rows.length-i:Nat):Int)) (w.drew.setRow g c1.toArray):=fun ty dc sc=>by
  have h:=ad3 (P:=Tryz.prog) w.drew 25 25 ty 83 g (i*2+2) (rows.length-i) dc ⟨g,i*2,none⟩ (rows.length+1-i) sc cur 83 (j4 (rows.drop i)) 2 (rows.length-i) Tryz.underlying25 bm9 hg (by simp only[Nat.min_def];split <;> omega) hdl
   (fun j v hj=>by
    rw[addF,<- az8 _ _ (by omega),List.getElem?_drop] at *
    have hlt:i*2+j<(j4 rows).length:=(gSm hj).1
    rw[q9] at hlt
    have:=hFO.own.cellAt (i*2+j) hlt
    rw[hj] at this
    exact this)
   (by rw[hdl,hcs];omega) (ae8 _)
  rw[<- hc1] at h;rw[show (i+1)*2=i*2+2 by omega];exact h
 have hg1:(w.drew.setRow g c1.toArray).heap[g]? = some (.cells c1.toArray 83 (0,0)):=setRow_heap w.drew g cur _ _ _ hg;have Wn:∀(W:World),W.heap=(w.drew.setRow g c1.toArray).heap -> ∀ty dc,(Builtin.copy_ #[25,25] ty #[.slice (some ⟨g,i*2,none⟩) (rows.length+1-i) dc,.slice (some ⟨vb,0,none⟩) 1 1]).run Tryz.prog W=.ok (goInt 1) (W.setRow g c2.toArray):=fun W hW ty dc=>by
  have h:=ad3 (P:=Tryz.prog) W 25 25 ty 83 g (i*2) (rows.length+1-i) dc ⟨vb,0,none⟩ 1 1 c1.toArray 83 (encF r) 2 1 Tryz.underlying25 bm9 (by rw[hW];exact hg1) (by simp only[Nat.min_def];split <;> omega) rfl
   (fun j v hj=>aW7 (by rw[hW,setRow_other _ _ _ _ hne];exact hvb) j v hj)
   (by simp[encF];rw[hl1,Array.length_toList (xs:=cur),hcs];omega) (ar5 _)
  rw[show c1.toArray.toList=c1 by simp,<- hc2] at h;exact h
 have hov:∀lb cb,(callFunc 211 #[.slice (some ⟨vb,0,none⟩) 1 1,.slice (some ⟨g,(i+1)*2,none⟩) lb cb]).run Tryz.prog w=.ok (.value (.bool false)) w:=fun lb cb=>by
  rw[run_callFunc_extern Tryz.func211 (by kernel_rfl) (by kernel_rfl) (by kernel_rfl) (e:=Extern.SlicesOverlaps.overlaps #[25,25] #[4]) (by kernel_rfl),
   Lib.run_overlaps_apart w 25 4 83 Tryz.underlying25 2 (fun w=>by obtain⟨i0,hi,_,hi1,_⟩:=info_parts aG1;simp[Go.sizeOf,typeInfo,hi,hi1]) ⟨vb,0,none⟩ ⟨g,(i+1)*2,none⟩ 1 1 lb cb hne 83 83 2 (cap*2) (by simp[World.shape?,hvb]) (by simp[World.shape?,hg,hcs]) (by omega) (by simp[World.frozen?,hvb]) (by simp[World.frozen?,hvb])]
  rfl
 have HE:Hid (∀W':World,W'.heap=((w.drew.setRow g c1.toArray).setRow g c2.toArray).heap->W'.os=w.os->W'.tape=w.tape->W'.output=w.output->FO W' B 83 (.slice (some ⟨g,0,none⟩) (rows.length+1) cap) (insR rows i r)/\Below B w W'):=(show ∀W':World,_ from by
  intro W' hW h1 h2 h3
  have hk:∀k,k≠g->W'.heap[k]? = w.heap[k]?:=fun k hk=>by rw[hW,setRow_other _ _ _ _ hk,setRow_other _ _ _ _ hk];rfl
  refine⟨hFO.move (v':=.slice (some ⟨g,0,none⟩) (rows.length+1) cap) ?_ (fun k _ hne=>hk k (fun e=>hne (by rw[e];rfl))) (.inl rfl) (fun x hx=>aG0 hx) hr,⟨h1,h2,h3,by rw[hW];simp,fun k hkB=>hk k (by omega)⟩⟩
  rw[W7 _ _ _ (by omega)]
  refine⟨by rw[q9,W7 _ _ _ (by omega)],.inr ⟨g,cap,c2.toArray,rfl,hBg,?_,Ag,hcm,?_,?_⟩⟩
  . rw[hW];exact setRow_heap _ g _ _ _ _ hg1
  . rw[List.size_toArray,hl2,Array.length_toList (xs:=cur),hcs]
  . exact ht2)
 obtain⟨N,hN⟩:=qE rows.length;rw[<- hN] at Wm Wn HE hn hin Ag ⊢;unfold maxLen at hcm;obtain⟨W1,hW1⟩:=qE (w.drew.setRow g c1.toArray);rw[<- hW1] at Wm Wn HE;have HW1:Hid (W1.os=w.os/\W1.tape=w.tape/\W1.output=w.output):=(show _/\_/\_ by rw[hW1];exact⟨rfl,rfl,rfl⟩);have mixed:Tryz.prog.follows Departure.mixedOrders=true:=by kernel_rfl
 have hw1:IntKind.i64.wrap ((i:Int)+1)=(i:Int)+1:=by rw[IntKind.wrap_i64];omega
 have hb1:(0:Int)<=(i:Int)+1:=by omega
 have hin2:i<=N:=by omega
 have htn:((i:Int)+1).toNat=i+1:=by omega
 have hb2:¬(cap=i+1):=by omega
 have hb3:(i:Int)<=(N:Int)+1:=by omega
 have hb4:¬(cap=i):=by omega
 have hz2:¬((i:Int)=(N:Int)):=by omega
 clear hFO hvb hr hg hcs Ip hc1 hl1 hl2 ht2 hc2 hdl hg1 hN hW1 hBg;go_enter Tryz.func158,Tryz.ntmps158;go_wp2_with (simp only[hov])
 go_region_law_o (refine step_copy_runI rfl _ _ 25 25 rfl _ _ (by simp[Act.eval,Act.put]) (by simp[Act.eval,Act.put]) (Wm _ _ _) ?_)
 go_wp2_with (at_builtin;refine wpList_copy_runI _ rfl _ _ 25 25 rfl _ _ rfl rfl (Wn _ rfl _ _) ?_)
 go_ret;obtain⟨h1,h2⟩:=HE.out _ rfl HW1.out.1 HW1.out.2.1 HW1.out.2.2;exact⟨_,rfl,h1,h2⟩
end Go.Proofs.YtllgglolcgdehaaGreatDoor
namespace Go.Proofs.YtllgglolcgdehaaGreatDoor
open Go.RowKit Go.Gs
theorem bg0 {w:World} {ao:Option Addr} {n cap:Nat} {ls:List SLine} (h:S1 w (.slice ao n cap) ls):n<=cap/\cap<=9223372036854775807:=by obtain⟨_,c,e,h1,h2⟩:=h.shape;unfold maxLen at h2;injection e with e1 e2 e3;omega
end Go.Proofs.YtllgglolcgdehaaGreatDoor
namespace Go.Gs
open Go.RowKit
set_option linter.unusedVariables false
def drF:List SFile:=[⟨[97],[98,32,120,10,97,32,121,10,99,32,122]⟩]
def drL:List SLine:=[⟨[[97],[97]],[⟨4,[],1⟩,⟨6,[],0⟩,⟨7,[],0⟩],[99]⟩,⟨[[99]],[⟨8,[],0⟩],[100]⟩]
theorem bz8:runS drF drL=([⟨[97],[98,32,120,10,97,32,121,10,99,32,122]⟩,⟨[99],[97,10,98,10,99,10]⟩,⟨[100],[51,10]⟩],0):=by
 have h1:fchk drF=0:=by decide
 have h2:schk drL=0:=by decide
 have h0:made ⟨4,[],1⟩ [[98,32,120],[97,32,121],[99,32,122],[98,32,120],[97,32,121],[99,32,122]]=[[98],[97],[99],[98],[97],[99]]:=by
  first
   | decide
   | rfl
 have h3:made ⟨6,[],0⟩ [[98],[97],[99],[98],[97],[99]]=[[97],[97],[98],[98],[99],[99]]:=by rw[aC2 _ rfl,Y9 (U3 [[98],[97],[99],[98],[97],[99]]) [[97],[97],[98],[98],[99],[99]] ((F9 _).trans (by decide)) (N9 _) (by decide)]
 have h5:made ⟨7,[],0⟩ [[97],[97],[98],[98],[99],[99]]=[[97],[98],[99]]:=by
  first
   | decide
   | rfl
 have h4:made ⟨8,[],0⟩ [[97],[98],[99]]=[[51]]:=by rw[aP3 _ rfl];show [Lib.itoa 3]=_;unfold Lib.itoa;rw[if_neg (by decide),show (3:Int).toNat=3 from rfl,Lib.decDigits,dif_pos (by decide)];rfl
 unfold runS;rw[if_pos h1,if_pos h2];have e1:A3 drF ⟨[[97],[97]],[⟨4,[],1⟩,⟨6,[],0⟩,⟨7,[],0⟩],[99]⟩=([97,10,98,10,99,10],0):=by
  have g:gather drF [[97],[97]]=([98,32,120,10,97,32,121,10,99,32,122,10,98,32,120,10,97,32,121,10,99,32,122,10],0):=by decide
  unfold A3;rw[g];simp only[if_true];have l1:lines [98,32,120,10,97,32,121,10,99,32,122,10,98,32,120,10,97,32,121,10,99,32,122,10]=[[98,32,120],[97,32,121],[99,32,122],[98,32,120],[97,32,121],[99,32,122]]:=by decide
  have l2:lines (ended [[98],[97],[99],[98],[97],[99]])=[[98],[97],[99],[98],[97],[99]]:=by decide
  have l3:lines (ended [[97],[97],[98],[98],[99],[99]])=[[97],[97],[98],[98],[99],[99]]:=by decide
  unfold aa8;simp only[List.foldl_cons,List.foldl_nil];rw[l1,h0,l2,h3,l3,h5];rfl
 have p1:putS drF [99] [97,10,98,10,99,10]=([⟨[97],[98,32,120,10,97,32,121,10,99,32,122]⟩,⟨[99],[97,10,98,10,99,10]⟩],0):=by rfl
 have e2:A3 [⟨[97],[98,32,120,10,97,32,121,10,99,32,122]⟩,⟨[99],[97,10,98,10,99,10]⟩] ⟨[[99]],[⟨8,[],0⟩],[100]⟩=([51,10],0):=by
  have g:gather [⟨[97],[98,32,120,10,97,32,121,10,99,32,122]⟩,⟨[99],[97,10,98,10,99,10]⟩] [[99]]=([97,10,98,10,99,10],0):=by decide
  unfold A3;rw[g];simp only[if_true];have l:lines [97,10,98,10,99,10]=[[97],[98],[99]]:=by decide
  unfold aa8;simp only[List.foldl_cons,List.foldl_nil];rw[l,h4];rfl
 have p2:putS [⟨[97],[98,32,120,10,97,32,121,10,99,32,122]⟩,⟨[99],[97,10,98,10,99,10]⟩] [100] [51,10]=([⟨[97],[98,32,120,10,97,32,121,10,99,32,122]⟩,⟨[99],[97,10,98,10,99,10]⟩,⟨[100],[51,10]⟩],0):=by rfl
 unfold drL;rw[runL];simp only[e1,p1,if_true];rw[runL];simp only[e2,p2,if_true];rw[runL]
end Go.Gs
