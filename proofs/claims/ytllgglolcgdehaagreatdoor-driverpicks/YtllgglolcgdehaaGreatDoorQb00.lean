/- Plain facts on bytes and lines, and on slices that can be read, and more. -/
import Derived.Test.YtllgglolcgdehaaGreatDoorQAb
import Derived.Test.YtllgglolcgdehaaGreatDoorQa12
set_option maxRecDepth 100000
set_option maxHeartbeats 16000000
namespace Go.Gs
open Go.RowKit
def bad:Nat->List (List UInt8)->Int
 | _,[]=>0
 | room,s::r=>if (10:UInt8)∈s then 4 else if room<=s.length then 2 else bad (room-(s.length+1)) r
theorem cv7 (l:List (List UInt8)):∀room,bad room l=0->(ended l).length<=room /\ ∀s∈l,(10:UInt8)∉s:=by
 induction l with
 | nil=>intro room _;simp[ended]
 | cons s l ih=>
  intro room h
  unfold bad at h
  split at h
  . cases h
  .
   split at h
   . cases h
   .
    have:=ih _ h
    rw[E4]
    simp only[List.length_append,List.length_cons,List.length_nil,List.mem_cons] at *
    refine⟨by omega,?_⟩
    rintro t (rfl | ht)
    . assumption
    . exact this.2 t ht
end Go.Gs
namespace Go.Proofs.YtllgglolcgdehaaGreatDoor
open Go.RowKit Go.Gs
set_option linter.unusedVariables false
theorem bv0 (v:Value) (bs:List UInt8) (w:World) (hr:Reads w v bs.length (bs.map U)) (hle:bs.length<=4000) :
 Calls Tryz.prog 155 #[v] w fun e w'=>∃r,e=.returned (.tuple #[r,.int .i64 0]) /\
  w'.ownsRow w.heap.size 9 1 r (lines bs).length ((lines bs).map S)/\Bq w w':=by have hA:=fun (W:World) (h:Reads W v bs.length (bs.map U))=>aw4 v bs W h (by omega);obtain⟨_,ao,cap,rfl,h2,h3,h4⟩:=id hr;have HA:Hid _:=hA;have HR:=qH hr;obtain⟨N,hN⟩:=qE ((lines bs).length);generalize bs.length=n at *;clear hr hA h3 h4 hN;go_enter Tryz.func155,Tryz.ntmps155;go_wp2_with fail;refine (HA.out _ HR.out).mono ?_;rintro e w1 ⟨r,rfl,h5,h6⟩;have H5:Hid _:=h5;have H6:=qH h6;clear h5 h6 HA HR;go_wp2_with fail;go_ret2;exact⟨r,rfl,H5.out,H6.out⟩
end Go.Proofs.YtllgglolcgdehaaGreatDoor
namespace Go.Gs
open Go.RowKit
set_option linter.unusedVariables false
structure SLine where
 fr:List (List UInt8)
 cs:List Cmd
 tu:List UInt8
def K3:List Int->Int
 | []=>0
 | e::r=>if e=0 then K3 r else e
def lchk (l:SLine):Int:=
 if l.fr.length<1\/4<l.fr.length\/6<l.cs.length then 2
 else if l.fr.all isWord=false then 1
 else if isWord l.tu=false then 1
 else K3 (l.cs.map chk)
def aq8 (c:Cmd) (b:List UInt8):List UInt8:=ended (made c (lines b))
theorem bk0 {l m:List (List UInt8)} (h:l.Perm m):U3 l=U3 m:=
 Y9 _ _ (((F9 l).trans h).trans (F9 m).symm) (N9 l) (N9 m)
def aj6 (l:List SFile):List (List UInt8)->List UInt8->List UInt8 × Int
 | [],acc=>(acc,0)
 | s::r,acc=>if 4000<(acc++ended (lines (D8 l s))).length then ([],2) else aj6 l r (acc++ended (lines (D8 l s)))
def gather (l:List SFile) (fr:List (List UInt8)):List UInt8 × Int:=if 4<fr.length then ([],2) else aj6 l fr []
def aa8 (cs:List Cmd) (b:List UInt8):List UInt8:=cs.foldl (fun b c=>ended (made c (lines b))) b
def A3 (l:List SFile) (x:SLine):List UInt8 × Int:=if (gather l x.fr).2=0 then (aa8 x.cs (gather l x.fr).1,0) else ([],(gather l x.fr).2)
theorem bv1 (n:Nat) (h:n<=9999):(Lib.itoa (n:Int)).length<=4:=by unfold Lib.itoa;rw[if_neg (by omega)];exact ay3 3 _ (by simp;omega)
theorem ch9 (c:Cmd) (h:chk c=0) (ls:List (List UInt8)) (hl:ls.length<=9999):(ended (made c ls)).length<=(ended ls).length+5:=by
 have hk:=af7 c h;have:c.kind=1\/c.kind=2\/c.kind=3\/c.kind=4\/c.kind=5\/c.kind=6\/c.kind=7\/c.kind=8\/c.kind=9\/c.kind=10:=by omega
 rcases this with e | e | e | e | e | e | e | e | e | e
 . rw[made1 c e];have:=A6 (List.filter_sublist (p:=fun s=>Lib.contains s c.word) (l:=ls));omega
 . rw[made2 c e];have:=A6 (List.filter_sublist (p:=fun s=>!Lib.contains s c.word) (l:=ls));omega
 . rw[made3 c e];have:=I2 (Y7 (c.word.getD 0 0) (c.word.getD 1 0)) (fun s=>by simp[Y7]) ls;omega
 . rw[bn6 c e];have:=I2 (P7 c.n) (ar1 c.n) ls;omega
 . rw[bn8 c e];have:=I2 List.reverse (fun s=>by simp) ls;omega
 . rw[aC2 c e];have:=ab0 (F9 ls);omega
 . rw[aZ9 c e];have:=A6 (ad5 ls);omega
 . rw[aP3 c e];have:=bv1 ls.length hl;simp[ended];omega
 . rw[aJ9 c e];have:=A6 (List.take_sublist c.n.toNat ls);omega
 . rw[aG7 c e];have:=A6 (List.drop_sublist (ls.length-c.n.toNat) ls);omega
theorem bU2 (c:Cmd) (h:chk c=0) (b:List UInt8) (hb:b.length<=9999):(aq8 c b).length<=b.length+6:=by unfold aq8;have h1:=ch9 c h (lines b) (by have:=G5 b;omega);have h2:=E5 b;omega
theorem bF6 (ls:List (List UInt8)):(U3 ls).length=ls.length:=(F9 ls).length_eq
def E1 (k:Int):Int:=if k=6 then 2 else if k=8 then 3 else if k=7\/k=9\/k=10 then 4 else 1
theorem aY6:∀(n:Nat) (ps:List (List (List UInt8))),ps.flatten.length=n->(∀p∈ps,p.Pairwise (fun x y=>x<=y))->(ac1 n ps).Pairwise (fun x y=>x<=y):=by
 intro n
 induction n with
 | zero=>intro ps h _;exact List.Pairwise.nil
 | succ n ih=>
  intro ps h hs
  unfold ac1
  cases hl:least ps with
  | none=>exact List.Pairwise.nil
  | some q=>
   obtain⟨k,s⟩:=q
   obtain⟨r,hr,hle⟩:=least_some hl
   have hm:=ak1 hr
   simp only
   refine List.Pairwise.cons ?_ (ih _ (by omega) ?_)
   .
    intro x hx
    have hx':x∈ps.flatten:=(ag4 hr).mem_iff.2 (List.mem_cons_of_mem _ ((ar2 n _ (by omega)).mem_iff.1 hx))
    obtain⟨p,hp,hxp⟩:=List.mem_flatten.1 hx'
    have hsp:=hs p hp
    cases p with
    | nil=>cases hxp
    | cons y q=>
     have h1:=hle _ hp y rfl
     rcases List.mem_cons.1 hxp with rfl | hxq
     . exact h1
     . exact List.le_trans h1 ((List.pairwise_cons.1 hsp).1 x hxq)
   .
    intro p hp
    obtain⟨i,hi,rfl⟩:=List.mem_iff_getElem.1 hp
    rw[List.getElem_modify]
    have hi':i<ps.length:=by simpa using hi
    split
    . exact (hs _ (List.getElem_mem hi')).sublist (List.drop_sublist _ _)
    . exact hs _ (List.getElem_mem hi')
theorem aT6 (ps:List (List (List UInt8))) (h:∀p∈ps,p.Pairwise (fun x y=>x<=y)):Z7 ps=U3 ps.flatten:=
 Y9 _ _ ((ar2 _ _ rfl).trans (F9 _).symm) (aY6 _ _ rfl h) (N9 _)
theorem aI0 (s:List UInt8) (a:List (List UInt8)) (p:Option (List UInt8)):(s::a).getLast?.or p=a.getLast?.or (some s):=by
 rw[List.getLast?_cons]
 cases h:a.getLast? <;> simp
def comp:Option (List UInt8)->List (List UInt8)->List (List UInt8)
 | _,[]=>[]
 | p,s::r=>if p=some s then comp p r else s::comp (some s) r
theorem av2 (a b:List (List UInt8)):∀p,comp p (a++b)=comp p a++comp (a.getLast?.or p) b:=by
 induction a with
 | nil=>intro p;rfl
 | cons s a ih=>
  intro p
  rw[List.cons_append,comp,comp,ih,ih]
  have e:=aI0 s a p
  rw[e]
  split
  . rename_i hp;rw[hp]
  . rfl
theorem bU3 (a:List (List UInt8)):∀p,(comp p a).getLast?.or p=a.getLast?.or p:=by
 induction a with
 | nil=>intro p;rfl
 | cons s a ih=>
  intro p
  have e:=aI0 s a p
  rw[e,comp]
  split
  . rename_i hp;rw[ih p,hp]
  . rw[aI0];exact ih _
theorem bU4 (a:List (List UInt8)):∀p q,(q=none\/q=p)->comp p (comp q a)=comp p a:=by
 induction a with
 | nil=>intro p q _;rfl
 | cons s a ih=>
  intro p q hq
  by_cases hqs:q=some s
  . rcases hq with h | h
    . rw[h] at hqs;cases hqs
    . subst h
      rw[comp,if_pos hqs]
      rw[ih q q (.inr rfl)]
  .
   conv=>lhs;rw[comp,if_neg hqs]
   rw[comp]
   conv=>rhs;rw[comp]
   split
   . rename_i hp;rw[hp];exact ih _ _ (.inr rfl)
   . rw[ih _ _ (.inr rfl)]
theorem bk3 (ps:List (List (List UInt8))):∀p,comp p (ps.map (comp none)).flatten=comp p ps.flatten:=by
 induction ps with
 | nil=>intro p;rfl
 | cons a ps ih=>
  intro p
  rw[List.map_cons,List.flatten_cons,List.flatten_cons,av2,av2,bU4 _ _ _ (.inl rfl),ih]
  have:=bU3 a none
  simp only[Option.or_none] at this
  rw[this]
theorem aI1 (l:List (List UInt8)):∀m,m<=l.length->Lib.compactUpTo l.toArray m=comp none (l.take m):=by
 intro m
 induction m with
 | zero=>intro _;rfl
 | succ m ih=>
  intro h
  rw[Lib.compactUpTo_succ,ih (by omega),List.take_add_one,gEl (show m<l.length by omega),Option.toList_some,av2]
  congr 1
  have e1:l.toArray[m]! = l[m]:=by simp[getElem!_pos,show m<l.length by omega]
  unfold Lib.keeps
  rw[e1,Option.or_none,comp,comp]
  by_cases h0:m=0
  . subst h0;simp[comp]
  .
   have e2:l.toArray[m-1]! = l[m-1]:=by simp[getElem!_pos,show m-1<l.length by omega]
   have e3:(l.take m).getLast? = some l[m-1]:=by
    rw[List.getLast?_eq_getElem?,List.length_take,Nat.min_eq_left (by omega),List.getElem?_take,if_pos (by omega),gEl (by omega)]
   rw[e2,e3]
   by_cases hx:l[m-1]=l[m]
   . simp[hx,h0]
   . simp[hx,h0,Ne.symm hx,comp]
theorem bk4 (l:List (List UInt8)):Lib.compact l=comp none l:=by unfold Lib.compact;rw[aI1 l _ (Nat.le_refl _),List.take_length]
theorem aO0 (ps:List (List (List UInt8))):Lib.compact (ps.map Lib.compact).flatten=Lib.compact ps.flatten:=by have e:(Lib.compact:List (List UInt8)->List (List UInt8))=comp none:=funext bk4;rw[e];exact bk3 ps none
theorem aE7 {α:Type} (n:Nat) (ps:List (List α)):∀m,m<=n->(ps.map (List.take n)).flatten.take m=ps.flatten.take m:=by
 induction ps with
 | nil=>intro m _;rfl
 | cons a ps ih=>
  intro m hm
  rw[List.map_cons,List.flatten_cons,List.flatten_cons,List.take_append,List.take_append,List.take_take,Nat.min_eq_left hm,List.length_take]
  congr 1
  have e:m-min n a.length=m-a.length:=by omega
  rw[e]
  exact ih _ (by omega)
def lastOf {α:Type} (n:Nat) (l:List α):List α:=l.drop (l.length-n)
theorem aI2 {α:Type} (n:Nat) (l:List α):lastOf n l=(l.reverse.take n).reverse:=by unfold lastOf;rw[List.take_reverse,List.reverse_reverse]
theorem bk5 {α:Type} (n:Nat) (ps:List (List α)):lastOf n (ps.map (lastOf n)).flatten=lastOf n ps.flatten:=by
 rw[aI2,aI2];congr 1;rw[List.reverse_flatten,List.reverse_flatten,List.map_map];have e:(List.reverse ∘ lastOf n:List α->List α)=List.take n ∘ List.reverse:=by funext l;simp[aI2]
 rw[e,<- List.map_map,<- List.map_reverse];exact aE7 n _ n (Nat.le_refl _)
theorem bU5 (ps:List (List (List UInt8))) (h:∀p∈ps,p.length<=4000):sumOf (ps.map fun p=>[Lib.itoa (p.length:Int)])=ps.flatten.length:=by
 unfold sumOf
 induction ps with
 | nil=>rfl
 | cons p ps ih=>
  have:=ih (fun q hq=>h q (by simp[hq]))
  simp only[List.map_cons,List.sum_cons,List.flatten_cons,List.length_append] at this ⊢
  rw[this]
  have hn:ad0 [Lib.itoa (p.length:Int)]=p.length:=by
   unfold ad0
   rw[List.head?_cons,Option.map_some,Option.getD_some,aP4 p.length (h p (by simp))]
  rw[hn]
theorem bF7 (c:Cmd) (hc:chk c=0) (ps:List (List (List UInt8))) (h:∀p∈ps,p.length<=4000):joined (E1 c.kind) c (ps.map (made c))=made c ps.flatten:=by
 have hk:=af7 c hc;have:c.kind=1\/c.kind=2\/c.kind=3\/c.kind=4\/c.kind=5\/c.kind=6\/c.kind=7\/c.kind=8\/c.kind=9\/c.kind=10:=by omega
 have each:U6 c.kind=true->(ps.map (made c)).flatten=made c ps.flatten:=by
  intro he;clear h
  induction ps with
  | nil=>
   have hk:c.kind=1\/c.kind=2\/c.kind=3\/c.kind=4\/c.kind=5:=by
    have:=of_decide_eq_true he
    omega
   rcases hk with hk | hk | hk | hk | hk <;> simp[made,hk]
  | cons p ps ih=>rw[List.map_cons,List.flatten_cons,List.flatten_cons,ai5 c he,ih]
 rcases this with e | e | e | e | e | e | e | e | e | e
 . simpa[joined,E1,e] using each (by simp[U6,e])
 . simpa[joined,E1,e] using each (by simp[U6,e])
 . simpa[joined,E1,e] using each (by simp[U6,e])
 . simpa[joined,E1,e] using each (by simp[U6,e])
 . simpa[joined,E1,e] using each (by simp[U6,e])
 .
  have e1:joined (E1 c.kind) c (ps.map (made c))=Z7 (ps.map (made c)):=by simp[joined,E1,e]
  have e2:made c=U3:=funext (aC2 c e)
  rw[e1,e2,aT6 _ (by
   intro p hp
   obtain⟨q,_,rfl⟩:=List.mem_map.1 hp
   exact N9 q)]
  apply bk0;clear h each e1
  induction ps with
  | nil=>exact List.Perm.nil
  | cons p ps ih=>
   rw[List.map_cons,List.flatten_cons,List.flatten_cons]
   exact (F9 p).append ih
 . have e1:joined (E1 c.kind) c (ps.map (made c))=made c (ps.map (made c)).flatten:=by simp[joined,E1,e]
   have e2:made c=Lib.compact:=funext (aZ9 c e);rw[e1,e2];exact aO0 ps
 . have e1:joined (E1 c.kind) c (ps.map (made c))=[Lib.itoa (sumOf (ps.map (made c)):Int)]:=by simp[joined,E1,e]
   have e2:made c=fun p=>[Lib.itoa (p.length:Int)]:=funext (aP3 c e);rw[e1,e2,bU5 ps h]
 . have e1:joined (E1 c.kind) c (ps.map (made c))=made c (ps.map (made c)).flatten:=by simp[joined,E1,e]
   have e2:made c=List.take c.n.toNat:=funext (aJ9 c e);rw[e1,e2];exact aE7 _ ps _ (Nat.le_refl _)
 . have e1:joined (E1 c.kind) c (ps.map (made c))=made c (ps.map (made c)).flatten:=by simp[joined,E1,e]
   have e2:made c=lastOf c.n.toNat:=funext (aG7 c e);rw[e1,e2];exact bk5 _ ps
def P6 (w:World) (v:Value) (cs:List Cmd):Prop:=
 ∃ao cap,v=.slice ao cs.length cap/\cs.length<=cap/\cap<=maxLen /\
  (cs.length≠0 -> ∃b off,ao=some ⟨b,off,none⟩ /\ ∀j c,cs[j]? = some c->w.cell? ⟨b,off+j*3,none⟩=some (.int .i64 c.kind)/\w.cell? ⟨b,off+j*3+1,none⟩=some (.string ⟨c.word.toArray⟩)/\w.cell? ⟨b,off+j*3+2,none⟩=some (.int .i64 c.n))
theorem P6.below {w w':World} {v:Value} {cs:List Cmd} (h:P6 w v cs) (hb:Bq w w'):P6 w' v cs:=by obtain⟨ao,cap,rfl,h2,h3,h4⟩:=h;refine⟨ao,cap,rfl,h2,h3,fun hn=>?_⟩;obtain⟨b,off,rfl,hc⟩:=h4 hn;refine⟨b,off,rfl,fun j c hj=>?_⟩;obtain⟨a1,a2,a3⟩:=hc j c hj;exact⟨(hb.cell (bLt w _ a1)).trans a1,(hb.cell (bLt w _ a2)).trans a2,(hb.cell (bLt w _ a3)).trans a3⟩
theorem P6.shape {w:World} {v:Value} {cs:List Cmd} (h:P6 w v cs):∃ao cap,v=.slice ao cs.length cap/\cs.length<=cap/\cap<=maxLen:=by obtain⟨ao,cap,h1,h2,h3,_⟩:=h;exact⟨ao,cap,h1,h2,h3⟩
theorem P6.at {w:World} {ao:Option Addr} {n cap:Nat} {cs:List Cmd} (h:P6 w (.slice ao n cap) cs) {k:Nat} {c:Cmd} (hk:cs[k]? = some c) :
 ∃b off,ao=some ⟨b,off,none⟩/\w.cell? ⟨b,off+k*3,none⟩=some (.int .i64 c.kind)/\w.cell? ⟨b,off+k*3+1,none⟩=some (.string ⟨c.word.toArray⟩)/\w.cell? ⟨b,off+k*3+2,none⟩=some (.int .i64 c.n):=by obtain⟨ao',cap',e,_,_,h5⟩:=h;injection e with e1 e2 e3;subst e1;obtain⟨hkl,_⟩:=gSm hk;obtain⟨b,off,hao,hc⟩:=h5 (by omega);exact⟨b,off,hao,hc k c hk⟩
theorem Reads.at {w:World} {ao:Option Addr} {n cap:Nat} {fr:List (List UInt8)} (h:Reads w (.slice ao n cap) n (fr.map S)) {k:Nat} {s:List UInt8} (hk:fr[k]? = some s) :
 ∃b off,ao=some ⟨b,off,none⟩/\w.cell? ⟨b,off+k,none⟩=some (.string ⟨s.toArray⟩):=by obtain⟨h1,ao',cap',e,_,_,h5⟩:=h;injection e with e1 e2 e3;subst e1;obtain⟨hkl,_⟩:=gSm hk;rw[List.length_map] at h1;obtain⟨b,off,hao,hc⟩:=h5 (by omega);exact⟨b,off,hao,hc k (S s) (by rw[List.getElem?_map,hk];rfl)⟩
def ci0 (cs:List Cmd):Prop:=∀c∈cs,c.word.length<=9223372036854775807
def Y5 (x:SLine):Prop:=(∀s∈x.fr,s.length<=9223372036854775807)/\ci0 x.cs/\x.tu.length<=9223372036854775807
abbrev PD:=List SNode × List (Int × Int)
def srcN (f:List UInt8):SNode:=⟨1,f,noC,0,0,[]⟩
def splitN (w:Nat) (ps:List (Int × Int)):SNode:=⟨2,[],noC,0,(w:Int),ps⟩
def ab6 (c:Cmd) (p:Int × Int):SNode:=⟨3,[],c,0,0,[p]⟩
def am9 (how:Int) (c:Cmd) (ps:List (Int × Int)):SNode:=⟨4,[],c,how,0,ps⟩
def ae2 (f:List UInt8) (ps:List (Int × Int)):SNode:=⟨5,f,noC,0,0,ps⟩
def l8 (i k:Nat):List (Int × Int):=(List.range k).map fun (j:Nat)=>((i:Int),(j:Int))
def af5 (i:Nat):Int × Int:=((i:Int),0)
def pSrc (d:PD) (f:List UInt8):PD:=(d.1++[srcN f],d.2++[af5 d.1.length])
def K4 (how:Int) (c:Cmd) (d:PD):PD:=(d.1++[am9 how c d.2],[af5 d.1.length])
def G9 (d:PD):PD:=if 1<d.2.length then K4 1 noC d else d
def U4 (w:Nat) (d:PD):PD:=if d.2.length=1/\w≠1 then (d.1++[splitN w d.2],l8 d.1.length w) else d
def an0 (c:Cmd) (d:PD) (p:Int × Int):PD:=(d.1++[ab6 c p],d.2++[af5 d.1.length])
def O8 (c:Cmd) (d:PD):PD:=d.2.foldl (an0 c) (d.1,[])
def aT7 (w:Nat) (c:Cmd) (d:PD):PD:=if w=1\/U6 c.kind=true then d else K4 (E1 c.kind) (if E1 c.kind=4 then c else noC) d
def pCmd (w:Nat) (d:PD) (c:Cmd):PD:=aT7 w c (O8 c (U4 w d))
def E9 (fr:List (List UInt8)):PD:=fr.foldl pSrc ([],[])
def aT8 (fr:List (List UInt8)):PD:=G9 (E9 fr)
def N6 (w:Nat) (fr:List (List UInt8)) (cs:List Cmd):PD:=cs.foldl (pCmd w) (aT8 fr)
def az3 (tu:List UInt8) (d:PD):List SNode:=d.1++[ae2 tu d.2]
def plan (l:SLine) (w:Nat):List SNode:=az3 l.tu (G9 (N6 w l.fr l.cs))
theorem T8 (i k:Nat):(l8 i k).length=k:=by simp[l8]
theorem Y3 (i:Nat):l8 i 1=[af5 i]:=by simp[l8,af5]
theorem bv2 (fr:List (List UInt8)) (f:List UInt8):E9 (fr++[f])=pSrc (E9 fr) f:=by simp[E9]
theorem bF8 (w:Nat) (fr:List (List UInt8)) (cs:List Cmd) (c:Cmd):N6 w fr (cs++[c])=pCmd w (N6 w fr cs) c:=by simp[N6]
theorem an2 (c:Cmd):∀(op:List (Int × Int)) (d:PD),(op.foldl (an0 c) d).1.length=d.1.length+op.length/\(op.foldl (an0 c) d).2.length=d.2.length+op.length
 | [],d=>by simp
 | p::r,d=>by
  have:=an2 c r (an0 c d p)
  simp only[List.foldl_cons,List.length_cons]
  simp only[an0,List.length_append,List.length_cons,List.length_nil] at this ⊢
  omega
theorem ac7:∀(fr:List (List UInt8)) (d:PD),(fr.foldl pSrc d).1.length=d.1.length+fr.length/\(fr.foldl pSrc d).2.length=d.2.length+fr.length
 | [],d=>by simp
 | p::r,d=>by
  have:=ac7 r (pSrc d p)
  simp only[List.foldl_cons,List.length_cons]
  simp only[pSrc,List.length_append,List.length_cons,List.length_nil] at this ⊢
  omega
theorem aL9 {d:PD} (h:1<=d.2.length):(G9 d).2.length=1/\d.1.length<=(G9 d).1.length/\(G9 d).1.length<=d.1.length+1:=by
 unfold G9;split
 . simp[K4]
 . omega
theorem bd9 {fr:List (List UInt8)} (h1:1<=fr.length) (h4:fr.length<=4):(aT8 fr).2.length=1/\(aT8 fr).1.length<=5:=by obtain⟨a,b⟩:=ac7 fr ([],[]);simp only[List.length_nil,Nat.zero_add] at a b;obtain⟨c,d,e⟩:=aL9 (d:=E9 fr) (by unfold E9;omega);unfold aT8;unfold E9 at c d e ⊢;omega
theorem aA9 {w:Nat} {d:PD} (hw:1<=w/\w<=5) (h:d.2.length=1\/d.2.length=w):(U4 w d).2.length=w/\d.1.length<=(U4 w d).1.length/\(U4 w d).1.length<=d.1.length+1:=by
 unfold U4;split
 . simp[T8]
 .
  rename_i h1;rcases h with h | h
  . have:w=1:=by by_cases e:w=1;exact e;exact absurd ⟨h,e⟩ h1
    omega
  . omega
theorem bv3 {w:Nat} {d:PD} (hw:1<=w/\w<=5) (h:d.2.length=1\/d.2.length=w) (c:Cmd):((pCmd w d c).2.length=1\/(pCmd w d c).2.length=w)/\(pCmd w d c).1.length<=d.1.length+7:=by
 obtain⟨a,b,e⟩:=aA9 hw h;have w1:=an2 c (U4 w d).2 ((U4 w d).1,[]);simp only[List.length_nil,Nat.zero_add] at w1;unfold pCmd aT7;split
 . unfold O8;omega
 . unfold O8;refine⟨Or.inl rfl,?_⟩;simp only[K4,List.length_append,List.length_cons,List.length_nil];omega
theorem be0 {w:Nat} {fr:List (List UInt8)} (hw:1<=w/\w<=5) (h1:1<=fr.length) (h4:fr.length<=4) (cs:List Cmd):((N6 w fr cs).2.length=1\/(N6 w fr cs).2.length=w)/\(N6 w fr cs).1.length<=5+7*cs.length:=by
 have gen:∀(cs:List Cmd) (d:PD),(d.2.length=1\/d.2.length=w)->((cs.foldl (pCmd w) d).2.length=1\/(cs.foldl (pCmd w) d).2.length=w)/\(cs.foldl (pCmd w) d).1.length<=d.1.length+7*cs.length:=by
  intro cs
  induction cs with
  | nil=>intro d h;simp[h]
  | cons c r ih=>
   intro d h
   obtain⟨a,b⟩:=bv3 hw h c
   obtain⟨e,f⟩:=ih (pCmd w d c) a
   simp only[List.foldl_cons,List.length_cons]
   exact⟨e,by omega⟩
 obtain⟨a,b⟩:=bd9 h1 h4;obtain⟨e,f⟩:=gen cs (aT8 fr) (Or.inl a);unfold N6;exact⟨e,by omega⟩
theorem aT9 {l:SLine} {w:Nat} (hw:1<=w/\w<=5) (h:lchk l=0):(plan l w).length<=49/\(G9 (N6 w l.fr l.cs)).2.length=1:=by
 have h0:¬(l.fr.length<1\/4<l.fr.length\/6<l.cs.length):=by intro h1;unfold lchk at h;rw[if_pos h1] at h;cases h
 obtain⟨a,b⟩:=be0 hw (by omega:1<=l.fr.length) (by omega) l.cs;obtain⟨c,d,e⟩:=aL9 (d:=N6 w l.fr l.cs) (by omega);refine⟨?_,c⟩;unfold plan az3;simp only[List.length_append,List.length_cons,List.length_nil];omega
theorem aY7 (out:List NRow) (r:NRow):C7 (out++[r])=C7 out++encN r:=by simp[C7]
def noX (k:Nat):Prop:=False
theorem Kept.of_grown {D:Nat} {go x:Option Nat} {X:Nat->Prop} {w w':World} (h:w.grownBy w' x) (hx:∀k,x=some k->FS D go X k):Kept D go X w w':=⟨h.os,h.tape,h.output,h.size,fun k hk hn=>h.block k hk (fun e=>hn (hx k e.symm))⟩
theorem Kept.more {D:Nat} {go:Option Nat} {X X':Nat->Prop} {w w':World} (h:Kept D go X w w') (hd:∀k,X k->X' k):Kept D go X' w w':=
 ⟨h.os,h.tape,h.output,h.size,fun k hk hn=>h.block k hk (fun e=>hn (by rcases e with e | e | e;exact .inl e;exact .inr (.inl e);exact .inr (.inr (hd k e))))⟩
theorem Nxt.trans {w w1:World} {go g1 g2:Option Nat} (h:Nxt w go g1) (k:Nxt w1 g1 g2) (hs:w.heap.size<=w1.heap.size):Nxt w go g2:=by
 rcases k with rfl | ⟨g,e,hg⟩
 . exact h
 . exact Or.inr ⟨g,e,Nat.le_trans hs hg⟩
theorem Kept.trans {D:Nat} {go g1:Option Nat} {X X':Nat->Prop} {w w1 w2:World} (h:Kept D go X w w1) (k:Kept D g1 X' w1 w2) (hg:Nxt w go g1) (hd:NxtX w X X'):Kept D go X w w2:=by refine⟨k.os.trans h.os,k.tape.trans h.tape,k.output.trans h.output,Nat.le_trans h.size k.size,fun i hi hn=>?_⟩;rw[k.block i (Nat.lt_of_lt_of_le hi h.size) (fun e=>hn (e.old hg hd hi)),h.block i hi hn]
theorem Kept.below {D B:Nat} {go:Option Nat} {X:Nat->Prop} {w w':World} (h:Kept D go X w w') (hB:B<=w.heap.size) (hD:B<=D) (hg:∀g,go=some g->B<=g) (hd:∀g,X g->B<=g):Below B w w':=
 ⟨h.os,h.tape,h.output,h.size,fun k hk=>h.block k (by omega) (fun e=>by rcases e with e | e | e;omega;(have:=hg k e;omega);(have:=hd k e;omega))⟩
theorem POff.nil (w:World) (D:Nat) (go:Option Nat) (X:Nat->Prop):POff w D go X none 0 []:=⟨⟨none,0,rfl,by simp,by simp[maxLen],fun h=>absurd rfl h⟩,fun h=>absurd rfl h⟩
theorem NO.nil (w:World) (B D:Nat) (X:Nat->Prop) (e:TypeId):NO w B D X e (.slice none 0 0) []:=⟨World.ownsRow_nil _ _ _ _,fun r hr=>(by cases hr),by simp[Value.ownBlock]⟩
theorem NO.form {w:World} {B D:Nat} {X:Nat->Prop} {e:TypeId} {v:Value} {rows:List NRow} (h:NO w B D X e v rows):∃ao cap,v=.slice ao rows.length cap/\rows.length<=cap/\cap<=maxLen:=by
 rcases h.own.2 with ⟨rfl,h0⟩ | ⟨g,cap,cur,rfl,_,_,h1,h2,_⟩
 . exact⟨none,0,by rw[h0],by omega,by simp[maxLen]⟩
 . exact⟨_,cap,rfl,h1,h2⟩
theorem NO.app {w w':World} {B D:Nat} {X:Nat->Prop} {e:TypeId} {v v':Value} {rows:List NRow} {r:NRow} (h:NO w B D X e v rows) (hr:POff w D v.ownBlock X r.2.1 r.2.2 r.1.ins) (hD:D<w.heap.size)
 (Ab:w'.ownsRow B e 8 v' (rows.length+1) (C7 rows++encN r)) (hg:w.grownBy w' v.ownBlock) (hl:v'.ownBlock=v.ownBlock\/v'.ownBlock=some w.heap.size):NO w' B D X e v' (rows++[r])/\Kept D v.ownBlock noX w w'/\Nxt w v.ownBlock v'.ownBlock:=by
 have hN:Nxt w v.ownBlock v'.ownBlock:=by
  rcases hl with h1 | h1
  . exact Or.inl h1
  . exact Or.inr ⟨_,h1,Nat.le_refl _⟩
 have hk:Kept D v.ownBlock noX w w':=Kept.of_grown hg (fun k e=>.inr (.inl e));have hk':Kept D v.ownBlock X w w':=hk.more (fun k e=>e.elim);refine⟨⟨by rw[aY7,List.length_append];exact Ab,fun x hx=>?_,?_⟩,hk,hN⟩
 . rcases List.mem_append.1 hx with hx | hx
   . exact (h.good x hx).keep hk' hN (NxtX.refl _ _)
   . rw[List.mem_singleton.1 hx];exact hr.keep hk' hN (NxtX.refl _ _)
 . rcases hl with h1 | h1
   . rw[h1];exact h.off
   . rw[h1];intro e2;injection e2 with e2;omega
theorem POff.less {w:World} {D:Nat} {go:Option Nat} {X X':Nat->Prop} {ao:Option Addr} {cap:Nat} {ps:List (Int × Int)} (h:POff w D go X ao cap ps) (hx:∀k,k<w.heap.size->X' k->X k):POff w D go X' ao cap ps:=
 h.keep (Kept.refl _ _ _ _) (Nxt.refl _ _) hx
theorem NO.less {w:World} {B D:Nat} {X X':Nat->Prop} {e:TypeId} {v:Value} {rows:List NRow} (h:NO w B D X e v rows) (hx:∀k,k<w.heap.size->X' k->X k):NO w B D X' e v rows:=
 ⟨h.own,fun r hr=>(h.good r hr).less hx,h.off⟩
end Go.Gs
namespace Go.Proofs.YtllgglolcgdehaaGreatDoor
open Go.RowKit Go.Gs
set_option linter.unusedVariables false
theorem bv4 {b s:List UInt8} (h:s∈lines b) (hb:b.length<=4000):s.length<=4000:=by have h1:=aT2 h;have h2:=E5 b;omega
theorem cx0 (c:Cmd) (v:Value) (bs:List UInt8) (w:World) (hw:c.word.length<=9223372036854775807) (h:chk c=0) (hr:Reads w v bs.length (bs.map U)) (hn:bs.length<=4000) (hK:aa6 w) :
 Calls Tryz.prog 105 #[c.v,v] w fun e w'=>∃r,e=.returned (.tuple #[r,.int .i64 0])/\w'.ownsRow w.heap.size 5 1 r (aq8 c bs).length ((aq8 c bs).map U)/\Bq w w':=by
 have Ar:=fun W=>am4 c W hw;rw[h] at Ar;have Em:=fun (v:Value) (W:World) (B:Nat) hB0 hB ho hK=>bL6 c h v (lines bs) W B hB0 hB ho (Nat.le_trans (G5 bs) (Nat.le_trans hn (by omega))) (fun s hs=>Nat.le_trans (bv4 hs hn) (by omega)) hK;have hlen:(ended (made c (lines bs))).length<=1000000:=by have:=bU2 c h bs (by omega);unfold aq8 at this;omega
 have Di:=fun (v:Value) (W:World) hr=>aa5 v (made c (lines bs)) W hr hlen;have hdo:ended (made c (lines bs))=aq8 c bs:=rfl;rw[hdo] at Di;clear hlen hdo;generalize aq8 c bs=D at *;generalize made c (lines bs)=M at *;obtain⟨k,word,n⟩:=c;unfold Cmd.v at Ar Em ⊢;simp only at Ar Em ⊢;generalize (⟨word.toArray⟩:ByteArray)=sx at *;have HR:=qH hr;have HO:Hid _:=Em;have HE:Hid _:=Di;have HK:=qH hK;clear hr Em Di hK;go_enter Tryz.func105,Tryz.ntmps105;go_wp2_with fail;refine (Ar _).mono ?_;rintro e w1 ⟨rfl,hb1⟩;have HB:Hid (Bq w w1):=b9.trans (hb1.mono (by simp));have Bc:w1.cell? ⟨w.heap.size,0,none⟩=some (.int .i64 k)/\w1.cell? ⟨w.heap.size,1,none⟩=some (.string sx)/\w1.cell? ⟨w.heap.size,2,none⟩=some (.int .i64 n):=by
  refine⟨?_,?_,?_⟩
  all_goals
   rw[hb1.cell (by simp),cell_of_row _ _ _ _ _ _ (heap_alloc_new w _)]
   rfl
 have Qe:w.heap.size<w1.heap.size:=by have:=hb1.size;simp at this;omega
 clear hb1 Ar;go_wp2_with fail;refine (bv0 v bs w1 (HR.out.below HB.out) hn).mono ?_;rintro e w2 ⟨l,rfl,Ab,hb2⟩;obtain⟨x0,x1,x2⟩:=Bc;have y0:w2.cell? ⟨w.heap.size,0,none⟩=some (.int .i64 k):=(hb2.cell Qe).trans x0;have y1:w2.cell? ⟨w.heap.size,1,none⟩=some (.string sx):=(hb2.cell Qe).trans x1;have y2:w2.cell? ⟨w.heap.size,2,none⟩=some (.int .i64 n):=(hb2.cell Qe).trans x2;have HW:=qH Ab;have HB2:=qH hb2;clear x0 x1 x2 Ab hb2;go_wp2_with fail;refine (HO.out l w2 w1.heap.size ?_ HB2.out.size HW.out ((HK.out.below HB.out).below HB2.out)).mono ?_
 . obtain⟨⟨m,hm⟩,_⟩:=HK.out;have:=bLt w _ hm;simp only at this;omega
 rintro e w3 ⟨r3,rfl,hr3,hb3⟩;have HR3:Hid _:=hr3;have HB3:=qH hb3;clear hr3 hb3 y0 y1 y2;go_wp2_with fail;refine (HE.out r3 w3 HR3.out).mono ?_;rintro e w4 ⟨r4,rfl,Ij,hb4⟩;have hs3:w.heap.size<=w3.heap.size:=by have h1:=HB.out.size;have h2:=HB2.out.size;have h3:=HB3.out.size;omega
 have HO4:Hid _:=aH8 Ij hs3;have HB4:Hid (Bq w w4):=HB.out.trans ((HB2.out.mono HB.out.size).trans ((HB3.out.mono HB.out.size).trans (hb4.mono hs3)));clear Ij hb4;go_wp2_with fail;go_ret2;exact⟨_,rfl,HO4.out,HB4.out⟩
theorem cx2 {w w':World} {a b c:Value} {t:TypeId} (h:Below (w.alloc (.cells #[a,b,c] t)).heap.size (w.alloc (.cells #[a,b,c] t)) w'):w'.cell? ⟨w.heap.size,0,none⟩=some a/\w'.cell? ⟨w.heap.size,1,none⟩=some b/\w'.cell? ⟨w.heap.size,2,none⟩=some c:=by
 refine⟨?_,?_,?_⟩
 all_goals
  rw[h.cell (by simp),cell_of_row _ _ _ _ _ _ (heap_alloc_new w _)]
  rfl
theorem bk6 {B:Nat} {w w1:World} (h:w.grownBy w1 none) (hB:B<=w.heap.size):Below B w w1:=⟨h.os,h.tape,h.output,h.size,fun k hk=>h.block k (by omega) (by simp)⟩
theorem ap7 {w:World} {B:Nat} {e:TypeId} {size:Nat} {v:Value} {n:Nat} {xs:List Value} (h:w.ownsRow B e size v n xs):∃a c,v=.slice a n c/\n<=c/\c<=maxLen:=by
 rcases h.2 with ⟨rfl,h0⟩ | ⟨g,cap,cur,rfl,_,_,h1,h2,_⟩
 . exact⟨none,0,by rw[h0],by omega,by simp[maxLen]⟩
 . exact⟨_,cap,rfl,h1,h2⟩
theorem an5 {P:Program} {ops:Array Oper} {o:Oper} {a:Act} {w:World} {K:Act->World->Prop} {Q:Exit->Act->World->Prop} {E:Prop}
 (hgd:o.guard=none) (s x:Operand) (t:TypeId) (ho:o.op=.call { callee:=.builtin .append,args:=#[s,x],argTypes:=#[t,t] })
 (base:Nat) (e:TypeId) (i:TypeInfo) (z:Value) (size bytes:Nat) (ht:P.underlying t=some (.slice e)) (hi:P.info? e=some i) (hz:i.zero=some z)
 (Eo:i.size=size) (hby:i.bytes=bytes) (hzs:z.cells.size=size) (hsz:0<size)
 (v:Value) (n:Nat) (xs:List Value) (hs:a.eval s=v) (Ab:w.ownsRow base e size v n xs)
 (ad:Addr) (m c:Nat) (news:List Value) (hx:a.eval x=.slice (some ad) m c) (hl:news.length=m*size) (Zc:∀j u,news[j]? = some u->w.cell? (ad.add j)=some u) (h1:∀u∈news,u.oneCell'=true)
 (h63:n+m<=maxLen) (Vd:(n+m)*bytes<=140737488355328) (Md:base<=w.heap.size)
 (h:∀v' w',w'.ownsRow base e size v' (n+m) (xs++news)->w.grownBy w' v.ownBlock->(v'=.slice none 0 0 ↔ v=.slice none 0 0/\m=0)->(v'.ownBlock=v.ownBlock\/v'.ownBlock=some w.heap.size)->K (a.put o.dst v') w') :
 if Region.wanted o (yielded ops a.tmps)=true then Oper.wp P o a w K Q else E:=by
 have hw:Region.wanted o (yielded ops a.tmps)=true:=by simp[Region.wanted,hgd]
 rw[if_pos hw];obtain⟨v',w',hr,h2,h3,h4,h5⟩:=run_append_own_at (P:=P) w base t o.type e i z size bytes ht hi hz Eo hby hzs hsz v n xs Ab ad m c news hl Zc h1 h63 Vd Md;unfold Oper.wp execOp;simp only[ho,resolve,invoke,builtin,Sem.run_bind,Sem.run_pure,Result.andThen_ok,List.map_toArray,List.map_cons,List.map_nil,hs,hx,hr];exact h v' w' h2 h3 h4 h5
end Go.Proofs.YtllgglolcgdehaaGreatDoor
namespace Go.Gs
open Go.RowKit
set_option linter.unusedVariables false
theorem ak6:∀l:List Int,K3 l=0 ↔ ∀e∈l,e=0
 | []=>by simp[K3]
 | e::r=>by
  unfold K3
  split
  . rename_i h
    rw[ak6 r];simp[h]
  . rename_i h
    simp[h]
theorem be1 {x:SLine} (h:lchk x=0):1<=x.fr.length/\x.fr.length<=4/\x.cs.length<=6/\x.fr.all isWord=true/\isWord x.tu=true /\ ∀c∈x.cs,chk c=0:=by
 unfold lchk at h;split at h
 . cases h
 .
  split at h
  . cases h
  . split at h
    . cases h
    . rename_i h1 h2 h3;refine⟨by omega,by omega,by omega,by simpa using h2,by simpa using h3,fun c hc=>?_⟩;exact (ak6 _).1 h (chk c) (List.mem_map.2 ⟨c,hc,rfl⟩)
theorem aM0 {l:List (List UInt8)} (h:∀s∈l,(10:UInt8)∉s):whole (ended l):=by unfold whole;rw[J5 l h]
theorem ax5:whole []:=rfl
theorem bk7 {a:List UInt8} (h:whole a) (l:List (List UInt8)) (hl:∀s∈l,(10:UInt8)∉s):whole (a++ended l):=by
 have e:a++ended l=ended (lines a++l):=by rw[I1,h]
 rw[e];refine aM0 (fun s hs=>?_);rcases List.mem_append.1 hs with hs | hs
 . exact G6 a s hs
 . exact hl s hs
theorem az4 (l:List SFile):∀(fr:List (List UInt8)) (acc:List UInt8),whole acc->acc.length<=4000->whole (aj6 l fr acc).1/\(aj6 l fr acc).1.length<=4000
 | [],acc,h,hl=>⟨h,hl⟩
 | s::r,acc,h,hl=>by
  rw[aj6]
  split
  . exact⟨ax5,by simp⟩
  . rename_i h1
    exact az4 l r _ (bk7 h _ (G6 _)) (by omega)
theorem aE8 (l:List SFile) (fr:List (List UInt8)):whole (gather l fr).1/\(gather l fr).1.length<=4000:=by
 unfold gather;split
 . exact⟨ax5,by simp⟩
 . exact az4 l fr [] ax5 (by simp)
theorem bU6 {c:Cmd} (hc:chk c=0) {b:List UInt8}:whole (ended (made c (lines b))):=aM0 (ad6 c hc _ (G6 b))
theorem bF9 (c:Cmd) (h:chk c=0) (ls:List (List UInt8)) (hl:ls.length<=4000):(ended (made c ls)).length<=max (ended ls).length 6:=by
 have hk:=af7 c h;have:c.kind=1\/c.kind=2\/c.kind=3\/c.kind=4\/c.kind=5\/c.kind=6\/c.kind=7\/c.kind=8\/c.kind=9\/c.kind=10:=by omega
 rcases this with e | e | e | e | e | e | e | e | e | e
 . rw[made1 c e];have:=A6 (List.filter_sublist (p:=fun s=>Lib.contains s c.word) (l:=ls));omega
 . rw[made2 c e];have:=A6 (List.filter_sublist (p:=fun s=>!Lib.contains s c.word) (l:=ls));omega
 . rw[made3 c e];have:=I2 (Y7 (c.word.getD 0 0) (c.word.getD 1 0)) (fun s=>by simp[Y7]) ls;omega
 . rw[bn6 c e];have:=I2 (P7 c.n) (ar1 c.n) ls;omega
 . rw[bn8 c e];have:=I2 List.reverse (fun s=>by simp) ls;omega
 . rw[aC2 c e];have:=ab0 (F9 ls);omega
 . rw[aZ9 c e];have:=A6 (ad5 ls);omega
 . rw[aP3 c e];have:=bv1 ls.length (by omega);simp[ended];omega
 . rw[aJ9 c e];have:=A6 (List.take_sublist c.n.toNat ls);omega
 . rw[aG7 c e];have:=A6 (List.drop_sublist (ls.length-c.n.toNat) ls);omega
theorem aM1:∀(cs:List Cmd) (b:List UInt8),(∀c∈cs,chk c=0)->whole b->b.length<=4000->whole (aa8 cs b)/\(aa8 cs b).length<=4000
 | [],b,_,h,hl=>⟨h,hl⟩
 | c::r,b,hc,h,hl=>by
  have h1:=bF9 c (hc c (by simp)) (lines b) (by have:=G5 b;omega)
  have h2:(ended (lines b)).length=b.length:=by rw[h]
  have e:aa8 (c::r) b=aa8 r (ended (made c (lines b))):=rfl
  rw[e]
  exact aM1 r _ (fun d hd=>hc d (by simp[hd])) (bU6 (hc c (by simp))) (by omega)
theorem bk8 (a b:List Cmd) (x:List UInt8):aa8 (a++b) x=aa8 b (aa8 a x):=by simp[aa8]
end Go.Gs
namespace Go.Proofs.YtllgglolcgdehaaGreatDoor
open Go.RowKit Go.Gs
set_option linter.unusedVariables false
theorem be3 {w w':World} {a b c:Value} {t:TypeId} (h:Below (w.alloc (.cells #[a,b,c] t)).heap.size (w.alloc (.cells #[a,b,c] t)) w'):w'.cell? ⟨w.heap.size,0,none⟩=some a/\w'.cell? ⟨w.heap.size,1,none⟩=some b/\w'.cell? ⟨w.heap.size,2,none⟩=some c:=by have hk:w'.heap[w.heap.size]? = some (.cells #[a,b,c] t (0,0)):=(h.block _ (by simp)).trans (heap_alloc_new w _);simp[World.cell?,hk]
end Go.Proofs.YtllgglolcgdehaaGreatDoor
namespace Go.Gs
open Go.RowKit
set_option linter.unusedVariables false
theorem aB0:∀(l:List (List UInt8)) (room:Nat),(∀s∈l,(10:UInt8)∉s)->bad room l=if room<(ended l).length then 2 else 0
 | [],room,_=>by simp[bad,ended]
 | s::r,room,h=>by
  have h1:(10:UInt8)∉s:=h s (by simp)
  have ih:=aB0 r (room-(s.length+1)) (fun x hx=>h x (by simp[hx]))
  unfold bad
  rw[if_neg h1,ih]
  have e:(ended (s::r)).length=s.length+1+(ended r).length:=by simp[ended];omega
  rw[e]
  by_cases h2:room<=s.length
  . rw[if_pos h2,if_pos (by omega)]
  . rw[if_neg h2]
    by_cases h3:room<s.length+1+(ended r).length
    . rw[if_pos h3,if_pos (by omega)]
    . rw[if_neg h3,if_neg (by omega)]
def l5 (fs:List SFile) (fr:List (List UInt8)):List (List UInt8):=(fr.map fun s=>lines (D8 fs s)).flatten
theorem ae6 (fs:List SFile) (fr:List (List UInt8)):∀s∈l5 fs fr,(10:UInt8)∉s:=by intro s hs;unfold l5 at hs;rw[List.mem_flatten] at hs;obtain⟨l,hl,hsl⟩:=hs;obtain⟨n,_,rfl⟩:=List.mem_map.1 hl;exact G6 _ s hsl
theorem aY8 (fs:List SFile) (fr:List (List UInt8)) (n:List UInt8):l5 fs (fr++[n])=l5 fs fr++lines (D8 fs n):=by simp[l5]
theorem aU0 (fs:List SFile):∀(fr:List (List UInt8)) (acc:List UInt8),acc.length<=4000->aj6 fs fr acc=if 4000<(acc++ended (l5 fs fr)).length then ([],2) else (acc++ended (l5 fs fr),0)
 | [],acc,h=>by
  rw[aj6,show l5 fs []=[] from rfl]
  have e:acc++ended []=acc:=by simp[ended]
  rw[e,if_neg (by omega)]
 | s::r,acc,h=>by
  have e:acc++ended (l5 fs (s::r))=(acc++ended (lines (D8 fs s)))++ended (l5 fs r):=by
   rw[show l5 fs (s::r)=lines (D8 fs s)++l5 fs r from rfl]
   simp[ended]
  rw[aj6,e]
  by_cases h1:4000<(acc++ended (lines (D8 fs s))).length
  . rw[if_pos h1,if_pos (by rw[List.length_append];omega)]
  . rw[if_neg h1,aU0 fs r _ (by omega)]
theorem be5 (fs:List SFile) (fr:List (List UInt8)) (h:¬4<fr.length):gather fs fr=if bad 4000 (l5 fs fr)=0 then (ended (l5 fs fr),0) else ([],bad 4000 (l5 fs fr)):=by
 unfold gather;rw[if_neg h,aU0 fs fr [] (by simp),List.nil_append,aB0 _ _ (ae6 fs fr)];by_cases h1:4000<(ended (l5 fs fr)).length
 . rw[if_pos h1,if_pos h1];rfl
 . rw[if_neg h1,if_neg h1];rfl
end Go.Gs
namespace Go.Proofs.YtllgglolcgdehaaGreatDoor
open Go.RowKit Go.Gs
set_option linter.unusedVariables false
theorem ci1 (ls:List (List UInt8)) (k room:Nat) (h:k<ls.length):bad room (ls.drop k)=if (10:UInt8)∈ls[k] then 4 else if room<=ls[k].length then 2 else bad (room-(ls[k].length+1)) (ls.drop (k+1)):=by rw[List.drop_eq_getElem_cons h,bad]
theorem bG0 (ao:Option Addr) (cap:Nat) (w:World) :
 Calls Tryz.prog 156 #[.slice ao 0 cap] w fun e w'=>e=.returned (.tuple #[.slice none 0 0,.int .i64 0])/\w'=w:=by
 go_enter Tryz.func156,Tryz.ntmps156;go_wp2;go_loopw [4,9] (fun v3 i wr=>v3=.int .i64 4000/\i=.int .i64 0/\wr=w) (fun _ _ _=>0)
 case atStart=>exact⟨rfl,rfl,rfl⟩
 case round=>
  obtain⟨rfl,rfl,rfl⟩:=hrel;go_wp2_with (go_at_call 152;refine (aA8 _ _ _).mono ?_;rintro e w' ⟨rfl,rfl⟩)
  go_ret2;exact⟨rfl,rfl⟩
theorem bG1 (b off cap:Nat) (ls:List (List UInt8)) (w:World) (h0:0<ls.length) (hcap:ls.length<=cap) (hcm:cap<=9223372036854775807)
 (hc:∀j u,(ls.map S)[j]? = some u->w.cell? ⟨b,off+j,none⟩=some u) (hsz:∀s∈ls,s.length<=9223372036854775807) :
 Calls Tryz.prog 156 #[.slice (some ⟨b,off,none⟩) ls.length cap] w fun e w'=>
  (bad 4000 ls≠0/\e=.returned (.tuple #[.slice none 0 0,.int .i64 (bad 4000 ls)])/\w'=w) \/
  (bad 4000 ls=0 /\ ∃r,e=.returned (.tuple #[r,.int .i64 0])/\w'.ownsRow w.heap.size 5 1 r (ended ls).length ((ended ls).map U)/\Bq w w'):=by
 have hrd:Reads w (.slice (some ⟨b,off,none⟩) ls.length cap) ls.length (ls.map S):=⟨by simp,_,cap,rfl,hcap,by simpa[maxLen] using hcm,fun _=>⟨b,off,rfl,hc⟩⟩;have Hrd:Hid _:=hrd;clear hrd;generalize hn:ls.length=n at *;go_enter Tryz.func156,Tryz.ntmps156;go_wp2
 go_loopw [4,9] (fun t i wr=>∃(k room:Nat),k<=n/\room<=4000/\i=.int .i64 k/\t=.int .i64 room/\wr=w/\Hid (bad 4000 ls=bad room (ls.drop k)))
  (fun _ i _=>n-(intOf i).toNat)
 case atStart=>exact⟨0,4000,Nat.zero_le _,Nat.le_refl _,rfl,rfl,rfl,rfl⟩
 case round=>
  obtain⟨k,room,hk,Ag,rfl,rfl,rfl,Ds⟩:=hrel;by_cases hlt:k<n
  .
   have Ac:=hc k (S (ls[k]'(by omega))) (by simp[hn,hlt]);unfold S at Ac;have Au:Hid _:=ci1 ls k room (by omega);have hszk:=hsz (ls[k]'(by omega)) (List.getElem_mem _);have hix:=av0 (ls[k]'(by omega));clear hc hsz;generalize hl:ls[k]'(by omega)=l at *;have Hl:Hid _:=hl;clear hl;obtain⟨sx,hsx⟩:=qE (⟨l.toArray⟩:ByteArray);have hsz:sx.size=l.length:=by rw[hsx];simp[ByteArray.size]
   have Il:∀w,Calls Tryz.prog 202 #[.string sx,.int .u8 10] w fun e w'=>e=.returned (.int .i64 (Lib.indexByte l 10))/\w'=w:=by intro w;have:=Tryz.strings_IndexByte sx 10 w;rw[hsx] at this ⊢;exact this
   rw[<- hsx] at Ac;rw[<- hsz] at hszk;have Hsz:Hid _:=hsz;have Nq:Hid _:=Il;clear hsx hsz Il;by_cases hf:(10:UInt8)∈l
   . have hi0:=hix.2 hf;generalize Lib.indexByte l 10=ix at *;have Hb:Hid (bad 4000 ls=4):=by show _=_;rw[Ds.out,Au.out,if_pos hf]
     clear hix Au Ds hf;go_wp2_with (go_at_call 202;refine (Nq.out _).mono ?_;rintro e w' ⟨rfl,rfl⟩)
     go_ret2;exact Or.inl ⟨by rw[Hb.out];decide,by rw[Hb.out];rfl,rfl⟩
   .
    have hi0:¬0<=Lib.indexByte l 10:=fun h=>hf (hix.1 h);generalize Lib.indexByte l 10=ix at *;by_cases hlr:room<=l.length
    . have Hb:Hid (bad 4000 ls=2):=by show _=_;rw[Ds.out,Au.out,if_neg hf,if_pos hlr]
      have hlr':room<=sx.size:=by rw[Hsz.out];exact hlr
      clear hix Au Ds hf hlr;go_wp2_with (go_at_call 202;refine (Nq.out _).mono ?_;rintro e w' ⟨rfl,rfl⟩)
      go_ret2;exact Or.inl ⟨by rw[Hb.out];decide,by rw[Hb.out];rfl,rfl⟩
    . have Hb:Hid (bad 4000 ls=bad (room-(sx.size+1)) (ls.drop (k+1))):=by show _=_;rw[Hsz.out,Ds.out,Au.out,if_neg hf,if_neg hlr]
      have hlr':sx.size<room:=by rw[Hsz.out];omega
      clear hix Au Ds hf hlr;go_wp2_with (go_at_call 202;refine (Nq.out _).mono ?_;rintro e w' ⟨rfl,rfl⟩)
      go_roundw
      case rel=>exact⟨k+1,room-(sx.size+1),by omega,by omega,by go_num,by go_num,(by first | exact rfl | trivial),Hb⟩
      case measure=>simp[intOf];omega
  .
   have hkn:k=n:=by omega
   subst hkn;subst hn;have Hb:Hid (bad 4000 ls=0):=by show _=_;rw[Ds.out];simp[bad]
   have Hle:Hid _:=(cv7 ls 4000 Hb.out).1;clear hc Ds;go_wp2_with (go_at_call 152;refine (aa5 _ ls _ Hrd.out (by have:=Hle.out;omega)).mono ?_;rintro e w' ⟨r,rfl,Ab,Aa⟩)
   go_ret2;exact Or.inr ⟨Hb.out,_,rfl,Ab,Aa⟩
theorem bv5 (v:Value) (ls:List (List UInt8)) (w:World) (hr:Reads w v ls.length (ls.map S)) (hsz:∀s∈ls,s.length<=9223372036854775807) :
 Calls Tryz.prog 156 #[v] w fun e w'=>
  (bad 4000 ls≠0/\e=.returned (.tuple #[.slice none 0 0,.int .i64 (bad 4000 ls)])/\w'=w) \/
  (bad 4000 ls=0 /\ ∃r,e=.returned (.tuple #[r,.int .i64 0])/\w'.ownsRow w.heap.size 5 1 r (ended ls).length ((ended ls).map U)/\Bq w w'):=by
 obtain⟨_,ao,cap,rfl,h2,h3,h4⟩:=hr;by_cases h0:ls.length=0
 . have hb:ls=[]:=List.eq_nil_of_length_eq_zero h0;subst hb;refine (bG0 ao cap w).mono ?_;rintro e w' ⟨rfl,rfl⟩;exact Or.inr ⟨rfl,_,rfl,by simpa[ended] using World.ownsRow_nil _ _ _ _,Below.refl _ _⟩
 . obtain⟨b,off,rfl,hc⟩:=h4 h0;exact bG1 b off cap ls w (by omega) h2 (by simpa[maxLen] using h3) hc hsz
end Go.Proofs.YtllgglolcgdehaaGreatDoor
namespace Go.Gs
open Go.RowKit
set_option linter.unusedVariables false
theorem bL9 (k:Int):∀(fr:List (List UInt8)) (d:PD),cnt k (fr.foldl pSrc d).1=cnt k d.1+if k=1 then fr.length else 0
 | [],d=>by simp
 | f::r,d=>by
  rw[List.foldl_cons,bL9 k r]
  simp only[pSrc,V6,ao8,srcN,List.length_cons]
  by_cases h:k=1
  . subst h;simp;omega
  . have h':¬(1:Int)=k:=fun e=>h e.symm
    simp[h,h']
theorem aU1 {k:Int} (h:k≠4) (d:PD):cnt k (G9 d).1=cnt k d.1:=by
 have h':¬(4:Int)=k:=fun e=>h e.symm;unfold G9;split
 . simp[K4,V6,ao8,am9,h']
 . rfl
theorem bU7 {k:Int} {w:Nat} (h:k≠2\/w=1) (d:PD):cnt k (U4 w d).1=cnt k d.1:=by
 unfold U4;split
 .
  rename_i h1;rcases h with h | h
  . have h':¬(2:Int)=k:=fun e=>h e.symm;simp[V6,ao8,splitN,h']
  . exact absurd h h1.2
 . rfl
theorem be6 (k:Int) (c:Cmd):∀(op:List (Int × Int)) (d:PD),cnt k (op.foldl (an0 c) d).1=cnt k d.1+if k=3 then op.length else 0
 | [],d=>by simp
 | f::r,d=>by
  rw[List.foldl_cons,be6 k c r]
  simp only[an0,V6,ao8,ab6,List.length_cons]
  by_cases h:k=3
  . subst h;simp;omega
  . have h':¬(3:Int)=k:=fun e=>h e.symm
    simp[h,h']
theorem ci2 {k:Int} (h:k≠4) (w:Nat) (c:Cmd) (d:PD):cnt k (aT7 w c d).1=cnt k d.1:=by
 have h':¬(4:Int)=k:=fun e=>h e.symm;unfold aT7;split
 . rfl
 . simp[K4,V6,ao8,am9,h']
theorem cr0 {k:Int} {w:Nat} (h4:k≠4) (h2:k≠2\/w=1) {d:PD} (hw:1<=w/\w<=5) (h:d.2.length=1\/d.2.length=w) (c:Cmd):cnt k (pCmd w d c).1=cnt k d.1+if k=3 then w else 0:=by obtain⟨a,_,_⟩:=aA9 hw h;unfold pCmd O8;rw[ci2 h4,be6,bU7 h2,a]
theorem bv6 {k:Int} {w:Nat} (h4:k≠4) (h2:k≠2\/w=1) (hw:1<=w/\w<=5):∀(cs:List Cmd) (d:PD),(d.2.length=1\/d.2.length=w)->cnt k (cs.foldl (pCmd w) d).1=cnt k d.1+if k=3 then w*cs.length else 0
 | [],d,h=>by simp
 | c::r,d,h=>by
  rw[List.foldl_cons,bv6 h4 h2 hw r _ (bv3 hw h c).1,cr0 h4 h2 hw h]
  by_cases h3:k=3
  . simp[h3,Nat.mul_add];omega
  . simp[h3]
theorem ci4 {l:SLine} {w:Nat} (hw:1<=w/\w<=5) (h:lchk l=0) {k:Int} (h4:k≠4) (h2:k≠2\/w=1):cnt k (plan l w)=(if k=1 then l.fr.length else 0)+(if k=3 then w*l.cs.length else 0)+(if k=5 then 1 else 0):=by
 have h0:¬(l.fr.length<1\/4<l.fr.length\/6<l.cs.length):=by intro h1;unfold lchk at h;rw[if_pos h1] at h;cases h
 obtain⟨a,_⟩:=bd9 (fr:=l.fr) (by omega) (by omega);unfold plan az3;rw[V6,aU1 h4];unfold N6;rw[bv6 h4 h2 hw _ _ (Or.inl a)];unfold aT8;rw[aU1 h4];unfold E9;rw[bL9,ao8];have e:cnt k ([]:List SNode)=0:=rfl;simp only[ae2,e];by_cases h5:k=5
 . subst h5;simp
 . have h':¬(5:Int)=k:=fun e=>h5 e.symm;simp[h5,h']
theorem aI3 (ns:List SNode):∀(ins t:List (Int × Int)),(∀p∈ins,A7 ns p=true)->(t++ins).Nodup->D4 ns ins t=(0,t++ins)
 | [],t,_,_=>by simp[D4]
 | p::r,t,h,hn=>by
  have h1:A7 ns p=true:=h p (by simp)
  have h2:p∉t:=fun hp=>by
   have:=(List.nodup_append.1 hn).2.2 p hp p (by simp)
   exact this rfl
  rw[D4,if_neg (by simp[h1]),if_neg h2,aI3 ns r (t++[p]) (fun q hq=>h q (by simp[hq])) (by simpa using hn)]
  simp
def PSt (fs:List SFile) (ns:List SNode) (t A:List (Int × Int)) (vals:List (List UInt8)):Prop:=
 (∀rest,rest≠[]->y8 [] (ns++rest) []=y8 ns rest t)/\(t++A).Nodup/\(∀p∈t++A,A7 ns p=true)/\((t.length+A.length:Nat):Int)=G7 ns/\A.map (j3 (j5 fs [] ns))=vals
theorem aE9 {i k:Nat} {p:Int × Int} (h:p∈l8 i k):∃j:Nat,j<k/\p=((i:Int),(j:Int)):=by unfold l8 at h;obtain⟨j,hj,rfl⟩:=List.mem_map.1 h;exact⟨j,List.mem_range.1 hj,rfl⟩
theorem aU2 (i k:Nat):(l8 i k).Nodup:=by unfold l8;rw[List.nodup_iff_pairwise_ne,List.pairwise_map];refine List.Pairwise.imp ?_ (List.nodup_iff_pairwise_ne.1 List.nodup_range);intro a b hab e;injection e with _ e2;exact hab (by omega)
theorem bv7 {fs:List SFile} {ns:List SNode} {n:SNode} {p:Int × Int} (h:A7 ns p=true):j3 (j5 fs [] (ns++[n])) p=j3 (j5 fs [] ns) p:=by obtain⟨i,k,m,rfl,hi,hk⟩:=U1 h;have hl:i<ns.length:=(gSm hi).1;rw[X8];unfold j3;rw[an9 fs [n] (j5 fs [] ns) _ (by rw[I7];simp;exact hl)]
theorem ci5 {fs:List SFile} {ns:List SNode} {n:SNode} (j:Nat):j3 (j5 fs [] (ns++[n])) ((ns.length:Int),(j:Int))=(i8 n fs (n.ins.map (j3 (j5 fs [] ns))))[j]?.getD []:=by
 rw[X8];unfold j3;have e:(j5 fs (j5 fs [] ns) [n])[ns.length]? = some (i8 n fs (n.ins.map (j3 (j5 fs [] ns)))):=by rw[j5,j5,List.getElem?_append_right (by rw[I7];simp),I7];simp
 simp only[Int.toNat_natCast];rw[e];rfl
theorem PSt.step {fs:List SFile} {ns:List SNode} {t ins R:List (Int × Int)} {iv rv:List (List UInt8)} (h:PSt fs ns t (ins++R) (iv++rv)) (hl:ins.length=iv.length) {n:SNode} (hn:l7 n=0) (hk:n.kind≠5) (hi:n.ins=ins) :
 PSt fs (ns++[n]) (t++ins) (R++l8 ns.length (nouts n).toNat) (rv++i8 n fs iv):=by
 obtain⟨h1,h2,h3,h4,h5⟩:=h;have hnn:=ao0 hn;have Kq:(t++ins).Nodup:=by rw[<- List.append_assoc] at h2;exact (List.nodup_append.1 h2).1
 rw[List.map_append] at h5;obtain⟨v1,v2⟩:=List.append_inj h5 (by simpa using hl);have Eg:=m9 hn fs iv;refine⟨?_,?_,?_,?_,?_⟩
 . intro rest hr;rw[List.append_assoc,h1 ([n]++rest) (by simp)];rw[List.singleton_append,y8,if_neg (by simp[hn]),hi,aI3 ns ins t (fun p hp=>h3 p (by simp[hp])) Kq,if_neg (by simp)];have hre:rest.isEmpty=false:=by cases rest with | nil=>exact absurd rfl hr | cons _ _=>rfl
   rw[if_neg (by simp[hre,hk])]
 . have hold:∀p∈t++(ins++R),p∉l8 ns.length (nouts n).toNat:=by intro p hp hq;obtain⟨j,hj,rfl⟩:=aE9 hq;obtain⟨i,k,m,e,hi',_⟩:=U1 (h3 _ hp);injection e with e1 _;have:=(gSm hi').1;omega
   rw[show t++ins++(R++l8 ns.length (nouts n).toNat)=(t++(ins++R))++l8 ns.length (nouts n).toNat by simp];rw[List.nodup_append];exact⟨h2,aU2 _ _,fun a ha b hb e=>hold a ha (e ▸ hb)⟩
 .
  intro p hp;have hp':p∈t++(ins++R)\/p∈l8 ns.length (nouts n).toNat:=by
   simp only[List.mem_append] at hp ⊢;rcases hp with (a | a) | (a | a)
   . exact Or.inl (Or.inl a)
   . exact Or.inl (Or.inr (Or.inl a))
   . exact Or.inl (Or.inr (Or.inr a))
   . exact Or.inr a
  rcases hp' with hp' | hp'
  . exact as2 (h3 p hp')
  . obtain⟨j,hj,rfl⟩:=aE9 hp';unfold A7;simp;constructor
    . omega
    . omega
 . have ea:G7 (ns++[n])=G7 ns+nouts n:=by simp[G7]
   rw[ea,<- h4];simp only[List.length_append,T8];omega
 .
  rw[List.map_append];congr 1
  . rw[<- v2];refine List.map_congr_left ?_;intro p hp;exact bv7 (h3 p (by simp[hp]))
  .
   unfold l8;rw[List.map_map];apply List.ext_getElem?;intro j;rw[List.getElem?_map];by_cases hj:j<(nouts n).toNat
   . have hjl:j<(i8 n fs iv).length:=by omega
     rw[List.getElem?_range hj];simp only[Option.map_some,Function.comp];rw[ci5,hi,v1,gEl hjl];rfl
   . rw[List.getElem?_eq_none (by simpa using hj),List.getElem?_eq_none (by omega)];rfl
theorem bG2 {f:List UInt8} (h:isWord f=true):l7 (srcN f)=0:=by simp[l7,C6,srcN,h,M1,I5,ba0,noC]
theorem bv8 {f:List UInt8} (h:isWord f=true) {p:Int × Int}:l7 (ae2 f [p])=0:=by simp[l7,C6,ae2,h,M1,I5,ba0,noC]
theorem bk9 {w:Nat} (h:1<=w/\w<=5) {p:Int × Int}:l7 (splitN w [p])=0:=by
 have h1:¬((w:Int)<1\/5<(w:Int)):=by omega
 simp[l7,C6,splitN,h1,M1,I5,ba0,noC]
theorem bv9 {c:Cmd} (h:chk c=0) {p:Int × Int}:l7 (ab6 c p)=0:=by simp[l7,C6,ab6,h,M1,I5]
theorem bw0 {how:Int} {c:Cmd} (h:jchk how c=0) {ps:List (Int × Int)} (hp:1<=ps.length/\ps.length<=5):l7 (am9 how c ps)=0:=by simp[l7,C6,am9,h,M1,I5,hp]
def PV (fs:List SFile) (d:PD) (t:List (Int × Int)) (pss:List (List (List UInt8))):Prop:=
 PSt fs d.1 t d.2 (pss.map ended)/\(∀p∈pss,∀s∈p,(10:UInt8)∉s)/\d.2.length=pss.length
theorem aU3 {pss:List (List (List UInt8))} (h:∀p∈pss,∀s∈p,(10:UInt8)∉s):(pss.map ended).map lines=pss:=by
 rw[List.map_map];conv=>rhs;rw[<- List.map_id pss]
 exact List.map_congr_left (fun p hp=>J5 p (h p hp))
theorem PV.src {fs:List SFile}:∀(fr:List (List UInt8)) (d:PD) (t:List (Int × Int)) (pss:List (List (List UInt8))),PV fs d t pss->(∀f∈fr,isWord f=true)->PV fs (fr.foldl pSrc d) t (pss++fr.map (fun f=>lines (D8 fs f)))
 | [],d,t,pss,h,_=>by simpa using h
 | f::r,d,t,pss,h,hw=>by
  have h1:PV fs (pSrc d f) t (pss++[lines (D8 fs f)]):=by
   obtain⟨a,b,c⟩:=h
   have st:=PSt.step (ins:=[]) (iv:=[]) (R:=d.2) (rv:=pss.map ended) (by simpa using a) rfl (bG2 (hw f (by simp))) (by simp[srcN]) rfl
   refine⟨?_,?_,?_⟩
   . have e1:l8 d.1.length (nouts (srcN f)).toNat=[af5 d.1.length]:=Y3 _
     rw[e1] at st
     simpa[pSrc,i8,srcN] using st
   . intro p hp
     rcases List.mem_append.1 hp with hp | hp
     . exact b p hp
     . rw[List.mem_singleton.1 hp];exact G6 _
   . simp[pSrc,c]
  have:=PV.src r _ t _ h1 (fun x hx=>hw x (by simp[hx]))
  simpa using this
theorem PV.join {fs:List SFile} {d:PD} {t:List (Int × Int)} {pss:List (List (List UInt8))} (h:PV fs d t pss) {how:Int} {c:Cmd} (hj:jchk how c=0) (hl:1<=d.2.length/\d.2.length<=5) :
 PV fs (K4 how c d) (t++d.2) [joined how c pss]:=by
 obtain⟨a,b,e⟩:=h;have st:=PSt.step (ins:=d.2) (iv:=pss.map ended) (R:=[]) (rv:=[]) (by simpa using a) (by simpa using e) (bw0 hj hl) (by simp[am9]) rfl;have e1:l8 d.1.length (nouts (am9 how c d.2)).toNat=[af5 d.1.length]:=Y3 _;have e2:i8 (am9 how c d.2) fs (pss.map ended)=[ended (joined how c pss)]:=by have:=aU3 b;simp[i8,am9];rw[List.map_map] at this;rw[this]
 rw[e1,e2] at st;refine⟨by simpa[K4] using st,?_,rfl⟩;intro p hp;rw[List.mem_singleton.1 hp];refine ay5 how c ?_ pss b;intro h4;unfold jchk at hj;rw[if_neg (by omega),if_pos h4] at hj;exact hj
theorem PV.works {fs:List SFile} {c:Cmd} (hc:chk c=0):∀(op:List (Int × Int)) (iv:List (List (List UInt8))) (ns:List SNode) (D t:List (Int × Int)) (dv:List (List (List UInt8))),op.length=iv.length->PSt fs ns t (op++D) ((iv++dv).map ended)->(∀p∈iv,∀s∈p,(10:UInt8)∉s) ->
 PSt fs (op.foldl (an0 c) (ns,D)).1 (t++op) (op.foldl (an0 c) (ns,D)).2 ((dv++iv.map (made c)).map ended)
 | [],iv,ns,D,t,dv,hl,h,hf=>by
  have:iv=[]:=List.length_eq_zero_iff.1 hl.symm
  subst this
  simpa using h
 | p::r,iv,ns,D,t,dv,hl,h,hf=>by
  cases iv with
  | nil=>simp at hl
  | cons x iv=>
   have st:=PSt.step (ins:=[p]) (iv:=[ended x]) (R:=r++D) (rv:=(iv++dv).map ended) (by simpa using h) rfl (n:=ab6 c p) (bv9 hc) (by simp[ab6]) rfl
   have e1:l8 ns.length (nouts (ab6 c p)).toNat=[af5 ns.length]:=Y3 _
   have e2:i8 (ab6 c p) fs [ended x]=[ended (made c x)]:=by simp[i8,ab6,J5 x (hf x (by simp))]
   rw[e1,e2] at st
   have ih:=PV.works hc r iv (ns++[ab6 c p]) (D++[af5 ns.length]) (t++[p]) (dv++[made c x]) (by simpa using hl) (by simpa using st) (fun q hq=>hf q (by simp[hq]))
   simpa[an0] using ih
theorem be7 {c:Cmd} (h:U6 c.kind=true):∀pss:List (List (List UInt8)),(pss.map (made c)).flatten=made c pss.flatten
 | []=>by
  have:=ai5 c h [] []
  simp at this
  simp[this]
 | p::r=>by
  rw[List.map_cons,List.flatten_cons,be7 h r,List.flatten_cons,ai5 c h]
theorem bG3 {c:Cmd} (h:chk c=0) (ls:List (List UInt8)) (hl:ls.length<=4000):(made c ls).length<=4000:=by
 have:(made c ls).length<=max ls.length 1:=by
  unfold made;repeat' split
  all_goals (try simp)
  all_goals (first
   | exact Nat.le_trans (List.length_filter_le _ _) (by omega)
   | exact Nat.le_trans (ad5 _).length_le (by omega)
   | (rw[bF6];omega)
   | omega)
 omega
theorem bw1 {how:Int} (c c':Cmd) (h:how≠4) (ps:List (List (List UInt8))):joined how c ps=joined how c' ps:=by unfold joined;rw[if_neg h,if_neg h]
theorem PV.split {fs:List SFile} {d:PD} {t:List (Int × Int)} {L:List (List UInt8)} (h:PV fs d t [L]) {w:Nat} (hw:1<=w/\w<=5) :
 ∃pss,PV fs (d.1++[splitN w d.2],l8 d.1.length w) (t++d.2) pss/\pss.flatten=L/\pss.length=w:=by
 obtain⟨a,b,e⟩:=h;obtain⟨p,hp⟩:∃p,d.2=[p]:=List.length_eq_one_iff.1 (by simpa using e);have hL:=b L (by simp);have st:=PSt.step (ins:=[p]) (iv:=[ended L]) (R:=[]) (rv:=[]) (by rw[hp] at a;simpa using a) rfl (n:=splitN w [p]) (bk9 hw) (by simp[splitN]) rfl;have e1:nouts (splitN w [p])=(w:Int):=by simp[nouts,splitN]
 have e2:i8 (splitN w [p]) fs [ended L]=((List.range w).map (fun k=>(L.take ((k+1)*L.length / w)).drop (k*L.length / w))).map ended:=by simp[i8,splitN,partOf,J5 L hL]
 rw[e1,e2,Int.toNat_natCast] at st;have hnf:∀q∈(List.range w).map (fun k=>(L.take ((k+1)*L.length / w)).drop (k*L.length / w)),∀s∈q,(10:UInt8)∉s:=by intro q hq s hs;obtain⟨k,_,rfl⟩:=List.mem_map.1 hq;exact hL s (List.mem_of_mem_take (List.mem_of_mem_drop hs))
 refine⟨_,⟨by rw[hp];simpa using st,hnf,by simp[T8]⟩,?_,by simp⟩;have hw2:=ar9 (ended L) w hw.1;rw[J5 L hL] at hw2;have e3:ended (((List.range w).map (fun k=>(L.take ((k+1)*L.length / w)).drop (k*L.length / w))).flatten)=ended L:=by
  rw[<- hw2];unfold partOf;rw[J5 L hL];generalize List.range w=rs
  induction rs with
  | nil=>rfl
  | cons k r ih=>simp[I1,ih]
 have:=congrArg lines e3;rw[J5 L hL,J5] at this
 . exact this
 . intro s hs;obtain⟨q,hq,hsq⟩:=List.mem_flatten.1 hs;exact hnf q hq s hsq
def PBw (fs:List SFile) (w:Nat) (d:PD) (L:List (List UInt8)):Prop:=∃t pss,PV fs d t pss/\pss.flatten=L/\(d.2.length=1\/d.2.length=w)/\L.length<=4000
theorem bU8 {pss:List (List (List UInt8))} {p:List (List UInt8)} (h:p∈pss):p.length<=pss.flatten.length:=by obtain⟨a,b,rfl⟩:=List.append_of_mem h;simp;omega
theorem PBw.cmd {fs:List SFile} {w:Nat} (hw:1<=w/\w<=5) {d:PD} {L:List (List UInt8)} (h:PBw fs w d L) {c:Cmd} (hc:chk c=0):PBw fs w (pCmd w d c) (made c L):=by
 obtain⟨t,pss,hv,hL,hd,h4⟩:=h;have hsp:∃t' pss',PV fs (U4 w d) t' pss'/\pss'.flatten=L/\pss'.length=w:=by
  unfold U4;split
  . rename_i h1;have hp1:pss.length=1:=by rw[<- hv.2.2];exact h1.1
    obtain⟨x,rfl⟩:=List.length_eq_one_iff.1 hp1;obtain rfl:x=L:=by simpa using hL
    obtain⟨q,a,b,e⟩:=hv.split hw;exact⟨_,q,a,b,e⟩
  .
   rename_i h1;refine⟨t,pss,hv,hL,?_⟩;rw[<- hv.2.2];rcases hd with h | h
   . have:w=1:=by by_cases e:w=1;exact e;exact absurd ⟨h,e⟩ h1
     omega
   . exact h
 obtain⟨t',ps,hv',hL',hlen⟩:=hsp;unfold pCmd;generalize U4 w d=d1 at hv' ⊢;obtain⟨a,b,e⟩:=hv';have hwk:=PV.works hc d1.2 ps d1.1 [] t' [] e (by simpa using a) b;have hlw:=an2 c d1.2 (d1.1,[]);simp only[List.length_nil,Nat.zero_add,List.nil_append] at hwk hlw;have hv2:PV fs (O8 c d1) (t'++d1.2) (ps.map (made c)):=by refine⟨hwk,?_,by unfold O8;rw[hlw.2,e];simp⟩;intro p hp;obtain⟨x,hx,rfl⟩:=List.mem_map.1 hp;exact ad6 c hc x (b x hx)
 have hlen2:(O8 c d1).2.length=w:=by rw[hv2.2.2];simpa using hlen
 have hm4:=bG3 hc L h4;unfold aT7;split
 .
  rename_i h1;refine⟨_,_,hv2,?_,Or.inr hlen2,hm4⟩;rcases h1 with h1 | h1
  . rw[h1] at hlen;obtain⟨x,rfl⟩:=List.length_eq_one_iff.1 hlen;obtain rfl:x=L:=by simpa using hL'
    simp
  . rw[be7 h1,hL']
 .
  rename_i h1;have hcw:∀p∈ps,p.length<=4000:=fun p hp=>by have:=bU8 hp;rw[hL'] at this;omega
  have hjw:=bF7 c hc ps hcw;rw[hL'] at hjw;have hhow:1<=E1 c.kind/\E1 c.kind<=4:=by unfold E1;repeat' split;all_goals omega
  have hjc:jchk (E1 c.kind) (if E1 c.kind=4 then c else noC)=0:=by
   unfold jchk;rw[if_neg (by omega)];by_cases h4':E1 c.kind=4
   . rw[if_pos h4',if_pos h4'];exact hc
   . rw[if_neg h4',if_neg h4'];simp[noC]
  have hj:=hv2.join hjc (by omega);refine⟨_,_,hj,?_,Or.inl rfl,hm4⟩;rw[List.flatten_cons,List.flatten_nil,List.append_nil,<- hjw];by_cases h4':E1 c.kind=4
  . rw[if_pos h4']
  . rw[if_neg h4'];exact bw1 _ _ h4' _
theorem PBw.cmds {fs:List SFile} {w:Nat} (hw:1<=w/\w<=5):∀(cs:List Cmd) (d:PD) (L:List (List UInt8)),PBw fs w d L->(∀c∈cs,chk c=0)->PBw fs w (cs.foldl (pCmd w) d) (cs.foldl (fun L c=>made c L) L)
 | [],d,L,h,_=>h
 | c::r,d,L,h,hc=>PBw.cmds hw r _ _ (h.cmd hw (hc c (by simp))) (fun x hx=>hc x (by simp[hx]))
theorem PV.behind {fs:List SFile} {d:PD} {t:List (Int × Int)} {pss:List (List (List UInt8))} (h:PV fs d t pss) (hl:1<=d.2.length/\d.2.length<=5):∃t',PV fs (G9 d) t' [pss.flatten]:=by
 unfold G9;split
 . have hj:=h.join (how:=1) (c:=noC) (by simp[jchk,noC]) hl;exact⟨_,by simpa[joined] using hj⟩
 . rename_i h1;refine⟨t,?_⟩;have:pss.length=1:=by rw[<- h.2.2];omega
   obtain⟨x,rfl⟩:=List.length_eq_one_iff.1 this;simpa using h
theorem av3 {l:SLine} (h:lchk l=0):(1<=l.fr.length/\l.fr.length<=4/\l.cs.length<=6)/\(∀f∈l.fr,isWord f=true)/\isWord l.tu=true /\ ∀c∈l.cs,chk c=0:=by obtain⟨a,b,c,d,e,f⟩:=be1 h;exact⟨⟨a,b,c⟩,List.all_eq_true.1 d,e,f⟩
theorem bM0 {fs:List SFile} {l:SLine} {w:Nat} (hw:1<=w/\w<=5) (h:lchk l=0) (hg:(l5 fs l.fr).length<=4000):∃t,PV fs (G9 (N6 w l.fr l.cs)) t [l.cs.foldl (fun L c=>made c L) (l5 fs l.fr)]:=by obtain⟨h1,h2,h3,h4⟩:=av3 h;have s0:PV fs ([],[]) [] []:=⟨⟨fun rest _=>rfl,by simp,by simp,by simp[G7],rfl⟩,by simp,rfl⟩;have s1:=PV.src l.fr ([],[]) [] [] s0 h2;rw[List.nil_append] at s1;have s1':PV fs (E9 l.fr) [] (l.fr.map (fun f=>lines (D8 fs f))):=s1;have hl:=ac7 l.fr ([],[]);simp only[List.length_nil,Nat.zero_add] at hl;obtain⟨t2,s2⟩:=s1'.behind (by unfold E9;omega);have s3:PBw fs w (aT8 l.fr) (l5 fs l.fr):=⟨t2,_,s2,by simp[l5],Or.inl s2.2.2,hg⟩;obtain⟨t4,pss,s4,hf,hd,_⟩:=s3.cmds hw l.cs _ _ h4;obtain⟨t5,s5⟩:=s4.behind (by omega);rw[hf] at s5;exact⟨t5,s5⟩
theorem aU4 {fs:List SFile} {d:PD} {t:List (Int × Int)} {L:List (List UInt8)} (h:PV fs d t [L]) {tu:List UInt8} (ht:isWord tu=true) (h60:(az3 tu d).length<=60):gchk (az3 tu d)=0/\sunk (az3 tu d) fs=ended L:=by
 obtain⟨⟨a1,a2,a3,a4,a5⟩,b,e⟩:=h;obtain⟨p,hp⟩:∃p,d.2=[p]:=List.length_eq_one_iff.1 (by simpa using e);rw[hp] at a2 a3 a4 a5;have hgl:y8 [] (d.1++[ae2 tu [p]]) []=(0,t++[p]):=by rw[a1 _ (by simp),y8,if_neg (by simp[bv8 ht]),show (ae2 tu [p]).ins=[p] from rfl,aI3 d.1 [p] t (fun q hq=>a3 q (by simp at hq;simp[hq])) a2,if_neg (by simp),if_neg (by simp[ae2]),y8]
 constructor
 . unfold az3 at h60 ⊢;rw[hp] at h60 ⊢;unfold gchk;rw[if_neg (by omega),hgl,if_neg (by simp),if_neg];have ea:G7 (d.1++[ae2 tu [p]])=G7 d.1+0:=by simp[G7,nouts,ae2]
   rw[ea,<- a4];simp
 . unfold az3;rw[hp];have hs:sunk (d.1++[ae2 tu [p]]) fs=j3 (j5 fs [] (d.1++[ae2 tu [p]])) p:=by unfold sunk;rw[List.getLast?_append];rfl
   rw[hs,bv7 (a3 p (by simp))];simpa using a5
theorem aa1 {l:SLine} {w:Nat} (hw:1<=w/\w<=5) (h:lchk l=0):gchk (plan l w)=0:=by
 have e0:∀fr:List (List UInt8),l5 [] fr=[]:=by
  intro fr
  induction fr with
  | nil=>rfl
  | cons f r ih=>rw[show l5 [] (f::r)=lines (D8 [] f)++l5 [] r from rfl,ih];rfl
 obtain⟨t,hv⟩:=bM0 (fs:=[]) hw h (by rw[e0];simp);exact (aU4 hv (av3 h).2.2.1 (by have:=(aT9 hw h).1;unfold plan at this;omega)).1
theorem aF0 {l:SLine} {w:Nat} {fs:List SFile} (hw:1<=w/\w<=5) (h:lchk l=0) (hf:∀f∈fs,f.b.length<=4000):T0 (plan l w) fs:=by refine at0 (aa1 hw h) hf ?_;rw[ci4 hw h (by omega) (by omega)];have:=(av3 h).1.2.1;simp;omega
end Go.Gs
namespace Go.Proofs.YtllgglolcgdehaaGreatDoor
open Go.RowKit Go.Gs
set_option linter.unusedVariables false
theorem aI4:(Tryz.prog.info? 79).map (fun i=>(i.zero,i.size,i.bytes))=some (some (.agg #[.int .i64 0,.int .i64 0]),2,16):=by kernel_rfl
theorem bU9:(Tryz.prog.info? 73).map (fun i=>(i.zero,i.size,i.bytes))=some (some (.agg #[.int .i64 0,.string ⟨#[]⟩,.int .i64 0,.string ⟨#[]⟩,.int .i64 0,.int .i64 0,.int .i64 0,.slice none 0 0]),8,96):=by kernel_rfl
def A8 (ps:List (Int × Int)):List Value:=(ps.map fun p=>[.int .i64 p.1,.int .i64 p.2]).flatten
theorem az5 (ps:List (Int × Int)):(A8 ps).length=ps.length*2:=by
 induction ps with
 | nil=>rfl
 | cons p r ih=>
  have:A8 (p::r)=[.int .i64 p.1,.int .i64 p.2]++A8 r:=rfl
  rw[this,List.length_append,ih]
  simp;omega
theorem aI5:∀(ps:List (Int × Int)) (j:Nat) (p:Int × Int),ps[j]? = some p->(A8 ps)[j*2]? = some (.int .i64 p.1)/\(A8 ps)[j*2+1]? = some (.int .i64 p.2)
 | [],j,p,h=>by simp at h
 | d::l,0,p,h=>by simp at h;subst h;exact⟨rfl,rfl⟩
 | d::l,j+1,p,h=>by
  have ih:=aI5 l j p (by simpa using h)
  have e:A8 (d::l)=[.int .i64 d.1,.int .i64 d.2]++A8 l:=rfl
  rw[e]
  refine⟨?_,?_⟩
  . rw[List.getElem?_append_right (by simp;omega)];simpa[show (j+1)*2-2=j*2 by omega] using ih.1
  . rw[List.getElem?_append_right (by simp;omega)];simpa[show (j+1)*2+1-2=j*2+1 by omega] using ih.2
def aU5 (w:World) (B D:Nat) (X:Nat->Prop) (v vo:Value) (rows:List NRow) (r:NRow) (k:Nat) (e:Ending) (w':World):Prop:=
 ∃v' b,e=.returned (.slice (some ⟨b,0,none⟩) k k)/\w'.heap[D]? = some (.cells #[v',vo] 144 (0,0))/\NO w' B D X 73 v' (rows++[r])/\w.heap.size<=b/\v'.ownBlock≠some b /\
  w'.heap[b]? = some (.cells (A8 (l8 rows.length k)).toArray 79 (0,0))/\Kept D v.ownBlock noX w w'/\Nxt w v.ownBlock v'.ownBlock
theorem aY9 (m k:Nat):A8 (l8 m (k+1))=A8 (l8 m k)++[.int .i64 (m:Int),.int .i64 (k:Int)]:=by simp[A8,l8,List.range_succ]
theorem cr1 (cs:List Value) (j:Nat) (a b:Value) (h:j+1<cs.length):((cs.set j a).set (j+1) b).take (j+2)=cs.take j++[a,b]:=by
 apply List.ext_getElem?;intro i;rw[List.getElem?_take];by_cases h1:i<j
 . rw[if_pos (by omega),List.getElem?_set_ne (by omega),List.getElem?_set_ne (by omega),List.getElem?_append_left (by simp;omega),List.getElem?_take,if_pos h1]
 .
  by_cases h2:i=j
  . subst h2;rw[if_pos (by omega),List.getElem?_set_ne (by omega),List.getElem?_set_self (by omega),List.getElem?_append_right (by simp;omega)];simp[Nat.min_eq_left (by omega:i<=cs.length)]
  . by_cases h3:i=j+1
    . subst h3;rw[if_pos (by omega),List.getElem?_set_self (by simp;omega),List.getElem?_append_right (by simp;omega)];simp[Nat.min_eq_left (by omega:j<=cs.length)]
    . rw[if_neg (by omega),List.getElem?_eq_none];simp;omega
def PAt (w wr:World) (G N m k:Nat):Prop:=∃cs:List Value,wr.heap[G]? = some (.cells cs.toArray 79 (0,0))/\cs.length=N*2/\cs.take (k*2)=A8 (l8 m k)/\(∀j,j<N*2 -> ∃x,cs[j]? = some (.int .i64 x))/\Bq w wr
theorem PAt.start {w w3:World} {N m:Nat} (ho:w3.ownsRow w.heap.size 79 2 (.slice (some ⟨w.heap.size,0,none⟩) N N) N (madeCells (Value.agg #[.int .i64 0,.int .i64 0]).cells (N*2)).toList) (hg:w.grownBy w3 none):PAt w w3 w.heap.size N m 0/\w.heap.size<w3.heap.size:=by
 obtain⟨h1,h2 | ⟨g,cap,cur,h2,h3,h4,h5,h6,h7,h8⟩⟩:=ho
 . cases h2.1
 .
  injection h2 with e1 e2 e3;injection e1 with e1;injection e1 with e1;subst e1 e3;have hx:cur.toList=(madeCells (Value.agg #[.int .i64 0,.int .i64 0]).cells (N*2)).toList:=by rw[<- h8,List.take_of_length_le (by simp[h7])]
  have hlt:w.heap.size<w3.heap.size:=by
   rcases Nat.lt_or_ge w.heap.size w3.heap.size with h | h
   . exact h
   . rw[Array.getElem?_eq_none h] at h4;cases h4
  refine⟨⟨cur.toList,by rw[h4],by rw[hx,h1],by simp[A8,l8],fun j hj=>⟨0,?_⟩,bk6 hg (Nat.le_refl _)⟩,hlt⟩;rw[hx,Array.getElem?_toList];unfold madeCells;rw[Array.getElem?_map,Array.getElem?_range];have hm:j % 2=0\/j % 2=1:=by omega
  rcases hm with hm | hm <;> simp[hj,Value.cells,hm]
theorem PAt.cells {w wr:World} {G N m k:Nat} (h:PAt w wr G N m k) (hk:k<N):∃x y,wr.cell? ⟨G,k*2,none⟩=some (.int .i64 x)/\wr.cell? ⟨G,k*2+1,none⟩=some (.int .i64 y)/\wr.frozen? ⟨G,k*2,none⟩=false/\wr.frozen? ⟨G,k*2+1,none⟩=false:=by obtain⟨cs,h1,h2,h3,h4,h5⟩:=h;obtain⟨x,hx⟩:=h4 (k*2) (by omega);obtain⟨y,hy⟩:=h4 (k*2+1) (by omega);exact⟨x,y,by rw[cell_of_row _ _ _ _ _ _ h1];simpa using hx,by rw[cell_of_row _ _ _ _ _ _ h1];simpa using hy,frozen_of_row _ _ _ _ _ h1,frozen_of_row _ _ _ _ _ h1⟩
theorem PAt.step {w wr:World} {G N m k:Nat} (h:PAt w wr G N m k) (hk:k<N) (hG:w.heap.size<=G):PAt w ((wr.setCell ⟨G,k*2,none⟩ (.int .i64 (m:Int))).setCell ⟨G,k*2+1,none⟩ (.int .i64 (k:Int))) G N m (k+1):=by
 obtain⟨cs,h1,h2,h3,h4,h5⟩:=h;have e1:(wr.setCell ⟨G,k*2,none⟩ (.int .i64 (m:Int))).heap[G]? = some (.cells (cs.set (k*2) (.int .i64 (m:Int))).toArray 79 (0,0)):=by rw[heap_setCell_same _ _ _ _ _ _ h1];simp
 refine⟨(cs.set (k*2) (.int .i64 (m:Int))).set (k*2+1) (.int .i64 (k:Int)),by rw[heap_setCell_same _ _ _ _ _ _ e1];simp,by simp[h2],?_,fun j hj=>?_,(h5.setCell hG _).setCell hG _⟩
 . rw[show (k+1)*2=k*2+2 by omega,cr1 cs (k*2) _ _ (by omega),h3,aY9]
 .
  obtain⟨x,hx⟩:=h4 j hj;by_cases e:j=k*2+1
  . exact⟨_,by rw[e,List.getElem?_set_self (by simp;omega)]⟩
  . rw[List.getElem?_set_ne (by omega)];by_cases e':j=k*2
    . exact⟨_,by rw[e',List.getElem?_set_self (by omega)]⟩
    . exact⟨x,by rw[List.getElem?_set_ne (by omega)];exact hx⟩
theorem PAt.done {w wr:World} {G N m k:Nat} (h:PAt w wr G N m k) (hk:k=N):wr.heap[G]? = some (.cells (A8 (l8 m N)).toArray 79 (0,0)):=by subst hk;obtain⟨cs,h1,h2,h3,h4,h5⟩:=h;rw[List.take_of_length_le (by omega)] at h3;rw[h1,h3]
theorem bG4 (w:World) (cs:List Value) (t:TypeId):∀j u,cs[j]? = some u->(w.alloc (.cells cs.toArray t)).cell? ((⟨w.heap.size,0,none⟩:Addr).add j)=some u:=by
 intro j u hj;have e:((⟨w.heap.size,0,none⟩:Addr).add j)=⟨w.heap.size,j,none⟩:=by simp[Addr.add];try omega
 rw[e,cell_of_row _ _ _ _ _ _ (heap_alloc_new w _)];simpa using hj
theorem cr2 {w w2 wr W w':World} {B D:Nat} {X:Nat->Prop} {v vo v':Value} {rows:List NRow} {r:NRow} {k:Nat} (HD:w.heap[D]? = some (.cells #[v,vo] 144 (0,0))) (hN:NO w B D X 73 v rows) (hP:POff w D v.ownBlock X r.2.1 r.2.2 r.1.ins)
 (h2:w.heap.size<=w2.heap.size) (hw2:w2.heap.size<wr.heap.size) (hbr:Bq w wr) (hbW:Bq wr W) (hp:wr.heap[w2.heap.size]? = some (.cells (A8 (l8 rows.length k)).toArray 79 (0,0)))
 (Ab:w'.ownsRow B 73 8 v' (rows.length+1) (C7 rows++encN r)) (hg:W.grownBy w' v.ownBlock) (hl:v'.ownBlock=v.ownBlock\/v'.ownBlock=some W.heap.size) :
 aU5 w B D X v vo rows r k (.returned (.slice (some ⟨w2.heap.size,0,none⟩) k k)) (w'.setCell ⟨D,0,none⟩ v'):=by
 have hbw:Bq w W:=hbr.trans (hbW.mono hbr.size);have hDl:D<w.heap.size:=by
  rcases Nat.lt_or_ge D w.heap.size with h | h
  . exact h
  . rw[Array.getElem?_eq_none h] at HD;cases HD
 have hNW:=hN.below hbw;have hPW:POff W D v.ownBlock X r.2.1 r.2.2 r.1.ins:=hP.keep (Kept.of_below hbw) (Nxt.refl _ _) (NxtX.refl _ _);obtain⟨q1,q2,q3⟩:=hNW.app hPW (Nat.lt_of_lt_of_le hDl hbw.size) Ab hg hl;have hWs:=hbW.size;have hDW:w'.heap[D]? = some (.cells #[v,vo] 144 (0,0)):=by rw[hg.block D (by have:=hbw.size;omega) (fun e=>hN.off e.symm),hbw.block D hDl];exact HD
 have hne:v'.ownBlock≠some w2.heap.size:=by
  rcases hl with e | e
  . rw[e];intro e2;have:=(hN.base _ e2).2;omega
  . rw[e];intro e2;injection e2 with e2;omega
 refine⟨v',_,rfl,?_,q1.set rfl,h2,hne,?_,?_,?_⟩
 . rw[heap_setCell_same _ _ _ _ _ _ hDW];simp
 . rw[Below.heap_setCell _ _ _ _ (by simp;omega),hg.block _ (by omega) (fun e=>by have:=(hN.base _ e.symm).2;omega),hbW.block _ hw2];exact hp
 . refine Kept.set ?_ rfl;exact (Kept.of_below hbw).trans q2 (Nxt.refl _ _) (NxtX.refl _ _)
 . rcases q3 with e | ⟨g,e,hg'⟩
   . exact .inl e
   . exact .inr ⟨g,e,by have:=hbw.size;omega⟩
theorem aU6 (n:SNode) (ai:Option Addr) (ci D B:Nat) (X:Nat->Prop) (v vo:Value) (rows:List NRow) (w:World) (k:Nat) (hk:nouts n=(k:Int)) (h5:k<=5)
 (hD:w.heap[D]? = some (.cells #[v,vo] 144 (0,0))) (hN:NO w B D X 73 v rows) (hP:POff w D v.ownBlock X ai ci n.ins) (hl:rows.length<=60) (hB:B<=D) (hBw:B<=w.heap.size) :
 Calls Tryz.prog 90 #[.pointer (some ⟨D,0,none⟩),D2 n ai n.ins.length ci] w fun e w'=>aU5 w B D X v vo rows (n,ai,ci) k e w':=by
 have HO:Hid _:=fun (W:World)=>aE5 n ai n.ins.length ci W;have HNO:=qH hN;have HPO:=qH hP;have HD:=qH hD;obtain⟨av,cv,rfl,hv1,hv2⟩:=hN.form;have Ve:w.cell? ⟨D,0,none⟩=some (.slice av rows.length cv):=by rw[cell_of_row _ _ _ _ _ _ hD];rfl
 have hDl:D<w.heap.size:=bLt w _ Ve;have HC0:Hid _:=Ve;obtain⟨i1,hi',hy0,hy1,hy2⟩:=info_parts aI4;have hb4:i1.bytes*k<=281474976710656:=by rw[hy2];omega
 have hb5:k<=maxLen:=by unfold maxLen;omega
 rw[hk] at HO;unfold D2 at HO ⊢;have HER:Hid (encN (n,ai,ci)=[.int .i64 n.kind,.string ⟨n.file.toArray⟩,.int .i64 n.c.kind,.string ⟨n.c.word.toArray⟩,.int .i64 n.c.n,.int .i64 n.how,.int .i64 n.wide,.slice ai n.ins.length ci]):=(show _=_ from rfl);obtain⟨r,hr⟩:=qE ((n,ai,ci):NRow);rw[<- hr] at HER ⊢;have Zd:Hid (POff w D (Value.slice av rows.length cv).ownBlock X r.2.1 r.2.2 r.1.ins):=by rw[hr];exact HPO
 clear hP HPO hr hk hN hD Ve;generalize n.kind=nk at *;generalize (⟨n.file.toArray⟩:ByteArray)=fx at *;generalize n.c.kind=ck at *;generalize (⟨n.c.word.toArray⟩:ByteArray)=wx at *;generalize n.c.n=cn at *;generalize n.how=hw at *;generalize n.wide=wd at *;generalize n.ins.length=ni at *;obtain⟨NR,hNR⟩:=qE rows.length;have HNR:=qH hNR;rw[<- hNR] at hl hv1 HC0 HD HNO Zd ⊢;clear hNR;go_enter Tryz.func90,Tryz.ntmps90;go_wp2_with fail;refine Calls.mono (HO.out _) ?_;rintro e w2 ⟨rfl,hb2⟩;have hbx:Bq w w2:=b9.trans (hb2.mono (by simp));have HB2:=qH hbx;have HN8:Hid (w2.heap[w.heap.size]? = some (.cells #[.int .i64 nk,.string fx,.int .i64 ck,.string wx,.int .i64 cn,.int .i64 hw,.int .i64 wd,.slice ai ni ci] 73 (0,0))):=(show _=_ by rw[hb2.block _ (by simp)];exact heap_alloc_new w _);have hs2:w.heap.size<w2.heap.size:=by have:=hb2.size;simp at this;omega
 clear hb2 HO hbx;go_wp2_with (at_make;refine wpList_make_full _ rfl (.tmp 8) (.tmp 8) 71 rfl w2.heap.size 79 i1 (.agg #[.int .i64 0,.int .i64 0]) 2 Tryz.underlying71 hi' hy0 hy1 .i64 .i64 _ _ k rfl rfl rfl rfl hb4 hb5 (Nat.le_refl _) ?_)
 intro w3 Cj Ba;obtain⟨hp3,hs3⟩:=PAt.start (m:=NR) Cj Ba;have HP3:=qH hp3;clear Cj Ba hp3;go_wp2_with fail;go_loopw [12] (fun i wr=>∃j:Nat,j<=k/\i=.int .i64 j/\Hid (PAt w2 wr w2.heap.size k NR j)) (fun i _=>k-(intOf i).toNat)
 case atStart=>exact⟨0,Nat.zero_le _,rfl,HP3.out⟩
 case round=>
  obtain⟨j,hjk,rfl,hrel⟩:=hrel;have HBr:Hid (Bq w2 wr):=by obtain⟨cs,_,_,_,_,h5⟩:=hrel.out;exact h5
  have HBw:Hid (Bq w wr):=HB2.out.trans (HBr.out.mono HB2.out.size);have hc0:=(HBw.out.cell (bLt w _ HC0.out)).trans HC0.out;by_cases hlt:j<k
  . obtain⟨x,y,q1,q2,q3,q4⟩:=hrel.out.cells hlt;have HST:Hid _:=hrel.out.step hlt (Nat.le_refl _);clear hrel;go_wp2_with fail;exact⟨⟨j+1,by omega,by go_num,HST.out⟩,by simp[intOf];omega⟩
  .
   have hjk':j=k:=by omega
   have HPD:Hid (wr.heap[w2.heap.size]? = some (.cells (A8 (l8 NR k)).toArray 79 (0,0))):=hrel.out.done hjk';have hw2r:w2.heap.size<wr.heap.size:=by
    have:=HPD.out;rcases Nat.lt_or_ge w2.heap.size wr.heap.size with h | h
    . exact h
    . rw[Array.getElem?_eq_none h] at this;cases this
   have hn8:wr.heap[w.heap.size]? = some (.cells #[.int .i64 nk,.string fx,.int .i64 ck,.string wx,.int .i64 cn,.int .i64 hw,.int .i64 wd,.slice ai ni ci] 73 (0,0)):=(HBr.out.block _ hs2).trans HN8.out;have n8:∀i:Nat,wr.cell? ⟨w.heap.size,i,none⟩=#[.int .i64 nk,.string fx,.int .i64 ck,.string wx,.int .i64 cn,.int .i64 hw,.int .i64 wd,.slice ai ni ci][i]?:=fun i=>cell_of_row _ _ _ _ _ _ hn8;have c0:=n8 0;have c1:=n8 1;have c2:=n8 2;have c3:=n8 3;have c4:=n8 4;have c5:=n8 5;have c6:=n8 6;have c7:=n8 7;simp at c0 c1 c2 c3 c4 c5 c6 c7;have hc0q:∀q,(wr.alloc q).cell? ⟨D,0,none⟩=some (.slice av NR cv):=fun q=>(b9.cell (bLt wr _ hc0)).trans hc0;obtain⟨i2,hj',hz0,hz1,hz2⟩:=info_parts bU9;have HOW:Hid _:=fun (W:World) (hb:Bq wr W)=>(HNO.out.below (HBw.out.trans (hb.mono HBw.out.size))).own;rw[<- HNR.out] at HOW
   have hfD:∀w':World,w'.heap[D]? = some (.cells #[.slice av NR cv,vo] 144 (0,0))->w'.cell? ⟨D,0,none⟩=some (.slice av NR cv)/\w'.frozen? ⟨D,0,none⟩=false:=fun w' h=>⟨by rw[cell_of_row _ _ _ _ _ _ h];rfl,frozen_of_row _ _ _ _ _ h⟩;clear hrel n8 hn8;go_upto_region 7 with fail
   have HDW:Hid _:=fun (W w':World) (hb:Bq wr W) (hg:W.grownBy w' (Value.slice av NR cv).ownBlock)=>hfD w' (by
    have hbw:=HBw.out.trans (hb.mono HBw.out.size)
    rw[hg.block D (by have:=hbw.size;omega) (fun e=>HNO.out.off e.symm),hbw.block D hDl];exact HD.out)
   clear hfD;go_region_law (refine an5 rfl (.tmp 30) (.tmp 32) 22 rfl B 73 i2 _ 8 96 Tryz.underlying22 hj' hz0 hz1 hz2 rfl (by omega) (.slice av NR cv) NR (C7 rows) (by simp[Act.eval]) (HOW.out _ (by first | exact b9 | exact b9.drew)) ⟨wr.heap.size,0,none⟩ 1 1 (encN r) (by simp[Act.eval]) (by rw[HER.out];rfl) (by rw[HER.out];exact bG4 _ _ _) (bq7 r) (by unfold maxLen;omega) (by omega) (by have:=HBw.out.size;simp;omega) ?_;intro v4 w4 ow4 gr4 nn4 bl4;obtain⟨d0,f0⟩:=HDW.out _ _ (by first | exact b9 | exact b9.drew) gr4;obtain⟨a4,c4,rfl,_,_⟩:=ap7 ow4)
   all_goals
    have HF:Hid (aU5 w B D X (.slice av NR cv) vo rows r k (.returned (.slice (some ⟨w2.heap.size,0,none⟩) k k)) (w4.setCell ⟨D,0,none⟩ (.slice a4 (NR+1) c4))):=
     cr2 HD.out HNO.out Zd.out (by omega) hw2r HBw.out (by first | exact b9 | exact b9.drew) (by rw[<- HNR.out];exact HPD.out) (by rw[<- HNR.out];exact ow4) gr4 bl4
    clear ow4 gr4 nn4 bl4 d0 f0 HDW HOW
    go_wp2_with fail
    go_ret
    exact HF.out
end Go.Proofs.YtllgglolcgdehaaGreatDoor
