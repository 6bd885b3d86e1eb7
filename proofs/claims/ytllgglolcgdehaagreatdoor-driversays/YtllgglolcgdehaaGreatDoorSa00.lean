/- Plain facts on bytes and lines, and on slices that can be read, and more. -/
import Derived.Test.YtllgglolcgdehaaGreatDoorSAb
import Derived.WalkKit
import Derived.Lib.Split
import Derived.Lib.SplitLaws
import Derived.Lib.ItoaNum
import Derived.Lib.AtoiAllCases
import Derived.Lib.Join
import Derived.Lib.IndexMore
import Derived.Lib.SlicesCompact
import Derived.Laws.AppendOwn
import Derived.Laws.OwnMore
import Derived.Laws.CopyRow
import Derived.Deep.Slices
set_option linter.all false
namespace Go.Gs
open Go.RowKit
def U(c:UInt8):Value:=.int .u8 (c.toNat:Int)
def S(l:List UInt8):Value:=.string ⟨l.toArray⟩
def l7(cur:List UInt8):List UInt8->List (List UInt8)
 | []=>if cur=[] then [] else [cur]
 | c::r=>if c=10 then cur::l7 [] r else l7 (cur++[c]) r
def lines(b:List UInt8):List (List UInt8):=l7 [] b
def ended(l:List (List UInt8)):List UInt8:=(l.map (fun s=>s++[10])).flatten
theorem C7(s:List UInt8)(l:List (List UInt8)):ended (s::l)=s++[10]++ended l:=by simp[ended]
theorem G6(a b:List (List UInt8)):ended (a++b)=ended a++ended b:=by simp[ended]
theorem aI9(r:List UInt8):∀cur,(l7 cur r).length<=r.length+(if cur=[] then 0 else 1):=by
 induction r with
 | nil=>intro cur;unfold l7;split <;> simp_all
 | cons c r ih=>
  intro cur
  unfold l7
  split
  . have:=ih []
    simp only[qY,if_true]at *
    split <;> omega
  . have:=ih (cur++[c])
    simp only[qY,List.append_eq_nil_iff,List.cons_ne_nil,and_false,if_false]at *
    split <;> omega
theorem D9(b:List UInt8):(lines b).length<=b.length:=by have:=aI9 b [];simpa[lines]using this
theorem aJ0(r:List UInt8):∀cur,(10∉cur)->∀s∈l7 cur r,(10:UInt8)∉s:=by
 induction r with
 | nil=>intro cur h s hs;unfold l7 at hs;split at hs <;> simp_all
 | cons c r ih=>
  intro cur h s hs
  unfold l7 at hs
  split at hs
  . simp only[xP]at hs
    rcases hs with rfl | hs
    . exact h
    . exact ih [] (by simp) s hs
  . exact ih (cur++[c]) (by simp_all [eq_comm]) s hs
theorem E6(b:List UInt8):∀s∈lines b,(10:UInt8)∉s:=aJ0 b [] (by simp)
theorem ar9(s:List UInt8):∀(cur r:List UInt8),(10:UInt8)∉s->l7 cur (s++10::r)=(cur++s)::l7 [] r:=by
 induction s with
 | nil=>intro cur r _;simp[l7]
 | cons c s ih=>
  intro cur r h
  simp only[xP,not_or]at h
  rw[zG,l7,qA (fun e=>h.1 e.symm),ih _ _ h.2]
  simp
theorem I1(l:List (List UInt8))(h:∀s∈l,(10:UInt8)∉s):lines (ended l)=l:=by
 induction l with
 | nil=>simp[ended,lines,l7]
 | cons s l ih=>
  have hs:=h s (by simp)
  have:=ih (fun t ht=>h t (by simp[ht]))
  rw[C7,qp]
  show l7 [] (s++10::ended l)=_
  rw[ar9 s [] _ hs]
  simpa[lines]using this
theorem bx4(l:List (List UInt8))(h:ended l≠[]):(ended l).getLast h=10:=by
 induction l with
 | nil=>exact absurd rfl h
 | cons s l ih=>
  simp only[C7]at h ⊢
  by_cases e:ended l=[]
  . simp[e]
  . rw[List.getLast_append_of_ne_nil _ e];exact ih e
theorem aK5(r:List UInt8):∀cur,(ended (l7 cur r)).length<=cur.length+r.length+1:=by
 induction r with
 | nil=>intro cur;unfold l7;split <;> simp_all [ended]
 | cons c r ih=>
  intro cur
  unfold l7
  split
  . have:=ih []
    simp only[C7,qG,qY,qy]at *
    omega
  . have:=ih (cur++[c])
    simp only[qG,qY,qy]at *
    omega
theorem C0(b:List UInt8):(ended (lines b)).length<=b.length+1:=by have:=aK5 b [];simpa[lines]using this
theorem ag8(l:List (List UInt8))(i j:Nat):(ended ((l.take j).drop i)).length<=(ended l).length:=by
 have h1:(ended (l.take j)).length<=(ended l).length:=by
  conv=>rhs;rw[<- qk j l,G6]
  simp
 have h2:(ended ((l.take j).drop i)).length<=(ended (l.take j)).length:=by
  conv=>rhs;rw[<- qk i (l.take j),G6]
  simp
 omega
theorem T8(l:List (List UInt8)):l.length<=(ended l).length:=by
 induction l with
 | nil=>simp
 | cons s l ih=>rw[C7];simp;omega
def bad:Nat->List (List UInt8)->Int
 | _,[]=>0
 | room,s::r=>if (10:UInt8)∈s then 4 else if room<=s.length then 2 else bad (room-(s.length+1)) r
theorem cp2(l:List (List UInt8)):∀room,bad room l=0->(ended l).length<=room/\∀s∈l,(10:UInt8)∉s:=by
 induction l with
 | nil=>intro room _;simp[ended]
 | cons s l ih=>
  intro room h
  unfold bad at h
  split at h
  . cases h
  .
   split at h
   . cases h
   .
    have:=ih _ h
    rw[C7]
    simp only[qG,qY,qy,xP]at *
    refine⟨by omega,?_⟩
    rintro t (rfl | ht)
    . assumption
    . exact this.2 t ht
theorem _root_.gSm{α:Type _}{l:List α}{i:Nat}{a:α}(h:l[i]? = some a):∃h:i<l.length,l[i]=a:=List.getElem?_eq_some_iff.1 h
theorem _root_.bLt(w:World)(a:Addr){v:Value}(h:w.cell? a=some v):a.block<w.heap.size:=World.block_lt_of_cell? w a h
theorem _root_.gEl{α:Type _}{l:List α}{i:Nat}(h:i<l.length):l[i]? = some l[i]:=List.getElem?_eq_getElem h
theorem _root_.mGt{α:Type _}{l:List α}{i:Nat}{a:α}(h:l[i]? = some a):a∈l:=zg h
theorem _root_.aSm{α:Type _}{l:Array α}{i:Nat}{a:α}(h:l[i]? = some a):∃h:i<l.size,l[i]=a:=Array.getElem?_eq_some_iff.1 h
def Reads(w:World)(v:Value)(n:Nat)(xs:List Value):Prop:=
 xs.length=n/\∃ao cap,v=.slice ao n cap/\n<=cap/\cap<=maxLen /\
  (n≠0->∃b off,ao=some ⟨b,off,none⟩/\∀j u,xs[j]? = some u->w.cell? ⟨b,off+j,none⟩=some u)
theorem Reads.of_owns{w:World}{base:Nat}{e:TypeId}{v:Value}{n:Nat}{xs:List Value}(h:w.ownsRow base e 1 v n xs):Reads w v n xs:=by
 have hl:xs.length=n:=by simpa using h.1
 refine⟨hl,?_⟩;rcases h.2 with⟨rfl,rfl⟩|⟨g,cap,cur,rfl,hb,hg,h1,h2,h3,h4⟩
 . exact⟨none,0,rfl,qB _,by simp,fun h=>absurd rfl h⟩
 . refine⟨_,cap,rfl,h1,h2,fun _=>⟨g,0,rfl,fun j u hu=>?_⟩⟩;have:=h.cells (g:=g) rfl j u hu;have Dp:(⟨g,0,none⟩:Addr).add j=⟨g,0+j,none⟩:=by unfold Addr.add;split <;> simp_all
   rwa [Dp]at this
theorem Reads.below{w w':World}{v:Value}{n:Nat}{xs:List Value}(h:Reads w v n xs)(hb:Bq w w'):Reads w' v n xs:=by obtain⟨h1,ao,cap,rfl,h2,h3,h4⟩:=h;refine⟨h1,ao,cap,rfl,h2,h3,fun hn=>?_⟩;obtain⟨b,off,rfl,hc⟩:=h4 hn;exact⟨b,off,rfl,fun j u hu=>(hb.cell (World.block_lt_of_cell? w _ (hc j u hu))).trans (hc j u hu)⟩
theorem Reads.setCell{w:World}{v:Value}{n:Nat}{xs:List Value}(h:Reads w v n xs){a:Addr}{old:Value}(ha:w.cell? a=some old)(x:Value)(hne:old∉xs):Reads (w.setCell a x) v n xs:=by
 obtain⟨h1,ao,cap,rfl,h2,h3,h4⟩:=h;refine⟨h1,ao,cap,rfl,h2,h3,fun hn=>?_⟩;obtain⟨b,off,rfl,hc⟩:=h4 hn;refine⟨b,off,rfl,fun j u hu=>?_⟩;have hcu:=hc j u hu;have hd:a≠⟨b,off+j,none⟩:=by
  rintro rfl;rw[hcu]at ha
  cases ha;exact hne (zg hu)
 rw[<- hcu];exact zI _ _ _ _ hd
structure Cmd where
 kind:Int
 word:List UInt8
 n:Int
def Cmd.v(c:Cmd):Value:=.agg #[.int .i64 c.kind,.string ⟨c.word.toArray⟩,.int .i64 c.n]
def F9(c:UInt8):Bool:=(97<=c.toNat && c.toNat<=122) || (48<=c.toNat && c.toNat<=57)
def isWord(s:List UInt8):Bool:=decide (0<s.length) && decide (s.length<=12) && s.all F9
def uses(k:Int):Nat:=if 1<=k/\k<=3 then 1 else if k=4\/k=9\/k=10 then 2 else if 5<=k/\k<=8 then 3 else 0
def chk(c:Cmd):Int:=
 if uses c.kind=0 then 4
 else if (uses c.kind≠1/\c.word≠[])\/(uses c.kind≠2/\c.n≠0) then 4
 else if uses c.kind=2/\(c.n<1\/1000<c.n) then 3
 else if uses c.kind=1/\(isWord c.word=false\/(c.kind=3/\c.word.length≠2)) then 1
 else 0
def N9(k:Int):Bool:=decide (1<=k/\k<=5)
structure SLine where
 fr:List (List UInt8)
 cs:List Cmd
 tu:List UInt8
def G8:List Int->Int
 | []=>0
 | e::r=>if e=0 then G8 r else e
def lchk(l:SLine):Int:=
 if l.fr.length<1\/4<l.fr.length\/6<l.cs.length then 2
 else if l.fr.all isWord=false then 1
 else if isWord l.tu=false then 1
 else G8 (l.cs.map chk)
def schk(ls:List SLine):Int:=if 6<ls.length then 2 else G8 (ls.map lchk)
def J8(a b:UInt8)(s:List UInt8):List UInt8:=s.map fun x=>if x=a then b else x
def E4(n:Int)(s:List UInt8):List UInt8:=((Lib.split s [32])[(n-1).toNat]?).getD []
def I8(ls:List (List UInt8)):List (List UInt8):=ls.mergeSort fun x y=>decide (x<=y)
def made(c:Cmd)(ls:List (List UInt8)):List (List UInt8):=
 if c.kind=1 then ls.filter (fun s=>Lib.contains s c.word)
 else if c.kind=2 then ls.filter (fun s=>!Lib.contains s c.word)
 else if c.kind=3 then ls.map (J8 (c.word.getD 0 0) (c.word.getD 1 0))
 else if c.kind=4 then ls.map (E4 c.n)
 else if c.kind=5 then ls.map List.reverse
 else if c.kind=6 then I8 ls
 else if c.kind=7 then Lib.compact ls
 else if c.kind=8 then [Lib.itoa (ls.length:Int)]
 else if c.kind=9 then ls.take c.n.toNat
 else ls.drop (ls.length-c.n.toNat)
def U4(c:Cmd)(b:List UInt8):List UInt8:=ended (made c (lines b))
theorem made1(c:Cmd)(h:c.kind=1)(ls:List (List UInt8)):made c ls=ls.filter (fun s=>Lib.contains s c.word):=by simp[made,h]
theorem made2(c:Cmd)(h:c.kind=2)(ls:List (List UInt8)):made c ls=ls.filter (fun s=>!Lib.contains s c.word):=by simp[made,h]
theorem made3(c:Cmd)(h:c.kind=3)(ls:List (List UInt8)):made c ls=ls.map (J8 (c.word.getD 0 0) (c.word.getD 1 0)):=by simp[made,h]
theorem aV8(c:Cmd)(h:c.kind=4)(ls:List (List UInt8)):made c ls=ls.map (E4 c.n):=by simp[made,h]
theorem aV9(c:Cmd)(h:c.kind=5)(ls:List (List UInt8)):made c ls=ls.map List.reverse:=by simp[made,h]
theorem aE7(c:Cmd)(h:c.kind=6)(ls:List (List UInt8)):made c ls=I8 ls:=by simp[made,h]
theorem aK6(c:Cmd)(h:c.kind=7)(ls:List (List UInt8)):made c ls=Lib.compact ls:=by simp[made,h]
theorem aE8(c:Cmd)(h:c.kind=8)(ls:List (List UInt8)):made c ls=[Lib.itoa (ls.length:Int)]:=by simp[made,h]
theorem ax1(c:Cmd)(h:c.kind=9)(ls:List (List UInt8)):made c ls=ls.take c.n.toNat:=by simp[made,h]
theorem av2(c:Cmd)(h:c.kind=10)(ls:List (List UInt8)):made c ls=ls.drop (ls.length-c.n.toNat):=by simp[made,h]
theorem X6(c:Cmd)(h:chk c=0):1<=c.kind/\c.kind<=10:=by
 unfold chk at h;split at h
 . cases h
 .
  rename_i hu;unfold uses at hu;split at hu
  . omega
  . split at hu
    . omega
    . split at hu
      . omega
      . exact absurd rfl hu
theorem ad9(c:Cmd)(h:N9 c.kind=true)(xs ys:List (List UInt8)):made c (xs++ys)=made c xs++made c ys:=by
 have hk:c.kind=1\/c.kind=2\/c.kind=3\/c.kind=4\/c.kind=5:=by have:=qc h;omega
 rcases hk with hk | hk | hk | hk | hk <;> simp[made,hk]
theorem av3(l:List (List UInt8))(b:List UInt8)(h:∀s∈l,(10:UInt8)∉s):lines (ended l++b)=l++lines b:=by
 induction l with
 | nil=>simp[ended]
 | cons s l ih=>
  have hs:=h s (by simp)
  have:=ih (fun t ht=>h t (by simp[ht]))
  rw[C7,qp,qp]
  show l7 [] (s++10::(ended l++b))=_
  rw[ar9 s [] _ hs]
  simp only[xn,zG,List.cons.injEq,true_and]
  simpa[lines]using this
theorem bK4(x y:List UInt8):(decide (x<=y) || decide (y<=x))=true:=by simp only[Bool.or_eq_true,xx];exact List.le_total x y
theorem bK5(x y z:List UInt8)(h1:decide (x<=y)=true)(h2:decide (y<=z)=true):decide (x<=z)=true:=
 qd (List.le_trans (qc h1) (qc h2))
theorem F7(l:List (List UInt8)):(I8 l).Perm l:=List.mergeSort_perm _ _
theorem S3(l:List (List UInt8)):(I8 l).Pairwise (fun x y=>x<=y):=by have:=List.pairwise_mergeSort (le:=fun x y:List UInt8=>decide (x<=y)) bK5 bK4 l;exact this.imp (fun h=>qc h)
theorem af6:∀(l m:List (List UInt8)),l.Perm m->l.Pairwise (fun x y=>x<=y)->m.Pairwise (fun x y=>x<=y)->l=m:=by intro l m hp hl hm;exact hp.eq_of_pairwise (fun a b _ _ h1 h2=>List.le_antisymm h1 h2) hl hm
theorem bd3{l m:List (List UInt8)}(h:l.Perm m):I8 l=I8 m:=
 af6 _ _ (((F7 l).trans h).trans (F7 m).symm) (S3 l) (S3 m)
structure SFile where
 name:List UInt8
 b:List UInt8
def fbad(p:Option (List UInt8))(f:SFile):Int:=
 if isWord f.name=false then 1
 else if 4000<f.b.length then 2
 else match p with
  | none=>0
  | some q=>if q<f.name then 0 else 6
def j8:Option (List UInt8)->List SFile->Int
 | _,[]=>0
 | p,f::r=>if fbad p f=0 then j8 (some f.name) r else fbad p f
def fchk(l:List SFile):Int:=if 12<l.length then 2 else j8 none l
def q8(l:List SFile)(n:List UInt8):List UInt8:=((l.find? (fun f=>f.name==n)).map SFile.b).getD []
def putF:List SFile->List UInt8->List UInt8->List SFile
 | [],n,b=>[⟨n,b⟩]
 | f::r,n,b=>if f.name=n then ⟨n,b⟩::r else if n<f.name then ⟨n,b⟩::f::r else f::putF r n b
def putS(l:List SFile)(n b:List UInt8):List SFile × Int:=
 if isWord n=false then ([],1)
 else if 4000<b.length then ([],2)
 else if 12<(putF l n b).length then ([],2)
 else (putF l n b,0)
def M7(l:List SFile):List (List UInt8)->List UInt8->List UInt8 × Int
 | [],acc=>(acc,0)
 | s::r,acc=>if 4000<(acc++ended (lines (q8 l s))).length then ([],2) else M7 l r (acc++ended (lines (q8 l s)))
def gather(l:List SFile)(fr:List (List UInt8)):List UInt8 × Int:=if 4<fr.length then ([],2) else M7 l fr []
def M8(cs:List Cmd)(b:List UInt8):List UInt8:=cs.foldl (fun b c=>ended (made c (lines b))) b
def m9(l:List SFile)(x:SLine):List UInt8 × Int:=if (gather l x.fr).2=0 then (M8 x.cs (gather l x.fr).1,0) else ([],(gather l x.fr).2)
def runL:List SFile->List SLine->List SFile × Int
 | l,[]=>(l,0)
 | l,x::r=>if (m9 l x).2=0 then (if (putS l x.tu (m9 l x).1).2=0 then runL (putS l x.tu (m9 l x).1).1 r else ([],(putS l x.tu (m9 l x).1).2)) else ([],(m9 l x).2)
def runS(l:List SFile)(s:List SLine):List SFile × Int:=if fchk l=0 then (if schk s=0 then runL l s else ([],schk s)) else ([],fchk l)
theorem A1{l m:List (List UInt8)}(h:l.Sublist m):(ended l).length<=(ended m).length:=by
 induction h with
 | slnil=>exact qB _
 | cons a _ ih=>rw[C7];simp;omega
 | cons_cons a _ ih=>rw[C7,C7];simp;omega
theorem V5{l m:List (List UInt8)}(h:l.Perm m):(ended l).length=(ended m).length:=by
 induction h with
 | nil=>rfl
 | cons a _ ih=>rw[C7,C7];simp;omega
 | swap a b l=>simp only[C7,qG];omega
 | trans _ _ h1 h2=>exact h1.trans h2
theorem G7(f:List UInt8->List UInt8)(hf:∀s,(f s).length<=s.length)(l:List (List UInt8)):(ended (l.map f)).length<=(ended l).length:=by
 induction l with
 | nil=>exact qB _
 | cons s l ih=>
  have:=hf s
  rw[qs,C7,C7]
  simp
  omega
theorem bx5(sep:List UInt8):∀(k:Nat)(s:List UInt8),∀p∈Lib.splitK sep 0 k s,p.length<=s.length:=by
 intro k
 induction k with
 | zero=>intro s p hp;simp[Lib.splitK]at hp;subst hp;exact qB _
 | succ k ih=>
  intro s p hp
  unfold Lib.splitK at hp
  split at hp
  . simp at hp;subst hp;exact qB _
  .
   simp only[xP]at hp
   rcases hp with rfl | hp
   . simp;omega
   . have:=ih _ p hp
     simp at this
     omega
theorem am3(n:Int)(s:List UInt8):(E4 n s).length<=s.length:=by
 unfold E4
 cases h:(Lib.split s [32])[(n-1).toNat]? with
 | none=>simp
 | some p=>exact bx5 _ _ _ p (mGt h)
theorem aT5(sep:List UInt8):∀(k:Nat)(s:List UInt8),(10:UInt8)∉s->∀p∈Lib.splitK sep 0 k s,(10:UInt8)∉p:=by
 intro k
 induction k with
 | zero=>intro s hs p hp;simp[Lib.splitK]at hp;subst hp;exact hs
 | succ k ih=>
  intro s hs p hp
  unfold Lib.splitK at hp
  split at hp
  . simp at hp;subst hp;exact hs
  . simp only[xP]at hp
    rcases hp with rfl | hp
    . exact fun h=>hs (xo h)
    . exact ih _ (fun h=>hs (List.mem_of_mem_drop h)) p hp
theorem as0:∀(k u:Nat),u<10 ^ (k+1)->(Lib.decDigits u).length<=k+1:=by
 intro k
 induction k with
 | zero=>intro u h;rw[Lib.decDigits,dif_pos (by simpa using h)];simp
 | succ k ih=>
  intro u h
  rw[Lib.decDigits]
  split
  . simp
  . have:=ih (u / 10) (by rw[Nat.div_lt_iff_lt_mul (by omega)];rw[Nat.pow_succ]at h;exact h)
    simp
    omega
theorem bk8(n:Nat)(h:n<=9999):(Lib.itoa (n:Int)).length<=4:=by unfold Lib.itoa;rw[qA (by omega)];exact as0 3 _ (by simp;omega)
theorem Z8(l:List (List UInt8)):(Lib.compact l).Sublist l:=by unfold Lib.compact Lib.compactUpTo;have h:=(zB (p:=Lib.keeps l.toArray) (l:=List.range l.length)).map (fun j=>l.toArray[j]!);have e:=Lib.range_map_get l.toArray;simp only[zU]at e;rw[e]at h;exact h
theorem bx6{c:Cmd}(h:chk c=0)(hk:c.kind=3):c.word.length=2/\c.word.all F9=true:=by
 unfold chk at h;have hu:uses c.kind=1:=by rw[hk];rfl
 rw[hu]at h;by_cases hw:isWord c.word=false
 . simp[hw]at h;split at h <;> cases h
 .
  by_cases h2:c.word.length=2
  . refine⟨h2,?_⟩;have:isWord c.word=true:=by simpa using hw
    unfold isWord at this;simp at this;simpa using this.2
  . simp[hk,h2]at h;split at h <;> cases h
theorem bY5(c:Cmd)(h:chk c=0)(ls:List (List UInt8))(hl:ls.length<=9999):(ended (made c ls)).length<=(ended ls).length+5:=by
 have hk:=X6 c h;have:c.kind=1\/c.kind=2\/c.kind=3\/c.kind=4\/c.kind=5\/c.kind=6\/c.kind=7\/c.kind=8\/c.kind=9\/c.kind=10:=by omega
 rcases this with e | e | e | e | e | e | e | e | e | e
 . rw[made1 c e];have:=A1 (zB (p:=fun s=>Lib.contains s c.word) (l:=ls));omega
 . rw[made2 c e];have:=A1 (zB (p:=fun s=>!Lib.contains s c.word) (l:=ls));omega
 . rw[made3 c e];have:=G7 (J8 (c.word.getD 0 0) (c.word.getD 1 0)) (fun s=>by simp[J8]) ls;omega
 . rw[aV8 c e];have:=G7 (E4 c.n) (am3 c.n) ls;omega
 . rw[aV9 c e];have:=G7 List.reverse (fun s=>by simp) ls;omega
 . rw[aE7 c e];have:=V5 (F7 ls);omega
 . rw[aK6 c e];have:=A1 (Z8 ls);omega
 . rw[aE8 c e];have:=bk8 ls.length hl;simp[ended];omega
 . rw[ax1 c e];have:=A1 (List.take_sublist c.n.toNat ls);omega
 . rw[av2 c e];have:=A1 (List.drop_sublist (ls.length-c.n.toNat) ls);omega
theorem bK6(c:Cmd)(h:chk c=0)(b:List UInt8)(hb:b.length<=9999):(U4 c b).length<=b.length+6:=by unfold U4;have h1:=bY5 c h (lines b) (by have:=D9 b;omega);have h2:=C0 b;omega
theorem ac1{l m:List (List UInt8)}(h:l.Sublist m)(hm:∀s∈m,(10:UInt8)∉s):∀s∈l,(10:UInt8)∉s:=fun s hs=>hm s (h.subset hs)
theorem bx7(ls:List (List UInt8)):(I8 ls).length=ls.length:=(F7 ls).length_eq
def C9(k:Int):Int:=if k=6 then 2 else if k=8 then 3 else if k=7\/k=9\/k=10 then 4 else 1
def jchk(how:Int)(c:Cmd):Int:=if how<1\/4<how then 4 else if how=4 then chk c else if c.kind=0/\c.word=[]/\c.n=0 then 0 else 4
def numOf(s:List UInt8):Nat:=((List.range 4001).find? (fun(k:Nat)=>Lib.itoa (k:Int)==s)).getD 0
def Y7(l:List (List UInt8)):Nat:=((l.head?).map numOf).getD 0
def sumOf(ps:List (List (List UInt8))):Nat:=(ps.map Y7).sum
def E0(ps:List (List (List UInt8))):Nat->Option (Nat × List UInt8)
 | 0=>none
 | k+1=>match (ps[k]?).bind List.head? with
  | none=>E0 ps k
  | some s=>match E0 ps k with
   | none=>some (k,s)
   | some (j,t)=>if s<t then some (k,s) else some (j,t)
def least(ps:List (List (List UInt8))):Option (Nat × List UInt8):=E0 ps ps.length
def X7:Nat->List (List (List UInt8))->List (List UInt8)
 | 0,_=>[]
 | n+1,ps=>match least ps with
  | none=>[]
  | some (k,s)=>s::X7 n (ps.modify k (List.drop 1))
def T9(ps:List (List (List UInt8))):List (List UInt8):=X7 ps.flatten.length ps
def joined(how:Int)(c:Cmd)(ps:List (List (List UInt8))):List (List UInt8):=
 if how=2 then T9 ps else if how=3 then [Lib.itoa (sumOf ps:Int)] else if how=4 then made c ps.flatten else ps.flatten
def bx8(s:List UInt8):Nat:=s.foldl (fun a c=>10*a+(c.toNat-48)) 0
theorem as1:∀u:Nat,bx8 (Lib.decDigits u)=u:=by
 intro u
 induction u using Nat.strongRecOn with
 | ind u ih=>
  rw[Lib.decDigits]
  split
  . simp[bx8]
    omega
  .
   rename_i h
   have:=ih (u / 10) (by omega)
   unfold bx8 at this ⊢
   rw[List.foldl_append,this]
   simp
   omega
theorem bY6{a b:Nat}(h:Lib.itoa (a:Int)=Lib.itoa (b:Int)):a=b:=by unfold Lib.itoa at h;rw[qA (by omega),qA (by omega)]at h;simp only[qq]at h;rw[<- as1 a,<- as1 b,h]
theorem aK7(k:Nat)(h:k<=4000):numOf (Lib.itoa (k:Int))=k:=by
 unfold numOf
 cases hf:(List.range 4001).find? (fun(j:Nat)=>Lib.itoa (j:Int)==Lib.itoa (k:Int)) with
 | none=>
  have:=zq.1 hf k (xt.2 (by omega))
  simp at this
 | some j=>
  have:=List.find?_some hf
  simp only[beq_iff_eq]at this
  simp[bY6 this]
theorem aK8{s:List UInt8}(h:∀k:Nat,k<=4000->Lib.itoa (k:Int)≠s):numOf s=0:=by
 unfold numOf;rw[zq.2]
 . rfl
 . intro k hk;simpa using h k (by have:=xt.1 hk;omega)
theorem bk9(s:List UInt8):numOf s<=4000:=by
 unfold numOf
 cases hf:(List.range 4001).find? (fun(j:Nat)=>Lib.itoa (j:Int)==s) with
 | none=>simp
 | some j=>
  have:=xt.1 (zW hf)
  simp
  omega
theorem bx9(l:List (List UInt8)):Y7 l<=4000:=by
 unfold Y7
 cases l with
 | nil=>simp
 | cons s r=>simpa using bk9 s
theorem bl0(ps:List (List (List UInt8))):sumOf ps<=4000*ps.length:=by
 unfold sumOf
 induction ps with
 | nil=>simp
 | cons p ps ih=>
  have:=bx9 p
  simp only[qs,zc,qY]
  omega
theorem by3{ps:List (List (List UInt8))}{k:Nat}{p:List (List UInt8)}(h:ps[k]? = some p):sumOf (ps.take (k+1))=sumOf (ps.take k)+Y7 p:=by unfold sumOf;rw[qX,h];simp
theorem ax2(ps:List (List (List UInt8))):∀(k:Nat)(j:Nat)(t:List UInt8),E0 ps k=some (j,t)->j<k/\(ps[j]?).bind List.head? = some t/\∀i,i<k->∀s,(ps[i]?).bind List.head? = some s->t<=s:=by
 intro k
 induction k with
 | zero=>intro j t h;cases h
 | succ k ih=>
  intro j t h
  unfold E0 at h
  cases hk:(ps[k]?).bind List.head? with
  | none=>
   rw[hk]at h
   obtain⟨h1,h2,h3⟩:=ih j t h
   refine⟨by omega,h2,fun i hi s hs=>?_⟩
   rcases zD i k with h' | h'
   . exact h3 i h' s hs
   . obtain rfl:i=k:=by omega
     rw[hk]at hs;cases hs
  | some s=>
   rw[hk]at h
   simp only at h
   cases hl:E0 ps k with
   | none=>
    rw[hl]at h
    simp only[qW,zT]at h
    obtain⟨rfl,rfl⟩:=h
    refine⟨by omega,hk,fun i hi s' hs=>?_⟩
    rcases zD i k with h' | h'
    .
     exfalso
     clear ih hk
     have:∀m,E0 ps m=none->∀i,i<m->(ps[i]?).bind List.head? = none:=by
      intro m
      induction m with
      | zero=>intro _ i hi;omega
      | succ m ihm=>
       intro hm i hi
       unfold E0 at hm
       cases hb:(ps[m]?).bind List.head? with
       | none=>
        rw[hb]at hm
        rcases zD i m with h'' | h''
        . exact ihm hm i h''
        . obtain rfl:i=m:=by omega
          exact hb
       | some x=>
        rw[hb]at hm
        simp only at hm
        split at hm
        . cases hm
        . split at hm <;> cases hm
     rw[this k hl i h']at hs
     cases hs
    . obtain rfl:i=k:=by omega
      rw[hk]at hs
      injection hs with hs
      rw[hs];exact List.le_refl _
   | some p=>
    obtain⟨j',t'⟩:=p
    rw[hl]at h
    simp only at h
    obtain⟨h1,h2,h3⟩:=ih j' t' hl
    by_cases hlt:s<t'
    .
     rw[qF hlt]at h
     simp only[qW,zT]at h
     obtain⟨rfl,rfl⟩:=h
     refine⟨by omega,hk,fun i hi s' hs=>?_⟩
     rcases zD i k with h' | h'
     . exact List.le_trans (List.le_of_lt hlt) (h3 i h' s' hs)
     . obtain rfl:i=k:=by omega
       rw[hk]at hs
       injection hs with hs
       rw[hs];exact List.le_refl _
    .
     rw[qA hlt]at h
     simp only[qW,zT]at h
     obtain⟨rfl,rfl⟩:=h
     refine⟨by omega,h2,fun i hi s' hs=>?_⟩
     rcases zD i k with h' | h'
     . exact h3 i h' s' hs
     . obtain rfl:i=k:=by omega
       rw[hk]at hs
       injection hs with hs
       rw[<- hs];exact List.not_lt.1 hlt
theorem bd4(ps:List (List (List UInt8))):∀m,E0 ps m=none->∀i,i<m->(ps[i]?).bind List.head? = none:=by
 intro m
 induction m with
 | zero=>intro _ i hi;omega
 | succ m ihm=>
  intro hm i hi
  unfold E0 at hm
  cases hb:(ps[m]?).bind List.head? with
  | none=>
   rw[hb]at hm
   rcases zD i m with h'' | h''
   . exact ihm hm i h''
   . obtain rfl:i=m:=by omega
     exact hb
  | some x=>
   rw[hb]at hm
   simp only at hm
   split at hm
   . cases hm
   . split at hm <;> cases hm
theorem least_some{ps:List (List (List UInt8))}{k:Nat}{s:List UInt8}(h:least ps=some (k,s)):∃r,ps[k]? = some (s::r)/\∀p∈ps,∀x,p.head? = some x->s<=x:=by
 obtain⟨h1,h2,h3⟩:=ax2 ps _ k s h
 cases hp:ps[k]? with
 | none=>rw[hp]at h2;cases h2
 | some p=>
  rw[hp]at h2
  cases p with
  | nil=>cases h2
  | cons x r=>
   simp only[Option.bind_some,zO,qW]at h2
   refine⟨r,by rw[h2],fun p hp x hx=>?_⟩
   obtain⟨i,hi,rfl⟩:=zh.1 hp
   exact h3 i hi x (by rw[gEl hi];exact hx)
theorem aK9{ps:List (List (List UInt8))}(h:least ps=none):ps.flatten=[]:=by have:=bd4 ps _ h;rw[List.flatten_eq_nil_iff];intro p hp;obtain⟨i,hi,rfl⟩:=zh.1 hp;have:=this i hi;rw[gEl hi]at this;simpa using this
theorem ac2{ps:List (List (List UInt8))}:∀{k:Nat}{s:List UInt8}{r:List (List UInt8)},ps[k]? = some (s::r)->ps.flatten.Perm (s::(ps.modify k (List.drop 1)).flatten):=by
 induction ps with
 | nil=>intro k s r h;simp at h
 | cons p ps ih=>
  intro k s r h
  cases k with
  | zero=>
   simp only[xM,qW]at h
   subst h
   simp
  | succ k=>
   simp only[xu]at h
   simp only[List.modify_succ_cons,qe]
   exact ((ih h).append_left p).trans List.perm_middle
theorem af7{ps:List (List (List UInt8))}{k:Nat}{s:List UInt8}{r:List (List UInt8)}(h:ps[k]? = some (s::r)):ps.flatten.length=(ps.modify k (List.drop 1)).flatten.length+1:=by have:=(ac2 h).length_eq;simpa using this
theorem am4:∀(n:Nat)(ps:List (List (List UInt8))),ps.flatten.length=n->(X7 n ps).Perm ps.flatten:=by
 intro n
 induction n with
 | zero=>intro ps h;rw[qi h];exact List.Perm.nil
 | succ n ih=>
  intro ps h
  unfold X7
  cases hl:least ps with
  | none=>rw[aK9 hl]at h;cases h
  | some q=>
   obtain⟨k,s⟩:=q
   obtain⟨r,hr,_⟩:=least_some hl
   have hm:=af7 hr
   exact ((ih _ (by omega)).cons s).trans (ac2 hr).symm
theorem aT6:∀(n:Nat)(ps:List (List (List UInt8))),ps.flatten.length=n->(∀p∈ps,p.Pairwise (fun x y=>x<=y))->(X7 n ps).Pairwise (fun x y=>x<=y):=by
 intro n
 induction n with
 | zero=>intro ps h _;exact List.Pairwise.nil
 | succ n ih=>
  intro ps h hs
  unfold X7
  cases hl:least ps with
  | none=>exact List.Pairwise.nil
  | some q=>
   obtain⟨k,s⟩:=q
   obtain⟨r,hr,hle⟩:=least_some hl
   have hm:=af7 hr
   simp only
   refine List.Pairwise.cons ?_ (ih _ (by omega) ?_)
   .
    intro x hx
    have hx':x∈ps.flatten:=(ac2 hr).mem_iff.2 (List.mem_cons_of_mem _ ((am4 n _ (by omega)).mem_iff.1 hx))
    obtain⟨p,hp,hxp⟩:=xz.1 hx'
    have hsp:=hs p hp
    cases p with
    | nil=>cases hxp
    | cons y q=>
     have h1:=hle _ hp y rfl
     rcases xP.1 hxp with rfl | hxq
     . exact h1
     . exact List.le_trans h1 ((List.pairwise_cons.1 hsp).1 x hxq)
   .
    intro p hp
    obtain⟨i,hi,rfl⟩:=zh.1 hp
    rw[List.getElem_modify]
    have hi':i<ps.length:=by simpa using hi
    split
    . exact (hs _ (zH hi')).sublist (List.drop_sublist _ _)
    . exact hs _ (zH hi')
theorem aL0(ps:List (List (List UInt8)))(h:∀p∈ps,p.Pairwise (fun x y=>x<=y)):T9 ps=I8 ps.flatten:=
 af6 _ _ ((am4 _ _ rfl).trans (F7 _).symm) (aT6 _ _ rfl h) (S3 _)
theorem ax3(ps:List (List (List UInt8))):(T9 ps).Perm ps.flatten:=am4 _ _ rfl
theorem aB7(s:List UInt8)(a:List (List UInt8))(p:Option (List UInt8)):(s::a).getLast?.or p=a.getLast?.or (some s):=by
 rw[List.getLast?_cons]
 cases h:a.getLast? <;> simp
def comp:Option (List UInt8)->List (List UInt8)->List (List UInt8)
 | _,[]=>[]
 | p,s::r=>if p=some s then comp p r else s::comp (some s) r
theorem am5(a b:List (List UInt8)):∀p,comp p (a++b)=comp p a++comp (a.getLast?.or p) b:=by
 induction a with
 | nil=>intro p;rfl
 | cons s a ih=>
  intro p
  rw[zG,comp,comp,ih,ih]
  have e:=aB7 s a p
  rw[e]
  split
  . rename_i hp;rw[hp]
  . rfl
theorem bK7(a:List (List UInt8)):∀p,(comp p a).getLast?.or p=a.getLast?.or p:=by
 induction a with
 | nil=>intro p;rfl
 | cons s a ih=>
  intro p
  have e:=aB7 s a p
  rw[e,comp]
  split
  . rename_i hp;rw[ih p,hp]
  . rw[aB7];exact ih _
theorem bK8(a:List (List UInt8)):∀p q,(q=none\/q=p)->comp p (comp q a)=comp p a:=by
 induction a with
 | nil=>intro p q _;rfl
 | cons s a ih=>
  intro p q hq
  by_cases hqs:q=some s
  . rcases hq with h | h
    . rw[h]at hqs;cases hqs
    . subst h
      rw[comp,qF hqs]
      rw[ih q q (.inr rfl)]
  .
   conv=>lhs;rw[comp,qA hqs]
   rw[comp]
   conv=>rhs;rw[comp]
   split
   . rename_i hp;rw[hp];exact ih _ _ (.inr rfl)
   . rw[ih _ _ (.inr rfl)]
theorem bd5(ps:List (List (List UInt8))):∀p,comp p (ps.map (comp none)).flatten=comp p ps.flatten:=by
 induction ps with
 | nil=>intro p;rfl
 | cons a ps ih=>
  intro p
  rw[qs,qe,qe,am5,am5,bK8 _ _ _ (.inl rfl),ih]
  have:=bK7 a none
  simp only[Option.or_none]at this
  rw[this]
theorem aB8(l:List (List UInt8)):∀m,m<=l.length->Lib.compactUpTo l.toArray m=comp none (l.take m):=by
 intro m
 induction m with
 | zero=>intro _;rfl
 | succ m ih=>
  intro h
  rw[Lib.compactUpTo_succ,ih (by omega),qX,gEl (show m<l.length by omega),xa,am5]
  congr 1
  have e1:l.toArray[m]! = l[m]:=by simp[zP,show m<l.length by omega]
  unfold Lib.keeps
  rw[e1,Option.or_none,comp,comp]
  by_cases h0:m=0
  . subst h0;simp[comp]
  .
   have e2:l.toArray[m-1]! = l[m-1]:=by simp[zP,show m-1<l.length by omega]
   have e3:(l.take m).getLast? = some l[m-1]:=by
    rw[List.getLast?_eq_getElem?,qL,ql (by omega),xR,qF (by omega),gEl (by omega)]
   rw[e2,e3]
   by_cases hx:l[m-1]=l[m]
   . simp[hx,h0]
   . simp[hx,h0,Ne.symm hx,comp]
theorem bd6(l:List (List UInt8)):Lib.compact l=comp none l:=by unfold Lib.compact;rw[aB8 l _ (qB _),qZ]
theorem aJ1(ps:List (List (List UInt8))):Lib.compact (ps.map Lib.compact).flatten=Lib.compact ps.flatten:=by have e:(Lib.compact:List (List UInt8)->List (List UInt8))=comp none:=funext bd6;rw[e];exact bd5 ps none
theorem ax4{α:Type}(n:Nat)(ps:List (List α)):∀m,m<=n->(ps.map (List.take n)).flatten.take m=ps.flatten.take m:=by
 induction ps with
 | nil=>intro m _;rfl
 | cons a ps ih=>
  intro m hm
  rw[qs,qe,qe,List.take_append,List.take_append,List.take_take,ql hm,qL]
  congr 1
  have e:m-min n a.length=m-a.length:=by omega
  rw[e]
  exact ih _ (by omega)
def lastOf{α:Type}(n:Nat)(l:List α):List α:=l.drop (l.length-n)
theorem aB9{α:Type}(n:Nat)(l:List α):lastOf n l=(l.reverse.take n).reverse:=by unfold lastOf;rw[List.take_reverse,List.reverse_reverse]
theorem bd7{α:Type}(n:Nat)(ps:List (List α)):lastOf n (ps.map (lastOf n)).flatten=lastOf n ps.flatten:=by
 rw[aB9,aB9];congr 1;rw[List.reverse_flatten,List.reverse_flatten,xh];have e:(List.reverse ∘ lastOf n:List α->List α)=List.take n ∘ List.reverse:=by funext l;simp[aB9]
 rw[e,<- xh,<- List.map_reverse];exact ax4 n _ n (qB _)
theorem bK9(ps:List (List (List UInt8)))(h:∀p∈ps,p.length<=4000):sumOf (ps.map fun p=>[Lib.itoa (p.length:Int)])=ps.flatten.length:=by
 unfold sumOf
 induction ps with
 | nil=>rfl
 | cons p ps ih=>
  have:=ih (fun q hq=>h q (by simp[hq]))
  simp only[qs,zc,qe,qG]at this ⊢
  rw[this]
  have hn:Y7 [Lib.itoa (p.length:Int)]=p.length:=by
   unfold Y7
   rw[zO,qu,xG,aK7 p.length (h p (by simp))]
  rw[hn]
theorem by4(c:Cmd)(hc:chk c=0)(ps:List (List (List UInt8)))(h:∀p∈ps,p.length<=4000):joined (C9 c.kind) c (ps.map (made c))=made c ps.flatten:=by
 have hk:=X6 c hc;have:c.kind=1\/c.kind=2\/c.kind=3\/c.kind=4\/c.kind=5\/c.kind=6\/c.kind=7\/c.kind=8\/c.kind=9\/c.kind=10:=by omega
 have each:N9 c.kind=true->(ps.map (made c)).flatten=made c ps.flatten:=by
  intro he;clear h
  induction ps with
  | nil=>
   have hk:c.kind=1\/c.kind=2\/c.kind=3\/c.kind=4\/c.kind=5:=by
    have:=qc he
    omega
   rcases hk with hk | hk | hk | hk | hk <;> simp[made,hk]
  | cons p ps ih=>rw[qs,qe,qe,ad9 c he,ih]
 rcases this with e | e | e | e | e | e | e | e | e | e
 . simpa[joined,C9,e]using each (by simp[N9,e])
 . simpa[joined,C9,e]using each (by simp[N9,e])
 . simpa[joined,C9,e]using each (by simp[N9,e])
 . simpa[joined,C9,e]using each (by simp[N9,e])
 . simpa[joined,C9,e]using each (by simp[N9,e])
 .
  have e1:joined (C9 c.kind) c (ps.map (made c))=T9 (ps.map (made c)):=by simp[joined,C9,e]
  have e2:made c=I8:=funext (aE7 c e)
  rw[e1,e2,aL0 _ (by
   intro p hp
   obtain⟨q,_,rfl⟩:=qg.1 hp
   exact S3 q)]
  apply bd3;clear h each e1
  induction ps with
  | nil=>exact List.Perm.nil
  | cons p ps ih=>
   rw[qs,qe,qe]
   exact (F7 p).append ih
 . have e1:joined (C9 c.kind) c (ps.map (made c))=made c (ps.map (made c)).flatten:=by simp[joined,C9,e]
   have e2:made c=Lib.compact:=funext (aK6 c e);rw[e1,e2];exact aJ1 ps
 . have e1:joined (C9 c.kind) c (ps.map (made c))=[Lib.itoa (sumOf (ps.map (made c)):Int)]:=by simp[joined,C9,e]
   have e2:made c=fun p=>[Lib.itoa (p.length:Int)]:=funext (aE8 c e);rw[e1,e2,bK9 ps h]
 . have e1:joined (C9 c.kind) c (ps.map (made c))=made c (ps.map (made c)).flatten:=by simp[joined,C9,e]
   have e2:made c=List.take c.n.toNat:=funext (ax1 c e);rw[e1,e2];exact ax4 _ ps _ (qB _)
 . have e1:joined (C9 c.kind) c (ps.map (made c))=made c (ps.map (made c)).flatten:=by simp[joined,C9,e]
   have e2:made c=lastOf c.n.toNat:=funext (av2 c e);rw[e1,e2];exact bd7 _ ps
theorem aC0:∀u:Nat,(10:UInt8)∉Lib.decDigits u:=by
 intro u
 induction u using Nat.strongRecOn with
 | ind u ih=>
  have hd:∀d:Nat,d<10->(10:UInt8)≠UInt8.ofNat (48+d):=by
   intro d hd e
   have:d=0\/d=1\/d=2\/d=3\/d=4\/d=5\/d=6\/d=7\/d=8\/d=9:=by omega
   rcases this with rfl | rfl | rfl | rfl | rfl | rfl | rfl | rfl | rfl | rfl <;> exact absurd e (by decide)
  rw[Lib.decDigits]
  split
  . rename_i h
    simp only[xI]
    exact hd u h
  . simp only[xB,xI,not_or]
    exact⟨ih (u / 10) (by omega),hd _ (Nat.mod_lt _ (by omega))⟩
theorem aE9(n:Nat):(10:UInt8)∉Lib.itoa (n:Int):=by unfold Lib.itoa;rw[qA (by omega)];exact aC0 _
theorem Z9(c:Cmd)(hc:chk c=0)(ls:List (List UInt8))(h:∀s∈ls,(10:UInt8)∉s):∀s∈made c ls,(10:UInt8)∉s:=by
 have hk:=X6 c hc;have:c.kind=1\/c.kind=2\/c.kind=3\/c.kind=4\/c.kind=5\/c.kind=6\/c.kind=7\/c.kind=8\/c.kind=9\/c.kind=10:=by omega
 rcases this with e | e | e | e | e | e | e | e | e | e
 . rw[made1 c e];exact ac1 zB h
 . rw[made2 c e];exact ac1 zB h
 .
  rw[made3 c e];intro s hs hm;obtain⟨t,ht,rfl⟩:=qg.1 hs;obtain⟨h2,hw⟩:=bx6 hc e;unfold J8 at hm;obtain⟨y,hy,hxy⟩:=qg.1 hm;split at hxy
  . have:F9 (c.word.getD 1 0)=true:=by
     match hcw:c.word,h2,hw with
     | [x,y],_,hw=>simp at hw;simpa using hw.2
    rw[hxy]at this;exact absurd this (by decide)
  . exact h t ht (hxy ▸ hy)
 .
  rw[aV8 c e];intro s hs;obtain⟨t,ht,rfl⟩:=qg.1 hs;unfold E4
  cases hf:(Lib.split t [32])[(c.n-1).toNat]? with
  | none=>simp
  | some p=>exact aT5 _ _ _ (h t ht) p (mGt hf)
 . rw[aV9 c e];intro s hs;obtain⟨t,ht,rfl⟩:=qg.1 hs;simpa using h t ht
 . rw[aE7 c e];exact fun s hs=>h s ((F7 ls).mem_iff.1 hs)
 . rw[aK6 c e];exact ac1 (Z8 ls) h
 . rw[aE8 c e];intro s hs;rw[xI.1 hs];exact aE9 _
 . rw[ax1 c e];exact ac1 (List.take_sublist _ _) h
 . rw[av2 c e];exact ac1 (List.drop_sublist _ _) h
theorem as2(how:Int)(c:Cmd)(hc:how=4->chk c=0)(ps:List (List (List UInt8)))(h:∀p∈ps,∀s∈p,(10:UInt8)∉s):∀s∈joined how c ps,(10:UInt8)∉s:=by
 have hf:∀s∈ps.flatten,(10:UInt8)∉s:=by intro s hs;obtain⟨p,hp,hsp⟩:=xz.1 hs;exact h p hp s hsp
 unfold joined;split
 . exact fun s hs=>hf s ((ax3 ps).mem_iff.1 hs)
 .
  split
  . intro s hs;rw[xI.1 hs];exact aE9 _
  . split
    . rename_i h4;exact Z9 c (hc h4) _ hf
    . exact hf
structure SNode where
 kind:Int
 file:List UInt8
 c:Cmd
 how:Int
 wide:Int
 ins:List (Int × Int)
def nouts(n:SNode):Int:=if n.kind=2 then n.wide else if n.kind=5 then 0 else 1
def aW0(c:Cmd):Bool:=decide (c.kind=0) && c.word.isEmpty && decide (c.n=0)
def A6(n:SNode):Int:=
 if n.kind=1\/n.kind=5 then (if isWord n.file then 0 else 1)
 else if n.kind=2 then (if n.wide<1\/5<n.wide then 3 else 0)
 else if n.kind=3 then chk n.c
 else if n.kind=4 then jchk n.how n.c
 else 4
def J0(k:Int)(m:Nat):Bool:=if k=1 then decide (m=0) else if k=4 then decide (1<=m/\m<=5) else decide (m=1)
def G9(n:SNode):Bool:=
 (!decide (n.kind=1\/n.kind=5) && !n.file.isEmpty) || (!decide (n.kind=2) && !decide (n.wide=0)) || (!decide (n.kind=3\/n.kind=4) && !aW0 n.c) || (!decide (n.kind=4) && !decide (n.how=0))
def j9(n:SNode):Int:=if A6 n≠0 then A6 n else if !J0 n.kind n.ins.length || G9 n then 4 else 0
def A7(ns:List SNode)(p:Int × Int):Bool:=decide (0<=p.1) && decide (p.1<ns.length) && decide (0<=p.2) && ((ns[p.1.toNat]?).map (fun n=>decide (p.2<nouts n))).getD false
def B9(ahead:List SNode):List (Int × Int)->List (Int × Int)->Int × List (Int × Int)
 | [],t=>(0,t)
 | p::r,t=>if A7 ahead p=false then (5,t) else if p∈t then (6,t) else B9 ahead r (t++[p])
def y8:List SNode->List SNode->List (Int × Int)->Int × List (Int × Int)
 | _,[],t=>(0,t)
 | ahead,n::r,t=>
  if j9 n≠0 then (j9 n,t)
  else if (B9 ahead n.ins t).1≠0 then B9 ahead n.ins t
  else if r.isEmpty≠decide (n.kind=5) then (4,t)
  else y8 (ahead++[n]) r (B9 ahead n.ins t).2
def E7(ns:List SNode):Int:=(ns.map nouts).sum
def gchk(ns:List SNode):Int:=
 if 60<ns.length then 2
 else if (y8 [] ns []).1≠0 then (y8 [] ns []).1
 else if ns.length=0\/((y8 [] ns []).2.length:Int)≠E7 ns then 4
 else 0
def f9(outs:List (List (List UInt8)))(p:Int × Int):List UInt8:=((outs[p.1.toNat]?).getD [])[p.2.toNat]?.getD []
def partOf(bs:List UInt8)(p k:Nat):List UInt8:=ended (((lines bs).take ((k+1)*(lines bs).length / p)).drop (k*(lines bs).length / p))
def j0(n:SNode)(fs:List SFile)(ins:List (List UInt8)):List (List UInt8):=
 if n.kind=1 then [ended (lines (q8 fs n.file))]
 else if n.kind=2 then (List.range n.wide.toNat).map (partOf (ins.head?.getD []) n.wide.toNat)
 else if n.kind=3 then [ended (made n.c (lines (ins.head?.getD [])))]
 else if n.kind=4 then [ended (joined n.how n.c (ins.map lines))]
 else []
def j4(fs:List SFile):List (List (List UInt8))->List SNode->List (List (List UInt8))
 | acc,[]=>acc
 | acc,n::r=>j4 fs (acc++[j0 n fs (n.ins.map (f9 acc))]) r
def sunk(ns:List SNode)(fs:List SFile):List UInt8:=((ns.getLast?).map (fun n=>f9 (j4 fs [] ns) (n.ins.head?.getD (0,0)))).getD []
theorem ac3(bss:List (List UInt8)):(ended (bss.map lines).flatten).length<=bss.flatten.length+bss.length:=by
 induction bss with
 | nil=>simp[ended]
 | cons b bss ih=>
  have:=C0 b
  simp only[qs,qe,G6,qG,qY]
  omega
theorem X8(bss:List (List UInt8)):(bss.map lines).flatten.length<=bss.flatten.length:=by
 induction bss with
 | nil=>simp
 | cons b bss ih=>
  have:=D9 b
  simp only[qs,qe,qG]
  omega
theorem am6{how:Int}{c:Cmd}(h:jchk how c=0):how=4->chk c=0:=by intro e;unfold jchk at h;rw[qA (by omega),qF e]at h;exact h
theorem aW1(n:Nat)(h:n<=999999):(Lib.itoa (n:Int)).length<=6:=by unfold Lib.itoa;rw[qA (by omega)];exact as0 5 _ (by simp;omega)
theorem ag9(c:Cmd)(h:chk c=0)(ls:List (List UInt8))(hl:ls.length<=999999):(ended (made c ls)).length<=(ended ls).length+7:=by
 have hk:=X6 c h;by_cases e8:c.kind=8
 . rw[aE8 c e8];have:=aW1 ls.length hl;simp[ended];omega
 have:c.kind=1\/c.kind=2\/c.kind=3\/c.kind=4\/c.kind=5\/c.kind=6\/c.kind=7\/c.kind=9\/c.kind=10:=by omega
 rcases this with e | e | e | e | e | e | e | e | e
 . rw[made1 c e];have:=A1 (zB (p:=fun s=>Lib.contains s c.word) (l:=ls));omega
 . rw[made2 c e];have:=A1 (zB (p:=fun s=>!Lib.contains s c.word) (l:=ls));omega
 . rw[made3 c e];have:=G7 (J8 (c.word.getD 0 0) (c.word.getD 1 0)) (fun s=>by simp[J8]) ls;omega
 . rw[aV8 c e];have:=G7 (E4 c.n) (am3 c.n) ls;omega
 . rw[aV9 c e];have:=G7 List.reverse (fun s=>by simp) ls;omega
 . rw[aE7 c e];have:=V5 (F7 ls);omega
 . rw[aK6 c e];have:=A1 (Z8 ls);omega
 . rw[ax1 c e];have:=A1 (List.take_sublist c.n.toNat ls);omega
 . rw[av2 c e];have:=A1 (List.drop_sublist (ls.length-c.n.toNat) ls);omega
theorem am7(how:Int)(c:Cmd)(hc:how=4->chk c=0)(ps:List (List (List UInt8)))(hl:ps.flatten.length<=999999)(h5:ps.length<=5):(ended (joined how c ps)).length<=(ended ps.flatten).length+7:=by
 unfold joined;split
 . have:=V5 (ax3 ps);omega
 .
  split
  . have h1:=bl0 ps;have h2:=aW1 (sumOf ps) (by omega);simp[ended];omega
  . split
    . rename_i h4;have:=ag9 c (hc h4) ps.flatten hl;omega
    . omega
theorem by5(ls:List (List UInt8))(p:Nat):∀m,m<=p->(((List.range m).map (fun k=>ended ((ls.take ((k+1)*ls.length / p)).drop (k*ls.length / p)))).flatten)=ended (ls.take (m*ls.length / p)):=by
 intro m
 induction m with
 | zero=>intro _;simp[ended]
 | succ m ih=>
  intro h
  have hle:m*ls.length / p<=(m+1)*ls.length / p:=Nat.div_le_div_right (Nat.mul_le_mul_right _ (by omega))
  rw[zl,qz,List.flatten_append,ih (by omega)]
  simp only[qs,List.map_nil,qe,List.flatten_nil,xH]
  rw[<- G6]
  congr 1
  have e:=qk (m*ls.length / p) (ls.take ((m+1)*ls.length / p))
  rw[List.take_take,ql hle]at e
  exact e
theorem am8(bs:List UInt8)(p:Nat)(hp:0<p):((List.range p).map (partOf bs p)).flatten=ended (lines bs):=by have:=by5 (lines bs) p p (qB _);rw[Nat.mul_div_cancel_left _ hp,qZ]at this;exact this
theorem E8{n:SNode}(h:j9 n=0):A6 n=0/\J0 n.kind n.ins.length=true/\G9 n=false:=by
 unfold j9 at h;by_cases h0:A6 n=0
 .
  rw[qA (by simp[h0])]at h;by_cases h1:(!J0 n.kind n.ins.length || G9 n)=true
  . rw[qF h1]at h;cases h
  . simp at h1;exact⟨h0,h1.1,h1.2⟩
 . rw[qF h0]at h;exact absurd h h0
theorem H7{n:SNode}(h:A6 n=0):((n.kind=1\/n.kind=5)/\isWord n.file=true)\/(n.kind=2/\1<=n.wide/\n.wide<=5)\/(n.kind=3/\chk n.c=0)\/(n.kind=4/\jchk n.how n.c=0):=by
 unfold A6 at h;by_cases h1:n.kind=1\/n.kind=5
 . rw[qF h1]at h
   cases hw:isWord n.file with
   | true=>exact .inl ⟨h1,rfl⟩
   | false=>rw[hw]at h;cases h
 .
  rw[qA h1]at h;by_cases h2:n.kind=2
  . rw[qF h2]at h;by_cases hr:n.wide<1\/5<n.wide
    . rw[qF hr]at h;cases h
    . exact .inr (.inl ⟨h2,by omega,by omega⟩)
  .
   rw[qA h2]at h;by_cases h3:n.kind=3
   . rw[qF h3]at h;exact .inr (.inr (.inl ⟨h3,h⟩))
   . rw[qA h3]at h;by_cases h4:n.kind=4
     . rw[qF h4]at h;exact .inr (.inr (.inr ⟨h4,h⟩))
     . rw[qA h4]at h;cases h
theorem am9(bss:List (List UInt8)):bss.flatten.length=(bss.map List.length).sum:=by
 induction bss with
 | nil=>rfl
 | cons b r ih=>simp[ih]
theorem ah0(a:List UInt8):([a]:List (List UInt8)).flatten.length=a.length:=by simp
theorem ax5{n:SNode}(h:j9 n=0)(fs:List SFile)(hf:∀f∈fs,f.b.length<=4000)(ins:List (List UInt8))(hi:ins.length=n.ins.length)(hl:ins.flatten.length<=900000):
 (j0 n fs ins).flatten.length<=ins.flatten.length+4020:=by
 obtain⟨h1,h2,_⟩:=E8 h;unfold j0;rcases H7 h1 with⟨h3 | h3,_⟩|⟨h3,h4,h5⟩|⟨h3,h4⟩|⟨h3,h4⟩
 .
  rw[qF h3];have e1:=C0 (q8 fs n.file);have e2:(q8 fs n.file).length<=4000:=by
   unfold q8
   cases hq:fs.find? (fun f=>f.name==n.file) with
   | none=>simp
   | some f=>exact hf f (zW hq)
  rw[ah0];omega
 . rw[qA (by omega),qA (by omega),qA (by omega),qA (by omega)];simp
 .
  rw[qA (by omega),qF h3,am8 _ _ (by omega)];have e1:=C0 (ins.head?.getD []);have e2:(ins.head?.getD []).length<=ins.flatten.length:=by
   cases ins with
   | nil=>simp
   | cons a r=>simp
  omega
 .
  rw[qA (by omega),qA (by omega),qF h3];have e1:=C0 (ins.head?.getD []);have e2:(ins.head?.getD []).length<=ins.flatten.length:=by
   cases ins with
   | nil=>simp
   | cons a r=>simp
  have e3:=ag9 n.c h4 (lines (ins.head?.getD [])) (by have:=D9 (ins.head?.getD []);omega);rw[ah0];omega
 . rw[qA (by omega),qA (by omega),qA (by omega),qF h3];have h5:ins.length<=5:=by rw[hi];unfold J0 at h2;rw[qA (by omega),qF h3]at h2;exact (qc h2).2
   have e1:=am7 n.how n.c (am6 h4) (ins.map lines) (by have:=X8 ins;omega) (by simpa using h5);have e2:=ac3 ins;rw[ah0];omega
theorem U5(ahead:List SNode):∀(ps t:List (Int × Int)),(B9 ahead ps t).1=0->(B9 ahead ps t).2=t++ps/\(∀p∈ps,A7 ahead p=true/\p∉t)/\ps.Nodup
 | [],t,_=>by simp[B9]
 | p::r,t,h=>by
  unfold B9 at h ⊢
  by_cases h1:A7 ahead p=false
  . rw[qF h1]at h;cases h
  .
   rw[qA h1]at h ⊢
   by_cases h2:p∈t
   . rw[qF h2]at h;cases h
   .
    rw[qA h2]at h ⊢
    obtain⟨e1,e2,e3⟩:=U5 ahead r (t++[p]) h
    refine⟨by rw[e1];simp,?_,?_⟩
    . intro q hq
      rcases xP.1 hq with rfl | hq
      . exact⟨by simpa using h1,h2⟩
      . have:=e2 q hq
        exact⟨this.1,fun hm=>this.2 (by simp[hm])⟩
    . rw[List.nodup_cons]
      exact⟨fun hm=>(e2 p hm).2 (by simp),e3⟩
theorem O4{ns:List SNode}{p:Int × Int}(h:A7 ns p=true):∃(i k:Nat)(n:SNode),p=(↑i,↑k)/\ns[i]? = some n/\(k:Int)<nouts n:=by
 unfold A7 at h;simp only[zA,xx]at h;obtain⟨⟨⟨h1,h2⟩,h3⟩,h4⟩:=h;refine⟨p.1.toNat,p.2.toNat,?_⟩
 cases hn:ns[p.1.toNat]? with
 | none=>rw[hn]at h4;cases h4
 | some n=>
  rw[hn]at h4
  refine⟨n,Prod.ext (by simp;omega) (by simp;omega),rfl,?_⟩
  have:p.2<nouts n:=by simpa using h4
  omega
theorem I2(fs:List SFile):∀(ns:List SNode)(acc:List (List (List UInt8))),(j4 fs acc ns).length=acc.length+ns.length
 | [],acc=>rfl
 | n::r,acc=>by
  show (j4 fs _ r).length=_
  rw[I2 fs r]
  simp
  omega
theorem Q5(fs:List SFile):∀(a b:List SNode)(acc:List (List (List UInt8))),j4 fs acc (a++b)=j4 fs (j4 fs acc a) b
 | [],b,acc=>rfl
 | n::r,b,acc=>Q5 fs r b _
theorem aj2(fs:List SFile):∀(ns:List SNode)(acc:List (List (List UInt8)))(i:Nat),i<acc.length->(j4 fs acc ns)[i]? = acc[i]?
 | [],acc,i,h=>rfl
 | n::r,acc,i,h=>by
  show (j4 fs _ r)[i]? = _
  rw[aj2 fs r _ i (by simp;omega),xe h]
theorem aq1(fs:List SFile)(ns:List SNode)(k:Nat){n:SNode}(h:ns[k]? = some n):j4 fs [] (ns.take (k+1))=j4 fs [] (ns.take k)++[j0 n fs (n.ins.map (f9 (j4 fs [] (ns.take k))))]:=by rw[qX,h,xa,Q5];rfl
theorem bl1(fs:List SFile)(ns:List SNode)(i:Nat){p:Int × Int}(h0:0<=p.1)(h:p.1<i)(hi:i<=ns.length):f9 (j4 fs [] ns) p=f9 (j4 fs [] (ns.take i)) p:=by
 unfold f9;rw[<- qk i ns,Q5,aj2]
 . rw[qk]
 . rw[I2,qL];simp;omega
theorem o5{n:SNode}(h:j9 n=0)(fs:List SFile)(ins:List (List UInt8)):((j0 n fs ins).length:Int)=nouts n:=by
 obtain⟨h1,_,_⟩:=E8 h;unfold j0 nouts;rcases H7 h1 with⟨h3 | h3,_⟩|⟨h3,h4,h5⟩|⟨h3,h4⟩|⟨h3,h4⟩
 . rw[qF h3,qA (by omega),qA (by omega)];rfl
 . rw[qA (by omega),qA (by omega),qA (by omega),qA (by omega),qA (by omega),qF h3];rfl
 . rw[qA (by omega),qF h3,qF h3];simp;omega
 . rw[qA (by omega),qA (by omega),qF h3,qA (by omega),qA (by omega)];rfl
 . rw[qA (by omega),qA (by omega),qA (by omega),qF h3,qA (by omega),qA (by omega)];rfl
abbrev H8:=List ((Int × Int) × Nat)
def H8.sum(L:H8):Nat:=(L.map (·.2)).sum
theorem H8.sum_append(a b:H8):H8.sum (a++b)=H8.sum a+H8.sum b:=by simp[H8.sum]
theorem aW2(p:Int × Int)(s:Nat):∀(L:H8),(p,s)∈L->H8.sum (L.filter (fun x=>x.1 != p))+s<=H8.sum L
 | [],h=>by simp at h
 | x::r,h=>by
  have hr:H8.sum (r.filter (fun x=>x.1 != p))<=H8.sum r:=by
   clear h
   induction r with
   | nil=>simp[H8.sum]
   | cons y q ih=>
    rw[List.filter_cons]
    split
    . simp only[H8.sum,qs,zc]at ih ⊢;omega
    . simp only[H8.sum,qs,zc]at ih ⊢;omega
  rcases xP.1 h with rfl | h
  . rw[List.filter_cons,qA (by simp)]
    simp only[H8.sum,qs,zc]at hr ⊢
    omega
  . have ih:=aW2 p s r h
    rw[List.filter_cons]
    split
    . simp only[H8.sum,qs,zc]at ih ⊢;omega
    . simp only[H8.sum,qs,zc]at ih ⊢;omega
theorem ac4(f:Int × Int->Nat):∀(ps:List (Int × Int))(L:H8),ps.Nodup->(∀p∈ps,(p,f p)∈L) ->
 ∃L':H8,H8.sum L'+(ps.map f).sum<=H8.sum L/\∀x∈L,x.1∉ps->x∈L'
 | [],L,_,_=>⟨L,by simp,fun x h _=>h⟩
 | p::r,L,hn,h=>by
  rw[List.nodup_cons]at hn
  have h1:=aW2 p (f p) L (h p (by simp))
  obtain⟨L',h2,h3⟩:=ac4 f r (L.filter (fun x=>x.1 != p)) hn.2 (fun q hq=>by
   rw[List.mem_filter]
   refine⟨h q (by simp[hq]),?_⟩
   have:q≠p:=fun e=>hn.1 (e ▸ hq)
   simpa using this)
  refine⟨L',by simp only[qs,zc];omega,fun x hx hp=>?_⟩
  rw[xP,not_or]at hp
  exact h3 x (List.mem_filter.2 ⟨hx,by simpa using hp.1⟩) hp.2
theorem aW3(k:Nat)(outs:List (List UInt8)):H8.sum ((List.range outs.length).map (fun(j:Nat)=>(((k:Int),(j:Int)),(outs[j]?.getD []).length)))=outs.flatten.length:=by
 unfold H8.sum;rw[xh,am9];congr 1;apply xX;intro i;by_cases hi:i<outs.length
 . simp[hi]
 . simp[hi]
def bl2(fs:List SFile)(ns:List SNode)(k:Nat):Prop:=
 ∃(tk:List (Int × Int))(L:H8),y8 [] ns []=y8 (ns.take k) (ns.drop k) tk/\H8.sum L<=4020*k /\
  ∀p,A7 (ns.take k) p=true->p∉tk->(p,(f9 (j4 fs [] (ns.take k)) p).length)∈L
theorem O5{ahead r:List SNode}{n:SNode}{t:List (Int × Int)}(h:(y8 ahead (n::r) t).1=0):
 j9 n=0/\(B9 ahead n.ins t).1=0/\(r.isEmpty=decide (n.kind=5))/\y8 ahead (n::r) t=y8 (ahead++[n]) r (B9 ahead n.ins t).2:=by
 have h0:=h;unfold y8 at h;by_cases h1:j9 n≠0
 . rw[qF h1]at h;exact absurd h h1
 .
  rw[qA h1]at h;by_cases h2:(B9 ahead n.ins t).1≠0
  . rw[qF h2]at h;exact absurd h h2
  .
   rw[qA h2]at h;by_cases h3:r.isEmpty≠decide (n.kind=5)
   . rw[qF h3]at h;cases h
   . refine⟨by simpa using h1,by simpa using h2,by simpa using h3,?_⟩;conv=>lhs;unfold y8
     rw[qA h1,qA h2,qA h3]
theorem Q6{ns:List SNode}{k:Nat}{n:SNode}(h:ns[k]? = some n):ns.drop k=n::ns.drop (k+1):=by obtain⟨hk,e⟩:=gSm h;rw[<- e,<- qh hk]
theorem Y0{ns:List SNode}{k:Nat}{n:SNode}(h:ns[k]? = some n):ns.take (k+1)=ns.take k++[n]:=by rw[qX,h,xa]
theorem aW4{fs:List SFile}{ns:List SNode}{k:Nat}{n:SNode}(hg:(y8 [] ns []).1=0)(ha:bl2 fs ns k)(hn:ns[k]? = some n):
 j9 n=0/\(∀p∈n.ins,A7 (ns.take k) p=true)/\((ns.drop (k+1)).isEmpty=decide (n.kind=5))/\(n.ins.map (f9 (j4 fs [] (ns.take k)))).flatten.length<=4020*k:=by obtain⟨tk,L,h1,h2,h3⟩:=ha;rw[h1,Q6 hn]at hg;obtain⟨e1,e2,e3,e4⟩:=O5 hg;obtain⟨f1,f2,f3⟩:=U5 _ _ _ e2;refine⟨e1,fun p hp=>(f2 p hp).1,e3,?_⟩;obtain⟨L',g1,_⟩:=ac4 (fun p=>(f9 (j4 fs [] (ns.take k)) p).length) n.ins L f3 (fun p hp=>h3 p (f2 p hp).1 (f2 p hp).2);rw[am9,xh];have:(List.map (List.length ∘ f9 (j4 fs [] (ns.take k))) n.ins).sum=(List.map (fun p=>(f9 (j4 fs [] (ns.take k)) p).length) n.ins).sum:=rfl;omega
theorem bl3(fs:List SFile)(ns:List SNode):bl2 fs ns 0:=⟨[],[],by simp,by simp[H8.sum],fun p h=>by
 obtain⟨i,j,n,_,hn,_⟩:=O4 h
 simp at hn⟩
theorem by6{fs:List SFile}{ns:List SNode}{k:Nat}{n:SNode}(hf:∀f∈fs,f.b.length<=4000)(h60:ns.length<=60)(hg:(y8 [] ns []).1=0)(ha:bl2 fs ns k)(hn:ns[k]? = some n):bl2 fs ns (k+1):=by
 have hk:k<ns.length:=(gSm hn).1;obtain⟨q1,q2,q3,q4⟩:=aW4 hg ha hn;obtain⟨tk,L,h1,h2,h3⟩:=ha;have hg0:=hg;rw[h1,Q6 hn]at hg;obtain⟨e1,e2,e3,e4⟩:=O5 hg;obtain⟨f1,f2,f3⟩:=U5 _ _ _ e2;obtain⟨L',g1,g2⟩:=ac4 (fun p=>(f9 (j4 fs [] (ns.take k)) p).length) n.ins L f3 (fun p hp=>h3 p (f2 p hp).1 (f2 p hp).2);have hml:=ax5 e1 fs hf (n.ins.map (f9 (j4 fs [] (ns.take k)))) (by simp) (by omega);obtain⟨outs,ho⟩:=qE (j0 n fs (n.ins.map (f9 (j4 fs [] (ns.take k)))));have Aw:=o5 e1 fs (n.ins.map (f9 (j4 fs [] (ns.take k))));have Am:=aq1 fs ns k hn;rw[<- ho]at hml Aw Am;refine⟨tk++n.ins,L'++(List.range outs.length).map (fun(j:Nat)=>(((k:Int),(j:Int)),(outs[j]?.getD []).length)),?_,?_,?_⟩
 . rw[h1,Q6 hn,e4,f1,Y0 hn]
 . rw[H8.sum_append,aW3];have hs:(n.ins.map (f9 (j4 fs [] (ns.take k)))).flatten.length=(List.map (fun p=>(f9 (j4 fs [] (ns.take k)) p).length) n.ins).sum:=by rw[am9,xh];rfl
   omega
 .
  intro p hp hpt;rw[xB,not_or]at hpt;obtain⟨i,j,m,rfl,hm,hj⟩:=O4 hp;rw[xB];have hik:i<(ns.take (k+1)).length:=(gSm hm).1;rw[qL]at hik;rw[Am];by_cases hlt:i<k
  .
   left;have hp':A7 (ns.take k) ((i:Int),(j:Int))=true:=by
    unfold A7;have hm':(ns.take k)[i]? = some m:=by rw[xj hlt];rwa [xj (by omega)]at hm
    simp only[qq,hm',qu,xG,zA,xx];refine⟨⟨⟨by omega,?_⟩,by omega⟩,hj⟩;rw[qL];omega
   have hin:=h3 _ hp' hpt.1;have hpa:f9 (j4 fs [] (ns.take k)++[outs]) ((i:Int),(j:Int))=f9 (j4 fs [] (ns.take k)) ((i:Int),(j:Int)):=by unfold f9;rw[xe (by rw[I2,qL];simp;omega)]
   rw[hpa];exact g2 _ hin hpt.2
  . right;have Rz:i=k:=by omega
    subst Rz;have hmn:m=n:=by rw[xj (by omega),hn]at hm;injection hm with hm;exact hm.symm
    subst hmn;rw[qg];refine⟨j,xt.2 (by omega),?_⟩;unfold f9;rw[qj (by rw[I2,qL];simp;omega),I2,qL,ql (by omega)];simp
theorem aW5{fs:List SFile}{ns:List SNode}(hf:∀f∈fs,f.b.length<=4000)(h60:ns.length<=60)(hg:(y8 [] ns []).1=0):∀k,k<=ns.length->bl2 fs ns k
 | 0,_=>bl3 fs ns
 | k+1,h=>by
  have hk:k<ns.length:=by omega
  exact by6 hf h60 hg (aW5 hf h60 hg k (by omega)) (gEl hk)
theorem aq2{ns:List SNode}(h:gchk ns=0):ns.length<=60/\(y8 [] ns []).1=0/\0<ns.length/\((y8 [] ns []).2.length:Int)=E7 ns:=by
 unfold gchk at h;by_cases h1:60<ns.length
 . rw[qF h1]at h;cases h
 .
  rw[qA h1]at h;by_cases h2:(y8 [] ns []).1≠0
  . rw[qF h2]at h;exact absurd h h2
  . rw[qA h2]at h;by_cases h3:ns.length=0\/((y8 [] ns []).2.length:Int)≠E7 ns
    . rw[qF h3]at h;cases h
    . refine⟨by omega,by simpa using h2,by omega,?_⟩;exact Decidable.byContradiction fun hc=>h3 (.inr hc)
theorem aL1{fs:List SFile}{ns:List SNode}(h:gchk ns=0)(hf:∀f∈fs,f.b.length<=4000){k:Nat}{n:SNode}(hn:ns[k]? = some n):
 j9 n=0/\(∀p∈n.ins,A7 (ns.take k) p=true)/\((n.kind=5) ↔ k+1=ns.length)/\(n.ins.map (f9 (j4 fs [] (ns.take k)))).flatten.length<=241200:=by
 obtain⟨h1,h2,h3,_⟩:=aq2 h;have hk:k<ns.length:=(gSm hn).1;obtain⟨q1,q2,q3,q4⟩:=aW4 h2 (aW5 hf h1 h2 k (by omega)) hn;refine⟨q1,q2,?_,by omega⟩;constructor
 . intro e;rw[qd e]at q3;have:(ns.drop (k+1)).length=0:=by rw[xC.1 q3];rfl
   rw[qo]at this;omega
 . intro e;have:(ns.drop (k+1)).isEmpty=true:=by rw[xC];exact List.drop_eq_nil_of_le (by omega)
   rw[this]at q3;exact qc q3.symm
theorem bl6(fs:List SFile)(ns:List SNode){i k:Nat}{m:SNode}(hi:ns[i]? = some m)(hik:i<k)(hk:k<=ns.length):(j4 fs [] (ns.take k))[i]? = some (j0 m fs (m.ins.map (f9 (j4 fs [] (ns.take i))))):=by
 have h1:ns.take k=ns.take (i+1)++(ns.take k).drop (i+1):=by have:=qk (i+1) (ns.take k);rw[List.take_take,ql (by omega)]at this;exact this.symm
 have hl:(j4 fs [] (ns.take i)).length=i:=by have:i<ns.length:=(gSm hi).1;rw[I2,qL];simp;omega
 rw[h1,Q5,aj2]
 . rw[aq1 fs ns i hi,qj (by omega),hl];simp
 . rw[aq1 fs ns i hi,qG,hl];simp
theorem bL0{fs:List SFile}{ns:List SNode}{j:Nat}(hj:j<=ns.length){p:Int × Int}(hp:A7 (ns.take j) p=true):f9 (j4 fs [] ns) p=f9 (j4 fs [] (ns.take j)) p:=by obtain⟨i,q,m,rfl,hm,hq⟩:=O4 hp;have hij:i<(ns.take j).length:=(gSm hm).1;rw[qL]at hij;exact bl1 fs ns j (by simp) (by simp;omega) hj
theorem A2{n:SNode}(h:j9 n=0):n.ins.length<=5/\(n.kind=2\/n.kind=3\/n.kind=5->n.ins.length=1):=by
 obtain⟨h1,h2,_⟩:=E8 h;unfold J0 at h2;by_cases g1:n.kind=1
 . rw[qF g1]at h2;have:=qc h2;exact⟨by omega,by omega⟩
 . rw[qA g1]at h2;by_cases g4:n.kind=4
   . rw[qF g4]at h2;exact⟨(qc h2).2,by omega⟩
   . rw[qA g4]at h2;have:=qc h2;exact⟨by omega,fun _=>this⟩
theorem aW6{ns:List SNode}{fs:List SFile}{n:SNode}(h:ns[ns.length-1]? = some n):sunk ns fs=f9 (j4 fs [] ns) (n.ins.head?.getD (0,0)):=by unfold sunk;rw[List.getLast?_eq_getElem?,h];rfl
def noC:Cmd:=⟨0,[],0⟩
abbrev PD:=List SNode × List (Int × Int)
def srcN(f:List UInt8):SNode:=⟨1,f,noC,0,0,[]⟩
def splitN(w:Nat)(ps:List (Int × Int)):SNode:=⟨2,[],noC,0,(w:Int),ps⟩
def V6(c:Cmd)(p:Int × Int):SNode:=⟨3,[],c,0,0,[p]⟩
def ah1(how:Int)(c:Cmd)(ps:List (Int × Int)):SNode:=⟨4,[],c,how,0,ps⟩
def aa0(f:List UInt8)(ps:List (Int × Int)):SNode:=⟨5,f,noC,0,0,ps⟩
def l5(i k:Nat):List (Int × Int):=(List.range k).map fun(j:Nat)=>((i:Int),(j:Int))
def ab1(i:Nat):Int × Int:=((i:Int),0)
def pSrc(d:PD)(f:List UInt8):PD:=(d.1++[srcN f],d.2++[ab1 d.1.length])
def I3(how:Int)(c:Cmd)(d:PD):PD:=(d.1++[ah1 how c d.2],[ab1 d.1.length])
def E9(d:PD):PD:=if 1<d.2.length then I3 1 noC d else d
def M6(w:Nat)(d:PD):PD:=if d.2.length=1/\w≠1 then (d.1++[splitN w d.2],l5 d.1.length w) else d
def ah2(c:Cmd)(d:PD)(p:Int × Int):PD:=(d.1++[V6 c p],d.2++[ab1 d.1.length])
def J9(c:Cmd)(d:PD):PD:=d.2.foldl (ah2 c) (d.1,[])
def aL2(w:Nat)(c:Cmd)(d:PD):PD:=if w=1\/N9 c.kind=true then d else I3 (C9 c.kind) (if C9 c.kind=4 then c else noC) d
def pCmd(w:Nat)(d:PD)(c:Cmd):PD:=aL2 w c (J9 c (M6 w d))
def D8(fr:List (List UInt8)):PD:=fr.foldl pSrc ([],[])
def aL3(fr:List (List UInt8)):PD:=E9 (D8 fr)
def J1(w:Nat)(fr:List (List UInt8))(cs:List Cmd):PD:=cs.foldl (pCmd w) (aL3 fr)
def as3(tu:List UInt8)(d:PD):List SNode:=d.1++[aa0 tu d.2]
def plan(l:SLine)(w:Nat):List SNode:=as3 l.tu (E9 (J1 w l.fr l.cs))
theorem L2(i k:Nat):(l5 i k).length=k:=by simp[l5]
theorem Q7(i:Nat):l5 i 1=[ab1 i]:=by simp[l5,ab1]
theorem bl7(fr:List (List UInt8))(f:List UInt8):D8 (fr++[f])=pSrc (D8 fr) f:=by simp[D8]
theorem by7(w:Nat)(fr:List (List UInt8))(cs:List Cmd)(c:Cmd):J1 w fr (cs++[c])=pCmd w (J1 w fr cs) c:=by simp[J1]
theorem ah3(c:Cmd):∀(op:List (Int × Int))(d:PD),(op.foldl (ah2 c) d).1.length=d.1.length+op.length/\(op.foldl (ah2 c) d).2.length=d.2.length+op.length
 | [],d=>by simp
 | p::r,d=>by
  have:=ah3 c r (ah2 c d p)
  simp only[zQ,qY]
  simp only[ah2,qG,qY,qy]at this ⊢
  omega
theorem Y1:∀(fr:List (List UInt8))(d:PD),(fr.foldl pSrc d).1.length=d.1.length+fr.length/\(fr.foldl pSrc d).2.length=d.2.length+fr.length
 | [],d=>by simp
 | p::r,d=>by
  have:=Y1 r (pSrc d p)
  simp only[zQ,qY]
  simp only[pSrc,qG,qY,qy]at this ⊢
  omega
theorem aF0{d:PD}(h:1<=d.2.length):(E9 d).2.length=1/\d.1.length<=(E9 d).1.length/\(E9 d).1.length<=d.1.length+1:=by
 unfold E9;split
 . simp[I3]
 . omega
theorem aW7{fr:List (List UInt8)}(h1:1<=fr.length)(h4:fr.length<=4):(aL3 fr).2.length=1/\(aL3 fr).1.length<=5:=by obtain⟨a,b⟩:=Y1 fr ([],[]);simp only[qy,qa]at a b;obtain⟨c,d,e⟩:=aF0 (d:=D8 fr) (by unfold D8;omega);unfold aL3;unfold D8 at c d e ⊢;omega
theorem av4{w:Nat}{d:PD}(hw:1<=w/\w<=5)(h:d.2.length=1\/d.2.length=w):(M6 w d).2.length=w/\d.1.length<=(M6 w d).1.length/\(M6 w d).1.length<=d.1.length+1:=by
 unfold M6;split
 . simp[L2]
 .
  rename_i h1;rcases h with h | h
  . have:w=1:=by by_cases e:w=1;exact e;exact absurd ⟨h,e⟩ h1
    omega
  . omega
theorem bl8{w:Nat}{d:PD}(hw:1<=w/\w<=5)(h:d.2.length=1\/d.2.length=w)(c:Cmd):((pCmd w d c).2.length=1\/(pCmd w d c).2.length=w)/\(pCmd w d c).1.length<=d.1.length+7:=by
 obtain⟨a,b,e⟩:=av4 hw h;have w1:=ah3 c (M6 w d).2 ((M6 w d).1,[]);simp only[qy,qa]at w1;unfold pCmd aL2;split
 . unfold J9;omega
 . unfold J9;refine⟨Or.inl rfl,?_⟩;simp only[I3,qG,qY,qy];omega
theorem aW8{w:Nat}{fr:List (List UInt8)}(hw:1<=w/\w<=5)(h1:1<=fr.length)(h4:fr.length<=4)(cs:List Cmd):((J1 w fr cs).2.length=1\/(J1 w fr cs).2.length=w)/\(J1 w fr cs).1.length<=5+7*cs.length:=by
 have gen:∀(cs:List Cmd)(d:PD),(d.2.length=1\/d.2.length=w)->((cs.foldl (pCmd w) d).2.length=1\/(cs.foldl (pCmd w) d).2.length=w)/\(cs.foldl (pCmd w) d).1.length<=d.1.length+7*cs.length:=by
  intro cs
  induction cs with
  | nil=>intro d h;simp[h]
  | cons c r ih=>
   intro d h
   obtain⟨a,b⟩:=bl8 hw h c
   obtain⟨e,f⟩:=ih (pCmd w d c) a
   simp only[zQ,qY]
   exact⟨e,by omega⟩
 obtain⟨a,b⟩:=aW7 h1 h4;obtain⟨e,f⟩:=gen cs (aL3 fr) (Or.inl a);unfold J1;exact⟨e,by omega⟩
theorem aL4{l:SLine}{w:Nat}(hw:1<=w/\w<=5)(h:lchk l=0):(plan l w).length<=49/\(E9 (J1 w l.fr l.cs)).2.length=1:=by
 have h0:¬(l.fr.length<1\/4<l.fr.length\/6<l.cs.length):=by intro h1;unfold lchk at h;rw[qF h1]at h;cases h
 obtain⟨a,b⟩:=aW8 hw (by omega:1<=l.fr.length) (by omega) l.cs;obtain⟨c,d,e⟩:=aF0 (d:=J1 w l.fr l.cs) (by omega);refine⟨?_,c⟩;unfold plan as3;simp only[qG,qY,qy];omega
theorem aJ8{α:Type}[DecidableEq α]:∀(t P:List α),t.Nodup->(∀x∈t,x∈P)->t.length<=P.length
 | [],P,_,_=>qP _
 | x::r,P,hn,hs=>by
  rw[List.nodup_cons]at hn
  have hx:x∈P:=hs x (by simp)
  have ih:=aJ8 r (P.erase x) hn.2 (fun y hy=>by
   have hne:y≠x:=fun e=>hn.1 (e ▸ hy)
   exact (List.mem_erase_of_ne hne).2 (hs y (by simp[hy])))
  rw[List.length_erase_of_mem hx]at ih
  have:0<P.length:=List.length_pos_of_mem hx
  simp
  omega
theorem bY7{α:Type}[DecidableEq α]{t P:List α}(ht:t.Nodup)(hP:P.Nodup)(hs:∀x∈t,x∈P):t.length=P.length ↔ ∀x∈P,x∈t:=by
 constructor
 . intro h x hx;exact Decidable.byContradiction fun hc=>by have:=aJ8 (x::t) P (List.nodup_cons.2 ⟨hc,ht⟩) (fun y hy=>by rcases xP.1 hy with rfl | hy;exact hx;exact hs y hy);simp at this;omega
 . intro h;have h1:=aJ8 t P ht hs;have h2:=aJ8 P t hP h;omega
def Q8:Nat->List SNode->List (Int × Int)
 | _,[]=>[]
 | i,n::r=>(List.range (nouts n).toNat).map (fun(k:Nat)=>((i:Int),(k:Int)))++Q8 (i+1) r
theorem S4:∀(ns:List SNode)(i:Nat)(p:Int × Int),p∈Q8 i ns ↔ ∃(j k:Nat)(n:SNode),ns[j]? = some n/\(k:Int)<nouts n/\p=(((i+j:Nat):Int),(k:Int))
 | [],i,p=>by simp[Q8]
 | m::r,i,p=>by
  unfold Q8
  rw[xB,S4 r (i+1) p]
  constructor
  . rintro (h | ⟨j,k,n,h1,h2,rfl⟩)
    . obtain⟨k,hk,rfl⟩:=qg.1 h
      have:=xt.1 hk
      exact⟨0,k,m,rfl,by omega,by simp⟩
    . exact⟨j+1,k,n,by simpa using h1,h2,by congr 2;omega⟩
  .
   rintro⟨j,k,n,h1,h2,rfl⟩
   cases j with
   | zero=>
    left
    simp at h1
    subst h1
    exact qg.2 ⟨k,xt.2 (by omega),by simp⟩
   | succ j=>exact .inr ⟨j,k,n,by simpa using h1,h2,by congr 2;omega⟩
theorem al7:∀(ns:List SNode)(i:Nat),(Q8 i ns).Nodup
 | [],i=>List.nodup_nil
 | m::r,i=>by
  unfold Q8
  rw[List.nodup_append]
  refine⟨?_,al7 r (i+1),?_⟩
  . rw[zt,List.pairwise_map]
    refine List.Pairwise.imp ?_ (zt.1 List.nodup_range)
    intro a b hab e
    injection e with _ e
    exact hab (by omega)
  . intro x hx y hy e
    obtain⟨k,_,rfl⟩:=qg.1 hx
    obtain⟨j,k2,n,_,_,rfl⟩:=(S4 r (i+1) y).1 hy
    injection e with e _
    omega
theorem as4:∀(ns:List SNode)(i:Nat),(∀n∈ns,0<=nouts n)->((Q8 i ns).length:Int)=E7 ns
 | [],i,_=>rfl
 | m::r,i,h=>by
  unfold Q8 E7
  rw[qG,qM,List.length_range,qs,zc]
  have ih:=as4 r (i+1) (fun n hn=>h n (by simp[hn]))
  unfold E7 at ih
  have:=h m (by simp)
  omega
theorem an0{a b:List SNode}{p:Int × Int}(h:A7 a p=true):A7 (a++b) p=true:=by obtain⟨i,k,n,rfl,hn,hk⟩:=O4 h;have hi:i<a.length:=(gSm hn).1;unfold A7;simp only[qq,xe hi,hn,qu,xG,zA,xx];refine⟨⟨⟨by omega,?_⟩,by omega⟩,hk⟩;rw[qG];omega
theorem aC1:∀(rest ahead:List SNode)(t:List (Int × Int)),(y8 ahead rest t).1=0->t.Nodup->(∀p∈t,A7 ahead p=true)->(y8 ahead rest t).2.Nodup/\(∀p∈(y8 ahead rest t).2,A7 (ahead++rest) p=true)/\∀n∈rest,j9 n=0
 | [],ahead,t,_,h1,h2=>by
  refine⟨by simpa[y8]using h1,?_,by intro n hn;cases hn⟩
  intro p hp
  rw[xH]
  exact h2 p (by simpa[y8]using hp)
 | n::r,ahead,t,h,h1,h2=>by
  obtain⟨e1,e2,e3,e4⟩:=O5 h
  obtain⟨f1,f2,f3⟩:=U5 _ _ _ e2
  rw[e4,f1]at h ⊢
  obtain⟨g1,g2,g3⟩:=aC1 r (ahead++[n]) (t++n.ins) h (by
   rw[List.nodup_append]
   exact⟨h1,f3,fun x hx y hy e=>(f2 y hy).2 (e ▸ hx)⟩) (by
   intro p hp
   rcases xB.1 hp with hp | hp
   . exact an0 (h2 p hp)
   . exact an0 (f2 p hp).1)
  refine⟨g1,by simpa using g2,?_⟩
  intro m hm
  rcases xP.1 hm with rfl | hm
  . exact e1
  . exact g3 m hm
theorem aj3{n:SNode}(h:j9 n=0):0<=nouts n:=by have:=o5 h [] [];omega
theorem bL1{ns:List SNode}{t:List (Int × Int)}(h:y8 [] ns []=(0,t)):(t.length:Int)=E7 ns ↔ ∀(i k:Nat)(n:SNode),ns[i]? = some n->(k:Int)<nouts n->((i:Int),(k:Int))∈t:=by
 obtain⟨g1,g2,g3⟩:=aC1 ns [] [] (by rw[h]) List.nodup_nil (by intro p hp;cases hp);rw[h]at g1 g2;simp only[xn]at g1 g2;have hl:=as4 ns 0 (fun n hn=>aj3 (g3 n hn));have Jr:∀p∈t,p∈Q8 0 ns:=fun p hp=>by obtain⟨i,k,n,rfl,hn,hk⟩:=O4 (g2 p hp);exact (S4 ns 0 _).2 ⟨i,k,n,hn,hk,by simp⟩
 have key:=bY7 g1 (al7 ns 0) Jr;constructor
 . intro e i k n hn hk;exact key.1 (by omega) _ ((S4 ns 0 _).2 ⟨i,k,n,hn,hk,by simp⟩)
 .
  intro e
  have:=key.2 (fun p hp=>by
   obtain⟨j,k,n,h1,h2,rfl⟩:=(S4 ns 0 p).1 hp
   simpa using e j k n h1 h2)
  omega
theorem by9(l:List UInt8)(c:UInt8):∀(acc m:Nat),Lib.parseUint10 acc l=.ok m->Lib.parseUint10 acc (l++[c])=Lib.parseUint10 m [c]:=by
 induction l with
 | nil=>
  intro acc m h
  simp only[Lib.parseUint10]at h
  injection h with h
  rw[h];rfl
 | cons a l ih=>
  intro acc m h
  rw[zG,Lib.parseUint10]
  rw[Lib.parseUint10]at h
  split at h
  .
   rename_i h1
   rw[qF h1]
   split at h
   . cases h
   .
    rename_i h2
    rw[qA h2]
    split at h
    . cases h
    . rename_i h3
      rw[qA h3]
      exact ih _ _ h
  . cases h
theorem aj6(d:Nat)(h:d<10):(UInt8.ofNat (48+d)).toNat=48+d:=by rw[UInt8.toNat_ofNat'];exact Nat.mod_eq_of_lt (by omega)
theorem bd8:∀u:Nat,u<=1000000->Lib.parseUint10 0 (Lib.decDigits u)=.ok u:=by
 intro u
 induction u using Nat.strongRecOn with
 | ind u ih=>
  intro hu
  rw[Lib.decDigits]
  split
  . rename_i h
    simp only[Lib.parseUint10,aj6 u h]
    rw[qF (by omega),qA (by omega),qA (by omega)]
    congr 1;omega
  . rename_i h
    rw[by9 _ _ _ _ (ih (u / 10) (by omega) (by omega))]
    simp only[Lib.parseUint10,aj6 (u % 10) (Nat.mod_lt _ (by omega))]
    rw[qF (by omega),qA (by omega),qA (by omega)]
    congr 1;omega
theorem bl9:∀u:Nat,∃c r,Lib.decDigits u=c::r/\48<=c.toNat/\c.toNat<=57:=by
 intro u
 induction u using Nat.strongRecOn with
 | ind u ih=>
  rw[Lib.decDigits]
  split
  . rename_i h
    exact⟨_,[],rfl,by rw[aj6 u h];omega,by rw[aj6 u h];omega⟩
  . rename_i h
    obtain⟨c,r,e,h1,h2⟩:=ih (u / 10) (by omega)
    exact⟨c,r++[UInt8.ofNat (48+u % 10)],by rw[e];rfl,h1,h2⟩
theorem ax6(k:Nat)(h:k<=1000000):Lib.atoiAll (Lib.itoa (k:Int))=.ok (k:Int):=by
 have e:Lib.itoa (k:Int)=Lib.decDigits k:=by unfold Lib.itoa;rw[qA (by omega)];simp
 obtain⟨c,r,e1,h1,h2⟩:=bl9 k;have hp:=bd8 k h;rw[e];rw[e1]at hp ⊢;rw[Lib.atoiAll_plain c r (by omega) (by omega)];unfold Lib.parseMag;rw[qA (by simp),hp];unfold Lib.signless;simp only;rw[qA (by omega)]
theorem bY8{s:List UInt8}{n:Int}(h:Lib.atoiAll s=.ok n):numOf s=if 0<=n/\n<=4000/\Lib.itoa n=s then n.toNat else 0:=by
 split
 . rename_i hc;obtain⟨h0,h1,h2⟩:=hc;obtain⟨k,rfl⟩:=xW h0;rw[<- h2,qq,aK7 k (by omega)]
 . rename_i hc;apply aK8;intro k hk e;rw[<- e,ax6 k (by omega)]at h;injection h with h;exact hc ⟨by omega,by omega,by rw[<- h];exact e⟩
theorem bL2{s:List UInt8}(h:∀n,Lib.atoiAll s≠.ok n):numOf s=0:=by apply aK8;intro k hk e;exact h k (by rw[<- e];exact ax6 k (by omega))
theorem af8:∀l:List Int,G8 l=0 ↔ ∀e∈l,e=0
 | []=>by simp[G8]
 | e::r=>by
  unfold G8
  split
  . rename_i h
    rw[af8 r];simp[h]
  . rename_i h
    simp[h]
theorem aC2{x:SLine}(h:lchk x=0):1<=x.fr.length/\x.fr.length<=4/\x.cs.length<=6/\x.fr.all isWord=true/\isWord x.tu=true/\∀c∈x.cs,chk c=0:=by
 unfold lchk at h;split at h
 . cases h
 .
  split at h
  . cases h
  . split at h
    . cases h
    . rename_i h1 h2 h3;refine⟨by omega,by omega,by omega,by simpa using h2,by simpa using h3,fun c hc=>?_⟩;exact (af8 _).1 h (chk c) (qg.2 ⟨c,hc,rfl⟩)
theorem aC3{ls:List SLine}(h:schk ls=0):ls.length<=6/\∀x∈ls,lchk x=0:=by
 unfold schk at h;split at h
 . cases h
 . exact⟨by omega,fun x hx=>(af8 _).1 h _ (qg.2 ⟨x,hx,rfl⟩)⟩
theorem aq3{p:Option (List UInt8)}{f:SFile}(h:fbad p f=0):isWord f.name=true/\f.b.length<=4000/\∀q,p=some q->q<f.name:=by
 unfold fbad at h;split at h
 . cases h
 .
  split at h
  . cases h
  . rename_i h1 h2;refine⟨by simpa using h1,by omega,?_⟩;intro q hq;subst hq;simp only at h;split at h
    . assumption
    . cases h
theorem aJ9{p:Option (List UInt8)}{f:SFile}(h1:isWord f.name=true)(h2:f.b.length<=4000)(h3:∀q,p=some q->q<f.name):fbad p f=0:=by
 unfold fbad;rw[qA (by simp[h1]),qA (by omega)]
 cases p with
 | none=>rfl
 | some q=>simp only;rw[qF (h3 q rfl)]
theorem F4{p:Option (List UInt8)}{f:SFile}{r:List SFile}:j8 p (f::r)=0 ↔ fbad p f=0/\j8 (some f.name) r=0:=by
 rw[j8];split
 . rename_i h;simp[h]
 . rename_i h;simp[h]
theorem U0:∀{l:List SFile}{q:List UInt8},j8 (some q) l=0->∀f∈l,q<f.name
 | [],_,_,f,hf=>by cases hf
 | g::r,q,h,f,hf=>by
  rw[F4]at h
  have h1:=(aq3 h.1).2.2 q rfl
  rw[xP]at hf
  rcases hf with rfl | hf
  . exact h1
  . exact zd h1 (U0 h.2 f hf)
theorem aF1{a b:List UInt8}(h:a<b):a≠b:=by rintro rfl;exact zN a h
theorem ae0(f:SFile)(r:List SFile)(n:List UInt8):q8 (f::r) n=if f.name=n then f.b else q8 r n:=by
 unfold q8;by_cases h:f.name=n
 . simp[h]
 . rw[List.find?_cons_of_neg (by simp[h]),qA h]
theorem aF2:∀{l:List SFile}{n:List UInt8},(∀f∈l,f.name≠n)->q8 l n=[]
 | [],_,_=>rfl
 | f::r,n,h=>by
  rw[ae0,qA (h f (by simp)),aF2 (fun g hg=>h g (by simp[hg]))]
theorem av5:∀{l:List SFile}{p:Option (List UInt8)},j8 p l=0->∀f∈l,q8 l f.name=f.b
 | [],_,_,f,hf=>by cases hf
 | g::r,p,h,f,hf=>by
  rw[F4]at h
  rw[xP]at hf
  rw[ae0]
  rcases hf with rfl | hf
  . rw[qF rfl]
  . rw[qA (aF1 (U0 h.2 f hf)),av5 h.2 f hf]
theorem aC4{a b:List UInt8}(h1:¬a<b)(h2:¬b=a):b<a:=by
 have h3:b<=a:=List.not_lt.1 h1;by_cases h:b<a
 . exact h
 . exact absurd (List.le_antisymm h3 (List.not_lt.1 h)) h2
theorem ah4:∀(l:List SFile)(p:Option (List UInt8))(n b:List UInt8),j8 p l=0->isWord n=true->b.length<=4000->(∀q,p=some q->q<n)->j8 p (putF l n b)=0
 | [],p,n,b,_,hn,hb,hp=>by
  rw[putF,F4]
  exact⟨aJ9 hn hb hp,rfl⟩
 | f::r,p,n,b,h,hn,hb,hp=>by
  rw[F4]at h
  obtain⟨h1,h2,h3⟩:=aq3 h.1
  rw[putF]
  split
  . rename_i hf
    rw[F4]
    exact⟨aJ9 hn hb hp,by rw[hf]at h;exact h.2⟩
  .
   rename_i hf
   split
   . rename_i hlt
     rw[F4,F4]
     exact⟨aJ9 hn hb hp,aJ9 h1 h2 (by intro q hq;injection hq with hq;subst hq;exact hlt),h.2⟩
   .
    rename_i hlt
    rw[F4]
    refine⟨h.1,ah4 r _ n b h.2 hn hb ?_⟩
    intro q hq
    injection hq with hq
    subst hq
    exact aC4 hlt hf
theorem aF3:∀{l:List SFile}{p:Option (List UInt8)},j8 p l=0->l.Pairwise (fun f g=>f.name<g.name)
 | [],_,_=>List.Pairwise.nil
 | f::r,p,h=>by
  rw[F4]at h
  exact List.Pairwise.cons (U0 h.2) (aF3 h.2)
theorem aL5:∀(l:List SFile)(p:Option (List UInt8))(n b:List UInt8),j8 p l=0->(putF l n b).Perm (l.filter (fun f=>f.name != n)++[⟨n,b⟩])
 | [],p,n,b,_=>by simp[putF]
 | f::r,p,n,b,h=>by
  rw[F4]at h
  rw[putF]
  split
  .
   rename_i hf
   have hr:r.filter (fun f=>f.name != n)=r:=List.filter_eq_self.2 (fun g hg=>by
    have:=U0 h.2 g hg
    rw[hf]at this
    simpa using (aF1 this).symm)
   rw[List.filter_cons_of_neg (by simp[hf]),hr]
   exact (List.perm_append_singleton _ _).symm
  .
   rename_i hf
   rw[List.filter_cons_of_pos (by simpa using hf)]
   split
   . rename_i hlt
     have hr:r.filter (fun f=>f.name != n)=r:=List.filter_eq_self.2 (fun g hg=>by
      have:=zd hlt (U0 h.2 g hg)
      simpa using (aF1 this).symm)
     rw[hr]
     exact (List.perm_append_singleton _ _).symm
   . exact (aL5 r _ n b h.2).cons f
theorem bz0{l d:List SFile}{n b:List UInt8}(h:j8 none l=0)(hn:isWord n=true)(hb:b.length<=4000)(hd:d.Perm (l.filter (fun f=>f.name != n)++[⟨n,b⟩]))(hs:d.Pairwise (fun f g=>f.name<=g.name)):d=putF l n b:=by have hp:=aL5 l none n b h;have hsp:=aF3 (ah4 l none n b h hn hb (by intro q hq;cases hq));refine (hd.trans hp.symm).eq_of_pairwise (le:=fun f g=>f.name<=g.name) ?_ hs (hsp.imp (fun h=>List.le_of_lt h));intro f g hf hg h1 h2;have e:f.name=g.name:=List.le_antisymm h1 h2;have hf':=(hd.trans hp.symm).mem_iff.1 hf;have hfb:=av5 (ah4 l none n b h hn hb (by intro q hq;cases hq)) f hf';have hgb:=av5 (ah4 l none n b h hn hb (by intro q hq;cases hq)) g hg;rw[e,hgb]at hfb;obtain⟨f1,f2⟩:=f;obtain⟨g1,g2⟩:=g;simp only at e hfb;rw[e,hfb]
theorem bz1{l:List SFile}{n b:List UInt8}(h:j8 none l=0):(putF l n b).length=(l.filter (fun f=>f.name != n)).length+1:=by have:=(aL5 l none n b h).length_eq;simpa using this
theorem G2{l:List SFile}(h:fchk l=0):l.length<=12/\j8 none l=0:=by
 unfold fchk at h;split at h
 . cases h
 . exact⟨by omega,h⟩
theorem cj6{l:List SFile}(h1:l.length<=12)(h2:j8 none l=0):fchk l=0:=by unfold fchk;rw[qA (by omega),h2]
theorem bL3{l:List SFile}{n b:List UInt8}(h:(putS l n b).2=0):isWord n=true/\b.length<=4000/\(putF l n b).length<=12/\(putS l n b).1=putF l n b:=by
 unfold putS at h ⊢;split at h
 . cases h
 .
  split at h
  . cases h
  . split at h
    . cases h
    . rename_i h1 h2 h3;rw[qA h1,qA h2,qA h3];exact⟨by simpa using h1,by omega,by omega,rfl⟩
theorem aj7{l:List SFile}{n b:List UInt8}(hl:fchk l=0)(h:(putS l n b).2=0):fchk (putS l n b).1=0:=by obtain⟨h1,h2,h3,h4⟩:=bL3 h;rw[h4];exact cj6 h3 (ah4 l none n b (G2 hl).2 h1 h2 (by intro q hq;cases hq))
def whole(b:List UInt8):Prop:=ended (lines b)=b
theorem aF4{l:List (List UInt8)}(h:∀s∈l,(10:UInt8)∉s):whole (ended l):=by unfold whole;rw[I1 l h]
theorem aq4:whole []:=rfl
theorem bd9{a:List UInt8}(h:whole a)(l:List (List UInt8))(hl:∀s∈l,(10:UInt8)∉s):whole (a++ended l):=by
 have e:a++ended l=ended (lines a++l):=by rw[G6,h]
 rw[e];refine aF4 (fun s hs=>?_);rcases xB.1 hs with hs | hs
 . exact E6 a s hs
 . exact hl s hs
theorem as5(l:List SFile):∀(fr:List (List UInt8))(acc:List UInt8),whole acc->acc.length<=4000->whole (M7 l fr acc).1/\(M7 l fr acc).1.length<=4000
 | [],acc,h,hl=>⟨h,hl⟩
 | s::r,acc,h,hl=>by
  rw[M7]
  split
  . exact⟨aq4,by simp⟩
  . rename_i h1
    exact as5 l r _ (bd9 h _ (E6 _)) (by omega)
theorem ab2(l:List SFile)(fr:List (List UInt8)):whole (gather l fr).1/\(gather l fr).1.length<=4000:=by
 unfold gather;split
 . exact⟨aq4,by simp⟩
 . exact as5 l fr [] aq4 (by simp)
theorem bL4{c:Cmd}(hc:chk c=0){b:List UInt8}:whole (ended (made c (lines b))):=aF4 (Z9 c hc _ (E6 b))
theorem bz2(c:Cmd)(h:chk c=0)(ls:List (List UInt8))(hl:ls.length<=4000):(ended (made c ls)).length<=max (ended ls).length 6:=by
 have hk:=X6 c h;have:c.kind=1\/c.kind=2\/c.kind=3\/c.kind=4\/c.kind=5\/c.kind=6\/c.kind=7\/c.kind=8\/c.kind=9\/c.kind=10:=by omega
 rcases this with e | e | e | e | e | e | e | e | e | e
 . rw[made1 c e];have:=A1 (zB (p:=fun s=>Lib.contains s c.word) (l:=ls));omega
 . rw[made2 c e];have:=A1 (zB (p:=fun s=>!Lib.contains s c.word) (l:=ls));omega
 . rw[made3 c e];have:=G7 (J8 (c.word.getD 0 0) (c.word.getD 1 0)) (fun s=>by simp[J8]) ls;omega
 . rw[aV8 c e];have:=G7 (E4 c.n) (am3 c.n) ls;omega
 . rw[aV9 c e];have:=G7 List.reverse (fun s=>by simp) ls;omega
 . rw[aE7 c e];have:=V5 (F7 ls);omega
 . rw[aK6 c e];have:=A1 (Z8 ls);omega
 . rw[aE8 c e];have:=bk8 ls.length (by omega);simp[ended];omega
 . rw[ax1 c e];have:=A1 (List.take_sublist c.n.toNat ls);omega
 . rw[av2 c e];have:=A1 (List.drop_sublist (ls.length-c.n.toNat) ls);omega
theorem an2:∀(cs:List Cmd)(b:List UInt8),(∀c∈cs,chk c=0)->whole b->b.length<=4000->whole (M8 cs b)/\(M8 cs b).length<=4000
 | [],b,_,h,hl=>⟨h,hl⟩
 | c::r,b,hc,h,hl=>by
  have h1:=bz2 c (hc c (by simp)) (lines b) (by have:=D9 b;omega)
  have h2:(ended (lines b)).length=b.length:=by rw[h]
  have e:M8 (c::r) b=M8 r (ended (made c (lines b))):=rfl
  rw[e]
  exact an2 r _ (fun d hd=>hc d (by simp[hd])) (bL4 (hc c (by simp))) (by omega)
theorem be0(a b:List Cmd)(x:List UInt8):M8 (a++b) x=M8 b (M8 a x):=by simp[M8]
theorem J2:∀{l:List SFile}{p:Option (List UInt8)},j8 p l=0->∀f∈l,isWord f.name=true/\f.b.length<=4000
 | [],_,_,f,hf=>by cases hf
 | g::r,p,h,f,hf=>by
  rw[F4]at h
  rw[xP]at hf
  rcases hf with rfl | hf
  . exact⟨(aq3 h.1).1,(aq3 h.1).2.1⟩
  . exact J2 h.2 f hf
def I4:List SFile->List UInt8->Nat
 | [],_=>0
 | f::r,n=>if f.name<n then I4 r n+1 else 0
def D3(l:List SFile)(n:List UInt8):Bool:=match l[I4 l n]? with
 | some f=>decide (f.name=n)
 | none=>false
theorem aL6:∀(l:List SFile)(n:List UInt8),I4 l n<=l.length
 | [],n=>qB _
 | f::r,n=>by
  unfold I4
  split
  . have:=aL6 r n;simp;omega
  . exact qP _
theorem bH8:∀{l:List SFile}{p:Option (List UInt8)}{n:List UInt8}{h:Nat}{f:SFile},j8 p l=0->l[h]? = some f->(f.name<n ↔ h<I4 l n)
 | [],p,n,h,f,_,e=>by simp at e
 | g::r,p,n,h,f,hr,e=>by
  obtain⟨h1,h2⟩:=F4.1 hr
  unfold I4
  by_cases hg:g.name<n
  .
   rw[qF hg]
   cases h with
   | zero=>simp at e;subst e;simp[hg]
   | succ h=>
    have:=bH8 (n:=n) h2 (h:=h) (f:=f) (by simpa using e)
    rw[this];omega
  .
   rw[qA hg]
   cases h with
   | zero=>simp at e;subst e;simp[hg]
   | succ h=>
    have hm:f∈r:=mGt (by simpa using e)
    have:=U0 h2 f hm
    constructor
    . intro hf;exact absurd (zd this hf) hg
    . intro hf;omega
theorem bz3{l:List SFile}{n:List UInt8}{f:SFile}(h:l[I4 l n]? = some f):D3 l n=decide (f.name=n):=by unfold D3;rw[h]
theorem bz4{l:List SFile}{n:List UInt8}(h:¬I4 l n<l.length):D3 l n=false:=by unfold D3;rw[qm (by omega)]
theorem aq5{l:List SFile}{n:List UInt8}(h:D3 l n=true):∃f,l[I4 l n]? = some f/\f.name=n:=by
 unfold D3 at h;split at h
 . rename_i f e;exact⟨f,e,qc h⟩
 . cases h
theorem aj8{f:SFile}{r:List SFile}{n:List UInt8}(h:f.name<n):D3 (f::r) n=D3 r n:=by unfold D3;rw[show I4 (f::r) n=I4 r n+1 by rw[I4,qF h],xu]
theorem aj9{f:SFile}{r:List SFile}{n:List UInt8}(h:¬f.name<n):D3 (f::r) n=decide (f.name=n):=by unfold D3;rw[show I4 (f::r) n=0 by rw[I4,qA h],xM]
theorem ak0:∀{l:List SFile}{p:Option (List UInt8)}{n:List UInt8}{f:SFile},j8 p l=0->D3 l n=true->l[I4 l n]? = some f->q8 l n=f.b
 | [],p,n,f,_,_,e=>by simp at e
 | g::r,p,n,f,hr,ht,e=>by
  obtain⟨h1,h2⟩:=F4.1 hr
  rw[ae0]
  by_cases hg:g.name<n
  . rw[qA (aF1 hg)]
    rw[aj8 hg]at ht
    rw[I4,qF hg,xu]at e
    exact ak0 h2 ht e
  . rw[aj9 hg]at ht
    rw[I4,qA hg,xM]at e
    injection e with e
    rw[qF (qc ht),e]
theorem ax7:∀{l:List SFile}{p:Option (List UInt8)}{n:List UInt8},j8 p l=0->D3 l n=false->q8 l n=[]
 | [],p,n,_,_=>rfl
 | g::r,p,n,hr,ht=>by
  obtain⟨h1,h2⟩:=F4.1 hr
  rw[ae0]
  by_cases hg:g.name<n
  . rw[qA (aF1 hg)]
    rw[aj8 hg]at ht
    exact ax7 h2 ht
  . rw[aj9 hg]at ht
    have hne:=zu ht
    rw[qA hne]
    have hlt:n<g.name:=aC4 hg (fun e=>hne e.symm)
    exact aF2 (fun f hf=>Ne.symm (aF1 (zd hlt (U0 h2 f hf))))
theorem aC5:∀{l:List SFile}{p:Option (List UInt8)}{n:List UInt8}(b:List UInt8),j8 p l=0->D3 l n=true->putF l n b=l.set (I4 l n) ⟨n,b⟩
 | [],p,n,b,_,ht=>by simp[D3]at ht
 | g::r,p,n,b,hr,ht=>by
  obtain⟨h1,h2⟩:=F4.1 hr
  by_cases hg:g.name<n
  . rw[aj8 hg]at ht
    rw[putF,qA (aF1 hg),qA (fun h=>zN _ (zd hg h)),I4,qF hg,List.set_cons_succ,aC5 b h2 ht]
  . rw[aj9 hg]at ht
    rw[putF,qF (qc ht),I4,qA hg,List.set_cons_zero]
theorem be1:∀{l:List SFile}{p:Option (List UInt8)}{n:List UInt8}(b:List UInt8),j8 p l=0->D3 l n=false->putF l n b=l.take (I4 l n)++⟨n,b⟩::l.drop (I4 l n)
 | [],p,n,b,_,_=>rfl
 | g::r,p,n,b,hr,ht=>by
  obtain⟨h1,h2⟩:=F4.1 hr
  by_cases hg:g.name<n
  . rw[aj8 hg]at ht
    rw[putF,qA (aF1 hg),qA (fun h=>zN _ (zd hg h)),I4,qF hg,List.take_succ_cons,List.drop_succ_cons,be1 b h2 ht]
    rfl
  . rw[aj9 hg]at ht
    have hne:=zu ht
    have hlt:n<g.name:=aC4 hg (fun e=>hne e.symm)
    rw[putF,qA hne,qF hlt,I4,qA hg]
    rfl
theorem aT7{l:List SFile}{p:Option (List UInt8)}{n:List UInt8}(b:List UInt8)(h:j8 p l=0)(ht:D3 l n=true):(putF l n b).length=l.length:=by rw[aC5 b h ht,zR]
theorem aF5{l:List SFile}{p:Option (List UInt8)}{n:List UInt8}(b:List UInt8)(h:j8 p l=0)(ht:D3 l n=false):(putF l n b).length=l.length+1:=by rw[be1 b h ht,qG,qY,qL,qo];have:=aL6 l n;omega
theorem av6:∀(l:List (List UInt8))(room:Nat),(∀s∈l,(10:UInt8)∉s)->bad room l=if room<(ended l).length then 2 else 0
 | [],room,_=>by simp[bad,ended]
 | s::r,room,h=>by
  have h1:(10:UInt8)∉s:=h s (by simp)
  have ih:=av6 r (room-(s.length+1)) (fun x hx=>h x (by simp[hx]))
  unfold bad
  rw[qA h1,ih]
  have e:(ended (s::r)).length=s.length+1+(ended r).length:=by simp[ended];omega
  rw[e]
  by_cases h2:room<=s.length
  . rw[qF h2,qF (by omega)]
  . rw[qA h2]
    by_cases h3:room<s.length+1+(ended r).length
    . rw[qF h3,qF (by omega)]
    . rw[qA h3,qA (by omega)]
def j7(fs:List SFile)(fr:List (List UInt8)):List (List UInt8):=(fr.map fun s=>lines (q8 fs s)).flatten
theorem aa7(fs:List SFile)(fr:List (List UInt8)):∀s∈j7 fs fr,(10:UInt8)∉s:=by intro s hs;unfold j7 at hs;rw[xz]at hs;obtain⟨l,hl,hsl⟩:=hs;obtain⟨n,_,rfl⟩:=qg.1 hl;exact E6 _ s hsl
theorem aT8(fs:List SFile)(fr:List (List UInt8))(n:List UInt8):j7 fs (fr++[n])=j7 fs fr++lines (q8 fs n):=by simp[j7]
theorem aL7(fs:List SFile):∀(fr:List (List UInt8))(acc:List UInt8),acc.length<=4000->M7 fs fr acc=if 4000<(acc++ended (j7 fs fr)).length then ([],2) else (acc++ended (j7 fs fr),0)
 | [],acc,h=>by
  rw[M7,show j7 fs []=[] from rfl]
  have e:acc++ended []=acc:=by simp[ended]
  rw[e,qA (by omega)]
 | s::r,acc,h=>by
  have e:acc++ended (j7 fs (s::r))=(acc++ended (lines (q8 fs s)))++ended (j7 fs r):=by
   rw[show j7 fs (s::r)=lines (q8 fs s)++j7 fs r from rfl]
   simp[ended]
  rw[M7,e]
  by_cases h1:4000<(acc++ended (lines (q8 fs s))).length
  . rw[qF h1,qF (by rw[qG];omega)]
  . rw[qA h1,aL7 fs r _ (by omega)]
theorem aW9(fs:List SFile)(fr:List (List UInt8))(h:¬4<fr.length):gather fs fr=if bad 4000 (j7 fs fr)=0 then (ended (j7 fs fr),0) else ([],bad 4000 (j7 fs fr)):=by
 unfold gather;rw[qA h,aL7 fs fr [] (by simp),xn,av6 _ _ (aa7 fs fr)];by_cases h1:4000<(ended (j7 fs fr)).length
 . rw[qF h1,qF h1];rfl
 . rw[qA h1,qA h1];rfl
theorem aC6(ns:List SNode):∀(ins t:List (Int × Int)),(∀p∈ins,A7 ns p=true)->(t++ins).Nodup->B9 ns ins t=(0,t++ins)
 | [],t,_,_=>by simp[B9]
 | p::r,t,h,hn=>by
  have h1:A7 ns p=true:=h p (by simp)
  have h2:p∉t:=fun hp=>by
   have:=(List.nodup_append.1 hn).2.2 p hp p (by simp)
   exact this rfl
  rw[B9,qA (by simp[h1]),qA h2,aC6 ns r (t++[p]) (fun q hq=>h q (by simp[hq])) (by simpa using hn)]
  simp
def PSt(fs:List SFile)(ns:List SNode)(t A:List (Int × Int))(vals:List (List UInt8)):Prop:=
 (∀rest,rest≠[]->y8 [] (ns++rest) []=y8 ns rest t)/\(t++A).Nodup/\(∀p∈t++A,A7 ns p=true)/\((t.length+A.length:Nat):Int)=E7 ns/\A.map (f9 (j4 fs [] ns))=vals
theorem ax8{i k:Nat}{p:Int × Int}(h:p∈l5 i k):∃j:Nat,j<k/\p=((i:Int),(j:Int)):=by unfold l5 at h;obtain⟨j,hj,rfl⟩:=qg.1 h;exact⟨j,xt.1 hj,rfl⟩
theorem aL8(i k:Nat):(l5 i k).Nodup:=by unfold l5;rw[zt,List.pairwise_map];refine List.Pairwise.imp ?_ (zt.1 List.nodup_range);intro a b hab e;injection e with _ e2;exact hab (by omega)
theorem bm0{fs:List SFile}{ns:List SNode}{n:SNode}{p:Int × Int}(h:A7 ns p=true):f9 (j4 fs [] (ns++[n])) p=f9 (j4 fs [] ns) p:=by obtain⟨i,k,m,rfl,hi,hk⟩:=O4 h;have hl:i<ns.length:=(gSm hi).1;rw[Q5];unfold f9;rw[aj2 fs [n] (j4 fs [] ns) _ (by rw[I2];simp;exact hl)]
theorem bY9{fs:List SFile}{ns:List SNode}{n:SNode}(j:Nat):f9 (j4 fs [] (ns++[n])) ((ns.length:Int),(j:Int))=(j0 n fs (n.ins.map (f9 (j4 fs [] ns))))[j]?.getD []:=by
 rw[Q5];unfold f9;have e:(j4 fs (j4 fs [] ns) [n])[ns.length]? = some (j0 n fs (n.ins.map (f9 (j4 fs [] ns)))):=by rw[j4,j4,qj (by rw[I2];simp),I2];simp
 simp only[qq];rw[e];rfl
theorem PSt.step{fs:List SFile}{ns:List SNode}{t ins R:List (Int × Int)}{iv rv:List (List UInt8)}(h:PSt fs ns t (ins++R) (iv++rv))(hl:ins.length=iv.length){n:SNode}(hn:j9 n=0)(hk:n.kind≠5)(hi:n.ins=ins):
 PSt fs (ns++[n]) (t++ins) (R++l5 ns.length (nouts n).toNat) (rv++j0 n fs iv):=by
 obtain⟨h1,h2,h3,h4,h5⟩:=h;have hnn:=aj3 hn;have Jr:(t++ins).Nodup:=by rw[<- qp]at h2;exact (List.nodup_append.1 h2).1
 rw[qz]at h5;obtain⟨v1,v2⟩:=List.append_inj h5 (by simpa using hl);have Ds:=o5 hn fs iv;refine⟨?_,?_,?_,?_,?_⟩
 . intro rest hr;rw[qp,h1 ([n]++rest) (by simp)];rw[List.singleton_append,y8,qA (by simp[hn]),hi,aC6 ns ins t (fun p hp=>h3 p (by simp[hp])) Jr,qA (by simp)];have hre:rest.isEmpty=false:=by cases rest with | nil=>exact absurd rfl hr | cons _ _=>rfl
   rw[qA (by simp[hre,hk])]
 . have hold:∀p∈t++(ins++R),p∉l5 ns.length (nouts n).toNat:=by intro p hp hq;obtain⟨j,hj,rfl⟩:=ax8 hq;obtain⟨i,k,m,e,hi',_⟩:=O4 (h3 _ hp);injection e with e1 _;have:=(gSm hi').1;omega
   rw[show t++ins++(R++l5 ns.length (nouts n).toNat)=(t++(ins++R))++l5 ns.length (nouts n).toNat by simp];rw[List.nodup_append];exact⟨h2,aL8 _ _,fun a ha b hb e=>hold a ha (e ▸ hb)⟩
 .
  intro p hp;have hp':p∈t++(ins++R)\/p∈l5 ns.length (nouts n).toNat:=by
   simp only[xB]at hp ⊢;rcases hp with (a | a)|(a | a)
   . exact Or.inl (Or.inl a)
   . exact Or.inl (Or.inr (Or.inl a))
   . exact Or.inl (Or.inr (Or.inr a))
   . exact Or.inr a
  rcases hp' with hp' | hp'
  . exact an0 (h3 p hp')
  . obtain⟨j,hj,rfl⟩:=ax8 hp';unfold A7;simp;constructor
    . omega
    . omega
 . have ea:E7 (ns++[n])=E7 ns+nouts n:=by simp[E7]
   rw[ea,<- h4];simp only[qG,L2];omega
 .
  rw[qz];congr 1
  . rw[<- v2];refine zJ ?_;intro p hp;exact bm0 (h3 p (by simp[hp]))
  .
   unfold l5;rw[xh];apply xX;intro j;rw[qQ];by_cases hj:j<(nouts n).toNat
   . have hjl:j<(j0 n fs iv).length:=by omega
     rw[xq hj];simp only[qu,Function.comp];rw[bY9,hi,v1,gEl hjl];rfl
   . rw[qm (by simpa using hj),qm (by omega)];rfl
theorem bz5{f:List UInt8}(h:isWord f=true):j9 (srcN f)=0:=by simp[j9,A6,srcN,h,J0,G9,aW0,noC]
theorem bm1{f:List UInt8}(h:isWord f=true){p:Int × Int}:j9 (aa0 f [p])=0:=by simp[j9,A6,aa0,h,J0,G9,aW0,noC]
theorem be3{w:Nat}(h:1<=w/\w<=5){p:Int × Int}:j9 (splitN w [p])=0:=by
 have h1:¬((w:Int)<1\/5<(w:Int)):=by omega
 simp[j9,A6,splitN,h1,J0,G9,aW0,noC]
theorem bm2{c:Cmd}(h:chk c=0){p:Int × Int}:j9 (V6 c p)=0:=by simp[j9,A6,V6,h,J0,G9]
theorem bm3{how:Int}{c:Cmd}(h:jchk how c=0){ps:List (Int × Int)}(hp:1<=ps.length/\ps.length<=5):j9 (ah1 how c ps)=0:=by simp[j9,A6,ah1,h,J0,G9,hp]
def PV(fs:List SFile)(d:PD)(t:List (Int × Int))(pss:List (List (List UInt8))):Prop:=
 PSt fs d.1 t d.2 (pss.map ended)/\(∀p∈pss,∀s∈p,(10:UInt8)∉s)/\d.2.length=pss.length
theorem aL9{pss:List (List (List UInt8))}(h:∀p∈pss,∀s∈p,(10:UInt8)∉s):(pss.map ended).map lines=pss:=by
 rw[xh];conv=>rhs;rw[<- List.map_id pss]
 exact zJ (fun p hp=>I1 p (h p hp))
theorem PV.src{fs:List SFile}:∀(fr:List (List UInt8))(d:PD)(t:List (Int × Int))(pss:List (List (List UInt8))),PV fs d t pss->(∀f∈fr,isWord f=true)->PV fs (fr.foldl pSrc d) t (pss++fr.map (fun f=>lines (q8 fs f)))
 | [],d,t,pss,h,_=>by simpa using h
 | f::r,d,t,pss,h,hw=>by
  have h1:PV fs (pSrc d f) t (pss++[lines (q8 fs f)]):=by
   obtain⟨a,b,c⟩:=h
   have st:=PSt.step (ins:=[]) (iv:=[]) (R:=d.2) (rv:=pss.map ended) (by simpa using a) rfl (bz5 (hw f (by simp))) (by simp[srcN]) rfl
   refine⟨?_,?_,?_⟩
   . have e1:l5 d.1.length (nouts (srcN f)).toNat=[ab1 d.1.length]:=Q7 _
     rw[e1]at st
     simpa[pSrc,j0,srcN]using st
   . intro p hp
     rcases xB.1 hp with hp | hp
     . exact b p hp
     . rw[xI.1 hp];exact E6 _
   . simp[pSrc,c]
  have:=PV.src r _ t _ h1 (fun x hx=>hw x (by simp[hx]))
  simpa using this
theorem PV.join{fs:List SFile}{d:PD}{t:List (Int × Int)}{pss:List (List (List UInt8))}(h:PV fs d t pss){how:Int}{c:Cmd}(hj:jchk how c=0)(hl:1<=d.2.length/\d.2.length<=5):
 PV fs (I3 how c d) (t++d.2) [joined how c pss]:=by
 obtain⟨a,b,e⟩:=h;have st:=PSt.step (ins:=d.2) (iv:=pss.map ended) (R:=[]) (rv:=[]) (by simpa using a) (by simpa using e) (bm3 hj hl) (by simp[ah1]) rfl;have e1:l5 d.1.length (nouts (ah1 how c d.2)).toNat=[ab1 d.1.length]:=Q7 _;have e2:j0 (ah1 how c d.2) fs (pss.map ended)=[ended (joined how c pss)]:=by have:=aL9 b;simp[j0,ah1];rw[xh]at this;rw[this]
 rw[e1,e2]at st;refine⟨by simpa[I3]using st,?_,rfl⟩;intro p hp;rw[xI.1 hp];refine as2 how c ?_ pss b;intro h4;unfold jchk at hj;rw[qA (by omega),qF h4]at hj;exact hj
theorem PV.works{fs:List SFile}{c:Cmd}(hc:chk c=0):∀(op:List (Int × Int))(iv:List (List (List UInt8)))(ns:List SNode)(D t:List (Int × Int))(dv:List (List (List UInt8))),op.length=iv.length->PSt fs ns t (op++D) ((iv++dv).map ended)->(∀p∈iv,∀s∈p,(10:UInt8)∉s) ->
 PSt fs (op.foldl (ah2 c) (ns,D)).1 (t++op) (op.foldl (ah2 c) (ns,D)).2 ((dv++iv.map (made c)).map ended)
 | [],iv,ns,D,t,dv,hl,h,hf=>by
  have:iv=[]:=qn.1 hl.symm
  subst this
  simpa using h
 | p::r,iv,ns,D,t,dv,hl,h,hf=>by
  cases iv with
  | nil=>simp at hl
  | cons x iv=>
   have st:=PSt.step (ins:=[p]) (iv:=[ended x]) (R:=r++D) (rv:=(iv++dv).map ended) (by simpa using h) rfl (n:=V6 c p) (bm2 hc) (by simp[V6]) rfl
   have e1:l5 ns.length (nouts (V6 c p)).toNat=[ab1 ns.length]:=Q7 _
   have e2:j0 (V6 c p) fs [ended x]=[ended (made c x)]:=by simp[j0,V6,I1 x (hf x (by simp))]
   rw[e1,e2]at st
   have ih:=PV.works hc r iv (ns++[V6 c p]) (D++[ab1 ns.length]) (t++[p]) (dv++[made c x]) (by simpa using hl) (by simpa using st) (fun q hq=>hf q (by simp[hq]))
   simpa[ah2]using ih
theorem aX0{c:Cmd}(h:N9 c.kind=true):∀pss:List (List (List UInt8)),(pss.map (made c)).flatten=made c pss.flatten
 | []=>by
  have:=ad9 c h [] []
  simp at this
  simp[this]
 | p::r=>by
  rw[qs,qe,aX0 h r,qe,ad9 c h]
theorem av7{c:Cmd}(h:chk c=0)(ls:List (List UInt8))(hl:ls.length<=4000):(made c ls).length<=4000:=by
 have:(made c ls).length<=max ls.length 1:=by
  unfold made;repeat' split
  all_goals (try simp)
  all_goals (first
   | exact qw (List.length_filter_le _ _) (by omega)
   | exact qw (Z8 _).length_le (by omega)
   | (rw[bx7];omega)
   | omega)
 omega
theorem bm4{how:Int}(c c':Cmd)(h:how≠4)(ps:List (List (List UInt8))):joined how c ps=joined how c' ps:=by unfold joined;rw[qA h,qA h]
theorem PV.split{fs:List SFile}{d:PD}{t:List (Int × Int)}{L:List (List UInt8)}(h:PV fs d t [L]){w:Nat}(hw:1<=w/\w<=5):
 ∃pss,PV fs (d.1++[splitN w d.2],l5 d.1.length w) (t++d.2) pss/\pss.flatten=L/\pss.length=w:=by
 obtain⟨a,b,e⟩:=h;obtain⟨p,hp⟩:∃p,d.2=[p]:=zo.1 (by simpa using e);have hL:=b L (by simp);have st:=PSt.step (ins:=[p]) (iv:=[ended L]) (R:=[]) (rv:=[]) (by rw[hp]at a;simpa using a) rfl (n:=splitN w [p]) (be3 hw) (by simp[splitN]) rfl;have e1:nouts (splitN w [p])=(w:Int):=by simp[nouts,splitN]
 have e2:j0 (splitN w [p]) fs [ended L]=((List.range w).map (fun k=>(L.take ((k+1)*L.length / w)).drop (k*L.length / w))).map ended:=by simp[j0,splitN,partOf,I1 L hL]
 rw[e1,e2,qq]at st;have hnf:∀q∈(List.range w).map (fun k=>(L.take ((k+1)*L.length / w)).drop (k*L.length / w)),∀s∈q,(10:UInt8)∉s:=by intro q hq s hs;obtain⟨k,_,rfl⟩:=qg.1 hq;exact hL s (xo (List.mem_of_mem_drop hs))
 refine⟨_,⟨by rw[hp];simpa using st,hnf,by simp[L2]⟩,?_,by simp⟩;have hw2:=am8 (ended L) w hw.1;rw[I1 L hL]at hw2;have e3:ended (((List.range w).map (fun k=>(L.take ((k+1)*L.length / w)).drop (k*L.length / w))).flatten)=ended L:=by
  rw[<- hw2];unfold partOf;rw[I1 L hL];generalize List.range w=rs
  induction rs with
  | nil=>rfl
  | cons k r ih=>simp[G6,ih]
 have:=congrArg lines e3;rw[I1 L hL,I1]at this
 . exact this
 . intro s hs;obtain⟨q,hq,hsq⟩:=xz.1 hs;exact hnf q hq s hsq
def PBw(fs:List SFile)(w:Nat)(d:PD)(L:List (List UInt8)):Prop:=∃t pss,PV fs d t pss/\pss.flatten=L/\(d.2.length=1\/d.2.length=w)/\L.length<=4000
theorem bL5{pss:List (List (List UInt8))}{p:List (List UInt8)}(h:p∈pss):p.length<=pss.flatten.length:=by obtain⟨a,b,rfl⟩:=List.append_of_mem h;simp;omega
theorem PBw.cmd{fs:List SFile}{w:Nat}(hw:1<=w/\w<=5){d:PD}{L:List (List UInt8)}(h:PBw fs w d L){c:Cmd}(hc:chk c=0):PBw fs w (pCmd w d c) (made c L):=by
 obtain⟨t,pss,hv,hL,hd,h4⟩:=h;have hsp:∃t' pss',PV fs (M6 w d) t' pss'/\pss'.flatten=L/\pss'.length=w:=by
  unfold M6;split
  . rename_i h1;have hp1:pss.length=1:=by rw[<- hv.2.2];exact h1.1
    obtain⟨x,rfl⟩:=zo.1 hp1;obtain rfl:x=L:=by simpa using hL
    obtain⟨q,a,b,e⟩:=hv.split hw;exact⟨_,q,a,b,e⟩
  .
   rename_i h1;refine⟨t,pss,hv,hL,?_⟩;rw[<- hv.2.2];rcases hd with h | h
   . have:w=1:=by by_cases e:w=1;exact e;exact absurd ⟨h,e⟩ h1
     omega
   . exact h
 obtain⟨t',ps,hv',hL',hlen⟩:=hsp;unfold pCmd;generalize M6 w d=d1 at hv' ⊢;obtain⟨a,b,e⟩:=hv';have hwk:=PV.works hc d1.2 ps d1.1 [] t' [] e (by simpa using a) b;have hlw:=ah3 c d1.2 (d1.1,[]);simp only[qy,qa,xn]at hwk hlw;have hv2:PV fs (J9 c d1) (t'++d1.2) (ps.map (made c)):=by refine⟨hwk,?_,by unfold J9;rw[hlw.2,e];simp⟩;intro p hp;obtain⟨x,hx,rfl⟩:=qg.1 hp;exact Z9 c hc x (b x hx)
 have hlen2:(J9 c d1).2.length=w:=by rw[hv2.2.2];simpa using hlen
 have hm4:=av7 hc L h4;unfold aL2;split
 .
  rename_i h1;refine⟨_,_,hv2,?_,Or.inr hlen2,hm4⟩;rcases h1 with h1 | h1
  . rw[h1]at hlen;obtain⟨x,rfl⟩:=zo.1 hlen;obtain rfl:x=L:=by simpa using hL'
    simp
  . rw[aX0 h1,hL']
 .
  rename_i h1;have hcw:∀p∈ps,p.length<=4000:=fun p hp=>by have:=bL5 hp;rw[hL']at this;omega
  have hjw:=by4 c hc ps hcw;rw[hL']at hjw;have hhow:1<=C9 c.kind/\C9 c.kind<=4:=by unfold C9;repeat' split;all_goals omega
  have hjc:jchk (C9 c.kind) (if C9 c.kind=4 then c else noC)=0:=by
   unfold jchk;rw[qA (by omega)];by_cases h4':C9 c.kind=4
   . rw[qF h4',qF h4'];exact hc
   . rw[qA h4',qA h4'];simp[noC]
  have hj:=hv2.join hjc (by omega);refine⟨_,_,hj,?_,Or.inl rfl,hm4⟩;rw[qe,List.flatten_nil,xH,<- hjw];by_cases h4':C9 c.kind=4
  . rw[qF h4']
  . rw[qA h4'];exact bm4 _ _ h4' _
theorem PBw.cmds{fs:List SFile}{w:Nat}(hw:1<=w/\w<=5):∀(cs:List Cmd)(d:PD)(L:List (List UInt8)),PBw fs w d L->(∀c∈cs,chk c=0)->PBw fs w (cs.foldl (pCmd w) d) (cs.foldl (fun L c=>made c L) L)
 | [],d,L,h,_=>h
 | c::r,d,L,h,hc=>PBw.cmds hw r _ _ (h.cmd hw (hc c (by simp))) (fun x hx=>hc x (by simp[hx]))
theorem PV.behind{fs:List SFile}{d:PD}{t:List (Int × Int)}{pss:List (List (List UInt8))}(h:PV fs d t pss)(hl:1<=d.2.length/\d.2.length<=5):∃t',PV fs (E9 d) t' [pss.flatten]:=by
 unfold E9;split
 . have hj:=h.join (how:=1) (c:=noC) (by simp[jchk,noC]) hl;exact⟨_,by simpa[joined]using hj⟩
 . rename_i h1;refine⟨t,?_⟩;have:pss.length=1:=by rw[<- h.2.2];omega
   obtain⟨x,rfl⟩:=zo.1 this;simpa using h
theorem an3{l:SLine}(h:lchk l=0):(1<=l.fr.length/\l.fr.length<=4/\l.cs.length<=6)/\(∀f∈l.fr,isWord f=true)/\isWord l.tu=true/\∀c∈l.cs,chk c=0:=by obtain⟨a,b,c,d,e,f⟩:=aC2 h;exact⟨⟨a,b,c⟩,zS.1 d,e,f⟩
theorem bH9{fs:List SFile}{l:SLine}{w:Nat}(hw:1<=w/\w<=5)(h:lchk l=0)(hg:(j7 fs l.fr).length<=4000):∃t,PV fs (E9 (J1 w l.fr l.cs)) t [l.cs.foldl (fun L c=>made c L) (j7 fs l.fr)]:=by obtain⟨h1,h2,h3,h4⟩:=an3 h;have s0:PV fs ([],[]) [] []:=⟨⟨fun rest _=>rfl,by simp,by simp,by simp[E7],rfl⟩,by simp,rfl⟩;have s1:=PV.src l.fr ([],[]) [] [] s0 h2;rw[xn]at s1;have s1':PV fs (D8 l.fr) [] (l.fr.map (fun f=>lines (q8 fs f))):=s1;have hl:=Y1 l.fr ([],[]);simp only[qy,qa]at hl;obtain⟨t2,s2⟩:=s1'.behind (by unfold D8;omega);have s3:PBw fs w (aL3 l.fr) (j7 fs l.fr):=⟨t2,_,s2,by simp[j7],Or.inl s2.2.2,hg⟩;obtain⟨t4,pss,s4,hf,hd,_⟩:=s3.cmds hw l.cs _ _ h4;obtain⟨t5,s5⟩:=s4.behind (by omega);rw[hf]at s5;exact⟨t5,s5⟩
theorem aM0{fs:List SFile}{d:PD}{t:List (Int × Int)}{L:List (List UInt8)}(h:PV fs d t [L]){tu:List UInt8}(ht:isWord tu=true)(h60:(as3 tu d).length<=60):gchk (as3 tu d)=0/\sunk (as3 tu d) fs=ended L:=by
 obtain⟨⟨a1,a2,a3,a4,a5⟩,b,e⟩:=h;obtain⟨p,hp⟩:∃p,d.2=[p]:=zo.1 (by simpa using e);rw[hp]at a2 a3 a4 a5;have hgl:y8 [] (d.1++[aa0 tu [p]]) []=(0,t++[p]):=by rw[a1 _ (by simp),y8,qA (by simp[bm1 ht]),show (aa0 tu [p]).ins=[p] from rfl,aC6 d.1 [p] t (fun q hq=>a3 q (by simp at hq;simp[hq])) a2,qA (by simp),qA (by simp[aa0]),y8]
 constructor
 . unfold as3 at h60 ⊢;rw[hp]at h60 ⊢;unfold gchk;rw[qA (by omega),hgl,qA (by simp),qA];have ea:E7 (d.1++[aa0 tu [p]])=E7 d.1+0:=by simp[E7,nouts,aa0]
   rw[ea,<- a4];simp
 . unfold as3;rw[hp];have hs:sunk (d.1++[aa0 tu [p]]) fs=f9 (j4 fs [] (d.1++[aa0 tu [p]])) p:=by unfold sunk;rw[List.getLast?_append];rfl
   rw[hs,bm0 (a3 p (by simp))];simpa using a5
theorem ac5{l:SLine}{w:Nat}(hw:1<=w/\w<=5)(h:lchk l=0):gchk (plan l w)=0:=by
 have e0:∀fr:List (List UInt8),j7 [] fr=[]:=by
  intro fr
  induction fr with
  | nil=>rfl
  | cons f r ih=>rw[show j7 [] (f::r)=lines (q8 [] f)++j7 [] r from rfl,ih];rfl
 obtain⟨t,hv⟩:=bH9 (fs:=[]) hw h (by rw[e0];simp);exact (aM0 hv (an3 h).2.2.1 (by have:=(aL4 hw h).1;unfold plan at this;omega)).1
theorem aF6:∀(cs:List Cmd)(L:List (List UInt8)),(∀c∈cs,chk c=0)->(∀s∈L,(10:UInt8)∉s)->M8 cs (ended L)=ended (cs.foldl (fun L c=>made c L) L)
 | [],L,_,_=>rfl
 | c::r,L,hc,hL=>by
  rw[show M8 (c::r) (ended L)=M8 r (ended (made c (lines (ended L)))) from rfl,I1 L hL,zQ]
  exact aF6 r _ (fun x hx=>hc x (by simp[hx])) (Z9 c (hc c (by simp)) L hL)
theorem bL6{fs:List SFile}{l:SLine}{w:Nat}(hw:1<=w/\w<=5)(h:lchk l=0)(hg:(gather fs l.fr).2=0):sunk (plan l w) fs=(m9 fs l).1/\(m9 fs l).2=0:=by
 obtain⟨h1,h2,h3,h4⟩:=an3 h;have ga:=aW9 fs l.fr (by omega);have hb:bad 4000 (j7 fs l.fr)=0:=by
  by_cases e:bad 4000 (j7 fs l.fr)=0
  . exact e
  . rw[ga,qA e]at hg;exact hg
 rw[qF hb]at ga;have hlen:(ended (j7 fs l.fr)).length<=4000:=by
  rw[av6 _ _ (aa7 fs l.fr)]at hb;split at hb
  . cases hb
  . omega
 have Aw:=T8 (j7 fs l.fr);obtain⟨t,hv⟩:=bH9 (fs:=fs) hw h (by omega);have hs:=(aM0 hv h3 (by have:=(aL4 hw h).1;unfold plan at this;omega)).2;unfold m9;rw[qF hg];refine⟨?_,rfl⟩;simp only;rw[ga];simp only;rw[aF6 l.cs _ h4 (aa7 fs l.fr)];exact hs
def H9(w:World)(v:Value)(cs:List Cmd):Prop:=
 ∃ao cap,v=.slice ao cs.length cap/\cs.length<=cap/\cap<=maxLen /\
  (cs.length≠0->∃b off,ao=some ⟨b,off,none⟩/\∀j c,cs[j]? = some c->w.cell? ⟨b,off+j*3,none⟩=some (.int .i64 c.kind)/\w.cell? ⟨b,off+j*3+1,none⟩=some (.string ⟨c.word.toArray⟩)/\w.cell? ⟨b,off+j*3+2,none⟩=some (.int .i64 c.n))
theorem H9.below{w w':World}{v:Value}{cs:List Cmd}(h:H9 w v cs)(hb:Bq w w'):H9 w' v cs:=by obtain⟨ao,cap,rfl,h2,h3,h4⟩:=h;refine⟨ao,cap,rfl,h2,h3,fun hn=>?_⟩;obtain⟨b,off,rfl,hc⟩:=h4 hn;refine⟨b,off,rfl,fun j c hj=>?_⟩;obtain⟨a1,a2,a3⟩:=hc j c hj;exact⟨qC hb a1,qC hb a2,qC hb a3⟩
theorem H9.shape{w:World}{v:Value}{cs:List Cmd}(h:H9 w v cs):∃ao cap,v=.slice ao cs.length cap/\cs.length<=cap/\cap<=maxLen:=by obtain⟨ao,cap,h1,h2,h3,_⟩:=h;exact⟨ao,cap,h1,h2,h3⟩
theorem H9.at{w:World}{ao:Option Addr}{n cap:Nat}{cs:List Cmd}(h:H9 w (.slice ao n cap) cs){k:Nat}{c:Cmd}(hk:cs[k]? = some c):
 ∃b off,ao=some ⟨b,off,none⟩/\w.cell? ⟨b,off+k*3,none⟩=some (.int .i64 c.kind)/\w.cell? ⟨b,off+k*3+1,none⟩=some (.string ⟨c.word.toArray⟩)/\w.cell? ⟨b,off+k*3+2,none⟩=some (.int .i64 c.n):=by obtain⟨ao',cap',e,_,_,h5⟩:=h;injection e with e1 e2 e3;subst e1;obtain⟨hkl,_⟩:=gSm hk;obtain⟨b,off,hao,hc⟩:=h5 (by omega);exact⟨b,off,hao,hc k c hk⟩
def I0(w:World)(v:Value)(ls:List SLine):Prop:=
 ∃ao cap,v=.slice ao ls.length cap/\ls.length<=cap/\cap<=maxLen /\
  (ls.length≠0->∃b off,ao=some ⟨b,off,none⟩/\∀j x,ls[j]? = some x->∃vf vd,w.cell? ⟨b,off+j*3,none⟩=some vf/\w.cell? ⟨b,off+j*3+1,none⟩=some vd/\w.cell? ⟨b,off+j*3+2,none⟩=some (.string ⟨x.tu.toArray⟩)/\Reads w vf x.fr.length (x.fr.map S)/\H9 w vd x.cs)
theorem I0.below{w w':World}{v:Value}{ls:List SLine}(h:I0 w v ls)(hb:Bq w w'):I0 w' v ls:=by obtain⟨ao,cap,rfl,h2,h3,h4⟩:=h;refine⟨ao,cap,rfl,h2,h3,fun hn=>?_⟩;obtain⟨b,off,rfl,hc⟩:=h4 hn;refine⟨b,off,rfl,fun j c hj=>?_⟩;obtain⟨vf,vd,a1,a2,a3,a4,a5⟩:=hc j c hj;exact⟨vf,vd,qC hb a1,qC hb a2,qC hb a3,a4.below hb,a5.below hb⟩
theorem I0.shape{w:World}{v:Value}{ls:List SLine}(h:I0 w v ls):∃ao cap,v=.slice ao ls.length cap/\ls.length<=cap/\cap<=maxLen:=by obtain⟨ao,cap,h1,h2,h3,_⟩:=h;exact⟨ao,cap,h1,h2,h3⟩
theorem Reads.shape{w:World}{v:Value}{n:Nat}{xs:List Value}(h:Reads w v n xs):∃ao cap,v=.slice ao n cap/\n<=cap/\cap<=maxLen:=by obtain⟨_,ao,cap,h1,h2,h3,_⟩:=h;exact⟨ao,cap,h1,h2,h3⟩
theorem Reads.at{w:World}{ao:Option Addr}{n cap:Nat}{fr:List (List UInt8)}(h:Reads w (.slice ao n cap) n (fr.map S)){k:Nat}{s:List UInt8}(hk:fr[k]? = some s):
 ∃b off,ao=some ⟨b,off,none⟩/\w.cell? ⟨b,off+k,none⟩=some (.string ⟨s.toArray⟩):=by obtain⟨h1,ao',cap',e,_,_,h5⟩:=h;injection e with e1 e2 e3;subst e1;obtain⟨hkl,_⟩:=gSm hk;rw[qM]at h1;obtain⟨b,off,hao,hc⟩:=h5 (by omega);exact⟨b,off,hao,hc k (S s) (by rw[qQ,hk];rfl)⟩
theorem I0.at{w:World}{ao:Option Addr}{n cap:Nat}{ls:List SLine}(h:I0 w (.slice ao n cap) ls){k:Nat}{x:SLine}(hk:ls[k]? = some x):
 ∃b off af cf ad cd,ao=some ⟨b,off,none⟩/\w.cell? ⟨b,off+k*3,none⟩=some (.slice af x.fr.length cf)/\w.cell? ⟨b,off+k*3+1,none⟩=some (.slice ad x.cs.length cd)/\w.cell? ⟨b,off+k*3+2,none⟩=some (.string ⟨x.tu.toArray⟩)/\Reads w (.slice af x.fr.length cf) x.fr.length (x.fr.map S)/\H9 w (.slice ad x.cs.length cd) x.cs:=by obtain⟨ao',cap',e,_,_,h5⟩:=h;injection e with e1 e2 e3;subst e1;obtain⟨hkl,_⟩:=gSm hk;obtain⟨b,off,hao,hc⟩:=h5 (by omega);obtain⟨vf,vd,a1,a2,a3,a4,a5⟩:=hc k x hk;obtain⟨af,cf,rfl,_,_⟩:=a4.shape;obtain⟨ad,cd,rfl,_,_⟩:=a5.shape;exact⟨b,off,af,cf,ad,cd,hao,a1,a2,a3,a4,a5⟩
def bZ0(cs:List Cmd):Prop:=∀c∈cs,c.word.length<=9223372036854775807
def M3(x:SLine):Prop:=(∀s∈x.fr,s.length<=9223372036854775807)/\bZ0 x.cs/\x.tu.length<=9223372036854775807
def j6(w:World)(v:Value)(fs:List SFile):Prop:=
 ∃ao cap,v=.slice ao fs.length cap/\fs.length<=cap/\cap<=maxLen /\
  (fs.length≠0->∃b off,ao=some ⟨b,off,none⟩/\∀j f,fs[j]? = some f->∃vb,w.cell? ⟨b,off+j*2,none⟩=some (.string ⟨f.name.toArray⟩)/\w.cell? ⟨b,off+j*2+1,none⟩=some vb/\Reads w vb f.b.length (f.b.map U))
theorem j6.below{w w':World}{v:Value}{fs:List SFile}(h:j6 w v fs)(hb:Bq w w'):j6 w' v fs:=by obtain⟨ao,cap,rfl,h2,h3,h4⟩:=h;refine⟨ao,cap,rfl,h2,h3,fun hn=>?_⟩;obtain⟨b,off,rfl,hc⟩:=h4 hn;refine⟨b,off,rfl,fun j c hj=>?_⟩;obtain⟨vb,a1,a2,a3⟩:=hc j c hj;exact⟨vb,qC hb a1,qC hb a2,a3.below hb⟩
theorem j6.shape{w:World}{v:Value}{fs:List SFile}(h:j6 w v fs):∃ao cap,v=.slice ao fs.length cap/\fs.length<=cap/\cap<=maxLen:=by obtain⟨ao,cap,h1,h2,h3,_⟩:=h;exact⟨ao,cap,h1,h2,h3⟩
theorem j6.at{w:World}{ao:Option Addr}{n cap:Nat}{fs:List SFile}(h:j6 w (.slice ao n cap) fs){k:Nat}{f:SFile}(hk:fs[k]? = some f):
 ∃b off ab cb,ao=some ⟨b,off,none⟩/\w.cell? ⟨b,off+k*2,none⟩=some (.string ⟨f.name.toArray⟩)/\w.cell? ⟨b,off+k*2+1,none⟩=some (.slice ab f.b.length cb)/\Reads w (.slice ab f.b.length cb) f.b.length (f.b.map U):=by obtain⟨ao',cap',e,_,_,h5⟩:=h;injection e with e1 e2 e3;subst e1;obtain⟨hkl,_⟩:=gSm hk;obtain⟨b,off,hao,hc⟩:=h5 (by omega);obtain⟨vb,a1,a2,a3⟩:=hc k f hk;obtain⟨ab,cb,rfl,_,_⟩:=a3.shape;exact⟨b,off,ab,cb,hao,a1,a2,a3⟩
theorem Y2{w:World}{ao:Option Addr}{n cap:Nat}{fs:List SFile}(h:j6 w (.slice ao n cap) fs):n<=cap/\cap<=9223372036854775807:=by obtain⟨_,c,e,h1,h2⟩:=h.shape;unfold maxLen at h2;injection e with e1 e2 e3;omega
def M9(f:SFile):Prop:=f.name.length<=9223372036854775807
def F2(w:World)(v:Value)(ps:List (Int × Int)):Prop:=
 ∃ao cap,v=.slice ao ps.length cap/\ps.length<=cap/\cap<=maxLen /\
  (ps.length≠0->∃b off,ao=some ⟨b,off,none⟩/\∀(j:Nat) p,ps[j]? = some p->w.cell? ⟨b,off+j*2,none⟩=some (.int .i64 p.1)/\w.cell? ⟨b,off+j*2+1,none⟩=some (.int .i64 p.2))
theorem F2.below{w w':World}{v:Value}{ps:List (Int × Int)}(h:F2 w v ps)(hb:Bq w w'):F2 w' v ps:=by obtain⟨ao,cap,rfl,h2,h3,h4⟩:=h;refine⟨ao,cap,rfl,h2,h3,fun hn=>?_⟩;obtain⟨b,off,rfl,hc⟩:=h4 hn;refine⟨b,off,rfl,fun j c hj=>?_⟩;obtain⟨a1,a2⟩:=hc j c hj;exact⟨qC hb a1,qC hb a2⟩
theorem F2.shape{w:World}{v:Value}{ps:List (Int × Int)}(h:F2 w v ps):∃ao cap,v=.slice ao ps.length cap/\ps.length<=cap/\cap<=maxLen:=by obtain⟨ao,cap,h1,h2,h3,_⟩:=h;exact⟨ao,cap,h1,h2,h3⟩
theorem F2.at{w:World}{ao:Option Addr}{n cap:Nat}{ps:List (Int × Int)}(h:F2 w (.slice ao n cap) ps){k:Nat}{p:Int × Int}(hk:ps[k]? = some p):
 ∃b off,ao=some ⟨b,off,none⟩/\w.cell? ⟨b,off+k*2,none⟩=some (.int .i64 p.1)/\w.cell? ⟨b,off+k*2+1,none⟩=some (.int .i64 p.2):=by obtain⟨ao',cap',e,_,_,h5⟩:=h;injection e with e1 e2 e3;subst e1;obtain⟨hkl,_⟩:=gSm hk;obtain⟨b,off,hao,hc⟩:=h5 (by omega);obtain⟨a1,a2⟩:=hc k p hk;exact⟨b,off,hao,a1,a2⟩
theorem Y3{w:World}{ao:Option Addr}{n cap:Nat}{ps:List (Int × Int)}(h:F2 w (.slice ao n cap) ps):n<=cap/\cap<=9223372036854775807:=by obtain⟨_,c,e,h1,h2⟩:=h.shape;unfold maxLen at h2;injection e with e1 e2 e3;omega
def av8(w:World)(b off:Nat)(n:SNode)(ai:Option Addr)(ci:Nat):Prop:=
 w.cell? ⟨b,off,none⟩=some (.int .i64 n.kind)/\w.cell? ⟨b,off+1,none⟩=some (.string ⟨n.file.toArray⟩)/\w.cell? ⟨b,off+2,none⟩=some (.int .i64 n.c.kind)/\w.cell? ⟨b,off+3,none⟩=some (.string ⟨n.c.word.toArray⟩) /\
 w.cell? ⟨b,off+4,none⟩=some (.int .i64 n.c.n)/\w.cell? ⟨b,off+5,none⟩=some (.int .i64 n.how)/\w.cell? ⟨b,off+6,none⟩=some (.int .i64 n.wide)/\w.cell? ⟨b,off+7,none⟩=some (.slice ai n.ins.length ci)
theorem av8.below{w w':World}{b off:Nat}{n:SNode}{ai:Option Addr}{ci:Nat}(h:av8 w b off n ai ci)(hb:Bq w w'):av8 w' b off n ai ci:=by
 obtain⟨a0,a1,a2,a3,a4,a5,a6,a7⟩:=h
 exact⟨qC hb a0,qC hb a1,qC hb a2,qC hb a3,
  qC hb a4,qC hb a5,qC hb a6,qC hb a7⟩
def D4(w:World)(v:Value)(ns:List SNode):Prop:=
 ∃ao cap,v=.slice ao ns.length cap/\ns.length<=cap/\cap<=maxLen /\
  (ns.length≠0->∃b off,ao=some ⟨b,off,none⟩/\∀(j:Nat) n,ns[j]? = some n->∃ai ci,av8 w b (off+j*8) n ai ci/\F2 w (.slice ai n.ins.length ci) n.ins)
theorem D4.below{w w':World}{v:Value}{ns:List SNode}(h:D4 w v ns)(hb:Bq w w'):D4 w' v ns:=by obtain⟨ao,cap,rfl,h2,h3,h4⟩:=h;refine⟨ao,cap,rfl,h2,h3,fun hn=>?_⟩;obtain⟨b,off,rfl,hc⟩:=h4 hn;refine⟨b,off,rfl,fun j c hj=>?_⟩;obtain⟨ai,ci,a1,a2⟩:=hc j c hj;exact⟨ai,ci,a1.below hb,a2.below hb⟩
theorem D4.shape{w:World}{v:Value}{ns:List SNode}(h:D4 w v ns):∃ao cap,v=.slice ao ns.length cap/\ns.length<=cap/\cap<=maxLen:=by obtain⟨ao,cap,h1,h2,h3,_⟩:=h;exact⟨ao,cap,h1,h2,h3⟩
theorem D4.at{w:World}{ao:Option Addr}{n cap:Nat}{ns:List SNode}(h:D4 w (.slice ao n cap) ns){k:Nat}{x:SNode}(hk:ns[k]? = some x):
 ∃b off ai ci,ao=some ⟨b,off,none⟩/\av8 w b (off+k*8) x ai ci/\F2 w (.slice ai x.ins.length ci) x.ins:=by obtain⟨ao',cap',e,_,_,h5⟩:=h;injection e with e1 e2 e3;subst e1;obtain⟨hkl,_⟩:=gSm hk;obtain⟨b,off,hao,hc⟩:=h5 (by omega);obtain⟨ai,ci,a1,a2⟩:=hc k x hk;exact⟨b,off,ai,ci,hao,a1,a2⟩
theorem aq6{w:World}{ao:Option Addr}{n cap:Nat}{ns:List SNode}(h:D4 w (.slice ao n cap) ns):n<=cap/\cap<=9223372036854775807:=by obtain⟨_,c,e,h1,h2⟩:=h.shape;unfold maxLen at h2;injection e with e1 e2 e3;omega
theorem D4.take{w:World}{ao:Option Addr}{n cap:Nat}{ns:List SNode}(h:D4 w (.slice ao n cap) ns)(k:Nat)(hk:k<=ns.length):D4 w (.slice ao k cap) (ns.take k):=by
 obtain⟨ao',cap',e,h2,h3,h5⟩:=h;injection e with e1 e2 e3;subst e1;subst e3;have hl:(ns.take k).length=k:=by rw[qL];omega
 refine⟨ao,cap,by rw[hl],by omega,h3,fun hn=>?_⟩;obtain⟨b,off,hao,hc⟩:=h5 (by omega);refine⟨b,off,hao,fun j x hj=>hc j x ?_⟩;obtain⟨hj1,_⟩:=gSm hj;rwa [xj (by omega)]at hj
def S0(n:SNode):Prop:=n.file.length<=9223372036854775807/\n.c.word.length<=9223372036854775807/\(∀p∈n.ins,(Lit.int .i64 p.1).wf=true/\(Lit.int .i64 p.2).wf=true)
theorem wordlen{s:List UInt8}(h:isWord s=true):s.length<=12:=by unfold isWord at h;simp at h;omega
theorem aF7{c:Cmd}(h:chk c=0):c.word.length<=12:=by
 unfold chk at h;split at h
 . cases h
 .
  split at h
  . cases h
  .
   rename_i h1 h2;split at h
   . cases h
   .
    split at h
    . cases h
    .
     rename_i h3 h4;by_cases hu:uses c.kind=1
     . have:isWord c.word=true:=by
        cases hw:isWord c.word with
        | true=>rfl
        | false=>exact absurd ⟨hu,Or.inl hw⟩ h4
       exact wordlen this
     . have:c.word=[]:=by
        by_cases e:c.word=[]
        . exact e
        . exact absurd (Or.inl ⟨hu,e⟩) h2
       rw[this];simp
theorem bZ1{k:Nat}(h:k<=1000):(Lit.int .i64 (k:Int)).wf=true:=by simp[Lit.wf,IntKind.min,IntKind.max,IntKind.signed,IntKind.bits];omega
theorem right_fits{ns:List SNode}(h:gchk ns=0){n:SNode}(hn:n∈ns):S0 n:=by
 obtain⟨k,hk⟩:=qb hn;have h60:=(aq2 h).1;obtain⟨r1,r2,r3,r4⟩:=aL1 (fs:=[]) h (fun f hf=>by cases hf) hk;obtain⟨q1,q2,q3⟩:=E8 r1;have Si:∀m∈ns,nouts m<=5:=by
  intro m hm;obtain⟨j,hj⟩:=qb hm;obtain⟨m1,_⟩:=aL1 (fs:=[]) h (fun f hf=>by cases hf) hj;have:=H7 (E8 m1).1;unfold nouts;split
  . rcases this with⟨a | a,_⟩|⟨_,_,a⟩|⟨a,_⟩|⟨a,_⟩ <;> omega
  . split <;> omega
 refine⟨?_,?_,?_⟩
 .
  unfold G9 at q3;simp only[Bool.or_eq_false_iff,Bool.and_eq_false_iff,Bool.not_eq_false',xx]at q3;rcases q3.1.1.1 with a | a
  . rcases H7 q1 with⟨_,b⟩|⟨b,_⟩|⟨b,_⟩|⟨b,_⟩
    . have:=wordlen b;omega
    . omega
    . omega
    . omega
  . rw[xC.1 a];simp
 .
  have hz:aW0 n.c=true->n.c.word.length<=12:=by intro hz;unfold aW0 at hz;simp at hz;rw[hz.1.2];simp
  have:n.c.word.length<=12:=by
   unfold G9 at q3;simp only[Bool.or_eq_false_iff,Bool.and_eq_false_iff,Bool.not_eq_false',xx]at q3;rcases q3.1.2 with a | a
   .
    rcases H7 q1 with⟨b,_⟩|⟨b,_⟩|⟨_,b⟩|⟨_,b⟩
    . omega
    . omega
    . exact aF7 b
    .
     unfold jchk at b;split at b
     . cases b
     . split at b
       . exact aF7 b
       . split at b
         . rename_i hh;rw[hh.2.1];simp
         . cases b
   . exact hz a
  omega
 . intro p hp;obtain⟨i,j,m,rfl,hi,hj⟩:=O4 (r2 p hp);have hi':i<ns.length:=by have:=(gSm hi).1;rw[qL]at this;omega
   have hm:m∈ns:=xo (mGt hi);have:=Si m hm;exact⟨bZ1 (by omega),bZ1 (by omega)⟩
abbrev FRow:=SFile × (Option Addr × Nat × Nat)
def encF(x:FRow):List Value:=[.string ⟨x.1.name.toArray⟩,.slice x.2.1 x.2.2.1 x.2.2.2]
def f8(out:List FRow):List Value:=(out.map encF).flatten
theorem ak1(out:List FRow)(r:FRow):f8 (out++[r])=f8 out++encF r:=by simp[f8]
theorem al8(a b:List FRow):f8 (a++b)=f8 a++f8 b:=by simp[f8]
theorem K1(out:List FRow)(r:FRow):f8 (r::out)=encF r++f8 out:=by simp[f8]
theorem o8(out:List FRow):(f8 out).length=out.length*2:=by
 induction out with
 | nil=>rfl
 | cons r l ih=>
  rw[K1,qG,ih]
  simp[encF]
  omega
theorem U6:∀(out:List FRow)(j:Nat)(r:FRow),out[j]? = some r->(f8 out)[j*2]? = some (.string ⟨r.1.name.toArray⟩)/\(f8 out)[j*2+1]? = some (.slice r.2.1 r.2.2.1 r.2.2.2)
 | [],j,r,h=>by simp at h
 | d::l,0,r,h=>by
  simp at h;subst h
  simp[f8,encF]
 | d::l,j+1,r,h=>by
  have ih:=U6 l j r (by simpa using h)
  rw[K1]
  refine⟨?_,?_⟩
  . rw[qj (by simp[encF];omega),show (j+1)*2-(encF d).length=j*2 by simp[encF];omega]
    exact ih.1
  . rw[qj (by simp[encF];omega),show (j+1)*2+1-(encF d).length=j*2+1 by simp[encF];omega]
    exact ih.2
theorem af9:∀(out:List FRow)(i:Nat),(f8 out).take (i*2)=f8 (out.take i)
 | [],i=>by simp[f8]
 | d::l,0=>by simp[f8]
 | d::l,i+1=>by
  rw[List.take_succ_cons,K1,K1,List.take_append,show (encF d).length=2 from rfl,show (i+1)*2-2=i*2 by omega,af9 l i,qO (by simp[encF];omega)]
theorem as6(out:List FRow)(i:Nat)(hi:i<=out.length):(f8 out).drop (i*2)=f8 (out.drop i):=by
 have h:=qk (i*2) (f8 out);have h2:f8 out=f8 (out.take i)++f8 (out.drop i):=by rw[<- al8,qk]
 have hl:(f8 (out.take i)).length=i*2:=by rw[o8,qL,ql hi]
 conv=>lhs;rw[h2]
 rw[List.drop_append,hl,zE,List.drop_zero,qt (by omega),xn]
theorem an4(r:FRow):∀u∈encF r,u.oneCell'=true:=by intro u hu;simp[encF]at hu;rcases hu with rfl | rfl <;> rfl
theorem ab3(out:List FRow):∀u∈f8 out,u.oneCell'=true:=by intro u hu;unfold f8 at hu;rw[xz]at hu;obtain⟨l,hl,hul⟩:=hu;obtain⟨r,_,rfl⟩:=qg.1 hl;exact an4 r u hul
theorem ax9:∀(out:List FRow)(j:Nat)(r r':FRow),out[j]? = some r->r'.1.name=r.1.name->f8 (out.set j r')=(f8 out).set (j*2+1) (.slice r'.2.1 r'.2.2.1 r'.2.2.2)
 | [],j,r,r',h,_=>by simp at h
 | d::l,0,r,r',h,hn=>by
  simp at h;subst h
  simp[f8,encF,hn]
 | d::l,j+1,r,r',h,hn=>by
  rw[List.set_cons_succ,K1,K1,ax9 l j r r' (by simpa using h) hn,zC _ _ (by simp[encF];omega),show (j+1)*2+1-(encF d).length=j*2+1 by simp[encF];omega]
theorem bI0{w:World}{ao:Option Addr}{n cap:Nat}{fs:List SFile}(h:j6 w (.slice ao n cap) fs):∃rows:List FRow,rows.map (·.1)=fs/\∀(j:Nat)(r:FRow),rows[j]? = some r ->
 (∃b off,ao=some ⟨b,off,none⟩/\w.cell? ⟨b,off+j*2,none⟩=some (.string ⟨r.1.name.toArray⟩)/\w.cell? ⟨b,off+j*2+1,none⟩=some (.slice r.2.1 r.2.2.1 r.2.2.2))/\r.2.2.1=r.1.b.length/\Reads w (.slice r.2.1 r.2.2.1 r.2.2.2) r.1.b.length (r.1.b.map U):=by
 have each:∀i,i<fs.length->∃r:FRow,fs[i]? = some r.1/\(∃b off,ao=some ⟨b,off,none⟩/\w.cell? ⟨b,off+i*2,none⟩=some (.string ⟨r.1.name.toArray⟩)/\w.cell? ⟨b,off+i*2+1,none⟩=some (.slice r.2.1 r.2.2.1 r.2.2.2))/\r.2.2.1=r.1.b.length/\Reads w (.slice r.2.1 r.2.2.1 r.2.2.2) r.1.b.length (r.1.b.map U):=by intro i hi;have hf:fs[i]? = some fs[i]:=gEl hi;obtain⟨b,off,ab,cb,e1,e2,e3,e4⟩:=h.at hf;exact⟨(fs[i],ab,fs[i].b.length,cb),hf,⟨b,off,e1,e2,e3⟩,rfl,e4⟩
 haveI:Inhabited SFile:=⟨⟨[],[]⟩⟩;obtain⟨Y,hY⟩:=Deep.choose_lt each;refine⟨(List.range fs.length).map Y,?_,?_⟩
 .
  apply xX;intro i;by_cases hi:i<fs.length
  . rw[qQ,qQ,xq hi];exact (hY i hi).1.symm
  . rw[qm (by simp;omega),qm (by omega)]
 .
  intro j r hj;rw[qQ]at hj;by_cases hi:j<fs.length
  . rw[xq hi]at hj;simp only[qu,qW]at hj;subst hj;exact (hY j hi).2
  . rw[qm (by simp;omega)]at hj
    cases hj
theorem aM1{w:World}{b off:Nat}:∀{rows:List FRow},(∀(j:Nat)(r:FRow),rows[j]? = some r->w.cell? ⟨b,off+j*2,none⟩=some (.string ⟨r.1.name.toArray⟩)/\w.cell? ⟨b,off+j*2+1,none⟩=some (.slice r.2.1 r.2.2.1 r.2.2.2))->∀j u,(f8 rows)[j]? = some u->w.cell? ⟨b,off+j,none⟩=some u:=by
 intro rows h j u hu;have hl:j<(f8 rows).length:=(gSm hu).1;rw[o8]at hl;have hq:rows[j / 2]? = some (rows[j / 2]'(by omega)):=gEl _;obtain⟨a1,a2⟩:=U6 rows (j / 2) _ hq;obtain⟨b1,b2⟩:=h (j / 2) _ hq;rcases Nat.mod_two_eq_zero_or_one j with hm | hm
 . have e:j=j / 2*2:=by omega
   rw[<- e]at a1 b1;rw[a1]at hu;rw[b1,hu]
 . have e:j=j / 2*2+1:=by omega
   rw[<- e]at a2;rw[Nat.add_assoc,<- e]at b2;rw[a2]at hu;rw[b2,hu]
def ac6(w:World)(go:Option Nat)(r:FRow):Prop:=r.2.2.1=r.1.b.length/\Reads w (.slice r.2.1 r.2.2.1 r.2.2.2) r.1.b.length (r.1.b.map U)/\(r.1.b.length≠0->∀a,r.2.1=some a->go≠some a.block)
theorem aa1{w w':World}{ao:Option Addr}{n m cap:Nat}{xs:List Value}(h:Reads w (.slice ao n cap) m xs)(hk:∀a,ao=some a->w'.heap[a.block]? = w.heap[a.block]?):Reads w' (.slice ao n cap) m xs:=by obtain⟨h1,ao',cap',e,h2,h3,h4⟩:=h;injection e with e1 e2 e3;subst e1 e2 e3;refine⟨h1,ao,cap,rfl,h2,h3,fun hn=>?_⟩;obtain⟨b,off,rfl,hc⟩:=h4 hn;refine⟨b,off,rfl,fun j u hu=>?_⟩;have e:=hk _ rfl;have:=hc j u hu;simp only[World.cell?]at this ⊢;rw[e];exact this
theorem ac6.keep{w w':World}{go:Option Nat}{r:FRow}(h:ac6 w go r)(hk:∀k,k<w.heap.size->go≠some k->w'.heap[k]? = w.heap[k]?):ac6 w' go r:=by
 refine⟨h.1,?_,h.2.2⟩;by_cases h0:r.1.b.length=0
 . obtain⟨h1,ao,cap,e,h2,h3,h4⟩:=h.2.1;exact⟨h1,ao,cap,e,h2,h3,fun hn=>absurd h0 hn⟩
 . refine aa1 h.2.1 (fun a ha=>hk _ ?_ (h.2.2 h0 a ha));obtain⟨h1,ao,cap,e,h2,h3,h4⟩:=h.2.1;obtain⟨b,off,rfl,hc⟩:=h4 h0;injection e with e1 e2 e3;rw[e1]at ha;injection ha with ha;subst ha;have hl:0<(r.1.b.map U).length:=by rw[h1];omega
   exact bLt w _ (hc 0 _ (gEl hl))
structure FO (w:World) (B:Nat) (e:TypeId) (v:Value) (rows:List FRow):Prop where
 own:w.ownsRow B e 2 v rows.length (f8 rows)
 good:∀r∈rows,ac6 w v.ownBlock r
theorem FO.below{w w':World}{B:Nat}{e:TypeId}{v:Value}{rows:List FRow}(h:FO w B e v rows)(hb:Bq w w'):FO w' B e v rows:=
 ⟨h.own.kept (row:=none) ⟨hb.os,hb.tape,hb.output,hb.size,fun k hk _=>hb.block k hk⟩ (by cases hv:v.ownBlock <;> simp),fun r hr=>(h.good r hr).keep (fun k hk _=>hb.block k hk)⟩
theorem FO.shape{w:World}{B:Nat}{e:TypeId}{v:Value}{rows:List FRow}(h:FO w B e v rows):∃ao cap,v=.slice ao rows.length cap/\rows.length<=cap/\cap<=maxLen:=by
 rcases h.own.2 with⟨rfl,h0⟩|⟨g,cap,cur,rfl,_,_,h1,h2,_⟩
 . exact⟨none,0,by rw[h0],by omega,by simp[maxLen]⟩
 . exact⟨_,cap,rfl,h1,h2⟩
theorem FO.form{w:World}{B:Nat}{e:TypeId}{v:Value}{rows:List FRow}(h:FO w B e v rows)(hn:rows.length≠0):∃g cap,v=.slice (some ⟨g,0,none⟩) rows.length cap/\B<=g:=by
 rcases h.own.2 with⟨rfl,h0⟩|⟨g,cap,cur,rfl,hb,_,h1,h2,_⟩
 . exact absurd h0 hn
 . exact⟨g,cap,rfl,hb⟩
theorem FO.files{w:World}{B:Nat}{e:TypeId}{v:Value}{rows:List FRow}(h:FO w B e v rows):j6 w v (rows.map (·.1)):=by
 have hl:(rows.map (·.1)).length=rows.length:=qM _;rcases h.own.2 with⟨rfl,h0⟩|⟨g,cap,cur,rfl,hb,hg,h1,h2,h3,h4⟩
 . exact⟨none,0,by rw[hl,h0],by omega,by simp[maxLen],fun hn=>absurd (hl.trans h0) hn⟩
 .
  refine⟨_,cap,by rw[hl],by omega,h2,fun _=>⟨g,0,rfl,fun j f hj=>?_⟩⟩;rw[qQ]at hj
  cases hr:rows[j]? with
  | none=>rw[hr]at hj;cases hj
  | some r=>
   rw[hr]at hj
   simp only[qu,qW]at hj
   subst hj
   obtain⟨a1,a2⟩:=U6 rows j r hr
   have hjl:j<rows.length:=(gSm hr).1
   have c1:=h.own.cellAt (j*2) (by omega)
   have c2:=h.own.cellAt (j*2+1) (by omega)
   rw[a1]at c1
   rw[a2]at c2
   exact⟨_,by rw[qa];exact c1,by rw[qa];exact c2,(h.good r (mGt hr)).2.1⟩
theorem J3{w:World}{B:Nat}{e:TypeId}{size g n cap:Nat}{xs:List Value}(h:w.ownsRow B e size (.slice (some ⟨g,0,none⟩) n cap) n xs)(j:Nat)(hj:j<n*size)(u:Value):(w.setCell ⟨g,j,none⟩ u).ownsRow B e size (.slice (some ⟨g,0,none⟩) n cap) n (xs.set j u):=by
 obtain⟨h1,h2⟩:=h;refine⟨by rw[zR];exact h1,?_⟩;rcases h2 with⟨h2,_⟩|⟨g',cap',cur,h2,hb,hg,h3,h4,h5,h6⟩
 . cases h2
 .
  injection h2 with e1 e2 e3;injection e1 with e1;injection e1 with e1;subst e1 e3;refine .inr ⟨g,cap,cur.setIfInBounds j u,rfl,hb,?_,h3,h4,by simpa using h5,?_⟩
  . rw[zL w g j cur e (0,0) u hg];exact zV w g cur _ e _ hg
  . rw[Array.toList_setIfInBounds,List.take_set,h6]
theorem FO.set{w:World}{B:Nat}{e:TypeId}{g n cap:Nat}{rows:List FRow}(h:FO w B e (.slice (some ⟨g,0,none⟩) n cap) rows){k:Nat}{r r':FRow}(hk:rows[k]? = some r)(hn:r'.1.name=r.1.name)(hr:ac6 w (some g) r'):
 FO (w.setCell ⟨g,k*2+1,none⟩ (.slice r'.2.1 r'.2.2.1 r'.2.2.2)) B e (.slice (some ⟨g,0,none⟩) n cap) (rows.set k r'):=by
 have hkl:k<rows.length:=(gSm hk).1;have hnn:n=rows.length:=by
  rcases h.own.2 with⟨h2,_⟩|⟨_,_,_,h2,_⟩
  . cases h2
  . injection h2
 subst hnn;refine⟨?_,fun x hx=>?_⟩
 . rw[zR,ax9 rows k r r' hk hn];exact J3 h.own _ (by omega) _
 . have Bi:∀q,q<w.heap.size->some g≠some q->(w.setCell ⟨g,k*2+1,none⟩ (.slice r'.2.1 r'.2.2.1 r'.2.2.2)).heap[q]? = w.heap[q]?:=fun q _ hq=>qJ _ _ _ _ (fun e=>hq (by rw[e]));rcases xm hx with hx | rfl
   . exact (h.good x hx).keep Bi
   . exact hr.keep Bi
end Go.Gs
