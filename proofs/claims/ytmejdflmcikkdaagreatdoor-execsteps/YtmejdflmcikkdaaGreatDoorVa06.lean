/- What the developers' Check answers, and more. -/
import Derived.Test.YtmejdflmcikkdaaGreatDoorVAb
import Derived.Laws.StructEq
import Derived.Test.YtmejdflmcikkdaaGreatDoorVSh
import Derived.Lib.OwnBridge
import Derived.Sort.OwnSorted
import Derived.Sort.Grow
import Derived.Shelf.GgClosure.Gives
import Derived.Test.YtmejdflmcikkdaaGreatDoorVa05
set_option linter.all false
set_option maxRecDepth 100000
set_option maxHeartbeats 64000000
namespace Go.Proofs.YtmejdflmcikkdaaGreatDoor
open Go.RowKit Go.Gs Tryz
variable {word s:qU}{w:World}{B n:Nat}{e:TypeId}{v u:Value}{ls ts:qL}{os:Array Obj}{dk:Array qU}{a:Addr}
theorem empty_of{word:qU}(h:word=[]):(⟨word.toArray⟩:ByteArray).toList.isEmpty=true:=by subst h;simp
theorem full_of{word:qU}(h:word≠[]):(⟨word.toArray⟩:ByteArray).toList.isEmpty=false:=by
 cases word with
 | nil=>exact absurd rfl h
 | cons c l=>simp
theorem bU6{k n:Int}(h:uses k=0\/(uses k≠1/\word≠[])\/(uses k≠2/\n≠0)):chk ⟨k,word,n⟩=4:=by
 unfold chk;split
 . rfl
 . rename_i hu;simp only at hu ⊢;rw[qF (h.resolve_left hu)]
theorem aL9(k:Int):(uses k=0) ↔ (k<1\/10<k):=by
 unfold uses;split
 . simp;omega
 .
  split
  . simp;omega
  . split
    . simp;omega
    . simp;omega
theorem bm5(k n:Int)(word:qU)(w:World)(h:k<1\/10<k):
 Calls prog 161 #[.agg #[.int .i64 k,.string ⟨word.toArray⟩,.int .i64 n]] w fun e w'=>e=.returned (.int .i64 4)/\Bq w w':=by
 go_enter func161,ntmps161;go_wp2_with fail;all_goals go_ret
 all_goals exact⟨rfl,g9⟩
theorem ae9(k n:Int)(sx:ByteArray)(L:Nat)(w:World)(h1:1<=k)(h2:k<=10)(em bA bB bC:Bool)(hem:sx.toList.isEmpty=em)(hsz:sx.size=L)(hL:L<=9223372036854775807)(r:Int)
 (hA:∀w,Calls prog 203 #[.int .i64 k] w fun e w'=>e=.returned (.bool bA)/\w'=w)
 (hB:∀w,Calls prog 204 #[.int .i64 k] w fun e w'=>e=.returned (.bool bB)/\w'=w) (hC:∀w,Calls prog 101 #[.string sx] w fun e w'=>e=.returned (.bool bC)/\w'=w)
 (hr:Hid (r=if em=false/\bA=false\/n≠0/\bB=false then 4 else if bB=true/\(n<1\/1000<n) then 3 else if bA=true/\bC=false then 1 else if k=3/\L≠2 then 1 else 0)):
 Calls prog 161 #[.agg #[.int .i64 k,.string sx,.int .i64 n]] w fun e w'=>e=.returned (.int .i64 r)/\Bq w w':=by
 have hz:L=2\/¬((L:Int)=2):=qO
 cases em <;> cases bA <;> cases bB <;> cases bC
 all_goals
  by_cases hk3:k=3
  case' pos=>subst hk3;rcases hz with rfl | hz
  all_goals
   simp at hr;go_enter func161,ntmps161;go_wp2_with (first|(go_at_call 203;refine (hA _).mono ?_;rintro e w9⟨rfl,rfl⟩)|(go_at_call 204;refine (hB _).mono ?_;rintro e w9⟨rfl,rfl⟩)|(go_at_call 101;refine (hC _).mono ?_;rintro e w9⟨rfl,rfl⟩))
   all_goals go_ret
   all_goals (refine⟨?_,g9⟩;rw[hr.o];(repeat' split) <;> first|rfl | (exfalso;omega)|(exfalso;simp_all;done)|(exfalso;simp_all;omega))
theorem cb4(k:Int):uses k=0\/uses k=1\/uses k=2\/uses k=3:=by
 unfold uses;split
 . exact .inr (.inl rfl)
 .
  split
  . exact .inr (.inr (.inl rfl))
  . split
    . exact .inr (.inr (.inr rfl))
    . exact .inl rfl
theorem aM0(c:Cmd)(w:World)(hm:c.word.length<=9223372036854775807):
 Calls prog 161 #[c.v] w fun e w'=>e=.returned (.int .i64 (chk c))/\Bq w w':=by
 obtain⟨k,word,n⟩:=c;show Calls prog 161 #[.agg #[.int .i64 k,.string ⟨word.toArray⟩,.int .i64 n]] w _;by_cases h0:k<1\/10<k
 . rw[bU6 (.inl ((aL9 k).2 h0))];exact bm5 k n word w h0
 .
  have h1:1<=k:=qO;have h2:k<=10:=qO;have hu0:uses k≠0:=fun h=>h0 ((aL9 k).1 h);have hsz:(⟨word.toArray⟩:ByteArray).size=word.length:=by simp[ByteArray.size]
  have hA:=fun w=>bx3 k w;have hB:=fun w=>be0 k w;have hC:=fun w=>be1 word w hm;have hk3:uses k≠1->k≠3:=by rintro h rfl;exact h rfl
  unfold chk;simp only[hu0,if_false];rcases cb4 k with hu | hu | hu | hu
  . exact absurd hu hu0
  .
   rw[hu]at hA hB ⊢;by_cases he:word=[]
   . cases hiw:isWord word with
     | true=>rw[hiw]at hC;exact ae9 k n _ word.length w h1 h2 true true false _ (empty_of he) hsz hm _ hA hB hC (show _=_ by simp[he])
     | false=>rw[hiw]at hC;exact ae9 k n _ word.length w h1 h2 true true false _ (empty_of he) hsz hm _ hA hB hC (show _=_ by simp[he])
   . cases hiw:isWord word with
     | true=>rw[hiw]at hC;exact ae9 k n _ word.length w h1 h2 false true false _ (full_of he) hsz hm _ hA hB hC (show _=_ by simp[he])
     | false=>rw[hiw]at hC;exact ae9 k n _ word.length w h1 h2 false true false _ (full_of he) hsz hm _ hA hB hC (show _=_ by simp[he])
  . have h3:=hk3 (by rw[hu];decide);rw[hu]at hA hB ⊢;by_cases he:word=[]
    . exact ae9 k n _ word.length w h1 h2 true false true _ (empty_of he) hsz hm _ hA hB hC (show _=_ by simp[he,h3])
    . exact ae9 k n _ word.length w h1 h2 false false true _ (full_of he) hsz hm _ hA hB hC (show _=_ by simp[he])
  . have h3:=hk3 (by rw[hu];decide);rw[hu]at hA hB ⊢;by_cases he:word=[]
    . exact ae9 k n _ word.length w h1 h2 true false false _ (empty_of he) hsz hm _ hA hB hC (show _=_ by simp[he,h3])
    . exact ae9 k n _ word.length w h1 h2 false false false _ (full_of he) hsz hm _ hA hB hC (show _=_ by simp[he])
theorem bE8(a b:qU):((⟨a.toArray⟩:ByteArray).toList==(⟨b.toArray⟩:ByteArray).toList)=decide (a=b):=by
 by_cases h:a=b
 . subst h;simp
 . simp[h]
def x8(n:SNode)(ai:Option Addr)(ni ci:Nat):Value:=.agg #[.int .i64 n.kind,.string ⟨n.file.toArray⟩,.int .i64 n.c.kind,.string ⟨n.c.word.toArray⟩,.int .i64 n.c.n,.int .i64 n.how,.int .i64 n.wide,.slice ai ni ci]
theorem aI0(n:SNode)(ai:Option Addr)(ni ci:Nat)(w:World):
 Calls prog 27 #[x8 n ai ni ci] w fun e w'=>e=.returned (.int .i64 (nouts n))/\Bq w w':=by
 unfold x8 nouts;generalize n.kind=k;generalize n.wide=wd;generalize (⟨n.file.toArray⟩:ByteArray)=fx;generalize (⟨n.c.word.toArray⟩:ByteArray)=wx;generalize n.c.kind=ck;generalize n.c.n=cn;generalize n.how=hw;by_cases h2:k=2
 . subst h2;go_enter func27,ntmps27;go_wp2_with fail;go_ret;exact⟨rfl,g9⟩
 .
  by_cases h5:k=5
  . subst h5;go_enter func27,ntmps27;go_wp2_with fail;go_ret;exact⟨rfl,g9⟩
  . rw[qB h2,qB h5];have e2:(k==2)=false:=by simpa using h2
    have e5:(k==5)=false:=by simpa using h5
    go_enter func27,ntmps27;go_wp2_with fail;go_ret;exact⟨rfl,g9⟩
theorem C5{o p:Obj}:Bq w ((w.alloc o).alloc p):=
 ((Below.refl _ w).alloc (qA _) o).alloc (by simp) p
theorem Z6(h:w.ownsRow B e 1 v ls.length (ls.map S)):
 (v=.slice none 0 0/\ls=[])\/∃g cap,v=.slice (some ⟨g,0,none⟩) ls.length cap/\B<=g/\g<w.heap.size/\ls.length<=cap/\cap<=maxLen/\Sort.Holds encStr w g 0 ls.toArray:=by
 by_cases hv:v=.slice none 0 0
 .
  left;subst hv;rcases h.2 with⟨_,h0⟩|⟨g,cap,cur,e0,_⟩
  . exact⟨rfl,qn h0⟩
  . cases e0
 . right;obtain⟨g,cap,rfl,h1,h2,h3,h4,h5,h6⟩:=Lib.holds_of_ownsRow (enc:=encStr) h hv;exact⟨g,cap,rfl,h1,h2,h3,h4,h6⟩
theorem bU7(ls:qL)(n:Int)(h:1<=n):ls.take n.toNat=ls.take (min n.toNat ls.length):=by
 by_cases hn:n.toNat<=ls.length
 . rw[zA hn]
 . rw[Nat.min_eq_right qO,qj,qP qO]
theorem bJ5(sx:ByteArray)(n:Int)(v:Value)(ls:qL)(w:World)(B:Nat)(Ab:w.ownsRow B 9 1 v ls.length (ls.map S))(hl:ls.length<=75000000)(hn1:1<=n)(hn2:n<=1000):
 Calls prog 195 #[.agg #[.int .i64 9,.string sx,.int .i64 n],v] w fun e w'=>∃r,e=.returned r/\Reads w' r (ls.take n.toNat).length ((ls.take n.toNat).map S)/\Bq w w':=by
 have hsf:=fun(a:Addr)(c:Array Value)(w:World)=>run_store prog w a (.func (.func 226) #[] c) .plain rfl;have hrd:=Reads.of_owns Ab;rcases Z6 Ab with⟨rfl,rfl⟩|⟨g,cap,rfl,hBg,hgw,hcap,hcm,hH⟩
 . have Ur:min n 0=0:=qO;go_enter func195,ntmps195;go_wp2_with fail;go_ret;exact⟨_,rfl,⟨by simp,none,0,by simp,by simp,by simp,fun h=>absurd (by simp) h⟩,C5⟩
 .
  clear Ab hH;obtain⟨L,hL⟩:=qE ls.length;obtain⟨m,hm⟩:=qE (min n.toNat L:Nat);have hmL:m<=L:=qO;have Ur:min n (L:Int)=(m:Int):=qO;have HM:Hid (ls.take n.toNat=ls.take m):=by rw[hm,hL];exact bU7 ls n hn1
  have HL:=qH hL;have hL4:L<=75000000:=qO;have hLc:L<=cap:=qO;have HR:Hid _:=hrd;rw[<- hL];clear hL hm hrd;have Rf:cap<=9223372036854775807:=by simpa[maxLen]using hcm
  go_enter func195,ntmps195;go_wp2_with fail;go_ret;refine⟨_,rfl,Reads.below (w:=w) ?_ C5,C5⟩;have h1:=av7 (m:=m) HR.o (by have:=HL.o;omega);rw[HM.o,List.map_take];simpa[HL.o.symm,zA hmL]using h1
theorem bJ6(sx:ByteArray)(n:Int)(v:Value)(ls:qL)(w:World)(B:Nat)(Ab:w.ownsRow B 9 1 v ls.length (ls.map S))(hl:ls.length<=75000000)(hn1:1<=n)(hn2:n<=1000):
 Calls prog 195 #[.agg #[.int .i64 10,.string sx,.int .i64 n],v] w fun e w'=>∃r,e=.returned r/\Reads w' r (ls.drop (ls.length-n.toNat)).length ((ls.drop (ls.length-n.toNat)).map S)/\Bq w w':=by
 have hsf:=fun(a:Addr)(c:Array Value)(w:World)=>run_store prog w a (.func (.func 226) #[] c) .plain rfl;have hrd:=Reads.of_owns Ab;rcases Z6 Ab with⟨rfl,rfl⟩|⟨g,cap,rfl,hBg,hgw,hcap,hcm,hH⟩
 . have hmax:max 0 (0-n)=0:=qO;have hmax':max 0 (-n)=0:=qO;go_enter func195,ntmps195;go_wp2_with fail;go_ret;exact⟨_,rfl,⟨by simp,none,0,by simp,by simp,by simp,fun h=>absurd (by simp) h⟩,C5⟩
 .
  clear Ab hH;obtain⟨L,hL⟩:=qE ls.length;obtain⟨m,hm⟩:=qE (L-n.toNat:Nat);have hmL:m<=L:=qO;have hmax:max 0 ((L:Int)-n)=(m:Int):=qO;have HM:Hid (L-n.toNat=m):=hm.symm;have HL:=qH hL;have hL4:L<=75000000:=qO;have hLc:L<=cap:=qO;have HR:Hid _:=hrd;rw[<- hL];clear hL hm hrd;have Rf:cap<=9223372036854775807:=by simpa[maxLen]using hcm
  by_cases hcz:cap=m
  . go_enter func195,ntmps195;go_wp2_with fail;go_ret;have e:ls.drop (L-n.toNat)=[]:=by rw[HM.o];exact List.drop_eq_nil_of_le (by have:=HL.o;omega)
    rw[e];refine⟨_,rfl,⟨rfl,some ⟨g,0,none⟩,0,?_,qM _,by unfold maxLen;omega,fun h=>absurd rfl h⟩,C5⟩;simp;omega
  . have hcz':¬(cap-m=0):=qO;go_enter func195,ntmps195;go_wp2_with fail;go_ret;refine⟨_,rfl,Reads.below (w:=w) ?_ C5,C5⟩;have h1:=aB6 (lo:=m) (hi:=ls.length) HR.o (by have:=HL.o;omega) (qA _);rw[HM.o,List.map_drop];rw[qP (by simp)]at h1;simpa[HL.o.symm]using h1
theorem aM1{g cap nn:Nat}(Ab:w.ownsRow B e 1 (.slice (some ⟨g,0,none⟩) n cap) n (ls.map S))(hl:ls.length=n)(ht:ts.length=ls.length):
 (Sort.grow (Sort.putRow encStr (Sort.ahead w nn) g 0 ts.toArray) os).ownsRow B e 1 (.slice (some ⟨g,0,none⟩) n cap) n (ts.map S):=by
 subst hl;rcases Ab.2 with⟨h0,_⟩|⟨g',cap',cur,hv,Nj,hb,h1,h2,h3,h4⟩
 . cases h0
 cases hv;exact ownsRow_sorted (n:=nn) (os:=os) (ts:=ts) (ss:=ls) ht Nj hb h1 h2 h3
theorem bU8(v:Value)(ls:qL)(w:World)(B:Nat)(hB:B<=w.heap.size)(Ab:w.ownsRow B 9 1 v ls.length (ls.map S))(hl:ls.length<=250000000):
 Calls prog 118 #[v] w fun e w'=>e=.returned (.tuple #[])/\w'.ownsRow B 9 1 v (P3 ls).length ((P3 ls).map S)/\Below B w w':=by
 rcases Z6 Ab with⟨rfl,rfl⟩|⟨g,cap,rfl,hBg,hgw,hcap,hcm,hH⟩
 . refine (Tryz.slices_Sort_string_none none 0 w).mono ?_;rintro e w'⟨rfl,rfl⟩;exact⟨rfl,by simpa[P3]using World.ownsRow_nil w' B 9 1,Below.refl _ _⟩
 .
  refine (Tryz.slices_Sort_string g 0 cap ls w hH hgw qO).mono ?_;rintro e w'⟨rfl,nn,os,rfl⟩;have hlen:(P3 ls).length=ls.length:=(aa6 ls).length_eq;refine⟨rfl,?_,?_⟩
  . rw[hlen];exact aM1 Ab rfl hlen
  . exact (Below.refl B w).grown (grownBy_sorted _) hB (fun j hj=>by cases hj;exact hBg)
theorem bm6(v:Value)(ls:qL)(w:World)(B:Nat)(Ab:w.ownsRow B 9 1 v ls.length (ls.map S))(hl:ls.length<=250000000):
 Calls prog 233 #[v] w fun e w'=>∃r,e=.returned r/\w'.ownsRow B 9 1 r (Lib.compact ls).length ((Lib.compact ls).map S)/\Below B w w':=by
 rcases Z6 Ab with⟨rfl,rfl⟩|⟨g,cap,rfl,hBg,hgw,hcap,hcm,hH⟩
 . refine (Tryz.slices_Compact_string_empty none 0 w).mono ?_;rintro e w'⟨rfl,rfl⟩;exact⟨_,rfl,World.ownsRow_nil w' B 9 1,Below.refl _ _⟩
 . refine (Tryz.slices_Compact_string g 0 cap ls w hH qO hcap).mono ?_;rintro e w'⟨rfl,q,rfl⟩;have hle:=Lib.compact_length_le ls;have hc:=Lib.ownsRow_putRow (enc:=encStr) (q:=q) (k:=(Lib.compact ls).length) (ys:=Lib.compact ls++List.replicate (ls.length-(Lib.compact ls).length) []) Ab (by simp;omega) hle;rw[List.take_left]at hc;exact⟨_,rfl,hc,Lib.below_putRow (Below.refl _ _) hBg⟩
theorem bJ7(sx:ByteArray)(n:Int)(v:Value)(ls:qL)(w:World)(B:Nat)(hB:B<=w.heap.size)(Ab:w.ownsRow B 9 1 v ls.length (ls.map S))(hl:ls.length<=75000000):
 Calls prog 195 #[.agg #[.int .i64 6,.string sx,.int .i64 n],v] w fun e w'=>∃r,e=.returned r/\Reads w' r (P3 ls).length ((P3 ls).map S)/\Below B w w':=by
 have hsf:=fun(a:Addr)(c:Array Value)(w:World)=>run_store prog w a (.func (.func 226) #[] c) .plain rfl;have Ho:Hid _:=Ab;clear Ab;go_enter func195,ntmps195;go_wp2_with fail;refine (bU8 v ls _ B ?_ (A5 Ho.o C5) qO).mono ?_
 . have:=(C5 (w:=w) (o:=.cells #[.int .i64 6,.string sx,.int .i64 n] 54) (p:=.cells #[.nilFunc] 95)).size;simp;omega
 rintro e w1⟨rfl,Ar,Bm⟩;have R:Hid _:=Reads.of_owns Ar;have HB:Hid (Below B w w1):=((C5.mono hB).trans Bm);clear Ar Bm;go_wp2_with fail;go_ret;exact⟨_,rfl,R.o,HB.o⟩
theorem bJ8(sx:ByteArray)(n:Int)(v:Value)(ls:qL)(w:World)(B:Nat)(hB:B<=w.heap.size)(Ab:w.ownsRow B 9 1 v ls.length (ls.map S))(hl:ls.length<=75000000):
 Calls prog 195 #[.agg #[.int .i64 7,.string sx,.int .i64 n],v] w fun e w'=>∃r,e=.returned r/\Reads w' r (Lib.compact ls).length ((Lib.compact ls).map S)/\Below B w w':=by have hsf:=fun(a:Addr)(c:Array Value)(w:World)=>run_store prog w a (.func (.func 226) #[] c) .plain rfl;have Ho:Hid _:=Ab;clear Ab;go_enter func195,ntmps195;go_wp2_with fail;refine (bm6 v ls _ B (A5 Ho.o C5) qO).mono ?_;rintro e w1⟨r,rfl,Ar,Bm⟩;have R:Hid _:=Reads.of_owns Ar;have HB:Hid (Below B w w1):=((C5.mono hB).trans Bm);clear Ar Bm;go_wp2_with fail;go_ret;exact⟨_,rfl,R.o,HB.o⟩
def cutL(x:qU):qU:=x.take 250000000
def encL(x:qU):Value:=encStr (cutL x)
theorem be5(h:s.length<=250000000):cutL s=s:=qP h
theorem az3(s:qU):(cutL s).length<=250000000:=by unfold cutL;simp;omega
theorem bx4(ls:qL)(p:qU->Bool)(h:∀s∈ls,s.length<=250000000):(ls.filter fun x=>!p (cutL x))=ls.filter fun x=>!p x:=by apply List.filter_congr;intro x hx;rw[be5 (h x hx)]
theorem bE9(ls:qL)(h:∀s∈ls,s.length<=250000000):ls.map encL=ls.map S:=by apply zq;intro x hx;unfold encL;rw[be5 (h x hx)];rfl
theorem bm7(fv:Value)(w:World):
 Calls prog 227 #[.slice none 0 0,fv] w fun e w'=>e=.returned (.slice none 0 0)/\w'=w:=by
 have hf:=Tryz.slices_IndexFunc_empty (α:=qU) none 0 fv w;go_enter func227,ntmps227;go_wp2_with (go_at_call 242;refine hf.mono ?_;rintro e w9⟨rfl,rfl⟩)
 go_ret;exact⟨rfl,rfl⟩
theorem aM2(v:Value)(ls:qL)(w:World)(B g:Nat)(lb:Array Value)(p:qU->Bool)(eg:∀args w,(callFunc g args).run prog w=.ok (.enter g args) w)(Ab:w.ownsRow B 9 1 v ls.length (ls.map S))(hl:ls.length<=250000000)(hsz:∀s∈ls,s.length<=250000000)
 (hp:PredAt prog g lb encL (fun x=>p (cutL x)) w) (hpo:∀blk,v.ownBlock=some blk->PredOver prog g lb encL (fun x=>p (cutL x)) blk 0 ls.length w):
 Calls prog 227 #[v,.func (.func g) #[] lb] w fun e w'=>∃r,e=.returned r/\w'.ownsRow B 9 1 r (ls.filter fun x=>!p x).length ((ls.filter fun x=>!p x).map S)/\Below B w w':=by
 rcases Z6 Ab with⟨rfl,rfl⟩|⟨blk,cap,rfl,hBg,hgw,hcap,hcm,hH⟩
 . refine (bm7 _ w).mono ?_;rintro e w'⟨rfl,rfl⟩;exact⟨_,rfl,World.ownsRow_nil w' B 9 1,Below.refl _ _⟩
 .
  have hHz:Sort.Holds encL w blk 0 ls.toArray:=by
   intro j hj;have hj':j<ls.length:=by simpa using hj
   obtain⟨h1,h2⟩:=hH j hj;refine⟨?_,h2⟩;rw[h1];unfold encL;rw[be5];simp only[List.getElem!_toArray];rw[getElem!_pos ls j hj'];exact hsz _ (zZ hj')
  have Ag:w.ownsRow B 9 1 (.slice (some ⟨blk,0,none⟩) ls.length cap) ls.length (ls.map encL):=by rw[bE9 ls hsz];exact Ab
  have hD:=Tryz.slices_DeleteFunc encL (fun _=>rfl) (fun x=>p (cutL x)) g lb eg [] Tryz.zeroValue9 blk 0 cap ls.toArray w hp (hpo blk rfl) hHz (by simp;omega) (by simpa using hcap);simp only[List.size_toArray]at hD;rw[bx4 ls p hsz]at hD;refine hD.mono ?_;rintro e w'⟨rfl,q,rfl⟩;have hle:(ls.filter fun x=>!p x).length<=ls.length:=List.length_filter_le _ _;have hc:=Lib.ownsRow_putRow (enc:=encL) (q:=q) (k:=(ls.filter fun x=>!p x).length) (ys:=(ls.filter fun x=>!p x)++List.replicate (ls.length-(ls.filter fun x=>!p x).length) ([]:qU)) Ag (by simp;omega) hle;rw[List.take_left,bE9 _ (fun s hs=>hsz s (List.mem_filter.1 hs).1)]at hc;exact⟨_,rfl,hc,Lib.below_putRow (Below.refl _ _) hBg⟩
theorem aD0(bx:Nat)(word x:qU)(m:Int)(W:World)(hc:W.cell? ⟨bx,1,none⟩=some (.string ⟨word.toArray⟩))(hm:W.cell? ⟨0,0,none⟩=some (.int .i64 m))(hx:x.length<=250000000):
 Calls prog 226 #[encStr x,.pointer (some ⟨bx,0,none⟩)] W fun e w'=>e=.returned (.bool (Lib.contains x word))/\w'=W:=by
 have Oe:=Tryz.strings_Contains ⟨x.toArray⟩ ⟨word.toArray⟩ m W (by simp[ByteArray.size];omega) hm;simp only at Oe;unfold encStr;go_enter func226,ntmps226;go_wp2_with (go_at_call 86;refine Oe.mono ?_;rintro e w9⟨rfl,rfl⟩)
 go_ret;exact⟨rfl,rfl⟩
theorem aE9(bx hb:Nat)(word x:qU)(m:Int)(W:World)(hh:W.cell? ⟨hb,0,none⟩=some (.func (.func 226) #[] #[.pointer (some ⟨bx,0,none⟩)]))(hc:W.cell? ⟨bx,1,none⟩=some (.string ⟨word.toArray⟩))(hm:W.cell? ⟨0,0,none⟩=some (.int .i64 m))(hx:x.length<=250000000):
 Calls prog 228 #[encStr x,.pointer (some ⟨hb,0,none⟩)] W fun e w'=>e=.returned (.bool (!Lib.contains x word))/\w'=W:=by
 have Oe:=aD0 bx word x m W hc hm hx;unfold encStr at Oe ⊢;have eg:∀args w,(callFunc 226 args).run prog w=.ok (.enter 226 args) w:=enters_of func226 qQ rfl;generalize Lib.contains x word=r at *;go_enter func228,ntmps228;go_wp2_with (go_at_fn 226;refine Oe.mono ?_;rintro e w9⟨rfl,rfl⟩)
 go_ret;exact⟨rfl,rfl⟩
theorem ai3{blk:Nat}(hc:w.cell? a=some u)(hne:a.block≠blk):(sortWorld encL w blk 0 n dk os).cell? a=some u:=by have hB:=bLt w _ hc;unfold sortWorld;rw[Sort.cell?_grow _ _ _ (by rw[Sort.size_putRow];exact hB),Sort.cell?_putRow_other _ _ blk 0 _ _ (Or.inl hne)];exact hc
theorem bJ9(word:qU)(n m:Int)(v:Value)(ls:qL)(w:World)(B:Nat)(hB0:0 < B)(hB:B<=w.heap.size)(Ab:w.ownsRow B 9 1 v ls.length (ls.map S))(hl:ls.length<=75000000)(hsz:∀s∈ls,s.length<=250000000)(hm:w.cell? ⟨0,0,none⟩=some (.int .i64 m)):
 Calls prog 195 #[.agg #[.int .i64 1,.string ⟨word.toArray⟩,.int .i64 n],v] w fun e w'=>∃r,e=.returned r/\Reads w' r (ls.filter fun s=>Lib.contains s word).length ((ls.filter fun s=>Lib.contains s word).map S)/\Below B w w':=by
 have hsf:=fun(a:Addr)(c:Array Value)(w:World)=>run_store prog w a (.func (.func 226) #[] c) .plain rfl;have eg:∀args w,(callFunc 228 args).run prog w=.ok (.enter 228 args) w:=enters_of func228 qQ rfl;obtain⟨w2,hw2⟩:=qE ((w.alloc (.cells #[.int .i64 1,.string ⟨word.toArray⟩,.int .i64 n] 54)).alloc (.cells #[.func (.func 226) #[] #[.pointer (some ⟨w.heap.size,0,none⟩)]] 95));have hb2:Bq w w2:=by rw[hw2];exact C5
 have hbx:w2.cell? ⟨w.heap.size,1,none⟩=some (.string ⟨word.toArray⟩):=by rw[hw2];simp
 have hhb:w2.cell? ⟨w.heap.size+1,0,none⟩=some (.func (.func 226) #[] #[.pointer (some ⟨w.heap.size,0,none⟩)]):=by rw[hw2];simp
 have hm2:w2.cell? ⟨0,0,none⟩=some (.int .i64 m):=(hb2.cell (by show 0 < _;omega)).trans hm
 have hD:=aM2 v ls w2 B 228 #[.pointer (some ⟨w.heap.size+1,0,none⟩)] (fun x=>!Lib.contains x word) eg (A5 Ab hb2) qO hsz
  (fun W x hb=>by
   refine (aE9 w.heap.size (w.heap.size+1) word (cutL x) m W (qC hb hhb) (qC hb hbx) (qC hb hm2) (az3 x)).mono ?_
   rintro e w'⟨rfl,rfl⟩
   exact⟨rfl,0,rfl⟩)
  (fun blk hblk q os dk x _=>by
   obtain⟨h1,h2⟩:=Ab.lt blk hblk
   refine (aE9 w.heap.size (w.heap.size+1) word (cutL x) m _ (ai3 hhb (by show w.heap.size+1≠blk;omega)) (ai3 hbx (by show w.heap.size≠blk;omega)) (ai3 hm2 (by show 0 ≠ blk;omega)) (az3 x)).mono ?_
   rintro e w'⟨rfl,rfl⟩
   exact⟨rfl,0,rfl⟩)
 have e1:(ls.filter fun x=>!(!Lib.contains x word))=ls.filter fun s=>Lib.contains s word:=by simp
 rw[e1]at hD;generalize (ls.filter fun s=>Lib.contains s word)=R at *;have H2:Hid _:=hw2;clear hbx hhb hm2;rw[hw2]at hD;clear hw2 hb2;go_enter func195,ntmps195;go_wp2_with fail;refine hD.mono ?_;rintro e w1⟨r,rfl,Ar,Bm⟩;have R:Hid _:=Reads.of_owns Ar;have HB:Hid (Below B w w1):=((C5.mono hB).trans Bm);clear Ar Bm;go_wp2_with fail;go_ret;exact⟨_,rfl,R.o,HB.o⟩
theorem bK0(word:qU)(n m:Int)(v:Value)(ls:qL)(w:World)(B:Nat)(hB0:0 < B)(hB:B<=w.heap.size)(Ab:w.ownsRow B 9 1 v ls.length (ls.map S))(hl:ls.length<=75000000)(hsz:∀s∈ls,s.length<=250000000)(hm:w.cell? ⟨0,0,none⟩=some (.int .i64 m)):
 Calls prog 195 #[.agg #[.int .i64 2,.string ⟨word.toArray⟩,.int .i64 n],v] w fun e w'=>∃r,e=.returned r/\Reads w' r (ls.filter fun s=>!Lib.contains s word).length ((ls.filter fun s=>!Lib.contains s word).map S)/\Below B w w':=by
 have hsf:=fun(a:Addr)(c:Array Value)(w:World)=>run_store prog w a (.func (.func 226) #[] c) .plain rfl;have eg:∀args w,(callFunc 226 args).run prog w=.ok (.enter 226 args) w:=enters_of func226 qQ rfl;obtain⟨w2,hw2⟩:=qE ((w.alloc (.cells #[.int .i64 2,.string ⟨word.toArray⟩,.int .i64 n] 54)).alloc (.cells #[.func (.func 226) #[] #[.pointer (some ⟨w.heap.size,0,none⟩)]] 95));have hb2:Bq w w2:=by rw[hw2];exact C5
 have hbx:w2.cell? ⟨w.heap.size,1,none⟩=some (.string ⟨word.toArray⟩):=by rw[hw2];simp
 have hm2:w2.cell? ⟨0,0,none⟩=some (.int .i64 m):=(hb2.cell (by show 0 < _;omega)).trans hm
 have hD:=aM2 v ls w2 B 226 #[.pointer (some ⟨w.heap.size,0,none⟩)] (fun x=>Lib.contains x word) eg (A5 Ab hb2) qO hsz
  (fun W x hb=>by
   refine (aD0 w.heap.size word (cutL x) m W (qC hb hbx) (qC hb hm2) (az3 x)).mono ?_
   rintro e w'⟨rfl,rfl⟩
   exact⟨rfl,0,rfl⟩)
  (fun blk hblk q os dk x _=>by
   obtain⟨h1,h2⟩:=Ab.lt blk hblk
   refine (aD0 w.heap.size word (cutL x) m _ (ai3 hbx (by show w.heap.size≠blk;omega)) (ai3 hm2 (by show 0 ≠ blk;omega)) (az3 x)).mono ?_
   rintro e w'⟨rfl,rfl⟩
   exact⟨rfl,0,rfl⟩)
 generalize (ls.filter fun s=>!Lib.contains s word)=R at *;clear hbx hm2;rw[hw2]at hD;clear hw2 hb2;go_enter func195,ntmps195;go_wp2_with fail;refine hD.mono ?_;rintro e w1⟨r,rfl,Ar,Bm⟩;have R:Hid _:=Reads.of_owns Ar;have HB:Hid (Below B w w1):=((C5.mono hB).trans Bm);clear Ar Bm;go_wp2_with fail;go_ret;exact⟨_,rfl,R.o,HB.o⟩
end Go.Proofs.YtmejdflmcikkdaaGreatDoor
