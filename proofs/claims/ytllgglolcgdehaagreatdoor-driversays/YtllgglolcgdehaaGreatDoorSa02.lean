/- What the developers' Check answers, and more. -/
import Derived.Test.YtllgglolcgdehaaGreatDoorSAb
import Derived.Deep.Draws
import Derived.Deep.RegionWith
import Derived.Deep.DeepCutAuto
import Derived.Deep.Cut
import Derived.Deep.RegionLaw
import Derived.Laws.StructEq
import Derived.Maps.AppendAt
import Derived.Lib.OwnBridge
import Derived.Sort.OwnSorted
import Derived.Sort.Grow
import Derived.Test.YtllgglolcgdehaaGreatDoorSa01
set_option linter.all false
set_option maxRecDepth 100000
set_option maxHeartbeats 16000000
namespace Go.Proofs.YtllgglolcgdehaaGreatDoor
open Go.RowKit Go.Gs Tryz
theorem empty_of{word:List UInt8}(h:word=[]):(⟨word.toArray⟩:ByteArray).toList.isEmpty=true:=by subst h;simp
theorem full_of{word:List UInt8}(h:word≠[]):(⟨word.toArray⟩:ByteArray).toList.isEmpty=false:=by
 cases word with
 | nil=>exact absurd rfl h
 | cons c l=>simp
theorem bZ5{k n:Int}{word:List UInt8}(h:uses k=0\/(uses k≠1/\word≠[])\/(uses k≠2/\n≠0)):chk ⟨k,word,n⟩=4:=by
 unfold chk;split
 . rfl
 . rename_i hu;simp only at hu ⊢;rw[qF (h.resolve_left hu)]
theorem aM5(k:Int):(uses k=0) ↔ (k<1\/10<k):=by
 unfold uses;split
 . simp;omega
 .
  split
  . simp;omega
  . split
    . simp;omega
    . simp;omega
theorem bn0(k n:Int)(word:List UInt8)(w:World)(h:k<1\/10<k):
 Calls prog 140 #[.agg #[.int .i64 k,.string ⟨word.toArray⟩,.int .i64 n]] w fun e w'=>e=.returned (.int .i64 4)/\Bq w w':=by
 go_enter Tryz.func140,Tryz.ntmps140;go_wp2_with fail;all_goals go_ret
 all_goals exact⟨rfl,i8⟩
theorem ae1(k n:Int)(sx:ByteArray)(L:Nat)(w:World)(h1:1<=k)(h2:k<=10)(em bA bB bC:Bool)(hem:sx.toList.isEmpty=em)(hsz:sx.size=L)(hL:L<=9223372036854775807)(r:Int)
 (hA:∀w,Calls prog 189 #[.int .i64 k] w fun e w'=>e=.returned (.bool bA)/\w'=w)
 (hB:∀w,Calls prog 190 #[.int .i64 k] w fun e w'=>e=.returned (.bool bB)/\w'=w) (hC:∀w,Calls prog 103 #[.string sx] w fun e w'=>e=.returned (.bool bC)/\w'=w)
 (hr:Hid (r=if em=false/\bA=false\/n≠0/\bB=false then 4 else if bB=true/\(n<1\/1000<n) then 3 else if bA=true/\bC=false then 1 else if k=3/\L≠2 then 1 else 0)):
 Calls prog 140 #[.agg #[.int .i64 k,.string sx,.int .i64 n]] w fun e w'=>e=.returned (.int .i64 r)/\Bq w w':=by
 have hz:L=2\/¬((L:Int)=2):=by omega
 cases em <;> cases bA <;> cases bB <;> cases bC
 all_goals
  by_cases hk3:k=3
  case' pos=>subst hk3;rcases hz with rfl | hz
  all_goals
   simp at hr;go_enter Tryz.func140,Tryz.ntmps140;go_wp2_with (first|(go_at_call 189;refine (hA _).mono ?_;rintro e w9⟨rfl,rfl⟩)|(go_at_call 190;refine (hB _).mono ?_;rintro e w9⟨rfl,rfl⟩)|(go_at_call 103;refine (hC _).mono ?_;rintro e w9⟨rfl,rfl⟩))
   all_goals go_ret
   all_goals (refine⟨?_,i8⟩;rw[hr.out];(repeat' split) <;> first|rfl | (exfalso;omega)|(exfalso;simp_all;done)|(exfalso;simp_all;omega))
theorem cj9(k:Int):uses k=0\/uses k=1\/uses k=2\/uses k=3:=by
 unfold uses;split
 . exact .inr (.inl rfl)
 .
  split
  . exact .inr (.inr (.inl rfl))
  . split
    . exact .inr (.inr (.inr rfl))
    . exact .inl rfl
theorem ah7(c:Cmd)(w:World)(hm:c.word.length<=9223372036854775807):
 Calls prog 140 #[c.v] w fun e w'=>e=.returned (.int .i64 (chk c))/\Bq w w':=by
 obtain⟨k,word,n⟩:=c;show Calls prog 140 #[.agg #[.int .i64 k,.string ⟨word.toArray⟩,.int .i64 n]] w _;by_cases h0:k<1\/10<k
 . rw[bZ5 (.inl ((aM5 k).2 h0))];exact bn0 k n word w h0
 .
  have h1:1<=k:=by omega
  have h2:k<=10:=by omega
  have hu0:uses k≠0:=fun h=>h0 ((aM5 k).1 h);have hsz:(⟨word.toArray⟩:ByteArray).size=word.length:=by simp[ByteArray.size]
  have hA:=fun w=>bz6 k w;have hB:=fun w=>be5 k w;have hC:=fun w=>ay0 word w hm;have hk3:uses k≠1->k≠3:=by rintro h rfl;exact h rfl
  unfold chk;simp only[hu0,if_false];rcases cj9 k with hu | hu | hu | hu
  . exact absurd hu hu0
  .
   rw[hu]at hA hB ⊢;by_cases he:word=[]
   . cases hiw:isWord word with
     | true=>rw[hiw]at hC;exact ae1 k n _ word.length w h1 h2 true true false _ (empty_of he) hsz hm _ hA hB hC (show _=_ by simp[he])
     | false=>rw[hiw]at hC;exact ae1 k n _ word.length w h1 h2 true true false _ (empty_of he) hsz hm _ hA hB hC (show _=_ by simp[he])
   . cases hiw:isWord word with
     | true=>rw[hiw]at hC;exact ae1 k n _ word.length w h1 h2 false true false _ (full_of he) hsz hm _ hA hB hC (show _=_ by simp[he])
     | false=>rw[hiw]at hC;exact ae1 k n _ word.length w h1 h2 false true false _ (full_of he) hsz hm _ hA hB hC (show _=_ by simp[he])
  . have h3:=hk3 (by rw[hu];decide);rw[hu]at hA hB ⊢;by_cases he:word=[]
    . exact ae1 k n _ word.length w h1 h2 true false true _ (empty_of he) hsz hm _ hA hB hC (show _=_ by simp[he,h3])
    . exact ae1 k n _ word.length w h1 h2 false false true _ (full_of he) hsz hm _ hA hB hC (show _=_ by simp[he])
  . have h3:=hk3 (by rw[hu];decide);rw[hu]at hA hB ⊢;by_cases he:word=[]
    . exact ae1 k n _ word.length w h1 h2 true false false _ (empty_of he) hsz hm _ hA hB hC (show _=_ by simp[he,h3])
    . exact ae1 k n _ word.length w h1 h2 false false false _ (full_of he) hsz hm _ hA hB hC (show _=_ by simp[he])
theorem cr4{w w':World}{a b c:Value}{t:TypeId}(h:Below (w.alloc (.cells #[a,b,c] t)).heap.size (w.alloc (.cells #[a,b,c] t)) w'):w'.cell? ⟨w.heap.size,0,none⟩=some a/\w'.cell? ⟨w.heap.size,1,none⟩=some b/\w'.cell? ⟨w.heap.size,2,none⟩=some c:=by
 refine⟨?_,?_,?_⟩
 all_goals
  rw[h.cell (by simp),qV _ _ _ _ _ _ (qN w _)];rfl
theorem be6{B:Nat}{w w1:World}(h:w.grownBy w1 none)(hB:B<=w.heap.size):Below B w w1:=⟨h.os,h.tape,h.output,h.size,fun k hk=>h.block k (by omega) (by simp)⟩
theorem ak2{w:World}{B:Nat}{e:TypeId}{size:Nat}{v:Value}{n:Nat}{xs:List Value}(h:w.ownsRow B e size v n xs):∃a c,v=.slice a n c/\n<=c/\c<=maxLen:=by
 rcases h.2 with⟨rfl,h0⟩|⟨g,cap,cur,rfl,_,_,h1,h2,_⟩
 . exact⟨none,0,by rw[h0],by omega,by simp[maxLen]⟩
 . exact⟨_,cap,rfl,h1,h2⟩
theorem ah8{P:Program}{ops:Array Oper}{o:Oper}{a:Act}{w:World}{K:Act->World->Prop}{Q:Exit->Act->World->Prop}{E:Prop}
 (hgd:o.guard=none) (s x:Operand) (t:TypeId) (ho:o.op=.call { callee:=.builtin .append,args:=#[s,x],argTypes:=#[t,t] })
 (base:Nat) (e:TypeId) (i:TypeInfo) (z:Value) (size bytes:Nat) (ht:P.underlying t=some (.slice e)) (hi:P.info? e=some i) (hz:i.zero=some z)
 (Dt:i.size=size) (hby:i.bytes=bytes) (hzs:z.cells.size=size) (hsz:0<size)
 (v:Value) (n:Nat) (xs:List Value) (hs:a.eval s=v) (Ab:w.ownsRow base e size v n xs)
 (ad:Addr) (m c:Nat) (news:List Value) (hx:a.eval x=.slice (some ad) m c) (hl:news.length=m*size) (Ws:∀j u,news[j]? = some u->w.cell? (ad.add j)=some u) (h1:∀u∈news,u.oneCell'=true)
 (h63:n+m<=maxLen) (Sj:(n+m)*bytes<=140737488355328) (Kv:base<=w.heap.size)
 (h:∀v' w',w'.ownsRow base e size v' (n+m) (xs++news)->w.grownBy w' v.ownBlock->(v'=.slice none 0 0 ↔ v=.slice none 0 0/\m=0)->(v'.ownBlock=v.ownBlock\/v'.ownBlock=some w.heap.size)->K (a.put o.dst v') w'):
 if Region.wanted o (yielded ops a.tmps)=true then Oper.wp P o a w K Q else E:=by
 have hw:Region.wanted o (yielded ops a.tmps)=true:=by simp[Region.wanted,hgd]
 rw[qF hw];obtain⟨v',w',hr,h2,h3,h4,h5⟩:=run_append_own_at (P:=P) w base t o.type e i z size bytes ht hi hz Dt hby hzs hsz v n xs Ab ad m c news hl Ws h1 h63 Sj Kv;unfold Oper.wp execOp;simp only[ho,resolve,invoke,builtin,Sem.run_bind,Sem.run_pure,Result.andThen_ok,List.map_toArray,qs,List.map_nil,hs,hx,hr];exact h v' w' h2 h3 h4 h5
def C6(n:SNode)(ai:Option Addr)(ni ci:Nat):Value:=.agg #[.int .i64 n.kind,.string ⟨n.file.toArray⟩,.int .i64 n.c.kind,.string ⟨n.c.word.toArray⟩,.int .i64 n.c.n,.int .i64 n.how,.int .i64 n.wide,.slice ai ni ci]
theorem ay2(n:SNode)(ai:Option Addr)(ni ci:Nat)(w:World):
 Calls prog 62 #[C6 n ai ni ci] w fun e w'=>e=.returned (.int .i64 (nouts n))/\Bq w w':=by
 unfold C6 nouts;generalize n.kind=k;generalize n.wide=wd;generalize (⟨n.file.toArray⟩:ByteArray)=fx;generalize (⟨n.c.word.toArray⟩:ByteArray)=wx;generalize n.c.kind=ck;generalize n.c.n=cn;generalize n.how=hw;by_cases h2:k=2
 . subst h2;go_enter Tryz.func62,Tryz.ntmps62;go_wp2_with fail;go_ret;exact⟨rfl,i8⟩
 .
  by_cases h5:k=5
  . subst h5;go_enter Tryz.func62,Tryz.ntmps62;go_wp2_with fail;go_ret;exact⟨rfl,i8⟩
  . rw[qA h2,qA h5];have e2:(k==2)=false:=by simpa using h2
    have e5:(k==5)=false:=by simpa using h5
    go_enter Tryz.func62,Tryz.ntmps62;go_wp2_with fail;go_ret;exact⟨rfl,i8⟩
theorem be7(k:Int):(k=6/\C9 k=2)\/(k=8/\C9 k=3)\/(k=7/\C9 k=4)\/(k=9/\C9 k=4)\/(k=10/\C9 k=4)\/(k≠6/\k≠7/\k≠8/\k≠9/\k≠10/\C9 k=1):=by
 unfold C9;by_cases h6:k=6
 . simp[h6]
 .
  by_cases h8:k=8
  . simp[h8]
  .
   by_cases h7:k=7
   . simp[h7]
   . by_cases h9:k=9
     . simp[h9]
     . by_cases h10:k=10
       . simp[h10]
       . simp[*]
theorem cp4(c:Cmd)(w:World)(hw:c.word.length<=9223372036854775807):
 Calls prog 143 #[c.v] w fun e w'=>e=.returned (.tuple #[.int .i64 (if chk c=0 then C9 c.kind else 0),.int .i64 (chk c)])/\Bq w w':=by
 have Ap:=fun W=>ah7 c W hw;obtain⟨k,word,n⟩:=c;unfold Cmd.v at Ap ⊢;simp only at Ap ⊢;generalize (⟨word.toArray⟩:ByteArray)=sx at *;by_cases h0:chk ⟨k,word,n⟩=0
 .
  rw[h0]at Ap ⊢;rw[qF rfl];have hkk:=be7 k;clear h0;generalize C9 k=h at *;rcases hkk with⟨rfl,rfl⟩|⟨rfl,rfl⟩|⟨rfl,rfl⟩|⟨rfl,rfl⟩|⟨rfl,rfl⟩|⟨h6,h7,h8,h9,h10,rfl⟩
  all_goals
   go_enter Tryz.func143,Tryz.ntmps143;go_wp2_with fail;refine (Ap _).mono ?_;rintro e w1⟨rfl,hb1⟩;obtain⟨bx0,bx1,bx2⟩:=cr4 hb1;have HB:Hid (Bq w w1):=i8.trans (hb1.mono (by simp));clear hb1 Ap;go_wp2_with fail;go_ret2;exact⟨rfl,HB.out⟩
 . rw[qA h0];generalize chk ⟨k,word,n⟩=r at *;go_enter Tryz.func143,Tryz.ntmps143;go_wp2_with fail;refine (Ap _).mono ?_;rintro e w1⟨rfl,hb1⟩;have HB:Hid (Bq w w1):=i8.trans (hb1.mono (by simp));clear hb1 Ap;go_wp2_with fail;go_ret2;exact⟨rfl,HB.out⟩
theorem A9{w:World}{o p:Obj}:Bq w ((w.alloc o).alloc p):=
 ((qI _ w).alloc (qB _) o).alloc (by simp) p
theorem Y4{w:World}{B:Nat}{e:TypeId}{v:Value}{ls:List (List UInt8)}(h:w.ownsRow B e 1 v ls.length (ls.map S)):
 (v=.slice none 0 0/\ls=[])\/∃g cap,v=.slice (some ⟨g,0,none⟩) ls.length cap/\B<=g/\g<w.heap.size/\ls.length<=cap/\cap<=maxLen/\Sort.Holds encStr w g 0 ls.toArray:=by
 by_cases hv:v=.slice none 0 0
 .
  left;subst hv;rcases h.2 with⟨_,h0⟩|⟨g,cap,cur,e0,_⟩
  . exact⟨rfl,qi h0⟩
  . cases e0
 . right;obtain⟨g,cap,rfl,h1,h2,h3,h4,h5,h6⟩:=Lib.holds_of_ownsRow (enc:=encStr) h hv;exact⟨g,cap,rfl,h1,h2,h3,h4,h6⟩
theorem bZ6(ls:List (List UInt8))(n:Int)(h:1<=n):ls.take n.toNat=ls.take (min n.toNat ls.length):=by
 by_cases hn:n.toNat<=ls.length
 . rw[ql hn]
 . rw[Nat.min_eq_right (by omega),qZ,qO (by omega)]
theorem bM0(sx:ByteArray)(n:Int)(v:Value)(ls:List (List UInt8))(w:World)(B:Nat)(Ab:w.ownsRow B 9 1 v ls.length (ls.map S))(hl:ls.length<=300000)(hn1:1<=n)(hn2:n<=1000):
 Calls prog 157 #[.agg #[.int .i64 9,.string sx,.int .i64 n],v] w fun e w'=>∃r,e=.returned r/\Reads w' r (ls.take n.toNat).length ((ls.take n.toNat).map S)/\Bq w w':=by
 have hsf:=fun(a:Addr)(c:Array Value)(w:World)=>run_store prog w a (.func (.func 203) #[] c) .plain rfl;have hrd:=Reads.of_owns Ab;rcases Y4 Ab with⟨rfl,rfl⟩|⟨g,cap,rfl,hBg,hgw,hcap,hcm,hH⟩
 . have Sm:min n 0=0:=by omega
   go_enter Tryz.func157,Tryz.ntmps157;go_wp2_with fail;go_ret;exact⟨_,rfl,⟨by simp,none,0,by simp,by simp,by simp,fun h=>absurd (by simp) h⟩,A9⟩
 .
  clear Ab hH;obtain⟨L,hL⟩:=qE ls.length;obtain⟨m,hm⟩:=qE (min n.toNat L:Nat);have hmL:m<=L:=by omega
  have Sm:min n (L:Int)=(m:Int):=by omega
  have HM:Hid (ls.take n.toNat=ls.take m):=by rw[hm,hL];exact bZ6 ls n hn1
  have HL:=qH hL;have hL4:L<=300000:=by omega
  have hLc:L<=cap:=by omega
  have HR:Hid _:=hrd;rw[<- hL];clear hL hm hrd;have Ot:cap<=9223372036854775807:=by simpa[maxLen]using hcm
  go_enter Tryz.func157,Tryz.ntmps157;go_wp2_with fail;go_ret;refine⟨_,rfl,Reads.below (w:=w) ?_ A9,A9⟩;have h1:=aM3 (m:=m) HR.out (by have:=HL.out;omega);rw[HM.out,List.map_take];simpa[HL.out.symm,ql hmL]using h1
theorem bM1(sx:ByteArray)(n:Int)(v:Value)(ls:List (List UInt8))(w:World)(B:Nat)(Ab:w.ownsRow B 9 1 v ls.length (ls.map S))(hl:ls.length<=300000)(hn1:1<=n)(hn2:n<=1000):
 Calls prog 157 #[.agg #[.int .i64 10,.string sx,.int .i64 n],v] w fun e w'=>∃r,e=.returned r/\Reads w' r (ls.drop (ls.length-n.toNat)).length ((ls.drop (ls.length-n.toNat)).map S)/\Bq w w':=by
 have hsf:=fun(a:Addr)(c:Array Value)(w:World)=>run_store prog w a (.func (.func 203) #[] c) .plain rfl;have hrd:=Reads.of_owns Ab;rcases Y4 Ab with⟨rfl,rfl⟩|⟨g,cap,rfl,hBg,hgw,hcap,hcm,hH⟩
 .
  have hmax:max 0 (0-n)=0:=by omega
  have hmax':max 0 (-n)=0:=by omega
  go_enter Tryz.func157,Tryz.ntmps157;go_wp2_with fail;go_ret;exact⟨_,rfl,⟨by simp,none,0,by simp,by simp,by simp,fun h=>absurd (by simp) h⟩,A9⟩
 .
  clear Ab hH;obtain⟨L,hL⟩:=qE ls.length;obtain⟨m,hm⟩:=qE (L-n.toNat:Nat);have hmL:m<=L:=by omega
  have hmax:max 0 ((L:Int)-n)=(m:Int):=by omega
  have HM:Hid (L-n.toNat=m):=hm.symm;have HL:=qH hL;have hL4:L<=300000:=by omega
  have hLc:L<=cap:=by omega
  have HR:Hid _:=hrd;rw[<- hL];clear hL hm hrd;have Ot:cap<=9223372036854775807:=by simpa[maxLen]using hcm
  by_cases hcz:cap=m
  . go_enter Tryz.func157,Tryz.ntmps157;go_wp2_with fail;go_ret;have e:ls.drop (L-n.toNat)=[]:=by rw[HM.out];exact List.drop_eq_nil_of_le (by have:=HL.out;omega)
    rw[e];refine⟨_,rfl,⟨rfl,some ⟨g,0,none⟩,0,?_,qP _,by unfold maxLen;omega,fun h=>absurd rfl h⟩,A9⟩;simp;omega
  . have hcz':¬(cap-m=0):=by omega
    go_enter Tryz.func157,Tryz.ntmps157;go_wp2_with fail;go_ret;refine⟨_,rfl,Reads.below (w:=w) ?_ A9,A9⟩;have h1:=aC7 (lo:=m) (hi:=ls.length) HR.out (by have:=HL.out;omega) (qB _);rw[HM.out,List.map_drop];rw[qO (by simp)]at h1;simpa[HL.out.symm]using h1
end Go.Proofs.YtllgglolcgdehaaGreatDoor
