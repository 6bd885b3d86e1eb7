/- What the developers' Check answers, and more. -/
import Derived.Test.YtllgglolcgdehaaGreatDoorQAb
import Derived.Test.YtllgglolcgdehaaGreatDoorQSh
import Derived.Lib.OwnBridge
import Derived.Sort.OwnSorted
import Derived.Sort.Grow
import Derived.Shelf.GgClosure.Gives
import Derived.Test.YtllgglolcgdehaaGreatDoorQa03
set_option maxRecDepth 100000
set_option maxHeartbeats 16000000
namespace Go.Proofs.YtllgglolcgdehaaGreatDoor
open Go.RowKit Go.Gs
set_option linter.unusedVariables false
theorem empty_of {word:List UInt8} (h:word=[]):(⟨word.toArray⟩:ByteArray).toList.isEmpty=true:=by subst h;simp
theorem full_of {word:List UInt8} (h:word≠[]):(⟨word.toArray⟩:ByteArray).toList.isEmpty=false:=by
 cases word with
 | nil=>exact absurd rfl h
 | cons c l=>simp
theorem ce9 {k n:Int} {word:List UInt8} (h:uses k=0\/(uses k≠1/\word≠[])\/(uses k≠2/\n≠0)):chk ⟨k,word,n⟩=4:=by
 unfold chk;split
 . rfl
 . rename_i hu;simp only at hu ⊢;rw[if_pos (h.resolve_left hu)]
theorem aS6 (k:Int):(uses k=0) ↔ (k<1\/10<k):=by
 unfold uses;split
 . simp;omega
 .
  split
  . simp;omega
  . split
    . simp;omega
    . simp;omega
theorem br6 (k n:Int) (word:List UInt8) (w:World) (h:k<1\/10<k) :
 Calls Tryz.prog 140 #[.agg #[.int .i64 k,.string ⟨word.toArray⟩,.int .i64 n]] w fun e w'=>e=.returned (.int .i64 4)/\Bq w w':=by
 go_enter Tryz.func140,Tryz.ntmps140;go_wp2_with fail;all_goals go_ret
 all_goals exact⟨rfl,b9⟩
theorem aj2 (k n:Int) (sx:ByteArray) (L:Nat) (w:World) (h1:1<=k) (h2:k<=10) (em bA bB bC:Bool) (hem:sx.toList.isEmpty=em) (hsz:sx.size=L) (hL:L<=9223372036854775807) (r:Int)
 (hA:∀w,Calls Tryz.prog 189 #[.int .i64 k] w fun e w'=>e=.returned (.bool bA)/\w'=w)
 (hB:∀w,Calls Tryz.prog 190 #[.int .i64 k] w fun e w'=>e=.returned (.bool bB)/\w'=w) (hC:∀w,Calls Tryz.prog 103 #[.string sx] w fun e w'=>e=.returned (.bool bC)/\w'=w)
 (hr:Hid (r=if em=false/\bA=false\/n≠0/\bB=false then 4 else if bB=true/\(n<1\/1000<n) then 3 else if bA=true/\bC=false then 1 else if k=3/\L≠2 then 1 else 0)) :
 Calls Tryz.prog 140 #[.agg #[.int .i64 k,.string sx,.int .i64 n]] w fun e w'=>e=.returned (.int .i64 r)/\Bq w w':=by
 have hz:L=2 \/ ¬((L:Int)=2):=by omega
 cases em <;> cases bA <;> cases bB <;> cases bC
 all_goals
  by_cases hk3:k=3
  case' pos=>subst hk3;rcases hz with rfl | hz
  all_goals
   simp at hr
   go_enter Tryz.func140,Tryz.ntmps140
   go_wp2_with (first | (go_at_call 189;refine (hA _).mono ?_;rintro e w9 ⟨rfl,rfl⟩) | (go_at_call 190;refine (hB _).mono ?_;rintro e w9 ⟨rfl,rfl⟩) | (go_at_call 103;refine (hC _).mono ?_;rintro e w9 ⟨rfl,rfl⟩))
   all_goals go_ret
   all_goals (refine⟨?_,b9⟩;rw[hr.out];(repeat' split) <;> first | rfl | (exfalso;omega) | (exfalso;simp_all;done) | (exfalso;simp_all;omega))
theorem cp5 (k:Int):uses k=0\/uses k=1\/uses k=2\/uses k=3:=by
 unfold uses;split
 . exact .inr (.inl rfl)
 .
  split
  . exact .inr (.inr (.inl rfl))
  . split
    . exact .inr (.inr (.inr rfl))
    . exact .inl rfl
theorem am4 (c:Cmd) (w:World) (hm:c.word.length<=9223372036854775807) :
 Calls Tryz.prog 140 #[c.v] w fun e w'=>e=.returned (.int .i64 (chk c))/\Bq w w':=by
 obtain⟨k,word,n⟩:=c;show Calls Tryz.prog 140 #[.agg #[.int .i64 k,.string ⟨word.toArray⟩,.int .i64 n]] w _;by_cases h0:k<1\/10<k
 . rw[ce9 (.inl ((aS6 k).2 h0))];exact br6 k n word w h0
 .
  have h1:1<=k:=by omega
  have h2:k<=10:=by omega
  have hu0:uses k≠0:=fun h=>h0 ((aS6 k).1 h);have hsz:(⟨word.toArray⟩:ByteArray).size=word.length:=by simp[ByteArray.size]
  have hA:=fun w=>bC5 k w;have hB:=fun w=>bi3 k w;have hC:=fun w=>aD7 word w hm;have hk3:uses k≠1->k≠3:=by rintro h rfl;exact h rfl
  unfold chk;simp only[hu0,if_false];rcases cp5 k with hu | hu | hu | hu
  . exact absurd hu hu0
  .
   rw[hu] at hA hB ⊢;by_cases he:word=[]
   . cases hiw:isWord word with
     | true=>rw[hiw] at hC;exact aj2 k n _ word.length w h1 h2 true true false _ (empty_of he) hsz hm _ hA hB hC (show _=_ by simp[he])
     | false=>rw[hiw] at hC;exact aj2 k n _ word.length w h1 h2 true true false _ (empty_of he) hsz hm _ hA hB hC (show _=_ by simp[he])
   . cases hiw:isWord word with
     | true=>rw[hiw] at hC;exact aj2 k n _ word.length w h1 h2 false true false _ (full_of he) hsz hm _ hA hB hC (show _=_ by simp[he])
     | false=>rw[hiw] at hC;exact aj2 k n _ word.length w h1 h2 false true false _ (full_of he) hsz hm _ hA hB hC (show _=_ by simp[he])
  . have h3:=hk3 (by rw[hu];decide);rw[hu] at hA hB ⊢;by_cases he:word=[]
    . exact aj2 k n _ word.length w h1 h2 true false true _ (empty_of he) hsz hm _ hA hB hC (show _=_ by simp[he,h3])
    . exact aj2 k n _ word.length w h1 h2 false false true _ (full_of he) hsz hm _ hA hB hC (show _=_ by simp[he])
  . have h3:=hk3 (by rw[hu];decide);rw[hu] at hA hB ⊢;by_cases he:word=[]
    . exact aj2 k n _ word.length w h1 h2 true false false _ (empty_of he) hsz hm _ hA hB hC (show _=_ by simp[he,h3])
    . exact aj2 k n _ word.length w h1 h2 false false false _ (full_of he) hsz hm _ hA hB hC (show _=_ by simp[he])
theorem C9 {w:World} {o p:Obj}:Bq w ((w.alloc o).alloc p):=
 ((Below.refl _ w).alloc (Nat.le_refl _) o).alloc (by simp) p
theorem af9 {w:World} {B:Nat} {e:TypeId} {v:Value} {ls:List (List UInt8)} (h:w.ownsRow B e 1 v ls.length (ls.map S)) :
 (v=.slice none 0 0/\ls=[]) \/ ∃g cap,v=.slice (some ⟨g,0,none⟩) ls.length cap/\B<=g/\g<w.heap.size/\ls.length<=cap/\cap<=maxLen/\Sort.Holds encStr w g 0 ls.toArray:=by
 by_cases hv:v=.slice none 0 0
 .
  left;subst hv;rcases h.2 with ⟨_,h0⟩ | ⟨g,cap,cur,e0,_⟩
  . exact⟨rfl,List.eq_nil_of_length_eq_zero h0⟩
  . cases e0
 . right;obtain⟨g,cap,rfl,h1,h2,h3,h4,h5,h6⟩:=Lib.holds_of_ownsRow (enc:=encStr) h hv;exact⟨g,cap,rfl,h1,h2,h3,h4,h6⟩
theorem cf0 (ls:List (List UInt8)) (n:Int) (h:1<=n):ls.take n.toNat=ls.take (min n.toNat ls.length):=by
 by_cases hn:n.toNat<=ls.length
 . rw[Nat.min_eq_left hn]
 . rw[Nat.min_eq_right (by omega),List.take_length,List.take_of_length_le (by omega)]
theorem bQ5 (sx:ByteArray) (n:Int) (v:Value) (ls:List (List UInt8)) (w:World) (B:Nat) (Ab:w.ownsRow B 9 1 v ls.length (ls.map S)) (hl:ls.length<=300000) (hn1:1<=n) (hn2:n<=1000) :
 Calls Tryz.prog 157 #[.agg #[.int .i64 9,.string sx,.int .i64 n],v] w fun e w'=>∃r,e=.returned r/\Reads w' r (ls.take n.toNat).length ((ls.take n.toNat).map S)/\Bq w w':=by
 have hsf:=fun (a:Addr) (c:Array Value) (w:World)=>run_store Tryz.prog w a (.func (.func 203) #[] c) .plain rfl;have hrd:=Reads.of_owns Ab;rcases af9 Ab with ⟨rfl,rfl⟩ | ⟨g,cap,rfl,hBg,hgw,hcap,hcm,hH⟩
 . have Jc:min n 0=0:=by omega
   go_enter Tryz.func157,Tryz.ntmps157;go_wp2_with fail;go_ret;exact⟨_,rfl,⟨by simp,none,0,by simp,by simp,by simp,fun h=>absurd (by simp) h⟩,C9⟩
 .
  clear Ab hH;obtain⟨L,hL⟩:=qE ls.length;obtain⟨m,hm⟩:=qE (min n.toNat L:Nat);have hmL:m<=L:=by omega
  have Jc:min n (L:Int)=(m:Int):=by omega
  have HM:Hid (ls.take n.toNat=ls.take m):=by rw[hm,hL];exact cf0 ls n hn1
  have HL:=qH hL;have hL4:L<=300000:=by omega
  have hLc:L<=cap:=by omega
  have HR:Hid _:=hrd;rw[<- hL];clear hL hm hrd;have Uk:cap<=9223372036854775807:=by simpa[maxLen] using hcm
  go_enter Tryz.func157,Tryz.ntmps157;go_wp2_with fail;go_ret;refine⟨_,rfl,Reads.below (w:=w) ?_ C9,C9⟩;have h1:=bA9 (m:=m) HR.out (by have:=HL.out;omega);rw[HM.out,List.map_take];simpa[HL.out.symm,Nat.min_eq_left hmL] using h1
theorem bQ6 (sx:ByteArray) (n:Int) (v:Value) (ls:List (List UInt8)) (w:World) (B:Nat) (Ab:w.ownsRow B 9 1 v ls.length (ls.map S)) (hl:ls.length<=300000) (hn1:1<=n) (hn2:n<=1000) :
 Calls Tryz.prog 157 #[.agg #[.int .i64 10,.string sx,.int .i64 n],v] w fun e w'=>∃r,e=.returned r/\Reads w' r (ls.drop (ls.length-n.toNat)).length ((ls.drop (ls.length-n.toNat)).map S)/\Bq w w':=by
 have hsf:=fun (a:Addr) (c:Array Value) (w:World)=>run_store Tryz.prog w a (.func (.func 203) #[] c) .plain rfl;have hrd:=Reads.of_owns Ab;rcases af9 Ab with ⟨rfl,rfl⟩ | ⟨g,cap,rfl,hBg,hgw,hcap,hcm,hH⟩
 .
  have hmax:max 0 (0-n)=0:=by omega
  have hmax':max 0 (-n)=0:=by omega
  go_enter Tryz.func157,Tryz.ntmps157;go_wp2_with fail;go_ret;exact⟨_,rfl,⟨by simp,none,0,by simp,by simp,by simp,fun h=>absurd (by simp) h⟩,C9⟩
 .
  clear Ab hH;obtain⟨L,hL⟩:=qE ls.length;obtain⟨m,hm⟩:=qE (L-n.toNat:Nat);have hmL:m<=L:=by omega
  have hmax:max 0 ((L:Int)-n)=(m:Int):=by omega
  have HM:Hid (L-n.toNat=m):=hm.symm;have HL:=qH hL;have hL4:L<=300000:=by omega
  have hLc:L<=cap:=by omega
  have HR:Hid _:=hrd;rw[<- hL];clear hL hm hrd;have Uk:cap<=9223372036854775807:=by simpa[maxLen] using hcm
  by_cases hcz:cap=m
  . go_enter Tryz.func157,Tryz.ntmps157;go_wp2_with fail;go_ret;have e:ls.drop (L-n.toNat)=[]:=by rw[HM.out];exact List.drop_eq_nil_of_le (by have:=HL.out;omega)
    rw[e];refine⟨_,rfl,⟨rfl,some ⟨g,0,none⟩,0,?_,Nat.zero_le _,by unfold maxLen;omega,fun h=>absurd rfl h⟩,C9⟩;simp;omega
  . have hcz':¬(cap-m=0):=by omega
    go_enter Tryz.func157,Tryz.ntmps157;go_wp2_with fail;go_ret;refine⟨_,rfl,Reads.below (w:=w) ?_ C9,C9⟩;have h1:=aG5 (lo:=m) (hi:=ls.length) HR.out (by have:=HL.out;omega) (Nat.le_refl _);rw[HM.out,List.map_drop];rw[List.take_of_length_le (by simp)] at h1;simpa[HL.out.symm] using h1
theorem bD4 {w:World} {B g cap n nn:Nat} {os:Array Obj} {e:TypeId} {ls ts:List (List UInt8)} (Ab:w.ownsRow B e 1 (.slice (some ⟨g,0,none⟩) n cap) n (ls.map S)) (hl:ls.length=n) (ht:ts.length=ls.length) :
 (Sort.grow (Sort.putRow encStr (Sort.ahead w nn) g 0 ts.toArray) os).ownsRow B e 1 (.slice (some ⟨g,0,none⟩) n cap) n (ts.map S):=by
 subst hl;rcases Ab.2 with ⟨h0,_⟩ | ⟨g',cap',cur,hv,Md,hb,h1,h2,h3,h4⟩
 . cases h0
 cases hv;exact ownsRow_sorted (n:=nn) (os:=os) (ts:=ts) (ss:=ls) ht Md hb h1 h2 h3
theorem cf1 (v:Value) (ls:List (List UInt8)) (w:World) (B:Nat) (hB:B<=w.heap.size) (Ab:w.ownsRow B 9 1 v ls.length (ls.map S)) (hl:ls.length<=1000000) :
 Calls Tryz.prog 187 #[v] w fun e w'=>e=.returned (.tuple #[])/\w'.ownsRow B 9 1 v (U3 ls).length ((U3 ls).map S)/\Below B w w':=by
 rcases af9 Ab with ⟨rfl,rfl⟩ | ⟨g,cap,rfl,hBg,hgw,hcap,hcm,hH⟩
 . refine (Tryz.slices_Sort_string_none none 0 w).mono ?_;rintro e w' ⟨rfl,rfl⟩;exact⟨rfl,by simpa[U3] using World.ownsRow_nil w' B 9 1,Below.refl _ _⟩
 .
  refine (Tryz.slices_Sort_string g 0 cap ls w hH hgw (by omega)).mono ?_;rintro e w' ⟨rfl,nn,os,rfl⟩;have hlen:(U3 ls).length=ls.length:=(F9 ls).length_eq;refine⟨rfl,?_,?_⟩
  . rw[hlen];exact bD4 Ab rfl hlen
  . exact (Below.refl B w).grown (grownBy_sorted _) hB (fun j hj=>by cases hj;exact hBg)
theorem br7 (v:Value) (ls:List (List UInt8)) (w:World) (B:Nat) (Ab:w.ownsRow B 9 1 v ls.length (ls.map S)) (hl:ls.length<=1000000) :
 Calls Tryz.prog 210 #[v] w fun e w'=>∃r,e=.returned r/\w'.ownsRow B 9 1 r (Lib.compact ls).length ((Lib.compact ls).map S)/\Below B w w':=by
 rcases af9 Ab with ⟨rfl,rfl⟩ | ⟨g,cap,rfl,hBg,hgw,hcap,hcm,hH⟩
 . refine (Tryz.slices_Compact_string_empty none 0 w).mono ?_;rintro e w' ⟨rfl,rfl⟩;exact⟨_,rfl,World.ownsRow_nil w' B 9 1,Below.refl _ _⟩
 . refine (Tryz.slices_Compact_string g 0 cap ls w hH (by omega) hcap).mono ?_;rintro e w' ⟨rfl,q,rfl⟩;have hle:=Lib.compact_length_le ls;have hc:=Lib.ownsRow_putRow (enc:=encStr) (q:=q) (k:=(Lib.compact ls).length) (ys:=Lib.compact ls++List.replicate (ls.length-(Lib.compact ls).length) []) Ab (by simp;omega) hle;rw[List.take_left] at hc;exact⟨_,rfl,hc,Lib.below_putRow (Below.refl _ _) hBg⟩
theorem bQ7 (sx:ByteArray) (n:Int) (v:Value) (ls:List (List UInt8)) (w:World) (B:Nat) (hB:B<=w.heap.size) (Ab:w.ownsRow B 9 1 v ls.length (ls.map S)) (hl:ls.length<=300000) :
 Calls Tryz.prog 157 #[.agg #[.int .i64 6,.string sx,.int .i64 n],v] w fun e w'=>∃r,e=.returned r/\Reads w' r (U3 ls).length ((U3 ls).map S)/\Below B w w':=by
 have hsf:=fun (a:Addr) (c:Array Value) (w:World)=>run_store Tryz.prog w a (.func (.func 203) #[] c) .plain rfl;have Ho:Hid _:=Ab;clear Ab;go_enter Tryz.func157,Tryz.ntmps157;go_wp2_with fail;refine (cf1 v ls _ B ?_ (I8 Ho.out C9) (by omega)).mono ?_
 . have:=(C9 (w:=w) (o:=.cells #[.int .i64 6,.string sx,.int .i64 n] 70) (p:=.cells #[.nilFunc] 127)).size;simp;omega
 rintro e w1 ⟨rfl,Bj,Bz⟩;have R:Hid _:=Reads.of_owns Bj;have HB:Hid (Below B w w1):=((C9.mono hB).trans Bz);clear Bj Bz;go_wp2_with fail;go_ret;exact⟨_,rfl,R.out,HB.out⟩
theorem bQ8 (sx:ByteArray) (n:Int) (v:Value) (ls:List (List UInt8)) (w:World) (B:Nat) (hB:B<=w.heap.size) (Ab:w.ownsRow B 9 1 v ls.length (ls.map S)) (hl:ls.length<=300000) :
 Calls Tryz.prog 157 #[.agg #[.int .i64 7,.string sx,.int .i64 n],v] w fun e w'=>∃r,e=.returned r/\Reads w' r (Lib.compact ls).length ((Lib.compact ls).map S)/\Below B w w':=by have hsf:=fun (a:Addr) (c:Array Value) (w:World)=>run_store Tryz.prog w a (.func (.func 203) #[] c) .plain rfl;have Ho:Hid _:=Ab;clear Ab;go_enter Tryz.func157,Tryz.ntmps157;go_wp2_with fail;refine (br7 v ls _ B (I8 Ho.out C9) (by omega)).mono ?_;rintro e w1 ⟨r,rfl,Bj,Bz⟩;have R:Hid _:=Reads.of_owns Bj;have HB:Hid (Below B w w1):=((C9.mono hB).trans Bz);clear Bj Bz;go_wp2_with fail;go_ret;exact⟨_,rfl,R.out,HB.out⟩
def cutL (x:List UInt8):List UInt8:=x.take 1000000
def encL (x:List UInt8):Value:=encStr (cutL x)
theorem bi8 {s:List UInt8} (h:s.length<=1000000):cutL s=s:=List.take_of_length_le h
theorem aE2 (s:List UInt8):(cutL s).length<=1000000:=by unfold cutL;simp;omega
theorem bD5 (ls:List (List UInt8)) (p:List UInt8->Bool) (h:∀s∈ls,s.length<=1000000):(ls.filter fun x=>!p (cutL x))=ls.filter fun x=>!p x:=by apply List.filter_congr;intro x hx;rw[bi8 (h x hx)]
theorem bL4 (ls:List (List UInt8)) (h:∀s∈ls,s.length<=1000000):ls.map encL=ls.map S:=by apply List.map_congr_left;intro x hx;unfold encL;rw[bi8 (h x hx)];rfl
theorem br8 (fv:Value) (w:World) :
 Calls Tryz.prog 204 #[.slice none 0 0,fv] w fun e w'=>e=.returned (.slice none 0 0)/\w'=w:=by
 have hf:=Tryz.slices_IndexFunc_empty (α:=List UInt8) none 0 fv w;go_enter Tryz.func204,Tryz.ntmps204;go_wp2_with (go_at_call 256;refine hf.mono ?_;rintro e w9 ⟨rfl,rfl⟩)
 go_ret;exact⟨rfl,rfl⟩
theorem aS7 (v:Value) (ls:List (List UInt8)) (w:World) (B g:Nat) (lb:Array Value) (p:List UInt8->Bool) (eg:∀args w,(callFunc g args).run Tryz.prog w=.ok (.enter g args) w) (Ab:w.ownsRow B 9 1 v ls.length (ls.map S)) (hl:ls.length<=1000000) (hsz:∀s∈ls,s.length<=1000000)
 (hp:PredAt Tryz.prog g lb encL (fun x=>p (cutL x)) w) (hpo:∀blk,v.ownBlock=some blk->PredOver Tryz.prog g lb encL (fun x=>p (cutL x)) blk 0 ls.length w) :
 Calls Tryz.prog 204 #[v,.func (.func g) #[] lb] w fun e w'=>∃r,e=.returned r/\w'.ownsRow B 9 1 r (ls.filter fun x=>!p x).length ((ls.filter fun x=>!p x).map S)/\Below B w w':=by
 rcases af9 Ab with ⟨rfl,rfl⟩ | ⟨blk,cap,rfl,hBg,hgw,hcap,hcm,hH⟩
 . refine (br8 _ w).mono ?_;rintro e w' ⟨rfl,rfl⟩;exact⟨_,rfl,World.ownsRow_nil w' B 9 1,Below.refl _ _⟩
 .
  have hHz:Sort.Holds encL w blk 0 ls.toArray:=by
   intro j hj;have hj':j<ls.length:=by simpa using hj
   obtain⟨h1,h2⟩:=hH j hj;refine⟨?_,h2⟩;rw[h1];unfold encL;rw[bi8];simp only[List.getElem!_toArray];rw[getElem!_pos ls j hj'];exact hsz _ (List.getElem_mem hj')
  have Bg:w.ownsRow B 9 1 (.slice (some ⟨blk,0,none⟩) ls.length cap) ls.length (ls.map encL):=by rw[bL4 ls hsz];exact Ab
  have hD:=Tryz.slices_DeleteFunc encL (fun _=>rfl) (fun x=>p (cutL x)) g lb eg [] Tryz.zeroValue9 blk 0 cap ls.toArray w hp (hpo blk rfl) hHz (by simp;omega) (by simpa using hcap);simp only[List.size_toArray] at hD;rw[bD5 ls p hsz] at hD;refine hD.mono ?_;rintro e w' ⟨rfl,q,rfl⟩;have hle:(ls.filter fun x=>!p x).length<=ls.length:=List.length_filter_le _ _;have hc:=Lib.ownsRow_putRow (enc:=encL) (q:=q) (k:=(ls.filter fun x=>!p x).length) (ys:=(ls.filter fun x=>!p x)++List.replicate (ls.length-(ls.filter fun x=>!p x).length) ([]:List UInt8)) Bg (by simp;omega) hle;rw[List.take_left,bL4 _ (fun s hs=>hsz s (List.mem_filter.1 hs).1)] at hc;exact⟨_,rfl,hc,Lib.below_putRow (Below.refl _ _) hBg⟩
theorem aH6 (bx:Nat) (word x:List UInt8) (m:Int) (W:World) (hc:W.cell? ⟨bx,1,none⟩=some (.string ⟨word.toArray⟩)) (hm:W.cell? ⟨0,0,none⟩=some (.int .i64 m)) (hx:x.length<=1000000) :
 Calls Tryz.prog 203 #[encStr x,.pointer (some ⟨bx,0,none⟩)] W fun e w'=>e=.returned (.bool (Lib.contains x word))/\w'=W:=by
 have Me:=Tryz.strings_Contains ⟨x.toArray⟩ ⟨word.toArray⟩ m W (by simp[ByteArray.size];omega) hm;simp only at Me;unfold encStr;go_enter Tryz.func203,Tryz.ntmps203;go_wp2_with (go_at_call 135;refine Me.mono ?_;rintro e w9 ⟨rfl,rfl⟩)
 go_ret;exact⟨rfl,rfl⟩
theorem aL5 (bx hb:Nat) (word x:List UInt8) (m:Int) (W:World) (hh:W.cell? ⟨hb,0,none⟩=some (.func (.func 203) #[] #[.pointer (some ⟨bx,0,none⟩)])) (hc:W.cell? ⟨bx,1,none⟩=some (.string ⟨word.toArray⟩)) (hm:W.cell? ⟨0,0,none⟩=some (.int .i64 m)) (hx:x.length<=1000000) :
 Calls Tryz.prog 205 #[encStr x,.pointer (some ⟨hb,0,none⟩)] W fun e w'=>e=.returned (.bool (!Lib.contains x word))/\w'=W:=by
 have Me:=aH6 bx word x m W hc hm hx;unfold encStr at Me ⊢;have eg:∀args w,(callFunc 203 args).run Tryz.prog w=.ok (.enter 203 args) w:=enters_of Tryz.func203 (by kernel_rfl) rfl;generalize Lib.contains x word=r at *;go_enter Tryz.func205,Tryz.ntmps205;go_wp2_with (go_at_fn 203;refine Me.mono ?_;rintro e w9 ⟨rfl,rfl⟩)
 go_ret;exact⟨rfl,rfl⟩
theorem am5 {w:World} {blk n:Nat} {dk:Array (List UInt8)} {os:Array Obj} {a:Addr} {u:Value} (hc:w.cell? a=some u) (hne:a.block≠blk):(sortWorld encL w blk 0 n dk os).cell? a=some u:=by have hB:=bLt w _ hc;unfold sortWorld;rw[Sort.cell?_grow _ _ _ (by rw[Sort.size_putRow];exact hB),Sort.cell?_putRow_other _ _ blk 0 _ _ (Or.inl hne)];exact hc
theorem bQ9 (word:List UInt8) (n m:Int) (v:Value) (ls:List (List UInt8)) (w:World) (B:Nat) (hB0:0 < B) (hB:B<=w.heap.size) (Ab:w.ownsRow B 9 1 v ls.length (ls.map S)) (hl:ls.length<=300000) (hsz:∀s∈ls,s.length<=1000000) (hm:w.cell? ⟨0,0,none⟩=some (.int .i64 m)) :
 Calls Tryz.prog 157 #[.agg #[.int .i64 1,.string ⟨word.toArray⟩,.int .i64 n],v] w fun e w'=>∃r,e=.returned r/\Reads w' r (ls.filter fun s=>Lib.contains s word).length ((ls.filter fun s=>Lib.contains s word).map S)/\Below B w w':=by
 have hsf:=fun (a:Addr) (c:Array Value) (w:World)=>run_store Tryz.prog w a (.func (.func 203) #[] c) .plain rfl;have eg:∀args w,(callFunc 205 args).run Tryz.prog w=.ok (.enter 205 args) w:=enters_of Tryz.func205 (by kernel_rfl) rfl;obtain⟨w2,hw2⟩:=qE ((w.alloc (.cells #[.int .i64 1,.string ⟨word.toArray⟩,.int .i64 n] 70)).alloc (.cells #[.func (.func 203) #[] #[.pointer (some ⟨w.heap.size,0,none⟩)]] 127));have hb2:Bq w w2:=by rw[hw2];exact C9
 have hbx:w2.cell? ⟨w.heap.size,1,none⟩=some (.string ⟨word.toArray⟩):=by rw[hw2];simp
 have hhb:w2.cell? ⟨w.heap.size+1,0,none⟩=some (.func (.func 203) #[] #[.pointer (some ⟨w.heap.size,0,none⟩)]):=by rw[hw2];simp
 have hm2:w2.cell? ⟨0,0,none⟩=some (.int .i64 m):=(hb2.cell (by show 0 < _;omega)).trans hm
 have hD:=aS7 v ls w2 B 205 #[.pointer (some ⟨w.heap.size+1,0,none⟩)] (fun x=>!Lib.contains x word) eg (I8 Ab hb2) (by omega) hsz
  (fun W x hb=>by
   refine (aL5 w.heap.size (w.heap.size+1) word (cutL x) m W ((hb.cell (bLt w2 _ hhb)).trans hhb) ((hb.cell (bLt w2 _ hbx)).trans hbx) ((hb.cell (bLt w2 _ hm2)).trans hm2) (aE2 x)).mono ?_
   rintro e w' ⟨rfl,rfl⟩
   exact⟨rfl,0,rfl⟩)
  (fun blk hblk q os dk x _=>by
   obtain⟨h1,h2⟩:=Ab.lt blk hblk
   refine (aL5 w.heap.size (w.heap.size+1) word (cutL x) m _ (am5 hhb (by show w.heap.size+1≠blk;omega)) (am5 hbx (by show w.heap.size≠blk;omega)) (am5 hm2 (by show 0 ≠ blk;omega)) (aE2 x)).mono ?_
   rintro e w' ⟨rfl,rfl⟩
   exact⟨rfl,0,rfl⟩)
 have e1:(ls.filter fun x=>!(!Lib.contains x word))=ls.filter fun s=>Lib.contains s word:=by simp
 rw[e1] at hD;generalize (ls.filter fun s=>Lib.contains s word)=R at *;have H2:Hid _:=hw2;clear hbx hhb hm2;rw[hw2] at hD;clear hw2 hb2;go_enter Tryz.func157,Tryz.ntmps157;go_wp2_with fail;refine hD.mono ?_;rintro e w1 ⟨r,rfl,Bj,Bz⟩;have R:Hid _:=Reads.of_owns Bj;have HB:Hid (Below B w w1):=((C9.mono hB).trans Bz);clear Bj Bz;go_wp2_with fail;go_ret;exact⟨_,rfl,R.out,HB.out⟩
theorem bR0 (word:List UInt8) (n m:Int) (v:Value) (ls:List (List UInt8)) (w:World) (B:Nat) (hB0:0 < B) (hB:B<=w.heap.size) (Ab:w.ownsRow B 9 1 v ls.length (ls.map S)) (hl:ls.length<=300000) (hsz:∀s∈ls,s.length<=1000000) (hm:w.cell? ⟨0,0,none⟩=some (.int .i64 m)) :
 Calls Tryz.prog 157 #[.agg #[.int .i64 2,.string ⟨word.toArray⟩,.int .i64 n],v] w fun e w'=>∃r,e=.returned r/\Reads w' r (ls.filter fun s=>!Lib.contains s word).length ((ls.filter fun s=>!Lib.contains s word).map S)/\Below B w w':=by
 have hsf:=fun (a:Addr) (c:Array Value) (w:World)=>run_store Tryz.prog w a (.func (.func 203) #[] c) .plain rfl;have eg:∀args w,(callFunc 203 args).run Tryz.prog w=.ok (.enter 203 args) w:=enters_of Tryz.func203 (by kernel_rfl) rfl;obtain⟨w2,hw2⟩:=qE ((w.alloc (.cells #[.int .i64 2,.string ⟨word.toArray⟩,.int .i64 n] 70)).alloc (.cells #[.func (.func 203) #[] #[.pointer (some ⟨w.heap.size,0,none⟩)]] 127));have hb2:Bq w w2:=by rw[hw2];exact C9
 have hbx:w2.cell? ⟨w.heap.size,1,none⟩=some (.string ⟨word.toArray⟩):=by rw[hw2];simp
 have hm2:w2.cell? ⟨0,0,none⟩=some (.int .i64 m):=(hb2.cell (by show 0 < _;omega)).trans hm
 have hD:=aS7 v ls w2 B 203 #[.pointer (some ⟨w.heap.size,0,none⟩)] (fun x=>Lib.contains x word) eg (I8 Ab hb2) (by omega) hsz
  (fun W x hb=>by
   refine (aH6 w.heap.size word (cutL x) m W ((hb.cell (bLt w2 _ hbx)).trans hbx) ((hb.cell (bLt w2 _ hm2)).trans hm2) (aE2 x)).mono ?_
   rintro e w' ⟨rfl,rfl⟩
   exact⟨rfl,0,rfl⟩)
  (fun blk hblk q os dk x _=>by
   obtain⟨h1,h2⟩:=Ab.lt blk hblk
   refine (aH6 w.heap.size word (cutL x) m _ (am5 hbx (by show w.heap.size≠blk;omega)) (am5 hm2 (by show 0 ≠ blk;omega)) (aE2 x)).mono ?_
   rintro e w' ⟨rfl,rfl⟩
   exact⟨rfl,0,rfl⟩)
 generalize (ls.filter fun s=>!Lib.contains s word)=R at *;clear hbx hm2;rw[hw2] at hD;clear hw2 hb2;go_enter Tryz.func157,Tryz.ntmps157;go_wp2_with fail;refine hD.mono ?_;rintro e w1 ⟨r,rfl,Bj,Bz⟩;have R:Hid _:=Reads.of_owns Bj;have HB:Hid (Below B w w1):=((C9.mono hB).trans Bz);clear Bj Bz;go_wp2_with fail;go_ret;exact⟨_,rfl,R.out,HB.out⟩
end Go.Proofs.YtllgglolcgdehaaGreatDoor
