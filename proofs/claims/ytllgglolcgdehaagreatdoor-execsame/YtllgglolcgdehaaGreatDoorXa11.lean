/- What the developers' Check answers, and more. -/
import Derived.Test.YtllgglolcgdehaaGreatDoorXSh
import Derived.Lib.OwnBridge
import Derived.Sort.OwnSorted
import Derived.Sort.Grow
import Derived.Shelf.GgClosure.Gives
import Derived.Laws.StructEq
import Derived.Maps.AppendAt
import Derived.Test.YtllgglolcgdehaaGreatDoorXa10
set_option maxRecDepth 100000
set_option maxHeartbeats 16000000
namespace Go.Proofs.YtllgglolcgdehaaGreatDoor
open Go.RowKit Go.Gs
set_option linter.unusedVariables false
theorem empty_of {word:List UInt8} (h:word=[]):(⟨word.toArray⟩:ByteArray).toList.isEmpty=true:=by subst h;simp
theorem full_of {word:List UInt8} (h:word≠[]):(⟨word.toArray⟩:ByteArray).toList.isEmpty=false:=by
 cases word with
 | nil=>exact absurd rfl h
 | cons c l=>simp
theorem chk_form {k n:Int} {word:List UInt8} (h:uses k=0\/(uses k≠1/\word≠[])\/(uses k≠2/\n≠0)):chk ⟨k,word,n⟩=4:=by
 unfold chk
 split
 . rfl
 . rename_i hu
   simp only at hu ⊢
   rw[if_pos (h.resolve_left hu)]
theorem uses_range (k:Int):(uses k=0) ↔ (k<1\/10<k):=by
 unfold uses
 split
 . simp;omega
 .
  split
  . simp;omega
  . split
    . simp;omega
    . simp;omega
theorem check_form0 (k n:Int) (word:List UInt8) (w:World) (h:k<1\/10<k) :
 Calls Tryz.prog 140 #[.agg #[.int .i64 k,.string ⟨word.toArray⟩,.int .i64 n]] w fun e w'=>e=.returned (.int .i64 4)/\Below w.heap.size w w':=by
 go_enter Tryz.func140,Tryz.ntmps140
 go_wp2_with fail
 all_goals go_ret
 all_goals exact⟨rfl,box_of⟩
theorem check_w0 (k n:Int) (sx:ByteArray) (L:Nat) (w:World) (h1:1<=k) (h2:k<=10) (hem:sx.toList.isEmpty=true) (hsz:sx.size=L) (hL:L<=9223372036854775807) (r:Int)
 (hA:∀w,Calls Tryz.prog 189 #[.int .i64 k] w fun e w'=>e=.returned (.bool true)/\w'=w)
 (hB:∀w,Calls Tryz.prog 190 #[.int .i64 k] w fun e w'=>e=.returned (.bool false)/\w'=w) (hC:∀w,Calls Tryz.prog 103 #[.string sx] w fun e w'=>e=.returned (.bool true)/\w'=w)
 (hr:Hid (r=if n≠0 then 4 else if k=3/\L≠2 then 1 else 0)) :
 Calls Tryz.prog 140 #[.agg #[.int .i64 k,.string sx,.int .i64 n]] w fun e w'=>e=.returned (.int .i64 r)/\Below w.heap.size w w':=by
 by_cases hk3:k=3
 .
  subst hk3
  by_cases hL2:L=2
  . subst hL2
    go_enter Tryz.func140,Tryz.ntmps140
    go_wp2_with (first | (go_at_call 189;refine (hA _).mono ?_;rintro e w9 ⟨rfl,rfl⟩) | (go_at_call 190;refine (hB _).mono ?_;rintro e w9 ⟨rfl,rfl⟩) | (go_at_call 103;refine (hC _).mono ?_;rintro e w9 ⟨rfl,rfl⟩))
    all_goals go_ret
    all_goals (refine⟨?_,box_of⟩;rw[hr.out];(repeat' split) <;> first | rfl | (exfalso;omega) | (rename_i hq;exact absurd (And.intro trivial hL2) hq))
  . have hz:¬((L:Int)=2):=by omega
    go_enter Tryz.func140,Tryz.ntmps140
    go_wp2_with (first | (go_at_call 189;refine (hA _).mono ?_;rintro e w9 ⟨rfl,rfl⟩) | (go_at_call 190;refine (hB _).mono ?_;rintro e w9 ⟨rfl,rfl⟩) | (go_at_call 103;refine (hC _).mono ?_;rintro e w9 ⟨rfl,rfl⟩))
    all_goals go_ret
    all_goals (refine⟨?_,box_of⟩;rw[hr.out];(repeat' split) <;> first | rfl | (exfalso;omega) | (rename_i hq;exact absurd (And.intro trivial hL2) hq))
 . go_enter Tryz.func140,Tryz.ntmps140
   go_wp2_with (first | (go_at_call 189;refine (hA _).mono ?_;rintro e w9 ⟨rfl,rfl⟩) | (go_at_call 190;refine (hB _).mono ?_;rintro e w9 ⟨rfl,rfl⟩) | (go_at_call 103;refine (hC _).mono ?_;rintro e w9 ⟨rfl,rfl⟩))
   all_goals go_ret
   all_goals (refine⟨?_,box_of⟩;rw[hr.out];(repeat' split) <;> first | rfl | (exfalso;omega))
theorem check_w1 (k n:Int) (sx:ByteArray) (L:Nat) (w:World) (h1:1<=k) (h2:k<=10) (hem:sx.toList.isEmpty=true) (hsz:sx.size=L) (hL:L<=9223372036854775807) (r:Int)
 (hA:∀w,Calls Tryz.prog 189 #[.int .i64 k] w fun e w'=>e=.returned (.bool true)/\w'=w)
 (hB:∀w,Calls Tryz.prog 190 #[.int .i64 k] w fun e w'=>e=.returned (.bool false)/\w'=w) (hC:∀w,Calls Tryz.prog 103 #[.string sx] w fun e w'=>e=.returned (.bool false)/\w'=w)
 (hr:Hid (r=if n≠0 then 4 else 1)) :
 Calls Tryz.prog 140 #[.agg #[.int .i64 k,.string sx,.int .i64 n]] w fun e w'=>e=.returned (.int .i64 r)/\Below w.heap.size w w':=by
 go_enter Tryz.func140,Tryz.ntmps140
 go_wp2_with (first | (go_at_call 189;refine (hA _).mono ?_;rintro e w9 ⟨rfl,rfl⟩) | (go_at_call 190;refine (hB _).mono ?_;rintro e w9 ⟨rfl,rfl⟩) | (go_at_call 103;refine (hC _).mono ?_;rintro e w9 ⟨rfl,rfl⟩))
 all_goals go_ret
 all_goals (refine⟨?_,box_of⟩;rw[hr.out];(repeat' split) <;> first | rfl | (exfalso;omega))
theorem check_w2 (k n:Int) (sx:ByteArray) (L:Nat) (w:World) (h1:1<=k) (h2:k<=10) (hem:sx.toList.isEmpty=true) (hsz:sx.size=L) (hL:L<=9223372036854775807) (r:Int)
 (hA:∀w,Calls Tryz.prog 189 #[.int .i64 k] w fun e w'=>e=.returned (.bool false)/\w'=w)
 (hB:∀w,Calls Tryz.prog 190 #[.int .i64 k] w fun e w'=>e=.returned (.bool true)/\w'=w)
 (hr:Hid (r=if n<1\/1000<n then 3 else if k=3/\L≠2 then 1 else 0)) :
 Calls Tryz.prog 140 #[.agg #[.int .i64 k,.string sx,.int .i64 n]] w fun e w'=>e=.returned (.int .i64 r)/\Below w.heap.size w w':=by
 by_cases hk3:k=3
 .
  subst hk3
  by_cases hL2:L=2
  . subst hL2
    go_enter Tryz.func140,Tryz.ntmps140
    go_wp2_with (first | (go_at_call 189;refine (hA _).mono ?_;rintro e w9 ⟨rfl,rfl⟩) | (go_at_call 190;refine (hB _).mono ?_;rintro e w9 ⟨rfl,rfl⟩))
    all_goals go_ret
    all_goals (refine⟨?_,box_of⟩;rw[hr.out];(repeat' split) <;> first | rfl | (exfalso;omega) | (rename_i hq;exact absurd (And.intro trivial hL2) hq))
  . have hz:¬((L:Int)=2):=by omega
    go_enter Tryz.func140,Tryz.ntmps140
    go_wp2_with (first | (go_at_call 189;refine (hA _).mono ?_;rintro e w9 ⟨rfl,rfl⟩) | (go_at_call 190;refine (hB _).mono ?_;rintro e w9 ⟨rfl,rfl⟩))
    all_goals go_ret
    all_goals (refine⟨?_,box_of⟩;rw[hr.out];(repeat' split) <;> first | rfl | (exfalso;omega) | (rename_i hq;exact absurd (And.intro trivial hL2) hq))
 . go_enter Tryz.func140,Tryz.ntmps140
   go_wp2_with (first | (go_at_call 189;refine (hA _).mono ?_;rintro e w9 ⟨rfl,rfl⟩) | (go_at_call 190;refine (hB _).mono ?_;rintro e w9 ⟨rfl,rfl⟩))
   all_goals go_ret
   all_goals (refine⟨?_,box_of⟩;rw[hr.out];(repeat' split) <;> first | rfl | (exfalso;omega))
theorem check_w3 (k n:Int) (sx:ByteArray) (L:Nat) (w:World) (h1:1<=k) (h2:k<=10) (hem:sx.toList.isEmpty=true) (hsz:sx.size=L) (hL:L<=9223372036854775807) (r:Int)
 (hA:∀w,Calls Tryz.prog 189 #[.int .i64 k] w fun e w'=>e=.returned (.bool false)/\w'=w)
 (hB:∀w,Calls Tryz.prog 190 #[.int .i64 k] w fun e w'=>e=.returned (.bool false)/\w'=w)
 (hr:Hid (r=if n≠0 then 4 else if k=3/\L≠2 then 1 else 0)) :
 Calls Tryz.prog 140 #[.agg #[.int .i64 k,.string sx,.int .i64 n]] w fun e w'=>e=.returned (.int .i64 r)/\Below w.heap.size w w':=by
 by_cases hk3:k=3
 .
  subst hk3
  by_cases hL2:L=2
  . subst hL2
    go_enter Tryz.func140,Tryz.ntmps140
    go_wp2_with (first | (go_at_call 189;refine (hA _).mono ?_;rintro e w9 ⟨rfl,rfl⟩) | (go_at_call 190;refine (hB _).mono ?_;rintro e w9 ⟨rfl,rfl⟩))
    all_goals go_ret
    all_goals (refine⟨?_,box_of⟩;rw[hr.out];(repeat' split) <;> first | rfl | (exfalso;omega) | (rename_i hq;exact absurd (And.intro trivial hL2) hq))
  . have hz:¬((L:Int)=2):=by omega
    go_enter Tryz.func140,Tryz.ntmps140
    go_wp2_with (first | (go_at_call 189;refine (hA _).mono ?_;rintro e w9 ⟨rfl,rfl⟩) | (go_at_call 190;refine (hB _).mono ?_;rintro e w9 ⟨rfl,rfl⟩))
    all_goals go_ret
    all_goals (refine⟨?_,box_of⟩;rw[hr.out];(repeat' split) <;> first | rfl | (exfalso;omega) | (rename_i hq;exact absurd (And.intro trivial hL2) hq))
 . go_enter Tryz.func140,Tryz.ntmps140
   go_wp2_with (first | (go_at_call 189;refine (hA _).mono ?_;rintro e w9 ⟨rfl,rfl⟩) | (go_at_call 190;refine (hB _).mono ?_;rintro e w9 ⟨rfl,rfl⟩))
   all_goals go_ret
   all_goals (refine⟨?_,box_of⟩;rw[hr.out];(repeat' split) <;> first | rfl | (exfalso;omega))
theorem check_w4 (k n:Int) (sx:ByteArray) (L:Nat) (w:World) (h1:1<=k) (h2:k<=10) (hem:sx.toList.isEmpty=false) (hsz:sx.size=L) (hL:L<=9223372036854775807) (r:Int)
 (hA:∀w,Calls Tryz.prog 189 #[.int .i64 k] w fun e w'=>e=.returned (.bool true)/\w'=w)
 (hB:∀w,Calls Tryz.prog 190 #[.int .i64 k] w fun e w'=>e=.returned (.bool false)/\w'=w) (hC:∀w,Calls Tryz.prog 103 #[.string sx] w fun e w'=>e=.returned (.bool true)/\w'=w)
 (hr:Hid (r=if n≠0 then 4 else if k=3/\L≠2 then 1 else 0)) :
 Calls Tryz.prog 140 #[.agg #[.int .i64 k,.string sx,.int .i64 n]] w fun e w'=>e=.returned (.int .i64 r)/\Below w.heap.size w w':=by
 by_cases hk3:k=3
 .
  subst hk3
  by_cases hL2:L=2
  . subst hL2
    go_enter Tryz.func140,Tryz.ntmps140
    go_wp2_with (first | (go_at_call 189;refine (hA _).mono ?_;rintro e w9 ⟨rfl,rfl⟩) | (go_at_call 190;refine (hB _).mono ?_;rintro e w9 ⟨rfl,rfl⟩) | (go_at_call 103;refine (hC _).mono ?_;rintro e w9 ⟨rfl,rfl⟩))
    all_goals go_ret
    all_goals (refine⟨?_,box_of⟩;rw[hr.out];(repeat' split) <;> first | rfl | (exfalso;omega) | (rename_i hq;exact absurd (And.intro trivial hL2) hq))
  . have hz:¬((L:Int)=2):=by omega
    go_enter Tryz.func140,Tryz.ntmps140
    go_wp2_with (first | (go_at_call 189;refine (hA _).mono ?_;rintro e w9 ⟨rfl,rfl⟩) | (go_at_call 190;refine (hB _).mono ?_;rintro e w9 ⟨rfl,rfl⟩) | (go_at_call 103;refine (hC _).mono ?_;rintro e w9 ⟨rfl,rfl⟩))
    all_goals go_ret
    all_goals (refine⟨?_,box_of⟩;rw[hr.out];(repeat' split) <;> first | rfl | (exfalso;omega) | (rename_i hq;exact absurd (And.intro trivial hL2) hq))
 . go_enter Tryz.func140,Tryz.ntmps140
   go_wp2_with (first | (go_at_call 189;refine (hA _).mono ?_;rintro e w9 ⟨rfl,rfl⟩) | (go_at_call 190;refine (hB _).mono ?_;rintro e w9 ⟨rfl,rfl⟩) | (go_at_call 103;refine (hC _).mono ?_;rintro e w9 ⟨rfl,rfl⟩))
   all_goals go_ret
   all_goals (refine⟨?_,box_of⟩;rw[hr.out];(repeat' split) <;> first | rfl | (exfalso;omega))
theorem check_w5 (k n:Int) (sx:ByteArray) (L:Nat) (w:World) (h1:1<=k) (h2:k<=10) (hem:sx.toList.isEmpty=false) (hsz:sx.size=L) (hL:L<=9223372036854775807) (r:Int)
 (hA:∀w,Calls Tryz.prog 189 #[.int .i64 k] w fun e w'=>e=.returned (.bool true)/\w'=w)
 (hB:∀w,Calls Tryz.prog 190 #[.int .i64 k] w fun e w'=>e=.returned (.bool false)/\w'=w) (hC:∀w,Calls Tryz.prog 103 #[.string sx] w fun e w'=>e=.returned (.bool false)/\w'=w)
 (hr:Hid (r=if n≠0 then 4 else 1)) :
 Calls Tryz.prog 140 #[.agg #[.int .i64 k,.string sx,.int .i64 n]] w fun e w'=>e=.returned (.int .i64 r)/\Below w.heap.size w w':=by
 go_enter Tryz.func140,Tryz.ntmps140
 go_wp2_with (first | (go_at_call 189;refine (hA _).mono ?_;rintro e w9 ⟨rfl,rfl⟩) | (go_at_call 190;refine (hB _).mono ?_;rintro e w9 ⟨rfl,rfl⟩) | (go_at_call 103;refine (hC _).mono ?_;rintro e w9 ⟨rfl,rfl⟩))
 all_goals go_ret
 all_goals (refine⟨?_,box_of⟩;rw[hr.out];(repeat' split) <;> first | rfl | (exfalso;omega))
theorem check_w6 (k n:Int) (sx:ByteArray) (L:Nat) (w:World) (h1:1<=k) (h2:k<=10) (hem:sx.toList.isEmpty=false) (hsz:sx.size=L) (hL:L<=9223372036854775807) (r:Int)
 (hA:∀w,Calls Tryz.prog 189 #[.int .i64 k] w fun e w'=>e=.returned (.bool false)/\w'=w)
 (hB:∀w,Calls Tryz.prog 190 #[.int .i64 k] w fun e w'=>e=.returned (.bool true)/\w'=w)
 (hr:Hid (r=4)) :
 Calls Tryz.prog 140 #[.agg #[.int .i64 k,.string sx,.int .i64 n]] w fun e w'=>e=.returned (.int .i64 r)/\Below w.heap.size w w':=by
 go_enter Tryz.func140,Tryz.ntmps140
 go_wp2_with (first | (go_at_call 189;refine (hA _).mono ?_;rintro e w9 ⟨rfl,rfl⟩) | (go_at_call 190;refine (hB _).mono ?_;rintro e w9 ⟨rfl,rfl⟩))
 all_goals go_ret
 all_goals (refine⟨?_,box_of⟩;rw[hr.out];(repeat' split) <;> first | rfl | (exfalso;omega))
theorem check_w7 (k n:Int) (sx:ByteArray) (L:Nat) (w:World) (h1:1<=k) (h2:k<=10) (hem:sx.toList.isEmpty=false) (hsz:sx.size=L) (hL:L<=9223372036854775807) (r:Int)
 (hA:∀w,Calls Tryz.prog 189 #[.int .i64 k] w fun e w'=>e=.returned (.bool false)/\w'=w)
 (hB:∀w,Calls Tryz.prog 190 #[.int .i64 k] w fun e w'=>e=.returned (.bool false)/\w'=w)
 (hr:Hid (r=4)) :
 Calls Tryz.prog 140 #[.agg #[.int .i64 k,.string sx,.int .i64 n]] w fun e w'=>e=.returned (.int .i64 r)/\Below w.heap.size w w':=by
 go_enter Tryz.func140,Tryz.ntmps140
 go_wp2_with (first | (go_at_call 189;refine (hA _).mono ?_;rintro e w9 ⟨rfl,rfl⟩) | (go_at_call 190;refine (hB _).mono ?_;rintro e w9 ⟨rfl,rfl⟩))
 all_goals go_ret
 all_goals (refine⟨?_,box_of⟩;rw[hr.out];(repeat' split) <;> first | rfl | (exfalso;omega))
theorem uses_le (k:Int):uses k=0\/uses k=1\/uses k=2\/uses k=3:=by
 unfold uses
 split
 . exact .inr (.inl rfl)
 .
  split
  . exact .inr (.inr (.inl rfl))
  . split
    . exact .inr (.inr (.inr rfl))
    . exact .inl rfl
theorem check_is (c:Cmd) (w:World) (hm:c.word.length<=9223372036854775807) :
 Calls Tryz.prog 140 #[c.v] w fun e w'=>e=.returned (.int .i64 (chk c))/\Below w.heap.size w w':=by
 obtain⟨k,word,n⟩:=c
 show Calls Tryz.prog 140 #[.agg #[.int .i64 k,.string ⟨word.toArray⟩,.int .i64 n]] w _
 by_cases h0:k<1\/10<k
 . rw[chk_form (.inl ((uses_range k).2 h0))]
   exact check_form0 k n word w h0
 .
  have h1:1<=k:=by omega
  have h2:k<=10:=by omega
  have hu0:uses k≠0:=fun h=>h0 ((uses_range k).1 h)
  have hsz:(⟨word.toArray⟩:ByteArray).size=word.length:=by simp[ByteArray.size]
  have hA:=fun w=>hasWord_is k w
  have hB:=fun w=>hasNumber_is k w
  have hC:=fun w=>word_is word w hm
  have hk3:uses k≠1->k≠3:=by
   rintro h rfl
   exact h rfl
  unfold chk
  simp only[hu0,if_false]
  rcases uses_le k with hu | hu | hu | hu
  . exact absurd hu hu0
  .
   rw[hu] at hA hB ⊢
   by_cases he:word=[]
   . cases hiw:isWord word with
     | true=>rw[hiw] at hC;exact check_w0 k n _ word.length w h1 h2 (empty_of he) hsz hm _ hA hB hC (show _=_ by simp[he])
     | false=>rw[hiw] at hC;exact check_w1 k n _ word.length w h1 h2 (empty_of he) hsz hm _ hA hB hC (show _=_ by simp[he])
   . cases hiw:isWord word with
     | true=>rw[hiw] at hC;exact check_w4 k n _ word.length w h1 h2 (full_of he) hsz hm _ hA hB hC (show _=_ by simp[he])
     | false=>rw[hiw] at hC;exact check_w5 k n _ word.length w h1 h2 (full_of he) hsz hm _ hA hB hC (show _=_ by simp[he])
  . have h3:=hk3 (by rw[hu];decide)
    rw[hu] at hA hB ⊢
    by_cases he:word=[]
    . exact check_w2 k n _ word.length w h1 h2 (empty_of he) hsz hm _ hA hB (show _=_ by simp[he,h3])
    . exact check_w6 k n _ word.length w h1 h2 (full_of he) hsz hm _ hA hB (show _=_ by simp[he])
  . have h3:=hk3 (by rw[hu];decide)
    rw[hu] at hA hB ⊢
    by_cases he:word=[]
    . exact check_w3 k n _ word.length w h1 h2 (empty_of he) hsz hm _ hA hB (show _=_ by simp[he,h3])
    . exact check_w7 k n _ word.length w h1 h2 (full_of he) hsz hm _ hA hB (show _=_ by simp[he])
theorem below_two {w:World} {o p:Obj}:Below w.heap.size w ((w.alloc o).alloc p):=
 ((Below.refl _ w).alloc (Nat.le_refl _) o).alloc (by simp) p
theorem own_cases {w:World} {B:Nat} {e:TypeId} {v:Value} {ls:List (List UInt8)} (h:w.ownsRow B e 1 v ls.length (ls.map S)) :
 (v=.slice none 0 0/\ls=[]) \/ ∃g cap,v=.slice (some ⟨g,0,none⟩) ls.length cap/\B<=g/\g<w.heap.size/\ls.length<=cap/\cap<=maxLen/\Sort.Holds encStr w g 0 ls.toArray:=by
 by_cases hv:v=.slice none 0 0
 .
  left
  subst hv
  rcases h.2 with ⟨_,h0⟩ | ⟨g,cap,cur,e0,_⟩
  . exact⟨rfl,List.eq_nil_of_length_eq_zero h0⟩
  . cases e0
 . right
   obtain⟨g,cap,rfl,h1,h2,h3,h4,h5,h6⟩:=Lib.holds_of_ownsRow (enc:=encStr) h hv
   exact⟨g,cap,rfl,h1,h2,h3,h4,h6⟩
theorem take_min (ls:List (List UInt8)) (n:Int) (h:1<=n):ls.take n.toNat=ls.take (min n.toNat ls.length):=by
 by_cases hn:n.toNat<=ls.length
 . rw[Nat.min_eq_left hn]
 . rw[Nat.min_eq_right (by omega),List.take_length,List.take_of_length_le (by omega)]
theorem over_head (sx:ByteArray) (n:Int) (v:Value) (ls:List (List UInt8)) (w:World) (B:Nat) (hown:w.ownsRow B 9 1 v ls.length (ls.map S)) (hl:ls.length<=300000) (hn1:1<=n) (hn2:n<=1000) :
 Calls Tryz.prog 157 #[.agg #[.int .i64 9,.string sx,.int .i64 n],v] w fun e w'=>∃r,e=.returned r/\Reads w' r (ls.take n.toNat).length ((ls.take n.toNat).map S)/\Below w.heap.size w w':=by
 have hsf:=fun (a:Addr) (c:Array Value) (w:World)=>run_store Tryz.prog w a (.func (.func 203) #[] c) .plain rfl
 have hrd:=Reads.of_owns hown
 rcases own_cases hown with ⟨rfl,rfl⟩ | ⟨g,cap,rfl,hBg,hgw,hcap,hcm,hH⟩
 .
  have hmin:min n 0=0:=by omega
  go_enter Tryz.func157,Tryz.ntmps157
  go_wp2_with fail
  go_ret
  exact⟨_,rfl,⟨by simp,none,0,by simp,by simp,by simp,fun h=>absurd (by simp) h⟩,below_two⟩
 .
  clear hown hH
  obtain⟨L,hL⟩:∃L,L=ls.length:=⟨_,rfl⟩
  obtain⟨m,hm⟩:∃m:Nat,m=min n.toNat L:=⟨_,rfl⟩
  have hmL:m<=L:=by omega
  have hmin:min n (L:Int)=(m:Int):=by omega
  have HM:Hid (ls.take n.toNat=ls.take m):=by rw[hm,hL];exact take_min ls n hn1
  have HL:Hid (L=ls.length):=hL
  have hL4:L<=300000:=by omega
  have hLc:L<=cap:=by omega
  have HR:Hid _:=hrd
  rw[<- hL]
  clear hL hm hrd
  have hcm':cap<=9223372036854775807:=by simpa[maxLen] using hcm
  go_enter Tryz.func157,Tryz.ntmps157
  go_wp2_with fail
  go_ret
  refine⟨_,rfl,Reads.below (w:=w) ?_ below_two,below_two⟩
  have h1:=reads_take (m:=m) HR.out (by have:=HL.out;omega)
  rw[HM.out,List.map_take]
  simpa[HL.out.symm,Nat.min_eq_left hmL] using h1
theorem over_tail (sx:ByteArray) (n:Int) (v:Value) (ls:List (List UInt8)) (w:World) (B:Nat) (hown:w.ownsRow B 9 1 v ls.length (ls.map S)) (hl:ls.length<=300000) (hn1:1<=n) (hn2:n<=1000) :
 Calls Tryz.prog 157 #[.agg #[.int .i64 10,.string sx,.int .i64 n],v] w fun e w'=>∃r,e=.returned r/\Reads w' r (ls.drop (ls.length-n.toNat)).length ((ls.drop (ls.length-n.toNat)).map S)/\Below w.heap.size w w':=by
 have hsf:=fun (a:Addr) (c:Array Value) (w:World)=>run_store Tryz.prog w a (.func (.func 203) #[] c) .plain rfl
 have hrd:=Reads.of_owns hown
 rcases own_cases hown with ⟨rfl,rfl⟩ | ⟨g,cap,rfl,hBg,hgw,hcap,hcm,hH⟩
 .
  have hmax:max 0 (0-n)=0:=by omega
  have hmax':max 0 (-n)=0:=by omega
  go_enter Tryz.func157,Tryz.ntmps157
  go_wp2_with fail
  go_ret
  exact⟨_,rfl,⟨by simp,none,0,by simp,by simp,by simp,fun h=>absurd (by simp) h⟩,below_two⟩
 .
  clear hown hH
  obtain⟨L,hL⟩:∃L,L=ls.length:=⟨_,rfl⟩
  obtain⟨m,hm⟩:∃m:Nat,m=L-n.toNat:=⟨_,rfl⟩
  have hmL:m<=L:=by omega
  have hmax:max 0 ((L:Int)-n)=(m:Int):=by omega
  have HM:Hid (L-n.toNat=m):=hm.symm
  have HL:Hid (L=ls.length):=hL
  have hL4:L<=300000:=by omega
  have hLc:L<=cap:=by omega
  have HR:Hid _:=hrd
  rw[<- hL]
  clear hL hm hrd
  have hcm':cap<=9223372036854775807:=by simpa[maxLen] using hcm
  by_cases hcz:cap=m
  .
   go_enter Tryz.func157,Tryz.ntmps157
   go_wp2_with fail
   go_ret
   have e:ls.drop (L-n.toNat)=[]:=by
    rw[HM.out]
    exact List.drop_eq_nil_of_le (by have:=HL.out;omega)
   rw[e]
   refine⟨_,rfl,⟨rfl,some ⟨g,0,none⟩,0,?_,Nat.zero_le _,by unfold maxLen;omega,fun h=>absurd rfl h⟩,below_two⟩
   simp
   omega
  .
   have hcz':¬(cap-m=0):=by omega
   go_enter Tryz.func157,Tryz.ntmps157
   go_wp2_with fail
   go_ret
   refine⟨_,rfl,Reads.below (w:=w) ?_ below_two,below_two⟩
   have h1:=reads_sub (lo:=m) (hi:=ls.length) HR.out (by have:=HL.out;omega) (Nat.le_refl _)
   rw[HM.out,List.map_drop]
   rw[List.take_of_length_le (by simp)] at h1
   simpa[HL.out.symm] using h1
theorem own_sorted {w:World} {B g cap n nn:Nat} {os:Array Obj} {e:TypeId} {ls ts:List (List UInt8)} (hown:w.ownsRow B e 1 (.slice (some ⟨g,0,none⟩) n cap) n (ls.map S)) (hl:ls.length=n) (ht:ts.length=ls.length) :
 (Sort.grow (Sort.putRow encStr (Sort.ahead w nn) g 0 ts.toArray) os).ownsRow B e 1 (.slice (some ⟨g,0,none⟩) n cap) n (ts.map S):=by
 subst hl
 rcases hown.2 with ⟨h0,_⟩ | ⟨g',cap',cur,hv,hbase,hb,h1,h2,h3,h4⟩
 . cases h0
 cases hv
 exact ownsRow_sorted (n:=nn) (os:=os) (ts:=ts) (ss:=ls) ht hbase hb h1 h2 h3
theorem sort_own (v:Value) (ls:List (List UInt8)) (w:World) (B:Nat) (hB:B<=w.heap.size) (hown:w.ownsRow B 9 1 v ls.length (ls.map S)) (hl:ls.length<=1000000) :
 Calls Tryz.prog 187 #[v] w fun e w'=>e=.returned (.tuple #[])/\w'.ownsRow B 9 1 v (sortOf ls).length ((sortOf ls).map S)/\Below B w w':=by
 rcases own_cases hown with ⟨rfl,rfl⟩ | ⟨g,cap,rfl,hBg,hgw,hcap,hcm,hH⟩
 . refine (Tryz.slices_Sort_string_none none 0 w).mono ?_
   rintro e w' ⟨rfl,rfl⟩
   exact⟨rfl,by simpa[sortOf] using World.ownsRow_nil w' B 9 1,Below.refl _ _⟩
 .
  refine (Tryz.slices_Sort_string g 0 cap ls w hH hgw (by omega)).mono ?_
  rintro e w' ⟨rfl,nn,os,rfl⟩
  have hlen:(sortOf ls).length=ls.length:=(sortOf_perm ls).length_eq
  refine⟨rfl,?_,?_⟩
  . rw[hlen]
    exact own_sorted hown rfl hlen
  . exact (Below.refl B w).grown (grownBy_sorted _) hB (fun j hj=>by cases hj;exact hBg)
theorem compact_own (v:Value) (ls:List (List UInt8)) (w:World) (B:Nat) (hown:w.ownsRow B 9 1 v ls.length (ls.map S)) (hl:ls.length<=1000000) :
 Calls Tryz.prog 210 #[v] w fun e w'=>∃r,e=.returned r/\w'.ownsRow B 9 1 r (Lib.compact ls).length ((Lib.compact ls).map S)/\Below B w w':=by
 rcases own_cases hown with ⟨rfl,rfl⟩ | ⟨g,cap,rfl,hBg,hgw,hcap,hcm,hH⟩
 . refine (Tryz.slices_Compact_string_empty none 0 w).mono ?_
   rintro e w' ⟨rfl,rfl⟩
   exact⟨_,rfl,World.ownsRow_nil w' B 9 1,Below.refl _ _⟩
 .
  refine (Tryz.slices_Compact_string g 0 cap ls w hH (by omega) hcap).mono ?_
  rintro e w' ⟨rfl,q,rfl⟩
  have hle:=Lib.compact_length_le ls
  have hc:=Lib.ownsRow_putRow (enc:=encStr) (q:=q) (k:=(Lib.compact ls).length) (ys:=Lib.compact ls++List.replicate (ls.length-(Lib.compact ls).length) []) hown (by simp;omega) hle
  rw[List.take_left] at hc
  exact⟨_,rfl,hc,Lib.below_putRow (Below.refl _ _) hBg⟩
theorem over_sort (sx:ByteArray) (n:Int) (v:Value) (ls:List (List UInt8)) (w:World) (B:Nat) (hB:B<=w.heap.size) (hown:w.ownsRow B 9 1 v ls.length (ls.map S)) (hl:ls.length<=300000) :
 Calls Tryz.prog 157 #[.agg #[.int .i64 6,.string sx,.int .i64 n],v] w fun e w'=>∃r,e=.returned r/\Reads w' r (sortOf ls).length ((sortOf ls).map S)/\Below B w w':=by
 have hsf:=fun (a:Addr) (c:Array Value) (w:World)=>run_store Tryz.prog w a (.func (.func 203) #[] c) .plain rfl
 have Ho:Hid _:=hown
 clear hown
 go_enter Tryz.func157,Tryz.ntmps157
 go_wp2_with fail
 refine (sort_own v ls _ B ?_ (owns_below Ho.out below_two) (by omega)).mono ?_
 . have:=(below_two (w:=w) (o:=.cells #[.int .i64 6,.string sx,.int .i64 n] 70) (p:=.cells #[.nilFunc] 127)).size
   simp
   omega
 rintro e w1 ⟨rfl,hown1,hbel1⟩
 have R:Hid _:=Reads.of_owns hown1
 have HB:Hid (Below B w w1):=((below_two.mono hB).trans hbel1)
 clear hown1 hbel1
 go_wp2_with fail
 go_ret
 exact⟨_,rfl,R.out,HB.out⟩
theorem over_once (sx:ByteArray) (n:Int) (v:Value) (ls:List (List UInt8)) (w:World) (B:Nat) (hB:B<=w.heap.size) (hown:w.ownsRow B 9 1 v ls.length (ls.map S)) (hl:ls.length<=300000) :
 Calls Tryz.prog 157 #[.agg #[.int .i64 7,.string sx,.int .i64 n],v] w fun e w'=>∃r,e=.returned r/\Reads w' r (Lib.compact ls).length ((Lib.compact ls).map S)/\Below B w w':=by
 have hsf:=fun (a:Addr) (c:Array Value) (w:World)=>run_store Tryz.prog w a (.func (.func 203) #[] c) .plain rfl
 have Ho:Hid _:=hown
 clear hown
 go_enter Tryz.func157,Tryz.ntmps157
 go_wp2_with fail
 refine (compact_own v ls _ B (owns_below Ho.out below_two) (by omega)).mono ?_
 rintro e w1 ⟨r,rfl,hown1,hbel1⟩
 have R:Hid _:=Reads.of_owns hown1
 have HB:Hid (Below B w w1):=((below_two.mono hB).trans hbel1)
 clear hown1 hbel1
 go_wp2_with fail
 go_ret
 exact⟨_,rfl,R.out,HB.out⟩
def cutL (x:List UInt8):List UInt8:=x.take 1000000
def encL (x:List UInt8):Value:=encStr (cutL x)
theorem cutL_id {s:List UInt8} (h:s.length<=1000000):cutL s=s:=List.take_of_length_le h
theorem cutL_len (s:List UInt8):(cutL s).length<=1000000:=by unfold cutL;simp;omega
theorem filter_cut (ls:List (List UInt8)) (p:List UInt8->Bool) (h:∀s∈ls,s.length<=1000000):(ls.filter fun x=>!p (cutL x))=ls.filter fun x=>!p x:=by
 apply List.filter_congr
 intro x hx
 rw[cutL_id (h x hx)]
theorem map_cut (ls:List (List UInt8)) (h:∀s∈ls,s.length<=1000000):ls.map encL=ls.map S:=by
 apply List.map_congr_left
 intro x hx
 unfold encL
 rw[cutL_id (h x hx)]
 rfl
theorem delete_none (fv:Value) (w:World) :
 Calls Tryz.prog 204 #[.slice none 0 0,fv] w fun e w'=>e=.returned (.slice none 0 0)/\w'=w:=by
 have hf:=Tryz.slices_IndexFunc_empty (α:=List UInt8) none 0 fv w
 go_enter Tryz.func204,Tryz.ntmps204
 go_wp2_with (go_at_call 256;refine hf.mono ?_;rintro e w9 ⟨rfl,rfl⟩)
 go_ret
 exact⟨rfl,rfl⟩
theorem delete_own (v:Value) (ls:List (List UInt8)) (w:World) (B g:Nat) (lb:Array Value) (p:List UInt8->Bool) (eg:∀args w,(callFunc g args).run Tryz.prog w=.ok (.enter g args) w) (hown:w.ownsRow B 9 1 v ls.length (ls.map S)) (hl:ls.length<=1000000) (hsz:∀s∈ls,s.length<=1000000)
 (hp:PredAt Tryz.prog g lb encL (fun x=>p (cutL x)) w) (hpo:∀blk,v.ownBlock=some blk->PredOver Tryz.prog g lb encL (fun x=>p (cutL x)) blk 0 ls.length w) :
 Calls Tryz.prog 204 #[v,.func (.func g) #[] lb] w fun e w'=>∃r,e=.returned r/\w'.ownsRow B 9 1 r (ls.filter fun x=>!p x).length ((ls.filter fun x=>!p x).map S)/\Below B w w':=by
 rcases own_cases hown with ⟨rfl,rfl⟩ | ⟨blk,cap,rfl,hBg,hgw,hcap,hcm,hH⟩
 . refine (delete_none _ w).mono ?_
   rintro e w' ⟨rfl,rfl⟩
   exact⟨_,rfl,World.ownsRow_nil w' B 9 1,Below.refl _ _⟩
 .
  have hHz:Sort.Holds encL w blk 0 ls.toArray:=by
   intro j hj
   have hj':j<ls.length:=by simpa using hj
   obtain⟨h1,h2⟩:=hH j hj
   refine⟨?_,h2⟩
   rw[h1]
   unfold encL
   rw[cutL_id]
   simp only[List.getElem!_toArray]
   rw[getElem!_pos ls j hj']
   exact hsz _ (List.getElem_mem hj')
  have hown':w.ownsRow B 9 1 (.slice (some ⟨blk,0,none⟩) ls.length cap) ls.length (ls.map encL):=by
   rw[map_cut ls hsz]
   exact hown
  have hD:=Tryz.slices_DeleteFunc encL (fun _=>rfl) (fun x=>p (cutL x)) g lb eg [] Tryz.zeroValue9 blk 0 cap ls.toArray w hp (hpo blk rfl) hHz (by simp;omega) (by simpa using hcap)
  simp only[List.size_toArray] at hD
  rw[filter_cut ls p hsz] at hD
  refine hD.mono ?_
  rintro e w' ⟨rfl,q,rfl⟩
  have hle:(ls.filter fun x=>!p x).length<=ls.length:=List.length_filter_le _ _
  have hc:=Lib.ownsRow_putRow (enc:=encL) (q:=q) (k:=(ls.filter fun x=>!p x).length) (ys:=(ls.filter fun x=>!p x)++List.replicate (ls.length-(ls.filter fun x=>!p x).length) ([]:List UInt8)) hown' (by simp;omega) hle
  rw[List.take_left,map_cut _ (fun s hs=>hsz s (List.mem_filter.1 hs).1)] at hc
  exact⟨_,rfl,hc,Lib.below_putRow (Below.refl _ _) hBg⟩
theorem has_gives (bx:Nat) (word x:List UInt8) (m:Int) (W:World) (hc:W.cell? ⟨bx,1,none⟩=some (.string ⟨word.toArray⟩)) (hm:W.cell? ⟨0,0,none⟩=some (.int .i64 m)) (hx:x.length<=1000000) :
 Calls Tryz.prog 203 #[encStr x,.pointer (some ⟨bx,0,none⟩)] W fun e w'=>e=.returned (.bool (Lib.contains x word))/\w'=W:=by
 have hcon:=Tryz.strings_Contains ⟨x.toArray⟩ ⟨word.toArray⟩ m W (by simp[ByteArray.size];omega) hm
 simp only at hcon
 unfold encStr
 go_enter Tryz.func203,Tryz.ntmps203
 go_wp2_with (go_at_call 135;refine hcon.mono ?_;rintro e w9 ⟨rfl,rfl⟩)
 go_ret
 exact⟨rfl,rfl⟩
theorem hasnt_gives (bx hb:Nat) (word x:List UInt8) (m:Int) (W:World) (hh:W.cell? ⟨hb,0,none⟩=some (.func (.func 203) #[] #[.pointer (some ⟨bx,0,none⟩)])) (hc:W.cell? ⟨bx,1,none⟩=some (.string ⟨word.toArray⟩)) (hm:W.cell? ⟨0,0,none⟩=some (.int .i64 m)) (hx:x.length<=1000000) :
 Calls Tryz.prog 205 #[encStr x,.pointer (some ⟨hb,0,none⟩)] W fun e w'=>e=.returned (.bool (!Lib.contains x word))/\w'=W:=by
 have hcon:=has_gives bx word x m W hc hm hx
 unfold encStr at hcon ⊢
 have eg:∀args w,(callFunc 203 args).run Tryz.prog w=.ok (.enter 203 args) w:=enters_of Tryz.func203 (by kernel_rfl) rfl
 generalize Lib.contains x word=r at *
 go_enter Tryz.func205,Tryz.ntmps205
 go_wp2_with (go_at_fn 203;refine hcon.mono ?_;rintro e w9 ⟨rfl,rfl⟩)
 go_ret
 exact⟨rfl,rfl⟩
theorem cell_over {w:World} {blk n:Nat} {dk:Array (List UInt8)} {os:Array Obj} {a:Addr} {u:Value} (hc:w.cell? a=some u) (hne:a.block≠blk):(sortWorld encL w blk 0 n dk os).cell? a=some u:=by
 have hB:=bLt w _ hc
 unfold sortWorld
 rw[Sort.cell?_grow _ _ _ (by rw[Sort.size_putRow];exact hB),Sort.cell?_putRow_other _ _ blk 0 _ _ (Or.inl hne)]
 exact hc
theorem over_keep (word:List UInt8) (n m:Int) (v:Value) (ls:List (List UInt8)) (w:World) (B:Nat) (hB0:0 < B) (hB:B<=w.heap.size) (hown:w.ownsRow B 9 1 v ls.length (ls.map S)) (hl:ls.length<=300000) (hsz:∀s∈ls,s.length<=1000000) (hm:w.cell? ⟨0,0,none⟩=some (.int .i64 m)) :
 Calls Tryz.prog 157 #[.agg #[.int .i64 1,.string ⟨word.toArray⟩,.int .i64 n],v] w fun e w'=>∃r,e=.returned r/\Reads w' r (ls.filter fun s=>Lib.contains s word).length ((ls.filter fun s=>Lib.contains s word).map S)/\Below B w w':=by
 have hsf:=fun (a:Addr) (c:Array Value) (w:World)=>run_store Tryz.prog w a (.func (.func 203) #[] c) .plain rfl
 have eg:∀args w,(callFunc 205 args).run Tryz.prog w=.ok (.enter 205 args) w:=enters_of Tryz.func205 (by kernel_rfl) rfl
 obtain⟨w2,hw2⟩:∃w2,w2=(w.alloc (.cells #[.int .i64 1,.string ⟨word.toArray⟩,.int .i64 n] 70)).alloc (.cells #[.func (.func 203) #[] #[.pointer (some ⟨w.heap.size,0,none⟩)]] 127):=⟨_,rfl⟩
 have hb2:Below w.heap.size w w2:=by rw[hw2];exact below_two
 have hbx:w2.cell? ⟨w.heap.size,1,none⟩=some (.string ⟨word.toArray⟩):=by rw[hw2];simp
 have hhb:w2.cell? ⟨w.heap.size+1,0,none⟩=some (.func (.func 203) #[] #[.pointer (some ⟨w.heap.size,0,none⟩)]):=by rw[hw2];simp
 have hm2:w2.cell? ⟨0,0,none⟩=some (.int .i64 m):=(hb2.cell (by show 0 < _;omega)).trans hm
 have hD:=delete_own v ls w2 B 205 #[.pointer (some ⟨w.heap.size+1,0,none⟩)] (fun x=>!Lib.contains x word) eg (owns_below hown hb2) (by omega) hsz
  (fun W x hb=>by
   refine (hasnt_gives w.heap.size (w.heap.size+1) word (cutL x) m W ((hb.cell (bLt w2 _ hhb)).trans hhb) ((hb.cell (bLt w2 _ hbx)).trans hbx) ((hb.cell (bLt w2 _ hm2)).trans hm2) (cutL_len x)).mono ?_
   rintro e w' ⟨rfl,rfl⟩
   exact⟨rfl,0,rfl⟩)
  (fun blk hblk q os dk x _=>by
   obtain⟨h1,h2⟩:=hown.lt blk hblk
   refine (hasnt_gives w.heap.size (w.heap.size+1) word (cutL x) m _ (cell_over hhb (by show w.heap.size+1≠blk;omega)) (cell_over hbx (by show w.heap.size≠blk;omega)) (cell_over hm2 (by show 0 ≠ blk;omega)) (cutL_len x)).mono ?_
   rintro e w' ⟨rfl,rfl⟩
   exact⟨rfl,0,rfl⟩)
 have e1:(ls.filter fun x=>!(!Lib.contains x word))=ls.filter fun s=>Lib.contains s word:=by simp
 rw[e1] at hD
 generalize (ls.filter fun s=>Lib.contains s word)=R at *
 have H2:Hid _:=hw2
 clear hbx hhb hm2
 rw[hw2] at hD
 clear hw2 hb2
 go_enter Tryz.func157,Tryz.ntmps157
 go_wp2_with fail
 refine hD.mono ?_
 rintro e w1 ⟨r,rfl,hown1,hbel1⟩
 have R:Hid _:=Reads.of_owns hown1
 have HB:Hid (Below B w w1):=((below_two.mono hB).trans hbel1)
 clear hown1 hbel1
 go_wp2_with fail
 go_ret
 exact⟨_,rfl,R.out,HB.out⟩
theorem over_drop (word:List UInt8) (n m:Int) (v:Value) (ls:List (List UInt8)) (w:World) (B:Nat) (hB0:0 < B) (hB:B<=w.heap.size) (hown:w.ownsRow B 9 1 v ls.length (ls.map S)) (hl:ls.length<=300000) (hsz:∀s∈ls,s.length<=1000000) (hm:w.cell? ⟨0,0,none⟩=some (.int .i64 m)) :
 Calls Tryz.prog 157 #[.agg #[.int .i64 2,.string ⟨word.toArray⟩,.int .i64 n],v] w fun e w'=>∃r,e=.returned r/\Reads w' r (ls.filter fun s=>!Lib.contains s word).length ((ls.filter fun s=>!Lib.contains s word).map S)/\Below B w w':=by
 have hsf:=fun (a:Addr) (c:Array Value) (w:World)=>run_store Tryz.prog w a (.func (.func 203) #[] c) .plain rfl
 have eg:∀args w,(callFunc 203 args).run Tryz.prog w=.ok (.enter 203 args) w:=enters_of Tryz.func203 (by kernel_rfl) rfl
 obtain⟨w2,hw2⟩:∃w2,w2=(w.alloc (.cells #[.int .i64 2,.string ⟨word.toArray⟩,.int .i64 n] 70)).alloc (.cells #[.func (.func 203) #[] #[.pointer (some ⟨w.heap.size,0,none⟩)]] 127):=⟨_,rfl⟩
 have hb2:Below w.heap.size w w2:=by rw[hw2];exact below_two
 have hbx:w2.cell? ⟨w.heap.size,1,none⟩=some (.string ⟨word.toArray⟩):=by rw[hw2];simp
 have hm2:w2.cell? ⟨0,0,none⟩=some (.int .i64 m):=(hb2.cell (by show 0 < _;omega)).trans hm
 have hD:=delete_own v ls w2 B 203 #[.pointer (some ⟨w.heap.size,0,none⟩)] (fun x=>Lib.contains x word) eg (owns_below hown hb2) (by omega) hsz
  (fun W x hb=>by
   refine (has_gives w.heap.size word (cutL x) m W ((hb.cell (bLt w2 _ hbx)).trans hbx) ((hb.cell (bLt w2 _ hm2)).trans hm2) (cutL_len x)).mono ?_
   rintro e w' ⟨rfl,rfl⟩
   exact⟨rfl,0,rfl⟩)
  (fun blk hblk q os dk x _=>by
   obtain⟨h1,h2⟩:=hown.lt blk hblk
   refine (has_gives w.heap.size word (cutL x) m _ (cell_over hbx (by show w.heap.size≠blk;omega)) (cell_over hm2 (by show 0 ≠ blk;omega)) (cutL_len x)).mono ?_
   rintro e w' ⟨rfl,rfl⟩
   exact⟨rfl,0,rfl⟩)
 generalize (ls.filter fun s=>!Lib.contains s word)=R at *
 clear hbx hm2
 rw[hw2] at hD
 clear hw2 hb2
 go_enter Tryz.func157,Tryz.ntmps157
 go_wp2_with fail
 refine hD.mono ?_
 rintro e w1 ⟨r,rfl,hown1,hbel1⟩
 have R:Hid _:=Reads.of_owns hown1
 have HB:Hid (Below B w w1):=((below_two.mono hB).trans hbel1)
 clear hown1 hbel1
 go_wp2_with fail
 go_ret
 exact⟨_,rfl,R.out,HB.out⟩
theorem box3O {w w':World} {a b c:Value} {t:TypeId} (h:Below (w.alloc (.cells #[a,b,c] t)).heap.size (w.alloc (.cells #[a,b,c] t)) w'):w'.cell? ⟨w.heap.size,0,none⟩=some a/\w'.cell? ⟨w.heap.size,1,none⟩=some b/\w'.cell? ⟨w.heap.size,2,none⟩=some c:=by
 refine⟨?_,?_,?_⟩
 all_goals
  rw[h.cell (by simp),cell_of_row _ _ _ _ _ _ (heap_alloc_new w _)]
  rfl
theorem below_grownO {B:Nat} {w w1:World} (h:w.grownBy w1 none) (hB:B<=w.heap.size):Below B w w1:=⟨h.os,h.tape,h.output,h.size,fun k hk=>h.block k (by omega) (by simp)⟩
theorem owns_formO {w:World} {B:Nat} {e:TypeId} {size:Nat} {v:Value} {n:Nat} {xs:List Value} (h:w.ownsRow B e size v n xs):∃a c,v=.slice a n c/\n<=c/\c<=maxLen:=by
 rcases h.2 with ⟨rfl,h0⟩ | ⟨g,cap,cur,rfl,_,_,h1,h2,_⟩
 . exact⟨none,0,by rw[h0],by omega,by simp[maxLen]⟩
 . exact⟨_,cap,rfl,h1,h2⟩
theorem step_append_ownO {P:Program} {ops:Array Oper} {o:Oper} {a:Act} {w:World} {K:Act->World->Prop} {Q:Exit->Act->World->Prop} {E:Prop}
 (hgd:o.guard=none) (s x:Operand) (t:TypeId) (ho:o.op=.call { callee:=.builtin .append,args:=#[s,x],argTypes:=#[t,t] })
 (base:Nat) (e:TypeId) (i:TypeInfo) (z:Value) (size bytes:Nat) (ht:P.underlying t=some (.slice e)) (hi:P.info? e=some i) (hz:i.zero=some z)
 (hsize:i.size=size) (hby:i.bytes=bytes) (hzs:z.cells.size=size) (hsz:0<size)
 (v:Value) (n:Nat) (xs:List Value) (hs:a.eval s=v) (hown:w.ownsRow base e size v n xs)
 (ad:Addr) (m c:Nat) (news:List Value) (hx:a.eval x=.slice (some ad) m c) (hl:news.length=m*size) (hnews:∀j u,news[j]? = some u->w.cell? (ad.add j)=some u) (h1:∀u∈news,u.oneCell'=true)
 (h63:n+m<=maxLen) (hbytes:(n+m)*bytes<=140737488355328) (hbase:base<=w.heap.size)
 (h:∀v' w',w'.ownsRow base e size v' (n+m) (xs++news)->w.grownBy w' v.ownBlock->(v'=.slice none 0 0 ↔ v=.slice none 0 0/\m=0)->(v'.ownBlock=v.ownBlock\/v'.ownBlock=some w.heap.size)->K (a.put o.dst v') w') :
 if Region.wanted o (yielded ops a.tmps)=true then Oper.wp P o a w K Q else E:=by
 have hw:Region.wanted o (yielded ops a.tmps)=true:=by simp[Region.wanted,hgd]
 rw[if_pos hw]
 obtain⟨v',w',hr,h2,h3,h4,h5⟩:=run_append_own_at (P:=P) w base t o.type e i z size bytes ht hi hz hsize hby hzs hsz v n xs hown ad m c news hl hnews h1 h63 hbytes hbase
 unfold Oper.wp execOp
 simp only[ho,resolve,invoke,builtin,Sem.run_bind,Sem.run_pure,Result.andThen_ok,List.map_toArray,List.map_cons,List.map_nil,hs,hx,hr]
 exact h v' w' h2 h3 h4 h5
def nodeV (n:SNode) (ai:Option Addr) (ni ci:Nat):Value:=.agg #[.int .i64 n.kind,.string ⟨n.file.toArray⟩,.int .i64 n.c.kind,.string ⟨n.c.word.toArray⟩,.int .i64 n.c.n,.int .i64 n.how,.int .i64 n.wide,.slice ai ni ci]
theorem outs_is (n:SNode) (ai:Option Addr) (ni ci:Nat) (w:World) :
 Calls Tryz.prog 62 #[nodeV n ai ni ci] w fun e w'=>e=.returned (.int .i64 (nouts n))/\Below w.heap.size w w':=by
 unfold nodeV nouts
 generalize n.kind=k
 generalize n.wide=wd
 generalize (⟨n.file.toArray⟩:ByteArray)=fx
 generalize (⟨n.c.word.toArray⟩:ByteArray)=wx
 generalize n.c.kind=ck
 generalize n.c.n=cn
 generalize n.how=hw
 by_cases h2:k=2
 .
  subst h2
  go_enter Tryz.func62,Tryz.ntmps62
  go_wp2_with fail
  go_ret
  exact⟨rfl,box_of⟩
 .
  by_cases h5:k=5
  . subst h5
    go_enter Tryz.func62,Tryz.ntmps62
    go_wp2_with fail
    go_ret
    exact⟨rfl,box_of⟩
  .
   rw[if_neg h2,if_neg h5]
   have e2:(k == 2)=false:=by simpa using h2
   have e5:(k == 5)=false:=by simpa using h5
   go_enter Tryz.func62,Tryz.ntmps62
   go_wp2_with fail
   go_ret
   exact⟨rfl,box_of⟩
end Go.Proofs.YtllgglolcgdehaaGreatDoor
