/- What the developers' Outs, mayHave, hasUnused of nodes do. -/
import Derived.Test.YtmejdflmcikkdaaGreatDoorVAb
import Derived.Test.YtmejdflmcikkdaaGreatDoorVa06
set_option linter.all false
set_option maxRecDepth 100000
set_option maxHeartbeats 64000000
namespace Go.Proofs.YtmejdflmcikkdaaGreatDoor
open Go.RowKit Go.Gs Tryz
theorem by3(k:Int)(m:Nat)(w:World)(hm:m<=9223372036854775807):
 Calls prog 129 #[.int .i64 k,.int .i64 m] w fun e w'=>e=.returned (.bool (S1 k m))/\w'=w:=by
 unfold S1;by_cases h1:k=1
 .
  subst h1;rw[qF rfl];by_cases hz:m=0
  . subst hz;go_enter func129,ntmps129;go_wp2_with fail;go_ret;exact⟨rfl,rfl⟩
  . have e1:((m:Int)==0)=false:=by simp;omega
    rw[qG hz];go_enter func129,ntmps129;go_wp2_with fail;go_ret;exact⟨rfl,rfl⟩
 .
  rw[qB h1];have e1:(k==1)=false:=by simpa using h1
  by_cases h4:k=4
  .
   subst h4;rw[qF rfl];by_cases hm1:1<=m
   .
    by_cases hm5:m<=5
    . rw[qV ⟨hm1,hm5⟩];have q1:decide ((1:Int)<=m)=true:=by simp;omega
      have q2:decide ((m:Int)<=5)=true:=by simp;omega
      go_enter func129,ntmps129;go_wp2_with fail;go_ret;exact⟨rfl,rfl⟩
    . rw[qG (fun h=>hm5 h.2)];have q1:decide ((1:Int)<=m)=true:=by simp;omega
      have q2:decide ((m:Int)<=5)=false:=by simp;omega
      go_enter func129,ntmps129;go_wp2_with fail;go_ret;exact⟨rfl,rfl⟩
   . rw[qG (fun h=>hm1 h.1)];have q1:decide ((1:Int)<=m)=false:=by simp;omega
     go_enter func129,ntmps129;go_wp2_with fail;go_ret;exact⟨rfl,rfl⟩
  .
   rw[qB h4];have e4:(k==4)=false:=by simpa using h4
   by_cases hz:m=1
   . subst hz;go_enter func129,ntmps129;go_wp2_with fail;go_ret;exact⟨rfl,rfl⟩
   . have e1:((m:Int)==1)=false:=by simp;omega
     rw[qG hz];go_enter func129,ntmps129;go_wp2_with fail;go_ret;exact⟨rfl,rfl⟩
theorem ak1(x:Int):(x != 0) = !decide (x=0):=by by_cases h:x=0 <;> simp[h]
def hasU(k wd ck cn hw:Int)(fe we:Bool):Bool:=
 (!decide (k=1\/k=5) && !fe) || (!decide (k=2) && !decide (wd=0)) || (!decide (k=3\/k=4) && !(decide (ck=0) && we && decide (cn=0))) || (!decide (k=4) && !decide (hw=0))
theorem bn6(l:qU):(⟨l.toArray⟩:ByteArray).toList.isEmpty=l.isEmpty:=by
 cases l with
 | nil=>exact empty_of rfl
 | cons x r=>exact full_of (by simp)
theorem bF1(n:SNode):Z0 n=hasU n.kind n.wide n.c.kind n.c.n n.how (⟨n.file.toArray⟩:ByteArray).toList.isEmpty (⟨n.c.word.toArray⟩:ByteArray).toList.isEmpty:=by rw[bn6,bn6];rfl
theorem be8(n:SNode)(ai:Option Addr)(ni ci:Nat)(w:World):
 Calls prog 130 #[x8 n ai ni ci] w fun e w'=>e=.returned (.bool (Z0 n))/\Bq w w':=by
 rw[bF1];unfold x8;generalize (⟨n.file.toArray⟩:ByteArray)=fx;generalize (⟨n.c.word.toArray⟩:ByteArray)=wx;obtain⟨fe,hfe⟩:∃d,fx.toList.isEmpty=d:=⟨_,rfl⟩;obtain⟨we,hwe⟩:∃d,wx.toList.isEmpty=d:=⟨_,rfl⟩;rw[hfe,hwe];generalize n.kind=k;generalize n.wide=wd;generalize n.c.kind=ck;generalize n.c.n=cn;generalize n.how=hw;by_cases h1:k=1
 .
  subst h1;go_enter func130,ntmps130;go_wp2_with fail
  all_goals
   go_ret;exact⟨by simp_all [hasU,ak1],g9⟩
 by_cases h5:k=5
 .
  subst h5;go_enter func130,ntmps130;go_wp2_with fail
  all_goals
   go_ret;exact⟨by simp_all [hasU,ak1],g9⟩
 by_cases h2:k=2
 .
  subst h2;go_enter func130,ntmps130;go_wp2_with fail
  all_goals
   go_ret;exact⟨by simp_all [hasU,ak1],g9⟩
 by_cases h3:k=3
 .
  subst h3;go_enter func130,ntmps130;go_wp2_with fail
  all_goals
   go_ret;exact⟨by simp_all [hasU,ak1],g9⟩
 by_cases h4:k=4
 .
  subst h4;go_enter func130,ntmps130;go_wp2_with fail
  all_goals
   go_ret;exact⟨by simp_all [hasU,ak1],g9⟩
 have e1:(k==1)=false:=by simpa using h1
 have e5:(k==5)=false:=by simpa using h5
 have e2:(k==2)=false:=by simpa using h2
 have e3:(k==3)=false:=by simpa using h3
 have e4:(k==4)=false:=by simpa using h4
 go_enter func130,ntmps130;go_wp2_with fail
 all_goals
  go_ret;exact⟨by simp_all [hasU,ak1],g9⟩
end Go.Proofs.YtmejdflmcikkdaaGreatDoor
