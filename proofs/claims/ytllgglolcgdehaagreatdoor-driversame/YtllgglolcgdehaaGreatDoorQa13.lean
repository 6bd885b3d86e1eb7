/- What the developers' Outs, mayHave, hasUnused of nodes do, and more. -/
import Derived.Test.YtllgglolcgdehaaGreatDoorQAb
import Derived.Test.YtllgglolcgdehaaGreatDoorQa12
set_option maxRecDepth 100000
set_option maxHeartbeats 16000000
namespace Go.Proofs.YtllgglolcgdehaaGreatDoor
open Go.RowKit Go.Gs
set_option linter.unusedVariables false
theorem bF2 (k:Int) (m:Nat) (w:World) (hm:m<=9223372036854775807) :
 Calls Tryz.prog 192 #[.int .i64 k,.int .i64 m] w fun e w'=>e=.returned (.bool (M1 k m))/\w'=w:=by
 unfold M1;by_cases h1:k=1
 .
  subst h1;rw[if_pos rfl];by_cases hz:m=0
  . subst hz;go_enter Tryz.func192,Tryz.ntmps192;go_wp2_with fail;go_ret;exact⟨rfl,rfl⟩
  . have e1:((m:Int) == 0)=false:=by simp;omega
    rw[decide_eq_false hz];go_enter Tryz.func192,Tryz.ntmps192;go_wp2_with fail;go_ret;exact⟨rfl,rfl⟩
 .
  rw[if_neg h1];have e1:(k == 1)=false:=by simpa using h1
  by_cases h4:k=4
  .
   subst h4;rw[if_pos rfl];by_cases hm1:1<=m
   .
    by_cases hm5:m<=5
    . rw[decide_eq_true ⟨hm1,hm5⟩];have q1:decide ((1:Int)<=m)=true:=by simp;omega
      have q2:decide ((m:Int)<=5)=true:=by simp;omega
      go_enter Tryz.func192,Tryz.ntmps192;go_wp2_with fail;go_ret;exact⟨rfl,rfl⟩
    . rw[decide_eq_false (fun h=>hm5 h.2)];have q1:decide ((1:Int)<=m)=true:=by simp;omega
      have q2:decide ((m:Int)<=5)=false:=by simp;omega
      go_enter Tryz.func192,Tryz.ntmps192;go_wp2_with fail;go_ret;exact⟨rfl,rfl⟩
   . rw[decide_eq_false (fun h=>hm1 h.1)];have q1:decide ((1:Int)<=m)=false:=by simp;omega
     go_enter Tryz.func192,Tryz.ntmps192;go_wp2_with fail;go_ret;exact⟨rfl,rfl⟩
  .
   rw[if_neg h4];have e4:(k == 4)=false:=by simpa using h4
   by_cases hz:m=1
   . subst hz;go_enter Tryz.func192,Tryz.ntmps192;go_wp2_with fail;go_ret;exact⟨rfl,rfl⟩
   . have e1:((m:Int) == 1)=false:=by simp;omega
     rw[decide_eq_false hz];go_enter Tryz.func192,Tryz.ntmps192;go_wp2_with fail;go_ret;exact⟨rfl,rfl⟩
theorem ax2 (x:Int):(x != 0) = !decide (x=0):=by by_cases h:x=0 <;> simp[h]
def hasU (k wd ck cn hw:Int) (fe we:Bool):Bool:=
 (!decide (k=1\/k=5) && !fe) || (!decide (k=2) && !decide (wd=0)) || (!decide (k=3\/k=4) && !(decide (ck=0) && we && decide (cn=0))) || (!decide (k=4) && !decide (hw=0))
theorem bt6 (l:List UInt8):(⟨l.toArray⟩:ByteArray).toList.isEmpty=l.isEmpty:=by
 cases l with
 | nil=>exact empty_of rfl
 | cons x r=>exact full_of (by simp)
theorem cq9 (n:SNode):I5 n=hasU n.kind n.wide n.c.kind n.c.n n.how (⟨n.file.toArray⟩:ByteArray).toList.isEmpty (⟨n.c.word.toArray⟩:ByteArray).toList.isEmpty:=by rw[bt6,bt6];rfl
theorem bj4 (n:SNode) (ai:Option Addr) (ni ci:Nat) (w:World) :
 Calls Tryz.prog 193 #[D2 n ai ni ci] w fun e w'=>e=.returned (.bool (I5 n))/\Bq w w':=by
 rw[cq9];unfold D2;generalize (⟨n.file.toArray⟩:ByteArray)=fx;generalize (⟨n.c.word.toArray⟩:ByteArray)=wx;obtain⟨fe,hfe⟩:∃d,fx.toList.isEmpty=d:=⟨_,rfl⟩;obtain⟨we,hwe⟩:∃d,wx.toList.isEmpty=d:=⟨_,rfl⟩;rw[hfe,hwe];generalize n.kind=k;generalize n.wide=wd;generalize n.c.kind=ck;generalize n.c.n=cn;generalize n.how=hw;by_cases h1:k=1
 .
  subst h1;go_enter Tryz.func193,Tryz.ntmps193;go_wp2_with fail
  all_goals
   go_ret
   exact⟨by simp_all [hasU,ax2],b9⟩
 by_cases h5:k=5
 .
  subst h5;go_enter Tryz.func193,Tryz.ntmps193;go_wp2_with fail
  all_goals
   go_ret
   exact⟨by simp_all [hasU,ax2],b9⟩
 by_cases h2:k=2
 .
  subst h2;go_enter Tryz.func193,Tryz.ntmps193;go_wp2_with fail
  all_goals
   go_ret
   exact⟨by simp_all [hasU,ax2],b9⟩
 by_cases h3:k=3
 .
  subst h3;go_enter Tryz.func193,Tryz.ntmps193;go_wp2_with fail
  all_goals
   go_ret
   exact⟨by simp_all [hasU,ax2],b9⟩
 by_cases h4:k=4
 .
  subst h4;go_enter Tryz.func193,Tryz.ntmps193;go_wp2_with fail
  all_goals
   go_ret
   exact⟨by simp_all [hasU,ax2],b9⟩
 have e1:(k == 1)=false:=by simpa using h1
 have e5:(k == 5)=false:=by simpa using h5
 have e2:(k == 2)=false:=by simpa using h2
 have e3:(k == 3)=false:=by simpa using h3
 have e4:(k == 4)=false:=by simpa using h4
 go_enter Tryz.func193,Tryz.ntmps193;go_wp2_with fail
 all_goals
  go_ret
  exact⟨by simp_all [hasU,ax2],b9⟩
theorem bT5 {n:SNode} (h:n.kind=1\/n.kind=5):C6 n=if isWord n.file then 0 else 1:=by unfold C6;rw[if_pos h]
theorem bT6 {n:SNode} (h:n.kind=2):C6 n=if n.wide<1\/5<n.wide then 3 else 0:=by unfold C6;rw[if_neg (by omega),if_pos h]
theorem bT7 {n:SNode} (h:n.kind=3):C6 n=chk n.c:=by unfold C6;rw[if_neg (by omega),if_neg (by omega),if_pos h]
theorem bT8 {n:SNode} (h:n.kind=4):C6 n=jchk n.how n.c:=by unfold C6;rw[if_neg (by omega),if_neg (by omega),if_neg (by omega),if_pos h]
theorem bT9 {n:SNode} (h1:n.kind≠1) (h2:n.kind≠2) (h3:n.kind≠3) (h4:n.kind≠4) (h5:n.kind≠5):C6 n=4:=by unfold C6;rw[if_neg (by omega),if_neg h2,if_neg h3,if_neg h4]
theorem bj5 (n:SNode) (ai:Option Addr) (ni ci:Nat) (w:World) (Ad:M4 n) :
 Calls Tryz.prog 191 #[D2 n ai ni ci] w fun e w'=>e=.returned (.int .i64 (C6 n))/\Bq w w':=by
 have Ez:=fun W=>aD7 n.file W Ad.1;have Dv:=fun W=>am4 n.c W Ad.2.1;have Fa:=fun W=>bd8 n.how n.c W Ad.2.1;unfold Cmd.v at Dv Fa;obtain⟨u,hu⟩:=qE (C6 n);rw[<- hu];by_cases h15:n.kind=1\/n.kind=5
 .
  rw[bT5 h15] at hu;unfold D2;generalize isWord n.file=d at *;generalize (⟨n.file.toArray⟩:ByteArray)=fx at *;generalize (⟨n.c.word.toArray⟩:ByteArray)=wx at *;generalize n.c.kind=ck at *;generalize n.c.n=cn at *;generalize n.how=hw at *;generalize n.wide=wd at *;generalize n.kind=k at *;clear Dv Fa Ad;rcases h15 with rfl | rfl
  .
   cases d with
   | true=>
    simp only[if_true] at hu
    subst hu
    go_enter Tryz.func191,Tryz.ntmps191
    go_wp2_with fail
    refine (Ez _).mono ?_
    rintro e w1 ⟨rfl,rfl⟩
    go_wp2_with fail
    go_ret
    exact⟨rfl,b9⟩
   | false=>
    simp only[Bool.false_eq_true,if_false] at hu
    subst hu
    go_enter Tryz.func191,Tryz.ntmps191
    go_wp2_with fail
    refine (Ez _).mono ?_
    rintro e w1 ⟨rfl,rfl⟩
    go_wp2_with fail
    go_ret
    exact⟨rfl,b9⟩
  .
   cases d with
   | true=>
    simp only[if_true] at hu
    subst hu
    go_enter Tryz.func191,Tryz.ntmps191
    go_wp2_with fail
    refine (Ez _).mono ?_
    rintro e w1 ⟨rfl,rfl⟩
    go_wp2_with fail
    go_ret
    exact⟨rfl,b9⟩
   | false=>
    simp only[Bool.false_eq_true,if_false] at hu
    subst hu
    go_enter Tryz.func191,Tryz.ntmps191
    go_wp2_with fail
    refine (Ez _).mono ?_
    rintro e w1 ⟨rfl,rfl⟩
    go_wp2_with fail
    go_ret
    exact⟨rfl,b9⟩
 .
  by_cases h2:n.kind=2
  .
   rw[bT6 h2] at hu;unfold D2;rw[h2];generalize (⟨n.file.toArray⟩:ByteArray)=fx at *;generalize (⟨n.c.word.toArray⟩:ByteArray)=wx at *;generalize n.c.kind=ck at *;generalize n.c.n=cn at *;generalize n.how=hw at *;generalize n.wide=wd at *;clear Dv Fa Ez Ad h15 h2;by_cases g1:wd<1
   . rw[if_pos (.inl g1)] at hu;subst hu;go_enter Tryz.func191,Tryz.ntmps191;go_wp2_with fail;go_ret;exact⟨rfl,b9⟩
   . by_cases g5:5<wd
     . rw[if_pos (.inr g5)] at hu;subst hu;go_enter Tryz.func191,Tryz.ntmps191;go_wp2_with fail;go_ret;exact⟨rfl,b9⟩
     . rw[if_neg (by omega)] at hu;subst hu;go_enter Tryz.func191,Tryz.ntmps191;go_wp2_with fail;go_ret;exact⟨rfl,b9⟩
  .
   by_cases h3:n.kind=3
   . rw[bT7 h3] at hu;rw[<- hu] at Dv;unfold D2;rw[h3];generalize (⟨n.file.toArray⟩:ByteArray)=fx at *;generalize (⟨n.c.word.toArray⟩:ByteArray)=wx at *;generalize n.c.kind=ck at *;generalize n.c.n=cn at *;generalize n.how=hw at *;generalize n.wide=wd at *;clear Fa Ez Ad h15 h2 h3 hu;go_enter Tryz.func191,Tryz.ntmps191;go_wp2_with fail;refine (Dv _).mono ?_;rintro e w1 ⟨rfl,hb1⟩;have HB:Hid (Bq w w1):=b9.trans (hb1.mono (by simp));clear hb1 Dv;go_wp2_with fail;go_ret;exact⟨rfl,HB.out⟩
   .
    by_cases h4:n.kind=4
    . rw[bT8 h4] at hu;rw[<- hu] at Fa;unfold D2;rw[h4];generalize (⟨n.file.toArray⟩:ByteArray)=fx at *;generalize (⟨n.c.word.toArray⟩:ByteArray)=wx at *;generalize n.c.kind=ck at *;generalize n.c.n=cn at *;generalize n.how=hw at *;generalize n.wide=wd at *;clear Dv Ez Ad h15 h2 h3 h4 hu;go_enter Tryz.func191,Tryz.ntmps191;go_wp2_with fail;refine (Fa _).mono ?_;rintro e w1 ⟨rfl,hb1⟩;have HB:Hid (Bq w w1):=b9.trans (hb1.mono (by simp));clear hb1 Fa;go_wp2_with fail;go_ret;exact⟨rfl,HB.out⟩
    .
     rw[bT9 (by omega) h2 h3 h4 (by omega)] at hu;subst hu;unfold D2;generalize (⟨n.file.toArray⟩:ByteArray)=fx at *;generalize (⟨n.c.word.toArray⟩:ByteArray)=wx at *;generalize n.c.kind=ck at *;generalize n.c.n=cn at *;generalize n.how=hw at *;generalize n.wide=wd at *;generalize n.kind=k at *;have e1:(k == 1)=false:=by simp;omega
     have e2:(k == 2)=false:=by simp;omega
     have e3:(k == 3)=false:=by simp;omega
     have e4:(k == 4)=false:=by simp;omega
     have e5:(k == 5)=false:=by simp;omega
     clear Dv Ez Ad Fa;go_enter Tryz.func191,Tryz.ntmps191;go_wp2_with fail;go_ret;exact⟨rfl,b9⟩
theorem aa0 {w w':World} {a b c d e f g h:Value} {t:TypeId} (hb:Below (w.alloc (.cells #[a,b,c,d,e,f,g,h] t)).heap.size (w.alloc (.cells #[a,b,c,d,e,f,g,h] t)) w') :
 w'.cell? ⟨w.heap.size,0,none⟩=some a/\w'.cell? ⟨w.heap.size,1,none⟩=some b/\w'.cell? ⟨w.heap.size,2,none⟩=some c/\w'.cell? ⟨w.heap.size,3,none⟩=some d/\w'.cell? ⟨w.heap.size,4,none⟩=some e/\w'.cell? ⟨w.heap.size,5,none⟩=some f/\w'.cell? ⟨w.heap.size,6,none⟩=some g/\w'.cell? ⟨w.heap.size,7,none⟩=some h:=by
 refine⟨?_,?_,?_,?_,?_,?_,?_,?_⟩
 all_goals
  rw[hb.cell (by simp),cell_of_row _ _ _ _ _ _ (heap_alloc_new w _)]
  rfl
theorem bj6 {n:SNode} (h:C6 n≠0):l7 n=C6 n:=by unfold l7;rw[if_pos h]
theorem bj7 {n:SNode} (h:C6 n=0):l7 n=if (!M1 n.kind n.ins.length || I5 n)=true then 4 else 0:=by unfold l7;rw[if_neg (by simp[h])]
theorem aE6 (n:SNode) (ai:Option Addr) (ci:Nat) (w:World) (Ad:M4 n) (hl:n.ins.length<=9223372036854775807) :
 Calls Tryz.prog 144 #[D2 n ai n.ins.length ci] w fun e w'=>e=.returned (.int .i64 (l7 n))/\Bq w w':=by
 have HU:Hid _:=fun W=>bj5 n ai n.ins.length ci W Ad;have HM:Hid _:=fun W=>bF2 n.kind n.ins.length W hl;have HH:Hid _:=fun W=>bj4 n ai n.ins.length ci W;obtain⟨r,hr⟩:=qE (l7 n);rw[<- hr];have HR:=qH hr;obtain⟨u,hu⟩:=qE (C6 n);have HUU:=qH hu;have HF:Hid _:=@bj7 n;have HG:Hid _:=@bj6 n;rw[<- hu] at HU HF HG;unfold D2 at HU HH ⊢;generalize M1 n.kind n.ins.length=mh at *;generalize I5 n=hu2 at *;generalize (⟨n.file.toArray⟩:ByteArray)=fx at *;generalize (⟨n.c.word.toArray⟩:ByteArray)=wx at *;generalize n.c.kind=ck at *;generalize n.c.n=cn at *;generalize n.how=hw at *;generalize n.wide=wd at *;generalize n.kind=k at *;generalize n.ins.length=ni at *;clear hr hu Ad;go_enter Tryz.func144,Tryz.ntmps144;go_wp2_with fail;refine (HU.out _).mono ?_;rintro e w1 ⟨rfl,hb1⟩;obtain⟨x0,x1,x2,x3,x4,x5,x6,x7⟩:=aa0 hb1
 have HB1:Hid (Bq w w1):=b9.trans (hb1.mono (by simp));clear hb1 HU;by_cases hu0:u=0
 .
  subst hu0;have HE:=HF.out rfl;go_wp2_with fail;refine (HM.out _).mono ?_;rintro e w2 ⟨rfl,rfl⟩
  cases mh with
  | false=>
   have hr4:r=4:=by rw[HR.out,HE];rfl
   subst hr4
   clear HE HF HG HM HH
   go_wp2_with fail
   go_ret
   exact⟨rfl,HB1.out⟩
  | true=>
   have HE2:Hid _:=HE
   clear HE HM HF HG
   go_wp2_with fail
   refine (HH.out _).mono ?_
   rintro e w3 ⟨rfl,hb3⟩
   have HB3:Hid (Bq w w3):=HB1.out.trans (hb3.mono HB1.out.size)
   clear hb3 HH
   cases hu2 with
   | true=>
    have hr4:r=4:=by rw[HR.out,HE2.out];rfl
    subst hr4
    clear HE2
    go_wp2_with fail
    go_ret
    exact⟨rfl,HB3.out⟩
   | false=>
    have hr4:r=0:=by rw[HR.out,HE2.out];rfl
    subst hr4
    clear HE2
    go_wp2_with fail
    go_ret
    exact⟨rfl,HB3.out⟩
 . have hru:r=u:=by rw[HR.out,HG.out hu0]
   subst hru;clear HF HG HM HH HUU HR;go_wp2_with fail;go_ret;exact⟨rfl,HB1.out⟩
end Go.Proofs.YtllgglolcgdehaaGreatDoor
