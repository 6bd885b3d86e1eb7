/- The reference's SameFiles. -/
import Derived.Test.YtllgglolcgdehaaGreatDoorQAb
import Derived.Test.YtllgglolcgdehaaGreatDoorQj00
set_option maxRecDepth 100000
set_option maxHeartbeats 16000000
namespace Go.Proofs.YtllgglolcgdehaaGreatDoor
open Go.RowKit Go.Gs
set_option linter.unusedVariables false
variable [DecidableEq SFile]
theorem cb5 (au av:Option Addr) (cu cv:Nat) (a b:List SFile) (w:World) (ha:j9 w (.slice au a.length cu) a) (hb:j9 w (.slice av b.length cv) b) :
 Calls Tryz.prog 99 #[.slice au a.length cu,.slice av b.length cv,.func (.func 100) #[] #[]] w fun e w'=>e=.returned (.bool (decide (a=b)))/\Bq w w':=by
 have m2:=ac2 ha;have m4:=ac2 hb;have HA:=qH ha;have HB:=qH hb;obtain⟨NA,hNA⟩:=qE a.length;obtain⟨NB,hNB⟩:=qE b.length;have HNA:=qH hNA;have HNB:=qH hNB;have hA1:NA<=9223372036854775807:=by omega
 have hB1:NB<=9223372036854775807:=by omega
 rw[<- hNA,<- hNB];rw[<- hNA] at HA;rw[<- hNB] at HB;clear ha hb m2 m4 hNA hNB;by_cases hne:NA=NB
 .
  subst hne;go_enter Tryz.func99,Tryz.ntmps99;go_wp2_with fail;go_loopw [17] (fun i wr=>∃k:Nat,k<=NA/\i=.int .i64 k/\Hid (Bq w wr)/\Hid (a.take k=b.take k)) (fun i _=>NA-(intOf i).toNat)
  case atStart=>exact⟨0,Nat.zero_le _,rfl,Below.refl _ _,(show _=_ by simp)⟩
  case round=>
   obtain⟨k,hk,rfl,Aa,Ae⟩:=hrel;by_cases hlt:k<NA
   .
    obtain⟨x,hx⟩:∃x,a[k]? = some x:=⟨_,gEl (by have:=HNA.out;omega)⟩;obtain⟨y,hy⟩:∃y,b[k]? = some y:=⟨_,gEl (by have:=HNB.out;omega)⟩;have HX:=qH hx;have HY:=qH hy;obtain⟨b1,o1,ab,cb,rfl,Gj,Xa,hrx⟩:=(j9.below HA.out Aa.out).at hx;obtain⟨b2,o2,bb,eb,rfl,Jp,Jq,hry⟩:=(j9.below HB.out Aa.out).at hy;have HS:Hid _:=fun (W:World) (hb:Bq wr W)=>ca3 x y ab bb cb eb W (Reads.below hrx hb) (Reads.below hry hb);obtain⟨d,hd⟩:=qE (decide (x=y));have HDD:=qH hd;rw[<- hd] at HS;have Pe:=(F6 (w:=wr) (o:=.cells #[.string ⟨x.name.toArray⟩,.slice ab x.b.length cb] 83)).cell (bLt wr _ Jp);have Pg:=(F6 (w:=wr) (o:=.cells #[.string ⟨x.name.toArray⟩,.slice ab x.b.length cb] 83)).cell (bLt wr _ Jq);rw[Jp] at Pe;rw[Jq] at Pg;generalize (⟨x.name.toArray⟩:ByteArray)=tx at *;generalize (⟨y.name.toArray⟩:ByteArray)=ty at *;generalize x.b.length=NF at *
    generalize y.b.length=MF at *;clear hx hy hd hrx hry Jp Jq;go_wp2_with fail;refine Calls.mono (HS.out _ N7) ?_;rintro e w3 ⟨rfl,hb3⟩;have HB3:Hid (Bq w w3):=(Aa.out.trans (N7.mono Aa.out.size)).trans (hb3.mono (Nat.le_trans Aa.out.size N7.size));clear hb3 HS Pe Pg Gj Xa
    cases d with
    | true=>
     have hxy:x=y:=of_decide_eq_true HDD.out.symm
     have HE:Hid (a.take (k+1)=b.take (k+1)):=aS0 Ae.out HX.out (by rw[hxy];exact HY.out)
     clear hxy Ae
     go_wp2_with fail
     go_roundw
     case rel=>exact⟨k+1,by omega,by go_num,HB3,HE⟩
     case measure=>simp[intOf];omega
    | false=>
     have HE:Hid (a≠b):=bD3 HX.out HY.out (of_decide_eq_false HDD.out.symm)
     clear Ae
     go_wp2_with fail
     go_ret
     exact⟨by rw[decide_eq_false HE.out];rfl,HB3.out⟩
   .
    have HE:Hid (a=b):=(show _=_ by
     have h:=Ae.out
     rw[List.take_of_length_le (by have:=HNA.out;omega),List.take_of_length_le (by have:=HNB.out;omega)] at h
     exact h)
    clear Ae;go_wp2_with fail;go_ret;exact⟨by rw[decide_eq_true HE.out];rfl,Aa.out⟩
 . have HE:Hid (a≠b):=(show a≠b from fun e=>hne (by rw[HNA.out,HNB.out,e]));have hq:¬(NA:Int)=NB:=by omega
   go_enter Tryz.func99,Tryz.ntmps99;go_wp2_with fail;go_ret;exact⟨by rw[decide_eq_false HE.out];rfl,Below.refl _ _⟩
theorem aZ6 (au av:Option Addr) (cu cv:Nat) (a b:List SFile) (w:World) (ha:j9 w (.slice au a.length cu) a) (hb:j9 w (.slice av b.length cv) b) :
 Calls Tryz.prog 34 #[.slice au a.length cu,.slice av b.length cv] w fun e w'=>e=.returned (.bool (decide (a=b)))/\Bq w w':=by have hE:=cb5 au av cu cv a b w ha hb;obtain⟨d,hd⟩:=qE (decide (a=b));rw[<- hd] at hE ⊢;generalize a.length=NA at *;generalize b.length=NB at *;clear ha hb hd;go_enter Tryz.func34,Tryz.ntmps34;go_wp2_with fail;refine Calls.mono hE ?_;rintro e w1 ⟨rfl,hb1⟩;have HB:=qH hb1;clear hb1 hE;go_wp2_with fail;go_ret;exact⟨rfl,HB.out⟩
end Go.Proofs.YtllgglolcgdehaaGreatDoor
