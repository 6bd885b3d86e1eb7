/- The law DriverSame, walked. -/
import Derived.Test.YtllgglolcgdehaaGreatDoorQAb
import Derived.Test.YtllgglolcgdehaaGreatDoorQh00
import Derived.Test.YtllgglolcgdehaaGreatDoorQd02
set_option maxRecDepth 100000
set_option maxHeartbeats 16000000
namespace Go.Proofs.YtllgglolcgdehaaGreatDoor
open Go.RowKit Go.Gs
set_option linter.unusedVariables false
theorem aZ8 (W room:Int) (pk:List Int) (ao al aq:Option Addr) (cap cl cq:Nat) (fs:List SFile) (ls:List SLine) (w:World) (hf:j9 w (.slice ao fs.length cap) fs) (Ad:∀f∈fs,M3 f) (hl:S1 w (.slice al ls.length cl) ls) (hfl:∀x∈ls,Y5 x) (hq:Reads w (.slice aq pk.length cq) pk.length (Zs pk)) (hW:-9223372036854775808<=W/\W<=9223372036854775807) (Ag:-9223372036854775808<=room/\room<=9223372036854775807) (hE:t8 w) :
 Calls Tryz.prog 12 #[.slice ao fs.length cap,.slice al ls.length cl,.int .i64 W,.int .i64 room,.slice aq pk.length cq] w fun e w'=>e=.returned (.bool true)/\Bq w w':=by
 obtain⟨a,ha⟩:=Int.eq_ofNat_of_zero_le (Int.emod_nonneg W (show (5:Int)≠0 by decide));obtain⟨b,hb⟩:=Int.eq_ofNat_of_zero_le (Int.emod_nonneg room (show (1000:Int)≠0 by decide));have ha5:a<5:=by have:=Int.emod_lt_of_pos W (show (0:Int)<5 by decide);omega
 have hb5:b<1000:=by have:=Int.emod_lt_of_pos room (show (0:Int)<1000 by decide);omega
 have HA1:Hid (∀V,Calls Tryz.prog 32 #[.int .i64 W,.int .i64 5] V fun e w'=>e=.returned (.int .i64 (a:Nat))/\w'=V):=(show ∀V,_ from fun V=>by
  have:=aW4 W 5 V hW.1 hW.2 (by decide) (by decide)
  rw[show ((5:Nat):Int)=5 from rfl,ha] at this
  exact this)
 have HA2:Hid (∀V,Calls Tryz.prog 32 #[.int .i64 room,.int .i64 1000] V fun e w'=>e=.returned (.int .i64 (b:Nat))/\w'=V):=(show ∀V,_ from fun V=>by
  have:=aW4 room 1000 V Ag.1 Ag.2 (by decide) (by decide)
  rw[show ((1000:Nat):Int)=1000 from rfl,hb] at this
  exact this)
 obtain⟨K,hK⟩:=qE (min pk.length 400:Nat);have hle:=R7 hq;have HR1:Hid (Calls Tryz.prog 53 #[.slice ao fs.length cap,.slice al ls.length cl] w fun e w'=>aw2 w (runS fs ls) e w'):=cm3 ao al cap cl fs ls w hf Ad hl hfl hE.1
 have HR2:Hid (∀V,Bq w V->Calls Tryz.prog 43 #[.slice ao fs.length cap,.slice al ls.length cl,.int .i64 ((a+1:Nat):Int),.int .i64 ((b+1:Nat):Int),.slice aq K cq] V fun e w'=>aw2 V (runS fs ls) e w'):=(show ∀V,_ from fun V hV=>by
  obtain⟨q1,q2⟩:=aj7 (hq.below hV) (k:=K) (by omega)
  have:=bM9 ((a+1:Nat):Int) ((b+1:Nat):Int) (pk.take K) ao al aq cap cl cq fs ls V (hf.below hV) Ad (hl.below hV) hfl (by rw[q2];rw[q2] at q1;exact q1) (hE.below hV)
  rw[aX0 (by omega) (by omega) (by omega),q2] at this
  exact this)
 have HDR:Hid (∀V,Bq w V->Calls Tryz.prog 44 #[] V fun e w'=>e=.returned (.bool true)/\Bq V w'):=(show ∀V,_ from fun V hV=>aN5 V (hE.below hV));have Jc:min (pk.length:Int) 400=(K:Int):=by omega
 have hK1:K<=pk.length:=by omega
 have hK2:K<=cq:=by omega
 have hw1:IntKind.i64.wrap (1+(a:Int))=((a+1:Nat):Int):=by rw[IntKind.wrap_i64];omega
 have hw2:IntKind.i64.wrap (1+(b:Int))=((b+1:Nat):Int):=by rw[IntKind.wrap_i64];omega
 obtain⟨A1,hA1⟩:=qE (a+1:Nat);obtain⟨B1,hB1⟩:=qE (b+1:Nat);rw[<- hA1] at hw1 HR2;rw[<- hB1] at hw2 HR2;generalize Af:runS fs ls=RES at *;obtain⟨R1,R2⟩:=RES;generalize fs.length=NF at *;generalize ls.length=NL at *;generalize pk.length=NP at *;clear hf Ad hl hfl hq hW Ag hE ha hb Af hA1 hB1 hK;go_enter Tryz.func12,Tryz.ntmps12;go_wp2_with fail;refine Calls.mono HR1.out ?_;rintro e w1 ⟨a1,c1,rfl,hf1,hb1⟩;simp only at hf1 ⊢;have HB1:=qH hb1;have HF1:=qH hf1;have HC2:Hid (∀V,Bq w1 V->_):=(show ∀V,_ from fun V hV=>HR2.out V (HB1.out.trans (hV.mono HB1.out.size)));obtain⟨LN,hLN⟩:=qE R1.length;have HLN:=qH hLN;rw[<- hLN];clear hb1 HR1 hf1 HR2 hLN;go_upto_region 2 with fail
 go_region_with (first
  | (go_at_call_of 32 (Value.int .i64 W);refine Calls.mono (HA1.out _) ?_;rintro e wx ⟨rfl,rfl⟩)
  | (go_at_call_of 32 (Value.int .i64 room);refine Calls.mono (HA2.out _) ?_;rintro e wx ⟨rfl,rfl⟩)
  | (go_at_call 43;refine Calls.mono (HC2.out _ (by first | exact (Below.refl _ _).drew | exact Below.refl _ _)) ?_;rintro e w2 ⟨a2,c2,rfl,hf2,hb2⟩;simp only at hf2 ⊢;rw[<- HLN.out]))
 all_goals
  have Dq:Bq w1 w2:=Below.trans ((Below.refl _ w1).drew) (hb2.mono (by simp))
  have HB2:Hid (Bq w w2):=HB1.out.trans (Dq.mono HB1.out.size)
  have HS:Hid (∀V,Bq w2 V->Calls Tryz.prog 54 #[.slice a1 LN c1,.slice a2 LN c2] V fun e w'=>e=.returned (.bool true)/\Bq V w'):=(show ∀V,_ from fun V hV=>by
   haveI:DecidableEq SFile:=fun a b=>Classical.propDecidable (a=b)
   have:=ct1 a1 a2 c1 c2 R1 R1 V ((HF1.out.below Dq).below hV) (hf2.below hV)
   rw[<- HLN.out] at this
   simpa using this)
  clear hf2 hb2 Dq HC2
  go_wp2_with fail
  refine Calls.mono (HDR.out _ HB2.out) ?_
  rintro e w3 ⟨rfl,hb3⟩
  have HB3:Hid (Bq w w3):=HB2.out.trans (hb3.mono HB2.out.size)
  have HS3:Hid _:=HS.out w3 hb3
  clear hb3 HS HDR
  go_wp2_with fail
  refine Calls.mono HS3.out ?_
  rintro e w4 ⟨rfl,hb4⟩
  have HB4:Hid (Bq w w4):=HB3.out.trans (hb4.mono HB3.out.size)
  clear hb4 HS3
  go_wp2_with fail
  go_ret
  exact⟨rfl,HB4.out⟩
theorem aO1 (W:World) (hE:t8 W) (hsh:W.ShapedOpen Tryz.prog) (ao:Option Addr) (cap:Nat) (fs:List SFile) (hf:j9 W (.slice ao fs.length cap) fs) (Ad:∀f∈fs,M3 f) (hz:ao=none->cap=0) (al:Option Addr) (cl:Nat) (ls:List SLine) (hl:S1 W (.slice al ls.length cl) ls) (hfl:∀x∈ls,Y5 x) (hzl:al=none->cl=0) (wide:Int) (Ko:-9223372036854775808<=wide/\wide<=9223372036854775807) (room:Int) (Ag:-9223372036854775808<=room/\room<=9223372036854775807) (aq:Option Addr) (cq:Nat) (pk:List Int) (hq:Reads W (.slice aq pk.length cq) pk.length (pk.map (Value.int .i64))) (hpk:∀z∈pk,-9223372036854775808<=z/\z<=9223372036854775807) :
 Calls Tryz.prog 12 #[.slice ao fs.length cap,.slice al ls.length cl,.int .i64 wide,.int .i64 room,.slice aq pk.length cq] W fun e w'=>e=.returned (.bool true)/\Bq W w':=
 aZ8 wide room pk ao al aq cap cl cq fs ls W hf Ad hl hfl hq Ko Ag hE
end Go.Proofs.YtllgglolcgdehaaGreatDoor
