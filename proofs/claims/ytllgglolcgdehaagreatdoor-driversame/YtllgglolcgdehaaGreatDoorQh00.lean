/- What Same does, and more. -/
import Derived.Test.YtllgglolcgdehaaGreatDoorQAb
import Derived.Test.YtllgglolcgdehaaGreatDoorQe00
import Derived.Test.YtllgglolcgdehaaGreatDoorQd00
set_option maxRecDepth 100000
set_option maxHeartbeats 16000000
namespace Go.Proofs.YtllgglolcgdehaaGreatDoor
open Go.RowKit Go.Gs
set_option linter.unusedVariables false
theorem ca9 (au av:Option Addr) (cu cv:Nat) (a b:List UInt8) (w:World) (ha:Reads w (.slice au a.length cu) a.length (a.map U)) (hb:Reads w (.slice av b.length cv) b.length (b.map U)) :
 Calls Tryz.prog 115 #[.slice au a.length cu,.slice av b.length cv] w fun e w'=>e=.returned (.bool (decide (a=b)))/\Bq w w':=by have h1:=ag0 ha;have h2:=ag0 hb;have hse:=aO8 a b;obtain⟨d,hd⟩:=qE (decide (a=b));rw[<- hd] at hse ⊢;generalize (⟨a.toArray⟩:ByteArray)=xa at *;generalize (⟨b.toArray⟩:ByteArray)=xb at *;generalize a.length=NA at *;generalize b.length=NB at *;clear ha hb hd;go_enter Tryz.func115,Tryz.ntmps115;go_wp2_with fail;go_ret;exact⟨rfl,Below.refl _ _⟩
variable [DecidableEq SFile]
theorem cb0 (x y:SFile) (ab bb:Option Addr) (cb eb:Nat) (w:World) (hx:Reads w (.slice ab x.b.length cb) x.b.length (x.b.map U)) (hy:Reads w (.slice bb y.b.length eb) y.b.length (y.b.map U)) :
 Calls Tryz.prog 114 #[.agg #[.string ⟨x.name.toArray⟩,.slice ab x.b.length cb],.agg #[.string ⟨y.name.toArray⟩,.slice bb y.b.length eb]] w fun e w'=>e=.returned (.bool (decide (x=y)))/\Bq w w':=by
 have HE1:Hid _:=fun (W:World) (hb:Bq w W)=>ca9 ab bb cb eb x.b y.b W (Reads.below hx hb) (Reads.below hy hb);have hse:=aO8 x.name y.name
 have HXY:Hid (x=y ↔ x.name=y.name/\x.b=y.b):=(show x=y ↔ _ from ⟨fun h=>by subst h;exact⟨rfl,rfl⟩,fun ⟨h1,h2⟩=>by
  obtain⟨a1,a2⟩:=x
  obtain⟨b1,b2⟩:=y
  simp only at h1 h2
  subst h1 h2
  rfl⟩)
 obtain⟨d0,hd0⟩:=qE (decide (x.name=y.name));obtain⟨d1,hd1⟩:=qE (decide (x.b=y.b))
 have HD:Hid (decide (x=y)=(d0 && d1)):=(show _=_ by
  rw[hd0,hd1,<- Bool.decide_and]
  exact decide_eq_decide.2 HXY.out)
 rw[<- hd0] at hse;rw[<- hd1] at HE1;generalize (⟨x.name.toArray⟩:ByteArray)=tx at *;generalize (⟨y.name.toArray⟩:ByteArray)=ty at *;generalize x.b.length=NF at *;generalize y.b.length=MF at *;clear hx hy hd0 hd1 HXY
 cases d0 with
 | false=>
  have Wp:¬tx.toList=ty.toList:=by simpa using hse
  clear hse
  go_enter Tryz.func114,Tryz.ntmps114
  go_wp2_with fail
  go_ret
  exact⟨by rw[HD.out];rfl,N7⟩
 | true=>
  have Wp:tx.toList=ty.toList:=by simpa using hse
  clear hse
  go_enter Tryz.func114,Tryz.ntmps114
  go_wp2_with fail
  refine Calls.mono (HE1.out _ N7) ?_
  rintro e w3 ⟨rfl,hb3⟩
  have HB3:Hid (Bq w w3):=N7.trans (hb3.mono N7.size)
  clear hb3 HE1
  go_wp2_with fail
  go_ret
  exact⟨by rw[HD.out];rfl,HB3.out⟩
theorem bK0 (au av:Option Addr) (cu cv:Nat) (a b:List SFile) (w:World) (ha:j9 w (.slice au a.length cu) a) (hb:j9 w (.slice av b.length cv) b) :
 Calls Tryz.prog 99 #[.slice au a.length cu,.slice av b.length cv,.func (.func 114) #[] #[]] w fun e w'=>e=.returned (.bool (decide (a=b)))/\Bq w w':=by
 have m2:=ac2 ha;have m4:=ac2 hb;have HA:=qH ha;have HB:=qH hb;obtain⟨NA,hNA⟩:=qE a.length;obtain⟨NB,hNB⟩:=qE b.length;have HNA:=qH hNA;have HNB:=qH hNB;have hA1:NA<=9223372036854775807:=by omega
 have hB1:NB<=9223372036854775807:=by omega
 rw[<- hNA,<- hNB];rw[<- hNA] at HA;rw[<- hNB] at HB;clear ha hb m2 m4 hNA hNB;by_cases hne:NA=NB
 .
  subst hne;go_enter Tryz.func99,Tryz.ntmps99;go_wp2_with fail;go_loopw [17] (fun i wr=>∃k:Nat,k<=NA/\i=.int .i64 k/\Hid (Bq w wr)/\Hid (a.take k=b.take k)) (fun i _=>NA-(intOf i).toNat)
  case atStart=>exact⟨0,Nat.zero_le _,rfl,Below.refl _ _,(show _=_ by simp)⟩
  case round=>
   obtain⟨k,hk,rfl,Aa,Ae⟩:=hrel;by_cases hlt:k<NA
   .
    obtain⟨x,hx⟩:∃x,a[k]? = some x:=⟨_,gEl (by have:=HNA.out;omega)⟩;obtain⟨y,hy⟩:∃y,b[k]? = some y:=⟨_,gEl (by have:=HNB.out;omega)⟩;have HX:=qH hx;have HY:=qH hy;obtain⟨b1,o1,ab,cb,rfl,Gj,Xa,hrx⟩:=(j9.below HA.out Aa.out).at hx;obtain⟨b2,o2,bb,eb,rfl,Jp,Jq,hry⟩:=(j9.below HB.out Aa.out).at hy;have HS:Hid _:=fun (W:World) (hb:Bq wr W)=>cb0 x y ab bb cb eb W (Reads.below hrx hb) (Reads.below hry hb);obtain⟨d,hd⟩:=qE (decide (x=y));have HDD:=qH hd;rw[<- hd] at HS;have Pe:=(F6 (w:=wr) (o:=.cells #[.string ⟨x.name.toArray⟩,.slice ab x.b.length cb] 83)).cell (bLt wr _ Jp);have Pg:=(F6 (w:=wr) (o:=.cells #[.string ⟨x.name.toArray⟩,.slice ab x.b.length cb] 83)).cell (bLt wr _ Jq);rw[Jp] at Pe;rw[Jq] at Pg;generalize (⟨x.name.toArray⟩:ByteArray)=tx at *;generalize (⟨y.name.toArray⟩:ByteArray)=ty at *;generalize x.b.length=NF at *
    generalize y.b.length=MF at *;clear hx hy hd hrx hry Jp Jq;go_wp2_with fail;refine Calls.mono (HS.out _ N7) ?_;rintro e w3 ⟨rfl,hb3⟩;have HB3:Hid (Bq w w3):=(Aa.out.trans (N7.mono Aa.out.size)).trans (hb3.mono (Nat.le_trans Aa.out.size N7.size));clear hb3 HS Pe Pg Gj Xa
    cases d with
    | true=>
     have hxy:x=y:=of_decide_eq_true HDD.out.symm
     have HE:Hid (a.take (k+1)=b.take (k+1)):=aS0 Ae.out HX.out (by rw[hxy];exact HY.out)
     clear hxy Ae
     go_wp2_with fail
     go_roundw
     case rel=>exact⟨k+1,by omega,by go_num,HB3,HE⟩
     case measure=>simp[intOf];omega
    | false=>
     have HE:Hid (a≠b):=bD3 HX.out HY.out (of_decide_eq_false HDD.out.symm)
     clear Ae
     go_wp2_with fail
     go_ret
     exact⟨by rw[decide_eq_false HE.out];rfl,HB3.out⟩
   .
    have HE:Hid (a=b):=(show _=_ by
     have h:=Ae.out
     rw[List.take_of_length_le (by have:=HNA.out;omega),List.take_of_length_le (by have:=HNB.out;omega)] at h
     exact h)
    clear Ae;go_wp2_with fail;go_ret;exact⟨by rw[decide_eq_true HE.out];rfl,Aa.out⟩
 . have HE:Hid (a≠b):=(show a≠b from fun e=>hne (by rw[HNA.out,HNB.out,e]));have hq:¬(NA:Int)=NB:=by omega
   go_enter Tryz.func99,Tryz.ntmps99;go_wp2_with fail;go_ret;exact⟨by rw[decide_eq_false HE.out];rfl,Below.refl _ _⟩
theorem ct1 (au av:Option Addr) (cu cv:Nat) (a b:List SFile) (w:World) (ha:j9 w (.slice au a.length cu) a) (hb:j9 w (.slice av b.length cv) b) :
 Calls Tryz.prog 54 #[.slice au a.length cu,.slice av b.length cv] w fun e w'=>e=.returned (.bool (decide (a=b)))/\Bq w w':=by have hE:=bK0 au av cu cv a b w ha hb;obtain⟨d,hd⟩:=qE (decide (a=b));rw[<- hd] at hE ⊢;generalize a.length=NA at *;generalize b.length=NB at *;clear ha hb hd;go_enter Tryz.func54,Tryz.ntmps54;go_wp2_with fail;refine Calls.mono hE ?_;rintro e w1 ⟨rfl,hb1⟩;have HB:=qH hb1;clear hb1 hE;go_wp2_with fail;go_ret;exact⟨rfl,HB.out⟩
end Go.Proofs.YtllgglolcgdehaaGreatDoor
namespace Go.Proofs.YtllgglolcgdehaaGreatDoor
open Go.RowKit Go.Gs Go.ChangeShapes Go.WideShapes Go.ChangeAt
set_option linter.unusedVariables false
variable {P:Program} {H:Type} {enc:TypeId × Value->H} {W:World} {base:Nat} {held:Bool} {fuel:Nat} {t e q:TypeId} {x:DataW H × List MemPlace}
theorem aX3 {v:Value} (hf:DataW.trod enc Tryz.prog W base (fun _=>true) held fuel 91 [v]=some x) :
 ∃ls:List SLine,S1 W v ls/\(∀x∈ls,Y5 x) /\ ∀n c,v=.slice none n c->c=0:=by
 rcases aF7 Tryz.underlying91 Tryz.underlying56 (by kernel_rfl) rfl rfl rfl (by kernel_rfl) (by kernel_rfl) (by kernel_rfl) hf with hcs | ⟨a,len,cap,V,hcs,hl,hm,Ae⟩
 . simp at hcs;subst hcs;exact⟨[],⟨none,0,rfl,Nat.le_refl _,by simp,fun h=>absurd rfl h⟩,(by intro c hc;cases hc),fun n c e=>by injection e with _ _ e;exact e.symm⟩
 .
  simp at hcs;subst hcs;have each:∀i,i<len -> ∃x:SLine,(V i).2.2=.string ⟨x.tu.toArray⟩/\Reads W (V i).1 x.fr.length (x.fr.map S)/\P6 W (V i).2.1 x.cs/\Y5 x:=by intro i hi;obtain⟨_,_,_,n,y0,y1,y2,g0,g1,g2⟩:=Ae i hi;obtain⟨x,q1,q2,q3,q4,_⟩:=aq2 g0 g1 g2;exact⟨x,q1,q2,q3,q4⟩
  haveI:Inhabited SLine:=⟨⟨[],[],[]⟩⟩;obtain⟨Y,hY⟩:=Deep.choose_lt each;refine⟨(List.range len).map Y,⟨some a,cap,by simp,by simpa using hl,hm,fun h0=>?_⟩,fun c hc=>?_,fun n c e=>by injection e with e;cases e⟩
  .
   have h0':0<len:=by
    rcases Nat.eq_zero_or_pos len with h | h
    . subst h;simp at h0
    . exact h
   have Br:=aJ1 (Ae 0 h0').1 rfl;obtain⟨b,off,spot⟩:=a;simp only at Br;subst Br;refine⟨b,off,rfl,fun j u hu=>?_⟩;obtain⟨h1,h2⟩:=aJ0 hu;subst h2;obtain⟨b0,b1,b2,_⟩:=Ae j h1;obtain⟨q1,q2,q3,_⟩:=hY j h1;rw[aB4] at b0 b1 b2;exact⟨_,_,b0,b1,by rw[Nat.add_assoc,b2,q1],q2,q3⟩
  . obtain⟨i,hi,rfl⟩:=List.mem_map.1 hc;exact (hY i (List.mem_range.1 hi)).2.2.2
end Go.Proofs.YtllgglolcgdehaaGreatDoor
