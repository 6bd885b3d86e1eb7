/- Facts of no function that walks over files use, and more. -/
import Derived.Test.YtllgglolcgdehaaGreatDoorQAb
import Derived.Test.YtllgglolcgdehaaGreatDoorQa04
set_option maxRecDepth 100000
set_option maxHeartbeats 16000000
namespace Go.Proofs.YtllgglolcgdehaaGreatDoor
open Go.RowKit Go.Gs
set_option linter.unusedVariables false
theorem aT1 {w:World} {ao:Option Addr} {n cap:Nat} {bs:List UInt8} (h:Reads w (.slice ao n cap) n (bs.map U)) {k:Nat} {c:UInt8} (hk:bs[k]? = some c) :
 ∃b off,ao=some ⟨b,off,none⟩/\w.cell? ⟨b,off+k,none⟩=some (.int .u8 (c.toNat:Int)):=by obtain⟨h1,ao',cap',e,_,_,h5⟩:=h;injection e with e1 e2 e3;subst e1;obtain⟨hkl,_⟩:=gSm hk;rw[List.length_map] at h1;obtain⟨b,off,hao,hc⟩:=h5 (by omega);exact⟨b,off,hao,hc k (U c) (by rw[List.getElem?_map,hk];rfl)⟩
theorem Y2 (au av:Option Addr) (cu cv:Nat) (a b:List UInt8) (w:World) (ha:Reads w (.slice au a.length cu) a.length (a.map U)) (hb:Reads w (.slice av b.length cv) b.length (b.map U)) :
 Calls Tryz.prog 30 #[.slice au a.length cu,.slice av b.length cv] w fun e w'=>e=.returned (.bool (decide (a=b)))/\Bq w w':=by
 have m2:=am3 ha;have m4:=am3 hb;have HA:=qH ha;have HB:=qH hb;obtain⟨NA,hNA⟩:=qE a.length;obtain⟨NB,hNB⟩:=qE b.length;have HNA:=qH hNA;have HNB:=qH hNB;have hA1:NA<=9223372036854775807:=by omega
 have hB1:NB<=9223372036854775807:=by omega
 rw[<- hNA,<- hNB];rw[<- hNA] at HA;rw[<- hNB] at HB;clear ha hb m2 m4 hNA hNB;by_cases hne:NA=NB
 .
  subst hne;go_enter Tryz.func30,Tryz.ntmps30;go_wp2_with fail;go_loopw [13] (fun i wr=>∃k:Nat,k<=NA/\i=.int .i64 k/\Hid (Bq w wr)/\Hid (a.take k=b.take k)) (fun i _=>NA-(intOf i).toNat)
  case atStart=>exact⟨0,Nat.zero_le _,rfl,Below.refl _ _,(show _=_ by simp)⟩
  case round=>
   obtain⟨k,hk,rfl,Aa,Ae⟩:=hrel;by_cases hlt:k<NA
   .
    obtain⟨x,hx⟩:∃x,a[k]? = some x:=⟨_,gEl (by have:=HNA.out;omega)⟩;obtain⟨y,hy⟩:∃y,b[k]? = some y:=⟨_,gEl (by have:=HNB.out;omega)⟩;have HX:=qH hx;have HY:=qH hy;obtain⟨b1,o1,rfl,hc1⟩:=aT1 (Reads.below HA.out Aa.out) hx;obtain⟨b2,o2,rfl,hc2⟩:=aT1 (Reads.below HB.out Aa.out) hy;by_cases hxy:x=y
    . subst hxy;have HE:Hid (a.take (k+1)=b.take (k+1)):=aS0 Ae.out hx hy;generalize (x.toNat:Int)=xi at *;clear hx hy Ae;go_wp2_with fail;go_region
      all_goals go_wp2_with fail
      all_goals go_roundw
      case rel=>exact⟨k+1,by omega,by go_num,Aa.out.drew,HE⟩
      case measure=>simp[intOf];omega
    . have HE:Hid (a≠b):=bD3 hx hy hxy;have hxi:¬(x.toNat:Int)=(y.toNat:Int):=fun h=>hxy (UInt8.toNat_inj.1 (by omega));generalize (x.toNat:Int)=xi at *;generalize (y.toNat:Int)=yi at *;clear hx hy Ae hxy;go_wp2_with fail;go_region
      all_goals go_wp2_with fail
      all_goals go_ret
      all_goals exact⟨by rw[decide_eq_false HE.out];rfl,Aa.out.drew⟩
   .
    have HE:Hid (a=b):=(show _=_ by
     have h:=Ae.out
     rw[List.take_of_length_le (by have:=HNA.out;omega),List.take_of_length_le (by have:=HNB.out;omega)] at h
     exact h)
    clear Ae;go_wp2_with fail;go_ret;exact⟨by rw[decide_eq_true HE.out];rfl,Aa.out⟩
 . have HE:Hid (a≠b):=(show a≠b from fun e=>hne (by rw[HNA.out,HNB.out,e]));have hq:¬(NA:Int)=NB:=by omega
   go_enter Tryz.func30,Tryz.ntmps30;go_wp2_with fail;go_ret;exact⟨by rw[decide_eq_false HE.out];rfl,Below.refl _ _⟩
end Go.Proofs.YtllgglolcgdehaaGreatDoor
