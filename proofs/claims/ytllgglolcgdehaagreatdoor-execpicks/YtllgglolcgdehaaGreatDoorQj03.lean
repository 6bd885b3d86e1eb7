/- The reference's SameMachine, of two machines that are alike, and more. -/
import Derived.Test.YtllgglolcgdehaaGreatDoorQAb
import Derived.Test.YtllgglolcgdehaaGreatDoorQj01
import Derived.Test.YtllgglolcgdehaaGreatDoorQj02
set_option maxRecDepth 100000
set_option maxHeartbeats 16000000
namespace Go.Proofs.YtllgglolcgdehaaGreatDoor
open Go.RowKit Go.Gs
set_option linter.unusedVariables false
theorem ct5 (au av:Option Addr) (cu cv:Nat) (a:List UInt8) (w:World) (ha:Reads w (.slice au a.length cu) a.length (a.map U)) (hb:Reads w (.slice av a.length cv) a.length (a.map U)) :
 Calls Tryz.prog 71 #[.slice au a.length cu,.slice av a.length cv] w fun e w'=>e=.returned (.bool true)/\Bq w w':=by have HS:Hid _:=cl8 au av cu cv a a w ha hb;rw[decide_eq_true rfl] at HS;generalize a.length=N at *;clear ha hb;go_enter Tryz.func71,Tryz.ntmps71;go_wp2_with fail;refine Calls.mono HS.out ?_;rintro e w3 ⟨rfl,hb3⟩;have HB3:=qH hb3;clear hb3 HS;go_wp2_with fail;go_ret;exact⟨rfl,HB3.out⟩
theorem bK1 (au av:Option Addr) (cu cv:Nat) (a:List (List UInt8)) (w:World) (ha:RList w (.slice au a.length cu) U a) (hb:RList w (.slice av a.length cv) U a) :
 Calls Tryz.prog 70 #[.slice au a.length cu,.slice av a.length cv,.func (.func 71) #[] #[]] w fun e w'=>e=.returned (.bool true)/\Bq w w':=by
 have m2:=(ag6 ha).2;have m4:=(ag6 hb).2;have HA:=qH ha;have HB:=qH hb;obtain⟨NA,hNA⟩:=qE a.length;have HNA:=qH hNA;have hA1:NA<=9223372036854775807:=by omega
 rw[<- hNA];rw[<- hNA] at HA HB;clear ha hb m2 m4 hNA;go_enter Tryz.func70,Tryz.ntmps70;go_wp2_with fail;go_loopw [17] (fun i wr=>∃k:Nat,k<=NA/\i=.int .i64 k/\Hid (Bq w wr)) (fun i _=>NA-(intOf i).toNat)
 case atStart=>exact⟨0,Nat.zero_le _,rfl,Below.refl _ _⟩
 case round=>
  obtain⟨k,hk,rfl,Aa⟩:=hrel;by_cases hlt:k<NA
  . obtain⟨x,hx⟩:∃x,a[k]? = some x:=⟨_,gEl (by have:=HNA.out;omega)⟩;obtain⟨b1,o1,ab,cb,rfl,hc1,hrx⟩:=(RList.below HA.out Aa.out).at hx;obtain⟨b2,o2,bb,eb,rfl,hc2,hry⟩:=(RList.below HB.out Aa.out).at hx;have HS:Hid _:=ct5 ab bb cb eb x wr hrx hry;generalize x.length=NF at *;clear hx hrx hry;go_wp2_with fail;refine Calls.mono HS.out ?_;rintro e w3 ⟨rfl,hb3⟩;have HB3:Hid (Bq w w3):=Aa.out.trans (hb3.mono Aa.out.size);clear hb3 HS hc1 hc2;go_wp2_with fail;go_roundw
    case rel=>exact⟨k+1,by omega,by go_num,HB3⟩
    case measure=>simp[intOf];omega
  . go_wp2_with fail;go_ret;exact⟨rfl,Aa.out⟩
theorem cn2 (au av:Option Addr) (cu cv:Nat) (a:List (List UInt8)) (w:World) (ha:RList w (.slice au a.length cu) U a) (hb:RList w (.slice av a.length cv) U a) :
 Calls Tryz.prog 69 #[.slice au a.length cu,.slice av a.length cv] w fun e w'=>e=.returned (.bool true)/\Bq w w':=by have HS:Hid _:=bK1 au av cu cv a w ha hb;generalize a.length=N at *;clear ha hb;go_enter Tryz.func69,Tryz.ntmps69;go_wp2_with fail;refine Calls.mono HS.out ?_;rintro e w3 ⟨rfl,hb3⟩;have HB3:=qH hb3;clear hb3 HS;go_wp2_with fail;go_ret;exact⟨rfl,HB3.out⟩
theorem bK2 (au av:Option Addr) (cu cv:Nat) (a:List SPipe) (w:World) (ha:U7 w (.slice au a.length cu) a) (hb:U7 w (.slice av a.length cv) a) :
 Calls Tryz.prog 72 #[.slice au a.length cu,.slice av a.length cv,.func (.func 36) #[] #[]] w fun e w'=>e=.returned (.bool true)/\Bq w w':=by
 have m2:=al1 ha;have m4:=al1 hb;have HA:=qH ha;have HB:=qH hb;obtain⟨NA,hNA⟩:=qE a.length;have HNA:=qH hNA;have hA1:NA<=9223372036854775807:=by omega
 rw[<- hNA];rw[<- hNA] at HA HB;clear ha hb m2 m4 hNA;go_enter Tryz.func72,Tryz.ntmps72;go_wp2_with fail;go_loopw [17] (fun i wr=>∃k:Nat,k<=NA/\i=.int .i64 k/\Hid (Bq w wr)) (fun i _=>NA-(intOf i).toNat)
 case atStart=>exact⟨0,Nat.zero_le _,rfl,Below.refl _ _⟩
 case round=>
  obtain⟨k,hk,rfl,Aa⟩:=hrel;by_cases hlt:k<NA
  .
   obtain⟨x,hx⟩:∃x,a[k]? = some x:=⟨_,gEl (by have:=HNA.out;omega)⟩;obtain⟨b1,o1,ab,cb,rfl,a0,a1,a2,a3,hrx⟩:=(U7.below HA.out Aa.out).at hx;obtain⟨b2,o2,bb,eb,rfl,d0,d1,d2,d3,hry⟩:=(U7.below HB.out Aa.out).at hx;have HS:Hid (∀V,Bq wr V->Calls Tryz.prog 36 #[.agg #[.slice ab x.b.length cb,.int .i64 x.room,.bool x.closed,.bool x.shut],.agg #[.slice bb x.b.length eb,.int .i64 x.room,.bool x.closed,.bool x.shut]] V fun e w'=>e=.returned (.bool true)/\Bq V w'):=(show ∀V,_ from fun V hV=>bn4 ab bb cb eb x.b x.room x.closed x.shut V (hrx.below hV) (hry.below hV));have n0:=fun o=>((boxE (w:=wr) (o:=o)).cell (bLt wr _ d0)).trans d0;have n1:=fun o=>((boxE (w:=wr) (o:=o)).cell (bLt wr _ d1)).trans d1;have n2:=fun o=>((boxE (w:=wr) (o:=o)).cell (bLt wr _ d2)).trans d2;have n3:=fun o=>((boxE (w:=wr) (o:=o)).cell (bLt wr _ d3)).trans d3;generalize x.b.length=NF at *
   generalize x.room=xr at *;generalize x.closed=xc at *;generalize x.shut=xs at *;clear hx hrx hry;go_wp2_with fail;refine Calls.mono (HS.out _ ?_) ?_
   . exact Below.trans boxE (boxE.mono (by simp))
   rintro e w3 ⟨rfl,hb3⟩;have HB3:Hid (Bq w w3):=Aa.out.trans ((Below.trans (Below.trans boxE (boxE.mono (by simp))) (hb3.mono (by simp;omega))).mono Aa.out.size);clear hb3 HS a0 a1 a2 a3 d0 d1 d2 d3 n0 n1 n2 n3;go_wp2_with fail;go_roundw
   case rel=>exact⟨k+1,by omega,by go_num,HB3⟩
   case measure=>simp[intOf];omega
  . go_wp2_with fail;go_ret;exact⟨rfl,Aa.out⟩
theorem cw5 (ag ao bg bo:Option Addr) (cg co eg eo b5:Nat) (p:SProc) (w:World) (h1:RList w (.slice ag p.got.length cg) U p.got) (h2:RList w (.slice ao p.out.length co) U p.out) (h3:RList w (.slice bg p.got.length eg) U p.got) (h4:RList w (.slice bo p.out.length eo) U p.out) (h5:w.cell? ⟨b5,0,none⟩=some (.func (.func 69) #[] #[])) :
 Calls Tryz.prog 74 #[.agg #[.slice ag p.got.length cg,.int .i64 p.pos,.slice ao p.out.length co,.bool p.rd,.bool p.ov],.agg #[.slice bg p.got.length eg,.int .i64 p.pos,.slice bo p.out.length eo,.bool p.rd,.bool p.ov],.pointer (some ⟨b5,0,none⟩)] w fun e w'=>e=.returned (.bool true)/\Bq w w':=by
 have HG:Hid (∀V,Bq w V->Calls Tryz.prog 69 #[.slice ag p.got.length cg,.slice bg p.got.length eg] V fun e w'=>e=.returned (.bool true)/\Bq V w'):=(show ∀V,_ from fun V hV=>cn2 ag bg cg eg p.got V (h1.below hV) (h3.below hV));have HO:Hid (∀V,Bq w V->Calls Tryz.prog 69 #[.slice ao p.out.length co,.slice bo p.out.length eo] V fun e w'=>e=.returned (.bool true)/\Bq V w'):=(show ∀V,_ from fun V hV=>cn2 ao bo co eo p.out V (h2.below hV) (h4.below hV));have en:∀args w,(callFunc 69 args).run Tryz.prog w=.ok (.enter 69 args) w:=enters_of Tryz.func69 (by kernel_rfl) rfl;generalize p.got.length=GL at *;generalize p.out.length=OL at *;generalize p.pos=pp at *;generalize p.rd=rd at *;generalize p.ov=ov at *
 obtain⟨W0,hW0⟩:=qE ((w.alloc (.cells #[.slice ag GL cg,.int .i64 pp,.slice ao OL co,.bool rd,.bool ov] 76)).alloc (.cells #[.slice bg GL eg,.int .i64 pp,.slice bo OL eo,.bool rd,.bool ov] 76));have hB0:Bq w W0:=by rw[hW0];exact ((Below.refl _ w).alloc (Nat.le_refl _) _).alloc (by simp) _
 have hx:W0.heap[w.heap.size]? = some (.cells #[.slice ag GL cg,.int .i64 pp,.slice ao OL co,.bool rd,.bool ov] 76 (0,0))/\W0.heap[w.heap.size+1]? = some (.cells #[.slice bg GL eg,.int .i64 pp,.slice bo OL eo,.bool rd,.bool ov] 76 (0,0)):=by rw[hW0];exact⟨heap_alloc2_old _ _ _,heap_alloc2_new _ _ _⟩
 have HX:Hid _:=hx;have HB0:=qH hB0;have hc5:=(hB0.cell (bLt w _ h5)).trans h5;have HC5:=qH hc5;obtain⟨x0,x1,x2,x3,x4,_⟩:=j6 hx.1;obtain⟨y0,y1,y2,y3,y4,_⟩:=j6 hx.2;clear h1 h2 h3 h4 h5 hB0 hx;go_enter Tryz.func74,Tryz.ntmps74;go_upto_region 1 with fail;rw[<- hW0];clear hW0;go_wp2_with fail;refine Calls.mono (HG.out _ HB0.out) ?_;rintro e w3 ⟨rfl,hb3⟩;have HB3:Hid (Bq w w3):=HB0.out.trans (hb3.mono HB0.out.size);have hc53:=(hb3.cell (bLt W0 _ HC5.out)).trans HC5.out;obtain⟨u0,u1,u2,u3,u4,_⟩:=j6 ((hb3.block _ (aSm HX.out.1).1).trans HX.out.1);obtain⟨v0,v1,v2,v3,v4,_⟩:=j6 ((hb3.block _ (aSm HX.out.2).1).trans HX.out.2);clear hb3 HG hc5 x0 x1 x2 x3 x4 y0 y1 y2 y3 y4;go_wp2_with fail;refine Calls.mono (HO.out _ HB3.out) ?_;rintro e w4 ⟨rfl,hb4⟩;have HB4:Hid (Bq w w4):=HB3.out.trans (hb4.mono HB3.out.size);clear hb4 HO;go_wp2_with fail;go_ret;exact⟨rfl,HB4.out⟩
theorem bK3 (au av:Option Addr) (cu cv b5:Nat) (a:List SProc) (w:World) (ha:Q8 w (.slice au a.length cu) a) (hb:Q8 w (.slice av a.length cv) a) (h5:w.cell? ⟨b5,0,none⟩=some (.func (.func 69) #[] #[])) :
 Calls Tryz.prog 73 #[.slice au a.length cu,.slice av a.length cv,.func (.func 74) #[] #[.pointer (some ⟨b5,0,none⟩)]] w fun e w'=>e=.returned (.bool true)/\Bq w w':=by
 have m2:=af8 ha;have m4:=af8 hb;have HA:=qH ha;have HB:=qH hb;have H5:=qH h5;have en:∀args w,(callFunc 74 args).run Tryz.prog w=.ok (.enter 74 args) w:=enters_of Tryz.func74 (by kernel_rfl) rfl;obtain⟨NA,hNA⟩:=qE a.length;have HNA:=qH hNA;have hA1:NA<=9223372036854775807:=by omega
 rw[<- hNA];rw[<- hNA] at HA HB;clear ha hb m2 m4 hNA h5;go_enter Tryz.func73,Tryz.ntmps73;go_wp2_with fail;go_loopw [17] (fun i wr=>∃k:Nat,k<=NA/\i=.int .i64 k/\Hid (Bq w wr)) (fun i _=>NA-(intOf i).toNat)
 case atStart=>exact⟨0,Nat.zero_le _,rfl,Below.refl _ _⟩
 case round=>
  obtain⟨k,hk,rfl,Aa⟩:=hrel;by_cases hlt:k<NA
  .
   obtain⟨x,hx⟩:∃x,a[k]? = some x:=⟨_,gEl (by have:=HNA.out;omega)⟩;obtain⟨b1,o1,ag,cg,ao,co,rfl,a0,a1,a2,a3,a4,hg1,ho1⟩:=(Q8.below HA.out Aa.out).at hx;obtain⟨b2,o2,bg,eg,bo,eo,rfl,d0,d1,d2,d3,d4,hg2,ho2⟩:=(Q8.below HB.out Aa.out).at hx;have h5r:=(Aa.out.cell (bLt w _ H5.out)).trans H5.out;have HS:Hid (∀V,Bq wr V->Calls Tryz.prog 74 #[.agg #[.slice ag x.got.length cg,.int .i64 x.pos,.slice ao x.out.length co,.bool x.rd,.bool x.ov],.agg #[.slice bg x.got.length eg,.int .i64 x.pos,.slice bo x.out.length eo,.bool x.rd,.bool x.ov],.pointer (some ⟨b5,0,none⟩)] V fun e w'=>e=.returned (.bool true)/\Bq V w'):=(show ∀V,_ from fun V hV=>cw5 ag ao bg bo cg co eg eo b5 x V (hg1.below hV) (ho1.below hV) (hg2.below hV) (ho2.below hV) ((hV.cell (bLt wr _ h5r)).trans h5r));have n0:=fun o=>((boxE (w:=wr) (o:=o)).cell (bLt wr _ d0)).trans d0
   have n1:=fun o=>((boxE (w:=wr) (o:=o)).cell (bLt wr _ d1)).trans d1;have n2:=fun o=>((boxE (w:=wr) (o:=o)).cell (bLt wr _ d2)).trans d2;have n3:=fun o=>((boxE (w:=wr) (o:=o)).cell (bLt wr _ d3)).trans d3;have n4:=fun o=>((boxE (w:=wr) (o:=o)).cell (bLt wr _ d4)).trans d4;generalize x.got.length=GL at *;generalize x.out.length=OL at *;generalize x.pos=pp at *;generalize x.rd=rd at *;generalize x.ov=ov at *;clear hx hg1 ho1 hg2 ho2 h5r;go_wp2_with fail;refine Calls.mono (HS.out _ ?_) ?_
   . exact Below.trans boxE (boxE.mono (by simp))
   rintro e w3 ⟨rfl,hb3⟩;have HB3:Hid (Bq w w3):=Aa.out.trans ((Below.trans (Below.trans boxE (boxE.mono (by simp))) (hb3.mono (by simp;omega))).mono Aa.out.size);clear hb3 HS a0 a1 a2 a3 a4 d0 d1 d2 d3 d4 n0 n1 n2 n3 n4;go_wp2_with fail;go_roundw
   case rel=>exact⟨k+1,by omega,by go_num,HB3⟩
   case measure=>simp[intOf];omega
  . go_wp2_with fail;go_ret;exact⟨rfl,Aa.out⟩
end Go.Proofs.YtllgglolcgdehaaGreatDoor
namespace Go.Proofs.YtllgglolcgdehaaGreatDoor
open Go.RowKit Go.Gs Go.Maps
set_option linter.unusedVariables false
theorem aG4:∀l:List SNode,ab8 l l=true
 | []=>rfl
 | n::l=>by
  show (aB7 n n && ab8 l l)=true
  rw[aG4 l]
  simp[aB7]
end Go.Proofs.YtllgglolcgdehaaGreatDoor
