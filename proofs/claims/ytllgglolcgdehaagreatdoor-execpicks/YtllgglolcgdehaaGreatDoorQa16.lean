/- What the developers' made (of graphs) does: Split, Work. -/
import Derived.Test.YtllgglolcgdehaaGreatDoorQAb
import Derived.Test.YtllgglolcgdehaaGreatDoorQa15
set_option maxRecDepth 100000
set_option maxHeartbeats 16000000
namespace Go.Proofs.YtllgglolcgdehaaGreatDoor
open Go.RowKit Go.Gs
set_option linter.unusedVariables false
theorem Q9.kept {W w':World} {b:Nat} {x0 x1 x2 x3 x4 x5 x6 x7:Value} (h:Q9 W b x0 x1 x2 x3 x4 x5 x6 x7) (hb:Bq W w') :
 w'.cell? ⟨b,0,none⟩=some x0/\w'.cell? ⟨b,1,none⟩=some x1/\w'.cell? ⟨b,2,none⟩=some x2/\w'.cell? ⟨b,3,none⟩=some x3/\w'.cell? ⟨b,4,none⟩=some x4/\w'.cell? ⟨b,5,none⟩=some x5/\w'.cell? ⟨b,6,none⟩=some x6/\w'.cell? ⟨b,7,none⟩=some x7:=h.below hb
theorem all_in {W:World} {bx:Nat} {x0 x1 x2 x3 x4 x5 x6 x7:Value} (v:Value) (bs:List UInt8) (hr:Reads W v bs.length (bs.map U)) (hle:bs.length<=1000000) (h8:Q9 W bx x0 x1 x2 x3 x4 x5 x6 x7) :
 Calls Tryz.prog 147 #[v] W fun e w'=>∃r,e=.returned r/\Hid (w'.ownsRow W.heap.size 9 1 r (lines bs).length ((lines bs).map S))/\Hid (Bq W w')/\w'.cell? ⟨bx,0,none⟩=some x0/\w'.cell? ⟨bx,1,none⟩=some x1/\w'.cell? ⟨bx,2,none⟩=some x2/\w'.cell? ⟨bx,3,none⟩=some x3/\w'.cell? ⟨bx,4,none⟩=some x4/\w'.cell? ⟨bx,5,none⟩=some x5/\w'.cell? ⟨bx,6,none⟩=some x6/\w'.cell? ⟨bx,7,none⟩=some x7:=by refine (aw4 v bs W hr hle).mono ?_;rintro e w' ⟨r,rfl,h1,h2⟩;obtain⟨y0,y1,y2,y3,y4,y5,y6,y7⟩:=h8.kept h2;exact⟨r,rfl,h1,h2,y0,y1,y2,y3,y4,y5,y6,y7⟩
theorem bH3 (n:SNode) (ai ao:Option Addr) (ni ci cap N:Nat) (fs:List SFile) (v:Value) (b0:List UInt8) (w:World) (hk:n.kind=2) (hw1:1<=n.wide) (hw5:n.wide<=5) (hv:RList w v U [b0]) (hb0:b0.length<=250000) :
 Calls Tryz.prog 95 #[D2 n ai ni ci,.slice ao N cap,v] w fun e w'=>T9 w (i8 n fs [b0]) e w':=by
 rw[cj4 hk];obtain⟨p,hp⟩:∃p:Nat,n.wide=(p:Int):=Int.eq_ofNat_of_zero_le (by omega);have hp1:1<=p:=by omega
 have hp5:p<=5:=by omega
 have hel:=E5 b0;have hll:=G5 b0;obtain⟨av,cv,rfl,hv1,hv2⟩:=hv.shape;obtain⟨vb,vo,au,cu,rfl,Ac,hru⟩:=hv.at (k:=0) (p:=b0) rfl;unfold D2;rw[hk,hp,Int.toNat_natCast];have hcv:1<=cv:=by simpa using hv1
 unfold maxLen at hv2;generalize (⟨n.file.toArray⟩:ByteArray)=fx at *;generalize (⟨n.c.word.toArray⟩:ByteArray)=wx0 at *;generalize n.c.kind=ck at *;generalize n.c.n=cn at *;generalize n.how=hw at *;have hbx:Bq w (w.alloc (.cells #[.int .i64 2,.string fx,.int .i64 ck,.string wx0,.int .i64 cn,.int .i64 hw,.int .i64 (p:Int),.slice ai ni ci] 73)).drew:=b9.drew;have HBX:Hid _:=hbx;have h8:Q9 (w.alloc (.cells #[.int .i64 2,.string fx,.int .i64 ck,.string wx0,.int .i64 cn,.int .i64 hw,.int .i64 (p:Int),.slice ai ni ci] 73)).drew w.heap.size (.int .i64 2) (.string fx) (.int .i64 ck) (.string wx0) (.int .i64 cn) (.int .i64 hw) (.int .i64 (p:Int)) (.slice ai ni ci):=aa0 (Below.refl _ _).drew;have HA:Hid _:=all_in (.slice au b0.length cu) b0 (hru.below hbx) (by omega) h8
 have Mc:(w.alloc (.cells #[.int .i64 2,.string fx,.int .i64 ck,.string wx0,.int .i64 cn,.int .i64 hw,.int .i64 (p:Int),.slice ai ni ci] 73)).cell? ⟨vb,vo,none⟩=some (.slice au b0.length cu):=(b9.cell (bLt w _ Ac)).trans Ac;have HPA:Hid _:=fun (W:World) (r:Value) (B:Nat) (ho:W.ownsRow B 9 1 r (lines b0).length ((lines b0).map S))=>bS8 r B (lines b0) p W ho (by omega) (by omega) hp1 hp5;simp only[List.length_cons,List.length_nil,Nat.zero_add,List.head?_cons,Option.getD_some] at hru hv1 ⊢;generalize b0.length=bl at *;clear hv hru hbx h8 Ac;go_enter Tryz.func95,Tryz.ntmps95;go_upto_region 10 with fail
 go_region_with (first
  | (go_at_call 147;refine Calls.mono HA.out ?_;rintro e w2 ⟨r2,rfl,O2,B2,y0,y1,y2,y3,y4,y5,y6,y7⟩)
  | (go_at_call 148;refine (HPA.out w2 r2 _ O2.out).mono ?_;rintro e w3 ⟨r3,vs,rfl,O3,R3,B3⟩))
 all_goals
  have HB3:Hid (Bq w w3):=HBX.out.trans ((B2.out.trans (B3.mono B2.out.size)).mono HBX.out.size)
  have HO3:Hid (w3.ownsRow w.heap.size 28 1 r3 p vs):=aH8 O3 (Nat.le_trans HBX.out.size B2.out.size)
  have HR3:Hid _:=R3
  have HS3:Hid (w.heap.size<=w2.heap.size):=Nat.le_trans HBX.out.size B2.out.size
  obtain⟨a3,c3,rfl,_,_⟩:=(Reads.of_owns O3).shape
  clear O3 R3 B3 O2 B2 y0 y1 y2 y3 y4 y5 y6 y7
  go_wp2_with fail
  go_ret2
  refine⟨a3,c3,vs,by rw[List.length_map,List.length_range];rfl,by simpa using HO3.out,fun j b hj=>?_,HB3.out⟩
  rw[List.getElem?_map] at hj
  cases hr:(List.range p)[j]? with
  | none=>rw[hr] at hj;cases hj
  | some q=>
   rw[hr] at hj
   have hjp:j<p:=by simpa using (gSm hr).1
   rw[List.getElem?_range hjp] at hr
   injection hr with hr
   subst hr
   simp only[Option.map_some,Option.some.injEq] at hj
   subst hj
   obtain⟨u,a1,a2,a3⟩:=HR3.out j hjp
   exact⟨u,a1,a2,a3.mono HS3.out⟩
theorem bW3 (n:SNode) (ai ao:Option Addr) (ni ci cap N:Nat) (fs:List SFile) (v:Value) (b0:List UInt8) (w:World) (hk:n.kind=3) (hcc:chk n.c=0) (hcw:n.c.word.length<=9223372036854775807) (hK:aa6 w) (hv:RList w v U [b0]) (hb0:b0.length<=250000) :
 Calls Tryz.prog 95 #[D2 n ai ni ci,.slice ao N cap,v] w fun e w'=>T9 w (i8 n fs [b0]) e w':=by
 rw[aV3 hk];have hel:=E5 b0;have hll:=G5 b0;obtain⟨av,cv,rfl,hv1,hv2⟩:=hv.shape;obtain⟨vb,vo,au,cu,rfl,Ac,hru⟩:=hv.at (k:=0) (p:=b0) rfl;unfold D2;rw[hk];have hcv:1<=cv:=by simpa using hv1
 unfold maxLen at hv2;have hml:=al3 n.c hcc (lines b0) (by omega);have HCV:Hid _:=fun (W:World) (r:Value) (hr:Reads W r (lines b0).length ((lines b0).map S)) (hK:aa6 W)=>bt5 n.c hcc r (lines b0) W hcw hr (by omega) (fun s hs=>by have:=aT2 hs;omega) hK;have HKK:=qH hK;simp only[List.length_cons,List.length_nil,Nat.zero_add,List.head?_cons,Option.getD_some] at hru hv1 ⊢;generalize made n.c (lines b0)=M at *;unfold Cmd.v at HCV;generalize (⟨n.file.toArray⟩:ByteArray)=fx at *;generalize (⟨n.c.word.toArray⟩:ByteArray)=wx0 at *;generalize n.c.kind=ck at *;generalize n.c.n=cn at *;generalize n.how=hw at *;generalize n.wide=wd at *;have hbx:Bq w (w.alloc (.cells #[.int .i64 3,.string fx,.int .i64 ck,.string wx0,.int .i64 cn,.int .i64 hw,.int .i64 wd,.slice ai ni ci] 73)).drew:=b9.drew;have HBX:Hid _:=hbx
 have h8:Q9 (w.alloc (.cells #[.int .i64 3,.string fx,.int .i64 ck,.string wx0,.int .i64 cn,.int .i64 hw,.int .i64 wd,.slice ai ni ci] 73)).drew w.heap.size (.int .i64 3) (.string fx) (.int .i64 ck) (.string wx0) (.int .i64 cn) (.int .i64 hw) (.int .i64 wd) (.slice ai ni ci):=aa0 (Below.refl _ _).drew;have HA:Hid _:=all_in (.slice au b0.length cu) b0 (hru.below hbx) (by omega) h8;have Mc:(w.alloc (.cells #[.int .i64 3,.string fx,.int .i64 ck,.string wx0,.int .i64 cn,.int .i64 hw,.int .i64 wd,.slice ai ni ci] 73)).cell? ⟨vb,vo,none⟩=some (.slice au b0.length cu):=(b9.cell (bLt w _ Ac)).trans Ac;generalize b0.length=bl at *;clear hv hru hbx h8 Ac hK hcc hcw;go_enter Tryz.func95,Tryz.ntmps95;go_upto_region 12 with fail
 go_region_with (first
  | (go_at_call 147;refine Calls.mono HA.out ?_;rintro e w2 ⟨r2,rfl,O2,B2,y0,y1,y2,y3,y4,y5,y6,y7⟩)
  | (go_at_call 149;refine (HCV.out w2 r2 (Reads.of_owns O2.out) ((HKK.out.below HBX.out).below B2.out)).mono ?_;rintro e w3 ⟨r3,rfl,R3,B3⟩))
 all_goals
  have HB3:Hid (Bq w w3):=HBX.out.trans ((B2.out.trans (B3.mono B2.out.size)).mono HBX.out.size)
  have HE:Hid _:=aa5 r3 M w3 R3 (by omega)
  clear R3 B3 O2 B2 y0 y1 y2 y3 y4 y5 y6 y7 HA HCV
  go_wp2_with fail
  refine Calls.mono HE.out ?_
  rintro e w4 ⟨r4,rfl,ho4,hb4⟩
  have HB4:Hid (Bq w w4):=HB3.out.trans (hb4.mono HB3.out.size)
  have HR4:Hid (Reads w4 r4 (ended M).length ((ended M).map U)):=Reads.of_owns ho4
  have HN4:Hid (NewV w.heap.size r4):=(aH9 ho4).mono HB3.out.size
  obtain⟨a4,c4,rfl,_,_⟩:=HR4.out.shape
  obtain⟨l4,hl4⟩:=qE ((ended M).length)
  rw[<- hl4]
  clear ho4 hb4 HE
  go_wp2_with fail
  go_ret2
  subst hl4
  exact av6 HB4.out HR4.out HN4.out
end Go.Proofs.YtllgglolcgdehaaGreatDoor
