/- What the developers' made (of graphs) does, and more. -/
import Derived.Test.YtllgglolcgdehaaGreatDoorSAb
import Derived.Test.YtllgglolcgdehaaGreatDoorSa29
set_option linter.all false
set_option maxRecDepth 100000
set_option maxHeartbeats 16000000
namespace Go.Proofs.YtllgglolcgdehaaGreatDoor
open Go.RowKit Go.Gs Tryz
theorem cg6{W:World}{bx:Nat}{x0 x1 x2 x3 x4 x5 x6 x7:Value}(v:Value)(bss:List (List UInt8))(hp:RList W v U bss)(hn:bss.length<=5)(hT:bss.flatten.length<=300000)(h8:Q3 W bx x0 x1 x2 x3 x4 x5 x6 x7):
 Calls prog 151 #[v] W fun e w'=>∃r,e=.returned r/\Hid (RList w' r S (bss.map lines))/\Hid (Bq W w')/\w'.cell? ⟨bx,0,none⟩=some x0/\w'.cell? ⟨bx,1,none⟩=some x1/\w'.cell? ⟨bx,2,none⟩=some x2/\w'.cell? ⟨bx,3,none⟩=some x3/\w'.cell? ⟨bx,4,none⟩=some x4/\w'.cell? ⟨bx,5,none⟩=some x5/\w'.cell? ⟨bx,6,none⟩=some x6/\w'.cell? ⟨bx,7,none⟩=some x7:=by refine (cg3 v bss W hp hn hT).mono ?_;rintro e w'⟨r,rfl,h1,h2⟩;obtain⟨y0,y1,y2,y3,y4,y5,y6,y7⟩:=h8.kept h2;exact⟨r,rfl,h1,h2,y0,y1,y2,y3,y4,y5,y6,y7⟩
theorem bj5{bss:List (List UInt8)}{p:List (List UInt8)}(hp:p∈bss.map lines){s:List UInt8}(hs:s∈p):s.length<=bss.flatten.length+1:=by obtain⟨b,hb,rfl⟩:=qg.1 hp;have h1:=aO5 hs;have h2:=C0 b;have h3:=J4 hb;omega
theorem bW1(n:SNode)(ai ao:Option Addr)(ni ci cap N:Nat)(fs:List SFile)(v:Value)(ins:List (List UInt8))(w:World)(hk:n.kind=4)(hj:jchk n.how n.c=0)(hcw:n.c.word.length<=9223372036854775807)(hv:RList w v U ins)(hn5:ins.length<=5)(hT:ins.flatten.length<=250000)(hE:D6 w):
 Calls prog 95 #[C6 n ai ni ci,.slice ao N cap,v] w fun e w'=>N8 w (j0 n fs ins) e w':=by
 rw[bV7 hk];have hfl:=X8 ins;have hfe:=ac3 ins;have hml:=am7 n.how n.c (am6 hj) (ins.map lines) (by omega) (by simpa using hn5);have HJO:Hid _:=fun(W:World)(r:Value)(hr:RList W r S (ins.map lines))(hE:D6 W)=>cf6 n.how n.c hj r (ins.map lines) W hcw hr (by simpa using hn5) (by omega) (fun p hp s hs=>by have:=bj5 hp hs;omega) hE;have HEE:=qH hE;generalize joined n.how n.c (ins.map lines)=M at *;unfold C6;unfold Cmd.v at HJO;rw[hk];generalize (⟨n.file.toArray⟩:ByteArray)=fx at *;generalize (⟨n.c.word.toArray⟩:ByteArray)=wx0 at *;generalize n.c.kind=ck at *;generalize n.c.n=cn at *;generalize n.how=hw at *;generalize n.wide=wd at *;have hbx:Bq w (w.alloc (.cells #[.int .i64 4,.string fx,.int .i64 ck,.string wx0,.int .i64 cn,.int .i64 hw,.int .i64 wd,.slice ai ni ci] 73)).drew:=i8.drew;have HBX:Hid _:=hbx
 have h8:Q3 (w.alloc (.cells #[.int .i64 4,.string fx,.int .i64 ck,.string wx0,.int .i64 cn,.int .i64 hw,.int .i64 wd,.slice ai ni ci] 73)).drew w.heap.size (.int .i64 4) (.string fx) (.int .i64 ck) (.string wx0) (.int .i64 cn) (.int .i64 hw) (.int .i64 wd) (.slice ai ni ci):=ad5 (qI _ _).drew;have HA:Hid _:=cg6 v ins (hv.below hbx) hn5 (by omega) h8;clear hv hbx h8 hcw hE hj;go_enter Tryz.func95,Tryz.ntmps95;go_upto_region 14 with fail
 go_region_with (first
  | (go_at_call 151;refine qD HA.out ?_;rintro e w2⟨r2,rfl,O2,B2,y0,y1,y2,y3,y4,y5,y6,y7⟩)
  | (go_at_call 150;refine (HJO.out w2 r2 O2.out ((HEE.out.below HBX.out).below B2.out)).mono ?_;rintro e w3⟨r3,rfl,R3,B3⟩))
 all_goals
  have HB3:Hid (Bq w w3):=HBX.out.trans ((qT B2 B3).out.mono HBX.out.size);have HE:Hid _:=U7 r3 M w3 R3 (by omega);clear R3 B3 O2 B2 y0 y1 y2 y3 y4 y5 y6 y7 HA HJO;go_wp2_with fail;refine qD HE.out ?_;rintro e w4⟨r4,rfl,ho4,hb4⟩;have HB4:=qT HB3 hb4;have HR4:Hid (Reads w4 r4 (ended M).length ((ended M).map U)):=Reads.of_owns ho4;have HN4:Hid (NewV w.heap.size r4):=(aC9 ho4).mono HB3.out.size;obtain⟨a4,c4,rfl,_,_⟩:=HR4.out.shape;obtain⟨l4,hl4⟩:=qE ((ended M).length);rw[<- hl4];clear ho4 hb4 HE;go_wp2_with fail;go_ret2;subst hl4;exact aq0 HB4.out HR4.out HN4.out
theorem co0(n:SNode)(ai ao:Option Addr)(ci cap:Nat)(fs:List SFile)(v:Value)(ins:List (List UInt8))(w:World)(Ap:j9 n=0)(Ad:S0 n)(hv:RList w v U ins)(hi:ins.length=n.ins.length)(hT:ins.flatten.length<=241200)(hf:j6 w (.slice ao fs.length cap) fs)(hfc:fchk fs=0)(hE:D6 w):
 Calls prog 95 #[C6 n ai n.ins.length ci,.slice ao fs.length cap,v] w fun e w'=>N8 w (j0 n fs ins) e w':=by
 obtain⟨h1,h2,_⟩:=E8 Ap;obtain⟨r1,r2⟩:=A2 Ap;have one:n.ins.length=1->∃b0,ins=[b0]:=by
  intro h;rw[h]at hi
  match ins,hi with
  | [b0],_=>exact⟨b0,rfl⟩
 rcases H7 h1 with⟨h3 | h3,_⟩|⟨h3,h4,h5⟩|⟨h3,h4⟩|⟨h3,h4⟩
 . exact bt5 n ai ao _ ci cap fs v ins w h3 hv hf hfc
 . exact bV9 n ai ao _ ci cap fs v ins w h3 hv
 . obtain⟨b0,rfl⟩:=one (r2 (.inl h3));exact bF9 n ai ao _ ci cap _ fs v b0 w h3 h4 h5 hv (by simp at hT;omega)
 . obtain⟨b0,rfl⟩:=one (r2 (.inr (.inl h3)));exact bW0 n ai ao _ ci cap _ fs v b0 w h3 h4 Ad.2.1 hE.1 hv (by simp at hT;omega)
 . exact bW1 n ai ao _ ci cap _ fs v ins w h3 h4 Ad.2.1 hv (by omega) (by omega) hE
end Go.Proofs.YtllgglolcgdehaaGreatDoor
