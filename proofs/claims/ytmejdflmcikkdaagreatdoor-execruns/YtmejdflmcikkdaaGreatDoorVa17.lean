/- What the developers' made (of graphs) does, and more. -/
import Derived.Test.YtmejdflmcikkdaaGreatDoorVAb
import Derived.Test.YtmejdflmcikkdaaGreatDoorVa16
set_option linter.all false
set_option maxRecDepth 100000
set_option maxHeartbeats 64000000
namespace Go.Proofs.YtmejdflmcikkdaaGreatDoor
open Go.RowKit Go.Gs Tryz
variable {W:World}{bx:Nat}{bss p:qL}{s:qU}
theorem bW5{x0 x1 x2 x3 x4 x5 x6 x7:Value}(v:Value)(bss:qL)(hp:RList W v U bss)(hn:bss.length<=5)(hT:bss.flatten.length<=75000000)(h8:J4 W bx x0 x1 x2 x3 x4 x5 x6 x7):
 Calls prog 150 #[v] W fun e w'=>∃r,e=.returned r/\Hid (RList w' r S (bss.map lines))/\Hid (Bq W w')/\w'.cell? ⟨bx,0,none⟩=some x0/\w'.cell? ⟨bx,1,none⟩=some x1/\w'.cell? ⟨bx,2,none⟩=some x2/\w'.cell? ⟨bx,3,none⟩=some x3/\w'.cell? ⟨bx,4,none⟩=some x4/\w'.cell? ⟨bx,5,none⟩=some x5/\w'.cell? ⟨bx,6,none⟩=some x6/\w'.cell? ⟨bx,7,none⟩=some x7:=by refine (bV9 v bss W hp hn hT).mono ?_;rintro e w'⟨r,rfl,h1,h2⟩;obtain⟨y0,y1,y2,y3,y4,y5,y6,y7⟩:=h8.kept h2;exact⟨r,rfl,h1,h2,y0,y1,y2,y3,y4,y5,y6,y7⟩
theorem bf9(hp:p∈bss.map lines)(hs:s∈p):s.length<=bss.flatten.length+1:=by obtain⟨b,hb,rfl⟩:=xA.1 hp;have h1:=ao5 hs;have h2:=E8 b;have h3:=A3 hb;omega
theorem bN4(n:SNode)(ai ao:Option Addr)(ni ci cap N:Nat)(fs:List SFile)(v:Value)(ins:qL)(w:World)(hk:n.kind=4)(hj:jchk n.how n.c=0)(hcw:n.c.word.length<=9223372036854775807)(hv:RList w v U ins)(hn5:ins.length<=5)(hT:ins.flatten.length<=62500000)(hE:q8 w):
 Calls prog 122 #[x8 n ai ni ci,.slice ao N cap,v] w fun e w'=>Q0 w (j6 n fs ins) e w':=by
 rw[aY4 hk];have hfl:=F6 ins;have hfe:=M6 ins;have hml:=U8 n.how n.c (aJ1 hj) (ins.map lines) qO (by simpa using hn5);have HJO:Hid _:=fun(W:World)(r:Value)(hr:RList W r S (ins.map lines))(hE:q8 W)=>bV8 n.how n.c hj r (ins.map lines) W hcw hr (by simpa using hn5) qO (fun p hp s hs=>by have:=bf9 hp hs;omega) hE;have HEE:=qH hE;generalize joined n.how n.c (ins.map lines)=M at *;unfold x8;unfold Cmd.v at HJO;rw[hk];generalize (⟨n.file.toArray⟩:ByteArray)=fx,(⟨n.c.word.toArray⟩:ByteArray)=wx0,n.c.kind=ck,n.c.n=cn,n.how=hw,n.wide=wd at *;have hbx:Bq w (w.alloc (.cells #[.int .i64 4,.string fx,.int .i64 ck,.string wx0,.int .i64 cn,.int .i64 hw,.int .i64 wd,.slice ai ni ci] 57)).drew:=g9.drew;have HBX:Hid _:=hbx;have h8:J4 (w.alloc (.cells #[.int .i64 4,.string fx,.int .i64 ck,.string wx0,.int .i64 cn,.int .i64 hw,.int .i64 wd,.slice ai ni ci] 57)).drew w.heap.size (.int .i64 4) (.string fx) (.int .i64 ck) (.string wx0) (.int .i64 cn) (.int .i64 hw) (.int .i64 wd) (.slice ai ni ci):=U5 (Below.refl _ _).drew;have HA:Hid _:=bW5 v ins (hv.below hbx) hn5 qO h8;clear hv hbx h8 hcw hE hj;go_enter func122,ntmps122;go_upto_region 14 with fail
 go_region_with (first
  | (go_at_call 150;refine qD HA.o ?_;rintro e w2⟨r2,rfl,O2,B2,y0,y1,y2,y3,y4,y5,y6,y7⟩)
  | (go_at_call 149;refine (HJO.o w2 r2 O2.o ((HEE.o.below HBX.o).below B2.o)).mono ?_;rintro e w3⟨r3,rfl,R3,B3⟩))
 all_goals
  have HB3:Hid (Bq w w3):=HBX.o.trans ((qT B2 B3).out.mono HBX.o.size);have HE:Hid _:=af2 r3 M w3 R3 qO;clear R3 B3 O2 B2 y0 y1 y2 y3 y4 y5 y6 y7 HA HJO;go_wp2_with fail;refine qD HE.o ?_;rintro e w4⟨r4,rfl,ho4,hb4⟩;have HB4:=qT HB3 hb4;have HR4:Hid (Reads w4 r4 (ended M).length ((ended M).map U)):=Reads.of_owns ho4;have HN4:Hid (NewV w.heap.size r4):=(aD3 ho4).mono HB3.o.size;obtain⟨a4,c4,rfl,_,_⟩:=HR4.o.shape;obtain⟨l4,hl4⟩:=qE ((ended M).length);rw[<- hl4];clear ho4 hb4 HE;go_wp2_with fail;go_ret2;subst hl4;exact ao9 HB4.o HR4.o HN4.o
theorem cc4(n:SNode)(ai ao:Option Addr)(ci cap:Nat)(fs:List SFile)(v:Value)(ins:qL)(w:World)(Ax:q9 n=0)(Ad:G8 n)(hv:RList w v U ins)(hi:ins.length=n.ins.length)(hT:ins.flatten.length<=60300000)(hf:o8 w (.slice ao fs.length cap) fs)(hfc:fchk fs=0)(hE:q8 w):
 Calls prog 122 #[x8 n ai n.ins.length ci,.slice ao fs.length cap,v] w fun e w'=>Q0 w (j6 n fs ins) e w':=by
 obtain⟨h1,h2,_⟩:=L2 Ax;obtain⟨r1,r2⟩:=A1 Ax;have one:n.ins.length=1->∃b0,ins=[b0]:=by
  intro h;rw[h]at hi
  match ins,hi with
  | [b0],_=>exact⟨b0,rfl⟩
 rcases N9 h1 with⟨h3 | h3,_⟩|⟨h3,h4,h5⟩|⟨h3,h4⟩|⟨h3,h4⟩
 . exact bp3 n ai ao _ ci cap fs v ins w h3 hv hf hfc
 . exact bN2 n ai ao _ ci cap fs v ins w h3 hv
 . obtain⟨b0,rfl⟩:=one (r2 (.inl h3));exact bz3 n ai ao _ ci cap _ fs v b0 w h3 h4 h5 hv (by simp at hT;omega)
 . obtain⟨b0,rfl⟩:=one (r2 (.inr (.inl h3)));exact bN3 n ai ao _ ci cap _ fs v b0 w h3 h4 Ad.2.1 hE.1 hv (by simp at hT;omega)
 . exact bN4 n ai ao _ ci cap _ fs v ins w h3 h4 Ad.2.1 hv qO qO hE
end Go.Proofs.YtmejdflmcikkdaaGreatDoor
