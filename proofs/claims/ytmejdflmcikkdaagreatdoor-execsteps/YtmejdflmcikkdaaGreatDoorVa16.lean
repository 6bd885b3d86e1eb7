/- What the developers' made (of graphs) does: Split, Work. -/
import Derived.Test.YtmejdflmcikkdaaGreatDoorVAb
import Derived.Test.YtmejdflmcikkdaaGreatDoorVa15
set_option linter.all false
set_option maxRecDepth 100000
set_option maxHeartbeats 64000000
namespace Go.Proofs.YtmejdflmcikkdaaGreatDoor
open Go.RowKit Go.Gs Tryz
variable {W:World}{b bx:Nat}{x0 x1 x2 x3 x4 x5 x6 x7:Value}
theorem J4.kept{w':World}(h:J4 W b x0 x1 x2 x3 x4 x5 x6 x7)(hb:Bq W w'):
 w'.cell? ⟨b,0,none⟩=some x0/\w'.cell? ⟨b,1,none⟩=some x1/\w'.cell? ⟨b,2,none⟩=some x2/\w'.cell? ⟨b,3,none⟩=some x3/\w'.cell? ⟨b,4,none⟩=some x4/\w'.cell? ⟨b,5,none⟩=some x5/\w'.cell? ⟨b,6,none⟩=some x6/\w'.cell? ⟨b,7,none⟩=some x7:=h.below hb
theorem all_in(v:Value)(bs:qU)(hr:Reads W v bs.length (bs.map U))(hle:bs.length<=250000000)(h8:J4 W bx x0 x1 x2 x3 x4 x5 x6 x7):
 Calls prog 146 #[v] W fun e w'=>∃r,e=.returned r/\Hid (w'.ownsRow W.heap.size 9 1 r (lines bs).length ((lines bs).map S))/\Hid (Bq W w')/\w'.cell? ⟨bx,0,none⟩=some x0/\w'.cell? ⟨bx,1,none⟩=some x1/\w'.cell? ⟨bx,2,none⟩=some x2/\w'.cell? ⟨bx,3,none⟩=some x3/\w'.cell? ⟨bx,4,none⟩=some x4/\w'.cell? ⟨bx,5,none⟩=some x5/\w'.cell? ⟨bx,6,none⟩=some x6/\w'.cell? ⟨bx,7,none⟩=some x7:=by refine (aB5 v bs W hr hle).mono ?_;rintro e w'⟨r,rfl,h1,h2⟩;obtain⟨y0,y1,y2,y3,y4,y5,y6,y7⟩:=h8.kept h2;exact⟨r,rfl,h1,h2,y0,y1,y2,y3,y4,y5,y6,y7⟩
theorem bz3(n:SNode)(ai ao:Option Addr)(ni ci cap N:Nat)(fs:List SFile)(v:Value)(b0:qU)(w:World)(hk:n.kind=2)(hw1:1<=n.wide)(hw5:n.wide<=5)(hv:RList w v U [b0])(hb0:b0.length<=62500000):
 Calls prog 122 #[x8 n ai ni ci,.slice ao N cap,v] w fun e w'=>Q0 w (j6 n fs [b0]) e w':=by
 rw[bp2 hk];obtain⟨p,hp⟩:∃p:Nat,n.wide=(p:Int):=qm qO;have hp1:1<=p:=qO;have hp5:p<=5:=qO;have hel:=E8 b0;have hll:=E6 b0;obtain⟨av,cv,rfl,hv1,hv2⟩:=hv.shape;obtain⟨vb,vo,au,cu,rfl,Ac,hru⟩:=hv.at (k:=0) (p:=b0) rfl;unfold x8;rw[hk,hp,qh];have hcv:1<=cv:=by simpa using hv1
 unfold maxLen at hv2;generalize (⟨n.file.toArray⟩:ByteArray)=fx,(⟨n.c.word.toArray⟩:ByteArray)=wx0,n.c.kind=ck,n.c.n=cn,n.how=hw at *;have hbx:Bq w (w.alloc (.cells #[.int .i64 2,.string fx,.int .i64 ck,.string wx0,.int .i64 cn,.int .i64 hw,.int .i64 (p:Int),.slice ai ni ci] 57)).drew:=g9.drew;have HBX:Hid _:=hbx;have h8:J4 (w.alloc (.cells #[.int .i64 2,.string fx,.int .i64 ck,.string wx0,.int .i64 cn,.int .i64 hw,.int .i64 (p:Int),.slice ai ni ci] 57)).drew w.heap.size (.int .i64 2) (.string fx) (.int .i64 ck) (.string wx0) (.int .i64 cn) (.int .i64 hw) (.int .i64 (p:Int)) (.slice ai ni ci):=U5 (Below.refl _ _).drew;have HA:Hid _:=all_in (.slice au b0.length cu) b0 (hru.below hbx) qO h8;have Ge:(w.alloc (.cells #[.int .i64 2,.string fx,.int .i64 ck,.string wx0,.int .i64 cn,.int .i64 hw,.int .i64 (p:Int),.slice ai ni ci] 57)).cell? ⟨vb,vo,none⟩=some (.slice au b0.length cu):=qC g9 Ac;have HPA:Hid _:=fun(W:World)(r:Value)(B:Nat)(ho:W.ownsRow B 9 1 r (lines b0).length ((lines b0).map S))=>bL7 r B (lines b0) p W ho qO qO hp1 hp5;simp only[ql,xI,qk,zo,zE]at hru hv1 ⊢;generalize b0.length=bl at *;clear hv hru hbx h8 Ac;go_enter func122,ntmps122;go_upto_region 10 with fail
 go_region_with (first
  | (go_at_call 146;refine qD HA.o ?_;rintro e w2⟨r2,rfl,O2,B2,y0,y1,y2,y3,y4,y5,y6,y7⟩)
  | (go_at_call 147;refine (HPA.o w2 r2 _ O2.o).mono ?_;rintro e w3⟨r3,vs,rfl,O3,R3,B3⟩))
 all_goals
  have HB3:Hid (Bq w w3):=HBX.o.trans ((qT B2 B3).out.mono HBX.o.size);have HO3:Hid (w3.ownsRow w.heap.size 28 1 r3 p vs):=aX1 O3 (qc HBX.o.size B2.o.size);have HR3:Hid _:=R3;have HS3:Hid (w.heap.size<=w2.heap.size):=qc HBX.o.size B2.o.size;obtain⟨a3,c3,rfl,_,_⟩:=(Reads.of_owns O3).shape;clear O3 R3 B3 O2 B2 y0 y1 y2 y3 y4 y5 y6 y7;go_wp2_with fail;go_ret2;refine⟨a3,c3,vs,by rw[qS,List.length_range];rfl,by simpa using HO3.o,fun j b hj=>?_,HB3.o⟩;rw[qa]at hj
  cases hr:(List.range p)[j]? with
  | none=>rw[hr]at hj;cases hj
  | some q=>
   rw[hr]at hj;have hjp:j<p:=by simpa using (gSm hr).1
   rw[xd hjp]at hr;injection hr with hr;subst hr;simp only[xG,qe]at hj;subst hj;obtain⟨u,a1,a2,a3⟩:=HR3.o j hjp;exact⟨u,a1,a2,a3.mono HS3.o⟩
theorem bN3(n:SNode)(ai ao:Option Addr)(ni ci cap N:Nat)(fs:List SFile)(v:Value)(b0:qU)(w:World)(hk:n.kind=3)(hcc:chk n.c=0)(hcw:n.c.word.length<=9223372036854775807)(hK:Q9 w)(hv:RList w v U [b0])(hb0:b0.length<=62500000):
 Calls prog 122 #[x8 n ai ni ci,.slice ao N cap,v] w fun e w'=>Q0 w (j6 n fs [b0]) e w':=by
 rw[aw6 hk];have hel:=E8 b0;have hll:=E6 b0;obtain⟨av,cv,rfl,hv1,hv2⟩:=hv.shape;obtain⟨vb,vo,au,cu,rfl,Ac,hru⟩:=hv.at (k:=0) (p:=b0) rfl;unfold x8;rw[hk];have hcv:1<=cv:=by simpa using hv1
 unfold maxLen at hv2;have hml:=ah4 n.c hcc (lines b0) qO;have HCV:Hid _:=fun(W:World)(r:Value)(hr:Reads W r (lines b0).length ((lines b0).map S))(hK:Q9 W)=>bo1 n.c hcc r (lines b0) W hcw hr qO (fun s hs=>by have:=ao5 hs;omega) hK;have HKK:=qH hK;simp only[ql,xI,qk,zo,zE]at hru hv1 ⊢;generalize made n.c (lines b0)=M at *;unfold Cmd.v at HCV;generalize (⟨n.file.toArray⟩:ByteArray)=fx,(⟨n.c.word.toArray⟩:ByteArray)=wx0,n.c.kind=ck,n.c.n=cn,n.how=hw,n.wide=wd at *;have hbx:Bq w (w.alloc (.cells #[.int .i64 3,.string fx,.int .i64 ck,.string wx0,.int .i64 cn,.int .i64 hw,.int .i64 wd,.slice ai ni ci] 57)).drew:=g9.drew;have HBX:Hid _:=hbx;have h8:J4 (w.alloc (.cells #[.int .i64 3,.string fx,.int .i64 ck,.string wx0,.int .i64 cn,.int .i64 hw,.int .i64 wd,.slice ai ni ci] 57)).drew w.heap.size (.int .i64 3) (.string fx) (.int .i64 ck) (.string wx0) (.int .i64 cn) (.int .i64 hw) (.int .i64 wd) (.slice ai ni ci):=U5 (Below.refl _ _).drew;have HA:Hid _:=all_in (.slice au b0.length cu) b0 (hru.below hbx) qO h8;have Ge:(w.alloc (.cells #[.int .i64 3,.string fx,.int .i64 ck,.string wx0,.int .i64 cn,.int .i64 hw,.int .i64 wd,.slice ai ni ci] 57)).cell? ⟨vb,vo,none⟩=some (.slice au b0.length cu):=qC g9 Ac;generalize b0.length=bl at *;clear hv hru hbx h8 Ac hK hcc hcw;go_enter func122,ntmps122;go_upto_region 12 with fail
 go_region_with (first
  | (go_at_call 146;refine qD HA.o ?_;rintro e w2⟨r2,rfl,O2,B2,y0,y1,y2,y3,y4,y5,y6,y7⟩)
  | (go_at_call 148;refine (HCV.o w2 r2 (Reads.of_owns O2.o) ((HKK.o.below HBX.o).below B2.o)).mono ?_;rintro e w3⟨r3,rfl,R3,B3⟩))
 all_goals
  have HB3:Hid (Bq w w3):=HBX.o.trans ((qT B2 B3).out.mono HBX.o.size);have HE:Hid _:=af2 r3 M w3 R3 qO;clear R3 B3 O2 B2 y0 y1 y2 y3 y4 y5 y6 y7 HA HCV;go_wp2_with fail;refine qD HE.o ?_;rintro e w4⟨r4,rfl,ho4,hb4⟩;have HB4:=qT HB3 hb4;have HR4:Hid (Reads w4 r4 (ended M).length ((ended M).map U)):=Reads.of_owns ho4;have HN4:Hid (NewV w.heap.size r4):=(aD3 ho4).mono HB3.o.size;obtain⟨a4,c4,rfl,_,_⟩:=HR4.o.shape;obtain⟨l4,hl4⟩:=qE ((ended M).length);rw[<- hl4];clear ho4 hb4 HE;go_wp2_with fail;go_ret2;subst hl4;exact ao9 HB4.o HR4.o HN4.o
end Go.Proofs.YtmejdflmcikkdaaGreatDoor
