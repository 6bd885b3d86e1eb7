/- What the reference's NodeMade does, and more. -/
import Derived.Test.YtmejdflmcikkdaaGreatDoorVAb
import Derived.Test.YtmejdflmcikkdaaGreatDoorVa30
set_option linter.all false
set_option maxRecDepth 100000
set_option maxHeartbeats 64000000
namespace Go.Proofs.YtmejdflmcikkdaaGreatDoor
open Go.RowKit Go.Gs Tryz
variable {W w w1 w' w2 wx:World}{bx D r i g c GL k ci gP bp bn bm ba cap cn b4 mp gI q cr:Nat}{u gv v:Value}{b x y bs:qU}{O O' O1:qW}{A:World->qW->Prop}{d:RD}{p:SProc}{s:PSlot}{got:qL}{gs:List Sl}{n:SNode}{ai ao an ar:Option Addr}{xs:List Value}{o:Own}
theorem bB2(how:Int)(c:Cmd)(ao:Option Addr)(cap:Nat)(bss:qL)(w:World)(hj:jchk how c=0)(h1:RList w (.slice ao bss.length cap) U bss)(hN5:bss.length<=5)(hT:bss.flatten.length<=62500000)(hE:q8 w)(hsh:w.ShapedOpen prog):
 Calls prog 83 #[.int .i64 how,c.v,.slice ao bss.length cap] w fun e w'=>∃r,e=.returned r/\Reads w' r (ended (joined how c (bss.map lines))).length ((ended (joined how c (bss.map lines))).map U)/\Bq w w'/\Y0 w.heap.size r:=by
 obtain⟨k,word,n⟩:=c;unfold Cmd.v;have h4:how=1\/how=2\/how=3\/how=4:=by
  unfold jchk at hj;split at hj
  . cases hj
  . omega
 rcases h4 with rfl | rfl | rfl | rfl
 . exact bA4 k n word ao cap bss w h1 hN5 hT hE hsh
 . exact bA7 k n word ao cap bss w h1 hN5 hT hE hsh
 . exact bg9 k n word ao cap bss w h1 hN5 hT hE hsh
 . exact bq7 k n word ao cap bss w (by simpa[jchk]using hj) h1 hN5 hT hE hsh
theorem bO9{x0 x1 x2 x3 x4 x5 x6 x7:Value}(v:Value)(bs:qU)(hr:Reads W v bs.length (bs.map U))(hsh:W.ShapedOpen prog)(hle:bs.length<=225000000)(h8:J4 W bx x0 x1 x2 x3 x4 x5 x6 x7):
 Calls prog 56 #[v] W fun e w'=>∃r,e=.returned r/\Hid (Reads w' r (lines bs).length ((lines bs).map S))/\Hid (Bq W w')/\w'.cell? ⟨bx,0,none⟩=some x0/\w'.cell? ⟨bx,1,none⟩=some x1/\w'.cell? ⟨bx,2,none⟩=some x2/\w'.cell? ⟨bx,3,none⟩=some x3/\w'.cell? ⟨bx,4,none⟩=some x4/\w'.cell? ⟨bx,5,none⟩=some x5/\w'.cell? ⟨bx,6,none⟩=some x6/\w'.cell? ⟨bx,7,none⟩=some x7:=by refine (aA4 v bs W hr hsh hle).mono ?_;rintro e w'⟨g,c,rfl,h1,h2⟩;obtain⟨y0,y1,y2,y3,y4,y5,y6,y7⟩:=h8.kept h2;exact⟨_,rfl,h1,h2,y0,y1,y2,y3,y4,y5,y6,y7⟩
theorem aZ1(r:Value)(M:qL)(w:World)(L:Nat)(hL:L=(ended M).length)(hr:Reads w r M.length (M.map S))(hle:(ended M).length<=225000000):
 Calls prog 54 #[r] w fun e w'=>∃a c,e=.returned (.slice a L c)/\Hid (Reads w' (.slice a L c) (ended M).length ((ended M).map U))/\Hid (Bq w w')/\Hid (Y0 w.heap.size (.slice a L c)):=by refine (ai6 r M w hr hle).mono ?_;rintro e w'⟨q,rfl,h1,h2,h3⟩;obtain⟨a,c,rfl,_,_⟩:=h1.shape;rw[<- hL]at h1 h3 ⊢;exact⟨a,c,rfl,h1,h2,h3⟩
def aA8(w:World)(o:qL)(e:Ending)(w':World):Prop:=∃r,e=.returned r/\RNew w.heap.size w' r o/\Bq w w'
theorem aD6(hb:Bq w W)(hu:Reads W u b.length (b.map U))(hn:Y0 w.heap.size u):
 aA8 w [b] (.returned (.slice (some ⟨W.heap.size,0,none⟩) 1 1)) (W.alloc (.cells #[u] 28)):=
 ⟨_,rfl,bX4 hu hn hb.size _ rfl,hb.alloc hb.size _⟩
theorem bP0(n:SNode)(ai ao:Option Addr)(ni ci cap:Nat)(fs:List SFile)(v:Value)(ins:qL)(w:World)(hk:n.kind=1)(hv:RList w v U ins)(hf:o8 w (.slice ao fs.length cap) fs)(hfc:∀f∈fs,f.b.length<=4000)(hsh:w.ShapedOpen prog):
 Calls prog 51 #[x8 n ai ni ci,.slice ao fs.length cap,v] w fun e w'=>aA8 w (j6 n fs ins) e w':=by
 rw[bp1 hk];have hlen:(E0 fs n.file).length<=4000:=by
  unfold E0
  cases hq:fs.find? (fun f=>f.name==n.file) with
  | none=>simp
  | some f=>exact hfc f (List.mem_of_find?_eq_some hq)
 have HG:Hid _:=fun(W:World)(h:Bq w W)=>bA3 ao cap fs n.file W (hf.below h);have HW:Hid _:=fun(W:World)(h:Bq w W)(u:Value)(hr:Reads W u (E0 fs n.file).length ((E0 fs n.file).map U))=>bO4 u (E0 fs n.file) W hr (M4 hsh h) qO;unfold x8;rw[hk];obtain⟨av,cv,rfl,_,_⟩:=hv.shape;obtain⟨N,hN⟩:=qE fs.length;rw[<- hN]at HG;rw[<- hN];generalize E0 fs n.file=fb,(⟨n.file.toArray⟩:ByteArray)=fx,(⟨n.c.word.toArray⟩:ByteArray)=wx0,n.c.kind=ck,n.c.n=cn,n.how=hw,n.wide=wd at *;clear hv hf hfc hN hsh;go_enter func51,ntmps51;go_wp2_with fail;refine qD (HG.o _ g9) ?_;rintro e w1⟨a1,c1,rfl,hr1,hb1⟩;have HB1:Hid (Bq w w1):=g9.trans (hb1.mono (by simp));have HA:Hid _:=HW.o w1 HB1.o _ hr1;generalize fb.length=fl at *;clear hr1 hb1 HG HW;go_wp2_with fail;refine qD HA.o ?_;rintro e w2⟨r2,rfl,hr2,hb2,hn2⟩;have HB2:=qT HB1 hb2;have HR2:=qH hr2;have HN2:Hid (Y0 w.heap.size r2):=Y0.mono hn2 HB1.o.size;obtain⟨a2,c2,rfl,_,_⟩:=hr2.shape;obtain⟨l4,hl4⟩:=qE ((ended (lines fb)).length);rw[<- hl4];clear hr2 hb2 hn2 HA;go_wp2_with fail;go_ret;subst hl4;exact aD6 HB2.o HR2.o HN2.o
theorem bY0(n:SNode)(ai ao:Option Addr)(ni ci cap N:Nat)(fs:List SFile)(v:Value)(b0:qU)(w:World)(hk:n.kind=2)(hw1:1<=n.wide)(hw5:n.wide<=5)(hv:RList w v U [b0])(hb0:b0.length<=62500000)(hsh:w.ShapedOpen prog):
 Calls prog 51 #[x8 n ai ni ci,.slice ao N cap,v] w fun e w'=>aA8 w (j6 n fs [b0]) e w':=by
 rw[bp2 hk];obtain⟨p,hp⟩:∃p:Nat,n.wide=(p:Int):=qm qO;have hp1:1<=p:=qO;have hp5:p<=5:=qO;obtain⟨av,cv,rfl,hv1,hv2⟩:=hv.shape;obtain⟨vb,vo,au,cu,rfl,Ac,hru⟩:=hv.at (k:=0) (p:=b0) rfl;unfold x8;rw[hk,hp,qh];have hcv:1<=cv:=by simpa using hv1
 unfold maxLen at hv2;generalize (⟨n.file.toArray⟩:ByteArray)=fx,(⟨n.c.word.toArray⟩:ByteArray)=wx0,n.c.kind=ck,n.c.n=cn,n.how=hw at *;have hbx:Bq w (w.alloc (.cells #[.int .i64 2,.string fx,.int .i64 ck,.string wx0,.int .i64 cn,.int .i64 hw,.int .i64 (p:Int),.slice ai ni ci] 57)).drew:=g9.drew;have HBX:Hid _:=hbx;have HS:Hid _:=bq9 (.slice au b0.length cu) b0 p (w.alloc (.cells #[.int .i64 2,.string fx,.int .i64 ck,.string wx0,.int .i64 cn,.int .i64 hw,.int .i64 (p:Int),.slice ai ni ci] 57)).drew (hru.below hbx) (M4 hsh hbx) hb0 hp1 hp5;have Ge:(w.alloc (.cells #[.int .i64 2,.string fx,.int .i64 ck,.string wx0,.int .i64 cn,.int .i64 hw,.int .i64 (p:Int),.slice ai ni ci] 57)).cell? ⟨vb,vo,none⟩=some (.slice au b0.length cu):=qC g9 Ac;simp only[ql,xI,qk,zo,zE]at hru hv1 ⊢;generalize b0.length=bl at *;clear hv hru hbx Ac hsh;go_enter func51,ntmps51;go_upto_region 5 with fail
 go_region_with (first
  | (go_at_call 82;refine qD HS.o ?_;rintro e w2⟨r2,rfl,R2,B2⟩))
 all_goals
  have HB2:=qT HBX B2;have HR2:Hid (RNew w.heap.size w2 r2 ((List.range p).map (partOf b0 p))):=R2.mono HBX.o.size;clear R2 B2 HS;go_wp2_with fail;go_ret;exact⟨_,rfl,HR2.o,HB2.o⟩
theorem cd1(n:SNode)(ai ao:Option Addr)(ni ci cap N:Nat)(fs:List SFile)(v:Value)(b0:qU)(w:World)(hk:n.kind=3)(hcc:chk n.c=0)(hK:Q9 w)(hv:RList w v U [b0])(hb0:b0.length<=62500000)(hsh:w.ShapedOpen prog):
 Calls prog 51 #[x8 n ai ni ci,.slice ao N cap,v] w fun e w'=>aA8 w (j6 n fs [b0]) e w':=by
 rw[aw6 hk];have hel:=E8 b0;have hll:=E6 b0;obtain⟨av,cv,rfl,hv1,hv2⟩:=hv.shape;obtain⟨vb,vo,au,cu,rfl,Ac,hru⟩:=hv.at (k:=0) (p:=b0) rfl;unfold x8;rw[hk];have hcv:1<=cv:=by simpa using hv1
 unfold maxLen at hv2;have hml:=ah4 n.c hcc (lines b0) qO;have HMD:Hid _:=fun(W:World)(hb:Bq w W)(r:Value)(hr:Reads W r (lines b0).length ((lines b0).map S))=>aO1 n.c hcc r (lines b0) W hr qO (fun s hs=>by have:=ao5 hs;omega) (M4 hsh hb) (hK.below hb);simp only[ql,xI,qk,zo,zE]at hru hv1 ⊢;generalize made n.c (lines b0)=M at *;unfold Cmd.v at HMD;generalize (⟨n.file.toArray⟩:ByteArray)=fx,(⟨n.c.word.toArray⟩:ByteArray)=wx0,n.c.kind=ck,n.c.n=cn,n.how=hw,n.wide=wd at *;have hbx:Bq w (w.alloc (.cells #[.int .i64 3,.string fx,.int .i64 ck,.string wx0,.int .i64 cn,.int .i64 hw,.int .i64 wd,.slice ai ni ci] 57)).drew:=g9.drew;have HBX:Hid _:=hbx;have h8:J4 (w.alloc (.cells #[.int .i64 3,.string fx,.int .i64 ck,.string wx0,.int .i64 cn,.int .i64 hw,.int .i64 wd,.slice ai ni ci] 57)).drew w.heap.size (.int .i64 3) (.string fx) (.int .i64 ck) (.string wx0) (.int .i64 cn) (.int .i64 hw) (.int .i64 wd) (.slice ai ni ci):=U5 (Below.refl _ _).drew;have HA:Hid _:=bO9 (.slice au b0.length cu) b0 (hru.below hbx) (M4 hsh hbx) qO h8;have Ge:(w.alloc (.cells #[.int .i64 3,.string fx,.int .i64 ck,.string wx0,.int .i64 cn,.int .i64 hw,.int .i64 wd,.slice ai ni ci] 57)).cell? ⟨vb,vo,none⟩=some (.slice au b0.length cu):=qC g9 Ac;have hM9:(ended M).length<=225000000:=qO;obtain⟨L4,hL4⟩:=qE ((ended M).length);have HL4:=qH hL4;generalize b0.length=bl at *;clear hv hru hbx h8 Ac hK hcc hsh hL4;go_enter func51,ntmps51;go_upto_region 7 with fail
 go_region_with (first
  | (go_at_call 56;refine qD HA.o ?_;rintro e w2⟨r2,rfl,O2,B2,y0,y1,y2,y3,y4,y5,y6,y7⟩)
  | (go_at_call 55;refine (HMD.o w2 (HBX.o.trans (B2.o.mono HBX.o.size)) r2 O2.o).mono ?_;rintro e w3⟨r3,rfl,R3,B3⟩;have HB3:Hid (Bq w w3):=HBX.o.trans ((qT B2 B3).out.mono HBX.o.size);have HR3:Hid _:=R3;clear R3 B3)
  | (go_at_call 54;refine (aZ1 r3 M w3 L4 HL4.o HR3.o hM9).mono ?_;rintro e w4⟨a4,c4,rfl,R4,B4,N4⟩;have HB4:Hid (Bq w w4):=HB3.o.trans (B4.o.mono HB3.o.size);have HN4:Hid (Y0 w.heap.size (.slice a4 L4 c4)):=Y0.mono N4.o HB3.o.size;clear B4 N4))
 all_goals
  go_wp2_with fail;go_ret;exact aD6 HB4.o R4.o HN4.o
theorem cd2(n:SNode)(ai ao:Option Addr)(ni ci cap N:Nat)(fs:List SFile)(v:Value)(ins:qL)(w:World)(hk:n.kind=4)(hj:jchk n.how n.c=0)(hv:RList w v U ins)(hn5:ins.length<=5)(hT:ins.flatten.length<=62500000)(hE:q8 w)(hsh:w.ShapedOpen prog):
 Calls prog 51 #[x8 n ai ni ci,.slice ao N cap,v] w fun e w'=>aA8 w (j6 n fs ins) e w':=by rw[aY4 hk];obtain⟨av,cv,rfl,hv1,hv2⟩:=hv.shape;have HJ:Hid _:=fun(W:World)(hb:Bq w W)=>bB2 n.how n.c av cv ins W hj (hv.below hb) hn5 hT (hE.below hb) (M4 hsh hb);unfold x8;rw[hk];unfold Cmd.v at HJ;generalize joined n.how n.c (ins.map lines)=M,(⟨n.file.toArray⟩:ByteArray)=fx,(⟨n.c.word.toArray⟩:ByteArray)=wx0,n.c.kind=ck,n.c.n=cn at *;generalize n.how=hw,n.wide=wd,ins.length=NI at *;clear hv hE hsh hj hT;go_enter func51,ntmps51;go_wp2_with fail;refine qD (HJ.o _ g9) ?_;rintro e w1⟨r1,rfl,hr1,hb1,hn1⟩;have HB1:Hid (Bq w w1):=g9.trans (hb1.mono (by simp));have HR1:=qH hr1;have HN1:Hid (Y0 w.heap.size r1):=Y0.mono hn1 (by simp);obtain⟨a2,c2,rfl,_,_⟩:=hr1.shape;obtain⟨l4,hl4⟩:=qE ((ended M).length);rw[<- hl4];clear hr1 hb1 hn1 HJ;go_wp2_with fail;go_ret;subst hl4;exact aD6 HB1.o HR1.o HN1.o
theorem cd3(n:SNode)(ai ao:Option Addr)(ni ci cap NF:Nat)(fs:List SFile)(v:Value)(ins:qL)(w:World)(h5:n.kind=5):
 Calls prog 51 #[x8 n ai ni ci,.slice ao NF cap,v] w fun e w'=>aA8 w (j6 n fs ins) e w':=by have HM:=qH (show j6 n fs ins=[] by unfold j6;simp[h5]);unfold x8;rw[HM.o,h5];go_enter func51,ntmps51;go_wp2_with fail;go_ret;exact⟨_,rfl,⟨bq8 _ _ _,[],⟨rfl,none,0,rfl,qA _,by simp[maxLen],fun h=>absurd rfl h⟩,fun j q hj=>(by simp at hj)⟩,g9⟩
theorem ch2(n:SNode)(ai ao:Option Addr)(ci cap:Nat)(fs:List SFile)(v:Value)(ins:qL)(w:World)(Ax:q9 n=0)(h5:n.kind≠5)(hv:RList w v U ins)(hi:ins.length=n.ins.length)(hT:ins.flatten.length<=60300000)(hf:o8 w (.slice ao fs.length cap) fs)(hfc:∀f∈fs,f.b.length<=4000)(hE:q8 w)(hsh:w.ShapedOpen prog):
 Calls prog 51 #[x8 n ai n.ins.length ci,.slice ao fs.length cap,v] w fun e w'=>aA8 w (j6 n fs ins) e w':=by
 obtain⟨h1,h2,_⟩:=L2 Ax;obtain⟨r1,r2⟩:=A1 Ax;have one:n.ins.length=1->∃b0,ins=[b0]:=by
  intro h;rw[h]at hi
  match ins,hi with
  | [b0],_=>exact⟨b0,rfl⟩
 rcases N9 h1 with⟨h3 | h3,_⟩|⟨h3,h4,h5⟩|⟨h3,h4⟩|⟨h3,h4⟩
 . exact bP0 n ai ao _ ci cap fs v ins w h3 hv hf hfc hsh
 . exact absurd h3 h5
 . obtain⟨b0,rfl⟩:=one (r2 (.inl h3));exact bY0 n ai ao _ ci cap _ fs v b0 w h3 h4 h5 hv (by simp at hT;omega) hsh
 . obtain⟨b0,rfl⟩:=one (r2 (.inr (.inl h3)));exact cd1 n ai ao _ ci cap _ fs v b0 w h3 h4 hE.1 hv (by simp at hT;omega) hsh
 . exact cd2 n ai ao _ ci cap _ fs v ins w h3 h4 hv qO qO hE hsh
theorem cf7(n:SNode)(ai ao:Option Addr)(ci cap:Nat)(fs:List SFile)(v:Value)(ins:qL)(w:World)(Ax:q9 n=0)(hv:RList w v U ins)(hi:ins.length=n.ins.length)(hT:ins.flatten.length<=60300000)(hf:o8 w (.slice ao fs.length cap) fs)(hfc:∀f∈fs,f.b.length<=4000)(hE:q8 w)(hsh:w.ShapedOpen prog):
 Calls prog 51 #[x8 n ai n.ins.length ci,.slice ao fs.length cap,v] w fun e w'=>aA8 w (j6 n fs ins) e w':=by
 by_cases h5:n.kind=5
 . exact cd3 n ai ao _ ci cap _ fs v ins w h5
 . exact ch2 n ai ao ci cap fs v ins w Ax h5 hv hi hT hf hfc hE hsh
open Go.Maps
theorem RMem.setGv(h:RMem w D r O A d)(hp:d.M.ps[i]?=some p)(hs:d.P[i]?=some s)(hv:d.vP=.slice (some ⟨g,0,none⟩) d.M.ps.length c)(hg:O g=some .procs)(hC:CL w D O (.gots i) (Own.got i) gv gs got):
 RMem (w.setCell ⟨g,i*5,none⟩ gv) D r O A (d.setProc i ⟨got,p.pos,p.out,p.rd,p.ov⟩ ⟨gv,s.ov,gs,s.os⟩):=by
 have hil:i<d.M.ps.length:=(gSm hp).1;have Az:∀o k,O k=some o->o≠.procs->(w.setCell ⟨g,i*5,none⟩ gv).heap[k]?=w.heap[k]?:=fun o k hk hn=>Below.heap_setCell _ _ _ _ (fun e=>hn (by rw[e,hg]at hk;injection hk with hk;exact hk.symm));have hP:∀(j:Nat)(q:SProc)(t:PSlot),(d.M.ps.set i ⟨got,p.pos,p.out,p.rd,p.ov⟩)[j]?=some q->(d.P.set i ⟨gv,s.ov,gs,s.os⟩)[j]?=some t->(i=j/\q=⟨got,p.pos,p.out,p.rd,p.ov⟩/\t=⟨gv,s.ov,gs,s.os⟩)\/(i≠j/\d.M.ps[j]?=some q/\d.P[j]?=some t):=fun j q t hq ht=>by
  by_cases e:i=j
  . subst e;rw[j8 hp]at hq;rw[j8 hs]at ht;injection hq with hq;injection ht with ht;exact .inl ⟨rfl,hq.symm,ht.symm⟩
  . rw[D6 e]at hq ht;exact .inr ⟨e,hq,ht⟩
 refine h.upd (o:=.procs) ((Touch.refl O .procs w).set hg) (fun _ _=>rfl) (ai9 h (by simp)) rfl rfl rfl rfl h.xlen (by simpa[RD.setProc,SMach.setP]using h.plen) (am1 h hC.len (h.slen i p s hp hs).2) ?_ ?_
 .
  intro o' ho' hpt
  cases o' using Own.elimE with
  | procs=>exact absurd rfl ho'
  | gots j=>
   intro q t hq ht;rcases hP j q t hq ht with⟨rfl,rfl,rfl⟩|⟨_,h1,h2⟩
   . exact⟨hC.own,hC.ob⟩
   . exact hpt q t h1 h2
  | outs j=>
   intro q t hq ht;rcases hP j q t hq ht with⟨rfl,rfl,rfl⟩|⟨_,h1,h2⟩
   . exact hpt p s hp hs
   . exact hpt q t h1 h2
  | got j k=>
   intro q t b a hq ht hb ha;rcases hP j q t hq ht with⟨rfl,rfl,rfl⟩|⟨_,h1,h2⟩
   . exact hC.bys k b a hb ha
   . exact hpt q t b a h1 h2 hb ha
  | out j k=>
   intro q t b a hq ht hb ha;rcases hP j q t hq ht with⟨rfl,rfl,rfl⟩|⟨_,h1,h2⟩
   . exact hpt p s b a hp hs hb ha
   . exact hpt q t b a h1 h2 hb ha
  | box=>exact hpt
  | pipes=>exact hpt
  | pipe q=>exact hpt
  | sunk=>exact hpt
  | aux=>exact hpt
 .
  obtain⟨h1,h2⟩:=h.part .procs;refine⟨?_,h2⟩;have hr0:(l9 d.M.ps d.P)[i]?=some (F7 p s):=Z2 hp hs;rw[hv]at h1;have k0:=O6 h1 (i*5) qO gv;have f0:=aa7 _ i _ (J3 d.M.ps d.P) hr0 0 gv qO;rw[Nat.add_zero]at f0;have e0:(F7 p s).set 0 gv=F7 ⟨got,p.pos,p.out,p.rd,p.ov⟩ ⟨gv,s.ov,gs,s.os⟩:=rfl;rw[f0,e0]at k0;have e1:(l9 d.M.ps d.P).set i (F7 ⟨got,p.pos,p.out,p.rd,p.ov⟩ ⟨gv,s.ov,gs,s.os⟩)=l9 (d.M.ps.set i ⟨got,p.pos,p.out,p.rd,p.ov⟩) (d.P.set i ⟨gv,s.ov,gs,s.os⟩):=by unfold l9;rw[<- ae3]
  rw[e1]at k0;have hlen:(d.setProc i ⟨got,p.pos,p.out,p.rd,p.ov⟩ ⟨gv,s.ov,gs,s.os⟩).M.ps.length=d.M.ps.length:=by simp[RD.setProc,SMach.setP]
  show World.ownsRow _ D 64 5 d.vP (d.setProc i ⟨got,p.pos,p.out,p.rd,p.ov⟩ ⟨gv,s.ov,gs,s.os⟩).M.ps.length _;rw[hlen,hv];exact k0
theorem RMem.clearGv(h:RMem w D r O A d)(hp:d.M.ps[i]?=some p)(hs:d.P[i]?=some s)(hv:d.vP=.slice (some ⟨g,0,none⟩) d.M.ps.length c)(hg:O g=some .procs)(hGL:GL=p.got.length)(hG5:GL<=5):
 ∃O' d',RMem ((w.alloc (.cells (madeCells #[Value.slice none 0 0] GL) 28)).setCell ⟨g,i*5,none⟩ (.slice (some ⟨w.heap.size,0,none⟩) GL GL)) D r O' A d'/\d'.vM=d.vM/\d'.M=d.M.setP i ⟨p.got.map (fun _=>[]),p.pos,p.out,p.rd,p.ov⟩/\∀k,k<w.heap.size->O' k=O k:=by
 have hb:Bq w (w.alloc (.cells (madeCells #[Value.slice none 0 0] GL) 28)):=boxE;have hf:=h.fresh hb (.gots i);have hle:=h.le;have hgl:g<w.heap.size:=(h.lo g _ hg).2;have Bi:addO O w (w.alloc (.cells (madeCells #[Value.slice none 0 0] GL) 28)) (.gots i) w.heap.size=some (.gots i):=by unfold addO;rw[qF ⟨qA _,by simp⟩]
 have e:(madeCells #[Value.slice none 0 0] GL).toList=List.replicate GL (.slice none 0 0):=xK _ _;have hl:(madeCells #[Value.slice none 0 0] GL).size=GL:=by rw[<- zF,e];simp
 have Dv:p.got.map (fun _=>([]:qU))=List.replicate GL []:=by rw[List.map_const',hGL]
 refine⟨_,_,hf.setGv (gv:=.slice (some ⟨w.heap.size,0,none⟩) GL GL) (got:=List.replicate GL []) (gs:=List.replicate GL nilS) hp hs hv ((J0 hgl).trans hg) ⟨?_,fun g' hg'=>?_,by simp,fun j b a hb ha=>?_⟩,rfl,by rw[Dv];rfl,fun k hk=>J0 hk⟩
 . rw[aV2,zz];exact⟨by simp,.inr ⟨w.heap.size,GL,_,rfl,hle,qJ _ _,qA _,by unfold maxLen;omega,qO,by rw[e,qP (by simp)]⟩⟩
 . have e2:w.heap.size=g':=by injection hg'
   rw[<- e2];exact Bi
 . rw[(List.mem_replicate.1 (mGt hb)).2,(List.mem_replicate.1 (mGt ha)).2];exact SOf.nil _ _ _
theorem RMem.addOut(h:RMem w D r O A d)(hp:d.M.ps[i]?=some p)(hs:d.P[i]?=some s)(hb:p.out[k]?=some b)(hv:s.ov=.slice (some ⟨g,0,none⟩) p.out.length c)(hg:O g=some (.outs i))(ho:w1.ownsRow w.heap.size 5 1 v x.length (x.map U))(hb1:Bq w w1):
 ∃O' s2,RMem (w1.setCell ⟨g,k,none⟩ v) D r O' A (d.setProc i (p.setOut k x) (s.outSet k s2))/\KeptO O O' w (w1.setCell ⟨g,k,none⟩ v):=by
 obtain⟨s2,rfl,hso,_⟩:=SOf.of_owns (O:=addO O w w1 (.out i k)) (o:=.out i k) ho (fun g' hg'=>by
  have:=ho.lt g' hg'
  unfold addO
  rw[qF ⟨this.1,this.2⟩])
 have hg':addO O w w1 (.out i k) g=some (.outs i):=(J0 (h.lo g _ hg).2).trans hg;exact⟨_,s2,(h.fresh hb1 (.out i k)).setOut hp hs hb hv hg' hso,(KeptO.of_below hb1 (fun k hk=>J0 hk)).set hg'⟩
theorem RMem.addGot(h:RMem w D r O A d)(hp:d.M.ps[i]?=some p)(hs:d.P[i]?=some s)(hb:p.got[k]?=some b)(hv:s.gv=.slice (some ⟨g,0,none⟩) p.got.length c)(hg:O g=some (.gots i))(ho:w1.ownsRow w.heap.size 5 1 v x.length (x.map U))(hb1:Bq w w1):
 ∃O' s2,RMem (w1.setCell ⟨g,k,none⟩ v) D r O' A (d.setProc i (SProc.gotSet p k x) (s.gotSet k s2))/\KeptO O O' w (w1.setCell ⟨g,k,none⟩ v):=by
 obtain⟨s2,rfl,hso,_⟩:=SOf.of_owns (O:=addO O w w1 (.got i k)) (o:=.got i k) ho (fun g' hg'=>by
  have:=ho.lt g' hg'
  unfold addO
  rw[qF ⟨this.1,this.2⟩])
 have hg':addO O w w1 (.got i k) g=some (.gots i):=(J0 (h.lo g _ hg).2).trans hg;exact⟨_,s2,(h.fresh hb1 (.got i k)).setGot hp hs hb hv hg' hso,(KeptO.of_below hb1 (fun k hk=>J0 hk)).set hg'⟩
theorem RMem.addSunk(h:RMem w D r O A d)(ho:w1.ownsRow w.heap.size 5 1 v x.length (x.map U))(hb1:Bq w w1):
 ∃O' s2,RMem (w1.setCell ⟨r,4,none⟩ v) D r O' A (d.setSunk x s2)/\KeptO O O' w (w1.setCell ⟨r,4,none⟩ v):=by
 obtain⟨s2,rfl,hso,_⟩:=SOf.of_owns (O:=addO O w w1 .sunk) (o:=.sunk) ho (fun g' hg'=>by
  have:=ho.lt g' hg'
  unfold addO
  rw[qF ⟨this.1,this.2⟩])
 have hg':addO O w w1 .sunk r=some .box:=(J0 (h.lo r _ h.boxO).2).trans h.boxO;exact⟨_,s2,(h.fresh hb1 .sunk).setSunk hso,(KeptO.of_below hb1 (fun k hk=>J0 hk)).set hg'⟩
structure FullB (w:World) (O:qW) (n:SNode) (ai:Option Addr) (ci i r gP bp bn bm ba:Nat):Prop where
 p:w.heap[bp]?=some (.cells #[.pointer (some ⟨gP,i*5,none⟩)] 101 (0,0))/\O bp=none
 n:w.heap[bn]?=some (.cells #[.int .i64 n.kind,.string ⟨n.file.toArray⟩,.int .i64 n.c.kind,.string ⟨n.c.word.toArray⟩,.int .i64 n.c.n,.int .i64 n.how,.int .i64 n.wide,.slice ai n.ins.length ci] 57 (0,0))/\O bn=none
 m:w.heap[bm]?=some (.cells #[.pointer (some ⟨r,0,none⟩)] 43 (0,0))/\O bm=none
 a:w.heap[ba]?=some (.cells #[.func (.func 49) #[] #[]] 103 (0,0))/\O ba=none
theorem FullB.keep(h:FullB w O n ai ci i r gP bp bn bm ba)(hk:KeptO O O' w w'):FullB w' O' n ai ci i r gP bp bn bm ba:=by
 have key:∀(b:Nat)(o:Obj),w.heap[b]?=some o/\O b=none->w'.heap[b]?=some o/\O' b=none:=fun b o hb=>by have hl:=(aSm hb.1).1;exact⟨(hk.block b hl hb.2).trans hb.1,(hk.old b hl).trans hb.2⟩
 exact⟨key _ _ h.p,key _ _ h.n,key _ _ h.m,key _ _ h.a⟩
theorem ap7{n:Nat}(h:Reads w (.slice ao n cap) n xs)(hk:∀a,ao=some a->a.block<w.heap.size->w'.heap[a.block]?=w.heap[a.block]?):Reads w' (.slice ao n cap) n xs:=by obtain⟨h1,ao',cap',e,h2,h3,h4⟩:=h;injection e with e1 e2 e3;subst e1 e3;refine⟨h1,ao,cap,rfl,h2,h3,fun hn=>?_⟩;obtain⟨b,off,rfl,hc⟩:=h4 hn;refine⟨b,off,rfl,fun j u hu=>?_⟩;have hq:=hc j u hu;have hl:b<w.heap.size:=bLt w _ hq;have e:=hk _ rfl hl;simp only[World.cell?]at hq ⊢;rw[e];exact hq
def bG1(A:World->qW->Prop)(D r:Nat)(O:qW)(d:RD)(i:Nat)(p:SProc)(s:PSlot)(GM:qL)(wc:World)(k:Nat)(wr:World):Prop:=
 ∃Ok dk sk,RMem wr D r Ok A dk/\dk.vM=.bool true/\dk.M=d.M.setP i ⟨p.got,p.pos,D3 p.out GM k,true,p.ov⟩/\dk.vP=d.vP/\dk.P[i]?=some sk/\sk.ov=s.ov/\sk.gv=s.gv/\KeptO O Ok wc wr
theorem bY1(A:World->qW->Prop)(D r:Nat)(O:qW)(d:RD)(i:Nat)(n:SNode)(p:SProc)(ai:Option Addr)(ci gP cP bp bn bm ba:Nat)(w:World)(h:RMem w D r O A d)(hv:d.vM=.bool true)(hS:ShapeG d.M)(hn:d.M.ns[i]?=some n)(hp:d.M.ps[i]?=some p)(hT:p.got.flatten.length<=60300000)(hsm:∀b∈p.out,b.length<=1000000000)(hE:∀W,Below D w W->q8 W/\W.ShapedOpen prog)(Vz:(p.out.length:Int)=nouts n)(Jf:p.got.length=n.ins.length)
 (hvP:d.vP=.slice (some ⟨gP,0,none⟩) d.M.ps.length cP) (hB:FullB w O n ai ci i r gP bp bn bm ba):
 Calls prog 50 #[.pointer (some ⟨bp,0,none⟩),.pointer (some ⟨bn,0,none⟩),.pointer (some ⟨bm,0,none⟩),.pointer (some ⟨ba,0,none⟩)] w fun e w'=>e=.returned (.tuple #[])/\∃O',RefA A w' D r O' (d.M.setP i (D2 n d.M.fs p))/\KeptO O O' w w':=by
 have hch:=hS.g.node n (mGt hn);obtain⟨iL,hiL,hiL0,hiL1,hiL2⟩:=info_parts ah6;obtain⟨gP',cP',s,Ci,Db,Dw,hgP,hOP,hs,p0,p1,p2,p3,p4,hfP,hGo,hOo,hgl,hol⟩:=h.procAt hp;rw[hvP]at Ci;injection Ci with e1 _ e3;injection e1 with e1;injection e1 with e1;subst e1 e3;obtain⟨⟨ao,co,hov,Ej,Bn⟩,_⟩:=g8 hOo;obtain⟨⟨ag,cg,hgv,Jx,Jy⟩,_⟩:=g8 hGo;obtain⟨hRN,hRF⟩:=h.nodes;obtain⟨af,cf,hvF,Rn,Ro⟩:=hRF.shape;rw[hvF]at hRF;have hne:∀b,O b=none->b≠gP:=fun b hb e=>by rw[e,hOP]at hb;cases hb
 obtain⟨W0,hW0⟩:=qE (w.setCell ⟨gP,i*5+3,none⟩ (.bool true));have h1:RMem W0 D r O A (d.setProc i ⟨p.got,p.pos,p.out,true,p.ov⟩ s):=by rw[hW0];exact h.setNum hp hs hvP hOP qO rfl rfl rfl
 have hk0:KeptO O O w W0:=by rw[hW0];exact (KeptO.refl O w).set hOP
 have hB0:=hB.keep hk0;have hDw:Below D w W0:=hk0.below h.lo h.le;have hNM:∀W,Bq W0 W->Calls prog 51 #[x8 n ai n.ins.length ci,.slice af d.M.fs.length cf,s.gv] W fun e w'=>aA8 W (j6 n d.M.fs p.got) e w':=fun W hW=>by have hE':=hE W (hDw.trans (hW.mono h1.le));have hp1:(d.setProc i ⟨p.got,p.pos,p.out,true,p.ov⟩ s).M.ps[i]?=some ⟨p.got,p.pos,p.out,true,p.ov⟩:=j8 hp;have hs1:(d.setProc i ⟨p.got,p.pos,p.out,true,p.ov⟩ s).P[i]?=some s:=j8 hs;exact cf7 n ai af ci cf d.M.fs s.gv p.got W hch ((h1.gots hp1 hs1).below hW) Jf hT ((by have h2:=h1.nodes.2;rw[show (d.setProc i ⟨p.got,p.pos,p.out,true,p.ov⟩ s).vF=d.vF from rfl,hvF]at h2;exact h2:o8 W0 (.slice af d.M.fs.length cf) d.M.fs).below hW) (fun f hf=>(U2 (S7 hS.fok).2 f hf).2) hE'.1 hE'.2
 have hGl:p.out.length=(j6 n d.M.fs p.got).length:=by have:=Q5 hch d.M.fs p.got;omega
 have hGb:∀c∈j6 n d.M.fs p.got,c.length<=75000000:=by intro c hc;have:=aj2 hch d.M.fs (fun f hf=>(U2 (S7 hS.fok).2 f hf).2) p.got Jf qO;have:=A3 hc;omega
 have hG5:p.got.length<=5:=by rw[Jf];exact (A1 hch).1
 have hO5:p.out.length<=5:=by have:=aw8 hch;omega
 have HFP:=qH (show D2 n d.M.fs p=⟨p.got.map (fun _=>[]),p.pos,List.zipWith (· ++ ·) p.out (j6 n d.M.fs p.got),true,p.ov⟩ from rfl);rw[hgv]at p0 hNM;rw[hov]at p2;have HNM:Hid _:=hNM;obtain⟨GM,hG⟩:=qE (j6 n d.M.fs p.got);rw[<- hG]at HNM hGl hGb HFP;have HGL:=qH hGl;have HGB:=qH hGb;have HSM:=qH hsm;have HP:=qH hp;have HSl:=qH hs;have HVP:=qH hvP;have HOV:=qH hov;have HGV:=qH hgv;have HVM:=qH hv;have HOP:=qH hOP
 have HLO:Hid (∀j,w.heap.size<=j->O j=none):=(show ∀j,w.heap.size<=j->O j=none from fun j hj=>by
  cases hOj:O j with
  | none=>rfl
  | some o=>exact absurd (h.lo j o hOj).2 qO)
 have HW0:Hid (RMem W0 D r O A (d.setProc i ⟨p.got,p.pos,p.out,true,p.ov⟩ s)/\KeptO O O w W0/\FullB W0 O n ai ci i r gP bp bn bm ba):=⟨h1,hk0,hB0⟩;have xp:=qY _ _ 0 _ _ _ hB.p.1;simp only[xX,qq]at xp;have hf3:=hfP (i*5+3);have Yx:cP<=9223372036854775807:=Dw;have yp:=qY _ _ 0 _ _ _ hB0.p.1;have ym:=qY _ _ 0 _ _ _ hB0.m.1;simp only[xX,qq]at yp ym;obtain⟨yn0,yn1,yn2,yn3,yn4,yn5,yn6,yn7⟩:=D8 hB0.n.1;have hbx:=h1.boxM (b:=true) hv;obtain⟨_,yf,_⟩:=i8 hbx;have yf':W0.cell? ⟨r,1,none⟩=some (.slice af d.M.fs.length cf):=by rw[<- hvF];exact yf
 have yg:W0.cell? ⟨gP,i*5,none⟩=some (.slice ag p.got.length cg):=by rw[hW0];exact (World.cell?_setCell_other _ _ _ _ (by intro e;injection e with _ e;omega)).trans p0
 unfold x8 at HNM;have HN5:=qH hch;obtain⟨GL,hGL⟩:=qE p.got.length;obtain⟨OL,hOL⟩:=qE p.out.length;obtain⟨NF,hNF⟩:=qE d.M.fs.length;have HGLn:=qH hGL;have HOL:=qH hOL;rw[<- hGL]at yg HNM hG5;rw[<- hOL]at hO5;rw[<- hNF]at yf' HNM
 have HNM2:=qH (show ∀W,Bq W0 W->Calls prog 51 #[.agg #[.int .i64 n.kind,.string ⟨n.file.toArray⟩,.int .i64 n.c.kind,.string ⟨n.c.word.toArray⟩,.int .i64 n.c.n,.int .i64 n.how,.int .i64 n.wide,.slice ai n.ins.length ci],.slice af NF cf,.slice ag GL cg] W fun e w'=>∃ar cr,e=.returned (.slice ar OL cr)/\(∀b j u,W0.cell? ⟨b,j,none⟩=some u->w'.cell? ⟨b,j,none⟩=some u)/\OL<=cr/\cr<=9223372036854775807/\Hid (RNew W0.heap.size w' (.slice ar GM.length cr) GM/\Bq W0 w') from fun W hW=>(HNM.o W hW).mono (by
  rintro e w'⟨r2,rfl,m1,m2⟩
  obtain⟨ar,cr,rfl,hc1,hc2⟩:=m1.list.shape
  have hb:=hW.trans (m2.mono hW.size)
  exact⟨ar,cr,by rw[hOL,HGL.o],fun b j u hu=>qC hb hu,by rw[hOL,HGL.o];exact hc1,by unfold maxLen at hc2;exact hc2,⟨m1.mono hW.size,hb⟩⟩))
 have HBB:=qH hB0;clear h hS hn hp hs hvP hov hgv hsm hE Vz hGo hOo hgl hol hRN hRF hNM hG hGl hGb hch hT Jf hB hk0 h1 hB0 hbx yf p0 p1 p2 p4 Ej Bn Jx Jy Rn Ro hvF hfP hDw hne hOP hv hGL hOL hNF Dw;generalize (⟨n.file.toArray⟩:ByteArray)=fx,(⟨n.c.word.toArray⟩:ByteArray)=wx0,n.c.kind=ck,n.c.n=cn',n.how=hw,n.wide=wd,n.kind=nk,n.ins.length=IL at *;go_enter func50,ntmps50;go_upto_region 1 with fail;rw[<- hW0];clear hW0 xp p3 hf3;go_cut [18,19,20] (fun x y z wx=>∃ar cr,x=.slice ar OL cr/\y=.int .i64 OL/\z=.int .i64 0/\OL<=cr/\cr<=9223372036854775807/\Hid (RNew W0.heap.size wx (.slice ar GM.length cr) GM/\Bq W0 wx))
 case first=>
  go_region_held3 (fun W=>W.cell? ⟨bp,0,none⟩=some (.pointer (some ⟨gP,i*5,none⟩))/\W.cell? ⟨bm,0,none⟩=some (.pointer (some ⟨r,0,none⟩))/\W.cell? ⟨r,1,none⟩=some (.slice af NF cf)/\W.cell? ⟨gP,i*5,none⟩=some (.slice ag GL cg)/\W.cell? ⟨bn,0,none⟩=some (.int .i64 nk)/\W.cell? ⟨bn,1,none⟩=some (.string fx)/\W.cell? ⟨bn,2,none⟩=some (.int .i64 ck)/\W.cell? ⟨bn,3,none⟩=some (.string wx0)/\W.cell? ⟨bn,4,none⟩=some (.int .i64 cn')/\W.cell? ⟨bn,5,none⟩=some (.int .i64 hw)/\W.cell? ⟨bn,6,none⟩=some (.int .i64 wd)/\W.cell? ⟨bn,7,none⟩=some (.slice ai IL ci)) (go_keep) (first|(go_at_call 51;refine qD (HNM2.o _ ?_) ?_;(repeat (first|exact Below.refl _ _ | refine Below.drew ?_));rintro e w2⟨ar,cr,rfl,hcl,Jz,Jg,hU⟩;have v0:=hcl _ _ _ yp;have v1:=hcl _ _ _ ym;have v2:=hcl _ _ _ yf';have v3:=hcl _ _ _ yg;have v4:=hcl _ _ _ yn0;have v5:=hcl _ _ _ yn1;have v6:=hcl _ _ _ yn2;have v7:=hcl _ _ _ yn3;have v8:=hcl _ _ _ yn4;have v9:=hcl _ _ _ yn5;have v10:=hcl _ _ _ yn6;have v11:=hcl _ _ _ yn7;clear hcl))
  all_goals
   go_wp2_with fail;go_meet;exact⟨ar,cr,rfl,rfl,rfl,Jz,Jg,hU⟩
 case rest=>
  obtain⟨ar,cr,rfl,rfl,rfl,Jz,Jg,hU⟩:=hcut;obtain⟨hW1,hW2,hW3⟩:=HW0.o;have hKc:=KeptO.of_below (O:=O) (O':=O) hU.out.2 (fun _ _=>rfl);have HKW:Hid (KeptO O O w wc):=hW2.trans hKc;have HBc:Hid (FullB wc O n ai ci i r gP bp bn bm ba):=hW3.keep hKc;have HST:=qH (show bG1 A D r O d i p s GM wc 0 wc from ⟨O,_,s,hW1.below hU.out.2,HVM.o,by rw[aF7];rfl,rfl,j8 HSl.o,rfl,rfl,KeptO.refl _ _⟩);have HNO:=qH (show ∀j,W0.heap.size<=j->O j=none from fun j hj=>HLO.o j (by have:=hW2.size;omega));have en:∀args w,(callFunc 49 args).run prog w=.ok (.enter 49 args) w:=enters_of func49 qQ rfl;clear hW1 hW2 hW3 hKc yp ym yn0 yn1 yn2 yn3 yn4 yn5 yn6 yn7 yf' yg HNM HNM2 HW0;go_wp2_with fail;go_loopw [20] (fun z wr=>∃k:Nat,k<=OL/\z=.int .i64 k/\Hid (bG1 A D r O d i p s GM wc k wr)) (fun z _=>OL-(intOf z).toNat)
  case atStart=>exact⟨0,qM _,rfl,HST⟩
  case round=>
   obtain⟨k,hk,rfl,hst⟩:=hrel;clear HST;obtain⟨Ok,dk,sk,hR,ev,eM,eP,eS,eo,eg,hK⟩:=hst.out;have hpk:dk.M.ps[i]?=some ⟨p.got,p.pos,D3 p.out GM k,true,p.ov⟩:=by rw[eM];exact j8 HP.o
   have hlen:dk.M.ps.length=d.M.ps.length:=by rw[eM];simp[SMach.setP]
   have hBk:=HBc.o.keep hK;have hvk:dk.vP=.slice (some ⟨gP,0,none⟩) dk.M.ps.length cP:=by rw[eP,hlen];exact HVP.o
   obtain⟨gP',cP',s',Ci,_,_,_,Ii,hs',q0,q1,q2,q3,q4,Pe,_⟩:=hR.procAt hpk;rw[hvk]at Ci;injection Ci with e1 e2 e3;injection e1 with e1;injection e1 with e1;subst e1 e3;rw[eS]at hs';injection hs' with hs';subst hs';have hok:sk.ov=.slice ao (D3 p.out GM k).length co:=by rw[eo,ad4 HGL.o];exact HOV.o
   rw[hok,ad4 HGL.o,<- HOL.o]at q2;rw[eg,HGV.o,<- HGLn.o]at q0;have xp:=qY _ _ 0 _ _ _ hBk.p.1;have xa:=qY _ _ 0 _ _ _ hBk.a.1;simp only[xX,qq]at xp xa;by_cases hlt:k<OL
   .
    obtain⟨b,hb⟩:∃b,p.out[k]?=some b:=⟨_,gEl (by have:=HOL.o;omega)⟩;obtain⟨c,hc⟩:∃c,GM[k]?=some c:=⟨_,gEl (by have:=HOL.o;have:=HGL.o;omega)⟩;have hbk:(D3 p.out GM k)[k]?=some b:=by rw[aY7 HGL.o (qA _)];exact hb
    obtain⟨rb,roff,rcap,au,cu,er,_,_,Ac,hrd,Bi⟩:=RNew.at hU.out.1 hc;have hrn:=hU.out.1.1;injection er with er1 _ er3;subst er1 er3;have hkn:∀j,W0.heap.size<=j->j<wc.heap.size->wr.heap[j]?=wc.heap[j]?:=fun j h1 h2=>hK.block j h2 (HNO.o j h1);have hcr:wr.cell? ⟨rb,roff+k,none⟩=some (.slice au c.length cu):=by have hl:rb<wc.heap.size:=bLt wc _ Ac;have:=hkn rb (hrn _ _ _ rfl) hl;simp only[World.cell?]at Ac ⊢;rw[this];exact Ac
    have hrdr:Reads wr (.slice au c.length cu) c.length (c.map U):=ap7 hrd (fun a ha hl=>hkn a.block (Bi _ _ _ (by rw[ha])) hl);obtain⟨gO,cO,a,eO,_,_,hgO,hOO,ha,hSa,hcO,hfO⟩:=hR.outAt hpk eS hbk;rw[hok]at eO;injection eO with eO1 eO2 eO3;subst eO1 eO3;obtain⟨CL,hCL⟩:=qE c.length
    have HADD:=qH (show ∀W,Bq wr W->Calls prog 49 #[.pointer (some ⟨gO,k,none⟩),.slice au CL cu] W fun e w'=>e=.returned (.tuple #[])/\w'.cell? ⟨ba,0,none⟩=some (.func (.func 49) #[] #[])/\w'.cell? ⟨bp,0,none⟩=some (.pointer (some ⟨gP,i*5,none⟩))/\w'.cell? ⟨gP,i*5+2,none⟩=some (.slice (some ⟨gO,0,none⟩) OL co)/\Hid (bG1 A D r O d i p s GM wc (k+1) w') from fun W hW=>by
     have hRW:=hR.below hW
     have Iw:=(hW.cell hgO).trans hcO
     have Wg:W.frozen? ⟨gO,k,none⟩=false:=K6 hW hgO (hfO k)
     rw[hCL]
     unfold sl at Iw
     refine (aH9 gO k a.1 au a.2 cu b c W Iw Wg (hSa.reads.below hW) (hrdr.below hW) (by have:=HSM.o b (mGt hb);have:=HGB.o c (mGt hc);omega)).mono ?_
     rintro e w'⟨rfl,w1,v,ho,hb1,rfl⟩
     obtain⟨O',s2,hR',hK'⟩:=hRW.addOut hpk eS hbk hok hOO ho hb1
     have hK2:KeptO O O' wc (w1.setCell ⟨gO,k,none⟩ v):=hK.trans ((KeptO.of_below hW (fun _ _=>rfl)).trans hK')
     have hB2:=HBc.o.keep hK2
     have hp':(dk.setProc i (SProc.setOut ⟨p.got,p.pos,D3 p.out GM k,true,p.ov⟩ k (b++c)) (sk.outSet k s2)).M.ps[i]?=some (SProc.setOut ⟨p.got,p.pos,D3 p.out GM k,true,p.ov⟩ k (b++c)):=j8 hpk
     obtain⟨gQ,cQ,sQ,hvQ,_,_,_,_,hsQ,_,_,t2,_⟩:=hR'.procAt hp'
     have hsQ':(dk.setProc i (SProc.setOut ⟨p.got,p.pos,D3 p.out GM k,true,p.ov⟩ k (b++c)) (sk.outSet k s2)).P[i]?=some (sk.outSet k s2):=j8 eS
     rw[hsQ']at hsQ
     injection hsQ with hsQ
     subst hsQ
     have hvQ':dk.vP=.slice (some ⟨gQ,0,none⟩) _ cQ:=hvQ
     rw[hvk]at hvQ'
     injection hvQ' with f1 _ _
     injection f1 with f1
     injection f1 with f1
     subst f1
     have ya:=qY _ _ 0 _ _ _ hB2.a.1
     have yp:=qY _ _ 0 _ _ _ hB2.p.1
     simp only[xX,qq]at ya yp
     refine⟨rfl,ya,yp,?_,(show bG1 _ _ _ _ _ _ _ _ _ _ _ _ from ⟨O',_,_,hR',ev,?_,eP,j8 eS,eo,eg,hK2⟩)⟩
     . rw[t2]
       show some sk.ov=_
       rw[hok,ad4 HGL.o,<- HOL.o]
     . show dk.M.setP i _=_
       rw[eM]
       unfold SMach.setP SProc.setOut
       simp only[List.set_set]
       rw[aF8 HGL.o hb hc])
    rw[<- hCL]at hcr;clear hst hR ev eM eP eS eo eg hK hpk hlen hBk hvk Ii q0 q1 q3 q4 Pe hok hb hc hbk Ac hrd Bi hrn hkn hrdr hgO hOO ha hSa hcO hfO hCL e2 eO2;go_wp2_with fail;go_region_held3 (fun W=>W.cell? ⟨ba,0,none⟩=some (.func (.func 49) #[] #[])/\W.cell? ⟨bp,0,none⟩=some (.pointer (some ⟨gP,i*5,none⟩))/\W.cell? ⟨gP,i*5+2,none⟩=some (.slice (some ⟨gO,0,none⟩) OL co)) (go_keep) (first|(go_at_fn 49;refine qD (HADD.o _ ?_) ?_;(repeat (first|exact Below.refl _ _ | refine Below.drew ?_));rintro e w2⟨rfl,v0,v1,v2,hF2⟩))
    all_goals
     go_wp2_with fail;go_roundw
     case rel=>exact⟨k+1,qO,by go_num,hF2⟩
     case measure=>simp[intOf];omega
   .
    have ekL:k=OL:=qO;have hfz:=Pe (i*5);have HGPL:Hid (gP<wr.heap.size):=(hR.lo gP _ Ii).2;have hmk:∀(W:World),(Instr.makeSlice 62 (.int .i64 (GL:Int)) (.int .i64 (GL:Int))).run prog W=.ok (.slice (some ⟨W.heap.size,0,none⟩) GL GL) (W.alloc (.cells (madeCells #[Value.slice none 0 0] GL) 28)):=fun W=>by have:=run_makeSlice (P:=prog) W 62 28 iL (.slice none 0 0) underlying62 hiL hiL0 .i64 .i64 (GL:Int) (GL:Int) qO qO (by rw[hiL1];omega) (by rw[hiL2];omega) qO;rw[hiL1,qh,zI]at this;exact this
    have Ao:=qH (show ∀W:World,Bq wr W->W.heap.size=wr.heap.size->∃O',RefA A ((W.alloc (.cells (madeCells #[Value.slice none 0 0] GL) 28)).setCell ⟨gP,i*5,none⟩ (.slice (some ⟨wr.heap.size,0,none⟩) GL GL)) D r O' (d.M.setP i (D2 n d.M.fs p))/\KeptO O O' w ((W.alloc (.cells (madeCells #[Value.slice none 0 0] GL) 28)).setCell ⟨gP,i*5,none⟩ (.slice (some ⟨wr.heap.size,0,none⟩) GL GL)) from fun W hW hs=>by
     obtain⟨O',d',hR',hv',hM',hO'⟩:=(hR.below hW).clearGv hpk eS hvk Ii HGLn.o hG5
     rw[hs]at hR'
     refine⟨O',⟨d',hR',hv'.trans ev,?_⟩,?_⟩
     . rw[hM',eM,HFP.o,ekL,HOL.o,aO9 HGL.o]
       unfold SMach.setP
       simp only[List.set_set]
     . have hbA:Bq W (W.alloc (.cells (madeCells #[Value.slice none 0 0] GL) 28)):=boxE
       have hk1:KeptO Ok O' W (W.alloc (.cells (madeCells #[Value.slice none 0 0] GL) 28)):=KeptO.of_below hbA hO'
       have hgO':O' gP=some .procs:=(hO' gP (by rw[hs];exact (hR.lo gP _ Ii).2)).trans Ii
       exact HKW.o.trans (hK.trans ((KeptO.of_below hW (fun _ _=>rfl)).trans (hk1.set hgO'))))
    clear hst hR ev eM eP eS eo eg hK hpk hlen hBk hvk Ii q1 q2 q3 q4 Pe hok e2 xa HBB;go_wp2_with fail;have k1:=fun o=>((boxE (w:=wr) (o:=o)).cell (bLt wr _ xp)).trans xp;have k2:=fun o=>((boxE (w:=wr) (o:=o)).cell (bLt wr _ q0)).trans q0;have k3:∀o,(wr.alloc o).frozen? ⟨gP,i*5,none⟩=false:=fun o=>K6 boxE (bLt wr _ q0) hfz;go_region
    all_goals
     go_wp2_with fail;refine bodyPost_end (v:=.tuple #[]) (by simp[results,go_sem]) rfl ?_;obtain⟨O',h1,h2⟩:=Ao.o wr (Below.refl _ _) rfl;rw[World.setCell_alloc_past _ _ _ _ HGPL.o]at h1 h2;exact⟨rfl,O',h1.below (Below.refl _ _).drew,h2.trans (KeptO.of_below (Below.refl _ _).drew (fun _ _=>rfl))⟩
theorem bB3(ns:List SNode):K7 ns ns.length++List.replicate (ns.length-ns.length) (Value.int .i64 0)=firsts ns:=by simp[K7,firsts]
theorem bY2(h:RMem w D r O NoG d)(hP:PipesAt w w2 d.M.ns an cn d.M.ns.length (b8 d.M.ns))(hb:Bq w w2):
 ∃O1,RMem w2 D r O1 (AuxF D (.slice (some ⟨w.heap.size+1,0,none⟩) d.M.ns.length d.M.ns.length) (.map (some (w.heap.size+3))) d.M.ns) d/\KeptO O O1 w w2/\O1 (w.heap.size+2)=none:=by
 have hle:=h.le;have hs:=hP.size;have hold:∀k,k<w.heap.size->(if k=w.heap.size+1\/k=w.heap.size+3 then some Own.aux else O k)=O k:=fun k hk=>by rw[qB qO]
 have Lh:O (w.heap.size+2)=none:=by
  cases e:O (w.heap.size+2) with
  | none=>rfl
  | some o=>exact absurd (h.lo _ o e).2 qO
 have h1:=h.grow (O':=fun k=>if k=w.heap.size+1\/k=w.heap.size+3 then some .aux else O k) hb hold (fun g o hg hge=>by
  by_cases e:g=w.heap.size+1\/g=w.heap.size+3
  . omega
  . simp only[qB e]at hg
    exact absurd (h.lo g o hg).2 qO)
 obtain⟨n,hn,hI⟩:=hP.map;rw[aW8]at hI;have Ap:=hP.row;rw[bB3]at Ap;refine⟨_,h1.auxTo (bE0 _ _ _ _) ⟨ad3 Ap hle,fun g hg=>?_,_,n,rfl,hI,by simp⟩,KeptO.of_below hb hold,by rw[qB qO];exact Lh⟩;have e:w.heap.size+1=g:=by injection hg
 rw[<- e];simp
structure StepB (w wx:World) (D r:Nat) (O O1:qW) (d:RD) (n:SNode) (ai:Option Addr) (ci i gP bp bn bm ba b4 mp gI:Nat):Prop where
 mem:RMem wx D r O1 (AuxF D (.slice (some ⟨gI,0,none⟩) d.M.ns.length d.M.ns.length) (.map (some mp)) d.M.ns) d
 kept:KeptO O O1 w wx
 full:FullB wx O1 n ai ci i r gP bp bn bm ba
 box4:wx.heap[b4]?=some (.cells #[.slice (some ⟨gI,0,none⟩) d.M.ns.length d.M.ns.length] 45 (0,0))/\O1 b4=none
theorem StepB.below(h:StepB w wx D r O O1 d n ai ci i gP bp bn bm ba b4 mp gI)(hb:Bq wx w'):StepB w w' D r O O1 d n ai ci i gP bp bn bm ba b4 mp gI:=by have hk:=KeptO.of_below (O:=O1) (O':=O1) hb (fun _ _=>rfl);exact⟨h.mem.below hb,h.kept.trans hk,h.full.keep hk,(hk.block _ (aSm h.box4.1).1 h.box4.2).trans h.box4.1,h.box4.2⟩
theorem StepB.of(h:RMem w2 D r O1 (AuxF D (.slice (some ⟨gI,0,none⟩) d.M.ns.length d.M.ns.length) (.map (some mp)) d.M.ns) d)(hk:KeptO O O1 w w2)(hb:Bq w2 wx)(h4:w2.heap[b4]?=some (.cells #[.slice (some ⟨gI,0,none⟩) d.M.ns.length d.M.ns.length] 45 (0,0))/\O1 b4=none)(hm:w2.heap[bm]?=some (.cells #[.pointer (some ⟨r,0,none⟩)] 43 (0,0))/\O1 bm=none)
 (hp:wx.heap[bp]?=some (.cells #[.pointer (some ⟨gP,i*5,none⟩)] 101 (0,0))/\w2.heap.size<=bp) (hn:wx.heap[bn]?=some (.cells #[.int .i64 n.kind,.string ⟨n.file.toArray⟩,.int .i64 n.c.kind,.string ⟨n.c.word.toArray⟩,.int .i64 n.c.n,.int .i64 n.how,.int .i64 n.wide,.slice ai n.ins.length ci] 57 (0,0))/\w2.heap.size<=bn) (ha:wx.heap[ba]?=some (.cells #[.func (.func 49) #[] #[]] 103 (0,0))/\w2.heap.size<=ba):
 StepB w wx D r O O1 d n ai ci i gP bp bn bm ba b4 mp gI:=by
 have hno:∀j,w2.heap.size<=j->O1 j=none:=fun j hj=>by
  cases e:O1 j with
  | none=>rfl
  | some o=>exact absurd (h.lo j o e).2 qO
 have hk2:=KeptO.of_below (O:=O1) (O':=O1) hb (fun _ _=>rfl);exact⟨h.below hb,hk.trans hk2,⟨⟨hp.1,hno _ hp.2⟩,⟨hn.1,hno _ hn.2⟩,⟨qK hb hm.1,hm.2⟩,⟨ha.1,hno _ ha.2⟩⟩,qK hb h4.1,h4.2⟩
theorem StepB.cells(h:StepB w wx D r O O1 d n ai ci i gP bp bn bm ba b4 mp gI):
 wx.cell? ⟨bp,0,none⟩=some (.pointer (some ⟨gP,i*5,none⟩))/\wx.cell? ⟨bm,0,none⟩=some (.pointer (some ⟨r,0,none⟩))/\wx.cell? ⟨ba,0,none⟩=some (.func (.func 49) #[] #[])/\wx.cell? ⟨b4,0,none⟩=some (.slice (some ⟨gI,0,none⟩) d.M.ns.length d.M.ns.length):=by
 refine⟨?_,?_,?_,?_⟩
 . rw[qY _ _ _ _ _ _ h.full.p.1];rfl
 . rw[qY _ _ _ _ _ _ h.full.m.1];rfl
 . rw[qY _ _ _ _ _ _ h.full.a.1];rfl
 . rw[qY _ _ _ _ _ _ h.box4.1];rfl
theorem StepB.done(h:StepB w wx D r O O1 d n ai ci i gP bp bn bm ba b4 mp gI)(hv:d.vM=.bool true):∃O',RefA NoG wx D r O' d.M/\KeptO O O' w wx:=⟨O1,⟨d,h.mem.auxTo aw1 trivial,hv,rfl⟩,h.kept⟩
theorem RMem.procIn(h:RMem w D r O A d){cP:Nat}(hp:d.M.ps[i]?=some p)(hvP:d.vP=.slice (some ⟨gP,0,none⟩) d.M.ps.length cP)(hs:d.P[i]?=some s):
 w.cell? ⟨gP,i*5,none⟩=some s.gv/\w.cell? ⟨gP,i*5+1,none⟩=some (.int .i64 p.pos)/\w.cell? ⟨gP,i*5+2,none⟩=some s.ov/\w.cell? ⟨gP,i*5+3,none⟩=some (.bool p.rd)/\w.cell? ⟨gP,i*5+4,none⟩=some (.bool p.ov)/\(∀j,w.frozen? ⟨gP,j,none⟩=false)/\O gP=some .procs/\gP<w.heap.size:=by obtain⟨g,c,s',hv',_,_,hg,hO,hs',q0,q1,q2,q3,q4,hf,_⟩:=h.procAt hp;rw[hvP]at hv';injection hv' with e1 _ _;injection e1 with e1;injection e1 with e1;subst e1;rw[hs]at hs';injection hs' with hs';subst hs';exact⟨q0,q1,q2,q3,q4,hf,hO,hg⟩
theorem StepB.look(h:StepB w wx D r O O1 d n ai ci i gP bp bn bm ba b4 mp gI)(hg:RightG d.M.ns)(hn:d.M.ns[i]?=some n)(hk:(k:Int)<nouts n)(hW:Bq wx W):
 (Instr.lookup 69 (.map (some mp)) (.agg #[.int .i64 i,.int .i64 k]) false).run prog W=.ok (.int .i64 (E9 d.M.ns ((i:Int),(k:Int)):Nat)) W:=by obtain⟨_,_,b,m,e,hI,_⟩:=h.mem.part .aux;have e':mp=b:=qd (Value.map.inj e);subst e';have h60:=hg.le60;have hil:=(gSm hn).1;have h5:=aw8 (hg.node n (mGt hn));have h1:=J8.look (w:=W) (hI.keep (hW.block _ hI.lt)) (bE1 (i:=i) (k:=k) qO qO);rw[bk0 (hg.every i k n hn hk)]at h1;exact h1
theorem StepB.first(h:StepB w wx D r O O1 d n ai ci i gP bp bn bm ba b4 mp gI)(hn:d.M.ns[i]?=some n):wx.cell? ⟨gI,i,none⟩=some (.int .i64 (Gs.f9 d.M.ns i:Nat)):=by have hil:=(gSm hn).1;obtain⟨h1,_⟩:=h.mem.part .aux;rw[h1.cellAt i qO];unfold firsts;rw[qa,xd hil];rfl
theorem RMem.wrote(h:RMem w D r O A d){gX cX:Nat}{x x':SPipe}{t s':Sl}(hx:d.M.pipes[q]?=some x)(hvX:d.vX=.slice (some ⟨gX,0,none⟩) d.M.pipes.length cX)(hgX:O gX=some .pipes)(hr:ROf w O (.pipe q) t x'.b)(hp:d.M.ps[i]?=some p)(hs:d.P[i]?=some s)(hb:p.out[k]?=some b)(hv:s.ov=.slice (some ⟨g,0,none⟩) p.out.length c)(hg:O g=some (.outs i))(ha:SOf w O (.out i k) s' y):
 RMem (((((w.setCell ⟨gX,q*4,none⟩ (sl x'.b t)).setCell ⟨gX,q*4+1,none⟩ (.int .i64 x'.room)).setCell ⟨gX,q*4+2,none⟩ (.bool x'.closed)).setCell ⟨gX,q*4+3,none⟩ (.bool x'.shut)).setCell ⟨g,k,none⟩ (sl y s')) D r O A ((d.setPipe q x' t).setProc i (p.setOut k y) (s.outSet k s')):=
 (h.setPipe hx hvX hgX hr).setOut hp hs hb hv hg (ha.keep (fun k' hk'=>by
  have hne:k'≠gX:=fun e=>by subst e;rw[hgX]at hk';cases hk'
  rw[Below.heap_setCell _ _ _ _ hne,Below.heap_setCell _ _ _ _ hne,Below.heap_setCell _ _ _ _ hne,Below.heap_setCell _ _ _ _ hne]) (fun _ _=>rfl))
theorem cd4(h:Reads w' (.slice ar b.length cr) b.length (b.map U))(h0:ar=none->cr=0)(hn:b≠[]->∀a,ar=some a->w.heap.size<=a.block):ROf w' (addO O w w' o) o (ar,cr) b:=by
 refine⟨h,h0,fun hb a ha=>?_⟩;have h1:=hn hb a ha;have h2:a.block<w'.heap.size:=by have e:ar=some a:=ha;rw[e]at h;exact ai1 h (fun e=>hb (qz.1 e))
 unfold addO;rw[qF ⟨h1,h2⟩]
theorem br2{x:SPipe}(h:pchk x=0)(hn:0<(pwrite x b).2.1):(pwrite x b).2.2=0:=by
 unfold pwrite at hn ⊢;split at hn
 . simp at hn
 .
  split at hn
  . simp at hn
  . rename_i h1 h2;rw[qB h1,qB h2];split <;> rfl
theorem bG2(M:SMach)(i:Nat)(a b:SProc):(M.setP i a).setP i b=M.setP i b:=by simp[SMach.setP]
theorem ap8{o n m:Nat}(h:Reads w (.slice (some ⟨g,o,none⟩) n cap) n (bs.map U))(hn:n=bs.length)(hm:m<=n)(h0:n≠0):(cap≠m->Reads w (.slice (some ⟨g,o+m,none⟩) (n-m) (cap-m)) (n-m) ((bs.drop m).map U))/\Reads w (.slice (some ⟨g,o,none⟩) m cap) m ((bs.take m).map U)/\(cap=m->n=m):=by
 obtain⟨h1,ao,cap',e,h2,h3,h4⟩:=h;injection e with e1 e2 e3;subst e3;obtain⟨b,off,e4,hc⟩:=h4 h0;rw[<- e1]at e4;injection e4 with e4;injection e4 with e5 e6;subst e5 e6;refine⟨fun _=>⟨by simp;omega,_,_,rfl,qO,qO,fun _=>⟨g,o+m,rfl,fun j u hu=>?_⟩⟩,⟨by simp;omega,_,_,rfl,qO,h3,fun _=>⟨g,o,rfl,fun j u hu=>?_⟩⟩,fun e=>qO⟩
 . rw[List.map_drop,xu]at hu;rw[zK];exact hc (m+j) u hu
 . rw[List.map_take,xg]at hu;split at hu
   . exact hc j u hu
   . cases hu
theorem bB4(x:SPipe):(pwrite x []).2.1=0:=by
 unfold pwrite;split
 . rfl
 .
  split
  . rfl
  . split
    . rfl
    . simp[pfit]
theorem SOf.rof{s:Sl}(h:SOf w O o s b):ROf w O o s b:=by
 refine⟨h.reads,?_,?_⟩
 . rcases h with⟨rfl,rfl⟩|⟨g,off,cur,hs,_⟩
   . exact fun _=>rfl
   . exact fun e=>by rw[hs]at e;cases e
 .
  rcases h with⟨rfl,rfl⟩|⟨g,off,cur,hs,ho,_⟩
  . exact fun hb=>absurd rfl hb
  . intro _ a ha;rw[hs]at ha
    cases ha;exact ho
theorem RMem.addPipe(h:RMem w D r O A d){x:SPipe}{s:Sl}(hx:d.M.pipes[q]?=some x)(hs:d.X[q]?=some s)(hv:d.vX=.slice (some ⟨g,0,none⟩) d.M.pipes.length c)(hg:O g=some .pipes)(ho:w1.ownsRow w.heap.size 5 1 v y.length (y.map U))(hb1:Bq w w1):
 ∃O' s2,RMem (w1.setCell ⟨g,q*4,none⟩ v) D r O' A (d.setPipe q ⟨y,x.room,x.closed,x.shut⟩ s2)/\KeptO O O' w (w1.setCell ⟨g,q*4,none⟩ v):=by
 obtain⟨s2,rfl,hso,_⟩:=SOf.of_owns (O:=addO O w w1 (.pipe q)) (o:=.pipe q) ho (fun g' hg'=>by
  have:=ho.lt g' hg'
  unfold addO
  rw[qF ⟨this.1,this.2⟩])
 have hg':addO O w w1 (.pipe q) g=some .pipes:=(J0 (h.lo g _ hg).2).trans hg;exact⟨_,s2,(h.fresh hb1 (.pipe q)).setPipeC (k:=0) (x':=⟨y,x.room,x.closed,x.shut⟩) hx hs hv hg' qO rfl hso.rof,(KeptO.of_below hb1 (fun k hk=>J0 hk)).set hg'⟩
theorem StepB.next{wy:World}{O2:qW}{d':RD}(h:StepB w wx D r O O1 d n ai ci i gP bp bn bm ba b4 mp gI)(hm:RMem wy D r O2 (AuxF D (.slice (some ⟨gI,0,none⟩) d.M.ns.length d.M.ns.length) (.map (some mp)) d.M.ns) d')(hns:d'.M.ns=d.M.ns)(hk:KeptO O1 O2 wx wy):StepB w wy D r O O2 d' n ai ci i gP bp bn bm ba b4 mp gI:=by
 have hl:=(aSm h.box4.1).1;refine⟨?_,h.kept.trans hk,h.full.keep hk,?_,(hk.old _ hl).trans h.box4.2⟩
 . rw[hns];exact hm
 . rw[hns];exact (hk.block _ hl h.box4.2).trans h.box4.1
end Go.Proofs.YtmejdflmcikkdaaGreatDoor
namespace Go.Gs
open Go.RowKit
variable {B:qU}{k j:Nat}{c:UInt8}{α:Type}
theorem bP1(l:qU)(c:UInt8):j3 (l++[c])=if c=10 then l.length+1 else j3 l:=by
 unfold j3;rw[List.reverse_append];simp only[List.reverse_cons,List.reverse_nil,zR,List.singleton_append,List.dropWhile_cons];by_cases h:c=10
 . simp[h]
 . simp[h]
theorem aQ2(h:B[k]?=some c):B.take (k+1)=B.take k++[c]:=by rw[qZ,h];rfl
theorem aG0(h:B[k]?=some c):(B.take (k+1)).count 10=if c=10 then (B.take k).count 10+1 else (B.take k).count 10:=by
 rw[aQ2 h,List.count_append];by_cases e:c=10
 . subst e;simp
 . simp[e]
theorem aG1(h:B[k]?=some c):j3 (B.take (k+1))=if c=10 then k+1 else j3 (B.take k):=by have hk:=(gSm h).1;rw[aQ2 h,bP1,qX,zA qO]
theorem bh4(n:SNode)(h:passes n=true):through n []=[]:=by
 unfold through;by_cases h4:n.kind=4
 . rw[qF h4]
 .
  rw[qB h4];have h5:Q3 n.c.kind=true:=by unfold passes at h;simp[h4]at h;exact h.2
  have e:=bi9 n.c h5 [] [];rw[xz]at e;have e2:made n.c []=[]:=by have:=congrArg List.length e;rw[qI]at this;exact qz.1 qO
  rw[show lines []=[] from rfl,e2];rfl
theorem aZ2{l:List α}{b:α}(h:l[j]?=some b):l.set j b=l:=by
 apply xq;intro k;by_cases e:j=k
 . subst e;rw[xE,qF rfl,qF (gSm h).1,h]
 . rw[xE,qB e]
theorem aZ3:∀(l:qL)(j:Nat)(b0 b:qU),l[j]?=some b0->(l.set j b).flatten.length+b0.length=l.flatten.length+b.length
 | [],j,b0,b,h=>by simp at h
 | a::l,0,b0,b,h=>by simp at h;subst h;simp[List.set,xC,qI];omega
 | a::l,j+1,b0,b,h=>by have:=aZ3 l j b0 b (by simpa using h);simp only[List.set,xC,qI];omega
theorem bB5(M:SMach)(i:Nat)(n:SNode)(q:Nat)(p:SProc)(h:n.kind=5):F3 M i n q p=⟨M.ns,M.fs,M.pipes,M.ps.set i (p.setGot []),M.sunk++p.at⟩:=by unfold F3;rw[qF h]
theorem bB6(M:SMach)(i:Nat)(n:SNode)(q:Nat)(p:SProc)(hp:passes n=true)(ho:∀b∈p.out,b=[])(h0:p.out[0]?=some [])(hB:p.got[p.pos.toNat]?=some B):F3 M i n q p=M.setP i ((p.setOut 0 (through n (B.take (j3 B)))).setGot (B.drop (j3 B))):=by
 have hat:p.at=B:=by unfold SProc.at;rw[hB];rfl
 have h5:¬n.kind=5:=by intro e;unfold passes at hp;rw[e]at hp;simp at hp
 unfold F3;rw[qB h5,hat,h0];by_cases hc:B.contains 10=true
 . rw[qF (by rw[hp,hc];rfl)];rfl
 .
  have hc':B.contains 10=false:=by simpa using hc
  have hn:(10:UInt8)∉B:=fun h=>hc (List.contains_iff_mem.2 h);have h9:¬(n.kind=3/\n.c.kind=9/\n.c.n<=(B.count 10:Int)):=by rintro⟨e1,e2,_⟩;unfold passes at hp;rw[e1,e2]at hp;have h9:Q3 9=false:=rfl;rw[h9]at hp;simp at hp
  rw[qB (by rw[hc'];simp),qB h9,bv4 hn,List.take_zero,bh4 n hp,List.drop_zero];have e1:p.setOut 0 []=p:=by unfold SProc.setOut;rw[aZ2 h0]
  have e2:p.setGot B=p:=by unfold SProc.setGot;rw[aZ2 hB]
  rw[e1,e2]
theorem bB7(M:SMach)(i:Nat)(n:SNode)(q:Nat)(p:SProc)(h3:n.kind=3)(h9:n.c.kind=9)(hB:p.got[p.pos.toNat]?=some B)(hN:n.c.n<=(B.count 10:Int)):F3 M i n q p=(M.setX q ⟨[],(M.pipe q).room,(M.pipe q).closed,true⟩).setP i (D2 n M.fs p):=by
 have hat:p.at=B:=by unfold SProc.at;rw[hB];rfl
 have hp:passes n=false:=by have h9':Q3 9=false:=rfl;unfold passes;rw[h3,h9,h9'];simp
 unfold F3;rw[qB qO,hp,qB (by simp),hat,qF ⟨h3,h9,hN⟩]
theorem bB8(M:SMach)(i:Nat)(n:SNode)(q:Nat)(p:SProc)(h5:¬n.kind=5)(hp:passes n=false)(hB:p.got[p.pos.toNat]?=some B)(h9:¬(n.kind=3/\n.c.kind=9/\n.c.n<=(B.count 10:Int))):F3 M i n q p=M.setP i p:=by
 have hat:p.at=B:=by unfold SProc.at;rw[hB];rfl
 unfold F3;rw[qB h5,hp,qB (by simp),hat,qB h9]
end Go.Gs
namespace Go.Proofs.YtmejdflmcikkdaaGreatDoor
open Go.RowKit Go.Gs Go.Maps Tryz
structure CameA (d d3:RD) (M3:SMach) (i q P IL:Nat) (p p3:SProc) (s3:Sl) (s4:PSlot) (x3:SPipe) (B:qU) (gG cG gP cP gX cX:Nat):Prop where
 eM:d3.M=M3.setP i p3
 ps:d3.M.ps[i]?=some p3
 sP:d3.P[i]?=some s4
 sX:∃t,d3.X[q]?=some t
 vP:d3.vP=.slice (some ⟨gP,0,none⟩) d3.M.ps.length cP
 vX:d3.vX=.slice (some ⟨gX,0,none⟩) d3.M.pipes.length cX
 vM:d3.vM=.bool true
 px:d3.M.pipes[q]?=some x3
 gv:s4.gv=.slice (some ⟨gG,0,none⟩) p3.got.length cG
 gs:s4.gs[P]?=some s3
 got:p3.got[P]?=some B
 pos:p3.pos=(P:Int)
 out:p3.out=p.out
 glen:p3.got.length=IL
 flat:p3.got.flatten.length<=60300000
 ns:d3.M.ns=d.M.ns
 fs:d3.M.fs=d.M.fs
 pl:d3.M.ps.length=d.M.ps.length
theorem CameA.of{d:RD}{i q P IL:Nat}{p:SProc}{s2 s3:Sl}{s:PSlot}{x x3:SPipe}{B:qU}{gG cG gP cP gX cX:Nat}{b0:qU}(hp:d.M.ps[i]?=some p)(hs:d.P[i]?=some s)(hx:d.M.pipes[q]?=some x)(hX:d.X.length=d.M.pipes.length)(hvP:d.vP=.slice (some ⟨gP,0,none⟩) d.M.ps.length cP)(hvX:d.vX=.slice (some ⟨gX,0,none⟩) d.M.pipes.length cX)(hvM:d.vM=.bool true)(hgv:s.gv=.slice (some ⟨gG,0,none⟩) IL cG)(hgs:s.gs.length=p.got.length)(hb0:p.got[P]?=some b0)(Br:p.pos=(P:Int))(hgl:p.got.length=IL)(hfl:p.got.flatten.length+B.length<=60300000+b0.length):
 CameA d ((d.setPipe q x3 s2).setProc i (SProc.gotSet p P B) (s.gotSet P s3)) (d.M.setX q x3) i q P IL p (SProc.gotSet p P B) s3 (s.gotSet P s3) x3 B gG cG gP cP gX cX:=by
 have hql:q<d.M.pipes.length:=(gSm hx).1;have hPl:P<p.got.length:=(gSm hb0).1;refine⟨rfl,j8 hp,j8 hs,⟨s2,?_⟩,?_,?_,hvM,j8 hx,?_,?_,j8 hb0,Br,rfl,?_,?_,rfl,rfl,?_⟩
 . show (d.X.set q s2)[q]?=_;rw[xE,qF rfl,qF qO]
 . show d.vP=_;rw[hvP];simp[RD.setProc,RD.setPipe,SMach.setP,SMach.setX]
 . show d.vX=_;rw[hvX];simp[RD.setProc,RD.setPipe,SMach.setP,SMach.setX]
 . show s.gv=_;rw[hgv];simp[SProc.gotSet,hgl]
 . show (s.gs.set P s3)[P]?=_;rw[xE,qF rfl,qF qO]
 . simp[SProc.gotSet,hgl]
 . show (p.got.set P B).flatten.length<=_;have h1:=aZ3 p.got P b0 B hb0;omega
 . simp[RD.setProc,RD.setPipe,SMach.setP,SMach.setX]
section
variable {w wx:World} {D r:Nat} {O O3:qW} {d d3:RD} {n:SNode} {ai:Option Addr} {ci i gP bp bn bm ba b4 mp gI:Nat} {M3:SMach} {q P IL:Nat} {p p3:SProc} {s3:Sl} {s4:PSlot} {x3:SPipe} {B:qU} {gG cG cP gX cX:Nat}
theorem CameA.cells(c:CameA d d3 M3 i q P IL p p3 s3 s4 x3 B gG cG gP cP gX cX)(h:StepB w wx D r O O3 d3 n ai ci i gP bp bn bm ba b4 mp gI):
 wx.cell? ⟨gP,i*5,none⟩=some (.slice (some ⟨gG,0,none⟩) IL cG)/\wx.cell? ⟨gP,i*5+1,none⟩=some (.int .i64 (P:Int))/\wx.cell? ⟨gP,i*5+2,none⟩=some s4.ov/\wx.cell? ⟨gG,P,none⟩=some (.slice s3.1 B.length s3.2)/\wx.frozen? ⟨gG,P,none⟩=false/\O3 gG=some (.gots i)/\SOf wx O3 (.got i P) s3 B/\gG<wx.heap.size:=by obtain⟨q0,q1,q2,_,_,_,_,_⟩:=h.mem.procIn c.ps c.vP c.sP;obtain⟨g,cg,a,e,_,_,hg,hO,ha,hS,hc,hf⟩:=h.mem.gotAt c.ps c.sP c.got;rw[c.gv]at e;injection e with e1 _ _;injection e1 with e1;injection e1 with e1;subst e1;rw[c.gs]at ha;have ha':=qd ha;subst ha';rw[c.gv,c.glen]at q0;rw[c.pos]at q1;exact⟨q0,q1,q2,hc,hf P,hO,hS,hg⟩
theorem CameA.putGot(c:CameA d d3 M3 i q P IL p p3 s3 s4 x3 B gG cG gP cP gX cX)(h:StepB w wx D r O O3 d3 n ai ci i gP bp bn bm ba b4 mp gI){y:qU}{a:Sl}(ha:SOf wx O3 (.got i P) a y):
 ∃O',RefA NoG (wx.setCell ⟨gG,P,none⟩ (sl y a)) D r O' (M3.setP i (p3.setGot y))/\KeptO O O' w (wx.setCell ⟨gG,P,none⟩ (sl y a)):=by obtain⟨_,_,_,_,_,hO,_,_⟩:=c.cells h;have h1:=h.mem.setGot c.ps c.sP c.got c.gv hO ha;refine⟨O3,⟨_,h1.auxTo aw1 trivial,c.vM,?_⟩,h.kept.trans ((KeptO.refl O3 wx).set hO)⟩;show d3.M.setP i _=_;rw[c.eM,bG2];unfold SProc.setGot SProc.gotSet;rw[c.pos,qh]
theorem CameA.addOut(c:CameA d d3 M3 i q P IL p p3 s3 s4 x3 B gG cG gP cP gX cX)(h:StepB w wx D r O O3 d3 n ai ci i gP bp bn bm ba b4 mp gI)(h0:p.out[0]?=some []){gO cO:Nat}(hov:s4.ov=.slice (some ⟨gO,0,none⟩) p.out.length cO){y:qU}{a8:Option Addr}{c8:Nat}(hy:Reads wx (.slice a8 y.length c8) y.length (y.map U))(hl:y.length<=225000000):
 Calls prog 49 #[.pointer (some ⟨gO,0,none⟩),.slice a8 y.length c8] wx fun e w'=>e=.returned (.tuple #[])/\∃O4 s5,StepB w w' D r O O4 (d3.setProc i (p3.setOut 0 y) (s4.outSet 0 s5)) n ai ci i gP bp bn bm ba b4 mp gI/\CameA d (d3.setProc i (p3.setOut 0 y) (s4.outSet 0 s5)) M3 i q P IL (p3.setOut 0 y) (p3.setOut 0 y) s3 (s4.outSet 0 s5) x3 B gG cG gP cP gX cX:=by
 obtain⟨g,cg,a,e,_,_,hg,hO,ha,hS,hc,hf⟩:=h.mem.outAt (j:=0) (b:=[]) c.ps c.sP (by rw[c.out];exact h0);rw[hov]at e;injection e with e1 _ _;injection e1 with e1;injection e1 with e1;subst e1;have hA:=aH9 gO 0 a.1 a8 a.2 c8 [] y wx hc (hf 0) hS.reads hy (by simp;omega);refine qD hA ?_;rintro e w'⟨rfl,w1,v,ho,hb,rfl⟩;rw[zR]at ho;obtain⟨O4,s5,h1,h2⟩:=h.mem.addOut (k:=0) (g:=gO) (c:=cO) c.ps c.sP (by rw[c.out];exact h0) (by rw[c.out];exact hov) hO ho hb;have hpl:(d3.setProc i (p3.setOut 0 y) (s4.outSet 0 s5)).M.ps.length=d3.M.ps.length:=by simp[RD.setProc,SMach.setP]
 refine⟨rfl,O4,s5,h.next h1 rfl h2,⟨?_,j8 c.ps,j8 c.sP,c.sX,by rw[hpl];exact c.vP,c.vX,c.vM,c.px,c.gv,c.gs,c.got,c.pos,rfl,c.glen,c.flat,c.ns,c.fs,by rw[hpl];exact c.pl⟩⟩;show d3.M.setP i _=_;rw[c.eM,bG2]
theorem CameA.addSunk(c:CameA d d3 M3 i q P IL p p3 s3 s4 x3 B gG cG gP cP gX cX)(h:StepB w wx D r O O3 d3 n ai ci i gP bp bn bm ba b4 mp gI)(hl:d3.M.sunk.length<=90000000)(hB:B.length<=225000000):
 Calls prog 49 #[.pointer (some ⟨r,4,none⟩),.slice s3.1 B.length s3.2] wx fun e w'=>e=.returned (.tuple #[])/\∃O4 s5,StepB w w' D r O O4 (d3.setSunk (d3.M.sunk++B) s5) n ai ci i gP bp bn bm ba b4 mp gI/\CameA d (d3.setSunk (d3.M.sunk++B) s5) ⟨M3.ns,M3.fs,M3.pipes,M3.ps,d3.M.sunk++B⟩ i q P IL p p3 s3 s4 x3 B gG cG gP cP gX cX:=by obtain⟨_,_,_,_,_,_,hS,_⟩:=c.cells h;have hbx:=h.mem.boxM c.vM;obtain⟨_,_,_,_,u4,fz⟩:=i8 hbx;have hfz:wx.frozen? ⟨r,4,none⟩=false:=fz 4;have hA:=aH9 r 4 d3.sS.1 s3.1 d3.sS.2 s3.2 d3.M.sunk B wx u4 hfz h.mem.sunkR hS.reads qO;refine qD hA ?_;rintro e w'⟨rfl,w1,v,ho,hb,rfl⟩;obtain⟨O4,s5,h1,h2⟩:=h.mem.addSunk ho hb;refine⟨rfl,O4,s5,h.next h1 rfl h2,⟨?_,c.ps,c.sP,c.sX,c.vP,c.vX,c.vM,c.px,c.gv,c.gs,c.got,c.pos,c.out,c.glen,c.flat,c.ns,c.fs,c.pl⟩⟩;show (⟨d3.M.ns,d3.M.fs,d3.M.pipes,d3.M.ps,d3.M.sunk++B⟩:SMach)=_;rw[c.eM];rfl
theorem CameA.shut(c:CameA d d3 M3 i q P IL p p3 s3 s4 x3 B gG cG gP cP gX cX)(h:StepB w wx D r O O3 d3 n ai ci i gP bp bn bm ba b4 mp gI):
 ∃d4,StepB w ((wx.setCell ⟨gX,q*4,none⟩ (.slice none 0 0)).setCell ⟨gX,q*4+3,none⟩ (.bool true)) D r O O3 d4 n ai ci i gP bp bn bm ba b4 mp gI/\d4.M=(M3.setX q ⟨[],x3.room,x3.closed,true⟩).setP i p3/\d4.M.ps[i]?=some p3/\d4.vP=d3.vP/\d4.vM=d3.vM:=by
 obtain⟨t,ht⟩:=c.sX;obtain⟨_,_,_,_,_,_,_,hfX,hOX,hgX⟩:=h.mem.atX c.vX c.px;have h1:=h.mem.setPipeC (k:=0) (x':=⟨[],x3.room,x3.closed,x3.shut⟩) (s':=nilS) (u:=.slice none 0 0) c.px ht c.vX hOX qO rfl (ROf.nil _ _ _);have hlen:∀(y:SPipe),(d3.setPipe q y nilS).M.pipes.length=d3.M.pipes.length:=fun y=>by simp[RD.setPipe,SMach.setX]
 have h2:=h1.setPipeC (k:=3) (x:=⟨[],x3.room,x3.closed,x3.shut⟩) (x':=⟨[],x3.room,x3.closed,true⟩) (s:=nilS) (s':=nilS) (u:=.bool true) (c:=cX) (j8 c.px) (j8 ht) (by rw[hlen];exact c.vX) hOX qO rfl (ROf.nil _ _ _);rw[RD.setPipe2]at h2;have hk:=((KeptO.refl O3 wx).set (a:=⟨gX,q*4,none⟩) (v:=.slice none 0 0) hOX).set (a:=⟨gX,q*4+3,none⟩) (v:=.bool true) hOX;refine⟨_,h.next h2 rfl hk,?_,c.ps,rfl,rfl⟩;show d3.M.setX q _=_;rw[c.eM];rfl
end
end Go.Proofs.YtmejdflmcikkdaaGreatDoor
