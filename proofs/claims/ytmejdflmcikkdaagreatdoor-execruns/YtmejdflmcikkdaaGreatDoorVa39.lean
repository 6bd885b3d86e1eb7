/- The reference's SameMachine, of two machines that are alike, and more. -/
import Derived.Test.YtmejdflmcikkdaaGreatDoorVAb
import Derived.Test.YtmejdflmcikkdaaGreatDoorVa38
import Derived.Test.YtmejdflmcikkdaaGreatDoorVa37
set_option linter.all false
set_option maxRecDepth 100000
set_option maxHeartbeats 64000000
namespace Go.Proofs.YtmejdflmcikkdaaGreatDoor
open Go.RowKit Go.Gs Tryz
variable {ns:List SNode}{fs:List SFile}
theorem cd7(au av:Option Addr)(cu cv:Nat)(a:qU)(w:World)(ha:Reads w (.slice au a.length cu) a.length (a.map U))(hb:Reads w (.slice av a.length cv) a.length (a.map U)):
 Calls prog 37 #[.slice au a.length cu,.slice av a.length cv] w fun e w'=>e=.returned (.bool true)/\Bq w w':=by have HS:Hid _:=bR1 au av cu cv a a w ha hb;rw[qV rfl]at HS;generalize a.length=N at *;clear ha hb;go_enter func37,ntmps37;go_wp2_with fail;refine qD HS.o ?_;rintro e w3⟨rfl,hb3⟩;have HB3:=qH hb3;clear hb3 HS;go_wp2_with fail;go_ret;exact⟨rfl,HB3.o⟩
theorem bC1(au av:Option Addr)(cu cv:Nat)(a:qL)(w:World)(ha:RList w (.slice au a.length cu) U a)(hb:RList w (.slice av a.length cv) U a):
 Calls prog 36 #[.slice au a.length cu,.slice av a.length cv,.func (.func 37) #[] #[]] w fun e w'=>e=.returned (.bool true)/\Bq w w':=by
 have m2:=(V8 ha).2;have m4:=(V8 hb).2;have HA:=qH ha;have HB:=qH hb;obtain⟨NA,hNA⟩:=qE a.length;have HNA:=qH hNA;have hA1:NA<=9223372036854775807:=qO;rw[<- hNA];rw[<- hNA]at HA HB;clear ha hb m2 m4 hNA;go_enter func36,ntmps36;go_wp2_with fail;go_loopw [17] (fun i wr=>∃k:Nat,k<=NA/\i=.int .i64 k/\Hid (Bq w wr)) (fun i _=>NA-(intOf i).toNat)
 case atStart=>exact⟨0,qM _,rfl,Below.refl _ _⟩
 case round=>
  obtain⟨k,hk,rfl,Aa⟩:=hrel;by_cases hlt:k<NA
  . obtain⟨x,hx⟩:∃x,a[k]?=some x:=⟨_,gEl (by have:=HNA.o;omega)⟩;obtain⟨b1,o1,ab,cb,rfl,hc1,hrx⟩:=(RList.below HA.o Aa.o).at hx;obtain⟨b2,o2,bb,eb,rfl,hc2,hry⟩:=(RList.below HB.o Aa.o).at hx;have HS:Hid _:=cd7 ab bb cb eb x wr hrx hry;generalize x.length=NF at *;clear hx hrx hry;go_wp2_with fail;refine qD HS.o ?_;rintro e w3⟨rfl,hb3⟩;have HB3:=qT Aa hb3;clear hb3 HS hc1 hc2;go_wp2_with fail;go_roundw
    case rel=>exact⟨k+1,qO,by go_num,HB3⟩
    case measure=>simp[intOf];omega
  . go_wp2_with fail;go_ret;exact⟨rfl,Aa.o⟩
theorem bY8(au av:Option Addr)(cu cv:Nat)(a:qL)(w:World)(ha:RList w (.slice au a.length cu) U a)(hb:RList w (.slice av a.length cv) U a):
 Calls prog 35 #[.slice au a.length cu,.slice av a.length cv] w fun e w'=>e=.returned (.bool true)/\Bq w w':=by have HS:Hid _:=bC1 au av cu cv a w ha hb;generalize a.length=N at *;clear ha hb;go_enter func35,ntmps35;go_wp2_with fail;refine qD HS.o ?_;rintro e w3⟨rfl,hb3⟩;have HB3:=qH hb3;clear hb3 HS;go_wp2_with fail;go_ret;exact⟨rfl,HB3.o⟩
theorem bC2(au av:Option Addr)(cu cv:Nat)(a:List SPipe)(w:World)(ha:N6 w (.slice au a.length cu) a)(hb:N6 w (.slice av a.length cv) a):
 Calls prog 41 #[.slice au a.length cu,.slice av a.length cv,.func (.func 42) #[] #[]] w fun e w'=>e=.returned (.bool true)/\Bq w w':=by
 have m2:=ah1 ha;have m4:=ah1 hb;have HA:=qH ha;have HB:=qH hb;obtain⟨NA,hNA⟩:=qE a.length;have HNA:=qH hNA;have hA1:NA<=9223372036854775807:=qO;rw[<- hNA];rw[<- hNA]at HA HB;clear ha hb m2 m4 hNA;go_enter func41,ntmps41;go_wp2_with fail;go_loopw [17] (fun i wr=>∃k:Nat,k<=NA/\i=.int .i64 k/\Hid (Bq w wr)) (fun i _=>NA-(intOf i).toNat)
 case atStart=>exact⟨0,qM _,rfl,Below.refl _ _⟩
 case round=>
  obtain⟨k,hk,rfl,Aa⟩:=hrel;by_cases hlt:k<NA
  .
   obtain⟨x,hx⟩:∃x,a[k]?=some x:=⟨_,gEl (by have:=HNA.o;omega)⟩;obtain⟨b1,o1,ab,cb,rfl,a0,a1,a2,a3,hrx⟩:=(N6.below HA.o Aa.o).at hx;obtain⟨b2,o2,bb,eb,rfl,d0,d1,d2,d3,hry⟩:=(N6.below HB.o Aa.o).at hx;have HS:=qH (show ∀V,Bq wr V->Calls prog 42 #[.agg #[.slice ab x.b.length cb,.int .i64 x.room,.bool x.closed,.bool x.shut],.agg #[.slice bb x.b.length eb,.int .i64 x.room,.bool x.closed,.bool x.shut]] V fun e w'=>e=.returned (.bool true)/\Bq V w' from fun V hV=>bh1 ab bb cb eb x.b x.room x.closed x.shut V (hrx.below hV) (hry.below hV));have n0:=fun o=>((boxE (w:=wr) (o:=o)).cell (bLt wr _ d0)).trans d0;have n1:=fun o=>((boxE (w:=wr) (o:=o)).cell (bLt wr _ d1)).trans d1;have n2:=fun o=>((boxE (w:=wr) (o:=o)).cell (bLt wr _ d2)).trans d2;have n3:=fun o=>((boxE (w:=wr) (o:=o)).cell (bLt wr _ d3)).trans d3;generalize x.b.length=NF,x.room=xr,x.closed=xc,x.shut=xs at *;clear hx hrx hry;go_wp2_with fail;refine qD (HS.o _ ?_) ?_
   . exact Below.trans boxE (boxE.mono (by simp))
   rintro e w3⟨rfl,hb3⟩;have HB3:Hid (Bq w w3):=Aa.o.trans ((Below.trans (Below.trans boxE (boxE.mono (by simp))) (hb3.mono (by simp;omega))).mono Aa.o.size);clear hb3 HS a0 a1 a2 a3 d0 d1 d2 d3 n0 n1 n2 n3;go_wp2_with fail;go_roundw
   case rel=>exact⟨k+1,qO,by go_num,HB3⟩
   case measure=>simp[intOf];omega
  . go_wp2_with fail;go_ret;exact⟨rfl,Aa.o⟩
theorem cg0(ag ao bg bo:Option Addr)(cg co eg eo b5:Nat)(p:SProc)(w:World)(h1:RList w (.slice ag p.got.length cg) U p.got)(h2:RList w (.slice ao p.out.length co) U p.out)(h3:RList w (.slice bg p.got.length eg) U p.got)(h4:RList w (.slice bo p.out.length eo) U p.out)(h5:w.cell? ⟨b5,0,none⟩=some (.func (.func 35) #[] #[])):
 Calls prog 44 #[.agg #[.slice ag p.got.length cg,.int .i64 p.pos,.slice ao p.out.length co,.bool p.rd,.bool p.ov],.agg #[.slice bg p.got.length eg,.int .i64 p.pos,.slice bo p.out.length eo,.bool p.rd,.bool p.ov],.pointer (some ⟨b5,0,none⟩)] w fun e w'=>e=.returned (.bool true)/\Bq w w':=by
 have HG:=qH (show ∀V,Bq w V->Calls prog 35 #[.slice ag p.got.length cg,.slice bg p.got.length eg] V fun e w'=>e=.returned (.bool true)/\Bq V w' from fun V hV=>bY8 ag bg cg eg p.got V (h1.below hV) (h3.below hV));have HO:=qH (show ∀V,Bq w V->Calls prog 35 #[.slice ao p.out.length co,.slice bo p.out.length eo] V fun e w'=>e=.returned (.bool true)/\Bq V w' from fun V hV=>bY8 ao bo co eo p.out V (h2.below hV) (h4.below hV));have en:∀args w,(callFunc 35 args).run prog w=.ok (.enter 35 args) w:=enters_of func35 qQ rfl;generalize p.got.length=GL,p.out.length=OL,p.pos=pp,p.rd=rd,p.ov=ov at *;obtain⟨W0,hW0⟩:=qE ((w.alloc (.cells #[.slice ag GL cg,.int .i64 pp,.slice ao OL co,.bool rd,.bool ov] 64)).alloc (.cells #[.slice bg GL eg,.int .i64 pp,.slice bo OL eo,.bool rd,.bool ov] 64));have hB0:Bq w W0:=by rw[hW0];exact ((Below.refl _ w).alloc (qA _) _).alloc (by simp) _
 have hx:W0.heap[w.heap.size]?=some (.cells #[.slice ag GL cg,.int .i64 pp,.slice ao OL co,.bool rd,.bool ov] 64 (0,0))/\W0.heap[w.heap.size+1]?=some (.cells #[.slice bg GL eg,.int .i64 pp,.slice bo OL eo,.bool rd,.bool ov] 64 (0,0)):=by rw[hW0];exact⟨xQ _ _ _,xM _ _ _⟩
 have HX:Hid _:=hx;have HB0:=qH hB0;have hc5:=qC hB0 h5;have HC5:=qH hc5;obtain⟨x0,x1,x2,x3,x4,_⟩:=i8 hx.1;obtain⟨y0,y1,y2,y3,y4,_⟩:=i8 hx.2;clear h1 h2 h3 h4 h5 hB0 hx;go_enter func44,ntmps44;go_upto_region 1 with fail;rw[<- hW0];clear hW0;go_wp2_with fail;refine qD (HG.o _ HB0.o) ?_;rintro e w3⟨rfl,hb3⟩;have HB3:=qT HB0 hb3;have hc53:=qC hb3 HC5.o;obtain⟨u0,u1,u2,u3,u4,_⟩:=i8 (qK hb3 HX.o.1);obtain⟨v0,v1,v2,v3,v4,_⟩:=i8 (qK hb3 HX.o.2);clear hb3 HG hc5 x0 x1 x2 x3 x4 y0 y1 y2 y3 y4;go_wp2_with fail;refine qD (HO.o _ HB3.o) ?_;rintro e w4⟨rfl,hb4⟩;have HB4:=qT HB3 hb4;clear hb4 HO;go_wp2_with fail;go_ret;exact⟨rfl,HB4.o⟩
theorem bC3(au av:Option Addr)(cu cv b5:Nat)(a:List SProc)(w:World)(ha:J7 w (.slice au a.length cu) a)(hb:J7 w (.slice av a.length cv) a)(h5:w.cell? ⟨b5,0,none⟩=some (.func (.func 35) #[] #[])):
 Calls prog 43 #[.slice au a.length cu,.slice av a.length cv,.func (.func 44) #[] #[.pointer (some ⟨b5,0,none⟩)]] w fun e w'=>e=.returned (.bool true)/\Bq w w':=by
 have m2:=U7 ha;have m4:=U7 hb;have HA:=qH ha;have HB:=qH hb;have H5:=qH h5;have en:∀args w,(callFunc 44 args).run prog w=.ok (.enter 44 args) w:=enters_of func44 qQ rfl;obtain⟨NA,hNA⟩:=qE a.length;have HNA:=qH hNA;have hA1:NA<=9223372036854775807:=qO;rw[<- hNA];rw[<- hNA]at HA HB;clear ha hb m2 m4 hNA h5;go_enter func43,ntmps43;go_wp2_with fail;go_loopw [17] (fun i wr=>∃k:Nat,k<=NA/\i=.int .i64 k/\Hid (Bq w wr)) (fun i _=>NA-(intOf i).toNat)
 case atStart=>exact⟨0,qM _,rfl,Below.refl _ _⟩
 case round=>
  obtain⟨k,hk,rfl,Aa⟩:=hrel;by_cases hlt:k<NA
  .
   obtain⟨x,hx⟩:∃x,a[k]?=some x:=⟨_,gEl (by have:=HNA.o;omega)⟩;obtain⟨b1,o1,ag,cg,ao,co,rfl,a0,a1,a2,a3,a4,hg1,ho1⟩:=(J7.below HA.o Aa.o).at hx;obtain⟨b2,o2,bg,eg,bo,eo,rfl,d0,d1,d2,d3,d4,hg2,ho2⟩:=(J7.below HB.o Aa.o).at hx;have h5r:=qC Aa.o H5.o;have HS:=qH (show ∀V,Bq wr V->Calls prog 44 #[.agg #[.slice ag x.got.length cg,.int .i64 x.pos,.slice ao x.out.length co,.bool x.rd,.bool x.ov],.agg #[.slice bg x.got.length eg,.int .i64 x.pos,.slice bo x.out.length eo,.bool x.rd,.bool x.ov],.pointer (some ⟨b5,0,none⟩)] V fun e w'=>e=.returned (.bool true)/\Bq V w' from fun V hV=>cg0 ag ao bg bo cg co eg eo b5 x V (hg1.below hV) (ho1.below hV) (hg2.below hV) (ho2.below hV) (qC hV h5r));have n0:=fun o=>((boxE (w:=wr) (o:=o)).cell (bLt wr _ d0)).trans d0;have n1:=fun o=>((boxE (w:=wr) (o:=o)).cell (bLt wr _ d1)).trans d1;have n2:=fun o=>((boxE (w:=wr) (o:=o)).cell (bLt wr _ d2)).trans d2;have n3:=fun o=>((boxE (w:=wr) (o:=o)).cell (bLt wr _ d3)).trans d3;have n4:=fun o=>((boxE (w:=wr) (o:=o)).cell (bLt wr _ d4)).trans d4;generalize x.got.length=GL,x.out.length=OL,x.pos=pp,x.rd=rd,x.ov=ov at *;clear hx hg1 ho1 hg2 ho2 h5r;go_wp2_with fail;refine qD (HS.o _ ?_) ?_
   . exact Below.trans boxE (boxE.mono (by simp))
   rintro e w3⟨rfl,hb3⟩;have HB3:Hid (Bq w w3):=Aa.o.trans ((Below.trans (Below.trans boxE (boxE.mono (by simp))) (hb3.mono (by simp;omega))).mono Aa.o.size);clear hb3 HS a0 a1 a2 a3 a4 d0 d1 d2 d3 d4 n0 n1 n2 n3 n4;go_wp2_with fail;go_roundw
   case rel=>exact⟨k+1,qO,by go_num,HB3⟩
   case measure=>simp[intOf];omega
  . go_wp2_with fail;go_ret;exact⟨rfl,Aa.o⟩
open Go.Maps
theorem aB0:∀l:List SNode,Y1 l l=true
 | []=>rfl
 | n::l=>by show (ax2 n n && Y1 l l)=true;rw[aB0 l];simp[ax2]
theorem F2(an af ax ap aS bn bf bx bp bS:Option Addr)(cn cf cx cp cs dn df dx dp ds:Nat)(M:SMach)(w:World)(h1:RMach w an af ax ap aS cn cf cx cp cs M)(h2:RMach w bn bf bx bp bS dn df dx dp ds M):
 Calls prog 11 #[machV an af ax ap aS M cn cf cx cp cs,machV bn bf bx bp bS M dn df dx dp ds] w fun e w'=>e=.returned (.bool true)/\Bq w w':=by
 have HG:=qH (show ∀V,Bq w V->Calls prog 39 #[.agg #[.slice an M.ns.length cn],.agg #[.slice bn M.ns.length dn]] V fun e w'=>e=.returned (.bool true)/\Bq V w' from fun V hV=>by
  have:=aT3 an bn cn dn M.ns M.ns V (h1.nodes.below hV) (h2.nodes.below hV)
  rwa [aB0]at this)
 have HF:=qH (show ∀V,Bq w V->Calls prog 40 #[.slice af M.fs.length cf,.slice bf M.fs.length df] V fun e w'=>e=.returned (.bool true)/\Bq V w' from fun V hV=>by
  classical
  have:=aT2 af bf cf df M.fs M.fs V (h1.files.below hV) (h2.files.below hV)
  rwa [qV rfl]at this)
 have HS:=qH (show ∀V,Bq w V->Calls prog 38 #[.slice aS M.sunk.length cs,.slice bS M.sunk.length ds] V fun e w'=>e=.returned (.bool true)/\Bq V w' from fun V hV=>by
  have:=aW4 aS bS cs ds M.sunk M.sunk V (h1.sunk.below hV) (h2.sunk.below hV)
  rwa [show decide (M.sunk=M.sunk)=true from by simp]at this)
 have HX:=qH (show ∀V,Bq w V->Calls prog 41 #[.slice ax M.pipes.length cx,.slice bx M.pipes.length dx,.func (.func 42) #[] #[]] V fun e w'=>e=.returned (.bool true)/\Bq V w' from fun V hV=>bC2 ax bx cx dx M.pipes V (h1.pipes.below hV) (h2.pipes.below hV));have HP:=qH (show ∀V b5,Bq w V->V.cell? ⟨b5,0,none⟩=some (.func (.func 35) #[] #[])->Calls prog 43 #[.slice ap M.ps.length cp,.slice bp M.ps.length dp,.func (.func 44) #[] #[.pointer (some ⟨b5,0,none⟩)]] V fun e w'=>e=.returned (.bool true)/\Bq V w' from fun V b5 hV h5=>bC3 ap bp cp dp b5 M.ps V (h1.procs.below hV) (h2.procs.below hV) h5);unfold machV;generalize M.ns.length=NN,M.fs.length=NF,M.pipes.length=NX,M.ps.length=NP,M.sunk.length=NS at *;have hsf:=fun(a:Addr)(w:World)=>run_store prog w a (.func (.func 35) #[] #[]) .plain rfl;clear h1 h2;go_enter func11,ntmps11;go_upto_region 2 with fail;obtain⟨W0,hW0⟩:=qE (((w.alloc (.cells #[.slice an NN cn,.slice af NF cf,.slice ax NX cx,.slice ap NP cp,.slice aS NS cs] 30)).alloc (.cells #[.slice bn NN dn,.slice bf NF df,.slice bx NX dx,.slice bp NP dp,.slice bS NS ds] 30)).alloc (.cells #[.func (.func 35) #[] #[]] 87));rw[<- hW0];have hB0:Bq w W0:=by rw[hW0];exact (((Below.refl _ w).alloc (qA _) _).alloc (by simp) _).alloc (by simp;omega) _
 have hx:W0.heap[w.heap.size]?=some (.cells #[.slice an NN cn,.slice af NF cf,.slice ax NX cx,.slice ap NP cp,.slice aS NS cs] 30 (0,0))/\W0.heap[w.heap.size+1]?=some (.cells #[.slice bn NN dn,.slice bf NF df,.slice bx NX dx,.slice bp NP dp,.slice bS NS ds] 30 (0,0))/\W0.cell? ⟨w.heap.size+1+1,0,none⟩=some (.func (.func 35) #[] #[]):=by
  rw[hW0];refine⟨?_,?_,?_⟩
  . rw[boxE.block _ (by simp;omega)];exact xQ _ _ _
  . rw[boxE.block _ (by simp)];exact xM _ _ _
  . have h:=qJ ((w.alloc (.cells #[.slice an NN cn,.slice af NF cf,.slice ax NX cx,.slice ap NP cp,.slice aS NS cs] 30)).alloc (.cells #[.slice bn NN dn,.slice bf NF df,.slice bx NX dx,.slice bp NP dp,.slice bS NS ds] 30)) (.cells #[.func (.func 35) #[] #[]] 87);rw[show ((w.alloc (.cells #[.slice an NN cn,.slice af NF cf,.slice ax NX cx,.slice ap NP cp,.slice aS NS cs] 30)).alloc (.cells #[.slice bn NN dn,.slice bf NF df,.slice bx NX dx,.slice bp NP dp,.slice bS NS ds] 30)).heap.size=w.heap.size+1+1 from by simp]at h;rw[qY _ _ _ _ _ _ h];rfl
 clear hW0 hsf;obtain⟨BM,hBM⟩:=qE w.heap.size;have H0:=qH hB0;rw[<- hBM]at hx ⊢;have K0:=qH (show ∀V,Bq W0 V->Bq w V/\V.heap[BM]?=some (.cells #[.slice an NN cn,.slice af NF cf,.slice ax NX cx,.slice ap NP cp,.slice aS NS cs] 30 (0,0))/\V.heap[BM+1]?=some (.cells #[.slice bn NN dn,.slice bf NF df,.slice bx NX dx,.slice bp NP dp,.slice bS NS ds] 30 (0,0))/\V.cell? ⟨BM+1+1,0,none⟩=some (.func (.func 35) #[] #[]) from fun V hV=>⟨hB0.trans (hV.mono hB0.size),qK hV hx.1,qK hV hx.2.1,qC hV hx.2.2⟩);clear hB0 hx hBM;have B0:Hid (Bq W0 W0):=Below.refl _ _;obtain⟨g0,x0,y0,hc0⟩:=K0.o _ B0.o;obtain⟨u0,u1,u2,u3,u4,_⟩:=i8 x0;obtain⟨v0,v1,v2,v3,v4,_⟩:=i8 y0;have G0:Hid _:=g0;have C0:=qH hc0;clear x0 y0 g0 hc0;go_wp2_with fail;refine qD (HG.o _ G0.o) ?_;rintro e W1⟨rfl,hb1⟩;have B1:=qT B0 hb1;clear hb1 u0 u1 u2 u3 u4 v0 v1 v2 v3 v4 G0 C0 B0 HG;obtain⟨g1,x1,y1,hc1⟩:=K0.o _ B1.o;obtain⟨u0,u1,u2,u3,u4,_⟩:=i8 x1;obtain⟨v0,v1,v2,v3,v4,_⟩:=i8 y1;have G1:Hid _:=g1;have C1:=qH hc1;clear x1 y1 g1 hc1;go_wp2_with fail;refine qD (HF.o _ G1.o) ?_;rintro e W2⟨rfl,hb2⟩;have B2:=qT B1 hb2;clear hb2 u0 u1 u2 u3 u4 v0 v1 v2 v3 v4 G1 C1 B1 HF;obtain⟨g2,x2,y2,hc2⟩:=K0.o _ B2.o;obtain⟨u0,u1,u2,u3,u4,_⟩:=i8 x2;obtain⟨v0,v1,v2,v3,v4,_⟩:=i8 y2;have G2:Hid _:=g2;have C2:=qH hc2;clear x2 y2 g2 hc2;go_wp2_with fail;refine qD (HS.o _ G2.o) ?_;rintro e W3⟨rfl,hb3⟩;have B3:=qT B2 hb3;clear hb3 u0 u1 u2 u3 u4 v0 v1 v2 v3 v4 G2 C2 B2 HS;obtain⟨g3,x3,y3,hc3⟩:=K0.o _ B3.o;obtain⟨u0,u1,u2,u3,u4,_⟩:=i8 x3;obtain⟨v0,v1,v2,v3,v4,_⟩:=i8 y3;have G3:Hid _:=g3;have C3:=qH hc3;clear x3 y3 g3 hc3;go_wp2_with fail;refine qD (HX.o _ G3.o) ?_;rintro e W4⟨rfl,hb4⟩;have B4:=qT B3 hb4;clear hb4 u0 u1 u2 u3 u4 v0 v1 v2 v3 v4 G3 C3 B3 HX;obtain⟨g4,x4,y4,hc4⟩:=K0.o _ B4.o;obtain⟨u0,u1,u2,u3,u4,_⟩:=i8 x4;obtain⟨v0,v1,v2,v3,v4,_⟩:=i8 y4;have G4:Hid _:=g4;have C4:=qH hc4;clear x4 y4 g4 hc4;go_wp2_with fail;refine qD (HP.o _ _ G4.o C4.o) ?_;rintro e W5⟨rfl,hb5⟩;have B5:=qT B4 hb5;clear hb5 u0 u1 u2 u3 u4 v0 v1 v2 v3 v4 G4 C4 B4 HP;have HBL:Hid (Bq w W5):=(K0.o _ B5.o).1;clear K0 B5;go_wp2_with fail;go_ret;exact⟨rfl,HBL.o⟩
def ab6(M:SMach)(i:Int):SMach × Int:=if mchk M≠0 then (I4,mchk M) else if (stepS M i).2≠0 then (I4,(stepS M i).2) else stepS M i
theorem bX7(an af ax ap aS:Option Addr)(cn cf cx cp cs:Nat)(M:SMach)(i:Int)(w:World)(h:RMach w an af ax ap aS cn cf cx cp cs M)(Ad:FitsM M)(hE:∀W,Bq w W->q8 W):
 Calls prog 6 #[machV an af ax ap aS M cn cf cx cp cs,.int .i64 i] w fun e w'=>∃v,e=.returned (.tuple #[v,.int .i64 (ab6 M i).2])/\S9 w.heap.size w' v (ab6 M i).1/\Bq w w':=by
 have HCK:=qH (show ∀W,Bq w W->Calls prog 10 #[machV an af ax ap aS M cn cf cx cp cs] W fun e w'=>e=.returned (.int .i64 (mchk M))/\Bq W w' from fun W hW=>ak3 an af ax ap aS cn cf cx cp cs M W (h.below hW) Ad)
 have HST:=qH (show mchk M=0->∀W,Bq w W->Calls prog 21 #[machV an af ax ap aS M cn cf cx cp cs] W fun e w'=>∃D r,e=.returned (.pointer (some ⟨r,0,none⟩))/\o6 NoG w' D r M/\W.heap.size<=D/\Bq W w' from fun h0 W hW=>by
  obtain⟨q1,q2,q3⟩:=M7 h0
  exact aw7 an af ax ap aS cn cf cx cp cs M W (h.below hW) (aD5 q1 (fun p hp=>⟨fun b hb=>by have:=(q2 p hp).1 b hb;omega,fun b hb=>by have:=(q2 p hp).2 b hb;omega⟩) qO) q1 Ad.nodes)
 have HSP:Hid (mchk M=0->∀(D r:Nat)(W:World),o6 NoG W D r M->w.heap.size<=D->Bq w W->Calls prog 22 #[.pointer (some ⟨r,0,none⟩),.int .i64 i] W fun e w'=>e=.returned (.int .i64 (stepS M i).2)/\o6 NoG w' D r (stepS M i).1/\Below D W w'):=(show mchk M=0->∀(D r:Nat)(W:World),_ from fun h0 D r W hR hD hW=>by
  obtain⟨q1,q2,q3⟩:=M7 h0
  obtain⟨O,d,hR1,rfl⟩:=hR
  exact aP2 D r O d i W hR1 q1 Ad.nodes (aY8 q1 (fun p hp=>⟨fun b hb=>by have:=(q2 p hp).1 b hb;omega,fun b hb=>by have:=(q2 p hp).2 b hb;omega⟩) qO) (fun V hV=>hE V (hW.trans (hV.mono hD))))
 unfold machV at HCK HST ⊢;obtain⟨RES,Aj⟩:=qE (ab6 M i);rw[<- Aj];unfold ab6 at Aj;generalize M.ns.length=NN,M.fs.length=NF,M.pipes.length=NX,M.ps.length=NP,M.sunk.length=NS at *;clear h Ad hE;by_cases h0:mchk M=0
 .
  have Df:Hid _:=HST.o h0;have Ly:Hid _:=HSP.o h0;rw[qB (by simpa using h0)]at Aj;rw[h0]at HCK;have Bd:=qH Aj;clear HST HSP Aj h0;go_enter func6,ntmps6;go_wp2_with fail;obtain⟨W0,hW0⟩:=qE ((w.alloc (.cells #[.slice an NN cn,.slice af NF cf,.slice ax NX cx,.slice ap NP cp,.slice aS NS cs] 30)).alloc (.cells #[.slice none 0 0,.slice none 0 0,.slice none 0 0,.slice none 0 0,.slice none 0 0] 30));rw[<- hW0];have hB0:Bq w W0:=by rw[hW0];exact ((Below.refl _ w).alloc (qA _) _).alloc (by simp) _
  have hX0:BX W0 w.heap.size (.slice an NN cn) (.slice af NF cf) (.slice ax NX cx) (.slice ap NP cp) (.slice aS NS cs):=by rw[hW0];exact⟨xQ _ _ _,xM _ _ _⟩
  refine qD (HCK.o W0 hB0) ?_;rintro e w1⟨rfl,hb1⟩;have hB1:Bq w w1:=hB0.trans (hb1.mono hB0.size);have hX1:=BX.below hX0 hb1;obtain⟨x0,x1,x2,x3,x4,_⟩:=i8 hX1.1;have HB1:=qH hB1;have HX1:=qH hX1;clear hW0 hB0 hX0 hb1 hB1 hX1 HCK;go_wp2_with fail;refine qD (Df.o w1 HB1.o) ?_;rintro e w2⟨D,r,rfl,hR2,hD,hb2⟩;have hB2:Bq w w2:=HB1.o.trans (hb2.mono HB1.o.size);have hDw:w.heap.size<=D:=by have:=HB1.o.size;omega
  have hX2:=BX.below HX1.o hb2;have HX2:=qH hX2;have HC3:Hid _:=Ly.o D r w2 hR2 hDw hB2;have HB2:=qH hB2;have HDX:=qH (show w.heap.size+2<=D by have:=BX.lt HX1.o;omega);have HDW:=qH hDw;clear hR2 hD hb2 hB2 hDw hX2 Df Ly x0 x1 x2 x3 x4 HX1;go_wp2_with fail;refine qD HC3.o ?_;rintro e w3⟨rfl,hR3,hb3⟩;have hB3:Bq w w3:=HB2.o.trans (hb3.mono HDW.o);have hX3:BX w3 w.heap.size (.slice an NN cn) (.slice af NF cf) (.slice ax NX cx) (.slice ap NP cp) (.slice aS NS cs):=BX.keep HX2.o (fun k hk=>hb3.block k (by have:=HDX.o;omega));have HB3:=qH hB3;obtain⟨y0,y1,y2,y3,y4,yf⟩:=i8 hX3.2;have yf0:=yf 0;have yf1:=yf 1;have yf2:=yf 2;have yf3:=yf 3;have yf4:=yf 4;obtain⟨E,hE⟩:=qE ((stepS M i).2);rw[<- hE];by_cases he:E=0
  .
   have HR5:=qH (show RES=stepS M i by rw[Bd.o,qB (by rw[<- hE];simpa using he)]);obtain⟨hrD,bn,bf,bx,bp,bS,dn,df,dx,dp,ds,vI,vM,Ak,hRM⟩:=o6.machX hR3;have HRM:Hid (∀(w':World),w'.heap.size=w3.heap.size->(∀k,k≠w.heap.size+1->w'.heap[k]?=w3.heap[k]?)->aA3 w.heap.size w' bn bf bx bp bS dn df dx dp ds (stepS M i).1):=(show ∀(w':World),_ from fun w' h1 h2=>aw9 hRM (by have:=HDX.o;omega) (bg3 hX3) qO h1 h2);obtain⟨c0,c1,c2,c3,c4,_,_⟩:=K9 Ak;have hrw:r≠w.heap.size+1:=by have:=HDX.o;omega
   have hrw':w.heap.size+1≠r:=qO;subst he;generalize hn5:(stepS M i).1.ns.length=N5 at *;generalize hf5:(stepS M i).1.fs.length=F5 at *;generalize hx5:(stepS M i).1.pipes.length=X5 at *;generalize hp5:(stepS M i).1.ps.length=P5 at *;generalize hs5:(stepS M i).1.sunk.length=S5 at *;clear hR3 hb3 hB3 hX3 yf Bd HC3 Ak hRM HX2;go_wp2_with fail;(try simp only[Exit.inBlock,Exit.then])
   refine qx (v:=.tuple #[.agg #[.slice bn N5 dn,.slice bf F5 df,.slice bx X5 dx,.slice bp P5 dp,.slice bS S5 ds],.int .i64 0]) ?_ rfl ?_
   . rw[results_cell_tmp rfl];go_simp
   .
    refine⟨.agg #[.slice bn N5 dn,.slice bf F5 df,.slice bx X5 dx,.slice bp P5 dp,.slice bS S5 ds],?_,?_,?_⟩
    . rw[HR5.o,<- hE]
    . rw[HR5.o]
      have Ah:aA3 w.heap.size ((((((w3.setCell ⟨w.heap.size+1,0,none⟩ (.slice bn N5 dn)).setCell ⟨w.heap.size+1,1,none⟩ (.slice bf F5 df)).setCell ⟨w.heap.size+1,2,none⟩ (.slice bx X5 dx)).setCell ⟨w.heap.size+1,3,none⟩ (.slice bp P5 dp)).setCell ⟨w.heap.size+1,4,none⟩ (.slice bS S5 ds))) bn bf bx bp bS dn df dx dp ds (stepS M i).1:=HRM.o _ (by simp) (fun k hk=>by
       rw[Below.heap_setCell _ _ _ _ hk,Below.heap_setCell _ _ _ _ hk,Below.heap_setCell _ _ _ _ hk,Below.heap_setCell _ _ _ _ hk,Below.heap_setCell _ _ _ _ hk])
      exact⟨bn,bf,bx,bp,bS,dn,df,dx,dp,ds,by unfold machV;rw[hn5,hf5,hx5,hp5,hs5],Ah⟩
    . repeat (first|refine Below.setCell ?_ (by simp) _ | exact HB3.o)
  .
   have HR5:=qH (show RES=(I4,E) by rw[Bd.o,qF (by rw[<- hE];exact he),<- hE]);clear hR3 hb3 hB3 hX3 yf Bd HC3 hE HX2;go_wp2_with fail;(try simp only[Exit.inBlock,Exit.then])
   refine qx (v:=.tuple #[.agg #[.slice none 0 0,.slice none 0 0,.slice none 0 0,.slice none 0 0,.slice none 0 0],.int .i64 E]) ?_ rfl ?_
   . rw[results_cell_tmp rfl];go_simp
   . rw[HR5.o];exact⟨_,rfl,S9.zero _ _,by repeat (first|refine Below.setCell ?_ (by simp) _ | exact HB3.o)⟩
 .
  obtain⟨K,hK⟩:=qE (mchk M);rw[<- hK]at HCK h0;rw[qF (by rw[<- hK];exact h0)]at Aj;rw[<- hK]at Aj;have Bd:=qH Aj;clear HST HSP Aj hK;go_enter func6,ntmps6;go_wp2_with fail;obtain⟨W0,hW0⟩:=qE ((w.alloc (.cells #[.slice an NN cn,.slice af NF cf,.slice ax NX cx,.slice ap NP cp,.slice aS NS cs] 30)).alloc (.cells #[.slice none 0 0,.slice none 0 0,.slice none 0 0,.slice none 0 0,.slice none 0 0] 30));rw[<- hW0];have hB0:Bq w W0:=by rw[hW0];exact ((Below.refl _ w).alloc (qA _) _).alloc (by simp) _
  have hX0:BX W0 w.heap.size (.slice an NN cn) (.slice af NF cf) (.slice ax NX cx) (.slice ap NP cp) (.slice aS NS cs):=by rw[hW0];exact⟨xQ _ _ _,xM _ _ _⟩
  refine qD (HCK.o W0 hB0) ?_;rintro e w1⟨rfl,hb1⟩;have HB1:Hid (Bq w w1):=hB0.trans (hb1.mono hB0.size);have hX1:=BX.below hX0 hb1;obtain⟨y0,y1,y2,y3,y4,yf⟩:=i8 hX1.2;have yf0:=yf 0;have yf1:=yf 1;have yf2:=yf 2;have yf3:=yf 3;have yf4:=yf 4;clear hW0 hB0 hX0 hb1 hX1 HCK yf;go_wp2_with fail;(try simp only[Exit.inBlock,Exit.then])
  refine qx (v:=.tuple #[.agg #[.slice none 0 0,.slice none 0 0,.slice none 0 0,.slice none 0 0,.slice none 0 0],.int .i64 K]) ?_ rfl ?_
  . rw[results_cell_tmp rfl];go_simp
  . rw[Bd.o];exact⟨_,rfl,S9.zero _ _,by repeat (first|refine Below.setCell ?_ (by simp) _ | exact HB1.o)⟩
theorem br1(an af ax ap aS:Option Addr)(cn cf cx cp cs:Nat)(M:SMach)(i:Int)(w:World)(h:RMach w an af ax ap aS cn cf cx cp cs M)(Ad:FitsM M)(hE:∀W,Bq w W->q8 W):
 Calls prog 6 #[machV an af ax ap aS M cn cf cx cp cs,.int .i64 i] w fun e w'=>∃v,e=.returned (.tuple #[v,.int .i64 (ab6 M i).2])/\E7 w' v (ab6 M i).1/\Bq w w':=by refine (bX7 an af ax ap aS cn cf cx cp cs M i w h Ad hE).mono ?_;rintro e w'⟨v,h1,h2,h3⟩;exact⟨v,h1,h2.ans,h3⟩
variable {G:World->qW->Prop}
def bh2(F:Nat):Prop:=∀(a:Option Addr)(n c:Nat)(pos:Int)(a':Option Addr)(n' c':Nat)(rd o:Bool)(w:World),Calls prog F #[.agg #[.slice a n c,.int .i64 pos,.slice a' n' c',.bool rd,.bool o]] w fun e w'=>e=.returned (.bool (!o))/\Bq w w'
theorem bX8:bh2 91:=by intro a n c pos a' n' c' rd o w;go_enter func91,ntmps91;go_wp2_with fail;go_ret;exact⟨rfl,boxE⟩
theorem bO7(F:Nat)(hF:bh2 F)(hE:∀args w,(callFunc F args).run prog w=.ok (.enter F args) w)(al:Option Addr)(cl:Nat)(ps:List SProc)(w:World)(hl:J7 w (.slice al ps.length cl) ps):
 Calls prog 120 #[.slice al ps.length cl,.func (.func F) #[] #[]] w fun e w'=>∃i:Int,e=.returned (.int .i64 i)/\((ps.all (fun p=>p.ov)=false->0<=i)/\(0<=i->ps.all (fun p=>p.ov)=false))/\Bq w w':=by
 have hle:=U7 hl;have HL:=qH hl;have HF:=qH hF;obtain⟨M,hM⟩:=qE ps.length;have HM:=qH hM;rw[<- hM]at HL hle ⊢;clear hl hF hM;go_enter func120,ntmps120;go_wp2_with fail;go_loopw [8] (fun i wr=>∃k:Nat,k<=M/\i=.int .i64 k/\Hid (Bq w wr)/\Hid (∀p∈ps.take k,p.ov=true)) (fun i _=>M-(intOf i).toNat)
 case atStart=>exact⟨0,qM _,rfl,Below.refl _ _,(show ∀p∈ps.take 0,p.ov=true by simp)⟩
 case round=>
  obtain⟨k,hk,rfl,Aa,hno⟩:=hrel;by_cases hlt:k<M
  .
   obtain⟨p,hp⟩:∃p,ps[k]?=some p:=⟨_,gEl (by have:=HM.o;omega)⟩;obtain⟨b,off,ag,cg,ab,cb,rfl,c0,c1,c2,c3,c4,_,_⟩:=(J7.below HL.o Aa.o).at hp;have HC:Hid _:=HF.o ag p.got.length cg p.pos ab p.out.length cb p.rd p.ov wr
   have HD2:=qH (show p.ov=false->ps.all (fun p=>p.ov)=false from fun h=>by
    rw[List.all_eq_false]
    exact⟨p,mGt hp,by simp[h]⟩)
   have HD3:Hid (p.ov=true->∀q∈ps.take (k+1),q.ov=true):=(show p.ov=true->∀q∈ps.take (k+1),q.ov=true from fun h q hq=>by
    rw[qZ,hp]at hq
    rcases xY.1 hq with hq | hq
    . exact hno.out q hq
    . simp at hq
      rw[hq]
      exact h)
   generalize p.got.length=n1,p.out.length=n2,p.pos=n3,p.rd=n4,p.ov=n5 at *;clear hp;go_wp2_with fail;refine qD HC.o ?_;rintro e w3⟨rfl,hb3⟩;have HB3:=qT Aa hb3;clear hb3 HC c0 c1 c2 c3 c4
   cases n5 with
   | false=>go_wp2_with fail;go_ret;exact⟨_,rfl,⟨fun _=>qO,fun _=>HD2.o trivial⟩,HB3.o⟩
   | true=>
    go_wp2_with fail;go_roundw
    case rel=>exact⟨k+1,qO,by go_num,HB3,HD3.o trivial⟩
    case measure=>simp[intOf];omega
  .
   have HN:=qH (show ps.all (fun p=>p.ov)=true by
    rw[zw]
    intro p hp
    exact hno.out p (by rw[qP (by have:=HM.o;omega)];exact hp))
   clear hno;go_wp2_with fail;go_ret;exact⟨_,rfl,⟨fun e=>(by rw[HN.o]at e;cases e),fun e=>absurd e qO⟩,Aa.o⟩
theorem bh3(F:Nat)(hF:bh2 F)(hE:∀args w,(callFunc F args).run prog w=.ok (.enter F args) w)(al:Option Addr)(cl:Nat)(ps:List SProc)(w:World)(hl:J7 w (.slice al ps.length cl) ps):
 Calls prog 90 #[.slice al ps.length cl,.func (.func F) #[] #[]] w fun e w'=>e=.returned (.bool (!ps.all (fun p=>p.ov)))/\Bq w w':=by
 have HI:Hid _:=bO7 F hF hE al cl ps w hl;generalize ps.all (fun p=>p.ov)=A,ps.length=N at *;clear hF hE hl;go_enter func90,ntmps90;go_wp2_with fail;refine qD HI.o ?_;rintro e w1⟨i,rfl,hi,hb⟩;have HB:=qH hb
 have HI2:=qH (show decide (0<=i) = !A by
  cases hA:A with
  | true=>
   rw[qG (fun h=>by have:=hi.2 h;rw[hA]at this;cases this)]
   rfl
  | false=>
   rw[qV (hi.1 hA)]
   rfl)
 clear hi hb HI;by_cases h:0<=i
 . go_wp2_with fail;go_ret;exact⟨by rw[<- HI2.o];first|rfl | simp[h],HB.o⟩
 . go_wp2_with fail;go_ret;exact⟨by rw[<- HI2.o];first|rfl | simp[h],HB.o⟩
theorem bX9(D r:Nat)(M:SMach)(w:World)(h:o6 G w D r M):Calls prog 57 #[.pointer (some ⟨r,0,none⟩)] w fun e w'=>e=.returned (.bool (overS M))/\Bq w w':=by
 obtain⟨an,af,ax,ap,aS,cn,cf,cx,cp,cs,vI,vM,Ak,hRM⟩:=o6.mach h;have HC:Hid _:=bh3 _ bX8 (enters_of func91 qQ rfl) ap cp M.ps w hRM.procs;obtain⟨b0,b1,b2,b3,b4,b5,b6⟩:=K9 Ak;have e1:overS M=M.ps.all (fun p=>p.ov):=rfl;rw[e1];generalize M.ps.all (fun p=>p.ov)=A,M.ps.length=NP at *;clear h Ak hRM b0 b1 b2 b4 b5 b6 e1;go_enter func57,ntmps57;go_wp2_with fail;refine qD HC.o ?_;rintro e w1⟨rfl,hb⟩;have HB:=qH hb;clear hb HC
 cases A
 all_goals
  go_wp2_with fail;go_ret;exact⟨rfl,HB.o⟩
structure InvM (ns:List SNode) (fs:List SFile) (I:SMach->Prop):Prop where
 shape:∀M,I M->Shape M
 small:∀M,I M->SmallM M
 nodes:∀M,I M->M.ns=ns/\M.fs=fs
 step:∀M a,I M->I (E3 M a).1
theorem InvM.to{I:SMach->Prop}(h:InvM ns fs I){M:SMach}(hM:I M):∀k,I (j7 M k).1
 | 0=>hM
 | k+1=>h.step _ _ (h.to hM k)
theorem bO8(ns:List SNode)(fs:List SFile)(I:SMach->Prop)(hI:InvM ns fs I)(Ad:∀n∈ns,G8 n)(D r:Nat)(M:SMach)(w:World)(h:o6 G w D r M)(hM:I M)(hE:∀W,Below D w W->q8 W):
 Calls prog 58 #[.pointer (some ⟨r,0,none⟩)] w fun e w'=>e=.returned (.bool (H4 M).2)/\o6 G w' D r (H4 M).1/\Below D w w':=by
 have Hm:Hid (∀(k:Nat)(W:World),k<M.ps.length->o6 G W D r (j7 M k).1->Below D w W->Calls prog 22 #[.pointer (some ⟨r,0,none⟩),.int .i64 k] W fun e w'=>e=.returned (.int .i64 (E3 (j7 M k).1 k).2)/\o6 G w' D r (E3 (j7 M k).1 k).1/\Below D W w'):=(show ∀(k:Nat)(W:World),_ from fun k W hk hR hW=>by
  have hIk:=hI.to hM k
  have hSk:=hI.shape _ hIk
  have hpl:(j7 M k).1.ps.length=M.ps.length:=by rw[hSk.plen,(hI.nodes _ hIk).1,<- (hI.nodes _ hM).1,(hI.shape _ hM).plen]
  obtain⟨O,d,hR1,hd⟩:=hR
  have:=aP2 D r O d (k:Int) W hR1 (by rw[hd];exact hSk) (by rw[hd,(hI.nodes _ hIk).1];exact Ad) (by rw[hd];exact hI.small _ hIk) (fun V hV=>hE V (hW.trans hV))
  rw[hd]at this
  have e1:stepS (j7 M k).1 (k:Int)=E3 (j7 M k).1 k:=by
   unfold stepS
   rw[qB qO,qh]
  rw[e1]at this
  exact this)
 obtain⟨an,af,ax,ap,aS,cn,cf,cx,cp,cs,vI,vM,Ak,hRM⟩:=o6.mach h;obtain⟨b0,b1,b2,b3,b4,b5,b6⟩:=K9 Ak;have HH:=qH h;unfold H4;obtain⟨NP,hNP⟩:=qE M.ps.length;rw[<- hNP]at Hm b3 ⊢;have HNB:=qH (show NP<=100 by have:=(hI.shape _ hM).plen;have:=(hI.shape _ hM).g.le60;omega);have hnp:=HNB.o;clear h hM hE hI Ad Ak hRM hNP b0 b1 b2 b4 b5 b6;go_enter func58,ntmps58;go_wp2_with fail;clear b3;go_loopw [3,11] (fun z3 z wr=>∃k:Nat,k<=NP/\z3=.bool (j7 M k).2/\z=.int .i64 k/\Hid (o6 G wr D r (j7 M k).1)/\Hid (Below D w wr)) (fun _ z _=>NP-(intOf z).toNat)
 case atStart=>exact⟨0,qM _,rfl,rfl,HH,Below.refl _ _⟩
 case round=>
  obtain⟨k,hk,rfl,rfl,hR,Aa⟩:=hrel;by_cases hlt:k<NP
  .
   have HC:Hid _:=Hm.o k wr hlt hR.out Aa.o;obtain⟨B,hB⟩:=qE ((j7 M k).2);obtain⟨E,hE⟩:=qE ((E3 (j7 M k).1 k).2);have HE2:Hid ((j7 M (k+1)).2=(B || decide (E=0))/\(j7 M (k+1)).1=(E3 (j7 M k).1 k).1):=⟨by rw[hB,hE];rfl,rfl⟩;rw[<- hE]at HC;rw[<- hB];clear hR hB hE;go_wp2_with fail;refine qD HC.o ?_;rintro e w3⟨rfl,hR3,hb3⟩;have HR3:=qH (show o6 G w3 D r (j7 M (k+1)).1 by rw[HE2.o.2];exact hR3);have HB3:Hid (Below D w w3):=Aa.o.trans hb3;clear hR3 hb3 HC;by_cases he:E=0
   . have HQ:=qH (show (j7 M (k+1)).2=true by rw[HE2.o.1,he];simp);go_wp2_with fail;go_roundw
     case rel=>exact⟨k+1,qO,by rw[HQ.o],by go_num,HR3,HB3⟩
     case measure=>simp[intOf];omega
   . have HQ:=qH (show (j7 M (k+1)).2=B by rw[HE2.o.1,qG he,Bool.or_false]);go_wp2_with fail;go_roundw
     case rel=>exact⟨k+1,qO,by rw[HQ.o],by go_num,HR3,HB3⟩
     case measure=>simp[intOf];omega
  . have e:k=NP:=qO;subst e;go_wp2_with fail;go_ret;exact⟨rfl,hR.out,Aa.o⟩
end Go.Proofs.YtmejdflmcikkdaaGreatDoor
namespace Go.Proofs.YtmejdflmcikkdaaGreatDoor
open Go.RowKit Go.Gs Go.Maps Tryz
theorem br4(P:Nat->World->Prop):∃f:World->Nat,∀wr k,P k wr->P (f wr) wr/\f wr<=k:=by
 have h1:∀wr,∃n,∀k,P k wr->P n wr/\n<=k:=by
  intro wr;by_cases h:∃k,P k wr
  .
   obtain⟨k,hk⟩:=h
   induction k using Nat.strongRecOn with
   | ind k ih=>
    by_cases h2:∃j,j<k/\P j wr
    . obtain⟨j,hj,hp⟩:=h2;exact ih j hj hp
    . refine⟨k,fun q hq=>⟨hk,?_⟩⟩;by_cases h3:k<=q
      . exact h3
      . exact absurd ⟨q,qO,hq⟩ h2
  . exact⟨0,fun k hk=>absurd ⟨k,hk⟩ h⟩
 exact⟨fun wr=>Classical.choose (h1 wr),fun wr=>Classical.choose_spec (h1 wr)⟩
theorem o6.below{w w':World}{D r:Nat}{M:SMach}(h:o6 NoG w D r M)(hb:Bq w w'):o6 NoG w' D r M:=by obtain⟨O,d,h1,h2⟩:=h;exact⟨O,d,RMem.below h1 hb,h2⟩
def finR(M:SMach)(res:SMach × Int):SMach × Int:=if mchk M≠0 then (I4,mchk M) else res
theorem bC0(an af ax ap aS:Option Addr)(cn cf cx cp cs:Nat)(M:SMach)(w:World)(h:RMach w an af ax ap aS cn cf cx cp cs M)(Ad:FitsM M)(hE:∀W,Bq w W->q8 W)
 (I:SMach->Prop) (hI:mchk M=0->InvM M.ns M.fs I) (hM:mchk M=0->I M) (k0:Nat) (res:SMach × Int) (Ed:mchk M=0->Fins k0 M res):
 Calls prog 17 #[machV an af ax ap aS M cn cf cx cp cs] w fun e w'=>∃v,e=.returned (.tuple #[v,.int .i64 (finR M res).2])/\S9 w.heap.size w' v (finR M res).1/\Bq w w':=by
 have HCK:=qH (show ∀W,Bq w W->Calls prog 10 #[machV an af ax ap aS M cn cf cx cp cs] W fun e w'=>e=.returned (.int .i64 (mchk M))/\Bq W w' from fun W hW=>ak3 an af ax ap aS cn cf cx cp cs M W (h.below hW) Ad)
 have HST:=qH (show mchk M=0->∀W,Bq w W->Calls prog 21 #[machV an af ax ap aS M cn cf cx cp cs] W fun e w'=>∃D r,e=.returned (.pointer (some ⟨r,0,none⟩))/\o6 NoG w' D r M/\W.heap.size<=D/\Bq W w' from fun h0 W hW=>by
  obtain⟨q1,q2,q3⟩:=M7 h0
  exact aw7 an af ax ap aS cn cf cx cp cs M W (h.below hW) (aD5 q1 (fun p hp=>⟨fun b hb=>by have:=(q2 p hp).1 b hb;omega,fun b hb=>by have:=(q2 p hp).2 b hb;omega⟩) qO) q1 Ad.nodes)
 have HRD:Hid (mchk M=0->∀(D r:Nat)(M':SMach)(W:World),o6 NoG W D r M'->I M'->w.heap.size<=D->Bq w W->Calls prog 58 #[.pointer (some ⟨r,0,none⟩)] W fun e w'=>e=.returned (.bool (H4 M').2)/\o6 NoG w' D r (H4 M').1/\Below D W w'):=(show mchk M=0->∀(D r:Nat)(M':SMach)(W:World),_ from fun h0 D r M' W hR hI' hD hW=>bO8 M.ns M.fs I (hI h0) Ad.nodes D r M' W hR hI' (fun V hV=>hE V (hW.trans (hV.mono hD))));have HTO:=qH (show mchk M=0->∀M',I M'->I (H4 M').1 from fun h0 M' hM'=>(hI h0).to hM' _);have HI0:=qH (show mchk M=0->I M/\Fins k0 M res from fun h0=>⟨hM h0,Ed h0⟩);unfold machV at HCK HST ⊢;obtain⟨RES,Aj⟩:=qE (finR M res);rw[<- Aj];unfold finR at Aj;generalize M.ns.length=NN,M.fs.length=NF,M.pipes.length=NX,M.ps.length=NP,M.sunk.length=NS at *;clear h Ad hE hI hM Ed;by_cases h0:mchk M=0
 .
  have Df:Hid _:=HST.o h0;have Cj:Hid _:=HRD.o h0;have Mc:Hid _:=HTO.o h0;have HI2:Hid _:=HI0.o h0;rw[qB (by simpa using h0)]at Aj;subst Aj;rw[h0]at HCK;clear HST HRD HTO HI0 h0;go_enter func17,ntmps17;go_wp2_with fail;obtain⟨W0,hW0⟩:=qE ((w.alloc (.cells #[.slice an NN cn,.slice af NF cf,.slice ax NX cx,.slice ap NP cp,.slice aS NS cs] 30)).alloc (.cells #[.slice none 0 0,.slice none 0 0,.slice none 0 0,.slice none 0 0,.slice none 0 0] 30));rw[<- hW0];have hB0:Bq w W0:=by rw[hW0];exact ((Below.refl _ w).alloc (qA _) _).alloc (by simp) _
  have hX0:BX W0 w.heap.size (.slice an NN cn) (.slice af NF cf) (.slice ax NX cx) (.slice ap NP cp) (.slice aS NS cs):=by rw[hW0];exact⟨xQ _ _ _,xM _ _ _⟩
  refine qD (HCK.o W0 hB0) ?_;rintro e w1⟨rfl,hb1⟩;have hB1:Bq w w1:=hB0.trans (hb1.mono hB0.size);have hX1:=BX.below hX0 hb1;obtain⟨x0,x1,x2,x3,x4,_⟩:=i8 hX1.1;have HB1:=qH hB1;have HX1:=qH hX1;clear hW0 hB0 hX0 hb1 hB1 hX1 HCK;go_wp2_with fail;refine qD (Df.o w1 HB1.o) ?_;rintro e w2⟨D,r,rfl,hR2,hD,hb2⟩;have HB2:=qT HB1 hb2;have HX2:Hid (BX w2 w.heap.size (.slice an NN cn) (.slice af NF cf) (.slice ax NX cx) (.slice ap NP cp) (.slice aS NS cs)):=BX.below HX1.o hb2;have HDX:=qH (show w.heap.size+2<=D by have:=BX.lt HX1.o;omega);obtain⟨f,hf⟩:=br4 (fun k wr=>∃M',o6 NoG wr D r M'/\I M'/\Fins k M' RES);have HF:=qH hf;have HP2:=qH (show ∃k,∃M',o6 NoG w2 D r M'/\I M'/\Fins k M' RES from ⟨k0,M,hR2,HI2.o.1,HI2.o.2⟩);clear hR2 hD hb2 Df x0 x1 x2 x3 x4 HX1 hf HI2;go_upto_region 5 with fail;go_loopw [14] (fun _ wr=>Hid (∃k,∃M',o6 NoG wr D r M'/\I M'/\Fins k M' RES)/\Hid (BX wr w.heap.size (.slice an NN cn) (.slice af NF cf) (.slice ax NX cx) (.slice ap NP cp) (.slice aS NS cs))/\Hid (Bq w wr)) (fun _ wr=>f wr)
  case atStart=>exact⟨HP2,HX2,HB2⟩
  case round=>
   obtain⟨hP,hX,hB⟩:=hrel;clear HP2 HX2 HB2;obtain⟨k,hk⟩:=hP.out;obtain⟨⟨M',hR,hI',hFin⟩,_⟩:=HF.o wr k hk;have HOV:Hid _:=bX9 D r M' wr hR;have HR:=qH hR;have HI':=qH hI';have Gg:=qH hFin;clear hP hk hR hI' hFin;go_wp2_with fail;refine qD HOV.o ?_;rintro e w3⟨rfl,hb3⟩;have hR3:=o6.below HR.o hb3;have hX3:=BX.below hX.out hb3;have hB3:Bq w w3:=hB.out.trans (hb3.mono hB.out.size);clear HOV hb3
   cases ho:overS M' with
   | true=>
    have Js:RES=(M',0):=by
     have h1:=Gg.o
     cases hn:f wr with
     | zero=>
      rw[hn]at h1;rcases h1 with⟨_,h2⟩|⟨h2,_⟩
      . exact h2
      . rw[ho]at h2;cases h2
     | succ n=>
      rw[hn]at h1;have:=h1.1;rw[ho]at this
      cases this
    have Bd:=qH Js;obtain⟨hrD,bn,bf,bx,bp,bS,dn,df,dx,dp,ds,vI,vM,Ak,hRM⟩:=o6.machX hR3;have HRM:Hid (∀(w':World),w'.heap.size=w3.heap.size->(∀k,k≠w.heap.size+1->w'.heap[k]?=w3.heap[k]?)->aA3 w.heap.size w' bn bf bx bp bS dn df dx dp ds M'):=(show ∀(w':World),_ from fun w' h1 h2=>aw9 hRM (by have:=HDX.o;omega) (bg3 hX3) qO h1 h2);obtain⟨c0,c1,c2,c3,c4,_,_⟩:=K9 Ak;have hrw:r≠w.heap.size+1:=by have:=HDX.o;omega
    have hrw':w.heap.size+1≠r:=qO;have HB3:=qH hB3;obtain⟨y0,y1,y2,y3,y4,yf⟩:=i8 hX3.2;have yf0:=yf 0;have yf1:=yf 1;have yf2:=yf 2;have yf3:=yf 3;have yf4:=yf 4;generalize hn5:M'.ns.length=N5 at *;generalize hf5:M'.fs.length=F5 at *;generalize hx5:M'.pipes.length=X5 at *;generalize hp5:M'.ps.length=P5 at *;generalize hs5:M'.sunk.length=S5 at *;clear Js hR3 hX3 hB3 Ak hRM yf ho HF;go_wp2_with fail;(try simp only[Exit.inBlock,Exit.then])
    refine qx (v:=.tuple #[.agg #[.slice bn N5 dn,.slice bf F5 df,.slice bx X5 dx,.slice bp P5 dp,.slice bS S5 ds],.int .i64 0]) ?_ rfl ?_
    . rw[results_cell_tmp rfl];go_simp
    . rw[Bd.o];refine⟨.agg #[.slice bn N5 dn,.slice bf F5 df,.slice bx X5 dx,.slice bp P5 dp,.slice bS S5 ds],rfl,?_,?_⟩
      . exact⟨bn,bf,bx,bp,bS,dn,df,dx,dp,ds,by unfold machV;rw[hn5,hf5,hx5,hp5,hs5],HRM.o _ (by simp) (fun k hk=>by
         rw[Below.heap_setCell _ _ _ _ hk,Below.heap_setCell _ _ _ _ hk,Below.heap_setCell _ _ _ _ hk,Below.heap_setCell _ _ _ _ hk,Below.heap_setCell _ _ _ _ hk])⟩
      . repeat (first|refine Below.setCell ?_ (by simp) _ | exact HB3.o)
   | false=>
    have HRDx:Hid _:=Cj.o D r M' w3 hR3 HI'.o (by have:=HDX.o;omega) hB3;have HX3:=qH hX3;have HB3:=qH hB3;have HO:=qH ho;clear hR3 hX3 hB3 ho;go_wp2_with fail;refine qD HRDx.o ?_;rintro e w4⟨rfl,hR4,hb4⟩;have hX4:BX w4 w.heap.size (.slice an NN cn) (.slice af NF cf) (.slice ax NX cx) (.slice ap NP cp) (.slice aS NS cs):=BX.keep HX3.o (fun k hk=>hb4.block k (by have:=HDX.o;omega));have HB4:Hid (Bq w w4):=HB3.o.trans (hb4.mono (by have:=HDX.o;omega));clear hb4 HRDx HX3
    cases hw:(H4 M').2 with
    | false=>
     have Bd:=qH (show RES=(I4,8) by
      have h1:=Gg.o
      cases hn:f wr with
      | zero=>
       rw[hn]at h1
       rcases h1 with⟨h2,_⟩|⟨_,_,h2⟩
       . rw[HO.o]at h2;cases h2
       . exact h2
      | succ n=>
       rw[hn]at h1
       have:=h1.2.1
       rw[hw]at this
       cases this)
     obtain⟨y0,y1,y2,y3,y4,yf⟩:=i8 hX4.2;have yf0:=yf 0;have yf1:=yf 1;have yf2:=yf 2;have yf3:=yf 3;have yf4:=yf 4;clear hR4 hX4 hw yf HF;go_wp2_with fail;(try simp only[Exit.inBlock,Exit.then])
     refine qx (v:=.tuple #[.agg #[.slice none 0 0,.slice none 0 0,.slice none 0 0,.slice none 0 0,.slice none 0 0],.int .i64 8]) ?_ rfl ?_
     . rw[results_cell_tmp rfl];go_simp
     . rw[Bd.o];exact⟨_,rfl,S9.zero _ _,by repeat (first|refine Below.setCell ?_ (by simp) _ | exact HB4.o)⟩
    | true=>
     have Qa:∃n,f wr=n+1/\Fins n (H4 M').1 RES:=by
      have h1:=Gg.o
      cases hn:f wr with
      | zero=>
       rw[hn]at h1;rcases h1 with⟨h2,_⟩|⟨_,h2,_⟩
       . rw[HO.o]at h2;cases h2
       . rw[hw]at h2;cases h2
      | succ n=>rw[hn]at h1;exact⟨n,rfl,h1.2.2⟩
     have HP4:=qH (show ∃k,∃M',o6 NoG w4 D r M'/\I M'/\Fins k M' RES from by
      obtain⟨n,_,h2⟩:=Qa
      exact⟨n,_,hR4,Mc.o M' HI'.o,h2⟩)
     have HLT:=qH (show f w4<f wr by
      obtain⟨n,h1,h2⟩:=Qa
      have:=(HF.o w4 n ⟨_,hR4,Mc.o M' HI'.o,h2⟩).2
      omega)
     have HX4:=qH hX4;clear Qa hR4 hX4 hw;go_wp2_with fail;go_roundw
     case rel=>exact⟨HP4,HX4,HB4⟩
     case measure=>exact HLT.o
 .
  obtain⟨K,hK⟩:=qE (mchk M);rw[<- hK]at HCK h0;rw[qF (by rw[<- hK];exact h0)]at Aj;rw[<- hK]at Aj;have Bd:=qH Aj;clear HST HRD HTO HI0 Aj hK;go_enter func17,ntmps17;go_wp2_with fail;obtain⟨W0,hW0⟩:=qE ((w.alloc (.cells #[.slice an NN cn,.slice af NF cf,.slice ax NX cx,.slice ap NP cp,.slice aS NS cs] 30)).alloc (.cells #[.slice none 0 0,.slice none 0 0,.slice none 0 0,.slice none 0 0,.slice none 0 0] 30));rw[<- hW0];have hB0:Bq w W0:=by rw[hW0];exact ((Below.refl _ w).alloc (qA _) _).alloc (by simp) _
  have hX0:BX W0 w.heap.size (.slice an NN cn) (.slice af NF cf) (.slice ax NX cx) (.slice ap NP cp) (.slice aS NS cs):=by rw[hW0];exact⟨xQ _ _ _,xM _ _ _⟩
  refine qD (HCK.o W0 hB0) ?_;rintro e w1⟨rfl,hb1⟩;have HB1:Hid (Bq w w1):=hB0.trans (hb1.mono hB0.size);have hX1:=BX.below hX0 hb1;obtain⟨y0,y1,y2,y3,y4,yf⟩:=i8 hX1.2;have yf0:=yf 0;have yf1:=yf 1;have yf2:=yf 2;have yf3:=yf 3;have yf4:=yf 4;clear hW0 hB0 hX0 hb1 hX1 HCK yf;go_wp2_with fail;(try simp only[Exit.inBlock,Exit.then])
  refine qx (v:=.tuple #[.agg #[.slice none 0 0,.slice none 0 0,.slice none 0 0,.slice none 0 0,.slice none 0 0],.int .i64 K]) ?_ rfl ?_
  . rw[results_cell_tmp rfl];go_simp
  . rw[Bd.o];exact⟨_,rfl,S9.zero _ _,by repeat (first|refine Below.setCell ?_ (by simp) _ | exact HB1.o)⟩
theorem aQ5(an af ax ap aS:Option Addr)(cn cf cx cp cs:Nat)(M:SMach)(w:World)(h:RMach w an af ax ap aS cn cf cx cp cs M)(Ad:FitsM M)(hE:∀W,Bq w W->q8 W)
 (I:SMach->Prop) (hI:mchk M=0->InvM M.ns M.fs I) (hM:mchk M=0->I M) (k0:Nat) (res:SMach × Int) (Ed:mchk M=0->Fins k0 M res):
 Calls prog 17 #[machV an af ax ap aS M cn cf cx cp cs] w fun e w'=>∃v,e=.returned (.tuple #[v,.int .i64 (finR M res).2])/\E7 w' v (finR M res).1/\Bq w w':=by refine (bC0 an af ax ap aS cn cf cx cp cs M w h Ad hE I hI hM k0 res Ed).mono ?_;rintro e w'⟨v,h1,h2,h3⟩;exact⟨v,h1,h2.ans,h3⟩
theorem cd0{M:SMach}(h:mchk M=0):total M<=59000000:=by
 obtain⟨hS,h2,h3⟩:=M7 h;have h60:=hS.g.le60;have hx:M.pipes.length<=300:=ap1 hS
 have a1:ad2 M.pipes<=M.pipes.length*40000:=bd4 _ _ _ (fun x hx=>by
  have hg:=Q7 (hS.pipe x hx)
  have:=ae1 hg.2.1
  have:=hg.2.2.1
  omega)
 have a2:(M.ps.map F4).sum<=M.ps.length*404100:=bd4 _ _ _ (fun p hp=>by
  obtain⟨i,hi⟩:=qw hp
  obtain⟨n,hn⟩:∃n,M.ns[i]?=some n:=⟨_,gEl (by rw[<- hS.plen];exact (gSm hi).1)⟩
  have hF:=hS.proc i n p hn hi
  have hc:=hS.g.node n (mGt hn)
  have k1:=aL4 40000 p.got (h2 p hp).1
  have k2:=aL4 40000 p.out (h2 p hp).2
  have k3:=(A1 hc).1
  have k4:=aw8 hc
  have k5:=hF.glen
  have k6:=hF.olen
  have k7:p.got.length*40000<=5*40000:=Nat.mul_le_mul qO (qA _)
  have k8:p.out.length*40000<=5*40000:=Nat.mul_le_mul qO (qA _)
  unfold F4
  split <;> omega)
 have a3:M.pipes.length*40000<=300*40000:=Nat.mul_le_mul hx (qA _);have a4:M.ps.length*404100<=60*404100:=Nat.mul_le_mul (by rw[hS.plen];exact h60) (qA _);unfold total;omega
def TotI(ns:List SNode)(fs:List SFile)(M:SMach):Prop:=Shape M/\total M<=59000000/\M.ns=ns/\M.fs=fs
theorem aQ1{M:SMach}(h:total M<=59000000):SmallM M:=by
 have hp:∀p∈M.ps,F4 p<=59000000:=fun p hp=>by have:=aL3 F4 M.ps p hp;unfold total at h;omega
 refine⟨fun p h1=>?_,fun p h1 b hb=>?_,by unfold total at h;omega⟩
 . have:=hp p h1;unfold F4 at this;omega
 . have h2:=hp p h1;have h3:=A3 hb;unfold F4 at h2;omega
theorem aA7(ns:List SNode)(fs:List SFile):InvM ns fs (TotI ns fs):=
 ⟨fun M h=>h.1,fun M h=>aQ1 h.2.1,fun M h=>h.2.2,fun M a h=>by
  obtain⟨h1,h2,h3,_⟩:=aK2 h.1 a
  have h4:=bT8 h.1 (by have:=h.2.1;omega) a
  have:=h.2.1
  exact⟨h1,qO,h2.trans h.2.2.1,h3.trans h.2.2.2⟩⟩
theorem aI2{M:SMach}(h:mchk M=0):TotI M.ns M.fs M:=⟨(M7 h).1,cd0 h,rfl,rfl⟩
end Go.Proofs.YtmejdflmcikkdaaGreatDoor
