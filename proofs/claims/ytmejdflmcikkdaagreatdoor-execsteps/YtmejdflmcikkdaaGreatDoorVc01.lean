/- The law ExecSteps, walked, and more. -/
import Derived.Test.YtmejdflmcikkdaaGreatDoorVAb
import Derived.Test.YtmejdflmcikkdaaGreatDoorVa41
import Derived.Test.YtmejdflmcikkdaaGreatDoorVa35
import Derived.Test.YtmejdflmcikkdaaGreatDoorVc00
set_option linter.all false
set_option maxRecDepth 100000
set_option maxHeartbeats 64000000
namespace Go.Proofs.YtmejdflmcikkdaaGreatDoor
open Go.RowKit Go.Gs Go.Maps Tryz
variable {i:Int}
def U3(M:SMach)(i:Int):Int:=if mchk M≠0 then mchk M else (stepS M i).2
theorem bQ7(M:SMach)(i:Int):(ab6 M i).2=U3 M i:=by
 unfold ab6 U3;split
 . rfl
 . split <;> rfl
theorem bQ8{M:SMach}(h:U3 M i≠0):(ab6 M i).1=I4:=by
 unfold U3 at h;unfold ab6;split at h
 . rename_i h1;rw[qF h1]
 . rename_i h1;rw[qB h1,qF h]
theorem bZ6{M:SMach}(h:U3 M i=0):mchk M=0/\(ab6 M i).1=(stepS M i).1:=by
 unfold U3 at h;split at h
 . rename_i h1;exact absurd h h1
 . rename_i h1;have h0:mchk M=0:=qO;refine⟨h0,?_⟩;unfold ab6;rw[qB h1,qB (by simpa using h)]
theorem bZ7(ns:List SNode)(fs:List SFile)(room:Int):(newS ns fs room).2=if gchk ns≠0 then gchk ns else if fchk fs≠0 then fchk fs else if room<1\/1000<room then 3 else 0:=by
 unfold newS;split
 . rfl
 . split
   . rfl
   . split <;> rfl
theorem bi3(an af ax ap aS:Option Addr)(cn cf cx cp cs:Nat)(M:SMach)(i:Int)(bn bf:Option Addr)(dn df:Nat)(ns:List SNode)(fs:List SFile)(room:Int)(w:World)(hM:RMach w an af ax ap aS cn cf cx cp cs M)(Ad:FitsM M)(hkM:∀n∈M.ns,(Lit.int .i64 n.c.kind).wf=true)(hsz:SizeM M)(hN:y8 w (.slice bn ns.length dn) ns)(hF:o8 w (.slice bf fs.length df) fs)(hfn:∀n∈ns,G8 n)(hkn:∀n∈ns,(Lit.int .i64 n.c.kind).wf=true)(hff:∀f∈fs,al0 f)(hE:q8 w)(hsh:w.ShapedOpen prog):
 Calls prog 3 #[machV an af ax ap aS M cn cf cx cp cs,.int .i64 i,.agg #[.slice bn ns.length dn],.slice bf fs.length df,.int .i64 room] w fun e w'=>e=.returned (.bool true)/\Bq w w':=by
 have Hg:=qH (show ∀V,Bq w V->Calls prog 5 #[machV an af ax ap aS M cn cf cx cp cs] V fun e w'=>∃a0 a1 a2 a3 a4 c0 c1 c2 c3 c4 D,e=.returned (.agg #[.slice a0 M.ns.length c0,.slice a1 M.fs.length c1,.slice a2 M.pipes.length c2,.slice a3 M.ps.length c3,.slice a4 M.sunk.length c4])/\Hid (RMach (w'.alloc (.cells #[.slice a0 M.ns.length c0,.slice a1 M.fs.length c1,.slice a2 M.pipes.length c2,.slice a3 M.ps.length c3,.slice a4 M.sunk.length c4] 30)) a0 a1 a2 a3 a4 c0 c1 c2 c3 c4 M/\(∃O',RefA NoG (w'.alloc (.cells #[.slice a0 M.ns.length c0,.slice a1 M.fs.length c1,.slice a2 M.pipes.length c2,.slice a3 M.ps.length c3,.slice a4 M.sunk.length c4] 30)) D w'.heap.size O' M)/\V.heap.size<=D/\Bq V w') from fun V hV=>by
  refine qD (ao6 an af ax ap aS cn cf cx cp cs M V (hM.below hV) hsz) ?_
  rintro e w'⟨D,vN,vF,vX,vP,sS,X,P,O,rfl,Im,hD,hb⟩
  obtain⟨a0,a1,a2,a3,a4,c0,c1,c2,c3,c4,rfl,rfl,rfl,rfl,e4,k1,k2⟩:=bF9 Im
  exact⟨a0,a1,a2,a3,a4,c0,c1,c2,c3,c4,D,by rw[e4],k1,k2,hD,hb⟩)
 have HCM:=qH (show ∀V,Bq w V->Calls prog 8 #[machV an af ax ap aS M cn cf cx cp cs] V fun e w'=>e=.returned (.int .i64 (mchk M))/\Bq V w' from fun V hV=>ai7 an af ax ap aS cn cf cx cp cs M V (hM.below hV) Ad hkM);have HCK:=qH (show ∀V,Bq w V->Calls prog 10 #[machV an af ax ap aS M cn cf cx cp cs] V fun e w'=>e=.returned (.int .i64 (mchk M))/\Bq V w' from fun V hV=>ak3 an af ax ap aS cn cf cx cp cs M V (hM.below hV) Ad);have HMI:=qH (show ∀V,Bq w V->Calls prog 9 #[] V fun e w'=>e=.returned (.bool true)/\Bq V w' from fun V hV=>aG3 V (hE.below hV));have HNW:=qH (show ∀V,Bq w V->Calls prog 7 #[.agg #[.slice bn ns.length dn],.slice bf fs.length df,.int .i64 room] V fun e w'=>∃v,e=.returned (.tuple #[v,.int .i64 (newS ns fs room).2])/\E7 w' v (newS ns fs room).1/\Bq V w' from fun V hV=>bG3 bn bf dn df ns fs room V (hN.below hV) (hF.below hV) hfn hff);have HCG:=qH (show ∀V,Bq w V->Calls prog 12 #[.agg #[.slice bn ns.length dn]] V fun e w'=>e=.returned (.int .i64 (gchk ns))/\Bq V w' from fun V hV=>aQ8 ns bn dn V (hN.below hV) hfn hkn);have HCF:=qH (show ∀V,Bq w V->Calls prog 13 #[.slice bf fs.length df] V fun e w'=>e=.returned (.int .i64 (fchk fs))/\Bq V w' from fun V hV=>ap6 bf df fs V (hF.below hV) hff);have HFR:=qH (show gchk ns=0->∀V,Bq w V->Calls prog 14 #[.agg #[.slice bn ns.length dn],.slice bf fs.length df,.int .i64 room] V fun e w'=>∃v,e=.returned v/\E7 w' v (E4 ns fs room)/\Bq V w' from fun h0 V hV=>bQ0 bn bf dn df ns fs room V (hN.below hV) (hF.below hV) h0)
 have HST:Hid (∀(V:World)(a0 a1 a2 a3 a4:Option Addr)(c0 c1 c2 c3 c4:Nat),Bq w V->RMach V a0 a1 a2 a3 a4 c0 c1 c2 c3 c4 M->Calls prog 6 #[machV a0 a1 a2 a3 a4 M c0 c1 c2 c3 c4,.int .i64 i] V fun e w'=>∃v,e=.returned (.tuple #[v,.int .i64 (U3 M i)])/\E7 w' v (ab6 M i).1/\Bq V w'):=(show ∀(V:World)(a0 a1 a2 a3 a4:Option Addr)(c0 c1 c2 c3 c4:Nat),_ from fun V a0 a1 a2 a3 a4 c0 c1 c2 c3 c4 hV hR=>by
  have:=br1 a0 a1 a2 a3 a4 c0 c1 c2 c3 c4 M i V hR Ad (fun U hU=>(hE.below hV).below hU)
  rw[bQ7]at this
  exact this)
 have Ft:Hid (mchk M=0->∀(j:Nat)(n:SNode)(p:SProc)(V:World)(D r:Nat)(O:qW),i=(j:Int)->M.ns[j]?=some n->M.ps[j]?=some p->Bq w V->w.heap.size<=D->RefA NoG V D r O M->Calls prog 15 #[.pointer (some ⟨r,0,none⟩),.int .i64 i] V fun e w'=>e=.returned (.int .i64 (U3 M i))/\(∃O',RefA NoG w' D r O' (stepS M i).1)/\Below D V w'):=(show mchk M=0->∀(j:Nat)(n:SNode)(p:SProc)(V:World)(D r:Nat)(O:qW),_ from fun h0 j n p V D r O ei hn hp hV hD hA=>by
  obtain⟨d,h1,h2,h3⟩:=hA
  obtain⟨hS,hb,hsk⟩:=M7 h0
  have e1:stepS M i=Y5 M j n p:=by
   have hjl:=(gSm hp).1
   unfold stepS
   rw[qB qO,ei,qh]
   unfold E3
   rw[hn,hp]
  have e2:U3 M i=(Y5 M j n p).2:=by unfold U3;rw[qB qO,e1]
  subst h3
  have hk:=aG7 D r O d j n p V h1 h2 hS hn hp Ad.nodes (aY8 hS (fun p hp=>⟨fun b hb'=>by have:=(hb p hp).1 b hb';omega,fun b hb'=>by have:=(hb p hp).2 b hb';omega⟩) qO) (fun U hU=>by
   have hU':Bq w U:=hV.trans (hU.mono hD)
   exact⟨hE.below hU',M4 hsh hU'⟩)
  rw[ei]
  rw[ei]at e1 e2
  refine qD hk ?_
  rintro e w'⟨rfl,O',k1,k2⟩
  rw[e1,e2]
  exact⟨rfl,⟨O',k1⟩,k2.below h1.lo h1.le⟩)
 have HNE:Hid _:=bZ7 ns fs room;have HKM:=qH (show mchk M=0->M.ps.length=M.ns.length from fun h0=>(M7 h0).1.plen);have HMM:=qH hM;obtain⟨NN,hNN⟩:=qE M.ns.length;obtain⟨NF,hNF⟩:=qE M.fs.length;obtain⟨NX,hNX⟩:=qE M.pipes.length;obtain⟨NP,hNP⟩:=qE M.ps.length;obtain⟨NS,hNS⟩:=qE M.sunk.length;obtain⟨GN,hGN⟩:=qE ns.length;obtain⟨GF,hGF⟩:=qE fs.length;have HL:Hid (NN=M.ns.length/\NF=M.fs.length/\NX=M.pipes.length/\NP=M.ps.length/\NS=M.sunk.length):=⟨hNN,hNF,hNX,hNP,hNS⟩;have HMV:=qH (show ∀a0 a1 a2 a3 a4 c0 c1 c2 c3 c4,machV a0 a1 a2 a3 a4 M c0 c1 c2 c3 c4=.agg #[.slice a0 NN c0,.slice a1 NF c1,.slice a2 NX c2,.slice a3 NP c3,.slice a4 NS c4] from fun a0 a1 a2 a3 a4 c0 c1 c2 c3 c4=>by rw[hNN,hNF,hNX,hNP,hNS];rfl);rw[HMV.o]at Hg HCM HCK ⊢;rw[<- hNN,<- hNF,<- hNX,<- hNP,<- hNS]at Hg;rw[<- hGN]at HNW HCG HFR ⊢;rw[<- hGF]at HNW HCF HFR ⊢;have hps:NP<=cp/\cp<=9223372036854775807:=by rw[hNP];exact U7 hM.procs
 clear hM Ad hkM hsz hN hF hfn hkn hff hE hsh hNN hNF hNX hNP hNS hGN hGF;obtain⟨W0,hW0⟩:=qE ((w.alloc (.cells #[.slice an NN cn,.slice af NF cf,.slice ax NX cx,.slice ap NP cp,.slice aS NS cs] 30)).alloc (.cells #[.slice bn GN dn] 24));have HB0:=qH (show Bq w W0 by rw[hW0];exact al4);have HL0:=qH (show LB W0 w.heap.size (.slice an NN cn) (.slice af NF cf) (.slice ax NX cx) (.slice ap NP cp) (.slice aS NS cs) (.slice bn GN dn) by rw[hW0];exact⟨xQ _ _ _,xM _ _ _⟩);obtain⟨m0,m1,m2,m3,m4⟩:=HL0.o.1.cells;go_enter func3,ntmps3;go_upto_region 1 with fail;rw[<- hW0];clear hW0;go_wp2_with fail;refine qD (Hg.o W0 HB0.o) ?_;rintro e w1⟨a0,a1,a2,a3,a4,c0,c1,c2,c3,c4,D1,rfl,h1⟩;obtain⟨W1,hW1⟩:=qE (w1.alloc (.cells #[.slice a0 NN c0,.slice a1 NF c1,.slice a2 NX c2,.slice a3 NP c3,.slice a4 NS c4] 30));have hx1:=h1.out;rw[<- hW1]at hx1;obtain⟨hR1,_,_,hb1⟩:=hx1;have HR1:=qH hR1;have Hh:Bq W0 W1:=by rw[hW1];exact hb1.alloc hb1.size _
 have HB1:=qT HB0 Hh;have HL1:Hid (LB W1 w.heap.size (.slice an NN cn) (.slice af NF cf) (.slice ax NX cx) (.slice ap NP cp) (.slice aS NS cs) (.slice bn GN dn)):=HL0.o.below Hh;have HO1:=qH (show MB W1 w1.heap.size (.slice a0 NN c0) (.slice a1 NF c1) (.slice a2 NX c2) (.slice a3 NP c3) (.slice a4 NS c4) by rw[hW1];exact MB.new);obtain⟨b1,Kv⟩:=qE w1.heap.size;rw[<- Kv]at HO1;have HC1:Hid _:=HST.o W1 a0 a1 a2 a3 a4 c0 c1 c2 c3 c4 HB1.o HR1.o;rw[HMV.o]at HC1;obtain⟨o0,o1,o2,o3,o4⟩:=HO1.o.cells;clear h1 hR1 hb1 Hh HL0 HB0 m0 m1 m2 m3 m4 HST;go_upto_region 2 with fail;rw[<- hW1,<- Kv];clear hW1 Kv;go_wp2_with fail;refine qD HC1.o ?_;rintro e w2⟨v2,rfl,hA2,hb2⟩;obtain⟨x0,x1,x2,x3,x4,y0,y1,y2,y3,y4,rfl,hR2⟩:=hA2;obtain⟨MS,hMS⟩:=qE ((ab6 M i).1);rw[<- hMS]at hR2 ⊢;have HMS:=qH hMS;have HVS:=qH (show machV x0 x1 x2 x3 x4 MS y0 y1 y2 y3 y4=.agg #[.slice x0 MS.ns.length y0,.slice x1 MS.fs.length y1,.slice x2 MS.pipes.length y2,.slice x3 MS.ps.length y3,.slice x4 MS.sunk.length y4] from rfl);rw[HVS.o];obtain⟨W2,hW2⟩:=qE (w2.alloc (.cells #[.slice x0 MS.ns.length y0,.slice x1 MS.fs.length y1,.slice x2 MS.pipes.length y2,.slice x3 MS.ps.length y3,.slice x4 MS.sunk.length y4] 30));have Ee:Bq W1 W2:=by rw[hW2];exact hb2.alloc hb2.size _
 have HB2:=qT HB1 Ee;have HL2:Hid (LB W2 w.heap.size (.slice an NN cn) (.slice af NF cf) (.slice ax NX cx) (.slice ap NP cp) (.slice aS NS cs) (.slice bn GN dn)):=HL1.o.below Ee;have HO2:Hid (MB W2 b1 (.slice a0 NN c0) (.slice a1 NF c1) (.slice a2 NX c2) (.slice a3 NP c3) (.slice a4 NS c4)):=HO1.o.below Ee;have HX2:=qH (show MB W2 w2.heap.size (.slice x0 MS.ns.length y0) (.slice x1 MS.fs.length y1) (.slice x2 MS.pipes.length y2) (.slice x3 MS.ps.length y3) (.slice x4 MS.sunk.length y4) by rw[hW2];exact MB.new);have HRO2:Hid (RMach W2 a0 a1 a2 a3 a4 c0 c1 c2 c3 c4 M):=HR1.o.below Ee;have Nb:=qH (show RMach W2 x0 x1 x2 x3 x4 y0 y1 y2 y3 y4 MS by rw[hW2];exact hR2.below boxE);obtain⟨b2,Kw⟩:=qE w2.heap.size;rw[<- Kw]at HX2;obtain⟨SN,hSN⟩:=qE MS.ns.length;obtain⟨SF,hSF⟩:=qE MS.fs.length;obtain⟨SX,hSX⟩:=qE MS.pipes.length;obtain⟨SP,hSP⟩:=qE MS.ps.length;obtain⟨SS,hSS⟩:=qE MS.sunk.length;have HSL:Hid (SN=MS.ns.length/\SF=MS.fs.length/\SX=MS.pipes.length/\SP=MS.ps.length/\SS=MS.sunk.length):=⟨hSN,hSF,hSX,hSP,hSS⟩;rw[<- hSN,<- hSF,<- hSX,<- hSP,<- hSS]at HX2 hW2 ⊢;clear hSN hSF hSX hSP hSS HVS;have g2:=HL2.o.graph;clear hb2 Ee hR2 hMS HR1 HB1 HL1 HO1 HC1 o0 o1 o2 o3 o4;go_upto_region 3 with fail;rw[<- hW2,<- Kw];clear hW2 Kw;go_wp2_with fail;refine qD (HNW.o W2 HB2.o) ?_;rintro e w3⟨v3,rfl,hA3,hb3⟩;obtain⟨u0,u1,u2,u3,u4,z0,z1,z2,z3,z4,rfl,hR3⟩:=hA3;obtain⟨MN,hMN⟩:=qE ((newS ns fs room).1);obtain⟨KN,hKN⟩:=qE ((newS ns fs room).2);rw[<- hMN]at hR3;rw[<- hMN,<- hKN];have HMN:Hid (MN=(newS ns fs room).1/\KN=(newS ns fs room).2):=⟨hMN,hKN⟩;have HVN:=qH (show machV u0 u1 u2 u3 u4 MN z0 z1 z2 z3 z4=.agg #[.slice u0 MN.ns.length z0,.slice u1 MN.fs.length z1,.slice u2 MN.pipes.length z2,.slice u3 MN.ps.length z3,.slice u4 MN.sunk.length z4] from rfl);rw[HVN.o];obtain⟨W3,hW3⟩:=qE (w3.alloc (.cells #[.slice u0 MN.ns.length z0,.slice u1 MN.fs.length z1,.slice u2 MN.pipes.length z2,.slice u3 MN.ps.length z3,.slice u4 MN.sunk.length z4] 30));have Bl:Bq W2 W3:=by rw[hW3];exact hb3.alloc hb3.size _
 have HB3:=qT HB2 Bl;have HL3:Hid (LB W3 w.heap.size (.slice an NN cn) (.slice af NF cf) (.slice ax NX cx) (.slice ap NP cp) (.slice aS NS cs) (.slice bn GN dn)):=HL2.o.below Bl;have HO3:Hid (MB W3 b1 (.slice a0 NN c0) (.slice a1 NF c1) (.slice a2 NX c2) (.slice a3 NP c3) (.slice a4 NS c4)):=HO2.o.below Bl;have HX3:Hid (MB W3 b2 (.slice x0 SN y0) (.slice x1 SF y1) (.slice x2 SX y2) (.slice x3 SP y3) (.slice x4 SS y4)):=HX2.o.below Bl;have HY3:=qH (show MB W3 w3.heap.size (.slice u0 MN.ns.length z0) (.slice u1 MN.fs.length z1) (.slice u2 MN.pipes.length z2) (.slice u3 MN.ps.length z3) (.slice u4 MN.sunk.length z4) by rw[hW3];exact MB.new);have HRO3:Hid (RMach W3 a0 a1 a2 a3 a4 c0 c1 c2 c3 c4 M):=HRO2.o.below Bl;have HRX3:Hid (RMach W3 x0 x1 x2 x3 x4 y0 y1 y2 y3 y4 MS):=Nb.o.below Bl;have Xt:=qH (show RMach W3 u0 u1 u2 u3 u4 z0 z1 z2 z3 z4 MN by rw[hW3];exact hR3.below boxE);obtain⟨b3,Xu⟩:=qE w3.heap.size;rw[<- Xu]at HY3;generalize MN.ns.length=TN,MN.fs.length=TF,MN.pipes.length=TX,MN.ps.length=TP,MN.sunk.length=TS at *;obtain⟨m0,m1,m2,m3,m4⟩:=HL3.o.1.cells;obtain⟨CK,hCK⟩:=qE (mchk M);have Nc:=qH hCK;rw[<- hCK]at HCM HCK;clear hb3 Bl hR3 hMN hKN hCK HB2 HL2 HO2 HX2 HRO2 Nb HNW g2;go_upto_region 4 with fail;rw[<- hW3,<- Xu];clear hW3 Xu;go_wp2_with fail;refine qD (HCM.o W3 HB3.o) ?_;rintro e w4⟨rfl,hb4⟩;have Xv:=qH hb4;clear hb4 m0 m1 m2 m3 m4 HCM;go_wp2_with fail;refine qD (HMI.o w4 (HB3.o.trans (Xv.o.mono HB3.o.size))) ?_;rintro e w5⟨rfl,hb5⟩;have Ta:=qT Xv hb5;obtain⟨m0,m1,m2,m3,m4⟩:=(HL3.o.below Ta.o).1.cells;clear hb5 Xv HMI;go_wp2_with fail;refine qD (HCK.o w5 (HB3.o.trans (Ta.o.mono HB3.o.size))) ?_;rintro e w6⟨rfl,hb6⟩;have Nh:=qT Ta hb6
 have HC6:=qH (show Calls prog 11 #[.agg #[.slice a0 NN c0,.slice a1 NF c1,.slice a2 NX c2,.slice a3 NP c3,.slice a4 NS c4],.agg #[.slice an NN cn,.slice af NF cf,.slice ax NX cx,.slice ap NP cp,.slice aS NS cs]] w6 fun e w'=>e=.returned (.bool true)/\Bq w6 w' by
  have:=F2 a0 a1 a2 a3 a4 an af ax ap aS c0 c1 c2 c3 c4 cn cf cx cp cs M w6 (HRO3.o.below Nh.o) (HMM.o.below (HB3.o.trans (Nh.o.mono HB3.o.size)))
  rw[HMV.o,HMV.o]at this
  exact this)
 clear m0 m1 m2 m3 m4;obtain⟨m0,m1,m2,m3,m4⟩:=(HL3.o.below Nh.o).1.cells;obtain⟨o0,o1,o2,o3,o4⟩:=(HO3.o.below Nh.o).cells;have hcc:(CK != CK)=false:=by simp
 clear hb6 Ta HCK;go_wp2_with fail;refine qD HC6.o ?_;rintro e w7⟨rfl,hb7⟩;have Tc:=qT Nh hb7;clear m0 m1 m2 m3 m4 o0 o1 o2 o3 o4 hb7 Nh HC6 HRO3 HO3 hcc;have g7:=(HL3.o.below Tc.o).graph;go_wp2_with fail;refine qD (HCG.o w7 (HB3.o.trans (Tc.o.mono HB3.o.size))) ?_;rintro e w8⟨rfl,hb8⟩;have Td:=qT Tc hb8;obtain⟨GK,hGK⟩:=qE (gchk ns);obtain⟨FK,hFK⟩:=qE (fchk fs);have HGK:Hid (GK=gchk ns/\FK=fchk fs):=⟨hGK,hFK⟩;rw[<- hGK];rw[<- hFK]at HCF;clear hb8 Tc HCG g7 hGK hFK;go_upto_if 53 with fail
 go_cut [17] (fun x wx=>x=.int .i64 (if GK≠0 then GK else FK)/\Hid (Bq W3 wx))
 case first=>
  by_cases hG:GK=0
  . subst hG;go_wp2_with fail;refine qD (HCF.o w8 (HB3.o.trans (Td.o.mono HB3.o.size))) ?_;rintro e w9⟨rfl,hb9⟩;have Kx:=qT Td hb9;clear hb9;go_wp2_with fail;go_meet;exact⟨by rw[qB (by simp)],Kx⟩
  . have hGb:(GK==0)=false:=by rw[qg];exact hG
    go_wp2_with fail;go_meet;exact⟨by rw[qF hG],Td⟩
 case rest=>
  obtain⟨rfl,Kx⟩:=hcut;obtain⟨K1,hK1⟩:=qE ((if GK≠0 then GK else FK));have HK1:=qH hK1;rw[<- hK1];clear hK1 Td HCF;go_upto_region 10 with fail;go_cut [65] (fun x wx=>x=.bool (decide (K1=0/\(room<1\/1000<room)))/\wx=wc)
  case first=>
   by_cases hK:K1=0
   .
    subst hK;by_cases hr:room<1
    . have e:=qH (show decide ((0:Int)=0/\(room<1\/1000<room))=true from qV ⟨rfl,.inl hr⟩);go_wp2_with fail;go_meet;exact⟨by rw[e.out],rfl⟩
    . by_cases hr2:1000<room
      . have e:=qH (show decide ((0:Int)=0/\(room<1\/1000<room))=true from qV ⟨rfl,.inr hr2⟩);go_wp2_with fail;go_meet;exact⟨by rw[e.out],rfl⟩
      . have e:=qH (show decide ((0:Int)=0/\(room<1\/1000<room))=false from qG qO);go_wp2_with fail;go_meet;exact⟨by rw[e.out],rfl⟩
   . have hKb:(K1==0)=false:=by rw[qg];exact hK
     have e:=qH (show decide (K1=0/\(room<1\/1000<room))=false from qG (fun h=>hK h.1));go_wp2_with fail;go_meet;exact⟨by rw[e.out],rfl⟩
  case rest=>
  obtain⟨rfl,rfl⟩:=hcut;go_upto_if 65 with fail
  go_cut [17] (fun x wx=>x=.int .i64 (if K1≠0 then K1 else if room<1\/1000<room then 3 else 0)/\Hid (Bq W3 wx))
  case first=>
   by_cases hK:K1=0/\(room<1\/1000<room)
   . have e:decide (K1=0/\(room<1\/1000<room))=true:=qV hK;rw[e];clear e;go_wp2_with fail;go_meet;exact⟨by rw[qB (by simpa using hK.1),qF hK.2],Kx⟩
   .
    have e:decide (K1=0/\(room<1\/1000<room))=false:=qG hK;rw[e];clear e;go_wp2_with fail;go_meet
    exact⟨by
     by_cases h0:K1=0
     . rw[qB (by simpa using h0),qB (fun h=>hK ⟨h0,h⟩),h0]
     . rw[qF h0],Kx⟩
  case rest=>
   obtain⟨rfl,Ni⟩:=hcut;have eKN:(if K1≠0 then K1 else if room<1\/1000<room then 3 else 0)=KN:=by rw[HMN.o.2,HNE.o,HK1.o,HGK.o.1,HGK.o.2];by_cases h1:gchk ns=0 <;> simp[h1]
   rw[eKN];clear eKN Kx;go_upto_if 67 with fail
   go_cut [] (fun wx=>Hid (Bq W3 wx))
   case first=>
    obtain⟨t0,t1,t2,t3,t4⟩:=(HY3.o.below Ni.o).cells;by_cases hK:KN=0
    .
     have Bi:gchk ns=0/\MN=E4 ns fs room:=by
      have h1:=HMN.o.2;rw[hK,HNE.o]at h1;have hg:gchk ns=0:=by
       by_cases hh:gchk ns=0
       . exact hh
       . rw[qF hh]at h1;exact h1.symm
      rw[qB (by simpa using hg)]at h1;have hf:fchk fs=0:=by
       by_cases hh:fchk fs=0
       . exact hh
       . rw[qF hh]at h1;exact h1.symm
      rw[qB (by simpa using hf)]at h1;refine⟨hg,?_⟩;rw[HMN.o.1];unfold newS;rw[qB (by simpa using hg),qB (by simpa using hf)];by_cases hr:room<1\/1000<room
      . rw[qF hr]at h1;exact absurd h1 (by decide)
      . rw[qB hr]
     have HFR2:Hid _:=HFR.o Bi.1
     have HSM:Hid (∀(V:World)(v:Value),Bq W3 V->E7 V v (E4 ns fs room)->Calls prog 11 #[.agg #[.slice u0 TN z0,.slice u1 TF z1,.slice u2 TX z2,.slice u3 TP z3,.slice u4 TS z4],v] V fun e w'=>e=.returned (.bool true)/\Bq V w'):=(show ∀(V:World)(v:Value),_ from fun V v hV hA=>by
      obtain⟨e0,e1,e2,e3,e4,f0,f1,f2,f3,f4,rfl,hR⟩:=hA
      rw[<- Bi.2]at hR ⊢
      have:=F2 u0 u1 u2 u3 u4 e0 e1 e2 e3 e4 z0 z1 z2 z3 z4 f0 f1 f2 f3 f4 MN V (Xt.o.below hV) hR
      rw[HVN.o]at this
      exact this)
     have HCC:=qH (show ∀V,Bq W3 V->V.cell? ⟨b3,0,none⟩=some (.slice u0 TN z0)/\V.cell? ⟨b3,1,none⟩=some (.slice u1 TF z1)/\V.cell? ⟨b3,2,none⟩=some (.slice u2 TX z2)/\V.cell? ⟨b3,3,none⟩=some (.slice u3 TP z3)/\V.cell? ⟨b3,4,none⟩=some (.slice u4 TS z4)/\V.cell? ⟨w.heap.size+1,0,none⟩=some (.slice bn GN dn) from fun V hV=>by
      obtain⟨k0,k1,k2,k3,k4⟩:=(HY3.o.below hV).cells
      exact⟨k0,k1,k2,k3,k4,(HL3.o.below hV).graph⟩)
     have HF3:=qH (show ∀V,Bq W3 V->Calls prog 14 #[.agg #[.slice bn GN dn],.slice bf GF df,.int .i64 room] V fun e w'=>∃v,e=.returned v/\w'.cell? ⟨b3,0,none⟩=some (.slice u0 TN z0)/\w'.cell? ⟨b3,1,none⟩=some (.slice u1 TF z1)/\w'.cell? ⟨b3,2,none⟩=some (.slice u2 TX z2)/\w'.cell? ⟨b3,3,none⟩=some (.slice u3 TP z3)/\w'.cell? ⟨b3,4,none⟩=some (.slice u4 TS z4)/\w'.cell? ⟨w.heap.size+1,0,none⟩=some (.slice bn GN dn)/\Hid (E7 w' v (E4 ns fs room)/\Bq W3 w') from fun V hV=>by
      refine qD (HFR2.o V (qT HB3 hV).out) ?_
      rintro e w'⟨v,rfl,h1,h2⟩
      have hb:=hV.trans (h2.mono hV.size)
      obtain⟨k0,k1,k2,k3,k4,k5⟩:=HCC.o w' hb
      exact⟨v,rfl,k0,k1,k2,k3,k4,k5,h1,hb⟩)
     have HS3:Hid (∀(V:World)(v:Value),Hid (E7 V v (E4 ns fs room)/\Bq W3 V)->Calls prog 11 #[.agg #[.slice u0 TN z0,.slice u1 TF z1,.slice u2 TX z2,.slice u3 TP z3,.slice u4 TS z4],v] V fun e w'=>e=.returned (.bool true)/\w'.cell? ⟨b3,0,none⟩=some (.slice u0 TN z0)/\w'.cell? ⟨b3,1,none⟩=some (.slice u1 TF z1)/\w'.cell? ⟨b3,2,none⟩=some (.slice u2 TX z2)/\w'.cell? ⟨b3,3,none⟩=some (.slice u3 TP z3)/\w'.cell? ⟨b3,4,none⟩=some (.slice u4 TS z4)/\w'.cell? ⟨w.heap.size+1,0,none⟩=some (.slice bn GN dn)/\Hid (Bq W3 w')):=(show ∀(V:World)(v:Value),_ from fun V v hh=>by
      refine qD (HSM.o V v hh.out.2 hh.out.1) ?_
      rintro e w'⟨rfl,h2⟩
      have hb:=hh.out.2.trans (h2.mono hh.out.2.size)
      obtain⟨k0,k1,k2,k3,k4,k5⟩:=HCC.o w' hb
      exact⟨rfl,k0,k1,k2,k3,k4,k5,hb⟩)
     have gg:=(HL3.o.below Ni.o).graph;subst hK;have h00:((0:Int) != 0)=false:=by decide
     clear Bi HFR2 HSM HCC;go_upto_region 15 with fail
     go_region_held3 (fun W=>W.cell? ⟨b3,0,none⟩=some (.slice u0 TN z0)/\W.cell? ⟨b3,1,none⟩=some (.slice u1 TF z1)/\W.cell? ⟨b3,2,none⟩=some (.slice u2 TX z2)/\W.cell? ⟨b3,3,none⟩=some (.slice u3 TP z3)/\W.cell? ⟨b3,4,none⟩=some (.slice u4 TS z4)/\W.cell? ⟨w.heap.size+1,0,none⟩=some (.slice bn GN dn)) (go_keep) (first
      | (go_at_call 14;refine qD (HF3.o _ ?_) ?_;(repeat (first|exact Ni.o | refine Below.drew ?_));rintro e w8⟨v8,rfl,k80,k81,k82,k83,k84,k85,h8⟩)
      | (go_at_call 11;refine qD (HS3.o _ _ h8) ?_;rintro e w9⟨rfl,k90,k91,k92,k93,k94,k95,h9⟩))
     all_goals
      go_wp2_with fail;go_meet;exact h9
    .
     have hKb:(KN==0)=false:=by rw[qg];exact hK
     have hKc:(KN != KN)=false:=by simp
     have hz:MN=I4:=by
      have h1:=HMN.o.2;rw[HMN.o.1];rw[h1]at hK;unfold newS at hK ⊢;by_cases hg:gchk ns=0
      . rw[qB (by simpa using hg)]at hK ⊢;by_cases hf:fchk fs=0
        . rw[qB (by simpa using hf)]at hK ⊢;by_cases hr:room<1\/1000<room
          . rw[qF hr]
          . rw[qB hr]at hK;exact absurd rfl hK
        . rw[qF hf]
      . rw[qF hg]
     have HSM:=qH (show Calls prog 11 #[.agg #[.slice u0 TN z0,.slice u1 TF z1,.slice u2 TX z2,.slice u3 TP z3,.slice u4 TS z4],.agg #[.slice none 0 0,.slice none 0 0,.slice none 0 0,.slice none 0 0,.slice none 0 0]] wc fun e w'=>e=.returned (.bool true)/\Bq wc w' by
      obtain⟨e0,e1,e2,e3,e4,f0,f1,f2,f3,f4,e,hR⟩:=E7.zero wc
      rw[<- hz]at e hR
      have:=F2 u0 u1 u2 u3 u4 e0 e1 e2 e3 e4 z0 z1 z2 z3 z4 f0 f1 f2 f3 f4 MN wc (Xt.o.below Ni.o) hR
      rw[HVN.o,<- e]at this
      exact this)
     clear hz;go_wp2_with fail;refine qD HSM.o ?_;rintro e w9⟨rfl,hb9⟩;have Kx:=qT Ni hb9;clear hb9;go_wp2_with fail;go_meet;exact Kx
   case rest=>
    have Tf:=hcut;clear Ni HFR HVN Xt HY3 HNE HMN HK1 HGK;obtain⟨_,_,_,m3,_⟩:=(HL3.o.below Tf.o).1.cells;go_upto_region 17 with fail;go_cut [100] (fun x wx=>x=.bool (decide (CK=0/\(i<0\/(NP:Int)<=i)))/\wx=wc)
    case first=>
     by_cases hC:CK=0
     . subst hC;by_cases hi:i<0
       . have e:=qH (show decide ((0:Int)=0/\(i<0\/(NP:Int)<=i))=true from qV ⟨rfl,.inl hi⟩);go_wp2_with fail;go_meet;exact⟨by rw[e.out],rfl⟩
       . by_cases hi2:(NP:Int)<=i
         . have e:=qH (show decide ((0:Int)=0/\(i<0\/(NP:Int)<=i))=true from qV ⟨rfl,.inr hi2⟩);go_wp2_with fail;go_meet;exact⟨by rw[e.out],rfl⟩
         . have e:=qH (show decide ((0:Int)=0/\(i<0\/(NP:Int)<=i))=false from qG qO);go_wp2_with fail;go_meet;exact⟨by rw[e.out],rfl⟩
     . have hCb:(CK==0)=false:=by rw[qg];exact hC
       have e:=qH (show decide (CK=0/\(i<0\/(NP:Int)<=i))=false from qG (fun h=>hC h.1));go_wp2_with fail;go_meet;exact⟨by rw[e.out],rfl⟩
    case rest=>
    obtain⟨rfl,rfl⟩:=hcut;clear m3;go_upto_if 100 with fail
    go_cut [16] (fun x wx=>x=.int .i64 (if CK≠0 then CK else if i<0\/(NP:Int)<=i then 5 else 0)/\Hid (Bq W3 wx))
    case first=>
     by_cases hK:CK=0/\(i<0\/(NP:Int)<=i)
     . have e:decide (CK=0/\(i<0\/(NP:Int)<=i))=true:=qV hK;rw[e];clear e;go_wp2_with fail;go_meet;exact⟨by rw[qB (by simpa using hK.1),qF hK.2],Tf⟩
     . have e:decide (CK=0/\(i<0\/(NP:Int)<=i))=false:=qG hK;rw[e];clear e;go_wp2_with fail;go_meet
       exact⟨by
        by_cases h0:CK=0
        . rw[qB (by simpa using h0),qB (fun h=>hK ⟨h0,h⟩),h0]
        . rw[qF h0],Tf⟩
    case rest=>
     obtain⟨rfl,Qq⟩:=hcut;obtain⟨V3,hV3⟩:=qE wc;subst hV3;obtain⟨K2,hK2⟩:=qE ((if CK≠0 then CK else if i<0\/(NP:Int)<=i then 5 else 0));have HK2:=qH hK2;rw[<- hK2];have HBV:Hid (Bq w V3):=HB3.o.trans (Qq.o.mono HB3.o.size);have HLV:Hid (LB V3 w.heap.size (.slice an NN cn) (.slice af NF cf) (.slice ax NX cx) (.slice ap NP cp) (.slice aS NS cs) (.slice bn GN dn)):=HL3.o.below Qq.o;have HXV:Hid (MB V3 b2 (.slice x0 SN y0) (.slice x1 SF y1) (.slice x2 SX y2) (.slice x3 SP y3) (.slice x4 SS y4)):=HX3.o.below Qq.o;have HRV:Hid (RMach V3 x0 x1 x2 x3 x4 y0 y1 y2 y3 y4 MS):=HRX3.o.below Qq.o;obtain⟨m0,m1,m2,m3,m4⟩:=HLV.o.1.cells;clear hK2 Qq Tf HB3 HL3 HX3 HRX3;go_wp2_with fail;refine qD (Hg.o V3 HBV.o) ?_;rintro e w1⟨a0,a1,a2,a3,a4,c0,c1,c2,c3,c4,D,rfl,h1⟩;obtain⟨W1,hW1⟩:=qE (w1.alloc (.cells #[.slice a0 NN c0,.slice a1 NF c1,.slice a2 NX c2,.slice a3 NP c3,.slice a4 NS c4] 30));have hx1:=h1.out;rw[<- hW1]at hx1;obtain⟨_,⟨OW,hAW⟩,hDW,hb1⟩:=hx1;have Hh:Bq V3 W1:=by rw[hW1];exact hb1.alloc hb1.size _
     obtain⟨r,hr⟩:=qE w1.heap.size;rw[<- hr]at hAW;have HBW:=qH Hh;have HAW:Hid (RefA NoG W1 D r OW M/\V3.heap.size<=D):=⟨hAW,hDW⟩;clear h1 hAW hDW hb1 Hh m0 m1 m2 m3 m4 Hg;go_upto_region 20 with fail;rw[<- hW1,<- hr];clear hW1 hr;obtain⟨SE,hSE⟩:=qE (U3 M i);have HSE:=qH hSE;rw[<- hSE]at Ft ⊢;clear hSE;go_upto_if 104 with fail
     go_cut [16] (fun x wx=>x=.int .i64 SE/\Hid (Bq V3 wx/\(SE=0->∃O',RefA NoG wx D r O' (stepS M i).1)))
     case first=>
      by_cases hK:K2=0
      . have hC:CK=0:=by
         have h1:=HK2.o;rw[hK]at h1;by_cases hh:CK=0
         . exact hh
         . rw[qF hh]at h1;exact h1.symm
        have hi:¬(i<0\/(NP:Int)<=i):=by intro hh;have h1:=HK2.o;rw[hK,qB (by simpa using hC),qF hh]at h1;exact absurd h1 (by decide)
        have h0:mchk M=0:=Nc.o.symm.trans hC;obtain⟨j,hj⟩:=qm (show 0<=i by omega);have hjp:j<M.ps.length:=by rw[<- HL.o.2.2.2.1];omega
        obtain⟨pj,hpj⟩:∃p,M.ps[j]?=some p:=⟨_,gEl hjp⟩;obtain⟨nj,hnj⟩:∃n,M.ns[j]?=some n:=⟨_,gEl (by rw[<- HKM.o h0];exact hjp)⟩;have HCS:Hid _:=Ft.o h0 j nj pj W1 D r OW hj hnj hpj (HBV.o.trans (HBW.o.mono HBV.o.size)) (qc HBV.o.size HAW.o.2) HAW.o.1;subst hK;clear hC hi h0 hj hjp hpj hnj;go_wp2_with fail;refine qD HCS.o ?_;rintro e w9⟨rfl,hA9,hb9⟩;have HR9:Hid (Bq V3 w9/\(SE=0->∃O',RefA NoG w9 D r O' (stepS M i).1)):=⟨Below.deep HBW.o hb9 HAW.o.2,fun _=>hA9⟩;clear hA9 hb9 HCS;go_wp2_with fail;go_meet;exact⟨rfl,HR9⟩
      .
       have hKb:(K2==0)=false:=by rw[qg];exact hK
       have hS:K2=SE:=by
        rw[HSE.o,HK2.o];unfold U3;rw[<- Nc.o];by_cases hC:CK=0
        . have hC':¬CK≠0:=by simpa using hC
          rw[qB hC',qB hC'];by_cases hi:i<0\/(NP:Int)<=i
          . rw[qF hi];unfold stepS;rw[qF (by rw[<- HL.o.2.2.2.1];exact hi)]
          . have h1:=HK2.o;rw[qB (by simpa using hC),qB hi]at h1;exact absurd h1 hK
        . rw[qF hC,qF hC]
       have HR9:Hid (Bq V3 W1/\(SE=0->∃O',RefA NoG W1 D r O' (stepS M i).1)):=⟨HBW.o,fun e=>absurd (hS.trans e) hK⟩;go_wp2_with fail;go_meet;exact⟨by rw[hS],HR9⟩
     case rest=>
      obtain⟨rfl,HR9⟩:=hcut;have HBC:Hid (Bq w wc):=HBV.o.trans (HR9.o.1.mono HBV.o.size);obtain⟨t0,t1,t2,t3,t4⟩:=(HXV.o.below HR9.o.1).cells;have HRC:Hid (RMach wc x0 x1 x2 x3 x4 y0 y1 y2 y3 y4 MS):=HRV.o.below HR9.o.1;by_cases hS:SE=0
      . have hMS:MS=(stepS M i).1:=by rw[HMS.o];exact (bZ6 (HSE.o.symm.trans hS)).2
        obtain⟨O',hA'⟩:=HR9.o.2 hS;obtain⟨e0,e1,e2,e3,e4,f0,f1,f2,f3,f4,hbx,hRW⟩:=ar4 hA';rw[<- hMS]at hbx hRW;obtain⟨v0,v1,v2,v3,v4⟩:=hbx.cells;have HSM:Hid (Calls prog 11 #[.agg #[.slice x0 MS.ns.length y0,.slice x1 MS.fs.length y1,.slice x2 MS.pipes.length y2,.slice x3 MS.ps.length y3,.slice x4 MS.sunk.length y4],.agg #[.slice e0 MS.ns.length f0,.slice e1 MS.fs.length f1,.slice e2 MS.pipes.length f2,.slice e3 MS.ps.length f3,.slice e4 MS.sunk.length f4]] wc fun e w'=>e=.returned (.bool true)/\Bq wc w'):=F2 x0 x1 x2 x3 x4 e0 e1 e2 e3 e4 y0 y1 y2 y3 y4 f0 f1 f2 f3 f4 MS wc HRC.o hRW;rw[<- HSL.o.1,<- HSL.o.2.1,<- HSL.o.2.2.1,<- HSL.o.2.2.2.1,<- HSL.o.2.2.2.2]at HSM;rw[<- HSL.o.1]at v0;rw[<- HSL.o.2.1]at v1;rw[<- HSL.o.2.2.1]at v2;rw[<- HSL.o.2.2.2.1]at v3;rw[<- HSL.o.2.2.2.2]at v4;subst hS;clear hMS hA' hbx hRW;go_wp2_with fail;refine qD HSM.o ?_;rintro e w9⟨rfl,hb9⟩;have HBE:=qT HBC hb9;clear hb9;go_wp2_with fail;(try simp only[Exit.inBlock,Exit.then])
        go_ret;exact⟨rfl,HBE.o⟩
      .
       have hSb:(SE==0)=false:=by rw[qg];exact hS
       have hSc:(SE==SE)=true:=by simp
       have hMS:MS=I4:=by rw[HMS.o];exact bQ8 (fun e=>hS (HSE.o.trans e))
       have HSM:=qH (show Calls prog 11 #[.agg #[.slice x0 MS.ns.length y0,.slice x1 MS.fs.length y1,.slice x2 MS.pipes.length y2,.slice x3 MS.ps.length y3,.slice x4 MS.sunk.length y4],.agg #[.slice none 0 0,.slice none 0 0,.slice none 0 0,.slice none 0 0,.slice none 0 0]] wc fun e w'=>e=.returned (.bool true)/\Bq wc w' by
        obtain⟨e0,e1,e2,e3,e4,f0,f1,f2,f3,f4,e,hR⟩:=E7.zero wc
        rw[<- hMS]at e hR
        have:=F2 x0 x1 x2 x3 x4 e0 e1 e2 e3 e4 y0 y1 y2 y3 y4 f0 f1 f2 f3 f4 MS wc HRC.o hR
        rw[<- e]at this
        exact this)
       rw[<- HSL.o.1,<- HSL.o.2.1,<- HSL.o.2.2.1,<- HSL.o.2.2.2.1,<- HSL.o.2.2.2.2]at HSM;clear hMS;go_wp2_with fail;refine qD HSM.o ?_;rintro e w9⟨rfl,hb9⟩;have HBE:=qT HBC hb9;clear hb9;go_wp2_with fail;(try simp only[Exit.inBlock,Exit.then])
       go_ret;exact⟨rfl,HBE.o⟩
theorem aR4(W:World)(hE:q8 W)(hsh:W.ShapedOpen prog)(an af ax ap aS:Option Addr)(cn cf cx cp cs:Nat)(M:SMach)(h:RMach W an af ax ap aS cn cf cx cp cs M)(hf:FitsM M)(hk:∀n∈M.ns,(Lit.int .i64 n.c.kind).wf=true)(hs:SizeM M)(i:Int)(hi:-9223372036854775808<=i/\i<=9223372036854775807)(bn:Option Addr)(dn:Nat)(ns:List SNode)(hN:y8 W (.slice bn ns.length dn) ns)(hfn:∀n∈ns,G8 n)(hkn:∀n∈ns,(Lit.int .i64 n.c.kind).wf=true)(bf:Option Addr)(df:Nat)(fs:List SFile)(hF:o8 W (.slice bf fs.length df) fs)(hff:∀f∈fs,al0 f)(hz:bf=none->df=0)(room:Int)(Nk:-9223372036854775808<=room/\room<=9223372036854775807):
 Calls prog 3 #[machV an af ax ap aS M cn cf cx cp cs,.int .i64 i,.agg #[.slice bn ns.length dn],.slice bf fs.length df,.int .i64 room] W fun e w'=>e=.returned (.bool true)/\Bq W w':=
 bi3 an af ax ap aS cn cf cx cp cs M i bn bf dn df ns fs room W h hf hk hs hN hF hfn hkn hff hE hsh
end Go.Proofs.YtmejdflmcikkdaaGreatDoor
