/- The law ExecSteps, and more. -/
import Derived.Test.YtmejdflmcikkdaaGreatDoorVAb
import Derived.Test.YtmejdflmcikkdaaGreatDoorVa44
set_option linter.all false
set_option maxRecDepth 100000
set_option maxHeartbeats 64000000
namespace Go.Proofs.YtmejdflmcikkdaaGreatDoor
open Go.RowKit Go.Gs Go.Maps Tryz
variable {P:Program}{r:Go.Reach}{f0:Field}
def LB(W:World)(b:Nat)(a0 a1 a2 a3 a4 g:Value):Prop:=MB W b a0 a1 a2 a3 a4/\W.heap[b+1]?=some (.cells #[g] 24 (0,0))
theorem LB.below{W W':World}{b:Nat}{a0 a1 a2 a3 a4 g:Value}(h:LB W b a0 a1 a2 a3 a4 g)(hb:Bq W W'):LB W' b a0 a1 a2 a3 a4 g:=⟨h.1.below hb,qK hb h.2⟩
theorem LB.graph{W:World}{b:Nat}{a0 a1 a2 a3 a4 g:Value}(h:LB W b a0 a1 a2 a3 a4 g):W.cell? ⟨b+1,0,none⟩=some g:=qR h.2 rfl
theorem bQ0(an af:Option Addr)(cn cf:Nat)(ns:List SNode)(fs:List SFile)(room:Int)(w:World)(hN:y8 w (.slice an ns.length cn) ns)(hF:o8 w (.slice af fs.length cf) fs)(hg0:gchk ns=0):
 Calls prog 14 #[.agg #[.slice an ns.length cn],.slice af fs.length cf,.int .i64 room] w fun e w'=>∃v,e=.returned v/\E7 w' v (E4 ns fs room)/\Bq w w':=by
 have HN:=qH hN;have HF:=qH hF;have HG:Hid (RightG ns):=Q6 hg0;have hle:=M5 hN;obtain⟨NN,hNN⟩:=qE ns.length;obtain⟨NF,hNF⟩:=qE fs.length;have HL:Hid (NN=ns.length/\NF=fs.length):=⟨hNN,hNF⟩;rw[<- hNN]at HN hle ⊢;rw[<- hNF]at HF ⊢;clear hN hF hg0 hNN hNF;obtain⟨nd0,hnd0⟩:∃n,ns[0]?=some n:=⟨_,gEl HG.o.pos⟩;obtain⟨nb,noff,_,_,ean,_,_⟩:=HN.o.at hnd0;subst ean;clear hnd0;obtain⟨w0,hw0⟩:=qE ((w.alloc (.cells #[.slice (some ⟨nb,noff,none⟩) NN cn] 24)).alloc (.cells #[.slice none 0 0,.slice none 0 0,.slice none 0 0,.slice none 0 0,.slice none 0 0] 30));obtain⟨w3,hw3⟩:=qE (w0.alloc (.cells #[.slice (some ⟨nb,noff,none⟩) NN cn,.slice af NF cf,.slice none 0 0,.slice none 0 0,.slice none 0 0] 30));have hB0:Bq w w0:=by rw[hw0];exact ((Below.refl _ w).alloc (qA _) _).alloc (by simp) _
 have HX0:=qH (show w0.heap[w.heap.size]?=some (.cells #[.slice (some ⟨nb,noff,none⟩) NN cn] 24 (0,0))/\w0.heap[w.heap.size+1]?=some (.cells #[.slice none 0 0,.slice none 0 0,.slice none 0 0,.slice none 0 0,.slice none 0 0] 30 (0,0)) by
  rw[hw0]
  exact⟨xQ _ _ _,xM _ _ _⟩)
 have HDW:=qH (show w.heap.size+2<=w0.heap.size by rw[hw0];simp);have HBW:=qH (show ∀W,Bq w0 W->Bq w W from fun W hW=>hB0.trans (hW.mono hB0.size));have HN0:Hid (y8 w0 (.slice (some ⟨nb,noff,none⟩) NN cn) ns/\o8 w0 (.slice af NF cf) fs):=⟨HN.o.below hB0,HF.o.below hB0⟩;have hb3:Bq w0 w3:=by rw[hw3];exact boxE
 have hNA:NewAt w0 w3 w0.heap.size (.slice (some ⟨nb,noff,none⟩) NN cn) (.slice af NF cf) (.slice none 0 0) (.slice none 0 0) (.slice none 0 0) [] []:=
  ⟨hb3,qA _,by rw[hw3];exact qJ _ _,⟨rfl,.inl ⟨rfl,rfl⟩⟩,⟨rfl,.inl ⟨rfl,rfl⟩⟩,(fun e=>by cases e),(fun e=>by cases e),(fun g hg=>by cases hg),(fun q hq=>by cases hq)⟩
 have HNT:=qH (show Q1 w0 w3 w0.heap.size (.slice (some ⟨nb,noff,none⟩) NN cn) (.slice af NF cf) (.slice none 0 0) ns room [] 0 w0.heap.size from ⟨.slice none 0 0,.slice none 0 0,[],hNA,by simp,hNA.nX,hNA.nP⟩);have Qb:Hid (Bq w0 w3):=hNA.bel;have HCS:Hid ((0:Nat)<=maxLen):=qM _;have x0:w0.cell? ⟨w.heap.size,0,none⟩=some (.slice (some ⟨nb,noff,none⟩) NN cn):=qR HX0.o.1 rfl;have hx3:w3.cell? ⟨w.heap.size,0,none⟩=some (.slice (some ⟨nb,noff,none⟩) NN cn):=qC hb3 x0;have Xd:=qH (show NN<=60 by have:=HG.o.le60;have:=HL.o.1;omega);have h60:=Xd.o;clear hB0 hb3 hNA;go_enter func14,ntmps14;go_upto_region 1 with fail;rw[<- hw0];clear hw0;go_upto_region 2 with fail;rw[<- hw3];clear hw3 x0;go_wp2_with fail;clear hx3;go_loopw [19] (fun z wr=>∃k:Nat,k<=NN/\z=.int .i64 k/\Hid (Q1 w0 wr w0.heap.size (.slice (some ⟨nb,noff,none⟩) NN cn) (.slice af NF cf) (.slice none 0 0) ns room (b8 (ns.take k)) k w0.heap.size)/\Hid (Bq w0 wr)) (fun z _=>NN-(intOf z).toNat)
 case atStart=>exact⟨0,qM _,rfl,HNT,Qb⟩
 case round=>
  obtain⟨k,hk,rfl,hnt,Aa⟩:=hrel;clear HNT Qb;by_cases hlt:k<NN
  .
   obtain⟨n,hn⟩:∃n,ns[k]?=some n:=⟨_,gEl (by have:=HL.o.1;omega)⟩;obtain⟨nb2,noff2,ai,ci,e1,hNA,hrp⟩:=HN.o.at hn;injection e1 with e1;injection e1 with e1 e2;subst e1 e2;obtain⟨c0,c1,c2,c3,c4,c5,c6,c7⟩:=hNA.below (HBW.o wr Aa.o);have hil:n.ins.length<=5:=(A1 (HG.o.node n (mGt hn))).1;have HNk:=qH hn;have HRP:=qH (show ∀W,Bq w0 W->D5 W (.slice ai n.ins.length ci) n.ins from fun W hW=>hrp.below (HBW.o W hW));obtain⟨IL,hIL⟩:=qE n.ins.length;have HIL:=qH hIL;rw[<- hIL]at c7 HRP hil;obtain⟨fx,hfx⟩:=qE ((⟨n.file.toArray⟩:ByteArray));obtain⟨wx0,hwx⟩:=qE ((⟨n.c.word.toArray⟩:ByteArray));obtain⟨n0,hn0⟩:=qE n.kind;obtain⟨n2,hn2⟩:=qE n.c.kind;obtain⟨n4,hn4⟩:=qE n.c.n;obtain⟨n5,hn5⟩:=qE n.how;obtain⟨n6,hn6⟩:=qE n.wide;rw[<- hn0]at c0;rw[<- hfx]at c1;rw[<- hn2]at c2;rw[<- hwx]at c3;rw[<- hn4]at c4;rw[<- hn5]at c5;rw[<- hn6]at c6
   have Qc:=qH (show ∀W,Calls prog 29 #[.agg #[.int .i64 n0,.string fx,.int .i64 n2,.string wx0,.int .i64 n4,.int .i64 n5,.int .i64 n6,.slice ai IL ci]] W fun e w'=>e=.returned (.int .i64 (nouts n))/\Bq W w' from fun W=>by
    have:=ak7 n ai IL ci W
    unfold x8 at this
    rw[<- hn0,<- hfx,<- hn2,<- hwx,<- hn4,<- hn5,<- hn6]at this
    exact this)
   obtain⟨W1,hW1⟩:=qE (wr.alloc (.cells #[.int .i64 n0,.string fx,.int .i64 n2,.string wx0,.int .i64 n4,.int .i64 n5,.int .i64 n6,.slice ai IL ci] 57));have hb1:Bq wr W1:=by rw[hW1];exact boxE
   have hbx:W1.heap[wr.heap.size]?=some (.cells #[.int .i64 n0,.string fx,.int .i64 n2,.string wx0,.int .i64 n4,.int .i64 n5,.int .i64 n6,.slice ai IL ci] 57 (0,0)):=by rw[hW1];exact qJ _ _
   have Ip:=qH (show Q1 w0 W1 w0.heap.size (.slice (some ⟨nb,noff,none⟩) NN cn) (.slice af NF cf) (.slice none 0 0) ns room (b8 (ns.take k)) k wr.heap.size by
    obtain⟨vX,vP,Q,h1,h2,_,_⟩:=hnt.out
    exact⟨vX,vP,Q,h1.below hb1,h2,fun e=>by have:=(h1.rX.lt _ e).2;omega,fun e=>by have:=(h1.rP.lt _ e).2;omega⟩)
   have Iq:=qH hbx;obtain⟨_,_,_,_,_,_,_,i7⟩:=D8 hbx;have HB1:=qT Aa hb1;have HWQ:Hid (w0.heap.size<=wr.heap.size):=Aa.o.size;clear hnt Aa hn hrp hIL hfx hwx hn0 hn2 hn4 hn5 hn6 hb1 hbx hNA;go_upto_region 5 with fail;rw[<- hW1];clear hW1 c0 c1 c2 c3 c4 c5 c6 c7;go_wp2_with fail;clear i7;obtain⟨B6,hB6⟩:=qE wr.heap.size;rw[<- hB6]at Iq HWQ Ip ⊢;clear hB6
   have HB6:=qH (show B6≠w0.heap.size from fun e=>by
    have h1:=Iq.o
    obtain⟨vX,vP,Q,h2,_⟩:=Ip.o
    rw[e,h2.box]at h1
    cases h1)
   go_loopw [26] (fun z wx=>∃j:Nat,j<=IL/\z=.int .i64 j/\Hid (Q1 w0 wx w0.heap.size (.slice (some ⟨nb,noff,none⟩) NN cn) (.slice af NF cf) (.slice none 0 0) ns room (b8 (ns.take k)++n.ins.take j) k B6)/\Hid (Bq w0 wx)/\Hid (wx.heap[B6]?=some (.cells #[.int .i64 n0,.string fx,.int .i64 n2,.string wx0,.int .i64 n4,.int .i64 n5,.int .i64 n6,.slice ai IL ci] 57 (0,0)))) (fun z _=>IL-(intOf z).toNat)
   case atStart=>exact⟨0,qM _,rfl,(show Q1 _ _ _ _ _ _ _ _ _ _ _ by simpa using Ip.o),HB1,Iq⟩
   case round=>
    obtain⟨j,hj,rfl,hnt,Aa,hbx⟩:=hrel;clear Ip HB1 Iq;by_cases Ww:j<IL
    .
     obtain⟨p,hp⟩:∃p,n.ins[j]?=some p:=⟨_,gEl (by have:=HIL.o;omega)⟩;have Eg:=HRP.o _ Aa.o;obtain⟨pb,poff,e2,p0,p1⟩:=Eg.at hp;subst e2;have hpl:=S3 Eg;obtain⟨pi,pk,pm,hpe,hpik,hpm,_⟩:=HG.o.src HNk.o hp;obtain⟨nb',noff',bi,di,e3,Qd,_⟩:=HN.o.at hpm;injection e3 with e3;injection e3 with e3 e4;subst e3 e4;obtain⟨c0,c1,c2,c3,c4,c5,c6,c7⟩:=Qd.below (HBW.o wr Aa.o);obtain⟨vX,vP,Q,Cd,hQm,hx1,hx2⟩:=hnt.out;have hRm:roomOf ns room p=if pm.kind=2 then 0 else room:=by unfold roomOf;rw[hpe];simp only[qh,hpm,xG,qe]
     have hpi:p.1=(pi:Int):=by rw[hpe]
     rw[hpi]at p0;obtain⟨RM,hRM⟩:=qE (roomOf ns room p);have HRM:=qH hRM;rw[<- hRM]at hRm;have hx0:wr.cell? ⟨w.heap.size,0,none⟩=some (.slice (some ⟨nb,noff,none⟩) NN cn):=by have h1:=(Aa.o.block _ (by have:=HDW.o;omega)).trans HX0.o.1;rw[qY _ _ _ _ _ _ h1];rfl
     have HQM:=qH hQm;have HXP:Hid (vX.ownBlock≠some B6/\vP.ownBlock≠some B6):=⟨hx1,hx2⟩;have HP:=qH hp;have hpin:pi<NN:=qO;obtain⟨y4,hy4⟩:=qE ((wr.alloc (.cells #[.int .i64 (pi:Int),.int .i64 p.2] 74)).alloc (.cells #[.slice none 0 0,.int .i64 RM,.bool false,.bool false] 61));obtain⟨y5,hy5⟩:=qE (y4.alloc (.cells #[.slice none 0 0,.int .i64 RM,.bool false,.bool false] 61));have hb4:Bq wr y4:=by rw[hy4];exact al4
     have hb5:Bq wr y5:=by rw[hy5];exact hb4.alloc hb4.size _
     have hbp:y5.heap[y4.heap.size]?=some (.cells #[.slice none 0 0,.int .i64 RM,.bool false,.bool false] 61 (0,0)):=by rw[hy5];exact qJ _ _
     have Qe:y4.heap[wr.heap.size+1]?=some (.cells #[.slice none 0 0,.int .i64 RM,.bool false,.bool false] 61 (0,0)):=by rw[hy4];exact xM _ _ _
     have hN4:=Cd.below hb4;have hN5:=Cd.below hb5;obtain⟨_,_,b2,_,_,_⟩:=i8 hN4.box
     obtain⟨v',w',Ae,⟨a',c',hv'⟩,hbM,hkp,hof,hN6⟩:=NewAt.pipe hN5 (by rw[qS,qI,qX];have h1:=bY7 HG.o k;have:=HIL.o;omega) (ad:=⟨y4.heap.size,0,none⟩) (c:=1) (r:=RM) (fun q u hu=>by
      rw[addP,qY _ _ _ _ _ _ hbp,qk]
      rw[<- xH]
      exact hu) 26
     obtain⟨⟨aX',cX',Qf,_,_⟩,_⟩:=g8 hN5.rX;have hwb:=hbM.trans hN5.box;obtain⟨_,_,d2,_,_,df⟩:=i8 hwb;have df2:=df 2;obtain⟨Z,hZ⟩:=qE (w'.setCell ⟨w0.heap.size,2,none⟩ v');rw[<- hZ]at hN6;have Ir:B6<wr.heap.size:=(aSm hbx.out).1
     have Rz:=qH (show Z.heap[B6]?=some (.cells #[.int .i64 n0,.string fx,.int .i64 n2,.string wx0,.int .i64 n4,.int .i64 n5,.int .i64 n6,.slice (some ⟨pb,poff,none⟩) IL ci] 57 (0,0)) by
      rw[hZ,Below.heap_setCell _ _ _ _ HB6.o,hkp B6 (by have:=hb5.size;omega) (.inr HXP.o.1),hb5.block B6 Ir]
      exact hbx.out)
     have Si:=qH (show Q1 w0 Z w0.heap.size (.slice (some ⟨nb,noff,none⟩) NN cn) (.slice af NF cf) (.slice none 0 0) ns room (b8 (ns.take k)++n.ins.take (j+1)) k B6 by
      refine⟨v',vP,Q,?_,HQM.o,hof B6 (by have:=hb5.size;omega) HXP.o.1,HXP.o.2⟩
      have e5:(b8 (ns.take k)++n.ins.take j).map (roomOf ns room)++[RM]=(b8 (ns.take k)++n.ins.take (j+1)).map (roomOf ns room):=by
       rw[qZ,HP.o,HRM.o]
       simp
      rw[<- e5]
      exact hN6)
     have Sj:Hid (Bq w0 Z):=hN6.bel;have Au:Hid _:=Ae;rw[Qf]at Au b2 d2;rw[hv']at Au hZ;generalize ((b8 (ns.take k)++n.ins.take j).map (roomOf ns room)).length=LL at *;rw[hy5]at Au;obtain⟨g0,g1,g2,g3⟩:=C9 Qe;have gx0:=fun o o'=>((al4 (w:=wr) (o:=o) (p:=o')).cell (bLt wr _ hx0)).trans hx0;have gc0:=fun o o'=>((al4 (w:=wr) (o:=o) (p:=o')).cell (bLt wr _ c0)).trans c0;generalize p.2=pq at *;obtain⟨m0,hm0⟩:=qE pm.kind;rw[<- hm0]at hRm c0 gc0;clear Eg hp hpm hpe Qd Cd hQm hx1 hx2 hRM hnt hpi hm0 hN4 hN5 hN6 hkp hof Ae hbM hwb df hbp Qe hb4 hb5 Qf hv' hy5 c1 c2 c3 c4 c5 c6 c7;by_cases h2:m0=2;have eRM:RM=0:=by rw[hRm,qF h2]
     rotate_left
     have eRM:RM=room:=by rw[hRm,qB h2]
     rotate_left
     all_goals
      clear hRm;subst eRM
     . subst h2;go_upto_region 11 with fail;rw[<- hy4];clear hy4 gx0 gc0 c0 hx0;go_upto_region 12 with (at_builtin;refine j4 _ rfl (.tmp 42) (.tmp 44) 26 rfl _ _ rfl rfl Au.o ?_);rw[<- hZ];clear hZ Au b2 d2 df2 g0 g1 g2 g3;go_wp2_with fail;go_roundw
       case rel=>exact⟨j+1,qO,by go_num,Si,Sj,Rz⟩
       case measure=>simp[intOf];omega
     . go_upto_region 11 with fail;rw[<- hy4];clear hy4 gx0 gc0 c0 hx0;go_upto_region 12 with (at_builtin;refine j4 _ rfl (.tmp 42) (.tmp 44) 26 rfl _ _ rfl rfl Au.o ?_);rw[<- hZ];clear hZ Au b2 d2 df2 g0 g1 g2 g3;go_wp2_with fail;go_roundw
       case rel=>exact⟨j+1,qO,by go_num,Si,Sj,Rz⟩
       case measure=>simp[intOf];omega
    .
     obtain⟨vX,vP,Q,Cd,hQm,hx1,hx2⟩:=hnt.out;have ej:j=IL:=qO;have hQl:Q.length=k:=by have:=congrArg List.length hQm;rw[qS,qS,qX]at this;have:=HL.o.1;omega
     have hch:=HG.o.node n (mGt HNk.o);obtain⟨OL,hOL⟩:∃z:Nat,nouts n=(z:Int):=qm (aj6 hch);have hol:OL<=5:=by have:=aw8 hch;omega
     obtain⟨⟨aP',cP',Ci,_,_⟩,_⟩:=g8 Cd.rP;have hLe:(b8 (ns.take k)++n.ins.take j)=b8 (ns.take (k+1)):=by rw[af5 HNk.o,ej,HIL.o,qj]
     obtain⟨i0,hi,hi0,hi1,hi2⟩:=info_parts ah6;have hmk:∀(m:Nat)(W:World),m<=5->(Instr.makeSlice 62 (.int .i64 (m:Int)) (.int .i64 (m:Int))).run prog W=.ok (.slice (some ⟨W.heap.size,0,none⟩) m m) (W.alloc (.cells (madeCells (Value.slice none 0 0).cells m) 28)):=fun m W hm=>by have:=run_makeSlice (P:=prog) W 62 28 i0 (.slice none 0 0) underlying62 hi hi0 .i64 .i64 (m:Int) (m:Int) qO qO (by rw[hi1];omega) (by rw[hi2];omega) qO;rw[hi1,qh,zI]at this;exact this
     have hmc:∀m j,j<m->(madeCells (Value.slice none 0 0).cells m)[j]?=some (.slice none 0 0):=fun m j hj=>by have h1:=xK (.slice none 0 0) m;rw[<- xH];show (madeCells #[Value.slice none 0 0] m).toList[j]?=_;rw[h1,xP,qF hj]
     have hm1:=fun W=>hmk IL W hil;have hm2:=fun W=>hmk OL W hol;obtain⟨C1,hC1⟩:=qE (madeCells (Value.slice none 0 0).cells IL);obtain⟨C2,hC2⟩:=qE (madeCells (Value.slice none 0 0).cells OL);rw[<- hC1]at hm1;rw[<- hC2]at hm2;have HC1:=qH (show ∀j,j<IL->C1[j]?=some (.slice none 0 0) from fun j hj=>by rw[hC1];exact hmc IL j hj);have HC2:=qH (show ∀j,j<OL->C2[j]?=some (.slice none 0 0) from fun j hj=>by rw[hC2];exact hmc OL j hj);have Ir:B6<wr.heap.size:=(aSm hbx.out).1;have Qg:w0.heap.size<wr.heap.size:=(aSm Cd.box).1;obtain⟨_,_,_,b3,_,bf⟩:=i8 Cd.box;rw[Ci]at b3;have bf3:=bf 3;obtain⟨i0',i1',i2',i3',i4',i5',i6',i7'⟩:=D8 hbx.out
     have Ao:Hid (∀(W w':World)(v':Value)(gg go:Nat),w'.heap[w0.heap.size]?=wr.heap[w0.heap.size]? -> NewAt w0 (w'.setCell ⟨w0.heap.size,3,none⟩ v') w0.heap.size (.slice (some ⟨nb,noff,none⟩) NN cn) (.slice af NF cf) vX v' (.slice none 0 0) ((b8 (ns.take k)++n.ins.take j).map (roomOf ns room)) (Q++[⟨IL,OL,gg,go⟩])->Q1 w0 (w'.setCell ⟨w0.heap.size,3,none⟩ v') w0.heap.size (.slice (some ⟨nb,noff,none⟩) NN cn) (.slice af NF cf) (.slice none 0 0) ns room (b8 (ns.take (k+1))) (k+1) w0.heap.size/\Bq w0 (w'.setCell ⟨w0.heap.size,3,none⟩ v')):=(show ∀(W w':World)(v':Value)(gg go:Nat),_ from fun W w' v' gg go _ h1=>by
      rw[hLe]at h1
      refine⟨⟨vX,v',_,h1,?_,h1.nX,h1.nP⟩,h1.bel⟩
      rw[xF,hQm,qZ,HNk.o,xF]
      simp[hOL,HIL.o])
     have HPX:Hid (∀(y W:World)(ad gg go:Nat),Bq wr y->Bq y W->wr.heap.size<=gg/\gg<y.heap.size->wr.heap.size<=go/\go<y.heap.size->y.heap[gg]?=some (.cells C1 28 (0,0))->y.heap[go]?=some (.cells C2 28 (0,0))->y.heap[ad]?=some (.cells #[.slice (some ⟨gg,0,none⟩) IL IL,.int .i64 0,.slice (some ⟨go,0,none⟩) OL OL,.bool false,.bool false] 64 (0,0)) ->
      ∃v' w',(Builtin.append_ #[27,27] 27 #[.slice aP' k cP',.slice (some ⟨ad,0,none⟩) 1 1]).run prog W=.ok v' w'/\∃a' c',v'=.slice a' (k+1) c'/\w'.cell? ⟨w0.heap.size,3,none⟩=some (.slice aP' k cP')/\w'.frozen? ⟨w0.heap.size,3,none⟩=false/\(ak6 wr.heap.size W w'/\Bq w0 w')/\Hid (Q1 w0 (w'.setCell ⟨w0.heap.size,3,none⟩ (.slice a' (k+1) c')) w0.heap.size (.slice (some ⟨nb,noff,none⟩) NN cn) (.slice af NF cf) (.slice none 0 0) ns room (b8 (ns.take (k+1))) (k+1) w0.heap.size/\Bq w0 (w'.setCell ⟨w0.heap.size,3,none⟩ (.slice a' (k+1) c')))):=(show ∀(y W:World)(ad gg go:Nat),_ from fun y W ad gg go q1 q2 q3 q4 q5 q6 q7=>by
      obtain⟨v',w',r1,⟨a',c',r2⟩,r3,r5,r6,r7,r4⟩:=NewAt.procX Cd qO q1 q2 (il:=IL) (ol:=OL) qO qO q3 q4 q5 q6 HC1.o HC2.o q7 27
      rw[Ci,hQl]at r1
      rw[hQl]at r2
      have hbw:=r3.trans Cd.box
      obtain⟨_,_,_,d3,_,df⟩:=i8 hbw
      rw[Ci,hQl]at d3
      subst r2
      exact⟨_,w',r1,a',c',rfl,d3,df 3,⟨fun g hg hgs=>r6 g hgs (fun e=>by have:=(Cd.rP.lt g e).2;omega),r7⟩,Ao.o W w' _ gg go r3 r4⟩)
     rw[hQl]at b3;rw[hOL]at Qc;have HBB:=qH Aa;have HWR:Hid (w0.heap.size<=wr.heap.size):=Aa.o.size;have Xe:=hbx;clear hnt Cd hQm hx1 hx2 hQl hch hOL Ci hLe hi hi0 hi1 hi2 hmk hmc hC1 hC2 bf Ao hbx ej;have HI8:=qH (show ∀W,Bq wr W->W.heap[B6]?=some (.cells #[.int .i64 n0,.string fx,.int .i64 n2,.string wx0,.int .i64 n4,.int .i64 n5,.int .i64 n6,.slice ai IL ci] 57 (0,0))/\W.cell? ⟨w0.heap.size,3,none⟩=some (.slice aP' k cP') from fun W hW=>⟨(hW.block B6 Ir).trans Xe.o,qC hW b3⟩);have Xf:=qH Qg;have HM1:=qH hm1;have HM2:=qH hm2;clear hm1 hm2 b3 bf3 i0' i1' i2' i3' i4' i5' i6' i7' Ir Qg;go_upto_region 13 with fail;refine at1 qQ qQ (fun L a W=>NI 48 w0 wr w0.heap.size B6 (.slice aP' k cP') (.agg #[.int .i64 n0,.string fx,.int .i64 n2,.string wx0,.int .i64 n4,.int .i64 n5,.int .i64 n6,.slice ai IL ci]) (.slice ai IL ci) IL OL C1 C2 k (fun Z=>Q1 w0 Z w0.heap.size (.slice (some ⟨nb,noff,none⟩) NN cn) (.slice af NF cf) (.slice none 0 0) ns room (b8 (ns.take (k+1))) (k+1) w0.heap.size/\Bq w0 Z) ?A0 L a W) ?hs ?he ?h0
     case h0=>exact NI.start _ HBB.o
     case he=>
      intro L a W An hI;have hf:=hI.ov.form (show 48+13<=63 by decide);have HF2:Hid (Q1 w0 W w0.heap.size (.slice (some ⟨nb,noff,none⟩) NN cn) (.slice af NF cf) (.slice none 0 0) ns room (b8 (ns.take (k+1))) (k+1) w0.heap.size/\Bq w0 W):=hI.p2 (An 13 (by decide));rw[hf,show List.range 13=[0,1,2,3,4,5,6,7,8,9,10,11,12] from rfl];simp only[List.foldl,Nat.reduceAdd];clear hf An hI;generalize a.eval (.tmp 48)=x48;generalize a.eval (.tmp 49)=x49;generalize a.eval (.tmp 50)=x50;generalize a.eval (.tmp 51)=x51;generalize a.eval (.tmp 52)=x52;generalize a.eval (.tmp 53)=x53;generalize a.eval (.tmp 54)=x54;generalize a.eval (.tmp 55)=x55;generalize a.eval (.tmp 56)=x56;generalize a.eval (.tmp 57)=x57;generalize a.eval (.tmp 58)=x58;generalize a.eval (.tmp 59)=x59;generalize a.eval (.tmp 60)=x60;simp only[Act.put,List.setIfInBounds_toArray,List.set];go_wp2_with fail;go_roundw
      case rel=>exact⟨k+1,qO,by go_num,HF2.o.1,HF2.o.2⟩
      case measure=>simp[intOf];omega
     case hs=>
      intro L i o a W ho hL Bh hI;have hi:i<14:=by have:=(aSm ho).1;simpa using this
      have Gi:i=0\/i=1\/i=2\/i=3\/i=4\/i=5\/i=6\/i=7\/i=8\/i=9\/i=10\/i=11\/i=12\/i=13:=qO;clear hi;have hsz:48+13<=63:=by decide
      rcases Gi with rfl | rfl | rfl | rfl | rfl | rfl | rfl | rfl | rfl | rfl | rfl | rfl | rfl | rfl
      . obtain rfl:o=_:=(qd ho).symm;refine D9 ho (by simp[Region.wanted]) ?_;unfold Oper.wp;have o9:a.eval (.tmp 7)=.pointer (some ⟨w0.heap.size,0,none⟩):=(hI.ov.old (by decide)).trans rfl;simp only[Act.eval,qN]at o9;go_simp;exact hI.put hL (by decide) hsz HWR.o (Below.refl _ _) rfl (by simp[H9])
      . obtain rfl:o=_:=(qd ho).symm;have d0:L 0=true:=Bh ⟨0,.data⟩ (by simp) rfl;refine D9 ho (by simp[Region.wanted]) ?_;unfold Oper.wp;have e48:a.eval (.tmp 48)=.pointer (some ⟨w0.heap.size,3,none⟩):=hI.ov.vs 0 (by decide) d0;have hbW:=hI.p0 (hI.not11 hL (by decide));obtain⟨i0,i1,i2,i3,i4,i5,i6,i7⟩:=D8 (HI8.o W hbW).1;have b3:=(HI8.o W hbW).2;simp only[Act.eval,qN]at e48;go_simp;exact hI.put hL (by decide) hsz HWR.o (Below.refl _ _) rfl (by simp[H9,d0])
      . obtain rfl:o=_:=(qd ho).symm;refine D9 ho (by simp[Region.wanted]) ?_;unfold Oper.wp;have o11:a.eval (.tmp 9)=.pointer (some ⟨B6,0,none⟩):=(hI.ov.old (by decide)).trans rfl;simp only[Act.eval,qN]at o11;go_simp;exact hI.put hL (by decide) hsz HWR.o (Below.refl _ _) rfl (by simp[H9])
      . obtain rfl:o=_:=(qd ho).symm;have d2:L 2=true:=Bh ⟨2,.data⟩ (by simp) rfl;refine D9 ho (by simp[Region.wanted]) ?_;unfold Oper.wp;have e50:a.eval (.tmp 50)=.pointer (some ⟨B6,7,none⟩):=hI.ov.vs 2 (by decide) d2;have hbW:=hI.p0 (hI.not11 hL (by decide));obtain⟨i0,i1,i2,i3,i4,i5,i6,i7⟩:=D8 (HI8.o W hbW).1;have b3:=(HI8.o W hbW).2;simp only[Act.eval,qN]at e50;go_simp;exact hI.put hL (by decide) hsz HWR.o (Below.refl _ _) rfl (by simp[H9,d2])
      . obtain rfl:o=_:=(qd ho).symm;have d3:L 3=true:=Bh ⟨3,.data⟩ (by simp) rfl;refine D9 ho (by simp[Region.wanted]) ?_;unfold Oper.wp;have e51:a.eval (.tmp 51)=.slice ai IL ci:=hI.ov.vs 3 (by decide) d3;simp only[Act.eval,qN]at e51;go_simp;exact hI.put hL (by decide) hsz HWR.o (Below.refl _ _) rfl (by simp[H9,d3])
      . obtain rfl:o=_:=(qd ho).symm;have d4:L 4=true:=Bh ⟨4,.data⟩ (by simp) rfl;refine D9 ho (by simp[Region.wanted]) ?_;unfold Oper.wp;have e52:a.eval (.tmp 52)=.int .i64 (IL:Int):=hI.ov.vs 4 (by decide) d4;have hbW:=hI.p0 (hI.not11 hL (by decide));have hm:=HM1.o W;simp only[Act.eval,qN]at e52;go_simp;exact hI.put hL (by decide) hsz HWR.o boxE ⟨W.heap.size,rfl,hbW.size,qJ _ _⟩ (by simp[H9,d4])
      . obtain rfl:o=_:=(qd ho).symm;refine D9 ho (by simp[Region.wanted]) ?_;unfold Oper.wp;have o11:a.eval (.tmp 9)=.pointer (some ⟨B6,0,none⟩):=(hI.ov.old (by decide)).trans rfl;have hbW:=hI.p0 (hI.not11 hL (by decide));obtain⟨i0,i1,i2,i3,i4,i5,i6,i7⟩:=D8 (HI8.o W hbW).1;have b3:=(HI8.o W hbW).2;simp only[Act.eval,qN]at o11;go_simp;exact hI.put hL (by decide) hsz HWR.o (Below.refl _ _) rfl (by simp[H9])
      . obtain rfl:o=_:=(qd ho).symm;have d6:L 6=true:=Bh ⟨6,.data⟩ (by simp) rfl;refine D9 ho (by simp[Region.wanted]) ?_;unfold Oper.wp;have e54:a.eval (.tmp 54)=.agg #[.int .i64 n0,.string fx,.int .i64 n2,.string wx0,.int .i64 n4,.int .i64 n5,.int .i64 n6,.slice ai IL ci]:=hI.ov.vs 6 (by decide) d6;simp only[Act.eval,qN]at e54;go_simp;refine qD (Qc.o W) ?_;rintro e w7⟨rfl,hb7⟩;exact hI.put hL (by decide) hsz HWR.o hb7 rfl (by simp[H9,d6])
      . obtain rfl:o=_:=(qd ho).symm;have d7:L 7=true:=Bh ⟨7,.data⟩ (by simp) rfl;refine D9 ho (by simp[Region.wanted]) ?_;unfold Oper.wp;have e55:a.eval (.tmp 55)=.int .i64 (OL:Int):=hI.ov.vs 7 (by decide) d7;have hbW:=hI.p0 (hI.not11 hL (by decide));have hm:=HM2.o W;simp only[Act.eval,qN]at e55;go_simp;exact hI.put hL (by decide) hsz HWR.o boxE ⟨W.heap.size,rfl,hbW.size,qJ _ _⟩ (by simp[H9,d7])
      . obtain rfl:o=_:=(qd ho).symm;have d5:L 5=true:=Bh ⟨5,.data⟩ (by simp) rfl;have d8:L 8=true:=Bh ⟨8,.data⟩ (by simp) rfl;refine D9 ho (by simp[Region.wanted]) ?_;unfold Oper.wp;obtain⟨gg,e53,g1,g2⟩:∃gg,a.eval (.tmp 53)=.slice (some ⟨gg,0,none⟩) IL IL/\wr.heap.size<=gg/\W.heap[gg]?=some (.cells C1 28 (0,0)):=hI.ov.vs 5 (by decide) d5;obtain⟨go,e56,g3,g4⟩:∃go,a.eval (.tmp 56)=.slice (some ⟨go,0,none⟩) OL OL/\wr.heap.size<=go/\W.heap[go]?=some (.cells C2 28 (0,0)):=hI.ov.vs 8 (by decide) d8;simp only[Act.eval,qN]at e53 e56;go_simp;exact hI.put hL (by decide) hsz HWR.o (Below.refl _ _) ⟨gg,go,rfl,⟨g1,g2⟩,⟨g3,g4⟩⟩ (by simp[H9,d5,d8])
      . obtain rfl:o=_:=(qd ho).symm;have d9:L 9=true:=Bh ⟨9,.data⟩ (by simp) rfl;refine D9 ho (by simp[Region.wanted]) ?_;unfold Oper.wp;have hbW:=hI.p0 (hI.not11 hL (by decide));obtain⟨gg,go,e57,⟨g1,g2⟩,⟨g3,g4⟩⟩:∃gg go,a.eval (.tmp 57)=.agg #[.slice (some ⟨gg,0,none⟩) IL IL,.int .i64 0,.slice (some ⟨go,0,none⟩) OL OL,.bool false,.bool false]/\(wr.heap.size<=gg/\W.heap[gg]?=some (.cells C1 28 (0,0)))/\(wr.heap.size<=go/\W.heap[go]?=some (.cells C2 28 (0,0))):=hI.ov.vs 9 (by decide) d9;simp only[Act.eval,qN]at e57;go_simp;exact hI.put hL (by decide) hsz HWR.o boxE ⟨W.heap.size,gg,go,rfl,⟨hbW.size,qJ _ _⟩,⟨g1,qK boxE g2⟩,⟨g3,qK boxE g4⟩⟩ (by simp[H9,d9])
      . obtain rfl:o=_:=(qd ho).symm;have d1:L 1=true:=Bh ⟨1,.data⟩ (by simp) rfl;have d10:L 10=true:=Bh ⟨10,.data⟩ (by simp) rfl;show wpOp _ _ _ 11 (fun a' W'=>NI 48 w0 wr w0.heap.size B6 (.slice aP' k cP') (.agg #[.int .i64 n0,.string fx,.int .i64 n2,.string wx0,.int .i64 n4,.int .i64 n5,.int .i64 n6,.slice ai IL ci]) (.slice ai IL ci) IL OL C1 C2 k (fun Z=>Q1 w0 Z w0.heap.size (.slice (some ⟨nb,noff,none⟩) NN cn) (.slice af NF cf) (.slice none 0 0) ns room (b8 (ns.take (k+1))) (k+1) w0.heap.size/\Bq w0 Z) _ (updV L 11) a' W') a W;unfold wpOp;rw[ho];simp only;rw[qF (by simp[Region.wanted])];refine Or.inl ?_;have e49:a.eval (.tmp 49)=.slice aP' k cP':=hI.ov.vs 1 (by decide) d1;obtain⟨ad,gg,go,e58,⟨g0,g5⟩,⟨g1,g2⟩,⟨g3,g4⟩⟩:∃ad gg go,a.eval (.tmp 58)=.slice (some ⟨ad,0,none⟩) 1 1/\(wr.heap.size<=ad/\W.heap[ad]?=some (.cells #[.slice (some ⟨gg,0,none⟩) IL IL,.int .i64 0,.slice (some ⟨go,0,none⟩) OL OL,.bool false,.bool false] 64 (0,0)))/\(wr.heap.size<=gg/\W.heap[gg]?=some (.cells C1 28 (0,0)))/\(wr.heap.size<=go/\W.heap[go]?=some (.cells C2 28 (0,0))):=hI.ov.vs 10 (by decide) d10;have hbW:=hI.p0 hL;obtain⟨v',w',Ae,a',c',rfl,z3,zf,hkp,hh⟩:=HPX.o W W ad gg go hbW (Below.refl _ _) ⟨g1,(aSm g2).1⟩ ⟨g3,(aSm g4).1⟩ g2 g4 g5;have An:∀j,j<=10->L j=true:=hI.dc.all d1 d10;unfold Oper.wp;simp[execOp,resolve,invoke,builtin,e49,e58,Ae,Result.andThen];exact hI.put11 hsz hL An hkp.1 hkp.2 z3 zf hh.out
      . obtain rfl:o=_:=(qd ho).symm;refine D9 ho (by simp[Region.wanted]) ?_;unfold Oper.wp;have o9:a.eval (.tmp 7)=.pointer (some ⟨w0.heap.size,0,none⟩):=(hI.ov.old (by decide)).trans rfl;simp only[Act.eval,qN]at o9;go_simp;exact hI.put12 hsz
      . obtain rfl:o=_:=(qd ho).symm;have d11:L 11=true:=Bh ⟨11,.data⟩ (by simp) rfl;have d12:L 12=true:=Bh ⟨12,.data⟩ (by simp) rfl;show wpOp _ _ _ 13 (fun a' W'=>NI 48 w0 wr w0.heap.size B6 (.slice aP' k cP') (.agg #[.int .i64 n0,.string fx,.int .i64 n2,.string wx0,.int .i64 n4,.int .i64 n5,.int .i64 n6,.slice ai IL ci]) (.slice ai IL ci) IL OL C1 C2 k (fun Z=>Q1 w0 Z w0.heap.size (.slice (some ⟨nb,noff,none⟩) NN cn) (.slice af NF cf) (.slice none 0 0) ns room (b8 (ns.take (k+1))) (k+1) w0.heap.size/\Bq w0 Z) _ (updV L 13) a' W') a W;unfold wpOp;rw[ho];simp only;rw[qF (by simp[Region.wanted])];refine Or.inl ?_;have e60:a.eval (.tmp 60)=.pointer (some ⟨w0.heap.size,3,none⟩):=hI.ov.vs 12 (by decide) d12;obtain⟨a',c',e59,q1,q2,q3⟩:=hI.p1 d11 hL;have e59:a.eval (.tmp 59)=_:=e59;unfold Oper.wp;simp only[Act.eval,qN]at e60 e59;go_simp;exact hI.put13 d11 (fun g hg hgs=>Below.heap_setCell _ _ _ _ (by have:=Xf.o;show g≠w0.heap.size;omega)) q3.2 q3
  .
   have ek:k=NN:=qO;obtain⟨vX,vP,Q,hNA,hQm,_,_⟩:=hnt.out;have ek':k=ns.length:=by have:=HL.o.1;omega
   rw[ek',qj]at hNA hQm;have hX2:=(Aa.o.block _ (by have:=HDW.o;omega)).trans HX0.o.2;have Gt:Z7 wr (w.heap.size+1):=br5 hX2;obtain⟨⟨aX9,cX9,Qh,_,_⟩,_⟩:=g8 hNA.rX;obtain⟨⟨aP9,cP9,Qi,_,_⟩,_⟩:=g8 hNA.rP
   have HMA:=qH (show ∀wF:World,(∀g,g≠w.heap.size+1->wF.heap[g]?=wr.heap[g]?)->E7 wF (.agg #[.slice (some ⟨nb,noff,none⟩) NN cn,.slice af NF cf,vX,vP,.slice none 0 0]) (E4 ns fs room) from fun wF hwF=>by
    obtain⟨bn,bf,bx,bp,dn,df,dx,dp,e1,e2,e3,e4,hRM⟩:=NewAt.mach hNA (ns:=ns) (fs:=fs) HN0.o.1 HN0.o.2 rfl HCS.o (M:=E4 ns fs room) rfl rfl (by unfold E4;simp[zP]) (by
     unfold E4
     have h1:=congrArg (List.map (fun(p:Nat × Nat)=>(⟨List.replicate p.1 [],0,List.replicate p.2 [],false,false⟩:SProc))) hQm
     rw[zP,zP]at h1
     exact h1.symm) rfl wF (fun g hg=>hwF g (by have:=HDW.o;omega)) (ap2 (X:=fun k=>k=w.heap.size+1) (HN0.o.1.below Aa.o) (fun x hx=>by rw[hx];exact Gt) hwF) (ap5 (X:=fun k=>k=w.heap.size+1) (HN0.o.2.below Aa.o) (fun x hx=>by rw[hx];exact Gt) hwF)
    exact⟨bn,bf,bx,bp,none,dn,df,dx,dp,0,by unfold machV;rw[<- e1,<- e2,<- e3,<- e4];rfl,hRM⟩)
   obtain⟨c0,c1,c2,c3,c4,_⟩:=i8 hNA.box;obtain⟨y0,y1,y2,y3,y4,yf⟩:=i8 hX2;have yf0:=yf 0;have yf1:=yf 1;have yf2:=yf 2;have yf3:=yf 3;have yf4:=yf 4;have Xg:w0.heap.size≠w.heap.size+1:=by have:=HDW.o;omega
   have hbMw':w.heap.size+1≠w0.heap.size:=fun e=>Xg e.symm;have HBF:Hid (Bq w wr):=HBW.o wr Aa.o;rw[Qh]at c2 HMA;rw[Qi]at c3 HMA;generalize ((b8 ns).map (roomOf ns room)).length=LX,Q.length=LP at *;clear hnt hNA hQm hX2 Gt yf Qh Qi Aa;go_wp2_with fail;(try simp only[Exit.inBlock,Exit.then])
   refine qx (v:=.agg #[.slice (some ⟨nb,noff,none⟩) NN cn,.slice af NF cf,.slice aX9 LX cX9,.slice aP9 LP cP9,.slice none 0 0]) ?_ rfl ?_
   . rw[ag4 rfl];go_simp
   . refine⟨_,rfl,HMA.o _ (fun g hg=>?_),?_⟩
     . rw[Below.heap_setCell _ _ _ _ hg,Below.heap_setCell _ _ _ _ hg,Below.heap_setCell _ _ _ _ hg,Below.heap_setCell _ _ _ _ hg,Below.heap_setCell _ _ _ _ hg]
     . repeat (first|refine Below.setCell ?_ (by simp) _ | exact HBF.o)
open Go.ChangeShapes Go.WideShapes Go.ChangeAt
variable {H:Type} {enc:TypeId × Value->H} {W:World} {base:Nat} {held:Bool} {fuel:Nat} {x:DataW H × List MemPlace}
open Go.Joins in
theorem bs3{b0:Nat}{t:TypeId}{v:Value}{d:DataW H}{p:List MemPlace}(hs:P.underlying t=some (.struct #[f0]))(o0:f0.offset=0)(hC:P.cellsOf t=1)(k0:P.cellsOf f0.type=1)
 (hv:Value.okWide P W r b0 t v) (h:DataW.Trod enc P W base (fun _=>true) held t v d p):∃c0 y n,v=.agg #[c0]/\DataW.trod enc P W base (fun _=>true) held n f0.type [c0]=some y:=by
 obtain⟨cs,rfl,hsz⟩:=okWide_struct hs hv;obtain⟨c0,rfl⟩:∃c0,cs=#[c0]:=by
  have h1:cs.size=1:=hsz.trans hC;obtain⟨l⟩:=cs
  match l,h1 with
  | [c0],_=>exact⟨c0,rfl⟩
 obtain⟨fuel,hf⟩:=h;obtain⟨xs,n,_,_,_,hxl,hg⟩:=zk hs hf
 match xs,hxl with
 | [y0],_=>have g0:=hg 0 f0 rfl;exact⟨c0,y0,n,rfl,by simpa[Value.cells,o0,k0]using g0⟩
theorem aT9{b0:Nat}{v:Value}{d:DataW H}{p:List MemPlace}(hv:Value.okWide prog W r b0 24 v)(h:DataW.Trod enc prog W base (fun _=>true) held 24 v d p):
 ∃(ns:List SNode)(an:Option Addr)(capn:Nat),v=.agg #[.slice an ns.length capn]/\y8 W (.slice an ns.length capn) ns/\(∀n∈ns,G8 n)/\∀n∈ns,(Lit.int .i64 n.c.kind).wf=true:=by obtain⟨c0,y,n,rfl,g1⟩:=bs3 underlying24 rfl qQ qQ hv h;obtain⟨ns,e1,e2,e3⟩:=at6 g1;obtain⟨an,capn,rfl,_,_⟩:=e1.shape;exact⟨ns,an,capn,rfl,e1,e2,e3⟩
end Go.Proofs.YtmejdflmcikkdaaGreatDoor
