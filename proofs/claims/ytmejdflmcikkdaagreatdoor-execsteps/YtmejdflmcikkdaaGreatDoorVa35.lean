/- What the reference's Stepped does. -/
import Derived.Test.YtmejdflmcikkdaaGreatDoorVAb
import Derived.Test.YtmejdflmcikkdaaGreatDoorVa34
set_option linter.all false
set_option maxRecDepth 100000
set_option maxHeartbeats 64000000
namespace Go.Proofs.YtmejdflmcikkdaaGreatDoor
open Go.RowKit Go.Gs Go.Maps Tryz
theorem aG7(D r:Nat)(O:qW)(d:RD)(i:Nat)(n:SNode)(p:SProc)(w:World)(h:RMem w D r O NoG d)(hv:d.vM=.bool true)(hS:Shape d.M)(hn:d.M.ns[i]?=some n)(hp:d.M.ps[i]?=some p)(Ad:∀n∈d.M.ns,G8 n)(hsm:SmallM d.M)(hE:∀W,Below D w W->q8 W/\W.ShapedOpen prog):
 Calls prog 15 #[.pointer (some ⟨r,0,none⟩),.int .i64 i] w fun e w'=>e=.returned (.int .i64 (Y5 d.M i n p).2)/\∃O',RefA NoG w' D r O' (Y5 d.M i n p).1/\KeptO O O' w w':=by
 have hg:=hS.g;have hF:=hS.proc i n p hn hp;have hil:i<d.M.ps.length:=(gSm hp).1;have hin:i<d.M.ns.length:=(gSm hn).1;have h60:=hg.le60;obtain⟨gP,cP,s,hvP,Db,Dw,hgP,hOP,hs,p0,p1,p2,p3,p4,hfP,hGo,hOo,hgl,hol⟩:=h.procAt hp;obtain⟨⟨ao,co,hov,Ej,Bn⟩,_⟩:=g8 hOo;obtain⟨⟨ag,cg,hgv,Jx,Jy⟩,_⟩:=g8 hGo;obtain⟨hRN,hRF⟩:=h.nodes;obtain⟨an,cn,hvN,Ih,Dz⟩:=hRN.shape;obtain⟨af,cf,hvF,Rn,Ro⟩:=hRF.shape;rw[hvN]at hRN;obtain⟨gX,cX,hvX,Fz,Fo,hOX⟩:=h.formX (Shape.pipes0 hS);obtain⟨W1,hW1⟩:=qE (w.alloc (.cells #[.pointer (some ⟨r,0,none⟩)] 43));have hb1:Bq w W1:=by rw[hW1];exact boxE
 have hs1:W1.heap.size=w.heap.size+1:=by rw[hW1];simp
 have hbm:W1.heap[w.heap.size]?=some (.cells #[.pointer (some ⟨r,0,none⟩)] 43 (0,0)):=by rw[hW1];exact qJ _ _
 have h1:=h.below hb1;have hbx:=h1.boxM hv;obtain⟨x0,x1,x2,x3,x4,_⟩:=i8 hbx;rw[hvN]at x0;have hPO:=bq3 an cn d.M.ns W1 (hRN.below hb1) hg Ad
 have HH:Hid (RMem W1 D r O NoG d/\KeptO O O w W1/\W1.heap[w.heap.size]?=some (.cells #[.pointer (some ⟨r,0,none⟩)] 43 (0,0))/\O w.heap.size=none):=⟨h1,KeptO.of_below hb1 (fun _ _=>rfl),hbm,by
  cases e:O w.heap.size with
  | none=>rfl
  | some o=>exact absurd (h.lo _ o e).2 qO⟩
 have HD:Hid (RMem w D r O NoG d/\d.vM=.bool true/\Shape d.M/\d.M.ns[i]?=some n/\d.M.ps[i]?=some p/\(∀n∈d.M.ns,G8 n)/\SmallM d.M):=⟨h,hv,hS,hn,hp,Ad,hsm⟩;have HV:Hid (d.vP=.slice (some ⟨gP,0,none⟩) d.M.ps.length cP/\d.vX=.slice (some ⟨gX,0,none⟩) d.M.pipes.length cX/\d.vN=.slice an d.M.ns.length cn/\d.vF=.slice af d.M.fs.length cf/\d.P[i]?=some s/\s.ov=.slice ao p.out.length co/\s.gv=.slice ag p.got.length cg):=⟨hvP,hvX,hvN,hvF,hs,hov,hgv⟩;have HE:=qH hE;obtain⟨RES,Aj⟩:=qE (Y5 d.M i n p);have HRS:=qH Aj;rw[<- Aj];clear Aj;obtain⟨NN,hNN⟩:=qE d.M.ns.length;obtain⟨NP,hNP⟩:=qE d.M.ps.length;obtain⟨NX,hNX⟩:=qE d.M.pipes.length;have HNN:Hid (NN=d.M.ns.length/\NP=d.M.ps.length/\NX=d.M.pipes.length):=⟨hNN,hNP,hNX⟩;have HPO:=qH (show Calls prog 48 #[.agg #[.slice an NN cn]] W1 fun e w'=>e=.returned (.tuple #[.func (.func 79) #[] #[.pointer (some ⟨W1.heap.size+2,0,none⟩)],.map (some (W1.heap.size+3))])/\PipesAt W1 w' d.M.ns an cn d.M.ns.length (b8 d.M.ns) from by rw[hNN];exact hPO);rw[<- hNN]at x0 hin h60 Ih;rw[<- hNP]at hil Db;rw[<- hNX]at Fz;clear h hS hn hp Ad hsm hE hg hF hvP hvX hvN hvF hs hov hgv p0 p1 p2 p3 p4 hfP hGo hOo hgl hol hRN hRF hbx x1 x2 x3 x4 h1 hv hs1 hbm hb1 hOP hOX hPO hNN hNP hNX;go_enter func15,ntmps15;go_upto_region 1 with fail;rw[<- hW1];clear hW1;have xm:=qY _ _ 0 _ _ _ HH.o.2.2.1;simp only[xX,qq]at xm;go_wp2_with fail;refine qD HPO.o ?_;rintro e w2⟨rfl,hPA⟩;obtain⟨q1,q2,q3,q4⟩:=HH.o;obtain⟨O1,hR2,hK2,hO4⟩:=bY2 q1 hPA hPA.bel;have Xo:w2.heap[w.heap.size]?=some (.cells #[.pointer (some ⟨r,0,none⟩)] 43 (0,0))/\O1 w.heap.size=none:=⟨qK hPA.bel q3,(hK2.old _ (aSm q3).1).trans q4⟩;have HR2:Hid (RMem w2 D r O1 (AuxF D (.slice (some ⟨W1.heap.size+1,0,none⟩) d.M.ns.length d.M.ns.length) (.map (some (W1.heap.size+3))) d.M.ns) d/\KeptO O O1 w w2/\(w2.heap[W1.heap.size+2]?=some (.cells #[.slice (some ⟨W1.heap.size+1,0,none⟩) d.M.ns.length d.M.ns.length] 45 (0,0))/\O1 (W1.heap.size+2)=none)/\(w2.heap[w.heap.size]?=some (.cells #[.pointer (some ⟨r,0,none⟩)] 43 (0,0))/\O1 w.heap.size=none)):=⟨hR2,q2.trans hK2,⟨hPA.box,hO4⟩,Xo⟩;obtain⟨b4,hb4⟩:=qE (W1.heap.size+2);obtain⟨mp,hmp⟩:=qE (W1.heap.size+3);obtain⟨gI,hgI⟩:=qE (W1.heap.size+1);obtain⟨bm,hbm⟩:=qE w.heap.size;rw[<- hb4,<- hmp,<- hgI,<- hbm]at HR2;rw[<- hb4,<- hmp,<- hbm];clear hb4 hmp hgI;have hbx:=hR2.boxM HD.o.2.1;obtain⟨y0,_,_,y3,_⟩:=i8 hbx;rw[HV.o.2.2.1,<- HNN.o.1]at y0;rw[HV.o.1,<- HNN.o.2.1]at y3;have ym:=qY _ _ 0 _ _ _ Xo.1;simp only[xX,qq]at ym;have Xp:=hR2.nodes.1;rw[HV.o.2.2.1,<- HNN.o.1]at Xp;obtain⟨nb,noff,ai,ci,rfl,hNA,hrp⟩:=Xp.at HD.o.2.2.2.1;obtain⟨c0,c1,c2,c3,c4,c5,c6,c7⟩:=hNA;rw[<- hbm]at ym;clear HPO HH x0 xm hPA q1 q2 q3 q4 hR2 hK2 hO4 Xo hbx Xp hrp hbm;have kA:∀(o:Obj)(k j:Nat),k<w2.heap.size->(w2.alloc o).cell? ⟨k,j,none⟩=w2.cell? ⟨k,j,none⟩:=fun o k j hk=>boxE.cell hk;have kB:∀(o o':Obj)(k j:Nat),k<w2.heap.size->((w2.alloc o).alloc o').cell? ⟨k,j,none⟩=w2.cell? ⟨k,j,none⟩:=fun o o' k j hk=>al4.cell hk;have l1:bm<w2.heap.size:=bLt w2 _ ym;have l2:r<w2.heap.size:=bLt w2 _ y0;have l3:nb<w2.heap.size:=bLt w2 _ c0;go_upto_region 2 with fail;go_cut [7,8] (fun x y wx=>∃bp bn,x=.pointer (some ⟨bp,0,none⟩)/\y=.pointer (some ⟨bn,0,none⟩)/\Hid (Bq w2 wx/\(wx.heap[bp]?=some (.cells #[.pointer (some ⟨gP,i*5,none⟩)] 101 (0,0))/\w2.heap.size<=bp)/\(wx.heap[bn]?=some (.cells #[.int .i64 n.kind,.string ⟨n.file.toArray⟩,.int .i64 n.c.kind,.string ⟨n.c.word.toArray⟩,.int .i64 n.c.n,.int .i64 n.how,.int .i64 n.wide,.slice ai n.ins.length ci] 57 (0,0))/\w2.heap.size<=bn)))
 case first=>
  as_aux_lemma=>
   go_region_held3 (fun W=>W.cell? ⟨bm,0,none⟩=some (.pointer (some ⟨r,0,none⟩))/\W.cell? ⟨r,0,none⟩=some (.slice (some ⟨nb,noff,none⟩) NN cn)/\W.cell? ⟨r,3,none⟩=some (.slice (some ⟨gP,0,none⟩) NP cP)/\W.cell? ⟨nb,noff+i*8,none⟩=some (.int .i64 n.kind)/\W.cell? ⟨nb,noff+i*8+1,none⟩=some (.string ⟨n.file.toArray⟩)/\W.cell? ⟨nb,noff+i*8+2,none⟩=some (.int .i64 n.c.kind)/\W.cell? ⟨nb,noff+i*8+3,none⟩=some (.string ⟨n.c.word.toArray⟩)/\W.cell? ⟨nb,noff+i*8+4,none⟩=some (.int .i64 n.c.n)/\W.cell? ⟨nb,noff+i*8+5,none⟩=some (.int .i64 n.how)/\W.cell? ⟨nb,noff+i*8+6,none⟩=some (.int .i64 n.wide)/\W.cell? ⟨nb,noff+i*8+7,none⟩=some (.slice ai n.ins.length ci)) (go_keep) (fail)
   all_goals
    go_wp2_with fail
    go_meet
    first
     | exact⟨_,_,rfl,rfl,⟨al4.drew,⟨xQ _ _ _,qA _⟩,⟨xM _ _ _,qO⟩⟩⟩
     | exact⟨_,_,rfl,rfl,⟨al4.drew,⟨xM _ _ _,qO⟩,⟨xQ _ _ _,qA _⟩⟩⟩
 case rest=>
  obtain⟨bp,bn,rfl,rfl,hB⟩:=hcut;obtain⟨hBc,hBp,hBn⟩:=hB.out;obtain⟨WX,hWX⟩:=qE (wc.alloc (.cells #[.func (.func 49) #[] #[]] 103));have hbX:Bq wc WX:=by rw[hWX];exact boxE
  have hba:WX.heap[wc.heap.size]?=some (.cells #[.func (.func 49) #[] #[]] 103 (0,0)):=by rw[hWX];exact qJ _ _
  obtain⟨ba,Sr⟩:=qE wc.heap.size;have HSB:Hid (StepB w WX D r O O1 d n ai ci i gP bp bn bm ba b4 mp gI):=StepB.of HR2.o.1 HR2.o.2.1 (hBc.trans (hbX.mono hBc.size)) HR2.o.2.2.1 HR2.o.2.2.2 ⟨qK hbX hBp.1,hBp.2⟩ ⟨qK hbX hBn.1,hBn.2⟩ ⟨by rw[Sr];exact hba,by rw[Sr];exact hBc.size⟩;clear kA kB l1 l2 l3 ym y0 y3 c0 c1 c2 c3 c4 c5 c6 c7 hBc hBp hBn hbX hba hB HR2;go_upto_region 5 with fail;rw[<- hWX,<- Sr];clear hWX Sr;obtain⟨xp,xm,xa,x4⟩:=HSB.o.cells;obtain⟨p0,p1,p2,p3,p4,hfP,hOP,hgP⟩:=HSB.o.mem.procIn HD.o.2.2.2.2.1 HV.o.1 HV.o.2.2.2.2.1;rw[HV.o.2.2.2.2.2.1]at p2;by_cases hov:p.ov=true
  . have Bd:=qH (show Y5 d.M i n p=(d.M,7) by unfold Y5;rw[qF hov]);rw[hov]at p4;clear hov p0 p1 p2 p3 hfP;go_wp2_with fail;go_ret;rw[HRS.o,Bd.o];exact⟨rfl,HSB.o.done HD.o.2.1⟩
  have Ez:p.ov=false:=by simpa using hov
  rw[Ez]at p4;have HST:=qH (show Y5 d.M i n p=if p.out.any (fun b=>!b.isEmpty) then E2 d.M i p 0 (p.out.drop 0) else if p.rd then (endS d.M i p,0) else if p.got.isEmpty then (d.M.setP i (D2 n d.M.fs p),0) else Y4 d.M i n (Gs.f9 d.M.ns i+p.pos.toNat) p by unfold Y5;rw[qB (by rw[Ez];simp)];rfl);obtain⟨OL,hOL⟩:=qE p.out.length;have HOL:=qH hOL;rw[<- hOL]at p2;have hol5:OL<=5:=by have h1:=HD.o.2.2.1.proc i n p HD.o.2.2.2.1 HD.o.2.2.2.2.1;have h2:=aw8 (HD.o.2.2.1.g.node n (mGt HD.o.2.2.2.1));have:=h1.olen;omega
  have HOV:=qH Ez;have Ti:co<=9223372036854775807:=by unfold maxLen at Bn;exact Bn
  have hov1':OL<=co:=by rw[hOL];exact Ej
  clear hov Ez hOL;go_wp2_with fail;clear p0 p1 p2 p3 p4 xp xm xa x4 hfP;go_loopw [11,58] (fun s11 z wr=>∃k:Nat,k<=OL/\z=.int .i64 k/\s11=.bool ((p.out.take k).any (fun b=>!b.isEmpty))/\Hid (Bq WX wr)/\Hid (E2 d.M i p 0 (p.out.drop 0)=E2 d.M i p k (p.out.drop k))) (fun _ z _=>OL-(intOf z).toNat)
  case atStart=>exact⟨0,qM _,rfl,by simp,Below.refl _ _,(show _=_ from rfl)⟩
  case round=>
   obtain⟨k,hk,rfl,rfl,Aa,hwr⟩:=hrel;have hSB:=HSB.o.below Aa.o;by_cases hlt:k<OL
   .
    obtain⟨b,hb⟩:∃b,p.out[k]?=some b:=⟨_,gEl (by have:=HOL.o;omega)⟩;have hdr:p.out.drop k=b::p.out.drop (k+1):=by rw[qt (gSm hb).1];congr 1;have hb':=hb;rw[gEl (gSm hb).1]at hb';injection hb'
    obtain⟨gO,cO,a,eO,Us,Yc,hgO,hOO,ha,hSa,hcO,hfO⟩:=hSB.mem.outAt HD.o.2.2.2.2.1 HV.o.2.2.2.2.1 hb;have Bn:=HV.o.2.2.2.2.2.1;rw[Bn]at eO;injection eO with eO1 _ eO3;subst eO1 eO3;have htk:(p.out.take (k+1)).any (fun b=>!b.isEmpty)=((p.out.take k).any (fun b=>!b.isEmpty) || !b.isEmpty):=by rw[qZ,hb,zO,List.any_append];simp
    have hbl:=t8 hSa.reads;obtain⟨q,hq⟩:=qE (E9 d.M.ns ((i:Int),(k:Int)));have hkn:(k:Int)<nouts n:=by have:=(HD.o.2.2.1.proc i n p HD.o.2.2.2.1 HD.o.2.2.2.2.1).olen;have:=HOL.o;omega
    obtain⟨r',j',n',_,_,_,Ba,hql⟩:=HD.o.2.2.1.g.reader HD.o.2.2.2.1 hkn;have hqx:q<d.M.pipes.length:=by rw[hq,HD.o.2.2.1.xlen,Ba];exact hql
    obtain⟨x,hx⟩:∃x,d.M.pipes[q]?=some x:=⟨_,gEl hqx⟩;have hpx:=HD.o.2.2.1.pipe x (mGt hx);have Ss:E2 d.M i p 0 (p.out.drop 0)=if 0<(pwrite x b).2.1 then ((d.M.setX q (pwrite x b).1).setP i (p.setOut k (b.drop (pwrite x b).2.1)),0) else E2 d.M i p (k+1) (p.out.drop (k+1)):=by rw[hwr.out,hdr,E2,<- hq,aa9 hx]
    by_cases hb0:b=[]
    . subst hb0;have HW2:=qH (show E2 d.M i p 0 (p.out.drop 0)=E2 d.M i p (k+1) (p.out.drop (k+1)) by rw[Ss,qB (by rw[bB4];omega)]);have HTK:=qH (show (p.out.take (k+1)).any (fun b=>!b.isEmpty)=(p.out.take k).any (fun b=>!b.isEmpty) by rw[htk];simp);unfold sl at hcO;simp only[xI]at hcO;generalize (p.out.take k).any (fun b=>!b.isEmpty)=any0 at *;clear hSB hb hdr hgO hOO ha hSa hfO Bn htk hbl hq hkn Ba hql hqx hx hpx Ss hwr;go_wp2_with fail;go_roundw
      case rel=>exact⟨k+1,qO,by go_num,by rw[HTK.o],Aa,HW2⟩
      case measure=>simp[intOf];omega
    ·
     as_aux_lemma=>
      have hbpos:0<b.length:=xj.2 hb0
      have HTK:=qH (show (p.out.take (k+1)).any (fun b=>!b.isEmpty)=true by
       rw[htk]
       cases b with
       | nil=>exact absurd rfl hb0
       | cons y l=>simp)
      have HW2:=qH Ss
      have HAN:=qH (show p.out.any (fun b=>!b.isEmpty)=true by
       rw[List.any_eq_true]
       exact⟨b,mGt hb,by cases b with | nil=>exact absurd rfl hb0 | cons y l=>simp⟩)
      have hlk:=hSB.look HD.o.2.2.1.g HD.o.2.2.2.1 hkn (Below.refl _ _)
      rw[<- hq]at hlk
      obtain⟨t,ht,hRt,x0,x1,x2,x3,hfX,hOX,hgX⟩:=hSB.mem.atX HV.o.2.1 hx
      obtain⟨xp,xm,_,_⟩:=hSB.cells
      obtain⟨_,_,u2,_,_⟩:=i8 (hSB.mem.boxM HD.o.2.1)
      rw[HV.o.2.1,<- HNN.o.2.2]at u2
      have HWR:Hid _:=br0 t.1 a.1 t.2 a.2 x b wr hRt.1 hSa.reads hpx hRt.2.1
      have hqn:q<NX:=by rw[HNN.o.2.2];exact hqx
      have HB:Hid (p.out[k]?=some b/\d.M.pipes[q]?=some x/\SOf wr O1 (.out i k) a b/\pchk x=0/\O1 gO=some (.outs i)/\O1 gX=some .pipes):=⟨hb,hx,hSa,hpx,hOO,hOX⟩
      have HSr:=qH hSB
      unfold sl at hcO x0
      obtain⟨BL,hBL⟩:=qE b.length
      have HBL:=qH hBL
      unfold M8 at HWR
      rw[<- hBL]at hcO hbpos hbl HWR
      obtain⟨aa,ca⟩:=a
      obtain⟨ta,tc⟩:=t
      simp only at hcO x0 HWR hbl
      generalize x.b.length=XL at *
      generalize x.room=xr at *
      generalize x.closed=xc at *
      generalize x.shut=xs at *
      clear hSB hb hdr hgO hOO ha hSa hfO htk hq hkn Ba hql hqx hx hpx Ss hwr ht hRt hBL hOX hfX
      go_wp2_with fail
      refine qD HWR.o ?_
      rintro e w3⟨ar,cr,rfl,hRd,hnc,Bi,hb3⟩
      obtain⟨Z,hZ⟩:=qE (pwrite x b)
      have Jk:=fun h=>br2 (b:=b) HB.o.2.2.2.1 h
      have En:=fun h=>(am6 (b:=b) HB.o.2.2.2.1 h).2.1
      rw[<- hZ]at hRd Bi HW2 Jk En ⊢
      obtain⟨X',cnt,err⟩:=Z
      obtain⟨xb',xr',xc',xs'⟩:=X'
      simp only at hRd Bi HW2 Jk En
      unfold M8
      simp only
      have HB3:=qH hb3
      have HRD:Hid (Reads w3 (.slice ar xb'.length cr) xb'.length (xb'.map U)/\(ar=none->cr=0)/\(xb'≠[]->∀a,ar=some a->wr.heap.size<=a.block)):=⟨hRd,hnc,Bi⟩
      generalize Qv:xb'.length=XL'
      have HXL:=qH Qv
      clear hZ hRd hnc Bi hb3 HWR Qv
      by_cases Gw:0<cnt
      .
       have Qo:err=0:=Jk Gw
       subst Qo
       have hcb:cnt<=BL:=by rw[HBL.o];exact En Gw
       have HR9:=qH (show RES=((d.M.setX q ⟨xb',xr',xc',xs'⟩).setP i (p.setOut k (b.drop cnt)),0) by rw[HRS.o,HST.o,qF HAN.o,HW2.o,qF Gw])
       have Tm:(0:Int)<(cnt:Int):=qO
       have hR3:=HSr.o.mem.fresh HB3.o (.pipe q)
       have Ix:=cd4 (O:=O1) (o:=.pipe q) HRD.o.1 HRD.o.2.1 HRD.o.2.2
       obtain⟨W4,hW4⟩:=qE (w3.alloc (.cells #[.slice ar XL' cr,.int .i64 xr',.bool xc',.bool xs'] 61))
       have Ak:W4.heap[w3.heap.size]?=some (.cells #[.slice ar XL' cr,.int .i64 xr',.bool xc',.bool xs'] 61 (0,0)):=by rw[hW4];exact qJ _ _
       have Ek:Bq w3 W4:=by rw[hW4];exact boxE
       have Su:Bq wr W4:=HB3.o.trans (Ek.mono HB3.o.size)
       have hR4:=hR3.below Ek
       have Fe:ROf W4 (addO O1 wr w3 (.pipe q)) (.pipe q) (ar,cr) xb':=Ix.keep (fun k' hk'=>Ek.block k' (hR3.lo k' _ hk').2) (fun _ _ _=>rfl)
       have hK4:KeptO O1 (addO O1 wr w3 (.pipe q)) wr W4:=KeptO.of_below Su (fun k hk=>J0 hk)
       obtain⟨t4,ht4,_,y0,y1,y2,y3,gfX,gOX,gX4⟩:=hR4.atX HV.o.2.1 HB.o.2.1
       obtain⟨gO4,cO4,a4,eO4,_,_,gO5,oO4,ha4,Jt,z0,zf⟩:=hR4.outAt HD.o.2.2.2.2.1 HV.o.2.2.2.2.1 HB.o.1
       rw[Bn]at eO4
       injection eO4 with eO4 _ _
       injection eO4 with eO4
       injection eO4 with eO4
       subst eO4
       have Sv:=HSr.o.below Su
       obtain⟨vp,vm,_,_⟩:=Sv.cells
       obtain⟨_,_,vr,_,_⟩:=i8 (Sv.mem.boxM HD.o.2.1)
       rw[HV.o.2.1,<- HNN.o.2.2]at vr
       obtain⟨_,_,vo,_,_,_,_,_⟩:=Sv.mem.procIn HD.o.2.2.2.2.1 HV.o.1 HV.o.2.2.2.2.1
       rw[Bn,<- HOL.o]at vo
       obtain⟨m0,m1,m2,m3⟩:=C9 Ak
       rcases id Jt with⟨Dt,hbn⟩|⟨g1,off1,cur1,hs1,ho1,hg1,hl1,hl2,hl3,hl4⟩
       . exact absurd hbn hb0
       obtain⟨aa4,ca4⟩:=a4
       simp only at hs1 hl1 hl2 hl3
       subst hs1
       have eA:aa=some ⟨g1,off1,none⟩/\ca=ca4:=by
        have e1:=qC Su hcO
        rw[z0]at e1
        unfold sl at e1
        injection e1 with e1
        injection e1 with e1 _ e3
        exact⟨e1.symm,e3.symm⟩
       obtain⟨rfl,rfl⟩:=eA
       have Ao:Hid (∀(s':Sl)(v:Value),v=sl (b.drop cnt) s'->SOf W4 (addO O1 wr w3 (.pipe q)) (.out i k) s' (b.drop cnt)->∃O',RefA NoG (((((W4.setCell ⟨gX,q*4,none⟩ (.slice ar XL' cr)).setCell ⟨gX,q*4+1,none⟩ (.int .i64 xr')).setCell ⟨gX,q*4+2,none⟩ (.bool xc')).setCell ⟨gX,q*4+3,none⟩ (.bool xs')).setCell ⟨gO,k,none⟩ v).drew D r O' RES.1/\KeptO O O' w (((((W4.setCell ⟨gX,q*4,none⟩ (.slice ar XL' cr)).setCell ⟨gX,q*4+1,none⟩ (.int .i64 xr')).setCell ⟨gX,q*4+2,none⟩ (.bool xc')).setCell ⟨gX,q*4+3,none⟩ (.bool xs')).setCell ⟨gO,k,none⟩ v).drew):=(show ∀(s':Sl)(v:Value),_ from by
        intro s' v hv hs'
        subst hv
        have e0:(Value.slice ar XL' cr)=sl xb' (ar,cr):=by unfold sl;rw[HXL.o]
        rw[e0]
        have k2:=hR4.wrote (x':=⟨xb',xr',xc',xs'⟩) HB.o.2.1 HV.o.2.1 gOX Fe HD.o.2.2.2.2.1 HV.o.2.2.2.2.1 HB.o.1 Bn oO4 hs'
        have kk:=HSr.o.kept.trans (((((hK4.set gOX (a:=⟨gX,q*4,none⟩) (v:=sl xb' (ar,cr))).set gOX (a:=⟨gX,q*4+1,none⟩) (v:=.int .i64 xr')).set gOX (a:=⟨gX,q*4+2,none⟩) (v:=.bool xc')).set gOX (a:=⟨gX,q*4+3,none⟩) (v:=.bool xs')).set oO4 (a:=⟨gO,k,none⟩) (v:=sl (b.drop cnt) s'))
        refine⟨_,RefA.below ⟨_,k2.auxTo aw1 trivial,HD.o.2.1,?_⟩ (Below.refl _ _).drew,kk.trans (KeptO.of_below (Below.refl _ _).drew (fun _ _=>rfl))⟩
        rw[HR9.o];rfl)
       have HRZ:=qH (show RES.2=0 by rw[HR9.o])
       have Uw:gX≠gO:=fun e=>by rw[e,oO4]at gOX;cases gOX
       have HSA4:=qH Jt
       have Qw:ca<=9223372036854775807:=by unfold maxLen at hl2;exact hl2
       have fX0:=gfX (q*4)
       have fX1:=gfX (q*4+1)
       have fX2:=gfX (q*4+2)
       have fX3:=gfX (q*4+3)
       have fO:=zf k
       unfold sl at y0 z0
       rw[<- HBL.o]at z0 hl1
       simp only at z0
       clear HB HSr hR3 Ix Ak Ek Su hR4 Fe hK4 ht4 gfX gOX gX4 ha4 Jt zf Sv ho1 hg1 hl2 hl3 hl4 HR9 Jk En oO4 gO5 x0 x1 x2 x3 hcO u2 hlk HW2 HTK hbl
       generalize x.b.length=XL0 at *
       generalize x.room=xr0 at *
       generalize x.closed=xc0 at *
       generalize x.shut=xs0 at *
       go_upto_region 16 with fail
       rw[<- hW4]
       clear hW4
       by_cases hce:ca=cnt
       . subst hce
         have HSO:Hid (SOf W4 (addO O1 wr w3 (.pipe q)) (.out i k) (some ⟨g1,off1,none⟩,0) (b.drop ca)):=SOf.drop HSA4.o rfl (by rw[<- HBL.o];omega) _ (.inr ⟨rfl,rfl⟩)
         have hBe:BL=ca:=qO
         subst hBe
         go_region
         all_goals
          go_wp2_with fail
          go_ret
          exact⟨by rw[HRZ.o];rfl,Ao.o (some ⟨g1,off1,none⟩,0) _ (by unfold sl;rw[qy,<- HBL.o,xt]) HSO.o⟩
       . have HSO:Hid (SOf W4 (addO O1 wr w3 (.pipe q)) (.out i k) (some ⟨g1,off1+cnt,none⟩,ca-cnt) (b.drop cnt)):=SOf.drop HSA4.o rfl (by rw[<- HBL.o];omega) _ (.inl rfl)
         go_region
         all_goals
          go_wp2_with fail
          go_ret
          exact⟨by rw[HRZ.o];rfl,Ao.o (some ⟨g1,off1+cnt,none⟩,ca-cnt) _ (by unfold sl;rw[qy,<- HBL.o]) HSO.o⟩
      .
       have HW9:=qH (show E2 d.M i p 0 (p.out.drop 0)=E2 d.M i p (k+1) (p.out.drop (k+1)) by rw[HW2.o,qB Gw])
       have hc0:cnt=0:=qO
       subst hc0
       have HB9:=qH (show ∀o,Bq WX (w3.alloc o) from fun o=>by
        have h1:=Aa.o.trans (HB3.o.mono Aa.o.size)
        exact h1.alloc h1.size o)
       clear HW2 Jk En Gw HB HSr HRD HAN x0 x1 x2 x3 hcO u2 hlk xp xm
       by_cases Qo:err=0
       subst Qo
       rotate_left
       have herr2:(err==0)=false:=by rw[qg];exact Qo
       have herr3:decide (err=0)=false:=qG Qo
       rotate_left
       all_goals
        go_wp2_with fail
        go_roundw
        case rel=>exact⟨k+1,qO,by go_num,by rw[HTK.o],HB9.o _,HW9⟩
        case measure=>simp[intOf];omega
   .
    have ekL:k=OL:=qO;have HTA:=qH (show (p.out.take k).any (fun b=>!b.isEmpty)=p.out.any (fun b=>!b.isEmpty) by rw[qP (by have:=HOL.o;omega)]);have HW9:=qH (show E2 d.M i p 0 (p.out.drop 0)=(d.M,8) by rw[hwr.out,qi (by have:=HOL.o;omega)];rfl);have HSr:=qH hSB;rw[HTA.o];clear hwr hSB HTA hlt hk;subst ekL;by_cases Bt:p.out.any (fun b=>!b.isEmpty)=true
    . have HR9:=qH (show RES=(d.M,8) by rw[HRS.o,HST.o,qF Bt,HW9.o]);rw[Bt];go_wp2_with fail;(try simp only[Exit.inBlock,Exit.then])
      go_ret;rw[HR9.o];exact⟨rfl,HSr.o.done HD.o.2.1⟩
    have Ll:p.out.any (fun b=>!b.isEmpty)=false:=by simpa using Bt
    rw[Ll];have Df:=qH (show RES=if p.rd then (endS d.M i p,0) else if p.got.isEmpty then (d.M.setP i (D2 n d.M.fs p),0) else Y4 d.M i n (Gs.f9 d.M.ns i+p.pos.toNat) p by rw[HRS.o,HST.o,qB Bt])
    have HNO:Hid (∀b∈p.out,b=[]):=(show ∀b∈p.out,b=[] from fun b hb=>by
     rw[List.any_eq_false]at Ll
     have:=Ll b hb
     cases b with
     | nil=>rfl
     | cons y l=>simp at this)
    clear Bt Ll HST HW9 HSB Aa HRS;obtain⟨xp,xm,xa,x4⟩:=HSr.o.cells;obtain⟨p0,p1,p2,p3,p4,hfP,_,_⟩:=HSr.o.mem.procIn HD.o.2.2.2.2.1 HV.o.1 HV.o.2.2.2.2.1;rw[HV.o.2.2.2.2.2.1,<- HOL.o]at p2;rw[HV.o.2.2.2.2.2.2]at p0;by_cases hrd:p.rd=true
    ·
     as_aux_lemma=>
      have HR9:=qH (show RES=(endS d.M i p,0) by rw[Df.o,qF hrd])
      rw[hrd]at p3
      have HRD:=qH hrd
      have HS0:=qH (show ∃dk,StepB w wr D r O O1 dk n ai ci i gP bp bn bm ba b4 mp gI/\dk.M=⟨d.M.ns,d.M.fs,H7 d.M.ns i 0 d.M.pipes,d.M.ps,d.M.sunk⟩/\dk.vX=d.vX/\dk.vP=d.vP/\dk.vM=d.vM/\dk.P=d.P from ⟨d,HSr.o,rfl,rfl,rfl,rfl,rfl⟩)
      clear hrd p0 p1 hfP xa x4 Df HSr
      go_wp2_with fail
      clear p2 p3 p4 xp xm
      go_loopw [119] (fun z wr=>∃j:Nat,j<=k/\z=.int .i64 j/\Hid (∃dk,StepB w wr D r O O1 dk n ai ci i gP bp bn bm ba b4 mp gI/\dk.M=⟨d.M.ns,d.M.fs,H7 d.M.ns i j d.M.pipes,d.M.ps,d.M.sunk⟩/\dk.vX=d.vX/\dk.vP=d.vP/\dk.vM=d.vM/\dk.P=d.P)) (fun z _=>k-(intOf z).toNat)
      case atStart=>exact⟨0,qM _,rfl,HS0⟩
      case round=>
       obtain⟨j,hj,rfl,hst⟩:=hrel
       clear HS0
       obtain⟨dk,hSk,eM,eX,eP,eV,ePP⟩:=hst.out
       obtain⟨xp,xm,_,_⟩:=hSk.cells
       have hlen:(H7 d.M.ns i j d.M.pipes).length=d.M.pipes.length:=aa8 _ _ _ _
       by_cases hlt:j<k
       .
        have hkn:(j:Int)<nouts n:=by have:=(HD.o.2.2.1.proc i n p HD.o.2.2.2.1 HD.o.2.2.2.2.1).olen;have:=HOL.o;omega
        have hns:dk.M.ns=d.M.ns:=by rw[eM]
        obtain⟨q,hq⟩:=qE (E9 d.M.ns ((i:Int),(j:Int)))
        obtain⟨r',j',n',_,_,_,Ba,hql⟩:=HD.o.2.2.1.g.reader HD.o.2.2.2.1 hkn
        have hqx:q<dk.M.pipes.length:=by rw[eM];show q<(H7 d.M.ns i j d.M.pipes).length;rw[hlen,hq,HD.o.2.2.1.xlen,Ba];exact hql
        have hlk:∀W,Bq wr W->(Instr.lookup 69 (.map (some mp)) (.agg #[.int .i64 i,.int .i64 j]) false).run prog W=.ok (.int .i64 (q:Int)) W:=fun W hW=>by
         have:=hSk.look (k:=j) (by rw[hns];exact HD.o.2.2.1.g) (by rw[hns];exact HD.o.2.2.2.1) hkn hW
         rw[hns,<- hq]at this
         exact this
        have hlk1:=hlk wr (Below.refl _ _)
        have hlk2:=hlk wr.drew (Below.refl _ _).drew
        obtain⟨x,hx⟩:∃x,dk.M.pipes[q]?=some x:=⟨_,gEl hqx⟩
        have hvk:dk.vX=.slice (some ⟨gX,0,none⟩) dk.M.pipes.length cX:=by rw[eX,HV.o.2.1,eM];show _=Value.slice _ (H7 d.M.ns i j d.M.pipes).length _;rw[hlen]
        obtain⟨t,ht,hRt,x0,x1,x2,x3,hfX,hOX,hgX⟩:=hSk.mem.atX hvk hx
        obtain⟨_,_,u2,_,_⟩:=i8 (hSk.mem.boxM (by rw[eV];exact HD.o.2.1))
        rw[hvk,show dk.M.pipes.length=NX by rw[eM,HNN.o.2.2];exact hlen]at u2
        have hqn:q<NX:=by rw[HNN.o.2.2,<- hlen];rw[eM]at hqx;exact hqx
        have fX:=hfX (q*4+2)
        have HNX:=qH (show ∀W,Bq wr W->W.heap.size=wr.heap.size->∃dk,StepB w (W.setCell ⟨gX,q*4+2,none⟩ (.bool true)) D r O O1 dk n ai ci i gP bp bn bm ba b4 mp gI/\dk.M=⟨d.M.ns,d.M.fs,H7 d.M.ns i (j+1) d.M.pipes,d.M.ps,d.M.sunk⟩/\dk.vX=d.vX/\dk.vP=d.vP/\dk.vM=d.vM/\dk.P=d.P from fun W hW hWs=>by
         have hSW:=hSk.below hW
         have hk9:KeptO O1 O1 W (W.setCell ⟨gX,q*4+2,none⟩ (.bool true)):=(KeptO.refl O1 W).set hOX
         have hne:∀b,O1 b=none->b≠gX:=fun b hb e=>by rw[e,hOX]at hb;cases hb
         refine⟨dk.setPipe q (Z1 x) t,⟨hSW.mem.setClosed hx ht hvk hOX,hSW.kept.trans hk9,hSW.full.keep hk9,(Below.heap_setCell _ _ _ _ (hne _ hSW.box4.2)).trans hSW.box4.1,hSW.box4.2⟩,?_,eX,eP,eV,ePP⟩
         show dk.M.setX q (Z1 x)=_
         rw[eM]at hx ⊢
         unfold SMach.setX
         simp only[H7]
         rw[<- hq,aO7 hx])
        clear hst hSk eM eX eP eV ePP hlen hkn hns hq Ba hql hqx hlk hx hvk ht hRt hfX hOX x0 x1 x3
        go_wp2_with fail
        go_region
        all_goals
         go_wp2_with fail
         go_roundw
         case rel=>exact⟨j+1,qO,by go_num,(show ∃dk,_ from by
          obtain⟨dk,h1,h2⟩:=HNX.o wr (Below.refl _ _) rfl
          exact⟨dk,h1.below (Below.refl _ _).drew,h2⟩)⟩
         case measure=>simp[intOf];omega
       .
        have ejk:j=k:=qO
        subst ejk
        have hpk:dk.M.ps[i]?=some p:=by rw[eM];exact HD.o.2.2.2.2.1
        have hvk:dk.vP=.slice (some ⟨gP,0,none⟩) dk.M.ps.length cP:=by rw[eP,eM];exact HV.o.1
        have hsk:dk.P[i]?=some s:=by rw[ePP];exact HV.o.2.2.2.2.1
        obtain⟨_,_,_,_,q4,hfq,hOq,_⟩:=hSk.mem.procIn hpk hvk hsk
        have fq:=hfq (i*5+4)
        have Ao:=qH (show ∃O',RefA NoG (wr.setCell ⟨gP,i*5+4,none⟩ (.bool true)) D r O' RES.1/\KeptO O O' w (wr.setCell ⟨gP,i*5+4,none⟩ (.bool true)) from by
         refine⟨O1,⟨_,(hSk.mem.setNum (k:=4) (p':=⟨p.got,p.pos,p.out,p.rd,true⟩) hpk hsk hvk hOq qO rfl rfl rfl).auxTo aw1 trivial,by show dk.vM=_;rw[eV];exact HD.o.2.1,?_⟩,hSk.kept.trans ((KeptO.refl O1 wr).set hOq)⟩
         rw[HR9.o]
         show dk.M.setP i _=endS d.M i p
         rw[eM,HOL.o]
         rfl)
        have HRZ:=qH (show RES.2=0 by rw[HR9.o])
        clear hst hSk eM eX eP eV ePP hlen hpk hvk hsk hfq hOq HR9
        go_wp2_with fail
        (try simp only[Exit.inBlock,Exit.then])
        go_ret
        exact⟨by rw[HRZ.o];rfl,Ao.o⟩
    .
     have Dj:p.rd=false:=by simpa using hrd
     rw[Dj]at p3;have Kq:=qH (show RES=if p.got.isEmpty then (d.M.setP i (D2 n d.M.fs p),0) else Y4 d.M i n (Gs.f9 d.M.ns i+p.pos.toNat) p by rw[Df.o,qB hrd]);have HRD:=qH Dj;clear hrd Dj Df;obtain⟨n0,n1,n2,n3,n4,n5,n6,n7⟩:=D8 HSr.o.full.n.1;have hFp:=HD.o.2.2.1.proc i n p HD.o.2.2.2.1 HD.o.2.2.2.2.1;obtain⟨IL,hIL⟩:=qE n.ins.length;have HIL:Hid (IL=n.ins.length/\p.got.length=IL):=⟨hIL,by rw[hIL];exact hFp.glen⟩;rw[<- hIL]at n7;have en2:∀args w,(callFunc 50 args).run prog w=.ok (.enter 50 args) w:=enters_of func50 qQ rfl;have en1:∀args w,(callFunc 49 args).run prog w=.ok (.enter 49 args) w:=enters_of func49 qQ rfl;have en3:∀args w,(callFunc 79 args).run prog w=.ok (.enter 79 args) w:=enters_of func79 qQ rfl;have hi5:IL<=5:=by rw[hIL];exact (A1 (HD.o.2.2.1.g.node n (mGt HD.o.2.2.2.1))).1
     have HFU:Hid (∀(dk:RD)(Ok:qW)(pk:SProc)(W:World),StepB w W D r O Ok dk n ai ci i gP bp bn bm ba b4 mp gI->dk.M.ns=d.M.ns->dk.M.fs=d.M.fs->dk.M.ps.length=d.M.ps.length->dk.vP=d.vP->dk.vM=d.vM->dk.M.ps[i]?=some pk->pk.out.length=p.out.length->pk.got.length=p.got.length->pk.got.flatten.length<=60300000->(∀b∈pk.out,b.length<=1000000000)->Calls prog 50 #[.pointer (some ⟨bp,0,none⟩),.pointer (some ⟨bn,0,none⟩),.pointer (some ⟨bm,0,none⟩),.pointer (some ⟨ba,0,none⟩)] W fun e w'=>e=.returned (.tuple #[])/\∃O',RefA NoG w' D r O' (dk.M.setP i (D2 n dk.M.fs pk))/\KeptO O O' w w'):=(show ∀(dk:RD)(Ok:qW)(pk:SProc)(W:World),_ from fun dk Ok pk W hSW e1 e2 e3 e4 e5 hpk h1 h2 h3 h4=>by
      have hbD:Below D w W:=hSW.kept.below HD.o.1.lo HD.o.1.le
      refine (bY1 _ D r Ok dk i n pk ai ci gP cP bp bn bm ba W hSW.mem (by rw[e5];exact HD.o.2.1) ⟨by rw[e1];exact HD.o.2.2.1.gok,by rw[e2];exact HD.o.2.2.1.fok,by rw[e1,e3];exact HD.o.2.2.1.plen⟩ (by rw[e1];exact HD.o.2.2.2.1) hpk h3 h4 (fun V hV=>HE.o V (hbD.trans hV)) (by rw[h1];exact hFp.olen) (by rw[h2];exact hFp.glen) (by rw[e4,e3];exact HV.o.1) hSW.full).mono ?_
      rintro e w'⟨rfl,O',⟨d',q1,q2,q3⟩,q4⟩
      exact⟨rfl,O',⟨d',q1.auxTo aw1 trivial,q2,q3⟩,hSW.kept.trans q4⟩)
     have HFP:=qH hFp;clear hFp hIL;by_cases hI0:IL=0
     ·
      as_aux_lemma=>
       subst hI0
       have hge:p.got=[]:=qn HIL.o.2
       have HR9:=qH (show RES=(d.M.setP i (D2 n d.M.fs p),0) by rw[Kq.o,qF (by rw[hge];rfl)])
       have HF9:Hid _:=HFU.o d O1 p wr HSr.o rfl rfl rfl rfl rfl HD.o.2.2.2.2.1 rfl rfl (by have:=HD.o.2.2.2.2.2.2.got p (mGt HD.o.2.2.2.2.1);omega) (fun b hb=>by rw[HNO.o b hb];simp)
       clear HFU Kq HSr hge p0 p1 p2 p4 xm xa x4 n0 n1 n2 n3 n4 n5 n6 hfP en1 en3
       go_wp2_with (go_at_fn 50;refine qD HF9.o ?_;rintro e w9⟨rfl,hEN⟩)
       (try simp only[Exit.inBlock,Exit.then])
       go_ret
       rw[HR9.o]
       exact⟨rfl,hEN⟩
     .
      have hge:p.got.isEmpty=false:=by
       cases hg:p.got with
       | nil=>exact absurd (by have:=HIL.o.2;rw[hg]at this;simpa using this.symm) hI0
       | cons y l=>rfl
      obtain⟨P,hP⟩:∃P:Nat,p.pos=(P:Int):=qm HFP.o.pos0;have hPI:P<IL:=by have:=HFP.o.pos2 HRD.o (by rw[<- HIL.o.1];exact hI0);rw[hP,<- HIL.o.1]at this;omega
      obtain⟨FI,hFI⟩:=qE (Gs.f9 d.M.ns i);obtain⟨q,hq⟩:=qE (FI+P);have HR8:=qH (show RES=Y4 d.M i n q p by rw[Kq.o,qB (by rw[hge];simp),hP,hq,hFI];rfl);have hqx:q<d.M.pipes.length:=by rw[hq,hFI,HD.o.2.2.1.xlen];exact Z3 HD.o.2.2.2.1 (by rw[<- HIL.o.1];exact hPI)
      have hfi:FI<=300:=by have:=ap1 HD.o.2.2.1;omega
      obtain⟨x,hx⟩:∃x,d.M.pipes[q]?=some x:=⟨_,gEl hqx⟩;have hqn:q<NX:=by rw[HNN.o.2.2];exact hqx
      have hff:=HSr.o.first HD.o.2.2.2.1;rw[<- hFI]at hff;rw[hP]at p1;rw[<- HNN.o.1]at x4;obtain⟨_,_,u2,_,_⟩:=i8 (HSr.o.mem.boxM HD.o.2.1);rw[HV.o.2.1,<- HNN.o.2.2]at u2
      have HIN:=qH (show ∀W,Bq wr W->Calls prog 79 #[.int .i64 i,.int .i64 (P:Int),.pointer (some ⟨b4,0,none⟩)] W fun e w'=>e=.returned (.int .i64 (q:Int))/\w'.cell? ⟨bm,0,none⟩=some (.pointer (some ⟨r,0,none⟩))/\w'.cell? ⟨r,2,none⟩=some (.slice (some ⟨gX,0,none⟩) NX cX)/\w'.cell? ⟨bp,0,none⟩=some (.pointer (some ⟨gP,i*5,none⟩))/\w'.cell? ⟨gP,i*5+1,none⟩=some (.int .i64 (P:Int))/\Hid (Bq wr w') from fun W hW=>by
       have c:∀{b j u},wr.cell? ⟨b,j,none⟩=some u->W.cell? ⟨b,j,none⟩=some u:=fun hu=>qC hW hu
       refine (cf5 b4 gI NN NN i (P:Int) (FI:Int) W (c x4) (c hff) qO h60 qO qO).mono ?_
       rintro e w'⟨rfl,rfl⟩
       exact⟨by rw[hq];rfl,c xm,c u2,c xp,c p1,hW⟩)
      have HX:=qH hx;have HP:Hid (p.pos=(P:Int)/\pchk x=0):=⟨hP,HD.o.2.2.1.pipe x (mGt hx)⟩;clear Kq hge hqx hx hff hq hFI hP hfi;have hIb:((IL:Int)==0)=false:=by rw[qg];omega
      have hIc:(IL==0)=false:=by rw[qg];omega
      have hId:¬(IL:Int)=0:=qO;go_upto_region 32 with fail;go_cut [19] (fun y wx=>y=.pointer (some ⟨gX,q*4,none⟩)/\Hid (Bq wr wx))
      case first=>
       as_aux_lemma=>
        go_region_held3 (fun W=>W.cell? ⟨bm,0,none⟩=some (.pointer (some ⟨r,0,none⟩))/\W.cell? ⟨r,2,none⟩=some (.slice (some ⟨gX,0,none⟩) NX cX)/\W.cell? ⟨bp,0,none⟩=some (.pointer (some ⟨gP,i*5,none⟩))/\W.cell? ⟨gP,i*5+1,none⟩=some (.int .i64 (P:Int))) (go_keep) (first|(go_at_fn 79;refine qD (HIN.o _ ?_) ?_;(repeat (first|exact Below.refl _ _ | refine Below.drew ?_));rintro e w9⟨rfl,v0,v1,v2,v3,hb9⟩))
        all_goals
         go_wp2_with fail
         go_meet
         exact⟨by first|rfl | simp,hb9⟩
      case rest=>obtain⟨rfl,hb9⟩:=hcut;have HSw:Hid (StepB w wc D r O O1 d n ai ci i gP bp bn bm ba b4 mp gI):=HSr.o.below hb9.out;rename_i Kz hKz;refine hKz _ _ ?_;exact bC9 HD HV HE HFU HNO HIL HFP HP HSw HX HR8 hi5 hPI
end Go.Proofs.YtmejdflmcikkdaaGreatDoor
