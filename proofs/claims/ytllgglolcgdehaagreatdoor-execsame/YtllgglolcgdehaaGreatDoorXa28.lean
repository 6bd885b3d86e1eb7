/- What the developers' came does: who passes whole lines on. -/
import Derived.Test.YtllgglolcgdehaaGreatDoorXa25
set_option maxRecDepth 100000
set_option maxHeartbeats 16000000
namespace Go.Proofs.YtllgglolcgdehaaGreatDoor
open Go.RowKit Go.Gs Go.Maps
set_option linter.unusedVariables false
variable {G:World->(Nat->Option Own)->Prop}
theorem came_pass (D r:Nat) (O:Nat->Option Own) (d:RD) (i q m:Nat) (n:SNode) (p:SProc) (x:SPipe) (g:List UInt8) (w:World) (h:RunM G w D r O d) (hS:Shape d.M) (hn:d.M.ns[i]? = some n) (hp:d.M.ps[i]? = some p) (hm:p.pos=(m:Int)) (hgm:p.got[m]? = some g) (hg0:g≠[]) (hq:q=firstIn d.M.ns i+m) (hx:d.M.pipes[q]? = some x) (hfit:FitsN n) (hT:p.got.flatten.length<=241200) (hsm:∀b∈p.out,b.length<=90000000) (hsk:d.M.sunk.length<=90000000) (hE:∀W,Below D w W->KnownE W) (hk5:n.kind≠5) (hps:passes n=true) :
 Calls Tryz.prog 170 #[.pointer (some ⟨r,0,none⟩),.int .i64 i] w fun e w'=>e=.returned (.int .i64 0)/\RunAt G w' D r (cameS d.M i n q p)/\Below D w w':=by
 have hF:=hS.proc i n p hn hp
 have hch:=hS.g.node n (mGt hn)
 have hat:p.at=g:=by unfold SProc.at;rw[hm,Int.toNat_natCast,hgm];rfl
 have hml:m<p.got.length:=(gSm hgm).1
 obtain⟨gP,cP,s,hvP,hcP1,hcP2,hgP,hOP,hs,p0,p1,p2,p3,p4,hfP,hGo,hOo,hgl,hol⟩:=h.procAt hp
 obtain⟨gG,cG,a,hgv,hcG1,hcG2,hgG,hOG,ha,hSa,g0,hfG⟩:=RMem.gotAt h hp hs hgm
 have hil:i<d.M.ps.length:=(gSm hp).1
 obtain⟨b0,b1,b2,b3,b4,b5,b6⟩:=cells7 h.box.1
 obtain⟨hRN,hRF⟩:=h.nodes
 obtain⟨an,cn,hvN,hcn1,hcn2⟩:=hRN.shape
 rw[hvN] at hRN b0
 rw[hvP] at b3
 rw[hgv] at p0
 rw[hm] at p1
 obtain⟨nb,noff,ai,ci,rfl,hNA,HPo⟩:=hRN.at hn
 obtain⟨c0,c1,c2,c3,c4,c5,c6,c7⟩:=hNA
 have hin:i<d.M.ns.length:=(gSm hn).1
 have hcn2':cn<=9223372036854775807:=by unfold maxLen at hcn2;exact hcn2
 have hgl9:=reads_leP hSa.reads
 have HH:Hid (RunM G w D r O d):=h
 have HS:Hid (Shape d.M):=hS
 have HN:Hid (d.M.ns[i]? = some n):=hn
 have HP:Hid (d.M.ps[i]? = some p):=hp
 have HSl:Hid (d.P[i]? = some s):=hs
 have HX:Hid (d.M.pipes[q]? = some x):=hx
 have HGM:Hid (p.got[m]? = some g):=hgm
 have HA:Hid (s.gs[m]? = some a):=ha
 have HSA:Hid (SOf w O (.got i m) a g):=hSa
 have HGV:Hid (s.gv=.slice (some ⟨gG,0,none⟩) p.got.length cG):=hgv
 have HVP:Hid (d.vP=.slice (some ⟨gP,0,none⟩) d.M.ps.length cP):=hvP
 have HOG:Hid (O gG=some (.gots i)):=hOG
 have HOP:Hid (O gP=some .procs):=hOP
 have HAT:Hid (p.at=g):=hat
 have HM:Hid (p.pos=(m:Int)):=hm
 have HG0:Hid (g≠[]):=hg0
 have HCH:Hid (nodeChk n=0):=hch
 have HFIT:Hid (FitsN n):=hfit
 have HSM:Hid (∀b∈p.out,b.length<=90000000):=hsm
 have HSK:Hid (d.M.sunk.length<=90000000):=hsk
 have HE:Hid (∀W,Below D w W->KnownE W):=hE
 have HT:Hid (p.got.flatten.length<=241200):=hT
 have HQ:Hid (q=firstIn d.M.ns i+m):=hq
 have HF:Hid (ProcF n p):=hF
 obtain⟨NP,hNP⟩:∃N,N=d.M.ps.length:=⟨_,rfl⟩
 obtain⟨NN,hNN⟩:∃N,N=d.M.ns.length:=⟨_,rfl⟩
 obtain⟨GL,hGL⟩:∃N,N=p.got.length:=⟨_,rfl⟩
 obtain⟨BL,hBL⟩:∃N,N=g.length:=⟨_,rfl⟩
 have HBL:Hid (BL=g.length):=hBL
 have HGL:Hid (GL=p.got.length):=hGL
 obtain⟨NK,hNK⟩:∃z,z=n.kind:=⟨_,rfl⟩
 obtain⟨CK,hCK⟩:∃z,z=n.c.kind:=⟨_,rfl⟩
 obtain⟨CN,hCN⟩:∃z,z=n.c.n:=⟨_,rfl⟩
 have HNK:Hid (NK=n.kind):=hNK
 have HCK:Hid (CK=n.c.kind):=hCK
 have HCN:Hid (CN=n.c.n):=hCN
 rw[<- hNP] at b3 hil hcP1
 rw[<- hNN] at b0 hcn1 hin
 rw[<- hGL] at p0 hcG1 hml
 unfold sl at g0
 obtain⟨aa,ca⟩:=a
 simp only at g0 hgl9
 rw[<- hBL] at g0 hgl9
 rw[<- hNK] at c0
 rw[<- hCK] at c2
 rw[<- hCN] at c4
 obtain⟨fx,hfx⟩:∃z,z=(⟨n.file.toArray⟩:ByteArray):=⟨_,rfl⟩
 obtain⟨wx0,hwx⟩:∃z,z=(⟨n.c.word.toArray⟩:ByteArray):=⟨_,rfl⟩
 obtain⟨hw,hhw⟩:∃z,z=n.how:=⟨_,rfl⟩
 obtain⟨wd,hwd⟩:∃z,z=n.wide:=⟨_,rfl⟩
 obtain⟨IL,hIL⟩:∃z,z=n.ins.length:=⟨_,rfl⟩
 have HV:Hid (fx=(⟨n.file.toArray⟩:ByteArray)/\wx0=(⟨n.c.word.toArray⟩:ByteArray)/\hw=n.how/\wd=n.wide/\IL=n.ins.length):=⟨hfx,hwx,hhw,hwd,hIL⟩
 rw[<- hfx] at c1
 rw[<- hwx] at c3
 rw[<- hhw] at c5
 rw[<- hwd] at c6
 rw[<- hIL] at c7
 clear h hS hn hp hs hx hgm ha hSa hgv hvP hOG hOP hat hm hg0 hch hfit hsm hsk hE hT hq hF hNP hNN hGL hBL hNK hCK hCN hfx hwx hhw hwd hIL hRN hRF hvN HPo hGo hOo hgl hol hcn2 b1 b2 b4 b5 b6 p2 p3 p4 hfP
 have fb0:=fun o=>((boxE (w:=w) (o:=o)).cell (bLt w _ b0)).trans b0
 have fb3:=fun o=>((boxE (w:=w) (o:=o)).cell (bLt w _ b3)).trans b3
 have fc0:=fun o=>((boxE (w:=w) (o:=o)).cell (bLt w _ c0)).trans c0
 have fc1:=fun o=>((boxE (w:=w) (o:=o)).cell (bLt w _ c1)).trans c1
 have fc2:=fun o=>((boxE (w:=w) (o:=o)).cell (bLt w _ c2)).trans c2
 have fc3:=fun o=>((boxE (w:=w) (o:=o)).cell (bLt w _ c3)).trans c3
 have fc4:=fun o=>((boxE (w:=w) (o:=o)).cell (bLt w _ c4)).trans c4
 have fc5:=fun o=>((boxE (w:=w) (o:=o)).cell (bLt w _ c5)).trans c5
 have fc6:=fun o=>((boxE (w:=w) (o:=o)).cell (bLt w _ c6)).trans c6
 have fc7:=fun o=>((boxE (w:=w) (o:=o)).cell (bLt w _ c7)).trans c7
 have hrl:r<w.heap.size:=bLt w _ b0
 have hnbl:nb<w.heap.size:=bLt w _ c0
 go_enter Tryz.func170,Tryz.ntmps170
 go_upto_region 1 with fail
 go_region
 obtain⟨W1,hW1⟩:∃W,W=(w.alloc (.cells #[.int .i64 NK,.string fx,.int .i64 CK,.string wx0,.int .i64 CN,.int .i64 hw,.int .i64 wd,.slice ai IL ci] 73)).drew:=⟨_,rfl⟩
 have hb1:Below w.heap.size w W1:=by rw[hW1];exact boxE.drew
 have hbx:W1.heap[w.heap.size]? = some (.cells #[.int .i64 NK,.string fx,.int .i64 CK,.string wx0,.int .i64 CN,.int .i64 hw,.int .i64 wd,.slice ai IL ci] 73 (0,0)):=by rw[hW1];exact heap_alloc_new _ _
 have p0':=(hb1.cell (bLt w _ p0)).trans p0
 have p1':=(hb1.cell (bLt w _ p1)).trans p1
 have g0':=(hb1.cell (bLt w _ g0)).trans g0
 rw[<- hW1]
 clear hW1 fb0 fb3 fc0 fc1 fc2 fc3 fc4 fc5 fc6 fc7 b0 b3 c0 c1 c2 c3 c4 c5 c6 c7 p0 p1 g0
 go_wp2_with fail
 go_quiet (fail)
 have hb2:Below w.heap.size w (W1.drewN nq):=hb1.trans drewNE
 have hbx2:(W1.drewN nq).heap[w.heap.size]? = some (.cells #[.int .i64 NK,.string fx,.int .i64 CK,.string wx0,.int .i64 CN,.int .i64 hw,.int .i64 wd,.slice ai IL ci] 73 (0,0)):=hbx
 have HB2:Hid (Below w.heap.size w (W1.drewN nq)):=hb2
 have HBX2:Hid _:=hbx2
 clear hbx hb1 hb2 p0' p1' g0'
 generalize (W1.drewN nq)=W2 at *
 obtain⟨c0,c1,c2,c3,c4,c5,c6,c7⟩:=cells8E hbx2
 clear hbx2
 have hR2:=RMem.below HH.out HB2.out
 have HR2:Hid (RunM G W2 D r O d):=hR2
 have HSA2:Hid (SOf W2 O (.got i m) (aa,ca) g):=hR2.part (.got i m) p s g (aa,ca) HP.out HSl.out HGM.out HA.out
 have HBD2:Hid (Below D w W2):=HB2.out.mono HH.out.le
 clear hR2
 have h5:¬NK=5:=fun e=>hk5 (HNK.out.symm.trans e)
 clear hk5
 have hPS:=passing_is n ai n.ins.length ci W2
 unfold nodeV at hPS
 rw[<- HNK.out,<- HCK.out,<- HCN.out,<- HV.out.1,<- HV.out.2.1,<- HV.out.2.2.1,<- HV.out.2.2.2.1,<- HV.out.2.2.2.2] at hPS
 have HPS:Hid _:=hPS
 have h5':n.kind≠5:=by rw[<- HNK.out];exact h5
 have HC0:Hid (cameS d.M i n q p=if passes n && g.contains 10 then d.M.setP i ((p.setOut 0 ((p.out[0]?).getD []++through n (g.take (cutOf g)))).setGot (g.drop (cutOf g))) else if n.kind=3/\n.c.kind=9/\n.c.n<=(g.count 10:Int) then (d.M.setX q ⟨[],(d.M.pipe q).room,(d.M.pipe q).closed,true⟩).setP i (fullP n d.M.fs p) else d.M.setP i p):=(show _=_ by unfold cameS;rw[if_neg h5',HAT.out])
 clear hPS h5'
 go_wp2_with fail
 refine Calls.mono HPS.out ?_
 rintro e w3 ⟨rfl,hb3,hx3⟩
 have HB3:Hid (Below W2.heap.size W2 w3):=hb3
 have HX3:Hid _:=hx3
 have hR3:=RMem.below HR2.out hb3
 have HR3:Hid (RunM G w3 D r O d):=hR3
 have HSA3:Hid (SOf w3 O (.got i m) (aa,ca) g):=hR3.part (.got i m) p s g (aa,ca) HP.out HSl.out HGM.out HA.out
 have HBD3:Hid (Below D w w3):=HBD2.out.trans (hb3.mono HR2.out.le)
 have hbx3:=(hb3.block w.heap.size (aSm HBX2.out).1).trans HBX2.out
 clear c0 c1 c2 c3 c4 c5 c6 c7
 obtain⟨c0,c1,c2,c3,c4,c5,c6,c7⟩:=cells8E hbx3
 clear hb3 hx3 hR3 hbx3 HPS HBX2
 have hfn:=neq_func
 have HIF:=indexFeed_is aa ca g w3 HSA3.out.reads HG0.out
 rw[<- HBL.out] at HIF
 have HIF2:Hid _:=HIF
 clear HIF
 have HPO1:Hid (nouts n=1):=passes_outs hps
 have hol1:p.out.length=1:=by have:=HF.out.olen;have:=HPO1.out;omega
 obtain⟨ob,hob⟩:∃b,p.out[0]? = some b:=⟨_,gEl (by omega)⟩
 have HOB:Hid (p.out[0]? = some ob):=hob
 have HOL1:Hid (p.out.length=1):=hol1
 have HCU:Hid (cutOf g<=g.length):=(show cutOf g<=g.length by
  unfold cutOf
  have:=(List.dropWhile_suffix (fun c=>c != 10) (l:=g.reverse)).length_le
  simpa using this)
 have HRT:Hid (∀W,Below w3.heap.size w3 W->Reads W (.slice aa (g.take (cutOf g)).length ca) (g.take (cutOf g)).length ((g.take (cutOf g)).map U)):=(show ∀W,Below w3.heap.size w3 W->Reads W (.slice aa (g.take (cutOf g)).length ca) (g.take (cutOf g)).length ((g.take (cutOf g)).map U) from fun W hW=>reads_cutE (HSA3.out.reads.below hW) HCU.out)
 have HCL:Hid ((g.take (cutOf g)).length=cutOf g):=(show _=_ by rw[List.length_take];have:=HCU.out;omega)
 clear hol1 hob
 rcases passes_kind hps with ⟨k4,k1⟩ | ⟨k3,k5⟩
 .
  have e4:NK=4:=HNK.out.trans k4
  have hV:passV n W2.heap.size=.func (.func 267) #[] #[]:=by unfold passV;rw[if_pos ⟨k4,k1⟩]
  have eg:∀args w,(callFunc 267 args).run Tryz.prog w=.ok (.enter 267 args) w:=enters_of Tryz.func267 (by kernel_rfl) rfl
  have HTT:Hid (through n (g.take (cutOf g))=g.take (cutOf g)):=(show _=_ by unfold through;rw[if_pos k4])
  have HNH:Hid (¬(n.kind=3/\n.c.kind=9/\n.c.n<=(g.count 10:Int))):=(show ¬_ from fun h=>by omega)
  rw[hV]
  clear hV k4 k1
  subst e4
  have HTH:Hid (∀W,Below w3.heap.size w3 W->Calls Tryz.prog 267 #[.slice aa (cutOf g) ca] W fun e w'=>∃au cu,e=.returned (.tuple #[.slice au (through n (g.take (cutOf g))).length cu,.int .i64 0])/\Reads w' (.slice au (through n (g.take (cutOf g))).length cu) (through n (g.take (cutOf g))).length ((through n (g.take (cutOf g))).map U)/\Below W.heap.size W w'):=(show ∀W,Below w3.heap.size w3 W->Calls Tryz.prog 267 #[.slice aa (cutOf g) ca] W fun e w'=>∃au cu,e=.returned (.tuple #[.slice au (through n (g.take (cutOf g))).length cu,.int .i64 0])/\Reads w' (.slice au (through n (g.take (cutOf g))).length cu) (through n (g.take (cutOf g))).length ((through n (g.take (cutOf g))).map U)/\Below W.heap.size W w' from fun W hW=>by
   rw[HTT.out,HCL.out]
   refine (pass1_is _ W).mono ?_
   rintro e w' ⟨rfl,hb⟩
   have:=(HRT.out W hW).below hb
   rw[HCL.out] at this
   exact⟨aa,ca,rfl,this,hb⟩)
  have HTL:Hid ((through n (g.take (cutOf g))).length<=300000):=(show _<=_ by rw[HTT.out,HCL.out];have:=HCU.out;have h2:=flat_mem_le (mGt HGM.out);have:=HT.out;omega)
  generalize hTG:through n (g.take (cutOf g))=TG at *
  have HPSS:Hid (passes n=true):=hps
  clear hps HTT hTG
  go_wp2_with fail
  refine Calls.mono HIF2.out ?_
  rintro e w4 ⟨z,rfl,hz,rfl⟩
  by_cases hz0:0<=z
  .
   have h10:(10:UInt8)∈g:=hz.1 hz0
   have HC2:Hid (cameS d.M i n q p=d.M.setP i ((p.setOut 0 (ob++TG)).setGot (g.drop (cutOf g)))):=(show _=_ by rw[HC0.out,if_pos (by rw[HPSS.out];simpa using h10),HOB.out];rfl)
   have hLF:=lastFeed_is aa ca g w4 HSA3.out.reads h10
   rw[<- HBL.out] at hLF
   have HLF:Hid _:=hLF
   have hcp:1<=cutOf g:=by
    by_cases h0:cutOf g=0
    . have h1:=cut_rest g
      rw[h0,List.drop_zero] at h1
      exact absurd h10 h1
    . omega
   obtain⟨CT,hCT⟩:∃z,z=cutOf g:=⟨_,rfl⟩
   have HCT:Hid (CT=cutOf g):=hCT
   have hct2:CT<=BL:=by rw[hCT,HBL.out];exact HCU.out
   rw[<- hCT] at HLF HTH hcp
   obtain⟨TL,hTL⟩:∃z,z=TG.length:=⟨_,rfl⟩
   have HTLe:Hid (TL=TG.length):=hTL
   rw[<- hTL] at HTH
   clear HC0 h10 hz hLF hCT hTL
   go_wp2_with fail
   refine Calls.mono HLF.out ?_
   rintro e w5 ⟨rfl,hb5⟩
   have HB5:Hid (Below w4.heap.size w4 w5):=hb5
   clear hb5 HLF
   have hct3:IntKind.i64.wrap ((CT:Int)-1+1)=(CT:Int):=by rw[IntKind.wrap_i64];omega
   have hct4:(CT:Int)-1+1=(CT:Int):=by omega
   go_wp2_with fail
   refine Calls.mono (HTH.out w5 HB5.out) ?_
   rintro e w6 ⟨au,cu,rfl,hrd6,hb6⟩
   have hB6:Below w4.heap.size w4 w6:=HB5.out.trans (hb6.mono HB5.out.size)
   have hR6:=RMem.below HR3.out hB6
   have hR6d:=RMem.below hR6 ((Below.refl _ w6).drew)
   obtain⟨gP6,cP6,s6,hvP6,_,_,_,hOP6,hs6,q0,q1,q2,_⟩:=RMem.procAt hR6 HP.out
   rw[HVP.out] at hvP6
   injection hvP6 with e1 e2 e3
   injection e1 with e1
   injection e1 with e1
   subst e1
   rw[HSl.out] at hs6
   injection hs6 with hs6
   subst hs6
   obtain⟨gO,cO,a6,hov6,hcO1,hcO2,hgO,hOO,ha6,hSa6,u0,hfO⟩:=RMem.outAt hR6d HP.out HSl.out HOB.out
   rw[hov6] at q2
   have hrd6':Reads w6.drew (.slice au TG.length cu) TG.length (TG.map U):=by
    have:=hrd6.below ((Below.refl _ w6).drew)
    rw[HTLe.out] at this
    exact this
   obtain⟨s7,w7,O7,hrun,hR7,hSo7,hTo7,hOold7⟩:=RMem.appendOut hR6d HP.out HSl.out HOB.out ha6 hrd6' (by have:=HSM.out ob (mGt HOB.out);have:=HTL.out;omega) 28
   have hOO7:O7 gO=some (.outs i):=(hOold7 gO hgO).trans hOO
   have hset8:=RMem.setOut hR7 HP.out HSl.out HOB.out hov6 hOO7 hSo7
   have hgPl:gP<w6.heap.size:=(hR6.lo _ _ hOP6).2
   have hblkP:=hTo7.block gP hgPl (by rw[hOP6];exact fun e=>by cases e)
   have hblkO:=hTo7.block gO hgO (by rw[hOO];exact fun e=>by cases e)
   have q2':w7.cell? ⟨gP,i*5+2,none⟩=some (.slice (some ⟨gO,0,none⟩) p.out.length cO):=by
    simp only[World.cell?] at q2 ⊢
    rw[hblkP]
    exact q2
   have u0':w7.cell? ⟨gO,0,none⟩=some (sl ob a6):=by
    simp only[World.cell?] at u0 ⊢
    rw[hblkO]
    exact u0
   have hfO':w7.frozen? ⟨gO,0,none⟩=false:=by
    have h2:=hfO 0
    simp only[World.frozen?] at h2 ⊢
    rw[hblkO]
    exact h2
   obtain⟨W8,hW8⟩:∃W,W=w7.setCell ⟨gO,0,none⟩ (sl (ob++TG) s7):=⟨_,rfl⟩
   rw[<- hW8] at hset8
   have hBD8:Below D w W8:=by
    rw[hW8]
    exact ((HBD3.out.trans (hB6.mono HR3.out.le)).trans (((Below.refl D w6).drew).trans (hTo7.below hR6d))).setCell (hR7.lo _ _ hOO7).1 _
   have hp8:(d.setProc i (p.setOut 0 (ob++TG)) (s.outSet 0 s7)).M.ps[i]? = some (p.setOut 0 (ob++TG)):=set_eq HP.out
   have hs8:(d.setProc i (p.setOut 0 (ob++TG)) (s.outSet 0 s7)).P[i]? = some (s.outSet 0 s7):=set_eq HSl.out
   obtain⟨gP8,cP8,s8,hvP8,_,_,_,hOP8,hs8',r0,r1,_⟩:=RMem.procAt hset8 hp8
   rw[show (d.setProc i (p.setOut 0 (ob++TG)) (s.outSet 0 s7)).vP=d.vP from rfl,HVP.out] at hvP8
   injection hvP8 with e4 e5 e6
   injection e4 with e4
   injection e4 with e4
   subst e4
   rw[hs8] at hs8'
   injection hs8' with hs8'
   subst hs8'
   obtain⟨gG8,cG8,a8,hgv8,_,_,hgG8,hOG8,ha8,hSa8,v0,hfG8⟩:=RMem.gotAt hset8 hp8 hs8 HGM.out
   rw[show (s.outSet 0 s7).gv=s.gv from rfl,HGV.out] at hgv8 r0
   injection hgv8 with e7 e8 e9x
   injection e7 with e7
   injection e7 with e7
   subst e7
   rw[show (s.outSet 0 s7).gs=s.gs from rfl,HA.out] at ha8
   injection ha8 with ha8
   subst ha8
   have hEND:∀(s9:Sl) (v:Value),v=sl (g.drop (cutOf g)) s9->SOf W8 O7 (.got i m) s9 (g.drop (cutOf g))->RunAt G (W8.setCell ⟨gG,m,none⟩ v).drew D r (cameS d.M i n q p)/\Below D w (W8.setCell ⟨gG,m,none⟩ v).drew:=by
    intro s9 v hv hs9
    subst hv
    have k1:=RMem.setGot hset8 hp8 hs8 HGM.out HGV.out hOG8 hs9
    refine⟨RunAt.drew ⟨O7,(d.setProc i (p.setOut 0 (ob++TG)) (s.outSet 0 s7)).setProc i (SProc.gotSet (p.setOut 0 (ob++TG)) m (g.drop (cutOf g))) ((s.outSet 0 s7).gotSet m s9),k1,?_⟩,(hBD8.setCell (hset8.lo _ _ hOG8).1 _).drew⟩
    rw[HC2.out]
    unfold RD.setProc SMach.setP SProc.gotSet SProc.setGot SProc.setOut
    simp only[List.set_set]
    rw[HM.out,Int.toNat_natCast]
   have HEND:Hid _:=hEND
   have HRUN:Hid _:=hrun
   have HSa8:Hid _:=hSa8
   have hfg8:=hfG8 m
   rw[show (p.setOut 0 (ob++TG)).pos=(m:Int) from HM.out] at r1
   rw[<- HGL.out] at r0
   rw[HOL1.out] at q2 q2'
   obtain⟨a6a,a6c⟩:=a6
   obtain⟨s7a,s7c⟩:=s7
   have u0d:w6.cell? ⟨gO,0,none⟩=some (sl ob (a6a,a6c)):=u0
   have hobl:=reads_leP hSa6.reads
   unfold sl at u0d u0' HRUN hW8 v0
   simp only at u0d u0' HRUN hW8 v0 hobl
   rw[<- HTLe.out] at HRUN
   rw[<- HBL.out] at v0
   have hcO1':1<=cO:=by have:=HOL1.out;omega
   generalize ob.length=OBL at *
   generalize (ob++TG).length=OTL at *
   clear hEND hset8 hp8 hs8 hOG8 hOP8 hSa8 hfG8 hR7 hSo7 hTo7 hOold7 hrun hOO7 hR6 hR6d hOO ha6 hSa6 u0 hfO hrd6 hrd6' hb6 hB6 hblkP hblkO hBD8 e2 e3 e5 e6 e8 e9x q0 q1 hov6 hOP6 hcO1
   have HW8:Hid _:=hW8
   clear hW8 eg hfn hct3 hct4
   go_wp2_with fail
   go_region_law (refine step_append_is rfl (.tmp 93) (.tmp 94) 28 rfl (.slice a6a OBL a6c) (.slice au TL cu) (by simp[Act.eval]) (by simp[Act.eval]) HRUN.out ?_)
   all_goals
    rw[<- HW8.out]
    clear HW8
    by_cases hce:ca=CT
    .
     rcases id HSa8.out with ⟨hnil,hbn⟩ | ⟨g1,off1,cur1,hs1,ho1,hg1,hl1,hl2,hl3,hl4⟩
     . exact absurd hbn HG0.out
     .
      try simp only at hs1
      subst hs1
      have HSO:Hid (SOf W8 O7 (.got i m) (some ⟨g1,off1,none⟩,0) (g.drop (cutOf g))):=SOf.drop HSa8.out rfl HCU.out _ (.inr ⟨rfl,by rw[<- HCT.out,hce]⟩)
      have hBe:BL=ca:=by
       have:g.length<=ca:=hl1
       rw[<- HBL.out] at this
       omega
      clear hg1 hl1 hl2 hl3 hl4 ho1
      subst hce
      subst hBe
      go_wp2_with fail
      go_region
      all_goals go_wp2_with fail
      all_goals go_ret
      all_goals refine⟨rfl,?_⟩
      all_goals exact HEND.out (some ⟨g1,off1,none⟩,0) _ (by unfold sl;rw[List.length_drop,<- HCT.out,<- HBL.out,Nat.sub_self]) HSO.out
    .
     rcases id HSa8.out with ⟨hnil,hbn⟩ | ⟨g1,off1,cur1,hs1,ho1,hg1,hl1,hl2,hl3,hl4⟩
     . exact absurd hbn HG0.out
     .
      try simp only at hs1
      subst hs1
      have HSO:Hid (SOf W8 O7 (.got i m) (some ⟨g1,off1+CT,none⟩,ca-CT) (g.drop (cutOf g))):=SOf.drop HSa8.out rfl HCU.out _ (.inl (by rw[HCT.out]))
      have hBc:BL<=ca:=by
       have:g.length<=ca:=hl1
       rw[<- HBL.out] at this
       exact this
      have hca2:ca<=9223372036854775807:=by unfold maxLen at hl2;exact hl2
      clear hg1 hl1 hl2 hl3 hl4 ho1
      go_wp2_with fail
      go_region
      all_goals go_wp2_with fail
      all_goals go_ret
      all_goals refine⟨rfl,?_⟩
      all_goals exact HEND.out (some ⟨g1,off1+CT,none⟩,ca-CT) _ (by unfold sl;rw[List.length_drop,<- HCT.out,<- HBL.out]) HSO.out
  .
   have h10:¬(10:UInt8)∈g:=fun h=>hz0 (hz.2 h)
   have HC2:Hid (cameS d.M i n q p=d.M):=(show _=_ by rw[HC0.out,if_neg (by simp;intro _;exact h10),if_neg HNH.out];exact setP_same HP.out)
   clear HC0 h10 hz
   go_wp2_with fail
   go_region
   all_goals go_wp2_with fail
   all_goals go_ret
   all_goals (rw[HC2.out];exact⟨rfl,⟨O,d,RMem.below HR3.out ((Below.refl _ w4).drew),rfl⟩,HBD3.out.drew⟩)
 .
  have e4:NK=3:=HNK.out.trans k3
  have hV:passV n W2.heap.size=.func (.func 268) #[] #[.pointer (some ⟨W2.heap.size,0,none⟩)]:=by unfold passV;rw[if_neg (by omega),if_pos ⟨k3,k5⟩]
  have eg:∀args w,(callFunc 268 args).run Tryz.prog w=.ok (.enter 268 args) w:=enters_of Tryz.func268 (by kernel_rfl) rfl
  have HTT:Hid (through n (g.take (cutOf g))=ended (made n.c (lines (g.take (cutOf g))))):=(show _=_ by unfold through;rw[if_neg (by omega)])
  have h9:¬CK=9:=by rw[HCK.out];have:=of_decide_eq_true k5;omega
  have HNH:Hid (¬(n.kind=3/\n.c.kind=9/\n.c.n<=(g.count 10:Int))):=(show ¬_ from fun h=>h9 (HCK.out.trans h.2.1))
  have e9:(CK == 9)=false:=by simpa using h9
  have e9':decide (CK=9)=false:=by simpa using h9
  rw[hV]
  have HTH:Hid (∀W,Below w3.heap.size w3 W->Calls Tryz.prog 268 #[.slice aa (cutOf g) ca,.pointer (some ⟨W2.heap.size,0,none⟩)] W fun e w'=>∃au cu,e=.returned (.tuple #[.slice au (through n (g.take (cutOf g))).length cu,.int .i64 0])/\Reads w' (.slice au (through n (g.take (cutOf g))).length cu) (through n (g.take (cutOf g))).length ((through n (g.take (cutOf g))).map U)/\Below W.heap.size W w'):=(show ∀W,Below w3.heap.size w3 W->Calls Tryz.prog 268 #[.slice aa (cutOf g) ca,.pointer (some ⟨W2.heap.size,0,none⟩)] W fun e w'=>∃au cu,e=.returned (.tuple #[.slice au (through n (g.take (cutOf g))).length cu,.int .i64 0])/\Reads w' (.slice au (through n (g.take (cutOf g))).length cu) (through n (g.take (cutOf g))).length ((through n (g.take (cutOf g))).map U)/\Below W.heap.size W w' from fun W hW=>by
   rw[HTT.out]
   have hbxW:=(hW.block W2.heap.size (aSm HX3.out).1).trans HX3.out
   rw[HNK.out,HCK.out,HCN.out,HV.out.1,HV.out.2.1,HV.out.2.2.1,HV.out.2.2.2.1,HV.out.2.2.2.2] at hbxW
   have:=pass2_is n ai aa ci ca W2.heap.size (g.take (cutOf g)) W HCH.out k3 HFIT.out hbxW (HRT.out W hW) (by rw[HCL.out];have:=HCU.out;have h2:=flat_mem_le (mGt HGM.out);have:=HT.out;omega) (HE.out W (HBD3.out.trans (hW.mono HR3.out.le)))
   rw[HCL.out] at this
   exact this)
  have HTL:Hid ((through n (g.take (cutOf g))).length<=300000):=(show _<=_ by
   rw[HTT.out]
   have q1:=made_len6 n.c (work_chk HCH.out k3) (lines (g.take (cutOf g))) (by have:=lines_length (g.take (cutOf g));rw[HCL.out] at this;have:=HCU.out;have h2:=flat_mem_le (mGt HGM.out);have:=HT.out;omega)
   have q2:=ended_lines (g.take (cutOf g))
   rw[HCL.out] at q2
   have:=HCU.out;have h2:=flat_mem_le (mGt HGM.out);have:=HT.out;omega)
  clear hV k3 k5 h9
  subst e4
  generalize hTG:through n (g.take (cutOf g))=TG at *
  have HPSS:Hid (passes n=true):=hps
  clear hps HTT hTG
  go_wp2_with fail
  refine Calls.mono HIF2.out ?_
  rintro e w4 ⟨z,rfl,hz,rfl⟩
  by_cases hz0:0<=z
  .
   have h10:(10:UInt8)∈g:=hz.1 hz0
   have HC2:Hid (cameS d.M i n q p=d.M.setP i ((p.setOut 0 (ob++TG)).setGot (g.drop (cutOf g)))):=(show _=_ by rw[HC0.out,if_pos (by rw[HPSS.out];simpa using h10),HOB.out];rfl)
   have hLF:=lastFeed_is aa ca g w4 HSA3.out.reads h10
   rw[<- HBL.out] at hLF
   have HLF:Hid _:=hLF
   have hcp:1<=cutOf g:=by
    by_cases h0:cutOf g=0
    . have h1:=cut_rest g
      rw[h0,List.drop_zero] at h1
      exact absurd h10 h1
    . omega
   obtain⟨CT,hCT⟩:∃z,z=cutOf g:=⟨_,rfl⟩
   have HCT:Hid (CT=cutOf g):=hCT
   have hct2:CT<=BL:=by rw[hCT,HBL.out];exact HCU.out
   rw[<- hCT] at HLF HTH hcp
   obtain⟨TL,hTL⟩:∃z,z=TG.length:=⟨_,rfl⟩
   have HTLe:Hid (TL=TG.length):=hTL
   rw[<- hTL] at HTH
   clear HC0 h10 hz hLF hCT hTL
   go_wp2_with fail
   refine Calls.mono HLF.out ?_
   rintro e w5 ⟨rfl,hb5⟩
   have HB5:Hid (Below w4.heap.size w4 w5):=hb5
   clear hb5 HLF
   have hct3:IntKind.i64.wrap ((CT:Int)-1+1)=(CT:Int):=by rw[IntKind.wrap_i64];omega
   have hct4:(CT:Int)-1+1=(CT:Int):=by omega
   go_wp2_with fail
   refine Calls.mono (HTH.out w5 HB5.out) ?_
   rintro e w6 ⟨au,cu,rfl,hrd6,hb6⟩
   have hB6:Below w4.heap.size w4 w6:=HB5.out.trans (hb6.mono HB5.out.size)
   have hR6:=RMem.below HR3.out hB6
   have hR6d:=RMem.below hR6 ((Below.refl _ w6).drew)
   obtain⟨gP6,cP6,s6,hvP6,_,_,_,hOP6,hs6,q0,q1,q2,_⟩:=RMem.procAt hR6 HP.out
   rw[HVP.out] at hvP6
   injection hvP6 with e1 e2 e3
   injection e1 with e1
   injection e1 with e1
   subst e1
   rw[HSl.out] at hs6
   injection hs6 with hs6
   subst hs6
   obtain⟨gO,cO,a6,hov6,hcO1,hcO2,hgO,hOO,ha6,hSa6,u0,hfO⟩:=RMem.outAt hR6d HP.out HSl.out HOB.out
   rw[hov6] at q2
   have hrd6':Reads w6.drew (.slice au TG.length cu) TG.length (TG.map U):=by
    have:=hrd6.below ((Below.refl _ w6).drew)
    rw[HTLe.out] at this
    exact this
   obtain⟨s7,w7,O7,hrun,hR7,hSo7,hTo7,hOold7⟩:=RMem.appendOut hR6d HP.out HSl.out HOB.out ha6 hrd6' (by have:=HSM.out ob (mGt HOB.out);have:=HTL.out;omega) 28
   have hOO7:O7 gO=some (.outs i):=(hOold7 gO hgO).trans hOO
   have hset8:=RMem.setOut hR7 HP.out HSl.out HOB.out hov6 hOO7 hSo7
   have hgPl:gP<w6.heap.size:=(hR6.lo _ _ hOP6).2
   have hblkP:=hTo7.block gP hgPl (by rw[hOP6];exact fun e=>by cases e)
   have hblkO:=hTo7.block gO hgO (by rw[hOO];exact fun e=>by cases e)
   have q2':w7.cell? ⟨gP,i*5+2,none⟩=some (.slice (some ⟨gO,0,none⟩) p.out.length cO):=by
    simp only[World.cell?] at q2 ⊢
    rw[hblkP]
    exact q2
   have u0':w7.cell? ⟨gO,0,none⟩=some (sl ob a6):=by
    simp only[World.cell?] at u0 ⊢
    rw[hblkO]
    exact u0
   have hfO':w7.frozen? ⟨gO,0,none⟩=false:=by
    have h2:=hfO 0
    simp only[World.frozen?] at h2 ⊢
    rw[hblkO]
    exact h2
   obtain⟨W8,hW8⟩:∃W,W=w7.setCell ⟨gO,0,none⟩ (sl (ob++TG) s7):=⟨_,rfl⟩
   rw[<- hW8] at hset8
   have hBD8:Below D w W8:=by
    rw[hW8]
    exact ((HBD3.out.trans (hB6.mono HR3.out.le)).trans (((Below.refl D w6).drew).trans (hTo7.below hR6d))).setCell (hR7.lo _ _ hOO7).1 _
   have hp8:(d.setProc i (p.setOut 0 (ob++TG)) (s.outSet 0 s7)).M.ps[i]? = some (p.setOut 0 (ob++TG)):=set_eq HP.out
   have hs8:(d.setProc i (p.setOut 0 (ob++TG)) (s.outSet 0 s7)).P[i]? = some (s.outSet 0 s7):=set_eq HSl.out
   obtain⟨gP8,cP8,s8,hvP8,_,_,_,hOP8,hs8',r0,r1,_⟩:=RMem.procAt hset8 hp8
   rw[show (d.setProc i (p.setOut 0 (ob++TG)) (s.outSet 0 s7)).vP=d.vP from rfl,HVP.out] at hvP8
   injection hvP8 with e4 e5 e6
   injection e4 with e4
   injection e4 with e4
   subst e4
   rw[hs8] at hs8'
   injection hs8' with hs8'
   subst hs8'
   obtain⟨gG8,cG8,a8,hgv8,_,_,hgG8,hOG8,ha8,hSa8,v0,hfG8⟩:=RMem.gotAt hset8 hp8 hs8 HGM.out
   rw[show (s.outSet 0 s7).gv=s.gv from rfl,HGV.out] at hgv8 r0
   injection hgv8 with e7 e8 e9x
   injection e7 with e7
   injection e7 with e7
   subst e7
   rw[show (s.outSet 0 s7).gs=s.gs from rfl,HA.out] at ha8
   injection ha8 with ha8
   subst ha8
   have hEND:∀(s9:Sl) (v:Value),v=sl (g.drop (cutOf g)) s9->SOf W8 O7 (.got i m) s9 (g.drop (cutOf g))->RunAt G (W8.setCell ⟨gG,m,none⟩ v).drew D r (cameS d.M i n q p)/\Below D w (W8.setCell ⟨gG,m,none⟩ v).drew:=by
    intro s9 v hv hs9
    subst hv
    have k1:=RMem.setGot hset8 hp8 hs8 HGM.out HGV.out hOG8 hs9
    refine⟨RunAt.drew ⟨O7,(d.setProc i (p.setOut 0 (ob++TG)) (s.outSet 0 s7)).setProc i (SProc.gotSet (p.setOut 0 (ob++TG)) m (g.drop (cutOf g))) ((s.outSet 0 s7).gotSet m s9),k1,?_⟩,(hBD8.setCell (hset8.lo _ _ hOG8).1 _).drew⟩
    rw[HC2.out]
    unfold RD.setProc SMach.setP SProc.gotSet SProc.setGot SProc.setOut
    simp only[List.set_set]
    rw[HM.out,Int.toNat_natCast]
   have HEND:Hid _:=hEND
   have HRUN:Hid _:=hrun
   have HSa8:Hid _:=hSa8
   have hfg8:=hfG8 m
   rw[show (p.setOut 0 (ob++TG)).pos=(m:Int) from HM.out] at r1
   rw[<- HGL.out] at r0
   rw[HOL1.out] at q2 q2'
   obtain⟨a6a,a6c⟩:=a6
   obtain⟨s7a,s7c⟩:=s7
   have u0d:w6.cell? ⟨gO,0,none⟩=some (sl ob (a6a,a6c)):=u0
   have hobl:=reads_leP hSa6.reads
   unfold sl at u0d u0' HRUN hW8 v0
   simp only at u0d u0' HRUN hW8 v0 hobl
   rw[<- HTLe.out] at HRUN
   rw[<- HBL.out] at v0
   have hcO1':1<=cO:=by have:=HOL1.out;omega
   generalize ob.length=OBL at *
   generalize (ob++TG).length=OTL at *
   clear hEND hset8 hp8 hs8 hOG8 hOP8 hSa8 hfG8 hR7 hSo7 hTo7 hOold7 hrun hOO7 hR6 hR6d hOO ha6 hSa6 u0 hfO hrd6 hrd6' hb6 hB6 hblkP hblkO hBD8 e2 e3 e5 e6 e8 e9x q0 q1 hov6 hOP6 hcO1
   have HW8:Hid _:=hW8
   clear hW8 eg hfn hct3 hct4
   go_wp2_with fail
   go_region_law (refine step_append_is rfl (.tmp 93) (.tmp 94) 28 rfl (.slice a6a OBL a6c) (.slice au TL cu) (by simp[Act.eval]) (by simp[Act.eval]) HRUN.out ?_)
   all_goals
    rw[<- HW8.out]
    clear HW8
    by_cases hce:ca=CT
    .
     rcases id HSa8.out with ⟨hnil,hbn⟩ | ⟨g1,off1,cur1,hs1,ho1,hg1,hl1,hl2,hl3,hl4⟩
     . exact absurd hbn HG0.out
     .
      try simp only at hs1
      subst hs1
      have HSO:Hid (SOf W8 O7 (.got i m) (some ⟨g1,off1,none⟩,0) (g.drop (cutOf g))):=SOf.drop HSa8.out rfl HCU.out _ (.inr ⟨rfl,by rw[<- HCT.out,hce]⟩)
      have hBe:BL=ca:=by
       have:g.length<=ca:=hl1
       rw[<- HBL.out] at this
       omega
      clear hg1 hl1 hl2 hl3 hl4 ho1
      subst hce
      subst hBe
      go_wp2_with fail
      go_region
      all_goals go_wp2_with fail
      all_goals go_ret
      all_goals refine⟨rfl,?_⟩
      all_goals exact HEND.out (some ⟨g1,off1,none⟩,0) _ (by unfold sl;rw[List.length_drop,<- HCT.out,<- HBL.out,Nat.sub_self]) HSO.out
    .
     rcases id HSa8.out with ⟨hnil,hbn⟩ | ⟨g1,off1,cur1,hs1,ho1,hg1,hl1,hl2,hl3,hl4⟩
     . exact absurd hbn HG0.out
     .
      try simp only at hs1
      subst hs1
      have HSO:Hid (SOf W8 O7 (.got i m) (some ⟨g1,off1+CT,none⟩,ca-CT) (g.drop (cutOf g))):=SOf.drop HSa8.out rfl HCU.out _ (.inl (by rw[HCT.out]))
      have hBc:BL<=ca:=by
       have:g.length<=ca:=hl1
       rw[<- HBL.out] at this
       exact this
      have hca2:ca<=9223372036854775807:=by unfold maxLen at hl2;exact hl2
      clear hg1 hl1 hl2 hl3 hl4 ho1
      go_wp2_with fail
      go_region
      all_goals go_wp2_with fail
      all_goals go_ret
      all_goals refine⟨rfl,?_⟩
      all_goals exact HEND.out (some ⟨g1,off1+CT,none⟩,ca-CT) _ (by unfold sl;rw[List.length_drop,<- HCT.out,<- HBL.out]) HSO.out
  .
   have h10:¬(10:UInt8)∈g:=fun h=>hz0 (hz.2 h)
   have HC2:Hid (cameS d.M i n q p=d.M):=(show _=_ by rw[HC0.out,if_neg (by simp;intro _;exact h10),if_neg HNH.out];exact setP_same HP.out)
   clear HC0 h10 hz
   go_wp2_with fail
   go_region
   all_goals go_wp2_with fail
   all_goals go_ret
   all_goals (rw[HC2.out];exact⟨rfl,⟨O,d,RMem.below HR3.out ((Below.refl _ w4).drew),rfl⟩,HBD3.out.drew⟩)
end Go.Proofs.YtllgglolcgdehaaGreatDoor
