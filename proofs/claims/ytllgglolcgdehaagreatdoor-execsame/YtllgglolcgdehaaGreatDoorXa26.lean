/- What the developers' came does: a Sink. -/
import Derived.Test.YtllgglolcgdehaaGreatDoorXa25
set_option maxRecDepth 100000
set_option maxHeartbeats 16000000
namespace Go.Proofs.YtllgglolcgdehaaGreatDoor
open Go.RowKit Go.Gs Go.Maps
set_option linter.unusedVariables false
variable {G:World->(Nat->Option Own)->Prop}
theorem came_sink (D r:Nat) (O:Nat->Option Own) (d:RD) (i q m:Nat) (n:SNode) (p:SProc) (x:SPipe) (g:List UInt8) (w:World) (h:RunM G w D r O d) (hS:Shape d.M) (hn:d.M.ns[i]? = some n) (hp:d.M.ps[i]? = some p) (hm:p.pos=(m:Int)) (hgm:p.got[m]? = some g) (hg0:g≠[]) (hq:q=firstIn d.M.ns i+m) (hx:d.M.pipes[q]? = some x) (hfit:FitsN n) (hT:p.got.flatten.length<=241200) (hsm:∀b∈p.out,b.length<=90000000) (hsk:d.M.sunk.length<=90000000) (hE:∀W,Below D w W->KnownE W) (hk5:n.kind=5) :
 Calls Tryz.prog 170 #[.pointer (some ⟨r,0,none⟩),.int .i64 i] w fun e w'=>e=.returned (.int .i64 0)/\RunAt G w' D r (cameS d.M i n q p)/\Below D w w':=by
 have hF:=hS.proc i n p hn hp
 have hch:=hS.g.node n (mGt hn)
 have hat:p.at=g:=by unfold SProc.at;rw[hm,Int.toNat_natCast,hgm];rfl
 have hml:m<p.got.length:=(gSm hgm).1
 obtain⟨gP,cP,s,hvP,hcP1,hcP2,hgP,hOP,hs,p0,p1,p2,p3,p4,hfP,hGo,hOo,hgl,hol⟩:=h.procAt hp
 obtain⟨gG,cG,a,hgv,hcG1,hcG2,hgG,hOG,ha,hSa,g0,hfG⟩:=RMem.gotAt h hp hs hgm
 have hil:i<d.M.ps.length:=(gSm hp).1
 obtain⟨b0,b1,b2,b3,b4,b5,b6⟩:=cells7 h.box.1
 obtain⟨hRN,hRF⟩:=h.nodes
 obtain⟨an,cn,hvN,hcn1,hcn2⟩:=hRN.shape
 rw[hvN] at hRN b0
 rw[hvP] at b3
 rw[hgv] at p0
 rw[hm] at p1
 obtain⟨nb,noff,ai,ci,rfl,hNA,HPo⟩:=hRN.at hn
 obtain⟨c0,c1,c2,c3,c4,c5,c6,c7⟩:=hNA
 have hin:i<d.M.ns.length:=(gSm hn).1
 have hcn2':cn<=9223372036854775807:=by unfold maxLen at hcn2;exact hcn2
 have hgl9:=reads_leP hSa.reads
 have HH:Hid (RunM G w D r O d):=h
 have HS:Hid (Shape d.M):=hS
 have HN:Hid (d.M.ns[i]? = some n):=hn
 have HP:Hid (d.M.ps[i]? = some p):=hp
 have HSl:Hid (d.P[i]? = some s):=hs
 have HX:Hid (d.M.pipes[q]? = some x):=hx
 have HGM:Hid (p.got[m]? = some g):=hgm
 have HA:Hid (s.gs[m]? = some a):=ha
 have HSA:Hid (SOf w O (.got i m) a g):=hSa
 have HGV:Hid (s.gv=.slice (some ⟨gG,0,none⟩) p.got.length cG):=hgv
 have HVP:Hid (d.vP=.slice (some ⟨gP,0,none⟩) d.M.ps.length cP):=hvP
 have HOG:Hid (O gG=some (.gots i)):=hOG
 have HOP:Hid (O gP=some .procs):=hOP
 have HAT:Hid (p.at=g):=hat
 have HM:Hid (p.pos=(m:Int)):=hm
 have HG0:Hid (g≠[]):=hg0
 have HCH:Hid (nodeChk n=0):=hch
 have HFIT:Hid (FitsN n):=hfit
 have HSM:Hid (∀b∈p.out,b.length<=90000000):=hsm
 have HSK:Hid (d.M.sunk.length<=90000000):=hsk
 have HE:Hid (∀W,Below D w W->KnownE W):=hE
 have HT:Hid (p.got.flatten.length<=241200):=hT
 have HQ:Hid (q=firstIn d.M.ns i+m):=hq
 have HF:Hid (ProcF n p):=hF
 obtain⟨NP,hNP⟩:∃N,N=d.M.ps.length:=⟨_,rfl⟩
 obtain⟨NN,hNN⟩:∃N,N=d.M.ns.length:=⟨_,rfl⟩
 obtain⟨GL,hGL⟩:∃N,N=p.got.length:=⟨_,rfl⟩
 obtain⟨BL,hBL⟩:∃N,N=g.length:=⟨_,rfl⟩
 have HBL:Hid (BL=g.length):=hBL
 have HGL:Hid (GL=p.got.length):=hGL
 obtain⟨NK,hNK⟩:∃z,z=n.kind:=⟨_,rfl⟩
 obtain⟨CK,hCK⟩:∃z,z=n.c.kind:=⟨_,rfl⟩
 obtain⟨CN,hCN⟩:∃z,z=n.c.n:=⟨_,rfl⟩
 have HNK:Hid (NK=n.kind):=hNK
 have HCK:Hid (CK=n.c.kind):=hCK
 have HCN:Hid (CN=n.c.n):=hCN
 rw[<- hNP] at b3 hil hcP1
 rw[<- hNN] at b0 hcn1 hin
 rw[<- hGL] at p0 hcG1 hml
 unfold sl at g0
 obtain⟨aa,ca⟩:=a
 simp only at g0 hgl9
 rw[<- hBL] at g0 hgl9
 rw[<- hNK] at c0
 rw[<- hCK] at c2
 rw[<- hCN] at c4
 obtain⟨fx,hfx⟩:∃z,z=(⟨n.file.toArray⟩:ByteArray):=⟨_,rfl⟩
 obtain⟨wx0,hwx⟩:∃z,z=(⟨n.c.word.toArray⟩:ByteArray):=⟨_,rfl⟩
 obtain⟨hw,hhw⟩:∃z,z=n.how:=⟨_,rfl⟩
 obtain⟨wd,hwd⟩:∃z,z=n.wide:=⟨_,rfl⟩
 obtain⟨IL,hIL⟩:∃z,z=n.ins.length:=⟨_,rfl⟩
 have HV:Hid (fx=(⟨n.file.toArray⟩:ByteArray)/\wx0=(⟨n.c.word.toArray⟩:ByteArray)/\hw=n.how/\wd=n.wide/\IL=n.ins.length):=⟨hfx,hwx,hhw,hwd,hIL⟩
 rw[<- hfx] at c1
 rw[<- hwx] at c3
 rw[<- hhw] at c5
 rw[<- hwd] at c6
 rw[<- hIL] at c7
 clear h hS hn hp hs hx hgm ha hSa hgv hvP hOG hOP hat hm hg0 hch hfit hsm hsk hE hT hq hF hNP hNN hGL hBL hNK hCK hCN hfx hwx hhw hwd hIL hRN hRF hvN HPo hGo hOo hgl hol hcn2 b1 b2 b4 b5 b6 p2 p3 p4 hfP
 have fb0:=fun o=>((boxE (w:=w) (o:=o)).cell (bLt w _ b0)).trans b0
 have fb3:=fun o=>((boxE (w:=w) (o:=o)).cell (bLt w _ b3)).trans b3
 have fc0:=fun o=>((boxE (w:=w) (o:=o)).cell (bLt w _ c0)).trans c0
 have fc1:=fun o=>((boxE (w:=w) (o:=o)).cell (bLt w _ c1)).trans c1
 have fc2:=fun o=>((boxE (w:=w) (o:=o)).cell (bLt w _ c2)).trans c2
 have fc3:=fun o=>((boxE (w:=w) (o:=o)).cell (bLt w _ c3)).trans c3
 have fc4:=fun o=>((boxE (w:=w) (o:=o)).cell (bLt w _ c4)).trans c4
 have fc5:=fun o=>((boxE (w:=w) (o:=o)).cell (bLt w _ c5)).trans c5
 have fc6:=fun o=>((boxE (w:=w) (o:=o)).cell (bLt w _ c6)).trans c6
 have fc7:=fun o=>((boxE (w:=w) (o:=o)).cell (bLt w _ c7)).trans c7
 have hrl:r<w.heap.size:=bLt w _ b0
 have hnbl:nb<w.heap.size:=bLt w _ c0
 go_enter Tryz.func170,Tryz.ntmps170
 go_upto_region 1 with fail
 go_region
 obtain⟨W1,hW1⟩:∃W,W=(w.alloc (.cells #[.int .i64 NK,.string fx,.int .i64 CK,.string wx0,.int .i64 CN,.int .i64 hw,.int .i64 wd,.slice ai IL ci] 73)).drew:=⟨_,rfl⟩
 have hb1:Below w.heap.size w W1:=by rw[hW1];exact boxE.drew
 have hbx:W1.heap[w.heap.size]? = some (.cells #[.int .i64 NK,.string fx,.int .i64 CK,.string wx0,.int .i64 CN,.int .i64 hw,.int .i64 wd,.slice ai IL ci] 73 (0,0)):=by rw[hW1];exact heap_alloc_new _ _
 have p0':=(hb1.cell (bLt w _ p0)).trans p0
 have p1':=(hb1.cell (bLt w _ p1)).trans p1
 have g0':=(hb1.cell (bLt w _ g0)).trans g0
 rw[<- hW1]
 clear hW1 fb0 fb3 fc0 fc1 fc2 fc3 fc4 fc5 fc6 fc7 b0 b3 c0 c1 c2 c3 c4 c5 c6 c7 p0 p1 g0
 go_wp2_with fail
 go_quiet (fail)
 have hb2:Below w.heap.size w (W1.drewN nq):=hb1.trans drewNE
 have hbx2:(W1.drewN nq).heap[w.heap.size]? = some (.cells #[.int .i64 NK,.string fx,.int .i64 CK,.string wx0,.int .i64 CN,.int .i64 hw,.int .i64 wd,.slice ai IL ci] 73 (0,0)):=hbx
 have HB2:Hid (Below w.heap.size w (W1.drewN nq)):=hb2
 have HBX2:Hid _:=hbx2
 clear hbx hb1 hb2 p0' p1' g0'
 generalize (W1.drewN nq)=W2 at *
 obtain⟨c0,c1,c2,c3,c4,c5,c6,c7⟩:=cells8E hbx2
 clear hbx2
 have hR2:=RMem.below HH.out HB2.out
 have HR2:Hid (RunM G W2 D r O d):=hR2
 have HSA2:Hid (SOf W2 O (.got i m) (aa,ca) g):=hR2.part (.got i m) p s g (aa,ca) HP.out HSl.out HGM.out HA.out
 have HBD2:Hid (Below D w W2):=HB2.out.mono HH.out.le
 clear hR2
 have h5:NK=5:=HNK.out.trans hk5
 clear hk5
 subst h5
 have HC:Hid (cameS d.M i n q p=⟨d.M.ns,d.M.fs,d.M.pipes,d.M.ps.set i (p.setGot []),d.M.sunk++g⟩):=(show _=_ by unfold cameS;rw[if_pos HNK.out.symm,HAT.out])
 obtain⟨s',w',O',hrun,hR',hSo,hTo,hOold⟩:=RMem.appendSunk HR2.out HSA2.out.reads (by have:=HSK.out;have h2:=flat_mem_le (mGt HGM.out);have:=HT.out;omega) 28
 have hset:=RMem.setSunk hR' hSo
 obtain⟨z0,z1,z2,z3,z4,z5,z6⟩:=cells7 HR2.out.box.1
 obtain⟨y0,y1,y2,y3,y4,y5,y6⟩:=cells7 hR'.box.1
 have hfr:w'.frozen? ⟨r,4,none⟩=false:=frozen_of_row _ _ _ _ _ hR'.box.1
 obtain⟨W3,hW3⟩:∃W,W=w'.setCell ⟨r,4,none⟩ (sl (d.M.sunk++g) s'):=⟨_,rfl⟩
 rw[<- hW3] at hset
 have hB3:Below D w W3:=by
  rw[hW3]
  exact (HBD2.out.trans (hTo.below HR2.out)).setCell (hR'.lo _ _ hR'.box.2).1 _
 have HB3:Hid (Below D w W3):=hB3
 have HSET:Hid _:=hset
 obtain⟨gP3,cP3,s3,hvP3,_,_,_,hOP3,hs3,q0,q1,_⟩:=RMem.procAt hset HP.out
 rw[show (d.setSunk (d.M.sunk++g) s').vP=d.vP from rfl,HVP.out] at hvP3
 injection hvP3 with e1 e2 e3
 injection e1 with e1
 injection e1 with e1
 subst e1
 rw[show (d.setSunk (d.M.sunk++g) s').P=d.P from rfl,HSl.out] at hs3
 injection hs3 with hs3
 subst hs3
 obtain⟨gG3,cG3,a3,hgv3,_,_,hgG3,hOG3,ha3,hSa3,u0,hfG3⟩:=RMem.gotAt hset HP.out HSl.out HGM.out
 rw[HGV.out] at hgv3 q0
 injection hgv3 with e4 e5 e6
 injection e4 with e4
 injection e4 with e4
 subst e4
 have hset2:=RMem.setGot hset HP.out HSl.out HGM.out HGV.out hOG3 (SOf.nil W3 O' (.got i m))
 have hEND:RunAt G (W3.setCell ⟨gG,m,none⟩ (.slice none 0 0)).drew D r (cameS d.M i n q p)/\Below D w (W3.setCell ⟨gG,m,none⟩ (.slice none 0 0)).drew:=by
  refine⟨RunAt.drew ⟨O',(d.setSunk (d.M.sunk++g) s').setProc i (SProc.gotSet p m []) (s.gotSet m nilS),hset2,?_⟩,(hB3.setCell (hset.lo _ _ hOG3).1 _).drew⟩
  rw[HC.out]
  unfold RD.setProc RD.setSunk SMach.setP SProc.gotSet SProc.setGot
  rw[HM.out,Int.toNat_natCast]
 have HEND:Hid _:=hEND
 have HRUN:Hid _:=hrun
 have hfg:=hfG3 m
 unfold sl at z4 y4 HRUN hW3 u0
 obtain⟨sa,sc⟩:=s'
 simp only at HRUN hW3
 rw[<- HBL.out] at HRUN u0
 have g2:W2.cell? ⟨gG,m,none⟩=some (.slice aa BL ca):=by
  obtain⟨gG4,cG4,a4,hgv4,_,_,_,_,ha4,_,u4,_⟩:=RMem.gotAt HR2.out HP.out HSl.out HGM.out
  rw[HGV.out] at hgv4
  injection hgv4 with e7
  injection e7 with e7
  injection e7 with e7
  subst e7
  rw[HA.out] at ha4
  injection ha4 with ha4
  subst ha4
  unfold sl at u4
  rw[<- HBL.out] at u4
  exact u4
 rw[HM.out] at q1
 rw[<- HGL.out] at q0
 generalize (d.M.sunk++g).length=SGL at *
 generalize d.M.sunk.length=SL at *
 obtain⟨a3a,a3c⟩:=a3
 simp only at u0
 generalize d.sS.1=ssa at *
 generalize d.sS.2=ssc at *
 clear hEND hset hset2 hB3 hR' hSo hTo hOold hrun hfG3 hOG3 hOP3 ha3 hSa3 e2 e3 e5 e6 z0 z1 z2 z3 z5 z6 y0 y1 y2 y3 y5 y6 HC
 go_wp2_with (at_builtin;refine wpList_append_isE _ rfl (.tmp 46) (.tmp 47) 28 rfl _ _ rfl rfl HRUN.out ?_)
 rw[<- hW3]
 clear hW3
 go_region
 all_goals go_wp2_with fail
 all_goals go_ret
 all_goals exact⟨rfl,HEND.out⟩
end Go.Proofs.YtllgglolcgdehaaGreatDoor
