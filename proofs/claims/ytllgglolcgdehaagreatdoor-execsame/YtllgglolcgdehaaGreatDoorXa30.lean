/- What the developers' read does, and more. -/
import Derived.Test.YtllgglolcgdehaaGreatDoorXa29
set_option maxRecDepth 100000
set_option maxHeartbeats 16000000
namespace Go.Proofs.YtllgglolcgdehaaGreatDoor
open Go.RowKit Go.Gs Go.Maps
set_option linter.unusedVariables false
variable {G:World->(Nat->Option Own)->Prop}
theorem cameS_setP (M:SMach) (i:Nat) (n:SNode) (q:Nat) (p p':SProc):cameS (M.setP i p') i n q p=cameS M i n q p:=by
 unfold cameS SMach.setP SMach.setX SMach.pipe
 simp only[List.set_set]
theorem pread_eight {x:SPipe} (h:pchk x=0):pread x 8=(⟨x.b.drop 8,x.room,x.closed,x.shut⟩,x.b.take 8,0):=by
 unfold pread
 rw[if_neg (by simp[h]),if_neg (by omega)]
 by_cases h8:8<=x.b.length
 . rw[Nat.min_eq_left (by simpa using h8)]
   rfl
 . rw[Nat.min_eq_right (by simp;omega),List.drop_of_length_le (by omega),List.drop_of_length_le (by omega),List.take_of_length_le (by omega),List.take_of_length_le (by omega)]
theorem flat_set_leE:∀{l:List (List UInt8)} {m:Nat} {g b:List UInt8},l[m]? = some g->(l.set m (g++b)).flatten.length=l.flatten.length+b.length
 | [],m,g,b,h=>by simp at h
 | a::r,0,g,b,h=>by
  simp at h
  subst h
  simp
  omega
 | a::r,m+1,g,b,h=>by
  have:=flat_set_leE (l:=r) (b:=b) (by simpa using h)
  simp only[List.set_cons_succ,List.flatten_cons,List.length_append]
  omega
theorem pipes300 {M:SMach} (hS:Shape M):M.pipes.length<=300:=by
 rw[hS.xlen]
 have:∀(l:List SNode),(∀m∈l,m.ins.length<=5)->(allIns l).length<=5*l.length:=by
  intro l
  induction l with
  | nil=>intro _;simp[allIns]
  | cons m l ih=>
   intro hm
   have h1:=ih (fun m' hm'=>hm m' (by simp[hm']))
   have h2:=hm m (by simp)
   simp only[allIns,List.map_cons,List.flatten_cons,List.length_append,List.length_cons] at *
   omega
 have h1:=this M.ns (fun m hm=>(right_ins (hS.g.node m hm)).1)
 have:=hS.g.le60
 omega
theorem readE_is (D r:Nat) (O:Nat->Option Own) (d:RD) (i q m:Nat) (n:SNode) (p:SProc) (x:SPipe) (g:List UInt8) (w:World) (h:RunM G w D r O d) (hS:Shape d.M) (hn:d.M.ns[i]? = some n) (hp:d.M.ps[i]? = some p) (hm:p.pos=(m:Int)) (hgm:p.got[m]? = some g) (hq:q=firstIn d.M.ns i+m) (hx:d.M.pipes[q]? = some x) (hfit:FitsN n) (hT:p.got.flatten.length<=241192) (hsm:∀b∈p.out,b.length<=90000000) (hsk:d.M.sunk.length<=90000000) (hE:∀W,Below D w W->KnownE W) :
 Calls Tryz.prog 121 #[.pointer (some ⟨r,0,none⟩),.int .i64 i] w fun e w'=>e=.returned (.int .i64 (readS d.M i n q p).2)/\RunAt G w' D r (readS d.M i n q p).1/\Below D w w':=by
 have hF:=hS.proc i n p hn hp
 have hml:m<p.got.length:=(gSm hgm).1
 have hat:p.at=g:=by unfold SProc.at;rw[hm,Int.toNat_natCast,hgm];rfl
 obtain⟨gP,cP,s,hvP,hcP1,hcP2,hgP,hOP,hs,p0,p1,p2,p3,p4,hfP,hGo,hOo,hgl,hol⟩:=h.procAt hp
 obtain⟨gG,cG,a,hgv,hcG1,hcG2,hgG,hOG,ha,hSa,g0,hfG⟩:=RMem.gotAt h hp hs hgm
 obtain⟨gX,cX,hvX,hcX1,hcX2,hOX⟩:=h.formX (Shape.pipes0 hS)
 obtain⟨t,ht,hRt,x0,x1,x2,x3,hfX,_,hgX⟩:=RMem.atX h hvX hx
 obtain⟨gI,cI,hvI,hcI1,hcI2,i0⟩:=h.firstAt hn
 have hil:i<d.M.ps.length:=(gSm hp).1
 have hin:i<d.M.ns.length:=(gSm hn).1
 have hql:q<d.M.pipes.length:=(gSm hx).1
 obtain⟨b0,b1,b2,b3,b4,b5,b6⟩:=cells7 h.box.1
 rw[hvP] at b3
 rw[hvX] at b2
 rw[hvI] at b5
 rw[hgv] at p0
 rw[hm] at p1
 have hck:pchk x=0:=hS.pipe x (mGt hx)
 have h300:d.M.pipes.length<=300:=pipes300 hS
 have hm5:m<=5:=by have:=(right_ins (hS.g.node n (mGt hn))).1;have:=hF.glen;omega
 have hqi:IntKind.i64.wrap ((firstIn d.M.ns i:Int)+(m:Int))=(q:Int):=by
  rw[IntKind.wrap_i64,hq]
  omega
 have hpipe:d.M.pipe q=x:=pipe_get hx
 obtain⟨RES,hRES⟩:∃z,z=readS d.M i n q p:=⟨_,rfl⟩
 rw[<- hRES]
 have HH:Hid (RunM G w D r O d):=h
 have HS:Hid (Shape d.M):=hS
 have HN:Hid (d.M.ns[i]? = some n):=hn
 have HP:Hid (d.M.ps[i]? = some p):=hp
 have HSl:Hid (d.P[i]? = some s):=hs
 have HX:Hid (d.M.pipes[q]? = some x):=hx
 have HGM:Hid (p.got[m]? = some g):=hgm
 have HA:Hid (s.gs[m]? = some a):=ha
 have HGV:Hid (s.gv=.slice (some ⟨gG,0,none⟩) p.got.length cG):=hgv
 have HVP:Hid (d.vP=.slice (some ⟨gP,0,none⟩) d.M.ps.length cP):=hvP
 have HVX:Hid (d.vX=.slice (some ⟨gX,0,none⟩) d.M.pipes.length cX):=hvX
 have HM:Hid (p.pos=(m:Int)):=hm
 have HF:Hid (ProcF n p):=hF
 have HQ:Hid (q=firstIn d.M.ns i+m):=hq
 have HCK:Hid (pchk x=0):=hck
 have HRT:Hid (ROf w O (.pipe q) t x.b):=hRt
 have HFIT:Hid (FitsN n):=hfit
 have HSM:Hid (∀b∈p.out,b.length<=90000000):=hsm
 have HSK:Hid (d.M.sunk.length<=90000000):=hsk
 have HE:Hid (∀W,Below D w W->KnownE W):=hE
 have HT:Hid (p.got.flatten.length<=241192):=hT
 have HAT:Hid (p.at=g):=hat
 have HTX:Hid (d.X[q]? = some t):=ht
 have HRES:Hid (RES=if x.closed && x.b.isEmpty then (if p.pos+1=p.got.length then (d.M.setP i (fullP n d.M.fs ⟨p.got,p.pos+1,p.out,p.rd,p.ov⟩),0) else (d.M.setP i ⟨p.got,p.pos+1,p.out,p.rd,p.ov⟩,0)) else if x.b.isEmpty then (d.M,8) else (cameS (d.M.setX q ⟨x.b.drop 8,x.room,x.closed,x.shut⟩) i n q (p.setGot (g++x.b.take 8)),0)):=(show _=_ by rw[hRES];unfold readS;rw[hpipe,hat])
 have HPO:Hid _:=fun W=>pover_is t.1 x.b.length t.2 x.room x.closed x.shut W
 obtain⟨NP,hNP⟩:∃N,N=d.M.ps.length:=⟨_,rfl⟩
 obtain⟨NN,hNN⟩:∃N,N=d.M.ns.length:=⟨_,rfl⟩
 obtain⟨NX,hNX⟩:∃N,N=d.M.pipes.length:=⟨_,rfl⟩
 obtain⟨GL,hGL⟩:∃N,N=p.got.length:=⟨_,rfl⟩
 have HGL:Hid (GL=p.got.length):=hGL
 rw[<- hNP] at b3 hil hcP1
 rw[<- hNN] at b5 hcI1 hin
 rw[<- hNX] at b2 hcX1 hql h300
 rw[<- hGL] at p0 hcG1 hml
 obtain⟨FI,hFI⟩:∃z,z=firstIn d.M.ns i:=⟨_,rfl⟩
 rw[<- hFI] at i0 hqi hq
 unfold sl at x0
 obtain⟨ta,tc⟩:=t
 simp only at x0 HPO
 obtain⟨XL,hXL⟩:∃N,N=x.b.length:=⟨_,rfl⟩
 have HXL:Hid (XL=x.b.length):=hXL
 obtain⟨xr,hxr⟩:∃z,z=x.room:=⟨_,rfl⟩
 obtain⟨xc,hxc⟩:∃z,z=x.closed:=⟨_,rfl⟩
 obtain⟨xs,hxs⟩:∃z,z=x.shut:=⟨_,rfl⟩
 have HXV:Hid (xr=x.room/\xc=x.closed/\xs=x.shut):=⟨hxr,hxc,hxs⟩
 rw[<- hXL] at x0 HPO
 rw[<- hxr] at x1 HPO
 rw[<- hxc] at x2 HPO
 rw[<- hxs] at x3 HPO
 have hf300:FI<=300:=by omega
 clear h hS hn hp hs hx hgm ha hSa hgv hvP hvX hvI hOG hOP hOX hat hm hck hRt ht hfit hsm hsk hE hT hF hNP hNN hNX hGL hXL hxr hxc hxs hpipe hRES hGo hOo hgl hol hfP hfG hfX b0 b1 b4 b6 p2 p3 p4 hgX hgG hgP hFI hq g0
 go_enter Tryz.func121,Tryz.ntmps121
 go_wp2_with fail
 go_quiet (fail)
 go_wp2_with fail
 refine Calls.mono (HPO.out _) ?_
 rintro e w2 ⟨rfl,hb2⟩
 have hbw2:Below w.heap.size w w2:=(drewNE (n:=nq)).trans hb2
 have hR2:=RMem.below HH.out hbw2
 have HR2:Hid (RunM G w2 D r O d):=hR2
 have HB2:Hid (Below w.heap.size w w2):=hbw2
 have x0':=(hbw2.cell (bLt w _ x0)).trans x0
 have x1':=(hbw2.cell (bLt w _ x1)).trans x1
 have x2':=(hbw2.cell (bLt w _ x2)).trans x2
 have x3':=(hbw2.cell (bLt w _ x3)).trans x3
 obtain⟨gP2,cP2,s2,hvP2,_,_,_,hOP2,hs2,q0,q1,_,_,_,hfP2,_⟩:=RMem.procAt hR2 HP.out
 rw[HVP.out] at hvP2
 injection hvP2 with e1 e2 e3
 injection e1 with e1
 injection e1 with e1
 subst e1
 rw[HSl.out] at hs2
 injection hs2 with hs2
 subst hs2
 rw[HGV.out] at q0
 rw[HM.out] at q1
 have HOP2:Hid (O gP=some .procs):=hOP2
 rw[<- HGL.out] at q0
 clear hb2 hbw2 hR2 e2 e3 hOP2 HPO b2 b3 b5 p0 p1 x0 x1 x2 x3 i0 hqi
 by_cases hov:(xc && decide (XL=0))=true
 .
  have hxcT:xc=true:=by simp at hov;exact hov.1
  have hXL0:XL=0:=by simp at hov;exact hov.2
  have HR9:Hid (RES=if p.pos+1=p.got.length then (d.M.setP i (fullP n d.M.fs ⟨p.got,p.pos+1,p.out,p.rd,p.ov⟩),0) else (d.M.setP i ⟨p.got,p.pos+1,p.out,p.rd,p.ov⟩,0)):=(show _=_ by
   rw[HRES.out,if_pos]
   rw[<- HXV.out.2.1,hxcT]
   have:x.b=[]:=List.length_eq_zero_iff.1 (by rw[<- HXL.out];exact hXL0)
   rw[this]
   rfl)
  have hm1:IntKind.i64.wrap ((m:Int)+1)=(m:Int)+1:=by rw[IntKind.wrap_i64];omega
  have hset:=RMem.setNum HR2.out (p':=⟨p.got,p.pos+1,p.out,p.rd,p.ov⟩) (u:=.int .i64 ((m:Int)+1)) (k:=1) HP.out HSl.out HVP.out HOP2.out (by omega) (by unfold procRow;simp only[List.set_cons_succ,List.set_cons_zero];rw[HM.out]) rfl rfl
  have hBD:Below D w (w2.setCell ⟨gP,i*5+1,none⟩ (.int .i64 ((m:Int)+1))):=(HB2.out.mono HH.out.le).setCell (HR2.out.lo _ _ HOP2.out).1 _
  have HSET:Hid _:=hset
  have HBD:Hid _:=hBD
  have hf1:=hfP2 (i*5+1)
  have hFULL:p.pos+1=p.got.length -> ∀N,Calls Tryz.prog 120 #[.pointer (some ⟨r,0,none⟩),.int .i64 i] ((w2.setCell ⟨gP,i*5+1,none⟩ (.int .i64 ((m:Int)+1))).drewN N) fun e w'=>e=.returned (.int .i64 0)/\RunAt G w' D r (d.M.setP i (fullP n d.M.fs ⟨p.got,p.pos+1,p.out,p.rd,p.ov⟩))/\Below D w w':=by
   intro _ N
   have hsg:=HS.out.toG
   have hBN:Below D w ((w2.setCell ⟨gP,i*5+1,none⟩ (.int .i64 ((m:Int)+1))).drewN N):=hBD.trans drewNE
   have:=fullE_is D r O (d.setProc i ⟨p.got,p.pos+1,p.out,p.rd,p.ov⟩ s) i n ⟨p.got,p.pos+1,p.out,p.rd,p.ov⟩ _ (RMem.below hset (drewNE (n:=N))) ⟨hsg.gok,hsg.fok,by simpa[RD.setProc,SMach.setP] using hsg.plen⟩ HN.out (set_eq HP.out) HFIT.out (by have:=HT.out;show p.got.flatten.length<=_;omega) (fun b hb=>by have:=HSM.out b hb;omega) (fun W hW=>HE.out W (hBN.trans hW)) HF.out.olen HF.out.glen
   have e1:(d.setProc i ⟨p.got,p.pos+1,p.out,p.rd,p.ov⟩ s).M.setP i (fullP n d.M.fs ⟨p.got,p.pos+1,p.out,p.rd,p.ov⟩)=d.M.setP i (fullP n d.M.fs ⟨p.got,p.pos+1,p.out,p.rd,p.ov⟩):=by
    unfold RD.setProc SMach.setP
    simp only[List.set_set]
   have e2:(d.setProc i ⟨p.got,p.pos+1,p.out,p.rd,p.ov⟩ s).M.fs=d.M.fs:=rfl
   rw[e2,e1] at this
   refine this.mono ?_
   rintro e w' ⟨h1,h2,h3⟩
   exact⟨h1,h2,hBN.trans h3⟩
  have HFULL:Hid _:=hFULL
  rw[hov]
  clear hFULL hset hBD hfP2 HRES x0' x1' x2' x3' hov
  go_wp2_with fail
  go_quiet (fail)
  by_cases hl:m+1=GL
  .
   have hlI:p.pos+1=(p.got.length:Int):=by rw[HM.out,<- HGL.out];omega
   have HR10:Hid (RES=(d.M.setP i (fullP n d.M.fs ⟨p.got,p.pos+1,p.out,p.rd,p.ov⟩),0)):=(show _=_ by rw[HR9.out,if_pos hlI])
   have hlI':((m:Int)+1)=(GL:Int):=by omega
   have HF2:Hid _:=HFULL.out hlI
   rw[hlI'] at HF2
   clear HFULL HR9 hlI
   go_wp2_with fail
   refine Calls.mono (HF2.out _) ?_
   rintro e w5 ⟨rfl,hb5⟩
   have HEND:Hid _:=hb5
   clear hb5 HF2
   go_wp2_with fail
   go_ret
   rw[HR10.out]
   exact⟨rfl,HEND.out⟩
  .
   have hlI:¬p.pos+1=(p.got.length:Int):=by rw[HM.out,<- HGL.out];omega
   have HR10:Hid (RES=(d.M.setP i ⟨p.got,p.pos+1,p.out,p.rd,p.ov⟩,0)):=(show _=_ by rw[HR9.out,if_neg hlI])
   have hlI':¬((m:Int)+1)=(GL:Int):=by omega
   have HEND:Hid (∀N,RunAt G ((w2.setCell ⟨gP,i*5+1,none⟩ (.int .i64 ((m:Int)+1))).drewN N) D r (d.M.setP i ⟨p.got,p.pos+1,p.out,p.rd,p.ov⟩)/\Below D w ((w2.setCell ⟨gP,i*5+1,none⟩ (.int .i64 ((m:Int)+1))).drewN N)):=(show ∀N,_/\_ from fun N=>⟨⟨O,d.setProc i ⟨p.got,p.pos+1,p.out,p.rd,p.ov⟩ s,RMem.below HSET.out drewNE,rfl⟩,HBD.out.trans drewNE⟩)
   clear HFULL HR9 hlI
   go_wp2_with fail
   go_ret
   rw[HR10.out]
   exact⟨rfl,HEND.out _⟩
 .
  have hovF:(xc && decide (XL=0))=false:=by simpa using hov
  have HR9:Hid (RES=if x.b.isEmpty then (d.M,8) else (cameS (d.M.setX q ⟨x.b.drop 8,x.room,x.closed,x.shut⟩) i n q (p.setGot (g++x.b.take 8)),0)):=(show _=_ by
   rw[HRES.out,if_neg]
   rw[<- HXV.out.2.1]
   intro h
   rw[Bool.and_eq_true,List.isEmpty_iff] at h
   apply hov
   rw[h.1,HXL.out,h.2]
   rfl)
  have hRT2:ROf w2 O (.pipe q) (ta,tc) x.b:=HR2.out.part (.pipe q) x (ta,tc) HX.out HTX.out
  have hRD:=read_is ta tc x 8 w2 hRT2.1 hRT2.2.1
  rw[pread_eight HCK.out] at hRD
  unfold pipeV at hRD
  rw[<- HXL.out,<- HXV.out.1,<- HXV.out.2.1,<- HXV.out.2.2] at hRD
  have HRD:Hid _:=hRD
  rw[hovF]
  clear hRD hRT2 hfP2 HRES hov hovF q0 q1
  go_wp2_with fail
  refine Calls.mono HRD.out ?_
  rintro e w3 ⟨ar,cr,ab,cb,rfl,hPr,hPb,hb3⟩
  unfold pipeV
  simp only at hPr hPb ⊢
  have HB3:Hid (Below w2.heap.size w2 w3):=hb3
  have HPR:Hid (PB w2 w3 ar cr (x.b.drop 8)):=hPr
  have HPBb:Hid (PB w2 w3 ab cb (x.b.take 8)):=hPb
  obtain⟨DL,hDL⟩:∃z,z=(x.b.drop 8).length:=⟨_,rfl⟩
  obtain⟨TL,hTL⟩:∃z,z=(x.b.take 8).length:=⟨_,rfl⟩
  have HDL:Hid (DL=(x.b.drop 8).length):=hDL
  have HTL:Hid (TL=(x.b.take 8).length):=hTL
  rw[<- hDL,<- hTL]
  clear hDL hTL hPr hPb hb3 HRD
  by_cases he:x.b=[]
  .
   have hT0:TL=0:=by rw[HTL.out,he];rfl
   have HR10:Hid (RES=(d.M,8)):=(show _=_ by rw[HR9.out,he];rfl)
   have HEND:Hid (∀o,RunAt G (w3.alloc o) D r d.M/\Below D w (w3.alloc o)):=(show ∀o,_/\_ from fun o=>by
    have hR3:=RMem.below HR2.out HB3.out
    exact⟨⟨O,d,RMem.below hR3 boxE,rfl⟩,((HB2.out.mono HH.out.le).trans (HB3.out.mono HR2.out.le)).trans (boxE.mono hR3.le)⟩)
   subst hT0
   clear HR9 he
   go_wp2_with fail
   go_ret
   rw[HR10.out]
   exact⟨rfl,HEND.out _⟩
  .
   have hT0:¬TL=0:=by
    rw[HTL.out]
    intro h0
    rw[List.length_take] at h0
    have:=List.length_pos_iff.2 he
    omega
   have hT0':¬(TL:Int)=0:=by omega
   have hTL8:TL<=8:=by rw[HTL.out,List.length_take];omega
   have HR10:Hid (RES=(cameS (d.M.setX q ⟨x.b.drop 8,x.room,x.closed,x.shut⟩) i n q (p.setGot (g++x.b.take 8)),0)):=(show _=_ by
    rw[HR9.out,if_neg]
    rw[List.isEmpty_iff]
    exact he)
   have hR3:=RMem.fresh HR2.out HB3.out (.pipe q)
   have hROF:=rof_fresh (O:=O) (o:=.pipe q) HPR.out
   obtain⟨W4,hW4⟩:∃W,W=w3.alloc (.cells #[.slice ar DL cr,.int .i64 xr,.bool xc,.bool xs] 66):=⟨_,rfl⟩
   have hbox:W4.heap[w3.heap.size]? = some (.cells #[.slice ar DL cr,.int .i64 xr,.bool xc,.bool xs] 66 (0,0)):=by rw[hW4];exact heap_alloc_new _ _
   have hB34:Below w3.heap.size w3 W4:=by rw[hW4];exact boxE
   have hR4:=RMem.below hR3 hB34
   have hBD:Below D w W4:=(HB2.out.mono HH.out.le).trans ((HB3.out.mono HR2.out.le).trans (hB34.mono hR3.le))
   have hROF4:ROf W4 (addO O w2 w3 (.pipe q)) (.pipe q) (ar,cr) (x.b.drop 8):=hROF.keep (fun k' hk'=>hB34.block k' (hR3.lo k' _ hk').2) (fun _ _ _=>rfl)
   obtain⟨t4,ht4,_,y0,y1,y2,y3,gfX,gOX,gX4⟩:=RMem.atX hR4 HVX.out HX.out
   obtain⟨m0,m1,m2,m3⟩:=cells4P hbox
   have k1:=RMem.setPipe hR4 (x':=⟨x.b.drop 8,x.room,x.closed,x.shut⟩) (s':=(ar,cr)) HX.out HVX.out gOX hROF4
   obtain⟨W5,hW5⟩:∃W,W=((((W4.setCell ⟨gX,q*4,none⟩ (sl (x.b.drop 8) (ar,cr))).setCell ⟨gX,q*4+1,none⟩ (.int .i64 x.room)).setCell ⟨gX,q*4+2,none⟩ (.bool x.closed)).setCell ⟨gX,q*4+3,none⟩ (.bool x.shut)):=⟨_,rfl⟩
   rw[<- hW5] at k1
   have hDX:D<=gX:=(hR4.lo _ _ gOX).1
   have hgX2:gX<w2.heap.size:=by
    have:=(RMem.atX HR2.out HVX.out HX.out)
    obtain⟨_,_,_,_,_,_,_,_,_,h9⟩:=this
    exact h9
   have hBD5:Below D w W5:=by
    rw[hW5]
    exact (((hBD.setCell hDX _).setCell hDX _).setCell hDX _).setCell hDX _
   have hrb5:Reads W5 (.slice ab TL cb) TL ((x.b.take 8).map U):=by
    have h1:=HPBb.out.1
    rw[<- HTL.out] at h1
    refine reads_keepO (h1.below hB34) (fun a ha=>?_)
    have hne:a.block≠gX:=by
     have:=HPBb.out.2.1 a ha
     omega
    rw[hW5,Below.heap_setCell _ _ _ _ hne,Below.heap_setCell _ _ _ _ hne,Below.heap_setCell _ _ _ _ hne,Below.heap_setCell _ _ _ _ hne]
   have hR5d:=RMem.below k1 ((Below.refl _ W5).drew)
   have hP5:(d.setPipe q ⟨x.b.drop 8,x.room,x.closed,x.shut⟩ (ar,cr)).M.ps[i]? = some p:=HP.out
   have hS5:(d.setPipe q ⟨x.b.drop 8,x.room,x.closed,x.shut⟩ (ar,cr)).P[i]? = some s:=HSl.out
   obtain⟨gP5,cP5,s5,hvP5,_,_,hgP5,hOP5,hs5,r0,r1,_⟩:=RMem.procAt hR5d hP5
   rw[show (d.setPipe q ⟨x.b.drop 8,x.room,x.closed,x.shut⟩ (ar,cr)).vP=d.vP from rfl,HVP.out] at hvP5
   injection hvP5 with e1 e2 e3
   injection e1 with e1
   injection e1 with e1
   subst e1
   rw[hS5] at hs5
   injection hs5 with hs5
   subst hs5
   rw[HGV.out] at r0
   rw[HM.out] at r1
   obtain⟨gG5,cG5,a5,hgv5,_,_,hgG5,hOG5,ha5,hSa5,u0,hfG5⟩:=RMem.gotAt hR5d hP5 hS5 HGM.out
   rw[HGV.out] at hgv5
   injection hgv5 with e4 e5 e6
   injection e4 with e4
   injection e4 with e4
   subst e4
   have hrb5d:Reads W5.drew (.slice ab (x.b.take 8).length cb) (x.b.take 8).length ((x.b.take 8).map U):=by
    have:=hrb5.below ((Below.refl _ W5).drew)
    rw[HTL.out] at this
    exact this
   obtain⟨s7,w7,O7,hrun,hR7,hSo7,hTo7,hOold7⟩:=RMem.appendGot hR5d hP5 hS5 HGM.out ha5 hrb5d (by have h2:=flat_mem_le (mGt HGM.out);have:=HT.out;have:=HTL.out;omega) 28
   have hOG7:O7 gG=some (.gots i):=(hOold7 gG hgG5).trans hOG5
   have hset8:=RMem.setGot hR7 hP5 hS5 HGM.out HGV.out hOG7 hSo7
   have hblkP:=hTo7.block gP hgP5 (by rw[hOP5];exact fun e=>by cases e)
   have hblkG:=hTo7.block gG hgG5 (by rw[hOG5];exact fun e=>by cases e)
   have r0':w7.cell? ⟨gP,i*5,none⟩=some (.slice (some ⟨gG,0,none⟩) p.got.length cG):=by
    simp only[World.cell?] at r0 ⊢
    rw[hblkP]
    exact r0
   have r1':w7.cell? ⟨gP,i*5+1,none⟩=some (.int .i64 m):=by
    simp only[World.cell?] at r1 ⊢
    rw[hblkP]
    exact r1
   have hfG':w7.frozen? ⟨gG,m,none⟩=false:=by
    have h2:=hfG5 m
    simp only[World.frozen?] at h2 ⊢
    rw[hblkG]
    exact h2
   have u0':w7.cell? ⟨gG,m,none⟩=some (sl g a5):=by
    simp only[World.cell?] at u0 ⊢
    rw[hblkG]
    exact u0
   have r0d:W5.cell? ⟨gP,i*5,none⟩=some (.slice (some ⟨gG,0,none⟩) p.got.length cG):=r0
   have r1d:W5.cell? ⟨gP,i*5+1,none⟩=some (.int .i64 m):=r1
   have u0d:W5.cell? ⟨gG,m,none⟩=some (sl g a5):=u0
   obtain⟨W8,hW8⟩:∃W,W=w7.setCell ⟨gG,m,none⟩ (sl (g++x.b.take 8) s7):=⟨_,rfl⟩
   rw[<- hW8] at hset8
   have hBD8:Below D w W8:=by
    rw[hW8]
    exact (hBD5.trans (((Below.refl D W5).drew).trans (hTo7.below hR5d))).setCell (hR7.lo _ _ hOG7).1 _
   have hCAME:Calls Tryz.prog 170 #[.pointer (some ⟨r,0,none⟩),.int .i64 i] W8 fun e w'=>e=.returned (.int .i64 0)/\RunAt G w' D r RES.1/\Below D w w':=by
    have hgne:g++x.b.take 8≠[]:=by
     intro h0
     have:=congrArg List.length h0
     rw[List.length_append,<- HTL.out] at this
     simp at this
     omega
    have hxg:=pchk_parts HCK.out
    have hck8:pchk ⟨x.b.drop 8,x.room,x.closed,x.shut⟩=0:=by
     refine pchk_intro hxg.1 hxg.2.1 ?_ (fun e=>?_)
     . show ((x.b.drop 8).length:Int)<=plim x.room
       have:=hxg.2.2.1
       rw[List.length_drop]
       omega
     . show (x.b.drop 8).length=0
       have:=hxg.2.2.2 e
       rw[List.length_drop]
       omega
    have hS8:Shape ((d.setPipe q ⟨x.b.drop 8,x.room,x.closed,x.shut⟩ (ar,cr)).setProc i (SProc.gotSet p m (g++x.b.take 8)) (s.gotSet m s7)).M:=by
     refine HS.out.change HN.out (SProc.gotSet p m (g++x.b.take 8)) (d.M.pipes.set q ⟨x.b.drop 8,x.room,x.closed,x.shut⟩) d.M.sunk ?_ (by simp) (fun y hy=>?_)
     . exact⟨by unfold SProc.gotSet;simpa using HF.out.glen,HF.out.olen,HF.out.pos0,HF.out.pos1,HF.out.ovrd,HF.out.pos2⟩
     . rcases mem_set hy with rfl | hy
       . exact hck8
       . exact HS.out.pipe y hy
    have:=cameE_is D r O7 ((d.setPipe q ⟨x.b.drop 8,x.room,x.closed,x.shut⟩ (ar,cr)).setProc i (SProc.gotSet p m (g++x.b.take 8)) (s.gotSet m s7)) i q m n (SProc.gotSet p m (g++x.b.take 8)) ⟨x.b.drop 8,x.room,x.closed,x.shut⟩ (g++x.b.take 8) W8 hset8 hS8 HN.out (set_eq HP.out) HM.out (set_eq HGM.out) hgne HQ.out (set_eq HX.out) HFIT.out (by
     have:=flat_set_leE (b:=x.b.take 8) HGM.out
     have h2:=HT.out
     have h3:=HTL.out
     show (p.got.set m (g++x.b.take 8)).flatten.length<=_
     omega) HSM.out HSK.out (fun W hW=>HE.out W (hBD8.trans hW))
    refine this.mono ?_
    rintro e w' ⟨h1,h2,h3⟩
    refine⟨h1,?_,hBD8.trans h3⟩
    rw[HR10.out]
    have e1:cameS ((d.setPipe q ⟨x.b.drop 8,x.room,x.closed,x.shut⟩ (ar,cr)).setProc i (SProc.gotSet p m (g++x.b.take 8)) (s.gotSet m s7)).M i n q (SProc.gotSet p m (g++x.b.take 8))=cameS (d.M.setX q ⟨x.b.drop 8,x.room,x.closed,x.shut⟩) i n q (p.setGot (g++x.b.take 8)):=by
     have e2:p.setGot (g++x.b.take 8)=SProc.gotSet p m (g++x.b.take 8):=by
      unfold SProc.setGot SProc.gotSet
      rw[HM.out,Int.toNat_natCast]
     rw[e2]
     exact cameS_setP (d.M.setX q ⟨x.b.drop 8,x.room,x.closed,x.shut⟩) i n q _ _
    rw[e1] at h2
    exact h2
   have HCAME:Hid _:=hCAME
   have HRZ:Hid (RES.2=0):=(show _=_ by rw[HR10.out])
   have HRUN:Hid _:=hrun
   have fX0:=gfX (q*4)
   have fX1:=gfX (q*4+1)
   have fX2:=gfX (q*4+2)
   have fX3:=gfX (q*4+3)
   rw[<- HGL.out] at r0d r0'
   obtain⟨a5a,a5c⟩:=a5
   obtain⟨s7a,s7c⟩:=s7
   have hgbl:=reads_leP hSa5.reads
   unfold sl at y0 u0d u0' HRUN hW8
   simp only at y0 u0d u0' HRUN hW8 hgbl
   rw[<- HTL.out] at HRUN
   generalize ht4l:t4.1=ta4 at *
   generalize ht4c:t4.2=tc4 at *
   generalize g.length=BL at *
   generalize (g++x.b.take 8).length=NL at *
   rw[<- HXL.out] at y0
   rw[<- HXV.out.1] at y1
   rw[<- HXV.out.2.1] at y2
   rw[<- HXV.out.2.2] at y3
   unfold sl at hW5
   simp only at hW5
   rw[<- HDL.out,<- HXV.out.1,<- HXV.out.2.1,<- HXV.out.2.2] at hW5
   have HW5:Hid _:=hW5
   have HW8:Hid _:=hW8
   clear hCAME hset8 hBD8 hW5 hW8 hR7 hSo7 hTo7 hOold7 hrun hOG7 hR5d k1 hBD5 hBD hrb5 hrb5d hR3 hROF hROF4 hR4 hB34 hbox ht4 gfX gOX gX4 hDX hgX2 r0 r1 u0 hSa5 ha5 hfG5 hOG5 hgG5 hOP5 hgP5 hP5 hS5 hblkP hblkG e2 e3 e5 e6 HR10 HR9 he x0' x1' x2' x3' ht4l ht4c
   go_upto_region 13 with fail
   rw[<- hW4]
   clear hW4
   go_upto_region 14 with fail
   rw[<- HW5.out]
   clear HW5 y0 y1 y2 y3 fX0 fX1 fX2 fX3 m0 m1 m2 m3
   go_region_law (refine step_append_is rfl (.tmp 93) (.tmp 94) 28 rfl (.slice a5a BL a5c) (.slice ab TL cb) (by simp[Act.eval]) (by simp[Act.eval]) HRUN.out ?_)
   all_goals
    try rw[<- HW8.out]
    go_wp2_with fail
    refine Calls.mono HCAME.out ?_
    rintro e w9 ⟨rfl,hb9⟩
    have HEND:Hid _:=hb9
    clear hb9
    go_wp2_with fail
    go_ret
    rw[HRZ.out]
    exact⟨rfl,HEND.out⟩
end Go.Proofs.YtllgglolcgdehaaGreatDoor
namespace Go.Proofs.YtllgglolcgdehaaGreatDoor
open Go.RowKit Go.Gs Go.Maps
set_option linter.unusedVariables false
variable {G:World->(Nat->Option Own)->Prop}
structure SmallM (M:SMach):Prop where
 got:∀p∈M.ps,p.got.flatten.length<=241192
 out:∀p∈M.ps,∀b∈p.out,b.length<=90000000
 sunk:M.sunk.length<=90000000
theorem stepE_is (D r:Nat) (O:Nat->Option Own) (d:RD) (i:Int) (w:World) (h:RunM G w D r O d) (hS:Shape d.M) (hfit:∀n∈d.M.ns,FitsN n) (hsm:SmallM d.M) (hE:∀W,Below D w W->KnownE W) :
 Calls Tryz.prog 57 #[.pointer (some ⟨r,0,none⟩),.int .i64 i] w fun e w'=>e=.returned (.int .i64 (stepS d.M i).2)/\RunAt G w' D r (stepS d.M i).1/\Below D w w':=by
 obtain⟨b0,b1,b2,b3,b4,b5,b6⟩:=cells7 h.box.1
 have hps0:0<d.M.ps.length:=by rw[hS.plen];exact hS.g.pos
 have HEND0:Hid (RunAt G w D r d.M):=(show RunAt G w D r d.M from ⟨O,d,h,rfl⟩)
 obtain⟨gP,cP,hvP,hcP1,hcP2⟩:∃g c,d.vP=.slice (some ⟨g,0,none⟩) d.M.ps.length c/\d.M.ps.length<=c/\c<=9223372036854775807:=by
  obtain⟨g,c,s,h1,h2,h3,_⟩:=h.procAt (gEl hps0)
  exact⟨g,c,h1,h2,h3⟩
 rw[hvP] at b3
 by_cases hbad:i<0\/(d.M.ps.length:Int)<=i
 .
  have HR:Hid (stepS d.M i=(d.M,5)):=(show _=_ by unfold stepS;rw[if_pos hbad])
  rw[HR.out]
  generalize d.M.ps.length=NP at *
  clear h hS hfit hsm hE hvP b0 b1 b2 b4 b5 b6 HR
  by_cases hneg:i<0
  . clear hbad
    go_enter Tryz.func57,Tryz.ntmps57
    go_wp2_with fail
    go_ret
    exact⟨rfl,HEND0.out,Below.refl _ _⟩
  .
   have hge:(NP:Int)<=i:=by omega
   clear hbad
   go_enter Tryz.func57,Tryz.ntmps57
   go_wp2_with fail
   go_ret
   exact⟨rfl,HEND0.out,Below.refl _ _⟩
 .
  obtain⟨k,rfl⟩:∃k:Nat,i=(k:Int):=Int.eq_ofNat_of_zero_le (by omega)
  have hkl:k<d.M.ps.length:=by omega
  obtain⟨p,hp⟩:∃p,d.M.ps[k]? = some p:=⟨_,gEl hkl⟩
  obtain⟨n,hn⟩:∃n,d.M.ns[k]? = some n:=⟨_,gEl (by rw[<- hS.plen];exact hkl)⟩
  have hstep:stepS d.M (k:Int)=stepP d.M k n p:=by
   unfold stepS
   rw[if_neg hbad,Int.toNat_natCast]
   unfold stepN
   rw[hn,hp]
  rw[hstep]
  have hF:=hS.proc k n p hn hp
  obtain⟨gP2,cP2,s,hvP2,_,_,hgP,hOP,hs,p0,p1,p2,p3,p4,hfP,hGo,hOo,hgl,hol⟩:=h.procAt hp
  rw[hvP] at hvP2
  injection hvP2 with e1 e2 e3
  injection e1 with e1
  injection e1 with e1
  subst e1
  have HH:Hid (RunM G w D r O d):=h
  obtain⟨RES,hRES⟩:∃z,z=stepP d.M k n p:=⟨_,rfl⟩
  rw[<- hRES]
  unfold stepP at hRES
  cases hov:p.ov with
  | true=>
   rw[if_pos hov] at hRES
   have HR:Hid (RES=(d.M,7)):=hRES
   rw[hov] at p4
   generalize d.M.ps.length=NP at *
   clear h hS hfit hsm hE hvP b0 b1 b2 b4 b5 b6 hRES hstep hF hbad hn hp hs p0 p1 p2 p3 hfP hGo hOo hgl hol hOP e2 e3 hov hgP
   go_enter Tryz.func57,Tryz.ntmps57
   go_wp2_with fail
   go_ret
   rw[HR.out]
   exact⟨rfl,HEND0.out,Below.refl _ _⟩
  | false=>
   rw[if_neg (by simp[hov])] at hRES
   rw[hov] at p4
   obtain⟨⟨ao,co,hovv,hov1,hov2⟩,_⟩:=owns_formE hOo
   have hCF:=anySome_is ao co p.out w (by have:=h.outs hp hs;rwa [hovv] at this)
   rw[hovv] at p2
   have HCF:Hid _:=hCF
   by_cases hany:p.out.any (fun b=>!b.isEmpty)=true
   .
    rw[if_pos hany] at hRES
    rw[hany] at HCF
    have HW:Hid (∀W,Below w.heap.size w W->Calls Tryz.prog 118 #[.pointer (some ⟨r,0,none⟩),.int .i64 k] W fun e w'=>e=.returned (.int .i64 RES.2)/\RunAt G w' D r RES.1/\Below D w w'):=(show ∀W,Below w.heap.size w W->Calls Tryz.prog 118 #[.pointer (some ⟨r,0,none⟩),.int .i64 k] W fun e w'=>e=.returned (.int .i64 RES.2)/\RunAt G w' D r RES.1/\Below D w w' from fun W hW=>by
     rw[hRES]
     refine (writeE_is D r O d k n p W (RMem.below h hW) hS hn hp).mono ?_
     rintro e w' ⟨h1,h2,h3⟩
     exact⟨h1,h2,(hW.mono h.le).trans h3⟩)
    generalize d.M.ps.length=NP at *
    generalize p.out.length=OL at *
    clear h hS hfit hsm hE hvP b0 b1 b2 b4 b5 b6 hRES hstep hF hbad hn hp hs p0 p1 p3 hfP hGo hOo hgl hol hOP e2 e3 hov hgP hovv hov1 hov2 hCF hany
    go_enter Tryz.func57,Tryz.ntmps57
    go_wp2_with fail
    refine Calls.mono HCF.out ?_
    rintro e w2 ⟨rfl,hb2⟩
    go_wp2_with fail
    refine Calls.mono (HW.out _ hb2) ?_
    rintro e w3 ⟨rfl,hb3⟩
    have HB3:Hid _:=hb3
    clear hb3
    go_wp2_with fail
    go_ret
    exact⟨rfl,HB3.out⟩
   .
    have hanyF:p.out.any (fun b=>!b.isEmpty)=false:=by simpa using hany
    rw[if_neg hany] at hRES
    rw[hanyF] at HCF
    cases hrd:p.rd with
    | true=>
     rw[if_pos hrd] at hRES
     rw[hrd] at p3
     have HW:Hid (∀W,Below w.heap.size w W->Calls Tryz.prog 119 #[.pointer (some ⟨r,0,none⟩),.int .i64 k] W fun e w'=>e=.returned (.int .i64 RES.2)/\RunAt G w' D r RES.1/\Below D w w'):=(show ∀W,Below w.heap.size w W->Calls Tryz.prog 119 #[.pointer (some ⟨r,0,none⟩),.int .i64 k] W fun e w'=>e=.returned (.int .i64 RES.2)/\RunAt G w' D r RES.1/\Below D w w' from fun W hW=>by
      rw[hRES]
      refine (endE_is D r O d k n p W (RMem.below h hW) hS hn hp).mono ?_
      rintro e w' ⟨h1,h2,h3⟩
      exact⟨h1,h2,(hW.mono h.le).trans h3⟩)
     generalize d.M.ps.length=NP at *
     generalize p.out.length=OL at *
     clear h hS hfit hsm hE hvP b0 b1 b2 b4 b5 b6 hRES hstep hF hbad hn hp hs p0 p1 hfP hGo hOo hgl hol hOP e2 e3 hov hgP hovv hov1 hov2 hCF hany hanyF hrd
     go_enter Tryz.func57,Tryz.ntmps57
     go_wp2_with fail
     refine Calls.mono HCF.out ?_
     rintro e w2 ⟨rfl,hb2⟩
     have p3':=(hb2.cell (bLt w _ p3)).trans p3
     go_wp2_with fail
     refine Calls.mono (HW.out _ hb2) ?_
     rintro e w3 ⟨rfl,hb3⟩
     have HB3:Hid _:=hb3
     clear hb3
     go_wp2_with fail
     go_ret
     exact⟨rfl,HB3.out⟩
    | false=>
     rw[if_neg (by simp[hrd])] at hRES
     rw[hrd] at p3
     obtain⟨⟨ag,cg,hgv,hgv1,hgv2⟩,_⟩:=owns_formE hGo
     rw[hgv] at p0
     have hch:=hS.g.node n (mGt hn)
     by_cases hgot:p.got.isEmpty=true
     .
      have hgot0:p.got=[]:=List.isEmpty_iff.1 hgot
      rw[if_pos hgot] at hRES
      have hgl0:p.got.length=0:=by rw[hgot0];rfl
      have HW:Hid (∀W,Below w.heap.size w W->Calls Tryz.prog 120 #[.pointer (some ⟨r,0,none⟩),.int .i64 k] W fun e w'=>e=.returned (.int .i64 RES.2)/\RunAt G w' D r RES.1/\Below D w w'):=(show ∀W,Below w.heap.size w W->Calls Tryz.prog 120 #[.pointer (some ⟨r,0,none⟩),.int .i64 k] W fun e w'=>e=.returned (.int .i64 RES.2)/\RunAt G w' D r RES.1/\Below D w w' from fun W hW=>by
       rw[hRES]
       refine (fullE_is D r O d k n p W (RMem.below h hW) hS.toG hn hp (hfit n (mGt hn)) (by have:=hsm.got p (mGt hp);omega) (fun b hb=>by have:=hsm.out p (mGt hp) b hb;omega) (fun V hV=>hE V ((hW.mono h.le).trans hV)) hF.olen hF.glen).mono ?_
       rintro e w' ⟨h1,h2,h3⟩
       exact⟨h1,h2,(hW.mono h.le).trans h3⟩)
      rw[hgl0] at p0
      generalize d.M.ps.length=NP at *
      generalize p.out.length=OL at *
      clear h hS hfit hsm hE hvP b0 b1 b2 b4 b5 b6 hRES hstep hF hbad hn hp hs p1 hfP hGo hOo hgl hol hOP e2 e3 hov hgP hovv hov1 hov2 hCF hany hanyF hrd hch hgot hgot0 hgl0 hgv hgv1 hgv2
      go_enter Tryz.func57,Tryz.ntmps57
      go_wp2_with fail
      refine Calls.mono HCF.out ?_
      rintro e w2 ⟨rfl,hb2⟩
      have p3':=(hb2.cell (bLt w _ p3)).trans p3
      have p0':=(hb2.cell (bLt w _ p0)).trans p0
      go_wp2_with fail
      refine Calls.mono (HW.out _ hb2) ?_
      rintro e w3 ⟨rfl,hb3⟩
      have HB3:Hid _:=hb3
      clear hb3
      go_wp2_with fail
      go_ret
      exact⟨rfl,HB3.out⟩
     .
      rw[if_neg hgot] at hRES
      have hg0:n.ins.length≠0:=by
       intro e
       rw[<- hF.glen] at e
       exact hgot (List.isEmpty_iff.2 (List.length_eq_zero_iff.1 e))
      have hposl:=hF.pos2 hrd hg0
      have hpos0:=hF.pos0
      have hglen:=hF.glen
      obtain⟨m,hm⟩:∃m:Nat,p.pos=(m:Int):=Int.eq_ofNat_of_zero_le hpos0
      have hml:m<p.got.length:=by omega
      have hqx:firstIn d.M.ns k+m<d.M.pipes.length:=by rw[hS.xlen];exact allIns_len hn (by omega)
      have HW:Hid (∀W,Below w.heap.size w W->Calls Tryz.prog 121 #[.pointer (some ⟨r,0,none⟩),.int .i64 k] W fun e w'=>e=.returned (.int .i64 RES.2)/\RunAt G w' D r RES.1/\Below D w w'):=(show ∀W,Below w.heap.size w W->Calls Tryz.prog 121 #[.pointer (some ⟨r,0,none⟩),.int .i64 k] W fun e w'=>e=.returned (.int .i64 RES.2)/\RunAt G w' D r RES.1/\Below D w w' from fun W hW=>by
       rw[hRES,hm,Int.toNat_natCast]
       refine (readE_is D r O d k (firstIn d.M.ns k+m) m n p _ _ W (RMem.below h hW) hS hn hp hm (gEl hml) rfl (gEl hqx) (hfit n (mGt hn)) (hsm.got p (mGt hp)) (hsm.out p (mGt hp)) hsm.sunk (fun V hV=>hE V ((hW.mono h.le).trans hV))).mono ?_
       rintro e w' ⟨h1,h2,h3⟩
       exact⟨h1,h2,(hW.mono h.le).trans h3⟩)
      have hGL:¬p.got.length=0:=by omega
      obtain⟨GL,hGLe⟩:∃z,z=p.got.length:=⟨_,rfl⟩
      rw[<- hGLe] at p0 hGL
      generalize d.M.ps.length=NP at *
      generalize p.out.length=OL at *
      clear h hS hfit hsm hE hvP b0 b1 b2 b4 b5 b6 hRES hstep hF hbad hn hp hs p1 hfP hGo hOo hgl hol hOP e2 e3 hov hgP hovv hov1 hov2 hCF hany hanyF hrd hch hgot hgv hgv1 hgv2 hg0 hposl hpos0 hglen hm hml hqx hGLe
      go_enter Tryz.func57,Tryz.ntmps57
      go_wp2_with fail
      refine Calls.mono HCF.out ?_
      rintro e w2 ⟨rfl,hb2⟩
      have p3':=(hb2.cell (bLt w _ p3)).trans p3
      have p0':=(hb2.cell (bLt w _ p0)).trans p0
      go_wp2_with fail
      refine Calls.mono (HW.out _ hb2) ?_
      rintro e w3 ⟨rfl,hb3⟩
      have HB3:Hid _:=hb3
      clear hb3
      go_wp2_with fail
      go_ret
      exact⟨rfl,HB3.out⟩
end Go.Proofs.YtllgglolcgdehaaGreatDoor
