/- What the developers' write and end do, and more. -/
import Derived.Deep.RegionHeld3
import Derived.Test.YtllgglolcgdehaaGreatDoorXa07
set_option maxRecDepth 100000
set_option maxHeartbeats 16000000
namespace Go.Proofs.YtllgglolcgdehaaGreatDoor
open Go.RowKit Go.Gs Go.Maps
set_option linter.unusedVariables false
variable {G:World->(Nat->Option Own)->Prop}
theorem pipe_get {M:SMach} {q:Nat} {x:SPipe} (h:M.pipes[q]? = some x):M.pipe q=x:=by unfold SMach.pipe;rw[h];rfl
theorem RMem.formX {w:World} {D r:Nat} {O:Nat->Option Own} {A:World->(Nat->Option Own)->Prop} {d:RD} (h:RMem w D r O A d) (h0:0<d.M.pipes.length):∃g c,d.vX=.slice (some ⟨g,0,none⟩) d.M.pipes.length c/\d.M.pipes.length<=c/\c<=9223372036854775807/\O g=some .pipes:=by
 obtain⟨g,c,s,h1,h2,h3,h4,h5,_⟩:=h.pipeAt (gEl h0)
 exact⟨g,c,h1,h2,h3,h5⟩
theorem RMem.atX {w:World} {D r:Nat} {O:Nat->Option Own} {A:World->(Nat->Option Own)->Prop} {d:RD} (h:RMem w D r O A d) {g c q:Nat} {x:SPipe} (hv:d.vX=.slice (some ⟨g,0,none⟩) d.M.pipes.length c) (hx:d.M.pipes[q]? = some x) :
 ∃s,d.X[q]? = some s/\ROf w O (.pipe q) s x.b/\w.cell? ⟨g,q*4,none⟩=some (sl x.b s)/\w.cell? ⟨g,q*4+1,none⟩=some (.int .i64 x.room)/\w.cell? ⟨g,q*4+2,none⟩=some (.bool x.closed)/\w.cell? ⟨g,q*4+3,none⟩=some (.bool x.shut)/\(∀j,w.frozen? ⟨g,j,none⟩=false)/\O g=some .pipes/\g<w.heap.size:=by
 obtain⟨g',c',s,h1,h2,h3,h4,h5,h6,h7,h8⟩:=h.pipeAt hx
 rw[hv] at h1
 injection h1 with e1
 injection e1 with e1
 injection e1 with e1
 subst e1
 exact⟨s,h6,h7,h8.1,h8.2.1,h8.2.2.1,h8.2.2.2.1,h8.2.2.2.2,h5,h4⟩
theorem Shape.pipes0 {M:SMach} (hS:Shape M):0<M.pipes.length:=by
 rw[hS.xlen]
 obtain⟨nl,po,hnl,_,hi⟩:=hS.g.last
 have:=allIns_len hnl (j:=0) (by rw[hi];simp)
 omega
theorem RunAt.drew {w:World} {D r:Nat} {M:SMach} (h:RunAt G w D r M):RunAt G w.drew D r M:=by
 obtain⟨O,d,h1,h2⟩:=h
 exact⟨O,d,RMem.below h1 ((Below.refl _ w).drew),h2⟩
def addO (O:Nat->Option Own) (w w':World) (o:Own) (k:Nat):Option Own:=if w.heap.size<=k/\k<w'.heap.size then some o else O k
theorem RMem.fresh {w w':World} {D r:Nat} {O:Nat->Option Own} {A:World->(Nat->Option Own)->Prop} {d:RD} (h:RMem w D r O A d) (hb:Below w.heap.size w w') (o:Own):RMem w' D r (addO O w w' o) A d:=by
 refine h.grow hb (fun k hk=>by unfold addO;rw[if_neg (by omega)]) (fun g o' hg hge=>?_)
 unfold addO at hg
 by_cases e:w.heap.size<=g/\g<w'.heap.size
 . exact e.2
 . rw[if_neg e] at hg
   exact absurd (h.lo g o' hg).2 (by omega)
theorem rof_fresh {w w':World} {O:Nat->Option Own} {o:Own} {ar:Option Addr} {cr:Nat} {b:List UInt8} (h:PB w w' ar cr b):ROf w' (addO O w w' o) o (ar,cr) b:=by
 refine⟨h.1,h.2.2,fun h0 a ha=>?_⟩
 have h1:=h.2.1 a ha
 have h2:a.block<w'.heap.size:=by
  obtain⟨_,ao,cap,e,_,_,h4⟩:=h.1
  obtain⟨b',off,e2,hc⟩:=h4 (fun e=>h0 (List.length_eq_zero_iff.1 e))
  injection e with e1
  rw[show ar=some a from ha] at e1
  rw[<- e1] at e2
  injection e2 with e2
  subst e2
  have hl:0<(b.map U).length:=by rw[List.length_map];exact List.length_pos_iff.2 h0
  exact bLt w' _ (hc 0 _ (gEl hl))
 unfold addO
 rw[if_pos ⟨h1,h2⟩]
theorem writeE_is (D r:Nat) (O:Nat->Option Own) (d:RD) (i:Nat) (n:SNode) (p:SProc) (w:World) (h:RunM G w D r O d) (hS:Shape d.M) (hn:d.M.ns[i]? = some n) (hp:d.M.ps[i]? = some p) :
 Calls Tryz.prog 118 #[.pointer (some ⟨r,0,none⟩),.int .i64 i] w fun e w'=>e=.returned (.int .i64 (writeS d.M i p 0 p.out).2)/\RunAt G w' D r (writeS d.M i p 0 p.out).1/\Below D w w':=by
 have hg:=hS.g
 have hF:=hS.proc i n p hn hp
 obtain⟨gP,cP,s,hvP,hcP1,hcP2,hgP,hOP,hs,p0,p1,p2,p3,p4,hfP,hGo,hOo,hgl,hol⟩:=h.procAt hp
 obtain⟨⟨ao,co,hov,hov1,hov2⟩,hne⟩:=owns_formE hOo
 have hx0:=Shape.pipes0 hS
 obtain⟨gX,cX,hvX,hcX1,hcX2,hOX⟩:=h.formX hx0
 have hil:i<d.M.ps.length:=(gSm hp).1
 obtain⟨b0,b1,b2,b3,b4,b5,b6⟩:=cells7 h.box.1
 rw[hvP] at b3
 rw[hov] at p2
 have hov2':co<=9223372036854775807:=by unfold maxLen at hov2;exact hov2
 have HH:Hid (RunM G w D r O d):=h
 have HS:Hid (Shape d.M):=hS
 have HN:Hid (d.M.ns[i]? = some n):=hn
 have HP:Hid (d.M.ps[i]? = some p):=hp
 have HSl:Hid (d.P[i]? = some s):=hs
 have HVX:Hid (d.vX=.slice (some ⟨gX,0,none⟩) d.M.pipes.length cX):=hvX
 have HCX:Hid (d.M.pipes.length<=cX/\cX<=9223372036854775807):=⟨hcX1,hcX2⟩
 have HOV:Hid (s.ov=.slice ao p.out.length co):=hov
 have HF:Hid (ProcF n p):=hF
 obtain⟨NL,hNL⟩:∃N,N=p.out.length:=⟨_,rfl⟩
 have HNL:Hid (NL=p.out.length):=hNL
 obtain⟨NP,hNP⟩:∃N,N=d.M.ps.length:=⟨_,rfl⟩
 rw[<- hNL] at p2 hov1
 rw[<- hNP] at b3 hil hcP1
 obtain⟨RES,hRES⟩:∃z,z=writeS d.M i p 0 p.out:=⟨_,rfl⟩
 rw[<- hRES]
 have HRES:Hid (RES=writeS d.M i p 0 (p.out.drop 0)):=(show _=_ by rw[hRES];rfl)
 clear h hS hn hp hs hvX hcX1 hcX2 hov hF hNL hNP hg hgP hOP p0 p1 p3 p4 hfP hGo hOo hgl hol hne hov2 b0 b1 b2 b4 b5 b6 hx0 hvP hRES hOX
 go_enter Tryz.func118,Tryz.ntmps118
 go_wp2_with fail
 go_loopw [23] (fun z wr=>∃k:Nat,k<=NL/\z=.int .i64 k/\Hid (Below w.heap.size w wr)/\Hid (RES=writeS d.M i p k (p.out.drop k))) (fun z _=>NL-(intOf z).toNat)
 case atStart=>exact⟨0,Nat.zero_le _,rfl,Below.refl _ _,HRES⟩
 case round=>
  obtain⟨k,hk,rfl,hbel,hres⟩:=hrel
  clear HRES
  by_cases hlt:k<NL
  .
   obtain⟨b,hb⟩:∃b,p.out[k]? = some b:=⟨_,gEl (by have:=HNL.out;omega)⟩
   have HBb:Hid (p.out[k]? = some b):=hb
   have hR:=RMem.below HH.out hbel.out
   have HRr:Hid (RunM G wr D r O d):=hR
   obtain⟨gO,cO,a,eO,hcO1,hcO2,hgO,hOO,ha,hSa,hcO,hfO⟩:=RMem.outAt hR HP.out HSl.out hb
   have HA:Hid (s.os[k]? = some a):=ha
   have HSA:Hid (SOf wr O (.out i k) a b):=hSa
   rw[HOV.out] at eO
   injection eO with eO1 eO2 eO3
   subst eO1 eO3
   have HOV2:Hid (s.ov=.slice (some ⟨gO,0,none⟩) p.out.length co):=HOV.out
   have HOO:Hid (O gO=some (.outs i)):=hOO
   have hkn:(k:Int)<nouts n:=by have:=HF.out.olen;have:=HNL.out;omega
   obtain⟨q,hq⟩:∃q,q=intoOf d.M.ns ((i:Int),(k:Int)):=⟨_,rfl⟩
   obtain⟨r',j',n',hn',hj',_,hinto,hql⟩:=HS.out.g.reader HN.out hkn
   have hqx:q<d.M.pipes.length:=by rw[hq,HS.out.xlen,hinto];exact hql
   have HPO:Hid _:=pipeOf_is D r O d i k q gX cX n wr hR HS.out.g HN.out hkn HS.out.xlen hq HVX.out HCX.out
   obtain⟨x,hx⟩:∃x,d.M.pipes[q]? = some x:=⟨_,gEl hqx⟩
   have HX:Hid (d.M.pipes[q]? = some x):=hx
   have HQ:Hid (q=intoOf d.M.ns ((i:Int),(k:Int))):=hq
   have hres2:RES=if 0<(pwrite x b).2.1 then ((d.M.setX q (pwrite x b).1).setP i (p.setOut k (b.drop (pwrite x b).2.1)),0) else writeS d.M i p (k+1) (p.out.drop (k+1)):=by
    have hdr:p.out.drop k=b::p.out.drop (k+1):=by
     rw[List.drop_eq_getElem_cons (gSm hb).1]
     congr 1
     rw[gEl (gSm hb).1] at hb
     injection hb
    rw[hres.out,hdr,writeS,<- hq,pipe_get hx]
   have HRES2:Hid (RES=if 0<(pwrite x b).2.1 then ((d.M.setX q (pwrite x b).1).setP i (p.setOut k (b.drop (pwrite x b).2.1)),0) else writeS d.M i p (k+1) (p.out.drop (k+1))):=hres2
   have HPG:Hid (0<(pwrite x b).2.1->(pwrite x b).2.1<=b.length):=(show 0<(pwrite x b).2.1->(pwrite x b).2.1<=b.length from fun h0=>(pwrite_good (HS.out.pipe x (mGt hx)) h0).2.1)
   have hbl:=reads_leP hSa.reads
   clear hb hR ha hSa hOO hq hn' hj' hinto hql hx hres hres2 hqx hkn
   unfold sl at hcO
   obtain⟨BL,hBL⟩:∃N,N=b.length:=⟨_,rfl⟩
   have HBL:Hid (BL=b.length):=hBL
   obtain⟨aa,ca⟩:=a
   simp only at hcO hbl
   rw[<- hBL] at hcO hbl
   clear hBL
   go_wp2_with fail
   refine Calls.mono HPO.out ?_
   rintro e w2 ⟨rfl,hb2⟩
   have hR2:=RMem.below HRr.out hb2
   have HR2:Hid (RunM G w2 D r O d):=hR2
   obtain⟨t,ht,hRt,x0,x1,x2,x3,hfX,hOX,hgX⟩:=RMem.atX hR2 HVX.out HX.out
   have HT:Hid (d.X[q]? = some t):=ht
   have HRT:Hid (ROf w2 O (.pipe q) t x.b):=hRt
   have HB2:Hid (Below w.heap.size w w2):=hbel.out.trans (hb2.mono hbel.out.size)
   have HB2':Hid (Below wr.heap.size wr w2):=hb2
   have HSA2:Hid (SOf w2 O (.out i k) (aa,ca) b):=SOf.keep HSA.out (fun k' hk'=>hb2.block k' (HRr.out.lo k' _ hk').2) (fun _ _=>rfl)
   have hcO':=(hb2.cell (bLt wr _ hcO)).trans hcO
   have HWR:Hid _:=write_is t.1 aa t.2 ca x b w2 hRt.1 HSA2.out.reads
   have HOX:Hid (O gX=some .pipes):=hOX
   unfold pipeV at HWR
   unfold sl at x0
   rw[<- HBL.out] at HWR
   clear hb2 hR2 ht hRt HPO hcO hOX
   generalize x.b.length=XL at *
   generalize x.room=xr at *
   generalize x.closed=xc at *
   generalize x.shut=xs at *
   obtain⟨ta,tc⟩:=t
   simp only at x0 HWR
   go_wp2_with fail
   refine Calls.mono HWR.out ?_
   rintro e w3 ⟨ar,cr,rfl,hPB,hb3⟩
   obtain⟨Z,hZ⟩:∃Z,Z=pwrite x b:=⟨_,rfl⟩
   rw[<- hZ] at hPB HRES2 HPG ⊢
   obtain⟨X',cnt,err⟩:=Z
   obtain⟨xb',xr',xc',xs'⟩:=X'
   have HPB:Hid (PB w2 w3 ar cr xb'):=hPB
   have HB3:Hid (Below w2.heap.size w2 w3):=hb3
   have hcO3:=(hb3.cell (bLt w2 _ hcO')).trans hcO'
   have g3:gO<w3.heap.size:=bLt w3 _ hcO3
   simp only at HRES2 HPG
   clear hZ hPB HWR
   unfold pipeV
   simp only
   generalize hXL':xb'.length=XL'
   by_cases hcnt:0<cnt
   .
    have hcb:=HPG.out hcnt
    have HR9:Hid (RES=((d.M.setX q ⟨xb',xr',xc',xs'⟩).setP i (p.setOut k (b.drop cnt)),0)):=(show _=_ by rw[HRES2.out,if_pos hcnt])
    rw[<- HBL.out] at hcb
    clear HRES2 HPG
    have hcnt':(0:Int)<(cnt:Int):=by omega
    have hR3:=RMem.fresh HR2.out HB3.out (.pipe q)
    have hROF:=rof_fresh (O:=O) (o:=.pipe q) HPB.out
    have hR4:=RMem.below hR3 (boxE (w:=w3) (o:=.cells #[.slice ar XL' cr,.int .i64 xr',.bool xc',.bool xs'] 66))
    obtain⟨W4,hW4⟩:∃W,W=w3.alloc (.cells #[.slice ar XL' cr,.int .i64 xr',.bool xc',.bool xs'] 66):=⟨_,rfl⟩
    have hbox:W4.heap[w3.heap.size]? = some (.cells #[.slice ar XL' cr,.int .i64 xr',.bool xc',.bool xs'] 66 (0,0)):=by rw[hW4];exact heap_alloc_new _ _
    have hB34:Below w3.heap.size w3 W4:=by rw[hW4];exact boxE
    rw[<- hW4] at hR4
    have hBD:Below D w W4:=(hbel.out.mono HH.out.le).trans ((HB2'.out.mono (by have:=HRr.out.le;exact this)).trans ((HB3.out.mono (by have:=HR2.out.le;exact this)).trans (hB34.mono (by have:=hR3.le;exact this))))
    have hROF4:ROf W4 (addO O w2 w3 (.pipe q)) (.pipe q) (ar,cr) xb':=hROF.keep (fun k' hk'=>hB34.block k' (hR3.lo k' _ hk').2) (fun _ _ _=>rfl)
    obtain⟨t4,ht4,_,y0,y1,y2,y3,gfX,gOX,gX4⟩:=RMem.atX hR4 HVX.out HX.out
    obtain⟨gO4,cO4,a4,eO4,_,_,gO5,oO4,ha4,hSa4,z0,zf⟩:=RMem.outAt hR4 HP.out HSl.out HBb.out
    rw[HA.out] at ha4
    injection ha4 with ha4
    subst ha4
    rw[HOV2.out] at eO4
    injection eO4 with eO4
    injection eO4 with eO4
    injection eO4 with eO4
    subst eO4
    obtain⟨m0,m1,m2,m3⟩:=cells4P hbox
    rcases id hSa4 with ⟨hnil,hbn⟩ | ⟨g1,off1,cur1,hs1,ho1,hg1,hl1,hl2,hl3,hl4⟩
    . exfalso
      rw[hbn] at HBL
      have:=HBL.out
      simp at this
      omega
    .
     simp only at hs1 hl1 hl2 hl3
     subst hs1
     have HR4:Hid _:=hR4
     have HROF4:Hid _:=hROF4
     have HSa4:Hid _:=hSa4
     have HBD:Hid (Below D w W4):=hBD
     have HgOX:Hid _:=gOX
     have HoO4:Hid _:=oO4
     have hl2':ca<=9223372036854775807:=by unfold maxLen at hl2;exact hl2
     rw[<- HBL.out] at hl1
     have hEND:∀(s':Sl) (v:Value),v=sl (b.drop cnt) s'->SOf W4 (addO O w2 w3 (.pipe q)) (.out i k) s' (b.drop cnt) ->
      RunAt G (((((W4.setCell ⟨gX,q*4,none⟩ (.slice ar XL' cr)).setCell ⟨gX,q*4+1,none⟩ (.int .i64 xr')).setCell ⟨gX,q*4+2,none⟩ (.bool xc')).setCell ⟨gX,q*4+3,none⟩ (.bool xs')).setCell ⟨gO,k,none⟩ v).drew D r RES.1 /\
      Below D w (((((W4.setCell ⟨gX,q*4,none⟩ (.slice ar XL' cr)).setCell ⟨gX,q*4+1,none⟩ (.int .i64 xr')).setCell ⟨gX,q*4+2,none⟩ (.bool xc')).setCell ⟨gX,q*4+3,none⟩ (.bool xs')).setCell ⟨gO,k,none⟩ v).drew:=by
      intro s' v hv hs'
      subst hv
      have hDX:D<=gX:=(HR4.out.lo _ _ HgOX.out).1
      have hDO:D<=gO:=(HR4.out.lo _ _ HoO4.out).1
      have e0:(Value.slice ar XL' cr)=sl xb' (ar,cr):=by unfold sl;rw[hXL']
      rw[e0]
      have k1:=RMem.setPipe HR4.out (x':=⟨xb',xr',xc',xs'⟩) HX.out HVX.out HgOX.out HROF4.out
      have hs9:=SOf.keep hs' (w':=((((W4.setCell ⟨gX,q*4,none⟩ (sl xb' (ar,cr))).setCell ⟨gX,q*4+1,none⟩ (.int .i64 xr')).setCell ⟨gX,q*4+2,none⟩ (.bool xc')).setCell ⟨gX,q*4+3,none⟩ (.bool xs'))) (O':=addO O w2 w3 (.pipe q)) (fun k' hk'=>by
       have hne:k'≠gX:=fun e=>by subst e;rw[HgOX.out] at hk';cases hk'
       rw[Below.heap_setCell _ _ _ _ hne,Below.heap_setCell _ _ _ _ hne,Below.heap_setCell _ _ _ _ hne,Below.heap_setCell _ _ _ _ hne]) (fun _ _=>rfl)
      have k2:=RMem.setOut k1 HP.out HSl.out HBb.out HOV2.out HoO4.out hs9
      refine⟨RunAt.drew ⟨addO O w2 w3 (.pipe q),(d.setPipe q ⟨xb',xr',xc',xs'⟩ (ar,cr)).setProc i (p.setOut k (b.drop cnt)) (s.outSet k s'),k2,?_⟩,(((((HBD.out.setCell hDX _).setCell hDX _).setCell hDX _).setCell hDX _).setCell hDO _).drew⟩
      rw[HR9.out];rfl
     have HEND:Hid _:=hEND
     clear hEND
     have HRZ:Hid (RES.2=0):=(show _=_ by rw[HR9.out])
     have hgne:gX≠gO:=fun e=>by rw[e,HoO4.out] at gOX;cases gOX
     have fX0:=gfX (q*4)
     have fX1:=gfX (q*4+1)
     have fX2:=gfX (q*4+2)
     have fX3:=gfX (q*4+3)
     have fO:=zf k
     unfold sl at y0 z0
     rw[<- HBL.out] at z0
     clear hR4 hROF4 hSa4 hBD gOX oO4 hR3 hROF ht4 gfX zf hg1 hl3 hl4 hl2 hbox hB34 HR9 x0 x1 x2 x3 hfX hcO' hcO3 p2 b3
     generalize x.b.length=XL0 at *
     generalize x.room=xr0 at *
     generalize x.closed=xc0 at *
     generalize x.shut=xs0 at *
     by_cases hce:ca=cnt
     .
      subst hce
      have HSO:Hid (SOf W4 (addO O w2 w3 (.pipe q)) (.out i k) (some ⟨g1,off1,none⟩,0) (b.drop ca)):=SOf.drop HSa4.out rfl (by rw[<- HBL.out];omega) _ (.inr ⟨rfl,rfl⟩)
      have hBe:BL=ca:=by omega
      subst hBe
      go_upto_region 8 with fail
      rw[<- hW4]
      clear hW4
      go_region
      all_goals go_wp2_with fail
      all_goals go_ret
      all_goals refine⟨by rw[HRZ.out];rfl,?_⟩
      all_goals exact HEND.out (some ⟨g1,off1,none⟩,0) _ (by unfold sl;rw[List.length_drop,<- HBL.out,Nat.sub_self]) HSO.out
     .
      have HSO:Hid (SOf W4 (addO O w2 w3 (.pipe q)) (.out i k) (some ⟨g1,off1+cnt,none⟩,ca-cnt) (b.drop cnt)):=SOf.drop HSa4.out rfl (by rw[<- HBL.out];omega) _ (.inl rfl)
      go_upto_region 8 with fail
      rw[<- hW4]
      clear hW4
      go_region
      all_goals go_wp2_with fail
      all_goals go_ret
      all_goals refine⟨by rw[HRZ.out];rfl,?_⟩
      all_goals exact HEND.out (some ⟨g1,off1+cnt,none⟩,ca-cnt) _ (by unfold sl;rw[List.length_drop,<- HBL.out]) HSO.out
   .
    have HR9:Hid (RES=writeS d.M i p (k+1) (p.out.drop (k+1))):=(show _=_ by rw[HRES2.out,if_neg hcnt])
    have hcnt':¬(0:Int)<(cnt:Int):=by omega
    clear HRES2 HPG hcnt
    go_wp2_with fail
    go_roundw
    case rel=>exact⟨k+1,by omega,by go_num,(HB2.out.trans (HB3.out.mono HB2.out.size)).alloc (by have:=HB2.out.size;have:=HB3.out.size;omega) _,HR9⟩
    case measure=>simp[intOf];omega
  .
   have HR:Hid (RES=(d.M,8)):=(show _=_ by
    rw[hres.out,List.drop_of_length_le (by have:=HNL.out;omega)]
    rfl)
   clear hres
   go_wp2_with fail
   go_ret
   rw[HR.out]
   exact⟨rfl,⟨O,d,RMem.below HH.out hbel.out,rfl⟩,hbel.out.mono HH.out.le⟩
end Go.Proofs.YtllgglolcgdehaaGreatDoor
namespace Go.Proofs.YtllgglolcgdehaaGreatDoor
open Go.RowKit Go.Gs
set_option linter.unusedVariables false
structure CL (w:World) (B:Nat) (O:Nat->Option Own) (ro:Own) (bo:Nat->Own) (v:Value) (ss:List Sl) (l:List (List UInt8)):Prop where
 own:w.ownsRow B 28 1 v l.length (slRow l ss)
 ob:OwnedBy O v ro
 len:ss.length=l.length
 bys:∀(j:Nat) (b:List UInt8) (s:Sl),l[j]? = some b->ss[j]? = some s->SOf w O (bo j) s b
def slotOf:Value->Sl
 | .slice a _ c=>(a,c)
 | _=>nilS
theorem slots_of {w:World} {v:Value} {l:List (List UInt8)} (h:RList w v U l):∃ss:List Sl,ss.length=l.length/\Reads w v l.length (slRow l ss) /\ ∀(j:Nat) (b:List UInt8) (s:Sl),l[j]? = some b->ss[j]? = some s->Reads w (sl b s) b.length (b.map U):=by
 obtain⟨cells,hr,hc⟩:=h
 have hcl:cells.length=l.length:=hr.1
 have hat:∀(j:Nat) (b:List UInt8),l[j]? = some b -> ∃s:Sl,cells[j]? = some (sl b s)/\slotOf (sl b s)=s/\Reads w (sl b s) b.length (b.map U):=by
  intro j b hb
  obtain⟨u,hu,hru⟩:=hc j b hb
  obtain⟨_,ao,cap,e,_⟩:=id hru
  refine⟨(ao,cap),?_,rfl,?_⟩
  . rw[hu,e];rfl
  . rw[e] at hru;exact hru
 have e1:slRow l (cells.map slotOf)=cells:=by
  apply List.ext_getElem?
  intro j
  unfold slRow
  cases hb:l[j]? with
  | none=>
   rw[List.getElem?_zipWith,hb]
   have:cells[j]? = none:=by rw[List.getElem?_eq_none_iff] at hb ⊢;omega
   rw[this]
  | some b=>
   obtain⟨s,hs,hs2,_⟩:=hat j b hb
   rw[List.getElem?_zipWith,hb,List.getElem?_map,hs]
   simp[hs2]
 refine⟨cells.map slotOf,by rw[List.length_map,hcl],by rw[e1];exact hr,fun j b s hb hs=>?_⟩
 obtain⟨s',hs',hs2,hrd⟩:=hat j b hb
 rw[List.getElem?_map,hs'] at hs
 simp[hs2] at hs
 subst hs
 exact hrd
theorem slRow_one (l:List (List UInt8)) (ss:List Sl):∀u∈slRow l ss,u.oneCell'=true:=by
 intro u hu
 obtain⟨j,hj⟩:=List.getElem?_of_mem hu
 unfold slRow at hj
 obtain⟨b,s,_,_,e⟩:=List.getElem?_zipWith_eq_some.1 hj
 rw[<- e]
 rfl
theorem u8_one (b:List UInt8):∀u∈b.map U,u.oneCell'=true:=by
 intro u hu
 obtain⟨x,_,e⟩:=List.mem_map.1 hu
 rw[<- e]
 rfl
theorem reads_cells {w:World} {ao:Option Addr} {n c:Nat} {xs:List Value} (h:Reads w (.slice ao n c) n xs):(ao=none->n=0) /\ ∀a,ao=some a -> ∀j u,xs[j]? = some u->w.cell? (a.add j)=some u:=by
 obtain⟨h1,ao',cap,e,h2,h3,h4⟩:=h
 injection e with e1 e2 e3
 subst e1 e3
 refine⟨fun h0=>?_,fun a ha j u hu=>?_⟩
 .
  by_cases hn:n=0
  . exact hn
  . obtain⟨b,off,e,_⟩:=h4 hn
    rw[h0] at e
    cases e
 .
  have hn:n≠0:=by
   have:=(gSm hu).1
   omega
  obtain⟨b,off,e,hc⟩:=h4 hn
  rw[ha] at e
  injection e with e
  subst e
  rw[addP]
  exact hc j u hu
theorem bcloneE (ab:Option Addr) (cb:Nat) (bs:List UInt8) (w:World) (hr:Reads w (.slice ab bs.length cb) bs.length (bs.map U)) (hl:bs.length<=100000) :
 Calls Tryz.prog 125 #[.slice ab bs.length cb] w fun e w'=>∃v',e=.returned v'/\w'.ownsRow w.heap.size 5 1 v' bs.length (bs.map U)/\Below w.heap.size w w':=
 cloneByte_is ab bs.length cb (bs.map U) w (by simp) hl (reads_cells hr).1 (reads_cells hr).2 (u8_one bs)
structure CLTo (w wr:World) (v:Value) (ro:Own) (bo:Nat->Own) (l:List (List UInt8)) (k:Nat) (ss:List Sl) (O:Nat->Option Own):Prop where
 own:wr.ownsRow w.heap.size 28 1 v l.length (slRow l ss)
 ob:OwnedBy O v ro
 len:ss.length=l.length
 lo:∀g o,O g=some o->w.heap.size<=g/\g<wr.heap.size
 vals:∀g o,O g=some o->o=ro \/ ∃j,o=bo j
 bys:∀(j:Nat) (b:List UInt8) (s:Sl),j<k->l[j]? = some b->ss[j]? = some s->SOf wr O (bo j) s b
 rest:∀(j:Nat) (b:List UInt8) (s:Sl),k<=j->l[j]? = some b->ss[j]? = some s->Reads w (sl b s) b.length (b.map U)
theorem set_same {α:Type} {l:List α} {k:Nat} {b:α} (h:l[k]? = some b):l.set k b=l:=by
 apply List.ext_getElem?
 intro j
 by_cases e:k=j
 . subst e;rw[set_eq h,h]
 . rw[set_ne e]
theorem CLTo.step {w wr w2:World} {g N c:Nat} {ro:Own} {bo:Nat->Own} {l:List (List UInt8)} {k:Nat} {ss:List Sl} {O:Nat->Option Own} (hN:N=l.length) (h:CLTo w wr (.slice (some ⟨g,0,none⟩) N c) ro bo l k ss O) (hne:∀j,bo j≠ro) {b:List UInt8} (hb:l[k]? = some b) (hle:Below wr.heap.size wr w2) (hws:w.heap.size<=wr.heap.size)
 {v2:Value} (ho:w2.ownsRow wr.heap.size 5 1 v2 b.length (b.map U)) :
 ∃s2,CLTo w (w2.setCell ⟨g,k,none⟩ v2) (.slice (some ⟨g,0,none⟩) N c) ro bo l (k+1) (ss.set k s2) (addO O wr w2 (bo k)):=by
 subst hN
 have hgo:O g=some ro:=h.ob g rfl
 have hgl:=(h.lo g ro hgo)
 have hb2:∀g',v2.ownBlock=some g'->addO O wr w2 (bo k) g'=some (bo k):=fun g' hg'=>by
  have:=ho.lt g' hg'
  unfold addO
  rw[if_pos ⟨this.1,this.2⟩]
 obtain⟨s2,e2,hso,_⟩:=SOf.of_owns ho hb2
 subst e2
 have hkl:k<l.length:=(gSm hb).1
 have hold:∀k',k'<wr.heap.size->addO O wr w2 (bo k) k'=O k':=fun k' hk'=>by unfold addO;rw[if_neg (by omega)]
 have hg2:addO O wr w2 (bo k) g=some ro:=(hold g hgl.2).trans hgo
 have hrow:w2.ownsRow w.heap.size 28 1 (.slice (some ⟨g,0,none⟩) l.length c) l.length (slRow l ss):=ownsRow_keep h.own (fun g' hg'=>by
  have e1:g=g':=by injection hg'
  subst e1
  exact hle.block g hgl.2)
 refine⟨s2,?_,fun g' hg'=>?_,by simpa using h.len,fun g' o hg'=>?_,fun g' o hg'=>?_,fun j b' s hj hb' hs=>?_,fun j b' s hj hb' hs=>?_⟩
 . have:=owns_set hrow k (by omega) (sl b s2)
   rw[slRow_set,set_same hb] at this
   exact this
 . have e1:g=g':=by injection hg'
   subst e1
   exact hg2
 .
  show w.heap.size<=g'/\g'<(w2.setCell _ _).heap.size
  have hsz:(w2.setCell ⟨g,k,none⟩ (sl b s2)).heap.size=w2.heap.size:=by simp
  rw[hsz]
  have:=hle.size
  unfold addO at hg'
  split at hg'
  . omega
  . have:=h.lo g' o hg'
    omega
 .
  unfold addO at hg'
  split at hg'
  . injection hg' with hg'
    exact .inr ⟨k,hg'.symm⟩
  . exact h.vals g' o hg'
 .
  have hk':∀k',addO O wr w2 (bo k) k'=some (bo j)->(w2.setCell ⟨g,k,none⟩ (sl b s2)).heap[k']? = w2.heap[k']?:=fun k' hk'=>Below.heap_setCell _ _ _ _ (fun e=>by
   subst e
   rw[hg2] at hk'
   injection hk' with hk'
   exact hne j hk'.symm)
  by_cases e:j=k
  .
   subst e
   rw[hb] at hb'
   injection hb' with hb'
   subst hb'
   have hsl:ss.length=l.length:=h.len
   have e3:(ss.set j s2)[j]? = some s2:=by rw[List.getElem?_set,if_pos rfl,if_pos (by omega)]
   rw[e3] at hs
   injection hs with hs
   subst hs
   exact hso.keep hk' (fun _ _=>rfl)
  . rw[set_ne (fun e2=>e e2.symm)] at hs
    have h1:=h.bys j b' s (by omega) hb' hs
    have h2:=h1.keep (w':=w2) (O':=addO O wr w2 (bo k)) (fun k' hk''=>hle.block k' (h.lo k' _ hk'').2) hold
    exact h2.keep hk' (fun _ _=>rfl)
 . rw[set_ne (fun e2=>by omega)] at hs
   exact h.rest j b' s (by omega) hb' hs
theorem clonedL_is (ro:Own) (bo:Nat->Own) (hne:∀j,bo j≠ro) (ao:Option Addr) (c:Nat) (l:List (List UInt8)) (w:World) (h:RList w (.slice ao l.length c) U l) (hn:l.length<=100000) (hb:∀b∈l,b.length<=100000) :
 Calls Tryz.prog 128 #[.slice ao l.length c] w fun e w'=>∃v' ss O,e=.returned v'/\CL w' w.heap.size O ro bo v' ss l/\((∀g o,O g=some o->w.heap.size<=g/\g<w'.heap.size) /\ ∀g o,O g=some o->o=ro \/ ∃j,o=bo j)/\Below w.heap.size w w':=by
 obtain⟨ss0,hl0,hr0,hb0⟩:=slots_of h
 have hC:=cloneList_is ao l.length c (slRow l ss0) w (by have:=hr0.1;omega) hn (reads_cells hr0).1 (reads_cells hr0).2 (slRow_one l ss0)
 have HC:Hid _:=hC
 have HB0:Hid (∀(j:Nat) (b:List UInt8) (s:Sl),l[j]? = some b->ss0[j]? = some s->Reads w (sl b s) b.length (b.map U)):=hb0
 have HB:Hid (∀b∈l,b.length<=100000):=hb
 have HL0:Hid (ss0.length=l.length):=hl0
 obtain⟨N,hN⟩:∃N,N=l.length:=⟨_,rfl⟩
 have HN:Hid (N=l.length):=hN
 rw[<- hN] at HC hn ⊢
 clear h hb hl0 hr0 hb0 hC hN
 go_enter Tryz.func128,Tryz.ntmps128
 go_wp2_with fail
 refine Calls.mono HC.out ?_
 rintro e w1 ⟨v',rfl,hown,hb1⟩
 have HB1:Hid (Below w.heap.size w w1):=hb1
 have HOW:Hid (w1.ownsRow w.heap.size 28 1 v' N (slRow l ss0)):=hown
 obtain⟨⟨ao1,c1,rfl,hc1,hc2⟩,hform⟩:=owns_formE hown
 have hc2':c1<=9223372036854775807:=by unfold maxLen at hc2;exact hc2
 have hST:∃O,CLTo w w1 (.slice ao1 N c1) ro bo l 0 ss0 O:=by
  refine⟨fun k=>if some k=(Value.slice ao1 N c1).ownBlock then some ro else none,by rw[<- HN.out];exact HOW.out,fun g hg=>by simp[hg],HL0.out,fun g o hg=>?_,fun g o hg=>?_,fun j b s hj=>absurd hj (by omega),fun j b s _ hb hs=>HB0.out j b s hb hs⟩
  . by_cases e:some g=(Value.slice ao1 N c1).ownBlock
    . exact hown.lt g e.symm
    . rw[if_neg e] at hg;cases hg
  . by_cases e:some g=(Value.slice ao1 N c1).ownBlock
    . rw[if_pos e] at hg
      injection hg with hg
      exact .inl hg.symm
    . rw[if_neg e] at hg;cases hg
 obtain⟨O0,hST⟩:=hST
 have HST:Hid _:=hST
 by_cases h0:N=0
 .
  have HEND:Hid (CL w1 w.heap.size O0 ro bo (.slice ao1 N c1) ss0 l/\((∀g o,O0 g=some o->w.heap.size<=g/\g<w1.heap.size) /\ ∀g o,O0 g=some o->o=ro \/ ∃j,o=bo j)):=⟨⟨hST.own,hST.ob,hST.len,fun j b s hb _=>by
   have:=(gSm hb).1
   have:=HN.out
   omega⟩,hST.lo,hST.vals⟩
  subst h0
  clear hST hown hform hb1 HC
  go_wp2_with fail
  go_loopw [10] (fun i wr=>i=.int .i64 0/\wr=w1) (fun i _=>0)
  case atStart=>exact⟨rfl,rfl⟩
  case round=>
   obtain⟨rfl,rfl⟩:=hrel
   go_wp2_with fail
   go_ret
   exact⟨_,ss0,O0,rfl,HEND.out.1,HEND.out.2,HB1.out⟩
 .
  obtain⟨g,cg,e1,_,_,_,_,_⟩:=hform h0
  injection e1 with e1 e2 e3
  subst e1
  clear hST hown hform hb1 HC e3
  go_wp2_with fail
  go_loopw [10] (fun i wr=>∃k:Nat,k<=N/\i=.int .i64 k/\Hid (Below w.heap.size w wr)/\Hid (∃ss O,CLTo w wr (.slice (some ⟨g,0,none⟩) N c1) ro bo l k ss O)) (fun i _=>N-(intOf i).toNat)
  case atStart=>exact⟨0,Nat.zero_le _,rfl,HB1,(show ∃ss O,CLTo w w1 (.slice (some ⟨g,0,none⟩) N c1) ro bo l 0 ss O from ⟨ss0,O0,HST.out⟩)⟩
  case round=>
   obtain⟨k,hk,rfl,hbel,hinv⟩:=hrel
   clear HST
   obtain⟨ss,O,hI⟩:=hinv.out
   have HI:Hid _:=hI
   clear hinv
   by_cases hlt:k<N
   .
    obtain⟨b,hb⟩:∃b,l[k]? = some b:=⟨_,gEl (by have:=HN.out;omega)⟩
    obtain⟨s,hs⟩:∃s,ss[k]? = some s:=⟨_,gEl (by have:=hI.len;have:=HN.out;omega)⟩
    have HBb:Hid (l[k]? = some b):=hb
    have hcell:wr.cell? ⟨g,k,none⟩=some (sl b s):=by
     have h1:=hI.own
     rw[<- HN.out] at h1
     rw[h1.cellAt k (by omega)]
     exact slRow_at hb hs
    have hfz:wr.frozen? ⟨g,k,none⟩=false:=by
     have h1:=hI.own
     rw[<- HN.out] at h1
     exact h1.frozenAt k
    have hrd:=hI.rest k b s (Nat.le_refl _) hb hs
    unfold sl at hcell hrd
    have HCB:Hid _:=bcloneE s.1 s.2 b wr (hrd.below hbel.out) (HB.out b (mGt hb))
    obtain⟨sa,sc⟩:=s
    obtain⟨BL,hBL⟩:∃z,z=b.length:=⟨_,rfl⟩
    have HBL:Hid (BL=b.length):=hBL
    simp only at hcell HCB
    rw[<- hBL] at hcell HCB
    clear hI hrd hb hs hBL
    go_wp2_with fail
    refine Calls.mono HCB.out ?_
    rintro e w2 ⟨v2,rfl,ho2,hb2⟩
    obtain⟨⟨ao2,c2,hv2,_,_⟩,_⟩:=owns_formE ho2
    subst hv2
    have hcell2:=(hb2.cell (bLt wr _ hcell)).trans hcell
    have hfz2:w2.frozen? ⟨g,k,none⟩=false:=by
     have hgl:g<wr.heap.size:=bLt wr _ hcell
     have:=hb2.block g hgl
     simp only[World.frozen?] at hfz ⊢
     rw[this]
     exact hfz
    have hstep:=CLTo.step HN.out HI.out hne HBb.out hb2 hbel.out.size (by rw[HBL.out] at ho2;exact ho2)
    have hwg:w.heap.size<=g:=(HI.out.lo g _ (HI.out.ob g rfl)).1
    have HSTEP:Hid (∃ss O,CLTo w (w2.setCell ⟨g,k,none⟩ (.slice ao2 BL c2)) (.slice (some ⟨g,0,none⟩) N c1) ro bo l (k+1) ss O):=(show ∃ss O,_ from by
     obtain⟨s2,h2⟩:=hstep
     rw[<- HBL.out] at h2
     exact⟨_,_,h2⟩)
    have HB2:Hid (Below w.heap.size w (w2.setCell ⟨g,k,none⟩ (.slice ao2 BL c2))):=(hbel.out.trans (hb2.mono hbel.out.size)).setCell hwg _
    clear hstep ho2 hb2 hcell hfz HCB
    go_wp2_with fail
    go_roundw
    case rel=>exact⟨k+1,by omega,by go_num,HB2,HSTEP⟩
    case measure=>simp[intOf];omega
   .
    have HEND:Hid (CL wr w.heap.size O ro bo (.slice (some ⟨g,0,none⟩) N c1) ss l/\((∀g o,O g=some o->w.heap.size<=g/\g<wr.heap.size) /\ ∀g o,O g=some o->o=ro \/ ∃j,o=bo j)):=⟨⟨hI.own,hI.ob,hI.len,fun j b s hb hs=>hI.bys j b s (by
     have:=(gSm hb).1
     have:=HN.out
     omega) hb hs⟩,hI.lo,hI.vals⟩
    clear hI
    go_wp2_with fail
    go_ret
    exact⟨_,ss,O,rfl,HEND.out.1,HEND.out.2,hbel.out⟩
end Go.Proofs.YtllgglolcgdehaaGreatDoor
namespace Go.Gs
open Go.RowKit
set_option linter.unusedVariables false
abbrev PD:=List SNode × List (Int × Int)
def srcN (f:List UInt8):SNode:=⟨1,f,noC,0,0,[]⟩
def splitN (w:Nat) (ps:List (Int × Int)):SNode:=⟨2,[],noC,0,(w:Int),ps⟩
def workN (c:Cmd) (p:Int × Int):SNode:=⟨3,[],c,0,0,[p]⟩
def joinN (how:Int) (c:Cmd) (ps:List (Int × Int)):SNode:=⟨4,[],c,how,0,ps⟩
def sinkN (f:List UInt8) (ps:List (Int × Int)):SNode:=⟨5,f,noC,0,0,ps⟩
def newPorts (i k:Nat):List (Int × Int):=(List.range k).map fun (j:Nat)=>((i:Int),(j:Int))
def onePort (i:Nat):Int × Int:=((i:Int),0)
def pSrc (d:PD) (f:List UInt8):PD:=(d.1++[srcN f],d.2++[onePort d.1.length])
def pJoinAll (how:Int) (c:Cmd) (d:PD):PD:=(d.1++[joinN how c d.2],[onePort d.1.length])
def pBehind (d:PD):PD:=if 1<d.2.length then pJoinAll 1 noC d else d
def pSplit (w:Nat) (d:PD):PD:=if d.2.length=1/\w≠1 then (d.1++[splitN w d.2],newPorts d.1.length w) else d
def pWork (c:Cmd) (d:PD) (p:Int × Int):PD:=(d.1++[workN c p],d.2++[onePort d.1.length])
def pWorks (c:Cmd) (d:PD):PD:=d.2.foldl (pWork c) (d.1,[])
def pJoin (w:Nat) (c:Cmd) (d:PD):PD:=if w=1\/isEach c.kind=true then d else pJoinAll (howFor c.kind) (if howFor c.kind=4 then c else noC) d
def pCmd (w:Nat) (d:PD) (c:Cmd):PD:=pJoin w c (pWorks c (pSplit w d))
def pStart (fr:List (List UInt8)):PD:=fr.foldl pSrc ([],[])
def pFrom (fr:List (List UInt8)):PD:=pBehind (pStart fr)
def pDone (w:Nat) (fr:List (List UInt8)) (cs:List Cmd):PD:=cs.foldl (pCmd w) (pFrom fr)
def pSink (tu:List UInt8) (d:PD):List SNode:=d.1++[sinkN tu d.2]
def plan (l:SLine) (w:Nat):List SNode:=pSink l.tu (pBehind (pDone w l.fr l.cs))
theorem newPorts_len (i k:Nat):(newPorts i k).length=k:=by simp[newPorts]
theorem newPorts_one (i:Nat):newPorts i 1=[onePort i]:=by simp[newPorts,onePort]
theorem pStart_snoc (fr:List (List UInt8)) (f:List UInt8):pStart (fr++[f])=pSrc (pStart fr) f:=by simp[pStart]
theorem pDone_snoc (w:Nat) (fr:List (List UInt8)) (cs:List Cmd) (c:Cmd):pDone w fr (cs++[c])=pCmd w (pDone w fr cs) c:=by simp[pDone]
theorem works_len (c:Cmd):∀(op:List (Int × Int)) (d:PD),(op.foldl (pWork c) d).1.length=d.1.length+op.length/\(op.foldl (pWork c) d).2.length=d.2.length+op.length
 | [],d=>by simp
 | p::r,d=>by
  have:=works_len c r (pWork c d p)
  simp only[List.foldl_cons,List.length_cons]
  simp only[pWork,List.length_append,List.length_cons,List.length_nil] at this ⊢
  omega
theorem pStart_len:∀(fr:List (List UInt8)) (d:PD),(fr.foldl pSrc d).1.length=d.1.length+fr.length/\(fr.foldl pSrc d).2.length=d.2.length+fr.length
 | [],d=>by simp
 | p::r,d=>by
  have:=pStart_len r (pSrc d p)
  simp only[List.foldl_cons,List.length_cons]
  simp only[pSrc,List.length_append,List.length_cons,List.length_nil] at this ⊢
  omega
theorem pBehind_len {d:PD} (h:1<=d.2.length):(pBehind d).2.length=1/\d.1.length<=(pBehind d).1.length/\(pBehind d).1.length<=d.1.length+1:=by
 unfold pBehind
 split
 . simp[pJoinAll]
 . omega
theorem pFrom_len {fr:List (List UInt8)} (h1:1<=fr.length) (h4:fr.length<=4):(pFrom fr).2.length=1/\(pFrom fr).1.length<=5:=by
 obtain⟨a,b⟩:=pStart_len fr ([],[])
 simp only[List.length_nil,Nat.zero_add] at a b
 obtain⟨c,d,e⟩:=pBehind_len (d:=pStart fr) (by unfold pStart;omega)
 unfold pFrom
 unfold pStart at c d e ⊢
 omega
theorem pSplit_len {w:Nat} {d:PD} (hw:1<=w/\w<=5) (h:d.2.length=1\/d.2.length=w):(pSplit w d).2.length=w/\d.1.length<=(pSplit w d).1.length/\(pSplit w d).1.length<=d.1.length+1:=by
 unfold pSplit
 split
 . simp[newPorts_len]
 .
  rename_i h1
  rcases h with h | h
  . have:w=1:=by by_cases e:w=1;exact e;exact absurd ⟨h,e⟩ h1
    omega
  . omega
theorem pCmd_len {w:Nat} {d:PD} (hw:1<=w/\w<=5) (h:d.2.length=1\/d.2.length=w) (c:Cmd):((pCmd w d c).2.length=1\/(pCmd w d c).2.length=w)/\(pCmd w d c).1.length<=d.1.length+7:=by
 obtain⟨a,b,e⟩:=pSplit_len hw h
 have w1:=works_len c (pSplit w d).2 ((pSplit w d).1,[])
 simp only[List.length_nil,Nat.zero_add] at w1
 unfold pCmd pJoin
 split
 . unfold pWorks;omega
 . unfold pWorks
   refine⟨Or.inl rfl,?_⟩
   simp only[pJoinAll,List.length_append,List.length_cons,List.length_nil]
   omega
theorem pDone_len {w:Nat} {fr:List (List UInt8)} (hw:1<=w/\w<=5) (h1:1<=fr.length) (h4:fr.length<=4) (cs:List Cmd):((pDone w fr cs).2.length=1\/(pDone w fr cs).2.length=w)/\(pDone w fr cs).1.length<=5+7*cs.length:=by
 have gen:∀(cs:List Cmd) (d:PD),(d.2.length=1\/d.2.length=w)->((cs.foldl (pCmd w) d).2.length=1\/(cs.foldl (pCmd w) d).2.length=w)/\(cs.foldl (pCmd w) d).1.length<=d.1.length+7*cs.length:=by
  intro cs
  induction cs with
  | nil=>intro d h;simp[h]
  | cons c r ih=>
   intro d h
   obtain⟨a,b⟩:=pCmd_len hw h c
   obtain⟨e,f⟩:=ih (pCmd w d c) a
   simp only[List.foldl_cons,List.length_cons]
   exact⟨e,by omega⟩
 obtain⟨a,b⟩:=pFrom_len h1 h4
 obtain⟨e,f⟩:=gen cs (pFrom fr) (Or.inl a)
 unfold pDone
 exact⟨e,by omega⟩
theorem plan_len {l:SLine} {w:Nat} (hw:1<=w/\w<=5) (h:lchk l=0):(plan l w).length<=49/\(pBehind (pDone w l.fr l.cs)).2.length=1:=by
 have h0:¬(l.fr.length<1\/4<l.fr.length\/6<l.cs.length):=by
  intro h1;unfold lchk at h;rw[if_pos h1] at h;cases h
 obtain⟨a,b⟩:=pDone_len hw (by omega:1<=l.fr.length) (by omega) l.cs
 obtain⟨c,d,e⟩:=pBehind_len (d:=pDone w l.fr l.cs) (by omega)
 refine⟨?_,c⟩
 unfold plan pSink
 simp only[List.length_append,List.length_cons,List.length_nil]
 omega
abbrev NRow:=SNode × (Option Addr × Nat)
def encN (x:NRow):List Value:=[.int .i64 x.1.kind,.string ⟨x.1.file.toArray⟩,.int .i64 x.1.c.kind,.string ⟨x.1.c.word.toArray⟩,.int .i64 x.1.c.n,.int .i64 x.1.how,.int .i64 x.1.wide,.slice x.2.1 x.1.ins.length x.2.2]
def nodeCells (out:List NRow):List Value:=(out.map encN).flatten
theorem nodeCells_app (out:List NRow) (r:NRow):nodeCells (out++[r])=nodeCells out++encN r:=by simp[nodeCells]
theorem nodeCells_cons (out:List NRow) (r:NRow):nodeCells (r::out)=encN r++nodeCells out:=by simp[nodeCells]
theorem nodeCells_length (out:List NRow):(nodeCells out).length=out.length*8:=by
 induction out with
 | nil=>rfl
 | cons r l ih=>
  rw[nodeCells_cons,List.length_append,ih]
  simp[encN]
  omega
theorem nodeCells_at:∀(out:List NRow) (j:Nat) (r:NRow),out[j]? = some r -> ∀i,i<8->(nodeCells out)[j*8+i]? = (encN r)[i]?
 | [],j,r,h,i,hi=>by simp at h
 | d::l,0,r,h,i,hi=>by
  simp at h;subst h
  rw[nodeCells_cons,List.getElem?_append_left (by simp[encN];omega)]
  simp
 | d::l,j+1,r,h,i,hi=>by
  have ih:=nodeCells_at l j r (by simpa using h) i hi
  rw[nodeCells_cons,List.getElem?_append_right (by simp[encN];omega),show (j+1)*8+i-(encN d).length=j*8+i by simp[encN];omega]
  exact ih
theorem encN_one (r:NRow):∀u∈encN r,u.oneCell'=true:=by
 intro u hu
 simp[encN] at hu
 rcases hu with rfl | rfl | rfl | rfl | rfl | rfl | rfl | rfl <;> rfl
def FS (D:Nat) (go:Option Nat) (X:Nat->Prop) (k:Nat):Prop:=k=D\/go=some k\/X k
def noX (k:Nat):Prop:=False
structure Kept (D:Nat) (go:Option Nat) (X:Nat->Prop) (w w':World):Prop where
 os:w'.os=w.os
 tape:w'.tape=w.tape
 output:w'.output=w.output
 size:w.heap.size<=w'.heap.size
 block:∀k,k<w.heap.size -> ¬FS D go X k->w'.heap[k]? = w.heap[k]?
theorem Kept.of_below {D:Nat} {go:Option Nat} {X:Nat->Prop} {w w':World} (h:Below w.heap.size w w'):Kept D go X w w':=⟨h.os,h.tape,h.output,h.size,fun k hk _=>h.block k hk⟩
theorem Kept.of_grown {D:Nat} {go x:Option Nat} {X:Nat->Prop} {w w':World} (h:w.grownBy w' x) (hx:∀k,x=some k->FS D go X k):Kept D go X w w':=⟨h.os,h.tape,h.output,h.size,fun k hk hn=>h.block k hk (fun e=>hn (hx k e.symm))⟩
theorem Kept.refl (D:Nat) (go:Option Nat) (X:Nat->Prop) (w:World):Kept D go X w w:=⟨rfl,rfl,rfl,Nat.le_refl _,fun _ _ _=>rfl⟩
theorem Kept.more {D:Nat} {go:Option Nat} {X X':Nat->Prop} {w w':World} (h:Kept D go X w w') (hd:∀k,X k->X' k):Kept D go X' w w':=
 ⟨h.os,h.tape,h.output,h.size,fun k hk hn=>h.block k hk (fun e=>hn (by rcases e with e | e | e;exact .inl e;exact .inr (.inl e);exact .inr (.inr (hd k e))))⟩
def Nxt (w:World) (go go':Option Nat):Prop:=go'=go \/ ∃g,go'=some g/\w.heap.size<=g
theorem Nxt.refl (w:World) (go:Option Nat):Nxt w go go:=Or.inl rfl
theorem Nxt.trans {w w1:World} {go g1 g2:Option Nat} (h:Nxt w go g1) (k:Nxt w1 g1 g2) (hs:w.heap.size<=w1.heap.size):Nxt w go g2:=by
 rcases k with rfl | ⟨g,e,hg⟩
 . exact h
 . exact Or.inr ⟨g,e,Nat.le_trans hs hg⟩
theorem Nxt.old {w:World} {go go':Option Nat} (h:Nxt w go go') {k:Nat} (hk:k<w.heap.size) (e:go'=some k):go=some k:=by
 rcases h with rfl | ⟨g,e2,hg⟩
 . exact e
 . rw[e2] at e;injection e with e;omega
def NxtX (w:World) (X X':Nat->Prop):Prop:=∀k,k<w.heap.size->X' k->X k
theorem NxtX.refl (w:World) (X:Nat->Prop):NxtX w X X:=fun _ _ h=>h
theorem FS.old {w:World} {D:Nat} {go go':Option Nat} {X X':Nat->Prop} (hg:Nxt w go go') (hd:NxtX w X X') {k:Nat} (hk:k<w.heap.size) (h:FS D go' X' k):FS D go X k:=by
 rcases h with e | e | e
 . exact .inl e
 . exact .inr (.inl (hg.old hk e))
 . exact .inr (.inr (hd _ hk e))
theorem Kept.trans {D:Nat} {go g1:Option Nat} {X X':Nat->Prop} {w w1 w2:World} (h:Kept D go X w w1) (k:Kept D g1 X' w1 w2) (hg:Nxt w go g1) (hd:NxtX w X X'):Kept D go X w w2:=by
 refine⟨k.os.trans h.os,k.tape.trans h.tape,k.output.trans h.output,Nat.le_trans h.size k.size,fun i hi hn=>?_⟩
 rw[k.block i (Nat.lt_of_lt_of_le hi h.size) (fun e=>hn (e.old hg hd hi)),h.block i hi hn]
theorem Kept.below {D B:Nat} {go:Option Nat} {X:Nat->Prop} {w w':World} (h:Kept D go X w w') (hB:B<=w.heap.size) (hD:B<=D) (hg:∀g,go=some g->B<=g) (hd:∀g,X g->B<=g):Below B w w':=
 ⟨h.os,h.tape,h.output,h.size,fun k hk=>h.block k (by omega) (fun e=>by rcases e with e | e | e;omega;(have:=hg k e;omega);(have:=hd k e;omega))⟩
theorem Kept.set {D:Nat} {go:Option Nat} {X:Nat->Prop} {w w':World} (h:Kept D go X w w') {a:Addr} {v:Value} (ha:a.block=D):Kept D go X w (w'.setCell a v):=
 ⟨h.os,h.tape,h.output,by simpa using h.size,fun k hk hn=>(Below.heap_setCell _ _ _ _ (by rw[ha];exact fun e=>hn (.inl e))).trans (h.block k hk hn)⟩
def POff (w:World) (D:Nat) (go:Option Nat) (X:Nat->Prop) (ao:Option Addr) (cap:Nat) (ps:List (Int × Int)):Prop:=RPorts w (.slice ao ps.length cap) ps/\(ps.length≠0 -> ∀a,ao=some a -> ¬FS D go X a.block)
theorem rports_keep {w w':World} {ao:Option Addr} {cap:Nat} {ps:List (Int × Int)} (h:RPorts w (.slice ao ps.length cap) ps) (hk:ps.length≠0 -> ∀a,ao=some a->a.block<w.heap.size->w'.heap[a.block]? = w.heap[a.block]?):RPorts w' (.slice ao ps.length cap) ps:=by
 obtain⟨ao',cap',e,h2,h3,h4⟩:=h
 injection e with e1 e2 e3
 subst e1 e3
 refine⟨ao,cap,rfl,h2,h3,fun hn=>?_⟩
 obtain⟨b,off,rfl,hc⟩:=h4 hn
 refine⟨b,off,rfl,fun j p hp=>?_⟩
 obtain⟨c1,c2⟩:=hc j p hp
 have hlt:b<w.heap.size:=bLt w _ c1
 have e:=hk hn _ rfl hlt
 simp only[World.cell?] at c1 c2 ⊢
 rw[e];exact⟨c1,c2⟩
theorem rports_block {w:World} {a:Addr} {n cap:Nat} {ps:List (Int × Int)} (h:RPorts w (.slice (some a) n cap) ps) (hn:ps.length≠0):a.block<w.heap.size:=by
 obtain⟨ao',cap',e,h2,h3,h4⟩:=h
 injection e with e1 e2 e3
 subst e1
 obtain⟨b,off,e4,hc⟩:=h4 hn
 injection e4 with e4
 subst e4
 exact bLt w _ (hc 0 _ (gEl (by omega))).1
theorem POff.keep {w w':World} {D:Nat} {go go':Option Nat} {X X':Nat->Prop} {ao:Option Addr} {cap:Nat} {ps:List (Int × Int)} (h:POff w D go X ao cap ps) (hk:Kept D go X w w') (hg:Nxt w go go') (hd:NxtX w X X'):POff w' D go' X' ao cap ps:=by
 refine⟨rports_keep h.1 (fun hn a ha hl=>hk.block _ hl (h.2 hn a ha)),fun hn a ha hf=>h.2 hn a ha ?_⟩
 subst ha
 exact hf.old hg hd (rports_block h.1 hn)
theorem POff.nil (w:World) (D:Nat) (go:Option Nat) (X:Nat->Prop):POff w D go X none 0 []:=⟨⟨none,0,rfl,by simp,by simp[maxLen],fun h=>absurd rfl h⟩,fun h=>absurd rfl h⟩
structure NO (w:World) (B D:Nat) (X:Nat->Prop) (e:TypeId) (v:Value) (rows:List NRow):Prop where
 own:w.ownsRow B e 8 v rows.length (nodeCells rows)
 good:∀r∈rows,POff w D v.ownBlock X r.2.1 r.2.2 r.1.ins
 off:v.ownBlock≠some D
theorem NO.nil (w:World) (B D:Nat) (X:Nat->Prop) (e:TypeId):NO w B D X e (.slice none 0 0) []:=⟨World.ownsRow_nil _ _ _ _,fun r hr=>(by cases hr),by simp[Value.ownBlock]⟩
theorem NO.base {w:World} {B D:Nat} {X:Nat->Prop} {e:TypeId} {v:Value} {rows:List NRow} (h:NO w B D X e v rows):∀g,v.ownBlock=some g->B<=g/\g<w.heap.size:=by
 intro g hg
 rcases h.own.2 with ⟨rfl,h0⟩ | ⟨g',cap,cur,rfl,hb,h1,_⟩
 . simp[Value.ownBlock] at hg
 .
  simp[Value.ownBlock] at hg
  subst hg
  refine⟨hb,?_⟩
  rcases Nat.lt_or_ge g' w.heap.size with h2 | h2
  . exact h2
  . rw[Array.getElem?_eq_none h2] at h1;cases h1
theorem NO.form {w:World} {B D:Nat} {X:Nat->Prop} {e:TypeId} {v:Value} {rows:List NRow} (h:NO w B D X e v rows):∃ao cap,v=.slice ao rows.length cap/\rows.length<=cap/\cap<=maxLen:=by
 rcases h.own.2 with ⟨rfl,h0⟩ | ⟨g,cap,cur,rfl,_,_,h1,h2,_⟩
 . exact⟨none,0,by rw[h0],by omega,by simp[maxLen]⟩
 . exact⟨_,cap,rfl,h1,h2⟩
theorem NO.keep {w w':World} {B D:Nat} {X X':Nat->Prop} {e:TypeId} {v:Value} {rows:List NRow} (h:NO w B D X e v rows) (hk:Kept D v.ownBlock X w w') (hv:∀g,v.ownBlock=some g->w'.heap[g]? = w.heap[g]?) (hd:NxtX w X X'):NO w' B D X' e v rows:=by
 refine⟨?_,fun r hr=>(h.good r hr).keep hk (Nxt.refl _ _) hd,h.off⟩
 refine⟨h.own.1,?_⟩
 rcases h.own.2 with ⟨e1,h0⟩ | ⟨g,cap,cur,e1,hb,h1,h2⟩
 . exact Or.inl ⟨e1,h0⟩
 . refine Or.inr ⟨g,cap,cur,e1,hb,?_,h2⟩
   rw[hv g (by rw[e1];rfl)]
   exact h1
theorem NO.below {w w':World} {B D:Nat} {X:Nat->Prop} {e:TypeId} {v:Value} {rows:List NRow} (h:NO w B D X e v rows) (hb:Below w.heap.size w w'):NO w' B D X e v rows:=
 h.keep (Kept.of_below hb) (fun g hg=>hb.block g (h.base g hg).2) (NxtX.refl _ _)
theorem NO.set {w:World} {B D:Nat} {X:Nat->Prop} {e:TypeId} {v:Value} {rows:List NRow} (h:NO w B D X e v rows) {a:Addr} {u:Value} (ha:a.block=D):NO (w.setCell a u) B D X e v rows:=
 h.keep ((Kept.refl _ _ _ _).set ha) (fun g hg=>Below.heap_setCell _ _ _ _ (by rw[ha];intro e2;exact h.off (by rw[hg,e2]))) (NxtX.refl _ _)
theorem NO.app {w w':World} {B D:Nat} {X:Nat->Prop} {e:TypeId} {v v':Value} {rows:List NRow} {r:NRow} (h:NO w B D X e v rows) (hr:POff w D v.ownBlock X r.2.1 r.2.2 r.1.ins) (hD:D<w.heap.size)
 (hown:w'.ownsRow B e 8 v' (rows.length+1) (nodeCells rows++encN r)) (hg:w.grownBy w' v.ownBlock) (hl:v'.ownBlock=v.ownBlock\/v'.ownBlock=some w.heap.size):NO w' B D X e v' (rows++[r])/\Kept D v.ownBlock noX w w'/\Nxt w v.ownBlock v'.ownBlock:=by
 have hN:Nxt w v.ownBlock v'.ownBlock:=by
  rcases hl with h1 | h1
  . exact Or.inl h1
  . exact Or.inr ⟨_,h1,Nat.le_refl _⟩
 have hk:Kept D v.ownBlock noX w w':=Kept.of_grown hg (fun k e=>.inr (.inl e))
 have hk':Kept D v.ownBlock X w w':=hk.more (fun k e=>e.elim)
 refine⟨⟨by rw[nodeCells_app,List.length_append];exact hown,fun x hx=>?_,?_⟩,hk,hN⟩
 . rcases List.mem_append.1 hx with hx | hx
   . exact (h.good x hx).keep hk' hN (NxtX.refl _ _)
   . rw[List.mem_singleton.1 hx];exact hr.keep hk' hN (NxtX.refl _ _)
 . rcases hl with h1 | h1
   . rw[h1];exact h.off
   . rw[h1];intro e2;injection e2 with e2;omega
theorem POff.less {w:World} {D:Nat} {go:Option Nat} {X X':Nat->Prop} {ao:Option Addr} {cap:Nat} {ps:List (Int × Int)} (h:POff w D go X ao cap ps) (hx:∀k,k<w.heap.size->X' k->X k):POff w D go X' ao cap ps:=
 h.keep (Kept.refl _ _ _ _) (Nxt.refl _ _) hx
theorem NO.less {w:World} {B D:Nat} {X X':Nat->Prop} {e:TypeId} {v:Value} {rows:List NRow} (h:NO w B D X e v rows) (hx:∀k,k<w.heap.size->X' k->X k):NO w B D X' e v rows:=
 ⟨h.own,fun r hr=>(h.good r hr).less hx,h.off⟩
theorem NO.nodes {w:World} {B D:Nat} {X:Nat->Prop} {e:TypeId} {v:Value} {rows:List NRow} (h:NO w B D X e v rows):RNodes w v (rows.map (·.1)):=by
 have hl:(rows.map (·.1)).length=rows.length:=List.length_map _
 rcases h.own.2 with ⟨rfl,h0⟩ | ⟨g,cap,cur,rfl,hb,hg,h1,h2,h3,h4⟩
 . exact⟨none,0,by rw[hl,h0],by omega,by simp[maxLen],fun hn=>absurd (hl.trans h0) hn⟩
 .
  refine⟨_,cap,by rw[hl],by omega,h2,fun _=>⟨g,0,rfl,fun j f hj=>?_⟩⟩
  rw[List.getElem?_map] at hj
  cases hr:rows[j]? with
  | none=>rw[hr] at hj;cases hj
  | some r=>
   rw[hr] at hj
   simp only[Option.map_some,Option.some.injEq] at hj
   subst hj
   have hjl:j<rows.length:=(gSm hr).1
   have c:∀i,i<8->w.cell? ⟨g,j*8+i,none⟩=(encN r)[i]?:=fun i hi=>by
    have:=h.own.cellAt (j*8+i) (by omega)
    rw[nodeCells_at rows j r hr i hi] at this
    exact this
   refine⟨r.2.1,r.2.2,?_,(h.good r (mGt hr)).1⟩
   rw[Nat.zero_add]
   exact⟨c 0 (by omega),c 1 (by omega),c 2 (by omega),c 3 (by omega),c 4 (by omega),c 5 (by omega),c 6 (by omega),c 7 (by omega)⟩
end Go.Gs
namespace Go.Proofs.YtllgglolcgdehaaGreatDoor
open Go.RowKit Go.Gs
set_option linter.unusedVariables false
theorem slots_choose {α β:Type}:∀{xs:List α} {P:Nat->α->β->Prop},(∀(j:Nat) (x:α),xs[j]? = some x -> ∃y,P j x y) -> ∃ys:List β,ys.length=xs.length /\ ∀(j:Nat) (x:α) (y:β),xs[j]? = some x->ys[j]? = some y->P j x y
 | [],P,h=>⟨[],rfl,fun j x y hx=>by simp at hx⟩
 | a::r,P,h=>by
  obtain⟨y0,hy0⟩:=h 0 a rfl
  obtain⟨ys,h1,h2⟩:=slots_choose (xs:=r) (P:=fun j x y=>P (j+1) x y) (fun j x hx=>h (j+1) x (by simpa using hx))
  refine⟨y0::ys,by simp[h1],fun j x y hx hy=>?_⟩
  cases j with
  | zero=>
   simp at hx hy
   subst hx hy
   exact hy0
  | succ j=>exact h2 j x y (by simpa using hx) (by simpa using hy)
structure Off (g:Nat) (w w':World):Prop where
 os:w'.os=w.os
 tape:w'.tape=w.tape
 output:w'.output=w.output
 size:w.heap.size<=w'.heap.size
 block:∀k,k<w.heap.size->k≠g->w'.heap[k]? = w.heap[k]?
theorem Off.refl (g:Nat) (w:World):Off g w w:=⟨rfl,rfl,rfl,Nat.le_refl _,fun _ _ _=>rfl⟩
theorem Off.of_below {g:Nat} {w w':World} (h:Below w.heap.size w w'):Off g w w':=⟨h.os,h.tape,h.output,h.size,fun k hk _=>h.block k hk⟩
theorem Off.trans {g:Nat} {w w1 w2:World} (h:Off g w w1) (k:Off g w1 w2):Off g w w2:=⟨k.os.trans h.os,k.tape.trans h.tape,k.output.trans h.output,by have:=h.size;have:=k.size;omega,fun j hj hn=>(k.block j (by have:=h.size;omega) hn).trans (h.block j hj hn)⟩
theorem Off.set {g:Nat} {w w':World} (h:Off g w w') {a:Addr} {v:Value} (ha:a.block=g):Off g w (w'.setCell a v):=
 ⟨h.os,h.tape,h.output,by simpa using h.size,fun k hk hn=>(Below.heap_setCell _ _ _ _ (by rw[ha];exact hn)).trans (h.block k hk hn)⟩
theorem Off.setNew {g:Nat} {w w':World} (h:Off g w w') {a:Addr} {v:Value} (ha:w.heap.size<=a.block):Off g w (w'.setCell a v):=
 ⟨h.os,h.tape,h.output,by simpa using h.size,fun k hk hn=>(Below.heap_setCell _ _ _ _ (by omega)).trans (h.block k hk hn)⟩
def cutH (w:World) (D:Nat):World:={ w with heap:=w.heap.extract 0 D }
theorem cutH_size {w:World} {D:Nat} (h:D<=w.heap.size):(cutH w D).heap.size=D:=by unfold cutH;simp;omega
theorem cutH_block {w:World} {D k:Nat} (h:D<=w.heap.size) (hk:k<D):(cutH w D).heap[k]? = w.heap[k]?:=by
 unfold cutH
 simp only[Array.getElem?_extract]
 rw[if_pos (by omega),Nat.zero_add]
theorem cutH_below {w:World} {D:Nat} (h:D<=w.heap.size):Below D (cutH w D) w:=⟨rfl,rfl,rfl,by rw[cutH_size h];exact h,fun k hk=>(cutH_block h hk).symm⟩
structure OffB (g:Nat) (w w':World):Prop where
 os:w'.os=w.os
 tape:w'.tape=w.tape
 output:w'.output=w.output
 size:w.heap.size<=w'.heap.size
 block:∀k,k<w.heap.size->k≠g->k≠g+1->w'.heap[k]? = w.heap[k]?
theorem OffB.of {g:Nat} {w w':World} (h:Off g w w'):OffB g w w':=⟨h.os,h.tape,h.output,h.size,fun k hk h1 _=>h.block k hk h1⟩
theorem OffB.set {g:Nat} {w w':World} (h:OffB g w w') {a:Addr} {v:Value} (ha:a.block=g+1):OffB g w (w'.setCell a v):=
 ⟨h.os,h.tape,h.output,by simpa using h.size,fun k hk hn hn2=>(Below.heap_setCell _ _ _ _ (by rw[ha];exact hn2)).trans (h.block k hk hn hn2)⟩
theorem cutH_offB {w w':World} {g:Nat} (h:OffB g w w'):OffB g w (cutH w' w.heap.size):=⟨h.os,h.tape,h.output,by rw[cutH_size h.size];exact Nat.le_refl _,fun k hk hn hn2=>(cutH_block h.size hk).trans (h.block k hk hn hn2)⟩
def brX (D k:Nat):Prop:=k=D+1
theorem NO.off {w w':World} {B D:Nat} {e:TypeId} {v:Value} {rows:List NRow} (h:NO w B D (brX D) e v rows) (hB:D+2<=B) (ho:OffB D w w'):NO w' B D (brX D) e v rows:=
 h.keep ⟨ho.os,ho.tape,ho.output,ho.size,fun k hk hn=>ho.block k hk (fun e=>hn (.inl e)) (fun e=>hn (.inr (.inr e)))⟩ (fun g hg=>by
  have:=h.base g hg
  exact ho.block g this.2 (by omega) (by omega)) (NxtX.refl _ _)
theorem nodeCells_set:∀(rows:List NRow) (k:Nat) (r r':NRow),rows[k]? = some r->r'.1=r.1->nodeCells (rows.set k r')=(nodeCells rows).set (k*8+7) (.slice r'.2.1 r'.1.ins.length r'.2.2):=by
 intro rows k r r' hk e
 have h1:=flat_set (k:=8) (rows.map encN) k (encN r) (fun x hx=>by obtain⟨y,_,rfl⟩:=List.mem_map.1 hx;rfl) (by rw[List.getElem?_map,hk];rfl) 7 (.slice r'.2.1 r'.1.ins.length r'.2.2) (by omega)
 unfold nodeCells
 rw[h1,List.map_set]
 congr 2
 unfold encN
 rw[e]
 rfl
theorem NO.setIn {w:World} {B D:Nat} {Z:Nat->Prop} {e:TypeId} {g n cap:Nat} {rows:List NRow} (h:NO w B D Z e (.slice (some ⟨g,0,none⟩) n cap) rows) {k:Nat} {r r':NRow} (hk:rows[k]? = some r) (hn:r'.1=r.1) (hr:POff w D (some g) Z r'.2.1 r'.2.2 r'.1.ins) :
 NO (w.setCell ⟨g,k*8+7,none⟩ (.slice r'.2.1 r'.1.ins.length r'.2.2)) B D Z e (.slice (some ⟨g,0,none⟩) n cap) (rows.set k r'):=by
 have hkl:k<rows.length:=(gSm hk).1
 have hnn:n=rows.length:=by
  rcases h.own.2 with ⟨h2,_⟩ | ⟨_,_,_,h2,_⟩
  . cases h2
  . injection h2
 subst hnn
 have hK:Kept D (some g) Z w (w.setCell ⟨g,k*8+7,none⟩ (.slice r'.2.1 r'.1.ins.length r'.2.2)):=⟨rfl,rfl,rfl,by simp,fun q _ hq=>Below.heap_setCell _ _ _ _ (fun e=>hq (.inr (.inl (by rw[e]))))⟩
 refine⟨?_,fun x hx=>?_,h.off⟩
 . rw[List.length_set,nodeCells_set rows k r r' hk hn]
   exact owns_set h.own _ (by omega) _
 . rcases List.mem_or_eq_of_mem_set hx with hx | rfl
   . exact (h.good x hx).keep hK (Nxt.refl _ _) (NxtX.refl _ _)
   . exact hr.keep hK (Nxt.refl _ _) (NxtX.refl _ _)
theorem nodeCells_one (rows:List NRow):∀u∈nodeCells rows,u.oneCell'=true:=by
 intro u hu
 unfold nodeCells at hu
 rw[List.mem_flatten] at hu
 obtain⟨l,hl,hu⟩:=hu
 obtain⟨r,_,rfl⟩:=List.mem_map.1 hl
 exact encN_one r u hu
theorem rows_ofN {w:World} {ao:Option Addr} {n cap:Nat} {ns:List SNode} (h:RNodes w (.slice ao n cap) ns):∃rows:List NRow,rows.map (·.1)=ns/\(∀a,ao=some a -> ∀j u,(nodeCells rows)[j]? = some u->w.cell? (a.add j)=some u)/\(∀r∈rows,RPorts w (.slice r.2.1 r.1.ins.length r.2.2) r.1.ins)/\(ao=none->n=0):=by
 obtain⟨ao',cap',e,h2,h3,h4⟩:=h
 injection e with e1 e2 e3
 subst e1 e2
 by_cases h0:ns.length=0
 . have:ns=[]:=List.length_eq_zero_iff.1 h0
   subst this
   exact⟨[],rfl,fun a _ j u hu=>by simp[nodeCells] at hu,fun r hr=>(by cases hr),fun _=>rfl⟩
 .
  obtain⟨b,off,hao,hc⟩:=h4 h0
  obtain⟨ys,hl,hy⟩:=slots_choose (P:=fun j x (y:Option Addr × Nat)=>NodeAt w b (off+j*8) x y.1 y.2/\RPorts w (.slice y.1 x.ins.length y.2) x.ins) (fun j x hx=>by
   obtain⟨ai,ci,a1,a2⟩:=hc j x hx
   exact⟨(ai,ci),a1,a2⟩)
  have hzl:(ns.zip ys).length=ns.length:=by rw[List.length_zip];omega
  have hz:∀(j:Nat) (r:NRow),(ns.zip ys)[j]? = some r->NodeAt w b (off+j*8) r.1 r.2.1 r.2.2/\RPorts w (.slice r.2.1 r.1.ins.length r.2.2) r.1.ins:=by
   intro j r hr
   rw[List.getElem?_zip_eq_some] at hr
   exact hy j r.1 r.2 hr.1 hr.2
  refine⟨ns.zip ys,by rw[List.map_fst_zip (by omega)],fun a ha j u hu=>?_,fun r hr=>?_,fun h=>by rw[hao] at h;cases h⟩
  .
   rw[hao] at ha
   injection ha with ha
   subst ha
   rw[addP]
   have hjl:j<(nodeCells (ns.zip ys)).length:=(gSm hu).1
   rw[nodeCells_length,hzl] at hjl
   obtain⟨r,hr⟩:∃r,(ns.zip ys)[j / 8]? = some r:=⟨_,gEl (by rw[hzl];omega)⟩
   have hj8:j=j / 8*8+j % 8:=by omega
   have hm:j % 8<8:=by omega
   rw[hj8,nodeCells_at _ _ r hr _ hm] at hu
   obtain⟨c0,c1,c2,c3,c4,c5,c6,c7⟩:=(hz _ r hr).1
   have hoff:off+j=off+j / 8*8+j % 8:=by omega
   rw[hoff]
   generalize j % 8=m at *
   generalize j / 8=q at *
   have:m=0\/m=1\/m=2\/m=3\/m=4\/m=5\/m=6\/m=7:=by omega
   rcases this with rfl | rfl | rfl | rfl | rfl | rfl | rfl | rfl
   all_goals
    simp[encN] at hu
    subst hu
    assumption
  . obtain⟨j,hj⟩:=List.getElem?_of_mem hr
    exact (hz j r hj).2
structure FO2 (w:World) (B D:Nat) (v:Value) (rows:List FRow):Prop where
 fo:FO w B 83 v rows
 lo:D+2<=B
 good:∀r∈rows,r.1.b.length≠0 -> ∀a,r.2.1=some a->a.block≠D/\a.block≠D+1
theorem reads_lt {w:World} {a:Addr} {n cap:Nat} {bs:List UInt8} (h:Reads w (.slice (some a) n cap) bs.length (bs.map U)) (h0:bs.length≠0):a.block<w.heap.size:=by
 obtain⟨h1,ao,cap,e,h2,h3,h4⟩:=h
 obtain⟨b,off,e2,hc⟩:=h4 h0
 injection e with e1 _ _
 rw[<- e1] at e2
 injection e2 with e2
 subst e2
 have hl:0<(bs.map U).length:=by rw[List.length_map];omega
 exact bLt w _ (hc 0 _ (gEl hl))
theorem FO2.off' {w w':World} {B D:Nat} {v:Value} {rows:List FRow} (h:FO2 w B D v rows) (ho:OffB D w w'):FO2 w' B D v rows:=by
 refine⟨⟨?_,fun r hr=>?_⟩,h.lo,h.good⟩
 . exact ownsRow_keep h.fo.own (fun g hg=>by
    have h1:=h.fo.own.lt g hg
    have h2:=h.lo
    exact ho.block g h1.2 (by omega) (by omega))
 .
  obtain⟨g1,g2,g3⟩:=h.fo.good r hr
  refine⟨g1,?_,g3⟩
  by_cases h0:r.1.b.length=0
  . obtain⟨h1,ao,cap,e,h2,h3,h4⟩:=g2
    exact⟨h1,ao,cap,e,h2,h3,fun hn=>absurd h0 hn⟩
  . refine reads_keepO g2 (fun a ha=>ho.block _ ?_ (h.good r hr h0 a ha).1 (h.good r hr h0 a ha).2)
    rw[ha] at g2
    exact reads_lt g2 h0
theorem rows_ofF {w:World} {ao:Option Addr} {n cap:Nat} {fs:List SFile} (h:RFiles w (.slice ao n cap) fs):∃rows:List FRow,rows.map (·.1)=fs/\(∀a,ao=some a -> ∀j u,(rowCells rows)[j]? = some u->w.cell? (a.add j)=some u)/\(∀r∈rows,r.2.2.1=r.1.b.length/\Reads w (.slice r.2.1 r.2.2.1 r.2.2.2) r.1.b.length (r.1.b.map U))/\(ao=none->n=0):=by
 obtain⟨ao',cap',e,h2,h3,h4⟩:=h
 injection e with e1 e2 e3
 subst e1 e2
 by_cases h0:fs.length=0
 . have:fs=[]:=List.length_eq_zero_iff.1 h0
   subst this
   exact⟨[],rfl,fun a _ j u hu=>by simp[rowCells] at hu,fun r hr=>(by cases hr),fun _=>rfl⟩
 .
  obtain⟨b,off,hao,hc⟩:=h4 h0
  obtain⟨ys,hl,hy⟩:=slots_choose (P:=fun j (x:SFile) (y:Option Addr × Nat × Nat)=>w.cell? ⟨b,off+j*2,none⟩=some (.string ⟨x.name.toArray⟩)/\w.cell? ⟨b,off+j*2+1,none⟩=some (.slice y.1 y.2.1 y.2.2)/\y.2.1=x.b.length/\Reads w (.slice y.1 y.2.1 y.2.2) x.b.length (x.b.map U)) (fun j x hx=>by
   obtain⟨u,a1,a2,a3⟩:=hc j x hx
   obtain⟨q1,aa,cc,e,q2⟩:=id a3
   subst e
   exact⟨(aa,x.b.length,cc),a1,a2,rfl,a3⟩)
  have hzl:(fs.zip ys).length=fs.length:=by rw[List.length_zip];omega
  have hz:∀(j:Nat) (r:FRow),(fs.zip ys)[j]? = some r->w.cell? ⟨b,off+j*2,none⟩=some (.string ⟨r.1.name.toArray⟩)/\w.cell? ⟨b,off+j*2+1,none⟩=some (.slice r.2.1 r.2.2.1 r.2.2.2)/\r.2.2.1=r.1.b.length/\Reads w (.slice r.2.1 r.2.2.1 r.2.2.2) r.1.b.length (r.1.b.map U):=by
   intro j r hr
   rw[List.getElem?_zip_eq_some] at hr
   exact hy j r.1 r.2 hr.1 hr.2
  refine⟨fs.zip ys,by rw[List.map_fst_zip (by omega)],fun a ha j u hu=>?_,fun r hr=>?_,fun h=>by rw[hao] at h;cases h⟩
  . rw[hao] at ha
    injection ha with ha
    subst ha
    rw[addP]
    exact rows_cells (b:=b) (off:=off) (rows:=fs.zip ys) (fun j r hr=>⟨(hz j r hr).1,(hz j r hr).2.1⟩) j u hu
  . obtain⟨j,hj⟩:=List.getElem?_of_mem hr
    exact (hz j r hj).2.2
def OLo (O:Nat->Option Own) (D:Nat) (w:World):Prop:=∀g o,O g=some o->D<=g/\g<w.heap.size
theorem OLo.add {O:Nat->Option Own} {D:Nat} {w w':World} (h:OLo O D w) (hb:Below w.heap.size w w') (hD:D<=w.heap.size) (o:Own):OLo (addO O w w' o) D w':=by
 intro g o' hg
 have:=hb.size
 unfold addO at hg
 split at hg
 . omega
 . have:=h g o' hg
   omega
theorem OLo.set {O:Nat->Option Own} {D:Nat} {w:World} (h:OLo O D w) (a:Addr) (v:Value):OLo O D (w.setCell a v):=fun g o hg=>by
 have:=h g o hg
 rw[show (w.setCell a v).heap.size=w.heap.size by simp]
 exact this
theorem addO_old {O:Nat->Option Own} {w w':World} {o:Own} {k:Nat} (h:k<w.heap.size):addO O w w' o k=O k:=by unfold addO;rw[if_neg (by omega)]
theorem ROf.of_sof {w:World} {O:Nat->Option Own} {o:Own} {s:Sl} {b:List UInt8} (h:SOf w O o s b):ROf w O o s b:=by
 refine⟨h.reads,fun h0=>?_,fun _ a ha=>?_⟩
 . rcases h with ⟨rfl,_⟩ | ⟨g,off,cur,hs,_⟩
   . rfl
   . rw[h0] at hs;cases hs
 .
  rcases h with ⟨rfl,_⟩ | ⟨g,off,cur,hs,ho,_⟩
  . cases ha
  . rw[hs] at ha
    injection ha with ha
    subst ha
    exact ho
structure PT (w wr:World) (D:Nat) (v:Value) (xs:List SPipe) (k:Nat) (X:List Sl) (O:Nat->Option Own):Prop where
 own:wr.ownsRow D 66 4 v xs.length (pipeRows xs X).flatten
 ob:OwnedBy O v .pipes
 len:X.length=xs.length
 bys:∀(q:Nat) (x:SPipe) (s:Sl),q<k->xs[q]? = some x->X[q]? = some s->ROf wr O (.pipe q) s x.b
 rest:∀(q:Nat) (x:SPipe) (s:Sl),k<=q->xs[q]? = some x->X[q]? = some s->Reads w (sl x.b s) x.b.length (x.b.map U)
theorem PT.keep {w wr w':World} {D:Nat} {v:Value} {xs:List SPipe} {k:Nat} {X:List Sl} {O O':Nat->Option Own} (h:PT w wr D v xs k X O) (hk:∀g o,O g=some o->(o=.pipes \/ ∃q,o=.pipe q)->w'.heap[g]? = wr.heap[g]?) (hO:∀g o,O g=some o->O' g=O g):PT w w' D v xs k X O':=
 ⟨ownsRow_keep h.own (fun g hg=>hk g _ (h.ob g hg) (.inl rfl)),fun g hg=>(hO g _ (h.ob g hg)).trans (h.ob g hg),h.len,fun q x s hq hx hs=>(h.bys q x s hq hx hs).keep (fun g hg=>hk g _ hg (.inr ⟨q,rfl⟩)) hO,h.rest⟩
theorem PT.step {w wr w2:World} {D g c N:Nat} {xs:List SPipe} {k:Nat} {X:List Sl} {O:Nat->Option Own} (hN:N=xs.length) (h:PT w wr D (.slice (some ⟨g,0,none⟩) N c) xs k X O) (hlo:OLo O D wr) (hD:D<=wr.heap.size) {x:SPipe} (hx:xs[k]? = some x) (hle:Below wr.heap.size wr w2)
 {v2:Value} (ho:w2.ownsRow wr.heap.size 5 1 v2 x.b.length (x.b.map U)) :
 ∃s2,PT w (w2.setCell ⟨g,k*4,none⟩ v2) D (.slice (some ⟨g,0,none⟩) N c) xs (k+1) (X.set k s2) (addO O wr w2 (.pipe k))/\OLo (addO O wr w2 (.pipe k)) D (w2.setCell ⟨g,k*4,none⟩ v2):=by
 subst hN
 have hgo:O g=some .pipes:=h.ob g rfl
 have hgl:=hlo g _ hgo
 have hb2:∀g',v2.ownBlock=some g'->addO O wr w2 (.pipe k) g'=some (.pipe k):=fun g' hg'=>by
  have:=ho.lt g' hg'
  unfold addO
  rw[if_pos ⟨this.1,this.2⟩]
 obtain⟨s2,e2,hso,_⟩:=SOf.of_owns ho hb2
 subst e2
 have hkl:k<xs.length:=(gSm hx).1
 have hg2:addO O wr w2 (.pipe k) g=some .pipes:=(addO_old hgl.2).trans hgo
 have h1:PT w w2 D (.slice (some ⟨g,0,none⟩) xs.length c) xs k X (addO O wr w2 (.pipe k)):=h.keep (fun g' o hg' _=>hle.block g' (hlo g' o hg').2) (fun g' o hg'=>addO_old (hlo g' o hg').2)
 obtain⟨s,hs⟩:∃s,X[k]? = some s:=⟨_,gEl (by rw[h.len];exact hkl)⟩
 have hk':∀q k',addO O wr w2 (.pipe k) k'=some (.pipe q)->(w2.setCell ⟨g,k*4,none⟩ (sl x.b s2)).heap[k']? = w2.heap[k']?:=fun q k' hk'=>Below.heap_setCell _ _ _ _ (fun e=>by
  subst e
  rw[hg2] at hk'
  cases hk')
 refine⟨s2,⟨?_,fun g' hg'=>?_,by simpa using h.len,fun q x' s' hq hx' hs'=>?_,fun q x' s' hq hx' hs'=>?_⟩,(hlo.add hle hD _).set _ _⟩
 .
  have hrow:(pipeRows xs X)[k]? = some (pipeRow x s):=zip_at hx hs
  have h2:=owns_set h1.own (k*4) (by omega) (sl x.b s2)
  have f0:=flat_set _ k _ (pipeRows_len xs X) hrow 0 (sl x.b s2) (by omega)
  rw[Nat.add_zero] at f0
  have e1:(pipeRow x s).set 0 (sl x.b s2)=pipeRow x s2:=rfl
  rw[f0,e1] at h2
  unfold pipeRows at h2
  rw[zip_set,set_same hx] at h2
  exact h2
 . have e1:g=g':=by injection hg'
   subst e1
   exact hg2
 .
  by_cases e:q=k
  .
   subst e
   rw[hx] at hx'
   injection hx' with hx'
   subst hx'
   rw[set_eq hs] at hs'
   injection hs' with hs'
   subst hs'
   exact ROf.of_sof (hso.keep (hk' q) (fun _ _=>rfl))
  . rw[set_ne (fun e2=>e e2.symm)] at hs'
    exact (h1.bys q x' s' (by omega) hx' hs').keep (hk' q) (fun _ _ _=>rfl)
 . rw[set_ne (fun e2=>by omega)] at hs'
   exact h.rest q x' s' (by omega) hx' hs'
theorem pipes_slots {w:World} {ao:Option Addr} {n cap:Nat} {xs:List SPipe} (h:RPipes w (.slice ao n cap) xs):∃X:List Sl,X.length=xs.length/\(∀a,ao=some a -> ∀j u,(pipeRows xs X).flatten[j]? = some u->w.cell? (a.add j)=some u)/\(∀(q:Nat) (x:SPipe) (s:Sl),xs[q]? = some x->X[q]? = some s->Reads w (sl x.b s) x.b.length (x.b.map U))/\(ao=none->n=0):=by
 obtain⟨ao',cap',e,h2,h3,h4⟩:=h
 injection e with e1 e2 e3
 subst e1 e2
 by_cases h0:xs.length=0
 . have:xs=[]:=List.length_eq_zero_iff.1 h0
   subst this
   exact⟨[],rfl,fun a _ j u hu=>by simp[pipeRows] at hu,fun q x s hx=>by simp at hx,fun _=>rfl⟩
 .
  obtain⟨b,off,hao,hc⟩:=h4 h0
  obtain⟨X,hl,hy⟩:=slots_choose (P:=fun j (x:SPipe) (s:Sl)=>w.cell? ⟨b,off+j*4,none⟩=some (sl x.b s)/\w.cell? ⟨b,off+j*4+1,none⟩=some (.int .i64 x.room)/\w.cell? ⟨b,off+j*4+2,none⟩=some (.bool x.closed)/\w.cell? ⟨b,off+j*4+3,none⟩=some (.bool x.shut)/\Reads w (sl x.b s) x.b.length (x.b.map U)) (fun j x hx=>by
   obtain⟨ab,cb,a0,a1,a2,a3,a4⟩:=hc j x hx
   exact⟨(ab,cb),a0,a1,a2,a3,a4⟩)
  refine⟨X,hl,fun a ha j u hu=>?_,fun q x s hx hs=>(hy q x s hx hs).2.2.2.2,fun h=>by rw[hao] at h;cases h⟩
  rw[hao] at ha
  injection ha with ha
  subst ha
  rw[addP]
  have hjl:j<(pipeRows xs X).flatten.length:=(gSm hu).1
  rw[flat_len _ (pipeRows_len xs X)] at hjl
  have hrl:(pipeRows xs X).length=xs.length:=by unfold pipeRows;rw[List.length_zipWith];omega
  rw[hrl] at hjl
  obtain⟨x,hx⟩:∃x,xs[j / 4]? = some x:=⟨_,gEl (by omega)⟩
  obtain⟨s,hs⟩:∃s,X[j / 4]? = some s:=⟨_,gEl (by omega)⟩
  have hj4:j=j / 4*4+j % 4:=by omega
  have hm:j % 4<4:=by omega
  have hrow:(pipeRows xs X)[j / 4]? = some (pipeRow x s):=zip_at hx hs
  rw[hj4,flat_at _ _ _ (pipeRows_len xs X) hrow _ hm] at hu
  obtain⟨c0,c1,c2,c3,_⟩:=hy _ x s hx hs
  have hoff:off+j=off+j / 4*4+j % 4:=by omega
  rw[hoff]
  generalize j % 4=m at *
  generalize j / 4=q at *
  have:m=0\/m=1\/m=2\/m=3:=by omega
  rcases this with rfl | rfl | rfl | rfl
  all_goals
   simp[pipeRow] at hu
   subst hu
   assumption
theorem pipeRows_one (xs:List SPipe) (X:List Sl):∀u∈(pipeRows xs X).flatten,u.oneCell'=true:=by
 intro u hu
 rw[List.mem_flatten] at hu
 obtain⟨l,hl,hu⟩:=hu
 obtain⟨j,hj⟩:=List.getElem?_of_mem hl
 unfold pipeRows at hj
 obtain⟨x,s,_,_,rfl⟩:=List.getElem?_zipWith_eq_some.1 hj
 unfold pipeRow at hu
 simp at hu
 rcases hu with rfl | rfl | rfl | rfl <;> rfl
theorem SOf.lift {w:World} {O O':Nat->Option Own} {o:Own} {s:Sl} {b:List UInt8} (h:SOf w O o s b) (hO:∀k o,O k=some o->O' k=some o):SOf w O' o s b:=by
 rcases h with h | ⟨g,off,cur,hs,ho,h1⟩
 . exact .inl h
 . exact .inr ⟨g,off,cur,hs,hO g o ho,h1⟩
theorem SOf.move {w w':World} {O:Nat->Option Own} {o:Own} {s:Sl} {b:List UInt8} (h:SOf w O o s b) (hk:∀k,O k=some o->w'.heap[k]? = w.heap[k]?):SOf w' O o s b:=h.keep hk (fun _ _=>rfl)
theorem CL.keep {w w':World} {B:Nat} {O O':Nat->Option Own} {ro:Own} {bo:Nat->Own} {v:Value} {ss:List Sl} {l:List (List UInt8)} (h:CL w B O ro bo v ss l) (hk:∀g o,O g=some o->(o=ro \/ ∃j,o=bo j)->w'.heap[g]? = w.heap[g]?) (hO:∀g o,O g=some o->O' g=some o):CL w' B O' ro bo v ss l:=
 ⟨ownsRow_keep h.own (fun g hg=>hk g _ (h.ob g hg) (.inl rfl)),fun g hg=>hO g _ (h.ob g hg),h.len,fun j b s hb hs=>((h.bys j b s hb hs).move (fun g hg=>hk g _ hg (.inr ⟨j,rfl⟩))).lift hO⟩
theorem CL.lower {w:World} {B B':Nat} {O:Nat->Option Own} {ro:Own} {bo:Nat->Own} {v:Value} {ss:List Sl} {l:List (List UInt8)} (h:CL w B O ro bo v ss l) (hB:B'<=B):CL w B' O ro bo v ss l:=by
 refine⟨⟨h.own.1,?_⟩,h.ob,h.len,h.bys⟩
 rcases h.own.2 with h0 | ⟨g,cap,cur,e,hb,h1⟩
 . exact .inl h0
 . exact .inr ⟨g,cap,cur,e,by omega,h1⟩
structure QT (w wr:World) (D:Nat) (v:Value) (ps:List SProc) (k:Nat) (P:List PSlot) (O:Nat->Option Own):Prop where
 own:wr.ownsRow D 76 5 v ps.length (procRows ps P).flatten
 ob:OwnedBy O v .procs
 len:P.length=ps.length
 bys:∀(i:Nat) (p:SProc) (s:PSlot),i<k->ps[i]? = some p->P[i]? = some s->CL wr D O (.gots i) (Own.got i) s.gv s.gs p.got/\CL wr D O (.outs i) (Own.out i) s.ov s.os p.out
 rest:∀(i:Nat) (p:SProc) (s:PSlot),k<=i->ps[i]? = some p->P[i]? = some s->RList w s.gv U p.got/\RList w s.ov U p.out
theorem QT.keep {w wr w':World} {D:Nat} {v:Value} {ps:List SProc} {k:Nat} {P:List PSlot} {O O':Nat->Option Own} (h:QT w wr D v ps k P O) (hk:∀g o,O g=some o->w'.heap[g]? = wr.heap[g]?) (hO:∀g o,O g=some o->O' g=some o):QT w w' D v ps k P O':=
 ⟨ownsRow_keep h.own (fun g hg=>hk g _ (h.ob g hg)),fun g hg=>hO g _ (h.ob g hg),h.len,fun i p s hi hp hs=>⟨(h.bys i p s hi hp hs).1.keep (fun g o hg _=>hk g o hg) hO,(h.bys i p s hi hp hs).2.keep (fun g o hg _=>hk g o hg) hO⟩,h.rest⟩
theorem QT.step {w wr:World} {D g c N:Nat} {ps:List SProc} {k:Nat} {P:List PSlot} {O:Nat->Option Own} (hN:N=ps.length) (h:QT w wr D (.slice (some ⟨g,0,none⟩) N c) ps k P O) {p:SProc} (hp:ps[k]? = some p) {gv ov:Value} {gs os:List Sl}
 (h1:CL wr D O (.gots k) (Own.got k) gv gs p.got) (h2:CL wr D O (.outs k) (Own.out k) ov os p.out) :
 QT w ((wr.setCell ⟨g,k*5,none⟩ gv).setCell ⟨g,k*5+2,none⟩ ov) D (.slice (some ⟨g,0,none⟩) N c) ps (k+1) (P.set k ⟨gv,ov,gs,os⟩) O:=by
 subst hN
 have hgo:O g=some .procs:=h.ob g rfl
 have hkl:k<ps.length:=(gSm hp).1
 obtain⟨s,hs⟩:∃s,P[k]? = some s:=⟨_,gEl (by rw[h.len];exact hkl)⟩
 have hk':∀o k',o≠Own.procs->O k'=some o->((wr.setCell ⟨g,k*5,none⟩ gv).setCell ⟨g,k*5+2,none⟩ ov).heap[k']? = wr.heap[k']?:=fun o k' ho hk'=>by
  have hne:k'≠g:=fun e=>by
   subst e
   rw[hgo] at hk'
   injection hk' with hk'
   exact ho hk'.symm
  rw[Below.heap_setCell _ _ _ _ hne,Below.heap_setCell _ _ _ _ hne]
 have kc:∀{ro:Own} {bo:Nat->Own} {v:Value} {ss:List Sl} {l:List (List UInt8)},ro≠Own.procs->(∀j,bo j≠Own.procs)->CL wr D O ro bo v ss l->CL ((wr.setCell ⟨g,k*5,none⟩ gv).setCell ⟨g,k*5+2,none⟩ ov) D O ro bo v ss l:=fun hr hb hc=>hc.keep (fun g' o hg' hx=>hk' o g' (by rcases hx with rfl | ⟨j,rfl⟩;exact hr;exact hb j) hg') (fun _ _ h=>h)
 refine⟨?_,h.ob,by simpa using h.len,fun i p' s' hi hp' hs'=>?_,fun i p' s' hi hp' hs'=>?_⟩
 .
  have hrow:(procRows ps P)[k]? = some (procRow p s):=zip_at hp hs
  have k0:=owns_set h.own (k*5) (by omega) gv
  have k1:=owns_set k0 (k*5+2) (by omega) ov
  have f0:=flat_set _ k _ (procRows_len ps P) hrow 0 gv (by omega)
  rw[Nat.add_zero] at f0
  rw[f0] at k1
  have hl1:∀r∈(procRows ps P).set k ((procRow p s).set 0 gv),r.length=5:=fun r hr=>by
   rcases List.mem_or_eq_of_mem_set hr with h | h
   . exact procRows_len ps P r h
   . rw[h];rfl
  rw[flat_set _ k _ hl1 (set_eq hrow) 2 ov (by omega),List.set_set] at k1
  have e1:((procRow p s).set 0 gv).set 2 ov=procRow p ⟨gv,ov,gs,os⟩:=rfl
  rw[e1] at k1
  unfold procRows at k1
  rw[zip_set,set_same hp] at k1
  exact k1
 .
  by_cases e:i=k
  .
   subst e
   rw[hp] at hp'
   injection hp' with hp'
   subst hp'
   rw[set_eq hs] at hs'
   injection hs' with hs'
   subst hs'
   exact⟨kc (by simp) (by simp) h1,kc (by simp) (by simp) h2⟩
  . rw[set_ne (fun e2=>e e2.symm)] at hs'
    obtain⟨q1,q2⟩:=h.bys i p' s' (by omega) hp' hs'
    exact⟨kc (by simp) (by simp) q1,kc (by simp) (by simp) q2⟩
 . rw[set_ne (fun e2=>by omega)] at hs'
   exact h.rest i p' s' (by omega) hp' hs'
theorem procs_slots {w:World} {ao:Option Addr} {n cap:Nat} {ps:List SProc} (h:RProcs w (.slice ao n cap) ps):∃P:List PSlot,P.length=ps.length/\(∀a,ao=some a -> ∀j u,(procRows ps P).flatten[j]? = some u->w.cell? (a.add j)=some u)/\(∀(i:Nat) (p:SProc) (s:PSlot),ps[i]? = some p->P[i]? = some s->RList w s.gv U p.got/\RList w s.ov U p.out)/\(ao=none->n=0) /\ ∀u∈(procRows ps P).flatten,u.oneCell'=true:=by
 obtain⟨ao',cap',e,h2,h3,h4⟩:=h
 injection e with e1 e2 e3
 subst e1 e2
 by_cases h0:ps.length=0
 . have:ps=[]:=List.length_eq_zero_iff.1 h0
   subst this
   exact⟨[],rfl,fun a _ j u hu=>by simp[procRows] at hu,fun q x s hx=>by simp at hx,fun _=>rfl,fun u hu=>by simp[procRows] at hu⟩
 .
  obtain⟨b,off,hao,hc⟩:=h4 h0
  obtain⟨P,hl,hy⟩:=slots_choose (P:=fun j (p:SProc) (s:PSlot)=>(∃ag cg ab cb,s.gv=.slice ag p.got.length cg/\s.ov=.slice ab p.out.length cb)/\w.cell? ⟨b,off+j*5,none⟩=some s.gv/\w.cell? ⟨b,off+j*5+1,none⟩=some (.int .i64 p.pos)/\w.cell? ⟨b,off+j*5+2,none⟩=some s.ov/\w.cell? ⟨b,off+j*5+3,none⟩=some (.bool p.rd)/\w.cell? ⟨b,off+j*5+4,none⟩=some (.bool p.ov)/\RList w s.gv U p.got/\RList w s.ov U p.out) (fun j x hx=>by
   obtain⟨ag,cg,ab,cb,a0,a1,a2,a3,a4,a5,a6⟩:=hc j x hx
   exact⟨⟨.slice ag x.got.length cg,.slice ab x.out.length cb,[],[]⟩,⟨ag,cg,ab,cb,rfl,rfl⟩,a0,a1,a2,a3,a4,a5,a6⟩)
  refine⟨P,hl,fun a ha j u hu=>?_,fun q x s hx hs=>(hy q x s hx hs).2.2.2.2.2.2,fun h=>(by rw[hao] at h;cases h),fun u hu=>?_⟩
  .
   rw[hao] at ha
   injection ha with ha
   subst ha
   rw[addP]
   have hjl:j<(procRows ps P).flatten.length:=(gSm hu).1
   rw[flat_len _ (procRows_len ps P)] at hjl
   have hrl:(procRows ps P).length=ps.length:=by unfold procRows;rw[List.length_zipWith];omega
   rw[hrl] at hjl
   obtain⟨x,hx⟩:∃x,ps[j / 5]? = some x:=⟨_,gEl (by omega)⟩
   obtain⟨s,hs⟩:∃s,P[j / 5]? = some s:=⟨_,gEl (by omega)⟩
   have hj4:j=j / 5*5+j % 5:=by omega
   have hm:j % 5<5:=by omega
   have hrow:(procRows ps P)[j / 5]? = some (procRow x s):=zip_at hx hs
   rw[hj4,flat_at _ _ _ (procRows_len ps P) hrow _ hm] at hu
   obtain⟨_,c0,c1,c2,c3,c4,_⟩:=hy _ x s hx hs
   have hoff:off+j=off+j / 5*5+j % 5:=by omega
   rw[hoff]
   generalize j % 5=m at *
   generalize j / 5=q at *
   have:m=0\/m=1\/m=2\/m=3\/m=4:=by omega
   rcases this with rfl | rfl | rfl | rfl | rfl
   all_goals
    simp[procRow] at hu
    subst hu
    assumption
  .
   rw[List.mem_flatten] at hu
   obtain⟨l,hl2,hu⟩:=hu
   obtain⟨j,hj⟩:=List.getElem?_of_mem hl2
   unfold procRows at hj
   obtain⟨x,s,hx,hs,rfl⟩:=List.getElem?_zipWith_eq_some.1 hj
   obtain⟨⟨ag,cg,ab,cb,e1,e2⟩,_⟩:=hy j x s hx hs
   unfold procRow at hu
   simp at hu
   rcases hu with rfl | rfl | rfl | rfl | rfl
   . rw[e1];rfl
   . rfl
   . rw[e2];rfl
   . rfl
   . rfl
def joinO (O OL:Nat->Option Own) (w:World) (k:Nat):Option Own:=if k<w.heap.size then O k else OL k
theorem joinO_old {O OL:Nat->Option Own} {D:Nat} {w:World} (h:OLo O D w):∀k o,O k=some o->joinO O OL w k=some o:=fun k o hk=>by
 unfold joinO
 rw[if_pos (h k o hk).2]
 exact hk
theorem joinO_new {O OL:Nat->Option Own} {w w':World} (h:OLo OL w.heap.size w'):∀k o,OL k=some o->joinO O OL w k=some o:=fun k o hk=>by
 unfold joinO
 rw[if_neg (by have:=h k o hk;omega)]
 exact hk
theorem OLo.join {O OL:Nat->Option Own} {D:Nat} {w w':World} (h:OLo O D w) (h2:OLo OL w.heap.size w') (hD:D<=w.heap.size) (hs:w.heap.size<=w'.heap.size):OLo (joinO O OL w) D w':=by
 intro g o hg
 unfold joinO at hg
 split at hg
 . have:=h g o hg
   omega
 . have:=h2 g o hg
   omega
structure Raw (w:World) (D:Nat) (O:Nat->Option Own) (d:RD):Prop where
 lo:OLo O D w
 none:∀g,O g≠some .box/\O g≠some .aux
 base:∃w0:World,w0.heap.size=D/\Below D w0 w/\RNodes w0 d.vN d.M.ns/\RFiles w0 d.vF d.M.fs
 xlen:d.X.length=d.M.pipes.length
 plen:d.P.length=d.M.ps.length
 slen:∀(i:Nat) (p:SProc) (s:PSlot),d.M.ps[i]? = some p->d.P[i]? = some s->s.gs.length=p.got.length/\s.os.length=p.out.length
 part:∀o,o≠Own.box->o≠Own.aux->Part w D 0 O (fun _ _=>True) d o
theorem raw_of {w w2 wF:World} {D:Nat} {M:SMach} {vN vF vX vP:Value} {X:List Sl} {P:List PSlot} {sS:Sl} {O:Nat->Option Own} {bm B B':Nat} {rN:List NRow} {rF:List FRow}
 (hlo:OLo O D wF) (hno:∀g,O g≠some .box/\O g≠some .aux) (hD:w2.heap.size=D) (hoff:OffB bm w2 wF) (hBb:bm+2<=B) (hN:NO w2 B bm (brX bm) 73 vN rN) (hNe:rN.map (·.1)=M.ns) (hF:FO2 w2 B' bm vF rF) (hFe:rF.map (·.1)=M.fs)
 (hX:PT w wF D vX M.pipes M.pipes.length X O) (hP:QT w wF D vP M.ps M.ps.length P O) (hS:SOf wF O .sunk sS M.sunk) (vI vM:Value):Raw wF D O ⟨M,vN,vF,vX,vP,vI,vM,sS,X,P⟩:=by
 have hDs:D<=wF.heap.size:=by have:=hoff.size;omega
 have h0:=cutH_offB hoff
 rw[hD] at h0
 refine⟨hlo,hno,⟨cutH wF D,cutH_size hDs,cutH_below hDs,?_,?_⟩,hX.len,hP.len,fun i p s hp hs=>?_,fun o h1 h2=>?_⟩
 . have:=(NO.off hN hBb h0).nodes
   rw[hNe] at this
   exact this
 . have:=(hF.off' h0).fo.files
   rw[hFe] at this
   exact this
 . have:=hP.bys i p s (gSm hp).1 hp hs
   exact⟨this.1.len,this.2.len⟩
 .
  cases o using Own.elimE with
  | box=>exact absurd rfl h1
  | aux=>exact absurd rfl h2
  | pipes=>exact⟨hX.own,hX.ob⟩
  | procs=>exact⟨hP.own,hP.ob⟩
  | gots i=>exact fun p s hp hs=>⟨(hP.bys i p s (gSm hp).1 hp hs).1.own,(hP.bys i p s (gSm hp).1 hp hs).1.ob⟩
  | outs i=>exact fun p s hp hs=>⟨(hP.bys i p s (gSm hp).1 hp hs).2.own,(hP.bys i p s (gSm hp).1 hp hs).2.ob⟩
  | pipe q=>exact fun x s hx hs=>hX.bys q x s (gSm hx).1 hx hs
  | got i j=>exact fun p s b a hp hs hb ha=>(hP.bys i p s (gSm hp).1 hp hs).1.bys j b a hb ha
  | out i j=>exact fun p s b a hp hs hb ha=>(hP.bys i p s (gSm hp).1 hp hs).2.bys j b a hb ha
  | sunk=>exact hS
def portsC (ps:List (Int × Int)):List Value:=(ps.map (fun p=>[Value.int .i64 p.1,Value.int .i64 p.2])).flatten
theorem portsC_length (ps:List (Int × Int)):(portsC ps).length=ps.length*2:=by
 unfold portsC
 rw[flat_len (k:=2) _ (fun r hr=>by obtain⟨p,_,rfl⟩:=List.mem_map.1 hr;rfl),List.length_map]
theorem portsC_at (ps:List (Int × Int)) (j:Nat) (p:Int × Int) (h:ps[j]? = some p) (i:Nat) (hi:i<2):(portsC ps)[j*2+i]? = [Value.int .i64 p.1,Value.int .i64 p.2][i]?:=
 flat_at (k:=2) _ j _ (fun r hr=>by obtain⟨p,_,rfl⟩:=List.mem_map.1 hr;rfl) (by rw[List.getElem?_map,h];rfl) i hi
theorem clonePorts (ai:Option Addr) (ci:Nat) (ps:List (Int × Int)) (w:World) (h:RPorts w (.slice ai ps.length ci) ps) (hl:ps.length<=100000) :
 Calls Tryz.prog 123 #[.slice ai ps.length ci] w fun e w'=>∃a2 c2,e=.returned (.slice a2 ps.length c2)/\RPorts w' (.slice a2 ps.length c2) ps/\(∀a,a2=some a->w.heap.size<=a.block)/\Below w.heap.size w w':=by
 obtain⟨ao',cap',e,h2,h3,h4⟩:=h
 injection e with e1 e2 e3
 subst e1 e3
 refine (clonePort_is ai ps.length ci (portsC ps) w (portsC_length ps) hl (fun h0=>?_) (fun a ha j u hu=>?_) (fun u hu=>?_)).mono ?_
 .
  by_cases hn:ps.length=0
  . exact hn
  . obtain⟨b,off,e,_⟩:=h4 hn
    rw[h0] at e
    cases e
 .
  have hjl:j<(portsC ps).length:=(gSm hu).1
  rw[portsC_length] at hjl
  obtain⟨b,off,e,hc⟩:=h4 (by omega)
  rw[ha] at e
  injection e with e
  subst e
  rw[addP]
  obtain⟨p,hp⟩:∃p,ps[j / 2]? = some p:=⟨_,gEl (by omega)⟩
  have hj:j=j / 2*2+j % 2:=by omega
  rw[hj,portsC_at ps _ p hp _ (by omega)] at hu
  obtain⟨c0,c1⟩:=hc _ p hp
  have hoff:off+j=off+j / 2*2+j % 2:=by omega
  rw[hoff]
  have hm:j % 2<2:=by omega
  generalize j % 2=m at *
  generalize j / 2=q at *
  have:m=0\/m=1:=by omega
  rcases this with rfl | rfl
  all_goals
   simp at hu
   subst hu
   assumption
 .
  unfold portsC at hu
  rw[List.mem_flatten] at hu
  obtain⟨l,hl2,hu⟩:=hu
  obtain⟨p,_,rfl⟩:=List.mem_map.1 hl2
  simp at hu
  rcases hu with rfl | rfl <;> rfl
 .
  rintro e w' ⟨v',rfl,hown,hb⟩
  rcases id hown.2 with ⟨rfl,h0⟩ | ⟨g,cap,cur,rfl,hB,hg,q1,q2,q3,q4⟩
  . refine⟨none,0,by rw[h0],⟨none,0,by rw[h0],by omega,by simp[maxLen],fun hn=>absurd h0 hn⟩,fun a h=>(by cases h),hb⟩
  .
   refine⟨some ⟨g,0,none⟩,cap,rfl,⟨_,cap,rfl,q1,q2,fun hn=>⟨g,0,rfl,fun j p hp=>?_⟩⟩,fun a h=>(by injection h with h;subst h;exact hB),hb⟩
   have hjl:j<ps.length:=(gSm hp).1
   rw[Nat.zero_add]
   have c0:=hown.cellAt (j*2) (by omega)
   have c1:=hown.cellAt (j*2+1) (by omega)
   have d0:=portsC_at ps j p hp 0 (by omega)
   rw[Nat.add_zero] at d0
   rw[d0] at c0
   rw[portsC_at ps j p hp 1 (by omega)] at c1
   exact⟨c0,c1⟩
theorem cells5C {w:World} {k:Nat} {a b c d e:Value} {t:TypeId} (h:w.heap[k]? = some (.cells #[a,b,c,d,e] t (0,0))) :
 w.cell? ⟨k,0,none⟩=some a/\w.cell? ⟨k,1,none⟩=some b/\w.cell? ⟨k,2,none⟩=some c/\w.cell? ⟨k,3,none⟩=some d/\w.cell? ⟨k,4,none⟩=some e /\ ∀j,w.frozen? ⟨k,j,none⟩=false:=by
 refine⟨?_,?_,?_,?_,?_,fun j=>frozen_of_row _ _ _ _ _ h⟩
 all_goals
  rw[cell_of_row _ _ _ _ _ _ h]
  rfl
def BX (w:World) (bm:Nat) (a b c d e:Value):Prop:=w.heap[bm]? = some (.cells #[a,b,c,d,e] 30 (0,0))/\w.heap[bm+1]? = some (.cells #[.slice none 0 0,.slice none 0 0,.slice none 0 0,.slice none 0 0,.slice none 0 0] 30 (0,0))
theorem BX.keep {w w':World} {bm:Nat} {a b c d e:Value} (h:BX w bm a b c d e) (hk:∀k,k=bm\/k=bm+1->w'.heap[k]? = w.heap[k]?):BX w' bm a b c d e:=⟨(hk _ (.inl rfl)).trans h.1,(hk _ (.inr rfl)).trans h.2⟩
theorem BX.lt {w:World} {bm:Nat} {a b c d e:Value} (h:BX w bm a b c d e):bm+1<w.heap.size:=(aSm h.2).1
theorem BX.below {w w':World} {bm:Nat} {a b c d e:Value} (h:BX w bm a b c d e) (hb:Below w.heap.size w w'):BX w' bm a b c d e:=h.keep (fun k hk=>hb.block k (by have:=h.lt;omega))
theorem BX.other {w:World} {bm:Nat} {a b c d e:Value} (h:BX w bm a b c d e) {p:Addr} {v:Value} (hp:bm+1<p.block):BX (w.setCell p v) bm a b c d e:=h.keep (fun k hk=>Below.heap_setCell _ _ _ _ (by omega))
theorem BX.set {w:World} {bm:Nat} {cur:Array Value} {a b c d e:Value} {j:Nat} {v:Value} (h:w.heap[bm]? = some (.cells cur 30 (0,0))) (h2:w.heap[bm+1]? = some (.cells #[.slice none 0 0,.slice none 0 0,.slice none 0 0,.slice none 0 0,.slice none 0 0] 30 (0,0))) (hc:cur.setIfInBounds j v=#[a,b,c,d,e]):BX (w.setCell ⟨bm,j,none⟩ v) bm a b c d e:=by
 refine⟨?_,(Below.heap_setCell _ _ _ _ (by simp)).trans h2⟩
 rw[setCell_eq_setRow w bm j cur _ (0,0) v h,<- hc]
 exact setRow_heap w bm cur _ _ _ h
theorem set_fstF {rows:List FRow} {k:Nat} {r r':FRow} (h:rows[k]? = some r) (e:r'.1=r.1):(rows.set k r').map (·.1)=rows.map (·.1):=by
 rw[List.map_set,e]
 exact set_same (by rw[List.getElem?_map,h];rfl)
def NoBA (O:Nat->Option Own):Prop:=∀g,O g≠some .box/\O g≠some .aux
theorem NoBA.add {O:Nat->Option Own} (h:NoBA O) (w w':World) {o:Own} (h1:o≠Own.box) (h2:o≠Own.aux):NoBA (addO O w w' o):=by
 intro g
 unfold addO
 split
 . exact⟨fun e=>h1 (by injection e),fun e=>h2 (by injection e)⟩
 . exact h g
theorem NoBA.join {O OL:Nat->Option Own} (h:NoBA O) {ro:Own} {bo:Nat->Own} (hv:∀g o,OL g=some o->o=ro \/ ∃j,o=bo j) (h1:ro≠Own.box/\ro≠Own.aux) (h2:∀j,bo j≠Own.box/\bo j≠Own.aux) (w:World):NoBA (joinO O OL w):=by
 intro g
 unfold joinO
 split
 . exact h g
 .
  refine⟨fun e=>?_,fun e=>?_⟩
  . rcases hv g _ e with e1 | ⟨j,e1⟩
    . exact h1.1 e1.symm
    . exact (h2 j).1 e1.symm
  . rcases hv g _ e with e1 | ⟨j,e1⟩
    . exact h1.2 e1.symm
    . exact (h2 j).2 e1.symm
theorem results_cell1 {fn:Func} {p:Tmp} {ty:TypeId} (h:fn.results=#[.cell p ty]) (tmps:Array Value) (P:Program) (w:World) :
 (results fn tmps).run P w=((asAddr (tmps.getD p undef)).run P w).andThen fun a w₁=>(loadVar ty a).run P w₁:=by
 simp only[results,h]
 simp[Sem.run_bind,Result.andThen]
def rowO (v:Value) (o:Own) (O:Nat->Option Own) (k:Nat):Option Own:=if some k=v.ownBlock then some o else O k
theorem rowO_own (v:Value) (o:Own) (O:Nat->Option Own):OwnedBy (rowO v o O) v o:=fun g hg=>by unfold rowO;rw[if_pos hg.symm]
theorem rowO_lo {v:Value} {o:Own} {O:Nat->Option Own} {D:Nat} {w w':World} (h:OLo O D w) (hv:∀g,v.ownBlock=some g->D<=g/\g<w'.heap.size) (hs:w.heap.size<=w'.heap.size):OLo (rowO v o O) D w':=by
 intro g o' hg
 unfold rowO at hg
 split at hg
 . rename_i e
   exact hv g e.symm
 . have:=h g o' hg
   omega
theorem rowO_nob {v:Value} {o:Own} {O:Nat->Option Own} (h:NoBA O) (h1:o≠Own.box) (h2:o≠Own.aux):NoBA (rowO v o O):=by
 intro g
 unfold rowO
 split
 . exact⟨fun e=>h1 (by injection e),fun e=>h2 (by injection e)⟩
 . exact h g
theorem rowO_old {v:Value} {o:Own} {O:Nat->Option Own} {D:Nat} {w:World} (h:OLo O D w) (hv:∀g,v.ownBlock=some g->w.heap.size<=g):∀g o',O g=some o'->rowO v o O g=some o':=by
 intro g o' hg
 unfold rowO
 rw[if_neg]
 . exact hg
 . intro e
   have:=hv g e.symm
   have:=(h g o' hg).2
   omega
def noO (k:Nat):Option Own:=none
theorem noO_lo (D:Nat) (w:World):OLo noO D w:=fun g o hg=>by cases hg
theorem noO_nob:NoBA noO:=fun g=>⟨fun e=>(by cases e),fun e=>(by cases e)⟩
structure SmallC (M:SMach):Prop where
 ns:M.ns.length<=100000
 fs:M.fs.length<=100000
 xs:M.pipes.length<=100000
 ps:M.ps.length<=100000
 sunk:M.sunk.length<=100000
 ins:∀n∈M.ns,n.ins.length<=100000
 fb:∀f∈M.fs,f.b.length<=100000
 xb:∀x∈M.pipes,x.b.length<=100000
 pl:∀p∈M.ps,p.got.length<=100000/\p.out.length<=100000/\(∀b∈p.got,b.length<=100000) /\ ∀b∈p.out,b.length<=100000
theorem setFstN {rows:List NRow} {k:Nat} {r r':NRow} (h:rows[k]? = some r) (e:r'.1=r.1):(rows.set k r').map (·.1)=rows.map (·.1):=by
 rw[List.map_set,e]
 exact set_same (by rw[List.getElem?_map,h];rfl)
theorem owns_lower {w:World} {B B':Nat} {e:TypeId} {size n:Nat} {v:Value} {xs:List Value} (h:w.ownsRow B e size v n xs) (hB:B'<=B):w.ownsRow B' e size v n xs:=by
 refine⟨h.1,?_⟩
 rcases h.2 with h0 | ⟨g,cap,cur,e1,hb,h1⟩
 . exact .inl h0
 . exact .inr ⟨g,cap,cur,e1,by omega,h1⟩
theorem frozen_below {w w':World} {g j:Nat} (hb:Below w.heap.size w w') (hg:g<w.heap.size) (h:w.frozen? ⟨g,j,none⟩=false):w'.frozen? ⟨g,j,none⟩=false:=by
 have:=hb.block g hg
 simp only[World.frozen?] at h ⊢
 rw[this]
 exact h
theorem bclone_at {bm j1 j2 g off BL:Nat} {v1 v3:Value} {fa:Option Addr} {fc:Nat} {b:List UInt8} {wr:World} (hBL:BL=b.length) (hrd:Reads wr (.slice fa b.length fc) b.length (b.map U)) (hl:b.length<=100000) (x1:wr.cell? ⟨bm,j1,none⟩=some v1) (c1:wr.cell? ⟨g,off,none⟩=some v3) (f1:wr.frozen? ⟨g,off,none⟩=false) :
 ∀W,Below wr.heap.size wr W->W.cell? ⟨wr.heap.size,j2,none⟩=some (.slice fa BL fc)->Calls Tryz.prog 125 #[.slice fa BL fc] W fun e w'=>∃a2 c2,e=.returned (.slice a2 BL c2)/\w'.cell? ⟨bm,j1,none⟩=some v1/\w'.cell? ⟨wr.heap.size,j2,none⟩=some (.slice fa BL fc)/\w'.cell? ⟨g,off,none⟩=some v3/\w'.frozen? ⟨g,off,none⟩=false/\Hid (w'.ownsRow wr.heap.size 5 1 (.slice a2 BL c2) BL (b.map U)/\Below wr.heap.size wr w'):=by
 intro W hW h7
 subst hBL
 refine (bcloneE fa fc b W (hrd.below hW) hl).mono ?_
 rintro e w' ⟨v',rfl,hown,hb⟩
 obtain⟨⟨a2,c2,hv,_,_⟩,_⟩:=owns_formE hown
 subst hv
 have hB:=hW.trans (hb.mono hW.size)
 exact⟨a2,c2,rfl,(hB.cell (bLt wr _ x1)).trans x1,(hb.cell (bLt W _ h7)).trans h7,(hB.cell (bLt wr _ c1)).trans c1,frozen_below hB (bLt wr _ c1) f1,⟨owns_lower hown hW.size,hB⟩⟩
theorem cloned_at {bm j1 g o1 o2 GL:Nat} {v1 v3 v4 u1 u2:Value} {fa:Option Addr} {fc:Nat} {l:List (List UInt8)} {wr:World} (ro:Own) (bo:Nat->Own) (hne:∀j,bo j≠ro) (hGL:GL=l.length) (hrd:RList wr (.slice fa l.length fc) U l) (hn:l.length<=100000) (hl:∀b∈l,b.length<=100000) (x1:wr.cell? ⟨bm,j1,none⟩=some v1) (c1:wr.cell? ⟨g,o1,none⟩=some v3) (f1:wr.frozen? ⟨g,o1,none⟩=false) (c2:wr.cell? ⟨g,o2,none⟩=some v4) (f2:wr.frozen? ⟨g,o2,none⟩=false) :
 ∀W,Below wr.heap.size wr W->W.cell? ⟨wr.heap.size,0,none⟩=some u1->W.cell? ⟨wr.heap.size,2,none⟩=some u2->Calls Tryz.prog 128 #[.slice fa GL fc] W fun e w'=>∃a2 d2,e=.returned (.slice a2 GL d2)/\w'.cell? ⟨bm,j1,none⟩=some v1/\w'.cell? ⟨wr.heap.size,0,none⟩=some u1/\w'.cell? ⟨wr.heap.size,2,none⟩=some u2/\w'.cell? ⟨g,o1,none⟩=some v3/\w'.frozen? ⟨g,o1,none⟩=false/\w'.cell? ⟨g,o2,none⟩=some v4/\w'.frozen? ⟨g,o2,none⟩=false/\Hid (∃ss OL,CL w' wr.heap.size OL ro bo (.slice a2 GL d2) ss l/\OLo OL wr.heap.size w'/\OLo OL W.heap.size w' /\ ∀g o,OL g=some o->o=ro \/ ∃j,o=bo j)/\Hid (Below W.heap.size W w')/\Hid (Below wr.heap.size wr w'):=by
 intro W hW h0 h2
 subst hGL
 refine (clonedL_is ro bo hne fa fc l W (hrd.below hW) hn hl).mono ?_
 rintro e w' ⟨v',ss,OL,rfl,hc,hlo,hb⟩
 obtain⟨⟨a2,d2,hv,_,_⟩,_⟩:=owns_formE hc.own
 subst hv
 have hB:=hW.trans (hb.mono hW.size)
 exact⟨a2,d2,rfl,(hB.cell (bLt wr _ x1)).trans x1,(hb.cell (bLt W _ h0)).trans h0,(hb.cell (bLt W _ h2)).trans h2,(hB.cell (bLt wr _ c1)).trans c1,frozen_below hB (bLt wr _ c1) f1,(hB.cell (bLt wr _ c2)).trans c2,frozen_below hB (bLt wr _ c2) f2,(show ∃ss OL,_ from ⟨ss,OL,hc.lower hW.size,fun g o hg=>(by have:=hlo.1 g o hg;have:=hW.size;omega),hlo.1,hlo.2⟩),hb,hB⟩
theorem count_is (v:Value) (pss:List (List (List UInt8))) (w:World) (hp:RList w v S pss) (hn:pss.length<=1000) (hb:pss.flatten.length<=1000000000000000000) :
 Calls Tryz.prog 251 #[v] w fun e w'=>e=.returned (.int .i64 (pss.flatten.length:Int))/\w'=w:=by
 obtain⟨ao,cap,rfl,hc1,hc2⟩:=hp.shape
 have HP:Hid (RList w (.slice ao pss.length cap) S pss):=hp
 obtain⟨N,hN⟩:∃N,N=pss.length:=⟨_,rfl⟩
 have HN:Hid (N=pss.length):=hN
 have hN4:N<=1000:=by omega
 have HT:Hid (pss.flatten.length<=1000000000000000000):=hb
 rw[<- hN]
 clear hN hp hn hc1 hc2 hb
 go_enter Tryz.func251,Tryz.ntmps251
 go_wp2_with fail
 go_loopw [3,8] (fun s i wr=>∃k:Nat,∃m:Nat,k<=N/\m<=1000000000000000000/\i=.int .i64 k/\s=.int .i64 m/\wr=w/\Hid (m=((pss.take k).flatten).length))
  (fun _ i _=>N-(intOf i).toNat)
 case atStart=>exact⟨0,0,Nat.zero_le _,by omega,rfl,rfl,rfl,(show _=_ from by simp)⟩
 case round=>
  obtain⟨k,m,hk,hm,rfl,rfl,hw,hmk⟩:=hrel
  obtain rfl:w=wr:=hw.symm
  clear hw
  by_cases hlt:k<N
  .
   obtain⟨p,hpk⟩:∃p,pss[k]? = some p:=⟨_,gEl (by have:=HN.out;omega)⟩
   have hsum:m+p.length<=1000000000000000000:=by
    have h1:=flat_at_le hpk
    have h2:=hmk.out
    have h3:=HT.out
    omega
   have HS:Hid (m+p.length=((pss.take (k+1)).flatten).length):=(show _=_ from by rw[flat_step hpk,List.length_append,<- hmk.out])
   obtain⟨b,off,au,cu,rfl,hcell,_⟩:=HP.out.at hpk
   clear hpk hmk
   generalize p.length=pl at *
   go_wp2_with fail
   go_roundw
   case rel=>exact⟨k+1,m+pl,by omega,by omega,by go_num,by go_num,by simp,HS.out⟩
   case measure=>simp[intOf];omega
  .
   have hkN:k=N:=by omega
   have HD:Hid (m=pss.flatten.length):=(show _=_ from by
    have h:=hmk.out
    rw[hkN,HN.out,List.take_length] at h
    exact h)
   clear hmk
   go_wp2_with fail
   go_ret
   refine⟨?_,rfl⟩
   rw[<- HD.out]
   rfl
end Go.Proofs.YtllgglolcgdehaaGreatDoor
namespace Go.Gs
open Go.RowKit
set_option linter.unusedVariables false
def cnt (k:Int) (ns:List SNode):Nat:=ns.countP (fun n=>decide (n.kind=k))
theorem cnt_append (k:Int) (a b:List SNode):cnt k (a++b)=cnt k a+cnt k b:=by simp[cnt]
theorem cnt_one (k:Int) (n:SNode):cnt k [n]=if n.kind=k then 1 else 0:=by simp[cnt,List.countP_cons]
theorem cnt_le (k:Int) (ns:List SNode):cnt k ns<=ns.length:=List.countP_le_length
theorem cnt_src (k:Int):∀(fr:List (List UInt8)) (d:PD),cnt k (fr.foldl pSrc d).1=cnt k d.1+if k=1 then fr.length else 0
 | [],d=>by simp
 | f::r,d=>by
  rw[List.foldl_cons,cnt_src k r]
  simp only[pSrc,cnt_append,cnt_one,srcN,List.length_cons]
  by_cases h:k=1
  . subst h;simp;omega
  . have h':¬(1:Int)=k:=fun e=>h e.symm
    simp[h,h']
theorem cnt_behind {k:Int} (h:k≠4) (d:PD):cnt k (pBehind d).1=cnt k d.1:=by
 have h':¬(4:Int)=k:=fun e=>h e.symm
 unfold pBehind
 split
 . simp[pJoinAll,cnt_append,cnt_one,joinN,h']
 . rfl
theorem cnt_split {k:Int} {w:Nat} (h:k≠2\/w=1) (d:PD):cnt k (pSplit w d).1=cnt k d.1:=by
 unfold pSplit
 split
 .
  rename_i h1
  rcases h with h | h
  . have h':¬(2:Int)=k:=fun e=>h e.symm
    simp[cnt_append,cnt_one,splitN,h']
  . exact absurd h h1.2
 . rfl
theorem cnt_works (k:Int) (c:Cmd):∀(op:List (Int × Int)) (d:PD),cnt k (op.foldl (pWork c) d).1=cnt k d.1+if k=3 then op.length else 0
 | [],d=>by simp
 | f::r,d=>by
  rw[List.foldl_cons,cnt_works k c r]
  simp only[pWork,cnt_append,cnt_one,workN,List.length_cons]
  by_cases h:k=3
  . subst h;simp;omega
  . have h':¬(3:Int)=k:=fun e=>h e.symm
    simp[h,h']
theorem cnt_join {k:Int} (h:k≠4) (w:Nat) (c:Cmd) (d:PD):cnt k (pJoin w c d).1=cnt k d.1:=by
 have h':¬(4:Int)=k:=fun e=>h e.symm
 unfold pJoin
 split
 . rfl
 . simp[pJoinAll,cnt_append,cnt_one,joinN,h']
theorem cnt_cmd {k:Int} {w:Nat} (h4:k≠4) (h2:k≠2\/w=1) {d:PD} (hw:1<=w/\w<=5) (h:d.2.length=1\/d.2.length=w) (c:Cmd):cnt k (pCmd w d c).1=cnt k d.1+if k=3 then w else 0:=by
 obtain⟨a,_,_⟩:=pSplit_len hw h
 unfold pCmd pWorks
 rw[cnt_join h4,cnt_works,cnt_split h2,a]
theorem cnt_cmds {k:Int} {w:Nat} (h4:k≠4) (h2:k≠2\/w=1) (hw:1<=w/\w<=5):∀(cs:List Cmd) (d:PD),(d.2.length=1\/d.2.length=w)->cnt k (cs.foldl (pCmd w) d).1=cnt k d.1+if k=3 then w*cs.length else 0
 | [],d,h=>by simp
 | c::r,d,h=>by
  rw[List.foldl_cons,cnt_cmds h4 h2 hw r _ (pCmd_len hw h c).1,cnt_cmd h4 h2 hw h]
  by_cases h3:k=3
  . simp[h3,Nat.mul_add];omega
  . simp[h3]
theorem cnt_plan {l:SLine} {w:Nat} (hw:1<=w/\w<=5) (h:lchk l=0) {k:Int} (h4:k≠4) (h2:k≠2\/w=1):cnt k (plan l w)=(if k=1 then l.fr.length else 0)+(if k=3 then w*l.cs.length else 0)+(if k=5 then 1 else 0):=by
 have h0:¬(l.fr.length<1\/4<l.fr.length\/6<l.cs.length):=by
  intro h1;unfold lchk at h;rw[if_pos h1] at h;cases h
 obtain⟨a,_⟩:=pFrom_len (fr:=l.fr) (by omega) (by omega)
 unfold plan pSink
 rw[cnt_append,cnt_behind h4]
 unfold pDone
 rw[cnt_cmds h4 h2 hw _ _ (Or.inl a)]
 unfold pFrom
 rw[cnt_behind h4]
 unfold pStart
 rw[cnt_src,cnt_one]
 have e:cnt k ([]:List SNode)=0:=rfl
 simp only[sinkN,e]
 by_cases h5:k=5
 . subst h5;simp
 . have h':¬(5:Int)=k:=fun e=>h5 e.symm
   simp[h5,h']
end Go.Gs
